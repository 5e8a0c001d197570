import Derived.Test.YtbpdielmdhhdfaaGreatDoorMu10
import Derived.Test.YtbpdielmdhhdfaaGreatDoorMu09
import Derived.Test.YtbpdielmdhhdfaaGreatDoorMu05
import Derived.Defers
import Derived.Recover
import Derived.WalkKit
import Derived.LaidEql
import Derived.Stop.Asserts
import Derived.RowKitTokens
/- Package object: a person, written. -/
namespace Go.Proofs.YtbpdielmdhhdfaaGreatDoor
open Go.RowKit
set_option linter.unusedVariables false
set_option linter.unusedSimpArgs false
theorem enter95 (v1 v2 : Value) (w : World) : (callFunc 95 #[v1, v2]).run Tryz.prog w = .ok (.enter 95 #[v1, v2]) w := by kernel_rfl
theorem enter102 (v : Value) (w : World) : (callFunc 102 #[v]).run Tryz.prog w = .ok (.enter 102 #[v]) w := by kernel_rfl
theorem enter46 (v : Value) (w : World) : (callFunc 46 #[v]).run Tryz.prog w = .ok (.enter 46 #[v]) w := by kernel_rfl
/-- A person's box. -/
def BoxP (G : Nat) (N M : ByteArray) (tm zn : Int) (W : World) : Prop := W.cell? ⟨G, 0, none⟩ = some (.string N) ∧ W.cell? ⟨G, 1, none⟩ = some (.string M) ∧ W.cell? ⟨G, 2, none⟩ = some (.int .i64 tm) ∧ W.cell? ⟨G, 3, none⟩ = some (.int .i64 zn)
theorem BoxP.below {G : Nat} {N M : ByteArray} {tm zn : Int} {W W' : World} (h : BoxP G N M tm zn W) (hG : G < W.heap.size) (hb : Below W.heap.size W W') : BoxP G N M tm zn W' :=
  ⟨(hb.cell (p := ⟨G, 0, none⟩) hG).trans h.1, (hb.cell (p := ⟨G, 1, none⟩) hG).trans h.2.1, (hb.cell (p := ⟨G, 2, none⟩) hG).trans h.2.2.1, (hb.cell (p := ⟨G, 3, none⟩) hG).trans h.2.2.2⟩
/-- 3.3: a person, in bytes. -/
def perB (p : Per) : List UInt8 := p.name ++ 32 :: 60 :: (p.mail ++ 62 :: 32 :: (Lib.decDigits p.time.toNat ++ 32 :: zoneB p.zone))
theorem join_four (a b c d : List UInt8) : Lib.join [a, b, c, d] [32] = a ++ 32 :: (b ++ 32 :: (c ++ 32 :: d)) := by simp [Lib.join, List.intercalate]
theorem dig_len40 (n : Nat) (h : n ≤ 1099511627776) : (Lib.decDigits n).length ≤ 13 := dig_len 12 n (by omega)
set_option maxRecDepth 20000 in
set_option maxHeartbeats 1000000 in
theorem personText_any (p : Per) (hp : okP p) (w : World) (ht : Tab w) :
    Calls Tryz.prog 56 #[.agg (perV p)] w fun e w' => e = .returned (.string ⟨(perB p).toArray⟩) ∧ Below w.heap.size w w' := by
  obtain ⟨nm, ml, tm, zn⟩ := p
  obtain ⟨⟨n1, _⟩, ⟨m1, _⟩, ⟨t1, t2⟩, z1, z2⟩ := hp
  simp only at n1 m1 t1 t2 z1 z2
  obtain ⟨tn, rfl⟩ : ∃ tn : Nat, tm = (tn : Int) := ⟨tm.toNat, by omega⟩
  have htn : tn ≤ 1099511627776 := by omega
  obtain ⟨N, HNN⟩ : ∃ S : ByteArray, Hid (S = ⟨nm.toArray⟩) := ⟨_, rfl⟩
  obtain ⟨M, HMM⟩ : ∃ S : ByteArray, Hid (S = ⟨ml.toArray⟩) := ⟨_, rfl⟩
  obtain ⟨D, HDD⟩ : ∃ S : ByteArray, Hid (S = ⟨(Lib.decDigits tn).toArray⟩) := ⟨_, rfl⟩
  obtain ⟨Z, HZZ⟩ : ∃ S : ByteArray, Hid (S = ⟨(zoneB zn).toArray⟩) := ⟨_, rfl⟩
  have hNs : N.size ≤ 60 := by rw [HNN.out]; simpa [ByteArray.size] using n1
  have hMs : M.size ≤ 60 := by rw [HMM.out]; simpa [ByteArray.size] using m1
  have hDs : D.size ≤ 13 := by rw [HDD.out]; simpa [ByteArray.size] using dig_len40 tn htn
  have hZs : Z.size = 5 := by rw [HZZ.out]; simp [ByteArray.size, zoneB, two]
  obtain ⟨X1, HX1⟩ : ∃ X, Hid (N ++ (⟨#[32, 60]⟩ : ByteArray) = X) := ⟨_, rfl⟩
  obtain ⟨X2, HX2⟩ : ∃ X, Hid (X1 ++ M = X) := ⟨_, rfl⟩
  obtain ⟨X3, HX3⟩ : ∃ X, Hid (X2 ++ (⟨#[62, 32]⟩ : ByteArray) = X) := ⟨_, rfl⟩
  obtain ⟨X4, HX4⟩ : ∃ X, Hid (X3 ++ D = X) := ⟨_, rfl⟩
  obtain ⟨X5, HX5⟩ : ∃ X, Hid (X4 ++ (⟨#[32]⟩ : ByteArray) = X) := ⟨_, rfl⟩
  obtain ⟨X6, HX6⟩ : ∃ X, Hid (X5 ++ Z = X) := ⟨_, rfl⟩
  have hX1 : X1.size = N.size + 2 := by rw [← HX1.out, ByteArray.size_append]; rfl
  have hX2 : X2.size = X1.size + M.size := by rw [← HX2.out, ByteArray.size_append]
  have hX3 : X3.size = X2.size + 2 := by rw [← HX3.out, ByteArray.size_append]; rfl
  have hX4 : X4.size = X3.size + D.size := by rw [← HX4.out, ByteArray.size_append]
  have hX5 : X5.size = X4.size + 1 := by rw [← HX5.out, ByteArray.size_append]; rfl
  have HR : Hid ((⟨(perB ⟨nm, ml, tn, zn⟩).toArray⟩ : ByteArray) = X6) := hid (by
    rw [← HX6.out, ← HX5.out, ← HX4.out, ← HX3.out, ← HX2.out, ← HX1.out, HNN.out, HMM.out, HDD.out, HZZ.out, show (⟨#[32, 60]⟩ : ByteArray) = ⟨[32, 60].toArray⟩ from rfl, show (⟨#[62, 32]⟩ : ByteArray) = ⟨[62, 32].toArray⟩ from rfl, show (⟨#[32]⟩ : ByteArray) = ⟨[32].toArray⟩ from rfl, str_app, str_app, str_app, str_app, str_app, str_app]
    simp [perB])
  obtain ⟨G, HG⟩ : ∃ G, Hid (w.heap.size = G) := ⟨_, rfl⟩
  obtain ⟨w0, HW0⟩ : ∃ w0, Hid (w.alloc (.cells #[.string N, .string M, .int .i64 tn, .int .i64 zn] 58) = w0) := ⟨_, rfl⟩
  have HB0 : Hid (Below G w w0) := hid (by rw [← HW0.out, ← HG.out]; exact (Below.refl _ w).alloc (Nat.le_refl _) _)
  have hs0 : G < w0.heap.size := by rw [← HW0.out, ← HG.out]; simp
  have HX0 : Hid (BoxP G N M tn zn w0) := hid (by rw [← HW0.out, ← HG.out]; exact ⟨by simp, by simp, by simp, by simp⟩)
  have HTA : Hid (∀ W, Below G w W → Tab W) := fun W hW => ht.below (by rw [HG.out]; exact hW)
  have HF : Hid (∀ W, Below G w W → Calls Tryz.prog 95 #[.int .i64 tn, .int .i64 10] W fun e w' => e = .returned (.string D) ∧ Below W.heap.size W w') := fun W hW => by rw [HDD.out]; exact fmt_any tn htn W (HTA.out W hW)
  have HZ : Hid (∀ W, Calls Tryz.prog 102 #[.int .i64 zn] W fun e w' => e = .returned (.string Z) ∧ w' = W) := fun W => by rw [HZZ.out]; exact zoneText_any zn z1 z2 W
  rw [HR.out]
  unfold perV
  simp only
  rw [← HNN.out, ← HMM.out]
  go_enter Tryz.func56, Tryz.ntmps56
  go_wp2_with fail
  rw [HG.out, HW0.out]
  clear ht n1 m1
  refine wp_region_held_drew (S := BoxP G N M tn zn) (by kernel_rfl) (by exact HX0.out) (fun hHeld => ?_)
  refine takeL (i := 0) (v := ?_) rfl (by kernel_rfl) (by kernel_rfl) (by kernel_rfl) (fun _ _ _ h => h) (Or.inl ⟨by rfl, ?_⟩) hHeld ?_
  rotate_left
  · rintro w' ⟨c0, c1, c2, c3⟩; go_simp; rfl
  try simp only [Act.put, List.setIfInBounds_toArray, List.set_cons_zero, List.set_cons_succ]
  refine takeL (i := 1) (v := ?_) rfl (by kernel_rfl) (by kernel_rfl) (by kernel_rfl) (fun _ _ _ h => h) (Or.inl ⟨by rfl, ?_⟩) hHeld ?_
  rotate_left
  · rintro w' ⟨c0, c1, c2, c3⟩; go_simp; rfl
  try simp only [Act.put, List.setIfInBounds_toArray, List.set_cons_zero, List.set_cons_succ]
  refine takeL (i := 2) (v := .string X1) rfl (by kernel_rfl) (by kernel_rfl) (by kernel_rfl) (fun _ _ _ h => h) (Or.inl ⟨by rfl, ?_⟩) hHeld ?_
  · rintro w' ⟨c0, c1, c2, c3⟩; rw [← HX1.out]; go_simp; first | done | omega | rfl
  try simp only [Act.put, List.setIfInBounds_toArray, List.set_cons_zero, List.set_cons_succ]
  refine takeL (i := 3) (v := ?_) rfl (by kernel_rfl) (by kernel_rfl) (by kernel_rfl) (fun _ _ _ h => h) (Or.inl ⟨by rfl, ?_⟩) hHeld ?_
  rotate_left
  · rintro w' ⟨c0, c1, c2, c3⟩; go_simp; rfl
  try simp only [Act.put, List.setIfInBounds_toArray, List.set_cons_zero, List.set_cons_succ]
  refine takeL (i := 4) (v := ?_) rfl (by kernel_rfl) (by kernel_rfl) (by kernel_rfl) (fun _ _ _ h => h) (Or.inl ⟨by rfl, ?_⟩) hHeld ?_
  rotate_left
  · rintro w' ⟨c0, c1, c2, c3⟩; go_simp; rfl
  try simp only [Act.put, List.setIfInBounds_toArray, List.set_cons_zero, List.set_cons_succ]
  refine takeL (i := 5) (v := .string X2) rfl (by kernel_rfl) (by kernel_rfl) (by kernel_rfl) (fun _ _ _ h => h) (Or.inl ⟨by rfl, ?_⟩) hHeld ?_
  · rintro w' ⟨c0, c1, c2, c3⟩; rw [← HX2.out]; go_simp; first | done | omega | rfl
  try simp only [Act.put, List.setIfInBounds_toArray, List.set_cons_zero, List.set_cons_succ]
  refine takeL (i := 6) (v := .string X3) rfl (by kernel_rfl) (by kernel_rfl) (by kernel_rfl) (fun _ _ _ h => h) (Or.inl ⟨by rfl, ?_⟩) hHeld ?_
  · rintro w' ⟨c0, c1, c2, c3⟩; rw [← HX3.out]; go_simp; first | done | omega | rfl
  try simp only [Act.put, List.setIfInBounds_toArray, List.set_cons_zero, List.set_cons_succ]
  refine takeL (i := 7) (v := ?_) rfl (by kernel_rfl) (by kernel_rfl) (by kernel_rfl) (fun _ _ _ h => h) (Or.inl ⟨by rfl, ?_⟩) hHeld ?_
  rotate_left
  · rintro w' ⟨c0, c1, c2, c3⟩; go_simp; rfl
  try simp only [Act.put, List.setIfInBounds_toArray, List.set_cons_zero, List.set_cons_succ]
  refine takeL (i := 8) (v := ?_) rfl (by kernel_rfl) (by kernel_rfl) (by kernel_rfl) (fun _ _ _ h => h) (Or.inl ⟨by rfl, ?_⟩) hHeld ?_
  rotate_left
  · rintro w' ⟨c0, c1, c2, c3⟩; go_simp; rfl
  try simp only [Act.put, List.setIfInBounds_toArray, List.set_cons_zero, List.set_cons_succ]
  refine takeL (i := 12) (v := ?_) rfl (by kernel_rfl) (by kernel_rfl) (by kernel_rfl) (fun _ _ _ h => h) (Or.inl ⟨by rfl, ?_⟩) hHeld ?_
  rotate_left
  · rintro w' ⟨c0, c1, c2, c3⟩; go_simp; rfl
  try simp only [Act.put, List.setIfInBounds_toArray, List.set_cons_zero, List.set_cons_succ]
  refine takeL (i := 13) (v := ?_) rfl (by kernel_rfl) (by kernel_rfl) (by kernel_rfl) (fun _ _ _ h => h) (Or.inl ⟨by rfl, ?_⟩) hHeld ?_
  rotate_left
  · rintro w' ⟨c0, c1, c2, c3⟩; go_simp; rfl
  try simp only [Act.put, List.setIfInBounds_toArray, List.set_cons_zero, List.set_cons_succ]
  have HB0d : Hid (Below G w w0.drew) := hid ⟨HB0.out.os, HB0.out.tape, HB0.out.output, HB0.out.size, HB0.out.block⟩
  refine wpAnyH_ready (rs := [9]) (by kernel_rfl) (by simp) ?_
  refine consL rfl (fun KK hKK => ?_) AllReadyH.nil
  refine step_callv (by rfl) 95 [.tmp 11, .const (.int .i64 10)] _ [.int .i64 tn, .int .i64 10] _ (by rfl) (by rfl) (enter95 _ _) (HF.out _ HB0d.out) ?_
  rintro e w1 ⟨rfl, hb1⟩
  refine ⟨_, rfl, ?_⟩
  have hs1 : G < w1.heap.size := Nat.lt_of_lt_of_le hs0 hb1.size
  have HB1 : Hid (Below G w w1) := HB0d.out.trans (hb1.mono (Nat.le_of_lt hs0))
  refine hKK.out _ _ (BoxP.below (W := w0.drew) hHeld hs0 hb1) (fun hHeld => ?_)
  clear hKK KK hb1
  try simp only [Act.put, List.setIfInBounds_toArray, List.set_cons_zero, List.set_cons_succ]
  refine takeL (i := 10) (v := .string X4) rfl (by kernel_rfl) (by kernel_rfl) (by kernel_rfl) (fun _ _ _ h => h) (Or.inl ⟨by rfl, ?_⟩) hHeld ?_
  · rintro w' ⟨c0, c1, c2, c3⟩; rw [← HX4.out]; go_simp; first | done | omega | rfl
  try simp only [Act.put, List.setIfInBounds_toArray, List.set_cons_zero, List.set_cons_succ]
  refine takeL (i := 11) (v := .string X5) rfl (by kernel_rfl) (by kernel_rfl) (by kernel_rfl) (fun _ _ _ h => h) (Or.inl ⟨by rfl, ?_⟩) hHeld ?_
  · rintro w' ⟨c0, c1, c2, c3⟩; rw [← HX5.out]; go_simp; first | done | omega | rfl
  try simp only [Act.put, List.setIfInBounds_toArray, List.set_cons_zero, List.set_cons_succ]
  refine wpAnyH_ready (rs := [14]) (by kernel_rfl) (by simp) ?_
  refine consL rfl (fun KK hKK => ?_) AllReadyH.nil
  refine step_callv (by rfl) 102 [.tmp 16] _ [.int .i64 zn] _ (by rfl) (by rfl) (enter102 _) (HZ.out _) ?_
  rintro e w2 ⟨rfl, rfl⟩
  refine ⟨_, rfl, ?_⟩
  refine hKK.out _ _ hHeld (fun hHeld2 => ?_)
  clear hKK KK hHeld2
  try simp only [Act.put, List.setIfInBounds_toArray, List.set_cons_zero, List.set_cons_succ]
  refine takeL (i := 15) (v := .string X6) rfl (by kernel_rfl) (by kernel_rfl) (by kernel_rfl) (fun _ _ _ h => h) (Or.inl ⟨by rfl, ?_⟩) hHeld ?_
  · rintro w' ⟨c0, c1, c2, c3⟩; rw [← HX6.out]; go_simp; first | done | omega | rfl
  try simp only [Act.put, List.setIfInBounds_toArray, List.set_cons_zero, List.set_cons_succ]
  refine takeL (i := 16) (v := ?_) rfl (by kernel_rfl) (by kernel_rfl) (by kernel_rfl) (fun _ _ _ h => h) (Or.inl ⟨by rfl, ?_⟩) hHeld ?_
  rotate_left
  · rintro w' ⟨c0, c1, c2, c3⟩; go_simp; rfl
  try simp only [Act.put, List.setIfInBounds_toArray, List.set_cons_zero, List.set_cons_succ]
  refine wpAnyH_done (by kernel_rfl) ?_ _
  go_wp2
  go_ret
  exact ⟨rfl, by rw [HG.out]; exact HB1.out⟩
end Go.Proofs.YtbpdielmdhhdfaaGreatDoor
/- Package object: lines, letters; a tag's name. -/
namespace Go.Proofs.YtbpdielmdhhdfaaGreatDoor
open Go.RowKit
set_option linter.unusedVariables false
set_option linter.unusedSimpArgs false
/-- Their bytes. -/
def bl (xs : List ByteArray) : List (List UInt8) := xs.map fun x => x.data.toList
set_option maxRecDepth 20000 in
theorem line_any (bk o c : Nat) (xs : List ByteArray) (w : World) (hcells : ∀ (j : Nat) x, xs[j]? = some x → w.cell? ⟨bk, o + j, none⟩ = some (.string x)) (hbk : bk < w.heap.size) (hN : xs.length ≤ 1000) (hcap : xs.length ≤ c)
    (hlen : (Lib.join (bl xs) [32]).length ≤ 1000000) :
    Calls Tryz.prog 54 #[.slice (some ⟨bk, o, none⟩) xs.length c] w fun e w' => e = .returned (.string ⟨(Lib.join (bl xs) [32] ++ [10]).toArray⟩) ∧ Below w.heap.size w w' := by
  obtain ⟨n, HN⟩ : ∃ n, Hid (xs.length = n) := ⟨_, rfl⟩
  obtain ⟨S, HS⟩ : ∃ S : ByteArray, Hid (S = ⟨(Lib.join (bl xs) [32]).toArray⟩) := ⟨_, rfl⟩
  have HJ : Hid (Calls Tryz.prog 46 #[.slice (some ⟨bk, o, none⟩) n c] w fun e w' => e = .returned (.string S) ∧ Below w.heap.size w w') := hid (by
    rw [← HN.out, HS.out]
    exact words_any bk o c xs w hcells hbk hN hcap hlen)
  have hS : S.size ≤ 1000000 := by rw [HS.out]; simpa [ByteArray.size] using hlen
  have hS1 : ¬ 9223372036854775807 < S.size + 1 := by omega
  have hS2 : ¬ 9223372036854775807 ≤ S.size := by omega
  have h10 : (⟨#[10]⟩ : ByteArray).size = 1 := rfl
  have HE : Hid (S ++ ⟨#[10]⟩ = ⟨(Lib.join (bl xs) [32] ++ [10]).toArray⟩) := hid (by
    rw [HS.out, show (⟨#[10]⟩ : ByteArray) = ⟨[10].toArray⟩ from rfl]
    exact str_app _ _)
  rw [HN.out]
  clear hcells hlen
  go_enter Tryz.func54, Tryz.ntmps54
  go_wp2_with fail
  refine HJ.out.mono ?_
  rintro e w' ⟨rfl, hb⟩
  go_wp2
  go_ret
  exact ⟨(show _ = Ending.returned (.string (S ++ ⟨#[10]⟩)) from rfl).trans (by rw [HE.out]), hb⟩
set_option maxRecDepth 20000 in
theorem line_none (w : World) : Calls Tryz.prog 54 #[.slice none 0 0] w fun e w' => e = .returned (.string ⟨#[10]⟩) ∧ w' = w := by
  have HW : Hid (Calls Tryz.prog 46 #[.slice none 0 0] w fun e w' => e = .returned (.string ⟨#[]⟩) ∧ w' = w) := hid (by
    go_enter Tryz.func46, Tryz.ntmps46
    go_wp2_with fail
    refine (Tryz.strings_Join_none none 0 ⟨#[32]⟩ w).mono ?_
    rintro e w' ⟨rfl, rfl⟩
    go_wp2
    go_ret
    exact ⟨rfl, rfl⟩)
  have h10 : (⟨#[10]⟩ : ByteArray).size = 1 := rfl
  have h0 : (⟨#[]⟩ : ByteArray).size = 0 := rfl
  go_enter Tryz.func54, Tryz.ntmps54
  go_wp2_with fail
  refine HW.out.mono ?_
  rintro e w' ⟨rfl, rfl⟩
  go_wp2
  go_ret
  exact ⟨rfl, rfl⟩
/-- What 'letter' gives: bytes at the head of a new block. -/
def PostL (l : List UInt8) (w : World) (e : Ending) (w' : World) : Prop := Below w.heap.size w w' ∧ ∃ g cap : Nat, e = .returned (.slice (some ⟨g, 0, none⟩) l.length cap) ∧ w.heap.size ≤ g ∧ Mk w' g cap (nums l)
set_option maxRecDepth 20000 in
theorem letter_any (msg : List UInt8) (hm : msg.length ≤ 100000) (bk o c : Nat) (xs : List ByteArray) (w : World) (hcells : ∀ (j : Nat) x, xs[j]? = some x → w.cell? ⟨bk, o + j, none⟩ = some (.string x)) (hbk : bk < w.heap.size) (hN : xs.length ≤ 1000) (hcap : xs.length ≤ c)
    (hlen : (Lib.join (bl xs) []).length ≤ 100000) :
    Calls Tryz.prog 57 #[.string ⟨msg.toArray⟩, .slice (some ⟨bk, o, none⟩) xs.length c] w (PostL (Lib.join (bl xs) [] ++ 10 :: msg) w) := by
  obtain ⟨n, HN⟩ : ∃ n, Hid (xs.length = n) := ⟨_, rfl⟩
  obtain ⟨S, HS⟩ : ∃ S : ByteArray, Hid (S = ⟨(Lib.join (bl xs) []).toArray⟩) := ⟨_, rfl⟩
  obtain ⟨M, HM⟩ : ∃ S : ByteArray, Hid (S = ⟨msg.toArray⟩) := ⟨_, rfl⟩
  have HJ : Hid (Calls Tryz.prog 94 #[.slice (some ⟨bk, o, none⟩) n c, .string ⟨#[]⟩] w fun e w' => e = .returned (.string S) ∧ Below w.heap.size w w') := hid (by
    rw [← HN.out, HS.out]
    exact Tryz.strings_Join bk o c xs ⟨#[]⟩ w hcells hbk (by omega) hcap (Nat.le_trans hlen (by decide)))
  have hS : S.size ≤ 100000 := by rw [HS.out]; simpa [ByteArray.size] using hlen
  have hM : M.size ≤ 100000 := by rw [HM.out]; simpa [ByteArray.size] using hm
  have h10 : (⟨#[10]⟩ : ByteArray).size = 1 := rfl
  have hS1 : ¬ 9223372036854775807 < S.size + 1 := by omega
  have hS2 : ¬ 9223372036854775807 ≤ S.size := by omega
  have hSA : (S ++ ⟨#[10]⟩ : ByteArray).size = S.size + 1 := by rw [ByteArray.size_append, h10]
  have hS3 : ¬ 9223372036854775807 < S.size + 1 + M.size := by omega
  obtain ⟨R, HR⟩ : ∃ R : ByteArray, S ++ ⟨#[10]⟩ ++ M = R := ⟨_, rfl⟩
  have HRE : Hid (R = ⟨(Lib.join (bl xs) [] ++ 10 :: msg).toArray⟩) := hid (by
    rw [← HR, HS.out, HM.out, show (⟨#[10]⟩ : ByteArray) = ⟨[10].toArray⟩ from rfl, str_app, str_app]
    simp)
  rw [HN.out, ← HM.out]
  clear hcells hlen
  go_enter Tryz.func57, Tryz.ntmps57
  go_wp2_with fail
  refine HJ.out.mono ?_
  rintro e w1 ⟨rfl, hb⟩
  have HB : Hid _ := hb
  clear hb
  obtain ⟨c2, w2, hr2, hm2, hb2, hs2⟩ := conv_mk (Lib.join (bl xs) [] ++ 10 :: msg) w1
  rw [← HRE.out] at hr2
  have HM2 : Hid _ := hm2
  have HB2 : Hid (Below w.heap.size w w2) := HB.out.trans (hb2.mono HB.out.size)
  clear hm2 hb2
  obtain ⟨L, HL⟩ : ∃ L, Hid ((Lib.join (bl xs) [] ++ 10 :: msg).length = L) := ⟨_, rfl⟩
  rw [HL.out] at hr2
  go_wp2_with (go_at_call 54; refine (line_none _).mono ?_; rintro ev w' ⟨rfl, rfl⟩)
  go_ret
  refine ⟨HB2.out, _, c2, ?_, HB.out.size, HM2.out⟩
  rw [HL.out]
  rfl
end Go.Proofs.YtbpdielmdhhdfaaGreatDoor
/- 'errors.As' at a target '*Errno', and 'Tell'. -/
namespace Go.Proofs.YtbpdielmdhhdfaaGreatDoor
open Go.RowKit Go.Extern.Stop Go.Stop Go.Extern
set_option linter.unusedVariables false
set_option linter.unusedSimpArgs false

theorem valueOf45 (t : Addr) (w : World) : (ReflectliteValue.unpack (.iface 87 (.pointer (some t)))).run Tryz.prog w
    = .ok (.agg #[.pointer (some ⟨9, 87, none⟩), .pointer (some ⟨w.heap.size, 0, none⟩), .int .u64 150]) (w.alloc (.cells #[.pointer (some t)] 87)) := by kernel_rfl
theorem type45 (a : Addr) (w : World) : (ReflectliteValue.methodAny (ReflectliteValue.valueError "reflectlite.Value.Type" 0) (fun t _ _ _ => ReflectliteType.toType t) #[.agg #[.pointer (some ⟨9, 87, none⟩), .pointer (some a), .int .u64 150]]).run Tryz.prog w
    = .ok (.iface 188 (.agg #[.pointer (some ⟨9, 87, none⟩)])) w := by kernel_rfl
theorem methodKind (h : Value) (w : World) : (Go.method 433 188 (.agg #[h]) "Kind").run Tryz.prog w = .ok (248, h) w := by kernel_rfl
theorem kind45 (w : World) : ((ReflectliteType.abiMethod fun t => (fun a : Nat => Value.int IntKind.u8 (a : Int)) <$> Rtype.kind t) #[.pointer (some ⟨9, 87, none⟩)]).run Tryz.prog w = .ok (.int .u8 22) w := by kernel_rfl
theorem kind32 (w : World) : ((ReflectliteType.abiMethod fun t => (fun a : Nat => Value.int IntKind.u8 (a : Int)) <$> Rtype.kind t) #[.pointer (some ⟨9, 35, none⟩)]).run Tryz.prog w = .ok (.int .u8 2) w := by kernel_rfl
theorem methodElem (h : Value) (w : World) : (Go.method 433 188 (.agg #[h]) "Elem").run Tryz.prog w = .ok (258, .agg #[h]) w := by kernel_rfl
theorem methodImplements (h : Value) (w : World) : (Go.method 433 188 (.agg #[h]) "Implements").run Tryz.prog w = .ok (259, .agg #[h]) w := by kernel_rfl
theorem methodAssignableTo (h : Value) (w : World) : (Go.method 433 188 (.agg #[h]) "AssignableTo").run Tryz.prog w = .ok (256, .agg #[h]) w := by kernel_rfl
theorem elem45 (w : World) : (ReflectliteType.method ReflectliteType.elem #[.agg #[.pointer (some ⟨9, 87, none⟩)]]).run Tryz.prog w = .ok (.iface 188 (.agg #[.pointer (some ⟨9, 35, none⟩)])) w := by kernel_rfl
theorem implements32 (w : World) : (ReflectliteType.relation "Implements" ReflectliteType.implements_ #[.agg #[.pointer (some ⟨9, 35, none⟩)], .iface 188 (.agg #[.pointer (some ⟨9, 28, none⟩)])]).run Tryz.prog w = .ok (.bool true) w := by kernel_rfl
theorem typeOf32 (v : Value) (w : World) : (ReflectliteType.typeOf #[.iface 35 v]).run Tryz.prog w = .ok (.iface 188 (.agg #[.pointer (some ⟨9, 35, none⟩)])) w := by kernel_rfl
theorem assignable32 (w : World) : (ReflectliteType.relation "AssignableTo" ReflectliteType.assignableTo #[.agg #[.pointer (some ⟨9, 35, none⟩)], .iface 188 (.agg #[.pointer (some ⟨9, 35, none⟩)])]).run Tryz.prog w = .ok (.bool true) w := by kernel_rfl
theorem valueOf32 (k : Int) (w : World) : (ReflectliteValue.unpack (.iface 35 (.int .i64 k))).run Tryz.prog w
    = .ok (.agg #[.pointer (some ⟨9, 35, none⟩), .pointer (some ⟨w.heap.size, 0, none⟩), .int .u64 130]) (w.alloc (.cells #[.int .i64 k] 35)) := by kernel_rfl
theorem elemOf45 (w : World) : (Rtype.elem? 87).run Tryz.prog w = .ok (some 35) w := by kernel_rfl
theorem mk32 (p : Addr) (w : World) : (ReflectliteValue.mk 35 p ReflectliteValue.flagAddr).run Tryz.prog w = .ok (.agg #[.pointer (some ⟨9, 35, none⟩), .pointer (some p), .int .u64 386]) w := by kernel_rfl
theorem parts45 (a : Addr) (w : World) : (ReflectliteValue.parts (.agg #[.pointer (some ⟨9, 87, none⟩), .pointer (some a), .int .u64 150])).run Tryz.prog w = .ok (some (87, a, 150)) w := by kernel_rfl
theorem parts32a (a : Addr) (w : World) : (ReflectliteValue.parts (.agg #[.pointer (some ⟨9, 35, none⟩), .pointer (some a), .int .u64 386])).run Tryz.prog w = .ok (some (35, a, 386)) w := by kernel_rfl
theorem parts32 (a : Addr) (w : World) : (ReflectliteValue.parts (.agg #[.pointer (some ⟨9, 35, none⟩), .pointer (some a), .int .u64 130])).run Tryz.prog w = .ok (some (35, a, 130)) w := by kernel_rfl
theorem direct32 (w : World) : (Rtype.directlyAssignable 35 35).run Tryz.prog w = .ok true w := by kernel_rfl
theorem size32 (w : World) : (sizeOf 35).run Tryz.prog w = .ok 1 w := by kernel_rfl
theorem isNil_at (a : Addr) (W : World) : (ReflectliteValue.method (ReflectliteValue.valueError "reflectlite.Value.IsNil" 0) ReflectliteValue.isNil #[.agg #[.pointer (some ⟨9, 87, none⟩), .pointer (some a), .int .u64 150]]).run Tryz.prog W = (ReflectliteValue.isNil 87 a 150 22).run Tryz.prog W := by kernel_rfl
theorem elem_at (a : Addr) (W : World) : (ReflectliteValue.method (ReflectliteValue.valueError "reflectlite.Value.Elem" 0) ReflectliteValue.elem #[.agg #[.pointer (some ⟨9, 87, none⟩), .pointer (some a), .int .u64 150]]).run Tryz.prog W = (ReflectliteValue.elem 87 a 150 22).run Tryz.prog W := by kernel_rfl
theorem set_at (ta b : Addr) (W : World) : (ReflectliteValue.set #[.agg #[.pointer (some ⟨9, 35, none⟩), .pointer (some ta), .int .u64 386], .agg #[.pointer (some ⟨9, 35, none⟩), .pointer (some b), .int .u64 130]]).run Tryz.prog W = (loadVar 35 b >>= fun val => storeVar 35 ta val >>= fun _ => pure (.tuple #[])).run Tryz.prog W := by kernel_rfl
theorem isNil45 (a p : Addr) (W : World) (ha : W.cell? a = some (.pointer (some p))) :
    (ReflectliteValue.method (ReflectliteValue.valueError "reflectlite.Value.IsNil" 0) ReflectliteValue.isNil #[.agg #[.pointer (some ⟨9, 87, none⟩), .pointer (some a), .int .u64 150]]).run Tryz.prog W = .ok (.bool false) W := by
  rw [isNil_at]
  simp [ReflectliteValue.isNil, loadVar, isAgg, underlying, Tryz.underlying87, ha, Result.andThen]
theorem elemV45 (a p : Addr) (W : World) (ha : W.cell? a = some (.pointer (some p))) :
    (ReflectliteValue.method (ReflectliteValue.valueError "reflectlite.Value.Elem" 0) ReflectliteValue.elem #[.agg #[.pointer (some ⟨9, 87, none⟩), .pointer (some a), .int .u64 150]]).run Tryz.prog W
      = .ok (.agg #[.pointer (some ⟨9, 35, none⟩), .pointer (some p), .int .u64 386]) W := by
  rw [elem_at]
  simp [ReflectliteValue.elem, loadVar, isAgg, underlying, Tryz.underlying87, ha, Result.andThen, elemOf45, mk32]
theorem set32 (ta b : Addr) (k : Int) (old : Value) (W : World) (hb : W.cell? b = some (.int .i64 k)) (ht : W.cell? ta = some old) (hf : W.frozen? ta = false) :
    (ReflectliteValue.set #[.agg #[.pointer (some ⟨9, 35, none⟩), .pointer (some ta), .int .u64 386], .agg #[.pointer (some ⟨9, 35, none⟩), .pointer (some b), .int .u64 130]]).run Tryz.prog W
      = .ok (.tuple #[]) (W.setCell ta (.int .i64 k)) := by
  rw [set_at]
  simp [loadVar, isAgg, underlying, Tryz.underlying35, hb, Result.andThen, direct32, storeVar, Value.cells, storeCells, Addr.add]
  rw [run_store Tryz.prog W ta _ _ (by rfl)]
  simp [ht, hf]
end Go.Proofs.YtbpdielmdhhdfaaGreatDoor
