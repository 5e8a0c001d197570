import Derived.Test.YtbpdielmdhhdfaaGreatDoorMt07
import Derived.Test.YtbpdielmdhhdfaaGreatDoorMt12
import Derived.Test.YtbpdielmdhhdfaaGreatDoorMt05
/- Package object: which texts a person may have; which persons can be written. -/
namespace Go.Proofs.YtbpdielmdhhdfaaGreatDoor
open Go.RowKit
set_option linter.unusedVariables false
set_option linter.unusedSimpArgs false
/-- 3.3: a name or an address. -/
def okT (s : List UInt8) : Prop := s.length ≤ 60 ∧ (∀ x ∈ s, x ≠ 60 ∧ x ≠ 62 ∧ x ≠ 10 ∧ x ≠ 0) ∧ Lib.trimS s [32] = s
theorem signs_asc : Asc ⟨#[60, 62, 10, 0]⟩ := by
  intro j h
  have h' : j < 4 := h
  match j, h' with
  | 0, _ => exact (by decide : (60 : UInt8).toNat < 128)
  | 1, _ => exact (by decide : (62 : UInt8).toNat < 128)
  | 2, _ => exact (by decide : (10 : UInt8).toNat < 128)
  | 3, _ => exact (by decide : (0 : UInt8).toNat < 128)
theorem signs_iff (s : List UInt8) : ¬ hasAny ⟨s.toArray⟩ ⟨#[60, 62, 10, 0]⟩ ↔ ∀ x ∈ s, x ≠ 60 ∧ x ≠ 62 ∧ x ≠ 10 ∧ x ≠ 0 := by
  unfold hasAny
  simp only [not_exists, not_and]
  constructor
  · intro h x hx
    have := h x hx
    simpa using this
  · intro h x hx
    have := h x hx
    simpa using this
/-- It is told whether. -/
def BIs (P : Prop) (e : Ending) : Prop := ∃ b : Bool, e = .returned (.bool b) ∧ (b = true ↔ P)
theorem bis_false {P : Prop} (h : ¬ P) : BIs P (.returned (.bool false)) := ⟨false, rfl, ⟨(fun h => by cases h), fun h2 => absurd h2 h⟩⟩
theorem bis_true {P : Prop} (h : P) : BIs P (.returned (.bool true)) := ⟨true, rfl, ⟨fun _ => h, fun _ => rfl⟩⟩
theorem bis_or {P : Prop} {e : Ending} (h : BIs P e) : (P ∧ e = .returned (.bool true)) ∨ (¬ P ∧ e = .returned (.bool false)) := by
  obtain ⟨b, rfl, hb⟩ := h
  cases b with
  | true => exact .inl ⟨hb.1 rfl, rfl⟩
  | false => exact .inr ⟨(fun h => by have := hb.2 h; cases this), rfl⟩
set_option maxRecDepth 20000 in
theorem isPersonText_any (s : List UInt8) (hs : s.length ≤ 1000000) (w : World) :
    Calls Tryz.prog 135 #[.string ⟨s.toArray⟩] w fun e w' => BIs (okT s) e ∧ Below w.heap.size w w' := by
  obtain ⟨S, HS⟩ : ∃ S : ByteArray, Hid (S = ⟨s.toArray⟩) := ⟨_, rfl⟩
  have hsz : S.size = s.length := by rw [HS.out]; simp [ByteArray.size]
  obtain ⟨T, HT⟩ : ∃ S : ByteArray, Hid (S = ⟨(Lib.trimS s [32]).toArray⟩) := ⟨_, rfl⟩
  have HCA : Hid (∀ w, Calls Tryz.prog 125 #[.string S, .string ⟨#[60, 62, 10, 0]⟩] w fun e w' => BIs (¬ ∀ x ∈ s, x ≠ 60 ∧ x ≠ 62 ∧ x ≠ 10 ∧ x ≠ 0) e ∧ Below w.heap.size w w') := fun w => by
    refine (containsAny_any S ⟨#[60, 62, 10, 0]⟩ (by decide) (by decide) signs_asc (by omega) w).mono ?_
    rintro e w' ⟨⟨b, rfl, hb⟩, h2⟩
    refine ⟨⟨b, rfl, ?_⟩, h2⟩
    rw [hb, ← signs_iff, HS.out, Classical.not_not]
  have HTR : Hid (∀ w, Calls Tryz.prog 144 #[.string S, .string ⟨#[32]⟩] w fun e w' => e = .returned (.string T) ∧ Below w.heap.size w w') := fun w => by
    rw [HT.out, HS.out]
    exact Any.strings_Trim_laid Tryz.lays160 info258 ⟨s.toArray⟩ ⟨#[32]⟩ w (by simp [ByteArray.size]; omega) (by decide) (fun j b hb => by
      match j, hb with
      | 0, hb => simp at hb; subst hb; decide
      | j + 1, hb => simp at hb)
  have HEQ : Hid ((T.toList == S.toList) = true ↔ Lib.trimS s [32] = s) := hid (by
    rw [HT.out, HS.out, Lib.toList_data, Lib.toList_data]
    simp)
  rw [← HS.out]
  by_cases h : s.length ≤ 60
  · have hi : (S.size : Int) ≤ 60 := by omega
    go_enter Tryz.func135, Tryz.ntmps135
    go_wp2_with fail
    refine (HCA.out w).mono ?_
    rintro ev w1 ⟨hb, hb1⟩
    have HB1 : Hid _ := hb1
    clear hb1
    rcases bis_or hb with ⟨hno, rfl⟩ | ⟨hyes, rfl⟩
    · have HNO : Hid (¬ okT s) := fun h => hno h.2.1
      clear hno hb
      go_wp2
      go_ret
      exact ⟨bis_false HNO.out, HB1.out⟩
    · have HYE : Hid (∀ x ∈ s, x ≠ 60 ∧ x ≠ 62 ∧ x ≠ 10 ∧ x ≠ 0) := Classical.not_not.1 hyes
      clear hyes hb
      go_wp2_with fail
      refine (HTR.out w1).mono ?_
      rintro ev w2 ⟨rfl, hb2⟩
      have HB2 : Hid (Below w.heap.size w w2) := HB1.out.trans (hb2.mono HB1.out.size)
      clear hb2
      go_wp2
      go_ret
      refine ⟨⟨(T.toList == S.toList), rfl, ?_⟩, HB2.out⟩
      rw [HEQ.out]
      exact ⟨fun h3 => ⟨h, HYE.out, h3⟩, fun h3 => h3.2.2⟩
  · have hi : ¬ (S.size : Int) ≤ 60 := by omega
    go_enter Tryz.func135, Tryz.ntmps135
    go_wp2
    go_ret
    exact ⟨bis_false (fun h2 => h h2.1), Below.refl _ _⟩
/-- However long it is. -/
theorem isPersonText_all (s : List UInt8) (w : World) : Calls Tryz.prog 135 #[.string ⟨s.toArray⟩] w fun e w' => BIs (okT s) e ∧ Below w.heap.size w w' := by
  by_cases h : s.length ≤ 60
  · exact isPersonText_any s (by omega) w
  · obtain ⟨S, HS⟩ : ∃ S : ByteArray, Hid (S = ⟨s.toArray⟩) := ⟨_, rfl⟩
    have hsz : S.size = s.length := by rw [HS.out]; simp [ByteArray.size]
    rw [← HS.out]
    have hi : ¬ (S.size : Int) ≤ 60 := by omega
    go_enter Tryz.func135, Tryz.ntmps135
    go_wp2
    go_ret
    exact ⟨bis_false (fun h2 => h h2.1), Below.refl _ _⟩
/-- A person. -/
structure Per where
  name : List UInt8
  mail : List UInt8
  time : Int
  zone : Int
/-- 3.3: who can be written. -/
def okP (p : Per) : Prop := okT p.name ∧ okT p.mail ∧ (0 ≤ p.time ∧ p.time ≤ 1099511627776) ∧ -840 ≤ p.zone ∧ p.zone ≤ 840
/-- As a value. -/
def perV (p : Per) : Array Value := #[.string ⟨p.name.toArray⟩, .string ⟨p.mail.toArray⟩, .int .i64 p.time, .int .i64 p.zone]
set_option maxRecDepth 20000 in
set_option maxHeartbeats 1000000 in
theorem isPerson_any (p : Per) (w : World) :
    Calls Tryz.prog 100 #[.agg (perV p)] w fun e w' => BIs (okP p) e ∧ Below w.heap.size w w' := by
  obtain ⟨nm, ml, tm, zn⟩ := p
  have HN : Hid (∀ w, Calls Tryz.prog 135 #[.string ⟨nm.toArray⟩] w fun e w' => BIs (okT nm) e ∧ Below w.heap.size w w') := fun w => isPersonText_all nm w
  have HM : Hid (∀ w, Calls Tryz.prog 135 #[.string ⟨ml.toArray⟩] w fun e w' => BIs (okT ml) e ∧ Below w.heap.size w w') := fun w => isPersonText_all ml w
  obtain ⟨N, HNN⟩ : ∃ S : ByteArray, Hid (S = ⟨nm.toArray⟩) := ⟨_, rfl⟩
  obtain ⟨M, HMM⟩ : ∃ S : ByteArray, Hid (S = ⟨ml.toArray⟩) := ⟨_, rfl⟩
  obtain ⟨G, HG⟩ : ∃ G, Hid (w.heap.size = G) := ⟨_, rfl⟩
  obtain ⟨w0, HW0⟩ : ∃ w0, Hid (w.alloc (.cells #[.string N, .string M, .int .i64 tm, .int .i64 zn] 58) = w0) := ⟨_, rfl⟩
  have HB0 : Hid (Below G w w0) := hid (by rw [← HW0.out, ← HG.out]; exact (Below.refl _ w).alloc (Nat.le_refl _) _)
  have hs0 : G < w0.heap.size := by rw [← HW0.out, ← HG.out]; simp
  have HC : Hid (∀ W, Below w0.heap.size w0 W → W.cell? ⟨G, 1, none⟩ = some (.string M) ∧ W.cell? ⟨G, 2, none⟩ = some (.int .i64 tm) ∧ W.cell? ⟨G, 3, none⟩ = some (.int .i64 zn)) := fun W hW => by
    refine ⟨(hW.cell (p := ⟨G, 1, none⟩) hs0).trans ?_, (hW.cell (p := ⟨G, 2, none⟩) hs0).trans ?_, (hW.cell (p := ⟨G, 3, none⟩) hs0).trans ?_⟩
    · rw [← HW0.out, ← HG.out]; simp
    · rw [← HW0.out, ← HG.out]; simp
    · rw [← HW0.out, ← HG.out]; simp
  have hc0 : w0.cell? ⟨G, 0, none⟩ = some (.string N) := by rw [← HW0.out, ← HG.out]; simp
  rw [← HNN.out] at HN
  rw [← HMM.out] at HM
  unfold perV
  simp only
  rw [← HNN.out, ← HMM.out]
  go_enter Tryz.func100, Tryz.ntmps100
  go_wp2_with fail
  rw [HG.out, HW0.out]
  refine (HN.out w0).mono ?_
  rintro ev w1 ⟨hb, hb1⟩
  have HB1 : Hid _ := hb1
  clear hb1
  rcases bis_or hb with ⟨hy1, rfl⟩ | ⟨hn1, rfl⟩
  · have HY1 : Hid (okT nm) := hy1
    clear hy1 hb
    obtain ⟨hc1, hc2, hc3⟩ := HC.out w1 HB1.out
    go_wp2_with fail
    refine (HM.out w1).mono ?_
    rintro ev w2 ⟨hb, hb2⟩
    have HB2 : Hid (Below w0.heap.size w0 w2) := HB1.out.trans (hb2.mono HB1.out.size)
    clear hb2 hc1 hc2 hc3
    have HBE : Hid (Below w.heap.size w w2) := hid (by rw [HG.out]; exact HB0.out.trans (HB2.out.mono (Nat.le_of_lt hs0)))
    obtain ⟨hc1, hc2, hc3⟩ := HC.out w2 HB2.out
    rcases bis_or hb with ⟨hy2, rfl⟩ | ⟨hn2, rfl⟩
    · have HY2 : Hid (okT ml) := hy2
      clear hy2 hb
      by_cases t1 : 0 ≤ tm
      · by_cases t2 : tm ≤ 1099511627776
        · by_cases t3 : -840 ≤ zn
          · by_cases t4 : zn ≤ 840
            · have HOK : Hid (okP ⟨nm, ml, tm, zn⟩) := ⟨HY1.out, HY2.out, ⟨t1, t2⟩, t3, t4⟩
              go_wp2
              go_ret
              exact ⟨bis_true HOK.out, HBE.out⟩
            · have HOK : Hid (¬ okP ⟨nm, ml, tm, zn⟩) := fun h => t4 h.2.2.2.2
              have HT4 : Hid (decide (zn ≤ 840) = false) := decide_eq_false t4
              go_wp2
              go_ret
              refine ⟨?_, HBE.out⟩
              show BIs _ (.returned (.bool (decide (zn ≤ 840))))
              rw [HT4.out]
              exact bis_false HOK.out
          · have HOK : Hid (¬ okP ⟨nm, ml, tm, zn⟩) := fun h => t3 h.2.2.2.1
            go_wp2
            go_ret
            exact ⟨bis_false HOK.out, HBE.out⟩
        · have HOK : Hid (¬ okP ⟨nm, ml, tm, zn⟩) := fun h => t2 h.2.2.1.2
          go_wp2
          go_ret
          exact ⟨bis_false HOK.out, HBE.out⟩
      · have HOK : Hid (¬ okP ⟨nm, ml, tm, zn⟩) := fun h => t1 h.2.2.1.1
        go_wp2
        go_ret
        exact ⟨bis_false HOK.out, HBE.out⟩
    · have HOK : Hid (¬ okP ⟨nm, ml, tm, zn⟩) := fun h => hn2 h.2.1
      clear hn2 hb
      go_wp2
      go_ret
      exact ⟨bis_false HOK.out, HBE.out⟩
  · have HOK : Hid (¬ okP ⟨nm, ml, tm, zn⟩) := fun h => hn1 h.1
    clear hn1 hb
    go_wp2
    go_ret
    exact ⟨bis_false HOK.out, by rw [HG.out]; exact HB0.out.trans (HB1.out.mono (Nat.le_of_lt hs0))⟩
end Go.Proofs.YtbpdielmdhhdfaaGreatDoor
/- Package object: a person, written. -/
namespace Go.Proofs.YtbpdielmdhhdfaaGreatDoor
open Go.RowKit
set_option linter.unusedVariables false
set_option linter.unusedSimpArgs false
theorem enter95 (v1 v2 : Value) (w : World) : (callFunc 95 #[v1, v2]).run Tryz.prog w = .ok (.enter 95 #[v1, v2]) w := by kernel_rfl
theorem enter102 (v : Value) (w : World) : (callFunc 102 #[v]).run Tryz.prog w = .ok (.enter 102 #[v]) w := by kernel_rfl
theorem enter46 (v : Value) (w : World) : (callFunc 46 #[v]).run Tryz.prog w = .ok (.enter 46 #[v]) w := by kernel_rfl
/-- A person's box. -/
def BoxP (G : Nat) (N M : ByteArray) (tm zn : Int) (W : World) : Prop := W.cell? ⟨G, 0, none⟩ = some (.string N) ∧ W.cell? ⟨G, 1, none⟩ = some (.string M) ∧ W.cell? ⟨G, 2, none⟩ = some (.int .i64 tm) ∧ W.cell? ⟨G, 3, none⟩ = some (.int .i64 zn)
theorem BoxP.below {G : Nat} {N M : ByteArray} {tm zn : Int} {W W' : World} (h : BoxP G N M tm zn W) (hG : G < W.heap.size) (hb : Below W.heap.size W W') : BoxP G N M tm zn W' :=
  ⟨(hb.cell (p := ⟨G, 0, none⟩) hG).trans h.1, (hb.cell (p := ⟨G, 1, none⟩) hG).trans h.2.1, (hb.cell (p := ⟨G, 2, none⟩) hG).trans h.2.2.1, (hb.cell (p := ⟨G, 3, none⟩) hG).trans h.2.2.2⟩
/-- 3.3: a person, in bytes. -/
def perB (p : Per) : List UInt8 := p.name ++ 32 :: 60 :: (p.mail ++ 62 :: 32 :: (Lib.decDigits p.time.toNat ++ 32 :: zoneB p.zone))
theorem join_four (a b c d : List UInt8) : Lib.join [a, b, c, d] [32] = a ++ 32 :: (b ++ 32 :: (c ++ 32 :: d)) := by simp [Lib.join, List.intercalate]
theorem dig_len40 (n : Nat) (h : n ≤ 1099511627776) : (Lib.decDigits n).length ≤ 13 := dig_len 12 n (by omega)
set_option maxRecDepth 20000 in
set_option maxHeartbeats 1000000 in
theorem personText_any (p : Per) (hp : okP p) (w : World) (ht : Tab w) :
    Calls Tryz.prog 56 #[.agg (perV p)] w fun e w' => e = .returned (.string ⟨(perB p).toArray⟩) ∧ Below w.heap.size w w' := by
  obtain ⟨nm, ml, tm, zn⟩ := p
  obtain ⟨⟨n1, _⟩, ⟨m1, _⟩, ⟨t1, t2⟩, z1, z2⟩ := hp
  simp only at n1 m1 t1 t2 z1 z2
  obtain ⟨tn, rfl⟩ : ∃ tn : Nat, tm = (tn : Int) := ⟨tm.toNat, by omega⟩
  have htn : tn ≤ 1099511627776 := by omega
  obtain ⟨N, HNN⟩ : ∃ S : ByteArray, Hid (S = ⟨nm.toArray⟩) := ⟨_, rfl⟩
  obtain ⟨M, HMM⟩ : ∃ S : ByteArray, Hid (S = ⟨ml.toArray⟩) := ⟨_, rfl⟩
  obtain ⟨D, HDD⟩ : ∃ S : ByteArray, Hid (S = ⟨(Lib.decDigits tn).toArray⟩) := ⟨_, rfl⟩
  obtain ⟨Z, HZZ⟩ : ∃ S : ByteArray, Hid (S = ⟨(zoneB zn).toArray⟩) := ⟨_, rfl⟩
  have hNs : N.size ≤ 60 := by rw [HNN.out]; simpa [ByteArray.size] using n1
  have hMs : M.size ≤ 60 := by rw [HMM.out]; simpa [ByteArray.size] using m1
  have hDs : D.size ≤ 13 := by rw [HDD.out]; simpa [ByteArray.size] using dig_len40 tn htn
  have hZs : Z.size = 5 := by rw [HZZ.out]; simp [ByteArray.size, zoneB, two]
  obtain ⟨X1, HX1⟩ : ∃ X, Hid (N ++ (⟨#[32, 60]⟩ : ByteArray) = X) := ⟨_, rfl⟩
  obtain ⟨X2, HX2⟩ : ∃ X, Hid (X1 ++ M = X) := ⟨_, rfl⟩
  obtain ⟨X3, HX3⟩ : ∃ X, Hid (X2 ++ (⟨#[62, 32]⟩ : ByteArray) = X) := ⟨_, rfl⟩
  obtain ⟨X4, HX4⟩ : ∃ X, Hid (X3 ++ D = X) := ⟨_, rfl⟩
  obtain ⟨X5, HX5⟩ : ∃ X, Hid (X4 ++ (⟨#[32]⟩ : ByteArray) = X) := ⟨_, rfl⟩
  obtain ⟨X6, HX6⟩ : ∃ X, Hid (X5 ++ Z = X) := ⟨_, rfl⟩
  have hX1 : X1.size = N.size + 2 := by rw [← HX1.out, ByteArray.size_append]; rfl
  have hX2 : X2.size = X1.size + M.size := by rw [← HX2.out, ByteArray.size_append]
  have hX3 : X3.size = X2.size + 2 := by rw [← HX3.out, ByteArray.size_append]; rfl
  have hX4 : X4.size = X3.size + D.size := by rw [← HX4.out, ByteArray.size_append]
  have hX5 : X5.size = X4.size + 1 := by rw [← HX5.out, ByteArray.size_append]; rfl
  have HR : Hid ((⟨(perB ⟨nm, ml, tn, zn⟩).toArray⟩ : ByteArray) = X6) := hid (by
    rw [← HX6.out, ← HX5.out, ← HX4.out, ← HX3.out, ← HX2.out, ← HX1.out, HNN.out, HMM.out, HDD.out, HZZ.out, show (⟨#[32, 60]⟩ : ByteArray) = ⟨[32, 60].toArray⟩ from rfl, show (⟨#[62, 32]⟩ : ByteArray) = ⟨[62, 32].toArray⟩ from rfl, show (⟨#[32]⟩ : ByteArray) = ⟨[32].toArray⟩ from rfl, str_app, str_app, str_app, str_app, str_app, str_app]
    simp [perB])
  obtain ⟨G, HG⟩ : ∃ G, Hid (w.heap.size = G) := ⟨_, rfl⟩
  obtain ⟨w0, HW0⟩ : ∃ w0, Hid (w.alloc (.cells #[.string N, .string M, .int .i64 tn, .int .i64 zn] 58) = w0) := ⟨_, rfl⟩
  have HB0 : Hid (Below G w w0) := hid (by rw [← HW0.out, ← HG.out]; exact (Below.refl _ w).alloc (Nat.le_refl _) _)
  have hs0 : G < w0.heap.size := by rw [← HW0.out, ← HG.out]; simp
  have HX0 : Hid (BoxP G N M tn zn w0) := hid (by rw [← HW0.out, ← HG.out]; exact ⟨by simp, by simp, by simp, by simp⟩)
  have HTA : Hid (∀ W, Below G w W → Tab W) := fun W hW => ht.below (by rw [HG.out]; exact hW)
  have HF : Hid (∀ W, Below G w W → Calls Tryz.prog 95 #[.int .i64 tn, .int .i64 10] W fun e w' => e = .returned (.string D) ∧ Below W.heap.size W w') := fun W hW => by rw [HDD.out]; exact fmt_any tn htn W (HTA.out W hW)
  have HZ : Hid (∀ W, Calls Tryz.prog 102 #[.int .i64 zn] W fun e w' => e = .returned (.string Z) ∧ w' = W) := fun W => by rw [HZZ.out]; exact zoneText_any zn z1 z2 W
  rw [HR.out]
  unfold perV
  simp only
  rw [← HNN.out, ← HMM.out]
  go_enter Tryz.func56, Tryz.ntmps56
  go_wp2_with fail
  rw [HG.out, HW0.out]
  clear ht n1 m1
  refine wp_region_held_drew (S := BoxP G N M tn zn) (by kernel_rfl) (by exact HX0.out) (fun hHeld => ?_)
  refine takeL (i := 0) (v := ?_) rfl (by kernel_rfl) (by kernel_rfl) (by kernel_rfl) (fun _ _ _ h => h) (Or.inl ⟨by rfl, ?_⟩) hHeld ?_
  rotate_left
  · rintro w' ⟨c0, c1, c2, c3⟩; go_simp; rfl
  try simp only [Act.put, List.setIfInBounds_toArray, List.set_cons_zero, List.set_cons_succ]
  refine takeL (i := 1) (v := ?_) rfl (by kernel_rfl) (by kernel_rfl) (by kernel_rfl) (fun _ _ _ h => h) (Or.inl ⟨by rfl, ?_⟩) hHeld ?_
  rotate_left
  · rintro w' ⟨c0, c1, c2, c3⟩; go_simp; rfl
  try simp only [Act.put, List.setIfInBounds_toArray, List.set_cons_zero, List.set_cons_succ]
  refine takeL (i := 2) (v := .string X1) rfl (by kernel_rfl) (by kernel_rfl) (by kernel_rfl) (fun _ _ _ h => h) (Or.inl ⟨by rfl, ?_⟩) hHeld ?_
  · rintro w' ⟨c0, c1, c2, c3⟩; rw [← HX1.out]; go_simp; first | done | omega | rfl
  try simp only [Act.put, List.setIfInBounds_toArray, List.set_cons_zero, List.set_cons_succ]
  refine takeL (i := 3) (v := ?_) rfl (by kernel_rfl) (by kernel_rfl) (by kernel_rfl) (fun _ _ _ h => h) (Or.inl ⟨by rfl, ?_⟩) hHeld ?_
  rotate_left
  · rintro w' ⟨c0, c1, c2, c3⟩; go_simp; rfl
  try simp only [Act.put, List.setIfInBounds_toArray, List.set_cons_zero, List.set_cons_succ]
  refine takeL (i := 4) (v := ?_) rfl (by kernel_rfl) (by kernel_rfl) (by kernel_rfl) (fun _ _ _ h => h) (Or.inl ⟨by rfl, ?_⟩) hHeld ?_
  rotate_left
  · rintro w' ⟨c0, c1, c2, c3⟩; go_simp; rfl
  try simp only [Act.put, List.setIfInBounds_toArray, List.set_cons_zero, List.set_cons_succ]
  refine takeL (i := 5) (v := .string X2) rfl (by kernel_rfl) (by kernel_rfl) (by kernel_rfl) (fun _ _ _ h => h) (Or.inl ⟨by rfl, ?_⟩) hHeld ?_
  · rintro w' ⟨c0, c1, c2, c3⟩; rw [← HX2.out]; go_simp; first | done | omega | rfl
  try simp only [Act.put, List.setIfInBounds_toArray, List.set_cons_zero, List.set_cons_succ]
  refine takeL (i := 6) (v := .string X3) rfl (by kernel_rfl) (by kernel_rfl) (by kernel_rfl) (fun _ _ _ h => h) (Or.inl ⟨by rfl, ?_⟩) hHeld ?_
  · rintro w' ⟨c0, c1, c2, c3⟩; rw [← HX3.out]; go_simp; first | done | omega | rfl
  try simp only [Act.put, List.setIfInBounds_toArray, List.set_cons_zero, List.set_cons_succ]
  refine takeL (i := 7) (v := ?_) rfl (by kernel_rfl) (by kernel_rfl) (by kernel_rfl) (fun _ _ _ h => h) (Or.inl ⟨by rfl, ?_⟩) hHeld ?_
  rotate_left
  · rintro w' ⟨c0, c1, c2, c3⟩; go_simp; rfl
  try simp only [Act.put, List.setIfInBounds_toArray, List.set_cons_zero, List.set_cons_succ]
  refine takeL (i := 8) (v := ?_) rfl (by kernel_rfl) (by kernel_rfl) (by kernel_rfl) (fun _ _ _ h => h) (Or.inl ⟨by rfl, ?_⟩) hHeld ?_
  rotate_left
  · rintro w' ⟨c0, c1, c2, c3⟩; go_simp; rfl
  try simp only [Act.put, List.setIfInBounds_toArray, List.set_cons_zero, List.set_cons_succ]
  refine takeL (i := 12) (v := ?_) rfl (by kernel_rfl) (by kernel_rfl) (by kernel_rfl) (fun _ _ _ h => h) (Or.inl ⟨by rfl, ?_⟩) hHeld ?_
  rotate_left
  · rintro w' ⟨c0, c1, c2, c3⟩; go_simp; rfl
  try simp only [Act.put, List.setIfInBounds_toArray, List.set_cons_zero, List.set_cons_succ]
  refine takeL (i := 13) (v := ?_) rfl (by kernel_rfl) (by kernel_rfl) (by kernel_rfl) (fun _ _ _ h => h) (Or.inl ⟨by rfl, ?_⟩) hHeld ?_
  rotate_left
  · rintro w' ⟨c0, c1, c2, c3⟩; go_simp; rfl
  try simp only [Act.put, List.setIfInBounds_toArray, List.set_cons_zero, List.set_cons_succ]
  have HB0d : Hid (Below G w w0.drew) := hid ⟨HB0.out.os, HB0.out.tape, HB0.out.output, HB0.out.size, HB0.out.block⟩
  refine wpAnyH_ready (rs := [9]) (by kernel_rfl) (by simp) ?_
  refine consL rfl (fun KK hKK => ?_) AllReadyH.nil
  refine step_callv (by rfl) 95 [.tmp 11, .const (.int .i64 10)] _ [.int .i64 tn, .int .i64 10] _ (by rfl) (by rfl) (enter95 _ _) (HF.out _ HB0d.out) ?_
  rintro e w1 ⟨rfl, hb1⟩
  refine ⟨_, rfl, ?_⟩
  have hs1 : G < w1.heap.size := Nat.lt_of_lt_of_le hs0 hb1.size
  have HB1 : Hid (Below G w w1) := HB0d.out.trans (hb1.mono (Nat.le_of_lt hs0))
  refine hKK.out _ _ (BoxP.below (W := w0.drew) hHeld hs0 hb1) (fun hHeld => ?_)
  clear hKK KK hb1
  try simp only [Act.put, List.setIfInBounds_toArray, List.set_cons_zero, List.set_cons_succ]
  refine takeL (i := 10) (v := .string X4) rfl (by kernel_rfl) (by kernel_rfl) (by kernel_rfl) (fun _ _ _ h => h) (Or.inl ⟨by rfl, ?_⟩) hHeld ?_
  · rintro w' ⟨c0, c1, c2, c3⟩; rw [← HX4.out]; go_simp; first | done | omega | rfl
  try simp only [Act.put, List.setIfInBounds_toArray, List.set_cons_zero, List.set_cons_succ]
  refine takeL (i := 11) (v := .string X5) rfl (by kernel_rfl) (by kernel_rfl) (by kernel_rfl) (fun _ _ _ h => h) (Or.inl ⟨by rfl, ?_⟩) hHeld ?_
  · rintro w' ⟨c0, c1, c2, c3⟩; rw [← HX5.out]; go_simp; first | done | omega | rfl
  try simp only [Act.put, List.setIfInBounds_toArray, List.set_cons_zero, List.set_cons_succ]
  refine wpAnyH_ready (rs := [14]) (by kernel_rfl) (by simp) ?_
  refine consL rfl (fun KK hKK => ?_) AllReadyH.nil
  refine step_callv (by rfl) 102 [.tmp 16] _ [.int .i64 zn] _ (by rfl) (by rfl) (enter102 _) (HZ.out _) ?_
  rintro e w2 ⟨rfl, rfl⟩
  refine ⟨_, rfl, ?_⟩
  refine hKK.out _ _ hHeld (fun hHeld2 => ?_)
  clear hKK KK hHeld2
  try simp only [Act.put, List.setIfInBounds_toArray, List.set_cons_zero, List.set_cons_succ]
  refine takeL (i := 15) (v := .string X6) rfl (by kernel_rfl) (by kernel_rfl) (by kernel_rfl) (fun _ _ _ h => h) (Or.inl ⟨by rfl, ?_⟩) hHeld ?_
  · rintro w' ⟨c0, c1, c2, c3⟩; rw [← HX6.out]; go_simp; first | done | omega | rfl
  try simp only [Act.put, List.setIfInBounds_toArray, List.set_cons_zero, List.set_cons_succ]
  refine takeL (i := 16) (v := ?_) rfl (by kernel_rfl) (by kernel_rfl) (by kernel_rfl) (fun _ _ _ h => h) (Or.inl ⟨by rfl, ?_⟩) hHeld ?_
  rotate_left
  · rintro w' ⟨c0, c1, c2, c3⟩; go_simp; rfl
  try simp only [Act.put, List.setIfInBounds_toArray, List.set_cons_zero, List.set_cons_succ]
  refine wpAnyH_done (by kernel_rfl) ?_ _
  go_wp2
  go_ret
  exact ⟨rfl, by rw [HG.out]; exact HB1.out⟩
end Go.Proofs.YtbpdielmdhhdfaaGreatDoor
