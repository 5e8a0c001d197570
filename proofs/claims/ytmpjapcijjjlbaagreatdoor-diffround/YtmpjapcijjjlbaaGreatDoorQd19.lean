import Derived.Test.YtmpjapcijjjlbaaGreatDoorQd18
import Derived.Laws.IdiomStrings
import Derived.Deep.QuietTactic
import Derived.BigQuiet
import Derived.Test.YtmpjapcijjjlbaaGreatDoorQd16
import Derived.Test.YtmpjapcijjjlbaaGreatDoorQd11
namespace Go.Proofs.YtmpjapcijjjlbaaGreatDoor
open Go.RowKit
set_option linter.unusedVariables false
set_option linter.unusedSimpArgs false
def At (w : World) (b off : Nat) (zs : List Int) : Prop := ∀ i, i < zs.length → w.cell? ⟨b, off + i, none⟩ = some (.int .u8 (zs.getD i 0))
set_option maxHeartbeats 400000 in
theorem same_true (b off cap b' off' cap' : Nat) (zs : List Int) (w : World) (hl : zs.length ≤ 1000000000000) (hc : At w b off zs) (hc' : At w b' off' zs) :
    Calls Tryz.prog 9 #[.slice (some ⟨b, off, none⟩) zs.length cap, .slice (some ⟨b', off', none⟩) zs.length cap'] w fun e w' => e = .returned (.bool true) ∧ ∃ n, w' = w.drewN n := by
  go_enter Tryz.func9, Tryz.ntmps9
  go_wp2
  go_loopw [5] (fun i wr => ∃ k n : Nat, k ≤ zs.length ∧ i = .int .i64 k ∧ wr = w.drewN n) (fun i _ => zs.length - (intOf i).toNat)
  case atStart => exact ⟨0, 0, Nat.zero_le _, rfl, rfl⟩
  case round =>
    obtain ⟨k, n, hk, rfl, rfl⟩ := hrel
    by_cases hlt : k < zs.length
    · have hcell := hc k hlt
      have hcell' := hc' k hlt
      go_wp2
      go_quiet (fail)
      go_wp2
      go_roundw
      case rel => exact ⟨k + 1, _, by omega, by go_num, rfl⟩
      case measure => simp [intOf]; omega
    · go_wp2
      go_ret
      exact ⟨rfl, n, rfl⟩
set_option maxHeartbeats 400000 in
theorem same_none (a a' : Option Addr) (cap cap' : Nat) (w : World) :
    Calls Tryz.prog 9 #[.slice a 0 cap, .slice a' 0 cap'] w fun e w' => e = .returned (.bool true) ∧ ∃ n, w' = w.drewN n := by
  go_enter Tryz.func9, Tryz.ntmps9
  go_wp2
  go_loop [5] (fun i => i = .int .i64 0) (fun _ => 0)
  case atStart => rfl
  case round =>
    obtain rfl := hrel
    go_wp2
    go_ret
    exact ⟨rfl, 0, rfl⟩
theorem same_any (a a' : Option Addr) (cap cap' : Nat) (zs : List Int) (w : World) (hl : zs.length ≤ 1000000000000) (hc : 0 < zs.length → ∃ b off, a = some ⟨b, off, none⟩ ∧ At w b off zs) (hc' : 0 < zs.length → ∃ b off, a' = some ⟨b, off, none⟩ ∧ At w b off zs) :
    Calls Tryz.prog 9 #[.slice a zs.length cap, .slice a' zs.length cap'] w fun e w' => e = .returned (.bool true) ∧ ∃ n, w' = w.drewN n := by
  by_cases h0 : zs.length = 0
  · rw [h0]; exact same_none a a' cap cap' w
  · obtain ⟨b, off, rfl, h⟩ := hc (by omega)
    obtain ⟨b', off', rfl, h'⟩ := hc' (by omega)
    exact same_true b off cap b' off' cap' zs w hl h h'
def nums (s : Str) : List Int := s.map (fun x => (x.toNat : Int))
theorem nums_len (s : Str) : (nums s).length = s.length := by simp [nums]
theorem nums_at (s : Str) (i : Nat) (hi : i < s.length) : (nums s).getD i 0 = ((s.getD i 0).toNat : Int) := by
  simp [nums, List.getD_eq_getElem?_getD, List.getElem?_eq_getElem hi]
theorem pb_at {w : World} {b off cap : Nat} {s : Str} (h : PB w (some ⟨b, off, none⟩) cap s) : At w b off (nums s) := fun i hi => by
  rw [nums_len] at hi
  rw [nums_at s i hi]
  exact PB.cell h i hi
theorem same_pb {w : World} (a : Option Addr) (ca : Nat) (b : Option Addr) (cb : Nat) (s : Str) (hA : PB w a ca s) (hB : PB w b cb s) (hl : s.length ≤ 1000000000000) : Calls Tryz.prog 9 #[.slice a s.length ca, .slice b s.length cb] w fun e w' => e = .returned (.bool true) ∧ ∃ n, w' = w.drewN n := by
  have := same_any a b ca cb (nums s) w (by rw [nums_len]; exact hl) (fun h0 => by
    rw [nums_len] at h0
    obtain ⟨b', off, e1, _⟩ := hA.at_ h0
    subst e1
    exact ⟨b', off, rfl, pb_at hA⟩) (fun h0 => by
    rw [nums_len] at h0
    obtain ⟨b', off, e1, _⟩ := hB.at_ h0
    subst e1
    exact ⟨b', off, rfl, pb_at hB⟩)
  rw [nums_len] at this
  exact this
theorem tell_nil (w : World) : Calls Tryz.prog 10 #[.nilIface] w fun e w' => e = .returned (.int .i64 0) ∧ Below w.heap.size w w' := by
  have HB : Hid (Below w.heap.size w (w.alloc (.cells #[.int .i64 0] 33))) := (Below.refl _ w).alloc (Nat.le_refl _) _
  go_enter Tryz.func10, Tryz.ntmps10
  go_wp2
  go_ret
  exact ⟨rfl, HB.out⟩
def jn (k : Nat) (L : List Ed) : Str := ((L.filter (fun e => e.1 != k)).map (·.2)).flatten
theorem jn_app (k : Nat) (a b : List Ed) : jn k (a ++ b) = jn k a ++ jn k b := by simp [jn]
theorem jn_take (k : Nat) (L : List Ed) (i : Nat) : (jn k (L.take i)).length ≤ (jn k L).length := by
  conv => rhs; rw [← List.take_append_drop i L, jn_app, List.length_append]
  omega
theorem jn_snoc (k : Nat) (L : List Ed) (i : Nat) (e : Ed) (hi : i < L.length) (he : L.getD i (0, []) = e) : jn k (L.take (i + 1)) = jn k (L.take i) ++ if e.1 = k then [] else e.2 := by
  rw [take_snocG (0, []) L i hi, he, jn_app]
  congr 1
  unfold jn
  by_cases h : e.1 = k <;> simp [h]
set_option maxRecDepth 20000 in
set_option maxHeartbeats 2000000 in
theorem joined_any {w : World} (a : Option Addr) (ca : Nat) (L : List Ed) (hA : PE w a ca L) (hl : L.length ≤ 1000000) (k : Nat) (hj : (jn k L).length ≤ 1000000) :
    Calls Tryz.prog 6 #[.slice a L.length ca, .int .i64 (k : Int)] w fun e w' => e = .returned (.string ⟨(jn k L).toArray⟩) ∧ w' = w := by
  obtain ⟨n, HN⟩ : ∃ n, Hid (L.length = n) := ⟨_, rfl⟩
  obtain ⟨F, HF⟩ : ∃ F : ByteArray, Hid (⟨(jn k L).toArray⟩ = F) := ⟨_, hid rfl⟩
  have hn4 : n ≤ 1000000 := by rw [← HN.out]; exact hl
  have HPA := hid hA
  have HJ := hid hj
  have HFA : Hid (0 < n → ∃ b off, a = some ⟨b, off, none⟩) := hid (fun h0 => by
    obtain ⟨b, off, e1, _⟩ := hA.at_ (by rw [HN.out]; exact h0)
    exact ⟨b, off, e1⟩)
  rw [HN.out, HF.out]
  clear hA hl hj
  go_enter Tryz.func6, Tryz.ntmps6
  go_wp2_with fail
  go_loopg [5, 6] n (fun gg sv iv wr => ∃ (i : Nat) (S : ByteArray), i ≤ n ∧ gg = n - i ∧ iv = .int .i64 i ∧ sv = .string S ∧ wr = w ∧ S.size ≤ 1000000 ∧ Hid (S = ⟨(jn k (L.take i)).toArray⟩))
  case atStart => exact ⟨0, ⟨#[]⟩, Nat.zero_le _, rfl, rfl, rfl, rfl, Nat.zero_le _, hid rfl⟩
  case round =>
    obtain ⟨i, S, hi, hkk, rfl, rfl, rfl, hS, HS⟩ := hrel
    by_cases hlt : i < n
    · have hlti : (i : Int) < (n : Int) := by omega
      obtain ⟨b, off, rfl⟩ := HFA.out (by omega)
      have hil : i < L.length := by rw [HN.out]; exact hlt
      obtain ⟨hd0, hd1⟩ := PE.two HPA.out i hil
      obtain ⟨x, HX⟩ : ∃ x, Hid (L.getD i (0, []) = x) := ⟨_, rfl⟩
      have HSN : Hid (jn k (L.take (i + 1)) = jn k (L.take i) ++ if x.1 = k then [] else x.2) := hid (jn_snoc k L i x hil HX.out)
      have HLE : Hid ((jn k (L.take (i + 1))).length ≤ 1000000) := hid (by have := jn_take k L (i + 1); have := HJ.out; omega)
      rw [HX.out] at hd0 hd1
      obtain ⟨kd, xs⟩ := x
      simp only at hd0 hd1
      obtain ⟨Z, HZ⟩ : ∃ Z : ByteArray, Hid (⟨xs.toArray⟩ = Z) := ⟨_, hid rfl⟩
      rw [HZ.out] at hd1
      clear hil
      by_cases hk : kd = k
      · have hki : ((kd : Int) != (k : Int)) = false := by simp; omega
        have HS1 : Hid (S = ⟨(jn k (L.take (i + 1))).toArray⟩) := hid (by rw [HSN.out, HS.out]; simp [hk])
        clear hk
        go_wp2
        go_roundg (n - (i + 1))
        case measure => omega
        case rel => exact ⟨i + 1, S, by omega, rfl, by go_num, rfl, rfl, hS, HS1⟩
      · have hki : ((kd : Int) != (k : Int)) = true := by simp; omega
        have HS1 : Hid (S ++ Z = ⟨(jn k (L.take (i + 1))).toArray⟩) := hid (by rw [HSN.out, HS.out, ← HZ.out]; simp only [hk, if_false]; exact str_add _ _)
        have hsz : (S ++ Z).size ≤ 1000000 := by
          rw [HS1.out]
          have := HLE.out
          show (jn k (L.take (i + 1))).toArray.size ≤ _
          rw [List.size_toArray]
          exact this
        have hsz2 : ¬ 9223372036854775807 < S.size + Z.size := by rw [ByteArray.size_append] at hsz; omega
        clear hk
        go_wp2
        go_roundg (n - (i + 1))
        case measure => omega
        case rel => exact ⟨i + 1, S ++ Z, by omega, rfl, by go_num, rfl, rfl, hsz, HS1⟩
    · have hlti : ¬ (i : Int) < (n : Int) := by omega
      have HE : Hid (S = F) := hid (by rw [HS.out, ← HF.out, List.take_of_length_le (by rw [HN.out]; omega)])
      go_wp2
      go_ret
      exact ⟨by rw [HE.out]; rfl, rfl⟩
end Go.Proofs.YtmpjapcijjjlbaaGreatDoor
namespace Go.Proofs.YtmpjapcijjjlbaaGreatDoor
open Go.RowKit
set_option linter.unusedVariables false
set_option linter.unusedSimpArgs false
set_option maxRecDepth 20000 in
theorem edits_any {w : World} (a : Option Addr) (ca : Nat) (s : Str) (hA : PB w a ca s) (hs : s.length ≤ 4000) (b : Option Addr) (cb : Nat) (t : Str) (hB : PB w b cb t) (ht : t.length ≤ 4000) :
    Calls Tryz.prog 5 #[.slice a s.length ca, .slice b t.length cb] w (PostW (edits (lns s) (lns t)) w) := by
  obtain ⟨n, HN⟩ : ∃ n, Hid (s.length = n) := ⟨_, rfl⟩
  obtain ⟨m, HM⟩ : ∃ n, Hid (t.length = n) := ⟨_, rfl⟩
  obtain ⟨g, HG⟩ : ∃ g, Hid (w.heap.size = g) := ⟨_, rfl⟩
  obtain ⟨X, HX⟩ : ∃ X, Hid (lns s = X) := ⟨_, rfl⟩
  obtain ⟨Y, HY⟩ : ∃ X, Hid (lns t = X) := ⟨_, rfl⟩
  have HXl : Hid (X.length ≤ 4000) := hid (by rw [← HX.out]; exact Nat.le_trans (lns_few s) hs)
  have HYl : Hid (Y.length ≤ 4000) := hid (by rw [← HY.out]; exact Nat.le_trans (lns_few t) ht)
  have HXs : Hid (∀ x ∈ X, x.length ≤ 4000) := fun x hx => by have := lns_short s x (by rw [HX.out]; exact hx); omega
  have HYs : Hid (∀ x ∈ Y, x.length ≤ 4000) := fun x hx => by have := lns_short t x (by rw [HY.out]; exact hx); omega
  have C1 : Hid (Calls Tryz.prog 15 #[.slice a n ca] w (PostS X w)) := hid (by rw [← HN.out, ← HX.out]; exact lines_any a ca s hA (by omega))
  have C2 : Hid (∀ W, Below g w W → Calls Tryz.prog 15 #[.slice b m cb] W (PostS Y W)) := fun W hW => by rw [← HM.out, ← HY.out]; exact lines_any b cb t (hB.below (by rw [HG.out]; exact hW)) (by omega)
  rw [HN.out, HM.out, HX.out, HY.out]
  clear hA hB hs ht
  go_enter Tryz.func5, Tryz.ntmps5
  go_wp2_with fail
  refine C1.out.mono ?_
  rintro e w1 ⟨v, rfl, hbs⟩
  obtain ⟨xa, xc, rfl, hps, hxa, _⟩ := hbs.px (d := []) (fun x _ => encS_len x)
  have HB1 : Hid (Below g w w1) := hid (by rw [← HG.out]; exact hbs.below)
  have C2' : Hid (Calls Tryz.prog 15 #[.slice b m cb] w1 (PostS Y w1)) := hid (C2.out w1 HB1.out)
  have HPX1 : Hid (PS w1 xa xc X) := hps
  have HXA : Hid (∀ p : Addr, xa = some p → p.block < w1.heap.size) := fun p hp => (hxa p hp).2
  clear hbs hps hxa
  go_wp2_with fail
  refine C2'.out.mono ?_
  rintro e w2 ⟨v, rfl, hbs⟩
  obtain ⟨ya, yc, rfl, hps, hya, _⟩ := hbs.px (d := []) (fun x _ => encS_len x)
  have HB2 : Hid (Below g w w2) := hid (HB1.out.trans (hbs.below.mono (by have := HB1.out.size; have := HG.out; omega)))
  have C16 : Hid (Calls Tryz.prog 14 #[.slice xa X.length xc, .slice ya Y.length yc] w2 (PostW (edits X Y) w2)) := hid (between_any xa xc X (HPX1.out.below hbs.below) (fun p hp => Nat.lt_of_lt_of_le (HXA.out p hp) hbs.below.size) ya yc Y hps (fun p hp => (hya p hp).2) HXl.out HYl.out HXs.out HYs.out)
  clear hbs hps hya
  go_wp2_with fail
  refine C16.out.mono ?_
  rintro e w3 ⟨v3, rfl, hbe⟩
  have hgs : g ≤ w2.heap.size := by have := HB2.out.size; have := HG.out; omega
  have HFIN : Hid (BE 43 w w3 w.heap.size v3 (edits X Y)) := hid (by
    have hb := HB2.out.trans (hbe.below.mono hgs)
    exact ⟨by rw [HG.out]; exact hb, base_mono hbe.own (by rw [HG.out]; exact hgs), hb.size⟩)
  clear hbe
  go_wp2
  go_ret
  exact ⟨_, rfl, HFIN.out⟩
end Go.Proofs.YtmpjapcijjjlbaaGreatDoor
namespace Go.Proofs.YtmpjapcijjjlbaaGreatDoor
open Go.RowKit
set_option linter.unusedVariables false
set_option linter.unusedSimpArgs false
theorem edF_in : ∀ (k : Nat) (xs ys : List Str), ∀ e ∈ edF k xs ys, e.1 ≤ 2 ∧ (e.2 ∈ xs ∨ e.2 ∈ ys)
  | 0, xs, ys, e, he => by simp [edF] at he
  | k + 1, [], [], e, he => by simp [edF] at he
  | k + 1, x :: xs, [], e, he => by
    simp only [edF, List.mem_cons] at he
    rcases he with rfl | he
    · exact ⟨by simp, .inl (by simp)⟩
    · have := edF_in k xs [] e he
      exact ⟨this.1, this.2.elim (fun h => .inl (by simp [h])) .inr⟩
  | k + 1, [], y :: ys, e, he => by
    simp only [edF, List.mem_cons] at he
    rcases he with rfl | he
    · exact ⟨by simp, .inr (by simp)⟩
    · have := edF_in k [] ys e he
      exact ⟨this.1, this.2.elim .inl (fun h => .inr (by simp [h]))⟩
  | k + 1, x :: xs, y :: ys, e, he => by
    simp only [edF] at he
    split at he
    · rcases List.mem_cons.1 he with rfl | he
      · exact ⟨by simp, .inl (by simp)⟩
      · have := edF_in k xs ys e he
        exact ⟨this.1, this.2.elim (fun h => .inl (by simp [h])) (fun h => .inr (by simp [h]))⟩
    · split at he
      · rcases List.mem_cons.1 he with rfl | he
        · exact ⟨by simp, .inl (by simp)⟩
        · have := edF_in k xs (y :: ys) e he
          exact ⟨this.1, this.2.elim (fun h => .inl (by simp [h])) .inr⟩
      · rcases List.mem_cons.1 he with rfl | he
        · exact ⟨by simp, .inr (by simp)⟩
        · have := edF_in k (x :: xs) ys e he
          exact ⟨this.1, this.2.elim .inl (fun h => .inr (by simp [h]))⟩
theorem mk_in (k : Nat) (l : List Str) (hk : k ≤ 2) : ∀ e ∈ mk k l, e.1 ≤ 2 ∧ e.2 ∈ l := fun e he => by
  obtain ⟨x, hx, rfl⟩ := List.mem_map.1 he
  exact ⟨hk, hx⟩
theorem edits_in (A B : List Str) : ∀ e ∈ edits A B, e.1 ≤ 2 ∧ (e.2 ∈ A ∨ e.2 ∈ B) := fun e he => by
  unfold edits at he
  split at he
  · unfold edL at he
    rcases List.mem_append.1 he with h | h
    · have := mk_in 0 _ (by decide) e h
      exact ⟨this.1, .inl (List.mem_of_mem_take this.2)⟩
    · rcases List.mem_append.1 h with h | h
      · have := mk_in 1 _ (by decide) e h
        exact ⟨this.1, .inl (List.mem_of_mem_drop this.2)⟩
      · have := mk_in 2 _ (by decide) e h
        exact ⟨this.1, .inr (List.mem_of_mem_drop this.2)⟩
  · exact edF_in _ A B e he
theorem edits_len (A B : List Str) : (edits A B).length ≤ A.length + B.length := by
  unfold edits
  split
  · exact edL_len A B
  · exact ed_len A B
def ctx (c : Int) : Nat := (min (max c 0) 1000).toNat
theorem ctx_le (c : Int) : ctx c ≤ 1000 := by unfold ctx; omega
set_option maxRecDepth 20000 in
theorem patch_any {w : World} (a : Option Addr) (ca : Nat) (s : Str) (hA : PB w a ca s) (hs : s.length ≤ 4000) (b : Option Addr) (cb : Nat) (t : Str) (hB : PB w b cb t) (ht : t.length ≤ 4000) (c : Int) (hT : Tab w) :
    Calls Tryz.prog 7 #[.slice a s.length ca, .slice b t.length cb, .int .i64 c] w (PostY (patchT (edits (lns s) (lns t)) (ctx c)) w) := by
  obtain ⟨n, HN⟩ : ∃ n, Hid (s.length = n) := ⟨_, rfl⟩
  obtain ⟨m, HM⟩ : ∃ n, Hid (t.length = n) := ⟨_, rfl⟩
  obtain ⟨g, HG⟩ : ∃ g, Hid (w.heap.size = g) := ⟨_, rfl⟩
  obtain ⟨E, HE⟩ : ∃ E, Hid (edits (lns s) (lns t) = E) := ⟨_, rfl⟩
  obtain ⟨C, HC⟩ : ∃ C, Hid (ctx c = C) := ⟨_, rfl⟩
  have hC : C ≤ 1000 := by rw [← HC.out]; exact ctx_le c
  have hcl : min (max c 0) 1000 = (C : Int) := by rw [← HC.out]; unfold ctx; omega
  have hEl : E.length ≤ 10000 := by rw [← HE.out]; have h1 := edits_len (lns s) (lns t); have h2 := lns_few s; have h3 := lns_few t; omega
  have HEi : Hid (∀ e ∈ E, e.1 ≤ 2 ∧ e.2.length ≤ 4000) := fun e he => by
    have h := edits_in (lns s) (lns t) e (by rw [HE.out]; exact he)
    refine ⟨h.1, ?_⟩
    rcases h.2 with h | h
    · have := lns_short s _ h; omega
    · have := lns_short t _ h; omega
  have C9 : Hid (Calls Tryz.prog 5 #[.slice a n ca, .slice b m cb] w (PostW E w)) := hid (by rw [← HN.out, ← HM.out, ← HE.out]; exact edits_any a ca s hA hs b cb t hB ht)
  have HTb : Hid (∀ W, Below g w W → Tab W) := fun W hW => hT.below (by rw [HG.out]; exact hW)
  rw [HN.out, HM.out, HE.out, HC.out]
  clear hA hB hs ht hT
  go_enter Tryz.func7, Tryz.ntmps7
  go_wp2_with fail
  refine C9.out.mono ?_
  rintro ev w1 ⟨v, rfl, hbe⟩
  obtain ⟨ea, ec, rfl, hpe, _, _⟩ := hbe.px (d := (0, [])) (fun x _ => encE_len x)
  have HB1 : Hid (Below g w w1) := hid (by rw [← HG.out]; exact hbe.below)
  have HPE : Hid (PE w1 ea ec E) := hpe
  obtain ⟨l, HL⟩ : ∃ l, Hid (E.length = l) := ⟨_, rfl⟩
  have C8 : Hid (Calls Tryz.prog 17 #[.slice ea l ec, .int .i64 (C : Int)] w1 (PostH ea ec E (sps E C E.length) w1)) := hid (by have := cut_any ea ec E hpe hEl C hC; rw [HL.out] at this ⊢; exact this)
  clear hbe hpe
  rw [HL.out]
  go_wp2_with fail
  refine C8.out.mono ?_
  rintro ev w2 ⟨v, rfl, hbh⟩
  obtain ⟨ha, hc, rfl, hph, _, _⟩ := hbh.px (d := (0, 0)) (fun x _ => encH_len ea ec E x)
  have HB2 : Hid (Below g w w2) := hid (HB1.out.trans (hbh.below.mono (by have := HB1.out.size; rw [HG.out] at this; exact this)))
  obtain ⟨S, HS⟩ : ∃ S, Hid (sps E C E.length = S) := ⟨_, rfl⟩
  have C7 : Hid (Calls Tryz.prog 16 #[.slice ha S.length hc] w2 (PostY (patchT E C) w2)) := hid (by
    unfold patchT
    rw [HS.out] at hph ⊢
    exact writeHunks_any ea ec E (HPE.out.below hbh.below) hEl HEi.out ha hc S hph (by rw [← HS.out]; exact Nat.le_trans (sps_len E C _) hEl) (fun s hs => by have := sps_ok E C E.length (Nat.le_refl _) s (by rw [HS.out]; exact hs); exact ⟨this.1, this.2.1⟩) (HTb.out w2 HB2.out))
  rw [HS.out]
  clear hbh hph
  go_wp2_with fail
  refine C7.out.mono ?_
  rintro ev w3 ⟨pa, pc, rfl, hpb, hb3⟩
  have HPB : Hid (PB w3 pa pc (patchT E C)) := hpb
  have HB3 : Hid (Below g w w3) := hid (HB2.out.trans (hb3.mono (by have := HB2.out.size; rw [HG.out] at this; exact this)))
  clear hpb hb3
  go_wp2
  go_ret
  exact ⟨_, _, rfl, HPB.out, by rw [HG.out]; exact HB3.out⟩
end Go.Proofs.YtmpjapcijjjlbaaGreatDoor
namespace Go.Proofs.YtmpjapcijjjlbaaGreatDoor
open Go.RowKit
set_option linter.unusedVariables false
set_option linter.unusedSimpArgs false
def IsTrue (w : World) : Ending → World → Prop := fun e w' => e = .returned (.bool true) ∧ Below w.heap.size w w'
theorem walkR_one (a b : Option Addr) (n ca m cb : Nat) (c : Int) (w : World) (h : 4000 < n) : Calls Tryz.prog 3 #[.slice a n ca, .slice b m cb, .int .i64 c] w (IsTrue w) := by
  have hi : (4000 : Int) < (n : Int) := by omega
  have HB : Hid (Below w.heap.size w w) := Below.refl _ _
  go_enter Tryz.func3, Tryz.ntmps3
  go_wp2
  go_ret
  exact ⟨rfl, HB.out⟩
theorem walkR_two (a b : Option Addr) (n ca m cb : Nat) (c : Int) (w : World) (h0 : ¬ 4000 < n) (h : 4000 < m) : Calls Tryz.prog 3 #[.slice a n ca, .slice b m cb, .int .i64 c] w (IsTrue w) := by
  have hj : ¬ (4000 : Int) < (n : Int) := by omega
  have hi : (4000 : Int) < (m : Int) := by omega
  have HB : Hid (Below w.heap.size w w) := Below.refl _ _
  go_enter Tryz.func3, Tryz.ntmps3
  go_wp2
  go_ret
  exact ⟨rfl, HB.out⟩
theorem jn_edits (s t : Str) : jn 2 (edits (lns s) (lns t)) = s ∧ jn 1 (edits (lns s) (lns t)) = t := by
  obtain ⟨h1, h2, _⟩ := edits_sides (lns s) (lns t)
  unfold jn
  exact ⟨(congrArg List.flatten h1).trans (lns_flat s), (congrArg List.flatten h2).trans (lns_flat t)⟩
def PostB (t : Str) (w : World) (G : Nat) (e : Ending) (w' : World) : Prop := Below G w w' ∧ ∃ y yc, e = .returned (.tuple #[.slice y t.length yc, .nilIface]) ∧ PB w' y yc t
theorem apply_back {w : World} (a : Option Addr) (ca : Nat) (s : Str) (hA : PB w a ca s) (hs : s.length ≤ 4000) (t : Str) (ht : t.length ≤ 4000) (c : Nat) (p : Str) (hp : patchT (edits (lns s) (lns t)) c = p) (b : Option Addr) (cb : Nat) (hB : PB w b cb p) (he : Ers w) (hm : Mx w) (hT : Tab w) :
    Calls Tryz.prog 8 #[.slice a s.length ca, .slice b p.length cb] w (PostB t w w.heap.size) := by
  have hl : p.length ≤ 1000000 := by rw [← hp]; exact patch_len s t c hs ht
  refine (apply_any a ca s hA (by omega) b cb p hB hl he hm hT).mono ?_
  rintro e w' ⟨hb, l, hr, h⟩
  rw [← hp] at hr h
  obtain ⟨hg, hc⟩ := patch_round s t c hs ht l hr
  rcases h with ⟨_, M, h1, _, y, yc, h2, h3⟩ | ⟨_, h1, _⟩ | ⟨h1, _⟩
  · rw [hc] at h1
    cases h1
    rw [lns_flat] at h2 h3
    exact ⟨hb, y, yc, h2, h3⟩
  · exact absurd (lns_arl t) (h1 _ hc)
  · exact absurd hg h1
set_option maxRecDepth 20000 in
set_option maxHeartbeats 4000000 in
theorem walkR {w : World} (a : Option Addr) (ca : Nat) (s : Str) (hA : PB w a ca s) (hs : s.length ≤ 4000) (b : Option Addr) (cb : Nat) (t : Str) (hB : PB w b cb t) (ht : t.length ≤ 4000) (c : Int) (he : Ers w) (hm : Mx w) (hT : Tab w) :
    Calls Tryz.prog 3 #[.slice a s.length ca, .slice b t.length cb, .int .i64 c] w (IsTrue w) := by
  obtain ⟨n, HN⟩ : ∃ n, Hid (s.length = n) := ⟨_, rfl⟩
  obtain ⟨m, HM⟩ : ∃ n, Hid (t.length = n) := ⟨_, rfl⟩
  obtain ⟨g, HG⟩ : ∃ g, Hid (w.heap.size = g) := ⟨_, rfl⟩
  obtain ⟨P, HP⟩ : ∃ P, Hid (patchT (edits (lns s) (lns t)) (ctx c) = P) := ⟨_, rfl⟩
  obtain ⟨Q, HQ⟩ : ∃ P, Hid (patchT (edits (lns t) (lns s)) (ctx c) = P) := ⟨_, rfl⟩
  obtain ⟨E, HE⟩ : ∃ E, Hid (edits (lns s) (lns t) = E) := ⟨_, rfl⟩
  obtain ⟨SA, HSA⟩ : ∃ Z : ByteArray, Hid (⟨s.toArray⟩ = Z) := ⟨_, hid rfl⟩
  obtain ⟨SB, HSB⟩ : ∃ Z : ByteArray, Hid (⟨t.toArray⟩ = Z) := ⟨_, hid rfl⟩
  have hI : ¬ (4000 : Int) < (n : Int) := by have := HN.out; omega
  have hJ : ¬ (4000 : Int) < (m : Int) := by have := HM.out; omega
  have HSL := hid hs
  have HTL := hid ht
  have HEl : Hid (E.length ≤ 1000000) := hid (by rw [← HE.out]; have h1 := editsLen (lns s) (lns t); have h2 := lns_few s; have h3 := lns_few t; omega)
  have HJA : Hid (jn 2 E = s) := hid (by rw [← HE.out]; exact (jn_edits s t).1)
  have HJB : Hid (jn 1 E = t) := hid (by rw [← HE.out]; exact (jn_edits s t).2)
  have HPA : Hid (∀ W, Below g w W → PB W a ca s) := hid (fun W hW => hA.below (by rw [HG.out]; exact hW))
  have HPB : Hid (∀ W, Below g w W → PB W b cb t) := hid (fun W hW => hB.below (by rw [HG.out]; exact hW))
  have HTB : Hid (∀ W, Below g w W → Tab W) := hid (fun W hW => hT.below (by rw [HG.out]; exact hW))
  have HER : Hid (∀ W, Below g w W → Ers W) := hid (fun W hW => he.below (by rw [HG.out]; exact hW))
  have HMX : Hid (∀ W, Below g w W → Mx W) := hid (fun W hW => hm.below (by rw [HG.out]; exact hW))
  have HCA : Hid (∀ W, Below g w W → (convert 22 9 (.slice a n ca)).run Tryz.prog W = .ok (.string SA) W) := hid (fun W hW => by
    have := conv_str (HPA.out W hW)
    unfold sV at this
    rw [HN.out, HSA.out] at this
    exact this)
  have HCB : Hid (∀ W, Below g w W → (convert 22 9 (.slice b m cb)).run Tryz.prog W = .ok (.string SB) W) := hid (fun W hW => by
    have := conv_str (HPB.out W hW)
    unfold sV at this
    rw [HM.out, HSB.out] at this
    exact this)
  have HGS : Hid (∀ W, Below g w W → g ≤ W.heap.size) := hid (fun W hW => by have := hW.size; have := HG.out; omega)
  have C5 : Hid (Calls Tryz.prog 5 #[.slice a n ca, .slice b m cb] w (PostW E w)) := hid (by rw [← HN.out, ← HM.out, ← HE.out]; exact edits_any a ca s hA hs b cb t hB ht)
  have C7 : Hid (∀ W, Below g w W → Calls Tryz.prog 7 #[.slice a n ca, .slice b m cb, .int .i64 c] W (PostY P W)) := hid (fun W hW => by rw [← HN.out, ← HM.out, ← HP.out]; exact patch_any a ca s (HPA.out W hW) HSL.out b cb t (HPB.out W hW) HTL.out c (HTB.out W hW))
  have C7' : Hid (∀ W, Below g w W → Calls Tryz.prog 7 #[.slice b m cb, .slice a n ca, .int .i64 c] W (PostY Q W)) := hid (fun W hW => by rw [← HN.out, ← HM.out, ← HQ.out]; exact patch_any b cb t (HPB.out W hW) HTL.out a ca s (HPA.out W hW) HSL.out c (HTB.out W hW))
  have HNONE : Hid (P = [] ↔ s = t) := hid (by rw [← HP.out]; exact patch_none s t (ctx c))
  obtain ⟨pl, HPL⟩ : ∃ l, Hid (P.length = l) := ⟨_, rfl⟩
  obtain ⟨ql, HQL⟩ : ∃ l, Hid (Q.length = l) := ⟨_, rfl⟩
  have C8 : Hid (∀ W, Below g w W → ∀ pa pc, PB W pa pc P → Calls Tryz.prog 8 #[.slice a n ca, .slice pa pl pc] W (PostB t W W.heap.size)) := hid (fun W hW pa pc hpb => by
    rw [← HN.out, ← HPL.out]
    exact apply_back a ca s (HPA.out W hW) HSL.out t HTL.out (ctx c) P HP.out pa pc hpb (HER.out W hW) (HMX.out W hW) (HTB.out W hW))
  have C8' : Hid (∀ W, Below g w W → ∀ pa pc, PB W pa pc Q → Calls Tryz.prog 8 #[.slice b m cb, .slice pa ql pc] W (PostB s W W.heap.size)) := hid (fun W hW pa pc hpb => by
    rw [← HM.out, ← HQL.out]
    exact apply_back b cb t (HPB.out W hW) HTL.out s HSL.out (ctx c) Q HQ.out pa pc hpb (HER.out W hW) (HMX.out W hW) (HTB.out W hW))
  have C9 : Hid (∀ W, Below g w W → ∀ y yc, PB W y yc t → Calls Tryz.prog 9 #[.slice y m yc, .slice b m cb] W fun e w' => e = .returned (.bool true) ∧ ∃ n, w' = W.drewN n) := hid (fun W hW y yc hy => by
    rw [← HM.out]
    exact same_pb y yc b cb t hy (HPB.out W hW) (by have := HTL.out; omega))
  have C9' : Hid (∀ W, Below g w W → ∀ y yc, PB W y yc s → Calls Tryz.prog 9 #[.slice y n yc, .slice a n ca] W fun e w' => e = .returned (.bool true) ∧ ∃ n, w' = W.drewN n) := hid (fun W hW y yc hy => by
    rw [← HN.out]
    exact same_pb y yc a ca s hy (HPA.out W hW) (by have := HSL.out; omega))
  rw [HN.out, HM.out]
  clear hA hB hs ht hT he hm
  go_enter Tryz.func3, Tryz.ntmps3
  go_wp2_with fail
  refine C5.out.mono ?_
  rintro ev w1 ⟨v, rfl, hbe⟩
  obtain ⟨ea, ec, rfl, hpe, _, _⟩ := hbe.px (d := (0, [])) (fun x _ => encE_len x)
  have HB1 : Hid (Below g w w1) := hid (by rw [← HG.out]; exact hbe.below)
  obtain ⟨l, HL⟩ : ∃ l, Hid (E.length = l) := ⟨_, rfl⟩
  have C6 : Hid (Calls Tryz.prog 6 #[.slice ea l ec, .int .i64 2] w1 fun e w' => e = .returned (.string SA) ∧ w' = w1) := hid (by
    have := joined_any ea ec E hpe HEl.out 2 (by rw [HJA.out]; have := HSL.out; omega)
    rw [HL.out, HJA.out, HSA.out] at this
    exact this)
  have C6' : Hid (Calls Tryz.prog 6 #[.slice ea l ec, .int .i64 1] w1 fun e w' => e = .returned (.string SB) ∧ w' = w1) := hid (by
    have := joined_any ea ec E hpe HEl.out 1 (by rw [HJB.out]; have := HTL.out; omega)
    rw [HL.out, HJB.out, HSB.out] at this
    exact this)
  clear hbe hpe
  rw [HL.out]
  go_wp2_with fail
  refine C6.out.mono ?_
  rintro ev w2 ⟨rfl, rfl⟩
  go_wp2_with fail
  refine C6'.out.mono ?_
  rintro ev w3 ⟨rfl, rfl⟩
  go_wp2_with fail
  refine (C7.out _ HB1.out).mono ?_
  rintro ev w4 ⟨pa, pc, rfl, hp4, hb4⟩
  rw [HPL.out]
  have HB4 : Hid (Below g w w4) := hid (HB1.out.trans (hb4.mono (HGS.out _ HB1.out)))
  have HP4 : Hid (∀ W, Below w4.heap.size w4 W → PB W pa pc P) := hid (fun W hW => hp4.below hW)
  clear hp4 hb4
  go_wp2_with fail
  refine (C7'.out _ HB4.out).mono ?_
  rintro ev w5 ⟨qa, qc, rfl, hp5, hb5⟩
  rw [HQL.out]
  have HB5 : Hid (Below g w w5) := hid (HB4.out.trans (hb5.mono (HGS.out _ HB4.out)))
  have HQ5 : Hid (∀ W, Below w5.heap.size w5 W → PB W qa qc Q) := hid (fun W hW => hp5.below hW)
  have C8a := hid (C8.out w5 HB5.out pa pc (HP4.out w5 hb5))
  clear hp5 hb5
  go_wp2_with fail
  refine C8a.out.mono ?_
  rintro ev w6 ⟨hb6, y, yc, rfl, hy⟩
  rw [HM.out]
  have HB6 : Hid (Below g w w6) := hid (HB5.out.trans (hb6.mono (HGS.out _ HB5.out)))
  have HY6 : Hid (∀ W, Below w6.heap.size w6 W → PB W y yc t) := hid (fun W hW => hy.below hW)
  have C8b := hid (C8'.out w6 HB6.out qa qc (HQ5.out w6 hb6))
  clear hb6 hy
  go_wp2_with fail
  refine C8b.out.mono ?_
  rintro ev w7 ⟨hb7, z, zc, rfl, hz⟩
  rw [HN.out]
  have HB7 : Hid (Below g w w7) := hid (HB6.out.trans (hb7.mono (HGS.out _ HB6.out)))
  have HZ7 : Hid (∀ W, Below w7.heap.size w7 W → PB W z zc s) := hid (fun W hW => hz.below hW)
  have C9a := hid (C9.out w7 HB7.out y yc (HY6.out w7 hb7))
  clear hb7 hz
  go_wp2_with fail
  refine C9a.out.mono ?_
  rintro ev w8 ⟨rfl, k8, e8⟩
  have HB78 : Hid (Below w7.heap.size w7 w8) := hid (by rw [e8]; exact below_drewH (Below.refl _ _) k8)
  have HB8 : Hid (Below g w w8) := hid (HB7.out.trans (HB78.out.mono (HGS.out _ HB7.out)))
  have C9b := hid (C9'.out w8 HB8.out z zc (HZ7.out w8 HB78.out))
  clear e8
  go_wp2_with fail
  refine C9b.out.mono ?_
  rintro ev w9 ⟨rfl, k9, e9⟩
  have HB9 : Hid (Below g w w9) := hid (by rw [e9]; exact below_drewH HB8.out k9)
  clear e9
  have hca := HCA.out w9 HB9.out
  have hcb := HCB.out w9 HB9.out
  have TL : Hid (∀ W, Below g w W → Calls Tryz.prog 10 #[.nilIface] W fun e w' => e = .returned (.int .i64 0) ∧ Below g w w') := hid (fun W hW => (tell_nil W).mono (fun e w' h => ⟨h.1, hW.trans (h.2.mono (HGS.out _ hW))⟩))
  by_cases hst : s = t
  · have hab : (SA.toList == SB.toList) = true := by rw [← HSA.out, ← HSB.out, hst]; simp
    have habp : SA.toList = SB.toList := by rw [← HSA.out, ← HSB.out, hst]
    have hpl : (pl : Int) = 0 := by rw [← HPL.out, HNONE.out.2 hst]; rfl
    clear hst
    go_wp2_with fail
    refine (TL.out _ HB9.out).mono ?_
    rintro ev w10 ⟨rfl, hb10⟩
    have HB10 := hid hb10
    clear hb10
    go_wp2_with fail
    refine (TL.out _ HB10.out).mono ?_
    rintro ev w11 ⟨rfl, hb11⟩
    have HB11 := hid hb11
    clear hb11
    go_wp2
    go_ret
    exact ⟨rfl, by rw [HG.out]; exact HB11.out⟩
  · have hab : (SA.toList == SB.toList) = false := by
      rw [← HSA.out, ← HSB.out]
      simp
      exact hst
    have habp : ¬ SA.toList = SB.toList := by
      rw [← HSA.out, ← HSB.out]
      simp
      exact hst
    have hpl : ¬ (pl : Int) = 0 := fun e => hst (HNONE.out.1 (List.length_eq_zero_iff.1 (by rw [HPL.out]; omega)))
    have hplb : ((pl : Int) == 0) = false := by simp; omega
    clear hst
    go_wp2_with fail
    refine (TL.out _ HB9.out).mono ?_
    rintro ev w10 ⟨rfl, hb10⟩
    have HB10 := hid hb10
    clear hb10
    go_wp2_with fail
    refine (TL.out _ HB10.out).mono ?_
    rintro ev w11 ⟨rfl, hb11⟩
    have HB11 := hid hb11
    clear hb11
    go_wp2
    go_ret
    exact ⟨rfl, by rw [HG.out]; exact HB11.out⟩
end Go.Proofs.YtmpjapcijjjlbaaGreatDoor
