/- The document's 'WriteIdx'. -/
import Derived.Test.YtdfihfmmfmoabaaDoorPkS
namespace Go.Proofs.YtdfihfmmfmoabaaDoor
open Go.RowKit Go.Shelf
variable [Inhabited Pn]
set_option linter.unusedVariables false
set_option linter.unusedSectionVars false
set_option linter.unusedSimpArgs false
/-- What it gives. -/
def PostWd (l : List Pl) (sum : List Int) (w : World) (e : Ending) (w' : World) : Prop := Below w.heap.size w w' ∧
  ((okX l ∧ ∃ a cap, e = .returned (.tuple #[.slice a (idxF (srtI l) sum).length cap, .int .i64 0]) ∧ Sl w' a cap (idxF (srtI l) sum)) ∨ (¬ okX l ∧ e = .returned (.tuple #[.slice none 0 0, .int .i64 42])))
/-- So far all is well. -/
def GdD (s : List Pl) (i : Nat) : Prop := ∀ j, j < i → (0 ≤ (s.getD j p0).off ∧ (s.getD j p0).off ≤ 2147483647) ∧ ∀ k, k < j → (s.getD k p0).id ≠ (s.getD j p0).id
theorem GdD.ok {s : List Pl} (h : GdD s s.length) : okX s := by
  have hg : ∀ k (hk : k < s.length), s.getD k p0 = s[k] := fun k hk => by rw [List.getD_eq_getElem?_getD, List.getElem?_eq_getElem hk]; rfl
  refine ⟨fun p hp => ?_, ?_⟩
  · obtain ⟨i, hi, rfl⟩ := List.getElem_of_mem hp
    have := (h i hi).1
    rwa [hg i hi] at this
  · unfold List.Nodup
    rw [List.pairwise_map, List.pairwise_iff_getElem]
    intro i j hi hj hij
    have := (h j hj).2 i hij
    rwa [hg i hi, hg j hj] at this
theorem badD_off {s : List Pl} {i : Nat} (hi : i < s.length) (h : ¬ (0 ≤ (s.getD i p0).off ∧ (s.getD i p0).off ≤ 2147483647)) : ¬ okX s := fun hk => by
  have hm : s.getD i p0 ∈ s := by rw [List.getD_eq_getElem?_getD, List.getElem?_eq_getElem hi]; exact List.getElem_mem _
  exact h (hk.1 _ hm)
theorem badD_id {s : List Pl} {i k : Nat} (hk : k < i) (hi : i < s.length) (h : (s.getD k p0).id = (s.getD i p0).id) : ¬ okX s := fun ho => by
  have h1 := List.pairwise_iff_getElem.1 ho.2 k i (by simp; omega) (by simpa using hi) hk
  simp only [List.getElem_map] at h1
  rw [List.getD_eq_getElem?_getD, List.getElem?_eq_getElem (show k < s.length by omega), List.getD_eq_getElem?_getD, List.getElem?_eq_getElem hi] at h
  exact h1 h
/-- What the test of two ids reads. -/
structure Q2 (b o1 o2 : Nat) (R1 R2 : List Value) (W : World) : Prop where
  r1 : W.rangeAt b o1 R1
  r2 : W.rangeAt b o2 R2
theorem bd_head (w : World) : Bd w (w.alloc (.cells #[.int .u8 255, .int .u8 116, .int .u8 79, .int .u8 99] 5)) w.heap.size (.slice (some ⟨w.heap.size, 0, none⟩) 4 4) [255, 116, 79, 99] :=
  ⟨(Below.refl _ w).alloc (Nat.le_refl _) _, ⟨rfl, .inr ⟨w.heap.size, 4, _, rfl, Nat.le_refl _, heap_alloc_new w _, Nat.le_refl _, by unfold maxLen; omega, rfl, rfl⟩⟩, by simp⟩
theorem cl_snoc (s : List Pl) (i f : Nat) (h : i < s.length) : cl (s.take (i + 1)) f = cl (s.take i) f + if hd (s.getD i p0) < (f : Int) then 1 else 0 := by
  rw [take_snocP2 s i h]
  unfold cl
  rw [List.countP_append]
  by_cases h2 : hd (s.getD i p0) < (f : Int)
  · rw [if_pos h2]; simp at h2 ⊢; exact h2
  · rw [if_neg h2]; simp at h2 ⊢; exact h2
theorem flat_snoc2 (f : Pl → List Int) (s : List Pl) (i : Nat) (h : i < s.length) : (s.take (i + 1)).flatMap f = (s.take i).flatMap f ++ f (s.getD i p0) := by
  rw [take_snocP2 s i h, List.flatMap_append]; simp
theorem flat_le2 (f : Pl → List Int) (k : Nat) (s : List Pl) (i : Nat) (h : ∀ p ∈ s, (f p).length = k) : ((s.take i).flatMap f).length ≤ k * s.length := by
  rw [flat_len f k (s.take i) (fun p hp => h p (List.mem_of_mem_take hp))]
  exact Nat.mul_le_mul_left k (by rw [List.length_take]; omega)
theorem hd_bd (x : Pl) (h1 : x.id.length = 20) (h2 : IsB x.id) : 0 ≤ hd x ∧ hd x < 256 := by
  unfold hd
  cases hc : x.id with
  | nil => rw [hc] at h1; simp at h1
  | cons y r => rw [hc] at h2; exact h2 y (by simp)
set_option maxRecDepth 20000 in
set_option maxHeartbeats 8000000 in
theorem refWrite_any (a : Option Addr) (cap : Nat) (l : List Pl) (sum : List Int) (hs20 : sum.length = 20) (hsb : IsB sum) (w : World) (hw : Wp l) (hl : l.length ≤ 1000) (hP : Pp w a cap l) :
    Calls Tryd.prog 6 #[.slice a l.length cap, .agg (row .u8 sum).toArray] w (PostWd l sum w) := by
  obtain ⟨n, HN⟩ : ∃ n, Hid (l.length = n) := ⟨_, rfl⟩
  obtain ⟨G, HG⟩ : ∃ G, Hid (w.heap.size = G) := ⟨_, rfl⟩
  obtain ⟨SU, HSU⟩ : ∃ S : List Value, Hid (row .u8 sum = S) := ⟨_, rfl⟩
  obtain ⟨zr, HZ⟩ : ∃ zr : Array Value, Hid (zr = (row .u8 z20).toArray) := ⟨_, rfl⟩
  have hz23 : ∀ w : World, (zeroValue 23).run Tryd.prog w = .ok (.agg zr) w := fun w => by rw [HZ.out]; kernel_rfl
  have hn : n ≤ 1000 := by rw [← HN.out]; exact hl
  have HWP : Hid (Wp l) := hw
  have HWF : Hid (∀ x ∈ l, x.id.length = 20) := fun p hp => (hw p hp).1
  obtain ⟨w1, HW1⟩ : ∃ w1, Hid (w.alloc (.cells SU.toArray 23) = w1) := ⟨_, rfl⟩
  have hb1 : Below w.heap.size w w1 := by rw [← HW1.out]; exact (Below.refl _ w).alloc (Nat.le_refl _) _
  have HB1 : Hid (Below G w w1) := hid (by rw [← HG.out]; exact hb1)
  have HS1 : Hid (w1.heap[G]? = some (.cells SU.toArray 23 (0, 0))) := hid (by rw [← HW1.out, ← HG.out]; exact heap_alloc_new w _)
  obtain ⟨H, HH⟩ : ∃ H, Hid (w1.heap.size = H) := ⟨_, rfl⟩
  have hGH : G < H := by rw [← HH.out]; exact lt_of_some HS1.out
  have HPP : Hid (∀ W, Below H w1 W → Pp W a cap l) := fun W hW => (hP.below hb1).below (by rw [HH.out]; exact hW)
  have HPL : Hid (0 < n → ∃ b off, a = some ⟨b, off, none⟩) := fun h0 => by
    obtain ⟨b, off, e1, e2, _⟩ := hP.at_ (by rw [HN.out]; exact h0)
    exact ⟨b, off, e1⟩
  have hcap : n ≤ cap := by rw [← HN.out]; exact hP.capl
  have HBW : Hid (∀ W, Below H w1 W → Below G w W) := fun W hW => HB1.out.trans (hW.mono (Nat.le_of_lt hGH))
  have h5000 : ¬ (5000 : Int) < (n : Int) := by omega
  rw [HN.out, HSU.out]
  clear hP hw hb1
  go_enter Tryd.func6, Tryd.ntmps6
  go_wp2_with fail
  rw [HW1.out]
  try rw [HG.out]
  go_loopg [6] n (fun g iv wr => ∃ i : Nat, i ≤ n ∧ g = n - i ∧ iv = .int .i64 i ∧ Hid (Below H w1 wr) ∧ Hid (GdD l i))
  case atStart => exact ⟨0, Nat.zero_le _, rfl, rfl, hid (by rw [← HH.out]; exact Below.refl _ _), fun j hj => by omega⟩
  case round =>
    obtain ⟨i, hi, hg, rfl, HBr, HGd⟩ := hrel
    by_cases hlt : i < n
    · have hlti : (i : Int) < (n : Int) := by omega
      obtain ⟨b, off, hae⟩ := HPL.out (by omega)
      subst hae
      obtain ⟨x, HX⟩ : ∃ x, Hid (l.getD i p0 = x) := ⟨_, rfl⟩
      have hxm : x ∈ l := by
        rw [← HX.out, List.getD_eq_getElem?_getD, List.getElem?_eq_getElem (by rw [HN.out]; exact hlt)]
        exact List.getElem_mem _
      have HX20 : Hid (x.id.length = 20) := (HWP.out x hxm).1
      have HRG : Hid (∀ W, Below H w1 W → ∀ k, k < n → W.rangeAt b (off + k * 22) (plV (l.getD k p0))) := fun W hW k hk => by
        obtain ⟨b', off', e1, e2, e3⟩ := (HPP.out W hW).at_ (by rw [HN.out]; omega)
        cases e1
        exact e3 k (by rw [HN.out]; exact hk)
      obtain ⟨o, HOF⟩ : ∃ o, Hid (x.off = o) := ⟨_, rfl⟩
      have c20 : wr.cell? ⟨b, off + i * 22 + 20, none⟩ = some (.int .i64 o) := by rw [← HOF.out, ← HX.out]; exact pl_off (HRG.out wr HBr.out i hlt) (by rw [HX.out]; exact HX20.out)
      have HXI : Hid (i < l.length) := hid (by rw [HN.out]; exact hlt)
      clear hxm
      by_cases ho1 : o < 0
      · have HBAD : Hid (¬ okX l) := hid (badD_off HXI.out (by rw [HX.out, HOF.out]; omega))
        go_wp2
        go_ret2
        exact ⟨by rw [HG.out]; exact HBW.out _ HBr.out, .inr ⟨HBAD.out, rfl⟩⟩
      by_cases ho2 : 2147483648 ≤ o
      · have HBAD : Hid (¬ okX l) := hid (badD_off HXI.out (by rw [HX.out, HOF.out]; omega))
        go_wp2
        go_ret2
        exact ⟨by rw [HG.out]; exact HBW.out _ HBr.out, .inr ⟨HBAD.out, rfl⟩⟩
      have HOK1 : Hid (0 ≤ (l.getD i p0).off ∧ (l.getD i p0).off ≤ 2147483647) := hid (by rw [HX.out, HOF.out]; omega)
      obtain ⟨RX, HRX⟩ : ∃ R : List Value, Hid (row .u8 x.id = R) := ⟨_, rfl⟩
      have hiRX : (Tryd.prog.info? 23).map (·.size) = some RX.length := by rw [← HRX.out, row_len, HX20.out]; kernel_rfl
      go_wp2_with fail
      clear c20
      go_loopg [7] i (fun g2 kv wq => ∃ k : Nat, k ≤ i ∧ g2 = i - k ∧ kv = .int .i64 k ∧ Hid (Below H w1 wq) ∧ Hid (∀ q, q < k → (l.getD q p0).id ≠ (l.getD i p0).id))
      case atStart => exact ⟨0, Nat.zero_le _, rfl, rfl, HBr, hid (fun q hq => absurd hq (Nat.not_lt_zero _))⟩
      case round =>
        obtain ⟨k, hk, hg2, rfl, HBq, HNE⟩ := hrel
        by_cases hki : k < i
        · have hkii : (k : Int) < (i : Int) := by omega
          have hkn : (k : Int) < (n : Int) := by omega
          obtain ⟨y, HY⟩ : ∃ y, Hid (l.getD k p0 = y) := ⟨_, rfl⟩
          have hym : y ∈ l := by
            rw [← HY.out, List.getD_eq_getElem?_getD, List.getElem?_eq_getElem (by rw [HN.out]; omega)]
            exact List.getElem_mem _
          have HY20 : Hid (y.id.length = 20) := (HWP.out y hym).1
          clear hym
          obtain ⟨RY, HRY⟩ : ∃ R : List Value, Hid (row .u8 y.id = R) := ⟨_, rfl⟩
          have hiRY : (Tryd.prog.info? 23).map (·.size) = some RY.length := by rw [← HRY.out, row_len, HY20.out]; kernel_rfl
          obtain ⟨eb, HEB⟩ : ∃ eb : Bool, Hid (decide (y.id = x.id) = eb) := ⟨_, rfl⟩
          have heq : ∀ w : World, (Op.equalIn 10000 23 (.agg RY.toArray) (.agg RX.toArray)).run Tryd.prog w = .ok eb w := fun w => by
            rw [← HRX.out, ← HRY.out, ← HEB.out]
            exact eq23 y.id x.id HY20.out HX20.out w
          have HBd : Hid (Below H w1 wr.drew) := hid (below_drewH HBq.out 1)
          have HQ0 : Hid (Q2 b (off + k * 22) (off + i * 22) RY RX wr.drew) := hid ⟨by
            rw [← HRY.out, ← HY.out]; exact pl_id (HRG.out _ HBd.out k (by omega)), by
            rw [← HRX.out, ← HX.out]; exact pl_id (HRG.out _ HBd.out i hlt)⟩
          go_wp2_with fail
          refine wp_region_held_drew (S := Q2 b (off + k * 22) (off + i * 22) RY RX) (by kernel_rfl) (by exact HQ0.out) (fun hHeld => ?_)
          generalize wr.drew = u0 at hHeld HQ0 HBd ⊢
          clear HQ0
          refine takeL (i := 0) (v := ?_) rfl (by kernel_rfl) (by kernel_rfl) (by kernel_rfl) (fun _ _ _ h => h) (Or.inl ⟨by rfl, ?_⟩) hHeld ?_
          rotate_left
          · rintro w' ⟨r1, r2⟩; go_simp; rfl
          try simp only [Act.put, List.setIfInBounds_toArray, List.set_cons_zero, List.set_cons_succ]
          refine takeL (i := 1) (v := ?_) rfl (by kernel_rfl) (by kernel_rfl) (by kernel_rfl) (fun _ _ _ h => h) (Or.inl ⟨by rfl, ?_⟩) hHeld ?_
          rotate_left
          · rintro w' ⟨r1, r2⟩; go_simp; rfl
          try simp only [Act.put, List.setIfInBounds_toArray, List.set_cons_zero, List.set_cons_succ]
          refine takeL (i := 2) (v := ?_) rfl (by kernel_rfl) (by kernel_rfl) (by kernel_rfl) (fun _ _ _ h => h) (Or.inl ⟨by rfl, ?_⟩) hHeld ?_
          rotate_left
          · rintro w' ⟨r1, r2⟩; go_simp; rfl
          try simp only [Act.put, List.setIfInBounds_toArray, List.set_cons_zero, List.set_cons_succ]
          refine takeL (i := 3) (v := ?_) rfl (by kernel_rfl) (by kernel_rfl) (by kernel_rfl) (fun _ _ _ h => h) (Or.inl ⟨by rfl, ?_⟩) hHeld ?_
          rotate_left
          · rintro w' ⟨r1, r2⟩; go_simp; rfl
          try simp only [Act.put, List.setIfInBounds_toArray, List.set_cons_zero, List.set_cons_succ]
          refine takeL (i := 4) (v := .agg RY.toArray) rfl (by kernel_rfl) (by kernel_rfl) (by kernel_rfl) (fun _ _ _ h => h) (yieldsIf_load_mid (by kernel_rfl) 23 _ rfl b (off + k * 22) (by rfl) RY _ (fun w' h => h.r1) Tryd.underlying23 rfl hiRY) hHeld ?_
          try simp only [Act.put, List.setIfInBounds_toArray, List.set_cons_zero, List.set_cons_succ]
          refine takeL (i := 5) (v := ?_) rfl (by kernel_rfl) (by kernel_rfl) (by kernel_rfl) (fun _ _ _ h => h) (Or.inl ⟨by rfl, ?_⟩) hHeld ?_
          rotate_left
          · rintro w' ⟨r1, r2⟩; go_simp; rfl
          try simp only [Act.put, List.setIfInBounds_toArray, List.set_cons_zero, List.set_cons_succ]
          refine takeL (i := 6) (v := ?_) rfl (by kernel_rfl) (by kernel_rfl) (by kernel_rfl) (fun _ _ _ h => h) (Or.inl ⟨by rfl, ?_⟩) hHeld ?_
          rotate_left
          · rintro w' ⟨r1, r2⟩; go_simp; rfl
          try simp only [Act.put, List.setIfInBounds_toArray, List.set_cons_zero, List.set_cons_succ]
          refine takeL (i := 7) (v := ?_) rfl (by kernel_rfl) (by kernel_rfl) (by kernel_rfl) (fun _ _ _ h => h) (Or.inl ⟨by rfl, ?_⟩) hHeld ?_
          rotate_left
          · rintro w' ⟨r1, r2⟩; go_simp; rfl
          try simp only [Act.put, List.setIfInBounds_toArray, List.set_cons_zero, List.set_cons_succ]
          refine takeL (i := 8) (v := ?_) rfl (by kernel_rfl) (by kernel_rfl) (by kernel_rfl) (fun _ _ _ h => h) (Or.inl ⟨by rfl, ?_⟩) hHeld ?_
          rotate_left
          · rintro w' ⟨r1, r2⟩; go_simp; rfl
          try simp only [Act.put, List.setIfInBounds_toArray, List.set_cons_zero, List.set_cons_succ]
          refine takeL (i := 9) (v := .agg RX.toArray) rfl (by kernel_rfl) (by kernel_rfl) (by kernel_rfl) (fun _ _ _ h => h) (yieldsIf_load_mid (by kernel_rfl) 23 _ rfl b (off + i * 22) (by rfl) RX _ (fun w' h => h.r2) Tryd.underlying23 rfl hiRX) hHeld ?_
          try simp only [Act.put, List.setIfInBounds_toArray, List.set_cons_zero, List.set_cons_succ]
          refine takeL (i := 10) (v := .bool eb) rfl (by kernel_rfl) (by kernel_rfl) (by kernel_rfl) (fun _ _ _ h => h) (Or.inl ⟨by rfl, ?_⟩) hHeld ?_
          · rintro w' ⟨r1, r2⟩; go_simp; try rfl
          try simp only [Act.put, List.setIfInBounds_toArray, List.set_cons_zero, List.set_cons_succ]
          refine wpAnyH_done (by kernel_rfl) ?_ _
          clear hHeld heq
          cases eb with
          | true =>
            have HBAD : Hid (¬ okX l) := hid (badD_id hki HXI.out (by rw [HX.out, HY.out]; exact of_decide_eq_true HEB.out))
            go_wp2
            go_ret2
            exact ⟨by rw [HG.out]; exact HBW.out _ HBd.out, .inr ⟨HBAD.out, rfl⟩⟩
          | false =>
            have HNK : Hid (∀ q, q < k + 1 → (l.getD q p0).id ≠ (l.getD i p0).id) := fun q hq => by
              by_cases hqk : q < k
              · exact HNE.out q hqk
              · have : q = k := by omega
                subst this
                rw [HX.out, HY.out]
                exact of_decide_eq_false HEB.out
            go_wp2
            go_roundg (i - (k + 1))
            case measure => omega
            case rel => exact ⟨k + 1, by omega, rfl, by go_num, HBd, HNK⟩
        · have hkii : ¬ (k : Int) < (i : Int) := by omega
          have HGN : Hid (GdD l (i + 1)) := fun j hj => by
            by_cases hji : j < i
            · exact HGd.out j hji
            · have : j = i := by omega
              subst this
              exact ⟨HOK1.out, fun q hq => HNE.out q (by omega)⟩
          clear HNE
          go_wp2
          go_roundg (n - (i + 1))
          case measure => omega
          case rel => exact ⟨i + 1, by omega, rfl, by go_num, HBq, HGN⟩
    · have hlti : ¬ (i : Int) < (n : Int) := by omega
      have HOK : Hid (okX l) := hid (GdD.ok (by rw [HN.out]; have : i = n := by omega
                                                rw [← this]; exact HGd.out))
      clear HGd
      have C15 : Hid (Calls Tryd.prog 15 #[.slice a n cap] wr fun e w' => Below wr.heap.size wr w' ∧ ∃ a' cap', e = .returned (.slice a' n cap') ∧ Pp w' a' cap' (srtI l)) := hid (by
        have := sorted_any a cap l HWF.out (by rw [HN.out]; exact hn) wr (HPP.out wr HBr.out)
        rw [HN.out] at this
        exact this)
      go_wp2_with fail
      refine C15.out.mono ?_
      rintro ev wS ⟨hbS, a3, cap3, rfl, hpS⟩
      obtain ⟨s, HSE⟩ : ∃ s, Hid (srtI l = s) := ⟨_, rfl⟩
      rw [HSE.out] at hpS
      have HSP : Hid (s.Perm l) := hid (by rw [← HSE.out]; exact (srtI_both l).1)
      have HSR : Hid (SrtP s) := hid (by rw [← HSE.out]; exact (srtI_both l).2)
      have HWS : Hid (Wp s) := wp_perm HSP.out HWP.out
      have HNS : Hid (s.length = n) := hid (by rw [HSP.out.length_eq, HN.out])
      have HBS : Hid (Below H w1 wS) := hid (HBr.out.trans (hbS.mono (by have := HBr.out.size; rw [HH.out] at this; exact this)))
      clear hbS HBr C15
      obtain ⟨S, HSS⟩ : ∃ S, Hid (wS.heap.size = S) := ⟨_, rfl⟩
      have hHS : H ≤ S := by rw [← HSS.out, ← HH.out]; exact HBS.out.size
      have HPS : Hid (∀ W, Below S wS W → Pp W a3 cap3 s) := fun W hW => hpS.below (by rw [HSS.out]; exact hW)
      have HPM : Hid (0 < n → ∃ b off, a3 = some ⟨b, off, none⟩ ∧ b < S) := fun h0 => by
        obtain ⟨b, off, e1, e2, _⟩ := hpS.at_ (by rw [HNS.out]; exact h0)
        exact ⟨b, off, e1, by rw [← HSS.out]; exact e2⟩
      have hcap3 : n ≤ cap3 := by rw [← HNS.out]; exact hpS.capl
      clear hpS
      have HQS : Hid (WfQ s) := fun p hp => (HWS.out p hp).1
      have HOKS : Hid (okX s) := hid ((okX_perm HSP.out).2 HOK.out)
      have HGS : Hid (∀ W, Below S wS W → W.heap[G]? = some (.cells SU.toArray 23 (0, 0))) := fun W hW => (hW.block G (by omega)).trans ((HBS.out.block G hGH).trans HS1.out)
      have HGB : Hid (∀ W, Below S wS W → Below G w W) := fun W hW => HBW.out W (HBS.out.trans (hW.mono hHS))
      obtain ⟨w5, HW5⟩ : ∃ w5, Hid (wS.alloc (.cells #[.int .u8 255, .int .u8 116, .int .u8 79, .int .u8 99] 5) = w5) := ⟨_, rfl⟩
      have C16 : Hid (Calls Tryd.prog 16 #[.slice (some ⟨S, 0, none⟩) 4 4, .int .u32 2] w5 (PoA wS w5 S (.slice (some ⟨S, 0, none⟩) 4 4) hdX)) := hid (by
        have h0 := bd_head wS
        rw [HW5.out, HSS.out] at h0
        exact put_any wS w5 S _ _ 2 (by omega) h0 (by decide))
      go_wp2_with fail
      rw [HSS.out, HW5.out]
      refine C16.out.mono ?_
      rintro ev w6 ⟨v6, rfl, hb6, -⟩
      have HD0 : Hid (Bd wS w6 S v6 (hdX ++ cntB s 0)) := hid (by simpa [cntB] using hb6)
      clear hb6
      go_wp2_with fail
      go_loopg [9, 10] 256 (fun g ov fv wr => ∃ (f : Nat) (v : Value), v = ov ∧ f ≤ 256 ∧ g = 256 - f ∧ fv = .int .i64 f ∧ Hid (Bd wS wr S v (hdX ++ cntB s f)))
      case atStart => exact ⟨0, _, rfl, by omega, rfl, rfl, HD0⟩
      case round =>
        obtain ⟨f, v, hv, hf, hg, rfl, HBD⟩ := hrel
        subst hv
        by_cases hf2 : f < 256
        · have hfi : (f : Int) < 256 := by omega
          go_wp2_with fail
          go_loopg [11, 12] n (fun g2 nv iv wq => ∃ i c : Nat, i ≤ n ∧ g2 = n - i ∧ iv = .int .i64 i ∧ nv = .int .i64 c ∧ Hid (cl (s.take i) (f + 1) = c) ∧ c ≤ i ∧ Hid (wq = wr))
          case atStart => exact ⟨0, 0, Nat.zero_le _, rfl, rfl, rfl, hid (by simp [cl]), Nat.le_refl _, hid rfl⟩
          case round =>
            obtain ⟨i, c, hi, hg2, rfl, rfl, HCL, hci, HWQ⟩ := hrel
            have hwq := HWQ.out.symm
            subst hwq
            clear HWQ
            by_cases hlt : i < n
            · have hlti : (i : Int) < (n : Int) := by omega
              obtain ⟨b, off, hae, hbS⟩ := HPM.out (by omega)
              subst hae
              obtain ⟨b', off', e1, e2, e3⟩ := (HPS.out wr HBD.out.below).at_ (by rw [HNS.out]; omega)
              cases e1
              obtain ⟨x, HX⟩ : ∃ x, Hid (s.getD i p0 = x) := ⟨_, rfl⟩
              have hxm : x ∈ s := by
                rw [← HX.out, List.getD_eq_getElem?_getD, List.getElem?_eq_getElem (by rw [HNS.out]; exact hlt)]
                exact List.getElem_mem _
              have hh2 := hd_bd x (HWS.out x hxm).1 (HWS.out x hxm).2.1
              have cc := hd_cell (by rw [← HX.out]; exact e3 i (by rw [HNS.out]; exact hlt)) (HWS.out x hxm).1
              have HSN := cl_snoc s i (f + 1) (by rw [HNS.out]; exact hlt)
              rw [HX.out, HCL.out] at HSN
              obtain ⟨h, HHH⟩ : ∃ h, Hid (hd x = h) := ⟨_, rfl⟩
              rw [HHH.out] at cc hh2 HSN
              have HSN2 : Hid (cl (s.take (i + 1)) (f + 1) = c + if h < ((f + 1 : Nat) : Int) then 1 else 0) := HSN
              have hwp : wrap64 h = h := by unfold wrap64; omega
              clear e3 e2 hxm HSN
              by_cases hle : h ≤ (f : Int)
              · have HC2 : Hid (cl (s.take (i + 1)) (f + 1) = c + 1) := hid (by rw [HSN2.out, if_pos (by omega)])
                go_wp2
                go_roundg (n - (i + 1))
                case measure => omega
                case rel => exact ⟨i + 1, c + 1, by omega, rfl, by go_num, by go_num, HC2, by omega, hid rfl⟩
              · have HC2 : Hid (cl (s.take (i + 1)) (f + 1) = c) := hid (by rw [HSN2.out, if_neg (by omega)]; rfl)
                go_wp2
                go_roundg (n - (i + 1))
                case measure => omega
                case rel => exact ⟨i + 1, c, by omega, rfl, by go_num, rfl, HC2, by omega, hid rfl⟩
            · have hlti : ¬ (i : Int) < (n : Int) := by omega
              have HCS : Hid (cl s (f + 1) = c) := hid (by rw [← HCL.out, List.take_of_length_le (by rw [HNS.out]; omega)])
              have hcu : (c : Int) < 4294967296 := by omega
              have HCA : Hid (Calls Tryd.prog 16 #[v, .int .u32 (c : Nat)] wr (PoA wS wr S v (hdX ++ cntB s (f + 1)))) := hid (by
                rw [cntB_succ, HCS.out, ← List.append_assoc]
                exact put_any wS wr S v _ c (by omega) HBD.out (by rw [List.length_append, cntB_len]; simp only [hdX, List.length_cons, List.length_nil]; omega))
              go_wp2_with fail
              refine HCA.out.mono ?_
              rintro ev w3 ⟨v3, rfl, hb3, hg3⟩
              have HB3 : Hid (Bd wS w3 S v3 (hdX ++ cntB s (f + 1))) := hb3
              clear hb3 hg3
              go_wp2
              go_roundg (256 - (f + 1))
              case measure => omega
              case rel => exact ⟨f + 1, _, rfl, by omega, rfl, by go_num, HB3⟩
        · have hfi : ¬ (f : Int) < 256 := by omega
          obtain rfl : f = 256 := by omega
          have HD1 : Hid (Bd wS wr S v (idx1 s)) := HBD.out
          clear HBD
          go_wp2_with fail
          go_loopg [9, 13] n (fun g ov iv wr => ∃ (i : Nat) (v : Value), v = ov ∧ i ≤ n ∧ g = n - i ∧ iv = .int .i64 i ∧ Hid (Bd wS wr S v (idx1 s ++ (s.take i).flatMap (·.id))))
          case atStart => exact ⟨0, _, rfl, Nat.zero_le _, rfl, rfl, hid (by simpa using HD1.out)⟩
          case round =>
            obtain ⟨i, v, hv, hi, hg, rfl, HBD⟩ := hrel
            subst hv
            by_cases hlt : i < n
            · have hlti : (i : Int) < (n : Int) := by omega
              obtain ⟨b, off, hae, hbS⟩ := HPM.out (by omega)
              subst hae
              obtain ⟨b', off', e1, e2, e3⟩ := (HPS.out wr HBD.out.below).at_ (by rw [HNS.out]; omega)
              cases e1
              obtain ⟨x, HX⟩ : ∃ x, Hid (s.getD i p0 = x) := ⟨_, rfl⟩
              have hxm : x ∈ s := by
                rw [← HX.out, List.getD_eq_getElem?_getD, List.getElem?_eq_getElem (by rw [HNS.out]; exact hlt)]
                exact List.getElem_mem _
              have HX20 : Hid (x.id.length = 20) := (HWS.out x hxm).1
              have HXW : Hid (0 ≤ x.crc ∧ x.crc < 4294967296) := (HWS.out x hxm).2.2
              have HXO : Hid (0 ≤ x.off ∧ x.off ≤ 2147483647) := HOKS.out.1 x hxm
              have RP : Hid (wr.rangeAt b (off + i * 22) (plV x)) := hid (by rw [← HX.out]; exact e3 i (by rw [HNS.out]; exact hlt))
              have HBL : Hid (b < wr.heap.size) := e2
              clear hxm e3 e2
              have HXI : Hid (i < s.length) := hid (by rw [HNS.out]; exact hlt)
              have hlen : (idx1 s ++ (s.take i).flatMap (·.id)).length ≤ 100000 := by
                have h1 := flat_le2 (·.id) 20 s i (fun p hp => (HWS.out p hp).1)
                rw [HNS.out] at h1
                have h2 := idx1_len s
                try rw [HNS.out] at h2
                rw [List.length_append]
                omega
              have HS4 : Hid (Sl wr (some ⟨b, off + i * 22, none⟩) 20 x.id) := hid (pl_sl RP.out HX20.out HBL.out)
              go_wp2_with (first
                | (at_builtin; refine wpList_bd_slG rfl _ _ rfl S _ _ rfl HBD.out (some ⟨b, off + i * 22, none⟩) 20 x.id (by rw [HX20.out]; rfl) HS4.out (by rw [HX20.out]; omega) ?_; intro v5 w5 hb5 hg5; have HB5 : Hid (Bd wS w5 S v5 ((idx1 s ++ (s.take i).flatMap (·.id)) ++ x.id)) := hb5; clear hb5 hg5)
                | fail)
              go_roundg (n - (i + 1))
              case measure => omega
              case rel => exact ⟨i + 1, _, rfl, by omega, rfl, by go_num, hid (by rw [flat_snoc2 (·.id) s i HXI.out, HX.out, ← List.append_assoc]; exact HB5.out)⟩
            · have hlti : ¬ (i : Int) < (n : Int) := by omega
              have HD2 : Hid (Bd wS wr S v (idx2 s)) := hid (by
                have := HBD.out
                rw [List.take_of_length_le (by rw [HNS.out]; omega)] at this
                exact this)
              clear HBD
              go_wp2_with fail
              go_loopg [9, 14] n (fun g ov iv wr => ∃ (i : Nat) (v : Value), v = ov ∧ i ≤ n ∧ g = n - i ∧ iv = .int .i64 i ∧ Hid (Bd wS wr S v (idx2 s ++ (s.take i).flatMap (fun p => n4 p.crc.toNat))))
              case atStart => exact ⟨0, _, rfl, Nat.zero_le _, rfl, rfl, hid (by simpa using HD2.out)⟩
              case round =>
                obtain ⟨i, v, hv, hi, hg, rfl, HBD⟩ := hrel
                subst hv
                by_cases hlt : i < n
                · have hlti : (i : Int) < (n : Int) := by omega
                  obtain ⟨b, off, hae, hbS⟩ := HPM.out (by omega)
                  subst hae
                  obtain ⟨b', off', e1, e2, e3⟩ := (HPS.out wr HBD.out.below).at_ (by rw [HNS.out]; omega)
                  cases e1
                  obtain ⟨x, HX⟩ : ∃ x, Hid (s.getD i p0 = x) := ⟨_, rfl⟩
                  have hxm : x ∈ s := by
                    rw [← HX.out, List.getD_eq_getElem?_getD, List.getElem?_eq_getElem (by rw [HNS.out]; exact hlt)]
                    exact List.getElem_mem _
                  have HX20 : Hid (x.id.length = 20) := (HWS.out x hxm).1
                  have HXW : Hid (0 ≤ x.crc ∧ x.crc < 4294967296) := (HWS.out x hxm).2.2
                  have HXO : Hid (0 ≤ x.off ∧ x.off ≤ 2147483647) := HOKS.out.1 x hxm
                  have RP : Hid (wr.rangeAt b (off + i * 22) (plV x)) := hid (by rw [← HX.out]; exact e3 i (by rw [HNS.out]; exact hlt))
                  have HBL : Hid (b < wr.heap.size) := e2
                  clear hxm e3 e2
                  have HXI : Hid (i < s.length) := hid (by rw [HNS.out]; exact hlt)
                  have hlen : (idx2 s ++ (s.take i).flatMap (fun p => n4 p.crc.toNat)).length ≤ 100000 := by
                    have h1 := flat_le2 (fun p => n4 p.crc.toNat) 4 s i (fun _ _ => rfl)
                    rw [HNS.out] at h1
                    have h2 := idx2_len s HQS.out
                    try rw [HNS.out] at h2
                    rw [List.length_append]
                    omega
                  obtain ⟨c, HCC⟩ : ∃ c : Nat, Hid (x.crc.toNat = c) := ⟨_, rfl⟩
                  have hcc : x.crc = (c : Int) := by have := HXW.out; rw [← HCC.out]; omega
                  have c21 : wr.cell? ⟨b, off + i * 22 + 21, none⟩ = some (.int .u32 c) := by rw [← hcc]; exact pl_crc RP.out HX20.out
                  have HCN : Hid (Calls Tryd.prog 16 #[v, .int .u32 c] wr (PoA wS wr S v ((idx2 s ++ (s.take i).flatMap (fun p => n4 p.crc.toNat)) ++ n4 x.crc.toNat))) := hid (by
                    rw [HCC.out]; exact put_any wS wr S v _ c (by have := HXW.out; omega) HBD.out (by omega))
                  clear hcc
                  go_wp2_with (first
                    | (go_at_call 16; refine HCN.out.mono ?_; rintro ev w5 ⟨v5, rfl, hb5, hg5⟩; have HB5 : Hid (Bd wS w5 S v5 ((idx2 s ++ (s.take i).flatMap (fun p => n4 p.crc.toNat)) ++ n4 x.crc.toNat)) := hb5; clear hb5 hg5)
                    | fail)
                  go_roundg (n - (i + 1))
                  case measure => omega
                  case rel => exact ⟨i + 1, _, rfl, by omega, rfl, by go_num, hid (by rw [flat_snoc2 (fun p => n4 p.crc.toNat) s i HXI.out, HX.out, ← List.append_assoc]; exact HB5.out)⟩
                · have hlti : ¬ (i : Int) < (n : Int) := by omega
                  have HD3 : Hid (Bd wS wr S v (idx3 s)) := hid (by
                    have := HBD.out
                    rw [List.take_of_length_le (by rw [HNS.out]; omega)] at this
                    exact this)
                  clear HBD
                  go_wp2_with fail
                  go_loopg [9, 15] n (fun g ov iv wr => ∃ (i : Nat) (v : Value), v = ov ∧ i ≤ n ∧ g = n - i ∧ iv = .int .i64 i ∧ Hid (Bd wS wr S v (idx3 s ++ (s.take i).flatMap (fun p => n4 p.off.toNat))))
                  case atStart => exact ⟨0, _, rfl, Nat.zero_le _, rfl, rfl, hid (by simpa using HD3.out)⟩
                  case round =>
                    obtain ⟨i, v, hv, hi, hg, rfl, HBD⟩ := hrel
                    subst hv
                    by_cases hlt : i < n
                    · have hlti : (i : Int) < (n : Int) := by omega
                      obtain ⟨b, off, hae, hbS⟩ := HPM.out (by omega)
                      subst hae
                      obtain ⟨b', off', e1, e2, e3⟩ := (HPS.out wr HBD.out.below).at_ (by rw [HNS.out]; omega)
                      cases e1
                      obtain ⟨x, HX⟩ : ∃ x, Hid (s.getD i p0 = x) := ⟨_, rfl⟩
                      have hxm : x ∈ s := by
                        rw [← HX.out, List.getD_eq_getElem?_getD, List.getElem?_eq_getElem (by rw [HNS.out]; exact hlt)]
                        exact List.getElem_mem _
                      have HX20 : Hid (x.id.length = 20) := (HWS.out x hxm).1
                      have HXW : Hid (0 ≤ x.crc ∧ x.crc < 4294967296) := (HWS.out x hxm).2.2
                      have HXO : Hid (0 ≤ x.off ∧ x.off ≤ 2147483647) := HOKS.out.1 x hxm
                      have RP : Hid (wr.rangeAt b (off + i * 22) (plV x)) := hid (by rw [← HX.out]; exact e3 i (by rw [HNS.out]; exact hlt))
                      have HBL : Hid (b < wr.heap.size) := e2
                      clear hxm e3 e2
                      have HXI : Hid (i < s.length) := hid (by rw [HNS.out]; exact hlt)
                      have hlen : (idx3 s ++ (s.take i).flatMap (fun p => n4 p.off.toNat)).length ≤ 100000 := by
                        have h1 := flat_le2 (fun p => n4 p.off.toNat) 4 s i (fun _ _ => rfl)
                        rw [HNS.out] at h1
                        have h2 := idx3_len s HQS.out
                        try rw [HNS.out] at h2
                        rw [List.length_append]
                        omega
                      obtain ⟨c, HCC⟩ : ∃ c : Nat, Hid (x.off.toNat = c) := ⟨_, rfl⟩
                      have hoo := HXO.out
                      have hcc : x.off = (c : Int) := by rw [← HCC.out]; omega
                      have c20 : wr.cell? ⟨b, off + i * 22 + 20, none⟩ = some (.int .i64 c) := by rw [← hcc]; exact pl_off RP.out HX20.out
                      have hcu : (c : Int) < 4294967296 := by rw [← hcc]; omega
                      have HCN : Hid (Calls Tryd.prog 16 #[v, .int .u32 c] wr (PoA wS wr S v ((idx3 s ++ (s.take i).flatMap (fun p => n4 p.off.toNat)) ++ n4 x.off.toNat))) := hid (by
                        rw [HCC.out]; exact put_any wS wr S v _ c (by omega) HBD.out (by omega))
                      clear hcc hoo
                      go_wp2_with (first
                        | (go_at_call 16; refine HCN.out.mono ?_; rintro ev w5 ⟨v5, rfl, hb5, hg5⟩; have HB5 : Hid (Bd wS w5 S v5 ((idx3 s ++ (s.take i).flatMap (fun p => n4 p.off.toNat)) ++ n4 x.off.toNat)) := hb5; clear hb5 hg5)
                        | fail)
                      go_roundg (n - (i + 1))
                      case measure => omega
                      case rel => exact ⟨i + 1, _, rfl, by omega, rfl, by go_num, hid (by rw [flat_snoc2 (fun p => n4 p.off.toNat) s i HXI.out, HX.out, ← List.append_assoc]; exact HB5.out)⟩
                    · have hlti : ¬ (i : Int) < (n : Int) := by omega
                      have HD4 : Hid (Bd wS wr S v (idx4 s)) := hid (by
                        have := HBD.out
                        rw [List.take_of_length_le (by rw [HNS.out]; omega)] at this
                        exact this)
                      clear HBD
                      have HSUM : Hid (Sl wr (some ⟨G, 0, none⟩) 20 sum) := hid (id_sl (t := 23) (by rw [HSU.out]; exact HGS.out wr HD4.out.below) hs20)
                      have hl4 : (idx4 s).length + sum.length ≤ 1000000 := by
                        have := idx4_len s HQS.out
                        rw [HNS.out] at this
                        omega
                      go_wp2_with (first
                        | (at_builtin; refine wpList_bd_slG rfl _ _ rfl S _ _ rfl HD4.out (some ⟨G, 0, none⟩) 20 sum (by rw [hs20]; rfl) HSUM.out hl4 ?_; intro v7 w7 hb7 hg7; have HB7 : Hid (Bd wS w7 S v7 (idxZ s sum)) := hb7; clear hb7 hg7)
                        | fail)
                      obtain ⟨a7, cap7, hv7, hs7⟩ := HB7.out.sl
                      subst hv7
                      obtain ⟨zl, HZL⟩ : ∃ n, Hid ((idxZ s sum).length = n) := ⟨_, rfl⟩
                      have hzl : zl ≤ 40000 := by
                        have := idxZ_len s sum HQS.out hs20
                        rw [HNS.out, HZL.out] at this
                        omega
                      obtain ⟨fr, HF⟩ : ∃ fr, Hid (sha (idxZ s sum) = fr) := ⟨_, rfl⟩
                      have HF20 : Hid (fr.length = 20) := hid (by rw [← HF.out]; exact sha_len _)
                      obtain ⟨R, HR⟩ : ∃ R : List Value, Hid (row .u8 fr = R) := ⟨_, rfl⟩
                      have C17 : Hid (Calls Tryd.prog 17 #[.slice a7 zl cap7] w7 fun e w' => e = .returned (.agg R.toArray) ∧ Below w7.heap.size w7 w') := hid (by
                        have := ref_any a7 cap7 (idxZ s sum) w7 (by rw [HZL.out]; omega) (idxZ_isB s sum HWS.out hsb) (fun h0 => hs7.at_ h0)
                        rw [HZL.out, HF.out, HR.out] at this
                        exact this)
                      have HRL : Hid (R.length = 20) := hid (by rw [← HR.out, row_len]; exact HF20.out)
                      have I23 : Hid ((Tryd.prog.info? 23).map (·.size) = some R.toArray.size) := hid (by rw [List.size_toArray, HRL.out]; kernel_rfl)
                      have E23 : Hid (zr.size = R.toArray.size) := hid (by rw [HZ.out, List.size_toArray, List.size_toArray, HRL.out]; rfl)
                      have O23 : Hid (R.toArray.all (·.oneCell') = true) := hid (by rw [← HR.out]; exact all_oneCell_toArray (row_one _ _))
                      have hl2 : (idxZ s sum).length + fr.length ≤ 1000000 := by rw [HF20.out, HZL.out]; omega
                      rw [HZL.out] at HB7
                      rw [HZL.out]
                      clear hs7
                      go_wp2_with fail
                      refine C17.out.mono ?_
                      rintro ev w8 ⟨rfl, hb8⟩
                      have HB8 : Hid (Bd wS w8 S (.slice a7 zl cap7) (idxZ s sum)) := HB7.out.carry hb8
                      clear hb8
                      have D0 : Hid ((w8.alloc (.cells zr 23)).heap[w8.heap.size]? = some (.cells zr 23 (0, 0))) := heap_alloc_new w8 _
                      obtain ⟨w9, HW9⟩ : ∃ w9, Hid ((w8.alloc (.cells zr 23)).setRow w8.heap.size R.toArray = w9) := ⟨_, rfl⟩
                      obtain ⟨K, HK⟩ : ∃ K, Hid (w8.heap.size = K) := ⟨_, rfl⟩
                      have hb9 : Below w8.heap.size w8 w9 := by rw [← HW9.out]; exact below_setRow ((Below.refl _ w8).alloc (Nat.le_refl _) _) (Nat.le_refl _) _
                      have B9 : Hid (w9.heap[K]? = some (.cells R.toArray 23 (0, 0))) := hid (by rw [← HW9.out, ← HK.out]; exact setRow_heap _ _ _ R.toArray _ _ D0.out)
                      have HB9 : Hid (Bd wS w9 S (.slice a7 zl cap7) (idxZ s sum)) := HB8.out.carry hb9
                      have HS9 : Hid (Sl w9 (some ⟨K, 0, none⟩) 20 fr) := hid (id_sl (t := 23) (by rw [HR.out]; exact B9.out) HF20.out)
                      clear hb9
                      go_wp2_with (first
                        | (refine wpList_store_row rfl 23 _ _ rfl w8.heap.size R.toArray rfl rfl 23 zr D0.out I23.out E23.out O23.out ?_; rw [HW9.out, HK.out])
                        | (at_builtin; refine wpList_bd_slG rfl _ _ rfl S _ (idxZ s sum) rfl HB9.out (some ⟨K, 0, none⟩) 20 fr (by rw [HF20.out]; rfl) HS9.out hl2 ?_; intro v10 w10 hb10 hg10; have HB10 : Hid (Bd wS w10 S v10 (idxZ s sum ++ fr)) := hb10; clear hb10 hg10)
                        | fail)
                      obtain ⟨a8, cap8, hv8, hs8⟩ := HB10.out.sl
                      subst hv8
                      have HB11 : Hid (Below G w w10) := HGB.out w10 HB10.out.below
                      have HFE : Hid (idxZ s sum ++ fr = idxF s sum) := hid (by rw [← HF.out]; rfl)
                      rw [HFE.out] at hs8
                      have HS8 : Hid (Sl w10 a8 cap8 (idxF s sum)) := hs8
                      clear hs8
                      rw [HFE.out]
                      try go_wp2
                      go_ret2
                      exact ⟨by rw [HG.out]; exact HB11.out, .inl ⟨HOK.out, a8, cap8, by rw [HSE.out]; rfl, by rw [HSE.out]; exact HS8.out⟩⟩
end Go.Proofs.YtdfihfmmfmoabaaDoor
