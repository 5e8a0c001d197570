import Derived.Test.YtikmbjfambjmaaaGreatDoorMf02
import Derived.Test.YtikmbjfambjmaaaGreatDoorMf05
import Derived.Test.YtikmbjfambjmaaaGreatDoorMf03
import Derived.Shelf.Strconv.AtoiAll
import Derived.Test.YtikmbjfambjmaaaGreatDoorMf01
import Derived.Test.YtikmbjfambjmaaaGreatDoorMf04
namespace Go.Proofs.YtikmbjfambjmaaaGreatDoor
open Go.RowKit
set_option linter.unusedVariables false
def digCells (w : World) (D : Nat) : List Value := (List.range 70).map fun i => (w.cell? ⟨D, i, none⟩).getD undef
theorem digCells_len (w : World) (D : Nat) : (digCells w D).length = 70 := by simp [digCells]
theorem dig_some {w : World} {D : Nat} {l : List Int} (h : Dig w D l) (i : Nat) (hi : i < 70) : ∃ v, w.cell? ⟨D, i, none⟩ = some v ∧ v.oneCell' = true := by
  by_cases h5 : i < 5
  · exact ⟨_, h.sum i h5, rfl⟩
  · by_cases h69 : i = 69
    · subst h69; exact ⟨_, h.size, rfl⟩
    · obtain ⟨rs, -, -, hc, -⟩ := h.rest
      have := hc (i - 5) (by omega)
      rw [show 5 + (i - 5) = i from by omega] at this
      exact ⟨_, this, rfl⟩
theorem digCells_at {w : World} {D : Nat} {l : List Int} (h : Dig w D l) (i : Nat) (hi : i < 70) : (digCells w D)[i]? = w.cell? ⟨D, i, none⟩ := by
  obtain ⟨v, hv, -⟩ := dig_some h i hi
  simp [digCells, hi, hv]
theorem digCells_range {w : World} {D : Nat} {l : List Int} (h : Dig w D l) : w.rangeAt D 0 (digCells w D) := fun j v hv => by
  have hj : j < 70 := by rcases Nat.lt_or_ge j 70 with h | h; exact h; rw [List.getElem?_eq_none (by rw [digCells_len]; exact h)] at hv; cases hv
  rw [Nat.zero_add, ← digCells_at h j hj]; exact hv
theorem digCells_one {w : World} {D : Nat} {l : List Int} (h : Dig w D l) : ∀ v ∈ digCells w D, v.oneCell' = true := by
  intro v hv
  simp only [digCells, List.mem_map, List.mem_range] at hv
  obtain ⟨i, hi, rfl⟩ := hv
  obtain ⟨v, hv, h1⟩ := dig_some h i hi
  rw [hv]; exact h1
theorem dig_copy {w W : World} {D L : Nat} {l : List Int} (h : Dig w D l) (hr : W.rangeAt L 0 (digCells w D)) (hl : L < W.heap.size) (hf : ∀ i, W.frozen? ⟨L, i, none⟩ = false) : Dig W L l := by
  have c : ∀ i, i < 70 → W.cell? ⟨L, i, none⟩ = w.cell? ⟨D, i, none⟩ := fun i hi => by
    obtain ⟨v, hv, -⟩ := dig_some h i hi
    have := hr i v (by rw [digCells_at h i hi]; exact hv)
    rw [Nat.zero_add] at this
    rw [this, hv]
  obtain ⟨rs, h1, h2, h3, h4⟩ := h.rest
  exact ⟨hl, fun i hi => (c i (by omega)).trans (h.sum i hi), ⟨rs, h1, h2, fun i hi => (c _ (by omega)).trans (h3 i hi), h4⟩, (c _ (by omega)).trans h.size, hf⟩
theorem out4 (s : S5) (i : Nat) (hi : i < 5) : outAt s (4 * (i + 1)) = ((((outAt s (4 * i)).set (4 * i) (s.l.getD i 0 / 16777216 % 256)).set (4 * i + 1) (s.l.getD i 0 / 65536 % 256)).set (4 * i + 2) (s.l.getD i 0 / 256 % 256)).set (4 * i + 3) (s.l.getD i 0 % 256) := by
  rw [show 4 * (i + 1) = 4 * i + 3 + 1 from by omega, outAt_step s _ (by omega), outAt_step s _ (by omega), outAt_step s _ (by omega), outAt_step s _ (by omega)]
  rw [show 4 * i / 4 = i from by omega, show (4 * i + 1) / 4 = i from by omega, show (4 * i + 2) / 4 = i from by omega, show (4 * i + 3) / 4 = i from by omega, show 4 * i % 4 = 0 from by omega, show (4 * i + 1) % 4 = 1 from by omega, show (4 * i + 2) % 4 = 2 from by omega, show (4 * i + 3) % 4 = 3 from by omega]
  rw [show s.l.getD i 0 / 2 ^ (24 - 8 * 3) % 256 = s.l.getD i 0 % 256 from by simp]
  rfl
theorem l_isW' (s : S5) (h : s.ok) : IsW s.l := by
  obtain ⟨h1, h2, h3, h4, h5⟩ := h
  intro x hx
  simp only [S5.l, List.mem_cons, List.not_mem_nil, or_false] at hx
  rcases hx with rfl | rfl | rfl | rfl | rfl <;> assumption
theorem set4 {w : World} {g m : Nat} {t : TypeId} {zs : List Int} (a b c d : Int) (h : w.heap[g]? = some (.cells (row .u8 zs).toArray t (0, 0))) :
    ((((w.setCell ⟨g, m, none⟩ (.int .u8 a)).setCell ⟨g, m + 1, none⟩ (.int .u8 b)).setCell ⟨g, m + 2, none⟩ (.int .u8 c)).setCell ⟨g, m + 3, none⟩ (.int .u8 d)).heap[g]? = some (.cells (row .u8 ((((zs.set m a).set (m + 1) b).set (m + 2) c).set (m + 3) d)).toArray t (0, 0)) := by
  have h1 := heap_setCell_same w g m _ _ (.int .u8 a) h
  rw [row_set] at h1
  have h2 := heap_setCell_same _ g (m + 1) _ _ (.int .u8 b) h1
  rw [row_set] at h2
  have h3 := heap_setCell_same _ g (m + 2) _ _ (.int .u8 c) h2
  rw [row_set] at h3
  have h4 := heap_setCell_same _ g (m + 3) _ _ (.int .u8 d) h3
  rw [row_set] at h4
  exact h4
theorem set4_other {w : World} {g m k : Nat} (a b c d : Value) (h : k ≠ g) : ((((w.setCell ⟨g, m, none⟩ a).setCell ⟨g, m + 1, none⟩ b).setCell ⟨g, m + 2, none⟩ c).setCell ⟨g, m + 3, none⟩ d).heap[k]? = w.heap[k]? := by
  rw [Below.heap_setCell _ _ _ _ h, Below.heap_setCell _ _ _ _ h, Below.heap_setCell _ _ _ _ h, Below.heap_setCell _ _ _ _ h]
theorem set4_below {B : Nat} {w0 w : World} {g m : Nat} (a b c d : Value) (hg : B ≤ g) (h : Below B w0 w) : Below B w0 ((((w.setCell ⟨g, m, none⟩ a).setCell ⟨g, m + 1, none⟩ b).setCell ⟨g, m + 2, none⟩ c).setCell ⟨g, m + 3, none⟩ d) :=
  (((h.setCell (p := ⟨g, m, none⟩) hg a).setCell (p := ⟨g, m + 1, none⟩) hg b).setCell (p := ⟨g, m + 2, none⟩) hg c).setCell (p := ⟨g, m + 3, none⟩) hg d
def Z43 : Array Value := (row .u32 [0, 0, 0, 0, 0] ++ row .u8 (List.replicate 64 0) ++ ([.int .u64 0] : List Value)).toArray
theorem zero43 (w : World) : (zeroValue 156).run Tryz.prog w = .ok (.agg Z43) w := by kernel_rfl
theorem zero25 (w : World) : (zeroValue 24).run Tryz.prog w = .ok (.agg (row .u8 z20).toArray) w := by kernel_rfl
theorem zero24 (w : World) : (zeroValue 23).run Tryz.prog w = .ok (.agg (row .u8 z20).toArray) w := by kernel_rfl
set_option maxRecDepth 20000 in
set_option maxHeartbeats 4000000 in
theorem sum_any (D : Nat) (l : List Int) (w : World) (hD : Dig w D l) (hl : l.length ≤ 600000) (hlb : IsB l) :
    Calls Tryz.prog 48 #[.pointer (some ⟨D, 0, none⟩)] w fun e w' => e = .returned (.agg (row .u8 (sha l)).toArray) ∧ Below w.heap.size w w' := by
  have HD : Hid (Dig w D l) := hD
  clear hD
  obtain ⟨zr, HZ⟩ : ∃ zr : Array Value, Hid (zr = (row .u8 z20).toArray) := ⟨_, rfl⟩
  have hz25 := zero25
  rw [← HZ.out] at hz25
  obtain ⟨z43, HZ43⟩ : ∃ z : Array Value, Hid (z = Z43) := ⟨_, rfl⟩
  have hz43 := zero43
  rw [← HZ43.out] at hz43
  obtain ⟨cs, HCS⟩ : ∃ cs, Hid (cs = digCells w D) := ⟨_, rfl⟩
  have hcs : cs.length = 70 := by rw [HCS.out]; exact digCells_len _ _
  have hi43 : (Tryz.prog.info? 156).map (·.size) = some cs.length := by rw [hcs]; exact Tryz.size156
  have hDl : D < w.heap.size := HD.out.lt
  have he70 : cs.toArray.size = 70 := by rw [List.size_toArray, hcs]
  have H1 : Hid ((w.alloc (.cells zr 24)).rangeAt D 0 cs) := hid (by rw [HCS.out]; exact fun j v hv => (World.cell?_alloc_lt w _ ⟨D, 0 + j, none⟩ hDl).trans (digCells_range HD.out j v hv))
  have T1 : Hid (((w.alloc (.cells zr 24)).alloc (.cells z43 156)).there (w.heap.size + 1) 0 cs.toArray.size) := hid (by rw [he70, HZ43.out]; exact there_cells (heap_alloc2_new w _ _) rfl)
  have T2 : Hid ((Tryz.prog.info? 156).map (·.size) = some cs.toArray.size) := hid (by rw [List.size_toArray]; exact hi43)
  have T3 : Hid (cs.toArray.all (·.oneCell') = true) := hid (all_oneCell_toArray (by rw [HCS.out]; exact digCells_one HD.out))
  obtain ⟨w1, HW1⟩ : ∃ w1, Hid (w1 = ((w.alloc (.cells zr 24)).alloc (.cells z43 156)).setCells (w.heap.size + 1) 0 cs.toArray.toList) := ⟨_, rfl⟩
  have hs1 : w1.heap.size = w.heap.size + 1 + 1 := by rw [HW1.out, size_setCells]; simp
  have HDL : Hid (Dig w1 (w.heap.size + 1) l) := hid (by
    refine dig_copy HD.out ?_ (by omega) ?_
    · rw [HW1.out, ← HCS.out]; exact World.rangeAt_setCells_same _ (w.heap.size + 1) 0 _ (by have := T1.out; simpa using this)
    · intro i; rw [HW1.out, World.frozen?_setCells]; exact frozen_of_row _ _ _ _ 156 (heap_alloc2_new w _ _))
  have HB1 : Hid (Below w.heap.size w w1) := hid (by rw [HW1.out]; exact below_setCells (by omega) _ _ _ _ (((Below.refl _ w).alloc (Nat.le_refl _) _).alloc (by simp) _))
  have HR1 : Hid (w1.heap[w.heap.size]? = some (.cells zr 24 (0, 0))) := hid (by
    have hg : ∀ (vs : List Value) (o : Nat) (W : World), (W.setCells (w.heap.size + 1) o vs).heap[w.heap.size]? = W.heap[w.heap.size]? := by
      intro vs
      induction vs with
      | nil => intro o W; rfl
      | cons v r ih => intro o W; rw [World.setCells, ih]; exact Below.heap_setCell W ⟨w.heap.size + 1, o, none⟩ v _ (by simp)
    rw [HW1.out, hg]; exact heap_alloc2_old w _ _)
  replace hs1 := hid hs1
  have c69 : w1.cell? ⟨D, 69, none⟩ = some (.int .u64 l.length) := (HB1.out.cell (p := ⟨D, 69, none⟩) hDl).trans HD.out.size
  go_enter Tryz.func48, Tryz.ntmps48
  go_wp2_with (first | refine wpList_load_mid rfl 156 _ rfl D 0 rfl cs _ H1.out Tryz.underlying156 rfl hi43 ?_ | (refine wpList_store_mid rfl 156 _ _ rfl (w.heap.size + 1) 0 cs.toArray rfl rfl T1.out T2.out T3.out ?_; rw [← HW1.out]))
  clear c69
  obtain ⟨n, HN⟩ : ∃ n, Hid (n = l.length) := ⟨_, rfl⟩
  rw [← HN.out]
  refine (end_any n w1 (by rw [HN.out]; omega)).mono ?_
  rintro e w2 ⟨g, cp, rfl, hb2, hg1, hg2, hat2, hcp2⟩
  have HG2 : Hid (w1.heap.size ≤ g) := hg1
  have HD2 : Dig w2 (w.heap.size + 1) l := HDL.out.keep (grown_of_below hb2 none) (by simp)
  have HX2 : Hid (Below w1.heap.size w1 w2) := hb2
  obtain ⟨en, HEN⟩ : ∃ en, Hid (en = endOf n) := ⟨_, rfl⟩
  rw [← HEN.out] at hat2 hcp2 ⊢
  have henl : en.length ≤ 100 := by rw [HEN.out, endOf_len]; have := pads_le n; omega
  have henb : IsB en := by rw [HEN.out]; exact endOf_isB n
  go_wp2_with fail
  refine (add_any (w.heap.size + 1) l _ cp en w2 HD2 (by omega) hlb henb (fun _ => ⟨g, 0, rfl, hg2, by have := HG2.out; have := hs1.out; omega, hat2, hcp2⟩)).mono ?_
  rintro e w3 ⟨rfl, hD3, hgr3⟩
  have hsz2 := HX2.out.size
  have hsz3 := hgr3.size
  have HB3 : Hid (Below w.heap.size w w3) := (HB1.out.trans (HX2.out.mono (by have := hs1.out; omega))).grown hgr3 (by have := hs1.out; omega) (fun k hk => by simp at hk; omega)
  have HR3 : Hid (w3.heap[w.heap.size]? = some (.cells zr 24 (0, 0))) := (hgr3.block _ (by have := hs1.out; omega) (by simp)).trans ((HX2.out.block _ (by have := hs1.out; omega)).trans HR1.out)
  have hz3 : w.heap.size + 1 < w3.heap.size := by have := hs1.out; omega
  obtain ⟨s5, HS5⟩ : ∃ s5, Hid (s5 = ab (l ++ en) ((l ++ en).length / 64)) := ⟨_, rfl⟩
  have hs5 : s5.ok := by rw [HS5.out]; exact ab_ok _ _
  have HSH : Hid (sha l = outAt s5 20) := hid (by unfold sha; rw [HS5.out, HEN.out, HN.out])
  have hsum := hD3.sum
  rw [← HS5.out] at hsum
  replace hD3 := hid hD3
  clear hgr3 HX2 hat2 hcp2 HD2 hb2 hg1 hg2 hsz2 hsz3
  obtain ⟨sl, HSL⟩ : ∃ sl, Hid (sl = s5.l) := ⟨_, rfl⟩
  rw [← HSL.out] at hsum
  have hsll : sl.length = 5 := by rw [HSL.out]; rfl
  have hslw : IsW sl := by rw [HSL.out]; exact l_isW' s5 hs5
  have hi40 : (Tryz.prog.info? 153).map (·.size) = some (row .u32 sl).length := by rw [row_len, hsll]; exact Tryz.size153
  have HRL : Hid ((w3.alloc (.cells zr 24)).rangeAt (w.heap.size + 1) 0 (row .u32 sl)) := hid (range_of 0 (fun i hi => by rw [Nat.zero_add, World.cell?_alloc_lt w3 _ ⟨w.heap.size + 1, i, none⟩ hz3]; exact hsum i (by omega)))
  have HI3 : Hid ((w3.alloc (.cells zr 24)).heap[w3.heap.size]? = some (.cells (row .u8 (outAt s5 (4 * 0))).toArray 24 (0, 0))) := hid (by rw [outAt_zero, ← HZ.out]; exact heap_alloc_new w3 _)
  have HR4 : Hid ((w3.alloc (.cells zr 24)).heap[w.heap.size]? = some (.cells (row .u8 z20).toArray 24 (0, 0))) := hid (by rw [Below.heap_alloc _ _ _ (by omega), HR3.out, HZ.out])
  have HB4 : Hid (Below w.heap.size w (w3.alloc (.cells zr 24))) := HB3.out.alloc (by omega) _
  clear hsum
  obtain ⟨sa, HSA⟩ : ∃ sa : Array Value, Hid (sa = (row .u32 sl).toArray) := ⟨_, rfl⟩
  have HSX : Hid (∀ i, i < 5 → sa[i]? = some (.int .u32 (sl.getD i 0))) := fun i hi => by rw [HSA.out]; simpa using row_at .u32 sl i (by omega)
  go_wp2_with (refine wpList_load_mid rfl 153 _ rfl (w.heap.size + 1) 0 rfl (row .u32 sl) _ HRL.out Tryz.underlying153 rfl hi40 ?_; rw [← HSA.out])
  go_loopg [18] 5 (fun k i wr => ∃ j : Nat, j ≤ 5 ∧ k = 5 - j ∧ i = .int .i64 j ∧ Hid (wr.heap[w3.heap.size]? = some (.cells (row .u8 (outAt s5 (4 * j))).toArray 24 (0, 0))) ∧ Hid (wr.heap[w.heap.size]? = some (.cells (row .u8 z20).toArray 24 (0, 0))) ∧ Hid (Below w.heap.size w wr))
  case atStart => exact ⟨0, by omega, rfl, rfl, HI3, HR4, HB4⟩
  case round =>
    clear HI3 HR4 HB4 HRL
    obtain ⟨j, hj, hk, rfl, HI, HR, HB⟩ := hrel
    by_cases hlt : j < 5
    · obtain ⟨x, HX⟩ : ∃ x, Hid (x = sl.getD j 0) := ⟨_, rfl⟩
      have hix : ∀ w1 : World, (Instr.index 153 (.agg sa) (.int .i64 j)).run Tryz.prog w1 = .ok (.int .u32 x) w1 := fun w1 => by rw [HX.out]; exact index_row 153 69 5 _ _ j _ w1 Tryz.underlying153 Tryz.size69 _ Tryz.underlying69 rfl hlt (HSX.out j hlt)
      have hx : U x := by rw [HX.out]; exact hslw.at j
      obtain ⟨hx1, hx2⟩ := hx
      obtain ⟨m, HM⟩ : ∃ m, Hid (m = 4 * j) := ⟨_, rfl⟩
      have hm : (4 : Int) * j = (m : Int) := by have := HM.out; omega
      have hm16 : m + 3 < 20 := by have := HM.out; omega
      rw [← HM.out] at HI
      have cc : ∀ i, i < 20 → wr.cell? ⟨w3.heap.size, i, none⟩ = some (.int .u8 ((outAt s5 m).getD i 0)) := fun i hi => row_cell HI.out i (by rw [outAt_len]; exact hi)
      have d0 := cc m (by omega)
      have d1 := cc (m + 1) (by omega)
      have d2 := cc (m + 2) (by omega)
      have d3 := cc (m + 3) (by omega)
      have f0 := frozen_of_row wr w3.heap.size m _ 24 HI.out
      have f1 := frozen_of_row wr w3.heap.size (m + 1) _ 24 HI.out
      have f2 := frozen_of_row wr w3.heap.size (m + 2) _ 24 HI.out
      have f3 := frozen_of_row wr w3.heap.size (m + 3) _ 24 HI.out
      clear cc
      go_wp2
      go_roundg (5 - (j + 1))
      case measure => omega
      case rel =>
        refine ⟨j + 1, by omega, rfl, by go_num, hid ?_, hid ?_, set4_below _ _ _ _ (by omega) HB.out⟩
        · have e16 : x / 16777216 = x / 16777216 % 256 := by omega
          rw [out4 s5 j hlt, ← HM.out, ← HSL.out, ← HX.out, ← e16]
          exact set4 _ _ _ _ HI.out
        · rw [set4_other _ _ _ _ (by omega)]; exact HR.out
    · obtain rfl : j = 5 := by omega
      obtain ⟨fr, HFR⟩ : ∃ fr, Hid (fr = outAt s5 (4 * 5)) := ⟨_, rfl⟩
      rw [← HFR.out] at HI
      have hfl : fr.length = 20 := by rw [HFR.out]; exact outAt_len _ _
      have HE : Hid (fr = sha l) := hid (by rw [HFR.out, HSH.out])
      have hi25 : (Tryz.prog.info? 24).map (·.size) = some (row .u8 fr).length := by rw [row_len, hfl]; exact Tryz.size24
      have T1 : Hid (wr.there w.heap.size 0 (row .u8 fr).toArray.size) := hid (by rw [row_size, hfl]; exact there_row HR.out rfl)
      have T2 : Hid ((Tryz.prog.info? 24).map (·.size) = some (row .u8 fr).toArray.size) := hid (by rw [row_size, hfl]; exact Tryz.size24)
      have T3 : Hid ((row .u8 fr).toArray.all (·.oneCell') = true) := all_oneCell_toArray (row_one _ _)
      have T4 : Hid (wr.there w.heap.size 0 (row .u8 fr).length) := hid (by rw [row_len, hfl]; exact there_row HR.out rfl)
      go_wp2_with (first | refine wpList_load_mid rfl 24 _ rfl w3.heap.size 0 rfl (row .u8 fr) _ (range_row HI.out) Tryz.underlying24 rfl hi25 ?_ | refine wpList_store_mid rfl 24 _ _ rfl w.heap.size 0 (row .u8 fr).toArray rfl rfl T1.out T2.out T3.out ?_)
      refine bodyPost_ret (v := .agg (row .u8 fr).toArray) (results_mid Tryz.results48 _ _ w.heap.size _ _ rfl (World.rangeAt_setCells_same wr w.heap.size 0 _ T4.out) Tryz.underlying24 rfl hi25) rfl ⟨?_, below_setCells (Nat.le_refl _) _ _ _ _ HB.out⟩
      rw [HE.out]
end Go.Proofs.YtikmbjfambjmaaaGreatDoor
namespace Go.Proofs.YtikmbjfambjmaaaGreatDoor
open Go.RowKit
set_option linter.unusedVariables false
def N43 : Array Value := (row .u32 init5.l ++ row .u8 (List.replicate 64 0) ++ ([.int .u64 0] : List Value)).toArray
theorem new_dig {w : World} {g : Nat} (h : w.heap[g]? = some (.cells N43 156 (0, 0))) : Dig w g [] := by
  have hlt : g < w.heap.size := by
    rcases Nat.lt_or_ge g w.heap.size with h' | h'
    · exact h'
    · rw [Array.getElem?_eq_none h'] at h; cases h
  have c : ∀ i, w.cell? ⟨g, i, none⟩ = N43[i]? := fun i => cell_of_row w g i _ 156 _ h
  refine ⟨hlt, fun i hi => ?_, ⟨List.replicate 64 0, by simp, ?_, fun i hi => ?_, fun i hi => by simp at hi⟩, by rw [c]; rfl, fun i => frozen_of_row w g i _ 156 h⟩
  · rw [c]
    match i, hi with
    | 0, _ => rfl
    | 1, _ => rfl
    | 2, _ => rfl
    | 3, _ => rfl
    | 4, _ => rfl
  · intro x hx; rw [List.mem_replicate] at hx; omega
  · rw [c]
    have e : N43[5 + i]? = (row .u8 (List.replicate 64 0))[i]? := by
      simp only [N43, List.getElem?_toArray]
      rw [List.getElem?_append_left (by rw [List.length_append, row_len, row_len]; simp [S5.l, init5]; omega), List.getElem?_append_right (by rw [row_len]; simp [S5.l, init5])]
      congr 1
      rw [row_len]; simp [S5.l, init5]
    rw [e, row_at .u8 _ i (by simpa using hi)]
set_option maxRecDepth 20000 in
set_option maxHeartbeats 2000000 in
theorem new_any (w : World) : Calls Tryz.prog 46 #[] w fun e w' => e = .returned (.pointer (some ⟨w.heap.size, 0, none⟩)) ∧ w' = w.alloc (.cells N43 156) := by
  obtain ⟨z43, HZ43⟩ : ∃ z : Array Value, Hid (z = Z43) := ⟨_, rfl⟩
  have hz43 := zero43
  rw [← HZ43.out] at hz43
  have hsz : z43.size = 70 := by rw [HZ43.out]; rfl
  have HE : Hid (((((z43.setIfInBounds 0 (.int .u32 1732584193)).setIfInBounds 1 (.int .u32 4023233417)).setIfInBounds 2 (.int .u32 2562383102)).setIfInBounds 3 (.int .u32 271733878)).setIfInBounds 4 (.int .u32 3285377520) = N43) := hid (by rw [HZ43.out]; rfl)
  go_enter Tryz.func46, Tryz.ntmps46
  go_wp2
  go_ret
  refine ⟨rfl, ?_⟩
  rw [← HE.out]
set_option maxRecDepth 20000 in
set_option maxHeartbeats 2000000 in
theorem sum6 (a : Option Addr) (cap : Nat) (zs : List Int) (w : World) (hl : zs.length ≤ 300000) (hz : IsB zs) (hc : 0 < zs.length → ∃ b off, a = some ⟨b, off, none⟩ ∧ b < w.heap.size ∧ At w b off zs ∧ zs.length ≤ cap) :
    Calls Tryz.prog 34 #[.slice a zs.length cap] w fun e w' => e = .returned (.agg (row .u8 (sha zs)).toArray) ∧ Below w.heap.size w w' := by
  obtain ⟨zr, HZ⟩ : ∃ zr : Array Value, Hid (zr = (row .u8 z20).toArray) := ⟨_, rfl⟩
  have hz25 := zero25
  rw [← HZ.out] at hz25
  obtain ⟨fr, HE⟩ : ∃ fr, Hid (fr = sha zs) := ⟨_, rfl⟩
  have hfl : fr.length = 20 := by rw [HE.out]; exact sha_len _
  have hi25 : (Tryz.prog.info? 24).map (·.size) = some (row .u8 fr).length := by rw [row_len, hfl]; exact Tryz.size24
  have T2 : Hid ((Tryz.prog.info? 24).map (·.size) = some (row .u8 fr).toArray.size) := hid (by rw [row_size, hfl]; exact Tryz.size24)
  have T3 : Hid ((row .u8 fr).toArray.all (·.oneCell') = true) := all_oneCell_toArray (row_one _ _)
  obtain ⟨w0, HW0⟩ : ∃ w0, Hid (w0 = w.alloc (.cells zr 24)) := ⟨_, rfl⟩
  have hs0 : w0.heap.size = w.heap.size + 1 := by rw [HW0.out]; simp
  have HR0 : Hid (w0.heap[w.heap.size]? = some (.cells (row .u8 z20).toArray 24 (0, 0))) := hid (by rw [HW0.out, HZ.out]; exact heap_alloc_new w _)
  have HB0 : Hid (Below w.heap.size w w0) := hid (by rw [HW0.out]; exact (Below.refl _ w).alloc (Nat.le_refl _) _)
  replace hs0 := hid hs0
  go_enter Tryz.func34, Tryz.ntmps34
  go_wp2_with fail
  rw [← HW0.out]
  refine (new_any w0).mono ?_
  rintro e w1 ⟨rfl, hw1⟩
  have HD1 : Dig w1 w0.heap.size [] := new_dig (by rw [hw1]; exact heap_alloc_new w0 _)
  have HX1 : Hid (Below w0.heap.size w0 w1) := hid (by rw [hw1]; exact (Below.refl _ w0).alloc (Nat.le_refl _) _)
  clear hw1
  rw [hs0.out] at HD1
  have HX1' : Hid (Below (w.heap.size + 1) w0 w1) := hid (by rw [← hs0.out]; exact HX1.out)
  rw [hs0.out]
  go_wp2_with fail
  refine (add_any (w.heap.size + 1) [] a cap zs w1 HD1 (by simp; omega) (fun x hx => by cases hx) hz (fun h => by
    obtain ⟨b, off, h1, h2, h3, h4⟩ := hc h
    exact ⟨b, off, h1, by have := HX1'.out.size; have := hs0.out; omega, by omega, fun i hi => (HX1'.out.cell (p := ⟨b, off + i, none⟩) (by show b < _; omega)).trans ((HB0.out.cell (p := ⟨b, off + i, none⟩) h2).trans (h3 i hi)), h4⟩)).mono ?_
  rintro e w2 ⟨rfl, hD2, hg2⟩
  rw [List.nil_append] at hD2
  have hsz1 := HX1'.out.size
  have hsz2 := hg2.size
  have HB2 : Hid (Below w.heap.size w w2) := (HB0.out.trans (HX1'.out.mono (by omega))).grown hg2 (by have := hs0.out; omega) (fun k hk => by simp at hk; omega)
  have HR2 : Hid (w2.heap[w.heap.size]? = some (.cells (row .u8 z20).toArray 24 (0, 0))) := (hg2.block _ (by have := hs0.out; omega) (by simp)).trans ((HX1'.out.block _ (by omega)).trans HR0.out)
  have hw2 : w.heap.size < w2.heap.size := by have := hs0.out; omega
  replace hg2 := hid hg2
  replace hD2 := hid hD2
  go_wp2_with fail
  refine (sum_any (w.heap.size + 1) zs w2 hD2.out (by omega) hz).mono ?_
  rintro e w3 ⟨rfl, hb3⟩
  have HB3 : Hid (Below w.heap.size w w3) := HB2.out.trans (hb3.mono (by omega))
  have HR3 : Hid (w3.heap[w.heap.size]? = some (.cells (row .u8 z20).toArray 24 (0, 0))) := (hb3.block _ hw2).trans HR2.out
  have T1 : Hid (w3.there w.heap.size 0 (row .u8 fr).toArray.size) := hid (by rw [row_size, hfl]; exact there_row HR3.out rfl)
  have T4 : Hid (w3.there w.heap.size 0 (row .u8 fr).length) := hid (by rw [row_len, hfl]; exact there_row HR3.out rfl)
  rw [← HE.out]
  go_wp2_with (refine wpList_store_mid rfl 24 _ _ rfl w.heap.size 0 (row .u8 fr).toArray rfl rfl T1.out T2.out T3.out ?_)
  exact bodyPost_ret (v := .agg (row .u8 fr).toArray) (results_mid Tryz.results34 _ _ w.heap.size _ _ rfl (World.rangeAt_setCells_same w3 w.heap.size 0 _ T4.out) Tryz.underlying24 rfl hi25) rfl ⟨by rw [HE.out], below_setCells (Nat.le_refl _) _ _ _ _ HB3.out⟩
end Go.Proofs.YtikmbjfambjmaaaGreatDoor
namespace Go.Proofs.YtikmbjfambjmaaaGreatDoor
open Go.RowKit
set_option linter.unusedVariables false
set_option linter.unusedSimpArgs false
def Ers (w : World) : Prop := (∃ ev, w.cell? ⟨2, 0, none⟩ = some ev ∧ (ev = .nilIface ∨ ∃ te pe, ev = .iface te pe)) ∧ (∃ ev, w.cell? ⟨3, 0, none⟩ = some ev ∧ (ev = .nilIface ∨ ∃ te pe, ev = .iface te pe))
theorem cell_lt {w : World} {p : Addr} {v : Value} (h : w.cell? p = some v) : p.block < w.heap.size := by
  rcases Nat.lt_or_ge p.block w.heap.size with h' | h'
  · exact h'
  · simp [World.cell?, Array.getElem?_eq_none h'] at h
theorem Ers.below {w w' : World} (h : Ers w) (hb : Below w.heap.size w w') : Ers w' := by
  obtain ⟨⟨e1, h1, k1⟩, ⟨e2, h2, k2⟩⟩ := h
  exact ⟨⟨e1, (hb.cell (cell_lt h1)).trans h1, k1⟩, ⟨e2, (hb.cell (cell_lt h2)).trans h2, k2⟩⟩
theorem cut_le1 (s sep : List UInt8) : (Lib.cut s sep).1.length ≤ s.length := by
  unfold Lib.cut
  split
  · simp only [List.length_take]; omega
  · exact Nat.le_refl _
theorem cut_le2 (s sep : List UInt8) : (Lib.cut s sep).2.1.length ≤ s.length := by
  unfold Lib.cut
  split
  · simp only [List.length_drop]; omega
  · simp
end Go.Proofs.YtikmbjfambjmaaaGreatDoor
namespace Go.Proofs.YtikmbjfambjmaaaGreatDoor
open Go.RowKit
set_option linter.unusedVariables false
set_option linter.unusedSimpArgs false
structure Tg where
  id : List Int
  kind : Int
  name : List UInt8
  per : Per
  msg : List UInt8
def tgV (t : Tg) : List Value := row .u8 t.id ++ [.int .i64 t.kind, .string ⟨t.name.toArray⟩, .string ⟨t.per.name.toArray⟩, .string ⟨t.per.mail.toArray⟩, .int .i64 t.per.time, .int .i64 t.per.zone, .string ⟨t.msg.toArray⟩]
theorem tgV_len (t : Tg) (h : t.id.length = 20) : (tgV t).length = 27 := by simp [tgV, row_len, h]
end Go.Proofs.YtikmbjfambjmaaaGreatDoor
namespace Go.Proofs.YtikmbjfambjmaaaGreatDoor
open Go.RowKit
set_option linter.unusedVariables false
set_option linter.unusedSimpArgs false
structure L2 (b : Nat) (x y : ByteArray) (W : World) : Prop where
  lt : b < W.heap.size
  c0 : W.cell? ⟨b, 0, none⟩ = some (.string x)
  c1 : W.cell? ⟨b, 1, none⟩ = some (.string y)
theorem L2.below {b : Nat} {x y : ByteArray} {W W' : World} (h : L2 b x y W) (hb : Below W.heap.size W W') : L2 b x y W' :=
  ⟨Nat.lt_of_lt_of_le h.lt hb.size, (hb.cell (p := ⟨b, 0, none⟩) h.lt).trans h.c0, (hb.cell (p := ⟨b, 1, none⟩) h.lt).trans h.c1⟩
structure L4 (b : Nat) (x y z u : ByteArray) (W : World) : Prop where
  lt : b < W.heap.size
  c0 : W.cell? ⟨b, 0, none⟩ = some (.string x)
  c1 : W.cell? ⟨b, 1, none⟩ = some (.string y)
  c2 : W.cell? ⟨b, 2, none⟩ = some (.string z)
  c3 : W.cell? ⟨b, 3, none⟩ = some (.string u)
theorem L4.below {b : Nat} {x y z u : ByteArray} {W W' : World} (h : L4 b x y z u W) (hb : Below W.heap.size W W') : L4 b x y z u W' :=
  ⟨Nat.lt_of_lt_of_le h.lt hb.size, (hb.cell (p := ⟨b, 0, none⟩) h.lt).trans h.c0, (hb.cell (p := ⟨b, 1, none⟩) h.lt).trans h.c1, (hb.cell (p := ⟨b, 2, none⟩) h.lt).trans h.c2, (hb.cell (p := ⟨b, 3, none⟩) h.lt).trans h.c3⟩
end Go.Proofs.YtikmbjfambjmaaaGreatDoor
namespace Go.Proofs.YtikmbjfambjmaaaGreatDoor
open Go.RowKit
set_option linter.unusedVariables false
set_option linter.unusedSimpArgs false
theorem list20 : ∀ (fr : List Int), fr.length = 20 → ∃ a0 a1 a2 a3 a4 a5 a6 a7 a8 a9 a10 a11 a12 a13 a14 a15 a16 a17 a18 a19, fr = [a0, a1, a2, a3, a4, a5, a6, a7, a8, a9, a10, a11, a12, a13, a14, a15, a16, a17, a18, a19]
  | [a0, a1, a2, a3, a4, a5, a6, a7, a8, a9, a10, a11, a12, a13, a14, a15, a16, a17, a18, a19], _ => ⟨a0, a1, a2, a3, a4, a5, a6, a7, a8, a9, a10, a11, a12, a13, a14, a15, a16, a17, a18, a19, rfl⟩
theorem wpList_built {P : Program} {ops : Array Oper} {rest : List Oper} {o : Oper} {a : Act} {w : World} {Q : Exit → Act → World → Prop} (hg : o.guard = none) (t : TypeId) (parts : Array (Nat × Operand)) (ho : o.op = .build t parts) (cells : Array Value)
    (hf : P.built t (parts.map fun (i, x) => (i, a.eval x)).toList = some cells)
    (h : wpList P ops Q rest (a.put o.dst (.agg cells)) w) : wpList P ops Q (o :: rest) a w :=
  wpList_build hg t parts ho (by rw [hf]; rfl) (by rw [hf]; exact h)
theorem tgV_pre (t : Tg) (i : Nat) (v : Value) (h : t.id.length = 20) (hi : 20 ≤ i) : (tgV t).set i v = row .u8 t.id ++ ([.int .i64 t.kind, .string ⟨t.name.toArray⟩, .string ⟨t.per.name.toArray⟩, .string ⟨t.per.mail.toArray⟩, .int .i64 t.per.time, .int .i64 t.per.zone, .string ⟨t.msg.toArray⟩] : List Value).set (i - 20) v := by
  unfold tgV
  have hl : (row .u8 t.id).length = 20 := by rw [row_len]; exact h
  rw [List.set_append_right _ _ (by omega), hl]
theorem tg_set (t : Tg) (h : t.id.length = 20) (w : World) (g : Nat) (hg : w.heap[g]? = some (.cells (tgV t).toArray 71 (0, 0))) (i : Nat) (v : Value) : (w.setCell ⟨g, i, none⟩ v).heap[g]? = some (.cells ((tgV t).set i v).toArray 71 (0, 0)) := by
  rw [heap_setCell_same w g i _ 71 v hg, List.setIfInBounds_toArray]
theorem set_pn (t : Tg) (h : t.id.length = 20) (l : List UInt8) : (tgV t).set 22 (.string ⟨l.toArray⟩) = tgV { t with per := { t.per with name := l } } := by rw [tgV_pre t 22 _ h (by omega)]; rfl
theorem set_pm (t : Tg) (h : t.id.length = 20) (l : List UInt8) : (tgV t).set 23 (.string ⟨l.toArray⟩) = tgV { t with per := { t.per with mail := l } } := by rw [tgV_pre t 23 _ h (by omega)]; rfl
theorem set_pt (t : Tg) (h : t.id.length = 20) (k : Int) : (tgV t).set 24 (.int .i64 k) = tgV { t with per := { t.per with time := k } } := by rw [tgV_pre t 24 _ h (by omega)]; rfl
theorem set_pz (t : Tg) (h : t.id.length = 20) (k : Int) : (tgV t).set 25 (.int .i64 k) = tgV { t with per := { t.per with zone := k } } := by rw [tgV_pre t 25 _ h (by omega)]; rfl
theorem set_per (t : Tg) (h : t.id.length = 20) (p : Per) (w : World) (g : Nat) (hg : w.heap[g]? = some (.cells (tgV t).toArray 71 (0, 0))) : (w.setCells g 22 (perV p).toList).heap[g]? = some (.cells (tgV { t with per := p }).toArray 71 (0, 0)) := by
  have h1 := tg_set t h w g hg 22 (.string ⟨p.name.toArray⟩)
  rw [set_pn t h] at h1
  have h2 := tg_set _ (by exact h) _ g h1 23 (.string ⟨p.mail.toArray⟩)
  rw [set_pm _ (by exact h)] at h2
  have h3 := tg_set _ (by exact h) _ g h2 24 (.int .i64 p.time)
  rw [set_pt _ (by exact h)] at h3
  have h4 := tg_set _ (by exact h) _ g h3 25 (.int .i64 p.zone)
  rw [set_pz _ (by exact h)] at h4
  exact h4
end Go.Proofs.YtikmbjfambjmaaaGreatDoor
namespace Go.Proofs.YtikmbjfambjmaaaGreatDoor
open Go.RowKit
set_option linter.unusedVariables false
set_option linter.unusedSimpArgs false
structure TS (G G4 : Nat) (zr : Array Value) (r : ByteArray) (T : Tg) (w W : World) : Prop where
  below : Below G w W
  box : W.heap[G + 1]? = some (.cells #[.string r] 220 (0, 0))
  tag : W.heap[G4]? = some (.cells (tgV T).toArray 71 (0, 0))
  res : W.heap[G]? = some (.cells zr 71 (0, 0))
theorem TS.rd {G G4 : Nat} {zr : Array Value} {r r' : ByteArray} {T : Tg} {w W W' : World} (h : TS G G4 zr r T w W) (h4 : G + 1 < G4) (hr : Rd (G + 1) r' W W') : TS G G4 zr r' T w W' :=
  ⟨hr.below h.below (by omega) (lt_of_some h.box), hr.box, (hr.block G4 (lt_of_some h.tag) (by omega)).trans h.tag, (hr.block G (lt_of_some h.res) (by omega)).trans h.res⟩
theorem TS.grow {G G4 : Nat} {zr : Array Value} {r : ByteArray} {T : Tg} {w W W' : World} (h : TS G G4 zr r T w W) (hb : Below W.heap.size W W') : TS G G4 zr r T w W' :=
  ⟨h.below.trans (hb.mono (Nat.le_of_lt (lt_of_some h.res))), (hb.block _ (lt_of_some h.box)).trans h.box, (hb.block _ (lt_of_some h.tag)).trans h.tag, (hb.block _ (lt_of_some h.res)).trans h.res⟩
theorem TS.set {G G4 : Nat} {zr : Array Value} {r : ByteArray} {T T' : Tg} {w W : World} (h : TS G G4 zr r T w W) (h4 : G + 1 < G4) (hl : T.id.length = 20) (i : Nat) (v : Value) (he : (tgV T).set i v = tgV T') : TS G G4 zr r T' w (W.setCell ⟨G4, i, none⟩ v) :=
  ⟨h.below.setCell (by show G ≤ G4; omega) _, (heap_setCell_other W ⟨G4, i, none⟩ (G + 1) v (by show G + 1 ≠ G4; omega)).trans h.box, by rw [← he]; exact tg_set T hl W G4 h.tag i v, (heap_setCell_other W ⟨G4, i, none⟩ G v (by show G ≠ G4; omega)).trans h.res⟩
theorem heap_setCells_other (g k : Nat) (h : k ≠ g) : ∀ (vs : List Value) (o : Nat) (w : World), (w.setCells g o vs).heap[k]? = w.heap[k]?
  | [], _, _ => rfl
  | v :: vs, o, w => by
    show ((w.setCell ⟨g, o, none⟩ v).setCells g (o + 1) vs).heap[k]? = _
    rw [heap_setCells_other g k h vs]
    exact heap_setCell_other w ⟨g, o, none⟩ k v h
theorem TS.per {G G4 : Nat} {zr : Array Value} {r : ByteArray} {T : Tg} {w W : World} (h : TS G G4 zr r T w W) (h4 : G + 1 < G4) (hl : T.id.length = 20) (p : Per) : TS G G4 zr r { T with per := p } w (W.setCells G4 22 (perV p).toList) :=
  ⟨below_setCells (by omega) _ _ _ _ h.below, (heap_setCells_other G4 (G + 1) (by omega) _ _ _).trans h.box, set_per T hl p W G4 h.tag, (heap_setCells_other G4 G (by omega) _ _ _).trans h.res⟩
theorem TS.cell {G G4 : Nat} {zr : Array Value} {r : ByteArray} {T : Tg} {w W : World} (h : TS G G4 zr r T w W) (hl : T.id.length = 20) (i : Nat) (hi : i < 27) : ∃ v, W.cell? ⟨G4, i, none⟩ = some v ∧ W.frozen? ⟨G4, i, none⟩ = false := by
  have h1 : (tgV T).toArray[i]? = some ((tgV T)[i]'(by rw [tgV_len T hl]; exact hi)) := by simp [tgV_len T hl, hi]
  exact ⟨_, (cell_of_row W G4 i _ _ _ h.tag).trans h1, frozen_of_row W G4 i _ _ h.tag⟩
end Go.Proofs.YtikmbjfambjmaaaGreatDoor
namespace Go.Proofs.YtikmbjfambjmaaaGreatDoor
open Go.RowKit
set_option linter.unusedVariables false
set_option linter.unusedSimpArgs false
theorem results_mid2 {P : Program} {fn : Func} {p q : Tmp} {ty : TypeId} (h : fn.results = #[.cell p ty, .tmp q]) (tmps : Array Value) (w : World) (g : Nat) (cs : List Value) (d : TypeDesc)
    (hp : tmps.getD p undef = .pointer (some ⟨g, 0, none⟩)) (hc : w.rangeAt g 0 cs) (hu : P.underlying ty = some d) (hd : d.isRow = true) (hi : (P.info? ty).map (·.size) = some cs.length) :
    (results fn tmps).run P w = .ok (.tuple #[.agg cs.toArray, tmps.getD q undef]) w := by
  have hp' : tmps[p]?.getD undef = .pointer (some ⟨g, 0, none⟩) := by simpa using hp
  simp [results, h, hp', asAddr, run_loadVar_mid w g 0 ty cs d hc hu hd hi]
theorem Tryz.results21 : Tryz.f21.results = #[.cell 2 24, .tmp 3] := by kernel_rfl
def idZ (k : Int) (zs : List Int) : List Int := if errE k zs.length = 0 then sha (encZ k zs) else z20
theorem idZ_len (k : Int) (zs : List Int) : (idZ k zs).length = 20 := by
  unfold idZ
  split
  · exact sha_len _
  · rfl
def errV (n : Int) : Value := if n = 0 then .nilIface else .iface 45 (.int .i64 n)
theorem encZ_len (k : Int) (zs : List Int) (hl : zs.length ≤ 300000) : (encZ k zs).length ≤ zs.length + 14 := by
  have := h0_len k zs.length (by omega)
  unfold encZ hd
  rw [List.length_append, nums_len, List.length_append, List.length_singleton]
  omega
theorem encZ_isB (k : Int) (zs : List Int) (h : IsB zs) : IsB (encZ k zs) := by
  intro x hx
  rcases List.mem_append.1 hx with hx | hx
  · exact nums_isB _ x hx
  · exact h x hx
set_option maxRecDepth 20000 in
set_option maxHeartbeats 2000000 in
theorem id_any (k : Int) (a : Option Addr) (cap : Nat) (zs : List Int) (w : World) (ht : Tab w) (hl : zs.length ≤ 300000) (hz : IsB zs) (hS : Sl w a cap zs) :
    Calls Tryz.prog 21 #[.agg #[.int .i64 k, .slice a zs.length cap]] w fun e w' => e = .returned (.tuple #[.agg (row .u8 (idZ k zs)).toArray, errV (errE k zs.length)]) ∧ Below w.heap.size w w' := by
  obtain ⟨zr, HZ⟩ : ∃ zr : Array Value, Hid (zr = (row .u8 z20).toArray) := ⟨_, rfl⟩
  have hz25 := zero25
  rw [← HZ.out] at hz25
  obtain ⟨n, HN⟩ : ∃ n, Hid (zs.length = n) := ⟨_, rfl⟩
  obtain ⟨fr, HE⟩ : ∃ fr, Hid (fr = idZ k zs) := ⟨_, rfl⟩
  have hfl : fr.length = 20 := by rw [HE.out]; exact idZ_len _ _
  have hi25 : (Tryz.prog.info? 24).map (·.size) = some (row .u8 fr).length := by rw [row_len, hfl]; exact Tryz.size24
  have T2 : Hid ((Tryz.prog.info? 24).map (·.size) = some (row .u8 fr).toArray.size) := hid (by rw [row_size, hfl]; exact Tryz.size24)
  have T3 : Hid ((row .u8 fr).toArray.all (·.oneCell') = true) := all_oneCell_toArray (row_one _ _)
  obtain ⟨G, HG⟩ : ∃ G, Hid (w.heap.size = G) := ⟨_, rfl⟩
  obtain ⟨w0, HW0⟩ : ∃ w0, Hid ((w.alloc (.cells #[.int .i64 k, .slice a n cap] 28)).alloc (.cells zr 24) = w0) := ⟨_, rfl⟩
  have hs0 : w0.heap.size = G + 2 := by rw [← HW0.out, ← HG.out]; simp
  have hc0 : w0.cell? ⟨G, 0, none⟩ = some (.int .i64 k) := by rw [← HW0.out, ← HG.out]; simp
  have hc1 : w0.cell? ⟨G, 1, none⟩ = some (.slice a n cap) := by rw [← HW0.out, ← HG.out]; simp
  have HR0 : Hid (w0.heap[G + 1]? = some (.cells (row .u8 z20).toArray 24 (0, 0))) := hid (by
    have := heap_alloc_new (w.alloc (.cells #[.int .i64 k, .slice a n cap] 28)) (.cells zr 24)
    rw [HW0.out, HZ.out] at this
    rw [← HG.out]; simpa using this)
  have HB0 : Hid (Below G w w0) := hid (by rw [← HW0.out, ← HG.out]; exact ((Below.refl _ w).alloc (Nat.le_refl _) _).alloc (by simp) _)
  have HEN : Hid (Calls Tryz.prog 33 #[.agg #[.int .i64 k, .slice a n cap]] w0 (PostE k zs w0)) := by
    rw [← HN.out]
    exact encode_any k a cap zs w0 (ht.below (by rw [HG.out]; exact HB0.out)) hl (hS.below (by rw [HG.out]; exact HB0.out))
  replace hs0 := hid hs0
  rw [HN.out]
  go_enter Tryz.func21, Tryz.ntmps21
  go_wp2_with fail
  rw [HG.out, HW0.out]
  clear ht hS
  have hl' : Hid (zs.length ≤ 300000) := hl
  clear hl
  refine HEN.out.mono ?_
  rintro ev w1 ⟨hb1, ⟨he, rfl⟩ | ⟨he, g, c1, rfl, h1, h2, h3, h4⟩⟩
  · have hb1s := hb1.size
    rw [hs0.out] at hb1 hb1s
    have HR1 : Hid (w1.heap[G + 1]? = some (.cells (row .u8 z20).toArray 24 (0, 0))) := (hb1.block _ (by omega)).trans HR0.out
    have HB1 : Hid (Below G w w1) := HB0.out.trans (hb1.mono (by omega))
    obtain ⟨er, HER⟩ : ∃ er, Hid (er = errE k zs.length) := ⟨_, rfl⟩
    have HV : Hid (errV (errE k n) = .iface 45 (.int .i64 er)) := hid (by rw [← HN.out, HER.out]; unfold errV; rw [if_neg he])
    rw [← HER.out]
    have hfr : fr = z20 := by rw [HE.out]; unfold idZ; rw [if_neg he]
    have T1 : Hid (w1.there (G + 1) 0 (row .u8 fr).toArray.size) := hid (by rw [row_size, hfl]; exact there_row HR1.out rfl)
    have T4 : Hid (w1.there (G + 1) 0 (row .u8 fr).length) := hid (by rw [row_len, hfl]; exact there_row HR1.out rfl)
    obtain rfl : zr = (row .u8 fr).toArray := by rw [HZ.out, hfr]
    clear hb1 hfr he hc0 hc1
    go_wp2_with (refine wpList_store_mid rfl 24 _ _ rfl (G + 1) 0 (row .u8 fr).toArray rfl rfl T1.out T2.out T3.out ?_)
    exact bodyPost_ret (v := .tuple #[.agg (row .u8 fr).toArray, .iface 45 (.int .i64 er)]) (results_mid2 Tryz.results21 _ _ (G + 1) _ _ rfl (World.rangeAt_setCells_same w1 (G + 1) 0 _ T4.out) Tryz.underlying24 rfl hi25) rfl ⟨by rw [HV.out, HE.out], by rw [HG.out]; exact below_setCells (by omega) _ _ _ _ HB1.out⟩
  · have hb1s := hb1.size
    rw [hs0.out] at hb1 hb1s h1
    have HR1 : Hid (w1.heap[G + 1]? = some (.cells (row .u8 z20).toArray 24 (0, 0))) := (hb1.block _ (by omega)).trans HR0.out
    have HB1 : Hid (Below G w w1) := HB0.out.trans (hb1.mono (by omega))
    have HV : Hid (errV (errE k n) = .nilIface) := hid (by rw [← HN.out]; unfold errV; rw [if_pos he])
    have hfr : Hid (fr = sha (encZ k zs)) := hid (by rw [HE.out]; unfold idZ; rw [if_pos he])
    have HSU : Hid (Calls Tryz.prog 34 #[.slice (some ⟨g, 0, none⟩) (encZ k zs).length c1] w1 fun e w' => e = .returned (.agg (row .u8 (sha (encZ k zs))).toArray) ∧ Below w1.heap.size w1 w') :=
      sum6 (some ⟨g, 0, none⟩) c1 (encZ k zs) w1 (by
        have := encZ_len k zs hl'.out
        have := (fits_ok k _ he).2
        omega) (encZ_isB k zs hz) (fun _ => ⟨g, 0, rfl, h2, h3, h4⟩)
    obtain ⟨L, HL⟩ : ∃ L, Hid (L = (encZ k zs).length) := ⟨_, rfl⟩
    rw [← HL.out, ← hfr.out] at HSU
    rw [← HL.out]
    clear hb1 he hc0 hc1 h3 h4
    go_wp2_with fail
    refine HSU.out.mono ?_
    rintro ev w2 ⟨rfl, hb2⟩
    have HR2 : Hid (w2.heap[G + 1]? = some (.cells (row .u8 z20).toArray 24 (0, 0))) := (hb2.block _ (by omega)).trans HR1.out
    have HB2 : Hid (Below G w w2) := HB1.out.trans (hb2.mono (by omega))
    have T1 : Hid (w2.there (G + 1) 0 (row .u8 fr).toArray.size) := hid (by rw [row_size, hfl]; exact there_row HR2.out rfl)
    have T4 : Hid (w2.there (G + 1) 0 (row .u8 fr).length) := hid (by rw [row_len, hfl]; exact there_row HR2.out rfl)
    clear hb2
    go_wp2_with (refine wpList_store_mid rfl 24 _ _ rfl (G + 1) 0 (row .u8 fr).toArray rfl rfl T1.out T2.out T3.out ?_)
    exact bodyPost_ret (v := .tuple #[.agg (row .u8 fr).toArray, .nilIface]) (results_mid2 Tryz.results21 _ _ (G + 1) _ _ rfl (World.rangeAt_setCells_same w2 (G + 1) 0 _ T4.out) Tryz.underlying24 rfl hi25) rfl ⟨by rw [HV.out, HE.out], by rw [HG.out]; exact below_setCells (by omega) _ _ _ _ HB2.out⟩
end Go.Proofs.YtikmbjfambjmaaaGreatDoor
namespace Go.Proofs.YtikmbjfambjmaaaGreatDoor
open Go.RowKit
set_option linter.unusedVariables false
set_option linter.unusedSimpArgs false
theorem equal_any (a a2 : Option Addr) (cap cap2 : Nat) (zs ys : List Int) (w : World) (hS : Sl w a cap zs) (hS2 : Sl w a2 cap2 ys) :
    Calls Tryz.prog 49 #[.slice a zs.length cap, .slice a2 ys.length cap2] w fun e w' => e = .returned (.bool (Lib.bytesOf zs == Lib.bytesOf ys)) ∧ w' = w :=
  Any.bytes_Equal_all Tryz.laysb115 a a2 zs.length cap ys.length cap2 zs ys w rfl rfl hS.bytesIn hS2.bytesIn
end Go.Proofs.YtikmbjfambjmaaaGreatDoor
