/- 'New', 'Sum'. -/
import Derived.Test.YtbpdielmdhhdfaaGreatDoorSumA
namespace Go.Proofs.YtbpdielmdhhdfaaGreatDoor
open Go.RowKit
set_option linter.unusedVariables false

def N43 : Array Value := (row .u32 init5.l ++ row .u8 (List.replicate 64 0) ++ ([.int .u64 0] : List Value)).toArray
theorem new_dig {w : World} {g : Nat} (h : w.heap[g]? = some (.cells N43 184 (0, 0))) : Dig w g [] := by
  have hlt : g < w.heap.size := by
    rcases Nat.lt_or_ge g w.heap.size with h' | h'
    · exact h'
    · rw [Array.getElem?_eq_none h'] at h; cases h
  have c : ∀ i, w.cell? ⟨g, i, none⟩ = N43[i]? := fun i => cell_of_row w g i _ 184 _ h
  refine ⟨hlt, fun i hi => ?_, ⟨List.replicate 64 0, by simp, ?_, fun i hi => ?_, fun i hi => by simp at hi⟩, by rw [c]; rfl, fun i => frozen_of_row w g i _ 184 h⟩
  · rw [c]
    match i, hi with
    | 0, _ => rfl
    | 1, _ => rfl
    | 2, _ => rfl
    | 3, _ => rfl
    | 4, _ => rfl
  · intro x hx; rw [List.mem_replicate] at hx; omega
  · rw [c]
    have e : N43[5 + i]? = (row .u8 (List.replicate 64 0))[i]? := by
      simp only [N43, List.getElem?_toArray]
      rw [List.getElem?_append_left (by rw [List.length_append, row_len, row_len]; simp [S5.l, init5]; omega), List.getElem?_append_right (by rw [row_len]; simp [S5.l, init5])]
      congr 1
      rw [row_len]; simp [S5.l, init5]
    rw [e, row_at .u8 _ i (by simpa using hi)]
set_option maxRecDepth 20000 in
set_option maxHeartbeats 2000000 in
theorem new_any (w : World) : Calls Tryz.prog 73 #[] w fun e w' => e = .returned (.pointer (some ⟨w.heap.size, 0, none⟩)) ∧ w' = w.alloc (.cells N43 184) := by
  obtain ⟨z43, HZ43⟩ : ∃ z : Array Value, Hid (z = Z43) := ⟨_, rfl⟩
  have hz43 := zero43
  rw [← HZ43.out] at hz43
  have hsz : z43.size = 70 := by rw [HZ43.out]; rfl
  have HE : Hid (((((z43.setIfInBounds 0 (.int .u32 1732584193)).setIfInBounds 1 (.int .u32 4023233417)).setIfInBounds 2 (.int .u32 2562383102)).setIfInBounds 3 (.int .u32 271733878)).setIfInBounds 4 (.int .u32 3285377520) = N43) := hid (by rw [HZ43.out]; rfl)
  go_enter Tryz.func73, Tryz.ntmps73
  go_wp2
  go_ret
  refine ⟨rfl, ?_⟩
  rw [← HE.out]
theorem dig_lt {w : World} {D : Nat} {l : List Int} (h : Dig w D l) : D < w.heap.size := h.lt
set_option maxRecDepth 20000 in
set_option maxHeartbeats 2000000 in
theorem sum6 (a : Option Addr) (cap : Nat) (zs : List Int) (w : World) (hl : zs.length ≤ 300000) (hz : IsB zs) (hc : 0 < zs.length → ∃ b off, a = some ⟨b, off, none⟩ ∧ b < w.heap.size ∧ At w b off zs ∧ zs.length ≤ cap) :
    Calls Tryz.prog 35 #[.slice a zs.length cap] w fun e w' => e = .returned (.agg (row .u8 (sha zs)).toArray) ∧ Below w.heap.size w w' := by
  obtain ⟨zr, HZ⟩ : ∃ zr : Array Value, Hid (zr = (row .u8 z20).toArray) := ⟨_, rfl⟩
  have hz25 := zero25
  rw [← HZ.out] at hz25
  obtain ⟨fr, HE⟩ : ∃ fr, Hid (fr = sha zs) := ⟨_, rfl⟩
  have hfl : fr.length = 20 := by rw [HE.out]; exact sha_len _
  have hi25 : (Tryz.prog.info? 32).map (·.size) = some (row .u8 fr).length := by rw [row_len, hfl]; exact Tryz.size32
  have T2 : Hid ((Tryz.prog.info? 32).map (·.size) = some (row .u8 fr).toArray.size) := hid (by rw [row_size, hfl]; exact Tryz.size32)
  have T3 : Hid ((row .u8 fr).toArray.all (·.oneCell') = true) := all_oneCell_toArray (row_one _ _)
  obtain ⟨w0, HW0⟩ : ∃ w0, Hid (w0 = w.alloc (.cells zr 32)) := ⟨_, rfl⟩
  have hs0 : w0.heap.size = w.heap.size + 1 := by rw [HW0.out]; simp
  have HR0 : Hid (w0.heap[w.heap.size]? = some (.cells (row .u8 z20).toArray 32 (0, 0))) := hid (by rw [HW0.out, HZ.out]; exact heap_alloc_new w _)
  have HB0 : Hid (Below w.heap.size w w0) := hid (by rw [HW0.out]; exact (Below.refl _ w).alloc (Nat.le_refl _) _)
  replace hs0 := hid hs0
  go_enter Tryz.func35, Tryz.ntmps35
  go_wp2_with fail
  rw [← HW0.out]
  refine (new_any w0).mono ?_
  rintro e w1 ⟨rfl, hw1⟩
  have HD1 : Dig w1 w0.heap.size [] := new_dig (by rw [hw1]; exact heap_alloc_new w0 _)
  have HX1 : Hid (Below w0.heap.size w0 w1) := hid (by rw [hw1]; exact (Below.refl _ w0).alloc (Nat.le_refl _) _)
  clear hw1
  rw [hs0.out] at HD1
  have HX1' : Hid (Below (w.heap.size + 1) w0 w1) := hid (by rw [← hs0.out]; exact HX1.out)
  rw [hs0.out]
  go_wp2_with fail
  refine (add_any (w.heap.size + 1) [] a cap zs w1 HD1 (by simp; omega) (fun x hx => by cases hx) hz (fun h => by
    obtain ⟨b, off, h1, h2, h3, h4⟩ := hc h
    exact ⟨b, off, h1, by have := HX1'.out.size; have := hs0.out; omega, by omega, fun i hi => (HX1'.out.cell (p := ⟨b, off + i, none⟩) (by show b < _; omega)).trans ((HB0.out.cell (p := ⟨b, off + i, none⟩) h2).trans (h3 i hi)), h4⟩)).mono ?_
  rintro e w2 ⟨rfl, hD2, hg2⟩
  rw [List.nil_append] at hD2
  have hsz1 := HX1'.out.size
  have hsz2 := hg2.size
  have HB2 : Hid (Below w.heap.size w w2) := (HB0.out.trans (HX1'.out.mono (by omega))).grown hg2 (by have := hs0.out; omega) (fun k hk => by simp at hk; omega)
  have HR2 : Hid (w2.heap[w.heap.size]? = some (.cells (row .u8 z20).toArray 32 (0, 0))) := (hg2.block _ (by have := hs0.out; omega) (by simp)).trans ((HX1'.out.block _ (by omega)).trans HR0.out)
  have hw2 : w.heap.size < w2.heap.size := by have := hs0.out; omega
  replace hg2 := hid hg2
  replace hD2 := hid hD2
  go_wp2_with fail
  refine (sum_any (w.heap.size + 1) zs w2 hD2.out (by omega) hz).mono ?_
  rintro e w3 ⟨rfl, hb3⟩
  have HB3 : Hid (Below w.heap.size w w3) := HB2.out.trans (hb3.mono (by omega))
  have HR3 : Hid (w3.heap[w.heap.size]? = some (.cells (row .u8 z20).toArray 32 (0, 0))) := (hb3.block _ hw2).trans HR2.out
  have T1 : Hid (w3.there w.heap.size 0 (row .u8 fr).toArray.size) := hid (by rw [row_size, hfl]; exact there_row HR3.out rfl)
  have T4 : Hid (w3.there w.heap.size 0 (row .u8 fr).length) := hid (by rw [row_len, hfl]; exact there_row HR3.out rfl)
  rw [← HE.out]
  go_wp2_with (refine wpList_store_mid rfl 32 _ _ rfl w.heap.size 0 (row .u8 fr).toArray rfl rfl T1.out T2.out T3.out ?_)
  exact bodyPost_ret (v := .agg (row .u8 fr).toArray) (results_mid Tryz.results35 _ _ w.heap.size _ _ rfl (World.rangeAt_setCells_same w3 w.heap.size 0 _ T4.out) Tryz.underlying32 rfl hi25) rfl ⟨by rw [HE.out], below_setCells (Nat.le_refl _) _ _ _ _ HB3.out⟩
end Go.Proofs.YtbpdielmdhhdfaaGreatDoor
