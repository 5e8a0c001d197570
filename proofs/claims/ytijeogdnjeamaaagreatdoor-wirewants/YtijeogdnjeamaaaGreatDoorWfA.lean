/- 'readIDs': its closure, 'readList' of ids, 'readWanting'. -/
import Derived.Test.YtijeogdnjeamaaaGreatDoorWeF
namespace Go.Proofs.YtijeogdnjeamaaaGreatDoor
open Go.RowKit
set_option linter.unusedVariables false
set_option linter.unusedSimpArgs false
def PostPr (s : Str) (w : World) (e : Ending) (w' : World) : Prop :=
  Below w.heap.size w w' ∧ ((∃ x, prs s = some x ∧ e = .returned (.tuple #[idV x, .nilIface])) ∨ (prs s = none ∧ e = .returned (.tuple #[idV z20, .iface 37 (.int .i64 12)])))
theorem parseP (s : Str) (hl : s.length ≤ 300000) (w : World) : Calls Tryz.prog 123 #[.string ⟨s.toArray⟩] w (PostPr s w) := by
  refine (Hx.parse_prog ⟨s.toArray⟩ w (by rw [txt_len]; exact hl)).mono ?_
  rintro e w' ⟨hb, h1, h2⟩
  refine ⟨hb, ?_⟩
  by_cases h : (⟨s.toArray⟩ : ByteArray).size = 40 ∧ Hx.good ⟨s.toArray⟩
  · exact .inl ⟨_, prs_yes h, h1 h⟩
  · exact .inr ⟨prs_not h, h2 h⟩
theorem Tryz.results125 : Tryz.f125.results = #[.cell 3 68, .tmp 4] := by kernel_rfl
set_option maxRecDepth 20000 in
set_option maxHeartbeats 1000000 in
theorem readF_any {w : World} {q : Nat} (p : Str) (hp : p.length ≤ 10) (s : Str) (hl : s.length ≤ 10000) (hq : w.cell? ⟨q, 0, none⟩ = some (.string ⟨p.toArray⟩)) (hql : q < w.heap.size) :
    Calls Tryz.prog 125 #[.string ⟨s.toArray⟩, .pointer (some ⟨q, 0, none⟩)] w (PostPr (trP p s) w) := by
  obtain ⟨G, HG⟩ : ∃ n, Hid (w.heap.size = n) := ⟨_, rfl⟩
  obtain ⟨zr, HZR⟩ : ∃ z : Array Value, Hid (z = (row .u8 z20).toArray) := ⟨_, hid rfl⟩
  have hz68 : ∀ w : World, (zeroValue 68).run Tryz.prog w = .ok (.agg zr) w := fun w => by rw [HZR.out]; exact zero68 w
  obtain ⟨w1, HW1⟩ : ∃ u, Hid (w.alloc (.cells zr 68) = u) := ⟨_, rfl⟩
  have hb1 : Below G w w1 := by rw [← HW1.out, ← HG.out]; exact (Below.refl _ w).alloc (Nat.le_refl _) _
  have hs1 : w1.heap.size = G + 1 := by rw [← HW1.out, ← HG.out]; exact size_alloc _ _
  have hn1 : w1.heap[G]? = some (.cells zr 68 (0, 0)) := by rw [← HW1.out, ← HG.out]; exact heap_alloc_new _ _
  have hq1 : w1.cell? ⟨q, 0, none⟩ = some (.string ⟨p.toArray⟩) := (hb1.cell (p := ⟨q, 0, none⟩) (by rw [← HG.out]; exact hql)).trans hq
  obtain ⟨X, HX⟩ : ∃ X : ByteArray, Hid (⟨s.toArray⟩ = X) := ⟨_, hid rfl⟩
  obtain ⟨Pd, HPD⟩ : ∃ X : ByteArray, Hid (⟨p.toArray⟩ = X) := ⟨_, hid rfl⟩
  obtain ⟨Tx, HTX⟩ : ∃ X : ByteArray, Hid (⟨(trP p s).toArray⟩ = X) := ⟨_, hid rfl⟩
  have C1 : Hid (Calls Tryz.prog 101 #[.string X, .string Pd] w1 fun e w' => e = .returned (.string Tx) ∧ w' = w1) := hid (by
    have := trimPre s p w1
    rw [sV_out, sV_out, sV_out, HX.out, HPD.out, HTX.out] at this
    exact this)
  have C2 : Hid (Calls Tryz.prog 123 #[.string Tx] w1 (PostPr (trP p s) w1)) := hid (by
    rw [← HTX.out]
    exact parseP (trP p s) (by have := trP_len p s; omega) w1)
  rw [HPD.out] at hq1
  rw [HX.out]
  have HS1 := hid hs1
  have HN1 := hid hn1
  have HB1 := hid hb1
  have HGG : Hid (∀ (w2 : World) (x : List Int), IdW x → Below w1.heap.size w1 w2 → w2.there G 0 (row .u8 x).toArray.size ∧ Below G w (w2.setCells G 0 (row .u8 x).toArray.toList) ∧ (w2.setCells G 0 (row .u8 x).toArray.toList).rangeAt G 0 (row .u8 x)) := hid (fun w2 x hx hb => by
    have h2 : w2.heap[G]? = some (.cells zr 68 (0, 0)) := (hb.block G (by rw [HS1.out]; omega)).trans HN1.out
    have ht : w2.there G 0 (row .u8 x).toArray.size := there_off h2 0 (by rw [List.size_toArray, row_len, hx.1, HZR.out]; simp [row, z20])
    exact ⟨ht, below_setCells (Nat.le_refl _) _ _ _ _ (HB1.out.trans (hb.mono (by rw [HS1.out]; omega))), World.rangeAt_setCells_same _ _ 0 _ (by rwa [List.size_toArray] at ht)⟩)
  have al1 : w.alloc (.cells zr 68) = w1 := HW1.out
  have hs0 : w.heap.size = G := HG.out
  unfold PostPr
  rw [HG.out]
  clear hq hql hb1 hs1 hn1
  go_enter Tryz.func125, Tryz.ntmps125
  go_wp2_with fail
  refine C1.out.mono ?_
  rintro e wz ⟨rfl, hwz⟩
  rw [hwz]
  clear hwz
  go_wp2_with fail
  refine C2.out.mono ?_
  rintro e w2 ⟨hb2, ⟨x, hx, rfl⟩ | ⟨hx, rfl⟩⟩
  · have hw := (prs_wf hx).1
    obtain ⟨h1, h2, h3⟩ := HGG.out w2 x hw hb2
    have HXX := hid hx
    obtain ⟨Y, HY⟩ : ∃ R : List Value, Hid (row .u8 x = R) := ⟨_, rfl⟩
    have hiY : (Tryz.prog.info? 68).map (·.size) = some Y.length := by rw [← HY.out, row_len, hw.1]; exact size68
    have T3 : Hid (Y.toArray.all (·.oneCell') = true) := hid (by rw [← HY.out]; exact all_oneCell_toArray (row_oneC _))
    have T2 : Hid ((Tryz.prog.info? 68).map (·.size) = some Y.toArray.size) := hid (by rw [List.size_toArray]; exact hiY)
    rw [HY.out] at h1 h2 h3
    have T1 := hid h1
    have HB := hid h2
    have HR := hid h3
    unfold idV
    rw [HY.out]
    obtain ⟨w3, HW3⟩ : ∃ u, Hid (w2.setCells G 0 Y.toArray.toList = u) := ⟨_, rfl⟩
    rw [HW3.out] at HB HR
    clear h1 h2 h3 hx hw hb2
    go_wp2_with (first
      | (refine wpList_store_mid rfl 68 _ _ rfl G 0 Y.toArray rfl rfl T1.out T2.out T3.out ?_; rw [HW3.out])
      | fail)
    refine bodyPost_ret (Hx.results_mid2 (t2 := 27) Tryz.results125 _ _ G _ _ _ rfl rfl HR.out Tryz.underlying68 rfl hiY) rfl ?_
    exact ⟨HB.out, .inl ⟨x, HXX.out, by show _ = Ending.returned (.tuple #[.agg (row .u8 x).toArray, .nilIface]); rw [HY.out]; rfl⟩⟩
  · have hw : IdW z20 := ⟨rfl, by intro n hn; rw [List.eq_of_mem_replicate hn]; omega⟩
    obtain ⟨h1, h2, h3⟩ := HGG.out w2 z20 hw hb2
    have HXX := hid hx
    obtain ⟨Y, HY⟩ : ∃ R : List Value, Hid (row .u8 z20 = R) := ⟨_, rfl⟩
    have hiY : (Tryz.prog.info? 68).map (·.size) = some Y.length := by rw [← HY.out, row_len, hw.1]; exact size68
    have T3 : Hid (Y.toArray.all (·.oneCell') = true) := hid (by rw [← HY.out]; exact all_oneCell_toArray (row_oneC _))
    have T2 : Hid ((Tryz.prog.info? 68).map (·.size) = some Y.toArray.size) := hid (by rw [List.size_toArray]; exact hiY)
    rw [HY.out] at h1 h2 h3
    have T1 := hid h1
    have HB := hid h2
    have HR := hid h3
    unfold idV
    rw [HY.out]
    obtain ⟨w3, HW3⟩ : ∃ u, Hid (w2.setCells G 0 Y.toArray.toList = u) := ⟨_, rfl⟩
    rw [HW3.out] at HB HR
    clear h1 h2 h3 hx hw hb2
    go_wp2_with (first
      | (refine wpList_store_mid rfl 68 _ _ rfl G 0 Y.toArray rfl rfl T1.out T2.out T3.out ?_; rw [HW3.out])
      | fail)
    refine bodyPost_ret (Hx.results_mid2 (t2 := 27) Tryz.results125 _ _ G _ _ _ rfl rfl HR.out Tryz.underlying68 rfl hiY) rfl ?_
    exact ⟨HB.out, .inr ⟨HXX.out, by show _ = Ending.returned (.tuple #[.agg (row .u8 z20).toArray, .iface 37 (.int .i64 12)]); rw [HY.out]; rfl⟩⟩
end Go.Proofs.YtijeogdnjeamaaaGreatDoor
