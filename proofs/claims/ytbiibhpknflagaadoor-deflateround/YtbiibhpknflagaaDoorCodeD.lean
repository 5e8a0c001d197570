/- 'wholeCode' where the code is none; 'bareCode'. -/
import Derived.Test.YtbiibhpknflagaaDoorCodeC
namespace Go.Proofs.YtbiibhpknflagaaDoor
open Go.RowKit Plain
set_option linter.unusedVariables false
set_option linter.unusedSimpArgs false

set_option maxRecDepth 20000 in
set_option maxHeartbeats 4000000 in
theorem wholeCode_bad (S b off cap : Nat) (lens : List Nat) (w : World) (hl : lens.length ≤ 400) (h15 : ∀ x ∈ lens, x ≤ 15) (hat : AtI w b off lens) (hb : b < w.heap.size) (hwh : wholeB (cntOf lens) = false) :
    Calls Tryd.prog 57 #[.pointer (some ⟨S, 0, none⟩), .slice (some ⟨b, off, none⟩) lens.length cap] w fun e w' => e = .panicked (errv 10) ∧ Below w.heap.size w w' := by
  have hlen16 := cntOf_len lens
  have hle := cntOf_le lens
  have hi2 : (Tryd.prog.info? 117).map (·.size) = some (arr (cntOf lens)).length := by rw [arr_len, hlen16]; exact Tryd.info117
  have HC : Hid (∀ i, (cntOf lens).getD i 0 ≤ 400) := fun i => by have := hle i; omega
  clear hle
  go_enter Tryd.func57, Tryd.ntmps57
  go_wp2_with fail
  refine (countLengths_any b off cap lens w hl h15 hat hb).mono ?_
  rintro e w1 ⟨rfl, hb1⟩
  obtain ⟨ht, hW⟩ := boxed w1 (cntOf lens) hlen16
  go_wp2_with (first | refine wpList_store_mid rfl 117 _ _ rfl w1.heap.size 0 (arr (cntOf lens)).toArray rfl rfl ?t1 ?t2 ?t3 ?_ | refine wpList_load_mid rfl 117 _ rfl w1.heap.size 0 rfl (arr (cntOf lens)) _ (hW _ rfl).1 Tryd.underlying117 rfl hi2 ?_)
  case t1 => rw [show (arr (cntOf lens)).toArray.size = 16 from by rw [List.size_toArray, arr_len, hlen16]]; exact ht
  case t2 => rw [List.size_toArray]; exact hi2
  case t3 => exact all_oneCell_toArray (arr_one _)
  refine (whole_any (cntOf lens) _ hlen16 HC.out).mono ?_
  rintro e w2 ⟨rfl, hb2⟩
  rw [hwh]
  obtain ⟨hr, hbW, hsW⟩ := hW _ rfl
  rw [hsW] at hb2
  have HB : Hid (Below w.heap.size w w2) := hb1.trans ((hbW.mono hb1.size).trans (hb2.mono (by have := hb1.size; omega)))
  clear hW hr hbW hsW hb2 ht
  go_wp2
  exact ⟨rfl, rfl, HB.out⟩

set_option maxRecDepth 20000 in
set_option maxHeartbeats 4000000 in
theorem bareCode_whole (S b off cap : Nat) (lens : List Nat) (w : World) (hl : lens.length ≤ 400) (h15 : ∀ x ∈ lens, x ≤ 15) (hat : AtI w b off lens) (hb : b < w.heap.size) (hwh : wholeB (cntOf lens) = true) :
    Calls Tryd.prog 61 #[.pointer (some ⟨S, 0, none⟩), .slice (some ⟨b, off, none⟩) lens.length cap] w fun e w' => ∃ L, e = .returned (codeV L) ∧ Below w.heap.size w w' ∧ New w w' S L (cntOf lens) (srtOf lens) := by
  have hlen16 := cntOf_len lens
  have hle := cntOf_le lens
  have hi2 : (Tryd.prog.info? 117).map (·.size) = some (arr (cntOf lens)).length := by rw [arr_len, hlen16]; exact Tryd.info117
  have HC : Hid (∀ i, (cntOf lens).getD i 0 ≤ 400) := fun i => by have := hle i; omega
  clear hle
  go_enter Tryd.func61, Tryd.ntmps61
  go_wp2_with fail
  refine (countLengths_any b off cap lens w hl h15 hat hb).mono ?_
  rintro e w1 ⟨rfl, hb1⟩
  obtain ⟨ht, hW⟩ := boxed w1 (cntOf lens) hlen16
  go_wp2_with (first | refine wpList_store_mid rfl 117 _ _ rfl w1.heap.size 0 (arr (cntOf lens)).toArray rfl rfl ?t1 ?t2 ?t3 ?_ | refine wpList_load_mid rfl 117 _ rfl w1.heap.size 0 rfl (arr (cntOf lens)) _ (hW _ rfl).1 Tryd.underlying117 rfl hi2 ?_)
  case t1 => rw [show (arr (cntOf lens)).toArray.size = 16 from by rw [List.size_toArray, arr_len, hlen16]]; exact ht
  case t2 => rw [List.size_toArray]; exact hi2
  case t3 => exact all_oneCell_toArray (arr_one _)
  refine (whole_any (cntOf lens) _ hlen16 HC.out).mono ?_
  rintro e w2 ⟨rfl, hb2⟩
  rw [hwh]
  obtain ⟨hr, hbW, hsW⟩ := hW _ rfl
  rw [hsW] at hb2
  have hr2 : w2.rangeAt w1.heap.size 0 (arr (cntOf lens)) := range_below hr hb2 (by omega)
  have hb02 : Below w.heap.size w w2 := hb1.trans ((hbW.mono hb1.size).trans (hb2.mono (by have := hb1.size; omega)))
  have HLT : Hid (w1.heap.size < w2.heap.size) := by have := hb2.size; rw [hsW] at this; show _ < _; omega
  clear hW hr hbW hsW hb2 ht
  have h16 : (arr (cntOf lens)).length = 16 := by rw [arr_len, hlen16]
  have h1c := arr_one (cntOf lens)
  have hu := Tryd.underlying117
  have hat2 : AtI w2 b off lens := fun i hi => (hb02.cell (p := ⟨b, off + i, none⟩) hb).trans (hat i hi)
  have hbl2 : b < w2.heap.size := by have := hb02.size; omega
  go_wp2
  refine wp_region_held_drew (S := fun w' => w'.rangeAt w1.heap.size 0 (arr (cntOf lens))) (by kernel_rfl) hr2 (fun hHeld => ?_)
  refine wpAnyH_take (i := 0) (v := ?_) rfl (by kernel_rfl) (by kernel_rfl) (by kernel_rfl) (fun _ _ _ h => h) (Or.inl ⟨by rfl, ?_⟩) hHeld ?_
  rotate_left
  · intro w hSw; go_simp; rfl
  try simp only [Act.put, List.setIfInBounds_toArray, List.set_cons_zero, List.set_cons_succ]
  refine wpAnyH_take (i := 1) rfl (by kernel_rfl) (by kernel_rfl) (by kernel_rfl) (fun _ _ _ h => h) (yieldsIf_load_mid (by rfl) _ _ rfl w1.heap.size 0 rfl (arr (cntOf lens)) _ (fun w h => h) Tryd.underlying117 rfl hi2) hHeld ?_
  try simp only [Act.put, List.setIfInBounds_toArray, List.set_cons_zero, List.set_cons_succ]
  refine wpAnyH_take (i := 2) rfl (by kernel_rfl) (by kernel_rfl) (by kernel_rfl) (fun _ _ _ h => h) (yieldsIf_load_mid (by rfl) _ _ rfl w1.heap.size 0 rfl (arr (cntOf lens)) _ (fun w h => h) Tryd.underlying117 rfl hi2) hHeld ?_
  try simp only [Act.put, List.setIfInBounds_toArray, List.set_cons_zero, List.set_cons_succ]
  refine wpAnyH_take (i := 3) (v := ?_) rfl (by kernel_rfl) (by kernel_rfl) (by kernel_rfl) (fun _ _ _ h => h) (Or.inl ⟨by rfl, ?_⟩) hHeld ?_
  rotate_left
  · intro w hSw; go_simp; rfl
  try simp only [Act.put, List.setIfInBounds_toArray, List.set_cons_zero, List.set_cons_succ]
  refine wpAnyH_ready (rs := [4]) (by kernel_rfl) (by simp) ?_
  refine AllReadyH.cons rfl (fun K hK => ?_) AllReadyH.nil
  go_simp
  refine (inOrder_any b off cap lens _ hl h15 (by exact hat2) (by exact hbl2)).mono ?_
  rintro e w3 ⟨g, hg0, rfl, hb3, hg3⟩
  refine hK.out _ _ (range_below hHeld hb3 HLT.out) (fun hHeld3 => ?_)
  clear hK K
  try simp only [Act.put, List.setIfInBounds_toArray, List.set_cons_zero, List.set_cons_succ]
  refine wpAnyH_ready (rs := [5]) (by kernel_rfl) (by simp) ?_
  refine AllReadyH.cons rfl (fun K hK => ?_) AllReadyH.nil
  go_simp
  have hs3 := hb3.size
  have hs02 := hb02.size
  refine (decoder_any S g _ _ (cntOf lens) (srtOf lens) w w3 hlen16 rfl hg3 (by simp at hg0; omega) (by simp at hs3; omega)).mono ?_
  rintro e w4 ⟨L, rfl, hb4, hn4⟩
  refine hK.out _ _ (range_below hHeld3 hb4 (by have := HLT.out; simp at hs3; omega)) (fun hHeld4 => ?_)
  clear hK K
  try simp only [Act.put, List.setIfInBounds_toArray, List.set_cons_zero, List.set_cons_succ]
  have HF : Hid (Below w.heap.size w w4 ∧ New w w4 S L (cntOf lens) (srtOf lens)) := ⟨(hb02.trans (Below.mono (show Below w2.heap.size w2 w3 from ⟨hb3.os, hb3.tape, hb3.output, hb3.size, hb3.block⟩) (by omega))).trans (hb4.mono (by simp at hs3; omega)), hn4⟩
  refine wpAnyH_ready (rs := [6]) (by kernel_rfl) (by simp) ?_
  refine AllReadyH.cons rfl (fun K hK => ?_) AllReadyH.nil
  go_simp
  refine hK.out _ _ hHeld4 (fun hHeld5 => ?_)
  clear hK K
  try simp only [Act.put, List.setIfInBounds_toArray, List.set_cons_zero, List.set_cons_succ]
  refine wpAnyH_done (by kernel_rfl) ?_ _
  clear hHeld hHeld3 hHeld4 hHeld5 hb4 hn4 hb3
  go_wp2
  go_ret
  exact ⟨L, rfl, HF.out.1, HF.out.2⟩

set_option maxRecDepth 20000 in
set_option maxHeartbeats 4000000 in
theorem bareCode_bare (S b off cap : Nat) (lens : List Nat) (w : World) (hl : lens.length ≤ 400) (h15 : ∀ x ∈ lens, x ≤ 15) (hat : AtI w b off lens) (hb : b < w.heap.size) (hwh : wholeB (cntOf lens) = false) (hbr : bareB (cntOf lens) = true) :
    Calls Tryd.prog 61 #[.pointer (some ⟨S, 0, none⟩), .slice (some ⟨b, off, none⟩) lens.length cap] w fun e w' => ∃ L, e = .returned (codeV L) ∧ Below w.heap.size w w' ∧ New w w' S L (cntOf lens) (srtOf lens) := by
  have hlen16 := cntOf_len lens
  have hle := cntOf_le lens
  have hi2 : (Tryd.prog.info? 117).map (·.size) = some (arr (cntOf lens)).length := by rw [arr_len, hlen16]; exact Tryd.info117
  have HC : Hid (∀ i, (cntOf lens).getD i 0 ≤ 400) := fun i => by have := hle i; omega
  clear hle
  go_enter Tryd.func61, Tryd.ntmps61
  go_wp2_with fail
  refine (countLengths_any b off cap lens w hl h15 hat hb).mono ?_
  rintro e w1 ⟨rfl, hb1⟩
  obtain ⟨ht, hW⟩ := boxed w1 (cntOf lens) hlen16
  go_wp2_with (first | refine wpList_store_mid rfl 117 _ _ rfl w1.heap.size 0 (arr (cntOf lens)).toArray rfl rfl ?t1 ?t2 ?t3 ?_ | refine wpList_load_mid rfl 117 _ rfl w1.heap.size 0 rfl (arr (cntOf lens)) _ (hW _ rfl).1 Tryd.underlying117 rfl hi2 ?_)
  case t1 => rw [show (arr (cntOf lens)).toArray.size = 16 from by rw [List.size_toArray, arr_len, hlen16]]; exact ht
  case t2 => rw [List.size_toArray]; exact hi2
  case t3 => exact all_oneCell_toArray (arr_one _)
  refine (whole_any (cntOf lens) _ hlen16 HC.out).mono ?_
  rintro e w2a ⟨rfl, hb2a⟩
  rw [hwh]
  obtain ⟨hra, hbW, hsW⟩ := hW _ rfl
  rw [hsW] at hb2a
  have hr2a : w2a.rangeAt w1.heap.size 0 (arr (cntOf lens)) := range_below hra hb2a (by omega)
  have HLTa : Hid (w1.heap.size < w2a.heap.size) := by have := hb2a.size; rw [hsW] at this; show _ < _; omega
  have HBa : Hid (Below w1.heap.size w1 w2a) := hbW.trans (hb2a.mono (by omega))
  clear hW hra hbW hsW hb2a ht
  go_wp2_with (refine BigFrame.wpList_want (by rfl) (fun K hK => ?_); refine wp_load_mid 117 _ rfl w1.heap.size 0 rfl (arr (cntOf lens)) _ hr2a Tryd.underlying117 rfl hi2 ?_; refine hK _ _ ?_; clear hK K)
  refine (bare_any (cntOf lens) _ hlen16 HC.out).mono ?_
  rintro e w2 ⟨rfl, hb2⟩
  rw [hbr]
  have hr2 : w2.rangeAt w1.heap.size 0 (arr (cntOf lens)) := range_below hr2a hb2 HLTa.out
  have hb02 : Below w.heap.size w w2 := hb1.trans ((HBa.out.mono hb1.size).trans (hb2.mono (by have := hb1.size; have := HLTa.out; omega)))
  have HLT : Hid (w1.heap.size < w2.heap.size) := by have := hb2.size; have := HLTa.out; show _ < _; omega
  clear hr2a hb2
  have h16 : (arr (cntOf lens)).length = 16 := by rw [arr_len, hlen16]
  have h1c := arr_one (cntOf lens)
  have hu := Tryd.underlying117
  have hat2 : AtI w2 b off lens := fun i hi => (hb02.cell (p := ⟨b, off + i, none⟩) hb).trans (hat i hi)
  have hbl2 : b < w2.heap.size := by have := hb02.size; omega
  go_wp2
  refine wp_region_held_drew (S := fun w' => w'.rangeAt w1.heap.size 0 (arr (cntOf lens))) (by kernel_rfl) hr2 (fun hHeld => ?_)
  refine wpAnyH_take (i := 0) (v := ?_) rfl (by kernel_rfl) (by kernel_rfl) (by kernel_rfl) (fun _ _ _ h => h) (Or.inl ⟨by rfl, ?_⟩) hHeld ?_
  rotate_left
  · intro w hSw; go_simp; rfl
  try simp only [Act.put, List.setIfInBounds_toArray, List.set_cons_zero, List.set_cons_succ]
  refine wpAnyH_take (i := 1) rfl (by kernel_rfl) (by kernel_rfl) (by kernel_rfl) (fun _ _ _ h => h) (yieldsIf_load_mid (by rfl) _ _ rfl w1.heap.size 0 rfl (arr (cntOf lens)) _ (fun w h => h) Tryd.underlying117 rfl hi2) hHeld ?_
  try simp only [Act.put, List.setIfInBounds_toArray, List.set_cons_zero, List.set_cons_succ]
  refine wpAnyH_take (i := 2) rfl (by kernel_rfl) (by kernel_rfl) (by kernel_rfl) (fun _ _ _ h => h) (yieldsIf_load_mid (by rfl) _ _ rfl w1.heap.size 0 rfl (arr (cntOf lens)) _ (fun w h => h) Tryd.underlying117 rfl hi2) hHeld ?_
  try simp only [Act.put, List.setIfInBounds_toArray, List.set_cons_zero, List.set_cons_succ]
  refine wpAnyH_take (i := 3) (v := ?_) rfl (by kernel_rfl) (by kernel_rfl) (by kernel_rfl) (fun _ _ _ h => h) (Or.inl ⟨by rfl, ?_⟩) hHeld ?_
  rotate_left
  · intro w hSw; go_simp; rfl
  try simp only [Act.put, List.setIfInBounds_toArray, List.set_cons_zero, List.set_cons_succ]
  refine wpAnyH_ready (rs := [4]) (by kernel_rfl) (by simp) ?_
  refine AllReadyH.cons rfl (fun K hK => ?_) AllReadyH.nil
  go_simp
  refine (inOrder_any b off cap lens _ hl h15 (by exact hat2) (by exact hbl2)).mono ?_
  rintro e w3 ⟨g, hg0, rfl, hb3, hg3⟩
  refine hK.out _ _ (range_below hHeld hb3 HLT.out) (fun hHeld3 => ?_)
  clear hK K
  try simp only [Act.put, List.setIfInBounds_toArray, List.set_cons_zero, List.set_cons_succ]
  refine wpAnyH_ready (rs := [5]) (by kernel_rfl) (by simp) ?_
  refine AllReadyH.cons rfl (fun K hK => ?_) AllReadyH.nil
  go_simp
  have hs3 := hb3.size
  have hs02 := hb02.size
  refine (decoder_any S g _ _ (cntOf lens) (srtOf lens) w w3 hlen16 rfl hg3 (by simp at hg0; omega) (by simp at hs3; omega)).mono ?_
  rintro e w4 ⟨L, rfl, hb4, hn4⟩
  refine hK.out _ _ (range_below hHeld3 hb4 (by have := HLT.out; simp at hs3; omega)) (fun hHeld4 => ?_)
  clear hK K
  try simp only [Act.put, List.setIfInBounds_toArray, List.set_cons_zero, List.set_cons_succ]
  have HF : Hid (Below w.heap.size w w4 ∧ New w w4 S L (cntOf lens) (srtOf lens)) := ⟨(hb02.trans (Below.mono (show Below w2.heap.size w2 w3 from ⟨hb3.os, hb3.tape, hb3.output, hb3.size, hb3.block⟩) (by omega))).trans (hb4.mono (by simp at hs3; omega)), hn4⟩
  refine wpAnyH_ready (rs := [6]) (by kernel_rfl) (by simp) ?_
  refine AllReadyH.cons rfl (fun K hK => ?_) AllReadyH.nil
  go_simp
  refine hK.out _ _ hHeld4 (fun hHeld5 => ?_)
  clear hK K
  try simp only [Act.put, List.setIfInBounds_toArray, List.set_cons_zero, List.set_cons_succ]
  refine wpAnyH_done (by kernel_rfl) ?_ _
  clear hHeld hHeld3 hHeld4 hHeld5 hb4 hn4 hb3
  go_wp2
  go_ret
  exact ⟨L, rfl, HF.out.1, HF.out.2⟩

set_option maxRecDepth 20000 in
set_option maxHeartbeats 4000000 in
theorem bareCode_bad (S b off cap : Nat) (lens : List Nat) (w : World) (hl : lens.length ≤ 400) (h15 : ∀ x ∈ lens, x ≤ 15) (hat : AtI w b off lens) (hb : b < w.heap.size) (hwh : wholeB (cntOf lens) = false) (hbr : bareB (cntOf lens) = false) :
    Calls Tryd.prog 61 #[.pointer (some ⟨S, 0, none⟩), .slice (some ⟨b, off, none⟩) lens.length cap] w fun e w' => e = .panicked (errv 10) ∧ Below w.heap.size w w' := by
  have hlen16 := cntOf_len lens
  have hle := cntOf_le lens
  have hi2 : (Tryd.prog.info? 117).map (·.size) = some (arr (cntOf lens)).length := by rw [arr_len, hlen16]; exact Tryd.info117
  have HC : Hid (∀ i, (cntOf lens).getD i 0 ≤ 400) := fun i => by have := hle i; omega
  clear hle
  go_enter Tryd.func61, Tryd.ntmps61
  go_wp2_with fail
  refine (countLengths_any b off cap lens w hl h15 hat hb).mono ?_
  rintro e w1 ⟨rfl, hb1⟩
  obtain ⟨ht, hW⟩ := boxed w1 (cntOf lens) hlen16
  go_wp2_with (first | refine wpList_store_mid rfl 117 _ _ rfl w1.heap.size 0 (arr (cntOf lens)).toArray rfl rfl ?t1 ?t2 ?t3 ?_ | refine wpList_load_mid rfl 117 _ rfl w1.heap.size 0 rfl (arr (cntOf lens)) _ (hW _ rfl).1 Tryd.underlying117 rfl hi2 ?_)
  case t1 => rw [show (arr (cntOf lens)).toArray.size = 16 from by rw [List.size_toArray, arr_len, hlen16]]; exact ht
  case t2 => rw [List.size_toArray]; exact hi2
  case t3 => exact all_oneCell_toArray (arr_one _)
  refine (whole_any (cntOf lens) _ hlen16 HC.out).mono ?_
  rintro e w2a ⟨rfl, hb2a⟩
  rw [hwh]
  obtain ⟨hra, hbW, hsW⟩ := hW _ rfl
  rw [hsW] at hb2a
  have hr2a : w2a.rangeAt w1.heap.size 0 (arr (cntOf lens)) := range_below hra hb2a (by omega)
  have HLTa : Hid (w1.heap.size < w2a.heap.size) := by have := hb2a.size; rw [hsW] at this; show _ < _; omega
  have HBa : Hid (Below w1.heap.size w1 w2a) := hbW.trans (hb2a.mono (by omega))
  clear hW hra hbW hsW hb2a ht
  go_wp2_with (refine BigFrame.wpList_want (by rfl) (fun K hK => ?_); refine wp_load_mid 117 _ rfl w1.heap.size 0 rfl (arr (cntOf lens)) _ hr2a Tryd.underlying117 rfl hi2 ?_; refine hK _ _ ?_; clear hK K)
  refine (bare_any (cntOf lens) _ hlen16 HC.out).mono ?_
  rintro e w2 ⟨rfl, hb2⟩
  rw [hbr]
  have hr2 : w2.rangeAt w1.heap.size 0 (arr (cntOf lens)) := range_below hr2a hb2 HLTa.out
  have hb02 : Below w.heap.size w w2 := hb1.trans ((HBa.out.mono hb1.size).trans (hb2.mono (by have := hb1.size; have := HLTa.out; omega)))
  have HLT : Hid (w1.heap.size < w2.heap.size) := by have := hb2.size; have := HLTa.out; show _ < _; omega
  have HF : Hid (Below w.heap.size w w2) := hb02
  clear hr2a hb2 hr2 hb02
  go_wp2
  exact ⟨rfl, rfl, HF.out⟩
end Go.Proofs.YtbiibhpknflagaaDoor
