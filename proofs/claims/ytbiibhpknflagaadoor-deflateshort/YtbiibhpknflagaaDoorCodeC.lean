/- 'decoder', 'wholeCode', 'bareCode'. -/
import Derived.Test.YtbiibhpknflagaaDoorCodeB
namespace Go.Proofs.YtbiibhpknflagaaDoor
open Go.RowKit Plain
set_option linter.unusedVariables false
set_option linter.unusedSimpArgs false

/-- A code that was made since w. -/
structure New (w w' : World) (S : Nat) (L : Loc) (cnt srt : List Nat) : Prop where
  s : w'.cell? ⟨L.bs, 0, none⟩ = some (.pointer (some ⟨S, 0, none⟩))
  c : ∀ i, i < 16 → w'.cell? ⟨L.bc, i, none⟩ = some (.int .i64 (cnt.getD i 0 : Nat))
  d : w'.cell? ⟨L.bd, 0, none⟩ = some (.slice (some ⟨L.br, 0, none⟩) srt.length L.cap)
  r : ∀ i, i < srt.length → w'.cell? ⟨L.br, i, none⟩ = some (.int .i64 (srt.getD i 0 : Nat))
  l1 : w.heap.size ≤ L.bs ∧ L.bs < w'.heap.size
  l2 : w.heap.size ≤ L.bc ∧ L.bc < w'.heap.size
  l3 : w.heap.size ≤ L.bd ∧ L.bd < w'.heap.size
  l4 : w.heap.size ≤ L.br ∧ L.br < w'.heap.size
theorem New.codeAt {w w' : World} {E : Env} {v : Value} {L : Loc} {cnt srt : List Nat} (h : New w w' E.S L cnt srt) (hS : E.S < w.heap.size) (hv : ∀ k, v.ownBlock = some k → k < w.heap.size) : CodeAt w' E v L cnt srt :=
  have ap : ∀ k, w.heap.size ≤ k → k < w'.heap.size → Apart w' E v k := fun k h1 h2 => ⟨h2, by omega, fun e => by have := hv k e.symm; omega⟩
  ⟨h.s, h.c, h.d, h.r, ap _ h.l1.1 h.l1.2, ap _ h.l2.1 h.l2.2, ap _ h.l3.1 h.l3.2, ap _ h.l4.1 h.l4.2⟩
theorem New.mono {w0 w w' : World} {S : Nat} {L : Loc} {cnt srt : List Nat} (h : New w w' S L cnt srt) (h0 : w0.heap.size ≤ w.heap.size) : New w0 w' S L cnt srt :=
  ⟨h.s, h.c, h.d, h.r, ⟨by have := h.l1.1; omega, h.l1.2⟩, ⟨by have := h.l2.1; omega, h.l2.2⟩, ⟨by have := h.l3.1; omega, h.l3.2⟩, ⟨by have := h.l4.1; omega, h.l4.2⟩⟩

set_option maxRecDepth 20000 in
set_option maxHeartbeats 1000000 in
theorem decoder_any (S g n cp : Nat) (cnt srt : List Nat) (w0 w : World) (hl : cnt.length = 16) (hn : srt.length = n) (hg : w.heap[g]? = some (.cells (arr srt).toArray 3 (0, 0))) (hg0 : w0.heap.size ≤ g) (hw : w0.heap.size ≤ w.heap.size) :
    Calls Tryd.prog 74 #[.pointer (some ⟨S, 0, none⟩), .agg (arr cnt).toArray, .slice (some ⟨g, 0, none⟩) n cp] w fun e w' => ∃ L, e = .returned (codeV L) ∧ Below w.heap.size w w' ∧ New w0 w' S L cnt srt := by
  have hmf : ∀ (fn : Fn) (first cap : Array Value) (w : World), (Instr.makeFunc fn first cap).run Tryd.prog w = .ok (.func fn first cap) w := fun _ _ _ _ => rfl
  have hgl : g < w.heap.size := by
    rcases Nat.lt_or_ge g w.heap.size with h | h
    · exact h
    · rw [Array.getElem?_eq_none h] at hg; cases hg
  have H0 : Hid (w.heap[g]? = some (.cells (arr srt).toArray 3 (0, 0))) := hg
  clear hg
  go_enter Tryd.func74, Tryd.ntmps74
  go_wp2
  go_ret
  refine ⟨⟨w.heap.size, w.heap.size + 1, w.heap.size + 2, g, cp⟩, rfl, (((Below.refl _ _).alloc (Nat.le_refl _) _).alloc (by simp) _).alloc (by simp; omega) _, ?_⟩
  refine ⟨?_, ?_, ?_, ?_, ⟨hw, by simp; omega⟩, ⟨by simp; omega, by simp⟩, ⟨by simp; omega, by simp⟩, ⟨hg0, by simp; omega⟩⟩
  · rw [World.cell?_alloc_lt _ _ ⟨w.heap.size, 0, none⟩ (by simp; omega), World.cell?_alloc_lt _ _ ⟨w.heap.size, 0, none⟩ (by simp)]; simp
  · intro i hi
    rw [World.cell?_alloc_lt _ _ ⟨w.heap.size + 1, i, none⟩ (by simp)]
    exact row_cell (heap_alloc2_new w _ _) i (by omega)
  · rw [show ({ bs := w.heap.size, bc := w.heap.size + 1, bd := w.heap.size + 2, br := g, cap := cp } : Loc).bd = w.heap.size + 2 from rfl, World.cell?_alloc_at _ _ _ _ (by simp), hn]; rfl
  · intro i hi
    rw [World.cell?_alloc_lt _ _ ⟨g, i, none⟩ (by simp; omega), World.cell?_alloc_lt _ _ ⟨g, i, none⟩ (by simp; omega), World.cell?_alloc_lt _ _ ⟨g, i, none⟩ hgl]
    exact row_cell H0.out i hi

theorem range_below {w w' : World} {B g : Nat} {cs : List Value} (h : w.rangeAt g 0 cs) (hb : Below B w w') (hg : g < B) : w'.rangeAt g 0 cs := fun j v hv => (hb.cell (p := ⟨g, 0 + j, none⟩) hg).trans (h j v hv)

/-- Sixteen counts, stored into a new variable. -/
theorem boxed (w1 : World) (cs : List Nat) (hl : cs.length = 16) :
    ((w1.alloc (.cells #[.int .i64 0, .int .i64 0, .int .i64 0, .int .i64 0, .int .i64 0, .int .i64 0, .int .i64 0, .int .i64 0, .int .i64 0, .int .i64 0, .int .i64 0, .int .i64 0, .int .i64 0, .int .i64 0, .int .i64 0, .int .i64 0] 117)).there w1.heap.size 0 16) ∧
    ∀ W, W = (w1.alloc (.cells #[.int .i64 0, .int .i64 0, .int .i64 0, .int .i64 0, .int .i64 0, .int .i64 0, .int .i64 0, .int .i64 0, .int .i64 0, .int .i64 0, .int .i64 0, .int .i64 0, .int .i64 0, .int .i64 0, .int .i64 0, .int .i64 0] 117)).setCells w1.heap.size 0 (arr cs) →
      W.rangeAt w1.heap.size 0 (arr cs) ∧ Below w1.heap.size w1 W ∧ W.heap.size = w1.heap.size + 1 := by
  have ht : ((w1.alloc (.cells (arr (List.replicate 16 0)).toArray 117)).there w1.heap.size 0 16) := there_row (heap_alloc_new w1 _) (by simp)
  refine ⟨ht, ?_⟩
  rintro W rfl
  refine ⟨World.rangeAt_setCells_same _ _ _ _ (by rw [arr_len, hl]; exact ht), below_setCells (Nat.le_refl _) _ _ _ _ ((Below.refl _ _).alloc (Nat.le_refl _) _), ?_⟩
  rw [size_setCells]; simp

set_option maxRecDepth 20000 in
set_option maxHeartbeats 4000000 in
theorem wholeCode_ok (S b off cap : Nat) (lens : List Nat) (w : World) (hl : lens.length ≤ 400) (h15 : ∀ x ∈ lens, x ≤ 15) (hat : AtI w b off lens) (hb : b < w.heap.size) (hwh : wholeB (cntOf lens) = true) :
    Calls Tryd.prog 57 #[.pointer (some ⟨S, 0, none⟩), .slice (some ⟨b, off, none⟩) lens.length cap] w fun e w' => ∃ L, e = .returned (codeV L) ∧ Below w.heap.size w w' ∧ New w w' S L (cntOf lens) (srtOf lens) := by
  have hlen16 := cntOf_len lens
  have hle := cntOf_le lens
  have hi2 : (Tryd.prog.info? 117).map (·.size) = some (arr (cntOf lens)).length := by rw [arr_len, hlen16]; exact Tryd.info117
  have HC : Hid (∀ i, (cntOf lens).getD i 0 ≤ 400) := fun i => by have := hle i; omega
  clear hle
  go_enter Tryd.func57, Tryd.ntmps57
  go_wp2_with fail
  refine (countLengths_any b off cap lens w hl h15 hat hb).mono ?_
  rintro e w1 ⟨rfl, hb1⟩
  obtain ⟨ht, hW⟩ := boxed w1 (cntOf lens) hlen16
  go_wp2_with (first | refine wpList_store_mid rfl 117 _ _ rfl w1.heap.size 0 (arr (cntOf lens)).toArray rfl rfl ?t1 ?t2 ?t3 ?_ | refine wpList_load_mid rfl 117 _ rfl w1.heap.size 0 rfl (arr (cntOf lens)) _ (hW _ rfl).1 Tryd.underlying117 rfl hi2 ?_)
  case t1 => rw [show (arr (cntOf lens)).toArray.size = 16 from by rw [List.size_toArray, arr_len, hlen16]]; exact ht
  case t2 => rw [List.size_toArray]; exact hi2
  case t3 => exact all_oneCell_toArray (arr_one _)
  refine (whole_any (cntOf lens) _ hlen16 HC.out).mono ?_
  rintro e w2 ⟨rfl, hb2⟩
  rw [hwh]
  obtain ⟨hr, hbW, hsW⟩ := hW _ rfl
  rw [hsW] at hb2
  have hr2 : w2.rangeAt w1.heap.size 0 (arr (cntOf lens)) := range_below hr hb2 (by omega)
  have hb02 : Below w.heap.size w w2 := hb1.trans ((hbW.mono hb1.size).trans (hb2.mono (by have := hb1.size; omega)))
  have HLT : Hid (w1.heap.size < w2.heap.size) := by have := hb2.size; rw [hsW] at this; show _ < _; omega
  clear hW hr hbW hsW hb2 ht
  have h16 : (arr (cntOf lens)).length = 16 := by rw [arr_len, hlen16]
  have h1c := arr_one (cntOf lens)
  have hu := Tryd.underlying117
  have hat2 : AtI w2 b off lens := fun i hi => (hb02.cell (p := ⟨b, off + i, none⟩) hb).trans (hat i hi)
  have hbl2 : b < w2.heap.size := by have := hb02.size; omega
  go_wp2
  refine wp_region_held_drew (S := fun w' => w'.rangeAt w1.heap.size 0 (arr (cntOf lens))) (by kernel_rfl) hr2 (fun hHeld => ?_)
  refine wpAnyH_take (i := 0) (v := ?_) rfl (by kernel_rfl) (by kernel_rfl) (by kernel_rfl) (fun _ _ _ h => h) (Or.inl ⟨by rfl, ?_⟩) hHeld ?_
  rotate_left
  · intro w hSw; go_simp; rfl
  try simp only [Act.put, List.setIfInBounds_toArray, List.set_cons_zero, List.set_cons_succ]
  refine wpAnyH_take (i := 1) rfl (by kernel_rfl) (by kernel_rfl) (by kernel_rfl) (fun _ _ _ h => h) (yieldsIf_load_mid (by rfl) _ _ rfl w1.heap.size 0 rfl (arr (cntOf lens)) _ (fun w h => h) Tryd.underlying117 rfl hi2) hHeld ?_
  try simp only [Act.put, List.setIfInBounds_toArray, List.set_cons_zero, List.set_cons_succ]
  refine wpAnyH_take (i := 2) rfl (by kernel_rfl) (by kernel_rfl) (by kernel_rfl) (fun _ _ _ h => h) (yieldsIf_load_mid (by rfl) _ _ rfl w1.heap.size 0 rfl (arr (cntOf lens)) _ (fun w h => h) Tryd.underlying117 rfl hi2) hHeld ?_
  try simp only [Act.put, List.setIfInBounds_toArray, List.set_cons_zero, List.set_cons_succ]
  refine wpAnyH_take (i := 3) (v := ?_) rfl (by kernel_rfl) (by kernel_rfl) (by kernel_rfl) (fun _ _ _ h => h) (Or.inl ⟨by rfl, ?_⟩) hHeld ?_
  rotate_left
  · intro w hSw; go_simp; rfl
  try simp only [Act.put, List.setIfInBounds_toArray, List.set_cons_zero, List.set_cons_succ]
  refine wpAnyH_ready (rs := [4]) (by kernel_rfl) (by simp) ?_
  refine AllReadyH.cons rfl (fun K hK => ?_) AllReadyH.nil
  go_simp
  refine (inOrder_any b off cap lens _ hl h15 (by exact hat2) (by exact hbl2)).mono ?_
  rintro e w3 ⟨g, hg0, rfl, hb3, hg3⟩
  refine hK.out _ _ (range_below hHeld hb3 HLT.out) (fun hHeld3 => ?_)
  clear hK K
  try simp only [Act.put, List.setIfInBounds_toArray, List.set_cons_zero, List.set_cons_succ]
  refine wpAnyH_ready (rs := [5]) (by kernel_rfl) (by simp) ?_
  refine AllReadyH.cons rfl (fun K hK => ?_) AllReadyH.nil
  go_simp
  have hs3 := hb3.size
  have hs02 := hb02.size
  refine (decoder_any S g _ _ (cntOf lens) (srtOf lens) w w3 hlen16 rfl hg3 (by simp at hg0; omega) (by simp at hs3; omega)).mono ?_
  rintro e w4 ⟨L, rfl, hb4, hn4⟩
  refine hK.out _ _ (range_below hHeld3 hb4 (by have := HLT.out; simp at hs3; omega)) (fun hHeld4 => ?_)
  clear hK K
  try simp only [Act.put, List.setIfInBounds_toArray, List.set_cons_zero, List.set_cons_succ]
  have HF : Hid (Below w.heap.size w w4 ∧ New w w4 S L (cntOf lens) (srtOf lens)) := ⟨(hb02.trans (Below.mono (show Below w2.heap.size w2 w3 from ⟨hb3.os, hb3.tape, hb3.output, hb3.size, hb3.block⟩) (by omega))).trans (hb4.mono (by simp at hs3; omega)), hn4⟩
  refine wpAnyH_ready (rs := [6]) (by kernel_rfl) (by simp) ?_
  refine AllReadyH.cons rfl (fun K hK => ?_) AllReadyH.nil
  go_simp
  refine hK.out _ _ hHeld4 (fun hHeld5 => ?_)
  clear hK K
  try simp only [Act.put, List.setIfInBounds_toArray, List.set_cons_zero, List.set_cons_succ]
  refine wpAnyH_done (by kernel_rfl) ?_ _
  clear hHeld hHeld3 hHeld4 hHeld5 hb4 hn4 hb3
  go_wp2
  go_ret
  exact ⟨L, rfl, HF.out.1, HF.out.2⟩
end Go.Proofs.YtbiibhpknflagaaDoor
