/- A history in memory; 'node' and 'parents'. -/
import Derived.Test.YtjgjeedablgmeaaDoorGrE
namespace Go.Proofs.YtjgjeedablgmeaaDoor
open Go.RowKit
set_option linter.unusedVariables false
set_option linter.unusedSimpArgs false
def ndV (x : Nd) : List Value := row .u8 x.id ++ [.slice x.pa x.ps.length x.pc, .int .i64 x.tm]
theorem ndV_len (x : Nd) (h : x.id.length = 20) : (ndV x).length = 22 := by unfold ndV; rw [List.length_append, row_len, h]; rfl
theorem ndV_one (x : Nd) : ∀ v ∈ ndV x, v.oneCell' = true := by
  intro v hv
  unfold ndV at hv
  rcases List.mem_append.1 hv with h | h
  · exact row_one _ _ v h
  · simp at h
    rcases h with rfl | rfl <;> rfl
/-- A node is right, and its parents lie in memory. -/
structure NdW (w : World) (x : Nd) : Prop where
  id : IdW x.id
  ps : ∀ p ∈ x.ps, IdW p
  mem : Pa w x.pa x.pc x.ps
  pl : True
theorem NdW.below {w w' : World} {x : Nd} (h : NdW w x) (hb : Below w.heap.size w w') : NdW w' x := ⟨h.id, h.ps, h.mem.below hb, h.pl⟩
abbrev Pn (w : World) (a : Option Addr) (cap : Nat) (l : List Nd) : Prop := Px ndV 22 nd0 w a cap l
theorem nd_id {W : World} {b o : Nat} {x : Nd} (h : W.rangeAt b o (ndV x)) : W.rangeAt b o (row .u8 x.id) := fun j v hv => h j v (by unfold ndV; rw [List.getElem?_append_left (List.getElem?_eq_some_iff.1 hv).1]; exact hv)
theorem nd_ps {W : World} {b o : Nat} {x : Nd} (h : W.rangeAt b o (ndV x)) (hx : x.id.length = 20) : W.cell? ⟨b, o + 20, none⟩ = some (.slice x.pa x.ps.length x.pc) := h 20 _ (by unfold ndV; rw [List.getElem?_append_right (by rw [row_len, hx]; exact Nat.le_refl _), row_len, hx]; rfl)
theorem nd_tm {W : World} {b o : Nat} {x : Nd} (h : W.rangeAt b o (ndV x)) (hx : x.id.length = 20) : W.cell? ⟨b, o + 21, none⟩ = some (.int .i64 x.tm) := h 21 _ (by unfold ndV; rw [List.getElem?_append_right (by rw [row_len, hx]; decide), row_len, hx]; rfl)
/-- Where ids stand among nodes. -/
def Plc (l : List Nd) (f : List Int → Option Int) : Prop := ∀ y, (y ∉ ids l ∧ f y = none) ∨ (∃ (i : Nat) (x : Nd), l[i]? = some x ∧ x.id = y ∧ f y = some (i : Int))
/-- A history: its box at block hb, the map at block m. -/
structure Hi (w : World) (hb m : Nat) (a : Option Addr) (cap : Nat) (l : List Nd) : Prop where
  box : w.heap[hb]? = some (.cells #[.slice a l.length cap, .map (some m)] 77 (0, 0))
  map : ∃ n f s, n ≤ 3000 ∧ MI w m n f s ∧ Plc l f
  nds : Pn w a cap l
  wf : ∀ x ∈ l, NdW w x
  one : (ids l).Nodup
  few : l.length ≤ 40
  fps : ∀ x ∈ l, x.ps.length ≤ 40
theorem Hi.below {w w' : World} {hb m : Nat} {a : Option Addr} {cap : Nat} {l : List Nd} (h : Hi w hb m a cap l) (hb' : Below w.heap.size w w') : Hi w' hb m a cap l := by
  obtain ⟨n, f, s, h1, h2, h3⟩ := h.map
  exact ⟨(hb'.block _ (lt_of_some h.box)).trans h.box, ⟨n, f, s, h1, h2.below hb', h3⟩, h.nds.below hb', fun x hx => (h.wf x hx).below hb', h.one, h.few, h.fps⟩
theorem zero53 (w : World) : (zeroValue 53).run Tryd.prog w = .ok (.agg (ndV nd0).toArray) w := by kernel_rfl
theorem there_cells {w : World} {g : Nat} {cs : Array Value} {t : TypeId} (h : w.heap[g]? = some (.cells cs t (0, 0))) (n : Nat) (hn : cs.size = n) : w.there g 0 n := fun j hj => by
  rw [Nat.zero_add]
  exact ⟨by rw [cell_of_row w g j _ t _ h, Array.getElem?_eq_getElem (by omega)]; rfl, frozen_of_row w g j _ t h⟩
/-- What 'node' reads. -/
structure QN (hb m G b o i : Nat) (sv : Value) (Y R : List Value) (y : List Int) (W : World) : Prop where
  c0 : W.cell? ⟨hb, 0, none⟩ = some sv
  c1 : W.cell? ⟨hb, 1, none⟩ = some (.map (some m))
  r0 : W.rangeAt G 0 Y
  lk : (Instr.lookup 75 (.map (some m)) (.agg Y.toArray) false).run Tryd.prog W = .ok (.int .i64 i) W
  r1 : W.rangeAt b o R
theorem Tryd.results50 : Tryd.f50.results = #[.cell 4 53] := by kernel_rfl
set_option maxRecDepth 20000 in
set_option maxHeartbeats 4000000 in
theorem node_any {w : World} {hb m : Nat} {a : Option Addr} {cap : Nat} {l : List Nd} (h : Hi w hb m a cap l) {x : Nd} (hx : x ∈ l) : Calls Tryd.prog 50 #[.pointer (some ⟨hb, 0, none⟩), idV x.id] w fun e w' => e = .returned (.agg (ndV x).toArray) ∧ Below w.heap.size w w' := by
  obtain ⟨G, HG⟩ : ∃ G, Hid (w.heap.size = G) := ⟨_, rfl⟩
  obtain ⟨n, f, s, hn3, hmi, hpl⟩ := h.map
  obtain ⟨i, hfi, hli⟩ : ∃ i : Nat, f x.id = some (i : Int) ∧ l[i]? = some x := by
    rcases hpl x.id with ⟨h1, _⟩ | ⟨i, x', h1, h2, h3⟩
    · exact absurd (mem_ids hx) h1
    · have : x' = x := ids_inj h.one (List.mem_of_getElem? h1) hx h2
      subst this
      exact ⟨i, h3, h1⟩
  have hil : i < l.length := (List.getElem?_eq_some_iff.1 hli).1
  have hidw := (h.wf x hx).id
  obtain ⟨b, off, rfl, hbl, hrg⟩ := h.nds.at_ (by omega)
  obtain ⟨Y, HY⟩ : ∃ S : List Value, Hid (row .u8 x.id = S) := ⟨_, rfl⟩
  obtain ⟨R, HR⟩ : ∃ S : List Value, Hid (ndV x = S) := ⟨_, rfl⟩
  obtain ⟨N, HN⟩ : ∃ N, Hid (l.length = N) := ⟨_, rfl⟩
  have hiN : i < N := by rw [← HN.out]; exact hil
  have hN2 : N ≤ 2000 := by rw [← HN.out]; have := h.few; omega
  have hiY : (Tryd.prog.info? 42).map (·.size) = some Y.length := by rw [← HY.out, row_len, hidw.1]; exact Tryd.size42
  have HRL : Hid (R.length = 22) := hid (by rw [← HR.out]; exact ndV_len x hidw.1)
  have hiR : (Tryd.prog.info? 53).map (·.size) = some R.length := by rw [HRL.out]; exact Tryd.size53
  obtain ⟨zr, HZ⟩ : ∃ zr : Array Value, Hid (zr = (ndV nd0).toArray) := ⟨_, rfl⟩
  have hz53 : ∀ w : World, (zeroValue 53).run Tryd.prog w = .ok (.agg zr) w := fun w => by rw [HZ.out]; exact zero53 w
  have HZS : Hid (zr.size = 22) := hid (by rw [HZ.out]; rfl)
  obtain ⟨w1, HW1⟩ : ∃ w1, Hid ((w.alloc (.cells Y.toArray 42)).alloc (.cells zr 53) = w1) := ⟨_, rfl⟩
  have hb1 : Below w.heap.size w w1 := by rw [← HW1.out]; exact ((Below.refl _ w).alloc (Nat.le_refl _) _).alloc (by simp) _
  have HB1 : Hid (Below G w w1) := hid (by rw [← HG.out]; exact hb1)
  have hQ : ∀ W, Below w.heap.size w W → W.rangeAt G 0 Y → QN hb m G b (off + i * 22) i (.slice (some ⟨b, off, none⟩) N cap) Y R x.id W := fun W hW hr => by
    have hbx := (hW.block _ (lt_of_some h.box)).trans h.box
    refine ⟨(cell_of_row W hb 0 _ _ _ hbx).trans (by rw [HN.out]; rfl), (cell_of_row W hb 1 _ _ _ hbx).trans rfl, hr, ?_, ?_⟩
    · have := ((hmi.below hW).get hidw).1
      rw [hfi] at this
      unfold idV at this
      rw [HY.out] at this
      exact this
    · have := (h.nds.below hW).at_ (by omega)
      obtain ⟨b', off', e1, _, e3⟩ := this
      cases e1
      have := e3 i hil
      rw [List.getD_eq_getElem?_getD, hli] at this
      rw [← HR.out]
      exact this
  have HQ : Hid (∀ W, Below G w W → W.rangeAt G 0 Y → QN hb m G b (off + i * 22) i (.slice (some ⟨b, off, none⟩) N cap) Y R x.id W) := hid (by rw [← HG.out]; rw [← HG.out] at hQ; exact hQ)
  have RY1 : Hid (w1.rangeAt G 0 Y) := hid (by
    rw [← HW1.out, ← HG.out]
    exact range_row ((heap_alloc_old _ _ (by simp)).trans (heap_alloc_new w _)))
  have HH1 : Hid (w1.heap[G + 1]? = some (.cells zr 53 (0, 0))) := hid (by
    rw [← HW1.out, ← HG.out]
    have := heap_alloc_new (w.alloc (.cells Y.toArray 42)) (.cells zr 53)
    simpa using this)
  have hiNi : (i : Int) < (N : Int) := by omega
  unfold idV
  rw [HY.out]
  clear hQ hb1 hmi hpl hrg h hx hfi hli
  go_enter Tryd.func50, Tryd.ntmps50
  go_wp2_with fail
  rw [HW1.out]
  try simp only [World.heap_size_alloc]
  try rw [HG.out]
  have HB1d : Hid (Below G w w1.drew) := hid (below_drewH HB1.out 1)
  refine wp_region_held_drew (S := QN hb m G b (off + i * 22) i (.slice (some ⟨b, off, none⟩) N cap) Y R x.id) (by kernel_rfl) (HQ.out _ HB1d.out RY1.out) (fun hHeld => ?_)
  have HHd : Hid (w1.drew.heap[G + 1]? = some (.cells zr 53 (0, 0))) := HH1
  have RYd : Hid (w1.drew.rangeAt G 0 Y) := RY1
  generalize w1.drew = u0 at hHeld HB1d HHd RYd ⊢
  refine takeL (i := 0) (v := ?_) rfl (by kernel_rfl) (by kernel_rfl) (by kernel_rfl) (fun _ _ _ h => h) (Or.inl ⟨by rfl, ?_⟩) hHeld ?_
  rotate_left
  · rintro w' ⟨c0, c1, r0, lk, r1⟩; go_simp; rfl
  try simp only [Act.put, List.setIfInBounds_toArray, List.set_cons_zero, List.set_cons_succ]
  refine takeL (i := 1) (v := ?_) rfl (by kernel_rfl) (by kernel_rfl) (by kernel_rfl) (fun _ _ _ h => h) (Or.inl ⟨by rfl, ?_⟩) hHeld ?_
  rotate_left
  · rintro w' ⟨c0, c1, r0, lk, r1⟩; go_simp; rfl
  try simp only [Act.put, List.setIfInBounds_toArray, List.set_cons_zero, List.set_cons_succ]
  refine takeL (i := 2) (v := ?_) rfl (by kernel_rfl) (by kernel_rfl) (by kernel_rfl) (fun _ _ _ h => h) (Or.inl ⟨by rfl, ?_⟩) hHeld ?_
  rotate_left
  · rintro w' ⟨c0, c1, r0, lk, r1⟩; go_simp; rfl
  try simp only [Act.put, List.setIfInBounds_toArray, List.set_cons_zero, List.set_cons_succ]
  refine takeL (i := 3) (v := ?_) rfl (by kernel_rfl) (by kernel_rfl) (by kernel_rfl) (fun _ _ _ h => h) (Or.inl ⟨by rfl, ?_⟩) hHeld ?_
  rotate_left
  · rintro w' ⟨c0, c1, r0, lk, r1⟩; go_simp; rfl
  try simp only [Act.put, List.setIfInBounds_toArray, List.set_cons_zero, List.set_cons_succ]
  refine takeL (i := 4) (v := ?_) rfl (by kernel_rfl) (by kernel_rfl) (by kernel_rfl) (fun _ _ _ h => h) (Or.inl ⟨by rfl, ?_⟩) hHeld ?_
  rotate_left
  · rintro w' ⟨c0, c1, r0, lk, r1⟩; go_simp; rfl
  try simp only [Act.put, List.setIfInBounds_toArray, List.set_cons_zero, List.set_cons_succ]
  refine takeL (i := 5) (v := ?_) rfl (by kernel_rfl) (by kernel_rfl) (by kernel_rfl) (fun _ _ _ h => h) (Or.inl ⟨by rfl, ?_⟩) hHeld ?_
  rotate_left
  · rintro w' ⟨c0, c1, r0, lk, r1⟩; go_simp; rfl
  try simp only [Act.put, List.setIfInBounds_toArray, List.set_cons_zero, List.set_cons_succ]
  refine takeL (i := 6) (v := ?_) rfl (by kernel_rfl) (by kernel_rfl) (by kernel_rfl) (fun _ _ _ h => h) (Or.inl ⟨by rfl, ?_⟩) hHeld ?_
  rotate_left
  · rintro w' ⟨c0, c1, r0, lk, r1⟩; go_simp; rfl
  try simp only [Act.put, List.setIfInBounds_toArray, List.set_cons_zero, List.set_cons_succ]
  refine takeL (i := 7) (v := ?_) rfl (by kernel_rfl) (by kernel_rfl) (by kernel_rfl) (fun _ _ _ h => h) (Or.inl ⟨by rfl, ?_⟩) hHeld ?_
  rotate_left
  · rintro w' ⟨c0, c1, r0, lk, r1⟩; go_simp; rfl
  try simp only [Act.put, List.setIfInBounds_toArray, List.set_cons_zero, List.set_cons_succ]
  refine takeL (i := 8) (v := .agg Y.toArray) rfl (by kernel_rfl) (by kernel_rfl) (by kernel_rfl) (fun _ _ _ h => h) (yieldsIf_load_mid (by kernel_rfl) 42 _ rfl G (0) (by rfl) Y _ (fun w' h => h.r0) Tryd.underlying42 rfl hiY) hHeld ?_
  try simp only [Act.put, List.setIfInBounds_toArray, List.set_cons_zero, List.set_cons_succ]
  refine takeL (i := 9) (v := .int .i64 i) rfl (by kernel_rfl) (by kernel_rfl) (by kernel_rfl) (fun _ _ _ h => h) (Or.inl ⟨by rfl, fun w' h => exec_lookup rfl rfl rfl h.lk⟩) hHeld ?_
  try simp only [Act.put, List.setIfInBounds_toArray, List.set_cons_zero, List.set_cons_succ]
  refine takeL (i := 10) (v := ?_) rfl (by kernel_rfl) (by kernel_rfl) (by kernel_rfl) (fun _ _ _ h => h) (Or.inl ⟨by rfl, ?_⟩) hHeld ?_
  rotate_left
  · rintro w' ⟨c0, c1, r0, lk, r1⟩; go_simp; rfl
  try simp only [Act.put, List.setIfInBounds_toArray, List.set_cons_zero, List.set_cons_succ]
  refine takeL (i := 11) (v := .agg R.toArray) rfl (by kernel_rfl) (by kernel_rfl) (by kernel_rfl) (fun _ _ _ h => h) (yieldsIf_load_mid (by kernel_rfl) 53 _ rfl b (off + i * 22) (by rfl) R _ (fun w' h => h.r1) Tryd.underlying53 rfl hiR) hHeld ?_
  try simp only [Act.put, List.setIfInBounds_toArray, List.set_cons_zero, List.set_cons_succ]
  refine wpAnyH_ready (rs := [12]) (by kernel_rfl) (by simp) ?_
  refine consL rfl (fun KK hKK => ?_) AllReadyH.nil
  obtain ⟨u1, HU1⟩ : ∃ u1, Hid (u0.setCells (G + 1) 0 R.toArray.toList = u1) := ⟨_, rfl⟩
  have HBu : Hid (Below G w u1) := hid (by rw [← HU1.out]; exact below_setCells (by omega) _ _ _ _ HB1d.out)
  have RYu : Hid (u1.rangeAt G 0 Y) := hid (by rw [← HU1.out]; exact World.rangeAt_setCells_apart RYd.out _ _ _ (.inl (by omega)))
  have TH : Hid (u0.there (G + 1) 0 R.toArray.size) := hid (there_cells HHd.out _ (by rw [HZS.out, List.size_toArray, HRL.out]))
  have RRu : Hid (u1.rangeAt (G + 1) 0 R) := hid (by rw [← HU1.out]; exact World.rangeAt_setCells_same _ _ _ _ (by have := TH.out; rwa [List.size_toArray] at this))
  refine step_store (by rfl) 53 _ _ (by rfl) (G + 1) 0 R.toArray rfl rfl TH.out (by rw [List.size_toArray]; exact hiR) (by rw [← HR.out]; exact all_oneCell_toArray (ndV_one x)) ?_
  rw [HU1.out]
  refine hKK.out _ _ (HQ.out _ HBu.out RYu.out) (fun hHeld => ?_)
  clear hKK KK
  try simp only [Act.put, List.setIfInBounds_toArray, List.set_cons_zero, List.set_cons_succ]
  refine wpAnyH_done (by kernel_rfl) ?_ _
  clear hHeld
  go_wp2
  refine bodyPost_ret (results_mid Tryd.results50 _ _ (G + 1) R _ rfl RRu.out Tryd.underlying53 rfl hiR) rfl ?_
  exact ⟨by rw [HR.out], by rw [HG.out]; exact HBu.out⟩
end Go.Proofs.YtjgjeedablgmeaaDoor
