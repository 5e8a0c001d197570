/- 'Reaches', 'Bases' and 'Reduce' of package graph. -/
import Derived.Test.YtjgjeedablgmeaaDoorGtE
import Derived.Test.YtjgjeedablgmeaaDoorGsK
namespace Go.Proofs.YtjgjeedablgmeaaDoor
open Go.RowKit
set_option linter.unusedVariables false
set_option linter.unusedSimpArgs false
set_option maxRecDepth 20000 in
theorem run_build32b (x y : List Int) (hx : x.length = 20) (hy : y.length = 20) (w : World) : (Instr.buildSlice 32 2 #[(0, idV x), (1, idV y)]).run Tryd.prog w = .ok (.slice (some ⟨w.heap.size, 0, none⟩) 2 2) (w.alloc (.cells (row .u8 x ++ row .u8 y).toArray 42)) := by
  obtain ⟨i, hq, hz, hs, _⟩ := info_parts Tryd.info42
  refine run_buildSlice w 32 42 2 _ (row .u8 x ++ row .u8 y).toArray i _ Tryd.underlying32 hq hz (by rw [hs]; decide) (by rw [hs]; decide) ?_
  rw [hs]
  obtain ⟨a0, a1, a2, a3, a4, a5, a6, a7, a8, a9, a10, a11, a12, a13, a14, a15, a16, a17, a18, a19, e⟩ := list20 x hx
  obtain ⟨b0, b1, b2, b3, b4, b5, b6, b7, b8, b9, b10, b11, b12, b13, b14, b15, b16, b17, b18, b19, e2⟩ := list20 y hy
  rw [e, e2]
  kernel_rfl
theorem pa_two (w : World) (x y : List Int) (hx : x.length = 20) (e : TypeId) : Pa (w.alloc (.cells (row .u8 x ++ row .u8 y).toArray e)) (some ⟨w.heap.size, 0, none⟩) 2 [x, y] :=
  ⟨Nat.le_refl _, fun _ => ⟨w.heap.size, 0, rfl, by simp, fun i hi j v hv => by
    have hr := range_row (heap_alloc_new w (.cells (row .u8 x ++ row .u8 y).toArray e))
    have h2 : i = 0 ∨ i = 1 := by simp at hi; omega
    rcases h2 with rfl | rfl
    · exact hr (0 + 0 * 20 + j) v (by
        have hv' : (row .u8 x)[j]? = some v := hv
        rw [show 0 + 0 * 20 + j = j by omega, List.getElem?_append_left (List.getElem?_eq_some_iff.1 hv').1]; exact hv')  |> fun h => by rw [Nat.zero_add] at h; exact h
    · exact hr (0 + 1 * 20 + j) v (by
        have hv' : (row .u8 y)[j]? = some v := hv
        rw [show 0 + 1 * 20 + j = 20 + j by omega, List.getElem?_append_right (by rw [row_len, hx]; omega), row_len, hx, show 20 + j - 20 = j by omega]; exact hv') |> fun h => by rw [Nat.zero_add] at h; exact h⟩, fun e => by cases e⟩
theorem exec_bS {P : Program} {o : Oper} {a : Act} {w w' : World} (t len : Nat) (x : Operand) (ho : o.op = .buildSlice t len #[(0, x)]) (u v : Value) (hx : a.eval x = u) (hr : (Instr.buildSlice t len #[(0, u)]).run P w = .ok v w') : (execOp a.eval o).run P w = .ok (.value v) w' := by
  unfold execOp
  simp [ho, hx, hr, Result.andThen]
theorem exec_bS2 {P : Program} {o : Oper} {a : Act} {w w' : World} (t len : Nat) (x y : Operand) (ho : o.op = .buildSlice t len #[(0, x), (1, y)]) (u1 u2 v : Value) (hx : a.eval x = u1) (hy : a.eval y = u2) (hr : (Instr.buildSlice t len #[(0, u1), (1, u2)]).run P w = .ok v w') : (execOp a.eval o).run P w = .ok (.value v) w' := by
  unfold execOp
  simp [ho, hx, hy, hr, Result.andThen]
theorem enter28 (v1 v2 : Value) (w : World) : (callFunc 28 #[v1, v2]).run Tryd.prog w = .ok (.enter 28 #[v1, v2]) w := by kernel_rfl
theorem enter32 (v1 v2 : Value) (w : World) : (callFunc 32 #[v1, v2]).run Tryd.prog w = .ok (.enter 32 #[v1, v2]) w := by kernel_rfl
theorem enter33 (v1 v2 : Value) (w : World) : (callFunc 33 #[v1, v2]).run Tryd.prog w = .ok (.enter 33 #[v1, v2]) w := by kernel_rfl
theorem enter34 (v1 v2 : Value) (w : World) : (callFunc 34 #[v1, v2]).run Tryd.prog w = .ok (.enter 34 #[v1, v2]) w := by kernel_rfl
/-- Both are ids of a graph's nodes. -/
def In2 (l : List Nd) (x y : List Int) : Prop := OkG l ∧ ∀ z ∈ [x, y], z ∈ ids l
/-- What 'Reaches' gives. -/
def PostRe (l : List Nd) (x y : List Int) (w : World) (e : Ending) (w' : World) : Prop := Below w.heap.size w w' ∧ ((In2 l x y ∧ ∃ b : Bool, (b = true ↔ Rch l (· ∈ [x]) y) ∧ e = .returned (.tuple #[.bool b, .nilIface])) ∨ (¬ In2 l x y ∧ e = .returned (.tuple #[.bool false, .iface 30 (.int .i64 80)])))
/-- What 'Bases' gives. -/
def PostBa (l : List Nd) (x y : List Int) (w : World) (e : Ending) (w' : World) : Prop := Below w.heap.size w w' ∧ ((In2 l x y ∧ ∃ a cap xs, e = .returned (.tuple #[.slice a xs.length cap, .nilIface]) ∧ Lst' (Tp l (fun z => Rch l (· ∈ [x]) z ∧ Rch l (· ∈ [y]) z)) xs ∧ xs.Pairwise (fun x y => ¬ Lib.bytesOf y < Lib.bytesOf x) ∧ Pa w' a cap xs) ∨ (¬ In2 l x y ∧ e = .returned (.tuple #[.slice none 0 0, .iface 30 (.int .i64 80)])))
/-- What 'Reduce' gives. -/
def PostRd (l : List Nd) (F : List (List Int)) (w : World) (e : Ending) (w' : World) : Prop := Below w.heap.size w w' ∧ (((OkG l ∧ ∀ y ∈ F, y ∈ ids l) ∧ ∃ a cap xs, e = .returned (.tuple #[.slice a xs.length cap, .nilIface]) ∧ Lst' (Tp l (· ∈ F)) xs ∧ xs.Pairwise (fun x y => ¬ Lib.bytesOf y < Lib.bytesOf x) ∧ Pa w' a cap xs) ∨ (¬ (OkG l ∧ ∀ y ∈ F, y ∈ ids l) ∧ e = .returned (.tuple #[.slice none 0 0, .iface 30 (.int .i64 80)])))
set_option maxRecDepth 20000 in
set_option maxHeartbeats 2000000 in
theorem reaches_any {w : World} (a : Option Addr) (cap : Nat) (l : List Nd) (hP : Pn w a cap l) (hw : ∀ x ∈ l, NdW w x) (hn : l.length ≤ 40) (hps : ∀ x ∈ l, x.ps.length ≤ 40) (x y : List Int) (hx : IdW x) (hy : IdW y) :
    Calls Tryd.prog 16 #[.slice a l.length cap, idV x, idV y] w (PostRe l x y w) := by
  obtain ⟨G, HG⟩ : ∃ G, Hid (w.heap.size = G) := ⟨_, rfl⟩
  obtain ⟨n, HNL⟩ : ∃ n, Hid (l.length = n) := ⟨_, rfl⟩
  obtain ⟨X, HX⟩ : ∃ X : List Value, Hid (row .u8 x = X) := ⟨_, rfl⟩
  obtain ⟨Y, HY⟩ : ∃ X : List Value, Hid (row .u8 y = X) := ⟨_, rfl⟩
  have hiX : (Tryd.prog.info? 42).map (·.size) = some X.length := by rw [← HX.out, row_len, hx.1]; exact Tryd.size42
  have hiY : (Tryd.prog.info? 42).map (·.size) = some Y.length := by rw [← HY.out, row_len, hy.1]; exact Tryd.size42
  have HXW : Hid (IdW x) := hx
  have HYW : Hid (IdW y) := hy
  have HIW : Hid (∀ z ∈ [x, y], IdW z) := fun z hz => by
    rcases List.mem_cons.1 hz with rfl | hz
    · exact hx
    · rw [show z = y by simpa using hz]; exact hy
  obtain ⟨w1, HW1⟩ : ∃ u, Hid ((w.alloc (.cells X.toArray 42)).alloc (.cells Y.toArray 42) = u) := ⟨_, rfl⟩
  have hb1 : Below w.heap.size w w1 := by rw [← HW1.out]; exact ((Below.refl _ w).alloc (Nat.le_refl _) _).alloc (by simp) _
  have hs1 : w1.heap.size = G + 2 := by rw [← HW1.out, ← HG.out]; simp
  have hx1 : w1.heap[G]? = some (.cells X.toArray 42 (0, 0)) := by
    rw [← HW1.out, ← HG.out]
    exact (heap_alloc_old _ _ (by simp)).trans (heap_alloc_new w _)
  have hy1 : w1.heap[G + 1]? = some (.cells Y.toArray 42 (0, 0)) := by
    rw [← HW1.out, ← HG.out]
    have := heap_alloc_new (w.alloc (.cells X.toArray 42)) (.cells Y.toArray 42)
    simpa using this
  have HQ : Hid (∀ W, Below (G + 2) w1 W → QS G 0 (G + 1) 0 X Y W) := fun W hW => ⟨range_row ((hW.block G (by omega)).trans hx1), range_row ((hW.block (G + 1) (by omega)).trans hy1)⟩
  have RX : Hid (((w.alloc (.cells X.toArray 42)).alloc (.cells Y.toArray 42)).rangeAt w.heap.size 0 X) := hid (by rw [HW1.out, HG.out]; exact range_row hx1)
  have RY : Hid (w1.rangeAt (G + 1) 0 Y) := hid (range_row hy1)
  obtain ⟨w2, HW2⟩ : ∃ u, Hid (w1.alloc (.cells (row .u8 x ++ row .u8 y).toArray 42) = u) := ⟨_, rfl⟩
  have hbs : (Instr.buildSlice 32 2 #[(0, .agg X.toArray), (1, .agg Y.toArray)]).run Tryd.prog ((w.alloc (.cells X.toArray 42)).alloc (.cells Y.toArray 42)) = .ok (.slice (some ⟨G + 2, 0, none⟩) 2 2) w2 := by
    rw [HW1.out, ← HW2.out, ← hs1, ← HX.out, ← HY.out]
    exact run_build32b x y hx.1 hy.1 w1
  rw [HW1.out] at hbs
  have HBS : Hid ((Instr.buildSlice 32 2 #[(0, .agg X.toArray), (1, .agg Y.toArray)]).run Tryd.prog w1 = .ok (.slice (some ⟨G + 2, 0, none⟩) 2 2) w2) := hbs
  clear hbs
  have hb2 : Below w1.heap.size w1 w2 := by rw [← HW2.out]; exact (Below.refl _ w1).alloc (Nat.le_refl _) _
  have hPA : Pa w2 (some ⟨G + 2, 0, none⟩) 2 [x, y] := by rw [← HW2.out, ← hs1]; exact pa_two w1 x y hx.1 42
  have HBF : Hid (∀ W, Below (G + 2) w1 W → Below G w W) := fun W hW => (by rw [← HG.out]; exact hb1 : Below G w w1).trans (hW.mono (by omega))
  have HB2 : Hid (Below (G + 2) w1 w2) := hid (by rw [← hs1]; exact hb2)
  have hb02 : Below w.heap.size w w2 := by rw [HG.out]; exact HBF.out _ HB2.out
  have C22 : Hid (Calls Tryd.prog 22 #[.slice a n cap, .slice (some ⟨G + 2, 0, none⟩) 2 2] w2 (PostOp l [x, y] a cap w2)) := hid (by
    have := open_any a cap l (hP.below hb02) (fun z hz => (hw z hz).below hb02) hn hps (some ⟨G + 2, 0, none⟩) 2 [x, y] HIW.out (by simp) hPA
    rw [HNL.out] at this
    exact this)
  have HSZ : Hid (∀ W, Below (G + 2) w1 W → G + 2 ≤ W.heap.size) := fun W hW => by have := hW.size; omega
  unfold idV
  rw [HNL.out, HX.out, HY.out]
  clear hP hw hn hps hx hy hb1 hs1 hx1 hy1 hb2 hPA hb02
  go_enter Tryd.func16, Tryd.ntmps16
  go_wp2_with (first
    | refine wpList_load_mid rfl 42 _ rfl (G + 1) 0 rfl Y _ RY.out Tryd.underlying42 rfl hiY ?_
    | (refine wpList_load_mid rfl 42 _ rfl w.heap.size 0 rfl X _ RX.out Tryd.underlying42 rfl hiX ?_; rw [HW1.out, HG.out])
    | refine wpList_run rfl _ (exec_bS2 32 2 _ _ rfl (.agg X.toArray) (.agg Y.toArray) _ rfl rfl HBS.out) ?_
    | fail)
  refine C22.out.mono ?_
  rintro ev w3 ⟨hb3, ⟨⟨hok, hin⟩, hb, m, rfl, hhi⟩ | ⟨hno, rfl⟩⟩
  rotate_left
  · have HB3 : Hid (Below G w w3) := hid (HBF.out _ (HB2.out.trans (hb3.mono (HSZ.out _ HB2.out))))
    have HNO : Hid (¬ In2 l x y) := hno
    clear hb3 hno
    go_wp2
    go_ret2
    exact ⟨by rw [HG.out]; exact HB3.out, .inr ⟨HNO.out, rfl⟩⟩
  have HB3 : Hid (Below (G + 2) w1 w3) := hid (HB2.out.trans (hb3.mono (HSZ.out _ HB2.out)))
  have HHI : Hid (Hi w3 hb m a cap l) := hhi
  have HOK : Hid (OkG l) := hok
  have HIN : Hid (∀ z ∈ [x, y], z ∈ ids l) := hin
  have HRX : Hid (∀ z, Rch l (· ∈ [x]) z → z ∈ ids l) := rch_in HOK.out.par (fun z hz => HIN.out z (List.mem_singleton.1 hz ▸ (by simp)))
  have HRY : Hid (∀ z, Rch l (· ∈ [y]) z → z ∈ ids l) := rch_in HOK.out.par (fun z hz => HIN.out z (List.mem_singleton.1 hz ▸ (by simp)))
  have HBd : Hid (Below (G + 2) w1 w3.drew) := hid (below_drewH HB3.out 1)
  have HHId : Hid (∀ W, Below w3.heap.size w3.drew W → Hi W hb m a cap l) := fun W hW => (HHI.out.below (below_drewH (Below.refl _ _) 1)).below hW
  have HS3 : Hid (w3.drew.heap.size = w3.heap.size) := rfl
  have hG3 : G + 2 ≤ w3.heap.size := HSZ.out _ HB3.out
  clear hb3 hhi hok hin C22
  go_wp2_with fail
  refine wp_region_held_drew (S := QS G 0 (G + 1) 0 X Y) (by kernel_rfl) (HQ.out _ HBd.out) (fun hHeld => ?_)
  obtain ⟨G3, HG3⟩ : ∃ K, Hid (w3.heap.size = K) := ⟨_, rfl⟩
  rw [HG3.out] at HHId HS3 hG3
  generalize w3.drew = u0 at hHeld HBd HHId HS3 ⊢
  refine takeL (i := 0) (v := ?_) rfl (by kernel_rfl) (by kernel_rfl) (by kernel_rfl) (fun _ _ _ h => h) (Or.inl ⟨by rfl, ?_⟩) hHeld ?_
  rotate_left
  · rintro w' ⟨r0, r1⟩; go_simp; rfl
  try simp only [Act.put, List.setIfInBounds_toArray, List.set_cons_zero, List.set_cons_succ]
  refine takeL (i := 1) (v := .agg X.toArray) rfl (by kernel_rfl) (by kernel_rfl) (by kernel_rfl) (fun _ _ _ h => h) (yieldsIf_load_mid (by kernel_rfl) 42 _ rfl G (0) (by rfl) X _ (fun w' h => h.r0) Tryd.underlying42 rfl hiX) hHeld ?_
  try simp only [Act.put, List.setIfInBounds_toArray, List.set_cons_zero, List.set_cons_succ]
  refine takeL (i := 4) (v := .agg Y.toArray) rfl (by kernel_rfl) (by kernel_rfl) (by kernel_rfl) (fun _ _ _ h => h) (yieldsIf_load_mid (by kernel_rfl) 42 _ rfl (G + 1) (0) (by rfl) Y _ (fun w' h => h.r1) Tryd.underlying42 rfl hiY) hHeld ?_
  try simp only [Act.put, List.setIfInBounds_toArray, List.set_cons_zero, List.set_cons_succ]
  have B0 : Hid (Below G3 u0 u0) := hid (Below.refl _ _)
  obtain ⟨K1, HK1⟩ : ∃ K, Hid (u0.heap.size = K) := ⟨_, rfl⟩
  obtain ⟨u1, Hu1⟩ : ∃ u, Hid (u0.alloc (.cells X.toArray 42) = u) := ⟨_, rfl⟩
  have BLu1 : Hid ((Instr.buildSlice 32 1 #[(0, .agg X.toArray)]).run Tryd.prog u0 = .ok (.slice (some ⟨K1, 0, none⟩) 1 1) u1) := hid (by rw [← HK1.out, ← Hu1.out, ← HX.out]; exact run_build32 x HXW.out.1 u0)
  have hbu1 : Below u0.heap.size u0 u1 := by rw [← Hu1.out]; exact (Below.refl _ u0).alloc (Nat.le_refl _) _
  have PAu1 : Hid (Pa u1 (some ⟨K1, 0, none⟩) 1 [x]) := hid (by rw [← HK1.out, ← Hu1.out, ← HX.out]; exact pa_one u0 x 42)
  have Bu1 : Hid (Below G3 u0 u1) := hid (B0.out.trans (hbu1.mono (by have := B0.out.size; have := HS3.out; omega)))
  have Qu1 : Hid (Below (G + 2) w1 u1) := hid (HBd.out.trans (Bu1.out.mono hG3))
  clear hbu1
  refine wpAnyH_ready (rs := [2]) (by kernel_rfl) (by simp) ?_
  refine consL rfl (fun KK hKK => ?_) AllReadyH.nil
  refine step_exec (by rfl) _ (exec_bS 32 1 _ rfl (.agg X.toArray) _ (by rfl) BLu1.out) ?_
  refine hKK.out _ _ (HQ.out _ Qu1.out) (fun hHeld => ?_)
  clear hKK KK
  try simp only [Act.put, List.setIfInBounds_toArray, List.set_cons_zero, List.set_cons_succ]
  have C28 : Hid (Calls Tryd.prog 28 #[.pointer (some ⟨hb, 0, none⟩), .slice (some ⟨K1, 0, none⟩) 1 1] u1 (PostS (Rch l (· ∈ [x])) 40 u1)) := hid (reached_any (HHId.out _ Bu1.out) _ 1 [x] (fun z hz => by rw [show z = x by simpa using hz]; exact HXW.out) (by simp) PAu1.out HRX.out)
  refine wpAnyH_ready (rs := [3]) (by kernel_rfl) (by simp) ?_
  refine consL rfl (fun KK hKK => ?_) AllReadyH.nil
  refine step_callv (by rfl) 28 [.tmp 21, .tmp 23] _ [.pointer (some ⟨hb, 0, none⟩), .slice (some ⟨K1, 0, none⟩) 1 1] _ (by rfl) (by rfl) (enter28 _ _) C28.out ?_
  rintro e u2 ⟨hb2, g2, n2, rfl, hg2, hn2, hs2⟩
  have Bu2 : Hid (Below G3 u0 u2) := hid (Bu1.out.trans (hb2.mono (by have := Bu1.out.size; have := HS3.out; omega)))
  have Qu2 : Hid (Below (G + 2) w1 u2) := hid (HBd.out.trans (Bu2.out.mono hG3))
  have C32 : Hid (Calls Tryd.prog 32 #[.map (some g2), .agg Y.toArray] u2 fun e w' => BI (Rch l (· ∈ [x]) y) e ∧ Below u2.heap.size u2 w') := hid (by
    have := has_any hs2 HYW.out
    unfold idV at this
    rw [HY.out] at this
    exact this)
  clear hb2 hs2
  refine ⟨_, rfl, ?_⟩
  refine hKK.out _ _ (HQ.out _ Qu2.out) (fun hHeld => ?_)
  clear hKK KK
  try simp only [Act.put, List.setIfInBounds_toArray, List.set_cons_zero, List.set_cons_succ]
  refine wpAnyH_ready (rs := [5]) (by kernel_rfl) (by simp) ?_
  refine consL rfl (fun KK hKK => ?_) AllReadyH.nil
  refine step_callv (by rfl) 32 [.tmp 24, .tmp 25] _ [.map (some g2), .agg Y.toArray] _ (by rfl) (by rfl) (enter32 _ _) C32.out ?_
  rintro e u3 ⟨⟨b, hbb, rfl⟩, hb3⟩
  have Bu3 : Hid (Below G3 u0 u3) := hid (Bu2.out.trans (hb3.mono (by have := Bu2.out.size; have := HS3.out; omega)))
  have Qu3 : Hid (Below (G + 2) w1 u3) := hid (HBd.out.trans (Bu3.out.mono hG3))
  have HBB : Hid (b = true ↔ Rch l (· ∈ [x]) y) := hbb
  clear hb3 hbb
  refine ⟨_, rfl, ?_⟩
  refine hKK.out _ _ (HQ.out _ Qu3.out) (fun hHeld => ?_)
  clear hKK KK
  try simp only [Act.put, List.setIfInBounds_toArray, List.set_cons_zero, List.set_cons_succ]
  refine takeL (i := 6) (v := ?_) rfl (by kernel_rfl) (by kernel_rfl) (by kernel_rfl) (fun _ _ _ h => h) (Or.inl ⟨by rfl, ?_⟩) hHeld ?_
  rotate_left
  · rintro w' _; go_simp; rfl
  try simp only [Act.put, List.setIfInBounds_toArray, List.set_cons_zero, List.set_cons_succ]
  refine takeL (i := 7) (v := ?_) rfl (by kernel_rfl) (by kernel_rfl) (by kernel_rfl) (fun _ _ _ h => h) (Or.inl ⟨by rfl, ?_⟩) hHeld ?_
  rotate_left
  · rintro w' _; go_simp; rfl
  try simp only [Act.put, List.setIfInBounds_toArray, List.set_cons_zero, List.set_cons_succ]
  refine wpAnyH_done (by kernel_rfl) ?_ _
  clear hHeld
  go_wp2
  go_ret2
  exact ⟨by rw [HG.out]; exact HBF.out _ Qu3.out, .inl ⟨⟨HOK.out, HIN.out⟩, b, HBB.out, rfl⟩⟩
set_option maxRecDepth 20000 in
set_option maxHeartbeats 4000000 in
theorem bases_any (H51 : S51) {w : World} (a : Option Addr) (cap : Nat) (l : List Nd) (hP : Pn w a cap l) (hw : ∀ x ∈ l, NdW w x) (hn : l.length ≤ 40) (hps : ∀ x ∈ l, x.ps.length ≤ 40) (x y : List Int) (hx : IdW x) (hy : IdW y) :
    Calls Tryd.prog 18 #[.slice a l.length cap, idV x, idV y] w (PostBa l x y w) := by
  have HH51 : Hid S51 := H51
  clear H51
  obtain ⟨G, HG⟩ : ∃ G, Hid (w.heap.size = G) := ⟨_, rfl⟩
  obtain ⟨n, HNL⟩ : ∃ n, Hid (l.length = n) := ⟨_, rfl⟩
  obtain ⟨X, HX⟩ : ∃ X : List Value, Hid (row .u8 x = X) := ⟨_, rfl⟩
  obtain ⟨Y, HY⟩ : ∃ X : List Value, Hid (row .u8 y = X) := ⟨_, rfl⟩
  have hiX : (Tryd.prog.info? 42).map (·.size) = some X.length := by rw [← HX.out, row_len, hx.1]; exact Tryd.size42
  have hiY : (Tryd.prog.info? 42).map (·.size) = some Y.length := by rw [← HY.out, row_len, hy.1]; exact Tryd.size42
  have HXW : Hid (IdW x) := hx
  have HYW : Hid (IdW y) := hy
  have HIW : Hid (∀ z ∈ [x, y], IdW z) := fun z hz => by
    rcases List.mem_cons.1 hz with rfl | hz
    · exact hx
    · rw [show z = y by simpa using hz]; exact hy
  obtain ⟨w1, HW1⟩ : ∃ u, Hid ((w.alloc (.cells X.toArray 42)).alloc (.cells Y.toArray 42) = u) := ⟨_, rfl⟩
  have hb1 : Below w.heap.size w w1 := by rw [← HW1.out]; exact ((Below.refl _ w).alloc (Nat.le_refl _) _).alloc (by simp) _
  have hs1 : w1.heap.size = G + 2 := by rw [← HW1.out, ← HG.out]; simp
  have hx1 : w1.heap[G]? = some (.cells X.toArray 42 (0, 0)) := by
    rw [← HW1.out, ← HG.out]
    exact (heap_alloc_old _ _ (by simp)).trans (heap_alloc_new w _)
  have hy1 : w1.heap[G + 1]? = some (.cells Y.toArray 42 (0, 0)) := by
    rw [← HW1.out, ← HG.out]
    have := heap_alloc_new (w.alloc (.cells X.toArray 42)) (.cells Y.toArray 42)
    simpa using this
  have HQ : Hid (∀ W, Below (G + 2) w1 W → QS G 0 (G + 1) 0 X Y W) := fun W hW => ⟨range_row ((hW.block G (by omega)).trans hx1), range_row ((hW.block (G + 1) (by omega)).trans hy1)⟩
  have RX : Hid (((w.alloc (.cells X.toArray 42)).alloc (.cells Y.toArray 42)).rangeAt w.heap.size 0 X) := hid (by rw [HW1.out, HG.out]; exact range_row hx1)
  have RY : Hid (w1.rangeAt (G + 1) 0 Y) := hid (range_row hy1)
  obtain ⟨w2, HW2⟩ : ∃ u, Hid (w1.alloc (.cells (row .u8 x ++ row .u8 y).toArray 42) = u) := ⟨_, rfl⟩
  have hbs : (Instr.buildSlice 32 2 #[(0, .agg X.toArray), (1, .agg Y.toArray)]).run Tryd.prog ((w.alloc (.cells X.toArray 42)).alloc (.cells Y.toArray 42)) = .ok (.slice (some ⟨G + 2, 0, none⟩) 2 2) w2 := by
    rw [HW1.out, ← HW2.out, ← hs1, ← HX.out, ← HY.out]
    exact run_build32b x y hx.1 hy.1 w1
  rw [HW1.out] at hbs
  have HBS : Hid ((Instr.buildSlice 32 2 #[(0, .agg X.toArray), (1, .agg Y.toArray)]).run Tryd.prog w1 = .ok (.slice (some ⟨G + 2, 0, none⟩) 2 2) w2) := hbs
  clear hbs
  have hb2 : Below w1.heap.size w1 w2 := by rw [← HW2.out]; exact (Below.refl _ w1).alloc (Nat.le_refl _) _
  have hPA : Pa w2 (some ⟨G + 2, 0, none⟩) 2 [x, y] := by rw [← HW2.out, ← hs1]; exact pa_two w1 x y hx.1 42
  have HBF : Hid (∀ W, Below (G + 2) w1 W → Below G w W) := fun W hW => (by rw [← HG.out]; exact hb1 : Below G w w1).trans (hW.mono (by omega))
  have HB2 : Hid (Below (G + 2) w1 w2) := hid (by rw [← hs1]; exact hb2)
  have hb02 : Below w.heap.size w w2 := by rw [HG.out]; exact HBF.out _ HB2.out
  have C22 : Hid (Calls Tryd.prog 22 #[.slice a n cap, .slice (some ⟨G + 2, 0, none⟩) 2 2] w2 (PostOp l [x, y] a cap w2)) := hid (by
    have := open_any a cap l (hP.below hb02) (fun z hz => (hw z hz).below hb02) hn hps (some ⟨G + 2, 0, none⟩) 2 [x, y] HIW.out (by simp) hPA
    rw [HNL.out] at this
    exact this)
  have HSZ : Hid (∀ W, Below (G + 2) w1 W → G + 2 ≤ W.heap.size) := fun W hW => by have := hW.size; omega
  unfold idV
  rw [HNL.out, HX.out, HY.out]
  clear hP hw hn hps hx hy hb1 hs1 hx1 hy1 hb2 hPA hb02
  go_enter Tryd.func18, Tryd.ntmps18
  go_wp2_with (first
    | refine wpList_load_mid rfl 42 _ rfl (G + 1) 0 rfl Y _ RY.out Tryd.underlying42 rfl hiY ?_
    | (refine wpList_load_mid rfl 42 _ rfl w.heap.size 0 rfl X _ RX.out Tryd.underlying42 rfl hiX ?_; rw [HW1.out, HG.out])
    | refine wpList_run rfl _ (exec_bS2 32 2 _ _ rfl (.agg X.toArray) (.agg Y.toArray) _ rfl rfl HBS.out) ?_
    | fail)
  refine C22.out.mono ?_
  rintro ev w3 ⟨hb3, ⟨⟨hok, hin⟩, hb, m, rfl, hhi⟩ | ⟨hno, rfl⟩⟩
  rotate_left
  · have HB3 : Hid (Below G w w3) := hid (HBF.out _ (HB2.out.trans (hb3.mono (HSZ.out _ HB2.out))))
    have HNO : Hid (¬ In2 l x y) := hno
    clear hb3 hno
    go_wp2
    go_ret2
    exact ⟨by rw [HG.out]; exact HB3.out, .inr ⟨HNO.out, rfl⟩⟩
  have HB3 : Hid (Below (G + 2) w1 w3) := hid (HB2.out.trans (hb3.mono (HSZ.out _ HB2.out)))
  have HHI : Hid (Hi w3 hb m a cap l) := hhi
  have HOK : Hid (OkG l) := hok
  have HIN : Hid (∀ z ∈ [x, y], z ∈ ids l) := hin
  have HRX : Hid (∀ z, Rch l (· ∈ [x]) z → z ∈ ids l) := rch_in HOK.out.par (fun z hz => HIN.out z (List.mem_singleton.1 hz ▸ (by simp)))
  have HRY : Hid (∀ z, Rch l (· ∈ [y]) z → z ∈ ids l) := rch_in HOK.out.par (fun z hz => HIN.out z (List.mem_singleton.1 hz ▸ (by simp)))
  have HBd : Hid (Below (G + 2) w1 w3.drew) := hid (below_drewH HB3.out 1)
  have HHId : Hid (∀ W, Below w3.heap.size w3.drew W → Hi W hb m a cap l) := fun W hW => (HHI.out.below (below_drewH (Below.refl _ _) 1)).below hW
  have HS3 : Hid (w3.drew.heap.size = w3.heap.size) := rfl
  have hG3 : G + 2 ≤ w3.heap.size := HSZ.out _ HB3.out
  clear hb3 hhi hok hin C22
  go_wp2_with fail
  refine wp_region_held_drew (S := QS G 0 (G + 1) 0 X Y) (by kernel_rfl) (HQ.out _ HBd.out) (fun hHeld => ?_)
  obtain ⟨G3, HG3⟩ : ∃ K, Hid (w3.heap.size = K) := ⟨_, rfl⟩
  rw [HG3.out] at HHId HS3 hG3
  generalize w3.drew = u0 at hHeld HBd HHId HS3 ⊢
  refine takeL (i := 0) (v := ?_) rfl (by kernel_rfl) (by kernel_rfl) (by kernel_rfl) (fun _ _ _ h => h) (Or.inl ⟨by rfl, ?_⟩) hHeld ?_
  rotate_left
  · rintro w' ⟨r0, r1⟩; go_simp; rfl
  try simp only [Act.put, List.setIfInBounds_toArray, List.set_cons_zero, List.set_cons_succ]
  refine takeL (i := 1) (v := ?_) rfl (by kernel_rfl) (by kernel_rfl) (by kernel_rfl) (fun _ _ _ h => h) (Or.inl ⟨by rfl, ?_⟩) hHeld ?_
  rotate_left
  · rintro w' ⟨r0, r1⟩; go_simp; rfl
  try simp only [Act.put, List.setIfInBounds_toArray, List.set_cons_zero, List.set_cons_succ]
  refine takeL (i := 2) (v := .agg X.toArray) rfl (by kernel_rfl) (by kernel_rfl) (by kernel_rfl) (fun _ _ _ h => h) (yieldsIf_load_mid (by kernel_rfl) 42 _ rfl G (0) (by rfl) X _ (fun w' h => h.r0) Tryd.underlying42 rfl hiX) hHeld ?_
  try simp only [Act.put, List.setIfInBounds_toArray, List.set_cons_zero, List.set_cons_succ]
  refine takeL (i := 5) (v := ?_) rfl (by kernel_rfl) (by kernel_rfl) (by kernel_rfl) (fun _ _ _ h => h) (Or.inl ⟨by rfl, ?_⟩) hHeld ?_
  rotate_left
  · rintro w' ⟨r0, r1⟩; go_simp; rfl
  try simp only [Act.put, List.setIfInBounds_toArray, List.set_cons_zero, List.set_cons_succ]
  refine takeL (i := 6) (v := .agg Y.toArray) rfl (by kernel_rfl) (by kernel_rfl) (by kernel_rfl) (fun _ _ _ h => h) (yieldsIf_load_mid (by kernel_rfl) 42 _ rfl (G + 1) (0) (by rfl) Y _ (fun w' h => h.r1) Tryd.underlying42 rfl hiY) hHeld ?_
  try simp only [Act.put, List.setIfInBounds_toArray, List.set_cons_zero, List.set_cons_succ]
  have B0 : Hid (Below G3 u0 u0) := hid (Below.refl _ _)
  refine wpAnyH_ready (rs := [3, 7]) (by kernel_rfl) (by simp) ?_
  refine consL rfl (fun KK hKK => ?_) (consL rfl (fun KK hKK => ?_) AllReadyH.nil)
  · obtain ⟨K1, HK1⟩ : ∃ K, Hid (u0.heap.size = K) := ⟨_, rfl⟩
    obtain ⟨u1, Hu1⟩ : ∃ u, Hid (u0.alloc (.cells X.toArray 42) = u) := ⟨_, rfl⟩
    have BLu1 : Hid ((Instr.buildSlice 32 1 #[(0, .agg X.toArray)]).run Tryd.prog u0 = .ok (.slice (some ⟨K1, 0, none⟩) 1 1) u1) := hid (by rw [← HK1.out, ← Hu1.out, ← HX.out]; exact run_build32 x HXW.out.1 u0)
    have hbu1 : Below u0.heap.size u0 u1 := by rw [← Hu1.out]; exact (Below.refl _ u0).alloc (Nat.le_refl _) _
    have PAu1 : Hid (Pa u1 (some ⟨K1, 0, none⟩) 1 [x]) := hid (by rw [← HK1.out, ← Hu1.out, ← HX.out]; exact pa_one u0 x 42)
    have Bu1 : Hid (Below G3 u0 u1) := hid (B0.out.trans (hbu1.mono (by have := B0.out.size; have := HS3.out; omega)))
    have Qu1 : Hid (Below (G + 2) w1 u1) := hid (HBd.out.trans (Bu1.out.mono hG3))
    clear hbu1
    refine step_exec (by rfl) _ (exec_bS 32 1 _ rfl (.agg X.toArray) _ (by rfl) BLu1.out) ?_
    refine hKK.out _ _ (HQ.out _ Qu1.out) (fun hHeld => ?_)
    clear hKK KK
    try simp only [Act.put, List.setIfInBounds_toArray, List.set_cons_zero, List.set_cons_succ]
    have Cu2 : Hid (Calls Tryd.prog 28 #[.pointer (some ⟨hb, 0, none⟩), .slice (some ⟨K1, 0, none⟩) 1 1] u1 (PostS (Rch l (· ∈ [x])) 40 u1)) := hid (reached_any (HHId.out _ Bu1.out) _ 1 [x] (fun z hz => by rw [show z = x by simpa using hz]; exact HXW.out) (by simp) PAu1.out HRX.out)
    refine wpAnyH_ready (rs := [4, 7]) (by kernel_rfl) (by simp) ?_
    refine consL rfl (fun KK hKK => ?_) (consL rfl (fun KK hKK => ?_) AllReadyH.nil)
    · refine step_callv (by rfl) 28 [.tmp 22, .tmp 24] _ [.pointer (some ⟨hb, 0, none⟩), .slice (some ⟨K1, 0, none⟩) 1 1] _ (by rfl) (by rfl) (enter28 _ _) Cu2.out ?_
      rintro e u2 ⟨hbu2, g2, n2, rfl, hgu2, hnu2, hsu2⟩
      have Bu2 : Hid (Below G3 u0 u2) := hid (Bu1.out.trans (hbu2.mono (by have := Bu1.out.size; have := HS3.out; omega)))
      have Qu2 : Hid (Below (G + 2) w1 u2) := hid (HBd.out.trans (Bu2.out.mono hG3))
      have Su2 : Hid (SI u2 g2 n2 (Rch l (· ∈ [x]))) := hsu2
      have Mu2 : Hid (Below u1.heap.size u1 u2) := hbu2
      clear hbu2 hsu2
      refine ⟨_, rfl, ?_⟩
      refine hKK.out _ _ (HQ.out _ Qu2.out) (fun hHeld => ?_)
      clear hKK KK
      try simp only [Act.put, List.setIfInBounds_toArray, List.set_cons_zero, List.set_cons_succ]
      obtain ⟨K3, HK3⟩ : ∃ K, Hid (u2.heap.size = K) := ⟨_, rfl⟩
      obtain ⟨u3, Hu3⟩ : ∃ u, Hid (u2.alloc (.cells Y.toArray 42) = u) := ⟨_, rfl⟩
      have BLu3 : Hid ((Instr.buildSlice 32 1 #[(0, .agg Y.toArray)]).run Tryd.prog u2 = .ok (.slice (some ⟨K3, 0, none⟩) 1 1) u3) := hid (by rw [← HK3.out, ← Hu3.out, ← HY.out]; exact run_build32 y HYW.out.1 u2)
      have hbu3 : Below u2.heap.size u2 u3 := by rw [← Hu3.out]; exact (Below.refl _ u2).alloc (Nat.le_refl _) _
      have PAu3 : Hid (Pa u3 (some ⟨K3, 0, none⟩) 1 [y]) := hid (by rw [← HK3.out, ← Hu3.out, ← HY.out]; exact pa_one u2 y 42)
      have Bu3 : Hid (Below G3 u0 u3) := hid (Bu2.out.trans (hbu3.mono (by have := Bu2.out.size; have := HS3.out; omega)))
      have Qu3 : Hid (Below (G + 2) w1 u3) := hid (HBd.out.trans (Bu3.out.mono hG3))
      have Mu3 : Hid (Below u2.heap.size u2 u3) := hbu3
      clear hbu3
      refine wpAnyH_ready (rs := [7]) (by kernel_rfl) (by simp) ?_
      refine consL rfl (fun KK hKK => ?_) AllReadyH.nil
      refine step_exec (by rfl) _ (exec_bS 32 1 _ rfl (.agg Y.toArray) _ (by rfl) BLu3.out) ?_
      refine hKK.out _ _ (HQ.out _ Qu3.out) (fun hHeld => ?_)
      clear hKK KK
      try simp only [Act.put, List.setIfInBounds_toArray, List.set_cons_zero, List.set_cons_succ]
      have Cu5 : Hid (Calls Tryd.prog 28 #[.pointer (some ⟨hb, 0, none⟩), .slice (some ⟨K3, 0, none⟩) 1 1] u3 (PostS (Rch l (· ∈ [y])) 40 u3)) := hid (reached_any (HHId.out _ Bu3.out) _ 1 [y] (fun z hz => by rw [show z = y by simpa using hz]; exact HYW.out) (by simp) PAu3.out HRY.out)
      refine wpAnyH_ready (rs := [8]) (by kernel_rfl) (by simp) ?_
      refine consL rfl (fun KK hKK => ?_) AllReadyH.nil
      refine step_callv (by rfl) 28 [.tmp 26, .tmp 28] _ [.pointer (some ⟨hb, 0, none⟩), .slice (some ⟨K3, 0, none⟩) 1 1] _ (by rfl) (by rfl) (enter28 _ _) Cu5.out ?_
      rintro e u5 ⟨hbu5, g5, n5, rfl, hgu5, hnu5, hsu5⟩
      have Bu5 : Hid (Below G3 u0 u5) := hid (Bu3.out.trans (hbu5.mono (by have := Bu3.out.size; have := HS3.out; omega)))
      have Qu5 : Hid (Below (G + 2) w1 u5) := hid (HBd.out.trans (Bu5.out.mono hG3))
      have Su5 : Hid (SI u5 g5 n5 (Rch l (· ∈ [y]))) := hsu5
      have Mu5 : Hid (Below u3.heap.size u3 u5) := hbu5
      clear hbu5 hsu5
      refine ⟨_, rfl, ?_⟩
      refine hKK.out _ _ (HQ.out _ Qu5.out) (fun hHeld => ?_)
      clear hKK KK
      try simp only [Act.put, List.setIfInBounds_toArray, List.set_cons_zero, List.set_cons_succ]
      have Cu6 : Hid (Calls Tryd.prog 34 #[.map (some g2), .map (some g5)] u5 (PostS (fun z => Rch l (· ∈ [x]) z ∧ Rch l (· ∈ [y]) z) n2 u5)) := hid (and_any (SI.below (Su2.out.below Mu3.out) Mu5.out) Su5.out (by omega))
      refine wpAnyH_ready (rs := [9]) (by kernel_rfl) (by simp) ?_
      refine consL rfl (fun KK hKK => ?_) AllReadyH.nil
      refine step_callv (by rfl) 34 [.tmp 25, .tmp 29] _ [.map (some g2), .map (some g5)] _ (by rfl) (by rfl) (enter34 _ _) Cu6.out ?_
      rintro e u6 ⟨hbu6, g6, n6, rfl, hgu6, hnu6, hsu6⟩
      have Bu6 : Hid (Below G3 u0 u6) := hid (Bu5.out.trans (hbu6.mono (by have := Bu5.out.size; have := HS3.out; omega)))
      have Qu6 : Hid (Below (G + 2) w1 u6) := hid (HBd.out.trans (Bu6.out.mono hG3))
      have Su6 : Hid (SI u6 g6 n6 (fun z => Rch l (· ∈ [x]) z ∧ Rch l (· ∈ [y]) z)) := hsu6
      have Mu6 : Hid (Below u5.heap.size u5 u6) := hbu6
      clear hbu6 hsu6
      refine ⟨_, rfl, ?_⟩
      refine hKK.out _ _ (HQ.out _ Qu6.out) (fun hHeld => ?_)
      clear hKK KK
      try simp only [Act.put, List.setIfInBounds_toArray, List.set_cons_zero, List.set_cons_succ]
      have Cu7 : Hid (Calls Tryd.prog 33 #[.pointer (some ⟨hb, 0, none⟩), .map (some g6)] u6 (PostSo (Tp l (fun z => Rch l (· ∈ [x]) z ∧ Rch l (· ∈ [y]) z)) u6)) := hid (tops_any HH51.out (HHId.out _ Bu6.out) HOK.out Su6.out (by omega) (fun z hz => HRX.out z hz.1))
      refine wpAnyH_ready (rs := [10]) (by kernel_rfl) (by simp) ?_
      refine consL rfl (fun KK hKK => ?_) AllReadyH.nil
      refine step_callv (by rfl) 33 [.tmp 21, .tmp 30] _ [.pointer (some ⟨hb, 0, none⟩), .map (some g6)] _ (by rfl) (by rfl) (enter33 _ _) Cu7.out ?_
      rintro e u7 ⟨xa, xc, xs, rfl, q1, q2, q3, q4⟩
      have Bu7 : Hid (Below G3 u0 u7) := hid (Bu6.out.trans (q4.mono (by have := Bu6.out.size; have := HS3.out; omega)))
      have Qu7 : Hid (Below (G + 2) w1 u7) := hid (HBd.out.trans (Bu7.out.mono hG3))
      have H1 : Hid (Lst' (Tp l (fun z => Rch l (· ∈ [x]) z ∧ Rch l (· ∈ [y]) z)) xs) := q1
      have H2 : Hid (xs.Pairwise (fun x y => ¬ Lib.bytesOf y < Lib.bytesOf x)) := q2
      have H3 : Hid (Pa u7 xa xc xs) := q3
      clear q1 q2 q3 q4
      refine ⟨_, rfl, ?_⟩
      refine hKK.out _ _ (HQ.out _ Qu7.out) (fun hHeld => ?_)
      clear hKK KK
      try simp only [Act.put, List.setIfInBounds_toArray, List.set_cons_zero, List.set_cons_succ]
      refine takeL (i := 11) (v := ?_) rfl (by kernel_rfl) (by kernel_rfl) (by kernel_rfl) (fun _ _ _ h => h) (Or.inl ⟨by rfl, ?_⟩) hHeld ?_
      rotate_left
      · rintro w' _; go_simp; rfl
      try simp only [Act.put, List.setIfInBounds_toArray, List.set_cons_zero, List.set_cons_succ]
      refine takeL (i := 12) (v := ?_) rfl (by kernel_rfl) (by kernel_rfl) (by kernel_rfl) (fun _ _ _ h => h) (Or.inl ⟨by rfl, ?_⟩) hHeld ?_
      rotate_left
      · rintro w' _; go_simp; rfl
      try simp only [Act.put, List.setIfInBounds_toArray, List.set_cons_zero, List.set_cons_succ]
      refine wpAnyH_done (by kernel_rfl) ?_ _
      clear hHeld
      go_wp2
      go_ret2
      exact ⟨by rw [HG.out]; exact HBF.out _ Qu7.out, .inl ⟨⟨HOK.out, HIN.out⟩, xa, xc, xs, rfl, H1.out, H2.out, H3.out⟩⟩
    · obtain ⟨K3, HK3⟩ : ∃ K, Hid (u1.heap.size = K) := ⟨_, rfl⟩
      obtain ⟨u3, Hu3⟩ : ∃ u, Hid (u1.alloc (.cells Y.toArray 42) = u) := ⟨_, rfl⟩
      have BLu3 : Hid ((Instr.buildSlice 32 1 #[(0, .agg Y.toArray)]).run Tryd.prog u1 = .ok (.slice (some ⟨K3, 0, none⟩) 1 1) u3) := hid (by rw [← HK3.out, ← Hu3.out, ← HY.out]; exact run_build32 y HYW.out.1 u1)
      have hbu3 : Below u1.heap.size u1 u3 := by rw [← Hu3.out]; exact (Below.refl _ u1).alloc (Nat.le_refl _) _
      have PAu3 : Hid (Pa u3 (some ⟨K3, 0, none⟩) 1 [y]) := hid (by rw [← HK3.out, ← Hu3.out, ← HY.out]; exact pa_one u1 y 42)
      have Bu3 : Hid (Below G3 u0 u3) := hid (Bu1.out.trans (hbu3.mono (by have := Bu1.out.size; have := HS3.out; omega)))
      have Qu3 : Hid (Below (G + 2) w1 u3) := hid (HBd.out.trans (Bu3.out.mono hG3))
      have Mu3 : Hid (Below u1.heap.size u1 u3) := hbu3
      clear hbu3
      refine step_exec (by rfl) _ (exec_bS 32 1 _ rfl (.agg Y.toArray) _ (by rfl) BLu3.out) ?_
      refine hKK.out _ _ (HQ.out _ Qu3.out) (fun hHeld => ?_)
      clear hKK KK
      try simp only [Act.put, List.setIfInBounds_toArray, List.set_cons_zero, List.set_cons_succ]
      have Cu4 : Hid (Calls Tryd.prog 28 #[.pointer (some ⟨hb, 0, none⟩), .slice (some ⟨K1, 0, none⟩) 1 1] u3 (PostS (Rch l (· ∈ [x])) 40 u3)) := hid (reached_any (HHId.out _ Bu3.out) _ 1 [x] (fun z hz => by rw [show z = x by simpa using hz]; exact HXW.out) (by simp) (PAu1.out.below Mu3.out) HRX.out)
      refine wpAnyH_ready (rs := [4]) (by kernel_rfl) (by simp) ?_
      refine consL rfl (fun KK hKK => ?_) AllReadyH.nil
      refine step_callv (by rfl) 28 [.tmp 22, .tmp 24] _ [.pointer (some ⟨hb, 0, none⟩), .slice (some ⟨K1, 0, none⟩) 1 1] _ (by rfl) (by rfl) (enter28 _ _) Cu4.out ?_
      rintro e u4 ⟨hbu4, g4, n4, rfl, hgu4, hnu4, hsu4⟩
      have Bu4 : Hid (Below G3 u0 u4) := hid (Bu3.out.trans (hbu4.mono (by have := Bu3.out.size; have := HS3.out; omega)))
      have Qu4 : Hid (Below (G + 2) w1 u4) := hid (HBd.out.trans (Bu4.out.mono hG3))
      have Su4 : Hid (SI u4 g4 n4 (Rch l (· ∈ [x]))) := hsu4
      have Mu4 : Hid (Below u3.heap.size u3 u4) := hbu4
      clear hbu4 hsu4
      refine ⟨_, rfl, ?_⟩
      refine hKK.out _ _ (HQ.out _ Qu4.out) (fun hHeld => ?_)
      clear hKK KK
      try simp only [Act.put, List.setIfInBounds_toArray, List.set_cons_zero, List.set_cons_succ]
      have Cu5 : Hid (Calls Tryd.prog 28 #[.pointer (some ⟨hb, 0, none⟩), .slice (some ⟨K3, 0, none⟩) 1 1] u4 (PostS (Rch l (· ∈ [y])) 40 u4)) := hid (reached_any (HHId.out _ Bu4.out) _ 1 [y] (fun z hz => by rw [show z = y by simpa using hz]; exact HYW.out) (by simp) (PAu3.out.below Mu4.out) HRY.out)
      refine wpAnyH_ready (rs := [8]) (by kernel_rfl) (by simp) ?_
      refine consL rfl (fun KK hKK => ?_) AllReadyH.nil
      refine step_callv (by rfl) 28 [.tmp 26, .tmp 28] _ [.pointer (some ⟨hb, 0, none⟩), .slice (some ⟨K3, 0, none⟩) 1 1] _ (by rfl) (by rfl) (enter28 _ _) Cu5.out ?_
      rintro e u5 ⟨hbu5, g5, n5, rfl, hgu5, hnu5, hsu5⟩
      have Bu5 : Hid (Below G3 u0 u5) := hid (Bu4.out.trans (hbu5.mono (by have := Bu4.out.size; have := HS3.out; omega)))
      have Qu5 : Hid (Below (G + 2) w1 u5) := hid (HBd.out.trans (Bu5.out.mono hG3))
      have Su5 : Hid (SI u5 g5 n5 (Rch l (· ∈ [y]))) := hsu5
      have Mu5 : Hid (Below u4.heap.size u4 u5) := hbu5
      clear hbu5 hsu5
      refine ⟨_, rfl, ?_⟩
      refine hKK.out _ _ (HQ.out _ Qu5.out) (fun hHeld => ?_)
      clear hKK KK
      try simp only [Act.put, List.setIfInBounds_toArray, List.set_cons_zero, List.set_cons_succ]
      have Cu6 : Hid (Calls Tryd.prog 34 #[.map (some g4), .map (some g5)] u5 (PostS (fun z => Rch l (· ∈ [x]) z ∧ Rch l (· ∈ [y]) z) n4 u5)) := hid (and_any (SI.below Su4.out Mu5.out) Su5.out (by omega))
      refine wpAnyH_ready (rs := [9]) (by kernel_rfl) (by simp) ?_
      refine consL rfl (fun KK hKK => ?_) AllReadyH.nil
      refine step_callv (by rfl) 34 [.tmp 25, .tmp 29] _ [.map (some g4), .map (some g5)] _ (by rfl) (by rfl) (enter34 _ _) Cu6.out ?_
      rintro e u6 ⟨hbu6, g6, n6, rfl, hgu6, hnu6, hsu6⟩
      have Bu6 : Hid (Below G3 u0 u6) := hid (Bu5.out.trans (hbu6.mono (by have := Bu5.out.size; have := HS3.out; omega)))
      have Qu6 : Hid (Below (G + 2) w1 u6) := hid (HBd.out.trans (Bu6.out.mono hG3))
      have Su6 : Hid (SI u6 g6 n6 (fun z => Rch l (· ∈ [x]) z ∧ Rch l (· ∈ [y]) z)) := hsu6
      have Mu6 : Hid (Below u5.heap.size u5 u6) := hbu6
      clear hbu6 hsu6
      refine ⟨_, rfl, ?_⟩
      refine hKK.out _ _ (HQ.out _ Qu6.out) (fun hHeld => ?_)
      clear hKK KK
      try simp only [Act.put, List.setIfInBounds_toArray, List.set_cons_zero, List.set_cons_succ]
      have Cu7 : Hid (Calls Tryd.prog 33 #[.pointer (some ⟨hb, 0, none⟩), .map (some g6)] u6 (PostSo (Tp l (fun z => Rch l (· ∈ [x]) z ∧ Rch l (· ∈ [y]) z)) u6)) := hid (tops_any HH51.out (HHId.out _ Bu6.out) HOK.out Su6.out (by omega) (fun z hz => HRX.out z hz.1))
      refine wpAnyH_ready (rs := [10]) (by kernel_rfl) (by simp) ?_
      refine consL rfl (fun KK hKK => ?_) AllReadyH.nil
      refine step_callv (by rfl) 33 [.tmp 21, .tmp 30] _ [.pointer (some ⟨hb, 0, none⟩), .map (some g6)] _ (by rfl) (by rfl) (enter33 _ _) Cu7.out ?_
      rintro e u7 ⟨xa, xc, xs, rfl, q1, q2, q3, q4⟩
      have Bu7 : Hid (Below G3 u0 u7) := hid (Bu6.out.trans (q4.mono (by have := Bu6.out.size; have := HS3.out; omega)))
      have Qu7 : Hid (Below (G + 2) w1 u7) := hid (HBd.out.trans (Bu7.out.mono hG3))
      have H1 : Hid (Lst' (Tp l (fun z => Rch l (· ∈ [x]) z ∧ Rch l (· ∈ [y]) z)) xs) := q1
      have H2 : Hid (xs.Pairwise (fun x y => ¬ Lib.bytesOf y < Lib.bytesOf x)) := q2
      have H3 : Hid (Pa u7 xa xc xs) := q3
      clear q1 q2 q3 q4
      refine ⟨_, rfl, ?_⟩
      refine hKK.out _ _ (HQ.out _ Qu7.out) (fun hHeld => ?_)
      clear hKK KK
      try simp only [Act.put, List.setIfInBounds_toArray, List.set_cons_zero, List.set_cons_succ]
      refine takeL (i := 11) (v := ?_) rfl (by kernel_rfl) (by kernel_rfl) (by kernel_rfl) (fun _ _ _ h => h) (Or.inl ⟨by rfl, ?_⟩) hHeld ?_
      rotate_left
      · rintro w' _; go_simp; rfl
      try simp only [Act.put, List.setIfInBounds_toArray, List.set_cons_zero, List.set_cons_succ]
      refine takeL (i := 12) (v := ?_) rfl (by kernel_rfl) (by kernel_rfl) (by kernel_rfl) (fun _ _ _ h => h) (Or.inl ⟨by rfl, ?_⟩) hHeld ?_
      rotate_left
      · rintro w' _; go_simp; rfl
      try simp only [Act.put, List.setIfInBounds_toArray, List.set_cons_zero, List.set_cons_succ]
      refine wpAnyH_done (by kernel_rfl) ?_ _
      clear hHeld
      go_wp2
      go_ret2
      exact ⟨by rw [HG.out]; exact HBF.out _ Qu7.out, .inl ⟨⟨HOK.out, HIN.out⟩, xa, xc, xs, rfl, H1.out, H2.out, H3.out⟩⟩
  · obtain ⟨K3, HK3⟩ : ∃ K, Hid (u0.heap.size = K) := ⟨_, rfl⟩
    obtain ⟨u3, Hu3⟩ : ∃ u, Hid (u0.alloc (.cells Y.toArray 42) = u) := ⟨_, rfl⟩
    have BLu3 : Hid ((Instr.buildSlice 32 1 #[(0, .agg Y.toArray)]).run Tryd.prog u0 = .ok (.slice (some ⟨K3, 0, none⟩) 1 1) u3) := hid (by rw [← HK3.out, ← Hu3.out, ← HY.out]; exact run_build32 y HYW.out.1 u0)
    have hbu3 : Below u0.heap.size u0 u3 := by rw [← Hu3.out]; exact (Below.refl _ u0).alloc (Nat.le_refl _) _
    have PAu3 : Hid (Pa u3 (some ⟨K3, 0, none⟩) 1 [y]) := hid (by rw [← HK3.out, ← Hu3.out, ← HY.out]; exact pa_one u0 y 42)
    have Bu3 : Hid (Below G3 u0 u3) := hid (B0.out.trans (hbu3.mono (by have := B0.out.size; have := HS3.out; omega)))
    have Qu3 : Hid (Below (G + 2) w1 u3) := hid (HBd.out.trans (Bu3.out.mono hG3))
    clear hbu3
    refine step_exec (by rfl) _ (exec_bS 32 1 _ rfl (.agg Y.toArray) _ (by rfl) BLu3.out) ?_
    refine hKK.out _ _ (HQ.out _ Qu3.out) (fun hHeld => ?_)
    clear hKK KK
    try simp only [Act.put, List.setIfInBounds_toArray, List.set_cons_zero, List.set_cons_succ]
    obtain ⟨K1, HK1⟩ : ∃ K, Hid (u3.heap.size = K) := ⟨_, rfl⟩
    obtain ⟨u1, Hu1⟩ : ∃ u, Hid (u3.alloc (.cells X.toArray 42) = u) := ⟨_, rfl⟩
    have BLu1 : Hid ((Instr.buildSlice 32 1 #[(0, .agg X.toArray)]).run Tryd.prog u3 = .ok (.slice (some ⟨K1, 0, none⟩) 1 1) u1) := hid (by rw [← HK1.out, ← Hu1.out, ← HX.out]; exact run_build32 x HXW.out.1 u3)
    have hbu1 : Below u3.heap.size u3 u1 := by rw [← Hu1.out]; exact (Below.refl _ u3).alloc (Nat.le_refl _) _
    have PAu1 : Hid (Pa u1 (some ⟨K1, 0, none⟩) 1 [x]) := hid (by rw [← HK1.out, ← Hu1.out, ← HX.out]; exact pa_one u3 x 42)
    have Bu1 : Hid (Below G3 u0 u1) := hid (Bu3.out.trans (hbu1.mono (by have := Bu3.out.size; have := HS3.out; omega)))
    have Qu1 : Hid (Below (G + 2) w1 u1) := hid (HBd.out.trans (Bu1.out.mono hG3))
    have Mu1 : Hid (Below u3.heap.size u3 u1) := hbu1
    clear hbu1
    refine wpAnyH_ready (rs := [3]) (by kernel_rfl) (by simp) ?_
    refine consL rfl (fun KK hKK => ?_) AllReadyH.nil
    refine step_exec (by rfl) _ (exec_bS 32 1 _ rfl (.agg X.toArray) _ (by rfl) BLu1.out) ?_
    refine hKK.out _ _ (HQ.out _ Qu1.out) (fun hHeld => ?_)
    clear hKK KK
    try simp only [Act.put, List.setIfInBounds_toArray, List.set_cons_zero, List.set_cons_succ]
    have Cu4 : Hid (Calls Tryd.prog 28 #[.pointer (some ⟨hb, 0, none⟩), .slice (some ⟨K1, 0, none⟩) 1 1] u1 (PostS (Rch l (· ∈ [x])) 40 u1)) := hid (reached_any (HHId.out _ Bu1.out) _ 1 [x] (fun z hz => by rw [show z = x by simpa using hz]; exact HXW.out) (by simp) PAu1.out HRX.out)
    refine wpAnyH_ready (rs := [4]) (by kernel_rfl) (by simp) ?_
    refine consL rfl (fun KK hKK => ?_) AllReadyH.nil
    refine step_callv (by rfl) 28 [.tmp 22, .tmp 24] _ [.pointer (some ⟨hb, 0, none⟩), .slice (some ⟨K1, 0, none⟩) 1 1] _ (by rfl) (by rfl) (enter28 _ _) Cu4.out ?_
    rintro e u4 ⟨hbu4, g4, n4, rfl, hgu4, hnu4, hsu4⟩
    have Bu4 : Hid (Below G3 u0 u4) := hid (Bu1.out.trans (hbu4.mono (by have := Bu1.out.size; have := HS3.out; omega)))
    have Qu4 : Hid (Below (G + 2) w1 u4) := hid (HBd.out.trans (Bu4.out.mono hG3))
    have Su4 : Hid (SI u4 g4 n4 (Rch l (· ∈ [x]))) := hsu4
    have Mu4 : Hid (Below u1.heap.size u1 u4) := hbu4
    clear hbu4 hsu4
    refine ⟨_, rfl, ?_⟩
    refine hKK.out _ _ (HQ.out _ Qu4.out) (fun hHeld => ?_)
    clear hKK KK
    try simp only [Act.put, List.setIfInBounds_toArray, List.set_cons_zero, List.set_cons_succ]
    have Cu5 : Hid (Calls Tryd.prog 28 #[.pointer (some ⟨hb, 0, none⟩), .slice (some ⟨K3, 0, none⟩) 1 1] u4 (PostS (Rch l (· ∈ [y])) 40 u4)) := hid (reached_any (HHId.out _ Bu4.out) _ 1 [y] (fun z hz => by rw [show z = y by simpa using hz]; exact HYW.out) (by simp) ((PAu3.out.below Mu1.out).below Mu4.out) HRY.out)
    refine wpAnyH_ready (rs := [8]) (by kernel_rfl) (by simp) ?_
    refine consL rfl (fun KK hKK => ?_) AllReadyH.nil
    refine step_callv (by rfl) 28 [.tmp 26, .tmp 28] _ [.pointer (some ⟨hb, 0, none⟩), .slice (some ⟨K3, 0, none⟩) 1 1] _ (by rfl) (by rfl) (enter28 _ _) Cu5.out ?_
    rintro e u5 ⟨hbu5, g5, n5, rfl, hgu5, hnu5, hsu5⟩
    have Bu5 : Hid (Below G3 u0 u5) := hid (Bu4.out.trans (hbu5.mono (by have := Bu4.out.size; have := HS3.out; omega)))
    have Qu5 : Hid (Below (G + 2) w1 u5) := hid (HBd.out.trans (Bu5.out.mono hG3))
    have Su5 : Hid (SI u5 g5 n5 (Rch l (· ∈ [y]))) := hsu5
    have Mu5 : Hid (Below u4.heap.size u4 u5) := hbu5
    clear hbu5 hsu5
    refine ⟨_, rfl, ?_⟩
    refine hKK.out _ _ (HQ.out _ Qu5.out) (fun hHeld => ?_)
    clear hKK KK
    try simp only [Act.put, List.setIfInBounds_toArray, List.set_cons_zero, List.set_cons_succ]
    have Cu6 : Hid (Calls Tryd.prog 34 #[.map (some g4), .map (some g5)] u5 (PostS (fun z => Rch l (· ∈ [x]) z ∧ Rch l (· ∈ [y]) z) n4 u5)) := hid (and_any (SI.below Su4.out Mu5.out) Su5.out (by omega))
    refine wpAnyH_ready (rs := [9]) (by kernel_rfl) (by simp) ?_
    refine consL rfl (fun KK hKK => ?_) AllReadyH.nil
    refine step_callv (by rfl) 34 [.tmp 25, .tmp 29] _ [.map (some g4), .map (some g5)] _ (by rfl) (by rfl) (enter34 _ _) Cu6.out ?_
    rintro e u6 ⟨hbu6, g6, n6, rfl, hgu6, hnu6, hsu6⟩
    have Bu6 : Hid (Below G3 u0 u6) := hid (Bu5.out.trans (hbu6.mono (by have := Bu5.out.size; have := HS3.out; omega)))
    have Qu6 : Hid (Below (G + 2) w1 u6) := hid (HBd.out.trans (Bu6.out.mono hG3))
    have Su6 : Hid (SI u6 g6 n6 (fun z => Rch l (· ∈ [x]) z ∧ Rch l (· ∈ [y]) z)) := hsu6
    have Mu6 : Hid (Below u5.heap.size u5 u6) := hbu6
    clear hbu6 hsu6
    refine ⟨_, rfl, ?_⟩
    refine hKK.out _ _ (HQ.out _ Qu6.out) (fun hHeld => ?_)
    clear hKK KK
    try simp only [Act.put, List.setIfInBounds_toArray, List.set_cons_zero, List.set_cons_succ]
    have Cu7 : Hid (Calls Tryd.prog 33 #[.pointer (some ⟨hb, 0, none⟩), .map (some g6)] u6 (PostSo (Tp l (fun z => Rch l (· ∈ [x]) z ∧ Rch l (· ∈ [y]) z)) u6)) := hid (tops_any HH51.out (HHId.out _ Bu6.out) HOK.out Su6.out (by omega) (fun z hz => HRX.out z hz.1))
    refine wpAnyH_ready (rs := [10]) (by kernel_rfl) (by simp) ?_
    refine consL rfl (fun KK hKK => ?_) AllReadyH.nil
    refine step_callv (by rfl) 33 [.tmp 21, .tmp 30] _ [.pointer (some ⟨hb, 0, none⟩), .map (some g6)] _ (by rfl) (by rfl) (enter33 _ _) Cu7.out ?_
    rintro e u7 ⟨xa, xc, xs, rfl, q1, q2, q3, q4⟩
    have Bu7 : Hid (Below G3 u0 u7) := hid (Bu6.out.trans (q4.mono (by have := Bu6.out.size; have := HS3.out; omega)))
    have Qu7 : Hid (Below (G + 2) w1 u7) := hid (HBd.out.trans (Bu7.out.mono hG3))
    have H1 : Hid (Lst' (Tp l (fun z => Rch l (· ∈ [x]) z ∧ Rch l (· ∈ [y]) z)) xs) := q1
    have H2 : Hid (xs.Pairwise (fun x y => ¬ Lib.bytesOf y < Lib.bytesOf x)) := q2
    have H3 : Hid (Pa u7 xa xc xs) := q3
    clear q1 q2 q3 q4
    refine ⟨_, rfl, ?_⟩
    refine hKK.out _ _ (HQ.out _ Qu7.out) (fun hHeld => ?_)
    clear hKK KK
    try simp only [Act.put, List.setIfInBounds_toArray, List.set_cons_zero, List.set_cons_succ]
    refine takeL (i := 11) (v := ?_) rfl (by kernel_rfl) (by kernel_rfl) (by kernel_rfl) (fun _ _ _ h => h) (Or.inl ⟨by rfl, ?_⟩) hHeld ?_
    rotate_left
    · rintro w' _; go_simp; rfl
    try simp only [Act.put, List.setIfInBounds_toArray, List.set_cons_zero, List.set_cons_succ]
    refine takeL (i := 12) (v := ?_) rfl (by kernel_rfl) (by kernel_rfl) (by kernel_rfl) (fun _ _ _ h => h) (Or.inl ⟨by rfl, ?_⟩) hHeld ?_
    rotate_left
    · rintro w' _; go_simp; rfl
    try simp only [Act.put, List.setIfInBounds_toArray, List.set_cons_zero, List.set_cons_succ]
    refine wpAnyH_done (by kernel_rfl) ?_ _
    clear hHeld
    go_wp2
    go_ret2
    exact ⟨by rw [HG.out]; exact HBF.out _ Qu7.out, .inl ⟨⟨HOK.out, HIN.out⟩, xa, xc, xs, rfl, H1.out, H2.out, H3.out⟩⟩
set_option maxRecDepth 20000 in
set_option maxHeartbeats 1000000 in
theorem reduce_any (H51 : S51) {w : World} (a : Option Addr) (cap : Nat) (l : List Nd) (hP : Pn w a cap l) (hw : ∀ x ∈ l, NdW w x) (hn : l.length ≤ 40) (hps : ∀ x ∈ l, x.ps.length ≤ 40)
    (fa : Option Addr) (fc : Nat) (F : List (List Int)) (hF : Pa w fa fc F) (hi : ∀ y ∈ F, IdW y) (hl : F.length ≤ 40) : Calls Tryd.prog 20 #[.slice a l.length cap, .slice fa F.length fc] w (PostRd l F w) := by
  obtain ⟨G, HG⟩ : ∃ G, Hid (w.heap.size = G) := ⟨_, rfl⟩
  obtain ⟨n, HNL⟩ : ∃ n, Hid (l.length = n) := ⟨_, rfl⟩
  obtain ⟨nF, HNF⟩ : ∃ n, Hid (F.length = n) := ⟨_, rfl⟩
  have HPF : Hid (∀ W, Below G w W → Pa W fa fc F) := fun W hW => hF.below (by rw [HG.out]; exact hW)
  have HFI : Hid (∀ y ∈ F, IdW y) := hi
  have HFL : Hid (F.length ≤ 40) := hl
  have HH51 : Hid S51 := H51
  have C22 : Hid (Calls Tryd.prog 22 #[.slice a n cap, .slice fa nF fc] w (PostOp l F a cap w)) := hid (by
    have := open_any a cap l hP hw hn hps fa fc F hi (by omega) hF
    rw [HNL.out, HNF.out] at this
    exact this)
  rw [HNL.out, HNF.out]
  clear hP hw hn hps hF hi hl H51
  go_enter Tryd.func20, Tryd.ntmps20
  go_wp2_with fail
  refine C22.out.mono ?_
  rintro ev w3 ⟨hb3, ⟨⟨hok, hin⟩, hb, m, rfl, hhi⟩ | ⟨hno, rfl⟩⟩
  · have HB3 : Hid (Below G w w3) := hid (by rw [← HG.out]; exact hb3)
    have HHI : Hid (Hi w3 hb m a cap l) := hhi
    have HOK : Hid (OkG l) := hok
    have HIN : Hid (∀ y ∈ F, y ∈ ids l) := hin
    have hG3 : G ≤ w3.heap.size := by have := hb3.size; have := HG.out; omega
    have C35 : Hid (Calls Tryd.prog 35 #[.slice fa nF fc] w3 (PostS (· ∈ F) 40 w3)) := hid (by
      have := setOf_any fa fc F (HPF.out _ HB3.out) HFI.out HFL.out
      rw [HNF.out] at this
      exact this)
    clear hb3 hhi hok hin C22
    go_wp2_with fail
    refine C35.out.mono ?_
    rintro ev w4 ⟨hb4, g4, n4, rfl, hg4, hn4, hs4⟩
    have HB4 : Hid (Below G w w4) := hid (HB3.out.trans (hb4.mono hG3))
    have hG4 : G ≤ w4.heap.size := Nat.le_trans hG3 hb4.size
    have C33 : Hid (Calls Tryd.prog 33 #[.pointer (some ⟨hb, 0, none⟩), .map (some g4)] w4 (PostSo (Tp l (· ∈ F)) w4)) := hid (tops_any HH51.out (HHI.out.below hb4) HOK.out hs4 (by omega) HIN.out)
    clear hb4 hs4 C35
    go_wp2_with fail
    refine C33.out.mono ?_
    rintro ev w5 ⟨xa, xc, xs, rfl, q1, q2, q3, q4⟩
    have HB5 : Hid (Below G w w5) := hid (HB4.out.trans (q4.mono hG4))
    have H1 : Hid (Lst' (Tp l (· ∈ F)) xs) := q1
    have H2 : Hid (xs.Pairwise (fun x y => ¬ Lib.bytesOf y < Lib.bytesOf x)) := q2
    have H3 : Hid (Pa w5 xa xc xs) := q3
    clear q1 q2 q3 q4
    go_wp2
    go_ret2
    exact ⟨by rw [HG.out]; exact HB5.out, .inl ⟨⟨HOK.out, HIN.out⟩, xa, xc, xs, rfl, H1.out, H2.out, H3.out⟩⟩
  · have HB3 : Hid (Below G w w3) := hid (by rw [← HG.out]; exact hb3)
    have HNO : Hid (¬ (OkG l ∧ ∀ y ∈ F, y ∈ ids l)) := hno
    clear hb3 hno
    go_wp2
    go_ret2
    exact ⟨by rw [HG.out]; exact HB3.out, .inr ⟨HNO.out, rfl⟩⟩
end Go.Proofs.YtjgjeedablgmeaaDoor
