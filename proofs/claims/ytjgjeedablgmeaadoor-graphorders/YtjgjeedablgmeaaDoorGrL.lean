/- 'among'. -/
import Derived.Test.YtjgjeedablgmeaaDoorGrK
namespace Go.Proofs.YtjgjeedablgmeaaDoor
open Go.RowKit
set_option linter.unusedVariables false
set_option linter.unusedSimpArgs false
theorem Tryd.info53 : (Tryd.prog.info? 53).map (fun i => (i.zero, i.size, i.bytes)) = some (some (.agg (ndV nd0).toArray), 22, 56) := by kernel_rfl
set_option maxRecDepth 20000 in
theorem run_build22 (x : Nd) (h : x.id.length = 20) (w : World) : (Instr.buildSlice 22 1 #[(0, .agg (ndV x).toArray)]).run Tryd.prog w = .ok (.slice (some ⟨w.heap.size, 0, none⟩) 1 1) (w.alloc (.cells (ndV x).toArray 53)) := by
  obtain ⟨i, hq, hz, hs, _⟩ := info_parts Tryd.info53
  refine run_buildSlice w 22 53 1 _ (ndV x).toArray i _ Tryd.underlying22 hq hz (by rw [hs]; decide) (by rw [hs]; decide) ?_
  rw [hs]
  obtain ⟨id, ps, pa, pc, tm⟩ := x
  obtain ⟨a0, a1, a2, a3, a4, a5, a6, a7, a8, a9, a10, a11, a12, a13, a14, a15, a16, a17, a18, a19, rfl⟩ := list20 id h
  unfold ndV
  simp only
  generalize ps.length = k
  kernel_rfl
theorem px_one {α : Type} (enc : α → List Value) (k : Nat) (d : α) (w : World) (x : α) (e : TypeId) : Px enc k d (w.alloc (.cells (enc x).toArray e)) (some ⟨w.heap.size, 0, none⟩) 1 [x] :=
  ⟨Nat.le_refl _, fun _ => ⟨w.heap.size, 0, rfl, by simp, fun i hi j v hv => by
    obtain rfl : i = 0 := by simpa using hi
    have := range_row (heap_alloc_new w (.cells (enc x).toArray e)) j v hv
    simpa using this⟩, fun h => by cases h⟩
theorem exec_buildS {P : Program} {o : Oper} {a : Act} {w w' : World} (t len : Nat) (x : Operand) (ho : o.op = .buildSlice t len #[(0, x)]) (u v : Value) (hx : a.eval x = u) (hr : (Instr.buildSlice t len #[(0, u)]).run P w = .ok v w') : (execOp a.eval o).run P w = .ok (.value v) w' := by
  unfold execOp
  simp [ho, hx, hr, Result.andThen]
theorem bool_eq {a b : Bool} {p : Prop} (h1 : a = true ↔ p) (h2 : b = true ↔ p) : a = b := by
  cases a <;> cases b <;> simp_all
/-- What 'among' gives. -/
def PostAm (l : List Nd) (S : List Int → Prop) (w : World) (e : Ending) (w' : World) : Prop := ∃ (f : Nd → Bool) (v : Value), (∀ x, f x = true ↔ S x.id) ∧ e = .returned v ∧ Bx ndV 22 53 w w' w.heap.size v (l.filter f)
set_option maxRecDepth 20000 in
set_option maxHeartbeats 400000 in
theorem among_any {w : World} {hb m : Nat} {a : Option Addr} {cap : Nat} {l : List Nd} (h : Hi w hb m a cap l) {g ng : Nat} {S : List Int → Prop} (hS : SI w g ng S) : Calls Tryd.prog 45 #[.pointer (some ⟨hb, 0, none⟩), .map (some g)] w (PostAm l S w) := by
  obtain ⟨f, hf⟩ : ∃ f : Nd → Bool, ∀ x, f x = true ↔ S x.id := ⟨fun x => @decide (S x.id) (Classical.propDecidable _), fun x => @decide_eq_true_iff _ (Classical.propDecidable _)⟩
  have HF : Hid (∀ x, f x = true ↔ S x.id) := hf
  obtain ⟨G, HG⟩ : ∃ G, Hid (w.heap.size = G) := ⟨_, rfl⟩
  obtain ⟨n, HN⟩ : ∃ n, Hid (l.length = n) := ⟨_, rfl⟩
  have hn40 : n ≤ 40 := by rw [← HN.out]; exact h.few
  have HPA : Hid (∀ W, Below G w W → Pn W a cap l) := fun W hW => h.nds.below (by rw [HG.out]; exact hW)
  have HWF : Hid (∀ x ∈ l, IdW x.id) := fun x hx => (h.wf x hx).id
  have HSB : Hid (∀ W, Below G w W → SI W g ng S) := fun W hW => hS.below (by rw [HG.out]; exact hW)
  have hc0 : w.cell? ⟨hb, 0, none⟩ = some (.slice a n cap) := (cell_of_row w hb 0 _ _ _ h.box).trans (by rw [HN.out]; rfl)
  obtain ⟨zr, HZ⟩ : ∃ zr : Array Value, Hid (zr = (ndV nd0).toArray) := ⟨_, rfl⟩
  have hz53 : ∀ w : World, (zeroValue 53).run Tryd.prog w = .ok (.agg zr) w := fun w => by rw [HZ.out]; exact zero53 w
  have HPL : Hid (0 < n → ∃ b off, a = some ⟨b, off, none⟩ ∧ b < G) := fun h0 => by
    obtain ⟨b, off, e1, e2, _⟩ := h.nds.at_ (by rw [HN.out]; exact h0)
    exact ⟨b, off, e1, by rw [← HG.out]; exact e2⟩
  have HE0 : Hid (Bx ndV 22 53 w w G (.slice none 0 0) ((l.take 0).filter f)) := hid (bx_nil 53 w G (by rw [HG.out]; exact Nat.le_refl _))
  clear h hS hf
  go_enter Tryd.func45, Tryd.ntmps45
  go_wp2_with fail
  go_loopg [5, 13] n (fun gg u iv wr => ∃ (i : Nat) (v : Value), v = u ∧ i ≤ n ∧ gg = n - i ∧ iv = .int .i64 i ∧ Hid (Bx ndV 22 53 w wr G v ((l.take i).filter f)))
  case atStart => exact ⟨0, _, rfl, Nat.zero_le _, rfl, rfl, HE0⟩
  case round =>
    obtain ⟨i, v, hv, hi, hk, rfl, HBE⟩ := hrel
    subst hv
    by_cases hlt : i < n
    · have hlti : (i : Int) < (n : Int) := by omega
      obtain ⟨b, off, hae, hbG⟩ := HPL.out (by omega)
      subst hae
      obtain ⟨x, HX⟩ : ∃ x, Hid (l.getD i nd0 = x) := ⟨_, rfl⟩
      have hxm : x ∈ l := by rw [← HX.out]; exact getD_mem l i _ (by rw [HN.out]; exact hlt)
      have HXW : Hid (IdW x.id) := HWF.out x hxm
      obtain ⟨R, HR⟩ : ∃ R : List Value, Hid (ndV x = R) := ⟨_, rfl⟩
      obtain ⟨RI, HRI⟩ : ∃ R : List Value, Hid (row .u8 x.id = R) := ⟨_, rfl⟩
      have HRL : Hid (R.length = 22) := hid (by rw [← HR.out]; exact ndV_len x HXW.out.1)
      have hiR : (Tryd.prog.info? 53).map (·.size) = some R.length := by rw [HRL.out]; exact Tryd.size53
      have hiI : (Tryd.prog.info? 42).map (·.size) = some RI.length := by rw [← HRI.out, row_len, HXW.out.1]; exact Tryd.size42
      have RR : Hid (wr.rangeAt b (off + i * 22) R) := hid (by
        obtain ⟨b', off', e1, _, e3⟩ := (HPA.out wr HBE.out.below).at_ (by rw [HN.out]; omega)
        cases e1
        have := e3 i (by rw [HN.out]; exact hlt)
        rw [HX.out, HR.out] at this
        exact this)
      have I53 : Hid ((Tryd.prog.info? 53).map (·.size) = some R.toArray.size) := hid (by rw [List.size_toArray]; exact hiR)
      have E53 : Hid (zr.size = R.toArray.size) := hid (by rw [HZ.out, List.size_toArray, List.size_toArray, HRL.out]; rfl)
      have O53 : Hid (R.toArray.all (·.oneCell') = true) := hid (by rw [← HR.out]; exact all_oneCell_toArray (ndV_one x))
      have D0 : Hid ((wr.alloc (.cells zr 53)).heap[wr.heap.size]? = some (.cells zr 53 (0, 0))) := heap_alloc_new wr _
      obtain ⟨w3, HW3⟩ : ∃ w3, Hid ((wr.alloc (.cells zr 53)).setRow wr.heap.size R.toArray = w3) := ⟨_, rfl⟩
      obtain ⟨H, HH⟩ : ∃ H, Hid (wr.heap.size = H) := ⟨_, rfl⟩
      have hb3 : Below wr.heap.size wr w3 := by rw [← HW3.out]; exact below_setRow ((Below.refl _ wr).alloc (Nat.le_refl _) _) (Nat.le_refl _) _
      have HX3 : Hid (w3.heap[H]? = some (.cells R.toArray 53 (0, 0))) := hid (by rw [← HW3.out, ← HH.out]; exact setRow_heap _ _ _ R.toArray _ _ D0.out)
      have R3 : Hid (w3.rangeAt H 0 RI) := hid (by rw [← HRI.out]; exact nd_id (by rw [HR.out]; exact range_row HX3.out))
      have HB3 : Hid (Bx ndV 22 53 w w3 G v ((l.take i).filter f)) := hid (HBE.out.carry hb3)
      have C32 : Hid (Calls Tryd.prog 32 #[.map (some g), .agg RI.toArray] w3 fun e w' => BI (S x.id) e ∧ Below w3.heap.size w3 w') := hid (by
        have := has_any (HSB.out _ HB3.out.below) HXW.out
        unfold idV at this
        rw [HRI.out] at this
        exact this)
      have hH3 : H < w3.heap.size := lt_of_some HX3.out
      have HTK : Hid ((l.take (i + 1)).filter f = (l.take i).filter f ++ [x].filter f) := hid (by
        rw [take_snocG nd0 l i (by rw [HN.out]; exact hlt), HX.out, List.filter_append])
      clear hb3 hxm
      go_wp2_with (first
        | refine wpList_load_mid rfl 53 _ rfl b (off + i * 22) rfl R _ RR.out Tryd.underlying53 rfl hiR ?_
        | (refine wpList_store_row rfl 53 _ _ rfl wr.heap.size R.toArray rfl rfl 53 zr D0.out I53.out E53.out O53.out ?_; rw [HW3.out, HH.out])
        | refine wpList_load_mid rfl 42 _ rfl H 0 rfl RI _ R3.out Tryd.underlying42 rfl hiI ?_
        | fail)
      refine C32.out.mono ?_
      rintro ev w4 ⟨⟨bb, hbb, rfl⟩, hb4⟩
      have HB4 : Hid (Bx ndV 22 53 w w4 G v ((l.take i).filter f)) := hid (HB3.out.carry hb4)
      have HX4 : Hid (w4.heap[H]? = some (.cells R.toArray 53 (0, 0))) := hid ((hb4.block H hH3).trans HX3.out)
      have R4 : Hid (w4.rangeAt H 0 R) := hid (range_row HX4.out)
      have HFX : Hid (f x = bb) := hid (bool_eq (HF.out x) hbb)
      clear hb4 hbb
      cases bb with
      | true =>
        have HTK2 : Hid ((l.take (i + 1)).filter f = (l.take i).filter f ++ [x]) := hid (by rw [HTK.out, List.filter_cons, HFX.out]; rfl)
        have HBLD : Hid ((Instr.buildSlice 22 1 #[(0, .agg R.toArray)]).run Tryd.prog w4 = .ok (.slice (some ⟨w4.heap.size, 0, none⟩) 1 1) (w4.alloc (.cells R.toArray 53))) := hid (by rw [← HR.out]; exact run_build22 x HXW.out.1 w4)
        have HP1 : Hid (Pn (w4.alloc (.cells R.toArray 53)) (some ⟨w4.heap.size, 0, none⟩) 1 [x]) := hid (by rw [← HR.out]; exact px_one ndV 22 nd0 w4 x 53)
        have HB4a : Hid (Bx ndV 22 53 w (w4.alloc (.cells R.toArray 53)) G v ((l.take i).filter f)) := hid (HB4.out.alloc _)
        have HSUM : Hid (((l.take i).filter f).length + [x].length ≤ 30000) := hid (by
          have := List.length_filter_le f (l.take i)
          rw [List.length_take, HN.out] at this
          simp only [List.length_cons, List.length_nil]
          omega)
        have HONE : Hid (∀ z ∈ [x], (ndV z).length = 22) := fun z hz => by
          have : z = x := by simpa using hz
          rw [this]; exact ndV_len x HXW.out.1
        go_wp2_with (first
          | refine wpList_load_mid rfl 53 _ rfl H 0 rfl R _ R4.out Tryd.underlying53 rfl hiR ?_
          | refine wpList_bS rfl 22 1 _ rfl (.agg R.toArray) _ rfl HBLD.out ?_
          | (refine wpList_bx_sl (d := nd0) rfl _ _ 22 53 Tryd.underlying22 Tryd.info53 rfl (by decide) (by decide) ndV_one rfl G _ _ rfl HB4a.out (some ⟨w4.heap.size, 0, none⟩) 1 [x] rfl HP1.out HONE.out HSUM.out ?_; intro v8 w8 hb8 hg8)
          | fail)
        have HB8 : Hid (Bx ndV 22 53 w w8 G v8 ((l.take (i + 1)).filter f)) := hid (by rw [HTK2.out]; exact hb8)
        clear hb8 hg8
        go_roundg (n - (i + 1))
        case measure => omega
        case rel => exact ⟨i + 1, v8, rfl, by omega, rfl, by go_num, HB8⟩
      | false =>
        have HTK2 : Hid ((l.take (i + 1)).filter f = (l.take i).filter f) := hid (by rw [HTK.out, List.filter_cons, HFX.out]; simp)
        go_wp2
        go_roundg (n - (i + 1))
        case measure => omega
        case rel => exact ⟨i + 1, v, rfl, by omega, rfl, by go_num, hid (by rw [HTK2.out]; exact HB4.out)⟩
    · have hlti : ¬ (i : Int) < (n : Int) := by omega
      have HBZ : Hid (Bx ndV 22 53 w wr G v (l.filter f)) := hid (by
        have := HBE.out
        rw [List.take_of_length_le (by rw [HN.out]; omega)] at this
        exact this)
      clear HBE
      go_wp2
      go_ret
      exact ⟨f, v, HF.out, rfl, by rw [HG.out]; exact HBZ.out⟩
end Go.Proofs.YtjgjeedablgmeaaDoor
