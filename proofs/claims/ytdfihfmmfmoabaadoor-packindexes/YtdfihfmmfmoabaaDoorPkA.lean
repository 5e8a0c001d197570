/- Bytes of one's own; 'appendNumber' and 'put'. -/
import Derived.Test.YtdfihfmmfmoabaaDoorStill
import Derived.Test.YtdfihfmmfmoabaaDoorTellB
import Derived.Test.YtdfihfmmfmoabaaDoorLst
import Derived.Test.YtdfihfmmfmoabaaDoorShA
import Derived.Lib.SlBytesRow
import Derived.Maps.AppendAt
namespace Go.Proofs.YtdfihfmmfmoabaaDoor
open Go.RowKit
set_option linter.unusedVariables false
set_option linter.unusedSimpArgs false
def nums (l : List UInt8) : List Int := l.map fun b => (b.toNat : Int)
theorem nums_len (l : List UInt8) : (nums l).length = l.length := by simp [nums]
theorem nums_isB (l : List UInt8) : IsB (nums l) := by
  intro x hx
  obtain ⟨b, _, rfl⟩ := List.mem_map.1 hx
  have := b.toNat_lt
  omega
theorem nums_app (l m : List UInt8) : nums (l ++ m) = nums l ++ nums m := by simp [nums]
structure Sl (w : World) (a : Option Addr) (cap : Nat) (l : List Int) : Prop where
  capl : l.length ≤ cap
  at_ : 0 < l.length → ∃ b off, a = some ⟨b, off, none⟩ ∧ b < w.heap.size ∧ At w b off l
  nil : a = none → cap = 0
theorem Sl.below {w w' : World} {a : Option Addr} {cap : Nat} {l : List Int} (h : Sl w a cap l) (hb : Below w.heap.size w w') : Sl w' a cap l :=
  ⟨h.capl, fun h0 => by
    obtain ⟨b, off, e1, e2, e3⟩ := h.at_ h0
    exact ⟨b, off, e1, Nat.lt_of_lt_of_le e2 hb.size, fun i hi => (hb.cell (p := ⟨b, off + i, none⟩) e2).trans (e3 i hi)⟩, h.nil⟩
theorem nums_bytesOf (l : List Int) (h : IsB l) : nums (Lib.bytesOf l) = l := by
  unfold nums Lib.bytesOf
  rw [List.map_map]
  conv => rhs; rw [← List.map_id l]
  apply List.map_congr_left
  intro x hx
  have := h x hx
  simp only [Function.comp, id, UInt8.toNat_ofNat']
  omega
theorem lt_of_some {w : World} {g : Nat} {o : Obj} (h : w.heap[g]? = some o) : g < w.heap.size := (Array.getElem?_eq_some_iff.1 h).1
structure Bd (w0 w : World) (B : Nat) (v : Value) (out : List Int) : Prop where
  below : Below B w0 w
  own : w.ownsRow B 5 1 v out.length (out.map (Value.int .u8))
  le : B ≤ w.heap.size
theorem Bd.alloc {w0 w : World} {B : Nat} {v : Value} {out : List Int} (h : Bd w0 w B v out) (o : Obj) : Bd w0 (w.alloc o) B v out :=
  ⟨h.below.alloc h.le o, h.own.alloc o, Nat.le_trans h.le (by simp)⟩
theorem bd_nil (w : World) (B : Nat) (h : B ≤ w.heap.size) : Bd w w B (.slice none 0 0) [] := ⟨Below.refl _ _, ⟨rfl, .inl ⟨rfl, rfl⟩⟩, h⟩
theorem sl_one (w : World) (c : Int) : Sl (w.alloc (.cells #[.int .u8 c] 5)) (some ⟨w.heap.size, 0, none⟩) 1 [c] :=
  ⟨by simp, fun _ => ⟨w.heap.size, 0, rfl, by simp, fun i hi => by
    have : i = 0 := by simpa using hi
    subst this
    simp⟩, fun h => by cases h⟩
theorem Bd.carry {w0 w w' : World} {B : Nat} {v : Value} {out : List Int} (h : Bd w0 w B v out) (hb : Below w.heap.size w w') : Bd w0 w' B v out :=
  ⟨h.below.trans (hb.mono h.le), h.own.kept (row := none) ⟨hb.os, hb.tape, hb.output, hb.size, fun k hk _ => hb.block k hk⟩ (by cases h : v.ownBlock <;> simp), Nat.le_trans h.le hb.size⟩
theorem bd_form {w0 w : World} {B : Nat} {v : Value} {out : List Int} (h : Bd w0 w B v out) (h0 : 0 < out.length) : ∃ g cap, v = .slice (some ⟨g, 0, none⟩) out.length cap ∧ B ≤ g ∧ g < w.heap.size ∧ At w g 0 out ∧ out.length ≤ cap := by
  obtain ⟨g, cap, rfl, h1, h2⟩ := h.own.form h0
  refine ⟨g, cap, rfl, h1, h2, ?_, ?_⟩
  · intro i hi
    rw [Nat.zero_add, h.own.cellAt i (by simpa using hi), List.getElem?_map, List.getElem?_eq_getElem hi]
    simp [List.getD_eq_getElem?_getD, List.getElem?_eq_getElem hi]
  · obtain ⟨_, ⟨hv, _⟩ | ⟨g2, cap2, cur, hv, _, _, hnc, _⟩⟩ := h.own
    · cases hv
    · simp only [Value.slice.injEq] at hv
      omega
theorem Bd.sl {w0 w : World} {B : Nat} {v : Value} {out : List Int} (h : Bd w0 w B v out) : ∃ a cap, v = .slice a out.length cap ∧ Sl w a cap out := by
  by_cases h0 : 0 < out.length
  · obtain ⟨g, cap, rfl, h1, h2, h3, h4⟩ := bd_form h h0
    exact ⟨_, cap, rfl, ⟨h4, fun _ => ⟨g, 0, rfl, h2, h3⟩, fun h => by cases h⟩⟩
  · have hz : out.length = 0 := by omega
    obtain ⟨_, ⟨rfl, _⟩ | ⟨g, cap, cur, rfl, _, hh, hnc, _⟩⟩ := h.own
    · exact ⟨none, 0, by rw [hz], ⟨by omega, fun h => absurd h h0, fun _ => rfl⟩⟩
    · exact ⟨some ⟨g, 0, none⟩, cap, rfl, ⟨hnc, fun h => absurd h h0, fun h => by cases h⟩⟩
theorem wpList_bd_slG {w w0 : World} {ops : Array Oper} {rest : List Oper} {o : Oper} {a : Act} {Q : Exit → Act → World → Prop} (hgd : o.guard = none) (s x : Operand) (ho : o.op = .call { callee := .builtin .append, args := #[s, x], argTypes := #[25, 25] }) (B : Nat) (v : Value) (out : List Int) (hs : a.eval s = v) (h : Bd w0 w B v out)
    (ax : Option Addr) (cx : Nat) (l : List Int) (hx : a.eval x = .slice ax l.length cx) (hS : Sl w ax cx l) (hl : out.length + l.length ≤ 1000000)
    (hK : ∀ v' w', Bd w0 w' B v' (out ++ l) → w.grownBy w' v.ownBlock → wpList Tryd.prog ops Q rest (a.put o.dst v') w') : wpList Tryd.prog ops Q (o :: rest) a w := by
  obtain ⟨i5, hi, hz0, hz1, hz2⟩ := info_parts Tryd.info5
  cases ax with
  | none =>
    have hc : cx = 0 := hS.nil rfl
    have hcl := hS.capl
    obtain rfl : l = [] := List.length_eq_zero_iff.1 (by omega)
    subst hc
    refine wpList_plain hgd fun K hK' => ?_
    have hr := run_append_owned_none (P := Tryd.prog) w B 25 o.type 5 i5 1 Tryd.underlying25 hi v _ _ h.own
    unfold Oper.wp execOp
    simp only [List.length_nil] at hx
    simp only [ho, resolve, invoke, builtin, Sem.run_bind, Sem.run_pure, Result.andThen_ok, List.map_toArray, List.map_cons, List.map_nil, hs, hx, hr]
    exact hK' _ _ (hK v w (by simpa using h) ⟨rfl, rfl, rfl, Nat.le_refl _, fun _ _ _ => rfl⟩)
  | some ad =>
    refine wpList_append_own_at w hgd s x 25 ho B 5 i5 (.int .u8 0) 1 1 Tryd.underlying25 hi hz0 hz1 hz2 rfl (by decide) v _ _ hs h.own ad l.length cx (l.map (Value.int .u8)) hx (by simp) ?_ (ints_oneCell .u8 l) (by unfold maxLen; omega) (by omega) h.le ?_
    · intro j z hj
      rw [List.getElem?_map] at hj
      cases hc : l[j]? with
      | none => rw [hc] at hj; cases hj
      | some y =>
        rw [hc] at hj; cases hj
        have hlt := (List.getElem?_eq_some_iff.1 hc).1
        obtain ⟨b, off, e1, e2, e3⟩ := hS.at_ (by omega)
        cases e1
        have := e3 j hlt
        rw [addr_add]
        simpa [List.getD_eq_getElem?_getD, hc] using this
    · intro v' w' h1 h2 h3 h4
      refine hK v' w' ⟨h.below.grown h2 h.le (fun k hk => (own_lt h.own k hk).1), ?_, Nat.le_trans h.le h2.size⟩ h2
      rw [List.length_append, List.map_append]
      exact h1
set_option maxRecDepth 20000 in
theorem conv_str {w : World} {a : Option Addr} {cap : Nat} {l : List Int} (h : Sl w a cap l) : (convert 25 9 (.slice a l.length cap)).run Tryd.prog w = .ok (.string ⟨(Lib.bytesOf l).toArray⟩) w := by
  by_cases h0 : 0 < l.length
  · obtain ⟨b, off, rfl, _, e3⟩ := h.at_ h0
    have := run_convert_bytes_arg (P := Tryd.prog) w 25 5 Tryd.underlying25 Tryd.underlying5 b off l.length cap l rfl e3 9 Tryd.underlying9
    rw [this]
    congr 2
  · have hl : l = [] := List.length_eq_zero_iff.1 (by omega)
    subst hl
    rw [List.length_nil, run_convert_bytes_string (P := Tryd.prog) w 25 9 5 a 0 cap Tryd.underlying25 Tryd.underlying5 Tryd.underlying9]
    cases a with
    | none => simp [Conv.bytesToString, Lib.bytesOf]; rfl
    | some ad => simp [Conv.bytesToString, loadCells, loadCellsFrom, Lib.bytesOf]; rfl
end Go.Proofs.YtdfihfmmfmoabaaDoor
