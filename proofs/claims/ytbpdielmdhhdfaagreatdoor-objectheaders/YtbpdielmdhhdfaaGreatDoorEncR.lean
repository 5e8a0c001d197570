/- The document's side of chapter 3: 'Encode'. -/
import Derived.Test.YtbpdielmdhhdfaaGreatDoorEncA
import Derived.Test.YtbpdielmdhhdfaaGreatDoorDcA
import Derived.Test.YtbpdielmdhhdfaaGreatDoorIdA
import Derived.Lib.AppendStr
import Derived.Maps.AppendAt
namespace Go.Proofs.YtbpdielmdhhdfaaGreatDoor
open Go.RowKit
set_option linter.unusedVariables false
set_option linter.unusedSimpArgs false
/-- Bytes of one's own, made since. -/
structure Bd (w0 w : World) (B : Nat) (v : Value) (out : List Int) : Prop where
  below : Below B w0 w
  own : w.ownsRow B 5 1 v out.length (out.map (Value.int .u8))
  le : B ≤ w.heap.size
theorem Bd.alloc {w0 w : World} {B : Nat} {v : Value} {out : List Int} (h : Bd w0 w B v out) (o : Obj) : Bd w0 (w.alloc o) B v out :=
  ⟨h.below.alloc h.le o, h.own.alloc o, Nat.le_trans h.le (by simp)⟩
theorem bd_nil (w : World) (B : Nat) (h : B ≤ w.heap.size) : Bd w w B (.slice none 0 0) [] := ⟨Below.refl _ _, ⟨rfl, .inl ⟨rfl, rfl⟩⟩, h⟩
theorem sl_one (w : World) (c : Int) : Sl (w.alloc (.cells #[.int .u8 c] 5)) (some ⟨w.heap.size, 0, none⟩) 1 [c] :=
  ⟨by simp, fun _ => ⟨w.heap.size, 0, rfl, by simp, fun i hi => by
    have : i = 0 := by simpa using hi
    subst this
    simp⟩, fun h => by cases h⟩
theorem strCells_nums (l : List UInt8) : Lib.strCells ⟨l.toArray⟩ = (nums l).map (Value.int .u8) := by simp [Lib.strCells, nums]
section
variable {w w0 : World} {ops : Array Oper} {rest : List Oper} {o : Oper} {a : Act} {Q : Exit → Act → World → Prop}
theorem wpList_bd_str (hgd : o.guard = none) (s x : Operand) (ho : o.op = .call { callee := .builtin .append, args := #[s, x], argTypes := #[23, 9] }) (B : Nat) (v : Value) (out : List Int) (hs : a.eval s = v) (h : Bd w0 w B v out)
    (l : List UInt8) (hx : a.eval x = .string ⟨l.toArray⟩) (hl : out.length + l.length ≤ 1000000)
    (hK : ∀ v' w', Bd w0 w' B v' (out ++ nums l) → wpList Tryz.prog ops Q rest (a.put o.dst v') w') : wpList Tryz.prog ops Q (o :: rest) a w := by
  obtain ⟨i5, hi, hz0, hz1, hz2⟩ := info_parts Tryz.info5
  have hsz : (⟨l.toArray⟩ : ByteArray).size = l.length := by simp [ByteArray.size]
  refine Lib.wpList_append_own_string w hgd s x 23 9 ho B 5 i5 Tryz.underlying23 Tryz.underlying9 hi hz0 hz1 hz2 v out.length _ hs h.own ⟨l.toArray⟩ hx (by rw [hsz]; unfold maxLen; omega) (by rw [hsz]; omega) h.le ?_
  intro v' w' h1 h2 h3
  refine hK v' w' ⟨h.below.grown h2 h.le (fun k hk => (own_lt h.own k hk).1), ?_, Nat.le_trans h.le h2.size⟩
  rw [List.length_append, nums_len, List.map_append, ← strCells_nums]
  rw [hsz] at h1
  exact h1
theorem wpList_bd_sl (hgd : o.guard = none) (s x : Operand) (ho : o.op = .call { callee := .builtin .append, args := #[s, x], argTypes := #[23, 23] }) (B : Nat) (v : Value) (out : List Int) (hs : a.eval s = v) (h : Bd w0 w B v out)
    (ax : Option Addr) (cx : Nat) (l : List Int) (hx : a.eval x = .slice ax l.length cx) (hS : Sl w ax cx l) (hl : out.length + l.length ≤ 1000000)
    (hK : ∀ v' w', Bd w0 w' B v' (out ++ l) → wpList Tryz.prog ops Q rest (a.put o.dst v') w') : wpList Tryz.prog ops Q (o :: rest) a w := by
  obtain ⟨i5, hi, hz0, hz1, hz2⟩ := info_parts Tryz.info5
  cases ax with
  | none =>
    have hc : cx = 0 := hS.nil rfl
    have hcl := hS.capl
    obtain rfl : l = [] := List.length_eq_zero_iff.1 (by omega)
    subst hc
    refine wpList_plain hgd fun K hK' => ?_
    have hr := run_append_owned_none (P := Tryz.prog) w B 23 o.type 5 i5 1 Tryz.underlying23 hi v _ _ h.own
    unfold Oper.wp execOp
    simp only [List.length_nil] at hx
    simp only [ho, resolve, invoke, builtin, Sem.run_bind, Sem.run_pure, Result.andThen_ok, List.map_toArray, List.map_cons, List.map_nil, hs, hx, hr]
    exact hK' _ _ (hK v w (by simpa using h))
  | some ad =>
    refine wpList_append_own_at w hgd s x 23 ho B 5 i5 (.int .u8 0) 1 1 Tryz.underlying23 hi hz0 hz1 hz2 rfl (by decide) v _ _ hs h.own ad l.length cx (l.map (Value.int .u8)) hx (by simp) ?_ (ints_oneCell .u8 l) (by unfold maxLen; omega) (by omega) h.le ?_
    · intro j z hj
      rw [List.getElem?_map] at hj
      cases hc : l[j]? with
      | none => rw [hc] at hj; cases hj
      | some y =>
        rw [hc] at hj; cases hj
        have hlt := (List.getElem?_eq_some_iff.1 hc).1
        obtain ⟨b, off, e1, e2, e3⟩ := hS.at_ (by omega)
        cases e1
        have := e3 j hlt
        rw [addr_add]
        simpa [List.getD_eq_getElem?_getD, hc] using this
    · intro v' w' h1 h2 h3 h4
      refine hK v' w' ⟨h.below.grown h2 h.le (fun k hk => (own_lt h.own k hk).1), ?_, Nat.le_trans h.le h2.size⟩
      rw [List.length_append, List.map_append]
      exact h1
end
end Go.Proofs.YtbpdielmdhhdfaaGreatDoor
