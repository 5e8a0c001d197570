/- Bytes and texts in memory; the document's 'Lines'. -/
import Derived.Test.YtakddciegnkpdaaGrA
import Derived.Test.YtakddciegnkpdaaDfP
import Derived.Laws.IdiomStrings
import Derived.Laws.BytesArg
namespace Go.Proofs.Ytakddciegnkpdaa
open Go.RowKit
set_option linter.unusedVariables false
set_option linter.unusedSimpArgs false
theorem wpList_run {P : Program} {ops : Array Oper} {rest : List Oper} {o : Oper} {a : Act} {w w' : World} {Q : Exit → Act → World → Prop} (hg : o.guard = none) (v : Value) (hr : (execOp a.eval o).run P w = .ok (.value v) w') (h : wpList P ops Q rest (a.put o.dst v) w') : wpList P ops Q (o :: rest) a w := by
  refine wpList_plain hg fun K hK => ?_
  unfold Oper.wp
  rw [hr]
  exact hK _ _ h
theorem wpList_skip {P : Program} {ops : Array Oper} {rest : List Oper} {o : Oper} {a : Act} {w w' : World} {Q : Exit → Act → World → Prop} (hg : o.guard = none) (hr : (execOp a.eval o).run P w = .ok .skip w') (h : wpList P ops Q rest (a.put o.dst undef) w') : wpList P ops Q (o :: rest) a w := by
  refine wpList_plain hg fun K hK => ?_
  unfold Oper.wp
  rw [hr]
  exact hK _ _ h
theorem wpList_bS {P : Program} {ops : Array Oper} {rest : List Oper} {o : Oper} {a : Act} {w w' : World} {Q : Exit → Act → World → Prop} (hg : o.guard = none) (t len : Nat) (x : Operand) (ho : o.op = .buildSlice t len #[(0, x)]) (u v : Value) (hx : a.eval x = u)
    (hr : (Instr.buildSlice t len #[(0, u)]).run P w = .ok v w') (h : wpList P ops Q rest (a.put o.dst v) w') : wpList P ops Q (o :: rest) a w := by
  refine wpList_run hg v ?_ h
  unfold execOp
  simp [ho, hx, hr, Result.andThen]
theorem exec_lookup {P : Program} {o : Oper} {a : Act} {w w' : World} {t : TypeId} {m k : Operand} {b : Bool} (ho : o.op = .lookup t m k b) {mv kv v : Value} (hm : a.eval m = mv) (hk : a.eval k = kv) (hr : (Instr.lookup t mv kv b).run P w = .ok v w') : (execOp a.eval o).run P w = .ok (.value v) w' := by
  unfold execOp
  simp [ho, hm, hk, hr, Result.andThen]
theorem exec_update {P : Program} {o : Oper} {a : Act} {w w' : World} {t : TypeId} {m k x : Operand} (ho : o.op = .mapUpdate t m k x) {mv kv v : Value} (hm : a.eval m = mv) (hk : a.eval k = kv) (hx : a.eval x = v) (hr : (Instr.mapUpdate t mv kv v).run P w = .ok () w') : (execOp a.eval o).run P w = .ok .skip w' := by
  unfold execOp
  simp [ho, hm, hk, hx, hr, Result.andThen]
/-- The address behind the first so many. -/
def adX (k : Nat) (a : Option Addr) (cap j : Nat) : Option Addr := if cap = j then a else a.map (·.add (j * k))
section
variable {α : Type} {enc : α → List Value} {k : Nat} {d : α}
theorem Px.mid {w : World} {a : Option Addr} {cap : Nat} {l : List α} (h : Px enc k d w a cap l) (i j : Nat) (hij : i ≤ j) (hj : j ≤ l.length) : Px enc k d w (adX k a cap i) (cap - i) ((l.drop i).take (j - i)) :=
  ⟨by rw [List.length_take, List.length_drop]; have := h.capl; omega, fun h0 => by
    rw [List.length_take, List.length_drop] at h0
    obtain ⟨b, off, e1, e2, e3⟩ := h.at_ (by omega)
    subst e1
    have hc := h.capl
    refine ⟨b, off + i * k, by unfold adX; rw [if_neg (by omega), Option.map_some, addr_add], e2, fun q hq => ?_⟩
    rw [List.length_take, List.length_drop] at hq
    have := e3 (i + q) (by omega)
    rw [show off + i * k + q * k = off + (i + q) * k by rw [Nat.add_mul]; omega]
    rw [show ((l.drop i).take (j - i)).getD q d = l.getD (i + q) d by rw [List.getD_eq_getElem?_getD, List.getD_eq_getElem?_getD, List.getElem?_take, if_pos (by omega), List.getElem?_drop]]
    exact this, fun h2 => by
    have : a = none := by
      unfold adX at h2
      split at h2
      · exact h2
      · cases a with
        | none => rfl
        | some p => cases h2
    have := h.nil this
    omega⟩
theorem Px.from {w : World} {a : Option Addr} {cap : Nat} {l : List α} (h : Px enc k d w a cap l) (i : Nat) (hi : i ≤ l.length) : Px enc k d w (adX k a cap i) (cap - i) (l.drop i) := by
  have := h.mid i l.length hi (Nat.le_refl _)
  rwa [List.take_of_length_le (by rw [List.length_drop]; omega)] at this
end
def encB (x : UInt8) : List Value := [.int .u8 (x.toNat : Int)]
/-- Bytes in memory. -/
abbrev PB (w : World) (a : Option Addr) (cap : Nat) (s : Str) : Prop := Px encB 1 0 w a cap s
def sV (s : Str) : Value := .string ⟨s.toArray⟩
def encS (s : Str) : List Value := [sV s]
/-- Texts in memory. -/
abbrev PS (w : World) (a : Option Addr) (cap : Nat) (l : List Str) : Prop := Px encS 1 [] w a cap l
/-- Texts of one's own. -/
abbrev BS (w0 w : World) (B : Nat) (v : Value) (l : List Str) : Prop := Bx encS 1 9 w0 w B v l
theorem encS_len (s : Str) : (encS s).length = 1 := rfl
theorem encS_one (s : Str) : ∀ v ∈ encS s, v.oneCell' = true := fun v hv => by rw [List.mem_singleton.1 hv]; rfl
theorem Try.info9 : (Try.prog.info? 9).map (fun i => (i.zero, i.size, i.bytes)) = some (some (.string ⟨#[]⟩), 1, 16) := by kernel_rfl
theorem und24 : Try.prog.underlying 36 = some (.slice 9) := by kernel_rfl
theorem txt_len (l : Str) : (⟨l.toArray⟩ : ByteArray).size = l.length := by simp [ByteArray.size]
theorem str_inj {x y : Str} (h : sV x = sV y) : x = y := by
  unfold sV at h
  injection h with h
  have := congrArg (fun b : ByteArray => b.data.toList) h
  simpa using this
theorem ba_eq (x y : Str) : (⟨x.toArray⟩ : ByteArray) = ⟨y.toArray⟩ ↔ x = y := ⟨fun h => str_inj (by unfold sV; rw [h]), fun h => by rw [h]⟩
theorem ext_txt (s : Str) (i j : Nat) : (⟨s.toArray⟩ : ByteArray).extract i j = ⟨((s.drop i).take (j - i)).toArray⟩ := by
  apply ByteArray.ext
  simp [ByteArray.data_extract, List.extract]
theorem PB.cell {w : World} {b off cap : Nat} {s : Str} (h : PB w (some ⟨b, off, none⟩) cap s) (i : Nat) (hi : i < s.length) : w.cell? ⟨b, off + i, none⟩ = some (.int .u8 ((s.getD i 0).toNat : Int)) := by
  obtain ⟨b', off', e1, _, e3⟩ := h.at_ (by omega)
  cases e1
  have := e3 i hi 0 _ rfl
  simpa using this
theorem PS.cell {w : World} {b off cap : Nat} {s : List Str} (h : PS w (some ⟨b, off, none⟩) cap s) (i : Nat) (hi : i < s.length) : w.cell? ⟨b, off + i, none⟩ = some (sV (s.getD i [])) := by
  obtain ⟨b', off', e1, _, e3⟩ := h.at_ (by omega)
  cases e1
  have := e3 i hi 0 _ rfl
  simpa using this
theorem conv_str {w : World} {a : Option Addr} {cap : Nat} {s : Str} (h : PB w a cap s) : (convert 22 9 (.slice a s.length cap)).run Try.prog w = .ok (sV s) w := by
  cases a with
  | none =>
    have h0 : s = [] := List.length_eq_zero_iff.1 (by have := h.nil rfl; have := h.capl; omega)
    subst h0
    rw [run_convert_bytes_string w 22 9 5 none _ cap Try.underlying22 Try.underlying5 Try.underlying9]
    rfl
  | some p =>
    by_cases h0 : s.length = 0
    · obtain rfl : s = [] := List.length_eq_zero_iff.1 h0
      exact run_convert_bytes_back w 22 9 5 p cap [] Try.underlying22 Try.underlying5 Try.underlying9 (fun j hj => absurd hj (by simp))
    · obtain ⟨b, off, e1, _⟩ := h.at_ (by omega)
      cases e1
      refine run_convert_bytes_back w 22 9 5 _ cap s Try.underlying22 Try.underlying5 Try.underlying9 (fun j hj => ?_)
      rw [addr_add, PB.cell h j hj, List.getD_eq_getElem?_getD, List.getElem?_eq_getElem hj]
      rfl
theorem elem22 : Try.prog.underlying 22 = some (.slice (Try.prog.elem 22)) := by kernel_rfl
theorem size22e (w : World) : (Go.sizeOf (Try.prog.elem 22)).run Try.prog w = .ok 1 w := by kernel_rfl
theorem sl22 (a : Option Addr) (n cap i j : Nat) (J : Int) (hJ : J = (j : Int)) (hij : i ≤ j) (hj : j ≤ cap) (w : World) : (Instr.slice 22 (.slice a n cap) (some (.int .i64 i)) (some (.int .i64 J)) none).run Try.prog w = .ok (.slice (adX 1 a cap i) (j - i : Nat) (cap - i : Nat)) w := by
  subst hJ
  rw [run_slice_lh w 22 a n cap elem22 .i64 .i64 i j (by omega) (by omega) (by omega), size22e, Result.andThen_ok, sliced]
  rfl
theorem run_build24 (s : Str) (w : World) : (Instr.buildSlice 36 1 #[(0, sV s)]).run Try.prog w = .ok (.slice (some ⟨w.heap.size, 0, none⟩) 1 1) (w.alloc (.cells #[sV s] 9)) := by
  obtain ⟨i, hq, hz, hs, _⟩ := info_parts Try.info9
  refine run_buildSlice w 36 9 1 _ #[sV s] i _ Try.underlying36 hq hz (by rw [hs]; decide) (by rw [hs]; decide) ?_
  rw [hs]
  kernel_rfl
/-- A text, in a slice of it alone. -/
theorem ps_one (s : Str) (w : World) : PS (w.alloc (.cells #[sV s] 9)) (some ⟨w.heap.size, 0, none⟩) 1 [s] :=
  ⟨by simp, fun _ => ⟨w.heap.size, 0, rfl, by simp, fun i hi => by
    obtain rfl : i = 0 := by simp at hi; omega
    have := range_row (cs := [sV s]) (heap_alloc_new w (.cells #[sV s] 9))
    simpa [encS] using this⟩, fun h => by cases h⟩
/-- Texts, of one's own. -/
def PostS (l : List Str) (w : World) (e : Ending) (w' : World) : Prop := ∃ v, e = .returned v ∧ BS w w' w.heap.size v l
theorem lns_step (s : Str) (f i : Nat) (L : List Str) (h : lns s = L ++ lns (s.drop f)) (hfi : f ≤ i) (hi : i < s.length) (hno : (10 : UInt8) ∉ (s.drop f).take (i - f)) (he : s.getD i 0 = 10 ∨ i + 1 = s.length) :
    lns s = (L ++ [(s.drop f).take (i + 1 - f)]) ++ lns (s.drop (i + 1)) := by
  have hgi : s[i]? = some (s.getD i 0) := by rw [List.getD_eq_getElem?_getD, List.getElem?_eq_getElem hi]; rfl
  have hdi : (s.drop f)[i - f]? = some (s.getD i 0) := by rw [List.getElem?_drop, show f + (i - f) = i by omega]; exact hgi
  have ht : (s.drop f).take (i + 1 - f) = (s.drop f).take (i - f) ++ [s.getD i 0] := by
    rw [show i + 1 - f = (i - f) + 1 by omega, List.take_add_one, hdi]; rfl
  have hd : (s.drop f).drop (i + 1 - f) = s.drop (i + 1) := by rw [List.drop_drop, show f + (i + 1 - f) = i + 1 by omega]
  by_cases h10 : s.getD i 0 = 10
  · have e : s.drop f = (s.drop f).take (i - f) ++ 10 :: s.drop (i + 1) := by
      have := List.take_append_drop (i + 1 - f) (s.drop f)
      rw [ht, hd, h10, List.append_assoc] at this
      exact this.symm
    have := lns_nl _ (s.drop (i + 1)) hno
    rw [← e] at this
    rw [h, this, ht, h10, List.append_assoc]
    rfl
  · have hl := he.resolve_left h10
    have e0 : s.drop (i + 1) = [] := List.drop_of_length_le (by omega)
    have e1 : (s.drop f).take (i + 1 - f) = s.drop f := List.take_of_length_le (by rw [List.length_drop]; omega)
    have hn : (10 : UInt8) ∉ s.drop f := by
      rw [← e1, ht]
      intro hm
      rcases List.mem_append.1 hm with hm | hm
      · exact hno hm
      · exact h10 (List.mem_singleton.1 hm).symm
    have hne : s.drop f ≠ [] := by intro h2; have := congrArg List.length h2; rw [List.length_drop] at this; simp at this; omega
    rw [h, lns_last _ hne hn, e1, e0, lns_nil, List.append_nil]
theorem lns_go (s : Str) (f i : Nat) (hfi : f ≤ i) (hi : i < s.length) (hno : (10 : UInt8) ∉ (s.drop f).take (i - f)) (h10 : s.getD i 0 ≠ 10) : (10 : UInt8) ∉ (s.drop f).take (i + 1 - f) := by
  have hdi : (s.drop f)[i - f]? = some (s.getD i 0) := by rw [List.getElem?_drop, show f + (i - f) = i by omega, List.getD_eq_getElem?_getD, List.getElem?_eq_getElem hi]; rfl
  rw [show i + 1 - f = (i - f) + 1 by omega, List.take_add_one, hdi]
  intro hm
  rcases List.mem_append.1 hm with hm | hm
  · exact hno hm
  · exact h10 (by have : (10 : UInt8) = s.getD i 0 := by simpa using hm
                  exact this.symm)
end Go.Proofs.Ytakddciegnkpdaa
