/- Edits of one kind, plainly. -/
import Derived.Test.YtakddciegnkpdaaEdY
namespace Go.Proofs.Ytakddciegnkpdaa
open Go.RowKit
set_option linter.unusedVariables false
set_option linter.unusedSimpArgs false
/-- What the document's 'Edits' gives. -/
def PostX (l : List Ed) (w : World) (e : Ending) (w' : World) : Prop := ∃ v, e = .returned v ∧ BE 52 w w' w.heap.size v l
theorem mk_drop (k : Nat) (l : List Str) (i : Nat) (h : i < l.length) : mk k (l.drop i) = (k, l.getD i []) :: mk k (l.drop (i + 1)) := by
  unfold mk
  rw [List.drop_eq_getElem_cons h, List.getD_eq_getElem?_getD, List.getElem?_eq_getElem h]
  rfl
theorem mk_none (k : Nat) (l : List Str) (i : Nat) (h : l.length ≤ i) : mk k (l.drop i) = [] := by rw [List.drop_of_length_le h]; rfl
end Go.Proofs.Ytakddciegnkpdaa
