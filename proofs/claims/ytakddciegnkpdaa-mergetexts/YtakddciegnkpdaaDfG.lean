/- Storing into what is one's own; a frame but for one block. -/
import Derived.Test.YtakddciegnkpdaaDfN
namespace Go.Proofs.Ytakddciegnkpdaa
open Go.RowKit
set_option linter.unusedVariables false
set_option linter.unusedSimpArgs false
def setAt : List Value → Nat → List Value → List Value
  | l, _, [] => l
  | l, o, v :: vs => setAt (l.set o v) (o + 1) vs
theorem setAt_mid : ∀ (new old pre rest : List Value), new.length = old.length → setAt (pre ++ (old ++ rest)) pre.length new = pre ++ (new ++ rest)
  | [], [], pre, rest, _ => rfl
  | v :: new, x :: old, pre, rest, h => by
    show setAt ((pre ++ (x :: (old ++ rest))).set pre.length v) (pre.length + 1) new = _
    rw [List.set_append_right _ _ (Nat.le_refl _), Nat.sub_self, List.set_cons_zero]
    have := setAt_mid new old (pre ++ [v]) rest (by simpa using h)
    simpa using this
theorem owns_set {base : Nat} {e : TypeId} {size g n cap : Nat} : ∀ (vs : List Value) (o : Nat) (w : World) (xs : List Value), w.ownsRow base e size (.slice (some ⟨g, 0, none⟩) n cap) n xs → (w.setCells g o vs).ownsRow base e size (.slice (some ⟨g, 0, none⟩) n cap) n (setAt xs o vs) ∧ w.grownBy (w.setCells g o vs) (some g)
  | [], o, w, xs, h => ⟨h, rfl, rfl, rfl, Nat.le_refl _, fun _ _ _ => rfl⟩
  | v :: vs, o, w, xs, h => by
    have h1 := h.stored o v
    have h2 := owns_set vs (o + 1) (w.setCell ⟨g, o, none⟩ v) _ h1.1
    exact ⟨h2.1, h1.2.trans h2.2⟩
section
variable {α : Type} {enc : α → List Value} {k : Nat}
theorem set_flat (l : List α) (i : Nat) (x : α) (hi : i < l.length) (hw : ∀ y ∈ l, (enc y).length = k) (hx : (enc x).length = k) : setAt (l.flatMap enc) (i * k) (enc x) = (l.set i x).flatMap enc := by
  have e1 : l = l.take i ++ l[i] :: l.drop (i + 1) := by rw [← List.drop_eq_getElem_cons hi, List.take_append_drop]
  have e2 : l.set i x = l.take i ++ x :: l.drop (i + 1) := List.set_eq_take_append_cons_drop.trans (by rw [if_pos hi])
  have hl : ((l.take i).flatMap enc).length = i * k := by
    rw [fX_len (k := k) _ (fun y hy => hw y (List.mem_of_mem_take hy)), List.length_take, Nat.min_eq_left (Nat.le_of_lt hi)]
  rw [e2]
  conv => lhs; rw [e1]
  rw [List.flatMap_append, List.flatMap_append, List.flatMap_cons, List.flatMap_cons, ← hl, setAt_mid _ _ _ _ (by rw [hx, hw _ (List.getElem_mem hi)])]
theorem Bx.set {e : TypeId} {w0 w : World} {B g n cap : Nat} {l : List α} (h : Bx enc k e w0 w B (.slice (some ⟨g, 0, none⟩) n cap) l) (hn : l.length = n) (hB : B ≤ g) (i : Nat) (x : α) (hi : i < l.length) (hw : ∀ y ∈ l, (enc y).length = k) (hx : (enc x).length = k) :
    Bx enc k e w0 (w.setCells g (i * k) (enc x)) B (.slice (some ⟨g, 0, none⟩) n cap) (l.set i x) ∧ w.grownBy (w.setCells g (i * k) (enc x)) (some g) := by
  subst hn
  have h1 := owns_set (enc x) (i * k) w _ h.own
  rw [set_flat l i x hi hw hx] at h1
  exact ⟨⟨h.below.grown h1.2 h.le (fun k hk => by cases hk; exact hB), by rw [List.length_set]; exact h1.1, Nat.le_trans h.le h1.2.size⟩, h1.2⟩
theorem Bx.there {e : TypeId} {w0 w : World} {B g n cap : Nat} {l : List α} (h : Bx enc k e w0 w B (.slice (some ⟨g, 0, none⟩) n cap) l) (hn : l.length = n) (i : Nat) (hi : i < l.length) : w.there g (i * k) k := by
  subst hn
  intro j hj
  have hlt : i * k + j < l.length * k := by
    have : (i + 1) * k ≤ l.length * k := Nat.mul_le_mul_right k hi
    rw [Nat.add_mul] at this
    omega
  refine ⟨?_, h.own.frozenAt _⟩
  rw [h.own.cellAt _ hlt, List.getElem?_eq_getElem (by rw [h.own.1]; exact hlt)]
  rfl
end

end Go.Proofs.Ytakddciegnkpdaa
