/- A region that draws its order and stores over what it has read; a row of one's own, one element set. -/
import Derived.Test.YtjgjeedablgmeaaDoorGrF
namespace Go.Proofs.YtjgjeedablgmeaaDoor
open Go.RowKit
set_option linter.unusedVariables false
set_option linter.unusedSimpArgs false
section
variable {P : Program} {md : Region.Mode} {ops : Array Oper} {Q : Exit → Act → World → Prop} {S : World → Prop} {br : Nat → Bool}
def anyB (P : Program) (md : Region.Mode) (ops : Array Oper) (Q : Exit → Act → World → Prop) (S : World → Prop) (br : Nat → Bool) : Nat → Array Bool → Act → World → Prop
  | 0, listed, a, w => Region.ready md ops listed = [] ∧ Q .normal a w
  | fuel + 1, listed, a, w =>
    (Region.ready md ops listed = [] → Q .normal a w) ∧
    ∀ i ∈ Region.ready md ops listed, wpOp P ops Q i (fun a' w' => (br i = true ∨ (S w → S w')) ∧ anyB P md ops Q S br fuel (listed.setIfInBounds i true) a' w') a w
theorem any_of_B : ∀ (fuel : Nat) (listed : Array Bool) (a : Act) (w : World), anyB P md ops Q S br fuel listed a w → wpAny P md ops Q fuel listed a w
  | 0, _, _, _, h => h
  | fuel + 1, _, _, _, h => ⟨h.1, fun i hi => wpOp_mono (fun a' w' h' => any_of_B fuel _ a' w' h'.2) (h.2 i hi)⟩
theorem B_first (V : World → Prop) {i : Nat} {oi : Oper} {v : Value} (hi : ops[i]? = some oi) (hsel : ∀ (j : Nat) (o : Oper) cs b, ops[j]? = some o → o.op ≠ .select cs b) (hV : ∀ j, waits md ops j i = false → ∀ w w', V w → (br j = true ∨ (S w → S w')) → V w')
    (hQ : ∀ c a w, Q (.panic c) (a.put oi.dst v) w → Q (.panic c) a w) :
    ∀ (fuel : Nat) (listed : Array Bool) (a : Act) (w : World),
      (∀ j oj, ops[j]? = some oj → j ≠ i → listed.getD j true = false → (∀ e ∈ oj.after, Region.binds md e = true → e.on ≠ i) → oi.apart ops oj = true) →
      i ∈ Region.ready md ops listed → YieldsIf P ops V oi v a → V w →
      anyB P md ops Q S br fuel (listed.setIfInBounds i true) (a.put oi.dst v) w → anyB P md ops Q S br (fuel + 1) listed a w := by
  intro fuel
  induction fuel with
  | zero =>
    intro listed a w _ hr hy hS H
    refine ⟨fun h => (by rw [h] at hr; cases hr), fun j hj => ?_⟩
    by_cases hji : j = i
    · subst hji; exact hy.wpOp hi hS ⟨.inr (fun h => h), H⟩
    · have := ready_mono hj hji
      rw [H.1] at this
      cases this
  | succ fuel ih =>
    intro listed a w hfree hr hy hS H
    refine ⟨fun h => (by rw [h] at hr; cases hr), fun j hj => ?_⟩
    by_cases hji : j = i
    · subst hji; exact hy.wpOp hi hS ⟨.inr (fun h => h), H⟩
    · have h1 := H.2 j (ready_mono hj hji)
      obtain ⟨hjun, oj, hoj, hall⟩ := mem_ready.1 hj
      have hnot : ∀ e ∈ oj.after, Region.binds md e = true → e.on ≠ i := fun e he hb heq => by
        have g1 := hall e he hb
        have g0 := (mem_ready.1 hr).1
        rw [heq] at g1
        rcases Nat.lt_or_ge i listed.size with h' | h'
        · simp [h'] at g0 g1; rw [g0] at g1; cases g1
        · simp [Array.getElem?_eq_none h'] at g1
      have hjn : waits md ops j i = false := by
        rw [Bool.eq_false_iff]
        intro hn
        unfold waits at hn
        rw [hoj] at hn
        simp only [Array.any_eq_true] at hn
        obtain ⟨k, hk, hk2⟩ := hn
        simp only [Bool.and_eq_true, beq_iff_eq] at hk2
        exact hnot _ (Array.getElem_mem hk) hk2.1 hk2.2
      have h2 := wpOp_putIf hoj (hfree j oj hoj hji hjun hnot) (fun cs b => hsel i oi cs b hi) (fun cs b => hsel j oj cs b hoj) hQ hy h1
      have hfree' : ∀ k ok, ops[k]? = some ok → k ≠ i → (listed.setIfInBounds j true).getD k true = false →
          (∀ e ∈ ok.after, Region.binds md e = true → e.on ≠ i) → oi.apart ops ok = true := fun k ok hk hki hun hno => by
        refine hfree k ok hk hki ?_ hno
        by_cases hjk : j = k
        · subst hjk; exact hjun
        · rw [getD_set_ne true hjk] at hun; exact hun
      refine wpOp_mono (fun a' w' h3 => ⟨h3.2.1, ?_⟩) h2
      have hS' : V w' := hV j hjn w w' hS h3.2.1
      refine ih (listed.setIfInBounds j true) a' w' hfree' (ready_mono hr (Ne.symm hji)) h3.1 hS' ?_
      rw [Array.setIfInBounds_comm _ _ hji]
      exact h3.2.2
end
/-- A read of what is stored over: each of those stores waits for it. -/
theorem takeB {P : Program} {md : Region.Mode} {Q : Exit → Act → World → Prop} {S : World → Prop} {br : Nat → Bool} {l : List Oper} {i : Nat} {oi : Oper} {v : Value} {fuel : Nat} {listed : Array Bool} {a : Act} {w : World} (hi : l[i]? = some oi)
    (hs : Region.noSelect l.toArray = true) (hf : Region.free md l.toArray listed i = true) (hr : (Region.ready md l.toArray listed).contains i = true) (hn : ((List.range l.length).all fun j => !br j || waits md l.toArray j i) = true)
    (hQ : ∀ c a w, Q (.panic c) (a.put oi.dst v) w → Q (.panic c) a w) (hy : YieldsIf P l.toArray S oi v a) (hS : S w)
    (h : anyB P md l.toArray Q S br fuel (listed.setIfInBounds i true) (a.put oi.dst v) w) : anyB P md l.toArray Q S br (fuel + 1) listed a w := by
  have hi' : l.toArray[i]? = some oi := by rw [List.getElem?_toArray]; exact hi
  refine B_first S hi' (Region.noSelect_spec hs) (fun j hw w0 w1 hs0 h0 => h0.resolve_left (fun hb => ?_) hs0) hQ fuel listed a w (Region.free_spec hi' hf) (by simpa using hr) hy hS h
  by_cases hj : j < l.length
  · have := List.all_eq_true.1 hn j (List.mem_range.2 hj)
    rw [hb, hw] at this
    cases this
  · unfold waits at hw
    rw [List.getElem?_toArray, List.getElem?_eq_none (by omega)] at hw
    cases hw
/-- What reads no memory may come at any time. -/
theorem takeT {P : Program} {md : Region.Mode} {Q : Exit → Act → World → Prop} {br : Nat → Bool} {S : World → Prop} {l : List Oper} {i : Nat} {oi : Oper} {v : Value} {fuel : Nat} {listed : Array Bool} {a : Act} {w : World} (hi : l[i]? = some oi)
    (hs : Region.noSelect l.toArray = true) (hf : Region.free md l.toArray listed i = true) (hr : (Region.ready md l.toArray listed).contains i = true)
    (hQ : ∀ c a w, Q (.panic c) (a.put oi.dst v) w → Q (.panic c) a w) (hy : YieldsIf P l.toArray (fun _ => True) oi v a)
    (h : anyB P md l.toArray Q S br fuel (listed.setIfInBounds i true) (a.put oi.dst v) w) : anyB P md l.toArray Q S br (fuel + 1) listed a w := by
  have hi' : l.toArray[i]? = some oi := by rw [List.getElem?_toArray]; exact hi
  exact B_first (fun _ => True) hi' (Region.noSelect_spec hs) (fun _ _ _ _ _ _ => trivial) hQ fuel listed a w (Region.free_spec hi' hf) (by simpa using hr) hy trivial h
theorem readyB1 {P : Program} {md : Region.Mode} {Q : Exit → Act → World → Prop} {S : World → Prop} {br : Nat → Bool} {i fuel : Nat} {l : List Oper} {o : Oper} {listed : Array Bool} {a : Act} {w : World} (hr : Region.ready md l.toArray listed = [i]) (ho : l[i]? = some o)
    (h : ∀ K' : Act → World → Prop, Shut (∀ a w', (br i = true ∨ (S w → S w')) → anyB P md l.toArray Q S br fuel (listed.setIfInBounds i true) a w' → K' a w') → if Region.wanted o (yielded l.toArray a.tmps) = true then Oper.wp P o a w K' Q else K' (a.put o.dst undef) w) : anyB P md l.toArray Q S br (fuel + 1) listed a w :=
  ⟨fun h0 => (by rw [hr] at h0; cases h0), fun j hj => by
    rw [hr] at hj
    obtain rfl := List.mem_singleton.1 hj
    have ho' : l.toArray[j]? = some o := by rw [List.getElem?_toArray]; exact ho
    exact wpOp_step ho' (fun K' hK => h K' (fun a w hS hW => hK a w ⟨hS, hW⟩))⟩
theorem doneB {P : Program} {md : Region.Mode} {Q : Exit → Act → World → Prop} {S : World → Prop} {br : Nat → Bool} {ops : Array Oper} {listed : Array Bool} {a : Act} {w : World} (hr : Region.ready md ops listed = []) (h : Q .normal a w) :
    ∀ fuel, anyB P md ops Q S br fuel listed a w
  | 0 => ⟨hr, h⟩
  | _ + 1 => ⟨fun _ => h, by rw [hr]; simp⟩
theorem region_B {P : Program} {Q : Exit → Act → World → Prop} {id : Nat} {a : Act} {w : World} {ops : Array Oper} (S : World → Prop) (br : Nat → Bool) (hm : P.follows .mixedOrders = true)
    (h : anyB P .any ops Q S br ops.size (Array.replicate ops.size false) a w.drew) : (Code.region id ops true).wp P Q a w :=
  wp_region_any hm (any_of_B _ _ _ _ h)
def setAt : List Value → Nat → List Value → List Value
  | l, _, [] => l
  | l, o, v :: vs => setAt (l.set o v) (o + 1) vs
theorem setAt_mid : ∀ (new old pre rest : List Value), new.length = old.length → setAt (pre ++ (old ++ rest)) pre.length new = pre ++ (new ++ rest)
  | [], [], pre, rest, _ => rfl
  | v :: new, x :: old, pre, rest, h => by
    show setAt ((pre ++ (x :: (old ++ rest))).set pre.length v) (pre.length + 1) new = _
    rw [List.set_append_right _ _ (Nat.le_refl _), Nat.sub_self, List.set_cons_zero]
    have := setAt_mid new old (pre ++ [v]) rest (by simpa using h)
    simpa using this
theorem owns_set {base : Nat} {e : TypeId} {size g n cap : Nat} : ∀ (vs : List Value) (o : Nat) (w : World) (xs : List Value), w.ownsRow base e size (.slice (some ⟨g, 0, none⟩) n cap) n xs → (w.setCells g o vs).ownsRow base e size (.slice (some ⟨g, 0, none⟩) n cap) n (setAt xs o vs) ∧ w.grownBy (w.setCells g o vs) (some g)
  | [], o, w, xs, h => ⟨h, rfl, rfl, rfl, Nat.le_refl _, fun _ _ _ => rfl⟩
  | v :: vs, o, w, xs, h => by
    have h1 := h.stored o v
    have h2 := owns_set vs (o + 1) (w.setCell ⟨g, o, none⟩ v) _ h1.1
    exact ⟨h2.1, h1.2.trans h2.2⟩
section
variable {α : Type} {enc : α → List Value} {k : Nat}
theorem set_flat (l : List α) (i : Nat) (x : α) (hi : i < l.length) (hw : ∀ y ∈ l, (enc y).length = k) (hx : (enc x).length = k) : setAt (l.flatMap enc) (i * k) (enc x) = (l.set i x).flatMap enc := by
  have e1 : l = l.take i ++ l[i] :: l.drop (i + 1) := by rw [← List.drop_eq_getElem_cons hi, List.take_append_drop]
  have e2 : l.set i x = l.take i ++ x :: l.drop (i + 1) := List.set_eq_take_append_cons_drop.trans (by rw [if_pos hi])
  have hl : ((l.take i).flatMap enc).length = i * k := by
    rw [fX_len (k := k) _ (fun y hy => hw y (List.mem_of_mem_take hy)), List.length_take, Nat.min_eq_left (Nat.le_of_lt hi)]
  rw [e2]
  conv => lhs; rw [e1]
  rw [List.flatMap_append, List.flatMap_append, List.flatMap_cons, List.flatMap_cons, ← hl, setAt_mid _ _ _ _ (by rw [hx, hw _ (List.getElem_mem hi)])]
theorem Bx.set {e : TypeId} {w0 w : World} {B g n cap : Nat} {l : List α} (h : Bx enc k e w0 w B (.slice (some ⟨g, 0, none⟩) n cap) l) (hn : l.length = n) (hB : B ≤ g) (i : Nat) (x : α) (hi : i < l.length) (hw : ∀ y ∈ l, (enc y).length = k) (hx : (enc x).length = k) :
    Bx enc k e w0 (w.setCells g (i * k) (enc x)) B (.slice (some ⟨g, 0, none⟩) n cap) (l.set i x) ∧ w.grownBy (w.setCells g (i * k) (enc x)) (some g) := by
  subst hn
  have h1 := owns_set (enc x) (i * k) w _ h.own
  rw [set_flat l i x hi hw hx] at h1
  exact ⟨⟨h.below.grown h1.2 h.le (fun k hk => by cases hk; exact hB), by rw [List.length_set]; exact h1.1, Nat.le_trans h.le h1.2.size⟩, h1.2⟩
theorem Bx.there {e : TypeId} {w0 w : World} {B g n cap : Nat} {l : List α} (h : Bx enc k e w0 w B (.slice (some ⟨g, 0, none⟩) n cap) l) (hn : l.length = n) (i : Nat) (hi : i < l.length) : w.there g (i * k) k := by
  subst hn
  intro j hj
  have hlt : i * k + j < l.length * k := by
    have : (i + 1) * k ≤ l.length * k := Nat.mul_le_mul_right k hi
    rw [Nat.add_mul] at this
    omega
  refine ⟨?_, h.own.frozenAt _⟩
  rw [h.own.cellAt _ hlt, List.getElem?_eq_getElem (by rw [h.own.1]; exact hlt)]
  rfl
end
/-- Two of a list change places. -/
def swp {α : Type} (l : List α) (i j : Nat) (d : α) : List α := (l.set i (l.getD j d)).set j (l.getD i d)
theorem swp_perm {α : Type} (l : List α) (i j : Nat) (d : α) (hi : i < l.length) (hj : j < l.length) : (swp l i j d).Perm l := by
  unfold swp
  rw [List.getD_eq_getElem?_getD, List.getD_eq_getElem?_getD, List.getElem?_eq_getElem hi, List.getElem?_eq_getElem hj]
  exact List.set_set_perm hi hj
end Go.Proofs.YtjgjeedablgmeaaDoor
