/- Plain: how the document's 'side' goes through the edits. Rows of values in a block. -/
import Derived.Test.YtakddciegnkpdaaMgP
import Derived.Test.YtakddciegnkpdaaEdE
namespace Go.Proofs.Ytakddciegnkpdaa
open Go.RowKit
set_option linter.unusedVariables false
set_option linter.unusedSimpArgs false
theorem sdA_sn (P : List Ed) (e : Ed) : sdA (P ++ [e]) = sdA P ++ (if e.1 = 0 then [e.2] else if e.1 = 1 then [e.2] else []) := by
  rw [sdA_app]
  congr 1
theorem sdK_app : ∀ E F : List Ed, sdK (E ++ F) = sdK E ++ sdK F
  | [], _ => rfl
  | e :: r, F => by
    rw [List.cons_append, sdK, sdK, sdK_app r F]
    split
    · rfl
    · split <;> rfl
theorem sdK_sn (P : List Ed) (e : Ed) : sdK (P ++ [e]) = sdK P ++ (if e.1 = 0 then [true] else if e.1 = 1 then [false] else []) := by
  rw [sdK_app]
  congr 1
theorem sdI_snA : ∀ (P : List Ed) (e : Ed), e.1 ≤ 1 → sdI (P ++ [e]) = sdI P ++ [[]]
  | [], e, h => by
    rw [List.nil_append]
    by_cases h0 : e.1 = 0
    · simp [sdI, h0]
    · have h1 : e.1 = 1 := by omega
      simp [sdI, h1]
  | p :: P, e, h => by
    have ih := sdI_snA P e h
    rw [List.cons_append, sdI, sdI, ih]
    split
    · rfl
    · split
      · rfl
      · rw [sdI_hd P]; rfl
theorem sdI_snI : ∀ (P : List Ed) (e : Ed), ¬ e.1 ≤ 1 → sdI (P ++ [e]) = (sdI P).set (sdA P).length ((sdI P).getD (sdA P).length [] ++ e.2)
  | [], e, h => by
    have h0 : ¬ e.1 = 0 := by omega
    have h1 : ¬ e.1 = 1 := by omega
    simp [sdI, sdA, h0, h1]
  | p :: P, e, h => by
    have ih := sdI_snI P e h
    rw [List.cons_append, sdI, sdI, sdA, ih]
    split
    · simp
    · split
      · simp
      · rw [sdI_hd P]
        cases hl : (sdA P).length with
        | zero => simp
        | succ k => simp
def Kj (E : List Ed) (n j : Nat) : List Bool := sdK (E.take j) ++ List.replicate (n - (sdA (E.take j)).length) false
def Ij (E : List Ed) (n j : Nat) : List Str := sdI (E.take j) ++ List.replicate (n - (sdA (E.take j)).length) []
def aj (E : List Ed) (j : Nat) : Nat := (sdA (E.take j)).length
theorem aj_le (E : List Ed) (j : Nat) : aj E j ≤ (sdA E).length := by
  have h := sdA_app (E.take j) (E.drop j)
  rw [List.take_append_drop] at h
  rw [h, List.length_append]
  unfold aj
  omega
theorem take_sn (E : List Ed) (j : Nat) (hj : j < E.length) : E.take (j + 1) = E.take j ++ [E.getD j (0, [])] := take_snocG (0, []) E j hj
theorem Kj_len (E : List Ed) (j : Nat) : (Kj E (sdA E).length j).length = (sdA E).length := by
  have := aj_le E j
  unfold aj at this
  unfold Kj
  rw [List.length_append, sdK_len, List.length_replicate]
  omega
theorem Ij_len (E : List Ed) (j : Nat) : (Ij E (sdA E).length j).length = (sdA E).length + 1 := by
  have := aj_le E j
  unfold aj at this
  unfold Ij
  rw [List.length_append, sdI_len, List.length_replicate]
  omega
theorem Kj_zero (E : List Ed) (n : Nat) : Kj E n 0 = List.replicate n false := by simp [Kj, sdK, sdA]
theorem Ij_zero (E : List Ed) (n : Nat) : Ij E n 0 = List.replicate (n + 1) [] := by simp [Ij, sdI, sdA, List.replicate_succ]
theorem Kj_all (E : List Ed) (j : Nat) (hj : E.length ≤ j) : Kj E (sdA E).length j = sdK E := by
  unfold Kj
  rw [List.take_of_length_le hj]
  simp
theorem Ij_all (E : List Ed) (j : Nat) (hj : E.length ≤ j) : Ij E (sdA E).length j = sdI E := by
  unfold Ij
  rw [List.take_of_length_le hj]
  simp
theorem step_keep (E : List Ed) (j : Nat) (hj : j < E.length) (h : (E.getD j (0, [])).1 = 0) : aj E j < (sdA E).length ∧ aj E (j + 1) = aj E j + 1 ∧ Kj E (sdA E).length (j + 1) = (Kj E (sdA E).length j).set (aj E j) true ∧ Ij E (sdA E).length (j + 1) = Ij E (sdA E).length j := by
  have hs := take_sn E j hj
  have e1 : aj E (j + 1) = aj E j + 1 := by unfold aj; rw [hs, sdA_sn, if_pos h]; simp
  have hl := aj_le E (j + 1)
  refine ⟨by omega, e1, ?_, ?_⟩
  · unfold Kj
    unfold aj at e1
    rw [e1, hs, sdK_sn, if_pos h]
    unfold aj
    rw [List.set_append_right _ _ (by rw [sdK_len]; exact Nat.le_refl _), sdK_len, Nat.sub_self]
    rw [show (sdA E).length - (sdA (E.take j)).length = ((sdA E).length - ((sdA (E.take j)).length + 1)) + 1 by unfold aj at hl; omega, List.replicate_succ]
    simp
  · unfold Ij
    unfold aj at e1
    rw [e1, hs, sdI_snA _ _ (by omega)]
    rw [show (sdA E).length - (sdA (E.take j)).length = ((sdA E).length - ((sdA (E.take j)).length + 1)) + 1 by unfold aj at hl; omega, List.replicate_succ]
    simp
theorem step_drop (E : List Ed) (j : Nat) (hj : j < E.length) (h : (E.getD j (0, [])).1 = 1) : aj E j < (sdA E).length ∧ aj E (j + 1) = aj E j + 1 ∧ Kj E (sdA E).length (j + 1) = Kj E (sdA E).length j ∧ Ij E (sdA E).length (j + 1) = Ij E (sdA E).length j := by
  have hs := take_sn E j hj
  have h0 : ¬ (E.getD j (0, [])).1 = 0 := by omega
  have e1 : aj E (j + 1) = aj E j + 1 := by unfold aj; rw [hs, sdA_sn, if_neg h0, if_pos h]; simp
  have hl := aj_le E (j + 1)
  refine ⟨by omega, e1, ?_, ?_⟩
  · unfold Kj
    unfold aj at e1
    rw [e1, hs, sdK_sn, if_neg h0, if_pos h]
    rw [show (sdA E).length - (sdA (E.take j)).length = ((sdA E).length - ((sdA (E.take j)).length + 1)) + 1 by unfold aj at hl; omega, List.replicate_succ]
    simp
  · unfold Ij
    unfold aj at e1
    rw [e1, hs, sdI_snA _ _ (by omega)]
    rw [show (sdA E).length - (sdA (E.take j)).length = ((sdA E).length - ((sdA (E.take j)).length + 1)) + 1 by unfold aj at hl; omega, List.replicate_succ]
    simp
theorem step_ins (E : List Ed) (j : Nat) (hj : j < E.length) (h : ¬ (E.getD j (0, [])).1 ≤ 1) : aj E (j + 1) = aj E j ∧ Kj E (sdA E).length (j + 1) = Kj E (sdA E).length j ∧ Ij E (sdA E).length (j + 1) = (Ij E (sdA E).length j).set (aj E j) ((Ij E (sdA E).length j).getD (aj E j) [] ++ (E.getD j (0, [])).2) := by
  have hs := take_sn E j hj
  have h0 : ¬ (E.getD j (0, [])).1 = 0 := by omega
  have h1 : ¬ (E.getD j (0, [])).1 = 1 := by omega
  have e1 : aj E (j + 1) = aj E j := by unfold aj; rw [hs, sdA_sn, if_neg h0, if_neg h1]; simp
  refine ⟨e1, ?_, ?_⟩
  · unfold Kj
    unfold aj at e1
    rw [e1, hs, sdK_sn, if_neg h0, if_neg h1]
    simp
  · unfold Ij
    unfold aj at e1
    rw [e1, hs, sdI_snI _ _ h]
    unfold aj
    have hlen := sdI_len (E.take j)
    rw [List.set_append_left _ _ (by omega)]
    have hg : (sdI (E.take j) ++ List.replicate ((sdA E).length - (sdA (E.take j)).length) ([] : Str)).getD (sdA (E.take j)).length [] = (sdI (E.take j)).getD (sdA (E.take j)).length [] := by
      rw [List.getD_eq_getElem?_getD, List.getD_eq_getElem?_getD, List.getElem?_append_left (by omega)]
    rw [hg]
/-- How long what stands ahead may be. -/
theorem sdI_sum : ∀ E : List Ed, ((sdI E).map List.length).sum ≤ ((sdB E).map List.length).sum
  | [] => by simp [sdI, sdB]
  | e :: r => by
    have ih := sdI_sum r
    have hd := sdI_hd r
    rw [hd] at ih
    rw [sdI, sdB]
    split
    · rw [hd]; simp only [List.map_cons, List.sum_cons, List.length_nil] at ih ⊢; omega
    · split
      · rw [hd]; simp only [List.map_cons, List.sum_cons, List.length_nil] at ih ⊢; omega
      · simp only [List.map_cons, List.sum_cons, List.length_append] at ih ⊢; omega
theorem Ij_short (s t : Str) (j i : Nat) : ((Ij (edits (lns s) (lns t)) (lns s).length j).getD i []).length ≤ t.length := by
  obtain ⟨E, hE⟩ : ∃ E, edits (lns s) (lns t) = E := ⟨_, rfl⟩
  rw [hE]
  have hB : (sdB E).flatten = t := by rw [← hE, (edits_A _ _).2, lns_flat]
  have h1 := sdI_sum (E.take j)
  have h2 : ((sdB (E.take j)).map List.length).sum ≤ t.length := by
    have h := sdB_app (E.take j) (E.drop j)
    rw [List.take_append_drop] at h
    rw [← hB, h, List.flatten_append, List.length_append, sum_flat]
    omega
  unfold Ij
  rw [List.getD_eq_getElem?_getD]
  cases hx : (sdI (E.take j) ++ List.replicate ((lns s).length - (sdA (E.take j)).length) [])[i]? with
  | none => simp
  | some y =>
    have hm := List.mem_of_getElem? hx
    rcases List.mem_append.1 hm with hm | hm
    · have := mem_sum _ _ (List.mem_map_of_mem (f := List.length) hm)
      simp only [Option.getD_some]
      omega
    · rw [(List.mem_replicate.1 hm).2]; simp
/-- Values in a block of one's own. -/
structure Rw (w : World) (g : Nat) (l : List Value) : Prop where
  lt : g < w.heap.size
  at_ : ∀ i v, l[i]? = some v → w.cell? ⟨g, i, none⟩ = some v
  fz : ∀ i, w.frozen? ⟨g, i, none⟩ = false
theorem Rw.set {w : World} {g : Nat} {l : List Value} (h : Rw w g l) (i : Nat) (hi : i < l.length) (v : Value) : Rw (w.setCell ⟨g, i, none⟩ v) g (l.set i v) :=
  ⟨by simpa [World.setCell] using h.lt, fun j u hj => by
    rw [List.getElem?_set] at hj
    by_cases e : i = j
    · subst e
      rw [if_pos rfl, if_pos hi] at hj
      cases hj
      exact World.cell?_setCell_same _ _ _ (h.at_ i _ (List.getElem?_eq_getElem hi))
    · rw [if_neg e] at hj
      rw [World.cell?_setCell_other _ _ _ _ (by intro h; simp only [Addr.mk.injEq] at h; omega)]
      exact h.at_ j u hj, fun j => by rw [World.frozen?_setCell]; exact h.fz j⟩
theorem Rw.other {w : World} {g g' : Nat} {l : List Value} (h : Rw w g l) (hg : g ≠ g') (i : Nat) (v : Value) : Rw (w.setCell ⟨g', i, none⟩ v) g l :=
  ⟨by simpa [World.setCell] using h.lt, fun j u hj => by
    rw [World.cell?_setCell_other _ _ _ _ (by intro h; simp only [Addr.mk.injEq] at h; omega)]
    exact h.at_ j u hj, fun j => by rw [World.frozen?_setCell]; exact h.fz j⟩
theorem Rw.kept {w w' : World} {g : Nat} {l : List Value} (h : Rw w g l) (hb : w'.heap[g]? = w.heap[g]?) : Rw w' g l := by
  refine ⟨?_, fun i v hv => (World.cell?_of_block (a := ⟨g, i, none⟩) hb).trans (h.at_ i v hv), fun i => ?_⟩
  · have := h.lt
    rw [Array.getElem?_eq_getElem this] at hb
    exact (Array.getElem?_eq_some_iff.1 hb).1
  · rw [← h.fz i]
    unfold World.frozen?
    rw [hb]
theorem Rw.drew {w : World} {g : Nat} {l : List Value} (h : Rw w g l) : Rw w.drew g l := ⟨h.lt, h.at_, h.fz⟩
def encK (x : Bool) : List Value := [.bool x]
abbrev PK (w : World) (a : Option Addr) (cap : Nat) (l : List Bool) : Prop := Px encK 1 false w a cap l
theorem Rw.px {α : Type} {enc : α → List Value} {d : α} {f : α → Value} (hf : ∀ x, enc x = [f x]) {w : World} {g n : Nat} {l : List α} (h : Rw w g (l.map f)) (hn : l.length = n) : Px enc 1 d w (some ⟨g, 0, none⟩) n l :=
  ⟨by omega, fun _ => ⟨g, 0, rfl, h.lt, fun i hi j v hv => by
    rw [hf] at hv
    have hj : j = 0 := by
      have := (List.getElem?_eq_some_iff.1 hv).1
      simp at this
      exact this
    subst hj
    simp only [List.getElem?_cons_zero, Option.some.injEq] at hv
    rw [Nat.zero_add, Nat.mul_one, Nat.add_zero]
    refine h.at_ i v ?_
    rw [List.getElem?_map, List.getElem?_eq_getElem hi, ← hv, List.getD_eq_getElem?_getD, List.getElem?_eq_getElem hi]
    rfl⟩, fun h => by cases h⟩
theorem PK.cell {w : World} {b off cap : Nat} {s : List Bool} (h : PK w (some ⟨b, off, none⟩) cap s) (i : Nat) (hi : i < s.length) : w.cell? ⟨b, off + i, none⟩ = some (.bool (s.getD i false)) := by
  obtain ⟨b', off', e1, _, e3⟩ := h.at_ (by omega)
  cases e1
  have := e3 i hi 0 _ rfl
  simpa using this
end Go.Proofs.Ytakddciegnkpdaa
