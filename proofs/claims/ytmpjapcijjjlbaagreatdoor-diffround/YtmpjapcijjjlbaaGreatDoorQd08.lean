import Derived.Test.YtmpjapcijjjlbaaGreatDoorQd06
import Derived.Test.YtmpjapcijjjlbaaGreatDoorQd07
import Derived.Test.YtmpjapcijjjlbaaGreatDoorQd03
namespace Go.Proofs.YtmpjapcijjjlbaaGreatDoor
open Go.RowKit
set_option linter.unusedVariables false
set_option linter.unusedSimpArgs false
abbrev Gh := Int × Int × Option Addr × Nat × List Ed
def g0 : Gh := (0, 0, none, 0, [])
def slE (x : Gh) : Value := .slice x.2.2.1 x.2.2.2.2.length x.2.2.2.1
def encG (x : Gh) : List Value := [.int .i64 x.1, .int .i64 x.2.1, slE x]
abbrev PG (w : World) (b : Option Addr) (cap : Nat) (l : List Gh) : Prop := Px encG 3 g0 w b cap l
abbrev BG (w0 w : World) (B : Nat) (v : Value) (l : List Gh) : Prop := Bx encG 3 73 w0 w B v l
theorem encG_len (x : Gh) : (encG x).length = 3 := rfl
theorem encG_one (x : Gh) : ∀ v ∈ encG x, v.oneCell' = true := fun v hv => by
  simp only [encG, slE, List.mem_cons, List.not_mem_nil, or_false] at hv
  rcases hv with rfl | rfl | rfl <;> rfl
def OwE (w : World) (B : Nat) (x : Gh) : Prop := w.ownsRow B 43 2 (slE x) x.2.2.2.2.length (x.2.2.2.2.flatMap encE)
theorem own_kept {w w' : World} {row : Option Nat} {B e k n : Nat} {v : Value} {xs : List Value} (h : w.ownsRow B e k v n xs) (hg : w.grownBy w' row) (hne : ∀ j, v.ownBlock = some j → row ≠ some j) : w'.ownsRow B e k v n xs := by
  refine h.kept hg ?_
  cases hv : v.ownBlock with
  | none => exact .inl rfl
  | some j =>
    right
    intro e
    exact hne j hv e.symm
theorem own_below {w w' : World} {B e k n : Nat} {v : Value} {xs : List Value} (h : w.ownsRow B e k v n xs) (hb : Below w.heap.size w w') : w'.ownsRow B e k v n xs := own_kept h (grown_of_below hb none) (fun j _ e => by cases e)
theorem own_type {w : World} {B e k n : Nat} {v : Value} {xs : List Value} (h : w.ownsRow B e k v n xs) (j : Nat) (hj : v.ownBlock = some j) : ∃ cur, w.heap[j]? = some (.cells cur e (0, 0)) := by
  obtain ⟨_, ⟨rfl, _⟩ | ⟨g, cap, cur, rfl, _, h1, _⟩⟩ := h
  · cases hj
  · cases hj
    exact ⟨cur, h1⟩
theorem own_other {w w' : World} {row : Option Nat} {B e k n : Nat} {v : Value} {xs : List Value} {B' e' k' n' : Nat} {v' : Value} {xs' : List Value} (h : w.ownsRow B e k v n xs) (h' : w.ownsRow B' e' k' v' n' xs') (he : e ≠ e') (hg : w.grownBy w' row) (hr : row = v'.ownBlock) : w'.ownsRow B e k v n xs :=
  own_kept h hg (fun j hj e1 => by
    rw [hr] at e1
    obtain ⟨c1, h1⟩ := own_type h j hj
    obtain ⟨c2, h2⟩ := own_type h' j e1
    rw [h1] at h2
    cases h2
    exact he rfl)
theorem own_st {w : World} {B e s g n cap : Nat} {xs : List Value} (h : w.ownsRow B e s (.slice (some ⟨g, 0, none⟩) n cap) n xs) (j : Nat) (hj : j < xs.length) (x : Value) (hx : x.oneCell' = true) :
    w.cell? ⟨g, j, none⟩ = xs[j]? ∧ w.frozen? ⟨g, j, none⟩ = false ∧ (store ⟨g, j, none⟩ x).run Tryz.prog w = .ok () (w.setCell ⟨g, j, none⟩ x) := by
  obtain ⟨h0, ⟨h1, _⟩ | ⟨g', cap', cur, h1, _, h2, h3, _, h4, h5⟩⟩ := h
  · cases h1
  · cases h1
    have hc : w.cell? ⟨g, j, none⟩ = xs[j]? := by
      rw [cell_of_row _ _ _ _ _ _ h2, ← h5, List.getElem?_take_of_lt (by omega)]
      simp
    have hf : w.frozen? ⟨g, j, none⟩ = false := by simp [World.frozen?, h2]
    refine ⟨hc, hf, ?_⟩
    rw [run_store _ _ _ _ _ hx, hc, List.getElem?_eq_getElem hj]
    simp [hf]
theorem set_fl {α : Type} (enc : α → List Value) (k : Nat) (d : α) : ∀ (l : List α) (i j : Nat) (x : α) (v : Value), i < l.length → j < k → (∀ y ∈ l, (enc y).length = k) → enc x = (enc (l.getD i d)).set j v → (l.flatMap enc).set (i * k + j) v = (l.set i x).flatMap enc
  | [], i, j, x, v, h, _, _, _ => by simp at h
  | y :: l, 0, j, x, v, h, hj, hw, hx => by
    have hy := hw y (by simp)
    simp only [List.getD_cons_zero] at hx
    rw [Nat.zero_mul, Nat.zero_add, List.flatMap_cons, List.set_cons_zero, List.flatMap_cons, List.set_append_left _ _ (by omega), hx]
  | y :: l, i + 1, j, x, v, h, hj, hw, hx => by
    have hy := hw y (by simp)
    have ih := set_fl enc k d l i j x v (by simpa using h) hj (fun z hz => hw z (by simp [hz])) (by simpa using hx)
    rw [List.flatMap_cons, List.set_cons_succ, List.flatMap_cons, List.set_append_right _ _ (by rw [hy, Nat.add_mul]; omega), hy, show (i + 1) * k + j - k = i * k + j by rw [Nat.add_mul]; omega, ih]
theorem own_set1 {w : World} {B e s g n cap : Nat} {xs : List Value} (h : w.ownsRow B e s (.slice (some ⟨g, 0, none⟩) n cap) n xs) (o : Nat) (v : Value) : (w.setCell ⟨g, o, none⟩ v).ownsRow B e s (.slice (some ⟨g, 0, none⟩) n cap) n (xs.set o v) ∧ w.grownBy (w.setCell ⟨g, o, none⟩ v) (some g) :=
  owns_set [v] o w xs h
structure Sh (w0 wr : World) (G N0 : Nat) (v : Value) (l : List Gh) (x : Gh) : Prop where
  row : BG w0 wr G v (l ++ [x])
  pe : ∀ y ∈ l, OwE wr G y ∧ ∀ j, (slE y).ownBlock = some j → j < N0
  la : OwE wr N0 x
  gn : G ≤ N0
  le : N0 ≤ wr.heap.size
theorem Sh.below {w0 wr w' : World} {G N0 : Nat} {v : Value} {l : List Gh} {x : Gh} (h : Sh w0 wr G N0 v l x) (hb : Below wr.heap.size wr w') : Sh w0 w' G N0 v l x :=
  ⟨⟨h.row.below.trans (hb.mono h.row.le), own_below h.row.own hb, Nat.le_trans h.row.le hb.size⟩, fun y hy => ⟨own_below (h.pe y hy).1 hb, (h.pe y hy).2⟩, own_below h.la hb, h.gn, Nat.le_trans h.le hb.size⟩
theorem own_nil (w : World) (B : Nat) (a b : Int) : OwE w B (a, b, none, 0, []) := ⟨rfl, .inl ⟨rfl, rfl⟩⟩
theorem Sh.first {w0 w' : World} {G : Nat} {v' : Value} {a b : Int} (hb : BG w0 w' G v' [(a, b, none, 0, [])]) : Sh w0 w' G w'.heap.size v' [] (a, b, none, 0, []) :=
  ⟨hb, (fun y hy => by cases hy), own_nil _ _ _ _, hb.le, Nat.le_refl _⟩
theorem Sh.push {w0 wr w' : World} {G N0 : Nat} {v v' : Value} {l : List Gh} {x : Gh} {a b : Int} (h : Sh w0 wr G N0 v l x) (hb : BG w0 w' G v' ((l ++ [x]) ++ [(a, b, none, 0, [])])) (hg : wr.grownBy w' v.ownBlock) : Sh w0 w' G w'.heap.size v' (l ++ [x]) (a, b, none, 0, []) := by
  refine ⟨hb, fun y hy => ?_, own_nil _ _ _ _, hb.le, Nat.le_refl _⟩
  have hs := hg.size
  have hl := h.le
  rcases List.mem_append.1 hy with hy | hy
  · obtain ⟨h1, h2⟩ := h.pe y hy
    exact ⟨own_other h1 h.row.own (by decide) hg rfl, fun j hj => by have := h2 j hj; omega⟩
  · rw [List.mem_singleton.1 hy]
    exact ⟨base_mono (own_other h.la h.row.own (by decide) hg rfl) h.gn, fun j hj => by have := (own_lt h.la j hj).2; omega⟩
theorem Sh.edit {w0 u u9 : World} {G N0 hb m cap : Nat} {l : List Gh} {a b : Int} {ea ea' : Option Addr} {ec ec' : Nat} {es es' : List Ed} (h : Sh w0 u G N0 (.slice (some ⟨hb, 0, none⟩) m cap) l (a, b, ea, ec, es)) (hm : l.length + 1 = m) (hg : u.grownBy u9 (slE (a, b, ea, ec, es)).ownBlock) (ho : OwE u9 N0 (a, b, ea', ec', es')) :
    Sh w0 (u9.setCell ⟨hb, l.length * 3 + 2, none⟩ (.slice ea' es'.length ec')) G N0 (.slice (some ⟨hb, 0, none⟩) m cap) l (a, b, ea', ec', es') ∧ u9.ownsRow G 73 3 (.slice (some ⟨hb, 0, none⟩) m cap) m ((l ++ [(a, b, ea, ec, es)]).flatMap encG) := by
  have hlen : (l ++ [(a, b, ea, ec, es)]).length = m := by simp; omega
  have hr := h.row.own
  rw [hlen] at hr
  have hr9 := own_other hr h.la (by decide) hg rfl
  obtain ⟨k1, k2⟩ := own_set1 hr9 (l.length * 3 + 2) (.slice ea' es'.length ec')
  have e1 : ((l ++ [(a, b, ea, ec, es)]).flatMap encG).set (l.length * 3 + 2) (.slice ea' es'.length ec') = (l ++ [(a, b, ea', ec', es')]).flatMap encG := by
    have := set_fl encG 3 g0 (l ++ [(a, b, ea, ec, es)]) l.length 2 (a, b, ea', ec', es') (.slice ea' es'.length ec') (by simp) (by omega) (fun y _ => encG_len y) (by simp [encG, slE])
    rw [this]
    simp
  rw [e1] at k1
  have hlen2 : (l ++ [(a, b, ea', ec', es')]).length = m := by simp; omega
  have hB := (own_lt hr hb rfl).1
  have s1 := hg.size
  have s2 := k2.size
  have hle := h.row.le
  refine ⟨⟨⟨(h.row.below.grown hg hle (fun k e => by have := (own_lt h.la k e).1; have := h.gn; omega)).grown k2 (by omega) (fun k e => by cases e; exact hB), by rw [hlen2]; exact k1, by omega⟩, fun y hy => ?_, own_other ho hr9 (by decide) k2 rfl, h.gn, by have := h.le; omega⟩, hr9⟩
  obtain ⟨h1, h2⟩ := h.pe y hy
  have h3 : OwE u9 G y := own_kept h1 hg (fun j hj e => by have := h2 j hj; have := (own_lt h.la j e).1; omega)
  exact ⟨own_other h3 hr9 (by decide) k2 rfl, h2⟩
theorem Sh.trim {w0 u : World} {G N0 eb n cap : Nat} {v : Value} {l : List Gh} {a b : Int} {ec : Nat} {es : List Ed} {k : Nat} {s t : Str} (h : Sh w0 u G N0 v l (a, b, some ⟨eb, 0, none⟩, ec, es ++ [(k, s)])) :
    Sh w0 (u.setCell ⟨eb, es.length * 2 + 1, none⟩ (sV t)) G N0 v l (a, b, some ⟨eb, 0, none⟩, ec, es ++ [(k, t)]) := by
  have hla := h.la
  have e0 : slE (a, b, some ⟨eb, 0, none⟩, ec, es ++ [(k, s)]) = .slice (some ⟨eb, 0, none⟩) (es ++ [(k, s)]).length ec := rfl
  unfold OwE at hla
  rw [e0] at hla
  obtain ⟨k1, k2⟩ := own_set1 hla (es.length * 2 + 1) (sV t)
  have e1 : ((es ++ [(k, s)]).flatMap encE).set (es.length * 2 + 1) (sV t) = (es ++ [(k, t)]).flatMap encE := by
    have := set_fl encE 2 (0, []) (es ++ [(k, s)]) es.length 1 (k, t) (sV t) (by simp) (by omega) (fun y _ => encE_len y) (by simp [encE])
    rw [this]
    simp
  rw [e1] at k1
  have hB := (own_lt hla eb rfl).1
  have s2 := k2.size
  have hle := h.row.le
  have hgn := h.gn
  have hlen : (es ++ [(k, s)]).length = (es ++ [(k, t)]).length := by simp
  have e2 : (l ++ [((a, b, some ⟨eb, 0, none⟩, ec, es ++ [(k, s)]) : Gh)]).flatMap encG = (l ++ [((a, b, some ⟨eb, 0, none⟩, ec, es ++ [(k, t)]) : Gh)]).flatMap encG := by
    rw [List.flatMap_append, List.flatMap_append]
    simp [encG, slE]
  have hrow : u.ownsRow G 73 3 v (l ++ [((a, b, some ⟨eb, 0, none⟩, ec, es ++ [(k, t)]) : Gh)]).length ((l ++ [((a, b, some ⟨eb, 0, none⟩, ec, es ++ [(k, t)]) : Gh)]).flatMap encG) := by
    have := h.row.own
    rw [e2] at this
    simpa using this
  refine ⟨⟨h.row.below.grown k2 hle (fun j e => by cases e; omega), own_other hrow hla (by decide) k2 rfl, by omega⟩, fun y hy => ?_, ?_, hgn, by have := h.le; omega⟩
  · obtain ⟨h1, h2⟩ := h.pe y hy
    exact ⟨own_kept h1 k2 (fun j hj e => by cases e; have := h2 _ hj; omega), h2⟩
  · unfold OwE
    show World.ownsRow _ N0 43 2 (.slice (some ⟨eb, 0, none⟩) (es ++ [(k, t)]).length ec) _ _
    rw [← hlen]
    exact k1
end Go.Proofs.YtmpjapcijjjlbaaGreatDoor
