import Derived.Test.YtbpdielmdhhdfaaGreatDoorMl14
import Derived.Test.YtbpdielmdhhdfaaGreatDoorMl12
import Derived.Test.YtbpdielmdhhdfaaGreatDoorMl17
import Derived.StillTail
import Derived.Test.YtbpdielmdhhdfaaGreatDoorMl15
import Derived.Lib.AppendZeros
import Derived.Test.YtbpdielmdhhdfaaGreatDoorMl09
import Derived.Shelf.Small.Strs
import Derived.Shelf.SlLaysF0
import Derived.Test.YtbpdielmdhhdfaaGreatDoorProg
namespace Go.Proofs.YtbpdielmdhhdfaaGreatDoor
open Go.RowKit
set_option linter.unusedVariables false
set_option linter.unusedSimpArgs false
theorem Tryz.size75 : (Tryz.prog.info? 75).map (·.size) = some 27 := by kernel_rfl
theorem Tryz.results68 : Tryz.f68.results = #[.cell 2 75, .tmp 3] := by kernel_rfl
set_option maxRecDepth 20000 in
theorem zero75 (w : World) : (zeroValue 75).run Tryz.prog w = .ok (.agg (tgV (tg0 z20)).toArray) w := by kernel_rfl
def PL (s wd o r : List UInt8) (b : Bool) : Prop := (b = true → Ln s wd o r) ∧ (b = false → ∀ o r, ¬ Ln s wd o r) ∧ r.length ≤ s.length ∧ o.length ≤ s.length
theorem PostLn.form {s wd : List UInt8} {e : Ending} (h : PostLn s wd e) : ∃ o r b, e = .returned (.tuple #[.string ⟨o.toArray⟩, .string ⟨r.toArray⟩, .bool b]) ∧ PL s wd o r b := by
  rcases h with ⟨o, r, hl, rfl⟩ | ⟨hn, rfl⟩
  · refine ⟨o, r, true, rfl, fun _ => hl, (fun h => by cases h), ?_, ?_⟩
    · obtain ⟨rfl, _⟩ := hl
      simp
      omega
    · obtain ⟨rfl, _⟩ := hl
      simp
      omega
  · exact ⟨[], s, false, rfl, (fun h => by cases h), fun _ => hn, Nat.le_refl _, Nat.zero_le _⟩
theorem Ln.uniq {s wd o r o' r' : List UInt8} (h : Ln s wd o r) (h' : Ln s wd o' r') : o = o' ∧ r = r' := by
  obtain ⟨e1, n1⟩ := h
  obtain ⟨e2, n2⟩ := h'
  rw [e1] at e2
  have e3 := List.append_cancel_left e2
  have e4 : o ++ 10 :: r = o' ++ 10 :: r' := by injection e3
  have e5 := congrArg (fun x => Lib.cut x [10]) e4
  rw [cut_one o r 10 n1, cut_one o' r' 10 n2] at e5
  simp only [Prod.mk.injEq] at e5
  exact ⟨e5.1, e5.2.1⟩
def PQ (t : List UInt8) (fr : List Int) (g : Bool) : Prop := fr.length = 20 ∧ (∀ n ∈ fr, 0 ≤ n ∧ n < 256) ∧ (t.length = 40 ∧ Hx.good ⟨t.toArray⟩ → g = true ∧ fr = Hx.idAt ⟨t.toArray⟩ 40)
def PostQR (t : List UInt8) (e : Ending) : Prop := ∃ (fr : List Int) (g : Bool), e = .returned (.tuple #[.agg (row .u8 fr).toArray, .bool g]) ∧ PQ t fr g
theorem parseR_short (t : List UInt8) (w : World) (hl : t.length ≤ 300000) : Calls Tryz.prog 108 #[.string ⟨t.toArray⟩] w fun e w' => Below w.heap.size w w' ∧ PostQR t e := by
  have hsz : (⟨t.toArray⟩ : ByteArray).size = t.length := by simp [ByteArray.size]
  refine (Hx.parse_ref ⟨t.toArray⟩ w (by rw [hsz]; exact hl)).mono ?_
  rintro e w' ⟨hb, h1, h2⟩
  refine ⟨hb, ?_⟩
  rw [hsz] at h1 h2
  by_cases h : t.length = 40 ∧ Hx.good ⟨t.toArray⟩
  · exact ⟨Hx.idAt ⟨t.toArray⟩ 40, true, h1 h, Hx.idAt_len _ _, fun n hn => Hx.idAt_bd _ _ n hn, fun _ => ⟨rfl, rfl⟩⟩
  · exact ⟨Hx.zeros, false, h2 h, rfl, fun n hn => by rw [List.eq_of_mem_replicate hn]; omega, fun h3 => absurd h3 h⟩
def Wf (u : Tg) : Prop := u.id.length = 20 ∧ ∀ n ∈ u.id, 0 ≤ n ∧ n < 256
theorem tag_read {l o1 r1 o2 r2 o3 r3 o4 r4 : List UInt8} {b1 b2 b3 b4 g : Bool} {fr : List Int} (p1 : PL l wObject o1 r1 b1) (p2 : PL r1 wType o2 r2 b2) (p3 : PL r2 wTag o3 r3 b3) (p4 : PL r3 wTagger o4 r4 b4) (hq : PQ o1 fr g)
    (u : Tg) (hu : Wf u) (ho : okG u) (h : tagB u = l) : b1 = true ∧ b2 = true ∧ b3 = true ∧ b4 = true ∧ g = true ∧ fr = u.id ∧ o2 = (kN u.kind).data.toList ∧ o3 = u.name ∧ o4 = perB u.per ∧ r4 = 10 :: u.msg := by
  obtain ⟨l1, l2, l3, l4, e1, e2, e3, e4, e5⟩ := tag_ln u hu.2 ho
  rw [h] at e1
  have t1 : b1 = true := by
    rcases Bool.eq_false_or_eq_true b1 with h | h
    · exact h
    · exact absurd e1 (p1.2.1 h _ _)
  obtain ⟨rfl, rfl⟩ := (p1.1 t1).uniq e1
  have t2 : b2 = true := by
    rcases Bool.eq_false_or_eq_true b2 with h | h
    · exact h
    · exact absurd e2 (p2.2.1 h _ _)
  obtain ⟨rfl, rfl⟩ := (p2.1 t2).uniq e2
  have t3 : b3 = true := by
    rcases Bool.eq_false_or_eq_true b3 with h | h
    · exact h
    · exact absurd e3 (p3.2.1 h _ _)
  obtain ⟨rfl, rfl⟩ := (p3.1 t3).uniq e3
  have t4 : b4 = true := by
    rcases Bool.eq_false_or_eq_true b4 with h | h
    · exact h
    · exact absurd e4 (p4.2.1 h _ _)
  obtain ⟨rfl, rfl⟩ := (p4.1 t4).uniq e4
  have e : (⟨(hexB u.id).toArray⟩ : ByteArray) = strOfNums (Hx.hexOf u.id) := rfl
  obtain ⟨g1, g2⟩ := hq.2.2 ⟨by rw [hexB_len, hu.1], by rw [e]; exact Hx.hex_good u.id hu.1 hu.2⟩
  refine ⟨t1, t2, t3, t4, g1, ?_, rfl, rfl, rfl, e5⟩
  rw [g2, e]
  exact Hx.hex_back u.id hu.1 hu.2
theorem kN_four (k : Int) (hk : ¬ (kN k).toList.isEmpty = true) : k = 1 ∨ k = 2 ∨ k = 3 ∨ k = 4 := by
  unfold kN at hk
  by_cases h1 : k = 1
  · exact .inl h1
  by_cases h2 : k = 2
  · exact .inr (.inl h2)
  by_cases h3 : k = 3
  · exact .inr (.inr (.inl h3))
  by_cases h4 : k = 4
  · exact .inr (.inr (.inr h4))
  rw [if_neg (by simpa using h1), if_neg (by simpa using h2), if_neg (by simpa using h3), if_neg (by simpa using h4)] at hk
  rw [Lib.toList_data] at hk
  exact absurd rfl hk
theorem kN_inj4 (k : Int) (j : Nat) (hk : ¬ (kN k).toList.isEmpty = true) (h1 : 1 ≤ j) (h4 : j ≤ 4) (h : ((kN j).toList == (kN k).toList) = true) : (j : Int) = k :=
  kO_back k hk j (.inl ⟨h1, h4, h⟩)
def setAt : List Value → Nat → List Value → List Value
  | l, _, [] => l
  | l, o, v :: vs => setAt (l.set o v) (o + 1) vs
theorem heap_setCells_same (g : Nat) (t : TypeId) : ∀ (vs : List Value) (o : Nat) (w : World) (l : List Value), w.heap[g]? = some (.cells l.toArray t (0, 0)) → (w.setCells g o vs).heap[g]? = some (.cells (setAt l o vs).toArray t (0, 0))
  | [], _, _, _, h => h
  | v :: vs, o, w, l, h => by
    show ((w.setCell ⟨g, o, none⟩ v).setCells g (o + 1) vs).heap[g]? = _
    refine heap_setCells_same g t vs (o + 1) _ (l.set o v) ?_
    rw [heap_setCell_same w g o _ t v h, List.setIfInBounds_toArray]
theorem setAt_mid : ∀ (new old pre rest : List Value), new.length = old.length → setAt (pre ++ (old ++ rest)) pre.length new = pre ++ (new ++ rest)
  | [], [], pre, rest, _ => rfl
  | v :: new, x :: old, pre, rest, h => by
    show setAt ((pre ++ (x :: (old ++ rest))).set pre.length v) (pre.length + 1) new = _
    rw [List.set_append_right _ _ (Nat.le_refl _), Nat.sub_self, List.set_cons_zero]
    have := setAt_mid new old (pre ++ [v]) rest (by simpa using h)
    simpa using this
structure TR (G : Nat) (zr : Array Value) (T : Tg) (w W : World) : Prop where
  below : Below G w W
  tag : W.heap[G + 1]? = some (.cells (tgV T).toArray 75 (0, 0))
  res : W.heap[G]? = some (.cells zr 75 (0, 0))
theorem TR.grow {G : Nat} {zr : Array Value} {T : Tg} {w W W' : World} (h : TR G zr T w W) (hb : Below W.heap.size W W') : TR G zr T w W' :=
  ⟨h.below.trans (hb.mono (Nat.le_of_lt (lt_of_some h.res))), (hb.block _ (lt_of_some h.tag)).trans h.tag, (hb.block _ (lt_of_some h.res)).trans h.res⟩
theorem TR.set {G : Nat} {zr : Array Value} {T T' : Tg} {w W : World} (h : TR G zr T w W) (i : Nat) (v : Value) (he : (tgV T).set i v = tgV T') : TR G zr T' w (W.setCell ⟨G + 1, i, none⟩ v) :=
  ⟨h.below.setCell (by show G ≤ G + 1; omega) _, by rw [heap_setCell_same W (G + 1) i _ 75 v h.tag, List.setIfInBounds_toArray, he], (heap_setCell_other W ⟨G + 1, i, none⟩ G v (by show G ≠ G + 1; omega)).trans h.res⟩
theorem TR.id {G : Nat} {zr : Array Value} {T : Tg} {w W : World} (h : TR G zr T w W) (hl : T.id.length = 20) (fr : List Int) (hf : fr.length = 20) : TR G zr { T with id := fr } w (W.setCells (G + 1) 0 (row .u8 fr)) := by
  refine ⟨below_setCells (by omega) _ _ _ _ h.below, ?_, (heap_setCells_other (G + 1) G (by omega) _ _ _).trans h.res⟩
  rw [heap_setCells_same (G + 1) 75 (row .u8 fr) 0 W (tgV T) h.tag]
  have := setAt_mid (row .u8 fr) (row .u8 T.id) [] ([.int .i64 T.kind, .string ⟨T.name.toArray⟩, .string ⟨T.per.name.toArray⟩, .string ⟨T.per.mail.toArray⟩, .int .i64 T.per.time, .int .i64 T.per.zone, .string ⟨T.msg.toArray⟩] : List Value) (by rw [row_len, row_len, hl, hf])
  simp only [List.nil_append, List.length_nil] at this
  unfold tgV
  rw [this]
theorem TR.per {G : Nat} {zr : Array Value} {T : Tg} {w W : World} (h : TR G zr T w W) (hl : T.id.length = 20) (p : Per) : TR G zr { T with per := p } w (W.setCells (G + 1) 22 (perV p).toList) := by
  have h1 := h.set 22 (.string ⟨p.name.toArray⟩) (set_pn T hl _)
  have h2 := h1.set 23 (.string ⟨p.mail.toArray⟩) (set_pm _ (by exact hl) _)
  have h3 := h2.set 24 (.int .i64 p.time) (set_pt _ (by exact hl) _)
  have h4 := h3.set 25 (.int .i64 p.zone) (set_pz _ (by exact hl) _)
  exact h4
theorem TR.cell {G : Nat} {zr : Array Value} {T : Tg} {w W : World} (h : TR G zr T w W) (hl : T.id.length = 20) (i : Nat) (hi : i < 27) : ∃ v, W.cell? ⟨G + 1, i, none⟩ = some v ∧ W.frozen? ⟨G + 1, i, none⟩ = false := by
  have h1 : (tgV T).toArray[i]? = some ((tgV T)[i]'(by rw [tgV_len T hl]; exact hi)) := by simp [tgV_len T hl, hi]
  exact ⟨_, (cell_of_row W (G + 1) i _ _ _ h.tag).trans h1, frozen_of_row W (G + 1) i _ _ h.tag⟩
def PostRT (l : List UInt8) (e : Ending) : Prop := ∃ (t : Tg) (b : Bool), e = .returned (.tuple #[.agg (tgV t).toArray, .bool b]) ∧ Wf t ∧ (b = true → okG t ∧ tagB t = l) ∧ ∀ u : Tg, Wf u → okG u → tagB u = l → b = true
end Go.Proofs.YtbpdielmdhhdfaaGreatDoor
namespace Go.Proofs.YtbpdielmdhhdfaaGreatDoor
open Go.RowKit
set_option linter.unusedVariables false
set_option linter.unusedSimpArgs false
def OE (e : TypeId) (B : Nat) (a : Option Addr) (cap : Nat) (ids : List (List Int)) (W : World) : Prop := W.ownsRow B e 20 (.slice a ids.length cap) ids.length (ids.flatMap (row .u8))
section
variable {e : TypeId} {B B' g : Nat} {a : Option Addr} {cap : Nat} {ids : List (List Int)} {W W' : World}
theorem OE.keep (h : OE e B a cap ids W) (hb : Below W.heap.size W W') : OE e B a cap ids W' := World.ownsRow.kept h (grown_of_below hb none) (by
  cases a with
  | none => left; rfl
  | some x => right; simp [Value.ownBlock])
theorem OE.step (h : OE e B a cap ids W) (hgr : W.grownBy W' (some g)) (hg : g < B) : OE e B a cap ids W' := by
  refine World.ownsRow.kept h hgr ?_
  obtain ⟨_, ⟨hv, _⟩ | ⟨g2, cap2, cur, hv, hb, _⟩⟩ := h
  · rw [hv]; left; rfl
  · rw [hv]; right
    simp [Value.ownBlock]
    omega
theorem OE.setCells (h : OE e B a cap ids W) (hg : g < B) (o : Nat) (vs : List Value) : OE e B a cap ids (W.setCells g o vs) := by
  have hb := below_setCells (Nat.le_refl g) vs o W W (Below.refl g W)
  exact h.step ⟨hb.os, hb.tape, hb.output, hb.size, fun k hk hne => heap_setCells_other g k (fun e => hne (by rw [e])) vs o _⟩ hg
theorem OE.setRow (h : OE e B a cap ids W) (hg : g < B) (vs : Array Value) : OE e B a cap ids (W.setRow g vs) := by
  have hb := below_setRow (Below.refl g W) (Nat.le_refl g) vs
  exact h.step ⟨hb.os, hb.tape, hb.output, hb.size, fun k hk hne => setRow_other _ _ _ _ (fun e => hne (by rw [e]))⟩ hg
theorem OE.lower (h : OE e B a cap ids W) (hb : B' ≤ B) : OE e B' a cap ids W := by
  obtain ⟨hl, h | ⟨g, cap2, cur, hv, hg, r⟩⟩ := h
  · exact ⟨hl, .inl h⟩
  · exact ⟨hl, .inr ⟨g, cap2, cur, hv, by omega, r⟩⟩
theorem OE.snoc {ao : Option Addr} {n : Nat} {fr : List Int} (hn : ids.length = n) (h : W.ownsRow B e 20 (.slice ao (n + 1 : Nat) cap) (n + 1) (ids.flatMap (row .u8) ++ row .u8 fr)) : OE e B ao cap (ids ++ [fr]) W := by
  unfold OE
  have e1 : (ids ++ [fr]).length = n + 1 := by simp [hn]
  rw [e1, List.flatMap_append]
  simpa using h
theorem OE.pa (h : OE e B a cap ids W) (hw : WfI ids) : Pa W a cap ids := by
  obtain ⟨hl, ⟨hv, h0⟩ | ⟨g, cap2, cur, hv, hb, hh, hkc, hcm, hsz, htk⟩⟩ := h
  · simp only [Value.slice.injEq] at hv
    obtain ⟨rfl, _, rfl⟩ := hv
    exact ⟨by omega, fun h => by omega, fun _ => rfl⟩
  · simp only [Value.slice.injEq] at hv
    obtain ⟨rfl, _, rfl⟩ := hv
    refine ⟨hkc, fun _ => ⟨g, 0, rfl, (Array.getElem?_eq_some_iff.1 hh).1, fun i hi j v hv => ?_⟩, fun e => by cases e⟩
    have h1 := flat_at ids hw i j v hi hv
    rw [← htk] at h1
    rw [Nat.zero_add, cell_of_row W g (i * 20 + j) _ _ _ hh]
    have hlt : i * 20 + j < ids.length * 20 := by
      have h2 := (List.getElem?_eq_some_iff.1 h1).1
      rw [List.length_take] at h2
      omega
    rw [List.getElem?_take_of_lt hlt] at h1
    simpa using h1
end
def tailB (u : Cm) (k : Nat) : List UInt8 := (u.ids.drop k).flatMap (fun x => ln2 w_parent.data.toList (hexB x)) ++ (ln2 w_author.data.toList (perB u.au) ++ (ln2 w_committer.data.toList (perB u.co) ++ 10 :: u.msg))
theorem cmB_tree (u : Cm) : cmB u = wTree ++ 32 :: (hexB u.tree ++ 10 :: tailB u 0) := by
  simp [cmB, tailB, ln2, w_tree, wTree]
theorem tailB_step (u : Cm) (k : Nat) (h : k < u.ids.length) : tailB u k = wParent ++ 32 :: (hexB (u.ids.getD k []) ++ 10 :: tailB u (k + 1)) := by
  unfold tailB
  rw [List.drop_eq_getElem_cons h, List.flatMap_cons, List.getD_eq_getElem?_getD, List.getElem?_eq_getElem h]
  simp [ln2, w_parent, wParent]
theorem tailB_end (u : Cm) (k : Nat) (h : u.ids.length ≤ k) : tailB u k = wAuthor ++ 32 :: (perB u.au ++ 10 :: (wCommitter ++ 32 :: (perB u.co ++ 10 :: (10 :: u.msg)))) := by
  unfold tailB
  rw [List.drop_of_length_le h]
  simp [ln2, w_author, w_committer, wAuthor, wCommitter]
def UI (l : List UInt8) (fr : List Int) (ids : List (List Int)) (r : List UInt8) : Prop := ∀ u : Cm, WfC u → okC u → cmB u = l → fr = u.tree ∧ ids.length ≤ u.ids.length ∧ ids = u.ids.take ids.length ∧ r = tailB u ids.length
theorem ui_start {l o1 r1 : List UInt8} {b1 gd : Bool} {fr : List Int} (p1 : PL l wTree o1 r1 b1) (hq : PQ o1 fr gd) : UI l fr [] r1 ∧ ∀ u : Cm, WfC u → okC u → cmB u = l → b1 = true ∧ gd = true := by
  have key : ∀ u : Cm, WfC u → okC u → cmB u = l → b1 = true ∧ gd = true ∧ fr = u.tree ∧ r1 = tailB u 0 := fun u hu ho h => by
    have e1 : Ln l wTree (hexB u.tree) (tailB u 0) := ⟨by rw [← h]; exact cmB_tree u, hexB_no u.tree hu.1.2⟩
    have t1 : b1 = true := by
      rcases Bool.eq_false_or_eq_true b1 with h | h
      · exact h
      · exact absurd e1 (p1.2.1 h _ _)
    obtain ⟨rfl, rfl⟩ := (p1.1 t1).uniq e1
    have e : (⟨(hexB u.tree).toArray⟩ : ByteArray) = strOfNums (Hx.hexOf u.tree) := rfl
    obtain ⟨g1, g2⟩ := hq.2.2 ⟨by rw [hexB_len, hu.1.1], by rw [e]; exact Hx.hex_good u.tree hu.1.1 hu.1.2⟩
    refine ⟨t1, g1, ?_, rfl⟩
    rw [g2, e]
    exact Hx.hex_back u.tree hu.1.1 hu.1.2
  refine ⟨fun u hu ho h => ?_, fun u hu ho h => ?_⟩
  · obtain ⟨_, _, h3, h4⟩ := key u hu ho h
    exact ⟨h3, Nat.zero_le _, rfl, h4⟩
  · obtain ⟨h1, h2, _⟩ := key u hu ho h
    exact ⟨h1, h2⟩
theorem UI.step {l r o r' : List UInt8} {fr fx : List Int} {ids : List (List Int)} {gd : Bool} (h : UI l fr ids r) (p : PL r wParent o r' true) (hq : PQ o fx gd) : UI l fr (ids ++ [fx]) r' ∧ ∀ u : Cm, WfC u → okC u → cmB u = l → gd = true := by
  have key : ∀ u : Cm, WfC u → okC u → cmB u = l → gd = true ∧ ids.length < u.ids.length ∧ fx = u.ids.getD ids.length [] ∧ r' = tailB u (ids.length + 1) := fun u hu ho hl => by
    obtain ⟨_, h2, h3, h4⟩ := h u hu ho hl
    have hlt : ids.length < u.ids.length := by
      rcases Nat.lt_or_ge ids.length u.ids.length with h | h
      · exact h
      · have h5 := (p.1 rfl).1
        rw [h4, tailB_end u _ h] at h5
        exact absurd (congrArg List.head? h5) (by simp [wAuthor, wParent])
    have hx := hu.2 (u.ids.getD ids.length []) (by rw [List.getD_eq_getElem?_getD, List.getElem?_eq_getElem hlt]; exact List.getElem_mem _)
    have e1 : Ln r wParent (hexB (u.ids.getD ids.length [])) (tailB u (ids.length + 1)) := ⟨by rw [h4]; exact tailB_step u _ hlt, hexB_no _ hx.2⟩
    obtain ⟨rfl, rfl⟩ := (p.1 rfl).uniq e1
    have e : (⟨(hexB (u.ids.getD ids.length [])).toArray⟩ : ByteArray) = strOfNums (Hx.hexOf (u.ids.getD ids.length [])) := rfl
    obtain ⟨g1, g2⟩ := hq.2.2 ⟨by rw [hexB_len, hx.1], by rw [e]; exact Hx.hex_good _ hx.1 hx.2⟩
    refine ⟨g1, hlt, ?_, rfl⟩
    rw [g2, e]
    exact Hx.hex_back _ hx.1 hx.2
  refine ⟨fun u hu ho hl => ?_, fun u hu ho hl => (key u hu ho hl).1⟩
  obtain ⟨k1, k2, k3, k4⟩ := key u hu ho hl
  obtain ⟨h1, h2, h3, h4⟩ := h u hu ho hl
  have e1 : (ids ++ [fx]).length = ids.length + 1 := by simp
  refine ⟨h1, by rw [e1]; exact k2, ?_, by rw [e1]; exact k4⟩
  rw [e1, take_snocI u.ids ids.length k2, ← h3, k3]
theorem UI.last {l r o r' : List UInt8} {fr : List Int} {ids : List (List Int)} (h : UI l fr ids r) (p : PL r wParent o r' false) (u : Cm) (hu : WfC u) (ho : okC u) (hl : cmB u = l) : fr = u.tree ∧ ids = u.ids ∧ r = wAuthor ++ 32 :: (perB u.au ++ 10 :: (wCommitter ++ 32 :: (perB u.co ++ 10 :: (10 :: u.msg)))) := by
  obtain ⟨h1, h2, h3, h4⟩ := h u hu ho hl
  have hge : u.ids.length ≤ ids.length := by
    rcases Nat.lt_or_ge ids.length u.ids.length with h | h
    · have hx := hu.2 (u.ids.getD ids.length []) (by rw [List.getD_eq_getElem?_getD, List.getElem?_eq_getElem h]; exact List.getElem_mem _)
      exact absurd (⟨by rw [h4]; exact tailB_step u _ h, hexB_no _ hx.2⟩ : Ln r wParent (hexB (u.ids.getD ids.length [])) (tailB u (ids.length + 1))) (p.2.1 rfl _ _)
    · exact h
  refine ⟨h1, ?_, by rw [h4]; exact tailB_end u _ hge⟩
  rw [h3]
  exact List.take_of_length_le hge
theorem UI.pers {l r o o3 r3 o4 r4 r' : List UInt8} {fr : List Int} {ids : List (List Int)} {b3 b4 : Bool} (h : UI l fr ids r) (p : PL r wParent o r' false) (p3 : PL r wAuthor o3 r3 b3) (p4 : PL r3 wCommitter o4 r4 b4) (u : Cm) (hu : WfC u) (ho : okC u) (hl : cmB u = l) :
    fr = u.tree ∧ ids = u.ids ∧ b3 = true ∧ b4 = true ∧ o3 = perB u.au ∧ o4 = perB u.co ∧ r4 = 10 :: u.msg := by
  obtain ⟨h1, h2, h3⟩ := h.last p u hu ho hl
  have e3 : Ln r wAuthor (perB u.au) (wCommitter ++ 32 :: (perB u.co ++ 10 :: (10 :: u.msg))) := ⟨h3, perB_no _ ho.2.2.1⟩
  have t3 : b3 = true := by
    rcases Bool.eq_false_or_eq_true b3 with h | h
    · exact h
    · exact absurd e3 (p3.2.1 h _ _)
  obtain ⟨rfl, rfl⟩ := (p3.1 t3).uniq e3
  have e4 : Ln (wCommitter ++ 32 :: (perB u.co ++ 10 :: (10 :: u.msg))) wCommitter (perB u.co) (10 :: u.msg) := ⟨rfl, perB_no _ ho.2.2.2.1⟩
  have t4 : b4 = true := by
    rcases Bool.eq_false_or_eq_true b4 with h | h
    · exact h
    · exact absurd e4 (p4.2.1 h _ _)
  obtain ⟨rfl, rfl⟩ := (p4.1 t4).uniq e4
  exact ⟨h1, h2, t3, t4, rfl, rfl, rfl⟩
theorem fld_hasP (r : List UInt8) (x y : List UInt8) (h : r = wParent ++ 32 :: (x ++ 10 :: y)) : hasP r = true := by
  subst h
  unfold hasP Lib.hasPrefix
  simp [wParent]
theorem pqs_back (u : Cm) (hu : WfC u) (ho : okC u) {ids : List (List Int)} {r : List UInt8} (h : PQs (tailB u 0) ids r) : ids.length ≤ u.ids.length ∧ ids = u.ids.take ids.length ∧ r = tailB u ids.length := by
  induction h using PQs.ind with
  | zero => exact ⟨Nat.zero_le _, rfl, rfl⟩
  | @step ids r fx h1 h2 h3 ih =>
    obtain ⟨i1, i2, i3⟩ := ih
    have hlt : ids.length < u.ids.length := by
      rcases Nat.lt_or_ge ids.length u.ids.length with h | h
      · exact h
      · rw [i3, tailB_end u _ h] at h2
        unfold hasP Lib.hasPrefix at h2
        simp [wAuthor, wParent] at h2
    have hx := hu.2 (u.ids.getD ids.length []) (by rw [List.getD_eq_getElem?_getD, List.getElem?_eq_getElem hlt]; exact List.getElem_mem _)
    have e1 : Ln r wParent (hexB (u.ids.getD ids.length [])) (tailB u (ids.length + 1)) := ⟨by rw [i3]; exact tailB_step u _ hlt, hexB_no _ hx.2⟩
    obtain ⟨f1, r1⟩ := ln_fld e1 (by decide)
    rw [f1] at h3
    have e : (ids ++ [fx]).length = ids.length + 1 := by simp
    refine ⟨by rw [e]; exact hlt, ?_, by rw [e]; exact r1⟩
    rw [e, take_snocI u.ids ids.length hlt, ← i2, pid_back _ fx hx.1 hx.2 h3]
theorem cm_back (u C : Cm) (hu : WfC u) (ho : okC u) (h : TC (cmB u) C) : C = u := by
  obtain ⟨g1, r, g2, g3, g4, g5, g6⟩ := h
  have e0 : Ln (cmB u) wTree (hexB u.tree) (tailB u 0) := ⟨cmB_tree u, hexB_no u.tree hu.1.2⟩
  obtain ⟨f0, r0⟩ := ln_fld e0 (by decide)
  rw [f0] at g1
  rw [r0] at g2
  obtain ⟨i1, i2, i3⟩ := pqs_back u hu ho g2
  have hge : u.ids.length ≤ C.ids.length := by
    rcases Nat.lt_or_ge C.ids.length u.ids.length with h | h
    · have := fld_hasP r _ _ (by rw [i3]; exact tailB_step u _ h)
      rw [this] at g3
      cases g3
    · exact h
  rw [tailB_end u _ hge] at i3
  have e3 : Ln r wAuthor (perB u.au) (wCommitter ++ 32 :: (perB u.co ++ 10 :: (10 :: u.msg))) := ⟨i3, perB_no _ ho.2.2.1⟩
  obtain ⟨f3, r3⟩ := ln_fld e3 (by decide)
  have e4 : Ln (wCommitter ++ 32 :: (perB u.co ++ 10 :: (10 :: u.msg))) wCommitter (perB u.co) (10 :: u.msg) := ⟨rfl, perB_no _ ho.2.2.2.1⟩
  obtain ⟨f4, r4⟩ := ln_fld e4 (by decide)
  have r5 : rst (10 :: u.msg) = u.msg := by
    unfold rst
    rw [show (10 : UInt8) :: u.msg = [] ++ 10 :: u.msg from rfl, cut_one [] u.msg 10 (by simp)]
  rw [f3] at g4
  rw [r3, f4] at g5
  rw [r3, r4, r5] at g6
  have a1 := pid_back u.tree C.tree hu.1.1 hu.1.2 g1
  have a2 : C.ids = u.ids := by rw [i2]; exact List.take_of_length_le hge
  have a3 := pp_back u.au ho.2.2.1 C.au g4
  have a4 := pp_back u.co ho.2.2.2.1 C.co g5
  obtain ⟨x1, x2, x3, x4, x5⟩ := C
  obtain ⟨y1, y2, y3, y4, y5⟩ := u
  simp only at a1 a2 a3 a4 g6
  subst a1
  subst a2
  subst a3
  subst a4
  subst g6
  rfl
end Go.Proofs.YtbpdielmdhhdfaaGreatDoor
namespace Go.Proofs.YtbpdielmdhhdfaaGreatDoor
open Go.RowKit
set_option linter.unusedVariables false
set_option linter.unusedSimpArgs false
structure Bi (e : TypeId) (w0 w : World) (B : Nat) (v : Value) (ids : List (List Int)) : Prop where
  below : Below B w0 w
  own : w.ownsRow B e 20 v ids.length (ids.flatMap (row .u8))
  le : B ≤ w.heap.size
theorem Bi.alloc {e : TypeId} {w0 w : World} {B : Nat} {v : Value} {ids : List (List Int)} (h : Bi e w0 w B v ids) (o : Obj) : Bi e w0 (w.alloc o) B v ids :=
  ⟨h.below.alloc h.le o, h.own.alloc o, Nat.le_trans h.le (by simp)⟩
theorem bi_nil (e : TypeId) (w : World) (B : Nat) (h : B ≤ w.heap.size) : Bi e w w B (.slice none 0 0) [] := ⟨Below.refl _ _, ⟨rfl, .inl ⟨rfl, rfl⟩⟩, h⟩
theorem Bi.carry {e : TypeId} {w0 w w' : World} {B : Nat} {v : Value} {ids : List (List Int)} (h : Bi e w0 w B v ids) (hb : Below w.heap.size w w') : Bi e w0 w' B v ids :=
  ⟨h.below.trans (hb.mono h.le), h.own.kept (row := none) ⟨hb.os, hb.tape, hb.output, hb.size, fun k hk _ => hb.block k hk⟩ (by cases h : v.ownBlock <;> simp), Nat.le_trans h.le hb.size⟩
theorem fI_len (ids : List (List Int)) (h : ∀ x ∈ ids, x.length = 20) : (ids.flatMap (row .u8)).length = ids.length * 20 := by
  induction ids with
  | nil => rfl
  | cons x ids ih =>
    have h1 := ih (fun y hy => h y (by simp [hy]))
    have h2 : (row .u8 x).length = 20 := by rw [row_len]; exact h x (by simp)
    simp only [List.flatMap_cons, List.length_append, List.length_cons] at h1 ⊢
    omega
theorem fI_one (ids : List (List Int)) : ∀ v ∈ ids.flatMap (row .u8), v.oneCell' = true := by
  intro v hv
  obtain ⟨x, _, h⟩ := List.mem_flatMap.1 hv
  exact row_one _ x v h
theorem fI_at : ∀ (ids : List (List Int)) (h : ∀ x ∈ ids, x.length = 20) (i j : Nat), i < ids.length → j < 20 → (ids.flatMap (row .u8))[i * 20 + j]? = (row .u8 (ids.getD i []))[j]?
  | [], h, i, j, hi, hj => by simp at hi
  | x :: r, h, 0, j, hi, hj => by
    have h2 : (row .u8 x).length = 20 := by rw [row_len]; exact h x (by simp)
    simp only [List.flatMap_cons, Nat.zero_mul, Nat.zero_add]
    rw [List.getElem?_append_left (by omega)]
    rfl
  | x :: r, h, i + 1, j, hi, hj => by
    have h2 : (row .u8 x).length = 20 := by rw [row_len]; exact h x (by simp)
    have := fI_at r (fun y hy => h y (by simp [hy])) i j (by simpa using hi) hj
    simp only [List.flatMap_cons]
    rw [List.getElem?_append_right (by omega), h2, show (i + 1) * 20 + j - 20 = i * 20 + j by omega, this]
    rfl
theorem Pa.cells {w : World} {b off cap : Nat} {ids : List (List Int)} (h : Pa w (some ⟨b, off, none⟩) cap ids) (hw : ∀ x ∈ ids, x.length = 20) : ∀ (j : Nat) (u : Value), (ids.flatMap (row .u8))[j]? = some u → w.cell? ((⟨b, off, none⟩ : Addr).add j) = some u := by
  intro j u hj
  have hlt := (List.getElem?_eq_some_iff.1 hj).1
  rw [fI_len ids hw] at hlt
  have hd : j / 20 < ids.length := Nat.div_lt_of_lt_mul (by omega)
  have hm : j % 20 < 20 := Nat.mod_lt _ (by omega)
  obtain ⟨b', off', e1, e2, e3⟩ := h.at_ (by omega)
  cases e1
  have e : j / 20 * 20 + j % 20 = j := by omega
  have hf := fI_at ids hw (j / 20) (j % 20) hd hm
  rw [e, hj] at hf
  have := e3 (j / 20) hd (j % 20) u hf.symm
  rw [addr_add, ← this]
  congr 2
  omega
theorem wpList_bi_sl {w w0 : World} {ops : Array Oper} {rest : List Oper} {o : Oper} {a : Act} {Q : Exit → Act → World → Prop} (hgd : o.guard = none) (s x : Operand) (t e : TypeId) (hu : Tryz.prog.underlying t = some (.slice e)) (hin : (Tryz.prog.info? e).map (fun i => (i.zero, i.size, i.bytes)) = some (some (.agg (row .u8 z20).toArray), 20, 20))
    (ho : o.op = .call { callee := .builtin .append, args := #[s, x], argTypes := #[t, t] }) (B : Nat) (v : Value) (ids : List (List Int)) (hs : a.eval s = v) (h : Bi e w0 w B v ids)
    (ax : Option Addr) (cx : Nat) (l : List (List Int)) (hx : a.eval x = .slice ax l.length cx) (hP : Pa w ax cx l) (hw : ∀ x ∈ l, x.length = 20) (hl : ids.length + l.length ≤ 30000)
    (hK : ∀ v' w', Bi e w0 w' B v' (ids ++ l) → w.grownBy w' v.ownBlock → wpList Tryz.prog ops Q rest (a.put o.dst v') w') : wpList Tryz.prog ops Q (o :: rest) a w := by
  obtain ⟨i, hi, hz0, hz1, hz2⟩ := info_parts hin
  cases ax with
  | none =>
    have hc : cx = 0 := hP.nil rfl
    have hcl := hP.capl
    obtain rfl : l = [] := List.length_eq_zero_iff.1 (by omega)
    subst hc
    refine wpList_plain hgd fun K hK' => ?_
    have hr := run_append_owned_none (P := Tryz.prog) w B t o.type e i 20 hu hi v _ _ h.own
    unfold Oper.wp execOp
    simp only [List.length_nil] at hx
    simp only [ho, resolve, invoke, builtin, Sem.run_bind, Sem.run_pure, Result.andThen_ok, List.map_toArray, List.map_cons, List.map_nil, hs, hx, hr]
    exact hK' _ _ (hK v w (by simpa using h) ⟨rfl, rfl, rfl, Nat.le_refl _, fun _ _ _ => rfl⟩)
  | some ad =>
    obtain ⟨bk, of, fr⟩ := ad
    by_cases h0 : l.length = 0
    · obtain rfl : l = [] := List.length_eq_zero_iff.1 h0
      refine wpList_append_own_at w hgd s x t ho B e i (.agg (row .u8 z20).toArray) 20 20 hu hi hz0 hz1 hz2 rfl (by decide) v _ _ hs h.own ⟨bk, of, fr⟩ 0 cx [] hx rfl (fun j u hj => by cases hj) (fun u hu => by cases hu) (by unfold maxLen; omega) (by omega) h.le ?_
      intro v' w' h1 h2 h3 h4
      refine hK v' w' ⟨h.below.grown h2 h.le (fun k hk => (own_lt h.own k hk).1), ?_, Nat.le_trans h.le h2.size⟩ h2
      simpa using h1
    · obtain ⟨b', off', e1, _⟩ := hP.at_ (by omega)
      cases e1
      refine wpList_append_own_at w hgd s x t ho B e i (.agg (row .u8 z20).toArray) 20 20 hu hi hz0 hz1 hz2 rfl (by decide) v _ _ hs h.own ⟨bk, of, none⟩ l.length cx (l.flatMap (row .u8)) hx (fI_len l hw) (hP.cells hw) (fI_one l) (by unfold maxLen; omega) (by omega) h.le ?_
      intro v' w' h1 h2 h3 h4
      refine hK v' w' ⟨h.below.grown h2 h.le (fun k hk => (own_lt h.own k hk).1), ?_, Nat.le_trans h.le h2.size⟩ h2
      rw [List.length_append, List.flatMap_append]
      exact h1
theorem wpList_bS {P : Program} {ops : Array Oper} {rest : List Oper} {o : Oper} {a : Act} {w w' : World} {Q : Exit → Act → World → Prop} (hg : o.guard = none) (t len : Nat) (x : Operand) (ho : o.op = .buildSlice t len #[(0, x)]) (u v : Value) (hx : a.eval x = u)
    (hr : (Instr.buildSlice t len #[(0, u)]).run P w = .ok v w')
    (h : wpList P ops Q rest (a.put o.dst v) w') : wpList P ops Q (o :: rest) a w := by
  refine wpList_plain hg fun K hK => ?_
  unfold Oper.wp execOp
  simp [ho, hx, hr, Result.andThen]
  exact hK _ _ h
theorem pa_one (w : World) (x : List Int) (e : TypeId) (h : x.length = 20) : Pa (w.alloc (.cells (row .u8 x).toArray e)) (some ⟨w.heap.size, 0, none⟩) 1 [x] :=
  ⟨Nat.le_refl _, fun _ => ⟨w.heap.size, 0, rfl, by simp, fun i hi j v hv => by
    obtain rfl : i = 0 := by simpa using hi
    have := range_row (heap_alloc_new w (.cells (row .u8 x).toArray e)) j v hv
    simpa using this⟩, fun h => by cases h⟩
theorem Bi.pa {e : TypeId} {w0 w : World} {B : Nat} {v : Value} {ids : List (List Int)} (h : Bi e w0 w B v ids) (hw : WfI ids) : ∃ a cap, v = .slice a ids.length cap ∧ Pa w a cap ids := by
  have h1 := h.own
  obtain ⟨hl, ⟨hv, h0⟩ | ⟨g, cap2, cur, hv, hb, hh, hkc, hcm, hsz, htk⟩⟩ := h.own
  · refine ⟨none, 0, ?_, ?_⟩
    · rw [hv, h0]
    · rw [hv] at h1
      have e : Value.slice none 0 0 = .slice none ids.length 0 := by rw [h0]
      rw [e] at h1
      exact OE.pa h1 hw
  · refine ⟨_, cap2, hv, ?_⟩
    rw [hv] at h1
    exact OE.pa h1 hw
theorem Tryz.info32' : (Tryz.prog.info? 32).map (fun i => (i.zero, i.size, i.bytes)) = some (some (.agg (row .u8 z20).toArray), 20, 20) := by kernel_rfl
theorem Tryz.info31' : (Tryz.prog.info? 31).map (fun i => (i.zero, i.size, i.bytes)) = some (some (.agg (row .u8 z20).toArray), 20, 20) := by kernel_rfl
set_option maxRecDepth 20000 in
set_option maxHeartbeats 1000000 in
theorem grow_any (n : Nat) (h1 : 1 ≤ n) (hn : n ≤ 1000) (w : World) : Calls Tryz.prog 145 #[.slice none 0 0, .int .i64 n] w fun e w' => ∃ v, e = .returned v ∧ Bi 32 w w' w.heap.size v [] := by
  obtain ⟨i, hi, hz0, hz1, hz2⟩ := info_parts Tryz.info32'
  have hr := fun ty w => Lib.run_append_nil_zeros (P := Tryz.prog) w 56 3 ty 32 i (.agg (row .u8 z20).toArray) .i64 .i64 Tryz.underlying56 Tryz.underlying3 hi hz0 n h1 (by omega) (by omega) (by rw [hz2]; omega)
  have hc := grownCap_ge w n 0 32
  have hcm := grownCap_le_maxLen w n 0 32 (by unfold maxLen; omega)
  obtain ⟨cp, HC⟩ : ∃ cp, Hid (grownCap w n 0 32 = cp) := ⟨_, rfl⟩
  obtain ⟨R, HR⟩ : ∃ R : Array Value, Hid ((Builtin.zeroCells (Value.agg (row .u8 z20).toArray).cells n ++ Builtin.zeroCells (Value.agg (row .u8 z20).toArray).cells (cp - n)) = R) := ⟨_, rfl⟩
  have hr1 := hr 56 w
  rw [HC.out] at hr1 hc hcm
  rw [HR.out] at hr1
  have HRS : Hid (R.size = cp * 20) := hid (by
    rw [← HR.out]
    have hz : ∀ k, (Builtin.zeroCells (Value.agg (row .u8 z20).toArray).cells k).size = k * 20 := fun k => by
      simp [Builtin.zeroCells, Value.cells, row, z20]
    rw [Array.size_append, hz, hz, ← Nat.add_mul]
    congr 1
    omega)
  have hn0 : ¬ (n : Int) < 0 := by omega
  have hn1 : (0 : Int) < (n : Int) := by omega
  obtain ⟨G, HG⟩ : ∃ G, Hid (w.heap.size = G) := ⟨_, rfl⟩
  obtain ⟨w1, HW1⟩ : ∃ w1, Hid (w.drew.alloc (.cells R 32) = w1) := ⟨_, rfl⟩
  have HBI : Hid (Bi 32 w w1 G (.slice (some ⟨G, 0, none⟩) 0 cp) []) := hid (by
    rw [← HW1.out, ← HG.out]
    have hb : Below w.heap.size w (w.drew.alloc (.cells R 32)) := (below_drewH (Below.refl _ w) 1).alloc (Nat.le_refl _) _
    exact ⟨hb, ⟨rfl, .inr ⟨_, cp, R, rfl, Nat.le_refl _, heap_alloc_new w.drew _, Nat.zero_le _, hcm, HRS.out, by simp⟩⟩, hb.size⟩)
  rw [HW1.out, HG.out] at hr1
  rw [HG.out]
  clear hr hcm
  go_enter Tryz.func145, Tryz.ntmps145
  go_wp2_with (first
    | (at_builtin; refine Lib.wpList_append_run _ rfl _ _ 56 3 rfl _ _ rfl rfl _ _ hr1 ?_)
    | fail)
  go_ret
  exact ⟨_, rfl, HBI.out⟩
end Go.Proofs.YtbpdielmdhhdfaaGreatDoor
namespace Go.Proofs.YtbpdielmdhhdfaaGreatDoor
open Go.RowKit
set_option linter.unusedVariables false
set_option linter.unusedSimpArgs false
structure Er where
  mode : Int
  name : List UInt8
  id : List Int
def erV (e : Er) : List Value := .int .i64 e.mode :: .string ⟨e.name.toArray⟩ :: row .u8 e.id
def okM (m : Int) : Prop := m = 16384 ∨ m = 33188 ∨ m = 33261 ∨ m = 40960
def okE (s : List UInt8) : Prop := 1 ≤ s.length ∧ s.length ≤ 50 ∧ s ≠ [46] ∧ s ≠ [46, 46] ∧ s ≠ [46, 103, 105, 116] ∧ ∀ x ∈ s, x ≠ 47 ∧ x ≠ 0
def keyB (e : Er) : List UInt8 := if e.mode = 16384 then e.name ++ [47] else e.name
set_option maxRecDepth 20000 in
theorem isMode_any (m : Int) (w : World) : Calls Tryz.prog 86 #[.int .i64 m] w fun e w' => BIs (okM m) e ∧ w' = w := by
  by_cases h : okM m
  · have HM : Hid (okM m) := h
    rcases h with rfl | rfl | rfl | rfl
    all_goals
      go_enter Tryz.func86, Tryz.ntmps86
      go_wp2
      go_ret
      exact ⟨bis_true HM.out, rfl⟩
  · have HM : Hid (¬ okM m) := h
    have h1 : ¬ m = 16384 := fun e => h (Or.inl e)
    have h2 : ¬ m = 33188 := fun e => h (Or.inr (Or.inl e))
    have h3 : ¬ m = 33261 := fun e => h (Or.inr (Or.inr (Or.inl e)))
    have h4 : ¬ m = 40960 := fun e => h (Or.inr (Or.inr (Or.inr e)))
    clear h
    go_enter Tryz.func86, Tryz.ntmps86
    go_wp2
    go_ret
    exact ⟨bis_false HM.out, rfl⟩
theorem two_asc : Asc ⟨#[47, 0]⟩ := by
  intro j h
  have h' : j < 2 := h
  match j, h' with
  | 0, _ => exact (by decide : (47 : UInt8).toNat < 128)
  | 1, _ => exact (by decide : (0 : UInt8).toNat < 128)
theorem two_iff (s : List UInt8) : ¬ hasAny ⟨s.toArray⟩ ⟨#[47, 0]⟩ ↔ ∀ x ∈ s, x ≠ 47 ∧ x ≠ 0 := by
  unfold hasAny
  simp only [not_exists, not_and]
  constructor
  · intro h x hx
    have := h x hx
    simpa using this
  · intro h x hx
    have := h x hx
    simpa using this
set_option maxRecDepth 20000 in
theorem isEntryName_any (s : List UInt8) (w : World) : Calls Tryz.prog 87 #[.string ⟨s.toArray⟩] w fun e w' => BIs (okE s) e ∧ Below w.heap.size w w' := by
  by_cases hbad : s = [] ∨ s = [46] ∨ s = [46, 46] ∨ s = [46, 103, 105, 116]
  · have HOK : Hid (¬ okE s) := hid (by
      rintro ⟨h1, _, h3, h4, h5, _⟩
      rcases hbad with h | h | h | h
      · rw [h] at h1; exact absurd h1 (by decide)
      · exact h3 h
      · exact h4 h
      · exact h5 h)
    rcases hbad with rfl | rfl | rfl | rfl
    all_goals
      go_enter Tryz.func87, Tryz.ntmps87
      go_wp2
      go_ret
      exact ⟨bis_false HOK.out, Below.refl _ _⟩
  · obtain ⟨S, HS⟩ : ∃ S : ByteArray, Hid (S = ⟨s.toArray⟩) := ⟨_, rfl⟩
    have hsz : S.size = s.length := by rw [HS.out]; simp [ByteArray.size]
    have n0 : s ≠ [] := fun h => hbad (Or.inl h)
    have n1 : s ≠ [46] := fun h => hbad (Or.inr (Or.inl h))
    have n2 : s ≠ [46, 46] := fun h => hbad (Or.inr (Or.inr (Or.inl h)))
    have n3 : s ≠ [46, 103, 105, 116] := fun h => hbad (Or.inr (Or.inr (Or.inr h)))
    have eS : S.toList = s := by rw [HS.out, Lib.toList_data]
    have e0 : S.toList.isEmpty = false := by rw [eS]; simpa using n0
    have e1 : (S.toList == [46]) = false := by rw [eS]; simpa using n1
    have e2 : (S.toList == [46, 46]) = false := by rw [eS]; simpa using n2
    have e3 : (S.toList == [46, 103, 105, 116]) = false := by rw [eS]; simpa using n3
    clear eS
    have HCA : Hid (s.length ≤ 50 → ∀ w, Calls Tryz.prog 125 #[.string S, .string ⟨#[47, 0]⟩] w fun e w' => BIs (hasAny ⟨s.toArray⟩ ⟨#[47, 0]⟩) e ∧ Below w.heap.size w w') := fun h50 w => by
      rw [HS.out]
      refine (containsAny_any ⟨s.toArray⟩ ⟨#[47, 0]⟩ (by decide) (by decide) two_asc (by simp [ByteArray.size]; omega) w).mono ?_
      rintro e w' ⟨⟨b, rfl, hb⟩, h2⟩
      exact ⟨⟨b, rfl, hb⟩, h2⟩
    have HL : Hid (1 ≤ s.length) := hid (by
      rcases s with _ | ⟨x, s⟩
      · exact absurd rfl n0
      · simp)
    have HN : Hid (s ≠ [46] ∧ s ≠ [46, 46] ∧ s ≠ [46, 103, 105, 116]) := ⟨n1, n2, n3⟩
    rw [← HS.out]
    clear n0 n1 n2 n3 hbad
    by_cases h : s.length ≤ 50
    · have hi : (s.length : Int) ≤ 50 := by omega
      have h60 : Hid (s.length ≤ 50) := h
      clear h
      go_enter Tryz.func87, Tryz.ntmps87
      go_wp2_with fail
      refine (HCA.out h60.out _).mono ?_
      rintro ev w1 ⟨hbi, hb1⟩
      rcases bis_or hbi with ⟨hy, rfl⟩ | ⟨hn, rfl⟩
      · have HOK : Hid (¬ okE s) := fun h2 => absurd hy ((two_iff s).2 h2.2.2.2.2.2)
        clear hy hbi
        go_wp2
        go_ret
        exact ⟨bis_false HOK.out, hb1⟩
      · have HOK : Hid (okE s) := ⟨HL.out, h60.out, HN.out.1, HN.out.2.1, HN.out.2.2, (two_iff s).1 hn⟩
        clear hn hbi
        go_wp2
        go_ret
        exact ⟨bis_true HOK.out, hb1⟩
    · have hi : ¬ (s.length : Int) ≤ 50 := by omega
      have HOK : Hid (¬ okE s) := fun h2 => h h2.2.1
      clear h
      go_enter Tryz.func87, Tryz.ntmps87
      go_wp2
      go_ret
      exact ⟨bis_false HOK.out, Below.refl _ _⟩
def Grew (w w' : World) : Prop := ∃ q os, w' = Sort.grow (w.drewN q) os
theorem Grew.below {w w' : World} (h : Grew w w') : Below w.heap.size w w' := by
  obtain ⟨q, os, rfl⟩ := h
  refine ⟨rfl, rfl, rfl, by simp [Sort.grow], fun j hj => ?_⟩
  show (w.heap ++ os)[j]? = _
  rw [Array.getElem?_append_left hj]
theorem Grew.alloc (w : World) (o : Obj) : Grew w (w.alloc o) := ⟨0, #[o], by rw [Sort.alloc_eq_grow]; rfl⟩
set_option maxRecDepth 20000 in
theorem placeName_any (e : Er) (hn : e.name.length ≤ 1000000) (hl : e.id.length = 20) (w : World) : Calls Tryz.prog 93 #[.agg (erV e).toArray] w fun r w' => r = .returned (.string ⟨(keyB e).toArray⟩) ∧ Grew w w' := by
  obtain ⟨S, HS⟩ : ∃ S : ByteArray, Hid (S = ⟨e.name.toArray⟩) := ⟨_, rfl⟩
  obtain ⟨m, HM⟩ : ∃ m, Hid (e.mode = m) := ⟨_, rfl⟩
  have hsz : S.size = e.name.length := by rw [HS.out]; simp [ByteArray.size]
  have hS1 : ¬ 9223372036854775807 < S.size + 1 := by omega
  have hS2 : ¬ 9223372036854775807 ≤ S.size := by omega
  have h47 : (⟨#[47]⟩ : ByteArray).size = 1 := rfl
  have HE : Hid (S ++ ⟨#[47]⟩ = ⟨(e.name ++ [47]).toArray⟩) := hid (by
    rw [HS.out, show (⟨#[47]⟩ : ByteArray) = ⟨[47].toArray⟩ from rfl]
    exact str_app _ _)
  have HG : Hid (∀ o, Grew w (w.alloc o)) := fun o => Grew.alloc w o
  obtain ⟨a0, a1, a2, a3, a4, a5, a6, a7, a8, a9, a10, a11, a12, a13, a14, a15, a16, a17, a18, a19, el⟩ := list20 e.id hl
  have HV : Hid ((erV e).toArray = (Value.int .i64 m :: Value.string S :: row .u8 [a0, a1, a2, a3, a4, a5, a6, a7, a8, a9, a10, a11, a12, a13, a14, a15, a16, a17, a18, a19]).toArray) := hid (by unfold erV; rw [HM.out, HS.out, el])
  rw [HV.out]
  clear el hl hn
  simp only [row, List.map_cons, List.map_nil]
  by_cases h : m = 16384
  · have HK : Hid (⟨(keyB e).toArray⟩ = S ++ ⟨#[47]⟩) := hid (by rw [HE.out]; unfold keyB; rw [HM.out, if_pos h])
    rw [HK.out]
    subst h
    go_enter Tryz.func93, Tryz.ntmps93
    go_wp2
    go_ret
    exact ⟨rfl, HG.out _⟩
  · have HK : Hid (⟨(keyB e).toArray⟩ = S) := hid (by rw [HS.out]; unfold keyB; rw [HM.out, if_neg h])
    rw [HK.out]
    go_enter Tryz.func93, Tryz.ntmps93
    go_wp2
    go_ret
    exact ⟨rfl, HG.out _⟩
end Go.Proofs.YtbpdielmdhhdfaaGreatDoor
namespace Go.Proofs
open Go.Shelf
def Tryz.lays106_ren : Go.Shelf.Ren := ⟨fun | 106 => 92 | 213 => 129 | 265 => 165 | n => n, fun | 9 => 9 | 3 => 3 | n => n, fun | n => n⟩
theorem Tryz.lays106 : Go.Proofs.Lays.n106 Tryz.prog Tryz.lays106_ren := {
  mixed := by kernel_rfl
  f106 := Tryz.func92.trans (congrArg some (by kernel_rfl))
  f213 := Tryz.func129.trans (congrArg some (by kernel_rfl))
  f265 := Tryz.func165.trans (congrArg some (by kernel_rfl))
  t3 := Tryz.underlying3
  a3 := Tryz.isAgg3
  z3 := Tryz.sizeOf3
  v3 := Tryz.zeroValue3
  t9 := Tryz.underlying9
  a9 := Tryz.isAgg9
  z9 := Tryz.sizeOf9
  v9 := Tryz.zeroValue9 }
def Tryz.sortE_ren : Go.Shelf.Ren := ⟨fun | 6 => 90 | 15 => 128 | 14 => 127 | 28 => 163 | 29 => 164 | 20 => 155 | 21 => 156 | 22 => 157 | 23 => 158 | 24 => 159 | 25 => 160 | 26 => 161 | 27 => 162 | 46 => 196 | 47 => 197 | 48 => 198 | 49 => 199 | 50 => 200 | 57 => 219 | n => n, fun | 22 => 47 | 24 => 51 | 25 => 99 | 3 => 3 | 39 => 170 | 0 => 0 | 53 => 148 | 55 => 147 | 4 => 4 | 46 => 239 | 45 => 238 | 50 => 243 | 5 => 5 | 9 => 9 | 66 => 269 | 70 => 273 | 76 => 286 | 77 => 287 | n => n, fun | n => n⟩
theorem Tryz.sortE : Go.Proofs.SlLaysF0.n6 Tryz.prog Tryz.sortE_ren := {
  mixed := by kernel_rfl
  f6 := ⟨Tryz.f90.name, by decide, Tryz.func90.trans (congrArg some (by kernel_rfl))⟩
  f14 := ⟨Tryz.f127.name, by decide, Tryz.func127.trans (congrArg some (by kernel_rfl))⟩
  f15 := Tryz.func128.trans (congrArg some (by kernel_rfl))
  f20 := ⟨Tryz.f155.name, by decide, Tryz.func155.trans (congrArg some (by kernel_rfl))⟩
  f21 := ⟨Tryz.f156.name, by decide, Tryz.func156.trans (congrArg some (by kernel_rfl))⟩
  f22 := ⟨Tryz.f157.name, by decide, Tryz.func157.trans (congrArg some (by kernel_rfl))⟩
  f23 := ⟨Tryz.f158.name, by decide, Tryz.func158.trans (congrArg some (by kernel_rfl))⟩
  f24 := ⟨Tryz.f159.name, by decide, Tryz.func159.trans (congrArg some (by kernel_rfl))⟩
  f25 := ⟨Tryz.f160.name, by decide, Tryz.func160.trans (congrArg some (by kernel_rfl))⟩
  f26 := ⟨Tryz.f161.name, by decide, Tryz.func161.trans (congrArg some (by kernel_rfl))⟩
  f27 := ⟨Tryz.f162.name, by decide, Tryz.func162.trans (congrArg some (by kernel_rfl))⟩
  f28 := Tryz.func163.trans (congrArg some (by kernel_rfl))
  f29 := Tryz.func164.trans (congrArg some (by kernel_rfl))
  f46 := ⟨Tryz.f196.name, by decide, Tryz.func196.trans (congrArg some (by kernel_rfl))⟩
  f47 := Tryz.func197.trans (congrArg some (by kernel_rfl))
  f48 := Tryz.func198.trans (congrArg some (by kernel_rfl))
  f49 := ⟨Tryz.f199.name, by decide, Tryz.func199.trans (congrArg some (by kernel_rfl))⟩
  f50 := ⟨Tryz.f200.name, by decide, Tryz.func200.trans (congrArg some (by kernel_rfl))⟩
  f57 := ⟨Tryz.f219.name, by decide, Tryz.func219.trans (congrArg some (by kernel_rfl))⟩
  t0 := Tryz.underlying0
  a0 := Tryz.isAgg0
  z0 := Tryz.sizeOf0
  v0 := Tryz.zeroValue0
  t3 := Tryz.underlying3
  a3 := Tryz.isAgg3
  z3 := Tryz.sizeOf3
  v3 := Tryz.zeroValue3
  t4 := Tryz.underlying4
  a4 := Tryz.isAgg4
  z4 := Tryz.sizeOf4
  v4 := Tryz.zeroValue4
  t5 := Tryz.underlying5
  a5 := Tryz.isAgg5
  z5 := Tryz.sizeOf5
  v5 := Tryz.zeroValue5
  t9 := Tryz.underlying9
  a9 := Tryz.isAgg9
  z9 := Tryz.sizeOf9
  v9 := Tryz.zeroValue9
  t22 := Tryz.underlying47
  a22 := Tryz.isAgg47
  z22 := Tryz.sizeOf47
  v22 := Tryz.zeroValue47
  t25 := Tryz.underlying99
  a25 := Tryz.isAgg99
  z25 := Tryz.sizeOf99
  v25 := Tryz.zeroValue99
  t39 := Tryz.underlying170
  a39 := Tryz.isAgg170
  z39 := Tryz.sizeOf170
  v39 := Tryz.zeroValue170
  t45 := Tryz.underlying238
  a45 := Tryz.isAgg238
  z45 := Tryz.sizeOf238
  v45 := Tryz.zeroValue238
  t46 := Tryz.underlying239
  a46 := Tryz.isAgg239
  z46 := Tryz.sizeOf239
  v46 := Tryz.zeroValue239
  t50 := Tryz.underlying243
  a50 := Tryz.isAgg243
  z50 := Tryz.sizeOf243
  v50 := Tryz.zeroValue243
  t53 := Tryz.underlying148
  a53 := Tryz.isAgg148
  z53 := Tryz.sizeOf148
  v53 := Tryz.zeroValue148
  t55 := Tryz.underlying147
  a55 := Tryz.isAgg147
  z55 := Tryz.sizeOf147
  v55 := Tryz.zeroValue147
  t66 := Tryz.underlying269
  a66 := Tryz.isAgg269
  z66 := Tryz.sizeOf269
  v66 := Tryz.zeroValue269
  t70 := Tryz.underlying273
  a70 := Tryz.isAgg273
  z70 := Tryz.sizeOf273
  v70 := Tryz.zeroValue273
  t76 := Tryz.underlying286
  a76 := Tryz.isAgg286
  z76 := Tryz.sizeOf286
  v76 := Tryz.zeroValue286
  t77 := Tryz.underlying287
  a77 := Tryz.isAgg287
  z77 := Tryz.sizeOf287
  v77 := Tryz.zeroValue287 }
end Go.Proofs
