import Derived.Test.YtenbdeljblmbhaaGreatDoorMc33
import Derived.Test.YtenbdeljblmbhaaGreatDoorMc35
import Derived.Test.YtenbdeljblmbhaaGreatDoorMc38
import Derived.Test.YtenbdeljblmbhaaGreatDoorMc11
import Derived.Test.YtenbdeljblmbhaaGreatDoorMc25
import Derived.Deep.Onto
/- The document's side of chapter 3: a commit, read: what is used on the way. -/
namespace Go.Proofs.YtenbdeljblmbhaaGreatDoor
open Go.RowKit
set_option linter.unusedVariables false
set_option linter.unusedSimpArgs false
/-- Ids in a row of their own, of whatever type's name. -/
def OE (e : TypeId) (B : Nat) (a : Option Addr) (cap : Nat) (ids : List (List Int)) (W : World) : Prop := W.ownsRow B e 20 (.slice a ids.length cap) ids.length (ids.flatMap (row .u8))
section
variable {e : TypeId} {B B' g : Nat} {a : Option Addr} {cap : Nat} {ids : List (List Int)} {W W' : World}
theorem OE.keep (h : OE e B a cap ids W) (hb : Below W.heap.size W W') : OE e B a cap ids W' := World.ownsRow.kept h (grown_of_below hb none) (by
  cases a with
  | none => left; rfl
  | some x => right; simp [Value.ownBlock])
theorem OE.step (h : OE e B a cap ids W) (hgr : W.grownBy W' (some g)) (hg : g < B) : OE e B a cap ids W' := by
  refine World.ownsRow.kept h hgr ?_
  obtain ⟨_, ⟨hv, _⟩ | ⟨g2, cap2, cur, hv, hb, _⟩⟩ := h
  · rw [hv]; left; rfl
  · rw [hv]; right
    simp [Value.ownBlock]
    omega
theorem OE.setCells (h : OE e B a cap ids W) (hg : g < B) (o : Nat) (vs : List Value) : OE e B a cap ids (W.setCells g o vs) := by
  have hb := below_setCells (Nat.le_refl g) vs o W W (Below.refl g W)
  exact h.step ⟨hb.os, hb.tape, hb.output, hb.size, fun k hk hne => heap_setCells_other g k (fun e => hne (by rw [e])) vs o _⟩ hg
theorem OE.setRow (h : OE e B a cap ids W) (hg : g < B) (vs : Array Value) : OE e B a cap ids (W.setRow g vs) := by
  have hb := below_setRow (Below.refl g W) (Nat.le_refl g) vs
  exact h.step ⟨hb.os, hb.tape, hb.output, hb.size, fun k hk hne => setRow_other _ _ _ _ (fun e => hne (by rw [e]))⟩ hg
theorem OE.lower (h : OE e B a cap ids W) (hb : B' ≤ B) : OE e B' a cap ids W := by
  obtain ⟨hl, h | ⟨g, cap2, cur, hv, hg, r⟩⟩ := h
  · exact ⟨hl, .inl h⟩
  · exact ⟨hl, .inr ⟨g, cap2, cur, hv, by omega, r⟩⟩
theorem OE.snoc {ao : Option Addr} {n : Nat} {fr : List Int} (hn : ids.length = n) (h : W.ownsRow B e 20 (.slice ao (n + 1 : Nat) cap) (n + 1) (ids.flatMap (row .u8) ++ row .u8 fr)) : OE e B ao cap (ids ++ [fr]) W := by
  unfold OE
  have e1 : (ids ++ [fr]).length = n + 1 := by simp [hn]
  rw [e1, List.flatMap_append]
  simpa using h
theorem OE.pa (h : OE e B a cap ids W) (hw : WfI ids) : Pa W a cap ids := by
  obtain ⟨hl, ⟨hv, h0⟩ | ⟨g, cap2, cur, hv, hb, hh, hkc, hcm, hsz, htk⟩⟩ := h
  · simp only [Value.slice.injEq] at hv
    obtain ⟨rfl, _, rfl⟩ := hv
    exact ⟨by omega, fun h => by omega, fun _ => rfl⟩
  · simp only [Value.slice.injEq] at hv
    obtain ⟨rfl, _, rfl⟩ := hv
    refine ⟨hkc, fun _ => ⟨g, 0, rfl, (Array.getElem?_eq_some_iff.1 hh).1, fun i hi j v hv => ?_⟩, fun e => by cases e⟩
    have h1 := flat_at ids hw i j v hi hv
    rw [← htk] at h1
    rw [Nat.zero_add, cell_of_row W g (i * 20 + j) _ _ _ hh]
    have hlt : i * 20 + j < ids.length * 20 := by
      have h2 := (List.getElem?_eq_some_iff.1 h1).1
      rw [List.length_take] at h2
      omega
    rw [List.getElem?_take_of_lt hlt] at h1
    simpa using h1
end
/-- What stands behind a commit's first ids. -/
def tailB (u : Cm) (k : Nat) : List UInt8 := (u.ids.drop k).flatMap (fun x => ln2 w_parent.data.toList (hexB x)) ++ (ln2 w_author.data.toList (perB u.au) ++ (ln2 w_committer.data.toList (perB u.co) ++ 10 :: u.msg))
theorem cmB_tree (u : Cm) : cmB u = wTree ++ 32 :: (hexB u.tree ++ 10 :: tailB u 0) := by
  simp [cmB, tailB, ln2, w_tree, wTree]
theorem tailB_step (u : Cm) (k : Nat) (h : k < u.ids.length) : tailB u k = wParent ++ 32 :: (hexB (u.ids.getD k []) ++ 10 :: tailB u (k + 1)) := by
  unfold tailB
  rw [List.drop_eq_getElem_cons h, List.flatMap_cons, List.getD_eq_getElem?_getD, List.getElem?_eq_getElem h]
  simp [ln2, w_parent, wParent]
theorem tailB_end (u : Cm) (k : Nat) (h : u.ids.length ≤ k) : tailB u k = wAuthor ++ 32 :: (perB u.au ++ 10 :: (wCommitter ++ 32 :: (perB u.co ++ 10 :: (10 :: u.msg)))) := by
  unfold tailB
  rw [List.drop_of_length_le h]
  simp [ln2, w_author, w_committer, wAuthor, wCommitter]
/-- What the text that is left must be, if the whole is a commit's. -/
def UI (l : List UInt8) (fr : List Int) (ids : List (List Int)) (r : List UInt8) : Prop := ∀ u : Cm, WfC u → okC u → cmB u = l → fr = u.tree ∧ ids.length ≤ u.ids.length ∧ ids = u.ids.take ids.length ∧ r = tailB u ids.length
theorem ui_start {l o1 r1 : List UInt8} {b1 gd : Bool} {fr : List Int} (p1 : PL l wTree o1 r1 b1) (hq : PQ o1 fr gd) : UI l fr [] r1 ∧ ∀ u : Cm, WfC u → okC u → cmB u = l → b1 = true ∧ gd = true := by
  have key : ∀ u : Cm, WfC u → okC u → cmB u = l → b1 = true ∧ gd = true ∧ fr = u.tree ∧ r1 = tailB u 0 := fun u hu ho h => by
    have e1 : Ln l wTree (hexB u.tree) (tailB u 0) := ⟨by rw [← h]; exact cmB_tree u, hexB_no u.tree hu.1.2⟩
    have t1 : b1 = true := by
      rcases Bool.eq_false_or_eq_true b1 with h | h
      · exact h
      · exact absurd e1 (p1.2.1 h _ _)
    obtain ⟨rfl, rfl⟩ := (p1.1 t1).uniq e1
    have e : (⟨(hexB u.tree).toArray⟩ : ByteArray) = strOfNums (Hx.hexOf u.tree) := rfl
    obtain ⟨g1, g2⟩ := hq.2.2 ⟨by rw [hexB_len, hu.1.1], by rw [e]; exact Hx.hex_good u.tree hu.1.1 hu.1.2⟩
    refine ⟨t1, g1, ?_, rfl⟩
    rw [g2, e]
    exact Hx.hex_back u.tree hu.1.1 hu.1.2
  refine ⟨fun u hu ho h => ?_, fun u hu ho h => ?_⟩
  · obtain ⟨_, _, h3, h4⟩ := key u hu ho h
    exact ⟨h3, Nat.zero_le _, rfl, h4⟩
  · obtain ⟨h1, h2, _⟩ := key u hu ho h
    exact ⟨h1, h2⟩
theorem UI.step {l r o r' : List UInt8} {fr fx : List Int} {ids : List (List Int)} {gd : Bool} (h : UI l fr ids r) (p : PL r wParent o r' true) (hq : PQ o fx gd) : UI l fr (ids ++ [fx]) r' ∧ ∀ u : Cm, WfC u → okC u → cmB u = l → gd = true := by
  have key : ∀ u : Cm, WfC u → okC u → cmB u = l → gd = true ∧ ids.length < u.ids.length ∧ fx = u.ids.getD ids.length [] ∧ r' = tailB u (ids.length + 1) := fun u hu ho hl => by
    obtain ⟨_, h2, h3, h4⟩ := h u hu ho hl
    have hlt : ids.length < u.ids.length := by
      rcases Nat.lt_or_ge ids.length u.ids.length with h | h
      · exact h
      · have h5 := (p.1 rfl).1
        rw [h4, tailB_end u _ h] at h5
        exact absurd (congrArg List.head? h5) (by simp [wAuthor, wParent])
    have hx := hu.2 (u.ids.getD ids.length []) (by rw [List.getD_eq_getElem?_getD, List.getElem?_eq_getElem hlt]; exact List.getElem_mem _)
    have e1 : Ln r wParent (hexB (u.ids.getD ids.length [])) (tailB u (ids.length + 1)) := ⟨by rw [h4]; exact tailB_step u _ hlt, hexB_no _ hx.2⟩
    obtain ⟨rfl, rfl⟩ := (p.1 rfl).uniq e1
    have e : (⟨(hexB (u.ids.getD ids.length [])).toArray⟩ : ByteArray) = strOfNums (Hx.hexOf (u.ids.getD ids.length [])) := rfl
    obtain ⟨g1, g2⟩ := hq.2.2 ⟨by rw [hexB_len, hx.1], by rw [e]; exact Hx.hex_good _ hx.1 hx.2⟩
    refine ⟨g1, hlt, ?_, rfl⟩
    rw [g2, e]
    exact Hx.hex_back _ hx.1 hx.2
  refine ⟨fun u hu ho hl => ?_, fun u hu ho hl => (key u hu ho hl).1⟩
  obtain ⟨k1, k2, k3, k4⟩ := key u hu ho hl
  obtain ⟨h1, h2, h3, h4⟩ := h u hu ho hl
  have e1 : (ids ++ [fx]).length = ids.length + 1 := by simp
  refine ⟨h1, by rw [e1]; exact k2, ?_, by rw [e1]; exact k4⟩
  rw [e1, take_snocI u.ids ids.length k2, ← h3, k3]
theorem UI.last {l r o r' : List UInt8} {fr : List Int} {ids : List (List Int)} (h : UI l fr ids r) (p : PL r wParent o r' false) (u : Cm) (hu : WfC u) (ho : okC u) (hl : cmB u = l) : fr = u.tree ∧ ids = u.ids ∧ r = wAuthor ++ 32 :: (perB u.au ++ 10 :: (wCommitter ++ 32 :: (perB u.co ++ 10 :: (10 :: u.msg)))) := by
  obtain ⟨h1, h2, h3, h4⟩ := h u hu ho hl
  have hge : u.ids.length ≤ ids.length := by
    rcases Nat.lt_or_ge ids.length u.ids.length with h | h
    · have hx := hu.2 (u.ids.getD ids.length []) (by rw [List.getD_eq_getElem?_getD, List.getElem?_eq_getElem h]; exact List.getElem_mem _)
      exact absurd (⟨by rw [h4]; exact tailB_step u _ h, hexB_no _ hx.2⟩ : Ln r wParent (hexB (u.ids.getD ids.length [])) (tailB u (ids.length + 1))) (p.2.1 rfl _ _)
    · exact h
  refine ⟨h1, ?_, by rw [h4]; exact tailB_end u _ hge⟩
  rw [h3]
  exact List.take_of_length_le hge
/-- The two persons' lines. -/
theorem UI.pers {l r o o3 r3 o4 r4 r' : List UInt8} {fr : List Int} {ids : List (List Int)} {b3 b4 : Bool} (h : UI l fr ids r) (p : PL r wParent o r' false) (p3 : PL r wAuthor o3 r3 b3) (p4 : PL r3 wCommitter o4 r4 b4) (u : Cm) (hu : WfC u) (ho : okC u) (hl : cmB u = l) :
    fr = u.tree ∧ ids = u.ids ∧ b3 = true ∧ b4 = true ∧ o3 = perB u.au ∧ o4 = perB u.co ∧ r4 = 10 :: u.msg := by
  obtain ⟨h1, h2, h3⟩ := h.last p u hu ho hl
  have e3 : Ln r wAuthor (perB u.au) (wCommitter ++ 32 :: (perB u.co ++ 10 :: (10 :: u.msg))) := ⟨h3, perB_no _ ho.2.2.1⟩
  have t3 : b3 = true := by
    rcases Bool.eq_false_or_eq_true b3 with h | h
    · exact h
    · exact absurd e3 (p3.2.1 h _ _)
  obtain ⟨rfl, rfl⟩ := (p3.1 t3).uniq e3
  have e4 : Ln (wCommitter ++ 32 :: (perB u.co ++ 10 :: (10 :: u.msg))) wCommitter (perB u.co) (10 :: u.msg) := ⟨rfl, perB_no _ ho.2.2.2.1⟩
  have t4 : b4 = true := by
    rcases Bool.eq_false_or_eq_true b4 with h | h
    · exact h
    · exact absurd e4 (p4.2.1 h _ _)
  obtain ⟨rfl, rfl⟩ := (p4.1 t4).uniq e4
  exact ⟨h1, h2, t3, t4, rfl, rfl, rfl⟩
/-- What the program reads of a commit's bytes is the commit. -/
theorem fld_hasP (r : List UInt8) (x y : List UInt8) (h : r = wParent ++ 32 :: (x ++ 10 :: y)) : hasP r = true := by
  subst h
  unfold hasP Lib.hasPrefix
  simp [wParent]
theorem pqs_back (u : Cm) (hu : WfC u) (ho : okC u) {ids : List (List Int)} {r : List UInt8} (h : PQs (tailB u 0) ids r) : ids.length ≤ u.ids.length ∧ ids = u.ids.take ids.length ∧ r = tailB u ids.length := by
  induction h with
  | zero => exact ⟨Nat.zero_le _, rfl, rfl⟩
  | @step ids r fx h1 h2 h3 ih =>
    obtain ⟨i1, i2, i3⟩ := ih
    have hlt : ids.length < u.ids.length := by
      rcases Nat.lt_or_ge ids.length u.ids.length with h | h
      · exact h
      · rw [i3, tailB_end u _ h] at h2
        unfold hasP Lib.hasPrefix at h2
        simp [wAuthor, wParent] at h2
    have hx := hu.2 (u.ids.getD ids.length []) (by rw [List.getD_eq_getElem?_getD, List.getElem?_eq_getElem hlt]; exact List.getElem_mem _)
    have e1 : Ln r wParent (hexB (u.ids.getD ids.length [])) (tailB u (ids.length + 1)) := ⟨by rw [i3]; exact tailB_step u _ hlt, hexB_no _ hx.2⟩
    obtain ⟨f1, r1⟩ := ln_fld e1 (by decide)
    rw [f1] at h3
    have e : (ids ++ [fx]).length = ids.length + 1 := by simp
    refine ⟨by rw [e]; exact hlt, ?_, by rw [e]; exact r1⟩
    rw [e, take_snocI u.ids ids.length hlt, ← i2, pid_back _ fx hx.1 hx.2 h3]
theorem cm_back (u C : Cm) (hu : WfC u) (ho : okC u) (h : TC (cmB u) C) : C = u := by
  obtain ⟨g1, r, g2, g3, g4, g5, g6⟩ := h
  have e0 : Ln (cmB u) wTree (hexB u.tree) (tailB u 0) := ⟨cmB_tree u, hexB_no u.tree hu.1.2⟩
  obtain ⟨f0, r0⟩ := ln_fld e0 (by decide)
  rw [f0] at g1
  rw [r0] at g2
  obtain ⟨i1, i2, i3⟩ := pqs_back u hu ho g2
  have hge : u.ids.length ≤ C.ids.length := by
    rcases Nat.lt_or_ge C.ids.length u.ids.length with h | h
    · have := fld_hasP r _ _ (by rw [i3]; exact tailB_step u _ h)
      rw [this] at g3
      cases g3
    · exact h
  rw [tailB_end u _ hge] at i3
  have e3 : Ln r wAuthor (perB u.au) (wCommitter ++ 32 :: (perB u.co ++ 10 :: (10 :: u.msg))) := ⟨i3, perB_no _ ho.2.2.1⟩
  obtain ⟨f3, r3⟩ := ln_fld e3 (by decide)
  have e4 : Ln (wCommitter ++ 32 :: (perB u.co ++ 10 :: (10 :: u.msg))) wCommitter (perB u.co) (10 :: u.msg) := ⟨rfl, perB_no _ ho.2.2.2.1⟩
  obtain ⟨f4, r4⟩ := ln_fld e4 (by decide)
  have r5 : rst (10 :: u.msg) = u.msg := by
    unfold rst
    rw [show (10 : UInt8) :: u.msg = [] ++ 10 :: u.msg from rfl, cut_one [] u.msg 10 (by simp)]
  rw [f3] at g4
  rw [r3, f4] at g5
  rw [r3, r4, r5] at g6
  have a1 := pid_back u.tree C.tree hu.1.1 hu.1.2 g1
  have a2 : C.ids = u.ids := by rw [i2]; exact List.take_of_length_le hge
  have a3 := pp_back u.au ho.2.2.1 C.au g4
  have a4 := pp_back u.co ho.2.2.2.1 C.co g5
  obtain ⟨x1, x2, x3, x4, x5⟩ := C
  obtain ⟨y1, y2, y3, y4, y5⟩ := u
  simp only at a1 a2 a3 a4 g6
  subst a1
  subst a2
  subst a3
  subst a4
  subst g6
  rfl
end Go.Proofs.YtenbdeljblmbhaaGreatDoor
/- Package object: 'Decode'. -/
namespace Go.Proofs.YtenbdeljblmbhaaGreatDoor
open Go.RowKit
set_option linter.unusedVariables false
set_option linter.unusedSimpArgs false
/-- What is cut at the first 0: what stands ahead of it, what stands behind. -/
structure Cu (B : List UInt8) (i : Nat) (d : List UInt8) : Prop where
  le : i ≤ B.length
  gd : ∀ k D, Gd B k D → (Lib.cut (B.take i) [32]).1 = (kN k).data.toList ∧ D = d
  of : ∀ k : Nat, 1 ≤ k → k ≤ 4 → d.length ≤ 100000 → Lib.hasPrefix B (hd k d.length) = true → Gd B k d
theorem cu_none {B : List UInt8} (h : (0 : UInt8) ∉ B) : Cu B B.length [] := by
  refine ⟨Nat.le_refl _, fun k D hg => absurd hg.has h, fun k _ _ _ hp => ?_⟩
  obtain ⟨t, ht⟩ := List.isPrefixOf_iff_prefix.1 hp
  exact absurd (by rw [← ht, hd]; simp) h
theorem cu_some {a d : List UInt8} (h : (0 : UInt8) ∉ a) : Cu (a ++ 0 :: d) a.length d := by
  refine ⟨by simp, fun k D hg => ⟨?_, ((hg.cut rfl h).2).symm⟩, fun k h1 h4 hl hp => gd_of h1 h4 hl rfl h hp⟩
  rw [List.take_left]
  exact hg.name rfl h
theorem sl_one0 (w : World) (c : Int) : Sl (w.alloc (.cells #[.int .u8 c] 5)) (some ⟨w.heap.size, 0, none⟩) 1 [c] :=
  ⟨by simp, fun _ => ⟨w.heap.size, 0, rfl, by simp, fun i hi => by
    have : i = 0 := by simpa using hi
    subst this
    simp⟩, fun h => by cases h⟩
/-- A slice behind j bytes. -/
theorem Sl.from {w : World} {a : Option Addr} {cap : Nat} {l : List Int} (h : Sl w a cap l) (j : Nat) (hj : j ≤ l.length) (h0 : 0 < l.length) : Sl w (if cap = j then a else a.map (fun x => x.add j)) (cap - j) (l.drop j) := by
  obtain ⟨b, off, rfl, e2, e3⟩ := h.at_ h0
  have hc := h.capl
  refine ⟨by rw [List.length_drop]; omega, fun h1 => ?_, fun e => by split at e <;> cases e⟩
  rw [List.length_drop] at h1
  rw [if_neg (by omega)]
  refine ⟨b, off + j, by rw [Option.map_some, addr_add], e2, fun i hi => ?_⟩
  rw [List.length_drop] at hi
  rw [Nat.add_assoc, e3 (j + i) (by omega)]
  simp [List.getD_eq_getElem?_getD, List.getElem?_drop]
/-- What 'bytes.Cut' at a 0 gives. -/
theorem cut_zero (a : Option Addr) (cap : Nat) (zs : List Int) (w : World) (hz : IsB zs) (hS : Sl w a cap zs) :
    ∃ (i : Nat) (da : Option Addr) (dc : Nat) (dz : List Int) (f : Bool), Lib.cutV a zs.length cap 1 (Lib.index (Lib.bytesOf zs) [0]) = .tuple #[.slice a i cap, .slice da dz.length dc, .bool f] ∧ i ≤ zs.length ∧ dz.length ≤ zs.length ∧ IsB dz ∧ Cu (Lib.bytesOf zs) i (Lib.bytesOf dz) ∧ (∀ w', Below w.heap.size w w' → Sl w' da dc dz) := by
  have hlB : (Lib.bytesOf zs).length = zs.length := Lib.bytesOf_length zs
  rcases index_one 0 (Lib.bytesOf zs) with ⟨h1, h2⟩ | ⟨a', d', h1, h2, h3⟩
  · refine ⟨zs.length, none, 0, [], false, ?_, Nat.le_refl _, Nat.zero_le _, (fun x hx => by cases hx), ?_, fun w' _ => ⟨Nat.le_refl _, (fun h => by cases h), fun _ => rfl⟩⟩
    · unfold Lib.cutV; rw [h2, if_neg (by decide)]; rfl
    · have := cu_none h1; rw [hlB] at this; exact this
  · have hd' : d' = Lib.bytesOf (zs.drop (a'.length + 1)) := by rw [Lib.bytesOf_drop, h1]; simp
    have hln : a'.length + 1 ≤ zs.length := by rw [← hlB, h1]; simp
    refine ⟨a'.length, if cap = a'.length + 1 then a else a.map (fun x => x.add (a'.length + 1)), cap - (a'.length + 1), zs.drop (a'.length + 1), true, ?_, by omega, by rw [List.length_drop]; omega, fun x hx => hz x (List.mem_of_mem_drop hx), ?_, fun w' hb => (hS.below hb).from _ hln (by omega)⟩
    · unfold Lib.cutV Lib.fromV
      rw [h3, if_pos (by omega)]
      simp only [Int.toNat_natCast, List.length_drop]
    · rw [← hd', h1]
      exact cu_some h2
theorem there_of {w : World} {g : Nat} {cs : Array Value} {t : TypeId} (h : w.heap[g]? = some (.cells cs t (0, 0))) : w.there g 0 cs.size := fun j hj => by
  rw [Nat.zero_add]
  exact ⟨by rw [cell_of_row w g j _ t _ h]; simp [hj], frozen_of_row w g j _ t h⟩
theorem errE_0' (k : Int) (n : Nat) (h : ¬ (kN k).toList.isEmpty = true) (h2 : ¬ 100000 < n) : errE k n = 0 := by unfold errE; rw [if_neg h, if_neg h2]
theorem kN_ne (k : Nat) (h1 : 1 ≤ k) (h4 : k ≤ 4) : ¬ (kN k).toList.isEmpty = true := by
  have e1 : k = 1 ∨ k = 2 ∨ k = 3 ∨ k = 4 := by omega
  rw [Lib.toList_data, kN_list]
  rcases e1 with rfl | rfl | rfl | rfl <;> simp
theorem kO_gd {B : List UInt8} {i : Nat} {d : List UInt8} (hcu : Cu B i d) {Nm : ByteArray} (hN : Nm = ⟨(Lib.cut (B.take i) [32]).1.toArray⟩) {k : Nat} (hk : kO Nm k) {k' : Nat} {D : List UInt8} (hg : Gd B k' D) : k = k' ∧ D = d := by
  obtain ⟨h1, h2⟩ := hcu.gd k' D hg
  refine ⟨?_, h2⟩
  have hNl : Nm.toList = (kN k').data.toList := by rw [hN, Lib.toList_data]; exact h1
  rcases hk with ⟨e1, e2, e3⟩ | ⟨rfl, e2⟩
  · rw [hNl, Lib.toList_data] at e3
    exact kN_inj k k' e1 e2 hg.lo hg.hi (by simpa using e3)
  · have := e2 k' hg.lo hg.hi
    rw [hNl, Lib.toList_data] at this
    simp at this
theorem range_set2 {W : World} {G : Nat} {x y u v : Value} (c0 : W.cell? ⟨G, 0, none⟩ = some u) (c1 : W.cell? ⟨G, 1, none⟩ = some v) : World.rangeAt ((W.setCell ⟨G, 0, none⟩ x).setCell ⟨G, 1, none⟩ y) G 0 [x, y] := by
  intro j z hz
  rw [Nat.zero_add]
  match j, hz with
  | 0, hz =>
    simp at hz; subst hz
    rw [World.cell?_setCell_other (h := by simp)]
    exact World.cell?_setCell_same _ _ _ c0
  | 1, hz =>
    simp at hz; subst hz
    exact World.cell?_setCell_same _ _ _ (by rw [World.cell?_setCell_other (h := by simp)]; exact c1)
  | j + 2, hz => simp at hz
/-- What 'Decode' gives. -/
def PostD (zs : List Int) (w : World) (e : Ending) (w' : World) : Prop :=
  Below w.heap.size w w' ∧ ((∃ (k : Nat) (D : List UInt8) (g : Option Addr) (c : Nat), Gd (Lib.bytesOf zs) k D ∧ e = .returned (.tuple #[.agg #[.int .i64 k, .slice g D.length c], .nilIface]) ∧ w'.ownsRow w.heap.size 5 1 (.slice g D.length c) D.length ((nums D).map (Value.int .u8))) ∨
    ((∀ k D, ¬ Gd (Lib.bytesOf zs) k D) ∧ e = .returned (.tuple #[.agg #[.int .i64 0, .slice none 0 0], .iface 35 (.int .i64 24)])))
theorem Tryz.results40 : Tryz.f40.results = #[.cell 2 25, .tmp 3] := by kernel_rfl
theorem Tryz.size25 : (Tryz.prog.info? 25).map (·.size) = some 2 := by kernel_rfl
theorem zero25o (w : World) : (zeroValue 25).run Tryz.prog w = .ok (.agg #[.int .i64 0, .slice none 0 0]) w := by kernel_rfl
set_option maxRecDepth 20000 in
set_option maxHeartbeats 4000000 in
theorem decode_any (a : Option Addr) (cap : Nat) (zs : List Int) (w : World) (hl : zs.length ≤ 300000) (hz : IsB zs) (hS : Sl w a cap zs) (ht : Tab w) (hm : Mx w) :
    Calls Tryz.prog 40 #[.slice a zs.length cap] w (PostD zs w) := by
  obtain ⟨n, HN⟩ : ∃ n, Hid (zs.length = n) := ⟨_, rfl⟩
  obtain ⟨G, HG⟩ : ∃ G, Hid (w.heap.size = G) := ⟨_, rfl⟩
  obtain ⟨w1, HW1⟩ : ∃ w1, Hid ((w.alloc (.cells #[.int .i64 0, .slice none 0 0] 25)).alloc (.cells #[.int .u8 0] 5) = w1) := ⟨_, rfl⟩
  have HB1 : Hid (Below G w w1) := hid (by rw [← HW1.out, ← HG.out]; exact ((Below.refl _ w).alloc (Nat.le_refl _) _).alloc (by simp) _)
  have hs1 : w1.heap.size = G + 2 := by rw [← HW1.out, ← HG.out]; simp
  have HR1 : Hid (w1.heap[G]? = some (.cells #[.int .i64 0, .slice none 0 0] 25 (0, 0))) := hid (by
    have h1 := heap_alloc_new w (.cells #[.int .i64 0, .slice none 0 0] 25)
    rw [← HW1.out, ← HG.out, Below.heap_alloc _ _ _ (by simp)]
    exact h1)
  obtain ⟨i, da, dc, dz, f, hV, hi, hdz, hdb, hcu, hsl⟩ := cut_zero a cap zs w hz hS
  have HC1 : Hid (Calls Tryz.prog 81 #[.slice a n cap, .slice (some ⟨G + 1, 0, none⟩) 1 1] w1 fun e w' => e = .returned (.tuple #[.slice a i cap, .slice da dz.length dc, .bool f]) ∧ ∃ q, w' = w1.drewN q) := hid (by
    have h2 : Sl w1 (some ⟨G + 1, 0, none⟩) 1 [0] := by
      have := sl_one0 (w.alloc (.cells #[.int .i64 0, .slice none 0 0] 25)) 0
      rw [HW1.out] at this
      rw [← HG.out]
      simpa using this
    have := bcut_any a (some ⟨G + 1, 0, none⟩) cap 1 zs [0] w1 (by omega) (by simp) hz (by intro x hx; simp at hx; omega) (hS.below (by rw [HG.out]; exact HB1.out)) h2 (hm.below (by rw [HG.out]; exact HB1.out))
    rw [show Lib.bytesOf [0] = [0] from rfl, show ([0] : List Int).length = 1 from rfl, hV, HN.out] at this
    exact this)
  obtain ⟨dn, HDN⟩ : ∃ dn, Hid (dz.length = dn) := ⟨_, rfl⟩
  obtain ⟨Hs, HHs⟩ : ∃ S : ByteArray, Hid (S = ⟨((Lib.bytesOf zs).take i).toArray⟩) := ⟨_, rfl⟩
  obtain ⟨Nm, HNm⟩ : ∃ S : ByteArray, Hid (S = ⟨(Lib.cut ((Lib.bytesOf zs).take i) [32]).1.toArray⟩) := ⟨_, rfl⟩
  obtain ⟨Rs, HRs⟩ : ∃ S : ByteArray, Hid (S = ⟨(Lib.cut ((Lib.bytesOf zs).take i) [32]).2.1.toArray⟩) := ⟨_, rfl⟩
  obtain ⟨f2, HF2⟩ : ∃ f2 : Bool, Hid (f2 = (Lib.cut ((Lib.bytesOf zs).take i) [32]).2.2) := ⟨_, rfl⟩
  have HCV : Hid (∀ W, Below G w W → Sem.run Tryz.prog (convert 23 9 (.slice a i cap)) W = .ok (.string Hs) W) := fun W hW => by
    have := conv_str ((hS.below (by rw [HG.out]; exact hW)).take i)
    rw [List.length_take, Nat.min_eq_left hi, Lib.bytesOf_take, ← HHs.out] at this
    exact this
  have HSC : Hid (∀ W, Below G w W → Calls Tryz.prog 82 #[.string Hs, .string ⟨#[32]⟩] W fun e w' => e = .returned (.tuple #[.string Nm, .string Rs, .bool f2]) ∧ ∃ q, w' = W.drewN q) := fun W hW => by
    rw [HHs.out, HNm.out, HRs.out, HF2.out]
    exact scut_any ((Lib.bytesOf zs).take i) [32] W (by rw [List.length_take, Lib.bytesOf_length]; omega) (hm.below (by rw [HG.out]; exact hW))
  have HKO : Hid (∀ W, Calls Tryz.prog 83 #[.string Nm] W fun e w' => (∃ k : Nat, e = .returned (.int .i64 k) ∧ kO Nm k) ∧ w' = W) := fun W => kindOf_any Nm W
  have HCL : Hid (∀ W, Below G w W → Calls Tryz.prog 84 #[.slice da dn dc] W fun e w' => ∃ ga gc, e = .returned (.slice ga dn gc) ∧ w'.ownsRow W.heap.size 5 1 (.slice ga dn gc) dn (dz.map (Value.int .u8)) ∧ Below W.heap.size W w') := fun W hW => by
    have := clone_any da dc dz W (by omega) (hsl W (by rw [HG.out]; exact hW))
    rw [HDN.out] at this
    refine this.mono ?_
    rintro e w' ⟨v', rfl, h1, h2⟩
    have h1' := h1
    obtain ⟨_, ⟨hv, h0⟩ | ⟨g, cp, cur, hv, _⟩⟩ := h1'
    · subst hv
      exact ⟨none, 0, by rw [h0], by rw [h0]; rw [h0] at h1; exact h1, h2⟩
    · subst hv
      exact ⟨_, _, rfl, h1, h2⟩
  rw [HDN.out] at HC1
  rw [HN.out]
  have HCU : Hid _ := hcu
  have HDB : Hid (IsB dz) := hdb
  have HSS : Hid (∀ W, Below G w W → Sl W a cap zs) := fun W hW => hS.below (by rw [HG.out]; exact hW)
  have HTA : Hid (∀ W, Below G w W → Tab W) := fun W hW => ht.below (by rw [HG.out]; exact hW)
  have hdn : dn ≤ 300000 := by rw [← HDN.out]; omega
  clear hS ht hm hcu hsl hV hdb
  go_enter Tryz.func40, Tryz.ntmps40
  go_wp2_with fail
  rw [HG.out, HW1.out]
  refine HC1.out.mono ?_
  rintro ev w2 ⟨rfl, q2, rfl⟩
  have hb2 : Below w1.heap.size w1 (w1.drewN q2) := ⟨rfl, rfl, rfl, Nat.le_refl _, fun _ _ => rfl⟩
  generalize w1.drewN q2 = w2 at hb2 ⊢
  have hb2s := hb2.size
  have HB2 : Hid (Below G w w2) := HB1.out.trans (hb2.mono (by omega))
  have HR2 : Hid (w2.heap[G]? = some (.cells #[.int .i64 0, .slice none 0 0] 25 (0, 0))) := (hb2.block _ (by omega)).trans HR1.out
  clear hb2
  have hcv := HCV.out w2 HB2.out
  go_wp2_with fail
  refine (HSC.out w2 HB2.out).mono ?_
  rintro ev w3 ⟨rfl, q3, rfl⟩
  have hb3 : Below w2.heap.size w2 (w2.drewN q3) := ⟨rfl, rfl, rfl, Nat.le_refl _, fun _ _ => rfl⟩
  generalize w2.drewN q3 = w3 at hb3 ⊢
  have hb3s := hb3.size
  have HB3 : Hid (Below G w w3) := HB2.out.trans (hb3.mono (by omega))
  have HR3 : Hid (w3.heap[G]? = some (.cells #[.int .i64 0, .slice none 0 0] 25 (0, 0))) := (hb3.block _ (by omega)).trans HR2.out
  clear hb3 hcv
  go_wp2_with fail
  refine (HKO.out w3).mono ?_
  rintro ev w' ⟨⟨k, rfl, hko⟩, rfl⟩
  have HKK : Hid (kO Nm k) := hko
  clear hko
  go_wp2_with fail
  refine (HCL.out _ HB3.out).mono ?_
  rintro ev w4 ⟨ga, gc, rfl, how4, hb4⟩
  have hb4s := hb4.size
  have HB4 : Hid (Below G w w4) := HB3.out.trans (hb4.mono (by omega))
  have HR4 : Hid (w4.heap[G]? = some (.cells #[.int .i64 0, .slice none 0 0] 25 (0, 0))) := (hb4.block _ (by omega)).trans HR3.out
  have HO4 : Hid (w4.ownsRow (G + 2) 5 1 (.slice ga dn gc) dn (dz.map (Value.int .u8))) := World.ownsRow.mono how4 (by omega)
  clear how4 hb4
  go_wp2_with fail
  refine (fits_any k ga dn gc _).mono ?_
  rintro ev w5 ⟨rfl, hw5⟩
  have hb5 : Below w4.heap.size w4 w5 := by rw [hw5]; exact ((Below.refl _ w4).alloc (Nat.le_refl _) _).alloc (by simp) _
  have hs5 : w5.heap.size = w4.heap.size + 2 := by rw [hw5]; simp
  have hc50 : w5.cell? ⟨w4.heap.size, 0, none⟩ = some (.int .i64 k) := by rw [hw5]; simp
  have hc51 : w5.cell? ⟨w4.heap.size, 1, none⟩ = some (.slice ga dn gc) := by rw [hw5]; simp
  obtain ⟨H, HH⟩ : ∃ H, Hid (w4.heap.size = H) := ⟨_, rfl⟩
  rw [HH.out] at hc50 hc51 hb5 hs5 ⊢
  have hGH : G < H := by rw [← HH.out]; omega
  have HB5 : Hid (Below G w w5) := HB4.out.trans (hb5.mono (by omega))
  have HR5 : Hid (w5.heap[G]? = some (.cells #[.int .i64 0, .slice none 0 0] 25 (0, 0))) := (hb5.block _ hGH).trans HR4.out
  have HO5 : Hid (w5.ownsRow (G + 2) 5 1 (.slice ga dn gc) dn (dz.map (Value.int .u8))) := HO4.out.kept (row := none) ⟨hb5.os, hb5.tape, hb5.output, by rw [HH.out]; omega, fun k hk _ => hb5.block k (by rw [← HH.out]; exact hk)⟩ (by cases ga <;> simp [Value.ownBlock])
  clear hb5 hw5
  have hg0 : w5.cell? ⟨G, 0, none⟩ = some (.int .i64 0) := by rw [cell_of_row w5 G 0 _ _ _ HR5.out]; rfl
  have hg1 : w5.cell? ⟨G, 1, none⟩ = some (.slice none 0 0) := by rw [cell_of_row w5 G 1 _ _ _ HR5.out]; rfl
  have hf0 : w5.frozen? ⟨G, 0, none⟩ = false := frozen_of_row w5 G 0 _ _ HR5.out
  have hf1 : w5.frozen? ⟨G, 1, none⟩ = false := frozen_of_row w5 G 1 _ _ HR5.out
  have HNO : Hid (errE k dn ≠ 0 → ∀ k' D, ¬ Gd (Lib.bytesOf zs) k' D) := fun he k' D hg => by
    obtain ⟨rfl, rfl⟩ := kO_gd HCU.out HNm.out HKK.out hg
    have hl := hg.len
    rw [Lib.bytesOf_length, HDN.out] at hl
    exact he (errE_0' k dn (kN_ne k hg.lo hg.hi) (by omega))
  by_cases he : errE k dn = 0
  · obtain ⟨hfv, hd1⟩ := fits_ok k dn he
    rw [hfv]
    have hk14 : 1 ≤ k ∧ k ≤ 4 := by
      rcases HKK.out with ⟨e1, e2, _⟩ | ⟨rfl, _⟩
      · exact ⟨e1, e2⟩
      · exact absurd he (by unfold errE; rw [if_pos (by rw [Lib.toList_data, kN_list]; simp)]; decide)
    have HHD : Hid (Calls Tryz.prog 34 #[.agg #[.int .i64 k, .slice ga dn gc]] w5 fun e w' => e = .returned (.string ⟨(hd k dn).toArray⟩) ∧ Below w5.heap.size w5 w') := header_any k ga dn gc (by omega) w5 (HTA.out _ HB5.out)
    obtain ⟨S, HS⟩ : ∃ S : ByteArray, Hid (S = ⟨(hd k dn).toArray⟩) := ⟨_, rfl⟩
    rw [← HS.out] at HHD
    go_wp2_with fail
    refine HHD.out.mono ?_
    rintro ev w6 ⟨rfl, hb6⟩
    obtain ⟨c7, w7, hr7, hm7, hb7, hs7⟩ := conv_mk (hd k dn) w6
    rw [← HS.out] at hr7
    have hb6s := hb6.size
    have hb57 : Below w5.heap.size w5 w7 := hb6.trans (hb7.mono hb6.size)
    have HB7 : Hid (Below G w w7) := HB5.out.trans (hb57.mono (by omega))
    have HR7 : Hid (w7.heap[G]? = some (.cells #[.int .i64 0, .slice none 0 0] 25 (0, 0))) := (hb57.block _ (by omega)).trans HR5.out
    have HO7 : Hid (w7.ownsRow (G + 2) 5 1 (.slice ga dn gc) dn (dz.map (Value.int .u8))) := HO5.out.kept (row := none) ⟨hb57.os, hb57.tape, hb57.output, hb57.size, fun k hk _ => hb57.block k hk⟩ (by cases ga <;> simp [Value.ownBlock])
    have hc70 : w7.cell? ⟨H, 0, none⟩ = some (.int .i64 k) := (hb57.cell (p := ⟨H, 0, none⟩) (show H < _ by omega)).trans hc50
    have hc71 : w7.cell? ⟨H, 1, none⟩ = some (.slice ga dn gc) := (hb57.cell (p := ⟨H, 1, none⟩) (show H < _ by omega)).trans hc51
    obtain ⟨L, HL⟩ : ∃ L, Hid ((hd k dn).length = L) := ⟨_, rfl⟩
    rw [HL.out] at hr7
    have HPX : Hid (Calls Tryz.prog 85 #[.slice a n cap, .slice (some ⟨w6.heap.size, 0, none⟩) L c7] w7 fun e w' => e = .returned (.bool (Lib.hasPrefix (Lib.bytesOf zs) (hd k dn))) ∧ w' = w7) := by
      have := prefix_any a (some ⟨w6.heap.size, 0, none⟩) cap c7 zs (nums (hd k dn)) w7 (HSS.out w7 HB7.out) hm7.sl
      rw [nums_len, HN.out, HL.out, bytesOf_nums] at this
      exact this
    clear hc50 hc51 hg0 hg1 hf0 hf1 hb6 hb57 hb7 hm7
    cases hp : Lib.hasPrefix (Lib.bytesOf zs) (hd k dn) with
    | true =>
      rw [hp] at HPX
      have hg0 : w7.cell? ⟨G, 0, none⟩ = some (.int .i64 0) := by rw [cell_of_row w7 G 0 _ _ _ HR7.out]; rfl
      have hg1 : w7.cell? ⟨G, 1, none⟩ = some (.slice none 0 0) := by rw [cell_of_row w7 G 1 _ _ _ HR7.out]; rfl
      have hf0 : w7.frozen? ⟨G, 0, none⟩ = false := frozen_of_row w7 G 0 _ _ HR7.out
      have hf1 : w7.frozen? ⟨G, 1, none⟩ = false := frozen_of_row w7 G 1 _ _ HR7.out
      go_wp2_with fail
      refine HPX.out.mono ?_
      rintro ev w' ⟨rfl, rfl⟩
      go_wp2
      have hgd : Gd (Lib.bytesOf zs) k (Lib.bytesOf dz) := HCU.out.of k hk14.1 hk14.2 (by rw [Lib.bytesOf_length, HDN.out]; exact hd1) (by rw [Lib.bytesOf_length, HDN.out]; exact hp)
      refine bodyPost_ret (v := .tuple #[.agg #[.int .i64 k, .slice ga dn gc], .nilIface]) (results_mid2 Tryz.results40 _ _ G [.int .i64 k, .slice ga dn gc] _ rfl (range_set2 hg0 hg1) Tryz.underlying25 rfl Tryz.size25) rfl ⟨by rw [HG.out]; exact (HB7.out.setCell (Nat.le_refl _) _).setCell (Nat.le_refl _) _, .inl ⟨k, Lib.bytesOf dz, ga, gc, hgd, ?_, ?_⟩⟩
      · rw [Lib.bytesOf_length, HDN.out]
      · rw [Lib.bytesOf_length, HDN.out, nums_bytesOf _ HDB.out, HG.out]
        refine World.ownsRow.mono (base := G + 2) (HO7.out.kept (row := some G) (grown_setCell _ (grown_setCell _ ⟨rfl, rfl, rfl, Nat.le_refl _, fun _ _ _ => rfl⟩)) ?_) (by omega)
        cases hob : (Value.slice ga dn gc).ownBlock with
        | none => exact .inl rfl
        | some b =>
          refine .inr fun e => ?_
          have := (own_lt HO7.out b hob).1
          simp at e
          omega
    | false =>
      rw [hp] at HPX
      have hg0 : w7.cell? ⟨G, 0, none⟩ = some (.int .i64 0) := by rw [cell_of_row w7 G 0 _ _ _ HR7.out]; rfl
      have hg1 : w7.cell? ⟨G, 1, none⟩ = some (.slice none 0 0) := by rw [cell_of_row w7 G 1 _ _ _ HR7.out]; rfl
      have hf0 : w7.frozen? ⟨G, 0, none⟩ = false := frozen_of_row w7 G 0 _ _ HR7.out
      have hf1 : w7.frozen? ⟨G, 1, none⟩ = false := frozen_of_row w7 G 1 _ _ HR7.out
      go_wp2_with fail
      refine HPX.out.mono ?_
      rintro ev w' ⟨rfl, rfl⟩
      go_wp2
      refine bodyPost_ret (v := .tuple #[.agg #[.int .i64 0, .slice none 0 0], .iface 35 (.int .i64 24)]) (results_mid2 Tryz.results40 _ _ G [.int .i64 0, .slice none 0 0] _ rfl (range_set2 hg0 hg1) Tryz.underlying25 rfl Tryz.size25) rfl ⟨by rw [HG.out]; exact (HB7.out.setCell (Nat.le_refl _) _).setCell (Nat.le_refl _) _, .inr ⟨?_, rfl⟩⟩
      intro k' D hg
      obtain ⟨rfl, rfl⟩ := kO_gd HCU.out HNm.out HKK.out hg
      have := hg.prefix
      rw [Lib.bytesOf_length, HDN.out, hp] at this
      cases this
  · have hfv := fits_err k dn he
    rw [hfv]
    obtain ⟨er, HER⟩ : ∃ er, Hid (errE k dn = er) := ⟨_, rfl⟩
    rw [HER.out]
    clear hc50 hc51
    go_wp2
    refine bodyPost_ret (v := .tuple #[.agg #[.int .i64 0, .slice none 0 0], .iface 35 (.int .i64 24)]) (results_mid2 Tryz.results40 _ _ G [.int .i64 0, .slice none 0 0] _ rfl (range_set2 hg0 hg1) Tryz.underlying25 rfl Tryz.size25) rfl ⟨by rw [HG.out]; exact (HB5.out.setCell (Nat.le_refl _) _).setCell (Nat.le_refl _) _, .inr ⟨?_, rfl⟩⟩
    exact HNO.out he
end Go.Proofs.YtenbdeljblmbhaaGreatDoor
