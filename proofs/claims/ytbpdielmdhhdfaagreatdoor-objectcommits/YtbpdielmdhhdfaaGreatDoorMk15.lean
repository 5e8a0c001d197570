import Derived.Test.YtbpdielmdhhdfaaGreatDoorMk12
import Derived.Test.YtbpdielmdhhdfaaGreatDoorMk14
import Derived.Test.YtbpdielmdhhdfaaGreatDoorMk01
import Derived.Test.YtbpdielmdhhdfaaGreatDoorMk06
import Derived.Deep.Onto
import Derived.Test.YtbpdielmdhhdfaaGreatDoorMk09
import Derived.Lib.AppendStr
import Derived.Maps.AppendAt
import Derived.Test.YtbpdielmdhhdfaaGreatDoorMk04
import Derived.Test.YtbpdielmdhhdfaaGreatDoorMk07
namespace Go.Proofs.YtbpdielmdhhdfaaGreatDoor
open Go.RowKit
set_option linter.unusedVariables false
set_option linter.unusedSimpArgs false
def OE (e : TypeId) (B : Nat) (a : Option Addr) (cap : Nat) (ids : List (List Int)) (W : World) : Prop := W.ownsRow B e 20 (.slice a ids.length cap) ids.length (ids.flatMap (row .u8))
section
variable {e : TypeId} {B B' g : Nat} {a : Option Addr} {cap : Nat} {ids : List (List Int)} {W W' : World}
theorem OE.keep (h : OE e B a cap ids W) (hb : Below W.heap.size W W') : OE e B a cap ids W' := World.ownsRow.kept h (grown_of_below hb none) (by
  cases a with
  | none => left; rfl
  | some x => right; simp [Value.ownBlock])
theorem OE.step (h : OE e B a cap ids W) (hgr : W.grownBy W' (some g)) (hg : g < B) : OE e B a cap ids W' := by
  refine World.ownsRow.kept h hgr ?_
  obtain ⟨_, ⟨hv, _⟩ | ⟨g2, cap2, cur, hv, hb, _⟩⟩ := h
  · rw [hv]; left; rfl
  · rw [hv]; right
    simp [Value.ownBlock]
    omega
theorem OE.setCells (h : OE e B a cap ids W) (hg : g < B) (o : Nat) (vs : List Value) : OE e B a cap ids (W.setCells g o vs) := by
  have hb := below_setCells (Nat.le_refl g) vs o W W (Below.refl g W)
  exact h.step ⟨hb.os, hb.tape, hb.output, hb.size, fun k hk hne => heap_setCells_other g k (fun e => hne (by rw [e])) vs o _⟩ hg
theorem OE.setRow (h : OE e B a cap ids W) (hg : g < B) (vs : Array Value) : OE e B a cap ids (W.setRow g vs) := by
  have hb := below_setRow (Below.refl g W) (Nat.le_refl g) vs
  exact h.step ⟨hb.os, hb.tape, hb.output, hb.size, fun k hk hne => setRow_other _ _ _ _ (fun e => hne (by rw [e]))⟩ hg
theorem OE.lower (h : OE e B a cap ids W) (hb : B' ≤ B) : OE e B' a cap ids W := by
  obtain ⟨hl, h | ⟨g, cap2, cur, hv, hg, r⟩⟩ := h
  · exact ⟨hl, .inl h⟩
  · exact ⟨hl, .inr ⟨g, cap2, cur, hv, by omega, r⟩⟩
theorem OE.snoc {ao : Option Addr} {n : Nat} {fr : List Int} (hn : ids.length = n) (h : W.ownsRow B e 20 (.slice ao (n + 1 : Nat) cap) (n + 1) (ids.flatMap (row .u8) ++ row .u8 fr)) : OE e B ao cap (ids ++ [fr]) W := by
  unfold OE
  have e1 : (ids ++ [fr]).length = n + 1 := by simp [hn]
  rw [e1, List.flatMap_append]
  simpa using h
theorem OE.pa (h : OE e B a cap ids W) (hw : WfI ids) : Pa W a cap ids := by
  obtain ⟨hl, ⟨hv, h0⟩ | ⟨g, cap2, cur, hv, hb, hh, hkc, hcm, hsz, htk⟩⟩ := h
  · simp only [Value.slice.injEq] at hv
    obtain ⟨rfl, _, rfl⟩ := hv
    exact ⟨by omega, fun h => by omega, fun _ => rfl⟩
  · simp only [Value.slice.injEq] at hv
    obtain ⟨rfl, _, rfl⟩ := hv
    refine ⟨hkc, fun _ => ⟨g, 0, rfl, (Array.getElem?_eq_some_iff.1 hh).1, fun i hi j v hv => ?_⟩, fun e => by cases e⟩
    have h1 := flat_at ids hw i j v hi hv
    rw [← htk] at h1
    rw [Nat.zero_add, cell_of_row W g (i * 20 + j) _ _ _ hh]
    have hlt : i * 20 + j < ids.length * 20 := by
      have h2 := (List.getElem?_eq_some_iff.1 h1).1
      rw [List.length_take] at h2
      omega
    rw [List.getElem?_take_of_lt hlt] at h1
    simpa using h1
end
def tailB (u : Cm) (k : Nat) : List UInt8 := (u.ids.drop k).flatMap (fun x => ln2 w_parent.data.toList (hexB x)) ++ (ln2 w_author.data.toList (perB u.au) ++ (ln2 w_committer.data.toList (perB u.co) ++ 10 :: u.msg))
theorem cmB_tree (u : Cm) : cmB u = wTree ++ 32 :: (hexB u.tree ++ 10 :: tailB u 0) := by
  simp [cmB, tailB, ln2, w_tree, wTree]
theorem tailB_step (u : Cm) (k : Nat) (h : k < u.ids.length) : tailB u k = wParent ++ 32 :: (hexB (u.ids.getD k []) ++ 10 :: tailB u (k + 1)) := by
  unfold tailB
  rw [List.drop_eq_getElem_cons h, List.flatMap_cons, List.getD_eq_getElem?_getD, List.getElem?_eq_getElem h]
  simp [ln2, w_parent, wParent]
theorem tailB_end (u : Cm) (k : Nat) (h : u.ids.length ≤ k) : tailB u k = wAuthor ++ 32 :: (perB u.au ++ 10 :: (wCommitter ++ 32 :: (perB u.co ++ 10 :: (10 :: u.msg)))) := by
  unfold tailB
  rw [List.drop_of_length_le h]
  simp [ln2, w_author, w_committer, wAuthor, wCommitter]
def UI (l : List UInt8) (fr : List Int) (ids : List (List Int)) (r : List UInt8) : Prop := ∀ u : Cm, WfC u → okC u → cmB u = l → fr = u.tree ∧ ids.length ≤ u.ids.length ∧ ids = u.ids.take ids.length ∧ r = tailB u ids.length
theorem ui_start {l o1 r1 : List UInt8} {b1 gd : Bool} {fr : List Int} (p1 : PL l wTree o1 r1 b1) (hq : PQ o1 fr gd) : UI l fr [] r1 ∧ ∀ u : Cm, WfC u → okC u → cmB u = l → b1 = true ∧ gd = true := by
  have key : ∀ u : Cm, WfC u → okC u → cmB u = l → b1 = true ∧ gd = true ∧ fr = u.tree ∧ r1 = tailB u 0 := fun u hu ho h => by
    have e1 : Ln l wTree (hexB u.tree) (tailB u 0) := ⟨by rw [← h]; exact cmB_tree u, hexB_no u.tree hu.1.2⟩
    have t1 : b1 = true := by
      rcases Bool.eq_false_or_eq_true b1 with h | h
      · exact h
      · exact absurd e1 (p1.2.1 h _ _)
    obtain ⟨rfl, rfl⟩ := (p1.1 t1).uniq e1
    have e : (⟨(hexB u.tree).toArray⟩ : ByteArray) = strOfNums (Hx.hexOf u.tree) := rfl
    obtain ⟨g1, g2⟩ := hq.2.2 ⟨by rw [hexB_len, hu.1.1], by rw [e]; exact Hx.hex_good u.tree hu.1.1 hu.1.2⟩
    refine ⟨t1, g1, ?_, rfl⟩
    rw [g2, e]
    exact Hx.hex_back u.tree hu.1.1 hu.1.2
  refine ⟨fun u hu ho h => ?_, fun u hu ho h => ?_⟩
  · obtain ⟨_, _, h3, h4⟩ := key u hu ho h
    exact ⟨h3, Nat.zero_le _, rfl, h4⟩
  · obtain ⟨h1, h2, _⟩ := key u hu ho h
    exact ⟨h1, h2⟩
theorem UI.step {l r o r' : List UInt8} {fr fx : List Int} {ids : List (List Int)} {gd : Bool} (h : UI l fr ids r) (p : PL r wParent o r' true) (hq : PQ o fx gd) : UI l fr (ids ++ [fx]) r' ∧ ∀ u : Cm, WfC u → okC u → cmB u = l → gd = true := by
  have key : ∀ u : Cm, WfC u → okC u → cmB u = l → gd = true ∧ ids.length < u.ids.length ∧ fx = u.ids.getD ids.length [] ∧ r' = tailB u (ids.length + 1) := fun u hu ho hl => by
    obtain ⟨_, h2, h3, h4⟩ := h u hu ho hl
    have hlt : ids.length < u.ids.length := by
      rcases Nat.lt_or_ge ids.length u.ids.length with h | h
      · exact h
      · have h5 := (p.1 rfl).1
        rw [h4, tailB_end u _ h] at h5
        exact absurd (congrArg List.head? h5) (by simp [wAuthor, wParent])
    have hx := hu.2 (u.ids.getD ids.length []) (by rw [List.getD_eq_getElem?_getD, List.getElem?_eq_getElem hlt]; exact List.getElem_mem _)
    have e1 : Ln r wParent (hexB (u.ids.getD ids.length [])) (tailB u (ids.length + 1)) := ⟨by rw [h4]; exact tailB_step u _ hlt, hexB_no _ hx.2⟩
    obtain ⟨rfl, rfl⟩ := (p.1 rfl).uniq e1
    have e : (⟨(hexB (u.ids.getD ids.length [])).toArray⟩ : ByteArray) = strOfNums (Hx.hexOf (u.ids.getD ids.length [])) := rfl
    obtain ⟨g1, g2⟩ := hq.2.2 ⟨by rw [hexB_len, hx.1], by rw [e]; exact Hx.hex_good _ hx.1 hx.2⟩
    refine ⟨g1, hlt, ?_, rfl⟩
    rw [g2, e]
    exact Hx.hex_back _ hx.1 hx.2
  refine ⟨fun u hu ho hl => ?_, fun u hu ho hl => (key u hu ho hl).1⟩
  obtain ⟨k1, k2, k3, k4⟩ := key u hu ho hl
  obtain ⟨h1, h2, h3, h4⟩ := h u hu ho hl
  have e1 : (ids ++ [fx]).length = ids.length + 1 := by simp
  refine ⟨h1, by rw [e1]; exact k2, ?_, by rw [e1]; exact k4⟩
  rw [e1, take_snocI u.ids ids.length k2, ← h3, k3]
theorem UI.last {l r o r' : List UInt8} {fr : List Int} {ids : List (List Int)} (h : UI l fr ids r) (p : PL r wParent o r' false) (u : Cm) (hu : WfC u) (ho : okC u) (hl : cmB u = l) : fr = u.tree ∧ ids = u.ids ∧ r = wAuthor ++ 32 :: (perB u.au ++ 10 :: (wCommitter ++ 32 :: (perB u.co ++ 10 :: (10 :: u.msg)))) := by
  obtain ⟨h1, h2, h3, h4⟩ := h u hu ho hl
  have hge : u.ids.length ≤ ids.length := by
    rcases Nat.lt_or_ge ids.length u.ids.length with h | h
    · have hx := hu.2 (u.ids.getD ids.length []) (by rw [List.getD_eq_getElem?_getD, List.getElem?_eq_getElem h]; exact List.getElem_mem _)
      exact absurd (⟨by rw [h4]; exact tailB_step u _ h, hexB_no _ hx.2⟩ : Ln r wParent (hexB (u.ids.getD ids.length [])) (tailB u (ids.length + 1))) (p.2.1 rfl _ _)
    · exact h
  refine ⟨h1, ?_, by rw [h4]; exact tailB_end u _ hge⟩
  rw [h3]
  exact List.take_of_length_le hge
theorem UI.pers {l r o o3 r3 o4 r4 r' : List UInt8} {fr : List Int} {ids : List (List Int)} {b3 b4 : Bool} (h : UI l fr ids r) (p : PL r wParent o r' false) (p3 : PL r wAuthor o3 r3 b3) (p4 : PL r3 wCommitter o4 r4 b4) (u : Cm) (hu : WfC u) (ho : okC u) (hl : cmB u = l) :
    fr = u.tree ∧ ids = u.ids ∧ b3 = true ∧ b4 = true ∧ o3 = perB u.au ∧ o4 = perB u.co ∧ r4 = 10 :: u.msg := by
  obtain ⟨h1, h2, h3⟩ := h.last p u hu ho hl
  have e3 : Ln r wAuthor (perB u.au) (wCommitter ++ 32 :: (perB u.co ++ 10 :: (10 :: u.msg))) := ⟨h3, perB_no _ ho.2.2.1⟩
  have t3 : b3 = true := by
    rcases Bool.eq_false_or_eq_true b3 with h | h
    · exact h
    · exact absurd e3 (p3.2.1 h _ _)
  obtain ⟨rfl, rfl⟩ := (p3.1 t3).uniq e3
  have e4 : Ln (wCommitter ++ 32 :: (perB u.co ++ 10 :: (10 :: u.msg))) wCommitter (perB u.co) (10 :: u.msg) := ⟨rfl, perB_no _ ho.2.2.2.1⟩
  have t4 : b4 = true := by
    rcases Bool.eq_false_or_eq_true b4 with h | h
    · exact h
    · exact absurd e4 (p4.2.1 h _ _)
  obtain ⟨rfl, rfl⟩ := (p4.1 t4).uniq e4
  exact ⟨h1, h2, t3, t4, rfl, rfl, rfl⟩
theorem fld_hasP (r : List UInt8) (x y : List UInt8) (h : r = wParent ++ 32 :: (x ++ 10 :: y)) : hasP r = true := by
  subst h
  unfold hasP Lib.hasPrefix
  simp [wParent]
theorem pqs_back (u : Cm) (hu : WfC u) (ho : okC u) {ids : List (List Int)} {r : List UInt8} (h : PQs (tailB u 0) ids r) : ids.length ≤ u.ids.length ∧ ids = u.ids.take ids.length ∧ r = tailB u ids.length := by
  induction h using PQs.ind with
  | zero => exact ⟨Nat.zero_le _, rfl, rfl⟩
  | @step ids r fx h1 h2 h3 ih =>
    obtain ⟨i1, i2, i3⟩ := ih
    have hlt : ids.length < u.ids.length := by
      rcases Nat.lt_or_ge ids.length u.ids.length with h | h
      · exact h
      · rw [i3, tailB_end u _ h] at h2
        unfold hasP Lib.hasPrefix at h2
        simp [wAuthor, wParent] at h2
    have hx := hu.2 (u.ids.getD ids.length []) (by rw [List.getD_eq_getElem?_getD, List.getElem?_eq_getElem hlt]; exact List.getElem_mem _)
    have e1 : Ln r wParent (hexB (u.ids.getD ids.length [])) (tailB u (ids.length + 1)) := ⟨by rw [i3]; exact tailB_step u _ hlt, hexB_no _ hx.2⟩
    obtain ⟨f1, r1⟩ := ln_fld e1 (by decide)
    rw [f1] at h3
    have e : (ids ++ [fx]).length = ids.length + 1 := by simp
    refine ⟨by rw [e]; exact hlt, ?_, by rw [e]; exact r1⟩
    rw [e, take_snocI u.ids ids.length hlt, ← i2, pid_back _ fx hx.1 hx.2 h3]
theorem cm_back (u C : Cm) (hu : WfC u) (ho : okC u) (h : TC (cmB u) C) : C = u := by
  obtain ⟨g1, r, g2, g3, g4, g5, g6⟩ := h
  have e0 : Ln (cmB u) wTree (hexB u.tree) (tailB u 0) := ⟨cmB_tree u, hexB_no u.tree hu.1.2⟩
  obtain ⟨f0, r0⟩ := ln_fld e0 (by decide)
  rw [f0] at g1
  rw [r0] at g2
  obtain ⟨i1, i2, i3⟩ := pqs_back u hu ho g2
  have hge : u.ids.length ≤ C.ids.length := by
    rcases Nat.lt_or_ge C.ids.length u.ids.length with h | h
    · have := fld_hasP r _ _ (by rw [i3]; exact tailB_step u _ h)
      rw [this] at g3
      cases g3
    · exact h
  rw [tailB_end u _ hge] at i3
  have e3 : Ln r wAuthor (perB u.au) (wCommitter ++ 32 :: (perB u.co ++ 10 :: (10 :: u.msg))) := ⟨i3, perB_no _ ho.2.2.1⟩
  obtain ⟨f3, r3⟩ := ln_fld e3 (by decide)
  have e4 : Ln (wCommitter ++ 32 :: (perB u.co ++ 10 :: (10 :: u.msg))) wCommitter (perB u.co) (10 :: u.msg) := ⟨rfl, perB_no _ ho.2.2.2.1⟩
  obtain ⟨f4, r4⟩ := ln_fld e4 (by decide)
  have r5 : rst (10 :: u.msg) = u.msg := by
    unfold rst
    rw [show (10 : UInt8) :: u.msg = [] ++ 10 :: u.msg from rfl, cut_one [] u.msg 10 (by simp)]
  rw [f3] at g4
  rw [r3, f4] at g5
  rw [r3, r4, r5] at g6
  have a1 := pid_back u.tree C.tree hu.1.1 hu.1.2 g1
  have a2 : C.ids = u.ids := by rw [i2]; exact List.take_of_length_le hge
  have a3 := pp_back u.au ho.2.2.1 C.au g4
  have a4 := pp_back u.co ho.2.2.2.1 C.co g5
  obtain ⟨x1, x2, x3, x4, x5⟩ := C
  obtain ⟨y1, y2, y3, y4, y5⟩ := u
  simp only at a1 a2 a3 a4 g6
  subst a1
  subst a2
  subst a3
  subst a4
  subst g6
  rfl
end Go.Proofs.YtbpdielmdhhdfaaGreatDoor
namespace Go.Proofs.YtbpdielmdhhdfaaGreatDoor
open Go.RowKit
set_option linter.unusedVariables false
set_option linter.unusedSimpArgs false
theorem Sl.from {w : World} {a : Option Addr} {cap : Nat} {l : List Int} (h : Sl w a cap l) (j : Nat) (hj : j ≤ l.length) (h0 : 0 < l.length) : Sl w (if cap = j then a else a.map (fun x => x.add j)) (cap - j) (l.drop j) := by
  obtain ⟨b, off, rfl, e2, e3⟩ := h.at_ h0
  have hc := h.capl
  refine ⟨by rw [List.length_drop]; omega, fun h1 => ?_, fun e => by split at e <;> cases e⟩
  rw [List.length_drop] at h1
  rw [if_neg (by omega)]
  refine ⟨b, off + j, by rw [Option.map_some, addr_add], e2, fun i hi => ?_⟩
  rw [List.length_drop] at hi
  rw [Nat.add_assoc, e3 (j + i) (by omega)]
  simp [List.getD_eq_getElem?_getD, List.getElem?_drop]
end Go.Proofs.YtbpdielmdhhdfaaGreatDoor
namespace Go.Proofs.YtbpdielmdhhdfaaGreatDoor
open Go.RowKit
set_option linter.unusedVariables false
set_option linter.unusedSimpArgs false
theorem Room.below {w w' : World} {g : Nat} {zs : List Int} (h : Room w g zs) (hb : Below w.heap.size w w') : Room w' g zs where
  lt := Nat.lt_of_lt_of_le h.lt hb.size
  cell := fun j hj => (hb.cell (p := ⟨g, j, none⟩) h.lt).trans (h.cell j hj)
  c71 := (hb.cell (p := ⟨g, zs.length, none⟩) h.lt).trans h.c71
  c72 := (hb.cell (p := ⟨g, zs.length + 1, none⟩) h.lt).trans h.c72
  fz := fun j => (World.frozen?_of_block (a := ⟨g, j, none⟩) (hb.block g h.lt)).trans (h.fz j)
theorem Room.sl {w : World} {g : Nat} {zs : List Int} (h : Room w g zs) : Sl w (some ⟨g, 0, none⟩) (zs.length + 2) zs :=
  ⟨by omega, fun _ => ⟨g, 0, rfl, h.lt, fun i hi => by rw [Nat.zero_add]; exact h.cell i hi⟩, fun e => by cases e⟩
theorem Sl.grown {w w' : World} {a : Option Addr} {cap : Nat} {l : List Int} {r : Option Nat} (h : Sl w a cap l) (hg : w.grownBy w' r) (hne : ∀ b off, a = some ⟨b, off, none⟩ → some b ≠ r) : Sl w' a cap l :=
  ⟨h.capl, fun h0 => by
    obtain ⟨b, off, e1, e2, e3⟩ := h.at_ h0
    exact ⟨b, off, e1, Nat.lt_of_lt_of_le e2 hg.size, fun i hi => (World.cell?_of_block (a := ⟨b, off + i, none⟩) (hg.block b e2 (hne b off e1))).trans (e3 i hi)⟩, h.nil⟩
structure Lw (w : World) : Prop where
  tab : Tab w
  mx : Mx w
  hand : w.cell? ⟨0, 0, none⟩ = some (.iface 188 (.agg #[.pointer (some ⟨9, 28, none⟩)]))
theorem cell_lt0 {w : World} {a : Addr} {v : Value} (h : w.cell? a = some v) : a.block < w.heap.size := by
  rcases Nat.lt_or_ge a.block w.heap.size with h' | h'
  · exact h'
  · simp [World.cell?, Array.getElem?_eq_none h'] at h
theorem Lw.below {w w' : World} (h : Lw w) (hb : Below w.heap.size w w') : Lw w' :=
  ⟨h.tab.below hb, h.mx.below hb, (hb.cell (p := ⟨0, 0, none⟩) (cell_lt0 h.hand)).trans h.hand⟩
end Go.Proofs.YtbpdielmdhhdfaaGreatDoor
namespace Go.Proofs.YtbpdielmdhhdfaaGreatDoor
open Go.RowKit
set_option linter.unusedVariables false
set_option linter.unusedSimpArgs false
theorem zero31 (w : World) : (zeroValue 31).run Tryz.prog w = .ok (.agg (row .u8 z20).toArray) w := by kernel_rfl
end Go.Proofs.YtbpdielmdhhdfaaGreatDoor
namespace Go.Proofs.YtbpdielmdhhdfaaGreatDoor
open Go.RowKit
set_option linter.unusedVariables false
set_option linter.unusedSimpArgs false
theorem tell_any (er : Int) (w : World) (hw : Lw w) : Calls Tryz.prog 11 #[errV er] w fun e w' => e = .returned (.int .i64 er) ∧ Below w.heap.size w w' := by
  unfold errV
  by_cases h : er = 0
  · rw [if_pos h, h]; exact tell_nil w
  · rw [if_neg h]; exact tell_errno er w hw.hand
theorem range_step {W W' : World} {g r : Nat} {cs : List Value} (h : W.rangeAt g 0 cs) (hg : W.grownBy W' (some r)) (hlt : g < W.heap.size) (hne : g ≠ r) : W'.rangeAt g 0 cs := fun j v hv =>
  (World.cell?_of_block (a := ⟨g, 0 + j, none⟩) (hg.block g hlt (by simp; exact hne))).trans (h j v hv)
end Go.Proofs.YtbpdielmdhhdfaaGreatDoor
namespace Go.Proofs.YtbpdielmdhhdfaaGreatDoor
open Go.RowKit
set_option linter.unusedVariables false
set_option linter.unusedSimpArgs false
structure RS1 (G : Nat) (TV : List Value) (W : World) : Prop where
  rg : W.rangeAt (G + 1) 0 TV
end Go.Proofs.YtbpdielmdhhdfaaGreatDoor
