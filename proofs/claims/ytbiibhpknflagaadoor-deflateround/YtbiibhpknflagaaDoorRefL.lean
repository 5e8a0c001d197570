/- The document's own reader: the fixed codes. -/
import Derived.Test.YtbiibhpknflagaaDoorRefK
import Derived.Test.YtbiibhpknflagaaDoorPlainE
import Derived.Test.YtbiibhpknflagaaDoorCodeF
namespace Go.Proofs.YtbiibhpknflagaaDoor
open Go.RowKit Plain
set_option linter.unusedVariables false
set_option linter.unusedSimpArgs false

def codeVal (C : RCode) : Value := .agg #[.slice C.ax C.lens.length C.cx, .slice C.ay C.lens.length C.cy]
/-- A code that has been made. -/
structure NewC (w w' : World) (C : RCode) (lens : List Nat) : Prop where
  le : C.lens = lens
  bt : C.bts = bitsL lens
  ls : ∀ i, i < lens.length → w'.cell? ⟨C.gl, C.ol + i, none⟩ = some (.int .i64 (lens.getD i 0 : Nat))
  bs : ∀ i, i < lens.length → w'.cell? ⟨C.gb, i, none⟩ = some (.int .i64 ((bitsL lens).getD i 0 : Nat))
  ax : C.ax = some ⟨C.gl, C.ol, none⟩
  ay : C.ay = some ⟨C.gb, 0, none⟩
  l1 : w.heap.size ≤ C.gl ∧ C.gl < w'.heap.size
  l2 : w.heap.size ≤ C.gb ∧ C.gb < w'.heap.size
theorem NewC.frame {w w' w'' : World} {C : RCode} {lens : List Nat} (h : NewC w w' C lens) (h1 : w''.heap[C.gl]? = w'.heap[C.gl]?) (h2 : w''.heap[C.gb]? = w'.heap[C.gb]?) (hs : w'.heap.size ≤ w''.heap.size) : NewC w w'' C lens :=
  ⟨h.le, h.bt, fun i hi => (World.cell?_of_block (a := ⟨C.gl, C.ol + i, none⟩) h1).trans (h.ls i hi), fun i hi => (World.cell?_of_block (a := ⟨C.gb, i, none⟩) h2).trans (h.bs i hi), h.ax, h.ay, ⟨h.l1.1, Nat.lt_of_lt_of_le h.l1.2 hs⟩, ⟨h.l2.1, Nat.lt_of_lt_of_le h.l2.2 hs⟩⟩
theorem NewC.drew {w w' : World} {C : RCode} {lens : List Nat} (h : NewC w w' C lens) : NewC w w'.drew C lens := ⟨h.le, h.bt, h.ls, h.bs, h.ax, h.ay, h.l1, h.l2⟩
theorem NewC.later {w w' w'' : World} {C : RCode} {lens : List Nat} (h : NewC w w' C lens) (hb : Below w'.heap.size w' w'') : NewC w w'' C lens := h.frame (hb.block _ h.l1.2) (hb.block _ h.l2.2) hb.size
theorem NewC.set {w w' : World} {C : RCode} {lens : List Nat} (h : NewC w w' C lens) (T i : Nat) (u : Value) (h1 : C.gl ≠ T) (h2 : C.gb ≠ T) : NewC w (w'.setCell ⟨T, i, none⟩ u) C lens :=
  h.frame (Below.heap_setCell w' _ u _ h1) (Below.heap_setCell w' _ u _ h2) (by simp [World.setCell])
theorem NewC.mono {w0 w w' : World} {C : RCode} {lens : List Nat} (h : NewC w w' C lens) (h0 : w0.heap.size ≤ w.heap.size) : NewC w0 w' C lens :=
  ⟨h.le, h.bt, h.ls, h.bs, h.ax, h.ay, ⟨Nat.le_trans h0 h.l1.1, h.l1.2⟩, ⟨Nat.le_trans h0 h.l2.1, h.l2.2⟩⟩
theorem NewC.rc {w w' : World} {C : RCode} {lens : List Nat} (h : NewC w w' C lens) (S : Nat) (hS : S < w.heap.size) (hl : lens.length ≤ 400) : RC w' S C :=
  ⟨by rw [h.le]; exact h.ls, by rw [h.le, h.bt]; exact h.bs, fun _ => h.ax, fun _ => h.ay, by have := h.l1.1; omega, by have := h.l2.1; omega, h.l1.2, h.l2.2, by rw [h.le]; exact hl⟩
/-- 'code', as its callers want it. -/
theorem code_new (gl ol cx n : Nat) (lens : List Nat) (few none_ : Bool) (w0 w : World) (hn : lens.length = n) (h0 : 0 < lens.length) (hl : lens.length ≤ 400) (h15 : ∀ i, lens.getD i 0 ≤ 15)
    (hat : ∀ i, i < lens.length → w.cell? ⟨gl, ol + i, none⟩ = some (.int .i64 (lens.getD i 0 : Nat))) (hgl : gl < w.heap.size) (hg0 : w0.heap.size ≤ gl) :
    Calls Tryd.prog 66 #[.slice (some ⟨gl, ol, none⟩) n cx, .bool few, .bool none_] w fun ev w' => ∃ C : RCode, ev = .returned (.tuple #[.agg #[.slice C.ax n C.cx, .slice C.ay n C.cy], .bool (codeQ few none_ lens)]) ∧ Below w.heap.size w w' ∧ NewC w0 w' C lens := by
  subst hn
  refine (code_any gl ol cx lens few none_ w h0 hl h15 hat hgl).mono ?_
  rintro ev w' ⟨gb, cy, rfl, hb, hgb, hr⟩
  refine ⟨⟨some ⟨gl, ol, none⟩, some ⟨gb, 0, none⟩, cx, cy, gl, ol, gb, lens, bitsL lens⟩, rfl, hb, ⟨rfl, rfl, fun i hi => ?_, hr.c, rfl, rfl, ⟨hg0, Nat.lt_of_lt_of_le hgl hb.size⟩, ⟨by show _ ≤ gb; omega, hr.l⟩⟩⟩
  exact (hb.cell (p := ⟨gl, ol + i, none⟩) hgl).trans (hat i hi)
/-- Two result blocks. -/
structure RB (w wr : World) : Prop where
  b : Below w.heap.size w wr
  r : wr.heap[w.heap.size]? = some (.cells #[.slice none 0 0, .slice none 0 0] 72)
  q : wr.heap[w.heap.size + 1]? = some (.cells #[.slice none 0 0, .slice none 0 0] 72)
  sz : w.heap.size + 2 ≤ wr.heap.size
theorem RB.start (w : World) : RB w ((w.alloc (.cells #[.slice none 0 0, .slice none 0 0] 72)).alloc (.cells #[.slice none 0 0, .slice none 0 0] 72)) := by
  refine ⟨((Below.refl _ _).alloc (Nat.le_refl _) _).alloc (by simp) _, ?_, ?_, by simp⟩
  · exact heap_alloc2_old w _ _
  · exact heap_alloc2_new w _ _
theorem RB.next {w wr w3 : World} (h : RB w wr) (hb : Below (w.heap.size + 2) wr w3) : RB w w3 :=
  ⟨h.b.trans (hb.mono (by omega)), (hb.block _ (by omega)).trans h.r, (hb.block _ (by omega)).trans h.q, Nat.le_trans h.sz hb.size⟩
theorem grown_below {w wx w3 : World} {B : Nat} {row : Option Nat} (hx : w.grownBy wx none) (hg : wx.grownBy w3 row) (hB : B ≤ w.heap.size) (hr : ∀ k, row = some k → B ≤ k) : Below B w w3 :=
  ⟨hg.os.trans hx.os, hg.tape.trans hx.tape, hg.output.trans hx.output, Nat.le_trans hx.size hg.size, fun k hk => (hg.block k (by have := hx.size; omega) (fun e => by have := hr k e.symm; omega)).trans (hx.block k (by omega) (by simp))⟩
theorem fix_at (j : Nat) (h : j < 288) : fixLens.getD j 0 = fixLen j := by
  unfold fixLens
  rw [List.getD_eq_getElem?_getD, List.getElem?_map, List.getElem?_range h]; rfl
theorem fixLens_len : fixLens.length = 288 := by simp [fixLens]
theorem fix_snoc (j : Nat) (h : j < 288) : arr (fixLens.take (j + 1)) = arr (fixLens.take j) ++ [.int .i64 (fixLen j : Nat)] := by
  rw [take_snocN fixLens j (by rw [fixLens_len]; exact h), fix_at j h]; simp [arr]
theorem Tryd.results40 : Tryd.f40.results = #[.cell 0 72, .cell 1 72] := by kernel_rfl
theorem results_both {fn : Func} {p q : Tmp} (h : fn.results = #[.cell p 72, .cell q 72]) (tmps : Array Value) (w : World) (g k : Nat) (x y x' y' : Value)
    (hp : tmps.getD p undef = .pointer (some ⟨g, 0, none⟩)) (hq : tmps.getD q undef = .pointer (some ⟨k, 0, none⟩)) (h0 : w.cell? ⟨g, 0, none⟩ = some x) (h1 : w.cell? ⟨g, 1, none⟩ = some y) (h2 : w.cell? ⟨k, 0, none⟩ = some x') (h3 : w.cell? ⟨k, 1, none⟩ = some y') :
    (results fn tmps).run Tryd.prog w = .ok (.tuple #[.agg #[x, y], .agg #[x', y']]) w := by
  have hp' : tmps[p]?.getD undef = .pointer (some ⟨g, 0, none⟩) := by simpa using hp
  have hq' : tmps[q]?.getD undef = .pointer (some ⟨k, 0, none⟩) := by simpa using hq
  simp [results, h, hp', hq', asAddr, load72 w g x y h0 h1, load72 w k x' y' h2 h3]
theorem cell_of {w : World} {g : Nat} {cs : List Value} {t : TypeId} (h : w.heap[g]? = some (.cells cs.toArray t)) {i : Nat} {v : Value} (hi : cs[i]? = some v) : w.cell? ⟨g, i, none⟩ = some v := by
  have := range_row h i v hi
  rwa [Nat.zero_add] at this
theorem RB.cells {w w4 : World} (h : RB w w4) : w4.cell? ⟨w.heap.size, 0, none⟩ = some (.slice none 0 0) ∧ w4.cell? ⟨w.heap.size, 1, none⟩ = some (.slice none 0 0) ∧ w4.cell? ⟨w.heap.size + 1, 0, none⟩ = some (.slice none 0 0) ∧ w4.cell? ⟨w.heap.size + 1, 1, none⟩ = some (.slice none 0 0) ∧
    (∀ i, w4.frozen? ⟨w.heap.size, i, none⟩ = false) ∧ ∀ i, w4.frozen? ⟨w.heap.size + 1, i, none⟩ = false :=
  ⟨cell_of (cs := [.slice none 0 0, .slice none 0 0]) h.r rfl, cell_of (cs := [.slice none 0 0, .slice none 0 0]) h.r rfl, cell_of (cs := [.slice none 0 0, .slice none 0 0]) h.q rfl, cell_of (cs := [.slice none 0 0, .slice none 0 0]) h.q rfl, fun i => frozen_of_row w4 _ i _ 72 h.r, fun i => frozen_of_row w4 _ i _ 72 h.q⟩
/-- What the two results leave. -/
theorem RB.done {w w4 : World} (h : RB w w4) (a b c d : Value) :
    let W := (((w4.setCell ⟨w.heap.size, 0, none⟩ a).setCell ⟨w.heap.size, 1, none⟩ b).setCell ⟨w.heap.size + 1, 0, none⟩ c).setCell ⟨w.heap.size + 1, 1, none⟩ d
    Below w.heap.size w W ∧ (W.cell? ⟨w.heap.size, 0, none⟩ = some a ∧ W.cell? ⟨w.heap.size, 1, none⟩ = some b ∧ W.cell? ⟨w.heap.size + 1, 0, none⟩ = some c ∧ W.cell? ⟨w.heap.size + 1, 1, none⟩ = some d) ∧ (∀ k, w.heap.size + 2 ≤ k → W.heap[k]? = w4.heap[k]?) ∧ W.heap.size = w4.heap.size := by
  intro W
  obtain ⟨c0, c1, c2, c3, _, _⟩ := h.cells
  refine ⟨(((h.b.setCell (Nat.le_refl _) _).setCell (Nat.le_refl _) _).setCell (by show _ ≤ w.heap.size + 1; omega) _).setCell (by show _ ≤ w.heap.size + 1; omega) _, ⟨?_, ?_, ?_, ?_⟩, ?_, by simp [W, World.setCell]⟩
  · exact (cell_set_far _ (by omega)).trans ((cell_set_far _ (by omega)).trans ((cell_set_ne _ (by omega)).trans (World.cell?_setCell_same _ _ _ c0)))
  · exact (cell_set_far _ (by omega)).trans ((cell_set_far _ (by omega)).trans (World.cell?_setCell_same _ _ _ ((cell_set_ne _ (by omega)).trans c1)))
  · exact (cell_set_ne _ (by omega)).trans (World.cell?_setCell_same _ _ _ ((cell_set_far _ (by omega)).trans ((cell_set_far _ (by omega)).trans c2)))
  · exact World.cell?_setCell_same _ _ _ ((cell_set_ne _ (by omega)).trans ((cell_set_far _ (by omega)).trans ((cell_set_far _ (by omega)).trans c3)))
  · intro k hk
    exact (Below.heap_setCell _ _ _ k (by show k ≠ w.heap.size + 1; omega)).trans ((Below.heap_setCell _ _ _ k (by show k ≠ w.heap.size + 1; omega)).trans ((Below.heap_setCell _ _ _ k (by show k ≠ w.heap.size; omega)).trans (Below.heap_setCell _ _ _ k (by show k ≠ w.heap.size; omega))))
set_option maxRecDepth 20000 in
set_option maxHeartbeats 2000000 in
theorem fixed_any (w : World) :
    Calls Tryd.prog 40 #[] w fun ev w' => ∃ L D, ev = .returned (.tuple #[codeVal L, codeVal D]) ∧ Below w.heap.size w w' ∧ NewC w w' L fixLens ∧ NewC w w' D fixDist := by
  obtain ⟨i3, hi, hz0, hz1, hz2⟩ := info_parts Tryd.info3
  go_enter Tryd.func40, Tryd.ntmps40
  go_wp2
  have HR0 := hid' (RB.start w)
  go_loopg [2, 3] 288 (fun k v i wr => ∃ (j cp : Nat) (a : Option Addr), j ≤ 288 ∧ v = .slice a j cp ∧ i = .int .i64 j ∧ k = 288 - j ∧ Hid (RB w wr) ∧ Hid (wr.ownsRow (w.heap.size + 2) 3 1 (.slice a j cp) j (arr (fixLens.take j))))
  case atStart => exact ⟨0, 0, none, by omega, rfl, rfl, by omega, HR0.out, World.ownsRow_nil _ _ _ _⟩
  case round =>
    clear HR0
    obtain ⟨j, cp, a, hj, rfl, rfl, hk, HR, HO⟩ := hrel
    have hsz := HR.out.sz
    by_cases hlt : j < 288
    · have hs := fix_snoc j hlt
      obtain ⟨c, HC⟩ : ∃ c, Hid (c = fixLen j) := ⟨_, rfl⟩
      rw [← HC.out] at hs
      have HS : Hid _ := hs
      clear hs
      have hc : (j ≤ 143 ∧ c = 8) ∨ (144 ≤ j ∧ j ≤ 255 ∧ c = 9) ∨ (256 ≤ j ∧ j ≤ 279 ∧ c = 7) ∨ (280 ≤ j ∧ c = 8) := by
        rw [HC.out]; unfold fixLen
        split
        · omega
        · split
          · omega
          · split
            · omega
            · omega
      rcases hc with ⟨h1, rfl⟩ | ⟨h1, h2, rfl⟩ | ⟨h1, h2, rfl⟩ | ⟨h1, rfl⟩
      · go_wp2_with (at_builtin; refine wpList_append_lies _ rfl _ _ _ rfl (w.heap.size + 2) 3 i3 (.int .i64 0) 1 8 Tryd.underlying70 hi hz0 hz1 hz2 rfl (by omega) (.slice a j cp) j (arr (fixLens.take j)) rfl (by exact HO.out.alloc _) ⟨wr.heap.size, 0, none⟩ 1 1 [.int .i64 8] rfl rfl (by intro i u hu; match i, hu with | 0, hu => simp at hu; subst hu; exact (World.cell?_alloc_at (w := wr) _ _ _ 0 rfl).trans rfl) (by intro u hu; simp at hu; subst hu; rfl) (by omega) (by unfold maxLen; omega) (by omega) (by simp; omega) (wr.heap.size + 1) (by simp) ?_; intro g2 cp2 w3 hown1 hgrow hat hlt2; have HG1 : Hid (Below (w.heap.size + 2) wr w3) := grown_below (World.grownBy_alloc wr _ none) hgrow hsz (fun k e => (HO.out.lt k e).1); have HO1 : Hid _ := hown1; clear hown1 hgrow hat)
        go_roundg (288 - (j + 1))
        case measure => omega
        case rel => exact ⟨j + 1, cp2, some ⟨g2, 0, none⟩, by omega, rfl, by go_num, rfl, HR.out.next HG1.out, by show World.ownsRow _ _ _ _ _ _ _; rw [HS.out]; exact HO1.out⟩
      · go_wp2_with (at_builtin; refine wpList_append_lies _ rfl _ _ _ rfl (w.heap.size + 2) 3 i3 (.int .i64 0) 1 8 Tryd.underlying70 hi hz0 hz1 hz2 rfl (by omega) (.slice a j cp) j (arr (fixLens.take j)) rfl (by exact HO.out.alloc _) ⟨wr.heap.size, 0, none⟩ 1 1 [.int .i64 9] rfl rfl (by intro i u hu; match i, hu with | 0, hu => simp at hu; subst hu; exact (World.cell?_alloc_at (w := wr) _ _ _ 0 rfl).trans rfl) (by intro u hu; simp at hu; subst hu; rfl) (by omega) (by unfold maxLen; omega) (by omega) (by simp; omega) (wr.heap.size + 1) (by simp) ?_; intro g2 cp2 w3 hown1 hgrow hat hlt2; have HG1 : Hid (Below (w.heap.size + 2) wr w3) := grown_below (World.grownBy_alloc wr _ none) hgrow hsz (fun k e => (HO.out.lt k e).1); have HO1 : Hid _ := hown1; clear hown1 hgrow hat)
        go_roundg (288 - (j + 1))
        case measure => omega
        case rel => exact ⟨j + 1, cp2, some ⟨g2, 0, none⟩, by omega, rfl, by go_num, rfl, HR.out.next HG1.out, by show World.ownsRow _ _ _ _ _ _ _; rw [HS.out]; exact HO1.out⟩
      · go_wp2_with (at_builtin; refine wpList_append_lies _ rfl _ _ _ rfl (w.heap.size + 2) 3 i3 (.int .i64 0) 1 8 Tryd.underlying70 hi hz0 hz1 hz2 rfl (by omega) (.slice a j cp) j (arr (fixLens.take j)) rfl (by exact HO.out.alloc _) ⟨wr.heap.size, 0, none⟩ 1 1 [.int .i64 7] rfl rfl (by intro i u hu; match i, hu with | 0, hu => simp at hu; subst hu; exact (World.cell?_alloc_at (w := wr) _ _ _ 0 rfl).trans rfl) (by intro u hu; simp at hu; subst hu; rfl) (by omega) (by unfold maxLen; omega) (by omega) (by simp; omega) (wr.heap.size + 1) (by simp) ?_; intro g2 cp2 w3 hown1 hgrow hat hlt2; have HG1 : Hid (Below (w.heap.size + 2) wr w3) := grown_below (World.grownBy_alloc wr _ none) hgrow hsz (fun k e => (HO.out.lt k e).1); have HO1 : Hid _ := hown1; clear hown1 hgrow hat)
        go_roundg (288 - (j + 1))
        case measure => omega
        case rel => exact ⟨j + 1, cp2, some ⟨g2, 0, none⟩, by omega, rfl, by go_num, rfl, HR.out.next HG1.out, by show World.ownsRow _ _ _ _ _ _ _; rw [HS.out]; exact HO1.out⟩
      · go_wp2_with (at_builtin; refine wpList_append_lies _ rfl _ _ _ rfl (w.heap.size + 2) 3 i3 (.int .i64 0) 1 8 Tryd.underlying70 hi hz0 hz1 hz2 rfl (by omega) (.slice a j cp) j (arr (fixLens.take j)) rfl (by exact HO.out.alloc _) ⟨wr.heap.size, 0, none⟩ 1 1 [.int .i64 8] rfl rfl (by intro i u hu; match i, hu with | 0, hu => simp at hu; subst hu; exact (World.cell?_alloc_at (w := wr) _ _ _ 0 rfl).trans rfl) (by intro u hu; simp at hu; subst hu; rfl) (by omega) (by unfold maxLen; omega) (by omega) (by simp; omega) (wr.heap.size + 1) (by simp) ?_; intro g2 cp2 w3 hown1 hgrow hat hlt2; have HG1 : Hid (Below (w.heap.size + 2) wr w3) := grown_below (World.grownBy_alloc wr _ none) hgrow hsz (fun k e => (HO.out.lt k e).1); have HO1 : Hid _ := hown1; clear hown1 hgrow hat)
        go_roundg (288 - (j + 1))
        case measure => omega
        case rel => exact ⟨j + 1, cp2, some ⟨g2, 0, none⟩, by omega, rfl, by go_num, rfl, HR.out.next HG1.out, by show World.ownsRow _ _ _ _ _ _ _; rw [HS.out]; exact HO1.out⟩
    · obtain rfl : j = 288 := by omega
      obtain ⟨g, cap', hv, hg1, hg2⟩ := HO.out.form (by omega)
      simp only [Value.slice.injEq] at hv
      obtain ⟨rfl, _, rfl⟩ := hv
      have HL : Hid (∀ i, i < 288 → wr.cell? ⟨g, i, none⟩ = some (.int .i64 (fixLens.getD i 0 : Nat))) := fun i hi => by
        have := HO.out.cellAt i (by omega)
        rw [List.take_of_length_le (by rw [fixLens_len]; omega)] at this
        rw [this, arr_at _ _ (by rw [fixLens_len]; exact hi)]
      clear HO
      obtain ⟨wl, hwl⟩ : ∃ wl, wl = wr := ⟨_, rfl⟩
      subst hwl
      go_wp2
      go_loopg [5, 6] 32 (fun k v i wq => ∃ (j cp : Nat) (a : Option Addr), j ≤ 32 ∧ v = .slice a j cp ∧ i = .int .i64 j ∧ k = 32 - j ∧ Hid (Below wl.heap.size wl wq) ∧ Hid (wq.ownsRow wl.heap.size 3 1 (.slice a j cp) j (arr (List.replicate j 5))))
      case atStart => exact ⟨0, 0, none, by omega, rfl, rfl, by omega, Below.refl _ _, World.ownsRow_nil _ _ _ _⟩
      case round =>
        obtain ⟨j, cp', a, hj', rfl, rfl, hk', HB, HO⟩ := hrel
        have hsz' := HB.out.size
        by_cases hlt' : j < 32
        · go_wp2_with (at_builtin; refine wpList_append_lies _ rfl _ _ _ rfl wl.heap.size 3 i3 (.int .i64 0) 1 8 Tryd.underlying70 hi hz0 hz1 hz2 rfl (by omega) (.slice a j cp') j (arr (List.replicate j 5)) rfl (by exact HO.out.alloc _) ⟨wr.heap.size, 0, none⟩ 1 1 [.int .i64 5] rfl rfl (by intro i u hu; match i, hu with | 0, hu => simp at hu; subst hu; exact (World.cell?_alloc_at (w := wr) _ _ _ 0 rfl).trans rfl) (by intro u hu; simp at hu; subst hu; rfl) (by omega) (by unfold maxLen; omega) (by omega) (by simp; omega) (wr.heap.size + 1) (by simp) ?_; intro g2 cp2 w3 hown1 hgrow hat hlt2; have HG1 : Hid (Below wl.heap.size wr w3) := grown_below (World.grownBy_alloc wr _ none) hgrow hsz' (fun k e => (HO.out.lt k e).1); have HO1 : Hid _ := hown1; clear hown1 hgrow hat)
          go_roundg (32 - (j + 1))
          case measure => omega
          case rel => exact ⟨j + 1, cp2, some ⟨g2, 0, none⟩, by omega, rfl, by go_num, rfl, HB.out.trans HG1.out, by show World.ownsRow _ _ _ _ _ _ _; rw [show arr (List.replicate (j + 1) 5) = arr (List.replicate j 5) ++ [.int .i64 5] by rw [List.replicate_succ']; simp [arr]]; exact HO1.out⟩
        · obtain rfl : j = 32 := by omega
          obtain ⟨d, cap', hv, hd1, hd2⟩ := HO.out.form (by omega)
          simp only [Value.slice.injEq] at hv
          obtain ⟨rfl, _, rfl⟩ := hv
          have HD : Hid (∀ i, i < 32 → wr.cell? ⟨d, i, none⟩ = some (.int .i64 (fixDist.getD i 0 : Nat))) := fun i hi => by
            have := HO.out.cellAt i (by omega)
            rw [this, arr_at _ _ (by simpa using hi)]; rfl
          have HRB : Hid (RB w wr) := HR.out.next (HB.out.mono hsz)
          have HL2 : Hid (∀ i, i < 288 → wr.cell? ⟨g, i, none⟩ = some (.int .i64 (fixLens.getD i 0 : Nat))) := fun i hi => (HB.out.cell (p := ⟨g, i, none⟩) hg2).trans (HL.out i hi)
          have f15 : ∀ i, fixLens.getD i 0 ≤ 15 := fun i => by
            by_cases h : i < fixLens.length
            · rw [List.getD_eq_getElem?_getD, List.getElem?_eq_getElem h]; exact fix_15 _ (List.getElem_mem h)
            · rw [List.getD_eq_getElem?_getD, List.getElem?_eq_none (by omega)]; simp
          have d15 : ∀ i, fixDist.getD i 0 ≤ 15 := fun i => by
            by_cases h : i < fixDist.length
            · rw [List.getD_eq_getElem?_getD, List.getElem?_eq_getElem h]; exact fixD_15 _ (List.getElem_mem h)
            · rw [List.getD_eq_getElem?_getD, List.getElem?_eq_none (by omega)]; simp
          have HZ : Hid (((w.alloc (.cells #[.slice none 0 0, .slice none 0 0] 72)).alloc (.cells #[.slice none 0 0, .slice none 0 0] 72)).heap.size = w.heap.size + 2) := by show _ = _; simp
          obtain ⟨w0, HW0⟩ : ∃ w0, Hid (w0 = (w.alloc (.cells #[.slice none 0 0, .slice none 0 0] 72)).alloc (.cells #[.slice none 0 0, .slice none 0 0] 72)) := ⟨_, rfl⟩
          rw [← HW0.out] at HZ
          go_wp2_with fail
          refine (code_new g 0 cp 288 fixLens false false w0 wr fixLens_len (by rw [fixLens_len]; omega) (by rw [fixLens_len]; omega) f15 (fun i hi => by rw [Nat.zero_add]; exact HL2.out i (by rw [← fixLens_len]; exact hi)) (by omega) (by rw [HZ.out]; exact hg1)).mono ?_
          rintro ev w1 ⟨CL, rfl, hb1, hn1⟩
          have HB1 : Hid _ := hb1
          have HN1 : Hid _ := hn1
          clear hb1 hn1
          go_wp2_with fail
          have HB2 : Hid (Below wr.heap.size wr (w1.alloc (.cells #[.slice CL.ax 288 CL.cx, .slice CL.ay 288 CL.cy] 72))) := HB1.out.alloc HB1.out.size _
          have HN2 := hid' (HN1.out.later ((Below.refl _ _).alloc (Nat.le_refl _) (.cells #[.slice CL.ax 288 CL.cx, .slice CL.ay 288 CL.cy] 72)))
          have HX0 : Hid ((w1.alloc (.cells #[.slice CL.ax 288 CL.cx, .slice CL.ay 288 CL.cy] 72)).heap[w1.heap.size]? = some (.cells #[.slice CL.ax 288 CL.cx, .slice CL.ay 288 CL.cy] 72)) := heap_alloc_new _ _
          have HXS : Hid (w1.heap.size < (w1.alloc (.cells #[.slice CL.ax 288 CL.cx, .slice CL.ay 288 CL.cy] 72)).heap.size) := by show _ < _; simp
          have HXL : Hid (wr.heap.size ≤ w1.heap.size) := HB1.out.size
          obtain ⟨b7, HB7⟩ : ∃ b7, Hid (b7 = w1.heap.size) := ⟨_, rfl⟩
          rw [← HB7.out] at HX0 HXS HXL ⊢
          generalize w1.alloc (.cells #[.slice CL.ax 288 CL.cx, .slice CL.ay 288 CL.cy] 72) = w2 at HB2 HN2 HX0 HXS ⊢
          clear HB1 HN1 HB7
          refine (code_new d 0 cp' 32 fixDist false false w0 w2 rfl (by show 0 < 32; omega) (by show 32 ≤ 400; omega) d15 (fun i hi => by rw [Nat.zero_add]; exact (HB2.out.cell (p := ⟨d, i, none⟩) hd2).trans (HD.out i hi)) (Nat.lt_of_lt_of_le hd2 HB2.out.size) (by rw [HZ.out]; omega)).mono ?_
          rintro ev w3 ⟨CD, rfl, hb3, hn3⟩
          have HB3 : Hid _ := hb3
          have HN3 : Hid _ := hn3
          clear hb3 hn3
          go_wp2
          have HB4 : Hid (Below w2.heap.size w2 (w3.alloc (.cells #[.slice CD.ax 32 CD.cx, .slice CD.ay 32 CD.cy] 72))) := HB3.out.alloc HB3.out.size _
          have HN4 := hid' (HN3.out.later ((Below.refl _ _).alloc (Nat.le_refl _) (.cells #[.slice CD.ax 32 CD.cx, .slice CD.ay 32 CD.cy] 72)))
          have HY0 : Hid ((w3.alloc (.cells #[.slice CD.ax 32 CD.cx, .slice CD.ay 32 CD.cy] 72)).heap[w3.heap.size]? = some (.cells #[.slice CD.ax 32 CD.cx, .slice CD.ay 32 CD.cy] 72)) := heap_alloc_new _ _
          have HYL : Hid (w2.heap.size ≤ w3.heap.size) := HB3.out.size
          obtain ⟨b9, HB9⟩ : ∃ b9, Hid (b9 = w3.heap.size) := ⟨_, rfl⟩
          rw [← HB9.out] at HY0 HYL ⊢
          generalize w3.alloc (.cells #[.slice CD.ax 32 CD.cx, .slice CD.ay 32 CD.cy] 72) = w4 at HB4 HN4 HY0 ⊢
          have HN5 := hid' (HN2.out.later HB4.out)
          have HX5 : Hid (w4.heap[b7]? = some (.cells #[.slice CL.ax 288 CL.cx, .slice CL.ay 288 CL.cy] 72)) := (HB4.out.block _ HXS.out).trans HX0.out
          have HR4 : Hid (RB w w4) := HRB.out.next ((HB2.out.mono (by omega)).trans (HB4.out.mono (by have := HB2.out.size; omega)))
          obtain ⟨r0, r1, r2, r3, fr, fq⟩ := HR4.out.cells
          have x0 := cell_of (cs := [.slice CL.ax 288 CL.cx, .slice CL.ay 288 CL.cy]) (i := 0) HX5.out rfl
          have x1 := cell_of (cs := [.slice CL.ax 288 CL.cx, .slice CL.ay 288 CL.cy]) (i := 1) HX5.out rfl
          have y0 := cell_of (cs := [.slice CD.ax 32 CD.cx, .slice CD.ay 32 CD.cy]) (i := 0) HY0.out rfl
          have y1 := cell_of (cs := [.slice CD.ax 32 CD.cx, .slice CD.ay 32 CD.cy]) (i := 1) HY0.out rfl
          have f0 := fr 0
          have f1 := fr 1
          have f2 := fq 0
          have f3 := fq 1
          have h7 : w.heap.size + 2 ≤ b7 := by have := HXL.out; omega
          have h9 : w.heap.size + 2 ≤ b9 := by have := HYL.out; have := HB2.out.size; omega
          have HDONE := hid' (HR4.out.done (.slice CL.ax 288 CL.cx) (.slice CL.ay 288 CL.cy) (.slice CD.ax 32 CD.cx) (.slice CD.ay 32 CD.cy))
          have hgl := HN5.out.l1
          have hgb := HN5.out.l2
          have hdl := HN4.out.l1
          have hdb := HN4.out.l2
          rw [HZ.out] at hgl hgb hdl hdb
          have eL : CL.lens.length = 288 := by rw [HN5.out.le, fixLens_len]
          have eD : CD.lens.length = 32 := by rw [HN4.out.le]; rfl
          have e7 : ¬ (b7 = w.heap.size) := by omega
          have e7' : ¬ (b7 = w.heap.size + 1) := by omega
          have e9 : ¬ (b9 = w.heap.size) := by omega
          have e9' : ¬ (b9 = w.heap.size + 1) := by omega
          clear HRB HL2 HD HO HB HL HR fr fq HW0 f15 d15 HXL HYL HXS HB2 HB3 HB4 HX0 HX5 HY0 HN2 HN3 HB9
          obtain ⟨q1, ⟨q2, q3, q4, q5⟩, q6, q7⟩ := HDONE.out
          have HM : w.heap.size ≤ w0.heap.size := by rw [HZ.out]; omega
          have HF1 := hid' ((HN5.out.frame (q6 _ hgl.1) (q6 _ hgb.1) (Nat.le_of_eq q7.symm)).mono HM).drew
          have HF2 := hid' ((HN4.out.frame (q6 _ hdl.1) (q6 _ hdb.1) (Nat.le_of_eq q7.symm)).mono HM).drew
          have HF3 := hid' q1
          have HQ2 := hid' q2
          have HQ3 := hid' q3
          have HQ4 := hid' q4
          have HQ5 := hid' q5
          clear HDONE q1 q2 q3 q4 q5 q6 q7
          go_region
          all_goals go_wp2
          all_goals refine bodyPost_ret (results_both Tryd.results40 _ _ w.heap.size (w.heap.size + 1) _ _ _ _ rfl rfl HQ2.out HQ3.out HQ4.out HQ5.out) rfl ?_
          all_goals exact ⟨CL, CD, by unfold codeVal; rw [eL, eD], ⟨HF3.out.os, HF3.out.tape, HF3.out.output, HF3.out.size, HF3.out.block⟩, HF1.out, HF2.out⟩
end Go.Proofs.YtbiibhpknflagaaDoor
