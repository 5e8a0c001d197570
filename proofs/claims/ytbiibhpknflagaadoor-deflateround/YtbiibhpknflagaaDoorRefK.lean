/- The document's own reader: 'code'. -/
import Derived.Test.YtbiibhpknflagaaDoorPlainD
import Derived.Deep.AppendLies
namespace Go.Proofs.YtbiibhpknflagaaDoor
open Go.RowKit Plain
set_option linter.unusedVariables false
set_option linter.unusedSimpArgs false

/-- The bits that are laid down when lengths up to m are done, and of length m + 1 the first i symbols. -/
def btAt (lens : List Nat) (m i j : Nat) : Nat := if 0 < lens.getD j 0 ∧ (lens.getD j 0 ≤ m ∨ lens.getD j 0 = m + 1 ∧ j < i) then bitOf lens j else 0
theorem btAt_zero (lens : List Nat) (j : Nat) : btAt lens 0 0 j = 0 := if_neg (by omega)
theorem btAt_hit (lens : List Nat) (m i j : Nat) (h : lens.getD i 0 = m + 1) : btAt lens m (i + 1) j = if j = i then 2 * nxt lens m + rank lens (m + 1) i else btAt lens m i j := by
  by_cases e : j = i
  · subst e
    rw [if_pos rfl]
    unfold btAt
    rw [if_pos (by omega)]
    unfold bitOf
    rw [h]
    rfl
  · rw [if_neg e]
    unfold btAt
    by_cases c : 0 < lens.getD j 0 ∧ (lens.getD j 0 ≤ m ∨ lens.getD j 0 = m + 1 ∧ j < i)
    · rw [if_pos c, if_pos (by omega)]
    · rw [if_neg c, if_neg (by omega)]
theorem btAt_miss (lens : List Nat) (m i j : Nat) (h : lens.getD i 0 ≠ m + 1) : btAt lens m (i + 1) j = btAt lens m i j := by
  unfold btAt
  by_cases c : 0 < lens.getD j 0 ∧ (lens.getD j 0 ≤ m ∨ lens.getD j 0 = m + 1 ∧ j < i)
  · rw [if_pos c, if_pos (by omega)]
  · rw [if_neg c]
    by_cases e : j = i
    · subst e; rw [if_neg (by omega)]
    · rw [if_neg (by omega)]
theorem btAt_end (lens : List Nat) (m j : Nat) (hj : j < lens.length) : btAt lens m lens.length j = btAt lens (m + 1) 0 j := by
  unfold btAt
  by_cases c : 0 < lens.getD j 0 ∧ (lens.getD j 0 ≤ m ∨ lens.getD j 0 = m + 1 ∧ j < lens.length)
  · rw [if_pos c, if_pos (by omega)]
  · rw [if_neg c, if_neg (by omega)]
theorem btAt_all (lens : List Nat) (h15 : ∀ i, lens.getD i 0 ≤ 15) (j : Nat) (hj : j < lens.length) : btAt lens 15 0 j = (bitsL lens).getD j 0 := by
  have := h15 j
  unfold btAt
  by_cases c : 0 < lens.getD j 0
  · rw [bitsL_get lens j hj c, if_pos (by omega)]
  · rw [if_neg (by omega)]
    unfold bitsL
    rw [List.getD_eq_getElem?_getD, List.getElem?_map, List.getElem?_range hj]
    simp only [Option.map_some, Option.getD_some]
    rw [if_pos (by omega)]
/-- The longest length so far. -/
def Lon (lens : List Nat) (u g : Nat) : Prop := u = 0 ∧ g = 0 ∨ 1 ≤ u ∧ 1 ≤ g ∧ g ≤ 15 ∧ g ∈ lens
def codeQ (few none_ : Bool) (lens : List Nat) : Bool := wholeB (cntOf lens) || (few && (below (cntOf lens) 16 == 1 && (cntOf lens).getD 1 0 == 1) || none_ && below (cntOf lens) 16 == 0)
theorem one_below (lens : List Nat) (n : Nat) (h1 : 1 ≤ n) (h2 : n ≤ 15) : lens.count n ≤ below (cntOf lens) 16 := by
  have a := below_succ (cntOf lens) n h1
  have b := below_mono (cntOf lens) (n + 1) 16 (by omega)
  rw [cntOf_count lens n (by omega) (by omega)] at a
  omega
theorem lon_one (lens : List Nat) (g : Nat) (h : Lon lens (below (cntOf lens) 16) g) : (below (cntOf lens) 16 == 1 && g == 1) = (below (cntOf lens) 16 == 1 && (cntOf lens).getD 1 0 == 1) := by
  by_cases hu : below (cntOf lens) 16 = 1
  · have : (g == 1) = ((cntOf lens).getD 1 0 == 1) := by
      rw [cntOf_count lens 1 (by omega) (by omega)]
      rcases h with h | ⟨_, h2, h3, h4⟩
      · omega
      · have hc := List.count_pos_iff.2 h4
        by_cases e : g = 1
        · subst e
          have := one_below lens 1 (by omega) (by omega)
          have e1 : lens.count 1 = 1 := by omega
          rw [e1]
        · have a := below_succ (cntOf lens) g h2
          have b := below_mono (cntOf lens) (g + 1) 16 (by omega)
          have c := below_mono (cntOf lens) 2 g (by omega)
          have d : below (cntOf lens) 2 = below (cntOf lens) 1 + lens.count 1 := by
            have := below_succ (cntOf lens) 1 (by omega)
            rw [cntOf_count lens 1 (by omega) (by omega)] at this
            exact this
          have d1 := below_one (cntOf lens)
          rw [cntOf_count lens g (by omega) (by omega)] at a
          have e1 : lens.count 1 = 0 := by omega
          rw [e1]
          simpa using e
    rw [this]
  · have : (below (cntOf lens) 16 == 1) = false := by simpa using hu
    rw [this]; rfl
structure BRow (w : World) (g n : Nat) (f : Nat → Nat) : Prop where
  c : ∀ i, i < n → w.cell? ⟨g, i, none⟩ = some (.int .i64 (f i : Nat))
  z : ∀ i, w.frozen? ⟨g, i, none⟩ = false
  l : g < w.heap.size
theorem BRow.set {w : World} {g n : Nat} {f f' : Nat → Nat} (h : BRow w g n f) (k x : Nat) (hk : k < n) (hf : ∀ j, j < n → f' j = if j = k then x else f j) : BRow (w.setCell ⟨g, k, none⟩ (.int .i64 (x : Nat))) g n f' :=
  ⟨fun i hi => by
    rw [hf i hi]
    by_cases e : i = k
    · subst e; rw [if_pos rfl]; exact World.cell?_setCell_same _ _ _ (h.c i hi)
    · rw [if_neg e, cell_set_ne _ (by omega)]; exact h.c i hi,
   fun i => by rw [World.frozen?_setCell]; exact h.z i, by simp [World.setCell]; exact h.l⟩
theorem BRow.re {w : World} {g n : Nat} {f f' : Nat → Nat} (h : BRow w g n f) (hf : ∀ j, j < n → f' j = f j) : BRow w g n f' := ⟨fun i hi => by rw [hf i hi]; exact h.c i hi, h.z, h.l⟩
theorem nxt_le (lens : List Nat) : ∀ n, nxt lens n + lens.length ≤ lens.length * 2 ^ n
  | 0 => by simp [nxt]
  | n + 1 => by
    have ih := nxt_le lens n
    have hc : lens.count (n + 1) ≤ lens.length := List.count_le_length
    rw [nxt, Nat.pow_succ, ← Nat.mul_assoc]
    omega
theorem nxt_bd (lens : List Nat) (n : Nat) (hn : n ≤ 15) (hl : lens.length ≤ 400) : nxt lens n ≤ 13107200 := by
  have h1 := nxt_le lens n
  have h2 : 2 ^ n ≤ 32768 := Nat.pow_le_pow_right (n := 2) (by omega) hn
  have h3 := Nat.mul_le_mul hl h2
  omega
theorem sp_bd (lens : List Nat) (hl : lens.length ≤ 400) : ∀ n, sp lens n ≤ n * 6553600
  | 0 => by simp [sp]
  | n + 1 => by
    have ih := sp_bd lens hl n
    have hc : lens.count (n + 1) ≤ lens.length := List.count_le_length
    have h2 : 2 ^ (15 - (n + 1)) ≤ 16384 := Nat.pow_le_pow_right (n := 2) (by omega) (show 15 - (n + 1) ≤ 14 by omega)
    have h3 := Nat.mul_le_mul (Nat.le_trans hc hl) h2
    rw [sp, Nat.succ_mul]
    omega
theorem rank_bd (lens : List Nat) (n i : Nat) (hl : lens.length ≤ 400) : rank lens n i ≤ 400 := by
  unfold rank
  have := List.count_le_length (a := n) (l := lens.take i)
  rw [List.length_take] at this
  omega
theorem space_in (a t : Nat) (ha : a ≤ 110000000) (ht : t ≤ 14) : wrap64 ((a : Int) + wrap64 (2 ^ t)) = ((a + 2 ^ t : Nat) : Int) := by
  have h2 : 2 ^ t ≤ 16384 := Nat.pow_le_pow_right (n := 2) (by omega) ht
  have e : ((2 : Int) ^ t) = ((2 ^ t : Nat) : Int) := by push_cast; rfl
  rw [e]
  generalize 2 ^ t = P at h2 ⊢
  unfold wrap64
  omega
/-- The two blocks that 'code' has made: its result, its code. -/
structure CF (w wr : World) (A v : Value) : Prop where
  b : Below w.heap.size w wr
  r0 : wr.cell? ⟨w.heap.size, 0, none⟩ = some (.slice none 0 0)
  r1 : wr.cell? ⟨w.heap.size, 1, none⟩ = some (.slice none 0 0)
  c0 : wr.cell? ⟨w.heap.size + 1, 0, none⟩ = some A
  c1 : wr.cell? ⟨w.heap.size + 1, 1, none⟩ = some v
  fr : ∀ i, wr.frozen? ⟨w.heap.size, i, none⟩ = false
  fc : ∀ i, wr.frozen? ⟨w.heap.size + 1, i, none⟩ = false
  sz : w.heap.size + 2 ≤ wr.heap.size
theorem cell_set_far {w : World} {b o b' o' : Nat} (u : Value) (h : b ≠ b') : (w.setCell ⟨b', o', none⟩ u).cell? ⟨b, o, none⟩ = w.cell? ⟨b, o, none⟩ :=
  World.cell?_of_block (a := ⟨b, o, none⟩) (Below.heap_setCell w _ u b (fun e => h e))
theorem CF.start (w : World) (A : Value) : CF w ((w.alloc (.cells #[.slice none 0 0, .slice none 0 0] 72)).alloc (.cells #[A, .slice none 0 0] 72)) A (.slice none 0 0) := by
  have e : (w.alloc (.cells #[.slice none 0 0, .slice none 0 0] 72)).heap.size = w.heap.size + 1 := by simp
  refine ⟨((Below.refl _ _).alloc (Nat.le_refl _) _).alloc (by simp) _, ?_, ?_, ?_, ?_, ?_, ?_, by simp⟩
  · exact (World.cell?_alloc_lt _ _ ⟨w.heap.size, 0, none⟩ (by simp)).trans ((World.cell?_alloc_at (w := w) _ _ _ 0 rfl).trans rfl)
  · exact (World.cell?_alloc_lt _ _ ⟨w.heap.size, 1, none⟩ (by simp)).trans ((World.cell?_alloc_at (w := w) _ _ _ 1 rfl).trans rfl)
  · rw [← e]; exact (World.cell?_alloc_at _ _ _ 0 rfl).trans rfl
  · rw [← e]; exact (World.cell?_alloc_at _ _ _ 1 rfl).trans rfl
  · intro i; exact World.frozen?_alloc2_first _ _ _ i
  · intro i; exact World.frozen?_alloc2_new _ _ _ i
theorem CF.far {w wr : World} {A v : Value} (h : CF w wr A v) (g k : Nat) (x : Value) (hg : w.heap.size + 2 ≤ g) : CF w (wr.setCell ⟨g, k, none⟩ x) A v :=
  ⟨h.b.setCell (by show _ ≤ g; omega) _, (cell_set_far _ (by omega)).trans h.r0, (cell_set_far _ (by omega)).trans h.r1, (cell_set_far _ (by omega)).trans h.c0, (cell_set_far _ (by omega)).trans h.c1,
    fun i => by rw [World.frozen?_setCell]; exact h.fr i, fun i => by rw [World.frozen?_setCell]; exact h.fc i, by simp [World.setCell]; exact h.sz⟩
theorem CF.grow {w wr wx w3 : World} {A v : Value} (h : CF w wr A v) (hx : wr.grownBy wx none) (hg : wx.grownBy w3 v.ownBlock) (hv : ∀ k, v.ownBlock = some k → w.heap.size + 2 ≤ k) (vn : Value) : CF w (w3.setCell ⟨w.heap.size + 1, 1, none⟩ vn) A vn := by
  have hs1 := hx.size
  have hs2 := hg.size
  have hsz := h.sz
  have off : ∀ k, k < w.heap.size + 2 → some k ≠ v.ownBlock := fun k hk e => by have := hv k e.symm; omega
  have blk : ∀ k, k < w.heap.size + 2 → w3.heap[k]? = wr.heap[k]? := fun k hk => (hg.block k (by omega) (off k hk)).trans (hx.block k (by omega) (by simp))
  have c : ∀ k i, k < w.heap.size + 2 → w3.cell? ⟨k, i, none⟩ = wr.cell? ⟨k, i, none⟩ := fun k i hk => World.cell?_of_block (a := ⟨k, i, none⟩) (blk k hk)
  have f : ∀ k i, k < w.heap.size + 2 → w3.frozen? ⟨k, i, none⟩ = wr.frozen? ⟨k, i, none⟩ := fun k i hk => World.frozen?_of_block (a := ⟨k, i, none⟩) (blk k hk)
  have hb : Below w.heap.size w w3 := ⟨hg.os.trans (hx.os.trans h.b.os), hg.tape.trans (hx.tape.trans h.b.tape), hg.output.trans (hx.output.trans h.b.output), by have := h.b.size; omega, fun k hk => (blk k (by omega)).trans (h.b.block k hk)⟩
  refine ⟨hb.setCell (by show _ ≤ w.heap.size + 1; omega) _, ?_, ?_, ?_, ?_, ?_, ?_, ?_⟩
  · exact (cell_set_far _ (by omega)).trans ((c _ _ (by omega)).trans h.r0)
  · exact (cell_set_far _ (by omega)).trans ((c _ _ (by omega)).trans h.r1)
  · exact (cell_set_ne _ (by omega)).trans ((c _ _ (by omega)).trans h.c0)
  · exact World.cell?_setCell_same _ _ _ ((c _ _ (by omega)).trans h.c1)
  · intro i; rw [World.frozen?_setCell, f _ _ (by omega)]; exact h.fr i
  · intro i; rw [World.frozen?_setCell, f _ _ (by omega)]; exact h.fc i
  · simp [World.setCell]; omega
theorem CF.grown {w wr wx w3 : World} {A v : Value} (h : CF w wr A v) (hx : wr.grownBy wx none) (hg : wx.grownBy w3 v.ownBlock) (hv : ∀ k, v.ownBlock = some k → w.heap.size + 2 ≤ k) : w3.cell? ⟨w.heap.size + 1, 1, none⟩ = some v ∧ w3.frozen? ⟨w.heap.size + 1, 1, none⟩ = false := by
  have hs1 := hx.size
  have hsz := h.sz
  have blk : w3.heap[w.heap.size + 1]? = wr.heap[w.heap.size + 1]? := (hg.block _ (by omega) (fun e => by have := hv _ e.symm; omega)).trans (hx.block _ (by omega) (by simp))
  exact ⟨(World.cell?_of_block (a := ⟨w.heap.size + 1, 1, none⟩) blk).trans h.c1, (World.frozen?_of_block (a := ⟨w.heap.size + 1, 1, none⟩) blk).trans (h.fc 1)⟩
theorem code_step (lens : List Nat) (q i : Nat) (hq1 : 1 ≤ q) (hq : q ≤ 15) (hi : i < lens.length) (hl : lens.length ≤ 400) :
    2 * nxt lens (q - 1) + rank lens q i ≤ 26214800 ∧ below (cntOf lens) q + rank lens q i ≤ 800 ∧ sp lens (q - 1) + rank lens q i * 2 ^ (15 - q) ≤ 110000000 := by
  have h1 := nxt_bd lens (q - 1) (by omega) hl
  have h2 := rank_bd lens q i hl
  have h3 := below_mono (cntOf lens) q 16 (by omega)
  have h4 := below_le_length lens
  have h5 := sp_bd lens hl (q - 1)
  have h6 : 2 ^ (15 - q) ≤ 16384 := Nat.pow_le_pow_right (n := 2) (by omega) (show 15 - q ≤ 14 by omega)
  have h7 := Nat.mul_le_mul h2 h6
  have h8 : (q - 1) * 6553600 ≤ 14 * 6553600 := Nat.mul_le_mul (by omega) (Nat.le_refl _)
  refine ⟨by omega, by omega, by omega⟩
theorem lon_up {lens : List Nat} {u q i : Nat} (hq1 : 1 ≤ q) (hq : q ≤ 15) (hi : i < lens.length) (he : lens.getD i 0 = q) : Lon lens (u + 1) q :=
  .inr ⟨by omega, hq1, hq, by rw [← he, List.getD_eq_getElem?_getD, List.getElem?_eq_getElem hi]; exact List.getElem_mem hi⟩
theorem Tryd.row72 : (Tryd.prog.underlying 72).map (·.isRow) = some true := by kernel_rfl
theorem Tryd.size72 : (Tryd.prog.info? 72).map (·.size) = some 2 := by kernel_rfl
theorem Nat.beq_eq_decide_eq (a b : Nat) : (a == b) = decide (a = b) := by by_cases h : a = b <;> simp [h]
theorem load72 (w : World) (g : Nat) (x y : Value) (h0 : w.cell? ⟨g, 0, none⟩ = some x) (h1 : w.cell? ⟨g, 1, none⟩ = some y) : (loadVar 72 ⟨g, 0, none⟩).run Tryd.prog w = .ok (.agg #[x, y]) w := by
  obtain ⟨d, hu, hd⟩ : ∃ d, Tryd.prog.underlying 72 = some d ∧ d.isRow = true := by
    have := Tryd.row72
    cases hd : Tryd.prog.underlying 72 with
    | none => rw [hd] at this; cases this
    | some d => rw [hd] at this; exact ⟨d, rfl, by simpa using this⟩
  refine run_loadVar_mid w g 0 72 [x, y] d ?_ hu hd Tryd.size72
  intro j v hv
  match j, hv with
  | 0, hv => simp at hv; subst hv; exact h0
  | 1, hv => simp at hv; subst hv; exact h1
theorem results_two {fn : Func} {p q : Tmp} (h : fn.results = #[.cell p 72, .tmp q]) (tmps : Array Value) (w : World) (g : Nat) (x y z : Value)
    (hp : tmps.getD p undef = .pointer (some ⟨g, 0, none⟩)) (hq : tmps.getD q undef = z) (h0 : w.cell? ⟨g, 0, none⟩ = some x) (h1 : w.cell? ⟨g, 1, none⟩ = some y) :
    (results fn tmps).run Tryd.prog w = .ok (.tuple #[.agg #[x, y], z]) w := by
  have hp' : tmps[p]?.getD undef = .pointer (some ⟨g, 0, none⟩) := by simpa using hp
  have hq' : tmps[q]?.getD undef = z := by simpa using hq
  simp [results, h, hp', hq', asAddr, load72 w g x y h0 h1]
theorem Tryd.results66 : Tryd.f66.results = #[.cell 6 72, .tmp 7] := by kernel_rfl
theorem CF.done {w wr : World} {A v : Value} {g n : Nat} {f : Nat → Nat} (h : CF w wr A v) (hb : BRow wr g n f) (hg : w.heap.size + 2 ≤ g) : Below w.heap.size w ((wr.setCell ⟨w.heap.size, 0, none⟩ A).setCell ⟨w.heap.size, 1, none⟩ v) ∧ BRow ((wr.setCell ⟨w.heap.size, 0, none⟩ A).setCell ⟨w.heap.size, 1, none⟩ v) g n f ∧
    ((wr.setCell ⟨w.heap.size, 0, none⟩ A).setCell ⟨w.heap.size, 1, none⟩ v).cell? ⟨w.heap.size, 0, none⟩ = some A ∧ ((wr.setCell ⟨w.heap.size, 0, none⟩ A).setCell ⟨w.heap.size, 1, none⟩ v).cell? ⟨w.heap.size, 1, none⟩ = some v :=
  ⟨(h.b.setCell (Nat.le_refl _) _).setCell (Nat.le_refl _) _,
   ⟨fun i hi => (cell_set_far _ (by omega)).trans ((cell_set_far _ (by omega)).trans (hb.c i hi)), fun i => by rw [World.frozen?_setCell, World.frozen?_setCell]; exact hb.z i, by simp [World.setCell]; exact hb.l⟩,
   (cell_set_ne _ (by omega)).trans (World.cell?_setCell_same _ _ _ h.r0), World.cell?_setCell_same _ _ _ ((cell_set_ne _ (by omega)).trans h.r1)⟩
def CodeP (w : World) (gl ol cx n : Nat) (lens : List Nat) (R : Bool) (ev : Ending) (w' : World) : Prop :=
  ∃ gb cy, ev = .returned (.tuple #[.agg #[.slice (some ⟨gl, ol, none⟩) n cx, .slice (some ⟨gb, 0, none⟩) n cy], .bool R]) ∧ Below w.heap.size w w' ∧ w.heap.size ≤ gb ∧ BRow w' gb n (fun i => (bitsL lens).getD i 0)
set_option maxRecDepth 20000 in
set_option maxHeartbeats 2000000 in
theorem code_any (gl ol cx : Nat) (lens : List Nat) (few none_ : Bool) (w : World) (h0 : 0 < lens.length) (hl : lens.length ≤ 400) (h15 : ∀ i, lens.getD i 0 ≤ 15)
    (hat : ∀ i, i < lens.length → w.cell? ⟨gl, ol + i, none⟩ = some (.int .i64 (lens.getD i 0 : Nat))) (hgl : gl < w.heap.size) :
    Calls Tryd.prog 66 #[.slice (some ⟨gl, ol, none⟩) lens.length cx, .bool few, .bool none_] w (CodeP w gl ol cx lens.length lens (codeQ few none_ lens)) := by
  obtain ⟨i3, hi, hz0, hz1, hz2⟩ := info_parts Tryd.info3
  have HAT : Hid (∀ i, i < lens.length → w.cell? ⟨gl, ol + i, none⟩ = some (.int .i64 (lens.getD i 0 : Nat))) := hat
  have H15 : Hid (∀ i, lens.getD i 0 ≤ 15) := h15
  clear hat h15
  obtain ⟨n, HN⟩ : ∃ n, Hid (n = lens.length) := ⟨_, rfl⟩
  rw [← HN.out] at h0 hl HAT ⊢
  obtain ⟨R, HR0⟩ : ∃ R, Hid (R = codeQ few none_ lens) := ⟨_, rfl⟩
  rw [← HR0.out]
  go_enter Tryd.func66, Tryd.ntmps66
  go_wp2
  obtain ⟨A, HA⟩ : ∃ A, Hid (A = Value.slice (some ⟨gl, ol, none⟩) n cx) := ⟨_, rfl⟩
  have HF0 : Hid (CF w ((w.alloc (.cells #[.slice none 0 0, .slice none 0 0] 72)).alloc (.cells #[.slice (some ⟨gl, ol, none⟩) n cx, .slice none 0 0] 72)) A (.slice none 0 0)) := by rw [HA.out]; exact CF.start w _
  go_loopg [12] n (fun k i wr => ∃ (j cp : Nat) (a : Option Addr), j ≤ n ∧ i = .int .i64 j ∧ k = n - j ∧ Hid (CF w wr A (.slice a j cp)) ∧ Hid (wr.ownsRow (w.heap.size + 2) 3 1 (.slice a j cp) j (arr (List.replicate j 0))))
  case atStart => exact ⟨0, 0, none, by omega, rfl, by omega, HF0.out, World.ownsRow_nil _ _ _ _⟩
  case round =>
    clear HF0
    obtain ⟨j, cp, a, hj, rfl, hk, HF, HO⟩ := hrel
    by_cases hjn : j < n
    · have d1 := HF.out.c1
      have hsz := HF.out.sz
      go_wp2_with (at_builtin; refine wpList_append_lies _ rfl _ _ _ rfl (w.heap.size + 2) 3 i3 (.int .i64 0) 1 8 Tryd.underlying70 hi hz0 hz1 hz2 rfl (by omega) (.slice a j cp) j (arr (List.replicate j 0)) rfl (by exact HO.out.alloc _) ⟨wr.heap.size, 0, none⟩ 1 1 [.int .i64 0] rfl rfl (by intro i u hu; match i, hu with | 0, hu => simp at hu; subst hu; exact (World.cell?_alloc_at (w := wr) _ _ _ 0 rfl).trans rfl) (by intro u hu; simp at hu; subst hu; rfl) (by omega) (by unfold maxLen; omega) (by omega) (by simp; omega) (wr.heap.size + 1) (by simp) ?_; intro g2 cp2 w3 hown1 hgrow hat hlt2; obtain ⟨e1, e2⟩ := HF.out.grown (World.grownBy_alloc wr _ none) hgrow (fun k e => (HO.out.lt k e).1))
      go_roundg (n - (j + 1))
      case measure => omega
      case rel =>
        have HG := HF.out.grow (World.grownBy_alloc wr _ none) hgrow (fun k e => (HO.out.lt k e).1) (.slice (some ⟨g2, 0, none⟩) (j + 1 : Nat) cp2)
        have HO3 : (w3.setCell ⟨w.heap.size + 1, 1, none⟩ (.slice (some ⟨g2, 0, none⟩) (j + 1 : Nat) cp2)).ownsRow (w.heap.size + 2) 3 1 (.slice (some ⟨g2, 0, none⟩) (j + 1 : Nat) cp2) (j + 1) (arr (List.replicate (j + 1) 0)) := by
          have e : arr (List.replicate (j + 1) 0) = arr (List.replicate j 0) ++ [.int .i64 0] := by rw [List.replicate_succ']; simp [arr]
          rw [e]
          refine owns_set hown1 _ _ _ ?_
          intro e
          have := (hown1.lt _ e.symm).1
          omega
        exact ⟨j + 1, cp2, some ⟨g2, 0, none⟩, by omega, by go_num, rfl, HG, HO3⟩
    · obtain rfl : j = n := by omega
      obtain ⟨g, cap', hv, hg1, hg2⟩ := HO.out.form h0
      simp only [Value.slice.injEq] at hv
      obtain ⟨rfl, _, rfl⟩ := hv
      have HB : Hid (BRow wr g j (btAt lens 0 0)) := ⟨fun i hi => by
        have := HO.out.cellAt i (by omega)
        rw [this, arr_at _ _ (by simpa using hi), btAt_zero]
        simp [hi], HO.out.frozenAt, hg2⟩
      clear HO
      go_wp2
      go_loopg [9, 10, 11, 13, 14] 16 (fun k v9 v10 v11 v13 v14 wr => ∃ (q x u lo s : Nat), 1 ≤ q ∧ q ≤ 16 ∧ v9 = .int .i64 x ∧ v10 = .int .i64 u ∧ v11 = .int .i64 lo ∧ v13 = .int .i64 s ∧ v14 = .int .i64 q ∧ k = 17 - q ∧ Hid (x = nxt lens (q - 1)) ∧ Hid (u = below (cntOf lens) q) ∧ Hid (Lon lens u lo) ∧ Hid (s = sp lens (q - 1)) ∧ Hid (CF w wr A (.slice (some ⟨g, 0, none⟩) j cp)) ∧ Hid (BRow wr g j (btAt lens (q - 1) 0)))
      case atStart => exact ⟨1, 0, 0, 0, 0, by omega, by omega, rfl, rfl, rfl, rfl, rfl, by omega, (show 0 = _ from rfl), (show 0 = _ from rfl), .inl ⟨rfl, rfl⟩, (show 0 = _ from rfl), HF.out, HB.out⟩
      case round =>
        clear HF HB
        obtain ⟨q, x, u, lo, s, hq1, hq2, rfl, rfl, rfl, rfl, rfl, hk2, HX, HU, HL, HS, HF, HB⟩ := hrel
        have hxb : x ≤ 13107200 := by rw [HX.out]; exact nxt_bd lens (q - 1) (by omega) (by rw [← HN.out]; exact hl)
        by_cases hq : q ≤ 15
        · go_wp2
          go_loopg [9, 10, 11, 13, 15] j (fun k v9 v10 v11 v13 v15 wq => ∃ (i x' u' lo' s' : Nat), i ≤ j ∧ v9 = .int .i64 x' ∧ v10 = .int .i64 u' ∧ v11 = .int .i64 lo' ∧ v13 = .int .i64 s' ∧ v15 = .int .i64 i ∧ k = j - i ∧ Hid (x' = 2 * nxt lens (q - 1) + rank lens q i) ∧ Hid (u' = below (cntOf lens) q + rank lens q i) ∧ Hid (Lon lens u' lo') ∧ Hid (s' = sp lens (q - 1) + rank lens q i * 2 ^ (15 - q)) ∧ Hid (CF w wq A (.slice (some ⟨g, 0, none⟩) j cp)) ∧ Hid (BRow wq g j (btAt lens (q - 1) i)))
          case atStart =>
            have r0 : rank lens q 0 = 0 := by simp [rank]
            refine ⟨0, 2 * x, u, lo, s, by omega, congrArg (Value.int .i64) (by push_cast; omega), rfl, rfl, rfl, rfl, by omega, ?_, ?_, HL.out, ?_, HF.out, HB.out⟩
            · show _ = _; rw [r0, HX.out]; omega
            · show _ = _; rw [r0, HU.out]; omega
            · show _ = _; rw [r0, HS.out]; omega
          case round =>
            clear HF HB HX HL hxb
            obtain ⟨i, x', u', lo', s', hi', rfl, rfl, rfl, rfl, rfl, hk3, HX, HU', HL, HS', HF, HB⟩ := hrel
            by_cases hij : i < j
            · have hiL : i < lens.length := by rw [← HN.out]; exact hij
              obtain ⟨hb1, hb2, hb3⟩ := code_step lens q i hq1 hq hiL (by rw [← HN.out]; exact hl)
              rw [← HX.out] at hb1
              rw [← HU'.out] at hb2
              rw [← HS'.out] at hb3
              have hru := rank_up lens q i hiL
              obtain ⟨a, HAA⟩ : ∃ a, Hid (a = lens.getD i 0) := ⟨_, rfl⟩
              have l0 := (HF.out.b.cell (p := ⟨gl, ol + i, none⟩) hgl).trans (HAT.out i hij)
              rw [← HAA.out] at l0 hru
              by_cases haq : a = q
              · rw [if_pos haq] at hru
                have HRU : Hid _ := hru
                subst haq
                have d1 := HF.out.c1
                have b0 := HB.out.c i hij
                have z0 := HB.out.z i
                obtain ⟨z, HZ⟩ : ∃ z, Hid (z = btAt lens (a - 1) i i) := ⟨_, rfl⟩
                rw [← HZ.out] at b0
                obtain ⟨t, HT⟩ : ∃ t, Hid (t = 15 - a) := ⟨_, rfl⟩
                have ht : (15 : Int) - (a : Int) = (t : Int) := by have := HT.out; omega
                have ht2 : t ≤ 14 := by have := HT.out; omega
                clear hru
                go_wp2
                go_roundg (j - (i + 1))
                case measure => omega
                case rel =>
                  have hT := HT.out
                  refine ⟨i + 1, x' + 1, u' + 1, a, s' + 2 ^ t, by omega, by go_num, by go_num, rfl, congrArg (Value.int .i64) (space_in s' t hb3 ht2), by go_num, rfl, ?_, ?_, lon_up hq1 hq hiL HAA.out.symm, ?_, HF.out.far _ _ _ hg1, HB.out.set i x' hij fun k hk => ?_⟩
                  · show _ = _; rw [HRU.out, HX.out]; omega
                  · show _ = _; rw [HRU.out, HU'.out]; omega
                  · show _ = _; rw [HRU.out, HS'.out, hT, Nat.add_mul]; omega
                  · have := btAt_hit lens (a - 1) i k (by rw [← HAA.out]; omega)
                    rw [this, show a - 1 + 1 = a by omega, ← HX.out]
              · rw [if_neg haq] at hru
                have HRU : Hid _ := hru
                have haq2 : ¬ ((a : Int) = (q : Int)) := by omega
                clear hru
                go_wp2
                go_roundg (j - (i + 1))
                case measure => omega
                case rel =>
                  refine ⟨i + 1, x', u', lo', s', by omega, rfl, rfl, rfl, rfl, by go_num, rfl, ?_, ?_, HL.out, ?_, HF.out, HB.out.re fun k hk => btAt_miss lens (q - 1) i k ?_⟩
                  · show _ = _; rw [HRU.out]; exact HX.out
                  · show _ = _; rw [HRU.out]; exact HU'.out
                  · show _ = _; rw [HRU.out]; exact HS'.out
                  · rw [← HAA.out]; omega
            · obtain rfl : i = j := by omega
              have hra : rank lens q i = lens.count q := by rw [HN.out]; exact rank_all lens q
              go_wp2
              go_roundg (17 - (q + 1))
              case measure => omega
              case rel =>
                have hn : nxt lens q = 2 * nxt lens (q - 1) + lens.count q := by
                  obtain ⟨m, rfl⟩ : ∃ m, q = m + 1 := ⟨q - 1, by omega⟩
                  rw [nxt]; rfl
                have hsp : sp lens q = sp lens (q - 1) + lens.count q * 2 ^ (15 - q) := by
                  obtain ⟨m, rfl⟩ : ∃ m, q = m + 1 := ⟨q - 1, by omega⟩
                  rw [sp]; rfl
                have hbl := below_succ (cntOf lens) q hq1
                rw [cntOf_count lens q (by omega) (by omega)] at hbl
                refine ⟨q + 1, x', u', lo', s', by omega, by omega, rfl, rfl, rfl, rfl, by go_num, rfl, ?_, ?_, HL.out, ?_, HF.out, HB.out.re fun k hk => ?_⟩
                · show _ = _; rw [Nat.add_sub_cancel, hn, ← hra]; exact HX.out
                · show _ = _; rw [hbl, ← hra]; exact HU'.out
                · show _ = _; rw [Nat.add_sub_cancel, hsp, ← hra]; exact HS'.out
                · rw [Nat.add_sub_cancel]
                  have := btAt_end lens (q - 1) k (by rw [← HN.out]; exact hk)
                  rw [show q - 1 + 1 = q by omega, ← HN.out] at this
                  exact this.symm
        · obtain rfl : q = 16 := by omega
          have HBF : Hid (BRow wr g j (fun i => (bitsL lens).getD i 0)) := HB.out.re fun k hk => (btAt_all lens H15.out k (by rw [← HN.out]; exact hk)).symm
          have d0 := HF.out.c0
          have d1 := HF.out.c1
          have r0 := HF.out.r0
          have r1 := HF.out.r1
          have f0 := HF.out.fr 0
          have f1 := HF.out.fr 1
          have hsb : s ≤ 200000000 := by rw [HS.out]; exact Nat.le_trans (sp_bd lens (by rw [← HN.out]; exact hl) 15) (by omega)
          have hub : u ≤ 400 := by rw [HU.out]; exact Nat.le_trans (below_le_length lens) (by rw [← HN.out]; exact hl)
          rw [HA.out] at d0
          clear HB
          by_cases hsp : s = 32768
          · have hR : R = true := by
              rw [HR0.out]; unfold codeQ; rw [whole_sp, ← HS.out, hsp]; rfl
            subst hsp
            go_wp2
            obtain ⟨q1, q2, q3, q4⟩ := HF.out.done HBF.out hg1
            rw [HA.out] at q1 q2 q3 q4
            refine bodyPost_ret (results_two Tryd.results66 _ _ w.heap.size _ _ (.bool true) rfl rfl q3 q4) rfl ⟨g, cp, by rw [hR], q1, by omega, q2⟩
          · have hR : (few && (decide (u = 1) && decide (lo = 1)) || none_ && decide (u = 0)) = R := by
              rw [HR0.out]
              have hl1 := lon_one lens lo (by rw [← HU.out]; exact HL.out)
              unfold codeQ
              rw [whole_sp, ← hl1, show sp lens 15 = s from HS.out.symm, ← HU.out, decide_eq_false hsp, Bool.false_or, Nat.beq_eq_decide_eq, Nat.beq_eq_decide_eq, Nat.beq_eq_decide_eq]
            have hsp2 : ¬ ((s : Int) = 32768) := by omega
            have hcu : u = 0 ∨ u = 1 ∨ (u ≠ 0 ∧ u ≠ 1 ∧ ¬ (u : Int) = 0 ∧ ¬ (u : Int) = 1) := by omega
            have hcl : lo = 1 ∨ (lo ≠ 1 ∧ ¬ (lo : Int) = 1) := by omega
            obtain ⟨q1, q2, q3, q4⟩ := HF.out.done HBF.out hg1
            rw [HA.out] at q1 q2 q3 q4
            have HQ1 : Hid _ := q1
            have HQ2 : Hid _ := q2
            have HQ3 : Hid _ := q3
            have HQ4 : Hid _ := q4
            have HRR : Hid _ := hR
            clear q1 q2 q3 q4 HR0 HL HU hR
            cases few
            · cases none_
              · go_wp2
                exact bodyPost_ret (results_two Tryd.results66 _ _ w.heap.size _ _ (.bool false) rfl (by first | rfl | exact congrArg Value.bool (beq_false_of_ne h3) | exact congrArg Value.bool (beq_false_of_ne h4) | exact congrArg Value.bool (beq_false_of_ne h6)) HQ3.out HQ4.out) rfl ⟨g, cp, by rw [show R = false from HRR.out.symm.trans (by simp)], HQ1.out, by omega, HQ2.out⟩
              · rcases hcu with rfl | rfl | ⟨h1, h2, h3, h4⟩
                · go_wp2
                  exact bodyPost_ret (results_two Tryd.results66 _ _ w.heap.size _ _ (.bool true) rfl rfl HQ3.out HQ4.out) rfl ⟨g, cp, by rw [show R = true from HRR.out.symm.trans (by simp)], HQ1.out, by omega, HQ2.out⟩
                · go_wp2
                  exact bodyPost_ret (results_two Tryd.results66 _ _ w.heap.size _ _ (.bool false) rfl (by first | rfl | exact congrArg Value.bool (beq_false_of_ne h3) | exact congrArg Value.bool (beq_false_of_ne h4) | exact congrArg Value.bool (beq_false_of_ne h6)) HQ3.out HQ4.out) rfl ⟨g, cp, by rw [show R = false from HRR.out.symm.trans (by simp)], HQ1.out, by omega, HQ2.out⟩
                · go_wp2
                  exact bodyPost_ret (results_two Tryd.results66 _ _ w.heap.size _ _ (.bool false) rfl (by first | rfl | exact congrArg Value.bool (beq_false_of_ne h3) | exact congrArg Value.bool (beq_false_of_ne h4) | exact congrArg Value.bool (beq_false_of_ne h6)) HQ3.out HQ4.out) rfl ⟨g, cp, by rw [show R = false from HRR.out.symm.trans (by simp [h1])], HQ1.out, by omega, HQ2.out⟩
            · rcases hcu with rfl | rfl | ⟨h1, h2, h3, h4⟩
              · cases none_
                · go_wp2
                  exact bodyPost_ret (results_two Tryd.results66 _ _ w.heap.size _ _ (.bool false) rfl (by first | rfl | exact congrArg Value.bool (beq_false_of_ne h3) | exact congrArg Value.bool (beq_false_of_ne h4) | exact congrArg Value.bool (beq_false_of_ne h6)) HQ3.out HQ4.out) rfl ⟨g, cp, by rw [show R = false from HRR.out.symm.trans (by simp)], HQ1.out, by omega, HQ2.out⟩
                · go_wp2
                  exact bodyPost_ret (results_two Tryd.results66 _ _ w.heap.size _ _ (.bool true) rfl rfl HQ3.out HQ4.out) rfl ⟨g, cp, by rw [show R = true from HRR.out.symm.trans (by simp)], HQ1.out, by omega, HQ2.out⟩
              · rcases hcl with rfl | ⟨h5, h6⟩
                · go_wp2
                  exact bodyPost_ret (results_two Tryd.results66 _ _ w.heap.size _ _ (.bool true) rfl rfl HQ3.out HQ4.out) rfl ⟨g, cp, by rw [show R = true from HRR.out.symm.trans (by simp)], HQ1.out, by omega, HQ2.out⟩
                · cases none_
                  · go_wp2
                    exact bodyPost_ret (results_two Tryd.results66 _ _ w.heap.size _ _ (.bool false) rfl (by first | rfl | exact congrArg Value.bool (beq_false_of_ne h3) | exact congrArg Value.bool (beq_false_of_ne h4) | exact congrArg Value.bool (beq_false_of_ne h6)) HQ3.out HQ4.out) rfl ⟨g, cp, by rw [show R = false from HRR.out.symm.trans (by simp [h5])], HQ1.out, by omega, HQ2.out⟩
                  · go_wp2
                    exact bodyPost_ret (results_two Tryd.results66 _ _ w.heap.size _ _ (.bool false) rfl (by first | rfl | exact congrArg Value.bool (beq_false_of_ne h3) | exact congrArg Value.bool (beq_false_of_ne h4) | exact congrArg Value.bool (beq_false_of_ne h6)) HQ3.out HQ4.out) rfl ⟨g, cp, by rw [show R = false from HRR.out.symm.trans (by simp [h5])], HQ1.out, by omega, HQ2.out⟩
              · cases none_
                · go_wp2
                  exact bodyPost_ret (results_two Tryd.results66 _ _ w.heap.size _ _ (.bool false) rfl (by first | rfl | exact congrArg Value.bool (beq_false_of_ne h3) | exact congrArg Value.bool (beq_false_of_ne h4) | exact congrArg Value.bool (beq_false_of_ne h6)) HQ3.out HQ4.out) rfl ⟨g, cp, by rw [show R = false from HRR.out.symm.trans (by simp [h1, h2])], HQ1.out, by omega, HQ2.out⟩
                · go_wp2
                  exact bodyPost_ret (results_two Tryd.results66 _ _ w.heap.size _ _ (.bool false) rfl (by first | rfl | exact congrArg Value.bool (beq_false_of_ne h3) | exact congrArg Value.bool (beq_false_of_ne h4) | exact congrArg Value.bool (beq_false_of_ne h6)) HQ3.out HQ4.out) rfl ⟨g, cp, by rw [show R = false from HRR.out.symm.trans (by simp [h1, h2])], HQ1.out, by omega, HQ2.out⟩
end Go.Proofs.YtbiibhpknflagaaDoor
