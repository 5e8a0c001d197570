import Derived.Test.YtbpdielmdhhdfaaGreatDoorMt32
import Derived.Test.YtbpdielmdhhdfaaGreatDoorMt29
import Derived.Test.YtbpdielmdhhdfaaGreatDoorMt30
import Derived.StillTail
/- What was written as a tag is read again. -/
namespace Go.Proofs.YtbpdielmdhhdfaaGreatDoor
set_option linter.unusedVariables false
set_option linter.unusedSimpArgs false
theorem two_no (n : Nat) (h : n < 100) : (10 : UInt8) ∉ two n := by
  intro hm
  have k1 := ofNat_toNat48 (n / 10) (by omega)
  have k2 := ofNat_toNat48 (n % 10) (by omega)
  have k3 : (10 : UInt8).toNat = 10 := rfl
  simp only [two, List.mem_cons, List.not_mem_nil, or_false] at hm
  rcases hm with e | e
  · rw [← e] at k1; omega
  · rw [← e] at k2; omega
theorem perB_no (q : Per) (hq : okP q) : (10 : UInt8) ∉ perB q := by
  obtain ⟨⟨_, nb, _⟩, ⟨_, mb, _⟩, _, z1, z2⟩ := hq
  rw [perB_parts]
  intro h
  simp only [List.mem_append] at h
  rcases h with h | h | h | h | h | h | h | h
  · exact (nb 10 h).2.2.1 rfl
  · simp at h
  · exact (mb 10 h).2.2.1 rfl
  · simp at h
  · have h1 := ((dig_val q.time.toNat).2.1 10 h).1
    have h2 : (10 : UInt8).toNat = 10 := rfl
    omega
  · unfold zs at h
    split at h <;> simp at h
  · exact two_no _ (by unfold zh; omega) h
  · exact two_no _ (by unfold zm; omega) h
theorem kN_no (k : Int) : (10 : UInt8) ∉ (kN k).data.toList := by
  unfold kN
  split
  · decide
  · split
    · decide
    · split
      · decide
      · split <;> decide
theorem name_no (s : List UInt8) (h : okN s) : (10 : UInt8) ∉ s := fun hm => absurd (h.2.2 10 hm) (by decide)
/-- The lines of what can be written. -/
theorem tag_ln (t : Tg) (hz : ∀ n ∈ t.id, 0 ≤ n ∧ n < 256) (hg : okG t) : ∃ l1 l2 l3 l4, Ln (tagB t) wObject (hexB t.id) l1 ∧ Ln l1 wType (kN t.kind).data.toList l2 ∧ Ln l2 wTag t.name l3 ∧ Ln l3 wTagger (perB t.per) l4 ∧ l4 = 10 :: t.msg := by
  obtain ⟨l1, l2, l3, l4, e1, e2, e3, e4, e5⟩ := tag_lines t
  exact ⟨l1, l2, l3, l4, ⟨e1, hexB_no t.id hz⟩, ⟨e2, kN_no _⟩, ⟨e3, name_no _ hg.2.1⟩, ⟨e4, perB_no _ hg.2.2.1⟩, e5⟩
/-- What the program reads of a tag's bytes is the tag. -/
theorem tg_back (t T : Tg) (hl : t.id.length = 20) (hz : ∀ n ∈ t.id, 0 ≤ n ∧ n < 256) (hg : okG t) (h : TG (tagB t) T) : T = t := by
  obtain ⟨l1, l2, l3, l4, e1, e2, e3, e4, e5⟩ := tag_ln t hz hg
  obtain ⟨f1, r1⟩ := ln_fld e1 (by decide)
  obtain ⟨f2, r2⟩ := ln_fld e2 (by decide)
  obtain ⟨f3, r3⟩ := ln_fld e3 (by decide)
  obtain ⟨f4, r4⟩ := ln_fld e4 (by decide)
  have r5 : rst l4 = t.msg := by
    rw [e5]
    unfold rst
    rw [show (10 : UInt8) :: t.msg = [] ++ 10 :: t.msg from rfl, cut_one [] t.msg 10 (by simp)]
  obtain ⟨g1, ⟨k, g2, g2'⟩, g3, g4, g5⟩ := h
  rw [f1] at g1
  rw [r1, f2] at g2'
  rw [r1, r2, f3] at g3
  rw [r1, r2, r3, f4] at g4
  rw [r1, r2, r3, r4, r5] at g5
  have a1 := pid_back t.id T.id hl hz g1
  have a2 := kO_back t.kind hg.1 k g2'
  have a4 := pp_back t.per hg.2.2.1 T.per g4
  obtain ⟨x1, x2, x3, x4, x5⟩ := T
  obtain ⟨y1, y2, y3, y4, y5⟩ := t
  simp only at a1 a2 a4 g2 g3 g5
  subst a1
  subst g3
  subst a4
  subst g5
  rw [g2, a2]
/-- Two tags that are written alike are one. -/
theorem tagB_inj (t u : Tg) (hl : t.id.length = 20) (hz : ∀ n ∈ t.id, 0 ≤ n ∧ n < 256) (hg : okG t) (hl2 : u.id.length = 20) (hz2 : ∀ n ∈ u.id, 0 ≤ n ∧ n < 256) (hg2 : okG u) (h : tagB t = tagB u) (T : Tg) (hT : TG (tagB t) T) : t = u :=
  (tg_back t T hl hz hg hT).symm.trans (tg_back u T hl2 hz2 hg2 (by rw [← h]; exact hT))
end Go.Proofs.YtbpdielmdhhdfaaGreatDoor
/- The document's side of chapter 3: a tag, read: what is used on the way. -/
namespace Go.Proofs.YtbpdielmdhhdfaaGreatDoor
open Go.RowKit
set_option linter.unusedVariables false
set_option linter.unusedSimpArgs false
theorem Tryz.size75 : (Tryz.prog.info? 75).map (·.size) = some 27 := by kernel_rfl
theorem Tryz.results68 : Tryz.f68.results = #[.cell 2 75, .tmp 3] := by kernel_rfl
set_option maxRecDepth 20000 in
theorem zero75 (w : World) : (zeroValue 75).run Tryz.prog w = .ok (.agg (tgV (tg0 z20)).toArray) w := by kernel_rfl
/-- A region that draws: reads, then the rest in its order. -/
theorem drew_tail {P : Program} {id : Nat} {Q : Exit → Act → World → Prop} {a : Act} {w : World} {l : List Oper} (n : Nat) (hm : P.follows .mixedOrders = true) (hB : Region.lexTailB .any l.toArray n = true)
    (h : wpStill P l.toArray w.drew (fun a' => wpList P l.toArray Q (l.drop n) a' w.drew) (l.take n) a) : (Code.region id l.toArray true).wp P Q a w := wp_region_still_tail n hm hB h
theorem still_val {P : Program} {ops : Array Oper} {w : World} {Q : Act → Prop} {a : Act} {o : Oper} {rest : List Oper} (v : Value) (hw : Region.wanted o (yielded ops a.tmps) = true) (hr : (execOp a.eval o).run P w = .ok (.value v) w) (h : wpStill P ops w Q rest (a.put o.dst v)) : wpStill P ops w Q (o :: rest) a := by
  unfold wpStill
  rw [if_pos hw]
  unfold Oper.still
  rw [hr]
  exact ⟨rfl, h⟩
theorem still_skip {P : Program} {ops : Array Oper} {w : World} {Q : Act → Prop} {a : Act} {o : Oper} {rest : List Oper} (hw : Region.wanted o (yielded ops a.tmps) = false) (h : wpStill P ops w Q rest (a.put o.dst undef)) : wpStill P ops w Q (o :: rest) a := by
  unfold wpStill
  rw [if_neg (by rw [hw]; decide)]
  exact h
theorem still_load {P : Program} {ops : Array Oper} {w : World} {Q : Act → Prop} {a : Act} {o : Oper} {rest : List Oper} (hw : Region.wanted o (yielded ops a.tmps) = true) (ty : TypeId) (x : Operand) (ho : o.op = .load ty x)
    (b of : Nat) (hx : a.eval x = .pointer (some ⟨b, of, none⟩)) (cs : List Value) (d : TypeDesc) (hr : w.rangeAt b of cs)
    (hu : P.underlying ty = some d) (hd : d.isRow = true) (hi : (P.info? ty).map (·.size) = some cs.length) (h : wpStill P ops w Q rest (a.put o.dst (.agg cs.toArray))) : wpStill P ops w Q (o :: rest) a := by
  refine still_val _ hw ?_ h
  unfold execOp
  simp only [ho, hx, Instr.loadAt, Instr.sureAddr, Sem.run_bind, Sem.run_pure, Result.andThen_ok, run_loadVar_mid w b of ty cs d hr hu hd hi]
/-- What 'line' gives, in short. -/
def PL (s wd o r : List UInt8) (b : Bool) : Prop := (b = true → Ln s wd o r) ∧ (b = false → ∀ o r, ¬ Ln s wd o r) ∧ r.length ≤ s.length ∧ o.length ≤ s.length
theorem PostLn.form {s wd : List UInt8} {e : Ending} (h : PostLn s wd e) : ∃ o r b, e = .returned (.tuple #[.string ⟨o.toArray⟩, .string ⟨r.toArray⟩, .bool b]) ∧ PL s wd o r b := by
  rcases h with ⟨o, r, hl, rfl⟩ | ⟨hn, rfl⟩
  · refine ⟨o, r, true, rfl, fun _ => hl, (fun h => by cases h), ?_, ?_⟩
    · obtain ⟨rfl, _⟩ := hl
      simp
      omega
    · obtain ⟨rfl, _⟩ := hl
      simp
      omega
  · exact ⟨[], s, false, rfl, (fun h => by cases h), fun _ => hn, Nat.le_refl _, Nat.zero_le _⟩
theorem Ln.uniq {s wd o r o' r' : List UInt8} (h : Ln s wd o r) (h' : Ln s wd o' r') : o = o' ∧ r = r' := by
  obtain ⟨e1, n1⟩ := h
  obtain ⟨e2, n2⟩ := h'
  rw [e1] at e2
  have e3 := List.append_cancel_left e2
  have e4 : o ++ 10 :: r = o' ++ 10 :: r' := by injection e3
  have e5 := congrArg (fun x => Lib.cut x [10]) e4
  rw [cut_one o r 10 n1, cut_one o' r' 10 n2] at e5
  simp only [Prod.mk.injEq] at e5
  exact ⟨e5.1, e5.2.1⟩
/-- What the document's 'Parse' gives, in short. -/
def PQ (t : List UInt8) (fr : List Int) (g : Bool) : Prop := fr.length = 20 ∧ (∀ n ∈ fr, 0 ≤ n ∧ n < 256) ∧ (t.length = 40 ∧ Hx.good ⟨t.toArray⟩ → g = true ∧ fr = Hx.idAt ⟨t.toArray⟩ 40)
def PostQR (t : List UInt8) (e : Ending) : Prop := ∃ (fr : List Int) (g : Bool), e = .returned (.tuple #[.agg (row .u8 fr).toArray, .bool g]) ∧ PQ t fr g
theorem parseR_short (t : List UInt8) (w : World) (hl : t.length ≤ 300000) : Calls Tryz.prog 108 #[.string ⟨t.toArray⟩] w fun e w' => Below w.heap.size w w' ∧ PostQR t e := by
  have hsz : (⟨t.toArray⟩ : ByteArray).size = t.length := by simp [ByteArray.size]
  refine (Hx.parse_ref ⟨t.toArray⟩ w (by rw [hsz]; exact hl)).mono ?_
  rintro e w' ⟨hb, h1, h2⟩
  refine ⟨hb, ?_⟩
  rw [hsz] at h1 h2
  by_cases h : t.length = 40 ∧ Hx.good ⟨t.toArray⟩
  · exact ⟨Hx.idAt ⟨t.toArray⟩ 40, true, h1 h, Hx.idAt_len _ _, fun n hn => Hx.idAt_bd _ _ n hn, fun _ => ⟨rfl, rfl⟩⟩
  · exact ⟨Hx.zeros, false, h2 h, rfl, fun n hn => by rw [List.eq_of_mem_replicate hn]; omega, fun h3 => absurd h3 h⟩
/-- A tag that is one: its id has twenty bytes. -/
def Wf (u : Tg) : Prop := u.id.length = 20 ∧ ∀ n ∈ u.id, 0 ≤ n ∧ n < 256
/-- What is read of what can be written. -/
theorem tag_read {l o1 r1 o2 r2 o3 r3 o4 r4 : List UInt8} {b1 b2 b3 b4 g : Bool} {fr : List Int} (p1 : PL l wObject o1 r1 b1) (p2 : PL r1 wType o2 r2 b2) (p3 : PL r2 wTag o3 r3 b3) (p4 : PL r3 wTagger o4 r4 b4) (hq : PQ o1 fr g)
    (u : Tg) (hu : Wf u) (ho : okG u) (h : tagB u = l) : b1 = true ∧ b2 = true ∧ b3 = true ∧ b4 = true ∧ g = true ∧ fr = u.id ∧ o2 = (kN u.kind).data.toList ∧ o3 = u.name ∧ o4 = perB u.per ∧ r4 = 10 :: u.msg := by
  obtain ⟨l1, l2, l3, l4, e1, e2, e3, e4, e5⟩ := tag_ln u hu.2 ho
  rw [h] at e1
  have t1 : b1 = true := by
    rcases Bool.eq_false_or_eq_true b1 with h | h
    · exact h
    · exact absurd e1 (p1.2.1 h _ _)
  obtain ⟨rfl, rfl⟩ := (p1.1 t1).uniq e1
  have t2 : b2 = true := by
    rcases Bool.eq_false_or_eq_true b2 with h | h
    · exact h
    · exact absurd e2 (p2.2.1 h _ _)
  obtain ⟨rfl, rfl⟩ := (p2.1 t2).uniq e2
  have t3 : b3 = true := by
    rcases Bool.eq_false_or_eq_true b3 with h | h
    · exact h
    · exact absurd e3 (p3.2.1 h _ _)
  obtain ⟨rfl, rfl⟩ := (p3.1 t3).uniq e3
  have t4 : b4 = true := by
    rcases Bool.eq_false_or_eq_true b4 with h | h
    · exact h
    · exact absurd e4 (p4.2.1 h _ _)
  obtain ⟨rfl, rfl⟩ := (p4.1 t4).uniq e4
  have e : (⟨(hexB u.id).toArray⟩ : ByteArray) = strOfNums (Hx.hexOf u.id) := rfl
  obtain ⟨g1, g2⟩ := hq.2.2 ⟨by rw [hexB_len, hu.1], by rw [e]; exact Hx.hex_good u.id hu.1 hu.2⟩
  refine ⟨t1, t2, t3, t4, g1, ?_, rfl, rfl, rfl, e5⟩
  rw [g2, e]
  exact Hx.hex_back u.id hu.1 hu.2
theorem kN_four (k : Int) (hk : ¬ (kN k).toList.isEmpty = true) : k = 1 ∨ k = 2 ∨ k = 3 ∨ k = 4 := by
  unfold kN at hk
  by_cases h1 : k = 1
  · exact .inl h1
  by_cases h2 : k = 2
  · exact .inr (.inl h2)
  by_cases h3 : k = 3
  · exact .inr (.inr (.inl h3))
  by_cases h4 : k = 4
  · exact .inr (.inr (.inr h4))
  rw [if_neg (by simpa using h1), if_neg (by simpa using h2), if_neg (by simpa using h3), if_neg (by simpa using h4)] at hk
  rw [Lib.toList_data] at hk
  exact absurd rfl hk
theorem kN_inj4 (k : Int) (j : Nat) (hk : ¬ (kN k).toList.isEmpty = true) (h1 : 1 ≤ j) (h4 : j ≤ 4) (h : ((kN j).toList == (kN k).toList) = true) : (j : Int) = k :=
  kO_back k hk j (.inl ⟨h1, h4, h⟩)
/-- Cells, set one by one. -/
def setAt : List Value → Nat → List Value → List Value
  | l, _, [] => l
  | l, o, v :: vs => setAt (l.set o v) (o + 1) vs
theorem heap_setCells_same (g : Nat) (t : TypeId) : ∀ (vs : List Value) (o : Nat) (w : World) (l : List Value), w.heap[g]? = some (.cells l.toArray t (0, 0)) → (w.setCells g o vs).heap[g]? = some (.cells (setAt l o vs).toArray t (0, 0))
  | [], _, _, _, h => h
  | v :: vs, o, w, l, h => by
    show ((w.setCell ⟨g, o, none⟩ v).setCells g (o + 1) vs).heap[g]? = _
    refine heap_setCells_same g t vs (o + 1) _ (l.set o v) ?_
    rw [heap_setCell_same w g o _ t v h, List.setIfInBounds_toArray]
theorem setAt_mid : ∀ (new old pre rest : List Value), new.length = old.length → setAt (pre ++ (old ++ rest)) pre.length new = pre ++ (new ++ rest)
  | [], [], pre, rest, _ => rfl
  | v :: new, x :: old, pre, rest, h => by
    show setAt ((pre ++ (x :: (old ++ rest))).set pre.length v) (pre.length + 1) new = _
    rw [List.set_append_right _ _ (Nat.le_refl _), Nat.sub_self, List.set_cons_zero]
    have := setAt_mid new old (pre ++ [v]) rest (by simpa using h)
    simpa using this
/-- While a tag is read: the tag, the answer's place. -/
structure TR (G : Nat) (zr : Array Value) (T : Tg) (w W : World) : Prop where
  below : Below G w W
  tag : W.heap[G + 1]? = some (.cells (tgV T).toArray 75 (0, 0))
  res : W.heap[G]? = some (.cells zr 75 (0, 0))
theorem TR.grow {G : Nat} {zr : Array Value} {T : Tg} {w W W' : World} (h : TR G zr T w W) (hb : Below W.heap.size W W') : TR G zr T w W' :=
  ⟨h.below.trans (hb.mono (Nat.le_of_lt (lt_of_some h.res))), (hb.block _ (lt_of_some h.tag)).trans h.tag, (hb.block _ (lt_of_some h.res)).trans h.res⟩
theorem TR.set {G : Nat} {zr : Array Value} {T T' : Tg} {w W : World} (h : TR G zr T w W) (i : Nat) (v : Value) (he : (tgV T).set i v = tgV T') : TR G zr T' w (W.setCell ⟨G + 1, i, none⟩ v) :=
  ⟨h.below.setCell (by show G ≤ G + 1; omega) _, by rw [heap_setCell_same W (G + 1) i _ 75 v h.tag, List.setIfInBounds_toArray, he], (heap_setCell_other W ⟨G + 1, i, none⟩ G v (by show G ≠ G + 1; omega)).trans h.res⟩
theorem TR.id {G : Nat} {zr : Array Value} {T : Tg} {w W : World} (h : TR G zr T w W) (hl : T.id.length = 20) (fr : List Int) (hf : fr.length = 20) : TR G zr { T with id := fr } w (W.setCells (G + 1) 0 (row .u8 fr)) := by
  refine ⟨below_setCells (by omega) _ _ _ _ h.below, ?_, (heap_setCells_other (G + 1) G (by omega) _ _ _).trans h.res⟩
  rw [heap_setCells_same (G + 1) 75 (row .u8 fr) 0 W (tgV T) h.tag]
  have := setAt_mid (row .u8 fr) (row .u8 T.id) [] ([.int .i64 T.kind, .string ⟨T.name.toArray⟩, .string ⟨T.per.name.toArray⟩, .string ⟨T.per.mail.toArray⟩, .int .i64 T.per.time, .int .i64 T.per.zone, .string ⟨T.msg.toArray⟩] : List Value) (by rw [row_len, row_len, hl, hf])
  simp only [List.nil_append, List.length_nil] at this
  unfold tgV
  rw [this]
theorem TR.per {G : Nat} {zr : Array Value} {T : Tg} {w W : World} (h : TR G zr T w W) (hl : T.id.length = 20) (p : Per) : TR G zr { T with per := p } w (W.setCells (G + 1) 22 (perV p).toList) := by
  have h1 := h.set 22 (.string ⟨p.name.toArray⟩) (set_pn T hl _)
  have h2 := h1.set 23 (.string ⟨p.mail.toArray⟩) (set_pm _ (by exact hl) _)
  have h3 := h2.set 24 (.int .i64 p.time) (set_pt _ (by exact hl) _)
  have h4 := h3.set 25 (.int .i64 p.zone) (set_pz _ (by exact hl) _)
  exact h4
theorem TR.cell {G : Nat} {zr : Array Value} {T : Tg} {w W : World} (h : TR G zr T w W) (hl : T.id.length = 20) (i : Nat) (hi : i < 27) : ∃ v, W.cell? ⟨G + 1, i, none⟩ = some v ∧ W.frozen? ⟨G + 1, i, none⟩ = false := by
  have h1 : (tgV T).toArray[i]? = some ((tgV T)[i]'(by rw [tgV_len T hl]; exact hi)) := by simp [tgV_len T hl, hi]
  exact ⟨_, (cell_of_row W (G + 1) i _ _ _ h.tag).trans h1, frozen_of_row W (G + 1) i _ _ h.tag⟩
/-- What the document's 'ReadTag' gives. -/
def PostRT (l : List UInt8) (e : Ending) : Prop := ∃ (t : Tg) (b : Bool), e = .returned (.tuple #[.agg (tgV t).toArray, .bool b]) ∧ Wf t ∧ (b = true → okG t ∧ tagB t = l) ∧ ∀ u : Tg, Wf u → okG u → tagB u = l → b = true
end Go.Proofs.YtbpdielmdhhdfaaGreatDoor
