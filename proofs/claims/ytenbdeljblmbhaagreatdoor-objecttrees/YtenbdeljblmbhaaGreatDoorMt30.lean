import Derived.Test.YtenbdeljblmbhaaGreatDoorMt29
import Derived.Test.YtenbdeljblmbhaaGreatDoorMt28
import Derived.StillTail
import Derived.Test.YtenbdeljblmbhaaGreatDoorMt25
import Derived.Test.YtenbdeljblmbhaaGreatDoorMt23
/- What was written as a tag is read again. -/
namespace Go.Proofs.YtenbdeljblmbhaaGreatDoor
set_option linter.unusedVariables false
set_option linter.unusedSimpArgs false
theorem two_no (n : Nat) (h : n < 100) : (10 : UInt8) ∉ two n := by
  intro hm
  have k1 := ofNat_toNat48 (n / 10) (by omega)
  have k2 := ofNat_toNat48 (n % 10) (by omega)
  have k3 : (10 : UInt8).toNat = 10 := rfl
  simp only [two, List.mem_cons, List.not_mem_nil, or_false] at hm
  rcases hm with e | e
  · rw [← e] at k1; omega
  · rw [← e] at k2; omega
theorem perB_no (q : Per) (hq : okP q) : (10 : UInt8) ∉ perB q := by
  obtain ⟨⟨_, nb, _⟩, ⟨_, mb, _⟩, _, z1, z2⟩ := hq
  rw [perB_parts]
  intro h
  simp only [List.mem_append] at h
  rcases h with h | h | h | h | h | h | h | h
  · exact (nb 10 h).2.2.1 rfl
  · simp at h
  · exact (mb 10 h).2.2.1 rfl
  · simp at h
  · have h1 := ((dig_val q.time.toNat).2.1 10 h).1
    have h2 : (10 : UInt8).toNat = 10 := rfl
    omega
  · unfold zs at h
    split at h <;> simp at h
  · exact two_no _ (by unfold zh; omega) h
  · exact two_no _ (by unfold zm; omega) h
theorem kN_no (k : Int) : (10 : UInt8) ∉ (kN k).data.toList := by
  unfold kN
  split
  · decide
  · split
    · decide
    · split
      · decide
      · split <;> decide
theorem name_no (s : List UInt8) (h : okN s) : (10 : UInt8) ∉ s := fun hm => absurd (h.2.2 10 hm) (by decide)
/-- The lines of what can be written. -/
theorem tag_ln (t : Tg) (hz : ∀ n ∈ t.id, 0 ≤ n ∧ n < 256) (hg : okG t) : ∃ l1 l2 l3 l4, Ln (tagB t) wObject (hexB t.id) l1 ∧ Ln l1 wType (kN t.kind).data.toList l2 ∧ Ln l2 wTag t.name l3 ∧ Ln l3 wTagger (perB t.per) l4 ∧ l4 = 10 :: t.msg := by
  obtain ⟨l1, l2, l3, l4, e1, e2, e3, e4, e5⟩ := tag_lines t
  exact ⟨l1, l2, l3, l4, ⟨e1, hexB_no t.id hz⟩, ⟨e2, kN_no _⟩, ⟨e3, name_no _ hg.2.1⟩, ⟨e4, perB_no _ hg.2.2.1⟩, e5⟩
/-- What the program reads of a tag's bytes is the tag. -/
theorem tg_back (t T : Tg) (hl : t.id.length = 20) (hz : ∀ n ∈ t.id, 0 ≤ n ∧ n < 256) (hg : okG t) (h : TG (tagB t) T) : T = t := by
  obtain ⟨l1, l2, l3, l4, e1, e2, e3, e4, e5⟩ := tag_ln t hz hg
  obtain ⟨f1, r1⟩ := ln_fld e1 (by decide)
  obtain ⟨f2, r2⟩ := ln_fld e2 (by decide)
  obtain ⟨f3, r3⟩ := ln_fld e3 (by decide)
  obtain ⟨f4, r4⟩ := ln_fld e4 (by decide)
  have r5 : rst l4 = t.msg := by
    rw [e5]
    unfold rst
    rw [show (10 : UInt8) :: t.msg = [] ++ 10 :: t.msg from rfl, cut_one [] t.msg 10 (by simp)]
  obtain ⟨g1, ⟨k, g2, g2'⟩, g3, g4, g5⟩ := h
  rw [f1] at g1
  rw [r1, f2] at g2'
  rw [r1, r2, f3] at g3
  rw [r1, r2, r3, f4] at g4
  rw [r1, r2, r3, r4, r5] at g5
  have a1 := pid_back t.id T.id hl hz g1
  have a2 := kO_back t.kind hg.1 k g2'
  have a4 := pp_back t.per hg.2.2.1 T.per g4
  obtain ⟨x1, x2, x3, x4, x5⟩ := T
  obtain ⟨y1, y2, y3, y4, y5⟩ := t
  simp only at a1 a2 a4 g2 g3 g5
  subst a1
  subst g3
  subst a4
  subst g5
  rw [g2, a2]
/-- Two tags that are written alike are one. -/
theorem tagB_inj (t u : Tg) (hl : t.id.length = 20) (hz : ∀ n ∈ t.id, 0 ≤ n ∧ n < 256) (hg : okG t) (hl2 : u.id.length = 20) (hz2 : ∀ n ∈ u.id, 0 ≤ n ∧ n < 256) (hg2 : okG u) (h : tagB t = tagB u) (T : Tg) (hT : TG (tagB t) T) : t = u :=
  (tg_back t T hl hz hg hT).symm.trans (tg_back u T hl2 hz2 hg2 (by rw [← h]; exact hT))
end Go.Proofs.YtenbdeljblmbhaaGreatDoor
/- The document's side of chapter 3: a tag, read: what is used on the way. -/
namespace Go.Proofs.YtenbdeljblmbhaaGreatDoor
open Go.RowKit
set_option linter.unusedVariables false
set_option linter.unusedSimpArgs false
theorem Tryz.size75 : (Tryz.prog.info? 75).map (·.size) = some 27 := by kernel_rfl
theorem Tryz.results68 : Tryz.f68.results = #[.cell 2 75, .tmp 3] := by kernel_rfl
set_option maxRecDepth 20000 in
theorem zero75 (w : World) : (zeroValue 75).run Tryz.prog w = .ok (.agg (tgV (tg0 z20)).toArray) w := by kernel_rfl
/-- A region that draws: reads, then the rest in its order. -/
theorem drew_tail {P : Program} {id : Nat} {Q : Exit → Act → World → Prop} {a : Act} {w : World} {l : List Oper} (n : Nat) (hm : P.follows .mixedOrders = true) (hB : Region.lexTailB .any l.toArray n = true)
    (h : wpStill P l.toArray w.drew (fun a' => wpList P l.toArray Q (l.drop n) a' w.drew) (l.take n) a) : (Code.region id l.toArray true).wp P Q a w := wp_region_still_tail n hm hB h
theorem still_val {P : Program} {ops : Array Oper} {w : World} {Q : Act → Prop} {a : Act} {o : Oper} {rest : List Oper} (v : Value) (hw : Region.wanted o (yielded ops a.tmps) = true) (hr : (execOp a.eval o).run P w = .ok (.value v) w) (h : wpStill P ops w Q rest (a.put o.dst v)) : wpStill P ops w Q (o :: rest) a := by
  unfold wpStill
  rw [if_pos hw]
  unfold Oper.still
  rw [hr]
  exact ⟨rfl, h⟩
theorem still_skip {P : Program} {ops : Array Oper} {w : World} {Q : Act → Prop} {a : Act} {o : Oper} {rest : List Oper} (hw : Region.wanted o (yielded ops a.tmps) = false) (h : wpStill P ops w Q rest (a.put o.dst undef)) : wpStill P ops w Q (o :: rest) a := by
  unfold wpStill
  rw [if_neg (by rw [hw]; decide)]
  exact h
theorem still_load {P : Program} {ops : Array Oper} {w : World} {Q : Act → Prop} {a : Act} {o : Oper} {rest : List Oper} (hw : Region.wanted o (yielded ops a.tmps) = true) (ty : TypeId) (x : Operand) (ho : o.op = .load ty x)
    (b of : Nat) (hx : a.eval x = .pointer (some ⟨b, of, none⟩)) (cs : List Value) (d : TypeDesc) (hr : w.rangeAt b of cs)
    (hu : P.underlying ty = some d) (hd : d.isRow = true) (hi : (P.info? ty).map (·.size) = some cs.length) (h : wpStill P ops w Q rest (a.put o.dst (.agg cs.toArray))) : wpStill P ops w Q (o :: rest) a := by
  refine still_val _ hw ?_ h
  unfold execOp
  simp only [ho, hx, Instr.loadAt, Instr.sureAddr, Sem.run_bind, Sem.run_pure, Result.andThen_ok, run_loadVar_mid w b of ty cs d hr hu hd hi]
/-- What 'line' gives, in short. -/
def PL (s wd o r : List UInt8) (b : Bool) : Prop := (b = true → Ln s wd o r) ∧ (b = false → ∀ o r, ¬ Ln s wd o r) ∧ r.length ≤ s.length ∧ o.length ≤ s.length
theorem PostLn.form {s wd : List UInt8} {e : Ending} (h : PostLn s wd e) : ∃ o r b, e = .returned (.tuple #[.string ⟨o.toArray⟩, .string ⟨r.toArray⟩, .bool b]) ∧ PL s wd o r b := by
  rcases h with ⟨o, r, hl, rfl⟩ | ⟨hn, rfl⟩
  · refine ⟨o, r, true, rfl, fun _ => hl, (fun h => by cases h), ?_, ?_⟩
    · obtain ⟨rfl, _⟩ := hl
      simp
      omega
    · obtain ⟨rfl, _⟩ := hl
      simp
      omega
  · exact ⟨[], s, false, rfl, (fun h => by cases h), fun _ => hn, Nat.le_refl _, Nat.zero_le _⟩
theorem Ln.uniq {s wd o r o' r' : List UInt8} (h : Ln s wd o r) (h' : Ln s wd o' r') : o = o' ∧ r = r' := by
  obtain ⟨e1, n1⟩ := h
  obtain ⟨e2, n2⟩ := h'
  rw [e1] at e2
  have e3 := List.append_cancel_left e2
  have e4 : o ++ 10 :: r = o' ++ 10 :: r' := by injection e3
  have e5 := congrArg (fun x => Lib.cut x [10]) e4
  rw [cut_one o r 10 n1, cut_one o' r' 10 n2] at e5
  simp only [Prod.mk.injEq] at e5
  exact ⟨e5.1, e5.2.1⟩
/-- What the document's 'Parse' gives, in short. -/
def PQ (t : List UInt8) (fr : List Int) (g : Bool) : Prop := fr.length = 20 ∧ (∀ n ∈ fr, 0 ≤ n ∧ n < 256) ∧ (t.length = 40 ∧ Hx.good ⟨t.toArray⟩ → g = true ∧ fr = Hx.idAt ⟨t.toArray⟩ 40)
def PostQR (t : List UInt8) (e : Ending) : Prop := ∃ (fr : List Int) (g : Bool), e = .returned (.tuple #[.agg (row .u8 fr).toArray, .bool g]) ∧ PQ t fr g
theorem parseR_short (t : List UInt8) (w : World) (hl : t.length ≤ 300000) : Calls Tryz.prog 108 #[.string ⟨t.toArray⟩] w fun e w' => Below w.heap.size w w' ∧ PostQR t e := by
  have hsz : (⟨t.toArray⟩ : ByteArray).size = t.length := by simp [ByteArray.size]
  refine (Hx.parse_ref ⟨t.toArray⟩ w (by rw [hsz]; exact hl)).mono ?_
  rintro e w' ⟨hb, h1, h2⟩
  refine ⟨hb, ?_⟩
  rw [hsz] at h1 h2
  by_cases h : t.length = 40 ∧ Hx.good ⟨t.toArray⟩
  · exact ⟨Hx.idAt ⟨t.toArray⟩ 40, true, h1 h, Hx.idAt_len _ _, fun n hn => Hx.idAt_bd _ _ n hn, fun _ => ⟨rfl, rfl⟩⟩
  · exact ⟨Hx.zeros, false, h2 h, rfl, fun n hn => by rw [List.eq_of_mem_replicate hn]; omega, fun h3 => absurd h3 h⟩
/-- A tag that is one: its id has twenty bytes. -/
def Wf (u : Tg) : Prop := u.id.length = 20 ∧ ∀ n ∈ u.id, 0 ≤ n ∧ n < 256
/-- What is read of what can be written. -/
theorem tag_read {l o1 r1 o2 r2 o3 r3 o4 r4 : List UInt8} {b1 b2 b3 b4 g : Bool} {fr : List Int} (p1 : PL l wObject o1 r1 b1) (p2 : PL r1 wType o2 r2 b2) (p3 : PL r2 wTag o3 r3 b3) (p4 : PL r3 wTagger o4 r4 b4) (hq : PQ o1 fr g)
    (u : Tg) (hu : Wf u) (ho : okG u) (h : tagB u = l) : b1 = true ∧ b2 = true ∧ b3 = true ∧ b4 = true ∧ g = true ∧ fr = u.id ∧ o2 = (kN u.kind).data.toList ∧ o3 = u.name ∧ o4 = perB u.per ∧ r4 = 10 :: u.msg := by
  obtain ⟨l1, l2, l3, l4, e1, e2, e3, e4, e5⟩ := tag_ln u hu.2 ho
  rw [h] at e1
  have t1 : b1 = true := by
    rcases Bool.eq_false_or_eq_true b1 with h | h
    · exact h
    · exact absurd e1 (p1.2.1 h _ _)
  obtain ⟨rfl, rfl⟩ := (p1.1 t1).uniq e1
  have t2 : b2 = true := by
    rcases Bool.eq_false_or_eq_true b2 with h | h
    · exact h
    · exact absurd e2 (p2.2.1 h _ _)
  obtain ⟨rfl, rfl⟩ := (p2.1 t2).uniq e2
  have t3 : b3 = true := by
    rcases Bool.eq_false_or_eq_true b3 with h | h
    · exact h
    · exact absurd e3 (p3.2.1 h _ _)
  obtain ⟨rfl, rfl⟩ := (p3.1 t3).uniq e3
  have t4 : b4 = true := by
    rcases Bool.eq_false_or_eq_true b4 with h | h
    · exact h
    · exact absurd e4 (p4.2.1 h _ _)
  obtain ⟨rfl, rfl⟩ := (p4.1 t4).uniq e4
  have e : (⟨(hexB u.id).toArray⟩ : ByteArray) = strOfNums (Hx.hexOf u.id) := rfl
  obtain ⟨g1, g2⟩ := hq.2.2 ⟨by rw [hexB_len, hu.1], by rw [e]; exact Hx.hex_good u.id hu.1 hu.2⟩
  refine ⟨t1, t2, t3, t4, g1, ?_, rfl, rfl, rfl, e5⟩
  rw [g2, e]
  exact Hx.hex_back u.id hu.1 hu.2
theorem kN_four (k : Int) (hk : ¬ (kN k).toList.isEmpty = true) : k = 1 ∨ k = 2 ∨ k = 3 ∨ k = 4 := by
  unfold kN at hk
  by_cases h1 : k = 1
  · exact .inl h1
  by_cases h2 : k = 2
  · exact .inr (.inl h2)
  by_cases h3 : k = 3
  · exact .inr (.inr (.inl h3))
  by_cases h4 : k = 4
  · exact .inr (.inr (.inr h4))
  rw [if_neg (by simpa using h1), if_neg (by simpa using h2), if_neg (by simpa using h3), if_neg (by simpa using h4)] at hk
  rw [Lib.toList_data] at hk
  exact absurd rfl hk
theorem kN_inj4 (k : Int) (j : Nat) (hk : ¬ (kN k).toList.isEmpty = true) (h1 : 1 ≤ j) (h4 : j ≤ 4) (h : ((kN j).toList == (kN k).toList) = true) : (j : Int) = k :=
  kO_back k hk j (.inl ⟨h1, h4, h⟩)
/-- Cells, set one by one. -/
def setAt : List Value → Nat → List Value → List Value
  | l, _, [] => l
  | l, o, v :: vs => setAt (l.set o v) (o + 1) vs
theorem heap_setCells_same (g : Nat) (t : TypeId) : ∀ (vs : List Value) (o : Nat) (w : World) (l : List Value), w.heap[g]? = some (.cells l.toArray t (0, 0)) → (w.setCells g o vs).heap[g]? = some (.cells (setAt l o vs).toArray t (0, 0))
  | [], _, _, _, h => h
  | v :: vs, o, w, l, h => by
    show ((w.setCell ⟨g, o, none⟩ v).setCells g (o + 1) vs).heap[g]? = _
    refine heap_setCells_same g t vs (o + 1) _ (l.set o v) ?_
    rw [heap_setCell_same w g o _ t v h, List.setIfInBounds_toArray]
theorem setAt_mid : ∀ (new old pre rest : List Value), new.length = old.length → setAt (pre ++ (old ++ rest)) pre.length new = pre ++ (new ++ rest)
  | [], [], pre, rest, _ => rfl
  | v :: new, x :: old, pre, rest, h => by
    show setAt ((pre ++ (x :: (old ++ rest))).set pre.length v) (pre.length + 1) new = _
    rw [List.set_append_right _ _ (Nat.le_refl _), Nat.sub_self, List.set_cons_zero]
    have := setAt_mid new old (pre ++ [v]) rest (by simpa using h)
    simpa using this
/-- While a tag is read: the tag, the answer's place. -/
structure TR (G : Nat) (zr : Array Value) (T : Tg) (w W : World) : Prop where
  below : Below G w W
  tag : W.heap[G + 1]? = some (.cells (tgV T).toArray 75 (0, 0))
  res : W.heap[G]? = some (.cells zr 75 (0, 0))
theorem TR.grow {G : Nat} {zr : Array Value} {T : Tg} {w W W' : World} (h : TR G zr T w W) (hb : Below W.heap.size W W') : TR G zr T w W' :=
  ⟨h.below.trans (hb.mono (Nat.le_of_lt (lt_of_some h.res))), (hb.block _ (lt_of_some h.tag)).trans h.tag, (hb.block _ (lt_of_some h.res)).trans h.res⟩
theorem TR.set {G : Nat} {zr : Array Value} {T T' : Tg} {w W : World} (h : TR G zr T w W) (i : Nat) (v : Value) (he : (tgV T).set i v = tgV T') : TR G zr T' w (W.setCell ⟨G + 1, i, none⟩ v) :=
  ⟨h.below.setCell (by show G ≤ G + 1; omega) _, by rw [heap_setCell_same W (G + 1) i _ 75 v h.tag, List.setIfInBounds_toArray, he], (heap_setCell_other W ⟨G + 1, i, none⟩ G v (by show G ≠ G + 1; omega)).trans h.res⟩
theorem TR.id {G : Nat} {zr : Array Value} {T : Tg} {w W : World} (h : TR G zr T w W) (hl : T.id.length = 20) (fr : List Int) (hf : fr.length = 20) : TR G zr { T with id := fr } w (W.setCells (G + 1) 0 (row .u8 fr)) := by
  refine ⟨below_setCells (by omega) _ _ _ _ h.below, ?_, (heap_setCells_other (G + 1) G (by omega) _ _ _).trans h.res⟩
  rw [heap_setCells_same (G + 1) 75 (row .u8 fr) 0 W (tgV T) h.tag]
  have := setAt_mid (row .u8 fr) (row .u8 T.id) [] ([.int .i64 T.kind, .string ⟨T.name.toArray⟩, .string ⟨T.per.name.toArray⟩, .string ⟨T.per.mail.toArray⟩, .int .i64 T.per.time, .int .i64 T.per.zone, .string ⟨T.msg.toArray⟩] : List Value) (by rw [row_len, row_len, hl, hf])
  simp only [List.nil_append, List.length_nil] at this
  unfold tgV
  rw [this]
theorem TR.per {G : Nat} {zr : Array Value} {T : Tg} {w W : World} (h : TR G zr T w W) (hl : T.id.length = 20) (p : Per) : TR G zr { T with per := p } w (W.setCells (G + 1) 22 (perV p).toList) := by
  have h1 := h.set 22 (.string ⟨p.name.toArray⟩) (set_pn T hl _)
  have h2 := h1.set 23 (.string ⟨p.mail.toArray⟩) (set_pm _ (by exact hl) _)
  have h3 := h2.set 24 (.int .i64 p.time) (set_pt _ (by exact hl) _)
  have h4 := h3.set 25 (.int .i64 p.zone) (set_pz _ (by exact hl) _)
  exact h4
theorem TR.cell {G : Nat} {zr : Array Value} {T : Tg} {w W : World} (h : TR G zr T w W) (hl : T.id.length = 20) (i : Nat) (hi : i < 27) : ∃ v, W.cell? ⟨G + 1, i, none⟩ = some v ∧ W.frozen? ⟨G + 1, i, none⟩ = false := by
  have h1 : (tgV T).toArray[i]? = some ((tgV T)[i]'(by rw [tgV_len T hl]; exact hi)) := by simp [tgV_len T hl, hi]
  exact ⟨_, (cell_of_row W (G + 1) i _ _ _ h.tag).trans h1, frozen_of_row W (G + 1) i _ _ h.tag⟩
/-- What the document's 'ReadTag' gives. -/
def PostRT (l : List UInt8) (e : Ending) : Prop := ∃ (t : Tg) (b : Bool), e = .returned (.tuple #[.agg (tgV t).toArray, .bool b]) ∧ Wf t ∧ (b = true → okG t ∧ tagB t = l) ∧ ∀ u : Tg, Wf u → okG u → tagB u = l → b = true
end Go.Proofs.YtenbdeljblmbhaaGreatDoor
/- The document's 'Sorted'. -/
namespace Go.Proofs.YtenbdeljblmbhaaGreatDoor
open Go.RowKit
set_option linter.unusedVariables false
set_option linter.unusedSimpArgs false
theorem Be.pe {w0 w : World} {B : Nat} {a : Option Addr} {n cap : Nat} {es : List Er} (h : Be w0 w B (.slice a n cap) es) (hw : ∀ x ∈ es, x.id.length = 20) (hn : es.length = n) : Pe w a cap es ∧ ∀ p : Addr, a = some p → B ≤ p.block ∧ p.block < w.heap.size := by
  obtain ⟨hl, ⟨h1, h2⟩ | ⟨g, c, cur, h1, hB, h3, h4, h5, h6, h7⟩⟩ := h.own
  · cases h1
    exact ⟨⟨by omega, fun h0 => by omega, fun _ => rfl⟩, fun p hp => by cases hp⟩
  · cases h1
    have hlt := lt_of_some h3
    refine ⟨⟨h4, fun h0 => ⟨g, 0, rfl, hlt, fun i hi j v hv => ?_⟩, fun h => by cases h⟩, fun p hp => by cases hp; exact ⟨hB, hlt⟩⟩
    have hj : j < 22 := by
      obtain ⟨hj, _⟩ := List.getElem?_eq_some_iff.1 hv
      have hm : es.getD i default ∈ es := by
        rw [List.getD_eq_getElem?_getD, List.getElem?_eq_getElem hi]
        exact List.getElem_mem _
      rw [erV_len _ (hw _ hm)] at hj
      exact hj
    have hf := fE_at es hw i j hi hj
    rw [hv] at hf
    have hlt2 := (List.getElem?_eq_some_iff.1 hf).1
    have := h.own.cellAt (i * 22 + j) (by rw [fE_len es hw] at hlt2; omega)
    rw [Nat.zero_add, this, hf]
theorem Pe.take {w : World} {a : Option Addr} {cap : Nat} {es : List Er} (h : Pe w a cap es) (j : Nat) (hj : j ≤ es.length) : Pe w a cap (es.take j) :=
  ⟨by rw [List.length_take]; have := h.capl; omega, fun h0 => by
    rw [List.length_take] at h0
    obtain ⟨b, off, e1, e2, e3⟩ := h.at_ (by omega)
    refine ⟨b, off, e1, e2, fun i hi => ?_⟩
    rw [List.length_take] at hi
    have := e3 i (by omega)
    rw [show (es.take j).getD i default = es.getD i default by rw [List.getD_eq_getElem?_getD, List.getD_eq_getElem?_getD, List.getElem?_take, if_pos (by omega)]]
    exact this, h.nil⟩
/-- The address behind the first so many. -/
def adr (a : Option Addr) (cap j : Nat) : Option Addr := if cap = j then a else a.map (·.add (j * 22))
theorem Pe.drop {w : World} {a : Option Addr} {cap : Nat} {es : List Er} (h : Pe w a cap es) (j : Nat) (hj : j ≤ es.length) : Pe w (adr a cap j) (cap - j) (es.drop j) :=
  ⟨by rw [List.length_drop]; have := h.capl; omega, fun h0 => by
    rw [List.length_drop] at h0
    obtain ⟨b, off, e1, e2, e3⟩ := h.at_ (by omega)
    subst e1
    have hc := h.capl
    refine ⟨b, off + j * 22, by unfold adr; rw [if_neg (by omega), Option.map_some, addr_add], e2, fun i hi => ?_⟩
    rw [List.length_drop] at hi
    have := e3 (j + i) (by omega)
    rw [show (es.drop j).getD i default = es.getD (j + i) default by rw [List.getD_eq_getElem?_getD, List.getD_eq_getElem?_getD, List.getElem?_drop]]
    rw [show off + j * 22 + i * 22 = off + (j + i) * 22 by rw [Nat.add_mul]; omega]
    exact this, fun h2 => by
    have : a = none := by
      unfold adr at h2
      split at h2
      · exact h2
      · cases a with
        | none => rfl
        | some p => cases h2
    have := h.nil this
    omega⟩
theorem elem52 : Tryz.prog.underlying 52 = some (.slice (Tryz.prog.elem 52)) := by kernel_rfl
theorem sizeE (w : World) : (sizeOf (Tryz.prog.elem 52)).run Tryz.prog w = .ok 22 w := by kernel_rfl
theorem slE_to (a : Option Addr) (n cap j : Nat) (h : j ≤ cap) (w : World) : (Instr.slice 52 (.slice a n cap) none (some (.int .i64 j)) none).run Tryz.prog w = .ok (.slice a j cap) w := by
  rw [run_slice_h w 52 a n cap elem52 .i64 j (by omega) (by omega), sizeE, Result.andThen_ok, sliced]
  congr 2
  split
  · rfl
  · cases a with
    | none => rfl
    | some p => obtain ⟨b, o, f⟩ := p; simp [Addr.add]
theorem slE_from (a : Option Addr) (n cap j : Nat) (h : j ≤ n) (w : World) : (Instr.slice 52 (.slice a n cap) (some (.int .i64 j)) none none).run Tryz.prog w = .ok (.slice (adr a cap j) (n - j) (cap - j)) w := by
  rw [run_slice_l w 52 a n cap elem52 .i64 j (by omega) (by omega), sizeE, Result.andThen_ok, sliced]
  rfl
/-- What the drawn test reads. -/
structure QK (b1 o1 : Nat) (R1 : List Value) (b2 o2 : Nat) (R2 : List Value) (W : World) : Prop where
  r1 : W.rangeAt b1 o1 R1
  r2 : W.rangeAt b2 o2 R2
theorem range_below {W W' : World} {b o : Nat} {R : List Value} (h : W.rangeAt b o R) (hb : Below W.heap.size W W') (hl : b < W.heap.size) : W'.rangeAt b o R :=
  fun j v hv => (hb.cell (p := ⟨b, o + j, none⟩) hl).trans (h j v hv)
theorem QK.below {b1 o1 b2 o2 : Nat} {R1 R2 : List Value} {W W' : World} (h : QK b1 o1 R1 b2 o2 R2 W) (hb : Below W.heap.size W W') (h1 : b1 < W.heap.size) (h2 : b2 < W.heap.size) : QK b1 o1 R1 b2 o2 R2 W' :=
  ⟨range_below h.r1 hb h1, range_below h.r2 hb h2⟩
theorem enter96 (v : Value) (w : World) : (callFunc 96 [v].toArray).run Tryz.prog w = .ok (.enter 96 [v].toArray) w := by kernel_rfl
theorem step_callg {P : Program} {ops : Array Oper} {o : Oper} {a : Act} {w : World} {K : Act → World → Prop} {Q : Exit → Act → World → Prop} {E : Prop} (hw : Region.wanted o (yielded ops a.tmps) = true) (f : FuncId) (args : List Operand) (ts : Array TypeId) (vs : List Value) (R : Ending → World → Prop)
    (ho : o.op = .call { callee := .value (.func f), args := args.toArray, argTypes := ts }) (hx : args.map a.eval = vs) (hent : ∀ w : World, (callFunc f vs.toArray).run P w = .ok (.enter f vs.toArray) w)
    (hc : Calls P f vs.toArray w R) (h : ∀ e w', R e w' → ∃ r, e = .returned r ∧ K (a.put o.dst r) w') :
    if Region.wanted o (yielded ops a.tmps) = true then Oper.wp P o a w K Q else E := by
  rw [if_pos hw]
  unfold Oper.wp
  simp only [execOp, ho, resolve, invoke, go_sem, List.map_toArray, hx, hent]
  simp [go_sem, hent, Oper.upon_enter]
  refine hc.mono ?_
  intro e w' hr
  obtain ⟨r, rfl, hk⟩ := h e w' hr
  exact hk
theorem base_mono {w : World} {B B' : Nat} {e : TypeId} {s : Nat} {v : Value} {n : Nat} {xs : List Value} (h : w.ownsRow B' e s v n xs) (hB : B ≤ B') : w.ownsRow B e s v n xs := by
  obtain ⟨hl, h1 | ⟨g, c, cur, h1, h2, h3⟩⟩ := h
  · exact ⟨hl, .inl h1⟩
  · exact ⟨hl, .inr ⟨g, c, cur, h1, Nat.le_trans hB h2, h3⟩⟩
set_option maxRecDepth 20000 in
theorem run_build103 (x : Er) (h : x.id.length = 20) (w : World) : (Instr.buildSlice 52 1 #[(0, .agg (erV x).toArray)]).run Tryz.prog w = .ok (.slice (some ⟨w.heap.size, 0, none⟩) 1 1) (w.alloc (.cells (erV x).toArray 103)) := by
  obtain ⟨i, hq, hz, hs, _⟩ := info_parts Tryz.info103
  refine run_buildSlice w 52 103 1 _ (erV x).toArray i _ Tryz.underlying52 hq hz (by rw [hs]; decide) (by rw [hs]; decide) ?_
  rw [hs]
  obtain ⟨a0, a1, a2, a3, a4, a5, a6, a7, a8, a9, a10, a11, a12, a13, a14, a15, a16, a17, a18, a19, e⟩ := list20 x.id h
  unfold erV
  rw [e]
  kernel_rfl
theorem pe_one (w : World) (x : Er) : Pe (w.alloc (.cells (erV x).toArray 103)) (some ⟨w.heap.size, 0, none⟩) 1 [x] :=
  ⟨by simp, fun _ => ⟨w.heap.size, 0, rfl, by simp, fun i hi => by
    have : i = 0 := by simpa using hi
    subst this
    simpa using range_row (heap_alloc_new w (.cells (erV x).toArray 103))⟩, fun h => by cases h⟩
theorem wpList_buildS {P : Program} {ops : Array Oper} {rest : List Oper} {o : Oper} {a : Act} {w w' : World} {Q : Exit → Act → World → Prop} (hg : o.guard = none) (t len : Nat) (x : Operand) (ho : o.op = .buildSlice t len #[(0, x)]) (u v : Value) (hx : a.eval x = u)
    (hr : (Instr.buildSlice t len #[(0, u)]).run P w = .ok v w')
    (h : wpList P ops Q rest (a.put o.dst v) w') : wpList P ops Q (o :: rest) a w := by
  refine wpList_plain hg fun K hK => ?_
  unfold Oper.wp execOp
  simp [ho, hx, hr, Result.andThen]
  exact hK _ _ h
set_option maxRecDepth 20000 in
set_option maxHeartbeats 8000000 in
theorem sorted_any (a : Option Addr) (cap : Nat) (es : List Er) (hwf : ∀ x ∈ es, x.id.length = 20) (hnm : ∀ x ∈ es, x.name.length ≤ 1000000) (hn : es.length ≤ 1000) (w : World) (hP : Pe w a cap es) :
    Calls Tryz.prog 50 #[.slice a es.length cap] w fun e w' => Below w.heap.size w w' ∧ ∃ a' cap', e = .returned (.slice a' es.length cap') ∧ Pe w' a' cap' (srtE es) := by
  obtain ⟨n, HN⟩ : ∃ n, Hid (es.length = n) := ⟨_, rfl⟩
  obtain ⟨G, HG⟩ : ∃ G, Hid (w.heap.size = G) := ⟨_, rfl⟩
  have hnn : n ≤ 1000 := by rw [← HN.out]; exact hn
  have HPA : Hid (∀ W, Below G w W → Pe W a cap es) := fun W hW => hP.below (by rw [HG.out]; exact hW)
  have HPL : Hid (0 < n → ∃ b off, a = some ⟨b, off, none⟩ ∧ b < G) := fun h0 => by
    obtain ⟨b, off, e1, e2, _⟩ := hP.at_ (by rw [HN.out]; exact h0)
    exact ⟨b, off, e1, by rw [← HG.out]; exact e2⟩
  have HWF : Hid (∀ x ∈ es, x.id.length = 20) := hwf
  have HNM : Hid (∀ x ∈ es, x.name.length ≤ 1000000) := hnm
  have HMEM : Hid (∀ i, ∀ y ∈ srtE (es.take i), y ∈ es) := fun i y hy => List.mem_of_mem_take ((srtE_perm _).subset hy)
  have HSL : Hid (∀ i, i ≤ n → (srtE (es.take i)).length = i) := fun i hi => by rw [(srtE_perm _).length_eq, List.length_take, HN.out]; omega
  have HE0 : Hid (Be w w G (.slice none 0 0) (srtE (es.take 0))) := hid (be_nil w G (by rw [HG.out]; exact Nat.le_refl _))
  rw [HN.out]
  clear hP hwf hnm
  go_enter Tryz.func50, Tryz.ntmps50
  go_wp2_with fail
  go_loopg [3, 4] n (fun g u iv wr => ∃ (i : Nat) (v : Value), v = u ∧ i ≤ n ∧ g = n - i ∧ iv = .int .i64 i ∧ Hid (Be w wr G v (srtE (es.take i))))
  case atStart => exact ⟨0, _, rfl, Nat.zero_le _, rfl, rfl, HE0⟩
  case round =>
    obtain ⟨i, v, hv, hi, hk, rfl, HBE⟩ := hrel
    subst hv
    by_cases hlt : i < n
    · have hlti : (i : Int) < (n : Int) := by omega
      obtain ⟨L, HL⟩ : ∃ L, Hid (srtE (es.take i) = L) := ⟨_, rfl⟩
      have HLL : Hid (L.length = i) := hid (by rw [← HL.out]; exact HSL.out i hi)
      have HLW : Hid (∀ y ∈ L, y.id.length = 20) := hid (by rw [← HL.out]; exact fun y hy => HWF.out y (HMEM.out i y hy))
      have HLN : Hid (∀ y ∈ L, y.name.length ≤ 1000000) := hid (by rw [← HL.out]; exact fun y hy => HNM.out y (HMEM.out i y hy))
      rw [HL.out] at HBE
      obtain ⟨va, vc, hv⟩ : ∃ va vc, v = .slice va i vc := by
        have ho := HBE.out.own
        rw [HLL.out] at ho
        exact owns_shape ho
      subst hv
      have HPV : Hid (∀ W, Be w W G (.slice va i vc) L → Pe W va vc L) := fun W hW => (hW.pe HLW.out HLL.out).1
      obtain ⟨b, off, hae, hbG⟩ := HPL.out (by omega)
      subst hae
      obtain ⟨x, HXX⟩ : ∃ x, Hid (es.getD i default = x) := ⟨_, rfl⟩
      have hxm : x ∈ es := by
        rw [← HXX.out, List.getD_eq_getElem?_getD, List.getElem?_eq_getElem (by rw [HN.out]; exact hlt)]
        exact List.getElem_mem _
      have HX20 : Hid (x.id.length = 20) := HWF.out x hxm
      have HXN : Hid (x.name.length ≤ 1000000) := HNM.out x hxm
      have HX1 : Hid (∀ y ∈ [x], y.id.length = 20) := fun y hy => by
        have : y = x := by simpa using hy
        rw [this]; exact HX20.out
      obtain ⟨R, HR⟩ : ∃ R : List Value, Hid (erV x = R) := ⟨_, rfl⟩
      have HRR : Hid (∀ W, Below G w W → W.rangeAt b (off + i * 22) R) := fun W hW => by
        obtain ⟨b', off', e1, e2, e3⟩ := (HPA.out W hW).at_ (by rw [HN.out]; omega)
        cases e1
        rw [← HR.out, ← HXX.out]
        exact e3 i (by rw [HN.out]; exact hlt)
      have hi103 : (Tryz.prog.info? 103).map (·.size) = some R.length := by rw [← HR.out, erV_len x HX20.out]; exact size103
      obtain ⟨KX, HKX⟩ : ∃ S : ByteArray, Hid (⟨(keyB x).toArray⟩ = S) := ⟨_, rfl⟩
      have CX : Hid (∀ W, Calls Tryz.prog 96 #[.agg R.toArray] W fun r w' => r = .returned (.string KX) ∧ Grew W w') := fun W => by
        rw [← HKX.out, ← HR.out]; exact key_any x HXN.out HX20.out W
      clear hxm
      go_wp2_with fail
      go_loopg [5] i (fun g jv wq => ∃ j : Nat, j ≤ i ∧ g = i - j ∧ jv = .int .i64 j ∧ Hid (Be w wq G (.slice va i vc) L) ∧ Hid (∀ k, k < j → ¬ keyB x < keyB (L.getD k default)))
      case atStart => exact ⟨0, Nat.zero_le _, rfl, rfl, HBE, hid (fun k hk => absurd hk (Nat.not_lt_zero _))⟩
      case round =>
        obtain ⟨j, hj, hkj, rfl, HBQ, HLE⟩ := hrel
        by_cases hji : j < i
        · have hjii : (j : Int) < (i : Int) := by omega
          obtain ⟨b1, off1, hva, hb1⟩ : ∃ b1 off1, va = some ⟨b1, off1, none⟩ ∧ b1 < wr.heap.size := by
            obtain ⟨b1, off1, e1, e2, _⟩ := (HPV.out _ HBQ.out).at_ (by rw [HLL.out]; omega)
            exact ⟨b1, off1, e1, e2⟩
          subst hva
          obtain ⟨y, HY⟩ : ∃ y, Hid (L.getD j default = y) := ⟨_, rfl⟩
          have hym : y ∈ L := by
            rw [← HY.out, List.getD_eq_getElem?_getD, List.getElem?_eq_getElem (by rw [HLL.out]; exact hji)]
            exact List.getElem_mem _
          have HY20 : Hid (y.id.length = 20) := HLW.out y hym
          have HYN : Hid (y.name.length ≤ 1000000) := HLN.out y hym
          obtain ⟨R1, HR1⟩ : ∃ R : List Value, Hid (erV y = R) := ⟨_, rfl⟩
          have hi1 : (Tryz.prog.info? 103).map (·.size) = some R1.length := by rw [← HR1.out, erV_len y HY20.out]; exact size103
          obtain ⟨KY, HKY⟩ : ∃ S : ByteArray, Hid (⟨(keyB y).toArray⟩ = S) := ⟨_, rfl⟩
          have CY : Hid (∀ W, Calls Tryz.prog 96 #[.agg R1.toArray] W fun r w' => r = .returned (.string KY) ∧ Grew W w') := fun W => by
            rw [← HKY.out, ← HR1.out]; exact key_any y HYN.out HY20.out W
          have HQ0 : Hid (QK b1 (off1 + j * 22) R1 b (off + i * 22) R wr.drew) := hid (by
            refine ⟨?_, HRR.out _ (below_drewH HBQ.out.below 1)⟩
            obtain ⟨b', off', e1, e2, e3⟩ := (HPV.out _ HBQ.out).at_ (by rw [HLL.out]; omega)
            cases e1
            rw [← HR1.out, ← HY.out]
            exact e3 j (by rw [HLL.out]; exact hji))
          have HBQ0 : Hid (Be w wr.drew G (.slice (some ⟨b1, off1, none⟩) i vc) L) := hid (HBQ.out.carry (below_drewH (Below.refl _ _) 1))
          have hbs : b1 < wr.drew.heap.size ∧ b < wr.drew.heap.size := ⟨hb1, Nat.lt_of_lt_of_le hbG HBQ.out.le⟩
          clear hym
          go_wp2_with fail
          refine wp_region_held_drew (S := QK b1 (off1 + j * 22) R1 b (off + i * 22) R) (by kernel_rfl) (by exact HQ0.out) (fun hHeld => ?_)
          generalize wr.drew = u0 at hHeld HQ0 HBQ0 hbs ⊢
          clear HQ0
          refine takeL (i := 0) (v := ?_) rfl (by kernel_rfl) (by kernel_rfl) (by kernel_rfl) (fun _ _ _ h => h) (Or.inl ⟨by rfl, ?_⟩) hHeld ?_
          rotate_left
          · rintro w' ⟨r1, r2⟩; go_simp; rfl
          try simp only [Act.put, List.setIfInBounds_toArray, List.set_cons_zero, List.set_cons_succ]
          refine takeL (i := 1) (v := ?_) rfl (by kernel_rfl) (by kernel_rfl) (by kernel_rfl) (fun _ _ _ h => h) (Or.inl ⟨by rfl, ?_⟩) hHeld ?_
          rotate_left
          · rintro w' ⟨r1, r2⟩; go_simp; rfl
          try simp only [Act.put, List.setIfInBounds_toArray, List.set_cons_zero, List.set_cons_succ]
          refine takeL (i := 2) (v := ?_) rfl (by kernel_rfl) (by kernel_rfl) (by kernel_rfl) (fun _ _ _ h => h) (Or.inl ⟨by rfl, ?_⟩) hHeld ?_
          rotate_left
          · rintro w' ⟨r1, r2⟩; go_simp; rfl
          try simp only [Act.put, List.setIfInBounds_toArray, List.set_cons_zero, List.set_cons_succ]
          refine takeL (i := 3) (v := ?_) rfl (by kernel_rfl) (by kernel_rfl) (by kernel_rfl) (fun _ _ _ h => h) (Or.inl ⟨by rfl, ?_⟩) hHeld ?_
          rotate_left
          · rintro w' ⟨r1, r2⟩; go_simp; rfl
          try simp only [Act.put, List.setIfInBounds_toArray, List.set_cons_zero, List.set_cons_succ]
          refine takeL (i := 4) (v := ?_) rfl (by kernel_rfl) (by kernel_rfl) (by kernel_rfl) (fun _ _ _ h => h) (Or.inl ⟨by rfl, ?_⟩) hHeld ?_
          rotate_left
          · rintro w' ⟨r1, r2⟩; go_simp; rfl
          try simp only [Act.put, List.setIfInBounds_toArray, List.set_cons_zero, List.set_cons_succ]
          refine takeL (i := 5) (v := ?_) rfl (by kernel_rfl) (by kernel_rfl) (by kernel_rfl) (fun _ _ _ h => h) (Or.inl ⟨by rfl, ?_⟩) hHeld ?_
          rotate_left
          · rintro w' ⟨r1, r2⟩; go_simp; rfl
          try simp only [Act.put, List.setIfInBounds_toArray, List.set_cons_zero, List.set_cons_succ]
          refine takeL (i := 6) (v := ?_) rfl (by kernel_rfl) (by kernel_rfl) (by kernel_rfl) (fun _ _ _ h => h) (Or.inl ⟨by rfl, ?_⟩) hHeld ?_
          rotate_left
          · rintro w' ⟨r1, r2⟩; go_simp; rfl
          try simp only [Act.put, List.setIfInBounds_toArray, List.set_cons_zero, List.set_cons_succ]
          refine takeL (i := 7) (v := ?_) rfl (by kernel_rfl) (by kernel_rfl) (by kernel_rfl) (fun _ _ _ h => h) (Or.inl ⟨by rfl, ?_⟩) hHeld ?_
          rotate_left
          · rintro w' ⟨r1, r2⟩; go_simp; rfl
          try simp only [Act.put, List.setIfInBounds_toArray, List.set_cons_zero, List.set_cons_succ]
          refine takeL (i := 8) (v := .agg R1.toArray) rfl (by kernel_rfl) (by kernel_rfl) (by kernel_rfl) (fun _ _ _ h => h) (yieldsIf_load_mid (by rfl) 103 _ rfl b1 (off1 + j * 22) (by rfl) R1 _ (fun w' h => h.r1) Tryz.underlying103 rfl hi1) hHeld ?_
          try simp only [Act.put, List.setIfInBounds_toArray, List.set_cons_zero, List.set_cons_succ]
          refine takeL (i := 10) (v := ?_) rfl (by kernel_rfl) (by kernel_rfl) (by kernel_rfl) (fun _ _ _ h => h) (Or.inl ⟨by rfl, ?_⟩) hHeld ?_
          rotate_left
          · rintro w' ⟨r1, r2⟩; go_simp; rfl
          try simp only [Act.put, List.setIfInBounds_toArray, List.set_cons_zero, List.set_cons_succ]
          refine takeL (i := 11) (v := ?_) rfl (by kernel_rfl) (by kernel_rfl) (by kernel_rfl) (fun _ _ _ h => h) (Or.inl ⟨by rfl, ?_⟩) hHeld ?_
          rotate_left
          · rintro w' ⟨r1, r2⟩; go_simp; rfl
          try simp only [Act.put, List.setIfInBounds_toArray, List.set_cons_zero, List.set_cons_succ]
          refine takeL (i := 12) (v := ?_) rfl (by kernel_rfl) (by kernel_rfl) (by kernel_rfl) (fun _ _ _ h => h) (Or.inl ⟨by rfl, ?_⟩) hHeld ?_
          rotate_left
          · rintro w' ⟨r1, r2⟩; go_simp; rfl
          try simp only [Act.put, List.setIfInBounds_toArray, List.set_cons_zero, List.set_cons_succ]
          refine takeL (i := 13) (v := .agg R.toArray) rfl (by kernel_rfl) (by kernel_rfl) (by kernel_rfl) (fun _ _ _ h => h) (yieldsIf_load_mid (by rfl) 103 _ rfl b (off + i * 22) (by rfl) R _ (fun w' h => h.r2) Tryz.underlying103 rfl hi103) hHeld ?_
          try simp only [Act.put, List.setIfInBounds_toArray, List.set_cons_zero, List.set_cons_succ]
          refine wpAnyH_ready (rs := [9]) (by kernel_rfl) (by simp) ?_
          refine consL rfl (fun KK hKK => ?_) AllReadyH.nil
          refine step_callg (by rfl) 96 [.tmp 21] _ [.agg R1.toArray] _ (by rfl) (by rfl) (enter96 _) (CY.out u0) ?_
          rintro e u1 ⟨rfl, hg1⟩
          refine ⟨_, rfl, ?_⟩
          have hb1' := hg1.below
          have HBQ1 : Hid (Be w u1 G (.slice (some ⟨b1, off1, none⟩) i vc) L) := hid (HBQ0.out.carry hb1')
          have hbs1 : b1 < u1.heap.size ∧ b < u1.heap.size := ⟨Nat.lt_of_lt_of_le hbs.1 hb1'.size, Nat.lt_of_lt_of_le hbs.2 hb1'.size⟩
          refine hKK.out _ _ (hHeld.below hb1' hbs.1 hbs.2) (fun hHeld => ?_)
          clear hKK KK hg1 hb1'
          try simp only [Act.put, List.setIfInBounds_toArray, List.set_cons_zero, List.set_cons_succ]
          refine wpAnyH_ready (rs := [14]) (by kernel_rfl) (by simp) ?_
          refine consL rfl (fun KK hKK => ?_) AllReadyH.nil
          refine step_callg (by rfl) 96 [.tmp 26] _ [.agg R.toArray] _ (by rfl) (by rfl) (enter96 _) (CX.out u1) ?_
          rintro e u2 ⟨rfl, hg2⟩
          refine ⟨_, rfl, ?_⟩
          have hb2' := hg2.below
          have HBQ2 : Hid (Be w u2 G (.slice (some ⟨b1, off1, none⟩) i vc) L) := hid (HBQ1.out.carry hb2')
          refine hKK.out _ _ (hHeld.below hb2' hbs1.1 hbs1.2) (fun hHeld => ?_)
          clear hKK KK hg2 hb2' HBQ HBQ0 HBQ1
          try simp only [Act.put, List.setIfInBounds_toArray, List.set_cons_zero, List.set_cons_succ]
          obtain ⟨bb, HBB⟩ : ∃ bb : Bool, Hid (decide (¬ keyB x < keyB y) = bb) := ⟨_, rfl⟩
          have hcmp : (Op.bytesLess KY.toList KX.toList || KY.toList == KX.toList) = bb := by
            rw [← HKX.out, ← HKY.out, Lib.toList_data, Lib.toList_data, leq_iff, HBB.out]
          refine takeL (i := 15) (v := ?_) rfl (by kernel_rfl) (by kernel_rfl) (by kernel_rfl) (fun _ _ _ h => h) (Or.inl ⟨by rfl, ?_⟩) hHeld ?_
          rotate_left
          · rintro w' ⟨r1, r2⟩; go_simp; rfl
          try simp only [Act.put, List.setIfInBounds_toArray, List.set_cons_zero, List.set_cons_succ]
          refine takeL (i := 16) (v := ?_) rfl (by kernel_rfl) (by kernel_rfl) (by kernel_rfl) (fun _ _ _ h => h) (Or.inl ⟨by rfl, ?_⟩) hHeld ?_
          rotate_left
          · rintro w' ⟨r1, r2⟩; go_simp; rfl
          try simp only [Act.put, List.setIfInBounds_toArray, List.set_cons_zero, List.set_cons_succ]
          refine wpAnyH_done (by kernel_rfl) ?_ _
          clear hHeld hcmp
          obtain ⟨HBQ, -⟩ : Hid (Be w u2 G (.slice (some ⟨b1, off1, none⟩) i vc) L) ∧ True := ⟨HBQ2, trivial⟩
          cases bb with
          | true =>
            have HNL : Hid (¬ keyB x < keyB y) := hid (of_decide_eq_true HBB.out)
            go_wp2
            go_roundg (i - (j + 1))
            case measure => omega
            case rel =>
              refine ⟨j + 1, by omega, rfl, by go_num, HBQ, hid (fun k hk => ?_)⟩
              by_cases hkj2 : k < j
              · exact HLE.out k hkj2
              · have : k = j := by omega
                subst this
                rw [HY.out]; exact HNL.out
          | false =>
            have HST : Hid (j = i ∨ keyB x < keyB (L.getD j default)) := hid (.inr (by
              rw [HY.out]
              exact Classical.not_not.1 (of_decide_eq_false HBB.out)))
            obtain ⟨va, HVA⟩ : ∃ va : Option Addr, va = some ⟨b1, off1, none⟩ := ⟨_, rfl⟩
            rw [← HVA] at HBQ HPV
            rw [← HVA]
            clear HVA
            obtain ⟨B2, HB2⟩ : ∃ B, Hid (u2.heap.size = B) := ⟨_, rfl⟩
            have hGB2 : G ≤ B2 := by rw [← HB2.out]; exact HBQ.out.le
            have HPQ : Hid (∀ W', Below B2 u2 W' → Pe W' va vc L) := fun W' hW' => (HPV.out _ HBQ.out).below (by rw [HB2.out]; exact hW')
            have HPX : Hid (∀ W', Below B2 u2 W' → W'.rangeAt b (off + i * 22) R) := fun W' hW' => HRR.out W' (HBQ.out.below.trans (hW'.mono hGB2))
            have HNEW : Hid (ins x L = L.take j ++ x :: L.drop j) := hid (ins_at x L j (by rw [HLL.out]; exact hj) HLE.out (by rw [HLL.out]; exact HST.out))
            have HL1 : Hid ((L.take j).length = j) := hid (by rw [List.length_take, HLL.out]; omega)
            have HL2 : Hid ((L.drop j).length = i - j) := hid (by rw [List.length_drop, HLL.out])
            have HW1 : Hid (∀ y ∈ L.take j, y.id.length = 20) := fun y hy => HLW.out y (List.mem_of_mem_take hy)
            have HW2 : Hid (∀ y ∈ L.drop j, y.id.length = 20) := fun y hy => HLW.out y (List.mem_of_mem_drop hy)
            have hcapj : j ≤ vc := by have := (HPV.out _ HBQ.out).capl; rw [HLL.out] at this; omega
            have hcapi : i ≤ vc := by have := (HPV.out _ HBQ.out).capl; rw [HLL.out] at this; omega
            have hsl1 : ∀ W', (Instr.slice 52 (.slice va i vc) none (some (.int .i64 j)) none).run Tryz.prog W' = .ok (.slice va j vc) W' := fun W' => slE_to va i vc j hcapj W'
            have hsl2 : ∀ W', (Instr.slice 52 (.slice va i vc) (some (.int .i64 j)) none none).run Tryz.prog W' = .ok (.slice (adr va vc j) (i - j) (vc - j)) W' := fun W' => slE_from va i vc j hj W'
            obtain ⟨a3, HA3⟩ : ∃ a, Hid (adr va vc j = a) := ⟨_, rfl⟩
            have HP3 : Hid (∀ W', Below B2 u2 W' → Pe W' a3 (vc - j) (L.drop j)) := fun W' hW' => by rw [← HA3.out]; exact (HPQ.out W' hW').drop j (by rw [HLL.out]; exact hj)
            simp only [HA3.out] at hsl2
            have HB0 : Hid (Be u2 u2 B2 (.slice none 0 0) []) := hid (be_nil u2 B2 (by rw [HB2.out]; exact Nat.le_refl _))
            go_wp2_with (first
              | (at_builtin; refine wpList_be_sl rfl _ _ rfl B2 _ _ rfl HB0.out va vc (L.take j) (by rw [HL1.out]; rfl) ((HPQ.out _ (Below.refl _ _)).take j (by rw [HLL.out]; exact hj)) HW1.out (by rw [HL1.out]; simp; omega) ?_; intro v1 w1 hb1 hg1; have HBE1 : Hid (Be u2 w1 B2 v1 ([] ++ L.take j)) := hb1; clear hb1 hg1; have RX : Hid (w1.rangeAt b (off + i * 22) R) := hid (HPX.out _ HBE1.out.below))
              | refine wpList_load_mid rfl 103 _ rfl b (off + i * 22) rfl R _ RX.out Tryz.underlying103 rfl hi103 ?_
              | refine wpList_buildS rfl 52 1 _ rfl (.agg R.toArray) _ rfl (by rw [← HR.out]; exact run_build103 x HX20.out _) ?_
              | (at_builtin; refine wpList_be_sl rfl _ _ rfl B2 _ _ rfl (HBE1.out.alloc _) (some ⟨w1.heap.size, 0, none⟩) 1 [x] rfl (pe_one w1 x) HX1.out (by simp only [List.nil_append, HL1.out, List.length_cons, List.length_nil]; omega) ?_; intro v2 w2 hb2 hg2; have HBE2 : Hid (Be u2 w2 B2 v2 (([] ++ L.take j) ++ [x])) := hb2; clear hb2 hg2)
              | (at_builtin; refine wpList_be_sl rfl _ _ rfl B2 _ _ rfl HBE2.out a3 (vc - j) (L.drop j) (by rw [HL2.out]; rfl) (HP3.out _ HBE2.out.below) HW2.out (by simp only [List.nil_append, List.length_append, HL1.out, HL2.out, List.length_cons, List.length_nil]; omega) ?_; intro v3 w3 hb3 hg3; have HBE3 : Hid (Be u2 w3 B2 v3 ((([] ++ L.take j) ++ [x]) ++ L.drop j)) := hb3; clear hb3 hg3)
              | fail)
            go_roundg (n - (i + 1))
            case measure => omega
            case rel =>
              refine ⟨i + 1, v3, rfl, by omega, rfl, by go_num, hid ?_⟩
              have h3 := HBE3.out
              rw [List.nil_append, List.append_assoc, List.singleton_append, ← HNEW.out, ← HL.out, ← HXX.out, ← srtE_snoc, ← take_snocE es i (by rw [HN.out]; exact hlt)] at h3
              exact ⟨HBQ.out.below.trans (h3.below.mono hGB2), base_mono h3.own hGB2, Nat.le_trans HBQ.out.le (by rw [HB2.out]; exact h3.le)⟩
        · have hjii : ¬ (j : Int) < (i : Int) := by omega
          have hje : j = i := by omega
          have HST : Hid (j = i ∨ keyB x < keyB (L.getD j default)) := hid (.inl hje)
          clear hje
          go_wp2_with fail
          go_quiet (fail)
          have HBQ' : Hid (Be w (wr.drewN nq) G (.slice va i vc) L) := hid (HBQ.out.carry (below_drewH (Below.refl _ _) nq))
          clear HBQ
          generalize wr.drewN nq = WQ at HBQ' ⊢
          have HBQ : Hid (Be w WQ G (.slice va i vc) L) := HBQ'
          clear HBQ'
          obtain ⟨B2, HB2⟩ : ∃ B, Hid (WQ.heap.size = B) := ⟨_, rfl⟩
          have hGB2 : G ≤ B2 := by rw [← HB2.out]; exact HBQ.out.le
          have HPQ : Hid (∀ W', Below B2 WQ W' → Pe W' va vc L) := fun W' hW' => (HPV.out _ HBQ.out).below (by rw [HB2.out]; exact hW')
          have HPX : Hid (∀ W', Below B2 WQ W' → W'.rangeAt b (off + i * 22) R) := fun W' hW' => HRR.out W' (HBQ.out.below.trans (hW'.mono hGB2))
          have HNEW : Hid (ins x L = L.take j ++ x :: L.drop j) := hid (ins_at x L j (by rw [HLL.out]; exact hj) HLE.out (by rw [HLL.out]; exact HST.out))
          have HL1 : Hid ((L.take j).length = j) := hid (by rw [List.length_take, HLL.out]; omega)
          have HL2 : Hid ((L.drop j).length = i - j) := hid (by rw [List.length_drop, HLL.out])
          have HW1 : Hid (∀ y ∈ L.take j, y.id.length = 20) := fun y hy => HLW.out y (List.mem_of_mem_take hy)
          have HW2 : Hid (∀ y ∈ L.drop j, y.id.length = 20) := fun y hy => HLW.out y (List.mem_of_mem_drop hy)
          have hcapj : j ≤ vc := by have := (HPV.out _ HBQ.out).capl; rw [HLL.out] at this; omega
          have hcapi : i ≤ vc := by have := (HPV.out _ HBQ.out).capl; rw [HLL.out] at this; omega
          have hsl1 : ∀ W', (Instr.slice 52 (.slice va i vc) none (some (.int .i64 j)) none).run Tryz.prog W' = .ok (.slice va j vc) W' := fun W' => slE_to va i vc j hcapj W'
          have hsl2 : ∀ W', (Instr.slice 52 (.slice va i vc) (some (.int .i64 j)) none none).run Tryz.prog W' = .ok (.slice (adr va vc j) (i - j) (vc - j)) W' := fun W' => slE_from va i vc j hj W'
          obtain ⟨a3, HA3⟩ : ∃ a, Hid (adr va vc j = a) := ⟨_, rfl⟩
          have HP3 : Hid (∀ W', Below B2 WQ W' → Pe W' a3 (vc - j) (L.drop j)) := fun W' hW' => by rw [← HA3.out]; exact (HPQ.out W' hW').drop j (by rw [HLL.out]; exact hj)
          simp only [HA3.out] at hsl2
          have HB0 : Hid (Be WQ WQ B2 (.slice none 0 0) []) := hid (be_nil WQ B2 (by rw [HB2.out]; exact Nat.le_refl _))
          go_wp2_with (first
            | (at_builtin; refine wpList_be_sl rfl _ _ rfl B2 _ _ rfl HB0.out va vc (L.take j) (by rw [HL1.out]; rfl) ((HPQ.out _ (Below.refl _ _)).take j (by rw [HLL.out]; exact hj)) HW1.out (by rw [HL1.out]; simp; omega) ?_; intro v1 w1 hb1 hg1; have HBE1 : Hid (Be WQ w1 B2 v1 ([] ++ L.take j)) := hb1; clear hb1 hg1; have RX : Hid (w1.rangeAt b (off + i * 22) R) := hid (HPX.out _ HBE1.out.below))
            | refine wpList_load_mid rfl 103 _ rfl b (off + i * 22) rfl R _ RX.out Tryz.underlying103 rfl hi103 ?_
            | refine wpList_buildS rfl 52 1 _ rfl (.agg R.toArray) _ rfl (by rw [← HR.out]; exact run_build103 x HX20.out _) ?_
            | (at_builtin; refine wpList_be_sl rfl _ _ rfl B2 _ _ rfl (HBE1.out.alloc _) (some ⟨w1.heap.size, 0, none⟩) 1 [x] rfl (pe_one w1 x) HX1.out (by simp only [List.nil_append, HL1.out, List.length_cons, List.length_nil]; omega) ?_; intro v2 w2 hb2 hg2; have HBE2 : Hid (Be WQ w2 B2 v2 (([] ++ L.take j) ++ [x])) := hb2; clear hb2 hg2)
            | (at_builtin; refine wpList_be_sl rfl _ _ rfl B2 _ _ rfl HBE2.out a3 (vc - j) (L.drop j) (by rw [HL2.out]; rfl) (HP3.out _ HBE2.out.below) HW2.out (by simp only [List.nil_append, List.length_append, HL1.out, HL2.out, List.length_cons, List.length_nil]; omega) ?_; intro v3 w3 hb3 hg3; have HBE3 : Hid (Be WQ w3 B2 v3 ((([] ++ L.take j) ++ [x]) ++ L.drop j)) := hb3; clear hb3 hg3)
            | fail)
          go_roundg (n - (i + 1))
          case measure => omega
          case rel =>
            refine ⟨i + 1, v3, rfl, by omega, rfl, by go_num, hid ?_⟩
            have h3 := HBE3.out
            rw [List.nil_append, List.append_assoc, List.singleton_append, ← HNEW.out, ← HL.out, ← HXX.out, ← srtE_snoc, ← take_snocE es i (by rw [HN.out]; exact hlt)] at h3
            exact ⟨HBQ.out.below.trans (h3.below.mono hGB2), base_mono h3.own hGB2, Nat.le_trans HBQ.out.le (by rw [HB2.out]; exact h3.le)⟩
    · have hlti : ¬ (i : Int) < (n : Int) := by omega
      have hin : i = n := by omega
      have HEN : Hid (es.take i = es) := hid (List.take_of_length_le (by rw [HN.out]; omega))
      have HBZ : Hid (Be w wr G v (srtE es)) := hid (by have := HBE.out; rw [HEN.out] at this; exact this)
      have HSN : Hid ((srtE es).length = n) := hid (by rw [(srtE_perm es).length_eq]; exact HN.out)
      obtain ⟨va, vc, hv⟩ : ∃ va vc, v = .slice va n vc := by
        have ho := HBZ.out.own
        rw [HSN.out] at ho
        exact owns_shape ho
      subst hv
      have HPZ : Hid (Pe wr va vc (srtE es)) := hid (HBZ.out.pe (fun y hy => HWF.out y ((srtE_perm es).subset hy)) HSN.out).1
      clear hin
      go_wp2
      go_ret
      exact ⟨by rw [HG.out]; exact HBZ.out.below, va, vc, rfl, HPZ.out⟩
end Go.Proofs.YtenbdeljblmbhaaGreatDoor
