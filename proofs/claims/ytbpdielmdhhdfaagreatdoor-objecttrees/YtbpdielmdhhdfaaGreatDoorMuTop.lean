import Derived.Test.YtbpdielmdhhdfaaGreatDoorMu38
import Derived.Test.YtbpdielmdhhdfaaGreatDoorCards
import Derived.Test.YtbpdielmdhhdfaaGreatDoorTie
import Derived.WalkKit
import Derived.ProofKit
import Derived.OpenShut
import Derived.Below
import Derived.Deep.DeepHandedRow
import Derived.Lib.LaidTab
import Derived.LaidLaws
import Derived.LaidHandle
import Derived.ChangeSame
import Derived.Shelf.LaysM
import Derived.Deep.Slices
/- THE LAW 'ObjectTrees': its row, its card. -/
namespace Go.Proofs.YtbpdielmdhhdfaaGreatDoor.Trees
open Go.ChangeShapes Go.WideShapes Go.ChangeAt Go.RowKit
set_option linter.unusedVariables false
set_option linter.unusedSectionVars false

theorem own : ownKnob Tryz.prog.godebug = none := by kernel_rfl
theorem laidOut : laidOutB Tryz.prog = true := by kernel_rfl
theorem et : Tryz.prog.globalNamed "errors.errorType" = some 0 := by kernel_rfl
theorem rt : (Tryz.prog.cutTypes.find? (·.1 == "internal/reflectlite.rtype")).map (·.2) = some 188 := by kernel_rfl
theorem oneRow : ((List.range 333).filter fun t => Tryz.prog.rowNamed t [101, 114, 114, 111, 114]) = [28] := by kernel_rfl
theorem tsize : Tryz.prog.types.size = 333 := by kernel_rfl
theorem ptype : (Tryz.prog.globals[2]?).map (·.type) = some 278 := by kernel_rfl
theorem c147 : Tryz.prog.cellsOf 147 = 1 := by kernel_rfl
theorem c278 : Tryz.prog.cellsOf 278 = 20 := by kernel_rfl
theorem laidMet_tail {P : Program} {W : World} {n : String} {d : DataW Unit} {r : List (String × DataW Unit)} (h : laidMet P ((n, d) :: r) W) : laidMet P r W := by
  obtain ⟨ps, ⟨g, t, cs, fuel, p, q, _, _, _, _, hq, rfl⟩, hn, hall⟩ := h
  exact ⟨q, hq, (List.nodup_append.1 hn).2.1, fun b off hb => hall b off (List.mem_append.2 (.inr hb))⟩
def deb64 : List Int := [0, 1, 56, 2, 57, 49, 28, 3, 61, 58, 42, 50, 38, 29, 17, 4, 62, 47, 59, 36, 45, 43, 51, 22, 53, 39, 33, 30, 24, 18, 12, 5, 63, 55, 48, 27, 60, 41, 37, 16, 46, 35, 44, 21, 52, 32, 23, 11, 54, 26, 40, 15, 34, 20, 31, 10, 25, 14, 19, 9, 13, 8, 7, 6]
def dataRows : List (String × DataW Unit) := [("math/bits.deBruijn32tab", Rows.laid_math_bits_deBruijn32tab), ("math/bits.deBruijn64tab", Lib.tabData .u8 deb64), ("internal/strconv.uint64pow10", Lib.tabData .u64 Lib.pow10Tab), ("strconv.ErrRange", Rows.laid_strconv_ErrRange), ("strconv.ErrSyntax", Rows.laid_strconv_ErrSyntax)]
def handleRows : List (String × DataW Unit) := [("errors.errorType", Rows.laid_errors_errorType)]
theorem parts_of {W : World} (h : laidMetH Tryz.prog Rows.objectTreesRow.laid W) : laidMet Tryz.prog dataRows W ∧ handlesMet Tryz.prog handleRows W := h
theorem handle_of_laid {W : World} (h : laidMetH Tryz.prog Rows.objectTreesRow.laid W) : W.cell? ⟨0, 0, none⟩ = some (.iface 188 (.agg #[.pointer (some ⟨9, 28, none⟩)])) := by
  obtain ⟨name, u, ty, e1, e2, e3, e4, e5⟩ := (parts_of h).2 _ (List.mem_singleton.2 rfl)
  have en : name = [101, 114, 114, 111, 114] := (Option.some.inj e1).symm
  subst en
  obtain rfl := Option.some.inj (rt.symm.trans e2)
  have hm : ty ∈ (List.range 333).filter fun t => Tryz.prog.rowNamed t [101, 114, 114, 111, 114] := List.mem_filter.2 ⟨List.mem_range.2 (by rw [← tsize]; exact e3), e4⟩
  rw [oneRow] at hm
  obtain rfl := List.mem_singleton.1 hm
  have hh : typeHandle Tryz.prog 28 = .pointer (some ⟨9, 28, none⟩) := by kernel_rfl
  rw [hh] at e5
  simpa using World.var?_cell et e5 0
theorem tab_of_laid {W : World} (h : laidMetH Tryz.prog Rows.objectTreesRow.laid W) : Tab W :=
  Lib.tabIs_of_head pow_at ptype Tryz.underlying278 Tryz.underlying147 c147 c278 (laidMet_tail (laidMet_tail (parts_of h).1))
theorem shapedMx {W : World} (h : W.ShapedOpen Tryz.prog) : Mx W :=
  Go.Proofs.cell_of_shapedOpen_int (zero := #[.int .i64 0]) (t := 3) h (of_decide_eq_true (by kernel_rfl)) (by kernel_rfl) rfl (by kernel_rfl) (by kernel_rfl) Tryz.underlying3
theorem cell_lt {w : World} {a : Addr} {v : Value} (h : w.cell? a = some v) : a.block < w.heap.size := by
  rcases Nat.lt_or_ge a.block w.heap.size with h' | h'
  · exact h'
  · simp [World.cell?, Array.getElem?_eq_none h'] at h
theorem bytes5 : Tryz.prog.bytesOf 5 = 1 := by kernel_rfl
theorem lits_len {H : Type} (k : IntKind) (l : List Int) : (lits (H := H) k l).length = l.length := by simp [lits]
/-- What is known of a slice of bytes. -/
def One (W : World) (v : Value) (t : Option Addr × Nat × List Int) : Prop :=
  v = .slice t.1 t.2.2.length t.2.1 ∧ IsB t.2.2 ∧ Sl W t.1 t.2.1 t.2.2
theorem sl_nil (W : World) : Sl W none 0 [] := ⟨Nat.le_refl _, (fun h => by cases h), fun _ => rfl⟩
theorem open_one {H : Type} {enc : TypeId × Value → H} {W : World} {m : Nat} {v : Value} {y : DataW H × List MemPlace} (h : DataW.trod enc Tryz.prog W 0 (fun _ => true) true m 23 [v] = some y) :
    ∃ t, One W v t ∧ (t.2.2.length = 0 ∨ ∃ n, n ∈ y.1.weights Tryz.prog 23 ∧ t.2.2.length ≤ n) := by
  rcases open_ints Tryz.underlying23 Tryz.underlying5 (by kernel_rfl) h with ⟨hcs, _⟩ | ⟨x, l, c, zs, hcs, _, hl, hm, hz, hy, hcell, hwz⟩
  · simp only [List.cons.injEq, and_true] at hcs
    subst hcs
    exact ⟨(none, 0, []), ⟨rfl, (fun x hx => by cases hx), sl_nil W⟩, .inl rfl⟩
  · simp only [List.cons.injEq, and_true] at hcs
    subst hcs
    simp only [if_true] at hz
    have hlen : (zs.take l).length = l := by rw [List.length_take]; omega
    refine ⟨(some x, c, zs.take l), ⟨by rw [hlen], ?_, by rw [hlen]; exact hl, ?_, fun h => by cases h⟩, .inr ⟨c, ?_, by rw [hlen]; exact hl⟩⟩
    · intro n hn
      have := bounds_u8 (hwz n (List.mem_of_mem_take hn))
      omega
    · intro hpos
      rw [hlen] at hpos
      obtain ⟨b, off, spot⟩ := x
      have hc := hcell 0 (by omega)
      have hspot : spot = none := by simpa [Addr.add] using World.cell?_spot hc
      subst hspot
      refine ⟨b, off, rfl, cell_lt hc, fun i hi => ?_⟩
      rw [hlen] at hi
      have := hcell i (by omega)
      rw [addr_add] at this
      rw [this]
      simp [hi]
    · rw [hy]
      simp only [DataW.weights, Tryz.underlying23, lits_len, bytes5, List.mem_cons]
      left
      rw [List.length_take, List.length_drop]; omega
/-- What reads as data of an interface's type is nil or a value with its type. -/
theorem trod_iface {H : Type} {enc : TypeId × Value → H} {P : Program} {w : World} {base : Nat} {spare : Nat → Bool} {held : Bool} {fuel : Nat} {t : TypeId} {cs : List Value} {x : DataW H × List MemPlace} {ms : Array (String × TypeId)} (ht : P.underlying t = some (.interface ms))
    (h : DataW.trod enc P w base spare held fuel t cs = some x) : cs = [.nilIface] ∨ ∃ u v, cs = [.iface u v] := by
  cases fuel with
  | zero => simp [DataW.trod] at h
  | succ n =>
    unfold DataW.trod at h
    rw [ht] at h
    split at h <;> simp_all
theorem iface_of_laid {P : Program} {W : World} {n : String} {d : DataW Unit} {r : List (String × DataW Unit)} {g : Nat} {t : TypeId} {ms : Array (String × TypeId)} (hg : P.globalNamed n = some g) (ht : (P.globals[g]?).map (·.type) = some t) (hu : P.underlying t = some (.interface ms))
    (h : laidMet P ((n, d) :: r) W) : ∃ ev, W.cell? ⟨g, 0, none⟩ = some ev ∧ (ev = .nilIface ∨ ∃ te pe, ev = .iface te pe) := by
  obtain ⟨ps, ⟨g', t', cs, fuel, p, q, e1, e2, e3, e4, hq, rfl⟩, hn, hall⟩ := h
  obtain rfl := Option.some.inj (hg.symm.trans e1)
  obtain rfl := Option.some.inj (ht.symm.trans e2)
  have hc := World.var?_cell hg e3 0
  rcases trod_iface hu e4 with h | ⟨u, v, h⟩
  · have : cs = #[.nilIface] := Array.toList_inj.1 (by simpa using h)
    subst this
    exact ⟨_, by simpa using hc, .inl rfl⟩
  · have : cs = #[.iface u v] := Array.toList_inj.1 (by simpa using h)
    subst this
    exact ⟨_, by simpa using hc, .inr ⟨u, v, rfl⟩⟩
theorem g5 : Tryz.prog.globalNamed "strconv.ErrSyntax" = some 5 := by kernel_rfl
theorem g6 : Tryz.prog.globalNamed "strconv.ErrRange" = some 6 := by kernel_rfl
theorem t5 : (Tryz.prog.globals[5]?).map (·.type) = some 28 := by kernel_rfl
theorem t6 : (Tryz.prog.globals[6]?).map (·.type) = some 28 := by kernel_rfl
theorem ers_of_laid {W : World} (h : laidMetH Tryz.prog Rows.objectTreesRow.laid W) : Ers W := by
  have h4 := laidMet_tail (laidMet_tail (laidMet_tail (parts_of h).1))
  exact ⟨iface_of_laid g5 t5 Tryz.underlying28 (laidMet_tail h4), iface_of_laid g6 t6 Tryz.underlying28 h4⟩
theorem deb_at : Tryz.prog.globalNamed "math/bits.deBruijn64tab" = some 4 := by kernel_rfl
theorem dtype : (Tryz.prog.globals[4]?).map (·.type) = some 182 := by kernel_rfl
theorem c5 : Tryz.prog.cellsOf 5 = 1 := by kernel_rfl
theorem c182 : Tryz.prog.cellsOf 182 = 64 := by kernel_rfl
theorem db_of_laid {W : World} (h : laidMetH Tryz.prog Rows.objectTreesRow.laid W) : Db W := by
  have ht : Lib.TabIs Tryz.prog W "math/bits.deBruijn64tab" .u8 deb64 := Lib.tabIs_of_head deb_at dtype Tryz.underlying182 Tryz.underlying5 c5 c182 (laidMet_tail (parts_of h).1)
  exact ⟨by simpa [deb64] using World.var?_cell deb_at ht 7⟩
theorem ints_of {p : Int → Prop} : ∀ cs : List Value, (∀ i, i < cs.length → ∃ n, cs[i]? = some (.int .u8 n) ∧ p n) → ∃ zs : List Int, cs = row .u8 zs ∧ zs.length = cs.length ∧ ∀ n ∈ zs, p n
  | [], _ => ⟨[], rfl, rfl, fun n hn => by cases hn⟩
  | v :: r, h => by
    obtain ⟨n, e, hp⟩ := h 0 (by simp)
    obtain ⟨zs, e2, e3, e4⟩ := ints_of r (fun i hi => by
      obtain ⟨m, f1, f2⟩ := h (i + 1) (by simpa using hi)
      exact ⟨m, by simpa using f1, f2⟩)
    have ev : v = .int .u8 n := by simpa using e
    refine ⟨n :: zs, by rw [ev, e2]; rfl, by simp [e3], fun m hm => ?_⟩
    rcases List.mem_cons.1 hm with rfl | hm
    · exact hp
    · exact e4 m hm
theorem cells5 : Tryz.prog.cellsOf 5 = 1 := by kernel_rfl
theorem cells9 : Tryz.prog.cellsOf 9 = 1 := by kernel_rfl
theorem cells32 : Tryz.prog.cellsOf 32 = 20 := by kernel_rfl
theorem cells49 : Tryz.prog.cellsOf 49 = 1 := by kernel_rfl
theorem cells51 : Tryz.prog.cellsOf 51 = 22 := by kernel_rfl
/-- An id, opened. -/
theorem open_id {H : Type} {enc : TypeId × Value → H} {W : World} {m : Nat} {cs : List Value} {y : DataW H × List MemPlace} (h : DataW.trod enc Tryz.prog W 0 (fun _ => true) true m 32 cs = some y) :
    ∃ zs : List Int, cs = row .u8 zs ∧ zs.length = 20 ∧ ∀ n ∈ zs, 0 ≤ n ∧ n < 256 := by
  obtain ⟨xs, k, _, _, hl, hx, hf⟩ := DataW.trod_array Tryz.underlying32 h
  rw [cells32] at hl
  obtain ⟨zs, e1, e2, e3⟩ := ints_of (p := fun n => 0 ≤ n ∧ n < 256) cs (fun i hi => by
    have hi20 : i < 20 := by omega
    have h1 := hf i hi20
    rw [cells5, Nat.mul_one, List.getElem?_eq_getElem (by omega)] at h1
    obtain ⟨n, e, _, hw⟩ := DataW.trod_int Tryz.underlying5 h1
    refine ⟨n, ?_, ?_⟩
    · have h2 : (List.take 1 (List.drop i cs))[0]? = some (.int .u8 n) := by rw [e]; rfl
      rw [List.getElem?_take_of_lt (by omega), List.getElem?_drop, Nat.add_zero] at h2
      exact h2
    · have := bounds_u8 hw
      omega)
  exact ⟨zs, e1, by omega, e3⟩
/-- A text of a struct, opened. -/
theorem open_txt {H : Type} {enc : TypeId × Value → H} {W : World} {m : Nat} {cs : List Value} {y : DataW H × List MemPlace} (h : DataW.trod enc Tryz.prog W 0 (fun _ => true) true m 9 cs = some y) :
    ∃ l : List UInt8, cs = [.string ⟨l.toArray⟩] ∧ l.length ∈ y.1.weights Tryz.prog 9 := by
  obtain ⟨s, e, rfl, _⟩ := DataW.trod_string Tryz.underlying9 h
  exact ⟨s.data.toList, e, by simp [DataW.weights]⟩
section
variable [Inhabited Er] [Inhabited En]
set_option maxRecDepth 100000 in
/-- An entry, opened. -/
theorem open_ent {H : Type} {enc : TypeId × Value → H} {W : World} {m : Nat} {cs : List Value} {y : DataW H × List MemPlace} (h : DataW.trod enc Tryz.prog W 0 (fun _ => true) true m 51 cs = some y) :
    ∃ x : Er, cs = erV x ∧ x.id.length = 20 ∧ ∀ n ∈ x.id, 0 ≤ n ∧ n < 256 := by
  obtain ⟨xs, n, _, hy, hlen, hxl, hf⟩ := DataW.trod_struct Tryz.underlying51 h
  rw [cells51] at hlen
  match xs, hxl with
  | [y0, y1, y2], _ =>
    have u0 : DataW.trod enc Tryz.prog W 0 (fun _ => true) true n 49 ((cs.drop 0).take (Tryz.prog.cellsOf 49)) = some y0 := hf 0 _ rfl
    have u1 : DataW.trod enc Tryz.prog W 0 (fun _ => true) true n 9 ((cs.drop 1).take (Tryz.prog.cellsOf 9)) = some y1 := hf 1 _ rfl
    have u2 : DataW.trod enc Tryz.prog W 0 (fun _ => true) true n 32 ((cs.drop 2).take (Tryz.prog.cellsOf 32)) = some y2 := hf 2 _ rfl
    rw [cells49, List.drop_zero] at u0
    rw [cells9] at u1
    rw [cells32] at u2
    obtain ⟨t, e0, _⟩ := DataW.trod_int und49 u0
    obtain ⟨l1, e1, _⟩ := open_txt u1
    obtain ⟨zs, e2, z1, z2⟩ := open_id u2
    refine ⟨⟨t, l1, zs⟩, ?_, z1, z2⟩
    have s0 : cs = cs.take 1 ++ cs.drop 1 := (List.take_append_drop _ _).symm
    have s1 : cs.drop 1 = (cs.drop 1).take 1 ++ cs.drop 2 := by
      have := (List.take_append_drop 1 (cs.drop 1)).symm
      rwa [List.drop_drop] at this
    have s2 : cs.drop 2 = (cs.drop 2).take 20 := (List.take_of_length_le (by rw [List.length_drop]; omega)).symm
    rw [s0, s1, s2, e0, e1, e2]
    rfl
theorem list_of {p : Nat → Er → Prop} : ∀ n : Nat, (∀ i, i < n → ∃ z, p i z) → ∃ l : List Er, l.length = n ∧ ∀ i, i < n → p i (l.getD i default)
  | 0, _ => ⟨[], rfl, fun i hi => by omega⟩
  | n + 1, h => by
    obtain ⟨l, h1, h2⟩ := list_of n (fun i hi => h i (by omega))
    obtain ⟨z, hz⟩ := h n (by omega)
    refine ⟨l ++ [z], by simp [h1], fun i hi => ?_⟩
    rcases Nat.lt_or_ge i n with h3 | h3
    · have e : (l ++ [z]).getD i default = l.getD i default := by
        rw [List.getD_eq_getElem?_getD, List.getD_eq_getElem?_getD, List.getElem?_append_left (by omega)]
      rw [e]
      exact h2 i h3
    · have e : i = n := by omega
      subst e
      have e2 : (l ++ [z]).getD i default = z := by
        rw [List.getD_eq_getElem?_getD, List.getElem?_append_right (by omega), h1, Nat.sub_self]
        rfl
      rw [e2]
      exact hz
set_option maxRecDepth 100000 in
/-- Entries, opened. -/
theorem open_ents {H : Type} {enc : TypeId × Value → H} {W : World} {m : Nat} {v : Value} {y : DataW H × List MemPlace} (h : DataW.trod enc Tryz.prog W 0 (fun _ => true) true m 47 [v] = some y) :
    ∃ (pa : Option Addr) (pc : Nat) (es : List Er), v = .slice pa es.length pc ∧ Pe W pa pc es ∧ WfE es := by
  rcases Go.Deep.open_slice Tryz.underlying47 h with ⟨h0, _⟩ | ⟨a, len, cap, m, n, D, Pl, hc, hb, hl, hm, hmm, rfl, hx⟩
  · simp only [List.cons.injEq, and_true] at h0
    subst h0
    exact ⟨none, 0, [], rfl, ⟨Nat.le_refl _, (fun h => by cases h), fun _ => rfl⟩, fun x hx => by cases hx⟩
  · simp only [List.cons.injEq, and_true] at hc
    subst hc
    simp only [if_true] at hmm
    obtain ⟨b, off, spot⟩ := a
    obtain ⟨es, h1, h2⟩ := list_of (p := fun i z => (z.id.length = 20 ∧ ∀ n ∈ z.id, 0 ≤ n ∧ n < 256) ∧ ∀ j v, (erV z)[j]? = some v → W.cell? (((⟨b, off, spot⟩ : Addr).add (i * 22)).add j) = some v) len (fun i hi => by
      obtain ⟨cs', g1, g2⟩ := hx i (by omega)
      rw [cells51] at g1
      obtain ⟨_, hlen, hcell⟩ := World.cells?_some g1
      obtain ⟨z, e1, e2, e3⟩ := open_ent g2
      refine ⟨z, ⟨e2, e3⟩, fun j v hv => ?_⟩
      have hj : j < 22 := by
        have := (List.getElem?_eq_some_iff.1 hv).1
        rw [erV_len z e2] at this
        exact this
      rw [hcell j hj, e1]
      exact hv)
    have hw : WfE es := fun x hx => by
      obtain ⟨i, hi, e⟩ := List.getElem_of_mem hx
      have := (h2 i (by omega)).1
      rw [List.getD_eq_getElem?_getD, List.getElem?_eq_getElem hi] at this
      simp only [Option.getD_some] at this
      rw [e] at this
      exact this
    refine ⟨some ⟨b, off, spot⟩, cap, es, by rw [h1], ⟨by rw [h1]; exact hl, fun h0 => ?_, fun e => by cases e⟩, hw⟩
    rw [h1] at h0
    have c0 : W.cell? (((⟨b, off, spot⟩ : Addr).add (0 * 22)).add 0) = some (.int .i64 (es.getD 0 default).mode) := (h2 0 h0).2 0 _ rfl
    have hspot : spot = none := by simpa [Addr.add] using World.cell?_spot c0
    subst hspot
    refine ⟨b, off, rfl, ?_, fun i hi j v hv => ?_⟩
    · have := cell_lt c0
      simpa [Addr.add] using this
    · rw [h1] at hi
      have := (h2 i hi).2 j v hv
      rw [addr_add, addr_add] at this
      exact this
set_option maxRecDepth 100000 in
theorem contract (H : Type) (enc : TypeId × Value → H) (W : World) (base : Nat) (args : Array Value) (ds gs : List (DataW H)) (before : List MemPlace)
    (hval : ∀ (j : Nat) t v, Tryz.f4.params[j]? = some t → args[j]? = some v → Value.okWide Tryz.prog W .any base t v)
    (hW : DataW.Whole enc Tryz.prog Tryz.f4.params.toList Rows.objectTreesSpec.vars false W args.toList ds gs before)
    (hsz : (DataW.weightsEach Tryz.prog (Tryz.f4.params.toList ++ (OpenSpec.ofChange Rows.objectTreesSpec).bare.plain.varTypes Tryz.prog) (ds ++ gs)).all (· ≤ reachBytes) = true)
    (hL : laidMetH Tryz.prog Rows.objectTreesRow.laid W) (hsh : W.ShapedOpen Tryz.prog) :
    Calls Tryz.prog 4 args W fun e W' => ∃ v, e = .returned v ∧ Rows.objectTreesSpec.post enc Tryz.prog Tryz.f4 false true false false W args v W' := by
  have hW' := hW
  obtain ⟨p, q, hA0, hV, rfl, hfz, hnd⟩ := hW
  have hA : DataW.TrodAll enc Tryz.prog W 0 (fun _ => true) true Tryz.f4.params.toList args.toList ds p := hA0
  rw [Tryz.params4] at hA hval hsz
  obtain ⟨v0, vs0, d0, ds0, p0, q0, hargs, rfl, rfl, h0, r0⟩ := trodAll_cons hA
  obtain ⟨v1, vs1, d1, ds1, p1, q1, rfl, rfl, rfl, h1, r1⟩ := trodAll_cons r0
  obtain ⟨rfl, rfl, rfl⟩ := trodAll_nil r1
  obtain rfl : args = #[v0, v1] := by cases args; simp_all
  obtain ⟨rfl, rfl⟩ := trodVars_none hV
  have k0 := h0
  have k1 := h1
  have lt0 : ∀ x ∈ p0, x.block < W.heap.size := by obtain ⟨m, hm⟩ := k0; exact DataW.trod_lt m _ _ _ hm
  have lt1 : ∀ x ∈ p1, x.block < W.heap.size := by obtain ⟨m, hm⟩ := k1; exact DataW.trod_lt m _ _ _ hm
  obtain ⟨a0, len0, cap0, rfl⟩ := okWide_slice Tryz.underlying47 (hval 0 47 v0 rfl rfl)
  obtain ⟨a1, len1, cap1, rfl⟩ := okWide_slice Tryz.underlying23 (hval 1 23 v1 rfl rfl)
  obtain ⟨pa, pc, es, ev, hpe, hwf⟩ : ∃ (pa : Option Addr) (pc : Nat) (es : List Er), Value.slice a0 len0 cap0 = .slice pa es.length pc ∧ Pe W pa pc es ∧ WfE es := by
    obtain ⟨fuel, hf⟩ := h0
    exact open_ents (y := (d0, p0)) hf
  obtain ⟨t1, o1, _⟩ : ∃ t, One W (.slice a1 len1 cap1) t ∧ (t.2.2.length = 0 ∨ ∃ n, n ∈ d1.weights Tryz.prog 23 ∧ t.2.2.length ≤ n) := by
    obtain ⟨fuel, hf⟩ := h1
    exact open_one (y := (d1, p1)) hf
  clear hA0
  have hlw : Lw W := ⟨tab_of_laid hL, shapedMx hsh, handle_of_laid hL⟩
  have her : Ers W := ers_of_laid hL
  have hdb : Db W := db_of_laid hL
  obtain ⟨e1, z1, c1⟩ := o1
  have walk : Calls Tryz.prog 4 #[.slice a0 len0 cap0, .slice a1 len1 cap1] W fun e w' => e = .returned (.bool true) ∧ Below W.heap.size W w' := by
    rw [e1, ev]
    by_cases hk : es.length ≤ 200
    · by_cases hl : t1.2.2.length ≤ 8000
      · exact walkE_short pa pc es t1.1 t1.2.1 t1.2.2 W hk hl hwf hpe z1 c1 hlw her hdb
      · exact walkE_long _ _ _ _ _ _ W (.inr (by omega))
    · exact walkE_long _ _ _ _ _ _ W (.inl (by omega))
  refine walk.mono fun e W' ⟨he, bel⟩ => ?_
  subst he
  exact ⟨_, rfl, _, _, _, [], _, [], hW', trodAll_mk1 (shut_bool Tryz.underlying4 _), (trodAll_cons_mk (Below.trod laidOut (by kernel_rfl) (of_decide_eq_true (by kernel_rfl)) k0 bel lt0) (trodAll_cons_mk (Below.trod laidOut (by kernel_rfl) (of_decide_eq_true (by kernel_rfl)) k1 bel lt1) trodAll_mk0)), rfl, bel.frame _, fun h => by cases h⟩

/-- A block's cells, laid anew. -/
def relay (cs : Array Value) : Obj → Obj
  | .cells _ t frozen => .cells cs t frozen
  | o => o
/-- A WORLD FOR THE WITNESS: the variables' cells hold what their initialisers lay. -/
def layIn (w : World) : World :=
  { w with heap := ((((((((w.heap.modify 0 (relay #[.iface 188 (.agg #[.pointer (some ⟨9, 28, none⟩)])])).modify 2 (relay #[.int .u64 1, .int .u64 10, .int .u64 100, .int .u64 1000, .int .u64 10000, .int .u64 100000, .int .u64 1000000, .int .u64 10000000, .int .u64 100000000, .int .u64 1000000000, .int .u64 10000000000, .int .u64 100000000000, .int .u64 1000000000000, .int .u64 10000000000000, .int .u64 100000000000000, .int .u64 1000000000000000, .int .u64 10000000000000000, .int .u64 100000000000000000, .int .u64 1000000000000000000, .int .u64 10000000000000000000])).modify 3 (relay #[.int .u8 0, .int .u8 1, .int .u8 28, .int .u8 2, .int .u8 29, .int .u8 14, .int .u8 24, .int .u8 3, .int .u8 30, .int .u8 22, .int .u8 20, .int .u8 15, .int .u8 25, .int .u8 17, .int .u8 4, .int .u8 8, .int .u8 31, .int .u8 27, .int .u8 13, .int .u8 23, .int .u8 21, .int .u8 19, .int .u8 16, .int .u8 7, .int .u8 26, .int .u8 12, .int .u8 18, .int .u8 6, .int .u8 11, .int .u8 5, .int .u8 10, .int .u8 9])).modify 4 (relay #[.int .u8 0, .int .u8 1, .int .u8 56, .int .u8 2, .int .u8 57, .int .u8 49, .int .u8 28, .int .u8 3, .int .u8 61, .int .u8 58, .int .u8 42, .int .u8 50, .int .u8 38, .int .u8 29, .int .u8 17, .int .u8 4, .int .u8 62, .int .u8 47, .int .u8 59, .int .u8 36, .int .u8 45, .int .u8 43, .int .u8 51, .int .u8 22, .int .u8 53, .int .u8 39, .int .u8 33, .int .u8 30, .int .u8 24, .int .u8 18, .int .u8 12, .int .u8 5, .int .u8 63, .int .u8 55, .int .u8 48, .int .u8 27, .int .u8 60, .int .u8 41, .int .u8 37, .int .u8 16, .int .u8 46, .int .u8 35, .int .u8 44, .int .u8 21, .int .u8 52, .int .u8 32, .int .u8 23, .int .u8 11, .int .u8 54, .int .u8 26, .int .u8 40, .int .u8 15, .int .u8 34, .int .u8 20, .int .u8 31, .int .u8 10, .int .u8 25, .int .u8 14, .int .u8 19, .int .u8 9, .int .u8 13, .int .u8 8, .int .u8 7, .int .u8 6])).modify 5 (relay #[.iface 303 (.pointer (some ⟨w.heap.size, 0, none⟩))])).modify 6 (relay #[.iface 303 (.pointer (some ⟨w.heap.size + 1, 0, none⟩))])).modify 7 (relay (Pinned.utf8FirstZ.map fun (n : Nat) => Value.int .u8 (n : Int)).toArray)).modify 8 (relay #[.int .u8 128, .int .u8 191, .int .u8 160, .int .u8 191, .int .u8 128, .int .u8 159, .int .u8 144, .int .u8 191, .int .u8 128, .int .u8 143, .int .u8 0, .int .u8 0, .int .u8 0, .int .u8 0, .int .u8 0, .int .u8 0, .int .u8 0, .int .u8 0, .int .u8 0, .int .u8 0, .int .u8 0, .int .u8 0, .int .u8 0, .int .u8 0, .int .u8 0, .int .u8 0, .int .u8 0, .int .u8 0, .int .u8 0, .int .u8 0, .int .u8 0, .int .u8 0])) ++ #[.cells #[.string ⟨#[105, 110, 118, 97, 108, 105, 100, 32, 115, 121, 110, 116, 97, 120]⟩] 305, .cells #[.string ⟨#[118, 97, 108, 117, 101, 32, 111, 117, 116, 32, 111, 102, 32, 114, 97, 110, 103, 101]⟩] 305] }
def wit : Array Value := #[.slice none 0 0, .slice none 0 0]
theorem laid_met (os : Os) : laidMetH Tryz.prog Rows.objectTreesRow.laid ((layIn (World.holding Tryz.prog os ⟨#[], #[], []⟩)).forCall (fun _ _ => 0) ⟨#[], wit, []⟩).memory :=
  laidMetH_of_parts (laidMet_of_run' 8 (by kernel_rfl) (by kernel_rfl)) (by kernel_rfl)
theorem reads (os : Os) {H : Type} (enc : TypeId × Value → H) : ∃ ds places, DataW.whole enc Tryz.prog ((layIn (World.holding Tryz.prog os ⟨#[], #[], []⟩)).forCall (fun _ _ => 0) ⟨#[], wit, []⟩).memory Tryz.f4.params.toList Rows.objectTreesSpec.vars false wit.toList 8 = some (ds, [], places) :=
  ⟨[.nil, .nil], [], by kernel_rfl⟩

set_option maxRecDepth 100000 in
theorem lifted (os : Os) (started : os.Started) (H : Type) (enc : TypeId × Value → H) (F : Stop.Interp) :
    ReturnsInHanded {} Tryz.checked os 4 .any ((OpenSpec.ofChange Rows.objectTreesSpec).preRow enc Tryz.prog Tryz.f4 Rows.objectTreesRow.domain false Rows.objectTreesRow.laid) (((OpenSpec.ofChange Rows.objectTreesSpec).at F).post enc Tryz.prog Tryz.f4 false true false false) := by
  obtain ⟨ds, places, hx⟩ := reads os enc
  refine returnsInHanded_of_row (C := Tryz.checked) (s := OpenSpec.ofChange Rows.objectTreesSpec) own started (by kernel_rfl) Tryz.func4
    (witness_row_at (enc := enc) (C := Tryz.checked) false (layIn (World.holding Tryz.prog os ⟨#[], #[], []⟩)) wit rfl (by kernel_rfl) (by kernel_rfl) (by kernel_rfl)
      (OpenSpec.preRow_of_cond 8 hx (by kernel_rfl) (fun k hk => by cases hk) (by kernel_rfl) (laid_met os))) ?_
  intro W base args ds gs before hval hW _ _ hsz hL hsh _
  exact contract H enc W base args ds gs before hval hW hsz hL hsh

end
theorem said : Rows.ObjectTreesSaid := by
  have i1 : Inhabited Er := ⟨⟨0, [], []⟩⟩
  have i2 : Inhabited En := ⟨⟨⟨0, [], z20⟩, by decide, by decide⟩⟩
  exact OpenClaim.holds_of_cond 4 Tryz.f4 rfl rfl rfl rfl rfl rfl rfl ⟨rfl, rfl, rfl, rfl, rfl⟩ rfl rfl rfl rfl rfl (by kernel_rfl) Tryz.func4 (by kernel_rfl)
    (of_decide_eq_true (by kernel_rfl)) (by unfold Func.isWrapper; first | (rw [if_pos (by decide +kernel)]; kernel_rfl) | (rw [if_neg (by decide +kernel)]; exact ⟨rfl, rfl⟩))
    (fun os started H enc _ F => by rw [OpenClaim.pre_eq_preRow]; exact lifted os started H enc F)

theorem plain (f : FuncId) (fn : Func) (hf : Tryz.pinned.checked.prog.funcNamed "gitlike/gitlikelaw3.ObjectTrees" = some f) (hfn : Tryz.pinned.checked.prog.funcs[f]? = some fn) :
    true = Tryz.pinned.checked.prog.looks [] ∧ ∀ (j : Nat) t, fn.params[j]? = some t → Tryz.pinned.checked.prog.wantsStandIn t = false := by
  obtain rfl : f = 4 := Option.some.inj ((show Tryz.prog.funcNamed "gitlike/gitlikelaw3.ObjectTrees" = some 4 by kernel_rfl).symm.trans hf) |>.symm
  obtain rfl : fn = Tryz.f4 := (Option.some.inj (Tryz.func4.symm.trans hfn)).symm
  refine ⟨by kernel_rfl, fun j t ht => ?_⟩
  rw [Tryz.params4] at ht
  have hm : t = 47 ∨ t = 23 := by simpa using Array.mem_of_getElem? ht
  rcases hm with rfl | rfl
  · exact (show Tryz.prog.wantsStandIn 47 = false by kernel_rfl)
  · exact (show Tryz.prog.wantsStandIn 23 = false by kernel_rfl)

end Go.Proofs.YtbpdielmdhhdfaaGreatDoor.Trees
namespace Go.Proofs.YtbpdielmdhhdfaaGreatDoor
/-- THE CARD -/
theorem objectTrees_card : Rows.ObjectTreesCardSaid :=
  Claim7.holds_tied_plain_at .later [] _ _ _ _ Trees.said (fun _ h => by cases h) (by kernel_rfl) (fun _ h => by cases h) objectTrees_row_tie rfl ⟨rfl, rfl⟩ (by kernel_rfl) rfl Trees.plain (by kernel_rfl)
#print axioms objectTrees_card
end Go.Proofs.YtbpdielmdhhdfaaGreatDoor
