import Derived.Test.YtikmbjfambjmaaaGreatDoorMf24
import Derived.Test.YtikmbjfambjmaaaGreatDoorCards
import Derived.Test.YtikmbjfambjmaaaGreatDoorTie
import Derived.WalkKit
import Derived.ProofKit
import Derived.OpenShut
import Derived.Below
import Derived.Deep.DeepHandedRow
import Derived.Lib.LaidTab
import Derived.LaidLaws
import Derived.LaidHandle
import Derived.ChangeSame
import Derived.Shelf.LaysM
import Derived.Deep.Slices
namespace Go.Proofs.YtikmbjfambjmaaaGreatDoor.Gr.Flats
open Go.ChangeShapes Go.WideShapes Go.ChangeAt Go.RowKit
set_option linter.unusedVariables false
set_option linter.unusedSectionVars false
theorem own : ownKnob Tryz.prog.godebug = none := by kernel_rfl
theorem laidOut : laidOutB Tryz.prog = true := by kernel_rfl
theorem et : Tryz.prog.globalNamed "errors.errorType" = some 0 := by kernel_rfl
theorem rt : (Tryz.prog.cutTypes.find? (·.1 == "internal/reflectlite.rtype")).map (·.2) = some 116 := by kernel_rfl
theorem oneRow : ((List.range 280).filter fun t => Tryz.prog.rowNamed t [101, 114, 114, 111, 114]) = [38] := by kernel_rfl
theorem tsize : Tryz.prog.types.size = 280 := by kernel_rfl
theorem ptype : (Tryz.prog.globals[4]?).map (·.type) = some 238 := by kernel_rfl
theorem c147 : Tryz.prog.cellsOf 68 = 1 := by kernel_rfl
theorem c278 : Tryz.prog.cellsOf 238 = 20 := by kernel_rfl
theorem laidMet_tail {P : Program} {W : World} {n : String} {d : DataW Unit} {r : List (String × DataW Unit)} (h : laidMet P ((n, d) :: r) W) : laidMet P r W := by
  obtain ⟨ps, ⟨g, t, cs, fuel, p, q, _, _, _, _, hq, rfl⟩, hn, hall⟩ := h
  exact ⟨q, hq, (List.nodup_append.1 hn).2.1, fun b off hb => hall b off (List.mem_append.2 (.inr hb))⟩
def deb64 : List Int := [0, 1, 56, 2, 57, 49, 28, 3, 61, 58, 42, 50, 38, 29, 17, 4, 62, 47, 59, 36, 45, 43, 51, 22, 53, 39, 33, 30, 24, 18, 12, 5, 63, 55, 48, 27, 60, 41, 37, 16, 46, 35, 44, 21, 52, 32, 23, 11, 54, 26, 40, 15, 34, 20, 31, 10, 25, 14, 19, 9, 13, 8, 7, 6]
def dataRows : List (String × DataW Unit) := [("math/bits.deBruijn32tab", Rows.laid_math_bits_deBruijn32tab), ("math/bits.deBruijn64tab", Lib.tabData .u8 deb64), ("internal/strconv.uint64pow10", Lib.tabData .u64 Lib.pow10Tab), ("strconv.ErrRange", Rows.laid_strconv_ErrRange), ("strconv.ErrSyntax", Rows.laid_strconv_ErrSyntax)]
def handleRows : List (String × DataW Unit) := [("errors.errorType", Rows.laid_errors_errorType)]
theorem parts_of {W : World} (h : laidMetH Tryz.prog Rows.stageFlatsRow.laid W) : laidMet Tryz.prog dataRows W ∧ handlesMet Tryz.prog handleRows W := h
theorem handle_of_laid {W : World} (h : laidMetH Tryz.prog Rows.stageFlatsRow.laid W) : W.cell? ⟨0, 0, none⟩ = some (.iface 116 (.agg #[.pointer (some ⟨7, 38, none⟩)])) := by
  obtain ⟨name, u, ty, e1, e2, e3, e4, e5⟩ := (parts_of h).2 _ (List.mem_singleton.2 rfl)
  have en : name = [101, 114, 114, 111, 114] := (Option.some.inj e1).symm
  subst en
  obtain rfl := Option.some.inj (rt.symm.trans e2)
  have hm : ty ∈ (List.range 280).filter fun t => Tryz.prog.rowNamed t [101, 114, 114, 111, 114] := List.mem_filter.2 ⟨List.mem_range.2 (by rw [← tsize]; exact e3), e4⟩
  rw [oneRow] at hm
  obtain rfl := List.mem_singleton.1 hm
  have hh : typeHandle Tryz.prog 38 = .pointer (some ⟨7, 38, none⟩) := by kernel_rfl
  rw [hh] at e5
  simpa using World.var?_cell et e5 0
theorem tab_of_laid {W : World} (h : laidMetH Tryz.prog Rows.stageFlatsRow.laid W) : Tab W :=
  Lib.tabIs_of_head pow_at ptype Tryz.underlying238 Tryz.underlying68 c147 c278 (laidMet_tail (laidMet_tail (parts_of h).1))
theorem shapedMx {W : World} (h : W.ShapedOpen Tryz.prog) : Mx W :=
  Go.Proofs.cell_of_shapedOpen_int (zero := #[.int .i64 0]) (t := 3) h (of_decide_eq_true (by kernel_rfl)) (by kernel_rfl) rfl (by kernel_rfl) (by kernel_rfl) Tryz.underlying3
theorem cell_lt {w : World} {a : Addr} {v : Value} (h : w.cell? a = some v) : a.block < w.heap.size := by
  rcases Nat.lt_or_ge a.block w.heap.size with h' | h'
  · exact h'
  · simp [World.cell?, Array.getElem?_eq_none h'] at h
theorem bytes5 : Tryz.prog.bytesOf 5 = 1 := by kernel_rfl
theorem lits_len {H : Type} (k : IntKind) (l : List Int) : (lits (H := H) k l).length = l.length := by simp [lits]
def One (W : World) (v : Value) (t : Option Addr × Nat × List Int) : Prop :=
  v = .slice t.1 t.2.2.length t.2.1 ∧ IsB t.2.2 ∧ Sl W t.1 t.2.1 t.2.2
theorem sl_nil (W : World) : Sl W none 0 [] := ⟨Nat.le_refl _, (fun h => by cases h), fun _ => rfl⟩
theorem open_one {H : Type} {enc : TypeId × Value → H} {W : World} {m : Nat} {v : Value} {y : DataW H × List MemPlace} (h : DataW.trod enc Tryz.prog W 0 (fun _ => true) true m 26 [v] = some y) :
    ∃ t, One W v t ∧ (t.2.2.length = 0 ∨ ∃ n, n ∈ y.1.weights Tryz.prog 26 ∧ t.2.2.length ≤ n) := by
  rcases open_ints Tryz.underlying26 Tryz.underlying5 (by kernel_rfl) h with ⟨hcs, _⟩ | ⟨x, l, c, zs, hcs, _, hl, hm, hz, hy, hcell, hwz⟩
  · simp only [List.cons.injEq, and_true] at hcs
    subst hcs
    exact ⟨(none, 0, []), ⟨rfl, (fun x hx => by cases hx), sl_nil W⟩, .inl rfl⟩
  · simp only [List.cons.injEq, and_true] at hcs
    subst hcs
    simp only [if_true] at hz
    have hlen : (zs.take l).length = l := by rw [List.length_take]; omega
    refine ⟨(some x, c, zs.take l), ⟨by rw [hlen], ?_, by rw [hlen]; exact hl, ?_, fun h => by cases h⟩, .inr ⟨c, ?_, by rw [hlen]; exact hl⟩⟩
    · intro n hn
      have := bounds_u8 (hwz n (List.mem_of_mem_take hn))
      omega
    · intro hpos
      rw [hlen] at hpos
      obtain ⟨b, off, spot⟩ := x
      have hc := hcell 0 (by omega)
      have hspot : spot = none := by simpa [Addr.add] using World.cell?_spot hc
      subst hspot
      refine ⟨b, off, rfl, cell_lt hc, fun i hi => ?_⟩
      rw [hlen] at hi
      have := hcell i (by omega)
      rw [addr_add] at this
      rw [this]
      simp [hi]
    · rw [hy]
      simp only [DataW.weights, Tryz.underlying26, lits_len, bytes5, List.mem_cons]
      left
      rw [List.length_take, List.length_drop]; omega
theorem trod_iface {H : Type} {enc : TypeId × Value → H} {P : Program} {w : World} {base : Nat} {spare : Nat → Bool} {held : Bool} {fuel : Nat} {t : TypeId} {cs : List Value} {x : DataW H × List MemPlace} {ms : Array (String × TypeId)} (ht : P.underlying t = some (.interface ms))
    (h : DataW.trod enc P w base spare held fuel t cs = some x) : cs = [.nilIface] ∨ ∃ u v, cs = [.iface u v] := by
  cases fuel with
  | zero => simp [DataW.trod] at h
  | succ n =>
    unfold DataW.trod at h
    rw [ht] at h
    split at h <;> simp_all
theorem iface_of_laid {P : Program} {W : World} {n : String} {d : DataW Unit} {r : List (String × DataW Unit)} {g : Nat} {t : TypeId} {ms : Array (String × TypeId)} (hg : P.globalNamed n = some g) (ht : (P.globals[g]?).map (·.type) = some t) (hu : P.underlying t = some (.interface ms))
    (h : laidMet P ((n, d) :: r) W) : ∃ ev, W.cell? ⟨g, 0, none⟩ = some ev ∧ (ev = .nilIface ∨ ∃ te pe, ev = .iface te pe) := by
  obtain ⟨ps, ⟨g', t', cs, fuel, p, q, e1, e2, e3, e4, hq, rfl⟩, hn, hall⟩ := h
  obtain rfl := Option.some.inj (hg.symm.trans e1)
  obtain rfl := Option.some.inj (ht.symm.trans e2)
  have hc := World.var?_cell hg e3 0
  rcases trod_iface hu e4 with h | ⟨u, v, h⟩
  · have : cs = #[.nilIface] := Array.toList_inj.1 (by simpa using h)
    subst this
    exact ⟨_, by simpa using hc, .inl rfl⟩
  · have : cs = #[.iface u v] := Array.toList_inj.1 (by simpa using h)
    subst this
    exact ⟨_, by simpa using hc, .inr ⟨u, v, rfl⟩⟩
theorem g5 : Tryz.prog.globalNamed "strconv.ErrSyntax" = some 2 := by kernel_rfl
theorem g6 : Tryz.prog.globalNamed "strconv.ErrRange" = some 3 := by kernel_rfl
theorem t5 : (Tryz.prog.globals[2]?).map (·.type) = some 38 := by kernel_rfl
theorem t6 : (Tryz.prog.globals[3]?).map (·.type) = some 38 := by kernel_rfl
theorem ers_of_laid {W : World} (h : laidMetH Tryz.prog Rows.stageFlatsRow.laid W) : Ers W := by
  have h4 := laidMet_tail (laidMet_tail (laidMet_tail (parts_of h).1))
  exact ⟨iface_of_laid g5 t5 Tryz.underlying38 (laidMet_tail h4), iface_of_laid g6 t6 Tryz.underlying38 h4⟩
theorem deb_at : Tryz.prog.globalNamed "math/bits.deBruijn64tab" = some 6 := by kernel_rfl
theorem dtype : (Tryz.prog.globals[6]?).map (·.type) = some 154 := by kernel_rfl
theorem c5 : Tryz.prog.cellsOf 5 = 1 := by kernel_rfl
theorem c182 : Tryz.prog.cellsOf 154 = 64 := by kernel_rfl
theorem db_of_laid {W : World} (h : laidMetH Tryz.prog Rows.stageFlatsRow.laid W) : Db W := by
  have ht : Lib.TabIs Tryz.prog W "math/bits.deBruijn64tab" .u8 deb64 := Lib.tabIs_of_head deb_at dtype Tryz.underlying154 Tryz.underlying5 c5 c182 (laidMet_tail (parts_of h).1)
  exact ⟨by simpa [deb64] using World.var?_cell deb_at ht 7⟩
open Go.Proofs.YtikmbjfambjmaaaGreatDoor.Gr
theorem ints_of {p : Int → Prop} : ∀ cs : List Value, (∀ i, i < cs.length → ∃ n, cs[i]? = some (.int .u8 n) ∧ p n) → ∃ zs : List Int, cs = row .u8 zs ∧ zs.length = cs.length ∧ ∀ n ∈ zs, p n
  | [], _ => ⟨[], rfl, rfl, fun n hn => by cases hn⟩
  | v :: r, h => by
    obtain ⟨n, e, hp⟩ := h 0 (by simp)
    obtain ⟨zs, e2, e3, e4⟩ := ints_of r (fun i hi => by
      obtain ⟨m, f1, f2⟩ := h (i + 1) (by simpa using hi)
      exact ⟨m, by simpa using f1, f2⟩)
    have ev : v = .int .u8 n := by simpa using e
    refine ⟨n :: zs, by rw [ev, e2]; rfl, by simp [e3], fun m hm => ?_⟩
    rcases List.mem_cons.1 hm with rfl | hm
    · exact hp
    · exact e4 m hm
theorem cells42 : Tryz.prog.cellsOf 24 = 20 := by kernel_rfl
set_option maxRecDepth 100000 in
theorem open_id {H : Type} {enc : TypeId × Value → H} {W : World} {m : Nat} {cs : List Value} {y : DataW H × List MemPlace} (h : DataW.trod enc Tryz.prog W 0 (fun _ => true) true m 24 cs = some y) :
    ∃ zs : List Int, cs = row .u8 zs ∧ zs.length = 20 ∧ ∀ n ∈ zs, 0 ≤ n ∧ n < 256 := by
  obtain ⟨xs, k, _, _, hl, hx, hf⟩ := DataW.trod_array Tryz.underlying24 h
  rw [cells42] at hl
  obtain ⟨zs, e1, e2, e3⟩ := ints_of (p := fun n => 0 ≤ n ∧ n < 256) cs (fun i hi => by
    have hi20 : i < 20 := by omega
    have h1 := hf i hi20
    rw [c5, Nat.mul_one, List.getElem?_eq_getElem (by omega)] at h1
    obtain ⟨n, e, _, hw⟩ := DataW.trod_int Tryz.underlying5 h1
    refine ⟨n, ?_, ?_⟩
    · have h2 : (List.take 1 (List.drop i cs))[0]? = some (.int .u8 n) := by rw [e]; rfl
      rw [List.getElem?_take_of_lt (by omega), List.getElem?_drop, Nat.add_zero] at h2
      exact h2
    · have := bounds_u8 hw
      omega)
  exact ⟨zs, e1, by omega, e3⟩
set_option maxRecDepth 100000 in
theorem open_arg {H : Type} {enc : TypeId × Value → H} {W : World} {base : Nat} {v : Value} {d : DataW H} {ps : List MemPlace} (hv : Value.okWide Tryz.prog W .any base 24 v) (h : DataW.Trod enc Tryz.prog W 0 (fun _ => true) true 24 v d ps) : ∃ y, v = idV y ∧ IdW y := by
  unfold Value.okWide at hv
  rw [Tryz.underlying24] at hv
  obtain ⟨cs, rfl, _, _⟩ := hv
  obtain ⟨m, hm⟩ := h
  obtain ⟨zs, e1, e2, e3⟩ := open_id (y := (d, ps)) hm
  refine ⟨zs, ?_, e2, e3⟩
  have e4 : cs.toList = row .u8 zs := e1
  unfold idV
  congr 1
  exact Array.toList_inj.1 e4
theorem cellsK : Tryz.prog.cellsOf 25 = 1 := by kernel_rfl
theorem cellsB : Tryz.prog.cellsOf 26 = 1 := by kernel_rfl
theorem cellsO : Tryz.prog.cellsOf 28 = 2 := by kernel_rfl
set_option maxRecDepth 100000 in
theorem open_obj {H : Type} {enc : TypeId × Value → H} {W : World} {m : Nat} {cs : List Value} {y : DataW H × List MemPlace} (h : DataW.trod enc Tryz.prog W 0 (fun _ => true) true m 28 cs = some y) :
    ∃ (k : Int) (v : Value) (t : Option Addr × Nat × List Int), cs = [.int .i64 k, v] ∧ One W v t ∧ (t.2.2.length = 0 ∨ ∃ n, n ∈ y.1.weights Tryz.prog 28 ∧ t.2.2.length ≤ n) := by
  obtain ⟨y0, y1, q, hy, hlen, u0, u1⟩ := trod_struct2 Tryz.underlying28 h
  rw [cellsO] at hlen
  match cs, hlen with
  | [v0, v1], _ =>
    simp only [cellsK, cellsB, List.drop, List.take] at u0 u1
    obtain ⟨k, e0, _⟩ := DataW.trod_int Tryz.underlying25 u0
    simp only [List.cons.injEq, and_true] at e0
    subst e0
    obtain ⟨t, ho, hb⟩ := open_one u1
    refine ⟨k, v1, t, rfl, ho, ?_⟩
    rcases hb with hb | ⟨n, h1, h2⟩
    · exact .inl hb
    · refine .inr ⟨n, ?_, h2⟩
      rw [hy]
      simp only [DataW.weights, Tryz.underlying28, List.map_cons, List.map_nil, DataW.weightsEach, List.mem_append]
      exact .inr (.inl h1)
theorem mem_all {H : Type} {P : Program} {e : TypeId} {d : DataW H} {n : Nat} : ∀ {l : List (DataW H)}, d ∈ l → n ∈ d.weights P e → n ∈ DataW.weightsAll P e l
  | x :: r, h, hn => by
    rw [DataW.weightsAll, List.mem_append]
    rcases List.mem_cons.1 h with rfl | h
    · exact .inl hn
    · exact .inr (mem_all h hn)
theorem list_ofO {p : Nat → Oj → Prop} : ∀ n : Nat, (∀ i, i < n → ∃ z, p i z) → ∃ l : List Oj, l.length = n ∧ ∀ i, i < n → p i (l.getD i dO)
  | 0, _ => ⟨[], rfl, fun i hi => by omega⟩
  | n + 1, h => by
    obtain ⟨l, h1, h2⟩ := list_ofO n (fun i hi => h i (by omega))
    obtain ⟨z, hz⟩ := h n (by omega)
    refine ⟨l ++ [z], by simp [h1], fun i hi => ?_⟩
    rcases Nat.lt_or_ge i n with h3 | h3
    · have e : (l ++ [z]).getD i dO = l.getD i dO := by
        rw [List.getD_eq_getElem?_getD, List.getD_eq_getElem?_getD, List.getElem?_append_left (by omega)]
      rw [e]
      exact h2 i h3
    · have e : i = n := by omega
      subst e
      have e2 : (l ++ [z]).getD i dO = z := by
        rw [List.getD_eq_getElem?_getD, List.getElem?_append_right (by omega), h1, Nat.sub_self]
        rfl
      rw [e2]
      exact hz
structure FitO (W : World) (z : Oj) : Prop where
  len : z.zs.length ≤ 200000000000000
  isb : IsB z.zs
  sl : Sl W z.a z.cap z.zs
set_option maxRecDepth 100000 in
theorem open_objs {H : Type} {enc : TypeId × Value → H} {W : World} {m : Nat} {v : Value} {y : DataW H × List MemPlace} (h : DataW.trod enc Tryz.prog W 0 (fun _ => true) true m 22 [v] = some y)
    (hw : ∀ n ∈ y.1.weights Tryz.prog 22, n ≤ 200000000000000) :
    ∃ (pa : Option Addr) (pc : Nat) (l : List Oj), v = .slice pa l.length pc ∧ Px encO 2 dO W pa pc l ∧ ∀ o ∈ l, FitO W o := by
  rcases Go.Deep.open_slice Tryz.underlying22 h with ⟨h0, _⟩ | ⟨a, len, cap, m, n, D, Pl, hc, hb, hl, hm, hmm, rfl, hx⟩
  · simp only [List.cons.injEq, and_true] at h0
    subst h0
    exact ⟨none, 0, [], rfl, ⟨Nat.le_refl _, (fun h => by cases h), fun _ => rfl⟩, (fun x hx => by cases hx)⟩
  · simp only [List.cons.injEq, and_true] at hc
    subst hc
    simp only [if_true] at hmm
    obtain ⟨b, off, spot⟩ := a
    obtain ⟨l, h1, h2⟩ := list_ofO (p := fun i z => FitO W z ∧ ∀ j v, (encO z)[j]? = some v → W.cell? (((⟨b, off, spot⟩ : Addr).add (i * 2)).add j) = some v) len (fun i hi => by
      obtain ⟨cs', g1, g2⟩ := hx i (by omega)
      rw [cellsO] at g1
      obtain ⟨_, hlen, hcell⟩ := World.cells?_some g1
      obtain ⟨k, v, t, e1, ⟨o1, o2, o3⟩, e3⟩ := open_obj g2
      refine ⟨⟨k, t.1, t.2.1, t.2.2⟩, ⟨?_, o2, o3⟩, fun j u hu => ?_⟩
      · rcases e3 with e3 | ⟨n', e3, e4⟩
        · show t.2.2.length ≤ _; omega
        · refine Nat.le_trans e4 (hw _ ?_)
          simp only [DataW.weights, Tryz.underlying22, List.mem_cons, List.mem_append]
          right; left
          exact mem_all (d := D i) (List.mem_map.2 ⟨i, List.mem_range.2 hi, rfl⟩) e3
      have hj : j < 2 := (List.getElem?_eq_some_iff.1 hu).1
      rw [hcell j hj, e1, o1]
      exact hu)
    have hw2 : ∀ x ∈ l, FitO W x := fun x hx => by
      obtain ⟨i, hi, e⟩ := List.getElem_of_mem hx
      have := (h2 i (by omega)).1
      rw [List.getD_eq_getElem?_getD, List.getElem?_eq_getElem hi] at this
      simp only [Option.getD_some] at this
      rw [e] at this
      exact this
    refine ⟨some ⟨b, off, spot⟩, cap, l, by rw [h1], ⟨by rw [h1]; exact hl, fun h0 => ?_, fun e => by cases e⟩, hw2⟩
    rw [h1] at h0
    have c0 : W.cell? (((⟨b, off, spot⟩ : Addr).add (0 * 2)).add 0) = some (.int .i64 (l.getD 0 dO).k) := (h2 0 h0).2 0 _ rfl
    have hspot : spot = none := by simpa [Addr.add] using World.cell?_spot c0
    subst hspot
    refine ⟨b, off, rfl, ?_, fun i hi j v hv => ?_⟩
    · have := cell_lt c0
      simpa [Addr.add] using this
    · rw [h1] at hi
      have := (h2 i hi).2 j v hv
      rw [addr_add, addr_add] at this
      exact this
theorem params3 : Tryz.f3.params = #[22, 3, 24] := by kernel_rfl
set_option maxRecDepth 100000 in
theorem contract (H : Type) (enc : TypeId × Value → H) (W : World) (base : Nat) (args : Array Value) (ds gs : List (DataW H)) (before : List MemPlace)
    (hval : ∀ (j : Nat) t v, Tryz.f3.params[j]? = some t → args[j]? = some v → Value.okWide Tryz.prog W .any base t v)
    (hW : DataW.Whole enc Tryz.prog Tryz.f3.params.toList Rows.stageFlatsSpec.vars false W args.toList ds gs before)
    (hsz : (DataW.weightsEach Tryz.prog (Tryz.f3.params.toList ++ (OpenSpec.ofChange Rows.stageFlatsSpec).bare.plain.varTypes Tryz.prog) (ds ++ gs)).all (· ≤ reachBytes) = true)
    (hL : laidMetH Tryz.prog Rows.stageFlatsRow.laid W) (hsh : W.ShapedOpen Tryz.prog) :
    Calls Tryz.prog 3 args W fun e W' => ∃ v, e = .returned v ∧ Rows.stageFlatsSpec.post enc Tryz.prog Tryz.f3 false true false false W args v W' := by
  have hW' := hW
  obtain ⟨p, q, hA0, hV, rfl, hfz, hnd⟩ := hW
  have hA : DataW.TrodAll enc Tryz.prog W 0 (fun _ => true) true Tryz.f3.params.toList args.toList ds p := hA0
  rw [params3] at hA hval hsz
  obtain ⟨v0, vs0, d0, ds0, p0, q0, hargs, rfl, rfl, h0, r0⟩ := trodAll_cons hA
  obtain ⟨v1, vs1, d1, ds1, p1, q1, rfl, rfl, rfl, h1, r1⟩ := trodAll_cons r0
  obtain ⟨v2, vs2, d2, ds2, p2, q2, rfl, rfl, rfl, h2, r2⟩ := trodAll_cons r1
  obtain ⟨rfl, rfl, rfl⟩ := trodAll_nil r2
  obtain rfl : args = #[v0, v1, v2] := by cases args; simp_all
  obtain ⟨rfl, rfl⟩ := trodVars_none hV
  have k0 := h0
  have k1 := h1
  have k2 := h2
  have lt0 : ∀ x ∈ p0, x.block < W.heap.size := by obtain ⟨m, hm⟩ := k0; exact DataW.trod_lt m _ _ _ hm
  have lt1 : ∀ x ∈ p1, x.block < W.heap.size := by obtain ⟨m, hm⟩ := k1; exact DataW.trod_lt m _ _ _ hm
  have lt2 : ∀ x ∈ p2, x.block < W.heap.size := by obtain ⟨m, hm⟩ := k2; exact DataW.trod_lt m _ _ _ hm
  have hm : ∀ n, n ∈ d0.weights Tryz.prog 22 → n ≤ 200000000000000 := by
    intro n hn
    have := of_decide_eq_true (List.all_eq_true.1 hsz n (by
      show n ∈ DataW.weightsEach Tryz.prog ([22, 3, 24] ++ _) ([d0, d1, d2] ++ [])
      simp only [List.cons_append, List.nil_append, List.append_nil, DataW.weightsEach, List.mem_append]
      exact .inl hn))
    unfold reachBytes at this
    omega
  obtain ⟨a0, n0, c0, rfl⟩ := okWide_slice Tryz.underlying22 (hval 0 22 v0 rfl rfl)
  obtain ⟨pick, rfl⟩ := okWide_int Tryz.underlying3 (hval 1 3 v1 rfl rfl)
  obtain ⟨a, cap, os, e0, hpx, hfit⟩ : ∃ (pa : Option Addr) (pc : Nat) (l : List Oj), Value.slice a0 n0 c0 = .slice pa l.length pc ∧ Px encO 2 dO W pa pc l ∧ ∀ o ∈ l, FitO W o := by
    obtain ⟨fuel, hf⟩ := h0
    exact open_objs (y := (d0, p0)) hf hm
  obtain ⟨y, e2, hy⟩ := open_arg (hval 2 24 v2 rfl rfl) h2
  clear hA0
  have hlv : Lv W := ⟨⟨tab_of_laid hL, db_of_laid hL, ers_of_laid hL, shapedMx hsh⟩, handle_of_laid hL⟩
  have walk : Calls Tryz.prog 3 #[.slice a0 n0 c0, .int .i64 pick, v2] W fun e w' => e = .returned (.bool true) ∧ Below W.heap.size W w' := by
    rw [e0, e2]
    by_cases hl : 60 < os.length
    · exact walkF_many _ _ _ _ _ W hl
    · exact walkF a cap os W hpx (fun o ho => (hfit o ho).sl) (fun o ho => (hfit o ho).isb) (fun o ho => (hfit o ho).len) (by omega) hlv pick y hy
  refine walk.mono fun e W' ⟨he, bel⟩ => ?_
  subst he
  exact ⟨_, rfl, _, _, _, [], _, [], hW', trodAll_mk1 (shut_bool Tryz.underlying4 _), (trodAll_cons_mk (Below.trod laidOut (by kernel_rfl) (of_decide_eq_true (by kernel_rfl)) k0 bel lt0) (trodAll_cons_mk (Below.trod laidOut (by kernel_rfl) (of_decide_eq_true (by kernel_rfl)) k1 bel lt1) (trodAll_cons_mk (Below.trod laidOut (by kernel_rfl) (of_decide_eq_true (by kernel_rfl)) k2 bel lt2) trodAll_mk0))), rfl, bel.frame _, fun h => by cases h⟩
def relay (cs : Array Value) : Obj → Obj
  | .cells _ t frozen => .cells cs t frozen
  | o => o
def layIn (w : World) : World :=
  { w with heap := ((((((w.heap.modify 0 (relay #[.iface 116 (.agg #[.pointer (some ⟨7, 38, none⟩)])])).modify 4 (relay #[.int .u64 1, .int .u64 10, .int .u64 100, .int .u64 1000, .int .u64 10000, .int .u64 100000, .int .u64 1000000, .int .u64 10000000, .int .u64 100000000, .int .u64 1000000000, .int .u64 10000000000, .int .u64 100000000000, .int .u64 1000000000000, .int .u64 10000000000000, .int .u64 100000000000000, .int .u64 1000000000000000, .int .u64 10000000000000000, .int .u64 100000000000000000, .int .u64 1000000000000000000, .int .u64 10000000000000000000])).modify 5 (relay #[.int .u8 0, .int .u8 1, .int .u8 28, .int .u8 2, .int .u8 29, .int .u8 14, .int .u8 24, .int .u8 3, .int .u8 30, .int .u8 22, .int .u8 20, .int .u8 15, .int .u8 25, .int .u8 17, .int .u8 4, .int .u8 8, .int .u8 31, .int .u8 27, .int .u8 13, .int .u8 23, .int .u8 21, .int .u8 19, .int .u8 16, .int .u8 7, .int .u8 26, .int .u8 12, .int .u8 18, .int .u8 6, .int .u8 11, .int .u8 5, .int .u8 10, .int .u8 9])).modify 6 (relay #[.int .u8 0, .int .u8 1, .int .u8 56, .int .u8 2, .int .u8 57, .int .u8 49, .int .u8 28, .int .u8 3, .int .u8 61, .int .u8 58, .int .u8 42, .int .u8 50, .int .u8 38, .int .u8 29, .int .u8 17, .int .u8 4, .int .u8 62, .int .u8 47, .int .u8 59, .int .u8 36, .int .u8 45, .int .u8 43, .int .u8 51, .int .u8 22, .int .u8 53, .int .u8 39, .int .u8 33, .int .u8 30, .int .u8 24, .int .u8 18, .int .u8 12, .int .u8 5, .int .u8 63, .int .u8 55, .int .u8 48, .int .u8 27, .int .u8 60, .int .u8 41, .int .u8 37, .int .u8 16, .int .u8 46, .int .u8 35, .int .u8 44, .int .u8 21, .int .u8 52, .int .u8 32, .int .u8 23, .int .u8 11, .int .u8 54, .int .u8 26, .int .u8 40, .int .u8 15, .int .u8 34, .int .u8 20, .int .u8 31, .int .u8 10, .int .u8 25, .int .u8 14, .int .u8 19, .int .u8 9, .int .u8 13, .int .u8 8, .int .u8 7, .int .u8 6])).modify 2 (relay #[.iface 242 (.pointer (some ⟨w.heap.size, 0, none⟩))])).modify 3 (relay #[.iface 242 (.pointer (some ⟨w.heap.size + 1, 0, none⟩))])) ++ #[.cells #[.string ⟨#[105, 110, 118, 97, 108, 105, 100, 32, 115, 121, 110, 116, 97, 120]⟩] 244, .cells #[.string ⟨#[118, 97, 108, 117, 101, 32, 111, 117, 116, 32, 111, 102, 32, 114, 97, 110, 103, 101]⟩] 244] }
def wit : Array Value := #[.slice none 0 0, .int .i64 0, .agg (row .u8 z20).toArray]
theorem laid_met (os : Os) : laidMetH Tryz.prog Rows.stageFlatsRow.laid ((layIn (World.holding Tryz.prog os ⟨#[], #[], []⟩)).forCall (fun _ _ => 0) ⟨#[], wit, []⟩).memory :=
  laidMetH_of_parts (laidMet_of_run' 8 (by kernel_rfl) (by kernel_rfl)) (by kernel_rfl)
theorem reads (os : Os) {H : Type} (enc : TypeId × Value → H) : ∃ ds places, DataW.whole enc Tryz.prog ((layIn (World.holding Tryz.prog os ⟨#[], #[], []⟩)).forCall (fun _ _ => 0) ⟨#[], wit, []⟩).memory Tryz.f3.params.toList Rows.stageFlatsSpec.vars false wit.toList 8 = some (ds, [], places) :=
  ⟨[.nil, .lit (.int .i64 0), .agg (List.replicate 20 (.lit (.int .u8 0)))], [], by kernel_rfl⟩
set_option maxRecDepth 100000 in
theorem lifted (os : Os) (started : os.Started) (H : Type) (enc : TypeId × Value → H) (F : Stop.Interp) :
    ReturnsInHanded {} Tryz.checked os 3 .any ((OpenSpec.ofChange Rows.stageFlatsSpec).preRow enc Tryz.prog Tryz.f3 Rows.stageFlatsRow.domain false Rows.stageFlatsRow.laid) (((OpenSpec.ofChange Rows.stageFlatsSpec).at F).post enc Tryz.prog Tryz.f3 false true false false) := by
  obtain ⟨ds, places, hx⟩ := reads os enc
  refine returnsInHanded_of_row (C := Tryz.checked) (s := OpenSpec.ofChange Rows.stageFlatsSpec) own started (by kernel_rfl) Tryz.func3
    (witness_row_at (enc := enc) (C := Tryz.checked) false (layIn (World.holding Tryz.prog os ⟨#[], #[], []⟩)) wit rfl (by kernel_rfl) (by kernel_rfl) (by kernel_rfl)
      (OpenSpec.preRow_of_cond 8 hx (by kernel_rfl) (fun k hk => by cases hk) (by kernel_rfl) (laid_met os))) ?_
  intro W base args ds gs before hval hW _ _ hsz hL hsh _
  exact contract H enc W base args ds gs before hval hW hsz hL hsh
theorem said : Rows.StageFlatsSaid :=
  OpenClaim.holds_of_cond 3 Tryz.f3 rfl rfl rfl rfl rfl rfl rfl ⟨rfl, rfl, rfl, rfl, rfl⟩ rfl rfl rfl rfl rfl (by kernel_rfl) Tryz.func3 (by kernel_rfl)
    (of_decide_eq_true (by kernel_rfl)) (by unfold Func.isWrapper; first | (rw [if_pos (by decide +kernel)]; kernel_rfl) | (rw [if_neg (by decide +kernel)]; exact ⟨rfl, rfl⟩))
    (fun os started H enc _ F => by rw [OpenClaim.pre_eq_preRow]; exact lifted os started H enc F)
theorem plain (f : FuncId) (fn : Func) (hf : Tryz.pinned.checked.prog.funcNamed "gitlike/gitlikelaw8.StageFlats" = some f) (hfn : Tryz.pinned.checked.prog.funcs[f]? = some fn) :
    true = Tryz.pinned.checked.prog.looks [] ∧ ∀ (j : Nat) t, fn.params[j]? = some t → Tryz.pinned.checked.prog.wantsStandIn t = false := by
  obtain rfl : f = 3 := Option.some.inj ((show Tryz.prog.funcNamed "gitlike/gitlikelaw8.StageFlats" = some 3 by kernel_rfl).symm.trans hf) |>.symm
  obtain rfl : fn = Tryz.f3 := (Option.some.inj (Tryz.func3.symm.trans hfn)).symm
  refine ⟨by kernel_rfl, fun j t ht => ?_⟩
  rw [params3] at ht
  have hm : t = 22 ∨ t = 3 ∨ t = 24 := by simpa using Array.mem_of_getElem? ht
  rcases hm with rfl | rfl | rfl
  · exact (show Tryz.prog.wantsStandIn 22 = false by kernel_rfl)
  · exact (show Tryz.prog.wantsStandIn 3 = false by kernel_rfl)
  · exact (show Tryz.prog.wantsStandIn 24 = false by kernel_rfl)
end Go.Proofs.YtikmbjfambjmaaaGreatDoor.Gr.Flats
namespace Go.Proofs.YtikmbjfambjmaaaGreatDoor
theorem stageFlats_card : Rows.StageFlatsCardSaid :=
  Claim7.holds_tied_plain_at .later [] _ _ _ _ Gr.Flats.said (fun _ h => by cases h) (by kernel_rfl) (fun _ h => by cases h) stageFlats_row_tie rfl ⟨rfl, rfl⟩ (by kernel_rfl) rfl Gr.Flats.plain (by kernel_rfl)
#print axioms stageFlats_card
end Go.Proofs.YtikmbjfambjmaaaGreatDoor
