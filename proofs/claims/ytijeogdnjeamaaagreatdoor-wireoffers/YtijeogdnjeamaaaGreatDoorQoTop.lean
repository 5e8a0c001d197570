import Derived.Test.YtijeogdnjeamaaaGreatDoorQo18
import Derived.Test.YtijeogdnjeamaaaGreatDoorCards
import Derived.Test.YtijeogdnjeamaaaGreatDoorTie
import Derived.WalkKit
import Derived.ProofKit
import Derived.OpenShut
import Derived.Below
import Derived.Deep.DeepHandedRow
import Derived.Lib.LaidTab
import Derived.LaidLaws
import Derived.LaidHandle
import Derived.ChangeSame
import Derived.WideKeyArr2
import Derived.ChangeMaps5
import Derived.Deep.Slices
namespace Go.Proofs.YtijeogdnjeamaaaGreatDoor.Offers
open Go.ChangeShapes Go.WideShapes Go.ChangeAt Go.RowKit
set_option linter.unusedVariables false
set_option linter.unusedSectionVars false
theorem own : ownKnob Tryz.prog.godebug = none := by kernel_rfl
theorem laidOut : laidOutB Tryz.prog = true := by kernel_rfl
theorem et : Tryz.prog.globalNamed "errors.errorType" = some 0 := by kernel_rfl
theorem rt : (Tryz.prog.cutTypes.find? (·.1 == "internal/reflectlite.rtype")).map (·.2) = some 166 := by kernel_rfl
theorem oneRow : ((List.range 296).filter fun t => Tryz.prog.rowNamed t [101, 114, 114, 111, 114]) = [27] := by kernel_rfl
theorem tsize : Tryz.prog.types.size = 296 := by kernel_rfl
theorem params3 : Tryz.f3.params = #[24, 25] := by kernel_rfl
theorem laidMet_tail {P : Program} {W : World} {n : String} {d : DataW Unit} {r : List (String × DataW Unit)} (h : laidMet P ((n, d) :: r) W) : laidMet P r W := by
  obtain ⟨ps, ⟨g, t, cs, fuel, p, q, _, _, _, _, hq, rfl⟩, hn, hall⟩ := h
  exact ⟨q, hq, (List.nodup_append.1 hn).2.1, fun b off hb => hall b off (List.mem_append.2 (.inr hb))⟩
def deb64 : List Int := [0, 1, 56, 2, 57, 49, 28, 3, 61, 58, 42, 50, 38, 29, 17, 4, 62, 47, 59, 36, 45, 43, 51, 22, 53, 39, 33, 30, 24, 18, 12, 5, 63, 55, 48, 27, 60, 41, 37, 16, 46, 35, 44, 21, 52, 32, 23, 11, 54, 26, 40, 15, 34, 20, 31, 10, 25, 14, 19, 9, 13, 8, 7, 6]
def dataRows : List (String × DataW Unit) := [("math/bits.deBruijn32tab", Rows.laid_math_bits_deBruijn32tab), ("math/bits.deBruijn64tab", Lib.tabData .u8 deb64), ("internal/strconv.uint64pow10", Lib.tabData .u64 Lib.pow10Tab), ("unicode/utf8.acceptRanges", Rows.laid_unicode_utf8_acceptRanges), ("strconv.ErrRange", Rows.laid_strconv_ErrRange), ("strconv.ErrSyntax", Rows.laid_strconv_ErrSyntax), ("unicode/utf8.first", Rows.laid_unicode_utf8_first)]
def handleRows : List (String × DataW Unit) := [("errors.errorType", Rows.laid_errors_errorType)]
theorem parts_of {W : World} (h : laidMetH Tryz.prog Rows.wireOffersRow.laid W) : laidMet Tryz.prog dataRows W ∧ handlesMet Tryz.prog handleRows W := h
theorem handle_of_laid {W : World} (h : laidMetH Tryz.prog Rows.wireOffersRow.laid W) : Hg W := by
  obtain ⟨name, u, ty, e1, e2, e3, e4, e5⟩ := (parts_of h).2 _ (List.mem_singleton.2 rfl)
  have en : name = [101, 114, 114, 111, 114] := (Option.some.inj e1).symm
  subst en
  obtain rfl := Option.some.inj (rt.symm.trans e2)
  have hm : ty ∈ (List.range 296).filter fun t => Tryz.prog.rowNamed t [101, 114, 114, 111, 114] := List.mem_filter.2 ⟨List.mem_range.2 (by rw [← tsize]; exact e3), e4⟩
  rw [oneRow] at hm
  obtain rfl := List.mem_singleton.1 hm
  have hh : typeHandle Tryz.prog 27 = .pointer (some ⟨9, 27, none⟩) := by kernel_rfl
  rw [hh] at e5
  have := World.var?_cell et e5 0
  unfold Hg
  simpa using this
theorem trod_iface {H : Type} {enc : TypeId × Value → H} {P : Program} {w : World} {base : Nat} {spare : Nat → Bool} {held : Bool} {fuel : Nat} {t : TypeId} {cs : List Value} {x : DataW H × List MemPlace} {ms : Array (String × TypeId)} (ht : P.underlying t = some (.interface ms))
    (h : DataW.trod enc P w base spare held fuel t cs = some x) : cs = [.nilIface] ∨ ∃ u v, cs = [.iface u v] := by
  cases fuel with
  | zero => simp [DataW.trod] at h
  | succ n =>
    unfold DataW.trod at h
    rw [ht] at h
    split at h <;> simp_all
theorem iface_of_laid {P : Program} {W : World} {n : String} {d : DataW Unit} {r : List (String × DataW Unit)} {g : Nat} {t : TypeId} {ms : Array (String × TypeId)} (hg : P.globalNamed n = some g) (ht : (P.globals[g]?).map (·.type) = some t) (hu : P.underlying t = some (.interface ms))
    (h : laidMet P ((n, d) :: r) W) : ∃ ev, W.cell? ⟨g, 0, none⟩ = some ev ∧ (ev = .nilIface ∨ ∃ te pe, ev = .iface te pe) := by
  obtain ⟨ps, ⟨g', t', cs, fuel, p, q, e1, e2, e3, e4, hq, rfl⟩, hn, hall⟩ := h
  obtain rfl := Option.some.inj (hg.symm.trans e1)
  obtain rfl := Option.some.inj (ht.symm.trans e2)
  have hc := World.var?_cell hg e3 0
  rcases trod_iface hu e4 with h | ⟨u, v, h⟩
  · have : cs = #[.nilIface] := Array.toList_inj.1 (by simpa using h)
    subst this
    exact ⟨_, by simpa using hc, .inl rfl⟩
  · have : cs = #[.iface u v] := Array.toList_inj.1 (by simpa using h)
    subst this
    exact ⟨_, by simpa using hc, .inr ⟨u, v, rfl⟩⟩
theorem g5 : Tryz.prog.globalNamed "strconv.ErrSyntax" = some 3 := by kernel_rfl
theorem g6 : Tryz.prog.globalNamed "strconv.ErrRange" = some 4 := by kernel_rfl
theorem t5 : (Tryz.prog.globals[3]?).map (·.type) = some 27 := by kernel_rfl
theorem t6 : (Tryz.prog.globals[4]?).map (·.type) = some 27 := by kernel_rfl
theorem ers_of_laid {W : World} (h : laidMetH Tryz.prog Rows.wireOffersRow.laid W) : Ers W := by
  have h4 := laidMet_tail (laidMet_tail (laidMet_tail (laidMet_tail (parts_of h).1)))
  exact ⟨iface_of_laid g5 t5 Tryz.underlying27 (laidMet_tail h4), iface_of_laid g6 t6 Tryz.underlying27 h4⟩
theorem deb_at : Tryz.prog.globalNamed "math/bits.deBruijn64tab" = some 8 := by kernel_rfl
theorem dtype : (Tryz.prog.globals[8]?).map (·.type) = some 269 := by kernel_rfl
theorem c5 : Tryz.prog.cellsOf 5 = 1 := by kernel_rfl
theorem c269 : Tryz.prog.cellsOf 269 = 64 := by kernel_rfl
theorem und269 : Tryz.prog.underlying 269 = some (.array 64 5) := by kernel_rfl
theorem db_of_laid {W : World} (h : laidMetH Tryz.prog Rows.wireOffersRow.laid W) : Db W := by
  have ht : Lib.TabIs Tryz.prog W "math/bits.deBruijn64tab" .u8 deb64 := Lib.tabIs_of_head deb_at dtype und269 Tryz.underlying5 c5 c269 (laidMet_tail (parts_of h).1)
  exact ⟨by simpa [deb64] using World.var?_cell deb_at ht 15⟩
theorem cell_lt {w : World} {a : Addr} {v : Value} (h : w.cell? a = some v) : a.block < w.heap.size := by
  rcases Nat.lt_or_ge a.block w.heap.size with h' | h'
  · exact h'
  · simp [World.cell?, Array.getElem?_eq_none h'] at h
theorem bytes5 : Tryz.prog.bytesOf 5 = 1 := by kernel_rfl
theorem lits_len {H : Type} (k : IntKind) (l : List Int) : (lits (H := H) k l).length = l.length := by simp [lits]
theorem bytes_of : ∀ (l : List Int), (∀ n ∈ l, 0 ≤ n ∧ n < 256) → nums (l.map fun z => UInt8.ofNat z.toNat) = l
  | [], _ => rfl
  | x :: l, h => by
    have ih := bytes_of l (fun n hn => h n (by simp [hn]))
    have hx := h x (by simp)
    unfold nums at ih ⊢
    rw [List.map_cons, List.map_cons, ih]
    congr 1
    simp
    omega
theorem open_one {H : Type} {enc : TypeId × Value → H} {W : World} {m : Nat} {v : Value} {y : DataW H × List MemPlace} (h : DataW.trod enc Tryz.prog W 0 (fun _ => true) true m 25 [v] = some y) : ∃ (a : Option Addr) (c : Nat) (s : Str), v = .slice a s.length c ∧ PB W a c s ∧ (s.length = 0 ∨ ∃ n, n ∈ y.1.weights Tryz.prog 25 ∧ s.length ≤ n) := by
  rcases open_ints Tryz.underlying25 Tryz.underlying5 (by kernel_rfl) h with ⟨hcs, _⟩ | ⟨x, l, c, zs, hcs, _, hl, hm, hz, hy, hcell, hwz⟩
  · simp only [List.cons.injEq, and_true] at hcs
    subst hcs
    exact ⟨none, 0, [], rfl, pb_none W, .inl rfl⟩
  · simp only [List.cons.injEq, and_true] at hcs
    subst hcs
    simp only [if_true] at hz
    have hlen : (zs.take l).length = l := by rw [List.length_take]; omega
    have hb : ∀ n ∈ zs.take l, 0 ≤ n ∧ n < 256 := fun n hn => by
      have := bounds_u8 (hwz n (List.mem_of_mem_take hn))
      omega
    obtain ⟨s, hs⟩ : ∃ s : Str, (zs.take l).map (fun z => UInt8.ofNat z.toNat) = s := ⟨_, rfl⟩
    have hn := bytes_of _ hb
    rw [hs] at hn
    have hsl : s.length = l := by rw [← hs, List.length_map, hlen]
    refine ⟨some x, c, s, by rw [hsl], ?_, .inr ⟨c, ?_, by rw [hsl]; exact hl⟩⟩
    rotate_left
    · rw [hy]
      simp only [DataW.weights, Tryz.underlying25, lits_len, bytes5, List.mem_cons]
      left
      rw [List.length_take, List.length_drop]; omega
    by_cases h0 : s.length = 0
    · exact ⟨by omega, fun h => by omega, fun h => by cases h⟩
    · obtain ⟨b, off, spot⟩ := x
      have hc := hcell 0 (by omega)
      have hspot : spot = none := by simpa [Addr.add] using World.cell?_spot hc
      subst hspot
      refine at_pb (cell_lt hc) (by omega) (fun i hi => ?_)
      rw [hn, hlen] at hi
      have := hcell i (by omega)
      rw [addr_add] at this
      rw [this, hn]
      simp [hi]
theorem c210 : Tryz.prog.cellsOf 210 = 1 := by kernel_rfl
theorem shapedMx {W : World} (h : W.ShapedOpen Tryz.prog) : Nm.Mx W :=
  Go.Proofs.cell_of_shapedOpen_int (zero := #[.int .i64 0]) (t := 3) h (of_decide_eq_true (by kernel_rfl)) (by kernel_rfl) rfl (by kernel_rfl) (by kernel_rfl) Tryz.underlying3
theorem cells9 : Tryz.prog.cellsOf 9 = 1 := by kernel_rfl
theorem cells68 : Tryz.prog.cellsOf 68 = 20 := by kernel_rfl
theorem cells70 : Tryz.prog.cellsOf 70 = 21 := by kernel_rfl
theorem cells22 : Tryz.prog.cellsOf 22 = 1 := by kernel_rfl
theorem cells24 : Tryz.prog.cellsOf 24 = 2 := by kernel_rfl
theorem ints_of {p : Int → Prop} : ∀ cs : List Value, (∀ i, i < cs.length → ∃ n, cs[i]? = some (.int .u8 n) ∧ p n) → ∃ zs : List Int, cs = row .u8 zs ∧ zs.length = cs.length ∧ ∀ n ∈ zs, p n
  | [], _ => ⟨[], rfl, rfl, fun n hn => by cases hn⟩
  | v :: r, h => by
    obtain ⟨n, e, hp⟩ := h 0 (by simp)
    obtain ⟨zs, e2, e3, e4⟩ := ints_of r (fun i hi => by
      obtain ⟨m, f1, f2⟩ := h (i + 1) (by simpa using hi)
      exact ⟨m, by simpa using f1, f2⟩)
    have ev : v = .int .u8 n := by simpa using e
    refine ⟨n :: zs, by rw [ev, e2]; rfl, by simp [e3], fun m hm => ?_⟩
    rcases List.mem_cons.1 hm with rfl | hm
    · exact hp
    · exact e4 m hm
theorem open_id {H : Type} {enc : TypeId × Value → H} {W : World} {m : Nat} {cs : List Value} {y : DataW H × List MemPlace} (h : DataW.trod enc Tryz.prog W 0 (fun _ => true) true m 68 cs = some y) :
    ∃ zs : List Int, cs = row .u8 zs ∧ zs.length = 20 ∧ ∀ n ∈ zs, 0 ≤ n ∧ n < 256 := by
  obtain ⟨xs, k, _, _, hl, hx, hf⟩ := DataW.trod_array Tryz.underlying68 h
  rw [cells68] at hl
  obtain ⟨zs, e1, e2, e3⟩ := ints_of (p := fun n => 0 ≤ n ∧ n < 256) cs (fun i hi => by
    have hi20 : i < 20 := by omega
    have h1 := hf i hi20
    rw [c5, Nat.mul_one, List.getElem?_eq_getElem (by omega)] at h1
    obtain ⟨n, e, _, hw⟩ := DataW.trod_int Tryz.underlying5 h1
    refine ⟨n, ?_, ?_⟩
    · have h2 : (List.take 1 (List.drop i cs))[0]? = some (.int .u8 n) := by rw [e]; rfl
      rw [List.getElem?_take_of_lt (by omega), List.getElem?_drop, Nat.add_zero] at h2
      exact h2
    · have := bounds_u8 hw
      omega)
  exact ⟨zs, e1, by omega, e3⟩
theorem open_txt {H : Type} {enc : TypeId × Value → H} {W : World} {m : Nat} {cs : List Value} {y : DataW H × List MemPlace} (h : DataW.trod enc Tryz.prog W 0 (fun _ => true) true m 9 cs = some y) :
    ∃ l : List UInt8, cs = [.string ⟨l.toArray⟩] ∧ l.length ∈ y.1.weights Tryz.prog 9 := by
  obtain ⟨s, e, rfl, _⟩ := DataW.trod_string Tryz.underlying9 h
  exact ⟨s.data.toList, e, by simp [DataW.weights]⟩
theorem mem_all {H : Type} {P : Program} {e : TypeId} {d : DataW H} {n : Nat} : ∀ {l : List (DataW H)}, d ∈ l → n ∈ d.weights P e → n ∈ DataW.weightsAll P e l
  | x :: r, h, hn => by
    rw [DataW.weightsAll, List.mem_append]
    rcases List.mem_cons.1 h with rfl | h
    · exact .inl hn
    · exact .inr (mem_all h hn)
set_option maxRecDepth 100000 in
theorem open_rf {H : Type} {enc : TypeId × Value → H} {W : World} {m : Nat} {cs : List Value} {y : DataW H × List MemPlace} (h : DataW.trod enc Tryz.prog W 0 (fun _ => true) true m 70 cs = some y) :
    ∃ x : Rf, cs = encR x ∧ x.1.length ∈ y.1.weights Tryz.prog 70 ∧ IdW x.2 := by
  obtain ⟨xs, n, _, hy, hlen, hxl, hf⟩ := DataW.trod_struct Tryz.underlying70 h
  rw [cells70] at hlen
  match xs, hxl with
  | [y0, y1], _ =>
    have u0 : DataW.trod enc Tryz.prog W 0 (fun _ => true) true n 9 ((cs.drop 0).take (Tryz.prog.cellsOf 9)) = some y0 := hf 0 _ rfl
    have u1 : DataW.trod enc Tryz.prog W 0 (fun _ => true) true n 68 ((cs.drop 1).take (Tryz.prog.cellsOf 68)) = some y1 := hf 1 _ rfl
    rw [cells9, List.drop_zero] at u0
    rw [cells68] at u1
    obtain ⟨l0, e0, w0⟩ := open_txt u0
    obtain ⟨z1, e1, p1, q1⟩ := open_id u1
    refine ⟨(l0, z1), ?_, ?_, ⟨p1, q1⟩⟩
    · have s0 : cs = cs.take 1 ++ cs.drop 1 := (List.take_append_drop _ _).symm
      have s2 : cs.drop 1 = (cs.drop 1).take 20 := (List.take_of_length_le (by rw [List.length_drop]; omega)).symm
      rw [s0, s2, e0, e1]
      rfl
    · rw [hy]
      simp only [DataW.weights, Tryz.underlying70, List.map_cons, List.map_nil, DataW.weightsEach, List.mem_append]
      exact .inl w0
theorem list_ofR {p : Nat → Rf → Prop} : ∀ n : Nat, (∀ i, i < n → ∃ z, p i z) → ∃ l : List Rf, l.length = n ∧ ∀ i, i < n → p i (l.getD i rf0)
  | 0, _ => ⟨[], rfl, fun i hi => by omega⟩
  | n + 1, h => by
    obtain ⟨l, h1, h2⟩ := list_ofR n (fun i hi => h i (by omega))
    obtain ⟨z, hz⟩ := h n (by omega)
    refine ⟨l ++ [z], by simp [h1], fun i hi => ?_⟩
    rcases Nat.lt_or_ge i n with h3 | h3
    · have e : (l ++ [z]).getD i rf0 = l.getD i rf0 := by
        rw [List.getD_eq_getElem?_getD, List.getD_eq_getElem?_getD, List.getElem?_append_left (by omega)]
      rw [e]
      exact h2 i h3
    · have e : i = n := by omega
      subst e
      have e2 : (l ++ [z]).getD i rf0 = z := by
        rw [List.getD_eq_getElem?_getD, List.getElem?_append_right (by omega), h1, Nat.sub_self]
        rfl
      rw [e2]
      exact hz
set_option maxRecDepth 100000 in
theorem open_refs {H : Type} {enc : TypeId × Value → H} {W : World} {m : Nat} {v : Value} {y : DataW H × List MemPlace} (h : DataW.trod enc Tryz.prog W 0 (fun _ => true) true m 22 [v] = some y)
    (hw : ∀ n ∈ y.1.weights Tryz.prog 22, n ≤ 1000000000000000) :
    ∃ (pa : Option Addr) (pc : Nat) (l : List Rf), v = .slice pa l.length pc ∧ PRf W pa pc l ∧ FitR l := by
  rcases Go.Deep.open_slice Tryz.underlying22 h with ⟨h0, _⟩ | ⟨a, len, cap, m, n, D, Pl, hc, hb, hl, hm, hmm, rfl, hx⟩
  · simp only [List.cons.injEq, and_true] at h0
    subst h0
    exact ⟨none, 0, [], rfl, ⟨Nat.le_refl _, (fun h => by cases h), fun _ => rfl⟩, (fun x hx => by cases hx)⟩
  · simp only [List.cons.injEq, and_true] at hc
    subst hc
    simp only [if_true] at hmm
    obtain ⟨b, off, spot⟩ := a
    obtain ⟨ids, h1, h2⟩ := list_ofR (p := fun i z => (z.1.length ≤ 1000000000000000 ∧ IdW z.2) ∧ ∀ j v, (encR z)[j]? = some v → W.cell? (((⟨b, off, spot⟩ : Addr).add (i * 21)).add j) = some v) len (fun i hi => by
      obtain ⟨cs', g1, g2⟩ := hx i (by omega)
      rw [cells70] at g1
      obtain ⟨_, hlen, hcell⟩ := World.cells?_some g1
      obtain ⟨zs, e1, e2, e3⟩ := open_rf g2
      refine ⟨zs, ⟨hw _ ?_, e3⟩, fun j v hv => ?_⟩
      · simp only [DataW.weights, Tryz.underlying22, List.mem_cons, List.mem_append]
        right; left
        exact mem_all (d := D i) (List.mem_map.2 ⟨i, List.mem_range.2 hi, rfl⟩) e2
      have hj : j < 21 := by
        have := (List.getElem?_eq_some_iff.1 hv).1
        rw [encR_len e3] at this
        exact this
      rw [hcell j hj, e1]
      exact hv)
    have hw : FitR ids := fun x hx => by
      obtain ⟨i, hi, e⟩ := List.getElem_of_mem hx
      have := (h2 i (by omega)).1
      rw [List.getD_eq_getElem?_getD, List.getElem?_eq_getElem hi] at this
      simp only [Option.getD_some] at this
      rw [e] at this
      exact this
    refine ⟨some ⟨b, off, spot⟩, cap, ids, by rw [h1], ⟨by rw [h1]; exact hl, fun h0 => ?_, fun e => by cases e⟩, hw⟩
    rw [h1] at h0
    have c0 : W.cell? (((⟨b, off, spot⟩ : Addr).add (0 * 21)).add 0) = some (sV (ids.getD 0 rf0).1) := (h2 0 h0).2 0 _ rfl
    have hspot : spot = none := by simpa [Addr.add] using World.cell?_spot c0
    subst hspot
    refine ⟨b, off, rfl, ?_, fun i hi j v hv => ?_⟩
    · have := cell_lt c0
      simpa [Addr.add] using this
    · rw [h1] at hi
      have := (h2 i hi).2 j v hv
      rw [addr_add, addr_add] at this
      exact this
set_option maxRecDepth 100000 in
theorem open_off {H : Type} {enc : TypeId × Value → H} {W : World} {m : Nat} {cs : List Value} {y : DataW H × List MemPlace} (h : DataW.trod enc Tryz.prog W 0 (fun _ => true) true m 24 cs = some y)
    (hw : ∀ n ∈ y.1.weights Tryz.prog 24, n ≤ 1000000000000000) :
    ∃ (t : Str) (pa : Option Addr) (pc : Nat) (l : List Rf), cs = [.string ⟨t.toArray⟩, .slice pa l.length pc] ∧ PRf W pa pc l ∧ FitR l := by
  obtain ⟨xs, n, _, hy, hlen, hxl, hf⟩ := DataW.trod_struct Tryz.underlying24 h
  rw [cells24] at hlen
  match xs, hxl with
  | [y0, y1], _ =>
    have u0 : DataW.trod enc Tryz.prog W 0 (fun _ => true) true n 9 ((cs.drop 0).take (Tryz.prog.cellsOf 9)) = some y0 := hf 0 _ rfl
    have u1 : DataW.trod enc Tryz.prog W 0 (fun _ => true) true n 22 ((cs.drop 1).take (Tryz.prog.cellsOf 22)) = some y1 := hf 1 _ rfl
    rw [cells9, List.drop_zero] at u0
    rw [cells22] at u1
    obtain ⟨l0, e0, w0⟩ := open_txt u0
    match cs, hlen with
    | [q0, q1], _ =>
      simp only [List.take_succ_cons, List.take_zero, List.drop_succ_cons, List.drop_zero, List.cons.injEq, and_true] at e0 u1
      obtain ⟨pa, pc, l, e1, hp, hfl⟩ := open_refs u1 (fun k hk => hw k (by
        rw [hy]
        simp only [DataW.weights, Tryz.underlying24, List.map_cons, List.map_nil, DataW.weightsEach, List.mem_append]
        exact .inr (.inl hk)))
      exact ⟨l0, pa, pc, l, by rw [e0, e1], hp, hfl⟩
set_option maxRecDepth 100000 in
theorem contract (H : Type) (enc : TypeId × Value → H) (W : World) (base : Nat) (args : Array Value) (ds gs : List (DataW H)) (before : List MemPlace)
    (hval : ∀ (j : Nat) t v, Tryz.f3.params[j]? = some t → args[j]? = some v → Value.okWide Tryz.prog W .any base t v)
    (hW : DataW.Whole enc Tryz.prog Tryz.f3.params.toList Rows.wireOffersSpec.vars false W args.toList ds gs before)
    (hsz : (DataW.weightsEach Tryz.prog (Tryz.f3.params.toList ++ (OpenSpec.ofChange Rows.wireOffersSpec).bare.plain.varTypes Tryz.prog) (ds ++ gs)).all (· ≤ reachBytes) = true)
    (hL : laidMetH Tryz.prog Rows.wireOffersRow.laid W) (hsh : W.ShapedOpen Tryz.prog) :
    Calls Tryz.prog 3 args W fun e W' => ∃ v, e = .returned v ∧ Rows.wireOffersSpec.post enc Tryz.prog Tryz.f3 false true false false W args v W' := by
  have hW' := hW
  obtain ⟨p, q, hA0, hV, rfl, hfz, hnd⟩ := hW
  have hA : DataW.TrodAll enc Tryz.prog W 0 (fun _ => true) true Tryz.f3.params.toList args.toList ds p := hA0
  rw [params3] at hA hval hsz
  obtain ⟨v0, vs0, d0, ds0, p0, q0, hargs, rfl, rfl, h0, r0⟩ := trodAll_cons hA
  obtain ⟨v1, vs1, d1, ds1, p1, q1, rfl, rfl, rfl, h1, r1⟩ := trodAll_cons r0
  obtain ⟨rfl, rfl, rfl⟩ := trodAll_nil r1
  obtain rfl : args = #[v0, v1] := by cases args; simp_all
  obtain ⟨rfl, rfl⟩ := trodVars_none hV
  have k0 := h0
  have k1 := h1
  have lt0 : ∀ x ∈ p0, x.block < W.heap.size := by obtain ⟨m, hm⟩ := k0; exact DataW.trod_lt m _ _ _ hm
  have lt1 : ∀ x ∈ p1, x.block < W.heap.size := by obtain ⟨m, hm⟩ := k1; exact DataW.trod_lt m _ _ _ hm
  obtain ⟨cs0, rfl, hcs0⟩ := okWide_struct Tryz.underlying24 (hval 0 24 v0 rfl rfl)
  obtain ⟨x1, len1, cap1, rfl⟩ := okWide_slice Tryz.underlying25 (hval 1 25 v1 rfl rfl)
  have hm : ∀ n, n ∈ d0.weights Tryz.prog 24 → n ≤ 1000000000000000 := by
    intro n hn
    have h : n ≤ reachBytes := by
      refine of_decide_eq_true (List.all_eq_true.1 hsz n ?_)
      show n ∈ DataW.weightsEach Tryz.prog ([24, 25] ++ _) ([d0, d1] ++ [])
      simp only [List.cons_append, List.nil_append, List.append_nil, DataW.weightsEach, List.mem_append]
      exact .inl hn
    unfold reachBytes at h
    omega
  obtain ⟨t, a0, c0, l0, ecs, hp0, hi0⟩ : ∃ (t : Str) (pa : Option Addr) (pc : Nat) (l : List Rf), cs0.toList = [.string ⟨t.toArray⟩, .slice pa l.length pc] ∧ PRf W pa pc l ∧ FitR l := by
    obtain ⟨fuel, hf⟩ := h0
    exact open_off (y := (d0, p0)) hf hm
  obtain rfl : cs0 = #[.string ⟨t.toArray⟩, .slice a0 l0.length c0] := Array.toList_inj.1 (by simpa using ecs)
  clear hA0 ecs hcs0
  have walk : Calls Tryz.prog 3 #[.agg #[.string ⟨t.toArray⟩, .slice a0 l0.length c0], .slice x1 len1 cap1] W fun e w' => e = .returned (.bool true) ∧ Below W.heap.size W w' := by
    obtain ⟨fuel1, hf1⟩ := h1
    obtain ⟨ab, cb, s, ev, hpb, _⟩ := open_one (y := (d1, p1)) hf1
    rw [ev]
    by_cases hk0 : l0.length ≤ 60
    · by_cases hl : s.length ≤ 6000
      · by_cases ht : t.length ≤ 6000
        · exact walkO t ht a0 c0 l0 hp0 hi0 hk0 ab cb s hpb hl (handle_of_laid hL) (ers_of_laid hL) (db_of_laid hL) (shapedMx hsh)
        · exact walkO_long _ _ _ _ _ _ _ W (.inr (.inr (by rw [txt_len]; omega)))
      · exact walkO_long _ _ _ _ _ _ _ W (.inr (.inl (by omega)))
    · exact walkO_long _ _ _ _ _ _ _ W (.inl (by omega))
  refine walk.mono fun e W' ⟨he, bel⟩ => ?_
  subst he
  exact ⟨_, rfl, _, _, _, [], _, [], hW', trodAll_mk1 (shut_bool Tryz.underlying4 _), (trodAll_cons_mk (Below.trod laidOut (by kernel_rfl) (of_decide_eq_true (by kernel_rfl)) k0 bel lt0) (trodAll_cons_mk (Below.trod laidOut (by kernel_rfl) (of_decide_eq_true (by kernel_rfl)) k1 bel lt1) trodAll_mk0)), rfl, bel.frame _, fun h => by cases h⟩
def relay (cs : Array Value) : Obj → Obj
  | .cells _ t frozen => .cells cs t frozen
  | o => o
def layIn (w : World) : World :=
  { w with heap := ((((((((w.heap.modify 0 (relay #[.iface 166 (.agg #[.pointer (some ⟨9, 27, none⟩)])])).modify 2 (relay #[.int .u64 1, .int .u64 10, .int .u64 100, .int .u64 1000, .int .u64 10000, .int .u64 100000, .int .u64 1000000, .int .u64 10000000, .int .u64 100000000, .int .u64 1000000000, .int .u64 10000000000, .int .u64 100000000000, .int .u64 1000000000000, .int .u64 10000000000000, .int .u64 100000000000000, .int .u64 1000000000000000, .int .u64 10000000000000000, .int .u64 100000000000000000, .int .u64 1000000000000000000, .int .u64 10000000000000000000])).modify 3 (relay #[.iface 265 (.pointer (some ⟨w.heap.size, 0, none⟩))])).modify 4 (relay #[.iface 265 (.pointer (some ⟨w.heap.size + 1, 0, none⟩))])).modify 5 (relay (Pinned.utf8FirstZ.map fun (n : Nat) => Value.int .u8 (n : Int)).toArray)).modify 6 (relay #[.int .u8 128, .int .u8 191, .int .u8 160, .int .u8 191, .int .u8 128, .int .u8 159, .int .u8 144, .int .u8 191, .int .u8 128, .int .u8 143, .int .u8 0, .int .u8 0, .int .u8 0, .int .u8 0, .int .u8 0, .int .u8 0, .int .u8 0, .int .u8 0, .int .u8 0, .int .u8 0, .int .u8 0, .int .u8 0, .int .u8 0, .int .u8 0, .int .u8 0, .int .u8 0, .int .u8 0, .int .u8 0, .int .u8 0, .int .u8 0, .int .u8 0, .int .u8 0])).modify 7 (relay #[.int .u8 0, .int .u8 1, .int .u8 28, .int .u8 2, .int .u8 29, .int .u8 14, .int .u8 24, .int .u8 3, .int .u8 30, .int .u8 22, .int .u8 20, .int .u8 15, .int .u8 25, .int .u8 17, .int .u8 4, .int .u8 8, .int .u8 31, .int .u8 27, .int .u8 13, .int .u8 23, .int .u8 21, .int .u8 19, .int .u8 16, .int .u8 7, .int .u8 26, .int .u8 12, .int .u8 18, .int .u8 6, .int .u8 11, .int .u8 5, .int .u8 10, .int .u8 9])).modify 8 (relay #[.int .u8 0, .int .u8 1, .int .u8 56, .int .u8 2, .int .u8 57, .int .u8 49, .int .u8 28, .int .u8 3, .int .u8 61, .int .u8 58, .int .u8 42, .int .u8 50, .int .u8 38, .int .u8 29, .int .u8 17, .int .u8 4, .int .u8 62, .int .u8 47, .int .u8 59, .int .u8 36, .int .u8 45, .int .u8 43, .int .u8 51, .int .u8 22, .int .u8 53, .int .u8 39, .int .u8 33, .int .u8 30, .int .u8 24, .int .u8 18, .int .u8 12, .int .u8 5, .int .u8 63, .int .u8 55, .int .u8 48, .int .u8 27, .int .u8 60, .int .u8 41, .int .u8 37, .int .u8 16, .int .u8 46, .int .u8 35, .int .u8 44, .int .u8 21, .int .u8 52, .int .u8 32, .int .u8 23, .int .u8 11, .int .u8 54, .int .u8 26, .int .u8 40, .int .u8 15, .int .u8 34, .int .u8 20, .int .u8 31, .int .u8 10, .int .u8 25, .int .u8 14, .int .u8 19, .int .u8 9, .int .u8 13, .int .u8 8, .int .u8 7, .int .u8 6])) ++ #[.cells #[.string ⟨#[105, 110, 118, 97, 108, 105, 100, 32, 115, 121, 110, 116, 97, 120]⟩] 267, .cells #[.string ⟨#[118, 97, 108, 117, 101, 32, 111, 117, 116, 32, 111, 102, 32, 114, 97, 110, 103, 101]⟩] 267] }
def wit : Array Value := #[.agg #[.string ⟨#[]⟩, .slice none 0 0], .slice none 0 0]
theorem laid_met (os : Os) : laidMetH Tryz.prog Rows.wireOffersRow.laid ((layIn (World.holding Tryz.prog os ⟨#[], #[], []⟩)).forCall (fun _ _ => 0) ⟨#[], wit, []⟩).memory :=
  laidMetH_of_parts (laidMet_of_run' 8 (by kernel_rfl) (by kernel_rfl)) (by kernel_rfl)
theorem reads (os : Os) {H : Type} (enc : TypeId × Value → H) : ∃ ds places, DataW.whole enc Tryz.prog ((layIn (World.holding Tryz.prog os ⟨#[], #[], []⟩)).forCall (fun _ _ => 0) ⟨#[], wit, []⟩).memory Tryz.f3.params.toList Rows.wireOffersSpec.vars false wit.toList 8 = some (ds, [], places) :=
  ⟨[.agg [.lit (.string []), .nil], .nil], [], by kernel_rfl⟩
set_option maxRecDepth 100000 in
theorem lifted (os : Os) (started : os.Started) (H : Type) (enc : TypeId × Value → H) (F : Stop.Interp) :
    ReturnsInHanded {} Tryz.checked os 3 .any ((OpenSpec.ofChange Rows.wireOffersSpec).preRow enc Tryz.prog Tryz.f3 Rows.wireOffersRow.domain false Rows.wireOffersRow.laid) (((OpenSpec.ofChange Rows.wireOffersSpec).at F).post enc Tryz.prog Tryz.f3 false true false false) := by
  obtain ⟨ds, places, hx⟩ := reads os enc
  refine returnsInHanded_of_row (C := Tryz.checked) (s := OpenSpec.ofChange Rows.wireOffersSpec) own started (by kernel_rfl) Tryz.func3
    (witness_row_at (enc := enc) (C := Tryz.checked) false (layIn (World.holding Tryz.prog os ⟨#[], #[], []⟩)) wit rfl (by kernel_rfl) (by kernel_rfl) (by kernel_rfl)
      (OpenSpec.preRow_of_cond 8 hx (by kernel_rfl) (fun k hk => by cases hk) (by kernel_rfl) (laid_met os))) ?_
  intro W base args ds gs before hval hW _ _ hsz hL hsh _
  exact contract H enc W base args ds gs before hval hW hsz hL hsh
theorem said : Rows.WireOffersSaid := by
  exact OpenClaim.holds_of_cond 3 Tryz.f3 rfl rfl rfl rfl rfl rfl rfl ⟨rfl, rfl, rfl, rfl, rfl⟩ rfl rfl rfl rfl rfl (by kernel_rfl) Tryz.func3 (by kernel_rfl)
    (of_decide_eq_true (by kernel_rfl)) (by unfold Func.isWrapper; first | (rw [if_pos (by decide +kernel)]; kernel_rfl) | (rw [if_neg (by decide +kernel)]; exact ⟨rfl, rfl⟩))
    (fun os started H enc _ F => by rw [OpenClaim.pre_eq_preRow]; exact lifted os started H enc F)
theorem plain (f : FuncId) (fn : Func) (hf : Tryz.pinned.checked.prog.funcNamed "gitlike/gitlikelaw12.WireOffers" = some f) (hfn : Tryz.pinned.checked.prog.funcs[f]? = some fn) :
    true = Tryz.pinned.checked.prog.looks [] ∧ ∀ (j : Nat) t, fn.params[j]? = some t → Tryz.pinned.checked.prog.wantsStandIn t = false := by
  obtain rfl : f = 3 := Option.some.inj ((show Tryz.prog.funcNamed "gitlike/gitlikelaw12.WireOffers" = some 3 by kernel_rfl).symm.trans hf) |>.symm
  obtain rfl : fn = Tryz.f3 := (Option.some.inj (Tryz.func3.symm.trans hfn)).symm
  refine ⟨by kernel_rfl, fun j t ht => ?_⟩
  rw [params3] at ht
  have hm : t = 24 ∨ t = 25 := by simpa using Array.mem_of_getElem? ht
  rcases hm with rfl | rfl
  · exact (show Tryz.prog.wantsStandIn 24 = false by kernel_rfl)
  · exact (show Tryz.prog.wantsStandIn 25 = false by kernel_rfl)
end Go.Proofs.YtijeogdnjeamaaaGreatDoor.Offers
namespace Go.Proofs.YtijeogdnjeamaaaGreatDoor
theorem wireOffers_card : Rows.WireOffersCardSaid :=
  Claim7.holds_tied_plain_at .later [] _ _ _ _ Offers.said (fun _ h => by cases h) (by kernel_rfl) (fun _ h => by cases h) wireOffers_row_tie rfl ⟨rfl, rfl⟩ (by kernel_rfl) rfl Offers.plain (by kernel_rfl)
#print axioms wireOffers_card
end Go.Proofs.YtijeogdnjeamaaaGreatDoor
