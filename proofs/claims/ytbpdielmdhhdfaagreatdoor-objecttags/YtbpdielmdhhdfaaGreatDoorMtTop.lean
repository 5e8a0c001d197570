import Derived.Test.YtbpdielmdhhdfaaGreatDoorMt40
import Derived.Test.YtbpdielmdhhdfaaGreatDoorCards
import Derived.Test.YtbpdielmdhhdfaaGreatDoorTie
import Derived.WalkKit
import Derived.ProofKit
import Derived.OpenShut
import Derived.Below
import Derived.Deep.DeepHandedRow
import Derived.Lib.LaidTab
import Derived.LaidLaws
import Derived.LaidHandle
import Derived.ChangeSame
import Derived.Shelf.LaysM
/- THE LAW 'ObjectTags': its row, its card. -/
namespace Go.Proofs.YtbpdielmdhhdfaaGreatDoor.Tags
open Go.ChangeShapes Go.WideShapes Go.ChangeAt Go.RowKit
set_option linter.unusedVariables false

theorem own : ownKnob Tryz.prog.godebug = none := by kernel_rfl
theorem laidOut : laidOutB Tryz.prog = true := by kernel_rfl
theorem et : Tryz.prog.globalNamed "errors.errorType" = some 0 := by kernel_rfl
theorem rt : (Tryz.prog.cutTypes.find? (·.1 == "internal/reflectlite.rtype")).map (·.2) = some 188 := by kernel_rfl
theorem oneRow : ((List.range 333).filter fun t => Tryz.prog.rowNamed t [101, 114, 114, 111, 114]) = [28] := by kernel_rfl
theorem tsize : Tryz.prog.types.size = 333 := by kernel_rfl
theorem ptype : (Tryz.prog.globals[2]?).map (·.type) = some 278 := by kernel_rfl
theorem c147 : Tryz.prog.cellsOf 147 = 1 := by kernel_rfl
theorem c278 : Tryz.prog.cellsOf 278 = 20 := by kernel_rfl
theorem laidMet_tail {P : Program} {W : World} {n : String} {d : DataW Unit} {r : List (String × DataW Unit)} (h : laidMet P ((n, d) :: r) W) : laidMet P r W := by
  obtain ⟨ps, ⟨g, t, cs, fuel, p, q, _, _, _, _, hq, rfl⟩, hn, hall⟩ := h
  exact ⟨q, hq, (List.nodup_append.1 hn).2.1, fun b off hb => hall b off (List.mem_append.2 (.inr hb))⟩
def dataRows : List (String × DataW Unit) := [("math/bits.deBruijn32tab", Rows.laid_math_bits_deBruijn32tab), ("math/bits.deBruijn64tab", Rows.laid_math_bits_deBruijn64tab), ("internal/strconv.uint64pow10", Lib.tabData .u64 Lib.pow10Tab), ("unicode/utf8.acceptRanges", Rows.laid_unicode_utf8_acceptRanges), ("strconv.ErrRange", Rows.laid_strconv_ErrRange), ("strconv.ErrSyntax", Rows.laid_strconv_ErrSyntax), ("unicode/utf8.first", Rows.laid_unicode_utf8_first)]
def handleRows : List (String × DataW Unit) := [("errors.errorType", Rows.laid_errors_errorType)]
theorem parts_of {W : World} (h : laidMetH Tryz.prog Rows.objectTagsRow.laid W) : laidMet Tryz.prog dataRows W ∧ handlesMet Tryz.prog handleRows W := h
theorem handle_of_laid {W : World} (h : laidMetH Tryz.prog Rows.objectTagsRow.laid W) : W.cell? ⟨0, 0, none⟩ = some (.iface 188 (.agg #[.pointer (some ⟨9, 28, none⟩)])) := by
  obtain ⟨name, u, ty, e1, e2, e3, e4, e5⟩ := (parts_of h).2 _ (List.mem_singleton.2 rfl)
  have en : name = [101, 114, 114, 111, 114] := (Option.some.inj e1).symm
  subst en
  obtain rfl := Option.some.inj (rt.symm.trans e2)
  have hm : ty ∈ (List.range 333).filter fun t => Tryz.prog.rowNamed t [101, 114, 114, 111, 114] := List.mem_filter.2 ⟨List.mem_range.2 (by rw [← tsize]; exact e3), e4⟩
  rw [oneRow] at hm
  obtain rfl := List.mem_singleton.1 hm
  have hh : typeHandle Tryz.prog 28 = .pointer (some ⟨9, 28, none⟩) := by kernel_rfl
  rw [hh] at e5
  simpa using World.var?_cell et e5 0
theorem tab_of_laid {W : World} (h : laidMetH Tryz.prog Rows.objectTagsRow.laid W) : Tab W :=
  Lib.tabIs_of_head pow_at ptype Tryz.underlying278 Tryz.underlying147 c147 c278 (laidMet_tail (laidMet_tail (parts_of h).1))
theorem shapedMx {W : World} (h : W.ShapedOpen Tryz.prog) : Mx W :=
  Go.Proofs.cell_of_shapedOpen_int (zero := #[.int .i64 0]) (t := 3) h (of_decide_eq_true (by kernel_rfl)) (by kernel_rfl) rfl (by kernel_rfl) (by kernel_rfl) Tryz.underlying3
theorem cell_lt {w : World} {a : Addr} {v : Value} (h : w.cell? a = some v) : a.block < w.heap.size := by
  rcases Nat.lt_or_ge a.block w.heap.size with h' | h'
  · exact h'
  · simp [World.cell?, Array.getElem?_eq_none h'] at h
theorem bytes5 : Tryz.prog.bytesOf 5 = 1 := by kernel_rfl
theorem lits_len {H : Type} (k : IntKind) (l : List Int) : (lits (H := H) k l).length = l.length := by simp [lits]
/-- What is known of a slice of bytes. -/
def One (W : World) (v : Value) (t : Option Addr × Nat × List Int) : Prop :=
  v = .slice t.1 t.2.2.length t.2.1 ∧ IsB t.2.2 ∧ Sl W t.1 t.2.1 t.2.2
theorem sl_nil (W : World) : Sl W none 0 [] := ⟨Nat.le_refl _, (fun h => by cases h), fun _ => rfl⟩
theorem open_one {H : Type} {enc : TypeId × Value → H} {W : World} {m : Nat} {v : Value} {y : DataW H × List MemPlace} (h : DataW.trod enc Tryz.prog W 0 (fun _ => true) true m 23 [v] = some y) :
    ∃ t, One W v t ∧ (t.2.2.length = 0 ∨ ∃ n, n ∈ y.1.weights Tryz.prog 23 ∧ t.2.2.length ≤ n) := by
  rcases open_ints Tryz.underlying23 Tryz.underlying5 (by kernel_rfl) h with ⟨hcs, _⟩ | ⟨x, l, c, zs, hcs, _, hl, hm, hz, hy, hcell, hwz⟩
  · simp only [List.cons.injEq, and_true] at hcs
    subst hcs
    exact ⟨(none, 0, []), ⟨rfl, (fun x hx => by cases hx), sl_nil W⟩, .inl rfl⟩
  · simp only [List.cons.injEq, and_true] at hcs
    subst hcs
    simp only [if_true] at hz
    have hlen : (zs.take l).length = l := by rw [List.length_take]; omega
    refine ⟨(some x, c, zs.take l), ⟨by rw [hlen], ?_, by rw [hlen]; exact hl, ?_, fun h => by cases h⟩, .inr ⟨c, ?_, by rw [hlen]; exact hl⟩⟩
    · intro n hn
      have := bounds_u8 (hwz n (List.mem_of_mem_take hn))
      omega
    · intro hpos
      rw [hlen] at hpos
      obtain ⟨b, off, spot⟩ := x
      have hc := hcell 0 (by omega)
      have hspot : spot = none := by simpa [Addr.add] using World.cell?_spot hc
      subst hspot
      refine ⟨b, off, rfl, cell_lt hc, fun i hi => ?_⟩
      rw [hlen] at hi
      have := hcell i (by omega)
      rw [addr_add] at this
      rw [this]
      simp [hi]
    · rw [hy]
      simp only [DataW.weights, Tryz.underlying23, lits_len, bytes5, List.mem_cons]
      left
      rw [List.length_take, List.length_drop]; omega
/-- What reads as data of an interface's type is nil or a value with its type. -/
theorem trod_iface {H : Type} {enc : TypeId × Value → H} {P : Program} {w : World} {base : Nat} {spare : Nat → Bool} {held : Bool} {fuel : Nat} {t : TypeId} {cs : List Value} {x : DataW H × List MemPlace} {ms : Array (String × TypeId)} (ht : P.underlying t = some (.interface ms))
    (h : DataW.trod enc P w base spare held fuel t cs = some x) : cs = [.nilIface] ∨ ∃ u v, cs = [.iface u v] := by
  cases fuel with
  | zero => simp [DataW.trod] at h
  | succ n =>
    unfold DataW.trod at h
    rw [ht] at h
    split at h <;> simp_all
theorem iface_of_laid {P : Program} {W : World} {n : String} {d : DataW Unit} {r : List (String × DataW Unit)} {g : Nat} {t : TypeId} {ms : Array (String × TypeId)} (hg : P.globalNamed n = some g) (ht : (P.globals[g]?).map (·.type) = some t) (hu : P.underlying t = some (.interface ms))
    (h : laidMet P ((n, d) :: r) W) : ∃ ev, W.cell? ⟨g, 0, none⟩ = some ev ∧ (ev = .nilIface ∨ ∃ te pe, ev = .iface te pe) := by
  obtain ⟨ps, ⟨g', t', cs, fuel, p, q, e1, e2, e3, e4, hq, rfl⟩, hn, hall⟩ := h
  obtain rfl := Option.some.inj (hg.symm.trans e1)
  obtain rfl := Option.some.inj (ht.symm.trans e2)
  have hc := World.var?_cell hg e3 0
  rcases trod_iface hu e4 with h | ⟨u, v, h⟩
  · have : cs = #[.nilIface] := Array.toList_inj.1 (by simpa using h)
    subst this
    exact ⟨_, by simpa using hc, .inl rfl⟩
  · have : cs = #[.iface u v] := Array.toList_inj.1 (by simpa using h)
    subst this
    exact ⟨_, by simpa using hc, .inr ⟨u, v, rfl⟩⟩
theorem g5 : Tryz.prog.globalNamed "strconv.ErrSyntax" = some 5 := by kernel_rfl
theorem g6 : Tryz.prog.globalNamed "strconv.ErrRange" = some 6 := by kernel_rfl
theorem t5 : (Tryz.prog.globals[5]?).map (·.type) = some 28 := by kernel_rfl
theorem t6 : (Tryz.prog.globals[6]?).map (·.type) = some 28 := by kernel_rfl
theorem ers_of_laid {W : World} (h : laidMetH Tryz.prog Rows.objectTagsRow.laid W) : Ers W := by
  have h4 := laidMet_tail (laidMet_tail (laidMet_tail (laidMet_tail (parts_of h).1)))
  exact ⟨iface_of_laid g5 t5 Tryz.underlying28 (laidMet_tail h4), iface_of_laid g6 t6 Tryz.underlying28 h4⟩
theorem ints_of {p : Int → Prop} : ∀ cs : List Value, (∀ i, i < cs.length → ∃ n, cs[i]? = some (.int .u8 n) ∧ p n) → ∃ zs : List Int, cs = row .u8 zs ∧ zs.length = cs.length ∧ ∀ n ∈ zs, p n
  | [], _ => ⟨[], rfl, rfl, fun n hn => by cases hn⟩
  | v :: r, h => by
    obtain ⟨n, e, hp⟩ := h 0 (by simp)
    obtain ⟨zs, e2, e3, e4⟩ := ints_of r (fun i hi => by
      obtain ⟨m, f1, f2⟩ := h (i + 1) (by simpa using hi)
      exact ⟨m, by simpa using f1, f2⟩)
    have ev : v = .int .u8 n := by simpa using e
    refine ⟨n :: zs, by rw [ev, e2]; rfl, by simp [e3], fun m hm => ?_⟩
    rcases List.mem_cons.1 hm with rfl | hm
    · exact hp
    · exact e4 m hm
theorem cells5 : Tryz.prog.cellsOf 5 = 1 := by kernel_rfl
theorem cells9 : Tryz.prog.cellsOf 9 = 1 := by kernel_rfl
theorem cells2 : Tryz.prog.cellsOf 2 = 1 := by kernel_rfl
theorem cells3 : Tryz.prog.cellsOf 3 = 1 := by kernel_rfl
theorem cells22 : Tryz.prog.cellsOf 22 = 1 := by kernel_rfl
theorem cells32 : Tryz.prog.cellsOf 32 = 20 := by kernel_rfl
theorem cells58 : Tryz.prog.cellsOf 58 = 4 := by kernel_rfl
theorem cells71 : Tryz.prog.cellsOf 71 = 27 := by kernel_rfl
/-- An id, opened. -/
theorem open_id {H : Type} {enc : TypeId × Value → H} {W : World} {m : Nat} {cs : List Value} {y : DataW H × List MemPlace} (h : DataW.trod enc Tryz.prog W 0 (fun _ => true) true m 32 cs = some y) :
    ∃ zs : List Int, cs = row .u8 zs ∧ zs.length = 20 ∧ ∀ n ∈ zs, 0 ≤ n ∧ n < 256 := by
  obtain ⟨xs, k, _, _, hl, hx, hf⟩ := DataW.trod_array Tryz.underlying32 h
  rw [cells32] at hl
  obtain ⟨zs, e1, e2, e3⟩ := ints_of (p := fun n => 0 ≤ n ∧ n < 256) cs (fun i hi => by
    have hi20 : i < 20 := by omega
    have h1 := hf i hi20
    rw [cells5, Nat.mul_one, List.getElem?_eq_getElem (by omega)] at h1
    obtain ⟨n, e, _, hw⟩ := DataW.trod_int Tryz.underlying5 h1
    refine ⟨n, ?_, ?_⟩
    · have h2 : (List.take 1 (List.drop i cs))[0]? = some (.int .u8 n) := by rw [e]; rfl
      rw [List.getElem?_take_of_lt (by omega), List.getElem?_drop, Nat.add_zero] at h2
      exact h2
    · have := bounds_u8 hw
      omega)
  exact ⟨zs, e1, by omega, e3⟩
/-- A text of a struct, opened. -/
theorem open_txt {H : Type} {enc : TypeId × Value → H} {W : World} {m : Nat} {cs : List Value} {y : DataW H × List MemPlace} (h : DataW.trod enc Tryz.prog W 0 (fun _ => true) true m 9 cs = some y) :
    ∃ l : List UInt8, cs = [.string ⟨l.toArray⟩] ∧ l.length ∈ y.1.weights Tryz.prog 9 := by
  obtain ⟨s, e, rfl, _⟩ := DataW.trod_string Tryz.underlying9 h
  exact ⟨s.data.toList, e, by simp [DataW.weights]⟩
set_option maxRecDepth 100000 in
/-- A person, opened. -/
theorem open_per {H : Type} {enc : TypeId × Value → H} {W : World} {m : Nat} {cs : List Value} {y : DataW H × List MemPlace} (h : DataW.trod enc Tryz.prog W 0 (fun _ => true) true m 58 cs = some y) :
    ∃ p : Per, cs = (perV p).toList ∧ p.name.length ∈ y.1.weights Tryz.prog 58 := by
  obtain ⟨xs, n, _, hy, hlen, hxl, hf⟩ := DataW.trod_struct Tryz.underlying58 h
  rw [cells58] at hlen
  match cs, hlen with
  | [v0, v1, v2, v3], _ =>
  match xs, hxl with
  | [y0, y1, y2, y3], _ =>
    have u0 : DataW.trod enc Tryz.prog W 0 (fun _ => true) true n 9 ((([v0, v1, v2, v3] : List Value).drop 0).take (Tryz.prog.cellsOf 9)) = some y0 := hf 0 _ rfl
    have u1 : DataW.trod enc Tryz.prog W 0 (fun _ => true) true n 9 ((([v0, v1, v2, v3] : List Value).drop 1).take (Tryz.prog.cellsOf 9)) = some y1 := hf 1 _ rfl
    have u2 : DataW.trod enc Tryz.prog W 0 (fun _ => true) true n 2 ((([v0, v1, v2, v3] : List Value).drop 2).take (Tryz.prog.cellsOf 2)) = some y2 := hf 2 _ rfl
    have u3 : DataW.trod enc Tryz.prog W 0 (fun _ => true) true n 3 ((([v0, v1, v2, v3] : List Value).drop 3).take (Tryz.prog.cellsOf 3)) = some y3 := hf 3 _ rfl
    simp only [cells9, cells2, cells3, List.drop, List.take] at u0 u1 u2 u3
    obtain ⟨l0, e0, w0⟩ := open_txt u0
    obtain ⟨l1, e1, _⟩ := open_txt u1
    obtain ⟨t, e2, _⟩ := DataW.trod_int Tryz.underlying2 u2
    obtain ⟨z, e3, _⟩ := DataW.trod_int Tryz.underlying3 u3
    simp only [List.cons.injEq, and_true] at e0 e1 e2 e3
    subst e0 e1 e2 e3
    refine ⟨⟨l0, l1, t, z⟩, rfl, ?_⟩
    rw [hy]
    simp only [DataW.weights, Tryz.underlying58, List.map_cons, List.map_nil, DataW.weightsEach, List.mem_append]
    exact .inl w0
set_option maxRecDepth 100000 in
/-- A tag, opened. -/
theorem open_tag {H : Type} {enc : TypeId × Value → H} {W : World} {m : Nat} {cs : List Value} {y : DataW H × List MemPlace} (h : DataW.trod enc Tryz.prog W 0 (fun _ => true) true m 71 cs = some y) :
    ∃ t : Tg, cs = tgV t ∧ Wf t ∧ t.name.length ∈ y.1.weights Tryz.prog 71 ∧ t.per.name.length ∈ y.1.weights Tryz.prog 71 ∧ t.msg.length ∈ y.1.weights Tryz.prog 71 := by
  obtain ⟨xs, n, _, hy, hlen, hxl, hf⟩ := DataW.trod_struct Tryz.underlying71 h
  rw [cells71] at hlen
  match xs, hxl with
  | [y0, y1, y2, y3, y4], _ =>
    have u0 : DataW.trod enc Tryz.prog W 0 (fun _ => true) true n 32 ((cs.drop 0).take (Tryz.prog.cellsOf 32)) = some y0 := hf 0 _ rfl
    have u1 : DataW.trod enc Tryz.prog W 0 (fun _ => true) true n 22 ((cs.drop 20).take (Tryz.prog.cellsOf 22)) = some y1 := hf 1 _ rfl
    have u2 : DataW.trod enc Tryz.prog W 0 (fun _ => true) true n 9 ((cs.drop 21).take (Tryz.prog.cellsOf 9)) = some y2 := hf 2 _ rfl
    have u3 : DataW.trod enc Tryz.prog W 0 (fun _ => true) true n 58 ((cs.drop 22).take (Tryz.prog.cellsOf 58)) = some y3 := hf 3 _ rfl
    have u4 : DataW.trod enc Tryz.prog W 0 (fun _ => true) true n 9 ((cs.drop 26).take (Tryz.prog.cellsOf 9)) = some y4 := hf 4 _ rfl
    rw [cells32, List.drop_zero] at u0
    rw [cells22] at u1
    rw [cells9] at u2 u4
    rw [cells58] at u3
    obtain ⟨zs, e0, z1, z2⟩ := open_id u0
    obtain ⟨k, e1, _⟩ := DataW.trod_int Tryz.underlying22 u1
    obtain ⟨l2, e2, w2⟩ := open_txt u2
    obtain ⟨p, e3, w3⟩ := open_per u3
    obtain ⟨l4, e4, w4⟩ := open_txt u4
    refine ⟨⟨zs, k, l2, p, l4⟩, ?_, ⟨z1, z2⟩, ?_, ?_, ?_⟩
    · have s0 : cs = cs.take 20 ++ cs.drop 20 := (List.take_append_drop _ _).symm
      have s1 : cs.drop 20 = (cs.drop 20).take 1 ++ cs.drop 21 := by
        have := (List.take_append_drop 1 (cs.drop 20)).symm
        rwa [List.drop_drop] at this
      have s2 : cs.drop 21 = (cs.drop 21).take 1 ++ cs.drop 22 := by
        have := (List.take_append_drop 1 (cs.drop 21)).symm
        rwa [List.drop_drop] at this
      have s3 : cs.drop 22 = (cs.drop 22).take 4 ++ cs.drop 26 := by
        have := (List.take_append_drop 4 (cs.drop 22)).symm
        rwa [List.drop_drop] at this
      have s4 : cs.drop 26 = (cs.drop 26).take 1 := (List.take_of_length_le (by rw [List.length_drop]; omega)).symm
      rw [s0, s1, s2, s3, s4, e0, e1, e2, e3, e4]
      rfl
    · rw [hy]
      simp only [DataW.weights, Tryz.underlying71, List.map_cons, List.map_nil, DataW.weightsEach, List.mem_append]
      exact .inr (.inr (.inl w2))
    · rw [hy]
      simp only [DataW.weights, Tryz.underlying71, List.map_cons, List.map_nil, DataW.weightsEach, List.mem_append]
      exact .inr (.inr (.inr (.inl w3)))
    · rw [hy]
      simp only [DataW.weights, Tryz.underlying71, List.map_cons, List.map_nil, DataW.weightsEach, List.mem_append]
      exact .inr (.inr (.inr (.inr (.inl w4))))
set_option maxRecDepth 100000 in
theorem contract (H : Type) (enc : TypeId × Value → H) (W : World) (base : Nat) (args : Array Value) (ds gs : List (DataW H)) (before : List MemPlace)
    (hval : ∀ (j : Nat) t v, Tryz.f6.params[j]? = some t → args[j]? = some v → Value.okWide Tryz.prog W .any base t v)
    (hW : DataW.Whole enc Tryz.prog Tryz.f6.params.toList Rows.objectTagsSpec.vars false W args.toList ds gs before)
    (hsz : (DataW.weightsEach Tryz.prog (Tryz.f6.params.toList ++ (OpenSpec.ofChange Rows.objectTagsSpec).bare.plain.varTypes Tryz.prog) (ds ++ gs)).all (· ≤ reachBytes) = true)
    (hL : laidMetH Tryz.prog Rows.objectTagsRow.laid W) (hsh : W.ShapedOpen Tryz.prog) :
    Calls Tryz.prog 6 args W fun e W' => ∃ v, e = .returned v ∧ Rows.objectTagsSpec.post enc Tryz.prog Tryz.f6 false true false false W args v W' := by
  have hW' := hW
  obtain ⟨p, q, hA0, hV, rfl, hfz, hnd⟩ := hW
  have hA : DataW.TrodAll enc Tryz.prog W 0 (fun _ => true) true Tryz.f6.params.toList args.toList ds p := hA0
  rw [Tryz.params6] at hA hval hsz
  obtain ⟨v0, vs0, d0, ds0, p0, q0, hargs, rfl, rfl, h0, r0⟩ := trodAll_cons hA
  obtain ⟨v1, vs1, d1, ds1, p1, q1, rfl, rfl, rfl, h1, r1⟩ := trodAll_cons r0
  obtain ⟨rfl, rfl, rfl⟩ := trodAll_nil r1
  obtain rfl : args = #[v0, v1] := by cases args; simp_all
  obtain ⟨rfl, rfl⟩ := trodVars_none hV
  have k0 := h0
  have k1 := h1
  have lt0 : ∀ x ∈ p0, x.block < W.heap.size := by obtain ⟨m, hm⟩ := k0; exact DataW.trod_lt m _ _ _ hm
  have lt1 : ∀ x ∈ p1, x.block < W.heap.size := by obtain ⟨m, hm⟩ := k1; exact DataW.trod_lt m _ _ _ hm
  obtain ⟨cs0, rfl, hcs0⟩ := okWide_struct Tryz.underlying71 (hval 0 71 v0 rfl rfl)
  obtain ⟨a1, len1, cap1, rfl⟩ := okWide_slice Tryz.underlying23 (hval 1 23 v1 rfl rfl)
  obtain ⟨t, ecs, hwf, b2, b3, b4⟩ : ∃ t : Tg, cs0.toList = tgV t ∧ Wf t ∧ t.name.length ∈ d0.weights Tryz.prog 71 ∧ t.per.name.length ∈ d0.weights Tryz.prog 71 ∧ t.msg.length ∈ d0.weights Tryz.prog 71 := by
    obtain ⟨fuel, hf⟩ := h0
    exact open_tag (y := (d0, p0)) hf
  obtain ⟨t1, o1, b1⟩ : ∃ t, One W (.slice a1 len1 cap1) t ∧ (t.2.2.length = 0 ∨ ∃ n, n ∈ d1.weights Tryz.prog 23 ∧ t.2.2.length ≤ n) := by
    obtain ⟨fuel, hf⟩ := h1
    exact open_one (y := (d1, p1)) hf
  have hm : ∀ n, n ∈ d0.weights Tryz.prog 71 ∨ n ∈ d1.weights Tryz.prog 23 → n ≤ 200000000000000 := by
    intro n hn
    have h : n ≤ reachBytes := by
      refine of_decide_eq_true (List.all_eq_true.1 hsz n ?_)
      show n ∈ DataW.weightsEach Tryz.prog ([71, 23] ++ _) ([d0, d1] ++ [])
      simp only [List.cons_append, List.nil_append, List.append_nil, DataW.weightsEach, List.mem_append]
      rcases hn with h | h
      · exact .inl h
      · exact .inr (.inl h)
    unfold reachBytes at h
    omega
  have m1 : t1.2.2.length ≤ 200000000000000 := by
    rcases b1 with h | ⟨n, h1, h2⟩
    · omega
    · have := hm n (.inr h1)
      omega
  have m2 := hm _ (.inl b2)
  have m3 := hm _ (.inl b3)
  have m4 := hm _ (.inl b4)
  obtain rfl : cs0 = (tgV t).toArray := Array.toList_inj.1 (by simpa using ecs)
  clear hA0 b1 b2 b3 b4 hm ecs hcs0
  have hlw : Lw W := ⟨tab_of_laid hL, shapedMx hsh, handle_of_laid hL⟩
  have her : Ers W := ers_of_laid hL
  obtain ⟨e1, z1, c1⟩ := o1
  have walk : Calls Tryz.prog 6 #[.agg (tgV t).toArray, .slice a1 len1 cap1] W fun e w' => e = .returned (.bool true) ∧ Below W.heap.size W w' := by
    rw [e1]
    by_cases hl : t.msg.length + t1.2.2.length + t.name.length + t.per.name.length ≤ 20000
    · exact walkT_short t hwf t1.1 t1.2.1 t1.2.2 W hl z1 c1 hlw her
    · exact walkT_long t hwf _ _ _ W (by omega) m4 m1 m2 m3
  refine walk.mono fun e W' ⟨he, bel⟩ => ?_
  subst he
  exact ⟨_, rfl, _, _, _, [], _, [], hW', trodAll_mk1 (shut_bool Tryz.underlying4 _), (trodAll_cons_mk (Below.trod laidOut (by kernel_rfl) (of_decide_eq_true (by kernel_rfl)) k0 bel lt0) (trodAll_cons_mk (Below.trod laidOut (by kernel_rfl) (of_decide_eq_true (by kernel_rfl)) k1 bel lt1) trodAll_mk0)), rfl, bel.frame _, fun h => by cases h⟩

/-- A block's cells, laid anew. -/
def relay (cs : Array Value) : Obj → Obj
  | .cells _ t frozen => .cells cs t frozen
  | o => o
/-- A WORLD FOR THE WITNESS: the variables' cells hold what their initialisers lay. -/
def layIn (w : World) : World :=
  { w with heap := ((((((((w.heap.modify 0 (relay #[.iface 188 (.agg #[.pointer (some ⟨9, 28, none⟩)])])).modify 2 (relay #[.int .u64 1, .int .u64 10, .int .u64 100, .int .u64 1000, .int .u64 10000, .int .u64 100000, .int .u64 1000000, .int .u64 10000000, .int .u64 100000000, .int .u64 1000000000, .int .u64 10000000000, .int .u64 100000000000, .int .u64 1000000000000, .int .u64 10000000000000, .int .u64 100000000000000, .int .u64 1000000000000000, .int .u64 10000000000000000, .int .u64 100000000000000000, .int .u64 1000000000000000000, .int .u64 10000000000000000000])).modify 3 (relay #[.int .u8 0, .int .u8 1, .int .u8 28, .int .u8 2, .int .u8 29, .int .u8 14, .int .u8 24, .int .u8 3, .int .u8 30, .int .u8 22, .int .u8 20, .int .u8 15, .int .u8 25, .int .u8 17, .int .u8 4, .int .u8 8, .int .u8 31, .int .u8 27, .int .u8 13, .int .u8 23, .int .u8 21, .int .u8 19, .int .u8 16, .int .u8 7, .int .u8 26, .int .u8 12, .int .u8 18, .int .u8 6, .int .u8 11, .int .u8 5, .int .u8 10, .int .u8 9])).modify 4 (relay #[.int .u8 0, .int .u8 1, .int .u8 56, .int .u8 2, .int .u8 57, .int .u8 49, .int .u8 28, .int .u8 3, .int .u8 61, .int .u8 58, .int .u8 42, .int .u8 50, .int .u8 38, .int .u8 29, .int .u8 17, .int .u8 4, .int .u8 62, .int .u8 47, .int .u8 59, .int .u8 36, .int .u8 45, .int .u8 43, .int .u8 51, .int .u8 22, .int .u8 53, .int .u8 39, .int .u8 33, .int .u8 30, .int .u8 24, .int .u8 18, .int .u8 12, .int .u8 5, .int .u8 63, .int .u8 55, .int .u8 48, .int .u8 27, .int .u8 60, .int .u8 41, .int .u8 37, .int .u8 16, .int .u8 46, .int .u8 35, .int .u8 44, .int .u8 21, .int .u8 52, .int .u8 32, .int .u8 23, .int .u8 11, .int .u8 54, .int .u8 26, .int .u8 40, .int .u8 15, .int .u8 34, .int .u8 20, .int .u8 31, .int .u8 10, .int .u8 25, .int .u8 14, .int .u8 19, .int .u8 9, .int .u8 13, .int .u8 8, .int .u8 7, .int .u8 6])).modify 5 (relay #[.iface 303 (.pointer (some ⟨w.heap.size, 0, none⟩))])).modify 6 (relay #[.iface 303 (.pointer (some ⟨w.heap.size + 1, 0, none⟩))])).modify 7 (relay (Pinned.utf8FirstZ.map fun (n : Nat) => Value.int .u8 (n : Int)).toArray)).modify 8 (relay #[.int .u8 128, .int .u8 191, .int .u8 160, .int .u8 191, .int .u8 128, .int .u8 159, .int .u8 144, .int .u8 191, .int .u8 128, .int .u8 143, .int .u8 0, .int .u8 0, .int .u8 0, .int .u8 0, .int .u8 0, .int .u8 0, .int .u8 0, .int .u8 0, .int .u8 0, .int .u8 0, .int .u8 0, .int .u8 0, .int .u8 0, .int .u8 0, .int .u8 0, .int .u8 0, .int .u8 0, .int .u8 0, .int .u8 0, .int .u8 0, .int .u8 0, .int .u8 0])) ++ #[.cells #[.string ⟨#[105, 110, 118, 97, 108, 105, 100, 32, 115, 121, 110, 116, 97, 120]⟩] 305, .cells #[.string ⟨#[118, 97, 108, 117, 101, 32, 111, 117, 116, 32, 111, 102, 32, 114, 97, 110, 103, 101]⟩] 305] }
def wit : Array Value := #[.agg #[.int .u8 0, .int .u8 0, .int .u8 0, .int .u8 0, .int .u8 0, .int .u8 0, .int .u8 0, .int .u8 0, .int .u8 0, .int .u8 0, .int .u8 0, .int .u8 0, .int .u8 0, .int .u8 0, .int .u8 0, .int .u8 0, .int .u8 0, .int .u8 0, .int .u8 0, .int .u8 0, .int .i64 0, .string ⟨#[]⟩, .string ⟨#[]⟩, .string ⟨#[]⟩, .int .i64 0, .int .i64 0, .string ⟨#[]⟩], .slice none 0 0]
theorem laid_met (os : Os) : laidMetH Tryz.prog Rows.objectTagsRow.laid ((layIn (World.holding Tryz.prog os ⟨#[], #[], []⟩)).forCall (fun _ _ => 0) ⟨#[], wit, []⟩).memory :=
  laidMetH_of_parts (laidMet_of_run' 8 (by kernel_rfl) (by kernel_rfl)) (by kernel_rfl)
theorem reads (os : Os) {H : Type} (enc : TypeId × Value → H) : ∃ ds places, DataW.whole enc Tryz.prog ((layIn (World.holding Tryz.prog os ⟨#[], #[], []⟩)).forCall (fun _ _ => 0) ⟨#[], wit, []⟩).memory Tryz.f6.params.toList Rows.objectTagsSpec.vars false wit.toList 8 = some (ds, [], places) :=
  ⟨[.agg [.agg [.lit (.int .u8 0), .lit (.int .u8 0), .lit (.int .u8 0), .lit (.int .u8 0), .lit (.int .u8 0), .lit (.int .u8 0), .lit (.int .u8 0), .lit (.int .u8 0), .lit (.int .u8 0), .lit (.int .u8 0), .lit (.int .u8 0), .lit (.int .u8 0), .lit (.int .u8 0), .lit (.int .u8 0), .lit (.int .u8 0), .lit (.int .u8 0), .lit (.int .u8 0), .lit (.int .u8 0), .lit (.int .u8 0), .lit (.int .u8 0)], .lit (.int .i64 0), .lit (.string []), .agg [.lit (.string []), .lit (.string []), .lit (.int .i64 0), .lit (.int .i64 0)], .lit (.string [])], .nil], [], by kernel_rfl⟩

set_option maxRecDepth 100000 in
theorem lifted (os : Os) (started : os.Started) (H : Type) (enc : TypeId × Value → H) (F : Stop.Interp) :
    ReturnsInHanded {} Tryz.checked os 6 .any ((OpenSpec.ofChange Rows.objectTagsSpec).preRow enc Tryz.prog Tryz.f6 Rows.objectTagsRow.domain false Rows.objectTagsRow.laid) (((OpenSpec.ofChange Rows.objectTagsSpec).at F).post enc Tryz.prog Tryz.f6 false true false false) := by
  obtain ⟨ds, places, hx⟩ := reads os enc
  refine returnsInHanded_of_row (C := Tryz.checked) (s := OpenSpec.ofChange Rows.objectTagsSpec) own started (by kernel_rfl) Tryz.func6
    (witness_row_at (enc := enc) (C := Tryz.checked) false (layIn (World.holding Tryz.prog os ⟨#[], #[], []⟩)) wit rfl (by kernel_rfl) (by kernel_rfl) (by kernel_rfl)
      (OpenSpec.preRow_of_cond 8 hx (by kernel_rfl) (fun k hk => by cases hk) (by kernel_rfl) (laid_met os))) ?_
  intro W base args ds gs before hval hW _ _ hsz hL hsh _
  exact contract H enc W base args ds gs before hval hW hsz hL hsh

theorem said : Rows.ObjectTagsSaid :=
  OpenClaim.holds_of_cond 6 Tryz.f6 rfl rfl rfl rfl rfl rfl rfl ⟨rfl, rfl, rfl, rfl, rfl⟩ rfl rfl rfl rfl rfl (by kernel_rfl) Tryz.func6 (by kernel_rfl)
    (of_decide_eq_true (by kernel_rfl)) (by unfold Func.isWrapper; first | (rw [if_pos (by decide +kernel)]; kernel_rfl) | (rw [if_neg (by decide +kernel)]; exact ⟨rfl, rfl⟩))
    (fun os started H enc _ F => by rw [OpenClaim.pre_eq_preRow]; exact lifted os started H enc F)

theorem plain (f : FuncId) (fn : Func) (hf : Tryz.pinned.checked.prog.funcNamed "gitlike/gitlikelaw3.ObjectTags" = some f) (hfn : Tryz.pinned.checked.prog.funcs[f]? = some fn) :
    true = Tryz.pinned.checked.prog.looks [] ∧ ∀ (j : Nat) t, fn.params[j]? = some t → Tryz.pinned.checked.prog.wantsStandIn t = false := by
  obtain rfl : f = 6 := Option.some.inj ((show Tryz.prog.funcNamed "gitlike/gitlikelaw3.ObjectTags" = some 6 by kernel_rfl).symm.trans hf) |>.symm
  obtain rfl : fn = Tryz.f6 := (Option.some.inj (Tryz.func6.symm.trans hfn)).symm
  refine ⟨by kernel_rfl, fun j t ht => ?_⟩
  rw [Tryz.params6] at ht
  have hm : t = 71 ∨ t = 23 := by simpa using Array.mem_of_getElem? ht
  rcases hm with rfl | rfl
  · exact (show Tryz.prog.wantsStandIn 71 = false by kernel_rfl)
  · exact (show Tryz.prog.wantsStandIn 23 = false by kernel_rfl)

end Go.Proofs.YtbpdielmdhhdfaaGreatDoor.Tags
namespace Go.Proofs.YtbpdielmdhhdfaaGreatDoor
/-- THE CARD -/
theorem objectTags_card : Rows.ObjectTagsCardSaid :=
  Claim7.holds_tied_plain_at .later [] _ _ _ _ Tags.said (fun _ h => by cases h) (by kernel_rfl) (fun _ h => by cases h) objectTags_row_tie rfl ⟨rfl, rfl⟩ (by kernel_rfl) rfl Tags.plain (by kernel_rfl)
#print axioms objectTags_card
end Go.Proofs.YtbpdielmdhhdfaaGreatDoor
