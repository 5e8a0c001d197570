/- THE LAW 'WireLines': its row, its card. -/
import Derived.Test.YtbcbikdfidmecaaDoorWcH
import Derived.Test.YtbcbikdfidmecaaDoorCards
import Derived.Test.YtbcbikdfidmecaaDoorTie
import Derived.WalkKit
import Derived.ProofKit
import Derived.OpenShut
import Derived.Below
import Derived.Deep.DeepHandedRow
import Derived.Lib.LaidTab
import Derived.LaidLaws
import Derived.LaidHandle
import Derived.ChangeSame
import Derived.Deep.Slices
namespace Go.Proofs.YtbcbikdfidmecaaDoor.Lines
open Go.ChangeShapes Go.WideShapes Go.ChangeAt Go.RowKit
set_option linter.unusedVariables false
set_option linter.unusedSectionVars false

theorem own : ownKnob Tryd.prog.godebug = none := by kernel_rfl
theorem laidOut : laidOutB Tryd.prog = true := by kernel_rfl
theorem et : Tryd.prog.globalNamed "errors.errorType" = some 0 := by kernel_rfl
theorem rt : (Tryd.prog.cutTypes.find? (·.1 == "internal/reflectlite.rtype")).map (·.2) = some 67 := by kernel_rfl
theorem oneRow : ((List.range 156).filter fun t => Tryd.prog.rowNamed t [101, 114, 114, 111, 114]) = [26] := by kernel_rfl
theorem tsize : Tryd.prog.types.size = 156 := by kernel_rfl
theorem params3 : Tryd.f3.params = #[22, 23] := by kernel_rfl
theorem laidMet_tail {P : Program} {W : World} {n : String} {d : DataW Unit} {r : List (String × DataW Unit)} (h : laidMet P ((n, d) :: r) W) : laidMet P r W := by
  obtain ⟨ps, ⟨g, t, cs, fuel, p, q, _, _, _, _, hq, rfl⟩, hn, hall⟩ := h
  exact ⟨q, hq, (List.nodup_append.1 hn).2.1, fun b off hb => hall b off (List.mem_append.2 (.inr hb))⟩
def deb64 : List Int := [0, 1, 56, 2, 57, 49, 28, 3, 61, 58, 42, 50, 38, 29, 17, 4, 62, 47, 59, 36, 45, 43, 51, 22, 53, 39, 33, 30, 24, 18, 12, 5, 63, 55, 48, 27, 60, 41, 37, 16, 46, 35, 44, 21, 52, 32, 23, 11, 54, 26, 40, 15, 34, 20, 31, 10, 25, 14, 19, 9, 13, 8, 7, 6]
def dataRows : List (String × DataW Unit) := [("math/bits.deBruijn32tab", Rows.laid_math_bits_deBruijn32tab), ("math/bits.deBruijn64tab", Lib.tabData .u8 deb64), ("internal/strconv.uint64pow10", Rows.laid_internal_strconv_uint64pow10), ("strconv.ErrRange", Rows.laid_strconv_ErrRange), ("strconv.ErrSyntax", Rows.laid_strconv_ErrSyntax)]
def handleRows : List (String × DataW Unit) := [("errors.errorType", Rows.laid_errors_errorType)]
theorem parts_of {W : World} (h : laidMetH Tryd.prog Rows.wireLinesRow.laid W) : laidMet Tryd.prog dataRows W ∧ handlesMet Tryd.prog handleRows W := h
theorem handle_of_laid {W : World} (h : laidMetH Tryd.prog Rows.wireLinesRow.laid W) : Hg W := by
  obtain ⟨name, u, ty, e1, e2, e3, e4, e5⟩ := (parts_of h).2 _ (List.mem_singleton.2 rfl)
  have en : name = [101, 114, 114, 111, 114] := (Option.some.inj e1).symm
  subst en
  obtain rfl := Option.some.inj (rt.symm.trans e2)
  have hm : ty ∈ (List.range 156).filter fun t => Tryd.prog.rowNamed t [101, 114, 114, 111, 114] := List.mem_filter.2 ⟨List.mem_range.2 (by rw [← tsize]; exact e3), e4⟩
  rw [oneRow] at hm
  obtain rfl := List.mem_singleton.1 hm
  have hh : typeHandle Tryd.prog 26 = .pointer (some ⟨7, 26, none⟩) := by kernel_rfl
  rw [hh] at e5
  have := World.var?_cell et e5 0
  unfold Hg
  simpa using this
/-- What reads as data of an interface's type is nil or a value with its type. -/
theorem trod_iface {H : Type} {enc : TypeId × Value → H} {P : Program} {w : World} {base : Nat} {spare : Nat → Bool} {held : Bool} {fuel : Nat} {t : TypeId} {cs : List Value} {x : DataW H × List MemPlace} {ms : Array (String × TypeId)} (ht : P.underlying t = some (.interface ms))
    (h : DataW.trod enc P w base spare held fuel t cs = some x) : cs = [.nilIface] ∨ ∃ u v, cs = [.iface u v] := by
  cases fuel with
  | zero => simp [DataW.trod] at h
  | succ n =>
    unfold DataW.trod at h
    rw [ht] at h
    split at h <;> simp_all
theorem iface_of_laid {P : Program} {W : World} {n : String} {d : DataW Unit} {r : List (String × DataW Unit)} {g : Nat} {t : TypeId} {ms : Array (String × TypeId)} (hg : P.globalNamed n = some g) (ht : (P.globals[g]?).map (·.type) = some t) (hu : P.underlying t = some (.interface ms))
    (h : laidMet P ((n, d) :: r) W) : ∃ ev, W.cell? ⟨g, 0, none⟩ = some ev ∧ (ev = .nilIface ∨ ∃ te pe, ev = .iface te pe) := by
  obtain ⟨ps, ⟨g', t', cs, fuel, p, q, e1, e2, e3, e4, hq, rfl⟩, hn, hall⟩ := h
  obtain rfl := Option.some.inj (hg.symm.trans e1)
  obtain rfl := Option.some.inj (ht.symm.trans e2)
  have hc := World.var?_cell hg e3 0
  rcases trod_iface hu e4 with h | ⟨u, v, h⟩
  · have : cs = #[.nilIface] := Array.toList_inj.1 (by simpa using h)
    subst this
    exact ⟨_, by simpa using hc, .inl rfl⟩
  · have : cs = #[.iface u v] := Array.toList_inj.1 (by simpa using h)
    subst this
    exact ⟨_, by simpa using hc, .inr ⟨u, v, rfl⟩⟩
theorem g5 : Tryd.prog.globalNamed "strconv.ErrSyntax" = some 2 := by kernel_rfl
theorem g6 : Tryd.prog.globalNamed "strconv.ErrRange" = some 3 := by kernel_rfl
theorem t5 : (Tryd.prog.globals[2]?).map (·.type) = some 26 := by kernel_rfl
theorem t6 : (Tryd.prog.globals[3]?).map (·.type) = some 26 := by kernel_rfl
theorem ers_of_laid {W : World} (h : laidMetH Tryd.prog Rows.wireLinesRow.laid W) : Ers W := by
  have h4 := laidMet_tail (laidMet_tail (laidMet_tail (parts_of h).1))
  exact ⟨iface_of_laid g5 t5 Tryd.underlying26 (laidMet_tail h4), iface_of_laid g6 t6 Tryd.underlying26 h4⟩
theorem deb_at : Tryd.prog.globalNamed "math/bits.deBruijn64tab" = some 6 := by kernel_rfl
theorem dtype : (Tryd.prog.globals[6]?).map (·.type) = some 63 := by kernel_rfl
theorem c5 : Tryd.prog.cellsOf 5 = 1 := by kernel_rfl
theorem c63 : Tryd.prog.cellsOf 63 = 64 := by kernel_rfl
theorem und63 : Tryd.prog.underlying 63 = some (.array 64 5) := by kernel_rfl
theorem db_of_laid {W : World} (h : laidMetH Tryd.prog Rows.wireLinesRow.laid W) : Db W := by
  have ht : Lib.TabIs Tryd.prog W "math/bits.deBruijn64tab" .u8 deb64 := Lib.tabIs_of_head deb_at dtype und63 Tryd.underlying5 c5 c63 (laidMet_tail (parts_of h).1)
  exact ⟨by simpa [deb64] using World.var?_cell deb_at ht 15⟩
theorem cell_lt {w : World} {a : Addr} {v : Value} (h : w.cell? a = some v) : a.block < w.heap.size := by
  rcases Nat.lt_or_ge a.block w.heap.size with h' | h'
  · exact h'
  · simp [World.cell?, Array.getElem?_eq_none h'] at h
theorem bytes5 : Tryd.prog.bytesOf 5 = 1 := by kernel_rfl
theorem lits_len {H : Type} (k : IntKind) (l : List Int) : (lits (H := H) k l).length = l.length := by simp [lits]
theorem bytes_of : ∀ (l : List Int), (∀ n ∈ l, 0 ≤ n ∧ n < 256) → nums (l.map fun z => UInt8.ofNat z.toNat) = l
  | [], _ => rfl
  | x :: l, h => by
    have ih := bytes_of l (fun n hn => h n (by simp [hn]))
    have hx := h x (by simp)
    unfold nums at ih ⊢
    rw [List.map_cons, List.map_cons, ih]
    congr 1
    simp
    omega
theorem open_one {H : Type} {enc : TypeId × Value → H} {W : World} {m : Nat} {v : Value} {y : DataW H × List MemPlace} (h : DataW.trod enc Tryd.prog W 0 (fun _ => true) true m 23 [v] = some y) : ∃ (a : Option Addr) (c : Nat) (s : Str), v = .slice a s.length c ∧ PB W a c s ∧ (s.length = 0 ∨ ∃ n, n ∈ y.1.weights Tryd.prog 23 ∧ s.length ≤ n) := by
  rcases open_ints Tryd.underlying23 Tryd.underlying5 (by kernel_rfl) h with ⟨hcs, _⟩ | ⟨x, l, c, zs, hcs, _, hl, hm, hz, hy, hcell, hwz⟩
  · simp only [List.cons.injEq, and_true] at hcs
    subst hcs
    exact ⟨none, 0, [], rfl, pb_none W, .inl rfl⟩
  · simp only [List.cons.injEq, and_true] at hcs
    subst hcs
    simp only [if_true] at hz
    have hlen : (zs.take l).length = l := by rw [List.length_take]; omega
    have hb : ∀ n ∈ zs.take l, 0 ≤ n ∧ n < 256 := fun n hn => by
      have := bounds_u8 (hwz n (List.mem_of_mem_take hn))
      omega
    obtain ⟨s, hs⟩ : ∃ s : Str, (zs.take l).map (fun z => UInt8.ofNat z.toNat) = s := ⟨_, rfl⟩
    have hn := bytes_of _ hb
    rw [hs] at hn
    have hsl : s.length = l := by rw [← hs, List.length_map, hlen]
    refine ⟨some x, c, s, by rw [hsl], ?_, .inr ⟨c, ?_, by rw [hsl]; exact hl⟩⟩
    rotate_left
    · rw [hy]
      simp only [DataW.weights, Tryd.underlying23, lits_len, bytes5, List.mem_cons]
      left
      rw [List.length_take, List.length_drop]; omega
    by_cases h0 : s.length = 0
    · exact ⟨by omega, fun h => by omega, fun h => by cases h⟩
    · obtain ⟨b, off, spot⟩ := x
      have hc := hcell 0 (by omega)
      have hspot : spot = none := by simpa [Addr.add] using World.cell?_spot hc
      subst hspot
      refine at_pb (cell_lt hc) (by omega) (fun i hi => ?_)
      rw [hn, hlen] at hi
      have := hcell i (by omega)
      rw [addr_add] at this
      rw [this, hn]
      simp [hi]
theorem cells23 : Tryd.prog.cellsOf 23 = 1 := by kernel_rfl
theorem addr_add_zero (a : Addr) : a.add 0 = a := by unfold Addr.add; split <;> simp_all
theorem mem_all {H : Type} {P : Program} {e : TypeId} {d : DataW H} {n : Nat} : ∀ {l : List (DataW H)}, d ∈ l → n ∈ d.weights P e → n ∈ DataW.weightsAll P e l
  | x :: r, h, hn => by
    rw [DataW.weightsAll, List.mem_append]
    rcases List.mem_cons.1 h with rfl | h
    · exact .inl hn
    · exact .inr (mem_all h hn)
set_option maxRecDepth 100000 in
/-- Slices of bytes, opened. -/
theorem open_rows {H : Type} {enc : TypeId × Value → H} {W : World} {m : Nat} {a : Option Addr} {len cap : Nat} {y : DataW H × List MemPlace} (h : DataW.trod enc Tryd.prog W 0 (fun _ => true) true m 22 [.slice a len cap] = some y)
    (hw : ∀ n ∈ y.1.weights Tryd.prog 22, n ≤ 140737488355328) : ∃ ts : List Hdr, ts.length = len ∧ PT W a cap ts ∧ AT W ts ∧ ∀ t ∈ ts, t.2.2.length ≤ 140737488355328 := by
  rcases DataW.trod_slice Tryd.underlying22 h with ⟨hcs, _⟩ | ⟨x, l, c, elems, rest, n, _, hcs, hx, hb, hl, hm, hlen, hel, _, _⟩
  · simp only [List.cons.injEq, and_true, Value.slice.injEq] at hcs
    obtain ⟨rfl, rfl, rfl⟩ := hcs
    exact ⟨[], rfl, ⟨Nat.le_refl _, (fun h => by cases h), fun _ => rfl⟩, (fun t ht => by cases ht), (fun t ht => by cases ht)⟩
  · simp only [List.cons.injEq, and_true, Value.slice.injEq] at hcs
    obtain ⟨rfl, rfl, rfl⟩ := hcs
    have hd0 : y.1 = .slice (elems.map (·.1)) (rest.map (·.1)) := congrArg Prod.fst hx
    have each : ∀ j, ∃ t : Hdr, j < len → (W.cell? (x.add j) = some (.slice t.1 t.2.2.length t.2.1) ∧ PB W t.1 t.2.1 t.2.2 ∧ t.2.2.length ≤ 140737488355328) := by
      intro j
      by_cases hj : j < len
      · have h1 := hel j hj
        rw [cells23, Nat.mul_one] at h1
        have h2 : elems[j]? = some elems[j] := List.getElem?_eq_getElem (by omega)
        rw [h2, Option.bind_eq_some_iff] at h1
        obtain ⟨cs, hcs, htr⟩ := h1
        have hcs1 : ∃ v, cs = [v] ∧ W.cell? (x.add j) = some v := by
          simp only [World.cells?] at hcs
          split at hcs
          · cases hv : W.cell? (x.add j) with
            | none => simp [List.range_succ, addr_add_zero, hv] at hcs
            | some v =>
              simp [List.range_succ, addr_add_zero, hv] at hcs
              exact ⟨v, hcs.symm, rfl⟩
          · cases hcs
        obtain ⟨v, rfl, hv⟩ := hcs1
        obtain ⟨ta, tc, s, rfl, hpb, hb⟩ := open_one htr
        refine ⟨(ta, tc, s), fun _ => ⟨hv, hpb, ?_⟩⟩
        show s.length ≤ _
        rcases hb with h | ⟨k, hk1, hk2⟩
        · omega
        · have hmem : k ∈ y.1.weights Tryd.prog 22 := by
            rw [hd0]
            simp only [DataW.weights, Tryd.underlying22, List.mem_cons, List.mem_append]
            right; left
            exact mem_all (d := elems[j].1) (List.mem_map.2 ⟨elems[j], List.getElem_mem _, rfl⟩) hk1
          have := hw k hmem
          omega
      · exact ⟨dT, fun h => absurd h hj⟩
    obtain ⟨f, hf⟩ := Classical.axiomOfChoice each
    have hgt : ∀ i, i < len → ((List.range len).map f).getD i dT = f i := fun i hi => by
      rw [List.getD_eq_getElem?_getD, List.getElem?_map, List.getElem?_range hi]; rfl
    have hmem : ∀ t ∈ (List.range len).map f, ∃ j, j < len ∧ t = f j := fun t ht => by
      obtain ⟨j, hj, e⟩ := List.mem_map.1 ht
      exact ⟨j, List.mem_range.1 hj, e.symm⟩
    refine ⟨(List.range len).map f, by simp, ⟨by simp; exact hl, fun h0 => ?_, fun e => by cases e⟩, fun t ht => ?_, fun t ht => ?_⟩
    · have h0' : 0 < len := by simpa using h0
      obtain ⟨b, off, spot⟩ := x
      have hc := (hf 0 h0').1
      have hspot : spot = none := by simpa [Addr.add] using World.cell?_spot hc
      subst hspot
      have hlt := cell_lt hc
      rw [addr_add] at hlt
      refine ⟨b, off, rfl, hlt, fun i hi j v hv => ?_⟩
      have hi' : i < len := by simpa using hi
      rw [hgt i hi'] at hv
      have hj : j = 0 := by
        have := (List.getElem?_eq_some_iff.1 hv).1
        simp [encT] at this
        exact this
      subst hj
      have h2 := (hf i hi').1
      rw [addr_add] at h2
      rw [show off + i * 1 + 0 = off + i by omega, h2]
      exact hv
    · obtain ⟨j, hj, rfl⟩ := hmem t ht
      exact (hf j hj).2.1
    · obtain ⟨j, hj, rfl⟩ := hmem t ht
      exact (hf j hj).2.2
set_option maxRecDepth 100000 in
theorem contract (H : Type) (enc : TypeId × Value → H) (W : World) (base : Nat) (args : Array Value) (ds gs : List (DataW H)) (before : List MemPlace)
    (hval : ∀ (j : Nat) t v, Tryd.f3.params[j]? = some t → args[j]? = some v → Value.okWide Tryd.prog W .any base t v)
    (hW : DataW.Whole enc Tryd.prog Tryd.f3.params.toList Rows.wireLinesSpec.vars false W args.toList ds gs before)
    (hsz : (DataW.weightsEach Tryd.prog (Tryd.f3.params.toList ++ (OpenSpec.ofChange Rows.wireLinesSpec).bare.plain.varTypes Tryd.prog) (ds ++ gs)).all (· ≤ reachBytes) = true)
    (hL : laidMetH Tryd.prog Rows.wireLinesRow.laid W) (hsh : W.ShapedOpen Tryd.prog) :
    Calls Tryd.prog 3 args W fun e W' => ∃ v, e = .returned v ∧ Rows.wireLinesSpec.post enc Tryd.prog Tryd.f3 false true false false W args v W' := by
  have hW' := hW
  obtain ⟨p, q, hA0, hV, rfl, hfz, hnd⟩ := hW
  have hA : DataW.TrodAll enc Tryd.prog W 0 (fun _ => true) true Tryd.f3.params.toList args.toList ds p := hA0
  rw [params3] at hA hval hsz
  obtain ⟨v0, vs0, d0, ds0, p0, q0, hargs, rfl, rfl, h0, r0⟩ := trodAll_cons hA
  obtain ⟨v1, vs1, d1, ds1, p1, q1, rfl, rfl, rfl, h1, r1⟩ := trodAll_cons r0
  obtain ⟨rfl, rfl, rfl⟩ := trodAll_nil r1
  obtain rfl : args = #[v0, v1] := by cases args; simp_all
  obtain ⟨rfl, rfl⟩ := trodVars_none hV
  have k0 := h0
  have k1 := h1
  have lt0 : ∀ x ∈ p0, x.block < W.heap.size := by obtain ⟨m, hm⟩ := k0; exact DataW.trod_lt m _ _ _ hm
  have lt1 : ∀ x ∈ p1, x.block < W.heap.size := by obtain ⟨m, hm⟩ := k1; exact DataW.trod_lt m _ _ _ hm
  obtain ⟨a0, len0, cap0, rfl⟩ := okWide_slice Tryd.underlying22 (hval 0 22 v0 rfl rfl)
  obtain ⟨a1, len1, cap1, rfl⟩ := okWide_slice Tryd.underlying23 (hval 1 23 v1 rfl rfl)
  clear hA0
  have hw0 : ∀ n ∈ d0.weights Tryd.prog 22, n ≤ 140737488355328 := fun n hn => by
    have hmem : n ∈ DataW.weightsEach Tryd.prog ([22, 23] ++ (OpenSpec.ofChange Rows.wireLinesSpec).bare.plain.varTypes Tryd.prog) ([d0, d1] ++ []) := by
      simp only [List.cons_append, List.nil_append, List.append_nil, DataW.weightsEach, List.mem_append]
      exact .inl hn
    have hle : n ≤ reachBytes := of_decide_eq_true (List.all_eq_true.1 hsz n hmem)
    unfold reachBytes at hle
    omega
  have walk : Calls Tryd.prog 3 #[.slice a0 len0 cap0, .slice a1 len1 cap1] W fun e w' => e = .returned (.bool true) ∧ Below W.heap.size W w' := by
    obtain ⟨fuel0, hf0⟩ := h0
    obtain ⟨fuel1, hf1⟩ := h1
    obtain ⟨ab, cb, s, ev, hpb, _⟩ := open_one (y := (d1, p1)) hf1
    obtain ⟨ts, hts, hpt, hat, hbig⟩ := open_rows (y := (d0, p0)) hf0 hw0
    rw [ev, ← hts]
    by_cases hk : ts.length ≤ 60
    · by_cases hl : s.length ≤ 6000
      · exact walkL a0 cap0 ts hpt hat hbig hk ab cb s hpb hl (handle_of_laid hL) (ers_of_laid hL) (db_of_laid hL)
      · exact walkL_long _ _ _ _ _ _ W (.inr (by omega))
    · exact walkL_long _ _ _ _ _ _ W (.inl (by omega))
  refine walk.mono fun e W' ⟨he, bel⟩ => ?_
  subst he
  exact ⟨_, rfl, _, _, _, [], _, [], hW', trodAll_mk1 (shut_bool Tryd.underlying4 _), (trodAll_cons_mk (Below.trod laidOut (by kernel_rfl) (of_decide_eq_true (by kernel_rfl)) k0 bel lt0) (trodAll_cons_mk (Below.trod laidOut (by kernel_rfl) (of_decide_eq_true (by kernel_rfl)) k1 bel lt1) trodAll_mk0)), rfl, bel.frame _, fun h => by cases h⟩

/-- A block's cells, laid anew. -/
def relay (cs : Array Value) : Obj → Obj
  | .cells _ t frozen => .cells cs t frozen
  | o => o
/-- A WORLD FOR THE WITNESS: the variables' cells hold what their initialisers lay. -/
def layIn (w : World) : World :=
  { w with heap := ((((((w.heap.modify 0 (relay #[.iface 67 (.agg #[.pointer (some ⟨7, 26, none⟩)])])).modify 1 (relay #[.int .u64 1, .int .u64 10, .int .u64 100, .int .u64 1000, .int .u64 10000, .int .u64 100000, .int .u64 1000000, .int .u64 10000000, .int .u64 100000000, .int .u64 1000000000, .int .u64 10000000000, .int .u64 100000000000, .int .u64 1000000000000, .int .u64 10000000000000, .int .u64 100000000000000, .int .u64 1000000000000000, .int .u64 10000000000000000, .int .u64 100000000000000000, .int .u64 1000000000000000000, .int .u64 10000000000000000000])).modify 2 (relay #[.iface 126 (.pointer (some ⟨w.heap.size, 0, none⟩))])).modify 3 (relay #[.iface 126 (.pointer (some ⟨w.heap.size + 1, 0, none⟩))])).modify 5 (relay #[.int .u8 0, .int .u8 1, .int .u8 28, .int .u8 2, .int .u8 29, .int .u8 14, .int .u8 24, .int .u8 3, .int .u8 30, .int .u8 22, .int .u8 20, .int .u8 15, .int .u8 25, .int .u8 17, .int .u8 4, .int .u8 8, .int .u8 31, .int .u8 27, .int .u8 13, .int .u8 23, .int .u8 21, .int .u8 19, .int .u8 16, .int .u8 7, .int .u8 26, .int .u8 12, .int .u8 18, .int .u8 6, .int .u8 11, .int .u8 5, .int .u8 10, .int .u8 9])).modify 6 (relay #[.int .u8 0, .int .u8 1, .int .u8 56, .int .u8 2, .int .u8 57, .int .u8 49, .int .u8 28, .int .u8 3, .int .u8 61, .int .u8 58, .int .u8 42, .int .u8 50, .int .u8 38, .int .u8 29, .int .u8 17, .int .u8 4, .int .u8 62, .int .u8 47, .int .u8 59, .int .u8 36, .int .u8 45, .int .u8 43, .int .u8 51, .int .u8 22, .int .u8 53, .int .u8 39, .int .u8 33, .int .u8 30, .int .u8 24, .int .u8 18, .int .u8 12, .int .u8 5, .int .u8 63, .int .u8 55, .int .u8 48, .int .u8 27, .int .u8 60, .int .u8 41, .int .u8 37, .int .u8 16, .int .u8 46, .int .u8 35, .int .u8 44, .int .u8 21, .int .u8 52, .int .u8 32, .int .u8 23, .int .u8 11, .int .u8 54, .int .u8 26, .int .u8 40, .int .u8 15, .int .u8 34, .int .u8 20, .int .u8 31, .int .u8 10, .int .u8 25, .int .u8 14, .int .u8 19, .int .u8 9, .int .u8 13, .int .u8 8, .int .u8 7, .int .u8 6])) ++ #[.cells #[.string ⟨#[105, 110, 118, 97, 108, 105, 100, 32, 115, 121, 110, 116, 97, 120]⟩] 128, .cells #[.string ⟨#[118, 97, 108, 117, 101, 32, 111, 117, 116, 32, 111, 102, 32, 114, 97, 110, 103, 101]⟩] 128] }
def wit : Array Value := #[.slice none 0 0, .slice none 0 0]
theorem laid_met (os : Os) : laidMetH Tryd.prog Rows.wireLinesRow.laid ((layIn (World.holding Tryd.prog os ⟨#[], #[], []⟩)).forCall (fun _ _ => 0) ⟨#[], wit, []⟩).memory :=
  laidMetH_of_parts (laidMet_of_run' 8 (by kernel_rfl) (by kernel_rfl)) (by kernel_rfl)
theorem reads (os : Os) {H : Type} (enc : TypeId × Value → H) : ∃ ds places, DataW.whole enc Tryd.prog ((layIn (World.holding Tryd.prog os ⟨#[], #[], []⟩)).forCall (fun _ _ => 0) ⟨#[], wit, []⟩).memory Tryd.f3.params.toList Rows.wireLinesSpec.vars false wit.toList 8 = some (ds, [], places) :=
  ⟨[.nil, .nil], [], by kernel_rfl⟩

set_option maxRecDepth 100000 in
theorem lifted (os : Os) (started : os.Started) (H : Type) (enc : TypeId × Value → H) (F : Stop.Interp) :
    ReturnsInHanded {} Tryd.checked os 3 .any ((OpenSpec.ofChange Rows.wireLinesSpec).preRow enc Tryd.prog Tryd.f3 Rows.wireLinesRow.domain false Rows.wireLinesRow.laid) (((OpenSpec.ofChange Rows.wireLinesSpec).at F).post enc Tryd.prog Tryd.f3 false true false false) := by
  obtain ⟨ds, places, hx⟩ := reads os enc
  refine returnsInHanded_of_row (C := Tryd.checked) (s := OpenSpec.ofChange Rows.wireLinesSpec) own started (by kernel_rfl) Tryd.func3
    (witness_row_at (enc := enc) (C := Tryd.checked) false (layIn (World.holding Tryd.prog os ⟨#[], #[], []⟩)) wit rfl (by kernel_rfl) (by kernel_rfl) (by kernel_rfl)
      (OpenSpec.preRow_of_cond 8 hx (by kernel_rfl) (fun k hk => by cases hk) (by kernel_rfl) (laid_met os))) ?_
  intro W base args ds gs before hval hW _ _ hsz hL hsh _
  exact contract H enc W base args ds gs before hval hW hsz hL hsh

theorem said : Rows.WireLinesSaid := by
  exact OpenClaim.holds_of_cond 3 Tryd.f3 rfl rfl rfl rfl rfl rfl rfl ⟨rfl, rfl, rfl, rfl, rfl⟩ rfl rfl rfl rfl rfl (by kernel_rfl) Tryd.func3 (by kernel_rfl)
    (of_decide_eq_true (by kernel_rfl)) (by unfold Func.isWrapper; first | (rw [if_pos (by decide +kernel)]; kernel_rfl) | (rw [if_neg (by decide +kernel)]; exact ⟨rfl, rfl⟩))
    (fun os started H enc _ F => by rw [OpenClaim.pre_eq_preRow]; exact lifted os started H enc F)

theorem plain (f : FuncId) (fn : Func) (hf : Tryd.pinned.checked.prog.funcNamed "gitlike/gitlikelaw12.WireLines" = some f) (hfn : Tryd.pinned.checked.prog.funcs[f]? = some fn) :
    true = Tryd.pinned.checked.prog.looks [] ∧ ∀ (j : Nat) t, fn.params[j]? = some t → Tryd.pinned.checked.prog.wantsStandIn t = false := by
  obtain rfl : f = 3 := Option.some.inj ((show Tryd.prog.funcNamed "gitlike/gitlikelaw12.WireLines" = some 3 by kernel_rfl).symm.trans hf) |>.symm
  obtain rfl : fn = Tryd.f3 := (Option.some.inj (Tryd.func3.symm.trans hfn)).symm
  refine ⟨by kernel_rfl, fun j t ht => ?_⟩
  rw [params3] at ht
  have hm : t = 22 ∨ t = 23 := by simpa using Array.mem_of_getElem? ht
  rcases hm with rfl | rfl
  · exact (show Tryd.prog.wantsStandIn 22 = false by kernel_rfl)
  · exact (show Tryd.prog.wantsStandIn 23 = false by kernel_rfl)

end Go.Proofs.YtbcbikdfidmecaaDoor.Lines
namespace Go.Proofs.YtbcbikdfidmecaaDoor
/-- THE CARD -/
theorem wireLines_card : Rows.WireLinesCardSaid :=
  Claim7.holds_tied_plain_at .later [] _ _ _ _ Lines.said (fun _ h => by cases h) (by kernel_rfl) (fun _ h => by cases h) wireLines_row_tie rfl ⟨rfl, rfl⟩ (by kernel_rfl) rfl Lines.plain (by kernel_rfl)
#print axioms wireLines_card
end Go.Proofs.YtbcbikdfidmecaaDoor
