import Derived.Shelf.Small.Utf8
import Derived.Shelf.Small.Strs
import Derived.Shelf.Strings.Runes
import Derived.Shelf.Strings.IndexAnyAll
import Derived.Test.YtikmbjfambjmaaaGreatDoorProg
import Derived.Test.YtikmbjfambjmaaaGreatDoorChecked
import Derived.RowKit
import Derived.Below
import Derived.WalkKit
import Derived.WalkSpells
import Derived.WalkLawsBesides
import Derived.Deep.AppendLies
import Derived.Deep.LoopGhost
import Derived.Deep.RegionWith
import Derived.Deep.QuietTactic
import Derived.BigQuiet
import Derived.Laws.BitsAllLaws
import Derived.Laws.CopyOwn
import Derived.Laws.IdiomCopy
import Derived.Deep.RegionHeld3
import Derived.Deep.RegionLaw
import Derived.Deep.DrawnRows
import Derived.Deep.MidRow
import Derived.Maps.AppendAt
import Derived.Deep.RegionHeld
import Derived.OrdersHeld
import Derived.Laws.RangeAny
import Derived.Laws.Runes
import Derived.WalkMore
import Derived.Lib.SlBytesRow
import Derived.Lib.OthersKept
import Derived.Lib.TrimUEq
import Derived.Lib.SpaceUEq
import Derived.Lib.QuoteLoop
import Derived.RangeFuncNested
import Derived.RangeFuncBound
import Derived.RangeFuncCalls
import Derived.RangeFuncLeaves
import Derived.RangeFuncBox
import Derived.Shelf.Abstract
import Derived.Shelf.RegionOpen
import Derived.OwnWalkIn
import Derived.TacticsInMore
import Derived.LoopNIn
import Derived.LoopIn
import Derived.Sort.LoopGhostIn
namespace Go.Proofs.YtikmbjfambjmaaaGreatDoor.Ip
open Go.Shelf
def Tryz.lays119_ren : Go.Shelf.Ren := ⟨fun | 119 => 148 | n => n, fun | 21 => 21 | 4 => 4 | n => n, fun | n => n⟩
theorem Tryz.lays119 : Go.Proofs.Lays.n119 Tryz.prog Tryz.lays119_ren := {
  mixed := by kernel_rfl
  f119 := Tryz.func148.trans (congrArg some (by kernel_rfl))
  t4 := Tryz.underlying4
  a4 := Tryz.isAgg4
  z4 := Tryz.sizeOf4
  v4 := Tryz.zeroValue4
  t21 := Tryz.underlying21
  a21 := Tryz.isAgg21
  z21 := Tryz.sizeOf21
  v21 := Tryz.zeroValue21 }
def Tryz.lays137_ren : Go.Shelf.Ren := ⟨fun | 137 => 147 | 217 => 100 | 266 => 130 | n => n, fun | 9 => 9 | 5 => 5 | 3 => 3 | n => n, fun | n => n⟩
theorem Tryz.lays137 : Go.Proofs.Lays.n137 Tryz.prog Tryz.lays137_ren := {
  mixed := by kernel_rfl
  f137 := Tryz.func147.trans (congrArg some (by kernel_rfl))
  f217 := Tryz.func100.trans (congrArg some (by kernel_rfl))
  f266 := Tryz.func130.trans (congrArg some (by kernel_rfl))
  t3 := Tryz.underlying3
  a3 := Tryz.isAgg3
  z3 := Tryz.sizeOf3
  v3 := Tryz.zeroValue3
  t5 := Tryz.underlying5
  a5 := Tryz.isAgg5
  z5 := Tryz.sizeOf5
  v5 := Tryz.zeroValue5
  t9 := Tryz.underlying9
  a9 := Tryz.isAgg9
  z9 := Tryz.sizeOf9
  v9 := Tryz.zeroValue9 }
def Tryz.lays152_ren : Go.Shelf.Ren := ⟨fun | 152 => 126 | 137 => 147 | 119 => 148 | 224 => 102 | 225 => 101 | 217 => 100 | 266 => 130 | n => n, fun | 9 => 9 | 21 => 21 | 3 => 3 | 4 => 4 | 5 => 5 | 0 => 0 | 46 => 129 | n => n, fun | n => n⟩
theorem Tryz.lays152 : Go.Proofs.Lays.n152 Tryz.prog Tryz.lays152_ren := {
  mixed := by kernel_rfl
  f119 := Tryz.func148.trans (congrArg some (by kernel_rfl))
  f137 := Tryz.func147.trans (congrArg some (by kernel_rfl))
  f152 := Tryz.func126.trans (congrArg some (by kernel_rfl))
  f217 := Tryz.func100.trans (congrArg some (by kernel_rfl))
  f224 := Tryz.func102.trans (congrArg some (by kernel_rfl))
  f225 := Tryz.func101.trans (congrArg some (by kernel_rfl))
  f266 := Tryz.func130.trans (congrArg some (by kernel_rfl))
  t0 := Tryz.underlying0
  a0 := Tryz.isAgg0
  z0 := Tryz.sizeOf0
  v0 := Tryz.zeroValue0
  t3 := Tryz.underlying3
  a3 := Tryz.isAgg3
  z3 := Tryz.sizeOf3
  v3 := Tryz.zeroValue3
  t4 := Tryz.underlying4
  a4 := Tryz.isAgg4
  z4 := Tryz.sizeOf4
  v4 := Tryz.zeroValue4
  t5 := Tryz.underlying5
  a5 := Tryz.isAgg5
  z5 := Tryz.sizeOf5
  v5 := Tryz.zeroValue5
  t9 := Tryz.underlying9
  a9 := Tryz.isAgg9
  z9 := Tryz.sizeOf9
  v9 := Tryz.zeroValue9
  t21 := Tryz.underlying21
  a21 := Tryz.isAgg21
  z21 := Tryz.sizeOf21
  v21 := Tryz.zeroValue21
  t46 := Tryz.underlying129
  a46 := Tryz.isAgg129
  z46 := Tryz.sizeOf129
  v46 := Tryz.zeroValue129 }
def Tryz.lays153_ren : Go.Shelf.Ren := ⟨fun | 153 => 96 | 152 => 126 | 226 => 127 | 227 => 128 | 228 => 129 | 137 => 147 | 119 => 148 | 224 => 102 | 225 => 101 | 217 => 100 | 266 => 130 | n => n, fun | 9 => 9 | 3 => 3 | 4 => 4 | 5 => 5 | 21 => 21 | 117 => 219 | 116 => 218 | 0 => 0 | 46 => 129 | 124 => 241 | n => n, fun | n => n⟩
theorem Tryz.lays153 : Go.Proofs.Lays.n153 Tryz.prog Tryz.lays153_ren := {
  mixed := by kernel_rfl
  f119 := Tryz.func148.trans (congrArg some (by kernel_rfl))
  f137 := Tryz.func147.trans (congrArg some (by kernel_rfl))
  f152 := Tryz.func126.trans (congrArg some (by kernel_rfl))
  f153 := Tryz.func96.trans (congrArg some (by kernel_rfl))
  f217 := Tryz.func100.trans (congrArg some (by kernel_rfl))
  f224 := Tryz.func102.trans (congrArg some (by kernel_rfl))
  f225 := Tryz.func101.trans (congrArg some (by kernel_rfl))
  f226 := Tryz.func127.trans (congrArg some (by kernel_rfl))
  f227 := Tryz.func128.trans (congrArg some (by kernel_rfl))
  f228 := Tryz.func129.trans (congrArg some (by kernel_rfl))
  f266 := Tryz.func130.trans (congrArg some (by kernel_rfl))
  t0 := Tryz.underlying0
  a0 := Tryz.isAgg0
  z0 := Tryz.sizeOf0
  v0 := Tryz.zeroValue0
  t3 := Tryz.underlying3
  a3 := Tryz.isAgg3
  z3 := Tryz.sizeOf3
  v3 := Tryz.zeroValue3
  t4 := Tryz.underlying4
  a4 := Tryz.isAgg4
  z4 := Tryz.sizeOf4
  v4 := Tryz.zeroValue4
  t5 := Tryz.underlying5
  a5 := Tryz.isAgg5
  z5 := Tryz.sizeOf5
  v5 := Tryz.zeroValue5
  t9 := Tryz.underlying9
  a9 := Tryz.isAgg9
  z9 := Tryz.sizeOf9
  v9 := Tryz.zeroValue9
  t21 := Tryz.underlying21
  a21 := Tryz.isAgg21
  z21 := Tryz.sizeOf21
  v21 := Tryz.zeroValue21
  t46 := Tryz.underlying129
  a46 := Tryz.isAgg129
  z46 := Tryz.sizeOf129
  v46 := Tryz.zeroValue129
  t116 := Tryz.underlying218
  a116 := Tryz.isAgg218
  z116 := Tryz.sizeOf218
  t117 := Tryz.underlying219
  a117 := Tryz.isAgg219
  z117 := Tryz.sizeOf219
  v117 := Tryz.zeroValue219
  t124 := Tryz.underlying241
  a124 := Tryz.isAgg241
  z124 := Tryz.sizeOf241
  v124 := Tryz.zeroValue241 }
end Go.Proofs.YtikmbjfambjmaaaGreatDoor.Ip
namespace Go.Proofs.YtikmbjfambjmaaaGreatDoor.Ip
open Go.RowKit
set_option linter.unusedVariables false
theorem hid {p : Prop} (h : p) : Hid p := h
def row (k : IntKind) (zs : List Int) : List Value := zs.map (Value.int k)
end Go.Proofs.YtikmbjfambjmaaaGreatDoor.Ip
namespace Go.Proofs.YtikmbjfambjmaaaGreatDoor.Ip
open Go.RowKit
set_option linter.unusedVariables false
set_option linter.unusedSimpArgs false
theorem step_callv {P : Program} {ops : Array Oper} {o : Oper} {a : Act} {w : World} {K : Act → World → Prop} {Q : Exit → Act → World → Prop} {E : Prop} (hg : o.guard = none) (f : FuncId) (args : List Operand) (ts : Array TypeId) (vs : List Value) (R : Ending → World → Prop)
    (ho : o.op = .call { callee := .value (.func f), args := args.toArray, argTypes := ts }) (hx : args.map a.eval = vs) (hent : ∀ w : World, (callFunc f vs.toArray).run P w = .ok (.enter f vs.toArray) w)
    (hc : Calls P f vs.toArray w R) (h : ∀ e w', R e w' → ∃ r, e = .returned r ∧ K (a.put o.dst r) w') :
    if Region.wanted o (yielded ops a.tmps) = true then Oper.wp P o a w K Q else E := by
  have hw : Region.wanted o (yielded ops a.tmps) = true := by simp [Region.wanted, hg]
  rw [if_pos hw]
  unfold Oper.wp
  simp only [execOp, ho, resolve, invoke, go_sem, List.map_toArray, hx, hent]
  simp [go_sem, hent, Oper.upon_enter]
  refine hc.mono ?_
  intro e w' hr
  obtain ⟨r, rfl, hk⟩ := h e w' hr
  exact hk
theorem takeL {P : Program} {md : Region.Mode} {Q : Exit → Act → World → Prop} {S : World → Prop} {l : List Oper} {i : Nat} {oi : Oper} {v : Value} {fuel : Nat} {listed : Array Bool} {a : Act} {w : World} (hi : l[i]? = some oi)
    (hs : Region.noSelect l.toArray = true) (hf : Region.free md l.toArray listed i = true) (hr : (Region.ready md l.toArray listed).contains i = true)
    (hQ : ∀ c a w, Q (.panic c) (a.put oi.dst v) w → Q (.panic c) a w) (hy : YieldsIf P l.toArray S oi v a) (hS : S w)
    (h : wpAnyH P md l.toArray Q S fuel (listed.setIfInBounds i true) (a.put oi.dst v) w) : wpAnyH P md l.toArray Q S (fuel + 1) listed a w :=
  wpAnyH_take (by rw [List.getElem?_toArray]; exact hi) hs hf hr hQ hy hS h
theorem consL {P : Program} {md : Region.Mode} {Q : Exit → Act → World → Prop} {S : World → Prop} {l : List Oper} {fuel : Nat} {listed : Array Bool} {a : Act} {w : World} {i : Nat} {o : Oper} {rs : List Nat} (ho : l[i]? = some o)
    (h : ∀ K' : Act → World → Prop, Shut (∀ a w, S w → (S w → wpAnyH P md l.toArray Q S fuel (listed.setIfInBounds i true) a w) → K' a w) → if Region.wanted o (yielded l.toArray a.tmps) = true then Oper.wp P o a w K' Q else K' (a.put o.dst undef) w)
    (hs : AllReadyH P md l.toArray Q S fuel listed a w rs) : AllReadyH P md l.toArray Q S fuel listed a w (i :: rs) := AllReadyH.cons (by rw [List.getElem?_toArray]; exact ho) h hs
end Go.Proofs.YtikmbjfambjmaaaGreatDoor.Ip
namespace Go.Proofs.YtikmbjfambjmaaaGreatDoor.Ip
open Go.RowKit
set_option linter.unusedVariables false
set_option linter.unusedSimpArgs false
theorem wrap_i64 (n : Nat) (h : n < 9223372036854775808) : IntKind.i64.wrap (n : Int) = n := by
  rw [IntKind.wrap_i64]; omega
theorem iter_below (w : World) (s : ByteArray) (i : Nat) : Below w.heap.size w (w.iter s i) := (Below.refl _ w).alloc (Nat.le_refl _) _
def Asc (s : ByteArray) : Prop := ∀ j (h : j < s.size), (s[j]'h).toNat < 128
set_option maxRecDepth 20000 in
set_option maxHeartbeats 1000000 in
theorem indexRune_err (s : ByteArray) (hs : Asc s) (h8 : s.size ≤ 100) (w : World) : Calls Tryz.prog 126 #[.string s, .int .i32 65533] w fun e w' => e = .returned (.int .i64 (-1)) ∧ Below w.heap.size w w' := by
  have HS : Hid (Asc s) := hs
  clear hs
  go_enter Tryz.func126, Tryz.ntmps126
  go_wp2_with fail
  go_loopg [5, 6] s.size (fun g _ _ wx => ∃ i : Nat, i + g = s.size ∧ wx = w.iter s i)
  case atStart => exact ⟨0, by omega, rfl⟩
  case round =>
    obtain ⟨i, hig, rfl⟩ := hrel
    cases gk with
    | zero =>
      obtain rfl : i = s.size := by omega
      have hnx := fun ty => run_next_end (P := Tryz.prog) w s s.size ty (Nat.lt_irrefl _)
      go_wp2
      go_ret
      exact ⟨rfl, iter_below _ _ _⟩
    | succ g =>
      have hi : i < s.size := by omega
      obtain ⟨x, hx⟩ : ∃ x : UInt8, s[i]'hi = x := ⟨_, rfl⟩
      have hx128 : x.toNat < 128 := by rw [← hx]; exact HS.out i hi
      have hnx := fun ty => run_next_ascii (P := Tryz.prog) w s i ty hi (by rw [hx]; exact hx128)
      rw [hx] at hnx
      have hne : ¬ (x.toNat : Int) = 65533 := by omega
      have hne2 : ((x.toNat : Int) == 65533) = false := by simpa using hne
      go_wp2
      go_roundg g
      case measure => omega
      case rel => exact ⟨i + 1, by omega, rfl⟩
theorem enter209 (v1 v2 : Value) (w : World) : (callFunc 147 #[v1, v2]).run Tryz.prog w = .ok (.enter 147 #[v1, v2]) w := by kernel_rfl
theorem noByte (l : List UInt8) (c : UInt8) (h : ∀ x ∈ l, x.toNat < 128) (hc : 128 ≤ c.toNat) : Lib.indexByte l c = -1 := by
  induction l with
  | nil => rfl
  | cons b l ih =>
    have hb := h b (by simp)
    have hbc : (b == c) = false := beq_eq_false_iff_ne.2 (fun e => by rw [e] at hb; omega)
    unfold Lib.indexByte
    rw [hbc, ih (fun x hx => h x (by simp [hx]))]
    rfl
set_option maxRecDepth 1000000 in
set_option maxHeartbeats 1000000 in
theorem indexRune_high (s : ByteArray) (hs : Asc s) (h8 : s.size ≤ 100) (r : Nat) (h1 : 128 ≤ r) (hv : Utf8.valid (r : Int) = true) (hne : r ≠ 65533) (w : World) : Calls Tryz.prog 126 #[.string s, .int .i32 r] w fun e w' => e = .returned (.int .i64 (-1)) ∧ Below w.heap.size w w' := by
  have HS : Hid (Asc s) := hs
  clear hs
  have a1 : ¬ (r : Int) < 128 := by omega
  have a2 : ¬ (r : Int) = 65533 := by omega
  have a3 : ((r : Int) == 65533) = false := by simpa using a2
  have hvr : Lib.validRune (r : Int) = true := by
    unfold Utf8.valid at hv
    unfold Lib.validRune
    simp at hv ⊢
    omega
  obtain ⟨e1, e2, e3⟩ := encode_facts (r : Int) hv (by omega)
  obtain ⟨S, HS2⟩ : ∃ S : ByteArray, Utf8.encode (r : Int) = S := ⟨_, rfl⟩
  have hl3 : S.size - 1 < S.size := by rw [HS2] at e1; omega
  obtain ⟨y, hy⟩ : ∃ y : UInt8, S[S.size - 1]'hl3 = y := ⟨_, rfl⟩
  have HY : Hid (128 ≤ y.toNat) := hid (by
    rw [← hy]
    have := e3 (by rw [HS2]; exact hl3)
    subst HS2
    exact this)
  rw [HS2] at e1 e2
  clear e3
  go_enter Tryz.func126, Tryz.ntmps126
  go_wp2_with (go_at_call 148; refine (Any.utf8_ValidRune Tryz.lays119 _ _).mono ?_; rintro ev w' ⟨rfl, rfl⟩; rw [hvr])
  obtain ⟨L, HL⟩ : ∃ L : Nat, Hid (S.size - 1 = L) := ⟨_, rfl⟩
  have hLi : (S.size : Int) - 1 = (L : Int) := by have := HL.out; omega
  have hL : 1 ≤ L ∧ L ≤ 3 := by have := HL.out; omega
  go_step3
  go_wp2_with fail
  go_loopg [9, 10] 1 (fun g v u wr => g = 1 ∧ v = .int .i64 L ∧ u = .int .i64 0 ∧ wr = w')
  case atStart => exact ⟨rfl, rfl, rfl, rfl⟩
  case round =>
    obtain ⟨rfl, rfl, rfl, hwr⟩ := hrel
    have hwr' := hwr.symm
    subst hwr'
    by_cases hlt : L < s.size
    · have hlti : (L : Int) < s.size := by omega
      obtain ⟨x, hx⟩ : ∃ x : UInt8, s[L]'hlt = x := ⟨_, rfl⟩
      have hx128 : x.toNat < 128 := by rw [← hx]; exact HS.out L hlt
      have hLS : L < S.size := by have := HL.out; omega
      have hyL : S[L]'hLS = y := by have e := HL.out; subst e; exact hy
      have hxy : ¬ (x.toNat : Int) = (y.toNat : Int) := by have := HY.out; omega
      have HIB : Hid (∀ (t : ByteArray) (W : World), t = s.extract (L + 1) s.size → Calls Tryz.prog 147 #[.string t, .int .u8 (y.toNat : Int)] W fun e w' => e = .returned (.int .i64 (-1)) ∧ w' = W) := fun t W ht => by
        refine (Any.strings_IndexByte Tryz.lays137 t (y.toNat : Int) W).mono ?_
        rintro e w'' ⟨rfl, hw''⟩
        refine ⟨?_, hw''⟩
        rw [noByte]
        · intro z hz
          rw [ht] at hz
          have hz' : z ∈ s.data.toList := by
            rw [Lib.extract_data] at hz
            exact List.mem_of_mem_drop (List.mem_of_mem_take hz)
          obtain ⟨q, hq, rfl⟩ := List.getElem_of_mem hz'
          exact HS.out q (by rw [Lib.size_eq]; exact hq)
        · have := HY.out
          simpa using this
      have hxy2 : ((x.toNat : Int) != (y.toNat : Int)) = true := by simpa using hxy
      obtain ⟨T, HT⟩ : ∃ T : ByteArray, Hid (s.extract (L + 1) s.size = T) := ⟨_, rfl⟩
      obtain ⟨M, HM⟩ : ∃ M : Nat, Hid (L + 1 = M) := ⟨_, rfl⟩
      have hwr : IntKind.i64.wrap ((L : Int) + 1) = (M : Int) := by
        rw [← HM.out, show ((L : Int) + 1) = ((L + 1 : Nat) : Int) by omega]
        exact wrap_i64 (L + 1) (by omega)
      have hMi : (M : Int) ≤ s.size := by have := HM.out; omega
      have hME : s.extract M s.size = T := by rw [← HM.out]; exact HT.out
      have hL3 : L ≤ 3 := hL.2
      go_wp2
      go_step3
      go_wp2
      refine wp_region_held_drew (S := fun _ => True) (by kernel_rfl) trivial (fun hHeld => ?_)
      refine takeL (i := 0) (v := ?_) rfl (by kernel_rfl) (by kernel_rfl) (by kernel_rfl) (fun _ _ _ h => h) (Or.inl ⟨by rfl, ?_⟩) hHeld ?_
      rotate_left
      · rintro w' s0; go_simp; rfl
      try simp only [Act.put, List.setIfInBounds_toArray, List.set_cons_zero, List.set_cons_succ]
      refine takeL (i := 1) (v := ?_) rfl (by kernel_rfl) (by kernel_rfl) (by kernel_rfl) (fun _ _ _ h => h) (Or.inl ⟨by rfl, ?_⟩) hHeld ?_
      rotate_left
      · rintro w' s0; go_simp; rfl
      try simp only [Act.put, List.setIfInBounds_toArray, List.set_cons_zero, List.set_cons_succ]
      refine takeL (i := 2) (v := ?_) rfl (by kernel_rfl) (by kernel_rfl) (by kernel_rfl) (fun _ _ _ h => h) (Or.inl ⟨by rfl, ?_⟩) hHeld ?_
      rotate_left
      · rintro w' s0; go_simp; rfl
      try simp only [Act.put, List.setIfInBounds_toArray, List.set_cons_zero, List.set_cons_succ]
      refine takeL (i := 3) (v := ?_) rfl (by kernel_rfl) (by kernel_rfl) (by kernel_rfl) (fun _ _ _ h => h) (Or.inl ⟨by rfl, ?_⟩) hHeld ?_
      rotate_left
      · rintro w' s0; go_simp; rfl
      try simp only [Act.put, List.setIfInBounds_toArray, List.set_cons_zero, List.set_cons_succ]
      refine takeL (i := 4) (v := ?_) rfl (by kernel_rfl) (by kernel_rfl) (by kernel_rfl) (fun _ _ _ h => h) (Or.inl ⟨by rfl, ?_⟩) hHeld ?_
      rotate_left
      · rintro w' s0; go_simp; rfl
      try simp only [Act.put, List.setIfInBounds_toArray, List.set_cons_zero, List.set_cons_succ]
      refine takeL (i := 5) (v := ?_) rfl (by kernel_rfl) (by kernel_rfl) (by kernel_rfl) (fun _ _ _ h => h) (Or.inl ⟨by rfl, ?_⟩) hHeld ?_
      rotate_left
      · rintro w' s0; go_simp; rfl
      try simp only [Act.put, List.setIfInBounds_toArray, List.set_cons_zero, List.set_cons_succ]
      refine takeL (i := 6) (v := ?_) rfl (by kernel_rfl) (by kernel_rfl) (by kernel_rfl) (fun _ _ _ h => h) (Or.inl ⟨by rfl, ?_⟩) hHeld ?_
      rotate_left
      · rintro w' s0; go_simp; rfl
      try simp only [Act.put, List.setIfInBounds_toArray, List.set_cons_zero, List.set_cons_succ]
      refine wpAnyH_done (by kernel_rfl) ?_ _
      go_wp2
      clear hHeld
      refine wp_region_held_drew (S := fun _ => True) (by kernel_rfl) trivial (fun hHeld => ?_)
      refine takeL (i := 0) (v := ?_) rfl (by kernel_rfl) (by kernel_rfl) (by kernel_rfl) (fun _ _ _ h => h) (Or.inl ⟨by rfl, ?_⟩) hHeld ?_
      rotate_left
      · rintro w' s0; go_simp; rfl
      try simp only [Act.put, List.setIfInBounds_toArray, List.set_cons_zero, List.set_cons_succ]
      refine takeL (i := 1) (v := ?_) rfl (by kernel_rfl) (by kernel_rfl) (by kernel_rfl) (fun _ _ _ h => h) (Or.inl ⟨by rfl, ?_⟩) hHeld ?_
      rotate_left
      · rintro w' s0; go_simp; rfl
      try simp only [Act.put, List.setIfInBounds_toArray, List.set_cons_zero, List.set_cons_succ]
      refine takeL (i := 2) (v := ?_) rfl (by kernel_rfl) (by kernel_rfl) (by kernel_rfl) (fun _ _ _ h => h) (Or.inl ⟨by rfl, ?_⟩) hHeld ?_
      rotate_left
      · rintro w' s0; go_simp; rfl
      try simp only [Act.put, List.setIfInBounds_toArray, List.set_cons_zero, List.set_cons_succ]
      refine takeL (i := 3) (v := ?_) rfl (by kernel_rfl) (by kernel_rfl) (by kernel_rfl) (fun _ _ _ h => h) (Or.inl ⟨by rfl, ?_⟩) hHeld ?_
      rotate_left
      · rintro w' s0; go_simp; rfl
      try simp only [Act.put, List.setIfInBounds_toArray, List.set_cons_zero, List.set_cons_succ]
      refine takeL (i := 4) (v := ?_) rfl (by kernel_rfl) (by kernel_rfl) (by kernel_rfl) (fun _ _ _ h => h) (Or.inl ⟨by rfl, ?_⟩) hHeld ?_
      rotate_left
      · rintro w' s0; go_simp; rfl
      try simp only [Act.put, List.setIfInBounds_toArray, List.set_cons_zero, List.set_cons_succ]
      refine takeL (i := 5) (v := ?_) rfl (by kernel_rfl) (by kernel_rfl) (by kernel_rfl) (fun _ _ _ h => h) (Or.inl ⟨by rfl, ?_⟩) hHeld ?_
      rotate_left
      · rintro w' s0; go_simp; rfl
      try simp only [Act.put, List.setIfInBounds_toArray, List.set_cons_zero, List.set_cons_succ]
      refine takeL (i := 6) (v := ?_) rfl (by kernel_rfl) (by kernel_rfl) (by kernel_rfl) (fun _ _ _ h => h) (Or.inl ⟨by rfl, ?_⟩) hHeld ?_
      rotate_left
      · rintro w' s0; go_simp; rfl
      try simp only [Act.put, List.setIfInBounds_toArray, List.set_cons_zero, List.set_cons_succ]
      refine wpAnyH_ready (rs := [7]) (by kernel_rfl) (by simp) ?_
      refine consL rfl (fun KK hKK => ?_) AllReadyH.nil
      refine step_callv (by rfl) 147 [.tmp 37, .tmp 40] _ [.string T, .int .u8 (y.toNat : Int)] _ (by rfl) (by rfl) (enter209 _ _) (HIB.out _ _ HT.out.symm) ?_
      rintro e w1 ⟨rfl, rfl⟩
      refine ⟨_, rfl, ?_⟩
      refine hKK.out _ _ hHeld (fun hHeld2 => ?_)
      clear hKK KK
      try simp only [Act.put, List.setIfInBounds_toArray, List.set_cons_zero, List.set_cons_succ]
      refine takeL (i := 8) (v := ?_) rfl (by kernel_rfl) (by kernel_rfl) (by kernel_rfl) (fun _ _ _ h => h) (Or.inl ⟨by rfl, ?_⟩) hHeld ?_
      rotate_left
      · rintro w' s0; go_simp; rfl
      try simp only [Act.put, List.setIfInBounds_toArray, List.set_cons_zero, List.set_cons_succ]
      refine wpAnyH_done (by kernel_rfl) ?_ _
      go_wp2
      simp only [Exit.inBlock, Exit.then, Exit.noGoto_ret]
      go_ret
      exact ⟨rfl, ⟨rfl, rfl, rfl, Nat.le_refl _, fun _ _ => rfl⟩⟩
    · have hlti : ¬ (L : Int) < s.size := by omega
      go_wp2
      go_ret
      exact ⟨rfl, Below.refl _ _⟩
end Go.Proofs.YtikmbjfambjmaaaGreatDoor.Ip
namespace Go.Proofs.YtikmbjfambjmaaaGreatDoor.Ip
open Go.RowKit
set_option linter.unusedVariables false
set_option linter.unusedSimpArgs false
theorem byte_getD (s : ByteArray) (q : Nat) (h : q < s.size) : s.data.toList.getD q 0 = s[q]'h := by
  rw [List.getD_eq_getElem?_getD, Lib.data_getElem? s q h]
  rfl
theorem high_step (s : ByteArray) (pos : Nat) (h : pos < s.size) (ha : 128 ≤ (s[pos]'h).toNat) :
    128 ≤ (Utf8.decode s pos).1 ∧ Utf8.valid ((Utf8.decode s pos).1 : Int) = true ∧ 1 ≤ (Utf8.decode s pos).2 ∧ pos + (Utf8.decode s pos).2 ≤ s.size ∧ ∀ q, pos ≤ q → q < pos + (Utf8.decode s pos).2 → 128 ≤ (s.data.toList.getD q 0).toNat := by
  obtain ⟨h1, h2⟩ := decode_high s pos h ha
  have hN := Lib.decode_N s pos
  have hsz := Lib.size_eq s
  have hb0 : 128 ≤ (s.data.toList.getD pos 0).toNat := by rw [byte_getD s pos h]; exact ha
  have hv := Lib.decodeN_valid (s.data.toList.length - pos) (s.data.toList.getD pos 0).toNat (s.data.toList.getD (pos + 1) 0).toNat (s.data.toList.getD (pos + 2) 0).toNat (s.data.toList.getD (pos + 3) 0).toNat (UInt8.toNat_lt _)
  have hw := Lib.decodeN_width_le (s.data.toList.length - pos) (s.data.toList.getD pos 0).toNat (s.data.toList.getD (pos + 1) 0).toNat (s.data.toList.getD (pos + 2) 0).toNat (s.data.toList.getD (pos + 3) 0).toNat (by omega)
  have hc := Lib.decodeN_conts (s.data.toList.length - pos) (s.data.toList.getD pos 0).toNat (s.data.toList.getD (pos + 1) 0).toNat (s.data.toList.getD (pos + 2) 0).toNat (s.data.toList.getD (pos + 3) 0).toNat
  rw [← hN] at hv hw hc
  obtain ⟨c1, c2, c3, c4⟩ := hc
  refine ⟨h1, ?_, h2, by omega, fun q hq1 hq2 => ?_⟩
  · unfold Utf8.valid
    simp
    omega
  · have e : q = pos ∨ q = pos + 1 ∨ q = pos + 2 ∨ q = pos + 3 := by omega
    rcases e with rfl | rfl | rfl | rfl
    · exact hb0
    · have := c1 (by omega); omega
    · have := c2 (by omega); omega
    · have := c3 (by omega); omega
def No (s ch : ByteArray) (i : Nat) : Prop := ∀ q, q < i → s.data.toList.getD q 0 ∉ ch.data.toList
theorem Asc.mem {ch : ByteArray} (h : Asc ch) {x : UInt8} (hx : x ∈ ch.data.toList) : x.toNat < 128 := by
  obtain ⟨q, hq, rfl⟩ := List.getElem_of_mem hx
  exact h q (by rw [Lib.size_eq]; exact hq)
theorem iterAt_below {B : Nat} {w0 w : World} {k : Nat} {s : ByteArray} {p : Nat} (h : Below B w0 w) (hk : B ≤ k) : Below B w0 (w.iterAt k s p) :=
  ⟨h.os, h.tape, h.output, by simp [World.iterAt]; exact h.size, fun j hj => by
    show (w.heap.setIfInBounds k _)[j]? = _
    rw [Array.getElem?_setIfInBounds_ne (by omega)]
    exact h.block j hj⟩
theorem indexByte_low (l : List UInt8) (c : UInt8) : -1 ≤ Lib.indexByte l c := by
  induction l with
  | nil => simp [Lib.indexByte]
  | cons b l ih =>
    unfold Lib.indexByte
    split
    · decide
    · split
      · exact Int.le_refl _
      · omega
theorem indexByte_mem (l : List UInt8) (c : UInt8) : (0 ≤ Lib.indexByte l c) ↔ c ∈ l := by
  induction l with
  | nil => simp [Lib.indexByte]
  | cons b l ih =>
    unfold Lib.indexByte
    by_cases hb : b = c
    · subst hb; simp
    · have hbc : (b == c) = false := beq_eq_false_iff_ne.2 hb
      rw [hbc]
      simp only [Bool.false_eq_true, if_false, List.mem_cons, Ne.symm hb, false_or]
      rw [← ih]
      by_cases h1 : Lib.indexByte l c = -1
      · simp [h1]
      · have h2 : (Lib.indexByte l c == -1) = false := beq_eq_false_iff_ne.2 h1
        rw [h2]
        simp only [Bool.false_eq_true, if_false]
        have := indexByte_low l c
        omega
def hasAny (s ch : ByteArray) : Prop := ∃ x ∈ s.data.toList, x ∈ ch.data.toList
theorem no_all {s ch : ByteArray} (h : No s ch s.size) : ¬ hasAny s ch := by
  rintro ⟨x, hx, hc⟩
  obtain ⟨q, hq, rfl⟩ := List.getElem_of_mem hx
  refine h q (by rw [Lib.size_eq]; exact hq) ?_
  rw [List.getD_eq_getElem?_getD, List.getElem?_eq_getElem hq]
  exact hc
set_option maxRecDepth 20000 in
set_option maxHeartbeats 1000000 in
theorem indexAny_short (s ch : ByteArray) (h2 : 2 ≤ ch.size) (h100 : ch.size ≤ 100) (hch : Asc ch) (h8 : s.size ≤ 8) (w : World) :
    Calls Tryz.prog 96 #[.string s, .string ch] w fun e w' => (∃ i : Int, e = .returned (.int .i64 i) ∧ (0 ≤ i ↔ hasAny s ch)) ∧ Below w.heap.size w w' := by
  have HCH : Hid (Asc ch) := hch
  clear hch
  have hemp : ch.toList.isEmpty = false := by
    rw [Lib.toList_data]
    cases h : ch.data.toList with
    | nil => have := Lib.size_eq ch; rw [h, List.length_nil] at this; omega
    | cons _ _ => rfl
  have hn1 : ((ch.size : Int) == 1) = false := beq_eq_false_iff_ne.2 (by omega)
  have hn1' : ¬ (ch.size : Int) = 1 := by omega
  have h8i : ¬ (8 : Int) < (s.size : Int) := by omega
  obtain ⟨G, HG⟩ : ∃ G, Hid (w.heap.size = G) := ⟨_, rfl⟩
  go_enter Tryz.func96, Tryz.ntmps96
  go_wp2
  rw [HG.out]
  have hit0 : (w.iter s 0).heap[G]? = some (.stringIter s 0) := by rw [← HG.out]; exact World.iter_heap w s 0
  have HB0 : Hid (Below G w (w.iter s 0)) := hid (by rw [← HG.out]; exact iter_below w s 0)
  go_loopg [9, 10] s.size (fun g _ _ wx => ∃ i : Nat, i ≤ s.size ∧ g = s.size - i ∧ wx.heap[G]? = some (.stringIter s i) ∧ Hid (Below G w wx) ∧ Hid (No s ch i))
  case atStart => exact ⟨0, Nat.zero_le _, rfl, hit0, HB0, fun q hq => by omega⟩
  case round =>
    obtain ⟨i, hi, hg, hit, HB, HNo⟩ := hrel
    clear hit0
    have hGs : G < wr.heap.size := by
      rcases Nat.lt_or_ge G wr.heap.size with h | h
      · exact h
      · rw [Array.getElem?_eq_none h] at hit; cases hit
    by_cases hlt : i < s.size
    · obtain ⟨x, hx⟩ : ∃ x : UInt8, s[i]'hlt = x := ⟨_, rfl⟩
      have hxg : s.data.toList.getD i 0 = x := by rw [byte_getD s i hlt, hx]
      by_cases hx128 : x.toNat < 128
      · have hnx := fun ty => Lib.run_next_ascii_at (P := Tryz.prog) wr G s i ty hit hlt (by rw [hx]; exact hx128)
        rw [hx] at hnx
        obtain ⟨w1, HW1⟩ : ∃ w1, Hid (wr.iterAt G s (i + 1) = w1) := ⟨_, rfl⟩
        have hit1 : w1.heap[G]? = some (.stringIter s (i + 1)) := by rw [← HW1.out]; exact Lib.iterAt_heap wr G s i (i + 1) hit
        have HB1 : Hid (Below G w w1) := hid (by rw [← HW1.out]; exact iterAt_below HB.out (Nat.le_refl _))
        rw [HW1.out] at hnx
        have hback : ((x.toNat : Int)).toNat.toUInt8 = x := by simp
        have HIR : Hid (∀ W, Calls Tryz.prog 126 #[.string ch, .int .i32 (x.toNat : Int)] W fun e w' => e = .returned (.int .i64 (Lib.indexByte ch.data.toList x)) ∧ w' = W) := fun W => by
          have := Any.strings_IndexRune_ascii Tryz.lays152 ch (x.toNat : Int) W (by omega) (by omega)
          rw [hback] at this
          exact this
        obtain ⟨j, HJ⟩ : ∃ j, Hid (Lib.indexByte ch.data.toList x = j) := ⟨_, rfl⟩
        rw [HJ.out] at HIR
        have hmem : Hid (0 ≤ j ↔ x ∈ ch.data.toList) := hid (by rw [← HJ.out]; exact indexByte_mem _ _)
        clear hit hx
        by_cases hj : 0 ≤ j
        · go_wp2_with (go_at_call 126; refine (HIR.out _).mono ?_; rintro ev w' ⟨rfl, rfl⟩)
          go_ret
          refine ⟨⟨(i : Int), rfl, ⟨fun _ => ⟨x, ?_, hmem.out.1 hj⟩, fun _ => by omega⟩⟩, by rw [HG.out]; exact HB1.out⟩
          rw [← hxg, List.getD_eq_getElem?_getD, List.getElem?_eq_getElem (by rw [← Lib.size_eq]; exact hlt)]
          exact List.getElem_mem _
        · have HNo1 : Hid (No s ch (i + 1)) := fun q hq => by
            rcases Nat.lt_or_ge q i with h | h
            · exact HNo.out q h
            · obtain rfl : q = i := by omega
              rw [hxg]
              exact fun hm => hj (hmem.out.2 hm)
          go_wp2_with (go_at_call 126; refine (HIR.out _).mono ?_; rintro ev w' ⟨rfl, rfl⟩)
          go_roundg (s.size - (i + 1))
          case measure => omega
          case rel => exact ⟨i + 1, by omega, rfl, hit1, HB1, HNo1⟩
      · obtain ⟨e1, e2, e3, e4, e5⟩ := high_step s i hlt (by rw [hx]; omega)
        have hnx := fun ty => Lib.run_next_any_at (P := Tryz.prog) wr G s i ty hit hlt
        obtain ⟨rn, HRN⟩ : ∃ rn, Hid ((Utf8.decode s i).1 = rn) := ⟨_, rfl⟩
        obtain ⟨wd, HWD⟩ : ∃ wd, Hid ((Utf8.decode s i).2 = wd) := ⟨_, rfl⟩
        rw [HRN.out] at e1 e2
        rw [HWD.out] at e3 e4 e5
        rw [HRN.out, HWD.out] at hnx
        obtain ⟨w1, HW1⟩ : ∃ w1, Hid (wr.iterAt G s (i + wd) = w1) := ⟨_, rfl⟩
        have hit1 : w1.heap[G]? = some (.stringIter s (i + wd)) := by rw [← HW1.out]; exact Lib.iterAt_heap wr G s i (i + wd) hit
        have HB1 : Hid (Below G w w1) := hid (by rw [← HW1.out]; exact iterAt_below HB.out (Nat.le_refl _))
        rw [HW1.out] at hnx
        have HIR : Hid (∀ W, Calls Tryz.prog 126 #[.string ch, .int .i32 (rn : Int)] W fun e w' => e = .returned (.int .i64 (-1)) ∧ Below W.heap.size W w') := fun W => by
          by_cases h65 : rn = 65533
          · rw [h65]; exact indexRune_err ch HCH.out h100 W
          · exact indexRune_high ch HCH.out h100 rn e1 e2 h65 W
        have HNo1 : Hid (No s ch (i + wd)) := fun q hq => by
          rcases Nat.lt_or_ge q i with h | h
          · exact HNo.out q h
          · intro hm
            have := HCH.out.mem hm
            have := e5 q h hq
            omega
        have hG1 : G < w1.heap.size := by
          rcases Nat.lt_or_ge G w1.heap.size with h | h
          · exact h
          · rw [Array.getElem?_eq_none h] at hit1; cases hit1
        clear hit hx hxg e5 e2
        go_wp2_with (go_at_call 126; refine (HIR.out _).mono ?_; rintro ev w2 ⟨rfl, hb2⟩)
        have hit2 : w2.heap[G]? = some (.stringIter s (i + wd)) := (hb2.block G hG1).trans hit1
        have HB2 : Hid (Below G w w2) := HB1.out.trans (hb2.mono (Nat.le_of_lt hG1))
        go_roundg (s.size - (i + wd))
        case measure => omega
        case rel => exact ⟨i + wd, e4, rfl, hit2, HB2, HNo1⟩
    · have hnx := fun ty => Lib.run_next_end_at (P := Tryz.prog) wr G s i ty hit hlt
      obtain rfl : i = s.size := by omega
      go_wp2
      go_ret
      exact ⟨⟨-1, rfl, ⟨fun h => absurd h (by decide), fun h => absurd h (no_all HNo.out)⟩⟩, by rw [HG.out]; exact HB.out⟩
theorem info31 : (Tryz.prog.info? 218).map (fun i => (i.zero, i.size)) = some (some (.agg (Array.replicate 256 (.bool false))), 256) := by kernel_rfl
theorem indexAny_iff (s ch : List UInt8) : 0 ≤ Lib.indexAny s ch ↔ ∃ x ∈ s, x ∈ ch := by
  induction s with
  | nil => simp [Lib.indexAny]
  | cons b l ih =>
    unfold Lib.indexAny
    by_cases hb : b ∈ ch
    · rw [if_pos (by simpa using hb)]
      simp [hb]
    · rw [if_neg (by simpa using hb)]
      have hge := Lib.indexAny_ge ch l
      simp only [List.mem_cons, exists_eq_or_imp, hb, false_or]
      rw [← ih]
      by_cases h1 : Lib.indexAny l ch = -1
      · simp [h1]
      · have h2 : (Lib.indexAny l ch == -1) = false := beq_eq_false_iff_ne.2 h1
        rw [h2]
        simp only [Bool.false_eq_true, if_false]
        omega
theorem indexAny_any (s ch : ByteArray) (h2 : 2 ≤ ch.size) (h100 : ch.size ≤ 100) (hch : Asc ch) (hs : s.size ≤ 1000000) (w : World) :
    Calls Tryz.prog 96 #[.string s, .string ch] w fun e w' => (∃ i : Int, e = .returned (.int .i64 i) ∧ (0 ≤ i ↔ hasAny s ch)) ∧ Below w.heap.size w w' := by
  by_cases h8 : s.size ≤ 8
  · exact indexAny_short s ch h2 h100 hch h8 w
  · refine (Any.strings_IndexAny_long Tryz.lays153 (zero_of_info info31).1 (zero_of_info info31).2 s ch w h2 (by omega) (by omega) (by omega) (fun j b hb => hch.mem (List.mem_of_getElem? hb))).mono ?_
    rintro e w' ⟨rfl, rfl⟩
    exact ⟨⟨_, rfl, indexAny_iff _ _⟩, ((Below.refl _ w).alloc (Nat.le_refl _) _).alloc (by simp) _⟩
open Classical in
set_option maxRecDepth 20000 in
theorem containsAny_any (s ch : ByteArray) (h2 : 2 ≤ ch.size) (h100 : ch.size ≤ 100) (hch : Asc ch) (hs : s.size ≤ 1000000) (w : World) :
    Calls Tryz.prog 79 #[.string s, .string ch] w fun e w' => (∃ b : Bool, e = .returned (.bool b) ∧ (b = true ↔ hasAny s ch)) ∧ Below w.heap.size w w' := by
  have HI : Hid (Calls Tryz.prog 96 #[.string s, .string ch] w fun e w' => (∃ i : Int, e = .returned (.int .i64 i) ∧ (0 ≤ i ↔ hasAny s ch)) ∧ Below w.heap.size w w') := indexAny_any s ch h2 h100 hch hs w
  go_enter Tryz.func79, Tryz.ntmps79
  go_wp2_with fail
  refine HI.out.mono ?_
  rintro ev w1 ⟨⟨i, rfl, hi⟩, hb⟩
  have HII : Hid _ := hi
  clear hi
  go_wp2
  go_ret
  exact ⟨⟨_, rfl, by rw [← HII.out]; simp⟩, hb⟩
end Go.Proofs.YtikmbjfambjmaaaGreatDoor.Ip
namespace Go.Proofs.YtikmbjfambjmaaaGreatDoor.Ip
open Go.RowKit
set_option linter.unusedVariables false
set_option linter.unusedSimpArgs false
def BIs (P : Prop) (e : Ending) : Prop := ∃ b : Bool, e = .returned (.bool b) ∧ (b = true ↔ P)
theorem bis_false {P : Prop} (h : ¬ P) : BIs P (.returned (.bool false)) := ⟨false, rfl, ⟨(fun h => by cases h), fun h2 => absurd h2 h⟩⟩
theorem bis_true {P : Prop} (h : P) : BIs P (.returned (.bool true)) := ⟨true, rfl, ⟨fun _ => h, fun _ => rfl⟩⟩
theorem bis_or {P : Prop} {e : Ending} (h : BIs P e) : (P ∧ e = .returned (.bool true)) ∨ (¬ P ∧ e = .returned (.bool false)) := by
  obtain ⟨b, rfl, hb⟩ := h
  cases b with
  | true => exact .inl ⟨hb.1 rfl, rfl⟩
  | false => exact .inr ⟨(fun h => by have := hb.2 h; cases this), rfl⟩
def okE (s : List UInt8) : Prop := 1 ≤ s.length ∧ s.length ≤ 50 ∧ s ≠ [46] ∧ s ≠ [46, 46] ∧ s ≠ [46, 103, 105, 116] ∧ ∀ x ∈ s, x ≠ 47 ∧ x ≠ 0
theorem txt_len (l : List UInt8) : (⟨l.toArray⟩ : ByteArray).size = l.length := by simp [ByteArray.size]
def spl : List UInt8 → List (List UInt8)
  | [] => [[]]
  | c :: t => if c = 47 then [] :: spl t else match spl t with
    | [] => [[c]]
    | p :: ps => (c :: p) :: ps
theorem spl_ne : ∀ s, spl s ≠ []
  | [] => by simp [spl]
  | c :: t => by
    rw [spl]
    split
    · simp
    · split <;> simp
theorem idx_txt (s : List UInt8) (j : Nat) (w : World) (x : UInt8) (h : s[j]? = some x) : (Instr.index 9 (.string ⟨s.toArray⟩) (.int .i64 j)).run Tryz.prog w = .ok (.int .u8 (x.toNat : Int)) w := by
  obtain ⟨hj, hx⟩ := List.getElem?_eq_some_iff.1 h
  rw [run_index_string (P := Tryz.prog) w 9 ⟨s.toArray⟩ .i64 j Tryz.underlying9, dif_pos ⟨by omega, by rw [txt_len]; omega⟩]
  simp only [Int.toNat_natCast]
  rw [← hx]
  rfl
theorem ext_txt (s : List UInt8) (i j : Nat) : (⟨s.toArray⟩ : ByteArray).extract i j = ⟨((s.drop i).take (j - i)).toArray⟩ := by
  apply ByteArray.ext
  simp [ByteArray.data_extract, List.extract]
theorem slc_to (s : List UInt8) (j : Nat) (h : j ≤ s.length) (w : World) : (Instr.slice 9 (.string ⟨s.toArray⟩) none (some (.int .i64 j)) none).run Tryz.prog w = .ok (.string ⟨(s.take j).toArray⟩) w := by
  rw [run_slice_string_to_if w 9 _ .i64 j Tryz.underlying9, if_pos ⟨by omega, by rw [txt_len]; omega⟩, Int.toNat_natCast, ext_txt, List.drop_zero, Nat.sub_zero]
theorem slc_mid (s : List UInt8) (i j : Nat) (h1 : i ≤ j) (h2 : j ≤ s.length) (w : World) : (Instr.slice 9 (.string ⟨s.toArray⟩) (some (.int .i64 i)) (some (.int .i64 j)) none).run Tryz.prog w = .ok (.string ⟨((s.drop i).take (j - i)).toArray⟩) w := by
  rw [run_slice_string w 9 _ .i64 .i64 i j Tryz.underlying9 (by omega) (by omega) (by rw [txt_len]; omega), Int.toNat_natCast, Int.toNat_natCast, ext_txt]
theorem slc_from (s : List UInt8) (i : Nat) (h : i ≤ s.length) (w : World) : (Instr.slice 9 (.string ⟨s.toArray⟩) (some (.int .i64 i)) none none).run Tryz.prog w = .ok (.string ⟨(s.drop i).toArray⟩) w := by
  rw [run_slice_string_from_if w 9 _ .i64 i Tryz.underlying9, if_pos ⟨by omega, by rw [txt_len]; omega⟩, Int.toNat_natCast, ext_txt, txt_len, List.take_of_length_le (by rw [List.length_drop]; omega)]
def cur (s : List UInt8) (f i : Nat) : List UInt8 := (s.drop f).take (i - f)
theorem cur_snoc (s : List UInt8) (f i : Nat) (hf : f ≤ i) (x : UInt8) (hx : s[i]? = some x) : cur s f (i + 1) = cur s f i ++ [x] := by
  unfold cur
  rw [show i + 1 - f = (i - f) + 1 by omega, List.take_add_one, List.getElem?_drop, show f + (i - f) = i by omega, hx]
  rfl
theorem byte_num (x : UInt8) (n : Nat) (hn : n < 256) : ((x.toNat : Int) = (n : Int)) ↔ x = UInt8.ofNat n := by
  constructor
  · intro h
    have : x.toNat = n := by omega
    apply UInt8.toNat_inj.1
    rw [this]
    simp
    omega
  · rintro rfl
    simp
    omega
def tl (p t : List UInt8) : List (List UInt8) := match spl t with
  | [] => [p]
  | q :: qs => (p ++ q) :: qs
theorem tl_nil (t : List UInt8) : tl [] t = spl t := by
  unfold tl
  cases h : spl t with
  | nil => exact absurd h (spl_ne t)
  | cons q qs => simp
theorem tl_end (p : List UInt8) : tl p [] = [p] := by simp [tl, spl]
theorem tl_sep (p t : List UInt8) : tl p (47 :: t) = p :: tl [] t := by
  rw [tl_nil]
  simp [tl, spl]
theorem tl_go (p t : List UInt8) (c : UInt8) (h : c ≠ 47) : tl p (c :: t) = tl (p ++ [c]) t := by
  unfold tl
  rw [spl, if_neg h]
  cases hs : spl t with
  | nil => simp
  | cons q qs => simp
structure Pth (s : List UInt8) (f i : Nat) (dn : List (List UInt8)) : Prop where
  le : f ≤ i
  len : i ≤ s.length
  eq : spl s = dn ++ tl (cur s f i) (s.drop i)
theorem Pth.start (s : List UInt8) : Pth s 0 0 [] := ⟨Nat.le_refl _, Nat.zero_le _, by simp [cur, tl_nil]⟩
theorem Pth.go {s : List UInt8} {f i : Nat} {dn : List (List UInt8)} (h : Pth s f i dn) {x : UInt8} (hx : s[i]? = some x) (hn : x ≠ 47) : Pth s f (i + 1) dn := by
  obtain ⟨hi, hxe⟩ := List.getElem?_eq_some_iff.1 hx
  refine ⟨by have := h.le; omega, by omega, ?_⟩
  rw [h.eq, List.drop_eq_getElem_cons hi, hxe, tl_go _ _ _ hn, cur_snoc s f i h.le x hx]
theorem Pth.sep {s : List UInt8} {f i : Nat} {dn : List (List UInt8)} (h : Pth s f i dn) (hx : s[i]? = some 47) : Pth s (i + 1) (i + 1) (dn ++ [cur s f i]) := by
  obtain ⟨hi, hxe⟩ := List.getElem?_eq_some_iff.1 hx
  refine ⟨Nat.le_refl _, by omega, ?_⟩
  rw [h.eq, List.drop_eq_getElem_cons hi, hxe, tl_sep]
  simp [cur]
theorem Pth.end_ {s : List UInt8} {f i : Nat} {dn : List (List UInt8)} (h : Pth s f i dn) (hi : i = s.length) : spl s = dn ++ [cur s f i] := by
  rw [h.eq, List.drop_eq_nil_of_le (by omega), tl_end]
def okP (s : List UInt8) : Prop := s.length ≤ 100 ∧ ∀ p ∈ spl s, okE p
end Go.Proofs.YtikmbjfambjmaaaGreatDoor.Ip
namespace Go.Proofs.YtikmbjfambjmaaaGreatDoor.Ip
open Go.RowKit
set_option linter.unusedVariables false
set_option linter.unusedSimpArgs false
theorem two_asc : Asc ⟨#[47, 0]⟩ := by
  intro j h
  have h' : j < 2 := h
  match j, h' with
  | 0, _ => exact (by decide : (47 : UInt8).toNat < 128)
  | 1, _ => exact (by decide : (0 : UInt8).toNat < 128)
theorem two_iff (s : List UInt8) : ¬ hasAny ⟨s.toArray⟩ ⟨#[47, 0]⟩ ↔ ∀ x ∈ s, x ≠ 47 ∧ x ≠ 0 := by
  unfold hasAny
  simp only [not_exists, not_and]
  constructor
  · intro h x hx
    have := h x hx
    simpa using this
  · intro h x hx
    have := h x hx
    simpa using this
set_option maxRecDepth 20000 in
theorem isEntryName_any (s : List UInt8) (w : World) : Calls Tryz.prog 59 #[.string ⟨s.toArray⟩] w fun e w' => BIs (okE s) e ∧ Below w.heap.size w w' := by
  by_cases hbad : s = [] ∨ s = [46] ∨ s = [46, 46] ∨ s = [46, 103, 105, 116]
  · have HOK : Hid (¬ okE s) := hid (by
      rintro ⟨h1, _, h3, h4, h5, _⟩
      rcases hbad with h | h | h | h
      · rw [h] at h1; exact absurd h1 (by decide)
      · exact h3 h
      · exact h4 h
      · exact h5 h)
    rcases hbad with rfl | rfl | rfl | rfl
    all_goals
      go_enter Tryz.func59, Tryz.ntmps59
      go_wp2
      go_ret
      exact ⟨bis_false HOK.out, Below.refl _ _⟩
  · obtain ⟨S, HS⟩ : ∃ S : ByteArray, Hid (S = ⟨s.toArray⟩) := ⟨_, rfl⟩
    have hsz : S.size = s.length := by rw [HS.out]; simp [ByteArray.size]
    have n0 : s ≠ [] := fun h => hbad (Or.inl h)
    have n1 : s ≠ [46] := fun h => hbad (Or.inr (Or.inl h))
    have n2 : s ≠ [46, 46] := fun h => hbad (Or.inr (Or.inr (Or.inl h)))
    have n3 : s ≠ [46, 103, 105, 116] := fun h => hbad (Or.inr (Or.inr (Or.inr h)))
    have eS : S.toList = s := by rw [HS.out, Lib.toList_data]
    have e0 : S.toList.isEmpty = false := by rw [eS]; simpa using n0
    have e1 : (S.toList == [46]) = false := by rw [eS]; simpa using n1
    have e2 : (S.toList == [46, 46]) = false := by rw [eS]; simpa using n2
    have e3 : (S.toList == [46, 103, 105, 116]) = false := by rw [eS]; simpa using n3
    clear eS
    have HCA : Hid (s.length ≤ 50 → ∀ w, Calls Tryz.prog 79 #[.string S, .string ⟨#[47, 0]⟩] w fun e w' => BIs (hasAny ⟨s.toArray⟩ ⟨#[47, 0]⟩) e ∧ Below w.heap.size w w') := fun h50 w => by
      rw [HS.out]
      refine (containsAny_any ⟨s.toArray⟩ ⟨#[47, 0]⟩ (by decide) (by decide) two_asc (by simp [ByteArray.size]; omega) w).mono ?_
      rintro e w' ⟨⟨b, rfl, hb⟩, h2⟩
      exact ⟨⟨b, rfl, hb⟩, h2⟩
    have HL : Hid (1 ≤ s.length) := hid (by
      rcases s with _ | ⟨x, s⟩
      · exact absurd rfl n0
      · simp)
    have HN : Hid (s ≠ [46] ∧ s ≠ [46, 46] ∧ s ≠ [46, 103, 105, 116]) := ⟨n1, n2, n3⟩
    rw [← HS.out]
    clear n0 n1 n2 n3 hbad
    by_cases h : s.length ≤ 50
    · have hi : (s.length : Int) ≤ 50 := by omega
      have h60 : Hid (s.length ≤ 50) := h
      clear h
      go_enter Tryz.func59, Tryz.ntmps59
      go_wp2_with fail
      refine (HCA.out h60.out _).mono ?_
      rintro ev w1 ⟨hbi, hb1⟩
      rcases bis_or hbi with ⟨hy, rfl⟩ | ⟨hn, rfl⟩
      · have HOK : Hid (¬ okE s) := fun h2 => absurd hy ((two_iff s).2 h2.2.2.2.2.2)
        clear hy hbi
        go_wp2
        go_ret
        exact ⟨bis_false HOK.out, hb1⟩
      · have HOK : Hid (okE s) := ⟨HL.out, h60.out, HN.out.1, HN.out.2.1, HN.out.2.2, (two_iff s).1 hn⟩
        clear hn hbi
        go_wp2
        go_ret
        exact ⟨bis_true HOK.out, hb1⟩
    · have hi : ¬ (s.length : Int) ≤ 50 := by omega
      have HOK : Hid (¬ okE s) := fun h2 => h h2.2.1
      clear h
      go_enter Tryz.func59, Tryz.ntmps59
      go_wp2
      go_ret
      exact ⟨bis_false HOK.out, Below.refl _ _⟩
end Go.Proofs.YtikmbjfambjmaaaGreatDoor.Ip
namespace Go.Proofs.YtikmbjfambjmaaaGreatDoor.Ip
open Go.RowKit Go.Shelf
set_option linter.unusedVariables false
set_option linter.unusedSimpArgs false
attribute [local go_sem] Oper.semAt_some
def encP (x : ByteArray × List UInt8) : Array Value := #[.string x.1, .string ⟨x.2.toArray⟩]
def SAll (s : List UInt8) (xs : List (ByteArray × List UInt8)) : Prop := xs.map (·.2) = spl s
def SPart (s : List UInt8) (pre : List (ByteArray × List UInt8)) : Prop := ∃ r, pre.map (·.2) ++ r = spl s
def Kc (b : Nat) (A B : World) : Prop := B.heap[b]? = A.heap[b]?
set_option maxRecDepth 100000 in
set_option maxHeartbeats 4000000 in
theorem parts1_in (n : Nat) (hn : 1 ≤ n) (s : List UInt8) (hs : s.length ≤ 100) (l b : Nat) (J Jx : List (ByteArray × List UInt8) → World → Prop)
    (hY : ∀ pre (x : ByteArray × List UInt8) W, J pre W → pre.length < 101 → YieldAt Fence.wide (n - 1) Tryz.prog l (encP x) W fun e W' =>
      (e = .returned (.bool true) ∧ J (pre ++ [x]) W' ∧ Kc b W W') ∨ (e = .returned (.bool false) ∧ Jx (pre ++ [x]) W'))
    (W : World) (hb : W.cell? ⟨b, 0, none⟩ = some (.string ⟨s.toArray⟩)) (h0 : J [] W) :
    CallsIn Fence.wide n Tryz.prog 78 #[.func (.yield l) #[] #[], .pointer (some ⟨b, 0, none⟩)] W fun e W' => (∃ v, e = .returned v) ∧
      ((∃ xs, SAll s xs ∧ J xs W') ∨ (∃ pre, SPart s pre ∧ Jx pre W')) := by
  obtain ⟨S, HS⟩ : ∃ S : ByteArray, Hid (⟨s.toArray⟩ = S) := ⟨_, rfl⟩
  obtain ⟨N, HN⟩ : ∃ N, Hid (s.length = N) := ⟨_, rfl⟩
  have hsz : S.size = N := by rw [← HS.out, txt_len]; exact HN.out
  have hN : N ≤ 100 := by rw [← HN.out]; exact hs
  rw [HS.out] at hb
  clear hs
  refine callsIn_of_wp Tryz.func78 rfl trivial ?_ rfl
  simp only [Tryz.ntmps78, List.size_toArray, List.length_cons, List.length_nil, Nat.reduceAdd, Nat.reduceSub, Array.replicate_succ, Array.replicate_zero, List.push_toArray, List.append_toArray, List.nil_append, List.cons_append]
  gi_wp2
  gi_loopg [3, 4, 8] N (fun k vd vb vi wr => ∃ (D : ByteArray) (f i : Nat) (pre : List (ByteArray × List UInt8)), vd = .string D ∧ vb = .int .i64 f ∧ vi = .int .i64 i ∧ k = N - i ∧ i ≤ N ∧ f ≤ i ∧ Hid (Pth s f i (pre.map (·.2))) ∧ Hid (pre.length ≤ i) ∧ Hid (J pre wr) ∧ wr.cell? ⟨b, 0, none⟩ = some (.string S))
  case atStart => exact ⟨_, 0, 0, [], rfl, rfl, rfl, rfl, by omega, by omega, Pth.start s, Nat.le_refl _, h0, hb⟩
  case round =>
    obtain ⟨D, f, i, pre, rfl, rfl, rfl, hk, hi, hf, HP, HL, HJ, hcb⟩ := hrel
    by_cases hlt : i < N
    · have hltI : (i : Int) < (N : Int) := by omega
      obtain ⟨x, hx⟩ : ∃ x, s[i]? = some x := ⟨_, List.getElem?_eq_getElem (by rw [HN.out]; exact hlt)⟩
      obtain ⟨c, HC⟩ : ∃ c, Hid ((x.toNat : Int) = c) := ⟨_, rfl⟩
      have HX : Hid (s[i]? = some x) := hx
      have hix : ∀ w1 : World, (Instr.index 9 (.string S) (.int .i64 i)).run Tryz.prog w1 = .ok (.int .u8 c) w1 := fun w1 => by rw [← HS.out, ← HC.out]; exact idx_txt s i w1 x HX.out
      have H47 : Hid (c = 47 ↔ x = 47) := hid (by rw [← HC.out]; exact byte_num x 47 (by decide))
      clear hx
      by_cases hc : c = 47
      · subst hc
        have HX7 : Hid (s[i]? = some 47) := hid (by rw [← H47.out.1 rfl]; exact HX.out)
        have HP2 : Hid (Pth s (i + 1) (i + 1) ((pre ++ [(D, cur s f i)]).map (·.2))) := hid (by rw [List.map_append]; exact HP.out.sep HX7.out)
        have HSP : Hid (SPart s (pre ++ [(D, cur s f i)])) := hid ⟨_, (HP2.out.eq).symm⟩
        obtain ⟨T, HT⟩ : ∃ T : ByteArray, Hid (⟨(cur s f i).toArray⟩ = T) := ⟨_, rfl⟩
        obtain ⟨D2, HD2⟩ : ∃ T : ByteArray, Hid (⟨(s.take i).toArray⟩ = T) := ⟨_, rfl⟩
        have hsl : ∀ w1 : World, (Instr.slice 9 (.string S) (some (.int .i64 f)) (some (.int .i64 i)) none).run Tryz.prog w1 = .ok (.string T) w1 := fun w1 => by rw [← HS.out, ← HT.out]; exact slc_mid s f i hf (by rw [HN.out]; exact hi) w1
        have hst : ∀ w1 : World, (Instr.slice 9 (.string S) none (some (.int .i64 i)) none).run Tryz.prog w1 = .ok (.string D2) w1 := fun w1 => by rw [← HS.out, ← HD2.out]; exact slc_to s i (by rw [HN.out]; exact hi) w1
        obtain ⟨fn, tmps, assign, body, hy, hR⟩ := hY pre (D, cur s f i) wr HJ.out (by have := HL.out; omega)
        simp only [encP, HT.out] at hy
        gi_wp2
        refine hR.mono ?_
        rintro e1 W3 (⟨rfl, hJ3, hk3⟩ | ⟨rfl, hJx3⟩)
        · have hcb3 : W3.cell? ⟨b, 0, none⟩ = some (.string S) := (World.cell?_of_block (a := ⟨b, 0, none⟩) hk3).trans hcb
          have HJ3 : Hid _ := hJ3
          clear hcb hJ3 hk3
          gi_wp2
          gi_roundg (N - (i + 1))
          case measure => omega
          case rel => exact ⟨D2, i + 1, i + 1, _, rfl, by go_num, by go_num, rfl, by omega, by omega, HP2.out, by have := HL.out; show _ ≤ _; simp; omega, HJ3.out, hcb3⟩
        · gi_wp2
          refine bodyPost_ret (results_none rfl _ _ _) rfl ?_
          exact ⟨⟨_, rfl⟩, .inr ⟨_, HSP.out, hJx3⟩⟩
      · have hcb2 : (c != 47) = true := by simpa using hc
        have HP2 : Hid (Pth s f (i + 1) (pre.map (·.2))) := hid (HP.out.go HX.out (fun e => hc (H47.out.2 e)))
        gi_wp2
        gi_roundg (N - (i + 1))
        case measure => omega
        case rel => exact ⟨D, f, i + 1, pre, rfl, rfl, by go_num, rfl, by omega, by omega, HP2.out, Nat.le_succ_of_le HL.out, HJ.out, hcb⟩
    · have hltI : ¬ (i : Int) < (N : Int) := by omega
      obtain rfl : i = N := by omega
      have HEQ : Hid (SAll s (pre ++ [(D, s.drop f)])) := hid (by
        have h1 := HP.out.end_ HN.out.symm
        have h2 : cur s f i = s.drop f := by unfold cur; rw [List.take_of_length_le (by rw [List.length_drop, HN.out]; omega)]
        rw [h2] at h1
        unfold SAll
        rw [h1, List.map_append]
        rfl)
      obtain ⟨T, HT⟩ : ∃ T : ByteArray, Hid (⟨(s.drop f).toArray⟩ = T) := ⟨_, rfl⟩
      have hsl : ∀ w1 : World, (Instr.slice 9 (.string S) (some (.int .i64 f)) none none).run Tryz.prog w1 = .ok (.string T) w1 := fun w1 => by rw [← HS.out, ← HT.out]; exact slc_from s f (by rw [HN.out]; exact hf) w1
      obtain ⟨fn, tmps, assign, body, hy, hR⟩ := hY pre (D, s.drop f) wr HJ.out (by have := HL.out; omega)
      simp only [encP, HT.out] at hy
      gi_wp2
      refine hR.mono ?_
      rintro e1 W3 (⟨rfl, hJ3, hk3⟩ | ⟨rfl, hJx3⟩)
      · gi_wp2
        go_end0
        exact ⟨⟨_, rfl⟩, .inl ⟨_, HEQ.out, hJ3⟩⟩
      · gi_wp2
        go_end0
        exact ⟨⟨_, rfl⟩, .inr ⟨_, ⟨[], by rw [List.append_nil]; exact HEQ.out⟩, hJx3⟩⟩
theorem kc_t {b : Nat} {A B C : World} (h : Kc b A B) (k : Kc b B C) : Kc b A C := k.trans h
theorem kc_b {wL : World} {b : Nat} (h2 : b < wL.heap.size) (W : World) (l : Nat) (o o' : Obj) (hl : wL.heap.size ≤ l) (h : W.heap[l]? = some o) (hc : o.isCells = false) (hw : o.isWalk = false) : Kc b W (W.putObj l o') :=
  World.putObj_heap_other (by omega)
theorem keeps_below {B : Nat} {X Y : World} (h : Below X.heap.size X Y) : KeepsFrom B X Y := ⟨h.size, fun i o _ hi _ => (h.block i (Array.getElem?_eq_some_iff.1 hi).1).trans hi⟩
theorem boxed_kept {A B : World} {row : Option Nat} {k t : Nat} {v : Value} (h : Boxed A k t v) (hg : A.grownBy B row) (hr : ∀ r, row = some r → ∃ o : Obj, A.heap[r]? = some o ∧ o.isCells = false) : Boxed B k t v :=
  h.kept hg (fun e' => by obtain ⟨o, ho, hc⟩ := hr k e'.symm; rw [show A.heap[k]? = _ from h] at ho; cases ho; cases hc)
theorem parts_in (n : Nat) (S : ByteArray) (w : World) :
    CallsIn Fence.wide n Tryz.prog 58 #[.string S] w fun e w' => e = .returned (.func (.func 78) #[] #[.pointer (some ⟨w.heap.size, 0, none⟩)]) ∧ w' = w.alloc (.cells #[.string S] 9) := by
  refine callsIn_of_wp Tryz.func58 rfl trivial ?_ rfl
  simp only [Tryz.ntmps58, List.size_toArray, List.length_cons, List.length_nil, Nat.reduceAdd, Nat.reduceSub, Array.replicate_succ, Array.replicate_zero, List.push_toArray, List.append_toArray, List.nil_append, List.cons_append]
  gi_wp2
  go_ret
  exact ⟨rfl, rfl⟩
theorem parts_stops (n : Nat) (hn : 1 ≤ n) (s : List UInt8) (hs : s.length ≤ 100) (wL : World) (b : Nat) (hb1 : b < wL.heap.size) (hb : wL.cell? ⟨b, 0, none⟩ = some (.string ⟨s.toArray⟩)) :
    SeqStopsK Fence.wide n Tryz.prog 78 #[.pointer (some ⟨b, 0, none⟩)] encP (Kc b) (SAll s) (SPart s) 101 wL := fun l J Jx W hWL _ _ hY h0 =>
  parts1_in n hn s hs l b J Jx hY W ((hWL.cell (p := ⟨b, 0, none⟩) hb1).trans hb) h0
structure PI (w : World) (pre : List (ByteArray × List UInt8)) (W : World) : Prop where
  r0 : Boxed W w.heap.size 4 (.bool false)
  ok : ∀ x ∈ pre, okE x.2
  lt : w.heap.size + 1 < W.heap.size
  b1 : Below w.heap.size w W
structure PX (w : World) (c : Code) (pre : List (ByteArray × List UInt8)) (W : World) : Prop where
  ret : c = .ret
  why : ∃ x ∈ pre, ¬ okE x.2
  r0 : Boxed W w.heap.size 4 (.bool false)
  b1 : Below w.heap.size w W
theorem PI.own (w : World) (B : Nat) (h1 : w.heap.size ≤ B) : OwnFrom B (PI w) := fun pre X Y row h hg hr =>
  ⟨boxed_kept h.r0 hg (fun r e => (hr r e).2), h.ok, Nat.lt_of_lt_of_le h.lt hg.size, ownFrom_below (β := Unit) (Nat.le_refl _) h1 () X Y row h.b1 hg hr⟩
theorem PX.own (w : World) (B : Nat) (h1 : w.heap.size ≤ B) (c : Code) : OwnFrom B (PX w c) := fun pre X Y row h hg hr =>
  ⟨h.ret, h.why, boxed_kept h.r0 hg (fun r e => (hr r e).2), ownFrom_below (β := Unit) (Nat.le_refl _) h1 () X Y row h.b1 hg hr⟩
theorem Tryz.results39 : Tryz.f39.results = #[.cell 2 4] := by kernel_rfl
theorem results_c1 {fn : Func} {p : Tmp} (h : fn.results = #[.cell p 4]) (tmps : Array Value) (w : World) (b : Nat) (x : Value) (hp : tmps.getD p undef = .pointer (some ⟨b, 0, none⟩)) (hx : w.cell? ⟨b, 0, none⟩ = some x) :
    (results fn tmps).run Tryz.prog w = .ok x w := by
  have hp' : tmps[p]?.getD undef = .pointer (some ⟨b, 0, none⟩) := by simpa using hp
  simp [results, h, hp', asAddr, loadVar, isAgg, underlying, Tryz.underlying4, hx]
theorem ip_ret (tmps : Array Value) (W : World) (D s : Nat) (v0 : Value) (h2 : tmps.getD 2 undef = .pointer (some ⟨s, 0, none⟩)) (hr0 : Boxed W s 4 v0) (hK : W.heap[D]? = some (.deferred (some [])))
    (R : Ending → World → Prop) (hR : R (.returned v0) (W.putObj D (.deferred none))) : bodyPostM Fence.wide 3 Tryz.prog Tryz.f39 R .ret { tmps := tmps, defers := [{ target := .collected D, args := #[] }] } W := by
  refine ⟨by simp, .inl ⟨_, _, rfl, run_takeDeferred hK, ?_⟩⟩
  have hr : ∀ r, some D = some r → ∃ o : Obj, W.heap[r]? = some o ∧ o.isCells = false := fun r e => by cases e; exact ⟨_, hK, rfl⟩
  exact ⟨_, results_c1 Tryz.results39 _ _ s v0 h2 (boxed_kept hr0 (grownBy_putObj' _ D (.deferred none)) hr).cell, hR⟩
theorem PI.ended {w : World} {s : List UInt8} {xs : List (ByteArray × List UInt8)} {W : World} (h : PI w xs W) (hS : SAll s xs) (hs : s.length ≤ 100) : okP s := by
  refine ⟨hs, fun p hp => ?_⟩
  rw [← show _ = spl s from hS] at hp
  obtain ⟨x, hx, rfl⟩ := List.mem_map.1 hp
  exact h.ok x hx
theorem PX.ended {w : World} {s : List UInt8} {c : Code} {pre : List (ByteArray × List UInt8)} {W : World} (h : PX w c pre W) (hS : SPart s pre) : ¬ okP s := by
  obtain ⟨x, hx, hn⟩ := h.why
  obtain ⟨r, hr⟩ := hS
  exact fun hk => hn (hk.2 _ (by rw [← hr]; exact List.mem_append_left _ (List.mem_map.2 ⟨x, hx, rfl⟩)))
set_option maxRecDepth 100000 in
set_option maxHeartbeats 4000000 in
theorem isPath_any (hIs : ∀ (t : List UInt8) (W : World), Calls Tryz.prog 59 #[.string ⟨t.toArray⟩] W fun e W' => BIs (okE t) e ∧ Below W.heap.size W W')
    (s : List UInt8) (w : World) : Calls Tryz.prog 39 #[.string ⟨s.toArray⟩] w fun e w' => BIs (okP s) e ∧ Below w.heap.size w w' := by
  obtain ⟨S, HS⟩ : ∃ S : ByteArray, Hid (⟨s.toArray⟩ = S) := ⟨_, rfl⟩
  obtain ⟨N, HN⟩ : ∃ N, Hid (s.length = N) := ⟨_, rfl⟩
  have hsz : S.size = N := by rw [← HS.out, txt_len]; exact HN.out
  have HB0 : Hid (Below w.heap.size w (w.alloc (.cells #[.bool false] 4))) := (Below.refl _ w).alloc (Nat.le_refl _) _
  by_cases h100 : N ≤ 100
  rotate_left
  · have hi : (100 : Int) < (N : Int) := by omega
    have HO : Hid (¬ okP s) := fun h => h100 (by rw [← HN.out]; exact h.1)
    rw [HS.out]
    go_enter Tryz.func39, Tryz.ntmps39
    go_wp2
    refine bodyPost_ret (results_c1 Tryz.results39 _ _ w.heap.size (.bool false) rfl (by simp [go_sem])) rfl ⟨bis_false HO.out, ?_⟩
    first
      | exact HB0.out
      | exact HB0.out.setCell (Nat.le_refl _) _
  have hi : ¬ (100 : Int) < (N : Int) := by omega
  have HIS : Hid (∀ (t : List UInt8) (W : World), Calls Tryz.prog 59 #[.string ⟨t.toArray⟩] W fun e W' => BIs (okE t) e ∧ Below W.heap.size W W') := hIs
  have H100 : Hid (s.length ≤ 100) := hid (by rw [HN.out]; exact h100)
  rw [HS.out]
  refine (callsIn_wide (n := 3)).1 ?_
  refine callsIn_of_wp_marks Tryz.func39 rfl trivial ?_ rfl
  simp only [Tryz.ntmps39, List.size_toArray, List.length_cons, List.length_nil, Nat.reduceAdd, Nat.reduceSub, Array.replicate_succ, Array.replicate_zero, List.push_toArray, List.append_toArray, List.nil_append, List.cons_append]
  gi_wp2_with (refine ⟨trivial, ?_⟩; gi_at_call 58; refine (parts_in _ _ _).mono ?_; rintro ev w2 ⟨rfl, rfl⟩)
  have c0 := (Boxed.new w 4 (.bool false)).alloc (.cells #[.string S] 9)
  have c1 := Boxed.new (w.alloc (.cells #[.bool false] 4)) 9 (.string S)
  simp only [World.size_alloc] at c1 ⊢
  have hI0 : PI w [] ((w.alloc (.cells #[.bool false] 4)).alloc (.cells #[.string S] 9)) := ⟨c0, (fun x h => by cases h), (by simp), HB0.out.alloc (by simp) _⟩
  obtain ⟨WL, HWL⟩ : ∃ WL, Hid (((w.alloc (.cells #[.bool false] 4)).alloc (.cells #[.string S] 9)) = WL) := ⟨_, rfl⟩
  have hLs : WL.heap.size = w.heap.size + 2 := by rw [← HWL.out]; simp
  rw [HWL.out] at hI0 c1 ⊢
  refine wpIn_rangeFunc_ownG (F := Fence.wide) (n := 3) rfl (by omega) (gf := 78) (lb := #[.pointer (some ⟨w.heap.size + 1, 0, none⟩)]) rfl trivial (enters_of Tryz.func78 (by kernel_rfl) rfl)
    (parts_stops 2 (by omega) s H100.out WL (w.heap.size + 1) (by omega) (by rw [HS.out]; exact c1.cell))
    kc_t (kc_b (by omega)) (Below.refl _ _) (fun _ => rfl) (PI w) (PX w) (PI.own w _ (by omega)) (PX.own w _ (by omega)) hI0
    (fun x => { tmps := #[.string S, undef, .pointer (some ⟨w.heap.size, 0, none⟩), undef, .string ⟨x.2.toArray⟩, .string S, .int .i64 N, .bool false, .string S, .func (.func 78) #[] #[.pointer (some ⟨w.heap.size + 1, 0, none⟩)], .string x.1, .string ⟨x.2.toArray⟩, undef, undef, undef], defers := [] }) ?assign ?body ?done ?stop
  case assign =>
    intro l x W K hK
    dsimp only [encP]
    gi_wp2
    exact hK
  case body =>
    rintro l pre x W hI hlt
    have HI : Hid (PI w pre W) := hI
    obtain ⟨T, HT⟩ : ∃ T : ByteArray, Hid (⟨x.2.toArray⟩ = T) := ⟨_, rfl⟩
    have C7 : Hid (Calls Tryz.prog 59 #[.string T] W fun e W' => BIs (okE x.2) e ∧ Below W.heap.size W W') := hid (by rw [← HT.out]; exact HIS.out x.2 W)
    rw [HT.out]
    clear hI
    gi_wp2_with fail
    refine ⟨trivial, ?_⟩
    refine (CallsIn.inRound l (callsIn_wide.2 C7.out)).mono ?_
    rintro ev w1 ⟨hbi, hb1⟩
    have hlW := HI.out.lt
    have HB1 : Hid (Below w.heap.size w w1) := HI.out.b1.trans (hb1.mono (by omega))
    have HR1 : Hid (Boxed w1 w.heap.size 4 (.bool false)) := (hb1.block _ (by omega)).trans HI.out.r0
    have HKC : Hid (Kc (w.heap.size + 1) W w1) := hb1.block _ hlW
    have HKF : Hid (∀ B, KeepsFrom B W w1) := fun B => keeps_below hb1
    have hl1 : w.heap.size + 1 < w1.heap.size := Nat.lt_of_lt_of_le hlW hb1.size
    clear hb1
    rcases bis_or hbi with ⟨hy, rfl⟩ | ⟨hn, rfl⟩
    · have HY : Hid (okE x.2) := hy
      clear hy hbi
      gi_wp2
      exact ⟨HKF.out _, HKC.out, HR1.out, fun y hy => (List.mem_append.1 hy).elim (HI.out.ok y) (fun h1 => by simp at h1; rw [h1]; exact HY.out), hl1, HB1.out⟩
    · have HY : Hid (¬ okE x.2) := hn
      have k0 := HR1.out.cell
      have f0 := HR1.out.frozen
      clear hn hbi
      gi_wp2
      exact ⟨(HKF.out _).trans ((KeepsOthers.setCell _ _ _).from _), rfl, ⟨x, by simp, HY.out⟩, HR1.out.set _, HB1.out.setCell (Nat.le_refl _) _⟩
  case done =>
    rintro D xs W hD hS hI hK
    have HE : Hid (okP s) := hI.ended hS H100.out
    have k0 := hI.r0.cell
    have f0 := hI.r0.frozen
    have HK : Hid _ := hK
    have HI : Hid (PI w xs W) := hI
    clear hI hS
    gi_wp2
    have hK2 := (KeepsOthers.setCell W ⟨w.heap.size, 0, none⟩ (.bool true)).same D _ HK.out rfl
    refine ip_ret _ _ D w.heap.size _ rfl (HI.out.r0.set _) hK2 _ ?_
    exact ⟨bis_true HE.out, (HI.out.b1.setCell (Nat.le_refl _) _).trans (belowK_b (w := w) (Nat.le_refl _) _ D _ _ (by omega) hK2 rfl rfl)⟩
  case stop =>
    rintro D c pre W hD hS hX hK
    have HE : Hid (¬ okP s) := hX.ended hS
    obtain ⟨rfl, _, hr0, hb1⟩ := hX
    have HK : Hid _ := hK
    gi_wp2
    refine ip_ret _ _ D w.heap.size _ rfl hr0 HK.out _ ?_
    exact ⟨bis_false HE.out, hb1.trans (belowK_b (w := w) (Nat.le_refl _) _ D _ _ (by omega) HK.out rfl rfl)⟩
end Go.Proofs.YtikmbjfambjmaaaGreatDoor.Ip
namespace Go.Proofs.YtikmbjfambjmaaaGreatDoor.Ip
open Go.RowKit
set_option linter.unusedVariables false
set_option linter.unusedSimpArgs false
theorem isPath_all (s : List UInt8) (w : World) : Calls Tryz.prog 39 #[.string ⟨s.toArray⟩] w fun e w' => BIs (okP s) e ∧ Below w.heap.size w w' :=
  isPath_any (fun t W => isEntryName_any t W) s w
end Go.Proofs.YtikmbjfambjmaaaGreatDoor.Ip
