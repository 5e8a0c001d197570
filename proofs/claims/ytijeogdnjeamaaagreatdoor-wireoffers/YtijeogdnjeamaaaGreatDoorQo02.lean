import Derived.Test.YtijeogdnjeamaaaGreatDoorQo01
import Derived.ArgAppend
import Derived.Lib.AppendStr
import Derived.Lib.SlBytesConst
import Derived.Laws.IdiomStrings
import Derived.Laws.BytesArg
import Derived.Deep.WholeRow
import Derived.Laws.IdiomCopy
import Derived.Lib.LazyBuf
import Derived.Great.BuildSlice
import Derived.RangeFuncNested
import Derived.RangeFuncBound
import Derived.RangeFuncCalls
import Derived.RangeFuncLeaves
import Derived.RangeFuncBox
import Derived.Shelf.Abstract
import Derived.Shelf.RegionOpen
import Derived.WalkKit
import Derived.OwnWalkIn
import Derived.TacticsInMore
import Derived.LoopNIn
import Derived.LoopIn
import Derived.Sort.LoopGhostIn
import Derived.Shelf.Small.Strs
import Derived.Shelf.SlLaysF0
import Derived.Test.YtijeogdnjeamaaaGreatDoorProg
import Derived.Sort.Statements
import Derived.Sort.Grow
import Derived.Maps.OwnIn
import Derived.Lib.OthersKept
import Derived.Lib.TrimUEq
import Derived.Lib.SpaceUEq
import Derived.Lib.QuoteLoop
import Derived.Defers
import Derived.Recover
import Derived.LaidEql
import Derived.Stop.Asserts
import Derived.RowKitTokens
namespace Go.Proofs.YtijeogdnjeamaaaGreatDoor
open Go.RowKit
set_option linter.unusedVariables false
set_option linter.unusedSimpArgs false
def adX (k : Nat) (a : Option Addr) (cap j : Nat) : Option Addr := if cap = j then a else a.map (·.add (j * k))
section
variable {α : Type} {enc : α → List Value} {k : Nat} {d : α}
theorem Px.mid {w : World} {a : Option Addr} {cap : Nat} {l : List α} (h : Px enc k d w a cap l) (i j : Nat) (hij : i ≤ j) (hj : j ≤ l.length) : Px enc k d w (adX k a cap i) (cap - i) ((l.drop i).take (j - i)) :=
  ⟨by rw [List.length_take, List.length_drop]; have := h.capl; omega, fun h0 => by
    rw [List.length_take, List.length_drop] at h0
    obtain ⟨b, off, e1, e2, e3⟩ := h.at_ (by omega)
    subst e1
    have hc := h.capl
    refine ⟨b, off + i * k, by unfold adX; rw [if_neg (by omega), Option.map_some, addr_add], e2, fun q hq => ?_⟩
    rw [List.length_take, List.length_drop] at hq
    have := e3 (i + q) (by omega)
    rw [show off + i * k + q * k = off + (i + q) * k by rw [Nat.add_mul]; omega]
    rw [show ((l.drop i).take (j - i)).getD q d = l.getD (i + q) d by rw [List.getD_eq_getElem?_getD, List.getD_eq_getElem?_getD, List.getElem?_take, if_pos (by omega), List.getElem?_drop]]
    exact this, fun h2 => by
    have : a = none := by
      unfold adX at h2
      split at h2
      · exact h2
      · cases a with
        | none => rfl
        | some p => cases h2
    have := h.nil this
    omega⟩
theorem Px.from {w : World} {a : Option Addr} {cap : Nat} {l : List α} (h : Px enc k d w a cap l) (i : Nat) (hi : i ≤ l.length) : Px enc k d w (adX k a cap i) (cap - i) (l.drop i) := by
  have := h.mid i l.length hi (Nat.le_refl _)
  rwa [List.take_of_length_le (by rw [List.length_drop]; omega)] at this
end
abbrev Str := List UInt8
def encB (x : UInt8) : List Value := [.int .u8 (x.toNat : Int)]
abbrev PB (w : World) (a : Option Addr) (cap : Nat) (s : Str) : Prop := Px encB 1 0 w a cap s
def sV (s : Str) : Value := .string ⟨s.toArray⟩
theorem PB.cell {w : World} {b off cap : Nat} {s : Str} (h : PB w (some ⟨b, off, none⟩) cap s) (i : Nat) (hi : i < s.length) : w.cell? ⟨b, off + i, none⟩ = some (.int .u8 ((s.getD i 0).toNat : Int)) := by
  obtain ⟨b', off', e1, _, e3⟩ := h.at_ (by omega)
  cases e1
  have := e3 i hi 0 _ rfl
  simpa using this
theorem conv_str {w : World} {a : Option Addr} {cap : Nat} {s : Str} (h : PB w a cap s) : (convert 25 9 (.slice a s.length cap)).run Tryz.prog w = .ok (sV s) w := by
  cases a with
  | none =>
    have h0 : s = [] := List.length_eq_zero_iff.1 (by have := h.nil rfl; have := h.capl; omega)
    subst h0
    rw [run_convert_bytes_string w 25 9 5 none _ cap Tryz.underlying25 Tryz.underlying5 Tryz.underlying9]
    rfl
  | some p =>
    by_cases h0 : s.length = 0
    · obtain rfl : s = [] := List.length_eq_zero_iff.1 h0
      exact run_convert_bytes_back w 25 9 5 p cap [] Tryz.underlying25 Tryz.underlying5 Tryz.underlying9 (fun j hj => absurd hj (by simp))
    · obtain ⟨b, off, e1, _⟩ := h.at_ (by omega)
      cases e1
      refine run_convert_bytes_back w 25 9 5 _ cap s Tryz.underlying25 Tryz.underlying5 Tryz.underlying9 (fun j hj => ?_)
      rw [addr_add, PB.cell h j hj, List.getD_eq_getElem?_getD, List.getElem?_eq_getElem hj]
      rfl
theorem elem22 : Tryz.prog.underlying 25 = some (.slice (Tryz.prog.elem 25)) := by kernel_rfl
theorem size22e (w : World) : (Go.sizeOf (Tryz.prog.elem 25)).run Tryz.prog w = .ok 1 w := by kernel_rfl
theorem sl22 (a : Option Addr) (n cap i j : Nat) (J : Int) (hJ : J = (j : Int)) (hij : i ≤ j) (hj : j ≤ cap) (w : World) : (Instr.slice 25 (.slice a n cap) (some (.int .i64 i)) (some (.int .i64 J)) none).run Tryz.prog w = .ok (.slice (adX 1 a cap i) (j - i : Nat) (cap - i : Nat)) w := by
  subst hJ
  rw [run_slice_lh w 25 a n cap elem22 .i64 .i64 i j (by omega) (by omega) (by omega), size22e, Result.andThen_ok, sliced]
  rfl
theorem beq_t {s t : Str} (h : s = t) : (s == t) = true := by simp [h]
theorem beq_f {s t : Str} (h : ¬ s = t) : (s == t) = false := by simp [h]
theorem sl22l (a : Option Addr) (n cap i : Nat) (hi : i ≤ n) (w : World) : (Instr.slice 25 (.slice a n cap) (some (.int .i64 i)) none none).run Tryz.prog w = .ok (.slice (adX 1 a cap i) (n - i : Nat) (cap - i : Nat)) w := by
  rw [run_slice_l w 25 a n cap elem22 .i64 i (by omega) (by omega), size22e, Result.andThen_ok, sliced]
  rfl
theorem str_app (s t : Str) : (⟨s.toArray⟩ : ByteArray) ++ ⟨t.toArray⟩ = ⟨(s ++ t).toArray⟩ := by
  apply ByteArray.ext
  simp [ByteArray.data_append]
theorem conv_bytes (l : Str) (w : World) : ∃ cap w', (convert 9 25 (.string ⟨l.toArray⟩)).run Tryz.prog w = .ok (.slice (some ⟨w.heap.size, 0, none⟩) l.length cap) w' ∧ PB w' (some ⟨w.heap.size, 0, none⟩) cap l ∧ Below w.heap.size w w' := by
  have hr := run_bytes_of_string (P := Tryz.prog) w 9 25 5 ⟨l.toArray⟩ Tryz.underlying9 Tryz.underlying25 Tryz.underlying5
  have hsz : (⟨l.toArray⟩ : ByteArray).size = l.length := by simp [ByteArray.size]
  rw [hsz] at hr
  have hge := grownCap_ge w l.length 0 5
  generalize grownCap w l.length 0 5 = cap at hr hge
  have h1 : ∀ i, i < l.length → (bytesRow ⟨l.toArray⟩ cap)[i]? = some (.int .u8 ((l.getD i 0).toNat : Int)) := fun i hi => by
    simp [bytesRow, hi, Array.getElem?_append]
  generalize bytesRow ⟨l.toArray⟩ cap = R at hr h1
  have hh : (w.drew.alloc (.cells R 5 (R.size, R.size + 1))).heap[w.heap.size]? = some (.cells R 5 (R.size, R.size + 1)) := by
    show (w.heap.push _)[w.heap.size]? = _
    simp
  refine ⟨cap, _, hr, ⟨hge, fun _ => ⟨_, 0, rfl, by simp, fun i hi j v hv => ?_⟩, fun h => by cases h⟩, rfl, rfl, rfl, by simp, fun k hk => ?_⟩
  · have hj : j = 0 := by
      have := (List.getElem?_eq_some_iff.1 hv).1
      simp [encB] at this
      exact this
    subst hj
    rw [Nat.zero_add, Nat.mul_one, Nat.add_zero, World.cell?, hh]
    have := h1 i hi
    simp [encB] at hv
    rw [← hv]
    exact this
  · show (w.heap.push _)[k]? = _
    rw [Array.getElem?_push_lt hk, Array.getElem?_eq_getElem hk]
theorem size_alloc (w : World) (o : Obj) : (w.alloc o).heap.size = w.heap.size + 1 := by simp
def bv (s : Str) : List Value := s.map (fun x => Value.int .u8 (x.toNat : Int))
theorem bv_len (s : Str) : (bv s).length = s.length := by simp [bv]
theorem bv_one (s : Str) : ∀ u ∈ bv s, u.oneCell' = true := by
  intro u hu
  obtain ⟨x, _, rfl⟩ := List.mem_map.1 hu
  rfl
theorem bv_app (s t : Str) : bv (s ++ t) = bv s ++ bv t := by simp [bv]
theorem bv_str (s : Str) : Lib.strCells ⟨s.toArray⟩ = bv s := by simp [Lib.strCells, bv]
structure Mk (w : World) (g cap : Nat) (s : Str) : Prop where
  lt : g < w.heap.size
  capl : s.length ≤ cap
  at_ : ∀ (j : Nat) (u : Value), (bv s)[j]? = some u → w.cell? ⟨g, j, none⟩ = some u
  spare : ∀ i, s.length ≤ i → i < cap → (w.cell? ⟨g, i, none⟩).isSome = true ∧ w.frozen? ⟨g, i, none⟩ = false
theorem PB.at {w : World} {b off cap : Nat} {s : Str} (h : PB w (some ⟨b, off, none⟩) cap s) : ∀ (j : Nat) (u : Value), (bv s)[j]? = some u → w.cell? ((⟨b, off, none⟩ : Addr).add j) = some u := fun j u hj => by
  have hl := (List.getElem?_eq_some_iff.1 hj).1
  rw [bv_len] at hl
  rw [addr_add, PB.cell h j hl]
  unfold bv at hj
  rw [List.getElem?_map, List.getElem?_eq_getElem hl] at hj
  rw [List.getD_eq_getElem?_getD, List.getElem?_eq_getElem hl]
  exact hj
theorem Mk.pb {w : World} {g cap : Nat} {s : Str} (h : Mk w g cap s) : PB w (some ⟨g, 0, none⟩) cap s :=
  ⟨h.capl, fun _ => ⟨g, 0, rfl, h.lt, fun i hi j v hv => by
    have hj : j = 0 := by
      have := (List.getElem?_eq_some_iff.1 hv).1
      simp [encB] at this
      exact this
    subst hj
    rw [Nat.zero_add, Nat.mul_one, Nat.add_zero]
    refine h.at_ i v ?_
    simp only [encB, List.getElem?_cons_zero, Option.some.injEq] at hv
    unfold bv
    rw [List.getElem?_map, List.getElem?_eq_getElem hi, ← hv, List.getD_eq_getElem?_getD, List.getElem?_eq_getElem hi]
    rfl⟩, fun h => by cases h⟩
theorem Mk.kept {w w' : World} {g cap : Nat} {s : Str} (h : Mk w g cap s) (hs : w.heap.size ≤ w'.heap.size) (hb : w'.heap[g]? = w.heap[g]?) : Mk w' g cap s :=
  ⟨Nat.lt_of_lt_of_le h.lt hs, h.capl, fun j u hj => (World.cell?_of_block (a := ⟨g, j, none⟩) hb).trans (h.at_ j u hj), fun i h1 h2 => by
    have := h.spare i h1 h2
    rw [World.cell?_of_block (a := ⟨g, i, none⟩) hb]
    refine ⟨this.1, ?_⟩
    rw [← this.2]
    unfold World.frozen?
    rw [hb]⟩
theorem Mk.below {w w' : World} {g cap : Nat} {s : Str} (h : Mk w g cap s) (hb : Below w.heap.size w w') : Mk w' g cap s := h.kept hb.size (hb.block g h.lt)
theorem Px.lt {α : Type} {enc : α → List Value} {k : Nat} {d : α} {w : World} {a : Option Addr} {cap : Nat} {l : List α} (h : Px enc k d w a cap l) : 0 < l.length → ∀ p : Addr, a = some p → p.block < w.heap.size := fun h0 p hp => by
  obtain ⟨b, off, e1, e2, _⟩ := h.at_ h0
  rw [e1] at hp
  cases hp
  exact e2
theorem grown_cells (w : World) (g o : Nat) (l : List Value) : w.grownBy (w.setCells g o l) (some g) := grown_setCells g l o w w ⟨rfl, rfl, rfl, Nat.le_refl _, fun _ _ _ => rfl⟩
theorem mk_own {w : World} {B : Nat} {v : Value} {s : Str} (h : w.ownsRow B 5 1 v s.length (bv s)) (h0 : 0 < s.length) : ∃ g cap, v = .slice (some ⟨g, 0, none⟩) s.length cap ∧ B ≤ g ∧ Mk w g cap s := by
  obtain ⟨hl, ⟨hv, e0⟩ | ⟨g, cap, cur, hv, hb, hh, hkc, hcm, hsz, htk⟩⟩ := h
  · omega
  · refine ⟨g, cap, hv, hb, lt_of_some hh, hkc, fun j u hj => ?_, fun i h1 h2 => ⟨?_, ?_⟩⟩
    · rw [cell_of_row w g j _ _ _ hh]
      rw [← htk] at hj
      have hlt := (List.getElem?_eq_some_iff.1 hj).1
      rw [List.length_take] at hlt
      rw [List.getElem?_take_of_lt (by omega)] at hj
      simpa using hj
    · rw [cell_of_row w g i _ _ _ hh, Array.getElem?_eq_getElem (by omega)]
      rfl
    · exact frozen_of_row w g i _ _ hh
theorem wpList_app {ops : Array Oper} {rest : List Oper} {o : Oper} {a : Act} {Q : Exit → Act → World → Prop} {w w' : World} {v : Value} (hg : o.guard = none) (s x : Operand) (t u : TypeId)
    (ho : o.op = .call { callee := .builtin .append, args := #[s, x], argTypes := #[t, u] }) (ty : TypeId) (hty : o.type = ty) (vs vx : Value) (hs : a.eval s = vs) (hx : a.eval x = vx)
    (hr : (Builtin.append_ #[t, u] ty #[vs, vx]).run Tryz.prog w = .ok v w') (h : wpList Tryz.prog ops Q rest (a.put o.dst v) w') : wpList Tryz.prog ops Q (o :: rest) a w := by
  subst hty
  refine wpList_plain hg fun K hK => ?_
  unfold Oper.wp execOp
  simp only [ho, resolve, invoke, builtin, Sem.run_bind, Sem.run_pure, Result.andThen_ok, List.map_toArray, List.map_cons, List.map_nil, hs, hx, hr]
  exact hK _ _ h
theorem wpList_own {w : World} {ops : Array Oper} {rest : List Oper} {o : Oper} {a : Act} {Q : Exit → Act → World → Prop} (hgd : o.guard = none) (s x : Operand) (ho : o.op = .call { callee := .builtin .append, args := #[s, x], argTypes := #[25, 25] })
    (B : Nat) (v : Value) (l : Str) (hs : a.eval s = v) (h : w.ownsRow B 5 1 v l.length (bv l)) (hB : B ≤ w.heap.size) (ax : Option Addr) (cx : Nat) (m : Str) (hx : a.eval x = .slice ax m.length cx) (hP : PB w ax cx m) (hl : l.length + m.length ≤ 100000000)
    (hK : ∀ v' w', w'.ownsRow B 5 1 v' (l ++ m).length (bv (l ++ m)) → w.grownBy w' v.ownBlock → (v'.ownBlock = v.ownBlock ∨ v'.ownBlock = some w.heap.size) → wpList Tryz.prog ops Q rest (a.put o.dst v') w') : wpList Tryz.prog ops Q (o :: rest) a w := by
  obtain ⟨i, hi, hz0, hz1, hz2⟩ := info_parts Tryz.info5
  cases ax with
  | none =>
    have hc : cx = 0 := hP.nil rfl
    have hcl := hP.capl
    obtain rfl : m = [] := List.length_eq_zero_iff.1 (by omega)
    subst hc
    refine wpList_plain hgd fun K hK' => ?_
    have hr := run_append_owned_none (P := Tryz.prog) w B 25 o.type 5 i 1 Tryz.underlying25 hi v _ _ h
    unfold Oper.wp execOp
    simp only [List.length_nil] at hx
    simp only [ho, resolve, invoke, builtin, Sem.run_bind, Sem.run_pure, Result.andThen_ok, List.map_toArray, List.map_cons, List.map_nil, hs, hx, hr]
    exact hK' _ _ (hK v w (by simpa using h) ⟨rfl, rfl, rfl, Nat.le_refl _, fun _ _ _ => rfl⟩ (.inl rfl))
  | some ad =>
    obtain ⟨bk, of, fr⟩ := ad
    by_cases h0 : m.length = 0
    · obtain rfl : m = [] := List.length_eq_zero_iff.1 h0
      refine wpList_append_own_at w hgd s x 25 ho B 5 i _ 1 1 Tryz.underlying25 hi hz0 hz1 hz2 rfl (by decide) v _ _ hs h ⟨bk, of, fr⟩ 0 cx [] hx (by simp) (fun j u hj => by cases hj) (fun u hu => by cases hu) (by unfold maxLen; omega) (by omega) hB ?_
      intro v' w' h1 h2 h3 h4
      exact hK v' w' (by simpa using h1) h2 h4
    · obtain ⟨b', off', e1, _⟩ := hP.at_ (by omega)
      cases e1
      refine wpList_append_own_at w hgd s x 25 ho B 5 i _ 1 1 Tryz.underlying25 hi hz0 hz1 hz2 rfl (by decide) v _ _ hs h ⟨bk, of, none⟩ m.length cx (bv m) hx (by rw [bv_len, Nat.mul_one]) (PB.at hP) (bv_one m) (by unfold maxLen; omega) (by omega) hB ?_
      intro v' w' h1 h2 h3 h4
      exact hK v' w' (by rw [bv_app, List.length_append]; exact h1) h2 h4
theorem own_pb {w : World} {B : Nat} {v : Value} {s : Str} (h : w.ownsRow B 5 1 v s.length (bv s)) : ∃ a cap, v = .slice a s.length cap ∧ PB w a cap s ∧ ∀ p : Addr, a = some p → B ≤ p.block := by
  obtain ⟨hl, ⟨hv, e0⟩ | ⟨g, cap, cur, hv, hb, hh, hkc, hcm, hsz, htk⟩⟩ := h
  · exact ⟨none, 0, by rw [hv, e0], ⟨by omega, fun h => by omega, fun _ => rfl⟩, fun p hp => by cases hp⟩
  · refine ⟨some ⟨g, 0, none⟩, cap, hv, Mk.pb ⟨lt_of_some hh, hkc, fun j u hj => ?_, fun i h1 h2 => ⟨?_, ?_⟩⟩, fun p hp => by cases hp; exact hb⟩
    · rw [cell_of_row w g j _ _ _ hh]
      rw [← htk] at hj
      have hlt := (List.getElem?_eq_some_iff.1 hj).1
      rw [List.length_take] at hlt
      rw [List.getElem?_take_of_lt (by omega)] at hj
      simpa using hj
    · rw [cell_of_row w g i _ _ _ hh, Array.getElem?_eq_getElem (by omega)]
      rfl
    · exact frozen_of_row w g i _ _ hh
def nums (s : Str) : List Int := s.map (fun x => (x.toNat : Int))
theorem nums_len (s : Str) : (nums s).length = s.length := by simp [nums]
theorem nums_at (s : Str) (i : Nat) (hi : i < s.length) : (nums s).getD i 0 = ((s.getD i 0).toNat : Int) := by
  simp [nums, List.getD_eq_getElem?_getD, List.getElem?_eq_getElem hi]
theorem pb_at {w : World} {b off cap : Nat} {s : Str} (h : PB w (some ⟨b, off, none⟩) cap s) : At w b off (nums s) := fun i hi => by
  rw [nums_len] at hi
  rw [nums_at s i hi]
  exact PB.cell h i hi
end Go.Proofs.YtijeogdnjeamaaaGreatDoor
namespace Go.Proofs.YtijeogdnjeamaaaGreatDoor
set_option linter.unusedVariables false
set_option linter.unusedSimpArgs false
def zs (n : Nat) : List UInt8 := List.replicate n 0
end Go.Proofs.YtijeogdnjeamaaaGreatDoor
namespace Go.Proofs.YtijeogdnjeamaaaGreatDoor
open Go.RowKit
set_option linter.unusedVariables false
set_option linter.unusedSimpArgs false
end Go.Proofs.YtijeogdnjeamaaaGreatDoor
namespace Go.Proofs.YtijeogdnjeamaaaGreatDoor
open Go.RowKit
set_option linter.unusedVariables false
set_option linter.unusedSimpArgs false
theorem Below.drewR {B : Nat} {w w' : World} (h : Below B w w') : Below B w w'.drew := h.trans ⟨rfl, rfl, rfl, Nat.le_refl _, fun _ _ => rfl⟩
end Go.Proofs.YtijeogdnjeamaaaGreatDoor
namespace Go.Proofs.YtijeogdnjeamaaaGreatDoor
open Go.RowKit
set_option linter.unusedVariables false
set_option linter.unusedSimpArgs false
theorem wpList_bSY {P : Program} {ops : Array Oper} {rest : List Oper} {o : Oper} {a : Act} {w w' : World} {Q : Exit → Act → World → Prop} (hg : o.guard = none) (t len : Nat) (x : Operand) (ho : o.op = .buildSlice t len #[(0, x)]) (u v : Value) (hx : a.eval x = u)
    (hr : (Instr.buildSlice t len #[(0, u)]).run P w = .ok v w')
    (h : wpList P ops Q rest (a.put o.dst v) w') : wpList P ops Q (o :: rest) a w := by
  refine wpList_plain hg fun K hK => ?_
  unfold Oper.wp execOp
  simp [ho, hx, hr, Result.andThen]
  exact hK _ _ h
end Go.Proofs.YtijeogdnjeamaaaGreatDoor
namespace Go.Proofs.YtijeogdnjeamaaaGreatDoor
open Go.RowKit
set_option linter.unusedVariables false
set_option linter.unusedSimpArgs false
def PostNu (B : Nat) (s : Str) (w : World) (e : Ending) (w' : World) : Prop := ∃ v, e = .returned v ∧ w'.ownsRow B 5 1 v s.length (bv s) ∧ Below B w w' ∧ B ≤ w'.heap.size
end Go.Proofs.YtijeogdnjeamaaaGreatDoor
namespace Go.Proofs.YtijeogdnjeamaaaGreatDoor
open Go.RowKit
set_option linter.unusedVariables false
set_option linter.unusedSimpArgs false
theorem bne_txt {x y : Str} {X Y : ByteArray} (hX : (⟨x.toArray⟩ : ByteArray) = X) (hY : (⟨y.toArray⟩ : ByteArray) = Y) (h : x ≠ y) : (X.toList == Y.toList) = false := by
  subst hX hY
  simpa using h
end Go.Proofs.YtijeogdnjeamaaaGreatDoor
namespace Go.Proofs.YtijeogdnjeamaaaGreatDoor
open Go.RowKit
set_option linter.unusedVariables false
set_option linter.unusedSimpArgs false
end Go.Proofs.YtijeogdnjeamaaaGreatDoor
namespace Go.Proofs.YtijeogdnjeamaaaGreatDoor
open Go.RowKit
set_option linter.unusedVariables false
set_option linter.unusedSimpArgs false
theorem base_mono {w : World} {B B' : Nat} {e : TypeId} {s : Nat} {v : Value} {n : Nat} {xs : List Value} (h : w.ownsRow B' e s v n xs) (hB : B ≤ B') : w.ownsRow B e s v n xs := by
  obtain ⟨hl, h1 | ⟨g, c, cur, h1, h2, h3⟩⟩ := h
  · exact ⟨hl, .inl h1⟩
  · exact ⟨hl, .inr ⟨g, c, cur, h1, Nat.le_trans hB h2, h3⟩⟩
end Go.Proofs.YtijeogdnjeamaaaGreatDoor
namespace Go.Proofs.YtijeogdnjeamaaaGreatDoor
open Go.RowKit
set_option linter.unusedVariables false
set_option linter.unusedSimpArgs false
theorem zc_bv (m : Nat) : Builtin.zeroCells (Value.int .u8 0).cells m = (bv (zs m)).toArray := by
  apply Array.ext'
  simp only [Builtin.zeroCells, Value.cells, bv, zs]
  simp
  apply List.ext_getElem?
  intro i
  by_cases h : i < m
  · simp [h, Nat.mod_one]
  · simp [h]
theorem und3i : Tryz.prog.underlying 3 = some (.int .i64) := by kernel_rfl
theorem own_z {w : World} {B : Nat} {v : Value} {s : Str} (h : w.ownsRow B 5 1 v s.length (bv s)) (hB : B ≤ w.heap.size) (h0 : 0 < s.length) (m : Nat) (hm : 0 < m) (hl : s.length + m ≤ 100000000) (ty : TypeId) :
    ∃ v' w', (Builtin.append_ #[25, 3] ty #[v, .int .i64 (m : Int)]).run Tryz.prog w = .ok v' w' ∧ w'.ownsRow B 5 1 v' (s ++ zs m).length (bv (s ++ zs m)) ∧ w.grownBy w' v.ownBlock := by
  obtain ⟨i5, hi, hz0, hz1, hz2⟩ := info_parts Tryz.info5
  have hzl : (zs m).length = m := by simp [zs]
  have hwr : IntKind.i64.wrap (m : Int) = m := by rw [IntKind.wrap_i64]; omega
  have hneg : ¬ ((m : Int) < 0) := by omega
  have hm0 : m ≠ 0 := by omega
  have h48i : ¬ (281474976710656 < (m : Int)) := by omega
  obtain ⟨hxl, ⟨hv, e0⟩ | ⟨g, cap, cur, hv, hbg, hg, hnc, hcm, hcs, htake⟩⟩ := h
  · omega
  subst hv
  by_cases hroom : s.length + m ≤ cap
  · have hst := run_storeCells_at Tryz.prog g s.length 5 (bv (zs m)) 0 cur w hg (by rw [bv_len, hzl]; omega) (bv_one _)
    simp only [Nat.add_zero] at hst
    refine ⟨.slice (some ⟨g, 0, none⟩) (s.length + m) cap, w.setRow g (cur.toList.take s.length ++ bv (zs m) ++ cur.toList.drop (s.length + (bv (zs m)).length)).toArray, ?_, ⟨by rw [bv_len, Nat.mul_one], .inr ⟨g, cap, _, by rw [List.length_append, hzl], hbg, setRow_heap w g cur _ 5 _ hg, by rw [List.length_append, hzl]; exact hroom, hcm, ?_, ?_⟩⟩, ⟨rfl, rfl, rfl, by simp, fun k _ hk => setRow_other w g k _ (fun e => hk (by simp [Value.ownBlock, e]))⟩⟩
    · simp [Builtin.append_, run_underlying Tryz.underlying25, run_underlying und3i, sizeOf, typeInfo, zeroValue, hi, hz0, hz1, hz2, asInt, asIntOf, hwr, hneg, hm0, h48i, hroom, zc_bv, Addr.add_lit, hst]
    · simp only [List.size_toArray, List.length_append, List.length_take, List.length_drop, Array.length_toList, bv_len, hzl]
      omega
    · rw [Nat.mul_one] at htake
      simp only [List.append_assoc]
      rw [htake, ← List.append_assoc, ← bv_app, List.take_left' (by rw [bv_len, Nat.mul_one])]
  · have hfo := run_firstCells_some (P := Tryz.prog) w.drew 1 s.length ⟨g, 0, none⟩ s.length cap (bv s) (by rw [bv_len, Nat.mul_one]) (fun j u hj => by
      have hlt := (List.getElem?_eq_some_iff.1 hj).1
      rw [bv_len] at hlt
      show w.cell? ((⟨g, 0, none⟩ : Addr).add j) = some u
      rw [addr_add, Nat.zero_add, cell_of_row w g j _ _ _ hg]
      rw [Nat.mul_one] at htake
      rw [← htake, List.getElem?_take_of_lt hlt] at hj
      simpa using hj)
    have hge := grownCap_ge w (s.length + m) cap 5
    have hcm2 : grownCap w (s.length + m) cap 5 ≤ maxLen := grownCap_le_maxLen w (s.length + m) cap 5 (by unfold maxLen; omega)
    have h63' : ¬ (9223372036854775807 < ((s.length : Int) + (m : Int))) := by omega
    have h48' : ¬ (281474976710656 < Builtin.nextslicecap (s.length + m) cap) := by
      have := growslice_fits (need := s.length + m) (old := cap) (bytes := 1) (by omega) (by omega)
      omega
    refine ⟨.slice (some ⟨w.heap.size, 0, none⟩) (s.length + m) (grownCap w (s.length + m) cap 5), w.drew.alloc (.cells ((bv s).toArray ++ (bv (zs m)).toArray ++ Builtin.zeroCells (Value.int .u8 0).cells (grownCap w (s.length + m) cap 5 - (s.length + m))) 5), ?_, ⟨by rw [bv_len, Nat.mul_one], .inr ⟨w.heap.size, _, _, by rw [List.length_append, hzl], hB, heap_alloc_new w.drew _, by rw [List.length_append, hzl]; exact hge, hcm2, ?_, ?_⟩⟩, ⟨rfl, rfl, rfl, by simp, fun k hk _ => by
      show (w.heap.push _)[k]? = _
      rw [Array.getElem?_push_lt hk, Array.getElem?_eq_getElem hk]⟩⟩
    · simp [Builtin.append_, run_underlying Tryz.underlying25, run_underlying und3i, sizeOf, typeInfo, zeroValue, hi, hz0, hz1, hz2, asInt, asIntOf, hwr, hneg, hm0, h48i, hroom, h63', h48', Question.forced, hfo, newRow, grownCap, zc_bv]
    · have hz1 : (Value.int IntKind.u8 0).cells.size = 1 := rfl
      simp only [Array.size_append, List.size_toArray, size_zeroCells, hz1, bv_len, hzl]
      omega
    · simp only [Array.toList_append, List.append_assoc]
      rw [← List.append_assoc, ← bv_app, List.take_left' (by rw [bv_len, Nat.mul_one])]
theorem own_str {w : World} {B : Nat} {v : Value} {s : Str} (h : w.ownsRow B 5 1 v s.length (bv s)) (hB : B ≤ w.heap.size) (t : Str) (hl : s.length + t.length ≤ 100000000) (ty : TypeId) :
    ∃ v' w', (Builtin.append_ #[25, 9] ty #[v, .string ⟨t.toArray⟩]).run Tryz.prog w = .ok v' w' ∧ w'.ownsRow B 5 1 v' (s ++ t).length (bv (s ++ t)) ∧ w.grownBy w' v.ownBlock := by
  obtain ⟨i5, hi, hz0, hz1, hz2⟩ := info_parts Tryz.info5
  obtain ⟨v', w', hr, h1, h2, _⟩ := Lib.run_append_own_string (P := Tryz.prog) w B 25 9 ty 5 i5 Tryz.underlying25 Tryz.underlying9 hi hz0 hz1 hz2 v _ _ h ⟨t.toArray⟩ (by rw [txt_len]; unfold maxLen; omega) (by rw [txt_len]; omega) hB
  refine ⟨v', w', hr, ?_, h2⟩
  rw [txt_len, bv_str, ← bv_app, ← List.length_append] at h1
  exact h1
end Go.Proofs.YtijeogdnjeamaaaGreatDoor
namespace Go.Proofs.YtijeogdnjeamaaaGreatDoor
open Go.RowKit
set_option linter.unusedVariables false
set_option linter.unusedSimpArgs false
end Go.Proofs.YtijeogdnjeamaaaGreatDoor
namespace Go.Proofs.YtijeogdnjeamaaaGreatDoor
open Go.RowKit
set_option linter.unusedVariables false
set_option linter.unusedSimpArgs false
theorem pb_new (sm : Str) (w : World) (t : TypeId) : PB (w.alloc (.cells (bv sm).toArray t)) (some ⟨w.heap.size, 0, none⟩) sm.length sm :=
  ⟨Nat.le_refl _, fun _ => ⟨w.heap.size, 0, rfl, by simp, fun i hi j v hv => by
    have hj : j = 0 := by
      have := (List.getElem?_eq_some_iff.1 hv).1
      simp [encB] at this
      exact this
    subst hj
    have hb : (bv sm)[i]? = some v := by
      unfold bv
      rw [List.getElem?_map, List.getElem?_eq_getElem hi, ← hv, List.getD_eq_getElem?_getD, List.getElem?_eq_getElem hi]
      rfl
    have := range_row (heap_alloc_new w (.cells (bv sm).toArray t)) i v hb
    simpa using this⟩, fun h => by cases h⟩
end Go.Proofs.YtijeogdnjeamaaaGreatDoor
namespace Go.Proofs.YtijeogdnjeamaaaGreatDoor
open Go.RowKit
set_option linter.unusedSectionVars false
set_option linter.unusedVariables false
set_option linter.unusedSimpArgs false
structure Wst (B : Nat) (w0 W : World) (v : Value) (S : Str) : Prop where
  own : W.ownsRow B 5 1 v S.length (bv S)
  bl : Below B w0 W
  le : B ≤ W.heap.size
theorem Wst.grown {B : Nat} {w0 W W' : World} {v v' : Value} {S S' : Str} (h : Wst B w0 W v S) (ho : W'.ownsRow B 5 1 v' S'.length (bv S')) (hg : W.grownBy W' v.ownBlock) : Wst B w0 W' v' S' :=
  ⟨ho, h.bl.grown hg h.le (fun k hk => (own_lt h.own k hk).1), Nat.le_trans h.le hg.size⟩
theorem Wst.z {B : Nat} {w0 W : World} {v : Value} {S : Str} (h : Wst B w0 W v S) (h0 : 0 < S.length) (m : Nat) (hm : 0 < m) (hl : S.length + m ≤ 100000000) (ty : TypeId) :
    ∃ v' W', (Builtin.append_ #[25, 3] ty #[v, .int .i64 (m : Int)]).run Tryz.prog W = .ok v' W' ∧ Wst B w0 W' v' (S ++ zs m) := by
  obtain ⟨v', W', hr, ho, hg⟩ := own_z h.own h.le h0 m hm hl ty
  exact ⟨v', W', hr, h.grown ho hg⟩
theorem Wst.str {B : Nat} {w0 W : World} {v : Value} {S : Str} (h : Wst B w0 W v S) (t : Str) (hl : S.length + t.length ≤ 100000000) (ty : TypeId) :
    ∃ v' W', (Builtin.append_ #[25, 9] ty #[v, .string ⟨t.toArray⟩]).run Tryz.prog W = .ok v' W' ∧ Wst B w0 W' v' (S ++ t) := by
  obtain ⟨v', W', hr, ho, hg⟩ := own_str h.own h.le t hl ty
  exact ⟨v', W', hr, h.grown ho hg⟩
theorem Wst.alloc {B : Nat} {w0 W : World} {v : Value} {S : Str} (h : Wst B w0 W v S) (o : Obj) : Wst B w0 (W.alloc o) v S := ⟨h.own.alloc o, h.bl.alloc h.le o, by rw [size_alloc]; have := h.le; omega⟩
theorem Wst.drew {B : Nat} {w0 W : World} {v : Value} {S : Str} (h : Wst B w0 W v S) : Wst B w0 W.drew v S :=
  ⟨h.own.kept (row := none) ⟨rfl, rfl, rfl, Nat.le_refl _, fun _ _ _ => rfl⟩ (by cases h : v.ownBlock <;> simp), Below.drewR h.bl, h.le⟩
theorem Wst.below {B : Nat} {w0 W W' : World} {v : Value} {S : Str} (h : Wst B w0 W v S) (hb : Below W.heap.size W W') : Wst B w0 W' v S :=
  ⟨h.own.kept (row := none) (grown_of_below hb _) (by cases h : v.ownBlock <;> simp), h.bl.trans (hb.mono h.le), Nat.le_trans h.le hb.size⟩
theorem Wst.sl {B : Nat} {w0 W : World} {v : Value} {S : Str} (h : Wst B w0 W v S) (b off cx : Nat) (m : Str) (hP : PB W (some ⟨b, off, none⟩) cx m) (hl : S.length + m.length ≤ 100000000) (ty : TypeId) :
    ∃ v' W', (Builtin.append_ #[25, 25] ty #[v, .slice (some ⟨b, off, none⟩) m.length cx]).run Tryz.prog W = .ok v' W' ∧ Wst B w0 W' v' (S ++ m) := by
  obtain ⟨i, hi, hz0, hz1, hz2⟩ := info_parts Tryz.info5
  obtain ⟨v', W', hr, h1, h2, _⟩ := run_append_own_at (P := Tryz.prog) W B 25 ty 5 i _ 1 1 Tryz.underlying25 hi hz0 hz1 hz2 rfl (by decide) v _ _ h.own ⟨b, off, none⟩ m.length cx (bv m) (by rw [bv_len, Nat.mul_one]) hP.at (bv_one m) (by unfold maxLen; omega) (by omega) h.le
  exact ⟨v', W', hr, h.grown (by rw [List.length_append, bv_app]; exact h1) h2⟩
theorem pb_row {W : World} {b o : Nat} {s : Str} (hb : b < W.heap.size) (h : W.rangeAt b o (bv s)) : PB W (some ⟨b, o, none⟩) s.length s :=
  ⟨Nat.le_refl _, fun _ => ⟨b, o, rfl, hb, fun i hi j v hv => by
    have hj : j = 0 := by
      have := (List.getElem?_eq_some_iff.1 hv).1
      simp [encB] at this
      exact this
    subst hj
    have hb : (bv s)[i]? = some v := by
      unfold bv
      rw [List.getElem?_map, List.getElem?_eq_getElem hi, ← hv, List.getD_eq_getElem?_getD, List.getElem?_eq_getElem hi]
      rfl
    have := h i v hb
    simpa using this⟩, fun h => by cases h⟩
end Go.Proofs.YtijeogdnjeamaaaGreatDoor
namespace Go.Proofs.YtijeogdnjeamaaaGreatDoor
open Go.RowKit
set_option linter.unusedVariables false
set_option linter.unusedSectionVars false
set_option linter.unusedSimpArgs false
end Go.Proofs.YtijeogdnjeamaaaGreatDoor
namespace Go.Proofs.YtijeogdnjeamaaaGreatDoor
open Go.RowKit
set_option linter.unusedVariables false
set_option linter.unusedSimpArgs false
end Go.Proofs.YtijeogdnjeamaaaGreatDoor
namespace Go.Proofs.YtijeogdnjeamaaaGreatDoor
open Go.RowKit Go.Extern.Stop Go.Stop Go.Extern
set_option linter.unusedVariables false
set_option linter.unusedSimpArgs false
theorem valueOf45 (t : Addr) (w : World) : (ReflectliteValue.unpack (.iface 80 (.pointer (some t)))).run Tryz.prog w
    = .ok (.agg #[.pointer (some ⟨9, 80, none⟩), .pointer (some ⟨w.heap.size, 0, none⟩), .int .u64 150]) (w.alloc (.cells #[.pointer (some t)] 80)) := by kernel_rfl
theorem type45 (a : Addr) (w : World) : (ReflectliteValue.methodAny (ReflectliteValue.valueError "reflectlite.Value.Type" 0) (fun t _ _ _ => ReflectliteType.toType t) #[.agg #[.pointer (some ⟨9, 80, none⟩), .pointer (some a), .int .u64 150]]).run Tryz.prog w
    = .ok (.iface 166 (.agg #[.pointer (some ⟨9, 80, none⟩)])) w := by kernel_rfl
theorem methodKind (h : Value) (w : World) : (Go.method 396 166 (.agg #[h]) "Kind").run Tryz.prog w = .ok (192, h) w := by kernel_rfl
theorem kind45 (w : World) : ((ReflectliteType.abiMethod fun t => (fun a : Nat => Value.int IntKind.u8 (a : Int)) <$> Rtype.kind t) #[.pointer (some ⟨9, 80, none⟩)]).run Tryz.prog w = .ok (.int .u8 22) w := by kernel_rfl
theorem kind32 (w : World) : ((ReflectliteType.abiMethod fun t => (fun a : Nat => Value.int IntKind.u8 (a : Int)) <$> Rtype.kind t) #[.pointer (some ⟨9, 37, none⟩)]).run Tryz.prog w = .ok (.int .u8 2) w := by kernel_rfl
theorem methodElem (h : Value) (w : World) : (Go.method 396 166 (.agg #[h]) "Elem").run Tryz.prog w = .ok (202, .agg #[h]) w := by kernel_rfl
theorem methodImplements (h : Value) (w : World) : (Go.method 396 166 (.agg #[h]) "Implements").run Tryz.prog w = .ok (203, .agg #[h]) w := by kernel_rfl
theorem methodAssignableTo (h : Value) (w : World) : (Go.method 396 166 (.agg #[h]) "AssignableTo").run Tryz.prog w = .ok (200, .agg #[h]) w := by kernel_rfl
theorem elem45 (w : World) : (ReflectliteType.method ReflectliteType.elem #[.agg #[.pointer (some ⟨9, 80, none⟩)]]).run Tryz.prog w = .ok (.iface 166 (.agg #[.pointer (some ⟨9, 37, none⟩)])) w := by kernel_rfl
theorem implements32 (w : World) : (ReflectliteType.relation "Implements" ReflectliteType.implements_ #[.agg #[.pointer (some ⟨9, 37, none⟩)], .iface 166 (.agg #[.pointer (some ⟨9, 27, none⟩)])]).run Tryz.prog w = .ok (.bool true) w := by kernel_rfl
theorem typeOf32 (v : Value) (w : World) : (ReflectliteType.typeOf #[.iface 37 v]).run Tryz.prog w = .ok (.iface 166 (.agg #[.pointer (some ⟨9, 37, none⟩)])) w := by kernel_rfl
theorem assignable32 (w : World) : (ReflectliteType.relation "AssignableTo" ReflectliteType.assignableTo #[.agg #[.pointer (some ⟨9, 37, none⟩)], .iface 166 (.agg #[.pointer (some ⟨9, 37, none⟩)])]).run Tryz.prog w = .ok (.bool true) w := by kernel_rfl
theorem valueOf32 (k : Int) (w : World) : (ReflectliteValue.unpack (.iface 37 (.int .i64 k))).run Tryz.prog w
    = .ok (.agg #[.pointer (some ⟨9, 37, none⟩), .pointer (some ⟨w.heap.size, 0, none⟩), .int .u64 130]) (w.alloc (.cells #[.int .i64 k] 37)) := by kernel_rfl
theorem elemOf45 (w : World) : (Rtype.elem? 80).run Tryz.prog w = .ok (some 37) w := by kernel_rfl
theorem mk32 (p : Addr) (w : World) : (ReflectliteValue.mk 37 p ReflectliteValue.flagAddr).run Tryz.prog w = .ok (.agg #[.pointer (some ⟨9, 37, none⟩), .pointer (some p), .int .u64 386]) w := by kernel_rfl
theorem direct32 (w : World) : (Rtype.directlyAssignable 37 37).run Tryz.prog w = .ok true w := by kernel_rfl
theorem isNil_at (a : Addr) (W : World) : (ReflectliteValue.method (ReflectliteValue.valueError "reflectlite.Value.IsNil" 0) ReflectliteValue.isNil #[.agg #[.pointer (some ⟨9, 80, none⟩), .pointer (some a), .int .u64 150]]).run Tryz.prog W = (ReflectliteValue.isNil 80 a 150 22).run Tryz.prog W := by kernel_rfl
theorem elem_at (a : Addr) (W : World) : (ReflectliteValue.method (ReflectliteValue.valueError "reflectlite.Value.Elem" 0) ReflectliteValue.elem #[.agg #[.pointer (some ⟨9, 80, none⟩), .pointer (some a), .int .u64 150]]).run Tryz.prog W = (ReflectliteValue.elem 80 a 150 22).run Tryz.prog W := by kernel_rfl
theorem set_at (ta b : Addr) (W : World) : (ReflectliteValue.set #[.agg #[.pointer (some ⟨9, 37, none⟩), .pointer (some ta), .int .u64 386], .agg #[.pointer (some ⟨9, 37, none⟩), .pointer (some b), .int .u64 130]]).run Tryz.prog W = (loadVar 37 b >>= fun val => storeVar 37 ta val >>= fun _ => pure (.tuple #[])).run Tryz.prog W := by kernel_rfl
theorem isNil45 (a p : Addr) (W : World) (ha : W.cell? a = some (.pointer (some p))) :
    (ReflectliteValue.method (ReflectliteValue.valueError "reflectlite.Value.IsNil" 0) ReflectliteValue.isNil #[.agg #[.pointer (some ⟨9, 80, none⟩), .pointer (some a), .int .u64 150]]).run Tryz.prog W = .ok (.bool false) W := by
  rw [isNil_at]
  simp [ReflectliteValue.isNil, loadVar, isAgg, underlying, Tryz.underlying80, ha, Result.andThen]
theorem elemV45 (a p : Addr) (W : World) (ha : W.cell? a = some (.pointer (some p))) :
    (ReflectliteValue.method (ReflectliteValue.valueError "reflectlite.Value.Elem" 0) ReflectliteValue.elem #[.agg #[.pointer (some ⟨9, 80, none⟩), .pointer (some a), .int .u64 150]]).run Tryz.prog W
      = .ok (.agg #[.pointer (some ⟨9, 37, none⟩), .pointer (some p), .int .u64 386]) W := by
  rw [elem_at]
  simp [ReflectliteValue.elem, loadVar, isAgg, underlying, Tryz.underlying80, ha, Result.andThen, elemOf45, mk32]
theorem set32 (ta b : Addr) (k : Int) (old : Value) (W : World) (hb : W.cell? b = some (.int .i64 k)) (ht : W.cell? ta = some old) (hf : W.frozen? ta = false) :
    (ReflectliteValue.set #[.agg #[.pointer (some ⟨9, 37, none⟩), .pointer (some ta), .int .u64 386], .agg #[.pointer (some ⟨9, 37, none⟩), .pointer (some b), .int .u64 130]]).run Tryz.prog W
      = .ok (.tuple #[]) (W.setCell ta (.int .i64 k)) := by
  rw [set_at]
  simp [loadVar, isAgg, underlying, Tryz.underlying37, hb, Result.andThen, direct32, storeVar, Value.cells, storeCells, Addr.add]
  rw [run_store Tryz.prog W ta _ _ (by rfl)]
  simp [ht, hf]
end Go.Proofs.YtijeogdnjeamaaaGreatDoor
namespace Go.Proofs.YtijeogdnjeamaaaGreatDoor
open Go.RowKit Go.Extern.Stop Go.Stop Go.Extern
set_option linter.unusedVariables false
set_option linter.unusedSimpArgs false
set_option maxHeartbeats 4000000 in
set_option maxRecDepth 100000 in
theorem as_hit (k : Int) (t : Addr) (old : Value) (w : World) (hg : w.cell? ⟨0, 0, none⟩ = some (.iface 166 (.agg #[.pointer (some ⟨9, 27, none⟩)]))) (ht0 : w.cell? t = some old) (hf0 : w.frozen? t = false) :
    Calls Tryz.prog 35 #[.iface 37 (.int .i64 k), .iface 80 (.pointer (some t))] w fun ev w' => ev = .returned (.bool true) ∧ w' = ((((w.alloc (.cells #[.pointer (some t)] 80)).alloc (.cells #[.pointer (some ⟨9, 80, none⟩), .pointer (some ⟨w.heap.size, 0, none⟩), .int .u64 150] 122)).alloc (.cells #[.pointer (some ⟨9, 80, none⟩), .pointer (some ⟨w.heap.size, 0, none⟩), .int .u64 150] 122)).alloc (.cells #[.int .i64 k] 37)).setCell t (.int .i64 k) := by
  have h33 := @run_callFunc_extern Tryz.prog 62 _ (fun args => ReflectliteValue.unpack (args.getD 0 (.tuple #[]))) Tryz.func62 (by kernel_rfl) (by kernel_rfl) (by kernel_rfl) (by kernel_rfl)
  have h34 := @run_callFunc_extern Tryz.prog 63 _ (ReflectliteValue.methodAny (ReflectliteValue.valueError "reflectlite.Value.Type" 0) (fun t _ _ _ => ReflectliteType.toType t)) Tryz.func63 (by kernel_rfl) (by kernel_rfl) (by kernel_rfl) (by kernel_rfl)
  have h35 := @run_callFunc_extern Tryz.prog 64 _ (ReflectliteValue.method (ReflectliteValue.valueError "reflectlite.Value.IsNil" 0) ReflectliteValue.isNil) Tryz.func64 (by kernel_rfl) (by kernel_rfl) (by kernel_rfl) (by kernel_rfl)
  have h97 := @run_callFunc_extern Tryz.prog 192 _ (ReflectliteType.abiMethod fun t => do pure (.int .u8 (← Rtype.kind t))) Tryz.func192 (by kernel_rfl) (by kernel_rfl) (by kernel_rfl) (by kernel_rfl)
  have h107 := @run_callFunc_extern Tryz.prog 202 _ (ReflectliteType.method ReflectliteType.elem) Tryz.func202 (by kernel_rfl) (by kernel_rfl) (by kernel_rfl) (by kernel_rfl)
  have h108 := @run_callFunc_extern Tryz.prog 203 _ (ReflectliteType.relation "Implements" ReflectliteType.implements_) Tryz.func203 (by kernel_rfl) (by kernel_rfl) (by kernel_rfl) (by kernel_rfl)
  have h62 := @run_callFunc_extern Tryz.prog 96 _ ReflectliteType.typeOf Tryz.func96 (by kernel_rfl) (by kernel_rfl) (by kernel_rfl) (by kernel_rfl)
  have h105 := @run_callFunc_extern Tryz.prog 200 _ (ReflectliteType.relation "AssignableTo" ReflectliteType.assignableTo) Tryz.func200 (by kernel_rfl) (by kernel_rfl) (by kernel_rfl) (by kernel_rfl)
  have h63 := @run_callFunc_extern Tryz.prog 97 _ (ReflectliteValue.method (ReflectliteValue.valueError "reflectlite.Value.Elem" 0) ReflectliteValue.elem) Tryz.func97 (by kernel_rfl) (by kernel_rfl) (by kernel_rfl) (by kernel_rfl)
  have h64 := @run_callFunc_extern Tryz.prog 98 _ ReflectliteValue.set Tryz.func98 (by kernel_rfl) (by kernel_rfl) (by kernel_rfl) (by kernel_rfl)
  have tO := typeOf32
  have mA := methodAssignableTo
  have a32 := assignable32
  have v32 := valueOf32
  have f6 := valueOf45
  have f7 := type45
  have mK := methodKind
  have mE := methodElem
  have mI := methodImplements
  have k45 := kind45
  have k32 := kind32
  have e45 := elem45
  have i32 := implements32
  have n8 := isNil45 ⟨w.heap.size, 0, none⟩ t ((w.alloc (.cells #[.pointer (some t)] 80)).alloc (.cells #[.pointer (some ⟨9, 80, none⟩), .pointer (some ⟨w.heap.size, 0, none⟩), .int .u64 150] 122)) (by simp)
  have hlt : 0 < w.heap.size := by
    rcases Nat.lt_or_ge 0 w.heap.size with h | h
    · exact h
    · simp [World.cell?, Array.getElem?_eq_none h] at hg
  have hg2 : ((w.alloc (.cells #[.pointer (some t)] 80)).alloc (.cells #[.pointer (some ⟨9, 80, none⟩), .pointer (some ⟨w.heap.size, 0, none⟩), .int .u64 150] 122)).cell? ⟨0, 0, none⟩ = some (.iface 166 (.agg #[.pointer (some ⟨9, 27, none⟩)])) := by
    rw [World.cell?_alloc_lt _ _ ⟨0, 0, none⟩ (by simp), World.cell?_alloc_lt _ _ ⟨0, 0, none⟩ hlt]; exact hg
  have htl : t.block < w.heap.size := by
    rcases Nat.lt_or_ge t.block w.heap.size with h | h
    · exact h
    · simp [World.cell?, Array.getElem?_eq_none h] at ht0
  have el := elemV45 ⟨w.heap.size, 0, none⟩ t (((w.alloc (.cells #[.pointer (some t)] 80)).alloc (.cells #[.pointer (some ⟨9, 80, none⟩), .pointer (some ⟨w.heap.size, 0, none⟩), .int .u64 150] 122)).alloc (.cells #[.pointer (some ⟨9, 80, none⟩), .pointer (some ⟨w.heap.size, 0, none⟩), .int .u64 150] 122)) (by rw [World.cell?_alloc_lt _ _ ⟨w.heap.size, 0, none⟩ (by simp; omega)]; simp)
  have st := set32 t ⟨w.heap.size + 1 + 1 + 1, 0, none⟩ k old ((((w.alloc (.cells #[.pointer (some t)] 80)).alloc (.cells #[.pointer (some ⟨9, 80, none⟩), .pointer (some ⟨w.heap.size, 0, none⟩), .int .u64 150] 122)).alloc (.cells #[.pointer (some ⟨9, 80, none⟩), .pointer (some ⟨w.heap.size, 0, none⟩), .int .u64 150] 122)).alloc (.cells #[.int .i64 k] 37))
    (by rw [World.cell?_alloc_at _ _ _ _ (by simp)]; rfl)
    (by rw [World.cell?_alloc_lt _ _ t (by simp; omega), World.cell?_alloc_lt _ _ t (by simp; omega), World.cell?_alloc_lt _ _ t (by simp; omega), World.cell?_alloc_lt _ _ t htl]; exact ht0)
    (by rw [World.frozen?_alloc_old _ _ t (by simp; omega), World.frozen?_alloc_old _ _ t (by simp; omega), World.frozen?_alloc_old _ _ t (by simp; omega), World.frozen?_alloc_old _ _ t (Nat.ne_of_lt htl)]; exact hf0)
  go_enter Tryz.func35, Tryz.ntmps35
  go_wp2
  refine wp_loop_rounds 1 ?_
  rw [rounds_succ]
  go_wp2
  go_ret
  exact ⟨rfl, rfl⟩
theorem tell_nil (w : World) : Calls Tryz.prog 11 #[.nilIface] w fun e w' => e = .returned (.int .i64 0) ∧ Below w.heap.size w w' := by
  have HB : Hid (Below w.heap.size w (w.alloc (.cells #[.int .i64 0] 37))) := (Below.refl _ w).alloc (Nat.le_refl _) _
  go_enter Tryz.func11, Tryz.ntmps11
  go_wp2
  go_ret
  exact ⟨rfl, HB.out⟩
theorem tell_errno (k : Int) (w : World) (hg : w.cell? ⟨0, 0, none⟩ = some (.iface 166 (.agg #[.pointer (some ⟨9, 27, none⟩)]))) :
    Calls Tryz.prog 11 #[.iface 37 (.int .i64 k)] w fun e w' => e = .returned (.int .i64 k) ∧ Below w.heap.size w w' := by
  have hlt : 0 < w.heap.size := by
    rcases Nat.lt_or_ge 0 w.heap.size with h | h
    · exact h
    · simp [World.cell?, Array.getElem?_eq_none h] at hg
  have hg2 : (w.alloc (.cells #[.int .i64 0] 37)).cell? ⟨0, 0, none⟩ = some (.iface 166 (.agg #[.pointer (some ⟨9, 27, none⟩)])) := by
    rw [World.cell?_alloc_lt _ _ ⟨0, 0, none⟩ hlt]; exact hg
  go_enter Tryz.func11, Tryz.ntmps11
  go_wp2_with (go_at_call 35; refine (as_hit k ⟨w.heap.size, 0, none⟩ (.int .i64 0) _ hg2 (by simp) (by simp [go_sem])).mono ?_; rintro e w' ⟨rfl, rfl⟩)
  go_ret
  exact ⟨rfl, (((((Below.refl _ w).alloc (Nat.le_refl _) _).alloc (by simp) _).alloc (by simp; omega) _).alloc (by simp; omega) _).alloc (by simp; omega) _⟩
end Go.Proofs.YtijeogdnjeamaaaGreatDoor
namespace Go.Proofs.YtijeogdnjeamaaaGreatDoor
open Go.RowKit
set_option linter.unusedVariables false
set_option linter.unusedSectionVars false
set_option linter.unusedSimpArgs false
theorem at_pb {w : World} {b off cap : Nat} {s : Str} (hb : b < w.heap.size) (hc : s.length ≤ cap) (h : At w b off (nums s)) : PB w (some ⟨b, off, none⟩) cap s :=
  ⟨hc, fun _ => ⟨b, off, rfl, hb, fun i hi j v hv => by
    have hj : j = 0 := by
      have := (List.getElem?_eq_some_iff.1 hv).1
      simp [encB] at this
      exact this
    subst hj
    have h1 := h i (by rw [nums_len]; exact hi)
    rw [nums_at s i hi] at h1
    simp [encB] at hv
    rw [show off + i * 1 + 0 = off + i by omega, h1, ← hv]
    simp⟩, fun h => by cases h⟩
theorem Room.pb {w : World} {g : Nat} {s : Str} (h : Room w g (nums s)) : PB w (some ⟨g, 0, none⟩) (s.length + 2) s :=
  at_pb h.lt (by omega) (fun i hi => by rw [Nat.zero_add]; exact h.cell i hi)
theorem Room.below {w w' : World} {g : Nat} {zs : List Int} (h : Room w g zs) (hb : Below w.heap.size w w') : Room w' g zs :=
  have e : w'.heap[g]? = w.heap[g]? := hb.block g h.lt
  ⟨Nat.lt_of_lt_of_le h.lt hb.size, fun i hi => (World.cell?_of_block (a := ⟨g, i, none⟩) e).trans (h.cell i hi), (World.cell?_of_block (a := ⟨g, zs.length, none⟩) e).trans h.c71, (World.cell?_of_block (a := ⟨g, zs.length + 1, none⟩) e).trans h.c72, fun i => by
    have := h.fz i
    simp only [World.frozen?] at this ⊢
    rw [e]; exact this⟩
def Hg (w : World) : Prop := w.cell? ⟨0, 0, none⟩ = some (.iface 166 (.agg #[.pointer (some ⟨9, 27, none⟩)]))
theorem Hg.lt {w : World} (h : Hg w) : 0 < w.heap.size := by
  rcases Nat.lt_or_ge 0 w.heap.size with h1 | h1
  · exact h1
  · unfold Hg World.cell? at h
    rw [Array.getElem?_eq_none (by omega)] at h
    simp at h
theorem Hg.below {w w' : World} {B : Nat} (h : Hg w) (hb : Below B w w') (h0 : 0 < B) : Hg w' := (hb.cell (p := ⟨0, 0, none⟩) h0).trans h
end Go.Proofs.YtijeogdnjeamaaaGreatDoor
namespace Go.Proofs.YtijeogdnjeamaaaGreatDoor
open Go.RowKit
set_option linter.unusedVariables false
set_option linter.unusedSectionVars false
set_option linter.unusedSimpArgs false
theorem drewN_below (w : World) (n : Nat) : Below w.heap.size w (w.drewN n) := below_drewH (Below.refl _ _) n
theorem sameB {w : World} (a a' : Option Addr) (c c' : Nat) (s : Str) (h : PB w a c s) (h' : PB w a' c' s) (hl : s.length ≤ 300000) : Calls Tryz.prog 10 #[.slice a s.length c, .slice a' s.length c'] w fun e w' => e = .returned (.bool true) ∧ Below w.heap.size w w' := by
  have := same_any a a' c c' (nums s) w (by rw [nums_len]; omega) (fun h0 => by
    rw [nums_len] at h0
    obtain ⟨b, off, e1, _⟩ := h.at_ h0
    subst e1
    exact ⟨b, off, rfl, pb_at h⟩) (fun h0 => by
    rw [nums_len] at h0
    obtain ⟨b, off, e1, _⟩ := h'.at_ h0
    subst e1
    exact ⟨b, off, rfl, pb_at h'⟩)
  rw [nums_len] at this
  exact this.mono (by rintro e w' ⟨rfl, n, rfl⟩; exact ⟨rfl, drewN_below w n⟩)
theorem pb_none (w : World) : PB w none 0 [] := ⟨Nat.le_refl _, (fun h => by cases h), fun _ => rfl⟩
end Go.Proofs.YtijeogdnjeamaaaGreatDoor
