import Derived.Test.YtcicoeneemnbiaaGreatDoorMw07
import Derived.Test.YtcicoeneemnbiaaGreatDoorMw05
import Derived.ArgAppend
import Derived.Lib.AppendStr
import Derived.Lib.SlBytesConst
import Derived.Laws.IdiomStrings
import Derived.Laws.BytesArg
import Derived.Test.YtcicoeneemnbiaaGreatDoorMw06
import Derived.Deep.WholeRow
namespace Go.Proofs.YtcicoeneemnbiaaGreatDoor
open Go.RowKit
set_option linter.unusedVariables false
set_option linter.unusedSimpArgs false
theorem wpList_skip {P : Program} {ops : Array Oper} {rest : List Oper} {o : Oper} {a : Act} {w w' : World} {Q : Exit → Act → World → Prop} (hg : o.guard = none) (hr : (execOp a.eval o).run P w = .ok .skip w') (h : wpList P ops Q rest (a.put o.dst undef) w') : wpList P ops Q (o :: rest) a w := by
  refine wpList_plain hg fun K hK => ?_
  unfold Oper.wp
  rw [hr]
  exact hK _ _ h
def adX (k : Nat) (a : Option Addr) (cap j : Nat) : Option Addr := if cap = j then a else a.map (·.add (j * k))
section
variable {α : Type} {enc : α → List Value} {k : Nat} {d : α}
theorem Px.mid {w : World} {a : Option Addr} {cap : Nat} {l : List α} (h : Px enc k d w a cap l) (i j : Nat) (hij : i ≤ j) (hj : j ≤ l.length) : Px enc k d w (adX k a cap i) (cap - i) ((l.drop i).take (j - i)) :=
  ⟨by rw [List.length_take, List.length_drop]; have := h.capl; omega, fun h0 => by
    rw [List.length_take, List.length_drop] at h0
    obtain ⟨b, off, e1, e2, e3⟩ := h.at_ (by omega)
    subst e1
    have hc := h.capl
    refine ⟨b, off + i * k, by unfold adX; rw [if_neg (by omega), Option.map_some, addr_add], e2, fun q hq => ?_⟩
    rw [List.length_take, List.length_drop] at hq
    have := e3 (i + q) (by omega)
    rw [show off + i * k + q * k = off + (i + q) * k by rw [Nat.add_mul]; omega]
    rw [show ((l.drop i).take (j - i)).getD q d = l.getD (i + q) d by rw [List.getD_eq_getElem?_getD, List.getD_eq_getElem?_getD, List.getElem?_take, if_pos (by omega), List.getElem?_drop]]
    exact this, fun h2 => by
    have : a = none := by
      unfold adX at h2
      split at h2
      · exact h2
      · cases a with
        | none => rfl
        | some p => cases h2
    have := h.nil this
    omega⟩
theorem Px.from {w : World} {a : Option Addr} {cap : Nat} {l : List α} (h : Px enc k d w a cap l) (i : Nat) (hi : i ≤ l.length) : Px enc k d w (adX k a cap i) (cap - i) (l.drop i) := by
  have := h.mid i l.length hi (Nat.le_refl _)
  rwa [List.take_of_length_le (by rw [List.length_drop]; omega)] at this
end
abbrev Str := List UInt8
def encB (x : UInt8) : List Value := [.int .u8 (x.toNat : Int)]
abbrev PB (w : World) (a : Option Addr) (cap : Nat) (s : Str) : Prop := Px encB 1 0 w a cap s
def sV (s : Str) : Value := .string ⟨s.toArray⟩
theorem str_inj {x y : Str} (h : sV x = sV y) : x = y := by
  unfold sV at h
  injection h with h
  have := congrArg (fun b : ByteArray => b.data.toList) h
  simpa using this
theorem ba_eq (x y : Str) : (⟨x.toArray⟩ : ByteArray) = ⟨y.toArray⟩ ↔ x = y := ⟨fun h => str_inj (by unfold sV; rw [h]), fun h => by rw [h]⟩
theorem PB.cell {w : World} {b off cap : Nat} {s : Str} (h : PB w (some ⟨b, off, none⟩) cap s) (i : Nat) (hi : i < s.length) : w.cell? ⟨b, off + i, none⟩ = some (.int .u8 ((s.getD i 0).toNat : Int)) := by
  obtain ⟨b', off', e1, _, e3⟩ := h.at_ (by omega)
  cases e1
  have := e3 i hi 0 _ rfl
  simpa using this
theorem conv_str {w : World} {a : Option Addr} {cap : Nat} {s : Str} (h : PB w a cap s) : (convert 23 9 (.slice a s.length cap)).run Tryz.prog w = .ok (sV s) w := by
  cases a with
  | none =>
    have h0 : s = [] := List.length_eq_zero_iff.1 (by have := h.nil rfl; have := h.capl; omega)
    subst h0
    rw [run_convert_bytes_string w 23 9 5 none _ cap Tryz.underlying23 Tryz.underlying5 Tryz.underlying9]
    rfl
  | some p =>
    by_cases h0 : s.length = 0
    · obtain rfl : s = [] := List.length_eq_zero_iff.1 h0
      exact run_convert_bytes_back w 23 9 5 p cap [] Tryz.underlying23 Tryz.underlying5 Tryz.underlying9 (fun j hj => absurd hj (by simp))
    · obtain ⟨b, off, e1, _⟩ := h.at_ (by omega)
      cases e1
      refine run_convert_bytes_back w 23 9 5 _ cap s Tryz.underlying23 Tryz.underlying5 Tryz.underlying9 (fun j hj => ?_)
      rw [addr_add, PB.cell h j hj, List.getD_eq_getElem?_getD, List.getElem?_eq_getElem hj]
      rfl
theorem elem22 : Tryz.prog.underlying 23 = some (.slice (Tryz.prog.elem 23)) := by kernel_rfl
theorem size22e (w : World) : (Go.sizeOf (Tryz.prog.elem 23)).run Tryz.prog w = .ok 1 w := by kernel_rfl
theorem sl22 (a : Option Addr) (n cap i j : Nat) (J : Int) (hJ : J = (j : Int)) (hij : i ≤ j) (hj : j ≤ cap) (w : World) : (Instr.slice 23 (.slice a n cap) (some (.int .i64 i)) (some (.int .i64 J)) none).run Tryz.prog w = .ok (.slice (adX 1 a cap i) (j - i : Nat) (cap - i : Nat)) w := by
  subst hJ
  rw [run_slice_lh w 23 a n cap elem22 .i64 .i64 i j (by omega) (by omega) (by omega), size22e, Result.andThen_ok, sliced]
  rfl
theorem equal_any {w : World} (a : Option Addr) (ca : Nat) (s : Str) (hA : PB w a ca s) (b : Option Addr) (cb : Nat) (t : Str) (hB : PB w b cb t) :
    Calls Tryz.prog 42 #[.slice a s.length ca, .slice b t.length cb] w fun e w' => e = .returned (.bool (s == t)) ∧ w' = w := by
  obtain ⟨n, HN⟩ : ∃ n, Hid (s.length = n) := ⟨_, rfl⟩
  obtain ⟨m, HM⟩ : ∃ n, Hid (t.length = n) := ⟨_, rfl⟩
  have h1 : (convert 23 9 (.slice a n ca)).run Tryz.prog w = .ok (sV s) w := by rw [← HN.out]; exact conv_str hA
  have h2 : (convert 23 9 (.slice b m cb)).run Tryz.prog w = .ok (sV t) w := by rw [← HM.out]; exact conv_str hB
  unfold sV at h1 h2
  rw [HN.out, HM.out]
  clear hA hB
  go_enter Tryz.func42, Tryz.ntmps42
  go_wp2
  go_ret
  exact ⟨rfl, rfl⟩
theorem beq_t {s t : Str} (h : s = t) : (s == t) = true := by simp [h]
theorem beq_f {s t : Str} (h : ¬ s = t) : (s == t) = false := by simp [h]
theorem sl22l (a : Option Addr) (n cap i : Nat) (hi : i ≤ n) (w : World) : (Instr.slice 23 (.slice a n cap) (some (.int .i64 i)) none none).run Tryz.prog w = .ok (.slice (adX 1 a cap i) (n - i : Nat) (cap - i : Nat)) w := by
  rw [run_slice_l w 23 a n cap elem22 .i64 i (by omega) (by omega), size22e, Result.andThen_ok, sliced]
  rfl
theorem str_app (s t : Str) : (⟨s.toArray⟩ : ByteArray) ++ ⟨t.toArray⟩ = ⟨(s ++ t).toArray⟩ := by
  apply ByteArray.ext
  simp [ByteArray.data_append]
theorem step_skip {P : Program} {ops : Array Oper} {o : Oper} {a : Act} {w w' : World} {K : Act → World → Prop} {Q : Exit → Act → World → Prop} {E : Prop} (hg : o.guard = none) (hr : (execOp a.eval o).run P w = .ok .skip w') (h : K (a.put o.dst undef) w') :
    if Region.wanted o (yielded ops a.tmps) = true then Oper.wp P o a w K Q else E := by
  have hw : Region.wanted o (yielded ops a.tmps) = true := by simp [Region.wanted, hg]
  rw [if_pos hw]
  unfold Oper.wp
  rw [hr]
  exact h
theorem heap_old (w : World) (o : Obj) (k : Nat) (x : Obj) (h : w.heap[k]? = some x) : (w.alloc o).heap[k]? = some x := by
  have hk := (Array.getElem?_eq_some_iff.1 h).1
  show (w.heap.push o)[k]? = _
  rw [Array.getElem?_push_lt hk, ← Array.getElem?_eq_getElem hk]
  exact h
theorem size_alloc (w : World) (o : Obj) : (w.alloc o).heap.size = w.heap.size + 1 := by simp
def bv (s : Str) : List Value := s.map (fun x => Value.int .u8 (x.toNat : Int))
theorem bv_len (s : Str) : (bv s).length = s.length := by simp [bv]
theorem bv_one (s : Str) : ∀ u ∈ bv s, u.oneCell' = true := by
  intro u hu
  obtain ⟨x, _, rfl⟩ := List.mem_map.1 hu
  rfl
theorem bv_app (s t : Str) : bv (s ++ t) = bv s ++ bv t := by simp [bv]
theorem bv_str (s : Str) : Lib.strCells ⟨s.toArray⟩ = bv s := by simp [Lib.strCells, bv]
structure Mk (w : World) (g cap : Nat) (s : Str) : Prop where
  lt : g < w.heap.size
  capl : s.length ≤ cap
  at_ : ∀ (j : Nat) (u : Value), (bv s)[j]? = some u → w.cell? ⟨g, j, none⟩ = some u
  spare : ∀ i, s.length ≤ i → i < cap → (w.cell? ⟨g, i, none⟩).isSome = true ∧ w.frozen? ⟨g, i, none⟩ = false
theorem PB.at {w : World} {b off cap : Nat} {s : Str} (h : PB w (some ⟨b, off, none⟩) cap s) : ∀ (j : Nat) (u : Value), (bv s)[j]? = some u → w.cell? ((⟨b, off, none⟩ : Addr).add j) = some u := fun j u hj => by
  have hl := (List.getElem?_eq_some_iff.1 hj).1
  rw [bv_len] at hl
  rw [addr_add, PB.cell h j hl]
  unfold bv at hj
  rw [List.getElem?_map, List.getElem?_eq_getElem hl] at hj
  rw [List.getD_eq_getElem?_getD, List.getElem?_eq_getElem hl]
  exact hj
theorem Mk.pb {w : World} {g cap : Nat} {s : Str} (h : Mk w g cap s) : PB w (some ⟨g, 0, none⟩) cap s :=
  ⟨h.capl, fun _ => ⟨g, 0, rfl, h.lt, fun i hi j v hv => by
    have hj : j = 0 := by
      have := (List.getElem?_eq_some_iff.1 hv).1
      simp [encB] at this
      exact this
    subst hj
    rw [Nat.zero_add, Nat.mul_one, Nat.add_zero]
    refine h.at_ i v ?_
    simp only [encB, List.getElem?_cons_zero, Option.some.injEq] at hv
    unfold bv
    rw [List.getElem?_map, List.getElem?_eq_getElem hi, ← hv, List.getD_eq_getElem?_getD, List.getElem?_eq_getElem hi]
    rfl⟩, fun h => by cases h⟩
theorem Mk.kept {w w' : World} {g cap : Nat} {s : Str} (h : Mk w g cap s) (hs : w.heap.size ≤ w'.heap.size) (hb : w'.heap[g]? = w.heap[g]?) : Mk w' g cap s :=
  ⟨Nat.lt_of_lt_of_le h.lt hs, h.capl, fun j u hj => (World.cell?_of_block (a := ⟨g, j, none⟩) hb).trans (h.at_ j u hj), fun i h1 h2 => by
    have := h.spare i h1 h2
    rw [World.cell?_of_block (a := ⟨g, i, none⟩) hb]
    refine ⟨this.1, ?_⟩
    rw [← this.2]
    unfold World.frozen?
    rw [hb]⟩
theorem Mk.below {w w' : World} {g cap : Nat} {s : Str} (h : Mk w g cap s) (hb : Below w.heap.size w w') : Mk w' g cap s := h.kept hb.size (hb.block g h.lt)
theorem Px.lt {α : Type} {enc : α → List Value} {k : Nat} {d : α} {w : World} {a : Option Addr} {cap : Nat} {l : List α} (h : Px enc k d w a cap l) : 0 < l.length → ∀ p : Addr, a = some p → p.block < w.heap.size := fun h0 p hp => by
  obtain ⟨b, off, e1, e2, _⟩ := h.at_ h0
  rw [e1] at hp
  cases hp
  exact e2
def Apd (w w' : World) (g : Nat) (v : Value) (s : Str) : Prop := ∃ g' cap', v = .slice (some ⟨g', 0, none⟩) s.length cap' ∧ Mk w' g' cap' s ∧ (g' = g ∨ w.heap.size ≤ g') ∧ w.grownBy w' (some g)
theorem grown_cells (w : World) (g o : Nat) (l : List Value) : w.grownBy (w.setCells g o l) (some g) := grown_setCells g l o w w ⟨rfl, rfl, rfl, Nat.le_refl _, fun _ _ _ => rfl⟩
theorem mk_room {w : World} {g cap : Nat} {s : Str} (hm : Mk w g cap s) (l : Str) (hr : s.length + l.length ≤ cap) : Mk (w.setCells g s.length (bv l)) g cap (s ++ l) := by
  have hsp : ∀ j, j < (bv l).length → (w.cell? ⟨g, s.length + j, none⟩).isSome = true := fun j hj => by
    rw [bv_len] at hj
    exact (hm.spare (s.length + j) (by omega) (by omega)).1
  refine ⟨Nat.lt_of_lt_of_le hm.lt (grown_cells w g s.length (bv l)).size, by rw [List.length_append]; exact hr, fun j u hj => ?_, fun i h1 h2 => ?_⟩
  · rw [bv_app] at hj
    by_cases hlt : j < s.length
    · rw [World.cell?_setCells_out _ _ _ _ _ (fun _ _ => .inl hlt)]
      rw [List.getElem?_append_left (by rw [bv_len]; exact hlt)] at hj
      exact hm.at_ j u hj
    · rw [List.getElem?_append_right (by rw [bv_len]; omega), bv_len] at hj
      obtain ⟨k, rfl⟩ : ∃ k, j = s.length + k := ⟨j - s.length, by omega⟩
      rw [Nat.add_sub_cancel_left] at hj
      have hk := (List.getElem?_eq_some_iff.1 hj).1
      rw [World.cell?_setCells_in _ _ _ _ hsp k hk, ← List.getElem?_eq_getElem hk]
      exact hj
  · rw [List.length_append] at h1
    rw [World.cell?_setCells_out _ _ _ _ _ (fun _ _ => .inr (by show s.length + (bv l).length ≤ i; rw [bv_len]; exact h1)), World.frozen?_setCells]
    exact hm.spare i (by omega) h2
theorem mk_own {w : World} {B : Nat} {v : Value} {s : Str} (h : w.ownsRow B 5 1 v s.length (bv s)) (h0 : 0 < s.length) : ∃ g cap, v = .slice (some ⟨g, 0, none⟩) s.length cap ∧ B ≤ g ∧ Mk w g cap s := by
  obtain ⟨hl, ⟨hv, e0⟩ | ⟨g, cap, cur, hv, hb, hh, hkc, hcm, hsz, htk⟩⟩ := h
  · omega
  · refine ⟨g, cap, hv, hb, lt_of_some hh, hkc, fun j u hj => ?_, fun i h1 h2 => ⟨?_, ?_⟩⟩
    · rw [cell_of_row w g j _ _ _ hh]
      rw [← htk] at hj
      have hlt := (List.getElem?_eq_some_iff.1 hj).1
      rw [List.length_take] at hlt
      rw [List.getElem?_take_of_lt (by omega)] at hj
      simpa using hj
    · rw [cell_of_row w g i _ _ _ hh, Array.getElem?_eq_getElem (by omega)]
      rfl
    · exact frozen_of_row w g i _ _ hh
theorem app_mk (w : World) (g cap : Nat) (s l : Str) (a : Option Addr) (c : Nat) (hm : Mk w g cap s) (hS : PB w a c l) (hl : s.length + l.length ≤ 100000000) :
    ∃ v w', (Builtin.append_ #[23, 23] 23 #[.slice (some ⟨g, 0, none⟩) s.length cap, .slice a l.length c]).run Tryz.prog w = .ok v w' ∧ Apd w w' g v (s ++ l) := by
  obtain ⟨i5, hi, hz0, hz1, hz2⟩ := info_parts Tryz.info5
  by_cases h0 : l.length = 0
  · obtain rfl : l = [] := List.length_eq_zero_iff.1 h0
    refine ⟨.slice (some ⟨g, 0, none⟩) s.length cap, w, ?_, g, cap, by simp, by simpa using hm, .inl rfl, ⟨rfl, rfl, rfl, Nat.le_refl _, fun _ _ _ => rfl⟩⟩
    have hc := hm.capl
    cases a with
    | none => simp [Builtin.append_, run_underlying Tryz.underlying23, sizeOf, typeInfo, hi, Builtin.lenOf, Builtin.firstCells, hc, storeCells]
    | some ad => simp [Builtin.append_, run_underlying Tryz.underlying23, sizeOf, typeInfo, hi, Builtin.lenOf, Builtin.firstCells, hc, storeCells, loadCells, loadCellsFrom]
  · obtain ⟨b, off, rfl, hb, _⟩ := hS.at_ (by omega)
    by_cases hroom : s.length + l.length ≤ cap
    · have hr := run_append_room_cells (P := Tryz.prog) w 23 23 5 i5 Tryz.underlying23 hi g 0 s.length cap ⟨b, off, none⟩ l.length c (bv l) (by rw [hz1, bv_len]; simp) (PB.at hS) (bv_one l) hroom
        (fun j hj => by
          rw [hz1, Nat.zero_add, Nat.mul_one]
          rw [bv_len] at hj
          exact (hm.spare (s.length + j) (by omega) (by omega)).1)
        (fun j hj => by
          rw [hz1, Nat.zero_add, Nat.mul_one]
          rw [bv_len] at hj
          exact (hm.spare (s.length + j) (by omega) (by omega)).2)
      rw [hz1, Nat.zero_add, Nat.mul_one] at hr
      exact ⟨_, _, hr, g, cap, by rw [List.length_append], mk_room hm l hroom, .inl rfl, grown_cells w g _ _⟩
    · obtain ⟨v', w', hr, hown, hg⟩ := run_append_arg_grows (P := Tryz.prog) w 23 23 5 i5 (.int .u8 0) 1 1 Tryz.underlying23 hi hz0 hz1 hz2 rfl (by omega) ⟨g, 0, none⟩ s.length cap (bv s) (by rw [bv_len]; simp)
        (fun j u hj => by rw [addr_add, Nat.zero_add]; exact hm.at_ j u hj)
        ⟨b, off, none⟩ l.length c (bv l) (by rw [bv_len]; simp) (PB.at hS) (by omega) (by unfold maxLen; omega) (by omega)
      rw [← bv_app, ← List.length_append] at hown
      obtain ⟨g', cap', rfl, h1, h2⟩ := mk_own hown (by rw [List.length_append]; omega)
      exact ⟨_, w', hr, g', cap', rfl, h2, .inr h1, ⟨hg.os, hg.tape, hg.output, hg.size, fun k hk _ => hg.block k hk (by simp)⟩⟩
theorem Apd.trans {w w1 w2 : World} {g g1 c1 n1 : Nat} {v : Value} {s s2 : Str} (h : Apd w w1 g (.slice (some ⟨g1, 0, none⟩) n1 c1) s) (h2 : Apd w1 w2 g1 v s2) : Apd w w2 g v s2 := by
  obtain ⟨g', c', e1, m1, k1, r1⟩ := h
  obtain ⟨g2, c2, e2, m2, k2, r2⟩ := h2
  cases e1
  refine ⟨g2, c2, e2, m2, ?_, r2.os.trans r1.os, r2.tape.trans r1.tape, r2.output.trans r1.output, Nat.le_trans r1.size r2.size, fun k hk hne => ?_⟩
  · have := r1.size
    omega
  · rw [r2.block k (Nat.lt_of_lt_of_le hk r1.size) (fun e => by
      cases e
      rcases k1 with k1 | k1
      · subst k1; exact hne rfl
      · omega)]
    exact r1.block k hk hne
theorem wpList_app {ops : Array Oper} {rest : List Oper} {o : Oper} {a : Act} {Q : Exit → Act → World → Prop} {w w' : World} {v : Value} (hg : o.guard = none) (s x : Operand) (t u : TypeId)
    (ho : o.op = .call { callee := .builtin .append, args := #[s, x], argTypes := #[t, u] }) (ty : TypeId) (hty : o.type = ty) (vs vx : Value) (hs : a.eval s = vs) (hx : a.eval x = vx)
    (hr : (Builtin.append_ #[t, u] ty #[vs, vx]).run Tryz.prog w = .ok v w') (h : wpList Tryz.prog ops Q rest (a.put o.dst v) w') : wpList Tryz.prog ops Q (o :: rest) a w := by
  subst hty
  refine wpList_plain hg fun K hK => ?_
  unfold Oper.wp execOp
  simp only [ho, resolve, invoke, builtin, Sem.run_bind, Sem.run_pure, Result.andThen_ok, List.map_toArray, List.map_cons, List.map_nil, hs, hx, hr]
  exact hK _ _ h
theorem wpList_own {w : World} {ops : Array Oper} {rest : List Oper} {o : Oper} {a : Act} {Q : Exit → Act → World → Prop} (hgd : o.guard = none) (s x : Operand) (ho : o.op = .call { callee := .builtin .append, args := #[s, x], argTypes := #[23, 23] })
    (B : Nat) (v : Value) (l : Str) (hs : a.eval s = v) (h : w.ownsRow B 5 1 v l.length (bv l)) (hB : B ≤ w.heap.size) (ax : Option Addr) (cx : Nat) (m : Str) (hx : a.eval x = .slice ax m.length cx) (hP : PB w ax cx m) (hl : l.length + m.length ≤ 100000000)
    (hK : ∀ v' w', w'.ownsRow B 5 1 v' (l ++ m).length (bv (l ++ m)) → w.grownBy w' v.ownBlock → (v'.ownBlock = v.ownBlock ∨ v'.ownBlock = some w.heap.size) → wpList Tryz.prog ops Q rest (a.put o.dst v') w') : wpList Tryz.prog ops Q (o :: rest) a w := by
  obtain ⟨i, hi, hz0, hz1, hz2⟩ := info_parts Tryz.info5
  cases ax with
  | none =>
    have hc : cx = 0 := hP.nil rfl
    have hcl := hP.capl
    obtain rfl : m = [] := List.length_eq_zero_iff.1 (by omega)
    subst hc
    refine wpList_plain hgd fun K hK' => ?_
    have hr := run_append_owned_none (P := Tryz.prog) w B 23 o.type 5 i 1 Tryz.underlying23 hi v _ _ h
    unfold Oper.wp execOp
    simp only [List.length_nil] at hx
    simp only [ho, resolve, invoke, builtin, Sem.run_bind, Sem.run_pure, Result.andThen_ok, List.map_toArray, List.map_cons, List.map_nil, hs, hx, hr]
    exact hK' _ _ (hK v w (by simpa using h) ⟨rfl, rfl, rfl, Nat.le_refl _, fun _ _ _ => rfl⟩ (.inl rfl))
  | some ad =>
    obtain ⟨bk, of, fr⟩ := ad
    by_cases h0 : m.length = 0
    · obtain rfl : m = [] := List.length_eq_zero_iff.1 h0
      refine wpList_append_own_at w hgd s x 23 ho B 5 i _ 1 1 Tryz.underlying23 hi hz0 hz1 hz2 rfl (by decide) v _ _ hs h ⟨bk, of, fr⟩ 0 cx [] hx (by simp) (fun j u hj => by cases hj) (fun u hu => by cases hu) (by unfold maxLen; omega) (by omega) hB ?_
      intro v' w' h1 h2 h3 h4
      exact hK v' w' (by simpa using h1) h2 h4
    · obtain ⟨b', off', e1, _⟩ := hP.at_ (by omega)
      cases e1
      refine wpList_append_own_at w hgd s x 23 ho B 5 i _ 1 1 Tryz.underlying23 hi hz0 hz1 hz2 rfl (by decide) v _ _ hs h ⟨bk, of, none⟩ m.length cx (bv m) hx (by rw [bv_len, Nat.mul_one]) (PB.at hP) (bv_one m) (by unfold maxLen; omega) (by omega) hB ?_
      intro v' w' h1 h2 h3 h4
      exact hK v' w' (by rw [bv_app, List.length_append]; exact h1) h2 h4
theorem own_pb {w : World} {B : Nat} {v : Value} {s : Str} (h : w.ownsRow B 5 1 v s.length (bv s)) : ∃ a cap, v = .slice a s.length cap ∧ PB w a cap s ∧ ∀ p : Addr, a = some p → B ≤ p.block := by
  obtain ⟨hl, ⟨hv, e0⟩ | ⟨g, cap, cur, hv, hb, hh, hkc, hcm, hsz, htk⟩⟩ := h
  · exact ⟨none, 0, by rw [hv, e0], ⟨by omega, fun h => by omega, fun _ => rfl⟩, fun p hp => by cases hp⟩
  · refine ⟨some ⟨g, 0, none⟩, cap, hv, Mk.pb ⟨lt_of_some hh, hkc, fun j u hj => ?_, fun i h1 h2 => ⟨?_, ?_⟩⟩, fun p hp => by cases hp; exact hb⟩
    · rw [cell_of_row w g j _ _ _ hh]
      rw [← htk] at hj
      have hlt := (List.getElem?_eq_some_iff.1 hj).1
      rw [List.length_take] at hlt
      rw [List.getElem?_take_of_lt (by omega)] at hj
      simpa using hj
    · rw [cell_of_row w g i _ _ _ hh, Array.getElem?_eq_getElem (by omega)]
      rfl
    · exact frozen_of_row w g i _ _ hh
def nums (s : Str) : List Int := s.map (fun x => (x.toNat : Int))
theorem nums_len (s : Str) : (nums s).length = s.length := by simp [nums]
theorem nums_at (s : Str) (i : Nat) (hi : i < s.length) : (nums s).getD i 0 = ((s.getD i 0).toNat : Int) := by
  simp [nums, List.getD_eq_getElem?_getD, List.getElem?_eq_getElem hi]
theorem nums_b (s : Str) : IsB (nums s) := by
  intro x hx
  obtain ⟨y, _, rfl⟩ := List.mem_map.1 hx
  have := y.toNat_lt
  omega
theorem pb_at {w : World} {b off cap : Nat} {s : Str} (h : PB w (some ⟨b, off, none⟩) cap s) : At w b off (nums s) := fun i hi => by
  rw [nums_len] at hi
  rw [nums_at s i hi]
  exact PB.cell h i hi
end Go.Proofs.YtcicoeneemnbiaaGreatDoor
namespace Go.Proofs.YtcicoeneemnbiaaGreatDoor
set_option linter.unusedVariables false
set_option linter.unusedSimpArgs false
structure Ey where
  path : List UInt8
  mode : Int
  id : List UInt8
  size : Int
  stage : Int
def ltS : List UInt8 → List UInt8 → Bool
  | [], [] => false
  | [], _ :: _ => true
  | _ :: _, [] => false
  | a :: s, b :: t => if a < b then true else if a = b then ltS s t else false
theorem ltS_irr : ∀ s : List UInt8, ltS s s = false
  | [] => rfl
  | a :: s => by
    have h : ¬ a < a := UInt8.lt_irrefl a
    simp [ltS, h, ltS_irr s]
theorem ltS_trans : ∀ {s t u : List UInt8}, ltS s t = true → ltS t u = true → ltS s u = true
  | [], [], _, h, _ => by simp [ltS] at h
  | [], _ :: _, [], _, h => by simp [ltS] at h
  | [], _ :: _, _ :: _, _, _ => rfl
  | _ :: _, [], _, h, _ => by simp [ltS] at h
  | _ :: _, _ :: _, [], _, h => by simp [ltS] at h
  | a :: s, b :: t, c :: u, h1, h2 => by
    unfold ltS at h1 h2 ⊢
    by_cases ab : a < b
    · by_cases bc : b < c
      · rw [if_pos (UInt8.lt_trans ab bc)]
      · rw [if_neg bc] at h2
        by_cases e : b = c
        · subst e; rw [if_pos ab]
        · rw [if_neg e] at h2; cases h2
    · rw [if_neg ab] at h1
      by_cases e : a = b
      · subst e
        rw [if_pos rfl] at h1
        by_cases bc : a < c
        · rw [if_pos bc]
        · rw [if_neg bc] at h2 ⊢
          by_cases e2 : a = c
          · rw [if_pos e2] at h2 ⊢; exact ltS_trans h1 h2
          · rw [if_neg e2] at h2; cases h2
      · rw [if_neg e] at h1; cases h1
theorem ltS_tri : ∀ (s t : List UInt8), ltS s t = true ∨ s = t ∨ ltS t s = true
  | [], [] => .inr (.inl rfl)
  | [], _ :: _ => .inl rfl
  | _ :: _, [] => .inr (.inr rfl)
  | a :: s, b :: t => by
    unfold ltS
    by_cases ab : a < b
    · left; rw [if_pos ab]
    · by_cases e : a = b
      · subst e
        rcases ltS_tri s t with h | h | h
        · left; rw [if_neg ab, if_pos rfl]; exact h
        · right; left; rw [h]
        · right; right; rw [if_neg ab, if_pos rfl]; exact h
      · have ba : b < a := by
          rw [UInt8.lt_iff_toNat_lt] at ab ⊢
          have : a.toNat ≠ b.toNat := fun h => e (UInt8.toNat_inj.1 h)
          omega
        right; right; rw [if_pos ba]
theorem ltS_asym {s t : List UInt8} (h : ltS s t = true) : ltS t s = false := by
  cases h2 : ltS t s with
  | false => rfl
  | true => have := ltS_trans h h2; rw [ltS_irr] at this; cases this
def leK (x y : Ey) : Prop := ltS x.path y.path = true ∨ (x.path = y.path ∧ x.stage ≤ y.stage)
theorem leK_trans {x y z : Ey} (h : leK x y) (k : leK y z) : leK x z := by
  rcases h with h | ⟨h, h'⟩
  · rcases k with k | ⟨k, _⟩
    · exact .inl (ltS_trans h k)
    · left; rw [← k]; exact h
  · rcases k with k | ⟨k, k'⟩
    · left; rw [h]; exact k
    · exact .inr ⟨h.trans k, Int.le_trans h' k'⟩
theorem leK_total (x y : Ey) : leK x y ∨ leK y x := by
  rcases ltS_tri x.path y.path with h | h | h
  · exact .inl (.inl h)
  · rcases Int.le_total x.stage y.stage with k | k
    · exact .inl (.inr ⟨h, k⟩)
    · exact .inr (.inr ⟨h.symm, k⟩)
  · exact .inr (.inl h)
theorem leK_anti {x y : Ey} (h : leK x y) (k : leK y x) : x.path = y.path ∧ x.stage = y.stage := by
  rcases h with h | ⟨h, h'⟩
  · rcases k with k | ⟨k, _⟩
    · rw [ltS_asym h] at k; cases k
    · rw [k, ltS_irr] at h; cases h
  · rcases k with k | ⟨k, k'⟩
    · rw [h, ltS_irr] at k; cases k
    · exact ⟨h, Int.le_antisymm h' k'⟩
def fOk (e : Ey) : Prop := (e.mode = 33188 ∨ e.mode = 33261 ∨ e.mode = 40960) ∧ 0 ≤ e.size ∧ e.size ≤ 100000 ∧ 0 ≤ e.stage ∧ e.stage ≤ 3
def bad2 (x y : Ey) : Prop := x.path = y.path ∧ (x.stage = y.stage ∨ x.stage = 0 ∨ y.stage = 0)
theorem bad2_symm {x y : Ey} (h : bad2 x y) : bad2 y x := ⟨h.1.symm, by rcases h.2 with h | h | h; exact .inl h.symm; exact .inr (.inr h); exact .inr (.inl h)⟩
def dirOf (x y : Ey) : Prop := ∃ r, r ≠ [] ∧ y.path = x.path ++ 47 :: r
def okPs (l : List Ey) : Prop := ∀ e ∈ l, okP e.path
def okFs (l : List Ey) : Prop := (∀ e ∈ l, fOk e) ∧ l.Pairwise (fun x y => ¬ bad2 x y)
def okDs (l : List Ey) : Prop := ∀ x ∈ l, ∀ y ∈ l, ¬ dirOf x y
def okY (l : List Ey) : Prop := okPs l ∧ okFs l ∧ okDs l
theorem okFs_perm {l m : List Ey} (h : l.Perm m) (k : okFs l) : okFs m := ⟨fun e he => k.1 e (h.mem_iff.2 he), (h.pairwise_iff (fun {x y} hxy hyx => hxy (bad2_symm hyx))).1 k.2⟩
theorem okPs_perm {l m : List Ey} (h : l.Perm m) (k : okPs l) : okPs m := fun e he => k e (h.mem_iff.2 he)
theorem okDs_perm {l m : List Ey} (h : l.Perm m) (k : okDs l) : okDs m := fun x hx y hy => k x (h.mem_iff.2 hx) y (h.mem_iff.2 hy)
theorem near_all : ∀ (l : List Ey), (∀ e ∈ l, fOk e) → l.Pairwise leK → (∀ i, (hi : i + 1 < l.length) → ¬ bad2 l[i] l[i + 1]) → l.Pairwise (fun x y => ¬ bad2 x y)
  | [], _, _, _ => List.Pairwise.nil
  | x :: l, hf, hs, hn => by
    rw [List.pairwise_cons] at hs
    refine List.Pairwise.cons (fun y hy => ?_) (near_all l (fun e he => hf e (List.mem_cons_of_mem _ he)) hs.2 (fun i hi => hn (i + 1) (by simp; omega)))
    intro hb
    cases l with
    | nil => cases hy
    | cons z r =>
      have h0 := hn 0 (by simp)
      apply h0
      show bad2 x z
      have hxz := hs.1 z (by simp)
      have hzy : leK z y := by
        rcases List.mem_cons.1 hy with rfl | hy
        · exact .inr ⟨rfl, Int.le_refl _⟩
        · exact (List.pairwise_cons.1 hs.2).1 y hy
      -- all have one path
      have hp : x.path = z.path := by
        rcases hxz with h | h
        · rcases hzy with k | k
          · have := ltS_trans h k; rw [← hb.1, ltS_irr] at this; cases this
          · rw [k.1, ← hb.1, ltS_irr] at h; cases h
        · exact h.1
      have hx0 := (hf x (by simp)).2.2.2.1
      have s1 : x.stage ≤ z.stage := by
        rcases hxz with h | h
        · rw [hp, ltS_irr] at h; cases h
        · exact h.2
      have s2 : z.stage ≤ y.stage := by
        rcases hzy with h | h
        · rw [← hp, hb.1, ltS_irr] at h; cases h
        · exact h.2
      refine ⟨hp, ?_⟩
      rcases hb.2 with h | h | h
      · left; omega
      · exact .inr (.inl h)
      · right; left; omega
theorem all_near (l : List Ey) (h : l.Pairwise (fun x y => ¬ bad2 x y)) (i : Nat) (hi : i + 1 < l.length) : ¬ bad2 l[i] l[i + 1] := List.pairwise_iff_getElem.1 h i (i + 1) (by omega) hi (by omega)
def insY (x : Ey) : List Ey → List Ey
  | [] => [x]
  | y :: l => if ltS y.path x.path = true ∨ (y.path = x.path ∧ y.stage ≤ x.stage) then y :: insY x l else x :: y :: l
def srtY (l : List Ey) : List Ey := l.foldl (fun o x => insY x o) []
theorem insY_perm (x : Ey) : ∀ l, (insY x l).Perm (x :: l)
  | [] => List.Perm.refl _
  | y :: l => by
    unfold insY
    split
    · exact ((insY_perm x l).cons y).trans (List.Perm.swap x y l)
    · exact List.Perm.refl _
theorem insY_sorted (x : Ey) : ∀ l : List Ey, l.Pairwise leK → (insY x l).Pairwise leK
  | [], _ => List.pairwise_singleton _ _
  | y :: l, h => by
    have h' := List.pairwise_cons.1 h
    unfold insY
    split
    · rename_i hle
      refine List.Pairwise.cons (fun z hz => ?_) (insY_sorted x l h'.2)
      rcases List.mem_cons.1 ((insY_perm x l).mem_iff.1 hz) with rfl | hz
      · exact hle
      · exact h'.1 z hz
    · rename_i hle
      have hxy : leK x y := (leK_total x y).resolve_right hle
      refine List.Pairwise.cons (fun z hz => ?_) h
      rcases List.mem_cons.1 hz with rfl | hz
      · exact hxy
      · exact leK_trans hxy (h'.1 z hz)
theorem srt_aux : ∀ (l o : List Ey), o.Pairwise leK → (l.foldl (fun o x => insY x o) o).Perm (o ++ l) ∧ (l.foldl (fun o x => insY x o) o).Pairwise leK
  | [], o, h => by simp [h]
  | x :: l, o, h => by
    have ih := srt_aux l (insY x o) (insY_sorted x o h)
    rw [List.foldl_cons]
    refine ⟨ih.1.trans ?_, ih.2⟩
    have := (insY_perm x o).append_right l
    exact this.trans (List.perm_middle.symm)
theorem srtY_perm (l : List Ey) : (srtY l).Perm l := by
  have := (srt_aux l [] List.Pairwise.nil).1
  simpa [srtY] using this
theorem srtY_sorted (l : List Ey) : (srtY l).Pairwise leK := (srt_aux l [] List.Pairwise.nil).2
theorem sorted_one : ∀ {l m : List Ey}, l.Perm m → l.Pairwise leK → m.Pairwise leK → l.Pairwise (fun x y => ¬ bad2 x y) → l = m
  | [], m, hp, _, _, _ => by rw [List.nil_perm.1 hp]
  | x :: l, m, hp, hl, hm, hb => by
    cases m with
    | nil => exact absurd hp.length_eq (by simp)
    | cons y m =>
      have hl' := List.pairwise_cons.1 hl
      have hm' := List.pairwise_cons.1 hm
      have hb' := List.pairwise_cons.1 hb
      have e : x = y := by
        have hy : y ∈ x :: l := hp.mem_iff.2 (by simp)
        have hx : x ∈ y :: m := hp.mem_iff.1 (by simp)
        rcases List.mem_cons.1 hy with h | h
        · exact h.symm
        · rcases List.mem_cons.1 hx with h2 | h2
          · exact h2
          · have k := leK_anti (hl'.1 y h) (hm'.1 x h2)
            exact absurd ⟨k.1, .inl k.2⟩ (hb'.1 y h)
      subst e
      rw [sorted_one (List.Perm.cons_inv hp) hl'.2 hm'.2 hb'.2]
def nb : Nat → Nat → List UInt8
  | 0, _ => []
  | k + 1, n => UInt8.ofNat (n / 256 ^ k) :: nb k n
theorem nb_len : ∀ k n, (nb k n).length = k
  | 0, _ => rfl
  | k + 1, n => by simp [nb, nb_len k n]
def zs (n : Nat) : List UInt8 := List.replicate n 0
def entLen (n : Nat) : Nat := (62 + n) / 8 * 8 + 8
def entB (e : Ey) : List UInt8 := zs 24 ++ nb 4 e.mode.toNat ++ zs 8 ++ nb 4 e.size.toNat ++ e.id ++ nb 2 (e.stage.toNat * 4096 + e.path.length) ++ e.path ++ zs (entLen e.path.length - (62 + e.path.length))
theorem entB_len (e : Ey) (h : e.id.length = 20) : (entB e).length = entLen e.path.length := by
  unfold entB entLen zs
  simp only [List.length_append, List.length_replicate, nb_len, h]
  omega
end Go.Proofs.YtcicoeneemnbiaaGreatDoor
namespace Go.Proofs.YtcicoeneemnbiaaGreatDoor
open Go.RowKit
set_option linter.unusedVariables false
set_option linter.unusedSimpArgs false
def encY (e : Ey) : List Value := sV e.path :: .int .i64 e.mode :: (bv e.id ++ [.int .i64 e.size, .int .i64 e.stage])
def dY : Ey := ⟨[], 0, zs 20, 0, 0⟩
abbrev PY (w : World) (a : Option Addr) (cap : Nat) (l : List Ey) : Prop := Px encY 24 dY w a cap l
abbrev BY (t : TypeId) (w0 w : World) (B : Nat) (v : Value) (l : List Ey) : Prop := Bx encY 24 t w0 w B v l
def WY (l : List Ey) : Prop := ∀ e ∈ l, e.id.length = 20
theorem encY_len (e : Ey) (h : e.id.length = 20) : (encY e).length = 24 := by simp [encY, bv_len, h]
theorem encY_one (e : Ey) : ∀ v ∈ encY e, v.oneCell' = true := by
  intro v hv
  unfold encY at hv
  rcases List.mem_cons.1 hv with rfl | hv
  · rfl
  · rcases List.mem_cons.1 hv with rfl | hv
    · rfl
    · rcases List.mem_append.1 hv with hv | hv
      · exact bv_one _ v hv
      · rcases List.mem_cons.1 hv with rfl | hv
        · rfl
        · rw [List.mem_singleton.1 hv]; rfl
theorem encY_at (e : Ey) (h : e.id.length = 20) : (encY e)[0]? = some (sV e.path) ∧ (encY e)[1]? = some (.int .i64 e.mode) ∧ (encY e)[22]? = some (.int .i64 e.size) ∧ (encY e)[23]? = some (.int .i64 e.stage) := by
  refine ⟨rfl, rfl, ?_, ?_⟩
  · unfold encY
    rw [List.getElem?_cons_succ, List.getElem?_cons_succ, List.getElem?_append_right (by rw [bv_len, h]; decide), bv_len, h]
    rfl
  · unfold encY
    rw [List.getElem?_cons_succ, List.getElem?_cons_succ, List.getElem?_append_right (by rw [bv_len, h]; decide), bv_len, h]
    rfl
theorem PY.row {w : World} {b off cap : Nat} {l : List Ey} (h : PY w (some ⟨b, off, none⟩) cap l) (i : Nat) (hi : i < l.length) : w.rangeAt b (off + i * 24) (encY (l.getD i dY)) := by
  obtain ⟨b', off', e1, _, e3⟩ := h.at_ (by omega)
  cases e1
  exact e3 i hi
theorem wpList_store_new {P : Program} {ops : Array Oper} {rest : List Oper} {o : Oper} {a : Act} {w : World} {Q : Exit → Act → World → Prop} (hg : o.guard = none) (ty : TypeId) (x y : Operand) (ho : o.op = .store ty x y) (c c' : Array Value)
    (hx : a.eval x = .pointer (some ⟨w.heap.size, 0, none⟩)) (hy : a.eval y = .agg c') (hi : (P.info? ty).map (·.size) = some c'.size) (hc : c.size = c'.size) (h1 : c'.all (·.oneCell') = true)
    (h : wpList P ops Q rest (a.put o.dst undef) (w.alloc (.cells c' ty))) : wpList P ops Q (o :: rest) a (w.alloc (.cells c ty)) := by
  refine wpList_skip hg ?_ h
  unfold execOp
  simp only [ho, hx, hy, Sem.run_bind, Sem.run_pure, Result.andThen_ok, run_storeAt_new w ty c c' hi hc h1]
structure CY (e : Ey) (C : Array Value) : Prop where
  eq : C = (encY e).toArray
  size : C.size = 24
  one : C.all (·.oneCell') = true
  c0 : C[0]? = some (.string ⟨e.path.toArray⟩)
  c1 : C[1]? = some (.int .i64 e.mode)
  c22 : C[22]? = some (.int .i64 e.size)
  c23 : C[23]? = some (.int .i64 e.stage)
theorem cy (e : Ey) (h : e.id.length = 20) : CY e (encY e).toArray := by
  obtain ⟨h0, h1, h2, h3⟩ := encY_at e h
  exact ⟨rfl, by rw [List.size_toArray, encY_len e h], all_oneCell_toArray (encY_one e), by rw [List.getElem?_toArray]; exact h0, by rw [List.getElem?_toArray]; exact h1, by rw [List.getElem?_toArray]; exact h2, by rw [List.getElem?_toArray]; exact h3⟩
theorem cellN {w : World} {C : Array Value} {t : TypeId} {i : Nat} {v : Value} (h : C[i]? = some v) : (w.alloc (.cells C t)).cell? ⟨w.heap.size, i, none⟩ = some v := by
  rw [cell_of_row _ w.heap.size i _ t (0, 0) (heap_alloc_new w _)]; exact h
theorem info32 : (Tryz.prog.info? 32).map (·.size) = some 24 := by kernel_rfl
theorem info48 : (Tryz.prog.info? 48).map (·.size) = some 24 := by kernel_rfl
def okMd (m : Int) : Prop := m = 33188 ∨ m = 33261 ∨ m = 40960
theorem isMode_any (m : Int) (w : World) : Calls Tryz.prog 52 #[.int .i64 m] w fun e w' => BIs (okMd m) e ∧ w' = w := by
  by_cases h1 : m = 33188
  · have HR : Hid (okMd m) := hid (.inl h1)
    have hb : (m == 33188) = true := by simp [h1]
    clear h1
    go_enter Tryz.func52, Tryz.ntmps52
    go_wp2
    go_ret
    exact ⟨bis_true HR.out, rfl⟩
  · have hb : (m == 33188) = false := by simp [h1]
    by_cases h2 : m = 33261
    · have HR : Hid (okMd m) := hid (.inr (.inl h2))
      have hb2 : (m == 33261) = true := by simp [h2]
      clear h1 h2
      go_enter Tryz.func52, Tryz.ntmps52
      go_wp2
      go_ret
      exact ⟨bis_true HR.out, rfl⟩
    · have hb2 : (m == 33261) = false := by simp [h2]
      by_cases h3 : m = 40960
      · have HR : Hid (okMd m) := hid (.inr (.inr h3))
        have hb3 : (m == 40960) = true := by simp [h3]
        clear h1 h2 h3
        go_enter Tryz.func52, Tryz.ntmps52
        go_wp2
        go_ret
        exact ⟨bis_true HR.out, rfl⟩
      · have HR : Hid (¬ okMd m) := hid (fun h => by rcases h with h | h | h; exact h1 h; exact h2 h; exact h3 h)
        have hb3 : (m == 40960) = false := by simp [h3]
        clear h1 h2 h3
        go_enter Tryz.func52, Tryz.ntmps52
        go_wp2
        go_ret
        exact ⟨bis_false HR.out, rfl⟩
end Go.Proofs.YtcicoeneemnbiaaGreatDoor
namespace Go.Proofs.YtcicoeneemnbiaaGreatDoor
open Go.RowKit
set_option linter.unusedVariables false
set_option linter.unusedSimpArgs false
set_option maxRecDepth 20000 in
theorem entryBytes_any (e : Ey) (h : e.id.length = 20) (hp : e.path.length ≤ 100000) (w : World) : Calls Tryz.prog 31 #[.agg (encY e).toArray] w fun ev w' => ev = .returned (.int .i64 ((entLen e.path.length : Nat) : Int)) ∧ Below w.heap.size w w' := by
  have hcy := cy e h
  obtain ⟨C, HC⟩ : ∃ C, Hid ((encY e).toArray = C) := ⟨_, rfl⟩
  rw [HC.out] at hcy ⊢
  obtain ⟨n, HN⟩ : ∃ n, Hid (e.path.length = n) := ⟨_, rfl⟩
  have hn : n ≤ 100000 := by rw [← HN.out]; exact hp
  obtain ⟨S, HS⟩ : ∃ S : ByteArray, Hid (⟨e.path.toArray⟩ = S) := ⟨_, rfl⟩
  have hS : S.size = n := by rw [← HS.out, txt_len]; exact HN.out
  obtain ⟨W, HW⟩ : ∃ W, Hid (w.alloc (.cells C 32) = W) := ⟨_, rfl⟩
  have k0 : W.cell? ⟨w.heap.size, 0, none⟩ = some (.string S) := by rw [← HW.out, ← HS.out]; exact cellN hcy.c0
  have HB : Hid (Below w.heap.size w W) := hid (by rw [← HW.out]; exact (Below.refl _ w).alloc (Nat.le_refl _) _)
  have al : w.alloc (.cells C 32) = W := HW.out
  rw [HN.out]
  unfold entLen
  clear hcy
  go_enter Tryz.func31, Tryz.ntmps31
  go_wp2
  go_ret
  exact ⟨ret_int (by omega), HB.out⟩
set_option maxRecDepth 20000 in
set_option maxHeartbeats 2000000 in
theorem fields_any {w : World} (a : Option Addr) (ca : Nat) (l : List Ey) (hP : PY w a ca l) (hw : WY l) (hl : l.length ≤ 100000) : Calls Tryz.prog 28 #[.slice a l.length ca] w fun e w' => BIs (∀ x ∈ l, fOk x) e ∧ Below w.heap.size w w' := by
  obtain ⟨n, HN⟩ : ∃ n, Hid (l.length = n) := ⟨_, rfl⟩
  obtain ⟨g, HG⟩ : ∃ g, Hid (w.heap.size = g) := ⟨_, rfl⟩
  have hn : n ≤ 100000 := by rw [← HN.out]; exact hl
  have HPW : Hid (∀ W, Below g w W → PY W a ca l) := fun W hW => hP.below (by rw [HG.out]; exact hW)
  have HFA : Hid (0 < n → ∃ b off, a = some ⟨b, off, none⟩) := fun h0 => by
    obtain ⟨b, off, e1, _⟩ := hP.at_ (by rw [HN.out]; exact h0)
    exact ⟨b, off, e1⟩
  have HWY : Hid (WY l) := hw
  rw [HN.out]
  clear hP hw hl
  go_enter Tryz.func28, Tryz.ntmps28
  go_wp2_with fail
  go_loopg [7] n (fun gg iv wr => ∃ i : Nat, iv = .int .i64 i ∧ i ≤ n ∧ gg = n - i ∧ Hid (∀ x ∈ l.take i, fOk x) ∧ Hid (Below g w wr))
  case atStart => exact ⟨0, rfl, Nat.zero_le _, rfl, hid (by simp), hid (Below.refl _ _)⟩
  case round =>
    obtain ⟨i, rfl, hi, hk, HOK, HB⟩ := hrel
    by_cases hlt : i < n
    · have hlti : (i : Int) < (n : Int) := by omega
      obtain ⟨b, off, hae⟩ := HFA.out (by omega)
      subst hae
      have hil : i < l.length := by rw [HN.out]; exact hlt
      obtain ⟨x, HX⟩ : ∃ x, Hid (l.getD i dY = x) := ⟨_, rfl⟩
      have HRow : Hid (wr.rangeAt b (off + i * 24) (encY x)) := hid (by rw [← HX.out]; exact (HPW.out wr HB.out).row i hil)
      have HW : Hid (x.id.length = 20) := hid (by rw [← HX.out]; exact HWY.out _ (getD_mem l i dY hil))
      have HCY : Hid (CY x (encY x).toArray) := hid (cy x HW.out)
      have HT : Hid (l.take (i + 1) = l.take i ++ [x]) := hid (by rw [← HX.out]; exact take_snocG dY l i hil)
      have HM : Hid (x ∈ l) := hid (by rw [← HX.out]; exact getD_mem l i dY hil)
      obtain ⟨W, HWW⟩ : ∃ W, Hid (wr.alloc (.cells (encY x).toArray 32) = W) := ⟨_, rfl⟩
      have k1 : W.cell? ⟨wr.heap.size, 1, none⟩ = some (.int .i64 x.mode) := by rw [← HWW.out]; exact cellN HCY.out.c1
      have k2 : W.cell? ⟨wr.heap.size, 22, none⟩ = some (.int .i64 x.size) := by rw [← HWW.out]; exact cellN HCY.out.c22
      have k3 : W.cell? ⟨wr.heap.size, 23, none⟩ = some (.int .i64 x.stage) := by rw [← HWW.out]; exact cellN HCY.out.c23
      have HBW : Hid (Below g w W) := hid (by rw [← HWW.out]; exact HB.out.alloc (by rw [← HG.out]; exact HB.out.size) _)
      have al : wr.alloc (.cells (encY x).toArray 32) = W := HWW.out
      have C52 : Hid (Calls Tryz.prog 52 #[.int .i64 x.mode] W fun e w' => BIs (okMd x.mode) e ∧ w' = W) := hid (isMode_any x.mode W)
      clear hil
      go_wp2_with (first | (refine wpList_load_mid rfl 32 _ rfl b (off + i * 24) rfl (encY x) _ HRow.out Tryz.underlying32 rfl (by rw [encY_len x HW.out]; exact info32) ?_) | (refine wpList_store_new rfl 32 _ _ rfl _ (encY x).toArray rfl rfl (by rw [HCY.out.size]; exact info32) (by rw [HCY.out.size]; rfl) HCY.out.one ?_))
      refine C52.out.mono ?_
      rintro e w1 ⟨hbi, rfl⟩
      rcases bis_or hbi with ⟨hmd, rfl⟩ | ⟨hmd, rfl⟩
      · by_cases hf : fOk x
        · have HOK2 : Hid (∀ y ∈ l.take (i + 1), fOk y) := hid (by
            rw [HT.out]
            intro y hy
            rcases List.mem_append.1 hy with h | h
            · exact HOK.out y h
            · rw [List.mem_singleton.1 h]; exact hf)
          obtain ⟨_, f1, f2, f3, f4⟩ := hf
          have f1' : ¬ x.size < 0 := by omega
          have f2' : ¬ 100000 < x.size := by omega
          have f3' : ¬ x.stage < 0 := by omega
          have f4' : ¬ 3 < x.stage := by omega
          clear f1 f2 f3 f4 hmd hbi
          go_wp2
          go_roundg (n - (i + 1))
          case measure => omega
          case rel => exact ⟨i + 1, by go_num, by omega, rfl, HOK2, HBW⟩
        · have HNO : Hid (¬ ∀ y ∈ l, fOk y) := hid (fun h => hf (h x HM.out))
          have hor : x.size < 0 ∨ 100000 < x.size ∨ x.stage < 0 ∨ 3 < x.stage := by
            refine Classical.byContradiction fun h => hf ⟨hmd, ?_⟩
            omega
          have HBF : Hid (Below w.heap.size w w1) := hid (by rw [HG.out]; exact HBW.out)
          clear hf hbi hmd
          rcases (show x.size < 0 ∨ (¬ x.size < 0 ∧ 100000 < x.size) ∨ (¬ x.size < 0 ∧ ¬ 100000 < x.size ∧ x.stage < 0) ∨ (¬ x.size < 0 ∧ ¬ 100000 < x.size ∧ ¬ x.stage < 0 ∧ 3 < x.stage) by omega) with q | ⟨q1, q⟩ | ⟨q1, q2, q⟩ | ⟨q1, q2, q3, q⟩
          all_goals
            clear hor
            go_wp2
            go_ret
            exact ⟨bis_false HNO.out, HBF.out⟩
      · have HNO : Hid (¬ ∀ y ∈ l, fOk y) := hid (fun h => hmd (h x HM.out).1)
        have HBF : Hid (Below w.heap.size w w1) := hid (by rw [HG.out]; exact HBW.out)
        clear hbi hmd
        go_wp2
        go_ret
        exact ⟨bis_false HNO.out, HBF.out⟩
    · have hlti : ¬ (i : Int) < (n : Int) := by omega
      have HAll : Hid (∀ x ∈ l, fOk x) := hid (by
        have h := HOK.out
        rwa [List.take_of_length_le (by rw [HN.out]; omega)] at h)
      go_wp2
      go_ret
      exact ⟨bis_true HAll.out, by rw [HG.out]; exact HB.out⟩
end Go.Proofs.YtcicoeneemnbiaaGreatDoor
