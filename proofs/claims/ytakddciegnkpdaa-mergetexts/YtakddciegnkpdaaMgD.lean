/- Bytes with room behind them; 'append' to them; 'appendLines', 'showBoth'. -/
import Derived.Test.YtakddciegnkpdaaMgC
import Derived.ArgAppend
import Derived.Lib.AppendStr
import Derived.Lib.SlBytesConst
namespace Go.Proofs.Ytakddciegnkpdaa
open Go.RowKit
set_option linter.unusedVariables false
set_option linter.unusedSimpArgs false
def bv (s : Str) : List Value := s.map (fun x => Value.int .u8 (x.toNat : Int))
theorem bv_len (s : Str) : (bv s).length = s.length := by simp [bv]
theorem bv_one (s : Str) : ∀ u ∈ bv s, u.oneCell' = true := by
  intro u hu
  obtain ⟨x, _, rfl⟩ := List.mem_map.1 hu
  rfl
theorem bv_app (s t : Str) : bv (s ++ t) = bv s ++ bv t := by simp [bv]
theorem bv_str (s : Str) : Lib.strCells ⟨s.toArray⟩ = bv s := by simp [Lib.strCells, bv]
/-- A slice at the head of a block: its bytes, and room behind them. -/
structure Mk (w : World) (g cap : Nat) (s : Str) : Prop where
  lt : g < w.heap.size
  capl : s.length ≤ cap
  at_ : ∀ (j : Nat) (u : Value), (bv s)[j]? = some u → w.cell? ⟨g, j, none⟩ = some u
  spare : ∀ i, s.length ≤ i → i < cap → (w.cell? ⟨g, i, none⟩).isSome = true ∧ w.frozen? ⟨g, i, none⟩ = false
theorem PB.at {w : World} {b off cap : Nat} {s : Str} (h : PB w (some ⟨b, off, none⟩) cap s) : ∀ (j : Nat) (u : Value), (bv s)[j]? = some u → w.cell? ((⟨b, off, none⟩ : Addr).add j) = some u := fun j u hj => by
  have hl := (List.getElem?_eq_some_iff.1 hj).1
  rw [bv_len] at hl
  rw [addr_add, PB.cell h j hl]
  unfold bv at hj
  rw [List.getElem?_map, List.getElem?_eq_getElem hl] at hj
  rw [List.getD_eq_getElem?_getD, List.getElem?_eq_getElem hl]
  exact hj
theorem Mk.pb {w : World} {g cap : Nat} {s : Str} (h : Mk w g cap s) : PB w (some ⟨g, 0, none⟩) cap s :=
  ⟨h.capl, fun _ => ⟨g, 0, rfl, h.lt, fun i hi j v hv => by
    have hj : j = 0 := by
      have := (List.getElem?_eq_some_iff.1 hv).1
      simp [encB] at this
      exact this
    subst hj
    rw [Nat.zero_add, Nat.mul_one, Nat.add_zero]
    refine h.at_ i v ?_
    simp only [encB, List.getElem?_cons_zero, Option.some.injEq] at hv
    unfold bv
    rw [List.getElem?_map, List.getElem?_eq_getElem hi, ← hv, List.getD_eq_getElem?_getD, List.getElem?_eq_getElem hi]
    rfl⟩, fun h => by cases h⟩
theorem Mk.kept {w w' : World} {g cap : Nat} {s : Str} (h : Mk w g cap s) (hs : w.heap.size ≤ w'.heap.size) (hb : w'.heap[g]? = w.heap[g]?) : Mk w' g cap s :=
  ⟨Nat.lt_of_lt_of_le h.lt hs, h.capl, fun j u hj => (World.cell?_of_block (a := ⟨g, j, none⟩) hb).trans (h.at_ j u hj), fun i h1 h2 => by
    have := h.spare i h1 h2
    rw [World.cell?_of_block (a := ⟨g, i, none⟩) hb]
    refine ⟨this.1, ?_⟩
    rw [← this.2]
    unfold World.frozen?
    rw [hb]⟩
theorem Mk.below {w w' : World} {g cap : Nat} {s : Str} (h : Mk w g cap s) (hb : Below w.heap.size w w') : Mk w' g cap s := h.kept hb.size (hb.block g h.lt)
theorem conv_mk (l : Str) (w : World) : ∃ cap w', (convert 9 22 (.string ⟨l.toArray⟩)).run Try.prog w = .ok (.slice (some ⟨w.heap.size, 0, none⟩) l.length cap) w' ∧ Mk w' w.heap.size cap l ∧ Below w.heap.size w w' := by
  have hr := run_bytes_of_string (P := Try.prog) w 9 22 5 ⟨l.toArray⟩ Try.underlying9 Try.underlying22 Try.underlying5
  have hsz : (⟨l.toArray⟩ : ByteArray).size = l.length := by simp [ByteArray.size]
  rw [hsz] at hr
  have hge := grownCap_ge w l.length 0 5
  generalize grownCap w l.length 0 5 = cap at hr hge
  have hrs : (bytesRow ⟨l.toArray⟩ cap).size = cap := by simp [bytesRow, ByteArray.size]; omega
  rw [hrs] at hr
  have h1 : ∀ i, i < l.length → (bytesRow ⟨l.toArray⟩ cap)[i]? = some (.int .u8 ((l.getD i 0).toNat : Int)) := fun i hi => by
    simp [bytesRow, hi, Array.getElem?_append]
  generalize bytesRow ⟨l.toArray⟩ cap = R at hr h1 hrs
  have hh : (w.drew.alloc (.cells R 5 (cap, cap + 1))).heap[w.heap.size]? = some (.cells R 5 (cap, cap + 1)) := by
    show (w.heap.push _)[w.heap.size]? = _
    simp
  refine ⟨cap, _, hr, ⟨by simp, hge, fun j u hj => ?_, fun i g1 g2 => ⟨?_, ?_⟩⟩, rfl, rfl, rfl, by simp, fun k hk => ?_⟩
  · have hl := (List.getElem?_eq_some_iff.1 hj).1
    rw [bv_len] at hl
    unfold bv at hj
    rw [List.getElem?_map, List.getElem?_eq_getElem hl] at hj
    rw [World.cell?, hh]
    have := h1 j hl
    rw [List.getD_eq_getElem?_getD, List.getElem?_eq_getElem hl] at this
    rw [← hj]
    exact this
  · rw [World.cell?, hh]
    show (R[i]?).isSome = true
    rw [Array.getElem?_eq_getElem (by omega)]
    rfl
  · rw [World.frozen?, hh]
    simp
    omega
  · show (w.heap.push _)[k]? = _
    rw [Array.getElem?_push_lt hk, Array.getElem?_eq_getElem hk]
theorem Px.grown' {α : Type} {enc : α → List Value} {k : Nat} {d : α} {w w' : World} {a : Option Addr} {cap K : Nat} {l : List α} (h : Px enc k d w a cap l) (hK : 0 < l.length → ∀ p : Addr, a = some p → p.block ≠ K) (hg : w.grownBy w' (some K)) : Px enc k d w' a cap l := by
  by_cases h0 : 0 < l.length
  · exact h.grown (hK h0) hg
  · exact ⟨h.capl, fun h1 => absurd h1 h0, h.nil⟩
theorem Px.lt {α : Type} {enc : α → List Value} {k : Nat} {d : α} {w : World} {a : Option Addr} {cap : Nat} {l : List α} (h : Px enc k d w a cap l) : 0 < l.length → ∀ p : Addr, a = some p → p.block < w.heap.size := fun h0 p hp => by
  obtain ⟨b, off, e1, e2, _⟩ := h.at_ h0
  rw [e1] at hp
  cases hp
  exact e2
/-- What an 'append' leaves. -/
def Apd (w w' : World) (g : Nat) (v : Value) (s : Str) : Prop := ∃ g' cap', v = .slice (some ⟨g', 0, none⟩) s.length cap' ∧ Mk w' g' cap' s ∧ (g' = g ∨ w.heap.size ≤ g') ∧ w.grownBy w' (some g)
theorem grown_cells (w : World) (g o : Nat) (l : List Value) : w.grownBy (w.setCells g o l) (some g) := grown_setCells g l o w w ⟨rfl, rfl, rfl, Nat.le_refl _, fun _ _ _ => rfl⟩
theorem mk_room {w : World} {g cap : Nat} {s : Str} (hm : Mk w g cap s) (l : Str) (hr : s.length + l.length ≤ cap) : Mk (w.setCells g s.length (bv l)) g cap (s ++ l) := by
  have hsp : ∀ j, j < (bv l).length → (w.cell? ⟨g, s.length + j, none⟩).isSome = true := fun j hj => by
    rw [bv_len] at hj
    exact (hm.spare (s.length + j) (by omega) (by omega)).1
  refine ⟨Nat.lt_of_lt_of_le hm.lt (grown_cells w g s.length (bv l)).size, by rw [List.length_append]; exact hr, fun j u hj => ?_, fun i h1 h2 => ?_⟩
  · rw [bv_app] at hj
    by_cases hlt : j < s.length
    · rw [World.cell?_setCells_out _ _ _ _ _ (fun _ _ => .inl hlt)]
      rw [List.getElem?_append_left (by rw [bv_len]; exact hlt)] at hj
      exact hm.at_ j u hj
    · rw [List.getElem?_append_right (by rw [bv_len]; omega), bv_len] at hj
      obtain ⟨k, rfl⟩ : ∃ k, j = s.length + k := ⟨j - s.length, by omega⟩
      rw [Nat.add_sub_cancel_left] at hj
      have hk := (List.getElem?_eq_some_iff.1 hj).1
      rw [World.cell?_setCells_in _ _ _ _ hsp k hk, ← List.getElem?_eq_getElem hk]
      exact hj
  · rw [List.length_append] at h1
    rw [World.cell?_setCells_out _ _ _ _ _ (fun _ _ => .inr (by show s.length + (bv l).length ≤ i; rw [bv_len]; exact h1)), World.frozen?_setCells]
    exact hm.spare i (by omega) h2
theorem mk_own {w : World} {B : Nat} {v : Value} {s : Str} (h : w.ownsRow B 5 1 v s.length (bv s)) (h0 : 0 < s.length) : ∃ g cap, v = .slice (some ⟨g, 0, none⟩) s.length cap ∧ B ≤ g ∧ Mk w g cap s := by
  obtain ⟨hl, ⟨hv, e0⟩ | ⟨g, cap, cur, hv, hb, hh, hkc, hcm, hsz, htk⟩⟩ := h
  · omega
  · refine ⟨g, cap, hv, hb, lt_of_some hh, hkc, fun j u hj => ?_, fun i h1 h2 => ⟨?_, ?_⟩⟩
    · rw [cell_of_row w g j _ _ _ hh]
      rw [← htk] at hj
      have hlt := (List.getElem?_eq_some_iff.1 hj).1
      rw [List.length_take] at hlt
      rw [List.getElem?_take_of_lt (by omega)] at hj
      simpa using hj
    · rw [cell_of_row w g i _ _ _ hh, Array.getElem?_eq_getElem (by omega)]
      rfl
    · exact frozen_of_row w g i _ _ hh
/-- 'append' of bytes. -/
theorem app_mk (w : World) (g cap : Nat) (s l : Str) (a : Option Addr) (c : Nat) (hm : Mk w g cap s) (hS : PB w a c l) (hl : s.length + l.length ≤ 100000000) :
    ∃ v w', (Builtin.append_ #[22, 22] 22 #[.slice (some ⟨g, 0, none⟩) s.length cap, .slice a l.length c]).run Try.prog w = .ok v w' ∧ Apd w w' g v (s ++ l) := by
  obtain ⟨i5, hi, hz0, hz1, hz2⟩ := info_parts Try.info5
  by_cases h0 : l.length = 0
  · obtain rfl : l = [] := List.length_eq_zero_iff.1 h0
    refine ⟨.slice (some ⟨g, 0, none⟩) s.length cap, w, ?_, g, cap, by simp, by simpa using hm, .inl rfl, ⟨rfl, rfl, rfl, Nat.le_refl _, fun _ _ _ => rfl⟩⟩
    have hc := hm.capl
    cases a with
    | none => simp [Builtin.append_, run_underlying Try.underlying22, sizeOf, typeInfo, hi, Builtin.lenOf, Builtin.firstCells, hc, storeCells]
    | some ad => simp [Builtin.append_, run_underlying Try.underlying22, sizeOf, typeInfo, hi, Builtin.lenOf, Builtin.firstCells, hc, storeCells, loadCells, loadCellsFrom]
  · obtain ⟨b, off, rfl, hb, _⟩ := hS.at_ (by omega)
    by_cases hroom : s.length + l.length ≤ cap
    · have hr := run_append_room_cells (P := Try.prog) w 22 22 5 i5 Try.underlying22 hi g 0 s.length cap ⟨b, off, none⟩ l.length c (bv l) (by rw [hz1, bv_len]; simp) (PB.at hS) (bv_one l) hroom
        (fun j hj => by
          rw [hz1, Nat.zero_add, Nat.mul_one]
          rw [bv_len] at hj
          exact (hm.spare (s.length + j) (by omega) (by omega)).1)
        (fun j hj => by
          rw [hz1, Nat.zero_add, Nat.mul_one]
          rw [bv_len] at hj
          exact (hm.spare (s.length + j) (by omega) (by omega)).2)
      rw [hz1, Nat.zero_add, Nat.mul_one] at hr
      exact ⟨_, _, hr, g, cap, by rw [List.length_append], mk_room hm l hroom, .inl rfl, grown_cells w g _ _⟩
    · obtain ⟨v', w', hr, hown, hg⟩ := run_append_arg_grows (P := Try.prog) w 22 22 5 i5 (.int .u8 0) 1 1 Try.underlying22 hi hz0 hz1 hz2 rfl (by omega) ⟨g, 0, none⟩ s.length cap (bv s) (by rw [bv_len]; simp)
        (fun j u hj => by rw [addr_add, Nat.zero_add]; exact hm.at_ j u hj)
        ⟨b, off, none⟩ l.length c (bv l) (by rw [bv_len]; simp) (PB.at hS) (by omega) (by unfold maxLen; omega) (by omega)
      rw [← bv_app, ← List.length_append] at hown
      obtain ⟨g', cap', rfl, h1, h2⟩ := mk_own hown (by rw [List.length_append]; omega)
      exact ⟨_, w', hr, g', cap', rfl, h2, .inr h1, ⟨hg.os, hg.tape, hg.output, hg.size, fun k hk _ => hg.block k hk (by simp)⟩⟩
/-- 'append' of a text. -/
theorem app_mks (w : World) (g cap : Nat) (s l : Str) (hm : Mk w g cap s) (h0 : 0 < l.length) (hl : s.length + l.length ≤ 100000000) :
    ∃ v w', (Builtin.append_ #[22, 9] 22 #[.slice (some ⟨g, 0, none⟩) s.length cap, .string ⟨l.toArray⟩]).run Try.prog w = .ok v w' ∧ Apd w w' g v (s ++ l) := by
  obtain ⟨i5, hi, hz0, hz1, hz2⟩ := info_parts Try.info5
  have hsz : (⟨l.toArray⟩ : ByteArray).size = l.length := by simp [ByteArray.size]
  by_cases hroom : s.length + l.length ≤ cap
  · have hf := Lib.run_firstCells_string (P := Try.prog) w 1 ⟨l.toArray⟩
    have hst := run_storeCells_cells (P := Try.prog) g s.length (bv l) 0 w
      (fun j hj => by
        rw [bv_len] at hj
        simpa using (hm.spare (s.length + j) (by omega) (by omega)).1)
      (fun j hj => by
        rw [bv_len] at hj
        simpa using (hm.spare (s.length + j) (by omega) (by omega)).2) (bv_one l)
    simp only [Nat.add_zero] at hst
    rw [hsz, bv_str] at hf
    refine ⟨.slice (some ⟨g, 0, none⟩) (s ++ l).length cap, w.setCells g s.length (bv l), ?_, g, cap, rfl, mk_room hm l hroom, .inl rfl, grown_cells w g _ _⟩
    simp [Builtin.append_, run_underlying Try.underlying22, run_underlying Try.underlying9, sizeOf, typeInfo, hi, hz1, Builtin.lenOf, hsz, hroom, hf, Addr.add_lit, hst]
  · have hr := Lib.run_append_grow_string (P := Try.prog) w 22 9 22 5 i5 (.int .u8 0) Try.underlying22 Try.underlying9 hi hz0 ⟨g, 0, none⟩ s.length cap (bv s) (by rw [bv_len, hz1]; simp)
      (fun j u hj => by rw [addr_add, Nat.zero_add]; exact hm.at_ j u hj) ⟨l.toArray⟩ (by rw [hsz]; omega) (by rw [hsz]; omega) (by rw [hsz, hz2]; exact growslice_fits (by omega) (by omega))
    rw [hsz, bv_str] at hr
    have hge := grownCap_ge w (s.length + l.length) cap 5
    have hcm : grownCap w (s.length + l.length) cap 5 ≤ maxLen := grownCap_le_maxLen w (s.length + l.length) cap 5 (by unfold maxLen; omega)
    generalize grownCap w (s.length + l.length) cap 5 = cp at hr hge hcm
    have hown : (w.drew.alloc (.cells ((bv s).toArray ++ (bv l).toArray ++ Builtin.zeroCells (Value.int .u8 0).cells (cp - (s.length + l.length))) 5)).ownsRow w.heap.size 5 1 (.slice (some ⟨w.heap.size, 0, none⟩) (s ++ l).length cp) (s ++ l).length (bv (s ++ l)) := by
      refine ⟨by rw [bv_len, Nat.mul_one], .inr ⟨w.heap.size, _, _, rfl, Nat.le_refl _, heap_alloc_new w.drew _, by rw [List.length_append]; exact hge, hcm, ?_, ?_⟩⟩
      · have hz1 : (Value.int IntKind.u8 0).cells.size = 1 := rfl
        simp only [Array.size_append, List.size_toArray, size_zeroCells, hz1, bv_len]
        omega
      · simp only [Array.toList_append, List.append_assoc]
        rw [← List.append_assoc, ← bv_app, List.take_left' (by rw [bv_len]; omega)]
    obtain ⟨g', cap', e1, h1, h2⟩ := mk_own hown (by rw [List.length_append]; omega)
    refine ⟨_, _, hr, g', cap', by rw [← List.length_append]; exact e1, h2, .inr h1, ⟨rfl, rfl, rfl, by simp, fun k hk _ => by
      show (w.heap.push _)[k]? = _
      rw [Array.getElem?_push_lt hk, Array.getElem?_eq_getElem hk]⟩⟩
theorem Apd.trans {w w1 w2 : World} {g g1 c1 n1 : Nat} {v : Value} {s s2 : Str} (h : Apd w w1 g (.slice (some ⟨g1, 0, none⟩) n1 c1) s) (h2 : Apd w1 w2 g1 v s2) : Apd w w2 g v s2 := by
  obtain ⟨g', c', e1, m1, k1, r1⟩ := h
  obtain ⟨g2, c2, e2, m2, k2, r2⟩ := h2
  cases e1
  refine ⟨g2, c2, e2, m2, ?_, r2.os.trans r1.os, r2.tape.trans r1.tape, r2.output.trans r1.output, Nat.le_trans r1.size r2.size, fun k hk hne => ?_⟩
  · have := r1.size
    omega
  · rw [r2.block k (Nat.lt_of_lt_of_le hk r1.size) (fun e => by
      cases e
      rcases k1 with k1 | k1
      · subst k1; exact hne rfl
      · omega)]
    exact r1.block k hk hne
theorem wpList_app {ops : Array Oper} {rest : List Oper} {o : Oper} {a : Act} {Q : Exit → Act → World → Prop} {w w' : World} {v : Value} (hg : o.guard = none) (s x : Operand) (t u : TypeId)
    (ho : o.op = .call { callee := .builtin .append, args := #[s, x], argTypes := #[t, u] }) (ty : TypeId) (hty : o.type = ty) (vs vx : Value) (hs : a.eval s = vs) (hx : a.eval x = vx)
    (hr : (Builtin.append_ #[t, u] ty #[vs, vx]).run Try.prog w = .ok v w') (h : wpList Try.prog ops Q rest (a.put o.dst v) w') : wpList Try.prog ops Q (o :: rest) a w := by
  subst hty
  refine wpList_plain hg fun K hK => ?_
  unfold Oper.wp execOp
  simp only [ho, resolve, invoke, builtin, Sem.run_bind, Sem.run_pure, Result.andThen_ok, List.map_toArray, List.map_cons, List.map_nil, hs, hx, hr]
  exact hK _ _ h
theorem run_ten (w : World) : (Instr.buildSlice 22 1 #[(0, .int .u8 10)]).run Try.prog w = .ok (.slice (some ⟨w.heap.size, 0, none⟩) 1 1) (w.alloc (.cells #[.int .u8 10] 5)) := by
  obtain ⟨i, hq, hz, hs, _⟩ := info_parts Try.info5
  refine run_buildSlice w 22 5 1 _ #[.int .u8 10] i _ Try.underlying22 hq hz (by rw [hs]; decide) (by rw [hs]; decide) ?_
  rw [hs]
  kernel_rfl
theorem pb_ten (w : World) (fr : Nat × Nat) : PB (w.alloc (.cells #[.int .u8 10] 5 fr)) (some ⟨w.heap.size, 0, none⟩) 1 [10] :=
  ⟨by simp, fun _ => ⟨w.heap.size, 0, rfl, by simp, fun i hi => by
    obtain rfl : i = 0 := by simp at hi; omega
    have := range_row (cs := [.int .u8 10]) (heap_alloc_new w (.cells #[.int .u8 10] 5 fr))
    simpa [encB] using this⟩, fun h => by cases h⟩
/-- What 'appendLines' leaves. -/
def PostAp (w : World) (g : Nat) (s : Str) (e : Ending) (w' : World) : Prop := ∃ v, e = .returned v ∧ Apd w w' g v s
set_option maxRecDepth 20000 in
theorem appendLines_any {w : World} (g cap : Nat) (s : Str) (hm : Mk w g cap s) (a : Option Addr) (c : Nat) (l : Str) (hP : PB w a c l) (hl : s.length + l.length ≤ 50000000) (hne : 0 < l.length → ∀ p : Addr, a = some p → p.block ≠ g) (hl2 : l.length ≤ 20000000) :
    Calls Try.prog 21 #[.slice (some ⟨g, 0, none⟩) s.length cap, .slice a l.length c] w (PostAp w g (s ++ ended l)) := by
  obtain ⟨v1, w1, hr1, hA1⟩ := app_mk w g cap s l a c hm hP (by omega)
  have hA1' := hA1
  obtain ⟨g1, cap1, rfl, hm1, hg1, hgr⟩ := hA1
  have hP1 : PB w1 a c l := hP.grown' hne hgr
  obtain ⟨n, HN⟩ : ∃ n, Hid (s.length = n) := ⟨_, rfl⟩
  obtain ⟨m, HM⟩ : ∃ n, Hid (l.length = n) := ⟨_, rfl⟩
  obtain ⟨k, HK⟩ : ∃ n, Hid ((s ++ l).length = n) := ⟨_, rfl⟩
  rw [HN.out, HM.out, HK.out] at hr1
  by_cases h0 : l = []
  · have hm0 : m = 0 := by rw [← HM.out, h0]; rfl
    have HF : Hid (PostAp w g (s ++ ended l) (.returned (.slice (some ⟨g1, 0, none⟩) k cap1)) w1) := hid (by
      rw [← HK.out, show ended l = l by rw [h0]; rfl]
      exact ⟨_, rfl, hA1'⟩)
    rw [HN.out, HM.out]
    subst hm0
    clear hA1' hm1 hg1 hgr hP1 hP hm h0
    go_enter Try.func21, Try.ntmps21
    go_wp2_with (at_builtin; refine wpList_app rfl _ _ _ _ rfl _ rfl _ _ rfl rfl hr1 ?_)
    go_ret
    exact HF.out
  · have hE := ended_eq h0
    have hm0 : 0 < m := by rw [← HM.out]; exact List.length_pos_iff.2 h0
    have hm0i : (0 : Int) < (m : Int) := by omega
    obtain ⟨w2, HW2⟩ : ∃ w2, Hid (w1.alloc (.cells #[.int .u8 10] 5 (1, 2)) = w2) := ⟨_, rfl⟩
    have hb2 : Below w1.heap.size w1 w2 := by rw [← HW2.out]; exact (Below.refl _ w1).alloc (Nat.le_refl _) _
    have hr2 : (convert 22 22 (.slice (some ⟨w1.heap.size, 0, none⟩) 1 1)).run Try.prog (w1.alloc (.cells #[.int .u8 10] 5)) = .ok (.slice (some ⟨w1.heap.size, 0, none⟩) 1 1) w2 := by
      rw [← HW2.out]
      exact Lib.run_convert_bytes_const w1 22 5 #[.int .u8 10] 1 1 Try.underlying22 Try.underlying5
    have C27 : Hid (Calls Try.prog 27 #[.slice a m c, .slice (some ⟨w1.heap.size, 0, none⟩) 1 1] w2 fun e w' => e = .returned (.bool (l.drop (l.length - 1) == [10])) ∧ w' = w2) := hid (by
      rw [← HM.out]
      exact suffix_any a c l (hP1.below hb2) h0 _ 1 (by rw [← HW2.out]; exact pb_ten w1 _) hl2)
    have hgr2 : w1.grownBy w2 (some g1) := grown_of_below hb2 _
    have hA2 : Apd w w2 g (.slice (some ⟨g1, 0, none⟩) (s ++ l).length cap1) (s ++ l) := hA1'.trans ⟨g1, cap1, rfl, hm1.below hb2, .inl rfl, hgr2⟩
    by_cases hq : (l.drop (l.length - 1) == [10]) = true
    · rw [hq] at C27
      have HF : Hid (PostAp w g (s ++ ended l) (.returned (.slice (some ⟨g1, 0, none⟩) k cap1)) w2) := hid (by
        rw [hE, if_pos hq, ← HK.out]
        exact ⟨_, rfl, hA2⟩)
      rw [HN.out, HM.out]
      clear hA1' hm1 hg1 hgr hP1 hP hm h0 hE hq hgr2 hb2 hA2
      go_enter Try.func21, Try.ntmps21
      go_wp2_with (first | (go_at_call 27; refine C27.out.mono ?_; rintro e w3 ⟨rfl, rfl⟩) | (at_builtin; refine wpList_app rfl _ _ _ _ rfl _ rfl _ _ rfl rfl hr1 ?_))
      go_ret
      exact HF.out
    · have hq' : (l.drop (l.length - 1) == [10]) = false := by simpa using hq
      rw [hq'] at C27
      obtain ⟨w3, HW3⟩ : ∃ w3, Hid (w2.alloc (.cells #[.int .u8 10] 5) = w3) := ⟨_, rfl⟩
      have hb3 : Below w2.heap.size w2 w3 := by rw [← HW3.out]; exact (Below.refl _ w2).alloc (Nat.le_refl _) _
      have hm3 : Mk w3 g1 cap1 (s ++ l) := (hm1.below hb2).below hb3
      obtain ⟨v4, w4, hr4, hA4⟩ := app_mk w3 g1 cap1 (s ++ l) [10] (some ⟨w2.heap.size, 0, none⟩) 1 hm3 (by rw [← HW3.out]; exact pb_ten w2 _) (by rw [List.length_append]; simp; omega)
      have hA3 : Apd w w3 g (.slice (some ⟨g1, 0, none⟩) (s ++ l).length cap1) (s ++ l) := hA2.trans ⟨g1, cap1, rfl, hm3, .inl rfl, grown_of_below hb3 _⟩
      have HF : Hid (PostAp w g (s ++ ended l) (.returned v4) w4) := hid (by
        rw [hE, if_neg hq, ← List.append_assoc]
        exact ⟨_, rfl, hA3.trans hA4⟩)
      rw [HK.out] at hr4
      have hr4' : (Builtin.append_ #[22, 22] 22 #[.slice (some ⟨g1, 0, none⟩) k cap1, .slice (some ⟨w2.heap.size, 0, none⟩) 1 1]).run Try.prog (w2.alloc (.cells #[.int .u8 10] 5)) = .ok v4 w4 := by rw [HW3.out]; exact hr4
      rw [HN.out, HM.out]
      clear hA1' hm1 hg1 hgr hP1 hP hm h0 hE hq hq' hgr2 hb2 hA2 hA3 hA4 hm3 hb3 hr4
      go_enter Try.func21, Try.ntmps21
      go_wp2_with (at_builtin; refine wpList_app rfl _ _ _ _ rfl _ rfl _ _ rfl rfl hr1 ?_)
      refine C27.out.mono ?_
      rintro e w5 ⟨rfl, rfl⟩
      clear hr1
      go_wp2_with (at_builtin; refine wpList_app rfl _ _ _ _ rfl _ rfl _ _ rfl rfl hr4' ?_)
      go_ret
      exact HF.out
/-- What 'showBoth' leaves. -/
def PostB (s : Str) (w : World) (e : Ending) (w' : World) : Prop := ∃ a cap, e = .returned (.slice a s.length cap) ∧ PB w' a cap s ∧ Below w.heap.size w w' ∧ ∀ p : Addr, a = some p → w.heap.size ≤ p.block
set_option maxRecDepth 20000 in
theorem showBoth_any {w : World} (a0 : Option Addr) (c0 n0 : Nat) (a1 : Option Addr) (c1 : Nat) (x : Str) (h1 : PB w a1 c1 x) (a2 : Option Addr) (c2 : Nat) (y : Str) (h2 : PB w a2 c2 y) (a b : Str) (hx : x.length ≤ 10000000) (hy : y.length ≤ 10000000) (ha : a.length ≤ 3000) (hb : b.length ≤ 3000) :
    Calls Try.prog 14 #[.agg #[.slice a0 n0 c0, .slice a1 x.length c1, .slice a2 y.length c2], sV a, sV b] w (PostB (cfl a b x y) w) := by
  obtain ⟨n1, HN1⟩ : ∃ n, Hid (x.length = n) := ⟨_, rfl⟩
  obtain ⟨n2, HN2⟩ : ∃ n, Hid (y.length = n) := ⟨_, rfl⟩
  obtain ⟨g, HG⟩ : ∃ g, Hid (w.heap.size = g) := ⟨_, rfl⟩
  obtain ⟨w1, HW1⟩ : ∃ u, Hid (w.alloc (.cells #[.slice a0 n0 c0, .slice a1 n1 c1, .slice a2 n2 c2] 31) = u) := ⟨_, rfl⟩
  have hB1 : Below g w w1 := by rw [← HW1.out, ← HG.out]; exact (Below.refl _ w).alloc (Nat.le_refl _) _
  have hs1 : g < w1.heap.size := by rw [← HW1.out, ← HG.out]; simp
  have k1 : w1.cell? ⟨g, 1, none⟩ = some (.slice a1 n1 c1) := by rw [← HW1.out, ← HG.out]; exact cell_of_row _ _ 1 _ 31 (0, 0) (heap_alloc_new w _)
  have k2 : w1.cell? ⟨g, 2, none⟩ = some (.slice a2 n2 c2) := by rw [← HW1.out, ← HG.out]; exact cell_of_row _ _ 2 _ 31 (0, 0) (heap_alloc_new w _)
  -- the first line
  obtain ⟨l1, HL1⟩ : ∃ z, Hid (([60, 60, 60, 60, 60, 60, 60, 32] : Str) ++ a = z) := ⟨_, rfl⟩
  obtain ⟨l2, HL2⟩ : ∃ z, Hid (l1 ++ ([10] : Str) = z) := ⟨_, rfl⟩
  have e1 : (⟨#[60, 60, 60, 60, 60, 60, 60, 32]⟩ : ByteArray) ++ ⟨a.toArray⟩ = ⟨l1.toArray⟩ := by rw [← HL1.out]; exact str_app [60, 60, 60, 60, 60, 60, 60, 32] a
  have e2 : (⟨l1.toArray⟩ : ByteArray) ++ ⟨#[10]⟩ = ⟨l2.toArray⟩ := by rw [← HL2.out]; exact str_app l1 [10]
  have t1 : l1.length ≤ 3008 := by rw [← HL1.out, List.length_append, List.length_cons]; simp; omega
  have t2 : l2.length ≤ 3009 := by rw [← HL2.out, List.length_append]; simp; omega
  obtain ⟨cap2, w2, hr2, hm2, hB2⟩ := conv_mk l2 w1
  obtain ⟨G, HGG⟩ : ∃ g, Hid (w1.heap.size = g) := ⟨_, rfl⟩
  have hgG : g < G := by rw [← HGG.out]; exact hs1
  rw [HGG.out] at hr2 hm2 hB2
  have hB02 : Below g w w2 := hB1.trans (hB2.mono (Nat.le_of_lt hgG))
  have p1 : ∀ W, Below g w W → PB W a1 c1 x := fun W hW => h1.below (by rw [HG.out]; exact hW)
  have p2 : ∀ W, Below g w W → PB W a2 c2 y := fun W hW => h2.below (by rw [HG.out]; exact hW)
  have q1 : 0 < x.length → ∀ p : Addr, a1 = some p → p.block < g := fun h0 p hp => by rw [← HG.out]; exact h1.lt h0 p hp
  have q2 : 0 < y.length → ∀ p : Addr, a2 = some p → p.block < g := fun h0 p hp => by rw [← HG.out]; exact h2.lt h0 p hp
  have c1' : w2.cell? ⟨w.heap.size, 1, none⟩ = some (.slice a1 n1 c1) := by rw [HG.out, hB2.cell (p := ⟨g, 1, none⟩) hgG]; exact k1
  have C3 : Hid (Calls Try.prog 21 #[.slice (some ⟨G, 0, none⟩) l2.length cap2, .slice a1 n1 c1] w2 (PostAp w2 G (l2 ++ ended x))) := hid (by
    rw [← HN1.out]
    exact appendLines_any G cap2 l2 hm2 a1 c1 x (p1 w2 hB02) (by omega) (fun h0 p hp => by have := q1 h0 p hp; omega) (by omega))
  have HB02 : Hid (Below g w w2) := hB02
  have HP1 := hid p1
  have HP2 := hid p2
  have HQ2 := hid q2
  have hk2 : w2.cell? ⟨g, 2, none⟩ = some (.slice a2 n2 c2) := by rw [hB2.cell (p := ⟨g, 2, none⟩) hgG]; exact k2
  have HK2 := hid hk2
  have hgs : g < w2.heap.size := Nat.lt_of_lt_of_le hgG (Nat.le_of_lt hm2.lt)
  have HX : Hid (x.length ≤ 10000000) := hx
  have HY : Hid (y.length ≤ 10000000) := hy
  have HGs : Hid (g < w2.heap.size) := hgs
  rw [HN1.out, HN2.out]
  unfold sV
  clear h1 h2 hB1 hB2 hm2 p1 p2 q1 q2 k1 k2 hB02 hk2 hgs hx hy
  have hal : w.alloc (.cells #[.slice a0 n0 c0, .slice a1 n1 c1, .slice a2 n2 c2] 31) = w1 := HW1.out
  have HLW : Hid (∀ W, w2.grownBy W (some G) → Below g w W) := fun W hW => HB02.out.grown hW (by have := HB02.out.size; have := HG.out; omega) (fun k hk => by cases hk; omega)
  obtain ⟨s3, HS3⟩ : ∃ z, Hid (l2 ++ ended x = z) := ⟨_, rfl⟩
  have u3 : s3.length ≤ 10003010 := by rw [← HS3.out, List.length_append]; have := ended_len x; have := HX.out; omega
  rw [HS3.out] at C3
  obtain ⟨s4, HS4⟩ : ∃ z, Hid (s3 ++ ([61, 61, 61, 61, 61, 61, 61, 10] : Str) = z) := ⟨_, rfl⟩
  have u4 : s4.length ≤ 10003018 := by rw [← HS4.out, List.length_append]; simp; omega
  obtain ⟨s5, HS5⟩ : ∃ z, Hid (s4 ++ ended y = z) := ⟨_, rfl⟩
  have u5 : s5.length ≤ 20003019 := by rw [← HS5.out, List.length_append]; have := ended_len y; have := HY.out; omega
  obtain ⟨r1, HR1⟩ : ∃ z, Hid (([62, 62, 62, 62, 62, 62, 62, 32] : Str) ++ b = z) := ⟨_, rfl⟩
  obtain ⟨r2, HR2⟩ : ∃ z, Hid (r1 ++ ([10] : Str) = z) := ⟨_, rfl⟩
  have f1 : (⟨#[62, 62, 62, 62, 62, 62, 62, 32]⟩ : ByteArray) ++ ⟨b.toArray⟩ = ⟨r1.toArray⟩ := by rw [← HR1.out]; exact str_app [62, 62, 62, 62, 62, 62, 62, 32] b
  have f2 : (⟨r1.toArray⟩ : ByteArray) ++ ⟨#[10]⟩ = ⟨r2.toArray⟩ := by rw [← HR2.out]; exact str_app r1 [10]
  have v1 : r1.length ≤ 3008 := by rw [← HR1.out, List.length_append, List.length_cons]; simp; omega
  have v2 : r2.length ≤ 3009 := by rw [← HR2.out, List.length_append]; simp; omega
  have v3 : 0 < r2.length := by rw [← HR2.out, List.length_append]; simp
  have HFIN : Hid (s5 ++ r2 = cfl a b x y) := hid (by
    rw [← HS5.out, ← HS4.out, ← HS3.out, ← HL2.out, ← HL1.out, ← HR2.out, ← HR1.out]
    unfold cfl
    simp only [List.append_assoc])
  go_enter Try.func14, Try.ntmps14
  go_wp2_with fail
  refine C3.out.mono ?_
  rintro e w3 ⟨v, rfl, hA3⟩
  have HA3 : Hid (Apd w2 w3 G v s3) := hA3
  obtain ⟨g3, cap3, rfl, hm3, hg3, hgr3⟩ := hA3
  obtain ⟨v4, w4, hr4, hA4⟩ := app_mks w3 g3 cap3 s3 [61, 61, 61, 61, 61, 61, 61, 10] hm3 (by simp) (by simp; omega)
  rw [HS4.out] at hA4
  have HA4 : Hid (Apd w2 w4 G v4 s4) := hid (HA3.out.trans hA4)
  have hA4' := HA4.out
  clear hm3 hg3 hgr3 hA4
  obtain ⟨g4, cap4, rfl, hm4, hg4, hgr4⟩ := hA4'
  have c2' : w4.cell? ⟨w.heap.size, 2, none⟩ = some (.slice a2 n2 c2) := by
    rw [HG.out, World.cell?_of_block (a := ⟨g, 2, none⟩) (hgr4.block g HGs.out (fun e => by cases e; omega))]
    exact HK2.out
  have C5 : Hid (Calls Try.prog 21 #[.slice (some ⟨g4, 0, none⟩) s4.length cap4, .slice a2 n2 c2] w4 (PostAp w4 g4 s5)) := hid (by
    rw [← HN2.out, ← HS5.out]
    exact appendLines_any g4 cap4 s4 hm4 a2 c2 y (HP2.out w4 (HLW.out w4 hgr4)) (by have := HY.out; omega) (fun h0 p hp => by have := HQ2.out h0 p hp; have := HGs.out; omega) (by have := HY.out; omega))
  clear hm4 hg4 hgr4
  go_wp2_with (at_builtin; refine wpList_app rfl _ _ _ _ rfl _ rfl _ _ rfl rfl hr4 ?_)
  refine C5.out.mono ?_
  rintro e w5 ⟨v, rfl, hA5⟩
  have HA5 : Hid (Apd w2 w5 G v s5) := hid (HA4.out.trans hA5)
  have hA5' := HA5.out
  clear hA5 hr4 c2'
  obtain ⟨g5, cap5, rfl, hm5, hg5, hgr5⟩ := hA5'
  obtain ⟨v6, w6, hr6, hA6⟩ := app_mks w5 g5 cap5 s5 r2 hm5 v3 (by omega)
  have HA6 : Hid (Apd w2 w6 G v6 (cfl a b x y)) := hid (by rw [← HFIN.out]; exact HA5.out.trans hA6)
  clear hm5 hg5 hgr5 hA6
  go_wp2_with (at_builtin; refine wpList_app rfl _ _ _ _ rfl _ rfl _ _ rfl rfl hr6 ?_)
  go_ret
  obtain ⟨g7, cap7, e7, hm7, hg7, hgr7⟩ := HA6.out
  exact ⟨_, cap7, by rw [← e7]; rfl, hm7.pb, by rw [HG.out]; exact HLW.out w6 hgr7, fun p hp => by
    cases hp
    show w.heap.size ≤ g7
    have := HGs.out
    have := HG.out
    omega⟩
end Go.Proofs.Ytakddciegnkpdaa
