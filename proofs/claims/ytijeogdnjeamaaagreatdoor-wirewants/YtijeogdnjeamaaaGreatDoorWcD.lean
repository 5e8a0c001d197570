/- Rows of one's own that are grown, one by one. -/
import Derived.Test.YtijeogdnjeamaaaGreatDoorWcC
namespace Go.Proofs.YtijeogdnjeamaaaGreatDoor
open Go.RowKit
set_option linter.unusedVariables false
set_option linter.unusedSimpArgs false
theorem own_mk {w : World} {B : Nat} {v : Value} {s : Str} (h : w.ownsRow B 5 1 v s.length (bv s)) : (v = .slice none 0 0 ∧ s = []) ∨ ∃ g cap, v = .slice (some ⟨g, 0, none⟩) s.length cap ∧ B ≤ g ∧ Mk w g cap s := by
  obtain ⟨hl, ⟨hv, e0⟩ | ⟨g, cap, cur, hv, hb, hh, hkc, hcm, hsz, htk⟩⟩ := h
  · exact .inl ⟨hv, List.length_eq_zero_iff.1 e0⟩
  · refine .inr ⟨g, cap, hv, hb, ⟨lt_of_some hh, hkc, fun j u hj => ?_, fun i h1 h2 => ⟨?_, ?_⟩⟩⟩
    · rw [cell_of_row w g j _ _ _ hh]
      rw [← htk] at hj
      have hlt := (List.getElem?_eq_some_iff.1 hj).1
      rw [List.length_take] at hlt
      rw [List.getElem?_take_of_lt (by omega)] at hj
      simpa using hj
    · rw [cell_of_row w g i _ _ _ hh, Array.getElem?_eq_getElem (by omega)]
      rfl
    · exact frozen_of_row w g i _ _ hh
/-- Bytes put behind a row: what stood there stands. -/
theorem app_keep (w : World) (g cap : Nat) (s l : Str) (b off c : Nat) (hm : Mk w g cap s) (hS : PB w (some ⟨b, off, none⟩) c l) (h0 : 0 < l.length) (hl : s.length + l.length ≤ 100000000) :
    ∃ a' c' w', (Builtin.append_ #[25, 25] 25 #[.slice (some ⟨g, 0, none⟩) s.length cap, .slice (some ⟨b, off, none⟩) l.length c]).run Tryz.prog w = .ok (.slice a' (s.length + l.length) c') w' ∧ w.grownBy w' (some g) ∧ ∀ q, q < s.length → w'.cell? ⟨g, q, none⟩ = w.cell? ⟨g, q, none⟩ := by
  obtain ⟨i5, hi, hz0, hz1, hz2⟩ := info_parts Tryz.info5
  by_cases hroom : s.length + l.length ≤ cap
  · have hr := run_append_room_cells (P := Tryz.prog) w 25 25 5 i5 Tryz.underlying25 hi g 0 s.length cap ⟨b, off, none⟩ l.length c (bv l) (by rw [hz1, bv_len]; simp) (PB.at hS) (bv_one l) hroom
      (fun j hj => by
        rw [hz1, Nat.zero_add, Nat.mul_one]
        rw [bv_len] at hj
        exact (hm.spare (s.length + j) (by omega) (by omega)).1)
      (fun j hj => by
        rw [hz1, Nat.zero_add, Nat.mul_one]
        rw [bv_len] at hj
        exact (hm.spare (s.length + j) (by omega) (by omega)).2)
    rw [hz1, Nat.zero_add, Nat.mul_one] at hr
    refine ⟨_, _, _, hr, grown_cells w g _ _, fun q hq => ?_⟩
    have h1 := (mk_room hm l hroom).at_
    have hq' : q < (bv s).length := by rw [bv_len]; exact hq
    obtain ⟨u, hb⟩ : ∃ u, (bv s)[q]? = some u := ⟨_, List.getElem?_eq_getElem hq'⟩
    have e1 := hm.at_ q u hb
    have e2 := h1 q u (by rw [bv_app, List.getElem?_append_left hq']; exact hb)
    rw [e2, e1]
  · obtain ⟨v', w', hr, hown, hg⟩ := run_append_arg_grows (P := Tryz.prog) w 25 25 5 i5 (.int .u8 0) 1 1 Tryz.underlying25 hi hz0 hz1 hz2 rfl (by omega) ⟨g, 0, none⟩ s.length cap (bv s) (by rw [bv_len]; simp)
      (fun j u hj => by rw [addr_add, Nat.zero_add]; exact hm.at_ j u hj)
      ⟨b, off, none⟩ l.length c (bv l) (by rw [bv_len]; simp) (PB.at hS) (by omega) (by unfold maxLen; omega) (by omega)
    obtain ⟨a', c', rfl⟩ := owns_shape hown
    refine ⟨a', c', w', hr, ⟨hg.os, hg.tape, hg.output, hg.size, fun k hk _ => hg.block k hk (by simp)⟩, fun q hq => ?_⟩
    exact World.cell?_of_block (a := ⟨g, q, none⟩) (hg.block g hm.lt (by simp))
/-- While the rows are grown: those not yet grown are as they were, the others' bytes too. -/
structure P3 (B : Nat) (w3 W : World) (hs : List Value) (ls : List Str) (i : Nat) : Prop where
  bl : Below B w3 W
  le : B ≤ w3.heap.size
  size : w3.heap.size ≤ W.heap.size
  blk : ∀ k, k < w3.heap.size → (∀ j, j < i → j < ls.length → (hs.getD j undef).ownBlock ≠ some k) → W.heap[k]? = w3.heap[k]?
  pre : ∀ j, j < ls.length → ∀ k, (hs.getD j undef).ownBlock = some k → ∀ q, q < (ls.getD j []).length → W.cell? ⟨k, q, none⟩ = w3.cell? ⟨k, q, none⟩
theorem P3.drew {B : Nat} {w3 W : World} {hs : List Value} {ls : List Str} {i : Nat} (h : P3 B w3 W hs ls i) : P3 B w3 W.drew hs ls i :=
  ⟨Below.drewR h.bl, h.le, h.size, h.blk, h.pre⟩
theorem P3.step {w w3 W : World} {B : Nat} {v : Value} {hs : List Value} {ls : List Str} {i : Nat} (h : P3 B w3 W hs ls i) (hL : LL w w3 B v hs ls) (hi : i < ls.length) (hok : (ls.getD i []).length ≤ 1000) {b off c : Nat} {l : Str} (hP : PB W (some ⟨b, off, none⟩) c l) (h0 : 0 < l.length) (hl : l.length ≤ 1000) :
    ∃ a' c' W', (Builtin.append_ #[25, 25] 25 #[hs.getD i undef, .slice (some ⟨b, off, none⟩) l.length c]).run Tryz.prog W = .ok (.slice a' ((ls.getD i []).length + l.length) c') W' ∧ P3 B w3 W' hs ls (i + 1) ∧ W.grownBy W' (hs.getD i undef).ownBlock := by
  have own3 := hL.each i hi
  have hfin : ∀ {W' : World}, W.grownBy W' (hs.getD i undef).ownBlock → (∀ k, (hs.getD i undef).ownBlock = some k → ∀ q, q < (ls.getD i []).length → W'.cell? ⟨k, q, none⟩ = W.cell? ⟨k, q, none⟩) → P3 B w3 W' hs ls (i + 1) := by
    intro W' hg hpre
    have hBW : B ≤ W.heap.size := Nat.le_trans h.le h.size
    refine ⟨h.bl.grown hg hBW (fun k hk => (own_lt own3 k hk).1), h.le, Nat.le_trans h.size hg.size, fun k hk hne => ?_, fun j hj k hk q hq => ?_⟩
    · rw [hg.block k (Nat.lt_of_lt_of_le hk h.size) (fun e => hne i (by omega) hi e.symm)]
      exact h.blk k hk (fun j hj => hne j (by omega))
    · by_cases hji : j = i
      · subst hji
        rw [hpre k hk q hq]
        exact h.pre j hj k hk q hq
      · have hne : (hs.getD i undef).ownBlock ≠ some k := fun e => by
          rcases Nat.lt_or_gt_of_ne hji with h1 | h1
          · exact hL.dist j i h1 hi k hk e
          · exact hL.dist i j h1 hj k e hk
        have hkl := (own_lt (hL.each j hj) k hk).2
        rw [World.cell?_of_block (a := ⟨k, q, none⟩) (hg.block k (Nat.lt_of_lt_of_le hkl h.size) (fun e => hne e.symm))]
        exact h.pre j hj k hk q hq
  rcases own_mk own3 with ⟨hv, hs0⟩ | ⟨g, cap, hv, hBg, hm⟩
  · obtain ⟨i5, hi5, hz0, hz1, hz2⟩ := info_parts Tryz.info5
    have hown : W.ownsRow W.heap.size 5 1 (.slice none 0 0) 0 [] := ⟨rfl, .inl ⟨rfl, rfl⟩⟩
    obtain ⟨v', W', hr, h1, h2, _⟩ := run_append_own_at (P := Tryz.prog) W W.heap.size 25 25 5 i5 _ 1 1 Tryz.underlying25 hi5 hz0 hz1 hz2 rfl (by decide) _ _ _ hown ⟨b, off, none⟩ l.length c (bv l) (by rw [bv_len, Nat.mul_one]) (PB.at hP) (bv_one l) (by unfold maxLen; omega) (by omega) (Nat.le_refl _)
    obtain ⟨a', c', rfl⟩ := owns_shape h1
    refine ⟨a', c', W', ?_, hfin ?_ ?_, ?_⟩
    · rw [hv, hs0]; exact hr
    · rw [hv]; exact h2
    · rw [hv]; intro k hk; cases hk
    · rw [hv]; exact h2
  · have hob : (hs.getD i undef).ownBlock = some g := by rw [hv]; rfl
    have he : W.heap[g]? = w3.heap[g]? := h.blk g hm.lt (fun j hj hjl e => hL.dist j i hj hi g e hob)
    have hmW : Mk W g cap (ls.getD i []) := hm.kept h.size he
    obtain ⟨a', c', W', hr, hg, hpre⟩ := app_keep W g cap (ls.getD i []) l b off c hmW hP h0 (by omega)
    refine ⟨a', c', W', ?_, hfin ?_ ?_, ?_⟩
    · rw [hv]; exact hr
    · rw [hob]; exact hg
    · intro k hk q hq
      rw [hob] at hk
      cases hk
      exact hpre q hq
    · rw [hob]; exact hg
/-- Rows that may be read. -/
structure AP (g : Nat) (hs : List Value) (ls : List Str) (W : World) : Prop where
  lt : g < W.heap.size
  row : ∀ i, i < ls.length → W.cell? ⟨g, i, none⟩ = some (hs.getD i undef)
  each : ∀ i, i < ls.length → ∃ a c, hs.getD i undef = .slice a (ls.getD i []).length c ∧ PB W a c (ls.getD i [])
theorem AP.below {g : Nat} {hs : List Value} {ls : List Str} {W W' : World} (h : AP g hs ls W) (hb : Below W.heap.size W W') : AP g hs ls W' :=
  ⟨Nat.lt_of_lt_of_le h.lt hb.size, fun i hi => (hb.cell (p := ⟨g, i, none⟩) h.lt).trans (h.row i hi), fun i hi => by
    obtain ⟨a, c, h1, h2⟩ := h.each i hi
    exact ⟨a, c, h1, h2.below hb⟩⟩
theorem ll_row {w W : World} {B : Nat} {v : Value} {hs : List Value} {ls : List Str} (h : LL w W B v hs ls) : ∃ a cap, v = .slice a ls.length cap ∧ (0 < ls.length → ∃ g, a = some ⟨g, 0, none⟩ ∧ v.ownBlock = some g ∧ B ≤ g ∧ g < W.heap.size ∧ ∀ i, i < ls.length → W.cell? ⟨g, i, none⟩ = some (hs.getD i undef)) := by
  have hr := h.row
  rw [h.len] at hr
  obtain ⟨hl, ⟨hv, h0⟩ | ⟨g, cap, cur, hv, hb, hh, hkc, hcm, hsz, htk⟩⟩ := hr
  · exact ⟨none, 0, by rw [hv, h0], fun h => by omega⟩
  · refine ⟨_, cap, hv, fun h1 => ⟨g, rfl, by rw [hv]; rfl, hb, lt_of_some hh, fun i hi => ?_⟩⟩
    rw [cell_of_row W g i _ _ _ hh]
    have hj : hs[i]? = some (hs.getD i undef) := by
      rw [List.getD_eq_getElem?_getD, List.getElem?_eq_getElem (by rw [h.len]; exact hi)]; rfl
    rw [← htk] at hj
    rw [List.getElem?_take_of_lt (by omega)] at hj
    rw [← htk]
    simpa using hj
theorem ap_mv {w w3 W : World} {B : Nat} {v : Value} {hs : List Value} {ls : List Str} (h : LL w w3 B v hs ls) (hsz : w3.heap.size ≤ W.heap.size) (g : Nat) (hg : v.ownBlock = some g) (h0 : 0 < ls.length) (hrow : W.heap[g]? = w3.heap[g]?) (hc : ∀ j, j < ls.length → ∀ k, (hs.getD j undef).ownBlock = some k → ∀ q, q < (ls.getD j []).length → W.cell? ⟨k, q, none⟩ = w3.cell? ⟨k, q, none⟩) : AP g hs ls W := by
  obtain ⟨a, cap, hv, hr⟩ := ll_row h
  obtain ⟨g', ha, hob, hBg, hlt, hcell⟩ := hr h0
  rw [hob] at hg
  cases hg
  refine ⟨Nat.lt_of_lt_of_le hlt hsz, fun i hi => ?_, fun i hi => ?_⟩
  · rw [World.cell?_of_block (a := ⟨g, i, none⟩) hrow]
    exact hcell i hi
  · rcases own_mk (h.each i hi) with ⟨hv, hs0⟩ | ⟨g, cap, hv, hBg, hm⟩
    · exact ⟨none, 0, by rw [hv, hs0]; rfl, by rw [hs0]; exact pb_none W⟩
    · refine ⟨some ⟨g, 0, none⟩, cap, hv, hm.capl, fun hp => ⟨g, 0, rfl, Nat.lt_of_lt_of_le hm.lt hsz, fun q hq j u hu => ?_⟩, fun e => by cases e⟩
      have hj : j = 0 := by
        have := (List.getElem?_eq_some_iff.1 hu).1
        simp [encB] at this
        exact this
      subst hj
      have h1 := hm.pb
      have h2 := h1.cell q hq
      have h3 := hc i hi g (by rw [hv]; rfl) q hq
      simp [encB] at hu
      rw [show 0 + q * 1 + 0 = q by omega, h3, ← hu]
      rw [Nat.zero_add] at h2
      simpa using h2
/-- Sixty-four bytes. -/
theorem own_pad {W : World} {P : Nat} (h : Own W P 64) (hlt : P < W.heap.size) : ∃ pad : Str, pad.length = 64 ∧ PB W (some ⟨P, 0, none⟩) 64 pad := by
  have key : ∀ n, n ≤ 64 → ∃ pad : Str, pad.length = n ∧ ∀ i, i < n → W.cell? ⟨P, i, none⟩ = some (.int .u8 ((pad.getD i 0).toNat : Int)) := by
    intro n
    induction n with
    | zero => intro _; exact ⟨[], rfl, fun i hi => by omega⟩
    | succ n ih =>
      intro hn
      obtain ⟨pad, hp, hc⟩ := ih (by omega)
      obtain ⟨v, h1, h2, h3⟩ := h n (by omega)
      refine ⟨pad ++ [UInt8.ofNat v.toNat], by rw [List.length_append, hp]; rfl, fun i hi => ?_⟩
      by_cases e : i < n
      · rw [List.getD_eq_getElem?_getD, List.getElem?_append_left (by omega), ← List.getD_eq_getElem?_getD]
        exact hc i e
      · obtain rfl : i = n := by omega
        rw [List.getD_eq_getElem?_getD, List.getElem?_append_right (by omega), hp, Nat.sub_self, h3]
        have : (UInt8.ofNat v.toNat).toNat = v.toNat := by simp; omega
        simp only [List.getElem?_cons_zero, Option.getD_some, this]
        congr 2
        omega
  obtain ⟨pad, hp, hc⟩ := key 64 (Nat.le_refl _)
  refine ⟨pad, hp, by omega, fun _ => ⟨P, 0, rfl, hlt, fun i hi j u hu => ?_⟩, fun e => by cases e⟩
  have hj : j = 0 := by
    have := (List.getElem?_eq_some_iff.1 hu).1
    simp [encB] at this
    exact this
  subst hj
  simp [encB] at hu
  rw [show 0 + i * 1 + 0 = i by omega, hc i (by omega), ← hu]
  simp
theorem exec_app {o : Oper} {a : Act} {w w' : World} {v : Value} (s x : Operand) (ho : o.op = .call { callee := .builtin .append, args := #[s, x], argTypes := #[25, 25] }) (hty : o.type = 25) (vs vx : Value) (hs : a.eval s = vs) (hx : a.eval x = vx) (hr : (Builtin.append_ #[25, 25] 25 #[vs, vx]).run Tryz.prog w = .ok v w') : (execOp a.eval o).run Tryz.prog w = .ok (.value v) w' := by
  unfold execOp
  simp only [ho, hty, resolve, invoke, builtin, Sem.run_bind, Sem.run_pure, Result.andThen_ok, List.map_toArray, List.map_cons, List.map_nil, hs, hx, hr]
/-- Elsewhere something was changed. -/
theorem LL.rebase {w W W' : World} {B K : Nat} {v : Value} {hs : List Value} {ls : List Str} (h : LL w W B v hs ls) (hg : W.grownBy W' (some K)) (hK : K < B) : LL W' W' B v hs ls :=
  ⟨Below.refl _ _, Nat.le_trans h.le hg.size, h.row.kept hg (by
    cases hv : v.ownBlock with
    | none => exact .inl rfl
    | some k => exact .inr (fun e => by cases e; have := (own_lt h.row _ hv).1; omega)), h.len, fun i hi => (h.each i hi).kept hg (by
    cases hv : (hs.getD i undef).ownBlock with
    | none => exact .inl rfl
    | some k => exact .inr (fun e => by cases e; have := (own_lt (h.each i hi) _ hv).1; omega)), h.dist⟩
end Go.Proofs.YtijeogdnjeamaaaGreatDoor
