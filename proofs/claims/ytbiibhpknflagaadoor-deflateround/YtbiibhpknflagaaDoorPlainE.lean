/- THE DOCUMENT'S SEARCH FINDS WHAT THE PROGRAM'S COUNTS FIND. -/
import Derived.Test.YtbiibhpknflagaaDoorPlainD
import Derived.Test.YtbiibhpknflagaaDoorRefA
namespace Go.Proofs.YtbiibhpknflagaaDoor
open Go.RowKit Plain
set_option linter.unusedVariables false

theorem find_yes (C : RCode) (hb : C.bts = bitsL C.lens) (n y : Nat) (h1 : 1 ≤ n) (hlo : 2 * nxt C.lens (n - 1) ≤ y) (hhi : y - 2 * nxt C.lens (n - 1) < C.lens.count n) :
    ∃ i, i < C.lens.length ∧ C.lens.getD i 0 = n ∧ rank C.lens n i = y - 2 * nxt C.lens (n - 1) ∧ (List.range C.lens.length).find? (hit C n y) = some i := by
  obtain ⟨i, hi, he, hr⟩ := nth_of n C.lens _ hhi
  refine ⟨i, hi, he, hr, find_hit (fun j hj => ?_) hi ?_⟩
  · by_cases hn : C.lens.getD j 0 = n
    · have hlt := rank_lt C.lens n hj (by omega) hn
      have hbit : C.bts.getD j 0 = bitOf C.lens j := by rw [hb]; exact bitsL_get _ _ (by omega) (by omega)
      unfold hit
      rw [hbit, hn]
      unfold bitOf
      rw [hn]
      simp only [beq_self_eq_true, Bool.true_and, beq_eq_false_iff_ne]
      omega
    · unfold hit
      have : (C.lens.getD j 0 == n) = false := by simpa using hn
      rw [this]; rfl
  · have hbit : C.bts.getD i 0 = bitOf C.lens i := by rw [hb]; exact bitsL_get _ _ (by omega) (by omega)
    unfold hit
    rw [hbit, he]
    unfold bitOf
    rw [he, hr]
    simp only [beq_self_eq_true, Bool.true_and, beq_iff_eq]
    omega
theorem find_no (C : RCode) (hb : C.bts = bitsL C.lens) (n y : Nat) (h1 : 1 ≤ n) (hhi : ¬ y - 2 * nxt C.lens (n - 1) < C.lens.count n) :
    (List.range C.lens.length).find? (hit C n y) = none := by
  refine find_miss fun j hj => ?_
  by_cases hn : C.lens.getD j 0 = n
  · have hlt := rank_count C.lens n j hj hn
    have hbit : C.bts.getD j 0 = bitOf C.lens j := by rw [hb]; exact bitsL_get _ _ (by omega) (by omega)
    unfold hit
    rw [hbit, hn]
    unfold bitOf
    rw [hn]
    simp only [beq_self_eq_true, Bool.true_and, beq_eq_false_iff_ne]
    omega
  · unfold hit
    have : (C.lens.getD j 0 == n) = false := by simpa using hn
    rw [this]; rfl
theorem dec_sym (zs : List Int) (C : RCode) (hb : C.bts = bitsL C.lens) (h15 : ∀ i, C.lens.getD i 0 ≤ 15) : ∀ k p u, k ≤ 15 → nxt C.lens (15 - k) ≤ u → p ≤ 8 * zs.length →
    (∀ y p1, decGo (cntOf C.lens) (srtOf C.lens) zs k (16 - k) u (nxt C.lens (15 - k)) (below (cntOf C.lens) (16 - k)) p = some (y, p1) → symGo zs C k p u = ((y : Int), p1, 0)) ∧
    (decGo (cntOf C.lens) (srtOf C.lens) zs k (16 - k) u (nxt C.lens (15 - k)) (below (cntOf C.lens) (16 - k)) p = none → ∃ p', p' ≤ 8 * zs.length ∧ symGo zs C k p u = (-1, p', 10))
  | 0, p, u, _, _, hp => ⟨fun y p1 h => by simp [decGo] at h, fun _ => ⟨p, hp, rfl⟩⟩
  | k + 1, p, u, hk, hu, hp => by
    obtain ⟨n, hn⟩ : ∃ n, n = 15 - k := ⟨_, rfl⟩
    have e1 : 16 - (k + 1) = n := by omega
    have e2 : 15 - (k + 1) = n - 1 := by omega
    rw [e2] at hu
    rw [e1, e2, decGo, symGo, ← hn]
    by_cases hl : 8 * zs.length < p + 1
    · rw [if_pos hl, if_pos hl]
      exact ⟨fun y p1 h => by simp at h, fun _ => ⟨_, Nat.le_refl _, rfl⟩⟩
    · rw [if_neg hl, if_neg hl]
      obtain ⟨y, hy⟩ : ∃ y, y = 2 * u + getB zs p 1 := ⟨_, rfl⟩
      have hc := cntOf_count C.lens n (by omega) (by omega)
      rw [← hy, hc]
      have hlo : 2 * nxt C.lens (n - 1) ≤ y := by omega
      by_cases hh : y - 2 * nxt C.lens (n - 1) < C.lens.count n
      · rw [if_pos hh]
        obtain ⟨i, hi, he, hr, hf⟩ := find_yes C hb n y (by omega) hlo hh
        have hs := srt_at C.lens h15 i hi (by omega)
        rw [he, hr] at hs
        rw [hs, hf]
        refine ⟨fun y' p1 h => ?_, fun h => by simp at h⟩
        simp only [Option.some.injEq, Prod.mk.injEq] at h
        obtain ⟨rfl, rfl⟩ := h
        rfl
      · rw [if_neg hh, find_no C hb n y (by omega) hh]
        have hnx : nxt C.lens n = 2 * nxt C.lens (n - 1) + C.lens.count n := by
          obtain ⟨m, rfl⟩ : ∃ m, n = m + 1 := ⟨n - 1, by omega⟩
          rw [nxt]; rfl
        have hbl := below_succ (cntOf C.lens) n (by omega)
        rw [hc] at hbl
        have ih := dec_sym zs C hb h15 k (p + 1) y (by omega) (by rw [← hn, hnx]; omega) (by omega)
        rw [show 16 - k = n + 1 by omega, ← hn, hnx, hbl] at ih
        exact ih
theorem symGo_dec (zs : List Int) (C : RCode) (hb : C.bts = bitsL C.lens) (h15 : ∀ i, C.lens.getD i 0 ≤ 15) (p : Nat) (hp : p ≤ 8 * zs.length) :
    (∀ y p1, dec (cntOf C.lens) (srtOf C.lens) zs p = some (y, p1) → symGo zs C 15 p 0 = ((y : Int), p1, 0)) ∧
    (dec (cntOf C.lens) (srtOf C.lens) zs p = none → ∃ p', p' ≤ 8 * zs.length ∧ symGo zs C 15 p 0 = (-1, p', 10)) :=
  dec_sym zs C hb h15 15 p 0 (Nat.le_refl _) (Nat.le_refl _) hp
end Go.Proofs.YtbiibhpknflagaaDoor
/- The document's own reader: the next symbol, as the program's counts have it. -/
namespace Go.Proofs.YtbiibhpknflagaaDoor
open Go.RowKit Plain
set_option linter.unusedVariables false
set_option linter.unusedSimpArgs false

theorem symbol_dec (E : REnv) (p : Nat) (far : Int) (v : Value) (C : RCode) (w : World) (hz : IsB E.zs) (hl : E.zs.length ≤ 400000) (hp : p ≤ 8 * E.zs.length) (h : RS w E p v far 0) (hC : RC w E.S C) (hb : C.bts = bitsL C.lens) (h15 : ∀ i, C.lens.getD i 0 ≤ 15) :
    Calls Tryd.prog 67 #[.pointer (some ⟨E.S, 0, none⟩), .agg #[.slice C.ax C.lens.length C.cx, .slice C.ay C.lens.length C.cy]] w fun ev w' => Kept E.S (.bool true) (.bool true) w w' ∧
      match dec (cntOf C.lens) (srtOf C.lens) E.zs p with
      | some (y, p1) => ev = .returned (.int .i64 (y : Nat)) ∧ RS w' E p1 v far 0
      | none => ev = .returned (.int .i64 (-1)) ∧ ∃ p', p' ≤ 8 * E.zs.length ∧ RS w' E p' v far 10 := by
  refine (symbol_any E p far v C w hz hl hp h hC).mono ?_
  rintro ev w' ⟨rfl, h1, h2⟩
  obtain ⟨g1, g2⟩ := symGo_dec E.zs C hb h15 p hp
  refine ⟨h2, ?_⟩
  cases hd : dec (cntOf C.lens) (srtOf C.lens) E.zs p with
  | none =>
    obtain ⟨p', hp', e⟩ := g2 hd
    rw [e] at h1 ⊢
    exact ⟨rfl, p', hp', h1⟩
  | some yp =>
    obtain ⟨y, p1⟩ := yp
    have e := g1 y p1 hd
    rw [e] at h1 ⊢
    exact ⟨rfl, h1⟩
theorem bitsOf_err (zs : List Int) (p n : Nat) (er : Int) (he : er ≠ 0) : (bitsOf zs p n er).2.2 = er := by
  unfold bitsOf first
  split
  · rfl
  · simp [he]
set_option maxRecDepth 20000 in
set_option maxHeartbeats 1000000 in
/-- 'symbol' where something has gone wrong already. -/
theorem symbol_err (E : REnv) (p : Nat) (far er : Int) (v : Value) (C : RCode) (w : World) (hz : IsB E.zs) (hl : E.zs.length ≤ 400000) (hp : p ≤ 8 * E.zs.length) (h : RS w E p v far er) (he : er ≠ 0) :
    Calls Tryd.prog 67 #[.pointer (some ⟨E.S, 0, none⟩), .agg #[.slice C.ax C.lens.length C.cx, .slice C.ay C.lens.length C.cy]] w fun ev w' => ev = .returned (.int .i64 (-1)) ∧ ∃ p', p' ≤ 8 * E.zs.length ∧ RS w' E p' v far er ∧ Kept E.S (.bool true) (.bool true) w w' := by
  have HH : Hid (RS w E p v far er) := h
  clear h
  go_enter Tryd.func67, Tryd.ntmps67
  go_wp2_with fail
  have HA : Hid (RS (w.alloc (.cells #[.slice C.ax C.lens.length C.cx, .slice C.ay C.lens.length C.cy] 72)) E p v far er) := rs_alloc HH.out _
  have HKA : Hid (Kept E.S (.bool true) (.bool true) w (w.alloc (.cells #[.slice C.ax C.lens.length C.cx, .slice C.ay C.lens.length C.cy] 72))) := (Kept.refl _ _ _).alloc _
  generalize w.alloc (.cells #[.slice C.ax C.lens.length C.cx, .slice C.ay C.lens.length C.cy] 72) = wa at HA HKA ⊢
  obtain ⟨hs, HS⟩ : ∃ hs, Hid (hs = w.heap.size) := ⟨_, rfl⟩
  rw [← HS.out]
  go_loopg [5, 6] 16 (fun k s n wr => s = .int .i64 0 ∧ n = .int .i64 1 ∧ wr = wa)
  case atStart => exact ⟨rfl, rfl, rfl⟩
  case round =>
    obtain ⟨rfl, rfl, rfl⟩ := hrel
    have B1 := bits_any E p 1 v far er wr hz hl (by omega) HA.out hp
    have hle := bitsOf_le E.zs p 1 er
    have hlt := bitsOf_lt E.zs p 1 er
    rw [bitsOf_err E.zs p 1 er he] at B1
    obtain ⟨x, HX⟩ : ∃ x, Hid (x = (bitsOf E.zs p 1 er).1) := ⟨_, rfl⟩
    obtain ⟨p', HP⟩ : ∃ p', Hid (p' = (bitsOf E.zs p 1 er).2.1) := ⟨_, rfl⟩
    rw [← HX.out] at hlt B1
    rw [← HP.out] at hle B1
    go_wp2_with (go_at_call 37; refine B1.mono ?_; clear B1; rintro ev w1 ⟨rfl, hR1, hK1⟩; have d5 := hR1.c5; have HR1 : Hid _ := hR1; have HK1 : Hid _ := hK1; clear hR1 hK1)
    go_ret
    exact ⟨rfl, p', hle, HR1.out, HKA.out.trans HK1.out⟩
structure RCA (w : World) (E : REnv) (v : Value) (C : RCode) : Prop where
  rc : RC w E.S C
  g1 : some C.gl ≠ v.ownBlock
  g2 : some C.gb ≠ v.ownBlock
theorem RCA.kept {w w' : World} {E : REnv} {v v' : Value} {C : RCode} (h : RCA w E v C) (k : Kept E.S v v' w w') : RCA w' E v' C :=
  ⟨⟨fun i hi => (k.cell (p := ⟨C.gl, C.ol + i, none⟩) h.rc.lw h.rc.lS h.g1).trans (h.rc.ls i hi), fun i hi => (k.cell (p := ⟨C.gb, i, none⟩) h.rc.bw h.rc.bS h.g2).trans (h.rc.bs i hi), h.rc.ax, h.rc.ay, h.rc.lS, h.rc.bS, Nat.lt_of_lt_of_le h.rc.lw k.size, Nat.lt_of_lt_of_le h.rc.bw k.size, h.rc.len⟩, k.off h.rc.lw h.g1, k.off h.rc.bw h.g2⟩
/-- A box with a code in it. -/
structure Box (w : World) (E : REnv) (v : Value) (h : Nat) (C : RCode) : Prop where
  c : w.heap[h]? = some (.cells #[.slice C.ax C.lens.length C.cx, .slice C.ay C.lens.length C.cy] 72)
  l : h < w.heap.size
  s : h ≠ E.S
  g : some h ≠ v.ownBlock
theorem Box.kept {w w' : World} {E : REnv} {v v' : Value} {h : Nat} {C : RCode} (b : Box w E v h C) (k : Kept E.S v v' w w') : Box w' E v' h C :=
  ⟨(k.block h b.l b.s b.g).trans b.c, Nat.lt_of_lt_of_le b.l k.size, b.s, k.off b.l b.g⟩
/-- The most that counts: none below 0. -/
theorem putOf_max (most : Int) (s : Int × List Int) (b : Int) : putOf most s b = putOf (max most 0) s b := by
  unfold putOf
  have : ((s.2.length : Int) < most) ↔ ((s.2.length : Int) < max most 0) := by omega
  simp only [this]
theorem rep_snoc (d : Nat) : ∀ (n : Nat) (out : List Int), rep out d (n + 1) = rep out d n ++ [(rep out d n).getD ((rep out d n).length - d) 0]
  | 0, out => rfl
  | n + 1, out => by rw [rep, rep_snoc d n]; rfl
/-- So many bytes more, as the reader puts them out. -/
def repS (most : Int) (d : Nat) (out : List Int) : Nat → Int × List Int
  | 0 => (0, out)
  | n + 1 => if (repS most d out n).1 = 0 then putOf most (repS most d out n) ((repS most d out n).2.getD ((repS most d out n).2.length - d) 0) else repS most d out n
theorem repS_eq (most : Int) (d : Nat) (out : List Int) (h : (out.length : Int) ≤ most) : ∀ n : Nat, ((out.length + n : Nat) : Int) ≤ most ∧ repS most d out n = (0, rep out d n) ∨ most < ((out.length + n : Nat) : Int) ∧ (repS most d out n).1 = 11
  | 0 => .inl ⟨by omega, rfl⟩
  | n + 1 => by
    rcases repS_eq most d out h n with ⟨h1, h2⟩ | ⟨h1, h2⟩
    · rw [repS, h2, if_pos rfl]
      unfold putOf
      simp only [ne_eq, not_true_eq_false, if_false]
      rw [rep_len]
      by_cases c : ((out.length + n : Nat) : Int) < most
      · rw [if_pos c]
        exact .inl ⟨by omega, by rw [rep_snoc, rep_len]⟩
      · rw [if_neg c]
        exact .inr ⟨by omega, rfl⟩
    · rw [repS, if_neg (by rw [h2]; omega)]
      exact .inr ⟨by omega, h2⟩
theorem repS_len (most : Int) (d : Nat) (out : List Int) (hm : most ≤ 400000) (ho : out.length ≤ 400000) : ∀ n, (repS most d out n).2.length ≤ 400000
  | 0 => ho
  | n + 1 => by
    rw [repS]
    split
    · exact putOf_len _ _ _ hm (repS_len most d out hm ho n)
    · exact repS_len most d out hm ho n
/-- What the reader's functions leave. -/
def PostR (E : REnv) (B : Nat) (far : Int) (v : Value) (w : World) (r : Res) (w' : World) : Prop :=
  match r with
  | .ok (p, out) => p ≤ 8 * E.zs.length ∧ (out.length : Int) ≤ max E.most 0 ∧ ∃ v', OutS w' E p B far 0 v' out ∧ Kept E.S v v' w w'
  | .error k => k ≠ 0 ∧ ∃ p' v' out', p' ≤ 8 * E.zs.length ∧ OutS w' E p' B far k v' out' ∧ Kept E.S v v' w w'
end Go.Proofs.YtbiibhpknflagaaDoor
