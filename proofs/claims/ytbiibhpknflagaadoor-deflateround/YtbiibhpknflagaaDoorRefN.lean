/- The document's own reader: a block's symbols. -/
import Derived.Test.YtbiibhpknflagaaDoorPlainE
import Derived.Test.YtbiibhpknflagaaDoorRefL
namespace Go.Proofs.YtbiibhpknflagaaDoor
open Go.RowKit Plain
set_option linter.unusedVariables false
set_option linter.unusedSimpArgs false

/-- What 'symbols' keeps from round to round. -/
structure SI (w wr : World) (E : REnv) (B : Nat) (far : Int) (v0 v : Value) (p : Nat) (er : Int) (out : List Int) (L D : RCode) (b4 b5 : Nat) : Prop where
  o : OutS wr E p B far er v out
  k : Kept E.S v0 v w wr
  l : RCA wr E v L
  d : RCA wr E v D
  bl : Box wr E v b4 L
  bd : Box wr E v b5 D
  pp : p ≤ 8 * E.zs.length
theorem SI.step {w wr w1 : World} {E : REnv} {B : Nat} {far : Int} {v0 v : Value} {p p' : Nat} {er er' : Int} {out : List Int} {L D : RCode} {b4 b5 : Nat} (h : SI w wr E B far v0 v p er out L D b4 b5) (k : Kept E.S (.bool true) (.bool true) wr w1) (r : RS w1 E p' v far er') (hp : p' ≤ 8 * E.zs.length) : SI w w1 E B far v0 v p' er' out L D b4 b5 :=
  ⟨h.o.kept k r, h.k.trans (k.weak v), h.l.kept (k.weak v), h.d.kept (k.weak v), h.bl.kept (k.weak v), h.bd.kept (k.weak v), hp⟩
theorem SI.put {w wr w1 : World} {E : REnv} {B : Nat} {far : Int} {v0 v v' : Value} {p : Nat} {er er' : Int} {out out' : List Int} {L D : RCode} {b4 b5 : Nat} (h : SI w wr E B far v0 v p er out L D b4 b5) (k : Kept E.S v v' wr w1) (r : OutS w1 E p B far er' v' out') : SI w w1 E B far v0 v' p er' out' L D b4 b5 :=
  ⟨r, h.k.trans k, h.l.kept k, h.d.kept k, h.bl.kept k, h.bd.kept k, h.pp⟩
theorem SI.err {w wr : World} {E : REnv} {B : Nat} {far : Int} {v0 v : Value} {p : Nat} {er : Int} {out : List Int} {L D : RCode} {b4 b5 : Nat} (h : SI w wr E B far v0 v p er out L D b4 b5) (he : er ≠ 0) {R : Res} (hR : R = .error er) : PostR E B far v0 w R wr := by
  rw [hR]; exact ⟨he, p, v, out, h.pp, h.o, h.k⟩
theorem SI.ok {w wr : World} {E : REnv} {B : Nat} {far : Int} {v0 v : Value} {p : Nat} {out : List Int} {L D : RCode} {b4 b5 : Nat} (h : SI w wr E B far v0 v p 0 out L D b4 b5) (ho : (out.length : Int) ≤ max E.most 0) {R : Res} (hR : R = .ok (p, out)) : PostR E B far v0 w R wr := by
  rw [hR]; exact ⟨h.pp, ho, v, h.o, h.k⟩
theorem SI.start {w : World} {E : REnv} {B : Nat} {far : Int} {v : Value} {p : Nat} {out : List Int} {L D : RCode} (h : OutS w E p B far 0 v out) (hL : RCA w E v L) (hD : RCA w E v D) (hp : p ≤ 8 * E.zs.length) :
    SI w ((w.alloc (.cells #[.slice L.ax L.lens.length L.cx, .slice L.ay L.lens.length L.cy] 72)).alloc (.cells #[.slice D.ax D.lens.length D.cx, .slice D.ay D.lens.length D.cy] 72)) E B far v v p 0 out L D w.heap.size (w.heap.size + 1) := by
  have k : Kept E.S (.bool true) (.bool true) w ((w.alloc (.cells #[.slice L.ax L.lens.length L.cx, .slice L.ay L.lens.length L.cy] 72)).alloc (.cells #[.slice D.ax D.lens.length D.cx, .slice D.ay D.lens.length D.cy] 72)) := ((Kept.refl _ _ _).alloc _).alloc _
  have hS := h.rs.Sl
  have hv : ∀ g, w.heap.size ≤ g → some g ≠ v.ownBlock := fun g hg e => by have := (h.owns.lt g e.symm).2; omega
  refine ⟨h.kept k (rs_alloc (rs_alloc h.rs _) _), k.weak v, hL.kept (k.weak v), hD.kept (k.weak v), ⟨heap_alloc2_old w _ _, by simp; omega, by omega, hv _ (Nat.le_refl _)⟩, ⟨heap_alloc2_new w _ _, by simp, by omega, hv _ (by omega)⟩, hp⟩

theorem SI.drew {w wr : World} {E : REnv} {B : Nat} {far : Int} {v0 v : Value} {p : Nat} {er : Int} {out : List Int} {L D : RCode} {b4 b5 : Nat} (h : SI w wr E B far v0 v p er out L D b4 b5) : SI w wr.drew E B far v0 v p er out L D b4 b5 :=
  ⟨⟨⟨h.o.rs.c0, h.o.rs.c1, h.o.rs.c2, h.o.rs.c3, h.o.rs.c4, h.o.rs.c5, h.o.rs.fz, h.o.rs.src, h.o.rs.some, h.o.rs.ibS, h.o.rs.ibv, h.o.rs.ibl, h.o.rs.Sl, h.o.rs.Sv⟩, h.o.row, h.o.owns, h.o.hB⟩, h.k.drew, ⟨⟨h.l.rc.ls, h.l.rc.bs, h.l.rc.ax, h.l.rc.ay, h.l.rc.lS, h.l.rc.bS, h.l.rc.lw, h.l.rc.bw, h.l.rc.len⟩, h.l.g1, h.l.g2⟩, ⟨⟨h.d.rc.ls, h.d.rc.bs, h.d.rc.ax, h.d.rc.ay, h.d.rc.lS, h.d.rc.bS, h.d.rc.lw, h.d.rc.bw, h.d.rc.len⟩, h.d.g1, h.d.g2⟩, ⟨h.bl.c, h.bl.l, h.bl.s, h.bl.g⟩, ⟨h.bd.c, h.bd.l, h.bd.s, h.bd.g⟩, h.pp⟩
theorem repS_max (most : Int) (d : Nat) (out : List Int) : ∀ n, repS most d out n = repS (max most 0) d out n
  | 0 => rfl
  | n + 1 => by rw [repS, repS, repS_max most d out n, putOf_max]
theorem putOf_ge (most : Int) (s : Int × List Int) (b : Int) : s.2.length ≤ (putOf most s b).2.length := by
  unfold putOf
  split
  · exact Nat.le_refl _
  · split
    · simp
    · exact Nat.le_refl _
theorem repS_ge (most : Int) (d : Nat) (out : List Int) : ∀ n, out.length ≤ (repS most d out n).2.length
  | 0 => Nat.le_refl _
  | n + 1 => by
    rw [repS]
    split
    · exact Nat.le_trans (repS_ge most d out n) (putOf_ge _ _ _)
    · exact repS_ge most d out n
theorem len_tab : ∀ i, i < 29 → lenStart.getD i 0 ≤ 258 ∧ lenBits.getD i 0 ≤ 5 := by decide +kernel
theorem dist_tab : ∀ i, i < 30 → 1 ≤ distStart.getD i 0 ∧ distStart.getD i 0 ≤ 24577 ∧ distBits.getD i 0 ≤ 13 := by decide +kernel
set_option maxRecDepth 20000 in
set_option maxHeartbeats 4000000 in
theorem symbols_any (E : REnv) (p B : Nat) (far : Int) (v : Value) (out : List Int) (L D : RCode) (w : World) (hz : IsB E.zs) (hl : E.zs.length ≤ 400000) (hp : p ≤ 8 * E.zs.length) (hm : E.most ≤ 400000) (hf1 : 0 ≤ far) (hf2 : far ≤ 40000) (h : OutS w E p B far 0 v out) (ho : (out.length : Int) ≤ max E.most 0) (hL : RCA w E v L) (hD : RCA w E v D)
    (bL : L.bts = bitsL L.lens) (bD : D.bts = bitsL D.lens) (l15 : ∀ i, L.lens.getD i 0 ≤ 15) (d15 : ∀ i, D.lens.getD i 0 ≤ 15) :
    Calls Tryd.prog 41 #[.pointer (some ⟨E.S, 0, none⟩), .agg #[.slice L.ax L.lens.length L.cx, .slice L.ay L.lens.length L.cy], .agg #[.slice D.ax D.lens.length D.cx, .slice D.ay D.lens.length D.cy]] w
      fun ev w' => ev = .returned (.tuple #[]) ∧ PostR E B far v w (syms (dec (cntOf L.lens) (srtOf L.lens) E.zs) (dec (cntOf D.lens) (srtOf D.lens) E.zs) E.zs (max E.most 0) far p out) w' := by
  have HS0 : Hid _ := SI.start h hL hD hp
  obtain ⟨R, HR0⟩ : ∃ R, Hid (R = syms (dec (cntOf L.lens) (srtOf L.lens) E.zs) (dec (cntOf D.lens) (srtOf D.lens) E.zs) E.zs (max E.most 0) far p out) := ⟨_, rfl⟩
  rw [← HR0.out]
  obtain ⟨v0, HV0⟩ : ∃ v0, Hid (v0 = v) := ⟨_, rfl⟩
  have HS1 : Hid (SI w ((w.alloc (.cells #[.slice L.ax L.lens.length L.cx, .slice L.ay L.lens.length L.cy] 72)).alloc (.cells #[.slice D.ax D.lens.length D.cx, .slice D.ay D.lens.length D.cy] 72)) E B far v0 v p 0 out L D w.heap.size (w.heap.size + 1)) := by rw [HV0.out]; exact HS0.out
  rw [← HV0.out]
  clear h hL hD HS0
  go_enter Tryd.func41, Tryd.ntmps41
  go_wp2_with fail
  obtain ⟨b4, HB4⟩ : ∃ b4, Hid (b4 = w.heap.size) := ⟨_, rfl⟩
  have e5 : w.heap.size + 1 = b4 + 1 := by rw [HB4.out]
  rw [e5, ← HB4.out] at HS1 ⊢
  generalize (w.alloc (.cells #[.slice L.ax L.lens.length L.cx, .slice L.ay L.lens.length L.cy] 72)).alloc (.cells #[.slice D.ax D.lens.length D.cx, .slice D.ay D.lens.length D.cy] 72) = wa at HS1 ⊢
  clear e5
  go_loopg [] (8 * E.zs.length + 1 - p) (fun k wr => ∃ (p : Nat) (er : Int) (v : Value) (out : List Int), k = (if er = 0 then 8 * E.zs.length + 1 - p else 0) ∧ Hid (SI w wr E B far v0 v p er out L D b4 (b4 + 1)) ∧ Hid (er = 0 ∧ (out.length : Int) ≤ max E.most 0 ∧ R = syms (dec (cntOf L.lens) (srtOf L.lens) E.zs) (dec (cntOf D.lens) (srtOf D.lens) E.zs) E.zs (max E.most 0) far p out ∨ er ≠ 0 ∧ R = .error er))
  case atStart => exact ⟨p, 0, v, out, by simp, HS1.out, .inl ⟨rfl, ho, HR0.out⟩⟩
  case round =>
    clear HS1 HV0 HR0 ho hp
    obtain ⟨p, er, v, out, hk, HS, HC⟩ := hrel
    rcases HC.out with ⟨he, ho, hR⟩ | ⟨he, hR⟩
    · subst he
      rw [if_pos rfl] at hk
      clear HC
      rw [syms_eq] at hR
      unfold symsStep at hR
      have c5 := HS.out.o.rs.c5
      have x0 := cell_of (cs := [.slice L.ax L.lens.length L.cx, .slice L.ay L.lens.length L.cy]) (i := 0) HS.out.bl.c rfl
      have x1 := cell_of (cs := [.slice L.ax L.lens.length L.cx, .slice L.ay L.lens.length L.cy]) (i := 1) HS.out.bl.c rfl
      have S1 := symbol_dec E p far v L wr hz hl HS.out.pp HS.out.o.rs HS.out.l.rc bL l15
      cases hd : dec (cntOf L.lens) (srtOf L.lens) E.zs p with
      | none =>
        rw [hd] at S1 hR
        simp only [] at S1 hR
        have HR : Hid _ := hR
        clear hR hd
        go_wp2_with (go_at_call 67; refine S1.mono ?_; clear S1; rintro ev w1 ⟨hK1, rfl, p', hp', hR1⟩; have d5 := hR1.c5; have HS1 : Hid _ := HS.out.step hK1 hR1 hp'; clear hK1 hR1)
        exact bodyPost_ret (results_none (by rfl) _ _ _) rfl ⟨rfl, HS1.out.err (by omega) HR.out⟩
      | some yp =>
        obtain ⟨y, p1⟩ := yp
        have hlt := dec_lt hd
        rw [hd] at S1 hR
        simp only [] at S1 hR
        rw [if_pos hlt] at hR
        clear hd
        by_cases hy1 : y < 256
        · rw [if_pos hy1] at hR
          have HR : Hid _ := hR
          have hy2 : ¬ ((y : Int) = 256) := by omega
          have hy8 : (y : Int) < 256 := by omega
          have hlen : out.length ≤ 400000 := by omega
          obtain ⟨s, HSS⟩ : ∃ s, Hid (s = putOf E.most (0, out) (y : Int)) := ⟨_, rfl⟩
          clear hR
          go_wp2_with (first | (go_at_call 67; refine S1.mono ?_; clear S1; rintro ev w1 ⟨hK1, rfl, hR1⟩; have d5 := hR1.c5; have HS1 : Hid _ := HS.out.step hK1 hR1 hlt.2; clear hK1 hR1) | (go_at_call 65; refine (put_any E p1 B far 0 v (y : Int) out _ HS1.out.o hlen).mono ?_; rintro ev w2 ⟨rfl, v2, hO2, hK2⟩; have HS2 : Hid _ := HS1.out.put hK2 hO2; clear hK2 hO2))
          rw [← HSS.out] at HS2
          go_roundg (if s.1 = 0 then 8 * E.zs.length + 1 - p1 else 0)
          case measure => split <;> omega
          case rel =>
            refine ⟨p1, s.1, v2, s.2, rfl, HS2.out, ?_⟩
            have e := HSS.out
            rw [putOf_max] at e
            unfold putOf at e
            simp only [ne_eq, not_true_eq_false, if_false] at e
            by_cases c : (out.length : Int) < max E.most 0
            · rw [if_pos c] at e
              subst e
              refine .inl ⟨rfl, by simp; omega, HR.out.trans (if_neg (by omega))⟩
            · rw [if_neg c] at e
              subst e
              exact .inr ⟨by simp, HR.out.trans (if_pos (by omega))⟩
        · rw [if_neg hy1] at hR
          by_cases hy2 : y = 256
          · rw [if_pos hy2] at hR
            have HR : Hid _ := hR
            subst hy2
            clear hR
            go_wp2_with (go_at_call 67; refine S1.mono ?_; clear S1; rintro ev w1 ⟨hK1, rfl, hR1⟩; have d5 := hR1.c5; have HS1 : Hid _ := HS.out.step hK1 hR1 hlt.2; clear hK1 hR1)
            exact bodyPost_ret (results_none (by rfl) _ _ _) rfl ⟨rfl, HS1.out.ok ho HR.out⟩
          · rw [if_neg hy2] at hR
            have hy3 : ¬ ((y : Int) = 256) := by omega
            have hy4 : ¬ ((y : Int) < 256) := by omega
            by_cases hy5 : 29 ≤ y - 257
            · rw [if_pos hy5] at hR
              have HR : Hid _ := hR
              have hy6 : (285 : Int) < y := by omega
              clear hR
              go_wp2_with (first | (go_at_call 67; refine S1.mono ?_; clear S1; rintro ev w1 ⟨hK1, rfl, hR1⟩; have d5 := hR1.c5; have HS1 : Hid _ := HS.out.step hK1 hR1 hlt.2; clear hK1 hR1) | (go_at_call 38; refine (fail_any E p1 v far 0 10 _ HS1.out.o.rs).mono ?_; rintro ev w2 ⟨rfl, hR2, hK2⟩; have HS2 : Hid _ := HS1.out.step hK2 hR2 hlt.2; clear hK2 hR2))
              exact bodyPost_ret (results_none (by rfl) _ _ _) rfl ⟨rfl, HS2.out.err (by unfold first; omega) HR.out⟩
            · rw [if_neg hy5] at hR
              have hy6 : ¬ (285 : Int) < y := by omega
              obtain ⟨n, HN⟩ : ∃ n, Hid (n = y - 257) := ⟨_, rfl⟩
              rw [← HN.out] at hR hy5
              have hyn : 257 + n = y := by rw [HN.out]; omega
              obtain ⟨hls, hlb⟩ := len_tab n (by omega)
              obtain ⟨ls, HLS⟩ : ∃ ls, Hid (ls = lenStart.getD n 0) := ⟨_, rfl⟩
              obtain ⟨lb, HLB⟩ : ∃ lb, Hid (lb = lenBits.getD n 0) := ⟨_, rfl⟩
              have P1 := fun w1 => span_length n (by omega) w1
              rw [hyn] at P1
              rw [← HLS.out] at hls hR P1
              rw [← HLB.out] at hlb hR P1
              clear hyn
              by_cases hb1 : 8 * E.zs.length < p1 + lb
              · rw [if_pos hb1] at hR
                have HR : Hid _ := hR
                clear hR
                go_wp2_with (first | (go_at_call 67; refine S1.mono ?_; clear S1; rintro ev w1 ⟨hK1, rfl, hR1⟩; have d5 := hR1.c5; have HS1 : Hid _ := HS.out.step hK1 hR1 hlt.2; clear hK1 hR1) | (go_at_call 68; refine (P1 _).mono ?_; rintro ev w2 ⟨rfl, rfl⟩) | (go_at_call 37; refine (bits_bad E p1 lb v far 0 _ hz hl (by omega) HS1.out.o.rs hlt.2 hb1).mono ?_; rintro ev w3 ⟨rfl, hR3, hK3⟩; have HS3 : Hid _ := HS1.out.step hK3 hR3 (Nat.le_refl _); have y0 := cell_of (cs := [.slice D.ax D.lens.length D.cx, .slice D.ay D.lens.length D.cy]) (i := 0) HS3.out.bd.c rfl; have y1 := cell_of (cs := [.slice D.ax D.lens.length D.cx, .slice D.ay D.lens.length D.cy]) (i := 1) HS3.out.bd.c rfl; clear hK3 hR3) | (go_at_call 67; refine (symbol_err E (8 * E.zs.length) far (first 0 10) v D _ hz hl (Nat.le_refl _) HS3.out.o.rs (by unfold first; omega)).mono ?_; rintro ev w4 ⟨rfl, p4, hp4, hR4, hK4⟩; have z5 : w4.cell? ⟨E.S, 5, none⟩ = some (.int .i64 10) := hR4.c5; have HS4 : Hid _ := HS3.out.step hK4 hR4 hp4; clear hK4 hR4) | (go_at_call 38; refine (fail_any E p4 v far (first 0 10) 10 _ HS4.out.o.rs).mono ?_; rintro ev w5 ⟨rfl, hR5, hK5⟩; have HS5 : Hid _ := HS4.out.step hK5 hR5 hp4; clear hK5 hR5))
                exact bodyPost_ret (results_none (by rfl) _ _ _) rfl ⟨rfl, HS5.out.err (by unfold first; simp) HR.out⟩
              · rw [if_neg hb1] at hR
                obtain ⟨x, HX⟩ : ∃ x, Hid (x = getB E.zs p1 lb) := ⟨_, rfl⟩
                have hx : x ≤ 32 := by
                  have h1 := getB_lt E.zs p1 lb
                  have h2 : 2 ^ lb ≤ 32 := Nat.pow_le_pow_right (n := 2) (by omega) hlb
                  rw [HX.out]; omega
                have B1 := fun w1 h => bits_ok E p1 lb v far 0 w1 hz hl (by omega) h (by omega)
                rw [← HX.out] at B1 hR
                obtain ⟨ln, HLN⟩ : ∃ ln, Hid (ln = ls + x) := ⟨_, rfl⟩
                rw [← HLN.out] at hR
                have hln : (ls : Int) + (x : Int) = (ln : Int) := by rw [HLN.out]; omega
                have hln2 : ln ≤ 300 := by rw [HLN.out]; omega
                obtain ⟨p2, HP2⟩ : ∃ p2, Hid (p2 = p1 + lb) := ⟨_, rfl⟩
                have hp2 : p2 ≤ 8 * E.zs.length := by rw [HP2.out]; omega
                have hp12 : p1 ≤ p2 := by rw [HP2.out]; omega
                rw [← HP2.out] at B1 hR
                go_wp2_with (first | (go_at_call 67; refine S1.mono ?_; clear S1; rintro ev w1 ⟨hK1, rfl, hR1⟩; have d5 := hR1.c5; have HS1 : Hid _ := HS.out.step hK1 hR1 hlt.2; clear hK1 hR1) | (go_at_call 68; refine (P1 _).mono ?_; clear P1; rintro ev w2 ⟨rfl, rfl⟩) | (go_at_call 37; refine (B1 _ HS1.out.o.rs).mono ?_; clear B1; rintro ev w3 ⟨rfl, hR3, hK3⟩; have HS3 : Hid _ := HS1.out.step hK3 hR3 hp2; have y0 := cell_of (cs := [.slice D.ax D.lens.length D.cx, .slice D.ay D.lens.length D.cy]) (i := 0) HS3.out.bd.c rfl; have y1 := cell_of (cs := [.slice D.ax D.lens.length D.cx, .slice D.ay D.lens.length D.cy]) (i := 1) HS3.out.bd.c rfl; clear hK3 hR3))
                have S2 := symbol_dec E p2 far v D w3 hz hl hp2 HS3.out.o.rs HS3.out.d.rc bD d15
                clear c5 x0 x1 d5 HS HS1 y0 y1
                try simp only [hln]
                cases hd : dec (cntOf D.lens) (srtOf D.lens) E.zs p2 with
                | none =>
                  rw [hd] at S2 hR
                  simp only [] at S2 hR
                  have HR : Hid _ := hR
                  clear hR hd
                  go_wp2_with (first | (go_at_call 67; refine S2.mono ?_; clear S2; rintro ev w4 ⟨hK4, rfl, p4, hp4, hR4⟩; have z5 := hR4.c5; have HS4 : Hid _ := HS3.out.step hK4 hR4 hp4; clear hK4 hR4) | (go_at_call 38; refine (fail_any E p4 v far 10 10 _ HS4.out.o.rs).mono ?_; rintro ev w5 ⟨rfl, hR5, hK5⟩; have HS5 : Hid _ := HS4.out.step hK5 hR5 hp4; clear hK5 hR5))
                  exact bodyPost_ret (results_none (by rfl) _ _ _) rfl ⟨rfl, HS5.out.err (by unfold first; simp) HR.out⟩
                | some dp =>
                  obtain ⟨d, p3⟩ := dp
                  have hlt3 := dec_lt hd
                  rw [hd] at S2 hR
                  simp only [] at S2 hR
                  rw [if_pos hlt3] at hR
                  clear hd
                  by_cases hd1 : 30 ≤ d
                  · rw [if_pos hd1] at hR
                    have HR : Hid _ := hR
                    have hd2 : (29 : Int) < d := by omega
                    clear hR
                    go_wp2_with (first | (go_at_call 67; refine S2.mono ?_; clear S2; rintro ev w4 ⟨hK4, rfl, hR4⟩; have z5 := hR4.c5; have HS4 : Hid _ := HS3.out.step hK4 hR4 hlt3.2; clear hK4 hR4) | (go_at_call 38; refine (fail_any E p3 v far 0 10 _ HS4.out.o.rs).mono ?_; rintro ev w5 ⟨rfl, hR5, hK5⟩; have HS5 : Hid _ := HS4.out.step hK5 hR5 hlt3.2; clear hK5 hR5))
                    exact bodyPost_ret (results_none (by rfl) _ _ _) rfl ⟨rfl, HS5.out.err (by unfold first; simp) HR.out⟩
                  · rw [if_neg hd1] at hR
                    have hd2 : ¬ (29 : Int) < d := by omega
                    obtain ⟨hds1, hds, hdb⟩ := dist_tab d (by omega)
                    obtain ⟨ds, HDS⟩ : ∃ ds, Hid (ds = distStart.getD d 0) := ⟨_, rfl⟩
                    obtain ⟨db, HDB⟩ : ∃ db, Hid (db = distBits.getD d 0) := ⟨_, rfl⟩
                    have P2 := fun w1 => span_distance d (by omega) w1
                    rw [← HDS.out] at hds1 hds hR P2
                    rw [← HDB.out] at hdb hR P2
                    by_cases hb3 : 8 * E.zs.length < p3 + db
                    · rw [if_pos hb3] at hR
                      have HR : Hid _ := hR
                      clear hR
                      go_wp2_with (first | (go_at_call 67; refine S2.mono ?_; clear S2; rintro ev w4 ⟨hK4, rfl, hR4⟩; have z5 := hR4.c5; have HS4 : Hid _ := HS3.out.step hK4 hR4 hlt3.2; clear hK4 hR4) | (go_at_call 68; refine (P2 _).mono ?_; rintro ev w5 ⟨rfl, rfl⟩) | (go_at_call 37; refine (bits_bad E p3 db v far 0 _ hz hl (by omega) HS4.out.o.rs hlt3.2 hb3).mono ?_; rintro ev w6 ⟨rfl, hR6, hK6⟩; have z6 : w6.cell? ⟨E.S, 5, none⟩ = some (.int .i64 10) := hR6.c5; have HS6 : Hid _ := HS4.out.step hK6 hR6 (Nat.le_refl _); clear hK6 hR6) | (go_at_call 38; refine (fail_any E (8 * E.zs.length) v far (first 0 10) 10 _ HS6.out.o.rs).mono ?_; rintro ev w7 ⟨rfl, hR7, hK7⟩; have HS7 : Hid _ := HS6.out.step hK7 hR7 (Nat.le_refl _); clear hK7 hR7))
                      exact bodyPost_ret (results_none (by rfl) _ _ _) rfl ⟨rfl, HS7.out.err (by unfold first; simp) HR.out⟩
                    · rw [if_neg hb3] at hR
                      obtain ⟨u, HU⟩ : ∃ u, Hid (u = getB E.zs p3 db) := ⟨_, rfl⟩
                      have hu : u ≤ 8192 := by
                        have h1 := getB_lt E.zs p3 db
                        have h2 : 2 ^ db ≤ 8192 := Nat.pow_le_pow_right (n := 2) (by omega) hdb
                        rw [HU.out]; omega
                      have B2 := fun w1 h => bits_ok E p3 db v far 0 w1 hz hl (by omega) h (by omega)
                      rw [← HU.out] at B2 hR
                      obtain ⟨f, HFF⟩ : ∃ f, Hid (f = ds + u) := ⟨_, rfl⟩
                      rw [← HFF.out] at hR
                      have hfz : (ds : Int) + (u : Int) = (f : Int) := by rw [HFF.out]; omega
                      have hf3 : f ≤ 40000 := by rw [HFF.out]; omega
                      have hf4 : 1 ≤ f := by rw [HFF.out]; omega
                      obtain ⟨p4, HP4⟩ : ∃ p4, Hid (p4 = p3 + db) := ⟨_, rfl⟩
                      have hp4 : p4 ≤ 8 * E.zs.length := by rw [HP4.out]; omega
                      have hp34 : p3 ≤ p4 := by rw [HP4.out]; omega
                      rw [← HP4.out] at B2 hR
                      have hlen : out.length ≤ 400000 := by omega
                      obtain ⟨a, cp, rfl⟩ := HS3.out.o.row
                      by_cases hfa : (out.length : Int) < f
                      · rw [if_pos (.inl (by omega))] at hR
                        have HR : Hid _ := hR
                        clear hR
                        go_wp2_with (first | (go_at_call 67; refine S2.mono ?_; clear S2; rintro ev w4 ⟨hK4, rfl, hR4⟩; have z5 := hR4.c5; have HS4 : Hid _ := HS3.out.step hK4 hR4 hlt3.2; clear hK4 hR4) | (go_at_call 68; refine (P2 _).mono ?_; clear P2; rintro ev w5 ⟨rfl, rfl⟩) | (go_at_call 37; refine (B2 _ HS4.out.o.rs).mono ?_; clear B2; rintro ev w6 ⟨rfl, hR6, hK6⟩; have z6 := hR6.c5; have z2 := hR6.c2; have z4 := hR6.c4; have HS6 : Hid _ := HS4.out.step hK6 hR6 hp4; clear hK6 hR6) | (go_at_call 38; refine (fail_any E p4 _ far 0 10 _ HS6.out.o.rs).mono ?_; rintro ev w7 ⟨rfl, hR7, hK7⟩; have HS7 : Hid _ := HS6.out.step hK7 hR7 hp4; clear hK7 hR7))
                        exact bodyPost_ret (results_none (by rfl) _ _ _) rfl ⟨rfl, HS7.out.err (by unfold first; simp) HR.out⟩
                      · by_cases hfb : far < (f : Int)
                        · rw [if_pos (.inr hfb)] at hR
                          have HR : Hid _ := hR
                          clear hR
                          go_wp2_with (first | (go_at_call 67; refine S2.mono ?_; clear S2; rintro ev w4 ⟨hK4, rfl, hR4⟩; have z5 := hR4.c5; have HS4 : Hid _ := HS3.out.step hK4 hR4 hlt3.2; clear hK4 hR4) | (go_at_call 68; refine (P2 _).mono ?_; clear P2; rintro ev w5 ⟨rfl, rfl⟩) | (go_at_call 37; refine (B2 _ HS4.out.o.rs).mono ?_; clear B2; rintro ev w6 ⟨rfl, hR6, hK6⟩; have z6 := hR6.c5; have z2 := hR6.c2; have z4 := hR6.c4; have HS6 : Hid _ := HS4.out.step hK6 hR6 hp4; clear hK6 hR6) | (go_at_call 38; refine (fail_any E p4 _ far 0 10 _ HS6.out.o.rs).mono ?_; rintro ev w7 ⟨rfl, hR7, hK7⟩; have HS7 : Hid _ := HS6.out.step hK7 hR7 hp4; clear hK7 hR7))
                          exact bodyPost_ret (results_none (by rfl) _ _ _) rfl ⟨rfl, HS7.out.err (by unfold first; simp) HR.out⟩
                        · rw [if_neg (by omega)] at hR
                          have HR : Hid _ := hR
                          clear hR
                          go_wp2_with (first | (go_at_call 67; refine S2.mono ?_; clear S2; rintro ev w4 ⟨hK4, rfl, hR4⟩; have z5 := hR4.c5; have HS4 : Hid _ := HS3.out.step hK4 hR4 hlt3.2; clear hK4 hR4) | (go_at_call 68; refine (P2 _).mono ?_; clear P2; rintro ev w5 ⟨rfl, rfl⟩) | (go_at_call 37; refine (B2 _ HS4.out.o.rs).mono ?_; clear B2; rintro ev w6 ⟨rfl, hR6, hK6⟩; have z6 := hR6.c5; have z2 := hR6.c2; have z4 := hR6.c4; have HS6 : Hid _ := HS4.out.step hK6 hR6 hp4; clear hK6 hR6))
                          have HFA : Hid (f ≤ out.length) := by show _ ≤ _; omega
                          have e1 : decide (out.length < f) = false := decide_eq_false (by omega)
                          have e2 : decide (far < (f : Int)) = false := decide_eq_false (by omega)
                          simp only [e1, e2, Bool.or_false]
                          clear z2 z4 z5 z6 HS4 HS3 e1 e2
                          go_loopg [12] ln (fun k i wq => ∃ (j : Nat) (v' : Value), j ≤ ln ∧ i = .int .i64 j ∧ k = ln - j ∧ Hid (SI w wq E B far v0 v' p4 (repS E.most f out j).1 (repS E.most f out j).2 L D b4 (b4 + 1)))
                          case atStart => exact ⟨0, _, by omega, rfl, by omega, HS6.out⟩
                          case round =>
                            clear HS6
                            obtain ⟨j, v', hj, rfl, hk', HS⟩ := hrel
                            obtain ⟨s, HSS⟩ : ∃ s, Hid (s = repS E.most f out j) := ⟨_, rfl⟩
                            rw [← HSS.out] at HS
                            have c5 := HS.out.o.rs.c5
                            by_cases hjl : j < ln
                            · by_cases hs0 : s.1 = 0
                              · have hge : out.length ≤ s.2.length := by rw [HSS.out]; exact repS_ge _ _ _ _
                                have hle : s.2.length ≤ 400000 := by rw [HSS.out]; exact repS_len _ _ _ hm hlen _
                                obtain ⟨g, cp', hv, hg1, hg2⟩ := HS.out.o.owns.form (by have := HFA.out; omega)
                                subst hv
                                have c2 := HS.out.o.rs.c2
                                obtain ⟨q, HQ⟩ : ∃ q, Hid (q = s.2.length - f) := ⟨_, rfl⟩
                                have hq : (s.2.length : Int) - (f : Int) = (q : Int) := by have := HFA.out; rw [HQ.out]; omega
                                have hql : q < s.2.length := by have := HFA.out; rw [HQ.out]; omega
                                have cq := own_at HS.out.o.owns rfl q hql
                                obtain ⟨b, HBB⟩ : ∃ b, Hid (b = s.2.getD q 0) := ⟨_, rfl⟩
                                rw [← HBB.out] at cq
                                rw [hs0] at c5
                                have HSD := hid' HS.out.drew
                                have hsg : (q : Int) < (s.2.length : Int) := by omega
                                have hqw : IntKind.i64.wrap (q : Int) = (q : Int) := Plain.wrap_small q (by omega)
                                go_wp2_with fail
                                refine wp_region_drew_tail 14 (by kernel_rfl) (by kernel_rfl) ?_
                                iterate 14 (refine wpStill_free rfl (fun K hK => ?_); go_simp; refine hK _ ?_; clear hK K)
                                refine wpStill_nil ?_
                                go_wp2_with (go_at_call 65; refine (put_any E p4 B far s.1 _ b s.2 _ HSD.out.o hle).mono ?_; rintro ev w8 ⟨rfl, v8, hO8, hK8⟩; have HS8 : Hid _ := HSD.out.put hK8 hO8; clear hK8 hO8)
                                go_roundg (ln - (j + 1))
                                case measure => omega
                                case rel =>
                                  refine ⟨j + 1, v8, by omega, by go_num, rfl, ?_⟩
                                  rw [repS, ← HSS.out, if_pos hs0, ← HQ.out, ← HBB.out]
                                  exact HS8
                              · go_wp2
                                go_roundg (ln - (j + 1))
                                case measure => omega
                                case rel =>
                                  refine ⟨j + 1, v', by omega, by go_num, rfl, ?_⟩
                                  rw [repS, ← HSS.out, if_neg hs0]
                                  exact HS
                            · obtain rfl : j = ln := by omega
                              have hrs := repS_eq (max E.most 0) f out ho j
                              rw [← repS_max, ← HSS.out] at hrs
                              have HRS : Hid _ := hrs
                              clear hrs
                              go_wp2
                              go_roundg (if s.1 = 0 then 8 * E.zs.length + 1 - p4 else 0)
                              case measure => split <;> omega
                              case rel =>
                                refine ⟨p4, s.1, v', s.2, rfl, HS.out, ?_⟩
                                rcases HRS.out with ⟨h1, h2⟩ | ⟨h1, h2⟩
                                · rw [h2]
                                  exact .inl ⟨rfl, by rw [rep_len]; exact h1, HR.out.trans (if_neg (by omega))⟩
                                · exact .inr ⟨by rw [h2]; omega, by rw [h2]; exact HR.out.trans (if_pos (by omega))⟩
    · rw [if_neg he] at hk
      clear HC
      have HR : Hid _ := hR
      clear hR
      have c5 := HS.out.o.rs.c5
      go_wp2
      go_end0
      exact ⟨rfl, HS.out.err he HR.out⟩
end Go.Proofs.YtbiibhpknflagaaDoor
