/- The document's 'Apply': its walk. -/
import Derived.Test.YtblegkefeiefjaaDoorRaA
namespace Go.Proofs.YtblegkefeiefjaaDoor
open Go.RowKit Plain
set_option linter.unusedVariables false
set_option linter.unusedSimpArgs false
theorem Sl.below' {w w' : World} {a : Option Addr} {cap : Nat} {l : List Int} (h : Sl w a cap l) (hb : Below w.heap.size w w') : Sl w' a cap l :=
  ⟨h.capl, fun h0 => by obtain ⟨b, off, e1, e2, e3⟩ := h.at_ h0; exact ⟨b, off, e1, Nat.lt_of_lt_of_le e2 hb.size, fun i hi => (hb.cell (p := ⟨b, off + i, none⟩) e2).trans (e3 i hi)⟩, h.nil⟩
set_option maxRecDepth 20000 in
set_option maxHeartbeats 4000000 in
theorem refApply_good (a0 ad : Option Addr) (cap0 cd : Nat) (base d : List Int) (w : World) (hzd : IsB d) (hlb : base.length ≤ 400000) (hld : d.length ≤ 400000) (hSb : Sl w a0 cap0 base) (hSd : Sl w ad cd d) (m : Nat) (r0 : List Int) (hn : szs d = some (base.length, m, r0)) (hm : m ≤ 100000) (hrB : IsB r0) (hrl : r0.length ≤ d.length) :
    Calls Tryd.prog 10 #[.slice a0 base.length cap0, .slice ad d.length cd] w (PostB w (appS base m r0 [])) := by
  obtain ⟨i5, hi, hz0, hz1, hz2⟩ := info_parts Tryd.info5r
  have R1 := refSizes_any ad cd d w hzd hld hSd
  rw [hn] at R1
  obtain ⟨R, HR⟩ : ∃ R, Hid (appS base m r0 [] = R) := ⟨_, rfl⟩
  rw [HR.out]
  obtain ⟨L0, HL0⟩ : ∃ L0, Hid (L0 = base.length) := ⟨_, rfl⟩
  rw [← HL0.out] at R1 hlb ⊢
  have HSB : Hid _ := hSb
  have hmZ : ¬ (100000 : Int) < (m : Int) := by omega
  clear hSb hSd hn
  go_enter Tryd.func10, Tryd.ntmps10
  go_wp2_with (go_at_call 11; refine R1.mono ?_; clear R1; rintro ev w1 ⟨a1, cap1, q, rfl, rfl, hS1, hn1, hn2⟩)
  have HS1 : Hid (Sl w a1 cap1 r0) := ⟨hS1.capl, hS1.at_, hS1.nil⟩
  clear hS1
  go_loopg [8, 10] r0.length (fun k bv ov wr => ∃ (r out : List Int) (a oa : Option Addr) (cap oc : Nat), bv = .slice a r.length cap ∧ ov = .slice oa out.length oc ∧ k = r.length ∧ Hid (RaI w base m R bv ov r out a oa cap oc wr))
  case atStart => exact ⟨r0, [], a1, none, cap1, 0, rfl, rfl, rfl, ⟨rfl, rfl, HS1.out, hrB, by omega, Nat.zero_le _, World.ownsRow_nil _ _ _ _, below_drewN (Below.refl _ _) _, HR.out⟩⟩
  case round =>
    obtain ⟨r, out, a, oa, cap, oc, rfl, rfl, rfl, HI⟩ := hrel
    obtain ⟨L, HL⟩ : ∃ L, Hid (L = r.length) := ⟨_, rfl⟩
    obtain ⟨O, HO⟩ : ∃ O, Hid (O = out.length) := ⟨_, rfl⟩
    have hLl : L ≤ 400000 := by rw [HL.out]; exact HI.out.len
    have hOm : O ≤ m := by rw [HO.out]; exact HI.out.le
    have HEQ : Hid _ := HI.out.eq
    rw [appS_eq] at HEQ
    rw [← HL.out, ← HO.out]
    by_cases hL0 : L = 0
    · subst hL0
      have hr0 : r = [] := List.eq_nil_of_length_eq_zero HL.out.symm
      rw [if_pos hr0, ← HO.out] at HEQ
      by_cases hOe : O = m
      · have hOZ : (O : Int) = (m : Int) := by omega
        rw [if_pos hOe] at HEQ
        go_wp2_with fail
        refine bodyPost_ret (results_2 Tryd.results10 _ _ _ _ rfl rfl) rfl ?_
        rw [← HEQ.out]
        exact ⟨HI.out.b1, oa, oc, by rw [← HO.out]; rfl, HI.out.own⟩
      · have hOZ : ¬ (O : Int) = (m : Int) := by omega
        rw [if_neg hOe] at HEQ
        go_wp2_with fail
        have hbv : ((O : Int) == (m : Int)) = false := by simp; omega
        refine bodyPost_ret (results_2 Tryd.results10 _ _ _ (.bool false) rfl (congrArg Value.bool hbv)) rfl ?_
        rw [← HEQ.out]
        exact ⟨HI.out.b1, oa, O, oc, rfl⟩
    · have hLZ : (0 : Int) < L := by omega
      have hne : ¬ r = [] := fun e => hL0 (by rw [HL.out, e]; rfl)
      rw [if_neg hne] at HEQ
      obtain ⟨x0, t, hrt⟩ : ∃ x0 t, r = x0 :: t := by cases r with | nil => exact absurd rfl hne | cons x t => exact ⟨x, t, rfl⟩
      have HRT : Hid _ := hrt
      clear hrt
      have hx0 : 0 ≤ x0 ∧ x0 ≤ 255 := HI.out.isB x0 (by rw [HRT.out]; simp)
      obtain ⟨x, HX⟩ : ∃ x : Nat, Hid (x0 = (x : Int)) := ⟨x0.toNat, by show _ = _; omega⟩
      have hx : x < 256 := by have := HX.out; omega
      rw [HX.out] at HRT
      clear hx0 HX
      obtain ⟨b, off, rfl, hb, hat⟩ := HI.out.sl.at_ (by rw [← HL.out]; omega)
      have HAT : Hid _ := hat
      have hLc : L ≤ cap := by rw [HL.out]; exact HI.out.sl.capl
      have c0 : wr.cell? ⟨b, off, none⟩ = some (.int .u8 x) := by
        have h1 := (HI.out.b1.cell (p := ⟨b, off + 0, none⟩) hb).trans (hat 0 (by rw [← HL.out]; omega))
        rw [HRT.out] at h1
        simpa using h1
      clear hat
      obtain ⟨ad1, HAD⟩ : ∃ ad1, Hid ((if cap = 1 then some (⟨b, off, none⟩ : Addr) else some ⟨b, off + 1, none⟩) = ad1) := ⟨_, rfl⟩
      have had := HAD.out
      have hlt : t.length = L - 1 := by rw [HL.out, HRT.out]; simp
      have hatT : At w b (off + 1) t := by
        have := at_drop HAT.out 1 (by rw [← HL.out]; omega)
        rwa [HRT.out] at this
      have HAT1 : Hid _ := hatT
      clear hatT
      have HSL : Hid (Sl w ad1 (cap - 1) t) := ⟨by rw [hlt]; omega, fun h => by
          rw [hlt] at h
          rw [← HAD.out, if_neg (by omega)]
          exact ⟨b, off + 1, rfl, hb, HAT1.out⟩, fun h => by rw [← HAD.out] at h; split at h <;> cases h⟩
      have HTB : Hid (IsB t) := fun y hy => HI.out.isB y (by rw [HRT.out]; exact List.mem_cons_of_mem _ hy)
      rw [HRT.out] at HEQ
      have hnone : ∀ fr : Array Value, R = none → fr.getD 4 undef = .slice none 0 0 → fr.getD 5 undef = .bool false → bodyPost Tryd.prog Tryd.f10 (PostB w R) .ret { tmps := fr, defers := [] } wr := fun fr hR h4 h5 =>
        bodyPost_ret (results_2 Tryd.results10 _ _ _ _ h4 h5) rfl (by rw [hR]; exact ⟨HI.out.b1, none, 0, 0, rfl⟩)
      have HNONE : Hid _ := hnone
      clear hnone
      by_cases hx0 : x = 0
      · subst hx0
        rw [show (((0 : Nat) : Int)) = 0 from rfl, stp_zero] at HEQ
        go_wp2_with fail
        exact HNONE.out _ HEQ.out.symm rfl rfl
      · have hx0Z : ¬ (x : Int) = 0 := by omega
        by_cases hx8 : x < 128
        · have hx8Z : (x : Int) < 128 := by omega
          have hx8Z' : ¬ (128 : Int) ≤ x := by omega
          rw [stp_own base (by omega) hx8, hlt] at HEQ
          by_cases hxl : x ≤ L - 1
          · have hT1 : ¬ ((L : Int) - 1 < x) := by omega
            have hT1' : ¬ (L - 1 < x) := by omega
            rw [if_pos hxl] at HEQ
            simp only [List.length_take, hlt, Nat.min_eq_left hxl, ← HO.out] at HEQ
            by_cases hom : O + x ≤ m
            · have hT2 : ¬ (m : Int) < (O : Int) + x := by omega
              rw [if_pos hom] at HEQ
              obtain rfl : ad1 = some ⟨b, off + 1, none⟩ := by rw [← HAD.out, if_neg (by omega)]
              clear had
              have hc1 : ¬ cap = 1 := by omega
              have hcs : ∀ j u, ((t.take x).map (Value.int .u8))[j]? = some u → wr.cell? ((⟨b, off + 1, none⟩ : Addr).add j) = some u := by
                have := cells_sub HAT1.out hb HI.out.b1 0 x (by rw [hlt]; omega)
                simpa using this
              have hown : wr.ownsRow w.heap.size 5 1 (.slice oa O oc) O (out.map (Value.int .u8)) := by rw [HO.out]; exact HI.out.own
              obtain ⟨ad2, HAD2⟩ : ∃ ad2, Hid ((if cap - 1 = x then some (⟨b, off + 1, none⟩ : Addr) else some ⟨b, off + 1 + x, none⟩) = ad2) := ⟨_, rfl⟩
              have had2 := HAD2.out
              have hld : (t.drop x).length = L - 1 - x := by rw [List.length_drop, hlt]
              have HSL2 : Hid (Sl w ad2 (cap - 1 - x) (t.drop x)) := ⟨by rw [hld]; omega, fun h => by
                rw [hld] at h
                rw [← HAD2.out, if_neg (by omega)]
                exact ⟨b, off + 1 + x, rfl, hb, at_drop HAT1.out x (by rw [hlt]; omega)⟩, fun h => by rw [← HAD2.out] at h; split at h <;> cases h⟩
              have hltk : (t.take x).length = x := by rw [List.length_take, hlt]; omega
              have HLTK : Hid _ := hltk
              clear hltk
              have hws : w.heap.size ≤ wr.heap.size := HI.out.b1.size
              have HWS : Hid _ := hws
              clear hws
              go_wp2_with (at_builtin; refine wpList_append_lies _ rfl _ _ 22 rfl w.heap.size 5 i5 (.int .u8 0) 1 1 Tryd.underlying22 hi hz0 hz1 hz2 rfl (by omega) (.slice oa O oc) O (out.map (Value.int .u8)) rfl hown ⟨b, off + 1, none⟩ x _ ((t.take x).map (Value.int .u8)) rfl (by rw [List.length_map, HLTK.out]; omega) hcs (ints_oneCell _ _) (by omega) (by unfold maxLen; omega) (by omega) HWS.out _ rfl ?_; clear hcs hown; intro g oc' w1 hown1 hgrow1 hg1 hg2)
              go_roundg (L - 1 - x)
              case measure => have := HL.out; omega
              case rel =>
                have hst : stp base r = some (t.take x, t.drop x) := by rw [HRT.out, stp_own base (by omega) hx8, if_pos (by omega)]
                have e1 : O + x = (out ++ t.take x).length := by rw [List.length_append, HLTK.out, HO.out]
                refine ⟨t.drop x, out ++ t.take x, ad2, some ⟨g, 0, none⟩, cap - 1 - x, oc', by rw [hld], by rw [← e1], by rw [hld], ?_⟩
                have hm := HI.out.more (w1 := w1) (c := t.take x) (r' := t.drop x) (a' := ad2) (cap' := cap - 1 - x) (g := g) (oc' := oc') hne hst (by rw [HLTK.out, ← HO.out]; exact hom) HSL2.out (isB_drop HTB.out x) (by rw [HLTK.out, ← HO.out]; exact hown1) (by rw [← HO.out]; exact hgrow1)
                rw [hld, ← e1] at hm
                exact hm
            · have hT2 : (m : Int) < (O : Int) + x := by omega
              rw [if_neg hom] at HEQ
              go_wp2_with fail
              exact HNONE.out _ HEQ.out.symm rfl rfl
          · have hT1 : L - 1 < x := by omega
            rw [if_neg hxl] at HEQ
            go_wp2_with fail
            exact HNONE.out _ HEQ.out.symm rfl rfl
        · have hx8Z : (128 : Int) ≤ x := by omega
          have hx8Z' : ¬ (x : Int) < 128 := by omega
          rw [stp_copy base (by omega)] at HEQ
          have HL0' : Hid (L0 = base.length) := HL0.out
          cases e1 : prt 4 x 0 0 0 t with
          | none =>
            rw [e1] at HEQ
            have P1 : Calls Tryd.prog 17 #[.slice ad1 (L - 1) (cap - 1), .int .i64 x, .int .i64 0, .int .i64 3] wr (PostP ad1 wr none) := by
              have := part_any ad1 (cap - 1) 0 4 3 x t wr HTB.out (by rw [hlt]; omega) (HSL.out.below' HI.out.b1) (by omega) (by omega) (by omega) hx
              rw [hlt, e1] at this
              exact this
            cases e2 : prt 3 x 4 0 0 [] with
            | none =>
              go_wp2_with (first | (go_at_call 17; refine P1.mono ?_; clear P1; rintro ev w1 ⟨rfl, a2, cap2, rfl, hs2, hsb2⟩; have P2 : Calls Tryd.prog 17 #[.slice a2 0 cap2, .int .i64 x, .int .i64 4, .int .i64 6] w1 (PostP a2 w1 none) := (by have := part_any a2 cap2 4 3 6 x [] w1 (fun y hy => by cases hy) (by simp) hs2 (by omega) (by omega) (by omega) hx; rw [e2] at this; exact this); clear hs2) | (go_at_call 17; refine P2.mono ?_; clear P2; rintro ev w2 ⟨rfl, a3, cap3, rfl, hs3, hsb3⟩))
              exact HNONE.out _ HEQ.out.symm rfl rfl
            | some nr =>
              obtain ⟨n2, r2⟩ := nr
              go_wp2_with (first | (go_at_call 17; refine P1.mono ?_; clear P1; rintro ev w1 ⟨rfl, a2, cap2, rfl, hs2, hsb2⟩; have P2 : Calls Tryd.prog 17 #[.slice a2 0 cap2, .int .i64 x, .int .i64 4, .int .i64 6] w1 (PostP a2 w1 (some (n2, r2))) := (by have := part_any a2 cap2 4 3 6 x [] w1 (fun y hy => by cases hy) (by simp) hs2 (by omega) (by omega) (by omega) hx; rw [e2] at this; exact this); clear hs2) | (go_at_call 17; refine P2.mono ?_; clear P2; rintro ev w2 ⟨rfl, a3, cap3, rfl, hs3, hsb3, hn3⟩))
              exact HNONE.out _ HEQ.out.symm rfl rfl
          | some nr =>
            obtain ⟨n1, r1⟩ := nr
            rw [e1] at HEQ
            have hr1l := prt_len _ _ _ _ _ _ _ _ e1
            have HR1B : Hid (IsB r1) := by
              obtain ⟨k, hk⟩ := prt_tail _ _ _ _ _ _ _ _ e1
              show IsB r1
              rw [hk]
              exact isB_drop HTB.out k
            have P1 : Calls Tryd.prog 17 #[.slice ad1 (L - 1) (cap - 1), .int .i64 x, .int .i64 0, .int .i64 3] wr (PostP ad1 wr (some (n1, r1))) := by
              have := part_any ad1 (cap - 1) 0 4 3 x t wr HTB.out (by rw [hlt]; omega) (HSL.out.below' HI.out.b1) (by omega) (by omega) (by omega) hx
              rw [hlt, e1] at this
              exact this
            have hP2 : ∀ (a2 : Option Addr) (cap2 : Nat), Sl wr a2 cap2 r1 → Calls Tryd.prog 17 #[.slice a2 r1.length cap2, .int .i64 x, .int .i64 4, .int .i64 6] wr (PostP a2 wr (prt 3 x 4 0 0 r1)) := fun a2 cap2 h => part_any a2 cap2 4 3 6 x r1 wr HR1B.out (by omega) h (by omega) (by omega) (by omega) hx
            have HADB : Hid (∀ p : Addr, ad1 = some p → p.block < w.heap.size) := fun p hp => by rw [← HAD.out] at hp; split at hp <;> (cases hp; exact hb)
            cases e2 : prt 3 x 4 0 0 r1 with
            | none =>
              rw [e2] at hP2
              simp only [e2] at HEQ
              go_wp2_with (first | (go_at_call 17; refine P1.mono ?_; clear P1; rintro ev w1 ⟨rfl, a2, cap2, rfl, hs2, hsb2, hn2⟩; have P2 := hP2 a2 cap2 hs2; clear hs2 hsb2) | (go_at_call 17; refine P2.mono ?_; clear P2; rintro ev w2 ⟨rfl, a3, cap3, rfl, hs3, hsb3⟩))
              exact HNONE.out _ HEQ.out.symm rfl rfl
            | some cr =>
              obtain ⟨c2, r2⟩ := cr
              rw [e2] at hP2
              simp only [e2] at HEQ
              have hr2l := prt_len _ _ _ _ _ _ _ _ e2
              have HR2B : Hid (IsB r2) := by
                obtain ⟨k, hk⟩ := prt_tail _ _ _ _ _ _ _ _ e2
                show IsB r2
                rw [hk]
                exact isB_drop HR1B.out k
              by_cases hfit : n1 + cnt c2 ≤ base.length
              · rw [if_pos hfit] at HEQ
                rw [← HL0.out] at hfit
                simp only at HEQ
                by_cases hc0 : c2 = 0
                · subst hc0
                  obtain ⟨C, HC⟩ : ∃ C : Nat, Hid (C = 65536) := ⟨_, rfl⟩
                  have h655 : (65536 : Int) = (C : Int) := by rw [HC.out]; rfl
                  have hcnt : cnt 0 = C := by rw [HC.out]; simp [cnt]
                  rw [hcnt] at HEQ hfit
                  have hn1L : n1 < L0 := by omega
                  have hT1 : ¬ (L0 : Int) - n1 < C := by omega
                  obtain ⟨b0, off0, rfl, hb0, hat0⟩ := HSB.out.at_ (by rw [← HL0.out]; omega)
                  have hcap0 : L0 ≤ cap0 := by rw [HL0.out]; exact HSB.out.capl
                  have HCS : Hid _ := cells_sub hat0 hb0 HI.out.b1 n1 C (by rw [← HL0.out]; exact hfit)
                  clear hat0
                  have hltk : ((base.drop n1).take C).length = C := by rw [List.length_take, List.length_drop, ← HL0.out]; omega
                  have HLTK : Hid _ := hltk
                  rw [hltk, ← HO.out] at HEQ
                  clear hltk
                  by_cases hom : O + C ≤ m
                  · have hT2 : ¬ (m : Int) < (O : Int) + C := by omega
                    rw [if_pos hom] at HEQ
                    have hown : wr.ownsRow w.heap.size 5 1 (.slice oa O oc) O (out.map (Value.int .u8)) := by rw [HO.out]; exact HI.out.own
                    have HOWN : Hid _ := hown
                    clear hown
                    have HWS : Hid (w.heap.size ≤ wr.heap.size) := HI.out.b1.size
                    have hcn : ¬ cap0 = n1 := by omega
                    have hq1 : n1 + C ≤ cap0 := by omega
                    go_wp2_with (first | (go_at_call 17; refine P1.mono ?_; clear P1; rintro ev w1 ⟨rfl, a2, cap2, rfl, hs2, hsb2, hn2⟩; have P2 := hP2 a2 cap2 hs2; have HSB2 : Hid _ := hsb2; clear hs2 hsb2) | (go_at_call 17; refine P2.mono ?_; clear P2; rintro ev w2 ⟨rfl, a3, cap3, rfl, hs3, hsb3, hn3⟩; have HS3 : Hid _ := hs3; have HSB3 : Hid _ := hsb3; clear hs3 hsb3) | (at_builtin; refine wpList_append_lies _ rfl _ _ 22 rfl w.heap.size 5 i5 (.int .u8 0) 1 1 Tryd.underlying22 hi hz0 hz1 hz2 rfl (by omega) (.slice oa O oc) O (out.map (Value.int .u8)) rfl HOWN.out ⟨b0, off0 + n1, none⟩ C (cap0 - n1) (((base.drop n1).take C).map (Value.int .u8)) (congrArg (fun k => Value.slice (some ⟨b0, off0 + n1, none⟩) k (cap0 - n1)) (Nat.add_sub_cancel_left (n := n1) (m := C))) (by rw [List.length_map, HLTK.out]; omega) HCS.out (ints_oneCell _ _) (by omega) (by unfold maxLen; omega) (by omega) HWS.out _ rfl ?_; clear HCS HOWN; intro g oc' w1 hown1 hgrow1 hg1 hg2))
                    go_roundg (r2.length)
                    case measure => have := HL.out; omega
                    case rel =>
                      have hst : stp base r = some ((base.drop n1).take C, r2) := by
                        rw [HRT.out, stp_copy base (by omega), e1]
                        simp only [e2, hcnt]
                        rw [if_pos (by rw [← HL0.out]; exact hfit)]
                      have e3 : O + C = (out ++ (base.drop n1).take C).length := by rw [List.length_append, HLTK.out, HO.out]
                      refine ⟨r2, out ++ (base.drop n1).take C, a3, some ⟨g, 0, none⟩, cap3, oc', rfl, by rw [← e3], rfl, ?_⟩
                      have hm := HI.out.more (w1 := w1) (c := (base.drop n1).take C) (r' := r2) (a' := a3) (cap' := cap3) (g := g) (oc' := oc') hne hst (by rw [HLTK.out, ← HO.out]; exact hom) (HS3.out.back' HI.out.b1 (SameB.trans HSB2.out HSB3.out) HADB.out) HR2B.out (by rw [HLTK.out, ← HO.out]; exact hown1) (by rw [← HO.out]; exact hgrow1)
                      rw [← e3] at hm
                      exact hm
                  · have hT2 : (m : Int) < (O : Int) + C := by omega
                    rw [if_neg hom] at HEQ
                    go_wp2_with (first | (go_at_call 17; refine P1.mono ?_; clear P1; rintro ev w1 ⟨rfl, a2, cap2, rfl, hs2, hsb2, hn2⟩; have P2 := hP2 a2 cap2 hs2; have HSB2 : Hid _ := hsb2; clear hs2 hsb2) | (go_at_call 17; refine P2.mono ?_; clear P2; rintro ev w2 ⟨rfl, a3, cap3, rfl, hs3, hsb3, hn3⟩; have HS3 : Hid _ := hs3; have HSB3 : Hid _ := hsb3; clear hs3 hsb3))
                    exact HNONE.out _ HEQ.out.symm rfl rfl
                · have hc0Z : ¬ (c2 : Int) = 0 := by omega
                  have hcnt : cnt c2 = c2 := by simp [cnt, hc0]
                  rw [hcnt] at HEQ hfit
                  have hn1L : n1 < L0 := by omega
                  have hT1 : ¬ (L0 : Int) - n1 < (c2 : Int) := by omega
                  obtain ⟨b0, off0, rfl, hb0, hat0⟩ := HSB.out.at_ (by rw [← HL0.out]; omega)
                  have hcap0 : L0 ≤ cap0 := by rw [HL0.out]; exact HSB.out.capl
                  have HCS : Hid _ := cells_sub hat0 hb0 HI.out.b1 n1 c2 (by rw [← HL0.out]; exact hfit)
                  clear hat0
                  have hltk : ((base.drop n1).take c2).length = c2 := by rw [List.length_take, List.length_drop, ← HL0.out]; omega
                  have HLTK : Hid _ := hltk
                  rw [hltk, ← HO.out] at HEQ
                  clear hltk
                  by_cases hom : O + c2 ≤ m
                  · have hT2 : ¬ (m : Int) < (O : Int) + (c2 : Int) := by omega
                    rw [if_pos hom] at HEQ
                    have hown : wr.ownsRow w.heap.size 5 1 (.slice oa O oc) O (out.map (Value.int .u8)) := by rw [HO.out]; exact HI.out.own
                    have HOWN : Hid _ := hown
                    clear hown
                    have HWS : Hid (w.heap.size ≤ wr.heap.size) := HI.out.b1.size
                    have hcn : ¬ cap0 = n1 := by omega
                    have hq1 : n1 + c2 ≤ cap0 := by omega
                    go_wp2_with (first | (go_at_call 17; refine P1.mono ?_; clear P1; rintro ev w1 ⟨rfl, a2, cap2, rfl, hs2, hsb2, hn2⟩; have P2 := hP2 a2 cap2 hs2; have HSB2 : Hid _ := hsb2; clear hs2 hsb2) | (go_at_call 17; refine P2.mono ?_; clear P2; rintro ev w2 ⟨rfl, a3, cap3, rfl, hs3, hsb3, hn3⟩; have HS3 : Hid _ := hs3; have HSB3 : Hid _ := hsb3; clear hs3 hsb3) | (at_builtin; refine wpList_append_lies _ rfl _ _ 22 rfl w.heap.size 5 i5 (.int .u8 0) 1 1 Tryd.underlying22 hi hz0 hz1 hz2 rfl (by omega) (.slice oa O oc) O (out.map (Value.int .u8)) rfl HOWN.out ⟨b0, off0 + n1, none⟩ c2 (cap0 - n1) (((base.drop n1).take c2).map (Value.int .u8)) (congrArg (fun k => Value.slice (some ⟨b0, off0 + n1, none⟩) k (cap0 - n1)) (Nat.add_sub_cancel_left (n := n1) (m := c2))) (by rw [List.length_map, HLTK.out]; omega) HCS.out (ints_oneCell _ _) (by omega) (by unfold maxLen; omega) (by omega) HWS.out _ rfl ?_; clear HCS HOWN; intro g oc' w1 hown1 hgrow1 hg1 hg2))
                    go_roundg (r2.length)
                    case measure => have := HL.out; omega
                    case rel =>
                      have hst : stp base r = some ((base.drop n1).take c2, r2) := by
                        rw [HRT.out, stp_copy base (by omega), e1]
                        simp only [e2, hcnt]
                        rw [if_pos (by rw [← HL0.out]; exact hfit)]
                      have e3 : O + c2 = (out ++ (base.drop n1).take c2).length := by rw [List.length_append, HLTK.out, HO.out]
                      refine ⟨r2, out ++ (base.drop n1).take c2, a3, some ⟨g, 0, none⟩, cap3, oc', rfl, by rw [← e3], rfl, ?_⟩
                      have hm := HI.out.more (w1 := w1) (c := (base.drop n1).take c2) (r' := r2) (a' := a3) (cap' := cap3) (g := g) (oc' := oc') hne hst (by rw [HLTK.out, ← HO.out]; exact hom) (HS3.out.back' HI.out.b1 (SameB.trans HSB2.out HSB3.out) HADB.out) HR2B.out (by rw [HLTK.out, ← HO.out]; exact hown1) (by rw [← HO.out]; exact hgrow1)
                      rw [← e3] at hm
                      exact hm
                  · have hT2 : (m : Int) < (O : Int) + (c2 : Int) := by omega
                    rw [if_neg hom] at HEQ
                    go_wp2_with (first | (go_at_call 17; refine P1.mono ?_; clear P1; rintro ev w1 ⟨rfl, a2, cap2, rfl, hs2, hsb2, hn2⟩; have P2 := hP2 a2 cap2 hs2; have HSB2 : Hid _ := hsb2; clear hs2 hsb2) | (go_at_call 17; refine P2.mono ?_; clear P2; rintro ev w2 ⟨rfl, a3, cap3, rfl, hs3, hsb3, hn3⟩; have HS3 : Hid _ := hs3; have HSB3 : Hid _ := hsb3; clear hs3 hsb3))
                    exact HNONE.out _ HEQ.out.symm rfl rfl
              · rw [if_neg hfit] at HEQ
                have HF : Hid _ := hfit
                rw [← HL0.out] at hfit
                by_cases hc0 : c2 = 0
                · subst hc0
                  have hT1 : (L0 : Int) - n1 < 65536 := by simp only [cnt, if_pos] at hfit; omega
                  go_wp2_with (first | (go_at_call 17; refine P1.mono ?_; clear P1; rintro ev w1 ⟨rfl, a2, cap2, rfl, hs2, hsb2, hn2⟩; have P2 := hP2 a2 cap2 hs2; clear hs2 hsb2) | (go_at_call 17; refine P2.mono ?_; clear P2; rintro ev w2 ⟨rfl, a3, cap3, rfl, hs3, hsb3, hn3⟩))
                  exact HNONE.out _ HEQ.out.symm rfl rfl
                · have hc0Z : ¬ (c2 : Int) = 0 := by omega
                  have hT1 : (L0 : Int) - n1 < c2 := by simp only [cnt, if_neg hc0] at hfit; omega
                  go_wp2_with (first | (go_at_call 17; refine P1.mono ?_; clear P1; rintro ev w1 ⟨rfl, a2, cap2, rfl, hs2, hsb2, hn2⟩; have P2 := hP2 a2 cap2 hs2; clear hs2 hsb2) | (go_at_call 17; refine P2.mono ?_; clear P2; rintro ev w2 ⟨rfl, a3, cap3, rfl, hs3, hsb3, hn3⟩))
                  exact HNONE.out _ HEQ.out.symm rfl rfl
end Go.Proofs.YtblegkefeiefjaaDoor
