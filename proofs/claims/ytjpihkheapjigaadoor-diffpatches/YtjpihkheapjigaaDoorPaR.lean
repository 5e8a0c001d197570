/- The document's 'Patch'. -/
import Derived.Test.YtjpihkheapjigaaDoorPaO
import Derived.Test.YtjpihkheapjigaaDoorEdV
namespace Go.Proofs.YtjpihkheapjigaaDoor
open Go.RowKit
set_option linter.unusedVariables false
set_option linter.unusedSimpArgs false
def putF (a : Act) (ns : List Nat) (f : Nat → Value) : Act := ns.foldl (fun a n => a.put (some n) (f n)) a
theorem merge {P : Program} {c : Code} {Q : Exit → Act → World → Prop} {act : Act} {w : World} (ns : List Nat) (e0 : Exit) (h1 : c.wp P (fun e a' w' => e = e0 ∧ w' = w ∧ a' = putF act ns (fun n => a'.tmps.getD n undef)) act w) (h2 : ∀ y : Nat → Value, Q e0 (putF act ns y) w) : c.wp P Q act w :=
  Code.wp_mono (by
    rintro e a' w' ⟨rfl, rfl, h⟩
    rw [h]
    exact h2 _) h1
theorem merge2 {P : Program} {c rest : Code} {Q : Exit → Act → World → Prop} {act : Act} {w : World} (ns : List Nat) (R : (Nat → Value) → Prop) (h1 : c.wp P (fun e a' w' => e = .normal ∧ w' = w ∧ a' = putF act ns (fun n => a'.tmps.getD n undef) ∧ R (fun n => a'.tmps.getD n undef)) act w) (h2 : ∀ y : Nat → Value, R y → rest.wp P Q (putF act ns y) w) : (Code.seq c rest).wp P Q act w :=
  wp_seq (Code.wp_mono (by
    rintro e a' w' ⟨rfl, rfl, h, hR⟩
    show rest.wp P Q a' w'
    rw [h]
    exact h2 _ hR) h1)
set_option maxRecDepth 20000 in
set_option maxHeartbeats 16000000 in
theorem refPatch_any {w : World} (a : Option Addr) (ca : Nat) (s : Str) (b : Option Addr) (cb : Nat) (t : Str) (hs : s.length ≤ 4000) (ht : t.length ≤ 4000) (hRef : Calls Tryd.prog 10 #[.slice a s.length ca, .slice b t.length cb] w (PostX (edits (lns s) (lns t)) w)) (c : Int) (C : Nat) (hC0 : ctx c = C) :
    Calls Tryd.prog 5 #[.slice a s.length ca, .slice b t.length cb, .int .i64 c] w (PostY (patchT (edits (lns s) (lns t)) C) w) := by
  obtain ⟨n, HN⟩ : ∃ n, Hid (s.length = n) := ⟨_, rfl⟩
  obtain ⟨m, HM⟩ : ∃ n, Hid (t.length = n) := ⟨_, rfl⟩
  obtain ⟨G, HG⟩ : ∃ g, Hid (w.heap.size = g) := ⟨_, rfl⟩
  obtain ⟨L, HL⟩ : ∃ E, Hid (edits (lns s) (lns t) = E) := ⟨_, rfl⟩
  have hEl : L.length ≤ 10000 := by rw [← HL.out]; have h1 := edits_len (lns s) (lns t); have h2 := lns_few s; have h3 := lns_few t; omega
  have HLi : Hid (∀ e ∈ L, e.1 ≤ 2 ∧ e.2.length ≤ 4000 ∧ e.2 ≠ []) := fun e he => by
    have h := edits_in (lns s) (lns t) e (by rw [HL.out]; exact he)
    refine ⟨h.1, ?_⟩
    rcases h.2 with h | h
    · have h1 := lns_short s _ h; have h2 := lns_ne s _ h; exact ⟨by omega, List.ne_nil_of_length_pos h2⟩
    · have h1 := lns_short t _ h; have h2 := lns_ne t _ h; exact ⟨by omega, List.ne_nil_of_length_pos h2⟩
  have HHK : Hid (∀ s, (hkT L s).length ≤ 40300040) := fun s => hkT_le L s hEl (fun e he => (HLi.out e he).2.1)
  have C10 : Hid (Calls Tryd.prog 10 #[.slice a n ca, .slice b m cb] w (PostX L w)) := hid (by rw [← HN.out, ← HM.out, ← HL.out]; exact hRef)
  rw [HN.out, HM.out, HL.out]
  clear hRef hs ht
  obtain ⟨q, HQ⟩ : ∃ q, Hid (L.length = q) := ⟨_, rfl⟩
  have hq4 : q ≤ 10000 := by rw [← HQ.out]; exact hEl
  go_enter Tryd.func5, Tryd.ntmps5
  go_wp2_with fail
  rename_i K1 hK1 K2 hK2
  have HK1 := hid hK1
  clear hK1
  refine C10.out.mono ?_
  rintro ev w1 ⟨v, rfl, hbe⟩
  obtain ⟨ea, ec, rfl, hpe, _, _⟩ := hbe.px (d := (0, [])) (fun x _ => encE_len x)
  have HB1 : Hid (Below G w w1) := hid (by rw [← HG.out]; exact hbe.below)
  obtain ⟨G1, HG1⟩ : ∃ g, Hid (w1.heap.size = g) := ⟨_, rfl⟩
  have HGG : Hid (G ≤ G1) := hid (by rw [← HG1.out, ← HG.out]; exact hbe.le)
  have HPE : Hid (∀ W, Below G1 w1 W → PE W ea ec L) := fun W hW => hpe.below (by rw [HG1.out]; exact hW)
  have HFE : Hid (0 < q → ∃ b off, ea = some ⟨b, off, none⟩) := fun h0 => by
    obtain ⟨b, off, e1, _⟩ := hpe.at_ (by rw [HQ.out]; exact h0)
    exact ⟨b, off, e1⟩
  rw [HQ.out]
  clear hbe hpe hEl
  have hC : C ≤ 1000 := by rw [← hC0]; exact ctx_le c
  obtain ⟨M, HM0⟩ : ∃ M, Hid (max c 0 = M) := ⟨_, rfl⟩
  have HCM : Hid (min M 1000 = (C : Int)) := hid (by rw [← HM0.out, ← hC0]; unfold ctx; omega)
  clear hC0
  go_wp2_with fail
  refine HK1.out _ _ ?_
  refine merge2 [2, 25, 26] (fun y => y 2 = .int .i64 M) ?_ (fun y0 hy0 => ?_)
  · by_cases hneg : c < 0
    · have e : M = 0 := by rw [← HM0.out]; omega
      clear HCM HM0
      subst e
      go_wp2_with fail
      first | exact ⟨rfl, rfl, by kernel_rfl, rfl⟩ | exact ⟨by kernel_rfl, rfl⟩ | kernel_rfl
    · have e : M = c := by rw [← HM0.out]; omega
      clear HCM HM0
      subst e
      go_wp2_with fail
      first | exact ⟨rfl, rfl, by kernel_rfl, rfl⟩ | exact ⟨by kernel_rfl, rfl⟩ | kernel_rfl
  simp only [putF, List.foldl_cons, List.foldl_nil, Act.put, List.setIfInBounds_toArray, List.set_cons_zero, List.set_cons_succ]
  rw [hy0]
  clear hy0
  refine merge2 [2, 27, 28] (fun y => y 2 = .int .i64 (C : Int)) ?_ (fun y00 hy0 => ?_)
  · by_cases hbig : 1000 < M
    · have e : C = 1000 := by have := HCM.out; omega
      clear HCM HM0 hC
      subst e
      go_wp2_with fail
      first | exact ⟨rfl, rfl, by kernel_rfl, rfl⟩ | exact ⟨by kernel_rfl, rfl⟩ | kernel_rfl
    · have e : M = (C : Int) := by have := HCM.out; omega
      clear HCM HM0
      subst e
      go_wp2_with fail
      first | exact ⟨rfl, rfl, by kernel_rfl, rfl⟩ | exact ⟨by kernel_rfl, rfl⟩ | kernel_rfl
  simp only [putF, List.foldl_cons, List.foldl_nil, Act.put, List.setIfInBounds_toArray, List.set_cons_zero, List.set_cons_succ]
  rw [hy0]
  clear hy0 HCM HM0
  go_wp2_with fail
  go_loopg [8, 9, 10, 11] q (fun gg ov av bv iv wr => ∃ (i x y : Nat) (O : ByteArray) (hs : List Sp), ov = .string O ∧ av = .int .i64 x ∧ bv = .int .i64 y ∧ iv = .int .i64 i ∧ i ≤ q ∧ gg = q - i ∧ x ≤ i ∧ y ≤ i ∧ O.size ≤ 1000000000000 ∧ Hid (At_ L C i hs) ∧ Hid ((⟨(hs.flatMap (hkT L)).toArray⟩ : ByteArray) = O) ∧ Hid (cA (L.take i) = x ∧ cB (L.take i) = y) ∧ Hid (Below G1 w1 wr))
  case atStart => exact ⟨0, 0, 0, ⟨#[]⟩, [], rfl, rfl, rfl, rfl, Nat.zero_le _, rfl, Nat.le_refl _, Nat.le_refl _, by decide, hid (at_start L C), hid rfl, hid ⟨rfl, rfl⟩, hid (Below.refl _ _)⟩
  case round =>
    obtain ⟨i, x, y, O, hs, rfl, rfl, rfl, rfl, hi, hk, hxi, hyi, hO, HAt, HOe, HXY, HB⟩ := hrel
    by_cases hlt : i < q
    · have hlti : (i : Int) < (q : Int) := by omega
      obtain ⟨eb, off, e1⟩ := HFE.out (by omega)
      subst e1
      have HCE : Hid (∀ j W, j < q → Below G1 w1 W → W.cell? ⟨eb, off + j * 2, none⟩ = some (.int .i64 ((L.getD j (0, [])).1 : Int)) ∧ W.cell? ⟨eb, off + j * 2 + 1, none⟩ = some (.string ⟨(L.getD j (0, [])).2.toArray⟩)) := fun j W hj hW => PE.two (HPE.out W hW) j (by rw [HQ.out]; exact hj)
      obtain ⟨k, HK⟩ : ∃ k, Hid ((L.getD i (0, [])).1 = k) := ⟨_, rfl⟩
      have hc0 := (HCE.out i _ hlt HB.out).1
      rw [HK.out] at hc0
      by_cases hk0 : k = 0
      · subst hk0
        have HA2 : Hid (At_ L C (i + 1) hs) := hid (HAt.out.keep (by rw [HQ.out]; exact hlt) (by unfold Ch; rw [HK.out]; simp))
        have HX2 : Hid (cA (L.take (i + 1)) = x + 1 ∧ cB (L.take (i + 1)) = y + 1) := hid (by
          rw [take_snocG (0, []) L i (by rw [HQ.out]; exact hlt), cA_snoc, cB_snoc, HK.out, HXY.out.1, HXY.out.2]
          exact ⟨rfl, rfl⟩)
        go_wp2_with fail
        go_roundg (q - (i + 1))
        case measure => omega
        case rel => exact ⟨i + 1, x + 1, y + 1, O, hs, rfl, by go_num, by go_num, by go_num, by omega, rfl, by omega, by omega, hO, HA2, HOe, HX2, HB⟩
      · have hk1 : ¬ (k : Int) = 0 := by omega
        have hk2 : ((k : Int) == 0) = false := by simp; omega
        have HIN : Hid (In_ L C i i (i + 1) hs ∧ ∀ k, i - C ≤ k → k < i → ¬ Ch L k) := hid (HAt.out.change (by rw [HQ.out]; exact hlt) (by unfold Ch; rw [HK.out]; exact hk0))
        go_wp2_with fail
        go_loopg [12] i (fun gg fv wq => ∃ f : Nat, fv = .int .i64 f ∧ f ≤ i ∧ gg = f ∧ Hid (i - C ≤ f) ∧ Hid (Below G1 w1 wq))
        case atStart => exact ⟨i, rfl, Nat.le_refl _, rfl, hid (by omega), HB⟩
        case round =>
          clear hc0 HB
          obtain ⟨f, rfl, hfi, hfk, HF, HB⟩ := hrel
          by_cases hfc : i - C < f
          · obtain ⟨p, HP⟩ : ∃ p, Hid (f = p + 1) := ⟨f - 1, hid (by omega)⟩
            have hf0 : (0 : Int) < (f : Int) := by omega
            have hfi2 : (i : Int) - (f : Int) < (C : Int) := by have := HP.out; omega
            have hfp : (f : Int) - 1 = (p : Int) := by rw [HP.out]; omega
            have hpq : (p : Int) < (q : Int) := by have := HP.out; omega
            have hp0 : (0 : Int) ≤ (p : Int) := by omega
            have hcp := (HCE.out p _ (by have := HP.out; omega) HB.out).1
            rw [show (L.getD p (0, [])).1 = 0 from by
              have := HIN.out.2 p (by have := HP.out; omega) (by have := HP.out; omega)
              simpa [Ch] using this] at hcp
            go_wp2_with fail
            go_roundg p
            case measure => have := HP.out; omega
            case rel => exact ⟨p, by first | rfl | go_num | rw [hfp], by have := HP.out; omega, rfl, hid (by have := HP.out; omega), HB⟩
          · have HFe : Hid (f = i - C) := hid (by have := HF.out; omega)
            refine merge [46, 47, 48, 49, 50, 51, 52, 53, 54, 55, 56, 57, 58, 59, 60, 61, 62, 63] (.exit 2) ?_ (fun y1 => ?_)
            · by_cases hf0 : f = 0
              · have hf1 : ¬ (0 : Int) < (f : Int) := by omega
                clear hf0
                go_wp2_with fail
                first | kernel_rfl | exact ⟨rfl, rfl, by kernel_rfl⟩
              · have hf1 : (0 : Int) < (f : Int) := by omega
                have hf2 : ¬ (i : Int) - (f : Int) < (C : Int) := by have := HFe.out; omega
                clear hf0
                go_wp2_with fail
                first | kernel_rfl | exact ⟨rfl, rfl, by kernel_rfl⟩
            simp only [putF, List.foldl_cons, List.foldl_nil, Act.put, List.setIfInBounds_toArray, List.set_cons_zero, List.set_cons_succ]
            go_wp2_with fail
            go_loopg [13, 14] (q - i) (fun gg lv kv wq => ∃ l k : Nat, lv = .int .i64 l ∧ kv = .int .i64 k ∧ i ≤ l ∧ l ≤ k ∧ k ≤ q ∧ gg = q - k ∧ Hid ((k = i ∧ l = i) ∨ In_ L C i l k hs) ∧ Hid (Below G1 w1 wq))
            case atStart => exact ⟨i, i, rfl, rfl, Nat.le_refl _, Nat.le_refl _, hi, rfl, hid (.inl ⟨rfl, rfl⟩), HB⟩
            case round =>
              clear HB
              obtain ⟨l, k, rfl, rfl, hil, hlk, hkq, hkk, HI, HB⟩ := hrel
              by_cases hgo : k < q ∧ k - l ≤ 2 * C + 1
              · obtain ⟨hg1, hg2⟩ := hgo
                have hg3 : (k : Int) < (q : Int) := by omega
                have hg4 : (k : Int) - (l : Int) ≤ 2 * (C : Int) + 1 := by omega
                obtain ⟨kd, HKd⟩ : ∃ k', Hid ((L.getD k (0, [])).1 = k') := ⟨_, rfl⟩
                have hcp := (HCE.out k _ hg1 HB.out).1
                rw [HKd.out] at hcp
                by_cases hkd : kd = 0
                · subst hkd
                  have HI2 : Hid (In_ L C i l (k + 1) hs) := hid (by
                    rcases HI.out with ⟨e1, e2⟩ | h
                    · rw [e1] at HKd; rw [HK.out] at HKd; exact absurd HKd.out hk0
                    · exact h.keep (by rw [HQ.out]; exact hg1) (by unfold Ch; rw [HKd.out]; simp))
                  go_wp2_with fail
                  go_roundg (q - (k + 1))
                  case measure => omega
                  case rel => exact ⟨l, k + 1, rfl, by go_num, hil, by omega, by omega, rfl, hid (.inr HI2.out), HB⟩
                · have hkd1 : ((kd : Int) != 0) = true := by simp; omega
                  have hkd2 : ¬ (kd : Int) = 0 := by omega
                  have hg5 : (k : Int) - (l : Int) - 1 ≤ 2 * (C : Int) := by omega
                  have HI2 : Hid (In_ L C i k (k + 1) hs) := hid (by
                    rcases HI.out with ⟨e1, e2⟩ | h
                    · rw [e1]; exact HIN.out.1
                    · exact h.more (by rw [HQ.out]; exact hg1) (by unfold Ch; rw [HKd.out]; exact hkd) (by omega))
                  go_wp2_with fail
                  go_roundg (q - (k + 1))
                  case measure => omega
                  case rel => exact ⟨k, k + 1, rfl, by go_num, by omega, by omega, by omega, rfl, hid (.inr HI2.out), HB⟩
              · have HI2 : Hid (In_ L C i l k hs) := hid (by
                  rcases HI.out with ⟨e1, e2⟩ | h
                  · exact absurd ⟨by omega, by omega⟩ hgo
                  · exact h)
                obtain ⟨E, HE⟩ : ∃ E, Hid (min (l + C + 1) L.length = E) := ⟨_, rfl⟩
                have HDN : Hid (At_ L C E (hs ++ [(i - C, E)]) ∧ ∀ j, l < j → j < E → ¬ Ch L j) := hid (by
                  have := HI2.out.done (by rw [HQ.out]; omega)
                  rw [HE.out] at this
                  exact this)
                have hEq : E ≤ q := by rw [← HE.out, ← HQ.out]; exact Nat.min_le_right _ _
                have hEl : E ≤ l + C + 1 := by rw [← HE.out]; exact Nat.min_le_left _ _
                have hlq : l < q := by have := HI2.out.2.1; omega
                have HEo : Hid (E = q ∨ E = l + C + 1) := hid (by rw [← HE.out, HQ.out]; omega)
                have hlE : l + 1 ≤ E := by have := HEo.out; omega
                refine merge [68, 69, 70, 71, 72, 73, 74, 75, 76, 77, 78, 79, 80] (.exit 4) ?_ (fun y2 => ?_)
                · by_cases hg1 : k < q
                  · have hg3 : (k : Int) < (q : Int) := by omega
                    have hg4 : ¬ (k : Int) - (l : Int) ≤ 2 * (C : Int) + 1 := by omega
                    go_wp2_with fail
                    first | kernel_rfl | exact ⟨rfl, rfl, by kernel_rfl⟩
                  · have hg3 : ¬ (k : Int) < (q : Int) := by omega
                    go_wp2_with fail
                    first | kernel_rfl | exact ⟨rfl, rfl, by kernel_rfl⟩
                simp only [putF, List.foldl_cons, List.foldl_nil, Act.put, List.setIfInBounds_toArray, List.set_cons_zero, List.set_cons_succ]
                clear hgo hlk hkq hkk HI HI2
                go_wp2_with fail
                go_loopg [15] (E - (l + 1)) (fun gg ev wq => ∃ e : Nat, ev = .int .i64 e ∧ l + 1 ≤ e ∧ e ≤ E ∧ gg = E - e ∧ Hid (Below G1 w1 wq))
                case atStart => exact ⟨l + 1, by go_num, Nat.le_refl _, hlE, rfl, HB⟩
                case round =>
                  clear HB
                  obtain ⟨e, rfl, hle, heE, hek, HB⟩ := hrel
                  by_cases heo : e < E
                  · have hg3 : (e : Int) < (q : Int) := by omega
                    have hg4 : (e : Int) - (l : Int) ≤ (C : Int) := by omega
                    have hcp := (HCE.out e _ (by omega) HB.out).1
                    rw [show (L.getD e (0, [])).1 = 0 from by
                      have := HDN.out.2 e (by omega) heo
                      simpa [Ch] using this] at hcp
                    go_wp2_with fail
                    go_roundg (E - (e + 1))
                    case measure => omega
                    case rel => exact ⟨e + 1, by go_num, by omega, by omega, rfl, HB⟩
                  · have HeE : Hid (e = E) := hid (by omega)
                    refine merge [101, 102, 103, 104, 105, 106, 107, 108, 109, 110, 111, 112, 113, 114, 115, 116, 117, 118, 119] (.exit 6) ?_ (fun y3 => ?_)
                    · by_cases hg1 : e < q
                      · have hg3 : (e : Int) < (q : Int) := by omega
                        have hg4 : ¬ (e : Int) - (l : Int) ≤ (C : Int) := by have := HEo.out; have := HeE.out; omega
                        go_wp2_with fail
                        first | kernel_rfl | exact ⟨rfl, rfl, by kernel_rfl⟩
                      · have hg3 : ¬ (e : Int) < (q : Int) := by omega
                        go_wp2_with fail
                        first | kernel_rfl | exact ⟨rfl, rfl, by kernel_rfl⟩
                    simp only [putF, List.foldl_cons, List.foldl_nil, Act.put, List.setIfInBounds_toArray, List.set_cons_zero, List.set_cons_succ]
                    have HDE : Hid (At_ L C e (hs ++ [(f, e)])) := hid (by rw [HeE.out, HFe.out]; exact HDN.out.1)
                    have hie : i < e := by omega
                    have heq : e ≤ q := by omega
                    clear heo heE hek
                    go_wp2_with fail
                    go_loopg [16, 17, 18, 19] (e - f) (fun gg nv mv tv kv wq => ∃ (n1 m1 k : Nat) (T : ByteArray), nv = .int .i64 n1 ∧ mv = .int .i64 m1 ∧ tv = .string T ∧ kv = .int .i64 k ∧ f ≤ k ∧ k ≤ e ∧ gg = e - k ∧ n1 ≤ k ∧ m1 ≤ k ∧ T.size ≤ k * 4030 ∧ Hid (cA (seg L (f, k)) = n1 ∧ cB (seg L (f, k)) = m1) ∧ Hid ((⟨((seg L (f, k)).flatMap lineT).toArray⟩ : ByteArray) = T) ∧ Hid (Below G1 w1 wq))
                    case atStart => exact ⟨0, 0, f, ⟨#[]⟩, rfl, rfl, rfl, rfl, Nat.le_refl _, by omega, rfl, Nat.zero_le _, Nat.zero_le _, Nat.zero_le _, hid (by rw [seg_none]; exact ⟨rfl, rfl⟩), hid (by rw [seg_none]; rfl), HB⟩
                    case round =>
                      clear HB
                      obtain ⟨n1, m1, k, T, rfl, rfl, rfl, rfl, hfk2, hke, hkg, hn1, hm1, hTs, HNM, HT, HB⟩ := hrel
                      by_cases hkt : k < e
                      · have hkt1 : (k : Int) < (e : Int) := by omega
                        have hkt2 : (k : Int) < (q : Int) := by omega
                        obtain ⟨kd, HKd⟩ : ∃ k', Hid ((L.getD k (0, [])).1 = k') := ⟨_, rfl⟩
                        obtain ⟨xs, HXs⟩ : ∃ X, Hid ((L.getD k (0, [])).2 = X) := ⟨_, rfl⟩
                        obtain ⟨hd0, hd1⟩ := HCE.out k _ (by omega) HB.out
                        obtain ⟨hm2, hm3, hm4⟩ := HLi.out _ (getD_mem L k (0, []) (by rw [HQ.out]; omega))
                        rw [HKd.out] at hd0 hm2
                        rw [HXs.out] at hd1 hm3 hm4
                        obtain ⟨X, HX⟩ : ∃ X, Hid ((⟨xs.toArray⟩ : ByteArray) = X) := ⟨_, rfl⟩
                        rw [HX.out] at hd1
                        obtain ⟨Y, HY⟩ : ∃ X, Hid ((⟨(lineT (kd, xs)).toArray⟩ : ByteArray) = X) := ⟨_, rfl⟩
                        have hYs : Y.size ≤ 4030 := by rw [← HY.out]; simpa [ByteArray.size] using lineT_le (kd, xs) hm3
                        have hk5 : k * 4030 ≤ 10000 * 4030 := Nat.mul_le_mul_right _ (by omega)
                        have hTY : ¬ 9223372036854775807 < T.size + Y.size := by omega
                        have HTYs : Hid ((T ++ Y).size ≤ (k + 1) * 4030) := hid (by rw [ByteArray.size_append, Nat.add_mul]; omega)
                        have C11 : Hid (∀ W, Calls Tryd.prog 11 #[.agg #[.int .i64 (kd : Int), .string X]] W fun e w' => e = .returned (.string Y) ∧ Below W.heap.size W w') := fun W => by
                          rw [← HX.out, ← HY.out]
                          exact line_any kd xs hm2 hm4 (by omega) W
                        have HSG : Hid (seg L (f, k + 1) = seg L (f, k) ++ [(kd, xs)]) := hid (by
                          rw [seg_snoc L f k hfk2 (by rw [HQ.out]; omega), show L.getD k (0, []) = (kd, xs) by rw [← HKd.out, ← HXs.out]])
                        have HT2 : Hid ((⟨((seg L (f, k + 1)).flatMap lineT).toArray⟩ : ByteArray) = T ++ Y) := hid (by
                          rw [HSG.out, List.flatMap_append, List.flatMap_cons, List.flatMap_nil, List.append_nil, ← str_add, HT.out, HY.out])
                        have HN2 : Hid (cA (seg L (f, k + 1)) = n1 + (if kd = 2 then 0 else 1) ∧ cB (seg L (f, k + 1)) = m1 + (if kd = 1 then 0 else 1)) := hid (by
                          rw [HSG.out, cA_snoc, cB_snoc, HNM.out.1, HNM.out.2]
                          exact ⟨rfl, rfl⟩)
                        clear hm3 hm4
                        rcases (by omega : kd = 1 ∨ kd = 2 ∨ (kd ≠ 1 ∧ kd ≠ 2)) with hk1' | hk2' | ⟨hk1', hk2'⟩
                        · subst hk1'
                          go_wp2_with fail
                          refine (C11.out _).mono ?_
                          rintro ev w5 ⟨rfl, hb5⟩
                          have HB5 : Hid (Below G1 w1 w5) := hid (HB.out.trans (hb5.mono (by rw [← HG1.out]; exact HB.out.size)))
                          clear hb5
                          go_wp2_with fail
                          go_roundg (e - (k + 1))
                          case measure => omega
                          case rel => exact ⟨n1 + 1, m1, k + 1, T ++ Y, by go_num, rfl, rfl, by go_num, by omega, by omega, rfl, by omega, by omega, HTYs.out, hid ⟨HN2.out.1, HN2.out.2⟩, HT2, HB5⟩
                        · subst hk2'
                          go_wp2_with fail
                          refine (C11.out _).mono ?_
                          rintro ev w5 ⟨rfl, hb5⟩
                          have HB5 : Hid (Below G1 w1 w5) := hid (HB.out.trans (hb5.mono (by rw [← HG1.out]; exact HB.out.size)))
                          clear hb5
                          go_wp2_with fail
                          go_roundg (e - (k + 1))
                          case measure => omega
                          case rel => exact ⟨n1, m1 + 1, k + 1, T ++ Y, rfl, by go_num, rfl, by go_num, by omega, by omega, rfl, by omega, by omega, HTYs.out, hid ⟨HN2.out.1, HN2.out.2⟩, HT2, HB5⟩
                        · have hb1 : ((kd : Int) != 1) = true := by simp; omega
                          have hb2 : ((kd : Int) != 2) = true := by simp; omega
                          rw [if_neg hk2', if_neg hk1'] at HN2
                          go_wp2_with fail
                          refine (C11.out _).mono ?_
                          rintro ev w5 ⟨rfl, hb5⟩
                          have HB5 : Hid (Below G1 w1 w5) := hid (HB.out.trans (hb5.mono (by rw [← HG1.out]; exact HB.out.size)))
                          clear hb5
                          go_wp2_with fail
                          go_roundg (e - (k + 1))
                          case measure => omega
                          case rel => exact ⟨n1 + 1, m1 + 1, k + 1, T ++ Y, by go_num, by go_num, rfl, by go_num, by omega, by omega, rfl, by omega, by omega, HTYs.out, HN2, HT2, HB5⟩
                      · have hkt1 : ¬ (k : Int) < (e : Int) := by omega
                        have hke2 : k = e := by omega
                        subst hke2
                        obtain ⟨xa, HXa⟩ : ∃ v, Hid (cA (L.take f) = v) := ⟨_, rfl⟩
                        obtain ⟨yb, HYb⟩ : ∃ v, Hid (cB (L.take f) = v) := ⟨_, rfl⟩
                        have HBC : Hid (x = xa + (i - f) ∧ y = yb + (i - f)) := hid (by
                          have := back_c L f i hfi (by rw [HQ.out]; exact hi) (fun j h1 h2 => HIN.out.2 j (by have := HFe.out; omega) h2)
                          rw [HXY.out.1, HXY.out.2, HXa.out, HYb.out] at this
                          exact this)
                        have hxa : (x : Int) - ((i : Int) - (f : Int)) = (xa : Int) := by have := HBC.out.1; omega
                        have hyb : (y : Int) - ((i : Int) - (f : Int)) = (yb : Int) := by have := HBC.out.2; omega
                        have hxa5 : xa ≤ 10000 := by rw [← HXa.out]; have := cA_lt L f; omega
                        have hyb5 : yb ≤ 10000 := by rw [← HYb.out]; have := cB_lt L f; omega
                        have HX2 : Hid (cA (L.take k) = xa + n1 ∧ cB (L.take k) = yb + m1) := hid (by
                          rw [cA_seg L f k (by omega), cB_seg L f k (by omega), HXa.out, HYb.out, HNM.out.1, HNM.out.2]
                          exact ⟨rfl, rfl⟩)
                        have hx2 : xa + n1 ≤ k := by rw [← HX2.out.1]; exact cA_lt L k
                        have hy2 : yb + m1 ≤ k := by rw [← HX2.out.2]; exact cB_lt L k
                        have CN : Hid (∀ x y W, x ≤ 50000 → y ≤ 50000 → Below G1 w1 W → Calls Tryd.prog 12 #[.int .i64 ((x : Nat) : Int), .int .i64 ((y : Nat) : Int)] W fun e w' => e = .returned (.string ⟨(plc x y).toArray⟩) ∧ Below G1 w1 w') := fun x y W hx hy hW => by
                          refine (numbers_any x y hx hy W).mono ?_
                          rintro e w' ⟨rfl, hb⟩
                          exact ⟨rfl, hW.trans (hb.mono (by rw [← HG1.out]; exact hW.size))⟩
                        obtain ⟨X, HX⟩ : ∃ X, Hid ((⟨(plc xa n1).toArray⟩ : ByteArray) = X) := ⟨_, rfl⟩
                        obtain ⟨Y, HY⟩ : ∃ X, Hid ((⟨(plc yb m1).toArray⟩ : ByteArray) = X) := ⟨_, rfl⟩
                        have hXs : X.size ≤ 13 := by rw [← HX.out]; simpa [ByteArray.size] using plc_len xa n1 (by omega) (by omega)
                        have hYs : Y.size ≤ 13 := by rw [← HY.out]; simpa [ByteArray.size] using plc_len yb m1 (by omega) (by omega)
                        have C1 : Hid (∀ W, Below G1 w1 W → Calls Tryd.prog 12 #[.int .i64 (xa : Int), .int .i64 (n1 : Int)] W fun e w' => e = .returned (.string X) ∧ Below G1 w1 w') := fun W hW => by rw [← HX.out]; exact CN.out xa n1 W (by omega) (by omega) hW
                        have C2 : Hid (∀ W, Below G1 w1 W → Calls Tryd.prog 12 #[.int .i64 (yb : Int), .int .i64 (m1 : Int)] W fun e w' => e = .returned (.string Y) ∧ Below G1 w1 w') := fun W hW => by rw [← HY.out]; exact CN.out yb m1 W (by omega) (by omega) hW
                        obtain ⟨R, HR⟩ : ∃ Z, Hid (O ++ ⟨#[64, 64, 32, 45]⟩ ++ X ++ ⟨#[32, 43]⟩ ++ Y ++ ⟨#[32, 64, 64, 10]⟩ ++ T = Z) := ⟨_, rfl⟩
                        have HRe : Hid ((⟨((hs ++ [(f, k)]).flatMap (hkT L)).toArray⟩ : ByteArray) = R) := hid (by
                          rw [← HR.out, List.flatMap_append, List.flatMap_cons, List.flatMap_nil, List.append_nil, hkT_eq, HXa.out, HYb.out, HNM.out.1, HNM.out.2, ← HOe.out, ← HX.out, ← HY.out, ← HT.out, show (⟨#[64, 64, 32, 45]⟩ : ByteArray) = ⟨([64, 64, 32, 45] : Str).toArray⟩ from rfl, show (⟨#[32, 43]⟩ : ByteArray) = ⟨([32, 43] : Str).toArray⟩ from rfl, show (⟨#[32, 64, 64, 10]⟩ : ByteArray) = ⟨([32, 64, 64, 10] : Str).toArray⟩ from rfl, str_add, str_add, str_add, str_add, str_add, str_add]
                          unfold headT
                          simp only [List.append_assoc])
                        have HRs : Hid (R.size ≤ 1000000000000) := hid (by
                          have h1 : ((hs ++ [(f, k)]).flatMap (hkT L)).length ≤ (hs ++ [(f, k)]).length * 40300040 := flat_le (hkT L) 40300040 _ (fun s _ => HHK.out s)
                          have h2 : (hs ++ [(f, k)]).length ≤ 10000 := by
                            rw [← HDE.out.2.1]
                            exact Nat.le_trans (sps_len L C k) (by omega)
                          have h3 := Nat.mul_le_mul_right 40300040 h2
                          rw [← HRe.out]
                          show (((hs ++ [(f, k)]).flatMap (hkT L)).toArray).size ≤ _
                          simp only [List.size_toArray]
                          omega)
                        have hk5 : k * 4030 ≤ 10000 * 4030 := Nat.mul_le_mul_right _ (by omega)
                        have s1 : ¬ 9223372036854775807 < O.size + 4 := by omega
                        have s2 : ¬ 9223372036854775807 < O.size + 4 + X.size := by omega
                        have s3 : ¬ 9223372036854775807 < O.size + 4 + X.size + 2 := by omega
                        have s4 : ¬ 9223372036854775807 < O.size + 4 + X.size + 2 + Y.size := by omega
                        have s5 : ¬ 9223372036854775807 < O.size + 4 + X.size + 2 + Y.size + 4 := by omega
                        have s6 : ¬ 9223372036854775807 < O.size + 4 + X.size + 2 + Y.size + 4 + T.size := by omega
                        have s1' : ¬ 9223372036854775803 < O.size := by omega
                        have s3' : ¬ 9223372036854775805 < O.size + 4 + X.size := by omega
                        have s5' : ¬ 9223372036854775803 < O.size + 4 + X.size + 2 + Y.size := by omega
                        go_wp2_with fail
                        refine (C1.out _ HB.out).mono ?_
                        rintro ev w5 ⟨rfl, hb5⟩
                        have HB5 : Hid (Below G1 w1 w5) := hb5
                        clear hb5
                        go_wp2_with fail
                        refine (C2.out _ HB5.out).mono ?_
                        rintro ev w6 ⟨rfl, hb6⟩
                        have HB6 : Hid (Below G1 w1 w6) := hb6
                        clear hb6
                        go_wp2_with fail
                        rw [HR.out]
                        go_roundg (q - k)
                        case measure => omega
                        case rel => exact ⟨k, xa + n1, yb + m1, R, hs ++ [(f, k)], rfl, by go_num, by go_num, rfl, by omega, rfl, by omega, by omega, HRs.out, HDE, HRe, HX2, HB6⟩
    · have hge : ¬ (i : Int) < (q : Int) := by omega
      have ei : i = q := by omega
      subst ei
      have HPT : Hid ((⟨(patchT L C).toArray⟩ : ByteArray) = O) := hid (by
        have h := HAt.out
        rw [← HQ.out] at h
        unfold patchT
        rw [h.all]
        exact HOe.out)
      obtain ⟨T, HT⟩ : ∃ T, Hid (patchT L C = T) := ⟨_, rfl⟩
      rw [HT.out] at HPT
      obtain ⟨cap, w5, hcv, hpb, hb5⟩ := conv_bytes T wr
      rw [HPT.out] at hcv
      have HPB : Hid (PB w5 (some ⟨wr.heap.size, 0, none⟩) cap T) := hpb
      have HB5 : Hid (Below G w w5) := hid (HB1.out.trans ((HB.out.mono HGG.out).trans (hb5.mono (by have := HB.out.size; have := HG1.out; have := HGG.out; omega))))
      clear hpb hb5
      go_wp2_with fail
      go_ret
      have e := HT.out
      subst e
      exact ⟨_, _, rfl, HPB.out, by rw [HG.out]; exact HB5.out⟩
end Go.Proofs.YtjpihkheapjigaaDoor
