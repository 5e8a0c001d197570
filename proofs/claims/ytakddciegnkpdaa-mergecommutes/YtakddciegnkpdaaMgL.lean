/- The law 'MergeCommutes', walked. -/
import Derived.Test.YtakddciegnkpdaaMgK
namespace Go.Proofs.Ytakddciegnkpdaa
open Go.RowKit
set_option linter.unusedVariables false
set_option linter.unusedSimpArgs false
theorem walkC_one (a b c : Option Addr) (n ca m cb k cc : Nat) (w : World) (hn : 3000 < n) : Calls Try.prog 4 #[.slice a n ca, .slice b m cb, .slice c k cc] w (IsTrue w) := by
  have hI : (3000 : Int) < (n : Int) := by omega
  go_enter Try.func4, Try.ntmps4
  go_wp2
  go_ret
  exact ⟨rfl, Below.refl _ _⟩
theorem walkC_two (a b c : Option Addr) (n ca m cb k cc : Nat) (w : World) (hn : ¬ 3000 < n) (hm : 3000 < m) : Calls Try.prog 4 #[.slice a n ca, .slice b m cb, .slice c k cc] w (IsTrue w) := by
  have hI : ¬ (3000 : Int) < (n : Int) := by omega
  have hJ : (3000 : Int) < (m : Int) := by omega
  go_enter Try.func4, Try.ntmps4
  go_wp2
  go_ret
  exact ⟨rfl, Below.refl _ _⟩
theorem walkC_three (a b c : Option Addr) (n ca m cb k cc : Nat) (w : World) (hn : ¬ 3000 < n) (hm : ¬ 3000 < m) (hk : 3000 < k) : Calls Try.prog 4 #[.slice a n ca, .slice b m cb, .slice c k cc] w (IsTrue w) := by
  have hI : ¬ (3000 : Int) < (n : Int) := by omega
  have hJ : ¬ (3000 : Int) < (m : Int) := by omega
  have hK : (3000 : Int) < (k : Int) := by omega
  go_enter Try.func4, Try.ntmps4
  go_wp2
  go_ret
  exact ⟨rfl, Below.refl _ _⟩
set_option maxRecDepth 20000 in
set_option maxHeartbeats 4000000 in
theorem walkC {w : World} (a0 : Option Addr) (c0 : Nat) (s : Str) (h0 : PB w a0 c0 s) (hs : s.length ≤ 3000) (a1 : Option Addr) (c1 : Nat) (t : Str) (h1 : PB w a1 c1 t) (ht : t.length ≤ 3000) (a2 : Option Addr) (c2 : Nat) (u : Str) (h2 : PB w a2 c2 u) (hu : u.length ≤ 3000) :
    Calls Try.prog 4 #[.slice a0 s.length c0, .slice a1 t.length c1, .slice a2 u.length c2] w (IsTrue w) := by
  obtain ⟨X, HX⟩ : ∃ T, Hid (mtx [97] [98] s t u = T) := ⟨_, rfl⟩
  obtain ⟨Y, HY⟩ : ∃ T, Hid (mtx [98] [97] s u t = T) := ⟨_, rfl⟩
  obtain ⟨N, HN⟩ : ∃ T, Hid (mcn s t u = T) := ⟨_, rfl⟩
  have HXY : Hid (N = 0 → X = Y) := hid (fun e => by rw [← HX.out, ← HY.out]; exact (mtx_flip [98] [97] [97] [98] s t u (by rw [HN.out]; exact e)).symm)
  have hXl : X.length ≤ 20000000 := by rw [← HX.out]; exact mtx_len [97] [98] s t u hs ht hu (by simp)
  have hYl : Y.length ≤ 20000000 := by rw [← HY.out]; exact mtx_len [98] [97] s u t hs hu ht (by simp)
  have hNl : N ≤ 6001 := by rw [← HN.out]; exact mcn_le s t u hs
  obtain ⟨n0, HN0⟩ : ∃ n, Hid (s.length = n) := ⟨_, rfl⟩
  obtain ⟨n1, HN1⟩ : ∃ n, Hid (t.length = n) := ⟨_, rfl⟩
  obtain ⟨n2, HN2⟩ : ∃ n, Hid (u.length = n) := ⟨_, rfl⟩
  obtain ⟨g, HG⟩ : ∃ g, Hid (w.heap.size = g) := ⟨_, rfl⟩
  have hI : ¬ (3000 : Int) < (n0 : Int) := by have := HN0.out; omega
  have hJ : ¬ (3000 : Int) < (n1 : Int) := by have := HN1.out; omega
  have hK : ¬ (3000 : Int) < (n2 : Int) := by have := HN2.out; omega
  have HP1 : Hid (∀ W, Below g w W → PB W a1 c1 t) := fun W hW => h1.below (by rw [HG.out]; exact hW)
  have HP2 : Hid (∀ W, Below g w W → PB W a2 c2 u) := fun W hW => h2.below (by rw [HG.out]; exact hW)
  have CA : Hid (∀ W, Below g w W → Calls Try.prog 6 #[.slice a0 n0 c0, .slice a1 n1 c1, .slice a2 n2 c2, .string ⟨#[97]⟩, .string ⟨#[98]⟩] W (PostTx X N W)) := fun W hW => by
    have hW' : Below w.heap.size w W := by rw [HG.out]; exact hW
    have := texts_any a0 c0 s (h0.below hW') hs a1 c1 t (h1.below hW') ht a2 c2 u (h2.below hW') hu [97] [98] (by simp)
    rw [HN0.out, HN1.out, HN2.out, HX.out, HN.out] at this
    exact this
  have CB : Hid (∀ W, Below g w W → Calls Try.prog 6 #[.slice a0 n0 c0, .slice a2 n2 c2, .slice a1 n1 c1, .string ⟨#[98]⟩, .string ⟨#[97]⟩] W (PostTx Y N W)) := fun W hW => by
    have hW' : Below w.heap.size w W := by rw [HG.out]; exact hW
    have := texts_any a0 c0 s (h0.below hW') hs a2 c2 u (h2.below hW') hu a1 c1 t (h1.below hW') ht [98] [97] (by simp)
    rw [HN0.out, HN1.out, HN2.out, HY.out, mcn_flip, HN.out] at this
    exact this
  have CP : Hid (∀ W, Below g w W → Calls Try.prog 6 #[.slice a0 n0 c0, .slice a1 n1 c1, .slice a0 n0 c0, .string ⟨#[97]⟩, .string ⟨#[98]⟩] W (PostTx t 0 W)) := fun W hW => by
    have hW' : Below w.heap.size w W := by rw [HG.out]; exact hW
    have := texts_any a0 c0 s (h0.below hW') hs a1 c1 t (h1.below hW') ht a0 c0 s (h0.below hW') hs [97] [98] (by simp)
    rw [HN0.out, HN1.out, (merge_ours _ _ s t).1, (merge_ours [] [] s t).2] at this
    exact this
  have CQ : Hid (∀ W, Below g w W → Calls Try.prog 6 #[.slice a0 n0 c0, .slice a0 n0 c0, .slice a2 n2 c2, .string ⟨#[97]⟩, .string ⟨#[98]⟩] W (PostTx u 0 W)) := fun W hW => by
    have hW' : Below w.heap.size w W := by rw [HG.out]; exact hW
    have := texts_any a0 c0 s (h0.below hW') hs a0 c0 s (h0.below hW') hs a2 c2 u (h2.below hW') hu [97] [98] (by simp)
    rw [HN0.out, HN2.out, (merge_theirs _ _ s u).1, (merge_theirs [] [] s u).2] at this
    exact this
  have CS : Hid (∀ W, Below g w W → Calls Try.prog 6 #[.slice a0 n0 c0, .slice a1 n1 c1, .slice a1 n1 c1, .string ⟨#[97]⟩, .string ⟨#[98]⟩] W (PostTx t 0 W)) := fun W hW => by
    have hW' : Below w.heap.size w W := by rw [HG.out]; exact hW
    have := texts_any a0 c0 s (h0.below hW') hs a1 c1 t (h1.below hW') ht a1 c1 t (h1.below hW') ht [97] [98] (by simp)
    rw [HN0.out, HN1.out, (merge_both _ _ s t).1, (merge_both [] [] s t).2] at this
    exact this
  have HS1 : Hid (t.length ≤ 3000) := ht
  have HS2 : Hid (u.length ≤ 3000) := hu
  have HB0 : Hid (Below g w w) := hid (Below.refl _ _)
  have HGB : Hid (∀ W, Below g w W → g ≤ W.heap.size) := fun W hW => by have := hW.size; have := HG.out; omega
  rw [HN0.out, HN1.out, HN2.out]
  clear h0 h1 h2 hs ht hu
  go_enter Try.func4, Try.ntmps4
  go_wp2_with fail
  refine (CA.out w HB0.out).mono ?_
  rintro e w1 ⟨xa, xc, rfl, hb1, hx1, _⟩
  have HB1 : Hid (Below g w w1) := hid (by rw [← HG.out]; exact hb1)
  have HX1 : Hid (PB w1 xa xc X) := hx1
  clear hb1 hx1 CA
  go_wp2_with fail
  refine (CB.out w1 HB1.out).mono ?_
  rintro e w2 ⟨ya, yc, rfl, hb2, hy2, _⟩
  have HB2 : Hid (Below g w w2) := hid (HB1.out.trans (hb2.mono (HGB.out w1 HB1.out)))
  have C9 : Hid (Calls Try.prog 9 #[.slice xa X.length xc, .slice ya Y.length yc] w2 (PostSm X Y w2)) := hid (same_some xa xc X (HX1.out.below hb2) ya yc Y hy2 (by omega) (by omega))
  clear hb2 hy2 CB
  go_wp2_with fail
  refine C9.out.mono ?_
  rintro e w3 ⟨v, rfl, hv, hb3⟩
  have HB3 : Hid (Below g w w3) := hid (HB2.out.trans (hb3.mono (HGB.out w2 HB2.out)))
  have HV : Hid (N = 0 → v = true) := hid (fun e => hv (HXY.out e))
  clear hb3 hv C9
  by_cases hN0 : N = 0
  · obtain rfl := HV.out hN0
    have hNi : (N : Int) = 0 := by omega
    have HNN := hid hN0
    clear hN0
    go_wp2_with fail
    refine (CP.out w3 HB3.out).mono ?_
    rintro e w4 ⟨pa, pc', rfl, hb4, hp4, _⟩
    have HB4 : Hid (Below g w w4) := hid (HB3.out.trans (hb4.mono (HGB.out w3 HB3.out)))
    have HP4 : Hid (PB w4 pa pc' t) := hp4
    rw [HN1.out]
    clear hb4 hp4 CP
    go_wp2_with fail
    refine (CQ.out w4 HB4.out).mono ?_
    rintro e w5 ⟨qa, qc, rfl, hb5, hq5, _⟩
    have HB5 : Hid (Below g w w5) := hid (HB4.out.trans (hb5.mono (HGB.out w4 HB4.out)))
    have HP5 : Hid (PB w5 pa pc' t) := hid (HP4.out.below hb5)
    have HQ5 : Hid (PB w5 qa qc u) := hq5
    rw [HN2.out]
    clear hb5 hq5 CQ
    go_wp2_with fail
    refine (CS.out w5 HB5.out).mono ?_
    rintro e w6 ⟨sa, sc, rfl, hb6, hs6, _⟩
    have HB6 : Hid (Below g w w6) := hid (HB5.out.trans (hb6.mono (HGB.out w5 HB5.out)))
    have HP6 : Hid (PB w6 pa pc' t) := hid (HP5.out.below hb6)
    have HQ6 : Hid (PB w6 qa qc u) := hid (HQ5.out.below hb6)
    have HS6 : Hid (PB w6 sa sc t) := hs6
    rw [HN1.out]
    clear hb6 hs6 CS
    have D1 : Hid (Calls Try.prog 9 #[.slice pa n1 pc', .slice a1 n1 c1] w6 (PostSm t t w6)) := hid (by
      have := same_some pa pc' t HP6.out a1 c1 t (HP1.out w6 HB6.out) (by have := HS1.out; omega) (by have := HS1.out; omega)
      rw [HN1.out] at this
      exact this)
    go_wp2_with fail
    refine D1.out.mono ?_
    rintro e w7 ⟨v7, rfl, hv7, hb7⟩
    obtain rfl := hv7 rfl
    have HB7 : Hid (Below g w w7) := hid (HB6.out.trans (hb7.mono (HGB.out w6 HB6.out)))
    have D2 : Hid (Calls Try.prog 9 #[.slice qa n2 qc, .slice a2 n2 c2] w7 (PostSm u u w7)) := hid (by
      have := same_some qa qc u (HQ6.out.below hb7) a2 c2 u (HP2.out w7 HB7.out) (by have := HS2.out; omega) (by have := HS2.out; omega)
      rw [HN2.out] at this
      exact this)
    have HS7 : Hid (PB w7 sa sc t) := hid (HS6.out.below hb7)
    clear hb7 hv7 D1
    go_wp2_with fail
    refine D2.out.mono ?_
    rintro e w8 ⟨v8, rfl, hv8, hb8⟩
    obtain rfl := hv8 rfl
    have HB8 : Hid (Below g w w8) := hid (HB7.out.trans (hb8.mono (HGB.out w7 HB7.out)))
    have D3 : Hid (Calls Try.prog 9 #[.slice sa n1 sc, .slice a1 n1 c1] w8 (PostSm t t w8)) := hid (by
      have := same_some sa sc t (HS7.out.below hb8) a1 c1 t (HP1.out w8 HB8.out) (by have := HS1.out; omega) (by have := HS1.out; omega)
      rw [HN1.out] at this
      exact this)
    clear hb8 hv8 D2
    go_wp2_with fail
    refine D3.out.mono ?_
    rintro e w9 ⟨v9, rfl, hv9, hb9⟩
    obtain rfl := hv9 rfl
    have HB9 : Hid (Below w.heap.size w w9) := hid (by rw [HG.out]; exact HB8.out.trans (hb9.mono (HGB.out w8 HB8.out)))
    clear hb9 hv9 D3
    go_wp2
    go_ret
    exact ⟨rfl, HB9.out⟩
  · have hNi : ((N : Int) == 0) = false := by simp; omega
    clear hN0
    go_wp2_with fail
    refine (CP.out w3 HB3.out).mono ?_
    rintro e w4 ⟨pa, pc', rfl, hb4, hp4, _⟩
    have HB4 : Hid (Below g w w4) := hid (HB3.out.trans (hb4.mono (HGB.out w3 HB3.out)))
    have HP4 : Hid (PB w4 pa pc' t) := hp4
    rw [HN1.out]
    clear hb4 hp4 CP
    go_wp2_with fail
    refine (CQ.out w4 HB4.out).mono ?_
    rintro e w5 ⟨qa, qc, rfl, hb5, hq5, _⟩
    have HB5 : Hid (Below g w w5) := hid (HB4.out.trans (hb5.mono (HGB.out w4 HB4.out)))
    have HP5 : Hid (PB w5 pa pc' t) := hid (HP4.out.below hb5)
    have HQ5 : Hid (PB w5 qa qc u) := hq5
    rw [HN2.out]
    clear hb5 hq5 CQ
    go_wp2_with fail
    refine (CS.out w5 HB5.out).mono ?_
    rintro e w6 ⟨sa, sc, rfl, hb6, hs6, _⟩
    have HB6 : Hid (Below g w w6) := hid (HB5.out.trans (hb6.mono (HGB.out w5 HB5.out)))
    have HP6 : Hid (PB w6 pa pc' t) := hid (HP5.out.below hb6)
    have HQ6 : Hid (PB w6 qa qc u) := hid (HQ5.out.below hb6)
    have HS6 : Hid (PB w6 sa sc t) := hs6
    rw [HN1.out]
    clear hb6 hs6 CS
    have D1 : Hid (Calls Try.prog 9 #[.slice pa n1 pc', .slice a1 n1 c1] w6 (PostSm t t w6)) := hid (by
      have := same_some pa pc' t HP6.out a1 c1 t (HP1.out w6 HB6.out) (by have := HS1.out; omega) (by have := HS1.out; omega)
      rw [HN1.out] at this
      exact this)
    go_wp2_with fail
    refine D1.out.mono ?_
    rintro e w7 ⟨v7, rfl, hv7, hb7⟩
    obtain rfl := hv7 rfl
    have HB7 : Hid (Below g w w7) := hid (HB6.out.trans (hb7.mono (HGB.out w6 HB6.out)))
    have D2 : Hid (Calls Try.prog 9 #[.slice qa n2 qc, .slice a2 n2 c2] w7 (PostSm u u w7)) := hid (by
      have := same_some qa qc u (HQ6.out.below hb7) a2 c2 u (HP2.out w7 HB7.out) (by have := HS2.out; omega) (by have := HS2.out; omega)
      rw [HN2.out] at this
      exact this)
    have HS7 : Hid (PB w7 sa sc t) := hid (HS6.out.below hb7)
    clear hb7 hv7 D1
    go_wp2_with fail
    refine D2.out.mono ?_
    rintro e w8 ⟨v8, rfl, hv8, hb8⟩
    obtain rfl := hv8 rfl
    have HB8 : Hid (Below g w w8) := hid (HB7.out.trans (hb8.mono (HGB.out w7 HB7.out)))
    have D3 : Hid (Calls Try.prog 9 #[.slice sa n1 sc, .slice a1 n1 c1] w8 (PostSm t t w8)) := hid (by
      have := same_some sa sc t (HS7.out.below hb8) a1 c1 t (HP1.out w8 HB8.out) (by have := HS1.out; omega) (by have := HS1.out; omega)
      rw [HN1.out] at this
      exact this)
    clear hb8 hv8 D2
    go_wp2_with fail
    refine D3.out.mono ?_
    rintro e w9 ⟨v9, rfl, hv9, hb9⟩
    obtain rfl := hv9 rfl
    have HB9 : Hid (Below w.heap.size w w9) := hid (by rw [HG.out]; exact HB8.out.trans (hb9.mono (HGB.out w8 HB8.out)))
    clear hb9 hv9 D3
    go_wp2
    go_ret
    exact ⟨rfl, HB9.out⟩
end Go.Proofs.Ytakddciegnkpdaa
