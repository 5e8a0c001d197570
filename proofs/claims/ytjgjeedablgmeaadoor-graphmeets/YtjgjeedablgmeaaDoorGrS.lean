/- 'heap.down', 'heap.Pop'. -/
import Derived.Test.YtjgjeedablgmeaaDoorGrR
namespace Go.Proofs.YtjgjeedablgmeaaDoor
open Go.RowKit
set_option linter.unusedVariables false
set_option linter.unusedSimpArgs false
/-- What moving down leaves. -/
def PostD (w : World) (Qb B g n cap m : Nat) (l : List Nd) (w' : World) : Prop := ∃ l', l'.Perm l ∧ Qu w' Qb B (.slice (some ⟨g, 0, none⟩) n cap) l' ∧ Fr2 Qb (some g) w w' ∧ Hp l' m ∧ l'.getD m nd0 = l.getD m nd0
def AB (e : Ending) : Prop := ∃ b, e = .returned (.bool b)
set_option maxRecDepth 20000 in
set_option maxHeartbeats 2000000 in
theorem down_any {w : World} {Qb B g n cap : Nat} {l0 : List Nd} (h : Qu w Qb B (.slice (some ⟨g, 0, none⟩) n cap) l0) (hl : l0.length = n) (hn : n ≤ 3000) (i0 m : Nat) (hm : m < n) (hi0 : i0 ≤ m) (hd : DownI l0 m i0) :
    Calls Tryd.prog 57 #[.iface 99 (.pointer (some ⟨Qb, 0, none⟩)), .int .i64 i0, .int .i64 m] w fun e w' => AB e ∧ PostD w Qb B g n cap m l0 w' := by
  have HQ0 : Hid (Qu w Qb B (.slice (some ⟨g, 0, none⟩) n cap) l0) := h
  have HL0 : Hid (l0.length = n) := hl
  have HD0 : Hid (DownI l0 m i0) := hd
  clear h hl hd
  go_enter Tryd.func57, Tryd.ntmps57
  go_wp2_with fail
  go_loopg [7] (m - i0) (fun gg iv wr => ∃ (i : Nat) (l : List Nd), iv = .int .i64 i ∧ gg = m - i ∧ i ≤ m ∧ Hid (DownI l m i ∧ l.getD m nd0 = l0.getD m nd0) ∧ Hid (l.Perm l0) ∧ Hid (Qu wr Qb B (.slice (some ⟨g, 0, none⟩) n cap) l) ∧ Hid (Fr2 Qb (some g) w wr))
  case atStart => exact ⟨i0, l0, rfl, rfl, hi0, hid ⟨HD0.out, rfl⟩, hid (List.Perm.refl _), HQ0, hid (Fr2.refl _ _ _)⟩
  case round =>
    obtain ⟨i, l, rfl, hgg, hi, HD, HP, HQ, HF⟩ := hrel
    have HL : Hid (l.length = n) := hid (HP.out.length_eq.trans HL0.out)
    obtain ⟨j1, HJ1⟩ : ∃ j, Hid (2 * i + 1 = j) := ⟨_, rfl⟩
    have hij1 : i < j1 := by rw [← HJ1.out]; omega
    have hjb : j1 ≤ 7000 := by rw [← HJ1.out]; omega
    have hj1i : 2 * (i : Int) + 1 = (j1 : Int) := by rw [← HJ1.out]; omega
    have hj0 : ¬ (j1 : Int) < 0 := by omega
    by_cases hge : m ≤ j1
    · have hgei : (m : Int) ≤ (j1 : Int) := by omega
      go_wp2
      go_ret
      exact ⟨⟨_, rfl⟩, l, HP.out, HQ.out, HF.out, HD.out.1.done (fun k k0 km hk => by have := HJ1.out; omega), HD.out.2⟩
    · have hgei : ¬ (m : Int) ≤ (j1 : Int) := by omega
      obtain ⟨j2, HJ2⟩ : ∃ j, Hid (j1 + 1 = j) := ⟨_, rfl⟩
      have hj2i : (j1 : Int) + 1 = (j2 : Int) := by rw [← HJ2.out]; omega
      have hj2b : j2 ≤ 7001 := by rw [← HJ2.out]; omega
      have hij2 : i < j2 := by rw [← HJ2.out]; omega
      by_cases hlt : j2 < m
      · have hlti : (j2 : Int) < (m : Int) := by omega
        have hc := HQ.out.cell
        have mL := method_less hc
        have C109 : Hid (Calls Tryd.prog 109 #[.slice (some ⟨g, 0, none⟩) n cap, .int .i64 j2, .int .i64 j1] wr fun e w' => e = .returned (.bool (lsN (l.getD j2 nd0) (l.getD j1 nd0))) ∧ Below wr.heap.size wr w') := hid (less_any (HQ.out.pn HL.out) HL.out (by omega) HQ.out.wf (by omega) (by omega))
        obtain ⟨b, HBB⟩ : ∃ b, Hid (lsN (l.getD j2 nd0) (l.getD j1 nd0) = b) := ⟨_, rfl⟩
        rw [HBB.out] at C109
        go_wp2_with fail
        refine C109.out.mono ?_
        rintro ev w4 ⟨rfl, hb4⟩
        have HQ4 : Hid (Qu w4 Qb B (.slice (some ⟨g, 0, none⟩) n cap) l) := hid (HQ.out.below hb4)
        have HF4 : Hid (Fr2 Qb (some g) w w4) := hid (HF.out.trans (Fr2.of_below (r := none) hb4) (fun k hk => by cases hk))
        clear hb4 mL hc
        cases b with
        | false =>
          have hjm : j1 < m := by omega
          have hij : i < j1 := hij1
          have HPJ : Hid ((j1 - 1) / 2 = i) := hid (by have := HJ1.out; omega)
          have HM : Hid (∀ k, 0 < k → k < m → (k - 1) / 2 = i → ¬ Ah (l.getD k nd0) (l.getD j1 nd0)) := hid (fun k k0 km hk => by
            have h1 := HJ1.out
            have h2 := HJ2.out
            have h3 : k = j1 ∨ k = j2 := by omega
            rcases h3 with e | e
            · rw [e]; exact Ah.irrefl _
            · rw [e]; exact nah_of HBB.out)
          clear hj1i hj2i HBB HJ1 HJ2
          generalize j1 = j at *
          have hcw4 := HQ4.out.cell
          have mT := method_less hcw4
          have CT : Hid (Calls Tryd.prog 109 #[.slice (some ⟨g, 0, none⟩) n cap, .int .i64 j, .int .i64 i] w4 fun e w' => e = .returned (.bool (lsN (l.getD j nd0) (l.getD i nd0))) ∧ Below w4.heap.size w4 w') := hid (less_any (HQ4.out.pn HL.out) HL.out (by omega) HQ4.out.wf (by omega) (by omega))
          obtain ⟨bt, HBT⟩ : ∃ b, Hid (lsN (l.getD j nd0) (l.getD i nd0) = b) := ⟨_, rfl⟩
          rw [HBT.out] at CT
          go_wp2_with fail
          refine CT.out.mono ?_
          rintro ev w7 ⟨rfl, hb7⟩
          have HQ7 : Hid (Qu w7 Qb B (.slice (some ⟨g, 0, none⟩) n cap) l) := hid (HQ4.out.below hb7)
          have HF7 : Hid (Fr2 Qb (some g) w w7) := hid (HF4.out.trans (Fr2.of_below (r := none) hb7) (fun k hk => by cases hk))
          clear hb7 mT hcw4
          cases bt with
          | false =>
            go_wp2
            go_ret
            exact ⟨⟨_, rfl⟩, l, HP.out, HQ7.out, HF7.out, HD.out.1.done (fun k k0 km hk => nah_trans (nah_of HBT.out) (HM.out k k0 km hk)), HD.out.2⟩
          | true =>
            have hc7 := HQ7.out.cell
            have mS := method_swap hc7
            have C112 : Hid (Calls Tryd.prog 112 #[.slice (some ⟨g, 0, none⟩) n cap, .int .i64 i, .int .i64 j] w7 fun e w' => e = .returned (.tuple #[]) ∧ Qu w' Qb B (.slice (some ⟨g, 0, none⟩) n cap) (swp l i j nd0) ∧ Fr2 Qb (some g) w7 w') := hid (HQ7.out.swap HL.out hn i j (by omega) (by omega))
            go_wp2_with fail
            refine C112.out.mono ?_
            rintro ev w8 ⟨rfl, hq8, hf8⟩
            have HQ8 : Hid (Qu w8 Qb B (.slice (some ⟨g, 0, none⟩) n cap) (swp l i j nd0)) := hq8
            have HF8 : Hid (Fr2 Qb (some g) w w8) := hid (HF7.out.trans hf8 (fun k hk => .inl hk))
            have HD8 : Hid (DownI (swp l i j nd0) m j ∧ (swp l i j nd0).getD m nd0 = l0.getD m nd0) := hid ⟨HD.out.1.swap (by rw [HL.out]; omega) hjm (by omega) HPJ.out (ah_of HBT.out) HM.out, by rw [swp_at l i j m nd0 (by rw [HL.out]; omega) (by rw [HL.out]; omega), if_neg (by omega), if_neg (by omega)]; exact HD.out.2⟩
            have HP8 : Hid ((swp l i j nd0).Perm l0) := hid ((swp_perm l i j nd0 (by rw [HL.out]; omega) (by rw [HL.out]; omega)).trans HP.out)
            clear hq8 hf8 mS hc7
            go_wp2
            go_roundg (m - j)
            case measure => omega
            case rel => exact ⟨j, _, rfl, rfl, by omega, HD8, HP8, HQ8, HF8⟩
        | true =>
          have hjm : j2 < m := hlt
          have hij : i < j2 := hij2
          have HPJ : Hid ((j2 - 1) / 2 = i) := hid (by have := HJ1.out; have := HJ2.out; omega)
          have HM : Hid (∀ k, 0 < k → k < m → (k - 1) / 2 = i → ¬ Ah (l.getD k nd0) (l.getD j2 nd0)) := hid (fun k k0 km hk => by
            have h1 := HJ1.out
            have h2 := HJ2.out
            have h3 : k = j1 ∨ k = j2 := by omega
            rcases h3 with e | e
            · rw [e]; exact (ah_of HBB.out).asymm
            · rw [e]; exact Ah.irrefl _)
          clear hj1i hj2i HBB HJ1 HJ2
          generalize HJX : j2 = j at *
          clear HJX
          have hcw4 := HQ4.out.cell
          have mT := method_less hcw4
          have CT : Hid (Calls Tryd.prog 109 #[.slice (some ⟨g, 0, none⟩) n cap, .int .i64 j, .int .i64 i] w4 fun e w' => e = .returned (.bool (lsN (l.getD j nd0) (l.getD i nd0))) ∧ Below w4.heap.size w4 w') := hid (less_any (HQ4.out.pn HL.out) HL.out (by omega) HQ4.out.wf (by omega) (by omega))
          obtain ⟨bt, HBT⟩ : ∃ b, Hid (lsN (l.getD j nd0) (l.getD i nd0) = b) := ⟨_, rfl⟩
          rw [HBT.out] at CT
          go_wp2_with fail
          refine CT.out.mono ?_
          rintro ev w7 ⟨rfl, hb7⟩
          have HQ7 : Hid (Qu w7 Qb B (.slice (some ⟨g, 0, none⟩) n cap) l) := hid (HQ4.out.below hb7)
          have HF7 : Hid (Fr2 Qb (some g) w w7) := hid (HF4.out.trans (Fr2.of_below (r := none) hb7) (fun k hk => by cases hk))
          clear hb7 mT hcw4
          cases bt with
          | false =>
            go_wp2
            go_ret
            exact ⟨⟨_, rfl⟩, l, HP.out, HQ7.out, HF7.out, HD.out.1.done (fun k k0 km hk => nah_trans (nah_of HBT.out) (HM.out k k0 km hk)), HD.out.2⟩
          | true =>
            have hc7 := HQ7.out.cell
            have mS := method_swap hc7
            have C112 : Hid (Calls Tryd.prog 112 #[.slice (some ⟨g, 0, none⟩) n cap, .int .i64 i, .int .i64 j] w7 fun e w' => e = .returned (.tuple #[]) ∧ Qu w' Qb B (.slice (some ⟨g, 0, none⟩) n cap) (swp l i j nd0) ∧ Fr2 Qb (some g) w7 w') := hid (HQ7.out.swap HL.out hn i j (by omega) (by omega))
            go_wp2_with fail
            refine C112.out.mono ?_
            rintro ev w8 ⟨rfl, hq8, hf8⟩
            have HQ8 : Hid (Qu w8 Qb B (.slice (some ⟨g, 0, none⟩) n cap) (swp l i j nd0)) := hq8
            have HF8 : Hid (Fr2 Qb (some g) w w8) := hid (HF7.out.trans hf8 (fun k hk => .inl hk))
            have HD8 : Hid (DownI (swp l i j nd0) m j ∧ (swp l i j nd0).getD m nd0 = l0.getD m nd0) := hid ⟨HD.out.1.swap (by rw [HL.out]; omega) hjm (by omega) HPJ.out (ah_of HBT.out) HM.out, by rw [swp_at l i j m nd0 (by rw [HL.out]; omega) (by rw [HL.out]; omega), if_neg (by omega), if_neg (by omega)]; exact HD.out.2⟩
            have HP8 : Hid ((swp l i j nd0).Perm l0) := hid ((swp_perm l i j nd0 (by rw [HL.out]; omega) (by rw [HL.out]; omega)).trans HP.out)
            clear hq8 hf8 mS hc7
            go_wp2
            go_roundg (m - j)
            case measure => omega
            case rel => exact ⟨j, _, rfl, rfl, by omega, HD8, HP8, HQ8, HF8⟩
      · have hlti : ¬ (j2 : Int) < (m : Int) := by omega
        have hjm : j1 < m := by omega
        have HPJ : Hid ((j1 - 1) / 2 = i) := hid (by have := HJ1.out; omega)
        have HM : Hid (∀ k, 0 < k → k < m → (k - 1) / 2 = i → ¬ Ah (l.getD k nd0) (l.getD j1 nd0)) := hid (fun k k0 km hk => by
          have h1 := HJ1.out
          have h2 := HJ2.out
          have h3 : k = j1 := by omega
          rw [h3]; exact Ah.irrefl _)
        obtain ⟨j, HJ⟩ : ∃ j, j1 = j := ⟨_, rfl⟩
        subst HJ
        obtain ⟨j, HJE⟩ : ∃ j, Hid (j = j1) := ⟨_, rfl⟩
        have e := HJE.out
        subst e
        have hcwr := HQ.out.cell
        have mT := method_less hcwr
        have CT : Hid (Calls Tryd.prog 109 #[.slice (some ⟨g, 0, none⟩) n cap, .int .i64 j, .int .i64 i] wr fun e w' => e = .returned (.bool (lsN (l.getD j nd0) (l.getD i nd0))) ∧ Below wr.heap.size wr w') := hid (less_any (HQ.out.pn HL.out) HL.out (by omega) HQ.out.wf (by omega) (by omega))
        obtain ⟨bt, HBT⟩ : ∃ b, Hid (lsN (l.getD j nd0) (l.getD i nd0) = b) := ⟨_, rfl⟩
        rw [HBT.out] at CT
        go_wp2_with fail
        refine CT.out.mono ?_
        rintro ev w7 ⟨rfl, hb7⟩
        have HQ7 : Hid (Qu w7 Qb B (.slice (some ⟨g, 0, none⟩) n cap) l) := hid (HQ.out.below hb7)
        have HF7 : Hid (Fr2 Qb (some g) w w7) := hid (HF.out.trans (Fr2.of_below (r := none) hb7) (fun k hk => by cases hk))
        clear hb7 mT hcwr
        cases bt with
        | false =>
          go_wp2
          go_ret
          exact ⟨⟨_, rfl⟩, l, HP.out, HQ7.out, HF7.out, HD.out.1.done (fun k k0 km hk => nah_trans (nah_of HBT.out) (HM.out k k0 km hk)), HD.out.2⟩
        | true =>
          have hc7 := HQ7.out.cell
          have mS := method_swap hc7
          have C112 : Hid (Calls Tryd.prog 112 #[.slice (some ⟨g, 0, none⟩) n cap, .int .i64 i, .int .i64 j] w7 fun e w' => e = .returned (.tuple #[]) ∧ Qu w' Qb B (.slice (some ⟨g, 0, none⟩) n cap) (swp l i j nd0) ∧ Fr2 Qb (some g) w7 w') := hid (HQ7.out.swap HL.out hn i j (by omega) (by omega))
          go_wp2_with fail
          refine C112.out.mono ?_
          rintro ev w8 ⟨rfl, hq8, hf8⟩
          have HQ8 : Hid (Qu w8 Qb B (.slice (some ⟨g, 0, none⟩) n cap) (swp l i j nd0)) := hq8
          have HF8 : Hid (Fr2 Qb (some g) w w8) := hid (HF7.out.trans hf8 (fun k hk => .inl hk))
          have HD8 : Hid (DownI (swp l i j nd0) m j ∧ (swp l i j nd0).getD m nd0 = l0.getD m nd0) := hid ⟨HD.out.1.swap (by rw [HL.out]; omega) hjm (by omega) HPJ.out (ah_of HBT.out) HM.out, by rw [swp_at l i j m nd0 (by rw [HL.out]; omega) (by rw [HL.out]; omega), if_neg (by omega), if_neg (by omega)]; exact HD.out.2⟩
          have HP8 : Hid ((swp l i j nd0).Perm l0) := hid ((swp_perm l i j nd0 (by rw [HL.out]; omega) (by rw [HL.out]; omega)).trans HP.out)
          clear hq8 hf8 mS hc7
          go_wp2
          go_roundg (m - j)
          case measure => omega
          case rel => exact ⟨j, _, rfl, rfl, by omega, HD8, HP8, HQ8, HF8⟩
set_option maxRecDepth 20000 in
set_option maxHeartbeats 1000000 in
/-- 'heap.Pop'. -/
theorem hpop_any {w : World} {Qb B g n cap : Nat} {l : List Nd} (h : Qu w Qb B (.slice (some ⟨g, 0, none⟩) n cap) l) (hl : l.length = n) (hn : n ≤ 2000) (hn0 : 0 < n) (hh : Hp l l.length) :
    Calls Tryd.prog 49 #[.iface 99 (.pointer (some ⟨Qb, 0, none⟩))] w fun e w' => ∃ (x : Nd) (l' : List Nd), l.Perm (x :: l') ∧ (∀ y ∈ l, ¬ Ah y x) ∧ Hp l' l'.length ∧ e = .returned (.iface 53 (.agg (ndV x).toArray)) ∧ Qu w' Qb B (.slice (some ⟨g, 0, none⟩) (n - 1) cap) l' ∧ Fr2 Qb (some g) w w' := by
  obtain ⟨n1, HN1⟩ : ∃ n1, Hid (n = n1 + 1) := ⟨n - 1, hid (by omega)⟩
  have hn1 : (n : Int) - 1 = (n1 : Int) := by have := HN1.out; omega
  have hn1b : n1 ≤ 2000 := by have := HN1.out; omega
  have hn1n : n1 < n := by have := HN1.out; omega
  have HL : Hid (l.length = n) := hl
  have hc := h.cell
  have mLn := method_len hc
  have mS := method_swap hc
  have C48 : Hid (Calls Tryd.prog 48 #[.slice (some ⟨g, 0, none⟩) n cap] w fun e w' => e = .returned (.int .i64 n) ∧ w' = w) := hid (by
    go_enter Tryd.func48, Tryd.ntmps48
    go_wp2
    go_ret
    exact ⟨rfl, rfl⟩)
  have C112 : Hid (Calls Tryd.prog 112 #[.slice (some ⟨g, 0, none⟩) n cap, .int .i64 0, .int .i64 n1] w fun e w' => e = .returned (.tuple #[]) ∧ Qu w' Qb B (.slice (some ⟨g, 0, none⟩) n cap) (swp l 0 n1 nd0) ∧ Fr2 Qb (some g) w w') := hid (h.swap hl (by omega) 0 n1 hn0 hn1n)
  have HH : Hid (Hp l l.length) := hh
  clear h hl hh
  go_enter Tryd.func49, Tryd.ntmps49
  go_wp2_with fail
  refine C48.out.mono ?_
  rintro ev w1 ⟨rfl, rfl⟩
  go_wp2_with fail
  refine C112.out.mono ?_
  rintro ev w2 ⟨rfl, hq2, hf2⟩
  have HP2 : Hid ((swp l 0 n1 nd0).Perm l) := hid (swp_perm l 0 n1 nd0 (by rw [HL.out]; exact hn0) (by rw [HL.out]; exact hn1n))
  have HF2 : Hid (Fr2 Qb (some g) w1 w2) := hf2
  have C57 : Hid (Calls Tryd.prog 57 #[.iface 99 (.pointer (some ⟨Qb, 0, none⟩)), .int .i64 0, .int .i64 n1] w2 fun e w' => AB e ∧ PostD w2 Qb B g n cap n1 (swp l 0 n1 nd0) w') := hid (down_any hq2 (HP2.out.length_eq.trans HL.out) (by omega) 0 n1 hn1n (Nat.zero_le _) (by
    have h1 := HH.out
    rw [HL.out] at h1
    exact h1.down hn1n (by rw [HL.out]; exact Nat.le_refl _)))
  clear hq2 hf2 mLn mS hc
  go_wp2_with fail
  refine C57.out.mono ?_
  rintro ev w3 ⟨⟨b, rfl⟩, l3, hp3, hq3, hf3, hh3, hx3⟩
  have hl3 : l3.length = n := by rw [hp3.length_eq, HP2.out.length_eq]; exact HL.out
  obtain ⟨x, HX⟩ : ∃ x, Hid (l3.getD n1 nd0 = x) := ⟨_, rfl⟩
  obtain ⟨l1, HL1⟩ : ∃ l1, Hid (l3.take n1 = l1) := ⟨_, rfl⟩
  have HH1 : Hid (Hp l1 l1.length) := hid (by rw [← HL1.out]; exact hh3.take)
  have HBE : Hid (∀ y ∈ l, ¬ Ah y x) := hid (by
    have e : x = l.getD 0 nd0 := by rw [← HX.out, hx3, swp_at l 0 n1 n1 nd0 (by rw [HL.out]; exact hn0) (by rw [HL.out]; exact hn1n), if_pos rfl]
    rw [e]
    exact fun y hy => HH.out.best y hy)
  clear hh3 hx3
  have hsp : l3 = l1 ++ [x] := by
    have := take_snocG nd0 l3 n1 (by rw [hl3]; exact hn1n)
    rw [List.take_of_length_le (by have := HN1.out; omega), HX.out, HL1.out] at this
    exact this
  have hl1 : l1.length = n1 := by rw [← HL1.out, List.length_take, hl3]; omega
  have HPM : Hid (l.Perm (x :: l1)) := hid (((HP2.out.symm.trans hp3.symm).trans (by rw [hsp])).trans List.perm_append_comm)
  have mP := method_pop ⟨Qb, 0, none⟩ w3
  obtain ⟨R, HR⟩ : ∃ R : List Value, Hid (ndV x = R) := ⟨_, rfl⟩
  have C110 : Hid (Calls Tryd.prog 110 #[.pointer (some ⟨Qb, 0, none⟩)] w3 fun e w' => e = .returned (.iface 53 (.agg R.toArray)) ∧ Qu w' Qb B (.slice (some ⟨g, 0, none⟩) n1 cap) l1 ∧ Fr2 Qb (some g) w3 w') := hid (by
    rw [HN1.out, hsp] at hq3
    rw [← HR.out]
    exact qpop_any hq3 hl1 hn1b)
  have HF3 : Hid (Fr2 Qb (some g) w1 w3) := hid (HF2.out.trans hf3 (fun k hk => .inl hk))
  clear hp3 hq3 hf3 hsp hl1 hl3
  go_wp2_with fail
  refine C110.out.mono ?_
  rintro ev w4 ⟨rfl, hq4, hf4⟩
  have HQ4 : Hid (Qu w4 Qb B (.slice (some ⟨g, 0, none⟩) n1 cap) l1) := hq4
  have HF4 : Hid (Fr2 Qb (some g) w1 w4) := hid (HF3.out.trans hf4 (fun k hk => .inl hk))
  clear hq4 hf4 mP
  go_wp2
  go_ret
  exact ⟨x, l1, HPM.out, HBE.out, HH1.out, by rw [HR.out]; rfl, by rw [show n - 1 = n1 by have := HN1.out; omega]; exact HQ4.out, HF4.out⟩
end Go.Proofs.YtjgjeedablgmeaaDoor
