/- 'heap.up', 'heap.Push'. -/
import Derived.Test.YtjgjeedablgmeaaDoorGpL
namespace Go.Proofs.YtjgjeedablgmeaaDoor
open Go.RowKit
set_option linter.unusedVariables false
set_option linter.unusedSimpArgs false
theorem Qu.pn {w : World} {Qb B g n cap : Nat} {l : List Nd} (h : Qu w Qb B (.slice (some ⟨g, 0, none⟩) n cap) l) (hl : l.length = n) : Pn w (some ⟨g, 0, none⟩) cap l := by
  obtain ⟨a', cap', e1, e2, _⟩ := h.own.px (d := nd0) (fun y hy => ndV_len y (h.wf y hy))
  rw [hl] at e1
  injection e1 with h1 h2 h3
  rw [← h1, ← h3] at e2
  exact e2
/-- Two of a queue change places. -/
theorem Qu.swap {w : World} {Qb B g n cap : Nat} {l : List Nd} (h : Qu w Qb B (.slice (some ⟨g, 0, none⟩) n cap) l) (hl : l.length = n) (hn : n ≤ 3000) (i j : Nat) (hi : i < n) (hj : j < n) :
    Calls Tryd.prog 112 #[.slice (some ⟨g, 0, none⟩) n cap, .int .i64 i, .int .i64 j] w fun e w' => e = .returned (.tuple #[]) ∧ Qu w' Qb B (.slice (some ⟨g, 0, none⟩) n cap) (swp l i j nd0) ∧ Fr2 Qb (some g) w w' := by
  refine (swap_any w w B g n cap i j l h.own hl hn hi hj h.wf).mono ?_
  rintro e w' ⟨rfl, h1, h2⟩
  have hp := swp_perm l i j nd0 (by rw [hl]; exact hi) (by rw [hl]; exact hj)
  exact ⟨rfl, h.row h1 h2 (fun x hx => h.wf x (hp.mem_iff.1 hx)), Fr2.of_grown h2⟩
/-- What moving about in a queue leaves. -/
def PostU (w : World) (Qb B g n cap : Nat) (l : List Nd) (w' : World) : Prop := ∃ l', l'.Perm l ∧ Qu w' Qb B (.slice (some ⟨g, 0, none⟩) n cap) l' ∧ Fr2 Qb (some g) w w' ∧ Hp l' n
set_option maxRecDepth 20000 in
set_option maxHeartbeats 1000000 in
theorem up_any {w : World} {Qb B g n cap : Nat} {l0 : List Nd} (h : Qu w Qb B (.slice (some ⟨g, 0, none⟩) n cap) l0) (hl : l0.length = n) (hn : n ≤ 3000) (j0 : Nat) (hj0 : j0 < n) (hu : UpI l0 n j0) :
    Calls Tryd.prog 56 #[.iface 99 (.pointer (some ⟨Qb, 0, none⟩)), .int .i64 j0] w fun e w' => e = .returned (.tuple #[]) ∧ PostU w Qb B g n cap l0 w' := by
  have HQ0 : Hid (Qu w Qb B (.slice (some ⟨g, 0, none⟩) n cap) l0) := h
  have HL0 : Hid (l0.length = n) := hl
  have HU0 : Hid (UpI l0 n j0) := hu
  clear h hl hu
  go_enter Tryd.func56, Tryd.ntmps56
  go_wp2_with fail
  go_loopg [1] j0 (fun gg jv wr => ∃ (j : Nat) (l : List Nd), jv = .int .i64 j ∧ gg = j ∧ j < n ∧ Hid (UpI l n j) ∧ Hid (l.Perm l0) ∧ Hid (Qu wr Qb B (.slice (some ⟨g, 0, none⟩) n cap) l) ∧ Hid (Fr2 Qb (some g) w wr))
  case atStart => exact ⟨j0, l0, rfl, rfl, hj0, HU0, hid (List.Perm.refl _), HQ0, hid (Fr2.refl _ _ _)⟩
  case round =>
    obtain ⟨j, l, rfl, hgg, hj, HU, HP, HQ, HF⟩ := hrel
    have HL : Hid (l.length = n) := hid (HP.out.length_eq.trans HL0.out)
    by_cases hz : j = 0
    · subst hz
      go_wp2
      go_end0
      exact ⟨rfl, l, HP.out, HQ.out, HF.out, HU.out.done (fun e => absurd e (Nat.lt_irrefl _))⟩
    · obtain ⟨i, HI⟩ : ∃ i, Hid ((j - 1) / 2 = i) := ⟨_, rfl⟩
      have hij : i < j := by rw [← HI.out]; omega
      have hi : i < n := by omega
      have h1 : ((j : Int) - 1).tdiv 2 = (i : Int) := by
        have : (j : Int) - 1 = ((j - 1 : Nat) : Int) := by omega
        rw [this, ← HI.out, Int.tdiv_eq_ediv_of_nonneg (by omega)]
        omega
      have h2 : ((j : Int) - 1) / 2 = (i : Int) := by rw [← HI.out]; omega
      have hne : ¬ (i : Int) = (j : Int) := by omega
      have hc := HQ.out.cell
      have mL := method_less hc
      have C109 : Hid (Calls Tryd.prog 109 #[.slice (some ⟨g, 0, none⟩) n cap, .int .i64 j, .int .i64 i] wr fun e w' => e = .returned (.bool (lsN (l.getD j nd0) (l.getD i nd0))) ∧ Below wr.heap.size wr w') := hid (less_any (HQ.out.pn HL.out) HL.out (by omega) HQ.out.wf hj hi)
      obtain ⟨b, HBB⟩ : ∃ b, Hid (lsN (l.getD j nd0) (l.getD i nd0) = b) := ⟨_, rfl⟩
      rw [HBB.out] at C109
      have hbq : ((i : Int) == (j : Int)) = false := by rw [beq_eq_false_iff_ne]; exact hne
      go_wp2_with fail
      refine C109.out.mono ?_
      rintro ev w4 ⟨rfl, hb4⟩
      have HQ4 : Hid (Qu w4 Qb B (.slice (some ⟨g, 0, none⟩) n cap) l) := hid (HQ.out.below hb4)
      have HF4 : Hid (Fr2 Qb (some g) w w4) := hid (HF.out.trans (Fr2.of_below (r := none) hb4) (fun k hk => by cases hk))
      clear hb4 mL hc
      cases b with
      | false =>
        go_wp2
        go_end0
        exact ⟨rfl, l, HP.out, HQ4.out, HF4.out, HU.out.done (fun _ => by rw [HI.out]; exact nah_of HBB.out)⟩
      | true =>
        have hc4 := HQ4.out.cell
        have mS := method_swap hc4
        have C112 : Hid (Calls Tryd.prog 112 #[.slice (some ⟨g, 0, none⟩) n cap, .int .i64 i, .int .i64 j] w4 fun e w' => e = .returned (.tuple #[]) ∧ Qu w' Qb B (.slice (some ⟨g, 0, none⟩) n cap) (swp l i j nd0) ∧ Fr2 Qb (some g) w4 w') := hid (HQ4.out.swap HL.out hn i j hi hj)
        go_wp2_with fail
        refine C112.out.mono ?_
        rintro ev w5 ⟨rfl, hq5, hf5⟩
        have HQ5 : Hid (Qu w5 Qb B (.slice (some ⟨g, 0, none⟩) n cap) (swp l i j nd0)) := hq5
        have HF5 : Hid (Fr2 Qb (some g) w w5) := hid (HF4.out.trans hf5 (fun k hk => .inl hk))
        have HP5 : Hid ((swp l i j nd0).Perm l0) := hid ((swp_perm l i j nd0 (by rw [HL.out]; exact hi) (by rw [HL.out]; exact hj)).trans HP.out)
        have HU5 : Hid (UpI (swp l i j nd0) n i) := hid (by
          have := HU.out.swap (by rw [HL.out]; exact Nat.le_refl _) hj (by omega) (by rw [HI.out]; exact ah_of HBB.out)
          rwa [HI.out] at this)
        clear hq5 hf5 mS hc4
        go_wp2
        go_roundg i
        case measure => omega
        case rel => exact ⟨i, _, rfl, rfl, hi, HU5, HP5, HQ5, HF5⟩
set_option maxRecDepth 20000 in
set_option maxHeartbeats 1000000 in
/-- 'heap.Push'. -/
theorem hpush_any {w : World} {Qb B : Nat} {v : Value} {l : List Nd} (h : Qu w Qb B v l) (hl : l.length ≤ 2000) (x : Nd) (hx : x.id.length = 20) (hh : Hp l l.length) :
    Calls Tryd.prog 47 #[.iface 99 (.pointer (some ⟨Qb, 0, none⟩)), .iface 53 (.agg (ndV x).toArray)] w fun e w' => e = .returned (.tuple #[]) ∧ ∃ v' l', l'.Perm (x :: l) ∧ Hp l' l'.length ∧ Qu w' Qb B v' l' ∧ Fr2 Qb v.ownBlock w w' ∧ (v'.ownBlock = v.ownBlock ∨ ∃ k, v'.ownBlock = some k ∧ w.heap.size ≤ k) := by
  obtain ⟨R, HR⟩ : ∃ R : List Value, Hid (ndV x = R) := ⟨_, rfl⟩
  have mP := method_push ⟨Qb, 0, none⟩ w
  have C111 : Hid (Calls Tryd.prog 111 #[.pointer (some ⟨Qb, 0, none⟩), .iface 53 (.agg R.toArray)] w fun e w' => e = .returned (.tuple #[]) ∧ ∃ v', Qu w' Qb B v' (l ++ [x]) ∧ Fr2 Qb v.ownBlock w w' ∧ (v'.ownBlock = v.ownBlock ∨ ∃ k, v'.ownBlock = some k ∧ w.heap.size ≤ k)) := hid (by rw [← HR.out]; exact push_any h hl x hx)
  obtain ⟨n, HN⟩ : ∃ n, Hid ((l ++ [x]).length = n) := ⟨_, rfl⟩
  have hnb : n ≤ 2001 := by rw [← HN.out]; simp; omega
  have hn0 : 0 < n := by rw [← HN.out]; simp
  rw [HR.out]
  have HH : Hid (Hp l l.length) := hh
  clear h hh
  go_enter Tryd.func47, Tryd.ntmps47
  go_wp2_with fail
  refine C111.out.mono ?_
  rintro ev w1 ⟨rfl, v1, hq1, hf1, hv1⟩
  obtain ⟨g, cap, hvg⟩ : ∃ g cap, v1 = .slice (some ⟨g, 0, none⟩) n cap := by
    obtain ⟨_, ⟨_, h1⟩ | ⟨g, cp, cur, h1, _⟩⟩ := hq1.own.own
    · rw [HN.out] at h1; omega
    · rw [HN.out] at h1; exact ⟨g, cp, h1⟩
  subst hvg
  have HQ1 : Hid (Qu w1 Qb B (.slice (some ⟨g, 0, none⟩) n cap) (l ++ [x])) := hq1
  have HF1 : Hid (Fr2 Qb v.ownBlock w w1) := hf1
  have HV1 : Hid ((Value.slice (some ⟨g, 0, none⟩) n cap).ownBlock = v.ownBlock ∨ ∃ k, (Value.slice (some ⟨g, 0, none⟩) n cap).ownBlock = some k ∧ w.heap.size ≤ k) := hv1
  have hc1 := hq1.cell
  have mLn := method_len hc1
  have C48 : Hid (Calls Tryd.prog 48 #[.slice (some ⟨g, 0, none⟩) n cap] w1 fun e w' => e = .returned (.int .i64 n) ∧ w' = w1) := hid (by
    go_enter Tryd.func48, Tryd.ntmps48
    go_wp2
    go_ret
    exact ⟨rfl, rfl⟩)
  obtain ⟨n1, HN1⟩ : ∃ n1, Hid (n = n1 + 1) := ⟨n - 1, hid (by omega)⟩
  have hn1 : (n : Int) - 1 = (n1 : Int) := by have := HN1.out; omega
  have HU1 : Hid (UpI (l ++ [x]) n n1) := hid (by
    have h1 := HN.out
    have h2 := HN1.out
    rw [List.length_append] at h1
    simp only [List.length_cons, List.length_nil] at h1
    have e1 : n = l.length + 1 := h1.symm
    have e2 : n1 = l.length := by omega
    rw [e1, e2]
    exact HH.out.up)
  have C56 : Hid (Calls Tryd.prog 56 #[.iface 99 (.pointer (some ⟨Qb, 0, none⟩)), .int .i64 n1] w1 fun e w' => e = .returned (.tuple #[]) ∧ PostU w1 Qb B g n cap (l ++ [x]) w') := hid (up_any hq1 HN.out (by omega) n1 (by have := HN1.out; omega) HU1.out)
  have hn1b : n1 ≤ 2001 := by have := HN1.out; omega
  clear hq1 hf1 hv1 mP
  go_wp2_with fail
  refine C48.out.mono ?_
  rintro ev w2 ⟨rfl, rfl⟩
  go_wp2_with fail
  refine C56.out.mono ?_
  rintro ev w3 ⟨rfl, l', hp, hq, hf, hh'⟩
  have H1 : Hid (l'.Perm (x :: l)) := hid (hp.trans List.perm_append_comm)
  have H2 : Hid (Qu w3 Qb B (.slice (some ⟨g, 0, none⟩) n cap) l') := hq
  have H3 : Hid (Fr2 Qb v.ownBlock w w3) := hid (HF1.out.trans hf (fun k hk => by
    rcases HV1.out with e | ⟨k', e1, e2⟩
    · exact .inl (e.symm.trans hk)
    · cases e1; cases hk; exact .inr e2))
  have H4 : Hid (Hp l' l'.length) := hid (by rw [hp.length_eq, HN.out]; exact hh')
  clear hp hq hf hh'
  go_wp2
  go_end0
  exact ⟨rfl, _, l', H1.out, H4.out, H2.out, H3.out, HV1.out⟩
end Go.Proofs.YtjgjeedablgmeaaDoor
