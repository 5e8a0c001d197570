/- The document's 'Apply', at whatever bytes. -/
import Derived.Test.YtblegkefeiefjaaDoorRaB
namespace Go.Proofs.YtblegkefeiefjaaDoor
open Go.RowKit Plain
set_option linter.unusedVariables false
set_option linter.unusedSimpArgs false
set_option maxRecDepth 20000 in
set_option maxHeartbeats 1000000 in
theorem refApply_none (a0 ad : Option Addr) (cap0 cd : Nat) (base d : List Int) (w : World) (hzd : IsB d) (hld : d.length ≤ 400000) (hSd : Sl w ad cd d) (hn : szs d = none) :
    Calls Tryd.prog 10 #[.slice a0 base.length cap0, .slice ad d.length cd] w (PostB w none) := by
  have R1 := refSizes_any ad cd d w hzd hld hSd
  rw [hn] at R1
  go_enter Tryd.func10, Tryd.ntmps10
  go_wp2_with (go_at_call 11; refine R1.mono ?_; clear R1; rintro ev w1 ⟨rfl, q, rfl⟩)
  exact bodyPost_ret (results_2 Tryd.results10 _ _ _ _ rfl rfl) rfl ⟨below_drewN (Below.refl _ _) _, none, 0, 0, rfl⟩
set_option maxRecDepth 20000 in
set_option maxHeartbeats 1000000 in
theorem refApply_bad (a0 ad : Option Addr) (cap0 cd : Nat) (base d : List Int) (w : World) (hzd : IsB d) (hlb : base.length ≤ 400000) (hld : d.length ≤ 400000) (hSd : Sl w ad cd d) (n m : Nat) (r : List Int) (hn : szs d = some (n, m, r)) (hbad : ¬ n = base.length ∨ 100000 < m) :
    Calls Tryd.prog 10 #[.slice a0 base.length cap0, .slice ad d.length cd] w (PostB w none) := by
  have R1 := refSizes_any ad cd d w hzd hld hSd
  rw [hn] at R1
  obtain ⟨L0, HL0⟩ : ∃ L0, Hid (L0 = base.length) := ⟨_, rfl⟩
  rw [← HL0.out] at hbad hlb ⊢
  have hcc : ¬ (n : Int) = (L0 : Int) ∨ ((n : Int) = (L0 : Int) ∧ (100000 : Int) < (m : Int)) := by omega
  rcases hcc with h1 | ⟨h1, h2⟩
  all_goals
    go_enter Tryd.func10, Tryd.ntmps10
    go_wp2_with (go_at_call 11; refine R1.mono ?_; clear R1; rintro ev w1 ⟨a1, cap1, q, rfl, rfl, hS1, hn1, hn2⟩)
    exact bodyPost_ret (results_2 Tryd.results10 _ _ _ _ rfl rfl) rfl ⟨below_drewN (Below.refl _ _) _, none, 0, 0, rfl⟩
theorem refApply_any (a0 ad : Option Addr) (cap0 cd : Nat) (base d : List Int) (w : World) (hzd : IsB d) (hlb : base.length ≤ 400000) (hld : d.length ≤ 400000) (hSb : Sl w a0 cap0 base) (hSd : Sl w ad cd d) :
    Calls Tryd.prog 10 #[.slice a0 base.length cap0, .slice ad d.length cd] w (PostB w (app base d)) := by
  cases e : szs d with
  | none =>
    have := refApply_none a0 ad cap0 cd base d w hzd hld hSd e
    simpa only [app, e] using this
  | some x =>
    obtain ⟨n, m, r⟩ := x
    have hap : app base d = if n = base.length ∧ m ≤ 100000 then appS base m r [] else none := by simp only [app, e, appS]
    rw [hap]
    by_cases hc : n = base.length ∧ m ≤ 100000
    · rw [if_pos hc]
      obtain ⟨rfl, hm⟩ := hc
      have h1 : IsB r ∧ r.length ≤ d.length := by
        unfold szs at e
        split at e
        · cases e
        · rename_i e1
          split at e
          · cases e
          · rename_i e2
            simp only [Option.some.injEq, Prod.mk.injEq] at e
            obtain ⟨_, _, rfl⟩ := e
            have g1 := sz_isB e1 hzd
            have g2 := sz_isB e2 g1.1
            exact ⟨g2.1, by omega⟩
      exact refApply_good a0 ad cap0 cd base d w hzd hlb hld hSb hSd m r e hm h1.1 h1.2
    · rw [if_neg hc]
      exact refApply_bad a0 ad cap0 cd base d w hzd hlb hld hSd n m r e (by omega)
end Go.Proofs.YtblegkefeiefjaaDoor
