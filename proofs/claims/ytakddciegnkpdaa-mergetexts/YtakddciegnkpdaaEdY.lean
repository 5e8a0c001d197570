/- 'diff.Edits'; 'sameEdits'. -/
import Derived.Test.YtakddciegnkpdaaEdX
namespace Go.Proofs.Ytakddciegnkpdaa
open Go.RowKit
set_option linter.unusedVariables false
set_option linter.unusedSimpArgs false
set_option maxRecDepth 20000 in
theorem edits_any {w : World} (a : Option Addr) (ca : Nat) (s : Str) (hA : PB w a ca s) (hs : s.length ≤ 4000) (b : Option Addr) (cb : Nat) (t : Str) (hB : PB w b cb t) (ht : t.length ≤ 4000) :
    Calls Try.prog 24 #[.slice a s.length ca, .slice b t.length cb] w (PostW (edits (lns s) (lns t)) w) := by
  obtain ⟨n, HN⟩ : ∃ n, Hid (s.length = n) := ⟨_, rfl⟩
  obtain ⟨m, HM⟩ : ∃ n, Hid (t.length = n) := ⟨_, rfl⟩
  obtain ⟨g, HG⟩ : ∃ g, Hid (w.heap.size = g) := ⟨_, rfl⟩
  obtain ⟨X, HX⟩ : ∃ X, Hid (lns s = X) := ⟨_, rfl⟩
  obtain ⟨Y, HY⟩ : ∃ X, Hid (lns t = X) := ⟨_, rfl⟩
  have HXl : Hid (X.length ≤ 4000) := hid (by rw [← HX.out]; exact Nat.le_trans (lns_few s) hs)
  have HYl : Hid (Y.length ≤ 4000) := hid (by rw [← HY.out]; exact Nat.le_trans (lns_few t) ht)
  have HXs : Hid (∀ x ∈ X, x.length ≤ 4000) := fun x hx => by have := lns_short s x (by rw [HX.out]; exact hx); omega
  have HYs : Hid (∀ x ∈ Y, x.length ≤ 4000) := fun x hx => by have := lns_short t x (by rw [HY.out]; exact hx); omega
  have C1 : Hid (Calls Try.prog 19 #[.slice a n ca] w (PostS X w)) := hid (by rw [← HN.out, ← HX.out]; exact lines_any a ca s hA hs)
  have C2 : Hid (∀ W, Below g w W → Calls Try.prog 19 #[.slice b m cb] W (PostS Y W)) := fun W hW => by rw [← HM.out, ← HY.out]; exact lines_any b cb t (hB.below (by rw [HG.out]; exact hW)) ht
  rw [HN.out, HM.out, HX.out, HY.out]
  clear hA hB hs ht
  go_enter Try.func24, Try.ntmps24
  go_wp2_with fail
  refine C1.out.mono ?_
  rintro e w1 ⟨v, rfl, hbs⟩
  obtain ⟨xa, xc, rfl, hps, hxa, _⟩ := hbs.px (d := []) (fun x _ => encS_len x)
  have HB1 : Hid (Below g w w1) := hid (by rw [← HG.out]; exact hbs.below)
  have C2' : Hid (Calls Try.prog 19 #[.slice b m cb] w1 (PostS Y w1)) := hid (C2.out w1 HB1.out)
  have HPX1 : Hid (PS w1 xa xc X) := hps
  have HXA : Hid (∀ p : Addr, xa = some p → p.block < w1.heap.size) := fun p hp => (hxa p hp).2
  clear hbs hps hxa
  go_wp2_with fail
  refine C2'.out.mono ?_
  rintro e w2 ⟨v, rfl, hbs⟩
  obtain ⟨ya, yc, rfl, hps, hya, _⟩ := hbs.px (d := []) (fun x _ => encS_len x)
  have HB2 : Hid (Below g w w2) := hid (HB1.out.trans (hbs.below.mono (by have := HB1.out.size; have := HG.out; omega)))
  have C16 : Hid (Calls Try.prog 28 #[.slice xa X.length xc, .slice ya Y.length yc] w2 (PostW (edits X Y) w2)) := hid (between_any xa xc X (HPX1.out.below hbs.below) (fun p hp => Nat.lt_of_lt_of_le (HXA.out p hp) hbs.below.size) ya yc Y hps (fun p hp => (hya p hp).2) HXl.out HYl.out HXs.out HYs.out)
  clear hbs hps hya
  go_wp2_with fail
  refine C16.out.mono ?_
  rintro e w3 ⟨v3, rfl, hbe⟩
  have hgs : g ≤ w2.heap.size := by have := HB2.out.size; have := HG.out; omega
  have HFIN : Hid (BE 58 w w3 w.heap.size v3 (edits X Y)) := hid (by
    have hb := HB2.out.trans (hbe.below.mono hgs)
    exact ⟨by rw [HG.out]; exact hb, base_mono hbe.own (by rw [HG.out]; exact hgs), hb.size⟩)
  clear hbe
  go_wp2
  go_ret
  exact ⟨_, rfl, HFIN.out⟩
end Go.Proofs.Ytakddciegnkpdaa
