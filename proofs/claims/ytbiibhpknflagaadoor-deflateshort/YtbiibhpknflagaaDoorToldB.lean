/- 'readRun'. -/
import Derived.Test.YtbiibhpknflagaaDoorToldA
namespace Go.Proofs.YtbiibhpknflagaaDoor
open Go.RowKit Plain
set_option linter.unusedVariables false

/-- What a symbol of the third code adds to a row: which length, how often, the bit behind it. -/
def runOf (zs : List Int) (p y : Nat) (row : List Nat) : Option (Nat × Nat × Nat) :=
  if y = 16 then (if row.length = 0 then none else if 8 * zs.length < p + 2 then none else some (row.getD (row.length - 1) 0, 3 + getB zs p 2, p + 2))
  else if y = 17 then (if 8 * zs.length < p + 3 then none else some (0, 3 + getB zs p 3, p + 3))
  else if y = 18 then (if 8 * zs.length < p + 7 then none else some (0, 11 + getB zs p 7, p + 7))
  else some (y, 1, p)

theorem ret2_i64 {a b c d : Int} (h1 : a = c) (h2 : b = d) : Ending.returned (.tuple #[.int .i64 a, .int .i64 b]) = .returned (.tuple #[.int .i64 c, .int .i64 d]) := by rw [h1, h2]
set_option maxRecDepth 20000 in
set_option maxHeartbeats 2000000 in
theorem readRun_any (E : Env) (p y m cp R : Nat) (a : Option Addr) (v : Value) (row : List Nat) (w : World) (hz : IsB E.zs) (hl : E.zs.length ≤ 400000) (h : Rd w E p v) (hy : y ≤ 400) (hm : row.length = m) (hm4 : m ≤ 400)
    (hr : 0 < m → a = some ⟨R, 0, none⟩ ∧ R < w.heap.size ∧ R ≠ E.S ∧ w.cell? ⟨R, m - 1, none⟩ = some (.int .i64 (row.getD (m - 1) 0 : Nat))) :
    Calls Tryd.prog 77 #[.pointer (some ⟨E.S, 0, none⟩), .int .i64 y, .slice a m cp] w fun e w' => Kept E.S (.bool true) (.bool true) w w' ∧
      match runOf E.zs p y row with
      | some (x, t, q) => e = .returned (.tuple #[.int .i64 (x : Nat), .int .i64 (t : Nat)]) ∧ Rd w' E q v
      | none => e = .panicked (errv 10) := by
  have HK0 : Hid (Kept E.S (.bool true) (.bool true) w w) := Kept.refl _ _ _
  unfold runOf
  by_cases h16 : y = 16
  · subst h16
    rw [if_pos rfl, hm]
    by_cases hm0 : m = 0
    · subst hm0
      rw [if_pos rfl]
      go_enter Tryd.func77, Tryd.ntmps77
      go_wp2
      exact ⟨rfl, HK0.out, rfl⟩
    · rw [if_neg hm0]
      obtain ⟨rfl, hR1, hR2, hc⟩ := hr (by omega)
      obtain ⟨x, HX⟩ : ∃ x, Hid (x = row.getD (m - 1) 0) := ⟨_, rfl⟩
      rw [← HX.out] at hc ⊢
      obtain ⟨q, HQ⟩ : ∃ q, Hid (q = m - 1) := ⟨_, rfl⟩
      have hq := HQ.out
      have hwr : IntKind.i64.wrap ((m : Int) - 1) = (q : Int) := by rw [show (m : Int) - 1 = (q : Int) from by omega]; exact Plain.wrap_small q (by omega)
      have hq1 : (q : Int) < (m : Int) := by omega
      have hm0' : ((m : Int) == 0) = false := by simp; omega
      rw [← HQ.out] at hc
      clear hq hr
      by_cases hb : 8 * E.zs.length < p + 2
      · rw [if_pos hb]
        go_enter Tryd.func77, Tryd.ntmps77
        go_wp2
        go_region_with (first | (go_at_call 28; refine (number_bad E p 2 v _ hz hl (by omega) ?_ hb).mono ?_; (first | exact h | exact h.drewN _ | exact h.drew); rintro e w3 ⟨rfl, k3⟩; have HK3 : Hid (Kept E.S (.bool true) (.bool true) w w3) := (by first | exact k3 | exact (Kept.refl _ _ _).drew.trans k3 | exact ((Kept.refl _ _ _).drewN _).trans k3); clear k3; refine way_out ⟨rfl, HK3.out, rfl⟩ ?_))
        all_goals exact trivial
      · rw [if_neg hb]
        have gb : getB E.zs p 2 ≤ 3 := by have := getB_lt E.zs p 2; omega
        have hwa : IntKind.i64.wrap (3 + ((getB E.zs p 2 : Nat) : Int)) = ((3 + getB E.zs p 2 : Nat) : Int) := by rw [show (3 : Int) + ((getB E.zs p 2 : Nat) : Int) = ((3 + getB E.zs p 2 : Nat) : Int) from by omega]; exact Plain.wrap_small _ (by omega)
        go_enter Tryd.func77, Tryd.ntmps77
        go_wp2
        go_region_held3 (fun w' => w'.cell? ⟨R, q, none⟩ = some (.int .i64 x)) (go_keep) (first | (go_at_call 28; refine (number_ok E p 2 v _ hz hl (by omega) ?_ (by omega)).mono ?_; (first | exact h | exact h.drewN _ | exact h.drew); rintro e w3 ⟨rfl, r3, k3⟩; have k3' : Kept E.S (.bool true) (.bool true) w w3 := (by first | exact k3 | exact (Kept.refl _ _ _).drew.trans k3); have d6 : w3.cell? ⟨R, q, none⟩ = some (.int .i64 x) := (World.cell?_of_block (a := ⟨R, q, none⟩) (k3'.all R hR1 hR2)).trans hc; have HR3 : Hid (Rd w3 E (p + 2) v) := r3; have HK3 : Hid (Kept E.S (.bool true) (.bool true) w w3) := k3'; clear r3 k3 k3'))
        all_goals
          go_wp2
          go_ret2
          exact ⟨HK3.out, rfl, HR3.out⟩
  · rw [if_neg h16]
    by_cases h17 : y = 17
    · subst h17
      rw [if_pos rfl]
      by_cases hb : 8 * E.zs.length < p + 3
      · rw [if_pos hb]
        go_enter Tryd.func77, Tryd.ntmps77
        go_wp2_with fail
        refine (number_bad E p 3 v w hz hl (by omega) h hb).mono ?_
        rintro e w3 ⟨rfl, k3⟩
        exact ⟨rfl, k3, rfl⟩
      · rw [if_neg hb]
        have gb : getB E.zs p 3 ≤ 7 := by have := getB_lt E.zs p 3; omega
        obtain ⟨g, HG⟩ : ∃ g, Hid (g = getB E.zs p 3) := ⟨_, rfl⟩
        rw [← HG.out] at gb ⊢
        go_enter Tryd.func77, Tryd.ntmps77
        go_wp2_with fail
        refine (number_ok E p 3 v w hz hl (by omega) h (by omega)).mono ?_
        rintro e w3 ⟨rfl, r3, k3⟩
        have HR3 : Hid (Rd w3 E (p + 3) v) := r3
        have HK3 : Hid (Kept E.S (.bool true) (.bool true) w w3) := k3
        rw [← HG.out]
        clear r3 k3
        go_wp2
        go_ret2
        exact ⟨HK3.out, ret2_i64 rfl (by omega), HR3.out⟩
    rw [if_neg h17]
    by_cases h18 : y = 18
    · subst h18
      rw [if_pos rfl]
      by_cases hb : 8 * E.zs.length < p + 7
      · rw [if_pos hb]
        go_enter Tryd.func77, Tryd.ntmps77
        go_wp2_with fail
        refine (number_bad E p 7 v w hz hl (by omega) h hb).mono ?_
        rintro e w3 ⟨rfl, k3⟩
        exact ⟨rfl, k3, rfl⟩
      · rw [if_neg hb]
        have gb : getB E.zs p 7 ≤ 127 := by have := getB_lt E.zs p 7; omega
        obtain ⟨g, HG⟩ : ∃ g, Hid (g = getB E.zs p 7) := ⟨_, rfl⟩
        rw [← HG.out] at gb ⊢
        go_enter Tryd.func77, Tryd.ntmps77
        go_wp2_with fail
        refine (number_ok E p 7 v w hz hl (by omega) h (by omega)).mono ?_
        rintro e w3 ⟨rfl, r3, k3⟩
        have HR3 : Hid (Rd w3 E (p + 7) v) := r3
        have HK3 : Hid (Kept E.S (.bool true) (.bool true) w w3) := k3
        rw [← HG.out]
        clear r3 k3
        go_wp2
        go_ret2
        exact ⟨HK3.out, ret2_i64 rfl (by omega), HR3.out⟩
    rw [if_neg h18]
    have e16 : ((y : Int) == 16) = false := by simp; omega
    have e17 : ((y : Int) == 17) = false := by simp; omega
    have e18 : ((y : Int) == 18) = false := by simp; omega
    have HR : Hid (Rd w E p v) := h
    go_enter Tryd.func77, Tryd.ntmps77
    go_wp2
    go_ret2
    exact ⟨HK0.out, rfl, HR.out⟩
end Go.Proofs.YtbiibhpknflagaaDoor
