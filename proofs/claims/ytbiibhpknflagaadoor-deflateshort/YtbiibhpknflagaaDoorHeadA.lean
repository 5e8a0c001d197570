/- 'readHead'. -/
import Derived.Test.YtbiibhpknflagaaDoorSymA
namespace Go.Proofs.YtbiibhpknflagaaDoor
open Go.RowKit Plain
set_option linter.unusedVariables false

/-- 1.2: are the first two bytes those of a zlib stream? -/
def headB (x y : Int) : Bool := x % 16 == 8 && decide (x / 16 ≤ 7) && (x * 256 + y) % 31 == 0 && bits .and .i64 y 32 == 0

set_option maxRecDepth 20000 in
set_option maxHeartbeats 1000000 in
theorem readHead_short (E : Env) (v : Value) (w : World) (hz : IsB E.zs) (hl : E.zs.length ≤ 400000) (h : Str w E 0 0 0 v) (h2 : E.zs.length < 2) :
    Calls Tryd.prog 20 #[.pointer (some ⟨E.S, 0, none⟩)] w fun e w' => e = .panicked (errv 10) ∧ Kept E.S (.bool true) (.bool true) w w' := by
  by_cases h0 : E.zs.length = 0
  · go_enter Tryd.func20, Tryd.ntmps20
    go_wp2_with fail
    refine (readByte_bad E 0 0 v w (by rw [h0]; exact h)).mono ?_
    rintro e w1 ⟨rfl, k1⟩
    exact ⟨rfl, rfl, k1⟩
  · go_enter Tryd.func20, Tryd.ntmps20
    go_wp2_with fail
    refine (readByte_ok E 0 0 0 v w hz hl (by omega) h).mono ?_
    rintro e w1 ⟨rfl, s1, k1⟩
    go_wp2_with fail
    refine (readByte_bad E 0 0 v w1 (by rw [show E.zs.length = 0 + 1 from by omega]; exact s1)).mono ?_
    rintro e w2 ⟨rfl, k2⟩
    exact ⟨rfl, rfl, k1.trans k2⟩

theorem pow_win (k : Nat) (h : k ≤ 7) : IntKind.i64.wrap (2 ^ (k + 8)) = ((2 ^ (k + 8) : Nat) : Int) := by
  have : (2 : Int) ^ (k + 8) = ((2 ^ (k + 8) : Nat) : Int) := by simp
  rw [this]
  exact Plain.wrap_small _ (by have := Nat.pow_le_pow_right (n := 2) (by omega) (show k + 8 ≤ 15 by omega); omega)

theorem Str.set6 {w : World} {E : Env} {nx hold held : Nat} {v : Value} (h : Str w E nx hold held v) (m : Int) : Str (w.setCell ⟨E.S, 6, none⟩ (.int .i64 m)) { E with win := m } nx hold held v :=
  ⟨(cell_set_ne _ (by omega)).trans h.c0, (cell_set_ne _ (by omega)).trans h.c1, (cell_set_ne _ (by omega)).trans h.c2, (cell_set_ne _ (by omega)).trans h.c3, (cell_set_ne _ (by omega)).trans h.c4, (cell_set_ne _ (by omega)).trans h.c5, World.cell?_setCell_same _ _ _ h.c6,
   fun i => by rw [World.frozen?_setCell]; exact h.fz i, src_set h.src h.ibS _, h.ibS, h.ibv, by simpa [World.setCell] using h.ibl, by simpa [World.setCell] using h.Sl, h.Sv⟩

set_option maxRecDepth 20000 in
set_option maxHeartbeats 2000000 in
theorem readHead_any (E : Env) (x y : Int) (rest : List Int) (v : Value) (w : World) (he : E.zs = x :: y :: rest) (hz : IsB E.zs) (hl : E.zs.length ≤ 400000) (h : Str w E 0 0 0 v) :
    Calls Tryd.prog 20 #[.pointer (some ⟨E.S, 0, none⟩)] w fun e w' => Kept E.S (.bool true) (.bool true) w w' ∧
      if headB x y = true then e = .returned (.tuple #[]) ∧ Str w' { E with win := ((2 ^ ((x / 16).toNat + 8) : Nat) : Int) } 2 0 0 v else e = .panicked (errv 10) := by
  have hlen : E.zs.length = rest.length + 2 := by rw [he]; rfl
  have hx0 : E.zs[0]'(by omega) = x := by simp [he]
  have hy0 : E.zs[1]'(by omega) = y := by simp [he]
  have bx := hz.at 0 (by omega)
  have bY := hz.at 1 (by omega)
  rw [hx0] at bx
  rw [hy0] at bY
  obtain ⟨r, HR⟩ : ∃ r, Hid (headB x y = r) := ⟨_, rfl⟩
  rw [HR.out]
  go_enter Tryd.func20, Tryd.ntmps20
  go_wp2_with fail
  refine (readByte_ok E 0 0 0 v w hz hl (by omega) h).mono ?_
  rintro e w1 ⟨rfl, s1, k1⟩
  rw [hx0]
  go_wp2_with fail
  refine (readByte_ok E 1 0 0 v w1 hz hl (by omega) s1).mono ?_
  rintro e w2 ⟨rfl, s2, k2⟩
  rw [hy0]
  have HK2 : Hid (Kept E.S (.bool true) (.bool true) w w2) := k1.trans k2
  have HS2 : Hid (Str w2 E 2 0 0 v) := s2
  obtain ⟨c0, c1, c2, c3, c4, c5, c6, fz, src, ibS, ibv, ibl, Sl, Sv⟩ := s2
  have f6 := fz 6
  obtain ⟨bx1, bx2⟩ := bx
  obtain ⟨by1, by2⟩ := bY
  have HRo := HR.out
  unfold headB at HRo
  clear c0 c1 c2 c3 c4 c5 src he hx0 hy0 k1 k2 s1
  by_cases h1 : x % 16 = 8
  · have h1' : (x % 16 != 8) = false := by simp [h1]
    by_cases h2 : x / 16 ≤ 7
    · have h2' : ¬ 7 < x / 16 := by omega
      by_cases h3 : (x * 256 + y) % 31 = 0
      · have h3' : ((x * 256 + y) % 31 != 0) = false := by simp [h3]
        obtain ⟨q, HQ⟩ : ∃ q, Hid (q = bits .and .i64 y 32) := ⟨_, rfl⟩
        by_cases h4 : bits .and .i64 y 32 = 0
        · have h4' : (bits .and .i64 y 32 != 0) = false := by simp [h4]
          have hr : r = true := by rw [← HRo]; simp [h1, h2, h3, h4]
          subst hr
          obtain ⟨k, hk⟩ : ∃ k : Nat, x / 16 = (k : Int) := ⟨(x / 16).toNat, by omega⟩
          have hk7 : k ≤ 7 := by omega
          have hpw := pow_win k hk7
          have HW : Hid (wrap64 (2 ^ (k + 8)) = (2 : Int) ^ (k + 8)) := by show _ = _; rw [wrap64_eq, hpw]; simp
          clear HRo HR h1 h3 h4 hpw
          go_wp2
          go_end0
          exact ⟨HK2.out.set _ _, rfl, by rw [HW.out]; exact HS2.out.set6 _⟩
        · have h4' : (bits .and .i64 y 32 != 0) = true := by simp [h4]
          have hr : r = false := by rw [← HRo]; simp [h1, h2, h3, h4]
          subst hr
          clear HRo HR h1 h3 h4
          go_wp2
          exact ⟨rfl, HK2.out, rfl⟩
      · have h3' : ((x * 256 + y) % 31 != 0) = true := by simp [h3]
        have hr : r = false := by rw [← HRo]; simp [h3]
        subst hr
        clear HRo HR h1 h3
        go_wp2
        exact ⟨rfl, HK2.out, rfl⟩
    · have h2' : 7 < x / 16 := by omega
      have hr : r = false := by rw [← HRo]; simp [h2]
      subst hr
      clear HRo HR h1
      go_wp2
      exact ⟨rfl, HK2.out, rfl⟩
  · have h1' : (x % 16 != 8) = true := by simp [h1]
    have hr : r = false := by rw [← HRo]; simp [h1]
    subst hr
    clear HRo HR h1
    go_wp2
    exact ⟨rfl, HK2.out, rfl⟩
end Go.Proofs.YtbiibhpknflagaaDoor
