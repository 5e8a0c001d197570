/- 'number', where the bytes end. -/
import Derived.Test.YtbiibhpknflagaaDoorRdB
namespace Go.Proofs.YtbiibhpknflagaaDoor
open Go.RowKit Plain

set_option maxHeartbeats 2000000 in
theorem number_bad (E : Env) (p n : Nat) (v : Value) (w : World) (hz : IsB E.zs) (_hl : E.zs.length ≤ 400000) (hn : n ≤ 16) (h : Rd w E p v) (hpn : 8 * E.zs.length < p + n) :
    Calls Tryd.prog 28 #[.pointer (some ⟨E.S, 0, none⟩), .int .i64 n] w fun e w' => e = .panicked (errv 10) ∧ Kept E.S (.bool true) (.bool true) w w' := by
  obtain ⟨nx, hold, held, h, hp, hh, hnx, H0⟩ := h
  go_enter Tryd.func28, Tryd.ntmps28
  go_wp2
  go_loopg [6] (n + 8 - held) (fun k _ wr => ∃ nx' hold' held', Str wr E nx' hold' held' v ∧ held' ≤ 23 ∧ (held' ≤ 7 ∨ held' < n + 8) ∧ 8 * nx' = p + held' ∧ nx' ≤ E.zs.length ∧ k = n + 8 - held' ∧ Hid (hold' = getB E.zs p held') ∧ Kept E.S (.bool true) (.bool true) w wr)
  case atStart => exact ⟨nx, hold, held, h, by omega, .inl hh, hp, hnx, rfl, H0, Kept.refl _ _ _⟩
  case round =>
    obtain ⟨nx', hold', held', h', hh', hor, hp', hnx', hk, hd', hkp⟩ := hrel
    have HH : Hid (Str wr E nx' hold' held' v) := h'
    have HK : Hid (Kept E.S (.bool true) (.bool true) w wr) := hkp
    clear h hkp
    by_cases hlt : held' < n
    · by_cases hx : nx' < E.zs.length
      · obtain ⟨c0, c1, c2, c3, c4, c5, c6, fz, src, ibS, ibv, ibl, Sl, Sv⟩ := h'
        have hob : bits .or .i64 (hold' : Int) (IntKind.i64.wrap (E.zs[nx'] * 2 ^ held')) = ((getB E.zs p (held' + 8) : Nat) : Int) := by
          rw [hd'.out]; exact or_byte E.zs p held' nx' hz hx hp' (by omega)
        obtain ⟨hold2, HB⟩ : ∃ x : Nat, Hid (x = getB E.zs p (held' + 8)) := ⟨_, rfl⟩
        rw [← HB.out] at hob
        go_wp2
        go_region_with (first | (go_at_call 27; refine (readByte_ok E nx' hold' held' v _ hz _hl hx ?_).mono ?_; (first | exact HH.out | exact HH.out.drewN _ | exact HH.out.drew); rintro e w1 ⟨rfl, h1, k1⟩; have HH1 : Hid (Str w1 E (nx' + 1) hold' held' v) := h1; obtain ⟨d0, d1, d2, d3, d4, d5, d6, dz, -, -, -, -, -, -⟩ := h1; have g2 := dz 2; have g3 := dz 3; have HK1 : Hid (Kept E.S (.bool true) (.bool true) w w1) := (by first | exact HK.out.trans k1 | exact HK.out.drew.trans k1 | exact (HK.out.drewN _).trans k1); clear k1))
        all_goals
          go_wp2
          go_roundg (n + 8 - (held' + 8))
          case measure => omega
          case rel =>
            exact ⟨nx' + 1, hold2, held' + 8, (HH1.out.set2 _ rfl).set3 _ (by omega), by omega, by omega, by omega, by omega, rfl, HB, (HK1.out.set _ _).set _ _⟩
      · obtain rfl : nx' = E.zs.length := by omega
        obtain ⟨c0, c1, c2, c3, c4, c5, c6, fz, src, ibS, ibv, ibl, Sl, Sv⟩ := h'
        go_wp2
        go_region_with (first | (go_at_call 27; refine (readByte_bad E hold' held' v _ ?_).mono ?_; (first | exact HH.out | exact HH.out.drewN _ | exact HH.out.drew); rintro e w1 ⟨rfl, k1⟩; have HK1 : Hid (Kept E.S (.bool true) (.bool true) w w1) := (by first | exact HK.out.trans k1 | exact HK.out.drew.trans k1 | exact (HK.out.drewN _).trans k1); clear k1; refine way_out ⟨rfl, rfl, HK1.out⟩ ?_))
        all_goals exact trivial
    · omega
end Go.Proofs.YtbiibhpknflagaaDoor
