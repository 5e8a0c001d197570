/- 'number': so many bits. -/
import Derived.Test.YtbiibhpknflagaaDoorRdA
import Derived.Deep.RegionHeld3
import Derived.Deep.RegionWith
import Derived.Deep.LoopGhost
import Derived.Test.YtbiibhpknflagaaDoorPlainB
namespace Go.Proofs.YtbiibhpknflagaaDoor
open Go.RowKit Plain

theorem wrap64_eq (n : Int) : wrap64 n = IntKind.i64.wrap n := by rw [IntKind.wrap_i64]; unfold wrap64; omega

/-- THE STREAM AT BIT p, v the value of what was put out. -/
def Rd (w : World) (E : Env) (p : Nat) (v : Value) : Prop := ∃ nx hold held : Nat, Str w E nx hold held v ∧ 8 * nx = p + held ∧ held ≤ 7 ∧ nx ≤ E.zs.length ∧ Hid (hold = getB E.zs p held)
theorem Rd.drewN {w : World} {E : Env} {p : Nat} {v : Value} (h : Rd w E p v) (n : Nat) : Rd (w.drewN n) E p v := by
  obtain ⟨a, b, c, d, e⟩ := h; exact ⟨a, b, c, d.drewN n, e⟩
theorem Rd.drew {w : World} {E : Env} {p : Nat} {v : Value} (h : Rd w E p v) : Rd w.drew E p v := by
  obtain ⟨a, b, c, d, e⟩ := h; exact ⟨a, b, c, d.drew, e⟩

/-- FOR A CALL THAT PANICS INSIDE A REGION THAT DRAWS ITS ORDER: the goal is shown; the region's walk is handed an empty region, which ends at once ('Done'). -/
def Done : Exit → Act → World → Prop := fun _ _ _ => True
theorem way_out {G : Prop} (h : G) (_ : wpAny Tryd.prog .any #[] Done 0 #[] { tmps := #[], defers := [] } { (default : World) with drawn := 0 }) : G := h

set_option maxHeartbeats 2000000 in
theorem number_ok (E : Env) (p n : Nat) (v : Value) (w : World) (hz : IsB E.zs) (_hl : E.zs.length ≤ 400000) (hn : n ≤ 16) (h : Rd w E p v) (hpn : p + n ≤ 8 * E.zs.length) :
    Calls Tryd.prog 28 #[.pointer (some ⟨E.S, 0, none⟩), .int .i64 n] w fun e w' => e = .returned (.int .i64 (getB E.zs p n : Nat)) ∧ Rd w' E (p + n) v ∧ Kept E.S (.bool true) (.bool true) w w' := by
  obtain ⟨nx, hold, held, h, hp, hh, hnx, H0⟩ := h
  go_enter Tryd.func28, Tryd.ntmps28
  go_wp2
  go_loopg [6] (n + 8 - held) (fun k _ wr => ∃ nx' hold' held', Str wr E nx' hold' held' v ∧ held' ≤ 23 ∧ (held' ≤ 7 ∨ held' < n + 8) ∧ 8 * nx' = p + held' ∧ nx' ≤ E.zs.length ∧ k = n + 8 - held' ∧ Hid (hold' = getB E.zs p held') ∧ Kept E.S (.bool true) (.bool true) w wr)
  case atStart => exact ⟨nx, hold, held, h, by omega, .inl hh, hp, hnx, rfl, H0, Kept.refl _ _ _⟩
  case round =>
    obtain ⟨nx', hold', held', h', hh', hor, hp', hnx', hk, hd', hkp⟩ := hrel
    have HH : Hid (Str wr E nx' hold' held' v) := h'
    have HK : Hid (Kept E.S (.bool true) (.bool true) w wr) := hkp
    clear h hkp
    obtain ⟨c0, c1, c2, c3, c4, c5, c6, fz, src, ibS, ibv, ibl, Sl, Sv⟩ := h'
    by_cases hlt : held' < n
    · have hx : nx' < E.zs.length := by omega
      have hob : bits .or .i64 (hold' : Int) (IntKind.i64.wrap (E.zs[nx'] * 2 ^ held')) = ((getB E.zs p (held' + 8) : Nat) : Int) := by
        rw [hd'.out]; exact or_byte E.zs p held' nx' hz hx hp' (by omega)
      obtain ⟨hold2, HB⟩ : ∃ x : Nat, Hid (x = getB E.zs p (held' + 8)) := ⟨_, rfl⟩
      rw [← HB.out] at hob
      go_wp2
      go_region_with (first | (go_at_call 27; refine (readByte_ok E nx' hold' held' v _ hz _hl hx ?_).mono ?_; (first | exact HH.out | exact HH.out.drewN _ | exact HH.out.drew); rintro e w1 ⟨rfl, h1, k1⟩; have HH1 : Hid (Str w1 E (nx' + 1) hold' held' v) := h1; obtain ⟨d0, d1, d2, d3, d4, d5, d6, dz, -, -, -, -, -, -⟩ := h1; have g2 := dz 2; have g3 := dz 3; have HK1 : Hid (Kept E.S (.bool true) (.bool true) w w1) := (by first | exact HK.out.trans k1 | exact HK.out.drew.trans k1 | exact (HK.out.drewN _).trans k1); clear k1))
      all_goals
        go_wp2
        go_roundg (n + 8 - (held' + 8))
        case measure => omega
        case rel =>
          exact ⟨nx' + 1, hold2, held' + 8, (HH1.out.set2 _ rfl).set3 _ (by omega), by omega, by omega, by omega, by omega, rfl, HB, (HK1.out.set _ _).set _ _⟩
    · have f2 := fz 2
      have f3 := fz 3
      have ha := and_mask E.zs p held' n hn hh' (by omega)
      have hs := shr_n E.zs p held' n (by omega)
      rw [← hd'.out] at ha hs
      go_wp2
      go_quiet (fail)
      go_wp2
      go_ret
      exact ⟨ret_i64 (by rw [wrap64_eq, wrap64_eq]; exact ha), ⟨nx', _, held' - n, (((HH.out.drewN _).set2 _ rfl).set3 _ (by omega)), by omega, by omega, hnx', rfl⟩, ((HK.out.drewN _).set _ _).set _ _⟩

end Go.Proofs.YtbiibhpknflagaaDoor
