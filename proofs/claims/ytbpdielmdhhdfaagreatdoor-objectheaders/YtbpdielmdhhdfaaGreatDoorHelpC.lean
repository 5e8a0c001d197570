/- THE WALK OF 'gitlikelaw0.Still'. -/
import Derived.Test.YtbpdielmdhhdfaaGreatDoorHelpB
namespace Go.Proofs.YtbpdielmdhhdfaaGreatDoor
open Go.RowKit

theorem same_any (a a' : Option Addr) (cap cap' : Nat) (zs : List Int) (w : World) (hl : zs.length ≤ 400000) (hc : 0 < zs.length → ∃ b off, a = some ⟨b, off, none⟩ ∧ At w b off zs) (hc' : 0 < zs.length → ∃ b off, a' = some ⟨b, off, none⟩ ∧ At w b off zs) :
    Calls Tryz.prog 16 #[.slice a zs.length cap, .slice a' zs.length cap'] w fun e w' => e = .returned (.bool true) ∧ ∃ n, w' = w.drewN n := by
  by_cases h0 : zs.length = 0
  · rw [h0]; exact same_none a a' cap cap' w
  · obtain ⟨b, off, rfl, h⟩ := hc (by omega)
    obtain ⟨b', off', rfl, h'⟩ := hc' (by omega)
    exact same_true b off cap b' off' cap' zs w hl h h'

/-- A row of bytes of one's own, of whatever content. -/
def Own (w : World) (g n : Nat) : Prop := ∀ i, i < n → ∃ v : Int, 0 ≤ v ∧ v ≤ 255 ∧ w.cell? ⟨g, i, none⟩ = some (.int .u8 v)

theorem Own.set {w : World} {g n : Nat} (h : Own w g n) (k : Nat) (v : Int) (h1 : 0 ≤ v) (h2 : v ≤ 255) : Own (w.setCell ⟨g, k, none⟩ (.int .u8 v)) g n := by
  intro i hi
  by_cases hk : i = k
  · subst hk
    obtain ⟨u, _, _, hu⟩ := h i hi
    exact ⟨v, h1, h2, World.cell?_setCell_same _ _ _ hu⟩
  · obtain ⟨u, a, b, hu⟩ := h i hi
    exact ⟨u, a, b, by rw [World.cell?_setCell_other _ _ _ _ (by intro h; simp only [Addr.mk.injEq] at h; omega)]; exact hu⟩
theorem below_drewH {B : Nat} {w0 w : World} (h : Below B w0 w) (n : Nat) : Below B w0 (w.drewN n) := h.trans ⟨rfl, rfl, rfl, Nat.le_refl _, fun _ _ => rfl⟩
theorem IsB.get {zs : List Int} (h : IsB zs) (k : Nat) : 0 ≤ zs[k]?.getD 0 ∧ zs[k]?.getD 0 ≤ 255 := by
  have := h.at k
  rw [List.getD_eq_getElem?_getD] at this
  omega
theorem Room.own {w : World} {g : Nat} {zs : List Int} (h : Room w g zs) (hz : IsB zs) : Own w g (zs.length + 2) := by
  intro i hi
  by_cases h1 : i < zs.length
  · exact ⟨_, (hz.get i).1, (hz.get i).2, by simpa using h.cell i h1⟩
  · by_cases h2 : i = zs.length
    · subst h2; exact ⟨71, by omega, by omega, h.c71⟩
    · obtain rfl : i = zs.length + 1 := by omega
      exact ⟨72, by omega, by omega, h.c72⟩
theorem xor85 (v : Int) (h1 : 0 ≤ v) (h2 : v ≤ 255) : ∃ v' : Int, bits .xor .u8 v 85 = v' ∧ 0 ≤ v' ∧ v' ≤ 255 := by
  refine ⟨_, rfl, ?_⟩
  rw [u8_xor _ _ h1 (by omega) (by omega) (by omega)]
  have := Nat.xor_lt_two_pow (n := 8) (x := v.toNat) (y := (85 : Int).toNat) (by omega) (by decide)
  omega

set_option maxHeartbeats 400000 in
theorem still_true (a : Option Addr) (cap g : Nat) (zs : List Int) (w : World) (hl : zs.length ≤ 300000) (hz : IsB zs) (hr : Room w g zs) (hc : 0 < zs.length → ∃ b off, a = some ⟨b, off, none⟩ ∧ b < g ∧ At w b off zs) :
    Calls Tryz.prog 12 #[.slice (some ⟨g, 0, none⟩) zs.length (zs.length + 2), .slice a zs.length cap] w fun e w' => e = .returned (.bool true) ∧ Below g w w' := by
  have c71 := hr.c71
  have c72 := hr.c72
  go_enter Tryz.func12, Tryz.ntmps12
  go_wp2_with (go_at_call 16; refine (same_any _ _ _ _ zs _ (by omega) (fun _ => ⟨g, 0, rfl, fun i hi => by rw [Nat.zero_add]; exact hr.cell i hi⟩) (fun h => by obtain ⟨b, off, h1, h2, h3⟩ := hc h; exact ⟨b, off, h1, h3⟩)).mono ?_; rintro e w1 ⟨rfl, nq, rfl⟩)
  go_loopw [8] (fun i wr => ∃ k : Nat, k ≤ zs.length + 2 ∧ i = .int .i64 k ∧ Own wr g (zs.length + 2) ∧ (∀ i, wr.frozen? ⟨g, i, none⟩ = false) ∧ Below g w wr) (fun i _ => zs.length + 2 - (intOf i).toNat)
  case atStart => exact ⟨0, Nat.zero_le _, rfl, hr.own hz, hr.fz, below_drewH (Below.refl _ _) _⟩
  case round =>
    obtain ⟨k, hk, rfl, hown, hfz, hbel⟩ := hrel
    clear c71 c72
    by_cases hlt : k < zs.length + 2
    · obtain ⟨v, hv1, hv2, hcell⟩ := hown k hlt
      obtain ⟨v', hx, hv3, hv4⟩ := xor85 v hv1 hv2
      have hf := hfz k
      go_wp2
      go_roundw
      case rel => exact ⟨k + 1, by omega, by go_num, hown.set k v' hv3 hv4, fun i => by rw [World.frozen?_setCell]; exact hfz i, hbel.setCell (Nat.le_refl _) _⟩
      case measure => simp [intOf]; omega
    · go_wp2
      go_ret
      exact ⟨rfl, hbel⟩
end Go.Proofs.YtbpdielmdhhdfaaGreatDoor
