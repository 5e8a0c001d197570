import Derived.Test.YtenbdeljblmbhaaGreatDoorMc06
import Derived.Test.YtenbdeljblmbhaaGreatDoorMc03
/- THE WALK OF 'gitlikelaw0.Still'. -/
namespace Go.Proofs.YtenbdeljblmbhaaGreatDoor
open Go.RowKit

theorem same_any (a a' : Option Addr) (cap cap' : Nat) (zs : List Int) (w : World) (hl : zs.length ≤ 400000) (hc : 0 < zs.length → ∃ b off, a = some ⟨b, off, none⟩ ∧ At w b off zs) (hc' : 0 < zs.length → ∃ b off, a' = some ⟨b, off, none⟩ ∧ At w b off zs) :
    Calls Tryz.prog 16 #[.slice a zs.length cap, .slice a' zs.length cap'] w fun e w' => e = .returned (.bool true) ∧ ∃ n, w' = w.drewN n := by
  by_cases h0 : zs.length = 0
  · rw [h0]; exact same_none a a' cap cap' w
  · obtain ⟨b, off, rfl, h⟩ := hc (by omega)
    obtain ⟨b', off', rfl, h'⟩ := hc' (by omega)
    exact same_true b off cap b' off' cap' zs w hl h h'

/-- A row of bytes of one's own, of whatever content. -/
def Own (w : World) (g n : Nat) : Prop := ∀ i, i < n → ∃ v : Int, 0 ≤ v ∧ v ≤ 255 ∧ w.cell? ⟨g, i, none⟩ = some (.int .u8 v)

theorem Own.set {w : World} {g n : Nat} (h : Own w g n) (k : Nat) (v : Int) (h1 : 0 ≤ v) (h2 : v ≤ 255) : Own (w.setCell ⟨g, k, none⟩ (.int .u8 v)) g n := by
  intro i hi
  by_cases hk : i = k
  · subst hk
    obtain ⟨u, _, _, hu⟩ := h i hi
    exact ⟨v, h1, h2, World.cell?_setCell_same _ _ _ hu⟩
  · obtain ⟨u, a, b, hu⟩ := h i hi
    exact ⟨u, a, b, by rw [World.cell?_setCell_other _ _ _ _ (by intro h; simp only [Addr.mk.injEq] at h; omega)]; exact hu⟩
theorem below_drewH {B : Nat} {w0 w : World} (h : Below B w0 w) (n : Nat) : Below B w0 (w.drewN n) := h.trans ⟨rfl, rfl, rfl, Nat.le_refl _, fun _ _ => rfl⟩
theorem IsB.get {zs : List Int} (h : IsB zs) (k : Nat) : 0 ≤ zs[k]?.getD 0 ∧ zs[k]?.getD 0 ≤ 255 := by
  have := h.at k
  rw [List.getD_eq_getElem?_getD] at this
  omega
theorem Room.own {w : World} {g : Nat} {zs : List Int} (h : Room w g zs) (hz : IsB zs) : Own w g (zs.length + 2) := by
  intro i hi
  by_cases h1 : i < zs.length
  · exact ⟨_, (hz.get i).1, (hz.get i).2, by simpa using h.cell i h1⟩
  · by_cases h2 : i = zs.length
    · subst h2; exact ⟨71, by omega, by omega, h.c71⟩
    · obtain rfl : i = zs.length + 1 := by omega
      exact ⟨72, by omega, by omega, h.c72⟩
theorem xor85 (v : Int) (h1 : 0 ≤ v) (h2 : v ≤ 255) : ∃ v' : Int, bits .xor .u8 v 85 = v' ∧ 0 ≤ v' ∧ v' ≤ 255 := by
  refine ⟨_, rfl, ?_⟩
  rw [u8_xor _ _ h1 (by omega) (by omega) (by omega)]
  have := Nat.xor_lt_two_pow (n := 8) (x := v.toNat) (y := (85 : Int).toNat) (by omega) (by decide)
  omega

set_option maxHeartbeats 400000 in
theorem still_true (a : Option Addr) (cap g : Nat) (zs : List Int) (w : World) (hl : zs.length ≤ 300000) (hz : IsB zs) (hr : Room w g zs) (hc : 0 < zs.length → ∃ b off, a = some ⟨b, off, none⟩ ∧ b < g ∧ At w b off zs) :
    Calls Tryz.prog 12 #[.slice (some ⟨g, 0, none⟩) zs.length (zs.length + 2), .slice a zs.length cap] w fun e w' => e = .returned (.bool true) ∧ Below g w w' := by
  have c71 := hr.c71
  have c72 := hr.c72
  go_enter Tryz.func12, Tryz.ntmps12
  go_wp2_with (go_at_call 16; refine (same_any _ _ _ _ zs _ (by omega) (fun _ => ⟨g, 0, rfl, fun i hi => by rw [Nat.zero_add]; exact hr.cell i hi⟩) (fun h => by obtain ⟨b, off, h1, h2, h3⟩ := hc h; exact ⟨b, off, h1, h3⟩)).mono ?_; rintro e w1 ⟨rfl, nq, rfl⟩)
  go_loopw [8] (fun i wr => ∃ k : Nat, k ≤ zs.length + 2 ∧ i = .int .i64 k ∧ Own wr g (zs.length + 2) ∧ (∀ i, wr.frozen? ⟨g, i, none⟩ = false) ∧ Below g w wr) (fun i _ => zs.length + 2 - (intOf i).toNat)
  case atStart => exact ⟨0, Nat.zero_le _, rfl, hr.own hz, hr.fz, below_drewH (Below.refl _ _) _⟩
  case round =>
    obtain ⟨k, hk, rfl, hown, hfz, hbel⟩ := hrel
    clear c71 c72
    by_cases hlt : k < zs.length + 2
    · obtain ⟨v, hv1, hv2, hcell⟩ := hown k hlt
      obtain ⟨v', hx, hv3, hv4⟩ := xor85 v hv1 hv2
      have hf := hfz k
      go_wp2
      go_roundw
      case rel => exact ⟨k + 1, by omega, by go_num, hown.set k v' hv3 hv4, fun i => by rw [World.frozen?_setCell]; exact hfz i, hbel.setCell (Nat.le_refl _) _⟩
      case measure => simp [intOf]; omega
    · go_wp2
      go_ret
      exact ⟨rfl, hbel⟩
end Go.Proofs.YtenbdeljblmbhaaGreatDoor
/- Package object: 'header'. -/
namespace Go.Proofs.YtenbdeljblmbhaaGreatDoor
open Go.RowKit
set_option linter.unusedVariables false
set_option linter.unusedSimpArgs false
theorem join_two (x y : List UInt8) : Lib.join [x, y] [32] = x ++ 32 :: y := by simp [Lib.join, List.intercalate]
theorem kN_len (k : Int) : (kN k).data.toList.length ≤ 6 := by
  rw [kN_list]
  split
  · decide
  · split
    · decide
    · split
      · decide
      · split <;> decide
theorem dig_len : ∀ (n m : Nat), m < 10 ^ (n + 1) → (Lib.decDigits m).length ≤ n + 1
  | 0, m, h => by rw [Lib.decDigits, dif_pos (by simpa using h)]; simp
  | n + 1, m, h => by
    rw [Lib.decDigits]
    split
    · simp
    · have := dig_len n (m / 10) (by rw [Nat.pow_succ] at h; omega)
      simp
      omega
theorem h0_len (k : Int) (n : Nat) (hn : n ≤ 400000) : (h0 k n).length ≤ 13 := by
  have h1 := kN_len k
  have h2 := dig_len 5 n (by omega)
  unfold h0
  simp only [List.length_append, List.length_cons]
  omega
theorem str_app (x y : List UInt8) : (⟨x.toArray⟩ : ByteArray) ++ ⟨y.toArray⟩ = ⟨(x ++ y).toArray⟩ := by
  rw [ByteArray.mk_append_mk]
set_option maxRecDepth 20000 in
set_option maxHeartbeats 1000000 in
theorem header_any (k : Int) (a : Option Addr) (n cap : Nat) (hn : n ≤ 400000) (w : World) (ht : Tab w) :
    Calls Tryz.prog 34 #[.agg #[.int .i64 k, .slice a n cap]] w fun e w' => e = .returned (.string ⟨(hd k n).toArray⟩) ∧ Below w.heap.size w w' := by
  obtain ⟨w0, HW0⟩ : ∃ w0, Hid (w.alloc (.cells #[.int .i64 k, .slice a n cap] 25) = w0) := ⟨_, rfl⟩
  obtain ⟨g, HG⟩ : ∃ g, Hid (w.heap.size = g) := ⟨_, rfl⟩
  have HB0 : Hid (Below g w w0) := by rw [← HW0.out, ← HG.out]; exact (Below.refl _ w).alloc (Nat.le_refl _) _
  have hg0 : g < w0.heap.size := by rw [← HW0.out, ← HG.out]; simp
  have hc0 : w0.cell? ⟨g, 0, none⟩ = some (.int .i64 k) := by rw [← HW0.out, ← HG.out]; simp
  have hc1 : w0.cell? ⟨g, 1, none⟩ = some (.slice a n cap) := by rw [← HW0.out, ← HG.out]; simp
  have HT0 : Hid (Tab w0) := ht.below (by rw [HG.out]; exact HB0.out)
  have HI : Hid (∀ j, Calls Tryz.prog 72 #[.int .i64 n] (w0.drewN j) fun e w' => e = .returned (.string ⟨(Lib.decDigits n).toArray⟩) ∧ Below w0.heap.size w0 w') := fun j => by
    refine (itoa_any n hn (w0.drewN j) (HT0.out.below (below_drewH (Below.refl _ _) _))).mono ?_
    rintro e w' ⟨rfl, hb⟩
    exact ⟨rfl, (below_drewH (Below.refl _ _) j).trans hb⟩
  have HWd : Hid (∀ (w1 : World), Calls Tryz.prog 46 #[.slice (some ⟨w1.heap.size, 0, none⟩) 2 2] (w1.alloc (.cells #[.string (kN k), .string ⟨(Lib.decDigits n).toArray⟩] 9)) fun e w' => e = .returned (.string ⟨(h0 k n).toArray⟩) ∧ Below w1.heap.size w1 w') := fun w1 => by
    have hj : (Lib.join ([kN k, ⟨(Lib.decDigits n).toArray⟩].map (·.data.toList)) [32]) = h0 k n := by
      simp only [List.map_cons, List.map_nil, join_two]; rfl
    refine (words_any w1.heap.size 0 2 [kN k, ⟨(Lib.decDigits n).toArray⟩] _ ?_ ?_ (by simp) (by simp) (by rw [hj]; have := h0_len k n hn; omega)).mono ?_
    · intro i x hx
      rcases i with _ | _ | i
      · simp at hx; subst hx; simp
      · simp at hx; subst hx; simp
      · simp at hx
    · simp
    · rintro e w' ⟨rfl, hb⟩
      rw [hj]
      refine ⟨rfl, Below.trans ((Below.refl _ w1).alloc (Nat.le_refl _) _) (hb.mono ?_)⟩
      simp
  obtain ⟨S, HS⟩ : ∃ S : ByteArray, Hid (S = ⟨(h0 k n).toArray⟩) := ⟨_, rfl⟩
  have hS : S.size ≤ 13 := by rw [HS.out]; simpa [ByteArray.size] using h0_len k n hn
  have hS1 : ¬ 9223372036854775807 < S.size + 1 := by omega
  have hS2 : ¬ 9223372036854775807 ≤ S.size := by omega
  have HE : Hid (S ++ ⟨#[0]⟩ = ⟨(hd k n).toArray⟩) := by
    rw [HS.out, show (⟨#[0]⟩ : ByteArray) = ⟨[0].toArray⟩ from rfl]
    exact str_app _ _
  rw [← HS.out] at HWd
  obtain ⟨Dg, HDg⟩ : ∃ D : ByteArray, Hid (D = ⟨(Lib.decDigits n).toArray⟩) := ⟨_, rfl⟩
  obtain ⟨Kn, HKn⟩ : ∃ D : ByteArray, Hid (D = kN k) := ⟨_, rfl⟩
  have HK : Hid (∀ w, Calls Tryz.prog 65 #[.int .i64 k] w fun e w' => e = .returned (.string (kN k)) ∧ w' = w) := fun w => kindName_any k w
  rw [← HDg.out] at HI HWd
  rw [← HKn.out] at HWd HK
  go_enter Tryz.func34, Tryz.ntmps34
  rw [HG.out]
  go_wp2_with fail
  rw [HW0.out, HG.out]
  clear ht
  go_region_with (first
    | (go_at_call 65; refine (HK.out _).mono ?_; rintro ev wk ⟨rfl, rfl⟩)
    | (go_at_call 72; refine (HI.out _).mono ?_; rintro ev w1 ⟨rfl, hb1⟩; have HB1 : Hid (Below w0.heap.size w0 w1) := hb1; clear hb1 HI)
    | (go_at_call 46; refine (HWd.out _).mono ?_; rintro ev w2 ⟨rfl, hb2⟩; have HB2 : Hid (Below w1.heap.size w1 w2) := hb2; clear hb2 HWd))
  all_goals
    go_wp2
    go_ret
    exact ⟨(show _ = Ending.returned (.string (S ++ ⟨#[0]⟩)) from rfl).trans (by rw [HE.out]), HB0.out.trans ((HB1.out.mono (Nat.le_of_lt hg0)).trans (HB2.out.mono (Nat.le_trans (Nat.le_of_lt hg0) HB1.out.size)))⟩
end Go.Proofs.YtenbdeljblmbhaaGreatDoor
