/- THE WALKS OF 'deflate.Adler' AND 'gitlikeref1.Adler': both are Plain.adler of the bytes. -/
import Derived.Test.YtbiibhpknflagaaDoorProg
import Derived.Test.YtbiibhpknflagaaDoorPlainA
import Derived.WalkKit
import Derived.WalkSpells
import Derived.WalkLawsBesides
namespace Go.Proofs.YtbiibhpknflagaaDoor
open Go.RowKit Plain

theorem ret_int {k : IntKind} {a b : Int} (h : a = b) : Ending.returned (.int k a) = .returned (.int k b) := by rw [h]

/-- Where the bytes lie: row 'zs' at block b from off on. -/
def At (w : World) (b off : Nat) (zs : List Int) : Prop := ∀ i, i < zs.length → w.cell? ⟨b, off + i, none⟩ = some (.int .u8 (zs.getD i 0))
def IsB (zs : List Int) : Prop := ∀ x ∈ zs, 0 ≤ x ∧ x ≤ 255

theorem IsB.get {zs : List Int} (h : IsB zs) (k : Nat) : 0 ≤ zs[k]?.getD 0 ∧ zs[k]?.getD 0 ≤ 255 := by
  by_cases hk : k < zs.length
  · rw [List.getElem?_eq_getElem hk]; exact h _ (List.getElem_mem hk)
  · rw [List.getElem?_eq_none (by omega)]; simp
theorem IsB.at {zs : List Int} (h : IsB zs) (k : Nat) (hk : k < zs.length) : 0 ≤ zs[k] ∧ zs[k] ≤ 255 := h _ (List.getElem_mem hk)
theorem take_snoc (zs : List Int) (k : Nat) (h : k < zs.length) : zs.take (k + 1) = zs.take k ++ [zs[k]] := List.take_succ_eq_append_getElem h

theorem or_ad (t s : Int) (h1 : 0 ≤ t) (h2 : t < 65521) (h3 : 0 ≤ s) (h4 : s < 65521) : bits .or .u32 (t * 65536) s = t * 65536 + s := by
  rw [u32_or _ _ (by omega) (by omega) h3 (by omega), nat_join 16 _ _ (by omega) (by omega)]
  omega

set_option maxHeartbeats 400000 in
theorem adler_prog (b off cap : Nat) (zs : List Int) (w : World) (hl : zs.length ≤ 300000) (hz : IsB zs) (hc : At w b off zs) :
    Calls Tryd.prog 8 #[.slice (some ⟨b, off, none⟩) zs.length cap] w fun e w' => e = .returned (.int .u32 (adler zs)) ∧ w' = w := by
  go_enter Tryd.func8, Tryd.ntmps8
  go_wp2
  go_loop [3, 4, 9] (fun s t i => ∃ k : Nat, k ≤ zs.length ∧ i = .int .i64 k ∧ s = .int .u32 (ad (zs.take k)).1 ∧ t = .int .u32 (ad (zs.take k)).2) (fun _ _ i => zs.length - (intOf i).toNat)
  case atStart => exact ⟨0, Nat.zero_le _, rfl, rfl, rfl⟩
  case round =>
    obtain ⟨k, hk, rfl, rfl, rfl⟩ := hrel
    obtain ⟨h1, h2, h3, h4⟩ := ad_bd (zs.take k)
    by_cases hlt : k < zs.length
    · have hcell := hc k hlt
      obtain ⟨hx1, hx2⟩ := hz.at k hlt
      have HS : Hid (ad (zs.take (k + 1)) = adStep (ad (zs.take k)) zs[k]) := by rw [take_snoc zs k hlt]; exact ad_snoc _ _
      go_wp2
      go_round
      case rel => exact ⟨k + 1, by omega, by go_num, by rw [HS.out]; rfl, by rw [HS.out]; rfl⟩
      case measure => simp [intOf]; omega
    · obtain rfl : k = zs.length := by omega
      have ht : zs.take zs.length = zs := List.take_length
      rw [ht] at h1 h2 h3 h4
      go_wp2
      go_ret
      exact ⟨ret_int (by rw [or_ad _ _ h3 h4 h1 h2]; rfl), rfl⟩
set_option maxHeartbeats 400000 in
theorem adler_ref (b off cap : Nat) (zs : List Int) (w : World) (hl : zs.length ≤ 300000) (hz : IsB zs) (hc : At w b off zs) :
    Calls Tryd.prog 11 #[.slice (some ⟨b, off, none⟩) zs.length cap] w fun e w' => e = .returned (.int .u32 (adler zs)) ∧ w' = w := by
  go_enter Tryd.func11, Tryd.ntmps11
  go_wp2
  go_loop [3, 4, 5] (fun s t i => ∃ k : Nat, k ≤ zs.length ∧ i = .int .i64 k ∧ s = .int .u32 (ad (zs.take k)).1 ∧ t = .int .u32 (ad (zs.take k)).2) (fun _ _ i => zs.length - (intOf i).toNat)
  case atStart => exact ⟨0, Nat.zero_le _, rfl, rfl, rfl⟩
  case round =>
    obtain ⟨k, hk, rfl, rfl, rfl⟩ := hrel
    obtain ⟨h1, h2, h3, h4⟩ := ad_bd (zs.take k)
    by_cases hlt : k < zs.length
    · have hcell := hc k hlt
      obtain ⟨hx1, hx2⟩ := hz.at k hlt
      have HS : Hid (ad (zs.take (k + 1)) = adStep (ad (zs.take k)) zs[k]) := by rw [take_snoc zs k hlt]; exact ad_snoc _ _
      go_wp2
      go_round
      case rel => exact ⟨k + 1, by omega, by go_num, by rw [HS.out]; rfl, by rw [HS.out]; rfl⟩
      case measure => simp [intOf]; omega
    · obtain rfl : k = zs.length := by omega
      have ht : zs.take zs.length = zs := List.take_length
      rw [ht] at h1 h2 h3 h4
      go_wp2
      go_ret
      exact ⟨ret_int (rfl), rfl⟩
end Go.Proofs.YtbiibhpknflagaaDoor
