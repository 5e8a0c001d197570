/- 'count'. -/
import Derived.Test.YtjpihkheapjigaaDoorPaA
namespace Go.Proofs.YtjpihkheapjigaaDoor
open Go.RowKit
set_option linter.unusedVariables false
set_option linter.unusedSimpArgs false
theorem PE.two {w : World} {b off cap : Nat} {l : List Ed} (h : PE w (some ⟨b, off, none⟩) cap l) (i : Nat) (hi : i < l.length) : w.cell? ⟨b, off + i * 2, none⟩ = some (.int .i64 ((l.getD i (0, [])).1 : Int)) ∧ w.cell? ⟨b, off + i * 2 + 1, none⟩ = some (.string ⟨(l.getD i (0, [])).2.toArray⟩) := by
  obtain ⟨b', off', e1, _, e3⟩ := h.at_ (by omega)
  cases e1
  have h0 := e3 i hi 0 _ rfl
  have h1 := e3 i hi 1 _ rfl
  exact ⟨h0, h1⟩
theorem two_laid {w : World} (a b x y : Value) (t : TypeId) (V : World) (hV : ((w.alloc (.cells #[a, b] t)).setCell ⟨w.heap.size, 0, none⟩ x).setCell ⟨w.heap.size, 1, none⟩ y = V) : V.cell? ⟨w.heap.size, 0, none⟩ = some x ∧ V.cell? ⟨w.heap.size, 1, none⟩ = some y ∧ Below w.heap.size w V := by
  subst hV
  have h0 := heap_alloc_new w (.cells #[a, b] t)
  have h1 : ((w.alloc (.cells #[a, b] t)).setCell ⟨w.heap.size, 0, none⟩ x).heap[w.heap.size]? = some (.cells #[x, b] t (0, 0)) := heap_setCell_same _ _ 0 #[a, b] t x h0
  have h2 : (((w.alloc (.cells #[a, b] t)).setCell ⟨w.heap.size, 0, none⟩ x).setCell ⟨w.heap.size, 1, none⟩ y).heap[w.heap.size]? = some (.cells #[x, y] t (0, 0)) := heap_setCell_same _ _ 1 #[x, b] t y h1
  exact ⟨by rw [cell_of_row _ _ 0 _ _ _ h2]; rfl, by rw [cell_of_row _ _ 1 _ _ _ h2]; rfl, (((Below.refl _ w).alloc (Nat.le_refl _) _).setCell (Nat.le_refl _) _).setCell (Nat.le_refl _) _⟩
set_option maxRecDepth 20000 in
set_option maxHeartbeats 2000000 in
theorem count_any {w : World} (a : Option Addr) (ca : Nat) (L : List Ed) (hA : PE w a ca L) (hl : L.length ≤ 10000) :
    Calls Tryd.prog 18 #[.slice a L.length ca] w fun e w' => e = .returned (.tuple #[.int .i64 (cA L : Nat), .int .i64 (cB L : Nat)]) ∧ Below w.heap.size w w' := by
  obtain ⟨n, HN⟩ : ∃ n, Hid (L.length = n) := ⟨_, rfl⟩
  obtain ⟨G, HG⟩ : ∃ G, Hid (w.heap.size = G) := ⟨_, rfl⟩
  obtain ⟨ra, HRA⟩ : ∃ r, Hid (cA L = r) := ⟨_, rfl⟩
  obtain ⟨rb, HRB⟩ : ∃ r, Hid (cB L = r) := ⟨_, rfl⟩
  have hn4 : n ≤ 10000 := by rw [← HN.out]; exact hl
  have HPA : Hid (∀ W, Below G w W → PE W a ca L) := fun W hW => hA.below (by rw [HG.out]; exact hW)
  have HFA : Hid (0 < n → ∃ b off, a = some ⟨b, off, none⟩) := fun h0 => by
    obtain ⟨b, off, e1, _⟩ := hA.at_ (by rw [HN.out]; exact h0)
    exact ⟨b, off, e1⟩
  rw [HN.out, HRA.out, HRB.out]
  clear hA hl
  go_enter Tryd.func18, Tryd.ntmps18
  go_wp2_with fail
  go_loopg [2, 3, 8] n (fun gg av bv iv wr => ∃ (i x y : Nat), av = .int .i64 x ∧ bv = .int .i64 y ∧ iv = .int .i64 i ∧ i ≤ n ∧ gg = n - i ∧ x ≤ i ∧ y ≤ i ∧ Hid (cA (L.take i) = x ∧ cB (L.take i) = y) ∧ Hid (Below G w wr))
  case atStart => exact ⟨0, 0, 0, rfl, rfl, rfl, Nat.zero_le _, rfl, Nat.le_refl _, Nat.le_refl _, hid ⟨rfl, rfl⟩, hid (Below.refl _ _)⟩
  case round =>
    obtain ⟨i, x, y, rfl, rfl, rfl, hi, hk, hxi, hyi, HC, HB⟩ := hrel
    by_cases hlt : i < n
    · have hlti : (i : Int) < (n : Int) := by omega
      obtain ⟨b, off, e1⟩ := HFA.out (by omega)
      subst e1
      obtain ⟨k, HK⟩ : ∃ k, Hid ((L.getD i (0, [])).1 = k) := ⟨_, rfl⟩
      obtain ⟨X, HX⟩ : ∃ X, Hid ((⟨(L.getD i (0, [])).2.toArray⟩ : ByteArray) = X) := ⟨_, rfl⟩
      obtain ⟨hc0, hc1⟩ := PE.two (HPA.out _ HB.out) i (by rw [HN.out]; exact hlt)
      rw [HK.out] at hc0
      rw [HX.out] at hc1
      have HA2 : Hid (cA (L.take (i + 1)) = x + (if k = 2 then 0 else 1)) := hid (by rw [take_snocG (0, []) L i (by rw [HN.out]; exact hlt), cA_snoc, HK.out, HC.out.1])
      have HB2 : Hid (cB (L.take (i + 1)) = y + (if k = 1 then 0 else 1)) := hid (by rw [take_snocG (0, []) L i (by rw [HN.out]; exact hlt), cB_snoc, HK.out, HC.out.2])
      rcases (by omega : k = 1 ∨ k = 2 ∨ (k ≠ 1 ∧ k ≠ 2)) with hk1 | hk2 | ⟨hk1, hk2⟩
      · subst hk1
        go_wp2_with fail
        go_roundg (n - (i + 1))
        case rel => exact ⟨i + 1, x + 1, y, by go_num, rfl, by go_num, by omega, rfl, by omega, by omega, hid ⟨HA2.out, HB2.out⟩, hid (HB.out.alloc (by rw [← HG.out]; exact HB.out.size) _)⟩
        case measure => omega
      · subst hk2
        go_wp2_with fail
        go_roundg (n - (i + 1))
        case rel => exact ⟨i + 1, x, y + 1, rfl, by go_num, by go_num, by omega, rfl, by omega, by omega, hid ⟨HA2.out, HB2.out⟩, hid (HB.out.alloc (by rw [← HG.out]; exact HB.out.size) _)⟩
        case measure => omega
      · have hb1 : ((k : Int) != 1) = true := by simp; omega
        have hb2 : ((k : Int) != 2) = true := by simp; omega
        rw [if_neg hk2] at HA2
        rw [if_neg hk1] at HB2
        go_wp2_with fail
        go_roundg (n - (i + 1))
        case rel => exact ⟨i + 1, x + 1, y + 1, by go_num, by go_num, by go_num, by omega, rfl, by omega, by omega, hid ⟨HA2.out, HB2.out⟩, hid (HB.out.alloc (by rw [← HG.out]; exact HB.out.size) _)⟩
        case measure => omega
    · have hge : ¬ ((i : Int) < (n : Int)) := by omega
      have ei : i = n := by omega
      subst ei
      go_wp2_with fail
      go_ret2
      refine ⟨?_, by rw [HG.out]; exact HB.out⟩
      have ec := HC.out
      rw [show List.take i L = L from List.take_of_length_le (by rw [HN.out]; exact Nat.le_refl _), HRA.out, HRB.out] at ec
      rw [ec.1, ec.2]
      rfl
end Go.Proofs.YtjpihkheapjigaaDoor
