/- A queue's 'Pop'; 'heap.up'. -/
import Derived.Test.YtjgjeedablgmeaaDoorGrP
namespace Go.Proofs.YtjgjeedablgmeaaDoor
open Go.RowKit
set_option linter.unusedVariables false
set_option linter.unusedSimpArgs false
set_option maxRecDepth 20000 in
set_option maxHeartbeats 1000000 in
theorem qpop_any {w : World} {Qb B g n1 cap : Nat} {l1 : List Nd} {x : Nd} (h : Qu w Qb B (.slice (some ⟨g, 0, none⟩) (n1 + 1) cap) (l1 ++ [x])) (hl : l1.length = n1) (hn : n1 ≤ 2000) :
    Calls Tryd.prog 110 #[.pointer (some ⟨Qb, 0, none⟩)] w fun e w' => e = .returned (.iface 53 (.agg (ndV x).toArray)) ∧ Qu w' Qb B (.slice (some ⟨g, 0, none⟩) n1 cap) l1 ∧ Fr2 Qb (some g) w w' := by
  obtain ⟨R, HR⟩ : ∃ R : List Value, Hid (ndV x = R) := ⟨_, rfl⟩
  have hx20 : x.id.length = 20 := h.wf x (by simp)
  have HRL : Hid (R.length = 22) := hid (by rw [← HR.out]; exact ndV_len x hx20)
  have hiR : (Tryd.prog.info? 53).map (·.size) = some R.length := by rw [HRL.out]; exact Tryd.size53
  obtain ⟨zr, HZ⟩ : ∃ zr : Array Value, Hid (zr = (ndV nd0).toArray) := ⟨_, rfl⟩
  have hz53 : ∀ w : World, (zeroValue 53).run Tryd.prog w = .ok (.agg zr) w := fun w => by rw [HZ.out]; exact zero53 w
  have hwl : ∀ y ∈ l1 ++ [x], (ndV y).length = 22 := fun y hy => ndV_len y (h.wf y hy)
  have RR : Hid (w.rangeAt g (n1 * 22) R) := hid (by
    obtain ⟨a', cap', e1, e2, _⟩ := h.own.px (d := nd0) hwl
    have hll : (l1 ++ [x]).length = n1 + 1 := by simp [hl]
    rw [hll] at e1
    cases e1
    obtain ⟨b', off', e3, _, e4⟩ := e2.at_ (by rw [hll]; omega)
    cases e3
    have := e4 n1 (by rw [hll]; omega)
    rw [show (l1 ++ [x]).getD n1 nd0 = x by rw [← hl]; simp, HR.out, Nat.zero_add] at this
    exact this)
  have I53 : Hid ((Tryd.prog.info? 53).map (·.size) = some R.toArray.size) := hid (by rw [List.size_toArray]; exact hiR)
  have E53 : Hid (zr.size = R.toArray.size) := hid (by rw [HZ.out, List.size_toArray, List.size_toArray, HRL.out]; rfl)
  have O53 : Hid (R.toArray.all (·.oneCell') = true) := hid (by rw [← HR.out]; exact all_oneCell_toArray (ndV_one x))
  have D0 : Hid ((w.alloc (.cells zr 53)).heap[w.heap.size]? = some (.cells zr 53 (0, 0))) := heap_alloc_new w _
  obtain ⟨w3, HW3⟩ : ∃ w3, Hid ((w.alloc (.cells zr 53)).setRow w.heap.size R.toArray = w3) := ⟨_, rfl⟩
  obtain ⟨H, HH⟩ : ∃ H, Hid (w.heap.size = H) := ⟨_, rfl⟩
  have hb3 : Below w.heap.size w w3 := by rw [← HW3.out]; exact below_setRow ((Below.refl _ w).alloc (Nat.le_refl _) _) (Nat.le_refl _) _
  have HX3 : Hid (w3.heap[H]? = some (.cells R.toArray 53 (0, 0))) := hid (by rw [← HW3.out, ← HH.out]; exact setRow_heap _ _ _ R.toArray _ _ D0.out)
  have hq3 := h.below hb3
  have hc0 : w.cell? ⟨Qb, 0, none⟩ = some (.slice (some ⟨g, 0, none⟩) (n1 + 1) cap) := h.cell
  have hc3 : w3.cell? ⟨Qb, 0, none⟩ = some (.slice (some ⟨g, 0, none⟩) (n1 + 1) cap) := hq3.cell
  have hf3 : w3.frozen? ⟨Qb, 0, none⟩ = false := hq3.frozen
  have hcut : Bx ndV 22 53 w3 w3 B (.slice (some ⟨g, 0, none⟩) n1 cap) l1 := by
    have := hq3.own.cut hwl n1 (by simp [hl])
    rwa [List.take_left' hl] at this
  obtain ⟨hq4, hg4⟩ := hq3.put hcut (fun y hy => h.wf y (by simp [hy])) h.ne
  have HQ4 : Hid (Qu (w3.setCell ⟨Qb, 0, none⟩ (.slice (some ⟨g, 0, none⟩) n1 cap)) Qb B (.slice (some ⟨g, 0, none⟩) n1 cap) l1) := hq4
  have hne : H ≠ Qb := by have := lt_of_some h.box; rw [HH.out] at this; omega
  have R4 : Hid ((w3.setCell ⟨Qb, 0, none⟩ (.slice (some ⟨g, 0, none⟩) n1 cap)).rangeAt H 0 R) := hid (range_row ((hg4.block H (lt_of_some HX3.out) (by simp; exact hne)).trans HX3.out))
  have HF : Hid (Fr2 Qb (some g) w (w3.setCell ⟨Qb, 0, none⟩ (.slice (some ⟨g, 0, none⟩) n1 cap))) := hid ((Fr2.of_below hb3).trans (Fr2.of_box (r := none) hg4) (fun k hk => by cases hk))
  have hcp : n1 + 1 ≤ cap := by
    obtain ⟨_, ⟨h1, _⟩ | ⟨_, _, cur, h1, _, _, h2, _⟩⟩ := h.own.own
    · cases h1
    · injection h1 with _ _ h3
      rw [← h3] at h2
      simp [hl] at h2
      omega
  have hcpi : (n1 : Int) ≤ (cap : Int) := by omega
  rw [HR.out]
  clear h hwl hb3 hq3 hcut hq4 hg4 hx20
  go_enter Tryd.func110, Tryd.ntmps110
  go_wp2_with (first
    | refine wpList_load_mid rfl 53 _ rfl g (n1 * 22) rfl R _ RR.out Tryd.underlying53 rfl hiR ?_
    | (refine wpList_store_row rfl 53 _ _ rfl w.heap.size R.toArray rfl rfl 53 zr D0.out I53.out E53.out O53.out ?_; rw [HW3.out, HH.out])
    | refine wpList_load_mid rfl 53 _ rfl H 0 rfl R _ R4.out Tryd.underlying53 rfl hiR ?_
    | fail)
  go_ret
  exact ⟨rfl, HQ4.out, HF.out⟩
end Go.Proofs.YtjgjeedablgmeaaDoor
