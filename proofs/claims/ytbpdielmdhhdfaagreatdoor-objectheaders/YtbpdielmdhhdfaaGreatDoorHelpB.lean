/- THE WALK OF 'gitlikelaw0.Roomy'. -/
import Derived.Test.YtbpdielmdhhdfaaGreatDoorHelpA
import Derived.Laws.IdiomCopy
namespace Go.Proofs.YtbpdielmdhhdfaaGreatDoor
open Go.RowKit


/-- What Roomy leaves: a block g of its own: the bytes, 71, 72; nothing of it is frozen. -/
structure Room (w : World) (g : Nat) (zs : List Int) : Prop where
  lt : g < w.heap.size
  cell : ∀ i, i < zs.length → w.cell? ⟨g, i, none⟩ = some (.int .u8 (zs.getD i 0))
  c71 : w.cell? ⟨g, zs.length, none⟩ = some (.int .u8 71)
  c72 : w.cell? ⟨g, zs.length + 1, none⟩ = some (.int .u8 72)
  fz : ∀ i, w.frozen? ⟨g, i, none⟩ = false


/-- 'copy' of bytes into a row of one's own. -/
theorem copy_in (w1 : World) (g n2 : Nat) (a : Option Addr) (cap : Nat) (zs : List Int) (hn : zs.length ≤ n2) (hcell : ∀ j, j < n2 → w1.cell? ⟨g, j, none⟩ = some (.int .u8 0)) (hfz : ∀ j, w1.frozen? ⟨g, j, none⟩ = false)
    (hc : 0 < zs.length → ∃ b off, a = some ⟨b, off, none⟩ ∧ At w1 b off zs) :
    ∃ w2, Sem.run Tryz.prog (Builtin.copy_ #[23, 23] 3 #[.slice (some ⟨g, 0, none⟩) n2 n2, .slice a zs.length cap]) w1 = .ok (.int .i64 zs.length) w2 ∧ Below g w1 w2 ∧ w2.heap.size = w1.heap.size ∧
      (∀ j, j < zs.length → w2.cell? ⟨g, j, none⟩ = some (.int .u8 (zs.getD j 0))) ∧ (∀ j, zs.length ≤ j → j < n2 → w2.cell? ⟨g, j, none⟩ = some (.int .u8 0)) ∧ ∀ j, w2.frozen? ⟨g, j, none⟩ = false := by
  by_cases h0 : zs.length = 0
  · refine ⟨w1, ?_, Below.refl _ _, rfl, fun j hj => by omega, fun j _ hj => hcell j hj, hfz⟩
    rw [run_copy_none w1 23 23 3 5 _ a n2 n2 zs.length cap Tryz.underlying23 Tryz.size5 (by rw [h0]; exact Nat.zero_min _), h0]; rfl
  · obtain ⟨b, off, rfl, hat⟩ := hc (by omega)
    have hlen : (zs.map (Value.int .u8)).length = zs.length := by simp
    have hr := run_copy_cells (P := Tryz.prog) w1 23 23 3 5 g 0 n2 n2 ⟨b, off, none⟩ zs.length cap (zs.map (Value.int .u8)) Tryz.underlying23 Tryz.size5
      (by rw [hlen]; exact (Nat.min_eq_left hn).symm)
      (fun j v hj => by
        rw [List.getElem?_map] at hj
        cases hq : zs[j]? with
        | none => simp [hq] at hj
        | some q =>
          simp [hq] at hj
          subst hj
          have hlt : j < zs.length := by rcases Nat.lt_or_ge j zs.length with h | h; exact h; rw [List.getElem?_eq_none h] at hq; cases hq
          have := hat j hlt
          rw [addr_add]
          simpa [hq] using this)
      (fun j hj => by rw [hlen] at hj; rw [Nat.zero_add, hcell j (by omega)]; rfl) (fun j _ => hfz _) (ints_oneCell _ _)
    have hin := World.cell?_setCells_in g (zs.map (Value.int .u8)) 0 w1 (fun j hj => by rw [hlen] at hj; rw [Nat.zero_add, hcell j (by omega)]; rfl)
    refine ⟨_, by rw [hr, hlen]; rfl, below_setCells (Nat.le_refl _) _ _ _ _ (Below.refl _ _), size_setCells _ _ _ _, fun j hj => ?_, fun j h1 h2 => ?_, fun j => ?_⟩
    · have := hin j (by omega)
      rw [Nat.zero_add] at this
      rw [this]
      simp [hj]
    · rw [World.cell?_setCells_out g _ 0 w1 _ (fun _ _ => Or.inr (by rw [hlen]; simpa using h1))]
      exact hcell j h2
    · rw [World.frozen?_setCells]; exact hfz j

theorem room_of {w2 : World} {g : Nat} {zs : List Int} (hs : g < w2.heap.size) (hin : ∀ j, j < zs.length → w2.cell? ⟨g, j, none⟩ = some (.int .u8 (zs.getD j 0))) (k1 : w2.cell? ⟨g, zs.length, none⟩ = some (.int .u8 0))
    (k2 : w2.cell? ⟨g, zs.length + 1, none⟩ = some (.int .u8 0)) (hfz : ∀ j, w2.frozen? ⟨g, j, none⟩ = false) :
    Room ((w2.setCell ⟨g, zs.length, none⟩ (.int .u8 71)).setCell ⟨g, zs.length + 1, none⟩ (.int .u8 72)) g zs where
  lt := by simpa [World.setCell] using hs
  cell i hi := by
    rw [World.cell?_setCell_other _ _ _ _ (by intro h; simp only [Addr.mk.injEq] at h; omega), World.cell?_setCell_other _ _ _ _ (by intro h; simp only [Addr.mk.injEq] at h; omega)]; exact hin i hi
  c71 := by rw [World.cell?_setCell_other _ _ _ _ (by simp)]; exact World.cell?_setCell_same _ _ _ k1
  c72 := World.cell?_setCell_same (u := .int .u8 0) _ _ _ (by rw [World.cell?_setCell_other _ _ _ _ (by simp)]; exact k2)
  fz i := by rw [World.frozen?_setCell, World.frozen?_setCell]; exact hfz i

set_option maxRecDepth 10000 in
set_option maxHeartbeats 400000 in
theorem roomy_any (a : Option Addr) (cap : Nat) (zs : List Int) (w : World) (hl : zs.length ≤ 300000) (hc : 0 < zs.length → ∃ b off, a = some ⟨b, off, none⟩ ∧ b < w.heap.size ∧ At w b off zs) :
    Calls Tryz.prog 8 #[.slice a zs.length cap] w fun e w' => e = .returned (.slice (some ⟨w.heap.size, 0, none⟩) zs.length (zs.length + 2)) ∧ Below w.heap.size w w' ∧ Room w' w.heap.size zs := by
  obtain ⟨i5, hi, hz0, hz1, hz2⟩ := info_parts Tryz.info5
  go_enter Tryz.func8, Tryz.ntmps8
  go_wp2_with (at_make; refine wpList_make_full _ rfl _ _ 23 rfl w.heap.size 5 i5 (.int .u8 0) 1 Tryz.underlying23 hi hz0 hz1 _ _ _ _ (zs.length + 2) rfl rfl ?c1 ?c2 ?c3 ?c4 ?c5 ?_)
  case c1 => omega
  case c2 => omega
  case c3 => rw [hz2]; omega
  case c4 => unfold maxLen; omega
  case c5 => exact Nat.le_refl _
  · intro w1 hown hgrow
    have hb1 : Below w.heap.size w w1 := (Below.refl _ _).grown hgrow (Nat.le_refl _) (fun k h => by cases h)
    have hs1 : w.heap.size < w1.heap.size := (hown.lt _ rfl).2
    obtain ⟨w2, hrun, hb2, hs2, hin, hout, hfz⟩ := copy_in w1 w.heap.size (zs.length + 2) a cap zs (by omega)
      (fun j hj => by
        rw [hown.cellAt j (by omega), toList_madeCells_one, List.getElem?_replicate, if_pos (by omega)]) hown.frozenAt
      (fun h => by
        obtain ⟨b, off, ha, hb, hat⟩ := hc h
        exact ⟨b, off, ha, fun j hj => (hb1.cell (p := ⟨b, off + j, none⟩) hb).trans (hat j hj)⟩)
    have k1 := hout zs.length (by omega) (by omega)
    have k2 := hout (zs.length + 1) (by omega) (by omega)
    have f1 := hfz zs.length
    have f2 := hfz (zs.length + 1)
    have HB : Hid (Below w.heap.size w w2) := hb1.trans hb2
    clear hown hgrow hb1 hc hout hb2
    go_wp2
    go_ret
    exact ⟨rfl, (HB.out.setCell (Nat.le_refl _) _).setCell (Nat.le_refl _) _, room_of (by omega) hin k1 k2 hfz⟩
end Go.Proofs.YtbpdielmdhhdfaaGreatDoor
