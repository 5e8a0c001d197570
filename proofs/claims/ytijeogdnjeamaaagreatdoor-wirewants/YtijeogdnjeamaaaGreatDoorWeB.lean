/- 'once' of ids: a closure with a set behind a box. -/
import Derived.Test.YtijeogdnjeamaaaGreatDoorWeP
namespace Go.Proofs.YtijeogdnjeamaaaGreatDoor
open Go.RowKit
set_option linter.unusedVariables false
set_option linter.unusedSimpArgs false
/-- A box with a set of ids behind it. -/
structure On (w : World) (p g n : Nat) (S : List Int → Prop) : Prop where
  bx : Boxed w p 184 (.map (some g))
  si : SI w g n S
  ne : g ≠ p
theorem On.kept {w w' : World} {p g n : Nat} {S : List Int → Prop} {row : Option Nat} (h : On w p g n S) (hg : w.grownBy w' row) (h1 : row ≠ some g) (h2 : row ≠ some p) : On w' p g n S :=
  ⟨h.bx.kept hg (fun e => h2 e.symm), h.si.kept hg (fun e => h1 e.symm), h.ne⟩
theorem On.below {w w' : World} {p g n : Nat} {S : List Int → Prop} (h : On w p g n S) (hb : Below w.heap.size w w') : On w' p g n S := h.kept (row := none) (grown_of_below hb _) (by simp) (by simp)
abbrev onF (p : Nat) : Value := .func (.func 104) #[] #[.pointer (some ⟨p, 0, none⟩)]
set_option maxRecDepth 20000 in
theorem once_any (w : World) : Calls Tryz.prog 71 #[] w fun e w' => Below w.heap.size w w' ∧ ∃ p g, w.heap.size ≤ p ∧ w.heap.size ≤ g ∧ e = .returned (onF p) ∧ On w' p g 0 (fun _ => False) := by
  obtain ⟨G, HG⟩ : ∃ G, Hid (w.heap.size = G) := ⟨_, rfl⟩
  obtain ⟨w1, HW1⟩ : ∃ u, Hid (w.alloc (.map #[] 0) = u) := ⟨_, rfl⟩
  have hs1 : w1.heap.size = G + 1 := by rw [← HW1.out, ← HG.out]; exact size_alloc _ _
  obtain ⟨w2, HW2⟩ : ∃ u, Hid (w1.alloc (.cells #[.map none] 184) = u) := ⟨_, rfl⟩
  have HSI : Hid (SI w1 G 0 (fun _ => False)) := hid (by rw [← HW1.out, ← HG.out]; exact si_made w)
  have hs2 : w2.heap.size = G + 1 + 1 := by rw [← HW2.out, ← hs1]; exact size_alloc _ _
  have hb2 : Boxed w2 (G + 1) 184 (.map none) := by rw [← HW2.out, ← hs1]; exact Boxed.new _ _ _
  obtain ⟨w3, HW3⟩ : ∃ u, Hid (w2.setCell ⟨G + 1, 0, none⟩ (.map (some G)) = u) := ⟨_, rfl⟩
  have hc3 : Boxed w3 (G + 1) 184 (.map (some G)) := by rw [← HW3.out]; exact hb2.set _
  have hg3 : w2.grownBy w3 (some (G + 1)) := by rw [← HW3.out]; exact grownBy_setCell' _ _ _
  have HB : Hid (Below G w w3) := hid (by
    have h1 : Below G w w2 := by
      rw [← HW2.out, ← HW1.out, ← HG.out]
      exact ((Below.refl _ w).alloc (Nat.le_refl _) _).alloc (by simp) _
    exact h1.grown hg3 (by rw [hs2]; omega) (fun k hk => by cases hk; omega))
  have HON : Hid (On w3 (G + 1) G 0 (fun _ => False)) := hid ⟨hc3, (HSI.out.kept (row := none) (by rw [← HW2.out]; exact World.grownBy_alloc _ _ _) (by simp)).kept hg3 (by simp), by omega⟩
  have hc2 := hb2.cell
  have hf2 := hb2.frozen
  have al1 : w.alloc (.map #[] 0) = w1 := HW1.out
  have al2 : w1.alloc (.cells #[.map none] 184) = w2 := HW2.out
  have al3 : w2.setCell ⟨G + 1, 0, none⟩ (.map (some G)) = w3 := HW3.out
  rw [HG.out]
  clear hb2 hc3 hg3
  have hmk : (Instr.makeMap 184 none).run Tryz.prog w = .ok (.map (some G)) w1 := by
    rw [← HG.out, ← HW1.out]
    kernel_rfl
  have hs0 : w.heap.size = G := HG.out
  go_enter Tryz.func71, Tryz.ntmps71
  go_wp2
  go_ret
  exact ⟨HB.out, G + 1, G, by omega, Nat.le_refl _, rfl, HON.out⟩
def PostOn (x : List Int) (p g n : Nat) (S : List Int → Prop) (w : World) (e : Ending) (w' : World) : Prop :=
  w.grownBy w' (some g) ∧ ((S x ∧ e = .returned (.iface 37 (.int .i64 111))) ∨ (¬ S x ∧ e = .returned .nilIface ∧ On w' p g (n + 1) (fun y => y = x ∨ S y)))
theorem size68 : (Tryz.prog.info? 68).map (·.size) = some 20 := by kernel_rfl
theorem size67 : (Tryz.prog.info? 67).map (·.size) = some 20 := by kernel_rfl
set_option maxRecDepth 20000 in
theorem onceF_any {w : World} {p g n : Nat} {S : List Int → Prop} (h : On w p g n S) (hn : n ≤ 100000) {x : List Int} (hx : IdW x) : Calls Tryz.prog 104 #[idV x, .pointer (some ⟨p, 0, none⟩)] w (PostOn x p g n S w) := by
  obtain ⟨G, HG⟩ : ∃ G, Hid (w.heap.size = G) := ⟨_, rfl⟩
  obtain ⟨Y, HY⟩ : ∃ S : List Value, Hid (row .u8 x = S) := ⟨_, rfl⟩
  have hiY : (Tryz.prog.info? 68).map (·.size) = some Y.length := by rw [← HY.out, row_len, hx.1]; exact size68
  obtain ⟨w1, HW1⟩ : ∃ w1, Hid (w.alloc (.cells Y.toArray 68) = w1) := ⟨_, rfl⟩
  have hg1 : w.grownBy w1 none := by rw [← HW1.out]; exact World.grownBy_alloc _ _ _
  have hon1 : On w1 p g n S := h.kept hg1 (by simp) (by simp)
  have RY1 : Hid (w1.rangeAt G 0 Y) := hid (by rw [← HW1.out, ← HG.out]; exact range_row (heap_alloc_new w _))
  obtain ⟨b, hb, hlk⟩ := hon1.si.look hx
  have HLK : Hid ((Instr.lookup 184 (.map (some g)) (.agg Y.toArray) true).run Tryz.prog w1 = .ok (.tuple #[.agg #[], .bool b]) w1) := hid (by rw [← HY.out]; exact hlk)
  have HBS : Hid (b = true ↔ S x) := hid hb
  have hz185 : ∀ w : World, (zeroValue 185).run Tryz.prog w = .ok (.agg #[]) w := zero185
  obtain ⟨w2, HW2⟩ : ∃ w2, Hid (w1.alloc (.cells #[] 185) = w2) := ⟨_, rfl⟩
  have hg2 : w1.grownBy w2 none := by rw [← HW2.out]; exact World.grownBy_alloc _ _ _
  have hon2 : On w2 p g n S := hon1.kept hg2 (by simp) (by simp)
  have RY2 : Hid (w2.rangeAt G 0 Y) := hid (fun j v hv => by
    have := RY1.out j v hv
    exact hg2.cell this (by simp))
  have hp1 := hon1.bx.cell
  have hp2 := hon2.bx.cell
  have al1 : w.alloc (.cells Y.toArray 68) = w1 := HW1.out
  have al2 : w1.alloc (.cells #[] 185) = w2 := HW2.out
  obtain ⟨w3, hup, hsi3, hg3⟩ := hon2.si.put hn hx
  have HUP : Hid ((Instr.mapUpdate 184 (.map (some g)) (.agg Y.toArray) (.agg #[])).run Tryz.prog w2 = .ok () w3) := hid (by rw [← HY.out]; exact hup)
  have HG2 : Hid (w.grownBy w2 none) := hid (hg1.trans hg2)
  have HG3 : Hid (w.grownBy w3 (some g)) := hid (((hg1.trans hg2).but _).trans hg3)
  have HON3 : Hid (On w3 p g (n + 1) (fun y => y = x ∨ S y)) := hid ⟨hon2.bx.kept hg3 (fun e => hon2.ne (by cases e; rfl)), hsi3, hon2.ne⟩
  unfold idV
  rw [HY.out]
  clear hb hlk h hg1 hg2 hon1 hon2 hup hsi3 hg3
  cases b with
  | true =>
    have HSX : Hid (S x) := hid (HBS.out.1 rfl)
    clear HBS
    have hs0 : w.heap.size = G := HG.out
    go_enter Tryz.func104, Tryz.ntmps104
    go_wp2_with (first
      | (refine wpList_load_mid rfl 68 _ rfl G 0 rfl Y _ RY1.out Tryz.underlying68 rfl hiY ?_)
      | (refine wpList_load_mid rfl 68 _ rfl G 0 rfl Y _ RY2.out Tryz.underlying68 rfl hiY ?_)
      | refine wpList_run rfl _ (exec_lookup rfl rfl rfl HLK.out) ?_
      | refine wpList_skip rfl (exec_update rfl rfl rfl rfl HUP.out) ?_
      | fail)
    go_ret
    exact ⟨HG2.out.but _, .inl ⟨HSX.out, rfl⟩⟩
  | false =>
    have HSX : Hid (¬ S x) := hid (fun hs => by have := HBS.out.2 hs; cases this)
    clear HBS
    have hs0 : w.heap.size = G := HG.out
    go_enter Tryz.func104, Tryz.ntmps104
    go_wp2_with (first
      | (refine wpList_load_mid rfl 68 _ rfl G 0 rfl Y _ RY1.out Tryz.underlying68 rfl hiY ?_)
      | (refine wpList_load_mid rfl 68 _ rfl G 0 rfl Y _ RY2.out Tryz.underlying68 rfl hiY ?_)
      | refine wpList_run rfl _ (exec_lookup rfl rfl rfl HLK.out) ?_
      | refine wpList_skip rfl (exec_update rfl rfl rfl rfl HUP.out) ?_
      | fail)
    go_ret
    exact ⟨HG3.out, .inr ⟨HSX.out, rfl, HON3.out⟩⟩
end Go.Proofs.YtijeogdnjeamaaaGreatDoor
