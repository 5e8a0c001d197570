/- 'Inflate' of nil; and of any slice of bytes, with any number. -/
import Derived.Test.YtbiibhpknflagaaDoorInfC
namespace Go.Proofs.YtbiibhpknflagaaDoor
open Go.RowKit Plain
set_option linter.unusedVariables false
set_option linter.unusedSimpArgs false

theorem readByte_nil (S : Nat) (w : World) (c0 : w.cell? ⟨S, 0, none⟩ = some (.slice none 0 0)) (c1 : w.cell? ⟨S, 1, none⟩ = some (.int .i64 0)) :
    Calls Tryd.prog 27 #[.pointer (some ⟨S, 0, none⟩)] w fun e w' => e = .panicked (errv 10) ∧ Kept S (.bool true) (.bool true) w w' := by
  have HK : Hid (Kept S (.bool true) (.bool true) w w) := Kept.refl _ _ _
  go_enter Tryd.func27, Tryd.ntmps27
  go_wp2
  go_quiet (fail)
  go_wp2
  exact ⟨rfl, rfl, HK.out.drewN _⟩
theorem readHead_nil (S : Nat) (w : World) (c0 : w.cell? ⟨S, 0, none⟩ = some (.slice none 0 0)) (c1 : w.cell? ⟨S, 1, none⟩ = some (.int .i64 0)) :
    Calls Tryd.prog 20 #[.pointer (some ⟨S, 0, none⟩)] w fun e w' => e = .panicked (errv 10) ∧ Kept S (.bool true) (.bool true) w w' := by
  go_enter Tryd.func20, Tryd.ntmps20
  go_wp2_with fail
  refine (readByte_nil S w c0 c1).mono ?_
  rintro e w1 ⟨rfl, k1⟩
  exact ⟨rfl, rfl, k1⟩

set_option maxRecDepth 20000 in
set_option maxHeartbeats 1000000 in
theorem inflate_nil (most : Int) (w : World) : Calls Tryd.prog 13 #[.slice none 0 0, .int .i64 most] w (PostI w.heap.size w (.error 10)) := by
  have hmf : ∀ (fn : Fn) (first cap : Array Value) (w : World), (Instr.makeFunc fn first cap).run Tryd.prog w = .ok (.func fn first cap) w := fun _ _ _ _ => rfl
  go_enter_defers Tryd.func13, Tryd.ntmps13
  go_wp2_with fail
  all_goals
    refine (readHead_nil (w.heap.size + 1) _ (by simp [go_sem]) (by simp [go_sem])).mono ?_
    rintro e w2 ⟨rfl, k2⟩
    have hG := k2.all w.heap.size (by simp; omega) (by omega)
    have l1 := World.cell?_of_block (a := ⟨w.heap.size, 0, none⟩) hG
    have l2 := World.frozen?_of_block (a := ⟨w.heap.size, 0, none⟩) hG
    simp [go_sem] at l1 l2
    have l3 : Below w.heap.size w (w2.setCell ⟨w.heap.size, 0, none⟩ (.iface 32 (.int .i64 10))) := ((k2.weak (.slice none 0 0)).below (((Below.refl _ w).alloc (Nat.le_refl _) _).alloc (by simp) _) (Nat.le_refl _) (by omega) (by simp [Value.ownBlock])).setCell (Nat.le_refl _) _
    have l4 := World.cell?_setCell_same w2 _ (.iface 32 (.int .i64 10)) l1
    simp only [bodyPostD]
    refine leaves_cons (f := 18) (args := #[.pointer (some ⟨w.heap.size, 0, none⟩)]) (by simp) (by simp [go_sem]) ?_
    refine (catch_panicking ⟨w.heap.size, 0, none⟩ 10 _ [] _ l1 l2).mono ?_
    rintro e u' w'' ⟨rfl, rfl, rfl⟩
    simp [Leaves, settle, results, Tryd.results13, go_sem, l4]
    exact ⟨l3, rfl⟩

theorem inflate_some (ib io cap : Nat) (zs : List Int) (most : Int) (w : World) (hz : IsB zs) (hl : zs.length ≤ 400000) (hc : zs.length ≤ cap) (hat : At w ib io zs) (hib : ib < w.heap.size) (hm2 : most ≤ 300000) (ht : TabsW w) :
    Calls Tryd.prog 13 #[.slice (some ⟨ib, io, none⟩) zs.length cap, .int .i64 most] w (PostI w.heap.size w (inflOf zs (max most 0))) := by
  by_cases h : most < 0
  · exact inflate_neg ib io cap zs most w hz hl hc hat hib h ht
  · exact inflate_any ib io cap zs most w hz hl hc hat hib (by omega) hm2 ht
end Go.Proofs.YtbiibhpknflagaaDoor
