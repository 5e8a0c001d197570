/- 'spread', walked. -/
import Derived.Test.YtbpdielmdhhdfaaGreatDoorSprA
namespace Go.Proofs.YtbpdielmdhhdfaaGreatDoor
open Go.RowKit
set_option linter.unusedVariables false

theorem wrap_i64 (n : Nat) (h : n < 9223372036854775808) : IntKind.i64.wrap (n : Int) = n := by
  rw [IntKind.wrap_i64]; omega
theorem heap_drew (w : World) : w.drew.heap = w.heap := rfl
def z80 : List Int := List.replicate 80 0
theorem zero47 (w : World) : (zeroValue 201).run Tryz.prog w = .ok (.agg (row .u32 z80).toArray) w := by kernel_rfl
theorem heap_alloc3 (w : World) (a b c : Obj) : ((((w.alloc a).alloc b).alloc c).heap[w.heap.size]? = some a ∧ (((w.alloc a).alloc b).alloc c).heap[w.heap.size + 1]? = some b) ∧ (((w.alloc a).alloc b).alloc c).heap[w.heap.size + 1 + 1]? = some c := by
  refine ⟨⟨?_, ?_⟩, ?_⟩
  · rw [Below.heap_alloc _ _ _ (by simp; omega)]; exact heap_alloc2_old w a b
  · rw [Below.heap_alloc _ _ _ (by simp)]; exact heap_alloc2_new w a b
  · have := heap_alloc_new ((w.alloc a).alloc b) c
    simpa using this
set_option maxRecDepth 20000 in
set_option maxHeartbeats 1000000 in
theorem spread_any (zs : List Int) (w : World) (hl : zs.length = 64) (hz : IsB zs) :
    Calls Tryz.prog 146 #[.agg (row .u8 zs).toArray] w fun e w' => e = .returned (.agg (row .u32 (spread zs)).toArray) ∧ Below w.heap.size w w' := by
  have hi47 : ∀ l : List Int, l.length = 80 → (Tryz.prog.info? 201).map (·.size) = some (row .u32 l).length := fun l h => by rw [row_len, h]; exact Tryz.size201
  have hi41 : (Tryz.prog.info? 182).map (·.size) = some (row .u8 zs).length := by rw [row_len, hl]; exact Tryz.size182
  obtain ⟨arr, HA⟩ : ∃ arr, Hid (arr = row .u8 zs) := ⟨_, rfl⟩
  rw [← HA.out]
  have hasz : arr.toArray.size = 64 := by rw [HA.out, row_size]; exact hl
  rw [← HA.out] at hi41
  have HX : Hid (∀ i, i < 64 → arr.toArray[i]? = some (.int .u8 (zs.getD i 0))) := fun i hi => by rw [HA.out]; simpa using row_at .u8 zs i (by omega)
  obtain ⟨zr, HZ⟩ : ∃ zr : Array Value, Hid (zr = (row .u32 z80).toArray) := ⟨_, rfl⟩
  have hzv := zero47
  rw [← HZ.out] at hzv
  have H3 : Hid (_ ∧ _) := heap_alloc3 w (.cells arr.toArray 182) (.cells zr 201) (.cells zr 201)
  have HB0 : Hid (Below w.heap.size w (((w.alloc (.cells arr.toArray 182)).alloc (.cells zr 201)).alloc (.cells zr 201))) := (((Below.refl _ w).alloc (Nat.le_refl _) _).alloc (by simp) _).alloc (by simp; omega) _
  go_enter Tryz.func146, Tryz.ntmps146
  go_wp2_with (refine wpList_load_mid rfl 182 _ rfl w.heap.size 0 rfl arr _ (range_row H3.out.1.1) Tryz.underlying182 rfl hi41 ?_)
  go_loopg [8] 64 (fun k i wr => ∃ j : Nat, j ≤ 64 ∧ k = 64 - j ∧ i = .int .i64 j ∧ Hid (wr.heap[w.heap.size + 1 + 1]? = some (.cells (row .u32 (wAt zs j)).toArray 201 (0, 0))) ∧ Hid (wr.heap[w.heap.size + 1]? = some (.cells (row .u32 z80).toArray 201 (0, 0))) ∧ Hid (Below w.heap.size w wr))
  case atStart =>
    refine ⟨0, by omega, rfl, rfl, hid ?_, hid ?_, HB0⟩
    · rw [wAt_zero, H3.out.2, HZ.out]; rfl
    · rw [H3.out.1.2, HZ.out]
  case round =>
    obtain ⟨j, hj, hk, rfl, H1, H0, HB⟩ := hrel
    by_cases hlt : j < 64
    · have hix : ∀ w1 : World, (Instr.index 182 (.agg arr.toArray) (.int .i64 j)).run Tryz.prog w1 = .ok (.int .u8 (zs.getD j 0)) w1 := fun w1 => index_row 182 5 64 _ _ j _ w1 Tryz.underlying182 Tryz.size5 _ Tryz.underlying5 rfl hlt (HX.out j hlt)
      obtain ⟨x, HXX⟩ : ∃ x, Hid (x = zs.getD j 0) := ⟨_, rfl⟩
      rw [← HXX.out] at hix
      have hxb : 0 ≤ x ∧ x < 256 := by rw [HXX.out]; exact hz.at j
      obtain ⟨m, HM⟩ : ∃ m, Hid (m = j / 4) := ⟨_, rfl⟩
      have hm : j / 4 = m := HM.out.symm
      have hm2 : m < 80 := by omega
      obtain ⟨v, HV⟩ : ∃ v, Hid (v = (wAt zs j).getD (j / 4) 0) := ⟨_, rfl⟩
      have hv : 0 ≤ v ∧ v < 16777216 := by rw [HV.out]; exact wAt_small zs hz j hlt
      have hc : wr.cell? ⟨w.heap.size + 1 + 1, m, none⟩ = some (.int .u32 v) := by rw [HV.out, hm]; exact row_cell H1.out m (by rw [wAt_len]; exact hm2)
      have hfz := frozen_of_row wr (w.heap.size + 1 + 1) m _ 201 H1.out
      obtain ⟨y, HY⟩ : ∃ y, Hid (y = v * 256 + x) := ⟨_, rfl⟩
      have hor := or8 v x hv hxb
      rw [← HY.out] at hor
      have hor2 : bits .or .u32 (v * 256) x = y := by rw [← hor]; congr 1; omega
      go_wp2
      go_roundg (64 - (j + 1))
      case measure => omega
      case rel =>
        refine ⟨j + 1, by omega, rfl, by go_num, hid ?_, hid ?_, HB.out.setCell (by simp <;> omega) _⟩
        · rw [heap_setCell_same wr _ _ _ _ _ H1.out, wAt_step zs j hlt, ← HV.out, ← HXX.out, ← HY.out, hm, row_set, ← hor2]
        · rw [heap_setCell_other wr _ _ _ (by simp)]; exact H0.out
    · obtain rfl : j = 64 := by omega
      go_wp2
      go_loopg [6] 64 (fun k i wr => ∃ j : Nat, j ≤ 64 ∧ k = 64 - j ∧ i = .int .i64 (16 + j : Nat) ∧ Hid (wr.heap[w.heap.size + 1 + 1]? = some (.cells (row .u32 (spAt (wAt zs 64) j)).toArray 201 (0, 0))) ∧ Hid (wr.heap[w.heap.size + 1]? = some (.cells (row .u32 z80).toArray 201 (0, 0))) ∧ Hid (Below w.heap.size w wr))
      case atStart => exact ⟨0, by omega, rfl, rfl, H1, H0, HB⟩
      case round =>
        clear H1 H0 HB
        obtain ⟨j, hj, hk, rfl, H1, H0, HB⟩ := hrel
        obtain ⟨v, HV⟩ : ∃ v, Hid (v = spAt (wAt zs 64) j) := ⟨_, rfl⟩
        rw [← HV.out] at H1
        have hvl : v.length = 80 := by rw [HV.out, spAt_len, wAt_len]
        have hvw : IsW v := by rw [HV.out]; exact spAt_isW _ (wAt_isW zs hz 64) _
        obtain ⟨q, HQ⟩ : ∃ q, Hid (q = 16 + j) := ⟨_, rfl⟩
        rw [← HQ.out]
        have hq : 16 ≤ q ∧ q ≤ 80 := by have := HQ.out; omega
        by_cases hlt : q < 80
        · obtain ⟨x1, G1⟩ : ∃ x, Hid (x = v.getD (q - 3) 0) := ⟨_, rfl⟩
          obtain ⟨x2, G2⟩ : ∃ x, Hid (x = v.getD (q - 8) 0) := ⟨_, rfl⟩
          obtain ⟨x3, G3⟩ : ∃ x, Hid (x = v.getD (q - 14) 0) := ⟨_, rfl⟩
          obtain ⟨x4, G4⟩ : ∃ x, Hid (x = v.getD (q - 16) 0) := ⟨_, rfl⟩
          obtain ⟨q1, Q1⟩ : ∃ r, Hid (r = q - 3) := ⟨_, rfl⟩
          have e1 : IntKind.i64.wrap ((q : Int) - 3) = (q1 : Int) := by rw [show (q : Int) - 3 = (q1 : Int) from by have := Q1.out; omega]; exact wrap_i64 _ (by have := Q1.out; omega)
          have b1 : q1 < 80 := by have := Q1.out; omega
          have bi1 : (q1 : Int) < 80 := by omega
          have bz1 : (0 : Int) ≤ q1 := by omega
          have c1 : wr.cell? ⟨w.heap.size + 1 + 1, q1, none⟩ = some (.int .u32 x1) := by rw [G1.out, Q1.out]; exact row_cell H1.out _ (by omega)
          obtain ⟨q2, Q2⟩ : ∃ r, Hid (r = q - 8) := ⟨_, rfl⟩
          have e2 : IntKind.i64.wrap ((q : Int) - 8) = (q2 : Int) := by rw [show (q : Int) - 8 = (q2 : Int) from by have := Q2.out; omega]; exact wrap_i64 _ (by have := Q2.out; omega)
          have b2 : q2 < 80 := by have := Q2.out; omega
          have bi2 : (q2 : Int) < 80 := by omega
          have bz2 : (0 : Int) ≤ q2 := by omega
          have c2 : wr.cell? ⟨w.heap.size + 1 + 1, q2, none⟩ = some (.int .u32 x2) := by rw [G2.out, Q2.out]; exact row_cell H1.out _ (by omega)
          obtain ⟨q3, Q3⟩ : ∃ r, Hid (r = q - 14) := ⟨_, rfl⟩
          have e3 : IntKind.i64.wrap ((q : Int) - 14) = (q3 : Int) := by rw [show (q : Int) - 14 = (q3 : Int) from by have := Q3.out; omega]; exact wrap_i64 _ (by have := Q3.out; omega)
          have b3 : q3 < 80 := by have := Q3.out; omega
          have bi3 : (q3 : Int) < 80 := by omega
          have bz3 : (0 : Int) ≤ q3 := by omega
          have c3 : wr.cell? ⟨w.heap.size + 1 + 1, q3, none⟩ = some (.int .u32 x3) := by rw [G3.out, Q3.out]; exact row_cell H1.out _ (by omega)
          obtain ⟨q4, Q4⟩ : ∃ r, Hid (r = q - 16) := ⟨_, rfl⟩
          have e4 : IntKind.i64.wrap ((q : Int) - 16) = (q4 : Int) := by rw [show (q : Int) - 16 = (q4 : Int) from by have := Q4.out; omega]; exact wrap_i64 _ (by have := Q4.out; omega)
          have b4 : q4 < 80 := by have := Q4.out; omega
          have bi4 : (q4 : Int) < 80 := by omega
          have bz4 : (0 : Int) ≤ q4 := by omega
          have c4 : wr.cell? ⟨w.heap.size + 1 + 1, q4, none⟩ = some (.int .u32 x4) := by rw [G4.out, Q4.out]; exact row_cell H1.out _ (by omega)
          have c5 : wr.cell? ⟨w.heap.size + 1 + 1, q, none⟩ = some (.int .u32 (v.getD q 0)) := row_cell H1.out _ (by omega)
          have bi5 : (q : Int) < 80 := by omega
          have bz5 : (0 : Int) ≤ q := by omega
          have f5 := frozen_of_row wr (w.heap.size + 1 + 1) q _ 201 H1.out
          obtain ⟨n, HN⟩ : ∃ n, Hid (n = nx v q) := ⟨_, rfl⟩
          have hn : bits .xor .u32 (bits .xor .u32 (bits .xor .u32 x1 x2) x3) x4 = n := by rw [HN.out, G1.out, G2.out, G3.out, G4.out]; rfl
          have hnb : U n := by rw [HN.out]; exact nx_bd v q
          have k1 : ∀ (W : World) (u : Value), (W.setCell ⟨w.heap.size + 1 + 1, q, none⟩ u).cell? ⟨w.heap.size + 1 + 1, q1, none⟩ = W.cell? ⟨w.heap.size + 1 + 1, q1, none⟩ := fun W u => World.cell?_setCell_other _ _ _ _ (by intro h; simp only [Addr.mk.injEq] at h; have := Q1.out; omega)
          have k2 : ∀ (W : World) (u : Value), (W.setCell ⟨w.heap.size + 1 + 1, q, none⟩ u).cell? ⟨w.heap.size + 1 + 1, q2, none⟩ = W.cell? ⟨w.heap.size + 1 + 1, q2, none⟩ := fun W u => World.cell?_setCell_other _ _ _ _ (by intro h; simp only [Addr.mk.injEq] at h; have := Q2.out; omega)
          have k3 : ∀ (W : World) (u : Value), (W.setCell ⟨w.heap.size + 1 + 1, q, none⟩ u).cell? ⟨w.heap.size + 1 + 1, q3, none⟩ = W.cell? ⟨w.heap.size + 1 + 1, q3, none⟩ := fun W u => World.cell?_setCell_other _ _ _ _ (by intro h; simp only [Addr.mk.injEq] at h; have := Q3.out; omega)
          have k4 : ∀ (W : World) (u : Value), (W.setCell ⟨w.heap.size + 1 + 1, q, none⟩ u).cell? ⟨w.heap.size + 1 + 1, q4, none⟩ = W.cell? ⟨w.heap.size + 1 + 1, q4, none⟩ := fun W u => World.cell?_setCell_other _ _ _ _ (by intro h; simp only [Addr.mk.injEq] at h; have := Q4.out; omega)
          go_wp2
          go_region_held3 (fun w' => w'.cell? ⟨w.heap.size + 1 + 1, q1, none⟩ = some (.int .u32 x1) ∧ w'.cell? ⟨w.heap.size + 1 + 1, q2, none⟩ = some (.int .u32 x2) ∧ w'.cell? ⟨w.heap.size + 1 + 1, q3, none⟩ = some (.int .u32 x3) ∧ w'.cell? ⟨w.heap.size + 1 + 1, q4, none⟩ = some (.int .u32 x4)) (go_keep) ((go_at_call 148; refine (rot1 n _ hnb).mono ?_; rintro e w1 ⟨rfl, rfl⟩))
          go_wp2
          go_roundg (64 - (j + 1))
          case measure => have := HQ.out; omega
          case rel =>
            refine ⟨j + 1, by have := HQ.out; omega, rfl, by have := HQ.out; go_num, hid ?_, hid ?_, (HB.out.setCell (by simp <;> omega) _).drew⟩
            · rw [heap_drew, heap_setCell_same wr _ _ _ _ _ H1.out, spAt, ← HV.out, ← HQ.out, ← HN.out, row_set]
            · rw [heap_drew, heap_setCell_other wr _ _ _ (by simp)]; exact H0.out
        · obtain rfl : q = 80 := by omega
          have hj64 : j = 64 := by have := HQ.out; omega
          subst hj64
          have T1 : Hid (wr.there (w.heap.size + 1) 0 (row .u32 v).toArray.size) := hid (by rw [row_size, hvl]; exact there_row H0.out (by simp [z80]))
          have T2 : Hid ((Tryz.prog.info? 201).map (·.size) = some (row .u32 v).toArray.size) := hid (by rw [row_size, hvl]; exact Tryz.size201)
          have T3 : Hid ((row .u32 v).toArray.all (·.oneCell') = true) := all_oneCell_toArray (row_one _ _)
          have HVS : Hid (v = spread zs) := HV.out
          go_wp2_with (first | refine wpList_load_mid rfl 201 _ rfl (w.heap.size + 1 + 1) 0 rfl (row .u32 v) _ (range_row H1.out) Tryz.underlying201 rfl (hi47 _ hvl) ?_ | refine wpList_store_mid rfl 201 _ _ rfl (w.heap.size + 1) 0 (row .u32 v).toArray rfl rfl T1.out T2.out T3.out ?_)
          · rw [← HVS.out]
            refine bodyPost_ret (v := .agg (row .u32 v).toArray) (results_mid Tryz.results146 _ _ (w.heap.size + 1) _ _ rfl (World.rangeAt_setCells_same wr (w.heap.size + 1) 0 _ ?_) Tryz.underlying201 rfl (hi47 _ hvl)) rfl ⟨rfl, below_setCells (by omega) _ _ _ _ HB.out⟩
            rw [row_len, hvl]; exact there_row H0.out (by simp [z80])
end Go.Proofs.YtbpdielmdhhdfaaGreatDoor
