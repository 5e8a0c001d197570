import Derived.Test.YtcicoeneemnbiaaGreatDoorMw01
namespace Go.Proofs.YtcicoeneemnbiaaGreatDoor
open Go.RowKit
set_option linter.unusedVariables false
theorem u5_cells {w : World} {g : Nat} {a b c d e : Int} {t : TypeId} {fr : Nat × Nat} (h : w.heap[g]? = some (.cells #[.int .u32 a, .int .u32 b, .int .u32 c, .int .u32 d, .int .u32 e] t fr)) :
    w.cell? ⟨g, 0, none⟩ = some (.int .u32 a) ∧ w.cell? ⟨g, 1, none⟩ = some (.int .u32 b) ∧ w.cell? ⟨g, 2, none⟩ = some (.int .u32 c) ∧ w.cell? ⟨g, 3, none⟩ = some (.int .u32 d) ∧ w.cell? ⟨g, 4, none⟩ = some (.int .u32 e) := by
  refine ⟨?_, ?_, ?_, ?_, ?_⟩ <;> (rw [cell_of_row w g _ _ t fr h]; rfl)
theorem below_drewN' (B : Nat) {w0 w : World} (n : Nat) (h : Below B w0 w) : Below B w0 (w.drewN n) := h.trans ⟨rfl, rfl, rfl, Nat.le_refl _, fun _ _ => rfl⟩
theorem setCells5 (w : World) (g : Nat) (t : TypeId) (z0 z1 z2 z3 z4 v0 v1 v2 v3 v4 : Value) (h : w.heap[g]? = some (.cells #[z0, z1, z2, z3, z4] t (0, 0))) :
    (w.setCells g 0 [v0, v1, v2, v3, v4]).heap[g]? = some (.cells #[v0, v1, v2, v3, v4] t (0, 0)) := by
  have h1 := heap_setCell_same w g 0 _ _ v0 h
  have h2 := heap_setCell_same _ g 1 _ _ v1 h1
  have h3 := heap_setCell_same _ g 2 _ _ v2 h2
  have h4 := heap_setCell_same _ g 3 _ _ v3 h3
  exact heap_setCell_same _ g 4 _ _ v4 h4
theorem shift5 (w : World) (g nq nn : Nat) (t : TypeId) (a b c d e y z : Value) (h : w.heap[g]? = some (.cells #[a, b, c, d, e] t (0, 0))) :
    ((((((((w.drewN nq).setCell ⟨g, 4, none⟩ d).setCell ⟨g, 3, none⟩ c).drewN nn).setCell ⟨g, 2, none⟩ z).setCell ⟨g, 1, none⟩ a).setCell ⟨g, 0, none⟩ y)).heap[g]? = some (.cells #[y, a, z, c, d] t (0, 0)) := by
  have h1 := heap_setCell_same (w.drewN nq) g 4 _ _ d h
  have h2 := heap_setCell_same _ g 3 _ _ c h1
  have h3 := heap_setCell_same (((((w.drewN nq).setCell ⟨g, 4, none⟩ d).setCell ⟨g, 3, none⟩ c).drewN nn)) g 2 _ _ z h2
  have h4 := heap_setCell_same _ g 1 _ _ a h3
  exact heap_setCell_same _ g 0 _ _ y h4
theorem shift5_below {B : Nat} {w0 w : World} (g nq nn : Nat) (a c d y z : Value) (hg : B ≤ g) (h : Below B w0 w) :
    Below B w0 ((((((((w.drewN nq).setCell ⟨g, 4, none⟩ d).setCell ⟨g, 3, none⟩ c).drewN nn).setCell ⟨g, 2, none⟩ z).setCell ⟨g, 1, none⟩ a).setCell ⟨g, 0, none⟩ y)) := by
  have h1 := below_drewN' B nq h
  have h2 := h1.setCell (p := ⟨g, 4, none⟩) hg d
  have h3 := h2.setCell (p := ⟨g, 3, none⟩) hg c
  have h4 := below_drewN' B nn h3
  have h5 := h4.setCell (p := ⟨g, 2, none⟩) hg z
  have h6 := h5.setCell (p := ⟨g, 1, none⟩) hg a
  exact h6.setCell (p := ⟨g, 0, none⟩) hg y
def addAt (l m : List Int) (j : Nat) : List Int := (List.range 5).map fun i => if i < j then (l.getD i 0 + m.getD i 0) % 4294967296 else l.getD i 0
theorem addAt_len (l m : List Int) (j : Nat) : (addAt l m j).length = 5 := by simp [addAt]
theorem addAt_step (l m : List Int) (j : Nat) (h : j < 5) : addAt l m (j + 1) = (addAt l m j).set j ((l.getD j 0 + m.getD j 0) % 4294967296) := by
  apply List.ext_getElem (by simp [addAt])
  intro i h1 h2
  rw [List.getElem_set]
  simp only [addAt, List.getElem_map, List.getElem_range]
  by_cases e : j = i
  · subst e; rw [if_pos (by omega), if_pos rfl]
  · rw [if_neg e]
    by_cases h : i < j
    · rw [if_pos (by omega), if_pos h]
    · rw [if_neg (by omega), if_neg h]
theorem addAt_get (l m : List Int) (j : Nat) (h : j < 5) : (addAt l m j).getD j 0 = l.getD j 0 := by simp [addAt, h]
theorem addAt_five (s t : S5) : addAt s.l t.l 5 = (plus s t).l := rfl
theorem l_isW (s : S5) (h : s.ok) : IsW s.l := by
  obtain ⟨h1, h2, h3, h4, h5⟩ := h
  intro x hx
  simp only [S5.l, List.mem_cons, List.not_mem_nil, or_false] at hx
  rcases hx with rfl | rfl | rfl | rfl | rfl <;> assumption
set_option maxRecDepth 20000 in
set_option maxHeartbeats 2000000 in
theorem block_any (s : S5) (b off cap : Nat) (zs : List Int) (w : World) (hs : s.ok) (hl : zs.length = 64) (hz : IsB zs) (hat : At w b off zs) (hbw : b < w.heap.size) :
    Calls Tryz.prog 36 #[.agg (row .u32 s.l).toArray, .slice (some ⟨b, off, none⟩) 64 cap] w fun e w' => e = .returned (.agg (row .u32 (comp s zs).l).toArray) ∧ Below w.heap.size w w' := by
  obtain ⟨a0, b0, c0, d0, e0⟩ := s
  have HS : Hid (S5.ok ⟨a0, b0, c0, d0, e0⟩) := hs
  clear hs
  simp only [S5.l, row, List.map_cons, List.map_nil]
  obtain ⟨zr, HZ⟩ : ∃ zr : Array Value, Hid (zr = (row .u32 z80).toArray) := ⟨_, rfl⟩
  have hzv := zero47
  rw [← HZ.out] at hzv
  have H3 : Hid (_ ∧ _) := heap_alloc3 w (.cells #[.int .u32 a0, .int .u32 b0, .int .u32 c0, .int .u32 d0, .int .u32 e0] 75) (.cells #[.int .u32 0, .int .u32 0, .int .u32 0, .int .u32 0, .int .u32 0] 75) (.cells zr 111)
  have HB0 : Hid (Below w.heap.size w (((w.alloc (.cells #[.int .u32 a0, .int .u32 b0, .int .u32 c0, .int .u32 d0, .int .u32 e0] 75)).alloc (.cells #[.int .u32 0, .int .u32 0, .int .u32 0, .int .u32 0, .int .u32 0] 75)).alloc (.cells zr 111))) := (((Below.refl _ w).alloc (Nat.le_refl _) _).alloc (by simp) _).alloc (by simp; omega) _
  go_enter Tryz.func36, Tryz.ntmps36
  go_wp2
  go_loopg [6] 16 (fun k i wr => ∃ j : Nat, j ≤ 16 ∧ k = 16 - j ∧ i = .int .i64 j ∧ Hid (wr.heap[w.heap.size + 1 + 1]? = some (.cells (row .u32 (rAt zs j)).toArray 111 (0, 0))) ∧ Hid (wr.heap[w.heap.size + 1]? = some (.cells #[.int .u32 0, .int .u32 0, .int .u32 0, .int .u32 0, .int .u32 0] 75 (0, 0))) ∧ Hid (wr.heap[w.heap.size]? = some (.cells #[.int .u32 a0, .int .u32 b0, .int .u32 c0, .int .u32 d0, .int .u32 e0] 75 (0, 0))) ∧ Hid (Below w.heap.size w wr) ∧ Hid (w.heap.size + 1 + 1 < wr.heap.size))
  case atStart => exact ⟨0, by omega, rfl, rfl, hid (by rw [rAt_zero, H3.out.2, HZ.out]; rfl), H3.out.1.2, H3.out.1.1, HB0, hid (by simp)⟩
  case round =>
    obtain ⟨j, hj, hk, rfl, H2, H1, H0, HB, HZ1⟩ := hrel
    by_cases hlt : j < 16
    · have hat' : At wr b off zs := fun i hi => (HB.out.cell (p := ⟨b, off + i, none⟩) hbw).trans (hat i hi)
      have hnum := fun w1 (h : At w1 b off zs) => number_any b off cap j zs w1 hl hz hlt h
      rw [← val4] at hnum
      have hc : wr.cell? ⟨w.heap.size + 1 + 1, j, none⟩ = some (.int .u32 ((rAt zs j).getD j 0)) := row_cell H2.out j (by rw [rAt_len]; omega)
      have hfz := frozen_of_row wr (w.heap.size + 1 + 1) j _ 111 H2.out
      go_wp2_with (go_at_call 56; refine (hnum _ hat').mono ?_; rintro e w' ⟨rfl, nn, rfl⟩)
      go_roundg (16 - (j + 1))
      case measure => omega
      case rel =>
        refine ⟨j + 1, by omega, rfl, by go_num, hid ?_, hid ?_, hid ?_, (below_drewN' _ _ HB.out).setCell (by simp <;> omega) _, hid (by have := HZ1.out; simpa [World.setCell] using this)⟩
        · rw [heap_setCell_same (wr.drewN nn) _ _ _ _ _ H2.out, rAt_step zs j hlt, row_set]
        · rw [heap_setCell_other (wr.drewN nn) _ _ _ (by simp)]; exact H1.out
        · rw [heap_setCell_other (wr.drewN nn) _ _ _ (by simp <;> omega)]; exact H0.out
    · obtain rfl : j = 16 := by omega
      rw [rAt_16] at H2
      go_wp2
      go_loopg [7] 64 (fun k i wr => ∃ j : Nat, j ≤ 64 ∧ k = 64 - j ∧ i = .int .i64 (16 + j : Nat) ∧ Hid (wr.heap[w.heap.size + 1 + 1]? = some (.cells (row .u32 (spAt (wAt zs 64) j)).toArray 111 (0, 0))) ∧ Hid (wr.heap[w.heap.size + 1]? = some (.cells #[.int .u32 0, .int .u32 0, .int .u32 0, .int .u32 0, .int .u32 0] 75 (0, 0))) ∧ Hid (wr.heap[w.heap.size]? = some (.cells #[.int .u32 a0, .int .u32 b0, .int .u32 c0, .int .u32 d0, .int .u32 e0] 75 (0, 0))) ∧ Hid (Below w.heap.size w wr) ∧ Hid (w.heap.size + 1 + 1 < wr.heap.size))
      case atStart => exact ⟨0, by omega, rfl, rfl, H2, H1, H0, HB, HZ1⟩
      case round =>
        clear H2 H1 H0 HB HZ1
        obtain ⟨j, hj, hk, rfl, H2, H1, H0, HB, HZ1⟩ := hrel
        obtain ⟨v, HV⟩ : ∃ v, Hid (v = spAt (wAt zs 64) j) := ⟨_, rfl⟩
        rw [← HV.out] at H2
        have hvl : v.length = 80 := by rw [HV.out, spAt_len, wAt_len]
        have hvw : IsW v := by rw [HV.out]; exact spAt_isW _ (wAt_isW zs hz 64) _
        obtain ⟨q, HQ⟩ : ∃ q, Hid (q = 16 + j) := ⟨_, rfl⟩
        rw [← HQ.out]
        have hq : 16 ≤ q ∧ q ≤ 80 := by have := HQ.out; omega
        by_cases hlt : q < 80
        · obtain ⟨x1, G1⟩ : ∃ x, Hid (x = v.getD (q - 3) 0) := ⟨_, rfl⟩
          obtain ⟨x2, G2⟩ : ∃ x, Hid (x = v.getD (q - 8) 0) := ⟨_, rfl⟩
          obtain ⟨x3, G3⟩ : ∃ x, Hid (x = v.getD (q - 14) 0) := ⟨_, rfl⟩
          obtain ⟨x4, G4⟩ : ∃ x, Hid (x = v.getD (q - 16) 0) := ⟨_, rfl⟩
          obtain ⟨q1, Q1⟩ : ∃ r, Hid (r = q - 3) := ⟨_, rfl⟩
          have e1 : IntKind.i64.wrap ((q : Int) - 3) = (q1 : Int) := by rw [show (q : Int) - 3 = (q1 : Int) from by have := Q1.out; omega]; exact wrap_i64 _ (by have := Q1.out; omega)
          have b1 : q1 < 80 := by have := Q1.out; omega
          have bi1 : (q1 : Int) < 80 := by omega
          have bz1 : (0 : Int) ≤ q1 := by omega
          have c1 : wr.cell? ⟨w.heap.size + 1 + 1, q1, none⟩ = some (.int .u32 x1) := by rw [G1.out, Q1.out]; exact row_cell H2.out _ (by omega)
          obtain ⟨q2, Q2⟩ : ∃ r, Hid (r = q - 8) := ⟨_, rfl⟩
          have e2 : IntKind.i64.wrap ((q : Int) - 8) = (q2 : Int) := by rw [show (q : Int) - 8 = (q2 : Int) from by have := Q2.out; omega]; exact wrap_i64 _ (by have := Q2.out; omega)
          have b2 : q2 < 80 := by have := Q2.out; omega
          have bi2 : (q2 : Int) < 80 := by omega
          have bz2 : (0 : Int) ≤ q2 := by omega
          have c2 : wr.cell? ⟨w.heap.size + 1 + 1, q2, none⟩ = some (.int .u32 x2) := by rw [G2.out, Q2.out]; exact row_cell H2.out _ (by omega)
          obtain ⟨q3, Q3⟩ : ∃ r, Hid (r = q - 14) := ⟨_, rfl⟩
          have e3 : IntKind.i64.wrap ((q : Int) - 14) = (q3 : Int) := by rw [show (q : Int) - 14 = (q3 : Int) from by have := Q3.out; omega]; exact wrap_i64 _ (by have := Q3.out; omega)
          have b3 : q3 < 80 := by have := Q3.out; omega
          have bi3 : (q3 : Int) < 80 := by omega
          have bz3 : (0 : Int) ≤ q3 := by omega
          have c3 : wr.cell? ⟨w.heap.size + 1 + 1, q3, none⟩ = some (.int .u32 x3) := by rw [G3.out, Q3.out]; exact row_cell H2.out _ (by omega)
          obtain ⟨q4, Q4⟩ : ∃ r, Hid (r = q - 16) := ⟨_, rfl⟩
          have e4 : IntKind.i64.wrap ((q : Int) - 16) = (q4 : Int) := by rw [show (q : Int) - 16 = (q4 : Int) from by have := Q4.out; omega]; exact wrap_i64 _ (by have := Q4.out; omega)
          have b4 : q4 < 80 := by have := Q4.out; omega
          have bi4 : (q4 : Int) < 80 := by omega
          have bz4 : (0 : Int) ≤ q4 := by omega
          have c4 : wr.cell? ⟨w.heap.size + 1 + 1, q4, none⟩ = some (.int .u32 x4) := by rw [G4.out, Q4.out]; exact row_cell H2.out _ (by omega)
          have c5 : wr.cell? ⟨w.heap.size + 1 + 1, q, none⟩ = some (.int .u32 (v.getD q 0)) := row_cell H2.out _ (by omega)
          have bi5 : (q : Int) < 80 := by omega
          have bz5 : (0 : Int) ≤ q := by omega
          have f5 := frozen_of_row wr (w.heap.size + 1 + 1) q _ 111 H2.out
          obtain ⟨n, HN⟩ : ∃ n, Hid (n = nx v q) := ⟨_, rfl⟩
          have hn : bits .xor .u32 (bits .xor .u32 (bits .xor .u32 x1 x2) x3) x4 = n := by rw [HN.out, G1.out, G2.out, G3.out, G4.out]; rfl
          have hnb : U n := by rw [HN.out]; exact nx_bd v q
          go_wp2
          go_quiet (fail)
          go_wp2_with (go_at_call 57; refine (tn1 n _ hnb).mono ?_; rintro e w' ⟨rfl, nn, rfl⟩)
          go_roundg (64 - (j + 1))
          case measure => have := HQ.out; omega
          case rel =>
            refine ⟨j + 1, by have := HQ.out; omega, rfl, by have := HQ.out; go_num, hid ?_, hid ?_, hid ?_, (below_drewN' _ _ HB.out).setCell (by simp <;> omega) _, hid (by have := HZ1.out; simpa [World.setCell] using this)⟩
            · rw [heap_setCell_same (wr.drewN (nq + nn)) _ _ _ _ _ H2.out, spAt, ← HV.out, ← HQ.out, ← HN.out, row_set]
            · rw [heap_setCell_other (wr.drewN (nq + nn)) _ _ _ (by simp)]; exact H1.out
            · rw [heap_setCell_other (wr.drewN (nq + nn)) _ _ _ (by simp <;> omega)]; exact H0.out
        · obtain rfl : q = 80 := by omega
          have hj64 : j = 64 := by have := HQ.out; omega
          subst hj64
          have HVS : Hid (v = spread zs) := HV.out
          obtain ⟨wb, rfl⟩ : ∃ wb, wb = wr := ⟨_, rfl⟩
          obtain ⟨r0, r1, r2, r3, r4⟩ := u5_cells H0.out
          have hzb : w.heap.size + 1 + 1 < wb.heap.size := HZ1.out
          have HT : Hid ((wb.alloc (.cells #[.int .u32 0, .int .u32 0, .int .u32 0, .int .u32 0, .int .u32 0] 75)).there wb.heap.size 0 5) := there_cells (heap_alloc_new wb _) rfl
          obtain ⟨w5, HW5⟩ : ∃ w5, Hid (w5 = (wb.alloc (.cells #[.int .u32 0, .int .u32 0, .int .u32 0, .int .u32 0, .int .u32 0] 75)).setCells wb.heap.size 0 (#[.int .u32 a0, .int .u32 b0, .int .u32 c0, .int .u32 d0, .int .u32 e0] : Array Value).toList) := ⟨_, rfl⟩
          have H9 : Hid (w5.heap[wb.heap.size]? = some (.cells #[.int .u32 a0, .int .u32 b0, .int .u32 c0, .int .u32 d0, .int .u32 e0] 75 (0, 0))) := hid (by rw [HW5.out]; exact setCells5 _ _ _ _ _ _ _ _ _ _ _ _ _ (heap_alloc_new wb _))
          have HX5 : Hid (Below wb.heap.size wb w5) := hid (by rw [HW5.out]; exact below_setCells (Nat.le_refl _) _ _ _ _ ((Below.refl _ _).alloc (Nat.le_refl _) _))
          have J2 : Hid (w5.heap[w.heap.size + 1 + 1]? = some (.cells (row .u32 v).toArray 111 (0, 0))) := (HX5.out.block _ (by omega)).trans H2.out
          have J1 : Hid (w5.heap[w.heap.size + 1]? = some (.cells #[.int .u32 0, .int .u32 0, .int .u32 0, .int .u32 0, .int .u32 0] 75 (0, 0))) := (HX5.out.block _ (by omega)).trans H1.out
          have J0 : Hid (w5.heap[w.heap.size]? = some (.cells #[.int .u32 a0, .int .u32 b0, .int .u32 c0, .int .u32 d0, .int .u32 e0] 75 (0, 0))) := (HX5.out.block _ (by omega)).trans H0.out
          have HB5 : Hid (Below w.heap.size w w5) := HB.out.trans (HX5.out.mono (by omega))
          go_wp2_with (refine wpList_store_mid rfl 75 _ _ rfl wb.heap.size 0 _ rfl rfl HT.out Tryz.size75 (by simp [Value.oneCell']) ?_; rw [← HW5.out])
          clear r0 r1 r2 r3 r4
          go_loopg [10] 80 (fun k i wr => ∃ (n : Nat) (s : S5), n ≤ 80 ∧ k = 80 - n ∧ i = .int .i64 n ∧ Hid (s = rds v ⟨a0, b0, c0, d0, e0⟩ n) ∧ Hid (wr.heap[wb.heap.size]? = some (.cells #[.int .u32 s.a, .int .u32 s.b, .int .u32 s.c, .int .u32 s.d, .int .u32 s.e] 75 (0, 0))) ∧ Hid (Below wb.heap.size w5 wr))
          case atStart => exact ⟨0, ⟨a0, b0, c0, d0, e0⟩, by omega, rfl, rfl, rfl, H9, Below.refl _ _⟩
          case round =>
            obtain ⟨n, ⟨a, b, c, d, e⟩, hn, hk2, rfl, HSt, HR, HBr⟩ := hrel
            obtain ⟨ha, hb, hc, hd, he⟩ : S5.ok ⟨a, b, c, d, e⟩ := by rw [HSt.out]; exact rds_ok v _ HS.out _
            obtain ⟨r0, r1, r2, r3, r4⟩ := u5_cells HR.out
            have f0 := frozen_of_row wr wb.heap.size 0 _ 75 HR.out
            have f1 := frozen_of_row wr wb.heap.size 1 _ 75 HR.out
            have f2 := frozen_of_row wr wb.heap.size 2 _ 75 HR.out
            have f3 := frozen_of_row wr wb.heap.size 3 _ 75 HR.out
            have f4 := frozen_of_row wr wb.heap.size 4 _ 75 HR.out
            by_cases hn80 : n < 80
            · obtain ⟨x, HX⟩ : ∃ x, Hid (x = v.getD n 0) := ⟨_, rfl⟩
              have hx : U x := by rw [HX.out]; exact hvw.at _
              have hcl : wr.cell? ⟨w.heap.size + 1 + 1, n, none⟩ = some (.int .u32 x) := by
                rw [HX.out]; exact (HBr.out.cell (p := ⟨w.heap.size + 1 + 1, n, none⟩) (by omega)).trans (row_cell J2.out n (by omega))
              obtain ⟨fv, HF⟩ : ∃ fv, Hid (fv = fi n b c d) := ⟨_, rfl⟩
              obtain ⟨kq, HKQ⟩ : ∃ kq, Hid (kq = ki n) := ⟨_, rfl⟩
              obtain ⟨t5, HT5⟩ : ∃ t, Hid (t = turn5 a) := ⟨_, rfl⟩
              have ht5 : U t5 := by rw [HT5.out]; exact turn5_bd a
              have hr5 := fun w => tn5 a w ha
              rw [← HT5.out] at hr5
              have hr30 := fun w => tn30 b w hb
              obtain ⟨ha1, ha2⟩ := ha
              obtain ⟨hb1, hb2⟩ := hb
              obtain ⟨hc1, hc2⟩ := hc
              obtain ⟨hd1, hd2⟩ := hd
              obtain ⟨he1, he2⟩ := he
              obtain ⟨hx1, hx2⟩ := hx
              obtain ⟨ht1, ht2⟩ := ht5
              have hsg : IntKind.u32.signed = false := rfl
              have hmx : IntKind.u32.max = 4294967295 := rfl
              rcases (by omega : n < 20 ∨ (20 ≤ n ∧ n < 40) ∨ (40 ≤ n ∧ n < 60) ∨ 60 ≤ n) with hc' | ⟨hc', hc''⟩ | ⟨hc', hc''⟩ | hc'
              · have hfv : bits .or .u32 (bits .and .u32 b c) (bits .and .u32 (bits .xor .u32 4294967295 b) d) = fv := by rw [HF.out, fi, if_pos (by omega)]; rfl
                have hkq : kq = 1518500249 := by rw [HKQ.out, ki, if_pos (by omega)]
                have hfb : U fv := by rw [HF.out]; exact fi_bd _ _ _ _
                obtain ⟨hf1, hf2⟩ := hfb
                go_wp2
                go_quiet ((go_at_call 57; exact Calls.quiet_of (hr5 _)))
                go_wp2_with (go_at_call 57; refine (hr30 _).mono ?_; rintro e w' ⟨rfl, nn, rfl⟩)
                go_roundg (80 - (n + 1))
                case measure => omega
                case rel =>
                  refine ⟨n + 1, rd v n ⟨a, b, c, d, e⟩, by omega, rfl, by go_num, hid (by rw [HSt.out]; rfl), hid ?_, shift5_below _ _ _ _ _ _ _ _ (Nat.le_refl _) HBr.out⟩
                  show _ = some (Obj.cells #[Value.int .u32 ((turn5 a + fi n b c d + e + ki n + v.getD n 0) % 4294967296), .int .u32 a, .int .u32 (turn30 b), .int .u32 c, .int .u32 d] 75 (0, 0))
                  rw [← HT5.out, ← HF.out, ← HX.out, ← HKQ.out, hkq]
                  exact shift5 wr wb.heap.size nq nn 75 _ _ _ _ _ _ _ HR.out
              · have hfv : bits .xor .u32 (bits .xor .u32 b c) d = fv := by rw [HF.out, fi, if_neg (by omega), if_pos (by omega)]; rfl
                have hkq : kq = 1859775393 := by rw [HKQ.out, ki, if_neg (by omega), if_pos (by omega)]
                have hfb : U fv := by rw [HF.out]; exact fi_bd _ _ _ _
                obtain ⟨hf1, hf2⟩ := hfb
                go_wp2
                go_quiet ((go_at_call 57; exact Calls.quiet_of (hr5 _)))
                go_wp2_with (go_at_call 57; refine (hr30 _).mono ?_; rintro e w' ⟨rfl, nn, rfl⟩)
                go_roundg (80 - (n + 1))
                case measure => omega
                case rel =>
                  refine ⟨n + 1, rd v n ⟨a, b, c, d, e⟩, by omega, rfl, by go_num, hid (by rw [HSt.out]; rfl), hid ?_, shift5_below _ _ _ _ _ _ _ _ (Nat.le_refl _) HBr.out⟩
                  show _ = some (Obj.cells #[Value.int .u32 ((turn5 a + fi n b c d + e + ki n + v.getD n 0) % 4294967296), .int .u32 a, .int .u32 (turn30 b), .int .u32 c, .int .u32 d] 75 (0, 0))
                  rw [← HT5.out, ← HF.out, ← HX.out, ← HKQ.out, hkq]
                  exact shift5 wr wb.heap.size nq nn 75 _ _ _ _ _ _ _ HR.out
              · have hfv : bits .or .u32 (bits .or .u32 (bits .and .u32 b c) (bits .and .u32 b d)) (bits .and .u32 c d) = fv := by rw [HF.out, fi, if_neg (by omega), if_neg (by omega), if_pos (by omega)]; rfl
                have hkq : kq = 2400959708 := by rw [HKQ.out, ki, if_neg (by omega), if_neg (by omega), if_pos (by omega)]
                have hfb : U fv := by rw [HF.out]; exact fi_bd _ _ _ _
                obtain ⟨hf1, hf2⟩ := hfb
                go_wp2
                go_quiet ((go_at_call 57; exact Calls.quiet_of (hr5 _)))
                go_wp2_with (go_at_call 57; refine (hr30 _).mono ?_; rintro e w' ⟨rfl, nn, rfl⟩)
                go_roundg (80 - (n + 1))
                case measure => omega
                case rel =>
                  refine ⟨n + 1, rd v n ⟨a, b, c, d, e⟩, by omega, rfl, by go_num, hid (by rw [HSt.out]; rfl), hid ?_, shift5_below _ _ _ _ _ _ _ _ (Nat.le_refl _) HBr.out⟩
                  show _ = some (Obj.cells #[Value.int .u32 ((turn5 a + fi n b c d + e + ki n + v.getD n 0) % 4294967296), .int .u32 a, .int .u32 (turn30 b), .int .u32 c, .int .u32 d] 75 (0, 0))
                  rw [← HT5.out, ← HF.out, ← HX.out, ← HKQ.out, hkq]
                  exact shift5 wr wb.heap.size nq nn 75 _ _ _ _ _ _ _ HR.out
              · have hfv : bits .xor .u32 (bits .xor .u32 b c) d = fv := by rw [HF.out, fi, if_neg (by omega), if_neg (by omega), if_neg (by omega)]; rfl
                have hkq : kq = 3395469782 := by rw [HKQ.out, ki, if_neg (by omega), if_neg (by omega), if_neg (by omega)]
                have hfb : U fv := by rw [HF.out]; exact fi_bd _ _ _ _
                obtain ⟨hf1, hf2⟩ := hfb
                go_wp2
                go_quiet ((go_at_call 57; exact Calls.quiet_of (hr5 _)))
                go_wp2_with (go_at_call 57; refine (hr30 _).mono ?_; rintro e w' ⟨rfl, nn, rfl⟩)
                go_roundg (80 - (n + 1))
                case measure => omega
                case rel =>
                  refine ⟨n + 1, rd v n ⟨a, b, c, d, e⟩, by omega, rfl, by go_num, hid (by rw [HSt.out]; rfl), hid ?_, shift5_below _ _ _ _ _ _ _ _ (Nat.le_refl _) HBr.out⟩
                  show _ = some (Obj.cells #[Value.int .u32 ((turn5 a + fi n b c d + e + ki n + v.getD n 0) % 4294967296), .int .u32 a, .int .u32 (turn30 b), .int .u32 c, .int .u32 d] 75 (0, 0))
                  rw [← HT5.out, ← HF.out, ← HX.out, ← HKQ.out, hkq]
                  exact shift5 wr wb.heap.size nq nn 75 _ _ _ _ _ _ _ HR.out
            · obtain rfl : n = 80 := by omega
              have HFin : Hid (comp ⟨a0, b0, c0, d0, e0⟩ zs = plus ⟨a0, b0, c0, d0, e0⟩ ⟨a, b, c, d, e⟩) := hid (by unfold comp; rw [← HVS.out, ← HSt.out])
              have M0 : Hid (wr.heap[w.heap.size]? = some (.cells (row .u32 (addAt (S5.l ⟨a0, b0, c0, d0, e0⟩) (S5.l ⟨a, b, c, d, e⟩) 0)).toArray 75 (0, 0))) := (HBr.out.block _ (by omega)).trans J0.out
              have M1 : Hid (wr.heap[w.heap.size + 1]? = some (.cells #[.int .u32 0, .int .u32 0, .int .u32 0, .int .u32 0, .int .u32 0] 75 (0, 0))) := (HBr.out.block _ (by omega)).trans J1.out
              have M2 : Hid (wr.heap[wb.heap.size]? = some (.cells (row .u32 (S5.l ⟨a, b, c, d, e⟩)).toArray 75 (0, 0))) := HR.out
              have MB : Hid (Below w.heap.size w wr) := HB5.out.trans (HBr.out.mono (by omega))
              have hlw : IsW (S5.l ⟨a0, b0, c0, d0, e0⟩) := l_isW _ HS.out
              have hmw : IsW (S5.l ⟨a, b, c, d, e⟩) := l_isW _ (by rw [HSt.out]; exact rds_ok v _ HS.out _)
              obtain ⟨hl5, HL5⟩ : ∃ l, Hid (l = S5.l ⟨a0, b0, c0, d0, e0⟩) := ⟨_, rfl⟩
              obtain ⟨vl5, VL5⟩ : ∃ l, Hid (l = S5.l ⟨a, b, c, d, e⟩) := ⟨_, rfl⟩
              rw [← HL5.out] at M0 hlw
              rw [← VL5.out] at M0 M2 hmw
              have hvl5 : vl5.length = 5 := by rw [VL5.out]; rfl
              clear r0 r1 r2 r3 r4 f0 f1 f2 f3 f4
              go_wp2
              go_loopg [14] 5 (fun k i wr => ∃ j : Nat, j ≤ 5 ∧ k = 5 - j ∧ i = .int .i64 j ∧ Hid (wr.heap[w.heap.size]? = some (.cells (row .u32 (addAt hl5 vl5 j)).toArray 75 (0, 0))) ∧ Hid (wr.heap[w.heap.size + 1]? = some (.cells #[.int .u32 0, .int .u32 0, .int .u32 0, .int .u32 0, .int .u32 0] 75 (0, 0))) ∧ Hid (wr.heap[wb.heap.size]? = some (.cells (row .u32 vl5).toArray 75 (0, 0))) ∧ Hid (Below w.heap.size w wr))
              case atStart => exact ⟨0, by omega, rfl, rfl, M0, M1, M2, MB⟩
              case round =>
                clear M0 M1 M2 MB
                obtain ⟨j, hj, hk, rfl, M0, M1, M2, MB⟩ := hrel
                by_cases hj5 : j < 5
                · obtain ⟨x, HX⟩ : ∃ x, Hid (x = hl5.getD j 0) := ⟨_, rfl⟩
                  obtain ⟨y, HY⟩ : ∃ y, Hid (y = vl5.getD j 0) := ⟨_, rfl⟩
                  have c1 : wr.cell? ⟨w.heap.size, j, none⟩ = some (.int .u32 x) := by rw [HX.out, ← addAt_get hl5 vl5 j hj5]; exact row_cell M0.out j (by rw [addAt_len]; exact hj5)
                  have c2 : wr.cell? ⟨wb.heap.size, j, none⟩ = some (.int .u32 y) := by rw [HY.out]; exact row_cell M2.out j (by omega)
                  have f1 := frozen_of_row wr w.heap.size j _ 75 M0.out
                  have hx : U x := by rw [HX.out]; exact hlw.at j
                  have hy : U y := by rw [HY.out]; exact hmw.at j
                  obtain ⟨hx1, hx2⟩ := hx
                  obtain ⟨hy1, hy2⟩ := hy
                  have bi : (j : Int) < 5 := by omega
                  have bz : (0 : Int) ≤ j := by omega
                  go_wp2
                  go_region
                  all_goals
                    go_wp2
                    go_roundg (5 - (j + 1))
                    case measure => omega
                    case rel =>
                      refine ⟨j + 1, by omega, rfl, by go_num, hid ?_, hid ?_, hid ?_, (MB.out.setCell (by simp) _).drew⟩
                      · rw [heap_drew, heap_setCell_same wr _ _ _ _ _ M0.out, addAt_step hl5 vl5 j hj5, ← HX.out, ← HY.out, row_set]
                      · rw [heap_drew, heap_setCell_other wr _ _ _ (by simp)]; exact M1.out
                      · rw [heap_drew, heap_setCell_other wr _ _ _ (by simp; omega)]; exact M2.out
                · obtain rfl : j = 5 := by omega
                  obtain ⟨fr, HFR⟩ : ∃ fr, Hid (fr = addAt hl5 vl5 5) := ⟨_, rfl⟩
                  rw [← HFR.out] at M0
                  have hfl : fr.length = 5 := by rw [HFR.out]; exact addAt_len _ _ _
                  have HE : Hid (fr = (comp ⟨a0, b0, c0, d0, e0⟩ zs).l) := hid (by rw [HFR.out, HL5.out, VL5.out, addAt_five, HFin.out])
                  have hi38 : (Tryz.prog.info? 75).map (·.size) = some (row .u32 fr).length := by rw [row_len, hfl]; exact Tryz.size75
                  have T1 : Hid (wr.there (w.heap.size + 1) 0 (row .u32 fr).toArray.size) := hid (by rw [row_size, hfl]; exact there_cells M1.out rfl)
                  have T2 : Hid ((Tryz.prog.info? 75).map (·.size) = some (row .u32 fr).toArray.size) := hid (by rw [row_size, hfl]; exact Tryz.size75)
                  have T3 : Hid ((row .u32 fr).toArray.all (·.oneCell') = true) := all_oneCell_toArray (row_one _ _)
                  have T4 : Hid (wr.there (w.heap.size + 1) 0 (row .u32 fr).length) := hid (by rw [row_len, hfl]; exact there_cells M1.out rfl)
                  go_wp2_with (first | refine wpList_load_mid rfl 75 _ rfl w.heap.size 0 rfl (row .u32 fr) _ (range_row M0.out) Tryz.underlying75 rfl hi38 ?_ | refine wpList_store_mid rfl 75 _ _ rfl (w.heap.size + 1) 0 (row .u32 fr).toArray rfl rfl T1.out T2.out T3.out ?_)
                  refine bodyPost_ret (v := .agg (row .u32 fr).toArray) (results_mid Tryz.results36 _ _ (w.heap.size + 1) _ _ rfl (World.rangeAt_setCells_same wr (w.heap.size + 1) 0 _ T4.out) Tryz.underlying75 rfl hi38) rfl ⟨?_, below_setCells (by omega) _ _ _ _ MB.out⟩
                  rw [HE.out]; rfl
end Go.Proofs.YtcicoeneemnbiaaGreatDoor
namespace Go.Proofs.YtcicoeneemnbiaaGreatDoor
open Go.RowKit
set_option linter.unusedVariables false
theorem kindAt (i : Nat) (hi : i < 4) : ∃ f : FuncId, (∀ w, (Instr.index 139 (.agg kindsV) (.int .i64 i)).run Tryz.prog w = .ok (.agg #[.func (.func f) #[] #[], .int .u32 (ki (20 * i))]) w) ∧
    (∀ (j : Nat) (b c d : Int) (w : World), j < 20 → U b → U c → U d → Calls Tryz.prog f #[.int .u32 b, .int .u32 c, .int .u32 d] w fun e w' => e = .returned (.int .u32 (fi (20 * i + j) b c d)) ∧ w = w') ∧ (f = 85 ∨ f = 86 ∨ f = 87) := by
  match i, hi with
  | 0, _ => exact ⟨85, kind0, fun j b c d w hj h1 h2 h3 => by rw [fi, if_pos (by omega)]; exact choice_any b c d w h1 h2 h3, .inl rfl⟩
  | 1, _ => exact ⟨86, kind1, fun j b c d w hj h1 h2 h3 => by rw [fi, if_neg (by omega), if_pos (by omega)]; exact parity_any b c d w h1 h2 h3, .inr (.inl rfl)⟩
  | 2, _ => exact ⟨87, kind2, fun j b c d w hj h1 h2 h3 => by rw [fi, if_neg (by omega), if_neg (by omega), if_pos (by omega)]; exact majority_any b c d w h1 h2 h3, .inr (.inr rfl)⟩
  | 3, _ => exact ⟨86, kind3, fun j b c d w hj h1 h2 h3 => by rw [fi, if_neg (by omega), if_neg (by omega), if_neg (by omega)]; exact parity_any b c d w h1 h2 h3, .inr (.inl rfl)⟩
theorem below_drewN (B : Nat) (w : World) (n : Nat) : Below B w (w.drewN n) := ⟨rfl, rfl, rfl, Nat.le_refl _, fun _ _ => rfl⟩
theorem same {P : Program} {f : FuncId} {args : Array Value} {w : World} {v : Value} (h : Calls P f args w fun e w' => e = .returned v ∧ w = w') : Calls P f args w fun e w' => e = .returned v ∧ w' = w := h.mono fun _ _ h => ⟨h.1, h.2.symm⟩
set_option maxRecDepth 20000 in
set_option maxHeartbeats 2000000 in
theorem with_any (s : S5) (zs : List Int) (w : World) (hs : s.ok) (hl : zs.length = 64) (hz : IsB zs) :
    Calls Tryz.prog 53 #[.agg (row .u32 s.l).toArray, .agg (row .u8 zs).toArray] w fun e w' => e = .returned (.agg (row .u32 (comp s zs).l).toArray) ∧ Below w.heap.size w w' := by
  have hi41 : (Tryz.prog.info? 106).map (·.size) = some (row .u8 zs).length := by rw [row_len, hl]; exact Tryz.size106
  obtain ⟨arr, HA⟩ : ∃ arr, Hid (arr = row .u8 zs) := ⟨_, rfl⟩
  rw [← HA.out]
  rw [← HA.out] at hi41
  have hasz : arr.toArray.size = 64 := by rw [HA.out, row_size]; exact hl
  obtain ⟨kv, HK⟩ : ∃ kv, Hid (kv = kindsV) := ⟨_, rfl⟩
  obtain ⟨W, HW⟩ : ∃ W, Hid (W = spread zs) := ⟨_, rfl⟩
  have hWl : W.length = 80 := by rw [HW.out]; exact spread_len zs
  have hWw : IsW W := by rw [HW.out]; exact spread_isW zs hz
  obtain ⟨a0, b0, c0, d0, e0⟩ := s
  obtain ⟨ha0, hb0, hc0, hd0, he0⟩ := hs
  have HS : Hid (S5.ok ⟨a0, b0, c0, d0, e0⟩) := ⟨ha0, hb0, hc0, hd0, he0⟩
  simp only [S5.l, row, List.map_cons, List.map_nil]
  have H3 : Hid (_ ∧ _) := heap_alloc3 w (.cells #[.int .u32 a0, .int .u32 b0, .int .u32 c0, .int .u32 d0, .int .u32 e0] 105) (.cells arr.toArray 106) (.cells #[.int .u32 0, .int .u32 0, .int .u32 0, .int .u32 0, .int .u32 0] 105)
  have HB0 : Hid (Below w.heap.size w (((w.alloc (.cells #[.int .u32 a0, .int .u32 b0, .int .u32 c0, .int .u32 d0, .int .u32 e0] 105)).alloc (.cells arr.toArray 106)).alloc (.cells #[.int .u32 0, .int .u32 0, .int .u32 0, .int .u32 0, .int .u32 0] 105))) := (((Below.refl _ w).alloc (Nat.le_refl _) _).alloc (by simp) _).alloc (by simp; omega) _
  obtain ⟨zr, HZ⟩ : ∃ zr : Array Value, Hid (zr = (row .u32 z80).toArray) := ⟨_, rfl⟩
  have hzv := zero47
  rw [← HZ.out] at hzv
  go_enter Tryz.func53, Tryz.ntmps53
  go_wp2_with (refine wpList_load_mid rfl 106 _ rfl (w.heap.size + 1) 0 rfl arr _ (range_row H3.out.1.2) Tryz.underlying106 rfl hi41 ?_)
  rw [HA.out]
  refine (spread_any zs _ hl hz).mono ?_
  rintro e w1 ⟨rfl, hb⟩
  rw [← HA.out, ← HW.out]
  rw [← HA.out] at hb
  have hb' : Below (w.heap.size + 1 + 1 + 1) (((w.alloc (.cells #[.int .u32 a0, .int .u32 b0, .int .u32 c0, .int .u32 d0, .int .u32 e0] 105)).alloc (.cells arr.toArray 106)).alloc (.cells #[.int .u32 0, .int .u32 0, .int .u32 0, .int .u32 0, .int .u32 0] 105)) w1 := by simpa using hb
  have hz1 : w.heap.size + 1 + 1 + 1 ≤ w1.heap.size := by simpa using hb'.size
  have F0 : Hid (w1.heap[w.heap.size]? = some (.cells #[.int .u32 a0, .int .u32 b0, .int .u32 c0, .int .u32 d0, .int .u32 e0] 105 (0, 0))) := (hb'.block _ (by omega)).trans H3.out.1.1
  have F2 : Hid (w1.heap[w.heap.size + 1 + 1]? = some (.cells #[.int .u32 0, .int .u32 0, .int .u32 0, .int .u32 0, .int .u32 0] 105 (0, 0))) := (hb'.block _ (by omega)).trans H3.out.2
  have HB1 : Hid (Below w.heap.size w w1) := HB0.out.trans (hb'.mono (by omega))
  clear hb hb' H3 HB0
  have HT : Hid ((w1.alloc (.cells zr 111)).there w1.heap.size 0 (row .u32 W).toArray.size) := hid (by rw [row_size, hWl, HZ.out]; exact there_row (heap_alloc_new w1 _) (by simp [z80]))
  have T2 : Hid ((Tryz.prog.info? 111).map (·.size) = some (row .u32 W).toArray.size) := hid (by rw [row_size, hWl]; exact Tryz.size111)
  have T3 : Hid ((row .u32 W).toArray.all (·.oneCell') = true) := all_oneCell_toArray (row_one _ _)
  obtain ⟨w2, HW2⟩ : ∃ w2, Hid (w2 = (w1.alloc (.cells zr 111)).setCells w1.heap.size 0 (row .u32 W).toArray.toList) := ⟨_, rfl⟩
  have HS2 : Hid (w2.rangeAt w1.heap.size 0 (row .u32 W)) := hid (by rw [HW2.out]; exact World.rangeAt_setCells_same _ w1.heap.size 0 _ (by have := HT.out; simpa using this))
  have HX2 : Hid (Below w1.heap.size w1 w2) := hid (by rw [HW2.out]; exact below_setCells (Nat.le_refl _) _ _ _ _ ((Below.refl _ _).alloc (Nat.le_refl _) _))
  have hz2 : w2.heap.size = w1.heap.size + 1 := by rw [HW2.out, size_setCells]; simp
  have HZ2 : Hid (w1.heap.size < w2.heap.size) := hid (by omega)
  clear hz2
  have G0 : Hid (w2.heap[w.heap.size]? = some (.cells #[.int .u32 a0, .int .u32 b0, .int .u32 c0, .int .u32 d0, .int .u32 e0] 105 (0, 0))) := (HX2.out.block _ (by omega)).trans F0.out
  have G2 : Hid (w2.heap[w.heap.size + 1 + 1]? = some (.cells #[.int .u32 0, .int .u32 0, .int .u32 0, .int .u32 0, .int .u32 0] 105 (0, 0))) := (HX2.out.block _ (by omega)).trans F2.out
  have r0 : w2.cell? ⟨w.heap.size, 0, none⟩ = some (.int .u32 a0) := by rw [cell_of_row w2 w.heap.size 0 _ 105 _ G0.out]; rfl
  have r1 : w2.cell? ⟨w.heap.size, 1, none⟩ = some (.int .u32 b0) := by rw [cell_of_row w2 w.heap.size 1 _ 105 _ G0.out]; rfl
  have r2 : w2.cell? ⟨w.heap.size, 2, none⟩ = some (.int .u32 c0) := by rw [cell_of_row w2 w.heap.size 2 _ 105 _ G0.out]; rfl
  have r3 : w2.cell? ⟨w.heap.size, 3, none⟩ = some (.int .u32 d0) := by rw [cell_of_row w2 w.heap.size 3 _ 105 _ G0.out]; rfl
  have r4 : w2.cell? ⟨w.heap.size, 4, none⟩ = some (.int .u32 e0) := by rw [cell_of_row w2 w.heap.size 4 _ 105 _ G0.out]; rfl
  go_wp2_with (refine wpList_store_mid rfl 111 _ _ rfl w1.heap.size 0 (row .u32 W).toArray rfl rfl HT.out T2.out T3.out ?_; rw [← HW2.out])
  go_quiet (fail)
  go_wp2_with fail
  refine (kinds_any _).mono ?_
  rintro e w3 ⟨rfl, hb⟩
  have HX3 : Hid (Below w2.heap.size w2 w3) := (below_drewN _ w2 nq).trans hb
  clear hb r0 r1 r2 r3 r4
  have hz3 : w2.heap.size ≤ w3.heap.size := HX3.out.size
  have HS3 : Hid (w3.rangeAt w1.heap.size 0 (row .u32 W)) := fun j v hv => (HX3.out.cell (p := ⟨w1.heap.size, 0 + j, none⟩) HZ2.out).trans (HS2.out j v hv)
  have HZ3 : Hid (w1.heap.size < w3.heap.size) := Nat.lt_of_lt_of_le HZ2.out hz3
  have HB3 : Hid (Below w.heap.size w w3) := (HB1.out.trans (HX2.out.mono (by omega))).trans (HX3.out.mono (by have := HX2.out.size; omega))
  have G0 : Hid (w3.heap[w.heap.size]? = some (.cells #[.int .u32 a0, .int .u32 b0, .int .u32 c0, .int .u32 d0, .int .u32 e0] 105 (0, 0))) := (HX3.out.block _ (by have := HZ2.out; omega)).trans G0.out
  have G2 : Hid (w3.heap[w.heap.size + 1 + 1]? = some (.cells #[.int .u32 0, .int .u32 0, .int .u32 0, .int .u32 0, .int .u32 0] 105 (0, 0))) := (HX3.out.block _ (by have := HZ2.out; omega)).trans G2.out
  have hw13 : w.heap.size + 1 + 1 < w3.heap.size := by have := HZ3.out; omega
  clear HX3 HX2 HW2 HB1 F0 F2 HT HS2 HZ2 hz3 hz1
  rw [← HK.out]
  go_wp2
  go_loopg [6, 7, 8, 9, 10, 29] 4 (fun k a b c d e i wr => ∃ (j : Nat) (s : S5), j ≤ 4 ∧ k = 4 - j ∧ i = .int .i64 j ∧ a = .int .u32 s.a ∧ b = .int .u32 s.b ∧ c = .int .u32 s.c ∧ d = .int .u32 s.d ∧ e = .int .u32 s.e ∧ Hid (s = rds W ⟨a0, b0, c0, d0, e0⟩ (20 * j)) ∧ Hid (Below w3.heap.size w3 wr))
  case atStart => exact ⟨0, ⟨a0, b0, c0, d0, e0⟩, by omega, rfl, rfl, rfl, rfl, rfl, rfl, rfl, rfl, Below.refl _ _⟩
  case round =>
    obtain ⟨wo, rfl⟩ : ∃ wo, wo = wr := ⟨_, rfl⟩
    obtain ⟨j, ⟨a, b, c, d, e⟩, hj, hk, rfl, rfl, rfl, rfl, rfl, rfl, HSt, HB⟩ := hrel
    by_cases hlt : j < 4
    · obtain ⟨f, hidx, hcall, hf⟩ := kindAt j hlt
      rw [← HK.out] at hidx
      obtain ⟨kq, HKQ⟩ : ∃ q, Hid (q = ki (20 * j)) := ⟨_, rfl⟩
      rw [← HKQ.out] at hidx
      have hwz : w3.heap.size ≤ wo.heap.size := HB.out.size
      obtain ⟨m, HM⟩ : ∃ m, Hid (m = 20 * j) := ⟨_, rfl⟩
      have hm60 : m ≤ 60 := by have := HM.out; omega
      have hjm : (j : Int) * 20 = (m : Int) := by have := HM.out; omega
      have hjm2 : ((j : Int) + 1) * 20 = ((m + 20 : Nat) : Int) := by have := HM.out; omega
      have HT : Hid ((wo.alloc (.cells #[.nilFunc, .int .u32 0] 138)).there wo.heap.size 0 2) := there_cells (heap_alloc_new wo _) rfl
      obtain ⟨w4, HW4⟩ : ∃ w4, Hid (w4 = (wo.alloc (.cells #[.nilFunc, .int .u32 0] 138)).setCells wo.heap.size 0 (#[.func (.func f) #[] #[], .int .u32 kq] : Array Value).toList) := ⟨_, rfl⟩
      have HR4 : Hid (w4.rangeAt wo.heap.size 0 [.func (.func f) #[] #[], .int .u32 kq]) := hid (by rw [HW4.out]; exact World.rangeAt_setCells_same _ wo.heap.size 0 _ HT.out)
      have k0 : w4.cell? ⟨wo.heap.size, 0, none⟩ = some (.func (.func f) #[] #[]) := HR4.out 0 _ rfl
      have k1 : w4.cell? ⟨wo.heap.size, 1, none⟩ = some (.int .u32 kq) := HR4.out 1 _ rfl
      have HX4 : Hid (Below wo.heap.size wo w4) := hid (by rw [HW4.out]; exact below_setCells (Nat.le_refl _) _ _ _ _ ((Below.refl _ _).alloc (Nat.le_refl _) _))
      have HB4 : Hid (Below w3.heap.size w3 w4) := HB.out.trans (HX4.out.mono hwz)
      have HC4 : Hid (∀ i, i < 80 → w4.cell? ⟨w1.heap.size, i, none⟩ = some (.int .u32 (W.getD i 0))) := fun i hi => (HB4.out.cell (p := ⟨w1.heap.size, i, none⟩) HZ3.out).trans (by have := HS3.out i _ (row_at .u32 W i (by omega)); rwa [Nat.zero_add] at this)
      clear HX4 HB
      have hsl := fun w => slice47 w1.heap.size m w hm60
      obtain ⟨cp, HCP⟩ : ∃ cp : Nat, Hid (cp = 80 - m) := ⟨_, rfl⟩
      rw [← HCP.out] at hsl
      rcases hf with rfl | rfl | rfl
      all_goals
        go_wp2_with (refine wpList_store_mid rfl 138 _ _ rfl wo.heap.size 0 _ rfl rfl HT.out Tryz.size138 (by simp [Value.oneCell']) ?_; rw [← HW4.out])
        go_loopg [6, 7, 8, 9, 10, 40] 20 (fun k a b c d e i wr => ∃ (n : Nat) (s : S5), n ≤ 20 ∧ k = 20 - n ∧ i = .int .i64 n ∧ a = .int .u32 s.a ∧ b = .int .u32 s.b ∧ c = .int .u32 s.c ∧ d = .int .u32 s.d ∧ e = .int .u32 s.e ∧ Hid (s = rds W ⟨a0, b0, c0, d0, e0⟩ (m + n)) ∧ Hid (∃ q, wr = w4.drewN q))
        case atStart => exact ⟨0, ⟨a, b, c, d, e⟩, by omega, rfl, rfl, rfl, rfl, rfl, rfl, rfl, hid (by rw [Nat.add_zero, HM.out]; exact HSt.out), ⟨0, rfl⟩⟩
        case round =>
          clear HSt
          obtain ⟨n, ⟨a, b, c, d, e⟩, hn, hk2, rfl, rfl, rfl, rfl, rfl, rfl, HSt, HQ⟩ := hrel
          by_cases hn20 : n < 20
          · obtain ⟨ha, hb, hc, hd, he⟩ : S5.ok ⟨a, b, c, d, e⟩ := by rw [HSt.out]; exact rds_ok W _ HS.out _
            obtain ⟨x, HX⟩ : ∃ x, Hid (x = W.getD (m + n) 0) := ⟨_, rfl⟩
            have hx : U x := by rw [HX.out]; exact hWw.at _
            have hcl : wr.cell? ⟨w1.heap.size, m + n, none⟩ = some (.int .u32 x) := by obtain ⟨q, hq⟩ := HQ.out; rw [hq, HX.out]; exact HC4.out _ (by omega)
            have k0' : wr.cell? ⟨wo.heap.size, 0, none⟩ = w4.cell? ⟨wo.heap.size, 0, none⟩ := by obtain ⟨q, hq⟩ := HQ.out; rw [hq]; rfl
            have k1' : wr.cell? ⟨wo.heap.size, 1, none⟩ = some (.int .u32 kq) := by obtain ⟨q, hq⟩ := HQ.out; rw [hq]; exact k1
            rw [k0] at k0'
            have hcn := fun w => same (hcall n b c d w hn20 hb hc hd)
            rw [← HM.out] at hcn
            obtain ⟨fv, HF⟩ : ∃ fv, Hid (fv = fi (m + n) b c d) := ⟨_, rfl⟩
            have hfv : U fv := by rw [HF.out]; exact fi_bd _ _ _ _
            rw [← HF.out] at hcn
            obtain ⟨t5, HT5⟩ : ∃ t, Hid (t = turn5 a) := ⟨_, rfl⟩
            have ht5 : U t5 := by rw [HT5.out]; exact turn5_bd a
            have hr5 := fun w => same (rot5 a w ha)
            rw [← HT5.out] at hr5
            have hr30 := fun w => rot30 b w hb
            have hkq : U kq := by rw [HKQ.out]; exact ki_bd _
            obtain ⟨ha1, ha2⟩ := ha
            obtain ⟨he1, he2⟩ := he
            obtain ⟨hx1, hx2⟩ := hx
            obtain ⟨hf1, hf2⟩ := hfv
            obtain ⟨ht1, ht2⟩ := ht5
            obtain ⟨hq1, hq2⟩ := hkq
            go_wp2
            go_quiet (first | (go_at_call 71; exact Calls.quiet_of_same (hr5 _)) | (go_at_call 85; exact Calls.quiet_of_same (hcn _)) | (go_at_call 86; exact Calls.quiet_of_same (hcn _)) | (go_at_call 87; exact Calls.quiet_of_same (hcn _)))
            go_wp2_with (go_at_call 71; refine (hr30 _).mono ?_; rintro e w' ⟨rfl, rfl⟩)
            go_roundg (20 - (n + 1))
            case measure => omega
            case rel =>
              refine ⟨n + 1, rd W (m + n) ⟨a, b, c, d, e⟩, by omega, rfl, by go_num, ?_, rfl, rfl, rfl, rfl, hid ?_, ?_⟩
              · simp only [rd]
                rw [← HT5.out, ← HF.out, ← HX.out, HM.out, ki_same j n hn20, ← HKQ.out]
              · rw [HSt.out]; rfl
              · obtain ⟨q, hq⟩ := HQ.out
                exact ⟨q + nq, by rw [hq, World.drewN_drewN]⟩
          · obtain rfl : n = 20 := by omega
            go_wp2
            go_roundg (4 - (j + 1))
            case measure => omega
            case rel =>
              obtain ⟨q, hq⟩ := HQ.out
              exact ⟨j + 1, ⟨a, b, c, d, e⟩, by omega, rfl, by go_num, rfl, rfl, rfl, rfl, rfl, hid (by rw [HSt.out, HM.out]; rfl), hid (by rw [hq]; exact HB4.out.trans (below_drewN _ _ _))⟩
    · obtain rfl : j = 4 := by omega
      have hwz : w3.heap.size ≤ wo.heap.size := HB.out.size
      have K0 : Hid (wo.heap[w.heap.size]? = some (.cells #[.int .u32 a0, .int .u32 b0, .int .u32 c0, .int .u32 d0, .int .u32 e0] 105 (0, 0))) := (HB.out.block _ (by omega)).trans G0.out
      have K2 : Hid (wo.there (w.heap.size + 1 + 1) 0 5) := there_cells ((HB.out.block _ (by omega)).trans G2.out) rfl
      have r0 : wo.cell? ⟨w.heap.size, 0, none⟩ = some (.int .u32 a0) := by rw [cell_of_row wo w.heap.size 0 _ 105 _ K0.out]; rfl
      have r1 : wo.cell? ⟨w.heap.size, 1, none⟩ = some (.int .u32 b0) := by rw [cell_of_row wo w.heap.size 1 _ 105 _ K0.out]; rfl
      have r2 : wo.cell? ⟨w.heap.size, 2, none⟩ = some (.int .u32 c0) := by rw [cell_of_row wo w.heap.size 2 _ 105 _ K0.out]; rfl
      have r3 : wo.cell? ⟨w.heap.size, 3, none⟩ = some (.int .u32 d0) := by rw [cell_of_row wo w.heap.size 3 _ 105 _ K0.out]; rfl
      have r4 : wo.cell? ⟨w.heap.size, 4, none⟩ = some (.int .u32 e0) := by rw [cell_of_row wo w.heap.size 4 _ 105 _ K0.out]; rfl
      have HF : Hid (comp ⟨a0, b0, c0, d0, e0⟩ zs = ⟨(a0 + a) % 4294967296, (b0 + b) % 4294967296, (c0 + c) % 4294967296, (d0 + d) % 4294967296, (e0 + e) % 4294967296⟩) := hid (by unfold comp; rw [← HW.out, ← HSt.out]; rfl)
      have HBF : Hid (Below w.heap.size w wo) := HB3.out.trans (HB.out.mono (by omega))
      obtain ⟨ha, hb, hc, hd, he⟩ : S5.ok ⟨a, b, c, d, e⟩ := by rw [HSt.out]; exact rds_ok W _ HS.out _
      obtain ⟨ha1, ha2⟩ := ha
      obtain ⟨hb1, hb2⟩ := hb
      obtain ⟨hc1, hc2⟩ := hc
      obtain ⟨hd1, hd2⟩ := hd
      obtain ⟨he1, he2⟩ := he
      obtain ⟨ia1, ia2⟩ := ha0
      obtain ⟨ib1, ib2⟩ := hb0
      obtain ⟨ic1, ic2⟩ := hc0
      obtain ⟨id1, id2⟩ := hd0
      obtain ⟨ie1, ie2⟩ := he0
      go_wp2_with (refine wpList_store_mid rfl 105 _ _ rfl (w.heap.size + 1 + 1) 0 _ rfl rfl K2.out Tryz.size105 (by simp [Value.oneCell']) ?_)
      refine bodyPost_ret (results_mid Tryz.results53 _ _ (w.heap.size + 1 + 1) _ _ rfl (World.rangeAt_setCells_same wo (w.heap.size + 1 + 1) 0 _ K2.out) Tryz.underlying105 rfl Tryz.size105) rfl ⟨?_, below_setCells (by omega) _ _ _ _ HBF.out⟩
      rw [HF.out]
end Go.Proofs.YtcicoeneemnbiaaGreatDoor
namespace Go.Proofs.YtcicoeneemnbiaaGreatDoor
open Go.RowKit
set_option linter.unusedVariables false
set_option linter.unusedSimpArgs false
theorem step_copy {P : Program} {ops : Array Oper} {o : Oper} {a : Act} {w : World} {K : Act → World → Prop} {Q : Exit → Act → World → Prop} {E : Prop} (hg : o.guard = none) (s x : Operand) (t : TypeId) (sv xv v : Value) (w2 : World)
    (ho : o.op = .call { callee := .builtin .copy, args := #[s, x], argTypes := #[t, t] }) (hs : a.eval s = sv) (hx : a.eval x = xv) (hrun : (Builtin.copy_ #[t, t] o.type #[sv, xv]).run P w = .ok v w2) (h : K (a.put o.dst v) w2) :
    if Region.wanted o (yielded ops a.tmps) = true then Oper.wp P o a w K Q else E := by
  have hw : Region.wanted o (yielded ops a.tmps) = true := by simp [Region.wanted, hg]
  rw [if_pos hw]
  unfold Oper.wp execOp
  simp only [ho, resolve, invoke, builtin, Sem.run_bind, Sem.run_pure, Result.andThen_ok, List.map_toArray, List.map_cons, List.map_nil, hs, hx, hrun]
  exact h
end Go.Proofs.YtcicoeneemnbiaaGreatDoor
