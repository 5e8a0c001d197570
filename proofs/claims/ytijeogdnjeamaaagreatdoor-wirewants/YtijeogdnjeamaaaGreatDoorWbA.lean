/- 'strconv.FormatInt' in digits to the base of 16. -/
import Derived.Test.YtijeogdnjeamaaaGreatDoorWaC
import Derived.Laws.BitsAllLaws
import Derived.Laws.BytesArg
namespace Go.Proofs.YtijeogdnjeamaaaGreatDoor
open Go.RowKit
set_option linter.unusedVariables false
set_option linter.unusedSimpArgs false
theorem cell_lt {w : World} {a : Addr} {v : Value} (h : w.cell? a = some v) : a.block < w.heap.size := by
  rcases Nat.lt_or_ge a.block w.heap.size with h' | h'
  · exact h'
  · simp [World.cell?, Array.getElem?_eq_none h'] at h
theorem row_at (k : IntKind) (zs : List Int) (i : Nat) (h : i < zs.length) : (row k zs)[i]? = some (.int k (zs.getD i 0)) := by simp [row, h]
theorem row_set (k : IntKind) (zs : List Int) (n : Nat) (c : Int) : (row k zs).toArray.setIfInBounds n (.int k c) = (row k (zs.set n c)).toArray := by
  simp [row, List.map_set]
theorem row_cell {w : World} {g : Nat} {k : IntKind} {zs : List Int} {t : TypeId} {fr : Nat × Nat} (h : w.heap[g]? = some (.cells (row k zs).toArray t fr)) (i : Nat) (hi : i < zs.length) : w.cell? ⟨g, i, none⟩ = some (.int k (zs.getD i 0)) := by
  rw [cell_of_row w g i _ t fr h]; simpa using row_at k zs i hi
theorem wrap_u64 (n : Nat) (h : n < 18446744073709551616) : IntKind.u64.wrap (n : Int) = n := by
  rw [IntKind.wrap_u64]; omega
/-- The one cell of the library's table that is read here. -/
structure Db (w : World) : Prop where
  c15 : w.cell? ⟨8, 15, none⟩ = some (.int .u8 4)
theorem Db.below {w w' : World} (h : Db w) (hb : Below w.heap.size w w') : Db w' := ⟨(hb.cell (p := ⟨8, 15, none⟩) (cell_lt h.c15)).trans h.c15⟩
theorem pow2_16 (w : World) : Calls Tryz.prog 169 #[.int .i64 16] w fun e w' => e = .returned (.bool true) ∧ w' = w := by
  go_enter Tryz.func169, Tryz.ntmps169
  go_wp2
  go_ret
  exact ⟨rfl, rfl⟩
theorem tz64_16 (w : World) (h : Db w) : Calls Tryz.prog 177 #[.int .u64 16] w fun e w' => e = .returned (.int .i64 4) ∧ w' = w := by
  have c := h.c15
  have e1 : bits BinOp.and IntKind.u64 16 (IntKind.u64.wrap (-16)) = 16 := by kernel_rfl
  have e2 : IntKind.u64.wrap (16 * 285870213051353865) / 288230376151711744 = 15 := by kernel_rfl
  have e3 : IntKind.u64.wrap 4573923408821661840 / 288230376151711744 = 15 := by kernel_rfl
  go_enter Tryz.func177, Tryz.ntmps177
  go_wp2
  go_ret
  exact ⟨rfl, rfl⟩
theorem tz_16 (w : World) (h : Db w) : Calls Tryz.prog 170 #[.int .u64 16] w fun e w' => e = .returned (.int .i64 4) ∧ w' = w := by
  go_enter Tryz.func170, Tryz.ntmps170
  go_wp2_with (go_at_call 177; refine (tz64_16 _ h).mono ?_; rintro ev w1 ⟨rfl, rfl⟩)
  go_ret
  exact ⟨rfl, rfl⟩
/-- A digit. -/
def dc (d : Nat) : UInt8 := if d < 10 then UInt8.ofNat (48 + d) else UInt8.ofNat (87 + d)
/-- In digits to the base of 16. -/
def h16 (n : Nat) : List UInt8 := if h : n < 16 then [dc n] else h16 (n / 16) ++ [dc (n % 16)]
theorem h16_small (n : Nat) (h : n < 16) : h16 n = [dc n] := by rw [h16, dif_pos h]
theorem h16_big (n : Nat) (h : ¬ n < 16) : h16 n = h16 (n / 16) ++ [dc (n % 16)] := by rw [h16, dif_neg h]
theorem h16_pos (n : Nat) : 1 ≤ (h16 n).length := by
  by_cases h : n < 16
  · rw [h16_small n h]; simp
  · rw [h16_big n h]; simp
theorem h16_len : ∀ (k n : Nat), n < 16 ^ (k + 1) → (h16 n).length ≤ k + 1
  | 0, n, h => by rw [h16_small n (by simpa using h)]; simp
  | k + 1, n, h => by
    by_cases hs : n < 16
    · rw [h16_small n hs]; simp
    · rw [h16_big n hs, List.length_append]
      have := h16_len k (n / 16) (by rw [Nat.pow_succ] at h; exact Nat.div_lt_of_lt_mul (by rw [Nat.mul_comm]; exact h))
      simp; omega
def dg : ByteArray := ⟨#[48, 49, 50, 51, 52, 53, 54, 55, 56, 57, 97, 98, 99, 100, 101, 102, 103, 104, 105, 106, 107, 108, 109, 110, 111, 112, 113, 114, 115, 116, 117, 118, 119, 120, 121, 122]⟩
theorem dig_at (d : Nat) (h : d < 16) (w : World) : (Instr.index 9 (.string dg) (.int .u64 d)).run Tryz.prog w = .ok (.int .u8 ((dc d).toNat : Nat)) w := by
  have hc : d = 0 ∨ d = 1 ∨ d = 2 ∨ d = 3 ∨ d = 4 ∨ d = 5 ∨ d = 6 ∨ d = 7 ∨ d = 8 ∨ d = 9 ∨ d = 10 ∨ d = 11 ∨ d = 12 ∨ d = 13 ∨ d = 14 ∨ d = 15 := by omega
  rcases hc with rfl | rfl | rfl | rfl | rfl | rfl | rfl | rfl | rfl | rfl | rfl | rfl | rfl | rfl | rfl | rfl
  all_goals
    show _ = _
    kernel_rfl
theorem and15 (v : Nat) (h : v < 65536) : bits BinOp.and IntKind.u64 (v : Int) 15 = ((v % 16 : Nat) : Int) := by
  have := u64_and_nat v 15 (by omega) (by omega)
  rw [show v &&& 15 = v % 16 from Nat.and_two_pow_sub_one_eq_mod v 4] at this
  exact this
/-- The digits' row: the last ones are there. -/
def zD (i : Nat) (ds : List UInt8) : List Int := List.replicate i 0 ++ ds.map fun b => (b.toNat : Int)
theorem zD_set (i : Nat) (ds : List UInt8) (b : UInt8) : (zD (i + 1) ds).set i (b.toNat : Int) = zD i (b :: ds) := by
  unfold zD
  rw [List.replicate_succ', List.append_assoc, List.set_append_right _ _ (by simp)]
  simp
theorem zD_len (i : Nat) (ds : List UInt8) : (zD i ds).length = i + ds.length := by simp [zD]
theorem zero116 : Tryz.zeroCells252 = (row .u8 (zD 65 [])).toArray := by kernel_rfl
theorem str_nums (l : List UInt8) : strOfNums (l.map fun b => (b.toNat : Int)) = ⟨l.toArray⟩ := by
  unfold strOfNums
  rw [List.map_map, show ((fun n : Int => UInt8.ofNat n.toNat) ∘ fun b : UInt8 => (b.toNat : Int)) = id from funext fun b => by simp, List.map_id]
/-- The digits' block. -/
structure D16 (w : World) (g i : Nat) (ds : List UInt8) (W : World) : Prop where
  box : W.heap[g]? = some (.cells (row .u8 (zD i ds)).toArray 252 (0, 0))
  bel : Below g w W
theorem D16.step {w : World} {g i : Nat} {ds : List UInt8} {W : World} (h : D16 w g (i + 1) ds W) (b : UInt8) : D16 w g i (b :: ds) (W.setCell ⟨g, i, none⟩ (.int .u8 b.toNat)) := by
  refine ⟨?_, h.bel.setCell (p := ⟨g, i, none⟩) (Nat.le_refl _) _⟩
  rw [heap_setCell_same W g i _ 252 _ h.box, row_set, zD_set]
set_option maxRecDepth 20000 in
theorem fmt16 (u : Nat) (hu : u < 65536) (w : World) (h : Db w) : Calls Tryz.prog 149 #[.slice none 0 0, .int .u64 u, .int .i64 16, .bool false, .bool false] w fun e w' => e = .returned (.tuple #[.slice none 0 0, .string ⟨(h16 u).toArray⟩]) ∧ Below w.heap.size w w' := by
  have HT : Hid (∀ W, Below w.heap.size w W → Calls Tryz.prog 170 #[.int .u64 16] W fun e w' => e = .returned (.int .i64 4) ∧ w' = W) := fun W hW => tz_16 W (h.below hW)
  obtain ⟨g, HG⟩ : ∃ g, Hid (w.heap.size = g) := ⟨_, rfl⟩
  have HD0 : Hid (D16 w g 65 [] (w.alloc (.cells Tryz.zeroCells252 252))) := hid (by
    rw [← HG.out, zero116]
    exact ⟨heap_alloc_new w _, (Below.refl _ w).alloc (Nat.le_refl _) _⟩)
  have HU6 : Hid ((h16 u).length ≤ 6) := hid (h16_len 5 u (Nat.lt_trans hu (by decide)))
  go_enter Tryz.func149, Tryz.ntmps149
  go_wp2_with (go_at_call 169; refine (pow2_16 _).mono ?_; rintro ev w1 ⟨rfl, rfl⟩)
  have HW1 : Hid (Below w.heap.size w (w.alloc (.cells Tryz.zeroCells252 252))) := (Below.refl _ w).alloc (Nat.le_refl _) _
  refine (HT.out _ HW1.out).mono ?_
  rintro ev w1 ⟨rfl, hw1⟩
  subst hw1
  go_wp2_with fail
  rw [HG.out]
  clear HW1
  obtain ⟨w0, HW0⟩ : ∃ w0, Hid (w.alloc (.cells Tryz.zeroCells252 252) = w0) := ⟨_, rfl⟩
  rw [HW0.out] at HD0 ⊢
  go_loopg [1, 13] u (fun m uv iv wr => ∃ (v i : Nat) (ds : List UInt8), Hid (v = m) ∧ v ≤ u ∧ uv = .int .u64 v ∧ iv = .int .i64 i ∧ i + ds.length = 65 ∧ Hid (h16 v ++ ds = h16 u) ∧ Hid (D16 w g i ds wr))
  case atStart => exact ⟨u, 65, [], hid rfl, Nat.le_refl _, rfl, rfl, rfl, hid (by simp), HD0⟩
  case round =>
    obtain ⟨v, i, ds, hvm, hvu, rfl, rfl, hil, HE, HD⟩ := hrel
    have hlen : ds.length ≤ 5 := by
      have h1 := congrArg List.length HE.out
      rw [List.length_append] at h1
      have := h16_pos v
      have := HU6.out
      omega
    obtain ⟨j, hj⟩ : ∃ j, i = j + 1 := ⟨i - 1, by omega⟩
    subst hj
    have hjl : j < 65 := by omega
    have hji : (j : Int) < 65 := by omega
    have hjs : (j : Int) + 1 - 1 = j := by omega
    have kj : wr.cell? ⟨g, j, none⟩ = some (.int .u8 ((zD (j + 1) ds).getD j 0)) := row_cell HD.out.box j (by rw [zD_len]; omega)
    have fj : wr.frozen? ⟨g, j, none⟩ = false := by
      have := HD.out.box
      simp [World.frozen?, this]
    by_cases hv : v < 16
    · have hvi : ¬ (16 : Int) ≤ (v : Int) := by omega
      have hdx := fun w => dig_at v hv w
      unfold dg at hdx
      obtain ⟨W2, HW2⟩ : ∃ W2, Hid (wr.setCell ⟨g, j, none⟩ (.int .u8 ((dc v).toNat : Nat)) = W2) := ⟨_, rfl⟩
      have HDS : Hid (D16 w g j (dc v :: ds) W2) := hid (by
        have := HD.out.step (dc v)
        rwa [HW2.out] at this)
      have HES : Hid (dc v :: ds = h16 u) := hid (by rw [← HE.out, h16_small v hv]; rfl)
      obtain ⟨n, HNN⟩ : ∃ n, Hid (65 - j = n) := ⟨_, rfl⟩
      have hn1 : (65 : Int) - j = n := by have := HNN.out; omega
      have hn2 : 65 - j = n := HNN.out
      have HCV : Hid (∀ dst, Tryz.prog.underlying dst = some .string → (convert 25 dst (.slice (some ⟨g, j, none⟩) n n)).run Tryz.prog W2 = .ok (.string (strOfNums ((h16 u).map fun b => (b.toNat : Int)))) W2) := hid (by
        rw [← HES.out]
        refine run_convert_bytes_arg W2 25 5 Tryz.underlying25 Tryz.underlying5 g j n n _ (by simp; have := HNN.out; omega) fun i hi => ?_
        rw [row_cell HDS.out.box (j + i) (by rw [zD_len]; simp; have := HNN.out; omega)]
        simp [zD, List.getD_eq_getElem?_getD, List.getElem?_append_right])
      have hj0 : (0 : Int) ≤ (j : Int) := by omega
      have hj65 : (j : Int) ≤ 65 := by omega
      have hjne : ¬ (65 : Nat) = j := by omega
      have hsl : ∀ w, (Instr.sliceAt 252 (.pointer (some ⟨g, 0, none⟩)) (some (.int .i64 j)) none none).run Tryz.prog w = .ok (.slice (some ⟨g, j, none⟩) n n) w := fun w => by
        go_simp
      have HW3 : Hid (wr.setCell ⟨g, j, none⟩ (.int .u8 ((dc v).toNat : Int)) = W2) := hid HW2.out
      have HTE : Hid (strOfNums ((h16 u).map fun b => (b.toNat : Int)) = ⟨(h16 u).toArray⟩) := hid (str_nums _)
      have hcv := HCV.out 9 Tryz.underlying9
      rw [HTE.out] at hcv
      have HBL : Hid (Below g w W2) := HDS.out.bel
      obtain ⟨T, HTT⟩ : ∃ T : ByteArray, Hid ((⟨(h16 u).toArray⟩ : ByteArray) = T) := ⟨_, rfl⟩
      rw [HTT.out] at hcv
      have hcv2 : (convert 25 9 (.slice (some ⟨g, j, none⟩) n n)).run Tryz.prog (wr.setCell ⟨g, j, none⟩ (.int .u8 ((dc v).toNat : Int))) = .ok (.string T) (wr.setCell ⟨g, j, none⟩ (.int .u8 ((dc v).toNat : Int))) := by rw [HW3.out]; exact hcv
      have HB3 : Hid (Below g w (wr.setCell ⟨g, j, none⟩ (.int .u8 ((dc v).toNat : Int)))) := hid (by rw [HW3.out]; exact HBL.out)
      clear hcv
      go_wp2
      go_ret2
      exact ⟨by rw [HTT.out]; rfl, by rw [HG.out]; exact HB3.out⟩
    · have hvi : (16 : Int) ≤ (v : Int) := by omega
      obtain ⟨d, Hd⟩ : ∃ d, Hid (v % 16 = d) := ⟨_, rfl⟩
      have ha := and15 v (by omega)
      have hdx := fun w => dig_at (v % 16) (Nat.mod_lt _ (by omega)) w
      rw [Hd.out] at ha hdx
      obtain ⟨q, Hq⟩ : ∃ q, Hid (v / 16 = q) := ⟨_, rfl⟩
      have hshr : (v : Int) / 16 = (q : Int) := by have := Hq.out; omega
      have hd16 : d < 16 := by have := Hd.out; omega
      have HDS : Hid (D16 w g j (dc d :: ds) (wr.setCell ⟨g, j, none⟩ (.int .u8 ((dc d).toNat : Nat)))) := hid (by
        have := HD.out.step (dc d)
        exact this)
      have HES : Hid (h16 q ++ (dc d :: ds) = h16 u) := hid (by
        rw [← HE.out, h16_big v hv, Hq.out, Hd.out]
        simp)
      have hqv : q < v := by have := Hq.out; omega
      have hvm2 := hvm.out
      have HQM : Hid (q < gk) := hid (by rw [← hvm2]; exact hqv)
      clear hvm2
      unfold dg at hdx
      go_wp2
      go_roundg q
      case measure => exact HQM.out
      case rel => exact ⟨q, j, _, hid rfl, by omega, rfl, rfl, by simp; omega, HES, HDS⟩
set_option maxRecDepth 20000 in
theorem fmtInt16 (u : Nat) (hu : u < 65536) (w : World) (h : Db w) : Calls Tryz.prog 127 #[.int .i64 u, .int .i64 16] w fun e w' => e = .returned (.string ⟨(h16 u).toArray⟩) ∧ Below w.heap.size w w' := by
  have HF : Hid (Calls Tryz.prog 149 #[.slice none 0 0, .int .u64 u, .int .i64 16, .bool false, .bool false] w fun e w' => e = .returned (.tuple #[.slice none 0 0, .string ⟨(h16 u).toArray⟩]) ∧ Below w.heap.size w w') := fmt16 u hu w h
  have h0 : ¬ (u : Int) < 0 := by omega
  have hw : IntKind.u64.wrap (u : Int) = u := wrap_u64 u (by omega)
  go_enter Tryz.func127, Tryz.ntmps127
  go_wp2_with fail
  refine HF.out.mono ?_
  rintro e w1 ⟨rfl, hb⟩
  go_wp2
  go_ret
  exact ⟨rfl, hb⟩
set_option maxRecDepth 20000 in
theorem fmtI16 (u : Nat) (hu : u < 65536) (w : World) (h : Db w) : Calls Tryz.prog 117 #[.int .i64 u, .int .i64 16] w fun e w' => e = .returned (.string ⟨(h16 u).toArray⟩) ∧ Below w.heap.size w w' := by
  have HF : Hid (Calls Tryz.prog 127 #[.int .i64 u, .int .i64 16] w fun e w' => e = .returned (.string ⟨(h16 u).toArray⟩) ∧ Below w.heap.size w w') := fmtInt16 u hu w h
  go_enter Tryz.func117, Tryz.ntmps117
  go_wp2_with fail
  refine HF.out.mono ?_
  rintro e w1 ⟨rfl, hb⟩
  go_wp2
  go_ret
  exact ⟨rfl, hb⟩
end Go.Proofs.YtijeogdnjeamaaaGreatDoor
