import Derived.Test.YtijeogdnjeamaaaGreatDoorQo02
import Derived.Laws.BitsAllLaws
import Derived.Laws.BytesArg
import Derived.WideKeyEntry
import Derived.Shelf.LaysC
import Derived.Shelf.Strconv.ToError
import Derived.Shelf.Strconv.ToErrorRange
import Derived.Test.YtijeogdnjeamaaaGreatDoorProg
namespace Go.Proofs.YtijeogdnjeamaaaGreatDoor
open Go.RowKit
set_option linter.unusedVariables false
set_option linter.unusedSimpArgs false
theorem cell_lt {w : World} {a : Addr} {v : Value} (h : w.cell? a = some v) : a.block < w.heap.size := by
  rcases Nat.lt_or_ge a.block w.heap.size with h' | h'
  · exact h'
  · simp [World.cell?, Array.getElem?_eq_none h'] at h
theorem row_at (k : IntKind) (zs : List Int) (i : Nat) (h : i < zs.length) : (row k zs)[i]? = some (.int k (zs.getD i 0)) := by simp [row, h]
theorem row_set (k : IntKind) (zs : List Int) (n : Nat) (c : Int) : (row k zs).toArray.setIfInBounds n (.int k c) = (row k (zs.set n c)).toArray := by
  simp [row, List.map_set]
theorem row_cell {w : World} {g : Nat} {k : IntKind} {zs : List Int} {t : TypeId} {fr : Nat × Nat} (h : w.heap[g]? = some (.cells (row k zs).toArray t fr)) (i : Nat) (hi : i < zs.length) : w.cell? ⟨g, i, none⟩ = some (.int k (zs.getD i 0)) := by
  rw [cell_of_row w g i _ t fr h]; simpa using row_at k zs i hi
theorem wrap_u64 (n : Nat) (h : n < 18446744073709551616) : IntKind.u64.wrap (n : Int) = n := by
  rw [IntKind.wrap_u64]; omega
structure Db (w : World) : Prop where
  c15 : w.cell? ⟨8, 15, none⟩ = some (.int .u8 4)
theorem Db.below {w w' : World} (h : Db w) (hb : Below w.heap.size w w') : Db w' := ⟨(hb.cell (p := ⟨8, 15, none⟩) (cell_lt h.c15)).trans h.c15⟩
theorem pow2_16 (w : World) : Calls Tryz.prog 169 #[.int .i64 16] w fun e w' => e = .returned (.bool true) ∧ w' = w := by
  go_enter Tryz.func169, Tryz.ntmps169
  go_wp2
  go_ret
  exact ⟨rfl, rfl⟩
theorem tz64_16 (w : World) (h : Db w) : Calls Tryz.prog 177 #[.int .u64 16] w fun e w' => e = .returned (.int .i64 4) ∧ w' = w := by
  have c := h.c15
  have e1 : bits BinOp.and IntKind.u64 16 (IntKind.u64.wrap (-16)) = 16 := by kernel_rfl
  have e2 : IntKind.u64.wrap (16 * 285870213051353865) / 288230376151711744 = 15 := by kernel_rfl
  have e3 : IntKind.u64.wrap 4573923408821661840 / 288230376151711744 = 15 := by kernel_rfl
  go_enter Tryz.func177, Tryz.ntmps177
  go_wp2
  go_ret
  exact ⟨rfl, rfl⟩
theorem tz_16 (w : World) (h : Db w) : Calls Tryz.prog 170 #[.int .u64 16] w fun e w' => e = .returned (.int .i64 4) ∧ w' = w := by
  go_enter Tryz.func170, Tryz.ntmps170
  go_wp2_with (go_at_call 177; refine (tz64_16 _ h).mono ?_; rintro ev w1 ⟨rfl, rfl⟩)
  go_ret
  exact ⟨rfl, rfl⟩
def dc (d : Nat) : UInt8 := if d < 10 then UInt8.ofNat (48 + d) else UInt8.ofNat (87 + d)
def h16 (n : Nat) : List UInt8 := if h : n < 16 then [dc n] else h16 (n / 16) ++ [dc (n % 16)]
theorem h16_small (n : Nat) (h : n < 16) : h16 n = [dc n] := by rw [h16, dif_pos h]
theorem h16_big (n : Nat) (h : ¬ n < 16) : h16 n = h16 (n / 16) ++ [dc (n % 16)] := by rw [h16, dif_neg h]
theorem h16_pos (n : Nat) : 1 ≤ (h16 n).length := by
  by_cases h : n < 16
  · rw [h16_small n h]; simp
  · rw [h16_big n h]; simp
theorem h16_len : ∀ (k n : Nat), n < 16 ^ (k + 1) → (h16 n).length ≤ k + 1
  | 0, n, h => by rw [h16_small n (by simpa using h)]; simp
  | k + 1, n, h => by
    by_cases hs : n < 16
    · rw [h16_small n hs]; simp
    · rw [h16_big n hs, List.length_append]
      have := h16_len k (n / 16) (by rw [Nat.pow_succ] at h; exact Nat.div_lt_of_lt_mul (by rw [Nat.mul_comm]; exact h))
      simp; omega
def dg : ByteArray := ⟨#[48, 49, 50, 51, 52, 53, 54, 55, 56, 57, 97, 98, 99, 100, 101, 102, 103, 104, 105, 106, 107, 108, 109, 110, 111, 112, 113, 114, 115, 116, 117, 118, 119, 120, 121, 122]⟩
theorem dig_at (d : Nat) (h : d < 16) (w : World) : (Instr.index 9 (.string dg) (.int .u64 d)).run Tryz.prog w = .ok (.int .u8 ((dc d).toNat : Nat)) w := by
  have hc : d = 0 ∨ d = 1 ∨ d = 2 ∨ d = 3 ∨ d = 4 ∨ d = 5 ∨ d = 6 ∨ d = 7 ∨ d = 8 ∨ d = 9 ∨ d = 10 ∨ d = 11 ∨ d = 12 ∨ d = 13 ∨ d = 14 ∨ d = 15 := by omega
  rcases hc with rfl | rfl | rfl | rfl | rfl | rfl | rfl | rfl | rfl | rfl | rfl | rfl | rfl | rfl | rfl | rfl
  all_goals
    show _ = _
    kernel_rfl
theorem and15 (v : Nat) (h : v < 65536) : bits BinOp.and IntKind.u64 (v : Int) 15 = ((v % 16 : Nat) : Int) := by
  have := u64_and_nat v 15 (by omega) (by omega)
  rw [show v &&& 15 = v % 16 from Nat.and_two_pow_sub_one_eq_mod v 4] at this
  exact this
def zD (i : Nat) (ds : List UInt8) : List Int := List.replicate i 0 ++ ds.map fun b => (b.toNat : Int)
theorem zD_set (i : Nat) (ds : List UInt8) (b : UInt8) : (zD (i + 1) ds).set i (b.toNat : Int) = zD i (b :: ds) := by
  unfold zD
  rw [List.replicate_succ', List.append_assoc, List.set_append_right _ _ (by simp)]
  simp
theorem zD_len (i : Nat) (ds : List UInt8) : (zD i ds).length = i + ds.length := by simp [zD]
theorem zero116 : Tryz.zeroCells252 = (row .u8 (zD 65 [])).toArray := by kernel_rfl
theorem str_nums (l : List UInt8) : strOfNums (l.map fun b => (b.toNat : Int)) = ⟨l.toArray⟩ := by
  unfold strOfNums
  rw [List.map_map, show ((fun n : Int => UInt8.ofNat n.toNat) ∘ fun b : UInt8 => (b.toNat : Int)) = id from funext fun b => by simp, List.map_id]
structure D16 (w : World) (g i : Nat) (ds : List UInt8) (W : World) : Prop where
  box : W.heap[g]? = some (.cells (row .u8 (zD i ds)).toArray 252 (0, 0))
  bel : Below g w W
theorem D16.step {w : World} {g i : Nat} {ds : List UInt8} {W : World} (h : D16 w g (i + 1) ds W) (b : UInt8) : D16 w g i (b :: ds) (W.setCell ⟨g, i, none⟩ (.int .u8 b.toNat)) := by
  refine ⟨?_, h.bel.setCell (p := ⟨g, i, none⟩) (Nat.le_refl _) _⟩
  rw [heap_setCell_same W g i _ 252 _ h.box, row_set, zD_set]
set_option maxRecDepth 20000 in
theorem fmt16 (u : Nat) (hu : u < 65536) (w : World) (h : Db w) : Calls Tryz.prog 149 #[.slice none 0 0, .int .u64 u, .int .i64 16, .bool false, .bool false] w fun e w' => e = .returned (.tuple #[.slice none 0 0, .string ⟨(h16 u).toArray⟩]) ∧ Below w.heap.size w w' := by
  have HT : Hid (∀ W, Below w.heap.size w W → Calls Tryz.prog 170 #[.int .u64 16] W fun e w' => e = .returned (.int .i64 4) ∧ w' = W) := fun W hW => tz_16 W (h.below hW)
  obtain ⟨g, HG⟩ : ∃ g, Hid (w.heap.size = g) := ⟨_, rfl⟩
  have HD0 : Hid (D16 w g 65 [] (w.alloc (.cells Tryz.zeroCells252 252))) := hid (by
    rw [← HG.out, zero116]
    exact ⟨heap_alloc_new w _, (Below.refl _ w).alloc (Nat.le_refl _) _⟩)
  have HU6 : Hid ((h16 u).length ≤ 6) := hid (h16_len 5 u (Nat.lt_trans hu (by decide)))
  go_enter Tryz.func149, Tryz.ntmps149
  go_wp2_with (go_at_call 169; refine (pow2_16 _).mono ?_; rintro ev w1 ⟨rfl, rfl⟩)
  have HW1 : Hid (Below w.heap.size w (w.alloc (.cells Tryz.zeroCells252 252))) := (Below.refl _ w).alloc (Nat.le_refl _) _
  refine (HT.out _ HW1.out).mono ?_
  rintro ev w1 ⟨rfl, hw1⟩
  subst hw1
  go_wp2_with fail
  rw [HG.out]
  clear HW1
  obtain ⟨w0, HW0⟩ : ∃ w0, Hid (w.alloc (.cells Tryz.zeroCells252 252) = w0) := ⟨_, rfl⟩
  rw [HW0.out] at HD0 ⊢
  go_loopg [1, 13] u (fun m uv iv wr => ∃ (v i : Nat) (ds : List UInt8), Hid (v = m) ∧ v ≤ u ∧ uv = .int .u64 v ∧ iv = .int .i64 i ∧ i + ds.length = 65 ∧ Hid (h16 v ++ ds = h16 u) ∧ Hid (D16 w g i ds wr))
  case atStart => exact ⟨u, 65, [], hid rfl, Nat.le_refl _, rfl, rfl, rfl, hid (by simp), HD0⟩
  case round =>
    obtain ⟨v, i, ds, hvm, hvu, rfl, rfl, hil, HE, HD⟩ := hrel
    have hlen : ds.length ≤ 5 := by
      have h1 := congrArg List.length HE.out
      rw [List.length_append] at h1
      have := h16_pos v
      have := HU6.out
      omega
    obtain ⟨j, hj⟩ : ∃ j, i = j + 1 := ⟨i - 1, by omega⟩
    subst hj
    have hjl : j < 65 := by omega
    have hji : (j : Int) < 65 := by omega
    have hjs : (j : Int) + 1 - 1 = j := by omega
    have kj : wr.cell? ⟨g, j, none⟩ = some (.int .u8 ((zD (j + 1) ds).getD j 0)) := row_cell HD.out.box j (by rw [zD_len]; omega)
    have fj : wr.frozen? ⟨g, j, none⟩ = false := by
      have := HD.out.box
      simp [World.frozen?, this]
    by_cases hv : v < 16
    · have hvi : ¬ (16 : Int) ≤ (v : Int) := by omega
      have hdx := fun w => dig_at v hv w
      unfold dg at hdx
      obtain ⟨W2, HW2⟩ : ∃ W2, Hid (wr.setCell ⟨g, j, none⟩ (.int .u8 ((dc v).toNat : Nat)) = W2) := ⟨_, rfl⟩
      have HDS : Hid (D16 w g j (dc v :: ds) W2) := hid (by
        have := HD.out.step (dc v)
        rwa [HW2.out] at this)
      have HES : Hid (dc v :: ds = h16 u) := hid (by rw [← HE.out, h16_small v hv]; rfl)
      obtain ⟨n, HNN⟩ : ∃ n, Hid (65 - j = n) := ⟨_, rfl⟩
      have hn1 : (65 : Int) - j = n := by have := HNN.out; omega
      have hn2 : 65 - j = n := HNN.out
      have HCV : Hid (∀ dst, Tryz.prog.underlying dst = some .string → (convert 25 dst (.slice (some ⟨g, j, none⟩) n n)).run Tryz.prog W2 = .ok (.string (strOfNums ((h16 u).map fun b => (b.toNat : Int)))) W2) := hid (by
        rw [← HES.out]
        refine run_convert_bytes_arg W2 25 5 Tryz.underlying25 Tryz.underlying5 g j n n _ (by simp; have := HNN.out; omega) fun i hi => ?_
        rw [row_cell HDS.out.box (j + i) (by rw [zD_len]; simp; have := HNN.out; omega)]
        simp [zD, List.getD_eq_getElem?_getD, List.getElem?_append_right])
      have hj0 : (0 : Int) ≤ (j : Int) := by omega
      have hj65 : (j : Int) ≤ 65 := by omega
      have hjne : ¬ (65 : Nat) = j := by omega
      have hsl : ∀ w, (Instr.sliceAt 252 (.pointer (some ⟨g, 0, none⟩)) (some (.int .i64 j)) none none).run Tryz.prog w = .ok (.slice (some ⟨g, j, none⟩) n n) w := fun w => by
        go_simp
      have HW3 : Hid (wr.setCell ⟨g, j, none⟩ (.int .u8 ((dc v).toNat : Int)) = W2) := hid HW2.out
      have HTE : Hid (strOfNums ((h16 u).map fun b => (b.toNat : Int)) = ⟨(h16 u).toArray⟩) := hid (str_nums _)
      have hcv := HCV.out 9 Tryz.underlying9
      rw [HTE.out] at hcv
      have HBL : Hid (Below g w W2) := HDS.out.bel
      obtain ⟨T, HTT⟩ : ∃ T : ByteArray, Hid ((⟨(h16 u).toArray⟩ : ByteArray) = T) := ⟨_, rfl⟩
      rw [HTT.out] at hcv
      have hcv2 : (convert 25 9 (.slice (some ⟨g, j, none⟩) n n)).run Tryz.prog (wr.setCell ⟨g, j, none⟩ (.int .u8 ((dc v).toNat : Int))) = .ok (.string T) (wr.setCell ⟨g, j, none⟩ (.int .u8 ((dc v).toNat : Int))) := by rw [HW3.out]; exact hcv
      have HB3 : Hid (Below g w (wr.setCell ⟨g, j, none⟩ (.int .u8 ((dc v).toNat : Int)))) := hid (by rw [HW3.out]; exact HBL.out)
      clear hcv
      go_wp2
      go_ret2
      exact ⟨by rw [HTT.out]; rfl, by rw [HG.out]; exact HB3.out⟩
    · have hvi : (16 : Int) ≤ (v : Int) := by omega
      obtain ⟨d, Hd⟩ : ∃ d, Hid (v % 16 = d) := ⟨_, rfl⟩
      have ha := and15 v (by omega)
      have hdx := fun w => dig_at (v % 16) (Nat.mod_lt _ (by omega)) w
      rw [Hd.out] at ha hdx
      obtain ⟨q, Hq⟩ : ∃ q, Hid (v / 16 = q) := ⟨_, rfl⟩
      have hshr : (v : Int) / 16 = (q : Int) := by have := Hq.out; omega
      have hd16 : d < 16 := by have := Hd.out; omega
      have HDS : Hid (D16 w g j (dc d :: ds) (wr.setCell ⟨g, j, none⟩ (.int .u8 ((dc d).toNat : Nat)))) := hid (by
        have := HD.out.step (dc d)
        exact this)
      have HES : Hid (h16 q ++ (dc d :: ds) = h16 u) := hid (by
        rw [← HE.out, h16_big v hv, Hq.out, Hd.out]
        simp)
      have hqv : q < v := by have := Hq.out; omega
      have hvm2 := hvm.out
      have HQM : Hid (q < gk) := hid (by rw [← hvm2]; exact hqv)
      clear hvm2
      unfold dg at hdx
      go_wp2
      go_roundg q
      case measure => exact HQM.out
      case rel => exact ⟨q, j, _, hid rfl, by omega, rfl, rfl, by simp; omega, HES, HDS⟩
set_option maxRecDepth 20000 in
theorem fmtInt16 (u : Nat) (hu : u < 65536) (w : World) (h : Db w) : Calls Tryz.prog 127 #[.int .i64 u, .int .i64 16] w fun e w' => e = .returned (.string ⟨(h16 u).toArray⟩) ∧ Below w.heap.size w w' := by
  have HF : Hid (Calls Tryz.prog 149 #[.slice none 0 0, .int .u64 u, .int .i64 16, .bool false, .bool false] w fun e w' => e = .returned (.tuple #[.slice none 0 0, .string ⟨(h16 u).toArray⟩]) ∧ Below w.heap.size w w') := fmt16 u hu w h
  have h0 : ¬ (u : Int) < 0 := by omega
  have hw : IntKind.u64.wrap (u : Int) = u := wrap_u64 u (by omega)
  go_enter Tryz.func127, Tryz.ntmps127
  go_wp2_with fail
  refine HF.out.mono ?_
  rintro e w1 ⟨rfl, hb⟩
  go_wp2
  go_ret
  exact ⟨rfl, hb⟩
set_option maxRecDepth 20000 in
theorem fmtI16 (u : Nat) (hu : u < 65536) (w : World) (h : Db w) : Calls Tryz.prog 117 #[.int .i64 u, .int .i64 16] w fun e w' => e = .returned (.string ⟨(h16 u).toArray⟩) ∧ Below w.heap.size w w' := by
  have HF : Hid (Calls Tryz.prog 127 #[.int .i64 u, .int .i64 16] w fun e w' => e = .returned (.string ⟨(h16 u).toArray⟩) ∧ Below w.heap.size w w') := fmtInt16 u hu w h
  go_enter Tryz.func117, Tryz.ntmps117
  go_wp2_with fail
  refine HF.out.mono ?_
  rintro e w1 ⟨rfl, hb⟩
  go_wp2
  go_ret
  exact ⟨rfl, hb⟩
end Go.Proofs.YtijeogdnjeamaaaGreatDoor
namespace Go.Proofs.YtijeogdnjeamaaaGreatDoor
open Go.RowKit
set_option linter.unusedVariables false
set_option linter.unusedSimpArgs false
theorem row_len (k : IntKind) (zs : List Int) : (row k zs).length = zs.length := by simp [row]
theorem bx_nil {α : Type} {enc : α → List Value} {k : Nat} (e : TypeId) (w : World) (B : Nat) (h : B ≤ w.heap.size) : Bx enc k e w w B (.slice none 0 0) [] := ⟨Below.refl _ _, ⟨by simp, .inl ⟨rfl, rfl⟩⟩, h⟩
def z20 : List Int := List.replicate 20 0
def IdW (x : List Int) : Prop := x.length = 20 ∧ IsB x
abbrev idV (x : List Int) : Value := .agg (row .u8 x).toArray
theorem Tryz.info68 : (Tryz.prog.info? 68).map (fun i => (i.zero, i.size, i.bytes)) = some (some (.agg (row .u8 z20).toArray), 20, 20) := by kernel_rfl
theorem Tryz.info67 : (Tryz.prog.info? 67).map (fun i => (i.zero, i.size, i.bytes)) = some (some (.agg (row .u8 z20).toArray), 20, 20) := by kernel_rfl
theorem zero68 (w : World) : (zeroValue 68).run Tryz.prog w = .ok (.agg (row .u8 z20).toArray) w := by kernel_rfl
theorem list20 : ∀ (fr : List Int), fr.length = 20 → ∃ a0 a1 a2 a3 a4 a5 a6 a7 a8 a9 a10 a11 a12 a13 a14 a15 a16 a17 a18 a19, fr = [a0, a1, a2, a3, a4, a5, a6, a7, a8, a9, a10, a11, a12, a13, a14, a15, a16, a17, a18, a19]
  | [a0, a1, a2, a3, a4, a5, a6, a7, a8, a9, a10, a11, a12, a13, a14, a15, a16, a17, a18, a19], _ => ⟨a0, a1, a2, a3, a4, a5, a6, a7, a8, a9, a10, a11, a12, a13, a14, a15, a16, a17, a18, a19, rfl⟩
theorem wpList_bS {P : Program} {ops : Array Oper} {rest : List Oper} {o : Oper} {a : Act} {w w' : World} {Q : Exit → Act → World → Prop} (hg : o.guard = none) (t len : Nat) (x : Operand) (ho : o.op = .buildSlice t len #[(0, x)]) (u v : Value) (hx : a.eval x = u)
    (hr : (Instr.buildSlice t len #[(0, u)]).run P w = .ok v w')
    (h : wpList P ops Q rest (a.put o.dst v) w') : wpList P ops Q (o :: rest) a w := by
  refine wpList_plain hg fun K hK => ?_
  unfold Oper.wp execOp
  simp [ho, hx, hr, Result.andThen]
  exact hK _ _ h
theorem eqItems_any {P : Program} (d : Nat) (e : TypeId) (he : P.plainKey e = true) (hu : P.underlying e = some (.int .u8)) (xs ys : List Int) : ∀ (is : List Nat) (w : World), (∀ j ∈ is, j < xs.length ∧ j < ys.length) → (Op.eqItems (d + 1) e 1 (row .u8 xs).toArray (row .u8 ys).toArray is).run P w = .ok (is.all fun j => xs.getD j 0 == ys.getD j 0) w
  | [], w, _ => by simp [Op.eqItems]
  | j :: is, w, h => by
    have hj := h j (by simp)
    have hp : (part e (row .u8 xs).toArray j).run P w = .ok (.int .u8 (xs.getD j 0)) w := run_part_plain w he (by simpa using row_at .u8 xs j hj.1)
    have hq : (part e (row .u8 ys).toArray j).run P w = .ok (.int .u8 (ys.getD j 0)) w := run_part_plain w he (by simpa using row_at .u8 ys j hj.2)
    have ih := eqItems_any d e he hu xs ys is w (fun k hk => h k (by simp [hk]))
    simp only [Op.eqItems, Sem.run_bind, Nat.mul_one, hp, hq, Result.andThen_ok]
    by_cases hxy : xs.getD j 0 = ys.getD j 0
    · have h2 : xs[j]?.getD 0 = ys[j]?.getD 0 := by simpa using hxy
      simp [go_sem, hu, ih, h2]
    · have h2 : ¬ xs[j]?.getD 0 = ys[j]?.getD 0 := by simpa using hxy
      simp [go_sem, hu, ih, h2]
theorem cells5 : Tryz.prog.cellsOf 5 = 1 := by kernel_rfl
theorem plain5 : Tryz.prog.plainKey 5 = true := by kernel_rfl
theorem all_eq20 (x y : List Int) (hx : x.length = 20) (hy : y.length = 20) : ((List.range 20).all fun j => x.getD j 0 == y.getD j 0) = decide (x = y) := by
  by_cases h : x = y
  · subst h
    simp
  · rw [decide_eq_false h, Bool.eq_false_iff]
    intro hall
    refine h (List.ext_getElem (by rw [hx, hy]) (fun j h1 h2 => ?_))
    have := List.all_eq_true.1 hall j (List.mem_range.2 (by omega))
    simpa [h1, h2] using this
theorem eq68 (x y : List Int) (hx : x.length = 20) (hy : y.length = 20) (w : World) : (Op.equalIn 10000 68 (idV x) (idV y)).run Tryz.prog w = .ok (decide (x = y)) w := by
  obtain ⟨i5, hi, -⟩ := info_parts Tryz.info5
  have h1 := eqItems_any (P := Tryz.prog) 9998 5 plain5 Tryz.underlying5 x y (List.range 20) w (fun j hj => by rw [hx, hy]; exact ⟨List.mem_range.1 hj, List.mem_range.1 hj⟩)
  rw [all_eq20 x y hx hy] at h1
  rw [show (10000 : Nat) = 9999 + 1 from rfl, run_equalIn_array w 9999 _ _ Tryz.underlying68 hi, cells5]
  exact h1
theorem step_skip {P : Program} {ops : Array Oper} {o : Oper} {a : Act} {w w' : World} {K : Act → World → Prop} {Q : Exit → Act → World → Prop} {E : Prop} (hg : o.guard = none) (hr : (execOp a.eval o).run P w = .ok .skip w') (h : K (a.put o.dst undef) w') :
    if Region.wanted o (yielded ops a.tmps) = true then Oper.wp P o a w K Q else E := by
  have hw : Region.wanted o (yielded ops a.tmps) = true := by simp [Region.wanted, hg]
  rw [if_pos hw]
  unfold Oper.wp
  rw [hr]
  exact h
end Go.Proofs.YtijeogdnjeamaaaGreatDoor
namespace Go.Proofs.YtijeogdnjeamaaaGreatDoor
open Go.RowKit
set_option linter.unusedVariables false
set_option linter.unusedSimpArgs false
theorem hpi (r : List UInt8) (x : UInt8) (w : World) : Calls Tryz.prog 114 #[.string ⟨(x :: r).toArray⟩, .string ⟨#[48]⟩] w fun e w' => e = .returned (.bool (x == 48)) ∧ w' = w := by
  obtain ⟨S, HS⟩ : ∃ S : ByteArray, Hid (⟨(x :: r).toArray⟩ = S) := ⟨_, hid rfl⟩
  obtain ⟨n, HN⟩ : ∃ n, Hid (r.length + 1 = n) := ⟨_, rfl⟩
  have hsz : S.size = n := by rw [← HS.out, txt_len, List.length_cons]; exact HN.out
  have hn : 1 ≤ n := by rw [← HN.out]; omega
  have hni : (1 : Int) ≤ (n : Int) := by omega
  have h1 : (⟨#[48]⟩ : ByteArray).size = 1 := rfl
  obtain ⟨T, HT⟩ : ∃ T : ByteArray, Hid (⟨[x].toArray⟩ = T) := ⟨_, hid rfl⟩
  have hsl : ∀ w1 : World, (Instr.slice 9 (.string S) none (some (.int .i64 1)) none).run Tryz.prog w1 = .ok (.string T) w1 := fun w1 => by rw [← HS.out, ← HT.out]; exact slc_to (x :: r) 1 (by simp) w1
  have hq : (T.toList == [48]) = (x == 48) := by
    rw [← HT.out]
    simp
  obtain ⟨bb, HBB⟩ : ∃ bb, Hid ((x == 48) = bb) := ⟨_, rfl⟩
  rw [HBB.out] at hq
  rw [HS.out, HBB.out]
  go_enter Tryz.func114, Tryz.ntmps114
  go_wp2
  go_ret
  exact ⟨by rw [← hq]; rfl, rfl⟩
theorem hpc (A : ByteArray) (r : List UInt8) (x : UInt8) (hA : A = ⟨(x :: r).toArray⟩) (w : World) : Calls Tryz.prog 89 #[.string A, .string ⟨#[48]⟩] w fun e w' => e = .returned (.bool (x == 48)) ∧ w' = w := by
  subst hA
  have HF := hid (hpi r x w)
  obtain ⟨S, HS⟩ : ∃ S : ByteArray, Hid (⟨(x :: r).toArray⟩ = S) := ⟨_, hid rfl⟩
  rw [HS.out] at HF ⊢
  go_enter Tryz.func89, Tryz.ntmps89
  go_wp2_with fail
  refine HF.out.mono ?_
  rintro e w1 ⟨rfl, hw⟩
  rw [hw]
  go_wp2
  go_ret
  exact ⟨rfl, rfl⟩
theorem mul64 (k : Nat) (hk : k ≤ 3) (w : World) : Calls Tryz.prog 157 #[.int .u64 1, .int .u64 k] w fun e w' => e = .returned (.tuple #[.int .u64 0, .int .u64 k]) ∧ w' = w := by
  rcases (show k = 0 ∨ k = 1 ∨ k = 2 ∨ k = 3 by omega) with rfl | rfl | rfl | rfl
  all_goals
    go_enter Tryz.func157, Tryz.ntmps157
    go_wp2
    go_ret2
    exact ⟨rfl, rfl⟩
theorem mul (k : Nat) (hk : k ≤ 3) (w : World) : Calls Tryz.prog 137 #[.int .u64 1, .int .u64 k] w fun e w' => e = .returned (.tuple #[.int .u64 0, .int .u64 k]) ∧ w' = w := by
  have HF := hid (mul64 k hk w)
  have hw : IntKind.u64.wrap (k : Int) = k := wrap_u64 k (by omega)
  go_enter Tryz.func137, Tryz.ntmps137
  go_wp2_with fail
  refine HF.out.mono ?_
  rintro e w1 ⟨rfl, hw1⟩
  rw [hw1]
  go_wp2
  go_ret2
  exact ⟨rfl, rfl⟩
set_option maxRecDepth 100000 in
set_option maxHeartbeats 4000000 in
theorem rep (k : Nat) (h1 : 1 ≤ k) (hk : k ≤ 3) (w : World) : Calls Tryz.prog 118 #[.string ⟨#[48]⟩, .int .i64 k] w fun e w' => e = .returned (.string ⟨(List.replicate k (48 : UInt8)).toArray⟩) ∧ w' = w := by
  by_cases e1 : k = 1
  · subst e1
    go_enter Tryz.func118, Tryz.ntmps118
    go_wp2
    go_ret
    exact ⟨rfl, rfl⟩
  · have HM := hid (mul k hk w)
    have hk0 : ((k : Int) == 0) = false := by simp; omega
    have hk1 : ((k : Int) == 1) = false := by simp; omega
    have hkn : ¬ (k : Int) < 0 := by omega
    have hkw : IntKind.u64.wrap (k : Int) = k := wrap_u64 k (by omega)
    have hkb : ¬ (9223372036854775807 : Int) < (k : Int) := by omega
    have hkl : (k : Int) ≤ 128 := by omega
    have hkl2 : (k : Int) ≤ 64 := by omega
    have hs1 : (⟨#[48]⟩ : ByteArray).size = 1 := rfl
    have hix : ∀ w1 : World, (Instr.index 9 (.string ⟨#[48]⟩) (.int .i64 0)).run Tryz.prog w1 = .ok (.int .u8 48) w1 := fun w1 => by kernel_rfl
    obtain ⟨T, HT⟩ : ∃ T : ByteArray, Hid (⟨(List.replicate k (48 : UInt8)).toArray⟩ = T) := ⟨_, hid rfl⟩
    have hsl : ∀ w1 : World, (Instr.slice 9 (.string ⟨#[48, 48, 48, 48, 48, 48, 48, 48, 48, 48, 48, 48, 48, 48, 48, 48, 48, 48, 48, 48, 48, 48, 48, 48, 48, 48, 48, 48, 48, 48, 48, 48, 48, 48, 48, 48, 48, 48, 48, 48, 48, 48, 48, 48, 48, 48, 48, 48, 48, 48, 48, 48, 48, 48, 48, 48, 48, 48, 48, 48, 48, 48, 48, 48]⟩) none (some (.int .i64 k)) none).run Tryz.prog w1 = .ok (.string T) w1 := fun w1 => by
      have := slc_to (List.replicate 64 (48 : UInt8)) k (by simp; omega) w1
      rw [List.take_replicate, Nat.min_eq_left (by omega), HT.out] at this
      exact this
    rw [HT.out]
    go_enter Tryz.func118, Tryz.ntmps118
    go_wp2_with fail
    refine HM.out.mono ?_
    rintro e w1 ⟨rfl, hw1⟩
    rw [hw1]
    clear hw1
    go_wp2_with fail
    refine (hpc _ (List.replicate 127 32) 32 rfl w).mono ?_
    rintro e w2 ⟨rfl, hw2⟩
    rw [hw2]
    clear hw2
    go_wp2_with fail
    refine (hpc _ (List.replicate 127 45) 45 rfl w).mono ?_
    rintro e w2 ⟨rfl, hw2⟩
    rw [hw2]
    clear hw2
    go_wp2_with fail
    refine (hpc _ (List.replicate 63 48) 48 rfl w).mono ?_
    rintro e w2 ⟨rfl, hw2⟩
    rw [hw2]
    clear hw2
    go_wp2
    go_ret
    exact ⟨rfl, rfl⟩
def hx4 (m : Nat) : List UInt8 := [dc (m / 4096 % 16), dc (m / 256 % 16), dc (m / 16 % 16), dc (m % 16)]
theorem h16_4 (m : Nat) (h : m < 65536) : List.replicate (4 - (h16 m).length) 48 ++ h16 m = hx4 m ∧ 1 ≤ (h16 m).length ∧ (h16 m).length ≤ 4 := by
  have z : dc 0 = 48 := rfl
  by_cases h1 : m < 16
  · rw [h16_small m h1]
    refine ⟨?_, by simp, by simp⟩
    unfold hx4
    rw [show m / 4096 % 16 = 0 by omega, show m / 256 % 16 = 0 by omega, show m / 16 % 16 = 0 by omega, show m % 16 = m by omega, z]
    rfl
  · rw [h16_big m h1]
    by_cases h2 : m / 16 < 16
    · rw [h16_small _ h2]
      refine ⟨?_, by simp, by simp⟩
      unfold hx4
      rw [show m / 4096 % 16 = 0 by omega, show m / 256 % 16 = 0 by omega, show m / 16 % 16 = m / 16 by omega, z]
      rfl
    · rw [h16_big _ h2]
      by_cases h3 : m / 16 / 16 < 16
      · rw [h16_small _ h3]
        refine ⟨?_, by simp, by simp⟩
        unfold hx4
        rw [show m / 4096 % 16 = 0 by omega, show m / 256 % 16 = m / 16 / 16 by omega, z]
        rfl
      · rw [h16_big _ h3, h16_small _ (show m / 16 / 16 / 16 < 16 by omega)]
        refine ⟨?_, by simp, by simp⟩
        unfold hx4
        rw [show m / 4096 % 16 = m / 16 / 16 / 16 by omega, show m / 256 % 16 = m / 16 / 16 % 16 by omega]
        rfl
def szT (n : Nat) : List UInt8 := if n = 0 then [48, 48, 48, 48] else hx4 (n + 4)
set_option maxRecDepth 20000 in
theorem sizeOf_any (a : Option Addr) (n cap : Nat) (hn : n ≤ 4091) (w : World) (h : Db w) : Calls Tryz.prog 94 #[.slice a n cap] w fun e w' => e = .returned (.string ⟨(szT n).toArray⟩) ∧ Below w.heap.size w w' := by
  by_cases h0 : n = 0
  · subst h0
    go_enter Tryz.func94, Tryz.ntmps94
    go_wp2
    go_ret
    exact ⟨rfl, Below.refl _ _⟩
  · obtain ⟨q, HQ⟩ : ∃ q, Hid (n + 4 = q) := ⟨_, rfl⟩
    obtain ⟨e4, l1, l4⟩ := h16_4 q (by rw [← HQ.out]; omega)
    have hq : (n : Int) + 4 = (q : Int) := by rw [← HQ.out]; omega
    have hn0 : ((n : Int) == 0) = false := by simp [h0]
    have HF := hid (fmtI16 q (by rw [← HQ.out]; omega) w h)
    have HR : Hid (szT n = List.replicate (4 - (h16 q).length) 48 ++ h16 q) := hid (by rw [e4]; unfold szT; rw [if_neg h0, HQ.out])
    obtain ⟨L, HL⟩ : ∃ L, Hid ((h16 q).length = L) := ⟨_, rfl⟩
    obtain ⟨D, HD⟩ : ∃ D : ByteArray, Hid (⟨(h16 q).toArray⟩ = D) := ⟨_, hid rfl⟩
    have hds : D.size = L := by rw [← HD.out, txt_len]; exact HL.out
    rw [HD.out] at HF
    rw [HL.out] at l1 l4
    have hqb : q ≤ 5000 := by rw [← HQ.out]; omega
    -- at most three digits
    have l3 : L ≤ 3 := by
      rw [← HL.out]
      have := h16_len 2 q (by have : (16 : Nat) ^ (2 + 1) = 4096 := by decide
                              rw [this, ← HQ.out]; omega)
      exact this
    obtain ⟨k, HK⟩ : ∃ k, Hid (4 - L = k) := ⟨_, rfl⟩
    have hk1 : 1 ≤ k := by rw [← HK.out]; omega
    have hk3 : k ≤ 3 := by rw [← HK.out]; omega
    have hsub : (4 : Int) - (L : Int) = (k : Int) := by rw [← HK.out]; omega
    have HR2 := hid (fun W => rep k hk1 hk3 W)
    obtain ⟨Z, HZ⟩ : ∃ Z : ByteArray, Hid (⟨(List.replicate k (48 : UInt8)).toArray⟩ = Z) := ⟨_, hid rfl⟩
    rw [HZ.out] at HR2
    have hcat : Z ++ D = ⟨(szT n).toArray⟩ := by
      rw [← HZ.out, ← HD.out, str_app, HR.out, HL.out, HK.out]
    have hZs : Z.size = k := by rw [← HZ.out, txt_len, List.length_replicate]
    obtain ⟨T, HT⟩ : ∃ T : ByteArray, Hid (⟨(szT n).toArray⟩ = T) := ⟨_, hid rfl⟩
    rw [HT.out] at hcat ⊢
    clear e4 h0
    go_enter Tryz.func94, Tryz.ntmps94
    go_wp2_with fail
    refine HF.out.mono ?_
    rintro e w1 ⟨rfl, hb1⟩
    have HB1 := hid hb1
    clear hb1
    go_wp2_with fail
    refine (HR2.out w1).mono ?_
    rintro e w2 ⟨rfl, hw2⟩
    rw [hw2]
    clear hw2
    go_wp2
    go_ret
    exact ⟨rfl, HB1.out⟩
end Go.Proofs.YtijeogdnjeamaaaGreatDoor
namespace Go.Proofs
open Go.Shelf
def Tryz.laysC245_ren : Go.Shelf.Ren := ⟨fun | 245 => 145 | 279 => 162 | 280 => 163 | 281 => 164 | 282 => 165 | 316 => 174 | 171 => 85 | 205 => 175 | 243 => 110 | 246 => 127 | 283 => 146 | 284 => 147 | 285 => 148 | 286 => 149 | 129 => 167 | 317 => 166 | 318 => 168 | 319 => 169 | 320 => 170 | 337 => 176 | 338 => 177 | n => n, fun | 9 => 9 | 3 => 3 | 75 => 27 | 167 => 246 | 4 => 4 | 168 => 247 | 210 => 259 | 37 => 25 | 0 => 0 | 127 => 245 | 145 => 267 | 143 => 265 | 2 => 2 | 171 => 231 | 53 => 210 | 5 => 5 | 173 => 234 | 212 => 251 | 51 => 239 | 20 => 20 | 213 => 252 | 46 => 114 | 232 => 268 | 233 => 269 | 80 => 229 | n => n, fun | 15 => 3 | 16 => 4 | 17 => 2 | 18 => 7 | 19 => 8 | n => n⟩
theorem Tryz.laysC245 : Go.Proofs.LaysC.n245 Tryz.prog Tryz.laysC245_ren := {
  mixed := by kernel_rfl
  f129 := Tryz.func167.trans (congrArg some (by kernel_rfl))
  f171 := Tryz.func85.trans (congrArg some (by kernel_rfl))
  f205 := Tryz.func175.trans (congrArg some (by kernel_rfl))
  f243 := Tryz.func110.trans (congrArg some (by kernel_rfl))
  f245 := Tryz.func145.trans (congrArg some (by kernel_rfl))
  f246 := Tryz.func127.trans (congrArg some (by kernel_rfl))
  f279 := Tryz.func162.trans (congrArg some (by kernel_rfl))
  f280 := Tryz.func163.trans (congrArg some (by kernel_rfl))
  f281 := Tryz.func164.trans (congrArg some (by kernel_rfl))
  f282 := Tryz.func165.trans (congrArg some (by kernel_rfl))
  f283 := Tryz.func146.trans (congrArg some (by kernel_rfl))
  f284 := Tryz.func147.trans (congrArg some (by kernel_rfl))
  f285 := Tryz.func148.trans (congrArg some (by kernel_rfl))
  f286 := Tryz.func149.trans (congrArg some (by kernel_rfl))
  f316 := Tryz.func174.trans (congrArg some (by kernel_rfl))
  f317 := Tryz.func166.trans (congrArg some (by kernel_rfl))
  f318 := Tryz.func168.trans (congrArg some (by kernel_rfl))
  f319 := Tryz.func169.trans (congrArg some (by kernel_rfl))
  f320 := Tryz.func170.trans (congrArg some (by kernel_rfl))
  f337 := Tryz.func176.trans (congrArg some (by kernel_rfl))
  f338 := Tryz.func177.trans (congrArg some (by kernel_rfl))
  t0 := Tryz.underlying0
  a0 := Tryz.isAgg0
  z0 := Tryz.sizeOf0
  v0 := Tryz.zeroValue0
  t2 := Tryz.underlying2
  a2 := Tryz.isAgg2
  z2 := Tryz.sizeOf2
  v2 := Tryz.zeroValue2
  t3 := Tryz.underlying3
  a3 := Tryz.isAgg3
  z3 := Tryz.sizeOf3
  v3 := Tryz.zeroValue3
  t4 := Tryz.underlying4
  a4 := Tryz.isAgg4
  z4 := Tryz.sizeOf4
  v4 := Tryz.zeroValue4
  t5 := Tryz.underlying5
  a5 := Tryz.isAgg5
  z5 := Tryz.sizeOf5
  v5 := Tryz.zeroValue5
  t9 := Tryz.underlying9
  a9 := Tryz.isAgg9
  z9 := Tryz.sizeOf9
  v9 := Tryz.zeroValue9
  t20 := Tryz.underlying20
  a20 := Tryz.isAgg20
  z20 := Tryz.sizeOf20
  v20 := Tryz.zeroValue20
  t37 := Tryz.underlying25
  a37 := Tryz.isAgg25
  z37 := Tryz.sizeOf25
  v37 := Tryz.zeroValue25
  t46 := Tryz.underlying114
  a46 := Tryz.isAgg114
  z46 := Tryz.sizeOf114
  v46 := Tryz.zeroValue114
  t51 := Tryz.underlying239
  a51 := Tryz.isAgg239
  z51 := Tryz.sizeOf239
  v51 := Tryz.zeroValue239
  t53 := Tryz.underlying210
  a53 := Tryz.isAgg210
  z53 := Tryz.sizeOf210
  v53 := Tryz.zeroValue210
  t75 := Tryz.underlying27
  a75 := Tryz.isAgg27
  z75 := Tryz.sizeOf27
  v75 := Tryz.zeroValue27
  t127 := Tryz.underlying245
  a127 := Tryz.isAgg245
  z127 := Tryz.sizeOf245
  v127 := Tryz.zeroValue245
  t143 := Tryz.underlying265
  a143 := Tryz.isAgg265
  z143 := Tryz.sizeOf265
  v143 := Tryz.zeroValue265
  t145 := Tryz.underlying267
  a145 := Tryz.isAgg267
  z145 := Tryz.sizeOf267
  v145 := Tryz.zeroValue267
  t167 := Tryz.underlying246
  a167 := Tryz.isAgg246
  z167 := Tryz.sizeOf246
  v167 := Tryz.zeroValue246
  t168 := Tryz.underlying247
  a168 := Tryz.isAgg247
  z168 := Tryz.sizeOf247
  v168 := Tryz.zeroValue247
  t171 := Tryz.underlying231
  a171 := Tryz.isAgg231
  z171 := Tryz.sizeOf231
  v171 := Tryz.zeroValue231
  t173 := Tryz.underlying234
  a173 := Tryz.isAgg234
  z173 := Tryz.sizeOf234
  v173 := Tryz.zeroValue234
  t210 := Tryz.underlying259
  a210 := Tryz.isAgg259
  z210 := Tryz.sizeOf259
  v210 := Tryz.zeroValue259
  t212 := Tryz.underlying251
  a212 := Tryz.isAgg251
  z212 := Tryz.sizeOf251
  v212 := Tryz.zeroValue251
  t213 := Tryz.underlying252
  a213 := Tryz.isAgg252
  z213 := Tryz.sizeOf252
  t232 := Tryz.underlying268
  a232 := Tryz.isAgg268
  z232 := Tryz.sizeOf268
  v232 := Tryz.zeroValue268
  t233 := Tryz.underlying269
  a233 := Tryz.isAgg269
  z233 := Tryz.sizeOf269
  v233 := Tryz.zeroValue269
  g15 := by kernel_rfl
  g16 := by kernel_rfl
  g17 := by kernel_rfl
  g18 := by kernel_rfl
  g19 := by kernel_rfl
  t80 := Tryz.underlying229
  a80 := Tryz.isAgg229
  z80 := Tryz.sizeOf229
  v80 := Tryz.zeroValue229
  i0 := by kernel_rfl
  i2 := by kernel_rfl
  i3 := by kernel_rfl
  i4 := by kernel_rfl
  i5 := by kernel_rfl
  i9 := by kernel_rfl
  i20 := by kernel_rfl
  i37 := by kernel_rfl
  i46 := by kernel_rfl
  i51 := by kernel_rfl
  i53 := by kernel_rfl
  i75 := by kernel_rfl
  i80 := by kernel_rfl
  i127 := by kernel_rfl
  i143 := by kernel_rfl
  i145 := by kernel_rfl
  i167 := by kernel_rfl
  i168 := by kernel_rfl
  i171 := by kernel_rfl
  i173 := by kernel_rfl
  i210 := by kernel_rfl
  i212 := by kernel_rfl
  i232 := by kernel_rfl
  i233 := by kernel_rfl
  m15 := by kernel_rfl
  m16 := by kernel_rfl
  m17 := by kernel_rfl
  m18 := by kernel_rfl
  m19 := by kernel_rfl
  c0 := by kernel_rfl
  c2 := by kernel_rfl
  c3 := by kernel_rfl
  c4 := by kernel_rfl
  c5 := by kernel_rfl
  c9 := by kernel_rfl
  c20 := by kernel_rfl
  c37 := by kernel_rfl
  c46 := by kernel_rfl
  c51 := by kernel_rfl
  c53 := by kernel_rfl
  c75 := by kernel_rfl
  c80 := by kernel_rfl
  c127 := by kernel_rfl
  c143 := by kernel_rfl
  c145 := by kernel_rfl
  c167 := by kernel_rfl
  c168 := by kernel_rfl
  c171 := by kernel_rfl
  c173 := by kernel_rfl
  c210 := by kernel_rfl
  c212 := by kernel_rfl
  c213 := by kernel_rfl
  c232 := by kernel_rfl
  c233 := by kernel_rfl }
end Go.Proofs
namespace Go.Proofs.YtijeogdnjeamaaaGreatDoor
open Go.RowKit
set_option linter.unusedVariables false
set_option linter.unusedSimpArgs false
def dv (c : UInt8) : Nat := if 48 ≤ c.toNat ∧ c.toNat ≤ 57 then c.toNat - 48 else if 97 ≤ c.toNat ∧ c.toNat ≤ 102 then c.toNat - 87 else 16
def hex16 : Nat → List UInt8 → Option Nat
  | acc, [] => some acc
  | acc, c :: t => if dv c < 16 ∧ acc * 16 + dv c ≤ 65535 then hex16 (acc * 16 + dv c) t else none
theorem dv_dc (d : Nat) (h : d < 16) : dv (dc d) = d := by
  rcases (show d = 0 ∨ d = 1 ∨ d = 2 ∨ d = 3 ∨ d = 4 ∨ d = 5 ∨ d = 6 ∨ d = 7 ∨ d = 8 ∨ d = 9 ∨ d = 10 ∨ d = 11 ∨ d = 12 ∨ d = 13 ∨ d = 14 ∨ d = 15 by omega) with rfl | rfl | rfl | rfl | rfl | rfl | rfl | rfl | rfl | rfl | rfl | rfl | rfl | rfl | rfl | rfl <;> decide
theorem hex_hx4 (m : Nat) (h : m < 65536) : hex16 0 (hx4 m) = some m := by
  unfold hx4
  simp only [hex16]
  rw [dv_dc _ (by omega), dv_dc _ (by omega), dv_dc _ (by omega), dv_dc _ (by omega)]
  rw [if_pos (by omega), if_pos (by omega), if_pos (by omega), if_pos (by omega)]
  congr 1
  omega
def PU (l : List UInt8) (e : Ending) : Prop := ∃ (v : Int) (ev : Value), e = .returned (.tuple #[.int .u64 v, ev]) ∧ 0 ≤ v ∧ v ≤ 65535 ∧ (ev = .nilIface ∨ ev = .iface 246 (.int .i64 1) ∨ ev = .iface 246 (.int .i64 2)) ∧ (∀ r, l ≠ [] → hex16 0 l = some r → v = r ∧ ev = .nilIface)
theorem PU.bad {l : List UInt8} (h : l = [] ∨ hex16 0 l = none) (v : Int) (h0 : 0 ≤ v) (h1 : v ≤ 65535) (k : Int) (hk : k = 1 ∨ k = 2) : PU l (.returned (.tuple #[.int .u64 v, .iface 246 (.int .i64 k)])) :=
  ⟨v, _, rfl, h0, h1, by rcases hk with rfl | rfl; exact .inr (.inl rfl); exact .inr (.inr rfl), fun r hn hr => by
    rcases h with h | h
    · exact absurd h hn
    · rw [h] at hr; cases hr⟩
theorem lower_any (c : Int) (w : World) : Calls Tryz.prog 160 #[.int .u8 c] w fun e w' => e = .returned (.int .u8 (bits .or .u8 c 32)) ∧ w' = w := by
  go_enter Tryz.func160, Tryz.ntmps160
  go_wp2
  go_ret
  exact ⟨rfl, rfl⟩
theorem or32 (c : Nat) (h : 97 ≤ c ∧ c ≤ 102) : bits .or .u8 (c : Int) 32 = c := by
  rcases (show c = 97 ∨ c = 98 ∨ c = 99 ∨ c = 100 ∨ c = 101 ∨ c = 102 by omega) with rfl | rfl | rfl | rfl | rfl | rfl <;> decide +kernel
theorem bits_in (c : Int) : 0 ≤ bits .or .u8 c 32 ∧ bits .or .u8 c 32 ≤ 255 := ⟨bits_lo_u8 .or c 32, by have := bits_hi_u8 .or c 32; omega⟩
set_option maxHeartbeats 8000000 in
set_option maxRecDepth 100000 in
theorem parseUint16 (l : List UInt8) (hl : l.length ≤ 1000000) (w : World) :
    Calls Tryz.prog 144 #[.string ⟨l.toArray⟩, .int .i64 16, .int .i64 16] w fun e w' => PU l e ∧ Below w.heap.size w w' := by
  by_cases hne : l = []
  · subst hne
    have HB : Hid (Below w.heap.size w w) := Below.refl _ _
    go_enter Tryz.func144, Tryz.ntmps144
    go_wp2
    go_ret2
    exact ⟨PU.bad (.inl rfl) _ (by decide) (by decide) 2 (.inr rfl), HB.out⟩
  · obtain ⟨S, HS⟩ : ∃ S : ByteArray, Hid (S = ⟨l.toArray⟩) := ⟨_, rfl⟩
    obtain ⟨n, HN⟩ : ∃ n, Hid (l.length = n) := ⟨_, rfl⟩
    have hn : n ≤ 1000000 := by rw [← HN.out]; exact hl
    have hemp : S.toList.isEmpty = false := by
      rw [HS.out, Lib.toList_data]
      simpa using hne
    obtain ⟨cap, w1, hcv, hmk, hb1⟩ := conv_bytes l w
    rw [← HS.out, HN.out] at hcv
    have HB1 : Hid (Below w.heap.size w w1) := hb1
    have HM : Hid (PB w1 (some ⟨w.heap.size, 0, none⟩) cap l) := hmk
    have hmv : IntKind.u64.wrap (IntKind.u64.wrap 65536 - 1) = 65535 := by
      rw [IntKind.wrap_u64, IntKind.wrap_u64]
      decide
    rw [← HS.out]
    clear hmk hb1
    go_enter Tryz.func144, Tryz.ntmps144
    go_wp2
    go_loop [12, 13, 101] (fun vu vn vi => ∃ (k : Nat) (a : Int), vu = .bool false ∧ vn = .int .u64 a ∧ vi = .int .i64 k ∧ k ≤ n ∧ 0 ≤ a ∧ a ≤ 65535 ∧ Hid (hex16 0 l = none ∨ ∃ acc : Nat, a = (acc : Int) ∧ hex16 0 l = hex16 acc (l.drop k)))
      (fun _ _ vi => n - (intOf vi).toNat)
    case atStart => exact ⟨0, 0, rfl, rfl, rfl, by omega, by omega, by omega, .inr ⟨0, rfl, rfl⟩⟩
    case round =>
      obtain ⟨k, a, rfl, rfl, rfl, hk, a0, a1, HH⟩ := hrel
      by_cases hkn : k < n
      · have hkl : k < l.length := by rw [HN.out]; exact hkn
        obtain ⟨c, HCc⟩ : ∃ c, Hid (l[k]? = some c) := ⟨_, hid (List.getElem?_eq_getElem hkl)⟩
        have HDR : Hid (l.drop k = c :: l.drop (k + 1)) := hid (by
          rw [List.drop_eq_getElem_cons hkl]
          have h1 := HCc.out
          rw [List.getElem?_eq_getElem hkl] at h1
          rw [Option.some.inj h1])
        have hc : w1.cell? ⟨w.heap.size, k, none⟩ = some (.int .u8 (c.toNat : Int)) := by
          have := PB.cell HM.out k hkl
          rw [Nat.zero_add] at this
          rw [this, List.getD_eq_getElem?_getD, HCc.out]
          rfl
        have HNX : Hid (∀ d : Nat, d = dv c → d < 16 → a * 16 + d ≤ 65535 → (hex16 0 l = none ∨ ∃ acc : Nat, a * 16 + (d : Int) = (acc : Int) ∧ hex16 0 l = hex16 acc (l.drop (k + 1)))) := hid (fun d hd h16 hle => by
          rcases HH.out with h | ⟨acc, ha, he⟩
          · exact .inl h
          · refine .inr ⟨acc * 16 + d, by omega, ?_⟩
            rw [he, HDR.out, hex16, if_pos (by rw [← hd]; omega), ← hd])
        have HNO : Hid (∀ d : Nat, d = dv c → (¬ d < 16 ∨ 65535 < a * 16 + d) → hex16 0 l = none) := hid (fun d hd hor => by
          rcases HH.out with h | ⟨acc, ha, he⟩
          · exact h
          · rw [he, HDR.out, hex16, if_neg (by rw [← hd]; omega)])
        have hc256 : c.toNat < 256 := c.toNat_lt
        obtain ⟨x, HXx⟩ : ∃ x, Hid (c.toNat = x) := ⟨_, rfl⟩
        rw [HXx.out] at hc hc256
        by_cases hdig : 48 ≤ x ∧ x ≤ 57
        · obtain ⟨hd0, hd1⟩ := hdig
          have hdv : x - 48 = dv c := by unfold dv; rw [HXx.out, if_pos (by omega)]
          have hx95 : ((x : Int) == 95) = false := by simp; omega
          by_cases hov : 65535 < a * 16 + ((x : Int) - 48)
          · have HP : Hid (PU l (.returned (.tuple #[.int .u64 65535, .iface 246 (.int .i64 1)]))) := hid (PU.bad (.inr (HNO.out _ hdv (.inr (by omega)))) _ (by decide) (by decide) 1 (.inl rfl))
            clear hdv
            go_wp2
            go_ret2
            exact ⟨HP.out, HB1.out⟩
          · have HN2 : Hid (hex16 0 l = none ∨ ∃ acc : Nat, a * 16 + ((x : Int) - 48) = (acc : Int) ∧ hex16 0 l = hex16 acc (l.drop (k + 1))) := hid (by
              have := HNX.out _ hdv (by omega) (by omega)
              rw [show ((x - 48 : Nat) : Int) = (x : Int) - 48 by omega] at this
              exact this)
            have iov : a * 16 + ((x : Int) - 48) ≤ 65535 := by omega
            clear hdv hov
            go_wp2
            refine ⟨⟨k + 1, a * 16 + ((x : Int) - 48), rfl, (by first | rfl | (congr 1; omega)), (by first | rfl | (congr 1; omega)), by omega, by omega, by omega, HN2⟩, by simp [intOf]; omega⟩
        · obtain ⟨L, HL⟩ : ∃ L, Hid (bits .or .u8 (x : Int) 32 = L) := ⟨_, rfl⟩
          have hLb := bits_in (x : Int)
          rw [HL.out] at hLb
          obtain ⟨hL0, hL1⟩ := hLb
          have C50 : Hid (∀ W, Calls Tryz.prog 160 #[.int .u8 (x : Int)] W fun e w' => e = .returned (.int .u8 L) ∧ w' = W) := hid (fun W => by rw [← HL.out]; exact lower_any _ W)
          have HLO : Hid (97 ≤ x ∧ x ≤ 102 → L = x) := hid (fun h => by rw [← HL.out]; exact or32 x h)
          have H95 : Hid (x = 95 → L = 127) := hid (fun h => by rw [← HL.out, h]; decide +kernel)
          have hdv : ∀ h : 97 ≤ x ∧ x ≤ 102, x - 87 = dv c := fun h => by unfold dv; rw [HXx.out, if_neg hdig, if_pos h]
          have hdv2 : ∀ h : ¬ (97 ≤ x ∧ x ≤ 102), 16 = dv c := fun h => by unfold dv; rw [HXx.out, if_neg hdig, if_neg h]
          by_cases hLr : 97 ≤ L ∧ L ≤ 102
          · obtain ⟨hl0, hl1⟩ := hLr
            by_cases hov : 65535 < a * 16 + (L - 87)
            · have HP : Hid (PU l (.returned (.tuple #[.int .u64 65535, .iface 246 (.int .i64 1)]))) := hid (PU.bad (.inr (by
                by_cases hxx : 97 ≤ x ∧ x ≤ 102
                · have := HLO.out hxx
                  exact HNO.out _ (hdv hxx) (.inr (by omega))
                · exact HNO.out _ (hdv2 hxx) (.inl (by decide)))) _ (by decide) (by decide) 1 (.inl rfl))
              have hx95 : ((x : Int) == 95) = false := by
                have : x ≠ 95 := fun e => by have := H95.out e; omega
                simp; omega
              clear hdv hdv2
              rcases (show x < 48 ∨ 57 < x by omega) with hxa | hxa
              all_goals
                clear hdig
                go_wp2_with (go_at_call 160; refine (C50.out _).mono ?_; rintro e w' ⟨rfl, rfl⟩)
                go_ret2
                exact ⟨HP.out, HB1.out⟩
            · have HN2 : Hid (hex16 0 l = none ∨ ∃ acc : Nat, a * 16 + (L - 87) = (acc : Int) ∧ hex16 0 l = hex16 acc (l.drop (k + 1))) := hid (by
                by_cases hxx : 97 ≤ x ∧ x ≤ 102
                · have hLx := HLO.out hxx
                  have := HNX.out _ (hdv hxx) (by omega) (by omega)
                  rw [show ((x - 87 : Nat) : Int) = L - 87 by omega] at this
                  exact this
                · exact .inl (HNO.out _ (hdv2 hxx) (.inl (by decide))))
              have iov : a * 16 + (L - 87) ≤ 65535 := by omega
              have hx95 : ((x : Int) == 95) = false := by
                have : x ≠ 95 := fun e => by have := H95.out e; omega
                simp; omega
              clear hdv hdv2 hov
              rcases (show x < 48 ∨ 57 < x by omega) with hxa | hxa
              all_goals
                clear hdig
                go_wp2_with (go_at_call 160; refine (C50.out _).mono ?_; rintro e w' ⟨rfl, rfl⟩)
                refine ⟨⟨k + 1, a * 16 + (L - 87), rfl, (by first | rfl | (congr 1; omega)), (by first | rfl | (congr 1; omega)), by omega, by omega, by omega, HN2⟩, by simp [intOf]; omega⟩
          · have HP : Hid (PU l (.returned (.tuple #[.int .u64 0, .iface 246 (.int .i64 2)]))) := hid (PU.bad (.inr (by
              by_cases hxx : 97 ≤ x ∧ x ≤ 102
              · have := HLO.out hxx
                omega
              · exact HNO.out _ (hdv2 hxx) (.inl (by decide)))) _ (by decide) (by decide) 2 (.inr rfl))
            clear hdv hdv2
            obtain ⟨b95, H95b⟩ : ∃ b : Bool, ((x : Int) == 95) = b := ⟨_, rfl⟩
            rcases (show x < 48 ∨ 57 < x by omega) with hxa | hxa
            all_goals
              clear hdig
              rcases (show L < 97 ∨ (97 ≤ L ∧ L ≤ 122 ∧ 102 < L) ∨ (97 ≤ L ∧ 122 < L) by omega) with q | ⟨q1, q2, q3⟩ | ⟨q1, q2⟩
              all_goals
                clear hLr
                cases b95
                all_goals
                  go_wp2_with (go_at_call 160; refine (C50.out _).mono ?_; rintro e w' ⟨rfl, rfl⟩)
                  go_ret2
                  exact ⟨HP.out, HB1.out⟩
      · have hkk : k = n := by omega
        subst hkk
        have HP : Hid (PU l (.returned (.tuple #[.int .u64 a, .nilIface]))) := hid ⟨a, _, rfl, a0, a1, .inl rfl, fun r _ hr => by
          rcases HH.out with h | ⟨acc, ha, he⟩
          · rw [h] at hr; cases hr
          · rw [he, List.drop_eq_nil_of_le (by rw [HN.out]; exact Nat.le_refl _)] at hr
            cases hr
            exact ⟨ha, rfl⟩⟩
        go_wp2
        go_ret2
        exact ⟨HP.out, HB1.out⟩
end Go.Proofs.YtijeogdnjeamaaaGreatDoor
