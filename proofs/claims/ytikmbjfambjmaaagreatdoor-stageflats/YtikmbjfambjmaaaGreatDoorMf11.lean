import Derived.Test.YtikmbjfambjmaaaGreatDoorMf10
import Derived.Laws.BitsAllLaws
import Derived.Test.YtikmbjfambjmaaaGreatDoorMf01
import Derived.Laws.IdiomStrings
import Derived.Test.YtikmbjfambjmaaaGreatDoorMf04
import Derived.Test.YtikmbjfambjmaaaGreatDoorMf06
import Derived.Lib.AppendStr
import Derived.Maps.AppendAt
namespace Go.Proofs.YtikmbjfambjmaaaGreatDoor
open Go.RowKit
set_option linter.unusedVariables false
set_option linter.unusedSimpArgs false
structure Db (w : World) : Prop where
  c7 : w.cell? ⟨6, 7, none⟩ = some (.int .u8 3)
theorem Db.below {w w' : World} (h : Db w) (hb : Below w.heap.size w w') : Db w' := ⟨(hb.cell (p := ⟨6, 7, none⟩) (cell_lt h.c7)).trans h.c7⟩
theorem pow2_8 (w : World) : Calls Tryz.prog 145 #[.int .i64 8] w fun e w' => e = .returned (.bool true) ∧ w' = w := by
  go_enter Tryz.func145, Tryz.ntmps145
  go_wp2
  go_ret
  exact ⟨rfl, rfl⟩
theorem tz64_8 (w : World) (h : Db w) : Calls Tryz.prog 151 #[.int .u64 8] w fun e w' => e = .returned (.int .i64 3) ∧ w' = w := by
  have c := h.c7
  have e1 : bits BinOp.and IntKind.u64 8 (IntKind.u64.wrap (-8)) = 8 := by kernel_rfl
  have e2 : IntKind.u64.wrap (8 * 285870213051353865) / 288230376151711744 = 7 := by kernel_rfl
  have e3 : IntKind.u64.wrap 2286961704410830920 / 288230376151711744 = 7 := by kernel_rfl
  go_enter Tryz.func151, Tryz.ntmps151
  go_wp2
  go_ret
  exact ⟨rfl, rfl⟩
theorem tz_8 (w : World) (h : Db w) : Calls Tryz.prog 146 #[.int .u64 8] w fun e w' => e = .returned (.int .i64 3) ∧ w' = w := by
  go_enter Tryz.func146, Tryz.ntmps146
  go_wp2_with (go_at_call 151; refine (tz64_8 _ h).mono ?_; rintro ev w1 ⟨rfl, rfl⟩)
  go_ret
  exact ⟨rfl, rfl⟩
def o8 (n : Nat) : List UInt8 := if h : n < 8 then [UInt8.ofNat (48 + n)] else o8 (n / 8) ++ [UInt8.ofNat (48 + n % 8)]
theorem o8_small (n : Nat) (h : n < 8) : o8 n = [UInt8.ofNat (48 + n)] := by rw [o8, dif_pos h]
theorem o8_big (n : Nat) (h : ¬ n < 8) : o8 n = o8 (n / 8) ++ [UInt8.ofNat (48 + n % 8)] := by rw [o8, dif_neg h]
theorem o8_pos (n : Nat) : 1 ≤ (o8 n).length := by
  by_cases h : n < 8
  · rw [o8_small n h]; simp
  · rw [o8_big n h]; simp
theorem o8_len : ∀ (k n : Nat), n < 8 ^ (k + 1) → (o8 n).length ≤ k + 1
  | 0, n, h => by rw [o8_small n (by simpa using h)]; simp
  | k + 1, n, h => by
    by_cases h8 : n < 8
    · rw [o8_small n h8]; simp
    · rw [o8_big n h8, List.length_append]
      have := o8_len k (n / 8) (by rw [Nat.pow_succ] at h; exact Nat.div_lt_of_lt_mul (by rw [Nat.mul_comm]; exact h))
      simp; omega
def dg : ByteArray := ⟨#[48, 49, 50, 51, 52, 53, 54, 55, 56, 57, 97, 98, 99, 100, 101, 102, 103, 104, 105, 106, 107, 108, 109, 110, 111, 112, 113, 114, 115, 116, 117, 118, 119, 120, 121, 122]⟩
theorem dig_at (d : Nat) (h : d < 8) (w : World) : (Instr.index 9 (.string dg) (.int .u64 d)).run Tryz.prog w = .ok (.int .u8 (48 + d : Nat)) w := by
  match d, h with
  | 0, _ => show _ = _; kernel_rfl
  | 1, _ => show _ = _; kernel_rfl
  | 2, _ => show _ = _; kernel_rfl
  | 3, _ => show _ = _; kernel_rfl
  | 4, _ => show _ = _; kernel_rfl
  | 5, _ => show _ = _; kernel_rfl
  | 6, _ => show _ = _; kernel_rfl
  | 7, _ => show _ = _; kernel_rfl
theorem and7 (v : Nat) (h : v < 65536) : bits BinOp.and IntKind.u64 (v : Int) 7 = ((v % 8 : Nat) : Int) := by
  have := u64_and_nat v 7 (by omega) (by omega)
  rw [nat_mask3] at this
  exact this
def z8 (i : Nat) (ds : List UInt8) : List Int := List.replicate i 0 ++ ds.map fun b => (b.toNat : Int)
theorem z8_set (i : Nat) (ds : List UInt8) (b : UInt8) : (z8 (i + 1) ds).set i (b.toNat : Int) = z8 i (b :: ds) := by
  unfold z8
  rw [List.replicate_succ', List.append_assoc, List.set_append_right _ _ (by simp)]
  simp
theorem z8_len (i : Nat) (ds : List UInt8) : (z8 i ds).length = i + ds.length := by simp [z8]
theorem zero279 : Tryz.zeroCells239 = (row .u8 (z8 65 [])).toArray := by kernel_rfl
theorem str_nums (l : List UInt8) : strOfNums (l.map fun b => (b.toNat : Int)) = ⟨l.toArray⟩ := by
  unfold strOfNums
  rw [List.map_map, show ((fun n : Int => UInt8.ofNat n.toNat) ∘ fun b : UInt8 => (b.toNat : Int)) = id from funext fun b => by simp, List.map_id]
structure D8 (w : World) (g i : Nat) (ds : List UInt8) (W : World) : Prop where
  box : W.heap[g]? = some (.cells (row .u8 (z8 i ds)).toArray 239 (0, 0))
  bel : Below g w W
theorem D8.step {w : World} {g i : Nat} {ds : List UInt8} {W : World} (h : D8 w g (i + 1) ds W) (b : UInt8) : D8 w g i (b :: ds) (W.setCell ⟨g, i, none⟩ (.int .u8 b.toNat)) := by
  refine ⟨?_, h.bel.setCell (p := ⟨g, i, none⟩) (Nat.le_refl _) _⟩
  rw [heap_setCell_same W g i _ 239 _ h.box, row_set, z8_set]
set_option maxRecDepth 20000 in
theorem fmt8 (u : Nat) (hu : u < 65536) (w : World) (h : Db w) : Calls Tryz.prog 125 #[.slice none 0 0, .int .u64 u, .int .i64 8, .bool false, .bool false] w fun e w' => e = .returned (.tuple #[.slice none 0 0, .string ⟨(o8 u).toArray⟩]) ∧ Below w.heap.size w w' := by
  have HT : Hid (∀ W, Below w.heap.size w W → Calls Tryz.prog 146 #[.int .u64 8] W fun e w' => e = .returned (.int .i64 3) ∧ w' = W) := fun W hW => tz_8 W (h.below hW)
  obtain ⟨g, HG⟩ : ∃ g, Hid (w.heap.size = g) := ⟨_, rfl⟩
  have HD0 : Hid (D8 w g 65 [] (w.alloc (.cells Tryz.zeroCells239 239))) := hid (by
    rw [← HG.out, zero279]
    exact ⟨heap_alloc_new w _, (Below.refl _ w).alloc (Nat.le_refl _) _⟩)
  have HU6 : Hid ((o8 u).length ≤ 6) := hid (o8_len 5 u (by omega))
  go_enter Tryz.func125, Tryz.ntmps125
  go_wp2_with (go_at_call 145; refine (pow2_8 _).mono ?_; rintro ev w1 ⟨rfl, rfl⟩)
  have HW1 : Hid (Below w.heap.size w (w.alloc (.cells Tryz.zeroCells239 239))) := (Below.refl _ w).alloc (Nat.le_refl _) _
  refine (HT.out _ HW1.out).mono ?_
  rintro ev w1 ⟨rfl, hw1⟩
  subst hw1
  go_wp2_with fail
  rw [HG.out]
  clear HW1
  obtain ⟨w0, HW0⟩ : ∃ w0, Hid (w.alloc (.cells Tryz.zeroCells239 239) = w0) := ⟨_, rfl⟩
  rw [HW0.out] at HD0 ⊢
  go_loopg [1, 13] u (fun m uv iv wr => ∃ (v i : Nat) (ds : List UInt8), Hid (v = m) ∧ v ≤ u ∧ uv = .int .u64 v ∧ iv = .int .i64 i ∧ i + ds.length = 65 ∧ Hid (o8 v ++ ds = o8 u) ∧ Hid (D8 w g i ds wr))
  case atStart => exact ⟨u, 65, [], hid rfl, Nat.le_refl _, rfl, rfl, rfl, hid (by simp), HD0⟩
  case round =>
    obtain ⟨v, i, ds, hvm, hvu, rfl, rfl, hil, HE, HD⟩ := hrel
    have hlen : ds.length ≤ 5 := by
      have h1 := congrArg List.length HE.out
      rw [List.length_append] at h1
      have := o8_pos v
      have := HU6.out
      omega
    obtain ⟨j, hj⟩ : ∃ j, i = j + 1 := ⟨i - 1, by omega⟩
    subst hj
    have hjl : j < 65 := by omega
    have hji : (j : Int) < 65 := by omega
    have hjs : (j : Int) + 1 - 1 = j := by omega
    have kj : wr.cell? ⟨g, j, none⟩ = some (.int .u8 ((z8 (j + 1) ds).getD j 0)) := row_cell HD.out.box j (by rw [z8_len]; omega)
    have fj : wr.frozen? ⟨g, j, none⟩ = false := by
      have := HD.out.box
      simp [World.frozen?, this]
    by_cases hv : v < 8
    · have hvi : ¬ (8 : Int) ≤ (v : Int) := by omega
      have hdx := fun w => dig_at v hv w
      unfold dg at hdx
      obtain ⟨W2, HW2⟩ : ∃ W2, Hid (wr.setCell ⟨g, j, none⟩ (.int .u8 (48 + v : Nat)) = W2) := ⟨_, rfl⟩
      have HDS : Hid (D8 w g j (UInt8.ofNat (48 + v) :: ds) W2) := hid (by
        have := HD.out.step (UInt8.ofNat (48 + v))
        rwa [show (UInt8.ofNat (48 + v)).toNat = 48 + v by rw [UInt8.toNat_ofNat']; omega, HW2.out] at this)
      have HES : Hid (UInt8.ofNat (48 + v) :: ds = o8 u) := hid (by rw [← HE.out, o8_small v hv]; rfl)
      obtain ⟨n, HNN⟩ : ∃ n, Hid (65 - j = n) := ⟨_, rfl⟩
      have hn1 : (65 : Int) - j = n := by have := HNN.out; omega
      have hn2 : 65 - j = n := HNN.out
      have HCV : Hid (∀ dst, Tryz.prog.underlying dst = some .string → (convert 26 dst (.slice (some ⟨g, j, none⟩) n n)).run Tryz.prog W2 = .ok (.string (strOfNums ((o8 u).map fun b => (b.toNat : Int)))) W2) := hid (by
        rw [← HES.out]
        refine run_convert_bytes_arg W2 26 5 Tryz.underlying26 Tryz.underlying5 g j n n _ (by simp; have := HNN.out; omega) fun i hi => ?_
        rw [row_cell HDS.out.box (j + i) (by rw [z8_len]; simp; have := HNN.out; omega)]
        simp [z8, List.getD_eq_getElem?_getD, List.getElem?_append_right])
      have hj0 : (0 : Int) ≤ (j : Int) := by omega
      have hj65 : (j : Int) ≤ 65 := by omega
      have hjne : ¬ (65 : Nat) = j := by omega
      have hsl : ∀ w, (Instr.sliceAt 239 (.pointer (some ⟨g, 0, none⟩)) (some (.int .i64 j)) none none).run Tryz.prog w = .ok (.slice (some ⟨g, j, none⟩) n n) w := fun w => by
        go_simp
      have HW3 : Hid (wr.setCell ⟨g, j, none⟩ (.int .u8 (48 + (v : Int))) = W2) := hid (by rw [← HW2.out]; push_cast; rfl)
      have HTE : Hid (strOfNums ((o8 u).map fun b => (b.toNat : Int)) = ⟨(o8 u).toArray⟩) := hid (str_nums _)
      have hcv := HCV.out 9 Tryz.underlying9
      rw [HTE.out] at hcv
      have HBL : Hid (Below g w W2) := HDS.out.bel
      obtain ⟨T, HTT⟩ : ∃ T : ByteArray, Hid ((⟨(o8 u).toArray⟩ : ByteArray) = T) := ⟨_, rfl⟩
      rw [HTT.out] at hcv
      have hcv2 : (convert 26 9 (.slice (some ⟨g, j, none⟩) n n)).run Tryz.prog (wr.setCell ⟨g, j, none⟩ (.int .u8 (48 + (v : Int)))) = .ok (.string T) (wr.setCell ⟨g, j, none⟩ (.int .u8 (48 + (v : Int)))) := by rw [HW3.out]; exact hcv
      have HB3 : Hid (Below g w (wr.setCell ⟨g, j, none⟩ (.int .u8 (48 + (v : Int))))) := hid (by rw [HW3.out]; exact HBL.out)
      clear hcv
      go_wp2
      go_ret2
      exact ⟨by rw [HTT.out]; rfl, by rw [HG.out]; exact HB3.out⟩
    · have hvi : (8 : Int) ≤ (v : Int) := by omega
      obtain ⟨d, Hd⟩ : ∃ d, Hid (v % 8 = d) := ⟨_, rfl⟩
      have ha := and7 v (by omega)
      have hdx := fun w => dig_at (v % 8) (Nat.mod_lt _ (by omega)) w
      rw [Hd.out] at ha hdx
      obtain ⟨q, Hq⟩ : ∃ q, Hid (v / 8 = q) := ⟨_, rfl⟩
      have hshr : (v : Int) / 8 = (q : Int) := by have := Hq.out; omega
      have hd8 : d < 8 := by have := Hd.out; omega
      have HDS : Hid (D8 w g j (UInt8.ofNat (48 + d) :: ds) (wr.setCell ⟨g, j, none⟩ (.int .u8 (48 + d : Nat)))) := hid (by
        have := HD.out.step (UInt8.ofNat (48 + d))
        rwa [show (UInt8.ofNat (48 + d)).toNat = 48 + d by rw [UInt8.toNat_ofNat']; omega] at this)
      have HES : Hid (o8 q ++ (UInt8.ofNat (48 + d) :: ds) = o8 u) := hid (by
        rw [← HE.out, o8_big v hv, Hq.out, Hd.out]
        simp)
      have hqv : q < v := by have := Hq.out; omega
      have hvm2 := hvm.out
      have HQM : Hid (q < gk) := hid (by rw [← hvm2]; exact hqv)
      clear hvm2
      unfold dg at hdx
      go_wp2
      go_roundg q
      case measure => exact HQM.out
      case rel => exact ⟨q, j, _, hid rfl, by omega, rfl, rfl, by simp; omega, HES, HDS⟩
end Go.Proofs.YtikmbjfambjmaaaGreatDoor
namespace Go.Proofs.YtikmbjfambjmaaaGreatDoor
open Go.RowKit
set_option linter.unusedVariables false
set_option linter.unusedSimpArgs false
set_option maxRecDepth 20000 in
theorem fmtInt8 (u : Nat) (hu : u < 65536) (w : World) (h : Db w) : Calls Tryz.prog 95 #[.int .i64 u, .int .i64 8] w fun e w' => e = .returned (.string ⟨(o8 u).toArray⟩) ∧ Below w.heap.size w w' := by
  have HF : Hid (Calls Tryz.prog 125 #[.slice none 0 0, .int .u64 u, .int .i64 8, .bool false, .bool false] w fun e w' => e = .returned (.tuple #[.slice none 0 0, .string ⟨(o8 u).toArray⟩]) ∧ Below w.heap.size w w') := fmt8 u hu w h
  have h0 : ¬ (u : Int) < 0 := by omega
  have hw : IntKind.u64.wrap (u : Int) = u := wrap_u64 u (by omega)
  go_enter Tryz.func95, Tryz.ntmps95
  go_wp2_with fail
  refine HF.out.mono ?_
  rintro e w1 ⟨rfl, hb⟩
  go_wp2
  go_ret
  exact ⟨rfl, hb⟩
set_option maxRecDepth 20000 in
theorem fmtI8 (u : Nat) (hu : u < 65536) (w : World) (h : Db w) : Calls Tryz.prog 77 #[.int .i64 u, .int .i64 8] w fun e w' => e = .returned (.string ⟨(o8 u).toArray⟩) ∧ Below w.heap.size w w' := by
  have HF : Hid (Calls Tryz.prog 95 #[.int .i64 u, .int .i64 8] w fun e w' => e = .returned (.string ⟨(o8 u).toArray⟩) ∧ Below w.heap.size w w') := fmtInt8 u hu w h
  go_enter Tryz.func77, Tryz.ntmps77
  go_wp2_with fail
  refine HF.out.mono ?_
  rintro e w1 ⟨rfl, hb⟩
  go_wp2
  go_ret
  exact ⟨rfl, hb⟩
theorem o8_oct (m : Int) (h : okM m) : o8 m.toNat = octB m := by
  rcases h with rfl | rfl | rfl | rfl <;> decide +kernel
set_option maxRecDepth 20000 in
theorem modeText_any (m : Int) (hm : okM m) (w : World) (h : Db w) : Calls Tryz.prog 57 #[.int .i64 m] w fun e w' => e = .returned (.string ⟨(octB m).toArray⟩) ∧ Below w.heap.size w w' := by
  have hb : 0 ≤ m ∧ m < 65536 := by rcases hm with rfl | rfl | rfl | rfl <;> decide
  have HF : Hid (Calls Tryz.prog 77 #[.int .i64 m, .int .i64 8] w fun e w' => e = .returned (.string ⟨(octB m).toArray⟩) ∧ Below w.heap.size w w') := hid (by
    have := fmtI8 m.toNat (by omega) w h
    rw [o8_oct m hm, Int.toNat_of_nonneg hb.1] at this
    exact this)
  clear hm
  go_enter Tryz.func57, Tryz.ntmps57
  go_wp2_with fail
  refine HF.out.mono ?_
  rintro e w1 ⟨rfl, hb⟩
  go_wp2
  go_ret
  exact ⟨rfl, hb⟩
end Go.Proofs.YtikmbjfambjmaaaGreatDoor
namespace Go.Proofs.YtikmbjfambjmaaaGreatDoor
open Go.RowKit
set_option linter.unusedVariables false
set_option linter.unusedSimpArgs false
theorem str_add (x y : List UInt8) : (⟨x.toArray⟩ : ByteArray) ++ ⟨y.toArray⟩ = ⟨(x ++ y).toArray⟩ := by
  rw [ByteArray.mk_append_mk]
def Dl (n m : Nat) (s : List UInt8) : Prop := if m = 0 then s = Lib.decDigits n else Lib.decDigits n = Lib.decDigits m ++ s
theorem Dl.next {n m : Nat} {s : List UInt8} (h : Dl n m s) (hm : 0 < m) : Dl n (m / 10) (UInt8.ofNat (48 + m % 10) :: s) := by
  unfold Dl at h ⊢
  rw [if_neg (by omega)] at h
  by_cases h10 : m < 10
  · rw [if_pos (by omega), h, Lib.decDigits, dif_pos h10, Nat.mod_eq_of_lt h10]
    rfl
  · rw [if_neg (by omega), h]
    conv => lhs; rw [Lib.decDigits, dif_neg h10]
    simp
set_option maxRecDepth 20000 in
theorem decimal_any (n : Nat) (hn : n ≤ 400000) (w : World) : Calls Tryz.prog 19 #[.int .i64 n] w fun e w' => e = .returned (.string ⟨(Lib.decDigits n).toArray⟩) ∧ Below w.heap.size w w' := by
  by_cases h0 : n = 0
  · subst h0
    go_enter Tryz.func19, Tryz.ntmps19
    go_wp2
    go_ret
    exact ⟨by rw [Lib.decDigits]; rfl, Below.refl _ _⟩
  · have h0i : ¬ ((n : Int) == 0) = true := by simp; omega
    go_enter Tryz.func19, Tryz.ntmps19
    go_wp2_with fail
    go_loopg [0, 3] n (fun g v u wr => ∃ (m : Nat) (s : List UInt8) (S : ByteArray), v = .int .i64 m ∧ u = .string S ∧ g = m ∧ m ≤ 400000 ∧ S.size ≤ 6 ∧ Hid (m * 10 ^ S.size ≤ n) ∧ Hid (S = ⟨s.toArray⟩) ∧ Hid (Dl n m s) ∧ Hid (Below w.heap.size w wr))
    case atStart => exact ⟨n, [], ⟨#[]⟩, rfl, rfl, rfl, hn, by decide, hid (by show n * 10 ^ 0 ≤ n; omega), rfl, hid (by unfold Dl; rw [if_neg h0]; simp), hid (Below.refl _ _)⟩
    case round =>
      obtain ⟨m, s, S, rfl, rfl, hk, hm4, hS, HM, HS, HD, HB⟩ := hrel
      by_cases hm : 0 < m
      · have hmi : (0 : Int) < m := by omega
        obtain ⟨x, HX⟩ : ∃ x : UInt8, Hid (x = UInt8.ofNat (48 + m % 10)) := ⟨_, rfl⟩
        have hx : (48 : Int) + (m : Int) % 10 = (x.toNat : Int) := by
          rw [HX.out, UInt8.toNat_ofNat']
          omega
        have hcv : ∀ W : World, W.cell? ⟨wr.heap.size, 0, none⟩ = some (.int .u8 (x.toNat : Int)) → Sem.run Tryz.prog (convert 26 9 (.slice (some ⟨wr.heap.size, 0, none⟩) 1 1)) W = .ok (.string ⟨#[x]⟩) W := fun W hW => by
          refine run_convert_bytes_back W 26 9 5 ⟨wr.heap.size, 0, none⟩ 1 [x] Tryz.underlying26 Tryz.underlying5 Tryz.underlying9 ?_
          intro j hj
          have : j = 0 := by simpa using hj
          subst this
          simpa [Addr.add] using hW
        have hcv1 := hcv (wr.alloc (.cells #[.int .u8 (x.toNat : Int)] 5)) (by simp)
        have hSs : ¬ 9223372036854775807 < 1 + S.size := by omega
        have h1 : (⟨#[x]⟩ : ByteArray).size = 1 := rfl
        go_wp2
        have hS5 : S.size ≤ 5 := by
          rcases Nat.lt_or_ge S.size 6 with h | h
          · omega
          · have e : S.size = 6 := by omega
            have := HM.out
            rw [e] at this
            omega
        have hsz : ((⟨#[x]⟩ : ByteArray) ++ S).size = S.size + 1 := by rw [ByteArray.size_append, h1]; omega
        go_roundg (m / 10)
        case measure => omega
        case rel =>
          refine ⟨m / 10, x :: s, ⟨#[x]⟩ ++ S, by go_num, rfl, rfl, by omega, by omega, hid ?_, hid ?_, hid ?_, hid (HB.out.alloc HB.out.size _)⟩
          · rw [hsz, Nat.pow_succ]
            have := HM.out
            have h2 : m / 10 * (10 ^ S.size * 10) = m / 10 * 10 * 10 ^ S.size := by rw [Nat.mul_assoc (m / 10), Nat.mul_comm 10]
            rw [h2]
            exact Nat.le_trans (Nat.mul_le_mul_right _ (by omega)) this
          · rw [HS.out, show (⟨#[x]⟩ : ByteArray) = ⟨[x].toArray⟩ from rfl]
            exact str_add _ _
          · rw [HX.out]
            exact HD.out.next hm
      · have hmi : ¬ (0 : Int) < m := by omega
        go_wp2
        go_ret
        refine ⟨?_, HB.out⟩
        have := HD.out
        unfold Dl at this
        rw [if_pos (by omega)] at this
        rw [← this, ← HS.out]; rfl
end Go.Proofs.YtikmbjfambjmaaaGreatDoor
namespace Go.Proofs.YtikmbjfambjmaaaGreatDoor
open Go.RowKit
set_option linter.unusedVariables false
set_option linter.unusedSimpArgs false
structure Bd (w0 w : World) (B : Nat) (v : Value) (out : List Int) : Prop where
  below : Below B w0 w
  own : w.ownsRow B 5 1 v out.length (out.map (Value.int .u8))
  le : B ≤ w.heap.size
theorem Bd.alloc {w0 w : World} {B : Nat} {v : Value} {out : List Int} (h : Bd w0 w B v out) (o : Obj) : Bd w0 (w.alloc o) B v out :=
  ⟨h.below.alloc h.le o, h.own.alloc o, Nat.le_trans h.le (by simp)⟩
theorem bd_nil (w : World) (B : Nat) (h : B ≤ w.heap.size) : Bd w w B (.slice none 0 0) [] := ⟨Below.refl _ _, ⟨rfl, .inl ⟨rfl, rfl⟩⟩, h⟩
theorem sl_one (w : World) (c : Int) : Sl (w.alloc (.cells #[.int .u8 c] 5)) (some ⟨w.heap.size, 0, none⟩) 1 [c] :=
  ⟨by simp, fun _ => ⟨w.heap.size, 0, rfl, by simp, fun i hi => by
    have : i = 0 := by simpa using hi
    subst this
    simp⟩, fun h => by cases h⟩
theorem strCells_nums (l : List UInt8) : Lib.strCells ⟨l.toArray⟩ = (nums l).map (Value.int .u8) := by simp [Lib.strCells, nums]
section
variable {w w0 : World} {ops : Array Oper} {rest : List Oper} {o : Oper} {a : Act} {Q : Exit → Act → World → Prop}
theorem wpList_bd_str (hgd : o.guard = none) (s x : Operand) (ho : o.op = .call { callee := .builtin .append, args := #[s, x], argTypes := #[26, 9] }) (B : Nat) (v : Value) (out : List Int) (hs : a.eval s = v) (h : Bd w0 w B v out)
    (l : List UInt8) (hx : a.eval x = .string ⟨l.toArray⟩) (hl : out.length + l.length ≤ 1000000)
    (hK : ∀ v' w', Bd w0 w' B v' (out ++ nums l) → wpList Tryz.prog ops Q rest (a.put o.dst v') w') : wpList Tryz.prog ops Q (o :: rest) a w := by
  obtain ⟨i5, hi, hz0, hz1, hz2⟩ := info_parts Tryz.info5
  have hsz : (⟨l.toArray⟩ : ByteArray).size = l.length := by simp [ByteArray.size]
  refine Lib.wpList_append_own_string w hgd s x 26 9 ho B 5 i5 Tryz.underlying26 Tryz.underlying9 hi hz0 hz1 hz2 v out.length _ hs h.own ⟨l.toArray⟩ hx (by rw [hsz]; unfold maxLen; omega) (by rw [hsz]; omega) h.le ?_
  intro v' w' h1 h2 h3
  refine hK v' w' ⟨h.below.grown h2 h.le (fun k hk => (own_lt h.own k hk).1), ?_, Nat.le_trans h.le h2.size⟩
  rw [List.length_append, nums_len, List.map_append, ← strCells_nums]
  rw [hsz] at h1
  exact h1
theorem wpList_bd_sl (hgd : o.guard = none) (s x : Operand) (ho : o.op = .call { callee := .builtin .append, args := #[s, x], argTypes := #[26, 26] }) (B : Nat) (v : Value) (out : List Int) (hs : a.eval s = v) (h : Bd w0 w B v out)
    (ax : Option Addr) (cx : Nat) (l : List Int) (hx : a.eval x = .slice ax l.length cx) (hS : Sl w ax cx l) (hl : out.length + l.length ≤ 1000000)
    (hK : ∀ v' w', Bd w0 w' B v' (out ++ l) → wpList Tryz.prog ops Q rest (a.put o.dst v') w') : wpList Tryz.prog ops Q (o :: rest) a w := by
  obtain ⟨i5, hi, hz0, hz1, hz2⟩ := info_parts Tryz.info5
  cases ax with
  | none =>
    have hc : cx = 0 := hS.nil rfl
    have hcl := hS.capl
    obtain rfl : l = [] := List.length_eq_zero_iff.1 (by omega)
    subst hc
    refine wpList_plain hgd fun K hK' => ?_
    have hr := run_append_owned_none (P := Tryz.prog) w B 26 o.type 5 i5 1 Tryz.underlying26 hi v _ _ h.own
    unfold Oper.wp execOp
    simp only [List.length_nil] at hx
    simp only [ho, resolve, invoke, builtin, Sem.run_bind, Sem.run_pure, Result.andThen_ok, List.map_toArray, List.map_cons, List.map_nil, hs, hx, hr]
    exact hK' _ _ (hK v w (by simpa using h))
  | some ad =>
    refine wpList_append_own_at w hgd s x 26 ho B 5 i5 (.int .u8 0) 1 1 Tryz.underlying26 hi hz0 hz1 hz2 rfl (by decide) v _ _ hs h.own ad l.length cx (l.map (Value.int .u8)) hx (by simp) ?_ (ints_oneCell .u8 l) (by unfold maxLen; omega) (by omega) h.le ?_
    · intro j z hj
      rw [List.getElem?_map] at hj
      cases hc : l[j]? with
      | none => rw [hc] at hj; cases hj
      | some y =>
        rw [hc] at hj; cases hj
        have hlt := (List.getElem?_eq_some_iff.1 hc).1
        obtain ⟨b, off, e1, e2, e3⟩ := hS.at_ (by omega)
        cases e1
        have := e3 j hlt
        rw [addr_add]
        simpa [List.getD_eq_getElem?_getD, hc] using this
    · intro v' w' h1 h2 h3 h4
      refine hK v' w' ⟨h.below.grown h2 h.le (fun k hk => (own_lt h.own k hk).1), ?_, Nat.le_trans h.le h2.size⟩
      rw [List.length_append, List.map_append]
      exact h1
end
end Go.Proofs.YtikmbjfambjmaaaGreatDoor
namespace Go.Proofs.YtikmbjfambjmaaaGreatDoor
open Go.RowKit
set_option linter.unusedVariables false
set_option linter.unusedSimpArgs false
def PostR (k : Int) (zs : List Int) (w : World) (e : Ending) (w' : World) : Prop :=
  Below w.heap.size w w' ∧ ((errE k zs.length ≠ 0 ∧ e = .returned (.tuple #[.slice none 0 0, .int .i64 (errE k zs.length)])) ∨
    (errE k zs.length = 0 ∧ ∃ g cap' : Nat, e = .returned (.tuple #[.slice (some ⟨g, 0, none⟩) (encZ k zs).length cap', .int .i64 0]) ∧ w.heap.size ≤ g ∧ g < w'.heap.size ∧ At w' g 0 (encZ k zs) ∧ (encZ k zs).length ≤ cap'))
theorem Bd.carry {w0 w w' : World} {B : Nat} {v : Value} {out : List Int} (h : Bd w0 w B v out) (hb : Below w.heap.size w w') : Bd w0 w' B v out :=
  ⟨h.below.trans (hb.mono h.le), h.own.kept (row := none) ⟨hb.os, hb.tape, hb.output, hb.size, fun k hk _ => hb.block k hk⟩ (by cases h : v.ownBlock <;> simp), Nat.le_trans h.le hb.size⟩
theorem bd_form {w0 w : World} {B : Nat} {v : Value} {out : List Int} (h : Bd w0 w B v out) (h0 : 0 < out.length) : ∃ g cap, v = .slice (some ⟨g, 0, none⟩) out.length cap ∧ B ≤ g ∧ g < w.heap.size ∧ At w g 0 out ∧ out.length ≤ cap := by
  obtain ⟨g, cap, rfl, h1, h2⟩ := h.own.form h0
  refine ⟨g, cap, rfl, h1, h2, ?_, ?_⟩
  · intro i hi
    rw [Nat.zero_add, h.own.cellAt i (by simpa using hi), List.getElem?_map, List.getElem?_eq_getElem hi]
    simp [List.getD_eq_getElem?_getD, List.getElem?_eq_getElem hi]
  · obtain ⟨_, ⟨hv, _⟩ | ⟨g2, cap2, cur, hv, _, _, hnc, _⟩⟩ := h.own
    · cases hv
    · simp only [Value.slice.injEq] at hv
      omega
theorem errE_20 (k : Int) (n : Nat) (h : (kN k).toList.isEmpty = true) : errE k n = 20 := by unfold errE; rw [if_pos h]
theorem errE_11 (k : Int) (n : Nat) (h : ¬ (kN k).toList.isEmpty = true) (h2 : 100000 < n) : errE k n = 11 := by unfold errE; rw [if_neg h, if_pos h2]
theorem errE_0 (k : Int) (n : Nat) (h : ¬ (kN k).toList.isEmpty = true) (h2 : ¬ 100000 < n) : errE k n = 0 := by unfold errE; rw [if_neg h, if_neg h2]
set_option maxRecDepth 20000 in
set_option maxHeartbeats 2000000 in
theorem refEncode_any (k : Int) (a : Option Addr) (cap : Nat) (zs : List Int) (w : World) (hl : zs.length ≤ 300000) (hS : Sl w a cap zs) :
    Calls Tryz.prog 11 #[.agg #[.int .i64 k, .slice a zs.length cap]] w (PostR k zs w) := by
  obtain ⟨n, HN⟩ : ∃ n, Hid (zs.length = n) := ⟨_, rfl⟩
  obtain ⟨S, HSS⟩ : ∃ S : ByteArray, Hid (kN k = S) := ⟨_, rfl⟩
  have HK : Hid (∀ w, Calls Tryz.prog 18 #[.int .i64 k] w fun e w' => e = .returned (.string S) ∧ w' = w) := fun w => by rw [← HSS.out]; exact name_any k w
  have hln : n ≤ 300000 := by rw [← HN.out]; exact hl
  obtain ⟨G, HG⟩ : ∃ G, Hid (w.heap.size = G) := ⟨_, rfl⟩
  obtain ⟨w0, HW0⟩ : ∃ w0, Hid (w.alloc (.cells #[.int .i64 k, .slice a n cap] 35) = w0) := ⟨_, rfl⟩
  have HB0 : Hid (Below G w w0) := hid (by rw [← HW0.out, ← HG.out]; exact (Below.refl _ w).alloc (Nat.le_refl _) _)
  have hs0 : w0.heap.size = G + 1 := by rw [← HW0.out, ← HG.out]; simp
  have hc0 : w0.cell? ⟨G, 0, none⟩ = some (.int .i64 k) := by rw [← HW0.out, ← HG.out]; simp
  have hc1 : w0.cell? ⟨G, 1, none⟩ = some (.slice a n cap) := by rw [← HW0.out, ← HG.out]; simp
  rw [HN.out]
  by_cases he : S.toList.isEmpty = true
  · have hE : errE k zs.length = 20 := errE_20 k _ (by rw [HSS.out]; exact he)
    go_enter Tryz.func11, Tryz.ntmps11
    go_wp2_with fail
    rw [HG.out, HW0.out]
    refine (HK.out _).mono ?_
    rintro ev w' ⟨rfl, rfl⟩
    go_wp2
    go_ret2
    refine ⟨by rw [HG.out]; exact HB0.out, .inl ⟨by rw [hE]; decide, ?_⟩⟩
    rw [hE]
    rfl
  · by_cases h2 : 100000 < n
    · have hE : errE k zs.length = 11 := errE_11 k _ (by rw [HSS.out]; exact he) (by rw [HN.out]; exact h2)
      have h2i : (100000 : Int) < n := by omega
      go_enter Tryz.func11, Tryz.ntmps11
      go_wp2_with fail
      rw [HG.out, HW0.out]
      refine (HK.out _).mono ?_
      rintro ev w' ⟨rfl, rfl⟩
      go_wp2
      go_ret2
      refine ⟨by rw [HG.out]; exact HB0.out, .inl ⟨by rw [hE]; decide, ?_⟩⟩
      rw [hE]
      rfl
    · have hE : errE k zs.length = 0 := errE_0 k _ (by rw [HSS.out]; exact he) (by rw [HN.out]; exact h2)
      have h2i : ¬ (100000 : Int) < n := by omega
      obtain ⟨L1, HL1⟩ : ∃ L1 : List UInt8, Hid (L1 = (kN k).data.toList) := ⟨_, rfl⟩
      have hL1 : L1.length ≤ 6 := by rw [HL1.out]; exact kN_len k
      have hSL : S = ⟨L1.toArray⟩ := by rw [HL1.out, ← HSS.out]
      have hL1e : L1.isEmpty = false := by
        have h := he
        rw [hSL, Lib.toList_data] at h
        simpa using h
      obtain ⟨L2, HL2⟩ : ∃ L2 : List UInt8, Hid (L2 = Lib.decDigits n) := ⟨_, rfl⟩
      have hL2 : L2.length ≤ 6 := by rw [HL2.out]; exact dig_len 5 n (by omega)
      have HD : Hid (∀ w, Calls Tryz.prog 19 #[.int .i64 n] w fun e w' => e = .returned (.string ⟨L2.toArray⟩) ∧ Below w.heap.size w w') := fun w => by rw [HL2.out]; exact decimal_any n (by omega) w
      have HSl : Hid (∀ W, Below G w W → Sl W a cap zs) := fun W hW => hS.below (by rw [HG.out]; exact hW)
      clear hS
      go_enter Tryz.func11, Tryz.ntmps11
      go_wp2_with fail
      rw [HG.out, HW0.out]
      refine (HK.out _).mono ?_
      rintro ev w' ⟨rfl, rfl⟩
      have hbd0 : Bd w' w' (G + 1) (.slice none 0 0) [] := bd_nil w' (G + 1) (by omega)
      have HC : Hid (∀ W, Below (G + 1) w' W → W.cell? ⟨G, 1, none⟩ = some (.slice a n cap)) := fun W hW => (hW.cell (p := ⟨G, 1, none⟩) (show G < G + 1 by omega)).trans hc1
      go_wp2_with (first
        | (at_builtin; refine wpList_bd_str rfl _ _ rfl (G + 1) _ _ rfl hbd0 L1 rfl (by simp; omega) ?_; intro v1 w1 hbd1; clear hbd0)
        | (at_builtin; refine wpList_bd_sl rfl _ _ rfl (G + 1) _ _ rfl (hbd1.alloc _) _ _ [32] rfl (sl_one _ _) (by simp [nums_len]; omega) ?_; intro v2 w2 hbd2; clear hbd1; have hcw2 := HC.out w2 hbd2.below)
        | (go_at_call 19; refine (HD.out _).mono ?_; rintro ev w3 ⟨rfl, hb3⟩; have hbd3 := hbd2.carry hb3; clear hbd2 hb3 hcw2)
        | (at_builtin; refine wpList_bd_str rfl _ _ rfl (G + 1) _ _ rfl hbd3 L2 rfl (by simp [nums_len]; omega) ?_; intro v4 w4 hbd4; clear hbd3)
        | (at_builtin; refine wpList_bd_sl rfl _ _ rfl (G + 1) _ _ rfl (hbd4.alloc _) _ _ [0] rfl (sl_one _ _) (by simp [nums_len]; omega) ?_; intro v5 w5 hbd5; clear hbd4; have hcw5 := HC.out w5 hbd5.below)
        | (at_builtin; refine wpList_bd_sl rfl _ _ rfl (G + 1) _ _ rfl hbd5 a cap zs (by rw [HN.out]; rfl) (HSl.out _ (HB0.out.trans (hbd5.below.mono (by omega)))) (by simp [nums_len]; omega) ?_; intro v6 w6 hbd6; clear hbd5 hcw5))
      go_ret2
      have hout : [] ++ nums L1 ++ [32] ++ nums L2 ++ [0] ++ zs = encZ k zs := by
        unfold encZ hd h0
        rw [HN.out, ← HL1.out, ← HL2.out]
        simp [nums]
      rw [hout] at hbd6
      obtain ⟨g, c6, rfl, h1, h3, h4, h5⟩ := bd_form hbd6 (by rw [← hout]; simp; omega)
      exact ⟨by rw [HG.out]; exact HB0.out.trans (hbd6.below.mono (by omega)), .inr ⟨hE, g, c6, rfl, by rw [HG.out]; omega, h3, h4, h5⟩⟩
end Go.Proofs.YtikmbjfambjmaaaGreatDoor
