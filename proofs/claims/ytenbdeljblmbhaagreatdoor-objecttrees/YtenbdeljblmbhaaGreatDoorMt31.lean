import Derived.Test.YtenbdeljblmbhaaGreatDoorMt23
import Derived.Test.YtenbdeljblmbhaaGreatDoorMt25
import Derived.Laws.BitsAllLaws
/- The document's tree: names. -/
namespace Go.Proofs.YtenbdeljblmbhaaGreatDoor
open Go.RowKit
set_option linter.unusedVariables false
set_option linter.unusedSimpArgs false
def badE (c : Int) : Prop := c = 0 ∨ c = 47
theorem badE_iff (x : UInt8) : ¬ badE (x.toNat : Int) ↔ (x ≠ 47 ∧ x ≠ 0) := by
  unfold badE
  constructor
  · intro h
    exact ⟨fun e => h (by rw [e]; right; rfl), fun e => h (by rw [e]; left; rfl)⟩
  · rintro ⟨h1, h2⟩ (h | h)
    · exact h2 (UInt8.toNat_inj.1 (by simpa using h))
    · exact h1 (UInt8.toNat_inj.1 (by show x.toNat = 47; omega))
set_option maxRecDepth 20000 in
theorem isName_any (s : List UInt8) (w : World) : Calls Tryz.prog 48 #[.string ⟨s.toArray⟩] w fun e w' => BIs (okE s) e ∧ w' = w := by
  by_cases hbad : s = [] ∨ s = [46] ∨ s = [46, 46] ∨ s = [46, 103, 105, 116]
  · have HOK : Hid (¬ okE s) := hid (by
      rintro ⟨h1, _, h3, h4, h5, _⟩
      rcases hbad with h | h | h | h
      · rw [h] at h1; exact absurd h1 (by decide)
      · exact h3 h
      · exact h4 h
      · exact h5 h)
    rcases hbad with rfl | rfl | rfl | rfl
    all_goals
      go_enter Tryz.func48, Tryz.ntmps48
      go_wp2
      go_ret
      exact ⟨bis_false HOK.out, rfl⟩
  · obtain ⟨S, HS⟩ : ∃ S : ByteArray, Hid (S = ⟨s.toArray⟩) := ⟨_, rfl⟩
    obtain ⟨n, HN⟩ : ∃ n, Hid (s.length = n) := ⟨_, rfl⟩
    have hsz : S.size = n := by rw [HS.out, ← HN.out]; simp [ByteArray.size]
    have n0 : s ≠ [] := fun h => hbad (Or.inl h)
    have n1 : s ≠ [46] := fun h => hbad (Or.inr (Or.inl h))
    have n2 : s ≠ [46, 46] := fun h => hbad (Or.inr (Or.inr (Or.inl h)))
    have n3 : s ≠ [46, 103, 105, 116] := fun h => hbad (Or.inr (Or.inr (Or.inr h)))
    have eS : S.toList = s := by rw [HS.out, Lib.toList_data]
    have e1 : (S.toList == [46]) = false := by rw [eS]; simpa using n1
    have e2 : (S.toList == [46, 46]) = false := by rw [eS]; simpa using n2
    have e3 : (S.toList == [46, 103, 105, 116]) = false := by rw [eS]; simpa using n3
    clear eS
    have hn1 : 1 ≤ n := by
      rw [← HN.out]
      rcases s with _ | ⟨x, s⟩
      · exact absurd rfl n0
      · simp
    have HQ : Hid (s ≠ [46] ∧ s ≠ [46, 46] ∧ s ≠ [46, 103, 105, 116]) := ⟨n1, n2, n3⟩
    have hi1 : ¬ (n : Int) < 1 := by omega
    rw [← HS.out]
    clear n0 n1 n2 n3 hbad
    by_cases h : n ≤ 50
    · have hi : ¬ (50 : Int) < (n : Int) := by omega
      go_enter Tryz.func48, Tryz.ntmps48
      go_wp2
      go_loopg [3] n (fun g i wr => ∃ j : Nat, j ≤ n ∧ g = n - j ∧ i = .int .i64 j ∧ Hid (∀ x ∈ s.take j, ¬ badE (x.toNat : Int)) ∧ Hid (wr = w))
      case atStart => exact ⟨0, by omega, rfl, rfl, hid (by simp), hid rfl⟩
      case round =>
        obtain ⟨j, hj, hk, rfl, HT, HW⟩ := hrel
        by_cases hlt : j < n
        · have hlti : (j : Int) < (n : Int) := by omega
          obtain ⟨x, hx⟩ : ∃ x, s[j]? = some x := ⟨_, List.getElem?_eq_getElem (by rw [HN.out]; exact hlt)⟩
          obtain ⟨c, HC⟩ : ∃ c, Hid ((x.toNat : Int) = c) := ⟨_, rfl⟩
          have HX : Hid (s[j]? = some x) := hx
          have hix : ∀ w1 : World, (Instr.index 9 (.string S) (.int .i64 j)).run Tryz.prog w1 = .ok (.int .u8 c) w1 := fun w1 => by rw [HS.out, ← HC.out]; exact index_txt s j w1 x HX.out
          clear hx
          by_cases hc : badE c
          · have HM : Hid (¬ okE s) := fun ht => (badE_iff x).2 (ht.2.2.2.2.2 x (List.mem_of_getElem? HX.out)) (by rw [HC.out]; exact hc)
            clear HC
            rcases hc with rfl | rfl
            all_goals
              go_wp2
              go_ret
              exact ⟨bis_false HM.out, HW.out⟩
          · have HBD : Hid (¬ badE c) := hc
            have b1 : (c == 0) = false := by simp; exact fun e => hc (.inl e)
            have b2 : (c == 47) = false := by simp; exact fun e => hc (.inr e)
            clear hc
            go_wp2
            go_roundg (n - (j + 1))
            case measure => omega
            case rel =>
              refine ⟨j + 1, by omega, rfl, by go_num, hid ?_, HW⟩
              rw [take_snoc8 s j x HX.out]
              intro y hy
              rcases List.mem_append.1 hy with hy | hy
              · exact HT.out y hy
              · have : y = x := by simpa using hy
                subst this
                rw [HC.out]
                exact HBD.out
        · have hlti : ¬ (j : Int) < (n : Int) := by omega
          have HOK : Hid (okE s) := hid (by
            have h1 := HT.out
            rw [List.take_of_length_le (by rw [HN.out]; omega)] at h1
            exact ⟨by rw [HN.out]; exact hn1, by rw [HN.out]; exact h, HQ.out.1, HQ.out.2.1, HQ.out.2.2, fun x hx => (badE_iff x).1 (h1 x hx)⟩)
          go_wp2
          go_ret
          exact ⟨bis_true HOK.out, HW.out⟩
    · have hi : (50 : Int) < (n : Int) := by omega
      have HOK : Hid (¬ okE s) := fun h2 => h (by rw [← HN.out]; exact h2.2.1)
      clear h
      go_enter Tryz.func48, Tryz.ntmps48
      go_wp2
      go_ret
      exact ⟨bis_false HOK.out, rfl⟩
end Go.Proofs.YtenbdeljblmbhaaGreatDoor
/- 'strconv.FormatInt' in octal digits. -/
namespace Go.Proofs.YtenbdeljblmbhaaGreatDoor
open Go.RowKit
set_option linter.unusedVariables false
set_option linter.unusedSimpArgs false
/-- The one cell of the library's table that is read here. -/
structure Db (w : World) : Prop where
  c7 : w.cell? ⟨4, 7, none⟩ = some (.int .u8 3)
theorem Db.below {w w' : World} (h : Db w) (hb : Below w.heap.size w w') : Db w' := ⟨(hb.cell (p := ⟨4, 7, none⟩) (cell_lt h.c7)).trans h.c7⟩
theorem pow2_8 (w : World) : Calls Tryz.prog 205 #[.int .i64 8] w fun e w' => e = .returned (.bool true) ∧ w' = w := by
  go_enter Tryz.func205, Tryz.ntmps205
  go_wp2
  go_ret
  exact ⟨rfl, rfl⟩
theorem tz64_8 (w : World) (h : Db w) : Calls Tryz.prog 221 #[.int .u64 8] w fun e w' => e = .returned (.int .i64 3) ∧ w' = w := by
  have c := h.c7
  have e1 : bits BinOp.and IntKind.u64 8 (IntKind.u64.wrap (-8)) = 8 := by kernel_rfl
  have e2 : IntKind.u64.wrap (8 * 285870213051353865) / 288230376151711744 = 7 := by kernel_rfl
  have e3 : IntKind.u64.wrap 2286961704410830920 / 288230376151711744 = 7 := by kernel_rfl
  go_enter Tryz.func221, Tryz.ntmps221
  go_wp2
  go_ret
  exact ⟨rfl, rfl⟩
theorem tz_8 (w : World) (h : Db w) : Calls Tryz.prog 206 #[.int .u64 8] w fun e w' => e = .returned (.int .i64 3) ∧ w' = w := by
  go_enter Tryz.func206, Tryz.ntmps206
  go_wp2_with (go_at_call 221; refine (tz64_8 _ h).mono ?_; rintro ev w1 ⟨rfl, rfl⟩)
  go_ret
  exact ⟨rfl, rfl⟩
/-- In octal digits. -/
def o8 (n : Nat) : List UInt8 := if h : n < 8 then [UInt8.ofNat (48 + n)] else o8 (n / 8) ++ [UInt8.ofNat (48 + n % 8)]
termination_by n
theorem o8_small (n : Nat) (h : n < 8) : o8 n = [UInt8.ofNat (48 + n)] := by rw [o8, dif_pos h]
theorem o8_big (n : Nat) (h : ¬ n < 8) : o8 n = o8 (n / 8) ++ [UInt8.ofNat (48 + n % 8)] := by rw [o8, dif_neg h]
theorem o8_pos (n : Nat) : 1 ≤ (o8 n).length := by
  by_cases h : n < 8
  · rw [o8_small n h]; simp
  · rw [o8_big n h]; simp
theorem o8_len : ∀ (k n : Nat), n < 8 ^ (k + 1) → (o8 n).length ≤ k + 1
  | 0, n, h => by rw [o8_small n (by simpa using h)]; simp
  | k + 1, n, h => by
    by_cases h8 : n < 8
    · rw [o8_small n h8]; simp
    · rw [o8_big n h8, List.length_append]
      have := o8_len k (n / 8) (by rw [Nat.pow_succ] at h; exact Nat.div_lt_of_lt_mul (by rw [Nat.mul_comm]; exact h))
      simp; omega
def dg : ByteArray := ⟨#[48, 49, 50, 51, 52, 53, 54, 55, 56, 57, 97, 98, 99, 100, 101, 102, 103, 104, 105, 106, 107, 108, 109, 110, 111, 112, 113, 114, 115, 116, 117, 118, 119, 120, 121, 122]⟩
theorem dig_at (d : Nat) (h : d < 8) (w : World) : (Instr.index 9 (.string dg) (.int .u64 d)).run Tryz.prog w = .ok (.int .u8 (48 + d : Nat)) w := by
  match d, h with
  | 0, _ => show _ = _; kernel_rfl
  | 1, _ => show _ = _; kernel_rfl
  | 2, _ => show _ = _; kernel_rfl
  | 3, _ => show _ = _; kernel_rfl
  | 4, _ => show _ = _; kernel_rfl
  | 5, _ => show _ = _; kernel_rfl
  | 6, _ => show _ = _; kernel_rfl
  | 7, _ => show _ = _; kernel_rfl
theorem and7 (v : Nat) (h : v < 65536) : bits BinOp.and IntKind.u64 (v : Int) 7 = ((v % 8 : Nat) : Int) := by
  have := u64_and_nat v 7 (by omega) (by omega)
  rw [nat_mask3] at this
  exact this
/-- The digits' row: the last ones are there. -/
def z8 (i : Nat) (ds : List UInt8) : List Int := List.replicate i 0 ++ ds.map fun b => (b.toNat : Int)
theorem z8_set (i : Nat) (ds : List UInt8) (b : UInt8) : (z8 (i + 1) ds).set i (b.toNat : Int) = z8 i (b :: ds) := by
  unfold z8
  rw [List.replicate_succ', List.append_assoc, List.set_append_right _ _ (by simp)]
  simp
theorem z8_len (i : Nat) (ds : List UInt8) : (z8 i ds).length = i + ds.length := by simp [z8]
theorem zero279 : Tryz.zeroCells279 = (row .u8 (z8 65 [])).toArray := by kernel_rfl
theorem str_nums (l : List UInt8) : strOfNums (l.map fun b => (b.toNat : Int)) = ⟨l.toArray⟩ := by
  unfold strOfNums
  rw [List.map_map, show ((fun n : Int => UInt8.ofNat n.toNat) ∘ fun b : UInt8 => (b.toNat : Int)) = id from funext fun b => by simp, List.map_id]
/-- The digits' block. -/
structure D8 (w : World) (g i : Nat) (ds : List UInt8) (W : World) : Prop where
  box : W.heap[g]? = some (.cells (row .u8 (z8 i ds)).toArray 279 (0, 0))
  bel : Below g w W
theorem D8.step {w : World} {g i : Nat} {ds : List UInt8} {W : World} (h : D8 w g (i + 1) ds W) (b : UInt8) : D8 w g i (b :: ds) (W.setCell ⟨g, i, none⟩ (.int .u8 b.toNat)) := by
  refine ⟨?_, h.bel.setCell (p := ⟨g, i, none⟩) (Nat.le_refl _) _⟩
  rw [heap_setCell_same W g i _ 279 _ h.box, row_set, z8_set]
set_option maxRecDepth 20000 in
theorem fmt8 (u : Nat) (hu : u < 65536) (w : World) (h : Db w) : Calls Tryz.prog 171 #[.slice none 0 0, .int .u64 u, .int .i64 8, .bool false, .bool false] w fun e w' => e = .returned (.tuple #[.slice none 0 0, .string ⟨(o8 u).toArray⟩]) ∧ Below w.heap.size w w' := by
  have HT : Hid (∀ W, Below w.heap.size w W → Calls Tryz.prog 206 #[.int .u64 8] W fun e w' => e = .returned (.int .i64 3) ∧ w' = W) := fun W hW => tz_8 W (h.below hW)
  obtain ⟨g, HG⟩ : ∃ g, Hid (w.heap.size = g) := ⟨_, rfl⟩
  have HD0 : Hid (D8 w g 65 [] (w.alloc (.cells Tryz.zeroCells279 279))) := hid (by
    rw [← HG.out, zero279]
    exact ⟨heap_alloc_new w _, (Below.refl _ w).alloc (Nat.le_refl _) _⟩)
  have HU6 : Hid ((o8 u).length ≤ 6) := hid (o8_len 5 u (by omega))
  go_enter Tryz.func171, Tryz.ntmps171
  go_wp2_with (go_at_call 205; refine (pow2_8 _).mono ?_; rintro ev w1 ⟨rfl, rfl⟩)
  have HW1 : Hid (Below w.heap.size w (w.alloc (.cells Tryz.zeroCells279 279))) := (Below.refl _ w).alloc (Nat.le_refl _) _
  refine (HT.out _ HW1.out).mono ?_
  rintro ev w1 ⟨rfl, hw1⟩
  subst hw1
  go_wp2_with fail
  rw [HG.out]
  clear HW1
  obtain ⟨w0, HW0⟩ : ∃ w0, Hid (w.alloc (.cells Tryz.zeroCells279 279) = w0) := ⟨_, rfl⟩
  rw [HW0.out] at HD0 ⊢
  go_loopg [1, 13] u (fun m uv iv wr => ∃ (v i : Nat) (ds : List UInt8), Hid (v = m) ∧ v ≤ u ∧ uv = .int .u64 v ∧ iv = .int .i64 i ∧ i + ds.length = 65 ∧ Hid (o8 v ++ ds = o8 u) ∧ Hid (D8 w g i ds wr))
  case atStart => exact ⟨u, 65, [], hid rfl, Nat.le_refl _, rfl, rfl, rfl, hid (by simp), HD0⟩
  case round =>
    obtain ⟨v, i, ds, hvm, hvu, rfl, rfl, hil, HE, HD⟩ := hrel
    have hlen : ds.length ≤ 5 := by
      have h1 := congrArg List.length HE.out
      rw [List.length_append] at h1
      have := o8_pos v
      have := HU6.out
      omega
    obtain ⟨j, hj⟩ : ∃ j, i = j + 1 := ⟨i - 1, by omega⟩
    subst hj
    have hjl : j < 65 := by omega
    have hji : (j : Int) < 65 := by omega
    have hjs : (j : Int) + 1 - 1 = j := by omega
    have kj : wr.cell? ⟨g, j, none⟩ = some (.int .u8 ((z8 (j + 1) ds).getD j 0)) := row_cell HD.out.box j (by rw [z8_len]; omega)
    have fj : wr.frozen? ⟨g, j, none⟩ = false := by
      have := HD.out.box
      simp [World.frozen?, this]
    by_cases hv : v < 8
    · have hvi : ¬ (8 : Int) ≤ (v : Int) := by omega
      have hdx := fun w => dig_at v hv w
      unfold dg at hdx
      obtain ⟨W2, HW2⟩ : ∃ W2, Hid (wr.setCell ⟨g, j, none⟩ (.int .u8 (48 + v : Nat)) = W2) := ⟨_, rfl⟩
      have HDS : Hid (D8 w g j (UInt8.ofNat (48 + v) :: ds) W2) := hid (by
        have := HD.out.step (UInt8.ofNat (48 + v))
        rwa [show (UInt8.ofNat (48 + v)).toNat = 48 + v by rw [UInt8.toNat_ofNat']; omega, HW2.out] at this)
      have HES : Hid (UInt8.ofNat (48 + v) :: ds = o8 u) := hid (by rw [← HE.out, o8_small v hv]; rfl)
      obtain ⟨n, HNN⟩ : ∃ n, Hid (65 - j = n) := ⟨_, rfl⟩
      have hn1 : (65 : Int) - j = n := by have := HNN.out; omega
      have hn2 : 65 - j = n := HNN.out
      have HCV : Hid (∀ dst, Tryz.prog.underlying dst = some .string → (convert 23 dst (.slice (some ⟨g, j, none⟩) n n)).run Tryz.prog W2 = .ok (.string (strOfNums ((o8 u).map fun b => (b.toNat : Int)))) W2) := hid (by
        rw [← HES.out]
        refine run_convert_bytes_arg W2 23 5 Tryz.underlying23 Tryz.underlying5 g j n n _ (by simp; have := HNN.out; omega) fun i hi => ?_
        rw [row_cell HDS.out.box (j + i) (by rw [z8_len]; simp; have := HNN.out; omega)]
        simp [z8, List.getD_eq_getElem?_getD, List.getElem?_append_right])
      have hj0 : (0 : Int) ≤ (j : Int) := by omega
      have hj65 : (j : Int) ≤ 65 := by omega
      have hjne : ¬ (65 : Nat) = j := by omega
      have hsl : ∀ w, (Instr.sliceAt 279 (.pointer (some ⟨g, 0, none⟩)) (some (.int .i64 j)) none none).run Tryz.prog w = .ok (.slice (some ⟨g, j, none⟩) n n) w := fun w => by
        go_simp
      have HW3 : Hid (wr.setCell ⟨g, j, none⟩ (.int .u8 (48 + (v : Int))) = W2) := hid (by rw [← HW2.out]; push_cast; rfl)
      have HTE : Hid (strOfNums ((o8 u).map fun b => (b.toNat : Int)) = ⟨(o8 u).toArray⟩) := hid (str_nums _)
      have hcv := HCV.out 9 Tryz.underlying9
      rw [HTE.out] at hcv
      have HBL : Hid (Below g w W2) := HDS.out.bel
      obtain ⟨T, HTT⟩ : ∃ T : ByteArray, Hid ((⟨(o8 u).toArray⟩ : ByteArray) = T) := ⟨_, rfl⟩
      rw [HTT.out] at hcv
      have hcv2 : (convert 23 9 (.slice (some ⟨g, j, none⟩) n n)).run Tryz.prog (wr.setCell ⟨g, j, none⟩ (.int .u8 (48 + (v : Int)))) = .ok (.string T) (wr.setCell ⟨g, j, none⟩ (.int .u8 (48 + (v : Int)))) := by rw [HW3.out]; exact hcv
      have HB3 : Hid (Below g w (wr.setCell ⟨g, j, none⟩ (.int .u8 (48 + (v : Int))))) := hid (by rw [HW3.out]; exact HBL.out)
      clear hcv
      go_wp2
      go_ret2
      exact ⟨by rw [HTT.out]; rfl, by rw [HG.out]; exact HB3.out⟩
    · have hvi : (8 : Int) ≤ (v : Int) := by omega
      obtain ⟨d, Hd⟩ : ∃ d, Hid (v % 8 = d) := ⟨_, rfl⟩
      have ha := and7 v (by omega)
      have hdx := fun w => dig_at (v % 8) (Nat.mod_lt _ (by omega)) w
      rw [Hd.out] at ha hdx
      obtain ⟨q, Hq⟩ : ∃ q, Hid (v / 8 = q) := ⟨_, rfl⟩
      have hshr : (v : Int) / 8 = (q : Int) := by have := Hq.out; omega
      have hd8 : d < 8 := by have := Hd.out; omega
      have HDS : Hid (D8 w g j (UInt8.ofNat (48 + d) :: ds) (wr.setCell ⟨g, j, none⟩ (.int .u8 (48 + d : Nat)))) := hid (by
        have := HD.out.step (UInt8.ofNat (48 + d))
        rwa [show (UInt8.ofNat (48 + d)).toNat = 48 + d by rw [UInt8.toNat_ofNat']; omega] at this)
      have HES : Hid (o8 q ++ (UInt8.ofNat (48 + d) :: ds) = o8 u) := hid (by
        rw [← HE.out, o8_big v hv, Hq.out, Hd.out]
        simp)
      have hqv : q < v := by have := Hq.out; omega
      have hvm2 := hvm.out
      have HQM : Hid (q < gk) := hid (by rw [← hvm2]; exact hqv)
      clear hvm2
      unfold dg at hdx
      go_wp2
      go_roundg q
      case measure => exact HQM.out
      case rel => exact ⟨q, j, _, hid rfl, by omega, rfl, rfl, by simp; omega, HES, HDS⟩
end Go.Proofs.YtenbdeljblmbhaaGreatDoor
/- Package object: 'modeText'. -/
namespace Go.Proofs.YtenbdeljblmbhaaGreatDoor
open Go.RowKit
set_option linter.unusedVariables false
set_option linter.unusedSimpArgs false
set_option maxRecDepth 20000 in
theorem fmtInt8 (u : Nat) (hu : u < 65536) (w : World) (h : Db w) : Calls Tryz.prog 133 #[.int .i64 u, .int .i64 8] w fun e w' => e = .returned (.string ⟨(o8 u).toArray⟩) ∧ Below w.heap.size w w' := by
  have HF : Hid (Calls Tryz.prog 171 #[.slice none 0 0, .int .u64 u, .int .i64 8, .bool false, .bool false] w fun e w' => e = .returned (.tuple #[.slice none 0 0, .string ⟨(o8 u).toArray⟩]) ∧ Below w.heap.size w w') := fmt8 u hu w h
  have h0 : ¬ (u : Int) < 0 := by omega
  have hw : IntKind.u64.wrap (u : Int) = u := wrap_u64 u (by omega)
  go_enter Tryz.func133, Tryz.ntmps133
  go_wp2_with fail
  refine HF.out.mono ?_
  rintro e w1 ⟨rfl, hb⟩
  go_wp2
  go_ret
  exact ⟨rfl, hb⟩
set_option maxRecDepth 20000 in
theorem fmtI8 (u : Nat) (hu : u < 65536) (w : World) (h : Db w) : Calls Tryz.prog 95 #[.int .i64 u, .int .i64 8] w fun e w' => e = .returned (.string ⟨(o8 u).toArray⟩) ∧ Below w.heap.size w w' := by
  have HF : Hid (Calls Tryz.prog 133 #[.int .i64 u, .int .i64 8] w fun e w' => e = .returned (.string ⟨(o8 u).toArray⟩) ∧ Below w.heap.size w w') := fmtInt8 u hu w h
  go_enter Tryz.func95, Tryz.ntmps95
  go_wp2_with fail
  refine HF.out.mono ?_
  rintro e w1 ⟨rfl, hb⟩
  go_wp2
  go_ret
  exact ⟨rfl, hb⟩
theorem o8_oct (m : Int) (h : okM m) : o8 m.toNat = octB m := by
  rcases h with rfl | rfl | rfl | rfl <;> decide +kernel
set_option maxRecDepth 20000 in
theorem modeText_any (m : Int) (hm : okM m) (w : World) (h : Db w) : Calls Tryz.prog 47 #[.int .i64 m] w fun e w' => e = .returned (.string ⟨(octB m).toArray⟩) ∧ Below w.heap.size w w' := by
  have hb : 0 ≤ m ∧ m < 65536 := by rcases hm with rfl | rfl | rfl | rfl <;> decide
  have HF : Hid (Calls Tryz.prog 95 #[.int .i64 m, .int .i64 8] w fun e w' => e = .returned (.string ⟨(octB m).toArray⟩) ∧ Below w.heap.size w w') := hid (by
    have := fmtI8 m.toNat (by omega) w h
    rw [o8_oct m hm, Int.toNat_of_nonneg hb.1] at this
    exact this)
  clear hm
  go_enter Tryz.func47, Tryz.ntmps47
  go_wp2_with fail
  refine HF.out.mono ?_
  rintro e w1 ⟨rfl, hb⟩
  go_wp2
  go_ret
  exact ⟨rfl, hb⟩
end Go.Proofs.YtenbdeljblmbhaaGreatDoor
