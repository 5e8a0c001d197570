/- The document's side of chapter 3: 'Encode', its walk. -/
import Derived.Test.YtbpdielmdhhdfaaGreatDoorEncR
namespace Go.Proofs.YtbpdielmdhhdfaaGreatDoor
open Go.RowKit
set_option linter.unusedVariables false
set_option linter.unusedSimpArgs false
/-- What the document's 'Encode' gives. -/
def PostR (k : Int) (zs : List Int) (w : World) (e : Ending) (w' : World) : Prop :=
  Below w.heap.size w w' ∧ ((errE k zs.length ≠ 0 ∧ e = .returned (.tuple #[.slice none 0 0, .int .i64 (errE k zs.length)])) ∨
    (errE k zs.length = 0 ∧ ∃ g cap' : Nat, e = .returned (.tuple #[.slice (some ⟨g, 0, none⟩) (encZ k zs).length cap', .int .i64 0]) ∧ w.heap.size ≤ g ∧ g < w'.heap.size ∧ At w' g 0 (encZ k zs) ∧ (encZ k zs).length ≤ cap'))
theorem Bd.carry {w0 w w' : World} {B : Nat} {v : Value} {out : List Int} (h : Bd w0 w B v out) (hb : Below w.heap.size w w') : Bd w0 w' B v out :=
  ⟨h.below.trans (hb.mono h.le), h.own.kept (row := none) ⟨hb.os, hb.tape, hb.output, hb.size, fun k hk _ => hb.block k hk⟩ (by cases h : v.ownBlock <;> simp), Nat.le_trans h.le hb.size⟩
theorem bd_form {w0 w : World} {B : Nat} {v : Value} {out : List Int} (h : Bd w0 w B v out) (h0 : 0 < out.length) : ∃ g cap, v = .slice (some ⟨g, 0, none⟩) out.length cap ∧ B ≤ g ∧ g < w.heap.size ∧ At w g 0 out ∧ out.length ≤ cap := by
  obtain ⟨g, cap, rfl, h1, h2⟩ := h.own.form h0
  refine ⟨g, cap, rfl, h1, h2, ?_, ?_⟩
  · intro i hi
    rw [Nat.zero_add, h.own.cellAt i (by simpa using hi), List.getElem?_map, List.getElem?_eq_getElem hi]
    simp [List.getD_eq_getElem?_getD, List.getElem?_eq_getElem hi]
  · obtain ⟨_, ⟨hv, _⟩ | ⟨g2, cap2, cur, hv, _, _, hnc, _⟩⟩ := h.own
    · cases hv
    · simp only [Value.slice.injEq] at hv
      omega
theorem errE_20 (k : Int) (n : Nat) (h : (kN k).toList.isEmpty = true) : errE k n = 20 := by unfold errE; rw [if_pos h]
theorem errE_11 (k : Int) (n : Nat) (h : ¬ (kN k).toList.isEmpty = true) (h2 : 100000 < n) : errE k n = 11 := by unfold errE; rw [if_neg h, if_pos h2]
theorem errE_0 (k : Int) (n : Nat) (h : ¬ (kN k).toList.isEmpty = true) (h2 : ¬ 100000 < n) : errE k n = 0 := by unfold errE; rw [if_neg h, if_neg h2]
set_option maxRecDepth 20000 in
set_option maxHeartbeats 2000000 in
theorem refEncode_any (k : Int) (a : Option Addr) (cap : Nat) (zs : List Int) (w : World) (hl : zs.length ≤ 300000) (hS : Sl w a cap zs) :
    Calls Tryz.prog 14 #[.agg #[.int .i64 k, .slice a zs.length cap]] w (PostR k zs w) := by
  obtain ⟨n, HN⟩ : ∃ n, Hid (zs.length = n) := ⟨_, rfl⟩
  obtain ⟨S, HSS⟩ : ∃ S : ByteArray, Hid (kN k = S) := ⟨_, rfl⟩
  have HK : Hid (∀ w, Calls Tryz.prog 37 #[.int .i64 k] w fun e w' => e = .returned (.string S) ∧ w' = w) := fun w => by rw [← HSS.out]; exact name_any k w
  have hln : n ≤ 300000 := by rw [← HN.out]; exact hl
  obtain ⟨G, HG⟩ : ∃ G, Hid (w.heap.size = G) := ⟨_, rfl⟩
  obtain ⟨w0, HW0⟩ : ∃ w0, Hid (w.alloc (.cells #[.int .i64 k, .slice a n cap] 39) = w0) := ⟨_, rfl⟩
  have HB0 : Hid (Below G w w0) := hid (by rw [← HW0.out, ← HG.out]; exact (Below.refl _ w).alloc (Nat.le_refl _) _)
  have hs0 : w0.heap.size = G + 1 := by rw [← HW0.out, ← HG.out]; simp
  have hc0 : w0.cell? ⟨G, 0, none⟩ = some (.int .i64 k) := by rw [← HW0.out, ← HG.out]; simp
  have hc1 : w0.cell? ⟨G, 1, none⟩ = some (.slice a n cap) := by rw [← HW0.out, ← HG.out]; simp
  rw [HN.out]
  by_cases he : S.toList.isEmpty = true
  · have hE : errE k zs.length = 20 := errE_20 k _ (by rw [HSS.out]; exact he)
    go_enter Tryz.func14, Tryz.ntmps14
    go_wp2_with fail
    rw [HG.out, HW0.out]
    refine (HK.out _).mono ?_
    rintro ev w' ⟨rfl, rfl⟩
    go_wp2
    go_ret2
    refine ⟨by rw [HG.out]; exact HB0.out, .inl ⟨by rw [hE]; decide, ?_⟩⟩
    rw [hE]
    rfl
  · by_cases h2 : 100000 < n
    · have hE : errE k zs.length = 11 := errE_11 k _ (by rw [HSS.out]; exact he) (by rw [HN.out]; exact h2)
      have h2i : (100000 : Int) < n := by omega
      go_enter Tryz.func14, Tryz.ntmps14
      go_wp2_with fail
      rw [HG.out, HW0.out]
      refine (HK.out _).mono ?_
      rintro ev w' ⟨rfl, rfl⟩
      go_wp2
      go_ret2
      refine ⟨by rw [HG.out]; exact HB0.out, .inl ⟨by rw [hE]; decide, ?_⟩⟩
      rw [hE]
      rfl
    · have hE : errE k zs.length = 0 := errE_0 k _ (by rw [HSS.out]; exact he) (by rw [HN.out]; exact h2)
      have h2i : ¬ (100000 : Int) < n := by omega
      obtain ⟨L1, HL1⟩ : ∃ L1 : List UInt8, Hid (L1 = (kN k).data.toList) := ⟨_, rfl⟩
      have hL1 : L1.length ≤ 6 := by rw [HL1.out]; exact kN_len k
      have hSL : S = ⟨L1.toArray⟩ := by rw [HL1.out, ← HSS.out]
      have hL1e : L1.isEmpty = false := by
        have h := he
        rw [hSL, Lib.toList_data] at h
        simpa using h
      obtain ⟨L2, HL2⟩ : ∃ L2 : List UInt8, Hid (L2 = Lib.decDigits n) := ⟨_, rfl⟩
      have hL2 : L2.length ≤ 6 := by rw [HL2.out]; exact dig_len 5 n (by omega)
      have HD : Hid (∀ w, Calls Tryz.prog 38 #[.int .i64 n] w fun e w' => e = .returned (.string ⟨L2.toArray⟩) ∧ Below w.heap.size w w') := fun w => by rw [HL2.out]; exact decimal_any n (by omega) w
      have HSl : Hid (∀ W, Below G w W → Sl W a cap zs) := fun W hW => hS.below (by rw [HG.out]; exact hW)
      clear hS
      go_enter Tryz.func14, Tryz.ntmps14
      go_wp2_with fail
      rw [HG.out, HW0.out]
      refine (HK.out _).mono ?_
      rintro ev w' ⟨rfl, rfl⟩
      have hbd0 : Bd w' w' (G + 1) (.slice none 0 0) [] := bd_nil w' (G + 1) (by omega)
      have HC : Hid (∀ W, Below (G + 1) w' W → W.cell? ⟨G, 1, none⟩ = some (.slice a n cap)) := fun W hW => (hW.cell (p := ⟨G, 1, none⟩) (show G < G + 1 by omega)).trans hc1
      go_wp2_with (first
        | (at_builtin; refine wpList_bd_str rfl _ _ rfl (G + 1) _ _ rfl hbd0 L1 rfl (by simp; omega) ?_; intro v1 w1 hbd1; clear hbd0)
        | (at_builtin; refine wpList_bd_sl rfl _ _ rfl (G + 1) _ _ rfl (hbd1.alloc _) _ _ [32] rfl (sl_one _ _) (by simp [nums_len]; omega) ?_; intro v2 w2 hbd2; clear hbd1; have hcw2 := HC.out w2 hbd2.below)
        | (go_at_call 38; refine (HD.out _).mono ?_; rintro ev w3 ⟨rfl, hb3⟩; have hbd3 := hbd2.carry hb3; clear hbd2 hb3 hcw2)
        | (at_builtin; refine wpList_bd_str rfl _ _ rfl (G + 1) _ _ rfl hbd3 L2 rfl (by simp [nums_len]; omega) ?_; intro v4 w4 hbd4; clear hbd3)
        | (at_builtin; refine wpList_bd_sl rfl _ _ rfl (G + 1) _ _ rfl (hbd4.alloc _) _ _ [0] rfl (sl_one _ _) (by simp [nums_len]; omega) ?_; intro v5 w5 hbd5; clear hbd4; have hcw5 := HC.out w5 hbd5.below)
        | (at_builtin; refine wpList_bd_sl rfl _ _ rfl (G + 1) _ _ rfl hbd5 a cap zs (by rw [HN.out]; rfl) (HSl.out _ (HB0.out.trans (hbd5.below.mono (by omega)))) (by simp [nums_len]; omega) ?_; intro v6 w6 hbd6; clear hbd5 hcw5))
      go_ret2
      have hout : [] ++ nums L1 ++ [32] ++ nums L2 ++ [0] ++ zs = encZ k zs := by
        unfold encZ hd h0
        rw [HN.out, ← HL1.out, ← HL2.out]
        simp [nums]
      rw [hout] at hbd6
      obtain ⟨g, c6, rfl, h1, h3, h4, h5⟩ := bd_form hbd6 (by rw [← hout]; simp; omega)
      exact ⟨by rw [HG.out]; exact HB0.out.trans (hbd6.below.mono (by omega)), .inr ⟨hE, g, c6, rfl, by rw [HG.out]; omega, h3, h4, h5⟩⟩
end Go.Proofs.YtbpdielmdhhdfaaGreatDoor
