import Derived.Test.YtijeogdnjeamaaaGreatDoorQo13
namespace Go.Proofs.YtijeogdnjeamaaaGreatDoor
open Go.RowKit
set_option linter.unusedVariables false
set_option linter.unusedSimpArgs false
set_option maxRecDepth 20000 in
set_option maxHeartbeats 8000000 in
theorem refWriteOffer_any {w : World} (h : Str) (hh : h.length ≤ 1000000000000000) (a : Option Addr) (cap : Nat) (l : List Rf) (hP : PRd w a cap l) (hl : FitR l) :
    Calls Tryz.prog 9 #[.agg #[.string ⟨h.toArray⟩, .slice a l.length cap]] w (PostWDo h l w w.heap.size) := by
  obtain ⟨m, HM⟩ : ∃ n, Hid (l.length = n) := ⟨_, rfl⟩
  obtain ⟨G, HG⟩ : ∃ n, Hid (w.heap.size = n) := ⟨_, rfl⟩
  obtain ⟨X, HX⟩ : ∃ X : ByteArray, Hid (⟨h.toArray⟩ = X) := ⟨_, hid rfl⟩
  obtain ⟨w1, HW1⟩ : ∃ u, Hid (w.alloc (.cells #[.string X, .slice a m cap] 32) = u) := ⟨_, rfl⟩
  have hs1 : w1.heap.size = G + 1 := by rw [← HW1.out, ← HG.out]; exact size_alloc _ _
  have hb1 : Below G w w1 := by rw [← HW1.out, ← HG.out]; exact (Below.refl _ w).alloc (Nat.le_refl _) _
  have hx1 : Bx2 w1 G 32 (.string X) (.slice a m cap) := by rw [← HW1.out, ← HG.out]; exact Bx2.new _ _ _ _
  have HB1 := hid hb1
  have HS1 := hid hs1
  have HC : Hid (∀ W, Below (G + 1) w1 W → W.cell? ⟨G, 0, none⟩ = some (.string X) ∧ W.cell? ⟨G, 1, none⟩ = some (.slice a m cap)) := hid (fun W hW => by
    have := hx1.below (W' := W) (by rw [hs1]; exact hW)
    exact ⟨this.c0, this.c1⟩)
  have HGW : Hid (∀ W, Below (G + 1) w1 W → Below G w W) := hid (fun W hW => hb1.trans (hW.mono (by omega)))
  have HPP : Hid (∀ W, Below (G + 1) w1 W → PRd W a cap l) := hid (fun W hW => hP.below (by rw [HG.out]; exact HGW.out W hW))
  have HPL : Hid (0 < m → ∃ b off, a = some ⟨b, off, none⟩) := hid (fun h => by
    obtain ⟨b, off, e1, _⟩ := hP.at_ (by rw [HM.out]; exact h)
    exact ⟨b, off, e1⟩)
  have HIL := hid hl
  have C32 : Hid (∀ (W : World) (s : Str) (X : ByteArray), Hid (⟨s.toArray⟩ = X) → s.length ≤ 1000000000000000 → Calls Tryz.prog 32 #[.string X] W fun e w' => e = .returned (.bool (Nm.isN s)) ∧ Below W.heap.size W w') := hid (fun W s X hX hs => by
    rw [← hX.out]
    exact refName2 s hs W)
  have C33 : Hid (∀ (X : World) (s : Str) (Z : ByteArray), Hid (⟨s.toArray⟩ = Z) → s ≠ [] → s.length ≤ 990 → Calls Tryz.prog 33 #[.string Z] X (PostLm (tx s) X)) := hid (fun X s Z hZ h1 h2 => by
    rw [← hZ.out]
    exact text_mk s h1 h2)
  have CH := hid (C32.out w1 h X HX hh)
  have h1b : (⟨#[32]⟩ : ByteArray).size = 1 := rfl
  have h5b : (⟨#[104, 101, 97, 100, 32]⟩ : ByteArray).size = 5 := rfl
  have al1 : w.alloc (.cells #[.string X, .slice a m cap] 32) = w1 := HW1.out
  have hs0 : w.heap.size = G := HG.out
  have k0 := (HC.out w1 (Below.refl _ _)).1
  rw [HM.out, HG.out, HX.out]
  clear hP hl hs1 hb1 hx1 hh
  go_enter Tryz.func9, Tryz.ntmps9
  go_wp2_with fail
  refine CH.out.mono ?_
  rintro e w2 ⟨rfl, hb2⟩
  rw [HS1.out] at hb2
  have HB2 := hid hb2
  have k20 := (HC.out w2 hb2).1
  have k21 := (HC.out w2 hb2).2
  clear hb2 k0 al1 hs0
  by_cases hok : h = [] ∨ Nm.isN h = true
  · by_cases hbig : 500 < m
    · have hbi : (500 : Int) < (m : Int) := by omega
      have HNO : Hid (¬ OkO h l) := hid (fun k => by have := k.2.2; have := HM.out; omega)
      have HF := hid (HGW.out w2 HB2.out)
      by_cases h0 : h = []
      · have hX0 : X = ⟨#[]⟩ := by rw [← HX.out, h0]
        have hne : (X.toList != []) = false := by rw [← HX.out, h0]; simp
        have heq : (X.toList == []) = true := by rw [← HX.out, h0]; simp
        generalize Nm.isN h = bn
        clear hok h0 hX0
        go_wp2
        refine bodyPost_ret (results_tmp2 Tryz.results9 _ _ _) rfl ?_
        exact ⟨HF.out, .inr ⟨HNO.out, rfl⟩⟩
      · have hN : Nm.isN h = true := hok.resolve_left h0
        have heq : (X.toList == []) = false := by rw [← HX.out]; simp; exact h0
        have hne : (X.toList != []) = true := by rw [bne, heq]; rfl
        rw [hN]
        clear hok h0 hN
        go_wp2
        refine bodyPost_ret (results_tmp2 Tryz.results9 _ _ _) rfl ?_
        exact ⟨HF.out, .inr ⟨HNO.out, rfl⟩⟩
    · have hbi : ¬ (500 : Int) < (m : Int) := by omega
      have HOKH := hid hok
      by_cases h0 : h = []
      · have heq : (X.toList == []) = true := by rw [← HX.out, h0]; simp
        have hne : (X.toList != []) = false := by rw [← HX.out, h0]; simp
        have S0 : Hid (Wmk (G + 1) w1 w2 (.slice none 0 0) (ofP h l 0)) := hid ⟨HB2.out, by have := HB2.out.size; have := HS1.out; omega, .inl ⟨rfl, by rw [h0]; rfl⟩⟩
        generalize Nm.isN h = bn
        clear hok h0
        go_wp2_with fail
        go_loopg [4, 6] m (fun gg bv0 iv wr => ∃ i : Nat, i ≤ m ∧ gg = m - i ∧ iv = .int .i64 i ∧ Hid (Wmk (G + 1) w1 wr bv0 (ofP h l i)) ∧ Hid (∀ j, j < i → okAt l j))
        case atStart => exact ⟨0, Nat.zero_le _, rfl, rfl, S0, hid (fun j hj => by omega)⟩
        case round =>
          obtain ⟨i, hi, hk, rfl, HS, HND⟩ := hrel
          have HSL : Hid ((ofP h l i).length ≤ 60000) := hid (by
            have h1 := ofP_len h l i HOKH.out HIL.out.ids (fun j hj _ => HND.out j hj)
            omega)
          have q1 := (HC.out wr HS.out.bl).2
          by_cases hlt : i < m
          · have hlti : (i : Int) < (m : Int) := by omega
            obtain ⟨b, off, ha⟩ := HPL.out (by omega)
            have hil : i < l.length := by rw [HM.out]; exact hlt
            obtain ⟨x, HXX⟩ : ∃ x, Hid (l.getD i rf0 = x) := ⟨_, rfl⟩
            have hxf := HIL.out x (by rw [← HXX.out]; exact getD_mem l i _ hil)
            obtain ⟨nm, xo⟩ := x
            simp only at hxf
            obtain ⟨Xn, HXB⟩ : ∃ X : ByteArray, Hid (⟨nm.toArray⟩ = X) := ⟨_, hid rfl⟩
            obtain ⟨O, HO⟩ : ∃ S : List Value, Hid (row .u8 xo = S) := ⟨_, rfl⟩
            have hiO : (Tryz.prog.info? 67).map (·.size) = some O.length := by rw [← HO.out, row_len, hxf.2.1]; exact size67
            have HK0 : Hid (∀ W, Below (G + 1) w1 W → W.cell? ⟨b, off + i * 22, none⟩ = some (.string Xn) ∧ W.rangeAt b (off + i * 22 + 1) O) := hid (fun W hW => prd_at (HPP.out W hW) ha i hil _ HXX.out Xn HXB.out O HO.out)
            have CN := hid (C32.out wr nm Xn HXB hxf.1)
            have HTK : Hid (ofP h l (i + 1) = ofP h l i ++ pkt (tx (rfT (nm, xo)))) := hid (ofP_snoc h l i _ hil HXX.out)
            obtain ⟨y, HYY⟩ : ∃ y, Hid (l.getD (i - 1) rf0 = y) := ⟨_, rfl⟩
            obtain ⟨Yn, HYB⟩ : ∃ X : ByteArray, Hid (⟨y.1.toArray⟩ = X) := ⟨_, hid rfl⟩
            have HKY : Hid (∀ W, Below (G + 1) w1 W → W.cell? ⟨b, off + (i - 1) * 22, none⟩ = some (.string Yn)) := hid (fun W hW => (prd_at (HPP.out W hW) ha (i - 1) (by omega) _ HYY.out Yn HYB.out _ rfl).1)
            have HAT : Hid (okAt l i ↔ (Nm.isN nm = true ∧ (0 < i → Op.bytesLess y.1 nm = true))) := hid (by unfold okAt; rw [HXX.out, HYY.out])
            have HFT := hid hxf
            have HLI := hid hil
            subst ha
            have p0 := (HK0.out wr HS.out.bl).1
            clear hil hxf
            go_wp2_with fail
            refine CN.out.mono ?_
            rintro e w5 ⟨rfl, hb5⟩
            have HS5 := hid (HS.out.below hb5)
            clear hb5 p0 q1
            have HSd : Hid (Wmk (G + 1) w1 w5.drew u4 (ofP h l i)) := hid HS5.out.drew
            have HQ1 : Hid (∀ W, Below (G + 1) w1 W → Q11 G b (off + (i - 1) * 22) (off + i * 22) Yn Xn (.slice (some ⟨b, off, none⟩) m cap) W) := hid (fun W hW => ⟨(HC.out W hW).2, HKY.out W hW, (HK0.out W hW).1⟩)
            by_cases hN : Nm.isN nm = true
            · rw [hN]
              have HNN := hid hN
              clear hN
              by_cases h0 : 0 < i
              · have h0i : (0 : Int) < (i : Int) := by omega
                have hsub : (i : Int) - 1 = ((i - 1 : Nat) : Int) := by omega
                have hlm : ((i - 1 : Nat) : Int) < (m : Int) := by omega
                obtain ⟨i1, HI1⟩ : ∃ q, Hid (i - 1 = q) := ⟨_, rfl⟩
                rw [HI1.out] at hsub hlm HQ1
                have hwr : IntKind.i64.wrap (i1 : Int) = (i1 : Int) := wrap_i64 i1 (by have := HI1.out; omega)
                have HLS : Hid (Op.bytesLess Yn.toList Xn.toList = Op.bytesLess y.1 nm) := hid (by rw [← HYB.out, ← HXB.out]; simp)
                go_wp2_with fail
                refine wp_region_held_drew (S := Q11 G b (off + i1 * 22) (off + i * 22) Yn Xn (.slice (some ⟨b, off, none⟩) m cap)) (by kernel_rfl) (HQ1.out _ HSd.out.bl) (fun hHeld => ?_)
                generalize w5.drew = u0 at hHeld HSd ⊢
                refine takeL (i := 0) (v := ?_) rfl (by kernel_rfl) (by kernel_rfl) (by kernel_rfl) (fun _ _ _ h => h) (Or.inl ⟨by rfl, ?_⟩) hHeld ?_
                rotate_left
                · rintro w' ⟨c1, c2, c3⟩; go_simp; rfl
                try simp only [Act.put, List.setIfInBounds_toArray, List.set_cons_zero, List.set_cons_succ]
                refine takeL (i := 1) (v := ?_) rfl (by kernel_rfl) (by kernel_rfl) (by kernel_rfl) (fun _ _ _ h => h) (Or.inl ⟨by rfl, ?_⟩) hHeld ?_
                rotate_left
                · rintro w' ⟨c1, c2, c3⟩; go_simp; rfl
                try simp only [Act.put, List.setIfInBounds_toArray, List.set_cons_zero, List.set_cons_succ]
                refine takeL (i := 2) (v := ?_) rfl (by kernel_rfl) (by kernel_rfl) (by kernel_rfl) (fun _ _ _ h => h) (Or.inl ⟨by rfl, ?_⟩) hHeld ?_
                rotate_left
                · rintro w' ⟨c1, c2, c3⟩; go_simp; rfl
                try simp only [Act.put, List.setIfInBounds_toArray, List.set_cons_zero, List.set_cons_succ]
                refine takeL (i := 3) (v := ?_) rfl (by kernel_rfl) (by kernel_rfl) (by kernel_rfl) (fun _ _ _ h => h) (Or.inl ⟨by rfl, ?_⟩) hHeld ?_
                rotate_left
                · rintro w' ⟨c1, c2, c3⟩; go_simp; rfl
                try simp only [Act.put, List.setIfInBounds_toArray, List.set_cons_zero, List.set_cons_succ]
                refine takeL (i := 4) (v := ?_) rfl (by kernel_rfl) (by kernel_rfl) (by kernel_rfl) (fun _ _ _ h => h) (Or.inl ⟨by rfl, ?_⟩) hHeld ?_
                rotate_left
                · rintro w' ⟨c1, c2, c3⟩; go_simp; rfl
                try simp only [Act.put, List.setIfInBounds_toArray, List.set_cons_zero, List.set_cons_succ]
                refine takeL (i := 5) (v := ?_) rfl (by kernel_rfl) (by kernel_rfl) (by kernel_rfl) (fun _ _ _ h => h) (Or.inl ⟨by rfl, ?_⟩) hHeld ?_
                rotate_left
                · rintro w' ⟨c1, c2, c3⟩; go_simp; rfl
                try simp only [Act.put, List.setIfInBounds_toArray, List.set_cons_zero, List.set_cons_succ]
                refine takeL (i := 6) (v := ?_) rfl (by kernel_rfl) (by kernel_rfl) (by kernel_rfl) (fun _ _ _ h => h) (Or.inl ⟨by rfl, ?_⟩) hHeld ?_
                rotate_left
                · rintro w' ⟨c1, c2, c3⟩; go_simp; rfl
                try simp only [Act.put, List.setIfInBounds_toArray, List.set_cons_zero, List.set_cons_succ]
                refine takeL (i := 7) (v := ?_) rfl (by kernel_rfl) (by kernel_rfl) (by kernel_rfl) (fun _ _ _ h => h) (Or.inl ⟨by rfl, ?_⟩) hHeld ?_
                rotate_left
                · rintro w' ⟨c1, c2, c3⟩; go_simp; rfl
                try simp only [Act.put, List.setIfInBounds_toArray, List.set_cons_zero, List.set_cons_succ]
                refine takeL (i := 8) (v := ?_) rfl (by kernel_rfl) (by kernel_rfl) (by kernel_rfl) (fun _ _ _ h => h) (Or.inl ⟨by rfl, ?_⟩) hHeld ?_
                rotate_left
                · rintro w' ⟨c1, c2, c3⟩; go_simp; rfl
                try simp only [Act.put, List.setIfInBounds_toArray, List.set_cons_zero, List.set_cons_succ]
                refine takeL (i := 9) (v := ?_) rfl (by kernel_rfl) (by kernel_rfl) (by kernel_rfl) (fun _ _ _ h => h) (Or.inl ⟨by rfl, ?_⟩) hHeld ?_
                rotate_left
                · rintro w' ⟨c1, c2, c3⟩; go_simp; rfl
                try simp only [Act.put, List.setIfInBounds_toArray, List.set_cons_zero, List.set_cons_succ]
                refine takeL (i := 10) (v := ?_) rfl (by kernel_rfl) (by kernel_rfl) (by kernel_rfl) (fun _ _ _ h => h) (Or.inl ⟨by rfl, ?_⟩) hHeld ?_
                rotate_left
                · rintro w' ⟨c1, c2, c3⟩; go_simp; rfl
                try simp only [Act.put, List.setIfInBounds_toArray, List.set_cons_zero, List.set_cons_succ]
                refine takeL (i := 11) (v := ?_) rfl (by kernel_rfl) (by kernel_rfl) (by kernel_rfl) (fun _ _ _ h => h) (Or.inl ⟨by rfl, ?_⟩) hHeld ?_
                rotate_left
                · rintro w' ⟨c1, c2, c3⟩; go_simp; rfl
                try simp only [Act.put, List.setIfInBounds_toArray, List.set_cons_zero, List.set_cons_succ]
                refine takeL (i := 12) (v := ?_) rfl (by kernel_rfl) (by kernel_rfl) (by kernel_rfl) (fun _ _ _ h => h) (Or.inl ⟨by rfl, ?_⟩) hHeld ?_
                rotate_left
                · rintro w' ⟨c1, c2, c3⟩; go_simp; rfl
                try simp only [Act.put, List.setIfInBounds_toArray, List.set_cons_zero, List.set_cons_succ]
                refine takeL (i := 13) (v := ?_) rfl (by kernel_rfl) (by kernel_rfl) (by kernel_rfl) (fun _ _ _ h => h) (Or.inl ⟨by rfl, ?_⟩) hHeld ?_
                rotate_left
                · rintro w' ⟨c1, c2, c3⟩; go_simp; rfl
                try simp only [Act.put, List.setIfInBounds_toArray, List.set_cons_zero, List.set_cons_succ]
                refine takeL (i := 14) (v := ?_) rfl (by kernel_rfl) (by kernel_rfl) (by kernel_rfl) (fun _ _ _ h => h) (Or.inl ⟨by rfl, ?_⟩) hHeld ?_
                rotate_left
                · rintro w' ⟨c1, c2, c3⟩; go_simp; rfl
                try simp only [Act.put, List.setIfInBounds_toArray, List.set_cons_zero, List.set_cons_succ]
                refine takeL (i := 15) (v := ?_) rfl (by kernel_rfl) (by kernel_rfl) (by kernel_rfl) (fun _ _ _ h => h) (Or.inl ⟨by rfl, ?_⟩) hHeld ?_
                rotate_left
                · rintro w' ⟨c1, c2, c3⟩; go_simp; rfl
                try simp only [Act.put, List.setIfInBounds_toArray, List.set_cons_zero, List.set_cons_succ]
                refine takeL (i := 16) (v := ?_) rfl (by kernel_rfl) (by kernel_rfl) (by kernel_rfl) (fun _ _ _ h => h) (Or.inl ⟨by rfl, ?_⟩) hHeld ?_
                rotate_left
                · rintro w' ⟨c1, c2, c3⟩; go_simp; rfl
                try simp only [Act.put, List.setIfInBounds_toArray, List.set_cons_zero, List.set_cons_succ]
                refine takeL (i := 17) (v := ?_) rfl (by kernel_rfl) (by kernel_rfl) (by kernel_rfl) (fun _ _ _ h => h) (Or.inl ⟨by rfl, ?_⟩) hHeld ?_
                rotate_left
                · rintro w' ⟨c1, c2, c3⟩; go_simp; rfl
                try simp only [Act.put, List.setIfInBounds_toArray, List.set_cons_zero, List.set_cons_succ]
                refine takeL (i := 18) (v := ?_) rfl (by kernel_rfl) (by kernel_rfl) (by kernel_rfl) (fun _ _ _ h => h) (Or.inl ⟨by rfl, ?_⟩) hHeld ?_
                rotate_left
                · rintro w' ⟨c1, c2, c3⟩; go_simp; rfl
                try simp only [Act.put, List.setIfInBounds_toArray, List.set_cons_zero, List.set_cons_succ]
                by_cases hls : Op.bytesLess y.1 nm = true
                · have hlb : Op.bytesLess Yn.toList Xn.toList = true := by rw [HLS.out]; exact hls
                  have HOKI : Hid (okAt l i) := hid (HAT.out.2 ⟨HNN.out, fun _ => hls⟩)
                  refine takeL (i := 19) (v := .bool false) rfl (by kernel_rfl) (by kernel_rfl) (by kernel_rfl) (fun _ _ _ h => h) (Or.inl ⟨by rfl, ?_⟩) hHeld ?_
                  · rintro w' ⟨c1, c2, c3⟩; go_simp; try rfl
                  try simp only [Act.put, List.setIfInBounds_toArray, List.set_cons_zero, List.set_cons_succ]
                  refine takeL (i := 20) (v := .bool false) rfl (by kernel_rfl) (by kernel_rfl) (by kernel_rfl) (fun _ _ _ h => h) (Or.inl ⟨by rfl, ?_⟩) hHeld ?_
                  · rintro w' ⟨c1, c2, c3⟩; go_simp; try rfl
                  try simp only [Act.put, List.setIfInBounds_toArray, List.set_cons_zero, List.set_cons_succ]
                  refine takeL (i := 21) (v := .bool false) rfl (by kernel_rfl) (by kernel_rfl) (by kernel_rfl) (fun _ _ _ h => h) (Or.inl ⟨by rfl, ?_⟩) hHeld ?_
                  · rintro w' ⟨c1, c2, c3⟩; go_simp; try rfl
                  try simp only [Act.put, List.setIfInBounds_toArray, List.set_cons_zero, List.set_cons_succ]
                  refine wpAnyH_done (by kernel_rfl) ?_ _
                  clear hHeld hls hlb
                  go_wp2_with fail
                  obtain ⟨Oh, HOH⟩ : ∃ W : ByteArray, Hid (⟨(hxS xo).toArray⟩ = W) := ⟨_, hid rfl⟩
                  obtain ⟨Z1, HZ1⟩ : ∃ Z : ByteArray, Hid (Oh ++ (⟨#[32]⟩ : ByteArray) = Z) := ⟨_, hid rfl⟩
                  obtain ⟨Z2, HZ2⟩ : ∃ Z : ByteArray, Hid (Z1 ++ Xn = Z) := ⟨_, hid rfl⟩
                  have HTT : Hid ((⟨(rfT (nm, xo)).toArray⟩ : ByteArray) = Z2) := hid (by
                    rw [← HZ2.out, ← HZ1.out, ← HOH.out, ← HXB.out, show (⟨#[32]⟩ : ByteArray) = ⟨([32] : Str).toArray⟩ from rfl, str_app, str_app]
                    rfl)
                  have HNL : Hid (nm.length ≤ 60) := hid (isN_len HNN.out)
                  have hXs : Xn.size ≤ 60 := by rw [← HXB.out, txt_len]; exact HNL.out
                  have hOh : Oh.size = 40 := by rw [← HOH.out, txt_len]; exact hxS_len _ HFT.out.2
                  have hZ1 : Z1.size = 41 := by rw [← HZ1.out, ByteArray.size_append, hOh]; rfl
                  have HCL : Hid ((rfT (nm, xo)).length ≤ 101) := hid (by
                    rw [rfT_len HFT.out.2]
                    have := HNL.out
                    simp only
                    omega)
                  have HTd : Hid (Wmk (G + 1) w1 u0.drew u4 (ofP h l i)) := hid HSd.out.drew
                  have HQS : Hid (∀ W, Below u0.drew.heap.size u0.drew W → Q13o G b (off + i * 22) Xn O (.slice (some ⟨b, off, none⟩) m cap) W) := hid (fun W hW => by
                    have hbw : Below (G + 1) w1 W := HTd.out.bl.trans (hW.mono HTd.out.le)
                    exact ⟨(HC.out W hbw).2, (HK0.out W hbw).1, (HK0.out W hbw).2⟩)
                  have C34a : Hid (∀ W, Calls Tryz.prog 34 #[.agg O.toArray] W fun e w' => e = .returned (.string Oh) ∧ Below W.heap.size W w') := hid (fun W => by rw [← HO.out, ← HOH.out]; exact hexD _ HFT.out.2 W)
                  have CT3 : Hid (∀ W : World, Calls Tryz.prog 33 #[.string Z2] W (PostLm (tx (rfT (nm, xo))) W)) := hid (fun W => C33.out W (rfT (nm, xo)) Z2 HTT (rfT_ne _) (by have := HCL.out; omega))
                  refine wp_region_held_drew (S := Q13o G b (off + i * 22) Xn O (.slice (some ⟨b, off, none⟩) m cap)) (by kernel_rfl) (HQS.out _ (Below.refl _ _)) (fun hHeld => ?_)
                  generalize u0.drew = u1 at hHeld HTd HQS ⊢
                  refine takeL (i := 0) (v := ?_) rfl (by kernel_rfl) (by kernel_rfl) (by kernel_rfl) (fun _ _ _ h => h) (Or.inl ⟨by rfl, ?_⟩) hHeld ?_
                  rotate_left
                  · rintro w' ⟨c1, c3, r1⟩; go_simp; rfl
                  try simp only [Act.put, List.setIfInBounds_toArray, List.set_cons_zero, List.set_cons_succ]
                  refine takeL (i := 1) (v := ?_) rfl (by kernel_rfl) (by kernel_rfl) (by kernel_rfl) (fun _ _ _ h => h) (Or.inl ⟨by rfl, ?_⟩) hHeld ?_
                  rotate_left
                  · rintro w' ⟨c1, c3, r1⟩; go_simp; rfl
                  try simp only [Act.put, List.setIfInBounds_toArray, List.set_cons_zero, List.set_cons_succ]
                  refine takeL (i := 2) (v := ?_) rfl (by kernel_rfl) (by kernel_rfl) (by kernel_rfl) (fun _ _ _ h => h) (Or.inl ⟨by rfl, ?_⟩) hHeld ?_
                  rotate_left
                  · rintro w' ⟨c1, c3, r1⟩; go_simp; rfl
                  try simp only [Act.put, List.setIfInBounds_toArray, List.set_cons_zero, List.set_cons_succ]
                  refine takeL (i := 3) (v := ?_) rfl (by kernel_rfl) (by kernel_rfl) (by kernel_rfl) (fun _ _ _ h => h) (Or.inl ⟨by rfl, ?_⟩) hHeld ?_
                  rotate_left
                  · rintro w' ⟨c1, c3, r1⟩; go_simp; rfl
                  try simp only [Act.put, List.setIfInBounds_toArray, List.set_cons_zero, List.set_cons_succ]
                  refine takeL (i := 4) (v := ?_) rfl (by kernel_rfl) (by kernel_rfl) (by kernel_rfl) (fun _ _ _ h => h) (Or.inl ⟨by rfl, ?_⟩) hHeld ?_
                  rotate_left
                  · rintro w' ⟨c1, c3, r1⟩; go_simp; rfl
                  try simp only [Act.put, List.setIfInBounds_toArray, List.set_cons_zero, List.set_cons_succ]
                  refine takeL (i := 5) (v := .agg O.toArray) rfl (by kernel_rfl) (by kernel_rfl) (by kernel_rfl) (fun _ _ _ h => h) (yieldsIf_load_mid (by kernel_rfl) 67 _ rfl b (off + i * 22 + 1) (by rfl) O _ (fun w' h => h.r1) Tryz.underlying67 rfl hiO) hHeld ?_
                  try simp only [Act.put, List.setIfInBounds_toArray, List.set_cons_zero, List.set_cons_succ]
                  refine takeL (i := 8) (v := ?_) rfl (by kernel_rfl) (by kernel_rfl) (by kernel_rfl) (fun _ _ _ h => h) (Or.inl ⟨by rfl, ?_⟩) hHeld ?_
                  rotate_left
                  · rintro w' ⟨c1, c3, r1⟩; go_simp; rfl
                  try simp only [Act.put, List.setIfInBounds_toArray, List.set_cons_zero, List.set_cons_succ]
                  refine takeL (i := 9) (v := ?_) rfl (by kernel_rfl) (by kernel_rfl) (by kernel_rfl) (fun _ _ _ h => h) (Or.inl ⟨by rfl, ?_⟩) hHeld ?_
                  rotate_left
                  · rintro w' ⟨c1, c3, r1⟩; go_simp; rfl
                  try simp only [Act.put, List.setIfInBounds_toArray, List.set_cons_zero, List.set_cons_succ]
                  refine takeL (i := 10) (v := ?_) rfl (by kernel_rfl) (by kernel_rfl) (by kernel_rfl) (fun _ _ _ h => h) (Or.inl ⟨by rfl, ?_⟩) hHeld ?_
                  rotate_left
                  · rintro w' ⟨c1, c3, r1⟩; go_simp; rfl
                  try simp only [Act.put, List.setIfInBounds_toArray, List.set_cons_zero, List.set_cons_succ]
                  refine takeL (i := 11) (v := ?_) rfl (by kernel_rfl) (by kernel_rfl) (by kernel_rfl) (fun _ _ _ h => h) (Or.inl ⟨by rfl, ?_⟩) hHeld ?_
                  rotate_left
                  · rintro w' ⟨c1, c3, r1⟩; go_simp; rfl
                  try simp only [Act.put, List.setIfInBounds_toArray, List.set_cons_zero, List.set_cons_succ]
                  refine takeL (i := 12) (v := ?_) rfl (by kernel_rfl) (by kernel_rfl) (by kernel_rfl) (fun _ _ _ h => h) (Or.inl ⟨by rfl, ?_⟩) hHeld ?_
                  rotate_left
                  · rintro w' ⟨c1, c3, r1⟩; go_simp; rfl
                  try simp only [Act.put, List.setIfInBounds_toArray, List.set_cons_zero, List.set_cons_succ]
                  refine takeL (i := 13) (v := ?_) rfl (by kernel_rfl) (by kernel_rfl) (by kernel_rfl) (fun _ _ _ h => h) (Or.inl ⟨by rfl, ?_⟩) hHeld ?_
                  rotate_left
                  · rintro w' ⟨c1, c3, r1⟩; go_simp; rfl
                  try simp only [Act.put, List.setIfInBounds_toArray, List.set_cons_zero, List.set_cons_succ]
                  refine wpAnyH_ready (rs := [6]) (by kernel_rfl) (by simp) ?_
                  refine consL rfl (fun KK hKK => ?_) AllReadyH.nil
                  refine step_callv (by rfl) 34 [.tmp 73] _ [.agg O.toArray] _ (by rfl) (by rfl) (enter34 _) (C34a.out _) ?_
                  rintro ev w6 ⟨rfl, hb⟩
                  refine ⟨_, rfl, ?_⟩
                  have HB6 : Hid (Below u1.heap.size u1 w6) := hid hb
                  refine hKK.out _ _ (HQS.out _ hb) (fun hHeld2 => ?_)
                  clear hKK KK hb
                  try simp only [Act.put, List.setIfInBounds_toArray, List.set_cons_zero, List.set_cons_succ]
                  refine takeL (i := 7) (v := .string Z1) rfl (by kernel_rfl) (by kernel_rfl) (by kernel_rfl) (fun _ _ _ h => h) (Or.inl ⟨by rfl, ?_⟩) hHeld2 ?_
                  · rintro w' ⟨c1, c3, r1⟩; rw [← HZ1.out]; go_simp; first | done | omega | rfl
                  try simp only [Act.put, List.setIfInBounds_toArray, List.set_cons_zero, List.set_cons_succ]
                  refine takeL (i := 14) (v := .string Z2) rfl (by kernel_rfl) (by kernel_rfl) (by kernel_rfl) (fun _ _ _ h => h) (Or.inl ⟨by rfl, ?_⟩) hHeld2 ?_
                  · rintro w' ⟨c1, c3, r1⟩; rw [← HZ2.out]; go_simp; first | done | omega | rfl
                  try simp only [Act.put, List.setIfInBounds_toArray, List.set_cons_zero, List.set_cons_succ]
                  refine wpAnyH_ready (rs := [15]) (by kernel_rfl) (by simp) ?_
                  refine consL rfl (fun KK hKK => ?_) AllReadyH.nil
                  refine step_callv (by rfl) 33 [.tmp 82] _ [.string Z2] _ (by rfl) (by rfl) (enter33 _) (CT3.out _) ?_
                  rintro ev w7 ⟨hb7, g7, c7, rfl, hg7, hp7⟩
                  refine ⟨_, rfl, ?_⟩
                  have HB7 : Hid (Below u1.heap.size u1 w7) := hid (HB6.out.trans (hb7.mono HB6.out.size))
                  have HP7 := hid hp7.pb
                  refine hKK.out _ _ (HQS.out _ HB7.out) (fun hHeld3 => ?_)
                  clear hKK KK hb7 hg7 hp7
                  try simp only [Act.put, List.setIfInBounds_toArray, List.set_cons_zero, List.set_cons_succ]
                  refine takeL (i := 16) (v := ?_) rfl (by kernel_rfl) (by kernel_rfl) (by kernel_rfl) (fun _ _ _ h => h) (Or.inl ⟨by rfl, ?_⟩) hHeld3 ?_
                  rotate_left
                  · rintro w' ⟨c1, c3, r1⟩; go_simp; rfl
                  try simp only [Act.put, List.setIfInBounds_toArray, List.set_cons_zero, List.set_cons_succ]
                  refine wpAnyH_done (by kernel_rfl) ?_ _
                  clear hHeld hHeld2 hHeld3
                  have HS7 := hid (HTd.out.below HB7.out)
                  obtain ⟨v8, w8, hr8, hs8⟩ := HS7.out.sl g7 0 c7 (pkt (tx (rfT (nm, xo)))) HP7.out (by have := HSL.out; rw [pkt_len]; have := tx_len (rfT (nm, xo)); have := HCL.out; omega)
                  obtain ⟨K8, HK8⟩ : ∃ n, Hid ((pkt (tx (rfT (nm, xo)))).length = n) := ⟨_, rfl⟩
                  rw [HK8.out] at hr8
                  rw [HK8.out]
                  have HS8 : Hid (Wmk (G + 1) w1 w8 v8 (ofP h l (i + 1))) := hid (by
                    rw [HTK.out]
                    exact hs8)
                  have HN3 : Hid (∀ j, j < i + 1 → okAt l j) := hid (fun j hj => by
                    by_cases hji : j < i
                    · exact HND.out j hji
                    · have : j = i := by omega
                      subst this
                      exact HOKI.out)
                  clear hs8
                  go_wp2_with (first | (at_builtin; refine wpList_app rfl _ _ 25 25 rfl 25 rfl _ _ rfl rfl hr8 ?_) | fail)
                  go_roundg (m - (i + 1))
                  case measure => omega
                  case rel => exact ⟨i + 1, by omega, rfl, by go_num, HS8, HN3⟩
                · have hlb : Op.bytesLess Yn.toList Xn.toList = false := by rw [HLS.out]; simpa using hls
                  have HNO : Hid (¬ OkO h l) := hid (fun k => hls ((HAT.out.1 (k.2.1 i HLI.out)).2 h0))
                  have HF := hid (HGW.out _ HSd.out.bl)
                  refine takeL (i := 19) (v := .bool true) rfl (by kernel_rfl) (by kernel_rfl) (by kernel_rfl) (fun _ _ _ h => h) (Or.inl ⟨by rfl, ?_⟩) hHeld ?_
                  · rintro w' ⟨c1, c2, c3⟩; go_simp; try rfl
                  try simp only [Act.put, List.setIfInBounds_toArray, List.set_cons_zero, List.set_cons_succ]
                  refine takeL (i := 20) (v := .bool true) rfl (by kernel_rfl) (by kernel_rfl) (by kernel_rfl) (fun _ _ _ h => h) (Or.inl ⟨by rfl, ?_⟩) hHeld ?_
                  · rintro w' ⟨c1, c2, c3⟩; go_simp; try rfl
                  try simp only [Act.put, List.setIfInBounds_toArray, List.set_cons_zero, List.set_cons_succ]
                  refine takeL (i := 21) (v := .bool true) rfl (by kernel_rfl) (by kernel_rfl) (by kernel_rfl) (fun _ _ _ h => h) (Or.inl ⟨by rfl, ?_⟩) hHeld ?_
                  · rintro w' ⟨c1, c2, c3⟩; go_simp; try rfl
                  try simp only [Act.put, List.setIfInBounds_toArray, List.set_cons_zero, List.set_cons_succ]
                  refine wpAnyH_done (by kernel_rfl) ?_ _
                  clear hHeld hls hlb
                  go_wp2
                  refine bodyPost_ret (results_tmp2 Tryz.results9 _ _ _) rfl ?_
                  exact ⟨HF.out, .inr ⟨HNO.out, rfl⟩⟩
              · have h0i : ¬ (0 : Int) < (i : Int) := by omega
                have HOKI : Hid (okAt l i) := hid (HAT.out.2 ⟨HNN.out, fun k => absurd k h0⟩)
                go_wp2_with fail
                refine wp_region_held_drew (S := Q11 G b (off + (i - 1) * 22) (off + i * 22) Yn Xn (.slice (some ⟨b, off, none⟩) m cap)) (by kernel_rfl) (HQ1.out _ HSd.out.bl) (fun hHeld => ?_)
                generalize w5.drew = u0 at hHeld HSd ⊢
                refine takeL (i := 0) (v := ?_) rfl (by kernel_rfl) (by kernel_rfl) (by kernel_rfl) (fun _ _ _ h => h) (Or.inl ⟨by rfl, ?_⟩) hHeld ?_
                rotate_left
                · rintro w' ⟨c1, c2, c3⟩; go_simp; rfl
                try simp only [Act.put, List.setIfInBounds_toArray, List.set_cons_zero, List.set_cons_succ]
                refine takeL (i := 1) (v := ?_) rfl (by kernel_rfl) (by kernel_rfl) (by kernel_rfl) (fun _ _ _ h => h) (Or.inl ⟨by rfl, ?_⟩) hHeld ?_
                rotate_left
                · rintro w' ⟨c1, c2, c3⟩; go_simp; rfl
                try simp only [Act.put, List.setIfInBounds_toArray, List.set_cons_zero, List.set_cons_succ]
                refine takeL (i := 2) (v := ?_) rfl (by kernel_rfl) (by kernel_rfl) (by kernel_rfl) (fun _ _ _ h => h) (Or.inl ⟨by rfl, ?_⟩) hHeld ?_
                rotate_left
                · rintro w' ⟨c1, c2, c3⟩; go_simp; rfl
                try simp only [Act.put, List.setIfInBounds_toArray, List.set_cons_zero, List.set_cons_succ]
                refine takeL (i := 3) (v := ?_) rfl (by kernel_rfl) (by kernel_rfl) (by kernel_rfl) (fun _ _ _ h => h) (Or.inl ⟨by rfl, ?_⟩) hHeld ?_
                rotate_left
                · rintro w' ⟨c1, c2, c3⟩; go_simp; rfl
                try simp only [Act.put, List.setIfInBounds_toArray, List.set_cons_zero, List.set_cons_succ]
                refine takeL (i := 4) (v := ?_) rfl (by kernel_rfl) (by kernel_rfl) (by kernel_rfl) (fun _ _ _ h => h) (Or.inl ⟨by rfl, ?_⟩) hHeld ?_
                rotate_left
                · rintro w' ⟨c1, c2, c3⟩; go_simp; rfl
                try simp only [Act.put, List.setIfInBounds_toArray, List.set_cons_zero, List.set_cons_succ]
                refine takeL (i := 5) (v := ?_) rfl (by kernel_rfl) (by kernel_rfl) (by kernel_rfl) (fun _ _ _ h => h) (Or.inl ⟨by rfl, ?_⟩) hHeld ?_
                rotate_left
                · rintro w' ⟨c1, c2, c3⟩; go_simp; rfl
                try simp only [Act.put, List.setIfInBounds_toArray, List.set_cons_zero, List.set_cons_succ]
                refine takeL (i := 6) (v := undef) rfl (by kernel_rfl) (by kernel_rfl) (by kernel_rfl) (fun _ _ _ h => h) (Or.inr ⟨by rfl, rfl⟩) hHeld ?_
                try simp only [Act.put, List.setIfInBounds_toArray, List.set_cons_zero, List.set_cons_succ]
                refine takeL (i := 7) (v := undef) rfl (by kernel_rfl) (by kernel_rfl) (by kernel_rfl) (fun _ _ _ h => h) (Or.inr ⟨by rfl, rfl⟩) hHeld ?_
                try simp only [Act.put, List.setIfInBounds_toArray, List.set_cons_zero, List.set_cons_succ]
                refine takeL (i := 8) (v := undef) rfl (by kernel_rfl) (by kernel_rfl) (by kernel_rfl) (fun _ _ _ h => h) (Or.inr ⟨by rfl, rfl⟩) hHeld ?_
                try simp only [Act.put, List.setIfInBounds_toArray, List.set_cons_zero, List.set_cons_succ]
                refine takeL (i := 9) (v := undef) rfl (by kernel_rfl) (by kernel_rfl) (by kernel_rfl) (fun _ _ _ h => h) (Or.inr ⟨by rfl, rfl⟩) hHeld ?_
                try simp only [Act.put, List.setIfInBounds_toArray, List.set_cons_zero, List.set_cons_succ]
                refine takeL (i := 10) (v := undef) rfl (by kernel_rfl) (by kernel_rfl) (by kernel_rfl) (fun _ _ _ h => h) (Or.inr ⟨by rfl, rfl⟩) hHeld ?_
                try simp only [Act.put, List.setIfInBounds_toArray, List.set_cons_zero, List.set_cons_succ]
                refine takeL (i := 11) (v := undef) rfl (by kernel_rfl) (by kernel_rfl) (by kernel_rfl) (fun _ _ _ h => h) (Or.inr ⟨by rfl, rfl⟩) hHeld ?_
                try simp only [Act.put, List.setIfInBounds_toArray, List.set_cons_zero, List.set_cons_succ]
                refine takeL (i := 12) (v := undef) rfl (by kernel_rfl) (by kernel_rfl) (by kernel_rfl) (fun _ _ _ h => h) (Or.inr ⟨by rfl, rfl⟩) hHeld ?_
                try simp only [Act.put, List.setIfInBounds_toArray, List.set_cons_zero, List.set_cons_succ]
                refine takeL (i := 13) (v := undef) rfl (by kernel_rfl) (by kernel_rfl) (by kernel_rfl) (fun _ _ _ h => h) (Or.inr ⟨by rfl, rfl⟩) hHeld ?_
                try simp only [Act.put, List.setIfInBounds_toArray, List.set_cons_zero, List.set_cons_succ]
                refine takeL (i := 14) (v := undef) rfl (by kernel_rfl) (by kernel_rfl) (by kernel_rfl) (fun _ _ _ h => h) (Or.inr ⟨by rfl, rfl⟩) hHeld ?_
                try simp only [Act.put, List.setIfInBounds_toArray, List.set_cons_zero, List.set_cons_succ]
                refine takeL (i := 15) (v := undef) rfl (by kernel_rfl) (by kernel_rfl) (by kernel_rfl) (fun _ _ _ h => h) (Or.inr ⟨by rfl, rfl⟩) hHeld ?_
                try simp only [Act.put, List.setIfInBounds_toArray, List.set_cons_zero, List.set_cons_succ]
                refine takeL (i := 16) (v := undef) rfl (by kernel_rfl) (by kernel_rfl) (by kernel_rfl) (fun _ _ _ h => h) (Or.inr ⟨by rfl, rfl⟩) hHeld ?_
                try simp only [Act.put, List.setIfInBounds_toArray, List.set_cons_zero, List.set_cons_succ]
                refine takeL (i := 17) (v := undef) rfl (by kernel_rfl) (by kernel_rfl) (by kernel_rfl) (fun _ _ _ h => h) (Or.inr ⟨by rfl, rfl⟩) hHeld ?_
                try simp only [Act.put, List.setIfInBounds_toArray, List.set_cons_zero, List.set_cons_succ]
                refine takeL (i := 18) (v := undef) rfl (by kernel_rfl) (by kernel_rfl) (by kernel_rfl) (fun _ _ _ h => h) (Or.inr ⟨by rfl, rfl⟩) hHeld ?_
                try simp only [Act.put, List.setIfInBounds_toArray, List.set_cons_zero, List.set_cons_succ]
                refine takeL (i := 19) (v := undef) rfl (by kernel_rfl) (by kernel_rfl) (by kernel_rfl) (fun _ _ _ h => h) (Or.inr ⟨by rfl, rfl⟩) hHeld ?_
                try simp only [Act.put, List.setIfInBounds_toArray, List.set_cons_zero, List.set_cons_succ]
                refine takeL (i := 20) (v := .bool false) rfl (by kernel_rfl) (by kernel_rfl) (by kernel_rfl) (fun _ _ _ h => h) (Or.inl ⟨by rfl, ?_⟩) hHeld ?_
                · rintro w' ⟨c1, c2, c3⟩; go_simp; try rfl
                try simp only [Act.put, List.setIfInBounds_toArray, List.set_cons_zero, List.set_cons_succ]
                refine takeL (i := 21) (v := .bool false) rfl (by kernel_rfl) (by kernel_rfl) (by kernel_rfl) (fun _ _ _ h => h) (Or.inl ⟨by rfl, ?_⟩) hHeld ?_
                · rintro w' ⟨c1, c2, c3⟩; go_simp; try rfl
                try simp only [Act.put, List.setIfInBounds_toArray, List.set_cons_zero, List.set_cons_succ]
                refine wpAnyH_done (by kernel_rfl) ?_ _
                clear hHeld
                go_wp2_with fail
                obtain ⟨Oh, HOH⟩ : ∃ W : ByteArray, Hid (⟨(hxS xo).toArray⟩ = W) := ⟨_, hid rfl⟩
                obtain ⟨Z1, HZ1⟩ : ∃ Z : ByteArray, Hid (Oh ++ (⟨#[32]⟩ : ByteArray) = Z) := ⟨_, hid rfl⟩
                obtain ⟨Z2, HZ2⟩ : ∃ Z : ByteArray, Hid (Z1 ++ Xn = Z) := ⟨_, hid rfl⟩
                have HTT : Hid ((⟨(rfT (nm, xo)).toArray⟩ : ByteArray) = Z2) := hid (by
                  rw [← HZ2.out, ← HZ1.out, ← HOH.out, ← HXB.out, show (⟨#[32]⟩ : ByteArray) = ⟨([32] : Str).toArray⟩ from rfl, str_app, str_app]
                  rfl)
                have HNL : Hid (nm.length ≤ 60) := hid (isN_len HNN.out)
                have hXs : Xn.size ≤ 60 := by rw [← HXB.out, txt_len]; exact HNL.out
                have hOh : Oh.size = 40 := by rw [← HOH.out, txt_len]; exact hxS_len _ HFT.out.2
                have hZ1 : Z1.size = 41 := by rw [← HZ1.out, ByteArray.size_append, hOh]; rfl
                have HCL : Hid ((rfT (nm, xo)).length ≤ 101) := hid (by
                  rw [rfT_len HFT.out.2]
                  have := HNL.out
                  simp only
                  omega)
                have HTd : Hid (Wmk (G + 1) w1 u0.drew u4 (ofP h l i)) := hid HSd.out.drew
                have HQS : Hid (∀ W, Below u0.drew.heap.size u0.drew W → Q13o G b (off + i * 22) Xn O (.slice (some ⟨b, off, none⟩) m cap) W) := hid (fun W hW => by
                  have hbw : Below (G + 1) w1 W := HTd.out.bl.trans (hW.mono HTd.out.le)
                  exact ⟨(HC.out W hbw).2, (HK0.out W hbw).1, (HK0.out W hbw).2⟩)
                have C34a : Hid (∀ W, Calls Tryz.prog 34 #[.agg O.toArray] W fun e w' => e = .returned (.string Oh) ∧ Below W.heap.size W w') := hid (fun W => by rw [← HO.out, ← HOH.out]; exact hexD _ HFT.out.2 W)
                have CT3 : Hid (∀ W : World, Calls Tryz.prog 33 #[.string Z2] W (PostLm (tx (rfT (nm, xo))) W)) := hid (fun W => C33.out W (rfT (nm, xo)) Z2 HTT (rfT_ne _) (by have := HCL.out; omega))
                refine wp_region_held_drew (S := Q13o G b (off + i * 22) Xn O (.slice (some ⟨b, off, none⟩) m cap)) (by kernel_rfl) (HQS.out _ (Below.refl _ _)) (fun hHeld => ?_)
                generalize u0.drew = u1 at hHeld HTd HQS ⊢
                refine takeL (i := 0) (v := ?_) rfl (by kernel_rfl) (by kernel_rfl) (by kernel_rfl) (fun _ _ _ h => h) (Or.inl ⟨by rfl, ?_⟩) hHeld ?_
                rotate_left
                · rintro w' ⟨c1, c3, r1⟩; go_simp; rfl
                try simp only [Act.put, List.setIfInBounds_toArray, List.set_cons_zero, List.set_cons_succ]
                refine takeL (i := 1) (v := ?_) rfl (by kernel_rfl) (by kernel_rfl) (by kernel_rfl) (fun _ _ _ h => h) (Or.inl ⟨by rfl, ?_⟩) hHeld ?_
                rotate_left
                · rintro w' ⟨c1, c3, r1⟩; go_simp; rfl
                try simp only [Act.put, List.setIfInBounds_toArray, List.set_cons_zero, List.set_cons_succ]
                refine takeL (i := 2) (v := ?_) rfl (by kernel_rfl) (by kernel_rfl) (by kernel_rfl) (fun _ _ _ h => h) (Or.inl ⟨by rfl, ?_⟩) hHeld ?_
                rotate_left
                · rintro w' ⟨c1, c3, r1⟩; go_simp; rfl
                try simp only [Act.put, List.setIfInBounds_toArray, List.set_cons_zero, List.set_cons_succ]
                refine takeL (i := 3) (v := ?_) rfl (by kernel_rfl) (by kernel_rfl) (by kernel_rfl) (fun _ _ _ h => h) (Or.inl ⟨by rfl, ?_⟩) hHeld ?_
                rotate_left
                · rintro w' ⟨c1, c3, r1⟩; go_simp; rfl
                try simp only [Act.put, List.setIfInBounds_toArray, List.set_cons_zero, List.set_cons_succ]
                refine takeL (i := 4) (v := ?_) rfl (by kernel_rfl) (by kernel_rfl) (by kernel_rfl) (fun _ _ _ h => h) (Or.inl ⟨by rfl, ?_⟩) hHeld ?_
                rotate_left
                · rintro w' ⟨c1, c3, r1⟩; go_simp; rfl
                try simp only [Act.put, List.setIfInBounds_toArray, List.set_cons_zero, List.set_cons_succ]
                refine takeL (i := 5) (v := .agg O.toArray) rfl (by kernel_rfl) (by kernel_rfl) (by kernel_rfl) (fun _ _ _ h => h) (yieldsIf_load_mid (by kernel_rfl) 67 _ rfl b (off + i * 22 + 1) (by rfl) O _ (fun w' h => h.r1) Tryz.underlying67 rfl hiO) hHeld ?_
                try simp only [Act.put, List.setIfInBounds_toArray, List.set_cons_zero, List.set_cons_succ]
                refine takeL (i := 8) (v := ?_) rfl (by kernel_rfl) (by kernel_rfl) (by kernel_rfl) (fun _ _ _ h => h) (Or.inl ⟨by rfl, ?_⟩) hHeld ?_
                rotate_left
                · rintro w' ⟨c1, c3, r1⟩; go_simp; rfl
                try simp only [Act.put, List.setIfInBounds_toArray, List.set_cons_zero, List.set_cons_succ]
                refine takeL (i := 9) (v := ?_) rfl (by kernel_rfl) (by kernel_rfl) (by kernel_rfl) (fun _ _ _ h => h) (Or.inl ⟨by rfl, ?_⟩) hHeld ?_
                rotate_left
                · rintro w' ⟨c1, c3, r1⟩; go_simp; rfl
                try simp only [Act.put, List.setIfInBounds_toArray, List.set_cons_zero, List.set_cons_succ]
                refine takeL (i := 10) (v := ?_) rfl (by kernel_rfl) (by kernel_rfl) (by kernel_rfl) (fun _ _ _ h => h) (Or.inl ⟨by rfl, ?_⟩) hHeld ?_
                rotate_left
                · rintro w' ⟨c1, c3, r1⟩; go_simp; rfl
                try simp only [Act.put, List.setIfInBounds_toArray, List.set_cons_zero, List.set_cons_succ]
                refine takeL (i := 11) (v := ?_) rfl (by kernel_rfl) (by kernel_rfl) (by kernel_rfl) (fun _ _ _ h => h) (Or.inl ⟨by rfl, ?_⟩) hHeld ?_
                rotate_left
                · rintro w' ⟨c1, c3, r1⟩; go_simp; rfl
                try simp only [Act.put, List.setIfInBounds_toArray, List.set_cons_zero, List.set_cons_succ]
                refine takeL (i := 12) (v := ?_) rfl (by kernel_rfl) (by kernel_rfl) (by kernel_rfl) (fun _ _ _ h => h) (Or.inl ⟨by rfl, ?_⟩) hHeld ?_
                rotate_left
                · rintro w' ⟨c1, c3, r1⟩; go_simp; rfl
                try simp only [Act.put, List.setIfInBounds_toArray, List.set_cons_zero, List.set_cons_succ]
                refine takeL (i := 13) (v := ?_) rfl (by kernel_rfl) (by kernel_rfl) (by kernel_rfl) (fun _ _ _ h => h) (Or.inl ⟨by rfl, ?_⟩) hHeld ?_
                rotate_left
                · rintro w' ⟨c1, c3, r1⟩; go_simp; rfl
                try simp only [Act.put, List.setIfInBounds_toArray, List.set_cons_zero, List.set_cons_succ]
                refine wpAnyH_ready (rs := [6]) (by kernel_rfl) (by simp) ?_
                refine consL rfl (fun KK hKK => ?_) AllReadyH.nil
                refine step_callv (by rfl) 34 [.tmp 73] _ [.agg O.toArray] _ (by rfl) (by rfl) (enter34 _) (C34a.out _) ?_
                rintro ev w6 ⟨rfl, hb⟩
                refine ⟨_, rfl, ?_⟩
                have HB6 : Hid (Below u1.heap.size u1 w6) := hid hb
                refine hKK.out _ _ (HQS.out _ hb) (fun hHeld2 => ?_)
                clear hKK KK hb
                try simp only [Act.put, List.setIfInBounds_toArray, List.set_cons_zero, List.set_cons_succ]
                refine takeL (i := 7) (v := .string Z1) rfl (by kernel_rfl) (by kernel_rfl) (by kernel_rfl) (fun _ _ _ h => h) (Or.inl ⟨by rfl, ?_⟩) hHeld2 ?_
                · rintro w' ⟨c1, c3, r1⟩; rw [← HZ1.out]; go_simp; first | done | omega | rfl
                try simp only [Act.put, List.setIfInBounds_toArray, List.set_cons_zero, List.set_cons_succ]
                refine takeL (i := 14) (v := .string Z2) rfl (by kernel_rfl) (by kernel_rfl) (by kernel_rfl) (fun _ _ _ h => h) (Or.inl ⟨by rfl, ?_⟩) hHeld2 ?_
                · rintro w' ⟨c1, c3, r1⟩; rw [← HZ2.out]; go_simp; first | done | omega | rfl
                try simp only [Act.put, List.setIfInBounds_toArray, List.set_cons_zero, List.set_cons_succ]
                refine wpAnyH_ready (rs := [15]) (by kernel_rfl) (by simp) ?_
                refine consL rfl (fun KK hKK => ?_) AllReadyH.nil
                refine step_callv (by rfl) 33 [.tmp 82] _ [.string Z2] _ (by rfl) (by rfl) (enter33 _) (CT3.out _) ?_
                rintro ev w7 ⟨hb7, g7, c7, rfl, hg7, hp7⟩
                refine ⟨_, rfl, ?_⟩
                have HB7 : Hid (Below u1.heap.size u1 w7) := hid (HB6.out.trans (hb7.mono HB6.out.size))
                have HP7 := hid hp7.pb
                refine hKK.out _ _ (HQS.out _ HB7.out) (fun hHeld3 => ?_)
                clear hKK KK hb7 hg7 hp7
                try simp only [Act.put, List.setIfInBounds_toArray, List.set_cons_zero, List.set_cons_succ]
                refine takeL (i := 16) (v := ?_) rfl (by kernel_rfl) (by kernel_rfl) (by kernel_rfl) (fun _ _ _ h => h) (Or.inl ⟨by rfl, ?_⟩) hHeld3 ?_
                rotate_left
                · rintro w' ⟨c1, c3, r1⟩; go_simp; rfl
                try simp only [Act.put, List.setIfInBounds_toArray, List.set_cons_zero, List.set_cons_succ]
                refine wpAnyH_done (by kernel_rfl) ?_ _
                clear hHeld hHeld2 hHeld3
                have HS7 := hid (HTd.out.below HB7.out)
                obtain ⟨v8, w8, hr8, hs8⟩ := HS7.out.sl g7 0 c7 (pkt (tx (rfT (nm, xo)))) HP7.out (by have := HSL.out; rw [pkt_len]; have := tx_len (rfT (nm, xo)); have := HCL.out; omega)
                obtain ⟨K8, HK8⟩ : ∃ n, Hid ((pkt (tx (rfT (nm, xo)))).length = n) := ⟨_, rfl⟩
                rw [HK8.out] at hr8
                rw [HK8.out]
                have HS8 : Hid (Wmk (G + 1) w1 w8 v8 (ofP h l (i + 1))) := hid (by
                  rw [HTK.out]
                  exact hs8)
                have HN3 : Hid (∀ j, j < i + 1 → okAt l j) := hid (fun j hj => by
                  by_cases hji : j < i
                  · exact HND.out j hji
                  · have : j = i := by omega
                    subst this
                    exact HOKI.out)
                clear hs8
                go_wp2_with (first | (at_builtin; refine wpList_app rfl _ _ 25 25 rfl 25 rfl _ _ rfl rfl hr8 ?_) | fail)
                go_roundg (m - (i + 1))
                case measure => omega
                case rel => exact ⟨i + 1, by omega, rfl, by go_num, HS8, HN3⟩
            · have hNf : Nm.isN nm = false := by simpa using hN
              have HNO : Hid (¬ OkO h l) := hid (fun k => hN (HAT.out.1 (k.2.1 i HLI.out)).1)
              have HF := hid (HGW.out _ HSd.out.bl)
              rw [hNf]
              clear hN hNf
              go_wp2_with fail
              refine wp_region_held_drew (S := Q11 G b (off + (i - 1) * 22) (off + i * 22) Yn Xn (.slice (some ⟨b, off, none⟩) m cap)) (by kernel_rfl) (HQ1.out _ HSd.out.bl) (fun hHeld => ?_)
              generalize w5.drew = u0 at hHeld HSd HF ⊢
              refine takeL (i := 0) (v := ?_) rfl (by kernel_rfl) (by kernel_rfl) (by kernel_rfl) (fun _ _ _ h => h) (Or.inl ⟨by rfl, ?_⟩) hHeld ?_
              rotate_left
              · rintro w' ⟨c1, c2, c3⟩; go_simp; rfl
              try simp only [Act.put, List.setIfInBounds_toArray, List.set_cons_zero, List.set_cons_succ]
              refine takeL (i := 1) (v := ?_) rfl (by kernel_rfl) (by kernel_rfl) (by kernel_rfl) (fun _ _ _ h => h) (Or.inl ⟨by rfl, ?_⟩) hHeld ?_
              rotate_left
              · rintro w' ⟨c1, c2, c3⟩; go_simp; rfl
              try simp only [Act.put, List.setIfInBounds_toArray, List.set_cons_zero, List.set_cons_succ]
              refine takeL (i := 2) (v := ?_) rfl (by kernel_rfl) (by kernel_rfl) (by kernel_rfl) (fun _ _ _ h => h) (Or.inl ⟨by rfl, ?_⟩) hHeld ?_
              rotate_left
              · rintro w' ⟨c1, c2, c3⟩; go_simp; rfl
              try simp only [Act.put, List.setIfInBounds_toArray, List.set_cons_zero, List.set_cons_succ]
              refine takeL (i := 3) (v := undef) rfl (by kernel_rfl) (by kernel_rfl) (by kernel_rfl) (fun _ _ _ h => h) (Or.inr ⟨by rfl, rfl⟩) hHeld ?_
              try simp only [Act.put, List.setIfInBounds_toArray, List.set_cons_zero, List.set_cons_succ]
              refine takeL (i := 4) (v := undef) rfl (by kernel_rfl) (by kernel_rfl) (by kernel_rfl) (fun _ _ _ h => h) (Or.inr ⟨by rfl, rfl⟩) hHeld ?_
              try simp only [Act.put, List.setIfInBounds_toArray, List.set_cons_zero, List.set_cons_succ]
              refine takeL (i := 5) (v := undef) rfl (by kernel_rfl) (by kernel_rfl) (by kernel_rfl) (fun _ _ _ h => h) (Or.inr ⟨by rfl, rfl⟩) hHeld ?_
              try simp only [Act.put, List.setIfInBounds_toArray, List.set_cons_zero, List.set_cons_succ]
              refine takeL (i := 6) (v := undef) rfl (by kernel_rfl) (by kernel_rfl) (by kernel_rfl) (fun _ _ _ h => h) (Or.inr ⟨by rfl, rfl⟩) hHeld ?_
              try simp only [Act.put, List.setIfInBounds_toArray, List.set_cons_zero, List.set_cons_succ]
              refine takeL (i := 7) (v := undef) rfl (by kernel_rfl) (by kernel_rfl) (by kernel_rfl) (fun _ _ _ h => h) (Or.inr ⟨by rfl, rfl⟩) hHeld ?_
              try simp only [Act.put, List.setIfInBounds_toArray, List.set_cons_zero, List.set_cons_succ]
              refine takeL (i := 8) (v := undef) rfl (by kernel_rfl) (by kernel_rfl) (by kernel_rfl) (fun _ _ _ h => h) (Or.inr ⟨by rfl, rfl⟩) hHeld ?_
              try simp only [Act.put, List.setIfInBounds_toArray, List.set_cons_zero, List.set_cons_succ]
              refine takeL (i := 9) (v := undef) rfl (by kernel_rfl) (by kernel_rfl) (by kernel_rfl) (fun _ _ _ h => h) (Or.inr ⟨by rfl, rfl⟩) hHeld ?_
              try simp only [Act.put, List.setIfInBounds_toArray, List.set_cons_zero, List.set_cons_succ]
              refine takeL (i := 10) (v := undef) rfl (by kernel_rfl) (by kernel_rfl) (by kernel_rfl) (fun _ _ _ h => h) (Or.inr ⟨by rfl, rfl⟩) hHeld ?_
              try simp only [Act.put, List.setIfInBounds_toArray, List.set_cons_zero, List.set_cons_succ]
              refine takeL (i := 11) (v := undef) rfl (by kernel_rfl) (by kernel_rfl) (by kernel_rfl) (fun _ _ _ h => h) (Or.inr ⟨by rfl, rfl⟩) hHeld ?_
              try simp only [Act.put, List.setIfInBounds_toArray, List.set_cons_zero, List.set_cons_succ]
              refine takeL (i := 12) (v := undef) rfl (by kernel_rfl) (by kernel_rfl) (by kernel_rfl) (fun _ _ _ h => h) (Or.inr ⟨by rfl, rfl⟩) hHeld ?_
              try simp only [Act.put, List.setIfInBounds_toArray, List.set_cons_zero, List.set_cons_succ]
              refine takeL (i := 13) (v := undef) rfl (by kernel_rfl) (by kernel_rfl) (by kernel_rfl) (fun _ _ _ h => h) (Or.inr ⟨by rfl, rfl⟩) hHeld ?_
              try simp only [Act.put, List.setIfInBounds_toArray, List.set_cons_zero, List.set_cons_succ]
              refine takeL (i := 14) (v := undef) rfl (by kernel_rfl) (by kernel_rfl) (by kernel_rfl) (fun _ _ _ h => h) (Or.inr ⟨by rfl, rfl⟩) hHeld ?_
              try simp only [Act.put, List.setIfInBounds_toArray, List.set_cons_zero, List.set_cons_succ]
              refine takeL (i := 15) (v := undef) rfl (by kernel_rfl) (by kernel_rfl) (by kernel_rfl) (fun _ _ _ h => h) (Or.inr ⟨by rfl, rfl⟩) hHeld ?_
              try simp only [Act.put, List.setIfInBounds_toArray, List.set_cons_zero, List.set_cons_succ]
              refine takeL (i := 16) (v := undef) rfl (by kernel_rfl) (by kernel_rfl) (by kernel_rfl) (fun _ _ _ h => h) (Or.inr ⟨by rfl, rfl⟩) hHeld ?_
              try simp only [Act.put, List.setIfInBounds_toArray, List.set_cons_zero, List.set_cons_succ]
              refine takeL (i := 17) (v := undef) rfl (by kernel_rfl) (by kernel_rfl) (by kernel_rfl) (fun _ _ _ h => h) (Or.inr ⟨by rfl, rfl⟩) hHeld ?_
              try simp only [Act.put, List.setIfInBounds_toArray, List.set_cons_zero, List.set_cons_succ]
              refine takeL (i := 18) (v := undef) rfl (by kernel_rfl) (by kernel_rfl) (by kernel_rfl) (fun _ _ _ h => h) (Or.inr ⟨by rfl, rfl⟩) hHeld ?_
              try simp only [Act.put, List.setIfInBounds_toArray, List.set_cons_zero, List.set_cons_succ]
              refine takeL (i := 19) (v := undef) rfl (by kernel_rfl) (by kernel_rfl) (by kernel_rfl) (fun _ _ _ h => h) (Or.inr ⟨by rfl, rfl⟩) hHeld ?_
              try simp only [Act.put, List.setIfInBounds_toArray, List.set_cons_zero, List.set_cons_succ]
              refine takeL (i := 20) (v := undef) rfl (by kernel_rfl) (by kernel_rfl) (by kernel_rfl) (fun _ _ _ h => h) (Or.inr ⟨by rfl, rfl⟩) hHeld ?_
              try simp only [Act.put, List.setIfInBounds_toArray, List.set_cons_zero, List.set_cons_succ]
              refine takeL (i := 21) (v := .bool true) rfl (by kernel_rfl) (by kernel_rfl) (by kernel_rfl) (fun _ _ _ h => h) (Or.inl ⟨by rfl, ?_⟩) hHeld ?_
              · rintro w' ⟨c1, c2, c3⟩; go_simp; try rfl
              try simp only [Act.put, List.setIfInBounds_toArray, List.set_cons_zero, List.set_cons_succ]
              refine wpAnyH_done (by kernel_rfl) ?_ _
              clear hHeld
              go_wp2
              refine bodyPost_ret (results_tmp2 Tryz.results9 _ _ _) rfl ?_
              exact ⟨HF.out, .inr ⟨HNO.out, rfl⟩⟩
          · have hlti : ¬ (i : Int) < (m : Int) := by omega
            have HNF : Hid (OkO h l) := hid ⟨HOKH.out, fun j hj => HND.out j (by have := HM.out; omega), by have := HM.out; omega⟩
            obtain ⟨v8, w8, hr8, hs8⟩ := HS.out.str [48, 48, 48, 48] (by have := HSL.out; have : ([48, 48, 48, 48] : Str).length = 4 := rfl; omega)
            rw [ofP_end h l i (by have := HM.out; omega)] at hs8
            obtain ⟨a8, c8, hv8, hp8⟩ := hs8.pb
            have HS8 := hid hs8
            have HP8 := hid hp8
            have HV8 := hid hv8
            have HF := hid (HGW.out _ hs8.bl)
            clear hs8 hp8 hv8
            go_wp2_with (first | (at_builtin; refine wpList_app rfl _ _ 25 9 rfl 25 rfl _ _ rfl rfl hr8 ?_) | fail)
            refine bodyPost_ret (results_tmp2 Tryz.results9 _ _ _) rfl ?_
            exact ⟨HF.out, .inl ⟨HNF.out, a8, c8, by rw [← HV8.out]; rfl, HP8.out⟩⟩
      · have hN : Nm.isN h = true := hok.resolve_left h0
        have heq : (X.toList == []) = false := by rw [← HX.out]; simp; exact h0
        have hne : (X.toList != []) = true := by rw [bne, heq]; rfl
        obtain ⟨Zh, HZH⟩ : ∃ Z : ByteArray, Hid ((⟨#[104, 101, 97, 100, 32]⟩ : ByteArray) ++ X = Z) := ⟨_, hid rfl⟩
        have hcat : (⟨#[104, 101, 97, 100, 32]⟩ : ByteArray) ++ X = Zh := HZH.out
        have HZT : Hid ((⟨(hWo ++ h).toArray⟩ : ByteArray) = Zh) := hid (by rw [← HZH.out, ← HX.out]; exact (str_app hWo h).symm)
        have hXs : X.size ≤ 60 := by rw [← HX.out, txt_len]; exact isN_len hN
        have CX := hid (C33.out w2 (hWo ++ h) Zh HZT (by simp [hWo]) (by have := isN_len hN; rw [List.length_append]; simp [hWo]; omega))
        have HP0 : Hid (ofP h l 0 = pkt (tx (hWo ++ h))) := hid (by unfold ofP hdL; rw [if_neg h0]; simp [pktL])
        rw [hN]
        clear hok h0 hN
        go_wp2_with fail
        refine CX.out.mono ?_
        rintro e w3 ⟨hb3, g3, c3, rfl, hg3, hm3⟩
        have S0 : Hid (Wmk (G + 1) w1 w3 (.slice (some ⟨g3, 0, none⟩) (pkt (tx (hWo ++ h))).length c3) (ofP h l 0)) := hid ⟨HB2.out.trans (hb3.mono (by have := HB2.out.size; have := HS1.out; omega)), by have := HB2.out.size; have := HS1.out; have := hb3.size; omega, .inr ⟨g3, c3, by rw [HP0.out], by have := HB2.out.size; have := HS1.out; omega, by rw [HP0.out]; exact hm3⟩⟩
        obtain ⟨K3, HK3⟩ : ∃ n, Hid ((pkt (tx (hWo ++ h))).length = n) := ⟨_, rfl⟩
        rw [HK3.out] at S0
        rw [HK3.out]
        clear hb3 hg3 hm3 hcat
        go_wp2_with fail
        go_loopg [4, 6] m (fun gg bv0 iv wr => ∃ i : Nat, i ≤ m ∧ gg = m - i ∧ iv = .int .i64 i ∧ Hid (Wmk (G + 1) w1 wr bv0 (ofP h l i)) ∧ Hid (∀ j, j < i → okAt l j))
        case atStart => exact ⟨0, Nat.zero_le _, rfl, rfl, S0, hid (fun j hj => by omega)⟩
        case round =>
          obtain ⟨i, hi, hk, rfl, HS, HND⟩ := hrel
          have HSL : Hid ((ofP h l i).length ≤ 60000) := hid (by
            have h1 := ofP_len h l i HOKH.out HIL.out.ids (fun j hj _ => HND.out j hj)
            omega)
          have q1 := (HC.out wr HS.out.bl).2
          by_cases hlt : i < m
          · have hlti : (i : Int) < (m : Int) := by omega
            obtain ⟨b, off, ha⟩ := HPL.out (by omega)
            have hil : i < l.length := by rw [HM.out]; exact hlt
            obtain ⟨x, HXX⟩ : ∃ x, Hid (l.getD i rf0 = x) := ⟨_, rfl⟩
            have hxf := HIL.out x (by rw [← HXX.out]; exact getD_mem l i _ hil)
            obtain ⟨nm, xo⟩ := x
            simp only at hxf
            obtain ⟨Xn, HXB⟩ : ∃ X : ByteArray, Hid (⟨nm.toArray⟩ = X) := ⟨_, hid rfl⟩
            obtain ⟨O, HO⟩ : ∃ S : List Value, Hid (row .u8 xo = S) := ⟨_, rfl⟩
            have hiO : (Tryz.prog.info? 67).map (·.size) = some O.length := by rw [← HO.out, row_len, hxf.2.1]; exact size67
            have HK0 : Hid (∀ W, Below (G + 1) w1 W → W.cell? ⟨b, off + i * 22, none⟩ = some (.string Xn) ∧ W.rangeAt b (off + i * 22 + 1) O) := hid (fun W hW => prd_at (HPP.out W hW) ha i hil _ HXX.out Xn HXB.out O HO.out)
            have CN := hid (C32.out wr nm Xn HXB hxf.1)
            have HTK : Hid (ofP h l (i + 1) = ofP h l i ++ pkt (tx (rfT (nm, xo)))) := hid (ofP_snoc h l i _ hil HXX.out)
            obtain ⟨y, HYY⟩ : ∃ y, Hid (l.getD (i - 1) rf0 = y) := ⟨_, rfl⟩
            obtain ⟨Yn, HYB⟩ : ∃ X : ByteArray, Hid (⟨y.1.toArray⟩ = X) := ⟨_, hid rfl⟩
            have HKY : Hid (∀ W, Below (G + 1) w1 W → W.cell? ⟨b, off + (i - 1) * 22, none⟩ = some (.string Yn)) := hid (fun W hW => (prd_at (HPP.out W hW) ha (i - 1) (by omega) _ HYY.out Yn HYB.out _ rfl).1)
            have HAT : Hid (okAt l i ↔ (Nm.isN nm = true ∧ (0 < i → Op.bytesLess y.1 nm = true))) := hid (by unfold okAt; rw [HXX.out, HYY.out])
            have HFT := hid hxf
            have HLI := hid hil
            subst ha
            have p0 := (HK0.out wr HS.out.bl).1
            clear hil hxf
            go_wp2_with fail
            refine CN.out.mono ?_
            rintro e w5 ⟨rfl, hb5⟩
            have HS5 := hid (HS.out.below hb5)
            clear hb5 p0 q1
            have HSd : Hid (Wmk (G + 1) w1 w5.drew u4 (ofP h l i)) := hid HS5.out.drew
            have HQ1 : Hid (∀ W, Below (G + 1) w1 W → Q11 G b (off + (i - 1) * 22) (off + i * 22) Yn Xn (.slice (some ⟨b, off, none⟩) m cap) W) := hid (fun W hW => ⟨(HC.out W hW).2, HKY.out W hW, (HK0.out W hW).1⟩)
            by_cases hN : Nm.isN nm = true
            · rw [hN]
              have HNN := hid hN
              clear hN
              by_cases h0 : 0 < i
              · have h0i : (0 : Int) < (i : Int) := by omega
                have hsub : (i : Int) - 1 = ((i - 1 : Nat) : Int) := by omega
                have hlm : ((i - 1 : Nat) : Int) < (m : Int) := by omega
                obtain ⟨i1, HI1⟩ : ∃ q, Hid (i - 1 = q) := ⟨_, rfl⟩
                rw [HI1.out] at hsub hlm HQ1
                have hwr : IntKind.i64.wrap (i1 : Int) = (i1 : Int) := wrap_i64 i1 (by have := HI1.out; omega)
                have HLS : Hid (Op.bytesLess Yn.toList Xn.toList = Op.bytesLess y.1 nm) := hid (by rw [← HYB.out, ← HXB.out]; simp)
                go_wp2_with fail
                refine wp_region_held_drew (S := Q11 G b (off + i1 * 22) (off + i * 22) Yn Xn (.slice (some ⟨b, off, none⟩) m cap)) (by kernel_rfl) (HQ1.out _ HSd.out.bl) (fun hHeld => ?_)
                generalize w5.drew = u0 at hHeld HSd ⊢
                refine takeL (i := 0) (v := ?_) rfl (by kernel_rfl) (by kernel_rfl) (by kernel_rfl) (fun _ _ _ h => h) (Or.inl ⟨by rfl, ?_⟩) hHeld ?_
                rotate_left
                · rintro w' ⟨c1, c2, c3⟩; go_simp; rfl
                try simp only [Act.put, List.setIfInBounds_toArray, List.set_cons_zero, List.set_cons_succ]
                refine takeL (i := 1) (v := ?_) rfl (by kernel_rfl) (by kernel_rfl) (by kernel_rfl) (fun _ _ _ h => h) (Or.inl ⟨by rfl, ?_⟩) hHeld ?_
                rotate_left
                · rintro w' ⟨c1, c2, c3⟩; go_simp; rfl
                try simp only [Act.put, List.setIfInBounds_toArray, List.set_cons_zero, List.set_cons_succ]
                refine takeL (i := 2) (v := ?_) rfl (by kernel_rfl) (by kernel_rfl) (by kernel_rfl) (fun _ _ _ h => h) (Or.inl ⟨by rfl, ?_⟩) hHeld ?_
                rotate_left
                · rintro w' ⟨c1, c2, c3⟩; go_simp; rfl
                try simp only [Act.put, List.setIfInBounds_toArray, List.set_cons_zero, List.set_cons_succ]
                refine takeL (i := 3) (v := ?_) rfl (by kernel_rfl) (by kernel_rfl) (by kernel_rfl) (fun _ _ _ h => h) (Or.inl ⟨by rfl, ?_⟩) hHeld ?_
                rotate_left
                · rintro w' ⟨c1, c2, c3⟩; go_simp; rfl
                try simp only [Act.put, List.setIfInBounds_toArray, List.set_cons_zero, List.set_cons_succ]
                refine takeL (i := 4) (v := ?_) rfl (by kernel_rfl) (by kernel_rfl) (by kernel_rfl) (fun _ _ _ h => h) (Or.inl ⟨by rfl, ?_⟩) hHeld ?_
                rotate_left
                · rintro w' ⟨c1, c2, c3⟩; go_simp; rfl
                try simp only [Act.put, List.setIfInBounds_toArray, List.set_cons_zero, List.set_cons_succ]
                refine takeL (i := 5) (v := ?_) rfl (by kernel_rfl) (by kernel_rfl) (by kernel_rfl) (fun _ _ _ h => h) (Or.inl ⟨by rfl, ?_⟩) hHeld ?_
                rotate_left
                · rintro w' ⟨c1, c2, c3⟩; go_simp; rfl
                try simp only [Act.put, List.setIfInBounds_toArray, List.set_cons_zero, List.set_cons_succ]
                refine takeL (i := 6) (v := ?_) rfl (by kernel_rfl) (by kernel_rfl) (by kernel_rfl) (fun _ _ _ h => h) (Or.inl ⟨by rfl, ?_⟩) hHeld ?_
                rotate_left
                · rintro w' ⟨c1, c2, c3⟩; go_simp; rfl
                try simp only [Act.put, List.setIfInBounds_toArray, List.set_cons_zero, List.set_cons_succ]
                refine takeL (i := 7) (v := ?_) rfl (by kernel_rfl) (by kernel_rfl) (by kernel_rfl) (fun _ _ _ h => h) (Or.inl ⟨by rfl, ?_⟩) hHeld ?_
                rotate_left
                · rintro w' ⟨c1, c2, c3⟩; go_simp; rfl
                try simp only [Act.put, List.setIfInBounds_toArray, List.set_cons_zero, List.set_cons_succ]
                refine takeL (i := 8) (v := ?_) rfl (by kernel_rfl) (by kernel_rfl) (by kernel_rfl) (fun _ _ _ h => h) (Or.inl ⟨by rfl, ?_⟩) hHeld ?_
                rotate_left
                · rintro w' ⟨c1, c2, c3⟩; go_simp; rfl
                try simp only [Act.put, List.setIfInBounds_toArray, List.set_cons_zero, List.set_cons_succ]
                refine takeL (i := 9) (v := ?_) rfl (by kernel_rfl) (by kernel_rfl) (by kernel_rfl) (fun _ _ _ h => h) (Or.inl ⟨by rfl, ?_⟩) hHeld ?_
                rotate_left
                · rintro w' ⟨c1, c2, c3⟩; go_simp; rfl
                try simp only [Act.put, List.setIfInBounds_toArray, List.set_cons_zero, List.set_cons_succ]
                refine takeL (i := 10) (v := ?_) rfl (by kernel_rfl) (by kernel_rfl) (by kernel_rfl) (fun _ _ _ h => h) (Or.inl ⟨by rfl, ?_⟩) hHeld ?_
                rotate_left
                · rintro w' ⟨c1, c2, c3⟩; go_simp; rfl
                try simp only [Act.put, List.setIfInBounds_toArray, List.set_cons_zero, List.set_cons_succ]
                refine takeL (i := 11) (v := ?_) rfl (by kernel_rfl) (by kernel_rfl) (by kernel_rfl) (fun _ _ _ h => h) (Or.inl ⟨by rfl, ?_⟩) hHeld ?_
                rotate_left
                · rintro w' ⟨c1, c2, c3⟩; go_simp; rfl
                try simp only [Act.put, List.setIfInBounds_toArray, List.set_cons_zero, List.set_cons_succ]
                refine takeL (i := 12) (v := ?_) rfl (by kernel_rfl) (by kernel_rfl) (by kernel_rfl) (fun _ _ _ h => h) (Or.inl ⟨by rfl, ?_⟩) hHeld ?_
                rotate_left
                · rintro w' ⟨c1, c2, c3⟩; go_simp; rfl
                try simp only [Act.put, List.setIfInBounds_toArray, List.set_cons_zero, List.set_cons_succ]
                refine takeL (i := 13) (v := ?_) rfl (by kernel_rfl) (by kernel_rfl) (by kernel_rfl) (fun _ _ _ h => h) (Or.inl ⟨by rfl, ?_⟩) hHeld ?_
                rotate_left
                · rintro w' ⟨c1, c2, c3⟩; go_simp; rfl
                try simp only [Act.put, List.setIfInBounds_toArray, List.set_cons_zero, List.set_cons_succ]
                refine takeL (i := 14) (v := ?_) rfl (by kernel_rfl) (by kernel_rfl) (by kernel_rfl) (fun _ _ _ h => h) (Or.inl ⟨by rfl, ?_⟩) hHeld ?_
                rotate_left
                · rintro w' ⟨c1, c2, c3⟩; go_simp; rfl
                try simp only [Act.put, List.setIfInBounds_toArray, List.set_cons_zero, List.set_cons_succ]
                refine takeL (i := 15) (v := ?_) rfl (by kernel_rfl) (by kernel_rfl) (by kernel_rfl) (fun _ _ _ h => h) (Or.inl ⟨by rfl, ?_⟩) hHeld ?_
                rotate_left
                · rintro w' ⟨c1, c2, c3⟩; go_simp; rfl
                try simp only [Act.put, List.setIfInBounds_toArray, List.set_cons_zero, List.set_cons_succ]
                refine takeL (i := 16) (v := ?_) rfl (by kernel_rfl) (by kernel_rfl) (by kernel_rfl) (fun _ _ _ h => h) (Or.inl ⟨by rfl, ?_⟩) hHeld ?_
                rotate_left
                · rintro w' ⟨c1, c2, c3⟩; go_simp; rfl
                try simp only [Act.put, List.setIfInBounds_toArray, List.set_cons_zero, List.set_cons_succ]
                refine takeL (i := 17) (v := ?_) rfl (by kernel_rfl) (by kernel_rfl) (by kernel_rfl) (fun _ _ _ h => h) (Or.inl ⟨by rfl, ?_⟩) hHeld ?_
                rotate_left
                · rintro w' ⟨c1, c2, c3⟩; go_simp; rfl
                try simp only [Act.put, List.setIfInBounds_toArray, List.set_cons_zero, List.set_cons_succ]
                refine takeL (i := 18) (v := ?_) rfl (by kernel_rfl) (by kernel_rfl) (by kernel_rfl) (fun _ _ _ h => h) (Or.inl ⟨by rfl, ?_⟩) hHeld ?_
                rotate_left
                · rintro w' ⟨c1, c2, c3⟩; go_simp; rfl
                try simp only [Act.put, List.setIfInBounds_toArray, List.set_cons_zero, List.set_cons_succ]
                by_cases hls : Op.bytesLess y.1 nm = true
                · have hlb : Op.bytesLess Yn.toList Xn.toList = true := by rw [HLS.out]; exact hls
                  have HOKI : Hid (okAt l i) := hid (HAT.out.2 ⟨HNN.out, fun _ => hls⟩)
                  refine takeL (i := 19) (v := .bool false) rfl (by kernel_rfl) (by kernel_rfl) (by kernel_rfl) (fun _ _ _ h => h) (Or.inl ⟨by rfl, ?_⟩) hHeld ?_
                  · rintro w' ⟨c1, c2, c3⟩; go_simp; try rfl
                  try simp only [Act.put, List.setIfInBounds_toArray, List.set_cons_zero, List.set_cons_succ]
                  refine takeL (i := 20) (v := .bool false) rfl (by kernel_rfl) (by kernel_rfl) (by kernel_rfl) (fun _ _ _ h => h) (Or.inl ⟨by rfl, ?_⟩) hHeld ?_
                  · rintro w' ⟨c1, c2, c3⟩; go_simp; try rfl
                  try simp only [Act.put, List.setIfInBounds_toArray, List.set_cons_zero, List.set_cons_succ]
                  refine takeL (i := 21) (v := .bool false) rfl (by kernel_rfl) (by kernel_rfl) (by kernel_rfl) (fun _ _ _ h => h) (Or.inl ⟨by rfl, ?_⟩) hHeld ?_
                  · rintro w' ⟨c1, c2, c3⟩; go_simp; try rfl
                  try simp only [Act.put, List.setIfInBounds_toArray, List.set_cons_zero, List.set_cons_succ]
                  refine wpAnyH_done (by kernel_rfl) ?_ _
                  clear hHeld hls hlb
                  go_wp2_with fail
                  obtain ⟨Oh, HOH⟩ : ∃ W : ByteArray, Hid (⟨(hxS xo).toArray⟩ = W) := ⟨_, hid rfl⟩
                  obtain ⟨Z1, HZ1⟩ : ∃ Z : ByteArray, Hid (Oh ++ (⟨#[32]⟩ : ByteArray) = Z) := ⟨_, hid rfl⟩
                  obtain ⟨Z2, HZ2⟩ : ∃ Z : ByteArray, Hid (Z1 ++ Xn = Z) := ⟨_, hid rfl⟩
                  have HTT : Hid ((⟨(rfT (nm, xo)).toArray⟩ : ByteArray) = Z2) := hid (by
                    rw [← HZ2.out, ← HZ1.out, ← HOH.out, ← HXB.out, show (⟨#[32]⟩ : ByteArray) = ⟨([32] : Str).toArray⟩ from rfl, str_app, str_app]
                    rfl)
                  have HNL : Hid (nm.length ≤ 60) := hid (isN_len HNN.out)
                  have hXs : Xn.size ≤ 60 := by rw [← HXB.out, txt_len]; exact HNL.out
                  have hOh : Oh.size = 40 := by rw [← HOH.out, txt_len]; exact hxS_len _ HFT.out.2
                  have hZ1 : Z1.size = 41 := by rw [← HZ1.out, ByteArray.size_append, hOh]; rfl
                  have HCL : Hid ((rfT (nm, xo)).length ≤ 101) := hid (by
                    rw [rfT_len HFT.out.2]
                    have := HNL.out
                    simp only
                    omega)
                  have HTd : Hid (Wmk (G + 1) w1 u0.drew u4 (ofP h l i)) := hid HSd.out.drew
                  have HQS : Hid (∀ W, Below u0.drew.heap.size u0.drew W → Q13o G b (off + i * 22) Xn O (.slice (some ⟨b, off, none⟩) m cap) W) := hid (fun W hW => by
                    have hbw : Below (G + 1) w1 W := HTd.out.bl.trans (hW.mono HTd.out.le)
                    exact ⟨(HC.out W hbw).2, (HK0.out W hbw).1, (HK0.out W hbw).2⟩)
                  have C34a : Hid (∀ W, Calls Tryz.prog 34 #[.agg O.toArray] W fun e w' => e = .returned (.string Oh) ∧ Below W.heap.size W w') := hid (fun W => by rw [← HO.out, ← HOH.out]; exact hexD _ HFT.out.2 W)
                  have CT3 : Hid (∀ W : World, Calls Tryz.prog 33 #[.string Z2] W (PostLm (tx (rfT (nm, xo))) W)) := hid (fun W => C33.out W (rfT (nm, xo)) Z2 HTT (rfT_ne _) (by have := HCL.out; omega))
                  refine wp_region_held_drew (S := Q13o G b (off + i * 22) Xn O (.slice (some ⟨b, off, none⟩) m cap)) (by kernel_rfl) (HQS.out _ (Below.refl _ _)) (fun hHeld => ?_)
                  generalize u0.drew = u1 at hHeld HTd HQS ⊢
                  refine takeL (i := 0) (v := ?_) rfl (by kernel_rfl) (by kernel_rfl) (by kernel_rfl) (fun _ _ _ h => h) (Or.inl ⟨by rfl, ?_⟩) hHeld ?_
                  rotate_left
                  · rintro w' ⟨c1, c3, r1⟩; go_simp; rfl
                  try simp only [Act.put, List.setIfInBounds_toArray, List.set_cons_zero, List.set_cons_succ]
                  refine takeL (i := 1) (v := ?_) rfl (by kernel_rfl) (by kernel_rfl) (by kernel_rfl) (fun _ _ _ h => h) (Or.inl ⟨by rfl, ?_⟩) hHeld ?_
                  rotate_left
                  · rintro w' ⟨c1, c3, r1⟩; go_simp; rfl
                  try simp only [Act.put, List.setIfInBounds_toArray, List.set_cons_zero, List.set_cons_succ]
                  refine takeL (i := 2) (v := ?_) rfl (by kernel_rfl) (by kernel_rfl) (by kernel_rfl) (fun _ _ _ h => h) (Or.inl ⟨by rfl, ?_⟩) hHeld ?_
                  rotate_left
                  · rintro w' ⟨c1, c3, r1⟩; go_simp; rfl
                  try simp only [Act.put, List.setIfInBounds_toArray, List.set_cons_zero, List.set_cons_succ]
                  refine takeL (i := 3) (v := ?_) rfl (by kernel_rfl) (by kernel_rfl) (by kernel_rfl) (fun _ _ _ h => h) (Or.inl ⟨by rfl, ?_⟩) hHeld ?_
                  rotate_left
                  · rintro w' ⟨c1, c3, r1⟩; go_simp; rfl
                  try simp only [Act.put, List.setIfInBounds_toArray, List.set_cons_zero, List.set_cons_succ]
                  refine takeL (i := 4) (v := ?_) rfl (by kernel_rfl) (by kernel_rfl) (by kernel_rfl) (fun _ _ _ h => h) (Or.inl ⟨by rfl, ?_⟩) hHeld ?_
                  rotate_left
                  · rintro w' ⟨c1, c3, r1⟩; go_simp; rfl
                  try simp only [Act.put, List.setIfInBounds_toArray, List.set_cons_zero, List.set_cons_succ]
                  refine takeL (i := 5) (v := .agg O.toArray) rfl (by kernel_rfl) (by kernel_rfl) (by kernel_rfl) (fun _ _ _ h => h) (yieldsIf_load_mid (by kernel_rfl) 67 _ rfl b (off + i * 22 + 1) (by rfl) O _ (fun w' h => h.r1) Tryz.underlying67 rfl hiO) hHeld ?_
                  try simp only [Act.put, List.setIfInBounds_toArray, List.set_cons_zero, List.set_cons_succ]
                  refine takeL (i := 8) (v := ?_) rfl (by kernel_rfl) (by kernel_rfl) (by kernel_rfl) (fun _ _ _ h => h) (Or.inl ⟨by rfl, ?_⟩) hHeld ?_
                  rotate_left
                  · rintro w' ⟨c1, c3, r1⟩; go_simp; rfl
                  try simp only [Act.put, List.setIfInBounds_toArray, List.set_cons_zero, List.set_cons_succ]
                  refine takeL (i := 9) (v := ?_) rfl (by kernel_rfl) (by kernel_rfl) (by kernel_rfl) (fun _ _ _ h => h) (Or.inl ⟨by rfl, ?_⟩) hHeld ?_
                  rotate_left
                  · rintro w' ⟨c1, c3, r1⟩; go_simp; rfl
                  try simp only [Act.put, List.setIfInBounds_toArray, List.set_cons_zero, List.set_cons_succ]
                  refine takeL (i := 10) (v := ?_) rfl (by kernel_rfl) (by kernel_rfl) (by kernel_rfl) (fun _ _ _ h => h) (Or.inl ⟨by rfl, ?_⟩) hHeld ?_
                  rotate_left
                  · rintro w' ⟨c1, c3, r1⟩; go_simp; rfl
                  try simp only [Act.put, List.setIfInBounds_toArray, List.set_cons_zero, List.set_cons_succ]
                  refine takeL (i := 11) (v := ?_) rfl (by kernel_rfl) (by kernel_rfl) (by kernel_rfl) (fun _ _ _ h => h) (Or.inl ⟨by rfl, ?_⟩) hHeld ?_
                  rotate_left
                  · rintro w' ⟨c1, c3, r1⟩; go_simp; rfl
                  try simp only [Act.put, List.setIfInBounds_toArray, List.set_cons_zero, List.set_cons_succ]
                  refine takeL (i := 12) (v := ?_) rfl (by kernel_rfl) (by kernel_rfl) (by kernel_rfl) (fun _ _ _ h => h) (Or.inl ⟨by rfl, ?_⟩) hHeld ?_
                  rotate_left
                  · rintro w' ⟨c1, c3, r1⟩; go_simp; rfl
                  try simp only [Act.put, List.setIfInBounds_toArray, List.set_cons_zero, List.set_cons_succ]
                  refine takeL (i := 13) (v := ?_) rfl (by kernel_rfl) (by kernel_rfl) (by kernel_rfl) (fun _ _ _ h => h) (Or.inl ⟨by rfl, ?_⟩) hHeld ?_
                  rotate_left
                  · rintro w' ⟨c1, c3, r1⟩; go_simp; rfl
                  try simp only [Act.put, List.setIfInBounds_toArray, List.set_cons_zero, List.set_cons_succ]
                  refine wpAnyH_ready (rs := [6]) (by kernel_rfl) (by simp) ?_
                  refine consL rfl (fun KK hKK => ?_) AllReadyH.nil
                  refine step_callv (by rfl) 34 [.tmp 73] _ [.agg O.toArray] _ (by rfl) (by rfl) (enter34 _) (C34a.out _) ?_
                  rintro ev w6 ⟨rfl, hb⟩
                  refine ⟨_, rfl, ?_⟩
                  have HB6 : Hid (Below u1.heap.size u1 w6) := hid hb
                  refine hKK.out _ _ (HQS.out _ hb) (fun hHeld2 => ?_)
                  clear hKK KK hb
                  try simp only [Act.put, List.setIfInBounds_toArray, List.set_cons_zero, List.set_cons_succ]
                  refine takeL (i := 7) (v := .string Z1) rfl (by kernel_rfl) (by kernel_rfl) (by kernel_rfl) (fun _ _ _ h => h) (Or.inl ⟨by rfl, ?_⟩) hHeld2 ?_
                  · rintro w' ⟨c1, c3, r1⟩; rw [← HZ1.out]; go_simp; first | done | omega | rfl
                  try simp only [Act.put, List.setIfInBounds_toArray, List.set_cons_zero, List.set_cons_succ]
                  refine takeL (i := 14) (v := .string Z2) rfl (by kernel_rfl) (by kernel_rfl) (by kernel_rfl) (fun _ _ _ h => h) (Or.inl ⟨by rfl, ?_⟩) hHeld2 ?_
                  · rintro w' ⟨c1, c3, r1⟩; rw [← HZ2.out]; go_simp; first | done | omega | rfl
                  try simp only [Act.put, List.setIfInBounds_toArray, List.set_cons_zero, List.set_cons_succ]
                  refine wpAnyH_ready (rs := [15]) (by kernel_rfl) (by simp) ?_
                  refine consL rfl (fun KK hKK => ?_) AllReadyH.nil
                  refine step_callv (by rfl) 33 [.tmp 82] _ [.string Z2] _ (by rfl) (by rfl) (enter33 _) (CT3.out _) ?_
                  rintro ev w7 ⟨hb7, g7, c7, rfl, hg7, hp7⟩
                  refine ⟨_, rfl, ?_⟩
                  have HB7 : Hid (Below u1.heap.size u1 w7) := hid (HB6.out.trans (hb7.mono HB6.out.size))
                  have HP7 := hid hp7.pb
                  refine hKK.out _ _ (HQS.out _ HB7.out) (fun hHeld3 => ?_)
                  clear hKK KK hb7 hg7 hp7
                  try simp only [Act.put, List.setIfInBounds_toArray, List.set_cons_zero, List.set_cons_succ]
                  refine takeL (i := 16) (v := ?_) rfl (by kernel_rfl) (by kernel_rfl) (by kernel_rfl) (fun _ _ _ h => h) (Or.inl ⟨by rfl, ?_⟩) hHeld3 ?_
                  rotate_left
                  · rintro w' ⟨c1, c3, r1⟩; go_simp; rfl
                  try simp only [Act.put, List.setIfInBounds_toArray, List.set_cons_zero, List.set_cons_succ]
                  refine wpAnyH_done (by kernel_rfl) ?_ _
                  clear hHeld hHeld2 hHeld3
                  have HS7 := hid (HTd.out.below HB7.out)
                  obtain ⟨v8, w8, hr8, hs8⟩ := HS7.out.sl g7 0 c7 (pkt (tx (rfT (nm, xo)))) HP7.out (by have := HSL.out; rw [pkt_len]; have := tx_len (rfT (nm, xo)); have := HCL.out; omega)
                  obtain ⟨K8, HK8⟩ : ∃ n, Hid ((pkt (tx (rfT (nm, xo)))).length = n) := ⟨_, rfl⟩
                  rw [HK8.out] at hr8
                  rw [HK8.out]
                  have HS8 : Hid (Wmk (G + 1) w1 w8 v8 (ofP h l (i + 1))) := hid (by
                    rw [HTK.out]
                    exact hs8)
                  have HN3 : Hid (∀ j, j < i + 1 → okAt l j) := hid (fun j hj => by
                    by_cases hji : j < i
                    · exact HND.out j hji
                    · have : j = i := by omega
                      subst this
                      exact HOKI.out)
                  clear hs8
                  go_wp2_with (first | (at_builtin; refine wpList_app rfl _ _ 25 25 rfl 25 rfl _ _ rfl rfl hr8 ?_) | fail)
                  go_roundg (m - (i + 1))
                  case measure => omega
                  case rel => exact ⟨i + 1, by omega, rfl, by go_num, HS8, HN3⟩
                · have hlb : Op.bytesLess Yn.toList Xn.toList = false := by rw [HLS.out]; simpa using hls
                  have HNO : Hid (¬ OkO h l) := hid (fun k => hls ((HAT.out.1 (k.2.1 i HLI.out)).2 h0))
                  have HF := hid (HGW.out _ HSd.out.bl)
                  refine takeL (i := 19) (v := .bool true) rfl (by kernel_rfl) (by kernel_rfl) (by kernel_rfl) (fun _ _ _ h => h) (Or.inl ⟨by rfl, ?_⟩) hHeld ?_
                  · rintro w' ⟨c1, c2, c3⟩; go_simp; try rfl
                  try simp only [Act.put, List.setIfInBounds_toArray, List.set_cons_zero, List.set_cons_succ]
                  refine takeL (i := 20) (v := .bool true) rfl (by kernel_rfl) (by kernel_rfl) (by kernel_rfl) (fun _ _ _ h => h) (Or.inl ⟨by rfl, ?_⟩) hHeld ?_
                  · rintro w' ⟨c1, c2, c3⟩; go_simp; try rfl
                  try simp only [Act.put, List.setIfInBounds_toArray, List.set_cons_zero, List.set_cons_succ]
                  refine takeL (i := 21) (v := .bool true) rfl (by kernel_rfl) (by kernel_rfl) (by kernel_rfl) (fun _ _ _ h => h) (Or.inl ⟨by rfl, ?_⟩) hHeld ?_
                  · rintro w' ⟨c1, c2, c3⟩; go_simp; try rfl
                  try simp only [Act.put, List.setIfInBounds_toArray, List.set_cons_zero, List.set_cons_succ]
                  refine wpAnyH_done (by kernel_rfl) ?_ _
                  clear hHeld hls hlb
                  go_wp2
                  refine bodyPost_ret (results_tmp2 Tryz.results9 _ _ _) rfl ?_
                  exact ⟨HF.out, .inr ⟨HNO.out, rfl⟩⟩
              · have h0i : ¬ (0 : Int) < (i : Int) := by omega
                have HOKI : Hid (okAt l i) := hid (HAT.out.2 ⟨HNN.out, fun k => absurd k h0⟩)
                go_wp2_with fail
                refine wp_region_held_drew (S := Q11 G b (off + (i - 1) * 22) (off + i * 22) Yn Xn (.slice (some ⟨b, off, none⟩) m cap)) (by kernel_rfl) (HQ1.out _ HSd.out.bl) (fun hHeld => ?_)
                generalize w5.drew = u0 at hHeld HSd ⊢
                refine takeL (i := 0) (v := ?_) rfl (by kernel_rfl) (by kernel_rfl) (by kernel_rfl) (fun _ _ _ h => h) (Or.inl ⟨by rfl, ?_⟩) hHeld ?_
                rotate_left
                · rintro w' ⟨c1, c2, c3⟩; go_simp; rfl
                try simp only [Act.put, List.setIfInBounds_toArray, List.set_cons_zero, List.set_cons_succ]
                refine takeL (i := 1) (v := ?_) rfl (by kernel_rfl) (by kernel_rfl) (by kernel_rfl) (fun _ _ _ h => h) (Or.inl ⟨by rfl, ?_⟩) hHeld ?_
                rotate_left
                · rintro w' ⟨c1, c2, c3⟩; go_simp; rfl
                try simp only [Act.put, List.setIfInBounds_toArray, List.set_cons_zero, List.set_cons_succ]
                refine takeL (i := 2) (v := ?_) rfl (by kernel_rfl) (by kernel_rfl) (by kernel_rfl) (fun _ _ _ h => h) (Or.inl ⟨by rfl, ?_⟩) hHeld ?_
                rotate_left
                · rintro w' ⟨c1, c2, c3⟩; go_simp; rfl
                try simp only [Act.put, List.setIfInBounds_toArray, List.set_cons_zero, List.set_cons_succ]
                refine takeL (i := 3) (v := ?_) rfl (by kernel_rfl) (by kernel_rfl) (by kernel_rfl) (fun _ _ _ h => h) (Or.inl ⟨by rfl, ?_⟩) hHeld ?_
                rotate_left
                · rintro w' ⟨c1, c2, c3⟩; go_simp; rfl
                try simp only [Act.put, List.setIfInBounds_toArray, List.set_cons_zero, List.set_cons_succ]
                refine takeL (i := 4) (v := ?_) rfl (by kernel_rfl) (by kernel_rfl) (by kernel_rfl) (fun _ _ _ h => h) (Or.inl ⟨by rfl, ?_⟩) hHeld ?_
                rotate_left
                · rintro w' ⟨c1, c2, c3⟩; go_simp; rfl
                try simp only [Act.put, List.setIfInBounds_toArray, List.set_cons_zero, List.set_cons_succ]
                refine takeL (i := 5) (v := ?_) rfl (by kernel_rfl) (by kernel_rfl) (by kernel_rfl) (fun _ _ _ h => h) (Or.inl ⟨by rfl, ?_⟩) hHeld ?_
                rotate_left
                · rintro w' ⟨c1, c2, c3⟩; go_simp; rfl
                try simp only [Act.put, List.setIfInBounds_toArray, List.set_cons_zero, List.set_cons_succ]
                refine takeL (i := 6) (v := undef) rfl (by kernel_rfl) (by kernel_rfl) (by kernel_rfl) (fun _ _ _ h => h) (Or.inr ⟨by rfl, rfl⟩) hHeld ?_
                try simp only [Act.put, List.setIfInBounds_toArray, List.set_cons_zero, List.set_cons_succ]
                refine takeL (i := 7) (v := undef) rfl (by kernel_rfl) (by kernel_rfl) (by kernel_rfl) (fun _ _ _ h => h) (Or.inr ⟨by rfl, rfl⟩) hHeld ?_
                try simp only [Act.put, List.setIfInBounds_toArray, List.set_cons_zero, List.set_cons_succ]
                refine takeL (i := 8) (v := undef) rfl (by kernel_rfl) (by kernel_rfl) (by kernel_rfl) (fun _ _ _ h => h) (Or.inr ⟨by rfl, rfl⟩) hHeld ?_
                try simp only [Act.put, List.setIfInBounds_toArray, List.set_cons_zero, List.set_cons_succ]
                refine takeL (i := 9) (v := undef) rfl (by kernel_rfl) (by kernel_rfl) (by kernel_rfl) (fun _ _ _ h => h) (Or.inr ⟨by rfl, rfl⟩) hHeld ?_
                try simp only [Act.put, List.setIfInBounds_toArray, List.set_cons_zero, List.set_cons_succ]
                refine takeL (i := 10) (v := undef) rfl (by kernel_rfl) (by kernel_rfl) (by kernel_rfl) (fun _ _ _ h => h) (Or.inr ⟨by rfl, rfl⟩) hHeld ?_
                try simp only [Act.put, List.setIfInBounds_toArray, List.set_cons_zero, List.set_cons_succ]
                refine takeL (i := 11) (v := undef) rfl (by kernel_rfl) (by kernel_rfl) (by kernel_rfl) (fun _ _ _ h => h) (Or.inr ⟨by rfl, rfl⟩) hHeld ?_
                try simp only [Act.put, List.setIfInBounds_toArray, List.set_cons_zero, List.set_cons_succ]
                refine takeL (i := 12) (v := undef) rfl (by kernel_rfl) (by kernel_rfl) (by kernel_rfl) (fun _ _ _ h => h) (Or.inr ⟨by rfl, rfl⟩) hHeld ?_
                try simp only [Act.put, List.setIfInBounds_toArray, List.set_cons_zero, List.set_cons_succ]
                refine takeL (i := 13) (v := undef) rfl (by kernel_rfl) (by kernel_rfl) (by kernel_rfl) (fun _ _ _ h => h) (Or.inr ⟨by rfl, rfl⟩) hHeld ?_
                try simp only [Act.put, List.setIfInBounds_toArray, List.set_cons_zero, List.set_cons_succ]
                refine takeL (i := 14) (v := undef) rfl (by kernel_rfl) (by kernel_rfl) (by kernel_rfl) (fun _ _ _ h => h) (Or.inr ⟨by rfl, rfl⟩) hHeld ?_
                try simp only [Act.put, List.setIfInBounds_toArray, List.set_cons_zero, List.set_cons_succ]
                refine takeL (i := 15) (v := undef) rfl (by kernel_rfl) (by kernel_rfl) (by kernel_rfl) (fun _ _ _ h => h) (Or.inr ⟨by rfl, rfl⟩) hHeld ?_
                try simp only [Act.put, List.setIfInBounds_toArray, List.set_cons_zero, List.set_cons_succ]
                refine takeL (i := 16) (v := undef) rfl (by kernel_rfl) (by kernel_rfl) (by kernel_rfl) (fun _ _ _ h => h) (Or.inr ⟨by rfl, rfl⟩) hHeld ?_
                try simp only [Act.put, List.setIfInBounds_toArray, List.set_cons_zero, List.set_cons_succ]
                refine takeL (i := 17) (v := undef) rfl (by kernel_rfl) (by kernel_rfl) (by kernel_rfl) (fun _ _ _ h => h) (Or.inr ⟨by rfl, rfl⟩) hHeld ?_
                try simp only [Act.put, List.setIfInBounds_toArray, List.set_cons_zero, List.set_cons_succ]
                refine takeL (i := 18) (v := undef) rfl (by kernel_rfl) (by kernel_rfl) (by kernel_rfl) (fun _ _ _ h => h) (Or.inr ⟨by rfl, rfl⟩) hHeld ?_
                try simp only [Act.put, List.setIfInBounds_toArray, List.set_cons_zero, List.set_cons_succ]
                refine takeL (i := 19) (v := undef) rfl (by kernel_rfl) (by kernel_rfl) (by kernel_rfl) (fun _ _ _ h => h) (Or.inr ⟨by rfl, rfl⟩) hHeld ?_
                try simp only [Act.put, List.setIfInBounds_toArray, List.set_cons_zero, List.set_cons_succ]
                refine takeL (i := 20) (v := .bool false) rfl (by kernel_rfl) (by kernel_rfl) (by kernel_rfl) (fun _ _ _ h => h) (Or.inl ⟨by rfl, ?_⟩) hHeld ?_
                · rintro w' ⟨c1, c2, c3⟩; go_simp; try rfl
                try simp only [Act.put, List.setIfInBounds_toArray, List.set_cons_zero, List.set_cons_succ]
                refine takeL (i := 21) (v := .bool false) rfl (by kernel_rfl) (by kernel_rfl) (by kernel_rfl) (fun _ _ _ h => h) (Or.inl ⟨by rfl, ?_⟩) hHeld ?_
                · rintro w' ⟨c1, c2, c3⟩; go_simp; try rfl
                try simp only [Act.put, List.setIfInBounds_toArray, List.set_cons_zero, List.set_cons_succ]
                refine wpAnyH_done (by kernel_rfl) ?_ _
                clear hHeld
                go_wp2_with fail
                obtain ⟨Oh, HOH⟩ : ∃ W : ByteArray, Hid (⟨(hxS xo).toArray⟩ = W) := ⟨_, hid rfl⟩
                obtain ⟨Z1, HZ1⟩ : ∃ Z : ByteArray, Hid (Oh ++ (⟨#[32]⟩ : ByteArray) = Z) := ⟨_, hid rfl⟩
                obtain ⟨Z2, HZ2⟩ : ∃ Z : ByteArray, Hid (Z1 ++ Xn = Z) := ⟨_, hid rfl⟩
                have HTT : Hid ((⟨(rfT (nm, xo)).toArray⟩ : ByteArray) = Z2) := hid (by
                  rw [← HZ2.out, ← HZ1.out, ← HOH.out, ← HXB.out, show (⟨#[32]⟩ : ByteArray) = ⟨([32] : Str).toArray⟩ from rfl, str_app, str_app]
                  rfl)
                have HNL : Hid (nm.length ≤ 60) := hid (isN_len HNN.out)
                have hXs : Xn.size ≤ 60 := by rw [← HXB.out, txt_len]; exact HNL.out
                have hOh : Oh.size = 40 := by rw [← HOH.out, txt_len]; exact hxS_len _ HFT.out.2
                have hZ1 : Z1.size = 41 := by rw [← HZ1.out, ByteArray.size_append, hOh]; rfl
                have HCL : Hid ((rfT (nm, xo)).length ≤ 101) := hid (by
                  rw [rfT_len HFT.out.2]
                  have := HNL.out
                  simp only
                  omega)
                have HTd : Hid (Wmk (G + 1) w1 u0.drew u4 (ofP h l i)) := hid HSd.out.drew
                have HQS : Hid (∀ W, Below u0.drew.heap.size u0.drew W → Q13o G b (off + i * 22) Xn O (.slice (some ⟨b, off, none⟩) m cap) W) := hid (fun W hW => by
                  have hbw : Below (G + 1) w1 W := HTd.out.bl.trans (hW.mono HTd.out.le)
                  exact ⟨(HC.out W hbw).2, (HK0.out W hbw).1, (HK0.out W hbw).2⟩)
                have C34a : Hid (∀ W, Calls Tryz.prog 34 #[.agg O.toArray] W fun e w' => e = .returned (.string Oh) ∧ Below W.heap.size W w') := hid (fun W => by rw [← HO.out, ← HOH.out]; exact hexD _ HFT.out.2 W)
                have CT3 : Hid (∀ W : World, Calls Tryz.prog 33 #[.string Z2] W (PostLm (tx (rfT (nm, xo))) W)) := hid (fun W => C33.out W (rfT (nm, xo)) Z2 HTT (rfT_ne _) (by have := HCL.out; omega))
                refine wp_region_held_drew (S := Q13o G b (off + i * 22) Xn O (.slice (some ⟨b, off, none⟩) m cap)) (by kernel_rfl) (HQS.out _ (Below.refl _ _)) (fun hHeld => ?_)
                generalize u0.drew = u1 at hHeld HTd HQS ⊢
                refine takeL (i := 0) (v := ?_) rfl (by kernel_rfl) (by kernel_rfl) (by kernel_rfl) (fun _ _ _ h => h) (Or.inl ⟨by rfl, ?_⟩) hHeld ?_
                rotate_left
                · rintro w' ⟨c1, c3, r1⟩; go_simp; rfl
                try simp only [Act.put, List.setIfInBounds_toArray, List.set_cons_zero, List.set_cons_succ]
                refine takeL (i := 1) (v := ?_) rfl (by kernel_rfl) (by kernel_rfl) (by kernel_rfl) (fun _ _ _ h => h) (Or.inl ⟨by rfl, ?_⟩) hHeld ?_
                rotate_left
                · rintro w' ⟨c1, c3, r1⟩; go_simp; rfl
                try simp only [Act.put, List.setIfInBounds_toArray, List.set_cons_zero, List.set_cons_succ]
                refine takeL (i := 2) (v := ?_) rfl (by kernel_rfl) (by kernel_rfl) (by kernel_rfl) (fun _ _ _ h => h) (Or.inl ⟨by rfl, ?_⟩) hHeld ?_
                rotate_left
                · rintro w' ⟨c1, c3, r1⟩; go_simp; rfl
                try simp only [Act.put, List.setIfInBounds_toArray, List.set_cons_zero, List.set_cons_succ]
                refine takeL (i := 3) (v := ?_) rfl (by kernel_rfl) (by kernel_rfl) (by kernel_rfl) (fun _ _ _ h => h) (Or.inl ⟨by rfl, ?_⟩) hHeld ?_
                rotate_left
                · rintro w' ⟨c1, c3, r1⟩; go_simp; rfl
                try simp only [Act.put, List.setIfInBounds_toArray, List.set_cons_zero, List.set_cons_succ]
                refine takeL (i := 4) (v := ?_) rfl (by kernel_rfl) (by kernel_rfl) (by kernel_rfl) (fun _ _ _ h => h) (Or.inl ⟨by rfl, ?_⟩) hHeld ?_
                rotate_left
                · rintro w' ⟨c1, c3, r1⟩; go_simp; rfl
                try simp only [Act.put, List.setIfInBounds_toArray, List.set_cons_zero, List.set_cons_succ]
                refine takeL (i := 5) (v := .agg O.toArray) rfl (by kernel_rfl) (by kernel_rfl) (by kernel_rfl) (fun _ _ _ h => h) (yieldsIf_load_mid (by kernel_rfl) 67 _ rfl b (off + i * 22 + 1) (by rfl) O _ (fun w' h => h.r1) Tryz.underlying67 rfl hiO) hHeld ?_
                try simp only [Act.put, List.setIfInBounds_toArray, List.set_cons_zero, List.set_cons_succ]
                refine takeL (i := 8) (v := ?_) rfl (by kernel_rfl) (by kernel_rfl) (by kernel_rfl) (fun _ _ _ h => h) (Or.inl ⟨by rfl, ?_⟩) hHeld ?_
                rotate_left
                · rintro w' ⟨c1, c3, r1⟩; go_simp; rfl
                try simp only [Act.put, List.setIfInBounds_toArray, List.set_cons_zero, List.set_cons_succ]
                refine takeL (i := 9) (v := ?_) rfl (by kernel_rfl) (by kernel_rfl) (by kernel_rfl) (fun _ _ _ h => h) (Or.inl ⟨by rfl, ?_⟩) hHeld ?_
                rotate_left
                · rintro w' ⟨c1, c3, r1⟩; go_simp; rfl
                try simp only [Act.put, List.setIfInBounds_toArray, List.set_cons_zero, List.set_cons_succ]
                refine takeL (i := 10) (v := ?_) rfl (by kernel_rfl) (by kernel_rfl) (by kernel_rfl) (fun _ _ _ h => h) (Or.inl ⟨by rfl, ?_⟩) hHeld ?_
                rotate_left
                · rintro w' ⟨c1, c3, r1⟩; go_simp; rfl
                try simp only [Act.put, List.setIfInBounds_toArray, List.set_cons_zero, List.set_cons_succ]
                refine takeL (i := 11) (v := ?_) rfl (by kernel_rfl) (by kernel_rfl) (by kernel_rfl) (fun _ _ _ h => h) (Or.inl ⟨by rfl, ?_⟩) hHeld ?_
                rotate_left
                · rintro w' ⟨c1, c3, r1⟩; go_simp; rfl
                try simp only [Act.put, List.setIfInBounds_toArray, List.set_cons_zero, List.set_cons_succ]
                refine takeL (i := 12) (v := ?_) rfl (by kernel_rfl) (by kernel_rfl) (by kernel_rfl) (fun _ _ _ h => h) (Or.inl ⟨by rfl, ?_⟩) hHeld ?_
                rotate_left
                · rintro w' ⟨c1, c3, r1⟩; go_simp; rfl
                try simp only [Act.put, List.setIfInBounds_toArray, List.set_cons_zero, List.set_cons_succ]
                refine takeL (i := 13) (v := ?_) rfl (by kernel_rfl) (by kernel_rfl) (by kernel_rfl) (fun _ _ _ h => h) (Or.inl ⟨by rfl, ?_⟩) hHeld ?_
                rotate_left
                · rintro w' ⟨c1, c3, r1⟩; go_simp; rfl
                try simp only [Act.put, List.setIfInBounds_toArray, List.set_cons_zero, List.set_cons_succ]
                refine wpAnyH_ready (rs := [6]) (by kernel_rfl) (by simp) ?_
                refine consL rfl (fun KK hKK => ?_) AllReadyH.nil
                refine step_callv (by rfl) 34 [.tmp 73] _ [.agg O.toArray] _ (by rfl) (by rfl) (enter34 _) (C34a.out _) ?_
                rintro ev w6 ⟨rfl, hb⟩
                refine ⟨_, rfl, ?_⟩
                have HB6 : Hid (Below u1.heap.size u1 w6) := hid hb
                refine hKK.out _ _ (HQS.out _ hb) (fun hHeld2 => ?_)
                clear hKK KK hb
                try simp only [Act.put, List.setIfInBounds_toArray, List.set_cons_zero, List.set_cons_succ]
                refine takeL (i := 7) (v := .string Z1) rfl (by kernel_rfl) (by kernel_rfl) (by kernel_rfl) (fun _ _ _ h => h) (Or.inl ⟨by rfl, ?_⟩) hHeld2 ?_
                · rintro w' ⟨c1, c3, r1⟩; rw [← HZ1.out]; go_simp; first | done | omega | rfl
                try simp only [Act.put, List.setIfInBounds_toArray, List.set_cons_zero, List.set_cons_succ]
                refine takeL (i := 14) (v := .string Z2) rfl (by kernel_rfl) (by kernel_rfl) (by kernel_rfl) (fun _ _ _ h => h) (Or.inl ⟨by rfl, ?_⟩) hHeld2 ?_
                · rintro w' ⟨c1, c3, r1⟩; rw [← HZ2.out]; go_simp; first | done | omega | rfl
                try simp only [Act.put, List.setIfInBounds_toArray, List.set_cons_zero, List.set_cons_succ]
                refine wpAnyH_ready (rs := [15]) (by kernel_rfl) (by simp) ?_
                refine consL rfl (fun KK hKK => ?_) AllReadyH.nil
                refine step_callv (by rfl) 33 [.tmp 82] _ [.string Z2] _ (by rfl) (by rfl) (enter33 _) (CT3.out _) ?_
                rintro ev w7 ⟨hb7, g7, c7, rfl, hg7, hp7⟩
                refine ⟨_, rfl, ?_⟩
                have HB7 : Hid (Below u1.heap.size u1 w7) := hid (HB6.out.trans (hb7.mono HB6.out.size))
                have HP7 := hid hp7.pb
                refine hKK.out _ _ (HQS.out _ HB7.out) (fun hHeld3 => ?_)
                clear hKK KK hb7 hg7 hp7
                try simp only [Act.put, List.setIfInBounds_toArray, List.set_cons_zero, List.set_cons_succ]
                refine takeL (i := 16) (v := ?_) rfl (by kernel_rfl) (by kernel_rfl) (by kernel_rfl) (fun _ _ _ h => h) (Or.inl ⟨by rfl, ?_⟩) hHeld3 ?_
                rotate_left
                · rintro w' ⟨c1, c3, r1⟩; go_simp; rfl
                try simp only [Act.put, List.setIfInBounds_toArray, List.set_cons_zero, List.set_cons_succ]
                refine wpAnyH_done (by kernel_rfl) ?_ _
                clear hHeld hHeld2 hHeld3
                have HS7 := hid (HTd.out.below HB7.out)
                obtain ⟨v8, w8, hr8, hs8⟩ := HS7.out.sl g7 0 c7 (pkt (tx (rfT (nm, xo)))) HP7.out (by have := HSL.out; rw [pkt_len]; have := tx_len (rfT (nm, xo)); have := HCL.out; omega)
                obtain ⟨K8, HK8⟩ : ∃ n, Hid ((pkt (tx (rfT (nm, xo)))).length = n) := ⟨_, rfl⟩
                rw [HK8.out] at hr8
                rw [HK8.out]
                have HS8 : Hid (Wmk (G + 1) w1 w8 v8 (ofP h l (i + 1))) := hid (by
                  rw [HTK.out]
                  exact hs8)
                have HN3 : Hid (∀ j, j < i + 1 → okAt l j) := hid (fun j hj => by
                  by_cases hji : j < i
                  · exact HND.out j hji
                  · have : j = i := by omega
                    subst this
                    exact HOKI.out)
                clear hs8
                go_wp2_with (first | (at_builtin; refine wpList_app rfl _ _ 25 25 rfl 25 rfl _ _ rfl rfl hr8 ?_) | fail)
                go_roundg (m - (i + 1))
                case measure => omega
                case rel => exact ⟨i + 1, by omega, rfl, by go_num, HS8, HN3⟩
            · have hNf : Nm.isN nm = false := by simpa using hN
              have HNO : Hid (¬ OkO h l) := hid (fun k => hN (HAT.out.1 (k.2.1 i HLI.out)).1)
              have HF := hid (HGW.out _ HSd.out.bl)
              rw [hNf]
              clear hN hNf
              go_wp2_with fail
              refine wp_region_held_drew (S := Q11 G b (off + (i - 1) * 22) (off + i * 22) Yn Xn (.slice (some ⟨b, off, none⟩) m cap)) (by kernel_rfl) (HQ1.out _ HSd.out.bl) (fun hHeld => ?_)
              generalize w5.drew = u0 at hHeld HSd HF ⊢
              refine takeL (i := 0) (v := ?_) rfl (by kernel_rfl) (by kernel_rfl) (by kernel_rfl) (fun _ _ _ h => h) (Or.inl ⟨by rfl, ?_⟩) hHeld ?_
              rotate_left
              · rintro w' ⟨c1, c2, c3⟩; go_simp; rfl
              try simp only [Act.put, List.setIfInBounds_toArray, List.set_cons_zero, List.set_cons_succ]
              refine takeL (i := 1) (v := ?_) rfl (by kernel_rfl) (by kernel_rfl) (by kernel_rfl) (fun _ _ _ h => h) (Or.inl ⟨by rfl, ?_⟩) hHeld ?_
              rotate_left
              · rintro w' ⟨c1, c2, c3⟩; go_simp; rfl
              try simp only [Act.put, List.setIfInBounds_toArray, List.set_cons_zero, List.set_cons_succ]
              refine takeL (i := 2) (v := ?_) rfl (by kernel_rfl) (by kernel_rfl) (by kernel_rfl) (fun _ _ _ h => h) (Or.inl ⟨by rfl, ?_⟩) hHeld ?_
              rotate_left
              · rintro w' ⟨c1, c2, c3⟩; go_simp; rfl
              try simp only [Act.put, List.setIfInBounds_toArray, List.set_cons_zero, List.set_cons_succ]
              refine takeL (i := 3) (v := undef) rfl (by kernel_rfl) (by kernel_rfl) (by kernel_rfl) (fun _ _ _ h => h) (Or.inr ⟨by rfl, rfl⟩) hHeld ?_
              try simp only [Act.put, List.setIfInBounds_toArray, List.set_cons_zero, List.set_cons_succ]
              refine takeL (i := 4) (v := undef) rfl (by kernel_rfl) (by kernel_rfl) (by kernel_rfl) (fun _ _ _ h => h) (Or.inr ⟨by rfl, rfl⟩) hHeld ?_
              try simp only [Act.put, List.setIfInBounds_toArray, List.set_cons_zero, List.set_cons_succ]
              refine takeL (i := 5) (v := undef) rfl (by kernel_rfl) (by kernel_rfl) (by kernel_rfl) (fun _ _ _ h => h) (Or.inr ⟨by rfl, rfl⟩) hHeld ?_
              try simp only [Act.put, List.setIfInBounds_toArray, List.set_cons_zero, List.set_cons_succ]
              refine takeL (i := 6) (v := undef) rfl (by kernel_rfl) (by kernel_rfl) (by kernel_rfl) (fun _ _ _ h => h) (Or.inr ⟨by rfl, rfl⟩) hHeld ?_
              try simp only [Act.put, List.setIfInBounds_toArray, List.set_cons_zero, List.set_cons_succ]
              refine takeL (i := 7) (v := undef) rfl (by kernel_rfl) (by kernel_rfl) (by kernel_rfl) (fun _ _ _ h => h) (Or.inr ⟨by rfl, rfl⟩) hHeld ?_
              try simp only [Act.put, List.setIfInBounds_toArray, List.set_cons_zero, List.set_cons_succ]
              refine takeL (i := 8) (v := undef) rfl (by kernel_rfl) (by kernel_rfl) (by kernel_rfl) (fun _ _ _ h => h) (Or.inr ⟨by rfl, rfl⟩) hHeld ?_
              try simp only [Act.put, List.setIfInBounds_toArray, List.set_cons_zero, List.set_cons_succ]
              refine takeL (i := 9) (v := undef) rfl (by kernel_rfl) (by kernel_rfl) (by kernel_rfl) (fun _ _ _ h => h) (Or.inr ⟨by rfl, rfl⟩) hHeld ?_
              try simp only [Act.put, List.setIfInBounds_toArray, List.set_cons_zero, List.set_cons_succ]
              refine takeL (i := 10) (v := undef) rfl (by kernel_rfl) (by kernel_rfl) (by kernel_rfl) (fun _ _ _ h => h) (Or.inr ⟨by rfl, rfl⟩) hHeld ?_
              try simp only [Act.put, List.setIfInBounds_toArray, List.set_cons_zero, List.set_cons_succ]
              refine takeL (i := 11) (v := undef) rfl (by kernel_rfl) (by kernel_rfl) (by kernel_rfl) (fun _ _ _ h => h) (Or.inr ⟨by rfl, rfl⟩) hHeld ?_
              try simp only [Act.put, List.setIfInBounds_toArray, List.set_cons_zero, List.set_cons_succ]
              refine takeL (i := 12) (v := undef) rfl (by kernel_rfl) (by kernel_rfl) (by kernel_rfl) (fun _ _ _ h => h) (Or.inr ⟨by rfl, rfl⟩) hHeld ?_
              try simp only [Act.put, List.setIfInBounds_toArray, List.set_cons_zero, List.set_cons_succ]
              refine takeL (i := 13) (v := undef) rfl (by kernel_rfl) (by kernel_rfl) (by kernel_rfl) (fun _ _ _ h => h) (Or.inr ⟨by rfl, rfl⟩) hHeld ?_
              try simp only [Act.put, List.setIfInBounds_toArray, List.set_cons_zero, List.set_cons_succ]
              refine takeL (i := 14) (v := undef) rfl (by kernel_rfl) (by kernel_rfl) (by kernel_rfl) (fun _ _ _ h => h) (Or.inr ⟨by rfl, rfl⟩) hHeld ?_
              try simp only [Act.put, List.setIfInBounds_toArray, List.set_cons_zero, List.set_cons_succ]
              refine takeL (i := 15) (v := undef) rfl (by kernel_rfl) (by kernel_rfl) (by kernel_rfl) (fun _ _ _ h => h) (Or.inr ⟨by rfl, rfl⟩) hHeld ?_
              try simp only [Act.put, List.setIfInBounds_toArray, List.set_cons_zero, List.set_cons_succ]
              refine takeL (i := 16) (v := undef) rfl (by kernel_rfl) (by kernel_rfl) (by kernel_rfl) (fun _ _ _ h => h) (Or.inr ⟨by rfl, rfl⟩) hHeld ?_
              try simp only [Act.put, List.setIfInBounds_toArray, List.set_cons_zero, List.set_cons_succ]
              refine takeL (i := 17) (v := undef) rfl (by kernel_rfl) (by kernel_rfl) (by kernel_rfl) (fun _ _ _ h => h) (Or.inr ⟨by rfl, rfl⟩) hHeld ?_
              try simp only [Act.put, List.setIfInBounds_toArray, List.set_cons_zero, List.set_cons_succ]
              refine takeL (i := 18) (v := undef) rfl (by kernel_rfl) (by kernel_rfl) (by kernel_rfl) (fun _ _ _ h => h) (Or.inr ⟨by rfl, rfl⟩) hHeld ?_
              try simp only [Act.put, List.setIfInBounds_toArray, List.set_cons_zero, List.set_cons_succ]
              refine takeL (i := 19) (v := undef) rfl (by kernel_rfl) (by kernel_rfl) (by kernel_rfl) (fun _ _ _ h => h) (Or.inr ⟨by rfl, rfl⟩) hHeld ?_
              try simp only [Act.put, List.setIfInBounds_toArray, List.set_cons_zero, List.set_cons_succ]
              refine takeL (i := 20) (v := undef) rfl (by kernel_rfl) (by kernel_rfl) (by kernel_rfl) (fun _ _ _ h => h) (Or.inr ⟨by rfl, rfl⟩) hHeld ?_
              try simp only [Act.put, List.setIfInBounds_toArray, List.set_cons_zero, List.set_cons_succ]
              refine takeL (i := 21) (v := .bool true) rfl (by kernel_rfl) (by kernel_rfl) (by kernel_rfl) (fun _ _ _ h => h) (Or.inl ⟨by rfl, ?_⟩) hHeld ?_
              · rintro w' ⟨c1, c2, c3⟩; go_simp; try rfl
              try simp only [Act.put, List.setIfInBounds_toArray, List.set_cons_zero, List.set_cons_succ]
              refine wpAnyH_done (by kernel_rfl) ?_ _
              clear hHeld
              go_wp2
              refine bodyPost_ret (results_tmp2 Tryz.results9 _ _ _) rfl ?_
              exact ⟨HF.out, .inr ⟨HNO.out, rfl⟩⟩
          · have hlti : ¬ (i : Int) < (m : Int) := by omega
            have HNF : Hid (OkO h l) := hid ⟨HOKH.out, fun j hj => HND.out j (by have := HM.out; omega), by have := HM.out; omega⟩
            obtain ⟨v8, w8, hr8, hs8⟩ := HS.out.str [48, 48, 48, 48] (by have := HSL.out; have : ([48, 48, 48, 48] : Str).length = 4 := rfl; omega)
            rw [ofP_end h l i (by have := HM.out; omega)] at hs8
            obtain ⟨a8, c8, hv8, hp8⟩ := hs8.pb
            have HS8 := hid hs8
            have HP8 := hid hp8
            have HV8 := hid hv8
            have HF := hid (HGW.out _ hs8.bl)
            clear hs8 hp8 hv8
            go_wp2_with (first | (at_builtin; refine wpList_app rfl _ _ 25 9 rfl 25 rfl _ _ rfl rfl hr8 ?_) | fail)
            refine bodyPost_ret (results_tmp2 Tryz.results9 _ _ _) rfl ?_
            exact ⟨HF.out, .inl ⟨HNF.out, a8, c8, by rw [← HV8.out]; rfl, HP8.out⟩⟩
  · have h0 : ¬ h = [] := fun e => hok (.inl e)
    have hNf : Nm.isN h = false := by simpa using fun e => hok (.inr e)
    have heq : (X.toList == []) = false := by rw [← HX.out]; simp; exact h0
    have hne : (X.toList != []) = true := by rw [bne, heq]; rfl
    have HNO : Hid (¬ OkO h l) := hid (fun k => hok k.1)
    have HF := hid (HGW.out w2 HB2.out)
    rw [hNf]
    clear hok h0 hNf
    go_wp2
    refine bodyPost_ret (results_tmp2 Tryz.results9 _ _ _) rfl ?_
    exact ⟨HF.out, .inr ⟨HNO.out, rfl⟩⟩
end Go.Proofs.YtijeogdnjeamaaaGreatDoor
