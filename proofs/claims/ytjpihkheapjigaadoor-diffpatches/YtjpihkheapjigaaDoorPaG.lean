/- 'spans'. -/
import Derived.Test.YtjpihkheapjigaaDoorPaF
namespace Go.Proofs.YtjpihkheapjigaaDoor
open Go.RowKit
set_option linter.unusedVariables false
set_option linter.unusedSimpArgs false
def PostP (l : List Sp) (w : World) : Ending → World → Prop := fun e w' => ∃ v, e = .returned v ∧ BP w w' w.heap.size v l
structure QS (g : Nat) (x y : Int) (W : World) : Prop where
  c0 : W.cell? ⟨g, 0, none⟩ = some (.int .i64 x)
  c1 : W.cell? ⟨g, 1, none⟩ = some (.int .i64 y)
structure QT (g : Nat) (x y : Int) (b o : Nat) (z : Int) (W : World) : Prop where
  c0 : W.cell? ⟨g, 0, none⟩ = some (.int .i64 x)
  c1 : W.cell? ⟨g, 1, none⟩ = some (.int .i64 y)
  c2 : W.cell? ⟨b, o, none⟩ = some (.int .i64 z)
theorem last_cases (l : List Sp) : l = [] ∨ ∃ r p, l = r ++ [p] := by
  rcases List.eq_nil_or_concat l with rfl | ⟨r, p, rfl⟩
  · exact .inl rfl
  · exact .inr ⟨r, p, by rw [List.concat_eq_append]⟩
theorem addS_last (r : List Sp) (p s : Sp) : addS (r ++ [p]) s = if s.1 ≤ p.2 then r ++ [(p.1, s.2)] else r ++ [p] ++ [s] := by
  unfold addS
  rw [List.getLast?_append]
  simp
set_option maxRecDepth 20000 in
set_option maxHeartbeats 2000000 in
theorem spans_any {w : World} (a : Option Addr) (ca : Nat) (L : List Ed) (hA : PE w a ca L) (hl : L.length ≤ 10000) (c : Nat) (hc : c ≤ 1000) :
    Calls Tryd.prog 17 #[.slice a L.length ca, .int .i64 (c : Int)] w (PostP (sps L c L.length) w) := by
  obtain ⟨n, HN⟩ : ∃ n, Hid (L.length = n) := ⟨_, rfl⟩
  obtain ⟨G, HG⟩ : ∃ G, Hid (w.heap.size = G) := ⟨_, rfl⟩
  have hn4 : n ≤ 10000 := by rw [← HN.out]; exact hl
  have HPA : Hid (∀ W, Below G w W → PE W a ca L) := fun W hW => hA.below (by rw [HG.out]; exact hW)
  have HFA : Hid (0 < n → ∃ b off, a = some ⟨b, off, none⟩) := fun h0 => by
    obtain ⟨b, off, e1, _⟩ := hA.at_ (by rw [HN.out]; exact h0)
    exact ⟨b, off, e1⟩
  have HGw : Hid (G ≤ w.heap.size) := hid (by rw [HG.out]; exact Nat.le_refl _)
  rw [HN.out]
  clear hA hl
  go_enter Tryd.func17, Tryd.ntmps17
  go_wp2_with fail
  go_loopg [5, 12] n (fun gg lv iv wr => ∃ (i m lc : Nat) (la : Option Addr), lv = .slice la m lc ∧ iv = .int .i64 i ∧ i ≤ n ∧ gg = n - i ∧ m ≤ i ∧ Hid ((sps L c i).length = m) ∧ Hid (BP w wr G (.slice la m lc) (sps L c i)))
  case atStart => exact ⟨0, 0, 0, none, rfl, rfl, Nat.zero_le _, rfl, Nat.le_refl _, hid rfl, hid (bx_nil 54 w G HGw.out)⟩
  case round =>
    obtain ⟨i, m, lc, la, rfl, rfl, hi, hk, hmi, HLm, HBP⟩ := hrel
    by_cases hlt : i < n
    · have hlti : (i : Int) < (n : Int) := by omega
      obtain ⟨b, off, e1⟩ := HFA.out (by omega)
      subst e1
      obtain ⟨k, HK⟩ : ∃ k, Hid ((L.getD i (0, [])).1 = k) := ⟨_, rfl⟩
      obtain ⟨X, HX⟩ : ∃ X, Hid ((⟨(L.getD i (0, [])).2.toArray⟩ : ByteArray) = X) := ⟨_, rfl⟩
      obtain ⟨hc0, hc1⟩ := PE.two (HPA.out _ HBP.out.below) i (by rw [HN.out]; exact hlt)
      rw [HK.out] at hc0
      rw [HX.out] at hc1
      by_cases hk0 : k = 0
      · subst hk0
        have HS1 : Hid (sps L c (i + 1) = sps L c i) := hid (by rw [sps, if_neg (by unfold Ch; rw [HK.out]; simp)])
        go_wp2_with fail
        go_roundg (n - (i + 1))
        case rel => exact ⟨i + 1, m, lc, la, rfl, by go_num, by omega, rfl, by omega, hid (by rw [HS1.out]; exact HLm.out), hid (by rw [HS1.out]; exact HBP.out.alloc _)⟩
        case measure => omega
      · have hk1 : ¬ (k : Int) = 0 := by omega
        have hk2 : ((k : Int) == 0) = false := by simp; omega
        obtain ⟨F, HF⟩ : ∃ F, Hid (i - c = F) := ⟨_, rfl⟩
        obtain ⟨E, HE⟩ : ∃ E, Hid (min (i + c + 1) n = E) := ⟨_, rfl⟩
        have hF : max ((i : Int) - (c : Int)) 0 = (F : Int) := by rw [← HF.out]; omega
        have hE : min ((i : Int) + (c : Int) + 1) (n : Int) = (E : Int) := by rw [← HE.out]; omega
        have hFn : F ≤ n := by rw [← HF.out]; omega
        have hEn : E ≤ n := by rw [← HE.out]; omega
        have HS1 : Hid (sps L c (i + 1) = addS (sps L c i) (F, E)) := hid (by rw [sps, if_pos (by unfold Ch; rw [HK.out]; exact hk0)]; unfold spn; rw [HN.out, HF.out, HE.out])
        obtain ⟨g, HGg⟩ : ∃ g, Hid (wr.heap.size = g) := ⟨_, rfl⟩
        obtain ⟨w1, HW1⟩ : ∃ u, Hid ((wr.alloc (.cells #[.int .i64 (k : Int), .string X] 49)).alloc (.cells #[.int .i64 (F : Int), .int .i64 (E : Int)] 54) = u) := ⟨_, rfl⟩
        have HB1 : Hid (BP w w1 G (.slice la m lc) (sps L c i)) := hid (by rw [← HW1.out]; exact (HBP.out.alloc _).alloc _)
        have HQ1 : Hid (QS (g + 1) F E w1) := hid (by rw [← HW1.out, ← HGg.out]; exact ⟨by simp, by simp⟩)
        have HG1 : Hid (g + 1 < w1.heap.size) := hid (by rw [← HW1.out, ← HGg.out]; simp)
        go_wp2_with fail
        rw [HW1.out, HGg.out]
        have HBD : Hid (BP w w1.drew G (.slice la m lc) (sps L c i)) := hid (HB1.out.carry ⟨rfl, rfl, rfl, Nat.le_refl _, fun _ _ => rfl⟩)
        have HQD : Hid (QS (g + 1) F E w1.drew) := hid ⟨HQ1.out.c0, HQ1.out.c1⟩
        have HBu : Hid (∀ W : World, (Instr.buildSlice 51 1 #[(0, .agg #[.int .i64 (F : Int), .int .i64 (E : Int)])]).run Tryd.prog W = .ok (.slice (some ⟨W.heap.size, 0, none⟩) 1 1) (W.alloc (.cells #[.int .i64 (F : Int), .int .i64 (E : Int)] 54))) := fun W => run_build51 F E W
        rcases last_cases (sps L c i) with hs0 | ⟨r, p, hs0⟩
        · have hm0 : m = 0 := by rw [← HLm.out, hs0]; rfl
          have HS2 : Hid (sps L c (i + 1) = sps L c i ++ [(F, E)]) := hid (by rw [HS1.out, hs0]; rfl)
          have hm1 : ¬ 0 ≤ (m : Int) - 1 := by omega
          have hm2 : m ≤ 5 := by omega
          clear hm0
          refine wp_region_held_drew (S := QS (g + 1) F E) (by kernel_rfl) HQD.out (fun hHeld => ?_)
          generalize w1.drew = wd at HBD HQD hHeld ⊢
          refine takeL (i := 0) (v := ?_) rfl (by kernel_rfl) (by kernel_rfl) (by kernel_rfl) (fun _ _ _ h => h) (Or.inl ⟨by rfl, ?_⟩) hHeld ?_
          rotate_left
          · rintro w' ⟨s0, s1⟩; go_simp; rfl
          try simp only [Act.put, List.setIfInBounds_toArray, List.set_cons_zero, List.set_cons_succ]
          refine takeL (i := 1) (v := .bool false) rfl (by kernel_rfl) (by kernel_rfl) (by kernel_rfl) (fun _ _ _ h => h) (Or.inl ⟨by rfl, ?_⟩) hHeld ?_
          · rintro w' ⟨s0, s1⟩; go_simp; first | done | rfl | omega
          try simp only [Act.put, List.setIfInBounds_toArray, List.set_cons_zero, List.set_cons_succ]
          refine takeL (i := 2) (v := ?_) rfl (by kernel_rfl) (by kernel_rfl) (by kernel_rfl) (fun _ _ _ h => h) (Or.inl ⟨by rfl, ?_⟩) hHeld ?_
          rotate_left
          · rintro w' ⟨s0, s1⟩; go_simp; rfl
          try simp only [Act.put, List.setIfInBounds_toArray, List.set_cons_zero, List.set_cons_succ]
          refine takeL (i := 3) (v := undef) rfl (by kernel_rfl) (by kernel_rfl) (by kernel_rfl) (fun _ _ _ h => h) (Or.inr ⟨by kernel_rfl, rfl⟩) hHeld ?_
          try simp only [Act.put, List.setIfInBounds_toArray, List.set_cons_zero, List.set_cons_succ]
          refine takeL (i := 4) (v := undef) rfl (by kernel_rfl) (by kernel_rfl) (by kernel_rfl) (fun _ _ _ h => h) (Or.inr ⟨by kernel_rfl, rfl⟩) hHeld ?_
          try simp only [Act.put, List.setIfInBounds_toArray, List.set_cons_zero, List.set_cons_succ]
          refine takeL (i := 5) (v := undef) rfl (by kernel_rfl) (by kernel_rfl) (by kernel_rfl) (fun _ _ _ h => h) (Or.inr ⟨by kernel_rfl, rfl⟩) hHeld ?_
          try simp only [Act.put, List.setIfInBounds_toArray, List.set_cons_zero, List.set_cons_succ]
          refine takeL (i := 6) (v := undef) rfl (by kernel_rfl) (by kernel_rfl) (by kernel_rfl) (fun _ _ _ h => h) (Or.inr ⟨by kernel_rfl, rfl⟩) hHeld ?_
          try simp only [Act.put, List.setIfInBounds_toArray, List.set_cons_zero, List.set_cons_succ]
          refine takeL (i := 7) (v := undef) rfl (by kernel_rfl) (by kernel_rfl) (by kernel_rfl) (fun _ _ _ h => h) (Or.inr ⟨by kernel_rfl, rfl⟩) hHeld ?_
          try simp only [Act.put, List.setIfInBounds_toArray, List.set_cons_zero, List.set_cons_succ]
          refine takeL (i := 8) (v := undef) rfl (by kernel_rfl) (by kernel_rfl) (by kernel_rfl) (fun _ _ _ h => h) (Or.inr ⟨by kernel_rfl, rfl⟩) hHeld ?_
          try simp only [Act.put, List.setIfInBounds_toArray, List.set_cons_zero, List.set_cons_succ]
          refine takeL (i := 9) (v := undef) rfl (by kernel_rfl) (by kernel_rfl) (by kernel_rfl) (fun _ _ _ h => h) (Or.inr ⟨by kernel_rfl, rfl⟩) hHeld ?_
          try simp only [Act.put, List.setIfInBounds_toArray, List.set_cons_zero, List.set_cons_succ]
          refine takeL (i := 10) (v := undef) rfl (by kernel_rfl) (by kernel_rfl) (by kernel_rfl) (fun _ _ _ h => h) (Or.inr ⟨by kernel_rfl, rfl⟩) hHeld ?_
          try simp only [Act.put, List.setIfInBounds_toArray, List.set_cons_zero, List.set_cons_succ]
          refine takeL (i := 11) (v := .bool false) rfl (by kernel_rfl) (by kernel_rfl) (by kernel_rfl) (fun _ _ _ h => h) (Or.inl ⟨by rfl, ?_⟩) hHeld ?_
          · rintro w' ⟨s0, s1⟩; go_simp; try rfl
          try simp only [Act.put, List.setIfInBounds_toArray, List.set_cons_zero, List.set_cons_succ]
          refine wpAnyH_done (by kernel_rfl) ?_ _
          clear hHeld
          have hd0 := HQD.out.c0
          have hd1 := HQD.out.c1
          go_wp2_with (first
            | refine wpList_bS rfl 51 1 _ rfl (.agg #[.int .i64 (F : Int), .int .i64 (E : Int)]) _ rfl (HBu.out _) ?_
            | (refine app_sp HBD.out HLm.out (by omega) (F, E) rfl _ _ rfl rfl rfl ?_; intro a' c' w' HB')
            | fail)
          go_roundg (n - (i + 1))
          case measure => omega
          case rel => exact ⟨i + 1, m + 1, c', a', rfl, by go_num, by omega, rfl, by omega, hid (by rw [HS2.out, List.length_append, HLm.out]; rfl), hid (by rw [HS2.out]; exact HB'.out)⟩
        · have hq : m = r.length + 1 := by rw [← HLm.out, hs0]; simp
          obtain ⟨q, HQq⟩ : ∃ q, Hid (r.length = q) := ⟨_, rfl⟩
          rw [HQq.out] at hq
          obtain ⟨bk, e2⟩ : ∃ bk, la = some ⟨bk, 0, none⟩ := by
            obtain ⟨a', cap', e3, hpx, _, h5⟩ := HBD.out.px (d := (0, 0)) (fun x _ => encP_len x)
            injection e3 with e4 _ e6
            subst e4
            rcases h5 with h5 | h5
            · have h6 := hpx.nil h5
              have h7 := hpx.capl
              rw [HLm.out] at h7
              omega
            · exact h5
          subst e2
          obtain ⟨z, HZ⟩ : ∃ z, Hid (p.2 = z) := ⟨_, rfl⟩
          have HC2 : Hid (w1.drew.cell? ⟨bk, q * 2 + 1, none⟩ = some (.int .i64 (z : Int))) := hid (by
            obtain ⟨a', cap', e3, hpx, _, h5⟩ := HBD.out.px (d := (0, 0)) (fun x _ => encP_len x)
            injection e3 with e4 _ e6
            subst e4
            have := (PP.two hpx q (by rw [HLm.out]; omega)).2
            rw [hs0, List.getD_eq_getElem?_getD, List.getElem?_append_right (by rw [HQq.out]; exact Nat.le_refl _), HQq.out, Nat.sub_self, Nat.zero_add] at this
            rw [← HZ.out]
            exact this)
          have HFZ : Hid (w1.drew.frozen? ⟨bk, q * 2 + 1, none⟩ = false) := hid (by
            have ho := HBD.out.own
            rw [HLm.out] at ho
            exact ho.frozenAt _)
          have HQT : Hid (QT (g + 1) F E bk (q * 2 + 1) z w1.drew) := hid ⟨HQD.out.c0, HQD.out.c1, HC2.out⟩
          have hmI : (m : Int) - 1 = (q : Int) := by omega
          have hq0 : 0 ≤ (q : Int) := by omega
          have hqm : q < m := by omega
          have hqm2 : (q : Int) < (m : Int) := by omega
          rw [hmI]
          have HQ1m : Hid (m = q + 1) := hq
          have hm2 : m ≤ i := hmi
          clear hmI hq
          by_cases hFz : F ≤ z
          · have hFzI : (F : Int) ≤ (z : Int) := by omega
            have HS2 : Hid (sps L c (i + 1) = r ++ [(p.1, E)]) := hid (by rw [HS1.out, hs0, addS_last, if_pos (by rw [HZ.out]; exact hFz)])
            refine wp_region_held_drew (S := QT (g + 1) F E bk (q * 2 + 1) z) (by kernel_rfl) HQT.out (fun hHeld => ?_)
            generalize w1.drew = wd at HBD HQD HQT HC2 HFZ hHeld ⊢
            refine takeL (i := 0) (v := ?_) rfl (by kernel_rfl) (by kernel_rfl) (by kernel_rfl) (fun _ _ _ h => h) (Or.inl ⟨by rfl, ?_⟩) hHeld ?_
            rotate_left
            · rintro w' ⟨s0, s1, s2⟩; go_simp; rfl
            try simp only [Act.put, List.setIfInBounds_toArray, List.set_cons_zero, List.set_cons_succ]
            refine takeL (i := 1) (v := .bool true) rfl (by kernel_rfl) (by kernel_rfl) (by kernel_rfl) (fun _ _ _ h => h) (Or.inl ⟨by rfl, ?_⟩) hHeld ?_
            · rintro w' ⟨s0, s1, s2⟩; go_simp; try rfl
            try simp only [Act.put, List.setIfInBounds_toArray, List.set_cons_zero, List.set_cons_succ]
            refine takeL (i := 2) (v := ?_) rfl (by kernel_rfl) (by kernel_rfl) (by kernel_rfl) (fun _ _ _ h => h) (Or.inl ⟨by rfl, ?_⟩) hHeld ?_
            rotate_left
            · rintro w' ⟨s0, s1, s2⟩; go_simp; rfl
            try simp only [Act.put, List.setIfInBounds_toArray, List.set_cons_zero, List.set_cons_succ]
            refine takeL (i := 3) (v := ?_) rfl (by kernel_rfl) (by kernel_rfl) (by kernel_rfl) (fun _ _ _ h => h) (Or.inl ⟨by kernel_rfl, ?_⟩) hHeld ?_
            rotate_left
            · rintro w' ⟨s0, s1, s2⟩; go_simp; rfl
            try simp only [Act.put, List.setIfInBounds_toArray, List.set_cons_zero, List.set_cons_succ]
            refine takeL (i := 4) (v := ?_) rfl (by kernel_rfl) (by kernel_rfl) (by kernel_rfl) (fun _ _ _ h => h) (Or.inl ⟨by kernel_rfl, ?_⟩) hHeld ?_
            rotate_left
            · rintro w' ⟨s0, s1, s2⟩; go_simp; rfl
            try simp only [Act.put, List.setIfInBounds_toArray, List.set_cons_zero, List.set_cons_succ]
            refine takeL (i := 5) (v := ?_) rfl (by kernel_rfl) (by kernel_rfl) (by kernel_rfl) (fun _ _ _ h => h) (Or.inl ⟨by kernel_rfl, ?_⟩) hHeld ?_
            rotate_left
            · rintro w' ⟨s0, s1, s2⟩; go_simp; rfl
            try simp only [Act.put, List.setIfInBounds_toArray, List.set_cons_zero, List.set_cons_succ]
            refine takeL (i := 6) (v := ?_) rfl (by kernel_rfl) (by kernel_rfl) (by kernel_rfl) (fun _ _ _ h => h) (Or.inl ⟨by kernel_rfl, ?_⟩) hHeld ?_
            rotate_left
            · rintro w' ⟨s0, s1, s2⟩; go_simp; rfl
            try simp only [Act.put, List.setIfInBounds_toArray, List.set_cons_zero, List.set_cons_succ]
            refine takeL (i := 7) (v := ?_) rfl (by kernel_rfl) (by kernel_rfl) (by kernel_rfl) (fun _ _ _ h => h) (Or.inl ⟨by kernel_rfl, ?_⟩) hHeld ?_
            rotate_left
            · rintro w' ⟨s0, s1, s2⟩; go_simp; rfl
            try simp only [Act.put, List.setIfInBounds_toArray, List.set_cons_zero, List.set_cons_succ]
            refine takeL (i := 8) (v := ?_) rfl (by kernel_rfl) (by kernel_rfl) (by kernel_rfl) (fun _ _ _ h => h) (Or.inl ⟨by kernel_rfl, ?_⟩) hHeld ?_
            rotate_left
            · rintro w' ⟨s0, s1, s2⟩; go_simp; rfl
            try simp only [Act.put, List.setIfInBounds_toArray, List.set_cons_zero, List.set_cons_succ]
            refine takeL (i := 9) (v := ?_) rfl (by kernel_rfl) (by kernel_rfl) (by kernel_rfl) (fun _ _ _ h => h) (Or.inl ⟨by kernel_rfl, ?_⟩) hHeld ?_
            rotate_left
            · rintro w' ⟨s0, s1, s2⟩; go_simp; rfl
            try simp only [Act.put, List.setIfInBounds_toArray, List.set_cons_zero, List.set_cons_succ]
            refine takeL (i := 10) (v := .bool true) rfl (by kernel_rfl) (by kernel_rfl) (by kernel_rfl) (fun _ _ _ h => h) (Or.inl ⟨by kernel_rfl, ?_⟩) hHeld ?_
            · rintro w' ⟨s0, s1, s2⟩; go_simp; try rfl
            try simp only [Act.put, List.setIfInBounds_toArray, List.set_cons_zero, List.set_cons_succ]
            refine takeL (i := 11) (v := .bool true) rfl (by kernel_rfl) (by kernel_rfl) (by kernel_rfl) (fun _ _ _ h => h) (Or.inl ⟨by rfl, ?_⟩) hHeld ?_
            · rintro w' ⟨s0, s1, s2⟩; go_simp; try rfl
            try simp only [Act.put, List.setIfInBounds_toArray, List.set_cons_zero, List.set_cons_succ]
            refine wpAnyH_done (by kernel_rfl) ?_ _
            clear hHeld
            have hd0 := HQD.out.c0
            have hd1 := HQD.out.c1
            have hd2 := HC2.out
            have hd3 := HFZ.out
            go_wp2_with fail
            go_roundg (n - (i + 1))
            case measure => omega
            case rel => exact ⟨i + 1, m, lc, some ⟨bk, 0, none⟩, rfl, by go_num, by omega, rfl, by omega, hid (by rw [HS2.out]; simp; rw [HQq.out]; exact HQ1m.out.symm), hid (by
              rw [HS2.out]
              have h := HBD.out
              rw [hs0] at h
              have := BP.more h (by rw [HQq.out]; exact HQ1m.out.symm) E
              rw [HQq.out] at this
              exact this)⟩
          · have hFzI : ¬ (F : Int) ≤ (z : Int) := by omega
            have HS2 : Hid (sps L c (i + 1) = sps L c i ++ [(F, E)]) := hid (by rw [HS1.out, hs0, addS_last, if_neg (by rw [HZ.out]; exact hFz)])
            refine wp_region_held_drew (S := QT (g + 1) F E bk (q * 2 + 1) z) (by kernel_rfl) HQT.out (fun hHeld => ?_)
            generalize w1.drew = wd at HBD HQD HQT HC2 HFZ hHeld ⊢
            refine takeL (i := 0) (v := ?_) rfl (by kernel_rfl) (by kernel_rfl) (by kernel_rfl) (fun _ _ _ h => h) (Or.inl ⟨by rfl, ?_⟩) hHeld ?_
            rotate_left
            · rintro w' ⟨s0, s1, s2⟩; go_simp; rfl
            try simp only [Act.put, List.setIfInBounds_toArray, List.set_cons_zero, List.set_cons_succ]
            refine takeL (i := 1) (v := .bool true) rfl (by kernel_rfl) (by kernel_rfl) (by kernel_rfl) (fun _ _ _ h => h) (Or.inl ⟨by rfl, ?_⟩) hHeld ?_
            · rintro w' ⟨s0, s1, s2⟩; go_simp; try rfl
            try simp only [Act.put, List.setIfInBounds_toArray, List.set_cons_zero, List.set_cons_succ]
            refine takeL (i := 2) (v := ?_) rfl (by kernel_rfl) (by kernel_rfl) (by kernel_rfl) (fun _ _ _ h => h) (Or.inl ⟨by rfl, ?_⟩) hHeld ?_
            rotate_left
            · rintro w' ⟨s0, s1, s2⟩; go_simp; rfl
            try simp only [Act.put, List.setIfInBounds_toArray, List.set_cons_zero, List.set_cons_succ]
            refine takeL (i := 3) (v := ?_) rfl (by kernel_rfl) (by kernel_rfl) (by kernel_rfl) (fun _ _ _ h => h) (Or.inl ⟨by kernel_rfl, ?_⟩) hHeld ?_
            rotate_left
            · rintro w' ⟨s0, s1, s2⟩; go_simp; rfl
            try simp only [Act.put, List.setIfInBounds_toArray, List.set_cons_zero, List.set_cons_succ]
            refine takeL (i := 4) (v := ?_) rfl (by kernel_rfl) (by kernel_rfl) (by kernel_rfl) (fun _ _ _ h => h) (Or.inl ⟨by kernel_rfl, ?_⟩) hHeld ?_
            rotate_left
            · rintro w' ⟨s0, s1, s2⟩; go_simp; rfl
            try simp only [Act.put, List.setIfInBounds_toArray, List.set_cons_zero, List.set_cons_succ]
            refine takeL (i := 5) (v := ?_) rfl (by kernel_rfl) (by kernel_rfl) (by kernel_rfl) (fun _ _ _ h => h) (Or.inl ⟨by kernel_rfl, ?_⟩) hHeld ?_
            rotate_left
            · rintro w' ⟨s0, s1, s2⟩; go_simp; rfl
            try simp only [Act.put, List.setIfInBounds_toArray, List.set_cons_zero, List.set_cons_succ]
            refine takeL (i := 6) (v := ?_) rfl (by kernel_rfl) (by kernel_rfl) (by kernel_rfl) (fun _ _ _ h => h) (Or.inl ⟨by kernel_rfl, ?_⟩) hHeld ?_
            rotate_left
            · rintro w' ⟨s0, s1, s2⟩; go_simp; rfl
            try simp only [Act.put, List.setIfInBounds_toArray, List.set_cons_zero, List.set_cons_succ]
            refine takeL (i := 7) (v := ?_) rfl (by kernel_rfl) (by kernel_rfl) (by kernel_rfl) (fun _ _ _ h => h) (Or.inl ⟨by kernel_rfl, ?_⟩) hHeld ?_
            rotate_left
            · rintro w' ⟨s0, s1, s2⟩; go_simp; rfl
            try simp only [Act.put, List.setIfInBounds_toArray, List.set_cons_zero, List.set_cons_succ]
            refine takeL (i := 8) (v := ?_) rfl (by kernel_rfl) (by kernel_rfl) (by kernel_rfl) (fun _ _ _ h => h) (Or.inl ⟨by kernel_rfl, ?_⟩) hHeld ?_
            rotate_left
            · rintro w' ⟨s0, s1, s2⟩; go_simp; rfl
            try simp only [Act.put, List.setIfInBounds_toArray, List.set_cons_zero, List.set_cons_succ]
            refine takeL (i := 9) (v := ?_) rfl (by kernel_rfl) (by kernel_rfl) (by kernel_rfl) (fun _ _ _ h => h) (Or.inl ⟨by kernel_rfl, ?_⟩) hHeld ?_
            rotate_left
            · rintro w' ⟨s0, s1, s2⟩; go_simp; rfl
            try simp only [Act.put, List.setIfInBounds_toArray, List.set_cons_zero, List.set_cons_succ]
            refine takeL (i := 10) (v := .bool false) rfl (by kernel_rfl) (by kernel_rfl) (by kernel_rfl) (fun _ _ _ h => h) (Or.inl ⟨by kernel_rfl, ?_⟩) hHeld ?_
            · rintro w' ⟨s0, s1, s2⟩; go_simp; try rfl
            try simp only [Act.put, List.setIfInBounds_toArray, List.set_cons_zero, List.set_cons_succ]
            refine takeL (i := 11) (v := .bool false) rfl (by kernel_rfl) (by kernel_rfl) (by kernel_rfl) (fun _ _ _ h => h) (Or.inl ⟨by rfl, ?_⟩) hHeld ?_
            · rintro w' ⟨s0, s1, s2⟩; go_simp; try rfl
            try simp only [Act.put, List.setIfInBounds_toArray, List.set_cons_zero, List.set_cons_succ]
            refine wpAnyH_done (by kernel_rfl) ?_ _
            clear hHeld
            have hd0 := HQD.out.c0
            have hd1 := HQD.out.c1
            go_wp2_with (first
              | refine wpList_bS rfl 51 1 _ rfl (.agg #[.int .i64 (F : Int), .int .i64 (E : Int)]) _ rfl (HBu.out _) ?_
              | (refine app_sp HBD.out HLm.out (by omega) (F, E) rfl _ _ rfl rfl rfl ?_; intro a' c' w' HB')
              | fail)
            go_roundg (n - (i + 1))
            case measure => omega
            case rel => exact ⟨i + 1, m + 1, c', a', rfl, by go_num, by omega, rfl, by omega, hid (by rw [HS2.out, List.length_append, HLm.out]; rfl), hid (by rw [HS2.out]; exact HB'.out)⟩
    · have hge : ¬ ((i : Int) < (n : Int)) := by omega
      have ei : i = n := by omega
      subst ei
      go_wp2_with fail
      go_ret
      exact ⟨_, rfl, by rw [HG.out]; exact HBP.out⟩
end Go.Proofs.YtjpihkheapjigaaDoor
