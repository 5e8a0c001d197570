import Derived.Test.YtmpjapcijjjlbaaGreatDoorQd06
namespace Go.Proofs.YtmpjapcijjjlbaaGreatDoor
open Go.RowKit
set_option linter.unusedVariables false
set_option linter.unusedSimpArgs false
def PostP (l : List Sp) (w : World) : Ending → World → Prop := fun e w' => ∃ v, e = .returned v ∧ BP w w' w.heap.size v l
structure QS (g : Nat) (x y : Int) (W : World) : Prop where
  c0 : W.cell? ⟨g, 0, none⟩ = some (.int .i64 x)
  c1 : W.cell? ⟨g, 1, none⟩ = some (.int .i64 y)
structure QT (g : Nat) (x y : Int) (b o : Nat) (z : Int) (W : World) : Prop where
  c0 : W.cell? ⟨g, 0, none⟩ = some (.int .i64 x)
  c1 : W.cell? ⟨g, 1, none⟩ = some (.int .i64 y)
  c2 : W.cell? ⟨b, o, none⟩ = some (.int .i64 z)
theorem last_cases (l : List Sp) : l = [] ∨ ∃ r p, l = r ++ [p] := by
  rcases List.eq_nil_or_concat l with rfl | ⟨r, p, rfl⟩
  · exact .inl rfl
  · exact .inr ⟨r, p, by rw [List.concat_eq_append]⟩
theorem addS_last (r : List Sp) (p s : Sp) : addS (r ++ [p]) s = if s.1 ≤ p.2 then r ++ [(p.1, s.2)] else r ++ [p] ++ [s] := by
  unfold addS
  rw [List.getLast?_append]
  simp
set_option maxRecDepth 20000 in
set_option maxHeartbeats 2000000 in
theorem spans_any {w : World} (a : Option Addr) (ca : Nat) (L : List Ed) (hA : PE w a ca L) (hl : L.length ≤ 10000) (c : Nat) (hc : c ≤ 1000) :
    Calls Tryz.prog 34 #[.slice a L.length ca, .int .i64 (c : Int)] w (PostP (sps L c L.length) w) := by
  obtain ⟨n, HN⟩ : ∃ n, Hid (L.length = n) := ⟨_, rfl⟩
  obtain ⟨G, HG⟩ : ∃ G, Hid (w.heap.size = G) := ⟨_, rfl⟩
  have hn4 : n ≤ 10000 := by rw [← HN.out]; exact hl
  have HPA : Hid (∀ W, Below G w W → PE W a ca L) := fun W hW => hA.below (by rw [HG.out]; exact hW)
  have HFA : Hid (0 < n → ∃ b off, a = some ⟨b, off, none⟩) := fun h0 => by
    obtain ⟨b, off, e1, _⟩ := hA.at_ (by rw [HN.out]; exact h0)
    exact ⟨b, off, e1⟩
  have HGw : Hid (G ≤ w.heap.size) := hid (by rw [HG.out]; exact Nat.le_refl _)
  rw [HN.out]
  clear hA hl
  go_enter Tryz.func34, Tryz.ntmps34
  go_wp2_with fail
  go_loopg [5, 12] n (fun gg lv iv wr => ∃ (i m lc : Nat) (la : Option Addr), lv = .slice la m lc ∧ iv = .int .i64 i ∧ i ≤ n ∧ gg = n - i ∧ m ≤ i ∧ Hid ((sps L c i).length = m) ∧ Hid (BP w wr G (.slice la m lc) (sps L c i)))
  case atStart => exact ⟨0, 0, 0, none, rfl, rfl, Nat.zero_le _, rfl, Nat.le_refl _, hid rfl, hid (bx_nil 81 w G HGw.out)⟩
  case round =>
    obtain ⟨i, m, lc, la, rfl, rfl, hi, hk, hmi, HLm, HBP⟩ := hrel
    by_cases hlt : i < n
    · have hlti : (i : Int) < (n : Int) := by omega
      obtain ⟨b, off, e1⟩ := HFA.out (by omega)
      subst e1
      obtain ⟨k, HK⟩ : ∃ k, Hid ((L.getD i (0, [])).1 = k) := ⟨_, rfl⟩
      obtain ⟨X, HX⟩ : ∃ X, Hid ((⟨(L.getD i (0, [])).2.toArray⟩ : ByteArray) = X) := ⟨_, rfl⟩
      obtain ⟨hc0, hc1⟩ := PE.two (HPA.out _ HBP.out.below) i (by rw [HN.out]; exact hlt)
      rw [HK.out] at hc0
      rw [HX.out] at hc1
      by_cases hk0 : k = 0
      · subst hk0
        have HS1 : Hid (sps L c (i + 1) = sps L c i) := hid (by rw [sps, if_neg (by unfold Ch; rw [HK.out]; simp)])
        go_wp2_with fail
        go_roundg (n - (i + 1))
        case rel => exact ⟨i + 1, m, lc, la, rfl, by go_num, by omega, rfl, by omega, hid (by rw [HS1.out]; exact HLm.out), hid (by rw [HS1.out]; exact HBP.out.alloc _)⟩
        case measure => omega
      · have hk1 : ¬ (k : Int) = 0 := by omega
        have hk2 : ((k : Int) == 0) = false := by simp; omega
        obtain ⟨F, HF⟩ : ∃ F, Hid (i - c = F) := ⟨_, rfl⟩
        obtain ⟨E, HE⟩ : ∃ E, Hid (min (i + c + 1) n = E) := ⟨_, rfl⟩
        have hF : max ((i : Int) - (c : Int)) 0 = (F : Int) := by rw [← HF.out]; omega
        have hE : min ((i : Int) + (c : Int) + 1) (n : Int) = (E : Int) := by rw [← HE.out]; omega
        have hFn : F ≤ n := by rw [← HF.out]; omega
        have hEn : E ≤ n := by rw [← HE.out]; omega
        have HS1 : Hid (sps L c (i + 1) = addS (sps L c i) (F, E)) := hid (by rw [sps, if_pos (by unfold Ch; rw [HK.out]; exact hk0)]; unfold spn; rw [HN.out, HF.out, HE.out])
        obtain ⟨g, HGg⟩ : ∃ g, Hid (wr.heap.size = g) := ⟨_, rfl⟩
        obtain ⟨w1, HW1⟩ : ∃ u, Hid ((wr.alloc (.cells #[.int .i64 (k : Int), .string X] 43)).alloc (.cells #[.int .i64 (F : Int), .int .i64 (E : Int)] 81) = u) := ⟨_, rfl⟩
        have HB1 : Hid (BP w w1 G (.slice la m lc) (sps L c i)) := hid (by rw [← HW1.out]; exact (HBP.out.alloc _).alloc _)
        have HQ1 : Hid (QS (g + 1) F E w1) := hid (by rw [← HW1.out, ← HGg.out]; exact ⟨by simp, by simp⟩)
        have HG1 : Hid (g + 1 < w1.heap.size) := hid (by rw [← HW1.out, ← HGg.out]; simp)
        go_wp2_with fail
        rw [HW1.out, HGg.out]
        have HBD : Hid (BP w w1.drew G (.slice la m lc) (sps L c i)) := hid (HB1.out.carry ⟨rfl, rfl, rfl, Nat.le_refl _, fun _ _ => rfl⟩)
        have HQD : Hid (QS (g + 1) F E w1.drew) := hid ⟨HQ1.out.c0, HQ1.out.c1⟩
        have HBu : Hid (∀ W : World, (Instr.buildSlice 78 1 #[(0, .agg #[.int .i64 (F : Int), .int .i64 (E : Int)])]).run Tryz.prog W = .ok (.slice (some ⟨W.heap.size, 0, none⟩) 1 1) (W.alloc (.cells #[.int .i64 (F : Int), .int .i64 (E : Int)] 81))) := fun W => run_build51 F E W
        rcases last_cases (sps L c i) with hs0 | ⟨r, p, hs0⟩
        · have hm0 : m = 0 := by rw [← HLm.out, hs0]; rfl
          have HS2 : Hid (sps L c (i + 1) = sps L c i ++ [(F, E)]) := hid (by rw [HS1.out, hs0]; rfl)
          have hm1 : ¬ 0 ≤ (m : Int) - 1 := by omega
          have hm2 : m ≤ 5 := by omega
          clear hm0
          refine wp_region_held_drew (S := QS (g + 1) F E) (by kernel_rfl) HQD.out (fun hHeld => ?_)
          generalize w1.drew = wd at HBD HQD hHeld ⊢
          refine takeL (i := 0) (v := ?_) rfl (by kernel_rfl) (by kernel_rfl) (by kernel_rfl) (fun _ _ _ h => h) (Or.inl ⟨by rfl, ?_⟩) hHeld ?_
          rotate_left
          · rintro w' ⟨s0, s1⟩; go_simp; rfl
          try simp only [Act.put, List.setIfInBounds_toArray, List.set_cons_zero, List.set_cons_succ]
          refine takeL (i := 1) (v := .bool false) rfl (by kernel_rfl) (by kernel_rfl) (by kernel_rfl) (fun _ _ _ h => h) (Or.inl ⟨by rfl, ?_⟩) hHeld ?_
          · rintro w' ⟨s0, s1⟩; go_simp; first | done | rfl | omega
          try simp only [Act.put, List.setIfInBounds_toArray, List.set_cons_zero, List.set_cons_succ]
          refine takeL (i := 2) (v := ?_) rfl (by kernel_rfl) (by kernel_rfl) (by kernel_rfl) (fun _ _ _ h => h) (Or.inl ⟨by rfl, ?_⟩) hHeld ?_
          rotate_left
          · rintro w' ⟨s0, s1⟩; go_simp; rfl
          try simp only [Act.put, List.setIfInBounds_toArray, List.set_cons_zero, List.set_cons_succ]
          refine takeL (i := 3) (v := undef) rfl (by kernel_rfl) (by kernel_rfl) (by kernel_rfl) (fun _ _ _ h => h) (Or.inr ⟨by kernel_rfl, rfl⟩) hHeld ?_
          try simp only [Act.put, List.setIfInBounds_toArray, List.set_cons_zero, List.set_cons_succ]
          refine takeL (i := 4) (v := undef) rfl (by kernel_rfl) (by kernel_rfl) (by kernel_rfl) (fun _ _ _ h => h) (Or.inr ⟨by kernel_rfl, rfl⟩) hHeld ?_
          try simp only [Act.put, List.setIfInBounds_toArray, List.set_cons_zero, List.set_cons_succ]
          refine takeL (i := 5) (v := undef) rfl (by kernel_rfl) (by kernel_rfl) (by kernel_rfl) (fun _ _ _ h => h) (Or.inr ⟨by kernel_rfl, rfl⟩) hHeld ?_
          try simp only [Act.put, List.setIfInBounds_toArray, List.set_cons_zero, List.set_cons_succ]
          refine takeL (i := 6) (v := undef) rfl (by kernel_rfl) (by kernel_rfl) (by kernel_rfl) (fun _ _ _ h => h) (Or.inr ⟨by kernel_rfl, rfl⟩) hHeld ?_
          try simp only [Act.put, List.setIfInBounds_toArray, List.set_cons_zero, List.set_cons_succ]
          refine takeL (i := 7) (v := undef) rfl (by kernel_rfl) (by kernel_rfl) (by kernel_rfl) (fun _ _ _ h => h) (Or.inr ⟨by kernel_rfl, rfl⟩) hHeld ?_
          try simp only [Act.put, List.setIfInBounds_toArray, List.set_cons_zero, List.set_cons_succ]
          refine takeL (i := 8) (v := undef) rfl (by kernel_rfl) (by kernel_rfl) (by kernel_rfl) (fun _ _ _ h => h) (Or.inr ⟨by kernel_rfl, rfl⟩) hHeld ?_
          try simp only [Act.put, List.setIfInBounds_toArray, List.set_cons_zero, List.set_cons_succ]
          refine takeL (i := 9) (v := undef) rfl (by kernel_rfl) (by kernel_rfl) (by kernel_rfl) (fun _ _ _ h => h) (Or.inr ⟨by kernel_rfl, rfl⟩) hHeld ?_
          try simp only [Act.put, List.setIfInBounds_toArray, List.set_cons_zero, List.set_cons_succ]
          refine takeL (i := 10) (v := undef) rfl (by kernel_rfl) (by kernel_rfl) (by kernel_rfl) (fun _ _ _ h => h) (Or.inr ⟨by kernel_rfl, rfl⟩) hHeld ?_
          try simp only [Act.put, List.setIfInBounds_toArray, List.set_cons_zero, List.set_cons_succ]
          refine takeL (i := 11) (v := .bool false) rfl (by kernel_rfl) (by kernel_rfl) (by kernel_rfl) (fun _ _ _ h => h) (Or.inl ⟨by rfl, ?_⟩) hHeld ?_
          · rintro w' ⟨s0, s1⟩; go_simp; try rfl
          try simp only [Act.put, List.setIfInBounds_toArray, List.set_cons_zero, List.set_cons_succ]
          refine wpAnyH_done (by kernel_rfl) ?_ _
          clear hHeld
          have hd0 := HQD.out.c0
          have hd1 := HQD.out.c1
          go_wp2_with (first
            | refine wpList_bS rfl 78 1 _ rfl (.agg #[.int .i64 (F : Int), .int .i64 (E : Int)]) _ rfl (HBu.out _) ?_
            | (refine app_sp HBD.out HLm.out (by omega) (F, E) rfl _ _ rfl rfl rfl ?_; intro a' c' w' HB')
            | fail)
          go_roundg (n - (i + 1))
          case measure => omega
          case rel => exact ⟨i + 1, m + 1, c', a', rfl, by go_num, by omega, rfl, by omega, hid (by rw [HS2.out, List.length_append, HLm.out]; rfl), hid (by rw [HS2.out]; exact HB'.out)⟩
        · have hq : m = r.length + 1 := by rw [← HLm.out, hs0]; simp
          obtain ⟨q, HQq⟩ : ∃ q, Hid (r.length = q) := ⟨_, rfl⟩
          rw [HQq.out] at hq
          obtain ⟨bk, e2⟩ : ∃ bk, la = some ⟨bk, 0, none⟩ := by
            obtain ⟨a', cap', e3, hpx, _, h5⟩ := HBD.out.px (d := (0, 0)) (fun x _ => encP_len x)
            injection e3 with e4 _ e6
            subst e4
            rcases h5 with h5 | h5
            · have h6 := hpx.nil h5
              have h7 := hpx.capl
              rw [HLm.out] at h7
              omega
            · exact h5
          subst e2
          obtain ⟨z, HZ⟩ : ∃ z, Hid (p.2 = z) := ⟨_, rfl⟩
          have HC2 : Hid (w1.drew.cell? ⟨bk, q * 2 + 1, none⟩ = some (.int .i64 (z : Int))) := hid (by
            obtain ⟨a', cap', e3, hpx, _, h5⟩ := HBD.out.px (d := (0, 0)) (fun x _ => encP_len x)
            injection e3 with e4 _ e6
            subst e4
            have := (PP.two hpx q (by rw [HLm.out]; omega)).2
            rw [hs0, List.getD_eq_getElem?_getD, List.getElem?_append_right (by rw [HQq.out]; exact Nat.le_refl _), HQq.out, Nat.sub_self, Nat.zero_add] at this
            rw [← HZ.out]
            exact this)
          have HFZ : Hid (w1.drew.frozen? ⟨bk, q * 2 + 1, none⟩ = false) := hid (by
            have ho := HBD.out.own
            rw [HLm.out] at ho
            exact ho.frozenAt _)
          have HQT : Hid (QT (g + 1) F E bk (q * 2 + 1) z w1.drew) := hid ⟨HQD.out.c0, HQD.out.c1, HC2.out⟩
          have hmI : (m : Int) - 1 = (q : Int) := by omega
          have hq0 : 0 ≤ (q : Int) := by omega
          have hqm : q < m := by omega
          have hqm2 : (q : Int) < (m : Int) := by omega
          rw [hmI]
          have HQ1m : Hid (m = q + 1) := hq
          have hm2 : m ≤ i := hmi
          clear hmI hq
          by_cases hFz : F ≤ z
          · have hFzI : (F : Int) ≤ (z : Int) := by omega
            have HS2 : Hid (sps L c (i + 1) = r ++ [(p.1, E)]) := hid (by rw [HS1.out, hs0, addS_last, if_pos (by rw [HZ.out]; exact hFz)])
            refine wp_region_held_drew (S := QT (g + 1) F E bk (q * 2 + 1) z) (by kernel_rfl) HQT.out (fun hHeld => ?_)
            generalize w1.drew = wd at HBD HQD HQT HC2 HFZ hHeld ⊢
            refine takeL (i := 0) (v := ?_) rfl (by kernel_rfl) (by kernel_rfl) (by kernel_rfl) (fun _ _ _ h => h) (Or.inl ⟨by rfl, ?_⟩) hHeld ?_
            rotate_left
            · rintro w' ⟨s0, s1, s2⟩; go_simp; rfl
            try simp only [Act.put, List.setIfInBounds_toArray, List.set_cons_zero, List.set_cons_succ]
            refine takeL (i := 1) (v := .bool true) rfl (by kernel_rfl) (by kernel_rfl) (by kernel_rfl) (fun _ _ _ h => h) (Or.inl ⟨by rfl, ?_⟩) hHeld ?_
            · rintro w' ⟨s0, s1, s2⟩; go_simp; try rfl
            try simp only [Act.put, List.setIfInBounds_toArray, List.set_cons_zero, List.set_cons_succ]
            refine takeL (i := 2) (v := ?_) rfl (by kernel_rfl) (by kernel_rfl) (by kernel_rfl) (fun _ _ _ h => h) (Or.inl ⟨by rfl, ?_⟩) hHeld ?_
            rotate_left
            · rintro w' ⟨s0, s1, s2⟩; go_simp; rfl
            try simp only [Act.put, List.setIfInBounds_toArray, List.set_cons_zero, List.set_cons_succ]
            refine takeL (i := 3) (v := ?_) rfl (by kernel_rfl) (by kernel_rfl) (by kernel_rfl) (fun _ _ _ h => h) (Or.inl ⟨by kernel_rfl, ?_⟩) hHeld ?_
            rotate_left
            · rintro w' ⟨s0, s1, s2⟩; go_simp; rfl
            try simp only [Act.put, List.setIfInBounds_toArray, List.set_cons_zero, List.set_cons_succ]
            refine takeL (i := 4) (v := ?_) rfl (by kernel_rfl) (by kernel_rfl) (by kernel_rfl) (fun _ _ _ h => h) (Or.inl ⟨by kernel_rfl, ?_⟩) hHeld ?_
            rotate_left
            · rintro w' ⟨s0, s1, s2⟩; go_simp; rfl
            try simp only [Act.put, List.setIfInBounds_toArray, List.set_cons_zero, List.set_cons_succ]
            refine takeL (i := 5) (v := ?_) rfl (by kernel_rfl) (by kernel_rfl) (by kernel_rfl) (fun _ _ _ h => h) (Or.inl ⟨by kernel_rfl, ?_⟩) hHeld ?_
            rotate_left
            · rintro w' ⟨s0, s1, s2⟩; go_simp; rfl
            try simp only [Act.put, List.setIfInBounds_toArray, List.set_cons_zero, List.set_cons_succ]
            refine takeL (i := 6) (v := ?_) rfl (by kernel_rfl) (by kernel_rfl) (by kernel_rfl) (fun _ _ _ h => h) (Or.inl ⟨by kernel_rfl, ?_⟩) hHeld ?_
            rotate_left
            · rintro w' ⟨s0, s1, s2⟩; go_simp; rfl
            try simp only [Act.put, List.setIfInBounds_toArray, List.set_cons_zero, List.set_cons_succ]
            refine takeL (i := 7) (v := ?_) rfl (by kernel_rfl) (by kernel_rfl) (by kernel_rfl) (fun _ _ _ h => h) (Or.inl ⟨by kernel_rfl, ?_⟩) hHeld ?_
            rotate_left
            · rintro w' ⟨s0, s1, s2⟩; go_simp; rfl
            try simp only [Act.put, List.setIfInBounds_toArray, List.set_cons_zero, List.set_cons_succ]
            refine takeL (i := 8) (v := ?_) rfl (by kernel_rfl) (by kernel_rfl) (by kernel_rfl) (fun _ _ _ h => h) (Or.inl ⟨by kernel_rfl, ?_⟩) hHeld ?_
            rotate_left
            · rintro w' ⟨s0, s1, s2⟩; go_simp; rfl
            try simp only [Act.put, List.setIfInBounds_toArray, List.set_cons_zero, List.set_cons_succ]
            refine takeL (i := 9) (v := ?_) rfl (by kernel_rfl) (by kernel_rfl) (by kernel_rfl) (fun _ _ _ h => h) (Or.inl ⟨by kernel_rfl, ?_⟩) hHeld ?_
            rotate_left
            · rintro w' ⟨s0, s1, s2⟩; go_simp; rfl
            try simp only [Act.put, List.setIfInBounds_toArray, List.set_cons_zero, List.set_cons_succ]
            refine takeL (i := 10) (v := .bool true) rfl (by kernel_rfl) (by kernel_rfl) (by kernel_rfl) (fun _ _ _ h => h) (Or.inl ⟨by kernel_rfl, ?_⟩) hHeld ?_
            · rintro w' ⟨s0, s1, s2⟩; go_simp; try rfl
            try simp only [Act.put, List.setIfInBounds_toArray, List.set_cons_zero, List.set_cons_succ]
            refine takeL (i := 11) (v := .bool true) rfl (by kernel_rfl) (by kernel_rfl) (by kernel_rfl) (fun _ _ _ h => h) (Or.inl ⟨by rfl, ?_⟩) hHeld ?_
            · rintro w' ⟨s0, s1, s2⟩; go_simp; try rfl
            try simp only [Act.put, List.setIfInBounds_toArray, List.set_cons_zero, List.set_cons_succ]
            refine wpAnyH_done (by kernel_rfl) ?_ _
            clear hHeld
            have hd0 := HQD.out.c0
            have hd1 := HQD.out.c1
            have hd2 := HC2.out
            have hd3 := HFZ.out
            go_wp2_with fail
            go_roundg (n - (i + 1))
            case measure => omega
            case rel => exact ⟨i + 1, m, lc, some ⟨bk, 0, none⟩, rfl, by go_num, by omega, rfl, by omega, hid (by rw [HS2.out]; simp; rw [HQq.out]; exact HQ1m.out.symm), hid (by
              rw [HS2.out]
              have h := HBD.out
              rw [hs0] at h
              have := BP.more h (by rw [HQq.out]; exact HQ1m.out.symm) E
              rw [HQq.out] at this
              exact this)⟩
          · have hFzI : ¬ (F : Int) ≤ (z : Int) := by omega
            have HS2 : Hid (sps L c (i + 1) = sps L c i ++ [(F, E)]) := hid (by rw [HS1.out, hs0, addS_last, if_neg (by rw [HZ.out]; exact hFz)])
            refine wp_region_held_drew (S := QT (g + 1) F E bk (q * 2 + 1) z) (by kernel_rfl) HQT.out (fun hHeld => ?_)
            generalize w1.drew = wd at HBD HQD HQT HC2 HFZ hHeld ⊢
            refine takeL (i := 0) (v := ?_) rfl (by kernel_rfl) (by kernel_rfl) (by kernel_rfl) (fun _ _ _ h => h) (Or.inl ⟨by rfl, ?_⟩) hHeld ?_
            rotate_left
            · rintro w' ⟨s0, s1, s2⟩; go_simp; rfl
            try simp only [Act.put, List.setIfInBounds_toArray, List.set_cons_zero, List.set_cons_succ]
            refine takeL (i := 1) (v := .bool true) rfl (by kernel_rfl) (by kernel_rfl) (by kernel_rfl) (fun _ _ _ h => h) (Or.inl ⟨by rfl, ?_⟩) hHeld ?_
            · rintro w' ⟨s0, s1, s2⟩; go_simp; try rfl
            try simp only [Act.put, List.setIfInBounds_toArray, List.set_cons_zero, List.set_cons_succ]
            refine takeL (i := 2) (v := ?_) rfl (by kernel_rfl) (by kernel_rfl) (by kernel_rfl) (fun _ _ _ h => h) (Or.inl ⟨by rfl, ?_⟩) hHeld ?_
            rotate_left
            · rintro w' ⟨s0, s1, s2⟩; go_simp; rfl
            try simp only [Act.put, List.setIfInBounds_toArray, List.set_cons_zero, List.set_cons_succ]
            refine takeL (i := 3) (v := ?_) rfl (by kernel_rfl) (by kernel_rfl) (by kernel_rfl) (fun _ _ _ h => h) (Or.inl ⟨by kernel_rfl, ?_⟩) hHeld ?_
            rotate_left
            · rintro w' ⟨s0, s1, s2⟩; go_simp; rfl
            try simp only [Act.put, List.setIfInBounds_toArray, List.set_cons_zero, List.set_cons_succ]
            refine takeL (i := 4) (v := ?_) rfl (by kernel_rfl) (by kernel_rfl) (by kernel_rfl) (fun _ _ _ h => h) (Or.inl ⟨by kernel_rfl, ?_⟩) hHeld ?_
            rotate_left
            · rintro w' ⟨s0, s1, s2⟩; go_simp; rfl
            try simp only [Act.put, List.setIfInBounds_toArray, List.set_cons_zero, List.set_cons_succ]
            refine takeL (i := 5) (v := ?_) rfl (by kernel_rfl) (by kernel_rfl) (by kernel_rfl) (fun _ _ _ h => h) (Or.inl ⟨by kernel_rfl, ?_⟩) hHeld ?_
            rotate_left
            · rintro w' ⟨s0, s1, s2⟩; go_simp; rfl
            try simp only [Act.put, List.setIfInBounds_toArray, List.set_cons_zero, List.set_cons_succ]
            refine takeL (i := 6) (v := ?_) rfl (by kernel_rfl) (by kernel_rfl) (by kernel_rfl) (fun _ _ _ h => h) (Or.inl ⟨by kernel_rfl, ?_⟩) hHeld ?_
            rotate_left
            · rintro w' ⟨s0, s1, s2⟩; go_simp; rfl
            try simp only [Act.put, List.setIfInBounds_toArray, List.set_cons_zero, List.set_cons_succ]
            refine takeL (i := 7) (v := ?_) rfl (by kernel_rfl) (by kernel_rfl) (by kernel_rfl) (fun _ _ _ h => h) (Or.inl ⟨by kernel_rfl, ?_⟩) hHeld ?_
            rotate_left
            · rintro w' ⟨s0, s1, s2⟩; go_simp; rfl
            try simp only [Act.put, List.setIfInBounds_toArray, List.set_cons_zero, List.set_cons_succ]
            refine takeL (i := 8) (v := ?_) rfl (by kernel_rfl) (by kernel_rfl) (by kernel_rfl) (fun _ _ _ h => h) (Or.inl ⟨by kernel_rfl, ?_⟩) hHeld ?_
            rotate_left
            · rintro w' ⟨s0, s1, s2⟩; go_simp; rfl
            try simp only [Act.put, List.setIfInBounds_toArray, List.set_cons_zero, List.set_cons_succ]
            refine takeL (i := 9) (v := ?_) rfl (by kernel_rfl) (by kernel_rfl) (by kernel_rfl) (fun _ _ _ h => h) (Or.inl ⟨by kernel_rfl, ?_⟩) hHeld ?_
            rotate_left
            · rintro w' ⟨s0, s1, s2⟩; go_simp; rfl
            try simp only [Act.put, List.setIfInBounds_toArray, List.set_cons_zero, List.set_cons_succ]
            refine takeL (i := 10) (v := .bool false) rfl (by kernel_rfl) (by kernel_rfl) (by kernel_rfl) (fun _ _ _ h => h) (Or.inl ⟨by kernel_rfl, ?_⟩) hHeld ?_
            · rintro w' ⟨s0, s1, s2⟩; go_simp; try rfl
            try simp only [Act.put, List.setIfInBounds_toArray, List.set_cons_zero, List.set_cons_succ]
            refine takeL (i := 11) (v := .bool false) rfl (by kernel_rfl) (by kernel_rfl) (by kernel_rfl) (fun _ _ _ h => h) (Or.inl ⟨by rfl, ?_⟩) hHeld ?_
            · rintro w' ⟨s0, s1, s2⟩; go_simp; try rfl
            try simp only [Act.put, List.setIfInBounds_toArray, List.set_cons_zero, List.set_cons_succ]
            refine wpAnyH_done (by kernel_rfl) ?_ _
            clear hHeld
            have hd0 := HQD.out.c0
            have hd1 := HQD.out.c1
            go_wp2_with (first
              | refine wpList_bS rfl 78 1 _ rfl (.agg #[.int .i64 (F : Int), .int .i64 (E : Int)]) _ rfl (HBu.out _) ?_
              | (refine app_sp HBD.out HLm.out (by omega) (F, E) rfl _ _ rfl rfl rfl ?_; intro a' c' w' HB')
              | fail)
            go_roundg (n - (i + 1))
            case measure => omega
            case rel => exact ⟨i + 1, m + 1, c', a', rfl, by go_num, by omega, rfl, by omega, hid (by rw [HS2.out, List.length_append, HLm.out]; rfl), hid (by rw [HS2.out]; exact HB'.out)⟩
    · have hge : ¬ ((i : Int) < (n : Int)) := by omega
      have ei : i = n := by omega
      subst ei
      go_wp2_with fail
      go_ret
      exact ⟨_, rfl, by rw [HG.out]; exact HBP.out⟩
end Go.Proofs.YtmpjapcijjjlbaaGreatDoor
namespace Go.Proofs.YtmpjapcijjjlbaaGreatDoor
open Go.RowKit
set_option linter.unusedVariables false
set_option linter.unusedSimpArgs false
def encH (a : Option Addr) (ca : Nat) (L : List Ed) (s : Sp) : List Value := [.int .i64 ((cA (L.take s.1) : Nat) : Int), .int .i64 ((cB (L.take s.1) : Nat) : Int), .slice (adX 2 a ca s.1) (s.2 - s.1 : Nat) (ca - s.1 : Nat)]
abbrev PH (a : Option Addr) (ca : Nat) (L : List Ed) (w : World) (b : Option Addr) (cap : Nat) (l : List Sp) : Prop := Px (encH a ca L) 3 (0, 0) w b cap l
abbrev BH (a : Option Addr) (ca : Nat) (L : List Ed) (w0 w : World) (B : Nat) (v : Value) (l : List Sp) : Prop := Bx (encH a ca L) 3 73 w0 w B v l
theorem encH_len (a : Option Addr) (ca : Nat) (L : List Ed) (x : Sp) : (encH a ca L x).length = 3 := rfl
theorem encH_one (a : Option Addr) (ca : Nat) (L : List Ed) (x : Sp) : ∀ v ∈ encH a ca L x, v.oneCell' = true := fun v hv => by
  rcases List.mem_cons.1 hv with rfl | hv
  · rfl
  · rcases List.mem_cons.1 hv with rfl | hv
    · rfl
    · rw [List.mem_singleton.1 hv]; rfl
theorem Tryz.info73 : (Tryz.prog.info? 73).map (fun i => (i.zero, i.size, i.bytes)) = some (some (.agg #[.int .i64 0, .int .i64 0, .slice none 0 0]), 3, 40) := by kernel_rfl
theorem und27 : Tryz.prog.underlying 45 = some (.slice 73) := by kernel_rfl
theorem run_build27 (x y : Nat) (p : Option Addr) (n c : Nat) (w : World) : (Instr.buildSlice 45 1 #[(0, .agg #[.int .i64 (x : Int), .int .i64 (y : Int), .slice p n c])]).run Tryz.prog w = .ok (.slice (some ⟨w.heap.size, 0, none⟩) 1 1) (w.alloc (.cells #[.int .i64 (x : Int), .int .i64 (y : Int), .slice p n c] 73)) := by
  obtain ⟨i, hq, hz, hs, _⟩ := info_parts Tryz.info73
  refine run_buildSlice w 45 73 1 _ #[.int .i64 (x : Int), .int .i64 (y : Int), .slice p n c] i _ Tryz.underlying45 hq hz (by rw [hs]; decide) (by rw [hs]; decide) ?_
  rw [hs]
  kernel_rfl
theorem ph_one (a : Option Addr) (ca : Nat) (L : List Ed) (x : Sp) (e : TypeId) (w : World) : PH a ca L (w.alloc (.cells (encH a ca L x).toArray e)) (some ⟨w.heap.size, 0, none⟩) 1 [x] :=
  ⟨by simp, fun _ => ⟨w.heap.size, 0, rfl, by simp, fun i hi => by
    obtain rfl : i = 0 := by simp at hi; omega
    have := range_row (cs := encH a ca L x) (heap_alloc_new w (.cells (encH a ca L x).toArray e))
    simpa using this⟩, fun h => by cases h⟩
theorem app_hk {a : Option Addr} {ca : Nat} {L : List Ed} {w0 wr : World} {G m lc : Nat} {la : Option Addr} {M : List Sp} (hB : BH a ca L w0 wr G (.slice la m lc) M) (hLm : M.length = m) (hm : m ≤ 20000) (x : Sp) (X Y Z : Value) (hX : encH a ca L x = [X, Y, Z])
    {ops : Array Oper} {rest : List Oper} {o : Oper} {ac : Act} {Q : Exit → Act → World → Prop} (hg : o.guard = none) (s y : Operand) (ho : o.op = .call { callee := .builtin .append, args := #[s, y], argTypes := #[45, 45] }) (hs : ac.eval s = .slice la m lc) (hy : ac.eval y = .slice (some ⟨wr.heap.size, 0, none⟩) 1 1)
    (hK : ∀ a' c' w', Hid (BH a ca L w0 w' G (.slice a' (m + 1 : Nat) c') (M ++ [x])) → wpList Tryz.prog ops Q rest (ac.put o.dst (.slice a' (m + 1 : Nat) c')) w') : wpList Tryz.prog ops Q (o :: rest) ac (wr.alloc (.cells #[X, Y, Z] 73)) := by
  rw [show (#[X, Y, Z] : Array Value) = (encH a ca L x).toArray by rw [hX]]
  refine wpList_bx_sl hg s y 45 73 und27 Tryz.info73 rfl (by decide) (by decide) (encH_one a ca L) ho G (.slice la m lc) M hs (hB.alloc _) _ 1 [x] hy (ph_one a ca L x 73 wr) (fun x _ => encH_len a ca L x) (by rw [hLm]; simp; omega) ?_
  intro v' w' h1 h2
  obtain ⟨a', c', rfl⟩ := owns_shape h1.own
  rw [List.length_append, hLm] at h1 ⊢
  exact hK a' c' w' h1
theorem sps_ok (L : List Ed) (c : Nat) : ∀ i, i ≤ L.length → ∀ s ∈ sps L c i, s.1 ≤ s.2 ∧ s.2 ≤ L.length ∧ s.1 < i
  | 0, _, s, hs => by cases hs
  | i + 1, hi, s, hs => by
    have ih := sps_ok L c i (by omega)
    rw [sps] at hs
    split at hs
    · rcases last_cases (sps L c i) with h0 | ⟨r, p, h0⟩
      · rw [h0] at hs
        rw [List.mem_singleton.1 hs]
        unfold spn
        simp only
        omega
      · rw [h0, addS_last] at hs
        split at hs
        · rcases List.mem_append.1 hs with h | h
          · have := ih s (by rw [h0]; simp [h])
            omega
          · have := ih p (by rw [h0]; simp)
            rw [List.mem_singleton.1 h]
            unfold spn
            simp only
            omega
        · rcases List.mem_append.1 hs with h | h
          · have := ih s (by rw [h0]; exact h)
            omega
          · rw [List.mem_singleton.1 h]
            unfold spn
            simp only
            omega
    · have := ih s hs
      omega
theorem elem29 : Tryz.prog.underlying 23 = some (.slice (Tryz.prog.elem 23)) := by kernel_rfl
theorem size29e (w : World) : (Go.sizeOf (Tryz.prog.elem 23)).run Tryz.prog w = .ok 2 w := by kernel_rfl
theorem sl29_to (a : Option Addr) (n cap j : Nat) (h : j ≤ cap) (w : World) : (Instr.slice 23 (.slice a n cap) none (some (.int .i64 j)) none).run Tryz.prog w = .ok (.slice a j cap) w := by
  rw [run_slice_h w 23 a n cap elem29 .i64 j (by omega) (by omega), size29e, Result.andThen_ok, sliced]
  congr 2
  split
  · rfl
  · cases a with
    | none => rfl
    | some p => obtain ⟨b, o, f⟩ := p; simp [Addr.add]
theorem sl29_mid (a : Option Addr) (n cap i j : Nat) (hij : i ≤ j) (h : j ≤ cap) (w : World) : (Instr.slice 23 (.slice a n cap) (some (.int .i64 i)) (some (.int .i64 j)) none).run Tryz.prog w = .ok (.slice (adX 2 a cap i) (j - i : Nat) (cap - i : Nat)) w := by
  rw [run_slice_lh w 23 a n cap elem29 .i64 .i64 i j (by omega) (by omega) (by omega), size29e, Result.andThen_ok, sliced]
  rfl
def PostH (a : Option Addr) (ca : Nat) (L : List Ed) (l : List Sp) (w : World) : Ending → World → Prop := fun e w' => ∃ v, e = .returned v ∧ BH a ca L w w' w.heap.size v l
set_option maxRecDepth 20000 in
set_option maxHeartbeats 2000000 in
theorem cut_any {w : World} (a : Option Addr) (ca : Nat) (L : List Ed) (hA : PE w a ca L) (hl : L.length ≤ 10000) (c : Nat) (hc : c ≤ 1000) :
    Calls Tryz.prog 17 #[.slice a L.length ca, .int .i64 (c : Int)] w (PostH a ca L (sps L c L.length) w) := by
  obtain ⟨n, HN⟩ : ∃ n, Hid (L.length = n) := ⟨_, rfl⟩
  obtain ⟨G, HG⟩ : ∃ G, Hid (w.heap.size = G) := ⟨_, rfl⟩
  obtain ⟨S, HS⟩ : ∃ S, Hid (sps L c L.length = S) := ⟨_, rfl⟩
  obtain ⟨q, HQ⟩ : ∃ q, Hid (S.length = q) := ⟨_, rfl⟩
  have hn4 : n ≤ 10000 := by rw [← HN.out]; exact hl
  have hq4 : q ≤ 10000 := by rw [← HQ.out, ← HS.out]; exact Nat.le_trans (sps_len L c L.length) hl
  have hca : n ≤ ca := by rw [← HN.out]; exact hA.capl
  have HOK : Hid (∀ s ∈ S, s.1 ≤ s.2 ∧ s.2 ≤ n) := fun s hs => by
    have := sps_ok L c L.length (Nat.le_refl _) s (by rw [HS.out]; exact hs)
    rw [← HN.out]
    exact ⟨this.1, this.2.1⟩
  have HPA : Hid (∀ W, Below G w W → PE W a ca L) := fun W hW => hA.below (by rw [HG.out]; exact hW)
  have C17 : Hid (Calls Tryz.prog 34 #[.slice a n ca, .int .i64 (c : Int)] w (PostP S w)) := hid (by rw [← HN.out, ← HS.out]; exact spans_any a ca L hA hl c hc)
  have C18 : Hid (∀ f W, f ≤ n → Below G w W → Calls Tryz.prog 35 #[.slice a f ca] W fun e w' => e = .returned (.tuple #[.int .i64 (cA (L.take f) : Nat), .int .i64 (cB (L.take f) : Nat)]) ∧ Below W.heap.size W w') := fun f W hf hW => by
    have hlf : (L.take f).length = f := by rw [List.length_take, HN.out]; omega
    have := count_any a ca (L.take f) ((HPA.out W hW).take f) (by rw [hlf]; omega)
    rw [hlf] at this
    exact this
  rw [HS.out, HN.out]
  clear hA hl
  go_enter Tryz.func17, Tryz.ntmps17
  go_wp2_with fail
  refine C17.out.mono ?_
  rintro e w1 ⟨v, rfl, hbp⟩
  obtain ⟨sa, sc, rfl, hpp, hsa, _⟩ := hbp.px (d := (0, 0)) (fun x _ => encP_len x)
  have HB1 : Hid (Below G w w1) := hid (by rw [← HG.out]; exact hbp.below)
  have HPS : Hid (PP w1 sa sc S) := hpp
  have HG1 : Hid (G ≤ w1.heap.size) := hid (by rw [← HG.out]; exact hbp.le)
  have HFS : Hid (0 < q → ∃ b off, sa = some ⟨b, off, none⟩) := fun h0 => by
    obtain ⟨b, off, e1, _⟩ := hpp.at_ (by rw [HQ.out]; exact h0)
    exact ⟨b, off, e1⟩
  clear hbp hpp hsa
  rw [HQ.out]
  obtain ⟨G1, HG1e⟩ : ∃ G1, Hid (w1.heap.size = G1) := ⟨_, rfl⟩
  go_wp2_with fail
  go_loopg [5, 14] q (fun gg lv iv wr => ∃ (i m lc : Nat) (la : Option Addr), lv = .slice la m lc ∧ iv = .int .i64 i ∧ i ≤ q ∧ gg = q - i ∧ m ≤ i ∧ Hid ((S.take i).length = m) ∧ Hid (BH a ca L w1 wr G1 (.slice la m lc) (S.take i)))
  case atStart => exact ⟨0, 0, 0, none, rfl, rfl, Nat.zero_le _, rfl, Nat.le_refl _, hid rfl, hid (bx_nil 73 w1 G1 (by rw [HG1e.out]; exact Nat.le_refl _))⟩
  case round =>
    obtain ⟨i, m, lc, la, rfl, rfl, hi, hk, hmi, HLm, HBH⟩ := hrel
    by_cases hlt : i < q
    · have hlti : (i : Int) < (q : Int) := by omega
      obtain ⟨b, off, e1⟩ := HFS.out (by omega)
      subst e1
      obtain ⟨f, HF⟩ : ∃ k, Hid ((S.getD i (0, 0)).1 = k) := ⟨_, rfl⟩
      obtain ⟨e, HE⟩ : ∃ k, Hid ((S.getD i (0, 0)).2 = k) := ⟨_, rfl⟩
      obtain ⟨hfe, hen⟩ := HOK.out _ (getD_mem S i (0, 0) (by rw [HQ.out]; exact hlt))
      rw [HF.out, HE.out] at hfe
      rw [HE.out] at hen
      obtain ⟨hc0, hc1⟩ := PP.two (HPS.out.below (by rw [HG1e.out]; exact HBH.out.below)) i (by rw [HQ.out]; exact hlt)
      rw [HF.out] at hc0
      rw [HE.out] at hc1
      obtain ⟨x, HX⟩ : ∃ k, Hid (cA (L.take f) = k) := ⟨_, rfl⟩
      obtain ⟨y, HY⟩ : ∃ k, Hid (cB (L.take f) = k) := ⟨_, rfl⟩
      obtain ⟨z, HZ⟩ : ∃ k, Hid (adX 2 a ca f = k) := ⟨_, rfl⟩
      have hs0 : ∀ W : World, (Instr.slice 23 (.slice a n ca) none (some (.int .i64 (f : Int))) none).run Tryz.prog W = .ok (.slice a f ca) W := fun W => sl29_to a n ca f (by omega) W
      have hs1 : ∀ W : World, (Instr.slice 23 (.slice a n ca) (some (.int .i64 (f : Int))) (some (.int .i64 (e : Int))) none).run Tryz.prog W = .ok (.slice z (e - f : Nat) (ca - f : Nat)) W := fun W => by rw [← HZ.out]; exact sl29_mid a n ca f e hfe (by omega) W
      have HEN : Hid (encH a ca L (S.getD i (0, 0)) = [.int .i64 (x : Int), .int .i64 (y : Int), .slice z (e - f : Nat) (ca - f : Nat)]) := hid (by unfold encH; rw [HF.out, HE.out, HX.out, HY.out, HZ.out])
      have HBu : Hid (∀ W : World, (Instr.buildSlice 45 1 #[(0, .agg #[.int .i64 (x : Int), .int .i64 (y : Int), .slice z (e - f : Nat) (ca - f : Nat)])]).run Tryz.prog W = .ok (.slice (some ⟨W.heap.size, 0, none⟩) 1 1) (W.alloc (.cells #[.int .i64 (x : Int), .int .i64 (y : Int), .slice z (e - f : Nat) (ca - f : Nat)] 73))) := fun W => run_build27 x y z _ _ W
      have C18' : Hid (∀ W, Below G w W → Calls Tryz.prog 35 #[.slice a f ca] W fun e w' => e = .returned (.tuple #[.int .i64 (x : Nat), .int .i64 (y : Nat)]) ∧ Below W.heap.size W w') := fun W hW => by rw [← HX.out, ← HY.out]; exact C18.out f W (by omega) hW
      have HTK : Hid (S.take (i + 1) = S.take i ++ [S.getD i (0, 0)]) := hid (take_snocG (0, 0) S i (by rw [HQ.out]; exact hlt))
      obtain ⟨g, HGg⟩ : ∃ g, Hid (wr.heap.size = g) := ⟨_, rfl⟩
      obtain ⟨wa, HWa⟩ : ∃ u, Hid (wr.alloc (.cells #[.int .i64 (f : Int), .int .i64 (e : Int)] 81) = u) := ⟨_, rfl⟩
      have HBa : Hid (BH a ca L w1 wa G1 (.slice la m lc) (S.take i)) := hid (by rw [← HWa.out]; exact HBH.out.alloc _)
      have HQa : Hid (QS g f e wa) := hid (by rw [← HWa.out, ← HGg.out]; exact ⟨by simp, by simp⟩)
      have HGa : Hid (g < wa.heap.size) := hid (by rw [← HWa.out, ← HGg.out]; simp)
      have HBwa : Hid (Below G w wa) := hid (HB1.out.trans (HBa.out.below.mono (by rw [← HG1e.out]; exact HG1.out)))
      go_wp2_with fail
      rw [HWa.out, HGg.out]
      refine (C18'.out wa HBwa.out).mono ?_
      rintro ev w2 ⟨rfl, hb2⟩
      have hd0 : w2.cell? ⟨g, 0, none⟩ = some (.int .i64 (f : Int)) := by rw [hb2.cell (p := ⟨g, 0, none⟩) HGa.out]; exact HQa.out.c0
      have hd1 : w2.cell? ⟨g, 1, none⟩ = some (.int .i64 (e : Int)) := by rw [hb2.cell (p := ⟨g, 1, none⟩) HGa.out]; exact HQa.out.c1
      have HB2 : Hid (BH a ca L w1 w2 G1 (.slice la m lc) (S.take i)) := hid (HBa.out.carry hb2)
      clear hb2
      go_wp2_with (first
        | refine wpList_bS rfl 45 1 _ rfl (.agg #[.int .i64 (x : Int), .int .i64 (y : Int), .slice z (e - f : Nat) (ca - f : Nat)]) _ rfl (HBu.out _) ?_
        | (refine app_hk HB2.out HLm.out (by omega) (S.getD i (0, 0)) _ _ _ HEN.out rfl _ _ rfl rfl rfl ?_; intro a' c' w' HB')
        | fail)
      go_roundg (q - (i + 1))
      case measure => omega
      case rel => exact ⟨i + 1, m + 1, c', a', rfl, by go_num, by omega, rfl, by omega, hid (by rw [HTK.out, List.length_append, HLm.out]; rfl), hid (by rw [HTK.out]; exact HB'.out)⟩
    · have hge : ¬ ((i : Int) < (q : Int)) := by omega
      have ei : i = q := by omega
      subst ei
      have HFIN : Hid (BH a ca L w wr w.heap.size (.slice la m lc) S) := hid (by
        have h := HBH.out
        rw [List.take_of_length_le (by rw [HQ.out]; exact Nat.le_refl _)] at h
        have hb := HB1.out.trans (h.below.mono (by rw [← HG1e.out]; exact HG1.out))
        exact ⟨by rw [HG.out]; exact hb, base_mono h.own (by rw [HG.out, ← HG1e.out]; exact HG1.out), hb.size⟩)
      go_wp2_with fail
      go_ret
      exact ⟨_, rfl, HFIN.out⟩
end Go.Proofs.YtmpjapcijjjlbaaGreatDoor
