/- The document's 'Edits' of many lines. -/
import Derived.Test.YtakddciegnkpdaaEdV
namespace Go.Proofs.Ytakddciegnkpdaa
open Go.RowKit
set_option linter.unusedVariables false
set_option linter.unusedSimpArgs false
set_option maxRecDepth 40000 in
set_option maxHeartbeats 16000000 in
theorem refEdits_big1 {w : World} (a : Option Addr) (ca : Nat) (s : Str) (hA : PB w a ca s) (hs : s.length ≤ 4000) (b : Option Addr) (cb : Nat) (t : Str) (hB : PB w b cb t) (ht : t.length ≤ 4000) (hbig : 2000 < (lns s).length) :
    Calls Try.prog 22 #[.slice a s.length ca, .slice b t.length cb] w (PostX (edits (lns s) (lns t)) w) := by
  obtain ⟨n, HN⟩ : ∃ n, Hid (s.length = n) := ⟨_, rfl⟩
  obtain ⟨m, HM⟩ : ∃ n, Hid (t.length = n) := ⟨_, rfl⟩
  obtain ⟨g, HG⟩ : ∃ g, Hid (w.heap.size = g) := ⟨_, rfl⟩
  obtain ⟨A, HX⟩ : ∃ X, Hid (lns s = X) := ⟨_, rfl⟩
  obtain ⟨B, HY⟩ : ∃ X, Hid (lns t = X) := ⟨_, rfl⟩
  obtain ⟨nx, HNX⟩ : ∃ n, Hid (A.length = n) := ⟨_, rfl⟩
  obtain ⟨ny, HNY⟩ : ∃ n, Hid (B.length = n) := ⟨_, rfl⟩
  have hnx4 : nx ≤ 4000 := by have := lns_few s; rw [HX.out, HNX.out] at this; omega
  have hny4 : ny ≤ 4000 := by have := lns_few t; rw [HY.out, HNY.out] at this; omega
  have C1 : Hid (Calls Try.prog 15 #[.slice a n ca] w (PostS A w)) := hid (by rw [← HN.out, ← HX.out]; exact refLines_any a ca s hA hs)
  have C2 : Hid (∀ W, Below g w W → Calls Try.prog 15 #[.slice b m cb] W (PostS B W)) := fun W hW => by rw [← HM.out, ← HY.out]; exact refLines_any b cb t (hB.below (by rw [HG.out]; exact hW)) ht
  obtain ⟨E, HE⟩ : ∃ E, Hid (edits A B = E) := ⟨_, rfl⟩
  rw [HX.out, HNX.out] at hbig
  rw [HN.out, HM.out, HX.out, HY.out, HE.out]
  clear hA hB hs ht
  go_enter Try.func22, Try.ntmps22
  go_wp2_with fail
  refine C1.out.mono ?_
  rintro e w1 ⟨v, rfl, hbs⟩
  obtain ⟨xa, xc, rfl, hps, hxa, _⟩ := hbs.px (d := []) (fun x _ => encS_len x)
  rw [HNX.out]
  have HB1 : Hid (Below g w w1) := hid (by rw [← HG.out]; exact hbs.below)
  have C2' : Hid (Calls Try.prog 15 #[.slice b m cb] w1 (PostS B w1)) := hid (C2.out w1 HB1.out)
  have HPX1 : Hid (PS w1 xa xc A) := hps
  clear hbs hps hxa
  go_wp2_with fail
  refine C2'.out.mono ?_
  rintro e w2 ⟨v, rfl, hbs⟩
  obtain ⟨ya, yc, rfl, hps, hya, _⟩ := hbs.px (d := []) (fun x _ => encS_len x)
  rw [HNY.out]
  have HB2 : Hid (Below g w w2) := hid (HB1.out.trans (hbs.below.mono (by have := HB1.out.size; have := HG.out; omega)))
  have HPX2 : Hid (PS w2 xa xc A) := hid (HPX1.out.below hbs.below)
  have HPY2 : Hid (PS w2 ya yc B) := hps
  clear hbs hps hya
  have HFA : Hid (0 < nx → ∃ b off, xa = some ⟨b, off, none⟩) := fun h0 => by
    obtain ⟨b, off, e1, _⟩ := HPX2.out.at_ (by rw [HNX.out]; exact h0)
    exact ⟨b, off, e1⟩
  have HFB : Hid (0 < ny → ∃ c off, ya = some ⟨c, off, none⟩) := fun h0 => by
    obtain ⟨b, off, e1, _⟩ := HPY2.out.at_ (by rw [HNY.out]; exact h0)
    exact ⟨b, off, e1⟩
  obtain ⟨R, HR⟩ : ∃ R, Hid (w2.heap.size = R) := ⟨_, rfl⟩
  have hgR : g ≤ R := by have := HB2.out.size; have := HG.out; have := HR.out; omega
  have HPA : Hid (∀ W, Below R w2 W → PS W xa xc A) := fun W hW => HPX2.out.below (by rw [HR.out]; exact hW)
  have HPB : Hid (∀ W, Below R w2 W → PS W ya yc B) := fun W hW => HPY2.out.below (by rw [HR.out]; exact hW)
  have HL0 : Hid (BE 52 w2 w2 R (.slice none 0 0) []) := hid (bx_nil 52 w2 R (by rw [HR.out]; exact Nat.le_refl _))
  obtain ⟨f, HF⟩ : ∃ f, Hid (fr A B = f) := ⟨_, rfl⟩
  have hfl := fr_le A B
  rw [HF.out, HNX.out, HNY.out] at hfl
  have HEE : Hid (E = mk 0 (A.take f) ++ (mk 1 (A.drop f) ++ mk 2 (B.drop f))) := hid (by
    rw [← HE.out, show edits A B = edL A B by unfold edits; rw [HNX.out, HNY.out, if_pos (.inl hbig)]]
    unfold edL
    rw [HF.out])
  have hbI : (2000 : Int) < (nx : Int) := by omega
  go_wp2_with fail
  go_loopg [7, 8] (nx + 1) (fun gg lv iv wr => ∃ (i l : Nat) (L : List Ed) (la : Option Addr) (lc : Nat), lv = .slice la l lc ∧ iv = .int .i64 i ∧ L.length = l ∧ i ≤ nx ∧ i ≤ ny ∧ l ≤ i ∧ gg = nx + 1 - i ∧ Hid (BE 52 w2 wr R (.slice la l lc) L) ∧ Hid (L = mk 0 (A.take i)) ∧ Hid (fr A B = i + fr (A.drop i) (B.drop i)))
  case atStart => exact ⟨0, 0, [], none, 0, rfl, rfl, rfl, Nat.zero_le _, Nat.zero_le _, Nat.le_refl _, rfl, HL0, hid rfl, hid (by simp)⟩
  case round =>
    obtain ⟨i, l, L, la, lc, rfl, rfl, hLl, hi, hiy, hli, hgg, HBE, HLM, HFR⟩ := hrel
    have hbd : Below wr.heap.size wr wr.drew := ⟨rfl, rfl, rfl, Nat.le_refl _, fun _ _ => rfl⟩
    have HBEd : Hid (BE 52 w2 wr.drew R (.slice la l lc) L) := hid (HBE.out.carry hbd)
    clear hbd
    by_cases hin : i < nx
    · have hinI : (i : Int) < (nx : Int) := by omega
      by_cases him : i < ny
      · have himI : (i : Int) < (ny : Int) := by omega
        obtain ⟨ba, oa, e1⟩ := HFA.out (by omega)
        obtain ⟨bb, ob, e2⟩ := HFB.out (by omega)
        obtain ⟨x, HXX⟩ : ∃ x, Hid (A.getD i [] = x) := ⟨_, rfl⟩
        obtain ⟨y, HYY⟩ : ∃ x, Hid (B.getD i [] = x) := ⟨_, rfl⟩
        obtain ⟨BX, HBX⟩ : ∃ X, Hid ((⟨x.toArray⟩ : ByteArray) = X) := ⟨_, rfl⟩
        obtain ⟨BY, HBY⟩ : ∃ X, Hid ((⟨y.toArray⟩ : ByteArray) = X) := ⟨_, rfl⟩
        have HCX : Hid (∀ W, Below R w2 W → W.cell? ⟨ba, oa + i, none⟩ = some (.string BX)) := fun W hW => by
          have h9 := HPA.out W hW
          rw [e1] at h9
          rw [← HBX.out, ← HXX.out]
          exact PS.str h9 i (by rw [HNX.out]; exact hin)
        have HCY : Hid (∀ W, Below R w2 W → W.cell? ⟨bb, ob + i, none⟩ = some (.string BY)) := fun W hW => by
          have h9 := HPB.out W hW
          rw [e2] at h9
          rw [← HBY.out, ← HYY.out]
          exact PS.str h9 i (by rw [HNY.out]; exact him)
        subst e1
        subst e2
        have HQ : Hid (Q2 ba (oa + i) bb (ob + i) BX BY wr.drew) := hid ⟨HCX.out _ HBEd.out.below, HCY.out _ HBEd.out.below⟩
        by_cases hxy : x = y
        · have hXY : BX = BY := by rw [← HBX.out, ← HBY.out, hxy]
          subst hXY
          have heq : (BX.toList == BX.toList) = true := by simp
          have HD0 : Hid (∀ W : World, (Instr.buildSlice 49 1 #[(0, .agg #[.int .i64 0, .string BX])]).run Try.prog W = .ok (.slice (some ⟨W.heap.size, 0, none⟩) 1 1) (W.alloc (.cells #[.int .i64 0, .string BX] 52))) := fun W => run_build29 0 (.string BX) ⟨_, rfl⟩ W
          have HFR2 : Hid (fr A B = (i + 1) + fr (A.drop (i + 1)) (B.drop (i + 1))) := hid (fr_step A B i (by rw [HNX.out]; exact hin) (by rw [HNY.out]; exact him) HFR.out (by rw [HXX.out, HYY.out]; exact hxy))
          have HLM2 : Hid (L ++ [(0, x)] = mk 0 (A.take (i + 1))) := hid (by rw [mk_snoc 0 A i (by rw [HNX.out]; exact hin), HXX.out, HLM.out])
          go_wp2_with fail
          refine wp_region_held_drew (S := Q2 ba (oa + i) bb (ob + i) BX BX) (by kernel_rfl) HQ.out (fun hHeld => ?_)
          generalize wr.drew = wd at hHeld HBEd ⊢
          refine takeL (i := 0) (v := ?_) rfl (by kernel_rfl) (by kernel_rfl) (by kernel_rfl) (fun _ _ _ h => h) (Or.inl ⟨by rfl, ?_⟩) hHeld ?_
          rotate_left
          · rintro w' ⟨s0, s1⟩; go_simp; rfl
          try simp only [Act.put, List.setIfInBounds_toArray, List.set_cons_zero, List.set_cons_succ]
          refine takeL (i := 1) (v := ?_) rfl (by kernel_rfl) (by kernel_rfl) (by kernel_rfl) (fun _ _ _ h => h) (Or.inl ⟨by rfl, ?_⟩) hHeld ?_
          rotate_left
          · rintro w' ⟨s0, s1⟩; go_simp; rfl
          try simp only [Act.put, List.setIfInBounds_toArray, List.set_cons_zero, List.set_cons_succ]
          refine takeL (i := 2) (v := ?_) rfl (by kernel_rfl) (by kernel_rfl) (by kernel_rfl) (fun _ _ _ h => h) (Or.inl ⟨by rfl, ?_⟩) hHeld ?_
          rotate_left
          · rintro w' ⟨s0, s1⟩; go_simp; rfl
          try simp only [Act.put, List.setIfInBounds_toArray, List.set_cons_zero, List.set_cons_succ]
          refine takeL (i := 3) (v := .bool true) rfl (by kernel_rfl) (by kernel_rfl) (by kernel_rfl) (fun _ _ _ h => h) (Or.inl ⟨by rfl, ?_⟩) hHeld ?_
          · rintro w' ⟨s0, s1⟩; go_simp; try rfl
          try simp only [Act.put, List.setIfInBounds_toArray, List.set_cons_zero, List.set_cons_succ]
          refine takeL (i := 4) (v := .bool true) rfl (by kernel_rfl) (by kernel_rfl) (by kernel_rfl) (fun _ _ _ h => h) (Or.inl ⟨by rfl, ?_⟩) hHeld ?_
          · rintro w' ⟨s0, s1⟩; go_simp; try rfl
          try simp only [Act.put, List.setIfInBounds_toArray, List.set_cons_zero, List.set_cons_succ]
          refine takeL (i := 5) (v := ?_) rfl (by kernel_rfl) (by kernel_rfl) (by kernel_rfl) (fun _ _ _ h => h) (Or.inl ⟨by kernel_rfl, ?_⟩) hHeld ?_
          rotate_left
          · rintro w' ⟨s0, s1⟩; go_simp; rfl
          try simp only [Act.put, List.setIfInBounds_toArray, List.set_cons_zero, List.set_cons_succ]
          refine takeL (i := 6) (v := ?_) rfl (by kernel_rfl) (by kernel_rfl) (by kernel_rfl) (fun _ _ _ h => h) (Or.inl ⟨by kernel_rfl, ?_⟩) hHeld ?_
          rotate_left
          · rintro w' ⟨s0, s1⟩; go_simp; rfl
          try simp only [Act.put, List.setIfInBounds_toArray, List.set_cons_zero, List.set_cons_succ]
          refine takeL (i := 7) (v := ?_) rfl (by kernel_rfl) (by kernel_rfl) (by kernel_rfl) (fun _ _ _ h => h) (Or.inl ⟨by kernel_rfl, ?_⟩) hHeld ?_
          rotate_left
          · rintro w' ⟨s0, s1⟩; go_simp; rfl
          try simp only [Act.put, List.setIfInBounds_toArray, List.set_cons_zero, List.set_cons_succ]
          refine takeL (i := 8) (v := .bool true) rfl (by kernel_rfl) (by kernel_rfl) (by kernel_rfl) (fun _ _ _ h => h) (Or.inl ⟨by kernel_rfl, ?_⟩) hHeld ?_
          · rintro w' ⟨s0, s1⟩; go_simp; try rfl
          try simp only [Act.put, List.setIfInBounds_toArray, List.set_cons_zero, List.set_cons_succ]
          refine takeL (i := 9) (v := .bool true) rfl (by kernel_rfl) (by kernel_rfl) (by kernel_rfl) (fun _ _ _ h => h) (Or.inl ⟨by rfl, ?_⟩) hHeld ?_
          · rintro w' ⟨s0, s1⟩; go_simp; try rfl
          try simp only [Act.put, List.setIfInBounds_toArray, List.set_cons_zero, List.set_cons_succ]
          refine takeL (i := 10) (v := .bool true) rfl (by kernel_rfl) (by kernel_rfl) (by kernel_rfl) (fun _ _ _ h => h) (Or.inl ⟨by rfl, ?_⟩) hHeld ?_
          · rintro w' ⟨s0, s1⟩; go_simp; try rfl
          try simp only [Act.put, List.setIfInBounds_toArray, List.set_cons_zero, List.set_cons_succ]
          refine takeL (i := 11) (v := ?_) rfl (by kernel_rfl) (by kernel_rfl) (by kernel_rfl) (fun _ _ _ h => h) (Or.inl ⟨by kernel_rfl, ?_⟩) hHeld ?_
          rotate_left
          · rintro w' ⟨s0, s1⟩; go_simp; rfl
          try simp only [Act.put, List.setIfInBounds_toArray, List.set_cons_zero, List.set_cons_succ]
          refine takeL (i := 12) (v := ?_) rfl (by kernel_rfl) (by kernel_rfl) (by kernel_rfl) (fun _ _ _ h => h) (Or.inl ⟨by kernel_rfl, ?_⟩) hHeld ?_
          rotate_left
          · rintro w' ⟨s0, s1⟩; go_simp; rfl
          try simp only [Act.put, List.setIfInBounds_toArray, List.set_cons_zero, List.set_cons_succ]
          refine takeL (i := 13) (v := ?_) rfl (by kernel_rfl) (by kernel_rfl) (by kernel_rfl) (fun _ _ _ h => h) (Or.inl ⟨by kernel_rfl, ?_⟩) hHeld ?_
          rotate_left
          · rintro w' ⟨s0, s1⟩; go_simp; rfl
          try simp only [Act.put, List.setIfInBounds_toArray, List.set_cons_zero, List.set_cons_succ]
          refine takeL (i := 14) (v := ?_) rfl (by kernel_rfl) (by kernel_rfl) (by kernel_rfl) (fun _ _ _ h => h) (Or.inl ⟨by kernel_rfl, ?_⟩) hHeld ?_
          rotate_left
          · rintro w' ⟨s0, s1⟩; go_simp; rfl
          try simp only [Act.put, List.setIfInBounds_toArray, List.set_cons_zero, List.set_cons_succ]
          refine takeL (i := 15) (v := ?_) rfl (by kernel_rfl) (by kernel_rfl) (by kernel_rfl) (fun _ _ _ h => h) (Or.inl ⟨by kernel_rfl, ?_⟩) hHeld ?_
          rotate_left
          · rintro w' ⟨s0, s1⟩; go_simp; rfl
          try simp only [Act.put, List.setIfInBounds_toArray, List.set_cons_zero, List.set_cons_succ]
          refine takeL (i := 16) (v := ?_) rfl (by kernel_rfl) (by kernel_rfl) (by kernel_rfl) (fun _ _ _ h => h) (Or.inl ⟨by kernel_rfl, ?_⟩) hHeld ?_
          rotate_left
          · rintro w' ⟨s0, s1⟩; go_simp; rfl
          try simp only [Act.put, List.setIfInBounds_toArray, List.set_cons_zero, List.set_cons_succ]
          refine takeL (i := 17) (v := ?_) rfl (by kernel_rfl) (by kernel_rfl) (by kernel_rfl) (fun _ _ _ h => h) (Or.inl ⟨by kernel_rfl, ?_⟩) hHeld ?_
          rotate_left
          · rintro w' ⟨s0, s1⟩; go_simp; rfl
          try simp only [Act.put, List.setIfInBounds_toArray, List.set_cons_zero, List.set_cons_succ]
          refine takeL (i := 18) (v := ?_) rfl (by kernel_rfl) (by kernel_rfl) (by kernel_rfl) (fun _ _ _ h => h) (Or.inl ⟨by kernel_rfl, ?_⟩) hHeld ?_
          rotate_left
          · rintro w' ⟨s0, s1⟩; go_simp; rfl
          try simp only [Act.put, List.setIfInBounds_toArray, List.set_cons_zero, List.set_cons_succ]
          refine takeL (i := 19) (v := .bool true) rfl (by kernel_rfl) (by kernel_rfl) (by kernel_rfl) (fun _ _ _ h => h) (Or.inl ⟨by kernel_rfl, ?_⟩) hHeld ?_
          · rintro w' ⟨s0, s1⟩; go_simp; try rfl
          try simp only [Act.put, List.setIfInBounds_toArray, List.set_cons_zero, List.set_cons_succ]
          refine takeL (i := 20) (v := .bool true) rfl (by kernel_rfl) (by kernel_rfl) (by kernel_rfl) (fun _ _ _ h => h) (Or.inl ⟨by rfl, ?_⟩) hHeld ?_
          · rintro w' ⟨s0, s1⟩; go_simp; try rfl
          try simp only [Act.put, List.setIfInBounds_toArray, List.set_cons_zero, List.set_cons_succ]
          refine wpAnyH_done (by kernel_rfl) ?_ _
          clear hHeld
          have hcc := HCX.out wd HBEd.out.below
          go_wp2_with (first
            | refine wpList_bS rfl 49 1 _ rfl (.agg #[.int .i64 0, .string BX]) _ rfl (HD0.out _) ?_
            | (refine app_edK und29 Try.info52 HBEd.out hLl (by omega) 0 x 0 rfl BX HBX.out rfl _ _ rfl rfl rfl ?_; intro a' c' w' HB')
            | fail)
          go_roundg (nx + 1 - (i + 1))
          case measure => omega
          case rel => exact ⟨i + 1, l + 1, L ++ [(0, x)], a', c', rfl, by go_num, by simp [hLl], by omega, by omega, by omega, rfl, HB', HLM2, HFR2⟩
        · have heq : (BX.toList == BY.toList) = false := bne_txt HBX.out HBY.out hxy
          have HFI : Hid (fr A B = i) := hid (fr_stop A B i (by rw [HNX.out]; exact hin) (by rw [HNY.out]; exact him) HFR.out (by rw [HXX.out, HYY.out]; exact hxy))
          go_wp2_with fail
          refine wp_region_held_drew (S := Q2 ba (oa + i) bb (ob + i) BX BY) (by kernel_rfl) HQ.out (fun hHeld => ?_)
          generalize wr.drew = wd at hHeld HBEd ⊢
          refine takeL (i := 0) (v := ?_) rfl (by kernel_rfl) (by kernel_rfl) (by kernel_rfl) (fun _ _ _ h => h) (Or.inl ⟨by rfl, ?_⟩) hHeld ?_
          rotate_left
          · rintro w' ⟨s0, s1⟩; go_simp; rfl
          try simp only [Act.put, List.setIfInBounds_toArray, List.set_cons_zero, List.set_cons_succ]
          refine takeL (i := 1) (v := ?_) rfl (by kernel_rfl) (by kernel_rfl) (by kernel_rfl) (fun _ _ _ h => h) (Or.inl ⟨by rfl, ?_⟩) hHeld ?_
          rotate_left
          · rintro w' ⟨s0, s1⟩; go_simp; rfl
          try simp only [Act.put, List.setIfInBounds_toArray, List.set_cons_zero, List.set_cons_succ]
          refine takeL (i := 2) (v := ?_) rfl (by kernel_rfl) (by kernel_rfl) (by kernel_rfl) (fun _ _ _ h => h) (Or.inl ⟨by rfl, ?_⟩) hHeld ?_
          rotate_left
          · rintro w' ⟨s0, s1⟩; go_simp; rfl
          try simp only [Act.put, List.setIfInBounds_toArray, List.set_cons_zero, List.set_cons_succ]
          refine takeL (i := 3) (v := .bool true) rfl (by kernel_rfl) (by kernel_rfl) (by kernel_rfl) (fun _ _ _ h => h) (Or.inl ⟨by rfl, ?_⟩) hHeld ?_
          · rintro w' ⟨s0, s1⟩; go_simp; try rfl
          try simp only [Act.put, List.setIfInBounds_toArray, List.set_cons_zero, List.set_cons_succ]
          refine takeL (i := 4) (v := .bool true) rfl (by kernel_rfl) (by kernel_rfl) (by kernel_rfl) (fun _ _ _ h => h) (Or.inl ⟨by rfl, ?_⟩) hHeld ?_
          · rintro w' ⟨s0, s1⟩; go_simp; try rfl
          try simp only [Act.put, List.setIfInBounds_toArray, List.set_cons_zero, List.set_cons_succ]
          refine takeL (i := 5) (v := ?_) rfl (by kernel_rfl) (by kernel_rfl) (by kernel_rfl) (fun _ _ _ h => h) (Or.inl ⟨by kernel_rfl, ?_⟩) hHeld ?_
          rotate_left
          · rintro w' ⟨s0, s1⟩; go_simp; rfl
          try simp only [Act.put, List.setIfInBounds_toArray, List.set_cons_zero, List.set_cons_succ]
          refine takeL (i := 6) (v := ?_) rfl (by kernel_rfl) (by kernel_rfl) (by kernel_rfl) (fun _ _ _ h => h) (Or.inl ⟨by kernel_rfl, ?_⟩) hHeld ?_
          rotate_left
          · rintro w' ⟨s0, s1⟩; go_simp; rfl
          try simp only [Act.put, List.setIfInBounds_toArray, List.set_cons_zero, List.set_cons_succ]
          refine takeL (i := 7) (v := ?_) rfl (by kernel_rfl) (by kernel_rfl) (by kernel_rfl) (fun _ _ _ h => h) (Or.inl ⟨by kernel_rfl, ?_⟩) hHeld ?_
          rotate_left
          · rintro w' ⟨s0, s1⟩; go_simp; rfl
          try simp only [Act.put, List.setIfInBounds_toArray, List.set_cons_zero, List.set_cons_succ]
          refine takeL (i := 8) (v := .bool true) rfl (by kernel_rfl) (by kernel_rfl) (by kernel_rfl) (fun _ _ _ h => h) (Or.inl ⟨by kernel_rfl, ?_⟩) hHeld ?_
          · rintro w' ⟨s0, s1⟩; go_simp; try rfl
          try simp only [Act.put, List.setIfInBounds_toArray, List.set_cons_zero, List.set_cons_succ]
          refine takeL (i := 9) (v := .bool true) rfl (by kernel_rfl) (by kernel_rfl) (by kernel_rfl) (fun _ _ _ h => h) (Or.inl ⟨by rfl, ?_⟩) hHeld ?_
          · rintro w' ⟨s0, s1⟩; go_simp; try rfl
          try simp only [Act.put, List.setIfInBounds_toArray, List.set_cons_zero, List.set_cons_succ]
          refine takeL (i := 10) (v := .bool true) rfl (by kernel_rfl) (by kernel_rfl) (by kernel_rfl) (fun _ _ _ h => h) (Or.inl ⟨by rfl, ?_⟩) hHeld ?_
          · rintro w' ⟨s0, s1⟩; go_simp; try rfl
          try simp only [Act.put, List.setIfInBounds_toArray, List.set_cons_zero, List.set_cons_succ]
          refine takeL (i := 11) (v := ?_) rfl (by kernel_rfl) (by kernel_rfl) (by kernel_rfl) (fun _ _ _ h => h) (Or.inl ⟨by kernel_rfl, ?_⟩) hHeld ?_
          rotate_left
          · rintro w' ⟨s0, s1⟩; go_simp; rfl
          try simp only [Act.put, List.setIfInBounds_toArray, List.set_cons_zero, List.set_cons_succ]
          refine takeL (i := 12) (v := ?_) rfl (by kernel_rfl) (by kernel_rfl) (by kernel_rfl) (fun _ _ _ h => h) (Or.inl ⟨by kernel_rfl, ?_⟩) hHeld ?_
          rotate_left
          · rintro w' ⟨s0, s1⟩; go_simp; rfl
          try simp only [Act.put, List.setIfInBounds_toArray, List.set_cons_zero, List.set_cons_succ]
          refine takeL (i := 13) (v := ?_) rfl (by kernel_rfl) (by kernel_rfl) (by kernel_rfl) (fun _ _ _ h => h) (Or.inl ⟨by kernel_rfl, ?_⟩) hHeld ?_
          rotate_left
          · rintro w' ⟨s0, s1⟩; go_simp; rfl
          try simp only [Act.put, List.setIfInBounds_toArray, List.set_cons_zero, List.set_cons_succ]
          refine takeL (i := 14) (v := ?_) rfl (by kernel_rfl) (by kernel_rfl) (by kernel_rfl) (fun _ _ _ h => h) (Or.inl ⟨by kernel_rfl, ?_⟩) hHeld ?_
          rotate_left
          · rintro w' ⟨s0, s1⟩; go_simp; rfl
          try simp only [Act.put, List.setIfInBounds_toArray, List.set_cons_zero, List.set_cons_succ]
          refine takeL (i := 15) (v := ?_) rfl (by kernel_rfl) (by kernel_rfl) (by kernel_rfl) (fun _ _ _ h => h) (Or.inl ⟨by kernel_rfl, ?_⟩) hHeld ?_
          rotate_left
          · rintro w' ⟨s0, s1⟩; go_simp; rfl
          try simp only [Act.put, List.setIfInBounds_toArray, List.set_cons_zero, List.set_cons_succ]
          refine takeL (i := 16) (v := ?_) rfl (by kernel_rfl) (by kernel_rfl) (by kernel_rfl) (fun _ _ _ h => h) (Or.inl ⟨by kernel_rfl, ?_⟩) hHeld ?_
          rotate_left
          · rintro w' ⟨s0, s1⟩; go_simp; rfl
          try simp only [Act.put, List.setIfInBounds_toArray, List.set_cons_zero, List.set_cons_succ]
          refine takeL (i := 17) (v := ?_) rfl (by kernel_rfl) (by kernel_rfl) (by kernel_rfl) (fun _ _ _ h => h) (Or.inl ⟨by kernel_rfl, ?_⟩) hHeld ?_
          rotate_left
          · rintro w' ⟨s0, s1⟩; go_simp; rfl
          try simp only [Act.put, List.setIfInBounds_toArray, List.set_cons_zero, List.set_cons_succ]
          refine takeL (i := 18) (v := ?_) rfl (by kernel_rfl) (by kernel_rfl) (by kernel_rfl) (fun _ _ _ h => h) (Or.inl ⟨by kernel_rfl, ?_⟩) hHeld ?_
          rotate_left
          · rintro w' ⟨s0, s1⟩; go_simp; rfl
          try simp only [Act.put, List.setIfInBounds_toArray, List.set_cons_zero, List.set_cons_succ]
          refine takeL (i := 19) (v := .bool false) rfl (by kernel_rfl) (by kernel_rfl) (by kernel_rfl) (fun _ _ _ h => h) (Or.inl ⟨by kernel_rfl, ?_⟩) hHeld ?_
          · rintro w' ⟨s0, s1⟩; go_simp; try rfl
          try simp only [Act.put, List.setIfInBounds_toArray, List.set_cons_zero, List.set_cons_succ]
          refine takeL (i := 20) (v := .bool false) rfl (by kernel_rfl) (by kernel_rfl) (by kernel_rfl) (fun _ _ _ h => h) (Or.inl ⟨by rfl, ?_⟩) hHeld ?_
          · rintro w' ⟨s0, s1⟩; go_simp; try rfl
          try simp only [Act.put, List.setIfInBounds_toArray, List.set_cons_zero, List.set_cons_succ]
          refine wpAnyH_done (by kernel_rfl) ?_ _
          clear hHeld
          have HED : Hid (L ++ (mk 1 (A.drop i) ++ mk 2 (B.drop i)) = E) := hid (by rw [HEE.out, HLM.out, ← HF.out, HFI.out])
          go_wp2_with fail
          go_loopg [7, 10] (nx + 1 - i) (fun gg lv iv wr => ∃ (j l : Nat) (L : List Ed) (la : Option Addr) (lc : Nat), lv = .slice la l lc ∧ iv = .int .i64 j ∧ L.length = l ∧ j ≤ nx ∧ l ≤ j ∧ gg = nx + 1 - j ∧ Hid (BE 52 w2 wr R (.slice la l lc) L) ∧ Hid (L ++ (mk 1 (A.drop j) ++ mk 2 (B.drop i)) = E))
          case atStart => exact ⟨i, l, L, la, lc, rfl, rfl, hLl, hi, by omega, rfl, HBEd, HED⟩
          case round =>
            obtain ⟨j, l, L, la, lc, rfl, rfl, hLl, hj, hlj, hgg, HBE, HED⟩ := hrel
            by_cases hjn : j < nx
            · have hjI : (j : Int) < (nx : Int) := by omega
              obtain ⟨ba, oa, e1⟩ := HFA.out (by omega)
              cases e1
              obtain ⟨x, HXX⟩ : ∃ x, Hid (A.getD j [] = x) := ⟨_, rfl⟩
              obtain ⟨BX, HBX⟩ : ∃ X, Hid ((⟨x.toArray⟩ : ByteArray) = X) := ⟨_, rfl⟩
              have hcc : wr.cell? ⟨ba, oa + j, none⟩ = some (.string BX) := by rw [← HBX.out, ← HXX.out]; exact PS.str (HPA.out _ HBE.out.below) j (by rw [HNX.out]; exact hjn)
              have HD1 : Hid (∀ W : World, (Instr.buildSlice 49 1 #[(0, .agg #[.int .i64 1, .string BX])]).run Try.prog W = .ok (.slice (some ⟨W.heap.size, 0, none⟩) 1 1) (W.alloc (.cells #[.int .i64 1, .string BX] 52))) := fun W => run_build29 1 (.string BX) ⟨_, rfl⟩ W
              have HED2 : Hid ((L ++ [(1, x)]) ++ (mk 1 (A.drop (j + 1)) ++ mk 2 (B.drop i)) = E) := hid (by
                have h9 := HED.out
                rw [mk_drop 1 A j (by rw [HNX.out]; exact hjn), HXX.out] at h9
                rw [List.append_assoc]
                exact h9)
              go_wp2_with (first
                | refine wpList_bS rfl 49 1 _ rfl (.agg #[.int .i64 1, .string BX]) _ rfl (HD1.out _) ?_
                | (refine app_edK und29 Try.info52 HBE.out hLl (by omega) 1 x 1 rfl BX HBX.out rfl _ _ rfl rfl rfl ?_; intro a' c' w' HB')
                | fail)
              go_roundg (nx + 1 - (j + 1))
              case measure => omega
              case rel => exact ⟨j + 1, l + 1, L ++ [(1, x)], a', c', rfl, by go_num, by simp [hLl], by omega, by omega, rfl, HB', HED2⟩
            · have hjI : ¬ (j : Int) < (nx : Int) := by omega
              have HED1 : Hid (L ++ mk 2 (B.drop i) = E) := hid (by
                have h9 := HED.out
                rw [mk_none 1 A j (by rw [HNX.out]; omega), List.nil_append] at h9
                exact h9)
              go_wp2_with fail
              go_loopg [7, 11] (ny + 1 - i) (fun gg lv iv wr => ∃ (k l : Nat) (L : List Ed) (la : Option Addr) (lc : Nat), lv = .slice la l lc ∧ iv = .int .i64 k ∧ L.length = l ∧ k ≤ ny ∧ l ≤ nx + k ∧ gg = ny + 1 - k ∧ Hid (BE 52 w2 wr R (.slice la l lc) L) ∧ Hid (L ++ mk 2 (B.drop k) = E))
              case atStart => exact ⟨i, l, L, la, lc, rfl, rfl, hLl, hiy, by omega, rfl, HBE, HED1⟩
              case round =>
                obtain ⟨k, l, L, la, lc, rfl, rfl, hLl, hk, hlk, hgg, HBE, HED⟩ := hrel
                by_cases hkn : k < ny
                · have hkI : (k : Int) < (ny : Int) := by omega
                  obtain ⟨bb, ob, e1⟩ := HFB.out (by omega)
                  cases e1
                  obtain ⟨y, HYY⟩ : ∃ x, Hid (B.getD k [] = x) := ⟨_, rfl⟩
                  obtain ⟨BY, HBY⟩ : ∃ X, Hid ((⟨y.toArray⟩ : ByteArray) = X) := ⟨_, rfl⟩
                  have hcc : wr.cell? ⟨bb, ob + k, none⟩ = some (.string BY) := by rw [← HBY.out, ← HYY.out]; exact PS.str (HPB.out _ HBE.out.below) k (by rw [HNY.out]; exact hkn)
                  have HD2 : Hid (∀ W : World, (Instr.buildSlice 49 1 #[(0, .agg #[.int .i64 2, .string BY])]).run Try.prog W = .ok (.slice (some ⟨W.heap.size, 0, none⟩) 1 1) (W.alloc (.cells #[.int .i64 2, .string BY] 52))) := fun W => run_build29 2 (.string BY) ⟨_, rfl⟩ W
                  have HED2 : Hid ((L ++ [(2, y)]) ++ mk 2 (B.drop (k + 1)) = E) := hid (by
                    have h9 := HED.out
                    rw [mk_drop 2 B k (by rw [HNY.out]; exact hkn), HYY.out] at h9
                    rw [List.append_assoc]
                    exact h9)
                  go_wp2_with (first
                    | refine wpList_bS rfl 49 1 _ rfl (.agg #[.int .i64 2, .string BY]) _ rfl (HD2.out _) ?_
                    | (refine app_edK und29 Try.info52 HBE.out hLl (by omega) 2 y 2 rfl BY HBY.out rfl _ _ rfl rfl rfl ?_; intro a' c' w' HB')
                    | fail)
                  go_roundg (ny + 1 - (k + 1))
                  case measure => omega
                  case rel => exact ⟨k + 1, l + 1, L ++ [(2, y)], a', c', rfl, by go_num, by simp [hLl], by omega, by omega, rfl, HB', HED2⟩
                · have hkI : ¬ (k : Int) < (ny : Int) := by omega
                  have HLE : Hid (L = E) := hid (by
                    have h9 := HED.out
                    rw [mk_none 2 B k (by rw [HNY.out]; omega), List.append_nil] at h9
                    exact h9)
                  go_wp2
                  go_ret
                  refine ⟨_, rfl, ?_⟩
                  rw [← HLE.out]
                  have hbE := HBE.out
                  have hbw := HB2.out.trans (hbE.below.mono hgR)
                  exact ⟨by rw [HG.out]; exact hbw, base_mono hbE.own (by rw [HG.out]; exact hgR), hbw.size⟩
      · have himI : ¬ (i : Int) < (ny : Int) := by omega
        have HFI : Hid (fr A B = i) := hid (fr_end A B i (.inr (by rw [HNY.out]; omega)) HFR.out)
        go_wp2_with fail
        refine wp_region_held_drew (S := fun _ => True) (by kernel_rfl) trivial (fun hHeld => ?_)
        generalize wr.drew = wd at HBEd ⊢
        refine takeL (i := 0) (v := ?_) rfl (by kernel_rfl) (by kernel_rfl) (by kernel_rfl) (fun _ _ _ h => h) (Or.inl ⟨by rfl, ?_⟩) hHeld ?_
        rotate_left
        · rintro w' _; go_simp; rfl
        try simp only [Act.put, List.setIfInBounds_toArray, List.set_cons_zero, List.set_cons_succ]
        refine takeL (i := 1) (v := ?_) rfl (by kernel_rfl) (by kernel_rfl) (by kernel_rfl) (fun _ _ _ h => h) (Or.inl ⟨by rfl, ?_⟩) hHeld ?_
        rotate_left
        · rintro w' _; go_simp; rfl
        try simp only [Act.put, List.setIfInBounds_toArray, List.set_cons_zero, List.set_cons_succ]
        refine takeL (i := 2) (v := ?_) rfl (by kernel_rfl) (by kernel_rfl) (by kernel_rfl) (fun _ _ _ h => h) (Or.inl ⟨by rfl, ?_⟩) hHeld ?_
        rotate_left
        · rintro w' _; go_simp; rfl
        try simp only [Act.put, List.setIfInBounds_toArray, List.set_cons_zero, List.set_cons_succ]
        refine takeL (i := 3) (v := .bool true) rfl (by kernel_rfl) (by kernel_rfl) (by kernel_rfl) (fun _ _ _ h => h) (Or.inl ⟨by rfl, ?_⟩) hHeld ?_
        · rintro w' _; go_simp; try rfl
        try simp only [Act.put, List.setIfInBounds_toArray, List.set_cons_zero, List.set_cons_succ]
        refine takeL (i := 4) (v := .bool true) rfl (by kernel_rfl) (by kernel_rfl) (by kernel_rfl) (fun _ _ _ h => h) (Or.inl ⟨by rfl, ?_⟩) hHeld ?_
        · rintro w' _; go_simp; try rfl
        try simp only [Act.put, List.setIfInBounds_toArray, List.set_cons_zero, List.set_cons_succ]
        refine takeL (i := 5) (v := ?_) rfl (by kernel_rfl) (by kernel_rfl) (by kernel_rfl) (fun _ _ _ h => h) (Or.inl ⟨by kernel_rfl, ?_⟩) hHeld ?_
        rotate_left
        · rintro w' _; go_simp; rfl
        try simp only [Act.put, List.setIfInBounds_toArray, List.set_cons_zero, List.set_cons_succ]
        refine takeL (i := 6) (v := ?_) rfl (by kernel_rfl) (by kernel_rfl) (by kernel_rfl) (fun _ _ _ h => h) (Or.inl ⟨by kernel_rfl, ?_⟩) hHeld ?_
        rotate_left
        · rintro w' _; go_simp; rfl
        try simp only [Act.put, List.setIfInBounds_toArray, List.set_cons_zero, List.set_cons_succ]
        refine takeL (i := 7) (v := ?_) rfl (by kernel_rfl) (by kernel_rfl) (by kernel_rfl) (fun _ _ _ h => h) (Or.inl ⟨by kernel_rfl, ?_⟩) hHeld ?_
        rotate_left
        · rintro w' _; go_simp; rfl
        try simp only [Act.put, List.setIfInBounds_toArray, List.set_cons_zero, List.set_cons_succ]
        refine takeL (i := 8) (v := .bool false) rfl (by kernel_rfl) (by kernel_rfl) (by kernel_rfl) (fun _ _ _ h => h) (Or.inl ⟨by kernel_rfl, ?_⟩) hHeld ?_
        · rintro w' _; go_simp; try rfl
        try simp only [Act.put, List.setIfInBounds_toArray, List.set_cons_zero, List.set_cons_succ]
        refine takeL (i := 9) (v := .bool false) rfl (by kernel_rfl) (by kernel_rfl) (by kernel_rfl) (fun _ _ _ h => h) (Or.inl ⟨by rfl, ?_⟩) hHeld ?_
        · rintro w' _; go_simp; try rfl
        try simp only [Act.put, List.setIfInBounds_toArray, List.set_cons_zero, List.set_cons_succ]
        refine takeL (i := 10) (v := .bool false) rfl (by kernel_rfl) (by kernel_rfl) (by kernel_rfl) (fun _ _ _ h => h) (Or.inl ⟨by rfl, ?_⟩) hHeld ?_
        · rintro w' _; go_simp; try rfl
        try simp only [Act.put, List.setIfInBounds_toArray, List.set_cons_zero, List.set_cons_succ]
        refine takeL (i := 11) (v := undef) rfl (by kernel_rfl) (by kernel_rfl) (by kernel_rfl) (fun _ _ _ h => h) (Or.inr ⟨by kernel_rfl, rfl⟩) hHeld ?_
        try simp only [Act.put, List.setIfInBounds_toArray, List.set_cons_zero, List.set_cons_succ]
        refine takeL (i := 12) (v := undef) rfl (by kernel_rfl) (by kernel_rfl) (by kernel_rfl) (fun _ _ _ h => h) (Or.inr ⟨by kernel_rfl, rfl⟩) hHeld ?_
        try simp only [Act.put, List.setIfInBounds_toArray, List.set_cons_zero, List.set_cons_succ]
        refine takeL (i := 13) (v := undef) rfl (by kernel_rfl) (by kernel_rfl) (by kernel_rfl) (fun _ _ _ h => h) (Or.inr ⟨by kernel_rfl, rfl⟩) hHeld ?_
        try simp only [Act.put, List.setIfInBounds_toArray, List.set_cons_zero, List.set_cons_succ]
        refine takeL (i := 14) (v := undef) rfl (by kernel_rfl) (by kernel_rfl) (by kernel_rfl) (fun _ _ _ h => h) (Or.inr ⟨by kernel_rfl, rfl⟩) hHeld ?_
        try simp only [Act.put, List.setIfInBounds_toArray, List.set_cons_zero, List.set_cons_succ]
        refine takeL (i := 15) (v := undef) rfl (by kernel_rfl) (by kernel_rfl) (by kernel_rfl) (fun _ _ _ h => h) (Or.inr ⟨by kernel_rfl, rfl⟩) hHeld ?_
        try simp only [Act.put, List.setIfInBounds_toArray, List.set_cons_zero, List.set_cons_succ]
        refine takeL (i := 16) (v := undef) rfl (by kernel_rfl) (by kernel_rfl) (by kernel_rfl) (fun _ _ _ h => h) (Or.inr ⟨by kernel_rfl, rfl⟩) hHeld ?_
        try simp only [Act.put, List.setIfInBounds_toArray, List.set_cons_zero, List.set_cons_succ]
        refine takeL (i := 17) (v := undef) rfl (by kernel_rfl) (by kernel_rfl) (by kernel_rfl) (fun _ _ _ h => h) (Or.inr ⟨by kernel_rfl, rfl⟩) hHeld ?_
        try simp only [Act.put, List.setIfInBounds_toArray, List.set_cons_zero, List.set_cons_succ]
        refine takeL (i := 18) (v := undef) rfl (by kernel_rfl) (by kernel_rfl) (by kernel_rfl) (fun _ _ _ h => h) (Or.inr ⟨by kernel_rfl, rfl⟩) hHeld ?_
        try simp only [Act.put, List.setIfInBounds_toArray, List.set_cons_zero, List.set_cons_succ]
        refine takeL (i := 19) (v := undef) rfl (by kernel_rfl) (by kernel_rfl) (by kernel_rfl) (fun _ _ _ h => h) (Or.inr ⟨by kernel_rfl, rfl⟩) hHeld ?_
        try simp only [Act.put, List.setIfInBounds_toArray, List.set_cons_zero, List.set_cons_succ]
        refine takeL (i := 20) (v := .bool false) rfl (by kernel_rfl) (by kernel_rfl) (by kernel_rfl) (fun _ _ _ h => h) (Or.inl ⟨by rfl, ?_⟩) hHeld ?_
        · rintro w' _; go_simp; try rfl
        try simp only [Act.put, List.setIfInBounds_toArray, List.set_cons_zero, List.set_cons_succ]
        refine wpAnyH_done (by kernel_rfl) ?_ _
        clear hHeld
        have HED : Hid (L ++ (mk 1 (A.drop i) ++ mk 2 (B.drop i)) = E) := hid (by rw [HEE.out, HLM.out, ← HF.out, HFI.out])
        go_wp2_with fail
        go_loopg [7, 10] (nx + 1 - i) (fun gg lv iv wr => ∃ (j l : Nat) (L : List Ed) (la : Option Addr) (lc : Nat), lv = .slice la l lc ∧ iv = .int .i64 j ∧ L.length = l ∧ j ≤ nx ∧ l ≤ j ∧ gg = nx + 1 - j ∧ Hid (BE 52 w2 wr R (.slice la l lc) L) ∧ Hid (L ++ (mk 1 (A.drop j) ++ mk 2 (B.drop i)) = E))
        case atStart => exact ⟨i, l, L, la, lc, rfl, rfl, hLl, hi, by omega, rfl, HBEd, HED⟩
        case round =>
          obtain ⟨j, l, L, la, lc, rfl, rfl, hLl, hj, hlj, hgg, HBE, HED⟩ := hrel
          by_cases hjn : j < nx
          · have hjI : (j : Int) < (nx : Int) := by omega
            obtain ⟨ba, oa, e1⟩ := HFA.out (by omega)
            cases e1
            obtain ⟨x, HXX⟩ : ∃ x, Hid (A.getD j [] = x) := ⟨_, rfl⟩
            obtain ⟨BX, HBX⟩ : ∃ X, Hid ((⟨x.toArray⟩ : ByteArray) = X) := ⟨_, rfl⟩
            have hcc : wr.cell? ⟨ba, oa + j, none⟩ = some (.string BX) := by rw [← HBX.out, ← HXX.out]; exact PS.str (HPA.out _ HBE.out.below) j (by rw [HNX.out]; exact hjn)
            have HD1 : Hid (∀ W : World, (Instr.buildSlice 49 1 #[(0, .agg #[.int .i64 1, .string BX])]).run Try.prog W = .ok (.slice (some ⟨W.heap.size, 0, none⟩) 1 1) (W.alloc (.cells #[.int .i64 1, .string BX] 52))) := fun W => run_build29 1 (.string BX) ⟨_, rfl⟩ W
            have HED2 : Hid ((L ++ [(1, x)]) ++ (mk 1 (A.drop (j + 1)) ++ mk 2 (B.drop i)) = E) := hid (by
              have h9 := HED.out
              rw [mk_drop 1 A j (by rw [HNX.out]; exact hjn), HXX.out] at h9
              rw [List.append_assoc]
              exact h9)
            go_wp2_with (first
              | refine wpList_bS rfl 49 1 _ rfl (.agg #[.int .i64 1, .string BX]) _ rfl (HD1.out _) ?_
              | (refine app_edK und29 Try.info52 HBE.out hLl (by omega) 1 x 1 rfl BX HBX.out rfl _ _ rfl rfl rfl ?_; intro a' c' w' HB')
              | fail)
            go_roundg (nx + 1 - (j + 1))
            case measure => omega
            case rel => exact ⟨j + 1, l + 1, L ++ [(1, x)], a', c', rfl, by go_num, by simp [hLl], by omega, by omega, rfl, HB', HED2⟩
          · have hjI : ¬ (j : Int) < (nx : Int) := by omega
            have HED1 : Hid (L ++ mk 2 (B.drop i) = E) := hid (by
              have h9 := HED.out
              rw [mk_none 1 A j (by rw [HNX.out]; omega), List.nil_append] at h9
              exact h9)
            go_wp2_with fail
            go_loopg [7, 11] (ny + 1 - i) (fun gg lv iv wr => ∃ (k l : Nat) (L : List Ed) (la : Option Addr) (lc : Nat), lv = .slice la l lc ∧ iv = .int .i64 k ∧ L.length = l ∧ k ≤ ny ∧ l ≤ nx + k ∧ gg = ny + 1 - k ∧ Hid (BE 52 w2 wr R (.slice la l lc) L) ∧ Hid (L ++ mk 2 (B.drop k) = E))
            case atStart => exact ⟨i, l, L, la, lc, rfl, rfl, hLl, hiy, by omega, rfl, HBE, HED1⟩
            case round =>
              obtain ⟨k, l, L, la, lc, rfl, rfl, hLl, hk, hlk, hgg, HBE, HED⟩ := hrel
              by_cases hkn : k < ny
              · have hkI : (k : Int) < (ny : Int) := by omega
                obtain ⟨bb, ob, e1⟩ := HFB.out (by omega)
                cases e1
                obtain ⟨y, HYY⟩ : ∃ x, Hid (B.getD k [] = x) := ⟨_, rfl⟩
                obtain ⟨BY, HBY⟩ : ∃ X, Hid ((⟨y.toArray⟩ : ByteArray) = X) := ⟨_, rfl⟩
                have hcc : wr.cell? ⟨bb, ob + k, none⟩ = some (.string BY) := by rw [← HBY.out, ← HYY.out]; exact PS.str (HPB.out _ HBE.out.below) k (by rw [HNY.out]; exact hkn)
                have HD2 : Hid (∀ W : World, (Instr.buildSlice 49 1 #[(0, .agg #[.int .i64 2, .string BY])]).run Try.prog W = .ok (.slice (some ⟨W.heap.size, 0, none⟩) 1 1) (W.alloc (.cells #[.int .i64 2, .string BY] 52))) := fun W => run_build29 2 (.string BY) ⟨_, rfl⟩ W
                have HED2 : Hid ((L ++ [(2, y)]) ++ mk 2 (B.drop (k + 1)) = E) := hid (by
                  have h9 := HED.out
                  rw [mk_drop 2 B k (by rw [HNY.out]; exact hkn), HYY.out] at h9
                  rw [List.append_assoc]
                  exact h9)
                go_wp2_with (first
                  | refine wpList_bS rfl 49 1 _ rfl (.agg #[.int .i64 2, .string BY]) _ rfl (HD2.out _) ?_
                  | (refine app_edK und29 Try.info52 HBE.out hLl (by omega) 2 y 2 rfl BY HBY.out rfl _ _ rfl rfl rfl ?_; intro a' c' w' HB')
                  | fail)
                go_roundg (ny + 1 - (k + 1))
                case measure => omega
                case rel => exact ⟨k + 1, l + 1, L ++ [(2, y)], a', c', rfl, by go_num, by simp [hLl], by omega, by omega, rfl, HB', HED2⟩
              · have hkI : ¬ (k : Int) < (ny : Int) := by omega
                have HLE : Hid (L = E) := hid (by
                  have h9 := HED.out
                  rw [mk_none 2 B k (by rw [HNY.out]; omega), List.append_nil] at h9
                  exact h9)
                go_wp2
                go_ret
                refine ⟨_, rfl, ?_⟩
                rw [← HLE.out]
                have hbE := HBE.out
                have hbw := HB2.out.trans (hbE.below.mono hgR)
                exact ⟨by rw [HG.out]; exact hbw, base_mono hbE.own (by rw [HG.out]; exact hgR), hbw.size⟩
    · have hinI : ¬ (i : Int) < (nx : Int) := by omega
      have HFI : Hid (fr A B = i) := hid (fr_end A B i (.inl (by rw [HNX.out]; omega)) HFR.out)
      go_wp2_with fail
      refine wp_region_held_drew (S := fun _ => True) (by kernel_rfl) trivial (fun hHeld => ?_)
      generalize wr.drew = wd at HBEd ⊢
      refine takeL (i := 0) (v := ?_) rfl (by kernel_rfl) (by kernel_rfl) (by kernel_rfl) (fun _ _ _ h => h) (Or.inl ⟨by rfl, ?_⟩) hHeld ?_
      rotate_left
      · rintro w' _; go_simp; rfl
      try simp only [Act.put, List.setIfInBounds_toArray, List.set_cons_zero, List.set_cons_succ]
      refine takeL (i := 1) (v := ?_) rfl (by kernel_rfl) (by kernel_rfl) (by kernel_rfl) (fun _ _ _ h => h) (Or.inl ⟨by rfl, ?_⟩) hHeld ?_
      rotate_left
      · rintro w' _; go_simp; rfl
      try simp only [Act.put, List.setIfInBounds_toArray, List.set_cons_zero, List.set_cons_succ]
      refine takeL (i := 2) (v := ?_) rfl (by kernel_rfl) (by kernel_rfl) (by kernel_rfl) (fun _ _ _ h => h) (Or.inl ⟨by rfl, ?_⟩) hHeld ?_
      rotate_left
      · rintro w' _; go_simp; rfl
      try simp only [Act.put, List.setIfInBounds_toArray, List.set_cons_zero, List.set_cons_succ]
      refine takeL (i := 3) (v := .bool false) rfl (by kernel_rfl) (by kernel_rfl) (by kernel_rfl) (fun _ _ _ h => h) (Or.inl ⟨by rfl, ?_⟩) hHeld ?_
      · rintro w' _; go_simp; try rfl
      try simp only [Act.put, List.setIfInBounds_toArray, List.set_cons_zero, List.set_cons_succ]
      refine takeL (i := 4) (v := .bool false) rfl (by kernel_rfl) (by kernel_rfl) (by kernel_rfl) (fun _ _ _ h => h) (Or.inl ⟨by rfl, ?_⟩) hHeld ?_
      · rintro w' _; go_simp; try rfl
      try simp only [Act.put, List.setIfInBounds_toArray, List.set_cons_zero, List.set_cons_succ]
      refine takeL (i := 5) (v := undef) rfl (by kernel_rfl) (by kernel_rfl) (by kernel_rfl) (fun _ _ _ h => h) (Or.inr ⟨by kernel_rfl, rfl⟩) hHeld ?_
      try simp only [Act.put, List.setIfInBounds_toArray, List.set_cons_zero, List.set_cons_succ]
      refine takeL (i := 6) (v := undef) rfl (by kernel_rfl) (by kernel_rfl) (by kernel_rfl) (fun _ _ _ h => h) (Or.inr ⟨by kernel_rfl, rfl⟩) hHeld ?_
      try simp only [Act.put, List.setIfInBounds_toArray, List.set_cons_zero, List.set_cons_succ]
      refine takeL (i := 7) (v := undef) rfl (by kernel_rfl) (by kernel_rfl) (by kernel_rfl) (fun _ _ _ h => h) (Or.inr ⟨by kernel_rfl, rfl⟩) hHeld ?_
      try simp only [Act.put, List.setIfInBounds_toArray, List.set_cons_zero, List.set_cons_succ]
      refine takeL (i := 8) (v := undef) rfl (by kernel_rfl) (by kernel_rfl) (by kernel_rfl) (fun _ _ _ h => h) (Or.inr ⟨by kernel_rfl, rfl⟩) hHeld ?_
      try simp only [Act.put, List.setIfInBounds_toArray, List.set_cons_zero, List.set_cons_succ]
      refine takeL (i := 9) (v := .bool false) rfl (by kernel_rfl) (by kernel_rfl) (by kernel_rfl) (fun _ _ _ h => h) (Or.inl ⟨by rfl, ?_⟩) hHeld ?_
      · rintro w' _; go_simp; try rfl
      try simp only [Act.put, List.setIfInBounds_toArray, List.set_cons_zero, List.set_cons_succ]
      refine takeL (i := 10) (v := .bool false) rfl (by kernel_rfl) (by kernel_rfl) (by kernel_rfl) (fun _ _ _ h => h) (Or.inl ⟨by rfl, ?_⟩) hHeld ?_
      · rintro w' _; go_simp; try rfl
      try simp only [Act.put, List.setIfInBounds_toArray, List.set_cons_zero, List.set_cons_succ]
      refine takeL (i := 11) (v := undef) rfl (by kernel_rfl) (by kernel_rfl) (by kernel_rfl) (fun _ _ _ h => h) (Or.inr ⟨by kernel_rfl, rfl⟩) hHeld ?_
      try simp only [Act.put, List.setIfInBounds_toArray, List.set_cons_zero, List.set_cons_succ]
      refine takeL (i := 12) (v := undef) rfl (by kernel_rfl) (by kernel_rfl) (by kernel_rfl) (fun _ _ _ h => h) (Or.inr ⟨by kernel_rfl, rfl⟩) hHeld ?_
      try simp only [Act.put, List.setIfInBounds_toArray, List.set_cons_zero, List.set_cons_succ]
      refine takeL (i := 13) (v := undef) rfl (by kernel_rfl) (by kernel_rfl) (by kernel_rfl) (fun _ _ _ h => h) (Or.inr ⟨by kernel_rfl, rfl⟩) hHeld ?_
      try simp only [Act.put, List.setIfInBounds_toArray, List.set_cons_zero, List.set_cons_succ]
      refine takeL (i := 14) (v := undef) rfl (by kernel_rfl) (by kernel_rfl) (by kernel_rfl) (fun _ _ _ h => h) (Or.inr ⟨by kernel_rfl, rfl⟩) hHeld ?_
      try simp only [Act.put, List.setIfInBounds_toArray, List.set_cons_zero, List.set_cons_succ]
      refine takeL (i := 15) (v := undef) rfl (by kernel_rfl) (by kernel_rfl) (by kernel_rfl) (fun _ _ _ h => h) (Or.inr ⟨by kernel_rfl, rfl⟩) hHeld ?_
      try simp only [Act.put, List.setIfInBounds_toArray, List.set_cons_zero, List.set_cons_succ]
      refine takeL (i := 16) (v := undef) rfl (by kernel_rfl) (by kernel_rfl) (by kernel_rfl) (fun _ _ _ h => h) (Or.inr ⟨by kernel_rfl, rfl⟩) hHeld ?_
      try simp only [Act.put, List.setIfInBounds_toArray, List.set_cons_zero, List.set_cons_succ]
      refine takeL (i := 17) (v := undef) rfl (by kernel_rfl) (by kernel_rfl) (by kernel_rfl) (fun _ _ _ h => h) (Or.inr ⟨by kernel_rfl, rfl⟩) hHeld ?_
      try simp only [Act.put, List.setIfInBounds_toArray, List.set_cons_zero, List.set_cons_succ]
      refine takeL (i := 18) (v := undef) rfl (by kernel_rfl) (by kernel_rfl) (by kernel_rfl) (fun _ _ _ h => h) (Or.inr ⟨by kernel_rfl, rfl⟩) hHeld ?_
      try simp only [Act.put, List.setIfInBounds_toArray, List.set_cons_zero, List.set_cons_succ]
      refine takeL (i := 19) (v := undef) rfl (by kernel_rfl) (by kernel_rfl) (by kernel_rfl) (fun _ _ _ h => h) (Or.inr ⟨by kernel_rfl, rfl⟩) hHeld ?_
      try simp only [Act.put, List.setIfInBounds_toArray, List.set_cons_zero, List.set_cons_succ]
      refine takeL (i := 20) (v := .bool false) rfl (by kernel_rfl) (by kernel_rfl) (by kernel_rfl) (fun _ _ _ h => h) (Or.inl ⟨by rfl, ?_⟩) hHeld ?_
      · rintro w' _; go_simp; try rfl
      try simp only [Act.put, List.setIfInBounds_toArray, List.set_cons_zero, List.set_cons_succ]
      refine wpAnyH_done (by kernel_rfl) ?_ _
      clear hHeld
      have HED : Hid (L ++ (mk 1 (A.drop i) ++ mk 2 (B.drop i)) = E) := hid (by rw [HEE.out, HLM.out, ← HF.out, HFI.out])
      go_wp2_with fail
      go_loopg [7, 10] (nx + 1 - i) (fun gg lv iv wr => ∃ (j l : Nat) (L : List Ed) (la : Option Addr) (lc : Nat), lv = .slice la l lc ∧ iv = .int .i64 j ∧ L.length = l ∧ j ≤ nx ∧ l ≤ j ∧ gg = nx + 1 - j ∧ Hid (BE 52 w2 wr R (.slice la l lc) L) ∧ Hid (L ++ (mk 1 (A.drop j) ++ mk 2 (B.drop i)) = E))
      case atStart => exact ⟨i, l, L, la, lc, rfl, rfl, hLl, hi, by omega, rfl, HBEd, HED⟩
      case round =>
        obtain ⟨j, l, L, la, lc, rfl, rfl, hLl, hj, hlj, hgg, HBE, HED⟩ := hrel
        by_cases hjn : j < nx
        · have hjI : (j : Int) < (nx : Int) := by omega
          obtain ⟨ba, oa, e1⟩ := HFA.out (by omega)
          cases e1
          obtain ⟨x, HXX⟩ : ∃ x, Hid (A.getD j [] = x) := ⟨_, rfl⟩
          obtain ⟨BX, HBX⟩ : ∃ X, Hid ((⟨x.toArray⟩ : ByteArray) = X) := ⟨_, rfl⟩
          have hcc : wr.cell? ⟨ba, oa + j, none⟩ = some (.string BX) := by rw [← HBX.out, ← HXX.out]; exact PS.str (HPA.out _ HBE.out.below) j (by rw [HNX.out]; exact hjn)
          have HD1 : Hid (∀ W : World, (Instr.buildSlice 49 1 #[(0, .agg #[.int .i64 1, .string BX])]).run Try.prog W = .ok (.slice (some ⟨W.heap.size, 0, none⟩) 1 1) (W.alloc (.cells #[.int .i64 1, .string BX] 52))) := fun W => run_build29 1 (.string BX) ⟨_, rfl⟩ W
          have HED2 : Hid ((L ++ [(1, x)]) ++ (mk 1 (A.drop (j + 1)) ++ mk 2 (B.drop i)) = E) := hid (by
            have h9 := HED.out
            rw [mk_drop 1 A j (by rw [HNX.out]; exact hjn), HXX.out] at h9
            rw [List.append_assoc]
            exact h9)
          go_wp2_with (first
            | refine wpList_bS rfl 49 1 _ rfl (.agg #[.int .i64 1, .string BX]) _ rfl (HD1.out _) ?_
            | (refine app_edK und29 Try.info52 HBE.out hLl (by omega) 1 x 1 rfl BX HBX.out rfl _ _ rfl rfl rfl ?_; intro a' c' w' HB')
            | fail)
          go_roundg (nx + 1 - (j + 1))
          case measure => omega
          case rel => exact ⟨j + 1, l + 1, L ++ [(1, x)], a', c', rfl, by go_num, by simp [hLl], by omega, by omega, rfl, HB', HED2⟩
        · have hjI : ¬ (j : Int) < (nx : Int) := by omega
          have HED1 : Hid (L ++ mk 2 (B.drop i) = E) := hid (by
            have h9 := HED.out
            rw [mk_none 1 A j (by rw [HNX.out]; omega), List.nil_append] at h9
            exact h9)
          go_wp2_with fail
          go_loopg [7, 11] (ny + 1 - i) (fun gg lv iv wr => ∃ (k l : Nat) (L : List Ed) (la : Option Addr) (lc : Nat), lv = .slice la l lc ∧ iv = .int .i64 k ∧ L.length = l ∧ k ≤ ny ∧ l ≤ nx + k ∧ gg = ny + 1 - k ∧ Hid (BE 52 w2 wr R (.slice la l lc) L) ∧ Hid (L ++ mk 2 (B.drop k) = E))
          case atStart => exact ⟨i, l, L, la, lc, rfl, rfl, hLl, hiy, by omega, rfl, HBE, HED1⟩
          case round =>
            obtain ⟨k, l, L, la, lc, rfl, rfl, hLl, hk, hlk, hgg, HBE, HED⟩ := hrel
            by_cases hkn : k < ny
            · have hkI : (k : Int) < (ny : Int) := by omega
              obtain ⟨bb, ob, e1⟩ := HFB.out (by omega)
              cases e1
              obtain ⟨y, HYY⟩ : ∃ x, Hid (B.getD k [] = x) := ⟨_, rfl⟩
              obtain ⟨BY, HBY⟩ : ∃ X, Hid ((⟨y.toArray⟩ : ByteArray) = X) := ⟨_, rfl⟩
              have hcc : wr.cell? ⟨bb, ob + k, none⟩ = some (.string BY) := by rw [← HBY.out, ← HYY.out]; exact PS.str (HPB.out _ HBE.out.below) k (by rw [HNY.out]; exact hkn)
              have HD2 : Hid (∀ W : World, (Instr.buildSlice 49 1 #[(0, .agg #[.int .i64 2, .string BY])]).run Try.prog W = .ok (.slice (some ⟨W.heap.size, 0, none⟩) 1 1) (W.alloc (.cells #[.int .i64 2, .string BY] 52))) := fun W => run_build29 2 (.string BY) ⟨_, rfl⟩ W
              have HED2 : Hid ((L ++ [(2, y)]) ++ mk 2 (B.drop (k + 1)) = E) := hid (by
                have h9 := HED.out
                rw [mk_drop 2 B k (by rw [HNY.out]; exact hkn), HYY.out] at h9
                rw [List.append_assoc]
                exact h9)
              go_wp2_with (first
                | refine wpList_bS rfl 49 1 _ rfl (.agg #[.int .i64 2, .string BY]) _ rfl (HD2.out _) ?_
                | (refine app_edK und29 Try.info52 HBE.out hLl (by omega) 2 y 2 rfl BY HBY.out rfl _ _ rfl rfl rfl ?_; intro a' c' w' HB')
                | fail)
              go_roundg (ny + 1 - (k + 1))
              case measure => omega
              case rel => exact ⟨k + 1, l + 1, L ++ [(2, y)], a', c', rfl, by go_num, by simp [hLl], by omega, by omega, rfl, HB', HED2⟩
            · have hkI : ¬ (k : Int) < (ny : Int) := by omega
              have HLE : Hid (L = E) := hid (by
                have h9 := HED.out
                rw [mk_none 2 B k (by rw [HNY.out]; omega), List.append_nil] at h9
                exact h9)
              go_wp2
              go_ret
              refine ⟨_, rfl, ?_⟩
              rw [← HLE.out]
              have hbE := HBE.out
              have hbw := HB2.out.trans (hbE.below.mono hgR)
              exact ⟨by rw [HG.out]; exact hbw, base_mono hbE.own (by rw [HG.out]; exact hgR), hbw.size⟩
end Go.Proofs.Ytakddciegnkpdaa
