import Derived.Test.YtbpdielmdhhdfaaGreatDoorMl31
namespace Go.Proofs.YtbpdielmdhhdfaaGreatDoor
open Go.RowKit
variable [Inhabited Er] [Inhabited En]
set_option linter.unusedVariables false
set_option linter.unusedSectionVars false
set_option linter.unusedSimpArgs false
structure QL (b off b2 off2 i : Nat) (Rk : List Value) (W : World) : Prop where
  rk : W.rangeAt b (off + i * 20) Rk
  ri : W.rangeAt b2 (off2 + i * 20) Rk
set_option maxRecDepth 20000 in
theorem walkL_long (k : Int) (a : Option Addr) (n cap : Nat) (w : World) (hn : n ≤ 9223372036854775807) (h : 120000 < n ∨ (k = 2 ∧ 8000 < n)) :
    Calls Tryz.prog 7 #[.agg #[.int .i64 k, .slice a n cap]] w fun e w' => e = .returned (.bool true) ∧ Below w.heap.size w w' := by
  have HB : Hid (Below w.heap.size w (w.alloc (.cells #[.int .i64 k, .slice a n cap] 25))) := (Below.refl _ w).alloc (Nat.le_refl _) _
  by_cases h1 : 120000 < n
  · have h1i : (120000 : Int) < (n : Int) := by omega
    go_enter Tryz.func7, Tryz.ntmps7
    go_wp2
    go_ret
    exact ⟨rfl, HB.out⟩
  · have h1i : ¬ (120000 : Int) < (n : Int) := by omega
    obtain ⟨rfl, h2⟩ : k = 2 ∧ 8000 < n := by rcases h with h | h; exact absurd h h1; exact h
    have h2i : (8000 : Int) < (n : Int) := by omega
    go_enter Tryz.func7, Tryz.ntmps7
    go_wp2
    go_ret
    exact ⟨rfl, HB.out⟩
set_option maxRecDepth 20000 in
set_option maxHeartbeats 8000000 in
theorem walkL_short (k : Int) (a : Option Addr) (cap : Nat) (zs : List Int) (hl : zs.length ≤ 120000) (ht2 : k = 2 → zs.length ≤ 8000) (hz : IsB zs) (w : World) (hw : Lw w) (he : Ers w) (hd : Db w) (hS : Sl w a cap zs) :
    Calls Tryz.prog 7 #[.agg #[.int .i64 k, .slice a zs.length cap]] w fun e w' => e = .returned (.bool true) ∧ Below w.heap.size w w' := by
  obtain ⟨n, HN⟩ : ∃ n, Hid (zs.length = n) := ⟨_, rfl⟩
  obtain ⟨G, HG⟩ : ∃ G, Hid (w.heap.size = G) := ⟨_, rfl⟩
  obtain ⟨l, HL⟩ : ∃ l, Hid (Lib.bytesOf zs = l) := ⟨_, rfl⟩
  have HLW : Hid (∀ W, Below G w W → Lw W) := fun W hW => hw.below (by rw [HG.out]; exact hW)
  have C30 : Hid (∀ W, Below G w W → Calls Tryz.prog 30 #[.agg #[.int .i64 k, .slice a n cap]] W fun e w' => Below W.heap.size W w' ∧ ∃ er ids, e = .returned (errV er) ∧ LP k n l er ids) := fun W hW => by
    have hW2 : Below w.heap.size w W := by rw [HG.out]; exact hW
    have := check_any k a cap zs (by omega) (fun h => by have := ht2 h; omega) hz W (hw.below hW2) (he.below hW2) (hd.below hW2) (hS.below hW2)
    rw [HN.out, HL.out] at this
    exact this
  have C31 : Hid (∀ W, Below G w W → Calls Tryz.prog 31 #[.agg #[.int .i64 k, .slice a n cap]] W fun e w' => Below W.heap.size W w' ∧ LkOut (LP k n l) e w') := fun W hW => by
    have hW2 : Below w.heap.size w W := by rw [HG.out]; exact hW
    have := links_any k a cap zs (by omega) (fun h => by have := ht2 h; omega) hz W (hw.below hW2) (he.below hW2) (hd.below hW2) (hS.below hW2)
    rw [HN.out, HL.out] at this
    exact this
  have C32 : Hid (∀ W, Below G w W → Calls Tryz.prog 32 #[.agg #[.int .i64 k, .slice a n cap]] W fun e w' => Below W.heap.size W w' ∧ DkOut (LD k n l) e w') := fun W hW => by
    have hW2 : Below w.heap.size w W := by rw [HG.out]; exact hW
    have := refLinks_any k a cap zs (by omega) (fun h => by have := ht2 h; omega) hz W (hS.below hW2)
    rw [HN.out, HL.out] at this
    exact this
  have HTE : Hid (∀ (er : Int) W, Below G w W → Calls Tryz.prog 11 #[errV er] W fun e w' => e = .returned (.int .i64 er) ∧ Below W.heap.size W w') := fun er W hW => tell_any er W (HLW.out W hW)
  have C13 : Hid (∀ W, Calls Tryz.prog 13 #[.agg #[.int .i64 k, .slice a n cap]] W fun e w' => e = .returned (.agg #[.int .i64 k, .slice a n cap]) ∧ Below W.heap.size W w') := fun W => theirs_any k a n cap W
  have h1i : ¬ (120000 : Int) < (n : Int) := by rw [← HN.out]; omega
  have h2 : ¬ k = 2 ∨ (k = 2 ∧ ¬ (8000 : Int) < (n : Int)) := by
    by_cases hk : k = 2
    · exact .inr ⟨hk, by have := ht2 hk; rw [← HN.out]; omega⟩
    · exact .inl hk
  obtain ⟨w1, HW1⟩ : ∃ w1, Hid (w.alloc (.cells #[.int .i64 k, .slice a n cap] 25) = w1) := ⟨_, rfl⟩
  have HB1 : Hid (Below G w w1) := hid (by rw [← HW1.out, ← HG.out]; exact (Below.refl _ w).alloc (Nat.le_refl _) _)
  have HO1 : Hid (Obx G k a n cap w1) := hid (by rw [← HW1.out, ← HG.out]; exact obx_new k a n cap w 25)
  have hG1 : G < w1.heap.size := by rw [← HW1.out, ← HG.out]; simp
  have HOL : Hid (∀ W, Obx G k a n cap W → W.rangeAt G 0 [.int .i64 k, .slice a n cap]) := fun W h j v hv => by
    match j, hv with
    | 0, hv => simp at hv; subst hv; exact h.c0
    | 1, hv => simp at hv; subst hv; exact h.c1
    | j + 2, hv => simp at hv
  rw [HN.out, HG.out]
  clear hS hw he hd hz ht2
  rcases h2 with hk2 | ⟨hk2, h8⟩
  · have hk2b : (k == 2) = false := by simpa using hk2
    go_enter Tryz.func7, Tryz.ntmps7
    go_wp2_with fail
    rw [HG.out, HW1.out]
    refine (C30.out w1 HB1.out).mono ?_
    rintro ev w2 ⟨hb2, er, ids0, rfl, hlp⟩
    have LP2 : Hid (LP k n l er ids0) := hlp
    have HB2 : Hid (Below G w w2) := HB1.out.trans (hb2.mono (Nat.le_of_lt hG1))
    have HO2 : Hid (Obx G k a n cap w2) := HO1.out.keep hb2 hG1
    have hG2 : G < w2.heap.size := Nat.lt_of_lt_of_le hG1 hb2.size
    have c0 := HO2.out.c0
    have c1 := HO2.out.c1
    clear hb2 hlp
    obtain ⟨U, HU⟩ : ∃ u, Hid (errV er = u) := ⟨_, rfl⟩
    rw [HU.out]
    go_wp2_with fail
    refine (C31.out w2 HB2.out).mono ?_
    rintro ev w3 ⟨hb3, er2, ids, pa, pc, rfl, hpa, hwi, hi1, hlp⟩
    have LP3 : Hid (LP k n l er2 ids) := hlp
    have PA3 : Hid (Pa w3 pa pc ids) := hpa
    have HWI : Hid (WfI ids) := hwi
    have HB3 : Hid (Below G w w3) := HB2.out.trans (hb3.mono (Nat.le_of_lt hG2))
    have HO3 : Hid (Obx G k a n cap w3) := HO2.out.keep hb3 hG2
    have hG3 : G < w3.heap.size := Nat.lt_of_lt_of_le hG2 hb3.size
    clear hb3 hlp hpa hwi c0 c1
    have c0 := HO3.out.c0
    have c1 := HO3.out.c1
    obtain ⟨U2, HU2⟩ : ∃ u, Hid (errV er2 = u) := ⟨_, rfl⟩
    obtain ⟨m, HM⟩ : ∃ m, Hid (ids.length = m) := ⟨_, rfl⟩
    rw [HU2.out, HM.out]
    have hm1 : m ≤ 1000 := by rw [← HM.out]; exact hi1
    go_wp2_with fail
    refine (C13.out w3).mono ?_
    rintro ev w4 ⟨rfl, hb4⟩
    have PA4 : Hid (Pa w4 pa pc ids) := PA3.out.below hb4
    have HB4 : Hid (Below G w w4) := HB3.out.trans (hb4.mono (Nat.le_of_lt hG3))
    have hG4 : G < w4.heap.size := Nat.lt_of_lt_of_le hG3 hb4.size
    clear hb4 c0 c1
    obtain ⟨w5, HW5⟩ : ∃ w5, Hid (w4.alloc (.cells #[.int .i64 k, .slice a n cap] 39) = w5) := ⟨_, rfl⟩
    have hb5 : Below w4.heap.size w4 w5 := by rw [← HW5.out]; exact (Below.refl _ w4).alloc (Nat.le_refl _) _
    have PA5 : Hid (Pa w5 pa pc ids) := PA4.out.below hb5
    have HB5 : Hid (Below G w w5) := HB4.out.trans (hb5.mono (Nat.le_of_lt hG4))
    have hG5 : G < w5.heap.size := Nat.lt_of_lt_of_le hG4 hb5.size
    clear hb5
    go_wp2_with fail
    rw [HW5.out]
    refine (C32.out w5 HB5.out).mono ?_
    rintro ev w6 ⟨hb6, er3, ids3, qa, qc, rfl, hqa, hwq, hld⟩
    obtain ⟨e3, e4⟩ := same_lk LP3.out hld
    obtain ⟨e5, _⟩ := same_lk LP2.out hld
    clear hld
    subst e4
    have e6 : er2 = er3 := e3.symm
    have e7 : er = er3 := e5.symm
    subst e6
    subst e7
    clear e3 e5
    have PA6 : Hid (Pa w6 pa pc ids3) := PA5.out.below hb6
    have QA6 : Hid (Pa w6 qa qc ids3) := hqa
    have HB6 : Hid (Below G w w6) := HB5.out.trans (hb6.mono (Nat.le_of_lt hG5))
    have hG6 : G < w6.heap.size := Nat.lt_of_lt_of_le hG5 hb6.size
    clear hb6 hqa hwq
    rw [HM.out]
    have T1 : Hid (∀ W, Below G w W → Calls Tryz.prog 11 #[U] W fun e w' => e = .returned (.int .i64 er) ∧ Below W.heap.size W w') := fun W hW => by rw [← HU.out]; exact HTE.out er W hW
    have T2 : Hid (∀ W, Below G w W → Calls Tryz.prog 11 #[U2] W fun e w' => e = .returned (.int .i64 er) ∧ Below W.heap.size W w') := fun W hW => by rw [← HU2.out]; exact HTE.out er W hW
    go_wp2_with fail
    refine (T1.out w6 HB6.out).mono ?_
    rintro ev w7 ⟨rfl, hb7⟩
    have PA7 : Hid (Pa w7 pa pc ids3) := PA6.out.below hb7
    have QA7 : Hid (Pa w7 qa qc ids3) := QA6.out.below hb7
    have HB7 : Hid (Below G w w7) := HB6.out.trans (hb7.mono (Nat.le_of_lt hG6))
    have hG7 : G < w7.heap.size := Nat.lt_of_lt_of_le hG6 hb7.size
    clear hb7
    go_wp2_with fail
    refine (T2.out w7 HB7.out).mono ?_
    rintro ev w8 ⟨rfl, hb8⟩
    have PA8 : Hid (Pa w8 pa pc ids3) := PA7.out.below hb8
    have QA8 : Hid (Pa w8 qa qc ids3) := QA7.out.below hb8
    have HB8 : Hid (Below G w w8) := HB7.out.trans (hb8.mono (Nat.le_of_lt hG7))
    clear hb8
    go_wp2_with fail
    go_loopg [9] m (fun g iv wr => ∃ i : Nat, i ≤ m ∧ g = m - i ∧ iv = .int .i64 i ∧ Hid (Below G w wr) ∧ Hid (Pa wr pa pc ids3) ∧ Hid (Pa wr qa qc ids3))
    case atStart => exact ⟨0, Nat.zero_le _, rfl, rfl, HB8, PA8, QA8⟩
    case round =>
      obtain ⟨i, hi, hk, rfl, HBr, PAr, QAr⟩ := hrel
      by_cases hlt : i < m
      · have hlti : (i : Int) < (m : Int) := by omega
        have hi0 : ¬ (i : Int) < 0 := by omega
        obtain ⟨b, off, hae, hbl, hat⟩ := PAr.out.at_ (by rw [HM.out]; omega)
        obtain ⟨b2, off2, hae2, hbl2, hat2⟩ := QAr.out.at_ (by rw [HM.out]; omega)
        have hcp := PAr.out.capl
        have hcq := QAr.out.capl
        rw [HM.out] at hcp hcq
        obtain ⟨x, HX⟩ : ∃ x, Hid (ids3.getD i [] = x) := ⟨_, rfl⟩
        have hxm : x ∈ ids3 := by
          rw [← HX.out, List.getD_eq_getElem?_getD, List.getElem?_eq_getElem (by rw [HM.out]; exact hlt)]
          exact List.getElem_mem _
        have hx20 := (HWI.out x hxm).1
        obtain ⟨Rk, HRK⟩ : ∃ R : List Value, Hid (row .u8 x = R) := ⟨_, rfl⟩
        have hi32k : (Tryz.prog.info? 32).map (·.size) = some Rk.length := by rw [← HRK.out, row_len, hx20]; exact Tryz.size32
        have hi31k : (Tryz.prog.info? 31).map (·.size) = some Rk.length := by rw [← HRK.out, row_len, hx20]; exact Tryz.size31
        have hsk : ∀ w : World, (Op.equalIn 10000 32 (.agg Rk.toArray) (.agg Rk.toArray)).run Tryz.prog w = .ok true w := fun w => by rw [← HRK.out]; exact same25 x hx20 w
        have QTd : Hid (QL b off b2 off2 i Rk wr.drew) := hid (by
          refine ⟨?_, ?_⟩
          · rw [← HRK.out, ← HX.out]; exact hat i (by rw [HM.out]; exact hlt)
          · rw [← HRK.out, ← HX.out]; exact hat2 i (by rw [HM.out]; exact hlt))
        have HBd : Hid (Below G w wr.drew) := hid ⟨HBr.out.os, HBr.out.tape, HBr.out.output, HBr.out.size, HBr.out.block⟩
        have PAd : Hid (Pa wr.drew pa pc ids3) := PAr.out.below ⟨rfl, rfl, rfl, Nat.le_refl _, fun _ _ => rfl⟩
        have QAd : Hid (Pa wr.drew qa qc ids3) := QAr.out.below ⟨rfl, rfl, rfl, Nat.le_refl _, fun _ _ => rfl⟩
        clear hat hat2 hxm hx20
        subst hae
        subst hae2
        go_wp2_with fail
        refine wp_region_held_drew (S := QL b off b2 off2 i Rk) (by kernel_rfl) (by exact QTd.out) (fun hHeld => ?_)
        generalize wr.drew = u0 at hHeld QTd HBd PAd QAd ⊢
        refine takeL (i := 0) (v := ?_) rfl (by kernel_rfl) (by kernel_rfl) (by kernel_rfl) (fun _ _ _ h => h) (Or.inl ⟨by rfl, ?_⟩) hHeld ?_
        rotate_left
        · rintro w' ⟨rk, ri⟩; go_simp; rfl
        try simp only [Act.put, List.setIfInBounds_toArray, List.set_cons_zero, List.set_cons_succ]
        refine takeL (i := 1) (v := ?_) rfl (by kernel_rfl) (by kernel_rfl) (by kernel_rfl) (fun _ _ _ h => h) (Or.inl ⟨by rfl, ?_⟩) hHeld ?_
        rotate_left
        · rintro w' ⟨rk, ri⟩; go_simp; rfl
        try simp only [Act.put, List.setIfInBounds_toArray, List.set_cons_zero, List.set_cons_succ]
        refine takeL (i := 2) (v := ?_) rfl (by kernel_rfl) (by kernel_rfl) (by kernel_rfl) (fun _ _ _ h => h) (Or.inl ⟨by rfl, ?_⟩) hHeld ?_
        rotate_left
        · rintro w' ⟨rk, ri⟩; go_simp; rfl
        try simp only [Act.put, List.setIfInBounds_toArray, List.set_cons_zero, List.set_cons_succ]
        refine takeL (i := 3) (v := .agg Rk.toArray) rfl (by kernel_rfl) (by kernel_rfl) (by kernel_rfl) (fun _ _ _ h => h) (yieldsIf_load_mid (by rfl) 32 _ rfl b (off + i * 20) (by rfl) Rk _ (fun w' h => h.rk) Tryz.underlying32 rfl hi32k) hHeld ?_
        try simp only [Act.put, List.setIfInBounds_toArray, List.set_cons_zero, List.set_cons_succ]
        refine takeL (i := 4) (v := ?_) rfl (by kernel_rfl) (by kernel_rfl) (by kernel_rfl) (fun _ _ _ h => h) (Or.inl ⟨by rfl, ?_⟩) hHeld ?_
        rotate_left
        · rintro w' ⟨rk, ri⟩; go_simp; rfl
        try simp only [Act.put, List.setIfInBounds_toArray, List.set_cons_zero, List.set_cons_succ]
        refine takeL (i := 5) (v := ?_) rfl (by kernel_rfl) (by kernel_rfl) (by kernel_rfl) (fun _ _ _ h => h) (Or.inl ⟨by rfl, ?_⟩) hHeld ?_
        rotate_left
        · rintro w' ⟨rk, ri⟩; go_simp; rfl
        try simp only [Act.put, List.setIfInBounds_toArray, List.set_cons_zero, List.set_cons_succ]
        refine takeL (i := 6) (v := ?_) rfl (by kernel_rfl) (by kernel_rfl) (by kernel_rfl) (fun _ _ _ h => h) (Or.inl ⟨by rfl, ?_⟩) hHeld ?_
        rotate_left
        · rintro w' ⟨rk, ri⟩; go_simp; rfl
        try simp only [Act.put, List.setIfInBounds_toArray, List.set_cons_zero, List.set_cons_succ]
        refine takeL (i := 7) (v := .agg Rk.toArray) rfl (by kernel_rfl) (by kernel_rfl) (by kernel_rfl) (fun _ _ _ h => h) (yieldsIf_load_mid (by rfl) 31 _ rfl b2 (off2 + i * 20) (by rfl) Rk _ (fun w' h => h.ri) Tryz.underlying31 rfl hi31k) hHeld ?_
        try simp only [Act.put, List.setIfInBounds_toArray, List.set_cons_zero, List.set_cons_succ]
        refine takeL (i := 8) (v := ?_) rfl (by kernel_rfl) (by kernel_rfl) (by kernel_rfl) (fun _ _ _ h => h) (Or.inl ⟨by rfl, ?_⟩) hHeld ?_
        rotate_left
        · rintro w' ⟨rk, ri⟩; go_simp; rfl
        try simp only [Act.put, List.setIfInBounds_toArray, List.set_cons_zero, List.set_cons_succ]
        refine wpAnyH_done (by kernel_rfl) ?_ _
        clear hHeld
        go_wp2
        go_roundg (m - (i + 1))
        case measure => omega
        case rel => exact ⟨i + 1, by omega, rfl, by go_num, HBd, PAd, QAd⟩
      · have hlti : ¬ (i : Int) < (m : Int) := by omega
        go_wp2
        go_ret
        exact ⟨rfl, HBr.out⟩
  · subst hk2
    go_enter Tryz.func7, Tryz.ntmps7
    go_wp2_with fail
    rw [HG.out, HW1.out]
    refine (C30.out w1 HB1.out).mono ?_
    rintro ev w2 ⟨hb2, er, ids0, rfl, hlp⟩
    have LP2 : Hid (LP 2 n l er ids0) := hlp
    have HB2 : Hid (Below G w w2) := HB1.out.trans (hb2.mono (Nat.le_of_lt hG1))
    have HO2 : Hid (Obx G 2 a n cap w2) := HO1.out.keep hb2 hG1
    have hG2 : G < w2.heap.size := Nat.lt_of_lt_of_le hG1 hb2.size
    have c0 := HO2.out.c0
    have c1 := HO2.out.c1
    clear hb2 hlp
    obtain ⟨U, HU⟩ : ∃ u, Hid (errV er = u) := ⟨_, rfl⟩
    rw [HU.out]
    go_wp2_with fail
    refine (C31.out w2 HB2.out).mono ?_
    rintro ev w3 ⟨hb3, er2, ids, pa, pc, rfl, hpa, hwi, hi1, hlp⟩
    have LP3 : Hid (LP 2 n l er2 ids) := hlp
    have PA3 : Hid (Pa w3 pa pc ids) := hpa
    have HWI : Hid (WfI ids) := hwi
    have HB3 : Hid (Below G w w3) := HB2.out.trans (hb3.mono (Nat.le_of_lt hG2))
    have HO3 : Hid (Obx G 2 a n cap w3) := HO2.out.keep hb3 hG2
    have hG3 : G < w3.heap.size := Nat.lt_of_lt_of_le hG2 hb3.size
    clear hb3 hlp hpa hwi c0 c1
    have c0 := HO3.out.c0
    have c1 := HO3.out.c1
    obtain ⟨U2, HU2⟩ : ∃ u, Hid (errV er2 = u) := ⟨_, rfl⟩
    obtain ⟨m, HM⟩ : ∃ m, Hid (ids.length = m) := ⟨_, rfl⟩
    rw [HU2.out, HM.out]
    have hm1 : m ≤ 1000 := by rw [← HM.out]; exact hi1
    go_wp2_with fail
    refine (C13.out w3).mono ?_
    rintro ev w4 ⟨rfl, hb4⟩
    have PA4 : Hid (Pa w4 pa pc ids) := PA3.out.below hb4
    have HB4 : Hid (Below G w w4) := HB3.out.trans (hb4.mono (Nat.le_of_lt hG3))
    have hG4 : G < w4.heap.size := Nat.lt_of_lt_of_le hG3 hb4.size
    clear hb4 c0 c1
    obtain ⟨w5, HW5⟩ : ∃ w5, Hid (w4.alloc (.cells #[.int .i64 2, .slice a n cap] 39) = w5) := ⟨_, rfl⟩
    have hb5 : Below w4.heap.size w4 w5 := by rw [← HW5.out]; exact (Below.refl _ w4).alloc (Nat.le_refl _) _
    have PA5 : Hid (Pa w5 pa pc ids) := PA4.out.below hb5
    have HB5 : Hid (Below G w w5) := HB4.out.trans (hb5.mono (Nat.le_of_lt hG4))
    have hG5 : G < w5.heap.size := Nat.lt_of_lt_of_le hG4 hb5.size
    clear hb5
    go_wp2_with fail
    rw [HW5.out]
    refine (C32.out w5 HB5.out).mono ?_
    rintro ev w6 ⟨hb6, er3, ids3, qa, qc, rfl, hqa, hwq, hld⟩
    obtain ⟨e3, e4⟩ := same_lk LP3.out hld
    obtain ⟨e5, _⟩ := same_lk LP2.out hld
    clear hld
    subst e4
    have e6 : er2 = er3 := e3.symm
    have e7 : er = er3 := e5.symm
    subst e6
    subst e7
    clear e3 e5
    have PA6 : Hid (Pa w6 pa pc ids3) := PA5.out.below hb6
    have QA6 : Hid (Pa w6 qa qc ids3) := hqa
    have HB6 : Hid (Below G w w6) := HB5.out.trans (hb6.mono (Nat.le_of_lt hG5))
    have hG6 : G < w6.heap.size := Nat.lt_of_lt_of_le hG5 hb6.size
    clear hb6 hqa hwq
    rw [HM.out]
    have T1 : Hid (∀ W, Below G w W → Calls Tryz.prog 11 #[U] W fun e w' => e = .returned (.int .i64 er) ∧ Below W.heap.size W w') := fun W hW => by rw [← HU.out]; exact HTE.out er W hW
    have T2 : Hid (∀ W, Below G w W → Calls Tryz.prog 11 #[U2] W fun e w' => e = .returned (.int .i64 er) ∧ Below W.heap.size W w') := fun W hW => by rw [← HU2.out]; exact HTE.out er W hW
    go_wp2_with fail
    refine (T1.out w6 HB6.out).mono ?_
    rintro ev w7 ⟨rfl, hb7⟩
    have PA7 : Hid (Pa w7 pa pc ids3) := PA6.out.below hb7
    have QA7 : Hid (Pa w7 qa qc ids3) := QA6.out.below hb7
    have HB7 : Hid (Below G w w7) := HB6.out.trans (hb7.mono (Nat.le_of_lt hG6))
    have hG7 : G < w7.heap.size := Nat.lt_of_lt_of_le hG6 hb7.size
    clear hb7
    go_wp2_with fail
    refine (T2.out w7 HB7.out).mono ?_
    rintro ev w8 ⟨rfl, hb8⟩
    have PA8 : Hid (Pa w8 pa pc ids3) := PA7.out.below hb8
    have QA8 : Hid (Pa w8 qa qc ids3) := QA7.out.below hb8
    have HB8 : Hid (Below G w w8) := HB7.out.trans (hb8.mono (Nat.le_of_lt hG7))
    clear hb8
    go_wp2_with fail
    go_loopg [9] m (fun g iv wr => ∃ i : Nat, i ≤ m ∧ g = m - i ∧ iv = .int .i64 i ∧ Hid (Below G w wr) ∧ Hid (Pa wr pa pc ids3) ∧ Hid (Pa wr qa qc ids3))
    case atStart => exact ⟨0, Nat.zero_le _, rfl, rfl, HB8, PA8, QA8⟩
    case round =>
      obtain ⟨i, hi, hk, rfl, HBr, PAr, QAr⟩ := hrel
      by_cases hlt : i < m
      · have hlti : (i : Int) < (m : Int) := by omega
        have hi0 : ¬ (i : Int) < 0 := by omega
        obtain ⟨b, off, hae, hbl, hat⟩ := PAr.out.at_ (by rw [HM.out]; omega)
        obtain ⟨b2, off2, hae2, hbl2, hat2⟩ := QAr.out.at_ (by rw [HM.out]; omega)
        have hcp := PAr.out.capl
        have hcq := QAr.out.capl
        rw [HM.out] at hcp hcq
        obtain ⟨x, HX⟩ : ∃ x, Hid (ids3.getD i [] = x) := ⟨_, rfl⟩
        have hxm : x ∈ ids3 := by
          rw [← HX.out, List.getD_eq_getElem?_getD, List.getElem?_eq_getElem (by rw [HM.out]; exact hlt)]
          exact List.getElem_mem _
        have hx20 := (HWI.out x hxm).1
        obtain ⟨Rk, HRK⟩ : ∃ R : List Value, Hid (row .u8 x = R) := ⟨_, rfl⟩
        have hi32k : (Tryz.prog.info? 32).map (·.size) = some Rk.length := by rw [← HRK.out, row_len, hx20]; exact Tryz.size32
        have hi31k : (Tryz.prog.info? 31).map (·.size) = some Rk.length := by rw [← HRK.out, row_len, hx20]; exact Tryz.size31
        have hsk : ∀ w : World, (Op.equalIn 10000 32 (.agg Rk.toArray) (.agg Rk.toArray)).run Tryz.prog w = .ok true w := fun w => by rw [← HRK.out]; exact same25 x hx20 w
        have QTd : Hid (QL b off b2 off2 i Rk wr.drew) := hid (by
          refine ⟨?_, ?_⟩
          · rw [← HRK.out, ← HX.out]; exact hat i (by rw [HM.out]; exact hlt)
          · rw [← HRK.out, ← HX.out]; exact hat2 i (by rw [HM.out]; exact hlt))
        have HBd : Hid (Below G w wr.drew) := hid ⟨HBr.out.os, HBr.out.tape, HBr.out.output, HBr.out.size, HBr.out.block⟩
        have PAd : Hid (Pa wr.drew pa pc ids3) := PAr.out.below ⟨rfl, rfl, rfl, Nat.le_refl _, fun _ _ => rfl⟩
        have QAd : Hid (Pa wr.drew qa qc ids3) := QAr.out.below ⟨rfl, rfl, rfl, Nat.le_refl _, fun _ _ => rfl⟩
        clear hat hat2 hxm hx20
        subst hae
        subst hae2
        go_wp2_with fail
        refine wp_region_held_drew (S := QL b off b2 off2 i Rk) (by kernel_rfl) (by exact QTd.out) (fun hHeld => ?_)
        generalize wr.drew = u0 at hHeld QTd HBd PAd QAd ⊢
        refine takeL (i := 0) (v := ?_) rfl (by kernel_rfl) (by kernel_rfl) (by kernel_rfl) (fun _ _ _ h => h) (Or.inl ⟨by rfl, ?_⟩) hHeld ?_
        rotate_left
        · rintro w' ⟨rk, ri⟩; go_simp; rfl
        try simp only [Act.put, List.setIfInBounds_toArray, List.set_cons_zero, List.set_cons_succ]
        refine takeL (i := 1) (v := ?_) rfl (by kernel_rfl) (by kernel_rfl) (by kernel_rfl) (fun _ _ _ h => h) (Or.inl ⟨by rfl, ?_⟩) hHeld ?_
        rotate_left
        · rintro w' ⟨rk, ri⟩; go_simp; rfl
        try simp only [Act.put, List.setIfInBounds_toArray, List.set_cons_zero, List.set_cons_succ]
        refine takeL (i := 2) (v := ?_) rfl (by kernel_rfl) (by kernel_rfl) (by kernel_rfl) (fun _ _ _ h => h) (Or.inl ⟨by rfl, ?_⟩) hHeld ?_
        rotate_left
        · rintro w' ⟨rk, ri⟩; go_simp; rfl
        try simp only [Act.put, List.setIfInBounds_toArray, List.set_cons_zero, List.set_cons_succ]
        refine takeL (i := 3) (v := .agg Rk.toArray) rfl (by kernel_rfl) (by kernel_rfl) (by kernel_rfl) (fun _ _ _ h => h) (yieldsIf_load_mid (by rfl) 32 _ rfl b (off + i * 20) (by rfl) Rk _ (fun w' h => h.rk) Tryz.underlying32 rfl hi32k) hHeld ?_
        try simp only [Act.put, List.setIfInBounds_toArray, List.set_cons_zero, List.set_cons_succ]
        refine takeL (i := 4) (v := ?_) rfl (by kernel_rfl) (by kernel_rfl) (by kernel_rfl) (fun _ _ _ h => h) (Or.inl ⟨by rfl, ?_⟩) hHeld ?_
        rotate_left
        · rintro w' ⟨rk, ri⟩; go_simp; rfl
        try simp only [Act.put, List.setIfInBounds_toArray, List.set_cons_zero, List.set_cons_succ]
        refine takeL (i := 5) (v := ?_) rfl (by kernel_rfl) (by kernel_rfl) (by kernel_rfl) (fun _ _ _ h => h) (Or.inl ⟨by rfl, ?_⟩) hHeld ?_
        rotate_left
        · rintro w' ⟨rk, ri⟩; go_simp; rfl
        try simp only [Act.put, List.setIfInBounds_toArray, List.set_cons_zero, List.set_cons_succ]
        refine takeL (i := 6) (v := ?_) rfl (by kernel_rfl) (by kernel_rfl) (by kernel_rfl) (fun _ _ _ h => h) (Or.inl ⟨by rfl, ?_⟩) hHeld ?_
        rotate_left
        · rintro w' ⟨rk, ri⟩; go_simp; rfl
        try simp only [Act.put, List.setIfInBounds_toArray, List.set_cons_zero, List.set_cons_succ]
        refine takeL (i := 7) (v := .agg Rk.toArray) rfl (by kernel_rfl) (by kernel_rfl) (by kernel_rfl) (fun _ _ _ h => h) (yieldsIf_load_mid (by rfl) 31 _ rfl b2 (off2 + i * 20) (by rfl) Rk _ (fun w' h => h.ri) Tryz.underlying31 rfl hi31k) hHeld ?_
        try simp only [Act.put, List.setIfInBounds_toArray, List.set_cons_zero, List.set_cons_succ]
        refine takeL (i := 8) (v := ?_) rfl (by kernel_rfl) (by kernel_rfl) (by kernel_rfl) (fun _ _ _ h => h) (Or.inl ⟨by rfl, ?_⟩) hHeld ?_
        rotate_left
        · rintro w' ⟨rk, ri⟩; go_simp; rfl
        try simp only [Act.put, List.setIfInBounds_toArray, List.set_cons_zero, List.set_cons_succ]
        refine wpAnyH_done (by kernel_rfl) ?_ _
        clear hHeld
        go_wp2
        go_roundg (m - (i + 1))
        case measure => omega
        case rel => exact ⟨i + 1, by omega, rfl, by go_num, HBd, PAd, QAd⟩
      · have hlti : ¬ (i : Int) < (m : Int) := by omega
        go_wp2
        go_ret
        exact ⟨rfl, HBr.out⟩
end Go.Proofs.YtbpdielmdhhdfaaGreatDoor
