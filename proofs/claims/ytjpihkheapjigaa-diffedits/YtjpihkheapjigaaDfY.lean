/- 'bytesInBoth'. -/
import Derived.Test.YtjpihkheapjigaaDfX
namespace Go.Proofs.Ytjpihkheapjigaa
open Go.RowKit Go.Shelf
set_option linter.unusedVariables false
set_option linter.unusedSimpArgs false
theorem Grew.grown {w w' : World} (h : Grew w w') : w.grownBy w' none := by
  obtain ⟨q, os, rfl⟩ := h
  refine ⟨rfl, rfl, rfl, by show _ ≤ (w.heap ++ os).size; simp, fun k hk _ => ?_⟩
  show (w.heap ++ os)[k]? = _
  rw [Array.getElem?_append_left hk]
/-- Rows of lines that can be gone through side by side. -/
structure Srt (X Y : List Kn) : Prop where
  x : X.Pairwise (fun a b => a.1 ≤ b.1)
  y : Y.Pairwise (fun a b => a.1 ≤ b.1)
  eq : ∀ a ∈ X, ∀ b ∈ Y, a.1 = b.1 → a = b
theorem Srt.lt {a b : Kn} {X Y : List Kn} (h : Srt (a :: X) (b :: Y)) (hl : a.1 < b.1) : com Prod.snd (a :: X) (b :: Y) = com Prod.snd X (b :: Y) ∧ Srt X (b :: Y) := by
  refine ⟨com_miss _ _ _ _ (fun hm => ?_), ⟨(List.pairwise_cons.1 h.x).2, h.y, fun u hu v hv => h.eq u (List.mem_cons_of_mem _ hu) v hv⟩⟩
  rcases List.mem_cons.1 hm with e | e
  · rw [e] at hl; omega
  · have := (List.pairwise_cons.1 h.y).1 a e; omega
theorem Srt.gt {a b : Kn} {X Y : List Kn} (h : Srt (a :: X) (b :: Y)) (hl : b.1 < a.1) : com Prod.snd (a :: X) (b :: Y) = com Prod.snd (a :: X) Y ∧ Srt (a :: X) Y := by
  refine ⟨com_skip _ _ _ _ (fun hm => ?_), ⟨h.x, (List.pairwise_cons.1 h.y).2, fun u hu v hv => h.eq u hu v (List.mem_cons_of_mem _ hv)⟩⟩
  rcases List.mem_cons.1 hm with e | e
  · rw [e] at hl; omega
  · have := (List.pairwise_cons.1 h.x).1 b e; omega
theorem Srt.same {a b : Kn} {X Y : List Kn} (h : Srt (a :: X) (b :: Y)) (hl : a.1 = b.1) : com Prod.snd (a :: X) (b :: Y) = a.2 + com Prod.snd X Y ∧ Srt X Y := by
  have e := h.eq a (by simp) b (by simp) hl
  subst e
  exact ⟨com_both _ _ _ _, ⟨(List.pairwise_cons.1 h.x).2, (List.pairwise_cons.1 h.y).2, fun u hu v hv => h.eq u (List.mem_cons_of_mem _ hu) v (List.mem_cons_of_mem _ hv)⟩⟩
theorem PK.two {w : World} {b off cap : Nat} {x : Kn} {l : List Kn} (h : PK w (some ⟨b, off, none⟩) cap (x :: l)) : w.cell? ⟨b, off, none⟩ = some (.int .i64 x.1) ∧ w.cell? ⟨b, off + 1, none⟩ = some (.int .i64 (x.2 : Int)) := by
  obtain ⟨b', off', e1, _, e3⟩ := h.at_ (by simp)
  cases e1
  have h0 := e3 0 (by simp) 0 _ rfl
  have h1 := e3 0 (by simp) 1 _ rfl
  simpa using And.intro h0 h1
theorem PK.tail {w : World} {b off cap : Nat} {x : Kn} {l : List Kn} (h : PK w (some ⟨b, off, none⟩) cap (x :: l)) : ∃ a', (if cap = 1 then some (⟨b, off, none⟩ : Addr) else some ⟨b, off + 2, none⟩) = a' ∧ PK w a' (cap - 1) l := by
  have := h.from 1 (by simp)
  unfold adX at this
  rw [Option.map_some, addr_add] at this
  exact ⟨_, rfl, this⟩
structure QK (b o b' o' : Nat) (n : Int) (m : Int) (n' : Int) (m' : Int) (W : World) : Prop where
  c0 : W.cell? ⟨b, o, none⟩ = some (.int .i64 n)
  c1 : W.cell? ⟨b, o + 1, none⟩ = some (.int .i64 m)
  d0 : W.cell? ⟨b', o', none⟩ = some (.int .i64 n')
  d1 : W.cell? ⟨b', o' + 1, none⟩ = some (.int .i64 m')
theorem enter30 (n m n' m' : Int) : ∀ w : World, (callFunc 30 #[.agg #[.int .i64 n, .int .i64 m], .agg #[.int .i64 n', .int .i64 m']]).run Try.prog w = .ok (.enter 30 #[.agg #[.int .i64 n, .int .i64 m], .agg #[.int .i64 n', .int .i64 m']]) w := fun w => enters30 _ w
set_option maxRecDepth 20000 in
set_option maxHeartbeats 4000000 in
theorem both_any {w : World} (xa : Option Addr) (xc : Nat) (X : List Kn) (hX : PK w xa xc X) (ya : Option Addr) (yc : Nat) (Y : List Kn) (hY : PK w ya yc Y) (hS : Srt X Y) (hxl : X.length ≤ 4000) (hyl : Y.length ≤ 4000) (hsum : (X.map Prod.snd).sum ≤ 4000) :
    Calls Try.prog 27 #[.slice xa X.length xc, .slice ya Y.length yc] w fun e w' => e = .returned (.int .i64 (com Prod.snd X Y : Nat)) ∧ Below w.heap.size w w' := by
  obtain ⟨nx, HNX⟩ : ∃ n, Hid (X.length = n) := ⟨_, rfl⟩
  obtain ⟨ny, HNY⟩ : ∃ n, Hid (Y.length = n) := ⟨_, rfl⟩
  obtain ⟨G, HG⟩ : ∃ G, Hid (w.heap.size = G) := ⟨_, rfl⟩
  obtain ⟨C, HC⟩ : ∃ C, Hid (com Prod.snd X Y = C) := ⟨_, rfl⟩
  have hC4 : C ≤ 4000 := by rw [← HC.out]; exact Nat.le_trans (com_le _ _ _) hsum
  have hnx : nx ≤ 4000 := by rw [← HNX.out]; exact hxl
  have hny : ny ≤ 4000 := by rw [← HNY.out]; exact hyl
  have HX : Hid (PK w xa xc X) := hX
  have HY : Hid (PK w ya yc Y) := hY
  have HS : Hid (Srt X Y) := hS
  rw [HNX.out, HNY.out, HC.out, HG.out]
  clear hX hY hS hxl hyl hsum
  go_enter Try.func27, Try.ntmps27
  go_wp2_with fail
  go_loopg [0, 1, 5] (nx + ny) (fun gg xv yv sv wr => ∃ (p q sm : Nat) (a b : Option Addr) (c d : Nat) (X' Y' : List Kn), xv = .slice a p c ∧ yv = .slice b q d ∧ sv = .int .i64 sm ∧ X'.length = p ∧ Y'.length = q ∧ p ≤ nx ∧ q ≤ ny ∧ gg = p + q ∧ Hid (Below G w wr) ∧ Hid (PK wr a c X') ∧ Hid (PK wr b d Y') ∧ Hid (Srt X' Y') ∧ Hid (sm + com Prod.snd X' Y' = C))
  case atStart => exact ⟨nx, ny, 0, xa, ya, xc, yc, X, Y, rfl, rfl, rfl, HNX.out, HNY.out, Nat.le_refl _, Nat.le_refl _, rfl, hid (Below.refl _ _), HX, HY, HS, hid (by rw [HC.out, Nat.zero_add])⟩
  case round =>
    obtain ⟨p, q, sm, a, b, c, d, X', Y', rfl, rfl, rfl, hp, hq, hpn, hqn, hk, HB, HPX, HPY, HSR, HSM⟩ := hrel
    have hsm : sm ≤ 4000 := by have := HSM.out; omega
    by_cases hp0 : p = 0
    · have hp0I : ¬ (0 : Int) < (p : Int) := by omega
      have HE : Hid (sm = C) := hid (by
        have h0 : X' = [] := List.length_eq_zero_iff.1 (by omega)
        have := HSM.out
        rw [h0] at this
        simpa [com] using this)
      go_wp2
      go_ret
      exact ⟨by rw [HE.out]; rfl, HB.out⟩
    · have hp0I : (0 : Int) < (p : Int) := by omega
      by_cases hq0 : q = 0
      · have hq0I : ¬ (0 : Int) < (q : Int) := by omega
        have HE : Hid (sm = C) := hid (by
          have h0 : Y' = [] := List.length_eq_zero_iff.1 (by omega)
          have := HSM.out
          rw [h0, com_nil] at this
          simpa using this)
        go_wp2
        go_ret
        exact ⟨by rw [HE.out]; rfl, HB.out⟩
      · have hq0I : (0 : Int) < (q : Int) := by omega
        obtain ⟨⟨n, m⟩, X1, rfl⟩ : ∃ x X1, X' = x :: X1 := by
          cases X' with
          | nil => simp at hp; omega
          | cons x X1 => exact ⟨x, X1, rfl⟩
        obtain ⟨⟨n', m'⟩, Y1, rfl⟩ : ∃ y Y1, Y' = y :: Y1 := by
          cases Y' with
          | nil => simp at hq; omega
          | cons x X1 => exact ⟨x, X1, rfl⟩
        obtain ⟨bx, ox, e1, _⟩ := HPX.out.at_ (by simp)
        subst e1
        obtain ⟨by_, oy, e1, _⟩ := HPY.out.at_ (by simp)
        subst e1
        obtain ⟨k0, k1⟩ := PK.two HPX.out
        obtain ⟨j0, j1⟩ := PK.two HPY.out
        simp only at k0 k1 j0 j1
        have hcx : p ≤ c := by rw [← hp]; exact HPX.out.capl
        have hcy : q ≤ d := by rw [← hq]; exact HPY.out.capl
        have HQ : Hid (QK bx ox by_ oy n m n' m' wr.drew) := hid ⟨k0, k1, j0, j1⟩
        have C30 : Hid (∀ W, Calls Try.prog 30 #[.agg #[.int .i64 n, .int .i64 (m : Int)], .agg #[.int .i64 n', .int .i64 (m' : Int)]] W fun e w' => e = .returned (.int .i64 (cz n n')) ∧ Grew W w') := fun W => byNumber_grew (n, m) (n', m') W
        obtain ⟨cv, HCV⟩ : ∃ cv, Hid (cz n n' = cv) := ⟨_, rfl⟩
        rw [HCV.out] at C30
        go_wp2_with fail
        refine wp_region_held_drew (S := QK bx ox by_ oy n m n' m') (by kernel_rfl) (by exact HQ.out) (fun hHeld => ?_)
        have hgd : wr.grownBy wr.drew none := grown_drewN1 wr
        generalize wr.drew = wd at hHeld hgd ⊢
        refine takeL (i := 0) (v := ?_) rfl (by kernel_rfl) (by kernel_rfl) (by kernel_rfl) (fun _ _ _ h => h) (Or.inl ⟨by rfl, ?_⟩) hHeld ?_
        rotate_left
        · rintro w' ⟨s0, s1, s2, s3⟩; go_simp; first | rfl | (simp only [h1p, h1q, if_true]; rfl)
        try simp only [Act.put, List.setIfInBounds_toArray, List.set_cons_zero, List.set_cons_succ]
        refine takeL (i := 1) (v := ?_) rfl (by kernel_rfl) (by kernel_rfl) (by kernel_rfl) (fun _ _ _ h => h) (Or.inl ⟨by rfl, ?_⟩) hHeld ?_
        rotate_left
        · rintro w' ⟨s0, s1, s2, s3⟩; go_simp; first | rfl | (simp only [h1p, h1q, if_true]; rfl)
        try simp only [Act.put, List.setIfInBounds_toArray, List.set_cons_zero, List.set_cons_succ]
        refine takeL (i := 2) (v := ?_) rfl (by kernel_rfl) (by kernel_rfl) (by kernel_rfl) (fun _ _ _ h => h) (Or.inl ⟨by rfl, ?_⟩) hHeld ?_
        rotate_left
        · rintro w' ⟨s0, s1, s2, s3⟩; go_simp; first | rfl | (simp only [h1p, h1q, if_true]; rfl)
        try simp only [Act.put, List.setIfInBounds_toArray, List.set_cons_zero, List.set_cons_succ]
        refine takeL (i := 3) (v := ?_) rfl (by kernel_rfl) (by kernel_rfl) (by kernel_rfl) (fun _ _ _ h => h) (Or.inl ⟨by rfl, ?_⟩) hHeld ?_
        rotate_left
        · rintro w' ⟨s0, s1, s2, s3⟩; go_simp; first | rfl | (simp only [h1p, h1q, if_true]; rfl)
        try simp only [Act.put, List.setIfInBounds_toArray, List.set_cons_zero, List.set_cons_succ]
        refine takeL (i := 4) (v := ?_) rfl (by kernel_rfl) (by kernel_rfl) (by kernel_rfl) (fun _ _ _ h => h) (Or.inl ⟨by rfl, ?_⟩) hHeld ?_
        rotate_left
        · rintro w' ⟨s0, s1, s2, s3⟩; go_simp; first | rfl | (simp only [h1p, h1q, if_true]; rfl)
        try simp only [Act.put, List.setIfInBounds_toArray, List.set_cons_zero, List.set_cons_succ]
        refine takeL (i := 5) (v := ?_) rfl (by kernel_rfl) (by kernel_rfl) (by kernel_rfl) (fun _ _ _ h => h) (Or.inl ⟨by rfl, ?_⟩) hHeld ?_
        rotate_left
        · rintro w' ⟨s0, s1, s2, s3⟩; go_simp; first | rfl | (simp only [h1p, h1q, if_true]; rfl)
        try simp only [Act.put, List.setIfInBounds_toArray, List.set_cons_zero, List.set_cons_succ]
        refine wpAnyH_ready (rs := [6]) (by kernel_rfl) (by simp) ?_
        refine consL rfl (fun KK hKK => ?_) AllReadyH.nil
        refine step_callv (by rfl) 30 [.tmp 17, .tmp 20] _ [.agg #[.int .i64 n, .int .i64 (m : Int)], .agg #[.int .i64 n', .int .i64 (m' : Int)]] _ (by rfl) (by rfl) (enter30 _ _ _ _) (C30.out _) ?_
        rintro e w1 ⟨rfl, hgr⟩
        refine ⟨_, rfl, ?_⟩
        have hg1 : wr.grownBy w1 none := hgd.trans hgr.grown
        have HB1 : Hid (Below wr.heap.size wr w1) := hid ⟨hg1.os, hg1.tape, hg1.output, hg1.size, fun k hk => hg1.block k hk (by simp)⟩
        have HPX1 := HPX.out.below HB1.out
        have HPY1 := HPY.out.below HB1.out
        obtain ⟨k0', k1'⟩ := PK.two HPX1
        obtain ⟨j0', j1'⟩ := PK.two HPY1
        simp only at k0' k1' j0' j1'
        have HHeld1 : QK bx ox by_ oy n m n' m' w1 := ⟨k0', k1', j0', j1'⟩
        refine hKK.out _ _ HHeld1 (fun hHeld2 => ?_)
        clear hKK KK hgr hgd
        try simp only [Act.put, List.setIfInBounds_toArray, List.set_cons_zero, List.set_cons_succ]
        refine takeL (i := 7) (v := ?_) rfl (by kernel_rfl) (by kernel_rfl) (by kernel_rfl) (fun _ _ _ h => h) (Or.inl ⟨by rfl, ?_⟩) HHeld1 ?_
        rotate_left
        · rintro w' ⟨s0, s1, s2, s3⟩; go_simp; first | rfl | (simp only [h1p, h1q, if_true]; rfl)
        try simp only [Act.put, List.setIfInBounds_toArray, List.set_cons_zero, List.set_cons_succ]
        refine wpAnyH_done (by kernel_rfl) ?_ _
        have HBW : Hid (Below G w w1) := hid (HB.out.trans (HB1.out.mono (by have := HB.out.size; have := HG.out; omega)))
        have HX1 : Hid (PK w1 (some ⟨bx, ox, none⟩) c ((n, m) :: X1)) := HPX1
        have HY1 : Hid (PK w1 (some ⟨by_, oy, none⟩) d ((n', m') :: Y1)) := HPY1
        clear HPX1 HPY1 hHeld2 HHeld1 hg1 k0 k1 j0 j1 HQ
        simp only [Exit.then]
        obtain ⟨xa', hxa', hXt⟩ := PK.tail HX1.out
        obtain ⟨ya', hya', hYt⟩ := PK.tail HY1.out
        have HXT : Hid (PK w1 xa' (c - 1) X1) := hXt
        have HYT : Hid (PK w1 ya' (d - 1) Y1) := hYt
        have hpl : X1.length = p - 1 := by simp at hp; omega
        have hql : Y1.length = q - 1 := by simp at hq; omega
        clear hXt hYt hp hq
        have h1p : (1 : Int) ≤ (p : Int) := by omega
        have h1q : (1 : Int) ≤ (q : Int) := by omega
        rcases Int.lt_trichotomy n n' with hlt | heq | hgt
        · have hcv : cv = -1 := by rw [← HCV.out]; unfold cz; rw [if_pos hlt]
          subst hcv
          obtain ⟨h1, h2⟩ := HSR.out.lt hlt
          have HSR2 : Hid (Srt X1 ((n', m') :: Y1)) := h2
          have HSM2 : Hid (sm + com Prod.snd X1 ((n', m') :: Y1) = C) := hid (by rw [← h1]; exact HSM.out)
          clear h1 h2
          go_wp2
          go_roundg (p - 1 + q)
          case measure => omega
          case rel => exact ⟨p - 1, q, sm, xa', _, c - 1, d, X1, (n', m') :: Y1, rfl, rfl, rfl, hpl, by simp; omega, by omega, by omega, rfl, HBW, HXT, HY1, HSR2, HSM2⟩
        · have hcv : cv = 0 := by rw [← HCV.out]; unfold cz; rw [if_neg (by omega), if_neg (by omega)]
          subst hcv
          obtain ⟨h1, h2⟩ := HSR.out.same heq
          have HSR2 : Hid (Srt X1 Y1) := h2
          have HSM2 : Hid (sm + m + com Prod.snd X1 Y1 = C) := hid (by have := HSM.out; rw [h1] at this; simp only at this; omega)
          have hsm2 : sm + m ≤ 4000 := by have := HSM2.out; omega
          clear h1 h2
          go_wp2
          refine wp_region_held_drew (S := fun _ => True) (by kernel_rfl) trivial (fun hHeld => ?_)
          refine takeL (i := 0) (v := ?_) rfl (by kernel_rfl) (by kernel_rfl) (by kernel_rfl) (fun _ _ _ h => h) (Or.inl ⟨by rfl, ?_⟩) hHeld ?_
          rotate_left
          · rintro w' _; go_simp; first | rfl | (simp only [h1p, h1q, if_true]; rfl)
          try simp only [Act.put, List.setIfInBounds_toArray, List.set_cons_zero, List.set_cons_succ]
          refine takeL (i := 1) (v := ?_) rfl (by kernel_rfl) (by kernel_rfl) (by kernel_rfl) (fun _ _ _ h => h) (Or.inl ⟨by rfl, ?_⟩) hHeld ?_
          rotate_left
          · rintro w' _; go_simp; first | rfl | (simp only [h1p, h1q, if_true]; rfl)
          try simp only [Act.put, List.setIfInBounds_toArray, List.set_cons_zero, List.set_cons_succ]
          refine takeL (i := 2) (v := ?_) rfl (by kernel_rfl) (by kernel_rfl) (by kernel_rfl) (fun _ _ _ h => h) (Or.inl ⟨by rfl, ?_⟩) hHeld ?_
          rotate_left
          · rintro w' _; go_simp; first | rfl | (simp only [h1p, h1q, if_true]; rfl)
          try simp only [Act.put, List.setIfInBounds_toArray, List.set_cons_zero, List.set_cons_succ]
          refine takeL (i := 3) (v := ?_) rfl (by kernel_rfl) (by kernel_rfl) (by kernel_rfl) (fun _ _ _ h => h) (Or.inl ⟨by rfl, ?_⟩) hHeld ?_
          rotate_left
          · rintro w' _; go_simp; first | rfl | (simp only [h1p, h1q, if_true]; rfl)
          try simp only [Act.put, List.setIfInBounds_toArray, List.set_cons_zero, List.set_cons_succ]
          refine takeL (i := 4) (v := ?_) rfl (by kernel_rfl) (by kernel_rfl) (by kernel_rfl) (fun _ _ _ h => h) (Or.inl ⟨by rfl, ?_⟩) hHeld ?_
          rotate_left
          · rintro w' _; go_simp; first | rfl | (simp only [h1p, h1q, if_true]; rfl)
          try simp only [Act.put, List.setIfInBounds_toArray, List.set_cons_zero, List.set_cons_succ]
          refine takeL (i := 5) (v := ?_) rfl (by kernel_rfl) (by kernel_rfl) (by kernel_rfl) (fun _ _ _ h => h) (Or.inl ⟨by rfl, ?_⟩) hHeld ?_
          rotate_left
          · rintro w' _; go_simp; first | rfl | (simp only [h1p, h1q, if_true]; rfl)
          try simp only [Act.put, List.setIfInBounds_toArray, List.set_cons_zero, List.set_cons_succ]
          refine wpAnyH_done (by kernel_rfl) ?_ _
          have hgd1 : Below w1.heap.size w1 w1.drew := ⟨rfl, rfl, rfl, Nat.le_refl _, fun _ _ => rfl⟩
          have HBW2 : Hid (Below G w w1.drew) := hid (HBW.out.trans ⟨rfl, rfl, rfl, Nat.le_refl _, fun _ _ => rfl⟩)
          have HXT2 : Hid (PK w1.drew xa' (c - 1) X1) := hid (HXT.out.below hgd1)
          have HYT2 : Hid (PK w1.drew ya' (d - 1) Y1) := hid (HYT.out.below hgd1)
          clear hgd1
          generalize w1.drew = w2 at HBW2 HXT2 HYT2 ⊢
          try simp only [Exit.then]
          go_wp2
          go_roundg (p - 1 + (q - 1))
          case measure => omega
          case rel => exact ⟨p - 1, q - 1, sm + m, xa', ya', c - 1, d - 1, X1, Y1, rfl, rfl, by go_num, hpl, hql, by omega, by omega, rfl, HBW2, HXT2, HYT2, HSR2, HSM2⟩
        · have hcv : cv = 1 := by rw [← HCV.out]; unfold cz; rw [if_neg (by omega), if_pos hgt]
          subst hcv
          obtain ⟨h1, h2⟩ := HSR.out.gt hgt
          have HSR2 : Hid (Srt ((n, m) :: X1) Y1) := h2
          have HSM2 : Hid (sm + com Prod.snd ((n, m) :: X1) Y1 = C) := hid (by rw [← h1]; exact HSM.out)
          clear h1 h2
          go_wp2
          go_roundg (p + (q - 1))
          case measure => omega
          case rel => exact ⟨p, q - 1, sm, _, ya', c, d - 1, (n, m) :: X1, Y1, rfl, rfl, rfl, by simp; omega, hql, by omega, by omega, rfl, HBW, HX1, HYT, HSR2, HSM2⟩
end Go.Proofs.Ytjpihkheapjigaa
