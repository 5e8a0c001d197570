/- 'likeness'. -/
import Derived.Test.YtjpihkheapjigaaDfY
namespace Go.Proofs.Ytjpihkheapjigaa
open Go.RowKit Go.Shelf
set_option linter.unusedVariables false
set_option linter.unusedSimpArgs false
/-- How similar: what is in common of so many bytes. -/
def simv (C n : Nat) : Int := if n = 0 then 100 else ((200 * C / n : Nat) : Int)
structure QL (b b' : Nat) (x y : Value) (n m : Int) (W : World) : Prop where
  c0 : W.cell? ⟨b, 0, none⟩ = some x
  c1 : W.cell? ⟨b, 1, none⟩ = some (.int .i64 n)
  d0 : W.cell? ⟨b', 0, none⟩ = some y
  d1 : W.cell? ⟨b', 1, none⟩ = some (.int .i64 m)
theorem QL.below {b b' : Nat} {x y : Value} {n m : Int} {W W' : World} (h : QL b b' x y n m W) (hb : Below W.heap.size W W') (h1 : b < W.heap.size) (h2 : b' < W.heap.size) : QL b b' x y n m W' :=
  ⟨(hb.cell (p := ⟨b, 0, none⟩) h1).trans h.c0, (hb.cell (p := ⟨b, 1, none⟩) h1).trans h.c1, (hb.cell (p := ⟨b', 0, none⟩) h2).trans h.d0, (hb.cell (p := ⟨b', 1, none⟩) h2).trans h.d1⟩
theorem ql_made (w : World) (x y : Value) (n m : Int) : QL w.heap.size (w.heap.size + 1) x y n m ((w.alloc (.cells #[x, .int .i64 n] 49)).alloc (.cells #[y, .int .i64 m] 49)) := by
  have h1 : ((w.alloc (.cells #[x, .int .i64 n] 49)).alloc (.cells #[y, .int .i64 m] 49)).heap[w.heap.size]? = some (.cells #[x, .int .i64 n] 49 (0, 0)) := by
    show ((w.heap.push _).push _)[w.heap.size]? = _
    rw [Array.getElem?_push, if_neg (by simp), Array.getElem?_push, if_pos rfl]
  have h2 : ((w.alloc (.cells #[x, .int .i64 n] 49)).alloc (.cells #[y, .int .i64 m] 49)).heap[w.heap.size + 1]? = some (.cells #[y, .int .i64 m] 49 (0, 0)) := by
    show ((w.heap.push _).push _)[w.heap.size + 1]? = _
    rw [Array.getElem?_push, if_pos (by simp)]
  exact ⟨by rw [cell_of_row _ _ 0 _ _ _ h1]; rfl, by rw [cell_of_row _ _ 1 _ _ _ h1]; rfl, by rw [cell_of_row _ _ 0 _ _ _ h2]; rfl, by rw [cell_of_row _ _ 1 _ _ _ h2]; rfl⟩
theorem enter27 (x y : Value) : ∀ w : World, (callFunc 27 #[x, y]).run Try.prog w = .ok (.enter 27 #[x, y]) w := fun w => enters_of Try.func27 (by kernel_rfl) rfl _ w
set_option maxRecDepth 20000 in
set_option maxHeartbeats 4000000 in
theorem like_any {w : World} (xa : Option Addr) (xc : Nat) (X : List Kn) (hX : PK w xa xc X) (ya : Option Addr) (yc : Nat) (Y : List Kn) (hY : PK w ya yc Y) (hS : Srt X Y) (hxl : X.length ≤ 4000) (hyl : Y.length ≤ 4000) (hsum : (X.map Prod.snd).sum ≤ 4000) (n m : Nat) (hn : n ≤ 4000) (hm : m ≤ 4000) :
    Calls Try.prog 18 #[.agg #[.slice xa X.length xc, .int .i64 (n : Int)], .agg #[.slice ya Y.length yc, .int .i64 (m : Int)]] w fun e w' => e = .returned (.int .i64 (simv (com Prod.snd X Y) (n + m))) ∧ Below w.heap.size w w' := by
  obtain ⟨nx, HNX⟩ : ∃ n, Hid (X.length = n) := ⟨_, rfl⟩
  obtain ⟨ny, HNY⟩ : ∃ n, Hid (Y.length = n) := ⟨_, rfl⟩
  obtain ⟨C, HC⟩ : ∃ C, Hid (com Prod.snd X Y = C) := ⟨_, rfl⟩
  have hC4 : C ≤ 4000 := by rw [← HC.out]; exact Nat.le_trans (com_le _ _ _) hsum
  have HBT : Hid (∀ W, Below w.heap.size w W → Calls Try.prog 27 #[.slice xa nx xc, .slice ya ny yc] W fun e w' => e = .returned (.int .i64 (C : Int)) ∧ Below W.heap.size W w') := fun W hW => by
    have := both_any xa xc X (hX.below hW) ya yc Y (hY.below hW) hS hxl hyl hsum
    rw [HNX.out, HNY.out, HC.out] at this
    exact this
  rw [HNX.out, HNY.out, HC.out]
  clear hX hY hS hxl hyl hsum
  obtain ⟨G, HG⟩ : ∃ G, Hid (w.heap.size = G) := ⟨_, rfl⟩
  obtain ⟨w1, HW1⟩ : ∃ u, Hid ((w.alloc (.cells #[.slice xa nx xc, .int .i64 (n : Int)] 49)).alloc (.cells #[.slice ya ny yc, .int .i64 (m : Int)] 49) = u) := ⟨_, rfl⟩
  have hq := ql_made w (.slice xa nx xc) (.slice ya ny yc) (n : Int) (m : Int)
  rw [HW1.out, HG.out] at hq
  have hb1 : Below w.heap.size w w1 := by rw [← HW1.out]; exact ((Below.refl _ w).alloc (Nat.le_refl _) _).alloc (by simp) _
  have hs1 : w1.heap.size = G + 2 := by rw [← HW1.out, ← HG.out]; simp
  have HB1 : Hid (Below w.heap.size w w1) := hb1
  have HS1 : Hid (w1.heap.size = G + 2) := hs1
  have HQ : Hid (QL G (G + 1) (.slice xa nx xc) (.slice ya ny yc) n m w1) := hq
  obtain ⟨k0, k1, j0, j1⟩ := hq
  clear hb1 hs1
  go_enter Try.func18, Try.ntmps18
  by_cases h0 : n + m = 0
  · have hI : (n : Int) + (m : Int) = 0 := by omega
    have HSV : Hid (simv C (n + m) = 100) := hid (by unfold simv; rw [if_pos h0])
    rw [HSV.out]
    have HB2 : Hid (Below w.heap.size w ((w.alloc (.cells #[.slice xa nx xc, .int .i64 (n : Int)] 49)).alloc (.cells #[.slice ya ny yc, .int .i64 (m : Int)] 49))) := hid (by rw [HW1.out]; exact HB1.out)
    go_wp2
    go_ret
    exact ⟨rfl, HB2.out⟩
  · have hI : ¬ (n : Int) + (m : Int) = 0 := by omega
    obtain ⟨D, HD⟩ : ∃ D, Hid (simv C (n + m) = D) := ⟨_, rfl⟩
    rw [HD.out]
    have hDD : (200 * (C : Int)).tdiv ((n : Int) + (m : Int)) = D := by
      rw [← HD.out]
      unfold simv
      rw [if_neg h0, show (200 * (C : Int)) = ((200 * C : Nat) : Int) by omega, show (n : Int) + (m : Int) = ((n + m : Nat) : Int) by omega, Int.ofNat_tdiv]
    have hDb : 0 ≤ D ∧ D ≤ 800000 := by
      rw [← HD.out]
      unfold simv
      rw [if_neg h0]
      have := Nat.div_le_self (200 * C) (n + m)
      generalize 200 * C / (n + m) = z at this ⊢
      omega
    have hw1 : IntKind.i64.wrap ((n : Int) + (m : Int)) = (n : Int) + (m : Int) := by rw [IntKind.wrap_i64]; omega
    have hw2 : IntKind.i64.wrap (200 * (C : Int)) = 200 * (C : Int) := by rw [IntKind.wrap_i64]; omega
    have hw3 : IntKind.i64.wrap ((200 * (C : Int)).tdiv ((n : Int) + (m : Int))) = D := by rw [hDD, IntKind.wrap_i64]; omega
    clear hDD
    go_wp2_with fail
    rw [HW1.out, HG.out]
    have hb2 : Below w.heap.size w w1.drew := HB1.out.trans ⟨rfl, rfl, rfl, Nat.le_refl _, fun _ _ => rfl⟩
    have hs2 : w1.drew.heap.size = G + 2 := HS1.out
    refine wp_region_held_drew (S := QL G (G + 1) (.slice xa nx xc) (.slice ya ny yc) n m) (by kernel_rfl) ⟨HQ.out.c0, HQ.out.c1, HQ.out.d0, HQ.out.d1⟩ (fun hHeld => ?_)
    generalize w1.drew = w2 at hHeld hb2 hs2 ⊢
    refine takeL (i := 0) (v := ?_) rfl (by kernel_rfl) (by kernel_rfl) (by kernel_rfl) (fun _ _ _ h => h) (Or.inl ⟨by rfl, ?_⟩) hHeld ?_
    rotate_left
    · rintro w' ⟨s0, s1, s2, s3⟩; go_simp; first | rfl | (simp only [hw1, hw2, hw3, hI, if_false]; rfl)
    try simp only [Act.put, List.setIfInBounds_toArray, List.set_cons_zero, List.set_cons_succ]
    refine takeL (i := 1) (v := ?_) rfl (by kernel_rfl) (by kernel_rfl) (by kernel_rfl) (fun _ _ _ h => h) (Or.inl ⟨by rfl, ?_⟩) hHeld ?_
    rotate_left
    · rintro w' ⟨s0, s1, s2, s3⟩; go_simp; first | rfl | (simp only [hw1, hw2, hw3, hI, if_false]; rfl)
    try simp only [Act.put, List.setIfInBounds_toArray, List.set_cons_zero, List.set_cons_succ]
    refine takeL (i := 2) (v := ?_) rfl (by kernel_rfl) (by kernel_rfl) (by kernel_rfl) (fun _ _ _ h => h) (Or.inl ⟨by rfl, ?_⟩) hHeld ?_
    rotate_left
    · rintro w' ⟨s0, s1, s2, s3⟩; go_simp; first | rfl | (simp only [hw1, hw2, hw3, hI, if_false]; rfl)
    try simp only [Act.put, List.setIfInBounds_toArray, List.set_cons_zero, List.set_cons_succ]
    refine takeL (i := 3) (v := ?_) rfl (by kernel_rfl) (by kernel_rfl) (by kernel_rfl) (fun _ _ _ h => h) (Or.inl ⟨by rfl, ?_⟩) hHeld ?_
    rotate_left
    · rintro w' ⟨s0, s1, s2, s3⟩; go_simp; first | rfl | (simp only [hw1, hw2, hw3, hI, if_false]; rfl)
    try simp only [Act.put, List.setIfInBounds_toArray, List.set_cons_zero, List.set_cons_succ]
    refine takeL (i := 6) (v := ?_) rfl (by kernel_rfl) (by kernel_rfl) (by kernel_rfl) (fun _ _ _ h => h) (Or.inl ⟨by rfl, ?_⟩) hHeld ?_
    rotate_left
    · rintro w' ⟨s0, s1, s2, s3⟩; go_simp; first | rfl | (simp only [hw1, hw2, hw3, hI, if_false]; rfl)
    try simp only [Act.put, List.setIfInBounds_toArray, List.set_cons_zero, List.set_cons_succ]
    refine takeL (i := 7) (v := ?_) rfl (by kernel_rfl) (by kernel_rfl) (by kernel_rfl) (fun _ _ _ h => h) (Or.inl ⟨by rfl, ?_⟩) hHeld ?_
    rotate_left
    · rintro w' ⟨s0, s1, s2, s3⟩; go_simp; first | rfl | (simp only [hw1, hw2, hw3, hI, if_false]; rfl)
    try simp only [Act.put, List.setIfInBounds_toArray, List.set_cons_zero, List.set_cons_succ]
    refine takeL (i := 8) (v := ?_) rfl (by kernel_rfl) (by kernel_rfl) (by kernel_rfl) (fun _ _ _ h => h) (Or.inl ⟨by rfl, ?_⟩) hHeld ?_
    rotate_left
    · rintro w' ⟨s0, s1, s2, s3⟩; go_simp; first | rfl | (simp only [hw1, hw2, hw3, hI, if_false]; rfl)
    try simp only [Act.put, List.setIfInBounds_toArray, List.set_cons_zero, List.set_cons_succ]
    refine takeL (i := 9) (v := ?_) rfl (by kernel_rfl) (by kernel_rfl) (by kernel_rfl) (fun _ _ _ h => h) (Or.inl ⟨by rfl, ?_⟩) hHeld ?_
    rotate_left
    · rintro w' ⟨s0, s1, s2, s3⟩; go_simp; first | rfl | (simp only [hw1, hw2, hw3, hI, if_false]; rfl)
    try simp only [Act.put, List.setIfInBounds_toArray, List.set_cons_zero, List.set_cons_succ]
    refine takeL (i := 10) (v := ?_) rfl (by kernel_rfl) (by kernel_rfl) (by kernel_rfl) (fun _ _ _ h => h) (Or.inl ⟨by rfl, ?_⟩) hHeld ?_
    rotate_left
    · rintro w' ⟨s0, s1, s2, s3⟩; go_simp; first | rfl | (simp only [hw1, hw2, hw3, hI, if_false]; rfl)
    try simp only [Act.put, List.setIfInBounds_toArray, List.set_cons_zero, List.set_cons_succ]
    refine wpAnyH_ready (rs := [4]) (by kernel_rfl) (by simp) ?_
    refine consL rfl (fun KK hKK => ?_) AllReadyH.nil
    refine step_callv (by rfl) 27 [.tmp 12, .tmp 14] _ [.slice xa nx xc, .slice ya ny yc] _ (by rfl) (by rfl) (enter27 _ _) (HBT.out _ hb2) ?_
    rintro e w3 ⟨rfl, hb3⟩
    refine ⟨_, rfl, ?_⟩
    have hHeld3 := hHeld.below hb3 (by omega) (by omega)
    have HB3 : Hid (Below w.heap.size w w3) := hid (hb2.trans (hb3.mono hb2.size))
    refine hKK.out _ _ hHeld3 (fun hHeld2 => ?_)
    clear hKK KK
    try simp only [Act.put, List.setIfInBounds_toArray, List.set_cons_zero, List.set_cons_succ]
    refine takeL (i := 5) (v := ?_) rfl (by kernel_rfl) (by kernel_rfl) (by kernel_rfl) (fun _ _ _ h => h) (Or.inl ⟨by rfl, ?_⟩) hHeld3 ?_
    rotate_left
    · rintro w' ⟨s0, s1, s2, s3⟩; go_simp; first | rfl | (simp only [hw1, hw2, hw3, hI, if_false]; rfl)
    try simp only [Act.put, List.setIfInBounds_toArray, List.set_cons_zero, List.set_cons_succ]
    refine takeL (i := 11) (v := ?_) rfl (by kernel_rfl) (by kernel_rfl) (by kernel_rfl) (fun _ _ _ h => h) (Or.inl ⟨by rfl, ?_⟩) hHeld3 ?_
    rotate_left
    · rintro w' ⟨s0, s1, s2, s3⟩; go_simp; first | rfl | (simp only [hw1, hw2, hw3, hI, if_false]; rfl)
    try simp only [Act.put, List.setIfInBounds_toArray, List.set_cons_zero, List.set_cons_succ]
    refine takeL (i := 12) (v := ?_) rfl (by kernel_rfl) (by kernel_rfl) (by kernel_rfl) (fun _ _ _ h => h) (Or.inl ⟨by rfl, ?_⟩) hHeld3 ?_
    rotate_left
    · rintro w' ⟨s0, s1, s2, s3⟩; go_simp; first | rfl | (simp only [hw1, hw2, hw3, hI, if_false]; rfl)
    try simp only [Act.put, List.setIfInBounds_toArray, List.set_cons_zero, List.set_cons_succ]
    refine wpAnyH_done (by kernel_rfl) ?_ _
    go_wp2
    go_ret
    exact ⟨rfl, HB3.out⟩
theorem kns_sum (f : Str → Option Int) (L : List Str) : ((kns f L).map Prod.snd).sum = (L.map List.length).sum := by
  unfold kns
  rw [List.map_map]
  rfl
theorem kns_ext {f f' : Str → Option Int} (h : Ext f f') {L : List Str} (hs : ∀ x ∈ L, (f x).isSome = true) : kns f L = kns f' L := by
  unfold kns
  refine List.map_congr_left (fun x hx => ?_)
  have := hs x hx
  cases hfx : f x with
  | none => rw [hfx] at this; cases this
  | some v => rw [h x v hfx]
/-- Two texts, with numbers of one numbering: what they have in common. -/
theorem kns_com {f : Str → Option Int} {s : Nat} (h : Nb f s) (A B : List Str) (hA : ∀ x ∈ A, (f x).isSome = true) (hB : ∀ x ∈ B, (f x).isSome = true) : (∀ a ∈ kns f A, ∀ b ∈ kns f B, a.1 = b.1 → a = b) ∧ com Prod.snd (kns f A) (kns f B) = com List.length A B := by
  have key : ∀ x ∈ A, ∀ y ∈ B, (f x).getD 0 = (f y).getD 0 → x = y := fun x hx y hy e => by
    cases hfx : f x with
    | none => have := hA x hx; rw [hfx] at this; cases this
    | some v =>
      cases hfy : f y with
      | none => have := hB y hy; rw [hfy] at this; cases this
      | some u =>
        rw [hfx, hfy] at e
        simp only [Option.getD_some] at e
        exact h.inj x y v hfx (by rw [hfy, e])
  refine ⟨fun a ha b hb e => ?_, ?_⟩
  · obtain ⟨x, hx, rfl⟩ := List.mem_map.1 ha
    obtain ⟨y, hy, rfl⟩ := List.mem_map.1 hb
    rw [key x hx y hy e]
  · exact com_map List.length Prod.snd (fun x => ((f x).getD 0, x.length)) (fun _ => rfl) A B (fun x hx y hy e => key x hx y hy (congrArg Prod.fst e))
set_option maxRecDepth 20000 in
theorem sim_any {w : World} (a : Option Addr) (ca : Nat) (s : Str) (hA : PB w a ca s) (hs : s.length ≤ 4000) (b : Option Addr) (cb : Nat) (t : Str) (hB : PB w b cb t) (ht : t.length ≤ 4000) :
    Calls Try.prog 12 #[.slice a s.length ca, .slice b t.length cb] w fun e w' => e = .returned (.int .i64 (simv (com List.length (lns s) (lns t)) (s.length + t.length))) ∧ Below w.heap.size w w' := by
  obtain ⟨n, HN⟩ : ∃ n, Hid (s.length = n) := ⟨_, rfl⟩
  obtain ⟨m, HM⟩ : ∃ n, Hid (t.length = n) := ⟨_, rfl⟩
  obtain ⟨g, HG⟩ : ∃ g, Hid (w.heap.size = g) := ⟨_, rfl⟩
  obtain ⟨w1, HW1⟩ : ∃ u, Hid (w.alloc (.map #[] 0) = u) := ⟨_, rfl⟩
  have hb1 : Below w.heap.size w w1 := by rw [← HW1.out]; exact (Below.refl _ w).alloc (Nat.le_refl _) _
  have hs1 : w1.heap.size = g + 1 := by rw [← HW1.out, ← HG.out]; simp
  have hms : MS w1 g 0 (fun _ => none) 0 := by rw [← HW1.out, ← HG.out]; exact ms_made w
  have HPA : Hid (∀ W, Below g w W → PB W a ca s) := fun W hW => hA.below (by rw [HG.out]; exact hW)
  have HPB : Hid (∀ W, Below g w W → PB W b cb t) := fun W hW => hB.below (by rw [HG.out]; exact hW)
  have hn4 : n ≤ 4000 := by rw [← HN.out]; exact hs
  have hm4 : m ≤ 4000 := by rw [← HM.out]; exact ht
  have C1 : Hid (Calls Try.prog 19 #[.map (some g), .slice a n ca] w1 (PostT s n g 0 (fun _ => none) w1)) := hid (by
    have := text_any g 0 0 (fun _ => none) hms nb_none (by omega) a ca s (hA.below hb1) hs
    rw [HN.out] at this
    exact this)
  have C2 : Hid (∀ W f k nn, Below g w W → MS W g nn f k → Nb f k → nn ≤ 4000 → Calls Try.prog 19 #[.map (some g), .slice b m cb] W (PostT t m g nn f W)) := fun W f k nn hW hM hN hnn => by
    have := text_any g nn k f hM hN (by omega) b cb t (HPB.out W hW) ht
    rw [HM.out] at this
    exact this
  have HB1 : Hid (Below g w w1) := hid (by rw [← HG.out]; exact hb1)
  have HS1 : Hid (w1.heap.size = g + 1) := hs1
  have HS : Hid (s.length ≤ 4000) := hs
  have HT : Hid (t.length ≤ 4000) := ht
  rw [HN.out, HM.out]
  clear hA hB hs ht hb1 hs1 hms
  have hmk : (Instr.makeMap 45 none).run Try.prog w = .ok (.map (some g)) w1 := by rw [← HW1.out, ← HG.out]; rfl
  go_enter Try.func12, Try.ntmps12
  go_wp2_with fail
  refine C1.out.mono ?_
  rintro e w2 ⟨f1, k1, nn1, K1, q1, X, rfl, hXl, hg2, hm2, hnn1, hnb1, _, hPX, hK1, hpX, hprX, hsm1⟩
  have HM2 : Hid (MS w2 g nn1 f1 k1) := hm2
  have HB2 : Hid (Below g w w2) := hid (HB1.out.trans ⟨hg2.os, hg2.tape, hg2.output, hg2.size, fun k hk => hg2.block k (by rw [HS1.out]; omega) (by simp; omega)⟩)
  have HNB1 : Hid (Nb f1 k1) := hnb1
  have HPX : Hid (PK w2 (some ⟨K1, 0, none⟩) q1 X) := hPX
  have HpX : Hid (X.Pairwise (fun x y => x.1 ≤ y.1)) := hpX
  have HprX : Hid (X.Perm (kns f1 (lns s))) := hprX
  have Hsm1 : Hid (∀ x ∈ lns s, (f1 x).isSome = true) := hsm1
  have hK1g : g ≠ K1 := by rw [HS1.out] at hK1; omega
  have HXL : Hid (X.length = q1) := hXl
  have C2' : Hid (Calls Try.prog 19 #[.map (some g), .slice b m cb] w2 (PostT t m g nn1 f1 w2)) := hid (C2.out w2 f1 k1 nn1 HB2.out hm2 hnb1 (by omega))
  clear hm2 hnb1 hPX hpX hprX hsm1 hXl hK1 hg2
  go_wp2_with fail
  refine C2'.out.mono ?_
  rintro e w3 ⟨f2, k2, nn2, K2, q2, Y, rfl, hYl, hg3, hm3, hnn2, hnb2, hext, hPY, hK2, hpY, hprY, hsm2⟩
  have HB3 : Hid (Below g w w3) := hid (HB2.out.trans ⟨hg3.os, hg3.tape, hg3.output, hg3.size, fun k hk => hg3.block k (by have := HB2.out.size; have := HG.out; omega) (by simp; omega)⟩)
  have hPX3 : PK w3 (some ⟨K1, 0, none⟩) q1 X := HPX.out.grown (fun p hp => by cases hp; exact fun e => hK1g e.symm) hg3
  have hprX2 : X.Perm (kns f2 (lns s)) := by rw [← kns_ext hext Hsm1.out]; exact HprX.out
  have hsA : ∀ x ∈ lns s, (f2 x).isSome = true := fun x hx => by
    have := Hsm1.out x hx
    cases hfx : f1 x with
    | none => rw [hfx] at this; cases this
    | some v => rw [hext x v hfx]; rfl
  obtain ⟨he, hc⟩ := kns_com hnb2 (lns s) (lns t) hsA hsm2
  have hSrt : Srt X Y := ⟨HpX.out, hpY, fun u hu v hv e => he u (hprX2.mem_iff.1 hu) v (hprY.mem_iff.1 hv) e⟩
  have hcom : com Prod.snd X Y = com List.length (lns s) (lns t) := by rw [com_perm_left _ hprX2, com_perm_right _ _ hprY, hc]
  have hsum : (X.map Prod.snd).sum ≤ 4000 := by
    rw [(hprX2.map Prod.snd).sum_nat, kns_sum, lns_len]; exact HS.out
  have hXl4 : X.length ≤ 4000 := by rw [hprX2.length_eq]; unfold kns; rw [List.length_map]; exact Nat.le_trans (lns_few s) HS.out
  have hYl4 : Y.length ≤ 4000 := by rw [hprY.length_eq]; unfold kns; rw [List.length_map]; exact Nat.le_trans (lns_few t) HT.out
  have C18 : Hid (Calls Try.prog 18 #[.agg #[.slice (some ⟨K1, 0, none⟩) q1 q1, .int .i64 (n : Int)], .agg #[.slice (some ⟨K2, 0, none⟩) q2 q2, .int .i64 (m : Int)]] w3 fun e w' => e = .returned (.int .i64 (simv (com List.length (lns s) (lns t)) (n + m))) ∧ Below w3.heap.size w3 w') := hid (by
    have := like_any (some ⟨K1, 0, none⟩) q1 X hPX3 (some ⟨K2, 0, none⟩) q2 Y hPY hSrt hXl4 hYl4 hsum n m hn4 hm4
    rw [hcom, HXL.out, hYl] at this
    exact this)
  clear hPX3 hprX2 hsA he hc hSrt hcom hsum hXl4 hYl4 hYl hg3 hm3 hnb2 hext hPY hpY hprY hsm2
  go_wp2_with fail
  refine C18.out.mono ?_
  rintro e w4 ⟨rfl, hb4⟩
  have HB4 : Hid (Below g w w4) := hid (HB3.out.trans (hb4.mono (by have := HB3.out.size; have := HG.out; omega)))
  clear hb4
  go_wp2
  go_ret
  exact ⟨rfl, by rw [HG.out]; exact HB4.out⟩
end Go.Proofs.Ytjpihkheapjigaa
