import Derived.Test.YtcicoeneemnbiaaGreatDoorMw11
import Derived.Test.YtcicoeneemnbiaaGreatDoorMw13
namespace Go.Proofs.YtcicoeneemnbiaaGreatDoor
open Go.RowKit
set_option linter.unusedVariables false
set_option linter.unusedSimpArgs false
theorem bl_ltS : ∀ x y : List UInt8, Op.bytesLess x y = ltS x y
  | [], [] => by simp [Op.bytesLess, ltS]
  | [], b :: y => by simp [Op.bytesLess, ltS]
  | a :: x, [] => by simp [Op.bytesLess, ltS]
  | a :: x, b :: y => by
    rw [Op.bytesLess, bl_ltS x y, ltS]
    by_cases h : a < b
    · simp [h]
    · by_cases e : a = b
      · simp [h, e]
      · simp [h, e]
theorem insY_at (x : Ey) : ∀ (l : List Ey) (p : Nat), p ≤ l.length → (∀ j, j < p → leK (l.getD j dY) x) → (p = l.length ∨ ¬ leK (l.getD p dY) x) → insY x l = l.take p ++ x :: l.drop p
  | [], p, hp, _, _ => by
    obtain rfl : p = 0 := by simpa using hp
    rfl
  | y :: l, 0, hp, _, h => by
    have h2 : ¬ leK y x := by
      rcases h with h | h
      · simp at h
      · exact h
    rw [insY, if_neg (show ¬ (ltS y.path x.path = true ∨ (y.path = x.path ∧ y.stage ≤ x.stage)) from h2)]
    rfl
  | y :: l, p + 1, hp, h1, h => by
    have h2 : leK y x := h1 0 (by omega)
    have ih := insY_at x l p (by simpa using hp) (fun j hj => h1 (j + 1) (by omega)) (by
      rcases h with h | h
      · left; simpa using h
      · right; exact h)
    rw [insY, if_pos (show ltS y.path x.path = true ∨ (y.path = x.path ∧ y.stage ≤ x.stage) from h2), ih]
    rfl
theorem srtY_snoc (l : List Ey) (x : Ey) : srtY (l ++ [x]) = insY x (srtY l) := by simp [srtY]
theorem elem33 : Tryz.prog.underlying 33 = some (.slice (Tryz.prog.elem 33)) := by kernel_rfl
theorem sizeY (w : World) : (sizeOf (Tryz.prog.elem 33)).run Tryz.prog w = .ok 24 w := by kernel_rfl
theorem slY_to (a : Option Addr) (n cap j : Nat) (h : j ≤ cap) (w : World) : (Instr.slice 33 (.slice a n cap) none (some (.int .i64 j)) none).run Tryz.prog w = .ok (.slice a j cap) w := by
  rw [run_slice_h w 33 a n cap elem33 .i64 j (by omega) (by omega), sizeY, Result.andThen_ok, sliced]
  congr 2
  split
  · rfl
  · cases a with
    | none => rfl
    | some p => obtain ⟨b, o, f⟩ := p; simp [Addr.add]
theorem slY_from (a : Option Addr) (n cap j : Nat) (h : j ≤ n) (w : World) : (Instr.slice 33 (.slice a n cap) (some (.int .i64 j)) none none).run Tryz.prog w = .ok (.slice (adX 24 a cap j) (n - j : Nat) (cap - j : Nat)) w := by
  rw [run_slice_l w 33 a n cap elem33 .i64 j (by omega) (by omega), sizeY, Result.andThen_ok, sliced]
  rfl
theorem base_mono {w : World} {B B' : Nat} {e : TypeId} {s : Nat} {v : Value} {n : Nat} {xs : List Value} (h : w.ownsRow B' e s v n xs) (hB : B ≤ B') : w.ownsRow B e s v n xs := by
  obtain ⟨hl, h1 | ⟨g, c, cur, h1, h2, h3⟩⟩ := h
  · exact ⟨hl, .inl h1⟩
  · exact ⟨hl, .inr ⟨g, c, cur, h1, Nat.le_trans hB h2, h3⟩⟩
structure Qk (b1 o1 b o : Nat) (Y X : ByteArray) (sy sx : Int) (W : World) : Prop where
  c0 : W.cell? ⟨b1, o1, none⟩ = some (.string Y)
  c23 : W.cell? ⟨b1, o1 + 23, none⟩ = some (.int .i64 sy)
  d0 : W.cell? ⟨b, o, none⟩ = some (.string X)
  d23 : W.cell? ⟨b, o + 23, none⟩ = some (.int .i64 sx)
set_option maxRecDepth 20000 in
set_option maxHeartbeats 8000000 in
theorem sorted_any (a : Option Addr) (cap : Nat) (es : List Ey) (hwf : WY es) (hn : es.length ≤ 2000) (w : World) (hP : PY w a cap es) :
    Calls Tryz.prog 15 #[.slice a es.length cap] w fun e w' => ∃ v, e = .returned v ∧ BY 48 w w' w.heap.size v (srtY es) := by
  obtain ⟨n, HN⟩ : ∃ n, Hid (es.length = n) := ⟨_, rfl⟩
  obtain ⟨G, HG⟩ : ∃ G, Hid (w.heap.size = G) := ⟨_, rfl⟩
  have hnn : n ≤ 2000 := by rw [← HN.out]; exact hn
  have HPA : Hid (∀ W, Below G w W → PY W a cap es) := fun W hW => hP.below (by rw [HG.out]; exact hW)
  have HPL : Hid (0 < n → ∃ b off, a = some ⟨b, off, none⟩ ∧ b < G) := fun h0 => by
    obtain ⟨b, off, e1, e2, _⟩ := hP.at_ (by rw [HN.out]; exact h0)
    exact ⟨b, off, e1, by rw [← HG.out]; exact e2⟩
  have HWF : Hid (WY es) := hwf
  have HMEM : Hid (∀ i, ∀ y ∈ srtY (es.take i), y ∈ es) := fun i y hy => List.mem_of_mem_take ((srtY_perm _).subset hy)
  have HSL : Hid (∀ i, i ≤ n → (srtY (es.take i)).length = i) := fun i hi => by rw [(srtY_perm _).length_eq, List.length_take, HN.out]; omega
  have HE0 : Hid (BY 48 w w G (.slice none 0 0) (srtY (es.take 0))) := hid (bx_nil 48 w G (by rw [HG.out]; exact Nat.le_refl _))
  rw [HN.out]
  clear hP hwf
  go_enter Tryz.func15, Tryz.ntmps15
  go_wp2_with fail
  go_loopg [3, 4] n (fun g u iv wr => ∃ (i : Nat) (v : Value), v = u ∧ i ≤ n ∧ g = n - i ∧ iv = .int .i64 i ∧ Hid (BY 48 w wr G v (srtY (es.take i))))
  case atStart => exact ⟨0, _, rfl, Nat.zero_le _, rfl, rfl, HE0⟩
  case round =>
    obtain ⟨i, v, hv, hi, hk, rfl, HBE⟩ := hrel
    subst hv
    by_cases hlt : i < n
    · have hlti : (i : Int) < (n : Int) := by omega
      obtain ⟨L, HL⟩ : ∃ L, Hid (srtY (es.take i) = L) := ⟨_, rfl⟩
      have HLL : Hid (L.length = i) := hid (by rw [← HL.out]; exact HSL.out i hi)
      have HLW : Hid (WY L) := hid (by rw [← HL.out]; exact fun y hy => HWF.out y (HMEM.out i y hy))
      rw [HL.out] at HBE
      obtain ⟨va, vc, hv⟩ : ∃ va vc, v = .slice va i vc := by
        have ho := HBE.out.own
        rw [HLL.out] at ho
        exact owns_shape ho
      subst hv
      have HPV : Hid (∀ W, BY 48 w W G (.slice va i vc) L → PY W va vc L) := fun W hW => by
        obtain ⟨a', c', e1, e2, _⟩ := hW.px (d := dY) (fun y hy => encY_len y (HLW.out y hy))
        cases e1
        exact e2
      obtain ⟨b, off, hae, hbG⟩ := HPL.out (by omega)
      subst hae
      obtain ⟨x, HXX⟩ : ∃ x, Hid (es.getD i dY = x) := ⟨_, rfl⟩
      have hxm : x ∈ es := by rw [← HXX.out]; exact getD_mem es i dY (by rw [HN.out]; exact hlt)
      have HX20 : Hid (x.id.length = 20) := HWF.out x hxm
      have HX1 : Hid (∀ y ∈ [x], (encY y).length = 24) := fun y hy => by rw [List.mem_singleton.1 hy]; exact encY_len x HX20.out
      obtain ⟨R, HR⟩ : ∃ R : List Value, Hid (encY x = R) := ⟨_, rfl⟩
      have HRR : Hid (∀ W, Below G w W → W.rangeAt b (off + i * 24) R) := fun W hW => by
        rw [← HR.out, ← HXX.out]
        exact (HPA.out W hW).row i (by rw [HN.out]; exact hlt)
      have hi48 : (Tryz.prog.info? 48).map (·.size) = some R.length := by rw [← HR.out, encY_len x HX20.out]; exact info48
      obtain ⟨KX, HKX⟩ : ∃ S : ByteArray, Hid (⟨x.path.toArray⟩ = S) := ⟨_, rfl⟩
      clear hxm
      go_wp2_with fail
      go_loopg [5] i (fun g jv wq => ∃ j : Nat, j ≤ i ∧ g = i - j ∧ jv = .int .i64 j ∧ Hid (BY 48 w wq G (.slice va i vc) L) ∧ Hid (∀ k, k < j → leK (L.getD k dY) x))
      case atStart => exact ⟨0, Nat.zero_le _, rfl, rfl, HBE, hid (fun k hk => absurd hk (Nat.not_lt_zero _))⟩
      case round =>
        obtain ⟨j, hj, hkj, rfl, HBQ, HLE⟩ := hrel
        by_cases hji : j < i
        · have hjii : (j : Int) < (i : Int) := by omega
          obtain ⟨b1, off1, hva⟩ : ∃ b1 off1, va = some ⟨b1, off1, none⟩ := by
            obtain ⟨b1, off1, e1, e2, _⟩ := (HPV.out _ HBQ.out).at_ (by rw [HLL.out]; omega)
            exact ⟨b1, off1, e1⟩
          subst hva
          obtain ⟨y, HY⟩ : ∃ y, Hid (L.getD j dY = y) := ⟨_, rfl⟩
          obtain ⟨KY, HKY⟩ : ∃ S : ByteArray, Hid (⟨y.path.toArray⟩ = S) := ⟨_, rfl⟩
          have hcy := (HPV.out _ HBQ.out).cells j (by rw [HLL.out]; exact hji) HLW.out
          have hcx := (HPA.out _ HBQ.out.below).cells i (by rw [HN.out]; exact hlt) HWF.out
          rw [HY.out, HKY.out] at hcy
          rw [HXX.out, HKX.out] at hcx
          have HQ0 : Qk b1 (off1 + j * 24) b (off + i * 24) KY KX y.stage x.stage wr.drew := ⟨hcy.1, hcy.2.2.2, hcx.1, hcx.2.2.2⟩
          have HBQ0 : Hid (BY 48 w wr.drew G (.slice (some ⟨b1, off1, none⟩) i vc) L) := hid (HBQ.out.carry (Below.drewR (Below.refl _ _)))
          clear hcy hcx
          go_wp2_with fail
          refine wp_region_held_drew (S := Qk b1 (off1 + j * 24) b (off + i * 24) KY KX y.stage x.stage) (by kernel_rfl) HQ0 (fun hHeld => ?_)
          generalize wr.drew = u0 at hHeld HBQ0 ⊢
          clear HQ0 HBQ
          have HBQ := HBQ0
          clear HBQ0
          by_cases hL : ltS y.path x.path = true
          · have hbl : Op.bytesLess KY.toList KX.toList = true := by rw [← HKX.out, ← HKY.out, Lib.toList_data, Lib.toList_data, bl_ltS]; exact hL
            have HLE2 : Hid (∀ k, k < j + 1 → leK (L.getD k dY) x) := hid (fun k hk => by
              by_cases e : k = j
              · subst e; rw [HY.out]; exact .inl hL
              · exact HLE.out k (by omega))
            clear hL
            refine takeL (i := 0) (v := ?_) rfl (by kernel_rfl) (by kernel_rfl) (by kernel_rfl) (fun _ _ _ h => h) (Or.inl ⟨by rfl, ?_⟩) hHeld ?_
            rotate_left
            · rintro w' ⟨d0, d1, d2, d3⟩; go_simp; rfl
            try simp only [Act.put, List.setIfInBounds_toArray, List.set_cons_zero, List.set_cons_succ]
            refine takeL (i := 1) (v := ?_) rfl (by kernel_rfl) (by kernel_rfl) (by kernel_rfl) (fun _ _ _ h => h) (Or.inl ⟨by rfl, ?_⟩) hHeld ?_
            rotate_left
            · rintro w' ⟨d0, d1, d2, d3⟩; go_simp; rfl
            try simp only [Act.put, List.setIfInBounds_toArray, List.set_cons_zero, List.set_cons_succ]
            refine takeL (i := 2) (v := ?_) rfl (by kernel_rfl) (by kernel_rfl) (by kernel_rfl) (fun _ _ _ h => h) (Or.inl ⟨by rfl, ?_⟩) hHeld ?_
            rotate_left
            · rintro w' ⟨d0, d1, d2, d3⟩; go_simp; rfl
            try simp only [Act.put, List.setIfInBounds_toArray, List.set_cons_zero, List.set_cons_succ]
            refine takeL (i := 3) (v := .bool true) rfl (by kernel_rfl) (by kernel_rfl) (by kernel_rfl) (fun _ _ _ h => h) (Or.inl ⟨by rfl, ?_⟩) hHeld ?_
            · rintro w' ⟨d0, d1, d2, d3⟩; go_simp; try rfl
            try simp only [Act.put, List.setIfInBounds_toArray, List.set_cons_zero, List.set_cons_succ]
            refine takeL (i := 4) (v := ?_) rfl (by kernel_rfl) (by kernel_rfl) (by kernel_rfl) (fun _ _ _ h => h) (Or.inl ⟨by rfl, ?_⟩) hHeld ?_
            rotate_left
            · rintro w' ⟨d0, d1, d2, d3⟩; go_simp; rfl
            try simp only [Act.put, List.setIfInBounds_toArray, List.set_cons_zero, List.set_cons_succ]
            refine takeL (i := 5) (v := ?_) rfl (by kernel_rfl) (by kernel_rfl) (by kernel_rfl) (fun _ _ _ h => h) (Or.inl ⟨by kernel_rfl, ?_⟩) hHeld ?_
            rotate_left
            · rintro w' ⟨d0, d1, d2, d3⟩; go_simp; rfl
            try simp only [Act.put, List.setIfInBounds_toArray, List.set_cons_zero, List.set_cons_succ]
            refine takeL (i := 6) (v := ?_) rfl (by kernel_rfl) (by kernel_rfl) (by kernel_rfl) (fun _ _ _ h => h) (Or.inl ⟨by kernel_rfl, ?_⟩) hHeld ?_
            rotate_left
            · rintro w' ⟨d0, d1, d2, d3⟩; go_simp; rfl
            try simp only [Act.put, List.setIfInBounds_toArray, List.set_cons_zero, List.set_cons_succ]
            refine takeL (i := 7) (v := ?_) rfl (by kernel_rfl) (by kernel_rfl) (by kernel_rfl) (fun _ _ _ h => h) (Or.inl ⟨by kernel_rfl, ?_⟩) hHeld ?_
            rotate_left
            · rintro w' ⟨d0, d1, d2, d3⟩; go_simp; rfl
            try simp only [Act.put, List.setIfInBounds_toArray, List.set_cons_zero, List.set_cons_succ]
            refine takeL (i := 8) (v := ?_) rfl (by kernel_rfl) (by kernel_rfl) (by kernel_rfl) (fun _ _ _ h => h) (Or.inl ⟨by kernel_rfl, ?_⟩) hHeld ?_
            rotate_left
            · rintro w' ⟨d0, d1, d2, d3⟩; go_simp; rfl
            try simp only [Act.put, List.setIfInBounds_toArray, List.set_cons_zero, List.set_cons_succ]
            refine takeL (i := 9) (v := ?_) rfl (by kernel_rfl) (by kernel_rfl) (by kernel_rfl) (fun _ _ _ h => h) (Or.inl ⟨by kernel_rfl, ?_⟩) hHeld ?_
            rotate_left
            · rintro w' ⟨d0, d1, d2, d3⟩; go_simp; rfl
            try simp only [Act.put, List.setIfInBounds_toArray, List.set_cons_zero, List.set_cons_succ]
            refine takeL (i := 10) (v := ?_) rfl (by kernel_rfl) (by kernel_rfl) (by kernel_rfl) (fun _ _ _ h => h) (Or.inl ⟨by kernel_rfl, ?_⟩) hHeld ?_
            rotate_left
            · rintro w' ⟨d0, d1, d2, d3⟩; go_simp; rfl
            try simp only [Act.put, List.setIfInBounds_toArray, List.set_cons_zero, List.set_cons_succ]
            refine takeL (i := 11) (v := ?_) rfl (by kernel_rfl) (by kernel_rfl) (by kernel_rfl) (fun _ _ _ h => h) (Or.inl ⟨by kernel_rfl, ?_⟩) hHeld ?_
            rotate_left
            · rintro w' ⟨d0, d1, d2, d3⟩; go_simp; rfl
            try simp only [Act.put, List.setIfInBounds_toArray, List.set_cons_zero, List.set_cons_succ]
            refine takeL (i := 12) (v := ?_) rfl (by kernel_rfl) (by kernel_rfl) (by kernel_rfl) (fun _ _ _ h => h) (Or.inl ⟨by kernel_rfl, ?_⟩) hHeld ?_
            rotate_left
            · rintro w' ⟨d0, d1, d2, d3⟩; go_simp; rfl
            try simp only [Act.put, List.setIfInBounds_toArray, List.set_cons_zero, List.set_cons_succ]
            refine takeL (i := 13) (v := ?_) rfl (by kernel_rfl) (by kernel_rfl) (by kernel_rfl) (fun _ _ _ h => h) (Or.inl ⟨by kernel_rfl, ?_⟩) hHeld ?_
            rotate_left
            · rintro w' ⟨d0, d1, d2, d3⟩; go_simp; rfl
            try simp only [Act.put, List.setIfInBounds_toArray, List.set_cons_zero, List.set_cons_succ]
            refine takeL (i := 14) (v := ?_) rfl (by kernel_rfl) (by kernel_rfl) (by kernel_rfl) (fun _ _ _ h => h) (Or.inl ⟨by kernel_rfl, ?_⟩) hHeld ?_
            rotate_left
            · rintro w' ⟨d0, d1, d2, d3⟩; go_simp; rfl
            try simp only [Act.put, List.setIfInBounds_toArray, List.set_cons_zero, List.set_cons_succ]
            refine takeL (i := 15) (v := .bool true) rfl (by kernel_rfl) (by kernel_rfl) (by kernel_rfl) (fun _ _ _ h => h) (Or.inl ⟨by kernel_rfl, ?_⟩) hHeld ?_
            · rintro w' ⟨d0, d1, d2, d3⟩; go_simp; try rfl
            try simp only [Act.put, List.setIfInBounds_toArray, List.set_cons_zero, List.set_cons_succ]
            refine takeL (i := 16) (v := ?_) rfl (by kernel_rfl) (by kernel_rfl) (by kernel_rfl) (fun _ _ _ h => h) (Or.inl ⟨by kernel_rfl, ?_⟩) hHeld ?_
            rotate_left
            · rintro w' ⟨d0, d1, d2, d3⟩; go_simp; rfl
            try simp only [Act.put, List.setIfInBounds_toArray, List.set_cons_zero, List.set_cons_succ]
            refine takeL (i := 17) (v := undef) rfl (by kernel_rfl) (by kernel_rfl) (by kernel_rfl) (fun _ _ _ h => h) (Or.inr ⟨by kernel_rfl, rfl⟩) hHeld ?_
            try simp only [Act.put, List.setIfInBounds_toArray, List.set_cons_zero, List.set_cons_succ]
            refine takeL (i := 18) (v := undef) rfl (by kernel_rfl) (by kernel_rfl) (by kernel_rfl) (fun _ _ _ h => h) (Or.inr ⟨by kernel_rfl, rfl⟩) hHeld ?_
            try simp only [Act.put, List.setIfInBounds_toArray, List.set_cons_zero, List.set_cons_succ]
            refine takeL (i := 19) (v := undef) rfl (by kernel_rfl) (by kernel_rfl) (by kernel_rfl) (fun _ _ _ h => h) (Or.inr ⟨by kernel_rfl, rfl⟩) hHeld ?_
            try simp only [Act.put, List.setIfInBounds_toArray, List.set_cons_zero, List.set_cons_succ]
            refine takeL (i := 20) (v := undef) rfl (by kernel_rfl) (by kernel_rfl) (by kernel_rfl) (fun _ _ _ h => h) (Or.inr ⟨by kernel_rfl, rfl⟩) hHeld ?_
            try simp only [Act.put, List.setIfInBounds_toArray, List.set_cons_zero, List.set_cons_succ]
            refine takeL (i := 21) (v := undef) rfl (by kernel_rfl) (by kernel_rfl) (by kernel_rfl) (fun _ _ _ h => h) (Or.inr ⟨by kernel_rfl, rfl⟩) hHeld ?_
            try simp only [Act.put, List.setIfInBounds_toArray, List.set_cons_zero, List.set_cons_succ]
            refine takeL (i := 22) (v := undef) rfl (by kernel_rfl) (by kernel_rfl) (by kernel_rfl) (fun _ _ _ h => h) (Or.inr ⟨by kernel_rfl, rfl⟩) hHeld ?_
            try simp only [Act.put, List.setIfInBounds_toArray, List.set_cons_zero, List.set_cons_succ]
            refine takeL (i := 23) (v := undef) rfl (by kernel_rfl) (by kernel_rfl) (by kernel_rfl) (fun _ _ _ h => h) (Or.inr ⟨by kernel_rfl, rfl⟩) hHeld ?_
            try simp only [Act.put, List.setIfInBounds_toArray, List.set_cons_zero, List.set_cons_succ]
            refine takeL (i := 24) (v := undef) rfl (by kernel_rfl) (by kernel_rfl) (by kernel_rfl) (fun _ _ _ h => h) (Or.inr ⟨by kernel_rfl, rfl⟩) hHeld ?_
            try simp only [Act.put, List.setIfInBounds_toArray, List.set_cons_zero, List.set_cons_succ]
            refine takeL (i := 25) (v := undef) rfl (by kernel_rfl) (by kernel_rfl) (by kernel_rfl) (fun _ _ _ h => h) (Or.inr ⟨by kernel_rfl, rfl⟩) hHeld ?_
            try simp only [Act.put, List.setIfInBounds_toArray, List.set_cons_zero, List.set_cons_succ]
            refine takeL (i := 26) (v := undef) rfl (by kernel_rfl) (by kernel_rfl) (by kernel_rfl) (fun _ _ _ h => h) (Or.inr ⟨by kernel_rfl, rfl⟩) hHeld ?_
            try simp only [Act.put, List.setIfInBounds_toArray, List.set_cons_zero, List.set_cons_succ]
            refine takeL (i := 27) (v := undef) rfl (by kernel_rfl) (by kernel_rfl) (by kernel_rfl) (fun _ _ _ h => h) (Or.inr ⟨by kernel_rfl, rfl⟩) hHeld ?_
            try simp only [Act.put, List.setIfInBounds_toArray, List.set_cons_zero, List.set_cons_succ]
            refine takeL (i := 28) (v := undef) rfl (by kernel_rfl) (by kernel_rfl) (by kernel_rfl) (fun _ _ _ h => h) (Or.inr ⟨by kernel_rfl, rfl⟩) hHeld ?_
            try simp only [Act.put, List.setIfInBounds_toArray, List.set_cons_zero, List.set_cons_succ]
            refine takeL (i := 29) (v := undef) rfl (by kernel_rfl) (by kernel_rfl) (by kernel_rfl) (fun _ _ _ h => h) (Or.inr ⟨by kernel_rfl, rfl⟩) hHeld ?_
            try simp only [Act.put, List.setIfInBounds_toArray, List.set_cons_zero, List.set_cons_succ]
            refine takeL (i := 30) (v := undef) rfl (by kernel_rfl) (by kernel_rfl) (by kernel_rfl) (fun _ _ _ h => h) (Or.inr ⟨by kernel_rfl, rfl⟩) hHeld ?_
            try simp only [Act.put, List.setIfInBounds_toArray, List.set_cons_zero, List.set_cons_succ]
            refine takeL (i := 31) (v := undef) rfl (by kernel_rfl) (by kernel_rfl) (by kernel_rfl) (fun _ _ _ h => h) (Or.inr ⟨by kernel_rfl, rfl⟩) hHeld ?_
            try simp only [Act.put, List.setIfInBounds_toArray, List.set_cons_zero, List.set_cons_succ]
            refine takeL (i := 32) (v := undef) rfl (by kernel_rfl) (by kernel_rfl) (by kernel_rfl) (fun _ _ _ h => h) (Or.inr ⟨by kernel_rfl, rfl⟩) hHeld ?_
            try simp only [Act.put, List.setIfInBounds_toArray, List.set_cons_zero, List.set_cons_succ]
            refine takeL (i := 33) (v := undef) rfl (by kernel_rfl) (by kernel_rfl) (by kernel_rfl) (fun _ _ _ h => h) (Or.inr ⟨by kernel_rfl, rfl⟩) hHeld ?_
            try simp only [Act.put, List.setIfInBounds_toArray, List.set_cons_zero, List.set_cons_succ]
            refine takeL (i := 34) (v := undef) rfl (by kernel_rfl) (by kernel_rfl) (by kernel_rfl) (fun _ _ _ h => h) (Or.inr ⟨by kernel_rfl, rfl⟩) hHeld ?_
            try simp only [Act.put, List.setIfInBounds_toArray, List.set_cons_zero, List.set_cons_succ]
            refine takeL (i := 35) (v := undef) rfl (by kernel_rfl) (by kernel_rfl) (by kernel_rfl) (fun _ _ _ h => h) (Or.inr ⟨by kernel_rfl, rfl⟩) hHeld ?_
            try simp only [Act.put, List.setIfInBounds_toArray, List.set_cons_zero, List.set_cons_succ]
            refine takeL (i := 36) (v := undef) rfl (by kernel_rfl) (by kernel_rfl) (by kernel_rfl) (fun _ _ _ h => h) (Or.inr ⟨by kernel_rfl, rfl⟩) hHeld ?_
            try simp only [Act.put, List.setIfInBounds_toArray, List.set_cons_zero, List.set_cons_succ]
            refine takeL (i := 37) (v := undef) rfl (by kernel_rfl) (by kernel_rfl) (by kernel_rfl) (fun _ _ _ h => h) (Or.inr ⟨by kernel_rfl, rfl⟩) hHeld ?_
            try simp only [Act.put, List.setIfInBounds_toArray, List.set_cons_zero, List.set_cons_succ]
            refine takeL (i := 38) (v := undef) rfl (by kernel_rfl) (by kernel_rfl) (by kernel_rfl) (fun _ _ _ h => h) (Or.inr ⟨by kernel_rfl, rfl⟩) hHeld ?_
            try simp only [Act.put, List.setIfInBounds_toArray, List.set_cons_zero, List.set_cons_succ]
            refine takeL (i := 39) (v := undef) rfl (by kernel_rfl) (by kernel_rfl) (by kernel_rfl) (fun _ _ _ h => h) (Or.inr ⟨by kernel_rfl, rfl⟩) hHeld ?_
            try simp only [Act.put, List.setIfInBounds_toArray, List.set_cons_zero, List.set_cons_succ]
            refine takeL (i := 40) (v := undef) rfl (by kernel_rfl) (by kernel_rfl) (by kernel_rfl) (fun _ _ _ h => h) (Or.inr ⟨by kernel_rfl, rfl⟩) hHeld ?_
            try simp only [Act.put, List.setIfInBounds_toArray, List.set_cons_zero, List.set_cons_succ]
            refine takeL (i := 41) (v := .bool true) rfl (by kernel_rfl) (by kernel_rfl) (by kernel_rfl) (fun _ _ _ h => h) (Or.inl ⟨by kernel_rfl, ?_⟩) hHeld ?_
            · rintro w' ⟨d0, d1, d2, d3⟩; go_simp; try rfl
            try simp only [Act.put, List.setIfInBounds_toArray, List.set_cons_zero, List.set_cons_succ]
            refine takeL (i := 42) (v := .bool true) rfl (by kernel_rfl) (by kernel_rfl) (by kernel_rfl) (fun _ _ _ h => h) (Or.inl ⟨by rfl, ?_⟩) hHeld ?_
            · rintro w' ⟨d0, d1, d2, d3⟩; go_simp; try rfl
            try simp only [Act.put, List.setIfInBounds_toArray, List.set_cons_zero, List.set_cons_succ]
            refine wpAnyH_done (by kernel_rfl) ?_ _
            clear hHeld
            go_wp2
            go_roundg (i - (j + 1))
            case measure => omega
            case rel => exact ⟨j + 1, by omega, rfl, by go_num, HBQ, HLE2⟩
          · have hbl : Op.bytesLess KY.toList KX.toList = false := by rw [← HKX.out, ← HKY.out, Lib.toList_data, Lib.toList_data, bl_ltS]; exact Bool.eq_false_iff.2 hL
            by_cases hE : y.path = x.path
            · have hbq : (KY.toList == KX.toList) = true := by rw [← HKX.out, ← HKY.out, hE]; simp
              by_cases hS : y.stage ≤ x.stage
              · have hsb : decide (y.stage ≤ x.stage) = true := by simpa using hS
                have HLE2 : Hid (∀ k, k < j + 1 → leK (L.getD k dY) x) := hid (fun k hk => by
                  by_cases e : k = j
                  · subst e; rw [HY.out]; exact .inr ⟨hE, hS⟩
                  · exact HLE.out k (by omega))
                clear hL hE
                refine takeL (i := 0) (v := ?_) rfl (by kernel_rfl) (by kernel_rfl) (by kernel_rfl) (fun _ _ _ h => h) (Or.inl ⟨by rfl, ?_⟩) hHeld ?_
                rotate_left
                · rintro w' ⟨d0, d1, d2, d3⟩; go_simp; rfl
                try simp only [Act.put, List.setIfInBounds_toArray, List.set_cons_zero, List.set_cons_succ]
                refine takeL (i := 1) (v := ?_) rfl (by kernel_rfl) (by kernel_rfl) (by kernel_rfl) (fun _ _ _ h => h) (Or.inl ⟨by rfl, ?_⟩) hHeld ?_
                rotate_left
                · rintro w' ⟨d0, d1, d2, d3⟩; go_simp; rfl
                try simp only [Act.put, List.setIfInBounds_toArray, List.set_cons_zero, List.set_cons_succ]
                refine takeL (i := 2) (v := ?_) rfl (by kernel_rfl) (by kernel_rfl) (by kernel_rfl) (fun _ _ _ h => h) (Or.inl ⟨by rfl, ?_⟩) hHeld ?_
                rotate_left
                · rintro w' ⟨d0, d1, d2, d3⟩; go_simp; rfl
                try simp only [Act.put, List.setIfInBounds_toArray, List.set_cons_zero, List.set_cons_succ]
                refine takeL (i := 3) (v := .bool true) rfl (by kernel_rfl) (by kernel_rfl) (by kernel_rfl) (fun _ _ _ h => h) (Or.inl ⟨by rfl, ?_⟩) hHeld ?_
                · rintro w' ⟨d0, d1, d2, d3⟩; go_simp; try rfl
                try simp only [Act.put, List.setIfInBounds_toArray, List.set_cons_zero, List.set_cons_succ]
                refine takeL (i := 4) (v := ?_) rfl (by kernel_rfl) (by kernel_rfl) (by kernel_rfl) (fun _ _ _ h => h) (Or.inl ⟨by rfl, ?_⟩) hHeld ?_
                rotate_left
                · rintro w' ⟨d0, d1, d2, d3⟩; go_simp; rfl
                try simp only [Act.put, List.setIfInBounds_toArray, List.set_cons_zero, List.set_cons_succ]
                refine takeL (i := 5) (v := ?_) rfl (by kernel_rfl) (by kernel_rfl) (by kernel_rfl) (fun _ _ _ h => h) (Or.inl ⟨by kernel_rfl, ?_⟩) hHeld ?_
                rotate_left
                · rintro w' ⟨d0, d1, d2, d3⟩; go_simp; rfl
                try simp only [Act.put, List.setIfInBounds_toArray, List.set_cons_zero, List.set_cons_succ]
                refine takeL (i := 6) (v := ?_) rfl (by kernel_rfl) (by kernel_rfl) (by kernel_rfl) (fun _ _ _ h => h) (Or.inl ⟨by kernel_rfl, ?_⟩) hHeld ?_
                rotate_left
                · rintro w' ⟨d0, d1, d2, d3⟩; go_simp; rfl
                try simp only [Act.put, List.setIfInBounds_toArray, List.set_cons_zero, List.set_cons_succ]
                refine takeL (i := 7) (v := ?_) rfl (by kernel_rfl) (by kernel_rfl) (by kernel_rfl) (fun _ _ _ h => h) (Or.inl ⟨by kernel_rfl, ?_⟩) hHeld ?_
                rotate_left
                · rintro w' ⟨d0, d1, d2, d3⟩; go_simp; rfl
                try simp only [Act.put, List.setIfInBounds_toArray, List.set_cons_zero, List.set_cons_succ]
                refine takeL (i := 8) (v := ?_) rfl (by kernel_rfl) (by kernel_rfl) (by kernel_rfl) (fun _ _ _ h => h) (Or.inl ⟨by kernel_rfl, ?_⟩) hHeld ?_
                rotate_left
                · rintro w' ⟨d0, d1, d2, d3⟩; go_simp; rfl
                try simp only [Act.put, List.setIfInBounds_toArray, List.set_cons_zero, List.set_cons_succ]
                refine takeL (i := 9) (v := ?_) rfl (by kernel_rfl) (by kernel_rfl) (by kernel_rfl) (fun _ _ _ h => h) (Or.inl ⟨by kernel_rfl, ?_⟩) hHeld ?_
                rotate_left
                · rintro w' ⟨d0, d1, d2, d3⟩; go_simp; rfl
                try simp only [Act.put, List.setIfInBounds_toArray, List.set_cons_zero, List.set_cons_succ]
                refine takeL (i := 10) (v := ?_) rfl (by kernel_rfl) (by kernel_rfl) (by kernel_rfl) (fun _ _ _ h => h) (Or.inl ⟨by kernel_rfl, ?_⟩) hHeld ?_
                rotate_left
                · rintro w' ⟨d0, d1, d2, d3⟩; go_simp; rfl
                try simp only [Act.put, List.setIfInBounds_toArray, List.set_cons_zero, List.set_cons_succ]
                refine takeL (i := 11) (v := ?_) rfl (by kernel_rfl) (by kernel_rfl) (by kernel_rfl) (fun _ _ _ h => h) (Or.inl ⟨by kernel_rfl, ?_⟩) hHeld ?_
                rotate_left
                · rintro w' ⟨d0, d1, d2, d3⟩; go_simp; rfl
                try simp only [Act.put, List.setIfInBounds_toArray, List.set_cons_zero, List.set_cons_succ]
                refine takeL (i := 12) (v := ?_) rfl (by kernel_rfl) (by kernel_rfl) (by kernel_rfl) (fun _ _ _ h => h) (Or.inl ⟨by kernel_rfl, ?_⟩) hHeld ?_
                rotate_left
                · rintro w' ⟨d0, d1, d2, d3⟩; go_simp; rfl
                try simp only [Act.put, List.setIfInBounds_toArray, List.set_cons_zero, List.set_cons_succ]
                refine takeL (i := 13) (v := ?_) rfl (by kernel_rfl) (by kernel_rfl) (by kernel_rfl) (fun _ _ _ h => h) (Or.inl ⟨by kernel_rfl, ?_⟩) hHeld ?_
                rotate_left
                · rintro w' ⟨d0, d1, d2, d3⟩; go_simp; rfl
                try simp only [Act.put, List.setIfInBounds_toArray, List.set_cons_zero, List.set_cons_succ]
                refine takeL (i := 14) (v := ?_) rfl (by kernel_rfl) (by kernel_rfl) (by kernel_rfl) (fun _ _ _ h => h) (Or.inl ⟨by kernel_rfl, ?_⟩) hHeld ?_
                rotate_left
                · rintro w' ⟨d0, d1, d2, d3⟩; go_simp; rfl
                try simp only [Act.put, List.setIfInBounds_toArray, List.set_cons_zero, List.set_cons_succ]
                refine takeL (i := 15) (v := .bool false) rfl (by kernel_rfl) (by kernel_rfl) (by kernel_rfl) (fun _ _ _ h => h) (Or.inl ⟨by kernel_rfl, ?_⟩) hHeld ?_
                · rintro w' ⟨d0, d1, d2, d3⟩; go_simp; try rfl
                try simp only [Act.put, List.setIfInBounds_toArray, List.set_cons_zero, List.set_cons_succ]
                refine takeL (i := 16) (v := ?_) rfl (by kernel_rfl) (by kernel_rfl) (by kernel_rfl) (fun _ _ _ h => h) (Or.inl ⟨by kernel_rfl, ?_⟩) hHeld ?_
                rotate_left
                · rintro w' ⟨d0, d1, d2, d3⟩; go_simp; rfl
                try simp only [Act.put, List.setIfInBounds_toArray, List.set_cons_zero, List.set_cons_succ]
                refine takeL (i := 17) (v := ?_) rfl (by kernel_rfl) (by kernel_rfl) (by kernel_rfl) (fun _ _ _ h => h) (Or.inl ⟨by kernel_rfl, ?_⟩) hHeld ?_
                rotate_left
                · rintro w' ⟨d0, d1, d2, d3⟩; go_simp; rfl
                try simp only [Act.put, List.setIfInBounds_toArray, List.set_cons_zero, List.set_cons_succ]
                refine takeL (i := 18) (v := ?_) rfl (by kernel_rfl) (by kernel_rfl) (by kernel_rfl) (fun _ _ _ h => h) (Or.inl ⟨by kernel_rfl, ?_⟩) hHeld ?_
                rotate_left
                · rintro w' ⟨d0, d1, d2, d3⟩; go_simp; rfl
                try simp only [Act.put, List.setIfInBounds_toArray, List.set_cons_zero, List.set_cons_succ]
                refine takeL (i := 19) (v := ?_) rfl (by kernel_rfl) (by kernel_rfl) (by kernel_rfl) (fun _ _ _ h => h) (Or.inl ⟨by kernel_rfl, ?_⟩) hHeld ?_
                rotate_left
                · rintro w' ⟨d0, d1, d2, d3⟩; go_simp; rfl
                try simp only [Act.put, List.setIfInBounds_toArray, List.set_cons_zero, List.set_cons_succ]
                refine takeL (i := 20) (v := ?_) rfl (by kernel_rfl) (by kernel_rfl) (by kernel_rfl) (fun _ _ _ h => h) (Or.inl ⟨by kernel_rfl, ?_⟩) hHeld ?_
                rotate_left
                · rintro w' ⟨d0, d1, d2, d3⟩; go_simp; rfl
                try simp only [Act.put, List.setIfInBounds_toArray, List.set_cons_zero, List.set_cons_succ]
                refine takeL (i := 21) (v := ?_) rfl (by kernel_rfl) (by kernel_rfl) (by kernel_rfl) (fun _ _ _ h => h) (Or.inl ⟨by kernel_rfl, ?_⟩) hHeld ?_
                rotate_left
                · rintro w' ⟨d0, d1, d2, d3⟩; go_simp; rfl
                try simp only [Act.put, List.setIfInBounds_toArray, List.set_cons_zero, List.set_cons_succ]
                refine takeL (i := 22) (v := ?_) rfl (by kernel_rfl) (by kernel_rfl) (by kernel_rfl) (fun _ _ _ h => h) (Or.inl ⟨by kernel_rfl, ?_⟩) hHeld ?_
                rotate_left
                · rintro w' ⟨d0, d1, d2, d3⟩; go_simp; rfl
                try simp only [Act.put, List.setIfInBounds_toArray, List.set_cons_zero, List.set_cons_succ]
                refine takeL (i := 23) (v := ?_) rfl (by kernel_rfl) (by kernel_rfl) (by kernel_rfl) (fun _ _ _ h => h) (Or.inl ⟨by kernel_rfl, ?_⟩) hHeld ?_
                rotate_left
                · rintro w' ⟨d0, d1, d2, d3⟩; go_simp; rfl
                try simp only [Act.put, List.setIfInBounds_toArray, List.set_cons_zero, List.set_cons_succ]
                refine takeL (i := 24) (v := ?_) rfl (by kernel_rfl) (by kernel_rfl) (by kernel_rfl) (fun _ _ _ h => h) (Or.inl ⟨by kernel_rfl, ?_⟩) hHeld ?_
                rotate_left
                · rintro w' ⟨d0, d1, d2, d3⟩; go_simp; rfl
                try simp only [Act.put, List.setIfInBounds_toArray, List.set_cons_zero, List.set_cons_succ]
                refine takeL (i := 25) (v := ?_) rfl (by kernel_rfl) (by kernel_rfl) (by kernel_rfl) (fun _ _ _ h => h) (Or.inl ⟨by kernel_rfl, ?_⟩) hHeld ?_
                rotate_left
                · rintro w' ⟨d0, d1, d2, d3⟩; go_simp; rfl
                try simp only [Act.put, List.setIfInBounds_toArray, List.set_cons_zero, List.set_cons_succ]
                refine takeL (i := 26) (v := ?_) rfl (by kernel_rfl) (by kernel_rfl) (by kernel_rfl) (fun _ _ _ h => h) (Or.inl ⟨by kernel_rfl, ?_⟩) hHeld ?_
                rotate_left
                · rintro w' ⟨d0, d1, d2, d3⟩; go_simp; rfl
                try simp only [Act.put, List.setIfInBounds_toArray, List.set_cons_zero, List.set_cons_succ]
                refine takeL (i := 27) (v := .bool true) rfl (by kernel_rfl) (by kernel_rfl) (by kernel_rfl) (fun _ _ _ h => h) (Or.inl ⟨by kernel_rfl, ?_⟩) hHeld ?_
                · rintro w' ⟨d0, d1, d2, d3⟩; go_simp; try rfl
                try simp only [Act.put, List.setIfInBounds_toArray, List.set_cons_zero, List.set_cons_succ]
                refine takeL (i := 28) (v := ?_) rfl (by kernel_rfl) (by kernel_rfl) (by kernel_rfl) (fun _ _ _ h => h) (Or.inl ⟨by kernel_rfl, ?_⟩) hHeld ?_
                rotate_left
                · rintro w' ⟨d0, d1, d2, d3⟩; go_simp; rfl
                try simp only [Act.put, List.setIfInBounds_toArray, List.set_cons_zero, List.set_cons_succ]
                refine takeL (i := 29) (v := ?_) rfl (by kernel_rfl) (by kernel_rfl) (by kernel_rfl) (fun _ _ _ h => h) (Or.inl ⟨by kernel_rfl, ?_⟩) hHeld ?_
                rotate_left
                · rintro w' ⟨d0, d1, d2, d3⟩; go_simp; rfl
                try simp only [Act.put, List.setIfInBounds_toArray, List.set_cons_zero, List.set_cons_succ]
                refine takeL (i := 30) (v := ?_) rfl (by kernel_rfl) (by kernel_rfl) (by kernel_rfl) (fun _ _ _ h => h) (Or.inl ⟨by kernel_rfl, ?_⟩) hHeld ?_
                rotate_left
                · rintro w' ⟨d0, d1, d2, d3⟩; go_simp; rfl
                try simp only [Act.put, List.setIfInBounds_toArray, List.set_cons_zero, List.set_cons_succ]
                refine takeL (i := 31) (v := ?_) rfl (by kernel_rfl) (by kernel_rfl) (by kernel_rfl) (fun _ _ _ h => h) (Or.inl ⟨by kernel_rfl, ?_⟩) hHeld ?_
                rotate_left
                · rintro w' ⟨d0, d1, d2, d3⟩; go_simp; rfl
                try simp only [Act.put, List.setIfInBounds_toArray, List.set_cons_zero, List.set_cons_succ]
                refine takeL (i := 32) (v := ?_) rfl (by kernel_rfl) (by kernel_rfl) (by kernel_rfl) (fun _ _ _ h => h) (Or.inl ⟨by kernel_rfl, ?_⟩) hHeld ?_
                rotate_left
                · rintro w' ⟨d0, d1, d2, d3⟩; go_simp; rfl
                try simp only [Act.put, List.setIfInBounds_toArray, List.set_cons_zero, List.set_cons_succ]
                refine takeL (i := 33) (v := ?_) rfl (by kernel_rfl) (by kernel_rfl) (by kernel_rfl) (fun _ _ _ h => h) (Or.inl ⟨by kernel_rfl, ?_⟩) hHeld ?_
                rotate_left
                · rintro w' ⟨d0, d1, d2, d3⟩; go_simp; rfl
                try simp only [Act.put, List.setIfInBounds_toArray, List.set_cons_zero, List.set_cons_succ]
                refine takeL (i := 34) (v := ?_) rfl (by kernel_rfl) (by kernel_rfl) (by kernel_rfl) (fun _ _ _ h => h) (Or.inl ⟨by kernel_rfl, ?_⟩) hHeld ?_
                rotate_left
                · rintro w' ⟨d0, d1, d2, d3⟩; go_simp; rfl
                try simp only [Act.put, List.setIfInBounds_toArray, List.set_cons_zero, List.set_cons_succ]
                refine takeL (i := 35) (v := ?_) rfl (by kernel_rfl) (by kernel_rfl) (by kernel_rfl) (fun _ _ _ h => h) (Or.inl ⟨by kernel_rfl, ?_⟩) hHeld ?_
                rotate_left
                · rintro w' ⟨d0, d1, d2, d3⟩; go_simp; rfl
                try simp only [Act.put, List.setIfInBounds_toArray, List.set_cons_zero, List.set_cons_succ]
                refine takeL (i := 36) (v := ?_) rfl (by kernel_rfl) (by kernel_rfl) (by kernel_rfl) (fun _ _ _ h => h) (Or.inl ⟨by kernel_rfl, ?_⟩) hHeld ?_
                rotate_left
                · rintro w' ⟨d0, d1, d2, d3⟩; go_simp; rfl
                try simp only [Act.put, List.setIfInBounds_toArray, List.set_cons_zero, List.set_cons_succ]
                refine takeL (i := 37) (v := ?_) rfl (by kernel_rfl) (by kernel_rfl) (by kernel_rfl) (fun _ _ _ h => h) (Or.inl ⟨by kernel_rfl, ?_⟩) hHeld ?_
                rotate_left
                · rintro w' ⟨d0, d1, d2, d3⟩; go_simp; rfl
                try simp only [Act.put, List.setIfInBounds_toArray, List.set_cons_zero, List.set_cons_succ]
                refine takeL (i := 38) (v := ?_) rfl (by kernel_rfl) (by kernel_rfl) (by kernel_rfl) (fun _ _ _ h => h) (Or.inl ⟨by kernel_rfl, ?_⟩) hHeld ?_
                rotate_left
                · rintro w' ⟨d0, d1, d2, d3⟩; go_simp; rfl
                try simp only [Act.put, List.setIfInBounds_toArray, List.set_cons_zero, List.set_cons_succ]
                refine takeL (i := 39) (v := .bool true) rfl (by kernel_rfl) (by kernel_rfl) (by kernel_rfl) (fun _ _ _ h => h) (Or.inl ⟨by kernel_rfl, ?_⟩) hHeld ?_
                · rintro w' ⟨d0, d1, d2, d3⟩; go_simp; try rfl
                try simp only [Act.put, List.setIfInBounds_toArray, List.set_cons_zero, List.set_cons_succ]
                refine takeL (i := 40) (v := .bool true) rfl (by kernel_rfl) (by kernel_rfl) (by kernel_rfl) (fun _ _ _ h => h) (Or.inl ⟨by kernel_rfl, ?_⟩) hHeld ?_
                · rintro w' ⟨d0, d1, d2, d3⟩; go_simp; try rfl
                try simp only [Act.put, List.setIfInBounds_toArray, List.set_cons_zero, List.set_cons_succ]
                refine takeL (i := 41) (v := .bool true) rfl (by kernel_rfl) (by kernel_rfl) (by kernel_rfl) (fun _ _ _ h => h) (Or.inl ⟨by kernel_rfl, ?_⟩) hHeld ?_
                · rintro w' ⟨d0, d1, d2, d3⟩; go_simp; try rfl
                try simp only [Act.put, List.setIfInBounds_toArray, List.set_cons_zero, List.set_cons_succ]
                refine takeL (i := 42) (v := .bool true) rfl (by kernel_rfl) (by kernel_rfl) (by kernel_rfl) (fun _ _ _ h => h) (Or.inl ⟨by rfl, ?_⟩) hHeld ?_
                · rintro w' ⟨d0, d1, d2, d3⟩; go_simp; try rfl
                try simp only [Act.put, List.setIfInBounds_toArray, List.set_cons_zero, List.set_cons_succ]
                refine wpAnyH_done (by kernel_rfl) ?_ _
                clear hHeld
                go_wp2
                go_roundg (i - (j + 1))
                case measure => omega
                case rel => exact ⟨j + 1, by omega, rfl, by go_num, HBQ, HLE2⟩
              · have hsb : decide (y.stage ≤ x.stage) = false := by simpa using hS
                have HST : Hid (j = i ∨ ¬ leK (L.getD j dY) x) := hid (.inr (by rw [HY.out]; rintro (h | h); exact hL h; exact hS h.2))
                clear hL hE
                refine takeL (i := 0) (v := ?_) rfl (by kernel_rfl) (by kernel_rfl) (by kernel_rfl) (fun _ _ _ h => h) (Or.inl ⟨by rfl, ?_⟩) hHeld ?_
                rotate_left
                · rintro w' ⟨d0, d1, d2, d3⟩; go_simp; rfl
                try simp only [Act.put, List.setIfInBounds_toArray, List.set_cons_zero, List.set_cons_succ]
                refine takeL (i := 1) (v := ?_) rfl (by kernel_rfl) (by kernel_rfl) (by kernel_rfl) (fun _ _ _ h => h) (Or.inl ⟨by rfl, ?_⟩) hHeld ?_
                rotate_left
                · rintro w' ⟨d0, d1, d2, d3⟩; go_simp; rfl
                try simp only [Act.put, List.setIfInBounds_toArray, List.set_cons_zero, List.set_cons_succ]
                refine takeL (i := 2) (v := ?_) rfl (by kernel_rfl) (by kernel_rfl) (by kernel_rfl) (fun _ _ _ h => h) (Or.inl ⟨by rfl, ?_⟩) hHeld ?_
                rotate_left
                · rintro w' ⟨d0, d1, d2, d3⟩; go_simp; rfl
                try simp only [Act.put, List.setIfInBounds_toArray, List.set_cons_zero, List.set_cons_succ]
                refine takeL (i := 3) (v := .bool true) rfl (by kernel_rfl) (by kernel_rfl) (by kernel_rfl) (fun _ _ _ h => h) (Or.inl ⟨by rfl, ?_⟩) hHeld ?_
                · rintro w' ⟨d0, d1, d2, d3⟩; go_simp; try rfl
                try simp only [Act.put, List.setIfInBounds_toArray, List.set_cons_zero, List.set_cons_succ]
                refine takeL (i := 4) (v := ?_) rfl (by kernel_rfl) (by kernel_rfl) (by kernel_rfl) (fun _ _ _ h => h) (Or.inl ⟨by rfl, ?_⟩) hHeld ?_
                rotate_left
                · rintro w' ⟨d0, d1, d2, d3⟩; go_simp; rfl
                try simp only [Act.put, List.setIfInBounds_toArray, List.set_cons_zero, List.set_cons_succ]
                refine takeL (i := 5) (v := ?_) rfl (by kernel_rfl) (by kernel_rfl) (by kernel_rfl) (fun _ _ _ h => h) (Or.inl ⟨by kernel_rfl, ?_⟩) hHeld ?_
                rotate_left
                · rintro w' ⟨d0, d1, d2, d3⟩; go_simp; rfl
                try simp only [Act.put, List.setIfInBounds_toArray, List.set_cons_zero, List.set_cons_succ]
                refine takeL (i := 6) (v := ?_) rfl (by kernel_rfl) (by kernel_rfl) (by kernel_rfl) (fun _ _ _ h => h) (Or.inl ⟨by kernel_rfl, ?_⟩) hHeld ?_
                rotate_left
                · rintro w' ⟨d0, d1, d2, d3⟩; go_simp; rfl
                try simp only [Act.put, List.setIfInBounds_toArray, List.set_cons_zero, List.set_cons_succ]
                refine takeL (i := 7) (v := ?_) rfl (by kernel_rfl) (by kernel_rfl) (by kernel_rfl) (fun _ _ _ h => h) (Or.inl ⟨by kernel_rfl, ?_⟩) hHeld ?_
                rotate_left
                · rintro w' ⟨d0, d1, d2, d3⟩; go_simp; rfl
                try simp only [Act.put, List.setIfInBounds_toArray, List.set_cons_zero, List.set_cons_succ]
                refine takeL (i := 8) (v := ?_) rfl (by kernel_rfl) (by kernel_rfl) (by kernel_rfl) (fun _ _ _ h => h) (Or.inl ⟨by kernel_rfl, ?_⟩) hHeld ?_
                rotate_left
                · rintro w' ⟨d0, d1, d2, d3⟩; go_simp; rfl
                try simp only [Act.put, List.setIfInBounds_toArray, List.set_cons_zero, List.set_cons_succ]
                refine takeL (i := 9) (v := ?_) rfl (by kernel_rfl) (by kernel_rfl) (by kernel_rfl) (fun _ _ _ h => h) (Or.inl ⟨by kernel_rfl, ?_⟩) hHeld ?_
                rotate_left
                · rintro w' ⟨d0, d1, d2, d3⟩; go_simp; rfl
                try simp only [Act.put, List.setIfInBounds_toArray, List.set_cons_zero, List.set_cons_succ]
                refine takeL (i := 10) (v := ?_) rfl (by kernel_rfl) (by kernel_rfl) (by kernel_rfl) (fun _ _ _ h => h) (Or.inl ⟨by kernel_rfl, ?_⟩) hHeld ?_
                rotate_left
                · rintro w' ⟨d0, d1, d2, d3⟩; go_simp; rfl
                try simp only [Act.put, List.setIfInBounds_toArray, List.set_cons_zero, List.set_cons_succ]
                refine takeL (i := 11) (v := ?_) rfl (by kernel_rfl) (by kernel_rfl) (by kernel_rfl) (fun _ _ _ h => h) (Or.inl ⟨by kernel_rfl, ?_⟩) hHeld ?_
                rotate_left
                · rintro w' ⟨d0, d1, d2, d3⟩; go_simp; rfl
                try simp only [Act.put, List.setIfInBounds_toArray, List.set_cons_zero, List.set_cons_succ]
                refine takeL (i := 12) (v := ?_) rfl (by kernel_rfl) (by kernel_rfl) (by kernel_rfl) (fun _ _ _ h => h) (Or.inl ⟨by kernel_rfl, ?_⟩) hHeld ?_
                rotate_left
                · rintro w' ⟨d0, d1, d2, d3⟩; go_simp; rfl
                try simp only [Act.put, List.setIfInBounds_toArray, List.set_cons_zero, List.set_cons_succ]
                refine takeL (i := 13) (v := ?_) rfl (by kernel_rfl) (by kernel_rfl) (by kernel_rfl) (fun _ _ _ h => h) (Or.inl ⟨by kernel_rfl, ?_⟩) hHeld ?_
                rotate_left
                · rintro w' ⟨d0, d1, d2, d3⟩; go_simp; rfl
                try simp only [Act.put, List.setIfInBounds_toArray, List.set_cons_zero, List.set_cons_succ]
                refine takeL (i := 14) (v := ?_) rfl (by kernel_rfl) (by kernel_rfl) (by kernel_rfl) (fun _ _ _ h => h) (Or.inl ⟨by kernel_rfl, ?_⟩) hHeld ?_
                rotate_left
                · rintro w' ⟨d0, d1, d2, d3⟩; go_simp; rfl
                try simp only [Act.put, List.setIfInBounds_toArray, List.set_cons_zero, List.set_cons_succ]
                refine takeL (i := 15) (v := .bool false) rfl (by kernel_rfl) (by kernel_rfl) (by kernel_rfl) (fun _ _ _ h => h) (Or.inl ⟨by kernel_rfl, ?_⟩) hHeld ?_
                · rintro w' ⟨d0, d1, d2, d3⟩; go_simp; try rfl
                try simp only [Act.put, List.setIfInBounds_toArray, List.set_cons_zero, List.set_cons_succ]
                refine takeL (i := 16) (v := ?_) rfl (by kernel_rfl) (by kernel_rfl) (by kernel_rfl) (fun _ _ _ h => h) (Or.inl ⟨by kernel_rfl, ?_⟩) hHeld ?_
                rotate_left
                · rintro w' ⟨d0, d1, d2, d3⟩; go_simp; rfl
                try simp only [Act.put, List.setIfInBounds_toArray, List.set_cons_zero, List.set_cons_succ]
                refine takeL (i := 17) (v := ?_) rfl (by kernel_rfl) (by kernel_rfl) (by kernel_rfl) (fun _ _ _ h => h) (Or.inl ⟨by kernel_rfl, ?_⟩) hHeld ?_
                rotate_left
                · rintro w' ⟨d0, d1, d2, d3⟩; go_simp; rfl
                try simp only [Act.put, List.setIfInBounds_toArray, List.set_cons_zero, List.set_cons_succ]
                refine takeL (i := 18) (v := ?_) rfl (by kernel_rfl) (by kernel_rfl) (by kernel_rfl) (fun _ _ _ h => h) (Or.inl ⟨by kernel_rfl, ?_⟩) hHeld ?_
                rotate_left
                · rintro w' ⟨d0, d1, d2, d3⟩; go_simp; rfl
                try simp only [Act.put, List.setIfInBounds_toArray, List.set_cons_zero, List.set_cons_succ]
                refine takeL (i := 19) (v := ?_) rfl (by kernel_rfl) (by kernel_rfl) (by kernel_rfl) (fun _ _ _ h => h) (Or.inl ⟨by kernel_rfl, ?_⟩) hHeld ?_
                rotate_left
                · rintro w' ⟨d0, d1, d2, d3⟩; go_simp; rfl
                try simp only [Act.put, List.setIfInBounds_toArray, List.set_cons_zero, List.set_cons_succ]
                refine takeL (i := 20) (v := ?_) rfl (by kernel_rfl) (by kernel_rfl) (by kernel_rfl) (fun _ _ _ h => h) (Or.inl ⟨by kernel_rfl, ?_⟩) hHeld ?_
                rotate_left
                · rintro w' ⟨d0, d1, d2, d3⟩; go_simp; rfl
                try simp only [Act.put, List.setIfInBounds_toArray, List.set_cons_zero, List.set_cons_succ]
                refine takeL (i := 21) (v := ?_) rfl (by kernel_rfl) (by kernel_rfl) (by kernel_rfl) (fun _ _ _ h => h) (Or.inl ⟨by kernel_rfl, ?_⟩) hHeld ?_
                rotate_left
                · rintro w' ⟨d0, d1, d2, d3⟩; go_simp; rfl
                try simp only [Act.put, List.setIfInBounds_toArray, List.set_cons_zero, List.set_cons_succ]
                refine takeL (i := 22) (v := ?_) rfl (by kernel_rfl) (by kernel_rfl) (by kernel_rfl) (fun _ _ _ h => h) (Or.inl ⟨by kernel_rfl, ?_⟩) hHeld ?_
                rotate_left
                · rintro w' ⟨d0, d1, d2, d3⟩; go_simp; rfl
                try simp only [Act.put, List.setIfInBounds_toArray, List.set_cons_zero, List.set_cons_succ]
                refine takeL (i := 23) (v := ?_) rfl (by kernel_rfl) (by kernel_rfl) (by kernel_rfl) (fun _ _ _ h => h) (Or.inl ⟨by kernel_rfl, ?_⟩) hHeld ?_
                rotate_left
                · rintro w' ⟨d0, d1, d2, d3⟩; go_simp; rfl
                try simp only [Act.put, List.setIfInBounds_toArray, List.set_cons_zero, List.set_cons_succ]
                refine takeL (i := 24) (v := ?_) rfl (by kernel_rfl) (by kernel_rfl) (by kernel_rfl) (fun _ _ _ h => h) (Or.inl ⟨by kernel_rfl, ?_⟩) hHeld ?_
                rotate_left
                · rintro w' ⟨d0, d1, d2, d3⟩; go_simp; rfl
                try simp only [Act.put, List.setIfInBounds_toArray, List.set_cons_zero, List.set_cons_succ]
                refine takeL (i := 25) (v := ?_) rfl (by kernel_rfl) (by kernel_rfl) (by kernel_rfl) (fun _ _ _ h => h) (Or.inl ⟨by kernel_rfl, ?_⟩) hHeld ?_
                rotate_left
                · rintro w' ⟨d0, d1, d2, d3⟩; go_simp; rfl
                try simp only [Act.put, List.setIfInBounds_toArray, List.set_cons_zero, List.set_cons_succ]
                refine takeL (i := 26) (v := ?_) rfl (by kernel_rfl) (by kernel_rfl) (by kernel_rfl) (fun _ _ _ h => h) (Or.inl ⟨by kernel_rfl, ?_⟩) hHeld ?_
                rotate_left
                · rintro w' ⟨d0, d1, d2, d3⟩; go_simp; rfl
                try simp only [Act.put, List.setIfInBounds_toArray, List.set_cons_zero, List.set_cons_succ]
                refine takeL (i := 27) (v := .bool true) rfl (by kernel_rfl) (by kernel_rfl) (by kernel_rfl) (fun _ _ _ h => h) (Or.inl ⟨by kernel_rfl, ?_⟩) hHeld ?_
                · rintro w' ⟨d0, d1, d2, d3⟩; go_simp; try rfl
                try simp only [Act.put, List.setIfInBounds_toArray, List.set_cons_zero, List.set_cons_succ]
                refine takeL (i := 28) (v := ?_) rfl (by kernel_rfl) (by kernel_rfl) (by kernel_rfl) (fun _ _ _ h => h) (Or.inl ⟨by kernel_rfl, ?_⟩) hHeld ?_
                rotate_left
                · rintro w' ⟨d0, d1, d2, d3⟩; go_simp; rfl
                try simp only [Act.put, List.setIfInBounds_toArray, List.set_cons_zero, List.set_cons_succ]
                refine takeL (i := 29) (v := ?_) rfl (by kernel_rfl) (by kernel_rfl) (by kernel_rfl) (fun _ _ _ h => h) (Or.inl ⟨by kernel_rfl, ?_⟩) hHeld ?_
                rotate_left
                · rintro w' ⟨d0, d1, d2, d3⟩; go_simp; rfl
                try simp only [Act.put, List.setIfInBounds_toArray, List.set_cons_zero, List.set_cons_succ]
                refine takeL (i := 30) (v := ?_) rfl (by kernel_rfl) (by kernel_rfl) (by kernel_rfl) (fun _ _ _ h => h) (Or.inl ⟨by kernel_rfl, ?_⟩) hHeld ?_
                rotate_left
                · rintro w' ⟨d0, d1, d2, d3⟩; go_simp; rfl
                try simp only [Act.put, List.setIfInBounds_toArray, List.set_cons_zero, List.set_cons_succ]
                refine takeL (i := 31) (v := ?_) rfl (by kernel_rfl) (by kernel_rfl) (by kernel_rfl) (fun _ _ _ h => h) (Or.inl ⟨by kernel_rfl, ?_⟩) hHeld ?_
                rotate_left
                · rintro w' ⟨d0, d1, d2, d3⟩; go_simp; rfl
                try simp only [Act.put, List.setIfInBounds_toArray, List.set_cons_zero, List.set_cons_succ]
                refine takeL (i := 32) (v := ?_) rfl (by kernel_rfl) (by kernel_rfl) (by kernel_rfl) (fun _ _ _ h => h) (Or.inl ⟨by kernel_rfl, ?_⟩) hHeld ?_
                rotate_left
                · rintro w' ⟨d0, d1, d2, d3⟩; go_simp; rfl
                try simp only [Act.put, List.setIfInBounds_toArray, List.set_cons_zero, List.set_cons_succ]
                refine takeL (i := 33) (v := ?_) rfl (by kernel_rfl) (by kernel_rfl) (by kernel_rfl) (fun _ _ _ h => h) (Or.inl ⟨by kernel_rfl, ?_⟩) hHeld ?_
                rotate_left
                · rintro w' ⟨d0, d1, d2, d3⟩; go_simp; rfl
                try simp only [Act.put, List.setIfInBounds_toArray, List.set_cons_zero, List.set_cons_succ]
                refine takeL (i := 34) (v := ?_) rfl (by kernel_rfl) (by kernel_rfl) (by kernel_rfl) (fun _ _ _ h => h) (Or.inl ⟨by kernel_rfl, ?_⟩) hHeld ?_
                rotate_left
                · rintro w' ⟨d0, d1, d2, d3⟩; go_simp; rfl
                try simp only [Act.put, List.setIfInBounds_toArray, List.set_cons_zero, List.set_cons_succ]
                refine takeL (i := 35) (v := ?_) rfl (by kernel_rfl) (by kernel_rfl) (by kernel_rfl) (fun _ _ _ h => h) (Or.inl ⟨by kernel_rfl, ?_⟩) hHeld ?_
                rotate_left
                · rintro w' ⟨d0, d1, d2, d3⟩; go_simp; rfl
                try simp only [Act.put, List.setIfInBounds_toArray, List.set_cons_zero, List.set_cons_succ]
                refine takeL (i := 36) (v := ?_) rfl (by kernel_rfl) (by kernel_rfl) (by kernel_rfl) (fun _ _ _ h => h) (Or.inl ⟨by kernel_rfl, ?_⟩) hHeld ?_
                rotate_left
                · rintro w' ⟨d0, d1, d2, d3⟩; go_simp; rfl
                try simp only [Act.put, List.setIfInBounds_toArray, List.set_cons_zero, List.set_cons_succ]
                refine takeL (i := 37) (v := ?_) rfl (by kernel_rfl) (by kernel_rfl) (by kernel_rfl) (fun _ _ _ h => h) (Or.inl ⟨by kernel_rfl, ?_⟩) hHeld ?_
                rotate_left
                · rintro w' ⟨d0, d1, d2, d3⟩; go_simp; rfl
                try simp only [Act.put, List.setIfInBounds_toArray, List.set_cons_zero, List.set_cons_succ]
                refine takeL (i := 38) (v := ?_) rfl (by kernel_rfl) (by kernel_rfl) (by kernel_rfl) (fun _ _ _ h => h) (Or.inl ⟨by kernel_rfl, ?_⟩) hHeld ?_
                rotate_left
                · rintro w' ⟨d0, d1, d2, d3⟩; go_simp; rfl
                try simp only [Act.put, List.setIfInBounds_toArray, List.set_cons_zero, List.set_cons_succ]
                refine takeL (i := 39) (v := .bool false) rfl (by kernel_rfl) (by kernel_rfl) (by kernel_rfl) (fun _ _ _ h => h) (Or.inl ⟨by kernel_rfl, ?_⟩) hHeld ?_
                · rintro w' ⟨d0, d1, d2, d3⟩; go_simp; try rfl
                try simp only [Act.put, List.setIfInBounds_toArray, List.set_cons_zero, List.set_cons_succ]
                refine takeL (i := 40) (v := .bool false) rfl (by kernel_rfl) (by kernel_rfl) (by kernel_rfl) (fun _ _ _ h => h) (Or.inl ⟨by kernel_rfl, ?_⟩) hHeld ?_
                · rintro w' ⟨d0, d1, d2, d3⟩; go_simp; try rfl
                try simp only [Act.put, List.setIfInBounds_toArray, List.set_cons_zero, List.set_cons_succ]
                refine takeL (i := 41) (v := .bool false) rfl (by kernel_rfl) (by kernel_rfl) (by kernel_rfl) (fun _ _ _ h => h) (Or.inl ⟨by kernel_rfl, ?_⟩) hHeld ?_
                · rintro w' ⟨d0, d1, d2, d3⟩; go_simp; try rfl
                try simp only [Act.put, List.setIfInBounds_toArray, List.set_cons_zero, List.set_cons_succ]
                refine takeL (i := 42) (v := .bool false) rfl (by kernel_rfl) (by kernel_rfl) (by kernel_rfl) (fun _ _ _ h => h) (Or.inl ⟨by rfl, ?_⟩) hHeld ?_
                · rintro w' ⟨d0, d1, d2, d3⟩; go_simp; try rfl
                try simp only [Act.put, List.setIfInBounds_toArray, List.set_cons_zero, List.set_cons_succ]
                refine wpAnyH_done (by kernel_rfl) ?_ _
                clear hHeld
                obtain ⟨B2, HB2⟩ : ∃ B, Hid (u0.heap.size = B) := ⟨_, rfl⟩
                have hGB2 : G ≤ B2 := by rw [← HB2.out]; exact HBQ.out.le
                have HPQ : Hid (∀ W', Below B2 u0 W' → PY W' (some ⟨b1, off1, none⟩) vc L) := fun W' hW' => (HPV.out _ HBQ.out).below (by rw [HB2.out]; exact hW')
                have HPX : Hid (∀ W', Below B2 u0 W' → W'.rangeAt b (off + i * 24) R) := fun W' hW' => HRR.out W' (HBQ.out.below.trans (hW'.mono hGB2))
                have HNEW : Hid (insY x L = L.take j ++ x :: L.drop j) := hid (insY_at x L j (by rw [HLL.out]; exact hj) HLE.out (by rw [HLL.out]; exact HST.out))
                have HL1 : Hid ((L.take j).length = j) := hid (by rw [List.length_take, HLL.out]; omega)
                have HL2 : Hid ((L.drop j).length = i - j) := hid (by rw [List.length_drop, HLL.out])
                have HW1 : Hid (∀ y ∈ L.take j, (encY y).length = 24) := fun y hy => encY_len y (HLW.out y (List.mem_of_mem_take hy))
                have HW2 : Hid (∀ y ∈ L.drop j, (encY y).length = 24) := fun y hy => encY_len y (HLW.out y (List.mem_of_mem_drop hy))
                have hcapj : j ≤ vc := by have := (HPV.out _ HBQ.out).capl; rw [HLL.out] at this; omega
                have hsl1 : ∀ W', (Instr.slice 33 (.slice (some ⟨b1, off1, none⟩) i vc) none (some (.int .i64 j)) none).run Tryz.prog W' = .ok (.slice (some ⟨b1, off1, none⟩) j vc) W' := fun W' => slY_to (some ⟨b1, off1, none⟩) i vc j hcapj W'
                have hsl2 : ∀ W', (Instr.slice 33 (.slice (some ⟨b1, off1, none⟩) i vc) (some (.int .i64 j)) none none).run Tryz.prog W' = .ok (.slice (adX 24 (some ⟨b1, off1, none⟩) vc j) (i - j : Nat) (vc - j : Nat)) W' := fun W' => slY_from (some ⟨b1, off1, none⟩) i vc j hj W'
                obtain ⟨a3, HA3⟩ : ∃ a, Hid (adX 24 (some ⟨b1, off1, none⟩) vc j = a) := ⟨_, rfl⟩
                obtain ⟨c3, HC3⟩ : ∃ a, Hid (vc - j = a) := ⟨_, rfl⟩
                obtain ⟨n3, HN3⟩ : ∃ a, Hid (i - j = a) := ⟨_, rfl⟩
                have HP3 : Hid (∀ W', Below B2 u0 W' → PY W' a3 c3 (L.drop j)) := fun W' hW' => by rw [← HA3.out, ← HC3.out]; exact (HPQ.out W' hW').from j (by rw [HLL.out]; exact hj)
                simp only [HA3.out, HC3.out, HN3.out] at hsl2
                have HB0 : Hid (BY 48 u0 u0 B2 (.slice none 0 0) []) := hid (bx_nil 48 u0 B2 (by rw [HB2.out]; exact Nat.le_refl _))
                go_wp2_with (first
                  | (at_builtin; refine wpList_bx_sl (enc := encY) (d := dY) rfl _ _ 33 48 und33 info48z rfl (by decide) (by decide) encY_one rfl B2 _ _ rfl HB0.out (some ⟨b1, off1, none⟩) vc (L.take j) (by rw [HL1.out]; rfl) ((HPQ.out _ (Below.refl _ _)).take j) HW1.out (by rw [HL1.out]; simp; omega) ?_; intro v1 w1 hb1 hg1; have HBE1 : Hid (BY 48 u0 w1 B2 v1 ([] ++ L.take j)) := hb1; clear hb1 hg1; have RX : Hid (w1.rangeAt b (off + i * 24) R) := hid (HPX.out _ HBE1.out.below))
                  | refine wpList_load_mid rfl 48 _ rfl b (off + i * 24) rfl R _ RX.out Tryz.underlying48 rfl hi48 ?_
                  | refine wpList_bSY rfl 33 1 _ rfl (.agg R.toArray) _ rfl (by rw [← HR.out]; exact run_build33 x HX20.out _) ?_
                  | (at_builtin; refine wpList_bx_sl (enc := encY) (d := dY) rfl _ _ 33 48 und33 info48z rfl (by decide) (by decide) encY_one rfl B2 _ _ rfl (HBE1.out.alloc _) (some ⟨w1.heap.size, 0, none⟩) 1 [x] rfl (px_oneT w1 x 48) HX1.out (by simp only [List.nil_append, HL1.out, List.length_cons, List.length_nil]; omega) ?_; intro v2 w2 hb2 hg2; have HBE2 : Hid (BY 48 u0 w2 B2 v2 (([] ++ L.take j) ++ [x])) := hb2; clear hb2 hg2)
                  | (at_builtin; refine wpList_bx_sl (enc := encY) (d := dY) rfl _ _ 33 48 und33 info48z rfl (by decide) (by decide) encY_one rfl B2 _ _ rfl HBE2.out a3 c3 (L.drop j) (by rw [HL2.out, HN3.out]; rfl) (HP3.out _ HBE2.out.below) HW2.out (by simp only [List.nil_append, List.length_append, HL1.out, HL2.out, List.length_cons, List.length_nil]; omega) ?_; intro v3 w3 hb3 hg3; have HBE3 : Hid (BY 48 u0 w3 B2 v3 ((([] ++ L.take j) ++ [x]) ++ L.drop j)) := hb3; clear hb3 hg3)
                  | fail)
                go_roundg (n - (i + 1))
                case measure => omega
                case rel =>
                  refine ⟨i + 1, v3, rfl, by omega, rfl, by go_num, hid ?_⟩
                  have h3 := HBE3.out
                  rw [List.nil_append, List.append_assoc, List.singleton_append, ← HNEW.out, ← HL.out, ← HXX.out, ← srtY_snoc, ← take_snocG dY es i (by rw [HN.out]; exact hlt)] at h3
                  exact ⟨HBQ.out.below.trans (h3.below.mono hGB2), base_mono h3.own hGB2, Nat.le_trans HBQ.out.le (by rw [HB2.out]; exact h3.le)⟩
            · have hbq : (KY.toList == KX.toList) = false := bne_txt HKY.out HKX.out hE
              have HST : Hid (j = i ∨ ¬ leK (L.getD j dY) x) := hid (.inr (by rw [HY.out]; rintro (h | h); exact hL h; exact hE h.1))
              clear hL hE
              refine takeL (i := 0) (v := ?_) rfl (by kernel_rfl) (by kernel_rfl) (by kernel_rfl) (fun _ _ _ h => h) (Or.inl ⟨by rfl, ?_⟩) hHeld ?_
              rotate_left
              · rintro w' ⟨d0, d1, d2, d3⟩; go_simp; rfl
              try simp only [Act.put, List.setIfInBounds_toArray, List.set_cons_zero, List.set_cons_succ]
              refine takeL (i := 1) (v := ?_) rfl (by kernel_rfl) (by kernel_rfl) (by kernel_rfl) (fun _ _ _ h => h) (Or.inl ⟨by rfl, ?_⟩) hHeld ?_
              rotate_left
              · rintro w' ⟨d0, d1, d2, d3⟩; go_simp; rfl
              try simp only [Act.put, List.setIfInBounds_toArray, List.set_cons_zero, List.set_cons_succ]
              refine takeL (i := 2) (v := ?_) rfl (by kernel_rfl) (by kernel_rfl) (by kernel_rfl) (fun _ _ _ h => h) (Or.inl ⟨by rfl, ?_⟩) hHeld ?_
              rotate_left
              · rintro w' ⟨d0, d1, d2, d3⟩; go_simp; rfl
              try simp only [Act.put, List.setIfInBounds_toArray, List.set_cons_zero, List.set_cons_succ]
              refine takeL (i := 3) (v := .bool true) rfl (by kernel_rfl) (by kernel_rfl) (by kernel_rfl) (fun _ _ _ h => h) (Or.inl ⟨by rfl, ?_⟩) hHeld ?_
              · rintro w' ⟨d0, d1, d2, d3⟩; go_simp; try rfl
              try simp only [Act.put, List.setIfInBounds_toArray, List.set_cons_zero, List.set_cons_succ]
              refine takeL (i := 4) (v := ?_) rfl (by kernel_rfl) (by kernel_rfl) (by kernel_rfl) (fun _ _ _ h => h) (Or.inl ⟨by rfl, ?_⟩) hHeld ?_
              rotate_left
              · rintro w' ⟨d0, d1, d2, d3⟩; go_simp; rfl
              try simp only [Act.put, List.setIfInBounds_toArray, List.set_cons_zero, List.set_cons_succ]
              refine takeL (i := 5) (v := ?_) rfl (by kernel_rfl) (by kernel_rfl) (by kernel_rfl) (fun _ _ _ h => h) (Or.inl ⟨by kernel_rfl, ?_⟩) hHeld ?_
              rotate_left
              · rintro w' ⟨d0, d1, d2, d3⟩; go_simp; rfl
              try simp only [Act.put, List.setIfInBounds_toArray, List.set_cons_zero, List.set_cons_succ]
              refine takeL (i := 6) (v := ?_) rfl (by kernel_rfl) (by kernel_rfl) (by kernel_rfl) (fun _ _ _ h => h) (Or.inl ⟨by kernel_rfl, ?_⟩) hHeld ?_
              rotate_left
              · rintro w' ⟨d0, d1, d2, d3⟩; go_simp; rfl
              try simp only [Act.put, List.setIfInBounds_toArray, List.set_cons_zero, List.set_cons_succ]
              refine takeL (i := 7) (v := ?_) rfl (by kernel_rfl) (by kernel_rfl) (by kernel_rfl) (fun _ _ _ h => h) (Or.inl ⟨by kernel_rfl, ?_⟩) hHeld ?_
              rotate_left
              · rintro w' ⟨d0, d1, d2, d3⟩; go_simp; rfl
              try simp only [Act.put, List.setIfInBounds_toArray, List.set_cons_zero, List.set_cons_succ]
              refine takeL (i := 8) (v := ?_) rfl (by kernel_rfl) (by kernel_rfl) (by kernel_rfl) (fun _ _ _ h => h) (Or.inl ⟨by kernel_rfl, ?_⟩) hHeld ?_
              rotate_left
              · rintro w' ⟨d0, d1, d2, d3⟩; go_simp; rfl
              try simp only [Act.put, List.setIfInBounds_toArray, List.set_cons_zero, List.set_cons_succ]
              refine takeL (i := 9) (v := ?_) rfl (by kernel_rfl) (by kernel_rfl) (by kernel_rfl) (fun _ _ _ h => h) (Or.inl ⟨by kernel_rfl, ?_⟩) hHeld ?_
              rotate_left
              · rintro w' ⟨d0, d1, d2, d3⟩; go_simp; rfl
              try simp only [Act.put, List.setIfInBounds_toArray, List.set_cons_zero, List.set_cons_succ]
              refine takeL (i := 10) (v := ?_) rfl (by kernel_rfl) (by kernel_rfl) (by kernel_rfl) (fun _ _ _ h => h) (Or.inl ⟨by kernel_rfl, ?_⟩) hHeld ?_
              rotate_left
              · rintro w' ⟨d0, d1, d2, d3⟩; go_simp; rfl
              try simp only [Act.put, List.setIfInBounds_toArray, List.set_cons_zero, List.set_cons_succ]
              refine takeL (i := 11) (v := ?_) rfl (by kernel_rfl) (by kernel_rfl) (by kernel_rfl) (fun _ _ _ h => h) (Or.inl ⟨by kernel_rfl, ?_⟩) hHeld ?_
              rotate_left
              · rintro w' ⟨d0, d1, d2, d3⟩; go_simp; rfl
              try simp only [Act.put, List.setIfInBounds_toArray, List.set_cons_zero, List.set_cons_succ]
              refine takeL (i := 12) (v := ?_) rfl (by kernel_rfl) (by kernel_rfl) (by kernel_rfl) (fun _ _ _ h => h) (Or.inl ⟨by kernel_rfl, ?_⟩) hHeld ?_
              rotate_left
              · rintro w' ⟨d0, d1, d2, d3⟩; go_simp; rfl
              try simp only [Act.put, List.setIfInBounds_toArray, List.set_cons_zero, List.set_cons_succ]
              refine takeL (i := 13) (v := ?_) rfl (by kernel_rfl) (by kernel_rfl) (by kernel_rfl) (fun _ _ _ h => h) (Or.inl ⟨by kernel_rfl, ?_⟩) hHeld ?_
              rotate_left
              · rintro w' ⟨d0, d1, d2, d3⟩; go_simp; rfl
              try simp only [Act.put, List.setIfInBounds_toArray, List.set_cons_zero, List.set_cons_succ]
              refine takeL (i := 14) (v := ?_) rfl (by kernel_rfl) (by kernel_rfl) (by kernel_rfl) (fun _ _ _ h => h) (Or.inl ⟨by kernel_rfl, ?_⟩) hHeld ?_
              rotate_left
              · rintro w' ⟨d0, d1, d2, d3⟩; go_simp; rfl
              try simp only [Act.put, List.setIfInBounds_toArray, List.set_cons_zero, List.set_cons_succ]
              refine takeL (i := 15) (v := .bool false) rfl (by kernel_rfl) (by kernel_rfl) (by kernel_rfl) (fun _ _ _ h => h) (Or.inl ⟨by kernel_rfl, ?_⟩) hHeld ?_
              · rintro w' ⟨d0, d1, d2, d3⟩; go_simp; try rfl
              try simp only [Act.put, List.setIfInBounds_toArray, List.set_cons_zero, List.set_cons_succ]
              refine takeL (i := 16) (v := ?_) rfl (by kernel_rfl) (by kernel_rfl) (by kernel_rfl) (fun _ _ _ h => h) (Or.inl ⟨by kernel_rfl, ?_⟩) hHeld ?_
              rotate_left
              · rintro w' ⟨d0, d1, d2, d3⟩; go_simp; rfl
              try simp only [Act.put, List.setIfInBounds_toArray, List.set_cons_zero, List.set_cons_succ]
              refine takeL (i := 17) (v := ?_) rfl (by kernel_rfl) (by kernel_rfl) (by kernel_rfl) (fun _ _ _ h => h) (Or.inl ⟨by kernel_rfl, ?_⟩) hHeld ?_
              rotate_left
              · rintro w' ⟨d0, d1, d2, d3⟩; go_simp; rfl
              try simp only [Act.put, List.setIfInBounds_toArray, List.set_cons_zero, List.set_cons_succ]
              refine takeL (i := 18) (v := ?_) rfl (by kernel_rfl) (by kernel_rfl) (by kernel_rfl) (fun _ _ _ h => h) (Or.inl ⟨by kernel_rfl, ?_⟩) hHeld ?_
              rotate_left
              · rintro w' ⟨d0, d1, d2, d3⟩; go_simp; rfl
              try simp only [Act.put, List.setIfInBounds_toArray, List.set_cons_zero, List.set_cons_succ]
              refine takeL (i := 19) (v := ?_) rfl (by kernel_rfl) (by kernel_rfl) (by kernel_rfl) (fun _ _ _ h => h) (Or.inl ⟨by kernel_rfl, ?_⟩) hHeld ?_
              rotate_left
              · rintro w' ⟨d0, d1, d2, d3⟩; go_simp; rfl
              try simp only [Act.put, List.setIfInBounds_toArray, List.set_cons_zero, List.set_cons_succ]
              refine takeL (i := 20) (v := ?_) rfl (by kernel_rfl) (by kernel_rfl) (by kernel_rfl) (fun _ _ _ h => h) (Or.inl ⟨by kernel_rfl, ?_⟩) hHeld ?_
              rotate_left
              · rintro w' ⟨d0, d1, d2, d3⟩; go_simp; rfl
              try simp only [Act.put, List.setIfInBounds_toArray, List.set_cons_zero, List.set_cons_succ]
              refine takeL (i := 21) (v := ?_) rfl (by kernel_rfl) (by kernel_rfl) (by kernel_rfl) (fun _ _ _ h => h) (Or.inl ⟨by kernel_rfl, ?_⟩) hHeld ?_
              rotate_left
              · rintro w' ⟨d0, d1, d2, d3⟩; go_simp; rfl
              try simp only [Act.put, List.setIfInBounds_toArray, List.set_cons_zero, List.set_cons_succ]
              refine takeL (i := 22) (v := ?_) rfl (by kernel_rfl) (by kernel_rfl) (by kernel_rfl) (fun _ _ _ h => h) (Or.inl ⟨by kernel_rfl, ?_⟩) hHeld ?_
              rotate_left
              · rintro w' ⟨d0, d1, d2, d3⟩; go_simp; rfl
              try simp only [Act.put, List.setIfInBounds_toArray, List.set_cons_zero, List.set_cons_succ]
              refine takeL (i := 23) (v := ?_) rfl (by kernel_rfl) (by kernel_rfl) (by kernel_rfl) (fun _ _ _ h => h) (Or.inl ⟨by kernel_rfl, ?_⟩) hHeld ?_
              rotate_left
              · rintro w' ⟨d0, d1, d2, d3⟩; go_simp; rfl
              try simp only [Act.put, List.setIfInBounds_toArray, List.set_cons_zero, List.set_cons_succ]
              refine takeL (i := 24) (v := ?_) rfl (by kernel_rfl) (by kernel_rfl) (by kernel_rfl) (fun _ _ _ h => h) (Or.inl ⟨by kernel_rfl, ?_⟩) hHeld ?_
              rotate_left
              · rintro w' ⟨d0, d1, d2, d3⟩; go_simp; rfl
              try simp only [Act.put, List.setIfInBounds_toArray, List.set_cons_zero, List.set_cons_succ]
              refine takeL (i := 25) (v := ?_) rfl (by kernel_rfl) (by kernel_rfl) (by kernel_rfl) (fun _ _ _ h => h) (Or.inl ⟨by kernel_rfl, ?_⟩) hHeld ?_
              rotate_left
              · rintro w' ⟨d0, d1, d2, d3⟩; go_simp; rfl
              try simp only [Act.put, List.setIfInBounds_toArray, List.set_cons_zero, List.set_cons_succ]
              refine takeL (i := 26) (v := ?_) rfl (by kernel_rfl) (by kernel_rfl) (by kernel_rfl) (fun _ _ _ h => h) (Or.inl ⟨by kernel_rfl, ?_⟩) hHeld ?_
              rotate_left
              · rintro w' ⟨d0, d1, d2, d3⟩; go_simp; rfl
              try simp only [Act.put, List.setIfInBounds_toArray, List.set_cons_zero, List.set_cons_succ]
              refine takeL (i := 27) (v := .bool false) rfl (by kernel_rfl) (by kernel_rfl) (by kernel_rfl) (fun _ _ _ h => h) (Or.inl ⟨by kernel_rfl, ?_⟩) hHeld ?_
              · rintro w' ⟨d0, d1, d2, d3⟩; go_simp; try rfl
              try simp only [Act.put, List.setIfInBounds_toArray, List.set_cons_zero, List.set_cons_succ]
              refine takeL (i := 28) (v := ?_) rfl (by kernel_rfl) (by kernel_rfl) (by kernel_rfl) (fun _ _ _ h => h) (Or.inl ⟨by kernel_rfl, ?_⟩) hHeld ?_
              rotate_left
              · rintro w' ⟨d0, d1, d2, d3⟩; go_simp; rfl
              try simp only [Act.put, List.setIfInBounds_toArray, List.set_cons_zero, List.set_cons_succ]
              refine takeL (i := 29) (v := undef) rfl (by kernel_rfl) (by kernel_rfl) (by kernel_rfl) (fun _ _ _ h => h) (Or.inr ⟨by kernel_rfl, rfl⟩) hHeld ?_
              try simp only [Act.put, List.setIfInBounds_toArray, List.set_cons_zero, List.set_cons_succ]
              refine takeL (i := 30) (v := undef) rfl (by kernel_rfl) (by kernel_rfl) (by kernel_rfl) (fun _ _ _ h => h) (Or.inr ⟨by kernel_rfl, rfl⟩) hHeld ?_
              try simp only [Act.put, List.setIfInBounds_toArray, List.set_cons_zero, List.set_cons_succ]
              refine takeL (i := 31) (v := undef) rfl (by kernel_rfl) (by kernel_rfl) (by kernel_rfl) (fun _ _ _ h => h) (Or.inr ⟨by kernel_rfl, rfl⟩) hHeld ?_
              try simp only [Act.put, List.setIfInBounds_toArray, List.set_cons_zero, List.set_cons_succ]
              refine takeL (i := 32) (v := undef) rfl (by kernel_rfl) (by kernel_rfl) (by kernel_rfl) (fun _ _ _ h => h) (Or.inr ⟨by kernel_rfl, rfl⟩) hHeld ?_
              try simp only [Act.put, List.setIfInBounds_toArray, List.set_cons_zero, List.set_cons_succ]
              refine takeL (i := 33) (v := undef) rfl (by kernel_rfl) (by kernel_rfl) (by kernel_rfl) (fun _ _ _ h => h) (Or.inr ⟨by kernel_rfl, rfl⟩) hHeld ?_
              try simp only [Act.put, List.setIfInBounds_toArray, List.set_cons_zero, List.set_cons_succ]
              refine takeL (i := 34) (v := undef) rfl (by kernel_rfl) (by kernel_rfl) (by kernel_rfl) (fun _ _ _ h => h) (Or.inr ⟨by kernel_rfl, rfl⟩) hHeld ?_
              try simp only [Act.put, List.setIfInBounds_toArray, List.set_cons_zero, List.set_cons_succ]
              refine takeL (i := 35) (v := undef) rfl (by kernel_rfl) (by kernel_rfl) (by kernel_rfl) (fun _ _ _ h => h) (Or.inr ⟨by kernel_rfl, rfl⟩) hHeld ?_
              try simp only [Act.put, List.setIfInBounds_toArray, List.set_cons_zero, List.set_cons_succ]
              refine takeL (i := 36) (v := undef) rfl (by kernel_rfl) (by kernel_rfl) (by kernel_rfl) (fun _ _ _ h => h) (Or.inr ⟨by kernel_rfl, rfl⟩) hHeld ?_
              try simp only [Act.put, List.setIfInBounds_toArray, List.set_cons_zero, List.set_cons_succ]
              refine takeL (i := 37) (v := undef) rfl (by kernel_rfl) (by kernel_rfl) (by kernel_rfl) (fun _ _ _ h => h) (Or.inr ⟨by kernel_rfl, rfl⟩) hHeld ?_
              try simp only [Act.put, List.setIfInBounds_toArray, List.set_cons_zero, List.set_cons_succ]
              refine takeL (i := 38) (v := undef) rfl (by kernel_rfl) (by kernel_rfl) (by kernel_rfl) (fun _ _ _ h => h) (Or.inr ⟨by kernel_rfl, rfl⟩) hHeld ?_
              try simp only [Act.put, List.setIfInBounds_toArray, List.set_cons_zero, List.set_cons_succ]
              refine takeL (i := 39) (v := undef) rfl (by kernel_rfl) (by kernel_rfl) (by kernel_rfl) (fun _ _ _ h => h) (Or.inr ⟨by kernel_rfl, rfl⟩) hHeld ?_
              try simp only [Act.put, List.setIfInBounds_toArray, List.set_cons_zero, List.set_cons_succ]
              refine takeL (i := 40) (v := .bool false) rfl (by kernel_rfl) (by kernel_rfl) (by kernel_rfl) (fun _ _ _ h => h) (Or.inl ⟨by kernel_rfl, ?_⟩) hHeld ?_
              · rintro w' ⟨d0, d1, d2, d3⟩; go_simp; try rfl
              try simp only [Act.put, List.setIfInBounds_toArray, List.set_cons_zero, List.set_cons_succ]
              refine takeL (i := 41) (v := .bool false) rfl (by kernel_rfl) (by kernel_rfl) (by kernel_rfl) (fun _ _ _ h => h) (Or.inl ⟨by kernel_rfl, ?_⟩) hHeld ?_
              · rintro w' ⟨d0, d1, d2, d3⟩; go_simp; try rfl
              try simp only [Act.put, List.setIfInBounds_toArray, List.set_cons_zero, List.set_cons_succ]
              refine takeL (i := 42) (v := .bool false) rfl (by kernel_rfl) (by kernel_rfl) (by kernel_rfl) (fun _ _ _ h => h) (Or.inl ⟨by rfl, ?_⟩) hHeld ?_
              · rintro w' ⟨d0, d1, d2, d3⟩; go_simp; try rfl
              try simp only [Act.put, List.setIfInBounds_toArray, List.set_cons_zero, List.set_cons_succ]
              refine wpAnyH_done (by kernel_rfl) ?_ _
              clear hHeld
              obtain ⟨B2, HB2⟩ : ∃ B, Hid (u0.heap.size = B) := ⟨_, rfl⟩
              have hGB2 : G ≤ B2 := by rw [← HB2.out]; exact HBQ.out.le
              have HPQ : Hid (∀ W', Below B2 u0 W' → PY W' (some ⟨b1, off1, none⟩) vc L) := fun W' hW' => (HPV.out _ HBQ.out).below (by rw [HB2.out]; exact hW')
              have HPX : Hid (∀ W', Below B2 u0 W' → W'.rangeAt b (off + i * 24) R) := fun W' hW' => HRR.out W' (HBQ.out.below.trans (hW'.mono hGB2))
              have HNEW : Hid (insY x L = L.take j ++ x :: L.drop j) := hid (insY_at x L j (by rw [HLL.out]; exact hj) HLE.out (by rw [HLL.out]; exact HST.out))
              have HL1 : Hid ((L.take j).length = j) := hid (by rw [List.length_take, HLL.out]; omega)
              have HL2 : Hid ((L.drop j).length = i - j) := hid (by rw [List.length_drop, HLL.out])
              have HW1 : Hid (∀ y ∈ L.take j, (encY y).length = 24) := fun y hy => encY_len y (HLW.out y (List.mem_of_mem_take hy))
              have HW2 : Hid (∀ y ∈ L.drop j, (encY y).length = 24) := fun y hy => encY_len y (HLW.out y (List.mem_of_mem_drop hy))
              have hcapj : j ≤ vc := by have := (HPV.out _ HBQ.out).capl; rw [HLL.out] at this; omega
              have hsl1 : ∀ W', (Instr.slice 33 (.slice (some ⟨b1, off1, none⟩) i vc) none (some (.int .i64 j)) none).run Tryz.prog W' = .ok (.slice (some ⟨b1, off1, none⟩) j vc) W' := fun W' => slY_to (some ⟨b1, off1, none⟩) i vc j hcapj W'
              have hsl2 : ∀ W', (Instr.slice 33 (.slice (some ⟨b1, off1, none⟩) i vc) (some (.int .i64 j)) none none).run Tryz.prog W' = .ok (.slice (adX 24 (some ⟨b1, off1, none⟩) vc j) (i - j : Nat) (vc - j : Nat)) W' := fun W' => slY_from (some ⟨b1, off1, none⟩) i vc j hj W'
              obtain ⟨a3, HA3⟩ : ∃ a, Hid (adX 24 (some ⟨b1, off1, none⟩) vc j = a) := ⟨_, rfl⟩
              obtain ⟨c3, HC3⟩ : ∃ a, Hid (vc - j = a) := ⟨_, rfl⟩
              obtain ⟨n3, HN3⟩ : ∃ a, Hid (i - j = a) := ⟨_, rfl⟩
              have HP3 : Hid (∀ W', Below B2 u0 W' → PY W' a3 c3 (L.drop j)) := fun W' hW' => by rw [← HA3.out, ← HC3.out]; exact (HPQ.out W' hW').from j (by rw [HLL.out]; exact hj)
              simp only [HA3.out, HC3.out, HN3.out] at hsl2
              have HB0 : Hid (BY 48 u0 u0 B2 (.slice none 0 0) []) := hid (bx_nil 48 u0 B2 (by rw [HB2.out]; exact Nat.le_refl _))
              go_wp2_with (first
                | (at_builtin; refine wpList_bx_sl (enc := encY) (d := dY) rfl _ _ 33 48 und33 info48z rfl (by decide) (by decide) encY_one rfl B2 _ _ rfl HB0.out (some ⟨b1, off1, none⟩) vc (L.take j) (by rw [HL1.out]; rfl) ((HPQ.out _ (Below.refl _ _)).take j) HW1.out (by rw [HL1.out]; simp; omega) ?_; intro v1 w1 hb1 hg1; have HBE1 : Hid (BY 48 u0 w1 B2 v1 ([] ++ L.take j)) := hb1; clear hb1 hg1; have RX : Hid (w1.rangeAt b (off + i * 24) R) := hid (HPX.out _ HBE1.out.below))
                | refine wpList_load_mid rfl 48 _ rfl b (off + i * 24) rfl R _ RX.out Tryz.underlying48 rfl hi48 ?_
                | refine wpList_bSY rfl 33 1 _ rfl (.agg R.toArray) _ rfl (by rw [← HR.out]; exact run_build33 x HX20.out _) ?_
                | (at_builtin; refine wpList_bx_sl (enc := encY) (d := dY) rfl _ _ 33 48 und33 info48z rfl (by decide) (by decide) encY_one rfl B2 _ _ rfl (HBE1.out.alloc _) (some ⟨w1.heap.size, 0, none⟩) 1 [x] rfl (px_oneT w1 x 48) HX1.out (by simp only [List.nil_append, HL1.out, List.length_cons, List.length_nil]; omega) ?_; intro v2 w2 hb2 hg2; have HBE2 : Hid (BY 48 u0 w2 B2 v2 (([] ++ L.take j) ++ [x])) := hb2; clear hb2 hg2)
                | (at_builtin; refine wpList_bx_sl (enc := encY) (d := dY) rfl _ _ 33 48 und33 info48z rfl (by decide) (by decide) encY_one rfl B2 _ _ rfl HBE2.out a3 c3 (L.drop j) (by rw [HL2.out, HN3.out]; rfl) (HP3.out _ HBE2.out.below) HW2.out (by simp only [List.nil_append, List.length_append, HL1.out, HL2.out, List.length_cons, List.length_nil]; omega) ?_; intro v3 w3 hb3 hg3; have HBE3 : Hid (BY 48 u0 w3 B2 v3 ((([] ++ L.take j) ++ [x]) ++ L.drop j)) := hb3; clear hb3 hg3)
                | fail)
              go_roundg (n - (i + 1))
              case measure => omega
              case rel =>
                refine ⟨i + 1, v3, rfl, by omega, rfl, by go_num, hid ?_⟩
                have h3 := HBE3.out
                rw [List.nil_append, List.append_assoc, List.singleton_append, ← HNEW.out, ← HL.out, ← HXX.out, ← srtY_snoc, ← take_snocG dY es i (by rw [HN.out]; exact hlt)] at h3
                exact ⟨HBQ.out.below.trans (h3.below.mono hGB2), base_mono h3.own hGB2, Nat.le_trans HBQ.out.le (by rw [HB2.out]; exact h3.le)⟩
        · have hjii : ¬ (j : Int) < (i : Int) := by omega
          have HST : Hid (j = i ∨ ¬ leK (L.getD j dY) x) := hid (.inl (by omega))
          have HBQ0 : Hid (BY 48 w wr.drew G (.slice va i vc) L) := hid (HBQ.out.carry (Below.drewR (Below.refl _ _)))
          go_wp2_with fail
          refine wp_region_held_drew (S := fun _ => True) (by kernel_rfl) trivial (fun hHeld => ?_)
          generalize wr.drew = u0 at hHeld HBQ0 ⊢
          clear HBQ
          have HBQ := HBQ0
          clear HBQ0
          refine takeL (i := 0) (v := ?_) rfl (by kernel_rfl) (by kernel_rfl) (by kernel_rfl) (fun _ _ _ h => h) (Or.inl ⟨by rfl, ?_⟩) hHeld ?_
          rotate_left
          · rintro w' _; go_simp; rfl
          try simp only [Act.put, List.setIfInBounds_toArray, List.set_cons_zero, List.set_cons_succ]
          refine takeL (i := 1) (v := ?_) rfl (by kernel_rfl) (by kernel_rfl) (by kernel_rfl) (fun _ _ _ h => h) (Or.inl ⟨by rfl, ?_⟩) hHeld ?_
          rotate_left
          · rintro w' _; go_simp; rfl
          try simp only [Act.put, List.setIfInBounds_toArray, List.set_cons_zero, List.set_cons_succ]
          refine takeL (i := 2) (v := ?_) rfl (by kernel_rfl) (by kernel_rfl) (by kernel_rfl) (fun _ _ _ h => h) (Or.inl ⟨by rfl, ?_⟩) hHeld ?_
          rotate_left
          · rintro w' _; go_simp; rfl
          try simp only [Act.put, List.setIfInBounds_toArray, List.set_cons_zero, List.set_cons_succ]
          refine takeL (i := 3) (v := .bool false) rfl (by kernel_rfl) (by kernel_rfl) (by kernel_rfl) (fun _ _ _ h => h) (Or.inl ⟨by rfl, ?_⟩) hHeld ?_
          · rintro w' _; go_simp; try rfl
          try simp only [Act.put, List.setIfInBounds_toArray, List.set_cons_zero, List.set_cons_succ]
          refine takeL (i := 4) (v := ?_) rfl (by kernel_rfl) (by kernel_rfl) (by kernel_rfl) (fun _ _ _ h => h) (Or.inl ⟨by rfl, ?_⟩) hHeld ?_
          rotate_left
          · rintro w' _; go_simp; rfl
          try simp only [Act.put, List.setIfInBounds_toArray, List.set_cons_zero, List.set_cons_succ]
          refine takeL (i := 5) (v := undef) rfl (by kernel_rfl) (by kernel_rfl) (by kernel_rfl) (fun _ _ _ h => h) (Or.inr ⟨by kernel_rfl, rfl⟩) hHeld ?_
          try simp only [Act.put, List.setIfInBounds_toArray, List.set_cons_zero, List.set_cons_succ]
          refine takeL (i := 6) (v := undef) rfl (by kernel_rfl) (by kernel_rfl) (by kernel_rfl) (fun _ _ _ h => h) (Or.inr ⟨by kernel_rfl, rfl⟩) hHeld ?_
          try simp only [Act.put, List.setIfInBounds_toArray, List.set_cons_zero, List.set_cons_succ]
          refine takeL (i := 7) (v := undef) rfl (by kernel_rfl) (by kernel_rfl) (by kernel_rfl) (fun _ _ _ h => h) (Or.inr ⟨by kernel_rfl, rfl⟩) hHeld ?_
          try simp only [Act.put, List.setIfInBounds_toArray, List.set_cons_zero, List.set_cons_succ]
          refine takeL (i := 8) (v := undef) rfl (by kernel_rfl) (by kernel_rfl) (by kernel_rfl) (fun _ _ _ h => h) (Or.inr ⟨by kernel_rfl, rfl⟩) hHeld ?_
          try simp only [Act.put, List.setIfInBounds_toArray, List.set_cons_zero, List.set_cons_succ]
          refine takeL (i := 9) (v := undef) rfl (by kernel_rfl) (by kernel_rfl) (by kernel_rfl) (fun _ _ _ h => h) (Or.inr ⟨by kernel_rfl, rfl⟩) hHeld ?_
          try simp only [Act.put, List.setIfInBounds_toArray, List.set_cons_zero, List.set_cons_succ]
          refine takeL (i := 10) (v := undef) rfl (by kernel_rfl) (by kernel_rfl) (by kernel_rfl) (fun _ _ _ h => h) (Or.inr ⟨by kernel_rfl, rfl⟩) hHeld ?_
          try simp only [Act.put, List.setIfInBounds_toArray, List.set_cons_zero, List.set_cons_succ]
          refine takeL (i := 11) (v := undef) rfl (by kernel_rfl) (by kernel_rfl) (by kernel_rfl) (fun _ _ _ h => h) (Or.inr ⟨by kernel_rfl, rfl⟩) hHeld ?_
          try simp only [Act.put, List.setIfInBounds_toArray, List.set_cons_zero, List.set_cons_succ]
          refine takeL (i := 12) (v := undef) rfl (by kernel_rfl) (by kernel_rfl) (by kernel_rfl) (fun _ _ _ h => h) (Or.inr ⟨by kernel_rfl, rfl⟩) hHeld ?_
          try simp only [Act.put, List.setIfInBounds_toArray, List.set_cons_zero, List.set_cons_succ]
          refine takeL (i := 13) (v := undef) rfl (by kernel_rfl) (by kernel_rfl) (by kernel_rfl) (fun _ _ _ h => h) (Or.inr ⟨by kernel_rfl, rfl⟩) hHeld ?_
          try simp only [Act.put, List.setIfInBounds_toArray, List.set_cons_zero, List.set_cons_succ]
          refine takeL (i := 14) (v := undef) rfl (by kernel_rfl) (by kernel_rfl) (by kernel_rfl) (fun _ _ _ h => h) (Or.inr ⟨by kernel_rfl, rfl⟩) hHeld ?_
          try simp only [Act.put, List.setIfInBounds_toArray, List.set_cons_zero, List.set_cons_succ]
          refine takeL (i := 15) (v := undef) rfl (by kernel_rfl) (by kernel_rfl) (by kernel_rfl) (fun _ _ _ h => h) (Or.inr ⟨by kernel_rfl, rfl⟩) hHeld ?_
          try simp only [Act.put, List.setIfInBounds_toArray, List.set_cons_zero, List.set_cons_succ]
          refine takeL (i := 16) (v := undef) rfl (by kernel_rfl) (by kernel_rfl) (by kernel_rfl) (fun _ _ _ h => h) (Or.inr ⟨by kernel_rfl, rfl⟩) hHeld ?_
          try simp only [Act.put, List.setIfInBounds_toArray, List.set_cons_zero, List.set_cons_succ]
          refine takeL (i := 17) (v := undef) rfl (by kernel_rfl) (by kernel_rfl) (by kernel_rfl) (fun _ _ _ h => h) (Or.inr ⟨by kernel_rfl, rfl⟩) hHeld ?_
          try simp only [Act.put, List.setIfInBounds_toArray, List.set_cons_zero, List.set_cons_succ]
          refine takeL (i := 18) (v := undef) rfl (by kernel_rfl) (by kernel_rfl) (by kernel_rfl) (fun _ _ _ h => h) (Or.inr ⟨by kernel_rfl, rfl⟩) hHeld ?_
          try simp only [Act.put, List.setIfInBounds_toArray, List.set_cons_zero, List.set_cons_succ]
          refine takeL (i := 19) (v := undef) rfl (by kernel_rfl) (by kernel_rfl) (by kernel_rfl) (fun _ _ _ h => h) (Or.inr ⟨by kernel_rfl, rfl⟩) hHeld ?_
          try simp only [Act.put, List.setIfInBounds_toArray, List.set_cons_zero, List.set_cons_succ]
          refine takeL (i := 20) (v := undef) rfl (by kernel_rfl) (by kernel_rfl) (by kernel_rfl) (fun _ _ _ h => h) (Or.inr ⟨by kernel_rfl, rfl⟩) hHeld ?_
          try simp only [Act.put, List.setIfInBounds_toArray, List.set_cons_zero, List.set_cons_succ]
          refine takeL (i := 21) (v := undef) rfl (by kernel_rfl) (by kernel_rfl) (by kernel_rfl) (fun _ _ _ h => h) (Or.inr ⟨by kernel_rfl, rfl⟩) hHeld ?_
          try simp only [Act.put, List.setIfInBounds_toArray, List.set_cons_zero, List.set_cons_succ]
          refine takeL (i := 22) (v := undef) rfl (by kernel_rfl) (by kernel_rfl) (by kernel_rfl) (fun _ _ _ h => h) (Or.inr ⟨by kernel_rfl, rfl⟩) hHeld ?_
          try simp only [Act.put, List.setIfInBounds_toArray, List.set_cons_zero, List.set_cons_succ]
          refine takeL (i := 23) (v := undef) rfl (by kernel_rfl) (by kernel_rfl) (by kernel_rfl) (fun _ _ _ h => h) (Or.inr ⟨by kernel_rfl, rfl⟩) hHeld ?_
          try simp only [Act.put, List.setIfInBounds_toArray, List.set_cons_zero, List.set_cons_succ]
          refine takeL (i := 24) (v := undef) rfl (by kernel_rfl) (by kernel_rfl) (by kernel_rfl) (fun _ _ _ h => h) (Or.inr ⟨by kernel_rfl, rfl⟩) hHeld ?_
          try simp only [Act.put, List.setIfInBounds_toArray, List.set_cons_zero, List.set_cons_succ]
          refine takeL (i := 25) (v := undef) rfl (by kernel_rfl) (by kernel_rfl) (by kernel_rfl) (fun _ _ _ h => h) (Or.inr ⟨by kernel_rfl, rfl⟩) hHeld ?_
          try simp only [Act.put, List.setIfInBounds_toArray, List.set_cons_zero, List.set_cons_succ]
          refine takeL (i := 26) (v := undef) rfl (by kernel_rfl) (by kernel_rfl) (by kernel_rfl) (fun _ _ _ h => h) (Or.inr ⟨by kernel_rfl, rfl⟩) hHeld ?_
          try simp only [Act.put, List.setIfInBounds_toArray, List.set_cons_zero, List.set_cons_succ]
          refine takeL (i := 27) (v := undef) rfl (by kernel_rfl) (by kernel_rfl) (by kernel_rfl) (fun _ _ _ h => h) (Or.inr ⟨by kernel_rfl, rfl⟩) hHeld ?_
          try simp only [Act.put, List.setIfInBounds_toArray, List.set_cons_zero, List.set_cons_succ]
          refine takeL (i := 28) (v := undef) rfl (by kernel_rfl) (by kernel_rfl) (by kernel_rfl) (fun _ _ _ h => h) (Or.inr ⟨by kernel_rfl, rfl⟩) hHeld ?_
          try simp only [Act.put, List.setIfInBounds_toArray, List.set_cons_zero, List.set_cons_succ]
          refine takeL (i := 29) (v := undef) rfl (by kernel_rfl) (by kernel_rfl) (by kernel_rfl) (fun _ _ _ h => h) (Or.inr ⟨by kernel_rfl, rfl⟩) hHeld ?_
          try simp only [Act.put, List.setIfInBounds_toArray, List.set_cons_zero, List.set_cons_succ]
          refine takeL (i := 30) (v := undef) rfl (by kernel_rfl) (by kernel_rfl) (by kernel_rfl) (fun _ _ _ h => h) (Or.inr ⟨by kernel_rfl, rfl⟩) hHeld ?_
          try simp only [Act.put, List.setIfInBounds_toArray, List.set_cons_zero, List.set_cons_succ]
          refine takeL (i := 31) (v := undef) rfl (by kernel_rfl) (by kernel_rfl) (by kernel_rfl) (fun _ _ _ h => h) (Or.inr ⟨by kernel_rfl, rfl⟩) hHeld ?_
          try simp only [Act.put, List.setIfInBounds_toArray, List.set_cons_zero, List.set_cons_succ]
          refine takeL (i := 32) (v := undef) rfl (by kernel_rfl) (by kernel_rfl) (by kernel_rfl) (fun _ _ _ h => h) (Or.inr ⟨by kernel_rfl, rfl⟩) hHeld ?_
          try simp only [Act.put, List.setIfInBounds_toArray, List.set_cons_zero, List.set_cons_succ]
          refine takeL (i := 33) (v := undef) rfl (by kernel_rfl) (by kernel_rfl) (by kernel_rfl) (fun _ _ _ h => h) (Or.inr ⟨by kernel_rfl, rfl⟩) hHeld ?_
          try simp only [Act.put, List.setIfInBounds_toArray, List.set_cons_zero, List.set_cons_succ]
          refine takeL (i := 34) (v := undef) rfl (by kernel_rfl) (by kernel_rfl) (by kernel_rfl) (fun _ _ _ h => h) (Or.inr ⟨by kernel_rfl, rfl⟩) hHeld ?_
          try simp only [Act.put, List.setIfInBounds_toArray, List.set_cons_zero, List.set_cons_succ]
          refine takeL (i := 35) (v := undef) rfl (by kernel_rfl) (by kernel_rfl) (by kernel_rfl) (fun _ _ _ h => h) (Or.inr ⟨by kernel_rfl, rfl⟩) hHeld ?_
          try simp only [Act.put, List.setIfInBounds_toArray, List.set_cons_zero, List.set_cons_succ]
          refine takeL (i := 36) (v := undef) rfl (by kernel_rfl) (by kernel_rfl) (by kernel_rfl) (fun _ _ _ h => h) (Or.inr ⟨by kernel_rfl, rfl⟩) hHeld ?_
          try simp only [Act.put, List.setIfInBounds_toArray, List.set_cons_zero, List.set_cons_succ]
          refine takeL (i := 37) (v := undef) rfl (by kernel_rfl) (by kernel_rfl) (by kernel_rfl) (fun _ _ _ h => h) (Or.inr ⟨by kernel_rfl, rfl⟩) hHeld ?_
          try simp only [Act.put, List.setIfInBounds_toArray, List.set_cons_zero, List.set_cons_succ]
          refine takeL (i := 38) (v := undef) rfl (by kernel_rfl) (by kernel_rfl) (by kernel_rfl) (fun _ _ _ h => h) (Or.inr ⟨by kernel_rfl, rfl⟩) hHeld ?_
          try simp only [Act.put, List.setIfInBounds_toArray, List.set_cons_zero, List.set_cons_succ]
          refine takeL (i := 39) (v := undef) rfl (by kernel_rfl) (by kernel_rfl) (by kernel_rfl) (fun _ _ _ h => h) (Or.inr ⟨by kernel_rfl, rfl⟩) hHeld ?_
          try simp only [Act.put, List.setIfInBounds_toArray, List.set_cons_zero, List.set_cons_succ]
          refine takeL (i := 40) (v := undef) rfl (by kernel_rfl) (by kernel_rfl) (by kernel_rfl) (fun _ _ _ h => h) (Or.inr ⟨by kernel_rfl, rfl⟩) hHeld ?_
          try simp only [Act.put, List.setIfInBounds_toArray, List.set_cons_zero, List.set_cons_succ]
          refine takeL (i := 41) (v := undef) rfl (by kernel_rfl) (by kernel_rfl) (by kernel_rfl) (fun _ _ _ h => h) (Or.inr ⟨by kernel_rfl, rfl⟩) hHeld ?_
          try simp only [Act.put, List.setIfInBounds_toArray, List.set_cons_zero, List.set_cons_succ]
          refine takeL (i := 42) (v := .bool false) rfl (by kernel_rfl) (by kernel_rfl) (by kernel_rfl) (fun _ _ _ h => h) (Or.inl ⟨by rfl, ?_⟩) hHeld ?_
          · rintro w' _; go_simp; try rfl
          try simp only [Act.put, List.setIfInBounds_toArray, List.set_cons_zero, List.set_cons_succ]
          refine wpAnyH_done (by kernel_rfl) ?_ _
          clear hHeld
          obtain ⟨B2, HB2⟩ : ∃ B, Hid (u0.heap.size = B) := ⟨_, rfl⟩
          have hGB2 : G ≤ B2 := by rw [← HB2.out]; exact HBQ.out.le
          have HPQ : Hid (∀ W', Below B2 u0 W' → PY W' va vc L) := fun W' hW' => (HPV.out _ HBQ.out).below (by rw [HB2.out]; exact hW')
          have HPX : Hid (∀ W', Below B2 u0 W' → W'.rangeAt b (off + i * 24) R) := fun W' hW' => HRR.out W' (HBQ.out.below.trans (hW'.mono hGB2))
          have HNEW : Hid (insY x L = L.take j ++ x :: L.drop j) := hid (insY_at x L j (by rw [HLL.out]; exact hj) HLE.out (by rw [HLL.out]; exact HST.out))
          have HL1 : Hid ((L.take j).length = j) := hid (by rw [List.length_take, HLL.out]; omega)
          have HL2 : Hid ((L.drop j).length = i - j) := hid (by rw [List.length_drop, HLL.out])
          have HW1 : Hid (∀ y ∈ L.take j, (encY y).length = 24) := fun y hy => encY_len y (HLW.out y (List.mem_of_mem_take hy))
          have HW2 : Hid (∀ y ∈ L.drop j, (encY y).length = 24) := fun y hy => encY_len y (HLW.out y (List.mem_of_mem_drop hy))
          have hcapj : j ≤ vc := by have := (HPV.out _ HBQ.out).capl; rw [HLL.out] at this; omega
          have hsl1 : ∀ W', (Instr.slice 33 (.slice va i vc) none (some (.int .i64 j)) none).run Tryz.prog W' = .ok (.slice va j vc) W' := fun W' => slY_to va i vc j hcapj W'
          have hsl2 : ∀ W', (Instr.slice 33 (.slice va i vc) (some (.int .i64 j)) none none).run Tryz.prog W' = .ok (.slice (adX 24 va vc j) (i - j : Nat) (vc - j : Nat)) W' := fun W' => slY_from va i vc j hj W'
          obtain ⟨a3, HA3⟩ : ∃ a, Hid (adX 24 va vc j = a) := ⟨_, rfl⟩
          obtain ⟨c3, HC3⟩ : ∃ a, Hid (vc - j = a) := ⟨_, rfl⟩
          obtain ⟨n3, HN3⟩ : ∃ a, Hid (i - j = a) := ⟨_, rfl⟩
          have HP3 : Hid (∀ W', Below B2 u0 W' → PY W' a3 c3 (L.drop j)) := fun W' hW' => by rw [← HA3.out, ← HC3.out]; exact (HPQ.out W' hW').from j (by rw [HLL.out]; exact hj)
          simp only [HA3.out, HC3.out, HN3.out] at hsl2
          have HB0 : Hid (BY 48 u0 u0 B2 (.slice none 0 0) []) := hid (bx_nil 48 u0 B2 (by rw [HB2.out]; exact Nat.le_refl _))
          go_wp2_with (first
            | (at_builtin; refine wpList_bx_sl (enc := encY) (d := dY) rfl _ _ 33 48 und33 info48z rfl (by decide) (by decide) encY_one rfl B2 _ _ rfl HB0.out va vc (L.take j) (by rw [HL1.out]; rfl) ((HPQ.out _ (Below.refl _ _)).take j) HW1.out (by rw [HL1.out]; simp; omega) ?_; intro v1 w1 hb1 hg1; have HBE1 : Hid (BY 48 u0 w1 B2 v1 ([] ++ L.take j)) := hb1; clear hb1 hg1; have RX : Hid (w1.rangeAt b (off + i * 24) R) := hid (HPX.out _ HBE1.out.below))
            | refine wpList_load_mid rfl 48 _ rfl b (off + i * 24) rfl R _ RX.out Tryz.underlying48 rfl hi48 ?_
            | refine wpList_bSY rfl 33 1 _ rfl (.agg R.toArray) _ rfl (by rw [← HR.out]; exact run_build33 x HX20.out _) ?_
            | (at_builtin; refine wpList_bx_sl (enc := encY) (d := dY) rfl _ _ 33 48 und33 info48z rfl (by decide) (by decide) encY_one rfl B2 _ _ rfl (HBE1.out.alloc _) (some ⟨w1.heap.size, 0, none⟩) 1 [x] rfl (px_oneT w1 x 48) HX1.out (by simp only [List.nil_append, HL1.out, List.length_cons, List.length_nil]; omega) ?_; intro v2 w2 hb2 hg2; have HBE2 : Hid (BY 48 u0 w2 B2 v2 (([] ++ L.take j) ++ [x])) := hb2; clear hb2 hg2)
            | (at_builtin; refine wpList_bx_sl (enc := encY) (d := dY) rfl _ _ 33 48 und33 info48z rfl (by decide) (by decide) encY_one rfl B2 _ _ rfl HBE2.out a3 c3 (L.drop j) (by rw [HL2.out, HN3.out]; rfl) (HP3.out _ HBE2.out.below) HW2.out (by simp only [List.nil_append, List.length_append, HL1.out, HL2.out, List.length_cons, List.length_nil]; omega) ?_; intro v3 w3 hb3 hg3; have HBE3 : Hid (BY 48 u0 w3 B2 v3 ((([] ++ L.take j) ++ [x]) ++ L.drop j)) := hb3; clear hb3 hg3)
            | fail)
          go_roundg (n - (i + 1))
          case measure => omega
          case rel =>
            refine ⟨i + 1, v3, rfl, by omega, rfl, by go_num, hid ?_⟩
            have h3 := HBE3.out
            rw [List.nil_append, List.append_assoc, List.singleton_append, ← HNEW.out, ← HL.out, ← HXX.out, ← srtY_snoc, ← take_snocG dY es i (by rw [HN.out]; exact hlt)] at h3
            exact ⟨HBQ.out.below.trans (h3.below.mono hGB2), base_mono h3.own hGB2, Nat.le_trans HBQ.out.le (by rw [HB2.out]; exact h3.le)⟩
    · have hlti : ¬ (i : Int) < (n : Int) := by omega
      have HB : Hid (BY 48 w wr w.heap.size v (srtY es)) := hid (by
        have h := HBE.out
        rw [List.take_of_length_le (by rw [HN.out]; omega)] at h
        rw [HG.out]; exact h)
      go_wp2
      go_ret
      exact ⟨_, rfl, HB.out⟩
end Go.Proofs.YtcicoeneemnbiaaGreatDoor
