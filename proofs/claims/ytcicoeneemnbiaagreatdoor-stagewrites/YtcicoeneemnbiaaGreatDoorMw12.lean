import Derived.Test.YtcicoeneemnbiaaGreatDoorMw08
import Derived.Test.YtcicoeneemnbiaaGreatDoorMw07
namespace Go.Proofs.YtcicoeneemnbiaaGreatDoor
open Go.RowKit
set_option linter.unusedVariables false
set_option linter.unusedSimpArgs false
def near (x y : Ey) : Prop := x.path = y.path ∧ (x.stage = 0 ∨ x.stage = y.stage)
def noNear (l : List Ey) : Prop := ∀ j, j + 1 < l.length → ¬ near (l.getD j dY) (l.getD (j + 1) dY)
theorem bne_txt {x y : Str} {X Y : ByteArray} (hX : (⟨x.toArray⟩ : ByteArray) = X) (hY : (⟨y.toArray⟩ : ByteArray) = Y) (h : x ≠ y) : (X.toList == Y.toList) = false := by
  subst hX hY
  simpa using h
structure Qg (g b o : Nat) (X Y : ByteArray) (W : World) : Prop where
  c0 : W.cell? ⟨g, 0, none⟩ = some (.string X)
  c1 : W.cell? ⟨b, o, none⟩ = some (.string Y)
theorem PY.cells {w : World} {b off cap : Nat} {l : List Ey} (h : PY w (some ⟨b, off, none⟩) cap l) (i : Nat) (hi : i < l.length) (hw : WY l) : w.cell? ⟨b, off + i * 24, none⟩ = some (.string ⟨(l.getD i dY).path.toArray⟩) ∧ w.cell? ⟨b, off + i * 24 + 1, none⟩ = some (.int .i64 (l.getD i dY).mode) ∧ w.cell? ⟨b, off + i * 24 + 22, none⟩ = some (.int .i64 (l.getD i dY).size) ∧ w.cell? ⟨b, off + i * 24 + 23, none⟩ = some (.int .i64 (l.getD i dY).stage) := by
  have hr := h.row i hi
  obtain ⟨h0, h1, h2, h3⟩ := encY_at (l.getD i dY) (hw _ (getD_mem l i dY hi))
  exact ⟨hr 0 _ h0, hr 1 _ h1, hr 22 _ h2, hr 23 _ h3⟩
set_option maxRecDepth 20000 in
set_option maxHeartbeats 4000000 in
theorem stages_any {w : World} (a : Option Addr) (ca : Nat) (l : List Ey) (hP : PY w a ca l) (hw : WY l) (hl : l.length ≤ 100000) : Calls Tryz.prog 29 #[.slice a l.length ca] w fun e w' => BIs (noNear l) e ∧ Below w.heap.size w w' := by
  obtain ⟨n, HN⟩ : ∃ n, Hid (l.length = n) := ⟨_, rfl⟩
  obtain ⟨g, HG⟩ : ∃ g, Hid (w.heap.size = g) := ⟨_, rfl⟩
  have hn : n ≤ 100000 := by rw [← HN.out]; exact hl
  have HPW : Hid (∀ W, Below g w W → PY W a ca l) := fun W hW => hP.below (by rw [HG.out]; exact hW)
  have HFA : Hid (0 < n → ∃ b off, a = some ⟨b, off, none⟩) := fun h0 => by
    obtain ⟨b, off, e1, _⟩ := hP.at_ (by rw [HN.out]; exact h0)
    exact ⟨b, off, e1⟩
  have HWY : Hid (WY l) := hw
  rw [HN.out]
  clear hP hw hl
  go_enter Tryz.func29, Tryz.ntmps29
  go_wp2_with fail
  go_loopg [8] n (fun gg iv wr => ∃ i : Nat, iv = .int .i64 i ∧ i ≤ n ∧ gg = n - i ∧ Hid (∀ j, j + 1 < i → ¬ near (l.getD j dY) (l.getD (j + 1) dY)) ∧ Hid (Below g w wr))
  case atStart => exact ⟨0, rfl, Nat.zero_le _, rfl, hid (fun j h => by omega), hid (Below.refl _ _)⟩
  case round =>
    obtain ⟨i, rfl, hi, hk, HOK, HB⟩ := hrel
    by_cases hlt : i < n
    · have hlti : (i : Int) < (n : Int) := by omega
      obtain ⟨b, off, hae⟩ := HFA.out (by omega)
      subst hae
      have hil : i < l.length := by rw [HN.out]; exact hlt
      obtain ⟨x, HX⟩ : ∃ x, Hid (l.getD i dY = x) := ⟨_, rfl⟩
      have HRow : Hid (wr.rangeAt b (off + i * 24) (encY x)) := hid (by rw [← HX.out]; exact (HPW.out wr HB.out).row i hil)
      have HW : Hid (x.id.length = 20) := hid (by rw [← HX.out]; exact HWY.out _ (getD_mem l i dY hil))
      have HCY : Hid (CY x (encY x).toArray) := hid (cy x HW.out)
      obtain ⟨W, HWW⟩ : ∃ W, Hid (wr.alloc (.cells (encY x).toArray 32) = W) := ⟨_, rfl⟩
      obtain ⟨X, HXX⟩ : ∃ S : ByteArray, Hid (⟨x.path.toArray⟩ = S) := ⟨_, rfl⟩
      have k0 : W.cell? ⟨wr.heap.size, 0, none⟩ = some (.string X) := by rw [← HWW.out, ← HXX.out]; exact cellN HCY.out.c0
      have k3 : W.cell? ⟨wr.heap.size, 23, none⟩ = some (.int .i64 x.stage) := by rw [← HWW.out]; exact cellN HCY.out.c23
      have HBW : Hid (Below g w W) := hid (by rw [← HWW.out]; exact HB.out.alloc (by rw [← HG.out]; exact HB.out.size) _)
      have al : wr.alloc (.cells (encY x).toArray 32) = W := HWW.out
      clear hil
      go_wp2_with (first | (refine wpList_load_mid rfl 32 _ rfl b (off + i * 24) rfl (encY x) _ HRow.out Tryz.underlying32 rfl (by rw [encY_len x HW.out]; exact info32) ?_) | (refine wpList_store_new rfl 32 _ _ rfl _ (encY x).toArray rfl rfl (by rw [HCY.out.size]; exact info32) (by rw [HCY.out.size]; rfl) HCY.out.one ?_))
      rw [al]
      have HBD : Hid (Below g w W.drew) := hid (HBW.out.trans ⟨rfl, rfl, rfl, Nat.le_refl _, fun _ _ => rfl⟩)
      obtain ⟨G, HGG⟩ : ∃ G, Hid (wr.heap.size = G) := ⟨_, rfl⟩
      rw [HGG.out] at k0 k3 ⊢
      by_cases h0 : i = 0
      · subst h0
        have HOK2 : Hid (∀ j, j + 1 < 0 + 1 → ¬ near (l.getD j dY) (l.getD (j + 1) dY)) := hid (fun j h => by omega)
        refine wp_region_held_drew (S := fun _ => True) (by kernel_rfl) trivial (fun hHeld => ?_)
        generalize W.drew = wd at HBD ⊢
        refine takeL (i := 0) (v := ?_) rfl (by kernel_rfl) (by kernel_rfl) (by kernel_rfl) (fun _ _ _ h => h) (Or.inl ⟨by rfl, ?_⟩) hHeld ?_
        rotate_left
        · rintro w' _; go_simp; rfl
        try simp only [Act.put, List.setIfInBounds_toArray, List.set_cons_zero, List.set_cons_succ]
        refine takeL (i := 1) (v := .bool true) rfl (by kernel_rfl) (by kernel_rfl) (by kernel_rfl) (fun _ _ _ h => h) (Or.inl ⟨by rfl, ?_⟩) hHeld ?_
        · rintro w' _; go_simp; try rfl
        try simp only [Act.put, List.setIfInBounds_toArray, List.set_cons_zero, List.set_cons_succ]
        refine takeL (i := 2) (v := ?_) rfl (by kernel_rfl) (by kernel_rfl) (by kernel_rfl) (fun _ _ _ h => h) (Or.inl ⟨by rfl, ?_⟩) hHeld ?_
        rotate_left
        · rintro w' _; go_simp; rfl
        try simp only [Act.put, List.setIfInBounds_toArray, List.set_cons_zero, List.set_cons_succ]
        refine takeL (i := 3) (v := undef) rfl (by kernel_rfl) (by kernel_rfl) (by kernel_rfl) (fun _ _ _ h => h) (Or.inr ⟨by kernel_rfl, rfl⟩) hHeld ?_
        try simp only [Act.put, List.setIfInBounds_toArray, List.set_cons_zero, List.set_cons_succ]
        refine takeL (i := 4) (v := undef) rfl (by kernel_rfl) (by kernel_rfl) (by kernel_rfl) (fun _ _ _ h => h) (Or.inr ⟨by kernel_rfl, rfl⟩) hHeld ?_
        try simp only [Act.put, List.setIfInBounds_toArray, List.set_cons_zero, List.set_cons_succ]
        refine takeL (i := 5) (v := undef) rfl (by kernel_rfl) (by kernel_rfl) (by kernel_rfl) (fun _ _ _ h => h) (Or.inr ⟨by kernel_rfl, rfl⟩) hHeld ?_
        try simp only [Act.put, List.setIfInBounds_toArray, List.set_cons_zero, List.set_cons_succ]
        refine takeL (i := 6) (v := undef) rfl (by kernel_rfl) (by kernel_rfl) (by kernel_rfl) (fun _ _ _ h => h) (Or.inr ⟨by kernel_rfl, rfl⟩) hHeld ?_
        try simp only [Act.put, List.setIfInBounds_toArray, List.set_cons_zero, List.set_cons_succ]
        refine takeL (i := 7) (v := undef) rfl (by kernel_rfl) (by kernel_rfl) (by kernel_rfl) (fun _ _ _ h => h) (Or.inr ⟨by kernel_rfl, rfl⟩) hHeld ?_
        try simp only [Act.put, List.setIfInBounds_toArray, List.set_cons_zero, List.set_cons_succ]
        refine takeL (i := 8) (v := undef) rfl (by kernel_rfl) (by kernel_rfl) (by kernel_rfl) (fun _ _ _ h => h) (Or.inr ⟨by kernel_rfl, rfl⟩) hHeld ?_
        try simp only [Act.put, List.setIfInBounds_toArray, List.set_cons_zero, List.set_cons_succ]
        refine takeL (i := 9) (v := undef) rfl (by kernel_rfl) (by kernel_rfl) (by kernel_rfl) (fun _ _ _ h => h) (Or.inr ⟨by kernel_rfl, rfl⟩) hHeld ?_
        try simp only [Act.put, List.setIfInBounds_toArray, List.set_cons_zero, List.set_cons_succ]
        refine takeL (i := 10) (v := undef) rfl (by kernel_rfl) (by kernel_rfl) (by kernel_rfl) (fun _ _ _ h => h) (Or.inr ⟨by kernel_rfl, rfl⟩) hHeld ?_
        try simp only [Act.put, List.setIfInBounds_toArray, List.set_cons_zero, List.set_cons_succ]
        refine takeL (i := 11) (v := undef) rfl (by kernel_rfl) (by kernel_rfl) (by kernel_rfl) (fun _ _ _ h => h) (Or.inr ⟨by kernel_rfl, rfl⟩) hHeld ?_
        try simp only [Act.put, List.setIfInBounds_toArray, List.set_cons_zero, List.set_cons_succ]
        refine takeL (i := 12) (v := .bool true) rfl (by kernel_rfl) (by kernel_rfl) (by kernel_rfl) (fun _ _ _ h => h) (Or.inl ⟨by rfl, ?_⟩) hHeld ?_
        · rintro w' _; go_simp; try rfl
        try simp only [Act.put, List.setIfInBounds_toArray, List.set_cons_zero, List.set_cons_succ]
        refine wpAnyH_done (by kernel_rfl) ?_ _
        clear hHeld
        go_wp2
        go_roundg (n - (0 + 1))
        case measure => omega
        case rel => exact ⟨0 + 1, by go_num, by omega, rfl, HOK2, HBD⟩
      · obtain ⟨k, HKi⟩ : ∃ k, i = k + 1 := ⟨i - 1, by omega⟩
        subst HKi
        have hkn : k < n := by omega
        obtain ⟨y, HY⟩ : ∃ y, Hid (l.getD k dY = y) := ⟨_, rfl⟩
        obtain ⟨Y, HYY⟩ : ∃ S : ByteArray, Hid (⟨y.path.toArray⟩ = S) := ⟨_, rfl⟩
        have hcs := (HPW.out W.drew HBD.out).cells k (by rw [HN.out]; exact hkn) HWY.out
        rw [HY.out, HYY.out] at hcs
        obtain ⟨y0, _, _, y3⟩ := hcs
        have k3d : W.drew.cell? ⟨G, 23, none⟩ = some (.int .i64 x.stage) := k3
        have hS : Qg G b (off + k * 24) X Y W.drew := ⟨k0, y0⟩
        have hk1 : ((k : Int) + 1 == 0) = false := by simp; omega
        have hwk : IntKind.i64.wrap ((k : Nat) : Int) = (k : Int) := by rw [IntKind.wrap_i64]; omega
        have h0k : (0 : Int) ≤ (k : Int) := by omega
        have hkI : (k : Int) < (n : Int) := by omega
        have htk : ((k : Int)).toNat = k := by omega
        have HPE : Hid (x.path = y.path ↔ X = Y) := hid (by rw [← HXX.out, ← HYY.out]; exact ⟨fun h => by rw [h], fun h => (ba_eq _ _).1 h⟩)
        refine wp_region_held_drew (S := Qg G b (off + k * 24) X Y) (by kernel_rfl) hS (fun hHeld => ?_)
        generalize W.drew = wd at HBD hHeld y3 k3d ⊢
        clear hS y0
        by_cases hxy : X = Y
        · have hbq : (X.toList == Y.toList) = true := by rw [hxy]; simp
          have HXY := hid hxy
          refine takeL (i := 0) (v := ?_) rfl (by kernel_rfl) (by kernel_rfl) (by kernel_rfl) (fun _ _ _ h => h) (Or.inl ⟨by rfl, ?_⟩) hHeld ?_
          rotate_left
          · rintro w' ⟨d0, d1⟩; go_simp; rfl
          try simp only [Act.put, List.setIfInBounds_toArray, List.set_cons_zero, List.set_cons_succ]
          refine takeL (i := 1) (v := .bool false) rfl (by kernel_rfl) (by kernel_rfl) (by kernel_rfl) (fun _ _ _ h => h) (Or.inl ⟨by rfl, ?_⟩) hHeld ?_
          · rintro w' ⟨d0, d1⟩; go_simp; try rfl
          try simp only [Act.put, List.setIfInBounds_toArray, List.set_cons_zero, List.set_cons_succ]
          refine takeL (i := 2) (v := ?_) rfl (by kernel_rfl) (by kernel_rfl) (by kernel_rfl) (fun _ _ _ h => h) (Or.inl ⟨by rfl, ?_⟩) hHeld ?_
          rotate_left
          · rintro w' ⟨d0, d1⟩; go_simp; rfl
          try simp only [Act.put, List.setIfInBounds_toArray, List.set_cons_zero, List.set_cons_succ]
          refine takeL (i := 3) (v := ?_) rfl (by kernel_rfl) (by kernel_rfl) (by kernel_rfl) (fun _ _ _ h => h) (Or.inl ⟨by kernel_rfl, ?_⟩) hHeld ?_
          rotate_left
          · rintro w' ⟨d0, d1⟩; go_simp; rfl
          try simp only [Act.put, List.setIfInBounds_toArray, List.set_cons_zero, List.set_cons_succ]
          refine takeL (i := 4) (v := ?_) rfl (by kernel_rfl) (by kernel_rfl) (by kernel_rfl) (fun _ _ _ h => h) (Or.inl ⟨by kernel_rfl, ?_⟩) hHeld ?_
          rotate_left
          · rintro w' ⟨d0, d1⟩; go_simp; rfl
          try simp only [Act.put, List.setIfInBounds_toArray, List.set_cons_zero, List.set_cons_succ]
          refine takeL (i := 5) (v := ?_) rfl (by kernel_rfl) (by kernel_rfl) (by kernel_rfl) (fun _ _ _ h => h) (Or.inl ⟨by kernel_rfl, ?_⟩) hHeld ?_
          rotate_left
          · rintro w' ⟨d0, d1⟩; go_simp; rfl
          try simp only [Act.put, List.setIfInBounds_toArray, List.set_cons_zero, List.set_cons_succ]
          refine takeL (i := 6) (v := ?_) rfl (by kernel_rfl) (by kernel_rfl) (by kernel_rfl) (fun _ _ _ h => h) (Or.inl ⟨by kernel_rfl, ?_⟩) hHeld ?_
          rotate_left
          · rintro w' ⟨d0, d1⟩; go_simp; rfl
          try simp only [Act.put, List.setIfInBounds_toArray, List.set_cons_zero, List.set_cons_succ]
          refine takeL (i := 7) (v := .int .i64 (k : Int)) rfl (by kernel_rfl) (by kernel_rfl) (by kernel_rfl) (fun _ _ _ h => h) (Or.inl ⟨by kernel_rfl, ?_⟩) hHeld ?_
          · rintro w' ⟨d0, d1⟩; go_simp; try (first | rfl | (simp only [hwk]; done) | (simp only [hwk]; rfl))
          try simp only [Act.put, List.setIfInBounds_toArray, List.set_cons_zero, List.set_cons_succ]
          refine takeL (i := 8) (v := ?_) rfl (by kernel_rfl) (by kernel_rfl) (by kernel_rfl) (fun _ _ _ h => h) (Or.inl ⟨by kernel_rfl, ?_⟩) hHeld ?_
          rotate_left
          · rintro w' ⟨d0, d1⟩; go_simp; try simp only [hwk, h0k, hkI, htk, and_self, if_true]
            rfl
          try simp only [Act.put, List.setIfInBounds_toArray, List.set_cons_zero, List.set_cons_succ]
          refine takeL (i := 9) (v := ?_) rfl (by kernel_rfl) (by kernel_rfl) (by kernel_rfl) (fun _ _ _ h => h) (Or.inl ⟨by kernel_rfl, ?_⟩) hHeld ?_
          rotate_left
          · rintro w' ⟨d0, d1⟩; go_simp; rfl
          try simp only [Act.put, List.setIfInBounds_toArray, List.set_cons_zero, List.set_cons_succ]
          refine takeL (i := 10) (v := ?_) rfl (by kernel_rfl) (by kernel_rfl) (by kernel_rfl) (fun _ _ _ h => h) (Or.inl ⟨by kernel_rfl, ?_⟩) hHeld ?_
          rotate_left
          · rintro w' ⟨d0, d1⟩; go_simp; rfl
          try simp only [Act.put, List.setIfInBounds_toArray, List.set_cons_zero, List.set_cons_succ]
          refine takeL (i := 11) (v := .bool false) rfl (by kernel_rfl) (by kernel_rfl) (by kernel_rfl) (fun _ _ _ h => h) (Or.inl ⟨by kernel_rfl, ?_⟩) hHeld ?_
          · rintro w' ⟨d0, d1⟩; go_simp; try rfl
          try simp only [Act.put, List.setIfInBounds_toArray, List.set_cons_zero, List.set_cons_succ]
          refine takeL (i := 12) (v := .bool false) rfl (by kernel_rfl) (by kernel_rfl) (by kernel_rfl) (fun _ _ _ h => h) (Or.inl ⟨by rfl, ?_⟩) hHeld ?_
          · rintro w' ⟨d0, d1⟩; go_simp; try rfl
          try simp only [Act.put, List.setIfInBounds_toArray, List.set_cons_zero, List.set_cons_succ]
          refine wpAnyH_done (by kernel_rfl) ?_ _
          clear hHeld hxy
          by_cases hbad : y.stage = 0 ∨ y.stage = x.stage
          · have HNO : Hid (¬ noNear l) := hid (fun h => h k (by rw [HN.out]; exact hlt) (by rw [HY.out, HX.out]; exact ⟨(HPE.out.2 HXY.out).symm, hbad⟩))
            have HBF : Hid (Below w.heap.size w wd) := hid (by rw [HG.out]; exact HBD.out)
            rcases (show y.stage = 0 ∨ (¬ y.stage = 0 ∧ y.stage = x.stage) by omega) with q | ⟨q, q2⟩
            · have qb : (y.stage == 0) = true := by simp [q]
              clear hbad q
              go_wp2
              go_ret
              exact ⟨bis_false HNO.out, HBF.out⟩
            · have qb : (y.stage == 0) = false := by simp [q]
              have qc : (y.stage == x.stage) = true := by simp [q2]
              clear hbad q q2
              go_wp2
              go_ret
              exact ⟨bis_false HNO.out, HBF.out⟩
          · have qb : (y.stage == 0) = false := by simp; omega
            have qc : (y.stage == x.stage) = false := by simp; omega
            have HOK2 : Hid (∀ j, j + 1 < k + 1 + 1 → ¬ near (l.getD j dY) (l.getD (j + 1) dY)) := hid (fun j h => by
              by_cases e : j = k
              · subst e; rw [HY.out, HX.out]; exact fun hh => hbad hh.2
              · exact HOK.out j (by omega))
            clear hbad
            go_wp2
            go_roundg (n - (k + 1 + 1))
            case measure => omega
            case rel => exact ⟨k + 1 + 1, by go_num, by omega, rfl, HOK2, HBD⟩
        · have hbq : (X.toList == Y.toList) = false := bne_txt HXX.out HYY.out (fun h => hxy (HPE.out.1 h))
          have HOK2 : Hid (∀ j, j + 1 < k + 1 + 1 → ¬ near (l.getD j dY) (l.getD (j + 1) dY)) := hid (fun j h => by
            by_cases e : j = k
            · subst e; rw [HY.out, HX.out]; exact fun hh => hxy (HPE.out.1 hh.1.symm)
            · exact HOK.out j (by omega))
          refine takeL (i := 0) (v := ?_) rfl (by kernel_rfl) (by kernel_rfl) (by kernel_rfl) (fun _ _ _ h => h) (Or.inl ⟨by rfl, ?_⟩) hHeld ?_
          rotate_left
          · rintro w' ⟨d0, d1⟩; go_simp; rfl
          try simp only [Act.put, List.setIfInBounds_toArray, List.set_cons_zero, List.set_cons_succ]
          refine takeL (i := 1) (v := .bool false) rfl (by kernel_rfl) (by kernel_rfl) (by kernel_rfl) (fun _ _ _ h => h) (Or.inl ⟨by rfl, ?_⟩) hHeld ?_
          · rintro w' ⟨d0, d1⟩; go_simp; try rfl
          try simp only [Act.put, List.setIfInBounds_toArray, List.set_cons_zero, List.set_cons_succ]
          refine takeL (i := 2) (v := ?_) rfl (by kernel_rfl) (by kernel_rfl) (by kernel_rfl) (fun _ _ _ h => h) (Or.inl ⟨by rfl, ?_⟩) hHeld ?_
          rotate_left
          · rintro w' ⟨d0, d1⟩; go_simp; rfl
          try simp only [Act.put, List.setIfInBounds_toArray, List.set_cons_zero, List.set_cons_succ]
          refine takeL (i := 3) (v := ?_) rfl (by kernel_rfl) (by kernel_rfl) (by kernel_rfl) (fun _ _ _ h => h) (Or.inl ⟨by kernel_rfl, ?_⟩) hHeld ?_
          rotate_left
          · rintro w' ⟨d0, d1⟩; go_simp; rfl
          try simp only [Act.put, List.setIfInBounds_toArray, List.set_cons_zero, List.set_cons_succ]
          refine takeL (i := 4) (v := ?_) rfl (by kernel_rfl) (by kernel_rfl) (by kernel_rfl) (fun _ _ _ h => h) (Or.inl ⟨by kernel_rfl, ?_⟩) hHeld ?_
          rotate_left
          · rintro w' ⟨d0, d1⟩; go_simp; rfl
          try simp only [Act.put, List.setIfInBounds_toArray, List.set_cons_zero, List.set_cons_succ]
          refine takeL (i := 5) (v := ?_) rfl (by kernel_rfl) (by kernel_rfl) (by kernel_rfl) (fun _ _ _ h => h) (Or.inl ⟨by kernel_rfl, ?_⟩) hHeld ?_
          rotate_left
          · rintro w' ⟨d0, d1⟩; go_simp; rfl
          try simp only [Act.put, List.setIfInBounds_toArray, List.set_cons_zero, List.set_cons_succ]
          refine takeL (i := 6) (v := ?_) rfl (by kernel_rfl) (by kernel_rfl) (by kernel_rfl) (fun _ _ _ h => h) (Or.inl ⟨by kernel_rfl, ?_⟩) hHeld ?_
          rotate_left
          · rintro w' ⟨d0, d1⟩; go_simp; rfl
          try simp only [Act.put, List.setIfInBounds_toArray, List.set_cons_zero, List.set_cons_succ]
          refine takeL (i := 7) (v := .int .i64 (k : Int)) rfl (by kernel_rfl) (by kernel_rfl) (by kernel_rfl) (fun _ _ _ h => h) (Or.inl ⟨by kernel_rfl, ?_⟩) hHeld ?_
          · rintro w' ⟨d0, d1⟩; go_simp; try (first | rfl | (simp only [hwk]; done) | (simp only [hwk]; rfl))
          try simp only [Act.put, List.setIfInBounds_toArray, List.set_cons_zero, List.set_cons_succ]
          refine takeL (i := 8) (v := ?_) rfl (by kernel_rfl) (by kernel_rfl) (by kernel_rfl) (fun _ _ _ h => h) (Or.inl ⟨by kernel_rfl, ?_⟩) hHeld ?_
          rotate_left
          · rintro w' ⟨d0, d1⟩; go_simp; try simp only [hwk, h0k, hkI, htk, and_self, if_true]
            rfl
          try simp only [Act.put, List.setIfInBounds_toArray, List.set_cons_zero, List.set_cons_succ]
          refine takeL (i := 9) (v := ?_) rfl (by kernel_rfl) (by kernel_rfl) (by kernel_rfl) (fun _ _ _ h => h) (Or.inl ⟨by kernel_rfl, ?_⟩) hHeld ?_
          rotate_left
          · rintro w' ⟨d0, d1⟩; go_simp; rfl
          try simp only [Act.put, List.setIfInBounds_toArray, List.set_cons_zero, List.set_cons_succ]
          refine takeL (i := 10) (v := ?_) rfl (by kernel_rfl) (by kernel_rfl) (by kernel_rfl) (fun _ _ _ h => h) (Or.inl ⟨by kernel_rfl, ?_⟩) hHeld ?_
          rotate_left
          · rintro w' ⟨d0, d1⟩; go_simp; rfl
          try simp only [Act.put, List.setIfInBounds_toArray, List.set_cons_zero, List.set_cons_succ]
          refine takeL (i := 11) (v := .bool true) rfl (by kernel_rfl) (by kernel_rfl) (by kernel_rfl) (fun _ _ _ h => h) (Or.inl ⟨by kernel_rfl, ?_⟩) hHeld ?_
          · rintro w' ⟨d0, d1⟩; go_simp; try rfl
          try simp only [Act.put, List.setIfInBounds_toArray, List.set_cons_zero, List.set_cons_succ]
          refine takeL (i := 12) (v := .bool true) rfl (by kernel_rfl) (by kernel_rfl) (by kernel_rfl) (fun _ _ _ h => h) (Or.inl ⟨by rfl, ?_⟩) hHeld ?_
          · rintro w' ⟨d0, d1⟩; go_simp; try rfl
          try simp only [Act.put, List.setIfInBounds_toArray, List.set_cons_zero, List.set_cons_succ]
          refine wpAnyH_done (by kernel_rfl) ?_ _
          clear hHeld
          go_wp2
          go_roundg (n - (k + 1 + 1))
          case measure => omega
          case rel => exact ⟨k + 1 + 1, by go_num, by omega, rfl, HOK2, HBD⟩
    · have hlti : ¬ (i : Int) < (n : Int) := by omega
      have HAll : Hid (noNear l) := hid (fun j hj => HOK.out j (by rw [HN.out] at hj; omega))
      go_wp2
      go_ret
      exact ⟨bis_true HAll.out, by rw [HG.out]; exact HB.out⟩
end Go.Proofs.YtcicoeneemnbiaaGreatDoor
namespace Go.Proofs.YtcicoeneemnbiaaGreatDoor
open Go.RowKit Go.Shelf
set_option linter.unusedVariables false
set_option linter.unusedSimpArgs false
attribute [local go_sem] Oper.semAt_some
def drs (s : List UInt8) : Nat → List ByteArray
  | 0 => [⟨#[]⟩]
  | i + 1 => if s[i]? = some 47 then drs s i ++ [⟨(s.take i).toArray⟩] else drs s i
theorem drs_sep (s : List UInt8) (i : Nat) (h : s[i]? = some 47) : drs s (i + 1) = drs s i ++ [⟨(s.take i).toArray⟩] := by rw [drs, if_pos h]
theorem drs_go (s : List UInt8) (i : Nat) (x : UInt8) (h : s[i]? = some x) (hx : x ≠ 47) : drs s (i + 1) = drs s i := by rw [drs, if_neg (by rw [h]; simpa using hx)]
theorem drs_more (s : List UInt8) (i : Nat) : ∀ k, ∃ r, drs s i ++ r = drs s (i + k)
  | 0 => ⟨[], by simp⟩
  | k + 1 => by
    obtain ⟨r, hr⟩ := drs_more s i k
    rw [show i + (k + 1) = (i + k) + 1 by omega, drs]
    split
    · exact ⟨r ++ [⟨(s.take (i + k)).toArray⟩], by rw [← List.append_assoc, hr]⟩
    · exact ⟨r, hr⟩
theorem drs_pre (s : List UInt8) (i : Nat) (h : i ≤ s.length) : ∃ r, drs s i ++ r = drs s s.length := by
  obtain ⟨r, hr⟩ := drs_more s i (s.length - i)
  exact ⟨r, by rw [hr, show i + (s.length - i) = s.length by omega]⟩
def SAll2 (s : List UInt8) (xs : List (ByteArray × List UInt8)) : Prop := xs.map (·.1) = drs s s.length
def SPart2 (s : List UInt8) (pre : List (ByteArray × List UInt8)) : Prop := ∃ r, pre.map (·.1) ++ r = drs s s.length
end Go.Proofs.YtcicoeneemnbiaaGreatDoor
namespace Go.Proofs.YtcicoeneemnbiaaGreatDoor
open Go.RowKit Go.Shelf
set_option linter.unusedVariables false
set_option linter.unusedSimpArgs false
attribute [local go_sem] Oper.semAt_some
set_option maxRecDepth 100000 in
set_option maxHeartbeats 4000000 in
theorem parts3_in (n : Nat) (hn : 1 ≤ n) (s : List UInt8) (hs : s.length ≤ 100) (l b : Nat) (J Jx : List (ByteArray × List UInt8) → World → Prop)
    (hY : ∀ pre (x : ByteArray × List UInt8) W, J pre W → pre.length < 101 → x.1.size ≤ 100 → YieldAt Fence.wide (n - 1) Tryz.prog l (encP x) W fun e W' =>
      (e = .returned (.bool true) ∧ J (pre ++ [x]) W' ∧ Kc b W W') ∨ (e = .returned (.bool false) ∧ Jx (pre ++ [x]) W'))
    (W : World) (hb : W.cell? ⟨b, 0, none⟩ = some (.string ⟨s.toArray⟩)) (h0 : J [] W) :
    CallsIn Fence.wide n Tryz.prog 62 #[.func (.yield l) #[] #[], .pointer (some ⟨b, 0, none⟩)] W fun e W' => (∃ v, e = .returned v) ∧
      ((∃ xs, SAll2 s xs ∧ J xs W') ∨ (∃ pre, SPart2 s pre ∧ Jx pre W')) := by
  obtain ⟨S, HS⟩ : ∃ S : ByteArray, Hid (⟨s.toArray⟩ = S) := ⟨_, rfl⟩
  obtain ⟨N, HN⟩ : ∃ N, Hid (s.length = N) := ⟨_, rfl⟩
  have hsz : S.size = N := by rw [← HS.out, txt_len]; exact HN.out
  have hN : N ≤ 100 := by rw [← HN.out]; exact hs
  rw [HS.out] at hb
  clear hs
  refine callsIn_of_wp Tryz.func62 rfl trivial ?_ rfl
  simp only [Tryz.ntmps62, List.size_toArray, List.length_cons, List.length_nil, Nat.reduceAdd, Nat.reduceSub, Array.replicate_succ, Array.replicate_zero, List.push_toArray, List.append_toArray, List.nil_append, List.cons_append]
  gi_wp2
  gi_loopg [3, 4, 8] N (fun k vd vb vi wr => ∃ (D : ByteArray) (f i : Nat) (pre : List (ByteArray × List UInt8)), vd = .string D ∧ vb = .int .i64 f ∧ vi = .int .i64 i ∧ k = N - i ∧ i ≤ N ∧ f ≤ i ∧ Hid (Pth s f i (pre.map (·.2))) ∧ Hid (pre.map (·.1) ++ [D] = drs s i) ∧ Hid (pre.length ≤ i) ∧ Hid (D.size ≤ 100) ∧ Hid (J pre wr) ∧ wr.cell? ⟨b, 0, none⟩ = some (.string S))
  case atStart => exact ⟨_, 0, 0, [], rfl, rfl, rfl, rfl, by omega, by omega, Pth.start s, hid rfl, Nat.le_refl _, hid (by decide), h0, hb⟩
  case round =>
    obtain ⟨D, f, i, pre, rfl, rfl, rfl, hk, hi, hf, HP, HD, HL, HDS, HJ, hcb⟩ := hrel
    by_cases hlt : i < N
    · have hltI : (i : Int) < (N : Int) := by omega
      obtain ⟨x, hx⟩ : ∃ x, s[i]? = some x := ⟨_, List.getElem?_eq_getElem (by rw [HN.out]; exact hlt)⟩
      obtain ⟨c, HC⟩ : ∃ c, Hid ((x.toNat : Int) = c) := ⟨_, rfl⟩
      have HX : Hid (s[i]? = some x) := hx
      have hix : ∀ w1 : World, (Instr.index 9 (.string S) (.int .i64 i)).run Tryz.prog w1 = .ok (.int .u8 c) w1 := fun w1 => by rw [← HS.out, ← HC.out]; exact idx_txt s i w1 x HX.out
      have H47 : Hid (c = 47 ↔ x = 47) := hid (by rw [← HC.out]; exact byte_num x 47 (by decide))
      clear hx
      by_cases hc : c = 47
      · subst hc
        have HX7 : Hid (s[i]? = some 47) := hid (by rw [← H47.out.1 rfl]; exact HX.out)
        have HP2 : Hid (Pth s (i + 1) (i + 1) ((pre ++ [(D, cur s f i)]).map (·.2))) := hid (by rw [List.map_append]; exact HP.out.sep HX7.out)
        have HD3 : Hid ((pre ++ [(D, cur s f i)]).map (·.1) ++ [⟨(s.take i).toArray⟩] = drs s (i + 1)) := hid (by rw [drs_sep s i HX7.out, ← HD.out, List.map_append]; rfl)
        have HSP : Hid (SPart2 s (pre ++ [(D, cur s f i)])) := hid (by
          obtain ⟨r, hr⟩ := drs_pre s (i + 1) (by rw [HN.out]; omega)
          refine ⟨[⟨(s.take i).toArray⟩] ++ r, ?_⟩
          rw [← List.append_assoc, HD3.out]
          exact hr)
        obtain ⟨T, HT⟩ : ∃ T : ByteArray, Hid (⟨(cur s f i).toArray⟩ = T) := ⟨_, rfl⟩
        obtain ⟨D2, HD2⟩ : ∃ T : ByteArray, Hid (⟨(s.take i).toArray⟩ = T) := ⟨_, rfl⟩
        have hsl : ∀ w1 : World, (Instr.slice 9 (.string S) (some (.int .i64 f)) (some (.int .i64 i)) none).run Tryz.prog w1 = .ok (.string T) w1 := fun w1 => by rw [← HS.out, ← HT.out]; exact slc_mid s f i hf (by rw [HN.out]; exact hi) w1
        have hst : ∀ w1 : World, (Instr.slice 9 (.string S) none (some (.int .i64 i)) none).run Tryz.prog w1 = .ok (.string D2) w1 := fun w1 => by rw [← HS.out, ← HD2.out]; exact slc_to s i (by rw [HN.out]; exact hi) w1
        obtain ⟨fn, tmps, assign, body, hy, hR⟩ := hY pre (D, cur s f i) wr HJ.out (by have := HL.out; omega) HDS.out
        simp only [encP, HT.out] at hy
        gi_wp2
        refine hR.mono ?_
        rintro e1 W3 (⟨rfl, hJ3, hk3⟩ | ⟨rfl, hJx3⟩)
        · have hcb3 : W3.cell? ⟨b, 0, none⟩ = some (.string S) := (World.cell?_of_block (a := ⟨b, 0, none⟩) hk3).trans hcb
          have HJ3 : Hid _ := hJ3
          clear hcb hJ3 hk3
          gi_wp2
          gi_roundg (N - (i + 1))
          case measure => omega
          case rel => exact ⟨D2, i + 1, i + 1, _, rfl, by go_num, by go_num, rfl, by omega, by omega, HP2.out, hid (by rw [← HD2.out]; exact HD3.out), by have := HL.out; show _ ≤ _; simp; omega, hid (by rw [← HD2.out, txt_len, List.length_take]; omega), HJ3.out, hcb3⟩
        · gi_wp2
          refine bodyPost_ret (results_none rfl _ _ _) rfl ?_
          exact ⟨⟨_, rfl⟩, .inr ⟨_, HSP.out, hJx3⟩⟩
      · have hcb2 : (c != 47) = true := by simpa using hc
        have HP2 : Hid (Pth s f (i + 1) (pre.map (·.2))) := hid (HP.out.go HX.out (fun e => hc (H47.out.2 e)))
        gi_wp2
        gi_roundg (N - (i + 1))
        case measure => omega
        case rel => exact ⟨D, f, i + 1, pre, rfl, rfl, by go_num, rfl, by omega, by omega, HP2.out, hid (by rw [drs_go s i _ HX.out (fun e => hc (H47.out.2 e))]; exact HD.out), Nat.le_succ_of_le HL.out, HDS, HJ.out, hcb⟩
    · have hltI : ¬ (i : Int) < (N : Int) := by omega
      obtain rfl : i = N := by omega
      have HEQ : Hid (SAll2 s (pre ++ [(D, s.drop f)])) := hid (by unfold SAll2; rw [HN.out, ← HD.out, List.map_append]; rfl)
      obtain ⟨T, HT⟩ : ∃ T : ByteArray, Hid (⟨(s.drop f).toArray⟩ = T) := ⟨_, rfl⟩
      have hsl : ∀ w1 : World, (Instr.slice 9 (.string S) (some (.int .i64 f)) none none).run Tryz.prog w1 = .ok (.string T) w1 := fun w1 => by rw [← HS.out, ← HT.out]; exact slc_from s f (by rw [HN.out]; exact hf) w1
      obtain ⟨fn, tmps, assign, body, hy, hR⟩ := hY pre (D, s.drop f) wr HJ.out (by have := HL.out; omega) HDS.out
      simp only [encP, HT.out] at hy
      gi_wp2
      refine hR.mono ?_
      rintro e1 W3 (⟨rfl, hJ3, hk3⟩ | ⟨rfl, hJx3⟩)
      · gi_wp2
        go_end0
        exact ⟨⟨_, rfl⟩, .inl ⟨_, HEQ.out, hJ3⟩⟩
      · gi_wp2
        go_end0
        exact ⟨⟨_, rfl⟩, .inr ⟨_, ⟨[], by rw [List.append_nil]; exact HEQ.out⟩, hJx3⟩⟩
abbrev DPt : Type := { x : ByteArray × List UInt8 // x.1.size ≤ 100 }
def encD (x : DPt) : Array Value := encP x.1
def SAll3 (s : List UInt8) (xs : List DPt) : Prop := xs.map (·.1.1) = drs s s.length
def SPart3 (s : List UInt8) (pre : List DPt) : Prop := ∃ r, pre.map (·.1.1) ++ r = drs s s.length
theorem parts_stops3 (n : Nat) (hn : 1 ≤ n) (s : List UInt8) (hs : s.length ≤ 100) (wL : World) (b : Nat) (hb1 : b < wL.heap.size) (hb : wL.cell? ⟨b, 0, none⟩ = some (.string ⟨s.toArray⟩)) :
    SeqStopsK Fence.wide n Tryz.prog 62 #[.pointer (some ⟨b, 0, none⟩)] encD (Kc b) (SAll3 s) (SPart3 s) 101 wL := fun l J Jx W hWL _ _ hY h0 => by
  refine (parts3_in n hn s hs l b (fun pre W => ∃ p : List DPt, p.map (·.1) = pre ∧ J p W) (fun pre W => ∃ p : List DPt, p.map (·.1) = pre ∧ Jx p W) ?_ W ((hWL.cell (p := ⟨b, 0, none⟩) hb1).trans hb) ⟨[], rfl, h0⟩).mono ?_
  · rintro pre x W1 ⟨p, rfl, hJ⟩ hlt hx
    obtain ⟨fn, tmps, assign, body, hy, hR⟩ := hY p ⟨x, hx⟩ W1 hJ (by simpa using hlt)
    refine ⟨fn, tmps, assign, body, hy, hR.mono ?_⟩
    rintro e W2 (⟨h1, h2, h3⟩ | ⟨h1, h2⟩)
    · exact .inl ⟨h1, ⟨_, by simp, h2⟩, h3⟩
    · exact .inr ⟨h1, ⟨_, by simp, h2⟩⟩
  · rintro e W2 ⟨h1, h2⟩
    refine ⟨h1, ?_⟩
    rcases h2 with ⟨xs, h3, p, rfl, h4⟩ | ⟨xs, h3, p, rfl, h4⟩
    · exact .inl ⟨p, by unfold SAll3; rw [← show _ = drs s s.length from h3, List.map_map]; rfl, h4⟩
    · obtain ⟨r, hr⟩ := h3
      exact .inr ⟨p, ⟨r, by rw [← hr, List.map_map]; rfl⟩, h4⟩
theorem mem_drs (s : List UInt8) : ∀ (n : Nat) (d : ByteArray), d ∈ drs s n ↔ d = ⟨#[]⟩ ∨ ∃ i, i < n ∧ s[i]? = some 47 ∧ d = ⟨(s.take i).toArray⟩
  | 0, d => by simp [drs]
  | n + 1, d => by
    have ih := mem_drs s n d
    by_cases h : s[n]? = some 47
    · rw [drs_sep s n h, List.mem_append, ih, List.mem_singleton]
      constructor
      · rintro ((h1 | ⟨i, h1, h2⟩) | h1)
        · exact .inl h1
        · exact .inr ⟨i, by omega, h2⟩
        · exact .inr ⟨n, by omega, h, h1⟩
      · rintro (h1 | ⟨i, h1, h2, h3⟩)
        · exact .inl (.inl h1)
        · by_cases e : i = n
          · subst e; exact .inr h3
          · exact .inl (.inr ⟨i, by omega, h2, h3⟩)
    · rw [show drs s (n + 1) = drs s n by rw [drs, if_neg h], ih]
      constructor
      · rintro (h1 | ⟨i, h1, h2⟩)
        · exact .inl h1
        · exact .inr ⟨i, by omega, h2⟩
      · rintro (h1 | ⟨i, h1, h2, h3⟩)
        · exact .inl h1
        · by_cases e : i = n
          · subst e; exact absurd h2 h
          · exact .inr ⟨i, by omega, h2, h3⟩
theorem spl_last : ∀ s : List UInt8, [] ∈ spl (s ++ [47])
  | [] => by simp [spl]
  | c :: t => by
    have ih := spl_last t
    rw [List.cons_append, spl]
    split
    · simp [ih]
    · rename_i hc
      cases t with
      | nil => simp [spl]
      | cons d u =>
        cases h : spl (d :: u ++ [47]) with
        | nil => exact absurd h (spl_ne _)
        | cons p ps =>
          show [] ∈ (c :: p) :: ps
          rw [h] at ih
          rcases List.mem_cons.1 ih with e | e
          · -- the first part is empty: then the text begins with a /
            rw [List.cons_append, spl] at h
            split at h
            · rename_i hd
              injection h with h1 h2
              rw [← h2]
              exact List.mem_cons_of_mem _ (spl_last u)
            · split at h
              · injection h with h1 h2
                rw [← h1] at e; cases e
              · injection h with h1 h2
                rw [← h1] at e; cases e
          · exact List.mem_cons_of_mem _ e
theorem okP_ne {s : List UInt8} (h : okP s) : s ≠ [] := by
  rintro rfl
  have := (h.2 [] (by simp [spl])).1
  simp at this
theorem clash_iff (l : List Ey) (hok : okPs l) : (∃ y ∈ l, ∃ d ∈ drs y.path y.path.length, ∃ x ∈ l, x.path = d.data.toList) ↔ ¬ okDs l := by
  constructor
  · rintro ⟨y, hy, d, hd, x, hx, hxd⟩ hk
    rcases (mem_drs _ _ d).1 hd with rfl | ⟨i, hi, h47, rfl⟩
    · exact okP_ne (hok x hx) hxd
    · refine hk x hx y hy ⟨y.path.drop (i + 1), ?_, ?_⟩
      · intro e
        have h1 : y.path = y.path.take i ++ [47] := by
          have h2 : y.path.drop i = [47] := by
            rw [List.drop_eq_getElem_cons hi, e]
            rw [List.getElem?_eq_getElem hi] at h47
            rw [Option.some.inj h47]
          have := List.take_append_drop i y.path
          rw [h2] at this
          exact this.symm
        have h3 := (hok y hy).2 [] (by rw [h1]; exact spl_last _)
        have := h3.1
        simp at this
      · rw [hxd]
        show y.path = y.path.take i ++ 47 :: y.path.drop (i + 1)
        have h2 : y.path.drop i = 47 :: y.path.drop (i + 1) := by
          rw [List.drop_eq_getElem_cons hi]
          rw [List.getElem?_eq_getElem hi] at h47
          rw [Option.some.inj h47]
        rw [← h2, List.take_append_drop]
  · intro h
    have h2 : ∃ x ∈ l, ∃ y ∈ l, dirOf x y := Classical.byContradiction fun hn => h (fun x hx y hy hd => hn ⟨x, hx, y, hy, hd⟩)
    obtain ⟨x, hx, y, hy, r, hr, he⟩ := h2
    refine ⟨y, hy, ⟨x.path.toArray⟩, (mem_drs _ _ _).2 (.inr ⟨x.path.length, ?_, ?_, ?_⟩), x, hx, rfl⟩
    · rw [he, List.length_append, List.length_cons]; omega
    · rw [he, List.getElem?_append_right (Nat.le_refl _), Nat.sub_self]; rfl
    · rw [he, List.take_left]
end Go.Proofs.YtcicoeneemnbiaaGreatDoor
