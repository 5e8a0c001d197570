/- 'copyStep'. -/
import Derived.Test.YtblegkefeiefjaaDoorFnJ
namespace Go.Proofs.YtblegkefeiefjaaDoor
open Go.RowKit Go.Maps Plain
set_option linter.unusedVariables false
set_option linter.unusedSimpArgs false

theorem Tryd.infoB : (Tryd.prog.info? 5).map (fun i => (i.zero, i.size, i.bytes)) = some (some (.int .u8 0), 1, 1) := by kernel_rfl
theorem own_set0 {w : World} {B g n cap : Nat} {x : Value} {r : List Value} (h : w.ownsRow B 5 1 (.slice (some ⟨g, 0, none⟩) n cap) n (x :: r)) (y : Value) : (w.setCell ⟨g, 0, none⟩ y).ownsRow B 5 1 (.slice (some ⟨g, 0, none⟩) n cap) n (y :: r) := by
  obtain ⟨h1, ⟨h2, _⟩ | ⟨g', cap', cur, hv, h3, h4, h5, h6, h7, h8⟩⟩ := h
  · cases h2
  · simp only [Value.slice.injEq, Option.some.injEq, Addr.mk.injEq, and_true, true_and] at hv
    obtain ⟨rfl, rfl⟩ := hv
    refine ⟨by simpa using h1, .inr ⟨g, cap, cur.setIfInBounds 0 y, rfl, h3, heap_set w g 0 y h4, h5, h6, by simpa using h7, ?_⟩⟩
    rw [Array.toList_setIfInBounds]
    have : (cur.toList.set 0 y).take (n * 1) = (cur.toList.take (n * 1)).set 0 y := by rw [List.take_set]
    rw [this, h8]
    rfl
theorem own_head {w : World} {B g n cap : Nat} {x : Value} {r : List Value} (h : w.ownsRow B 5 1 (.slice (some ⟨g, 0, none⟩) n cap) n (x :: r)) : w.cell? ⟨g, 0, none⟩ = some x ∧ w.frozen? ⟨g, 0, none⟩ = false ∧ B ≤ g ∧ g < w.heap.size ∧ 0 < n ∧ n ≤ cap := by
  have hc := h.cells (g := g) rfl 0 x rfl
  rw [addr_add] at hc
  obtain ⟨h1, ⟨h2, _⟩ | ⟨g', cap', cur, hv, h3, h4, h5, h6, h7, h8⟩⟩ := h
  · cases h2
  · simp only [Value.slice.injEq, Option.some.injEq, Addr.mk.injEq, and_true, true_and] at hv
    obtain ⟨rfl, rfl⟩ := hv
    exact ⟨hc, by simp [World.frozen?, h4], h3, (Array.getElem?_eq_some_iff.1 h4).1, by simp at h1; omega, h5⟩
theorem own_form {w : World} {B n : Nat} {v : Value} {xs : List Value} (h : w.ownsRow B 5 1 v (n + 1) xs) : ∃ g cap, v = .slice (some ⟨g, 0, none⟩) (n + 1) cap := by
  obtain ⟨_, ⟨_, h2⟩ | ⟨g, cap, cur, hv, _⟩⟩ := h
  · omega
  · exact ⟨g, cap, hv⟩
theorem cell_new_set (w : World) (p : Addr) (u x : Value) : ∀ j v, [x][j]? = some v → ((w.setCell p u).alloc (.cells #[x] 5)).cell? ((⟨w.heap.size, 0, none⟩ : Addr).add j) = some v := by
  have := cell_one_new (w.setCell p u) x 5
  rwa [show (w.setCell p u).heap.size = w.heap.size by simp [World.setCell]] at this
def PostC (c : List Int) (w : World) (e : Ending) (w' : World) : Prop := ∃ g cap, e = .returned (.slice (some ⟨g, 0, none⟩) c.length cap) ∧ w'.ownsRow w.heap.size 5 1 (.slice (some ⟨g, 0, none⟩) c.length cap) c.length (c.map (Value.int .u8)) ∧ Below w.heap.size w w'
theorem place_or (a l : Nat) (ha : a < 16777216) (hl : l < 16777216) : bits .or .u64 (a : Int) ((l : Int) * 4294967296) = ((a + l * 4294967296 : Nat) : Int) := by
  have e : (l : Int) * 4294967296 = ((l * 4294967296 : Nat) : Int) := by omega
  rw [e, u64_or _ _ (by omega) (by omega) (by omega) (by omega), Int.toNat_natCast, Int.toNat_natCast, Nat.or_comm, show (4294967296 : Nat) = 2 ^ 32 from rfl, nat_join 32 (l * 2 ^ 32) a (Nat.mul_mod_left _ _) (by omega), Nat.add_comm]
theorem or_bit (mk j : Nat) (hj : j < 7) (hm : mk < 2 ^ j) : (128 + mk) ||| 2 ^ j = 128 + mk + 2 ^ j := by
  have h : ∀ j, j < 7 → ∀ mk, mk < 2 ^ j → (128 + mk) ||| 2 ^ j = 128 + mk + 2 ^ j := by decide +kernel
  exact h j hj mk hm
set_option maxRecDepth 10000 in
set_option maxHeartbeats 1000000 in
theorem copyStep_any (a l : Nat) (ha : a < 16777216) (hl : l < 16777216) (w : World) : Calls Tryd.prog 33 #[.int .i64 a, .int .i64 l] w (PostC (cpy a l) w) := by
  obtain ⟨i5, hi, hz0, hz1, hz2⟩ := info_parts Tryd.infoB
  have hor := place_or a l ha hl
  obtain ⟨pl, HPL⟩ : ∃ pl, Hid (pl = a + l * 4294967296) := ⟨_, rfl⟩
  rw [← HPL.out] at hor
  go_enter Tryd.func33, Tryd.ntmps33
  go_wp2_with fail
  have HO0 : Hid ((w.alloc (.cells #[.int .u8 128] 5)).ownsRow w.heap.size 5 1 (.slice (some ⟨w.heap.size, 0, none⟩) (cpyI pl 0).length 1) (cpyI pl 0).length ((cpyI pl 0).map (Value.int .u8))) :=
    ⟨by simp [cpyI], .inr ⟨w.heap.size, 1, #[.int .u8 128], rfl, Nat.le_refl _, World.alloc_heap_new w _, by simp [cpyI, byl], by unfold maxLen; omega, by simp, by simp [cpyI, byl, msk]⟩⟩
  have HB0 : Hid (Below w.heap.size w (w.alloc (.cells #[.int .u8 128] 5))) := (Below.refl _ _).alloc (Nat.le_refl _) _
  go_loopg [6, 16] 7 (fun k st ix wr => ∃ j g cap : Nat, j ≤ 7 ∧ ix = .int .i64 j ∧ k = 7 - j ∧ st = .slice (some ⟨g, 0, none⟩) (cpyI pl j).length cap ∧ Hid (wr.ownsRow w.heap.size 5 1 (.slice (some ⟨g, 0, none⟩) (cpyI pl j).length cap) (cpyI pl j).length ((cpyI pl j).map (Value.int .u8))) ∧ Hid (Below w.heap.size w wr))
  case atStart => exact ⟨0, w.heap.size, 1, by omega, rfl, rfl, rfl, HO0.out, HB0.out⟩
  case round =>
    obtain ⟨j, g, cap, hj, rfl, hk, rfl, HO, HB⟩ := hrel
    by_cases hj7 : j < 7
    · have hjI : (j : Int) < 7 := by omega
      obtain ⟨x, HX⟩ : ∃ x, Hid (x = byt pl j) := ⟨_, rfl⟩
      have hx : x < 256 := by rw [HX.out]; unfold byt; omega
      obtain ⟨sh, HSH⟩ : ∃ sh, Hid (sh = 8 * j) := ⟨_, rfl⟩
      have hsh : (8 : Int) * (j : Int) = (sh : Int) := by rw [HSH.out]; omega
      have hsl : sh ≤ 48 := by rw [HSH.out]; omega
      have hdv : (pl : Int) / 2 ^ sh % 256 = (x : Int) := by rw [HX.out, HSH.out]; unfold byt; push_cast; rfl
      by_cases hx0 : x = 0
      · subst hx0
        have HCE : Hid (cpyI pl (j + 1) = cpyI pl j) := by show _ = _; unfold cpyI; rw [msk, byl, if_pos HX.out.symm, if_pos HX.out.symm]; simp
        go_wp2_with fail
        go_roundg (7 - (j + 1))
        case measure => omega
        case rel => exact ⟨j + 1, g, cap, by omega, by go_num, rfl, by rw [HCE.out], by show World.ownsRow _ _ _ _ _ _ _; rw [HCE.out]; exact HO.out, HB.out⟩
      · have hxI : ¬ (x : Int) = 0 := by omega
        have hxB : ((x : Int) != 0) = true := by rw [bne_iff_ne]; omega
        obtain ⟨mk, HMK⟩ : ∃ mk, Hid (mk = msk pl j) := ⟨_, rfl⟩
        obtain ⟨pw, HPW⟩ : ∃ pw : Nat, Hid (pw = 2 ^ j) := ⟨2 ^ j, rfl⟩
        have hmk : mk < pw := by rw [HMK.out, HPW.out]; exact msk_lt pl j
        have hpw : pw ≤ 64 := by rw [HPW.out]; exact Nat.pow_le_pow_right (n := 2) (j := 6) (by omega) (by omega)
        have hpI : (2 : Int) ^ j = (pw : Int) := by rw [HPW.out]; push_cast; rfl
        have hw8 : IntKind.u8.wrap (pw : Int) = pw := by rw [IntKind.wrap_u8]; omega
        obtain ⟨c8, H8⟩ : ∃ c8, Hid (c8 = 128 + mk) := ⟨_, rfl⟩
        obtain ⟨c9, H9⟩ : ∃ c9, Hid (c9 = 128 + mk + pw) := ⟨_, rfl⟩
        have HCE : Hid (cpyI pl (j + 1) = (c9 : Int) :: (byl pl j ++ [(x : Int)])) := by
          show _ = _
          have hne : ¬ byt pl j = 0 := by rw [← HX.out]; exact hx0
          unfold cpyI; rw [H9.out, msk, byl, if_neg hne, if_neg hne, ← HMK.out, ← HPW.out, ← HX.out, Nat.add_assoc]
        have HCJ : Hid (cpyI pl j = (c8 : Int) :: byl pl j) := by rw [H8.out, HMK.out]; rfl
        have hor8 : bits .or .u8 (c8 : Int) (pw : Int) = (c9 : Int) := by
          rw [u8_or_nat _ _ (by rw [H8.out]; omega) (by omega)]
          congr 1
          rw [H8.out, H9.out]
          rw [HPW.out] at hmk hpw ⊢
          exact or_bit mk j hj7 hmk
        have HO' : Hid (wr.ownsRow w.heap.size 5 1 (.slice (some ⟨g, 0, none⟩) (cpyI pl j).length cap) (cpyI pl j).length ((Value.int .u8 (c8 : Int)) :: (byl pl j).map (Value.int .u8))) := by
          have := HO.out
          rw [HCJ.out] at this ⊢
          exact this
        obtain ⟨k0, f0, hBg, hgl, hn0, hnc⟩ := own_head HO'.out
        obtain ⟨n, Hn⟩ : ∃ n, Hid (n = (cpyI pl j).length) := ⟨_, rfl⟩
        have HN1 : Hid ((cpyI pl (j + 1)).length = n + 1) := by show _ = _; rw [Hn.out, HCE.out, HCJ.out]; simp
        rw [← Hn.out] at HO HO' hn0 hnc ⊢
        have hnb : n ≤ 8 := by rw [Hn.out, HCJ.out]; have := byl_len pl j; simp; omega
        have hn0I : (0 : Int) < n := by omega
        have HOS : Hid ((wr.drew.setCell ⟨g, 0, none⟩ (.int .u8 c9)).ownsRow w.heap.size 5 1 (.slice (some ⟨g, 0, none⟩) n cap) n ((Value.int .u8 (c9 : Int)) :: (byl pl j).map (Value.int .u8))) := own_set0 (w := wr.drew) HO'.out _
        have HBS : Hid (Below w.heap.size w (wr.drew.setCell ⟨g, 0, none⟩ (.int .u8 c9))) := (below_drewN HB.out 1).setCell hBg _
        have hws : w.heap.size ≤ wr.heap.size := HB.out.size
        have k0d : wr.drew.cell? ⟨g, 0, none⟩ = some (.int .u8 c8) := k0
        have f0d : wr.drew.frozen? ⟨g, 0, none⟩ = false := f0
        go_wp2_with fail
        refine drew_tail 7 (by kernel_rfl) (by kernel_rfl) ?_
        iterate 7 (refine still_free rfl (fun K hK => ?_); go_simp; refine hK _ ?_; clear hK K)
        refine wpStill_nil ?_
        clear hor hpI hw8 hdv hsh
        go_wp2_with (at_builtin; refine wpList_append_own_at _ rfl _ _ 22 rfl w.heap.size 5 i5 (.int .u8 0) 1 1 Tryd.underlying22 hi hz0 hz1 hz2 rfl (by decide) (.slice (some ⟨g, 0, none⟩) n cap) n _ rfl (HOS.out.alloc _) ⟨wr.heap.size, 0, none⟩ 1 1 [.int .u8 x] (by first | rfl | simp) rfl (by first | exact cell_one_new _ _ _ | exact cell_new_set _ _ _ _) (ints_oneCell .u8 [(x : Int)]) (by unfold maxLen; omega) (by omega) (by simp [World.setCell]; omega) ?_; intro v' w1 hown' hgrow hnil hloc; obtain ⟨g2, cp2, rfl⟩ := own_form hown'; have HOW : Hid _ := hown'; have HGW : Hid _ := hgrow; clear hown' hgrow hnil hloc)
        go_roundg (7 - (j + 1))
        case measure => omega
        case rel =>
          refine ⟨j + 1, g2, cp2, by omega, by go_num, rfl, by rw [HN1.out], ?_, ?_⟩
          · show World.ownsRow _ _ _ _ _ _ _
            rw [HN1.out, HCE.out, show List.map (Value.int .u8) ((c9 : Int) :: (byl pl j ++ [(x : Int)])) = (Value.int .u8 (c9 : Int) :: (byl pl j).map (Value.int .u8)) ++ [.int .u8 x] by simp]
            exact HOW.out
          · exact (HBS.out.alloc (by simp [World.setCell]; omega) _).grown HGW.out (by simp [World.setCell]; omega) (fun k hk => by simp [Value.ownBlock] at hk; omega)
    · obtain rfl : j = 7 := by omega
      have hjI : ¬ (7 : Int) < 7 := by omega
      have HCP : Hid (cpyI pl 7 = cpy a l) := by rw [HPL.out]; rfl
      rw [HCP.out] at HO ⊢
      go_wp2_with fail
      go_ret
      exact ⟨g, cap, rfl, HO.out, HB.out⟩
end Go.Proofs.YtblegkefeiefjaaDoor
