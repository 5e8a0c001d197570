/- The document's 'twice', 'text'. -/
import Derived.Test.YtijeogdnjeamaaaGreatDoorWgG
namespace Go.Proofs.YtijeogdnjeamaaaGreatDoor
open Go.RowKit
set_option linter.unusedVariables false
set_option linter.unusedSimpArgs false
set_option maxRecDepth 20000 in
set_option maxHeartbeats 4000000 in
theorem twice_any {w : World} (a : Option Addr) (cap : Nat) (l : List (List Int)) (hP : Pa w a cap l) (hl : IdL l) (hn : l.length ≤ 1000) :
    Calls Tryz.prog 39 #[.slice a l.length cap] w fun e w' => BI (¬ l.Nodup) e ∧ Below w.heap.size w w' := by
  obtain ⟨m, HM⟩ : ∃ n, Hid (l.length = n) := ⟨_, rfl⟩
  obtain ⟨G, HG⟩ : ∃ n, Hid (w.heap.size = n) := ⟨_, rfl⟩
  have hm : m ≤ 1000 := by rw [← HM.out]; exact hn
  have hm5 : ¬ (5000 : Int) < (m : Int) := by omega
  have HPA : Hid (∀ W, Below G w W → Pa W a cap l) := hid (fun W hW => hP.below (by rw [HG.out]; exact hW))
  have HPL : Hid (0 < m → ∃ b off, a = some ⟨b, off, none⟩) := hid (fun h => by
    obtain ⟨b, off, e1, _⟩ := hP.at_ (by rw [HM.out]; exact h)
    exact ⟨b, off, e1⟩)
  have HIL := hid hl
  rw [HM.out, HG.out]
  clear hP hl hn
  go_enter Tryz.func39, Tryz.ntmps39
  go_wp2_with fail
  go_loopg [3, 4] m (fun gg iv kv0 wr => ∃ i : Nat, i ≤ m ∧ gg = m - i ∧ iv = .int .i64 i ∧ Hid (Below G w wr) ∧ Hid ((l.take i).Nodup))
  case atStart => exact ⟨0, Nat.zero_le _, rfl, rfl, hid (Below.refl _ _), hid (by simp)⟩
  case round =>
    obtain ⟨i, hi, hk, rfl, HB, HND⟩ := hrel
    by_cases hlt : i < m
    · have hlti : (i : Int) < (m : Int) := by omega
      obtain ⟨b, off, rfl⟩ := HPL.out (by omega)
      have hil : i < l.length := by rw [HM.out]; exact hlt
      obtain ⟨x, HX⟩ : ∃ x, Hid (l.getD i [] = x) := ⟨_, rfl⟩
      have HXW : Hid (IdW x) := hid (HIL.out x (by rw [← HX.out]; exact getD_mem l i _ hil))
      obtain ⟨RX, HRX⟩ : ∃ R : List Value, Hid (row .u8 x = R) := ⟨_, rfl⟩
      have hiX : (Tryz.prog.info? 67).map (·.size) = some RX.length := by rw [← HRX.out, row_len, HXW.out.1]; exact size67
      have HTX : Hid (l.take (i + 1) = l.take i ++ [x]) := hid (by rw [take_snocG [] l i hil, HX.out])
      have HNO : Hid (x ∈ l.take i → ¬ l.Nodup) := hid (fun h => not_nodup hil HX.out h)
      go_wp2_with fail
      go_loopg [4] i (fun gg kv wq => ∃ k : Nat, k ≤ i ∧ gg = i - k ∧ kv = .int .i64 k ∧ Hid (Below G w wq) ∧ Hid (x ∉ l.take k))
      case atStart => exact ⟨0, Nat.zero_le _, rfl, rfl, HB, hid (by simp)⟩
      case round =>
        obtain ⟨k, hki, hkk, rfl, HBq, HNI⟩ := hrel
        by_cases hlk : k < i
        · have hlki : (k : Int) < (i : Int) := by omega
          have hkl : k < l.length := by omega
          have hkm : (k : Int) < (m : Int) := by omega
          obtain ⟨y, HY⟩ : ∃ x, Hid (l.getD k [] = x) := ⟨_, rfl⟩
          have HYW : Hid (IdW y) := hid (HIL.out y (by rw [← HY.out]; exact getD_mem l k _ hkl))
          obtain ⟨RY, HRY⟩ : ∃ R : List Value, Hid (row .u8 y = R) := ⟨_, rfl⟩
          have hiY : (Tryz.prog.info? 67).map (·.size) = some RY.length := by rw [← HRY.out, row_len, HYW.out.1]; exact size67
          have HBd : Hid (Below G w wr.drew) := hid (below_drewH HBq.out 1)
          have hSd : QS b (off + i * 20) b (off + k * 20) RX RY wr.drew := by
            obtain ⟨b', off', e1, _, e3⟩ := (HPA.out _ HBd.out).at_ (by rw [HM.out]; omega)
            cases e1
            refine ⟨?_, ?_⟩
            · have := e3 i hil
              rw [HX.out, HRX.out] at this
              exact this
            · have := e3 k hkl
              rw [HY.out, HRY.out] at this
              exact this
          have HEQ : Hid (∀ W : World, (Op.equalIn 10000 67 (.agg RX.toArray) (.agg RY.toArray)).run Tryz.prog W = .ok (decide (x = y)) W) := hid (fun W => by rw [← HRX.out, ← HRY.out]; exact eq67 x y HXW.out.1 HYW.out.1 W)
          have HTY : Hid (l.take (k + 1) = l.take k ++ [y]) := hid (by rw [take_snocG [] l k hkl, HY.out])
          have HMY : Hid (y ∈ l.take i) := hid (by
            rw [← HY.out, List.getD_eq_getElem?_getD, List.getElem?_eq_getElem hkl]
            exact List.mem_iff_getElem.2 ⟨k, by rw [List.length_take]; omega, by simp⟩)
          go_wp2_with fail
          refine wp_region_held_drew (S := QS b (off + i * 20) b (off + k * 20) RX RY) (by kernel_rfl) hSd (fun hHeld => ?_)
          clear hSd
          generalize wr.drew = u0 at hHeld HBd ⊢
          refine takeL (i := 0) (v := ?_) rfl (by kernel_rfl) (by kernel_rfl) (by kernel_rfl) (fun _ _ _ h => h) (Or.inl ⟨by rfl, ?_⟩) hHeld ?_
          rotate_left
          · rintro w' ⟨r0, r1⟩; go_simp; rfl
          try simp only [Act.put, List.setIfInBounds_toArray, List.set_cons_zero, List.set_cons_succ]
          refine takeL (i := 1) (v := ?_) rfl (by kernel_rfl) (by kernel_rfl) (by kernel_rfl) (fun _ _ _ h => h) (Or.inl ⟨by rfl, ?_⟩) hHeld ?_
          rotate_left
          · rintro w' ⟨r0, r1⟩; go_simp; rfl
          try simp only [Act.put, List.setIfInBounds_toArray, List.set_cons_zero, List.set_cons_succ]
          refine takeL (i := 2) (v := ?_) rfl (by kernel_rfl) (by kernel_rfl) (by kernel_rfl) (fun _ _ _ h => h) (Or.inl ⟨by rfl, ?_⟩) hHeld ?_
          rotate_left
          · rintro w' ⟨r0, r1⟩; go_simp; rfl
          try simp only [Act.put, List.setIfInBounds_toArray, List.set_cons_zero, List.set_cons_succ]
          refine takeL (i := 3) (v := .agg RX.toArray) rfl (by kernel_rfl) (by kernel_rfl) (by kernel_rfl) (fun _ _ _ h => h) (yieldsIf_load_mid (by kernel_rfl) 67 _ rfl b (off + i * 20) (by rfl) RX _ (fun w' h => h.r0) Tryz.underlying67 rfl hiX) hHeld ?_
          try simp only [Act.put, List.setIfInBounds_toArray, List.set_cons_zero, List.set_cons_succ]
          refine takeL (i := 4) (v := ?_) rfl (by kernel_rfl) (by kernel_rfl) (by kernel_rfl) (fun _ _ _ h => h) (Or.inl ⟨by rfl, ?_⟩) hHeld ?_
          rotate_left
          · rintro w' ⟨r0, r1⟩; go_simp; rfl
          try simp only [Act.put, List.setIfInBounds_toArray, List.set_cons_zero, List.set_cons_succ]
          refine takeL (i := 5) (v := ?_) rfl (by kernel_rfl) (by kernel_rfl) (by kernel_rfl) (fun _ _ _ h => h) (Or.inl ⟨by rfl, ?_⟩) hHeld ?_
          rotate_left
          · rintro w' ⟨r0, r1⟩; go_simp; rfl
          try simp only [Act.put, List.setIfInBounds_toArray, List.set_cons_zero, List.set_cons_succ]
          refine takeL (i := 6) (v := ?_) rfl (by kernel_rfl) (by kernel_rfl) (by kernel_rfl) (fun _ _ _ h => h) (Or.inl ⟨by rfl, ?_⟩) hHeld ?_
          rotate_left
          · rintro w' ⟨r0, r1⟩; go_simp; rfl
          try simp only [Act.put, List.setIfInBounds_toArray, List.set_cons_zero, List.set_cons_succ]
          refine takeL (i := 7) (v := .agg RY.toArray) rfl (by kernel_rfl) (by kernel_rfl) (by kernel_rfl) (fun _ _ _ h => h) (yieldsIf_load_mid (by kernel_rfl) 67 _ rfl b (off + k * 20) (by rfl) RY _ (fun w' h => h.r1) Tryz.underlying67 rfl hiY) hHeld ?_
          try simp only [Act.put, List.setIfInBounds_toArray, List.set_cons_zero, List.set_cons_succ]
          by_cases hxy : x = y
          · have heq : ∀ W : World, (Op.equalIn 10000 67 (.agg RX.toArray) (.agg RY.toArray)).run Tryz.prog W = .ok true W := fun W => by rw [HEQ.out W, decide_eq_true hxy]
            have HNN : Hid (¬ l.Nodup) := hid (HNO.out (by rw [hxy]; exact HMY.out))
            refine takeL (i := 8) (v := .bool true) rfl (by kernel_rfl) (by kernel_rfl) (by kernel_rfl) (fun _ _ _ h => h) (Or.inl ⟨by rfl, ?_⟩) hHeld ?_
            · rintro w' _; go_simp; try rfl
            try simp only [Act.put, List.setIfInBounds_toArray, List.set_cons_zero, List.set_cons_succ]
            refine wpAnyH_done (by kernel_rfl) ?_ _
            clear hHeld heq
            go_wp2
            go_ret
            exact ⟨⟨true, ⟨fun _ => HNN.out, fun _ => rfl⟩, rfl⟩, HBd.out⟩
          · have heq : ∀ W : World, (Op.equalIn 10000 67 (.agg RX.toArray) (.agg RY.toArray)).run Tryz.prog W = .ok false W := fun W => by rw [HEQ.out W, decide_eq_false hxy]
            have HNI2 : Hid (x ∉ l.take (k + 1)) := hid (by
              rw [HTY.out]
              intro h
              rcases List.mem_append.1 h with h | h
              · exact HNI.out h
              · exact hxy (List.mem_singleton.1 h))
            refine takeL (i := 8) (v := .bool false) rfl (by kernel_rfl) (by kernel_rfl) (by kernel_rfl) (fun _ _ _ h => h) (Or.inl ⟨by rfl, ?_⟩) hHeld ?_
            · rintro w' _; go_simp; try rfl
            try simp only [Act.put, List.setIfInBounds_toArray, List.set_cons_zero, List.set_cons_succ]
            refine wpAnyH_done (by kernel_rfl) ?_ _
            clear hHeld heq
            go_wp2
            go_roundg (i - (k + 1))
            case measure => omega
            case rel => exact ⟨k + 1, by omega, rfl, by go_num, HBd, HNI2⟩
        · have hlki : ¬ (k : Int) < (i : Int) := by omega
          have HND2 : Hid ((l.take (i + 1)).Nodup) := hid (by
            rw [HTX.out]
            refine nodup_snoc HND.out ?_
            have := HNI.out
            rwa [show k = i by omega] at this)
          go_wp2
          go_roundg (m - (i + 1))
          case measure => omega
          case rel => exact ⟨i + 1, by omega, rfl, by go_num, HBq, HND2⟩
    · have hlti : ¬ (i : Int) < (m : Int) := by omega
      have HNF : Hid (l.Nodup) := hid (by
        have := HND.out
        rw [List.take_of_length_le (by rw [HM.out]; omega)] at this
        exact this)
      go_wp2
      go_ret
      exact ⟨⟨false, ⟨fun h => (by cases h), fun h => absurd HNF.out h⟩, by show Ending.returned (.bool (decide ((5000 : Int) < (m : Int)))) = _; rw [decide_eq_false (by omega)]⟩, HB.out⟩
set_option maxRecDepth 20000 in
theorem text_any {w : World} (s : Str) (hs : s ≠ []) (hl : s.length ≤ 990) : Calls Tryz.prog 33 #[.string ⟨s.toArray⟩] w (PostLi (tx s) w) := by
  obtain ⟨X, HX⟩ : ∃ X : ByteArray, Hid (⟨s.toArray⟩ = X) := ⟨_, hid rfl⟩
  obtain ⟨Y, HY⟩ : ∃ X : ByteArray, Hid (⟨(tx s).toArray⟩ = X) := ⟨_, hid rfl⟩
  have htx : tx s = s ++ [10] := by rw [tx, if_neg hs]
  have hcat : X ++ ⟨#[10]⟩ = Y := by rw [← HX.out, ← HY.out, htx]; exact str_app s [10]
  obtain ⟨q, HQ⟩ : ∃ q, Hid (s.length = q) := ⟨_, rfl⟩
  have hq990 : q ≤ 990 := by rw [← HQ.out]; exact hl
  have hxz : X.size = q := by rw [← HX.out, txt_len]; exact HQ.out
  have h10 : (⟨#[10]⟩ : ByteArray).size = 1 := rfl
  obtain ⟨c2, w2, hr2, hp2, hb2⟩ := conv_bytes (tx s) w
  rw [HY.out] at hr2
  obtain ⟨K, HK2⟩ : ∃ K, Hid ((tx s).length = K) := ⟨_, rfl⟩
  rw [HK2.out] at hr2
  obtain ⟨G, HG⟩ : ∃ n, Hid (w.heap.size = n) := ⟨_, rfl⟩
  have CL : Hid (Calls Tryz.prog 60 #[.slice (some ⟨G, 0, none⟩) K c2] w2 (PostLi (tx s) w2)) := hid (by
    rw [← HK2.out]
    exact line_any _ c2 (tx s) (by rw [← HG.out]; exact hp2) (by rw [htx, List.length_append]; simp; omega))
  rw [HG.out] at hr2
  have HB2 := hid hb2
  rw [HX.out]
  unfold PostLi
  clear hp2 hb2 hs htx hl
  go_enter Tryz.func33, Tryz.ntmps33
  go_wp2_with fail
  refine CL.out.mono ?_
  rintro e w3 ⟨hb3, g, c, rfl, hg, hp⟩
  have H1 : Hid (Below w.heap.size w w3) := hid (HB2.out.trans (hb3.mono HB2.out.size))
  have H2 : Hid (w.heap.size ≤ g) := hid (Nat.le_trans HB2.out.size hg)
  have H3 := hid hp
  clear hb3 hg hp
  go_wp2
  go_ret
  exact ⟨H1.out, g, c, rfl, H2.out, H3.out⟩
end Go.Proofs.YtijeogdnjeamaaaGreatDoor
