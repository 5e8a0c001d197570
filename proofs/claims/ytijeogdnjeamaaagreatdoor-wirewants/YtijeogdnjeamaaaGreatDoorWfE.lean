/- 'ReadWant'. -/
import Derived.Test.YtijeogdnjeamaaaGreatDoorWfD
namespace Go.Proofs.YtijeogdnjeamaaaGreatDoor
open Go.RowKit
set_option linter.unusedVariables false
set_option linter.unusedSimpArgs false
theorem results_tmp3 {P : Program} {fn : Func} {p q r : Tmp} (h : fn.results = #[.tmp p, .tmp q, .tmp r]) (tmps : Array Value) (w : World) : (results fn tmps).run P w = .ok (.tuple #[tmps.getD p undef, tmps.getD q undef, tmps.getD r undef]) w := by
  simp [results, h]
theorem Tryz.results40 : Tryz.f40.results = #[.tmp 2, .tmp 3, .tmp 4] := by kernel_rfl
structure Qp (P : Nat) (x y : Value) (W : World) : Prop where
  c0 : W.cell? ⟨P, 0, none⟩ = some x
  c1 : W.cell? ⟨P, 1, none⟩ = some y
def PostRW (s : Str) (w : World) (G : Nat) (e : Ending) (w' : World) : Prop :=
  Below G w w' ∧ ((∃ W H v1 v2, Wok s W H ∧ e = .returned (.tuple #[v1, v2, .nilIface]) ∧ Bi 68 w w' G v1 W ∧ Bi 68 w w' G v2 H) ∨ ((¬ ∃ W H, Wok s W H) ∧ (∃ ls, okL ls ∧ s = pktL ls) ∧ e = .returned (.tuple #[.slice none 0 0, .slice none 0 0, .iface 37 (.int .i64 111)])) ∨ ((¬ ∃ ls, okL ls ∧ s = pktL ls) ∧ e = .returned (.tuple #[.slice none 0 0, .slice none 0 0, .iface 37 (.int .i64 110)])))
set_option maxRecDepth 20000 in
set_option maxHeartbeats 4000000 in
theorem readWant_any {w : World} (a : Option Addr) (cap : Nat) (s : Str) (hP : PB w a cap s) (hl : s.length ≤ 8000) (he : Ers w) (hd : Db w) :
    Calls Tryz.prog 40 #[.slice a s.length cap] w (PostRW s w w.heap.size) := by
  obtain ⟨G, HG⟩ : ∃ n, Hid (w.heap.size = n) := ⟨_, rfl⟩
  obtain ⟨m, HM⟩ : ∃ n, Hid (s.length = n) := ⟨_, rfl⟩
  have C74 : Hid (Calls Tryz.prog 74 #[.slice a m cap, .func (.func 75) #[] #[], .func (.func 76) #[] #[]] w (PostRB s w G)) := hid (by
    rw [← HM.out, ← HG.out]
    exact readBack_any a cap s hP hl he hd)
  rw [HM.out, HG.out]
  clear hP hl he hd
  go_enter Tryz.func40, Tryz.ntmps40
  go_wp2_with fail
  refine C74.out.mono ?_
  rintro e w2 ⟨hb2, ⟨W, H, v1, v2, hok, rfl, hbi1, hbi2⟩ | ⟨hno, hls, rfl⟩ | ⟨hno, rfl⟩⟩
  · obtain ⟨a1, c1, rfl, _⟩ := hbi1.px (d := []) (idw_row hok.iw)
    obtain ⟨a2, c2, rfl, _⟩ := hbi2.px (d := []) (idw_row hok.ih)
    obtain ⟨n1, HN1⟩ : ∃ n, Hid (W.length = n) := ⟨_, rfl⟩
    obtain ⟨n2, HN2⟩ : ∃ n, Hid (H.length = n) := ⟨_, rfl⟩
    rw [HN1.out] at hbi1
    rw [HN2.out] at hbi2
    rw [HN1.out, HN2.out]
    obtain ⟨P, HPP⟩ : ∃ n, Hid (w2.heap.size = n) := ⟨_, rfl⟩
    obtain ⟨w5, hw5, ht5, hb5, hr5⟩ := st_new w2 145 #[.slice none 0 0, .slice none 0 0] [.slice a1 n1 c1, .slice a2 n2 c2] rfl
    obtain ⟨wa, HWA⟩ : ∃ u, Hid (w2.alloc (.cells #[.slice none 0 0, .slice none 0 0] 145) = u) := ⟨_, rfl⟩
    rw [HWA.out, HPP.out] at hw5 ht5
    rw [HPP.out] at hr5
    have HW5 := hid hw5
    have T1 : Hid (wa.there P 0 (#[.slice a1 n1 c1, .slice a2 n2 c2] : Array Value).size) := hid ht5
    have T2 : Hid ((Tryz.prog.info? 145).map (·.size) = some (#[.slice a1 n1 c1, .slice a2 n2 c2] : Array Value).size) := hid size145
    have T3 : Hid ((#[.slice a1 n1 c1, .slice a2 n2 c2] : Array Value).all (·.oneCell') = true) := hid (by simp [Value.oneCell'])
    have hbd : Below w5.heap.size w5 w5.drew := ⟨rfl, rfl, rfl, Nat.le_refl _, fun _ _ => rfl⟩
    have hb25 : Below w2.heap.size w2 w5.drew := hb5.trans (hbd.mono hb5.size)
    have HBD : Hid (Below w2.heap.size w2 w5.drew) := hid hb25
    have HBW := hid hb2
    have HS2 : Hid (G ≤ w2.heap.size) := hid (by have := hb2.size; have := HG.out; omega)
    have hS0 : Qp P (.slice a1 n1 c1) (.slice a2 n2 c2) w5.drew := ⟨hr5 0 _ rfl, hr5 1 _ rfl⟩
    have HQ := hid hS0
    have F1 := hid hbi1
    have F2 := hid hbi2
    have HOK := hid hok
    have al4 : w2.alloc (.cells #[.slice none 0 0, .slice none 0 0] 145) = wa := HWA.out
    have hsP : w2.heap.size = P := HPP.out
    clear hb2 hw5 ht5 hb5 hr5 hbd hb25 hS0 hok hbi1 hbi2
    go_wp2_with (first
      | (refine wpList_store_mid rfl 145 _ _ rfl P 0 #[.slice a1 n1 c1, .slice a2 n2 c2] rfl rfl T1.out T2.out T3.out ?_; rw [HW5.out])
      | fail)
    refine wp_region_held_drew (S := Qp P (.slice a1 n1 c1) (.slice a2 n2 c2)) (by kernel_rfl) HQ.out (fun hHeld => ?_)
    generalize w5.drew = w6 at hHeld HBD ⊢
    refine takeL (i := 0) (v := ?_) rfl (by kernel_rfl) (by kernel_rfl) (by kernel_rfl) (fun _ _ _ h => h) (Or.inl ⟨by rfl, ?_⟩) hHeld ?_
    rotate_left
    · rintro w' ⟨c0, c1⟩; go_simp; rfl
    try simp only [Act.put, List.setIfInBounds_toArray, List.set_cons_zero, List.set_cons_succ]
    refine takeL (i := 1) (v := ?_) rfl (by kernel_rfl) (by kernel_rfl) (by kernel_rfl) (fun _ _ _ h => h) (Or.inl ⟨by rfl, ?_⟩) hHeld ?_
    rotate_left
    · rintro w' ⟨c0, c1⟩; go_simp; rfl
    try simp only [Act.put, List.setIfInBounds_toArray, List.set_cons_zero, List.set_cons_succ]
    refine takeL (i := 2) (v := ?_) rfl (by kernel_rfl) (by kernel_rfl) (by kernel_rfl) (fun _ _ _ h => h) (Or.inl ⟨by rfl, ?_⟩) hHeld ?_
    rotate_left
    · rintro w' ⟨c0, c1⟩; go_simp; rfl
    try simp only [Act.put, List.setIfInBounds_toArray, List.set_cons_zero, List.set_cons_succ]
    refine takeL (i := 3) (v := ?_) rfl (by kernel_rfl) (by kernel_rfl) (by kernel_rfl) (fun _ _ _ h => h) (Or.inl ⟨by rfl, ?_⟩) hHeld ?_
    rotate_left
    · rintro w' ⟨c0, c1⟩; go_simp; rfl
    try simp only [Act.put, List.setIfInBounds_toArray, List.set_cons_zero, List.set_cons_succ]
    refine takeL (i := 4) (v := ?_) rfl (by kernel_rfl) (by kernel_rfl) (by kernel_rfl) (fun _ _ _ h => h) (Or.inl ⟨by rfl, ?_⟩) hHeld ?_
    rotate_left
    · rintro w' ⟨c0, c1⟩; go_simp; rfl
    try simp only [Act.put, List.setIfInBounds_toArray, List.set_cons_zero, List.set_cons_succ]
    refine takeL (i := 5) (v := ?_) rfl (by kernel_rfl) (by kernel_rfl) (by kernel_rfl) (fun _ _ _ h => h) (Or.inl ⟨by rfl, ?_⟩) hHeld ?_
    rotate_left
    · rintro w' ⟨c0, c1⟩; go_simp; rfl
    try simp only [Act.put, List.setIfInBounds_toArray, List.set_cons_zero, List.set_cons_succ]
    refine takeL (i := 6) (v := ?_) rfl (by kernel_rfl) (by kernel_rfl) (by kernel_rfl) (fun _ _ _ h => h) (Or.inl ⟨by rfl, ?_⟩) hHeld ?_
    rotate_left
    · rintro w' ⟨c0, c1⟩; go_simp; rfl
    try simp only [Act.put, List.setIfInBounds_toArray, List.set_cons_zero, List.set_cons_succ]
    refine takeL (i := 7) (v := ?_) rfl (by kernel_rfl) (by kernel_rfl) (by kernel_rfl) (fun _ _ _ h => h) (Or.inl ⟨by rfl, ?_⟩) hHeld ?_
    rotate_left
    · rintro w' ⟨c0, c1⟩; go_simp; rfl
    try simp only [Act.put, List.setIfInBounds_toArray, List.set_cons_zero, List.set_cons_succ]
    refine wpAnyH_done (by kernel_rfl) ?_ _
    clear hHeld
    go_wp2
    refine bodyPost_ret (results_tmp3 Tryz.results40 _ _) rfl ?_
    have hbf : Below G w w6 := HBW.out.trans (HBD.out.mono HS2.out)
    exact ⟨hbf, .inl ⟨W, H, _, _, HOK.out, rfl, F1.out.carry HBD.out, F2.out.carry HBD.out⟩⟩
  · obtain ⟨P, HPP⟩ : ∃ n, Hid (w2.heap.size = n) := ⟨_, rfl⟩
    obtain ⟨w5, hw5, ht5, hb5, hr5⟩ := st_new w2 145 #[.slice none 0 0, .slice none 0 0] [.slice none 0 0, .slice none 0 0] rfl
    obtain ⟨wa, HWA⟩ : ∃ u, Hid (w2.alloc (.cells #[.slice none 0 0, .slice none 0 0] 145) = u) := ⟨_, rfl⟩
    rw [HWA.out, HPP.out] at hw5 ht5
    rw [HPP.out] at hr5
    have HW5 := hid hw5
    have T1 : Hid (wa.there P 0 (#[.slice none 0 0, .slice none 0 0] : Array Value).size) := hid ht5
    have T2 : Hid ((Tryz.prog.info? 145).map (·.size) = some (#[.slice none 0 0, .slice none 0 0] : Array Value).size) := hid size145
    have T3 : Hid ((#[.slice none 0 0, .slice none 0 0] : Array Value).all (·.oneCell') = true) := hid (by simp [Value.oneCell'])
    have hbd : Below w5.heap.size w5 w5.drew := ⟨rfl, rfl, rfl, Nat.le_refl _, fun _ _ => rfl⟩
    have hb25 : Below w2.heap.size w2 w5.drew := hb5.trans (hbd.mono hb5.size)
    have HBD : Hid (Below w2.heap.size w2 w5.drew) := hid hb25
    have HBW := hid hb2
    have HS2 : Hid (G ≤ w2.heap.size) := hid (by have := hb2.size; have := HG.out; omega)
    have hS0 : Qp P (.slice none 0 0) (.slice none 0 0) w5.drew := ⟨hr5 0 _ rfl, hr5 1 _ rfl⟩
    have HQ := hid hS0
    have HNO := hid hno
    have HLS := hid hls
    have al4 : w2.alloc (.cells #[.slice none 0 0, .slice none 0 0] 145) = wa := HWA.out
    have hsP : w2.heap.size = P := HPP.out
    clear hb2 hw5 ht5 hb5 hr5 hbd hb25 hS0 hno hls
    go_wp2_with (first
      | (refine wpList_store_mid rfl 145 _ _ rfl P 0 #[.slice none 0 0, .slice none 0 0] rfl rfl T1.out T2.out T3.out ?_; rw [HW5.out])
      | fail)
    refine wp_region_held_drew (S := Qp P (.slice none 0 0) (.slice none 0 0)) (by kernel_rfl) HQ.out (fun hHeld => ?_)
    generalize w5.drew = w6 at hHeld HBD ⊢
    refine takeL (i := 0) (v := ?_) rfl (by kernel_rfl) (by kernel_rfl) (by kernel_rfl) (fun _ _ _ h => h) (Or.inl ⟨by rfl, ?_⟩) hHeld ?_
    rotate_left
    · rintro w' ⟨c0, c1⟩; go_simp; rfl
    try simp only [Act.put, List.setIfInBounds_toArray, List.set_cons_zero, List.set_cons_succ]
    refine takeL (i := 1) (v := ?_) rfl (by kernel_rfl) (by kernel_rfl) (by kernel_rfl) (fun _ _ _ h => h) (Or.inl ⟨by rfl, ?_⟩) hHeld ?_
    rotate_left
    · rintro w' ⟨c0, c1⟩; go_simp; rfl
    try simp only [Act.put, List.setIfInBounds_toArray, List.set_cons_zero, List.set_cons_succ]
    refine takeL (i := 2) (v := ?_) rfl (by kernel_rfl) (by kernel_rfl) (by kernel_rfl) (fun _ _ _ h => h) (Or.inl ⟨by rfl, ?_⟩) hHeld ?_
    rotate_left
    · rintro w' ⟨c0, c1⟩; go_simp; rfl
    try simp only [Act.put, List.setIfInBounds_toArray, List.set_cons_zero, List.set_cons_succ]
    refine takeL (i := 3) (v := ?_) rfl (by kernel_rfl) (by kernel_rfl) (by kernel_rfl) (fun _ _ _ h => h) (Or.inl ⟨by rfl, ?_⟩) hHeld ?_
    rotate_left
    · rintro w' ⟨c0, c1⟩; go_simp; rfl
    try simp only [Act.put, List.setIfInBounds_toArray, List.set_cons_zero, List.set_cons_succ]
    refine takeL (i := 4) (v := ?_) rfl (by kernel_rfl) (by kernel_rfl) (by kernel_rfl) (fun _ _ _ h => h) (Or.inl ⟨by rfl, ?_⟩) hHeld ?_
    rotate_left
    · rintro w' ⟨c0, c1⟩; go_simp; rfl
    try simp only [Act.put, List.setIfInBounds_toArray, List.set_cons_zero, List.set_cons_succ]
    refine takeL (i := 5) (v := ?_) rfl (by kernel_rfl) (by kernel_rfl) (by kernel_rfl) (fun _ _ _ h => h) (Or.inl ⟨by rfl, ?_⟩) hHeld ?_
    rotate_left
    · rintro w' ⟨c0, c1⟩; go_simp; rfl
    try simp only [Act.put, List.setIfInBounds_toArray, List.set_cons_zero, List.set_cons_succ]
    refine takeL (i := 6) (v := ?_) rfl (by kernel_rfl) (by kernel_rfl) (by kernel_rfl) (fun _ _ _ h => h) (Or.inl ⟨by rfl, ?_⟩) hHeld ?_
    rotate_left
    · rintro w' ⟨c0, c1⟩; go_simp; rfl
    try simp only [Act.put, List.setIfInBounds_toArray, List.set_cons_zero, List.set_cons_succ]
    refine takeL (i := 7) (v := ?_) rfl (by kernel_rfl) (by kernel_rfl) (by kernel_rfl) (fun _ _ _ h => h) (Or.inl ⟨by rfl, ?_⟩) hHeld ?_
    rotate_left
    · rintro w' ⟨c0, c1⟩; go_simp; rfl
    try simp only [Act.put, List.setIfInBounds_toArray, List.set_cons_zero, List.set_cons_succ]
    refine wpAnyH_done (by kernel_rfl) ?_ _
    clear hHeld
    go_wp2
    refine bodyPost_ret (results_tmp3 Tryz.results40 _ _) rfl ?_
    have hbf : Below G w w6 := HBW.out.trans (HBD.out.mono HS2.out)
    exact ⟨hbf, .inr (.inl ⟨HNO.out, HLS.out, rfl⟩)⟩
  · obtain ⟨P, HPP⟩ : ∃ n, Hid (w2.heap.size = n) := ⟨_, rfl⟩
    obtain ⟨w5, hw5, ht5, hb5, hr5⟩ := st_new w2 145 #[.slice none 0 0, .slice none 0 0] [.slice none 0 0, .slice none 0 0] rfl
    obtain ⟨wa, HWA⟩ : ∃ u, Hid (w2.alloc (.cells #[.slice none 0 0, .slice none 0 0] 145) = u) := ⟨_, rfl⟩
    rw [HWA.out, HPP.out] at hw5 ht5
    rw [HPP.out] at hr5
    have HW5 := hid hw5
    have T1 : Hid (wa.there P 0 (#[.slice none 0 0, .slice none 0 0] : Array Value).size) := hid ht5
    have T2 : Hid ((Tryz.prog.info? 145).map (·.size) = some (#[.slice none 0 0, .slice none 0 0] : Array Value).size) := hid size145
    have T3 : Hid ((#[.slice none 0 0, .slice none 0 0] : Array Value).all (·.oneCell') = true) := hid (by simp [Value.oneCell'])
    have hbd : Below w5.heap.size w5 w5.drew := ⟨rfl, rfl, rfl, Nat.le_refl _, fun _ _ => rfl⟩
    have hb25 : Below w2.heap.size w2 w5.drew := hb5.trans (hbd.mono hb5.size)
    have HBD : Hid (Below w2.heap.size w2 w5.drew) := hid hb25
    have HBW := hid hb2
    have HS2 : Hid (G ≤ w2.heap.size) := hid (by have := hb2.size; have := HG.out; omega)
    have hS0 : Qp P (.slice none 0 0) (.slice none 0 0) w5.drew := ⟨hr5 0 _ rfl, hr5 1 _ rfl⟩
    have HQ := hid hS0
    have HNO := hid hno
    have al4 : w2.alloc (.cells #[.slice none 0 0, .slice none 0 0] 145) = wa := HWA.out
    have hsP : w2.heap.size = P := HPP.out
    clear hb2 hw5 ht5 hb5 hr5 hbd hb25 hS0 hno
    go_wp2_with (first
      | (refine wpList_store_mid rfl 145 _ _ rfl P 0 #[.slice none 0 0, .slice none 0 0] rfl rfl T1.out T2.out T3.out ?_; rw [HW5.out])
      | fail)
    refine wp_region_held_drew (S := Qp P (.slice none 0 0) (.slice none 0 0)) (by kernel_rfl) HQ.out (fun hHeld => ?_)
    generalize w5.drew = w6 at hHeld HBD ⊢
    refine takeL (i := 0) (v := ?_) rfl (by kernel_rfl) (by kernel_rfl) (by kernel_rfl) (fun _ _ _ h => h) (Or.inl ⟨by rfl, ?_⟩) hHeld ?_
    rotate_left
    · rintro w' ⟨c0, c1⟩; go_simp; rfl
    try simp only [Act.put, List.setIfInBounds_toArray, List.set_cons_zero, List.set_cons_succ]
    refine takeL (i := 1) (v := ?_) rfl (by kernel_rfl) (by kernel_rfl) (by kernel_rfl) (fun _ _ _ h => h) (Or.inl ⟨by rfl, ?_⟩) hHeld ?_
    rotate_left
    · rintro w' ⟨c0, c1⟩; go_simp; rfl
    try simp only [Act.put, List.setIfInBounds_toArray, List.set_cons_zero, List.set_cons_succ]
    refine takeL (i := 2) (v := ?_) rfl (by kernel_rfl) (by kernel_rfl) (by kernel_rfl) (fun _ _ _ h => h) (Or.inl ⟨by rfl, ?_⟩) hHeld ?_
    rotate_left
    · rintro w' ⟨c0, c1⟩; go_simp; rfl
    try simp only [Act.put, List.setIfInBounds_toArray, List.set_cons_zero, List.set_cons_succ]
    refine takeL (i := 3) (v := ?_) rfl (by kernel_rfl) (by kernel_rfl) (by kernel_rfl) (fun _ _ _ h => h) (Or.inl ⟨by rfl, ?_⟩) hHeld ?_
    rotate_left
    · rintro w' ⟨c0, c1⟩; go_simp; rfl
    try simp only [Act.put, List.setIfInBounds_toArray, List.set_cons_zero, List.set_cons_succ]
    refine takeL (i := 4) (v := ?_) rfl (by kernel_rfl) (by kernel_rfl) (by kernel_rfl) (fun _ _ _ h => h) (Or.inl ⟨by rfl, ?_⟩) hHeld ?_
    rotate_left
    · rintro w' ⟨c0, c1⟩; go_simp; rfl
    try simp only [Act.put, List.setIfInBounds_toArray, List.set_cons_zero, List.set_cons_succ]
    refine takeL (i := 5) (v := ?_) rfl (by kernel_rfl) (by kernel_rfl) (by kernel_rfl) (fun _ _ _ h => h) (Or.inl ⟨by rfl, ?_⟩) hHeld ?_
    rotate_left
    · rintro w' ⟨c0, c1⟩; go_simp; rfl
    try simp only [Act.put, List.setIfInBounds_toArray, List.set_cons_zero, List.set_cons_succ]
    refine takeL (i := 6) (v := ?_) rfl (by kernel_rfl) (by kernel_rfl) (by kernel_rfl) (fun _ _ _ h => h) (Or.inl ⟨by rfl, ?_⟩) hHeld ?_
    rotate_left
    · rintro w' ⟨c0, c1⟩; go_simp; rfl
    try simp only [Act.put, List.setIfInBounds_toArray, List.set_cons_zero, List.set_cons_succ]
    refine takeL (i := 7) (v := ?_) rfl (by kernel_rfl) (by kernel_rfl) (by kernel_rfl) (fun _ _ _ h => h) (Or.inl ⟨by rfl, ?_⟩) hHeld ?_
    rotate_left
    · rintro w' ⟨c0, c1⟩; go_simp; rfl
    try simp only [Act.put, List.setIfInBounds_toArray, List.set_cons_zero, List.set_cons_succ]
    refine wpAnyH_done (by kernel_rfl) ?_ _
    clear hHeld
    go_wp2
    refine bodyPost_ret (results_tmp3 Tryz.results40 _ _) rfl ?_
    have hbf : Below G w w6 := HBW.out.trans (HBD.out.mono HS2.out)
    exact ⟨hbf, .inr (.inr ⟨HNO.out, rfl⟩)⟩
end Go.Proofs.YtijeogdnjeamaaaGreatDoor
