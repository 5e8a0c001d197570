/- 'needRoom', 'readLength', 'readDistance'. -/
import Derived.Test.YtbiibhpknflagaaDoorDecB
namespace Go.Proofs.YtbiibhpknflagaaDoor
open Go.RowKit Plain

theorem owns_shape {w : World} {B : Nat} {e : TypeId} {s : Nat} {v : Value} {n : Nat} {xs : List Value} (h : w.ownsRow B e s v n xs) : ∃ a cp, v = .slice a n cp := by
  obtain ⟨_, ⟨rfl, rfl⟩ | ⟨g, cap, cur, rfl, _⟩⟩ := h
  · exact ⟨none, 0, rfl⟩
  · exact ⟨_, cap, rfl⟩

set_option maxHeartbeats 400000 in
theorem needRoom_ok (E : Env) (nx hold held n k cp : Nat) (a : Option Addr) (w : World) (hm : E.most ≤ 400000) (hk : k ≤ 400000) (hn : n ≤ 400000) (h0 : 0 ≤ E.most) (h : Str w E nx hold held (.slice a k cp)) (hr : (n : Int) ≤ E.most - k) :
    Calls Tryd.prog 52 #[.pointer (some ⟨E.S, 0, none⟩), .int .i64 n] w fun e w' => e = .returned (.tuple #[]) ∧ ∃ q, w' = w.drewN q := by
  obtain ⟨c0, c1, c2, c3, c4, c5, c6, fz, src, ibS, ibv, ibl, Sl, Sv⟩ := h
  go_enter Tryd.func52, Tryd.ntmps52
  go_wp2
  go_quiet (fail)
  go_wp2
  go_end0
  exact ⟨rfl, _, rfl⟩
set_option maxHeartbeats 400000 in
theorem needRoom_bad (E : Env) (nx hold held n k cp : Nat) (a : Option Addr) (w : World) (hm : E.most ≤ 400000) (hk : k ≤ 400000) (hn : n ≤ 400000) (h0 : 0 ≤ E.most) (h : Str w E nx hold held (.slice a k cp)) (hr : ¬ (n : Int) ≤ E.most - k) :
    Calls Tryd.prog 52 #[.pointer (some ⟨E.S, 0, none⟩), .int .i64 n] w fun e w' => e = .panicked (errv 11) ∧ ∃ q, w' = w.drewN q := by
  obtain ⟨c0, c1, c2, c3, c4, c5, c6, fz, src, ibS, ibv, ibl, Sl, Sv⟩ := h
  go_enter Tryd.func52, Tryd.ntmps52
  go_wp2
  go_quiet (fail)
  go_wp2
  exact ⟨rfl, rfl, _, rfl⟩

/-- The five tables, as they lie. -/
def lenStart : List Nat := [3, 4, 5, 6, 7, 8, 9, 10, 11, 13, 15, 17, 19, 23, 27, 31, 35, 43, 51, 59, 67, 83, 99, 115, 131, 163, 195, 227, 258]
def lenBits : List Nat := [0, 0, 0, 0, 0, 0, 0, 0, 1, 1, 1, 1, 2, 2, 2, 2, 3, 3, 3, 3, 4, 4, 4, 4, 5, 5, 5, 5, 0]
def distStart : List Nat := [1, 2, 3, 4, 5, 7, 9, 13, 17, 25, 33, 49, 65, 97, 129, 193, 257, 385, 513, 769, 1025, 1537, 2049, 3073, 4097, 6145, 8193, 12289, 16385, 24577]
def distBits : List Nat := [0, 0, 0, 0, 1, 1, 2, 2, 3, 3, 4, 4, 5, 5, 6, 6, 7, 7, 8, 8, 9, 9, 10, 10, 11, 11, 12, 12, 13, 13]
def third : List Nat := [16, 17, 18, 0, 8, 7, 9, 6, 10, 5, 11, 4, 12, 3, 13, 2, 14, 1, 15]
structure Tabs (w : World) (E : Env) (v : Value) : Prop where
  t2 : ∀ i, i < 29 → w.cell? ⟨2, i, none⟩ = some (.int .i64 (lenStart.getD i 0 : Nat))
  t3 : ∀ i, i < 29 → w.cell? ⟨3, i, none⟩ = some (.int .i64 (lenBits.getD i 0 : Nat))
  t4 : ∀ i, i < 30 → w.cell? ⟨4, i, none⟩ = some (.int .i64 (distStart.getD i 0 : Nat))
  t5 : ∀ i, i < 30 → w.cell? ⟨5, i, none⟩ = some (.int .i64 (distBits.getD i 0 : Nat))
  t6 : ∀ i, i < 19 → w.cell? ⟨6, i, none⟩ = some (.int .i64 (third.getD i 0 : Nat))
  a2 : Apart w E v 2
  a3 : Apart w E v 3
  a4 : Apart w E v 4
  a5 : Apart w E v 5
  a6 : Apart w E v 6
theorem Tabs.kept {w w' : World} {E : Env} {v v' : Value} (h : Tabs w E v) (hk : Kept E.S v v' w w') : Tabs w' E v' where
  t2 i hi := (hk.cell (p := ⟨2, i, none⟩) h.a2.lt h.a2.neS h.a2.nev).trans (h.t2 i hi)
  t3 i hi := (hk.cell (p := ⟨3, i, none⟩) h.a3.lt h.a3.neS h.a3.nev).trans (h.t3 i hi)
  t4 i hi := (hk.cell (p := ⟨4, i, none⟩) h.a4.lt h.a4.neS h.a4.nev).trans (h.t4 i hi)
  t5 i hi := (hk.cell (p := ⟨5, i, none⟩) h.a5.lt h.a5.neS h.a5.nev).trans (h.t5 i hi)
  t6 i hi := (hk.cell (p := ⟨6, i, none⟩) h.a6.lt h.a6.neS h.a6.nev).trans (h.t6 i hi)
  a2 := h.a2.kept hk
  a3 := h.a3.kept hk
  a4 := h.a4.kept hk
  a5 := h.a5.kept hk
  a6 := h.a6.kept hk

theorem tab_bd : ∀ i, i < 30 → lenStart.getD i 0 ≤ 258 ∧ lenBits.getD i 0 ≤ 5 ∧ distStart.getD i 0 ≤ 24577 ∧ distBits.getD i 0 ≤ 13 := by decide

set_option maxHeartbeats 1000000 in
theorem readLength_ok (E : Env) (p n : Nat) (v : Value) (w : World) (hz : IsB E.zs) (hl : E.zs.length ≤ 400000) (h : Rd w E p v) (ht : Tabs w E v) (hn : n < 29) (hp : p + lenBits.getD n 0 ≤ 8 * E.zs.length) :
    Calls Tryd.prog 53 #[.pointer (some ⟨E.S, 0, none⟩), .int .i64 n] w fun e w' => e = .returned (.int .i64 (lenStart.getD n 0 + getB E.zs p (lenBits.getD n 0) : Nat)) ∧ Rd w' E (p + lenBits.getD n 0) v ∧ Kept E.S (.bool true) (.bool true) w w' := by
  have b1 : lenStart.getD n 0 ≤ 258 := (tab_bd n (by omega)).1
  have b2 : lenBits.getD n 0 ≤ 5 := (tab_bd n (by omega)).2.1
  have s2 := ht.t2 n hn
  have s3 := ht.t3 n hn
  obtain ⟨x, HX⟩ : ∃ x, Hid (x = lenStart.getD n 0) := ⟨_, rfl⟩
  obtain ⟨y, HY⟩ : ∃ y, Hid (y = lenBits.getD n 0) := ⟨_, rfl⟩
  rw [← HX.out] at s2 b1 ⊢
  rw [← HY.out] at s3 b2 hp ⊢
  have hn' : (n : Int) < 29 := by omega
  have gb := getB_lt E.zs p y
  have gp := pow_le_16 (show y ≤ 16 by omega)
  go_enter Tryd.func53, Tryd.ntmps53
  go_wp2
  go_region_held3 (fun w' => w'.cell? ⟨2, n, none⟩ = some (.int .i64 x) ∧ w'.cell? ⟨3, n, none⟩ = some (.int .i64 y)) (go_keep) (first | (go_at_call 28; refine (number_ok E p y v _ hz hl (by omega) ?_ hp).mono ?_; (first | exact h | exact h.drewN _ | exact h.drew); rintro e w1 ⟨rfl, h1, k1⟩; have HR1 : Hid (Rd w1 E (p + y) v) := h1; have d2 : w1.cell? ⟨2, n, none⟩ = some (.int .i64 x) := ((k1.weak v).cell (p := ⟨2, n, none⟩) ht.a2.lt ht.a2.neS ht.a2.nev).trans s2; have d3 : w1.cell? ⟨3, n, none⟩ = some (.int .i64 y) := ((k1.weak v).cell (p := ⟨3, n, none⟩) ht.a3.lt ht.a3.neS ht.a3.nev).trans s3; have HK1 : Hid (Kept E.S (.bool true) (.bool true) w w1) := (by first | exact k1 | exact (Kept.refl _ _ _).drew.trans k1 | exact ((Kept.refl _ _ _).drewN _).trans k1); clear k1 h1))
  all_goals
    go_wp2
    go_ret
    exact ⟨ret_i64 (by rw [← Int.natCast_add]; exact Plain.wrap_small (x + getB E.zs p y) (by omega)), HR1.out, HK1.out⟩
set_option maxHeartbeats 1000000 in
theorem readLength_none (E : Env) (n : Nat) (w : World) (hn : 29 ≤ n) (hn2 : n ≤ 400) :
    Calls Tryd.prog 53 #[.pointer (some ⟨E.S, 0, none⟩), .int .i64 n] w fun e w' => e = .panicked (errv 10) ∧ Kept E.S (.bool true) (.bool true) w w' := by
  have HK : Hid (Kept E.S (.bool true) (.bool true) w w) := Kept.refl _ _ _
  go_enter Tryd.func53, Tryd.ntmps53
  go_wp2
  exact ⟨rfl, rfl, HK.out⟩
set_option maxHeartbeats 1000000 in
theorem readLength_bad (E : Env) (p n : Nat) (v : Value) (w : World) (hz : IsB E.zs) (hl : E.zs.length ≤ 400000) (h : Rd w E p v) (ht : Tabs w E v) (hn : n < 29) (hp : 8 * E.zs.length < p + lenBits.getD n 0) :
    Calls Tryd.prog 53 #[.pointer (some ⟨E.S, 0, none⟩), .int .i64 n] w fun e w' => e = .panicked (errv 10) ∧ Kept E.S (.bool true) (.bool true) w w' := by
  have b2 : lenBits.getD n 0 ≤ 5 := (tab_bd n (by omega)).2.1
  have s2 := ht.t2 n hn
  have s3 := ht.t3 n hn
  obtain ⟨x, HX⟩ : ∃ x, Hid (x = lenStart.getD n 0) := ⟨_, rfl⟩
  obtain ⟨y, HY⟩ : ∃ y, Hid (y = lenBits.getD n 0) := ⟨_, rfl⟩
  rw [← HX.out] at s2
  rw [← HY.out] at s3 b2 hp
  have hn' : (n : Int) < 29 := by omega
  go_enter Tryd.func53, Tryd.ntmps53
  go_wp2
  go_region_with (first | (go_at_call 28; refine (number_bad E p y v _ hz hl (by omega) ?_ hp).mono ?_; (first | exact h | exact h.drewN _ | exact h.drew); rintro e w1 ⟨rfl, k1⟩; have HK1 : Hid (Kept E.S (.bool true) (.bool true) w w1) := (by first | exact k1 | exact (Kept.refl _ _ _).drew.trans k1 | exact ((Kept.refl _ _ _).drewN _).trans k1); clear k1; refine way_out ⟨rfl, rfl, HK1.out⟩ ?_))
  all_goals exact trivial
set_option maxHeartbeats 1000000 in
theorem readDistance_ok (E : Env) (p n : Nat) (v : Value) (w : World) (hz : IsB E.zs) (hl : E.zs.length ≤ 400000) (h : Rd w E p v) (ht : Tabs w E v) (hn : n < 30) (hp : p + distBits.getD n 0 ≤ 8 * E.zs.length) :
    Calls Tryd.prog 55 #[.pointer (some ⟨E.S, 0, none⟩), .int .i64 n] w fun e w' => e = .returned (.int .i64 (distStart.getD n 0 + getB E.zs p (distBits.getD n 0) : Nat)) ∧ Rd w' E (p + distBits.getD n 0) v ∧ Kept E.S (.bool true) (.bool true) w w' := by
  have b1 : distStart.getD n 0 ≤ 24577 := (tab_bd n (by omega)).2.2.1
  have b2 : distBits.getD n 0 ≤ 13 := (tab_bd n (by omega)).2.2.2
  have s2 := ht.t4 n hn
  have s3 := ht.t5 n hn
  obtain ⟨x, HX⟩ : ∃ x, Hid (x = distStart.getD n 0) := ⟨_, rfl⟩
  obtain ⟨y, HY⟩ : ∃ y, Hid (y = distBits.getD n 0) := ⟨_, rfl⟩
  rw [← HX.out] at s2 b1 ⊢
  rw [← HY.out] at s3 b2 hp ⊢
  have hn' : (n : Int) < 30 := by omega
  have gb := getB_lt E.zs p y
  have gp := pow_le_16 (show y ≤ 16 by omega)
  go_enter Tryd.func55, Tryd.ntmps55
  go_wp2
  go_region_held3 (fun w' => w'.cell? ⟨4, n, none⟩ = some (.int .i64 x) ∧ w'.cell? ⟨5, n, none⟩ = some (.int .i64 y)) (go_keep) (first | (go_at_call 28; refine (number_ok E p y v _ hz hl (by omega) ?_ hp).mono ?_; (first | exact h | exact h.drewN _ | exact h.drew); rintro e w1 ⟨rfl, h1, k1⟩; have HR1 : Hid (Rd w1 E (p + y) v) := h1; have d2 : w1.cell? ⟨4, n, none⟩ = some (.int .i64 x) := ((k1.weak v).cell (p := ⟨4, n, none⟩) ht.a4.lt ht.a4.neS ht.a4.nev).trans s2; have d3 : w1.cell? ⟨5, n, none⟩ = some (.int .i64 y) := ((k1.weak v).cell (p := ⟨5, n, none⟩) ht.a5.lt ht.a5.neS ht.a5.nev).trans s3; have HK1 : Hid (Kept E.S (.bool true) (.bool true) w w1) := (by first | exact k1 | exact (Kept.refl _ _ _).drew.trans k1 | exact ((Kept.refl _ _ _).drewN _).trans k1); clear k1 h1))
  all_goals
    go_wp2
    go_ret
    exact ⟨ret_i64 (by rw [← Int.natCast_add]; exact Plain.wrap_small (x + getB E.zs p y) (by omega)), HR1.out, HK1.out⟩
set_option maxHeartbeats 1000000 in
theorem readDistance_none (E : Env) (n : Nat) (w : World) (hn : 30 ≤ n) (hn2 : n ≤ 400) :
    Calls Tryd.prog 55 #[.pointer (some ⟨E.S, 0, none⟩), .int .i64 n] w fun e w' => e = .panicked (errv 10) ∧ Kept E.S (.bool true) (.bool true) w w' := by
  have HK : Hid (Kept E.S (.bool true) (.bool true) w w) := Kept.refl _ _ _
  go_enter Tryd.func55, Tryd.ntmps55
  go_wp2
  exact ⟨rfl, rfl, HK.out⟩
set_option maxHeartbeats 1000000 in
theorem readDistance_bad (E : Env) (p n : Nat) (v : Value) (w : World) (hz : IsB E.zs) (hl : E.zs.length ≤ 400000) (h : Rd w E p v) (ht : Tabs w E v) (hn : n < 30) (hp : 8 * E.zs.length < p + distBits.getD n 0) :
    Calls Tryd.prog 55 #[.pointer (some ⟨E.S, 0, none⟩), .int .i64 n] w fun e w' => e = .panicked (errv 10) ∧ Kept E.S (.bool true) (.bool true) w w' := by
  have b2 : distBits.getD n 0 ≤ 13 := (tab_bd n (by omega)).2.2.2
  have s2 := ht.t4 n hn
  have s3 := ht.t5 n hn
  obtain ⟨x, HX⟩ : ∃ x, Hid (x = distStart.getD n 0) := ⟨_, rfl⟩
  obtain ⟨y, HY⟩ : ∃ y, Hid (y = distBits.getD n 0) := ⟨_, rfl⟩
  rw [← HX.out] at s2
  rw [← HY.out] at s3 b2 hp
  have hn' : (n : Int) < 30 := by omega
  go_enter Tryd.func55, Tryd.ntmps55
  go_wp2
  go_region_with (first | (go_at_call 28; refine (number_bad E p y v _ hz hl (by omega) ?_ hp).mono ?_; (first | exact h | exact h.drewN _ | exact h.drew); rintro e w1 ⟨rfl, k1⟩; have HK1 : Hid (Kept E.S (.bool true) (.bool true) w w1) := (by first | exact k1 | exact (Kept.refl _ _ _).drew.trans k1 | exact ((Kept.refl _ _ _).drewN _).trans k1); clear k1; refine way_out ⟨rfl, rfl, HK1.out⟩ ?_))
  all_goals exact trivial
end Go.Proofs.YtbiibhpknflagaaDoor
