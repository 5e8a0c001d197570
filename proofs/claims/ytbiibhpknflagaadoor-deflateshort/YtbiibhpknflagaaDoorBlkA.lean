/- 'readStored'. -/
import Derived.Test.YtbiibhpknflagaaDoorTail
namespace Go.Proofs.YtbiibhpknflagaaDoor
open Go.RowKit Plain
set_option linter.unusedVariables false
set_option linter.unusedSimpArgs false

theorem wrapI {x : Int} (h1 : -1000000 ≤ x) (h2 : x ≤ 1000000) : IntKind.i64.wrap x = x := by rw [IntKind.wrap_i64]; omega

/-- 1.3: a block of kind 0, from bit p on: bits are left out up to the next byte. -/
def storedOf (zs : List Int) (most : Int) (p : Nat) (out : List Int) : Res :=
  if 8 * zs.length < 8 * ((p + 7) / 8) + 16 then .error 10
  else if 8 * zs.length < 8 * ((p + 7) / 8) + 16 + 16 then .error 10
  else if getB zs (8 * ((p + 7) / 8) + 16) 16 ≠ 65535 - getB zs (8 * ((p + 7) / 8)) 16 ∨ zs.length - ((p + 7) / 8 + 4) < getB zs (8 * ((p + 7) / 8)) 16 then .error 10
  else if ¬ ((getB zs (8 * ((p + 7) / 8)) 16 : Nat) : Int) ≤ most - out.length then .error 11
  else .ok (8 * ((p + 7) / 8 + 4 + getB zs (8 * ((p + 7) / 8)) 16), out ++ (zs.drop ((p + 7) / 8 + 4)).take (getB zs (8 * ((p + 7) / 8)) 16))

/-- 'skipBits': at the next byte. -/
theorem skip_rd {w w' : World} {E : Env} {p nx held : Nat} {v : Value} (h : Str w' E nx 0 0 v) (hp : 8 * nx = p + held) (hh : held ≤ 7) (hn : nx ≤ E.zs.length) : nx = (p + 7) / 8 ∧ Rd w' E (8 * ((p + 7) / 8)) v := by
  have e : nx = (p + 7) / 8 := by omega
  exact ⟨e, nx, 0, 0, h, by omega, by omega, hn, by show 0 = _; rw [getB_zero]⟩

theorem storedOf_1 {zs : List Int} {most : Int} {p c : Nat} {out : List Int} (hc : c = (p + 7) / 8) (h : 8 * zs.length < 8 * c + 16) : storedOf zs most p out = .error 10 := by
  subst hc; unfold storedOf; rw [if_pos h]
theorem storedOf_2 {zs : List Int} {most : Int} {p c : Nat} {out : List Int} (hc : c = (p + 7) / 8) (h : 8 * zs.length < 8 * c + 16 + 16) : storedOf zs most p out = .error 10 := by
  subst hc; unfold storedOf
  by_cases h2 : 8 * zs.length < 8 * ((p + 7) / 8) + 16
  · rw [if_pos h2]
  · rw [if_neg h2, if_pos h]
theorem storedOf_3 {zs : List Int} {most : Int} {p c n m : Nat} {out : List Int} (hc : c = (p + 7) / 8) (h : ¬ 8 * zs.length < 8 * c + 16 + 16) (hn : n = getB zs (8 * c) 16) (hm : m = getB zs (8 * c + 16) 16) (hb : m ≠ 65535 - n ∨ zs.length - (c + 4) < n) : storedOf zs most p out = .error 10 := by
  subst hc hn hm; unfold storedOf; rw [if_neg (by omega), if_neg h, if_pos hb]
theorem storedOf_4 {zs : List Int} {most : Int} {p c n m : Nat} {out : List Int} (hc : c = (p + 7) / 8) (h : ¬ 8 * zs.length < 8 * c + 16 + 16) (hn : n = getB zs (8 * c) 16) (hm : m = getB zs (8 * c + 16) 16) (hb : ¬ (m ≠ 65535 - n ∨ zs.length - (c + 4) < n)) (hr : ¬ (n : Int) ≤ most - out.length) : storedOf zs most p out = .error 11 := by
  subst hc hn hm; unfold storedOf; rw [if_neg (by omega), if_neg h, if_neg hb, if_pos hr]
theorem storedOf_5 {zs : List Int} {most : Int} {p c n m : Nat} {out : List Int} (hc : c = (p + 7) / 8) (h : ¬ 8 * zs.length < 8 * c + 16 + 16) (hn : n = getB zs (8 * c) 16) (hm : m = getB zs (8 * c + 16) 16) (hb : ¬ (m ≠ 65535 - n ∨ zs.length - (c + 4) < n)) (hr : (n : Int) ≤ most - out.length) : storedOf zs most p out = .ok (8 * (c + 4 + n), out ++ (zs.drop (c + 4)).take n) := by
  subst hc hn hm; unfold storedOf; rw [if_neg (by omega), if_neg h, if_neg hb, if_neg (by omega)]

theorem grownBy_drewN (w : World) (q : Nat) (row : Option Nat) : w.grownBy (w.drewN q) row := ⟨rfl, rfl, rfl, Nat.le_refl _, fun _ _ _ => rfl⟩

set_option maxRecDepth 20000 in
set_option maxHeartbeats 1000000 in
theorem readStored_any (E : Env) (B p : Nat) (v : Value) (out : List Int) (w : World) (hz : IsB E.zs) (hl : E.zs.length ≤ 400000) (h : St w E B p v out) (hm : E.most ≤ 400000) (hcap : E.zs.length ≤ E.cap) :
    Calls Tryd.prog 29 #[.pointer (some ⟨E.S, 0, none⟩)] w (Post E B v w (storedOf E.zs E.most p out)) := by
  obtain ⟨r, HR0⟩ : ∃ r, Hid (storedOf E.zs E.most p out = r) := ⟨_, rfl⟩
  rw [HR0.out]
  obtain ⟨nx, hold, held, hst, hp, hh, hnx, HG⟩ := h.rd
  go_enter Tryd.func29, Tryd.ntmps29
  go_wp2_with fail
  refine (skipBits_any E nx hold held v w hst).mono ?_
  rintro e w1 ⟨rfl, s1, k1⟩
  obtain ⟨hnx2, r1⟩ := skip_rd (w := w) s1 hp hh hnx
  obtain ⟨c, HC⟩ : ∃ c, Hid (c = (p + 7) / 8) := ⟨_, rfl⟩
  rw [← HC.out] at r1 hnx2
  by_cases h16 : 8 * E.zs.length < 8 * c + 16
  · obtain rfl := (storedOf_1 HC.out h16).symm.trans HR0.out
    go_wp2_with fail
    refine (number_bad E (8 * c) 16 v w1 hz hl (by omega) r1 h16).mono ?_
    rintro e w2 ⟨rfl, k2⟩
    exact ⟨rfl, rfl, v, (k1.trans k2).weak v⟩
  have gn := getB_lt E.zs (8 * c) 16
  obtain ⟨n, HN⟩ : ∃ n, Hid (n = getB E.zs (8 * c) 16) := ⟨_, rfl⟩
  rw [← HN.out] at gn
  have hn16 : n ≤ 65535 := by omega
  clear gn
  go_wp2_with fail
  refine (number_ok E (8 * c) 16 v w1 hz hl (by omega) r1 (by omega)).mono ?_
  rintro e w2 ⟨rfl, r2, k2⟩
  rw [← HN.out]
  have K2 := k1.trans k2
  have S2 : St w2 E B (8 * c + 16) v out := h.read r2 K2
  have HK2 : Hid (Kept E.S (.bool true) (.bool true) w w2) := K2
  go_wp2
  refine wp_region_any (by kernel_rfl) ?_
  refine wpAny_take (i := 0) (v := ?_) rfl (by kernel_rfl) (by kernel_rfl) (by kernel_rfl) (fun _ _ _ h => h) (Or.inl ⟨by rfl, ?_⟩) ?_
  rotate_left
  · intro w; go_simp; rfl
  try simp only [Act.put, List.setIfInBounds_toArray, List.set_cons_zero, List.set_cons_succ]
  refine wpAny_take (i := 2) (v := ?_) rfl (by kernel_rfl) (by kernel_rfl) (by kernel_rfl) (fun _ _ _ h => h) (Or.inl ⟨by rfl, ?_⟩) ?_
  rotate_left
  · intro w; go_simp; rfl
  try simp only [Act.put, List.setIfInBounds_toArray, List.set_cons_zero, List.set_cons_succ]
  refine wpAny_take (i := 3) (v := ?_) rfl (by kernel_rfl) (by kernel_rfl) (by kernel_rfl) (fun _ _ _ h => h) (Or.inl ⟨by rfl, ?_⟩) ?_
  rotate_left
  · intro w; go_simp; rfl
  try simp only [Act.put, List.setIfInBounds_toArray, List.set_cons_zero, List.set_cons_succ]
  refine wpAny_ready (rs := [1]) (by kernel_rfl) (by simp) ?_
  refine AllReady.cons rfl (fun K hK => ?_) AllReady.nil
  go_simp
  by_cases h32 : 8 * E.zs.length < 8 * c + 16 + 16
  · obtain rfl := (storedOf_2 HC.out h32).symm.trans HR0.out
    refine (number_bad E (8 * c + 16) 16 v _ hz hl (by omega) (by exact r2.drew) h32).mono ?_
    rintro e w3 ⟨rfl, k3⟩
    exact ⟨rfl, rfl, v, (HK2.out.drew.trans k3).weak v⟩
  have gm := getB_lt E.zs (8 * c + 16) 16
  obtain ⟨m, HM⟩ : ∃ m, Hid (m = getB E.zs (8 * c + 16) 16) := ⟨_, rfl⟩
  rw [← HM.out] at gm
  have hm16 : m ≤ 65535 := by omega
  clear gm k1 k2 K2
  refine (number_ok E (8 * c + 16) 16 v _ hz hl (by omega) (by exact r2.drew) (by omega)).mono ?_
  rintro e w3 ⟨rfl, r3, k3⟩
  rw [← HM.out]
  have HK3 : Hid (Kept E.S (.bool true) (.bool true) w w3) := HK2.out.drew.trans k3
  have HS3 : Hid (St w3 E B (8 * c + 16 + 16) v out) := S2.read r3 ((Kept.refl _ _ _).drew.trans k3)
  obtain ⟨nx3, hold3, held3, t3, hp3, hh3, hn3, HG3⟩ := r3
  obtain rfl : nx3 = c + 4 := by omega
  have HT3 : Hid (Str w3 E (c + 4) hold3 held3 v) := t3
  obtain ⟨d0, d1, d2, d3, d4, d5, d6, dz, -, -, -, -, -, -⟩ := t3
  refine hK _ _ ?_
  clear k3 hK K
  try simp only [Act.put, List.setIfInBounds_toArray, List.set_cons_zero, List.set_cons_succ]
  refine wpAny_tail2 4 5 12 (by kernel_rfl) (by rfl) (by kernel_rfl) (by rfl) (fun ops hd => ?_)
  simp only [List.drop_succ_cons, List.drop_zero]
  iterate 2 (refine wpStill_free rfl (fun K hK => ?_); go_simp; refine hK _ ?_; clear hK K)
  have hwr : IntKind.i64.wrap (65535 - (n : Int)) = 65535 - n := wrapI (by omega) (by omega)
  rw [hwr]
  clear hwr
  by_cases hne : m ≠ 65535 - n
  · obtain rfl := (storedOf_3 HC.out h32 HN.out HM.out (.inl hne)).symm.trans HR0.out
    have hneZ : ((m : Int) != 65535 - n) = true := by simp; omega
    rw [hneZ]
    iterate 12 (refine wpStill_pass hd rfl rfl ?_; simp only [Act.put, List.setIfInBounds_toArray, List.set_cons_zero, List.set_cons_succ])
    refine wpStill_free rfl (fun K hK => ?_)
    go_simp
    refine hK _ ?_
    clear hK K
    refine wpStill_nil ?_
    go_wp2
    exact ⟨rfl, rfl, v, HK3.out.weak v⟩
  have hneZ : ((m : Int) != 65535 - n) = false := by simp; omega
  rw [hneZ]
  have hwr2 : IntKind.i64.wrap ((E.zs.length : Int) - ((c : Int) + 4)) = E.zs.length - ((c : Int) + 4) := wrapI (by omega) (by omega)
  iterate 12 (refine wpStill_want hd rfl rfl (fun K hK => ?_); go_simp; refine hK _ ?_; clear hK K)
  clear hwr2 hneZ
  by_cases hlen : E.zs.length - (c + 4) < n
  · obtain rfl := (storedOf_3 HC.out h32 HN.out HM.out (.inr hlen)).symm.trans HR0.out
    rw [show decide ((E.zs.length : Int) - ((c : Int) + 4) < n) = true from decide_eq_true (by omega)]
    refine wpStill_free rfl (fun K hK => ?_)
    go_simp
    refine hK _ ?_
    clear hK K
    refine wpStill_nil ?_
    go_wp2
    exact ⟨rfl, rfl, v, HK3.out.weak v⟩
  rw [show decide ((E.zs.length : Int) - ((c : Int) + 4) < n) = false from decide_eq_false (by omega)]
  refine wpStill_free rfl (fun K hK => ?_)
  go_simp
  refine hK _ ?_
  clear hK K
  refine wpStill_nil ?_
  have hlo := HS3.out.len hm
  have hle3 := HS3.out.le
  obtain ⟨k, hko⟩ : ∃ k, out.length = k := ⟨_, rfl⟩
  have hown := HS3.out.own
  have hB3 := HS3.out.hB
  have hisB := HS3.out.isB
  rw [hko] at hown hlo hle3
  obtain ⟨a, cp, rfl⟩ := owns_shape hown
  have hbad : ¬ (m ≠ 65535 - n ∨ E.zs.length - (c + 4) < n) := by rintro (h1 | h1) <;> contradiction
  by_cases hr' : (n : Int) ≤ E.most - k
  rotate_left
  · obtain rfl := (storedOf_4 (out := out) HC.out h32 HN.out HM.out hbad (by rw [hko]; exact hr')).symm.trans HR0.out
    go_wp2_with fail
    refine (needRoom_bad E (c + 4) hold3 held3 n k cp _ _ hm hlo (by omega) (by omega) HT3.out (by omega)).mono ?_
    rintro e w4 ⟨rfl, q, rfl⟩
    exact ⟨rfl, rfl, _, (HK3.out.weak _).drewN _⟩
  obtain rfl := (storedOf_5 (out := out) HC.out h32 HN.out HM.out hbad (by rw [hko]; exact hr')).symm.trans HR0.out
  have H03 : Hid (held3 = 0) := by show _ = _; omega
  have HH0 : Hid (hold3 = 0) := by have h1 := HG3.out; rw [H03.out, getB_zero] at h1; exact h1
  clear HR0 HG3 HM HN HC hd d2 d3 d5 d6 hst s1 r1 r2 S2
  go_wp2_with fail
  refine (needRoom_ok E (c + 4) hold3 held3 n k cp _ _ hm hlo (by omega) (by omega) HT3.out hr').mono ?_
  rintro e w4 ⟨rfl, q, rfl⟩
  obtain ⟨i5, hi, hz0, hz1, hz2⟩ := info_parts Tryd.info5
  have hsrc := HT3.out.src
  have f4 := dz 4
  have f1 := dz 1
  obtain ⟨t, HTt⟩ : ∃ t, Hid (t = c + 4) := ⟨_, rfl⟩
  have htn : t + n ≤ E.zs.length := by have := HTt.out; omega
  have htp : 8 * t = 8 * c + 16 + 16 + held3 := by have := HTt.out; omega
  rw [← HTt.out] at d1 HT3 ⊢
  clear dz hn3 hp3 hlen hbad hne h32 h16 hnx2
  have hwa : IntKind.i64.wrap ((t : Int) + n) = (t : Int) + n := wrapI (by omega) (by omega)
  have g1 : (t : Int) + n ≤ E.cap := by omega
  have g2 : 0 ≤ (t : Int) + n := by omega
  have g3 : (t : Int) ≤ max ((t : Int) + n) 0 := by omega
  have g5 : (t : Int) ≤ (t : Int) + n := by omega
  have g4 : ((t : Int) + n).toNat - t = n := by omega
  obtain ⟨ad, had⟩ : ∃ ad, (if E.cap = t then some (⟨E.ib, E.io, none⟩ : Addr) else some ⟨E.ib, E.io + t, none⟩) = some ad := by split <;> exact ⟨_, rfl⟩
  obtain ⟨news, HNW⟩ : ∃ news, Hid (news = (E.zs.drop t).take n) := ⟨_, rfl⟩
  have hnl : news.length = n := by rw [HNW.out]; simp; omega
  have HNA : Hid (∀ j u, (news.map (Value.int .u8))[j]? = some u → w3.cell? (ad.add j) = some u) := by
    intro j u hj
    have hjn : j < n := by
      rcases Nat.lt_or_ge j n with h1 | h1
      · exact h1
      · rw [List.getElem?_eq_none (by simp; omega)] at hj; cases hj
    rw [if_neg (by omega)] at had
    obtain rfl := Option.some.inj had
    have := hsrc (t + j) (by omega)
    rw [addr_add, Nat.add_assoc, this, ← hj, HNW.out, List.getElem?_map, List.getElem?_take_of_lt hjn, List.getElem?_drop]
    simp [List.getD_eq_getElem?_getD, List.getElem?_eq_getElem (show t + j < E.zs.length by omega)]
  have HNB : Hid (IsB news) := by
    intro x hx; rw [HNW.out] at hx; exact hz x (List.mem_of_mem_drop (List.mem_of_mem_take hx))
  have HOW : Hid (w3.ownsRow B 5 1 (Value.slice a k cp) k (List.map (Value.int IntKind.u8) out)) := hown
  clear hown
  go_wp2
  have hst0 : (w3.drewN q).cell? ⟨E.S, 0, none⟩ = some (.slice (some ⟨E.ib, E.io, none⟩) E.zs.length E.cap) ∧ (w3.drewN q).cell? ⟨E.S, 1, none⟩ = some (.int .i64 t) := ⟨d0, d1⟩
  refine wp_region_held_drew (S := fun w' => w'.cell? ⟨E.S, 0, none⟩ = some (.slice (some ⟨E.ib, E.io, none⟩) E.zs.length E.cap) ∧ w'.cell? ⟨E.S, 1, none⟩ = some (.int .i64 t)) (by kernel_rfl) hst0 (fun hHeld => ?_)
  clear hst0
  refine wpAnyH_take (i := 0) (v := ?_) rfl (by kernel_rfl) (by kernel_rfl) (by kernel_rfl) (fun _ _ _ h => h) (Or.inl ⟨by rfl, ?_⟩) hHeld ?_
  rotate_left
  · rintro w ⟨s0, s1⟩; go_simp; rfl
  try simp only [Act.put, List.setIfInBounds_toArray, List.set_cons_zero, List.set_cons_succ]
  refine wpAnyH_take (i := 1) (v := ?_) rfl (by kernel_rfl) (by kernel_rfl) (by kernel_rfl) (fun _ _ _ h => h) (Or.inl ⟨by rfl, ?_⟩) hHeld ?_
  rotate_left
  · rintro w ⟨s0, s1⟩; go_simp; rfl
  try simp only [Act.put, List.setIfInBounds_toArray, List.set_cons_zero, List.set_cons_succ]
  refine wpAnyH_take (i := 2) (v := ?_) rfl (by kernel_rfl) (by kernel_rfl) (by kernel_rfl) (fun _ _ _ h => h) (Or.inl ⟨by rfl, ?_⟩) hHeld ?_
  rotate_left
  · rintro w ⟨s0, s1⟩; go_simp; rfl
  try simp only [Act.put, List.setIfInBounds_toArray, List.set_cons_zero, List.set_cons_succ]
  refine wpAnyH_take (i := 3) (v := ?_) rfl (by kernel_rfl) (by kernel_rfl) (by kernel_rfl) (fun _ _ _ h => h) (Or.inl ⟨by rfl, ?_⟩) hHeld ?_
  rotate_left
  · rintro w ⟨s0, s1⟩; go_simp; rfl
  try simp only [Act.put, List.setIfInBounds_toArray, List.set_cons_zero, List.set_cons_succ]
  refine wpAnyH_take (i := 5) (v := ?_) rfl (by kernel_rfl) (by kernel_rfl) (by kernel_rfl) (fun _ _ _ h => h) (Or.inl ⟨by rfl, ?_⟩) hHeld ?_
  rotate_left
  · rintro w ⟨s0, s1⟩; go_simp; rfl
  try simp only [Act.put, List.setIfInBounds_toArray, List.set_cons_zero, List.set_cons_succ]
  refine wpAnyH_take (i := 6) (v := ?_) rfl (by kernel_rfl) (by kernel_rfl) (by kernel_rfl) (fun _ _ _ h => h) (Or.inl ⟨by rfl, ?_⟩) hHeld ?_
  rotate_left
  · rintro w ⟨s0, s1⟩; go_simp; rfl
  try simp only [Act.put, List.setIfInBounds_toArray, List.set_cons_zero, List.set_cons_succ]
  refine wpAnyH_take (i := 7) (v := ?_) rfl (by kernel_rfl) (by kernel_rfl) (by kernel_rfl) (fun _ _ _ h => h) (Or.inl ⟨by rfl, ?_⟩) hHeld ?_
  rotate_left
  · rintro w ⟨s0, s1⟩; go_simp; rfl
  try simp only [Act.put, List.setIfInBounds_toArray, List.set_cons_zero, List.set_cons_succ]
  refine wpAnyH_take (i := 8) (v := ?_) rfl (by kernel_rfl) (by kernel_rfl) (by kernel_rfl) (fun _ _ _ h => h) (Or.inl ⟨by rfl, ?_⟩) hHeld ?_
  rotate_left
  · rintro w ⟨s0, s1⟩; go_simp; rfl
  try simp only [Act.put, List.setIfInBounds_toArray, List.set_cons_zero, List.set_cons_succ]
  refine wpAnyH_take (i := 9) (v := ?_) rfl (by kernel_rfl) (by kernel_rfl) (by kernel_rfl) (fun _ _ _ h => h) (Or.inl ⟨by rfl, ?_⟩) hHeld ?_
  rotate_left
  · rintro w ⟨s0, s1⟩; go_simp; rfl
  try simp only [Act.put, List.setIfInBounds_toArray, List.set_cons_zero, List.set_cons_succ]
  refine wpAnyH_take (i := 10) (v := ?_) rfl (by kernel_rfl) (by kernel_rfl) (by kernel_rfl) (fun _ _ _ h => h) (Or.inl ⟨by rfl, ?_⟩) hHeld ?_
  rotate_left
  · rintro w ⟨s0, s1⟩; go_simp; rfl
  try simp only [Act.put, List.setIfInBounds_toArray, List.set_cons_zero, List.set_cons_succ]
  refine wpAnyH_take (i := 11) (v := ?_) rfl (by kernel_rfl) (by kernel_rfl) (by kernel_rfl) (fun _ _ _ h => h) (Or.inl ⟨by rfl, ?_⟩) hHeld ?_
  rotate_left
  · rintro w ⟨s0, s1⟩; go_simp; rfl
  try simp only [Act.put, List.setIfInBounds_toArray, List.set_cons_zero, List.set_cons_succ]
  refine wpAnyH_take (i := 12) (v := ?_) rfl (by kernel_rfl) (by kernel_rfl) (by kernel_rfl) (fun _ _ _ h => h) (Or.inl ⟨by rfl, ?_⟩) hHeld ?_
  rotate_left
  · rintro w ⟨s0, s1⟩; go_simp; rfl
  try simp only [Act.put, List.setIfInBounds_toArray, List.set_cons_zero, List.set_cons_succ]
  refine wpAnyH_take (i := 13) (v := ?_) rfl (by kernel_rfl) (by kernel_rfl) (by kernel_rfl) (fun _ _ _ h => h) (Or.inl ⟨by rfl, ?_⟩) hHeld ?_
  rotate_left
  · rintro w ⟨s0, s1⟩; go_simp; rfl
  try simp only [Act.put, List.setIfInBounds_toArray, List.set_cons_zero, List.set_cons_succ]
  refine wpAnyH_take (i := 14) (v := ?_) rfl (by kernel_rfl) (by kernel_rfl) (by kernel_rfl) (fun _ _ _ h => h) (Or.inl ⟨by rfl, ?_⟩) hHeld ?_
  rotate_left
  · rintro w ⟨s0, s1⟩; go_simp; rfl
  try simp only [Act.put, List.setIfInBounds_toArray, List.set_cons_zero, List.set_cons_succ]
  refine wpAnyH_take (i := 15) (v := ?_) rfl (by kernel_rfl) (by kernel_rfl) (by kernel_rfl) (fun _ _ _ h => h) (Or.inl ⟨by rfl, ?_⟩) hHeld ?_
  rotate_left
  · rintro w ⟨s0, s1⟩; go_simp; rfl
  try simp only [Act.put, List.setIfInBounds_toArray, List.set_cons_zero, List.set_cons_succ]
  refine wpAnyH_take (i := 16) (v := ?_) rfl (by kernel_rfl) (by kernel_rfl) (by kernel_rfl) (fun _ _ _ h => h) (Or.inl ⟨by rfl, ?_⟩) hHeld ?_
  rotate_left
  · rintro w ⟨s0, s1⟩; go_simp; rfl
  try simp only [Act.put, List.setIfInBounds_toArray, List.set_cons_zero, List.set_cons_succ]
  refine wpAnyH_take (i := 17) (v := ?_) rfl (by kernel_rfl) (by kernel_rfl) (by kernel_rfl) (fun _ _ _ h => h) (Or.inl ⟨by rfl, ?_⟩) hHeld ?_
  rotate_left
  · rintro w ⟨s0, s1⟩; go_simp; rfl
  try simp only [Act.put, List.setIfInBounds_toArray, List.set_cons_zero, List.set_cons_succ]
  refine wpAnyH_take (i := 18) (v := ?_) rfl (by kernel_rfl) (by kernel_rfl) (by kernel_rfl) (fun _ _ _ h => h) (Or.inl ⟨by rfl, ?_⟩) hHeld ?_
  rotate_left
  · rintro w ⟨s0, s1⟩; go_simp; rfl
  try simp only [Act.put, List.setIfInBounds_toArray, List.set_cons_zero, List.set_cons_succ]
  refine wpAnyH_take (i := 19) (v := ?_) rfl (by kernel_rfl) (by kernel_rfl) (by kernel_rfl) (fun _ _ _ h => h) (Or.inl ⟨by rfl, ?_⟩) hHeld ?_
  rotate_left
  · rintro w ⟨s0, s1⟩; go_simp; rfl
  try simp only [Act.put, List.setIfInBounds_toArray, List.set_cons_zero, List.set_cons_succ]
  refine wpAnyH_ready (rs := [4]) (by kernel_rfl) (by simp) ?_
  refine AllReadyH.cons rfl (fun K hK => ?_) AllReadyH.nil
  go_simp
  refine hK.out _ _ hHeld (fun hHeld2 => ?_)
  clear hK K
  try simp only [Act.put, List.setIfInBounds_toArray, List.set_cons_zero, List.set_cons_succ]
  refine wpAnyH_ready (rs := [20]) (by kernel_rfl) (by simp) ?_
  refine AllReadyH.cons rfl (fun K hK => ?_) AllReadyH.nil
  refine step_append_at _ (by rfl) _ _ _ (by rfl) B 5 i5 (.int .u8 0) 1 1 Tryd.underlying22 hi hz0 hz1 hz2 rfl (by omega) (.slice a k cp) k (out.map (Value.int .u8)) (by rfl) (by exact HOW.out) ad n (E.cap - t) (news.map (Value.int .u8)) (by rfl) (by simp [hnl]) (by exact HNA.out) (by intro u hu; simp at hu; obtain ⟨x, -, rfl⟩ := hu; rfl) (by unfold maxLen; omega) (by omega) (by exact hB3) w3.heap.size (by rfl) ?_
  intro ao cp2 w5 hown1 hgrow hat
  have hgx := grownBy_drewN w3 (q + 1) none
  obtain ⟨e0, -⟩ := HT3.out.grow_cell hgx hgrow 0
  rw [d0] at e0
  obtain ⟨e4, z4⟩ := HT3.out.grow_cell hgx hgrow 4
  rw [d4] at e4
  obtain ⟨e1, z1⟩ := HT3.out.grow_cell hgx hgrow 1
  rw [d1] at e1
  obtain ⟨hs2, hk2⟩ := HT3.out.grow2 hgx hgrow (.slice ao (k + n : Nat) cp2) hat
  have HS2 : Hid (_ ∧ Kept E.S _ _ w3 _) := ⟨hs2, hk2⟩
  have HO : Hid (World.ownsRow _ B 5 1 _ _ _) := owns_set hown1 E.S 4 (.slice ao (k + n : Nat) cp2) hs2.Sv
  clear hs2 hk2 hown1 hgrow hat hgx
  refine hK.out _ _ ⟨e0, e1⟩ (fun hHeld3 => ?_)
  clear hK K hHeld hHeld2
  try simp only [Act.put, List.setIfInBounds_toArray, List.set_cons_zero, List.set_cons_succ]
  refine wpAnyH_take (i := 21) (v := ?_) rfl (by kernel_rfl) (by kernel_rfl) (by kernel_rfl) (fun _ _ _ h => h) (Or.inl ⟨by rfl, ?_⟩) hHeld3 ?_
  rotate_left
  · rintro w ⟨s0, s1⟩; go_simp; rfl
  try simp only [Act.put, List.setIfInBounds_toArray, List.set_cons_zero, List.set_cons_succ]
  refine wpAnyH_take (i := 22) (v := ?_) rfl (by kernel_rfl) (by kernel_rfl) (by kernel_rfl) (fun _ _ _ h => h) (Or.inl ⟨by rfl, ?_⟩) hHeld3 ?_
  rotate_left
  · rintro w ⟨s0, s1⟩; go_simp; rfl
  try simp only [Act.put, List.setIfInBounds_toArray, List.set_cons_zero, List.set_cons_succ]
  refine wpAnyH_ready (rs := [23]) (by kernel_rfl) (by simp) ?_
  refine AllReadyH.cons rfl (fun K hK => ?_) AllReadyH.nil
  go_simp
  refine hK.out _ _ ⟨(cell_set_ne _ (by omega)).trans e0, (cell_set_ne _ (by omega)).trans e1⟩ (fun hHeld4 => ?_)
  clear hK K
  try simp only [Act.put, List.setIfInBounds_toArray, List.set_cons_zero, List.set_cons_succ]
  refine wpAnyH_done (by kernel_rfl) ?_ _
  clear hHeld3 hHeld4 e0
  go_wp2
  go_end0
  have hkl : (out ++ news).map (Value.int .u8) = out.map (Value.int .u8) ++ news.map (Value.int .u8) := by simp
  have hln : (out ++ news).length = k + n := by simp [hko, hnl]
  have HO2 := HO.out
  rw [← hkl] at HO2
  have hne4 : some E.S ≠ (Value.slice ao (k + n : Nat) cp2).ownBlock := HS2.out.1.Sv
  rw [← HTt.out, ← HNW.out]
  refine ⟨rfl, _, ⟨⟨t + n, hold3, held3, HS2.out.1.set1 (t + n) (by simp), by rw [H03.out]; rfl, by omega, htn, ?_⟩, ?_, ?_, ?_, ?_⟩, ((HK3.out.weak _).trans HS2.out.2).set 1 _⟩
  · show _ = _; rw [H03.out, HH0.out, getB_zero]
  · rw [hln]; exact owns_set HO2 E.S 1 _ hne4
  · intro x hx
    rcases List.mem_append.1 hx with hx | hx
    · exact hisB x hx
    · exact HNB.out x hx
  · have := HS2.out.2.size; simp [World.setCell] at this ⊢; omega
  · rw [hln]; push_cast; omega
end Go.Proofs.YtbiibhpknflagaaDoor
