import Derived.Test.YtbpdielmdhhdfaaGreatDoorMt30
import Derived.Test.YtbpdielmdhhdfaaGreatDoorMt20
/- Cutting at signs. -/
namespace Go.Proofs.YtbpdielmdhhdfaaGreatDoor
set_option linter.unusedVariables false
set_option linter.unusedSimpArgs false
theorem cut_at (a b sep : List UInt8) (h1 : Lib.occAt (a ++ (sep ++ b)) sep a.length = true) (h2 : ∀ j, j < a.length → Lib.occAt (a ++ (sep ++ b)) sep j = false) : Lib.cut (a ++ (sep ++ b)) sep = (a, b, true) := by
  have hi : Lib.index (a ++ (sep ++ b)) sep = (a.length : Nat) := Lib.index_first (by simp) h1 h2
  unfold Lib.cut
  rw [hi, if_pos (by omega)]
  simp
theorem occ_here (a b sep : List UInt8) : Lib.occAt (a ++ (sep ++ b)) sep a.length = true := by
  simp [Lib.occAt]
theorem occ_not (s sep : List UInt8) (j k : Nat) (c : UInt8) (hc : sep[k]? = some c) (hn : s[j + k]? ≠ some c) : Lib.occAt s sep j = false := by
  cases h : Lib.occAt s sep j with
  | false => rfl
  | true =>
    refine absurd ?_ hn
    unfold Lib.occAt at h
    obtain ⟨t, ht⟩ := List.isPrefixOf_iff_prefix.1 h
    obtain ⟨hk, _⟩ := List.getElem?_eq_some_iff.1 hc
    rw [← List.getElem?_drop, ← ht, List.getElem?_append_left hk]
    exact hc
theorem cut_one (a b : List UInt8) (c : UInt8) (h : c ∉ a) : Lib.cut (a ++ c :: b) [c] = (a, b, true) := by
  refine cut_at a b [c] (occ_here a b [c]) (fun j hj => occ_not _ _ j 0 c rfl ?_)
  rw [Nat.add_zero, List.getElem?_append_left hj]
  exact fun e => h (List.mem_of_getElem? e)
/-- The separator's second sign is nowhere ahead. -/
theorem cut_two (a b : List UInt8) (c d : UInt8) (hcd : c ≠ d) (h : d ∉ a) : Lib.cut (a ++ c :: d :: b) [c, d] = (a, b, true) := by
  refine cut_at a b [c, d] (occ_here a b [c, d]) (fun j hj => occ_not _ _ j 1 d rfl ?_)
  rcases Nat.lt_or_ge (j + 1) a.length with h1 | h1
  · rw [List.getElem?_append_left h1]
    exact fun e => h (List.mem_of_getElem? e)
  · rw [List.getElem?_append_right h1, show j + 1 - a.length = 0 from by omega]
    simpa using hcd
/-- The separator's first sign is nowhere ahead. -/
theorem cut_two' (a b : List UInt8) (c d : UInt8) (h : c ∉ a) : Lib.cut (a ++ c :: d :: b) [c, d] = (a, b, true) := by
  refine cut_at a b [c, d] (occ_here a b [c, d]) (fun j hj => occ_not _ _ j 0 c rfl ?_)
  rw [Nat.add_zero, List.getElem?_append_left hj]
  exact fun e => h (List.mem_of_getElem? e)
/-- A line with its word, taken by the program's reader. -/
theorem ln_fld {l wd o r : List UInt8} (h : Ln l wd o r) (hw : (10 : UInt8) ∉ wd) : fld l wd = o ∧ rst l = r := by
  obtain ⟨rfl, ho⟩ := h
  have hc : Lib.cut (wd ++ 32 :: (o ++ 10 :: r)) [10] = (wd ++ 32 :: o, r, true) := by
    rw [show wd ++ 32 :: (o ++ 10 :: r) = (wd ++ 32 :: o) ++ 10 :: r from by simp]
    refine cut_one _ _ _ ?_
    intro hm
    rcases List.mem_append.1 hm with hm | hm
    · exact hw hm
    · rcases List.mem_cons.1 hm with hm | hm
      · cases hm
      · exact ho hm
  unfold fld rst
  rw [hc]
  refine ⟨?_, rfl⟩
  unfold Lib.trimPrefix Lib.hasPrefix
  rw [if_pos (List.isPrefixOf_iff_prefix.2 ⟨o, by simp⟩)]
  show (wd ++ 32 :: o).drop _ = o
  rw [show wd ++ 32 :: o = (wd ++ [32]) ++ o from by simp]
  exact List.drop_left' rfl
/-- A person's text, cut by the program's reader. -/
theorem per_cut (q : Per) (hq : okP q) : p1 (perB q) = q.name ∧ p2 (perB q) = q.mail ∧ p3 (perB q) = Lib.decDigits q.time.toNat ∧ p4 (perB q) = zoneB q.zone := by
  obtain ⟨⟨_, nb, _⟩, ⟨_, mb, _⟩, _, _, _⟩ := hq
  have k1 : Lib.cut (perB q) [32, 60] = (q.name, q.mail ++ 62 :: 32 :: (Lib.decDigits q.time.toNat ++ 32 :: zoneB q.zone), true) := cut_two _ _ _ _ (by decide) (fun h => (nb 60 h).1 rfl)
  have k2 : Lib.cut (q.mail ++ 62 :: 32 :: (Lib.decDigits q.time.toNat ++ 32 :: zoneB q.zone)) [62, 32] = (q.mail, Lib.decDigits q.time.toNat ++ 32 :: zoneB q.zone, true) := cut_two' _ _ _ _ (fun h => (mb 62 h).2.1 rfl)
  have k3 : Lib.cut (Lib.decDigits q.time.toNat ++ 32 :: zoneB q.zone) [32] = (Lib.decDigits q.time.toNat, zoneB q.zone, true) := cut_one _ _ _ (fun h => by
    have h1 := ((dig_val q.time.toNat).2.1 32 h).1
    have h2 : (32 : UInt8).toNat = 32 := rfl
    omega)
  unfold p1 p2 p3 p4
  rw [k1]
  simp only
  rw [k2]
  simp only
  rw [k3]
  exact ⟨trivial, trivial, rfl, rfl⟩
end Go.Proofs.YtbpdielmdhhdfaaGreatDoor
/- Numbers that were written, read by the library. -/
namespace Go.Proofs.YtbpdielmdhhdfaaGreatDoor
set_option linter.unusedVariables false
set_option linter.unusedSimpArgs false
def valF (acc : Nat) (l : List UInt8) : Nat := l.foldl (fun n x => n * 10 + (x.toNat - 48)) acc
theorem room_step {acc d k E : Nat} (hd : d ≤ 9) (h : (acc + 1) * 10 ^ (k + 1) ≤ E) : (acc * 10 + d + 1) * 10 ^ k ≤ E ∧ acc * 10 + d < E ∧ acc * 10 < E := by
  rw [Nat.pow_succ] at h
  have h0 : 0 < 10 ^ k := Nat.pow_pos (by decide)
  have h1 : (acc * 10 + d + 1) * 10 ^ k ≤ (acc + 1) * (10 ^ k * 10) := by
    rw [Nat.mul_comm (10 ^ k) 10, ← Nat.mul_assoc]
    exact Nat.mul_le_mul_right _ (by omega)
  have h2 : acc * 10 + d + 1 ≤ (acc * 10 + d + 1) * 10 ^ k := Nat.le_mul_of_pos_right _ h0
  omega
theorem parseM (M : Nat) (hM : 1000000000000000000 ≤ M) : ∀ (l : List UInt8) (acc : Nat), (∀ x ∈ l, digS x) → (acc + 1) * 10 ^ l.length ≤ 1000000000000000000 → Lib.parseUintM M acc l = .ok (valF acc l)
  | [], acc, _, _ => rfl
  | c :: r, acc, hd, hb => by
    have hc := hd c (by simp)
    unfold digS at hc
    obtain ⟨b1, b2, b3⟩ := room_step (d := c.toNat - 48) (by omega) hb
    rw [Lib.parseUintM, if_pos hc, if_neg (by omega), if_neg (by omega)]
    exact parseM M hM r _ (fun x hx => hd x (by simp [hx])) b1
theorem parse10 : ∀ (l : List UInt8) (acc : Nat), (∀ x ∈ l, digS x) → (acc + 1) * 10 ^ l.length ≤ 1000000000000000000 → Lib.parseUint10 acc l = .ok (valF acc l)
  | [], acc, _, _ => rfl
  | c :: r, acc, hd, hb => by
    have hc := hd c (by simp)
    unfold digS at hc
    obtain ⟨b1, b2, b3⟩ := room_step (d := c.toNat - 48) (by omega) hb
    rw [Lib.parseUint10, if_pos hc, if_neg (by omega), if_neg (by omega)]
    exact parse10 r _ (fun x hx => hd x (by simp [hx])) b1
theorem time_back (t : Nat) (ht : t ≤ 1099511627776) : Lib.parseIntB 64 (Lib.decDigits t) = .ok (t : Int) := by
  obtain ⟨d1, d2, d3, d4⟩ := dig_val t
  have hl := dig_len40 t ht
  have hp : Lib.parseUintM (2 ^ 64 - 1) 0 (Lib.decDigits t) = .ok t := by
    have h := parseM (2 ^ 64 - 1) (by decide) (Lib.decDigits t) 0 d2 (by
      have : 10 ^ (Lib.decDigits t).length ≤ 10 ^ 13 := Nat.pow_le_pow_right (by decide) hl
      omega)
    rw [h]
    exact congrArg Lib.NumEnd.ok d1
  cases hd : Lib.decDigits t with
  | nil => rw [hd] at d3; simp at d3
  | cons c r =>
    have hc : digS c := d2 c (by rw [hd]; simp)
    unfold digS at hc
    rw [hd] at hp
    unfold Lib.parseIntB Lib.parseUintB
    simp only
    rw [if_neg (show ¬ (c.toNat = 43 ∨ c.toNat = 45) by omega), if_neg (show ¬ (c :: r = []) by simp), hp]
    simp only
    rw [if_neg (by omega), if_neg (by omega), if_neg (by omega)]
theorem zone_back (z : Int) (h1 : -840 ≤ z) (h2 : z ≤ 840) (z' : Int) (h : PZ (zoneB z) z') : z' = z := by
  obtain ⟨hh, eh⟩ : ∃ x, x = z.natAbs / 60 := ⟨_, rfl⟩
  obtain ⟨mm, em⟩ : ∃ x, x = z.natAbs % 60 := ⟨_, rfl⟩
  have bh : hh < 100 := by omega
  have bm : mm < 100 := by omega
  have k1 := ofNat_toNat48 (hh / 10) (by omega)
  have k2 := ofNat_toNat48 (hh % 10) (by omega)
  have k3 := ofNat_toNat48 (mm / 10) (by omega)
  have k4 := ofNat_toNat48 (mm % 10) (by omega)
  have hp : Lib.parseUint10 0 (two hh ++ two mm) = .ok (hh * 100 + mm) := by
    rw [parse10 (two hh ++ two mm) 0 (by
      intro x hx
      simp only [two, List.cons_append, List.nil_append, List.mem_cons, List.not_mem_nil, or_false] at hx
      unfold digS
      rcases hx with rfl | rfl | rfl | rfl <;> omega) (by simp [two])]
    refine congrArg Lib.NumEnd.ok ?_
    simp only [valF, two, List.cons_append, List.nil_append, List.foldl_cons, List.foldl_nil, k1, k2, k3, k4]
    omega
  have hne : ¬ (two hh ++ two mm = []) := by simp [two]
  by_cases hz : z < 0
  · have hv : Lib.atoiAll (zoneB z) = .ok (-((hh * 100 + mm : Nat) : Int)) := by
      unfold zoneB
      rw [if_pos hz, ← eh, ← em]
      unfold Lib.atoiAll Lib.parseMag
      simp only
      rw [if_pos (show ((45 : UInt8).toNat = 43 ∨ (45 : UInt8).toNat = 45) by decide), if_neg hne, hp]
      simp only
      rw [if_neg (by omega), if_neg (by omega), if_pos (by decide)]
    have h3 := h _ hv (by omega) (by omega)
    rw [h3, Int.neg_tdiv, Int.neg_tmod, Int.tdiv_eq_ediv_of_nonneg (by omega), Int.tmod_eq_emod_of_nonneg (by omega)]
    omega
  · have hv : Lib.atoiAll (zoneB z) = .ok ((hh * 100 + mm : Nat) : Int) := by
      unfold zoneB
      rw [if_neg hz, ← eh, ← em]
      unfold Lib.atoiAll Lib.parseMag
      simp only
      rw [if_pos (show ((43 : UInt8).toNat = 43 ∨ (43 : UInt8).toNat = 45) by decide), if_neg hne, hp]
      simp only
      rw [if_neg (by omega), if_neg (by omega), if_neg (by decide)]
    have h3 := h _ hv (by omega) (by omega)
    rw [h3, Int.tdiv_eq_ediv_of_nonneg (by omega), Int.tmod_eq_emod_of_nonneg (by omega)]
    omega
/-- What the program reads of a person's text is the person. -/
theorem pp_back (q : Per) (hq : okP q) (p : Per) (h : PP (perB q) p) : p = q := by
  obtain ⟨c1, c2, c3, c4⟩ := per_cut q hq
  have b := hq.2.2
  obtain ⟨_, _, h3⟩ := h
  rw [c1, c2, c3, c4] at h3
  obtain ⟨e1, e2, e3, e4⟩ := h3 _ (time_back q.time.toNat (by omega))
  have e5 := zone_back q.zone b.2.1 b.2.2 _ e4
  obtain ⟨a1, a2, a3, a4⟩ := p
  obtain ⟨b1, b2, b3, b4⟩ := q
  simp only at e1 e2 e3 e5 b
  subst e1
  subst e2
  subst e5
  congr 1
  omega
end Go.Proofs.YtbpdielmdhhdfaaGreatDoor
