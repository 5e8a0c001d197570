import Derived.Test.YtbpdielmdhhdfaaGreatDoorMt18
import Derived.Test.YtbpdielmdhhdfaaGreatDoorMt13
/- The document's side of chapter 3: a number. -/
namespace Go.Proofs.YtbpdielmdhhdfaaGreatDoor
open Go.RowKit
set_option linter.unusedVariables false
set_option linter.unusedSimpArgs false
/-- The value of digits. -/
def valN (s : List UInt8) : Nat := s.foldl (fun n x => n * 10 + (x.toNat - 48)) 0
theorem valN_snoc (l : List UInt8) (x : UInt8) : valN (l ++ [x]) = valN l * 10 + (x.toNat - 48) := by simp [valN]
def digS (x : UInt8) : Prop := 48 ≤ x.toNat ∧ x.toNat ≤ 57
/-- 3.1: decimal digits with no 0 ahead, of at most 15. -/
def gdN (s : List UInt8) : Prop := 1 ≤ s.length ∧ s.length ≤ 15 ∧ ¬ (1 < s.length ∧ s[0]? = some 48) ∧ ∀ x ∈ s, digS x
def NuP (s : List UInt8) (v : Int) : Prop := (gdN s ∧ v = valN s) ∨ (¬ gdN s ∧ v = -1)
theorem valN_lt (s : List UInt8) : ∀ j, j ≤ s.length → (∀ x ∈ s.take j, digS x) → valN (s.take j) < 10 ^ j
  | 0, _, _ => by simp [valN]
  | j + 1, hj, h => by
    have hx : s[j]? = some s[j] := List.getElem?_eq_getElem (by omega)
    have e := take_snoc8 s j _ hx
    rw [e] at h ⊢
    have ih := valN_lt s j (by omega) (fun x hx => h x (List.mem_append_left _ hx))
    have hd := h s[j] (List.mem_append_right _ (List.mem_singleton.2 rfl))
    rw [valN_snoc, Nat.pow_succ]
    have := hd.2
    omega
def PostN (s : List UInt8) (e : Ending) : Prop := ∃ v, e = .returned (.int .i64 v) ∧ NuP s v
set_option maxRecDepth 20000 in
set_option maxHeartbeats 1000000 in
theorem numberR_any (s : List UInt8) (w : World) : Calls Tryz.prog 143 #[.string ⟨s.toArray⟩] w fun e w' => w' = w ∧ PostN s e := by
  obtain ⟨S, HS⟩ : ∃ S : ByteArray, Hid (⟨s.toArray⟩ = S) := ⟨_, rfl⟩
  obtain ⟨n, HN⟩ : ∃ n, Hid (s.length = n) := ⟨_, rfl⟩
  have hsz : S.size = n := by rw [← HS.out, txt_len]; exact HN.out
  have HBAD : Hid (¬ gdN s → PostN s (.returned (.int .i64 (-1)))) := fun h => ⟨-1, rfl, .inr ⟨h, rfl⟩⟩
  rw [HS.out]
  by_cases h1 : n < 1
  · have h1i : (n : Int) < 1 := by omega
    have HNO : Hid (¬ gdN s) := fun h => by have := h.1; rw [HN.out] at this; omega
    go_enter Tryz.func143, Tryz.ntmps143
    go_wp2
    go_ret
    exact ⟨rfl, HBAD.out HNO.out⟩
  have h1i : ¬ (n : Int) < 1 := by omega
  by_cases h15 : 15 < n
  · have h2i : (15 : Int) < (n : Int) := by omega
    have HNO : Hid (¬ gdN s) := fun h => by have := h.2.1; rw [HN.out] at this; omega
    go_enter Tryz.func143, Tryz.ntmps143
    go_wp2
    go_ret
    exact ⟨rfl, HBAD.out HNO.out⟩
  have h2i : ¬ (15 : Int) < (n : Int) := by omega
  obtain ⟨x0, hx0⟩ : ∃ x, s[0]? = some x := ⟨_, List.getElem?_eq_getElem (by rw [HN.out]; omega)⟩
  obtain ⟨c0, HC0⟩ : ∃ c, Hid ((x0.toNat : Int) = c) := ⟨_, rfl⟩
  have HX0 : Hid (s[0]? = some x0) := hx0
  have hi0 : ∀ w1 : World, (Instr.index 9 (.string S) (.int .i64 0)).run Tryz.prog w1 = .ok (.int .u8 c0) w1 := fun w1 => by rw [← HS.out, ← HC0.out]; exact index_txt s 0 w1 x0 HX0.out
  clear hx0
  by_cases hz : 1 < n ∧ c0 = 48
  · obtain ⟨hz1, hz2⟩ := hz
    have hz1i : (1 : Int) < (n : Int) := by omega
    have HNO : Hid (¬ gdN s) := fun h => h.2.2.1 ⟨by rw [HN.out]; exact hz1, by rw [HX0.out, (u8_ne (n := 48) (by decide)).1 (HC0.out.trans hz2)]; rfl⟩
    clear HC0
    subst hz2
    go_enter Tryz.func143, Tryz.ntmps143
    go_wp2
    go_ret
    exact ⟨rfl, HBAD.out HNO.out⟩
  have HZ : Hid (¬ (1 < n ∧ c0 = 48)) := hz
  have HZ0 : Hid (¬ (1 < s.length ∧ s[0]? = some 48)) := fun h => HZ.out ⟨by rw [← HN.out]; exact h.1, by
    have h2 := h.2
    rw [HX0.out] at h2
    cases h2
    exact HC0.out.symm.trans rfl⟩
  have hfin : Hid (∀ wr : World, wr = w → ∀ P : World → Prop, P w → P wr) := fun wr e P h => e ▸ h
  have key : ∀ b : Bool, (decide ((1 : Int) < (n : Int))) = b → (b = true → (c0 == 48) = false) → Calls Tryz.prog 143 #[.string S] w fun e w' => w' = w ∧ PostN s e := by
    intro b hb hc
    have hstep : (b = true ∧ ((1 : Int) < (n : Int)) ∧ (c0 == 48) = false) ∨ (b = false ∧ ¬ ((1 : Int) < (n : Int))) := by
      cases b with
      | true => exact .inl ⟨rfl, of_decide_eq_true hb, hc rfl⟩
      | false => exact .inr ⟨rfl, of_decide_eq_false hb⟩
    clear hb hc hz
    rcases hstep with ⟨-, hg1, hg2⟩ | ⟨-, hg1⟩
    all_goals
      go_enter Tryz.func143, Tryz.ntmps143
      go_wp2
      go_loopg [3, 4] n (fun g v i wr => ∃ j N : Nat, j ≤ n ∧ g = n - j ∧ v = .int .i64 N ∧ i = .int .i64 j ∧ Hid (N = valN (s.take j)) ∧ Hid (∀ x ∈ s.take j, digS x) ∧ Hid (wr = w))
      case atStart => exact ⟨0, 0, by omega, rfl, rfl, rfl, hid (by simp [valN]), hid (by simp), hid rfl⟩
      case round =>
        obtain ⟨j, N, hj, hk, rfl, rfl, HV, HT, HW⟩ := hrel
        by_cases hlt : j < n
        · have hlti : (j : Int) < (n : Int) := by omega
          obtain ⟨x, hx⟩ : ∃ x, s[j]? = some x := ⟨_, List.getElem?_eq_getElem (by rw [HN.out]; exact hlt)⟩
          obtain ⟨c, HC⟩ : ∃ c, Hid ((x.toNat : Int) = c) := ⟨_, rfl⟩
          have HX : Hid (s[j]? = some x) := hx
          have hix : ∀ w1 : World, (Instr.index 9 (.string S) (.int .i64 j)).run Tryz.prog w1 = .ok (.int .u8 c) w1 := fun w1 => by rw [← HS.out, ← HC.out]; exact index_txt s j w1 x HX.out
          clear hx
          have hNb : N < 100000000000000 := by
            have h1 := valN_lt s j (by rw [HN.out]; omega) HT.out
            rw [← HV.out] at h1
            have h2 : 10 ^ j ≤ 10 ^ 14 := Nat.pow_le_pow_right (by decide) (by omega)
            omega
          by_cases d1 : c < 48
          · have HNO : Hid (¬ gdN s) := fun h => by
              have := (h.2.2.2 x (List.mem_of_getElem? HX.out)).1
              have := HC.out
              omega
            go_wp2
            go_ret
            exact ⟨HW.out, HBAD.out HNO.out⟩
          by_cases d2 : (57 : Int) < c
          · have HNO : Hid (¬ gdN s) := fun h => by
              have := (h.2.2.2 x (List.mem_of_getElem? HX.out)).2
              have := HC.out
              omega
            go_wp2
            go_ret
            exact ⟨HW.out, HBAD.out HNO.out⟩
          have d1' : (48 : Int) ≤ c := by omega
          have d2' : c ≤ 57 := by omega
          go_wp2
          go_roundg (n - (j + 1))
          case measure => omega
          case rel =>
            refine ⟨j + 1, N * 10 + (x.toNat - 48), by omega, rfl, ?_, by go_num, hid ?_, hid ?_, HW⟩
            · have := HC.out
              congr 1
              omega
            · rw [take_snoc8 s j x HX.out, valN_snoc, ← HV.out]
            · rw [take_snoc8 s j x HX.out]
              intro y hy
              rcases List.mem_append.1 hy with hy | hy
              · exact HT.out y hy
              · have : y = x := by simpa using hy
                subst this
                have := HC.out
                exact ⟨by omega, by omega⟩
        · have hlti : ¬ (j : Int) < (n : Int) := by omega
          have HG : Hid (NuP s N) := hid (by
            have h3 := HT.out
            have h4 := HV.out
            rw [List.take_of_length_le (by rw [HN.out]; omega)] at h3 h4
            exact .inl ⟨⟨by rw [HN.out]; omega, by rw [HN.out]; omega, HZ0.out, h3⟩, by rw [h4]⟩)
          go_wp2
          go_ret
          exact ⟨HW.out, N, rfl, HG.out⟩
  refine key _ rfl (fun hb => ?_)
  have h1 : 1 < n := by
    have := of_decide_eq_true hb
    omega
  have h2 : c0 ≠ 48 := fun e => HZ.out ⟨h1, e⟩
  simpa using h2
end Go.Proofs.YtbpdielmdhhdfaaGreatDoor
/- A person's text, taken apart. -/
namespace Go.Proofs.YtbpdielmdhhdfaaGreatDoor
set_option linter.unusedVariables false
set_option linter.unusedSimpArgs false
/-- The first place of a sign. -/
theorem first_at {s a b : List UInt8} {c : UInt8} {o : Nat} (hs : s = a ++ c :: b) (ha : c ∉ a) (h1 : ∀ x ∈ s.take o, x ≠ c) (h2 : o = s.length ∨ s[o]? = some c) : o = a.length := by
  have hl : s.length = a.length + (b.length + 1) := by rw [hs]; simp
  rcases Nat.lt_trichotomy o a.length with h | h | h
  · rcases h2 with h2 | h2
    · omega
    · rw [hs, List.getElem?_append_left h] at h2
      exact absurd (List.mem_of_getElem? h2) ha
  · exact h
  · refine absurd rfl (h1 c ?_)
    have hx : s[a.length]? = some c := by rw [hs, List.getElem?_append_right (Nat.le_refl _)]; simp
    have h3 : (s.take o)[a.length]? = some c := by rw [List.getElem?_take_of_lt h]; exact hx
    exact List.mem_of_getElem? h3
/-- The hours and minutes of a zone. -/
def zh (q : Per) : Nat := q.zone.natAbs / 60
def zm (q : Per) : Nat := q.zone.natAbs % 60
def zs (q : Per) : UInt8 := if q.zone < 0 then 45 else 43
theorem perB_parts (q : Per) : perB q = q.name ++ ([32, 60] ++ (q.mail ++ ([62, 32] ++ (Lib.decDigits q.time.toNat ++ ([32, zs q] ++ (two (zh q) ++ two (zm q))))))) := by
  simp [perB, zoneB, zs, zh, zm]
theorem two_len (n : Nat) : (two n).length = 2 := rfl
theorem drop_at (a b : List UInt8) (n : Nat) (h : a.length = n) : (a ++ b).drop n = b := List.drop_left' h
theorem take_at (a b : List UInt8) (n : Nat) (h : a.length = n) : (a ++ b).take n = a := List.take_left' h
/-- Where a person's text has its signs, and what stands between. -/
theorem per_parts (q : Per) (hq : okP q) (s : List UInt8) (hs : perB q = s) (o sh : Nat) (ho : ∀ x ∈ s.take o, x ≠ 60) (ho2 : o = s.length ∨ s[o]? = some 60)
    (hle : o ≤ sh) (hsh : ∀ x ∈ (s.take sh).drop o, x ≠ 62) (hsh2 : sh = s.length ∨ s[sh]? = some 62) :
    o = q.name.length + 1 ∧ sh = q.name.length + 2 + q.mail.length ∧ s.length = sh + 8 + (Lib.decDigits q.time.toNat).length ∧ s.take (o - 1) = q.name ∧ (s.drop (o + 1)).take (sh - (o + 1)) = q.mail ∧
      (s.drop (sh + 2)).take (s.length - 6 - (sh + 2)) = Lib.decDigits q.time.toNat ∧ (s.drop (s.length - 4)).take 2 = two (zh q) ∧ s.drop (s.length - 2) = two (zm q) ∧ s[s.length - 5]? = some (zs q) := by
  obtain ⟨⟨n1, nb, _⟩, ⟨m1, mb, _⟩, _, _, _⟩ := hq
  obtain ⟨D, HD⟩ : ∃ D, D = Lib.decDigits q.time.toNat := ⟨_, rfl⟩
  have hp := perB_parts q
  rw [hs, ← HD] at hp
  rw [← HD]
  have e1 : o = q.name.length + 1 := by
    have h := first_at (a := q.name ++ [32]) (b := q.mail ++ ([62, 32] ++ (D ++ ([32, zs q] ++ (two (zh q) ++ two (zm q)))))) (c := 60) (by rw [hp]; simp) (by
      intro h
      rcases List.mem_append.1 h with h | h
      · exact (nb 60 h).1 rfl
      · simp at h) ho ho2
    simpa using h
  have e2 : sh = q.name.length + 2 + q.mail.length := by
    have hd : s.drop o = (60 :: q.mail) ++ 62 :: ([32] ++ (D ++ ([32, zs q] ++ (two (zh q) ++ two (zm q))))) := by
      rw [hp, show q.name ++ ([32, 60] ++ (q.mail ++ ([62, 32] ++ (D ++ ([32, zs q] ++ (two (zh q) ++ two (zm q))))))) = (q.name ++ [32]) ++ ((60 :: q.mail) ++ 62 :: ([32] ++ (D ++ ([32, zs q] ++ (two (zh q) ++ two (zm q)))))) from by simp]
      exact drop_at _ _ _ (by simp [e1])
    have hl : sh ≤ s.length := by
      rcases hsh2 with h | h
      · omega
      · exact Nat.le_of_lt (List.getElem?_eq_some_iff.1 h).1
    have h := first_at (o := sh - o) hd (by
      intro h
      rcases List.mem_cons.1 h with h | h
      · cases h
      · exact (mb 62 h).2.1 rfl) (by rw [← List.drop_take]; exact hsh) (by
      rcases hsh2 with h | h
      · left; rw [List.length_drop]; omega
      · right; rw [List.getElem?_drop, show o + (sh - o) = sh from by omega]; exact h)
    simp at h
    omega
  have hlen : s.length = sh + 8 + D.length := by rw [hp, e2]; simp [two_len]; omega
  refine ⟨e1, e2, hlen, ?_, ?_, ?_, ?_, ?_, ?_⟩
  · rw [hp]; exact take_at _ _ _ (by omega)
  · rw [hp, show q.name ++ ([32, 60] ++ (q.mail ++ ([62, 32] ++ (D ++ ([32, zs q] ++ (two (zh q) ++ two (zm q))))))) = (q.name ++ [32, 60]) ++ (q.mail ++ ([62, 32] ++ (D ++ ([32, zs q] ++ (two (zh q) ++ two (zm q)))))) from by simp, drop_at _ _ _ (by simp; omega)]
    exact take_at _ _ _ (by omega)
  · rw [show s.length - 6 - (sh + 2) = D.length from by omega, hp, show q.name ++ ([32, 60] ++ (q.mail ++ ([62, 32] ++ (D ++ ([32, zs q] ++ (two (zh q) ++ two (zm q))))))) = (q.name ++ ([32, 60] ++ (q.mail ++ [62, 32]))) ++ (D ++ ([32, zs q] ++ (two (zh q) ++ two (zm q)))) from by simp, drop_at _ _ _ (by simp; omega)]
    exact take_at _ _ _ rfl
  · rw [show s.length - 4 = (q.name ++ ([32, 60] ++ (q.mail ++ ([62, 32] ++ (D ++ [32, zs q]))))).length from by rw [hlen]; simp; omega, hp, show q.name ++ ([32, 60] ++ (q.mail ++ ([62, 32] ++ (D ++ ([32, zs q] ++ (two (zh q) ++ two (zm q))))))) = (q.name ++ ([32, 60] ++ (q.mail ++ ([62, 32] ++ (D ++ [32, zs q]))))) ++ (two (zh q) ++ two (zm q)) from by simp, drop_at _ _ _ rfl]
    exact take_at _ _ _ rfl
  · rw [show s.length - 2 = (q.name ++ ([32, 60] ++ (q.mail ++ ([62, 32] ++ (D ++ ([32, zs q] ++ two (zh q))))))).length from by rw [hlen]; simp [two_len]; omega, hp, show q.name ++ ([32, 60] ++ (q.mail ++ ([62, 32] ++ (D ++ ([32, zs q] ++ (two (zh q) ++ two (zm q))))))) = (q.name ++ ([32, 60] ++ (q.mail ++ ([62, 32] ++ (D ++ ([32, zs q] ++ two (zh q))))))) ++ two (zm q) from by simp]
    exact drop_at _ _ _ rfl
  · rw [show s.length - 5 = (q.name ++ ([32, 60] ++ (q.mail ++ ([62, 32] ++ (D ++ [32]))))).length from by rw [hlen]; simp; omega, hp, show q.name ++ ([32, 60] ++ (q.mail ++ ([62, 32] ++ (D ++ ([32, zs q] ++ (two (zh q) ++ two (zm q))))))) = (q.name ++ ([32, 60] ++ (q.mail ++ ([62, 32] ++ (D ++ [32]))))) ++ (zs q :: (two (zh q) ++ two (zm q))) from by simp, List.getElem?_append_right (Nat.le_refl _)]
    simp
end Go.Proofs.YtbpdielmdhhdfaaGreatDoor
