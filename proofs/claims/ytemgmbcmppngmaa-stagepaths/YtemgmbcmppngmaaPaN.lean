/- Names: package entryname, and the document's. -/
import Derived.Test.YtemgmbcmppngmaaCaB
import Derived.Test.YtemgmbcmppngmaaPaP
namespace Go.Proofs.Ytemgmbcmppngmaa
open Go.RowKit
set_option linter.unusedVariables false
set_option linter.unusedSimpArgs false
theorem two_asc : Asc ⟨#[47, 0]⟩ := by
  intro j h
  have h' : j < 2 := h
  match j, h' with
  | 0, _ => exact (by decide : (47 : UInt8).toNat < 128)
  | 1, _ => exact (by decide : (0 : UInt8).toNat < 128)
theorem two_iff (s : List UInt8) : ¬ hasAny ⟨s.toArray⟩ ⟨#[47, 0]⟩ ↔ ∀ x ∈ s, x ≠ 47 ∧ x ≠ 0 := by
  unfold hasAny
  simp only [not_exists, not_and]
  constructor
  · intro h x hx
    have := h x hx
    simpa using this
  · intro h x hx
    have := h x hx
    simpa using this
set_option maxRecDepth 20000 in
theorem isEntryName_any (s : List UInt8) (w : World) : Calls Try.prog 7 #[.string ⟨s.toArray⟩] w fun e w' => BIs (okE s) e ∧ Below w.heap.size w w' := by
  by_cases hbad : s = [] ∨ s = [46] ∨ s = [46, 46] ∨ s = [46, 103, 105, 116]
  · have HOK : Hid (¬ okE s) := hid (by
      rintro ⟨h1, _, h3, h4, h5, _⟩
      rcases hbad with h | h | h | h
      · rw [h] at h1; exact absurd h1 (by decide)
      · exact h3 h
      · exact h4 h
      · exact h5 h)
    rcases hbad with rfl | rfl | rfl | rfl
    all_goals
      go_enter Try.func7, Try.ntmps7
      go_wp2
      go_ret
      exact ⟨bis_false HOK.out, Below.refl _ _⟩
  · obtain ⟨S, HS⟩ : ∃ S : ByteArray, Hid (S = ⟨s.toArray⟩) := ⟨_, rfl⟩
    have hsz : S.size = s.length := by rw [HS.out]; simp [ByteArray.size]
    have n0 : s ≠ [] := fun h => hbad (Or.inl h)
    have n1 : s ≠ [46] := fun h => hbad (Or.inr (Or.inl h))
    have n2 : s ≠ [46, 46] := fun h => hbad (Or.inr (Or.inr (Or.inl h)))
    have n3 : s ≠ [46, 103, 105, 116] := fun h => hbad (Or.inr (Or.inr (Or.inr h)))
    have eS : S.toList = s := by rw [HS.out, Lib.toList_data]
    have e0 : S.toList.isEmpty = false := by rw [eS]; simpa using n0
    have e1 : (S.toList == [46]) = false := by rw [eS]; simpa using n1
    have e2 : (S.toList == [46, 46]) = false := by rw [eS]; simpa using n2
    have e3 : (S.toList == [46, 103, 105, 116]) = false := by rw [eS]; simpa using n3
    clear eS
    have HCA : Hid (s.length ≤ 50 → ∀ w, Calls Try.prog 10 #[.string S, .string ⟨#[47, 0]⟩] w fun e w' => BIs (hasAny ⟨s.toArray⟩ ⟨#[47, 0]⟩) e ∧ Below w.heap.size w w') := fun h50 w => by
      rw [HS.out]
      refine (containsAny_any ⟨s.toArray⟩ ⟨#[47, 0]⟩ (by decide) (by decide) two_asc (by simp [ByteArray.size]; omega) w).mono ?_
      rintro e w' ⟨⟨b, rfl, hb⟩, h2⟩
      exact ⟨⟨b, rfl, hb⟩, h2⟩
    have HL : Hid (1 ≤ s.length) := hid (by
      rcases s with _ | ⟨x, s⟩
      · exact absurd rfl n0
      · simp)
    have HN : Hid (s ≠ [46] ∧ s ≠ [46, 46] ∧ s ≠ [46, 103, 105, 116]) := ⟨n1, n2, n3⟩
    rw [← HS.out]
    clear n0 n1 n2 n3 hbad
    by_cases h : s.length ≤ 50
    · have hi : (s.length : Int) ≤ 50 := by omega
      have h60 : Hid (s.length ≤ 50) := h
      clear h
      go_enter Try.func7, Try.ntmps7
      go_wp2_with fail
      refine (HCA.out h60.out _).mono ?_
      rintro ev w1 ⟨hbi, hb1⟩
      rcases bis_or hbi with ⟨hy, rfl⟩ | ⟨hn, rfl⟩
      · have HOK : Hid (¬ okE s) := fun h2 => absurd hy ((two_iff s).2 h2.2.2.2.2.2)
        clear hy hbi
        go_wp2
        go_ret
        exact ⟨bis_false HOK.out, hb1⟩
      · have HOK : Hid (okE s) := ⟨HL.out, h60.out, HN.out.1, HN.out.2.1, HN.out.2.2, (two_iff s).1 hn⟩
        clear hn hbi
        go_wp2
        go_ret
        exact ⟨bis_true HOK.out, hb1⟩
    · have hi : ¬ (s.length : Int) ≤ 50 := by omega
      have HOK : Hid (¬ okE s) := fun h2 => h h2.2.1
      clear h
      go_enter Try.func7, Try.ntmps7
      go_wp2
      go_ret
      exact ⟨bis_false HOK.out, Below.refl _ _⟩
theorem index_txt (s : List UInt8) (j : Nat) (w : World) (x : UInt8) (h : s[j]? = some x) : (Instr.index 9 (.string ⟨s.toArray⟩) (.int .i64 j)).run Try.prog w = .ok (.int .u8 (x.toNat : Int)) w := by
  obtain ⟨hj, hx⟩ := List.getElem?_eq_some_iff.1 h
  have hsz : (⟨s.toArray⟩ : ByteArray).size = s.length := by simp [ByteArray.size]
  rw [run_index_string (P := Try.prog) w 9 ⟨s.toArray⟩ .i64 j Try.underlying9, dif_pos ⟨by omega, by rw [hsz]; omega⟩]
  simp only [Int.toNat_natCast]
  rw [← hx]
  rfl
theorem take_snoc8 (s : List UInt8) (j : Nat) (x : UInt8) (h : s[j]? = some x) : s.take (j + 1) = s.take j ++ [x] := by
  rw [List.take_add_one, h]
  rfl
def badE (c : Int) : Prop := c = 0 ∨ c = 47
theorem badE_iff (x : UInt8) : ¬ badE (x.toNat : Int) ↔ (x ≠ 47 ∧ x ≠ 0) := by
  unfold badE
  constructor
  · intro h
    exact ⟨fun e => h (by rw [e]; right; rfl), fun e => h (by rw [e]; left; rfl)⟩
  · rintro ⟨h1, h2⟩ (h | h)
    · exact h2 (UInt8.toNat_inj.1 (by simpa using h))
    · exact h1 (UInt8.toNat_inj.1 (by show x.toNat = 47; omega))
set_option maxRecDepth 20000 in
theorem isName_any (s : List UInt8) (w : World) : Calls Try.prog 8 #[.string ⟨s.toArray⟩] w fun e w' => BIs (okE s) e ∧ w' = w := by
  by_cases hbad : s = [] ∨ s = [46] ∨ s = [46, 46] ∨ s = [46, 103, 105, 116]
  · have HOK : Hid (¬ okE s) := hid (by
      rintro ⟨h1, _, h3, h4, h5, _⟩
      rcases hbad with h | h | h | h
      · rw [h] at h1; exact absurd h1 (by decide)
      · exact h3 h
      · exact h4 h
      · exact h5 h)
    rcases hbad with rfl | rfl | rfl | rfl
    all_goals
      go_enter Try.func8, Try.ntmps8
      go_wp2
      go_ret
      exact ⟨bis_false HOK.out, rfl⟩
  · obtain ⟨S, HS⟩ : ∃ S : ByteArray, Hid (S = ⟨s.toArray⟩) := ⟨_, rfl⟩
    obtain ⟨n, HN⟩ : ∃ n, Hid (s.length = n) := ⟨_, rfl⟩
    have hsz : S.size = n := by rw [HS.out, ← HN.out]; simp [ByteArray.size]
    have n0 : s ≠ [] := fun h => hbad (Or.inl h)
    have n1 : s ≠ [46] := fun h => hbad (Or.inr (Or.inl h))
    have n2 : s ≠ [46, 46] := fun h => hbad (Or.inr (Or.inr (Or.inl h)))
    have n3 : s ≠ [46, 103, 105, 116] := fun h => hbad (Or.inr (Or.inr (Or.inr h)))
    have eS : S.toList = s := by rw [HS.out, Lib.toList_data]
    have e1 : (S.toList == [46]) = false := by rw [eS]; simpa using n1
    have e2 : (S.toList == [46, 46]) = false := by rw [eS]; simpa using n2
    have e3 : (S.toList == [46, 103, 105, 116]) = false := by rw [eS]; simpa using n3
    clear eS
    have hn1 : 1 ≤ n := by
      rw [← HN.out]
      rcases s with _ | ⟨x, s⟩
      · exact absurd rfl n0
      · simp
    have HQ : Hid (s ≠ [46] ∧ s ≠ [46, 46] ∧ s ≠ [46, 103, 105, 116]) := ⟨n1, n2, n3⟩
    have hi1 : ¬ (n : Int) < 1 := by omega
    rw [← HS.out]
    clear n0 n1 n2 n3 hbad
    by_cases h : n ≤ 50
    · have hi : ¬ (50 : Int) < (n : Int) := by omega
      go_enter Try.func8, Try.ntmps8
      go_wp2
      go_loopg [3] n (fun g i wr => ∃ j : Nat, j ≤ n ∧ g = n - j ∧ i = .int .i64 j ∧ Hid (∀ x ∈ s.take j, ¬ badE (x.toNat : Int)) ∧ Hid (wr = w))
      case atStart => exact ⟨0, by omega, rfl, rfl, hid (by simp), hid rfl⟩
      case round =>
        obtain ⟨j, hj, hk, rfl, HT, HW⟩ := hrel
        by_cases hlt : j < n
        · have hlti : (j : Int) < (n : Int) := by omega
          obtain ⟨x, hx⟩ : ∃ x, s[j]? = some x := ⟨_, List.getElem?_eq_getElem (by rw [HN.out]; exact hlt)⟩
          obtain ⟨c, HC⟩ : ∃ c, Hid ((x.toNat : Int) = c) := ⟨_, rfl⟩
          have HX : Hid (s[j]? = some x) := hx
          have hix : ∀ w1 : World, (Instr.index 9 (.string S) (.int .i64 j)).run Try.prog w1 = .ok (.int .u8 c) w1 := fun w1 => by rw [HS.out, ← HC.out]; exact index_txt s j w1 x HX.out
          clear hx
          by_cases hc : badE c
          · have HM : Hid (¬ okE s) := fun ht => (badE_iff x).2 (ht.2.2.2.2.2 x (List.mem_of_getElem? HX.out)) (by rw [HC.out]; exact hc)
            clear HC
            rcases hc with rfl | rfl
            all_goals
              go_wp2
              go_ret
              exact ⟨bis_false HM.out, HW.out⟩
          · have HBD : Hid (¬ badE c) := hc
            have b1 : (c == 0) = false := by simp; exact fun e => hc (.inl e)
            have b2 : (c == 47) = false := by simp; exact fun e => hc (.inr e)
            clear hc
            go_wp2
            go_roundg (n - (j + 1))
            case measure => omega
            case rel =>
              refine ⟨j + 1, by omega, rfl, by go_num, hid ?_, HW⟩
              rw [take_snoc8 s j x HX.out]
              intro y hy
              rcases List.mem_append.1 hy with hy | hy
              · exact HT.out y hy
              · have : y = x := by simpa using hy
                subst this
                rw [HC.out]
                exact HBD.out
        · have hlti : ¬ (j : Int) < (n : Int) := by omega
          have HOK : Hid (okE s) := hid (by
            have h1 := HT.out
            rw [List.take_of_length_le (by rw [HN.out]; omega)] at h1
            exact ⟨by rw [HN.out]; exact hn1, by rw [HN.out]; exact h, HQ.out.1, HQ.out.2.1, HQ.out.2.2, fun x hx => (badE_iff x).1 (h1 x hx)⟩)
          go_wp2
          go_ret
          exact ⟨bis_true HOK.out, HW.out⟩
    · have hi : (50 : Int) < (n : Int) := by omega
      have HOK : Hid (¬ okE s) := fun h2 => h (by rw [← HN.out]; exact h2.2.1)
      clear h
      go_enter Try.func8, Try.ntmps8
      go_wp2
      go_ret
      exact ⟨bis_false HOK.out, rfl⟩
end Go.Proofs.Ytemgmbcmppngmaa
