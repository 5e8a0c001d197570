/- The document's 'IsPath'. -/
import Derived.Test.YtemgmbcmppngmaaPaN
import Derived.Test.YtemgmbcmppngmaaPaI
namespace Go.Proofs.Ytemgmbcmppngmaa
open Go.RowKit
set_option linter.unusedVariables false
set_option linter.unusedSimpArgs false
theorem isPath_all (s : List UInt8) (w : World) : Calls Try.prog 4 #[.string ⟨s.toArray⟩] w fun e w' => BIs (okP s) e ∧ Below w.heap.size w w' :=
  isPath_any (fun t W => isEntryName_any t W) s w
/-- How far the document's walk is. -/
def Dp (s : List UInt8) (f i : Nat) : Prop := (∃ dn, Pth s f i dn ∧ ∀ p ∈ dn, okE p) ∨ (i = s.length + 1 ∧ ∀ p ∈ spl s, okE p)
theorem Dp.pth {s : List UInt8} {f i : Nat} (h : Dp s f i) (hi : i ≤ s.length) : ∃ dn, Pth s f i dn ∧ ∀ p ∈ dn, okE p := by
  rcases h with h | ⟨h, _⟩
  · exact h
  · omega
theorem Dp.all {s : List UInt8} {f i : Nat} (h : Dp s f i) (hi : ¬ i ≤ s.length) : ∀ p ∈ spl s, okE p := by
  rcases h with ⟨dn, h, _⟩ | ⟨_, h⟩
  · exact absurd h.len hi
  · exact h
theorem Dp.go {s : List UInt8} {f i : Nat} (h : Dp s f i) {x : UInt8} (hx : s[i]? = some x) (hn : x ≠ 47) : Dp s f (i + 1) := by
  obtain ⟨dn, h1, h2⟩ := h.pth (Nat.le_of_lt (List.getElem?_eq_some_iff.1 hx).1)
  exact .inl ⟨dn, h1.go hx hn, h2⟩
theorem Dp.sep {s : List UInt8} {f i : Nat} (h : Dp s f i) (hx : s[i]? = some 47) (hk : okE (cur s f i)) : Dp s (i + 1) (i + 1) := by
  obtain ⟨dn, h1, h2⟩ := h.pth (Nat.le_of_lt (List.getElem?_eq_some_iff.1 hx).1)
  refine .inl ⟨_, h1.sep hx, fun p hp => ?_⟩
  rcases List.mem_append.1 hp with hp | hp
  · exact h2 p hp
  · rw [List.mem_singleton.1 hp]; exact hk
theorem Dp.bad {s : List UInt8} {f i : Nat} (h : Dp s f i) (hx : s[i]? = some 47) (hk : ¬ okE (cur s f i)) : ¬ okP s := by
  obtain ⟨dn, h1, h2⟩ := h.pth (Nat.le_of_lt (List.getElem?_eq_some_iff.1 hx).1)
  exact fun h => hk (h.2 _ (h1.part hx))
theorem Dp.last {s : List UInt8} {f i : Nat} (h : Dp s f i) (hi : i = s.length) (hk : okE (cur s f i)) (g : Nat) : Dp s g (i + 1) := by
  obtain ⟨dn, h1, h2⟩ := h.pth (by omega)
  refine .inr ⟨by omega, fun p hp => ?_⟩
  rw [h1.end_ hi] at hp
  rcases List.mem_append.1 hp with hp | hp
  · exact h2 p hp
  · rw [List.mem_singleton.1 hp]; exact hk
theorem Dp.lastBad {s : List UInt8} {f i : Nat} (h : Dp s f i) (hi : i = s.length) (hk : ¬ okE (cur s f i)) : ¬ okP s := by
  obtain ⟨dn, h1, h2⟩ := h.pth (by omega)
  exact fun h => hk (h.2 _ (by rw [h1.end_ hi]; simp))
set_option maxRecDepth 100000 in
set_option maxHeartbeats 4000000 in
theorem refPath_any (s : List UInt8) (w : World) : Calls Try.prog 5 #[.string ⟨s.toArray⟩] w fun e w' => BIs (okP s) e ∧ w' = w := by
  obtain ⟨S, HS⟩ : ∃ S : ByteArray, Hid (⟨s.toArray⟩ = S) := ⟨_, rfl⟩
  obtain ⟨N, HN⟩ : ∃ N, Hid (s.length = N) := ⟨_, rfl⟩
  have hsz : S.size = N := by rw [← HS.out, txt_len]; exact HN.out
  by_cases h100 : N ≤ 100
  rotate_left
  · have hi : (100 : Int) < (N : Int) := by omega
    have HO : Hid (¬ okP s) := fun h => h100 (by rw [← HN.out]; exact h.1)
    rw [HS.out]
    go_enter Try.func5, Try.ntmps5
    go_wp2
    go_ret
    exact ⟨bis_false HO.out, rfl⟩
  have hi : ¬ (100 : Int) < (N : Int) := by omega
  have H100 : Hid (s.length ≤ 100) := hid (by rw [HN.out]; exact h100)
  rw [HS.out]
  go_enter Try.func5, Try.ntmps5
  go_wp2
  go_loopg [3, 4] (N + 1) (fun g vf vi wr => ∃ f i : Nat, g = N + 1 - i ∧ vf = .int .i64 f ∧ vi = .int .i64 i ∧ i ≤ N + 1 ∧ Hid (i ≤ N → f ≤ i) ∧ Hid (Dp s f i) ∧ Hid (wr = w))
  case atStart => exact ⟨0, 0, rfl, rfl, rfl, by omega, hid (fun _ => Nat.le_refl _), hid (.inl ⟨[], Pth.start s, fun p hp => by cases hp⟩), hid rfl⟩
  case round =>
    obtain ⟨f, i, hg, rfl, rfl, hiN, HF, HD, HW⟩ := hrel
    have hww := HW.out
    subst hww
    clear HW
    by_cases hin : i ≤ N
    rotate_left
    · have hini : ¬ (i : Int) ≤ (N : Int) := by omega
      have HO : Hid (okP s) := ⟨H100.out, HD.out.all (by rw [HN.out]; exact hin)⟩
      go_wp2
      go_ret
      exact ⟨bis_true HO.out, rfl⟩
    have hini : (i : Int) ≤ (N : Int) := by omega
    have hf : f ≤ i := HF.out hin
    obtain ⟨T, HT⟩ : ∃ T : ByteArray, Hid (⟨(cur s f i).toArray⟩ = T) := ⟨_, rfl⟩
    have hsl : ∀ w1 : World, (Instr.slice 9 (.string S) (some (.int .i64 f)) (some (.int .i64 i)) none).run Try.prog w1 = .ok (.string T) w1 := fun w1 => by rw [← HS.out, ← HT.out]; exact slc_mid s f i hf (by rw [HN.out]; exact hin) w1
    have C8 : Hid (∀ W, Calls Try.prog 8 #[.string T] W fun e W' => BIs (okE (cur s f i)) e ∧ W' = W) := fun W => by rw [← HT.out]; exact isName_any (cur s f i) W
    by_cases hlt : i < N
    · have hlti : (i : Int) < (N : Int) := by omega
      obtain ⟨x, hx⟩ : ∃ x, s[i]? = some x := ⟨_, List.getElem?_eq_getElem (by rw [HN.out]; exact hlt)⟩
      obtain ⟨c, HC⟩ : ∃ c, Hid ((x.toNat : Int) = c) := ⟨_, rfl⟩
      have HX : Hid (s[i]? = some x) := hx
      have hix : ∀ w1 : World, (Instr.index 9 (.string S) (.int .i64 i)).run Try.prog w1 = .ok (.int .u8 c) w1 := fun w1 => by rw [← HS.out, ← HC.out]; exact idx_txt s i w1 x HX.out
      have H47 : Hid (c = 47 ↔ x = 47) := hid (by rw [← HC.out]; exact byte_num x 47 (by decide))
      clear hx
      by_cases hc : c = 47
      · subst hc
        have HX7 : Hid (s[i]? = some 47) := hid (by rw [← H47.out.1 rfl]; exact HX.out)
        go_wp2_with fail
        refine (C8.out _).mono ?_
        rintro ev w1 ⟨hbi, rfl⟩
        rcases bis_or hbi with ⟨hy, rfl⟩ | ⟨hn, rfl⟩
        · have HD2 : Hid (Dp s (i + 1) (i + 1)) := HD.out.sep HX7.out hy
          clear hy hbi
          go_wp2
          go_roundg (N + 1 - (i + 1))
          case measure => omega
          case rel => exact ⟨i + 1, i + 1, rfl, by go_num, by go_num, by omega, hid (fun _ => Nat.le_refl _), HD2, hid rfl⟩
        · have HO : Hid (¬ okP s) := HD.out.bad HX7.out hn
          clear hn hbi
          go_wp2
          go_ret
          exact ⟨bis_false HO.out, rfl⟩
      · have hcb2 : (c != 47) = true := by simpa using hc
        have HD2 : Hid (Dp s f (i + 1)) := hid (HD.out.go HX.out (fun e => hc (H47.out.2 e)))
        go_wp2
        go_roundg (N + 1 - (i + 1))
        case measure => omega
        case rel => exact ⟨f, i + 1, rfl, rfl, by go_num, by omega, hid (fun _ => by omega), HD2, hid rfl⟩
    · have hlti : ¬ (i : Int) < (N : Int) := by omega
      have HIN : Hid (i = s.length) := hid (by rw [HN.out]; omega)
      go_wp2_with fail
      refine (C8.out _).mono ?_
      rintro ev w1 ⟨hbi, rfl⟩
      rcases bis_or hbi with ⟨hy, rfl⟩ | ⟨hn, rfl⟩
      · have HD2 : Hid (Dp s (i + 1) (i + 1)) := HD.out.last HIN.out hy _
        clear hy hbi
        go_wp2
        go_roundg (N + 1 - (i + 1))
        case measure => omega
        case rel => exact ⟨i + 1, i + 1, rfl, by go_num, by go_num, by omega, hid (fun _ => Nat.le_refl _), HD2, hid rfl⟩
      · have HO : Hid (¬ okP s) := HD.out.lastBad HIN.out hn
        clear hn hbi
        go_wp2
        go_ret
        exact ⟨bis_false HO.out, rfl⟩
end Go.Proofs.Ytemgmbcmppngmaa
