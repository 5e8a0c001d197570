/- Package refs: 'hasRunes'. -/
import Derived.Test.YtcfgoiibmhkcnaaDoorNmP
import Derived.Test.YtcfgoiibmhkcnaaDoorNmS
import Derived.Test.YtcfgoiibmhkcnaaDoorChecked
import Derived.RowKit
import Derived.Below
import Derived.WalkKit
import Derived.WalkSpells
import Derived.WalkLawsBesides
import Derived.Deep.LoopGhost
import Derived.BigQuiet
import Derived.Laws.RangeString
import Derived.Laws.RangeAny
import Derived.Lib.IndexAny
namespace Go.Proofs.YtcfgoiibmhkcnaaDoor
open Go.RowKit
set_option linter.unusedVariables false
set_option linter.unusedSimpArgs false
theorem hid {p : Prop} (h : p) : Hid p := h
theorem iter_below (w : World) (s : ByteArray) (pos : Nat) : Below w.heap.size w (w.iter s pos) :=
  ⟨rfl, rfl, rfl, by simp [World.iter], fun k hk => by
    show (w.heap.push _)[k]? = _
    rw [Array.getElem?_push, if_neg (by omega)]⟩
theorem rune_any (c : Int) (w : World) (h0 : 0 ≤ c) (h1 : c < 128) :
    Calls Tryd.prog 12 #[.string ⟨#[126, 94, 58, 63, 42, 91, 92]⟩, .int .i32 c] w fun e w' => e = .returned (.bool (([126, 94, 58, 63, 42, 91, 92] : List UInt8).contains c.toNat.toUInt8)) ∧ w' = w := by
  refine (Any.strings_ContainsRune_ascii Tryd.lays151 ⟨#[126, 94, 58, 63, 42, 91, 92]⟩ c w h0 h1).mono ?_
  rintro e w' ⟨rfl, rfl⟩
  exact ⟨by rw [Lib.contains_iff_indexByte], rfl⟩
set_option maxRecDepth 100000 in
set_option maxHeartbeats 1000000 in
theorem hasRunes_any (s : List UInt8) (w : World) :
    Calls Tryd.prog 7 #[.string ⟨s.toArray⟩] w fun e w' => e = .returned (.bool (s.all byteOk)) ∧ Below w.heap.size w w' := by
  obtain ⟨S, HS⟩ : ∃ S : ByteArray, Hid (⟨s.toArray⟩ = S) := ⟨_, rfl⟩
  obtain ⟨n, HN⟩ : ∃ n, Hid (s.length = n) := ⟨_, rfl⟩
  have hsz : S.size = n := by rw [← HS.out, ← HN.out]; simp [ByteArray.size]
  have HBI : Hid (∀ pos, Below w.heap.size w (w.iter S pos)) := fun pos => iter_below w S pos
  have HG : Hid (∀ pos (h : pos < S.size), s[pos]? = some (S[pos]'h)) := fun pos h => by
    have := Lib.data_getElem? S pos h
    rw [← this, ← HS.out]
  have HBAD : Hid (∀ pos x, s[pos]? = some x → byteOk x = false → s.all byteOk = false) := fun pos x hx hb => by
    rw [Bool.eq_false_iff]
    intro h
    have := List.all_eq_true.1 h x (List.mem_of_getElem? hx)
    rw [hb] at this
    cases this
  rw [HS.out]
  go_enter Tryd.func7, Tryd.ntmps7
  go_wp2
  go_loopw [] (fun w' => ∃ pos : Nat, w' = w.iter S pos ∧ pos ≤ n ∧ Hid (∀ x ∈ s.take pos, byteOk x = true)) (fun w' => n - w'.iterPos w.heap.size)
  case atStart => exact ⟨0, rfl, Nat.zero_le _, hid (by simp)⟩
  case round =>
    obtain ⟨pos, rfl, hpn, HD⟩ := hrel
    by_cases hp : pos < S.size
    · have hnx : ∀ ty, (Instr.next (.pointer (some ⟨w.heap.size, 0, none⟩)) true ty).run Tryd.prog (w.iter S pos) = _ := fun ty => run_next_any w S pos ty hp
      obtain ⟨x, HX⟩ : ∃ x, Hid (S[pos]'hp = x) := ⟨_, rfl⟩
      have HSX : Hid (s[pos]? = some x) := hid (by rw [← HX.out]; exact HG.out pos hp)
      by_cases h128 : x.toNat < 128
      · have hdec := decode_ascii S pos hp (by rw [HX.out]; exact h128)
        rw [HX.out] at hdec
        rw [hdec] at hnx
        obtain ⟨c, HC⟩ : ∃ c : Int, Hid ((x.toNat : Int) = c) := ⟨_, rfl⟩
        simp only [HC.out] at hnx
        have hc0 : 0 ≤ c := by rw [← HC.out]; omega
        have hc1 : c < 128 := by rw [← HC.out]; omega
        have HT : Hid (c.toNat.toUInt8 = x) := hid (by rw [← HC.out]; simp)
        clear hdec
        by_cases h33 : c < 33
        · have HB : Hid (s.all byteOk = false) := hid (HBAD.out pos x HSX.out (by unfold byteOk; rw [decide_eq_false (by have := HC.out; omega)]; rfl))
          go_wp2
          go_ret
          exact ⟨by rw [HB.out]; rfl, HBI.out _⟩
        · by_cases h126 : 126 < c
          · have HB : Hid (s.all byteOk = false) := hid (HBAD.out pos x HSX.out (by unfold byteOk; rw [decide_eq_false (show ¬ x.toNat ≤ 126 by have := HC.out; omega)]; simp))
            go_wp2
            go_ret
            exact ⟨by rw [HB.out]; rfl, HBI.out _⟩
          · obtain ⟨b, HBB⟩ : ∃ b, Hid (([126, 94, 58, 63, 42, 91, 92] : List UInt8).contains x = b) := ⟨_, rfl⟩
            have CR : Hid (∀ w, Calls Tryd.prog 12 #[.string ⟨#[126, 94, 58, 63, 42, 91, 92]⟩, .int .i32 c] w fun e w' => e = .returned (.bool b) ∧ w' = w) := fun w => by
              have := rune_any c w hc0 hc1
              rw [HT.out, HBB.out] at this
              exact this
            have HOK : Hid (byteOk x = !b) := hid (by
              unfold byteOk
              rw [HBB.out, decide_eq_true (show 33 ≤ x.toNat by have := HC.out; omega), decide_eq_true (show x.toNat ≤ 126 by have := HC.out; omega)]
              rfl)
            have hpn' : pos < n := by rw [← hsz]; exact hp
            cases b with
            | true =>
              have HB : Hid (s.all byteOk = false) := hid (HBAD.out pos x HSX.out HOK.out)
              go_wp2_with (go_at_call 12; refine (CR.out _).mono ?_; rintro e w' ⟨rfl, rfl⟩)
              go_ret
              exact ⟨by rw [HB.out]; rfl, HBI.out _⟩
            | false =>
              go_wp2_with (go_at_call 12; refine (CR.out _).mono ?_; rintro e w' ⟨rfl, rfl⟩)
              go_roundw
              case rel =>
                refine ⟨pos + 1, rfl, by omega, hid ?_⟩
                rw [List.take_add_one, HSX.out]
                intro y hy
                rcases List.mem_append.1 hy with hy | hy
                · exact HD.out y hy
                · have : y = x := by simpa using hy
                  subst this
                  exact HOK.out
              case measure =>
                simp
                omega
      · have hdec := decode_high S pos hp (by rw [HX.out]; omega)
        have HB : Hid (s.all byteOk = false) := hid (HBAD.out pos x HSX.out (by unfold byteOk; rw [decide_eq_false (show ¬ x.toNat ≤ 126 by omega)]; simp))
        obtain ⟨c, HC⟩ : ∃ c : Int, Hid (((Utf8.decode S pos).1 : Int) = c) := ⟨_, rfl⟩
        simp only [HC.out] at hnx
        have h126 : 126 < c := by rw [← HC.out]; omega
        have h33 : ¬ c < 33 := by omega
        clear hdec
        go_wp2
        go_ret
        exact ⟨by rw [HB.out]; rfl, HBI.out _⟩
    · have hnx : ∀ ty, (Instr.next (.pointer (some ⟨w.heap.size, 0, none⟩)) true ty).run Tryd.prog (w.iter S pos) = _ := fun ty => run_next_end w S pos ty hp
      have HB : Hid (s.all byteOk = true) := hid (by
        have h := HD.out
        rw [List.take_of_length_le (by rw [HN.out]; omega)] at h
        exact List.all_eq_true.2 h)
      go_wp2
      go_ret
      exact ⟨by rw [HB.out]; rfl, HBI.out _⟩
end Go.Proofs.YtcfgoiibmhkcnaaDoor
