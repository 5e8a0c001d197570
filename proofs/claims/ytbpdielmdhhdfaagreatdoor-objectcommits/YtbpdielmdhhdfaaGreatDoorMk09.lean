import Derived.Test.YtbpdielmdhhdfaaGreatDoorMk04
import Derived.Test.YtbpdielmdhhdfaaGreatDoorMk05
import Derived.Test.YtbpdielmdhhdfaaGreatDoorMk01
import Derived.Laws.IdiomStrings
import Derived.Test.YtbpdielmdhhdfaaGreatDoorMk06
import Derived.Test.YtbpdielmdhhdfaaGreatDoorMk07
import Derived.ChangeKeysEq
import Derived.Laws.StructEq
namespace Go.Proofs.YtbpdielmdhhdfaaGreatDoor
open Go.RowKit
set_option linter.unusedVariables false
set_option linter.unusedSimpArgs false
theorem index_txt (s : List UInt8) (j : Nat) (w : World) (x : UInt8) (h : s[j]? = some x) : (Instr.index 9 (.string ⟨s.toArray⟩) (.int .i64 j)).run Tryz.prog w = .ok (.int .u8 (x.toNat : Int)) w := by
  obtain ⟨hj, hx⟩ := List.getElem?_eq_some_iff.1 h
  have hsz : (⟨s.toArray⟩ : ByteArray).size = s.length := by simp [ByteArray.size]
  rw [run_index_string (P := Tryz.prog) w 9 ⟨s.toArray⟩ .i64 j Tryz.underlying9, dif_pos ⟨by omega, by rw [hsz]; omega⟩]
  simp only [Int.toNat_natCast]
  rw [← hx]
  rfl
theorem take_snoc8 (s : List UInt8) (j : Nat) (x : UInt8) (h : s[j]? = some x) : s.take (j + 1) = s.take j ++ [x] := by
  rw [List.take_add_one, h]
  rfl
theorem u8_ne {x : UInt8} {n : Nat} (hn : n < 256) : (x.toNat : Int) = (n : Int) ↔ x = UInt8.ofNat n := by
  constructor
  · intro h
    apply UInt8.toNat_inj.1
    rw [UInt8.toNat_ofNat']
    omega
  · rintro rfl
    rw [UInt8.toNat_ofNat']
    omega
theorem dropWhile_self {p : UInt8 → Bool} : ∀ {l : List UInt8}, l.dropWhile p = l ↔ ∀ b, l[0]? = some b → p b = false
  | [] => by simp
  | b :: l => by
    rw [List.dropWhile_cons]
    by_cases hb : p b = true
    · rw [if_pos hb]
      constructor
      · intro h
        have h2 := congrArg List.length h
        have h3 := (List.dropWhile_sublist p (l := l)).length_le
        simp at h2
        omega
      · intro h
        have := h b (by simp)
        rw [hb] at this
        cases this
    · rw [if_neg hb]
      simp [hb]
theorem trim_self (s : List UInt8) : Lib.trimS s [32] = s ↔ ∀ b, (s[0]? = some b ∨ s[s.length - 1]? = some b) → b ≠ 32 := by
  have key : Lib.trimS s [32] = s ↔ s.reverse.dropWhile ([32].contains ·) = s.reverse ∧ s.dropWhile ([32].contains ·) = s := by
    unfold Lib.trimS Lib.trimLeftS Lib.trimRightS
    constructor
    · intro h
      have h1 := (List.dropWhile_sublist ([32].contains ·) (l := s.reverse))
      have h2 := (List.dropWhile_sublist ([32].contains ·) (l := (s.reverse.dropWhile ([32].contains ·)).reverse)).length_le
      rw [h] at h2
      have h3 := h1.length_le
      simp only [List.length_reverse] at h2 h3
      have h4 := h1.eq_of_length (by simp only [List.length_reverse]; omega)
      refine ⟨h4, ?_⟩
      rw [h4, List.reverse_reverse] at h
      exact h
    · rintro ⟨h1, h2⟩
      rw [h1, List.reverse_reverse, h2]
  rw [key, dropWhile_self, dropWhile_self]
  have hc : ∀ b : UInt8, ([32].contains b = false) ↔ b ≠ 32 := fun b => by simp
  simp only [hc]
  by_cases h0 : s = []
  · subst h0
    simp
  · have hl : 0 < s.length := List.length_pos_iff.2 h0
    rw [List.getElem?_reverse hl]
    constructor
    · rintro ⟨h1, h2⟩ b (h | h)
      · exact h2 b h
      · exact h1 b (by simpa using h)
    · intro h
      exact ⟨fun b hb => h b (.inr (by simpa using hb)), fun b hb => h b (.inl hb)⟩
set_option maxRecDepth 20000 in
theorem message_any (s : List UInt8) (w : World) : Calls Tryz.prog 59 #[.string ⟨s.toArray⟩] w fun e w' => e = .returned (.bool (isMsg s)) ∧ w' = w := by
  obtain ⟨S, HS⟩ : ∃ S : ByteArray, Hid (S = ⟨s.toArray⟩) := ⟨_, rfl⟩
  obtain ⟨n, HN⟩ : ∃ n, Hid (s.length = n) := ⟨_, rfl⟩
  have hsz : S.size = n := by rw [HS.out, ← HN.out]; simp [ByteArray.size]
  rw [← HS.out]
  by_cases h : n ≤ 2000
  · have hi : ¬ (2000 : Int) < (n : Int) := by omega
    go_enter Tryz.func59, Tryz.ntmps59
    go_wp2
    go_loopg [3] n (fun g i wr => ∃ j : Nat, j ≤ n ∧ g = n - j ∧ i = .int .i64 j ∧ Hid (∀ x ∈ s.take j, x ≠ 0) ∧ Hid (wr = w))
    case atStart => exact ⟨0, by omega, rfl, rfl, hid (by simp), hid rfl⟩
    case round =>
      obtain ⟨j, hj, hk, rfl, HT, HW⟩ := hrel
      by_cases hlt : j < n
      · have hlti : (j : Int) < (n : Int) := by omega
        obtain ⟨x, hx⟩ : ∃ x, s[j]? = some x := ⟨_, List.getElem?_eq_getElem (by rw [HN.out]; exact hlt)⟩
        obtain ⟨c, HC⟩ : ∃ c, Hid ((x.toNat : Int) = c) := ⟨_, rfl⟩
        have HX : Hid (s[j]? = some x) := hx
        have hix : ∀ w1 : World, (Instr.index 9 (.string S) (.int .i64 j)).run Tryz.prog w1 = .ok (.int .u8 c) w1 := fun w1 => by rw [HS.out, ← HC.out]; exact index_txt s j w1 x HX.out
        clear hx
        by_cases hc : c = 0
        · have HM : Hid (isMsg s = false) := hid (by
            unfold isMsg
            have hx0 : x = 0 := (u8_ne (n := 0) (by decide)).1 (HC.out.trans hc)
            have : (0 : UInt8) ∈ s := hx0 ▸ List.mem_of_getElem? HX.out
            simp [this])
          have HC0 : Hid _ := HC
          clear HC HC0
          subst hc
          go_wp2
          go_ret
          exact ⟨by rw [HM.out]; rfl, HW.out⟩
        · have hcb : (c == 0) = false := by simpa using hc
          go_wp2
          go_roundg (n - (j + 1))
          case measure => omega
          case rel =>
            refine ⟨j + 1, by omega, rfl, by go_num, hid ?_, HW⟩
            rw [take_snoc8 s j x HX.out]
            intro y hy
            rcases List.mem_append.1 hy with hy | hy
            · exact HT.out y hy
            · have : y = x := by simpa using hy
              subst this
              rintro rfl
              exact hc (HC.out.symm.trans rfl)
      · have hlti : ¬ (j : Int) < (n : Int) := by omega
        obtain rfl : j = n := by omega
        have HM : Hid (isMsg s = true) := hid (by
          unfold isMsg
          have h1 := HT.out
          rw [List.take_of_length_le (by rw [HN.out]; omega)] at h1
          have h2 : (0 : UInt8) ∉ s := fun h => h1 0 h rfl
          have h3 : s.length ≤ 2000 := by rw [HN.out]; exact h
          simp [h2, h3])
        go_wp2
        go_ret
        exact ⟨by rw [HM.out]; rfl, HW.out⟩
  · have hi : (2000 : Int) < (n : Int) := by omega
    have HM : Hid (isMsg s = false) := hid (by
      unfold isMsg
      have h3 : ¬ s.length ≤ 2000 := by rw [HN.out]; exact h
      simp [h3])
    go_enter Tryz.func59, Tryz.ntmps59
    go_wp2
    go_ret
    exact ⟨by rw [HM.out]; rfl, rfl⟩
def badS (c : Int) : Prop := c = 60 ∨ c = 62 ∨ c = 10 ∨ c = 0
theorem badS_iff (x : UInt8) : ¬ badS (x.toNat : Int) ↔ x ≠ 60 ∧ x ≠ 62 ∧ x ≠ 10 ∧ x ≠ 0 := by
  unfold badS
  rw [show ((x.toNat : Int) = 60) ↔ x = 60 from u8_ne (n := 60) (by decide), show ((x.toNat : Int) = 62) ↔ x = 62 from u8_ne (n := 62) (by decide), show ((x.toNat : Int) = 10) ↔ x = 10 from u8_ne (n := 10) (by decide), show ((x.toNat : Int) = 0) ↔ x = 0 from u8_ne (n := 0) (by decide)]
  constructor
  · intro h
    exact ⟨fun e => h (.inl e), fun e => h (.inr (.inl e)), fun e => h (.inr (.inr (.inl e))), fun e => h (.inr (.inr (.inr e)))⟩
  · rintro ⟨a, b, c, d⟩ (h | h | h | h)
    · exact a h
    · exact b h
    · exact c h
    · exact d h
set_option maxRecDepth 20000 in
theorem plain_any (s : List UInt8) (w : World) : Calls Tryz.prog 103 #[.string ⟨s.toArray⟩] w fun e w' => BIs (okT s) e ∧ w' = w := by
  obtain ⟨S, HS⟩ : ∃ S : ByteArray, Hid (S = ⟨s.toArray⟩) := ⟨_, rfl⟩
  obtain ⟨n, HN⟩ : ∃ n, Hid (s.length = n) := ⟨_, rfl⟩
  have hsz : S.size = n := by rw [HS.out, ← HN.out]; simp [ByteArray.size]
  rw [← HS.out]
  by_cases h : n ≤ 60
  · have hi : ¬ (60 : Int) < (n : Int) := by omega
    go_enter Tryz.func103, Tryz.ntmps103
    go_wp2
    go_loopg [3] n (fun g i wr => ∃ j : Nat, j ≤ n ∧ g = n - j ∧ i = .int .i64 j ∧ Hid (∀ x ∈ s.take j, ¬ badS (x.toNat : Int)) ∧ Hid (wr = w))
    case atStart => exact ⟨0, by omega, rfl, rfl, hid (by simp), hid rfl⟩
    case round =>
      obtain ⟨j, hj, hk, rfl, HT, HW⟩ := hrel
      by_cases hlt : j < n
      · have hlti : (j : Int) < (n : Int) := by omega
        obtain ⟨x, hx⟩ : ∃ x, s[j]? = some x := ⟨_, List.getElem?_eq_getElem (by rw [HN.out]; exact hlt)⟩
        obtain ⟨c, HC⟩ : ∃ c, Hid ((x.toNat : Int) = c) := ⟨_, rfl⟩
        have HX : Hid (s[j]? = some x) := hx
        have hix : ∀ w1 : World, (Instr.index 9 (.string S) (.int .i64 j)).run Tryz.prog w1 = .ok (.int .u8 c) w1 := fun w1 => by rw [HS.out, ← HC.out]; exact index_txt s j w1 x HX.out
        clear hx
        by_cases hc : badS c
        · have HM : Hid (¬ okT s) := fun ht => (badS_iff x).2 (ht.2.1 x (List.mem_of_getElem? HX.out)) (by rw [HC.out]; exact hc)
          clear HC
          rcases hc with rfl | rfl | rfl | rfl
          all_goals
            go_wp2
            go_ret
            exact ⟨bis_false HM.out, HW.out⟩
        · have HBD : Hid (¬ badS c) := hc
          have b1 : (c == 60) = false := by simp; exact fun e => hc (.inl e)
          have b2 : (c == 62) = false := by simp; exact fun e => hc (.inr (.inl e))
          have b3 : (c == 10) = false := by simp; exact fun e => hc (.inr (.inr (.inl e)))
          have b4 : (c == 0) = false := by simp; exact fun e => hc (.inr (.inr (.inr e)))
          clear hc
          go_wp2
          go_roundg (n - (j + 1))
          case measure => omega
          case rel =>
            refine ⟨j + 1, by omega, rfl, by go_num, hid ?_, HW⟩
            rw [take_snoc8 s j x HX.out]
            intro y hy
            rcases List.mem_append.1 hy with hy | hy
            · exact HT.out y hy
            · have : y = x := by simpa using hy
              subst this
              rw [HC.out]
              exact HBD.out
      · have hlti : ¬ (j : Int) < (n : Int) := by omega
        have hjn : j = n := by omega
        have HT2 : Hid (∀ x ∈ s, x ≠ 60 ∧ x ≠ 62 ∧ x ≠ 10 ∧ x ≠ 0) := hid (by
          have h1 := HT.out
          rw [List.take_of_length_le (by rw [HN.out]; omega)] at h1
          exact fun x hx => (badS_iff x).1 (h1 x hx))
        have H60 : Hid (s.length ≤ 60) := hid (by rw [HN.out]; exact h)
        have HOK : Hid (okT s ↔ ∀ b, (s[0]? = some b ∨ s[s.length - 1]? = some b) → b ≠ 32) := hid (by
          unfold okT
          rw [trim_self]
          exact ⟨fun h => h.2.2, fun h => ⟨H60.out, HT2.out, h⟩⟩)
        clear hjn
        by_cases h0 : n = 0
        · have HY : Hid (okT s) := hid (by
            rw [HOK.out]
            have : s = [] := List.length_eq_zero_iff.1 (HN.out.trans h0)
            subst this
            simp)
          have hb0 : ((n : Int) == 0) = true := by simp; omega
          go_wp2
          go_ret
          exact ⟨bis_true HY.out, HW.out⟩
        · have hb0 : ((n : Int) == 0) = false := by simp; omega
          obtain ⟨x0, hx0⟩ : ∃ x, s[0]? = some x := ⟨_, List.getElem?_eq_getElem (by rw [HN.out]; omega)⟩
          obtain ⟨x1, hx1⟩ : ∃ x, s[s.length - 1]? = some x := ⟨_, List.getElem?_eq_getElem (by rw [HN.out]; omega)⟩
          obtain ⟨c0, HC0⟩ : ∃ c, Hid ((x0.toNat : Int) = c) := ⟨_, rfl⟩
          obtain ⟨c1, HC1⟩ : ∃ c, Hid ((x1.toNat : Int) = c) := ⟨_, rfl⟩
          have HX0 : Hid (s[0]? = some x0) := hx0
          have HX1 : Hid (s[s.length - 1]? = some x1) := hx1
          have hi0 : ∀ w1 : World, (Instr.index 9 (.string S) (.int .i64 0)).run Tryz.prog w1 = .ok (.int .u8 c0) w1 := fun w1 => by rw [HS.out, ← HC0.out]; exact index_txt s 0 w1 x0 HX0.out
          have hi1 : ∀ w1 : World, (Instr.index 9 (.string S) (.int .i64 ((n : Int) - 1))).run Tryz.prog w1 = .ok (.int .u8 c1) w1 := fun w1 => by
            rw [HS.out, ← HC1.out, show ((n : Int) - 1) = ((s.length - 1 : Nat) : Int) from by rw [HN.out]; omega]
            exact index_txt s _ w1 x1 HX1.out
          have hn1 : 1 ≤ n := by omega
          clear hx0 hx1
          have HQ : Hid (okT s ↔ c0 ≠ 32 ∧ c1 ≠ 32) := hid (by
            rw [HOK.out, ← HC0.out, ← HC1.out]
            have e0 : ((x0.toNat : Int) = 32) ↔ x0 = 32 := u8_ne (n := 32) (by decide)
            have e1 : ((x1.toNat : Int) = 32) ↔ x1 = 32 := u8_ne (n := 32) (by decide)
            rw [Ne, Ne, e0, e1]
            constructor
            · intro h
              exact ⟨h x0 (.inl HX0.out), h x1 (.inr HX1.out)⟩
            · rintro ⟨h1, h2⟩ b (h | h)
              · rw [HX0.out] at h; cases h; exact h1
              · rw [HX1.out] at h; cases h; exact h2)
          by_cases q0 : c0 = 32
          · have HNO : Hid (¬ okT s) := fun h => (HQ.out.1 h).1 q0
            clear HQ HC0
            subst q0
            go_wp2
            go_ret
            exact ⟨bis_false HNO.out, HW.out⟩
          · have q0b : (c0 != 32) = true := by simpa using q0
            by_cases q1 : c1 = 32
            · have HNO : Hid (¬ okT s) := fun h => (HQ.out.1 h).2 q1
              clear HQ HC1
              subst q1
              go_wp2
              go_ret
              exact ⟨bis_false HNO.out, HW.out⟩
            · have q1b : (c1 != 32) = true := by simpa using q1
              have HY : Hid (okT s) := HQ.out.2 ⟨q0, q1⟩
              clear HQ
              go_wp2
              go_ret
              exact ⟨bis_true HY.out, HW.out⟩
  · have hi : (60 : Int) < (n : Int) := by omega
    have HNO : Hid (¬ okT s) := fun ht => h (by rw [← HN.out]; exact ht.1)
    go_enter Tryz.func103, Tryz.ntmps103
    go_wp2
    go_ret
    exact ⟨bis_false HNO.out, rfl⟩
end Go.Proofs.YtbpdielmdhhdfaaGreatDoor
namespace Go.Proofs.YtbpdielmdhhdfaaGreatDoor
open Go.RowKit
set_option linter.unusedVariables false
set_option linter.unusedSimpArgs false
theorem str_add (x y : List UInt8) : (⟨x.toArray⟩ : ByteArray) ++ ⟨y.toArray⟩ = ⟨(x ++ y).toArray⟩ := by
  rw [ByteArray.mk_append_mk]
def Dl (n m : Nat) (s : List UInt8) : Prop := if m = 0 then s = Lib.decDigits n else Lib.decDigits n = Lib.decDigits m ++ s
theorem Dl.next {n m : Nat} {s : List UInt8} (h : Dl n m s) (hm : 0 < m) : Dl n (m / 10) (UInt8.ofNat (48 + m % 10) :: s) := by
  unfold Dl at h ⊢
  rw [if_neg (by omega)] at h
  by_cases h10 : m < 10
  · rw [if_pos (by omega), h, Lib.decDigits, dif_pos h10, Nat.mod_eq_of_lt h10]
    rfl
  · rw [if_neg (by omega), h]
    conv => lhs; rw [Lib.decDigits, dif_neg h10]
    simp
end Go.Proofs.YtbpdielmdhhdfaaGreatDoor
namespace Go.Proofs.YtbpdielmdhhdfaaGreatDoor
open Go.RowKit
set_option linter.unusedVariables false
set_option linter.unusedSimpArgs false
set_option maxRecDepth 20000 in
theorem decimal_big (n : Nat) (hn : n ≤ 1099511627776) (w : World) : Calls Tryz.prog 38 #[.int .i64 n] w fun e w' => e = .returned (.string ⟨(Lib.decDigits n).toArray⟩) ∧ Below w.heap.size w w' := by
  by_cases h0 : n = 0
  · subst h0
    go_enter Tryz.func38, Tryz.ntmps38
    go_wp2
    go_ret
    exact ⟨by rw [Lib.decDigits]; rfl, Below.refl _ _⟩
  · have h0i : ¬ ((n : Int) == 0) = true := by simp; omega
    go_enter Tryz.func38, Tryz.ntmps38
    go_wp2_with fail
    go_loopg [0, 3] n (fun g v u wr => ∃ (m : Nat) (s : List UInt8) (S : ByteArray), v = .int .i64 m ∧ u = .string S ∧ g = m ∧ m ≤ 1099511627776 ∧ S.size ≤ 13 ∧ Hid (m * 10 ^ S.size ≤ n) ∧ Hid (S = ⟨s.toArray⟩) ∧ Hid (Dl n m s) ∧ Hid (Below w.heap.size w wr))
    case atStart => exact ⟨n, [], ⟨#[]⟩, rfl, rfl, rfl, hn, by decide, hid (by show n * 10 ^ 0 ≤ n; omega), rfl, hid (by unfold Dl; rw [if_neg h0]; simp), hid (Below.refl _ _)⟩
    case round =>
      obtain ⟨m, s, S, rfl, rfl, hk, hm4, hS, HM, HS, HD, HB⟩ := hrel
      by_cases hm : 0 < m
      · have hmi : (0 : Int) < m := by omega
        obtain ⟨x, HX⟩ : ∃ x : UInt8, Hid (x = UInt8.ofNat (48 + m % 10)) := ⟨_, rfl⟩
        have hx : (48 : Int) + (m : Int) % 10 = (x.toNat : Int) := by
          rw [HX.out, UInt8.toNat_ofNat']
          omega
        have hcv : ∀ W : World, W.cell? ⟨wr.heap.size, 0, none⟩ = some (.int .u8 (x.toNat : Int)) → Sem.run Tryz.prog (convert 23 9 (.slice (some ⟨wr.heap.size, 0, none⟩) 1 1)) W = .ok (.string ⟨#[x]⟩) W := fun W hW => by
          refine run_convert_bytes_back W 23 9 5 ⟨wr.heap.size, 0, none⟩ 1 [x] Tryz.underlying23 Tryz.underlying5 Tryz.underlying9 ?_
          intro j hj
          have : j = 0 := by simpa using hj
          subst this
          simpa [Addr.add] using hW
        have hcv1 := hcv (wr.alloc (.cells #[.int .u8 (x.toNat : Int)] 5)) (by simp)
        have hSs : ¬ 9223372036854775807 < 1 + S.size := by omega
        have h1 : (⟨#[x]⟩ : ByteArray).size = 1 := rfl
        go_wp2
        have hS5 : S.size ≤ 12 := by
          rcases Nat.lt_or_ge S.size 13 with h | h
          · omega
          · have e : S.size = 13 := by omega
            have := HM.out
            rw [e] at this
            omega
        have hsz : ((⟨#[x]⟩ : ByteArray) ++ S).size = S.size + 1 := by rw [ByteArray.size_append, h1]; omega
        go_roundg (m / 10)
        case measure => omega
        case rel =>
          refine ⟨m / 10, x :: s, ⟨#[x]⟩ ++ S, by go_num, rfl, rfl, by omega, by omega, hid ?_, hid ?_, hid ?_, hid (HB.out.alloc HB.out.size _)⟩
          · rw [hsz, Nat.pow_succ]
            have := HM.out
            have h2 : m / 10 * (10 ^ S.size * 10) = m / 10 * 10 * 10 ^ S.size := by rw [Nat.mul_assoc (m / 10), Nat.mul_comm 10]
            rw [h2]
            exact Nat.le_trans (Nat.mul_le_mul_right _ (by omega)) this
          · rw [HS.out, show (⟨#[x]⟩ : ByteArray) = ⟨[x].toArray⟩ from rfl]
            exact str_add _ _
          · rw [HX.out]
            exact HD.out.next hm
      · have hmi : ¬ (0 : Int) < m := by omega
        go_wp2
        go_ret
        refine ⟨?_, HB.out⟩
        have := HD.out
        unfold Dl at this
        rw [if_pos (by omega)] at this
        rw [← this, ← HS.out]; rfl
end Go.Proofs.YtbpdielmdhhdfaaGreatDoor
namespace Go.Proofs.YtbpdielmdhhdfaaGreatDoor
open Go.RowKit
set_option linter.unusedVariables false
set_option linter.unusedSimpArgs false
theorem enter38 (v : Value) (w : World) : (callFunc 38 #[v]).run Tryz.prog w = .ok (.enter 38 #[v]) w := by kernel_rfl
def PostX (p : Per) (w : World) (e : Ending) (w' : World) : Prop := Below w.heap.size w w' ∧ ((okP p ∧ e = .returned (.tuple #[.string ⟨(perB p).toArray⟩, .bool true])) ∨ (¬ okP p ∧ e = .returned (.tuple #[.string ⟨#[]⟩, .bool false])))
set_option maxRecDepth 20000 in
set_option maxHeartbeats 2000000 in
theorem text_any (p : Per) (w : World) : Calls Tryz.prog 58 #[.agg (perV p)] w (PostX p w) := by
  obtain ⟨nm, ml, tm, zn⟩ := p
  obtain ⟨N, HNN⟩ : ∃ S : ByteArray, Hid (S = ⟨nm.toArray⟩) := ⟨_, rfl⟩
  obtain ⟨M, HMM⟩ : ∃ S : ByteArray, Hid (S = ⟨ml.toArray⟩) := ⟨_, rfl⟩
  have HN : Hid (∀ w, Calls Tryz.prog 103 #[.string N] w fun e w' => BIs (okT nm) e ∧ w' = w) := fun w => by rw [HNN.out]; exact plain_any nm w
  have HM : Hid (∀ w, Calls Tryz.prog 103 #[.string M] w fun e w' => BIs (okT ml) e ∧ w' = w) := fun w => by rw [HMM.out]; exact plain_any ml w
  obtain ⟨G, HG⟩ : ∃ G, Hid (w.heap.size = G) := ⟨_, rfl⟩
  obtain ⟨w0, HW0⟩ : ∃ w0, Hid (w.alloc (.cells #[.string N, .string M, .int .i64 tm, .int .i64 zn] 64) = w0) := ⟨_, rfl⟩
  have HB0 : Hid (Below G w w0) := hid (by rw [← HW0.out, ← HG.out]; exact (Below.refl _ w).alloc (Nat.le_refl _) _)
  have hs0 : G < w0.heap.size := by rw [← HW0.out, ← HG.out]; simp
  have HX0 : Hid (BoxP G N M tm zn w0) := hid (by rw [← HW0.out, ← HG.out]; exact ⟨by simp, by simp, by simp, by simp⟩)
  have HBE : Hid (Below w.heap.size w w0) := hid (by rw [HG.out]; exact HB0.out)
  obtain ⟨c0, c1, c2, c3⟩ := HX0.out
  unfold perV
  simp only
  rw [← HNN.out, ← HMM.out]
  go_enter Tryz.func58, Tryz.ntmps58
  go_wp2_with fail
  rw [HG.out, HW0.out]
  refine (HN.out w0).mono ?_
  rintro ev w0' ⟨hb, hw0⟩
  have hw0' := hw0.symm
  subst hw0'
  clear hw0
  rcases bis_or hb with ⟨hy1, rfl⟩ | ⟨hn1, rfl⟩
  rotate_left
  · have HOK : Hid (¬ okP ⟨nm, ml, tm, zn⟩) := fun h => hn1 h.1
    clear hn1 hb
    go_wp2_with fail
    refine (HM.out w0).mono ?_
    rintro ev w0' ⟨hb, hw0⟩
    have hw0' := hw0.symm
    subst hw0'
    clear hw0
    rcases bis_or hb with ⟨hy2, rfl⟩ | ⟨hn2, rfl⟩
    all_goals
      clear hb
      go_wp2
      go_ret2
      exact ⟨HBE.out, .inr ⟨HOK.out, rfl⟩⟩
  have HY1 : Hid (okT nm) := hy1
  clear hy1 hb
  go_wp2_with fail
  refine (HM.out w0).mono ?_
  rintro ev w0' ⟨hb, hw0⟩
  have hw0' := hw0.symm
  subst hw0'
  clear hw0
  rcases bis_or hb with ⟨hy2, rfl⟩ | ⟨hn2, rfl⟩
  rotate_left
  · have HOK : Hid (¬ okP ⟨nm, ml, tm, zn⟩) := fun h => hn2 h.2.1
    clear hn2 hb
    go_wp2
    go_ret2
    exact ⟨HBE.out, .inr ⟨HOK.out, rfl⟩⟩
  have HY2 : Hid (okT ml) := hy2
  clear hy2 hb
  by_cases t1 : tm < 0
  · have HOK : Hid (¬ okP ⟨nm, ml, tm, zn⟩) := fun h => by have h2 := h.2.2.1.1; simp only at h2; omega
    go_wp2
    go_ret2
    exact ⟨HBE.out, .inr ⟨HOK.out, rfl⟩⟩
  by_cases t2 : (1099511627776 : Int) < tm
  · have HOK : Hid (¬ okP ⟨nm, ml, tm, zn⟩) := fun h => by have h2 := h.2.2.1.2; simp only at h2; omega
    go_wp2
    go_ret2
    exact ⟨HBE.out, .inr ⟨HOK.out, rfl⟩⟩
  by_cases t3 : zn < -840
  · have HOK : Hid (¬ okP ⟨nm, ml, tm, zn⟩) := fun h => by have h2 := h.2.2.2.1; simp only at h2; omega
    go_wp2
    go_ret2
    exact ⟨HBE.out, .inr ⟨HOK.out, rfl⟩⟩
  by_cases t4 : (840 : Int) < zn
  · have HOK : Hid (¬ okP ⟨nm, ml, tm, zn⟩) := fun h => by have h2 := h.2.2.2.2; simp only at h2; omega
    go_wp2
    go_ret2
    exact ⟨HBE.out, .inr ⟨HOK.out, rfl⟩⟩
  have HOK : Hid (okP ⟨nm, ml, tm, zn⟩) := ⟨HY1.out, HY2.out, ⟨(by simp only; omega), (by simp only; omega)⟩, (by simp only; omega), (by simp only; omega)⟩
  obtain ⟨tn, rfl⟩ : ∃ tn : Nat, tm = (tn : Int) := ⟨tm.toNat, by omega⟩
  have htn : tn ≤ 1099511627776 := by omega
  obtain ⟨zz, HZZ⟩ : ∃ zz : Nat, Hid (zn.natAbs = zz) := ⟨_, rfl⟩
  have hzz : zz ≤ 840 := by have := HZZ.out; omega
  obtain ⟨hh, HHH⟩ : ∃ x : Nat, Hid (zz / 60 = x) := ⟨_, rfl⟩
  obtain ⟨mm, HMI⟩ : ∃ x : Nat, Hid (zz % 60 = x) := ⟨_, rfl⟩
  have hq1 : (zz : Int) / 60 = (hh : Int) := by have := HHH.out; omega
  have hq2 : (zz : Int) % 60 = (mm : Int) := by have := HMI.out; omega
  have hhb : hh ≤ 14 := by have := HHH.out; omega
  have hmb : mm ≤ 59 := by have := HMI.out; omega
  obtain ⟨x1, HX1⟩ : ∃ x : UInt8, Hid (x = UInt8.ofNat (48 + hh / 10)) := ⟨_, rfl⟩
  obtain ⟨x2, HX2⟩ : ∃ x : UInt8, Hid (x = UInt8.ofNat (48 + hh % 10)) := ⟨_, rfl⟩
  obtain ⟨x3, HX3⟩ : ∃ x : UInt8, Hid (x = UInt8.ofNat (48 + mm / 10)) := ⟨_, rfl⟩
  obtain ⟨x4, HX4⟩ : ∃ x : UInt8, Hid (x = UInt8.ofNat (48 + mm % 10)) := ⟨_, rfl⟩
  have hx1 : (48 : Int) + (hh : Int) / 10 = (x1.toNat : Int) := by rw [HX1.out, UInt8.toNat_ofNat']; omega
  have hx2 : (48 : Int) + (hh : Int) % 10 = (x2.toNat : Int) := by rw [HX2.out, UInt8.toNat_ofNat']; omega
  have hx3 : (48 : Int) + (mm : Int) / 10 = (x3.toNat : Int) := by rw [HX3.out, UInt8.toNat_ofNat']; omega
  have hx4 : (48 : Int) + (mm : Int) % 10 = (x4.toNat : Int) := by rw [HX4.out, UInt8.toNat_ofNat']; omega
  obtain ⟨Z, HZD⟩ : ∃ S : ByteArray, Hid (⟨#[x1, x2, x3, x4]⟩ = S) := ⟨_, rfl⟩
  have hcv : Sem.run Tryz.prog (convert 23 9 (.slice (some ⟨w0.heap.size, 0, none⟩) 4 4)) (w0.alloc (.cells #[.int .u8 (x1.toNat : Int), .int .u8 (x2.toNat : Int), .int .u8 (x3.toNat : Int), .int .u8 (x4.toNat : Int)] 5)) = .ok (.string Z) (w0.alloc (.cells #[.int .u8 (x1.toNat : Int), .int .u8 (x2.toNat : Int), .int .u8 (x3.toNat : Int), .int .u8 (x4.toNat : Int)] 5)) := by
    rw [← HZD.out]
    refine run_convert_bytes_back _ 23 9 5 ⟨w0.heap.size, 0, none⟩ 4 [x1, x2, x3, x4] Tryz.underlying23 Tryz.underlying5 Tryz.underlying9 ?_
    intro j hj
    have hj4 : j < 4 := by simpa using hj
    match j, hj4 with
    | 0, _ => simp [Addr.add]
    | 1, _ => simp [Addr.add]
    | 2, _ => simp [Addr.add]
    | 3, _ => simp [Addr.add]
  have hN60 : N.size ≤ 60 := by have := HY1.out.1; rw [HNN.out]; simpa [ByteArray.size] using this
  have hM60 : M.size ≤ 60 := by have := HY2.out.1; rw [HMM.out]; simpa [ByteArray.size] using this
  obtain ⟨D, HDD⟩ : ∃ S : ByteArray, Hid (S = ⟨(Lib.decDigits tn).toArray⟩) := ⟨_, rfl⟩
  have hD : D.size ≤ 13 := by rw [HDD.out]; have := dig_len40 tn htn; simpa [ByteArray.size] using this
  have HF : Hid (∀ W, Calls Tryz.prog 38 #[.int .i64 tn] W fun e w' => e = .returned (.string D) ∧ Below W.heap.size W w') := fun W => by rw [HDD.out]; exact decimal_big tn htn W
  obtain ⟨sg, HSG⟩ : ∃ S : ByteArray, Hid (S = if zn < 0 then ⟨#[45]⟩ else ⟨#[43]⟩) := ⟨_, rfl⟩
  have hsg1 : sg.size = 1 := by rw [HSG.out]; split <;> rfl
  have hZ4 : Z.size = 4 := by rw [← HZD.out]; rfl
  have l1 : (⟨#[32, 60]⟩ : ByteArray).size = 2 := rfl
  have l2 : (⟨#[62, 32]⟩ : ByteArray).size = 2 := rfl
  have l3 : (⟨#[32]⟩ : ByteArray).size = 1 := rfl
  obtain ⟨A1, HA1⟩ : ∃ A, N ++ ⟨#[32, 60]⟩ = A := ⟨_, rfl⟩
  have s1 : A1.size = N.size + 2 := by rw [← HA1, ByteArray.size_append, l1]
  obtain ⟨A2, HA2⟩ : ∃ A, A1 ++ M = A := ⟨_, rfl⟩
  have s2 : A2.size = A1.size + M.size := by rw [← HA2, ByteArray.size_append]
  obtain ⟨A3, HA3⟩ : ∃ A, A2 ++ ⟨#[62, 32]⟩ = A := ⟨_, rfl⟩
  have s3 : A3.size = A2.size + 2 := by rw [← HA3, ByteArray.size_append, l2]
  obtain ⟨A4, HA4⟩ : ∃ A, A3 ++ D = A := ⟨_, rfl⟩
  have s4 : A4.size = A3.size + D.size := by rw [← HA4, ByteArray.size_append]
  obtain ⟨A5, HA5⟩ : ∃ A, A4 ++ ⟨#[32]⟩ = A := ⟨_, rfl⟩
  have s5 : A5.size = A4.size + 1 := by rw [← HA5, ByteArray.size_append, l3]
  obtain ⟨A6, HA6⟩ : ∃ A, A5 ++ sg = A := ⟨_, rfl⟩
  have s6 : A6.size = A5.size + sg.size := by rw [← HA6, ByteArray.size_append]
  obtain ⟨A7, HA7⟩ : ∃ A, A6 ++ Z = A := ⟨_, rfl⟩
  have g1 : ¬ 9223372036854775807 < N.size + 2 := by omega
  have g2 : ¬ 9223372036854775807 < A1.size + M.size := by omega
  have g3 : ¬ 9223372036854775807 < A2.size + 2 := by omega
  have g4 : ¬ 9223372036854775807 < A3.size + D.size := by omega
  have g5 : ¬ 9223372036854775807 < A4.size + 1 := by omega
  have g5' : ¬ 9223372036854775807 ≤ A4.size := by omega
  have g6 : ¬ 9223372036854775807 < A5.size + 1 := by omega
  have g6' : ¬ 9223372036854775807 ≤ A5.size := by omega
  have g7 : ¬ 9223372036854775807 < A6.size + 4 := by omega
  have HE : Hid (A7 = ⟨(perB ⟨nm, ml, tn, zn⟩).toArray⟩) := hid (by
    have hz : Z = ⟨(two (zn.natAbs / 60) ++ two (zn.natAbs % 60)).toArray⟩ := by
      rw [← HZD.out, HZZ.out, HHH.out, HMI.out, HX1.out, HX2.out, HX3.out, HX4.out]
      rfl
    have hsg : sg = ⟨[if zn < 0 then 45 else 43].toArray⟩ := by rw [HSG.out]; split <;> rfl
    rw [← HA7, ← HA6, ← HA5, ← HA4, ← HA3, ← HA2, ← HA1, hz, hsg, HDD.out, HNN.out, HMM.out, show (⟨#[32, 60]⟩ : ByteArray) = ⟨[32, 60].toArray⟩ from rfl, show (⟨#[62, 32]⟩ : ByteArray) = ⟨[62, 32].toArray⟩ from rfl, show (⟨#[32]⟩ : ByteArray) = ⟨[32].toArray⟩ from rfl]
    simp only [str_add]
    simp [perB, zoneB])
  clear s1 s2 s3 s4 s5 s6
  obtain ⟨wz, HWZ⟩ : ∃ W, Hid (w0.alloc (.cells #[.int .u8 (x1.toNat : Int), .int .u8 (x2.toNat : Int), .int .u8 (x3.toNat : Int), .int .u8 (x4.toNat : Int)] 5) = W) := ⟨_, rfl⟩
  have hbz : Below w0.heap.size w0 wz := by rw [← HWZ.out]; exact (Below.refl _ _).alloc (Nat.le_refl _) _
  have hsz : G < wz.heap.size := Nat.lt_of_lt_of_le hs0 hbz.size
  have HBz : Hid (Below G w wz) := HB0.out.trans (hbz.mono (Nat.le_of_lt hs0))
  have HXz : Hid (BoxP G N M tn zn wz) := HX0.out.below hs0 hbz
  clear hbz
  have PE : Hid (∀ W, Below G w W → PostX ⟨nm, ml, tn, zn⟩ w (.returned (.tuple #[.string A7, .bool true])) W) := fun W hW => ⟨by rw [HG.out]; exact hW, .inl ⟨HOK.out, by rw [HE.out]⟩⟩
  by_cases hz : zn < 0
  · have hng : -zn = (zz : Int) := by have := HZZ.out; omega
    have hsg : sg = ⟨#[45]⟩ := by rw [HSG.out, if_pos hz]
    clear HSG HE
    subst hsg
    go_wp2_with fail
    rw [HWZ.out]
    clear hcv c0 c1 c2 c3
    refine wp_region_held_drew (S := BoxP G N M tn zn) (by kernel_rfl) (by exact HXz.out) (fun hHeld => ?_)
    have hsd : G < wz.drew.heap.size := hsz
    have HBd : Hid (Below G w wz.drew) := hid ⟨HBz.out.os, HBz.out.tape, HBz.out.output, HBz.out.size, HBz.out.block⟩
    generalize wz.drew = wd at hHeld hsd HBd ⊢
    refine takeL (i := 0) (v := ?_) rfl (by kernel_rfl) (by kernel_rfl) (by kernel_rfl) (fun _ _ _ h => h) (Or.inl ⟨by rfl, ?_⟩) hHeld ?_
    rotate_left
    · rintro w' ⟨c0, c1, c2, c3⟩; go_simp; rfl
    try simp only [Act.put, List.setIfInBounds_toArray, List.set_cons_zero, List.set_cons_succ]
    refine takeL (i := 1) (v := ?_) rfl (by kernel_rfl) (by kernel_rfl) (by kernel_rfl) (fun _ _ _ h => h) (Or.inl ⟨by rfl, ?_⟩) hHeld ?_
    rotate_left
    · rintro w' ⟨c0, c1, c2, c3⟩; go_simp; rfl
    try simp only [Act.put, List.setIfInBounds_toArray, List.set_cons_zero, List.set_cons_succ]
    refine takeL (i := 2) (v := ?_) rfl (by kernel_rfl) (by kernel_rfl) (by kernel_rfl) (fun _ _ _ h => h) (Or.inl ⟨by rfl, ?_⟩) hHeld ?_
    rotate_left
    · rintro w' ⟨c0, c1, c2, c3⟩; go_simp; rfl
    try simp only [Act.put, List.setIfInBounds_toArray, List.set_cons_zero, List.set_cons_succ]
    refine takeL (i := 3) (v := ?_) rfl (by kernel_rfl) (by kernel_rfl) (by kernel_rfl) (fun _ _ _ h => h) (Or.inl ⟨by rfl, ?_⟩) hHeld ?_
    rotate_left
    · rintro w' ⟨c0, c1, c2, c3⟩; go_simp; rfl
    try simp only [Act.put, List.setIfInBounds_toArray, List.set_cons_zero, List.set_cons_succ]
    refine takeL (i := 4) (v := ?_) rfl (by kernel_rfl) (by kernel_rfl) (by kernel_rfl) (fun _ _ _ h => h) (Or.inl ⟨by rfl, ?_⟩) hHeld ?_
    rotate_left
    · rintro w' ⟨c0, c1, c2, c3⟩; go_simp; rfl
    try simp only [Act.put, List.setIfInBounds_toArray, List.set_cons_zero, List.set_cons_succ]
    refine takeL (i := 5) (v := ?_) rfl (by kernel_rfl) (by kernel_rfl) (by kernel_rfl) (fun _ _ _ h => h) (Or.inl ⟨by rfl, ?_⟩) hHeld ?_
    rotate_left
    · rintro w' ⟨c0, c1, c2, c3⟩; go_simp; rfl
    try simp only [Act.put, List.setIfInBounds_toArray, List.set_cons_zero, List.set_cons_succ]
    refine takeL (i := 6) (v := ?_) rfl (by kernel_rfl) (by kernel_rfl) (by kernel_rfl) (fun _ _ _ h => h) (Or.inl ⟨by rfl, ?_⟩) hHeld ?_
    rotate_left
    · rintro w' ⟨c0, c1, c2, c3⟩; go_simp; rfl
    try simp only [Act.put, List.setIfInBounds_toArray, List.set_cons_zero, List.set_cons_succ]
    refine takeL (i := 7) (v := ?_) rfl (by kernel_rfl) (by kernel_rfl) (by kernel_rfl) (fun _ _ _ h => h) (Or.inl ⟨by rfl, ?_⟩) hHeld ?_
    rotate_left
    · rintro w' ⟨c0, c1, c2, c3⟩; go_simp; rfl
    try simp only [Act.put, List.setIfInBounds_toArray, List.set_cons_zero, List.set_cons_succ]
    refine takeL (i := 8) (v := ?_) rfl (by kernel_rfl) (by kernel_rfl) (by kernel_rfl) (fun _ _ _ h => h) (Or.inl ⟨by rfl, ?_⟩) hHeld ?_
    rotate_left
    · rintro w' ⟨c0, c1, c2, c3⟩; go_simp; rfl
    try simp only [Act.put, List.setIfInBounds_toArray, List.set_cons_zero, List.set_cons_succ]
    refine takeL (i := 12) (v := ?_) rfl (by kernel_rfl) (by kernel_rfl) (by kernel_rfl) (fun _ _ _ h => h) (Or.inl ⟨by rfl, ?_⟩) hHeld ?_
    rotate_left
    · rintro w' ⟨c0, c1, c2, c3⟩; go_simp; rfl
    try simp only [Act.put, List.setIfInBounds_toArray, List.set_cons_zero, List.set_cons_succ]
    refine takeL (i := 14) (v := ?_) rfl (by kernel_rfl) (by kernel_rfl) (by kernel_rfl) (fun _ _ _ h => h) (Or.inl ⟨by rfl, ?_⟩) hHeld ?_
    rotate_left
    · rintro w' ⟨c0, c1, c2, c3⟩; go_simp; rfl
    try simp only [Act.put, List.setIfInBounds_toArray, List.set_cons_zero, List.set_cons_succ]
    refine wpAnyH_ready (rs := [9]) (by kernel_rfl) (by simp) ?_
    refine consL rfl (fun KK hKK => ?_) AllReadyH.nil
    refine step_callv (by rfl) 38 [.tmp 79] _ [.int .i64 tn] _ (by rfl) (by rfl) (enter38 _) (HF.out _) ?_
    rintro e w1 ⟨rfl, hb1⟩
    refine ⟨_, rfl, ?_⟩
    have HB1 : Hid (Below G w w1) := HBd.out.trans (hb1.mono (Nat.le_of_lt hsd))
    refine hKK.out _ _ (hHeld.below hsd hb1) (fun hHeld => ?_)
    clear hKK KK hb1
    try simp only [Act.put, List.setIfInBounds_toArray, List.set_cons_zero, List.set_cons_succ]
    refine takeL (i := 10) (v := ?_) rfl (by kernel_rfl) (by kernel_rfl) (by kernel_rfl) (fun _ _ _ h => h) (Or.inl ⟨by rfl, ?_⟩) hHeld ?_
    rotate_left
    · rintro w' ⟨c0, c1, c2, c3⟩; go_simp; rfl
    try simp only [Act.put, List.setIfInBounds_toArray, List.set_cons_zero, List.set_cons_succ]
    refine takeL (i := 11) (v := ?_) rfl (by kernel_rfl) (by kernel_rfl) (by kernel_rfl) (fun _ _ _ h => h) (Or.inl ⟨by rfl, ?_⟩) hHeld ?_
    rotate_left
    · rintro w' ⟨c0, c1, c2, c3⟩; go_simp; rfl
    try simp only [Act.put, List.setIfInBounds_toArray, List.set_cons_zero, List.set_cons_succ]
    refine takeL (i := 13) (v := ?_) rfl (by kernel_rfl) (by kernel_rfl) (by kernel_rfl) (fun _ _ _ h => h) (Or.inl ⟨by rfl, ?_⟩) hHeld ?_
    rotate_left
    · rintro w' ⟨c0, c1, c2, c3⟩; go_simp; rfl
    try simp only [Act.put, List.setIfInBounds_toArray, List.set_cons_zero, List.set_cons_succ]
    refine takeL (i := 15) (v := ?_) rfl (by kernel_rfl) (by kernel_rfl) (by kernel_rfl) (fun _ _ _ h => h) (Or.inl ⟨by rfl, ?_⟩) hHeld ?_
    rotate_left
    · rintro w' ⟨c0, c1, c2, c3⟩; go_simp; rfl
    try simp only [Act.put, List.setIfInBounds_toArray, List.set_cons_zero, List.set_cons_succ]
    refine takeL (i := 16) (v := ?_) rfl (by kernel_rfl) (by kernel_rfl) (by kernel_rfl) (fun _ _ _ h => h) (Or.inl ⟨by rfl, ?_⟩) hHeld ?_
    rotate_left
    · rintro w' ⟨c0, c1, c2, c3⟩; go_simp; rfl
    try simp only [Act.put, List.setIfInBounds_toArray, List.set_cons_zero, List.set_cons_succ]
    refine takeL (i := 17) (v := ?_) rfl (by kernel_rfl) (by kernel_rfl) (by kernel_rfl) (fun _ _ _ h => h) (Or.inl ⟨by rfl, ?_⟩) hHeld ?_
    rotate_left
    · rintro w' ⟨c0, c1, c2, c3⟩; go_simp; rfl
    try simp only [Act.put, List.setIfInBounds_toArray, List.set_cons_zero, List.set_cons_succ]
    refine wpAnyH_done (by kernel_rfl) ?_ _
    go_wp2
    go_ret2
    exact PE.out _ HB1.out
  · have hzn : zn = (zz : Int) := by have := HZZ.out; omega
    have hsg : sg = ⟨#[43]⟩ := by rw [HSG.out, if_neg hz]
    clear HSG HE HZZ
    subst hsg
    subst hzn
    have hz0 : ¬ (zz : Int) < 0 := hz
    go_wp2_with fail
    rw [HWZ.out]
    clear hcv c0 c1 c2 c3
    refine wp_region_held_drew (S := BoxP G N M tn (zz : Int)) (by kernel_rfl) (by exact HXz.out) (fun hHeld => ?_)
    have hsd : G < wz.drew.heap.size := hsz
    have HBd : Hid (Below G w wz.drew) := hid ⟨HBz.out.os, HBz.out.tape, HBz.out.output, HBz.out.size, HBz.out.block⟩
    generalize wz.drew = wd at hHeld hsd HBd ⊢
    refine takeL (i := 0) (v := ?_) rfl (by kernel_rfl) (by kernel_rfl) (by kernel_rfl) (fun _ _ _ h => h) (Or.inl ⟨by rfl, ?_⟩) hHeld ?_
    rotate_left
    · rintro w' ⟨c0, c1, c2, c3⟩; go_simp; rfl
    try simp only [Act.put, List.setIfInBounds_toArray, List.set_cons_zero, List.set_cons_succ]
    refine takeL (i := 1) (v := ?_) rfl (by kernel_rfl) (by kernel_rfl) (by kernel_rfl) (fun _ _ _ h => h) (Or.inl ⟨by rfl, ?_⟩) hHeld ?_
    rotate_left
    · rintro w' ⟨c0, c1, c2, c3⟩; go_simp; rfl
    try simp only [Act.put, List.setIfInBounds_toArray, List.set_cons_zero, List.set_cons_succ]
    refine takeL (i := 2) (v := ?_) rfl (by kernel_rfl) (by kernel_rfl) (by kernel_rfl) (fun _ _ _ h => h) (Or.inl ⟨by rfl, ?_⟩) hHeld ?_
    rotate_left
    · rintro w' ⟨c0, c1, c2, c3⟩; go_simp; rfl
    try simp only [Act.put, List.setIfInBounds_toArray, List.set_cons_zero, List.set_cons_succ]
    refine takeL (i := 3) (v := ?_) rfl (by kernel_rfl) (by kernel_rfl) (by kernel_rfl) (fun _ _ _ h => h) (Or.inl ⟨by rfl, ?_⟩) hHeld ?_
    rotate_left
    · rintro w' ⟨c0, c1, c2, c3⟩; go_simp; rfl
    try simp only [Act.put, List.setIfInBounds_toArray, List.set_cons_zero, List.set_cons_succ]
    refine takeL (i := 4) (v := ?_) rfl (by kernel_rfl) (by kernel_rfl) (by kernel_rfl) (fun _ _ _ h => h) (Or.inl ⟨by rfl, ?_⟩) hHeld ?_
    rotate_left
    · rintro w' ⟨c0, c1, c2, c3⟩; go_simp; rfl
    try simp only [Act.put, List.setIfInBounds_toArray, List.set_cons_zero, List.set_cons_succ]
    refine takeL (i := 5) (v := ?_) rfl (by kernel_rfl) (by kernel_rfl) (by kernel_rfl) (fun _ _ _ h => h) (Or.inl ⟨by rfl, ?_⟩) hHeld ?_
    rotate_left
    · rintro w' ⟨c0, c1, c2, c3⟩; go_simp; rfl
    try simp only [Act.put, List.setIfInBounds_toArray, List.set_cons_zero, List.set_cons_succ]
    refine takeL (i := 6) (v := ?_) rfl (by kernel_rfl) (by kernel_rfl) (by kernel_rfl) (fun _ _ _ h => h) (Or.inl ⟨by rfl, ?_⟩) hHeld ?_
    rotate_left
    · rintro w' ⟨c0, c1, c2, c3⟩; go_simp; rfl
    try simp only [Act.put, List.setIfInBounds_toArray, List.set_cons_zero, List.set_cons_succ]
    refine takeL (i := 7) (v := ?_) rfl (by kernel_rfl) (by kernel_rfl) (by kernel_rfl) (fun _ _ _ h => h) (Or.inl ⟨by rfl, ?_⟩) hHeld ?_
    rotate_left
    · rintro w' ⟨c0, c1, c2, c3⟩; go_simp; rfl
    try simp only [Act.put, List.setIfInBounds_toArray, List.set_cons_zero, List.set_cons_succ]
    refine takeL (i := 8) (v := ?_) rfl (by kernel_rfl) (by kernel_rfl) (by kernel_rfl) (fun _ _ _ h => h) (Or.inl ⟨by rfl, ?_⟩) hHeld ?_
    rotate_left
    · rintro w' ⟨c0, c1, c2, c3⟩; go_simp; rfl
    try simp only [Act.put, List.setIfInBounds_toArray, List.set_cons_zero, List.set_cons_succ]
    refine takeL (i := 12) (v := ?_) rfl (by kernel_rfl) (by kernel_rfl) (by kernel_rfl) (fun _ _ _ h => h) (Or.inl ⟨by rfl, ?_⟩) hHeld ?_
    rotate_left
    · rintro w' ⟨c0, c1, c2, c3⟩; go_simp; rfl
    try simp only [Act.put, List.setIfInBounds_toArray, List.set_cons_zero, List.set_cons_succ]
    refine takeL (i := 14) (v := ?_) rfl (by kernel_rfl) (by kernel_rfl) (by kernel_rfl) (fun _ _ _ h => h) (Or.inl ⟨by rfl, ?_⟩) hHeld ?_
    rotate_left
    · rintro w' ⟨c0, c1, c2, c3⟩; go_simp; rfl
    try simp only [Act.put, List.setIfInBounds_toArray, List.set_cons_zero, List.set_cons_succ]
    refine wpAnyH_ready (rs := [9]) (by kernel_rfl) (by simp) ?_
    refine consL rfl (fun KK hKK => ?_) AllReadyH.nil
    refine step_callv (by rfl) 38 [.tmp 79] _ [.int .i64 tn] _ (by rfl) (by rfl) (enter38 _) (HF.out _) ?_
    rintro e w1 ⟨rfl, hb1⟩
    refine ⟨_, rfl, ?_⟩
    have HB1 : Hid (Below G w w1) := HBd.out.trans (hb1.mono (Nat.le_of_lt hsd))
    refine hKK.out _ _ (hHeld.below hsd hb1) (fun hHeld => ?_)
    clear hKK KK hb1
    try simp only [Act.put, List.setIfInBounds_toArray, List.set_cons_zero, List.set_cons_succ]
    refine takeL (i := 10) (v := ?_) rfl (by kernel_rfl) (by kernel_rfl) (by kernel_rfl) (fun _ _ _ h => h) (Or.inl ⟨by rfl, ?_⟩) hHeld ?_
    rotate_left
    · rintro w' ⟨c0, c1, c2, c3⟩; go_simp; rfl
    try simp only [Act.put, List.setIfInBounds_toArray, List.set_cons_zero, List.set_cons_succ]
    refine takeL (i := 11) (v := ?_) rfl (by kernel_rfl) (by kernel_rfl) (by kernel_rfl) (fun _ _ _ h => h) (Or.inl ⟨by rfl, ?_⟩) hHeld ?_
    rotate_left
    · rintro w' ⟨c0, c1, c2, c3⟩; go_simp; rfl
    try simp only [Act.put, List.setIfInBounds_toArray, List.set_cons_zero, List.set_cons_succ]
    refine takeL (i := 13) (v := ?_) rfl (by kernel_rfl) (by kernel_rfl) (by kernel_rfl) (fun _ _ _ h => h) (Or.inl ⟨by rfl, ?_⟩) hHeld ?_
    rotate_left
    · rintro w' ⟨c0, c1, c2, c3⟩; go_simp; rfl
    try simp only [Act.put, List.setIfInBounds_toArray, List.set_cons_zero, List.set_cons_succ]
    refine takeL (i := 15) (v := ?_) rfl (by kernel_rfl) (by kernel_rfl) (by kernel_rfl) (fun _ _ _ h => h) (Or.inl ⟨by rfl, ?_⟩) hHeld ?_
    rotate_left
    · rintro w' ⟨c0, c1, c2, c3⟩; go_simp; rfl
    try simp only [Act.put, List.setIfInBounds_toArray, List.set_cons_zero, List.set_cons_succ]
    refine takeL (i := 16) (v := ?_) rfl (by kernel_rfl) (by kernel_rfl) (by kernel_rfl) (fun _ _ _ h => h) (Or.inl ⟨by rfl, ?_⟩) hHeld ?_
    rotate_left
    · rintro w' ⟨c0, c1, c2, c3⟩; go_simp; rfl
    try simp only [Act.put, List.setIfInBounds_toArray, List.set_cons_zero, List.set_cons_succ]
    refine takeL (i := 17) (v := ?_) rfl (by kernel_rfl) (by kernel_rfl) (by kernel_rfl) (fun _ _ _ h => h) (Or.inl ⟨by rfl, ?_⟩) hHeld ?_
    rotate_left
    · rintro w' ⟨c0, c1, c2, c3⟩; go_simp; rfl
    try simp only [Act.put, List.setIfInBounds_toArray, List.set_cons_zero, List.set_cons_succ]
    refine wpAnyH_done (by kernel_rfl) ?_ _
    go_wp2
    go_ret2
    exact PE.out _ HB1.out
end Go.Proofs.YtbpdielmdhhdfaaGreatDoor
namespace Go.Proofs.YtbpdielmdhhdfaaGreatDoor
open Go.RowKit
set_option linter.unusedVariables false
set_option linter.unusedSimpArgs false
theorem txt_size (l : List UInt8) : (⟨l.toArray⟩ : ByteArray).size = l.length := by simp [ByteArray.size]
end Go.Proofs.YtbpdielmdhhdfaaGreatDoor
namespace Go.Proofs.YtbpdielmdhhdfaaGreatDoor
open Go.RowKit
set_option linter.unusedVariables false
theorem eqItems_same {P : Program} (d : Nat) (e : TypeId) (he : P.plainKey e = true) (hu : P.underlying e = some (.int .u8)) (xs : List Int) : ∀ (is : List Nat) (w : World), (∀ j ∈ is, j < xs.length) → (Op.eqItems (d + 1) e 1 (row .u8 xs).toArray (row .u8 xs).toArray is).run P w = .ok true w
  | [], w, _ => by simp [Op.eqItems]
  | j :: is, w, h => by
    have hj := h j (by simp)
    have hp : (part e (row .u8 xs).toArray j).run P w = .ok (.int .u8 (xs.getD j 0)) w := run_part_plain w he (by simpa using row_at .u8 xs j hj)
    simp only [Op.eqItems, Sem.run_bind, Nat.mul_one, hp, Result.andThen_ok]
    simp [go_sem, hu, eqItems_same d e he hu xs is w (fun k hk => h k (by simp [hk]))]
theorem cells5 : Tryz.prog.cellsOf 5 = 1 := by kernel_rfl
theorem plain5 : Tryz.prog.plainKey 5 = true := by kernel_rfl
theorem same25 (xs : List Int) (h : xs.length = 20) (w : World) : (Op.equalIn 10000 32 (.agg (row .u8 xs).toArray) (.agg (row .u8 xs).toArray)).run Tryz.prog w = .ok true w := by
  obtain ⟨i5, hi, -⟩ := info_parts Tryz.info5
  rw [show (10000 : Nat) = 9999 + 1 from rfl, run_equalIn_array w 9999 _ _ Tryz.underlying32 hi, cells5]
  exact eqItems_same 9998 5 plain5 Tryz.underlying5 xs _ w (fun j hj => by rw [h]; simpa using hj)
theorem grown_drewN (w : World) (n : Nat) (r : Option Nat) : w.grownBy (w.drewN n) r := ⟨rfl, rfl, rfl, Nat.le_refl _, fun _ _ _ => rfl⟩
set_option maxHeartbeats 400000 in
theorem still_keep (a : Option Addr) (cap g : Nat) (zs : List Int) (w : World) (hl : zs.length ≤ 300000) (hz : IsB zs) (hr : Room w g zs) (hc : 0 < zs.length → ∃ b off, a = some ⟨b, off, none⟩ ∧ b < g ∧ At w b off zs) :
    Calls Tryz.prog 12 #[.slice (some ⟨g, 0, none⟩) zs.length (zs.length + 2), .slice a zs.length cap] w fun e w' => e = .returned (.bool true) ∧ w.grownBy w' (some g) := by
  have c71 := hr.c71
  have c72 := hr.c72
  go_enter Tryz.func12, Tryz.ntmps12
  go_wp2_with (go_at_call 16; refine (same_any _ _ _ _ zs _ (by omega) (fun _ => ⟨g, 0, rfl, fun i hi => by rw [Nat.zero_add]; exact hr.cell i hi⟩) (fun h => by obtain ⟨b, off, h1, h2, h3⟩ := hc h; exact ⟨b, off, h1, h3⟩)).mono ?_; rintro e w1 ⟨rfl, nq, rfl⟩)
  go_loopw [8] (fun i wr => ∃ k : Nat, k ≤ zs.length + 2 ∧ i = .int .i64 k ∧ Own wr g (zs.length + 2) ∧ (∀ i, wr.frozen? ⟨g, i, none⟩ = false) ∧ w.grownBy wr (some g)) (fun i _ => zs.length + 2 - (intOf i).toNat)
  case atStart => exact ⟨0, Nat.zero_le _, rfl, hr.own hz, hr.fz, grown_drewN _ _ _⟩
  case round =>
    obtain ⟨k, hk, rfl, hown, hfz, hbel⟩ := hrel
    clear c71 c72
    by_cases hlt : k < zs.length + 2
    · obtain ⟨v, hv1, hv2, hcell⟩ := hown k hlt
      obtain ⟨v', hx, hv3, hv4⟩ := xor85 v hv1 hv2
      have hf := hfz k
      go_wp2
      go_roundw
      case rel => exact ⟨k + 1, by omega, by go_num, hown.set k v' hv3 hv4, fun i => by rw [World.frozen?_setCell]; exact hfz i, grown_setCell _ hbel⟩
      case measure => simp [intOf]; omega
    · go_wp2
      go_ret
      exact ⟨rfl, hbel⟩
end Go.Proofs.YtbpdielmdhhdfaaGreatDoor
