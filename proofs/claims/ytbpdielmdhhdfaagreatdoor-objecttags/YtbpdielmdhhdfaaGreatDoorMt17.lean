import Derived.Test.YtbpdielmdhhdfaaGreatDoorMt16
import Derived.Test.YtbpdielmdhhdfaaGreatDoorMt14
/- 'Parse'. -/
namespace Go.Proofs.YtbpdielmdhhdfaaGreatDoor.Hx
open Go.RowKit
set_option linter.unusedVariables false

/-- What a sign tells; -1: it is none. -/
def hv (c : Int) : Int := if 48 ≤ c ∧ c ≤ 57 then c - 48 else if 97 ≤ c ∧ c ≤ 102 then c - 87 else -1
def sgn (s : ByteArray) (k : Nat) : Int := (s.data.toList.getD k 0).toNat
def zeros : List Int := List.replicate 20 0
/-- The id behind k signs. -/
def idAt (s : ByteArray) : Nat → List Int
  | 0 => zeros
  | k + 1 => (idAt s k).set (k / 2) (((idAt s k).getD (k / 2) 0 * 16 + hv (sgn s k)) % 256)
theorem idAt_len (s : ByteArray) : ∀ k, (idAt s k).length = 20
  | 0 => rfl
  | k + 1 => by rw [idAt, List.length_set, idAt_len s k]
theorem sgn_bd (s : ByteArray) (k : Nat) : 0 ≤ sgn s k ∧ sgn s k < 256 := by
  unfold sgn
  have := (s.data.toList.getD k 0).toNat_lt
  omega
theorem idAt_bd (s : ByteArray) : ∀ k, ∀ n ∈ idAt s k, 0 ≤ n ∧ n < 256
  | 0 => by intro n hn; simp [idAt, zeros] at hn; omega
  | k + 1 => by
    intro n hn
    rcases List.mem_or_eq_of_mem_set hn with h | h
    · exact idAt_bd s k n h
    · omega
def good (s : ByteArray) : Prop := ∀ k, k < 40 → 0 ≤ hv (sgn s k)

theorem firstIdx_digs (c : Int) (h0 : 0 ≤ c) (h1 : c < 256) : firstIdx { data := #[48, 49, 50, 51, 52, 53, 54, 55, 56, 57, 97, 98, 99, 100, 101, 102] } c.toNat.toUInt8 = hv c := by
  obtain ⟨n, rfl⟩ := Int.eq_ofNat_of_zero_le h0
  have : ∀ n : Nat, n < 256 → firstIdx { data := #[48, 49, 50, 51, 52, 53, 54, 55, 56, 57, 97, 98, 99, 100, 101, 102] } ((n : Int).toNat.toUInt8) = hv n := by decide +kernel
  exact this n (by omega)

set_option maxHeartbeats 1000000 in
theorem indexByte_any (c : Int) (w : World) (h0 : 0 ≤ c) (h1 : c < 256) :
    Calls Tryz.prog 209 #[.string { data := #[48, 49, 50, 51, 52, 53, 54, 55, 56, 57, 97, 98, 99, 100, 101, 102] }, .int .u8 c] w fun e w' => e = .returned (.int .i64 (hv c)) ∧ w' = w := by
  have h17 := @run_callFunc_extern Tryz.prog 216 _ Extern.BytealgIndexByte.indexByte Tryz.func216 (by kernel_rfl) (by kernel_rfl) (by kernel_rfl) (by kernel_rfl)
  have hr := run_indexByte_string (P := Tryz.prog) { data := #[48, 49, 50, 51, 52, 53, 54, 55, 56, 57, 97, 98, 99, 100, 101, 102] } c
  rw [firstIdx_digs c h0 h1] at hr
  go_enter Tryz.func209, Tryz.ntmps209
  go_wp2
  go_ret
  exact ⟨rfl, rfl⟩

theorem results_mid2 {P : Program} {fn : Func} {p q : Tmp} {ty : TypeId} {t2 : TypeId} (h : fn.results = #[.cell p ty, .tmp q]) (tmps : Array Value) (w : World) (g : Nat) (cs : List Value) (d : TypeDesc) (v : Value)
    (hp : tmps.getD p undef = .pointer (some ⟨g, 0, none⟩)) (hq : tmps.getD q undef = v) (hc : w.rangeAt g 0 cs) (hu : P.underlying ty = some d) (hd : d.isRow = true) (hi : (P.info? ty).map (·.size) = some cs.length) :
    (results fn tmps).run P w = .ok (.tuple #[.agg cs.toArray, v]) w := by
  have hp' : tmps[p]?.getD undef = .pointer (some ⟨g, 0, none⟩) := by simpa using hp
  have hq' : tmps[q]?.getD undef = v := by simpa using hq
  simp [results, h, hp', hq', asAddr, run_loadVar_mid w g 0 ty cs d hc hu hd hi]
end Go.Proofs.YtbpdielmdhhdfaaGreatDoor.Hx
/- The document's side of chapter 3: which texts may be written. -/
namespace Go.Proofs.YtbpdielmdhhdfaaGreatDoor
open Go.RowKit
set_option linter.unusedVariables false
set_option linter.unusedSimpArgs false
theorem index_txt (s : List UInt8) (j : Nat) (w : World) (x : UInt8) (h : s[j]? = some x) : (Instr.index 9 (.string ⟨s.toArray⟩) (.int .i64 j)).run Tryz.prog w = .ok (.int .u8 (x.toNat : Int)) w := by
  obtain ⟨hj, hx⟩ := List.getElem?_eq_some_iff.1 h
  have hsz : (⟨s.toArray⟩ : ByteArray).size = s.length := by simp [ByteArray.size]
  rw [run_index_string (P := Tryz.prog) w 9 ⟨s.toArray⟩ .i64 j Tryz.underlying9, dif_pos ⟨by omega, by rw [hsz]; omega⟩]
  simp only [Int.toNat_natCast]
  rw [← hx]
  rfl
theorem take_snoc8 (s : List UInt8) (j : Nat) (x : UInt8) (h : s[j]? = some x) : s.take (j + 1) = s.take j ++ [x] := by
  rw [List.take_add_one, h]
  rfl
theorem u8_ne {x : UInt8} {n : Nat} (hn : n < 256) : (x.toNat : Int) = (n : Int) ↔ x = UInt8.ofNat n := by
  constructor
  · intro h
    apply UInt8.toNat_inj.1
    rw [UInt8.toNat_ofNat']
    omega
  · rintro rfl
    rw [UInt8.toNat_ofNat']
    omega
theorem dropWhile_self {p : UInt8 → Bool} : ∀ {l : List UInt8}, l.dropWhile p = l ↔ ∀ b, l[0]? = some b → p b = false
  | [] => by simp
  | b :: l => by
    rw [List.dropWhile_cons]
    by_cases hb : p b = true
    · rw [if_pos hb]
      constructor
      · intro h
        have h2 := congrArg List.length h
        have h3 := (List.dropWhile_sublist p (l := l)).length_le
        simp at h2
        omega
      · intro h
        have := h b (by simp)
        rw [hb] at this
        cases this
    · rw [if_neg hb]
      simp [hb]
theorem trim_self (s : List UInt8) : Lib.trimS s [32] = s ↔ ∀ b, (s[0]? = some b ∨ s[s.length - 1]? = some b) → b ≠ 32 := by
  have key : Lib.trimS s [32] = s ↔ s.reverse.dropWhile ([32].contains ·) = s.reverse ∧ s.dropWhile ([32].contains ·) = s := by
    unfold Lib.trimS Lib.trimLeftS Lib.trimRightS
    constructor
    · intro h
      have h1 := (List.dropWhile_sublist ([32].contains ·) (l := s.reverse))
      have h2 := (List.dropWhile_sublist ([32].contains ·) (l := (s.reverse.dropWhile ([32].contains ·)).reverse)).length_le
      rw [h] at h2
      have h3 := h1.length_le
      simp only [List.length_reverse] at h2 h3
      have h4 := h1.eq_of_length (by simp only [List.length_reverse]; omega)
      refine ⟨h4, ?_⟩
      rw [h4, List.reverse_reverse] at h
      exact h
    · rintro ⟨h1, h2⟩
      rw [h1, List.reverse_reverse, h2]
  rw [key, dropWhile_self, dropWhile_self]
  have hc : ∀ b : UInt8, ([32].contains b = false) ↔ b ≠ 32 := fun b => by simp
  simp only [hc]
  by_cases h0 : s = []
  · subst h0
    simp
  · have hl : 0 < s.length := List.length_pos_iff.2 h0
    rw [List.getElem?_reverse hl]
    constructor
    · rintro ⟨h1, h2⟩ b (h | h)
      · exact h2 b h
      · exact h1 b (by simpa using h)
    · intro h
      exact ⟨fun b hb => h b (.inr (by simpa using hb)), fun b hb => h b (.inl hb)⟩
set_option maxRecDepth 20000 in
theorem message_any (s : List UInt8) (w : World) : Calls Tryz.prog 59 #[.string ⟨s.toArray⟩] w fun e w' => e = .returned (.bool (isMsg s)) ∧ w' = w := by
  obtain ⟨S, HS⟩ : ∃ S : ByteArray, Hid (S = ⟨s.toArray⟩) := ⟨_, rfl⟩
  obtain ⟨n, HN⟩ : ∃ n, Hid (s.length = n) := ⟨_, rfl⟩
  have hsz : S.size = n := by rw [HS.out, ← HN.out]; simp [ByteArray.size]
  rw [← HS.out]
  by_cases h : n ≤ 2000
  · have hi : ¬ (2000 : Int) < (n : Int) := by omega
    go_enter Tryz.func59, Tryz.ntmps59
    go_wp2
    go_loopg [3] n (fun g i wr => ∃ j : Nat, j ≤ n ∧ g = n - j ∧ i = .int .i64 j ∧ Hid (∀ x ∈ s.take j, x ≠ 0) ∧ Hid (wr = w))
    case atStart => exact ⟨0, by omega, rfl, rfl, hid (by simp), hid rfl⟩
    case round =>
      obtain ⟨j, hj, hk, rfl, HT, HW⟩ := hrel
      by_cases hlt : j < n
      · have hlti : (j : Int) < (n : Int) := by omega
        obtain ⟨x, hx⟩ : ∃ x, s[j]? = some x := ⟨_, List.getElem?_eq_getElem (by rw [HN.out]; exact hlt)⟩
        obtain ⟨c, HC⟩ : ∃ c, Hid ((x.toNat : Int) = c) := ⟨_, rfl⟩
        have HX : Hid (s[j]? = some x) := hx
        have hix : ∀ w1 : World, (Instr.index 9 (.string S) (.int .i64 j)).run Tryz.prog w1 = .ok (.int .u8 c) w1 := fun w1 => by rw [HS.out, ← HC.out]; exact index_txt s j w1 x HX.out
        clear hx
        by_cases hc : c = 0
        · have HM : Hid (isMsg s = false) := hid (by
            unfold isMsg
            have hx0 : x = 0 := (u8_ne (n := 0) (by decide)).1 (HC.out.trans hc)
            have : (0 : UInt8) ∈ s := hx0 ▸ List.mem_of_getElem? HX.out
            simp [this])
          have HC0 : Hid _ := HC
          clear HC HC0
          subst hc
          go_wp2
          go_ret
          exact ⟨by rw [HM.out]; rfl, HW.out⟩
        · have hcb : (c == 0) = false := by simpa using hc
          go_wp2
          go_roundg (n - (j + 1))
          case measure => omega
          case rel =>
            refine ⟨j + 1, by omega, rfl, by go_num, hid ?_, HW⟩
            rw [take_snoc8 s j x HX.out]
            intro y hy
            rcases List.mem_append.1 hy with hy | hy
            · exact HT.out y hy
            · have : y = x := by simpa using hy
              subst this
              rintro rfl
              exact hc (HC.out.symm.trans rfl)
      · have hlti : ¬ (j : Int) < (n : Int) := by omega
        obtain rfl : j = n := by omega
        have HM : Hid (isMsg s = true) := hid (by
          unfold isMsg
          have h1 := HT.out
          rw [List.take_of_length_le (by rw [HN.out]; omega)] at h1
          have h2 : (0 : UInt8) ∉ s := fun h => h1 0 h rfl
          have h3 : s.length ≤ 2000 := by rw [HN.out]; exact h
          simp [h2, h3])
        go_wp2
        go_ret
        exact ⟨by rw [HM.out]; rfl, HW.out⟩
  · have hi : (2000 : Int) < (n : Int) := by omega
    have HM : Hid (isMsg s = false) := hid (by
      unfold isMsg
      have h3 : ¬ s.length ≤ 2000 := by rw [HN.out]; exact h
      simp [h3])
    go_enter Tryz.func59, Tryz.ntmps59
    go_wp2
    go_ret
    exact ⟨by rw [HM.out]; rfl, rfl⟩
/-- 3.3: a sign that no name has. -/
def badS (c : Int) : Prop := c = 60 ∨ c = 62 ∨ c = 10 ∨ c = 0
theorem badS_iff (x : UInt8) : ¬ badS (x.toNat : Int) ↔ x ≠ 60 ∧ x ≠ 62 ∧ x ≠ 10 ∧ x ≠ 0 := by
  unfold badS
  rw [show ((x.toNat : Int) = 60) ↔ x = 60 from u8_ne (n := 60) (by decide), show ((x.toNat : Int) = 62) ↔ x = 62 from u8_ne (n := 62) (by decide), show ((x.toNat : Int) = 10) ↔ x = 10 from u8_ne (n := 10) (by decide), show ((x.toNat : Int) = 0) ↔ x = 0 from u8_ne (n := 0) (by decide)]
  constructor
  · intro h
    exact ⟨fun e => h (.inl e), fun e => h (.inr (.inl e)), fun e => h (.inr (.inr (.inl e))), fun e => h (.inr (.inr (.inr e)))⟩
  · rintro ⟨a, b, c, d⟩ (h | h | h | h)
    · exact a h
    · exact b h
    · exact c h
    · exact d h
set_option maxRecDepth 20000 in
theorem plain_any (s : List UInt8) (w : World) : Calls Tryz.prog 103 #[.string ⟨s.toArray⟩] w fun e w' => BIs (okT s) e ∧ w' = w := by
  obtain ⟨S, HS⟩ : ∃ S : ByteArray, Hid (S = ⟨s.toArray⟩) := ⟨_, rfl⟩
  obtain ⟨n, HN⟩ : ∃ n, Hid (s.length = n) := ⟨_, rfl⟩
  have hsz : S.size = n := by rw [HS.out, ← HN.out]; simp [ByteArray.size]
  rw [← HS.out]
  by_cases h : n ≤ 60
  · have hi : ¬ (60 : Int) < (n : Int) := by omega
    go_enter Tryz.func103, Tryz.ntmps103
    go_wp2
    go_loopg [3] n (fun g i wr => ∃ j : Nat, j ≤ n ∧ g = n - j ∧ i = .int .i64 j ∧ Hid (∀ x ∈ s.take j, ¬ badS (x.toNat : Int)) ∧ Hid (wr = w))
    case atStart => exact ⟨0, by omega, rfl, rfl, hid (by simp), hid rfl⟩
    case round =>
      obtain ⟨j, hj, hk, rfl, HT, HW⟩ := hrel
      by_cases hlt : j < n
      · have hlti : (j : Int) < (n : Int) := by omega
        obtain ⟨x, hx⟩ : ∃ x, s[j]? = some x := ⟨_, List.getElem?_eq_getElem (by rw [HN.out]; exact hlt)⟩
        obtain ⟨c, HC⟩ : ∃ c, Hid ((x.toNat : Int) = c) := ⟨_, rfl⟩
        have HX : Hid (s[j]? = some x) := hx
        have hix : ∀ w1 : World, (Instr.index 9 (.string S) (.int .i64 j)).run Tryz.prog w1 = .ok (.int .u8 c) w1 := fun w1 => by rw [HS.out, ← HC.out]; exact index_txt s j w1 x HX.out
        clear hx
        by_cases hc : badS c
        · have HM : Hid (¬ okT s) := fun ht => (badS_iff x).2 (ht.2.1 x (List.mem_of_getElem? HX.out)) (by rw [HC.out]; exact hc)
          clear HC
          rcases hc with rfl | rfl | rfl | rfl
          all_goals
            go_wp2
            go_ret
            exact ⟨bis_false HM.out, HW.out⟩
        · have HBD : Hid (¬ badS c) := hc
          have b1 : (c == 60) = false := by simp; exact fun e => hc (.inl e)
          have b2 : (c == 62) = false := by simp; exact fun e => hc (.inr (.inl e))
          have b3 : (c == 10) = false := by simp; exact fun e => hc (.inr (.inr (.inl e)))
          have b4 : (c == 0) = false := by simp; exact fun e => hc (.inr (.inr (.inr e)))
          clear hc
          go_wp2
          go_roundg (n - (j + 1))
          case measure => omega
          case rel =>
            refine ⟨j + 1, by omega, rfl, by go_num, hid ?_, HW⟩
            rw [take_snoc8 s j x HX.out]
            intro y hy
            rcases List.mem_append.1 hy with hy | hy
            · exact HT.out y hy
            · have : y = x := by simpa using hy
              subst this
              rw [HC.out]
              exact HBD.out
      · have hlti : ¬ (j : Int) < (n : Int) := by omega
        have hjn : j = n := by omega
        have HT2 : Hid (∀ x ∈ s, x ≠ 60 ∧ x ≠ 62 ∧ x ≠ 10 ∧ x ≠ 0) := hid (by
          have h1 := HT.out
          rw [List.take_of_length_le (by rw [HN.out]; omega)] at h1
          exact fun x hx => (badS_iff x).1 (h1 x hx))
        have H60 : Hid (s.length ≤ 60) := hid (by rw [HN.out]; exact h)
        have HOK : Hid (okT s ↔ ∀ b, (s[0]? = some b ∨ s[s.length - 1]? = some b) → b ≠ 32) := hid (by
          unfold okT
          rw [trim_self]
          exact ⟨fun h => h.2.2, fun h => ⟨H60.out, HT2.out, h⟩⟩)
        clear hjn
        by_cases h0 : n = 0
        · have HY : Hid (okT s) := hid (by
            rw [HOK.out]
            have : s = [] := List.length_eq_zero_iff.1 (HN.out.trans h0)
            subst this
            simp)
          have hb0 : ((n : Int) == 0) = true := by simp; omega
          go_wp2
          go_ret
          exact ⟨bis_true HY.out, HW.out⟩
        · have hb0 : ((n : Int) == 0) = false := by simp; omega
          obtain ⟨x0, hx0⟩ : ∃ x, s[0]? = some x := ⟨_, List.getElem?_eq_getElem (by rw [HN.out]; omega)⟩
          obtain ⟨x1, hx1⟩ : ∃ x, s[s.length - 1]? = some x := ⟨_, List.getElem?_eq_getElem (by rw [HN.out]; omega)⟩
          obtain ⟨c0, HC0⟩ : ∃ c, Hid ((x0.toNat : Int) = c) := ⟨_, rfl⟩
          obtain ⟨c1, HC1⟩ : ∃ c, Hid ((x1.toNat : Int) = c) := ⟨_, rfl⟩
          have HX0 : Hid (s[0]? = some x0) := hx0
          have HX1 : Hid (s[s.length - 1]? = some x1) := hx1
          have hi0 : ∀ w1 : World, (Instr.index 9 (.string S) (.int .i64 0)).run Tryz.prog w1 = .ok (.int .u8 c0) w1 := fun w1 => by rw [HS.out, ← HC0.out]; exact index_txt s 0 w1 x0 HX0.out
          have hi1 : ∀ w1 : World, (Instr.index 9 (.string S) (.int .i64 ((n : Int) - 1))).run Tryz.prog w1 = .ok (.int .u8 c1) w1 := fun w1 => by
            rw [HS.out, ← HC1.out, show ((n : Int) - 1) = ((s.length - 1 : Nat) : Int) from by rw [HN.out]; omega]
            exact index_txt s _ w1 x1 HX1.out
          have hn1 : 1 ≤ n := by omega
          clear hx0 hx1
          have HQ : Hid (okT s ↔ c0 ≠ 32 ∧ c1 ≠ 32) := hid (by
            rw [HOK.out, ← HC0.out, ← HC1.out]
            have e0 : ((x0.toNat : Int) = 32) ↔ x0 = 32 := u8_ne (n := 32) (by decide)
            have e1 : ((x1.toNat : Int) = 32) ↔ x1 = 32 := u8_ne (n := 32) (by decide)
            rw [Ne, Ne, e0, e1]
            constructor
            · intro h
              exact ⟨h x0 (.inl HX0.out), h x1 (.inr HX1.out)⟩
            · rintro ⟨h1, h2⟩ b (h | h)
              · rw [HX0.out] at h; cases h; exact h1
              · rw [HX1.out] at h; cases h; exact h2)
          by_cases q0 : c0 = 32
          · have HNO : Hid (¬ okT s) := fun h => (HQ.out.1 h).1 q0
            clear HQ HC0
            subst q0
            go_wp2
            go_ret
            exact ⟨bis_false HNO.out, HW.out⟩
          · have q0b : (c0 != 32) = true := by simpa using q0
            by_cases q1 : c1 = 32
            · have HNO : Hid (¬ okT s) := fun h => (HQ.out.1 h).2 q1
              clear HQ HC1
              subst q1
              go_wp2
              go_ret
              exact ⟨bis_false HNO.out, HW.out⟩
            · have q1b : (c1 != 32) = true := by simpa using q1
              have HY : Hid (okT s) := HQ.out.2 ⟨q0, q1⟩
              clear HQ
              go_wp2
              go_ret
              exact ⟨bis_true HY.out, HW.out⟩
  · have hi : (60 : Int) < (n : Int) := by omega
    have HNO : Hid (¬ okT s) := fun ht => h (by rw [← HN.out]; exact ht.1)
    go_enter Tryz.func103, Tryz.ntmps103
    go_wp2
    go_ret
    exact ⟨bis_false HNO.out, rfl⟩
end Go.Proofs.YtbpdielmdhhdfaaGreatDoor
