/- 'checkSum'. -/
import Derived.Test.YtbiibhpknflagaaDoorSymA
namespace Go.Proofs.YtbiibhpknflagaaDoor
open Go.RowKit Plain
set_option linter.unusedVariables false

/-- k bytes from byte c on, the highest first. -/
def be (zs : List Int) (c : Nat) : Nat → Nat
  | 0 => 0
  | k + 1 => be zs c k * 256 + (zs.getD (c + k) 0).toNat
theorem be_lt (zs : List Int) (hz : IsB zs) (c : Nat) : ∀ k, be zs c k < 256 ^ k
  | 0 => by simp [be]
  | k + 1 => by
    have ih := be_lt zs hz c k
    have := hz.get (c + k)
    rw [be, Nat.pow_succ]
    simp only [List.getD_eq_getElem?_getD]
    omega
theorem be_or (s : Nat) (x : Int) (hs : s < 16777216) (h1 : 0 ≤ x) (h2 : x ≤ 255) : bits .or .u32 ((s : Int) * 256) x = ((s * 256 + x.toNat : Nat) : Int) := by
  rw [show (s : Int) * 256 = ((s * 256 : Nat) : Int) from by omega, u32_or _ _ (by omega) (by omega) h1 (by omega), Int.toNat_natCast, nat_join 8 _ _ (by omega) (by omega)]

set_option maxHeartbeats 400000 in
theorem adler_prog0 (a : Option Addr) (cap : Nat) (w : World) :
    Calls Tryd.prog 8 #[.slice a 0 cap] w fun e w' => e = .returned (.int .u32 (adler [])) ∧ w' = w := by
  go_enter Tryd.func8, Tryd.ntmps8
  go_wp2
  go_loop [3, 4, 9] (fun s t i => i = .int .i64 0 ∧ s = .int .u32 1 ∧ t = .int .u32 0) (fun _ _ _ => 0)
  case atStart => exact ⟨rfl, rfl, rfl⟩
  case round =>
    obtain ⟨rfl, rfl, rfl⟩ := hrel
    go_wp2
    go_ret
    exact ⟨ret_int (by decide), rfl⟩
theorem adler_own (w : World) (B n cp : Nat) (a : Option Addr) (out : List Int) (hown : w.ownsRow B 5 1 (.slice a n cp) n (out.map (Value.int .u8))) (hn : out.length = n) (hz : IsB out) (hl : n ≤ 300000) :
    Calls Tryd.prog 8 #[.slice a n cp] w fun e w' => e = .returned (.int .u32 (adler out)) ∧ w' = w := by
  by_cases h0 : n = 0
  · subst h0
    obtain rfl : out = [] := List.eq_nil_of_length_eq_zero hn
    exact adler_prog0 a cp w
  · obtain ⟨g, cap', hv, _, _⟩ := hown.form (by omega)
    simp only [Value.slice.injEq] at hv
    obtain ⟨rfl, _, rfl⟩ := hv
    rw [← hn]
    exact adler_prog g 0 cp out w (by omega) hz (fun i hi => by rw [Nat.zero_add]; exact own_at hown hn i (by omega))

/-- 1.2: does the sum stand behind the blocks? -/
def sumB (zs : List Int) (p : Nat) (out : List Int) : Bool := decide ((p + 7) / 8 + 4 ≤ zs.length) && decide (((be zs ((p + 7) / 8) 4 : Nat) : Int) = adler out)

set_option maxRecDepth 20000 in
set_option maxHeartbeats 2000000 in
theorem checkSum_any (E : Env) (B p : Nat) (v : Value) (out : List Int) (w : World) (hz : IsB E.zs) (hl : E.zs.length ≤ 400000) (h : St w E B p v out) (hm : E.most ≤ 300000) :
    Calls Tryd.prog 22 #[.pointer (some ⟨E.S, 0, none⟩)] w fun e w' => Kept E.S (.bool true) (.bool true) w w' ∧
      if sumB E.zs p out = true then e = .returned (.tuple #[]) ∧ ∃ hold held, Str w' E ((p + 7) / 8 + 4) hold held v else e = .panicked (errv 10) := by
  have hle := h.le
  obtain ⟨m, hmo⟩ : ∃ m, out.length = m := ⟨_, rfl⟩
  obtain ⟨⟨nx, hold, held, hst, hp, hh, hnx, HG⟩, hown, hisB, hB, _⟩ := h
  obtain ⟨c, HC⟩ : ∃ c, Hid (c = (p + 7) / 8) := ⟨_, rfl⟩
  have hcn : nx = c := by rw [HC.out]; omega
  subst hcn
  obtain ⟨r, HR⟩ : ∃ r, Hid (sumB E.zs p out = r) := ⟨_, rfl⟩
  have HRo := HR.out
  unfold sumB at HRo
  rw [HR.out]
  rw [← HC.out] at HRo ⊢
  rw [hmo] at hown hle
  obtain ⟨a, cp, rfl⟩ := owns_shape hown
  go_enter Tryd.func22, Tryd.ntmps22
  go_wp2
  go_loopw [2, 3] (fun s i wr => ∃ k n : Nat, k ≤ 4 ∧ nx + k ≤ E.zs.length ∧ i = .int .i64 k ∧ s = .int .u32 n ∧ Hid (n = be E.zs nx k) ∧ Hid (Str wr E (nx + k) hold held (.slice a m cp)) ∧ Hid (Kept E.S (.bool true) (.bool true) w wr)) (fun _ i _ => 4 - (intOf i).toNat)
  case atStart => exact ⟨0, 0, by omega, by omega, rfl, rfl, rfl, hst, Kept.refl _ _ _⟩
  case round =>
    obtain ⟨k, n, hk4, hkl, rfl, rfl, HN, HS, HK⟩ := hrel
    by_cases hk : k < 4
    · have hkZ : (k : Int) < 4 := by omega
      by_cases hend : nx + k < E.zs.length
      · have hbl := be_lt E.zs hz nx k
        rw [← HN.out] at hbl
        have hn24 : n < 16777216 := Nat.lt_of_lt_of_le hbl (by have := Nat.pow_le_pow_right (n := 256) (by omega) (show k ≤ 3 by omega); simpa using this)
        have hb := hz.at (nx + k) hend
        obtain ⟨x, HX⟩ : ∃ x : Int, Hid (x = E.zs[nx + k]'hend) := ⟨E.zs[nx + k]'hend, rfl⟩
        rw [← HX.out] at hb
        obtain ⟨hb1, hb2⟩ := hb
        have hor := be_or n x hn24 hb1 hb2
        have hxu : IntKind.u32.wrap x = x := by rw [IntKind.wrap_u32']; omega
        have HN2 : Hid (n * 256 + x.toNat = be E.zs nx (k + 1)) := by
          show _ = _
          rw [be, ← HN.out, HX.out]; simp [hend]
        clear hbl
        go_wp2_with fail
        refine (readByte_ok E (nx + k) hold held _ wr hz hl hend HS.out).mono ?_
        rintro e w1 ⟨rfl, s1, k1⟩
        rw [← HX.out]
        have HS1 : Hid (Str w1 E (nx + (k + 1)) hold held (.slice a m cp)) := s1
        have HK1 : Hid (Kept E.S (.bool true) (.bool true) w w1) := HK.out.trans k1
        clear s1 k1
        go_wp2
        go_roundw
        case rel => exact ⟨k + 1, n * 256 + x.toNat, by omega, by omega, by go_num, by go_num, HN2, HS1, HK1⟩
        case measure => simp [intOf]; omega
      · have hr : r = false := by rw [← HRo]; simp; omega
        subst hr
        go_wp2_with fail
        refine (readByte_bad E hold held _ wr (by rw [show E.zs.length = nx + k from by omega]; exact HS.out)).mono ?_
        rintro e w1 ⟨rfl, k1⟩
        exact ⟨rfl, HK.out.trans k1, rfl⟩
    · obtain rfl : k = 4 := by omega
      have hownr : wr.ownsRow B 5 1 (.slice a m cp) m (out.map (Value.int .u8)) := HK.out.owns hown hst.Sv
      obtain ⟨c0, c1, c2, c3, c4, c5, c6, fz, src, ibS, ibv, ibl, Sl, Sv⟩ := HS.out
      obtain ⟨A, HA⟩ : ∃ A, Hid (A = adler out) := ⟨_, rfl⟩
      clear c0 c1 c2 c3 c5 c6 src
      go_wp2_with fail
      refine (adler_own wr B m cp a out hownr hmo hisB (by omega)).mono ?_
      rintro e w1 ⟨rfl, rfl⟩
      rw [← HA.out]
      by_cases hs : (n : Int) = A
      · have hs' : ((n : Int) != A) = false := by simp [hs]
        have hr : r = true := by rw [← HRo, ← HN.out, ← HA.out]; simp [hs]; omega
        subst hr
        have HS' : Hid (n = n) := rfl
        clear hs HRo
        go_wp2
        go_end0
        exact ⟨HK.out, rfl, hold, held, HS.out⟩
      · have hs' : ((n : Int) != A) = true := by simp [hs]
        have hr : r = false := by rw [← HRo, ← HN.out, ← HA.out]; simp [hs]
        subst hr
        clear hs HRo
        go_wp2
        exact ⟨rfl, HK.out, rfl⟩
end Go.Proofs.YtbiibhpknflagaaDoor
