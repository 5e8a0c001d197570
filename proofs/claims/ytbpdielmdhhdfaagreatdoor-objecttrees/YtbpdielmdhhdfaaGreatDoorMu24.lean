import Derived.Test.YtbpdielmdhhdfaaGreatDoorMu02
import Derived.Test.YtbpdielmdhhdfaaGreatDoorMu05
import Derived.Laws.IdiomStrings
import Derived.Test.YtbpdielmdhhdfaaGreatDoorMu23
import Derived.BigQuiet
/- The document's side of chapter 3: 'Decimal'. -/
namespace Go.Proofs.YtbpdielmdhhdfaaGreatDoor
open Go.RowKit
set_option linter.unusedVariables false
set_option linter.unusedSimpArgs false
theorem str_add (x y : List UInt8) : (⟨x.toArray⟩ : ByteArray) ++ ⟨y.toArray⟩ = ⟨(x ++ y).toArray⟩ := by
  rw [ByteArray.mk_append_mk]
/-- What has been written, and what is left: together the digits. -/
def Dl (n m : Nat) (s : List UInt8) : Prop := if m = 0 then s = Lib.decDigits n else Lib.decDigits n = Lib.decDigits m ++ s
theorem Dl.next {n m : Nat} {s : List UInt8} (h : Dl n m s) (hm : 0 < m) : Dl n (m / 10) (UInt8.ofNat (48 + m % 10) :: s) := by
  unfold Dl at h ⊢
  rw [if_neg (by omega)] at h
  by_cases h10 : m < 10
  · rw [if_pos (by omega), h, Lib.decDigits, dif_pos h10, Nat.mod_eq_of_lt h10]
    rfl
  · rw [if_neg (by omega), h]
    conv => lhs; rw [Lib.decDigits, dif_neg h10]
    simp
set_option maxRecDepth 20000 in
theorem decimal_any (n : Nat) (hn : n ≤ 400000) (w : World) : Calls Tryz.prog 38 #[.int .i64 n] w fun e w' => e = .returned (.string ⟨(Lib.decDigits n).toArray⟩) ∧ Below w.heap.size w w' := by
  by_cases h0 : n = 0
  · subst h0
    go_enter Tryz.func38, Tryz.ntmps38
    go_wp2
    go_ret
    exact ⟨by rw [Lib.decDigits]; rfl, Below.refl _ _⟩
  · have h0i : ¬ ((n : Int) == 0) = true := by simp; omega
    go_enter Tryz.func38, Tryz.ntmps38
    go_wp2_with fail
    go_loopg [0, 3] n (fun g v u wr => ∃ (m : Nat) (s : List UInt8) (S : ByteArray), v = .int .i64 m ∧ u = .string S ∧ g = m ∧ m ≤ 400000 ∧ S.size ≤ 6 ∧ Hid (m * 10 ^ S.size ≤ n) ∧ Hid (S = ⟨s.toArray⟩) ∧ Hid (Dl n m s) ∧ Hid (Below w.heap.size w wr))
    case atStart => exact ⟨n, [], ⟨#[]⟩, rfl, rfl, rfl, hn, by decide, hid (by show n * 10 ^ 0 ≤ n; omega), rfl, hid (by unfold Dl; rw [if_neg h0]; simp), hid (Below.refl _ _)⟩
    case round =>
      obtain ⟨m, s, S, rfl, rfl, hk, hm4, hS, HM, HS, HD, HB⟩ := hrel
      by_cases hm : 0 < m
      · have hmi : (0 : Int) < m := by omega
        obtain ⟨x, HX⟩ : ∃ x : UInt8, Hid (x = UInt8.ofNat (48 + m % 10)) := ⟨_, rfl⟩
        have hx : (48 : Int) + (m : Int) % 10 = (x.toNat : Int) := by
          rw [HX.out, UInt8.toNat_ofNat']
          omega
        have hcv : ∀ W : World, W.cell? ⟨wr.heap.size, 0, none⟩ = some (.int .u8 (x.toNat : Int)) → Sem.run Tryz.prog (convert 23 9 (.slice (some ⟨wr.heap.size, 0, none⟩) 1 1)) W = .ok (.string ⟨#[x]⟩) W := fun W hW => by
          refine run_convert_bytes_back W 23 9 5 ⟨wr.heap.size, 0, none⟩ 1 [x] Tryz.underlying23 Tryz.underlying5 Tryz.underlying9 ?_
          intro j hj
          have : j = 0 := by simpa using hj
          subst this
          simpa [Addr.add] using hW
        have hcv1 := hcv (wr.alloc (.cells #[.int .u8 (x.toNat : Int)] 5)) (by simp)
        have hSs : ¬ 9223372036854775807 < 1 + S.size := by omega
        have h1 : (⟨#[x]⟩ : ByteArray).size = 1 := rfl
        go_wp2
        have hS5 : S.size ≤ 5 := by
          rcases Nat.lt_or_ge S.size 6 with h | h
          · omega
          · have e : S.size = 6 := by omega
            have := HM.out
            rw [e] at this
            omega
        have hsz : ((⟨#[x]⟩ : ByteArray) ++ S).size = S.size + 1 := by rw [ByteArray.size_append, h1]; omega
        go_roundg (m / 10)
        case measure => omega
        case rel =>
          refine ⟨m / 10, x :: s, ⟨#[x]⟩ ++ S, by go_num, rfl, rfl, by omega, by omega, hid ?_, hid ?_, hid ?_, hid (HB.out.alloc HB.out.size _)⟩
          · rw [hsz, Nat.pow_succ]
            have := HM.out
            have h2 : m / 10 * (10 ^ S.size * 10) = m / 10 * 10 * 10 ^ S.size := by rw [Nat.mul_assoc (m / 10), Nat.mul_comm 10]
            rw [h2]
            exact Nat.le_trans (Nat.mul_le_mul_right _ (by omega)) this
          · rw [HS.out, show (⟨#[x]⟩ : ByteArray) = ⟨[x].toArray⟩ from rfl]
            exact str_add _ _
          · rw [HX.out]
            exact HD.out.next hm
      · have hmi : ¬ (0 : Int) < m := by omega
        go_wp2
        go_ret
        refine ⟨?_, HB.out⟩
        have := HD.out
        unfold Dl at this
        rw [if_pos (by omega)] at this
        rw [← this, ← HS.out]; rfl
end Go.Proofs.YtbpdielmdhhdfaaGreatDoor
/- The document's side of chapter 3: a line, a number. -/
namespace Go.Proofs.YtbpdielmdhhdfaaGreatDoor
open Go.RowKit
set_option linter.unusedVariables false
set_option linter.unusedSimpArgs false
theorem ext_txt (s : List UInt8) (i j : Nat) : (⟨s.toArray⟩ : ByteArray).extract i j = ⟨((s.drop i).take (j - i)).toArray⟩ := by
  apply ByteArray.ext
  simp [ByteArray.data_extract, List.extract]
theorem txt_len (s : List UInt8) : (⟨s.toArray⟩ : ByteArray).size = s.length := by simp [ByteArray.size]
theorem slice_to (s : List UInt8) (j : Nat) (h : j ≤ s.length) (w : World) : (Instr.slice 9 (.string ⟨s.toArray⟩) none (some (.int .i64 j)) none).run Tryz.prog w = .ok (.string ⟨(s.take j).toArray⟩) w := by
  rw [run_slice_string_to_if w 9 _ .i64 j Tryz.underlying9, if_pos ⟨by omega, by rw [txt_len]; omega⟩, Int.toNat_natCast, ext_txt, List.drop_zero, Nat.sub_zero]
theorem slice_from (s : List UInt8) (i : Nat) (h : i ≤ s.length) (w : World) : (Instr.slice 9 (.string ⟨s.toArray⟩) (some (.int .i64 i)) none none).run Tryz.prog w = .ok (.string ⟨(s.drop i).toArray⟩) w := by
  rw [run_slice_string_from_if w 9 _ .i64 i Tryz.underlying9, if_pos ⟨by omega, by rw [txt_len]; omega⟩, Int.toNat_natCast, ext_txt, txt_len, List.take_of_length_le (by rw [List.length_drop]; omega)]
theorem slice_mid (s : List UInt8) (i j : Nat) (h1 : i ≤ j) (h2 : j ≤ s.length) (w : World) : (Instr.slice 9 (.string ⟨s.toArray⟩) (some (.int .i64 i)) (some (.int .i64 j)) none).run Tryz.prog w = .ok (.string ⟨((s.drop i).take (j - i)).toArray⟩) w := by
  rw [run_slice_string w 9 _ .i64 .i64 i j Tryz.underlying9 (by omega) (by omega) (by rw [txt_len]; omega), Int.toNat_natCast, Int.toNat_natCast, ext_txt]
/-- A line with its word: what stands in it, and what comes behind it. -/
def Ln (s wd o r : List UInt8) : Prop := s = wd ++ 32 :: (o ++ 10 :: r) ∧ (10 : UInt8) ∉ o
def PostLn (s wd : List UInt8) (e : Ending) : Prop := (∃ o r, Ln s wd o r ∧ e = .returned (.tuple #[.string ⟨o.toArray⟩, .string ⟨r.toArray⟩, .bool true])) ∨ ((∀ o r, ¬ Ln s wd o r) ∧ e = .returned (.tuple #[.string ⟨#[]⟩, .string ⟨s.toArray⟩, .bool false]))
theorem Ln.take {s wd o r : List UInt8} (h : Ln s wd o r) : s.take (wd.length + 1) = wd ++ [32] ∧ wd.length + 1 + o.length < s.length := by
  obtain ⟨rfl, _⟩ := h
  constructor
  · rw [show wd ++ 32 :: (o ++ 10 :: r) = (wd ++ [32]) ++ (o ++ 10 :: r) from by simp, List.take_left' (by simp)]
  · simp; omega
theorem Ln.mem {s wd o r : List UInt8} (h : Ln s wd o r) : (10 : UInt8) ∈ s.drop (wd.length + 1) := by
  obtain ⟨rfl, _⟩ := h
  rw [show wd ++ 32 :: (o ++ 10 :: r) = (wd ++ [32]) ++ (o ++ 10 :: r) from by simp, List.drop_left' (by simp)]
  simp
theorem Ln.make {s wd : List UInt8} {m j : Nat} (hm : wd.length = m) (hp : s.take (m + 1) = wd ++ [32]) (h1 : m + 1 ≤ j) (hj : s[j]? = some 10) (hno : ∀ x ∈ (s.take j).drop (m + 1), x ≠ 10) : Ln s wd ((s.drop (m + 1)).take (j - (m + 1))) (s.drop (j + 1)) := by
  obtain ⟨hlt, hx⟩ := List.getElem?_eq_some_iff.1 hj
  constructor
  · have e1 : s = s.take (m + 1) ++ s.drop (m + 1) := (List.take_append_drop _ _).symm
    have e2 : s.drop (m + 1) = (s.drop (m + 1)).take (j - (m + 1)) ++ (s.drop (m + 1)).drop (j - (m + 1)) := (List.take_append_drop _ _).symm
    have e3 : (s.drop (m + 1)).drop (j - (m + 1)) = 10 :: s.drop (j + 1) := by
      rw [List.drop_drop, show m + 1 + (j - (m + 1)) = j from by omega, List.drop_eq_getElem_cons hlt, hx]
    conv => lhs; rw [e1, hp, e2, e3]
    simp
  · intro hmem
    refine hno 10 ?_ rfl
    rw [List.drop_take]
    exact hmem
set_option maxRecDepth 20000 in
set_option maxHeartbeats 1000000 in
theorem lineR_any (s wd : List UInt8) (hs : s.length ≤ 1000000) (hw : wd.length ≤ 100) (w : World) : Calls Tryz.prog 107 #[.string ⟨s.toArray⟩, .string ⟨wd.toArray⟩] w fun e w' => Below w.heap.size w w' ∧ PostLn s wd e := by
  obtain ⟨S, HS⟩ : ∃ S : ByteArray, Hid (⟨s.toArray⟩ = S) := ⟨_, rfl⟩
  obtain ⟨Wd, HW⟩ : ∃ S : ByteArray, Hid (⟨wd.toArray⟩ = S) := ⟨_, rfl⟩
  obtain ⟨n, HN⟩ : ∃ n, Hid (s.length = n) := ⟨_, rfl⟩
  obtain ⟨m, HM⟩ : ∃ n, Hid (wd.length = n) := ⟨_, rfl⟩
  have hsz : S.size = n := by rw [← HS.out, txt_len]; exact HN.out
  have hwz : Wd.size = m := by rw [← HW.out, txt_len]; exact HM.out
  have hn : n ≤ 1000000 := by rw [← HN.out]; exact hs
  have hm : m ≤ 100 := by rw [← HM.out]; exact hw
  obtain ⟨W2, HW2⟩ : ∃ A : ByteArray, Wd ++ ⟨#[32]⟩ = A := ⟨_, rfl⟩
  have HWL : Hid (W2 = ⟨(wd ++ [32]).toArray⟩) := hid (by rw [← HW2, ← HW.out, show (⟨#[32]⟩ : ByteArray) = ⟨[32].toArray⟩ from rfl]; exact str_add _ _)
  have l3 : (⟨#[32]⟩ : ByteArray).size = 1 := rfl
  have g1 : ¬ 9223372036854775807 < m + 1 := by omega
  have g2 : ¬ 9223372036854775807 ≤ m := by omega
  have HBAD : Hid ((∀ o r, ¬ Ln s wd o r) → PostLn s wd (.returned (.tuple #[.string ⟨#[]⟩, .string S, .bool false]))) := fun h => .inr ⟨h, by rw [HS.out]⟩
  rw [HS.out, HW.out]
  by_cases h1 : n < m + 1
  · have h1i : (n : Int) < (m : Int) + 1 := by omega
    have HNO : Hid (∀ o r, ¬ Ln s wd o r) := fun o r h => by have := h.take.2; rw [HN.out, HM.out] at this; omega
    go_enter Tryz.func107, Tryz.ntmps107
    go_wp2
    go_ret3
    exact ⟨Below.refl _ _, HBAD.out HNO.out⟩
  have h1i : ¬ (n : Int) < (m : Int) + 1 := by omega
  obtain ⟨Pf, HPF⟩ : ∃ S : ByteArray, Hid (⟨(s.take (m + 1)).toArray⟩ = S) := ⟨_, rfl⟩
  have hst : ∀ W, (Instr.slice 9 (.string S) none (some (.int .i64 ((m : Int) + 1))) none).run Tryz.prog W = .ok (.string Pf) W := fun W => by
    rw [← HS.out, ← HPF.out]
    exact slice_to s (m + 1) (by rw [HN.out]; omega) W
  obtain ⟨eq, HEQ⟩ : ∃ b : Bool, (Pf.toList == W2.toList) = b := ⟨_, rfl⟩
  have HEI : Hid (eq = true ↔ s.take (m + 1) = wd ++ [32]) := hid (by
    rw [← HEQ, HWL.out, ← HPF.out, Lib.toList_data, Lib.toList_data]
    simp)
  have hne : (Pf.toList != W2.toList) = !eq := by rw [← HEQ]; rfl
  cases eq with
  | false =>
    have HNO : Hid (∀ o r, ¬ Ln s wd o r) := fun o r h => by
      have h2 := HEI.out.2 (by rw [← HM.out]; exact h.take.1)
      cases h2
    go_enter Tryz.func107, Tryz.ntmps107
    go_wp2
    go_ret3
    exact ⟨Below.refl _ _, HBAD.out HNO.out⟩
  | true =>
    have HPR : Hid (s.take (m + 1) = wd ++ [32]) := HEI.out.1 rfl
    clear HEI
    go_enter Tryz.func107, Tryz.ntmps107
    go_wp2
    go_loopg [8] (n - (m + 1)) (fun g i wr => ∃ j : Nat, m + 1 ≤ j ∧ j ≤ n ∧ g = n - j ∧ i = .int .i64 j ∧ Hid (∀ x ∈ (s.take j).drop (m + 1), x ≠ 10) ∧ Hid (wr = w))
    case atStart => exact ⟨m + 1, by omega, by omega, rfl, by go_num, hid (by simp), hid rfl⟩
    case round =>
      obtain ⟨j, hj1, hj, hk, rfl, HT, HWR⟩ := hrel
      by_cases hlt : j < n
      · have hlti : (j : Int) < (n : Int) := by omega
        obtain ⟨x, hx⟩ : ∃ x, s[j]? = some x := ⟨_, List.getElem?_eq_getElem (by rw [HN.out]; exact hlt)⟩
        obtain ⟨c, HC⟩ : ∃ c, Hid ((x.toNat : Int) = c) := ⟨_, rfl⟩
        have HX : Hid (s[j]? = some x) := hx
        have hix : ∀ w1 : World, (Instr.index 9 (.string S) (.int .i64 j)).run Tryz.prog w1 = .ok (.int .u8 c) w1 := fun w1 => by rw [← HS.out, ← HC.out]; exact index_txt s j w1 x HX.out
        clear hx
        by_cases hc : c = 10
        · have hx10 : x = 10 := (u8_ne (n := 10) (by decide)).1 (HC.out.trans hc)
          obtain ⟨o, HO⟩ : ∃ o, Hid ((s.drop (m + 1)).take (j - (m + 1)) = o) := ⟨_, rfl⟩
          obtain ⟨r, HR⟩ : ∃ o, Hid (s.drop (j + 1) = o) := ⟨_, rfl⟩
          have HLN : Hid (Ln s wd o r) := hid (by rw [← HO.out, ← HR.out]; exact Ln.make HM.out HPR.out hj1 (by rw [← hx10]; exact HX.out) HT.out)
          obtain ⟨O, HOO⟩ : ∃ S : ByteArray, Hid (⟨o.toArray⟩ = S) := ⟨_, rfl⟩
          obtain ⟨R, HRR⟩ : ∃ S : ByteArray, Hid (⟨r.toArray⟩ = S) := ⟨_, rfl⟩
          have hs1 : ∀ W, (Instr.slice 9 (.string S) (some (.int .i64 ((m : Int) + 1))) (some (.int .i64 j)) none).run Tryz.prog W = .ok (.string O) W := fun W => by
            rw [← HS.out, ← HOO.out, ← HO.out]
            exact slice_mid s (m + 1) j hj1 (by rw [HN.out]; exact hj) W
          have hs2 : ∀ W, (Instr.slice 9 (.string S) (some (.int .i64 ((j : Int) + 1))) none none).run Tryz.prog W = .ok (.string R) W := fun W => by
            rw [← HS.out, ← HRR.out, ← HR.out]
            exact slice_from s (j + 1) (by rw [HN.out]; omega) W
          have hge : ¬ (n : Int) ≤ (j : Int) := by omega
          clear HC hx10
          subst hc
          go_wp2
          go_quiet (fail)
          go_wp2
          go_ret3
          exact ⟨by rw [HWR.out]; exact ⟨rfl, rfl, rfl, Nat.le_refl _, fun _ _ => rfl⟩, .inl ⟨o, r, HLN.out, by rw [HOO.out, HRR.out]; rfl⟩⟩
        · have hcb : (c != 10) = true := by simpa using hc
          go_wp2
          go_roundg (n - (j + 1))
          case measure => omega
          case rel =>
            refine ⟨j + 1, by omega, by omega, rfl, by go_num, hid ?_, HWR⟩
            rw [take_snoc8 s j x HX.out, List.drop_append_of_le_length (by rw [List.length_take, HN.out]; omega)]
            intro y hy
            rcases List.mem_append.1 hy with hy | hy
            · exact HT.out y hy
            · have : y = x := by simpa using hy
              subst this
              rintro rfl
              exact hc (HC.out.symm.trans rfl)
      · have hlti : ¬ (j : Int) < (n : Int) := by omega
        have hge : (n : Int) ≤ (j : Int) := by omega
        have HNO : Hid (∀ o r, ¬ Ln s wd o r) := fun o r h => by
          refine HT.out 10 ?_ rfl
          rw [List.take_of_length_le (by rw [HN.out]; omega)]
          have h2 := h.mem
          rw [HM.out] at h2
          exact h2
        go_wp2
        go_ret3
        exact ⟨by rw [HWR.out]; exact Below.refl _ _, HBAD.out HNO.out⟩
end Go.Proofs.YtbpdielmdhhdfaaGreatDoor
/- The document's side of chapter 3: a number. -/
namespace Go.Proofs.YtbpdielmdhhdfaaGreatDoor
open Go.RowKit
set_option linter.unusedVariables false
set_option linter.unusedSimpArgs false
/-- The value of digits. -/
def valN (s : List UInt8) : Nat := s.foldl (fun n x => n * 10 + (x.toNat - 48)) 0
theorem valN_snoc (l : List UInt8) (x : UInt8) : valN (l ++ [x]) = valN l * 10 + (x.toNat - 48) := by simp [valN]
def digS (x : UInt8) : Prop := 48 ≤ x.toNat ∧ x.toNat ≤ 57
/-- 3.1: decimal digits with no 0 ahead, of at most 15. -/
def gdN (s : List UInt8) : Prop := 1 ≤ s.length ∧ s.length ≤ 15 ∧ ¬ (1 < s.length ∧ s[0]? = some 48) ∧ ∀ x ∈ s, digS x
def NuP (s : List UInt8) (v : Int) : Prop := (gdN s ∧ v = valN s) ∨ (¬ gdN s ∧ v = -1)
theorem valN_lt (s : List UInt8) : ∀ j, j ≤ s.length → (∀ x ∈ s.take j, digS x) → valN (s.take j) < 10 ^ j
  | 0, _, _ => by simp [valN]
  | j + 1, hj, h => by
    have hx : s[j]? = some s[j] := List.getElem?_eq_getElem (by omega)
    have e := take_snoc8 s j _ hx
    rw [e] at h ⊢
    have ih := valN_lt s j (by omega) (fun x hx => h x (List.mem_append_left _ hx))
    have hd := h s[j] (List.mem_append_right _ (List.mem_singleton.2 rfl))
    rw [valN_snoc, Nat.pow_succ]
    have := hd.2
    omega
def PostN (s : List UInt8) (e : Ending) : Prop := ∃ v, e = .returned (.int .i64 v) ∧ NuP s v
set_option maxRecDepth 20000 in
set_option maxHeartbeats 1000000 in
theorem numberR_any (s : List UInt8) (w : World) : Calls Tryz.prog 143 #[.string ⟨s.toArray⟩] w fun e w' => w' = w ∧ PostN s e := by
  obtain ⟨S, HS⟩ : ∃ S : ByteArray, Hid (⟨s.toArray⟩ = S) := ⟨_, rfl⟩
  obtain ⟨n, HN⟩ : ∃ n, Hid (s.length = n) := ⟨_, rfl⟩
  have hsz : S.size = n := by rw [← HS.out, txt_len]; exact HN.out
  have HBAD : Hid (¬ gdN s → PostN s (.returned (.int .i64 (-1)))) := fun h => ⟨-1, rfl, .inr ⟨h, rfl⟩⟩
  rw [HS.out]
  by_cases h1 : n < 1
  · have h1i : (n : Int) < 1 := by omega
    have HNO : Hid (¬ gdN s) := fun h => by have := h.1; rw [HN.out] at this; omega
    go_enter Tryz.func143, Tryz.ntmps143
    go_wp2
    go_ret
    exact ⟨rfl, HBAD.out HNO.out⟩
  have h1i : ¬ (n : Int) < 1 := by omega
  by_cases h15 : 15 < n
  · have h2i : (15 : Int) < (n : Int) := by omega
    have HNO : Hid (¬ gdN s) := fun h => by have := h.2.1; rw [HN.out] at this; omega
    go_enter Tryz.func143, Tryz.ntmps143
    go_wp2
    go_ret
    exact ⟨rfl, HBAD.out HNO.out⟩
  have h2i : ¬ (15 : Int) < (n : Int) := by omega
  obtain ⟨x0, hx0⟩ : ∃ x, s[0]? = some x := ⟨_, List.getElem?_eq_getElem (by rw [HN.out]; omega)⟩
  obtain ⟨c0, HC0⟩ : ∃ c, Hid ((x0.toNat : Int) = c) := ⟨_, rfl⟩
  have HX0 : Hid (s[0]? = some x0) := hx0
  have hi0 : ∀ w1 : World, (Instr.index 9 (.string S) (.int .i64 0)).run Tryz.prog w1 = .ok (.int .u8 c0) w1 := fun w1 => by rw [← HS.out, ← HC0.out]; exact index_txt s 0 w1 x0 HX0.out
  clear hx0
  by_cases hz : 1 < n ∧ c0 = 48
  · obtain ⟨hz1, hz2⟩ := hz
    have hz1i : (1 : Int) < (n : Int) := by omega
    have HNO : Hid (¬ gdN s) := fun h => h.2.2.1 ⟨by rw [HN.out]; exact hz1, by rw [HX0.out, (u8_ne (n := 48) (by decide)).1 (HC0.out.trans hz2)]; rfl⟩
    clear HC0
    subst hz2
    go_enter Tryz.func143, Tryz.ntmps143
    go_wp2
    go_ret
    exact ⟨rfl, HBAD.out HNO.out⟩
  have HZ : Hid (¬ (1 < n ∧ c0 = 48)) := hz
  have HZ0 : Hid (¬ (1 < s.length ∧ s[0]? = some 48)) := fun h => HZ.out ⟨by rw [← HN.out]; exact h.1, by
    have h2 := h.2
    rw [HX0.out] at h2
    cases h2
    exact HC0.out.symm.trans rfl⟩
  have hfin : Hid (∀ wr : World, wr = w → ∀ P : World → Prop, P w → P wr) := fun wr e P h => e ▸ h
  have key : ∀ b : Bool, (decide ((1 : Int) < (n : Int))) = b → (b = true → (c0 == 48) = false) → Calls Tryz.prog 143 #[.string S] w fun e w' => w' = w ∧ PostN s e := by
    intro b hb hc
    have hstep : (b = true ∧ ((1 : Int) < (n : Int)) ∧ (c0 == 48) = false) ∨ (b = false ∧ ¬ ((1 : Int) < (n : Int))) := by
      cases b with
      | true => exact .inl ⟨rfl, of_decide_eq_true hb, hc rfl⟩
      | false => exact .inr ⟨rfl, of_decide_eq_false hb⟩
    clear hb hc hz
    rcases hstep with ⟨-, hg1, hg2⟩ | ⟨-, hg1⟩
    all_goals
      go_enter Tryz.func143, Tryz.ntmps143
      go_wp2
      go_loopg [3, 4] n (fun g v i wr => ∃ j N : Nat, j ≤ n ∧ g = n - j ∧ v = .int .i64 N ∧ i = .int .i64 j ∧ Hid (N = valN (s.take j)) ∧ Hid (∀ x ∈ s.take j, digS x) ∧ Hid (wr = w))
      case atStart => exact ⟨0, 0, by omega, rfl, rfl, rfl, hid (by simp [valN]), hid (by simp), hid rfl⟩
      case round =>
        obtain ⟨j, N, hj, hk, rfl, rfl, HV, HT, HW⟩ := hrel
        by_cases hlt : j < n
        · have hlti : (j : Int) < (n : Int) := by omega
          obtain ⟨x, hx⟩ : ∃ x, s[j]? = some x := ⟨_, List.getElem?_eq_getElem (by rw [HN.out]; exact hlt)⟩
          obtain ⟨c, HC⟩ : ∃ c, Hid ((x.toNat : Int) = c) := ⟨_, rfl⟩
          have HX : Hid (s[j]? = some x) := hx
          have hix : ∀ w1 : World, (Instr.index 9 (.string S) (.int .i64 j)).run Tryz.prog w1 = .ok (.int .u8 c) w1 := fun w1 => by rw [← HS.out, ← HC.out]; exact index_txt s j w1 x HX.out
          clear hx
          have hNb : N < 100000000000000 := by
            have h1 := valN_lt s j (by rw [HN.out]; omega) HT.out
            rw [← HV.out] at h1
            have h2 : 10 ^ j ≤ 10 ^ 14 := Nat.pow_le_pow_right (by decide) (by omega)
            omega
          by_cases d1 : c < 48
          · have HNO : Hid (¬ gdN s) := fun h => by
              have := (h.2.2.2 x (List.mem_of_getElem? HX.out)).1
              have := HC.out
              omega
            go_wp2
            go_ret
            exact ⟨HW.out, HBAD.out HNO.out⟩
          by_cases d2 : (57 : Int) < c
          · have HNO : Hid (¬ gdN s) := fun h => by
              have := (h.2.2.2 x (List.mem_of_getElem? HX.out)).2
              have := HC.out
              omega
            go_wp2
            go_ret
            exact ⟨HW.out, HBAD.out HNO.out⟩
          have d1' : (48 : Int) ≤ c := by omega
          have d2' : c ≤ 57 := by omega
          go_wp2
          go_roundg (n - (j + 1))
          case measure => omega
          case rel =>
            refine ⟨j + 1, N * 10 + (x.toNat - 48), by omega, rfl, ?_, by go_num, hid ?_, hid ?_, HW⟩
            · have := HC.out
              congr 1
              omega
            · rw [take_snoc8 s j x HX.out, valN_snoc, ← HV.out]
            · rw [take_snoc8 s j x HX.out]
              intro y hy
              rcases List.mem_append.1 hy with hy | hy
              · exact HT.out y hy
              · have : y = x := by simpa using hy
                subst this
                have := HC.out
                exact ⟨by omega, by omega⟩
        · have hlti : ¬ (j : Int) < (n : Int) := by omega
          have HG : Hid (NuP s N) := hid (by
            have h3 := HT.out
            have h4 := HV.out
            rw [List.take_of_length_le (by rw [HN.out]; omega)] at h3 h4
            exact .inl ⟨⟨by rw [HN.out]; omega, by rw [HN.out]; omega, HZ0.out, h3⟩, by rw [h4]⟩)
          go_wp2
          go_ret
          exact ⟨HW.out, N, rfl, HG.out⟩
  refine key _ rfl (fun hb => ?_)
  have h1 : 1 < n := by
    have := of_decide_eq_true hb
    omega
  have h2 : c0 ≠ 48 := fun e => HZ.out ⟨h1, e⟩
  simpa using h2
end Go.Proofs.YtbpdielmdhhdfaaGreatDoor
