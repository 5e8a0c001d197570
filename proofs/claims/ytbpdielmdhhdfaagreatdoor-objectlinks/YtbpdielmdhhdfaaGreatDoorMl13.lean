import Derived.Test.YtbpdielmdhhdfaaGreatDoorMl09
import Derived.Test.YtbpdielmdhhdfaaGreatDoorMl01
import Derived.ChangeKeysEq
import Derived.Laws.StructEq
import Derived.Test.YtbpdielmdhhdfaaGreatDoorMl11
import Derived.BigQuiet
import Derived.Test.YtbpdielmdhhdfaaGreatDoorMl04
namespace Go.Proofs.YtbpdielmdhhdfaaGreatDoor
open Go.RowKit
set_option linter.unusedVariables false
theorem eqItems_same {P : Program} (d : Nat) (e : TypeId) (he : P.plainKey e = true) (hu : P.underlying e = some (.int .u8)) (xs : List Int) : ∀ (is : List Nat) (w : World), (∀ j ∈ is, j < xs.length) → (Op.eqItems (d + 1) e 1 (row .u8 xs).toArray (row .u8 xs).toArray is).run P w = .ok true w
  | [], w, _ => by simp [Op.eqItems]
  | j :: is, w, h => by
    have hj := h j (by simp)
    have hp : (part e (row .u8 xs).toArray j).run P w = .ok (.int .u8 (xs.getD j 0)) w := run_part_plain w he (by simpa using row_at .u8 xs j hj)
    simp only [Op.eqItems, Sem.run_bind, Nat.mul_one, hp, Result.andThen_ok]
    simp [go_sem, hu, eqItems_same d e he hu xs is w (fun k hk => h k (by simp [hk]))]
theorem cells5 : Tryz.prog.cellsOf 5 = 1 := by kernel_rfl
theorem plain5 : Tryz.prog.plainKey 5 = true := by kernel_rfl
theorem same25 (xs : List Int) (h : xs.length = 20) (w : World) : (Op.equalIn 10000 32 (.agg (row .u8 xs).toArray) (.agg (row .u8 xs).toArray)).run Tryz.prog w = .ok true w := by
  obtain ⟨i5, hi, -⟩ := info_parts Tryz.info5
  rw [show (10000 : Nat) = 9999 + 1 from rfl, run_equalIn_array w 9999 _ _ Tryz.underlying32 hi, cells5]
  exact eqItems_same 9998 5 plain5 Tryz.underlying5 xs _ w (fun j hj => by rw [h]; simpa using hj)
end Go.Proofs.YtbpdielmdhhdfaaGreatDoor
namespace Go.Proofs.YtbpdielmdhhdfaaGreatDoor
open Go.RowKit
set_option linter.unusedVariables false
set_option linter.unusedSimpArgs false
theorem ext_txt (s : List UInt8) (i j : Nat) : (⟨s.toArray⟩ : ByteArray).extract i j = ⟨((s.drop i).take (j - i)).toArray⟩ := by
  apply ByteArray.ext
  simp [ByteArray.data_extract, List.extract]
theorem txt_len (s : List UInt8) : (⟨s.toArray⟩ : ByteArray).size = s.length := by simp [ByteArray.size]
theorem slice_to (s : List UInt8) (j : Nat) (h : j ≤ s.length) (w : World) : (Instr.slice 9 (.string ⟨s.toArray⟩) none (some (.int .i64 j)) none).run Tryz.prog w = .ok (.string ⟨(s.take j).toArray⟩) w := by
  rw [run_slice_string_to_if w 9 _ .i64 j Tryz.underlying9, if_pos ⟨by omega, by rw [txt_len]; omega⟩, Int.toNat_natCast, ext_txt, List.drop_zero, Nat.sub_zero]
theorem slice_from (s : List UInt8) (i : Nat) (h : i ≤ s.length) (w : World) : (Instr.slice 9 (.string ⟨s.toArray⟩) (some (.int .i64 i)) none none).run Tryz.prog w = .ok (.string ⟨(s.drop i).toArray⟩) w := by
  rw [run_slice_string_from_if w 9 _ .i64 i Tryz.underlying9, if_pos ⟨by omega, by rw [txt_len]; omega⟩, Int.toNat_natCast, ext_txt, txt_len, List.take_of_length_le (by rw [List.length_drop]; omega)]
theorem slice_mid (s : List UInt8) (i j : Nat) (h1 : i ≤ j) (h2 : j ≤ s.length) (w : World) : (Instr.slice 9 (.string ⟨s.toArray⟩) (some (.int .i64 i)) (some (.int .i64 j)) none).run Tryz.prog w = .ok (.string ⟨((s.drop i).take (j - i)).toArray⟩) w := by
  rw [run_slice_string w 9 _ .i64 .i64 i j Tryz.underlying9 (by omega) (by omega) (by rw [txt_len]; omega), Int.toNat_natCast, Int.toNat_natCast, ext_txt]
def Ln (s wd o r : List UInt8) : Prop := s = wd ++ 32 :: (o ++ 10 :: r) ∧ (10 : UInt8) ∉ o
def PostLn (s wd : List UInt8) (e : Ending) : Prop := (∃ o r, Ln s wd o r ∧ e = .returned (.tuple #[.string ⟨o.toArray⟩, .string ⟨r.toArray⟩, .bool true])) ∨ ((∀ o r, ¬ Ln s wd o r) ∧ e = .returned (.tuple #[.string ⟨#[]⟩, .string ⟨s.toArray⟩, .bool false]))
theorem Ln.take {s wd o r : List UInt8} (h : Ln s wd o r) : s.take (wd.length + 1) = wd ++ [32] ∧ wd.length + 1 + o.length < s.length := by
  obtain ⟨rfl, _⟩ := h
  constructor
  · rw [show wd ++ 32 :: (o ++ 10 :: r) = (wd ++ [32]) ++ (o ++ 10 :: r) from by simp, List.take_left' (by simp)]
  · simp; omega
theorem Ln.mem {s wd o r : List UInt8} (h : Ln s wd o r) : (10 : UInt8) ∈ s.drop (wd.length + 1) := by
  obtain ⟨rfl, _⟩ := h
  rw [show wd ++ 32 :: (o ++ 10 :: r) = (wd ++ [32]) ++ (o ++ 10 :: r) from by simp, List.drop_left' (by simp)]
  simp
theorem Ln.make {s wd : List UInt8} {m j : Nat} (hm : wd.length = m) (hp : s.take (m + 1) = wd ++ [32]) (h1 : m + 1 ≤ j) (hj : s[j]? = some 10) (hno : ∀ x ∈ (s.take j).drop (m + 1), x ≠ 10) : Ln s wd ((s.drop (m + 1)).take (j - (m + 1))) (s.drop (j + 1)) := by
  obtain ⟨hlt, hx⟩ := List.getElem?_eq_some_iff.1 hj
  constructor
  · have e1 : s = s.take (m + 1) ++ s.drop (m + 1) := (List.take_append_drop _ _).symm
    have e2 : s.drop (m + 1) = (s.drop (m + 1)).take (j - (m + 1)) ++ (s.drop (m + 1)).drop (j - (m + 1)) := (List.take_append_drop _ _).symm
    have e3 : (s.drop (m + 1)).drop (j - (m + 1)) = 10 :: s.drop (j + 1) := by
      rw [List.drop_drop, show m + 1 + (j - (m + 1)) = j from by omega, List.drop_eq_getElem_cons hlt, hx]
    conv => lhs; rw [e1, hp, e2, e3]
    simp
  · intro hmem
    refine hno 10 ?_ rfl
    rw [List.drop_take]
    exact hmem
set_option maxRecDepth 20000 in
set_option maxHeartbeats 1000000 in
theorem lineR_any (s wd : List UInt8) (hs : s.length ≤ 1000000) (hw : wd.length ≤ 100) (w : World) : Calls Tryz.prog 107 #[.string ⟨s.toArray⟩, .string ⟨wd.toArray⟩] w fun e w' => Below w.heap.size w w' ∧ PostLn s wd e := by
  obtain ⟨S, HS⟩ : ∃ S : ByteArray, Hid (⟨s.toArray⟩ = S) := ⟨_, rfl⟩
  obtain ⟨Wd, HW⟩ : ∃ S : ByteArray, Hid (⟨wd.toArray⟩ = S) := ⟨_, rfl⟩
  obtain ⟨n, HN⟩ : ∃ n, Hid (s.length = n) := ⟨_, rfl⟩
  obtain ⟨m, HM⟩ : ∃ n, Hid (wd.length = n) := ⟨_, rfl⟩
  have hsz : S.size = n := by rw [← HS.out, txt_len]; exact HN.out
  have hwz : Wd.size = m := by rw [← HW.out, txt_len]; exact HM.out
  have hn : n ≤ 1000000 := by rw [← HN.out]; exact hs
  have hm : m ≤ 100 := by rw [← HM.out]; exact hw
  obtain ⟨W2, HW2⟩ : ∃ A : ByteArray, Wd ++ ⟨#[32]⟩ = A := ⟨_, rfl⟩
  have HWL : Hid (W2 = ⟨(wd ++ [32]).toArray⟩) := hid (by rw [← HW2, ← HW.out, show (⟨#[32]⟩ : ByteArray) = ⟨[32].toArray⟩ from rfl]; exact str_add _ _)
  have l3 : (⟨#[32]⟩ : ByteArray).size = 1 := rfl
  have g1 : ¬ 9223372036854775807 < m + 1 := by omega
  have g2 : ¬ 9223372036854775807 ≤ m := by omega
  have HBAD : Hid ((∀ o r, ¬ Ln s wd o r) → PostLn s wd (.returned (.tuple #[.string ⟨#[]⟩, .string S, .bool false]))) := fun h => .inr ⟨h, by rw [HS.out]⟩
  rw [HS.out, HW.out]
  by_cases h1 : n < m + 1
  · have h1i : (n : Int) < (m : Int) + 1 := by omega
    have HNO : Hid (∀ o r, ¬ Ln s wd o r) := fun o r h => by have := h.take.2; rw [HN.out, HM.out] at this; omega
    go_enter Tryz.func107, Tryz.ntmps107
    go_wp2
    go_ret3
    exact ⟨Below.refl _ _, HBAD.out HNO.out⟩
  have h1i : ¬ (n : Int) < (m : Int) + 1 := by omega
  obtain ⟨Pf, HPF⟩ : ∃ S : ByteArray, Hid (⟨(s.take (m + 1)).toArray⟩ = S) := ⟨_, rfl⟩
  have hst : ∀ W, (Instr.slice 9 (.string S) none (some (.int .i64 ((m : Int) + 1))) none).run Tryz.prog W = .ok (.string Pf) W := fun W => by
    rw [← HS.out, ← HPF.out]
    exact slice_to s (m + 1) (by rw [HN.out]; omega) W
  obtain ⟨eq, HEQ⟩ : ∃ b : Bool, (Pf.toList == W2.toList) = b := ⟨_, rfl⟩
  have HEI : Hid (eq = true ↔ s.take (m + 1) = wd ++ [32]) := hid (by
    rw [← HEQ, HWL.out, ← HPF.out, Lib.toList_data, Lib.toList_data]
    simp)
  have hne : (Pf.toList != W2.toList) = !eq := by rw [← HEQ]; rfl
  cases eq with
  | false =>
    have HNO : Hid (∀ o r, ¬ Ln s wd o r) := fun o r h => by
      have h2 := HEI.out.2 (by rw [← HM.out]; exact h.take.1)
      cases h2
    go_enter Tryz.func107, Tryz.ntmps107
    go_wp2
    go_ret3
    exact ⟨Below.refl _ _, HBAD.out HNO.out⟩
  | true =>
    have HPR : Hid (s.take (m + 1) = wd ++ [32]) := HEI.out.1 rfl
    clear HEI
    go_enter Tryz.func107, Tryz.ntmps107
    go_wp2
    go_loopg [8] (n - (m + 1)) (fun g i wr => ∃ j : Nat, m + 1 ≤ j ∧ j ≤ n ∧ g = n - j ∧ i = .int .i64 j ∧ Hid (∀ x ∈ (s.take j).drop (m + 1), x ≠ 10) ∧ Hid (wr = w))
    case atStart => exact ⟨m + 1, by omega, by omega, rfl, by go_num, hid (by simp), hid rfl⟩
    case round =>
      obtain ⟨j, hj1, hj, hk, rfl, HT, HWR⟩ := hrel
      by_cases hlt : j < n
      · have hlti : (j : Int) < (n : Int) := by omega
        obtain ⟨x, hx⟩ : ∃ x, s[j]? = some x := ⟨_, List.getElem?_eq_getElem (by rw [HN.out]; exact hlt)⟩
        obtain ⟨c, HC⟩ : ∃ c, Hid ((x.toNat : Int) = c) := ⟨_, rfl⟩
        have HX : Hid (s[j]? = some x) := hx
        have hix : ∀ w1 : World, (Instr.index 9 (.string S) (.int .i64 j)).run Tryz.prog w1 = .ok (.int .u8 c) w1 := fun w1 => by rw [← HS.out, ← HC.out]; exact index_txt s j w1 x HX.out
        clear hx
        by_cases hc : c = 10
        · have hx10 : x = 10 := (u8_ne (n := 10) (by decide)).1 (HC.out.trans hc)
          obtain ⟨o, HO⟩ : ∃ o, Hid ((s.drop (m + 1)).take (j - (m + 1)) = o) := ⟨_, rfl⟩
          obtain ⟨r, HR⟩ : ∃ o, Hid (s.drop (j + 1) = o) := ⟨_, rfl⟩
          have HLN : Hid (Ln s wd o r) := hid (by rw [← HO.out, ← HR.out]; exact Ln.make HM.out HPR.out hj1 (by rw [← hx10]; exact HX.out) HT.out)
          obtain ⟨O, HOO⟩ : ∃ S : ByteArray, Hid (⟨o.toArray⟩ = S) := ⟨_, rfl⟩
          obtain ⟨R, HRR⟩ : ∃ S : ByteArray, Hid (⟨r.toArray⟩ = S) := ⟨_, rfl⟩
          have hs1 : ∀ W, (Instr.slice 9 (.string S) (some (.int .i64 ((m : Int) + 1))) (some (.int .i64 j)) none).run Tryz.prog W = .ok (.string O) W := fun W => by
            rw [← HS.out, ← HOO.out, ← HO.out]
            exact slice_mid s (m + 1) j hj1 (by rw [HN.out]; exact hj) W
          have hs2 : ∀ W, (Instr.slice 9 (.string S) (some (.int .i64 ((j : Int) + 1))) none none).run Tryz.prog W = .ok (.string R) W := fun W => by
            rw [← HS.out, ← HRR.out, ← HR.out]
            exact slice_from s (j + 1) (by rw [HN.out]; omega) W
          have hge : ¬ (n : Int) ≤ (j : Int) := by omega
          clear HC hx10
          subst hc
          go_wp2
          go_quiet (fail)
          go_wp2
          go_ret3
          exact ⟨by rw [HWR.out]; exact ⟨rfl, rfl, rfl, Nat.le_refl _, fun _ _ => rfl⟩, .inl ⟨o, r, HLN.out, by rw [HOO.out, HRR.out]; rfl⟩⟩
        · have hcb : (c != 10) = true := by simpa using hc
          go_wp2
          go_roundg (n - (j + 1))
          case measure => omega
          case rel =>
            refine ⟨j + 1, by omega, by omega, rfl, by go_num, hid ?_, HWR⟩
            rw [take_snoc8 s j x HX.out, List.drop_append_of_le_length (by rw [List.length_take, HN.out]; omega)]
            intro y hy
            rcases List.mem_append.1 hy with hy | hy
            · exact HT.out y hy
            · have : y = x := by simpa using hy
              subst this
              rintro rfl
              exact hc (HC.out.symm.trans rfl)
      · have hlti : ¬ (j : Int) < (n : Int) := by omega
        have hge : (n : Int) ≤ (j : Int) := by omega
        have HNO : Hid (∀ o r, ¬ Ln s wd o r) := fun o r h => by
          refine HT.out 10 ?_ rfl
          rw [List.take_of_length_le (by rw [HN.out]; omega)]
          have h2 := h.mem
          rw [HM.out] at h2
          exact h2
        go_wp2
        go_ret3
        exact ⟨by rw [HWR.out]; exact Below.refl _ _, HBAD.out HNO.out⟩
end Go.Proofs.YtbpdielmdhhdfaaGreatDoor
namespace Go.Proofs.YtbpdielmdhhdfaaGreatDoor
open Go.RowKit
set_option linter.unusedVariables false
set_option linter.unusedSimpArgs false
def valN (s : List UInt8) : Nat := s.foldl (fun n x => n * 10 + (x.toNat - 48)) 0
theorem valN_snoc (l : List UInt8) (x : UInt8) : valN (l ++ [x]) = valN l * 10 + (x.toNat - 48) := by simp [valN]
def digS (x : UInt8) : Prop := 48 ≤ x.toNat ∧ x.toNat ≤ 57
def gdN (s : List UInt8) : Prop := 1 ≤ s.length ∧ s.length ≤ 15 ∧ ¬ (1 < s.length ∧ s[0]? = some 48) ∧ ∀ x ∈ s, digS x
def NuP (s : List UInt8) (v : Int) : Prop := (gdN s ∧ v = valN s) ∨ (¬ gdN s ∧ v = -1)
theorem valN_lt (s : List UInt8) : ∀ j, j ≤ s.length → (∀ x ∈ s.take j, digS x) → valN (s.take j) < 10 ^ j
  | 0, _, _ => by simp [valN]
  | j + 1, hj, h => by
    have hx : s[j]? = some s[j] := List.getElem?_eq_getElem (by omega)
    have e := take_snoc8 s j _ hx
    rw [e] at h ⊢
    have ih := valN_lt s j (by omega) (fun x hx => h x (List.mem_append_left _ hx))
    have hd := h s[j] (List.mem_append_right _ (List.mem_singleton.2 rfl))
    rw [valN_snoc, Nat.pow_succ]
    have := hd.2
    omega
def PostN (s : List UInt8) (e : Ending) : Prop := ∃ v, e = .returned (.int .i64 v) ∧ NuP s v
set_option maxRecDepth 20000 in
set_option maxHeartbeats 1000000 in
theorem numberR_any (s : List UInt8) (w : World) : Calls Tryz.prog 143 #[.string ⟨s.toArray⟩] w fun e w' => w' = w ∧ PostN s e := by
  obtain ⟨S, HS⟩ : ∃ S : ByteArray, Hid (⟨s.toArray⟩ = S) := ⟨_, rfl⟩
  obtain ⟨n, HN⟩ : ∃ n, Hid (s.length = n) := ⟨_, rfl⟩
  have hsz : S.size = n := by rw [← HS.out, txt_len]; exact HN.out
  have HBAD : Hid (¬ gdN s → PostN s (.returned (.int .i64 (-1)))) := fun h => ⟨-1, rfl, .inr ⟨h, rfl⟩⟩
  rw [HS.out]
  by_cases h1 : n < 1
  · have h1i : (n : Int) < 1 := by omega
    have HNO : Hid (¬ gdN s) := fun h => by have := h.1; rw [HN.out] at this; omega
    go_enter Tryz.func143, Tryz.ntmps143
    go_wp2
    go_ret
    exact ⟨rfl, HBAD.out HNO.out⟩
  have h1i : ¬ (n : Int) < 1 := by omega
  by_cases h15 : 15 < n
  · have h2i : (15 : Int) < (n : Int) := by omega
    have HNO : Hid (¬ gdN s) := fun h => by have := h.2.1; rw [HN.out] at this; omega
    go_enter Tryz.func143, Tryz.ntmps143
    go_wp2
    go_ret
    exact ⟨rfl, HBAD.out HNO.out⟩
  have h2i : ¬ (15 : Int) < (n : Int) := by omega
  obtain ⟨x0, hx0⟩ : ∃ x, s[0]? = some x := ⟨_, List.getElem?_eq_getElem (by rw [HN.out]; omega)⟩
  obtain ⟨c0, HC0⟩ : ∃ c, Hid ((x0.toNat : Int) = c) := ⟨_, rfl⟩
  have HX0 : Hid (s[0]? = some x0) := hx0
  have hi0 : ∀ w1 : World, (Instr.index 9 (.string S) (.int .i64 0)).run Tryz.prog w1 = .ok (.int .u8 c0) w1 := fun w1 => by rw [← HS.out, ← HC0.out]; exact index_txt s 0 w1 x0 HX0.out
  clear hx0
  by_cases hz : 1 < n ∧ c0 = 48
  · obtain ⟨hz1, hz2⟩ := hz
    have hz1i : (1 : Int) < (n : Int) := by omega
    have HNO : Hid (¬ gdN s) := fun h => h.2.2.1 ⟨by rw [HN.out]; exact hz1, by rw [HX0.out, (u8_ne (n := 48) (by decide)).1 (HC0.out.trans hz2)]; rfl⟩
    clear HC0
    subst hz2
    go_enter Tryz.func143, Tryz.ntmps143
    go_wp2
    go_ret
    exact ⟨rfl, HBAD.out HNO.out⟩
  have HZ : Hid (¬ (1 < n ∧ c0 = 48)) := hz
  have HZ0 : Hid (¬ (1 < s.length ∧ s[0]? = some 48)) := fun h => HZ.out ⟨by rw [← HN.out]; exact h.1, by
    have h2 := h.2
    rw [HX0.out] at h2
    cases h2
    exact HC0.out.symm.trans rfl⟩
  have hfin : Hid (∀ wr : World, wr = w → ∀ P : World → Prop, P w → P wr) := fun wr e P h => e ▸ h
  have key : ∀ b : Bool, (decide ((1 : Int) < (n : Int))) = b → (b = true → (c0 == 48) = false) → Calls Tryz.prog 143 #[.string S] w fun e w' => w' = w ∧ PostN s e := by
    intro b hb hc
    have hstep : (b = true ∧ ((1 : Int) < (n : Int)) ∧ (c0 == 48) = false) ∨ (b = false ∧ ¬ ((1 : Int) < (n : Int))) := by
      cases b with
      | true => exact .inl ⟨rfl, of_decide_eq_true hb, hc rfl⟩
      | false => exact .inr ⟨rfl, of_decide_eq_false hb⟩
    clear hb hc hz
    rcases hstep with ⟨-, hg1, hg2⟩ | ⟨-, hg1⟩
    all_goals
      go_enter Tryz.func143, Tryz.ntmps143
      go_wp2
      go_loopg [3, 4] n (fun g v i wr => ∃ j N : Nat, j ≤ n ∧ g = n - j ∧ v = .int .i64 N ∧ i = .int .i64 j ∧ Hid (N = valN (s.take j)) ∧ Hid (∀ x ∈ s.take j, digS x) ∧ Hid (wr = w))
      case atStart => exact ⟨0, 0, by omega, rfl, rfl, rfl, hid (by simp [valN]), hid (by simp), hid rfl⟩
      case round =>
        obtain ⟨j, N, hj, hk, rfl, rfl, HV, HT, HW⟩ := hrel
        by_cases hlt : j < n
        · have hlti : (j : Int) < (n : Int) := by omega
          obtain ⟨x, hx⟩ : ∃ x, s[j]? = some x := ⟨_, List.getElem?_eq_getElem (by rw [HN.out]; exact hlt)⟩
          obtain ⟨c, HC⟩ : ∃ c, Hid ((x.toNat : Int) = c) := ⟨_, rfl⟩
          have HX : Hid (s[j]? = some x) := hx
          have hix : ∀ w1 : World, (Instr.index 9 (.string S) (.int .i64 j)).run Tryz.prog w1 = .ok (.int .u8 c) w1 := fun w1 => by rw [← HS.out, ← HC.out]; exact index_txt s j w1 x HX.out
          clear hx
          have hNb : N < 100000000000000 := by
            have h1 := valN_lt s j (by rw [HN.out]; omega) HT.out
            rw [← HV.out] at h1
            have h2 : 10 ^ j ≤ 10 ^ 14 := Nat.pow_le_pow_right (by decide) (by omega)
            omega
          by_cases d1 : c < 48
          · have HNO : Hid (¬ gdN s) := fun h => by
              have := (h.2.2.2 x (List.mem_of_getElem? HX.out)).1
              have := HC.out
              omega
            go_wp2
            go_ret
            exact ⟨HW.out, HBAD.out HNO.out⟩
          by_cases d2 : (57 : Int) < c
          · have HNO : Hid (¬ gdN s) := fun h => by
              have := (h.2.2.2 x (List.mem_of_getElem? HX.out)).2
              have := HC.out
              omega
            go_wp2
            go_ret
            exact ⟨HW.out, HBAD.out HNO.out⟩
          have d1' : (48 : Int) ≤ c := by omega
          have d2' : c ≤ 57 := by omega
          go_wp2
          go_roundg (n - (j + 1))
          case measure => omega
          case rel =>
            refine ⟨j + 1, N * 10 + (x.toNat - 48), by omega, rfl, ?_, by go_num, hid ?_, hid ?_, HW⟩
            · have := HC.out
              congr 1
              omega
            · rw [take_snoc8 s j x HX.out, valN_snoc, ← HV.out]
            · rw [take_snoc8 s j x HX.out]
              intro y hy
              rcases List.mem_append.1 hy with hy | hy
              · exact HT.out y hy
              · have : y = x := by simpa using hy
                subst this
                have := HC.out
                exact ⟨by omega, by omega⟩
        · have hlti : ¬ (j : Int) < (n : Int) := by omega
          have HG : Hid (NuP s N) := hid (by
            have h3 := HT.out
            have h4 := HV.out
            rw [List.take_of_length_le (by rw [HN.out]; omega)] at h3 h4
            exact .inl ⟨⟨by rw [HN.out]; omega, by rw [HN.out]; omega, HZ0.out, h3⟩, by rw [h4]⟩)
          go_wp2
          go_ret
          exact ⟨HW.out, N, rfl, HG.out⟩
  refine key _ rfl (fun hb => ?_)
  have h1 : 1 < n := by
    have := of_decide_eq_true hb
    omega
  have h2 : c0 ≠ 48 := fun e => HZ.out ⟨h1, e⟩
  simpa using h2
end Go.Proofs.YtbpdielmdhhdfaaGreatDoor
namespace Go.Proofs.YtbpdielmdhhdfaaGreatDoor
set_option linter.unusedVariables false
set_option linter.unusedSimpArgs false
theorem first_at {s a b : List UInt8} {c : UInt8} {o : Nat} (hs : s = a ++ c :: b) (ha : c ∉ a) (h1 : ∀ x ∈ s.take o, x ≠ c) (h2 : o = s.length ∨ s[o]? = some c) : o = a.length := by
  have hl : s.length = a.length + (b.length + 1) := by rw [hs]; simp
  rcases Nat.lt_trichotomy o a.length with h | h | h
  · rcases h2 with h2 | h2
    · omega
    · rw [hs, List.getElem?_append_left h] at h2
      exact absurd (List.mem_of_getElem? h2) ha
  · exact h
  · refine absurd rfl (h1 c ?_)
    have hx : s[a.length]? = some c := by rw [hs, List.getElem?_append_right (Nat.le_refl _)]; simp
    have h3 : (s.take o)[a.length]? = some c := by rw [List.getElem?_take_of_lt h]; exact hx
    exact List.mem_of_getElem? h3
def zh (q : Per) : Nat := q.zone.natAbs / 60
def zm (q : Per) : Nat := q.zone.natAbs % 60
def zs (q : Per) : UInt8 := if q.zone < 0 then 45 else 43
theorem perB_parts (q : Per) : perB q = q.name ++ ([32, 60] ++ (q.mail ++ ([62, 32] ++ (Lib.decDigits q.time.toNat ++ ([32, zs q] ++ (two (zh q) ++ two (zm q))))))) := by
  simp [perB, zoneB, zs, zh, zm]
theorem two_len (n : Nat) : (two n).length = 2 := rfl
theorem drop_at (a b : List UInt8) (n : Nat) (h : a.length = n) : (a ++ b).drop n = b := List.drop_left' h
theorem take_at (a b : List UInt8) (n : Nat) (h : a.length = n) : (a ++ b).take n = a := List.take_left' h
theorem per_parts (q : Per) (hq : okP q) (s : List UInt8) (hs : perB q = s) (o sh : Nat) (ho : ∀ x ∈ s.take o, x ≠ 60) (ho2 : o = s.length ∨ s[o]? = some 60)
    (hle : o ≤ sh) (hsh : ∀ x ∈ (s.take sh).drop o, x ≠ 62) (hsh2 : sh = s.length ∨ s[sh]? = some 62) :
    o = q.name.length + 1 ∧ sh = q.name.length + 2 + q.mail.length ∧ s.length = sh + 8 + (Lib.decDigits q.time.toNat).length ∧ s.take (o - 1) = q.name ∧ (s.drop (o + 1)).take (sh - (o + 1)) = q.mail ∧
      (s.drop (sh + 2)).take (s.length - 6 - (sh + 2)) = Lib.decDigits q.time.toNat ∧ (s.drop (s.length - 4)).take 2 = two (zh q) ∧ s.drop (s.length - 2) = two (zm q) ∧ s[s.length - 5]? = some (zs q) := by
  obtain ⟨⟨n1, nb, _⟩, ⟨m1, mb, _⟩, _, _, _⟩ := hq
  obtain ⟨D, HD⟩ : ∃ D, D = Lib.decDigits q.time.toNat := ⟨_, rfl⟩
  have hp := perB_parts q
  rw [hs, ← HD] at hp
  rw [← HD]
  have e1 : o = q.name.length + 1 := by
    have h := first_at (a := q.name ++ [32]) (b := q.mail ++ ([62, 32] ++ (D ++ ([32, zs q] ++ (two (zh q) ++ two (zm q)))))) (c := 60) (by rw [hp]; simp) (by
      intro h
      rcases List.mem_append.1 h with h | h
      · exact (nb 60 h).1 rfl
      · simp at h) ho ho2
    simpa using h
  have e2 : sh = q.name.length + 2 + q.mail.length := by
    have hd : s.drop o = (60 :: q.mail) ++ 62 :: ([32] ++ (D ++ ([32, zs q] ++ (two (zh q) ++ two (zm q))))) := by
      rw [hp, show q.name ++ ([32, 60] ++ (q.mail ++ ([62, 32] ++ (D ++ ([32, zs q] ++ (two (zh q) ++ two (zm q))))))) = (q.name ++ [32]) ++ ((60 :: q.mail) ++ 62 :: ([32] ++ (D ++ ([32, zs q] ++ (two (zh q) ++ two (zm q)))))) from by simp]
      exact drop_at _ _ _ (by simp [e1])
    have hl : sh ≤ s.length := by
      rcases hsh2 with h | h
      · omega
      · exact Nat.le_of_lt (List.getElem?_eq_some_iff.1 h).1
    have h := first_at (o := sh - o) hd (by
      intro h
      rcases List.mem_cons.1 h with h | h
      · cases h
      · exact (mb 62 h).2.1 rfl) (by rw [← List.drop_take]; exact hsh) (by
      rcases hsh2 with h | h
      · left; rw [List.length_drop]; omega
      · right; rw [List.getElem?_drop, show o + (sh - o) = sh from by omega]; exact h)
    simp at h
    omega
  have hlen : s.length = sh + 8 + D.length := by rw [hp, e2]; simp [two_len]; omega
  refine ⟨e1, e2, hlen, ?_, ?_, ?_, ?_, ?_, ?_⟩
  · rw [hp]; exact take_at _ _ _ (by omega)
  · rw [hp, show q.name ++ ([32, 60] ++ (q.mail ++ ([62, 32] ++ (D ++ ([32, zs q] ++ (two (zh q) ++ two (zm q))))))) = (q.name ++ [32, 60]) ++ (q.mail ++ ([62, 32] ++ (D ++ ([32, zs q] ++ (two (zh q) ++ two (zm q)))))) from by simp, drop_at _ _ _ (by simp; omega)]
    exact take_at _ _ _ (by omega)
  · rw [show s.length - 6 - (sh + 2) = D.length from by omega, hp, show q.name ++ ([32, 60] ++ (q.mail ++ ([62, 32] ++ (D ++ ([32, zs q] ++ (two (zh q) ++ two (zm q))))))) = (q.name ++ ([32, 60] ++ (q.mail ++ [62, 32]))) ++ (D ++ ([32, zs q] ++ (two (zh q) ++ two (zm q)))) from by simp, drop_at _ _ _ (by simp; omega)]
    exact take_at _ _ _ rfl
  · rw [show s.length - 4 = (q.name ++ ([32, 60] ++ (q.mail ++ ([62, 32] ++ (D ++ [32, zs q]))))).length from by rw [hlen]; simp; omega, hp, show q.name ++ ([32, 60] ++ (q.mail ++ ([62, 32] ++ (D ++ ([32, zs q] ++ (two (zh q) ++ two (zm q))))))) = (q.name ++ ([32, 60] ++ (q.mail ++ ([62, 32] ++ (D ++ [32, zs q]))))) ++ (two (zh q) ++ two (zm q)) from by simp, drop_at _ _ _ rfl]
    exact take_at _ _ _ rfl
  · rw [show s.length - 2 = (q.name ++ ([32, 60] ++ (q.mail ++ ([62, 32] ++ (D ++ ([32, zs q] ++ two (zh q))))))).length from by rw [hlen]; simp [two_len]; omega, hp, show q.name ++ ([32, 60] ++ (q.mail ++ ([62, 32] ++ (D ++ ([32, zs q] ++ (two (zh q) ++ two (zm q))))))) = (q.name ++ ([32, 60] ++ (q.mail ++ ([62, 32] ++ (D ++ ([32, zs q] ++ two (zh q))))))) ++ two (zm q) from by simp]
    exact drop_at _ _ _ rfl
  · rw [show s.length - 5 = (q.name ++ ([32, 60] ++ (q.mail ++ ([62, 32] ++ (D ++ [32]))))).length from by rw [hlen]; simp; omega, hp, show q.name ++ ([32, 60] ++ (q.mail ++ ([62, 32] ++ (D ++ ([32, zs q] ++ (two (zh q) ++ two (zm q))))))) = (q.name ++ ([32, 60] ++ (q.mail ++ ([62, 32] ++ (D ++ [32]))))) ++ (zs q :: (two (zh q) ++ two (zm q))) from by simp, List.getElem?_append_right (Nat.le_refl _)]
    simp
end Go.Proofs.YtbpdielmdhhdfaaGreatDoor
namespace Go.Proofs.YtbpdielmdhhdfaaGreatDoor
set_option linter.unusedVariables false
set_option linter.unusedSimpArgs false
theorem ofNat_toNat48 (m : Nat) (h : m < 10) : (UInt8.ofNat (48 + m)).toNat = 48 + m := by rw [UInt8.toNat_ofNat']; omega
theorem dig_val (n : Nat) : valN (Lib.decDigits n) = n ∧ (∀ x ∈ Lib.decDigits n, digS x) ∧ 1 ≤ (Lib.decDigits n).length ∧ (1 ≤ n → (Lib.decDigits n)[0]? ≠ some 48) := by
  induction n using Nat.strongRecOn with
  | _ n ih =>
    by_cases h : n < 10
    · have e : Lib.decDigits n = [UInt8.ofNat (48 + n)] := by rw [Lib.decDigits, dif_pos h]
      have hx := ofNat_toNat48 n h
      rw [e]
      refine ⟨?_, ?_, by simp, ?_⟩
      · simp only [valN, List.foldl_cons, List.foldl_nil, hx]; omega
      · intro x hx2
        have : x = UInt8.ofNat (48 + n) := by simpa using hx2
        subst this
        unfold digS
        omega
      · intro h1 h2
        have h3 : UInt8.ofNat (48 + n) = 48 := by simpa using h2
        rw [h3] at hx
        have : (48 : UInt8).toNat = 48 := rfl
        omega
    · have e : Lib.decDigits n = Lib.decDigits (n / 10) ++ [UInt8.ofNat (48 + n % 10)] := by conv => lhs; rw [Lib.decDigits, dif_neg h]
      have hx := ofNat_toNat48 (n % 10) (by omega)
      obtain ⟨i1, i2, i3, i4⟩ := ih (n / 10) (by omega)
      rw [e]
      refine ⟨?_, ?_, by simp, ?_⟩
      · rw [valN_snoc, i1, hx]; omega
      · intro x hx2
        rcases List.mem_append.1 hx2 with h2 | h2
        · exact i2 x h2
        · have : x = UInt8.ofNat (48 + n % 10) := by simpa using h2
          subst this
          unfold digS
          omega
      · intro _
        rw [List.getElem?_append_left (by omega)]
        exact i4 (by omega)
theorem num_dig {t : Nat} (ht : t ≤ 1099511627776) {v : Int} (h : NuP (Lib.decDigits t) v) : v = t := by
  obtain ⟨d1, d2, d3, d4⟩ := dig_val t
  have hl := dig_len40 t ht
  rcases h with ⟨_, h⟩ | ⟨h, _⟩
  · rw [h, d1]
  · refine absurd ⟨d3, by omega, ?_, d2⟩ h
    rintro ⟨h1, h2⟩
    refine d4 ?_ h2
    rcases Nat.eq_zero_or_pos t with rfl | h3
    · rw [show Lib.decDigits 0 = [48] from by rw [Lib.decDigits]; rfl] at h1
      simp at h1
    · exact h3
theorem num_two {k : Nat} (hk : k < 100) {v : Int} (h : NuP (49 :: two k) v) : v = 100 + k := by
  have h1 := ofNat_toNat48 (k / 10) (by omega)
  have h2 := ofNat_toNat48 (k % 10) (by omega)
  have e : valN (49 :: two k) = 100 + k := by
    simp only [valN, two, List.foldl_cons, List.foldl_nil, h1, h2]
    have : (49 : UInt8).toNat = 49 := rfl
    rw [this]
    omega
  rcases h with ⟨_, h⟩ | ⟨h, _⟩
  · rw [h, e]; omega
  · refine absurd ⟨by simp, by simp [two], ?_, ?_⟩ h
    · rintro ⟨_, h3⟩
      simp at h3
    · intro x hx
      simp only [two, List.mem_cons, List.not_mem_nil, or_false] at hx
      unfold digS
      rcases hx with rfl | rfl | rfl
      · decide
      · omega
      · omega
theorem num_three {l : List UInt8} (hl : l.length = 3) {v : Int} (h : NuP l v) : v = -1 ∨ (0 ≤ v ∧ v < 1000) := by
  rcases h with ⟨hg, rfl⟩ | ⟨_, h⟩
  · right
    have h1 := valN_lt l 3 (by omega) (fun x hx => hg.2.2.2 x (List.mem_of_mem_take hx))
    rw [List.take_of_length_le (by omega)] at h1
    omega
  · exact .inl h
theorem per_back (q : Per) (hq : okP q) (z : Int) (hz : z = ((100 + (zh q : Int)) - 100) * 60 + (100 + (zm q : Int)) - 100) (p : Per) (h1 : p.name = q.name) (h2 : p.mail = q.mail) (h3 : p.time = (q.time.toNat : Int)) (h4 : zs q = 45 → p.zone = -z) (h5 : zs q ≠ 45 → p.zone = z) : p = q := by
  have k1 : q.zone < 0 → p.zone = -z := fun h => h4 (by unfold zs; rw [if_pos h])
  have k2 : ¬ q.zone < 0 → p.zone = z := fun h => h5 (by unfold zs; rw [if_neg h]; decide)
  clear h4 h5
  unfold zh zm at hz
  obtain ⟨nm, ml, tm, zn⟩ := q
  obtain ⟨a, b, c, d⟩ := p
  obtain ⟨_, _, ⟨t1, t2⟩, z1, z2⟩ := hq
  simp only at h1 h2 h3 hz k1 k2 t1 t2 z1 z2
  subst h1
  subst h2
  have e3 : c = tm := by omega
  have e4 : d = zn := by
    by_cases hn : zn < 0
    · rw [k1 hn]; omega
    · rw [k2 hn]; omega
  rw [e3, e4]
end Go.Proofs.YtbpdielmdhhdfaaGreatDoor
