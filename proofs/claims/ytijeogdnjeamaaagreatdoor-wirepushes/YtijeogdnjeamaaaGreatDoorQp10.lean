import Derived.Test.YtijeogdnjeamaaaGreatDoorQp09
import Derived.Test.YtijeogdnjeamaaaGreatDoorQp08
import Derived.Shelf.Strconv.Itoa3
import Derived.Shelf.Pu.ParseUintPublic10
import Derived.Test.YtijeogdnjeamaaaGreatDoorProg
namespace Go.Proofs.YtijeogdnjeamaaaGreatDoor.Nm
open Go.RowKit
set_option linter.unusedVariables false
set_option linter.unusedSimpArgs false
def pv (s : List UInt8) (i : Nat) : Option UInt8 := if i = 0 then none else s[i - 1]?
def Dw (s : List UInt8) (f i : Nat) : Prop := f ≤ i ∧ dgo [] none s = dgo (cur s f i) (pv s i) (s.drop i)
set_option maxRecDepth 100000 in
set_option maxHeartbeats 4000000 in
theorem refName_any (s : List UInt8) (hs : s.length ≤ 100000) (w : World) :
    Calls Tryz.prog 32 #[.string ⟨s.toArray⟩] w fun e w' => e = .returned (.bool (isN s)) ∧ Below w.heap.size w w' := by
  have HB : Hid (Below w.heap.size w w) := Below.refl _ _
  by_cases hh : s = [72, 69, 65, 68]
  · subst hh
    go_enter Tryz.func32, Tryz.ntmps32
    go_wp2
    go_ret
    exact ⟨rfl, HB.out⟩
  · obtain ⟨S, HS⟩ : ∃ S : ByteArray, Hid (⟨s.toArray⟩ = S) := ⟨_, rfl⟩
    obtain ⟨n, HN⟩ : ∃ n, Hid (s.length = n) := ⟨_, rfl⟩
    have hsz : S.size = n := by rw [← HS.out, txt_len]; exact HN.out
    have he : (S.toList == [72, 69, 65, 68]) = false := by rw [← HS.out, Lib.toList_data]; simpa using hh
    have HR : Hid (isN s = docOk s) := hid (by
      unfold isN
      rw [show (s == [72, 69, 65, 68]) = false by simpa using hh]
      rfl)
    rw [HS.out, HR.out]
    clear hh
    by_cases h60 : n ≤ 60
    rotate_left
    · have h60i : (60 : Int) < (n : Int) := by omega
      have HF : Hid (docOk s = false) := hid (by unfold docOk; rw [HN.out, decide_eq_false h60]; rfl)
      rw [HF.out]
      go_enter Tryz.func32, Tryz.ntmps32
      go_wp2
      go_ret
      exact ⟨rfl, HB.out⟩
    have h60i : ¬ (60 : Int) < (n : Int) := by omega
    by_cases h6 : 6 ≤ n
    rotate_left
    · have h6i : (n : Int) < 6 := by omega
      have HF : Hid (docOk s = false) := hid (by unfold docOk; rw [HN.out, decide_eq_false h6]; simp)
      rw [HF.out]
      go_enter Tryz.func32, Tryz.ntmps32
      go_wp2
      go_ret
      exact ⟨rfl, HB.out⟩
    have h6i : ¬ (n : Int) < 6 := by omega
    obtain ⟨T, HT⟩ : ∃ T : ByteArray, Hid (⟨(s.take 5).toArray⟩ = T) := ⟨_, rfl⟩
    have hsl : ∀ w : World, (Instr.slice 9 (.string S) none (some (.int .i64 5)) none).run Tryz.prog w = .ok (.string T) w := fun w => by
      rw [← HS.out, ← HT.out]; exact slc_to s 5 (by rw [HN.out]; omega) w
    have HTL : Hid (T.toList = s.take 5) := hid (by rw [← HT.out, Lib.toList_data])
    by_cases hr : s.take 5 = [114, 101, 102, 115, 47]
    rotate_left
    · have hrb : (T.toList == [114, 101, 102, 115, 47]) = false := by rw [HTL.out]; simpa using hr
      have HF : Hid (docOk s = false) := hid (by unfold docOk; rw [show (s.take 5 == [114, 101, 102, 115, 47]) = false by simpa using hr]; simp)
      rw [HF.out]
      clear hr
      go_enter Tryz.func32, Tryz.ntmps32
      go_wp2
      go_ret
      exact ⟨rfl, HB.out⟩
    have hrb : (T.toList == [114, 101, 102, 115, 47]) = true := by rw [HTL.out]; simpa using hr
    obtain ⟨z, hz⟩ : ∃ z, s[n - 1]? = some z := ⟨_, List.getElem?_eq_getElem (by rw [HN.out]; omega)⟩
    obtain ⟨zc, HZC⟩ : ∃ c : Int, Hid ((z.toNat : Int) = c) := ⟨_, rfl⟩
    have hixz : ∀ w : World, (Instr.index 9 (.string S) (.int .i64 ((n : Int) - 1))).run Tryz.prog w = .ok (.int .u8 zc) w := fun w => by
      rw [← HS.out, ← HZC.out, show ((n : Int) - 1) = ((n - 1 : Nat) : Int) by omega]; exact idx_txt s (n - 1) w z hz
    have HSF : Hid (Lib.hasSuffix s [46] = (z == 46)) := hid (suf_dot s z (by rw [HN.out]; exact hz))
    have HZ : Hid (zc = 46 ↔ z = 46) := hid (by rw [← HZC.out]; exact byte_num z 46 (by decide))
    by_cases hzd : zc = 46
    · have HF : Hid (docOk s = false) := hid (by unfold docOk; rw [HSF.out, HZ.out.1 hzd]; simp)
      rw [HF.out]
      subst hzd
      clear hr
      go_enter Tryz.func32, Tryz.ntmps32
      go_wp2
      go_ret
      exact ⟨rfl, HB.out⟩
    have hzb : (zc == 46) = false := by simpa using hzd
    obtain ⟨r, HRR⟩ : ∃ r, Hid (dgo [] none s = r) := ⟨_, rfl⟩
    have HF : Hid (docOk s = r) := hid (by
      unfold docOk
      rw [HN.out, decide_eq_true h60, decide_eq_true h6, hr, HSF.out, show (z == 46) = false by simpa using fun e => hzd (HZ.out.2 e), HRR.out]
      simp)
    rw [HF.out]
    have HD0 : Hid (Dw s 0 0) := ⟨Nat.le_refl _, by simp [cur, pv]⟩
    clear hr hz hzd
    go_enter Tryz.func32, Tryz.ntmps32
    go_wp2
    go_loopg [4, 5] (n + 1) (fun g vf vi wr => ∃ f i : Nat, g = n + 1 - i ∧ vf = .int .i64 f ∧ vi = .int .i64 i ∧ i ≤ n + 1 ∧ f ≤ i ∧ Hid (wr = w) ∧ Hid ((i ≤ n ∧ Dw s f i) ∨ (i = n + 1 ∧ r = true)))
    case atStart => exact ⟨0, 0, rfl, rfl, rfl, by omega, by omega, hid rfl, hid (.inl ⟨by omega, HD0.out⟩)⟩
    case round =>
      obtain ⟨f, i, hg, rfl, rfl, hi, hfi0, HW, HI⟩ := hrel
      have hww := HW.out
      subst hww
      clear HW
      by_cases hin : i ≤ n
      rotate_left
      · have hini : ¬ (i : Int) ≤ (n : Int) := by omega
        have HRT : Hid (r = true) := hid (by
          rcases HI.out with h | h
          · exact absurd h.1 hin
          · exact h.2)
        go_wp2
        go_ret
        exact ⟨by rw [HRT.out]; rfl, HB.out⟩
      have hini : (i : Int) ≤ (n : Int) := by omega
      have HDW : Hid (Dw s f i) := hid (by
        rcases HI.out with h | h
        · exact h.2
        · exact absurd h.1 (by omega))
      clear HI
      by_cases hie : i = n
      · subst hie
        have HRP : Hid (r = partOk (cur s f i)) := hid (by
          rw [← HRR.out, HDW.out.2, List.drop_eq_nil_of_le (by rw [HN.out]; omega)]
          rfl)
        have HPB : Hid (partOk (cur s f i) = false → r = false) := fun h => by rw [HRP.out, h]
        by_cases hfi : f = i
        · have HRF : Hid (r = false) := hid (HPB.out (by rw [hfi]; exact part_none s i))
          have k0 : ((i : Int) - (f : Int) == 0) = true := by rw [hfi]; simp
          go_wp2
          go_ret
          exact ⟨by rw [HRF.out]; rfl, HB.out⟩
        have hfl : f < i := by omega
        have k0 : ((i : Int) - (f : Int) == 0) = false := by simp; omega
        have k0' : ¬ ((i : Int) - (f : Int) = 0) := by omega
        obtain ⟨x, hx⟩ : ∃ x, s[f]? = some x := ⟨_, List.getElem?_eq_getElem (by rw [HN.out]; omega)⟩
        have HX : Hid (partOk (cur s f i) = (!(x == 46) && !Lib.hasSuffix (cur s f i) lockW)) := hid (part_some s f i hfl (by rw [HN.out]; omega) x hx)
        obtain ⟨xc, HXC⟩ : ∃ c : Int, Hid ((x.toNat : Int) = c) := ⟨_, rfl⟩
        have hixf : ∀ w : World, (Instr.index 9 (.string S) (.int .i64 f)).run Tryz.prog w = .ok (.int .u8 xc) w := fun w => by rw [← HS.out, ← HXC.out]; exact idx_txt s f w x hx
        have HXD : Hid (xc = 46 ↔ x = 46) := hid (by rw [← HXC.out]; exact byte_num x 46 (by decide))
        clear hx
        by_cases hxd : xc = 46
        · have HRF : Hid (r = false) := hid (HPB.out (by rw [HX.out, HXD.out.1 hxd]; rfl))
          subst hxd
          go_wp2
          go_ret
          exact ⟨by rw [HRF.out]; rfl, HB.out⟩
        have hxb : (xc == 46) = false := by simpa using hxd
        have HX2 : Hid (partOk (cur s f i) = !Lib.hasSuffix (cur s f i) lockW) := hid (by rw [HX.out, show (x == 46) = false by simpa using fun e => hxd (HXD.out.2 e)]; rfl)
        clear hxd
        by_cases hk5 : f + 5 ≤ i
        rotate_left
        · have k5 : ¬ (5 : Int) ≤ (i : Int) - (f : Int) := by omega
          have HPG : Hid (partOk (cur s f i) = true) := hid (by rw [HX2.out, part_short s f i (by omega) (by omega) (by rw [HN.out]; omega)]; rfl)
          go_wp2
          go_roundg (i + 1 - (i + 1))
          case measure => omega
          case rel => exact ⟨i + 1, i + 1, rfl, by go_num, by go_num, by omega, by omega, hid rfl, hid (.inr ⟨by omega, by rw [HRP.out, HPG.out]⟩)⟩
        have k5 : (5 : Int) ≤ (i : Int) - (f : Int) := by omega
        obtain ⟨T5, HT5⟩ : ∃ T : ByteArray, Hid (⟨((s.drop (i - 5)).take 5).toArray⟩ = T) := ⟨_, rfl⟩
        have hsl5 : ∀ w : World, (Instr.slice 9 (.string S) (some (.int .i64 ((i : Int) - 5))) (some (.int .i64 i)) none).run Tryz.prog w = .ok (.string T5) w := fun w => by
          have h := slc_mid s (i - 5) i (by omega) (by rw [HN.out]; omega) w
          rw [show i - (i - 5) = 5 by omega, HT5.out, HS.out, show (((i - 5 : Nat)) : Int) = (i : Int) - 5 by omega] at h
          exact h
        have HTL5 : Hid (T5.toList = (s.drop (i - 5)).take 5) := hid (by rw [← HT5.out, Lib.toList_data])
        have HX3 : Hid (partOk (cur s f i) = !((s.drop (i - 5)).take 5 == lockW)) := hid (by rw [HX2.out, part_lock s f i hk5 (by rw [HN.out]; omega)])
        by_cases hlk : (s.drop (i - 5)).take 5 = lockW
        · have htb : (T5.toList == [46, 108, 111, 99, 107]) = true := by rw [HTL5.out, hlk]; rfl
          have HRF : Hid (r = false) := hid (HPB.out (by rw [HX3.out, hlk]; rfl))
          clear hlk
          go_wp2
          go_ret
          exact ⟨by rw [HRF.out]; rfl, HB.out⟩
        · have htb : (T5.toList == [46, 108, 111, 99, 107]) = false := by rw [HTL5.out]; simpa [lockW] using hlk
          have HPG : Hid (partOk (cur s f i) = true) := hid (by rw [HX3.out, show ((s.drop (i - 5)).take 5 == lockW) = false by simpa using hlk]; rfl)
          clear hlk
          go_wp2
          go_roundg (i + 1 - (i + 1))
          case measure => omega
          case rel => exact ⟨i + 1, i + 1, rfl, by go_num, by go_num, by omega, by omega, hid rfl, hid (.inr ⟨by omega, by rw [HRP.out, HPG.out]⟩)⟩
      have hieb : ((i : Int) == (n : Int)) = false := by simp; omega
      have hlt : i < n := by omega
      obtain ⟨y, hy⟩ : ∃ y, s[i]? = some y := ⟨_, List.getElem?_eq_getElem (by rw [HN.out]; exact hlt)⟩
      have HY : Hid (s[i]? = some y) := hy
      obtain ⟨c, HC⟩ : ∃ c : Int, Hid ((y.toNat : Int) = c) := ⟨_, rfl⟩
      have hixi : ∀ w : World, (Instr.index 9 (.string S) (.int .i64 i)).run Tryz.prog w = .ok (.int .u8 c) w := fun w => by rw [← HS.out, ← HC.out]; exact idx_txt s i w y hy
      have HDR : Hid (s.drop i = y :: s.drop (i + 1)) := hid (by
        obtain ⟨h1, h2⟩ := List.getElem?_eq_some_iff.1 HY.out
        rw [List.drop_eq_getElem_cons h1, h2])
      have HC47 : Hid (c = 47 ↔ y = 47) := hid (by rw [← HC.out]; exact byte_num y 47 (by decide))
      have HPV : Hid (pv s (i + 1) = some y) := hid (by unfold pv; rw [if_neg (by omega), Nat.add_sub_cancel]; exact HY.out)
      clear hy
      by_cases h47 : c = 47
      · have hy47 := HC47.out.1 h47
        have HRP : Hid (r = (partOk (cur s f i) && dgo [] (some 47) (s.drop (i + 1)))) := hid (by
          rw [← HRR.out, HDW.out.2, HDR.out, hy47, dgo, if_pos rfl])
        have HPB : Hid (partOk (cur s f i) = false → r = false) := fun h => by rw [HRP.out, h]; rfl
        have HPV7 : Hid (pv s (i + 1) = some 47) := hid (by rw [HPV.out, hy47])
        subst h47
        clear hy47
        by_cases hfi : f = i
        · have HRF : Hid (r = false) := hid (HPB.out (by rw [hfi]; exact part_none s i))
          have k0 : ((i : Int) - (f : Int) == 0) = true := by rw [hfi]; simp
          go_wp2
          go_ret
          exact ⟨by rw [HRF.out]; rfl, HB.out⟩
        have hfl : f < i := by omega
        have k0 : ((i : Int) - (f : Int) == 0) = false := by simp; omega
        have k0' : ¬ ((i : Int) - (f : Int) = 0) := by omega
        obtain ⟨x, hx⟩ : ∃ x, s[f]? = some x := ⟨_, List.getElem?_eq_getElem (by rw [HN.out]; omega)⟩
        have HX : Hid (partOk (cur s f i) = (!(x == 46) && !Lib.hasSuffix (cur s f i) lockW)) := hid (part_some s f i hfl (by rw [HN.out]; omega) x hx)
        obtain ⟨xc, HXC⟩ : ∃ c : Int, Hid ((x.toNat : Int) = c) := ⟨_, rfl⟩
        have hixf : ∀ w : World, (Instr.index 9 (.string S) (.int .i64 f)).run Tryz.prog w = .ok (.int .u8 xc) w := fun w => by rw [← HS.out, ← HXC.out]; exact idx_txt s f w x hx
        have HXD : Hid (xc = 46 ↔ x = 46) := hid (by rw [← HXC.out]; exact byte_num x 46 (by decide))
        clear hx
        by_cases hxd : xc = 46
        · have HRF : Hid (r = false) := hid (HPB.out (by rw [HX.out, HXD.out.1 hxd]; rfl))
          subst hxd
          go_wp2
          go_ret
          exact ⟨by rw [HRF.out]; rfl, HB.out⟩
        have hxb : (xc == 46) = false := by simpa using hxd
        have HX2 : Hid (partOk (cur s f i) = !Lib.hasSuffix (cur s f i) lockW) := hid (by rw [HX.out, show (x == 46) = false by simpa using fun e => hxd (HXD.out.2 e)]; rfl)
        clear hxd
        by_cases hk5 : f + 5 ≤ i
        rotate_left
        · have k5 : ¬ (5 : Int) ≤ (i : Int) - (f : Int) := by omega
          have HPG : Hid (partOk (cur s f i) = true) := hid (by rw [HX2.out, part_short s f i (by omega) (by omega) (by rw [HN.out]; omega)]; rfl)
          go_wp2
          go_roundg (n + 1 - (i + 1))
          case measure => omega
          case rel => exact ⟨i + 1, i + 1, rfl, by go_num, by go_num, by omega, by omega, hid rfl, hid (.inl ⟨by omega, Nat.le_refl _, by rw [HRR.out, HRP.out, HPG.out, HPV7.out, show cur s (i + 1) (i + 1) = [] by simp [cur]]; rfl⟩)⟩
        have k5 : (5 : Int) ≤ (i : Int) - (f : Int) := by omega
        obtain ⟨T5, HT5⟩ : ∃ T : ByteArray, Hid (⟨((s.drop (i - 5)).take 5).toArray⟩ = T) := ⟨_, rfl⟩
        have hsl5 : ∀ w : World, (Instr.slice 9 (.string S) (some (.int .i64 ((i : Int) - 5))) (some (.int .i64 i)) none).run Tryz.prog w = .ok (.string T5) w := fun w => by
          have h := slc_mid s (i - 5) i (by omega) (by rw [HN.out]; omega) w
          rw [show i - (i - 5) = 5 by omega, HT5.out, HS.out, show (((i - 5 : Nat)) : Int) = (i : Int) - 5 by omega] at h
          exact h
        have HTL5 : Hid (T5.toList = (s.drop (i - 5)).take 5) := hid (by rw [← HT5.out, Lib.toList_data])
        have HX3 : Hid (partOk (cur s f i) = !((s.drop (i - 5)).take 5 == lockW)) := hid (by rw [HX2.out, part_lock s f i hk5 (by rw [HN.out]; omega)])
        by_cases hlk : (s.drop (i - 5)).take 5 = lockW
        · have htb : (T5.toList == [46, 108, 111, 99, 107]) = true := by rw [HTL5.out, hlk]; rfl
          have HRF : Hid (r = false) := hid (HPB.out (by rw [HX3.out, hlk]; rfl))
          clear hlk
          go_wp2
          go_ret
          exact ⟨by rw [HRF.out]; rfl, HB.out⟩
        · have htb : (T5.toList == [46, 108, 111, 99, 107]) = false := by rw [HTL5.out]; simpa [lockW] using hlk
          have HPG : Hid (partOk (cur s f i) = true) := hid (by rw [HX3.out, show ((s.drop (i - 5)).take 5 == lockW) = false by simpa using hlk]; rfl)
          clear hlk
          go_wp2
          go_roundg (n + 1 - (i + 1))
          case measure => omega
          case rel => exact ⟨i + 1, i + 1, rfl, by go_num, by go_num, by omega, by omega, hid rfl, hid (.inl ⟨by omega, Nat.le_refl _, by rw [HRR.out, HRP.out, HPG.out, HPV7.out, show cur s (i + 1) (i + 1) = [] by simp [cur]]; rfl⟩)⟩
      have h47b : (c == 47) = false := by simpa using h47
      have HRP : Hid (r = (byteOk y && !(y == 46 && pv s i == some 46) && !(y == 123 && pv s i == some 64) && dgo (cur s f (i + 1)) (pv s (i + 1)) (s.drop (i + 1)))) := hid (by
        rw [← HRR.out, HDW.out.2, HDR.out, dgo, if_neg (fun e => h47 (HC47.out.2 e)), cur_snoc s f i hfi0 y HY.out, HPV.out])
      clear h47
      by_cases hb : byteOk y = true
      rotate_left
      · have hb' : byteOk y = false := by simpa using hb
        have HRF : Hid (r = false) := hid (by rw [HRP.out, hb']; rfl)
        have hcs := bad_byte y c HC.out hb'
        clear hb hb'
        rcases hcs with h | h | rfl | rfl | rfl | rfl | rfl | rfl | rfl
        · go_wp2
          go_ret
          exact ⟨by rw [HRF.out]; rfl, HB.out⟩
        · have h33 : ¬ c < 33 := by omega
          go_wp2
          go_ret
          exact ⟨by rw [HRF.out]; rfl, HB.out⟩
        all_goals
          go_wp2
          go_ret
          exact ⟨by rw [HRF.out]; rfl, HB.out⟩
      obtain ⟨g1, g2, g3, g4, g5, g6, g7, g8, g9⟩ := good_byte y c HC.out hb
      have f1 : ¬ c < 33 := by omega
      have f2 : ¬ 126 < c := by omega
      have f3 : (c == 126) = false := by simpa using g3
      have f4 : (c == 94) = false := by simpa using g4
      have f5 : (c == 58) = false := by simpa using g5
      have f6 : (c == 63) = false := by simpa using g6
      have f7 : (c == 42) = false := by simpa using g7
      have f8 : (c == 91) = false := by simpa using g8
      have f9 : (c == 92) = false := by simpa using g9
      have HR2 : Hid (r = (!(y == 46 && pv s i == some 46) && !(y == 123 && pv s i == some 64) && dgo (cur s f (i + 1)) (pv s (i + 1)) (s.drop (i + 1)))) := hid (by rw [HRP.out, hb]; rfl)
      clear hb g3 g4 g5 g6 g7 g8 g9 HRP
      have HC46 : Hid (c = 46 ↔ y = 46) := hid (by rw [← HC.out]; exact byte_num y 46 (by decide))
      have HC123 : Hid (c = 123 ↔ y = 123) := hid (by rw [← HC.out]; exact byte_num y 123 (by decide))
      have HNX : Hid ((y == 46 && pv s i == some 46) = false → (y == 123 && pv s i == some 64) = false → Dw s f (i + 1)) := fun h1 h2 => ⟨by omega, by rw [HRR.out, HR2.out, h1, h2]; rfl⟩
      by_cases hi0 : i = 0
      · have hp0 : pv s i = none := by unfold pv; rw [if_pos hi0]
        have HGO : Hid (Dw s f (i + 1)) := hid (HNX.out (by rw [hp0]; simp) (by rw [hp0]; simp))
        have hf0 : f = 0 := by omega
        subst hf0
        subst hi0
        have hz0 : ((0 : Int) == (n : Int)) = false := by simp; omega
        have hix0 : ∀ w : World, (Instr.index 9 (.string S) (.int .i64 0)).run Tryz.prog w = .ok (.int .u8 c) w := hixi
        clear hp0 hixi hieb hini hfi0 hi hin
        go_wp2
        go_roundg (n + 1 - 1)
        case measure => omega
        case rel => exact ⟨0, 1, rfl, rfl, by go_num, by omega, by omega, hid rfl, hid (.inl ⟨by omega, HGO.out⟩)⟩
      have hi0i : (0 : Int) < (i : Int) := by omega
      obtain ⟨u, hu⟩ : ∃ u, s[i - 1]? = some u := ⟨_, List.getElem?_eq_getElem (by rw [HN.out]; omega)⟩
      have HPU : Hid (pv s i = some u) := hid (by unfold pv; rw [if_neg hi0]; exact hu)
      obtain ⟨uc, HUC⟩ : ∃ c : Int, Hid ((u.toNat : Int) = c) := ⟨_, rfl⟩
      have hixu : ∀ w : World, (Instr.index 9 (.string S) (.int .i64 ((i : Int) - 1))).run Tryz.prog w = .ok (.int .u8 uc) w := fun w => by
        rw [← HS.out, ← HUC.out, show ((i : Int) - 1) = ((i - 1 : Nat) : Int) by omega]; exact idx_txt s (i - 1) w u hu
      have HU46 : Hid (uc = 46 ↔ u = 46) := hid (by rw [← HUC.out]; exact byte_num u 46 (by decide))
      have HU64 : Hid (uc = 64 ↔ u = 64) := hid (by rw [← HUC.out]; exact byte_num u 64 (by decide))
      clear hu
      by_cases h46 : c = 46
      · by_cases hu46 : uc = 46
        · have HRF : Hid (r = false) := hid (by rw [HR2.out, HPU.out, HC46.out.1 h46, HU46.out.1 hu46]; rfl)
          subst h46
          subst hu46
          go_wp2
          go_ret
          exact ⟨by rw [HRF.out]; rfl, HB.out⟩
        · have HGO : Hid (Dw s f (i + 1)) := hid (HNX.out (by rw [HPU.out]; simp; exact fun _ e => hu46 (HU46.out.2 e)) (by rw [HC46.out.1 h46]; rfl))
          have hub : (uc == 46) = false := by simpa using hu46
          subst h46
          clear hu46
          go_wp2
          go_roundg (n + 1 - (i + 1))
          case measure => omega
          case rel => exact ⟨f, i + 1, rfl, rfl, by go_num, by omega, by omega, hid rfl, hid (.inl ⟨by omega, HGO.out⟩)⟩
      have h46b : (c == 46) = false := by simpa using h46
      by_cases h123 : c = 123
      · by_cases hu64 : uc = 64
        · have HRF : Hid (r = false) := hid (by rw [HR2.out, HPU.out, HC123.out.1 h123, HU64.out.1 hu64]; rfl)
          subst h123
          subst hu64
          clear h46
          go_wp2
          go_ret
          exact ⟨by rw [HRF.out]; rfl, HB.out⟩
        · have HGO : Hid (Dw s f (i + 1)) := hid (HNX.out (by rw [HC123.out.1 h123]; rfl) (by rw [HPU.out]; simp; exact fun _ e => hu64 (HU64.out.2 e)))
          have hub : (uc == 64) = false := by simpa using hu64
          subst h123
          clear hu64 h46
          go_wp2
          go_roundg (n + 1 - (i + 1))
          case measure => omega
          case rel => exact ⟨f, i + 1, rfl, rfl, by go_num, by omega, by omega, hid rfl, hid (.inl ⟨by omega, HGO.out⟩)⟩
      have h123b : (c == 123) = false := by simpa using h123
      have HGO : Hid (Dw s f (i + 1)) := hid (HNX.out (by simp; exact fun e => absurd (HC46.out.2 e) h46) (by simp; exact fun e => absurd (HC123.out.2 e) h123))
      clear h46 h123
      go_wp2
      go_roundg (n + 1 - (i + 1))
      case measure => omega
      case rel => exact ⟨f, i + 1, rfl, rfl, by go_num, by omega, by omega, hid rfl, hid (.inl ⟨by omega, HGO.out⟩)⟩
end Go.Proofs.YtijeogdnjeamaaaGreatDoor.Nm
namespace Go.Proofs.YtijeogdnjeamaaaGreatDoor
open Go.RowKit
set_option linter.unusedVariables false
set_option linter.unusedSimpArgs false
theorem keyed9s : Maps.Keyed Tryz.prog 9 := Maps.string_keyed Tryz.underlying9
theorem key_txt (x : Str) (h : x.length ≤ 4000) : keyOf Tryz.prog 9 (sV x) = some (.string x) := by
  have h2 : (⟨x.toArray⟩ : ByteArray).size ≤ maxLen := by simp [ByteArray.size, maxLen]; omega
  unfold keyOf sV
  rw [Tryz.underlying9]
  simp [mapKey, Tryz.underlying9, h2]
theorem key_eqs {x y : Str} {kl : Lit} (h1 : keyOf Tryz.prog 9 (sV x) = some kl) (h2 : keyOf Tryz.prog 9 (sV y) = some kl) : x = y := txt_inj (keyed9s.inj h1 h2)
theorem und189 : Tryz.prog.underlying 189 = some (.map 9 185) := by kernel_rfl
def SS (w : World) (g n : Nat) (S : Str → Prop) : Prop := ∃ D, w.ownsMap (H := Unit) Tryz.prog 9 unitElem g n D ∧ ∀ x kl, keyOf Tryz.prog 9 (sV x) = some kl → (Maps.has D kl = true ↔ S x)
theorem SS.kept {w w' : World} {g n : Nat} {S : Str → Prop} {row : Option Nat} (h : SS w g n S) (hg : w.grownBy w' row) (hne : some g ≠ row) : SS w' g n S := by
  obtain ⟨D, h1, h2⟩ := h
  exact ⟨D, h1.kept hg hne, h2⟩
theorem SS.below {w w' : World} {g n : Nat} {S : Str → Prop} (h : SS w g n S) (hb : Below w.heap.size w w') : SS w' g n S := h.kept (row := none) (grown_of_below hb _) (by simp)
theorem SS.lt {w : World} {g n : Nat} {S : Str → Prop} (h : SS w g n S) : g < w.heap.size := by obtain ⟨D, h1, _⟩ := h; exact h1.lt
theorem ss_made (w : World) : SS (w.alloc (.map #[] 0)) w.heap.size 0 (fun _ => False) := ⟨_, World.ownsMap_made _ _ _ _, fun x kl _ => by simp [Maps.has]⟩
theorem SS.look {w : World} {g n : Nat} {S : Str → Prop} (h : SS w g n S) {x : Str} (hx : x.length ≤ 4000) : ∃ b : Bool, (b = true ↔ S x) ∧ (Instr.lookup 189 (.map (some g)) (sV x) true).run Tryz.prog w = .ok (.tuple #[.agg #[], .bool b]) w := by
  obtain ⟨D, h1, h2⟩ := h
  have hkl := key_txt x hx
  obtain ⟨v, ps, hrun, hv⟩ := h1.look_ok keyed9s und189 (zero185 w) (unitElem_mk (H := Unit)) hkl
  obtain ⟨rfl, _⟩ := unitElem_inv hv
  exact ⟨_, h2 x _ hkl, hrun⟩
theorem SS.put {w : World} {g n : Nat} {S : Str → Prop} (h : SS w g n S) (hn : n ≤ 100000) {x : Str} (hx : x.length ≤ 4000) : ∃ w', (Instr.mapUpdate 189 (.map (some g)) (sV x) (.agg #[])).run Tryz.prog w = .ok () w' ∧ SS w' g (n + 1) (fun y => y = x ∨ S y) ∧ w.grownBy w' (some g) := by
  obtain ⟨D, h1, h2⟩ := h
  have hkl := key_txt x hx
  obtain ⟨w', hrun, h3, h4⟩ := h1.update keyed9s und189 (by unfold maxLen; omega) hkl (unitElem_mk (H := Unit))
  refine ⟨w', hrun, ⟨_, h3, fun y ky hky => ?_⟩, h4⟩
  by_cases e : ky = .string x
  · subst e
    rw [Maps.has_put_same h1.isMap (keyed9s.key hkl)]
    simp [key_eqs hky hkl]
  · rw [Maps.has_put_other e, h2 y ky hky]
    constructor
    · exact .inr
    · rintro (rfl | h)
      · rw [hkl] at hky; exact absurd (Option.some.inj hky).symm e
      · exact h
theorem SS.congr {w : World} {g n : Nat} {S S' : Str → Prop} (h : SS w g n S) (he : ∀ y, S y ↔ S' y) : SS w g n S' := by
  obtain ⟨D, h1, h2⟩ := h
  exact ⟨D, h1, fun x kl hk => (h2 x kl hk).trans (he x)⟩
theorem isN_long {s : Str} (h : 60 < s.length) : Nm.isN s = false := by
  unfold Nm.isN Nm.docOk
  have h1 : (s == [72, 69, 65, 68]) = false := by
    simp
    intro e
    rw [e] at h
    simp at h
  rw [h1, decide_eq_false (by omega)]
  simp
theorem isN_len {s : Str} (h : Nm.isN s = true) : s.length ≤ 60 := by
  rcases Nat.lt_or_ge 60 s.length with h1 | h1
  · rw [isN_long h1] at h
    cases h
  · exact h1
theorem isN_bytes {s : Str} (h : Nm.isN s = true) (c : UInt8) (hc : c.toNat < 33) : c ∉ s := by
  intro hm
  by_cases hh : s = [72, 69, 65, 68]
  · subst hh
    simp at hm
    rcases hm with rfl | rfl | rfl | rfl <;> revert hc <;> decide
  · rw [Nm.isN_not hh] at h
    unfold Nm.prgOk at h
    simp only [Bool.and_eq_true] at h
    have h1 := List.all_eq_true.1 h.1.1.1.2 c hm
    unfold Nm.byteOk at h1
    simp only [Bool.and_eq_true, decide_eq_true_eq] at h1
    omega
set_option maxRecDepth 20000 in
theorem isName2 (s : Str) (hs : s.length ≤ 1000000000000000) (w : World) (hm : Nm.Mx w) : Calls Tryz.prog 29 #[.string ⟨s.toArray⟩] w fun e w' => e = .returned (.bool (Nm.isN s)) ∧ Below w.heap.size w w' := by
  by_cases h : s.length ≤ 60
  · exact Nm.isName_any s (by omega) w hm
  · rw [isN_long (by omega)]
    obtain ⟨S, HS⟩ : ∃ S : ByteArray, Hid (⟨s.toArray⟩ = S) := ⟨_, hid rfl⟩
    obtain ⟨n, HN⟩ : ∃ n, Hid (s.length = n) := ⟨_, rfl⟩
    have hsz : S.size = n := by rw [← HS.out, txt_len]; exact HN.out
    have he : (S.toList == [72, 69, 65, 68]) = false := by
      rw [← HS.out, Lib.toList_data]
      simp
      intro e
      rw [e] at h
      simp at h
    have hni : ¬ (n : Int) ≤ 60 := by have := HN.out; omega
    have HB : Hid (Below w.heap.size w w) := hid (Below.refl _ _)
    rw [HS.out]
    clear h
    go_enter Tryz.func29, Tryz.ntmps29
    go_wp2
    go_ret
    exact ⟨rfl, HB.out⟩
set_option maxRecDepth 20000 in
theorem refName2 (s : Str) (hs : s.length ≤ 1000000000000000) (w : World) : Calls Tryz.prog 32 #[.string ⟨s.toArray⟩] w fun e w' => e = .returned (.bool (Nm.isN s)) ∧ Below w.heap.size w w' := by
  by_cases h : s.length ≤ 60
  · exact Nm.refName_any s (by omega) w
  · rw [isN_long (by omega)]
    obtain ⟨S, HS⟩ : ∃ S : ByteArray, Hid (⟨s.toArray⟩ = S) := ⟨_, hid rfl⟩
    obtain ⟨n, HN⟩ : ∃ n, Hid (s.length = n) := ⟨_, rfl⟩
    have hsz : S.size = n := by rw [← HS.out, txt_len]; exact HN.out
    have he : (S.toList == [72, 69, 65, 68]) = false := by
      rw [← HS.out, Lib.toList_data]
      simp
      intro e
      rw [e] at h
      simp at h
    have hni : (60 : Int) < (n : Int) := by have := HN.out; omega
    have HB : Hid (Below w.heap.size w w) := hid (Below.refl _ _)
    rw [HS.out]
    clear h
    go_enter Tryz.func32, Tryz.ntmps32
    go_wp2
    go_ret
    exact ⟨rfl, HB.out⟩
abbrev osF (p : Nat) : Value := .func (.func 106) #[] #[.pointer (some ⟨p, 0, none⟩)]
abbrev onmF (c : Nat) : Value := .func (.func 78) #[] #[.pointer (some ⟨c, 0, none⟩)]
structure OnS (w : World) (c p g n : Nat) (S : Str → Prop) : Prop where
  b1 : Boxed w c 92 (osF p)
  b2 : Boxed w p 189 (.map (some g))
  ss : SS w g n S
  np : g ≠ p
  nc : g ≠ c
theorem OnS.kept {w w' : World} {c p g n : Nat} {S : Str → Prop} {row : Option Nat} (h : OnS w c p g n S) (hg : w.grownBy w' row) (h1 : row ≠ some g) (h2 : row ≠ some p) (h3 : row ≠ some c) : OnS w' c p g n S :=
  ⟨h.b1.kept hg (fun e => h3 e.symm), h.b2.kept hg (fun e => h2 e.symm), h.ss.kept hg (fun e => h1 e.symm), h.np, h.nc⟩
theorem OnS.congr {w : World} {c p g n : Nat} {S S' : Str → Prop} (h : OnS w c p g n S) (he : ∀ y, S y ↔ S' y) : OnS w c p g n S' := ⟨h.b1, h.b2, h.ss.congr he, h.np, h.nc⟩
set_option maxRecDepth 20000 in
theorem onceS_any (w : World) : Calls Tryz.prog 77 #[] w fun e w' => Below w.heap.size w w' ∧ ∃ p g, w.heap.size ≤ p ∧ w.heap.size ≤ g ∧ g ≠ p ∧ e = .returned (osF p) ∧ Boxed w' p 189 (.map (some g)) ∧ SS w' g 0 (fun _ => False) := by
  obtain ⟨G, HG⟩ : ∃ G, Hid (w.heap.size = G) := ⟨_, rfl⟩
  obtain ⟨w1, HW1⟩ : ∃ u, Hid (w.alloc (.map #[] 0) = u) := ⟨_, rfl⟩
  have hs1 : w1.heap.size = G + 1 := by rw [← HW1.out, ← HG.out]; exact size_alloc _ _
  obtain ⟨w2, HW2⟩ : ∃ u, Hid (w1.alloc (.cells #[.map none] 189) = u) := ⟨_, rfl⟩
  have HSI : Hid (SS w1 G 0 (fun _ => False)) := hid (by rw [← HW1.out, ← HG.out]; exact ss_made w)
  have hs2 : w2.heap.size = G + 1 + 1 := by rw [← HW2.out, ← hs1]; exact size_alloc _ _
  have hb2 : Boxed w2 (G + 1) 189 (.map none) := by rw [← HW2.out, ← hs1]; exact Boxed.new _ _ _
  obtain ⟨w3, HW3⟩ : ∃ u, Hid (w2.setCell ⟨G + 1, 0, none⟩ (.map (some G)) = u) := ⟨_, rfl⟩
  have hc3 : Boxed w3 (G + 1) 189 (.map (some G)) := by rw [← HW3.out]; exact hb2.set _
  have hg3 : w2.grownBy w3 (some (G + 1)) := by rw [← HW3.out]; exact grownBy_setCell' _ _ _
  have HB : Hid (Below G w w3) := hid (by
    have h1 : Below G w w2 := by
      rw [← HW2.out, ← HW1.out, ← HG.out]
      exact ((Below.refl _ w).alloc (Nat.le_refl _) _).alloc (by simp) _
    exact h1.grown hg3 (by rw [hs2]; omega) (fun k hk => by cases hk; omega))
  have HBX := hid hc3
  have HSS : Hid (SS w3 G 0 (fun _ => False)) := hid ((HSI.out.kept (row := none) (by rw [← HW2.out]; exact World.grownBy_alloc _ _ _) (by simp)).kept hg3 (by simp))
  have hc2 := hb2.cell
  have hf2 := hb2.frozen
  have al1 : w.alloc (.map #[] 0) = w1 := HW1.out
  have al2 : w1.alloc (.cells #[.map none] 189) = w2 := HW2.out
  have al3 : w2.setCell ⟨G + 1, 0, none⟩ (.map (some G)) = w3 := HW3.out
  rw [HG.out]
  clear hb2 hc3 hg3
  have hmk : (Instr.makeMap 189 none).run Tryz.prog w = .ok (.map (some G)) w1 := by
    rw [← HG.out, ← HW1.out]
    kernel_rfl
  have hs0 : w.heap.size = G := HG.out
  go_enter Tryz.func77, Tryz.ntmps77
  go_wp2
  go_ret
  exact ⟨HB.out, G + 1, G, by omega, Nat.le_refl _, by omega, rfl, HBX.out, HSS.out⟩
def PostOS (s : Str) (p g n : Nat) (S : Str → Prop) (w : World) (e : Ending) (w' : World) : Prop :=
  w.grownBy w' (some g) ∧ ((S s ∧ e = .returned (.iface 37 (.int .i64 111))) ∨ (¬ S s ∧ e = .returned .nilIface ∧ SS w' g (n + 1) (fun y => y = s ∨ S y)))
set_option maxRecDepth 20000 in
theorem onceSF_any {w : World} {p g n : Nat} {S : Str → Prop} (hb : Boxed w p 189 (.map (some g))) (h : SS w g n S) (hn : n ≤ 100000) (s : Str) (hs : s.length ≤ 4000) : Calls Tryz.prog 106 #[.string ⟨s.toArray⟩, .pointer (some ⟨p, 0, none⟩)] w (PostOS s p g n S w) := by
  obtain ⟨X, HX⟩ : ∃ X : ByteArray, Hid (⟨s.toArray⟩ = X) := ⟨_, hid rfl⟩
  obtain ⟨b, hbb, hlk⟩ := h.look hs
  have HLK : Hid ((Instr.lookup 189 (.map (some g)) (.string X) true).run Tryz.prog w = .ok (.tuple #[.agg #[], .bool b]) w) := hid (by rw [← HX.out]; exact hlk)
  have hz185 : ∀ w : World, (zeroValue 185).run Tryz.prog w = .ok (.agg #[]) w := zero185
  obtain ⟨w2, HW2⟩ : ∃ w2, Hid (w.alloc (.cells #[] 185) = w2) := ⟨_, rfl⟩
  have hg2 : w.grownBy w2 none := by rw [← HW2.out]; exact World.grownBy_alloc _ _ _
  have hp1 := hb.cell
  have hp2 := (hb.kept hg2 (by simp)).cell
  have al2 : w.alloc (.cells #[] 185) = w2 := HW2.out
  obtain ⟨w3, hup, hsi3, hg3⟩ := (h.kept hg2 (by simp)).put hn hs
  have HUP : Hid ((Instr.mapUpdate 189 (.map (some g)) (.string X) (.agg #[])).run Tryz.prog w2 = .ok () w3) := hid (by rw [← HX.out]; exact hup)
  have HG2 := hid hg2
  have HG3 : Hid (w.grownBy w3 (some g)) := hid ((hg2.but _).trans hg3)
  have HS3 := hid hsi3
  rw [HX.out]
  clear hlk h hg2 hup hsi3 hg3 hb
  cases b with
  | true =>
    have HSX : Hid (S s) := hid (hbb.1 rfl)
    clear hbb
    go_enter Tryz.func106, Tryz.ntmps106
    go_wp2_with (first
      | refine wpList_run rfl _ (exec_lookup rfl rfl rfl HLK.out) ?_
      | refine wpList_skip rfl (exec_update rfl rfl rfl rfl HUP.out) ?_
      | fail)
    go_ret
    exact ⟨HG2.out.but _, .inl ⟨HSX.out, rfl⟩⟩
  | false =>
    have HSX : Hid (¬ S s) := hid (fun hs => by have := hbb.2 hs; cases this)
    clear hbb
    go_enter Tryz.func106, Tryz.ntmps106
    go_wp2_with (first
      | refine wpList_run rfl _ (exec_lookup rfl rfl rfl HLK.out) ?_
      | refine wpList_skip rfl (exec_update rfl rfl rfl rfl HUP.out) ?_
      | fail)
    go_ret
    exact ⟨HG3.out, .inr ⟨HSX.out, rfl, HS3.out⟩⟩
set_option maxRecDepth 20000 in
theorem onceNamed_any (w : World) : Calls Tryz.prog 43 #[] w fun e w' => Below w.heap.size w w' ∧ ∃ c p g, w.heap.size ≤ g ∧ e = .returned (onmF c) ∧ OnS w' c p g 0 (fun _ => False) := by
  obtain ⟨G, HG⟩ : ∃ G, Hid (w.heap.size = G) := ⟨_, rfl⟩
  have C77 := hid (onceS_any w)
  rw [HG.out] at C77
  rw [HG.out]
  go_enter Tryz.func43, Tryz.ntmps43
  go_wp2_with fail
  refine C77.out.mono ?_
  rintro e w1 ⟨hb1, p, g, hp, hg, hgp, rfl, hbx, hss⟩
  obtain ⟨R, HR⟩ : ∃ n, Hid (w1.heap.size = n) := ⟨_, rfl⟩
  obtain ⟨w3, HW3⟩ : ∃ u, Hid (w1.alloc (.cells #[.nilFunc] 92) = u) := ⟨_, rfl⟩
  obtain ⟨w4, HW4⟩ : ∃ u, Hid (w3.setCell ⟨R, 0, none⟩ (osF p) = u) := ⟨_, rfl⟩
  have hbx3 : Boxed w3 R 92 .nilFunc := by rw [← HW3.out, ← HR.out]; exact Boxed.new _ _ _
  have hbx4 : Boxed w4 R 92 (osF p) := by rw [← HW4.out]; exact hbx3.set _
  have hc3 := hbx3.cell
  have hf3 := hbx3.frozen
  have hg3 : w1.grownBy w3 none := by rw [← HW3.out]; exact World.grownBy_alloc _ _ _
  have hg4 : w3.grownBy w4 (some R) := by rw [← HW4.out]; exact grownBy_setCell' _ _ _
  have e1 := hss.lt
  have e2 := hbx.lt
  have e3 := HR.out
  have e4 := hb1.size
  have e5 := HG.out
  have hst : (store ⟨R, 0, none⟩ (osF p)).run Tryz.prog w3 = .ok () w4 := by
    rw [run_store _ _ _ _ _ rfl, hc3]
    simp [hf3, HW4.out]
  have HON : Hid (OnS w4 R p g 0 (fun _ => False)) := hid ⟨hbx4, (hbx.kept hg3 (by simp)).kept hg4 (fun e => by cases e; omega), (hss.kept hg3 (by simp)).kept hg4 (fun e => by cases e; omega), hgp, by omega⟩
  have HB4 : Hid (Below G w w4) := hid ((hb1.grown hg3 (by omega) (fun k e => by cases e)).grown hg4 (by have := hg3.size; omega) (fun k e => by cases e; omega))
  have HGG : Hid (G ≤ g) := hid hg
  have al3 : w1.alloc (.cells #[.nilFunc] 92) = w3 := HW3.out
  have al4 : w3.setCell ⟨R, 0, none⟩ (osF p) = w4 := HW4.out
  have hsR : w1.heap.size = R := HR.out
  clear hbx3 hbx4 hg3 hg4 e1 e2 e3 e4 e5 hb1 hbx hss hp hg hgp
  simp only [osF] at al4 hst ⊢
  go_wp2
  go_ret
  exact ⟨HB4.out, R, p, g, HGG.out, rfl, HON.out⟩
def PostNm (s : Str) (c p g n : Nat) (S : Str → Prop) (w : World) (e : Ending) (w' : World) : Prop :=
  w.grownBy w' (some g) ∧ ((¬ (Nm.isN s = true ∧ ¬ S s) ∧ e = .returned (.iface 37 (.int .i64 111))) ∨ ((Nm.isN s = true ∧ ¬ S s) ∧ e = .returned .nilIface ∧ OnS w' c p g (n + 1) (fun y => y = s ∨ S y)))
set_option maxRecDepth 20000 in
theorem namedF_any {w : World} {c p g n : Nat} {S : Str → Prop} (h : OnS w c p g n S) (hn : n ≤ 100000) (s : Str) (hs : s.length ≤ 1000000000000000) (hm : Nm.Mx w) : Calls Tryz.prog 78 #[.string ⟨s.toArray⟩, .pointer (some ⟨c, 0, none⟩)] w (PostNm s c p g n S w) := by
  obtain ⟨X, HX⟩ : ∃ X : ByteArray, Hid (⟨s.toArray⟩ = X) := ⟨_, hid rfl⟩
  have C29 : Hid (Calls Tryz.prog 29 #[.string X] w fun e w' => e = .returned (.bool (Nm.isN s)) ∧ Below w.heap.size w w') := hid (by rw [← HX.out]; exact isName2 s hs w hm)
  have HON := hid h
  rw [HX.out]
  clear h hm
  go_enter Tryz.func78, Tryz.ntmps78
  go_wp2_with fail
  refine C29.out.mono ?_
  rintro e w1 ⟨rfl, hb1⟩
  have hg1 := grown_of_below hb1 none
  have hon1 := HON.out.kept hg1 (by simp) (by simp) (by simp)
  have HON1 := hid hon1
  have HG1 := hid hg1
  have hc1 := hon1.b1.cell
  by_cases hN : Nm.isN s = true
  · have HN := hid hN
    have C106 : Hid (Calls Tryz.prog 106 #[.string X, .pointer (some ⟨p, 0, none⟩)] w1 (PostOS s p g n S w1)) := hid (by
      rw [← HX.out]
      exact onceSF_any hon1.b2 hon1.ss hn s (by have := isN_len hN; omega))
    rw [hN]
    clear hN hon1 hg1 hb1
    simp only [osF] at hc1
    go_wp2_with fail
    refine C106.out.mono ?_
    rintro e w2 ⟨hg2, ⟨hS, rfl⟩ | ⟨hS, rfl, hss⟩⟩
    · have HG2 : Hid (w.grownBy w2 (some g)) := hid ((HG1.out.but _).trans hg2)
      have HNS : Hid (¬ (Nm.isN s = true ∧ ¬ S s)) := hid (fun h => h.2 hS)
      clear hg2 hS
      go_wp2
      go_ret
      exact ⟨HG2.out, .inl ⟨HNS.out, rfl⟩⟩
    · have HG2 : Hid (w.grownBy w2 (some g)) := hid ((HG1.out.but _).trans hg2)
      have HYS : Hid (Nm.isN s = true ∧ ¬ S s) := hid ⟨HN.out, hS⟩
      have HO2 : Hid (OnS w2 c p g (n + 1) (fun y => y = s ∨ S y)) := hid ⟨HON1.out.b1.kept hg2 (fun e => HON1.out.nc (by cases e; rfl)), HON1.out.b2.kept hg2 (fun e => HON1.out.np (by cases e; rfl)), hss, HON1.out.np, HON1.out.nc⟩
      clear hg2 hS hss
      go_wp2
      go_ret
      exact ⟨HG2.out, .inr ⟨HYS.out, rfl, HO2.out⟩⟩
  · have hNf : Nm.isN s = false := by simpa using hN
    have HNS : Hid (¬ (Nm.isN s = true ∧ ¬ S s)) := hid (fun h => hN h.1)
    have HG2 : Hid (w.grownBy w1 (some g)) := hid (HG1.out.but _)
    rw [hNf]
    clear hN hNf hon1 hg1 hb1 hc1
    go_wp2
    go_ret
    exact ⟨HG2.out, .inl ⟨HNS.out, rfl⟩⟩
end Go.Proofs.YtijeogdnjeamaaaGreatDoor
namespace Go.Proofs.YtijeogdnjeamaaaGreatDoor
open Go.RowKit
set_option linter.unusedVariables false
set_option linter.unusedSimpArgs false
theorem index_at (n d : Str) (h : (32 : UInt8) ∉ n) : Lib.index (n ++ 32 :: d) [32] = n.length := by
  refine Lib.index_first (by rw [List.length_append]; omega) ?_ (fun j hj => ?_)
  · unfold Lib.occAt
    rw [List.drop_left]
    simp
  · unfold Lib.occAt
    have e1 : n.drop j = n[j] :: n.drop (j + 1) := List.drop_eq_getElem_cons hj
    have hne : ¬ (32 : UInt8) = n[j] := fun e => h (by rw [e]; exact List.getElem_mem _)
    rw [List.drop_append_of_le_length (by omega), e1, List.cons_append, List.isPrefixOf, beq_false_of_ne hne]
    rfl
theorem cut_at (n d : Str) (h : (32 : UInt8) ∉ n) : Lib.cut (n ++ 32 :: d) [32] = (n, d, true) := by
  unfold Lib.cut
  rw [index_at n d h, if_pos (by omega)]
  simp
theorem cut_len (s : Str) : (Lib.cut s [32]).1.length ≤ s.length := by
  unfold Lib.cut
  split
  · rw [List.length_take]; omega
  · exact Nat.le_refl _
theorem cut_len2 (s : Str) : (Lib.cut s [32]).2.1.length ≤ s.length := by
  unfold Lib.cut
  split
  · rw [List.length_drop]; omega
  · simp
end Go.Proofs.YtijeogdnjeamaaaGreatDoor
namespace Go.Proofs.YtijeogdnjeamaaaGreatDoor
open Go.RowKit
set_option linter.unusedVariables false
set_option linter.unusedSimpArgs false
theorem ps_one (w : World) (s : Str) (u : ByteArray) (hu : ⟨s.toArray⟩ = u) : PS (w.alloc (.cells #[.string u] 9)) (some ⟨w.heap.size, 0, none⟩) 1 [s] :=
  ⟨Nat.le_refl _, fun _ => ⟨w.heap.size, 0, rfl, by simp, fun i hi j v hv => by
    obtain rfl : i = 0 := by simpa using hi
    have := range_row (heap_alloc_new w (.cells ([sV s] : List Value).toArray 9)) j v hv
    rw [← hu]
    simpa [sV] using this⟩, fun h => by cases h⟩
end Go.Proofs.YtijeogdnjeamaaaGreatDoor
namespace Go.Proofs.YtijeogdnjeamaaaGreatDoor
open Go.RowKit
set_option linter.unusedVariables false
set_option linter.unusedSimpArgs false
def PostPr (s : Str) (w : World) (e : Ending) (w' : World) : Prop :=
  Below w.heap.size w w' ∧ ((∃ x, prs s = some x ∧ e = .returned (.tuple #[idV x, .nilIface])) ∨ (prs s = none ∧ e = .returned (.tuple #[idV z20, .iface 37 (.int .i64 12)])))
theorem parseP (s : Str) (hl : s.length ≤ 300000) (w : World) : Calls Tryz.prog 123 #[.string ⟨s.toArray⟩] w (PostPr s w) := by
  refine (Hx.parse_prog ⟨s.toArray⟩ w (by rw [txt_len]; exact hl)).mono ?_
  rintro e w' ⟨hb, h1, h2⟩
  refine ⟨hb, ?_⟩
  by_cases h : (⟨s.toArray⟩ : ByteArray).size = 40 ∧ Hx.good ⟨s.toArray⟩
  · exact .inl ⟨_, prs_yes h, h1 h⟩
  · exact .inr ⟨prs_not h, h2 h⟩
end Go.Proofs.YtijeogdnjeamaaaGreatDoor
namespace Go.Proofs.YtijeogdnjeamaaaGreatDoor
open Go.RowKit
set_option linter.unusedVariables false
set_option linter.unusedSimpArgs false
theorem elem63 : Tryz.prog.underlying 63 = some (.slice (Tryz.prog.elem 63)) := by kernel_rfl
theorem size63e (w : World) : (Go.sizeOf (Tryz.prog.elem 63)).run Tryz.prog w = .ok 1 w := by kernel_rfl
theorem sl63l (a : Option Addr) (n cap i : Nat) (hi : i ≤ n) (w : World) : (Instr.slice 63 (.slice a n cap) (some (.int .i64 i)) none none).run Tryz.prog w = .ok (.slice (adX 1 a cap i) (n - i : Nat) (cap - i : Nat)) w := by
  rw [run_slice_l w 63 a n cap elem63 .i64 i (by omega) (by omega), size63e, Result.andThen_ok, sliced]
  rfl
theorem drop_at (ts : List Str) (i : Nat) (h : i < ts.length) : ts.drop i = ts.getD i [] :: ts.drop (i + 1) := by
  rw [List.drop_eq_getElem_cons h, List.getD_eq_getElem?_getD, List.getElem?_eq_getElem h]
  rfl
end Go.Proofs.YtijeogdnjeamaaaGreatDoor
namespace Go.Proofs.YtijeogdnjeamaaaGreatDoor
open Go.RowKit
set_option linter.unusedVariables false
set_option linter.unusedSimpArgs false
theorem equal_any {w : World} (a : Option Addr) (ca : Nat) (s : Str) (hA : PB w a ca s) (b : Option Addr) (cb : Nat) (t : Str) (hB : PB w b cb t) :
    Calls Tryz.prog 100 #[.slice a s.length ca, .slice b t.length cb] w fun e w' => e = .returned (.bool (s == t)) ∧ w' = w := by
  obtain ⟨n, HN⟩ : ∃ n, Hid (s.length = n) := ⟨_, rfl⟩
  obtain ⟨m, HM⟩ : ∃ n, Hid (t.length = n) := ⟨_, rfl⟩
  have h1 : (convert 25 9 (.slice a n ca)).run Tryz.prog w = .ok (sV s) w := by rw [← HN.out]; exact conv_str hA
  have h2 : (convert 25 9 (.slice b m cb)).run Tryz.prog w = .ok (sV t) w := by rw [← HM.out]; exact conv_str hB
  unfold sV at h1 h2
  rw [HN.out, HM.out]
  clear hA hB
  go_enter Tryz.func100, Tryz.ntmps100
  go_wp2
  go_ret
  exact ⟨rfl, rfl⟩
theorem st_new (w : World) (t : TypeId) (z : Array Value) (Y : List Value) (h : Y.length = z.size) : ∃ w', (w.alloc (.cells z t)).setCells w.heap.size 0 Y.toArray.toList = w' ∧ (w.alloc (.cells z t)).there w.heap.size 0 Y.toArray.size ∧ Below w.heap.size w w' ∧ w'.rangeAt w.heap.size 0 Y := by
  have ht : (w.alloc (.cells z t)).there w.heap.size 0 Y.toArray.size := there_off (heap_alloc_new w _) 0 (by rw [List.size_toArray, h]; omega)
  exact ⟨_, rfl, ht, below_setCells (Nat.le_refl _) _ _ _ _ ((Below.refl _ w).alloc (Nat.le_refl _) _), World.rangeAt_setCells_same _ _ 0 _ (by rwa [List.size_toArray] at ht)⟩
end Go.Proofs.YtijeogdnjeamaaaGreatDoor
namespace Go.Proofs.YtijeogdnjeamaaaGreatDoor
open Go.RowKit
set_option linter.unusedVariables false
set_option linter.unusedSimpArgs false
theorem results_tmp3 {P : Program} {fn : Func} {p q r : Tmp} (h : fn.results = #[.tmp p, .tmp q, .tmp r]) (tmps : Array Value) (w : World) : (results fn tmps).run P w = .ok (.tuple #[tmps.getD p undef, tmps.getD q undef, tmps.getD r undef]) w := by
  simp [results, h]
end Go.Proofs.YtijeogdnjeamaaaGreatDoor
namespace Go.Proofs.YtijeogdnjeamaaaGreatDoor
open Go.RowKit
set_option linter.unusedVariables false
set_option linter.unusedSimpArgs false
theorem enter78 (x y : Value) (w : World) : (callFunc 78 #[x, y]).run Tryz.prog w = .ok (.enter 78 #[x, y]) w := by kernel_rfl
end Go.Proofs.YtijeogdnjeamaaaGreatDoor
namespace Go.Proofs.YtijeogdnjeamaaaGreatDoor
open Go.RowKit
set_option linter.unusedVariables false
set_option linter.unusedSimpArgs false
theorem Mx_kept {w w' : World} {row : Option Nat} (h : Nm.Mx w) (hg : w.grownBy w' row) (hr : row ≠ some 1) : Nm.Mx w' := by
  obtain ⟨m, hm⟩ := h
  exact ⟨m, hg.cell hm (fun e => hr e.symm)⟩
end Go.Proofs.YtijeogdnjeamaaaGreatDoor
