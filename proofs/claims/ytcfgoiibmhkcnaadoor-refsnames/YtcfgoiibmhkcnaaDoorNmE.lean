/- The document's 'IsName': the walk. -/
import Derived.Test.YtcfgoiibmhkcnaaDoorNmD
namespace Go.Proofs.YtcfgoiibmhkcnaaDoor
open Go.RowKit
set_option linter.unusedVariables false
set_option linter.unusedSimpArgs false
/-- The byte ahead. -/
def pv (s : List UInt8) (i : Nat) : Option UInt8 := if i = 0 then none else s[i - 1]?
/-- How far the walk is. -/
def Dw (s : List UInt8) (f i : Nat) : Prop := f ≤ i ∧ dgo [] none s = dgo (cur s f i) (pv s i) (s.drop i)
set_option maxRecDepth 100000 in
set_option maxHeartbeats 4000000 in
theorem refName_any (s : List UInt8) (hs : s.length ≤ 100000) (w : World) :
    Calls Tryd.prog 5 #[.string ⟨s.toArray⟩] w fun e w' => e = .returned (.bool (isN s)) ∧ Below w.heap.size w w' := by
  have HB : Hid (Below w.heap.size w w) := Below.refl _ _
  by_cases hh : s = [72, 69, 65, 68]
  · subst hh
    go_enter Tryd.func5, Tryd.ntmps5
    go_wp2
    go_ret
    exact ⟨rfl, HB.out⟩
  · obtain ⟨S, HS⟩ : ∃ S : ByteArray, Hid (⟨s.toArray⟩ = S) := ⟨_, rfl⟩
    obtain ⟨n, HN⟩ : ∃ n, Hid (s.length = n) := ⟨_, rfl⟩
    have hsz : S.size = n := by rw [← HS.out, txt_len]; exact HN.out
    have he : (S.toList == [72, 69, 65, 68]) = false := by rw [← HS.out, Lib.toList_data]; simpa using hh
    have HR : Hid (isN s = docOk s) := hid (by
      unfold isN
      rw [show (s == [72, 69, 65, 68]) = false by simpa using hh]
      rfl)
    rw [HS.out, HR.out]
    clear hh
    by_cases h60 : n ≤ 60
    rotate_left
    · have h60i : (60 : Int) < (n : Int) := by omega
      have HF : Hid (docOk s = false) := hid (by unfold docOk; rw [HN.out, decide_eq_false h60]; rfl)
      rw [HF.out]
      go_enter Tryd.func5, Tryd.ntmps5
      go_wp2
      go_ret
      exact ⟨rfl, HB.out⟩
    have h60i : ¬ (60 : Int) < (n : Int) := by omega
    by_cases h6 : 6 ≤ n
    rotate_left
    · have h6i : (n : Int) < 6 := by omega
      have HF : Hid (docOk s = false) := hid (by unfold docOk; rw [HN.out, decide_eq_false h6]; simp)
      rw [HF.out]
      go_enter Tryd.func5, Tryd.ntmps5
      go_wp2
      go_ret
      exact ⟨rfl, HB.out⟩
    have h6i : ¬ (n : Int) < 6 := by omega
    obtain ⟨T, HT⟩ : ∃ T : ByteArray, Hid (⟨(s.take 5).toArray⟩ = T) := ⟨_, rfl⟩
    have hsl : ∀ w : World, (Instr.slice 9 (.string S) none (some (.int .i64 5)) none).run Tryd.prog w = .ok (.string T) w := fun w => by
      rw [← HS.out, ← HT.out]; exact slc_to s 5 (by rw [HN.out]; omega) w
    have HTL : Hid (T.toList = s.take 5) := hid (by rw [← HT.out, Lib.toList_data])
    by_cases hr : s.take 5 = [114, 101, 102, 115, 47]
    rotate_left
    · have hrb : (T.toList == [114, 101, 102, 115, 47]) = false := by rw [HTL.out]; simpa using hr
      have HF : Hid (docOk s = false) := hid (by unfold docOk; rw [show (s.take 5 == [114, 101, 102, 115, 47]) = false by simpa using hr]; simp)
      rw [HF.out]
      clear hr
      go_enter Tryd.func5, Tryd.ntmps5
      go_wp2
      go_ret
      exact ⟨rfl, HB.out⟩
    have hrb : (T.toList == [114, 101, 102, 115, 47]) = true := by rw [HTL.out]; simpa using hr
    obtain ⟨z, hz⟩ : ∃ z, s[n - 1]? = some z := ⟨_, List.getElem?_eq_getElem (by rw [HN.out]; omega)⟩
    obtain ⟨zc, HZC⟩ : ∃ c : Int, Hid ((z.toNat : Int) = c) := ⟨_, rfl⟩
    have hixz : ∀ w : World, (Instr.index 9 (.string S) (.int .i64 ((n : Int) - 1))).run Tryd.prog w = .ok (.int .u8 zc) w := fun w => by
      rw [← HS.out, ← HZC.out, show ((n : Int) - 1) = ((n - 1 : Nat) : Int) by omega]; exact idx_txt s (n - 1) w z hz
    have HSF : Hid (Lib.hasSuffix s [46] = (z == 46)) := hid (suf_dot s z (by rw [HN.out]; exact hz))
    have HZ : Hid (zc = 46 ↔ z = 46) := hid (by rw [← HZC.out]; exact byte_num z 46 (by decide))
    by_cases hzd : zc = 46
    · have HF : Hid (docOk s = false) := hid (by unfold docOk; rw [HSF.out, HZ.out.1 hzd]; simp)
      rw [HF.out]
      subst hzd
      clear hr
      go_enter Tryd.func5, Tryd.ntmps5
      go_wp2
      go_ret
      exact ⟨rfl, HB.out⟩
    have hzb : (zc == 46) = false := by simpa using hzd
    obtain ⟨r, HRR⟩ : ∃ r, Hid (dgo [] none s = r) := ⟨_, rfl⟩
    have HF : Hid (docOk s = r) := hid (by
      unfold docOk
      rw [HN.out, decide_eq_true h60, decide_eq_true h6, hr, HSF.out, show (z == 46) = false by simpa using fun e => hzd (HZ.out.2 e), HRR.out]
      simp)
    rw [HF.out]
    have HD0 : Hid (Dw s 0 0) := ⟨Nat.le_refl _, by simp [cur, pv]⟩
    clear hr hz hzd
    go_enter Tryd.func5, Tryd.ntmps5
    go_wp2
    go_loopg [4, 5] (n + 1) (fun g vf vi wr => ∃ f i : Nat, g = n + 1 - i ∧ vf = .int .i64 f ∧ vi = .int .i64 i ∧ i ≤ n + 1 ∧ f ≤ i ∧ Hid (wr = w) ∧ Hid ((i ≤ n ∧ Dw s f i) ∨ (i = n + 1 ∧ r = true)))
    case atStart => exact ⟨0, 0, rfl, rfl, rfl, by omega, by omega, hid rfl, hid (.inl ⟨by omega, HD0.out⟩)⟩
    case round =>
      obtain ⟨f, i, hg, rfl, rfl, hi, hfi0, HW, HI⟩ := hrel
      have hww := HW.out
      subst hww
      clear HW
      by_cases hin : i ≤ n
      rotate_left
      · have hini : ¬ (i : Int) ≤ (n : Int) := by omega
        have HRT : Hid (r = true) := hid (by
          rcases HI.out with h | h
          · exact absurd h.1 hin
          · exact h.2)
        go_wp2
        go_ret
        exact ⟨by rw [HRT.out]; rfl, HB.out⟩
      have hini : (i : Int) ≤ (n : Int) := by omega
      have HDW : Hid (Dw s f i) := hid (by
        rcases HI.out with h | h
        · exact h.2
        · exact absurd h.1 (by omega))
      clear HI
      by_cases hie : i = n
      · subst hie
        have HRP : Hid (r = partOk (cur s f i)) := hid (by
          rw [← HRR.out, HDW.out.2, List.drop_eq_nil_of_le (by rw [HN.out]; omega)]
          rfl)
        have HPB : Hid (partOk (cur s f i) = false → r = false) := fun h => by rw [HRP.out, h]
        by_cases hfi : f = i
        · have HRF : Hid (r = false) := hid (HPB.out (by rw [hfi]; exact part_none s i))
          have k0 : ((i : Int) - (f : Int) == 0) = true := by rw [hfi]; simp
          go_wp2
          go_ret
          exact ⟨by rw [HRF.out]; rfl, HB.out⟩
        have hfl : f < i := by omega
        have k0 : ((i : Int) - (f : Int) == 0) = false := by simp; omega
        have k0' : ¬ ((i : Int) - (f : Int) = 0) := by omega
        obtain ⟨x, hx⟩ : ∃ x, s[f]? = some x := ⟨_, List.getElem?_eq_getElem (by rw [HN.out]; omega)⟩
        have HX : Hid (partOk (cur s f i) = (!(x == 46) && !Lib.hasSuffix (cur s f i) lockW)) := hid (part_some s f i hfl (by rw [HN.out]; omega) x hx)
        obtain ⟨xc, HXC⟩ : ∃ c : Int, Hid ((x.toNat : Int) = c) := ⟨_, rfl⟩
        have hixf : ∀ w : World, (Instr.index 9 (.string S) (.int .i64 f)).run Tryd.prog w = .ok (.int .u8 xc) w := fun w => by rw [← HS.out, ← HXC.out]; exact idx_txt s f w x hx
        have HXD : Hid (xc = 46 ↔ x = 46) := hid (by rw [← HXC.out]; exact byte_num x 46 (by decide))
        clear hx
        by_cases hxd : xc = 46
        · have HRF : Hid (r = false) := hid (HPB.out (by rw [HX.out, HXD.out.1 hxd]; rfl))
          subst hxd
          go_wp2
          go_ret
          exact ⟨by rw [HRF.out]; rfl, HB.out⟩
        have hxb : (xc == 46) = false := by simpa using hxd
        have HX2 : Hid (partOk (cur s f i) = !Lib.hasSuffix (cur s f i) lockW) := hid (by rw [HX.out, show (x == 46) = false by simpa using fun e => hxd (HXD.out.2 e)]; rfl)
        clear hxd
        by_cases hk5 : f + 5 ≤ i
        rotate_left
        · have k5 : ¬ (5 : Int) ≤ (i : Int) - (f : Int) := by omega
          have HPG : Hid (partOk (cur s f i) = true) := hid (by rw [HX2.out, part_short s f i (by omega) (by omega) (by rw [HN.out]; omega)]; rfl)
          go_wp2
          go_roundg (i + 1 - (i + 1))
          case measure => omega
          case rel => exact ⟨i + 1, i + 1, rfl, by go_num, by go_num, by omega, by omega, hid rfl, hid (.inr ⟨by omega, by rw [HRP.out, HPG.out]⟩)⟩
        have k5 : (5 : Int) ≤ (i : Int) - (f : Int) := by omega
        obtain ⟨T5, HT5⟩ : ∃ T : ByteArray, Hid (⟨((s.drop (i - 5)).take 5).toArray⟩ = T) := ⟨_, rfl⟩
        have hsl5 : ∀ w : World, (Instr.slice 9 (.string S) (some (.int .i64 ((i : Int) - 5))) (some (.int .i64 i)) none).run Tryd.prog w = .ok (.string T5) w := fun w => by
          have h := slc_mid s (i - 5) i (by omega) (by rw [HN.out]; omega) w
          rw [show i - (i - 5) = 5 by omega, HT5.out, HS.out, show (((i - 5 : Nat)) : Int) = (i : Int) - 5 by omega] at h
          exact h
        have HTL5 : Hid (T5.toList = (s.drop (i - 5)).take 5) := hid (by rw [← HT5.out, Lib.toList_data])
        have HX3 : Hid (partOk (cur s f i) = !((s.drop (i - 5)).take 5 == lockW)) := hid (by rw [HX2.out, part_lock s f i hk5 (by rw [HN.out]; omega)])
        by_cases hlk : (s.drop (i - 5)).take 5 = lockW
        · have htb : (T5.toList == [46, 108, 111, 99, 107]) = true := by rw [HTL5.out, hlk]; rfl
          have HRF : Hid (r = false) := hid (HPB.out (by rw [HX3.out, hlk]; rfl))
          clear hlk
          go_wp2
          go_ret
          exact ⟨by rw [HRF.out]; rfl, HB.out⟩
        · have htb : (T5.toList == [46, 108, 111, 99, 107]) = false := by rw [HTL5.out]; simpa [lockW] using hlk
          have HPG : Hid (partOk (cur s f i) = true) := hid (by rw [HX3.out, show ((s.drop (i - 5)).take 5 == lockW) = false by simpa using hlk]; rfl)
          clear hlk
          go_wp2
          go_roundg (i + 1 - (i + 1))
          case measure => omega
          case rel => exact ⟨i + 1, i + 1, rfl, by go_num, by go_num, by omega, by omega, hid rfl, hid (.inr ⟨by omega, by rw [HRP.out, HPG.out]⟩)⟩
      have hieb : ((i : Int) == (n : Int)) = false := by simp; omega
      have hlt : i < n := by omega
      obtain ⟨y, hy⟩ : ∃ y, s[i]? = some y := ⟨_, List.getElem?_eq_getElem (by rw [HN.out]; exact hlt)⟩
      have HY : Hid (s[i]? = some y) := hy
      obtain ⟨c, HC⟩ : ∃ c : Int, Hid ((y.toNat : Int) = c) := ⟨_, rfl⟩
      have hixi : ∀ w : World, (Instr.index 9 (.string S) (.int .i64 i)).run Tryd.prog w = .ok (.int .u8 c) w := fun w => by rw [← HS.out, ← HC.out]; exact idx_txt s i w y hy
      have HDR : Hid (s.drop i = y :: s.drop (i + 1)) := hid (by
        obtain ⟨h1, h2⟩ := List.getElem?_eq_some_iff.1 HY.out
        rw [List.drop_eq_getElem_cons h1, h2])
      have HC47 : Hid (c = 47 ↔ y = 47) := hid (by rw [← HC.out]; exact byte_num y 47 (by decide))
      have HPV : Hid (pv s (i + 1) = some y) := hid (by unfold pv; rw [if_neg (by omega), Nat.add_sub_cancel]; exact HY.out)
      clear hy
      by_cases h47 : c = 47
      · have hy47 := HC47.out.1 h47
        have HRP : Hid (r = (partOk (cur s f i) && dgo [] (some 47) (s.drop (i + 1)))) := hid (by
          rw [← HRR.out, HDW.out.2, HDR.out, hy47, dgo, if_pos rfl])
        have HPB : Hid (partOk (cur s f i) = false → r = false) := fun h => by rw [HRP.out, h]; rfl
        have HPV7 : Hid (pv s (i + 1) = some 47) := hid (by rw [HPV.out, hy47])
        subst h47
        clear hy47
        by_cases hfi : f = i
        · have HRF : Hid (r = false) := hid (HPB.out (by rw [hfi]; exact part_none s i))
          have k0 : ((i : Int) - (f : Int) == 0) = true := by rw [hfi]; simp
          go_wp2
          go_ret
          exact ⟨by rw [HRF.out]; rfl, HB.out⟩
        have hfl : f < i := by omega
        have k0 : ((i : Int) - (f : Int) == 0) = false := by simp; omega
        have k0' : ¬ ((i : Int) - (f : Int) = 0) := by omega
        obtain ⟨x, hx⟩ : ∃ x, s[f]? = some x := ⟨_, List.getElem?_eq_getElem (by rw [HN.out]; omega)⟩
        have HX : Hid (partOk (cur s f i) = (!(x == 46) && !Lib.hasSuffix (cur s f i) lockW)) := hid (part_some s f i hfl (by rw [HN.out]; omega) x hx)
        obtain ⟨xc, HXC⟩ : ∃ c : Int, Hid ((x.toNat : Int) = c) := ⟨_, rfl⟩
        have hixf : ∀ w : World, (Instr.index 9 (.string S) (.int .i64 f)).run Tryd.prog w = .ok (.int .u8 xc) w := fun w => by rw [← HS.out, ← HXC.out]; exact idx_txt s f w x hx
        have HXD : Hid (xc = 46 ↔ x = 46) := hid (by rw [← HXC.out]; exact byte_num x 46 (by decide))
        clear hx
        by_cases hxd : xc = 46
        · have HRF : Hid (r = false) := hid (HPB.out (by rw [HX.out, HXD.out.1 hxd]; rfl))
          subst hxd
          go_wp2
          go_ret
          exact ⟨by rw [HRF.out]; rfl, HB.out⟩
        have hxb : (xc == 46) = false := by simpa using hxd
        have HX2 : Hid (partOk (cur s f i) = !Lib.hasSuffix (cur s f i) lockW) := hid (by rw [HX.out, show (x == 46) = false by simpa using fun e => hxd (HXD.out.2 e)]; rfl)
        clear hxd
        by_cases hk5 : f + 5 ≤ i
        rotate_left
        · have k5 : ¬ (5 : Int) ≤ (i : Int) - (f : Int) := by omega
          have HPG : Hid (partOk (cur s f i) = true) := hid (by rw [HX2.out, part_short s f i (by omega) (by omega) (by rw [HN.out]; omega)]; rfl)
          go_wp2
          go_roundg (n + 1 - (i + 1))
          case measure => omega
          case rel => exact ⟨i + 1, i + 1, rfl, by go_num, by go_num, by omega, by omega, hid rfl, hid (.inl ⟨by omega, Nat.le_refl _, by rw [HRR.out, HRP.out, HPG.out, HPV7.out, show cur s (i + 1) (i + 1) = [] by simp [cur]]; rfl⟩)⟩
        have k5 : (5 : Int) ≤ (i : Int) - (f : Int) := by omega
        obtain ⟨T5, HT5⟩ : ∃ T : ByteArray, Hid (⟨((s.drop (i - 5)).take 5).toArray⟩ = T) := ⟨_, rfl⟩
        have hsl5 : ∀ w : World, (Instr.slice 9 (.string S) (some (.int .i64 ((i : Int) - 5))) (some (.int .i64 i)) none).run Tryd.prog w = .ok (.string T5) w := fun w => by
          have h := slc_mid s (i - 5) i (by omega) (by rw [HN.out]; omega) w
          rw [show i - (i - 5) = 5 by omega, HT5.out, HS.out, show (((i - 5 : Nat)) : Int) = (i : Int) - 5 by omega] at h
          exact h
        have HTL5 : Hid (T5.toList = (s.drop (i - 5)).take 5) := hid (by rw [← HT5.out, Lib.toList_data])
        have HX3 : Hid (partOk (cur s f i) = !((s.drop (i - 5)).take 5 == lockW)) := hid (by rw [HX2.out, part_lock s f i hk5 (by rw [HN.out]; omega)])
        by_cases hlk : (s.drop (i - 5)).take 5 = lockW
        · have htb : (T5.toList == [46, 108, 111, 99, 107]) = true := by rw [HTL5.out, hlk]; rfl
          have HRF : Hid (r = false) := hid (HPB.out (by rw [HX3.out, hlk]; rfl))
          clear hlk
          go_wp2
          go_ret
          exact ⟨by rw [HRF.out]; rfl, HB.out⟩
        · have htb : (T5.toList == [46, 108, 111, 99, 107]) = false := by rw [HTL5.out]; simpa [lockW] using hlk
          have HPG : Hid (partOk (cur s f i) = true) := hid (by rw [HX3.out, show ((s.drop (i - 5)).take 5 == lockW) = false by simpa using hlk]; rfl)
          clear hlk
          go_wp2
          go_roundg (n + 1 - (i + 1))
          case measure => omega
          case rel => exact ⟨i + 1, i + 1, rfl, by go_num, by go_num, by omega, by omega, hid rfl, hid (.inl ⟨by omega, Nat.le_refl _, by rw [HRR.out, HRP.out, HPG.out, HPV7.out, show cur s (i + 1) (i + 1) = [] by simp [cur]]; rfl⟩)⟩
      have h47b : (c == 47) = false := by simpa using h47
      have HRP : Hid (r = (byteOk y && !(y == 46 && pv s i == some 46) && !(y == 123 && pv s i == some 64) && dgo (cur s f (i + 1)) (pv s (i + 1)) (s.drop (i + 1)))) := hid (by
        rw [← HRR.out, HDW.out.2, HDR.out, dgo, if_neg (fun e => h47 (HC47.out.2 e)), cur_snoc s f i hfi0 y HY.out, HPV.out])
      clear h47
      by_cases hb : byteOk y = true
      rotate_left
      · have hb' : byteOk y = false := by simpa using hb
        have HRF : Hid (r = false) := hid (by rw [HRP.out, hb']; rfl)
        have hcs := bad_byte y c HC.out hb'
        clear hb hb'
        rcases hcs with h | h | rfl | rfl | rfl | rfl | rfl | rfl | rfl
        · go_wp2
          go_ret
          exact ⟨by rw [HRF.out]; rfl, HB.out⟩
        · have h33 : ¬ c < 33 := by omega
          go_wp2
          go_ret
          exact ⟨by rw [HRF.out]; rfl, HB.out⟩
        all_goals
          go_wp2
          go_ret
          exact ⟨by rw [HRF.out]; rfl, HB.out⟩
      obtain ⟨g1, g2, g3, g4, g5, g6, g7, g8, g9⟩ := good_byte y c HC.out hb
      have f1 : ¬ c < 33 := by omega
      have f2 : ¬ 126 < c := by omega
      have f3 : (c == 126) = false := by simpa using g3
      have f4 : (c == 94) = false := by simpa using g4
      have f5 : (c == 58) = false := by simpa using g5
      have f6 : (c == 63) = false := by simpa using g6
      have f7 : (c == 42) = false := by simpa using g7
      have f8 : (c == 91) = false := by simpa using g8
      have f9 : (c == 92) = false := by simpa using g9
      have HR2 : Hid (r = (!(y == 46 && pv s i == some 46) && !(y == 123 && pv s i == some 64) && dgo (cur s f (i + 1)) (pv s (i + 1)) (s.drop (i + 1)))) := hid (by rw [HRP.out, hb]; rfl)
      clear hb g3 g4 g5 g6 g7 g8 g9 HRP
      have HC46 : Hid (c = 46 ↔ y = 46) := hid (by rw [← HC.out]; exact byte_num y 46 (by decide))
      have HC123 : Hid (c = 123 ↔ y = 123) := hid (by rw [← HC.out]; exact byte_num y 123 (by decide))
      have HNX : Hid ((y == 46 && pv s i == some 46) = false → (y == 123 && pv s i == some 64) = false → Dw s f (i + 1)) := fun h1 h2 => ⟨by omega, by rw [HRR.out, HR2.out, h1, h2]; rfl⟩
      by_cases hi0 : i = 0
      · have hp0 : pv s i = none := by unfold pv; rw [if_pos hi0]
        have HGO : Hid (Dw s f (i + 1)) := hid (HNX.out (by rw [hp0]; simp) (by rw [hp0]; simp))
        have hf0 : f = 0 := by omega
        subst hf0
        subst hi0
        have hz0 : ((0 : Int) == (n : Int)) = false := by simp; omega
        have hix0 : ∀ w : World, (Instr.index 9 (.string S) (.int .i64 0)).run Tryd.prog w = .ok (.int .u8 c) w := hixi
        clear hp0 hixi hieb hini hfi0 hi hin
        go_wp2
        go_roundg (n + 1 - 1)
        case measure => omega
        case rel => exact ⟨0, 1, rfl, rfl, by go_num, by omega, by omega, hid rfl, hid (.inl ⟨by omega, HGO.out⟩)⟩
      have hi0i : (0 : Int) < (i : Int) := by omega
      obtain ⟨u, hu⟩ : ∃ u, s[i - 1]? = some u := ⟨_, List.getElem?_eq_getElem (by rw [HN.out]; omega)⟩
      have HPU : Hid (pv s i = some u) := hid (by unfold pv; rw [if_neg hi0]; exact hu)
      obtain ⟨uc, HUC⟩ : ∃ c : Int, Hid ((u.toNat : Int) = c) := ⟨_, rfl⟩
      have hixu : ∀ w : World, (Instr.index 9 (.string S) (.int .i64 ((i : Int) - 1))).run Tryd.prog w = .ok (.int .u8 uc) w := fun w => by
        rw [← HS.out, ← HUC.out, show ((i : Int) - 1) = ((i - 1 : Nat) : Int) by omega]; exact idx_txt s (i - 1) w u hu
      have HU46 : Hid (uc = 46 ↔ u = 46) := hid (by rw [← HUC.out]; exact byte_num u 46 (by decide))
      have HU64 : Hid (uc = 64 ↔ u = 64) := hid (by rw [← HUC.out]; exact byte_num u 64 (by decide))
      clear hu
      by_cases h46 : c = 46
      · by_cases hu46 : uc = 46
        · have HRF : Hid (r = false) := hid (by rw [HR2.out, HPU.out, HC46.out.1 h46, HU46.out.1 hu46]; rfl)
          subst h46
          subst hu46
          go_wp2
          go_ret
          exact ⟨by rw [HRF.out]; rfl, HB.out⟩
        · have HGO : Hid (Dw s f (i + 1)) := hid (HNX.out (by rw [HPU.out]; simp; exact fun _ e => hu46 (HU46.out.2 e)) (by rw [HC46.out.1 h46]; rfl))
          have hub : (uc == 46) = false := by simpa using hu46
          subst h46
          clear hu46
          go_wp2
          go_roundg (n + 1 - (i + 1))
          case measure => omega
          case rel => exact ⟨f, i + 1, rfl, rfl, by go_num, by omega, by omega, hid rfl, hid (.inl ⟨by omega, HGO.out⟩)⟩
      have h46b : (c == 46) = false := by simpa using h46
      by_cases h123 : c = 123
      · by_cases hu64 : uc = 64
        · have HRF : Hid (r = false) := hid (by rw [HR2.out, HPU.out, HC123.out.1 h123, HU64.out.1 hu64]; rfl)
          subst h123
          subst hu64
          clear h46
          go_wp2
          go_ret
          exact ⟨by rw [HRF.out]; rfl, HB.out⟩
        · have HGO : Hid (Dw s f (i + 1)) := hid (HNX.out (by rw [HC123.out.1 h123]; rfl) (by rw [HPU.out]; simp; exact fun _ e => hu64 (HU64.out.2 e)))
          have hub : (uc == 64) = false := by simpa using hu64
          subst h123
          clear hu64 h46
          go_wp2
          go_roundg (n + 1 - (i + 1))
          case measure => omega
          case rel => exact ⟨f, i + 1, rfl, rfl, by go_num, by omega, by omega, hid rfl, hid (.inl ⟨by omega, HGO.out⟩)⟩
      have h123b : (c == 123) = false := by simpa using h123
      have HGO : Hid (Dw s f (i + 1)) := hid (HNX.out (by simp; exact fun e => absurd (HC46.out.2 e) h46) (by simp; exact fun e => absurd (HC123.out.2 e) h123))
      clear h46 h123
      go_wp2
      go_roundg (n + 1 - (i + 1))
      case measure => omega
      case rel => exact ⟨f, i + 1, rfl, rfl, by go_num, by omega, by omega, hid rfl, hid (.inl ⟨by omega, HGO.out⟩)⟩
end Go.Proofs.YtcfgoiibmhkcnaaDoor
