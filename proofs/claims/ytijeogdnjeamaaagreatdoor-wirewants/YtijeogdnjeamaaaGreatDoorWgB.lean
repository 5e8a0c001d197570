/- The document's 'words'. -/
import Derived.Test.YtijeogdnjeamaaaGreatDoorWgA
namespace Go.Proofs.YtijeogdnjeamaaaGreatDoor
open Go.RowKit
set_option linter.unusedVariables false
set_option linter.unusedSimpArgs false
theorem run_byt1 (x : UInt8) (w : World) : (Instr.buildSlice 25 1 #[(0, .int .u8 (x.toNat : Int))]).run Tryz.prog w = .ok (.slice (some ⟨w.heap.size, 0, none⟩) 1 1) (w.alloc (.cells #[.int .u8 (x.toNat : Int)] 5)) := by kernel_rfl
theorem pb_one (w : World) (x : UInt8) : PB (w.alloc (.cells #[.int .u8 (x.toNat : Int)] 5)) (some ⟨w.heap.size, 0, none⟩) 1 [x] :=
  pb_row (by simp) (range_row (heap_alloc_new w (.cells (bv [x]).toArray 5)))
theorem drop_byte (s : Str) (i : Nat) (h : i < s.length) : s.drop i = s.getD i 0 :: s.drop (i + 1) := by
  rw [List.drop_eq_getElem_cons h, List.getD_eq_getElem?_getD, List.getElem?_eq_getElem h]
  rfl
theorem BS.carryS {w0 w w' : World} {B : Nat} {v : Value} {l : List Str} (h : BS w0 w B v l) (hb : Below w.heap.size w w') : BS w0 w' B v l := Bx.carry h hb
set_option maxRecDepth 20000 in
set_option maxHeartbeats 4000000 in
theorem words_any {w : World} (a : Option Addr) (cap : Nat) (s : Str) (hP : PB w a cap s) (hl : s.length ≤ 1000) :
    Calls Tryz.prog 69 #[.slice a s.length cap] w fun e w' => ∃ v, e = .returned v ∧ BS w w' w.heap.size v (wdsA [] s) := by
  obtain ⟨m, HM⟩ : ∃ n, Hid (s.length = n) := ⟨_, rfl⟩
  obtain ⟨G, HG⟩ : ∃ n, Hid (w.heap.size = n) := ⟨_, rfl⟩
  have hm : m ≤ 1000 := by rw [← HM.out]; exact hl
  have HPB : Hid (∀ W, Below G w W → PB W a cap s) := hid (fun W hW => hP.below (by rw [HG.out]; exact hW))
  have HPL : Hid (0 < m → ∃ b off, a = some ⟨b, off, none⟩) := hid (fun h => by
    obtain ⟨b, off, e1, _⟩ := hP.at_ (by rw [HM.out]; exact h)
    exact ⟨b, off, e1⟩)
  have S0 : Hid (BS w w G (.slice none 0 0) []) := hid (bs_nil w G HG.out.symm)
  rw [HM.out, HG.out]
  clear hP hl
  go_enter Tryz.func69, Tryz.ntmps69
  go_wp2_with fail
  go_loopg [3, 4, 5] m (fun gg lv cv iv wr => ∃ (i : Nat) (dn : List Str) (cu : Str) (C : ByteArray), i ≤ m ∧ gg = m - i ∧ iv = .int .i64 i ∧ cv = .string C ∧ Hid (⟨cu.toArray⟩ = C) ∧ Hid (BS w wr G lv dn) ∧ Hid (wdsA [] s = dn ++ wdsA cu (s.drop i)) ∧ Hid (dn.length + cu.length ≤ i))
  case atStart => exact ⟨0, [], [], ⟨#[]⟩, Nat.zero_le _, rfl, rfl, rfl, hid rfl, S0, hid (by simp), hid (by simp)⟩
  case round =>
    obtain ⟨i, dn, cu, C, hi, hk, rfl, rfl, HC, HBS, HWD, HLN⟩ := hrel
    have hdnl : dn.length ≤ 1000 := by have := HLN.out; omega
    obtain ⟨v9, W9, hr9, hb9⟩ := HBS.out.more (by omega) cu C HC.out 63
    have hbs9 := run_txt C wr
    obtain ⟨W8, HW8⟩ : ∃ W, Hid (wr.alloc (.cells #[.string C] 9) = W) := ⟨_, rfl⟩
    rw [HW8.out] at hr9 hbs9
    have HB9 := hid hb9
    clear hb9
    by_cases hlt : i < m
    · have hlti : (i : Int) < (m : Int) := by omega
      obtain ⟨b, off, rfl⟩ := HPL.out (by omega)
      have hil : i < s.length := by rw [HM.out]; exact hlt
      obtain ⟨x, HX⟩ : ∃ x, Hid (s.getD i 0 = x) := ⟨_, rfl⟩
      obtain ⟨c, HCX⟩ : ∃ c : Int, Hid ((x.toNat : Int) = c) := ⟨_, rfl⟩
      have kc : ∀ W, Hid (Below G w W) → W.cell? ⟨b, off + i, none⟩ = some (.int .u8 c) := fun W hW => by
        obtain ⟨b', off', e1, _, e3⟩ := (HPB.out W hW.out).at_ (by rw [HM.out]; omega)
        cases e1
        have := e3 i hil 0 _ rfl
        rw [show off + i * 1 + 0 = off + i by omega, HX.out, HCX.out] at this
        exact this
      have kc0 := kc wr (hid HBS.out.below)
      have HDR : Hid (s.drop i = x :: s.drop (i + 1)) := hid (by rw [drop_byte s i hil, HX.out])
      have HX10 : Hid (x = 10 ↔ c = 10) := hid (by
        rw [← HCX.out]
        constructor
        · intro h; rw [h]; rfl
        · intro h; exact UInt8.toNat_inj.1 (by have : (10 : UInt8).toNat = 10 := rfl; omega))
      have HX32 : Hid (x = 32 ↔ c = 32) := hid (by
        rw [← HCX.out]
        constructor
        · intro h; rw [h]; rfl
        · intro h; exact UInt8.toNat_inj.1 (by have : (32 : UInt8).toNat = 32 := rfl; omega))
      have HNI : Hid (s.drop (i + 1) = [] ↔ i + 1 = m) := hid (by
        rw [List.drop_eq_nil_iff, HM.out]
        omega)
      by_cases hend : c = 10 ∧ i + 1 = m
      · obtain ⟨hc10, him⟩ := hend
        have HF : Hid (BS w W9 G v9 (wdsA [] s)) := hid (by
          have h1 : wdsA cu (s.drop i) = [cu] := by rw [HDR.out, wdsA, if_pos ⟨HX10.out.2 hc10, HNI.out.2 him⟩]
          rw [HWD.out, h1]
          exact HB9.out)
        have him2 : ((i : Int) + 1 == (m : Int)) = true := by simp; omega
        have him3 : (i : Int) + 1 = (m : Int) := by omega
        clear hil kc
        rw [hc10] at kc0
        go_wp2_with (first | (refine wpList_bSY rfl 63 1 _ rfl (.string C) _ rfl hbs9 ?_) | (at_builtin; refine wpList_app rfl _ _ 63 63 rfl 63 rfl _ _ rfl rfl hr9 ?_) | fail)
        go_ret
        exact ⟨_, rfl, HF.out⟩
      · have HNE : Hid (¬ (x = 10 ∧ s.drop (i + 1) = [])) := hid (fun h => hend ⟨HX10.out.1 h.1, HNI.out.1 h.2⟩)
        by_cases hc32 : c = 32
        · have HW2 : Hid (wdsA [] s = (dn ++ [cu]) ++ wdsA [] (s.drop (i + 1))) := hid (by
            rw [HWD.out, HDR.out, wdsA, if_neg HNE.out, if_pos (HX32.out.2 hc32)]
            simp)
          have HL2 : Hid ((dn ++ [cu]).length + ([] : Str).length ≤ i + 1) := hid (by rw [List.length_append]; have := HLN.out; simp; omega)
          clear hil kc hend
          rw [hc32] at kc0
          go_wp2_with (first | (refine wpList_bSY rfl 63 1 _ rfl (.string C) _ rfl hbs9 ?_) | (at_builtin; refine wpList_app rfl _ _ 63 63 rfl 63 rfl _ _ rfl rfl hr9 ?_) | fail)
          go_roundg (m - (i + 1))
          case measure => omega
          case rel => exact ⟨i + 1, dn ++ [cu], [], ⟨#[]⟩, by omega, rfl, by go_num, rfl, hid rfl, HB9, HW2, HL2⟩
        · have hc32b : (c == 32) = false := by simp [hc32]
          have HW2 : Hid (wdsA [] s = dn ++ wdsA (cu ++ [x]) (s.drop (i + 1))) := hid (by
            rw [HWD.out, HDR.out, wdsA, if_neg HNE.out, if_neg (fun h => hc32 (HX32.out.1 h))])
          have HL2 : Hid (dn.length + (cu ++ [x]).length ≤ i + 1) := hid (by rw [List.length_append]; have := HLN.out; simp; omega)
          have rb := run_byt1 x wr
          obtain ⟨W6, HW6⟩ : ∃ W, Hid (wr.alloc (.cells #[.int .u8 (x.toNat : Int)] 5) = W) := ⟨_, rfl⟩
          have hpx := pb_one wr x
          rw [HW6.out] at rb hpx
          obtain ⟨P, HPP⟩ : ∃ n, Hid (wr.heap.size = n) := ⟨_, rfl⟩
          rw [HPP.out] at rb hpx
          obtain ⟨X1, HX1⟩ : ∃ X : ByteArray, Hid (⟨([x] : Str).toArray⟩ = X) := ⟨_, hid rfl⟩
          have hcv : (convert 25 9 (.slice (some ⟨P, 0, none⟩) 1 1)).run Tryz.prog W6 = .ok (.string X1) W6 := by
            have := conv_str hpx
            rw [sV_out, HX1.out] at this
            exact this
          rw [HCX.out] at rb
          obtain ⟨C2, HC2⟩ : ∃ X : ByteArray, Hid (⟨(cu ++ [x]).toArray⟩ = X) := ⟨_, hid rfl⟩
          have hcat : C ++ X1 = C2 := by rw [← HC.out, ← HX1.out, ← HC2.out]; exact str_app cu [x]
          obtain ⟨q, HQ⟩ : ∃ n, Hid (cu.length = n) := ⟨_, rfl⟩
          have hCs : C.size = q := by rw [← HC.out, txt_len]; exact HQ.out
          have hq : q ≤ 1000 := by rw [← HQ.out]; have := HLN.out; omega
          have hX1s : X1.size = 1 := by rw [← HX1.out]; rfl
          have HB6 : Hid (BS w W6 G u3 dn) := hid (by rw [← HW6.out]; exact Bx.alloc HBS.out _)
          by_cases hc10 : c = 10
          · have him : ¬ (i : Int) + 1 = (m : Int) := fun h => hend ⟨hc10, by omega⟩
            have him2 : ((i : Int) + 1 == (m : Int)) = false := by simp [him]
            clear hil kc hend hpx
            rw [hc10] at kc0 rb hc32b
            go_wp2_with (first | (refine wpList_bSY rfl 25 1 _ rfl (.int .u8 10) _ rfl rb ?_) | fail)
            go_roundg (m - (i + 1))
            case measure => omega
            case rel => exact ⟨i + 1, dn, cu ++ [x], C2, by omega, rfl, by go_num, rfl, HC2, HB6, HW2, HL2⟩
          · have hc10b : (c == 10) = false := by simp [hc10]
            clear hil kc hend hpx
            go_wp2_with (first | (refine wpList_bSY rfl 25 1 _ rfl (.int .u8 c) _ rfl rb ?_) | fail)
            go_roundg (m - (i + 1))
            case measure => omega
            case rel => exact ⟨i + 1, dn, cu ++ [x], C2, by omega, rfl, by go_num, rfl, HC2, HB6, HW2, HL2⟩
    · have hlti : ¬ (i : Int) < (m : Int) := by omega
      have HF : Hid (BS w W9 G v9 (wdsA [] s)) := hid (by
        have h1 : wdsA cu (s.drop i) = [cu] := by rw [List.drop_of_length_le (by rw [HM.out]; omega), wdsA]
        rw [HWD.out, h1]
        exact HB9.out)
      go_wp2_with (first | (refine wpList_bSY rfl 63 1 _ rfl (.string C) _ rfl hbs9 ?_) | (at_builtin; refine wpList_app rfl _ _ 63 63 rfl 63 rfl _ _ rfl rfl hr9 ?_) | fail)
      go_ret
      exact ⟨_, rfl, HF.out⟩
end Go.Proofs.YtijeogdnjeamaaaGreatDoor
