import Derived.Test.YtijeogdnjeamaaaGreatDoorQp13
import Derived.Test.YtijeogdnjeamaaaGreatDoorQp12
namespace Go.Proofs.YtijeogdnjeamaaaGreatDoor
open Go.RowKit
set_option linter.unusedVariables false
set_option linter.unusedSimpArgs false
theorem run_byt1 (x : UInt8) (w : World) : (Instr.buildSlice 25 1 #[(0, .int .u8 (x.toNat : Int))]).run Tryz.prog w = .ok (.slice (some ⟨w.heap.size, 0, none⟩) 1 1) (w.alloc (.cells #[.int .u8 (x.toNat : Int)] 5)) := by kernel_rfl
theorem pb_one (w : World) (x : UInt8) : PB (w.alloc (.cells #[.int .u8 (x.toNat : Int)] 5)) (some ⟨w.heap.size, 0, none⟩) 1 [x] :=
  pb_row (by simp) (range_row (heap_alloc_new w (.cells (bv [x]).toArray 5)))
theorem drop_byte (s : Str) (i : Nat) (h : i < s.length) : s.drop i = s.getD i 0 :: s.drop (i + 1) := by
  rw [List.drop_eq_getElem_cons h, List.getD_eq_getElem?_getD, List.getElem?_eq_getElem h]
  rfl
set_option maxRecDepth 20000 in
set_option maxHeartbeats 4000000 in
theorem words_any {w : World} (a : Option Addr) (cap : Nat) (s : Str) (hP : PB w a cap s) (hl : s.length ≤ 1000) :
    Calls Tryz.prog 69 #[.slice a s.length cap] w fun e w' => ∃ v, e = .returned v ∧ BS w w' w.heap.size v (wdsA [] s) := by
  obtain ⟨m, HM⟩ : ∃ n, Hid (s.length = n) := ⟨_, rfl⟩
  obtain ⟨G, HG⟩ : ∃ n, Hid (w.heap.size = n) := ⟨_, rfl⟩
  have hm : m ≤ 1000 := by rw [← HM.out]; exact hl
  have HPB : Hid (∀ W, Below G w W → PB W a cap s) := hid (fun W hW => hP.below (by rw [HG.out]; exact hW))
  have HPL : Hid (0 < m → ∃ b off, a = some ⟨b, off, none⟩) := hid (fun h => by
    obtain ⟨b, off, e1, _⟩ := hP.at_ (by rw [HM.out]; exact h)
    exact ⟨b, off, e1⟩)
  have S0 : Hid (BS w w G (.slice none 0 0) []) := hid (bs_nil w G HG.out.symm)
  rw [HM.out, HG.out]
  clear hP hl
  go_enter Tryz.func69, Tryz.ntmps69
  go_wp2_with fail
  go_loopg [3, 4, 5] m (fun gg lv cv iv wr => ∃ (i : Nat) (dn : List Str) (cu : Str) (C : ByteArray), i ≤ m ∧ gg = m - i ∧ iv = .int .i64 i ∧ cv = .string C ∧ Hid (⟨cu.toArray⟩ = C) ∧ Hid (BS w wr G lv dn) ∧ Hid (wdsA [] s = dn ++ wdsA cu (s.drop i)) ∧ Hid (dn.length + cu.length ≤ i))
  case atStart => exact ⟨0, [], [], ⟨#[]⟩, Nat.zero_le _, rfl, rfl, rfl, hid rfl, S0, hid (by simp), hid (by simp)⟩
  case round =>
    obtain ⟨i, dn, cu, C, hi, hk, rfl, rfl, HC, HBS, HWD, HLN⟩ := hrel
    have hdnl : dn.length ≤ 1000 := by have := HLN.out; omega
    obtain ⟨v9, W9, hr9, hb9⟩ := HBS.out.more (by omega) cu C HC.out 63
    have hbs9 := run_txt C wr
    obtain ⟨W8, HW8⟩ : ∃ W, Hid (wr.alloc (.cells #[.string C] 9) = W) := ⟨_, rfl⟩
    rw [HW8.out] at hr9 hbs9
    have HB9 := hid hb9
    clear hb9
    by_cases hlt : i < m
    · have hlti : (i : Int) < (m : Int) := by omega
      obtain ⟨b, off, rfl⟩ := HPL.out (by omega)
      have hil : i < s.length := by rw [HM.out]; exact hlt
      obtain ⟨x, HX⟩ : ∃ x, Hid (s.getD i 0 = x) := ⟨_, rfl⟩
      obtain ⟨c, HCX⟩ : ∃ c : Int, Hid ((x.toNat : Int) = c) := ⟨_, rfl⟩
      have kc : ∀ W, Hid (Below G w W) → W.cell? ⟨b, off + i, none⟩ = some (.int .u8 c) := fun W hW => by
        obtain ⟨b', off', e1, _, e3⟩ := (HPB.out W hW.out).at_ (by rw [HM.out]; omega)
        cases e1
        have := e3 i hil 0 _ rfl
        rw [show off + i * 1 + 0 = off + i by omega, HX.out, HCX.out] at this
        exact this
      have kc0 := kc wr (hid HBS.out.below)
      have HDR : Hid (s.drop i = x :: s.drop (i + 1)) := hid (by rw [drop_byte s i hil, HX.out])
      have HX10 : Hid (x = 10 ↔ c = 10) := hid (by
        rw [← HCX.out]
        constructor
        · intro h; rw [h]; rfl
        · intro h; exact UInt8.toNat_inj.1 (by have : (10 : UInt8).toNat = 10 := rfl; omega))
      have HX32 : Hid (x = 32 ↔ c = 32) := hid (by
        rw [← HCX.out]
        constructor
        · intro h; rw [h]; rfl
        · intro h; exact UInt8.toNat_inj.1 (by have : (32 : UInt8).toNat = 32 := rfl; omega))
      have HNI : Hid (s.drop (i + 1) = [] ↔ i + 1 = m) := hid (by
        rw [List.drop_eq_nil_iff, HM.out]
        omega)
      by_cases hend : c = 10 ∧ i + 1 = m
      · obtain ⟨hc10, him⟩ := hend
        have HF : Hid (BS w W9 G v9 (wdsA [] s)) := hid (by
          have h1 : wdsA cu (s.drop i) = [cu] := by rw [HDR.out, wdsA, if_pos ⟨HX10.out.2 hc10, HNI.out.2 him⟩]
          rw [HWD.out, h1]
          exact HB9.out)
        have him2 : ((i : Int) + 1 == (m : Int)) = true := by simp; omega
        have him3 : (i : Int) + 1 = (m : Int) := by omega
        clear hil kc
        rw [hc10] at kc0
        go_wp2_with (first | (refine wpList_bSY rfl 63 1 _ rfl (.string C) _ rfl hbs9 ?_) | (at_builtin; refine wpList_app rfl _ _ 63 63 rfl 63 rfl _ _ rfl rfl hr9 ?_) | fail)
        go_ret
        exact ⟨_, rfl, HF.out⟩
      · have HNE : Hid (¬ (x = 10 ∧ s.drop (i + 1) = [])) := hid (fun h => hend ⟨HX10.out.1 h.1, HNI.out.1 h.2⟩)
        by_cases hc32 : c = 32
        · have HW2 : Hid (wdsA [] s = (dn ++ [cu]) ++ wdsA [] (s.drop (i + 1))) := hid (by
            rw [HWD.out, HDR.out, wdsA, if_neg HNE.out, if_pos (HX32.out.2 hc32)]
            simp)
          have HL2 : Hid ((dn ++ [cu]).length + ([] : Str).length ≤ i + 1) := hid (by rw [List.length_append]; have := HLN.out; simp; omega)
          clear hil kc hend
          rw [hc32] at kc0
          go_wp2_with (first | (refine wpList_bSY rfl 63 1 _ rfl (.string C) _ rfl hbs9 ?_) | (at_builtin; refine wpList_app rfl _ _ 63 63 rfl 63 rfl _ _ rfl rfl hr9 ?_) | fail)
          go_roundg (m - (i + 1))
          case measure => omega
          case rel => exact ⟨i + 1, dn ++ [cu], [], ⟨#[]⟩, by omega, rfl, by go_num, rfl, hid rfl, HB9, HW2, HL2⟩
        · have hc32b : (c == 32) = false := by simp [hc32]
          have HW2 : Hid (wdsA [] s = dn ++ wdsA (cu ++ [x]) (s.drop (i + 1))) := hid (by
            rw [HWD.out, HDR.out, wdsA, if_neg HNE.out, if_neg (fun h => hc32 (HX32.out.1 h))])
          have HL2 : Hid (dn.length + (cu ++ [x]).length ≤ i + 1) := hid (by rw [List.length_append]; have := HLN.out; simp; omega)
          have rb := run_byt1 x wr
          obtain ⟨W6, HW6⟩ : ∃ W, Hid (wr.alloc (.cells #[.int .u8 (x.toNat : Int)] 5) = W) := ⟨_, rfl⟩
          have hpx := pb_one wr x
          rw [HW6.out] at rb hpx
          obtain ⟨P, HPP⟩ : ∃ n, Hid (wr.heap.size = n) := ⟨_, rfl⟩
          rw [HPP.out] at rb hpx
          obtain ⟨X1, HX1⟩ : ∃ X : ByteArray, Hid (⟨([x] : Str).toArray⟩ = X) := ⟨_, hid rfl⟩
          have hcv : (convert 25 9 (.slice (some ⟨P, 0, none⟩) 1 1)).run Tryz.prog W6 = .ok (.string X1) W6 := by
            have := conv_str hpx
            rw [sV_out, HX1.out] at this
            exact this
          rw [HCX.out] at rb
          obtain ⟨C2, HC2⟩ : ∃ X : ByteArray, Hid (⟨(cu ++ [x]).toArray⟩ = X) := ⟨_, hid rfl⟩
          have hcat : C ++ X1 = C2 := by rw [← HC.out, ← HX1.out, ← HC2.out]; exact str_app cu [x]
          obtain ⟨q, HQ⟩ : ∃ n, Hid (cu.length = n) := ⟨_, rfl⟩
          have hCs : C.size = q := by rw [← HC.out, txt_len]; exact HQ.out
          have hq : q ≤ 1000 := by rw [← HQ.out]; have := HLN.out; omega
          have hX1s : X1.size = 1 := by rw [← HX1.out]; rfl
          have HB6 : Hid (BS w W6 G u3 dn) := hid (by rw [← HW6.out]; exact Bx.alloc HBS.out _)
          by_cases hc10 : c = 10
          · have him : ¬ (i : Int) + 1 = (m : Int) := fun h => hend ⟨hc10, by omega⟩
            have him2 : ((i : Int) + 1 == (m : Int)) = false := by simp [him]
            clear hil kc hend hpx
            rw [hc10] at kc0 rb hc32b
            go_wp2_with (first | (refine wpList_bSY rfl 25 1 _ rfl (.int .u8 10) _ rfl rb ?_) | fail)
            go_roundg (m - (i + 1))
            case measure => omega
            case rel => exact ⟨i + 1, dn, cu ++ [x], C2, by omega, rfl, by go_num, rfl, HC2, HB6, HW2, HL2⟩
          · have hc10b : (c == 10) = false := by simp [hc10]
            clear hil kc hend hpx
            go_wp2_with (first | (refine wpList_bSY rfl 25 1 _ rfl (.int .u8 c) _ rfl rb ?_) | fail)
            go_roundg (m - (i + 1))
            case measure => omega
            case rel => exact ⟨i + 1, dn, cu ++ [x], C2, by omega, rfl, by go_num, rfl, HC2, HB6, HW2, HL2⟩
    · have hlti : ¬ (i : Int) < (m : Int) := by omega
      have HF : Hid (BS w W9 G v9 (wdsA [] s)) := hid (by
        have h1 : wdsA cu (s.drop i) = [cu] := by rw [List.drop_of_length_le (by rw [HM.out]; omega), wdsA]
        rw [HWD.out, h1]
        exact HB9.out)
      go_wp2_with (first | (refine wpList_bSY rfl 63 1 _ rfl (.string C) _ rfl hbs9 ?_) | (at_builtin; refine wpList_app rfl _ _ 63 63 rfl 63 rfl _ _ rfl rfl hr9 ?_) | fail)
      go_ret
      exact ⟨_, rfl, HF.out⟩
end Go.Proofs.YtijeogdnjeamaaaGreatDoor
namespace Go.Proofs.YtijeogdnjeamaaaGreatDoor
open Go.RowKit
set_option linter.unusedVariables false
set_option linter.unusedSimpArgs false
theorem enter33 (x : Value) (w : World) : (callFunc 33 #[x]).run Tryz.prog w = .ok (.enter 33 #[x]) w := by kernel_rfl
structure Qn (b o1 o2 : Nat) (X Y : ByteArray) (W : World) : Prop where
  c0 : W.cell? ⟨b, o1, none⟩ = some (.string X)
  c1 : W.cell? ⟨b, o2, none⟩ = some (.string Y)
end Go.Proofs.YtijeogdnjeamaaaGreatDoor
namespace Go.Proofs.YtijeogdnjeamaaaGreatDoor
open Go.RowKit
set_option linter.unusedVariables false
set_option linter.unusedSimpArgs false
def PostWDc (l : List Chg) (p : Str) (w : World) (G : Nat) (e : Ending) (w' : World) : Prop :=
  Below G w w' ∧ ((OkC l ∧ ∃ v, e = .returned (.tuple #[v, .int .i64 0]) ∧ w'.ownsRow G 5 1 v (chB l ++ p).length (bv (chB l ++ p))) ∨ (¬ OkC l ∧ e = .returned (.tuple #[.slice none 0 0, .int .i64 111])))
theorem Tryz.results21 : Tryz.f21.results = #[.tmp 4, .tmp 5] := by kernel_rfl
theorem enter34 (x : Value) (w : World) : (callFunc 34 #[x]).run Tryz.prog w = .ok (.enter 34 #[x]) w := by kernel_rfl
theorem chB_snoc (l : List Chg) (i : Nat) (x : Chg) (h : i < l.length) (hx : l.getD i ch0 = x) : pktL (((l.take (i + 1)).map chT).map tx) = pktL (((l.take i).map chT).map tx) ++ pkt (tx (chT x)) := by
  rw [take_snocG ch0 l i h, hx]
  simp [pktL]
structure Qc (b o : Nat) (X : ByteArray) (O N : List Value) (W : World) : Prop where
  c0 : W.cell? ⟨b, o, none⟩ = some (.string X)
  r1 : W.rangeAt b (o + 1) O
  r2 : W.rangeAt b (o + 21) N
theorem pch_at {W : World} {a : Option Addr} {cap : Nat} {l : List Chg} (h : PCh W a cap l) {b off : Nat} (ha : a = some ⟨b, off, none⟩) (i : Nat) (hi : i < l.length) (x : Chg) (hx : l.getD i ch0 = x) (hw : IdW x.2.1 ∧ IdW x.2.2) (X : ByteArray) (hX : ⟨x.1.toArray⟩ = X) (O M : List Value) (hO : row .u8 x.2.1 = O) (hM : row .u8 x.2.2 = M) : Qc b (off + i * 41) X O M W := by
  obtain ⟨b', off', e1, _, e3⟩ := h.at_ (by omega)
  rw [ha] at e1
  cases e1
  have h1 := e3 i hi
  rw [hx] at h1
  obtain ⟨q0, q1, q2⟩ := range_ch hw h1
  rw [sV_out, hX] at q0
  rw [hO] at q1
  rw [hM] at q2
  exact ⟨q0, q1, q2⟩
set_option maxRecDepth 20000 in
set_option maxHeartbeats 8000000 in
theorem refWritePush_any {w : World} (a : Option Addr) (cap : Nat) (l : List Chg) (hP : PCh w a cap l) (hl : FitC l) (ap : Option Addr) (cp : Nat) (p : Str) (hQ : PB w ap cp p) (hq : p.length ≤ 20000) :
    Calls Tryz.prog 21 #[.slice a l.length cap, .slice ap p.length cp] w (PostWDc l p w w.heap.size) := by
  obtain ⟨m, HM⟩ : ∃ n, Hid (l.length = n) := ⟨_, rfl⟩
  obtain ⟨G, HG⟩ : ∃ n, Hid (w.heap.size = n) := ⟨_, rfl⟩
  obtain ⟨np, HNP⟩ : ∃ n, Hid (p.length = n) := ⟨_, rfl⟩
  by_cases hbig : 500 < m
  · have hbi : (500 : Int) < (m : Int) := by omega
    have HNO : Hid (¬ OkC l) := hid (fun h => by have := h.2.2; have := HM.out; omega)
    have HB : Hid (Below G w w) := hid (Below.refl _ _)
    rw [HM.out, HG.out, HNP.out]
    clear hP hl hQ hq
    go_enter Tryz.func21, Tryz.ntmps21
    go_wp2
    refine bodyPost_ret (results_tmp2 Tryz.results21 _ _ _) rfl ?_
    exact ⟨HB.out, .inr ⟨HNO.out, rfl⟩⟩
  · have hbi : ¬ (500 : Int) < (m : Int) := by omega
    have HGS : Hid (∀ X, Below G w X → G ≤ X.heap.size) := hid (fun X hX => by have := hX.size; have := HG.out; omega)
    have HPL : Hid (0 < m → ∃ b off, a = some ⟨b, off, none⟩) := hid (fun h => by
      obtain ⟨b, off, e1, _⟩ := hP.at_ (by rw [HM.out]; exact h)
      exact ⟨b, off, e1⟩)
    have HKC : Hid (∀ (b off i : Nat) (x : Chg) (X : ByteArray) (O M : List Value), a = some ⟨b, off, none⟩ → i < m → Hid (l.getD i ch0 = x) → Hid (⟨x.1.toArray⟩ = X) → Hid (row .u8 x.2.1 = O) → Hid (row .u8 x.2.2 = M) → ∀ W, Below G w W → Qc b (off + i * 41) X O M W) := hid (fun b off i x X O M ha hi hx hX hO hM W hW => by
      have hil : i < l.length := by rw [HM.out]; exact hi
      exact pch_at (hP.below (w' := W) (by rw [HG.out]; exact hW)) ha i hil x hx.out (hl x (by rw [← hx.out]; exact getD_mem l i _ hil)).2 X hX.out O M hO.out hM.out)
    have HIL := hid hl
    have HPQ : Hid (∀ X, Below G w X → PB X ap cp p) := hid (fun X hX => hQ.below (by rw [HG.out]; exact hX))
    have HQL := hid hq
    have C32 : Hid (∀ (W : World) (s : Str) (X : ByteArray), Hid (⟨s.toArray⟩ = X) → s.length ≤ 1000000000000000 → Calls Tryz.prog 32 #[.string X] W fun e w' => e = .returned (.bool (Nm.isN s)) ∧ Below W.heap.size W w') := hid (fun W s X hX hs => by
      rw [← hX.out]
      exact refName2 s hs W)
    have C33 : Hid (∀ (X : World) (s : Str) (Z : ByteArray), Hid (⟨s.toArray⟩ = Z) → s ≠ [] → s.length ≤ 990 → Calls Tryz.prog 33 #[.string Z] X (PostLi (tx s) X)) := hid (fun X s Z hZ h1 h2 => by
      rw [← hZ.out]
      exact text_any s h1 h2)
    have h1b : (⟨#[32]⟩ : ByteArray).size = 1 := rfl
    have S0 : Hid (Wst G w w (.slice none 0 0) (pktL (((l.take 0).map chT).map tx))) := hid ⟨⟨rfl, .inl ⟨rfl, rfl⟩⟩, Below.refl _ _, by rw [HG.out]; exact Nat.le_refl _⟩
    rw [HM.out, HG.out, HNP.out]
    clear hP hl hQ hq
    go_enter Tryz.func21, Tryz.ntmps21
    go_wp2_with fail
    go_loopg [6, 7] m (fun gg bv0 iv wr => ∃ i : Nat, i ≤ m ∧ gg = m - i ∧ iv = .int .i64 i ∧ Hid (Wst G w wr bv0 (pktL (((l.take i).map chT).map tx))) ∧ Hid ((∀ x ∈ l.take i, okC x) ∧ ((l.take i).map (·.1)).Nodup))
    case atStart => exact ⟨0, Nat.zero_le _, rfl, rfl, S0, hid (by simp)⟩
    case round =>
      obtain ⟨i, hi, hk, rfl, HS, HND⟩ := hrel
      have HSL : Hid ((pktL (((l.take i).map chT).map tx)).length ≤ 80000) := hid (by
        have h1 := chB_blenT (l.take i) HND.out.1 (fun y hy => (HIL.out y (List.mem_of_mem_take hy)).2)
        rw [List.length_take] at h1
        omega)
      by_cases hlt : i < m
      · have hlti : (i : Int) < (m : Int) := by omega
        obtain ⟨b, off, ha⟩ := HPL.out (by omega)
        have hil : i < l.length := by rw [HM.out]; exact hlt
        obtain ⟨x, HX⟩ : ∃ x, Hid (l.getD i ch0 = x) := ⟨_, rfl⟩
        have hxf := HIL.out x (by rw [← HX.out]; exact getD_mem l i _ hil)
        obtain ⟨nm, xo, xn⟩ := x
        simp only at hxf
        obtain ⟨X, HXB⟩ : ∃ X : ByteArray, Hid (⟨nm.toArray⟩ = X) := ⟨_, hid rfl⟩
        obtain ⟨O, HO⟩ : ∃ S : List Value, Hid (row .u8 xo = S) := ⟨_, rfl⟩
        obtain ⟨M, HMM⟩ : ∃ S : List Value, Hid (row .u8 xn = S) := ⟨_, rfl⟩
        have hiO : (Tryz.prog.info? 67).map (·.size) = some O.length := by rw [← HO.out, row_len, hxf.2.1.1]; exact size67
        have hiM : (Tryz.prog.info? 67).map (·.size) = some M.length := by rw [← HMM.out, row_len, hxf.2.2.1]; exact size67
        have HK0 : Hid (∀ W, Below G w W → Qc b (off + i * 41) X O M W) := hid (fun W hW => HKC.out b off i (nm, (xo, xn)) X O M ha hlt HX HXB HO HMM W hW)
        have HKK : Hid (∀ (j : Nat) (y : Chg) (Y : ByteArray), j < m → Hid (l.getD j ch0 = y) → Hid (⟨y.1.toArray⟩ = Y) → ∀ W, Below G w W → W.cell? ⟨b, off + j * 41, none⟩ = some (.string Y)) := hid (fun j y Y hj hy hY W hW => (HKC.out b off j y Y _ _ ha hj hy hY (hid rfl) (hid rfl) W hW).c0)
        subst ha
        have CN := hid (C32.out wr nm X HXB hxf.1)
        have HTX : Hid (l.take (i + 1) = l.take i ++ [(nm, (xo, xn))]) := hid (by rw [take_snocG ch0 l i hil, HX.out])
        have HNO : Hid (¬ (okC (nm, (xo, xn)) ∧ ¬ nm ∈ (l.take i).map (·.1)) → ¬ OkC l) := hid (fun h => not_okc hil HX.out h)
        have HTK : Hid (pktL (((l.take (i + 1)).map chT).map tx) = pktL (((l.take i).map chT).map tx) ++ pkt (tx (chT (nm, (xo, xn))))) := hid (chB_snoc l i (nm, (xo, xn)) hil HX.out)
        have k0 := (HK0.out wr HS.out.bl).c0
        have HFT := hid hxf
        clear hil hxf
        go_wp2_with fail
        refine CN.out.mono ?_
        rintro e w1 ⟨rfl, hb1⟩
        have HS1 := hid (HS.out.below hb1)
        have HB1 := hid HS1.out.bl
        clear hb1 k0
        by_cases hN : Nm.isN nm = true
        · have HOKX : Hid (okC (nm, (xo, xn))) := hid hN
          have HNL : Hid (nm.length ≤ 60) := hid (isN_len hN)
          rw [hN]
          clear hN
          go_wp2_with fail
          go_loopg [9] i (fun gg kv wq => ∃ k : Nat, k ≤ i ∧ gg = i - k ∧ kv = .int .i64 k ∧ Hid (Wst G w wq u6 (pktL (((l.take i).map chT).map tx))) ∧ Hid (nm ∉ (l.take k).map (·.1)))
          case atStart => exact ⟨0, Nat.zero_le _, rfl, rfl, HS1, hid (by simp)⟩
          case round =>
            obtain ⟨k, hki, hkk, rfl, HSq, HNI⟩ := hrel
            by_cases hlk : k < i
            · have hlki : (k : Int) < (i : Int) := by omega
              have hkm : (k : Int) < (m : Int) := by omega
              have hkl : k < l.length := by rw [HM.out]; omega
              obtain ⟨y, HY⟩ : ∃ x, Hid (l.getD k ch0 = x) := ⟨_, rfl⟩
              obtain ⟨Y, HYB⟩ : ∃ X : ByteArray, Hid (⟨y.1.toArray⟩ = X) := ⟨_, hid rfl⟩
              have HSd : Hid (Wst G w wr.drew u6 (pktL (((l.take i).map chT).map tx))) := hid HSq.out.drew
              have hSd : Qn b (off + k * 41) (off + i * 41) Y X wr.drew := ⟨HKK.out k y Y (by omega) HY HYB _ HSd.out.bl, (HK0.out _ HSd.out.bl).c0⟩
              have HQN := hid hSd
              have HTY : Hid (l.take (k + 1) = l.take k ++ [y]) := hid (by rw [take_snocG ch0 l k hkl, HY.out])
              have HMY : Hid (y ∈ l.take i) := hid (by
                rw [← HY.out, List.getD_eq_getElem?_getD, List.getElem?_eq_getElem hkl]
                exact List.mem_iff_getElem.2 ⟨k, by rw [List.length_take]; omega, by simp⟩)
              clear hSd hkl
              go_wp2_with fail
              refine wp_region_held_drew (S := Qn b (off + k * 41) (off + i * 41) Y X) (by kernel_rfl) HQN.out (fun hHeld => ?_)
              generalize wr.drew = u0 at hHeld HSd ⊢
              refine takeL (i := 0) (v := ?_) rfl (by kernel_rfl) (by kernel_rfl) (by kernel_rfl) (fun _ _ _ h => h) (Or.inl ⟨by rfl, ?_⟩) hHeld ?_
              rotate_left
              · rintro w' ⟨c0, c1⟩; go_simp; rfl
              try simp only [Act.put, List.setIfInBounds_toArray, List.set_cons_zero, List.set_cons_succ]
              refine takeL (i := 1) (v := ?_) rfl (by kernel_rfl) (by kernel_rfl) (by kernel_rfl) (fun _ _ _ h => h) (Or.inl ⟨by rfl, ?_⟩) hHeld ?_
              rotate_left
              · rintro w' ⟨c0, c1⟩; go_simp; rfl
              try simp only [Act.put, List.setIfInBounds_toArray, List.set_cons_zero, List.set_cons_succ]
              refine takeL (i := 2) (v := ?_) rfl (by kernel_rfl) (by kernel_rfl) (by kernel_rfl) (fun _ _ _ h => h) (Or.inl ⟨by rfl, ?_⟩) hHeld ?_
              rotate_left
              · rintro w' ⟨c0, c1⟩; go_simp; rfl
              try simp only [Act.put, List.setIfInBounds_toArray, List.set_cons_zero, List.set_cons_succ]
              refine takeL (i := 3) (v := ?_) rfl (by kernel_rfl) (by kernel_rfl) (by kernel_rfl) (fun _ _ _ h => h) (Or.inl ⟨by rfl, ?_⟩) hHeld ?_
              rotate_left
              · rintro w' ⟨c0, c1⟩; go_simp; rfl
              try simp only [Act.put, List.setIfInBounds_toArray, List.set_cons_zero, List.set_cons_succ]
              refine takeL (i := 4) (v := ?_) rfl (by kernel_rfl) (by kernel_rfl) (by kernel_rfl) (fun _ _ _ h => h) (Or.inl ⟨by rfl, ?_⟩) hHeld ?_
              rotate_left
              · rintro w' ⟨c0, c1⟩; go_simp; rfl
              try simp only [Act.put, List.setIfInBounds_toArray, List.set_cons_zero, List.set_cons_succ]
              refine takeL (i := 5) (v := ?_) rfl (by kernel_rfl) (by kernel_rfl) (by kernel_rfl) (fun _ _ _ h => h) (Or.inl ⟨by rfl, ?_⟩) hHeld ?_
              rotate_left
              · rintro w' ⟨c0, c1⟩; go_simp; rfl
              try simp only [Act.put, List.setIfInBounds_toArray, List.set_cons_zero, List.set_cons_succ]
              refine takeL (i := 6) (v := ?_) rfl (by kernel_rfl) (by kernel_rfl) (by kernel_rfl) (fun _ _ _ h => h) (Or.inl ⟨by rfl, ?_⟩) hHeld ?_
              rotate_left
              · rintro w' ⟨c0, c1⟩; go_simp; rfl
              try simp only [Act.put, List.setIfInBounds_toArray, List.set_cons_zero, List.set_cons_succ]
              refine takeL (i := 7) (v := ?_) rfl (by kernel_rfl) (by kernel_rfl) (by kernel_rfl) (fun _ _ _ h => h) (Or.inl ⟨by rfl, ?_⟩) hHeld ?_
              rotate_left
              · rintro w' ⟨c0, c1⟩; go_simp; rfl
              try simp only [Act.put, List.setIfInBounds_toArray, List.set_cons_zero, List.set_cons_succ]
              refine takeL (i := 8) (v := ?_) rfl (by kernel_rfl) (by kernel_rfl) (by kernel_rfl) (fun _ _ _ h => h) (Or.inl ⟨by rfl, ?_⟩) hHeld ?_
              rotate_left
              · rintro w' ⟨c0, c1⟩; go_simp; rfl
              try simp only [Act.put, List.setIfInBounds_toArray, List.set_cons_zero, List.set_cons_succ]
              refine takeL (i := 9) (v := ?_) rfl (by kernel_rfl) (by kernel_rfl) (by kernel_rfl) (fun _ _ _ h => h) (Or.inl ⟨by rfl, ?_⟩) hHeld ?_
              rotate_left
              · rintro w' ⟨c0, c1⟩; go_simp; rfl
              try simp only [Act.put, List.setIfInBounds_toArray, List.set_cons_zero, List.set_cons_succ]
              by_cases hxy : y.1 = nm
              · have heq : (Y.toList == X.toList) = true := by rw [← HYB.out, ← HXB.out, hxy]; simp
                have HNN : Hid (¬ OkC l) := hid (HNO.out (fun h => h.2 (by rw [← hxy]; exact List.mem_map.2 ⟨y, HMY.out, rfl⟩)))
                refine takeL (i := 10) (v := .bool true) rfl (by kernel_rfl) (by kernel_rfl) (by kernel_rfl) (fun _ _ _ h => h) (Or.inl ⟨by rfl, ?_⟩) hHeld ?_
                · rintro w' _; go_simp; try rfl
                try simp only [Act.put, List.setIfInBounds_toArray, List.set_cons_zero, List.set_cons_succ]
                refine wpAnyH_done (by kernel_rfl) ?_ _
                clear hHeld heq hxy
                go_wp2
                refine bodyPost_ret (results_tmp2 Tryz.results21 _ _ _) rfl ?_
                exact ⟨HSd.out.bl, .inr ⟨HNN.out, rfl⟩⟩
              · have heq : (Y.toList == X.toList) = false := by rw [← HYB.out, ← HXB.out]; simp; exact hxy
                have HNI2 : Hid (nm ∉ (l.take (k + 1)).map (·.1)) := hid (by
                  rw [HTY.out, List.map_append]
                  intro h
                  rcases List.mem_append.1 h with h | h
                  · exact HNI.out h
                  · exact hxy (List.mem_singleton.1 h).symm)
                refine takeL (i := 10) (v := .bool false) rfl (by kernel_rfl) (by kernel_rfl) (by kernel_rfl) (fun _ _ _ h => h) (Or.inl ⟨by rfl, ?_⟩) hHeld ?_
                · rintro w' _; go_simp; try rfl
                try simp only [Act.put, List.setIfInBounds_toArray, List.set_cons_zero, List.set_cons_succ]
                refine wpAnyH_done (by kernel_rfl) ?_ _
                clear hHeld heq hxy
                go_wp2
                go_roundg (i - (k + 1))
                case measure => omega
                case rel => exact ⟨k + 1, by omega, rfl, by go_num, HSd, HNI2⟩
            · have hlki : ¬ (k : Int) < (i : Int) := by omega
              have HGOOD : Hid (okC (nm, (xo, xn)) ∧ ¬ nm ∈ (l.take i).map (·.1)) := hid ⟨HOKX.out, by
                have := HNI.out
                rwa [show k = i by omega] at this⟩
              have HN3 : Hid ((∀ x ∈ l.take (i + 1), okC x) ∧ ((l.take (i + 1)).map (·.1)).Nodup) := hid (by
                rw [HTX.out]
                refine ⟨fun y hy => ?_, ?_⟩
                · rcases List.mem_append.1 hy with hy | hy
                  · exact HND.out.1 y hy
                  · rw [List.mem_singleton.1 hy]; exact HGOOD.out.1
                · rw [List.map_append]
                  exact nodup_snocS HND.out.2 HGOOD.out.2)
              obtain ⟨Oh, HOH⟩ : ∃ W : ByteArray, Hid (⟨(hxS xo).toArray⟩ = W) := ⟨_, hid rfl⟩
              obtain ⟨Mh, HMH⟩ : ∃ W : ByteArray, Hid (⟨(hxS xn).toArray⟩ = W) := ⟨_, hid rfl⟩
              obtain ⟨Z1, HZ1⟩ : ∃ Z : ByteArray, Hid (Oh ++ (⟨#[32]⟩ : ByteArray) = Z) := ⟨_, hid rfl⟩
              obtain ⟨Z2, HZ2⟩ : ∃ Z : ByteArray, Hid (Z1 ++ Mh = Z) := ⟨_, hid rfl⟩
              obtain ⟨Z3, HZ3⟩ : ∃ Z : ByteArray, Hid (Z2 ++ (⟨#[32]⟩ : ByteArray) = Z) := ⟨_, hid rfl⟩
              obtain ⟨Z4, HZ4⟩ : ∃ Z : ByteArray, Hid (Z3 ++ X = Z) := ⟨_, hid rfl⟩
              have HTT : Hid ((⟨(chT (nm, (xo, xn))).toArray⟩ : ByteArray) = Z4) := hid (by
                rw [← HZ4.out, ← HZ3.out, ← HZ2.out, ← HZ1.out, ← HOH.out, ← HMH.out, ← HXB.out, show (⟨#[32]⟩ : ByteArray) = ⟨([32] : Str).toArray⟩ from rfl, str_app, str_app, str_app, str_app]
                rfl)
              have hX : X.size ≤ 60 := by rw [← HXB.out, txt_len]; exact HNL.out
              have hOh : Oh.size = 40 := by rw [← HOH.out, txt_len]; exact hxS_len _ HFT.out.2.1
              have hMh : Mh.size = 40 := by rw [← HMH.out, txt_len]; exact hxS_len _ HFT.out.2.2
              have hZ1 : Z1.size = 41 := by rw [← HZ1.out, ByteArray.size_append, hOh]; rfl
              have hZ2 : Z2.size = 81 := by rw [← HZ2.out, ByteArray.size_append, hZ1, hMh]
              have hZ3 : Z3.size = 82 := by rw [← HZ3.out, ByteArray.size_append, hZ2]; rfl
              have HCL : Hid ((chT (nm, (xo, xn))).length ≤ 142) := hid (by
                rw [chT_len HFT.out.2]
                have := HNL.out
                simp only
                omega)
              have HSd : Hid (Wst G w wr.drew u6 (pktL (((l.take i).map chT).map tx))) := hid HSq.out.drew
              have HQS : Hid (∀ W, Below wr.drew.heap.size wr.drew W → Qc b (off + i * 41) X O M W) := hid (fun W hW => HK0.out W (HSd.out.bl.trans (hW.mono HSd.out.le)))
              have C34a : Hid (∀ W, Calls Tryz.prog 34 #[.agg O.toArray] W fun e w' => e = .returned (.string Oh) ∧ Below W.heap.size W w') := hid (fun W => by rw [← HO.out, ← HOH.out]; exact hexD _ HFT.out.2.1 W)
              have C34b : Hid (∀ W, Calls Tryz.prog 34 #[.agg M.toArray] W fun e w' => e = .returned (.string Mh) ∧ Below W.heap.size W w') := hid (fun W => by rw [← HMM.out, ← HMH.out]; exact hexD _ HFT.out.2.2 W)
              have CT3 : Hid (∀ W : World, Calls Tryz.prog 33 #[.string Z4] W (PostLi (tx (chT (nm, (xo, xn)))) W)) := hid (fun W => C33.out W (chT (nm, (xo, xn))) Z4 HTT (chT_ne _) (by have := HCL.out; omega))
              go_wp2_with fail
              refine wp_region_held_drew (S := Qc b (off + i * 41) X O M) (by kernel_rfl) (HQS.out _ (Below.refl _ _)) (fun hHeld => ?_)
              generalize wr.drew = u0 at hHeld HSd HQS ⊢
              refine takeL (i := 0) (v := ?_) rfl (by kernel_rfl) (by kernel_rfl) (by kernel_rfl) (fun _ _ _ h => h) (Or.inl ⟨by rfl, ?_⟩) hHeld ?_
              rotate_left
              · rintro w' ⟨c0, r1, r2⟩; go_simp; rfl
              try simp only [Act.put, List.setIfInBounds_toArray, List.set_cons_zero, List.set_cons_succ]
              refine takeL (i := 1) (v := ?_) rfl (by kernel_rfl) (by kernel_rfl) (by kernel_rfl) (fun _ _ _ h => h) (Or.inl ⟨by rfl, ?_⟩) hHeld ?_
              rotate_left
              · rintro w' ⟨c0, r1, r2⟩; go_simp; rfl
              try simp only [Act.put, List.setIfInBounds_toArray, List.set_cons_zero, List.set_cons_succ]
              refine takeL (i := 2) (v := ?_) rfl (by kernel_rfl) (by kernel_rfl) (by kernel_rfl) (fun _ _ _ h => h) (Or.inl ⟨by rfl, ?_⟩) hHeld ?_
              rotate_left
              · rintro w' ⟨c0, r1, r2⟩; go_simp; rfl
              try simp only [Act.put, List.setIfInBounds_toArray, List.set_cons_zero, List.set_cons_succ]
              refine takeL (i := 3) (v := ?_) rfl (by kernel_rfl) (by kernel_rfl) (by kernel_rfl) (fun _ _ _ h => h) (Or.inl ⟨by rfl, ?_⟩) hHeld ?_
              rotate_left
              · rintro w' ⟨c0, r1, r2⟩; go_simp; rfl
              try simp only [Act.put, List.setIfInBounds_toArray, List.set_cons_zero, List.set_cons_succ]
              refine takeL (i := 4) (v := .agg O.toArray) rfl (by kernel_rfl) (by kernel_rfl) (by kernel_rfl) (fun _ _ _ h => h) (yieldsIf_load_mid (by kernel_rfl) 67 _ rfl b (off + i * 41 + 1) (by rfl) O _ (fun w' h => h.r1) Tryz.underlying67 rfl hiO) hHeld ?_
              try simp only [Act.put, List.setIfInBounds_toArray, List.set_cons_zero, List.set_cons_succ]
              refine takeL (i := 7) (v := ?_) rfl (by kernel_rfl) (by kernel_rfl) (by kernel_rfl) (fun _ _ _ h => h) (Or.inl ⟨by rfl, ?_⟩) hHeld ?_
              rotate_left
              · rintro w' ⟨c0, r1, r2⟩; go_simp; rfl
              try simp only [Act.put, List.setIfInBounds_toArray, List.set_cons_zero, List.set_cons_succ]
              refine takeL (i := 8) (v := ?_) rfl (by kernel_rfl) (by kernel_rfl) (by kernel_rfl) (fun _ _ _ h => h) (Or.inl ⟨by rfl, ?_⟩) hHeld ?_
              rotate_left
              · rintro w' ⟨c0, r1, r2⟩; go_simp; rfl
              try simp only [Act.put, List.setIfInBounds_toArray, List.set_cons_zero, List.set_cons_succ]
              refine takeL (i := 9) (v := ?_) rfl (by kernel_rfl) (by kernel_rfl) (by kernel_rfl) (fun _ _ _ h => h) (Or.inl ⟨by rfl, ?_⟩) hHeld ?_
              rotate_left
              · rintro w' ⟨c0, r1, r2⟩; go_simp; rfl
              try simp only [Act.put, List.setIfInBounds_toArray, List.set_cons_zero, List.set_cons_succ]
              refine takeL (i := 10) (v := ?_) rfl (by kernel_rfl) (by kernel_rfl) (by kernel_rfl) (fun _ _ _ h => h) (Or.inl ⟨by rfl, ?_⟩) hHeld ?_
              rotate_left
              · rintro w' ⟨c0, r1, r2⟩; go_simp; rfl
              try simp only [Act.put, List.setIfInBounds_toArray, List.set_cons_zero, List.set_cons_succ]
              refine takeL (i := 11) (v := .agg M.toArray) rfl (by kernel_rfl) (by kernel_rfl) (by kernel_rfl) (fun _ _ _ h => h) (yieldsIf_load_mid (by kernel_rfl) 67 _ rfl b (off + i * 41 + 21) (by rfl) M _ (fun w' h => h.r2) Tryz.underlying67 rfl hiM) hHeld ?_
              try simp only [Act.put, List.setIfInBounds_toArray, List.set_cons_zero, List.set_cons_succ]
              refine takeL (i := 15) (v := ?_) rfl (by kernel_rfl) (by kernel_rfl) (by kernel_rfl) (fun _ _ _ h => h) (Or.inl ⟨by rfl, ?_⟩) hHeld ?_
              rotate_left
              · rintro w' ⟨c0, r1, r2⟩; go_simp; rfl
              try simp only [Act.put, List.setIfInBounds_toArray, List.set_cons_zero, List.set_cons_succ]
              refine takeL (i := 16) (v := ?_) rfl (by kernel_rfl) (by kernel_rfl) (by kernel_rfl) (fun _ _ _ h => h) (Or.inl ⟨by rfl, ?_⟩) hHeld ?_
              rotate_left
              · rintro w' ⟨c0, r1, r2⟩; go_simp; rfl
              try simp only [Act.put, List.setIfInBounds_toArray, List.set_cons_zero, List.set_cons_succ]
              refine takeL (i := 17) (v := ?_) rfl (by kernel_rfl) (by kernel_rfl) (by kernel_rfl) (fun _ _ _ h => h) (Or.inl ⟨by rfl, ?_⟩) hHeld ?_
              rotate_left
              · rintro w' ⟨c0, r1, r2⟩; go_simp; rfl
              try simp only [Act.put, List.setIfInBounds_toArray, List.set_cons_zero, List.set_cons_succ]
              refine takeL (i := 18) (v := ?_) rfl (by kernel_rfl) (by kernel_rfl) (by kernel_rfl) (fun _ _ _ h => h) (Or.inl ⟨by rfl, ?_⟩) hHeld ?_
              rotate_left
              · rintro w' ⟨c0, r1, r2⟩; go_simp; rfl
              try simp only [Act.put, List.setIfInBounds_toArray, List.set_cons_zero, List.set_cons_succ]
              refine takeL (i := 19) (v := ?_) rfl (by kernel_rfl) (by kernel_rfl) (by kernel_rfl) (fun _ _ _ h => h) (Or.inl ⟨by rfl, ?_⟩) hHeld ?_
              rotate_left
              · rintro w' ⟨c0, r1, r2⟩; go_simp; rfl
              try simp only [Act.put, List.setIfInBounds_toArray, List.set_cons_zero, List.set_cons_succ]
              refine wpAnyH_ready (rs := [5]) (by kernel_rfl) (by simp) ?_
              refine consL rfl (fun KK hKK => ?_) AllReadyH.nil
              refine step_callv (by rfl) 34 [.tmp 48] _ [.agg O.toArray] _ (by rfl) (by rfl) (enter34 _) (C34a.out _) ?_
              rintro ev w5 ⟨rfl, hb⟩
              refine ⟨_, rfl, ?_⟩
              have HB5 : Hid (Below u0.heap.size u0 w5) := hid (hb)
              refine hKK.out _ _ (HQS.out _ HB5.out) (fun hHeld2 => ?_)
              clear hKK KK hb
              try simp only [Act.put, List.setIfInBounds_toArray, List.set_cons_zero, List.set_cons_succ]
              refine takeL (i := 6) (v := .string Z1) rfl (by kernel_rfl) (by kernel_rfl) (by kernel_rfl) (fun _ _ _ h => h) (Or.inl ⟨by rfl, ?_⟩) hHeld2 ?_
              · rintro w' ⟨c0, r1, r2⟩; rw [← HZ1.out]; go_simp; first | done | omega | rfl
              try simp only [Act.put, List.setIfInBounds_toArray, List.set_cons_zero, List.set_cons_succ]
              refine wpAnyH_ready (rs := [12]) (by kernel_rfl) (by simp) ?_
              refine consL rfl (fun KK hKK => ?_) AllReadyH.nil
              refine step_callv (by rfl) 34 [.tmp 55] _ [.agg M.toArray] _ (by rfl) (by rfl) (enter34 _) (C34b.out _) ?_
              rintro ev w6 ⟨rfl, hb⟩
              refine ⟨_, rfl, ?_⟩
              have HB6 : Hid (Below u0.heap.size u0 w6) := hid (HB5.out.trans (hb.mono HB5.out.size))
              refine hKK.out _ _ (HQS.out _ HB6.out) (fun hHeld3 => ?_)
              clear hKK KK hb
              try simp only [Act.put, List.setIfInBounds_toArray, List.set_cons_zero, List.set_cons_succ]
              refine takeL (i := 13) (v := .string Z2) rfl (by kernel_rfl) (by kernel_rfl) (by kernel_rfl) (fun _ _ _ h => h) (Or.inl ⟨by rfl, ?_⟩) hHeld3 ?_
              · rintro w' ⟨c0, r1, r2⟩; rw [← HZ2.out]; go_simp; first | done | omega | rfl
              try simp only [Act.put, List.setIfInBounds_toArray, List.set_cons_zero, List.set_cons_succ]
              refine takeL (i := 14) (v := .string Z3) rfl (by kernel_rfl) (by kernel_rfl) (by kernel_rfl) (fun _ _ _ h => h) (Or.inl ⟨by rfl, ?_⟩) hHeld3 ?_
              · rintro w' ⟨c0, r1, r2⟩; rw [← HZ3.out]; go_simp; first | done | omega | rfl
              try simp only [Act.put, List.setIfInBounds_toArray, List.set_cons_zero, List.set_cons_succ]
              refine takeL (i := 20) (v := .string Z4) rfl (by kernel_rfl) (by kernel_rfl) (by kernel_rfl) (fun _ _ _ h => h) (Or.inl ⟨by rfl, ?_⟩) hHeld3 ?_
              · rintro w' ⟨c0, r1, r2⟩; rw [← HZ4.out]; go_simp; first | done | omega | rfl
              try simp only [Act.put, List.setIfInBounds_toArray, List.set_cons_zero, List.set_cons_succ]
              refine wpAnyH_ready (rs := [21]) (by kernel_rfl) (by simp) ?_
              refine consL rfl (fun KK hKK => ?_) AllReadyH.nil
              refine step_callv (by rfl) 33 [.tmp 64] _ [.string Z4] _ (by rfl) (by rfl) (enter33 _) (CT3.out _) ?_
              rintro ev w7 ⟨hb7, g7, c7, rfl, hg7, hp7⟩
              refine ⟨_, rfl, ?_⟩
              have HB7 : Hid (Below u0.heap.size u0 w7) := hid (HB6.out.trans (hb7.mono HB6.out.size))
              have HP7 := hid hp7
              refine hKK.out _ _ (HQS.out _ HB7.out) (fun hHeld4 => ?_)
              clear hKK KK hb7 hg7 hp7
              try simp only [Act.put, List.setIfInBounds_toArray, List.set_cons_zero, List.set_cons_succ]
              refine takeL (i := 22) (v := ?_) rfl (by kernel_rfl) (by kernel_rfl) (by kernel_rfl) (fun _ _ _ h => h) (Or.inl ⟨by rfl, ?_⟩) hHeld4 ?_
              rotate_left
              · rintro w' ⟨c0, r1, r2⟩; go_simp; rfl
              try simp only [Act.put, List.setIfInBounds_toArray, List.set_cons_zero, List.set_cons_succ]
              refine wpAnyH_done (by kernel_rfl) ?_ _
              clear hHeld hHeld2 hHeld3 hHeld4
              have HS7 := hid (HSd.out.below HB7.out)
              obtain ⟨v8, w8, hr8, hs8⟩ := HS7.out.sl g7 0 c7 (pkt (tx (chT (nm, (xo, xn))))) HP7.out (by have := HSL.out; rw [pkt_len]; have := tx_len (chT (nm, (xo, xn))); have := HCL.out; omega) 25
              obtain ⟨K8, HK8⟩ : ∃ n, Hid ((pkt (tx (chT (nm, (xo, xn))))).length = n) := ⟨_, rfl⟩
              rw [HK8.out] at hr8
              rw [HK8.out]
              have HS8 : Hid (Wst G w w8 v8 (pktL (((l.take (i + 1)).map chT).map tx))) := hid (by
                rw [HTK.out]
                exact hs8)
              clear hs8
              go_wp2_with (first | (at_builtin; refine wpList_app rfl _ _ 25 25 rfl 25 rfl _ _ rfl rfl hr8 ?_) | fail)
              go_roundg (m - (i + 1))
              case measure => omega
              case rel => exact ⟨i + 1, by omega, rfl, by go_num, HS8, HN3⟩
        · have hNf : Nm.isN nm = false := by simpa using hN
          have HNN : Hid (¬ OkC l) := hid (HNO.out (fun h => hN h.1))
          rw [hNf]
          clear hN hNf
          go_wp2
          refine bodyPost_ret (results_tmp2 Tryz.results21 _ _ _) rfl ?_
          exact ⟨HB1.out, .inr ⟨HNN.out, rfl⟩⟩
      · have hlti : ¬ (i : Int) < (m : Int) := by omega
        have HTA : Hid (l.take i = l) := hid (List.take_of_length_le (by rw [HM.out]; omega))
        have HNF : Hid (OkC l) := hid (by have := HND.out; rw [HTA.out] at this; exact ⟨this.1, this.2, by have := HM.out; omega⟩)
        obtain ⟨v8, w8, hr8, hs8⟩ := HS.out.str [48, 48, 48, 48] (by have := HSL.out; have : ([48, 48, 48, 48] : Str).length = 4 := rfl; omega) 25
        have HS8 : Hid (Wst G w w8 v8 (chB l)) := hid (by
          rw [HTA.out] at hs8
          rw [chB_parts]
          exact hs8)
        have HBN : Hid ((chB l).length ≤ 100000) := hid (by
          have h1 := chB_blen l HNF.out.1 HIL.out.ids
          have := HNF.out.2.2
          omega)
        obtain ⟨v9, w9, hr9, hs9⟩ := HS8.out.slP ap cp p (HPQ.out w8 HS8.out.bl) (by have := HQL.out; have := HBN.out; omega) 25
        rw [HNP.out] at hr9
        have HS9 := hid hs9
        clear hs8 hs9
        go_wp2_with (first
          | (at_builtin; refine wpList_app rfl _ _ 25 9 rfl 25 rfl _ _ rfl rfl hr8 ?_)
          | (at_builtin; refine wpList_app rfl _ _ 25 25 rfl 25 rfl _ _ rfl rfl hr9 ?_)
          | fail)
        refine bodyPost_ret (results_tmp2 Tryz.results21 _ _ _) rfl ?_
        exact ⟨HS9.out.bl, .inl ⟨HNF.out, _, rfl, HS9.out.own⟩⟩
end Go.Proofs.YtijeogdnjeamaaaGreatDoor
namespace Go.Proofs.YtijeogdnjeamaaaGreatDoor
open Go.RowKit
set_option linter.unusedVariables false
set_option linter.unusedSimpArgs false
def PostPd (s : Str) (w : World) (e : Ending) (w' : World) : Prop :=
  Below w.heap.size w w' ∧ ((∃ x, prs s = some x ∧ e = .returned (.tuple #[idV x, .bool true])) ∨ (prs s = none ∧ e = .returned (.tuple #[idV z20, .bool false])))
theorem parseD (s : Str) (hl : s.length ≤ 300000) (w : World) : Calls Tryz.prog 70 #[.string ⟨s.toArray⟩] w (PostPd s w) := by
  refine (Hx.parse_ref ⟨s.toArray⟩ w (by rw [txt_len]; exact hl)).mono ?_
  rintro e w' ⟨hb, h1, h2⟩
  refine ⟨hb, ?_⟩
  by_cases h : (⟨s.toArray⟩ : ByteArray).size = 40 ∧ Hx.good ⟨s.toArray⟩
  · exact .inl ⟨_, prs_yes h, h1 h⟩
  · exact .inr ⟨prs_not h, h2 h⟩
theorem zero67 (w : World) : (zeroValue 67).run Tryz.prog w = .ok (.agg (row .u8 z20).toArray) w := by kernel_rfl
end Go.Proofs.YtijeogdnjeamaaaGreatDoor
namespace Go.Proofs.YtijeogdnjeamaaaGreatDoor
open Go.RowKit
set_option linter.unusedVariables false
set_option linter.unusedSimpArgs false
theorem three_of (l : List Str) (h : l.length = 3) : ∃ p q r, l = [p, q, r] := by
  match l, h with
  | [p, q, r], _ => exact ⟨p, q, r, rfl⟩
end Go.Proofs.YtijeogdnjeamaaaGreatDoor
namespace Go.Proofs.YtijeogdnjeamaaaGreatDoor
open Go.RowKit
set_option linter.unusedVariables false
set_option linter.unusedSimpArgs false
theorem nums_b (s : Str) : IsB (nums s) := by
  intro x hx
  obtain ⟨y, _, rfl⟩ := List.mem_map.1 hx
  have := y.toNat_lt
  omega
end Go.Proofs.YtijeogdnjeamaaaGreatDoor
namespace Go.Proofs.YtijeogdnjeamaaaGreatDoor
open Go.RowKit
set_option linter.unusedVariables false
set_option linter.unusedSimpArgs false
section
variable {α : Type} {enc : α → List Value} {k : Nat} {d : α}
theorem exec_bx_sl {w w0 : World} {o : Oper} {a : Act} (s x : Operand) (t e : TypeId) (hu : Tryz.prog.underlying t = some (.slice e)) {z : Value} {by_ : Nat} (hin : (Tryz.prog.info? e).map (fun i => (i.zero, i.size, i.bytes)) = some (some z, k, by_)) (hz : z.cells.size = k) (hk : 0 < k) (hby : by_ ≤ 100)
    (hone : ∀ x, ∀ v ∈ enc x, v.oneCell' = true)
    (ho : o.op = .call { callee := .builtin .append, args := #[s, x], argTypes := #[t, t] }) (B : Nat) (v : Value) (l : List α) (hs : a.eval s = v) (h : Bx enc k e w0 w B v l)
    (ax : Option Addr) (cx : Nat) (m : List α) (hx : a.eval x = .slice ax m.length cx) (hP : Px enc k d w ax cx m) (hw : ∀ x ∈ m, (enc x).length = k) (hl : l.length + m.length ≤ 30000) :
    ∃ v' w', (execOp a.eval o).run Tryz.prog w = .ok (.value v') w' ∧ Bx enc k e w0 w' B v' (l ++ m) ∧ w.grownBy w' v.ownBlock := by
  obtain ⟨i, hi, hz0, hz1, hz2⟩ := info_parts hin
  have key : ∀ v' w', (Builtin.append_ #[t, t] o.type #[v, .slice ax m.length cx]).run Tryz.prog w = .ok v' w' → (execOp a.eval o).run Tryz.prog w = .ok (.value v') w' := fun v' w' hr => by
    unfold execOp
    simp only [ho, resolve, invoke, builtin, Sem.run_bind, Sem.run_pure, Result.andThen_ok, List.map_toArray, List.map_cons, List.map_nil, hs, hx, hr]
  cases ax with
  | none =>
    have hc : cx = 0 := hP.nil rfl
    have hcl := hP.capl
    obtain rfl : m = [] := List.length_eq_zero_iff.1 (by omega)
    subst hc
    exact ⟨v, w, key _ _ (run_append_owned_none (P := Tryz.prog) w B t o.type e i k hu hi v _ _ h.own), by simpa using h, ⟨rfl, rfl, rfl, Nat.le_refl _, fun _ _ _ => rfl⟩⟩
  | some ad =>
    obtain ⟨bk, of, fr⟩ := ad
    by_cases h0 : m.length = 0
    · obtain rfl : m = [] := List.length_eq_zero_iff.1 h0
      obtain ⟨v', w', hr, h1, h2, _⟩ := run_append_own_at (P := Tryz.prog) w B t o.type e i z k by_ hu hi hz0 hz1 hz2 hz hk v _ _ h.own ⟨bk, of, fr⟩ 0 cx [] (by simp) (fun j u hj => by cases hj) (fun u hu => by cases hu) (by unfold maxLen; omega) (by have h2 := Nat.mul_le_mul hl hby; exact Nat.le_trans h2 (by decide)) h.le
      refine ⟨v', w', key _ _ hr, ⟨h.below.grown h2 h.le (fun k hk => (own_lt h.own k hk).1), ?_, Nat.le_trans h.le h2.size⟩, h2⟩
      simpa using h1
    · obtain ⟨b', off', e1, _⟩ := hP.at_ (by omega)
      cases e1
      obtain ⟨v', w', hr, h1, h2, _⟩ := run_append_own_at (P := Tryz.prog) w B t o.type e i z k by_ hu hi hz0 hz1 hz2 hz hk v _ _ h.own ⟨bk, of, none⟩ m.length cx (m.flatMap enc) (fX_len m hw) (hP.cells hk hw) (fX_one m hone) (by unfold maxLen; omega) (by have h2 := Nat.mul_le_mul hl hby; exact Nat.le_trans h2 (by decide)) h.le
      refine ⟨v', w', key _ _ hr, ⟨h.below.grown h2 h.le (fun k hk => (own_lt h.own k hk).1), ?_, Nat.le_trans h.le h2.size⟩, h2⟩
      rw [List.length_append, List.flatMap_append]
      exact h1
end
theorem exec_bS1 {P : Program} {o : Oper} {a : Act} {w w' : World} (t len : Nat) (x : Operand) (ho : o.op = .buildSlice t len #[(0, x)]) (u1 v : Value) (h1 : a.eval x = u1) (hr : (Instr.buildSlice t len #[(0, u1)]).run P w = .ok v w') : (execOp a.eval o).run P w = .ok (.value v) w' := by
  unfold execOp
  simp [ho, h1, hr, Result.andThen]
theorem Bx.drew {α : Type} {enc : α → List Value} {k : Nat} {e : TypeId} {w0 w : World} {B : Nat} {v : Value} {l : List α} (h : Bx enc k e w0 w B v l) : Bx enc k e w0 w.drew B v l := h.carry (Below.refl _ _).drew
end Go.Proofs.YtijeogdnjeamaaaGreatDoor
