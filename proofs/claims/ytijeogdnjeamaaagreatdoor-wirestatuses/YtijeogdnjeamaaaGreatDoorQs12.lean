import Derived.Test.YtijeogdnjeamaaaGreatDoorQs11
namespace Go.Proofs.YtijeogdnjeamaaaGreatDoor
open Go.RowKit
set_option linter.unusedVariables false
set_option linter.unusedSimpArgs false
theorem run_byt1 (x : UInt8) (w : World) : (Instr.buildSlice 25 1 #[(0, .int .u8 (x.toNat : Int))]).run Tryz.prog w = .ok (.slice (some ⟨w.heap.size, 0, none⟩) 1 1) (w.alloc (.cells #[.int .u8 (x.toNat : Int)] 5)) := by kernel_rfl
theorem pb_one (w : World) (x : UInt8) : PB (w.alloc (.cells #[.int .u8 (x.toNat : Int)] 5)) (some ⟨w.heap.size, 0, none⟩) 1 [x] :=
  pb_row (by simp) (range_row (heap_alloc_new w (.cells (bv [x]).toArray 5)))
theorem drop_byte (s : Str) (i : Nat) (h : i < s.length) : s.drop i = s.getD i 0 :: s.drop (i + 1) := by
  rw [List.drop_eq_getElem_cons h, List.getD_eq_getElem?_getD, List.getElem?_eq_getElem h]
  rfl
set_option maxRecDepth 20000 in
set_option maxHeartbeats 4000000 in
theorem words_any {w : World} (a : Option Addr) (cap : Nat) (s : Str) (hP : PB w a cap s) (hl : s.length ≤ 1000) :
    Calls Tryz.prog 69 #[.slice a s.length cap] w fun e w' => ∃ v, e = .returned v ∧ BS w w' w.heap.size v (wdsA [] s) := by
  obtain ⟨m, HM⟩ : ∃ n, Hid (s.length = n) := ⟨_, rfl⟩
  obtain ⟨G, HG⟩ : ∃ n, Hid (w.heap.size = n) := ⟨_, rfl⟩
  have hm : m ≤ 1000 := by rw [← HM.out]; exact hl
  have HPB : Hid (∀ W, Below G w W → PB W a cap s) := hid (fun W hW => hP.below (by rw [HG.out]; exact hW))
  have HPL : Hid (0 < m → ∃ b off, a = some ⟨b, off, none⟩) := hid (fun h => by
    obtain ⟨b, off, e1, _⟩ := hP.at_ (by rw [HM.out]; exact h)
    exact ⟨b, off, e1⟩)
  have S0 : Hid (BS w w G (.slice none 0 0) []) := hid (bs_nil w G HG.out.symm)
  rw [HM.out, HG.out]
  clear hP hl
  go_enter Tryz.func69, Tryz.ntmps69
  go_wp2_with fail
  go_loopg [3, 4, 5] m (fun gg lv cv iv wr => ∃ (i : Nat) (dn : List Str) (cu : Str) (C : ByteArray), i ≤ m ∧ gg = m - i ∧ iv = .int .i64 i ∧ cv = .string C ∧ Hid (⟨cu.toArray⟩ = C) ∧ Hid (BS w wr G lv dn) ∧ Hid (wdsA [] s = dn ++ wdsA cu (s.drop i)) ∧ Hid (dn.length + cu.length ≤ i))
  case atStart => exact ⟨0, [], [], ⟨#[]⟩, Nat.zero_le _, rfl, rfl, rfl, hid rfl, S0, hid (by simp), hid (by simp)⟩
  case round =>
    obtain ⟨i, dn, cu, C, hi, hk, rfl, rfl, HC, HBS, HWD, HLN⟩ := hrel
    have hdnl : dn.length ≤ 1000 := by have := HLN.out; omega
    obtain ⟨v9, W9, hr9, hb9⟩ := HBS.out.more (by omega) cu C HC.out 63
    have hbs9 := run_txt C wr
    obtain ⟨W8, HW8⟩ : ∃ W, Hid (wr.alloc (.cells #[.string C] 9) = W) := ⟨_, rfl⟩
    rw [HW8.out] at hr9 hbs9
    have HB9 := hid hb9
    clear hb9
    by_cases hlt : i < m
    · have hlti : (i : Int) < (m : Int) := by omega
      obtain ⟨b, off, rfl⟩ := HPL.out (by omega)
      have hil : i < s.length := by rw [HM.out]; exact hlt
      obtain ⟨x, HX⟩ : ∃ x, Hid (s.getD i 0 = x) := ⟨_, rfl⟩
      obtain ⟨c, HCX⟩ : ∃ c : Int, Hid ((x.toNat : Int) = c) := ⟨_, rfl⟩
      have kc : ∀ W, Hid (Below G w W) → W.cell? ⟨b, off + i, none⟩ = some (.int .u8 c) := fun W hW => by
        obtain ⟨b', off', e1, _, e3⟩ := (HPB.out W hW.out).at_ (by rw [HM.out]; omega)
        cases e1
        have := e3 i hil 0 _ rfl
        rw [show off + i * 1 + 0 = off + i by omega, HX.out, HCX.out] at this
        exact this
      have kc0 := kc wr (hid HBS.out.below)
      have HDR : Hid (s.drop i = x :: s.drop (i + 1)) := hid (by rw [drop_byte s i hil, HX.out])
      have HX10 : Hid (x = 10 ↔ c = 10) := hid (by
        rw [← HCX.out]
        constructor
        · intro h; rw [h]; rfl
        · intro h; exact UInt8.toNat_inj.1 (by have : (10 : UInt8).toNat = 10 := rfl; omega))
      have HX32 : Hid (x = 32 ↔ c = 32) := hid (by
        rw [← HCX.out]
        constructor
        · intro h; rw [h]; rfl
        · intro h; exact UInt8.toNat_inj.1 (by have : (32 : UInt8).toNat = 32 := rfl; omega))
      have HNI : Hid (s.drop (i + 1) = [] ↔ i + 1 = m) := hid (by
        rw [List.drop_eq_nil_iff, HM.out]
        omega)
      by_cases hend : c = 10 ∧ i + 1 = m
      · obtain ⟨hc10, him⟩ := hend
        have HF : Hid (BS w W9 G v9 (wdsA [] s)) := hid (by
          have h1 : wdsA cu (s.drop i) = [cu] := by rw [HDR.out, wdsA, if_pos ⟨HX10.out.2 hc10, HNI.out.2 him⟩]
          rw [HWD.out, h1]
          exact HB9.out)
        have him2 : ((i : Int) + 1 == (m : Int)) = true := by simp; omega
        have him3 : (i : Int) + 1 = (m : Int) := by omega
        clear hil kc
        rw [hc10] at kc0
        go_wp2_with (first | (refine wpList_bSY rfl 63 1 _ rfl (.string C) _ rfl hbs9 ?_) | (at_builtin; refine wpList_app rfl _ _ 63 63 rfl 63 rfl _ _ rfl rfl hr9 ?_) | fail)
        go_ret
        exact ⟨_, rfl, HF.out⟩
      · have HNE : Hid (¬ (x = 10 ∧ s.drop (i + 1) = [])) := hid (fun h => hend ⟨HX10.out.1 h.1, HNI.out.1 h.2⟩)
        by_cases hc32 : c = 32
        · have HW2 : Hid (wdsA [] s = (dn ++ [cu]) ++ wdsA [] (s.drop (i + 1))) := hid (by
            rw [HWD.out, HDR.out, wdsA, if_neg HNE.out, if_pos (HX32.out.2 hc32)]
            simp)
          have HL2 : Hid ((dn ++ [cu]).length + ([] : Str).length ≤ i + 1) := hid (by rw [List.length_append]; have := HLN.out; simp; omega)
          clear hil kc hend
          rw [hc32] at kc0
          go_wp2_with (first | (refine wpList_bSY rfl 63 1 _ rfl (.string C) _ rfl hbs9 ?_) | (at_builtin; refine wpList_app rfl _ _ 63 63 rfl 63 rfl _ _ rfl rfl hr9 ?_) | fail)
          go_roundg (m - (i + 1))
          case measure => omega
          case rel => exact ⟨i + 1, dn ++ [cu], [], ⟨#[]⟩, by omega, rfl, by go_num, rfl, hid rfl, HB9, HW2, HL2⟩
        · have hc32b : (c == 32) = false := by simp [hc32]
          have HW2 : Hid (wdsA [] s = dn ++ wdsA (cu ++ [x]) (s.drop (i + 1))) := hid (by
            rw [HWD.out, HDR.out, wdsA, if_neg HNE.out, if_neg (fun h => hc32 (HX32.out.1 h))])
          have HL2 : Hid (dn.length + (cu ++ [x]).length ≤ i + 1) := hid (by rw [List.length_append]; have := HLN.out; simp; omega)
          have rb := run_byt1 x wr
          obtain ⟨W6, HW6⟩ : ∃ W, Hid (wr.alloc (.cells #[.int .u8 (x.toNat : Int)] 5) = W) := ⟨_, rfl⟩
          have hpx := pb_one wr x
          rw [HW6.out] at rb hpx
          obtain ⟨P, HPP⟩ : ∃ n, Hid (wr.heap.size = n) := ⟨_, rfl⟩
          rw [HPP.out] at rb hpx
          obtain ⟨X1, HX1⟩ : ∃ X : ByteArray, Hid (⟨([x] : Str).toArray⟩ = X) := ⟨_, hid rfl⟩
          have hcv : (convert 25 9 (.slice (some ⟨P, 0, none⟩) 1 1)).run Tryz.prog W6 = .ok (.string X1) W6 := by
            have := conv_str hpx
            rw [sV_out, HX1.out] at this
            exact this
          rw [HCX.out] at rb
          obtain ⟨C2, HC2⟩ : ∃ X : ByteArray, Hid (⟨(cu ++ [x]).toArray⟩ = X) := ⟨_, hid rfl⟩
          have hcat : C ++ X1 = C2 := by rw [← HC.out, ← HX1.out, ← HC2.out]; exact str_app cu [x]
          obtain ⟨q, HQ⟩ : ∃ n, Hid (cu.length = n) := ⟨_, rfl⟩
          have hCs : C.size = q := by rw [← HC.out, txt_len]; exact HQ.out
          have hq : q ≤ 1000 := by rw [← HQ.out]; have := HLN.out; omega
          have hX1s : X1.size = 1 := by rw [← HX1.out]; rfl
          have HB6 : Hid (BS w W6 G u3 dn) := hid (by rw [← HW6.out]; exact Bx.alloc HBS.out _)
          by_cases hc10 : c = 10
          · have him : ¬ (i : Int) + 1 = (m : Int) := fun h => hend ⟨hc10, by omega⟩
            have him2 : ((i : Int) + 1 == (m : Int)) = false := by simp [him]
            clear hil kc hend hpx
            rw [hc10] at kc0 rb hc32b
            go_wp2_with (first | (refine wpList_bSY rfl 25 1 _ rfl (.int .u8 10) _ rfl rb ?_) | fail)
            go_roundg (m - (i + 1))
            case measure => omega
            case rel => exact ⟨i + 1, dn, cu ++ [x], C2, by omega, rfl, by go_num, rfl, HC2, HB6, HW2, HL2⟩
          · have hc10b : (c == 10) = false := by simp [hc10]
            clear hil kc hend hpx
            go_wp2_with (first | (refine wpList_bSY rfl 25 1 _ rfl (.int .u8 c) _ rfl rb ?_) | fail)
            go_roundg (m - (i + 1))
            case measure => omega
            case rel => exact ⟨i + 1, dn, cu ++ [x], C2, by omega, rfl, by go_num, rfl, HC2, HB6, HW2, HL2⟩
    · have hlti : ¬ (i : Int) < (m : Int) := by omega
      have HF : Hid (BS w W9 G v9 (wdsA [] s)) := hid (by
        have h1 : wdsA cu (s.drop i) = [cu] := by rw [List.drop_of_length_le (by rw [HM.out]; omega), wdsA]
        rw [HWD.out, h1]
        exact HB9.out)
      go_wp2_with (first | (refine wpList_bSY rfl 63 1 _ rfl (.string C) _ rfl hbs9 ?_) | (at_builtin; refine wpList_app rfl _ _ 63 63 rfl 63 rfl _ _ rfl rfl hr9 ?_) | fail)
      go_ret
      exact ⟨_, rfl, HF.out⟩
end Go.Proofs.YtijeogdnjeamaaaGreatDoor
namespace Go.Proofs.YtijeogdnjeamaaaGreatDoor
open Go.RowKit
set_option linter.unusedVariables false
set_option linter.unusedSimpArgs false
def Dl (n m : Nat) (s : List UInt8) : Prop := if m = 0 then s = Lib.decDigits n else Lib.decDigits n = Lib.decDigits m ++ s
theorem Dl.next {n m : Nat} {s : List UInt8} (h : Dl n m s) (hm : 0 < m) : Dl n (m / 10) (UInt8.ofNat (48 + m % 10) :: s) := by
  unfold Dl at h ⊢
  rw [if_neg (by omega)] at h
  by_cases h10 : m < 10
  · rw [if_pos (by omega), h, Lib.decDigits, dif_pos h10, Nat.mod_eq_of_lt h10]
    rfl
  · rw [if_neg (by omega), h]
    conv => lhs; rw [Lib.decDigits, dif_neg h10]
    simp
set_option maxRecDepth 20000 in
theorem decimal_any (n : Nat) (hn : n ≤ 400000) (w : World) : Calls Tryz.prog 51 #[.int .i64 n] w fun e w' => e = .returned (.string ⟨(Lib.decDigits n).toArray⟩) ∧ Below w.heap.size w w' := by
  by_cases h0 : n = 0
  · subst h0
    go_enter Tryz.func51, Tryz.ntmps51
    go_wp2
    go_ret
    exact ⟨by rw [Lib.decDigits]; rfl, Below.refl _ _⟩
  · have h0i : ¬ ((n : Int) == 0) = true := by simp; omega
    go_enter Tryz.func51, Tryz.ntmps51
    go_wp2_with fail
    go_loopg [0, 3] n (fun g v u wr => ∃ (m : Nat) (s : List UInt8) (S : ByteArray), v = .int .i64 m ∧ u = .string S ∧ g = m ∧ m ≤ 400000 ∧ S.size ≤ 6 ∧ Hid (m * 10 ^ S.size ≤ n) ∧ Hid (S = ⟨s.toArray⟩) ∧ Hid (Dl n m s) ∧ Hid (Below w.heap.size w wr))
    case atStart => exact ⟨n, [], ⟨#[]⟩, rfl, rfl, rfl, hn, by decide, hid (by show n * 10 ^ 0 ≤ n; omega), rfl, hid (by unfold Dl; rw [if_neg h0]; simp), hid (Below.refl _ _)⟩
    case round =>
      obtain ⟨m, s, S, rfl, rfl, hk, hm4, hS, HM, HS, HD, HB⟩ := hrel
      by_cases hm : 0 < m
      · have hmi : (0 : Int) < m := by omega
        obtain ⟨x, HX⟩ : ∃ x : UInt8, Hid (x = UInt8.ofNat (48 + m % 10)) := ⟨_, rfl⟩
        have hx : (48 : Int) + (m : Int) % 10 = (x.toNat : Int) := by
          rw [HX.out, UInt8.toNat_ofNat']
          omega
        have hcv : ∀ W : World, W.cell? ⟨wr.heap.size, 0, none⟩ = some (.int .u8 (x.toNat : Int)) → Sem.run Tryz.prog (convert 25 9 (.slice (some ⟨wr.heap.size, 0, none⟩) 1 1)) W = .ok (.string ⟨#[x]⟩) W := fun W hW => by
          refine run_convert_bytes_back W 25 9 5 ⟨wr.heap.size, 0, none⟩ 1 [x] Tryz.underlying25 Tryz.underlying5 Tryz.underlying9 ?_
          intro j hj
          have : j = 0 := by simpa using hj
          subst this
          simpa [Addr.add] using hW
        have hcv1 := hcv (wr.alloc (.cells #[.int .u8 (x.toNat : Int)] 5)) (by simp)
        have hSs : ¬ 9223372036854775807 < 1 + S.size := by omega
        have h1 : (⟨#[x]⟩ : ByteArray).size = 1 := rfl
        go_wp2
        have hS5 : S.size ≤ 5 := by
          rcases Nat.lt_or_ge S.size 6 with h | h
          · omega
          · have e : S.size = 6 := by omega
            have := HM.out
            rw [e] at this
            omega
        have hsz : ((⟨#[x]⟩ : ByteArray) ++ S).size = S.size + 1 := by rw [ByteArray.size_append, h1]; omega
        go_roundg (m / 10)
        case measure => omega
        case rel =>
          refine ⟨m / 10, x :: s, ⟨#[x]⟩ ++ S, by go_num, rfl, rfl, by omega, by omega, hid ?_, hid ?_, hid ?_, hid (HB.out.alloc HB.out.size _)⟩
          · rw [hsz, Nat.pow_succ]
            have := HM.out
            have h2 : m / 10 * (10 ^ S.size * 10) = m / 10 * 10 * 10 ^ S.size := by rw [Nat.mul_assoc (m / 10), Nat.mul_comm 10]
            rw [h2]
            exact Nat.le_trans (Nat.mul_le_mul_right _ (by omega)) this
          · rw [HS.out, show (⟨#[x]⟩ : ByteArray) = ⟨[x].toArray⟩ from rfl]
            exact str_app _ _
          · rw [HX.out]
            exact HD.out.next hm
      · have hmi : ¬ (0 : Int) < m := by omega
        go_wp2
        go_ret
        refine ⟨?_, HB.out⟩
        have := HD.out
        unfold Dl at this
        rw [if_pos (by omega)] at this
        rw [← this, ← HS.out]; rfl
theorem decimal3 (n : Nat) (hn : n ≤ 999) (w : World) : Calls Tryz.prog 51 #[.int .i64 (n : Int)] w fun e w' => e = .returned (.string ⟨(d3 n).toArray⟩) ∧ Below w.heap.size w w' := by
  have h := decimal_any n (by omega) w
  have e : Lib.decDigits n = d3 n := by
    rw [← d3_itoa n hn]
    unfold Lib.itoa
    rw [if_neg (by omega), Int.toNat_natCast]
  rw [e] at h
  exact h
theorem enter51 (x : Value) (w : World) : (callFunc 51 #[x]).run Tryz.prog w = .ok (.enter 51 #[x]) w := by kernel_rfl
theorem enter33 (x : Value) (w : World) : (callFunc 33 #[x]).run Tryz.prog w = .ok (.enter 33 #[x]) w := by kernel_rfl
def PostWDs (l : List Sta) (w : World) (G : Nat) (e : Ending) (w' : World) : Prop :=
  Below G w w' ∧ ((OkS l ∧ ∃ v, e = .returned (.tuple #[v, .int .i64 0]) ∧ w'.ownsRow G 5 1 v (stB l).length (bv (stB l))) ∨ (¬ OkS l ∧ e = .returned (.tuple #[.slice none 0 0, .int .i64 111])))
theorem Tryz.results24 : Tryz.f24.results = #[.tmp 2, .tmp 3] := by kernel_rfl
theorem stB_snoc (l : List Sta) (i : Nat) (x : Sta) (h : i < l.length) (hx : l.getD i st0 = x) : pktL (((l.take (i + 1)).map stT).map tx) = pktL (((l.take i).map stT).map tx) ++ pkt (tx (stT x)) := by
  rw [take_snocG st0 l i h, hx]
  simp [pktL]
theorem stB_blen : ∀ (l : List Sta), (∀ x ∈ l, okSt x) → (pktL ((l.map stT).map tx)).length ≤ 80 * l.length
  | [], _ => Nat.le_refl _
  | x :: l, h => by
    have ih := stB_blen l (fun y hy => h y (by simp [hy]))
    have e : pktL ((List.map stT (x :: l)).map tx) = pkt (tx (stT x)) ++ pktL ((l.map stT).map tx) := rfl
    have h1 := stT_len (h x (by simp))
    have h2 := tx_len (stT x)
    rw [e, List.length_append, pkt_len, List.length_cons]
    omega
theorem stB_parts (l : List Sta) : stB l = pktL ((l.map stT).map tx) ++ [48, 48, 48, 48] := by
  unfold stB stL
  rw [List.map_append, pktL_app]
  rfl
structure Qn (b o1 o2 : Nat) (X Y : ByteArray) (W : World) : Prop where
  c0 : W.cell? ⟨b, o1, none⟩ = some (.string X)
  c1 : W.cell? ⟨b, o2, none⟩ = some (.string Y)
structure Qs (b o : Nat) (X : ByteArray) (er : Int) (W : World) : Prop where
  c0 : W.cell? ⟨b, o, none⟩ = some (.string X)
  c1 : W.cell? ⟨b, o + 1, none⟩ = some (.int .i64 er)
set_option maxRecDepth 20000 in
set_option maxHeartbeats 8000000 in
theorem refWriteStatus_any {w : World} (a : Option Addr) (cap : Nat) (l : List Sta) (hP : PSt w a cap l) (hl : FitS l) :
    Calls Tryz.prog 24 #[.slice a l.length cap] w (PostWDs l w w.heap.size) := by
  obtain ⟨m, HM⟩ : ∃ n, Hid (l.length = n) := ⟨_, rfl⟩
  obtain ⟨G, HG⟩ : ∃ n, Hid (w.heap.size = n) := ⟨_, rfl⟩
  by_cases hbig : 500 < m
  · have hbi : (500 : Int) < (m : Int) := by omega
    have HNO : Hid (¬ OkS l) := hid (fun h => by have := h.2.2; have := HM.out; omega)
    have HB : Hid (Below G w w) := hid (Below.refl _ _)
    rw [HM.out, HG.out]
    clear hP hl
    go_enter Tryz.func24, Tryz.ntmps24
    go_wp2
    refine bodyPost_ret (results_tmp2 Tryz.results24 _ _ _) rfl ?_
    exact ⟨HB.out, .inr ⟨HNO.out, rfl⟩⟩
  · have hbi : ¬ (500 : Int) < (m : Int) := by omega
    have HGS : Hid (∀ X, Below G w X → G ≤ X.heap.size) := hid (fun X hX => by have := hX.size; have := HG.out; omega)
    have HPL : Hid (0 < m → ∃ b off, a = some ⟨b, off, none⟩) := hid (fun h => by
      obtain ⟨b, off, e1, _⟩ := hP.at_ (by rw [HM.out]; exact h)
      exact ⟨b, off, e1⟩)
    have HKC : Hid (∀ (b off i : Nat) (x : Sta) (X : ByteArray), a = some ⟨b, off, none⟩ → i < m → Hid (l.getD i st0 = x) → Hid (⟨x.1.toArray⟩ = X) → ∀ W, Below G w W → W.cell? ⟨b, off + i * 2, none⟩ = some (.string X) ∧ W.cell? ⟨b, off + i * 2 + 1, none⟩ = some (.int .i64 x.2)) := hid (fun b off i x X ha hi hx hX W hW => by
      obtain ⟨b', off', e1, _, e3⟩ := (hP.below (w' := W) (by rw [HG.out]; exact hW)).at_ (by rw [HM.out]; omega)
      rw [ha] at e1
      cases e1
      have h1 := e3 i (by rw [HM.out]; exact hi)
      rw [hx.out] at h1
      refine ⟨?_, h1 1 _ rfl⟩
      rw [← hX.out]
      exact h1 0 _ rfl)
    have HIL := hid hl
    have C32 : Hid (∀ (W : World) (s : Str) (X : ByteArray), Hid (⟨s.toArray⟩ = X) → s.length ≤ 1000000000000000 → Calls Tryz.prog 32 #[.string X] W fun e w' => e = .returned (.bool (Nm.isN s)) ∧ Below W.heap.size W w') := hid (fun W s X hX hs => by
      rw [← hX.out]
      exact refName2 s hs W)
    have C33 : Hid (∀ (X : World) (s : Str) (Z : ByteArray), Hid (⟨s.toArray⟩ = Z) → s ≠ [] → s.length ≤ 990 → Calls Tryz.prog 33 #[.string Z] X (PostLi (tx s) X)) := hid (fun X s Z hZ h1 h2 => by
      rw [← hZ.out]
      exact text_any s h1 h2)
    have h3o : (⟨#[111, 107, 32]⟩ : ByteArray).size = 3 := rfl
    have h3n : (⟨#[110, 103, 32]⟩ : ByteArray).size = 3 := rfl
    have h1b : (⟨#[32]⟩ : ByteArray).size = 1 := rfl
    have S0 : Hid (Wst G w w (.slice none 0 0) (pktL (((l.take 0).map stT).map tx))) := hid ⟨⟨rfl, .inl ⟨rfl, rfl⟩⟩, Below.refl _ _, by rw [HG.out]; exact Nat.le_refl _⟩
    rw [HM.out, HG.out]
    clear hP hl
    go_enter Tryz.func24, Tryz.ntmps24
    go_wp2_with fail
    go_loopg [4, 5] m (fun gg bv0 iv wr => ∃ i : Nat, i ≤ m ∧ gg = m - i ∧ iv = .int .i64 i ∧ Hid (Wst G w wr bv0 (pktL (((l.take i).map stT).map tx))) ∧ Hid ((∀ x ∈ l.take i, okSt x) ∧ ((l.take i).map (·.1)).Nodup))
    case atStart => exact ⟨0, Nat.zero_le _, rfl, rfl, S0, hid (by simp)⟩
    case round =>
      obtain ⟨i, hi, hk, rfl, HS, HND⟩ := hrel
      have HSL : Hid ((pktL (((l.take i).map stT).map tx)).length ≤ 40000) := hid (by
        have h1 := stB_blen (l.take i) HND.out.1
        rw [List.length_take] at h1
        omega)
      by_cases hlt : i < m
      · have hlti : (i : Int) < (m : Int) := by omega
        obtain ⟨b, off, ha⟩ := HPL.out (by omega)
        have hil : i < l.length := by rw [HM.out]; exact hlt
        obtain ⟨x, HX⟩ : ∃ x, Hid (l.getD i st0 = x) := ⟨_, rfl⟩
        have hxf := HIL.out x (by rw [← HX.out]; exact getD_mem l i _ hil)
        obtain ⟨nm, er⟩ := x
        simp only at hxf
        obtain ⟨X, HXB⟩ : ∃ X : ByteArray, Hid (⟨nm.toArray⟩ = X) := ⟨_, hid rfl⟩
        have HK0 : Hid (∀ W, Below G w W → W.cell? ⟨b, off + i * 2, none⟩ = some (.string X) ∧ W.cell? ⟨b, off + i * 2 + 1, none⟩ = some (.int .i64 er)) := hid (fun W hW => HKC.out b off i (nm, er) X ha hlt HX HXB W hW)
        have HKK : Hid (∀ (j : Nat) (y : Sta) (Y : ByteArray), j < m → Hid (l.getD j st0 = y) → Hid (⟨y.1.toArray⟩ = Y) → ∀ W, Below G w W → W.cell? ⟨b, off + j * 2, none⟩ = some (.string Y)) := hid (fun j y Y hj hy hY W hW => (HKC.out b off j y Y ha hj hy hY W hW).1)
        subst ha
        have CN := hid (C32.out wr nm X HXB hxf.1)
        have HTX : Hid (l.take (i + 1) = l.take i ++ [(nm, er)]) := hid (by rw [take_snocG st0 l i hil, HX.out])
        have HNO : Hid (¬ (okSt (nm, er) ∧ ¬ nm ∈ (l.take i).map (·.1)) → ¬ OkS l) := hid (fun h => not_oks hil HX.out h)
        have HTK : Hid (pktL (((l.take (i + 1)).map stT).map tx) = pktL (((l.take i).map stT).map tx) ++ pkt (tx (stT (nm, er)))) := hid (stB_snoc l i (nm, er) hil HX.out)
        have k0 := (HK0.out wr HS.out.bl).1
        have HFT := hid hxf
        clear hil hxf
        go_wp2_with fail
        refine CN.out.mono ?_
        rintro e w1 ⟨rfl, hb1⟩
        have HS1 := hid (HS.out.below hb1)
        have HB1 := hid HS1.out.bl
        have k10 := (HK0.out w1 HB1.out).1
        have k11 := (HK0.out w1 HB1.out).2
        clear hb1 k0
        by_cases hN : Nm.isN nm = true
        · by_cases h0 : 0 ≤ er
          · by_cases h9 : er ≤ 999
            · have h0i : ¬ er < 0 := by omega
              have h9i : ¬ (999 : Int) < er := by omega
              have HOKX : Hid (okSt (nm, er)) := hid ⟨hN, h0, h9⟩
              have HNL : Hid (nm.length ≤ 60) := hid (isN_len hN)
              obtain ⟨q, HQ⟩ : ∃ q, Hid (nm.length = q) := ⟨_, rfl⟩
              have hXs : X.size = q := by rw [← HXB.out, txt_len]; exact HQ.out
              have hq : q ≤ 60 := by rw [← HQ.out]; exact HNL.out
              rw [hN]
              clear k10 k11
              have k11 := (HK0.out w1 HB1.out).2
              go_wp2_with fail
              clear k11
              go_loopg [7] i (fun gg kv wq => ∃ k : Nat, k ≤ i ∧ gg = i - k ∧ kv = .int .i64 k ∧ Hid (Wst G w wq u4 (pktL (((l.take i).map stT).map tx))) ∧ Hid (nm ∉ (l.take k).map (·.1)))
              case atStart => exact ⟨0, Nat.zero_le _, rfl, rfl, HS1, hid (by simp)⟩
              case round =>
                obtain ⟨k, hki, hkk, rfl, HSq, HNI⟩ := hrel
                by_cases hlk : k < i
                · have hlki : (k : Int) < (i : Int) := by omega
                  have hkm : (k : Int) < (m : Int) := by omega
                  have hkl : k < l.length := by rw [HM.out]; omega
                  obtain ⟨y, HY⟩ : ∃ x, Hid (l.getD k st0 = x) := ⟨_, rfl⟩
                  obtain ⟨Y, HYB⟩ : ∃ X : ByteArray, Hid (⟨y.1.toArray⟩ = X) := ⟨_, hid rfl⟩
                  have HSd : Hid (Wst G w wr.drew u4 (pktL (((l.take i).map stT).map tx))) := hid HSq.out.drew
                  have hSd : Qn b (off + k * 2) (off + i * 2) Y X wr.drew := ⟨HKK.out k y Y (by omega) HY HYB _ HSd.out.bl, (HK0.out _ HSd.out.bl).1⟩
                  have HQN := hid hSd
                  have HTY : Hid (l.take (k + 1) = l.take k ++ [y]) := hid (by rw [take_snocG st0 l k hkl, HY.out])
                  have HMY : Hid (y ∈ l.take i) := hid (by
                    rw [← HY.out, List.getD_eq_getElem?_getD, List.getElem?_eq_getElem hkl]
                    exact List.mem_iff_getElem.2 ⟨k, by rw [List.length_take]; omega, by simp⟩)
                  clear hSd hkl
                  go_wp2_with fail
                  refine wp_region_held_drew (S := Qn b (off + k * 2) (off + i * 2) Y X) (by kernel_rfl) HQN.out (fun hHeld => ?_)
                  generalize wr.drew = u0 at hHeld HSd ⊢
                  refine takeL (i := 0) (v := ?_) rfl (by kernel_rfl) (by kernel_rfl) (by kernel_rfl) (fun _ _ _ h => h) (Or.inl ⟨by rfl, ?_⟩) hHeld ?_
                  rotate_left
                  · rintro w' ⟨c0, c1⟩; go_simp; rfl
                  try simp only [Act.put, List.setIfInBounds_toArray, List.set_cons_zero, List.set_cons_succ]
                  refine takeL (i := 1) (v := ?_) rfl (by kernel_rfl) (by kernel_rfl) (by kernel_rfl) (fun _ _ _ h => h) (Or.inl ⟨by rfl, ?_⟩) hHeld ?_
                  rotate_left
                  · rintro w' ⟨c0, c1⟩; go_simp; rfl
                  try simp only [Act.put, List.setIfInBounds_toArray, List.set_cons_zero, List.set_cons_succ]
                  refine takeL (i := 2) (v := ?_) rfl (by kernel_rfl) (by kernel_rfl) (by kernel_rfl) (fun _ _ _ h => h) (Or.inl ⟨by rfl, ?_⟩) hHeld ?_
                  rotate_left
                  · rintro w' ⟨c0, c1⟩; go_simp; rfl
                  try simp only [Act.put, List.setIfInBounds_toArray, List.set_cons_zero, List.set_cons_succ]
                  refine takeL (i := 3) (v := ?_) rfl (by kernel_rfl) (by kernel_rfl) (by kernel_rfl) (fun _ _ _ h => h) (Or.inl ⟨by rfl, ?_⟩) hHeld ?_
                  rotate_left
                  · rintro w' ⟨c0, c1⟩; go_simp; rfl
                  try simp only [Act.put, List.setIfInBounds_toArray, List.set_cons_zero, List.set_cons_succ]
                  refine takeL (i := 4) (v := ?_) rfl (by kernel_rfl) (by kernel_rfl) (by kernel_rfl) (fun _ _ _ h => h) (Or.inl ⟨by rfl, ?_⟩) hHeld ?_
                  rotate_left
                  · rintro w' ⟨c0, c1⟩; go_simp; rfl
                  try simp only [Act.put, List.setIfInBounds_toArray, List.set_cons_zero, List.set_cons_succ]
                  refine takeL (i := 5) (v := ?_) rfl (by kernel_rfl) (by kernel_rfl) (by kernel_rfl) (fun _ _ _ h => h) (Or.inl ⟨by rfl, ?_⟩) hHeld ?_
                  rotate_left
                  · rintro w' ⟨c0, c1⟩; go_simp; rfl
                  try simp only [Act.put, List.setIfInBounds_toArray, List.set_cons_zero, List.set_cons_succ]
                  refine takeL (i := 6) (v := ?_) rfl (by kernel_rfl) (by kernel_rfl) (by kernel_rfl) (fun _ _ _ h => h) (Or.inl ⟨by rfl, ?_⟩) hHeld ?_
                  rotate_left
                  · rintro w' ⟨c0, c1⟩; go_simp; rfl
                  try simp only [Act.put, List.setIfInBounds_toArray, List.set_cons_zero, List.set_cons_succ]
                  refine takeL (i := 7) (v := ?_) rfl (by kernel_rfl) (by kernel_rfl) (by kernel_rfl) (fun _ _ _ h => h) (Or.inl ⟨by rfl, ?_⟩) hHeld ?_
                  rotate_left
                  · rintro w' ⟨c0, c1⟩; go_simp; rfl
                  try simp only [Act.put, List.setIfInBounds_toArray, List.set_cons_zero, List.set_cons_succ]
                  refine takeL (i := 8) (v := ?_) rfl (by kernel_rfl) (by kernel_rfl) (by kernel_rfl) (fun _ _ _ h => h) (Or.inl ⟨by rfl, ?_⟩) hHeld ?_
                  rotate_left
                  · rintro w' ⟨c0, c1⟩; go_simp; rfl
                  try simp only [Act.put, List.setIfInBounds_toArray, List.set_cons_zero, List.set_cons_succ]
                  refine takeL (i := 9) (v := ?_) rfl (by kernel_rfl) (by kernel_rfl) (by kernel_rfl) (fun _ _ _ h => h) (Or.inl ⟨by rfl, ?_⟩) hHeld ?_
                  rotate_left
                  · rintro w' ⟨c0, c1⟩; go_simp; rfl
                  try simp only [Act.put, List.setIfInBounds_toArray, List.set_cons_zero, List.set_cons_succ]
                  by_cases hxy : y.1 = nm
                  · have heq : (Y.toList == X.toList) = true := by rw [← HYB.out, ← HXB.out, hxy]; simp
                    have HNN : Hid (¬ OkS l) := hid (HNO.out (fun h => h.2 (by rw [← hxy]; exact List.mem_map.2 ⟨y, HMY.out, rfl⟩)))
                    refine takeL (i := 10) (v := .bool true) rfl (by kernel_rfl) (by kernel_rfl) (by kernel_rfl) (fun _ _ _ h => h) (Or.inl ⟨by rfl, ?_⟩) hHeld ?_
                    · rintro w' _; go_simp; try rfl
                    try simp only [Act.put, List.setIfInBounds_toArray, List.set_cons_zero, List.set_cons_succ]
                    refine wpAnyH_done (by kernel_rfl) ?_ _
                    clear hHeld heq hxy
                    go_wp2
                    refine bodyPost_ret (results_tmp2 Tryz.results24 _ _ _) rfl ?_
                    exact ⟨HSd.out.bl, .inr ⟨HNN.out, rfl⟩⟩
                  · have heq : (Y.toList == X.toList) = false := by rw [← HYB.out, ← HXB.out]; simp; exact hxy
                    have HNI2 : Hid (nm ∉ (l.take (k + 1)).map (·.1)) := hid (by
                      rw [HTY.out, List.map_append]
                      intro h
                      rcases List.mem_append.1 h with h | h
                      · exact HNI.out h
                      · exact hxy (List.mem_singleton.1 h).symm)
                    refine takeL (i := 10) (v := .bool false) rfl (by kernel_rfl) (by kernel_rfl) (by kernel_rfl) (fun _ _ _ h => h) (Or.inl ⟨by rfl, ?_⟩) hHeld ?_
                    · rintro w' _; go_simp; try rfl
                    try simp only [Act.put, List.setIfInBounds_toArray, List.set_cons_zero, List.set_cons_succ]
                    refine wpAnyH_done (by kernel_rfl) ?_ _
                    clear hHeld heq hxy
                    go_wp2
                    go_roundg (i - (k + 1))
                    case measure => omega
                    case rel => exact ⟨k + 1, by omega, rfl, by go_num, HSd, HNI2⟩
                · have hlki : ¬ (k : Int) < (i : Int) := by omega
                  have HGOOD : Hid (okSt (nm, er) ∧ ¬ nm ∈ (l.take i).map (·.1)) := hid ⟨HOKX.out, by
                    have := HNI.out
                    rwa [show k = i by omega] at this⟩
                  have HN3 : Hid ((∀ x ∈ l.take (i + 1), okSt x) ∧ ((l.take (i + 1)).map (·.1)).Nodup) := hid (by
                    rw [HTX.out]
                    refine ⟨fun y hy => ?_, ?_⟩
                    · rcases List.mem_append.1 hy with hy | hy
                      · exact HND.out.1 y hy
                      · rw [List.mem_singleton.1 hy]; exact HGOOD.out.1
                    · rw [List.map_append]
                      exact nodup_snocS HND.out.2 HGOOD.out.2)
                  obtain ⟨Z, HZ⟩ : ∃ Z : ByteArray, Hid (⟨(okWo ++ nm).toArray⟩ = Z) := ⟨_, hid rfl⟩
                  have hcat : (⟨#[111, 107, 32]⟩ : ByteArray) ++ X = Z := by rw [← HXB.out, ← HZ.out]; exact str_app okWo nm
                  have CT := hid (C33.out wr (okWo ++ nm) Z HZ (by simp [okWo]) (by rw [List.length_append]; have := HNL.out; simp [okWo]; omega))
                  have q0 := (HK0.out wr HSq.out.bl).1
                  go_wp2_with fail
                  refine CT.out.mono ?_
                  rintro e w5 ⟨hb5, g5, c5, rfl, hg5, hp5⟩
                  have HS5 := hid (HSq.out.below hb5)
                  have HP5 := hid hp5
                  obtain ⟨K5, HK5⟩ : ∃ n, Hid ((pkt (tx (okWo ++ nm))).length = n) := ⟨_, rfl⟩
                  rw [HK5.out]
                  have q1 := (HK0.out w5 HS5.out.bl).2
                  clear hb5 hg5 hp5 q0
                  by_cases hz : er = 0
                  · obtain ⟨v6, w6, hr6, hs6⟩ := HS5.out.sl g5 0 c5 (pkt (tx (okWo ++ nm))) HP5.out (by have := HSL.out; rw [pkt_len]; have := tx_len (okWo ++ nm); have := HNL.out; rw [List.length_append] at *; simp [okWo] at *; omega) 25
                    rw [HK5.out] at hr6
                    have HS6 : Hid (Wst G w w6 v6 (pktL (((l.take (i + 1)).map stT).map tx))) := hid (by
                      rw [HTK.out]
                      have e : stT (nm, er) = okWo ++ nm := by rw [stT, if_pos hz]
                      rw [e]
                      exact hs6)
                    have hzi : ¬ (0 : Int) < er := by omega
                    clear hs6 hz
                    go_wp2_with (first | (at_builtin; refine wpList_app rfl _ _ 25 25 rfl 25 rfl _ _ rfl rfl hr6 ?_) | fail)
                    go_roundg (m - (i + 1))
                    case measure => omega
                    case rel => exact ⟨i + 1, by omega, rfl, by go_num, HS6, HN3⟩
                  · have hzi : (0 : Int) < er := by omega
                    obtain ⟨n, HNN⟩ : ∃ n : Nat, Hid ((n : Int) = er) := ⟨er.toNat, hid (by omega)⟩
                    obtain ⟨D, HD⟩ : ∃ Z : ByteArray, Hid (⟨(d3 n).toArray⟩ = Z) := ⟨_, hid rfl⟩
                    have hDs : D.size ≤ 3 := by rw [← HD.out, txt_len]; exact d3_len n
                    obtain ⟨Z1, HZ1⟩ : ∃ Z : ByteArray, Hid ((⟨#[110, 103, 32]⟩ : ByteArray) ++ X = Z) := ⟨_, hid rfl⟩
                    obtain ⟨Z2, HZ2⟩ : ∃ Z : ByteArray, Hid (Z1 ++ (⟨#[32]⟩ : ByteArray) = Z) := ⟨_, hid rfl⟩
                    obtain ⟨Z3, HZ3⟩ : ∃ Z : ByteArray, Hid (Z2 ++ D = Z) := ⟨_, hid rfl⟩
                    have hZ1 : Z1.size = 3 + q := by rw [← HZ1.out, ByteArray.size_append, hXs]; rfl
                    have hZ2 : Z2.size = 3 + q + 1 := by rw [← HZ2.out, ByteArray.size_append, hZ1]; rfl
                    have HTT : Hid ((⟨(stT (nm, er)).toArray⟩ : ByteArray) = Z3) := hid (by
                      rw [← HZ3.out, ← HZ2.out, ← HZ1.out, ← HXB.out, ← HD.out, show (⟨#[110, 103, 32]⟩ : ByteArray) = ⟨ngWo.toArray⟩ from rfl, show (⟨#[32]⟩ : ByteArray) = ⟨([32] : Str).toArray⟩ from rfl, str_app, str_app, str_app]
                      unfold stT
                      rw [if_neg hz, ← HNN.out]
                      simp)
                    have HSd : Hid (Wst G w w5.drew u4 (pktL (((l.take i).map stT).map tx))) := hid HS5.out.drew
                    have HQS : Hid (∀ W, Below w5.drew.heap.size w5.drew W → Qs b (off + i * 2) X er W) := hid (fun W hW => by
                      have hbw : Below G w W := HSd.out.bl.trans (hW.mono HSd.out.le)
                      exact ⟨(HK0.out W hbw).1, (HK0.out W hbw).2⟩)
                    have C51 : Hid (∀ W : World, Calls Tryz.prog 51 #[.int .i64 er] W fun e w' => e = .returned (.string D) ∧ Below W.heap.size W w') := hid (fun W => by
                      rw [← HNN.out, ← HD.out]
                      exact decimal3 n (by have := HNN.out; omega) W)
                    have CT3 : Hid (∀ W : World, Calls Tryz.prog 33 #[.string Z3] W (PostLi (tx (stT (nm, er))) W)) := hid (fun W => C33.out W (stT (nm, er)) Z3 HTT (by rw [stT, if_neg hz]; simp [ngWo]) (by have := stT_len HGOOD.out.1; omega))
                    clear q1
                    have q1 := (HK0.out w5 HS5.out.bl).2
                    clear hz
                    go_wp2_with fail
                    refine wp_region_held_drew (S := Qs b (off + i * 2) X er) (by kernel_rfl) (HQS.out _ (Below.refl _ _)) (fun hHeld => ?_)
                    generalize w5.drew = u0 at hHeld HSd HQS ⊢
                    refine takeL (i := 0) (v := ?_) rfl (by kernel_rfl) (by kernel_rfl) (by kernel_rfl) (fun _ _ _ h => h) (Or.inl ⟨by rfl, ?_⟩) hHeld ?_
                    rotate_left
                    · rintro w' ⟨c0, c1⟩; go_simp; rfl
                    try simp only [Act.put, List.setIfInBounds_toArray, List.set_cons_zero, List.set_cons_succ]
                    refine takeL (i := 1) (v := ?_) rfl (by kernel_rfl) (by kernel_rfl) (by kernel_rfl) (fun _ _ _ h => h) (Or.inl ⟨by rfl, ?_⟩) hHeld ?_
                    rotate_left
                    · rintro w' ⟨c0, c1⟩; go_simp; rfl
                    try simp only [Act.put, List.setIfInBounds_toArray, List.set_cons_zero, List.set_cons_succ]
                    refine takeL (i := 2) (v := ?_) rfl (by kernel_rfl) (by kernel_rfl) (by kernel_rfl) (fun _ _ _ h => h) (Or.inl ⟨by rfl, ?_⟩) hHeld ?_
                    rotate_left
                    · rintro w' ⟨c0, c1⟩; go_simp; rfl
                    try simp only [Act.put, List.setIfInBounds_toArray, List.set_cons_zero, List.set_cons_succ]
                    refine takeL (i := 3) (v := ?_) rfl (by kernel_rfl) (by kernel_rfl) (by kernel_rfl) (fun _ _ _ h => h) (Or.inl ⟨by rfl, ?_⟩) hHeld ?_
                    rotate_left
                    · rintro w' ⟨c0, c1⟩; go_simp; rfl
                    try simp only [Act.put, List.setIfInBounds_toArray, List.set_cons_zero, List.set_cons_succ]
                    refine takeL (i := 4) (v := ?_) rfl (by kernel_rfl) (by kernel_rfl) (by kernel_rfl) (fun _ _ _ h => h) (Or.inl ⟨by rfl, ?_⟩) hHeld ?_
                    rotate_left
                    · rintro w' ⟨c0, c1⟩; go_simp; rfl
                    try simp only [Act.put, List.setIfInBounds_toArray, List.set_cons_zero, List.set_cons_succ]
                    refine takeL (i := 5) (v := .string Z1) rfl (by kernel_rfl) (by kernel_rfl) (by kernel_rfl) (fun _ _ _ h => h) (Or.inl ⟨by rfl, ?_⟩) hHeld ?_
                    · rintro w' ⟨c0, c1⟩; rw [← HZ1.out]; go_simp; first | done | omega | rfl
                    try simp only [Act.put, List.setIfInBounds_toArray, List.set_cons_zero, List.set_cons_succ]
                    refine takeL (i := 6) (v := .string Z2) rfl (by kernel_rfl) (by kernel_rfl) (by kernel_rfl) (fun _ _ _ h => h) (Or.inl ⟨by rfl, ?_⟩) hHeld ?_
                    · rintro w' ⟨c0, c1⟩; rw [← HZ2.out]; go_simp; first | done | omega | rfl
                    try simp only [Act.put, List.setIfInBounds_toArray, List.set_cons_zero, List.set_cons_succ]
                    refine takeL (i := 7) (v := ?_) rfl (by kernel_rfl) (by kernel_rfl) (by kernel_rfl) (fun _ _ _ h => h) (Or.inl ⟨by rfl, ?_⟩) hHeld ?_
                    rotate_left
                    · rintro w' ⟨c0, c1⟩; go_simp; rfl
                    try simp only [Act.put, List.setIfInBounds_toArray, List.set_cons_zero, List.set_cons_succ]
                    refine takeL (i := 8) (v := ?_) rfl (by kernel_rfl) (by kernel_rfl) (by kernel_rfl) (fun _ _ _ h => h) (Or.inl ⟨by rfl, ?_⟩) hHeld ?_
                    rotate_left
                    · rintro w' ⟨c0, c1⟩; go_simp; rfl
                    try simp only [Act.put, List.setIfInBounds_toArray, List.set_cons_zero, List.set_cons_succ]
                    refine takeL (i := 9) (v := ?_) rfl (by kernel_rfl) (by kernel_rfl) (by kernel_rfl) (fun _ _ _ h => h) (Or.inl ⟨by rfl, ?_⟩) hHeld ?_
                    rotate_left
                    · rintro w' ⟨c0, c1⟩; go_simp; rfl
                    try simp only [Act.put, List.setIfInBounds_toArray, List.set_cons_zero, List.set_cons_succ]
                    refine takeL (i := 10) (v := ?_) rfl (by kernel_rfl) (by kernel_rfl) (by kernel_rfl) (fun _ _ _ h => h) (Or.inl ⟨by rfl, ?_⟩) hHeld ?_
                    rotate_left
                    · rintro w' ⟨c0, c1⟩; go_simp; rfl
                    try simp only [Act.put, List.setIfInBounds_toArray, List.set_cons_zero, List.set_cons_succ]
                    refine takeL (i := 11) (v := ?_) rfl (by kernel_rfl) (by kernel_rfl) (by kernel_rfl) (fun _ _ _ h => h) (Or.inl ⟨by rfl, ?_⟩) hHeld ?_
                    rotate_left
                    · rintro w' ⟨c0, c1⟩; go_simp; rfl
                    try simp only [Act.put, List.setIfInBounds_toArray, List.set_cons_zero, List.set_cons_succ]
                    refine wpAnyH_ready (rs := [12]) (by kernel_rfl) (by simp) ?_
                    refine consL rfl (fun KK hKK => ?_) AllReadyH.nil
                    refine step_callv (by rfl) 51 [.tmp 82] _ [.int .i64 er] _ (by rfl) (by rfl) (enter51 _) (C51.out _) ?_
                    rintro ev w6 ⟨rfl, hb⟩
                    refine ⟨_, rfl, ?_⟩
                    have HB6 := hid hb
                    refine hKK.out _ _ (HQS.out _ hb) (fun hHeld2 => ?_)
                    clear hKK KK hb
                    try simp only [Act.put, List.setIfInBounds_toArray, List.set_cons_zero, List.set_cons_succ]
                    refine takeL (i := 13) (v := .string Z3) rfl (by kernel_rfl) (by kernel_rfl) (by kernel_rfl) (fun _ _ _ h => h) (Or.inl ⟨by rfl, ?_⟩) hHeld2 ?_
                    · rintro w' ⟨c0, c1⟩; rw [← HZ3.out]; go_simp; first | done | omega | rfl
                    try simp only [Act.put, List.setIfInBounds_toArray, List.set_cons_zero, List.set_cons_succ]
                    refine wpAnyH_ready (rs := [14]) (by kernel_rfl) (by simp) ?_
                    refine consL rfl (fun KK hKK => ?_) AllReadyH.nil
                    refine step_callv (by rfl) 33 [.tmp 84] _ [.string Z3] _ (by rfl) (by rfl) (enter33 _) (CT3.out _) ?_
                    rintro ev w7 ⟨hb7, g7, c7, rfl, hg7, hp7⟩
                    refine ⟨_, rfl, ?_⟩
                    have HB7 : Hid (Below u0.heap.size u0 w7) := hid (HB6.out.trans (hb7.mono HB6.out.size))
                    have HP7 := hid hp7
                    refine hKK.out _ _ (HQS.out _ HB7.out) (fun hHeld3 => ?_)
                    clear hKK KK hb7 hg7 hp7
                    try simp only [Act.put, List.setIfInBounds_toArray, List.set_cons_zero, List.set_cons_succ]
                    refine takeL (i := 15) (v := ?_) rfl (by kernel_rfl) (by kernel_rfl) (by kernel_rfl) (fun _ _ _ h => h) (Or.inl ⟨by rfl, ?_⟩) hHeld3 ?_
                    rotate_left
                    · rintro w' ⟨c0, c1⟩; go_simp; rfl
                    try simp only [Act.put, List.setIfInBounds_toArray, List.set_cons_zero, List.set_cons_succ]
                    refine wpAnyH_done (by kernel_rfl) ?_ _
                    clear hHeld hHeld2 hHeld3
                    have HS7 := hid (HSd.out.below HB7.out)
                    obtain ⟨v8, w8, hr8, hs8⟩ := HS7.out.sl g7 0 c7 (pkt (tx (stT (nm, er)))) HP7.out (by have := HSL.out; rw [pkt_len]; have := tx_len (stT (nm, er)); have := stT_len HGOOD.out.1; omega) 25
                    obtain ⟨K8, HK8⟩ : ∃ n, Hid ((pkt (tx (stT (nm, er)))).length = n) := ⟨_, rfl⟩
                    rw [HK8.out] at hr8
                    rw [HK8.out]
                    have HS8 : Hid (Wst G w w8 v8 (pktL (((l.take (i + 1)).map stT).map tx))) := hid (by
                      rw [HTK.out]
                      exact hs8)
                    clear hs8
                    go_wp2_with (first | (at_builtin; refine wpList_app rfl _ _ 25 25 rfl 25 rfl _ _ rfl rfl hr8 ?_) | fail)
                    go_roundg (m - (i + 1))
                    case measure => omega
                    case rel => exact ⟨i + 1, by omega, rfl, by go_num, HS8, HN3⟩
            · have h0i : ¬ er < 0 := by omega
              have h9i : (999 : Int) < er := by omega
              have HNN : Hid (¬ OkS l) := hid (HNO.out (fun h => h9 h.1.2.2))
              rw [hN]
              clear h0 h9 hN
              go_wp2
              refine bodyPost_ret (results_tmp2 Tryz.results24 _ _ _) rfl ?_
              exact ⟨HB1.out, .inr ⟨HNN.out, rfl⟩⟩
          · have h0i : er < 0 := by omega
            have HNN : Hid (¬ OkS l) := hid (HNO.out (fun h => h0 h.1.2.1))
            rw [hN]
            clear h0 hN
            go_wp2
            refine bodyPost_ret (results_tmp2 Tryz.results24 _ _ _) rfl ?_
            exact ⟨HB1.out, .inr ⟨HNN.out, rfl⟩⟩
        · have hNf : Nm.isN nm = false := by simpa using hN
          have HNN : Hid (¬ OkS l) := hid (HNO.out (fun h => hN h.1.1))
          rw [hNf]
          clear hN hNf
          go_wp2
          refine bodyPost_ret (results_tmp2 Tryz.results24 _ _ _) rfl ?_
          exact ⟨HB1.out, .inr ⟨HNN.out, rfl⟩⟩
      · have hlti : ¬ (i : Int) < (m : Int) := by omega
        have hdone : l.take i = l := List.take_of_length_le (by rw [HM.out]; omega)
        have hsd := HS.out
        have hsl := HSL.out
        have hnd := HND.out
        rw [hdone] at hsd hsl hnd
        obtain ⟨v4, w4, hr4, hs4⟩ := hsd.str [48, 48, 48, 48] (by have : ([48, 48, 48, 48] : Str).length = 4 := rfl; omega) 25
        have HF : Hid (Wst G w w4 v4 (stB l)) := hid (by rw [stB_parts]; exact hs4)
        have HOK : Hid (OkS l) := hid ⟨hnd.1, hnd.2, by have := HM.out; omega⟩
        clear hsd hsl hnd hs4 hdone
        go_wp2_with (first | (at_builtin; refine wpList_app rfl _ _ 25 9 rfl 25 rfl _ _ rfl rfl hr4 ?_) | fail)
        refine bodyPost_ret (results_tmp2 Tryz.results24 _ _ _) rfl ?_
        exact ⟨HF.out.bl, .inl ⟨HOK.out, _, rfl, HF.out.own⟩⟩
end Go.Proofs.YtijeogdnjeamaaaGreatDoor
namespace Go.Proofs.YtijeogdnjeamaaaGreatDoor
open Go.RowKit
set_option linter.unusedVariables false
set_option linter.unusedSimpArgs false
theorem two_of (l : List Str) (h : l.length = 2) : ∃ p q, l = [p, q] := by
  match l, h with
  | [p, q], _ => exact ⟨p, q, rfl⟩
end Go.Proofs.YtijeogdnjeamaaaGreatDoor
