import Derived.Test.YtbpdielmdhhdfaaGreatDoorMu37
/- The law 'ObjectTags': its walk. -/
namespace Go.Proofs.YtbpdielmdhhdfaaGreatDoor
open Go.RowKit
set_option linter.unusedVariables false
set_option linter.unusedSimpArgs false
/-- A text is read out of its cell. -/
theorem wp_load_str {op : Oper} {a : Act} {w : World} {K : Act → World → Prop} {Q : Exit → Act → World → Prop} (x : Operand) (ho : op.op = .load 9 x) (b o : Nat) (hx : a.eval x = .pointer (some ⟨b, o, none⟩)) (s : ByteArray) (hc : w.cell? ⟨b, o, none⟩ = some (.string s))
    (h : K (a.put op.dst (.string s)) w) : op.wp Tryz.prog a w K Q := by
  unfold Oper.wp execOp
  simp only [ho, hx]
  go_simp
  exact h
/-- What is written of a tag, and the error's number. -/
def Wr (t : Tg) (X : List Int) (er : Int) : Prop := (okG t ∧ X = nums (tagB t) ∧ er = 0) ∨ (¬ okG t ∧ X = [] ∧ er = 23)
theorem wr_some (t : Tg) : ∃ X er, Wr t X er := by
  by_cases h : okG t
  · exact ⟨_, _, .inl ⟨h, rfl, rfl⟩⟩
  · exact ⟨_, _, .inr ⟨h, rfl, rfl⟩⟩
theorem sl_none (W : World) : Sl W none 0 [] := ⟨Nat.le_refl _, (fun h => by cases h), fun _ => rfl⟩
theorem write_x (t : Tg) (hf : Wf t) (X : List Int) (er : Int) (hX : Wr t X er) (h1 : t.name.length ≤ 1000000) (h4 : t.msg.length ≤ 1000000) (w : World) (ht : Tab w) :
    Calls Tryz.prog 26 #[.agg (tgV t).toArray] w fun e w' => Below w.heap.size w w' ∧ ∃ ax cx, e = .returned (.tuple #[.slice ax X.length cx, errV er]) ∧ Sl w' ax cx X := by
  refine (writeTag_any t hf.1 hf.2 h1 h4 w ht).mono ?_
  rintro e w' ⟨hb, hor⟩
  refine ⟨hb, ?_⟩
  rcases hX with ⟨hok, rfl, rfl⟩ | ⟨hno, rfl, rfl⟩
  · rcases hor with ⟨_, g, cap, rfl, _, hmk⟩ | ⟨hno, _⟩
    · exact ⟨some ⟨g, 0, none⟩, cap, by rw [nums_len]; rfl, hmk.sl⟩
    · exact absurd hok hno
  · rcases hor with ⟨hok, _⟩ | ⟨_, rfl⟩
    · exact absurd hok hno
    · exact ⟨none, 0, rfl, sl_none w'⟩
theorem writeR_x (t : Tg) (hf : Wf t) (X : List Int) (er : Int) (hX : Wr t X er) (w : World) :
    Calls Tryz.prog 28 #[.agg (tgV t).toArray] w fun e w' => Below w.heap.size w w' ∧ ∃ ax cx, e = .returned (.tuple #[.slice ax X.length cx, .int .i64 er]) ∧ Sl w' ax cx X := by
  refine (writeTagR_any t hf.1 hf.2 w).mono ?_
  rintro e w' ⟨hb, hor⟩
  refine ⟨hb, ?_⟩
  rcases hX with ⟨hok, rfl, rfl⟩ | ⟨hno, rfl, rfl⟩
  · rcases hor with ⟨_, g, cap, rfl, _, hmk⟩ | ⟨hno, _⟩
    · exact ⟨some ⟨g, 0, none⟩, cap, by rw [nums_len], hmk.sl⟩
    · exact absurd hok hno
  · rcases hor with ⟨hok, _⟩ | ⟨_, rfl⟩
    · exact absurd hok hno
    · exact ⟨none, 0, rfl, sl_none w'⟩
theorem tgV_at (t : Tg) (h : t.id.length = 20) (i : Nat) : (tgV t)[20 + i]? = ([.int .i64 t.kind, .string ⟨t.name.toArray⟩, .string ⟨t.per.name.toArray⟩, .string ⟨t.per.mail.toArray⟩, .int .i64 t.per.time, .int .i64 t.per.zone, .string ⟨t.msg.toArray⟩] : List Value)[i]? := by
  have hl : (row .u8 t.id).length = 20 := by rw [row_len]; exact h
  unfold tgV
  rw [List.getElem?_append_right (by omega), hl, Nat.add_sub_cancel_left]
theorem get_of {l : List Value} {i : Nat} {v : Value} (h : l[i]? = some v) (hi : i < l.length) : l[i]'hi = v := by
  rw [List.getElem?_eq_getElem hi] at h
  exact Option.some.inj h
set_option maxRecDepth 20000 in
set_option maxHeartbeats 4000000 in
theorem walkT_long (t : Tg) (hf : Wf t) (a : Option Addr) (len cap : Nat) (w : World) (h : 20000 < t.msg.length + len + t.name.length + t.per.name.length) (b1 : t.msg.length ≤ 200000000000000) (b2 : len ≤ 200000000000000) (b3 : t.name.length ≤ 200000000000000) (b4 : t.per.name.length ≤ 200000000000000) :
    Calls Tryz.prog 6 #[.agg (tgV t).toArray, .slice a len cap] w fun e w' => e = .returned (.bool true) ∧ Below w.heap.size w w' := by
  obtain ⟨N, HNN⟩ : ∃ S : ByteArray, Hid (⟨t.name.toArray⟩ = S) := ⟨_, rfl⟩
  obtain ⟨M, HMM⟩ : ∃ S : ByteArray, Hid (⟨t.msg.toArray⟩ = S) := ⟨_, rfl⟩
  obtain ⟨P, HPP⟩ : ∃ S : ByteArray, Hid (⟨t.per.name.toArray⟩ = S) := ⟨_, rfl⟩
  obtain ⟨n1, Hn1⟩ : ∃ n, Hid (t.name.length = n) := ⟨_, rfl⟩
  obtain ⟨m1, Hm1⟩ : ∃ n, Hid (t.msg.length = n) := ⟨_, rfl⟩
  obtain ⟨p1, Hp1⟩ : ∃ n, Hid (t.per.name.length = n) := ⟨_, rfl⟩
  have sN : N.size = n1 := by rw [← HNN.out, txt_len]; exact Hn1.out
  have sM : M.size = m1 := by rw [← HMM.out, txt_len]; exact Hm1.out
  have sP : P.size = p1 := by rw [← HPP.out, txt_len]; exact Hp1.out
  rw [Hn1.out, Hm1.out, Hp1.out] at h
  rw [Hm1.out] at b1
  rw [Hn1.out] at b3
  rw [Hp1.out] at b4
  have hci : (20000 : Int) < (m1 : Int) + len + n1 + p1 := by omega
  obtain ⟨TV, HTV⟩ : ∃ l : List Value, Hid (tgV t = l) := ⟨_, rfl⟩
  have hvl : TV.length = 27 := by rw [← HTV.out]; exact tgV_len t hf.1
  have hA26 : TV[26]'(by omega) = .string M := get_of (by rw [← HTV.out, ← HMM.out]; exact tgV_at t hf.1 6) _
  have hA21 : TV[21]'(by omega) = .string N := get_of (by rw [← HTV.out, ← HNN.out]; exact tgV_at t hf.1 1) _
  have hA22 : TV[22]'(by omega) = .string P := get_of (by rw [← HTV.out, ← HPP.out]; exact tgV_at t hf.1 2) _
  have HB : Hid (∀ o, Below w.heap.size w (w.alloc o)) := fun o => (Below.refl _ w).alloc (Nat.le_refl _) _
  rw [HTV.out]
  go_enter Tryz.func6, Tryz.ntmps6
  go_wp2
  go_ret
  exact ⟨rfl, HB.out _⟩
set_option maxRecDepth 20000 in
set_option maxHeartbeats 4000000 in
theorem walkT_short (t : Tg) (hf : Wf t) (a : Option Addr) (cap : Nat) (ys : List Int) (w : World) (h : t.msg.length + ys.length + t.name.length + t.per.name.length ≤ 20000) (hy : IsB ys) (hS : Sl w a cap ys) (hw : Lw w) (he : Ers w) :
    Calls Tryz.prog 6 #[.agg (tgV t).toArray, .slice a ys.length cap] w fun e w' => e = .returned (.bool true) ∧ Below w.heap.size w w' := by
  obtain ⟨X, er, hX⟩ := wr_some t
  have HX : Hid (Wr t X er) := hX
  have HXB : Hid (IsB X) := hid (by
    rcases hX with ⟨_, rfl, _⟩ | ⟨_, rfl, _⟩
    · exact nums_isB _
    · intro x hx; cases hx)
  have HXL2 : Hid (X.length ≤ 200000) := hid (by
    rcases hX with ⟨hok, rfl, _⟩ | ⟨_, rfl, _⟩
    · rw [nums_len]; exact tagB_len t hf.1 hok
    · exact Nat.zero_le _)
  obtain ⟨xl, HXL⟩ : ∃ xl, Hid (X.length = xl) := ⟨_, rfl⟩
  have HX0 : Hid (er ≠ 0 → xl = 0) := hid (by
    rw [← HXL.out]
    rcases hX with ⟨_, _, rfl⟩ | ⟨_, rfl, _⟩
    · intro h; exact absurd rfl h
    · intro _; rfl)
  have h1m : t.name.length ≤ 1000000 := by omega
  have h4m : t.msg.length ≤ 1000000 := by omega
  clear hX
  obtain ⟨N, HNN⟩ : ∃ S : ByteArray, Hid (⟨t.name.toArray⟩ = S) := ⟨_, rfl⟩
  obtain ⟨M, HMM⟩ : ∃ S : ByteArray, Hid (⟨t.msg.toArray⟩ = S) := ⟨_, rfl⟩
  obtain ⟨P, HPP⟩ : ∃ S : ByteArray, Hid (⟨t.per.name.toArray⟩ = S) := ⟨_, rfl⟩
  obtain ⟨n1, Hn1⟩ : ∃ n, Hid (t.name.length = n) := ⟨_, rfl⟩
  obtain ⟨m1, Hm1⟩ : ∃ n, Hid (t.msg.length = n) := ⟨_, rfl⟩
  obtain ⟨p1, Hp1⟩ : ∃ n, Hid (t.per.name.length = n) := ⟨_, rfl⟩
  obtain ⟨yl, HYL⟩ : ∃ n, Hid (ys.length = n) := ⟨_, rfl⟩
  obtain ⟨kd, HKD⟩ : ∃ k, Hid (t.kind = k) := ⟨_, rfl⟩
  have sN : N.size = n1 := by rw [← HNN.out, txt_len]; exact Hn1.out
  have sM : M.size = m1 := by rw [← HMM.out, txt_len]; exact Hm1.out
  have sP : P.size = p1 := by rw [← HPP.out, txt_len]; exact Hp1.out
  rw [Hn1.out, Hm1.out, Hp1.out, HYL.out] at h
  have hci : ¬ (20000 : Int) < (m1 : Int) + yl + n1 + p1 := by omega
  obtain ⟨TV, HTV⟩ : ∃ l : List Value, Hid (tgV t = l) := ⟨_, rfl⟩
  have hvl : TV.length = 27 := by rw [← HTV.out]; exact tgV_len t hf.1
  have HVL : Hid (TV.length = 27) := hvl
  have hA26 : TV[26]'(by omega) = .string M := get_of (by rw [← HTV.out, ← HMM.out]; exact tgV_at t hf.1 6) _
  have hA21 : TV[21]'(by omega) = .string N := get_of (by rw [← HTV.out, ← HNN.out]; exact tgV_at t hf.1 1) _
  have hA22 : TV[22]'(by omega) = .string P := get_of (by rw [← HTV.out, ← HPP.out]; exact tgV_at t hf.1 2) _
  obtain ⟨G, HG⟩ : ∃ G, Hid (w.heap.size = G) := ⟨_, rfl⟩
  obtain ⟨w0, HW0⟩ : ∃ w0, Hid (w.alloc (.cells TV.toArray 71) = w0) := ⟨_, rfl⟩
  have HB0 : Hid (Below G w w0) := hid (by rw [← HW0.out, ← HG.out]; exact (Below.refl _ w).alloc (Nat.le_refl _) _)
  have BG0 : Hid (Bx G TV 71 w0) := ⟨by rw [← HW0.out, ← HG.out]; exact heap_alloc_new w _⟩
  have HLW : Hid (∀ W, Below G w W → Lw W) := fun W hW => hw.below (by rw [HG.out]; exact hW)
  have HER : Hid (∀ W, Below G w W → Ers W) := fun W hW => he.below (by rw [HG.out]; exact hW)
  have HSY : Hid (∀ W, Below G w W → Sl W a cap ys) := fun W hW => hS.below (by rw [HG.out]; exact hW)
  have CL : Hid ((w.alloc (.cells TV.toArray 71)).rangeAt w.heap.size 0 TV) := hid (range_row (heap_alloc_new w _))
  have hi71 : (Tryz.prog.info? 71).map (·.size) = some TV.length := by rw [hvl]; exact Tryz.size71
  have hi75 : (Tryz.prog.info? 75).map (·.size) = some TV.length := by rw [hvl]; exact Tryz.size75
  have C26 : Hid (Calls Tryz.prog 26 #[.agg TV.toArray] w0 fun e w' => Below w0.heap.size w0 w' ∧ ∃ ax cx, e = .returned (.tuple #[.slice ax xl cx, errV er]) ∧ Sl w' ax cx X) := hid (by
    rw [← HTV.out, ← HXL.out]
    exact write_x t hf X er HX.out h1m h4m w0 (HLW.out _ HB0.out).tab)
  have C28 : Hid (∀ W, Calls Tryz.prog 28 #[.agg TV.toArray] W fun e w' => Below W.heap.size W w' ∧ ∃ ax cx, e = .returned (.tuple #[.slice ax xl cx, .int .i64 er]) ∧ Sl w' ax cx X) := fun W => by
    rw [← HTV.out, ← HXL.out]
    exact writeR_x t hf X er HX.out W
  have HTE : Hid (∀ W, Below G w W → Calls Tryz.prog 11 #[errV er] W fun e w' => e = .returned (.int .i64 er) ∧ Below W.heap.size W w') := fun W hW => tell_any er W (HLW.out W hW)
  have HRY : Hid (∀ W, Below G w W → Calls Tryz.prog 29 #[.slice a yl cap] W fun e w' => e = .returned (.bool true) ∧ Below W.heap.size W w') := fun W hW => by
    have := readsTag_any a cap ys W (by rw [HYL.out]; omega) hy (HSY.out W hW) (HLW.out W hW) (HER.out W hW)
    rw [HYL.out] at this
    exact this
  have HRX : Hid (∀ W ax cx, Below G w W → Sl W ax cx X → Calls Tryz.prog 29 #[.slice ax xl cx] W fun e w' => e = .returned (.bool true) ∧ Below W.heap.size W w') := fun W ax cx hW hx => by
    have := readsTag_any ax cx X W HXL2.out HXB.out hx (HLW.out W hW) (HER.out W hW)
    rw [HXL.out] at this
    exact this
  obtain ⟨PV, HPV⟩ : ∃ l : List Value, Hid ((perV t.per).toList = l) := ⟨_, rfl⟩
  have CP : Hid (∀ W, Calls Tryz.prog 27 #[.agg PV.toArray] W fun e w' => e = .returned (.agg PV.toArray) ∧ Below W.heap.size W w') := fun W => by rw [← HPV.out]; exact person_any t.per W
  have hi58 : (Tryz.prog.info? 58).map (·.size) = some PV.length := by rw [← HPV.out]; exact Tryz.size58
  have hi64 : (Tryz.prog.info? 64).map (·.size) = some PV.length := by rw [← HPV.out]; exact Tryz.size64
  have I64 : Hid ((Tryz.prog.info? 64).map (·.size) = some PV.toArray.size) := hid (by rw [List.size_toArray]; exact hi64)
  have O64 : Hid (PV.toArray.all (·.oneCell') = true) := hid (by rw [← HPV.out]; exact perV_one t.per)
  have E64 : Hid ((#[.string ⟨#[]⟩, .string ⟨#[]⟩, .int .i64 0, .int .i64 0] : Array Value).size = PV.toArray.size) := hid (by rw [← HPV.out]; rfl)
  obtain ⟨RF, HRF⟩ : ∃ R : List Value, Hid (row .u8 t.id = R) := ⟨_, rfl⟩
  have hi32 : (Tryz.prog.info? 32).map (·.size) = some RF.length := by rw [← HRF.out, row_len, hf.1]; exact Tryz.size32
  have HBU : Hid (Tryz.prog.built 75 [(0, .agg RF.toArray), (1, .int .i64 kd), (2, .string N), (3, .agg PV.toArray), (4, .string M)] = some TV.toArray) := hid (by
    rw [← HRF.out, ← HKD.out, ← HNN.out, ← HPV.out, ← HMM.out, ← HTV.out]
    exact built75 t hf.1)
  obtain ⟨ZV, HZ⟩ : ∃ l : List Value, Hid (l = tgV (tg0 z20)) := ⟨_, rfl⟩
  have hz75 : ∀ w : World, (zeroValue 75).run Tryz.prog w = .ok (.agg ZV.toArray) w := fun w => by rw [HZ.out]; exact zero75 w
  have I75 : Hid ((Tryz.prog.info? 75).map (·.size) = some TV.toArray.size) := hid (by rw [List.size_toArray]; exact hi75)
  have O75 : Hid (TV.toArray.all (·.oneCell') = true) := hid (by rw [← HTV.out]; exact all_oneCell_toArray (tgV_one t))
  have E75 : Hid (ZV.toArray.size = TV.toArray.size) := hid (by rw [List.size_toArray, List.size_toArray, HZ.out, hvl]; exact tgV_len _ rfl)
  have HC : Hid (∀ W, Bx G TV 71 W → BoxG G t W ∧ W.rangeAt G 22 (perV t.per).toList ∧ W.rangeAt G 0 TV) := fun W hW => hW.cells HTV.out hf.1
  rw [HTV.out, HYL.out]
  clear hS hw he hf
  go_enter Tryz.func6, Tryz.ntmps6
  go_wp2_with (first | refine wpList_load_mid rfl 71 _ rfl w.heap.size 0 rfl TV _ CL.out Tryz.underlying71 rfl hi71 ?_ | fail)
  rw [HG.out, HW0.out]
  clear hA26 hA21 hA22 CL hvl
  refine C26.out.mono ?_
  rintro ev w1 ⟨hb, ax, cx, rfl, hsx⟩
  have HB1 : Hid (Below G w w1) := HB0.out.trans (hb.mono (Nat.le_of_lt BG0.out.lt))
  have BG1 : Hid (Bx G TV 71 w1) := BG0.out.below hb
  have SX1 : Hid (Sl w1 ax cx X) := hsx
  clear hb hsx
  go_wp2_with fail
  refine (HTE.out w1 HB1.out).mono ?_
  rintro ev w2 ⟨rfl, hb⟩
  have HB2 : Hid (Below G w w2) := HB1.out.trans (hb.mono (Nat.le_of_lt BG1.out.lt))
  have BG2 : Hid (Bx G TV 71 w2) := BG1.out.below hb
  have SX2 : Hid (Sl w2 ax cx X) := SX1.out.below hb
  clear hb
  have R2 : Hid (w2.rangeAt G 22 PV) := hid (by rw [← HPV.out]; exact (HC.out _ BG2.out).2.1)
  go_wp2_with (first | refine wpList_load_mid rfl 58 _ rfl G 22 rfl PV _ R2.out Tryz.underlying58 rfl hi58 ?_ | fail)
  refine (CP.out w2).mono ?_
  rintro ev w3 ⟨rfl, hb⟩
  have HB3 : Hid (Below G w w3) := HB2.out.trans (hb.mono (Nat.le_of_lt BG2.out.lt))
  have BG3 : Hid (Bx G TV 71 w3) := BG2.out.below hb
  have SX3 : Hid (Sl w3 ax cx X) := SX2.out.below hb
  clear hb
  have D3 : Hid ((w3.alloc (.cells #[.string ⟨#[]⟩, .string ⟨#[]⟩, .int .i64 0, .int .i64 0] 64)).heap[w3.heap.size]? = some (.cells #[.string ⟨#[]⟩, .string ⟨#[]⟩, .int .i64 0, .int .i64 0] 64 (0, 0))) := heap_alloc_new w3 _
  obtain ⟨w4, HW4⟩ : ∃ w4, Hid ((w3.alloc (.cells #[.string ⟨#[]⟩, .string ⟨#[]⟩, .int .i64 0, .int .i64 0] 64)).setRow w3.heap.size PV.toArray = w4) := ⟨_, rfl⟩
  obtain ⟨K, HK⟩ : ∃ K, Hid (w3.heap.size = K) := ⟨_, rfl⟩
  have hb4 : Below w3.heap.size w3 w4 := by rw [← HW4.out]; exact below_setRow ((Below.refl _ w3).alloc (Nat.le_refl _) _) (Nat.le_refl _) _
  have HB4 : Hid (Below G w w4) := HB3.out.trans (hb4.mono (Nat.le_of_lt BG3.out.lt))
  have BG4 : Hid (Bx G TV 71 w4) := BG3.out.below hb4
  have SX4 : Hid (Sl w4 ax cx X) := SX3.out.below hb4
  have BK4 : Hid (Bx K PV 64 w4) := ⟨by rw [← HW4.out, ← HK.out]; exact setRow_heap _ _ _ PV.toArray _ _ D3.out⟩
  clear hb4
  have Q0 : Hid (w4.rangeAt G 0 RF) := hid (by rw [← HRF.out]; exact (HC.out _ BG4.out).1.id)
  have QK : Hid (w4.rangeAt K 0 PV) := hid (range_row BK4.out.box)
  have x20 : w4.cell? ⟨G, 20, none⟩ = some (.int .i64 kd) := by rw [← HKD.out]; exact (HC.out _ BG4.out).1.c20
  have x21 : w4.cell? ⟨G, 21, none⟩ = some (.string N) := by rw [← HNN.out]; exact (HC.out _ BG4.out).1.c21
  have X26 : Hid (w4.cell? ⟨G, 26, none⟩ = some (.string M)) := hid <| by rw [← HMM.out]; exact (HC.out _ BG4.out).1.c26
  have D4 : Hid ((w4.alloc (.cells ZV.toArray 75)).heap[w4.heap.size]? = some (.cells ZV.toArray 75 (0, 0))) := heap_alloc_new w4 _
  obtain ⟨w5, HW5⟩ : ∃ w5, Hid ((w4.alloc (.cells ZV.toArray 75)).setRow w4.heap.size TV.toArray = w5) := ⟨_, rfl⟩
  obtain ⟨Q, HQ⟩ : ∃ Q, Hid (w4.heap.size = Q) := ⟨_, rfl⟩
  have hb5 : Below w4.heap.size w4 w5 := by rw [← HW5.out]; exact below_setRow ((Below.refl _ w4).alloc (Nat.le_refl _) _) (Nat.le_refl _) _
  have HB5 : Hid (Below G w w5) := HB4.out.trans (hb5.mono (Nat.le_of_lt BG4.out.lt))
  have BG5 : Hid (Bx G TV 71 w5) := BG4.out.below hb5
  have SX5 : Hid (Sl w5 ax cx X) := SX4.out.below hb5
  have BQ5 : Hid (Bx Q TV 75 w5) := ⟨by rw [← HW5.out, ← HQ.out]; exact setRow_heap _ _ _ TV.toArray _ _ D4.out⟩
  have QQ : Hid (w5.rangeAt Q 0 TV) := hid (range_row BQ5.out.box)
  clear hb5
  go_wp2_with (first
    | (refine wpList_store_row rfl 64 _ _ rfl w3.heap.size PV.toArray rfl rfl 64 _ D3.out I64.out E64.out O64.out ?_; rw [HW4.out, HK.out])
    | refine wpList_load_mid rfl 32 _ rfl G 0 rfl RF _ Q0.out Tryz.underlying32 rfl hi32 ?_
    | refine wpList_load_mid rfl 64 _ rfl K 0 rfl PV _ QK.out Tryz.underlying64 rfl hi64 ?_
    | (refine BigFrame.wpList_want (by rfl) (fun K hK => ?_); refine wp_load_str _ rfl G 26 rfl M X26.out ?_; refine hK _ _ ?_; clear hK K; refine wpList_built rfl 75 _ rfl TV.toArray (by simp only [List.map_toArray, List.map_cons, List.map_nil]; exact HBU.out) ?_)
    | (refine wpList_store_row rfl 75 _ _ rfl w4.heap.size TV.toArray rfl rfl 75 ZV.toArray D4.out I75.out E75.out O75.out ?_; rw [HW5.out, HQ.out])
    | refine wpList_load_mid rfl 75 _ rfl Q 0 rfl TV _ QQ.out Tryz.underlying75 rfl hi75 ?_
    | fail)
  clear x20 x21 X26 hz75
  refine (C28.out w5).mono ?_
  rintro ev w6 ⟨hb, ay, cy, rfl, hsy⟩
  have HB6 : Hid (Below G w w6) := HB5.out.trans (hb.mono (Nat.le_of_lt BG5.out.lt))
  have BG6 : Hid (Bx G TV 71 w6) := BG5.out.below hb
  have SX6 : Hid (Sl w6 ax cx X) := SX5.out.below hb
  have SY6 : Hid (Sl w6 ay cy X) := hsy
  clear hb hsy
  have HSA : Hid (Calls Tryz.prog 16 #[.slice ax xl cx, .slice ay xl cy] w6 fun e w' => e = .returned (.bool true) ∧ ∃ q, w' = w6.drewN q) := hid (by
    have := same_any ax ay cx cy X w6 (Nat.le_trans HXL2.out (by omega)) (fun h0 => by obtain ⟨b, off, e1, _, e3⟩ := SX6.out.at_ h0; exact ⟨b, off, e1, e3⟩) (fun h0 => by obtain ⟨b, off, e1, _, e3⟩ := SY6.out.at_ h0; exact ⟨b, off, e1, e3⟩)
    rw [HXL.out] at this
    exact this)
  go_wp2_with fail
  refine HSA.out.mono ?_
  rintro ev w7 ⟨rfl, q7, hw7⟩
  have hb : Below w6.heap.size w6 w7 := by rw [hw7]; exact below_drewH (Below.refl _ _) _
  clear hw7
  have HB7 : Hid (Below G w w7) := HB6.out.trans (hb.mono (Nat.le_of_lt BG6.out.lt))
  have BG7 : Hid (Bx G TV 71 w7) := BG6.out.below hb
  have SX7 : Hid (Sl w7 ax cx X) := SX6.out.below hb
  clear hb
  go_wp2_with fail
  refine (HRY.out w7 HB7.out).mono ?_
  rintro ev w8 ⟨rfl, hb⟩
  have HB8 : Hid (Below G w w8) := HB7.out.trans (hb.mono (Nat.le_of_lt BG7.out.lt))
  have BG8 : Hid (Bx G TV 71 w8) := BG7.out.below hb
  have SX8 : Hid (Sl w8 ax cx X) := SX7.out.below hb
  clear hb
  by_cases her : er = 0
  · subst her
    go_wp2_with fail
    refine (HRX.out w8 ax cx HB8.out SX8.out).mono ?_
    rintro ev w9 ⟨rfl, hb⟩
    have HB9 : Hid (Below G w w9) := HB8.out.trans (hb.mono (Nat.le_of_lt BG8.out.lt))
    clear hb
    go_wp2
    go_ret
    exact ⟨rfl, by rw [HG.out]; exact HB9.out⟩
  · have her2 : (er == 0) = false := by simpa using her
    have hx0 := HX0.out her
    subst hx0
    go_wp2
    go_ret
    exact ⟨rfl, by rw [HG.out]; exact HB8.out⟩
end Go.Proofs.YtbpdielmdhhdfaaGreatDoor
/- The law 'ObjectTrees': its walk. -/
namespace Go.Proofs.YtbpdielmdhhdfaaGreatDoor
open Go.RowKit
variable [Inhabited Er] [Inhabited En]
set_option linter.unusedVariables false
set_option linter.unusedSectionVars false
set_option linter.unusedSimpArgs false
theorem eqFields_true {P : Program} (d : Nat) (xs : Array Value) : ∀ (fs : List Field) (w : World), (∀ f ∈ fs, ∃ v, (∀ w : World, (part f.type xs f.offset).run P w = .ok v w) ∧ ∀ w : World, (Op.equalIn d f.type v v).run P w = .ok true w) → (Op.eqFields d xs xs fs).run P w = .ok true w
  | [], w, _ => by simp [Op.eqFields]
  | f :: fs, w, h => by
    obtain ⟨v, h1, h2⟩ := h f (by simp)
    have ih := eqFields_true d xs fs w (fun g hg => h g (by simp [hg]))
    simp only [Op.eqFields]
    split
    · simp only [Sem.run_bind, h1, h2, Result.andThen_ok]
      simpa using ih
    · exact ih
theorem fields51 : (Tryz.prog.fieldsOf 51).toList.map (fun f => (f.type, f.offset)) = [(49, 0), (9, 1), (32, 2)] := by kernel_rfl
theorem under51 : Tryz.prog.underlying 51 = some (.struct (Tryz.prog.fieldsOf 51)) := by kernel_rfl
theorem held51 : Tryz.prog.stoodInHeld 51 = false := by kernel_rfl
theorem und49 : Tryz.prog.underlying 49 = some (.int .i64) := by kernel_rfl
set_option maxRecDepth 20000 in
theorem part51 (m : Int) (S : ByteArray) (id : List Int) (h : id.length = 20) (w : World) :
    (part 49 (Value.int .i64 m :: Value.string S :: row .u8 id).toArray 0).run Tryz.prog w = .ok (.int .i64 m) w ∧ (part 9 (Value.int .i64 m :: Value.string S :: row .u8 id).toArray 1).run Tryz.prog w = .ok (.string S) w ∧
      (part 32 (Value.int .i64 m :: Value.string S :: row .u8 id).toArray 2).run Tryz.prog w = .ok (.agg (row .u8 id).toArray) w := by
  obtain ⟨a0, a1, a2, a3, a4, a5, a6, a7, a8, a9, a10, a11, a12, a13, a14, a15, a16, a17, a18, a19, rfl⟩ := list20 id h
  exact ⟨by kernel_rfl, by kernel_rfl, by kernel_rfl⟩
theorem eq32 (id : List Int) (h : id.length = 20) (w : World) : (Op.equalIn 9999 32 (.agg (row .u8 id).toArray) (.agg (row .u8 id).toArray)).run Tryz.prog w = .ok true w := by
  obtain ⟨i5, hi, -⟩ := info_parts Tryz.info5
  rw [show (9999 : Nat) = 9998 + 1 from rfl, run_equalIn_array w 9998 _ _ Tryz.underlying32 hi, cells5]
  exact eqItems_same 9997 5 plain5 Tryz.underlying5 id _ w (fun j hj => by rw [h]; simpa using hj)
theorem eq51 (x : Er) (h : x.id.length = 20) (w : World) : (Op.equalIn 10000 51 (.agg (erV x).toArray) (.agg (erV x).toArray)).run Tryz.prog w = .ok true w := by
  rw [show (10000 : Nat) = 9999 + 1 from rfl, run_equalIn_struct w 9999 51 _ _ under51 held51]
  refine eqFields_true 9999 _ _ w (fun f hf => ?_)
  have hm : (f.type, f.offset) ∈ (Tryz.prog.fieldsOf 51).toList.map (fun f => (f.type, f.offset)) := List.mem_map.2 ⟨f, hf, rfl⟩
  rw [fields51] at hm
  simp only [List.mem_cons, List.not_mem_nil, or_false, Prod.mk.injEq] at hm
  rcases hm with ⟨e1, e2⟩ | ⟨e1, e2⟩ | ⟨e1, e2⟩
  · rw [e1, e2]
    exact ⟨_, fun w => (part51 x.mode ⟨x.name.toArray⟩ x.id h w).1, fun w => by rw [show (9999 : Nat) = 9998 + 1 from rfl, run_equalIn_int w 9998 49 .i64 .i64 x.mode x.mode und49]; simp⟩
  · rw [e1, e2]
    exact ⟨_, fun w => (part51 x.mode ⟨x.name.toArray⟩ x.id h w).2.1, fun w => by rw [show (9999 : Nat) = 9998 + 1 from rfl, run_equalIn_string w 9998 9 _ _ Tryz.underlying9]; simp⟩
  · rw [e1, e2]
    exact ⟨_, fun w => (part51 x.mode ⟨x.name.toArray⟩ x.id h w).2.2, fun w => eq32 x.id h w⟩
theorem wpList_bf_sl {w w0 : World} {ops : Array Oper} {rest : List Oper} {o : Oper} {a : Act} {Q : Exit → Act → World → Prop} (hgd : o.guard = none) (s x : Operand) (ho : o.op = .call { callee := .builtin .append, args := #[s, x], argTypes := #[47, 47] }) (B : Nat) (v : Value) (es : List Er) (hs : a.eval s = v) (h : Bf w0 w B v es)
    (ax : Option Addr) (cx : Nat) (l : List Er) (hx : a.eval x = .slice ax l.length cx) (hP : Pe w ax cx l) (hw : ∀ x ∈ l, x.id.length = 20) (hl : es.length + l.length ≤ 3000)
    (hK : ∀ v' w', Bf w0 w' B v' (es ++ l) → w.grownBy w' v.ownBlock → wpList Tryz.prog ops Q rest (a.put o.dst v') w') : wpList Tryz.prog ops Q (o :: rest) a w := by
  obtain ⟨i, hi, hz0, hz1, hz2⟩ := info_parts Tryz.info51'
  cases ax with
  | none =>
    have hc : cx = 0 := hP.nil rfl
    have hcl := hP.capl
    obtain rfl : l = [] := List.length_eq_zero_iff.1 (by omega)
    subst hc
    refine wpList_plain hgd fun K hK' => ?_
    have hr := run_append_owned_none (P := Tryz.prog) w B 47 o.type 51 i 22 Tryz.underlying47 hi v _ _ h.own
    unfold Oper.wp execOp
    simp only [List.length_nil] at hx
    simp only [ho, resolve, invoke, builtin, Sem.run_bind, Sem.run_pure, Result.andThen_ok, List.map_toArray, List.map_cons, List.map_nil, hs, hx, hr]
    exact hK' _ _ (hK v w (by simpa using h) ⟨rfl, rfl, rfl, Nat.le_refl _, fun _ _ _ => rfl⟩)
  | some ad =>
    obtain ⟨bk, of, fr⟩ := ad
    by_cases h0 : l.length = 0
    · obtain rfl : l = [] := List.length_eq_zero_iff.1 h0
      refine wpList_append_own_at w hgd s x 47 ho B 51 i (.agg (erV ⟨0, [], z20⟩).toArray) 22 48 Tryz.underlying47 hi hz0 hz1 hz2 rfl (by decide) v _ _ hs h.own ⟨bk, of, fr⟩ 0 cx [] hx rfl (fun j u hj => by cases hj) (fun u hu => by cases hu) (by unfold maxLen; omega) (by omega) h.le ?_
      intro v' w' h1 h2 h3 h4
      refine hK v' w' ⟨h.below.grown h2 h.le (fun k hk => (own_lt h.own k hk).1), ?_, Nat.le_trans h.le h2.size⟩ h2
      simpa using h1
    · obtain ⟨b', off', e1, _⟩ := hP.at_ (by omega)
      cases e1
      refine wpList_append_own_at w hgd s x 47 ho B 51 i (.agg (erV ⟨0, [], z20⟩).toArray) 22 48 Tryz.underlying47 hi hz0 hz1 hz2 rfl (by decide) v _ _ hs h.own ⟨bk, of, none⟩ l.length cx (fE l) hx (fE_len l hw) (hP.cells hw) (fE_one l) (by unfold maxLen; omega) (by omega) h.le ?_
      intro v' w' h1 h2 h3 h4
      refine hK v' w' ⟨h.below.grown h2 h.le (fun k hk => (own_lt h.own k hk).1), ?_, Nat.le_trans h.le h2.size⟩ h2
      rw [List.length_append, fE_app]
      exact h1
/-- What is written of entries, and the error's number. -/
def WrE (es : List Er) (X : List Int) (er : Int) : Prop := (okL es ∧ X = nums (treeB (srtE es)) ∧ er = 0) ∨ (¬ okL es ∧ X = [] ∧ er = 21)
theorem wrE_some (es : List Er) : ∃ X er, WrE es X er := by
  by_cases h : okL es
  · exact ⟨_, _, .inl ⟨h, rfl, rfl⟩⟩
  · exact ⟨_, _, .inr ⟨h, rfl, rfl⟩⟩
theorem writeE_x (a : Option Addr) (cap : Nat) (es : List Er) (hwf : WfE es) (hn : es.length ≤ 1000) (X : List Int) (er : Int) (hX : WrE es X er) (w : World) (hP : Pe w a cap es) (hd : Db w) :
    Calls Tryz.prog 18 #[.slice a es.length cap] w fun e w' => Below w.heap.size w w' ∧ ∃ ax cx, e = .returned (.tuple #[.slice ax X.length cx, errV er]) ∧ Sl w' ax cx X := by
  refine (writeTree_any a cap es hwf hn w hP hd).mono ?_
  rintro e w' ⟨hb, hor⟩
  refine ⟨hb, ?_⟩
  rcases hX with ⟨hok, rfl, rfl⟩ | ⟨hno, rfl, rfl⟩
  · rcases hor with ⟨_, ax, cx, rfl, hsl⟩ | ⟨hno, _⟩
    · exact ⟨ax, cx, by rw [nums_len]; rfl, hsl⟩
    · exact absurd hok hno
  · rcases hor with ⟨hok, _⟩ | ⟨_, rfl⟩
    · exact absurd hok hno
    · exact ⟨none, 0, rfl, sl_none w'⟩
theorem writeRE_x (a : Option Addr) (cap : Nat) (es : List Er) (hwf : WfE es) (hn : es.length ≤ 1000) (X : List Int) (er : Int) (hX : WrE es X er) (w : World) (hP : Pe w a cap es) :
    Calls Tryz.prog 20 #[.slice a es.length cap] w fun e w' => Below w.heap.size w w' ∧ ∃ ax cx, e = .returned (.tuple #[.slice ax X.length cx, .int .i64 er]) ∧ Sl w' ax cx X := by
  refine (writeTreeR_any a cap es hwf hn w hP).mono ?_
  rintro e w' ⟨hb, hor⟩
  refine ⟨hb, ?_⟩
  rcases hX with ⟨hok, rfl, rfl⟩ | ⟨hno, rfl, rfl⟩
  · rcases hor with ⟨_, ax, cx, rfl, hsl⟩ | ⟨hno, _⟩
    · exact ⟨ax, cx, by rw [nums_len], hsl⟩
    · exact absurd hok hno
  · rcases hor with ⟨hok, _⟩ | ⟨_, rfl⟩
    · exact absurd hok hno
    · exact ⟨none, 0, rfl, sl_none w'⟩
theorem walkE_long (a a2 : Option Addr) (n cap m cap2 : Nat) (w : World) (h : 200 < n ∨ 8000 < m) :
    Calls Tryz.prog 4 #[.slice a n cap, .slice a2 m cap2] w fun e w' => e = .returned (.bool true) ∧ Below w.heap.size w w' := by
  have HB : Hid (Below w.heap.size w w) := Below.refl _ _
  by_cases h1 : 200 < n
  · have h1i : (200 : Int) < (n : Int) := by omega
    go_enter Tryz.func4, Tryz.ntmps4
    go_wp2
    go_ret
    exact ⟨rfl, HB.out⟩
  · have h1i : ¬ (200 : Int) < (n : Int) := by omega
    have h2i : (8000 : Int) < (m : Int) := by omega
    go_enter Tryz.func4, Tryz.ntmps4
    go_wp2
    go_ret
    exact ⟨rfl, HB.out⟩
set_option maxRecDepth 20000 in
set_option maxHeartbeats 8000000 in
theorem walkE_short (a : Option Addr) (cap : Nat) (es : List Er) (a2 : Option Addr) (cap2 : Nat) (ys : List Int) (w : World) (hn : es.length ≤ 200) (hm : ys.length ≤ 8000) (hwf : WfE es) (hP : Pe w a cap es) (hy : IsB ys) (hS : Sl w a2 cap2 ys) (hw : Lw w) (he : Ers w) (hd : Db w) :
    Calls Tryz.prog 4 #[.slice a es.length cap, .slice a2 ys.length cap2] w fun e w' => e = .returned (.bool true) ∧ Below w.heap.size w w' := by
  obtain ⟨X, er, hX⟩ := wrE_some es
  have HX : Hid (WrE es X er) := hX
  have HXB : Hid (IsB X) := hid (by
    rcases hX with ⟨_, rfl, _⟩ | ⟨_, rfl, _⟩
    · exact nums_isB _
    · intro x hx; cases hx)
  have HXL2 : Hid (X.length ≤ 20000) := hid (by
    rcases hX with ⟨hok, rfl, _⟩ | ⟨_, rfl, _⟩
    · rw [nums_len]
      have h1 := treeB_len (srtE es) (fun x hx => by
        have hx' := (srtE_perm es).subset hx
        exact ⟨(hok.1 x hx').2.2.1, (hwf x hx').1⟩)
      rw [(srtE_perm es).length_eq] at h1
      omega
    · exact Nat.zero_le _)
  obtain ⟨xl, HXL⟩ : ∃ xl, Hid (X.length = xl) := ⟨_, rfl⟩
  have HX0 : Hid (er ≠ 0 → xl = 0) := hid (by
    rw [← HXL.out]
    rcases hX with ⟨_, _, rfl⟩ | ⟨_, rfl, _⟩
    · intro h; exact absurd rfl h
    · intro _; rfl)
  clear hX
  obtain ⟨n, HN⟩ : ∃ n, Hid (es.length = n) := ⟨_, rfl⟩
  obtain ⟨yl, HYL⟩ : ∃ n, Hid (ys.length = n) := ⟨_, rfl⟩
  obtain ⟨G, HG⟩ : ∃ G, Hid (w.heap.size = G) := ⟨_, rfl⟩
  have hnn : n ≤ 200 := by rw [← HN.out]; exact hn
  have hyy : yl ≤ 8000 := by rw [← HYL.out]; exact hm
  have h1i : ¬ (200 : Int) < (n : Int) := by omega
  have h2i : ¬ (8000 : Int) < (yl : Int) := by omega
  have HLW : Hid (∀ W, Below G w W → Lw W) := fun W hW => hw.below (by rw [HG.out]; exact hW)
  have HER : Hid (∀ W, Below G w W → Ers W) := fun W hW => he.below (by rw [HG.out]; exact hW)
  have HDB : Hid (∀ W, Below G w W → Db W) := fun W hW => hd.below (by rw [HG.out]; exact hW)
  have HPA : Hid (∀ W, Below G w W → Pe W a cap es) := fun W hW => hP.below (by rw [HG.out]; exact hW)
  have HSY : Hid (∀ W, Below G w W → Sl W a2 cap2 ys) := fun W hW => hS.below (by rw [HG.out]; exact hW)
  have HPL : Hid (0 < n → ∃ b off, a = some ⟨b, off, none⟩ ∧ b < G) := fun h0 => by
    obtain ⟨b, off, e1, e2, _⟩ := hP.at_ (by rw [HN.out]; exact h0)
    exact ⟨b, off, e1, by rw [← HG.out]; exact e2⟩
  have HWF : Hid (WfE es) := hwf
  have HW20 : Hid (∀ x ∈ es, x.id.length = 20) := fun x hx => (hwf x hx).1
  have HGS : Hid (G ≤ w.heap.size) := hid (by rw [HG.out]; exact Nat.le_refl _)
  have HTE : Hid (∀ W, Below G w W → Calls Tryz.prog 11 #[errV er] W fun e w' => e = .returned (.int .i64 er) ∧ Below W.heap.size W w') := fun W hW => tell_any er W (HLW.out W hW)
  have HRY : Hid (∀ W, Below G w W → Calls Tryz.prog 21 #[.slice a2 yl cap2] W fun e w' => e = .returned (.bool true) ∧ Below W.heap.size W w') := fun W hW => by
    have := readsTree_any a2 cap2 ys W (by rw [HYL.out]; omega) hy (HSY.out W hW) (HLW.out W hW) (HER.out W hW) (HDB.out W hW)
    rw [HYL.out] at this
    exact this
  have HRX : Hid (∀ W ax cx, Below G w W → Sl W ax cx X → Calls Tryz.prog 21 #[.slice ax xl cx] W fun e w' => e = .returned (.bool true) ∧ Below W.heap.size W w') := fun W ax cx hW hx => by
    have := readsTree_any ax cx X W HXL2.out HXB.out hx (HLW.out W hW) (HER.out W hW) (HDB.out W hW)
    rw [HXL.out] at this
    exact this
  have C18 : Hid (∀ W ac cc, Below G w W → Pe W ac cc es → Calls Tryz.prog 18 #[.slice ac n cc] W fun e w' => Below W.heap.size W w' ∧ ∃ ax cx, e = .returned (.tuple #[.slice ax xl cx, errV er]) ∧ Sl w' ax cx X) := fun W ac cc hW hp => by
    have := writeE_x ac cc es hwf (by omega) X er HX.out W hp (HDB.out W hW)
    rw [HN.out, HXL.out] at this
    exact this
  have C20 : Hid (∀ W ac cc, Pe W ac cc es → Calls Tryz.prog 20 #[.slice ac n cc] W fun e w' => Below W.heap.size W w' ∧ ∃ ax cx, e = .returned (.tuple #[.slice ax xl cx, .int .i64 er]) ∧ Sl w' ax cx X) := fun W ac cc hp => by
    have := writeRE_x ac cc es hwf (by omega) X er HX.out W hp
    rw [HN.out, HXL.out] at this
    exact this
  have C19 : Hid (∀ W, Below G w W → Calls Tryz.prog 19 #[.slice a n cap] W fun e w' => Below W.heap.size W w' ∧ ∃ a' cap', e = .returned (.slice a' n cap') ∧ Pe w' a' cap' es) := fun W hW => by
    have := entries_any a cap es HW20.out (by omega) W (HPA.out W hW)
    rw [HN.out] at this
    exact this
  have HF0 : Hid (Bf w w G (.slice none 0 0) []) := hid (bf_nil w G (by rw [HG.out]; exact Nat.le_refl _))
  have HPW : Hid (Pe w a cap es) := hP
  rw [HN.out, HYL.out]
  clear hP hS hw he hd hwf
  go_enter Tryz.func4, Tryz.ntmps4
  go_wp2_with (first
    | (at_builtin; refine wpList_bf_sl rfl _ _ rfl G _ _ rfl HF0.out a cap es (by rw [HN.out]; rfl) HPW.out HW20.out (by rw [HN.out]; simp; omega) ?_; intro v1 w1 hbf1 hg1; have HBF1 : Hid (Bf w w1 G v1 es) := hbf1; clear hbf1 hg1; obtain ⟨a1, c1, hv1⟩ : ∃ a1 c1, v1 = .slice a1 n c1 := (by have ho := HBF1.out.own; rw [HN.out] at ho; exact owns_shape ho); subst hv1)
    | fail)
  have HPE1 : Hid (Pe w1 a1 c1 es) := hid (HBF1.out.pe HW20.out HN.out)
  have HB1 : Hid (Below G w w1) := hid HBF1.out.below
  have hG1 : G ≤ w1.heap.size := HBF1.out.le
  refine (C18.out w1 a1 c1 HB1.out HPE1.out).mono ?_
  rintro ev w2 ⟨hb, ax, cx, rfl, hsx⟩
  have HB2 : Hid (Below G w w2) := HB1.out.trans (hb.mono hG1)
  have hG2 : G ≤ w2.heap.size := Nat.le_trans hG1 hb.size
  have HPE2 : Hid (Pe w2 a1 c1 es) := HPE1.out.below hb
  have SX2 : Hid (Sl w2 ax cx X) := hsx
  clear hb hsx
  go_wp2_with fail
  refine (HTE.out w2 HB2.out).mono ?_
  rintro ev w3 ⟨rfl, hb⟩
  have HB3 : Hid (Below G w w3) := HB2.out.trans (hb.mono hG2)
  have hG3 : G ≤ w3.heap.size := Nat.le_trans hG2 hb.size
  have HPE3 : Hid (Pe w3 a1 c1 es) := HPE2.out.below hb
  have SX3 : Hid (Sl w3 ax cx X) := SX2.out.below hb
  clear hb
  obtain ⟨H, HH⟩ : ∃ H, Hid (w3.heap.size = H) := ⟨_, rfl⟩
  have hGH : G ≤ H := by rw [← HH.out]; exact hG3
  have HB33 : Hid (Below H w3 w3) := Below.refl _ _
  have HRW : Hid (∀ W, Below H w3 W → ∀ i, i < n → ∃ b1 off1 b2 off2, a1 = some ⟨b1, off1, none⟩ ∧ a = some ⟨b2, off2, none⟩ ∧ W.rangeAt b1 (off1 + i * 22) (erV (es.getD i default)) ∧ W.rangeAt b2 (off2 + i * 22) (erV (es.getD i default))) := fun W hW i hi => by
    obtain ⟨b1, off1, e1, _, e3⟩ := (HPE3.out.below (by rw [HH.out]; exact hW)).at_ (by rw [HN.out]; omega)
    obtain ⟨b2, off2, f1, _, f3⟩ := (HPA.out W (HB3.out.trans (hW.mono hGH))).at_ (by rw [HN.out]; omega)
    exact ⟨b1, off1, b2, off2, e1, f1, e3 i (by rw [HN.out]; exact hi), f3 i (by rw [HN.out]; exact hi)⟩
  go_wp2_with fail
  go_loopg [9] n (fun g iv wr => ∃ i : Nat, i ≤ n ∧ g = n - i ∧ iv = .int .i64 i ∧ Hid (Below H w3 wr))
  case atStart => exact ⟨0, Nat.zero_le _, rfl, rfl, HB33⟩
  case round =>
    obtain ⟨i, hi, hgi, rfl, HBr⟩ := hrel
    by_cases hlt : i < n
    · have hlti : (i : Int) < (n : Int) := by omega
      obtain ⟨b1, off1, b2, off2, hae, hdd, _⟩ := HRW.out wr HBr.out i hlt
      subst hae
      subst hdd
      obtain ⟨x, HX1⟩ : ∃ x, Hid (es.getD i default = x) := ⟨_, rfl⟩
      have hxm : x ∈ es := by
        rw [← HX1.out, List.getD_eq_getElem?_getD, List.getElem?_eq_getElem (by rw [HN.out]; exact hlt)]
        exact List.getElem_mem _
      have HX20 : Hid (x.id.length = 20) := HW20.out x hxm
      obtain ⟨R, HR⟩ : ∃ R : List Value, Hid (erV x = R) := ⟨_, rfl⟩
      have hi51 : (Tryz.prog.info? 51).map (·.size) = some R.length := by rw [← HR.out, erV_len x HX20.out]; exact size51
      have hsm : ∀ w : World, (Op.equalIn 10000 51 (.agg R.toArray) (.agg R.toArray)).run Tryz.prog w = .ok true w := fun w => by rw [← HR.out]; exact eq51 x HX20.out w
      have HBd : Hid (Below H w3 wr.drew) := hid (below_drewH HBr.out 1)
      have HQd : Hid (QK b1 (off1 + i * 22) R b2 (off2 + i * 22) R wr.drew) := hid (by
        obtain ⟨b1', off1', b2', off2', e1, e2, e3, e4⟩ := HRW.out wr.drew HBd.out i hlt
        cases e1
        cases e2
        rw [HX1.out, HR.out] at e3 e4
        exact ⟨e3, e4⟩)
      clear hxm
      go_wp2_with fail
      refine wp_region_held_drew (S := QK b1 (off1 + i * 22) R b2 (off2 + i * 22) R) (by kernel_rfl) (by exact HQd.out) (fun hHeld => ?_)
      generalize wr.drew = u0 at hHeld HBd HQd ⊢
      clear HQd
      refine takeL (i := 0) (v := ?_) rfl (by kernel_rfl) (by kernel_rfl) (by kernel_rfl) (fun _ _ _ h => h) (Or.inl ⟨by rfl, ?_⟩) hHeld ?_
      rotate_left
      · rintro w' ⟨r1, r2⟩; go_simp; rfl
      try simp only [Act.put, List.setIfInBounds_toArray, List.set_cons_zero, List.set_cons_succ]
      refine takeL (i := 1) (v := ?_) rfl (by kernel_rfl) (by kernel_rfl) (by kernel_rfl) (fun _ _ _ h => h) (Or.inl ⟨by rfl, ?_⟩) hHeld ?_
      rotate_left
      · rintro w' ⟨r1, r2⟩; go_simp; rfl
      try simp only [Act.put, List.setIfInBounds_toArray, List.set_cons_zero, List.set_cons_succ]
      refine takeL (i := 2) (v := ?_) rfl (by kernel_rfl) (by kernel_rfl) (by kernel_rfl) (fun _ _ _ h => h) (Or.inl ⟨by rfl, ?_⟩) hHeld ?_
      rotate_left
      · rintro w' ⟨r1, r2⟩; go_simp; rfl
      try simp only [Act.put, List.setIfInBounds_toArray, List.set_cons_zero, List.set_cons_succ]
      refine takeL (i := 3) (v := .agg R.toArray) rfl (by kernel_rfl) (by kernel_rfl) (by kernel_rfl) (fun _ _ _ h => h) (yieldsIf_load_mid (by rfl) 51 _ rfl b1 (off1 + i * 22) (by rfl) R _ (fun w' h => h.r1) Tryz.underlying51 rfl hi51) hHeld ?_
      try simp only [Act.put, List.setIfInBounds_toArray, List.set_cons_zero, List.set_cons_succ]
      refine takeL (i := 4) (v := ?_) rfl (by kernel_rfl) (by kernel_rfl) (by kernel_rfl) (fun _ _ _ h => h) (Or.inl ⟨by rfl, ?_⟩) hHeld ?_
      rotate_left
      · rintro w' ⟨r1, r2⟩; go_simp; rfl
      try simp only [Act.put, List.setIfInBounds_toArray, List.set_cons_zero, List.set_cons_succ]
      refine takeL (i := 5) (v := ?_) rfl (by kernel_rfl) (by kernel_rfl) (by kernel_rfl) (fun _ _ _ h => h) (Or.inl ⟨by rfl, ?_⟩) hHeld ?_
      rotate_left
      · rintro w' ⟨r1, r2⟩; go_simp; rfl
      try simp only [Act.put, List.setIfInBounds_toArray, List.set_cons_zero, List.set_cons_succ]
      refine takeL (i := 6) (v := ?_) rfl (by kernel_rfl) (by kernel_rfl) (by kernel_rfl) (fun _ _ _ h => h) (Or.inl ⟨by rfl, ?_⟩) hHeld ?_
      rotate_left
      · rintro w' ⟨r1, r2⟩; go_simp; rfl
      try simp only [Act.put, List.setIfInBounds_toArray, List.set_cons_zero, List.set_cons_succ]
      refine takeL (i := 7) (v := .agg R.toArray) rfl (by kernel_rfl) (by kernel_rfl) (by kernel_rfl) (fun _ _ _ h => h) (yieldsIf_load_mid (by rfl) 51 _ rfl b2 (off2 + i * 22) (by rfl) R _ (fun w' h => h.r2) Tryz.underlying51 rfl hi51) hHeld ?_
      try simp only [Act.put, List.setIfInBounds_toArray, List.set_cons_zero, List.set_cons_succ]
      refine takeL (i := 8) (v := ?_) rfl (by kernel_rfl) (by kernel_rfl) (by kernel_rfl) (fun _ _ _ h => h) (Or.inl ⟨by rfl, ?_⟩) hHeld ?_
      rotate_left
      · rintro w' ⟨r1, r2⟩; go_simp; rfl
      try simp only [Act.put, List.setIfInBounds_toArray, List.set_cons_zero, List.set_cons_succ]
      refine wpAnyH_done (by kernel_rfl) ?_ _
      clear hHeld hsm
      go_wp2
      go_roundg (n - (i + 1))
      case measure => omega
      case rel => exact ⟨i + 1, by omega, rfl, by go_num, HBd⟩
    · have hlti : ¬ (i : Int) < (n : Int) := by omega
      have HB4 : Hid (Below G w wr) := hid (HB3.out.trans (HBr.out.mono hGH))
      have SX4 : Hid (Sl wr ax cx X) := hid (SX3.out.below (by rw [HH.out]; exact HBr.out))
      have hG4 : G ≤ wr.heap.size := Nat.le_trans HGS.out HB4.out.size
      go_wp2_with fail
      refine (C19.out wr HB4.out).mono ?_
      rintro ev w5 ⟨hb, a5, c5, rfl, hpe⟩
      have HB5 : Hid (Below G w w5) := HB4.out.trans (hb.mono hG4)
      have hG5 : G ≤ w5.heap.size := Nat.le_trans hG4 hb.size
      have SX5 : Hid (Sl w5 ax cx X) := SX4.out.below hb
      have HPE5 : Hid (Pe w5 a5 c5 es) := hpe
      clear hb hpe
      go_wp2_with fail
      refine (C20.out w5 a5 c5 HPE5.out).mono ?_
      rintro ev w6 ⟨hb, ay, cy, rfl, hsy⟩
      have HB6 : Hid (Below G w w6) := HB5.out.trans (hb.mono hG5)
      have hG6 : G ≤ w6.heap.size := Nat.le_trans hG5 hb.size
      have SX6 : Hid (Sl w6 ax cx X) := SX5.out.below hb
      have SY6 : Hid (Sl w6 ay cy X) := hsy
      clear hb hsy
      have HSA : Hid (Calls Tryz.prog 16 #[.slice ax xl cx, .slice ay xl cy] w6 fun e w' => e = .returned (.bool true) ∧ ∃ q, w' = w6.drewN q) := hid (by
        have := same_any ax ay cx cy X w6 (Nat.le_trans HXL2.out (by omega)) (fun h0 => by obtain ⟨b, off, e1, _, e3⟩ := SX6.out.at_ h0; exact ⟨b, off, e1, e3⟩) (fun h0 => by obtain ⟨b, off, e1, _, e3⟩ := SY6.out.at_ h0; exact ⟨b, off, e1, e3⟩)
        rw [HXL.out] at this
        exact this)
      go_wp2_with fail
      refine HSA.out.mono ?_
      rintro ev w7 ⟨rfl, q7, hw7⟩
      have hb : Below w6.heap.size w6 w7 := by rw [hw7]; exact below_drewH (Below.refl _ _) _
      clear hw7
      have HB7 : Hid (Below G w w7) := HB6.out.trans (hb.mono hG6)
      have hG7 : G ≤ w7.heap.size := Nat.le_trans hG6 hb.size
      have SX7 : Hid (Sl w7 ax cx X) := SX6.out.below hb
      clear hb
      go_wp2_with fail
      refine (HRY.out w7 HB7.out).mono ?_
      rintro ev w8 ⟨rfl, hb⟩
      have HB8 : Hid (Below G w w8) := HB7.out.trans (hb.mono hG7)
      have hG8 : G ≤ w8.heap.size := Nat.le_trans hG7 hb.size
      have SX8 : Hid (Sl w8 ax cx X) := SX7.out.below hb
      clear hb
      by_cases her : er = 0
      · subst her
        go_wp2_with fail
        refine (HRX.out w8 ax cx HB8.out SX8.out).mono ?_
        rintro ev w9 ⟨rfl, hb⟩
        have HB9 : Hid (Below G w w9) := HB8.out.trans (hb.mono hG8)
        clear hb
        go_wp2
        go_ret
        exact ⟨rfl, by rw [HG.out]; exact HB9.out⟩
      · have her2 : (er == 0) = false := by simpa using her
        have hx0 := HX0.out her
        subst hx0
        go_wp2
        go_ret
        exact ⟨rfl, by rw [HG.out]; exact HB8.out⟩
end Go.Proofs.YtbpdielmdhhdfaaGreatDoor
