import Derived.Test.YtbpdielmdhhdfaaGreatDoorMt39
/- The law 'ObjectTags': its walk. -/
namespace Go.Proofs.YtbpdielmdhhdfaaGreatDoor
open Go.RowKit
set_option linter.unusedVariables false
set_option linter.unusedSimpArgs false
/-- A text is read out of its cell. -/
theorem wp_load_str {op : Oper} {a : Act} {w : World} {K : Act → World → Prop} {Q : Exit → Act → World → Prop} (x : Operand) (ho : op.op = .load 9 x) (b o : Nat) (hx : a.eval x = .pointer (some ⟨b, o, none⟩)) (s : ByteArray) (hc : w.cell? ⟨b, o, none⟩ = some (.string s))
    (h : K (a.put op.dst (.string s)) w) : op.wp Tryz.prog a w K Q := by
  unfold Oper.wp execOp
  simp only [ho, hx]
  go_simp
  exact h
/-- What is written of a tag, and the error's number. -/
def Wr (t : Tg) (X : List Int) (er : Int) : Prop := (okG t ∧ X = nums (tagB t) ∧ er = 0) ∨ (¬ okG t ∧ X = [] ∧ er = 23)
theorem wr_some (t : Tg) : ∃ X er, Wr t X er := by
  by_cases h : okG t
  · exact ⟨_, _, .inl ⟨h, rfl, rfl⟩⟩
  · exact ⟨_, _, .inr ⟨h, rfl, rfl⟩⟩
theorem sl_none (W : World) : Sl W none 0 [] := ⟨Nat.le_refl _, (fun h => by cases h), fun _ => rfl⟩
theorem write_x (t : Tg) (hf : Wf t) (X : List Int) (er : Int) (hX : Wr t X er) (h1 : t.name.length ≤ 1000000) (h4 : t.msg.length ≤ 1000000) (w : World) (ht : Tab w) :
    Calls Tryz.prog 26 #[.agg (tgV t).toArray] w fun e w' => Below w.heap.size w w' ∧ ∃ ax cx, e = .returned (.tuple #[.slice ax X.length cx, errV er]) ∧ Sl w' ax cx X := by
  refine (writeTag_any t hf.1 hf.2 h1 h4 w ht).mono ?_
  rintro e w' ⟨hb, hor⟩
  refine ⟨hb, ?_⟩
  rcases hX with ⟨hok, rfl, rfl⟩ | ⟨hno, rfl, rfl⟩
  · rcases hor with ⟨_, g, cap, rfl, _, hmk⟩ | ⟨hno, _⟩
    · exact ⟨some ⟨g, 0, none⟩, cap, by rw [nums_len]; rfl, hmk.sl⟩
    · exact absurd hok hno
  · rcases hor with ⟨hok, _⟩ | ⟨_, rfl⟩
    · exact absurd hok hno
    · exact ⟨none, 0, rfl, sl_none w'⟩
theorem writeR_x (t : Tg) (hf : Wf t) (X : List Int) (er : Int) (hX : Wr t X er) (w : World) :
    Calls Tryz.prog 28 #[.agg (tgV t).toArray] w fun e w' => Below w.heap.size w w' ∧ ∃ ax cx, e = .returned (.tuple #[.slice ax X.length cx, .int .i64 er]) ∧ Sl w' ax cx X := by
  refine (writeTagR_any t hf.1 hf.2 w).mono ?_
  rintro e w' ⟨hb, hor⟩
  refine ⟨hb, ?_⟩
  rcases hX with ⟨hok, rfl, rfl⟩ | ⟨hno, rfl, rfl⟩
  · rcases hor with ⟨_, g, cap, rfl, _, hmk⟩ | ⟨hno, _⟩
    · exact ⟨some ⟨g, 0, none⟩, cap, by rw [nums_len], hmk.sl⟩
    · exact absurd hok hno
  · rcases hor with ⟨hok, _⟩ | ⟨_, rfl⟩
    · exact absurd hok hno
    · exact ⟨none, 0, rfl, sl_none w'⟩
theorem tgV_at (t : Tg) (h : t.id.length = 20) (i : Nat) : (tgV t)[20 + i]? = ([.int .i64 t.kind, .string ⟨t.name.toArray⟩, .string ⟨t.per.name.toArray⟩, .string ⟨t.per.mail.toArray⟩, .int .i64 t.per.time, .int .i64 t.per.zone, .string ⟨t.msg.toArray⟩] : List Value)[i]? := by
  have hl : (row .u8 t.id).length = 20 := by rw [row_len]; exact h
  unfold tgV
  rw [List.getElem?_append_right (by omega), hl, Nat.add_sub_cancel_left]
theorem get_of {l : List Value} {i : Nat} {v : Value} (h : l[i]? = some v) (hi : i < l.length) : l[i]'hi = v := by
  rw [List.getElem?_eq_getElem hi] at h
  exact Option.some.inj h
set_option maxRecDepth 20000 in
set_option maxHeartbeats 4000000 in
theorem walkT_long (t : Tg) (hf : Wf t) (a : Option Addr) (len cap : Nat) (w : World) (h : 20000 < t.msg.length + len + t.name.length + t.per.name.length) (b1 : t.msg.length ≤ 200000000000000) (b2 : len ≤ 200000000000000) (b3 : t.name.length ≤ 200000000000000) (b4 : t.per.name.length ≤ 200000000000000) :
    Calls Tryz.prog 6 #[.agg (tgV t).toArray, .slice a len cap] w fun e w' => e = .returned (.bool true) ∧ Below w.heap.size w w' := by
  obtain ⟨N, HNN⟩ : ∃ S : ByteArray, Hid (⟨t.name.toArray⟩ = S) := ⟨_, rfl⟩
  obtain ⟨M, HMM⟩ : ∃ S : ByteArray, Hid (⟨t.msg.toArray⟩ = S) := ⟨_, rfl⟩
  obtain ⟨P, HPP⟩ : ∃ S : ByteArray, Hid (⟨t.per.name.toArray⟩ = S) := ⟨_, rfl⟩
  obtain ⟨n1, Hn1⟩ : ∃ n, Hid (t.name.length = n) := ⟨_, rfl⟩
  obtain ⟨m1, Hm1⟩ : ∃ n, Hid (t.msg.length = n) := ⟨_, rfl⟩
  obtain ⟨p1, Hp1⟩ : ∃ n, Hid (t.per.name.length = n) := ⟨_, rfl⟩
  have sN : N.size = n1 := by rw [← HNN.out, txt_len]; exact Hn1.out
  have sM : M.size = m1 := by rw [← HMM.out, txt_len]; exact Hm1.out
  have sP : P.size = p1 := by rw [← HPP.out, txt_len]; exact Hp1.out
  rw [Hn1.out, Hm1.out, Hp1.out] at h
  rw [Hm1.out] at b1
  rw [Hn1.out] at b3
  rw [Hp1.out] at b4
  have hci : (20000 : Int) < (m1 : Int) + len + n1 + p1 := by omega
  obtain ⟨TV, HTV⟩ : ∃ l : List Value, Hid (tgV t = l) := ⟨_, rfl⟩
  have hvl : TV.length = 27 := by rw [← HTV.out]; exact tgV_len t hf.1
  have hA26 : TV[26]'(by omega) = .string M := get_of (by rw [← HTV.out, ← HMM.out]; exact tgV_at t hf.1 6) _
  have hA21 : TV[21]'(by omega) = .string N := get_of (by rw [← HTV.out, ← HNN.out]; exact tgV_at t hf.1 1) _
  have hA22 : TV[22]'(by omega) = .string P := get_of (by rw [← HTV.out, ← HPP.out]; exact tgV_at t hf.1 2) _
  have HB : Hid (∀ o, Below w.heap.size w (w.alloc o)) := fun o => (Below.refl _ w).alloc (Nat.le_refl _) _
  rw [HTV.out]
  go_enter Tryz.func6, Tryz.ntmps6
  go_wp2
  go_ret
  exact ⟨rfl, HB.out _⟩
set_option maxRecDepth 20000 in
set_option maxHeartbeats 4000000 in
theorem walkT_short (t : Tg) (hf : Wf t) (a : Option Addr) (cap : Nat) (ys : List Int) (w : World) (h : t.msg.length + ys.length + t.name.length + t.per.name.length ≤ 20000) (hy : IsB ys) (hS : Sl w a cap ys) (hw : Lw w) (he : Ers w) :
    Calls Tryz.prog 6 #[.agg (tgV t).toArray, .slice a ys.length cap] w fun e w' => e = .returned (.bool true) ∧ Below w.heap.size w w' := by
  obtain ⟨X, er, hX⟩ := wr_some t
  have HX : Hid (Wr t X er) := hX
  have HXB : Hid (IsB X) := hid (by
    rcases hX with ⟨_, rfl, _⟩ | ⟨_, rfl, _⟩
    · exact nums_isB _
    · intro x hx; cases hx)
  have HXL2 : Hid (X.length ≤ 200000) := hid (by
    rcases hX with ⟨hok, rfl, _⟩ | ⟨_, rfl, _⟩
    · rw [nums_len]; exact tagB_len t hf.1 hok
    · exact Nat.zero_le _)
  obtain ⟨xl, HXL⟩ : ∃ xl, Hid (X.length = xl) := ⟨_, rfl⟩
  have HX0 : Hid (er ≠ 0 → xl = 0) := hid (by
    rw [← HXL.out]
    rcases hX with ⟨_, _, rfl⟩ | ⟨_, rfl, _⟩
    · intro h; exact absurd rfl h
    · intro _; rfl)
  have h1m : t.name.length ≤ 1000000 := by omega
  have h4m : t.msg.length ≤ 1000000 := by omega
  clear hX
  obtain ⟨N, HNN⟩ : ∃ S : ByteArray, Hid (⟨t.name.toArray⟩ = S) := ⟨_, rfl⟩
  obtain ⟨M, HMM⟩ : ∃ S : ByteArray, Hid (⟨t.msg.toArray⟩ = S) := ⟨_, rfl⟩
  obtain ⟨P, HPP⟩ : ∃ S : ByteArray, Hid (⟨t.per.name.toArray⟩ = S) := ⟨_, rfl⟩
  obtain ⟨n1, Hn1⟩ : ∃ n, Hid (t.name.length = n) := ⟨_, rfl⟩
  obtain ⟨m1, Hm1⟩ : ∃ n, Hid (t.msg.length = n) := ⟨_, rfl⟩
  obtain ⟨p1, Hp1⟩ : ∃ n, Hid (t.per.name.length = n) := ⟨_, rfl⟩
  obtain ⟨yl, HYL⟩ : ∃ n, Hid (ys.length = n) := ⟨_, rfl⟩
  obtain ⟨kd, HKD⟩ : ∃ k, Hid (t.kind = k) := ⟨_, rfl⟩
  have sN : N.size = n1 := by rw [← HNN.out, txt_len]; exact Hn1.out
  have sM : M.size = m1 := by rw [← HMM.out, txt_len]; exact Hm1.out
  have sP : P.size = p1 := by rw [← HPP.out, txt_len]; exact Hp1.out
  rw [Hn1.out, Hm1.out, Hp1.out, HYL.out] at h
  have hci : ¬ (20000 : Int) < (m1 : Int) + yl + n1 + p1 := by omega
  obtain ⟨TV, HTV⟩ : ∃ l : List Value, Hid (tgV t = l) := ⟨_, rfl⟩
  have hvl : TV.length = 27 := by rw [← HTV.out]; exact tgV_len t hf.1
  have HVL : Hid (TV.length = 27) := hvl
  have hA26 : TV[26]'(by omega) = .string M := get_of (by rw [← HTV.out, ← HMM.out]; exact tgV_at t hf.1 6) _
  have hA21 : TV[21]'(by omega) = .string N := get_of (by rw [← HTV.out, ← HNN.out]; exact tgV_at t hf.1 1) _
  have hA22 : TV[22]'(by omega) = .string P := get_of (by rw [← HTV.out, ← HPP.out]; exact tgV_at t hf.1 2) _
  obtain ⟨G, HG⟩ : ∃ G, Hid (w.heap.size = G) := ⟨_, rfl⟩
  obtain ⟨w0, HW0⟩ : ∃ w0, Hid (w.alloc (.cells TV.toArray 71) = w0) := ⟨_, rfl⟩
  have HB0 : Hid (Below G w w0) := hid (by rw [← HW0.out, ← HG.out]; exact (Below.refl _ w).alloc (Nat.le_refl _) _)
  have BG0 : Hid (Bx G TV 71 w0) := ⟨by rw [← HW0.out, ← HG.out]; exact heap_alloc_new w _⟩
  have HLW : Hid (∀ W, Below G w W → Lw W) := fun W hW => hw.below (by rw [HG.out]; exact hW)
  have HER : Hid (∀ W, Below G w W → Ers W) := fun W hW => he.below (by rw [HG.out]; exact hW)
  have HSY : Hid (∀ W, Below G w W → Sl W a cap ys) := fun W hW => hS.below (by rw [HG.out]; exact hW)
  have CL : Hid ((w.alloc (.cells TV.toArray 71)).rangeAt w.heap.size 0 TV) := hid (range_row (heap_alloc_new w _))
  have hi71 : (Tryz.prog.info? 71).map (·.size) = some TV.length := by rw [hvl]; exact Tryz.size71
  have hi75 : (Tryz.prog.info? 75).map (·.size) = some TV.length := by rw [hvl]; exact Tryz.size75
  have C26 : Hid (Calls Tryz.prog 26 #[.agg TV.toArray] w0 fun e w' => Below w0.heap.size w0 w' ∧ ∃ ax cx, e = .returned (.tuple #[.slice ax xl cx, errV er]) ∧ Sl w' ax cx X) := hid (by
    rw [← HTV.out, ← HXL.out]
    exact write_x t hf X er HX.out h1m h4m w0 (HLW.out _ HB0.out).tab)
  have C28 : Hid (∀ W, Calls Tryz.prog 28 #[.agg TV.toArray] W fun e w' => Below W.heap.size W w' ∧ ∃ ax cx, e = .returned (.tuple #[.slice ax xl cx, .int .i64 er]) ∧ Sl w' ax cx X) := fun W => by
    rw [← HTV.out, ← HXL.out]
    exact writeR_x t hf X er HX.out W
  have HTE : Hid (∀ W, Below G w W → Calls Tryz.prog 11 #[errV er] W fun e w' => e = .returned (.int .i64 er) ∧ Below W.heap.size W w') := fun W hW => tell_any er W (HLW.out W hW)
  have HRY : Hid (∀ W, Below G w W → Calls Tryz.prog 29 #[.slice a yl cap] W fun e w' => e = .returned (.bool true) ∧ Below W.heap.size W w') := fun W hW => by
    have := readsTag_any a cap ys W (by rw [HYL.out]; omega) hy (HSY.out W hW) (HLW.out W hW) (HER.out W hW)
    rw [HYL.out] at this
    exact this
  have HRX : Hid (∀ W ax cx, Below G w W → Sl W ax cx X → Calls Tryz.prog 29 #[.slice ax xl cx] W fun e w' => e = .returned (.bool true) ∧ Below W.heap.size W w') := fun W ax cx hW hx => by
    have := readsTag_any ax cx X W HXL2.out HXB.out hx (HLW.out W hW) (HER.out W hW)
    rw [HXL.out] at this
    exact this
  obtain ⟨PV, HPV⟩ : ∃ l : List Value, Hid ((perV t.per).toList = l) := ⟨_, rfl⟩
  have CP : Hid (∀ W, Calls Tryz.prog 27 #[.agg PV.toArray] W fun e w' => e = .returned (.agg PV.toArray) ∧ Below W.heap.size W w') := fun W => by rw [← HPV.out]; exact person_any t.per W
  have hi58 : (Tryz.prog.info? 58).map (·.size) = some PV.length := by rw [← HPV.out]; exact Tryz.size58
  have hi64 : (Tryz.prog.info? 64).map (·.size) = some PV.length := by rw [← HPV.out]; exact Tryz.size64
  have I64 : Hid ((Tryz.prog.info? 64).map (·.size) = some PV.toArray.size) := hid (by rw [List.size_toArray]; exact hi64)
  have O64 : Hid (PV.toArray.all (·.oneCell') = true) := hid (by rw [← HPV.out]; exact perV_one t.per)
  have E64 : Hid ((#[.string ⟨#[]⟩, .string ⟨#[]⟩, .int .i64 0, .int .i64 0] : Array Value).size = PV.toArray.size) := hid (by rw [← HPV.out]; rfl)
  obtain ⟨RF, HRF⟩ : ∃ R : List Value, Hid (row .u8 t.id = R) := ⟨_, rfl⟩
  have hi32 : (Tryz.prog.info? 32).map (·.size) = some RF.length := by rw [← HRF.out, row_len, hf.1]; exact Tryz.size32
  have HBU : Hid (Tryz.prog.built 75 [(0, .agg RF.toArray), (1, .int .i64 kd), (2, .string N), (3, .agg PV.toArray), (4, .string M)] = some TV.toArray) := hid (by
    rw [← HRF.out, ← HKD.out, ← HNN.out, ← HPV.out, ← HMM.out, ← HTV.out]
    exact built75 t hf.1)
  obtain ⟨ZV, HZ⟩ : ∃ l : List Value, Hid (l = tgV (tg0 z20)) := ⟨_, rfl⟩
  have hz75 : ∀ w : World, (zeroValue 75).run Tryz.prog w = .ok (.agg ZV.toArray) w := fun w => by rw [HZ.out]; exact zero75 w
  have I75 : Hid ((Tryz.prog.info? 75).map (·.size) = some TV.toArray.size) := hid (by rw [List.size_toArray]; exact hi75)
  have O75 : Hid (TV.toArray.all (·.oneCell') = true) := hid (by rw [← HTV.out]; exact all_oneCell_toArray (tgV_one t))
  have E75 : Hid (ZV.toArray.size = TV.toArray.size) := hid (by rw [List.size_toArray, List.size_toArray, HZ.out, hvl]; exact tgV_len _ rfl)
  have HC : Hid (∀ W, Bx G TV 71 W → BoxG G t W ∧ W.rangeAt G 22 (perV t.per).toList ∧ W.rangeAt G 0 TV) := fun W hW => hW.cells HTV.out hf.1
  rw [HTV.out, HYL.out]
  clear hS hw he hf
  go_enter Tryz.func6, Tryz.ntmps6
  go_wp2_with (first | refine wpList_load_mid rfl 71 _ rfl w.heap.size 0 rfl TV _ CL.out Tryz.underlying71 rfl hi71 ?_ | fail)
  rw [HG.out, HW0.out]
  clear hA26 hA21 hA22 CL hvl
  refine C26.out.mono ?_
  rintro ev w1 ⟨hb, ax, cx, rfl, hsx⟩
  have HB1 : Hid (Below G w w1) := HB0.out.trans (hb.mono (Nat.le_of_lt BG0.out.lt))
  have BG1 : Hid (Bx G TV 71 w1) := BG0.out.below hb
  have SX1 : Hid (Sl w1 ax cx X) := hsx
  clear hb hsx
  go_wp2_with fail
  refine (HTE.out w1 HB1.out).mono ?_
  rintro ev w2 ⟨rfl, hb⟩
  have HB2 : Hid (Below G w w2) := HB1.out.trans (hb.mono (Nat.le_of_lt BG1.out.lt))
  have BG2 : Hid (Bx G TV 71 w2) := BG1.out.below hb
  have SX2 : Hid (Sl w2 ax cx X) := SX1.out.below hb
  clear hb
  have R2 : Hid (w2.rangeAt G 22 PV) := hid (by rw [← HPV.out]; exact (HC.out _ BG2.out).2.1)
  go_wp2_with (first | refine wpList_load_mid rfl 58 _ rfl G 22 rfl PV _ R2.out Tryz.underlying58 rfl hi58 ?_ | fail)
  refine (CP.out w2).mono ?_
  rintro ev w3 ⟨rfl, hb⟩
  have HB3 : Hid (Below G w w3) := HB2.out.trans (hb.mono (Nat.le_of_lt BG2.out.lt))
  have BG3 : Hid (Bx G TV 71 w3) := BG2.out.below hb
  have SX3 : Hid (Sl w3 ax cx X) := SX2.out.below hb
  clear hb
  have D3 : Hid ((w3.alloc (.cells #[.string ⟨#[]⟩, .string ⟨#[]⟩, .int .i64 0, .int .i64 0] 64)).heap[w3.heap.size]? = some (.cells #[.string ⟨#[]⟩, .string ⟨#[]⟩, .int .i64 0, .int .i64 0] 64 (0, 0))) := heap_alloc_new w3 _
  obtain ⟨w4, HW4⟩ : ∃ w4, Hid ((w3.alloc (.cells #[.string ⟨#[]⟩, .string ⟨#[]⟩, .int .i64 0, .int .i64 0] 64)).setRow w3.heap.size PV.toArray = w4) := ⟨_, rfl⟩
  obtain ⟨K, HK⟩ : ∃ K, Hid (w3.heap.size = K) := ⟨_, rfl⟩
  have hb4 : Below w3.heap.size w3 w4 := by rw [← HW4.out]; exact below_setRow ((Below.refl _ w3).alloc (Nat.le_refl _) _) (Nat.le_refl _) _
  have HB4 : Hid (Below G w w4) := HB3.out.trans (hb4.mono (Nat.le_of_lt BG3.out.lt))
  have BG4 : Hid (Bx G TV 71 w4) := BG3.out.below hb4
  have SX4 : Hid (Sl w4 ax cx X) := SX3.out.below hb4
  have BK4 : Hid (Bx K PV 64 w4) := ⟨by rw [← HW4.out, ← HK.out]; exact setRow_heap _ _ _ PV.toArray _ _ D3.out⟩
  clear hb4
  have Q0 : Hid (w4.rangeAt G 0 RF) := hid (by rw [← HRF.out]; exact (HC.out _ BG4.out).1.id)
  have QK : Hid (w4.rangeAt K 0 PV) := hid (range_row BK4.out.box)
  have x20 : w4.cell? ⟨G, 20, none⟩ = some (.int .i64 kd) := by rw [← HKD.out]; exact (HC.out _ BG4.out).1.c20
  have x21 : w4.cell? ⟨G, 21, none⟩ = some (.string N) := by rw [← HNN.out]; exact (HC.out _ BG4.out).1.c21
  have X26 : Hid (w4.cell? ⟨G, 26, none⟩ = some (.string M)) := hid <| by rw [← HMM.out]; exact (HC.out _ BG4.out).1.c26
  have D4 : Hid ((w4.alloc (.cells ZV.toArray 75)).heap[w4.heap.size]? = some (.cells ZV.toArray 75 (0, 0))) := heap_alloc_new w4 _
  obtain ⟨w5, HW5⟩ : ∃ w5, Hid ((w4.alloc (.cells ZV.toArray 75)).setRow w4.heap.size TV.toArray = w5) := ⟨_, rfl⟩
  obtain ⟨Q, HQ⟩ : ∃ Q, Hid (w4.heap.size = Q) := ⟨_, rfl⟩
  have hb5 : Below w4.heap.size w4 w5 := by rw [← HW5.out]; exact below_setRow ((Below.refl _ w4).alloc (Nat.le_refl _) _) (Nat.le_refl _) _
  have HB5 : Hid (Below G w w5) := HB4.out.trans (hb5.mono (Nat.le_of_lt BG4.out.lt))
  have BG5 : Hid (Bx G TV 71 w5) := BG4.out.below hb5
  have SX5 : Hid (Sl w5 ax cx X) := SX4.out.below hb5
  have BQ5 : Hid (Bx Q TV 75 w5) := ⟨by rw [← HW5.out, ← HQ.out]; exact setRow_heap _ _ _ TV.toArray _ _ D4.out⟩
  have QQ : Hid (w5.rangeAt Q 0 TV) := hid (range_row BQ5.out.box)
  clear hb5
  go_wp2_with (first
    | (refine wpList_store_row rfl 64 _ _ rfl w3.heap.size PV.toArray rfl rfl 64 _ D3.out I64.out E64.out O64.out ?_; rw [HW4.out, HK.out])
    | refine wpList_load_mid rfl 32 _ rfl G 0 rfl RF _ Q0.out Tryz.underlying32 rfl hi32 ?_
    | refine wpList_load_mid rfl 64 _ rfl K 0 rfl PV _ QK.out Tryz.underlying64 rfl hi64 ?_
    | (refine BigFrame.wpList_want (by rfl) (fun K hK => ?_); refine wp_load_str _ rfl G 26 rfl M X26.out ?_; refine hK _ _ ?_; clear hK K; refine wpList_built rfl 75 _ rfl TV.toArray (by simp only [List.map_toArray, List.map_cons, List.map_nil]; exact HBU.out) ?_)
    | (refine wpList_store_row rfl 75 _ _ rfl w4.heap.size TV.toArray rfl rfl 75 ZV.toArray D4.out I75.out E75.out O75.out ?_; rw [HW5.out, HQ.out])
    | refine wpList_load_mid rfl 75 _ rfl Q 0 rfl TV _ QQ.out Tryz.underlying75 rfl hi75 ?_
    | fail)
  clear x20 x21 X26 hz75
  refine (C28.out w5).mono ?_
  rintro ev w6 ⟨hb, ay, cy, rfl, hsy⟩
  have HB6 : Hid (Below G w w6) := HB5.out.trans (hb.mono (Nat.le_of_lt BG5.out.lt))
  have BG6 : Hid (Bx G TV 71 w6) := BG5.out.below hb
  have SX6 : Hid (Sl w6 ax cx X) := SX5.out.below hb
  have SY6 : Hid (Sl w6 ay cy X) := hsy
  clear hb hsy
  have HSA : Hid (Calls Tryz.prog 16 #[.slice ax xl cx, .slice ay xl cy] w6 fun e w' => e = .returned (.bool true) ∧ ∃ q, w' = w6.drewN q) := hid (by
    have := same_any ax ay cx cy X w6 (Nat.le_trans HXL2.out (by omega)) (fun h0 => by obtain ⟨b, off, e1, _, e3⟩ := SX6.out.at_ h0; exact ⟨b, off, e1, e3⟩) (fun h0 => by obtain ⟨b, off, e1, _, e3⟩ := SY6.out.at_ h0; exact ⟨b, off, e1, e3⟩)
    rw [HXL.out] at this
    exact this)
  go_wp2_with fail
  refine HSA.out.mono ?_
  rintro ev w7 ⟨rfl, q7, hw7⟩
  have hb : Below w6.heap.size w6 w7 := by rw [hw7]; exact below_drewH (Below.refl _ _) _
  clear hw7
  have HB7 : Hid (Below G w w7) := HB6.out.trans (hb.mono (Nat.le_of_lt BG6.out.lt))
  have BG7 : Hid (Bx G TV 71 w7) := BG6.out.below hb
  have SX7 : Hid (Sl w7 ax cx X) := SX6.out.below hb
  clear hb
  go_wp2_with fail
  refine (HRY.out w7 HB7.out).mono ?_
  rintro ev w8 ⟨rfl, hb⟩
  have HB8 : Hid (Below G w w8) := HB7.out.trans (hb.mono (Nat.le_of_lt BG7.out.lt))
  have BG8 : Hid (Bx G TV 71 w8) := BG7.out.below hb
  have SX8 : Hid (Sl w8 ax cx X) := SX7.out.below hb
  clear hb
  by_cases her : er = 0
  · subst her
    go_wp2_with fail
    refine (HRX.out w8 ax cx HB8.out SX8.out).mono ?_
    rintro ev w9 ⟨rfl, hb⟩
    have HB9 : Hid (Below G w w9) := HB8.out.trans (hb.mono (Nat.le_of_lt BG8.out.lt))
    clear hb
    go_wp2
    go_ret
    exact ⟨rfl, by rw [HG.out]; exact HB9.out⟩
  · have her2 : (er == 0) = false := by simpa using her
    have hx0 := HX0.out her
    subst hx0
    go_wp2
    go_ret
    exact ⟨rfl, by rw [HG.out]; exact HB8.out⟩
end Go.Proofs.YtbpdielmdhhdfaaGreatDoor
