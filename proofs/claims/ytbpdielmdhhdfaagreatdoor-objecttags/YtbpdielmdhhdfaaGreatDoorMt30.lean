import Derived.Test.YtbpdielmdhhdfaaGreatDoorMt21
import Derived.Test.YtbpdielmdhhdfaaGreatDoorMt27
import Derived.Test.YtbpdielmdhhdfaaGreatDoorMt28
import Derived.Test.YtbpdielmdhhdfaaGreatDoorMt29
/- The document's side of chapter 3: WriteTag. -/
namespace Go.Proofs.YtbpdielmdhhdfaaGreatDoor
open Go.RowKit
set_option linter.unusedVariables false
set_option linter.unusedSimpArgs false
theorem enter60 (v : Value) (w : World) : (callFunc 60 #[v]).run Tryz.prog w = .ok (.enter 60 #[v]) w := by kernel_rfl
theorem enter37 (v : Value) (w : World) : (callFunc 37 #[v]).run Tryz.prog w = .ok (.enter 37 #[v]) w := by kernel_rfl
theorem txt_size (l : List UInt8) : (⟨l.toArray⟩ : ByteArray).size = l.length := by simp [ByteArray.size]
/-- What the document's 'WriteTag' gives. -/
def PostU (t : Tg) (w : World) (e : Ending) (w' : World) : Prop := Below w.heap.size w w' ∧
  ((okG t ∧ ∃ g cap : Nat, e = .returned (.tuple #[.slice (some ⟨g, 0, none⟩) (tagB t).length cap, .int .i64 0]) ∧ w.heap.size ≤ g ∧ Mk w' g cap (nums (tagB t))) ∨ (¬ okG t ∧ e = .returned (.tuple #[.slice none 0 0, .int .i64 23])))
set_option maxRecDepth 20000 in
set_option maxHeartbeats 4000000 in
theorem writeTagR_any (t : Tg) (hid20 : t.id.length = 20) (hidB : ∀ n ∈ t.id, 0 ≤ n ∧ n < 256) (w : World) :
    Calls Tryz.prog 28 #[.agg (tgV t).toArray] w (PostU t w) := by
  obtain ⟨A, HA⟩ : ∃ A : Array Value, Hid ((tgV t).toArray = A) := ⟨_, rfl⟩
  have hsz : A.size = 27 := by rw [← HA.out, List.size_toArray]; exact tgV_len t hid20
  obtain ⟨G, HG⟩ : ∃ G, Hid (w.heap.size = G) := ⟨_, rfl⟩
  obtain ⟨w0, HW0⟩ : ∃ w0, Hid (w.alloc (.cells A 75) = w0) := ⟨_, rfl⟩
  have HX0 : Hid (BoxG G t w0) := hid (by rw [← HW0.out, ← HG.out, ← HA.out]; exact box_alloc t hid20 w 75)
  have HB0 : Hid (Below G w w0) := hid (by rw [← HW0.out, ← HG.out]; exact (Below.refl _ w).alloc (Nat.le_refl _) _)
  have hs0 : G < w0.heap.size := by rw [← HW0.out, ← HG.out]; simp
  obtain ⟨R, HR⟩ : ∃ R : List Value, Hid (row .u8 t.id = R) := ⟨_, rfl⟩
  obtain ⟨Kn, HK⟩ : ∃ S : ByteArray, Hid (kN t.kind = S) := ⟨_, rfl⟩
  obtain ⟨Hxs, HHX⟩ : ∃ S : ByteArray, Hid (strOfNums (Hx.hexOf t.id) = S) := ⟨_, rfl⟩
  obtain ⟨kd, HKD⟩ : ∃ kd, Hid (t.kind = kd) := ⟨_, rfl⟩
  obtain ⟨N, HNN⟩ : ∃ S : ByteArray, Hid (⟨t.name.toArray⟩ = S) := ⟨_, rfl⟩
  obtain ⟨M, HMM⟩ : ∃ S : ByteArray, Hid (⟨t.msg.toArray⟩ = S) := ⟨_, rfl⟩
  obtain ⟨P1, HP1⟩ : ∃ S : ByteArray, Hid (⟨t.per.name.toArray⟩ = S) := ⟨_, rfl⟩
  obtain ⟨P2, HP2⟩ : ∃ S : ByteArray, Hid (⟨t.per.mail.toArray⟩ = S) := ⟨_, rfl⟩
  obtain ⟨tm, HTM⟩ : ∃ x, Hid (t.per.time = x) := ⟨_, rfl⟩
  obtain ⟨zn, HZN⟩ : ∃ x, Hid (t.per.zone = x) := ⟨_, rfl⟩
  obtain ⟨Pt, HPT⟩ : ∃ S : ByteArray, Hid (⟨(perB t.per).toArray⟩ = S) := ⟨_, rfl⟩
  obtain ⟨TB, HTB⟩ : ∃ l : List UInt8, Hid (tagB t = l) := ⟨_, rfl⟩
  obtain ⟨ms, HMSB⟩ : ∃ b : Bool, Hid (isMsg t.msg = b) := ⟨_, rfl⟩
  have CT : Hid (∀ W, Calls Tryz.prog 66 #[.string N] W fun e w' => BIs (okN t.name) e ∧ w' = W) := fun W => by rw [← HNN.out]; exact isTagR_any t.name W
  have CP : Hid (∀ W, Calls Tryz.prog 58 #[.agg #[.string P1, .string P2, .int .i64 tm, .int .i64 zn]] W (PostX t.per W)) := fun W => by
    rw [← HP1.out, ← HP2.out, ← HTM.out, ← HZN.out]; exact text_any t.per W
  have CM : Hid (∀ W, Calls Tryz.prog 59 #[.string M] W fun e w' => e = .returned (.bool ms) ∧ w' = W) := fun W => by rw [← HMM.out, ← HMSB.out]; exact message_any t.msg W
  have CK : Hid (∀ W, Calls Tryz.prog 37 #[.int .i64 kd] W fun e w' => e = .returned (.string Kn) ∧ w' = W) := fun W => by rw [← HKD.out, ← HK.out]; exact name_any t.kind W
  have CH : Hid (∀ W, Calls Tryz.prog 60 #[.agg R.toArray] W fun e w' => e = .returned (.string Hxs) ∧ Below W.heap.size W w') := fun W => by
    rw [← HR.out, ← HHX.out]; exact Hx.hex_ref t.id W hid20 hidB
  have HBX : Hid (∀ W, Below w0.heap.size w0 W → BoxL G R kd N P1 P2 tm zn M W) := fun W hW => by
    have hx := HX0.out.below hs0 hW
    rw [← HR.out, ← HKD.out, ← HNN.out, ← HP1.out, ← HP2.out, ← HTM.out, ← HZN.out, ← HMM.out]
    exact ⟨hx.id, hx.c20, hx.c21, hx.c22, hx.c23, hx.c24, hx.c25, hx.c26⟩
  have HBE : Hid (∀ W, Below w0.heap.size w0 W → Below w.heap.size w W) := fun W hW => by rw [HG.out]; exact HB0.out.trans (hW.mono (Nat.le_of_lt hs0))
  have hA21 : A[21]'(by omega) = .string N := by
    have hr := cell_of_row w0 G 21 A 75 (0, 0) (by rw [← HW0.out, ← HG.out]; exact heap_alloc_new w _)
    rw [(HBX.out w0 (Below.refl _ _)).c21, Array.getElem?_eq_getElem (by omega)] at hr
    exact (Option.some.inj hr).symm
  have hi31 : (Tryz.prog.info? 31).map (·.size) = some R.length := by rw [← HR.out, row_len, hid20]; kernel_rfl
  have HI31 : Hid ((Tryz.prog.info? 31).map (·.size) = some R.length) := hi31
  have HHL : Hid (Hxs.size = 40) := hid (by rw [← HHX.out, strOfNums_size, Hx.hexOf_len, hid20])
  have HID : Hid (t.id.length = 20) := hid20
  clear hi31 hid20 hidB
  rw [HA.out]
  go_enter Tryz.func28, Tryz.ntmps28
  go_wp2_with fail
  rw [HG.out, HW0.out]
  clear hA21 hsz
  refine (CT.out w0).mono ?_
  rintro ev w0' ⟨hb, hw0⟩
  have hw0' := hw0.symm
  subst hw0'
  clear hw0
  obtain ⟨b1, rfl, hb1⟩ := hb
  have HB1 : Hid (b1 = true ↔ okN t.name) := hb1
  clear hb1
  obtain ⟨cid, c20, c21, c22, c23, c24, c25, c26⟩ := HBX.out w0 (Below.refl _ _)
  go_wp2_with fail
  refine (CP.out w0).mono ?_
  rintro ev w1 ⟨hb1, hor⟩
  have HBW : Hid (Below w0.heap.size w0 w1) := hb1
  have HOR : Hid ((okP t.per ∧ ev = .returned (.tuple #[.string Pt, .bool true])) ∨ (¬ okP t.per ∧ ev = .returned (.tuple #[.string ⟨#[]⟩, .bool false]))) := hid (by rw [← HPT.out]; exact hor)
  clear hor hb1 cid c20 c21 c22 c23 c24 c25 c26
  obtain ⟨cid, c20, c21, c22, c23, c24, c25, c26⟩ := HBX.out w1 HBW.out
  have hs1 : G < w1.heap.size := Nat.lt_of_lt_of_le hs0 HBW.out.size
  rcases HOR.out with ⟨hp, rfl⟩ | ⟨hp, rfl⟩
  rotate_left
  · have HNO : Hid (¬ okG t) := fun h => hp h.2.2.1
    clear HOR hp
    go_wp2_with fail
    refine (CM.out w1).mono ?_
    rintro ev w1' ⟨rfl, hw1⟩
    have hw1' := hw1.symm
    subst hw1'
    clear hw1
    go_wp2_with fail
    refine (CK.out w1).mono ?_
    rintro ev w1' ⟨rfl, hw1⟩
    have hw1' := hw1.symm
    subst hw1'
    clear hw1
    cases hk : Kn.toList.isEmpty
    all_goals
      cases b1
      all_goals
        go_wp2
        go_ret2
        exact ⟨HBE.out _ HBW.out, .inr ⟨HNO.out, rfl⟩⟩
  have HPO : Hid (okP t.per) := hp
  clear HOR hp
  go_wp2_with fail
  refine (CM.out w1).mono ?_
  rintro ev w1' ⟨rfl, hw1⟩
  have hw1' := hw1.symm
  subst hw1'
  clear hw1
  go_wp2_with fail
  refine (CK.out w1).mono ?_
  rintro ev w1' ⟨rfl, hw1⟩
  have hw1' := hw1.symm
  subst hw1'
  clear hw1
  by_cases hk : Kn.toList.isEmpty = true
  · have HNO : Hid (¬ okG t) := fun h => h.1 (by rw [HK.out]; exact hk)
    go_wp2
    go_ret2
    exact ⟨HBE.out _ HBW.out, .inr ⟨HNO.out, rfl⟩⟩
  have hk2 : Kn.toList.isEmpty = false := by simpa using hk
  cases b1 with
  | false =>
    have HNO : Hid (¬ okG t) := fun h => by have := HB1.out.2 h.2.1; cases this
    go_wp2
    go_ret2
    exact ⟨HBE.out _ HBW.out, .inr ⟨HNO.out, rfl⟩⟩
  | true =>
  cases ms with
  | false =>
    have HNO : Hid (¬ okG t) := fun h => by have h2 := h.2.2.2; rw [HMSB.out] at h2; cases h2
    go_wp2
    go_ret2
    exact ⟨HBE.out _ HBW.out, .inr ⟨HNO.out, rfl⟩⟩
  | true =>
  have HOK : Hid (okG t) := ⟨(by rw [HK.out]; exact hk), HB1.out.1 rfl, HPO.out, HMSB.out⟩
  have HN60 : Hid (N.size ≤ 60) := hid (by rw [← HNN.out, txt_size]; exact HOK.out.2.1.2.1)
  have HM2k : Hid (M.size ≤ 2000) := hid (by rw [← HMM.out, txt_size]; have := HOK.out.2.2.2; unfold isMsg at this; rw [Bool.and_eq_true] at this; exact of_decide_eq_true this.1)
  have HPL : Hid (Pt.size ≤ 1000) := hid (by rw [← HPT.out, txt_size]; exact perB_len t.per HOK.out.2.2.1)
  have HKL : Hid (Kn.size ≤ 10) := hid (by rw [← HK.out]; exact kN_len10 t.kind)
  have lw1 : (⟨#[111, 98, 106, 101, 99, 116, 32]⟩ : ByteArray).size = 7 := rfl
  have lw2 : (⟨#[10, 116, 121, 112, 101, 32]⟩ : ByteArray).size = 6 := rfl
  have lw3 : (⟨#[10, 116, 97, 103, 32]⟩ : ByteArray).size = 5 := rfl
  have lw4 : (⟨#[10, 116, 97, 103, 103, 101, 114, 32]⟩ : ByteArray).size = 8 := rfl
  have lw5 : (⟨#[10, 10]⟩ : ByteArray).size = 2 := rfl
  obtain ⟨A1, HA1⟩ : ∃ A, (⟨#[111, 98, 106, 101, 99, 116, 32]⟩ : ByteArray) ++ Hxs = A := ⟨_, rfl⟩
  have SA1 : Hid (A1.size = 7 + Hxs.size) := hid (by rw [← HA1, ByteArray.size_append, lw1])
  obtain ⟨A2, HA2⟩ : ∃ A, (A1 : ByteArray) ++ ⟨#[10, 116, 121, 112, 101, 32]⟩ = A := ⟨_, rfl⟩
  have SA2 : Hid (A2.size = A1.size + 6) := hid (by rw [← HA2, ByteArray.size_append, lw2])
  obtain ⟨A3, HA3⟩ : ∃ A, (A2 : ByteArray) ++ Kn = A := ⟨_, rfl⟩
  have SA3 : Hid (A3.size = A2.size + Kn.size) := hid (by rw [← HA3, ByteArray.size_append])
  obtain ⟨A4, HA4⟩ : ∃ A, (A3 : ByteArray) ++ ⟨#[10, 116, 97, 103, 32]⟩ = A := ⟨_, rfl⟩
  have SA4 : Hid (A4.size = A3.size + 5) := hid (by rw [← HA4, ByteArray.size_append, lw3])
  obtain ⟨A5, HA5⟩ : ∃ A, (A4 : ByteArray) ++ N = A := ⟨_, rfl⟩
  have SA5 : Hid (A5.size = A4.size + N.size) := hid (by rw [← HA5, ByteArray.size_append])
  obtain ⟨A6, HA6⟩ : ∃ A, (A5 : ByteArray) ++ ⟨#[10, 116, 97, 103, 103, 101, 114, 32]⟩ = A := ⟨_, rfl⟩
  have SA6 : Hid (A6.size = A5.size + 8) := hid (by rw [← HA6, ByteArray.size_append, lw4])
  obtain ⟨A7, HA7⟩ : ∃ A, (A6 : ByteArray) ++ Pt = A := ⟨_, rfl⟩
  have SA7 : Hid (A7.size = A6.size + Pt.size) := hid (by rw [← HA7, ByteArray.size_append])
  obtain ⟨A8, HA8⟩ : ∃ A, (A7 : ByteArray) ++ ⟨#[10, 10]⟩ = A := ⟨_, rfl⟩
  have SA8 : Hid (A8.size = A7.size + 2) := hid (by rw [← HA8, ByteArray.size_append, lw5])
  obtain ⟨A9, HA9⟩ : ∃ A, (A8 : ByteArray) ++ M = A := ⟨_, rfl⟩
  have SA9 : Hid (A9.size = A8.size + M.size) := hid (by rw [← HA9, ByteArray.size_append])
  have g0 : ¬ 9223372036854775807 < 7 + Hxs.size := by have q1 := HHL.out; have q2 := HKL.out; have q3 := HN60.out; have q4 := HPL.out; have q5 := HM2k.out; have r0 := SA1.out; omega
  have g1 : ¬ 9223372036854775807 < A1.size + 6 := by have q1 := HHL.out; have q2 := HKL.out; have q3 := HN60.out; have q4 := HPL.out; have q5 := HM2k.out; have r0 := SA1.out; have r1 := SA2.out; omega
  have g2 : ¬ 9223372036854775807 < A2.size + Kn.size := by have q1 := HHL.out; have q2 := HKL.out; have q3 := HN60.out; have q4 := HPL.out; have q5 := HM2k.out; have r0 := SA1.out; have r1 := SA2.out; have r2 := SA3.out; omega
  have g3 : ¬ 9223372036854775807 < A3.size + 5 := by have q1 := HHL.out; have q2 := HKL.out; have q3 := HN60.out; have q4 := HPL.out; have q5 := HM2k.out; have r0 := SA1.out; have r1 := SA2.out; have r2 := SA3.out; have r3 := SA4.out; omega
  have g4 : ¬ 9223372036854775807 < A4.size + N.size := by have q1 := HHL.out; have q2 := HKL.out; have q3 := HN60.out; have q4 := HPL.out; have q5 := HM2k.out; have r0 := SA1.out; have r1 := SA2.out; have r2 := SA3.out; have r3 := SA4.out; have r4 := SA5.out; omega
  have g5 : ¬ 9223372036854775807 < A5.size + 8 := by have q1 := HHL.out; have q2 := HKL.out; have q3 := HN60.out; have q4 := HPL.out; have q5 := HM2k.out; have r0 := SA1.out; have r1 := SA2.out; have r2 := SA3.out; have r3 := SA4.out; have r4 := SA5.out; have r5 := SA6.out; omega
  have g6 : ¬ 9223372036854775807 < A6.size + Pt.size := by have q1 := HHL.out; have q2 := HKL.out; have q3 := HN60.out; have q4 := HPL.out; have q5 := HM2k.out; have r0 := SA1.out; have r1 := SA2.out; have r2 := SA3.out; have r3 := SA4.out; have r4 := SA5.out; have r5 := SA6.out; have r6 := SA7.out; omega
  have g7 : ¬ 9223372036854775807 < A7.size + 2 := by have q1 := HHL.out; have q2 := HKL.out; have q3 := HN60.out; have q4 := HPL.out; have q5 := HM2k.out; have r0 := SA1.out; have r1 := SA2.out; have r2 := SA3.out; have r3 := SA4.out; have r4 := SA5.out; have r5 := SA6.out; have r6 := SA7.out; have r7 := SA8.out; omega
  have g8 : ¬ 9223372036854775807 < A8.size + M.size := by have q1 := HHL.out; have q2 := HKL.out; have q3 := HN60.out; have q4 := HPL.out; have q5 := HM2k.out; have r0 := SA1.out; have r1 := SA2.out; have r2 := SA3.out; have r3 := SA4.out; have r4 := SA5.out; have r5 := SA6.out; have r6 := SA7.out; have r7 := SA8.out; have r8 := SA9.out; omega
  have HE : Hid (A9 = ⟨TB.toArray⟩) := hid (by
    rw [← HTB.out, ← HA9, ← HA8, ← HA7, ← HA6, ← HA5, ← HA4, ← HA3, ← HA2, ← HA1, ← HHX.out, ← HPT.out, ← HNN.out, ← HMM.out, ← HK.out]
    apply ByteArray.ext
    apply Array.toList_inj.1
    simp [tagB, ln2, hexB, w_object, w_type, w_tag, w_tagger, strOfNums])
  have PE : Hid (∀ W gq cq, Below w0.heap.size w0 W → w0.heap.size ≤ gq → Mk W gq cq (nums TB) → PostU t w (.returned (.tuple #[.slice (some ⟨gq, 0, none⟩) TB.length cq, .int .i64 0])) W) := fun W gq cq a b c => by
    refine ⟨HBE.out W a, .inl ⟨HOK.out, gq, cq, ?_, Nat.le_trans (HBE.out w0 (Below.refl _ _)).size b, ?_⟩⟩
    · rw [HTB.out]
    · rw [HTB.out]; exact c
  clear cid c20 c21 c22 c23 c24 c25 c26
  have HXd : Hid (BoxL G R kd N P1 P2 tm zn M w1.drew) := hid (by
    have h := HBX.out w1 HBW.out
    exact ⟨h.id, h.c20, h.c21, h.c22, h.c23, h.c24, h.c25, h.c26⟩)
  go_wp2_with fail
  refine wp_region_held_drew (S := BoxL G R kd N P1 P2 tm zn M) (by kernel_rfl) (by exact HXd.out) (fun hHeld => ?_)
  have hsd : G < w1.drew.heap.size := hs1
  have HBd : Hid (Below w0.heap.size w0 w1.drew) := hid ⟨HBW.out.os, HBW.out.tape, HBW.out.output, HBW.out.size, HBW.out.block⟩
  clear HXd
  generalize w1.drew = wd at hHeld hsd HBd ⊢
  refine takeL (i := 0) (v := ?_) rfl (by kernel_rfl) (by kernel_rfl) (by kernel_rfl) (fun _ _ _ h => h) (Or.inl ⟨by rfl, ?_⟩) hHeld ?_
  rotate_left
  · rintro w' ⟨cid, c20, c21, c22, c23, c24, c25, c26⟩; go_simp; rfl
  try simp only [Act.put, List.setIfInBounds_toArray, List.set_cons_zero, List.set_cons_succ]
  refine takeL (i := 1) (v := .agg R.toArray) rfl (by kernel_rfl) (by kernel_rfl) (by kernel_rfl) (fun _ _ _ h => h) (yieldsIf_load_mid (by rfl) 31 _ rfl G 0 (by rfl) R _ (fun w' h => h.id) Tryz.underlying31 rfl HI31.out) hHeld ?_
  try simp only [Act.put, List.setIfInBounds_toArray, List.set_cons_zero, List.set_cons_succ]
  refine takeL (i := 5) (v := ?_) rfl (by kernel_rfl) (by kernel_rfl) (by kernel_rfl) (fun _ _ _ h => h) (Or.inl ⟨by rfl, ?_⟩) hHeld ?_
  rotate_left
  · rintro w' ⟨cid, c20, c21, c22, c23, c24, c25, c26⟩; go_simp; rfl
  try simp only [Act.put, List.setIfInBounds_toArray, List.set_cons_zero, List.set_cons_succ]
  refine takeL (i := 6) (v := ?_) rfl (by kernel_rfl) (by kernel_rfl) (by kernel_rfl) (fun _ _ _ h => h) (Or.inl ⟨by rfl, ?_⟩) hHeld ?_
  rotate_left
  · rintro w' ⟨cid, c20, c21, c22, c23, c24, c25, c26⟩; go_simp; rfl
  try simp only [Act.put, List.setIfInBounds_toArray, List.set_cons_zero, List.set_cons_succ]
  refine takeL (i := 10) (v := ?_) rfl (by kernel_rfl) (by kernel_rfl) (by kernel_rfl) (fun _ _ _ h => h) (Or.inl ⟨by rfl, ?_⟩) hHeld ?_
  rotate_left
  · rintro w' ⟨cid, c20, c21, c22, c23, c24, c25, c26⟩; go_simp; rfl
  try simp only [Act.put, List.setIfInBounds_toArray, List.set_cons_zero, List.set_cons_succ]
  refine takeL (i := 11) (v := ?_) rfl (by kernel_rfl) (by kernel_rfl) (by kernel_rfl) (fun _ _ _ h => h) (Or.inl ⟨by rfl, ?_⟩) hHeld ?_
  rotate_left
  · rintro w' ⟨cid, c20, c21, c22, c23, c24, c25, c26⟩; go_simp; rfl
  try simp only [Act.put, List.setIfInBounds_toArray, List.set_cons_zero, List.set_cons_succ]
  refine takeL (i := 14) (v := ?_) rfl (by kernel_rfl) (by kernel_rfl) (by kernel_rfl) (fun _ _ _ h => h) (Or.inl ⟨by rfl, ?_⟩) hHeld ?_
  rotate_left
  · rintro w' ⟨cid, c20, c21, c22, c23, c24, c25, c26⟩; go_simp; rfl
  try simp only [Act.put, List.setIfInBounds_toArray, List.set_cons_zero, List.set_cons_succ]
  refine takeL (i := 17) (v := ?_) rfl (by kernel_rfl) (by kernel_rfl) (by kernel_rfl) (fun _ _ _ h => h) (Or.inl ⟨by rfl, ?_⟩) hHeld ?_
  rotate_left
  · rintro w' ⟨cid, c20, c21, c22, c23, c24, c25, c26⟩; go_simp; rfl
  try simp only [Act.put, List.setIfInBounds_toArray, List.set_cons_zero, List.set_cons_succ]
  refine takeL (i := 18) (v := ?_) rfl (by kernel_rfl) (by kernel_rfl) (by kernel_rfl) (fun _ _ _ h => h) (Or.inl ⟨by rfl, ?_⟩) hHeld ?_
  rotate_left
  · rintro w' ⟨cid, c20, c21, c22, c23, c24, c25, c26⟩; go_simp; rfl
  try simp only [Act.put, List.setIfInBounds_toArray, List.set_cons_zero, List.set_cons_succ]
  refine wpAnyH_ready (rs := [2]) (by kernel_rfl) (by simp) ?_
  refine consL rfl (fun KK hKK => ?_) AllReadyH.nil
  refine step_callv (by rfl) 60 [.tmp 38] _ [.agg R.toArray] _ (by rfl) (by rfl) (enter60 _) (CH.out _) ?_
  rintro e w2 ⟨rfl, hb2⟩
  refine ⟨_, rfl, ?_⟩
  have HB2 : Hid (Below w0.heap.size w0 w2) := HBd.out.trans (hb2.mono HBd.out.size)
  refine hKK.out _ _ (hHeld.below hsd hb2) (fun hHeld => ?_)
  clear hKK KK hb2
  try simp only [Act.put, List.setIfInBounds_toArray, List.set_cons_zero, List.set_cons_succ]
  refine takeL (i := 3) (v := ?_) rfl (by kernel_rfl) (by kernel_rfl) (by kernel_rfl) (fun _ _ _ h => h) (Or.inl ⟨by rfl, ?_⟩) hHeld ?_
  rotate_left
  · rintro w' ⟨cid, c20, c21, c22, c23, c24, c25, c26⟩; go_simp; rfl
  try simp only [Act.put, List.setIfInBounds_toArray, List.set_cons_zero, List.set_cons_succ]
  refine takeL (i := 4) (v := ?_) rfl (by kernel_rfl) (by kernel_rfl) (by kernel_rfl) (fun _ _ _ h => h) (Or.inl ⟨by rfl, ?_⟩) hHeld ?_
  rotate_left
  · rintro w' ⟨cid, c20, c21, c22, c23, c24, c25, c26⟩; go_simp; rfl
  try simp only [Act.put, List.setIfInBounds_toArray, List.set_cons_zero, List.set_cons_succ]
  refine wpAnyH_ready (rs := [7]) (by kernel_rfl) (by simp) ?_
  refine consL rfl (fun KK hKK => ?_) AllReadyH.nil
  refine step_callv (by rfl) 37 [.tmp 43] _ [.int .i64 kd] _ (by rfl) (by rfl) (enter37 _) (CK.out _) ?_
  rintro e w2' ⟨rfl, hw2⟩
  refine ⟨_, rfl, ?_⟩
  have hw2' := hw2.symm
  subst hw2'
  refine hKK.out _ _ hHeld (fun hHeld => ?_)
  clear hKK KK hw2
  try simp only [Act.put, List.setIfInBounds_toArray, List.set_cons_zero, List.set_cons_succ]
  refine takeL (i := 8) (v := ?_) rfl (by kernel_rfl) (by kernel_rfl) (by kernel_rfl) (fun _ _ _ h => h) (Or.inl ⟨by rfl, ?_⟩) hHeld ?_
  rotate_left
  · rintro w' ⟨cid, c20, c21, c22, c23, c24, c25, c26⟩; go_simp; rfl
  try simp only [Act.put, List.setIfInBounds_toArray, List.set_cons_zero, List.set_cons_succ]
  refine takeL (i := 9) (v := ?_) rfl (by kernel_rfl) (by kernel_rfl) (by kernel_rfl) (fun _ _ _ h => h) (Or.inl ⟨by rfl, ?_⟩) hHeld ?_
  rotate_left
  · rintro w' ⟨cid, c20, c21, c22, c23, c24, c25, c26⟩; go_simp; rfl
  try simp only [Act.put, List.setIfInBounds_toArray, List.set_cons_zero, List.set_cons_succ]
  refine takeL (i := 12) (v := ?_) rfl (by kernel_rfl) (by kernel_rfl) (by kernel_rfl) (fun _ _ _ h => h) (Or.inl ⟨by rfl, ?_⟩) hHeld ?_
  rotate_left
  · rintro w' ⟨cid, c20, c21, c22, c23, c24, c25, c26⟩; go_simp; rfl
  try simp only [Act.put, List.setIfInBounds_toArray, List.set_cons_zero, List.set_cons_succ]
  refine takeL (i := 13) (v := ?_) rfl (by kernel_rfl) (by kernel_rfl) (by kernel_rfl) (fun _ _ _ h => h) (Or.inl ⟨by rfl, ?_⟩) hHeld ?_
  rotate_left
  · rintro w' ⟨cid, c20, c21, c22, c23, c24, c25, c26⟩; go_simp; rfl
  try simp only [Act.put, List.setIfInBounds_toArray, List.set_cons_zero, List.set_cons_succ]
  refine takeL (i := 15) (v := ?_) rfl (by kernel_rfl) (by kernel_rfl) (by kernel_rfl) (fun _ _ _ h => h) (Or.inl ⟨by rfl, ?_⟩) hHeld ?_
  rotate_left
  · rintro w' ⟨cid, c20, c21, c22, c23, c24, c25, c26⟩; go_simp; rfl
  try simp only [Act.put, List.setIfInBounds_toArray, List.set_cons_zero, List.set_cons_succ]
  refine takeL (i := 16) (v := ?_) rfl (by kernel_rfl) (by kernel_rfl) (by kernel_rfl) (fun _ _ _ h => h) (Or.inl ⟨by rfl, ?_⟩) hHeld ?_
  rotate_left
  · rintro w' ⟨cid, c20, c21, c22, c23, c24, c25, c26⟩; go_simp; rfl
  try simp only [Act.put, List.setIfInBounds_toArray, List.set_cons_zero, List.set_cons_succ]
  refine takeL (i := 19) (v := ?_) rfl (by kernel_rfl) (by kernel_rfl) (by kernel_rfl) (fun _ _ _ h => h) (Or.inl ⟨by rfl, ?_⟩) hHeld ?_
  rotate_left
  · rintro w' ⟨cid, c20, c21, c22, c23, c24, c25, c26⟩; go_simp; rfl
  try simp only [Act.put, List.setIfInBounds_toArray, List.set_cons_zero, List.set_cons_succ]
  refine takeL (i := 20) (v := ?_) rfl (by kernel_rfl) (by kernel_rfl) (by kernel_rfl) (fun _ _ _ h => h) (Or.inl ⟨by rfl, ?_⟩) hHeld ?_
  rotate_left
  · rintro w' ⟨cid, c20, c21, c22, c23, c24, c25, c26⟩; go_simp; rfl
  try simp only [Act.put, List.setIfInBounds_toArray, List.set_cons_zero, List.set_cons_succ]
  refine wpAnyH_done (by kernel_rfl) ?_ _
  obtain ⟨c2, w3, hr3, hm3, hb3, hs3⟩ := conv_mk TB w2
  rw [← HE.out] at hr3
  have HM3 : Hid _ := hm3
  have HB3 : Hid (Below w0.heap.size w0 w3) := HB2.out.trans (hb3.mono HB2.out.size)
  clear hm3 hb3 hHeld
  obtain ⟨L, HL⟩ : ∃ L, Hid (TB.length = L) := ⟨_, rfl⟩
  rw [HL.out] at hr3
  rw [HL.out] at PE
  go_wp2
  go_ret2
  exact PE.out _ _ c2 HB3.out HB2.out.size HM3.out
end Go.Proofs.YtbpdielmdhhdfaaGreatDoor
/- Package object: ReadTag. -/
namespace Go.Proofs.YtbpdielmdhhdfaaGreatDoor
open Go.RowKit
set_option linter.unusedVariables false
set_option linter.unusedSimpArgs false
theorem equal_any (a a2 : Option Addr) (cap cap2 : Nat) (zs ys : List Int) (w : World) (hS : Sl w a cap zs) (hS2 : Sl w a2 cap2 ys) :
    Calls Tryz.prog 124 #[.slice a zs.length cap, .slice a2 ys.length cap2] w fun e w' => e = .returned (.bool (Lib.bytesOf zs == Lib.bytesOf ys)) ∧ w' = w :=
  Any.bytes_Equal_all Tryz.laysb115 a a2 zs.length cap ys.length cap2 zs ys w rfl rfl hS.bytesIn hS2.bytesIn
/-- What a reader of tags gives: what it read, if that is written so. -/
def PostB (l : List UInt8) (e : Ending) : Prop := ∃ T, TG l T ∧ (((okG T ∧ tagB T = l) ∧ e = .returned (.tuple #[.agg (tgV T).toArray, .nilIface])) ∨ (¬ (okG T ∧ tagB T = l) ∧ e = .returned (.tuple #[.agg (tgV (tg0 z20)).toArray, .iface 35 (.int .i64 23)])))
theorem Tryz.results111 : Tryz.f111.results = #[.cell 8 71, .tmp 9] := by kernel_rfl
theorem Tryz.results67 : Tryz.f67.results = #[.cell 2 71, .tmp 3] := by kernel_rfl
theorem TG.lens {l : List UInt8} {T : Tg} (h : TG l T) : T.name.length ≤ l.length ∧ T.per.name.length ≤ l.length ∧ T.per.mail.length ≤ l.length ∧ T.msg.length ≤ l.length := by
  obtain ⟨_, _, h3, h4, h5⟩ := h
  have r1 := rst_le l
  have r2 := rst_le (rst l)
  have r3 := rst_le (rst (rst l))
  have r4 := rst_le (rst (rst (rst l)))
  have r5 := rst_le (rst (rst (rst (rst l))))
  have f2 := fld_le (rst (rst l)) wTag
  have f3 := fld_le (rst (rst (rst l))) wTagger
  have h41 := h4.1
  have h42 := h4.2.1
  rw [h3, h5]
  omega
set_option maxRecDepth 20000 in
set_option maxHeartbeats 2000000 in
theorem readBack_any (a : Option Addr) (cap : Nat) (zs : List Int) (hl : zs.length ≤ 200000) (hz : IsB zs) (w : World) (ht : Tab w) (he : Ers w) (hm : Mx w) (hS : Sl w a cap zs) :
    Calls Tryz.prog 111 #[.slice a zs.length cap, .int .i64 23, .func (.func 112) #[] #[], .func (.func 26) #[] #[]] w fun e w' => Below w.heap.size w w' ∧ PostB (Lib.bytesOf zs) e := by
  obtain ⟨ZV, HZ⟩ : ∃ l : List Value, Hid (l = tgV (tg0 z20)) := ⟨_, rfl⟩
  have hz71 := zero71
  rw [← HZ.out] at hz71
  have HZL : Hid (ZV.length = 27) := hid (by rw [HZ.out]; exact tgV_len _ rfl)
  have hi71z : (Tryz.prog.info? 71).map (·.size) = some ZV.length := by rw [HZL.out]; exact Tryz.size71
  have FI : Hid ((Tryz.prog.info? 71).map (·.size) = some ZV.toArray.size) := hid (by rw [List.size_toArray]; exact hi71z)
  have FO : Hid (ZV.toArray.all (·.oneCell') = true) := hid (by rw [HZ.out]; exact all_oneCell_toArray (tgV_one _))
  obtain ⟨n, HN⟩ : ∃ n, Hid (zs.length = n) := ⟨_, rfl⟩
  obtain ⟨l, HL⟩ : ∃ l, Hid (Lib.bytesOf zs = l) := ⟨_, rfl⟩
  have HLL : Hid (l.length ≤ 200000) := hid (by rw [← HL.out, Lib.bytesOf_length]; exact hl)
  obtain ⟨S, HSS⟩ : ∃ S : ByteArray, Hid (⟨l.toArray⟩ = S) := ⟨_, rfl⟩
  obtain ⟨G, HG⟩ : ∃ G, Hid (w.heap.size = G) := ⟨_, rfl⟩
  obtain ⟨w0, HW0⟩ : ∃ w0, Hid (w.alloc (.cells ZV.toArray 71) = w0) := ⟨_, rfl⟩
  have HB0 : Hid (Below G w w0) := hid (by rw [← HW0.out, ← HG.out]; exact (Below.refl _ w).alloc (Nat.le_refl _) _)
  have HR0 : Hid (w0.heap[G]? = some (.cells ZV.toArray 71 (0, 0))) := hid (by rw [← HW0.out, ← HG.out]; exact heap_alloc_new w _)
  have HCV : Hid ((convert 23 9 (.slice a n cap)).run Tryz.prog (w.alloc (.cells ZV.toArray 71)) = .ok (.string S) (w.alloc (.cells ZV.toArray 71))) := hid (by
    rw [← HSS.out, ← HL.out, ← HN.out]
    exact conv_str (hS.below (by rw [HW0.out, HG.out]; exact HB0.out)))
  have HT : Hid (∀ W, Below G w W → Tab W) := fun W hW => ht.below (by rw [HG.out]; exact hW)
  have HSL : Hid (∀ W, Below G w W → Sl W a cap zs) := fun W hW => hS.below (by rw [HG.out]; exact hW)
  have C1 : Hid (Calls Tryz.prog 112 #[.string S] w0 fun e w' => Below w0.heap.size w0 w' ∧ PostO l e) := hid (by
    rw [← HSS.out]
    exact tagOf_any l HLL.out w0 (he.below (by rw [HG.out]; exact HB0.out)) (hm.below (by rw [HG.out]; exact HB0.out)))
  rw [HN.out, HL.out]
  clear ht he hm hS
  have hcv := HCV.out
  go_enter Tryz.func111, Tryz.ntmps111
  go_wp2_with fail
  rw [HG.out, HW0.out]
  clear hcv HCV
  refine C1.out.mono ?_
  rintro ev w1 ⟨hb1, T, rfl, htg⟩
  have HTG : Hid (TG l T) := htg
  have HB1 : Hid (Below G w w1) := HB0.out.trans (hb1.mono (Nat.le_of_lt (lt_of_some HR0.out)))
  have HR1 : Hid (w1.heap[G]? = some (.cells ZV.toArray 71 (0, 0))) := hid ((hb1.block G (lt_of_some HR0.out)).trans HR0.out)
  have HID : Hid (T.id.length = 20) := htg.1.1
  clear htg hb1
  obtain ⟨TV, HTV⟩ : ∃ l : List Value, Hid (tgV T = l) := ⟨_, rfl⟩
  rw [HTV.out]
  have HVL : Hid (TV.length = 27) := hid (by rw [← HTV.out]; exact tgV_len T HID.out)
  have hi71 : (Tryz.prog.info? 71).map (·.size) = some TV.length := by rw [HVL.out]; exact Tryz.size71
  have CI : Hid ((Tryz.prog.info? 71).map (·.size) = some TV.toArray.size) := hid (by rw [List.size_toArray]; exact hi71)
  have CO : Hid (TV.toArray.all (·.oneCell') = true) := hid (by rw [← HTV.out]; exact all_oneCell_toArray (tgV_one T))
  have D0 : Hid ((w1.alloc (.cells ZV.toArray 71)).heap[w1.heap.size]? = some (.cells ZV.toArray 71 (0, 0))) := heap_alloc_new w1 _
  have D1 : Hid (ZV.toArray.size = TV.toArray.size) := hid (by rw [List.size_toArray, List.size_toArray, HZL.out, HVL.out])
  have D4 : Hid (((w1.alloc (.cells ZV.toArray 71)).setRow w1.heap.size TV.toArray).rangeAt w1.heap.size 0 TV) := hid (range_row (setRow_heap _ _ _ TV.toArray _ _ D0.out))
  go_wp2_with (first
    | refine wpList_store_row rfl 71 _ _ rfl w1.heap.size TV.toArray rfl rfl 71 ZV.toArray D0.out CI.out D1.out CO.out ?_
    | refine wpList_load_mid rfl 71 _ rfl w1.heap.size 0 rfl TV _ D4.out Tryz.underlying71 rfl hi71 ?_
    | fail)
  obtain ⟨H, HH⟩ : ∃ H, Hid (w1.heap.size = H) := ⟨_, rfl⟩
  have HGH : Hid (G < H) := hid (by rw [← HH.out]; exact lt_of_some HR1.out)
  obtain ⟨w2, HW2⟩ : ∃ w2, Hid ((w1.alloc (.cells ZV.toArray 71)).setRow w1.heap.size TV.toArray = w2) := ⟨_, rfl⟩
  have HB2 : Hid (Below G w w2) := hid (by rw [← HW2.out]; exact below_setRow (HB1.out.alloc (by rw [HH.out]; have := HGH.out; omega) _) (by rw [HH.out]; have := HGH.out; omega) _)
  have HR2 : Hid (w2.heap[G]? = some (.cells ZV.toArray 71 (0, 0))) := hid (by
    have hb2 := (Below.refl w1.heap.size w1).alloc (Nat.le_refl _) (.cells ZV.toArray 71)
    rw [← HW2.out, setRow_other _ _ _ _ (by rw [HH.out]; have := HGH.out; omega)]
    exact (hb2.block _ (by rw [HH.out]; exact HGH.out)).trans HR1.out)
  have HV2 : Hid (w2.heap[H]? = some (.cells TV.toArray 71 (0, 0))) := hid (by rw [← HW2.out, ← HH.out]; exact setRow_heap _ _ _ TV.toArray _ _ D0.out)
  rw [HW2.out, HH.out]
  clear hz71
  have hz71 : ∀ w : World, (zeroValue 71).run Tryz.prog w = .ok (.agg ZV.toArray) w := fun w => by rw [HZ.out]; exact zero71 w
  have C2 : Hid (Calls Tryz.prog 26 #[.agg TV.toArray] w2 (PostT T w2)) := hid (by
    rw [← HTV.out]
    have hln := HTG.out.lens
    have h2 := HLL.out
    exact writeTag_any T HID.out HTG.out.1.2.1 (by omega) (by omega) w2 (HT.out _ HB2.out))
  refine C2.out.mono ?_
  rintro ev w3 ⟨hb3, hor⟩
  have HB3 : Hid (Below G w w3) := HB2.out.trans (hb3.mono (Nat.le_of_lt (lt_of_some HR2.out)))
  have HR3 : Hid (w3.heap[G]? = some (.cells ZV.toArray 71 (0, 0))) := hid ((hb3.block G (lt_of_some HR2.out)).trans HR2.out)
  have HV3 : Hid (w3.heap[H]? = some (.cells TV.toArray 71 (0, 0))) := hid ((hb3.block H (lt_of_some HV2.out)).trans HV2.out)
  have FL : Hid ((w3.alloc (.cells ZV.toArray 71)).rangeAt w3.heap.size 0 ZV) := hid (range_row (heap_alloc_new w3 _))
  have HR4 : Hid ((w3.alloc (.cells ZV.toArray 71)).heap[G]? = some (.cells ZV.toArray 71 (0, 0))) := hid ((((Below.refl w3.heap.size w3).alloc (Nat.le_refl _) (.cells ZV.toArray 71)).block G (lt_of_some HR3.out)).trans HR3.out)
  have FS : Hid ((w3.alloc (.cells ZV.toArray 71)).there G 0 ZV.toArray.size) := hid (there_off HR4.out 0 (by omega))
  have FS' : Hid ((w3.alloc (.cells ZV.toArray 71)).there G 0 ZV.length) := hid (there_off HR4.out 0 (by rw [List.size_toArray]; omega))
  have BAD : Hid (¬ (okG T ∧ tagB T = l) → (Below w.heap.size w ((w3.alloc (.cells ZV.toArray 71)).setCells G 0 ZV) ∧ PostB l (.returned (.tuple #[.agg ZV.toArray, .iface 35 (.int .i64 23)])))) := fun hno => by
    refine ⟨by rw [HG.out]; exact below_setCells (Nat.le_refl _) _ _ _ _ (HB3.out.alloc (Nat.le_of_lt (lt_of_some HR3.out)) _), T, HTG.out, .inr ⟨hno, ?_⟩⟩
    rw [HZ.out]
  clear hb3
  rcases hor with ⟨hok, g, cp, rfl, hge, hmk⟩ | ⟨hno, rfl⟩
  rotate_left
  · have HNO : Hid (¬ (okG T ∧ tagB T = l)) := fun h => hno h.1
    clear hno
    go_wp2_with (first
      | refine wpList_load_mid rfl 71 _ rfl w3.heap.size 0 rfl ZV _ FL.out Tryz.underlying71 rfl hi71z ?_
      | refine wpList_store_mid rfl 71 _ _ rfl G 0 ZV.toArray rfl rfl FS.out FI.out FO.out ?_)
    refine bodyPost_ret (v := .tuple #[.agg ZV.toArray, .iface 35 (.int .i64 23)]) (results_mid2 Tryz.results111 _ _ G ZV _ rfl (World.rangeAt_setCells_same _ G 0 _ FS'.out) Tryz.underlying71 rfl hi71z) rfl ?_
    exact BAD.out HNO.out
  have HOK : Hid (okG T) := hok
  have HMK : Hid (Mk w3 g cp (nums (tagB T))) := hmk
  clear hok hmk hge
  obtain ⟨eq, HEQ⟩ : ∃ b : Bool, Hid ((tagB T == l) = b) := ⟨_, rfl⟩
  obtain ⟨tl, HTL⟩ : ∃ k, Hid ((tagB T).length = k) := ⟨_, rfl⟩
  have CE : Hid (Calls Tryz.prog 124 #[.slice (some ⟨g, 0, none⟩) tl cp, .slice a n cap] w3 fun e w' => e = .returned (.bool eq) ∧ w' = w3) := hid (by
    have h := equal_any (some ⟨g, 0, none⟩) a cp cap (nums (tagB T)) zs w3 HMK.out.sl (HSL.out _ HB3.out)
    rw [nums_len, HTL.out, bytesOf_nums, HL.out, HEQ.out, HN.out] at h
    exact h)
  rw [HTL.out]
  go_wp2_with fail
  refine CE.out.mono ?_
  rintro ev w3' ⟨rfl, hw3⟩
  have hw3' := hw3.symm
  subst hw3'
  clear hw3
  cases eq with
  | false =>
    have HNO : Hid (¬ (okG T ∧ tagB T = l)) := fun h => by have h2 := HEQ.out; rw [h.2] at h2; simp at h2
    go_wp2_with (first
      | refine wpList_load_mid rfl 71 _ rfl w3.heap.size 0 rfl ZV _ FL.out Tryz.underlying71 rfl hi71z ?_
      | refine wpList_store_mid rfl 71 _ _ rfl G 0 ZV.toArray rfl rfl FS.out FI.out FO.out ?_)
    refine bodyPost_ret (v := .tuple #[.agg ZV.toArray, .iface 35 (.int .i64 23)]) (results_mid2 Tryz.results111 _ _ G ZV _ rfl (World.rangeAt_setCells_same _ G 0 _ FS'.out) Tryz.underlying71 rfl hi71z) rfl ?_
    exact BAD.out HNO.out
  | true =>
    have HYE : Hid (tagB T = l) := hid (by have h2 := HEQ.out; simpa using h2)
    have GL : Hid (w3.rangeAt H 0 TV) := hid (range_row HV3.out)
    have GS : Hid (w3.there G 0 TV.toArray.size) := hid (there_off HR3.out 0 (by rw [← D1.out]; omega))
    have GS' : Hid (w3.there G 0 TV.length) := hid (there_off HR3.out 0 (by rw [List.size_toArray, HZL.out, HVL.out]; omega))
    go_wp2_with (first
      | refine wpList_load_mid rfl 71 _ rfl H 0 rfl TV _ GL.out Tryz.underlying71 rfl hi71 ?_
      | refine wpList_store_mid rfl 71 _ _ rfl G 0 TV.toArray rfl rfl GS.out CI.out CO.out ?_)
    refine bodyPost_ret (v := .tuple #[.agg TV.toArray, .nilIface]) (results_mid2 Tryz.results111 _ _ G TV _ rfl (World.rangeAt_setCells_same _ G 0 _ GS'.out) Tryz.underlying71 rfl hi71) rfl ⟨?_, ?_⟩
    · rw [HG.out]
      exact below_setCells (Nat.le_refl _) _ _ _ _ HB3.out
    · exact ⟨T, HTG.out, .inl ⟨⟨HOK.out, HYE.out⟩, by rw [HTV.out]⟩⟩
theorem PostB.form {l : List UInt8} {e : Ending} (h : PostB l e) : ∃ (X : Tg) (ev : Value), e = .returned (.tuple #[.agg (tgV X).toArray, ev]) ∧ X.id.length = 20 := by
  obtain ⟨T, htg, ⟨_, rfl⟩ | ⟨_, rfl⟩⟩ := h
  · exact ⟨T, _, rfl, htg.1.1⟩
  · exact ⟨tg0 z20, _, rfl, rfl⟩
set_option maxRecDepth 20000 in
set_option maxHeartbeats 1000000 in
theorem readTag_any (a : Option Addr) (cap : Nat) (zs : List Int) (hl : zs.length ≤ 200000) (hz : IsB zs) (w : World) (ht : Tab w) (he : Ers w) (hm : Mx w) (hS : Sl w a cap zs) :
    Calls Tryz.prog 67 #[.slice a zs.length cap] w fun e w' => Below w.heap.size w w' ∧ PostB (Lib.bytesOf zs) e := by
  obtain ⟨ZV, HZ⟩ : ∃ l : List Value, Hid (l = tgV (tg0 z20)) := ⟨_, rfl⟩
  have hz71 := zero71
  rw [← HZ.out] at hz71
  have HZL : Hid (ZV.length = 27) := hid (by rw [HZ.out]; exact tgV_len _ rfl)
  obtain ⟨n, HN⟩ : ∃ n, Hid (zs.length = n) := ⟨_, rfl⟩
  obtain ⟨G, HG⟩ : ∃ G, Hid (w.heap.size = G) := ⟨_, rfl⟩
  obtain ⟨w0, HW0⟩ : ∃ w0, Hid (w.alloc (.cells ZV.toArray 71) = w0) := ⟨_, rfl⟩
  have HB0 : Hid (Below G w w0) := hid (by rw [← HW0.out, ← HG.out]; exact (Below.refl _ w).alloc (Nat.le_refl _) _)
  have HR0 : Hid (w0.heap[G]? = some (.cells ZV.toArray 71 (0, 0))) := hid (by rw [← HW0.out, ← HG.out]; exact heap_alloc_new w _)
  have C1 : Hid (Calls Tryz.prog 111 #[.slice a n cap, .int .i64 23, .func (.func 112) #[] #[], .func (.func 26) #[] #[]] w0 fun e w' => Below w0.heap.size w0 w' ∧ PostB (Lib.bytesOf zs) e) := hid (by
    have hb : Below w.heap.size w w0 := by rw [HG.out]; exact HB0.out
    rw [← HN.out]
    exact readBack_any a cap zs hl hz w0 (ht.below hb) (he.below hb) (hm.below hb) (hS.below hb))
  rw [HN.out]
  clear ht he hm hS
  go_enter Tryz.func67, Tryz.ntmps67
  go_wp2_with fail
  rw [HG.out, HW0.out]
  refine C1.out.mono ?_
  rintro ev w1 ⟨hb1, hpb⟩
  obtain ⟨X, ev2, rfl, hx⟩ := hpb.form
  have HPB : Hid (PostB (Lib.bytesOf zs) (.returned (.tuple #[.agg (tgV X).toArray, ev2]))) := hpb
  have HB1 : Hid (Below G w w1) := HB0.out.trans (hb1.mono (Nat.le_of_lt (lt_of_some HR0.out)))
  have HR1 : Hid (w1.heap[G]? = some (.cells ZV.toArray 71 (0, 0))) := hid ((hb1.block G (lt_of_some HR0.out)).trans HR0.out)
  have HID : Hid (X.id.length = 20) := hx
  clear hpb hb1 hx
  obtain ⟨TV, HTV⟩ : ∃ l : List Value, Hid (tgV X = l) := ⟨_, rfl⟩
  rw [HTV.out] at HPB
  rw [HTV.out]
  have HVL : Hid (TV.length = 27) := hid (by rw [← HTV.out]; exact tgV_len X HID.out)
  have hi71 : (Tryz.prog.info? 71).map (·.size) = some TV.length := by rw [HVL.out]; exact Tryz.size71
  have CI : Hid ((Tryz.prog.info? 71).map (·.size) = some TV.toArray.size) := hid (by rw [List.size_toArray]; exact hi71)
  have CO : Hid (TV.toArray.all (·.oneCell') = true) := hid (by rw [← HTV.out]; exact all_oneCell_toArray (tgV_one X))
  have GS : Hid (w1.there G 0 TV.toArray.size) := hid (there_off HR1.out 0 (by rw [List.size_toArray, List.size_toArray, HZL.out, HVL.out]; omega))
  have GS' : Hid (w1.there G 0 TV.length) := hid (there_off HR1.out 0 (by rw [List.size_toArray, HZL.out, HVL.out]; omega))
  go_wp2_with (refine wpList_store_mid rfl 71 _ _ rfl G 0 TV.toArray rfl rfl GS.out CI.out CO.out ?_)
  refine bodyPost_ret (v := .tuple #[.agg TV.toArray, ev2]) (results_mid2 Tryz.results67 _ _ G TV _ rfl (World.rangeAt_setCells_same _ G 0 _ GS'.out) Tryz.underlying71 rfl hi71) rfl ⟨?_, HPB.out⟩
  rw [HG.out]
  exact below_setCells (Nat.le_refl _) _ _ _ _ HB1.out
end Go.Proofs.YtbpdielmdhhdfaaGreatDoor
