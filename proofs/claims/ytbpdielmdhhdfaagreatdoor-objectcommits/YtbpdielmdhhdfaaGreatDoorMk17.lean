import Derived.Test.YtbpdielmdhhdfaaGreatDoorMk15
import Derived.Test.YtbpdielmdhhdfaaGreatDoorMk06
import Derived.Test.YtbpdielmdhhdfaaGreatDoorMk16
namespace Go.Proofs.YtbpdielmdhhdfaaGreatDoor
open Go.RowKit
set_option linter.unusedVariables false
set_option linter.unusedSimpArgs false
theorem Tryz.results27 : Tryz.f27.results = #[.cell 2 64] := by kernel_rfl
set_option maxRecDepth 20000 in
theorem person_any (p : Per) (w : World) : Calls Tryz.prog 27 #[.agg (perV p)] w fun e w' => e = .returned (.agg (perV p)) ∧ Below w.heap.size w w' := by
  obtain ⟨N, HN⟩ : ∃ S : ByteArray, Hid (⟨p.name.toArray⟩ = S) := ⟨_, rfl⟩
  obtain ⟨M, HM⟩ : ∃ S : ByteArray, Hid (⟨p.mail.toArray⟩ = S) := ⟨_, rfl⟩
  obtain ⟨t, HT⟩ : ∃ t, Hid (p.time = t) := ⟨_, rfl⟩
  obtain ⟨z, HZ⟩ : ∃ z, Hid (p.zone = z) := ⟨_, rfl⟩
  have HPV : Hid (perV p = #[.string N, .string M, .int .i64 t, .int .i64 z]) := hid (by unfold perV; rw [HN.out, HM.out, HT.out, HZ.out])
  have HB : Hid (∀ o1 o2, Below w.heap.size w ((w.alloc o1).alloc o2)) := fun o1 o2 => ((Below.refl _ w).alloc (Nat.le_refl _) _).alloc (by simp) _
  rw [HPV.out]
  go_enter Tryz.func27, Tryz.ntmps27
  go_wp2
  have hr : World.rangeAt ((w.alloc (.cells #[.string N, .string M, .int .i64 t, .int .i64 z] 58)).alloc (.cells #[.string N, .string M, .int .i64 t, .int .i64 z] 64)) (w.heap.size + 1) 0 [.string N, .string M, .int .i64 t, .int .i64 z] := by
    have := heap_alloc_new (w.alloc (.cells #[.string N, .string M, .int .i64 t, .int .i64 z] 58)) (.cells #[.string N, .string M, .int .i64 t, .int .i64 z] 64)
    simp only [World.size_alloc] at this
    exact range_row this
  exact bodyPost_ret (v := .agg #[.string N, .string M, .int .i64 t, .int .i64 z]) (results_mid Tryz.results27 _ _ (w.heap.size + 1) _ _ rfl hr Tryz.underlying64 rfl Tryz.size64) rfl ⟨rfl, HB.out _ _⟩
set_option maxRecDepth 20000 in
theorem samePerson_any (p : Per) (w : World) : Calls Tryz.prog 63 #[.agg (perV p), .agg (perV p)] w fun e w' => e = .returned (.bool true) ∧ Below w.heap.size w w' := by
  obtain ⟨N, HN⟩ : ∃ S : ByteArray, Hid (⟨p.name.toArray⟩ = S) := ⟨_, rfl⟩
  obtain ⟨M, HM⟩ : ∃ S : ByteArray, Hid (⟨p.mail.toArray⟩ = S) := ⟨_, rfl⟩
  obtain ⟨t, HT⟩ : ∃ t, Hid (p.time = t) := ⟨_, rfl⟩
  obtain ⟨z, HZ⟩ : ∃ z, Hid (p.zone = z) := ⟨_, rfl⟩
  have HPV : Hid (perV p = #[.string N, .string M, .int .i64 t, .int .i64 z]) := hid (by unfold perV; rw [HN.out, HM.out, HT.out, HZ.out])
  have HB : Hid (∀ o1 o2, Below w.heap.size w ((w.alloc o1).alloc o2)) := fun o1 o2 => ((Below.refl _ w).alloc (Nat.le_refl _) _).alloc (by simp) _
  rw [HPV.out]
  go_enter Tryz.func63, Tryz.ntmps63
  go_wp2
  go_ret
  exact ⟨rfl, HB.out _ _⟩
end Go.Proofs.YtbpdielmdhhdfaaGreatDoor
namespace Go.Proofs.YtbpdielmdhhdfaaGreatDoor
open Go.RowKit
set_option linter.unusedVariables false
set_option linter.unusedSimpArgs false
theorem wp_load_str {op : Oper} {a : Act} {w : World} {K : Act → World → Prop} {Q : Exit → Act → World → Prop} (x : Operand) (ho : op.op = .load 9 x) (b o : Nat) (hx : a.eval x = .pointer (some ⟨b, o, none⟩)) (s : ByteArray) (hc : w.cell? ⟨b, o, none⟩ = some (.string s))
    (h : K (a.put op.dst (.string s)) w) : op.wp Tryz.prog a w K Q := by
  unfold Oper.wp execOp
  simp only [ho, hx]
  go_simp
  exact h
theorem sl_none (W : World) : Sl W none 0 [] := ⟨Nat.le_refl _, (fun h => by cases h), fun _ => rfl⟩
end Go.Proofs.YtbpdielmdhhdfaaGreatDoor
namespace Go.Proofs.YtbpdielmdhhdfaaGreatDoor
open Go.RowKit
set_option linter.unusedVariables false
set_option linter.unusedSimpArgs false
theorem Tryz.results23 : Tryz.f23.results = #[.cell 2 66] := by kernel_rfl
def noIds (c : Cm) : Cm := { c with ids := [] }
set_option maxRecDepth 20000 in
theorem built66 (c : Cm) (h : c.tree.length = 20) : Tryz.prog.built 66 [(0, .agg (row .u8 c.tree).toArray), (2, .agg (perV c.au)), (3, .agg (perV c.co)), (4, .string ⟨c.msg.toArray⟩)] = some (cmV (noIds c) none 0).toArray := by
  obtain ⟨a0, a1, a2, a3, a4, a5, a6, a7, a8, a9, a10, a11, a12, a13, a14, a15, a16, a17, a18, a19, e⟩ := list20 c.tree h
  unfold cmV noIds
  rw [e]
  kernel_rfl
structure CN (G Q : Nat) (TV : List Value) (zv : Array Value) (C : Cm) (pa : Option Addr) (pc : Nat) (w W : World) : Prop where
  below : Below G w W
  box : W.heap[G]? = some (.cells TV.toArray 60 (0, 0))
  res : W.heap[G + 1]? = some (.cells zv 66 (0, 0))
  com : W.heap[Q]? = some (.cells (cmV C pa pc).toArray 66 (0, 0))
section
variable {G Q : Nat} {TV : List Value} {zv : Array Value} {C C' : Cm} {a a' : Option Addr} {cap cap' : Nat} {w W W' : World}
theorem CN.grow (h : CN G Q TV zv C a cap w W) (hb : Below W.heap.size W W') : CN G Q TV zv C a cap w W' :=
  ⟨h.below.trans (hb.mono (Nat.le_of_lt (lt_of_some h.box))), (hb.block _ (lt_of_some h.box)).trans h.box, (hb.block _ (lt_of_some h.res)).trans h.res, (hb.block _ (lt_of_some h.com)).trans h.com⟩
theorem CN.grown (h : CN G Q TV zv C a cap w W) (h4 : G + 1 < Q) {q : Option Nat} (hg : W.grownBy W' q) (hq : ∀ k, q = some k → Q < k) : CN G Q TV zv C a cap w W' := by
  have hne : ∀ b, b ≤ Q → some b ≠ q := fun b hb e => by have := hq b e.symm; omega
  exact ⟨h.below.grown hg (Nat.le_of_lt (lt_of_some h.box)) (fun k hk => by have := hq k hk; omega), (hg.block _ (lt_of_some h.box) (hne _ (by omega))).trans h.box, (hg.block _ (lt_of_some h.res) (hne _ (by omega))).trans h.res, (hg.block _ (lt_of_some h.com) (hne _ (Nat.le_refl _))).trans h.com⟩
theorem CN.set (h : CN G Q TV zv C a cap w W) (h4 : G + 1 < Q) (hl : C.tree.length = 20) (i : Nat) (v : Value) (he : row .u8 C.tree ++ (cmT C a cap).set i v = cmV C' a' cap') : CN G Q TV zv C' a' cap' w (W.setCell ⟨Q, 20 + i, none⟩ v) :=
  ⟨h.below.setCell (by show G ≤ Q; omega) _, (heap_setCell_other W ⟨Q, 20 + i, none⟩ G v (by show G ≠ Q; omega)).trans h.box, (heap_setCell_other W ⟨Q, 20 + i, none⟩ (G + 1) v (by show G + 1 ≠ Q; omega)).trans h.res, by rw [heap_setCell_same W Q (20 + i) _ 66 v h.com, List.setIfInBounds_toArray, cmV_set C a cap hl, he]⟩
theorem CN.cell (h : CN G Q TV zv C a cap w W) (hl : C.tree.length = 20) (i : Nat) (v : Value) (hv : (cmT C a cap)[i]? = some v) : W.cell? ⟨Q, 20 + i, none⟩ = some v ∧ W.frozen? ⟨Q, 20 + i, none⟩ = false :=
  ⟨(cell_of_row W Q (20 + i) _ _ _ h.com).trans (by rw [List.getElem?_toArray, cmV_at C a cap hl]; exact hv), frozen_of_row W Q (20 + i) _ _ h.com⟩
end
set_option maxRecDepth 20000 in
set_option maxHeartbeats 4000000 in
theorem commit_any (c : Cm) (hf : WfC c) (a : Option Addr) (cap : Nat) (hn : c.ids.length ≤ 100) (w : World) (hP : Pa w a cap c.ids) :
    Calls Tryz.prog 23 #[.agg (cmV c a cap).toArray] w fun e w' => Below w.heap.size w w' ∧ ∃ pa pc, e = .returned (.agg (cmV c pa pc).toArray) ∧ Pa w' pa pc c.ids := by
  obtain ⟨i31, hi31i, hz0, hz1, hz2⟩ := info_parts Tryz.info31f
  obtain ⟨TV, HTV⟩ : ∃ l : List Value, Hid (cmV c a cap = l) := ⟨_, rfl⟩
  have HVL : Hid (TV.length = 30) := hid (by rw [← HTV.out]; exact cmV_len c a cap hf.1.1)
  obtain ⟨n, HN⟩ : ∃ n, Hid (c.ids.length = n) := ⟨_, rfl⟩
  have hn100 : n ≤ 100 := by rw [← HN.out]; exact hn
  obtain ⟨M, HMM⟩ : ∃ S : ByteArray, Hid (⟨c.msg.toArray⟩ = S) := ⟨_, rfl⟩
  obtain ⟨PA, HPA⟩ : ∃ l : List Value, Hid ((perV c.au).toList = l) := ⟨_, rfl⟩
  obtain ⟨PC, HPC⟩ : ∃ l : List Value, Hid ((perV c.co).toList = l) := ⟨_, rfl⟩
  have hiA : (Tryz.prog.info? 58).map (·.size) = some PA.length := by rw [← HPA.out]; exact Tryz.size58
  have hiC : (Tryz.prog.info? 58).map (·.size) = some PC.length := by rw [← HPC.out]; exact Tryz.size58
  have hjA : (Tryz.prog.info? 64).map (·.size) = some PA.length := by rw [← HPA.out]; exact Tryz.size64
  have hjC : (Tryz.prog.info? 64).map (·.size) = some PC.length := by rw [← HPC.out]; exact Tryz.size64
  have IA : Hid ((Tryz.prog.info? 64).map (·.size) = some PA.toArray.size) := hid (by rw [List.size_toArray]; exact hjA)
  have IC : Hid ((Tryz.prog.info? 64).map (·.size) = some PC.toArray.size) := hid (by rw [List.size_toArray]; exact hjC)
  have OA : Hid (PA.toArray.all (·.oneCell') = true) := hid (by rw [← HPA.out]; exact perV_one c.au)
  have OC : Hid (PC.toArray.all (·.oneCell') = true) := hid (by rw [← HPC.out]; exact perV_one c.co)
  have EA : Hid ((#[.string ⟨#[]⟩, .string ⟨#[]⟩, .int .i64 0, .int .i64 0] : Array Value).size = PA.toArray.size) := hid (by rw [← HPA.out]; rfl)
  have EC : Hid ((#[.string ⟨#[]⟩, .string ⟨#[]⟩, .int .i64 0, .int .i64 0] : Array Value).size = PC.toArray.size) := hid (by rw [← HPC.out]; rfl)
  have CPA : Hid (∀ W, Calls Tryz.prog 27 #[.agg PA.toArray] W fun e w' => e = .returned (.agg PA.toArray) ∧ Below W.heap.size W w') := fun W => by rw [← HPA.out]; exact person_any c.au W
  have CPC : Hid (∀ W, Calls Tryz.prog 27 #[.agg PC.toArray] W fun e w' => e = .returned (.agg PC.toArray) ∧ Below W.heap.size W w') := fun W => by rw [← HPC.out]; exact person_any c.co W
  obtain ⟨RT, HRT⟩ : ∃ R : List Value, Hid (row .u8 c.tree = R) := ⟨_, rfl⟩
  have hi32t : (Tryz.prog.info? 32).map (·.size) = some RT.length := by rw [← HRT.out, row_len, hf.1.1]; exact Tryz.size32
  obtain ⟨zv, HZ⟩ : ∃ zr : Array Value, Hid (zr = (cmV (cm0 z20) none 0).toArray) := ⟨_, rfl⟩
  have hz66 : ∀ w : World, (zeroValue 66).run Tryz.prog w = .ok (.agg zv) w := fun w => by rw [HZ.out]; exact zero66 w
  have HZS : Hid (zv.size = 30) := hid (by rw [HZ.out, List.size_toArray]; exact cmV_len _ _ _ rfl)
  obtain ⟨NV, HNV⟩ : ∃ l : List Value, Hid (cmV (noIds c) none 0 = l) := ⟨_, rfl⟩
  have HNL : Hid (NV.length = 30) := hid (by rw [← HNV.out]; exact cmV_len _ _ _ hf.1.1)
  have HBU : Hid (Tryz.prog.built 66 [(0, .agg RT.toArray), (2, .agg PA.toArray), (3, .agg PC.toArray), (4, .string M)] = some NV.toArray) := hid (by
    rw [← HRT.out, ← HPA.out, ← HPC.out, ← HMM.out, ← HNV.out]
    exact built66 c hf.1.1)
  have I66 : Hid ((Tryz.prog.info? 66).map (·.size) = some NV.toArray.size) := hid (by rw [List.size_toArray, HNL.out]; exact Tryz.size66)
  have O66 : Hid (NV.toArray.all (·.oneCell') = true) := hid (by rw [← HNV.out]; exact all_oneCell_toArray (cmV_one _ _ _))
  have E66 : Hid (zv.size = NV.toArray.size) := hid (by rw [HZS.out, List.size_toArray, HNL.out])
  obtain ⟨G, HG⟩ : ∃ G, Hid (w.heap.size = G) := ⟨_, rfl⟩
  obtain ⟨w0, HW0⟩ : ∃ w0, Hid ((w.alloc (.cells TV.toArray 60)).alloc (.cells zv 66) = w0) := ⟨_, rfl⟩
  have HB0 : Hid (Below G w w0) := hid (by rw [← HW0.out, ← HG.out]; exact ((Below.refl _ w).alloc (Nat.le_refl _) _).alloc (by simp) _)
  have BG0 : Hid (Bk G TV 60 w0) := ⟨by
    rw [← HW0.out, ← HG.out]
    have h1 := heap_alloc_new w (.cells TV.toArray 60)
    have h2 := ((Below.refl (w.alloc (.cells TV.toArray 60)).heap.size (w.alloc (.cells TV.toArray 60))).alloc (Nat.le_refl _) (.cells zv 66)).block w.heap.size (by simp)
    exact h2.trans h1⟩
  have RS0 : Hid (w0.heap[G + 1]? = some (.cells zv 66 (0, 0))) := hid (by
    rw [← HW0.out, ← HG.out]
    have := heap_alloc_new (w.alloc (.cells TV.toArray 60)) (.cells zv 66)
    simpa using this)
  have HC : Hid (∀ W, Bk G TV 60 W → BoxC G c a cap W) := fun W hW => hW.cells HTV.out hf.1.1
  have HPP : Hid (∀ W, Below G w W → Pa W a cap c.ids) := fun W hW => hP.below (by rw [HG.out]; exact hW)
  have HPL : Hid (0 < n → ∃ b off, a = some ⟨b, off, none⟩ ∧ b < G) := fun h0 => by
    obtain ⟨b, off, e1, e2, _⟩ := hP.at_ (by rw [HN.out]; exact h0)
    exact ⟨b, off, e1, by rw [← HG.out]; exact e2⟩
  have R0 : Hid ((((w.alloc (.cells TV.toArray 60)).alloc (.cells zv 66))).rangeAt w.heap.size 21 PA) := hid (by rw [HW0.out, HG.out, ← HPA.out]; exact (HC.out _ BG0.out).au)
  have HWC : Hid (WfC c) := hf
  have HTL : Hid (c.tree.length = 20) := hf.1.1
  rw [HTV.out]
  clear hP hf
  go_enter Tryz.func23, Tryz.ntmps23
  go_wp2_with (first | refine wpList_load_mid rfl 58 _ rfl w.heap.size 21 rfl PA _ R0.out Tryz.underlying58 rfl hiA ?_ | fail)
  rw [HG.out, HW0.out]
  clear R0
  refine (CPA.out w0).mono ?_
  rintro ev w1 ⟨rfl, hb⟩
  have HB1 : Hid (Below G w w1) := HB0.out.trans (hb.mono (Nat.le_of_lt BG0.out.lt))
  have BG1 : Hid (Bk G TV 60 w1) := BG0.out.below hb
  have RS1 : Hid (w1.heap[G + 1]? = some (.cells zv 66 (0, 0))) := hid ((hb.block _ (lt_of_some RS0.out)).trans RS0.out)
  clear hb
  have D1 : Hid ((w1.alloc (.cells #[.string ⟨#[]⟩, .string ⟨#[]⟩, .int .i64 0, .int .i64 0] 64)).heap[w1.heap.size]? = some (.cells #[.string ⟨#[]⟩, .string ⟨#[]⟩, .int .i64 0, .int .i64 0] 64 (0, 0))) := heap_alloc_new w1 _
  obtain ⟨w2, HW2⟩ : ∃ W, Hid ((w1.alloc (.cells #[.string ⟨#[]⟩, .string ⟨#[]⟩, .int .i64 0, .int .i64 0] 64)).setRow w1.heap.size PA.toArray = W) := ⟨_, rfl⟩
  obtain ⟨K1, HK1⟩ : ∃ K, Hid (w1.heap.size = K) := ⟨_, rfl⟩
  have hb2 : Below w1.heap.size w1 w2 := by rw [← HW2.out]; exact below_setRow ((Below.refl _ w1).alloc (Nat.le_refl _) _) (Nat.le_refl _) _
  have HB2 : Hid (Below G w w2) := HB1.out.trans (hb2.mono (Nat.le_of_lt BG1.out.lt))
  have BG2 : Hid (Bk G TV 60 w2) := BG1.out.below hb2
  have RS2 : Hid (w2.heap[G + 1]? = some (.cells zv 66 (0, 0))) := hid ((hb2.block _ (lt_of_some RS1.out)).trans RS1.out)
  have BK2 : Hid (Bk K1 PA 64 w2) := ⟨by rw [← HW2.out, ← HK1.out]; exact setRow_heap _ _ _ PA.toArray _ _ D1.out⟩
  clear hb2
  have R2 : Hid (w2.rangeAt G 25 PC) := hid (by rw [← HPC.out]; exact (HC.out _ BG2.out).co)
  go_wp2_with (first
    | (refine wpList_store_row rfl 64 _ _ rfl w1.heap.size PA.toArray rfl rfl 64 _ D1.out IA.out EA.out OA.out ?_; rw [HW2.out, HK1.out])
    | refine wpList_load_mid rfl 58 _ rfl G 25 rfl PC _ R2.out Tryz.underlying58 rfl hiC ?_
    | fail)
  refine (CPC.out w2).mono ?_
  rintro ev w3 ⟨rfl, hb⟩
  have HB3 : Hid (Below G w w3) := HB2.out.trans (hb.mono (Nat.le_of_lt BG2.out.lt))
  have BG3 : Hid (Bk G TV 60 w3) := BG2.out.below hb
  have RS3 : Hid (w3.heap[G + 1]? = some (.cells zv 66 (0, 0))) := hid ((hb.block _ (lt_of_some RS2.out)).trans RS2.out)
  have BK3 : Hid (Bk K1 PA 64 w3) := BK2.out.below hb
  clear hb
  have D3 : Hid ((w3.alloc (.cells #[.string ⟨#[]⟩, .string ⟨#[]⟩, .int .i64 0, .int .i64 0] 64)).heap[w3.heap.size]? = some (.cells #[.string ⟨#[]⟩, .string ⟨#[]⟩, .int .i64 0, .int .i64 0] 64 (0, 0))) := heap_alloc_new w3 _
  obtain ⟨w4, HW4⟩ : ∃ W, Hid ((w3.alloc (.cells #[.string ⟨#[]⟩, .string ⟨#[]⟩, .int .i64 0, .int .i64 0] 64)).setRow w3.heap.size PC.toArray = W) := ⟨_, rfl⟩
  obtain ⟨K2, HK2⟩ : ∃ K, Hid (w3.heap.size = K) := ⟨_, rfl⟩
  have hb4 : Below w3.heap.size w3 w4 := by rw [← HW4.out]; exact below_setRow ((Below.refl _ w3).alloc (Nat.le_refl _) _) (Nat.le_refl _) _
  have HB4 : Hid (Below G w w4) := HB3.out.trans (hb4.mono (Nat.le_of_lt BG3.out.lt))
  have BG4 : Hid (Bk G TV 60 w4) := BG3.out.below hb4
  have RS4 : Hid (w4.heap[G + 1]? = some (.cells zv 66 (0, 0))) := hid ((hb4.block _ (lt_of_some RS3.out)).trans RS3.out)
  have BK4 : Hid (Bk K1 PA 64 w4) := BK3.out.below hb4
  have BL4 : Hid (Bk K2 PC 64 w4) := ⟨by rw [← HW4.out, ← HK2.out]; exact setRow_heap _ _ _ PC.toArray _ _ D3.out⟩
  clear hb4
  have Q0 : Hid (w4.rangeAt G 0 RT) := hid (by rw [← HRT.out]; exact (HC.out _ BG4.out).id)
  have X29 : Hid (w4.cell? ⟨G, 29, none⟩ = some (.string M)) := hid (by rw [← HMM.out]; exact (HC.out _ BG4.out).c29)
  have D4 : Hid ((w4.alloc (.cells zv 66)).heap[w4.heap.size]? = some (.cells zv 66 (0, 0))) := heap_alloc_new w4 _
  obtain ⟨w5, HW5⟩ : ∃ W, Hid ((w4.alloc (.cells zv 66)).setRow w4.heap.size NV.toArray = W) := ⟨_, rfl⟩
  obtain ⟨Q, HQ⟩ : ∃ K, Hid (w4.heap.size = K) := ⟨_, rfl⟩
  have hb5 : Below w4.heap.size w4 w5 := by rw [← HW5.out]; exact below_setRow ((Below.refl _ w4).alloc (Nat.le_refl _) _) (Nat.le_refl _) _
  have HLT : Hid (G + 1 < Q) := hid (by rw [← HQ.out]; exact lt_of_some RS4.out)
  have CN5 : Hid (CN G Q TV zv (noIds c) none 0 w w5) := hid (by
    refine ⟨HB4.out.trans (hb5.mono (Nat.le_of_lt BG4.out.lt)), (BG4.out.below hb5).box, (hb5.block _ (lt_of_some RS4.out)).trans RS4.out, ?_⟩
    rw [HNV.out, ← HW5.out, ← HQ.out]
    exact setRow_heap _ _ _ NV.toArray _ _ D4.out)
  clear hb5
  have OE5 : Hid (OE 31 (Q + 1) none 0 [] w5) := ⟨rfl, .inl ⟨rfl, rfl⟩⟩
  go_wp2_with (first
    | (refine wpList_store_row rfl 64 _ _ rfl w3.heap.size PC.toArray rfl rfl 64 _ D3.out IC.out EC.out OC.out ?_; rw [HW4.out, HK2.out])
    | refine wpList_load_mid rfl 32 _ rfl G 0 rfl RT _ Q0.out Tryz.underlying32 rfl hi32t ?_
    | refine wpList_load_mid rfl 64 _ rfl K1 0 rfl PA _ BK4.out.range Tryz.underlying64 rfl hjA ?_
    | refine wpList_load_mid rfl 64 _ rfl K2 0 rfl PC _ BL4.out.range Tryz.underlying64 rfl hjC ?_
    | (refine BigFrame.wpList_want (by rfl) (fun K hK => ?_); refine wp_load_str _ rfl G 29 rfl M X29.out ?_; refine hK _ _ ?_; clear hK K; refine wpList_built rfl 66 _ rfl NV.toArray (by simp only [List.map_toArray, List.map_cons, List.map_nil]; exact HBU.out) ?_)
    | (refine wpList_store_row rfl 66 _ _ rfl w4.heap.size NV.toArray rfl rfl 66 zv D4.out I66.out E66.out O66.out ?_; rw [HW5.out, HQ.out])
    | fail)
  try simp only [Act.put]
  go_loopg [6] n (fun g iv wr => ∃ (i : Nat) (pa : Option Addr) (pc : Nat), i ≤ n ∧ g = n - i ∧ iv = .int .i64 i ∧ Hid (CN G Q TV zv { c with ids := c.ids.take i } pa pc w wr) ∧ Hid (OE 31 (Q + 1) pa pc (c.ids.take i) wr))
  case atStart => exact ⟨0, none, 0, Nat.zero_le _, rfl, rfl, hid (by rw [List.take_zero]; exact CN5.out), hid (by rw [List.take_zero]; exact OE5.out)⟩
  case round =>
    obtain ⟨i, pa, pc, hi, hk, rfl, CNR, OER⟩ := hrel
    have BGR : Hid (Bk G TV 60 wr) := ⟨CNR.out.box⟩
    have c20 : wr.cell? ⟨G, 20, none⟩ = some (.slice a n cap) := by rw [← HN.out]; exact (HC.out _ BGR.out).c20
    by_cases hlt : i < n
    · have hlti : (i : Int) < (n : Int) := by omega
      have hi0 : ¬ (i : Int) < 0 := by omega
      obtain ⟨b, off, hae, hbG⟩ := HPL.out (by omega)
      subst hae
      obtain ⟨b', off', e1, e2, e3⟩ := (HPP.out wr CNR.out.below).at_ (by rw [HN.out]; omega)
      cases e1
      obtain ⟨x, HX⟩ : ∃ x, Hid (c.ids.getD i [] = x) := ⟨_, rfl⟩
      have hxm : x ∈ c.ids := by
        rw [← HX.out, List.getD_eq_getElem?_getD, List.getElem?_eq_getElem (by rw [HN.out]; exact hlt)]
        exact List.getElem_mem _
      obtain ⟨hx20, hxb⟩ := HWC.out.2 x hxm
      obtain ⟨RF, HRF⟩ : ∃ R : List Value, Hid (row .u8 x = R) := ⟨_, rfl⟩
      have hRL : RF.length = 20 := by rw [← HRF.out, row_len]; exact hx20
      have hi32 : (Tryz.prog.info? 32).map (·.size) = some RF.length := by rw [hRL]; exact Tryz.size32
      obtain ⟨SV, HSV⟩ : ∃ V : Value, Hid (.slice pa (c.ids.take i).length pc = V) := ⟨_, rfl⟩
      have HTI : Hid ((c.ids.take i).length = i) := hid (by rw [List.length_take, HN.out]; omega)
      have hS0 : wr.drew.cell? ⟨Q, 20, none⟩ = some SV ∧ wr.drew.cell? ⟨G, 20, none⟩ = some (.slice (some ⟨b, off, none⟩) n cap) ∧ wr.drew.rangeAt b (off + i * 20) RF := ⟨by rw [← HSV.out]; exact (CNR.out.cell HTL.out 0 _ rfl).1, c20, by rw [← HRF.out, ← HX.out]; exact e3 i (by rw [HN.out]; exact hlt)⟩
      have CNd : Hid (CN G Q TV zv { c with ids := c.ids.take i } pa pc w wr.drew) := ⟨⟨CNR.out.below.os, CNR.out.below.tape, CNR.out.below.output, CNR.out.below.size, CNR.out.below.block⟩, CNR.out.box, CNR.out.res, CNR.out.com⟩
      have OEd : Hid (OE 31 (Q + 1) pa pc (c.ids.take i) wr.drew) := OER
      have hbn : b < wr.heap.size := e2
      clear e3 hxm hxb e2
      go_wp2_with fail
      refine region_U (fun w' => w'.cell? ⟨Q, 20, none⟩ = some SV ∧ w'.cell? ⟨G, 20, none⟩ = some (.slice (some ⟨b, off, none⟩) n cap) ∧ w'.rangeAt b (off + i * 20) RF) 10 (by kernel_rfl) ?_
      have hbd : b < wr.drew.heap.size := hbn
      generalize wr.drew = u0 at hS0 CNd OEd hbd ⊢
      refine takeU (i := 0) (v := ?_) rfl (by kernel_rfl) (by kernel_rfl) (by kernel_rfl) (by kernel_rfl) (fun _ _ _ h => h) (Or.inl ⟨by rfl, ?_⟩) hS0 ?_
      rotate_left
      · rintro w' ⟨s0, s1, s2⟩; go_simp; rfl
      try simp only [Act.put, List.setIfInBounds_toArray, List.set_cons_zero, List.set_cons_succ]
      refine takeU (i := 1) (v := ?_) rfl (by kernel_rfl) (by kernel_rfl) (by kernel_rfl) (by kernel_rfl) (fun _ _ _ h => h) (Or.inl ⟨by rfl, ?_⟩) hS0 ?_
      rotate_left
      · rintro w' ⟨s0, s1, s2⟩; go_simp; rfl
      try simp only [Act.put, List.setIfInBounds_toArray, List.set_cons_zero, List.set_cons_succ]
      refine takeU (i := 2) (v := ?_) rfl (by kernel_rfl) (by kernel_rfl) (by kernel_rfl) (by kernel_rfl) (fun _ _ _ h => h) (Or.inl ⟨by rfl, ?_⟩) hS0 ?_
      rotate_left
      · rintro w' ⟨s0, s1, s2⟩; go_simp; rfl
      try simp only [Act.put, List.setIfInBounds_toArray, List.set_cons_zero, List.set_cons_succ]
      refine takeU (i := 3) (v := ?_) rfl (by kernel_rfl) (by kernel_rfl) (by kernel_rfl) (by kernel_rfl) (fun _ _ _ h => h) (Or.inl ⟨by rfl, ?_⟩) hS0 ?_
      rotate_left
      · rintro w' ⟨s0, s1, s2⟩; go_simp; rfl
      try simp only [Act.put, List.setIfInBounds_toArray, List.set_cons_zero, List.set_cons_succ]
      refine takeU (i := 4) (v := ?_) rfl (by kernel_rfl) (by kernel_rfl) (by kernel_rfl) (by kernel_rfl) (fun _ _ _ h => h) (Or.inl ⟨by rfl, ?_⟩) hS0 ?_
      rotate_left
      · rintro w' ⟨s0, s1, s2⟩; go_simp; rfl
      try simp only [Act.put, List.setIfInBounds_toArray, List.set_cons_zero, List.set_cons_succ]
      refine takeU (i := 5) (v := ?_) rfl (by kernel_rfl) (by kernel_rfl) (by kernel_rfl) (by kernel_rfl) (fun _ _ _ h => h) (Or.inl ⟨by rfl, ?_⟩) hS0 ?_
      rotate_left
      · rintro w' ⟨s0, s1, s2⟩; go_simp; rfl
      try simp only [Act.put, List.setIfInBounds_toArray, List.set_cons_zero, List.set_cons_succ]
      refine takeU (i := 6) (v := .agg RF.toArray) rfl (by kernel_rfl) (by kernel_rfl) (by kernel_rfl) (by kernel_rfl) (fun _ _ _ h => h) (yieldsIf_load_mid (by rfl) 32 _ rfl b (off + i * 20) (by rfl) RF _ (fun w' h => h.2.2) Tryz.underlying32 rfl hi32) hS0 ?_
      try simp only [Act.put, List.setIfInBounds_toArray, List.set_cons_zero, List.set_cons_succ]
      refine readyU1 (i := 7) (by kernel_rfl) (consU rfl (fun KK hKK => ?_))
      obtain ⟨u2, HU2⟩ : ∃ u2, Hid (u0.alloc (.cells RF.toArray 31) = u2) := ⟨_, rfl⟩
      obtain ⟨b2, Hb2⟩ : ∃ b, Hid (u0.heap.size = b) := ⟨_, rfl⟩
      have hb2 : Below u0.heap.size u0 u2 := by rw [← HU2.out]; exact (Below.refl _ _).alloc (Nat.le_refl _) _
      have HN2 : Hid (∀ j u, RF[j]? = some u → u2.cell? ((⟨b2, 0, none⟩ : Addr).add j) = some u) := hid (by rw [← HU2.out, ← Hb2.out]; exact news_row _ _ _)
      have CNB : Hid (CN G Q TV zv { c with ids := c.ids.take i } pa pc w u2) := CNd.out.grow hb2
      have OEB : Hid (OE 31 (Q + 1) pa pc (c.ids.take i) u2) := OEd.out.keep hb2
      refine step_exec (by rfl) (.slice (some ⟨b2, 0, none⟩) 1 1) (w' := u2) (by rw [← HU2.out, ← Hb2.out]; go_simp; rw [← HRF.out, fold32 x hx20]) ?_
      have hS2 : u2.cell? ⟨Q, 20, none⟩ = some SV ∧ u2.cell? ⟨G, 20, none⟩ = some (.slice (some ⟨b, off, none⟩) n cap) ∧ u2.rangeAt b (off + i * 20) RF := ⟨(hb2.cell (p := ⟨Q, 20, none⟩) (lt_of_some CNd.out.com)).trans hS0.1, (hb2.cell (p := ⟨G, 20, none⟩) (lt_of_some CNd.out.box)).trans hS0.2.1, fun j v hv => (hb2.cell (p := ⟨b, off + i * 20 + j, none⟩) hbd).trans (hS0.2.2 j v hv)⟩
      have hbe : b < u2.heap.size := Nat.lt_of_lt_of_le hbd hb2.size
      refine hKK.out _ _ (.inr hS2) ?_
      clear hKK KK hS0 hb2
      try simp only [Act.put, List.setIfInBounds_toArray, List.set_cons_zero, List.set_cons_succ]
      have OWB : Hid (u2.ownsRow (Q + 1) 31 20 SV i ((c.ids.take i).flatMap (row .u8))) := hid (by
        have h := OEB.out
        unfold OE at h
        rw [HSV.out, HTI.out] at h
        exact h)
      refine readyU1 (i := 8) (by kernel_rfl) (consU rfl (fun KK hKK => ?_))
      refine step_append_at u2 (by rfl) _ _ 62 rfl (Q + 1) 31 i31 (.agg (row .u8 z20).toArray) 20 20 Tryz.underlying62 hi31i hz0 hz1 hz2 rfl (by decide) SV i ((c.ids.take i).flatMap (row .u8)) (by rfl) OWB.out ⟨b2, 0, none⟩ 1 1 RF (by rfl) (by rw [hRL]) HN2.out (by rw [← HRF.out]; exact row_one _ _) (by unfold maxLen; omega) (by omega) (Nat.succ_le_of_lt (lt_of_some CNB.out.com)) _ rfl ?_
      intro ao cap2 u3 hown hg hloc
      have OEC : Hid (OE 31 (Q + 1) ao cap2 (c.ids.take (i + 1)) u3) := hid (by
        rw [take_snocI c.ids i (by rw [HN.out]; exact hlt), HX.out]
        exact OE.snoc HTI.out (by rw [HRF.out]; exact hown))
      have CNC : Hid (CN G Q TV zv { c with ids := c.ids.take i } pa pc w u3) := CNB.out.grown HLT.out hg (fun k hk => Nat.lt_of_succ_le (own_above OWB.out k hk))
      have hS3 : u3.cell? ⟨Q, 20, none⟩ = some SV ∧ u3.cell? ⟨G, 20, none⟩ = some (.slice (some ⟨b, off, none⟩) n cap) ∧ u3.rangeAt b (off + i * 20) RF := by
        refine ⟨by rw [← HSV.out]; exact (CNC.out.cell HTL.out 0 _ rfl).1, by rw [← HN.out]; exact (HC.out _ ⟨CNC.out.box⟩).c20, fun j v hv => ?_⟩
        exact (World.cell?_of_block (a := ⟨b, off + i * 20 + j, none⟩) (hg.block b hbe (fun e => by have := own_above OWB.out b e.symm; have := HLT.out; omega))).trans (hS2.2.2 j v hv)
      have hf3 : u3.frozen? ⟨Q, 20, none⟩ = false := (CNC.out.cell HTL.out 0 _ rfl).2
      have hq3 : u3.cell? ⟨Q, 20, none⟩ = some SV := hS3.1
      refine hKK.out _ _ (.inr hS3) ?_
      clear hKK KK hS2 hown hg hloc
      try simp only [Act.put, List.setIfInBounds_toArray, List.set_cons_zero, List.set_cons_succ]
      refine takeU (i := 9) (v := ?_) rfl (by kernel_rfl) (by kernel_rfl) (by kernel_rfl) (by kernel_rfl) (fun _ _ _ h => h) (Or.inl ⟨by rfl, ?_⟩) hS3 ?_
      rotate_left
      · rintro w' ⟨s0, s1, s2⟩; go_simp; rfl
      try simp only [Act.put, List.setIfInBounds_toArray, List.set_cons_zero, List.set_cons_succ]
      refine readyU1 (i := 10) (by kernel_rfl) (consU rfl (fun KK hKK => ?_))
      go_simp
      refine hKK.out _ _ (.inl rfl) ?_
      clear hKK KK
      try simp only [Act.put, List.setIfInBounds_toArray, List.set_cons_zero, List.set_cons_succ]
      refine doneU (by kernel_rfl) ?_ _
      have CND : Hid (CN G Q TV zv { c with ids := c.ids.take (i + 1) } ao cap2 w (u3.setCell ⟨Q, 20, none⟩ (.slice ao (i + 1 : Nat) cap2))) := CNC.out.set HLT.out HTL.out 0 _ (by
        have e : (c.ids.take (i + 1)).length = i + 1 := by rw [List.length_take, HN.out]; omega
        unfold cmV cmT
        simp only [e]
        rfl)
      have OED : Hid (OE 31 (Q + 1) ao cap2 (c.ids.take (i + 1)) (u3.setCell ⟨Q, 20, none⟩ (.slice ao (i + 1 : Nat) cap2))) := OEC.out.setCells (g := Q) (by omega) 20 [.slice ao (i + 1 : Nat) cap2]
      generalize u3.setCell ⟨Q, 20, none⟩ (.slice ao (i + 1 : Nat) cap2) = u4 at CND OED ⊢
      clear hS3 hf3 hq3 hRL hbd hbe
      go_wp2
      go_roundg (n - (i + 1))
      case measure => omega
      case rel => exact ⟨i + 1, ao, cap2, by omega, rfl, by go_num, CND, OED⟩
    · have hlti : ¬ (i : Int) < (n : Int) := by omega
      have hta : c.ids.take i = c.ids := List.take_of_length_le (by rw [HN.out]; omega)
      rw [hta] at CNR OER
      obtain ⟨XV, HXV⟩ : ∃ l : List Value, Hid (cmV c pa pc = l) := ⟨_, rfl⟩
      have HXL : Hid (XV.length = 30) := hid (by rw [← HXV.out]; exact cmV_len _ _ _ HTL.out)
      have hi66 : (Tryz.prog.info? 66).map (·.size) = some XV.length := by rw [HXL.out]; exact Tryz.size66
      have CI : Hid ((Tryz.prog.info? 66).map (·.size) = some XV.toArray.size) := hid (by rw [List.size_toArray]; exact hi66)
      have CO : Hid (XV.toArray.all (·.oneCell') = true) := hid (by rw [← HXV.out]; exact all_oneCell_toArray (cmV_one _ _ _))
      have FL : Hid (wr.rangeAt Q 0 XV) := hid (by rw [← HXV.out]; exact range_row CNR.out.com)
      have FS : Hid (wr.there (G + 1) 0 XV.toArray.size) := hid (there_off CNR.out.res 0 (by rw [List.size_toArray, HXL.out, HZS.out]; omega))
      have FS' : Hid (wr.there (G + 1) 0 XV.length) := hid (there_off CNR.out.res 0 (by rw [HXL.out, HZS.out]; omega))
      go_wp2_with (first
        | refine wpList_load_mid rfl 66 _ rfl Q 0 rfl XV _ FL.out Tryz.underlying66 rfl hi66 ?_
        | refine wpList_store_mid rfl 66 _ _ rfl (G + 1) 0 XV.toArray rfl rfl FS.out CI.out CO.out ?_)
      refine bodyPost_ret (v := .agg XV.toArray) (results_mid Tryz.results23 _ _ (G + 1) XV _ rfl (World.rangeAt_setCells_same _ (G + 1) 0 _ FS'.out) Tryz.underlying66 rfl hi66) rfl ⟨?_, ?_⟩
      · rw [HG.out]
        exact below_setCells (by omega) _ _ _ _ CNR.out.below
      · refine ⟨pa, pc, by rw [HXV.out], ?_⟩
        exact (OER.out.setCells (g := G + 1) (by have := HLT.out; omega) 0 XV).pa HWC.out.2
end Go.Proofs.YtbpdielmdhhdfaaGreatDoor
