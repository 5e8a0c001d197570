/- 'writeIDs', 'WriteWant'. -/
import Derived.Test.YtijeogdnjeamaaaGreatDoorWeD
namespace Go.Proofs.YtijeogdnjeamaaaGreatDoor
open Go.RowKit
set_option linter.unusedVariables false
set_option linter.unusedSimpArgs false
theorem Tryz.results38 : Tryz.f38.results = #[.tmp 4, .tmp 5] := by kernel_rfl
set_option maxRecDepth 20000 in
set_option maxHeartbeats 1000000 in
theorem writeIDs_any {w : World} (word : Str) (hwl : word.length ≤ 10) (a : Option Addr) (cap : Nat) (l : List (List Int)) (hP : Pa w a cap l) (hl : IdL l) (hn : l.length ≤ 1000) :
    Calls Tryz.prog 38 #[.slice a l.length cap, .string ⟨word.toArray⟩] w (PostWL word l w w.heap.size) := by
  obtain ⟨m, HM⟩ : ∃ n, Hid (l.length = n) := ⟨_, rfl⟩
  obtain ⟨G, HG⟩ : ∃ n, Hid (w.heap.size = n) := ⟨_, rfl⟩
  obtain ⟨Wd, HWD⟩ : ∃ W : ByteArray, Hid (⟨word.toArray⟩ = W) := ⟨_, hid rfl⟩
  obtain ⟨w1, HW1⟩ : ∃ u, Hid (w.alloc (.cells #[.string Wd] 9) = u) := ⟨_, rfl⟩
  have C71 := hid (once_any w1)
  have HB1 : Hid (Below G w w1) := hid (by rw [← HW1.out, ← HG.out]; exact (Below.refl _ w).alloc (Nat.le_refl _) _)
  have hs1 : w1.heap.size = G + 1 := by rw [← HW1.out, ← HG.out]; exact size_alloc _ _
  have HS1 := hid hs1
  have HQ1 : Hid (Boxed w1 G 9 (.string Wd)) := hid (by rw [← HW1.out, ← HG.out]; exact Boxed.new _ _ _)
  have C72 : Hid (∀ (W : World) (p g r : Nat), Below G w W → On W p g 0 (fun _ => False) → W.cell? ⟨G, 0, none⟩ = some (.string Wd) → W.cell? ⟨r, 0, none⟩ = some (onF p) → G < W.heap.size → r < W.heap.size → G ≤ g → g ≠ G → g ≠ r → Calls Tryz.prog 72 #[.slice a m cap, .int .i64 5000, .func (.func 73) #[] #[.pointer (some ⟨G, 0, none⟩), .pointer (some ⟨r, 0, none⟩)]] W (PostWL word l w G)) := hid (fun W p g r h1 h2 h3 h4 h5 h6 h7 h8 h9 => by
    rw [← HM.out]
    exact writeList_any word hwl h1 HG.out h2 (by rw [HWD.out]; exact h3) h4 h5 h6 h7 h8 h9 a cap l hP hl hn)
  have al1 : w.alloc (.cells #[.string Wd] 9) = w1 := HW1.out
  have hs0 : w.heap.size = G := HG.out
  rw [HM.out, HG.out, HWD.out]
  clear hP hl hn hs1
  go_enter Tryz.func38, Tryz.ntmps38
  go_wp2_with fail
  refine C71.out.mono ?_
  rintro e w2 ⟨hb2, p, g, hp, hg, rfl, hon⟩
  obtain ⟨R, HR⟩ : ∃ n, Hid (w2.heap.size = n) := ⟨_, rfl⟩
  obtain ⟨w3, HW3⟩ : ∃ u, Hid (w2.alloc (.cells #[.nilFunc] 140) = u) := ⟨_, rfl⟩
  obtain ⟨w4, HW4⟩ : ∃ u, Hid (w3.setCell ⟨R, 0, none⟩ (onF p) = u) := ⟨_, rfl⟩
  have hbx3 : Boxed w3 R 140 .nilFunc := by rw [← HW3.out, ← HR.out]; exact Boxed.new _ _ _
  have hbx4 : Boxed w4 R 140 (onF p) := by rw [← HW4.out]; exact hbx3.set _
  have hc3 := hbx3.cell
  have hf3 := hbx3.frozen
  have hg3 : w2.grownBy w3 none := by rw [← HW3.out]; exact World.grownBy_alloc _ _ _
  have hg4 : w3.grownBy w4 (some R) := by rw [← HW4.out]; exact grownBy_setCell' _ _ _
  have e1 := HS1.out
  have e2 := HR.out
  have e3 := hon.si.lt
  have e4 := hon.bx.lt
  have e5 := hb2.size
  have hb12 : Below G w w2 := HB1.out.trans (hb2.mono (by omega))
  have hb13 : Below G w w3 := hb12.grown hg3 (by omega) (fun k e => by cases e)
  have hb14 : Below G w w4 := hb13.grown hg4 (by have := hg3.size; omega) (fun k e => by cases e; omega)
  have hq4 : Boxed w4 G 9 (.string Wd) := ((HQ1.out.kept (grown_of_below hb2 none) (by simp)).kept hg3 (by simp)).kept hg4 (fun e => by cases e; omega)
  have hon4 : On w4 p g 0 (fun _ => False) := (hon.kept hg3 (by simp) (by simp)).kept hg4 (fun e => by cases e; omega) (fun e => by cases e; omega)
  have CC := hid (C72.out w4 p g R hb14 hon4 hq4.cell hbx4.cell hq4.lt hbx4.lt (by omega) (by omega) (by omega))
  have al3 : w2.alloc (.cells #[.nilFunc] 140) = w3 := HW3.out
  have hst : (store ⟨R, 0, none⟩ (onF p)).run Tryz.prog w3 = .ok () w4 := by
    rw [run_store _ _ _ _ _ rfl, hc3]
    simp [hf3, HW4.out]
  have al4 : w3.setCell ⟨R, 0, none⟩ (onF p) = w4 := HW4.out
  have hsR : w2.heap.size = R := HR.out
  clear hbx3 hbx4 hg3 hg4 e1 e2 e3 e4 e5 hb12 hb13 hb14 hq4 hon4 hb2 hon hp hg
  simp only [onF] at al4 hst ⊢
  go_wp2_with fail
  refine CC.out.mono ?_
  rintro e w5 ⟨hb5, hs5, ⟨hnd, v, rfl, hown⟩ | ⟨hnd, rfl⟩⟩
  · have H1 := hid hb5
    have H2 := hid hs5
    have H3 := hid hnd
    have H4 := hid hown
    clear hb5 hs5 hnd hown
    go_wp2
    refine bodyPost_ret (results_tmp2 Tryz.results38 _ _ _) rfl ?_
    exact ⟨H1.out, H2.out, .inl ⟨H3.out, _, rfl, H4.out⟩⟩
  · have H1 := hid hb5
    have H2 := hid hs5
    have H3 := hid hnd
    clear hb5 hs5 hnd
    go_wp2
    refine bodyPost_ret (results_tmp2 Tryz.results38 _ _ _) rfl ?_
    exact ⟨H1.out, H2.out, .inr ⟨H3.out, rfl⟩⟩
theorem wpList_bS4 {P : Program} {ops : Array Oper} {rest : List Oper} {o : Oper} {a : Act} {w w' : World} {Q : Exit → Act → World → Prop} (hg : o.guard = none) (t : Nat) (x0 x1 x2 x3 : Operand) (ho : o.op = .buildSlice t 4 #[(0, x0), (1, x1), (2, x2), (3, x3)]) (u0 u1 u2 u3 v : Value) (h0 : a.eval x0 = u0) (h1 : a.eval x1 = u1) (h2 : a.eval x2 = u2) (h3 : a.eval x3 = u3)
    (hr : (Instr.buildSlice t 4 #[(0, u0), (1, u1), (2, u2), (3, u3)]).run P w = .ok v w')
    (h : wpList P ops Q rest (a.put o.dst v) w') : wpList P ops Q (o :: rest) a w := by
  refine wpList_plain hg fun K hK => ?_
  unfold Oper.wp execOp
  simp [ho, h0, h1, h2, h3, hr, Result.andThen]
  exact hK _ _ h
theorem run_rows4 (a0 a1 a2 a3 : Option Addr) (n0 n1 n2 n3 c0 c1 c2 c3 : Nat) (w : World) : (Instr.buildSlice 115 4 #[(0, .slice a0 n0 c0), (1, .slice a1 n1 c1), (2, .slice a2 n2 c2), (3, .slice a3 n3 c3)]).run Tryz.prog w = .ok (.slice (some ⟨w.heap.size, 0, none⟩) 4 4) (w.alloc (.cells #[.slice a0 n0 c0, .slice a1 n1 c1, .slice a2 n2 c2, .slice a3 n3 c3] 63)) := by kernel_rfl
theorem ps_one (w : World) (s : Str) (u : ByteArray) (hu : ⟨s.toArray⟩ = u) : PS (w.alloc (.cells #[.string u] 9)) (some ⟨w.heap.size, 0, none⟩) 1 [s] :=
  ⟨Nat.le_refl _, fun _ => ⟨w.heap.size, 0, rfl, by simp, fun i hi j v hv => by
    obtain rfl : i = 0 := by simpa using hi
    have := range_row (heap_alloc_new w (.cells ([sV s] : List Value).toArray 9)) j v hv
    rw [← hu]
    simpa [sV] using this⟩, fun h => by cases h⟩
def PostWW (W H : List (List Int)) (w : World) (e : Ending) (w' : World) : Prop :=
  Below w.heap.size w w' ∧ ((W.Nodup ∧ H.Nodup ∧ ∃ v, e = .returned (.tuple #[v, .nilIface]) ∧ w'.ownsRow w.heap.size 5 1 v (wB W H).length (bv (wB W H))) ∨ (¬ (W.Nodup ∧ H.Nodup) ∧ e = .returned (.tuple #[.slice none 0 0, .iface 37 (.int .i64 111)])))
theorem Tryz.results13 : Tryz.f13.results = #[.tmp 4, .tmp 5] := by kernel_rfl
theorem wtx_flat (W H : List (List Int)) : [idT wWord W, [[]], idT hWord H, [dWord]].flatten = wtx W H := by simp [wtx]
set_option maxRecDepth 20000 in
set_option maxHeartbeats 1000000 in
theorem writeWant_any {w : World} (a : Option Addr) (cap : Nat) (W : List (List Int)) (hP : Pa w a cap W) (hW : IdL W) (hn : W.length ≤ 400) (b : Option Addr) (cbp : Nat) (H : List (List Int)) (hQ : Pa w b cbp H) (hH : IdL H) (hm : H.length ≤ 400) (hd : Db w) :
    Calls Tryz.prog 13 #[.slice a W.length cap, .slice b H.length cbp] w (PostWW W H w) := by
  obtain ⟨n, HN⟩ : ∃ n, Hid (W.length = n) := ⟨_, rfl⟩
  obtain ⟨m, HM⟩ : ∃ n, Hid (H.length = n) := ⟨_, rfl⟩
  obtain ⟨G, HG⟩ : ∃ n, Hid (w.heap.size = n) := ⟨_, rfl⟩
  have C1 : Hid (Calls Tryz.prog 38 #[.slice a n cap, .string ⟨#[119, 97, 110, 116, 32]⟩] w (PostWL wWord W w G)) := hid (by
    rw [← HN.out, ← HG.out]
    exact writeIDs_any wWord (by decide) a cap W hP hW (by omega))
  have C2 : Hid (∀ X, Below G w X → Calls Tryz.prog 38 #[.slice b m cbp, .string ⟨#[104, 97, 118, 101, 32]⟩] X (PostWL hWord H X X.heap.size)) := hid (fun X hX => by
    rw [← HM.out]
    exact writeIDs_any hWord (by decide) b cbp H (hQ.below (by rw [HG.out]; exact hX)) hH (by omega))
  have HD : Hid (∀ X, Below G w X → Db X) := hid (fun X hX => hd.below (by rw [HG.out]; exact hX))
  have HLW : Hid (W.length + H.length + 2 ≤ 900) := hid (by omega)
  have HIW := hid hW
  have HIH := hid hH
  rw [HN.out, HM.out]
  unfold PostWW
  rw [HG.out]
  clear hP hW hn hQ hH hm hd
  go_enter Tryz.func13, Tryz.ntmps13
  go_wp2_with fail
  refine C1.out.mono ?_
  rintro e w1 ⟨hb1, hs1, ⟨hnd, v1, rfl, hown1⟩ | ⟨hnd, rfl⟩⟩
  · have HB1 := hid hb1
    have HND1 := hid hnd
    have HS1 := hid hs1
    have C2' := hid (C2.out w1 hb1)
    have HO1 := hid hown1
    clear hb1 hs1 hnd hown1
    go_wp2_with fail
    refine C2'.out.mono ?_
    rintro e w2 ⟨hb2, hs2, ⟨hnd, v2, rfl, hown2⟩ | ⟨hnd, rfl⟩⟩
    · have hx1 : Bx encS 1 9 w w2 G v1 (idT wWord W) := ⟨HB1.out.trans (hb2.mono HS1.out), own_keep HO1.out (grown_of_below hb2 none) (fun j e => by cases e), Nat.le_trans HS1.out hb2.size⟩
      have hx2 : Bx encS 1 9 w1 w2 w1.heap.size v2 (idT hWord H) := ⟨hb2, hown2, hs2⟩
      have HND2 := hid hnd
      obtain ⟨a1, c1, rfl, hp1, _⟩ := hx1.px (d := []) (encS_len _)
      obtain ⟨a2, c2, rfl, hp2, _⟩ := hx2.px (d := []) (encS_len _)
      obtain ⟨K, HK⟩ : ∃ n, Hid (w2.heap.size = n) := ⟨_, rfl⟩
      obtain ⟨k1, HK1⟩ : ∃ n, Hid ((idT wWord W).length = n) := ⟨_, rfl⟩
      obtain ⟨k2, HK2⟩ : ∃ n, Hid ((idT hWord H).length = n) := ⟨_, rfl⟩
      obtain ⟨wa, HWA⟩ : ∃ u, Hid (w2.alloc (.cells #[.string ⟨#[]⟩] 9) = u) := ⟨_, rfl⟩
      have hsa : wa.heap.size = K + 1 := by rw [← HWA.out, ← HK.out]; exact size_alloc _ _
      obtain ⟨wb, HWB⟩ : ∃ u, Hid (wa.alloc (.cells #[.string ⟨#[100, 111, 110, 101]⟩] 9) = u) := ⟨_, rfl⟩
      have hsb : wb.heap.size = K + 1 + 1 := by rw [← HWB.out, ← hsa]; exact size_alloc _ _
      obtain ⟨wc, HWC⟩ : ∃ u, Hid (wb.alloc (.cells #[.slice a1 k1 c1, .slice (some ⟨K, 0, none⟩) 1 1, .slice a2 k2 c2, .slice (some ⟨K + 1, 0, none⟩) 1 1] 63) = u) := ⟨_, rfl⟩
      have r1 := run_txt ⟨#[]⟩ w2
      have r2 := run_txt ⟨#[100, 111, 110, 101]⟩ wa
      have r3 := run_rows4 a1 (some ⟨K, 0, none⟩) a2 (some ⟨K + 1, 0, none⟩) k1 1 k2 1 c1 1 c2 1 wb
      rw [HWA.out, HK.out] at r1
      rw [HWB.out, hsa] at r2
      rw [HWC.out, hsb] at r3
      have hba : Below w2.heap.size w2 wa := by rw [← HWA.out]; exact (Below.refl _ _).alloc (Nat.le_refl _) _
      have hbb : Below wa.heap.size wa wb := by rw [← HWB.out]; exact (Below.refl _ _).alloc (Nat.le_refl _) _
      have hbc : Below wb.heap.size wb wc := by rw [← HWC.out]; exact (Below.refl _ _).alloc (Nat.le_refl _) _
      have hp0 : PS wa (some ⟨K, 0, none⟩) 1 [[]] := by rw [← HWA.out, ← HK.out]; exact ps_one w2 [] _ rfl
      have hp3 : PS wb (some ⟨K + 1, 0, none⟩) 1 [dWord] := by rw [← HWB.out, ← hsa]; exact ps_one wa dWord _ rfl
      have hcell : ∀ i v, (#[.slice a1 k1 c1, .slice (some ⟨K, 0, none⟩) 1 1, .slice a2 k2 c2, .slice (some ⟨K + 1, 0, none⟩) 1 1] : Array Value)[i]? = some v → wc.cell? ⟨K + 1 + 1, i, none⟩ = some v := fun i v hv => by
        rw [cell_of_row wc (K + 1 + 1) i _ 63 (0, 0) (by rw [← HWC.out, ← hsb]; exact heap_alloc_new _ _)]
        exact hv
      have hRw : Rws wc (K + 1 + 1) 4 (fun i => [a1, some ⟨K, 0, none⟩, a2, some ⟨K + 1, 0, none⟩].getD i none) (fun i => [c1, 1, c2, 1].getD i 0) [idT wWord W, [[]], idT hWord H, [dWord]] := {
        len := rfl
        lt := by rw [← HWC.out, size_alloc, hsb]; omega
        cell := fun i hi => by
          have e4 : i = 0 ∨ i = 1 ∨ i = 2 ∨ i = 3 := by omega
          rcases e4 with rfl | rfl | rfl | rfl
          · show _ = some (Value.slice a1 (idT wWord W).length c1)
            rw [HK1.out]; exact hcell 0 _ rfl
          · exact hcell 1 _ rfl
          · show _ = some (Value.slice a2 (idT hWord H).length c2)
            rw [HK2.out]; exact hcell 2 _ rfl
          · exact hcell 3 _ rfl
        ps := fun i hi => by
          have e4 : i = 0 ∨ i = 1 ∨ i = 2 ∨ i = 3 := by omega
          rcases e4 with rfl | rfl | rfl | rfl
          · exact ((hp1.below hba).below hbb).below hbc
          · exact (hp0.below hbb).below hbc
          · exact ((hp2.below hba).below hbb).below hbc
          · exact hp3.below hbc }
      have hGw : Below G w wc := by
        have h1 := HS1.out
        have h2 := hb2.size
        have h3 := HK.out
        exact (((HB1.out.trans (hb2.mono h1)).trans (hba.mono (by omega))).trans (hbb.mono (by omega))).trans (hbc.mono (by omega))
      have CT : Hid (Calls Tryz.prog 31 #[.slice (some ⟨K + 1 + 1, 0, none⟩) 4 4] wc (PostNu wc.heap.size (wB W H) wc)) := hid (by
        have := writeRows_any hRw (by omega) 4 (by rw [wtx_flat]; unfold wtx idT; simp; have := HLW.out; omega) (by rw [wtx_flat]; exact fun s hs => Nat.le_trans (wtx_len W H HIW.out HIH.out s hs) (by omega)) (HD.out wc hGw)
        rw [wtx_flat] at this
        exact this)
      have HGW := hid hGw
      have HGS : Hid (G ≤ wc.heap.size) := hid (by have := HK.out; have := HS1.out; have := hb2.size; have := hbc.size; omega)
      have al1 : wb.heap.size = K + 1 + 1 := hsb
      have hkk : w2.heap.size = K := HK.out
      rw [HK1.out, HK2.out]
      clear hx1 hx2 hp0 hp1 hp2 hp3 hcell hRw hGw hba hbb hbc hb2 hs2 hnd hown2
      go_wp2_with (first | (refine wpList_bSY rfl 63 1 _ rfl (.string ⟨#[]⟩) _ rfl r1 ?_) | (refine wpList_bSY rfl 63 1 _ rfl (.string ⟨#[100, 111, 110, 101]⟩) _ rfl r2 ?_) | (refine wpList_bS4 rfl 115 _ _ _ _ rfl (.slice a1 k1 c1) (.slice (some ⟨K, 0, none⟩) 1 1) (.slice a2 k2 c2) (.slice (some ⟨K + 1, 0, none⟩) 1 1) _ rfl rfl rfl rfl r3 ?_) | fail)
      refine CT.out.mono ?_
      rintro e w5 ⟨v5, rfl, ho5, hb5, hs5⟩
      have HO5 : Hid (w5.ownsRow G 5 1 v5 (wB W H).length (bv (wB W H))) := hid (base_mono ho5 HGS.out)
      have HB5 : Hid (Below G w w5) := hid (HGW.out.trans (hb5.mono HGS.out))
      clear ho5 hb5 hs5
      go_wp2
      refine bodyPost_ret (results_tmp2 Tryz.results13 _ _ _) rfl ?_
      exact ⟨HB5.out, .inl ⟨HND1.out, HND2.out, _, rfl, HO5.out⟩⟩
    · have HB2 : Hid (Below G w w2) := hid (HB1.out.trans (hb2.mono HS1.out))
      have HNN : Hid (¬ (W.Nodup ∧ H.Nodup)) := hid (fun h => hnd h.2)
      clear hb2 hs2 hnd
      go_wp2
      refine bodyPost_ret (results_tmp2 Tryz.results13 _ _ _) rfl ?_
      exact ⟨HB2.out, .inr ⟨HNN.out, rfl⟩⟩
  · have HB1 := hid hb1
    have HNN : Hid (¬ (W.Nodup ∧ H.Nodup)) := hid (fun h => hnd h.1)
    clear hb1 hs1 hnd
    go_wp2
    refine bodyPost_ret (results_tmp2 Tryz.results13 _ _ _) rfl ?_
    exact ⟨HB1.out, .inr ⟨HNN.out, rfl⟩⟩
end Go.Proofs.YtijeogdnjeamaaaGreatDoor
