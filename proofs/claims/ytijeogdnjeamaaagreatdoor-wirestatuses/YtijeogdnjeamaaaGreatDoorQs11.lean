import Derived.Test.YtijeogdnjeamaaaGreatDoorQs10
import Derived.Test.YtijeogdnjeamaaaGreatDoorQs09
namespace Go.Proofs.YtijeogdnjeamaaaGreatDoor
open Go.RowKit
set_option linter.unusedVariables false
set_option linter.unusedSimpArgs false
theorem cutPre (s p : Str) (w : World) : Calls Tryz.prog 128 #[.string ⟨s.toArray⟩, .string ⟨p.toArray⟩] w fun e w' => e = .returned (.tuple #[.string ⟨(Lib.trimPrefix s p).toArray⟩, .bool (Lib.hasPrefix s p)]) ∧ w' = w := Any.strings_CutPrefix Tryz.lays103 ⟨s.toArray⟩ ⟨p.toArray⟩ w
theorem cutStr (s p : Str) (hs : s.length ≤ 100000) (w : World) (hm : Nm.Mx w) : Calls Tryz.prog 122 #[.string ⟨s.toArray⟩, .string ⟨p.toArray⟩] w fun e w' => e = .returned (.tuple #[.string ⟨(Lib.cut s p).1.toArray⟩, .string ⟨(Lib.cut s p).2.1.toArray⟩, .bool (Lib.cut s p).2.2]) ∧ Below w.heap.size w w' := by
  obtain ⟨m, hm⟩ := hm
  refine (Any.strings_Cut Tryz.lays145 ⟨s.toArray⟩ ⟨p.toArray⟩ m w (by rw [txt_len]; omega) hm).mono ?_
  rintro e w' ⟨rfl, n, rfl⟩
  exact ⟨rfl, below_drewH (Below.refl _ _) n⟩
def PostPU (s : Str) (w : World) (e : Ending) (w' : World) : Prop :=
  Below w.heap.size w w' ∧ ((∃ v, Lib.parseUintB 16 s = .ok v ∧ e = .returned (.tuple #[.int .u64 (v : Nat), .nilIface])) ∨ ((∀ v, Lib.parseUintB 16 s ≠ .ok v) ∧ ∃ (v : Nat) (te : TypeId) (pe : Value), v ≤ 65535 ∧ e = .returned (.tuple #[.int .u64 v, .iface te pe])))
theorem parseU10 (s : Str) (hs : s.length ≤ 100000) (w : World) (he : Ers w) : Calls Tryz.prog 126 #[.string ⟨s.toArray⟩, .int .i64 10, .int .i64 16] w (PostPU s w) := by
  cases h : Lib.parseUintB 16 s with
  | ok v =>
    refine (Any.strconv_ParseUint_10_at16_ok Tryz.laysPu14 ⟨s.toArray⟩ (by rw [txt_len]; omega) v h w).mono ?_
    rintro e w' ⟨rfl, hw⟩
    refine ⟨?_, .inl ⟨v, h, rfl⟩⟩
    rcases hw with rfl | rfl
    · exact Below.refl _ _
    · exact ⟨rfl, rfl, rfl, by rw [Lib.bytesWorld_size]; omega, fun j hj => Lib.bytesWorld_at_old _ _ _ j hj⟩
  | «syntax» =>
    obtain ⟨ev, h1, h2⟩ := he.s
    refine (Any.strconv_ParseUint_10_at16_syntax Tryz.laysPu14 ⟨s.toArray⟩ (by rw [txt_len]; omega) h ev w h1 h2).mono ?_
    rintro e w' ⟨M, rfl, _, _, hb⟩
    exact ⟨hb, .inr ⟨(fun v e => by rw [h] at e; cases e), 0, _, _, by omega, rfl⟩⟩
  | range =>
    obtain ⟨ev, h1, h2⟩ := he.r
    refine (Any.strconv_ParseUint_10_at16_range Tryz.laysPu14 ⟨s.toArray⟩ (by rw [txt_len]; omega) h ev w h1 h2).mono ?_
    rintro e w' ⟨M, rfl, _, _, hb⟩
    exact ⟨hb, .inr ⟨(fun v e => by rw [h] at e; cases e), 65535, _, _, by omega, rfl⟩⟩
theorem rs1_ok {t : Str} {v : Nat} (h1 : ¬ Lib.hasPrefix t okWo = true) (h : Lib.parseUintB 16 (Lib.cut (trP ngWo t) [32]).2.1 = .ok v) : rs1 t = some ((Lib.cut (trP ngWo t) [32]).1, (v : Int)) := by rw [rs1, if_neg h1, h]
theorem rs1_no {t : Str} (h1 : ¬ Lib.hasPrefix t okWo = true) (h : ∀ v, Lib.parseUintB 16 (Lib.cut (trP ngWo t) [32]).2.1 ≠ .ok v) : rs1 t = none := by
  rw [rs1, if_neg h1]
  split
  · rename_i v hv
    exact absurd hv (h v)
  · rfl
theorem Plain_wrap (v : Nat) (h : v ≤ 65535) : IntKind.i64.wrap (v : Int) = (v : Int) := by
  exact wrap_i64 v (by omega)
theorem Tryz.results112 : Tryz.f112.results = #[.cell 2 57, .tmp 3] := by kernel_rfl
def PostRs (t : Str) (w : World) (G : Nat) (e : Ending) (w' : World) : Prop :=
  Below G w w' ∧ ((∃ x, rs1 t = some x ∧ e = .returned (.tuple #[stV x, .nilIface])) ∨ (rs1 t = none ∧ ∃ (y : Sta) (te : TypeId) (pe : Value), e = .returned (.tuple #[stV y, .iface te pe])))
theorem run_b57a (A : ByteArray) (w : World) : (Instr.build 57 #[(0, .string A)]).run Tryz.prog w = .ok (.agg #[.string A, .int .i64 0]) w := by kernel_rfl
theorem run_b57b (A : ByteArray) (v : Int) (w : World) : (Instr.build 57 #[(0, .string A), (1, .int .i64 v)]).run Tryz.prog w = .ok (.agg #[.string A, .int .i64 v]) w := by kernel_rfl
theorem wpList_build1 {P : Program} {ops : Array Oper} {rest : List Oper} {o : Oper} {a : Act} {w w' : World} {Q : Exit → Act → World → Prop} (hg : o.guard = none) (t : Nat) (x0 : Operand) (ho : o.op = .build t #[(0, x0)]) (u0 v : Value) (h0 : a.eval x0 = u0)
    (hr : (Instr.build t #[(0, u0)]).run P w = .ok v w')
    (h : wpList P ops Q rest (a.put o.dst v) w') : wpList P ops Q (o :: rest) a w := by
  refine wpList_plain hg fun K hK => ?_
  unfold Oper.wp execOp
  simp [ho, h0, hr, Result.andThen]
  exact hK _ _ h
set_option maxRecDepth 20000 in
set_option maxHeartbeats 1000000 in
theorem readStatus_any {w : World} (t : Str) (hl : t.length ≤ 10000) (hm : Nm.Mx w) (he : Ers w) : Calls Tryz.prog 112 #[.string ⟨t.toArray⟩] w (PostRs t w w.heap.size) := by
  obtain ⟨G, HG⟩ : ∃ n, Hid (w.heap.size = n) := ⟨_, rfl⟩
  obtain ⟨zr, HZR⟩ : ∃ z : Array Value, Hid (z = #[.string ⟨#[]⟩, .int .i64 0]) := ⟨_, hid rfl⟩
  have hz57 : ∀ w : World, (zeroValue 57).run Tryz.prog w = .ok (.agg zr) w := fun w => by rw [HZR.out]; exact zero57 w
  obtain ⟨w1, HW1⟩ : ∃ u, Hid (w.alloc (.cells zr 57) = u) := ⟨_, rfl⟩
  have hb1 : Below G w w1 := by rw [← HW1.out, ← HG.out]; exact (Below.refl _ w).alloc (Nat.le_refl _) _
  have hs1 : w1.heap.size = G + 1 := by rw [← HW1.out, ← HG.out]; exact size_alloc _ _
  have hn1 : w1.heap[G]? = some (.cells zr 57 (0, 0)) := by rw [← HW1.out, ← HG.out]; exact heap_alloc_new _ _
  obtain ⟨X, HX⟩ : ∃ X : ByteArray, Hid (⟨t.toArray⟩ = X) := ⟨_, hid rfl⟩
  obtain ⟨A, HA⟩ : ∃ X : ByteArray, Hid (⟨(Lib.trimPrefix t okWo).toArray⟩ = X) := ⟨_, hid rfl⟩
  have C128 : Hid (Calls Tryz.prog 128 #[.string X, .string ⟨#[111, 107, 32]⟩] w1 fun e w' => e = .returned (.tuple #[.string A, .bool (Lib.hasPrefix t okWo)]) ∧ w' = w1) := hid (by
    rw [← HX.out, ← HA.out]
    exact cutPre t okWo w1)
  have HS1 := hid hs1
  have HN1 := hid hn1
  have HB1 := hid hb1
  have HST : Hid (∀ (w2 : World) (Y : List Value), Y.length = 2 → Below w1.heap.size w1 w2 → w2.there G 0 Y.toArray.size ∧ Below G w (w2.setCells G 0 Y.toArray.toList) ∧ (w2.setCells G 0 Y.toArray.toList).rangeAt G 0 Y) := hid (fun w2 Y hY hb => by
    have h2 : w2.heap[G]? = some (.cells zr 57 (0, 0)) := (hb.block G (by rw [HS1.out]; omega)).trans HN1.out
    have ht : w2.there G 0 Y.toArray.size := there_off h2 0 (by rw [List.size_toArray, hY, HZR.out]; simp)
    exact ⟨ht, below_setCells (Nat.le_refl _) _ _ _ _ (HB1.out.trans (hb.mono (by rw [HS1.out]; omega))), World.rangeAt_setCells_same _ _ 0 _ (by rwa [List.size_toArray] at ht)⟩)
  have HMW : Hid (∀ W, Below w1.heap.size w1 W → Nm.Mx W ∧ Ers W) := hid (fun W hW => by
    have hbw : Below w.heap.size w W := by rw [HG.out]; exact HB1.out.trans (hW.mono (by rw [HS1.out]; omega))
    exact ⟨Mx_kept hm (grown_of_below hbw none) (by simp), he.below hbw⟩)
  have al1 : w.alloc (.cells zr 57) = w1 := HW1.out
  have hs0 : w.heap.size = G := HG.out
  have HTL := hid hl
  rw [HX.out, HG.out]
  clear hb1 hs1 hn1 hm he hl
  go_enter Tryz.func112, Tryz.ntmps112
  go_wp2_with fail
  refine C128.out.mono ?_
  rintro e wz ⟨rfl, hwz⟩
  rw [hwz]
  clear hwz wz
  by_cases hpre : Lib.hasPrefix t okWo = true
  · have HR : Hid (rs1 t = some (Lib.trimPrefix t okWo, 0)) := hid (by rw [rs1, if_pos hpre])
    obtain ⟨h1, h2, h3⟩ := HST.out w1 [.string A, .int .i64 0] rfl (Below.refl _ _)
    have T1 : Hid (w1.there G 0 (#[.string A, .int .i64 0] : Array Value).size) := hid h1
    have T2 : Hid ((Tryz.prog.info? 57).map (·.size) = some (#[.string A, .int .i64 0] : Array Value).size) := hid size57
    have T3 : Hid ((#[.string A, .int .i64 0] : Array Value).all (·.oneCell') = true) := hid (by simp [Value.oneCell'])
    have HB := hid h2
    have HRR := hid h3
    have hbd : ∀ W : World, (Instr.build 57 #[(0, .string A)]).run Tryz.prog W = .ok (.agg #[.string A, .int .i64 0]) W := fun W => run_b57a A W
    rw [hpre]
    clear h1 h2 h3 hpre
    go_wp2_with (first
      | (refine wpList_build1 rfl 57 _ rfl (.string A) _ rfl (hbd _) ?_)
      | (refine wpList_store_mid rfl 57 _ _ rfl G 0 #[.string A, .int .i64 0] rfl rfl T1.out T2.out T3.out ?_)
      | fail)
    refine bodyPost_ret (Hx.results_mid2 (t2 := 27) Tryz.results112 _ _ G [.string A, .int .i64 0] _ _ rfl rfl HRR.out Tryz.underlying57 rfl size57) rfl ?_
    exact ⟨HB.out, .inl ⟨_, HR.out, by show _ = Ending.returned (.tuple #[.agg #[.string ⟨(Lib.trimPrefix t okWo).toArray⟩, .int .i64 0], .nilIface]); rw [HA.out]; rfl⟩⟩
  · have hpf : Lib.hasPrefix t okWo = false := by simpa using hpre
    obtain ⟨u, HU⟩ : ∃ u, Hid (trP ngWo t = u) := ⟨_, rfl⟩
    obtain ⟨U, HUB⟩ : ∃ X : ByteArray, Hid (⟨u.toArray⟩ = X) := ⟨_, hid rfl⟩
    have hul : u.length ≤ 10000 := by rw [← HU.out]; exact Nat.le_trans (trP_len ngWo t) HTL.out
    have C101 : Hid (Calls Tryz.prog 101 #[.string X, .string ⟨#[110, 103, 32]⟩] w1 fun e w' => e = .returned (.string U) ∧ w' = w1) := hid (by
      have := trimPre t ngWo w1
      rw [sV_out, sV_out, sV_out, HX.out, HU.out, HUB.out] at this
      exact this)
    obtain ⟨nm, HNM⟩ : ∃ u, Hid ((Lib.cut (trP ngWo t) [32]).1 = u) := ⟨_, rfl⟩
    obtain ⟨nu, HNU⟩ : ∃ u, Hid ((Lib.cut (trP ngWo t) [32]).2.1 = u) := ⟨_, rfl⟩
    obtain ⟨bo, HBO⟩ : ∃ u, Hid ((Lib.cut (trP ngWo t) [32]).2.2 = u) := ⟨_, rfl⟩
    obtain ⟨NM, HNMB⟩ : ∃ X : ByteArray, Hid (⟨nm.toArray⟩ = X) := ⟨_, hid rfl⟩
    obtain ⟨NU, HNUB⟩ : ∃ X : ByteArray, Hid (⟨nu.toArray⟩ = X) := ⟨_, hid rfl⟩
    have C122 : Hid (Calls Tryz.prog 122 #[.string U, .string ⟨#[32]⟩] w1 fun e w' => e = .returned (.tuple #[.string NM, .string NU, .bool bo]) ∧ Below w1.heap.size w1 w') := hid (by
      have := cutStr u [32] (by omega) w1 (HMW.out w1 (Below.refl _ _)).1
      rw [← HU.out, HNM.out, HNU.out, HBO.out, HNMB.out, HNUB.out, HU.out, HUB.out] at this
      exact this)
    have hnl : nu.length ≤ 100000 := by
      rw [← HNU.out]
      have := cut_len2 (trP ngWo t)
      have := trP_len ngWo t
      have := HTL.out
      omega
    have C126 : Hid (∀ W, Below w1.heap.size w1 W → Calls Tryz.prog 126 #[.string NU, .int .i64 10, .int .i64 16] W (PostPU nu W)) := hid (fun W hW => by
      rw [← HNUB.out]
      exact parseU10 nu hnl W (HMW.out W hW).2)
    have HRS : Hid ((∀ v, Lib.parseUintB 16 nu = .ok v → rs1 t = some (nm, (v : Int))) ∧ ((∀ v, Lib.parseUintB 16 nu ≠ .ok v) → rs1 t = none)) := hid (by
      exact ⟨fun v hv => by rw [← HNM.out]; exact rs1_ok hpre (by rw [HNU.out]; exact hv), fun hv => rs1_no hpre (by rw [HNU.out]; exact hv)⟩)
    rw [hpf]
    clear hpre hpf hul hnl
    go_wp2_with fail
    refine C101.out.mono ?_
    rintro e wy ⟨rfl, hwy⟩
    rw [hwy]
    clear hwy wy
    go_wp2_with fail
    refine C122.out.mono ?_
    rintro e w2 ⟨rfl, hb2⟩
    have HB2 := hid hb2
    have C126' := hid (C126.out w2 hb2)
    clear hb2
    go_wp2_with fail
    refine C126'.out.mono ?_
    rintro e w3 ⟨hb3, ⟨v, hv, rfl⟩ | ⟨hv, v, te, pe, hv5, rfl⟩⟩
    · have hb13 : Below w1.heap.size w1 w3 := HB2.out.trans (hb3.mono HB2.out.size)
      obtain ⟨h1, h2, h3⟩ := HST.out w3 [.string NM, .int .i64 (v : Int)] rfl hb13
      have T1 : Hid (w3.there G 0 (#[.string NM, .int .i64 (v : Int)] : Array Value).size) := hid h1
      have T2 : Hid ((Tryz.prog.info? 57).map (·.size) = some (#[.string NM, .int .i64 (v : Int)] : Array Value).size) := hid size57
      have T3 : Hid ((#[.string NM, .int .i64 (v : Int)] : Array Value).all (·.oneCell') = true) := hid (by simp [Value.oneCell'])
      have HB := hid h2
      have HRR := hid h3
      have hbd : ∀ W : World, (Instr.build 57 #[(0, .string NM), (1, .int .i64 (v : Int))]).run Tryz.prog W = .ok (.agg #[.string NM, .int .i64 (v : Int)]) W := fun W => run_b57b NM v W
      have HVL : Hid (v ≤ 65535) := hid (parseU_le nu v hv)
      have HR : Hid (rs1 t = some (nm, (v : Int))) := hid (HRS.out.1 v hv)
      have hwr : IntKind.i64.wrap (v : Int) = (v : Int) := Plain_wrap v (by have := HVL.out; omega)
      clear h1 h2 h3 hb13 hb3 hv 
      go_wp2_with (first
        | (refine wpList_build2 rfl 57 _ _ rfl (.string NM) (.int .i64 (v : Int)) _ rfl rfl (hbd _) ?_)
        | (refine wpList_store_mid rfl 57 _ _ rfl G 0 #[.string NM, .int .i64 (v : Int)] rfl rfl T1.out T2.out T3.out ?_)
        | fail)
      refine bodyPost_ret (Hx.results_mid2 (t2 := 27) Tryz.results112 _ _ G [.string NM, .int .i64 (v : Int)] _ _ rfl rfl HRR.out Tryz.underlying57 rfl size57) rfl ?_
      exact ⟨HB.out, .inl ⟨_, HR.out, by show _ = Ending.returned (.tuple #[.agg #[.string ⟨nm.toArray⟩, .int .i64 (v : Int)], .nilIface]); rw [HNMB.out]; rfl⟩⟩
    · have hb13 : Below w1.heap.size w1 w3 := HB2.out.trans (hb3.mono HB2.out.size)
      obtain ⟨h1, h2, h3⟩ := HST.out w3 [.string NM, .int .i64 (v : Int)] rfl hb13
      have T1 : Hid (w3.there G 0 (#[.string NM, .int .i64 (v : Int)] : Array Value).size) := hid h1
      have T2 : Hid ((Tryz.prog.info? 57).map (·.size) = some (#[.string NM, .int .i64 (v : Int)] : Array Value).size) := hid size57
      have T3 : Hid ((#[.string NM, .int .i64 (v : Int)] : Array Value).all (·.oneCell') = true) := hid (by simp [Value.oneCell'])
      have HB := hid h2
      have HRR := hid h3
      have hbd : ∀ W : World, (Instr.build 57 #[(0, .string NM), (1, .int .i64 (v : Int))]).run Tryz.prog W = .ok (.agg #[.string NM, .int .i64 (v : Int)]) W := fun W => run_b57b NM v W
      have HVL : Hid (v ≤ 65535) := hid hv5
      have HR : Hid (rs1 t = none) := hid (HRS.out.2 hv)
      have hwr : IntKind.i64.wrap (v : Int) = (v : Int) := Plain_wrap v (by have := HVL.out; omega)
      clear h1 h2 h3 hb13 hb3 hv hv5
      go_wp2_with (first
        | (refine wpList_build2 rfl 57 _ _ rfl (.string NM) (.int .i64 (v : Int)) _ rfl rfl (hbd _) ?_)
        | (refine wpList_store_mid rfl 57 _ _ rfl G 0 #[.string NM, .int .i64 (v : Int)] rfl rfl T1.out T2.out T3.out ?_)
        | fail)
      refine bodyPost_ret (Hx.results_mid2 (t2 := 27) Tryz.results112 _ _ G [.string NM, .int .i64 (v : Int)] _ _ rfl rfl HRR.out Tryz.underlying57 rfl size57) rfl ?_
      exact ⟨HB.out, .inr ⟨HR.out, (nm, (v : Int)), te, pe, by show _ = Ending.returned (.tuple #[.agg #[.string ⟨nm.toArray⟩, .int .i64 (v : Int)], .iface te pe]); rw [HNMB.out]; rfl⟩⟩
end Go.Proofs.YtijeogdnjeamaaaGreatDoor
namespace Go.Proofs.YtijeogdnjeamaaaGreatDoor
open Go.RowKit
set_option linter.unusedVariables false
set_option linter.unusedSimpArgs false
def PostRLs (ts : List Str) (w : World) (G : Nat) (e : Ending) (w' : World) : Prop :=
  ∃ v u, BSt 57 w w' G v (rdS ts).1 ∧ e = .returned (.tuple #[v, u])
theorem Tryz.results111 : Tryz.f111.results = #[.tmp 4, .tmp 5] := by kernel_rfl
theorem info57 : (Tryz.prog.info? 57).map (fun i => (i.zero, i.size, i.bytes)) = some (some (.agg #[.string ⟨#[]⟩, .int .i64 0]), 2, 24) := by kernel_rfl
theorem run_b54 (A : ByteArray) (v : Int) (w : World) : (Instr.buildSlice 54 1 #[(0, .agg #[.string A, .int .i64 v])]).run Tryz.prog w = .ok (.slice (some ⟨w.heap.size, 0, none⟩) 1 1) (w.alloc (.cells #[.string A, .int .i64 v] 57)) := by kernel_rfl
theorem pst_one (w : World) (x : Sta) (e : TypeId) : PSt (w.alloc (.cells (encSt x).toArray e)) (some ⟨w.heap.size, 0, none⟩) 1 [x] :=
  ⟨Nat.le_refl _, fun _ => ⟨w.heap.size, 0, rfl, by simp, fun i hi j v hv => by
    obtain rfl : i = 0 := by simpa using hi
    have := range_row (heap_alloc_new w (.cells (encSt x).toArray e)) j v hv
    simpa using this⟩, fun h => by cases h⟩
set_option maxRecDepth 20000 in
set_option maxHeartbeats 4000000 in
theorem readListS_any {w : World} (a : Option Addr) (cap : Nat) (ts : List Str) (hP : PS w a cap ts) (hn : ts.length ≤ 20000) (hl : ∀ t ∈ ts, t.length ≤ 10000) (hm : Nm.Mx w) (he : Ers w) :
    Calls Tryz.prog 111 #[.slice a ts.length cap, .func (.func 112) #[] #[]] w (PostRLs ts w w.heap.size) := by
  obtain ⟨G, HG⟩ : ∃ n, Hid (w.heap.size = n) := ⟨_, rfl⟩
  obtain ⟨m, HM⟩ : ∃ n, Hid (ts.length = n) := ⟨_, rfl⟩
  have hm2 : m ≤ 20000 := by rw [← HM.out]; exact hn
  obtain ⟨zr, HZR⟩ : ∃ z : Array Value, Hid (z = #[.string ⟨#[]⟩, .int .i64 0]) := ⟨_, hid rfl⟩
  have hz57 : ∀ w : World, (zeroValue 57).run Tryz.prog w = .ok (.agg zr) w := fun w => by rw [HZR.out]; exact zero57 w
  have HPS : Hid (∀ W, Below G w W → PS W a cap ts) := hid (fun W hW => hP.below (by rw [HG.out]; exact hW))
  have HPL : Hid (0 < m → ∃ b off, a = some ⟨b, off, none⟩) := hid (fun h => by
    obtain ⟨b, off, e1, _⟩ := hP.at_ (by rw [HM.out]; exact h)
    exact ⟨b, off, e1⟩)
  have HTL := hid hl
  have CF : Hid (∀ (W : World) (t : Str) (X : ByteArray), Hid (⟨t.toArray⟩ = X) → t.length ≤ 10000 → Below G w W → Calls Tryz.prog 112 #[.string X] W (PostRs t W W.heap.size)) := hid (fun W t X hX ht hW => by
    rw [← hX.out]
    exact readStatus_any t ht (Mx_kept hm (grown_of_below (by rw [HG.out]; exact hW) none) (by simp)) (he.below (by rw [HG.out]; exact hW)))
  have HE0 : Hid (BSt 57 w w G (.slice none 0 0) []) := hid (bx_nil 57 w G (by rw [HG.out]; exact Nat.le_refl _))
  have HGS : Hid (∀ W, Below G w W → G ≤ W.heap.size) := hid (fun W hW => by have := hW.size; have := HG.out; omega)
  rw [HM.out, HG.out]
  clear hP hn hl hm he
  go_enter Tryz.func111, Tryz.ntmps111
  go_wp2_with fail
  go_loopg [4, 12] m (fun gg lv iv wr => ∃ (i : Nat) (L : List Sta), i ≤ m ∧ gg = m - i ∧ iv = .int .i64 i ∧ Hid (BSt 57 w wr G lv L) ∧ Hid (L.length = i) ∧ Hid ((rdS ts).1 = L ++ (rdS (ts.drop i)).1))
  case atStart => exact ⟨0, [], Nat.zero_le _, rfl, rfl, HE0, hid rfl, hid (by simp)⟩
  case round =>
    obtain ⟨i, L, hi, hk, rfl, HBE, HLL, HRD⟩ := hrel
    by_cases hlt : i < m
    · have hlti : (i : Int) < (m : Int) := by omega
      obtain ⟨b, off, rfl⟩ := HPL.out (by omega)
      have hil : i < ts.length := by rw [HM.out]; exact hlt
      obtain ⟨t, HT⟩ : ∃ x, Hid (ts.getD i [] = x) := ⟨_, rfl⟩
      obtain ⟨X, HX⟩ : ∃ X : ByteArray, Hid (⟨t.toArray⟩ = X) := ⟨_, hid rfl⟩
      have kc : wr.cell? ⟨b, off + i, none⟩ = some (.string X) := by
        obtain ⟨b', off', e1, _, e3⟩ := (HPS.out wr HBE.out.below).at_ (by omega)
        cases e1
        have := e3 i hil 0 _ rfl
        rw [show off + i * 1 + 0 = off + i by omega, HT.out, sV_out, HX.out] at this
        exact this
      have HDR : Hid (ts.drop i = t :: ts.drop (i + 1)) := hid (by rw [drop_at ts i hil, HT.out])
      have CC := hid (CF.out wr t X HX (by rw [← HT.out]; exact HTL.out _ (getD_mem ts i [] hil)) HBE.out.below)
      clear hil
      go_wp2_with fail
      refine CC.out.mono ?_
      rintro e w2 ⟨hb2, ⟨x, hx, rfl⟩ | ⟨hx, y, te, pe, rfl⟩⟩
      · obtain ⟨A, HA⟩ : ∃ X : ByteArray, Hid (⟨x.1.toArray⟩ = X) := ⟨_, hid rfl⟩
        obtain ⟨vv, HVV⟩ : ∃ q, Hid (x.2 = q) := ⟨_, rfl⟩
        have HEN : Hid (encSt x = [.string A, .int .i64 vv]) := hid (by rw [← HA.out, ← HVV.out]; rfl)
        obtain ⟨P, HPP⟩ : ∃ P, Hid (w2.heap.size = P) := ⟨_, rfl⟩
        obtain ⟨w3, hw3, ht3, hb3, hr3⟩ := st_new w2 57 zr [.string A, .int .i64 vv] (by rw [HZR.out]; rfl)
        obtain ⟨wa, HWA⟩ : ∃ W, Hid (w2.alloc (.cells zr 57) = W) := ⟨_, rfl⟩
        rw [HWA.out, HPP.out] at hw3 ht3
        rw [HPP.out] at hb3 hr3
        have HW3 := hid hw3
        have T1 : Hid (wa.there P 0 (#[.string A, .int .i64 vv] : Array Value).size) := hid ht3
        have R3 := hid hr3
        have T2 : Hid ((Tryz.prog.info? 57).map (·.size) = some (#[.string A, .int .i64 vv] : Array Value).size) := hid size57
        have T3 : Hid ((#[.string A, .int .i64 vv] : Array Value).all (·.oneCell') = true) := hid (by simp [Value.oneCell'])
        have HB3 : Hid (BSt 57 w w3 G u4 L) := hid (Bx.carry (Bx.carry HBE.out hb2) (by rw [HPP.out]; exact hb3))
        obtain ⟨K7, HK7⟩ : ∃ K, Hid (w3.heap.size = K) := ⟨_, rfl⟩
        obtain ⟨wq, HWQ⟩ : ∃ W, Hid (w3.alloc (.cells #[.string A, .int .i64 vv] 57) = W) := ⟨_, rfl⟩
        have HBLD : Hid ((Instr.buildSlice 54 1 #[(0, .agg #[.string A, .int .i64 vv])]).run Tryz.prog w3 = .ok (.slice (some ⟨K7, 0, none⟩) 1 1) wq) := hid (by rw [← HK7.out, ← HWQ.out]; exact run_b54 A vv w3)
        have HV7 : Hid (BSt 57 w wq G u4 L) := hid (by rw [← HWQ.out]; exact Bx.alloc HB3.out _)
        have HP8 : Hid (PSt wq (some ⟨K7, 0, none⟩) 1 [x]) := hid (by
          have := pst_one w3 x 57
          rw [HEN.out, HK7.out] at this
          rw [← HWQ.out]
          exact this)
        have HSUM : Hid (L.length + [x].length ≤ 30000) := hid (by rw [HLL.out]; simp only [List.length_cons, List.length_nil]; omega)
        have HRD2 : Hid ((rdS ts).1 = (L ++ [x]) ++ (rdS (ts.drop (i + 1))).1) := hid (by
          rw [HRD.out, HDR.out, rdS_some hx]
          simp)
        have al1 : w2.alloc (.cells zr 57) = wa := HWA.out
        have hsP : w2.heap.size = P := HPP.out
        unfold stV
        rw [HA.out, HVV.out]
        clear hw3 ht3 hb3 hr3 hb2 hx
        go_wp2_with (first
          | (refine wpList_load_mid rfl 57 _ rfl P 0 rfl [.string A, .int .i64 vv] _ R3.out Tryz.underlying57 rfl size57 ?_)
          | (refine wpList_store_mid rfl 57 _ _ rfl P 0 #[.string A, .int .i64 vv] rfl rfl T1.out T2.out T3.out ?_; rw [HW3.out])
          | refine wpList_bS rfl 54 1 _ rfl (.agg #[.string A, .int .i64 vv]) _ rfl HBLD.out ?_
          | (refine wpList_bx_sl (enc := encSt) (k := 2) (d := st0) rfl _ _ 54 57 Tryz.underlying54 info57 rfl (by decide) (by decide) encSt_one rfl G u4 L rfl HV7.out (some ⟨K7, 0, none⟩) 1 [x] rfl HP8.out (encSt_len _) HSUM.out ?_; intro v8 w8 hb8 hg8)
          | fail)
        have HB8 : Hid (BSt 57 w w8 G v8 (L ++ [x])) := hid hb8
        have HL8 : Hid ((L ++ [x]).length = i + 1) := hid (by rw [List.length_append, HLL.out]; rfl)
        clear hb8 hg8
        try go_wp2
        go_roundg (m - (i + 1))
        case measure => omega
        case rel => exact ⟨i + 1, L ++ [x], by omega, rfl, by go_num, HB8, HL8, HRD2⟩
      · obtain ⟨A, HA⟩ : ∃ X : ByteArray, Hid (⟨y.1.toArray⟩ = X) := ⟨_, hid rfl⟩
        obtain ⟨vv, HVV⟩ : ∃ q, Hid (y.2 = q) := ⟨_, rfl⟩
        obtain ⟨P, HPP⟩ : ∃ P, Hid (w2.heap.size = P) := ⟨_, rfl⟩
        obtain ⟨w3, hw3, ht3, hb3, hr3⟩ := st_new w2 57 zr [.string A, .int .i64 vv] (by rw [HZR.out]; rfl)
        obtain ⟨wa, HWA⟩ : ∃ W, Hid (w2.alloc (.cells zr 57) = W) := ⟨_, rfl⟩
        rw [HWA.out, HPP.out] at hw3 ht3
        rw [HPP.out] at hb3 hr3
        have HW3 := hid hw3
        have T1 : Hid (wa.there P 0 (#[.string A, .int .i64 vv] : Array Value).size) := hid ht3
        have T2 : Hid ((Tryz.prog.info? 57).map (·.size) = some (#[.string A, .int .i64 vv] : Array Value).size) := hid size57
        have T3 : Hid ((#[.string A, .int .i64 vv] : Array Value).all (·.oneCell') = true) := hid (by simp [Value.oneCell'])
        have hbd : Below w3.heap.size w3 w3.drew := ⟨rfl, rfl, rfl, Nat.le_refl _, fun _ _ => rfl⟩
        have HB3 : Hid (BSt 57 w w3.drew G u4 L) := hid (Bx.carry (Bx.carry (Bx.carry HBE.out hb2) (by rw [HPP.out]; exact hb3)) hbd)
        have HRD2 : Hid ((rdS ts).1 = L) := hid (by
          rw [HRD.out, HDR.out, rdS_none hx]
          simp)
        obtain ⟨aa, HAA⟩ : ∃ x, Hid (adX 1 (some ⟨b, off, none⟩) cap i = x) := ⟨_, rfl⟩
        obtain ⟨ca, HCA⟩ : ∃ x : Nat, Hid (cap - i = x) := ⟨_, rfl⟩
        obtain ⟨na, HNA⟩ : ∃ x : Nat, Hid (m - i = x) := ⟨_, rfl⟩
        have hsl : ∀ W : World, (Instr.slice 63 (.slice (some ⟨b, off, none⟩) m cap) (some (.int .i64 i)) none none).run Tryz.prog W = .ok (.slice aa na ca) W := fun W => by
          rw [← HAA.out, ← HCA.out, ← HNA.out]
          exact sl63l _ m cap i (by omega) W
        have al1 : w2.alloc (.cells zr 57) = wa := HWA.out
        have hsP : w2.heap.size = P := HPP.out
        unfold stV
        rw [HA.out, HVV.out]
        clear hw3 ht3 hb3 hr3 hb2 hx hbd
        go_wp2_with (first
          | (refine wpList_store_mid rfl 57 _ _ rfl P 0 #[.string A, .int .i64 vv] rfl rfl T1.out T2.out T3.out ?_; rw [HW3.out])
          | fail)
        refine wp_region_held_drew (S := fun _ => True) (by kernel_rfl) trivial (fun hHeld => ?_)
        generalize w3.drew = w4 at hHeld HB3 ⊢
        refine takeL (i := 0) (v := ?_) rfl (by kernel_rfl) (by kernel_rfl) (by kernel_rfl) (fun _ _ _ h => h) (Or.inl ⟨by rfl, ?_⟩) hHeld ?_
        rotate_left
        · rintro w' _; go_simp; rfl
        try simp only [Act.put, List.setIfInBounds_toArray, List.set_cons_zero, List.set_cons_succ]
        refine takeL (i := 1) (v := ?_) rfl (by kernel_rfl) (by kernel_rfl) (by kernel_rfl) (fun _ _ _ h => h) (Or.inl ⟨by rfl, ?_⟩) hHeld ?_
        rotate_left
        · rintro w' _; go_simp; rfl
        try simp only [Act.put, List.setIfInBounds_toArray, List.set_cons_zero, List.set_cons_succ]
        refine takeL (i := 2) (v := ?_) rfl (by kernel_rfl) (by kernel_rfl) (by kernel_rfl) (fun _ _ _ h => h) (Or.inl ⟨by rfl, ?_⟩) hHeld ?_
        rotate_left
        · rintro w' _; go_simp; rfl
        try simp only [Act.put, List.setIfInBounds_toArray, List.set_cons_zero, List.set_cons_succ]
        refine takeL (i := 3) (v := ?_) rfl (by kernel_rfl) (by kernel_rfl) (by kernel_rfl) (fun _ _ _ h => h) (Or.inl ⟨by rfl, ?_⟩) hHeld ?_
        rotate_left
        · rintro w' _; go_simp; rfl
        try simp only [Act.put, List.setIfInBounds_toArray, List.set_cons_zero, List.set_cons_succ]
        refine takeL (i := 4) (v := ?_) rfl (by kernel_rfl) (by kernel_rfl) (by kernel_rfl) (fun _ _ _ h => h) (Or.inl ⟨by rfl, ?_⟩) hHeld ?_
        rotate_left
        · rintro w' _; go_simp; rfl
        try simp only [Act.put, List.setIfInBounds_toArray, List.set_cons_zero, List.set_cons_succ]
        refine takeL (i := 5) (v := ?_) rfl (by kernel_rfl) (by kernel_rfl) (by kernel_rfl) (fun _ _ _ h => h) (Or.inl ⟨by rfl, ?_⟩) hHeld ?_
        rotate_left
        · rintro w' _; go_simp; rfl
        try simp only [Act.put, List.setIfInBounds_toArray, List.set_cons_zero, List.set_cons_succ]
        refine wpAnyH_done (by kernel_rfl) ?_ _
        clear hHeld
        go_wp2
        refine bodyPost_ret (results_tmp2 Tryz.results111 _ _ _) rfl ?_
        unfold PostRLs
        rw [HRD2.out]
        exact ⟨_, _, HB3.out, rfl⟩
    · have hlti : ¬ (i : Int) < (m : Int) := by omega
      have HRD2 : Hid ((rdS ts).1 = L) := hid (by
        rw [HRD.out, List.drop_of_length_le (by rw [HM.out]; omega)]
        simp [rdS])
      go_wp2
      refine bodyPost_ret (results_tmp2 Tryz.results111 _ _ _) rfl ?_
      unfold PostRLs
      rw [HRD2.out]
      exact ⟨_, _, HBE.out, rfl⟩
set_option maxRecDepth 20000 in
theorem readStatuses_any {w : World} (a : Option Addr) (cap : Nat) (ts : List Str) (hP : PS w a cap ts) (hn : ts.length ≤ 20000) (hl : ∀ t ∈ ts, t.length ≤ 10000) (hm : Nm.Mx w) (he : Ers w) :
    Calls Tryz.prog 87 #[.slice a ts.length cap] w fun e w' => ∃ v, e = .returned v ∧ BSt 57 w w' w.heap.size v (rdS ts).1 := by
  obtain ⟨G, HG⟩ : ∃ n, Hid (w.heap.size = n) := ⟨_, rfl⟩
  obtain ⟨m, HM⟩ : ∃ n, Hid (ts.length = n) := ⟨_, rfl⟩
  have CC : Hid (Calls Tryz.prog 111 #[.slice a m cap, .func (.func 112) #[] #[]] w (PostRLs ts w G)) := hid (by
    rw [← HM.out, ← HG.out]
    exact readListS_any a cap ts hP hn hl hm he)
  rw [HM.out, HG.out]
  clear hP hn hl hm he
  go_enter Tryz.func87, Tryz.ntmps87
  go_wp2_with fail
  refine CC.out.mono ?_
  rintro e w2 ⟨v, u, hbi, rfl⟩
  have HBI := hid hbi
  clear hbi
  go_wp2
  go_ret
  exact ⟨_, rfl, HBI.out⟩
def PostRBs (s : Str) (w : World) (G : Nat) (e : Ending) (w' : World) : Prop :=
  Below G w w' ∧ ((∃ l v, Sok s l ∧ e = .returned (.tuple #[v, .nilIface]) ∧ BSt 57 w w' G v l) ∨ ((¬ ∃ l, Sok s l) ∧ (∃ ls, okL ls ∧ s = pktL ls) ∧ e = .returned (.tuple #[.slice none 0 0, .iface 37 (.int .i64 111)])) ∨ ((¬ ∃ ls, okL ls ∧ s = pktL ls) ∧ e = .returned (.tuple #[.slice none 0 0, .iface 37 (.int .i64 110)])))
theorem Tryz.results86 : Tryz.f86.results = #[.tmp 6, .tmp 7] := by kernel_rfl
theorem Tryz.results52 : Tryz.f52.results = #[.tmp 2, .tmp 3] := by kernel_rfl
set_option maxRecDepth 20000 in
set_option maxHeartbeats 4000000 in
theorem readBackS_any {w : World} (a : Option Addr) (cap : Nat) (s : Str) (hP : PB w a cap s) (hl : s.length ≤ 8000) (he : Ers w) (hd : Db w) (hm : Nm.Mx w) (htb : Tab w) :
    Calls Tryz.prog 86 #[.slice a s.length cap, .func (.func 87) #[] #[], .func (.func 23) #[] #[]] w (PostRBs s w w.heap.size) := by
  obtain ⟨G, HG⟩ : ∃ n, Hid (w.heap.size = n) := ⟨_, rfl⟩
  obtain ⟨m, HM⟩ : ∃ n, Hid (s.length = n) := ⟨_, rfl⟩
  have HPB : Hid (∀ W, Below G w W → PB W a cap s) := hid (fun W hW => hP.below (by rw [HG.out]; exact hW))
  have HWD : Hid (∀ W, Below G w W → Db W ∧ Ers W ∧ Nm.Mx W ∧ Tab W) := hid (fun W hW => by
    have hw : Below w.heap.size w W := by rw [HG.out]; exact hW
    exact ⟨hd.below hw, he.below hw, Mx_kept hm (grown_of_below hw none) (by simp), htb.below hw⟩)
  have C99 : Hid (Calls Tryz.prog 99 #[.slice a m cap] w (PostT s w)) := hid (by
    rw [← HM.out]
    exact readTexts_any a cap s hP (by omega) he hd)
  have HL8 := hid hl
  have HGS : Hid (∀ X, Below G w X → G ≤ X.heap.size) := hid (fun X hX => by have := hX.size; have := HG.out; omega)
  rw [HM.out, HG.out]
  clear hP he hd hm htb hl
  go_enter Tryz.func86, Tryz.ntmps86
  go_wp2_with fail
  refine C99.out.mono ?_
  rintro e w3 ⟨hb3, ⟨ls, hok, hs, v, rfl, hbs⟩ | ⟨hno, rfl⟩⟩
  · rw [HG.out] at hb3
    obtain ⟨at', ct, rfl, hpt, _⟩ := hbs.px (d := []) (encS_len _)
    obtain ⟨ts, HTS⟩ : ∃ u, Hid (ls.map noEnd = u) := ⟨_, rfl⟩
    rw [HTS.out] at hpt
    rw [HTS.out]
    obtain ⟨k, HK⟩ : ∃ n, Hid (ts.length = n) := ⟨_, rfl⟩
    have htl : ts.length ≤ 20000 := by
      rw [← HTS.out, List.length_map]
      have h1 := pktL_cnt ls
      rw [← hs] at h1
      have := HL8.out
      omega
    have hts : ∀ t ∈ ts, t.length ≤ 1000 := fun t ht => by
      rw [← HTS.out] at ht
      obtain ⟨u, hu, rfl⟩ := List.mem_map.1 ht
      have h1 := noEnd_len u
      have h2 := hok u hu
      omega
    have C87 : Hid (Calls Tryz.prog 87 #[.slice at' k ct] w3 fun e w' => ∃ v, e = .returned v ∧ BSt 57 w3 w' w3.heap.size v (rdS ts).1) := hid (by
      rw [← HK.out]
      exact readStatuses_any at' ct ts hpt htl (fun t ht => Nat.le_trans (hts t ht) (by omega)) (HWD.out w3 hb3).2.2.1 (HWD.out w3 hb3).2.1)
    have HFT : Hid (FitS (rdS ts).1) := hid (fun x hx => by
      have h1 := rdS_len 1000 ts hts x hx
      have h2 := rdS_fit ts x hx
      omega)
    have HB3 := hid hb3
    have HOK := hid hok
    have HSS := hid hs
    rw [HK.out]
    clear hb3 hok hs hbs hpt htl hts
    go_wp2_with fail
    refine C87.out.mono ?_
    rintro e w4 ⟨v1, rfl, hbi1⟩
    obtain ⟨L, HL⟩ : ∃ l, Hid ((rdS ts).1 = l) := ⟨_, rfl⟩
    rw [HL.out] at hbi1
    obtain ⟨a1, c1, rfl, hp1, _⟩ := hbi1.px (d := st0) (encSt_len _)
    obtain ⟨n1, HN1⟩ : ∃ n, Hid (L.length = n) := ⟨_, rfl⟩
    rw [HN1.out] at hbi1
    have HBI1 := hid hbi1
    have hgw4 : Below G w w4 := HB3.out.trans (hbi1.below.mono (HGS.out w3 HB3.out))
    have C23 : Hid (Calls Tryz.prog 23 #[.slice a1 n1 c1] w4 (PostWSt L w4)) := hid (by
      rw [← HN1.out]
      exact writeStatus_any a1 c1 L hp1 (by rw [← HL.out]; exact HFT.out) (HWD.out w4 hgw4).2.2.1 (HWD.out w4 hgw4).2.2.2 (HWD.out w4 hgw4).1)
    have HWK : Hid (∀ l2, Sok s l2 → l2 = L) := hid (fun l2 h => by
      have h1 := sok_read h HOK.out HSS.out
      rw [HTS.out, HL.out] at h1
      exact h1.symm)
    have HLS : Hid (∃ ls, okL ls ∧ s = pktL ls) := hid ⟨ls, HOK.out, HSS.out⟩
    have HB4 := hid hgw4
    rw [HN1.out]
    clear hbi1 hp1 hgw4
    go_wp2_with fail
    refine C23.out.mono ?_
    rintro e w6 ⟨hb6, ⟨h1, v, rfl, ho⟩ | ⟨h1, rfl⟩⟩
    · obtain ⟨a6, c6, rfl, hp6, _⟩ := own_pb ho
      obtain ⟨S, HSB⟩ : ∃ S, Hid (stB L = S) := ⟨_, rfl⟩
      rw [HSB.out] at hp6
      rw [HSB.out]
      obtain ⟨q, HQ⟩ : ∃ n, Hid (S.length = n) := ⟨_, rfl⟩
      have hb26 : Below G w w6 := HB4.out.trans (hb6.mono (HGS.out w4 HB4.out))
      have C100 : Hid (Calls Tryz.prog 100 #[.slice a6 q c6, .slice a m cap] w6 fun e w' => e = .returned (.bool (S == s)) ∧ w' = w6) := hid (by
        rw [← HQ.out, ← HM.out]
        exact equal_any a6 c6 S hp6 a cap s (HPB.out w6 hb26))
      have F1 : Hid (BSt 57 w w6 G (.slice a1 n1 c1) L) := hid (by
        have h1 := Bx.carry HBI1.out hb6
        have h2 := HGS.out w3 HB3.out
        exact ⟨hb26, base_mono h1.own h2, Nat.le_trans h2 h1.le⟩)
      have H1 := hid h1
      have HB6 := hid hb26
      rw [HQ.out]
      clear h1 ho hp6 hb6 hb26
      go_wp2_with fail
      refine C100.out.mono ?_
      rintro e w7 ⟨rfl, hw7⟩
      rw [hw7]
      clear hw7 w7
      by_cases hSs : S = s
      · have hbb : (S == s) = true := beq_t hSs
        have HGD : Hid (Sok s L) := hid ⟨H1.out, by rw [HSB.out]; exact hSs.symm⟩
        rw [hbb]
        clear hbb hSs
        go_wp2
        refine bodyPost_ret (results_tmp2 Tryz.results86 _ _ _) rfl ?_
        exact ⟨HB6.out, .inl ⟨L, _, HGD.out, rfl, F1.out⟩⟩
      · have hbb : (S == s) = false := beq_f hSs
        have HGD : Hid (¬ ∃ l, Sok s l) := hid (fun ⟨l2, h⟩ => by
          have e1 := HWK.out l2 h
          subst e1
          exact hSs (by rw [← HSB.out]; exact h.b.symm))
        rw [hbb]
        clear hbb hSs
        go_wp2
        refine bodyPost_ret (results_tmp2 Tryz.results86 _ _ _) rfl ?_
        exact ⟨HB6.out, .inr (.inl ⟨HGD.out, HLS.out, rfl⟩)⟩
    · have HB6 : Hid (Below G w w6) := hid (HB4.out.trans (hb6.mono (HGS.out w4 HB4.out)))
      have HGD : Hid (¬ ∃ l, Sok s l) := hid (fun ⟨l2, h⟩ => by
        have e1 := HWK.out l2 h
        subst e1
        exact h1 h.ok)
      clear h1 hb6
      go_wp2
      refine bodyPost_ret (results_tmp2 Tryz.results86 _ _ _) rfl ?_
      exact ⟨HB6.out, .inr (.inl ⟨HGD.out, HLS.out, rfl⟩)⟩
  · rw [HG.out] at hb3
    have HB3 := hid hb3
    have HNO := hid hno
    clear hno hb3
    go_wp2
    refine bodyPost_ret (results_tmp2 Tryz.results86 _ _ _) rfl ?_
    exact ⟨HB3.out, .inr (.inr ⟨HNO.out, rfl⟩)⟩
set_option maxRecDepth 20000 in
theorem readStatusB_any {w : World} (a : Option Addr) (cap : Nat) (s : Str) (hP : PB w a cap s) (hl : s.length ≤ 8000) (he : Ers w) (hd : Db w) (hm : Nm.Mx w) (htb : Tab w) :
    Calls Tryz.prog 52 #[.slice a s.length cap] w (PostRBs s w w.heap.size) := by
  obtain ⟨G, HG⟩ : ∃ n, Hid (w.heap.size = n) := ⟨_, rfl⟩
  obtain ⟨m, HM⟩ : ∃ n, Hid (s.length = n) := ⟨_, rfl⟩
  have C86 : Hid (Calls Tryz.prog 86 #[.slice a m cap, .func (.func 87) #[] #[], .func (.func 23) #[] #[]] w (PostRBs s w G)) := hid (by
    rw [← HM.out, ← HG.out]
    exact readBackS_any a cap s hP hl he hd hm htb)
  rw [HM.out, HG.out]
  clear hP hl he hd hm htb
  go_enter Tryz.func52, Tryz.ntmps52
  go_wp2_with fail
  refine C86.out.mono ?_
  rintro e w2 ⟨hb2, ⟨l, v, hok, rfl, hbi⟩ | ⟨hno, hls, rfl⟩ | ⟨hno, rfl⟩⟩
  · have HB := hid hb2
    have HOK := hid hok
    have HBI := hid hbi
    clear hb2 hok hbi
    go_wp2
    refine bodyPost_ret (results_tmp2 Tryz.results52 _ _ _) rfl ?_
    exact ⟨HB.out, .inl ⟨l, _, HOK.out, rfl, HBI.out⟩⟩
  · have HB := hid hb2
    have HNO := hid hno
    have HLS := hid hls
    clear hb2 hno hls
    go_wp2
    refine bodyPost_ret (results_tmp2 Tryz.results52 _ _ _) rfl ?_
    exact ⟨HB.out, .inr (.inl ⟨HNO.out, HLS.out, rfl⟩)⟩
  · have HB := hid hb2
    have HNO := hid hno
    clear hb2 hno
    go_wp2
    refine bodyPost_ret (results_tmp2 Tryz.results52 _ _ _) rfl ?_
    exact ⟨HB.out, .inr (.inr ⟨HNO.out, rfl⟩)⟩
end Go.Proofs.YtijeogdnjeamaaaGreatDoor
namespace Go.Proofs.YtijeogdnjeamaaaGreatDoor
open Go.RowKit
set_option linter.unusedVariables false
set_option linter.unusedSimpArgs false
set_option maxRecDepth 20000 in
theorem text_any {w : World} (s : Str) (hs : s ≠ []) (hl : s.length ≤ 990) : Calls Tryz.prog 33 #[.string ⟨s.toArray⟩] w (PostLi (tx s) w) := by
  obtain ⟨X, HX⟩ : ∃ X : ByteArray, Hid (⟨s.toArray⟩ = X) := ⟨_, hid rfl⟩
  obtain ⟨Y, HY⟩ : ∃ X : ByteArray, Hid (⟨(tx s).toArray⟩ = X) := ⟨_, hid rfl⟩
  have htx : tx s = s ++ [10] := by rw [tx, if_neg hs]
  have hcat : X ++ ⟨#[10]⟩ = Y := by rw [← HX.out, ← HY.out, htx]; exact str_app s [10]
  obtain ⟨q, HQ⟩ : ∃ q, Hid (s.length = q) := ⟨_, rfl⟩
  have hq990 : q ≤ 990 := by rw [← HQ.out]; exact hl
  have hxz : X.size = q := by rw [← HX.out, txt_len]; exact HQ.out
  have h10 : (⟨#[10]⟩ : ByteArray).size = 1 := rfl
  obtain ⟨c2, w2, hr2, hp2, hb2⟩ := conv_bytes (tx s) w
  rw [HY.out] at hr2
  obtain ⟨K, HK2⟩ : ∃ K, Hid ((tx s).length = K) := ⟨_, rfl⟩
  rw [HK2.out] at hr2
  obtain ⟨G, HG⟩ : ∃ n, Hid (w.heap.size = n) := ⟨_, rfl⟩
  have CL : Hid (Calls Tryz.prog 60 #[.slice (some ⟨G, 0, none⟩) K c2] w2 (PostLi (tx s) w2)) := hid (by
    rw [← HK2.out]
    exact line_any _ c2 (tx s) (by rw [← HG.out]; exact hp2) (by rw [htx, List.length_append]; simp; omega))
  rw [HG.out] at hr2
  have HB2 := hid hb2
  rw [HX.out]
  unfold PostLi
  clear hp2 hb2 hs htx hl
  go_enter Tryz.func33, Tryz.ntmps33
  go_wp2_with fail
  refine CL.out.mono ?_
  rintro e w3 ⟨hb3, g, c, rfl, hg, hp⟩
  have H1 : Hid (Below w.heap.size w w3) := hid (HB2.out.trans (hb3.mono HB2.out.size))
  have H2 : Hid (w.heap.size ≤ g) := hid (Nat.le_trans HB2.out.size hg)
  have H3 := hid hp
  clear hb3 hg hp
  go_wp2
  go_ret
  exact ⟨H1.out, g, c, rfl, H2.out, H3.out⟩
end Go.Proofs.YtijeogdnjeamaaaGreatDoor
