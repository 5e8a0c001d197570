/- 'inOrder', walked. -/
import Derived.Test.YtjgjeedablgmeaaDoorGrT
namespace Go.Proofs.YtjgjeedablgmeaaDoor
open Go.RowKit
set_option linter.unusedVariables false
set_option linter.unusedSimpArgs false
theorem ta53 (cs : Array Value) (w : World) : (Instr.typeAssert (.iface 53 (.agg cs)) 20 53 false).run Tryd.prog w = .ok (.agg cs) w := by kernel_rfl
/-- A block laid for a variable of this type, and written. -/
theorem laid {w w3 : World} {zr : Array Value} {R : List Value} {t H : Nat} (e : (w.alloc (.cells zr t)).setRow w.heap.size R.toArray = w3) (hH : w.heap.size = H) : Below w.heap.size w w3 ∧ w3.heap[H]? = some (.cells R.toArray t (0, 0)) := by
  subst hH
  rw [← e]
  exact ⟨below_setRow ((Below.refl _ w).alloc (Nat.le_refl _) _) (Nat.le_refl _) _, setRow_heap _ _ _ R.toArray _ _ (heap_alloc_new w _)⟩
set_option maxRecDepth 20000 in
set_option maxHeartbeats 4000000 in
theorem inOrder_any {w : World} {hb m : Nat} {a : Option Addr} {cap : Nat} {l : List Nd} (h : Hi w hb m a cap l) {g ng : Nat} {S : List Int → Prop} (hS : SI w g ng S) (hSl : ∀ y, S y → y ∈ ids l) : Calls Tryd.prog 27 #[.pointer (some ⟨hb, 0, none⟩), .map (some g)] w (PostIo l S w) := by
  obtain ⟨G, HG⟩ : ∃ G, Hid (w.heap.size = G) := ⟨_, rfl⟩
  have HHI : Hid (∀ W, Below G w W → Hi W hb m a cap l) := fun W hW => h.below (by rw [HG.out]; exact hW)
  have HSB : Hid (∀ W, Below G w W → SI W g ng S) := fun W hW => hS.below (by rw [HG.out]; exact hW)
  have HSL : Hid (∀ y, S y → y ∈ ids l) := hSl
  have HL40 : Hid (l.length ≤ 40) := h.few
  have HPS : Hid (∀ x ∈ l, x.ps.length ≤ 40) := h.fps
  have HONE : Hid ((ids l).Nodup) := h.one
  obtain ⟨zr, HZ⟩ : ∃ zr : Array Value, Hid (zr = (ndV nd0).toArray) := ⟨_, rfl⟩
  have hz53 : ∀ w : World, (zeroValue 53).run Tryd.prog w = .ok (.agg zr) w := fun w => by rw [HZ.out]; exact zero53 w
  have HZS : Hid (zr.size = 22) := hid (by rw [HZ.out]; rfl)
  obtain ⟨zi, HZI⟩ : ∃ zr : Array Value, Hid (zr = (row .u8 z20).toArray) := ⟨_, rfl⟩
  have hz42 : ∀ w : World, (zeroValue 42).run Tryd.prog w = .ok (.agg zi) w := fun w => by rw [HZI.out]; exact zero42 w
  have HZIS : Hid (zi.size = 20) := hid (by rw [HZI.out]; rfl)
  have C45 : Hid (Calls Tryd.prog 45 #[.pointer (some ⟨hb, 0, none⟩), .map (some g)] w (PostAm l S w)) := among_any h hS
  clear h hS hSl
  go_enter Tryd.func27, Tryd.ntmps27
  go_wp2_with fail
  refine C45.out.mono ?_
  rintro ev w1 ⟨fS, vn, hfS, rfl, hbx⟩
  obtain ⟨L, HLL⟩ : ∃ L, Hid (l.filter fS = L) := ⟨_, rfl⟩
  rw [HLL.out] at hbx
  have HFS : Hid (∀ x, fS x = true ↔ S x.id) := hfS
  have HLS : Hid (∀ x ∈ L, x ∈ l) := fun x hx => by rw [← HLL.out] at hx; exact (List.mem_filter.1 hx).1
  have HL4 : Hid (L.length ≤ 40) := hid (by rw [← HLL.out]; exact Nat.le_trans (List.length_filter_le _ _) HL40.out)
  have HLO : Hid ((ids L).Nodup) := hid (by rw [← HLL.out]; exact List.Nodup.sublist (List.Sublist.map _ List.filter_sublist) HONE.out)
  have HLI : Hid (∀ y, y ∈ ids L ↔ S y) := fun y => by
    rw [← HLL.out]
    constructor
    · intro hy
      obtain ⟨x, hx, e⟩ := List.mem_map.1 hy
      rw [← e]; exact (HFS.out x).1 (List.mem_filter.1 hx).2
    · intro hy
      obtain ⟨x, hx, e⟩ := List.mem_map.1 (HSL.out y hy)
      exact List.mem_map.2 ⟨x, List.mem_filter.2 ⟨hx, (HFS.out x).2 (by rw [show x.id = y from e]; exact hy)⟩, e⟩
  rw [HG.out] at hbx
  have HB1 : Hid (Below G w w1) := hbx.below
  obtain ⟨an, cn, hvn, hpn, _⟩ := hbx.px (d := nd0) (fun x hx => ndV_len x ((HHI.out _ HB1.out).wf x (HLS.out x hx)).id.1)
  subst hvn
  obtain ⟨n, HN⟩ : ∃ n, Hid (L.length = n) := ⟨_, rfl⟩
  have hn40 : n ≤ 40 := by rw [← HN.out]; exact HL4.out
  have hG1 : G ≤ w1.heap.size := by have := hbx.le; omega
  have C46 : Hid (Calls Tryd.prog 46 #[.slice an n cn] w1 (PostCh L w1)) := hid (by
    have := children_any an cn L hpn (fun x hx => (HHI.out _ HB1.out).wf x (HLS.out x hx)) HL4.out (fun x hx => HPS.out x (HLS.out x hx))
    rw [HN.out] at this
    exact this)
  have HPN1 : Hid (Pn w1 an cn L) := hpn
  rw [HN.out]
  clear hbx hpn hfS
  go_wp2_with fail
  refine C46.out.mono ?_
  rintro ev w2 ⟨hb2, gw, q0, f0, s0, rfl, hgw, hq0, hmi, hcn⟩
  have HB2 : Hid (Below G w w2) := hid (HB1.out.trans (hb2.mono hG1))
  have HPN2 : Hid (Pn w2 an cn L) := hid (HPN1.out.below hb2)
  have HMI2 : Hid (MI w2 gw q0 f0 s0) := hmi
  have HCN : Hid (Cn f0 (cnt L)) := hcn
  have hgwG : G ≤ gw := by omega
  have hgw2 : gw < w2.heap.size := hmi.lt
  have hbs := run_build100n w2
  obtain ⟨K0, HK0⟩ : ∃ K, Hid (w2.heap.size = K) := ⟨_, rfl⟩
  obtain ⟨w3, HW3⟩ : ∃ u, Hid (w2.alloc (.cells #[] 53) = u) := ⟨_, rfl⟩
  have hb3 : Below w2.heap.size w2 w3 := by rw [← HW3.out]; exact (Below.refl _ w2).alloc (Nat.le_refl _) _
  have hs3 : w3.heap.size = K0 + 1 := by rw [← HW3.out, ← HK0.out]; simp
  obtain ⟨w4, HW4⟩ : ∃ u, Hid (w3.alloc (.cells #[.slice (some ⟨K0, 0, none⟩) 0 0] 100) = u) := ⟨_, rfl⟩
  have hb4 : Below w3.heap.size w3 w4 := by rw [← HW4.out]; exact (Below.refl _ w3).alloc (Nat.le_refl _) _
  obtain ⟨Qb, HQb⟩ : ∃ q, Hid (w3.heap.size = q) := ⟨_, rfl⟩
  have hgwK : gw < K0 := by rw [← HK0.out]; exact hgw2
  have hQbK : Qb = K0 + 1 := by rw [← HQb.out]; exact hs3
  have HQbK : Hid (Qb = K0 + 1) := hQbK
  have HBQ4 : Hid (w4.heap[Qb]? = some (.cells #[.slice (some ⟨K0, 0, none⟩) 0 0] 100 (0, 0))) := hid (by rw [← HW4.out, ← HQb.out]; exact heap_alloc_new w3 _)
  have hs4 : w4.heap.size = Qb + 1 := by rw [← HW4.out, ← HQb.out]; simp
  have HBK4 : Hid (w4.heap[K0]? = some (.cells #[] 53 (0, 0))) := hid (by
    refine (hb4.block K0 (by rw [hs3]; omega)).trans ?_
    rw [← HW3.out, ← HK0.out]; exact heap_alloc_new w2 _)
  have HST4 : Hid (St G Qb K0 (Qb + 1) gw w w4 q0 f0 (.slice (some ⟨K0, 0, none⟩) 0 0) (.slice none 0 0) [] []) := hid
    ⟨HB2.out.trans ((hb3.mono (by omega)).trans (hb4.mono (by omega))), ⟨s0, (HMI2.out.below hb3).below hb4⟩,
      ⟨HBQ4.out, ⟨Below.refl _ _, ⟨by simp, .inr ⟨K0, 0, #[], rfl, Nat.le_refl _, HBK4.out, Nat.le_refl _, by unfold maxLen; omega, by simp, by simp⟩⟩, by omega⟩, by simp [Value.ownBlock]; omega, fun x hx => by (cases hx)⟩,
      bx_nil 42 _ _ (by omega), ⟨hgwG, hgwK, by omega, by omega⟩, fun k _ hk => by simp at hk⟩
  have HBQ : Hid (Below K0 w4 w4) := hid (Below.refl _ _)
  have HPN4 : Hid (∀ W, Below K0 w4 W → Pn W an cn L) := fun W hW => by
    have h4 := (HPN2.out.below hb3).below hb4
    refine ⟨h4.capl, fun h0 => ?_, h4.nil⟩
    obtain ⟨b, off, e1, e2, _⟩ := HPN2.out.at_ h0
    obtain ⟨b', off', e1', _, e3⟩ := h4.at_ h0
    rw [e1] at e1'
    cases e1'
    have hbQ : b < K0 := by rw [HK0.out] at e2; exact e2
    exact ⟨b, off, e1, Nat.lt_of_lt_of_le (by omega) hW.size, fun i hi j v hv => (hW.cell (p := ⟨b, off + i * 22 + j, none⟩) hbQ).trans (e3 i hi j v hv)⟩
  have HPL : Hid (0 < n → ∃ b off, an = some ⟨b, off, none⟩) := fun h0 => by
    obtain ⟨b, off, e1, _⟩ := HPN2.out.at_ (by rw [HN.out]; exact h0)
    exact ⟨b, off, e1⟩
  clear hb2 hmi hcn hb3 hb4 hs3 hs4 hQbK hgw
  go_wp2_with fail
  rw [HK0.out, HW3.out, ← HQbK.out, HW4.out]
  go_loopg [23] n (fun gg iv wr => ∃ (i : Nat) (v : Value) (Q : List Nd), i ≤ n ∧ gg = n - i ∧ iv = .int .i64 i ∧ Hid (Q.Perm ((L.take i).filter (fun x => cnt L x.id == 0))) ∧ Hid (St G Qb K0 (Qb + 1) gw w wr q0 f0 v (.slice none 0 0) Q []) ∧ Hid (Below K0 w4 wr))
  case atStart => exact ⟨0, _, [], Nat.zero_le _, rfl, rfl, hid (by simp), HST4, HBQ⟩
  case round =>
    obtain ⟨i, v, Q, hi, hk, rfl, HPM, HST, HBq⟩ := hrel
    by_cases hlt : i < n
    · have hlti : (i : Int) < (n : Int) := by omega
      obtain ⟨b, off, hae⟩ := HPL.out (by omega)
      subst hae
      obtain ⟨x, HX⟩ : ∃ x, Hid (L.getD i nd0 = x) := ⟨_, rfl⟩
      have hxm : x ∈ L := by rw [← HX.out]; exact getD_mem L i _ (by rw [HN.out]; exact hlt)
      have HXW : Hid (IdW x.id) := hid ((HHI.out _ HST.out.below).wf x (HLS.out x hxm)).id
      obtain ⟨R, HR⟩ : ∃ R : List Value, Hid (ndV x = R) := ⟨_, rfl⟩
      obtain ⟨RI, HRI⟩ : ∃ R : List Value, Hid (row .u8 x.id = R) := ⟨_, rfl⟩
      have HRL : Hid (R.length = 22) := hid (by rw [← HR.out]; exact ndV_len x HXW.out.1)
      have hiR : (Tryd.prog.info? 53).map (·.size) = some R.length := by rw [HRL.out]; exact Tryd.size53
      have hiI : (Tryd.prog.info? 42).map (·.size) = some RI.length := by rw [← HRI.out, row_len, HXW.out.1]; exact Tryd.size42
      have RR : Hid (wr.rangeAt b (off + i * 22) R) := hid (by
        obtain ⟨b', off', e1, _, e3⟩ := (HPN4.out wr HBq.out).at_ (by rw [HN.out]; omega)
        cases e1
        have := e3 i (by rw [HN.out]; exact hlt)
        rw [HX.out, HR.out] at this
        exact this)
      have I53 : Hid ((Tryd.prog.info? 53).map (·.size) = some R.toArray.size) := hid (by rw [List.size_toArray]; exact hiR)
      have E53 : Hid (zr.size = R.toArray.size) := hid (by rw [HZS.out, List.size_toArray, HRL.out])
      have O53 : Hid (R.toArray.all (·.oneCell') = true) := hid (by rw [← HR.out]; exact all_oneCell_toArray (ndV_one x))
      have D0 : Hid ((wr.alloc (.cells zr 53)).heap[wr.heap.size]? = some (.cells zr 53 (0, 0))) := heap_alloc_new wr _
      obtain ⟨w5, HW5⟩ : ∃ w3, Hid ((wr.alloc (.cells zr 53)).setRow wr.heap.size R.toArray = w3) := ⟨_, rfl⟩
      obtain ⟨H, HH⟩ : ∃ H, Hid (wr.heap.size = H) := ⟨_, rfl⟩
      obtain ⟨hb5, hx5⟩ := laid HW5.out HH.out
      have HST5 : Hid (St G Qb K0 (Qb + 1) gw w w5 q0 f0 v (.slice none 0 0) Q []) := hid (HST.out.bel hb5)
      have hQw : Qb < wr.heap.size := lt_of_some HST.out.qu.box
      have HBq5 : Hid (Below K0 w4 w5) := hid (HBq.out.trans (hb5.mono (by have := HQbK.out; omega)))
      have RI5 : Hid (w5.rangeAt H 0 RI) := hid (by rw [← HRI.out]; exact nd_id (by rw [HR.out]; exact range_row hx5))
      have RR5 : Hid (w5.rangeAt H 0 R) := hid (range_row hx5)
      obtain ⟨c, HC⟩ : ∃ c, Hid (cnt L x.id = c) := ⟨_, rfl⟩
      have HLK : Hid ((Instr.lookup 75 (.map (some gw)) (.agg RI.toArray) false).run Tryd.prog w5 = .ok (.int .i64 c) w5) := hid (by
        obtain ⟨s, hm⟩ := HST5.out.mi
        have := (hm.get HXW.out).1
        unfold idV at this
        rw [HCN.out x.id, HRI.out, HC.out] at this
        exact this)
      have HTK : Hid ((L.take (i + 1)).filter (fun x => cnt L x.id == 0) = (L.take i).filter (fun x => cnt L x.id == 0) ++ [x].filter (fun x => cnt L x.id == 0)) := hid (by
        rw [take_snocG nd0 L i (by rw [HN.out]; exact hlt), HX.out, List.filter_append])
      clear hb5 hx5 hxm
      by_cases hc0 : c = 0
      · have HTK2 : Hid ((L.take (i + 1)).filter (fun x => cnt L x.id == 0) = (L.take i).filter (fun x => cnt L x.id == 0) ++ [x]) := hid (by rw [HTK.out, List.filter_cons, HC.out, hc0]; rfl)
        subst hc0
        have hql : Q.length ≤ 2000 := by
          have h1 := HPM.out.length_eq
          have h2 := List.length_filter_le (fun x => cnt L x.id == 0) (L.take i)
          rw [List.length_take] at h2
          omega
        have C47 : Hid (Calls Tryd.prog 47 #[.iface 99 (.pointer (some ⟨Qb, 0, none⟩)), .iface 53 (.agg R.toArray)] w5 fun e w' => e = .returned (.tuple #[]) ∧ ∃ v' l', l'.Perm (x :: Q) ∧ Hp l' l'.length ∧ Qu w' Qb K0 v' l' ∧ Fr2 Qb v.ownBlock w5 w' ∧ (v'.ownBlock = v.ownBlock ∨ ∃ k, v'.ownBlock = some k ∧ w5.heap.size ≤ k)) := hid (by
          have := hpush_any HST5.out.qu hql x HXW.out.1 HST5.out.hp
          rw [HR.out] at this
          exact this)
        go_wp2_with (first
          | refine wpList_load_mid rfl 53 _ rfl b (off + i * 22) rfl R _ RR.out Tryd.underlying53 rfl hiR ?_
          | (refine wpList_store_row rfl 53 _ _ rfl wr.heap.size R.toArray rfl rfl 53 zr D0.out I53.out E53.out O53.out ?_; rw [HW5.out, HH.out])
          | refine wpList_load_mid rfl 42 _ rfl H 0 rfl RI _ RI5.out Tryd.underlying42 rfl hiI ?_
          | refine wpList_run rfl _ (exec_lookup rfl rfl rfl HLK.out) ?_
          | refine wpList_load_mid rfl 53 _ rfl H 0 rfl R _ RR5.out Tryd.underlying53 rfl hiR ?_
          | fail)
        refine C47.out.mono ?_
        rintro ev w6 ⟨rfl, v', Q', hp6, hh6, hq6, hf6, _⟩
        have HST6 : Hid (St G Qb K0 (Qb + 1) gw w w6 q0 f0 v' (.slice none 0 0) Q' []) := hid (HST5.out.fr2 hf6 hq6 hh6)
        have HBq6 : Hid (Below K0 w4 w6) := hid (by
          have hlt5 : Qb < w5.heap.size := lt_of_some HST5.out.qu.box
          have h2 := HQbK.out
          exact HBq5.out.trans ⟨hf6.os, hf6.tape, hf6.output, hf6.size, fun k hk => hf6.block k (by omega) (by omega) (fun e => by
            have h1 := (own_lt HST5.out.qu.own.own k e.symm).1
            omega)⟩)
        have HPM6 : Hid (Q'.Perm ((L.take (i + 1)).filter (fun x => cnt L x.id == 0))) := hid (by
          rw [HTK2.out]
          exact (hp6.trans (List.Perm.cons x HPM.out)).trans (List.perm_append_comm (l₁ := [x])))
        clear hp6 hq6 hf6 hh6
        go_wp2
        go_roundg (n - (i + 1))
        case measure => omega
        case rel => exact ⟨i + 1, v', Q', by omega, rfl, by go_num, HPM6, HST6, HBq6⟩
      · have HTK2 : Hid ((L.take (i + 1)).filter (fun x => cnt L x.id == 0) = (L.take i).filter (fun x => cnt L x.id == 0)) := hid (by
          have : (c == 0) = false := by rw [beq_eq_false_iff_ne]; exact hc0
          rw [HTK.out, List.filter_cons, HC.out, this]; simp)
        have hci : ¬ (c : Int) = 0 := by omega
        have hcb : ((c : Int) == 0) = false := by rw [beq_eq_false_iff_ne]; exact hci
        go_wp2_with (first
          | refine wpList_load_mid rfl 53 _ rfl b (off + i * 22) rfl R _ RR.out Tryd.underlying53 rfl hiR ?_
          | (refine wpList_store_row rfl 53 _ _ rfl wr.heap.size R.toArray rfl rfl 53 zr D0.out I53.out E53.out O53.out ?_; rw [HW5.out, HH.out])
          | refine wpList_load_mid rfl 42 _ rfl H 0 rfl RI _ RI5.out Tryd.underlying42 rfl hiI ?_
          | refine wpList_run rfl _ (exec_lookup rfl rfl rfl HLK.out) ?_
          | fail)
        go_roundg (n - (i + 1))
        case measure => omega
        case rel => exact ⟨i + 1, v, Q, by omega, rfl, by go_num, hid (by rw [HTK2.out]; exact HPM.out), HST5, HBq5⟩
    · have hlti : ¬ (i : Int) < (n : Int) := by omega
      have HPMZ : Hid (Q.Perm (L.filter (fun x => cnt L x.id == 0))) := hid (by
        have := HPM.out
        rw [List.take_of_length_le (by rw [HN.out]; omega)] at this
        exact this)
      have HKS0 : Hid (KS L [] L Q) := hid (ks_start L Q (fun x => by rw [HPMZ.out.mem_iff, List.mem_filter]; simp) ((ids_perm HPMZ.out).nodup_iff.2 (List.Nodup.sublist (List.Sublist.map _ List.filter_sublist) HLO.out)))
      have HLn : Hid (L.length = n) := HN
      have HST0 : Hid (St G Qb K0 (Qb + 1) gw w wr q0 f0 v (.slice none 0 0) Q (ids [])) := HST
      clear HPM HBq hk
      go_wp2_with fail
      clear hi hlti hlt
      go_loopg [10] n (fun gg vo wr => ∃ (D R Q : List Nd) (v vo' : Value) (q : Nat) (f : List Int → Option Int), vo' = vo ∧ gg = R.length ∧ q ≤ 1700 + 40 * D.length ∧ Hid (St G Qb K0 (Qb + 1) gw w wr q f v vo' Q (ids D)) ∧ Hid (KS L D R Q) ∧ Hid (Cn f (cnt R)) ∧ Hid (Bst L D))
      case atStart => exact ⟨[], L, Q, v, _, q0, f0, rfl, HLn.out.symm, by omega, HST0, HKS0, HCN, hid (bst_nil L)⟩
      case round =>
        clear HST HST0 HKS0 HPMZ
        obtain ⟨D, R, Q, v, vo, q, f, hvo, hgg, hq, HST, HKS, HCf, HBS⟩ := hrel
        subst hvo
        obtain ⟨nq, HNQ⟩ : ∃ k, Hid (Q.length = k) := ⟨_, rfl⟩
        have hDR : D.length + R.length ≤ n := by have := HKS.out.len; have := HLn.out; omega
        have hnqR : nq ≤ R.length := by
          have := nodup_sub (ids Q) (ids R) HKS.out.qone (fun y hy => by
            obtain ⟨x, hx, e⟩ := List.mem_map.1 hy
            rw [← e]; exact mem_ids (HKS.out.qin x hx))
          unfold ids at this
          rw [List.length_map, List.length_map, HNQ.out] at this
          exact this
        obtain ⟨va, vc, hve⟩ : ∃ va vc, v = .slice va nq vc := by
          have := HST.out.qu.own.own
          rw [HNQ.out] at this
          exact owns_shape this
        subst hve
        have hc := HST.out.qu.cell
        have C48 : Hid (Calls Tryd.prog 48 #[.slice va nq vc] wr fun e w' => e = .returned (.int .i64 nq) ∧ w' = wr) := hid (by
          go_enter Tryd.func48, Tryd.ntmps48
          go_wp2
          go_ret
          exact ⟨rfl, rfl⟩)
        go_wp2_with fail
        refine C48.out.mono ?_
        rintro ev w5 ⟨rfl, rfl⟩
        by_cases h0 : 0 < nq
        · have h0i : (0 : Int) < (nq : Int) := by omega
          obtain ⟨gq, hvg⟩ : ∃ gq, va = some ⟨gq, 0, none⟩ := by
            obtain ⟨_, ⟨_, h1⟩ | ⟨gq, cp, cur, h1, _⟩⟩ := HST.out.qu.own.own
            · rw [HNQ.out] at h1; omega
            · injection h1 with h2; exact ⟨gq, h2⟩
          subst hvg
          have C49 : Hid (Calls Tryd.prog 49 #[.iface 99 (.pointer (some ⟨Qb, 0, none⟩))] w5 fun e w' => ∃ (x : Nd) (l' : List Nd), Q.Perm (x :: l') ∧ (∀ y ∈ Q, ¬ Ah y x) ∧ Hp l' l'.length ∧ e = .returned (.iface 53 (.agg (ndV x).toArray)) ∧ Qu w' Qb K0 (.slice (some ⟨gq, 0, none⟩) (nq - 1) vc) l' ∧ Fr2 Qb (some gq) w5 w') := hid (hpop_any HST.out.qu HNQ.out (by omega) h0 HST.out.hp)
          go_wp2_with fail
          refine C49.out.mono ?_
          rintro ev w6 ⟨x, Q1, hpm, hbe, hh6, rfl, hq6, hf6⟩
          have HST6 : Hid (St G Qb K0 (Qb + 1) gw w w6 q f (.slice (some ⟨gq, 0, none⟩) (nq - 1) vc) vo Q1 (ids D)) := hid (HST.out.fr2 hf6 hq6 hh6)
          have HBX : Hid (Bst L (D ++ [x])) := hid (Bst.pop HLO.out HKS.out HBS.out hbe)
          obtain ⟨R1, hR1, hki⟩ := HKS.out.pop HLO.out hpm
          have hRl : R1.length + 1 ≤ R.length := by rw [hR1.length_eq]; exact Nat.le_refl _
          have HKI0 : Hid (KI L D R1 x 0 Q1) := hki
          have HC0 : Hid (Cn f (fun p => cnt R1 p + (x.ps.drop 0).count p)) := fun p => by
            have := HCf.out p
            rw [cnt_perm hR1, cnt_cons] at this
            show (f p).getD 0 = ((cnt R1 p + (x.ps.drop 0).count p : Nat) : Int)
            rw [List.drop_zero]
            omega
          have hxL : x ∈ L := hki.perm.mem_iff.2 (by simp)
          have hxl := HLS.out x hxL
          have hnw := (HHI.out _ HST6.out.below).wf x hxl
          have HXW : Hid (IdW x.id) := hnw.id
          have HPI : Hid (∀ p ∈ x.ps, IdW p) := hnw.ps
          obtain ⟨k, HK⟩ : ∃ k, Hid (x.ps.length = k) := ⟨_, rfl⟩
          obtain ⟨pa, HPa⟩ : ∃ k, Hid (x.pa = k) := ⟨_, rfl⟩
          obtain ⟨pc, HPc⟩ : ∃ k, Hid (x.pc = k) := ⟨_, rfl⟩
          have hk40 : k ≤ 40 := by rw [← HK.out]; exact HPS.out x hxl
          have HPM2 : Hid (∀ W, Below G w W → Pa W pa pc x.ps) := fun W hW => by have := ((HHI.out W hW).wf x hxl).mem; rw [HPa.out, HPc.out] at this; exact this
          have HPLP : Hid (0 < k → ∃ b off, pa = some ⟨b, off, none⟩) := fun h0 => by
            have := hnw.mem
            rw [HPa.out, HPc.out] at this
            obtain ⟨b, off, e1, e2, _⟩ := this.at_ (by rw [HK.out]; exact h0)
            exact ⟨b, off, e1⟩
          obtain ⟨Rx, HR⟩ : ∃ R : List Value, Hid (ndV x = R) := ⟨_, rfl⟩
          obtain ⟨RI, HRI⟩ : ∃ R : List Value, Hid (row .u8 x.id = R) := ⟨_, rfl⟩
          have HRL : Hid (Rx.length = 22) := hid (by rw [← HR.out]; exact ndV_len x HXW.out.1)
          have hiR : (Tryd.prog.info? 53).map (·.size) = some Rx.length := by rw [HRL.out]; exact Tryd.size53
          have hiI : (Tryd.prog.info? 42).map (·.size) = some RI.length := by rw [← HRI.out, row_len, HXW.out.1]; exact Tryd.size42
          have I53 : Hid ((Tryd.prog.info? 53).map (·.size) = some Rx.toArray.size) := hid (by rw [List.size_toArray]; exact hiR)
          have E53 : Hid (zr.size = Rx.toArray.size) := hid (by rw [HZS.out, List.size_toArray, HRL.out])
          have O53 : Hid (Rx.toArray.all (·.oneCell') = true) := hid (by rw [← HR.out]; exact all_oneCell_toArray (ndV_one x))
          have D0 : Hid ((w6.alloc (.cells zr 53)).heap[w6.heap.size]? = some (.cells zr 53 (0, 0))) := heap_alloc_new w6 _
          obtain ⟨w7, HW7⟩ : ∃ w3, Hid ((w6.alloc (.cells zr 53)).setRow w6.heap.size Rx.toArray = w3) := ⟨_, rfl⟩
          obtain ⟨H, HH⟩ : ∃ H, Hid (w6.heap.size = H) := ⟨_, rfl⟩
          obtain ⟨hb7, hx7⟩ := laid HW7.out HH.out
          have HST7 : Hid (St G Qb K0 (Qb + 1) gw w w7 q f (.slice (some ⟨gq, 0, none⟩) (nq - 1) vc) vo Q1 (ids D)) := hid (HST6.out.bel hb7)
          have RI7 : Hid (w7.rangeAt H 0 RI) := hid (by rw [← HRI.out]; exact nd_id (by rw [HR.out]; exact range_row hx7))
          obtain ⟨K7, HK7⟩ : ∃ K, Hid (w7.heap.size = K) := ⟨_, rfl⟩
          have HBLD : Hid ((Instr.buildSlice 32 1 #[(0, .agg RI.toArray)]).run Tryd.prog w7 = .ok (.slice (some ⟨K7, 0, none⟩) 1 1) (w7.alloc (.cells RI.toArray 42))) := hid (by rw [← HK7.out, ← HRI.out]; exact run_build32 x.id HXW.out.1 w7)
          have HST8 : Hid (St G Qb K0 (Qb + 1) gw w (w7.alloc (.cells RI.toArray 42)) q f (.slice (some ⟨gq, 0, none⟩) (nq - 1) vc) vo Q1 (ids D)) := hid (HST7.out.bel ((Below.refl _ w7).alloc (Nat.le_refl _) _))
          have HP8 : Hid (Pa (w7.alloc (.cells RI.toArray 42)) (some ⟨K7, 0, none⟩) 1 [x.id]) := hid (by rw [← HK7.out, ← HRI.out]; exact pa_one w7 x.id 42)
          have HSUM : Hid ((ids D).length + [x.id].length ≤ 30000) := hid (by
            unfold ids
            rw [List.length_map]
            simp only [List.length_cons, List.length_nil]
            omega)
          have HONE1 : Hid (∀ z ∈ [x.id], (row .u8 z).length = 20) := fun z hz => by
            have : z = x.id := by simpa using hz
            rw [this, row_len]; exact HXW.out.1
          have hH7 : H < w7.heap.size := lt_of_some hx7
          have HX8 : Hid ((w7.alloc (.cells RI.toArray 42)).heap[H]? = some (.cells Rx.toArray 53 (0, 0))) := hid ((heap_alloc_old _ _ hH7).trans hx7)
          have HVO : Hid (∀ k, vo.ownBlock = some k → k < H) := fun k hk => by rw [← HH.out]; exact (own_lt HST6.out.out.own k hk).2
          have hta := ta53 Rx.toArray w6
          rw [HR.out]
          clear hpm hq6 hf6 hbe hh6 hki hxL hxl hnw hb7 hx7
          go_wp2_with (first
            | (refine wpList_store_row rfl 53 _ _ rfl w6.heap.size Rx.toArray rfl rfl 53 zr D0.out I53.out E53.out O53.out ?_; rw [HW7.out, HH.out])
            | refine wpList_load_mid rfl 42 _ rfl H 0 rfl RI _ RI7.out Tryd.underlying42 rfl hiI ?_
            | refine wpList_bS rfl 32 1 _ rfl (.agg RI.toArray) _ rfl HBLD.out ?_
            | (refine wpList_bx_sl (d := []) rfl _ _ 32 42 Tryd.underlying32 Tryd.info42 rfl (by decide) (by decide) (fun z => row_one _ z) rfl (Qb + 1) vo _ rfl HST8.out.out (some ⟨K7, 0, none⟩) 1 [x.id] rfl HP8.out HONE1.out HSUM.out ?_; intro vo9 w9 hb9 hg9; have hps9 : w9.cell? ⟨H, 20, none⟩ = some (.slice pa k pc) := (by
                have hx9 : w9.heap[H]? = some (.cells Rx.toArray 53 (0, 0)) := (hg9.block H (lt_of_some HX8.out) (fun e => by have := HVO.out H e.symm; omega)).trans HX8.out
                have := nd_ps (x := x) (b := H) (o := 0) (W := w9) (by rw [HR.out]; exact range_row hx9) HXW.out.1
                rw [HPa.out, HK.out, HPc.out, Nat.zero_add] at this
                exact this))
            | fail)
          have HIDS : Hid (ids D ++ [x.id] = ids (D ++ [x])) := hid (by simp [ids])
          have HST9 : Hid (St G Qb K0 (Qb + 1) gw w w9 q f (.slice (some ⟨gq, 0, none⟩) (nq - 1) vc) vo9 Q1 (ids (D ++ [x]))) := hid (by rw [← HIDS.out]; exact HST8.out.app hg9 hb9)
          obtain ⟨vq, HVQ⟩ : ∃ v, Hid (Value.slice (some ⟨gq, 0, none⟩) (nq - 1) vc = v) := ⟨_, rfl⟩
          rw [HVQ.out] at HST9
          clear hb9 hg9
          go_loopg [55] k (fun gg jv wr => ∃ (j : Nat) (Q : List Nd) (v : Value) (q : Nat) (f : List Int → Option Int), j ≤ k ∧ gg = k - j ∧ jv = .int .i64 j ∧ q ≤ 1700 + 40 * D.length + j ∧ Hid (St G Qb K0 (Qb + 1) gw w wr q f v vo9 Q (ids (D ++ [x]))) ∧ Hid (KI L D R1 x j Q) ∧ Hid (Cn f (fun p => cnt R1 p + (x.ps.drop j).count p)))
          case atStart => exact ⟨0, Q1, vq, q, f, Nat.zero_le _, rfl, rfl, by omega, HST9, HKI0, HC0⟩
          case round =>
            clear HST6 HST7 HST8 HST9 hps9 HKI0 HC0 HX8 RI7 HBLD HP8 HKS HCf hq hc C48 C49
            obtain ⟨j, Q, v, q, f, hj, hkk, rfl, hq, HST, HKI, HCf⟩ := hrel
            by_cases hlt2 : j < k
            · have hltj : (j : Int) < (k : Int) := by omega
              obtain ⟨pb, po, hpe⟩ := HPLP.out (by omega)
              subst hpe
              obtain ⟨y, HY⟩ : ∃ y, Hid (x.ps.getD j [] = y) := ⟨_, rfl⟩
              have hym : y ∈ x.ps := by rw [← HY.out]; exact getD_mem _ j _ (by rw [HK.out]; exact hlt2)
              have HYJ : Hid (x.ps[j]? = some y) := hid (by rw [← HY.out, List.getD_eq_getElem?_getD, List.getElem?_eq_getElem (by rw [HK.out]; exact hlt2)]; rfl)
              have HYW : Hid (IdW y) := HPI.out y hym
              obtain ⟨RF, HRF⟩ : ∃ R : List Value, Hid (row .u8 y = R) := ⟨_, rfl⟩
              have RP : Hid (wr.rangeAt pb (po + j * 20) RF) := hid (by
                obtain ⟨b', off', e1, _, e3⟩ := (HPM2.out wr HST.out.below).at_ (by rw [HK.out]; omega)
                cases e1
                have := e3 j (by rw [HK.out]; exact hlt2)
                rw [HY.out, HRF.out] at this
                exact this)
              have HFN : Hid (RF.length = 20) := hid (by rw [← HRF.out, row_len]; exact HYW.out.1)
              have hi42 : (Tryd.prog.info? 42).map (·.size) = some RF.length := by rw [HFN.out]; exact Tryd.size42
              have I42 : Hid ((Tryd.prog.info? 42).map (·.size) = some RF.toArray.size) := hid (by rw [List.size_toArray]; exact hi42)
              have E42 : Hid (zi.size = RF.toArray.size) := hid (by rw [HZIS.out, List.size_toArray, HFN.out])
              have O42 : Hid (RF.toArray.all (·.oneCell') = true) := hid (by rw [← HRF.out]; exact all_oneCell_toArray (row_one _ _))
              have D1 : Hid ((wr.alloc (.cells zi 42)).heap[wr.heap.size]? = some (.cells zi 42 (0, 0))) := heap_alloc_new wr _
              obtain ⟨w10, HW10⟩ : ∃ w3, Hid ((wr.alloc (.cells zi 42)).setRow wr.heap.size RF.toArray = w3) := ⟨_, rfl⟩
              obtain ⟨H1, HH1⟩ : ∃ H, Hid (wr.heap.size = H) := ⟨_, rfl⟩
              obtain ⟨hb10, hx10⟩ := laid HW10.out HH1.out
              have HST10 : Hid (St G Qb K0 (Qb + 1) gw w w10.drew q f v vo9 Q (ids (D ++ [x]))) := hid (HST.out.bel (below_drewH hb10 1))
              have hx10d : w10.drew.heap[H1]? = some (.cells RF.toArray 42 (0, 0)) := hx10
              have hgH : gw < H1 := by rw [← HH1.out]; obtain ⟨s, hm⟩ := HST.out.mi; exact hm.lt
              obtain ⟨c1, HC1⟩ : ∃ c, Hid (cnt R1 y + (x.ps.drop (j + 1)).count y = c) := ⟨_, rfl⟩
              obtain ⟨c, HC⟩ : ∃ c : Int, Hid ((f y).getD 0 = c) := ⟨_, rfl⟩
              have hcc : c = (c1 : Int) + 1 := by
                have h1 := HCf.out y
                rw [HC.out] at h1
                simp only at h1
                rw [drop_count HYJ.out, if_pos rfl] at h1
                have := HC1.out
                omega
              have hc1b : c1 ≤ 1700 := by
                have h1 : cnt R1 y ≤ 40 * R1.length := cnt_le R1 (fun z hz => HPS.out z (HLS.out z (HKI.out.perm.mem_iff.2 (by simp [hz])))) y
                have h2 : (x.ps.drop (j + 1)).count y ≤ 40 := Nat.le_trans List.count_le_length (by rw [List.length_drop, HK.out]; omega)
                have h3 := HC1.out
                omega
              have hwrap : IntKind.i64.wrap (c - 1) = c - 1 := by rw [IntKind.wrap_i64]; omega
              obtain ⟨s, hm10⟩ := HST10.out.mi
              obtain ⟨v0, st, w11, he1, hg11, hl11, w12, he2, hm12, hg12⟩ := hm10.entry2 (by omega) HYW.out (c - 1) (WalkArith.wf_i64 (by omega))
              unfold idV at he1 hl11
              rw [HRF.out] at he1 hl11
              rw [HC.out] at hl11
              have HE1 : Hid ((Instr.mapEntry 75 (.map (some gw)) (.agg RF.toArray)).run Tryd.prog w10.drew = .ok (.tuple #[v0, goInt st]) w11) := he1
              have HE2 : Hid ((Instr.entryStore 75 (.map (some gw)) (goInt st) (.int .i64 (c - 1))).run Tryd.prog w11 = .ok () w12) := he2
              have hS0 : Hid (QM H1 gw RF c w10.drew) := hid ⟨range_row hx10d, by
                have := (hm10.get HYW.out).1
                unfold idV at this
                rw [HRF.out, HC.out] at this
                exact this⟩
              have hS1 : Hid (QM H1 gw RF c w11) := hid ⟨range_row ((hg11.block H1 (lt_of_some hx10d) (by simp; omega)).trans hx10d), hl11⟩
              have HST12 : Hid (St G Qb K0 (Qb + 1) gw w w12 (q + 1) (updF f y (c - 1)) v vo9 Q (ids (D ++ [x]))) := hid (HST10.out.ent hg12 hm12)
              have hx12 : w12.heap[H1]? = some (.cells RF.toArray 42 (0, 0)) := (hg12.block H1 (lt_of_some hx10d) (by simp; omega)).trans hx10d
              have R12 : Hid (w12.rangeAt H1 0 RF) := hid (range_row hx12)
              have HCf2 : Hid (Cn (updF f y (c - 1)) (fun p => cnt R1 p + (x.ps.drop (j + 1)).count p)) := hid (by
                have := HCf.out.dec (c' := fun p => cnt R1 p + (x.ps.drop (j + 1)).count p) (y := y) (by
                  rw [drop_count HYJ.out, if_pos rfl]; omega) (fun p hp => by
                  rw [drop_count HYJ.out, if_neg hp]; omega)
                rw [HC.out] at this
                exact this)
              have HLK : Hid ((Instr.lookup 75 (.map (some gw)) (.agg RF.toArray) false).run Tryd.prog w12 = .ok (.int .i64 c1) w12) := hid (by
                obtain ⟨s2, hm2⟩ := HST12.out.mi
                have := (hm2.get HYW.out).1
                unfold idV at this
                have hcy : (updF f y (c - 1) y).getD 0 = ((cnt R1 y + (x.ps.drop (j + 1)).count y : Nat) : Int) := HCf2.out y
                rw [hcy, HRF.out, HC1.out] at this
                exact this)
              have HH12 : Hid (H1 < w12.heap.size) := hid (lt_of_some hx12)
              have HX12 : Hid (w12.heap[H1]? = some (.cells RF.toArray 42 (0, 0))) := hx12
              have hcl : 0 ≤ c := by omega
              have hch : c ≤ 1702 := by omega
              clear hcc hb10 hx10 hx10d he1 hg11 hl11 he2 hm12 hg12 hm10 hym hx12
              go_wp2_with (first
                | refine wpList_load_mid rfl 42 _ rfl pb (po + j * 20) rfl RF _ RP.out Tryd.underlying42 rfl hi42 ?_
                | (refine wpList_store_row rfl 42 _ _ rfl wr.heap.size RF.toArray rfl rfl 42 zi D1.out I42.out E42.out O42.out ?_; rw [HW10.out, HH1.out])
                | fail)
              refine region_B (QM H1 gw RF c) (fun q => q == 6) (by kernel_rfl) ?_
              refine takeT (i := 0) (v := ?_) rfl (by kernel_rfl) (by kernel_rfl) (by kernel_rfl) (fun _ _ _ h => h) (Or.inl ⟨by rfl, ?_⟩) ?_
              rotate_left
              · rintro w' _; go_simp; rfl
              try simp only [Act.put, List.setIfInBounds_toArray, List.set_cons_zero, List.set_cons_succ]
              refine takeB (i := 1) (v := .agg RF.toArray) rfl (by kernel_rfl) (by kernel_rfl) (by kernel_rfl) (by kernel_rfl) (fun _ _ _ h => h) (yieldsIf_load_mid (by kernel_rfl) 42 _ rfl H1 0 (by rfl) RF _ (fun w' h => h.r0) Tryd.underlying42 rfl hi42) hS0.out ?_
              try simp only [Act.put, List.setIfInBounds_toArray, List.set_cons_zero, List.set_cons_succ]
              refine takeB (i := 2) (v := .int .i64 c) rfl (by kernel_rfl) (by kernel_rfl) (by kernel_rfl) (by kernel_rfl) (fun _ _ _ h => h) (Or.inl ⟨by rfl, fun w' h => exec_lookup rfl rfl rfl h.lk⟩) hS0.out ?_
              try simp only [Act.put, List.setIfInBounds_toArray, List.set_cons_zero, List.set_cons_succ]
              refine takeT (i := 3) (v := .int .i64 (c - 1)) rfl (by kernel_rfl) (by kernel_rfl) (by kernel_rfl) (fun _ _ _ h => h) (Or.inl ⟨by rfl, ?_⟩) ?_
              · rintro w' _; go_simp; try rfl
              try simp only [Act.put, List.setIfInBounds_toArray, List.set_cons_zero, List.set_cons_succ]
              refine readyB1 (i := 4) (by kernel_rfl) rfl (fun KK hKK => ?_)
              refine step_exec (by rfl) _ (exec_entry rfl rfl rfl HE1.out) ?_
              refine hKK.out _ _ (.inr fun _ => hS1.out) ?_
              clear hKK KK
              try simp only [Act.put, List.setIfInBounds_toArray, List.set_cons_zero, List.set_cons_succ]
              refine takeT (i := 5) (v := ?_) rfl (by kernel_rfl) (by kernel_rfl) (by kernel_rfl) (fun _ _ _ h => h) (Or.inl ⟨by rfl, ?_⟩) ?_
              rotate_left
              · rintro w' _; go_simp; rfl
              try simp only [Act.put, List.setIfInBounds_toArray, List.set_cons_zero, List.set_cons_succ]
              refine readyB1 (i := 6) (by kernel_rfl) rfl (fun KK hKK => ?_)
              refine step_skip (by rfl) (exec_entryStore rfl rfl rfl rfl HE2.out) ?_
              refine hKK.out _ _ (.inl rfl) ?_
              clear hKK KK
              try simp only [Act.put, List.setIfInBounds_toArray, List.set_cons_zero, List.set_cons_succ]
              refine doneB (by kernel_rfl) ?_ _
              by_cases hz : c1 = 0
              · subst hz
                have C32 : Hid (Calls Tryd.prog 32 #[.map (some g), .agg RF.toArray] w12 fun e w' => BI (S y) e ∧ Below w12.heap.size w12 w') := hid (by
                  have := has_any (HSB.out _ HST12.out.below) HYW.out
                  unfold idV at this
                  rw [HRF.out] at this
                  exact this)
                go_wp2_with (first
                  | refine wpList_load_mid rfl 42 _ rfl H1 0 rfl RF _ R12.out Tryd.underlying42 rfl hi42 ?_
                  | refine wpList_run rfl _ (exec_lookup rfl rfl rfl HLK.out) ?_
                  | (refine BigFrame.wpList_want (by rfl) (fun KK hKK => ?_); refine wp_load_mid 42 _ rfl H1 0 rfl RF _ R12.out Tryd.underlying42 rfl hi42 ?_; refine hKK _ _ ?_; clear hKK KK)
                  | fail)
                refine C32.out.mono ?_
                rintro ev w13 ⟨⟨bb, hbb, rfl⟩, hb13⟩
                have HST13 : Hid (St G Qb K0 (Qb + 1) gw w w13 (q + 1) (updF f y (c - 1)) v vo9 Q (ids (D ++ [x]))) := hid (HST12.out.bel hb13)
                have HX13 : Hid (w13.heap[H1]? = some (.cells RF.toArray 42 (0, 0))) := hid ((hb13.block H1 HH12.out).trans HX12.out)
                have R13 : Hid (w13.rangeAt H1 0 RF) := hid (range_row HX13.out)
                have HBB : Hid (bb = true ↔ S y) := hbb
                clear hb13 hbb
                cases bb with
                | false =>
                  have HKI2 : Hid (KI L D R1 x (j + 1) Q) := hid (HKI.out.pass HLO.out HYJ.out (fun hy => by
                    have := HBB.out.2 ((HLI.out y).1 hy)
                    cases this))
                  go_wp2
                  go_roundg (k - (j + 1))
                  case measure => omega
                  case rel => exact ⟨j + 1, Q, v, q + 1, _, by omega, rfl, by go_num, by omega, HST13, HKI2, HCf2⟩
                | true =>
                  have hyL := (HLI.out y).2 (HBB.out.1 rfl)
                  obtain ⟨z, hzL, hzy⟩ := List.mem_map.1 hyL
                  have HZL : Hid (z ∈ L) := hzL
                  have HZY : Hid (z.id = y) := hzy
                  obtain ⟨Rz, HRz⟩ : ∃ R : List Value, Hid (ndV z = R) := ⟨_, rfl⟩
                  have C50 : Hid (Calls Tryd.prog 50 #[.pointer (some ⟨hb, 0, none⟩), .agg RF.toArray] w13 fun e w' => e = .returned (.agg Rz.toArray) ∧ Below w13.heap.size w13 w') := hid (by
                    have := node_any (HHI.out _ HST13.out.below) (HLS.out z hzL)
                    unfold idV at this
                    rw [HZY.out, HRF.out, HRz.out] at this
                    exact this)
                  have HZ20 : Hid (z.id.length = 20) := hid (by rw [HZY.out]; exact HYW.out.1)
                  clear hyL hzL hzy
                  go_wp2_with (first
                    | refine wpList_load_mid rfl 42 _ rfl H1 0 rfl RF _ R13.out Tryd.underlying42 rfl hi42 ?_
                    | fail)
                  refine C50.out.mono ?_
                  rintro ev w14 ⟨rfl, hb14⟩
                  have HST14 : Hid (St G Qb K0 (Qb + 1) gw w w14 (q + 1) (updF f y (c - 1)) v vo9 Q (ids (D ++ [x]))) := hid (HST13.out.bel hb14)
                  have hql : Q.length ≤ 2000 := by
                    have h1 := nodup_sub (ids Q) (ids R1) HKI.out.qone (fun u hu => by
                      obtain ⟨t, ht, e⟩ := List.mem_map.1 hu
                      rw [← e]; exact mem_ids (HKI.out.qin t ht))
                    unfold ids at h1
                    rw [List.length_map, List.length_map] at h1
                    omega
                  have C47 : Hid (Calls Tryd.prog 47 #[.iface 99 (.pointer (some ⟨Qb, 0, none⟩)), .iface 53 (.agg Rz.toArray)] w14 fun e w' => e = .returned (.tuple #[]) ∧ ∃ v' l', l'.Perm (z :: Q) ∧ Hp l' l'.length ∧ Qu w' Qb K0 v' l' ∧ Fr2 Qb v.ownBlock w14 w' ∧ (v'.ownBlock = v.ownBlock ∨ ∃ k, v'.ownBlock = some k ∧ w14.heap.size ≤ k)) := hid (by
                    have := hpush_any HST14.out.qu hql z HZ20.out HST14.out.hp
                    rw [HRz.out] at this
                    exact this)
                  clear hb14
                  go_wp2_with fail
                  refine C47.out.mono ?_
                  rintro ev w15 ⟨rfl, v', Q', hp15, hh15, hq15, hf15, _⟩
                  have HST15 : Hid (St G Qb K0 (Qb + 1) gw w w15 (q + 1) (updF f y (c - 1)) v' vo9 Q' (ids (D ++ [x]))) := hid (HST14.out.fr2 hf15 hq15 hh15)
                  have HKI2 : Hid (KI L D R1 x (j + 1) Q') := hid (HKI.out.push HLO.out HYJ.out HZL.out HZY.out HC1.out hp15)
                  clear hp15 hq15 hf15 hh15
                  go_wp2
                  go_roundg (k - (j + 1))
                  case measure => omega
                  case rel => exact ⟨j + 1, Q', v', q + 1, _, by omega, rfl, by go_num, by omega, HST15, HKI2, HCf2⟩
              · have hzi : ¬ (c1 : Int) = 0 := by omega
                have hzb : ((c1 : Int) == 0) = false := by rw [beq_eq_false_iff_ne]; exact hzi
                have HKI2 : Hid (KI L D R1 x (j + 1) Q) := hid (HKI.out.pass HLO.out HYJ.out (fun _ => by rw [HC1.out]; exact hz))
                go_wp2_with (first
                  | refine wpList_load_mid rfl 42 _ rfl H1 0 rfl RF _ R12.out Tryd.underlying42 rfl hi42 ?_
                  | refine wpList_run rfl _ (exec_lookup rfl rfl rfl HLK.out) ?_
                  | fail)
                go_roundg (k - (j + 1))
                case measure => omega
                case rel => exact ⟨j + 1, Q, v, q + 1, _, by omega, rfl, by go_num, by omega, HST12, HKI2, HCf2⟩
            · have hltj : ¬ (j : Int) < (k : Int) := by omega
              have hjk : j = k := by omega
              have HKS2 : Hid (KS L (D ++ [x]) R1 Q) := hid (by
                have := HKI.out
                rw [hjk, ← HK.out] at this
                exact this.done_all)
              have HCZ : Hid (Cn f (cnt R1)) := fun p => by
                have := HCf.out p
                simp only at this
                rw [hjk, ← HK.out, List.drop_length, List.count_nil, Nat.add_zero] at this
                exact this
              have hqz : q ≤ 1700 + 40 * (D ++ [x]).length := by rw [List.length_append]; simp only [List.length_cons, List.length_nil]; omega
              clear hjk
              go_wp2
              go_roundg R1.length
              case measure => omega
              case rel => exact ⟨D ++ [x], R1, Q, v, vo9, q, f, rfl, rfl, hqz, HST, HKS2, HCZ, HBX⟩
        · have hn0 : nq = 0 := by omega
          have HQN : Hid (Q = []) := hid (List.length_eq_zero_iff.1 (by rw [HNQ.out]; exact hn0))
          have HKZ : Hid (KS L D R []) := hid (by have := HKS.out; rwa [HQN.out] at this)
          obtain ⟨oa, oc, hoe⟩ : ∃ oa oc, vo = .slice oa D.length oc := by
            have := HST.out.out.own
            rw [show (ids D).length = D.length by unfold ids; rw [List.length_map]] at this
            exact owns_shape this
          have HOE : Hid (vo = .slice oa D.length oc) := hoe
          have h0i : ¬ (0 : Int) < (nq : Int) := by omega
          clear hoe
          go_wp2
          go_ret
          exact ⟨by rw [HG.out]; exact HST.out.below, fS, vo, D, R, HFS.out, by rw [HLL.out]; exact HKZ.out, by rw [HLL.out]; exact HBS.out, rfl, ⟨Qb + 1, by have h1 := HST.out.lt; have h2 := HG.out; omega, HST.out.out⟩, oa, oc, HOE.out⟩
end Go.Proofs.YtjgjeedablgmeaaDoor
