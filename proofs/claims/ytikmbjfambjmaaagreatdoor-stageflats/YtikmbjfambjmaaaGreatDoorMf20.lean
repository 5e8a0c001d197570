import Derived.Test.YtikmbjfambjmaaaGreatDoorMf13
import Derived.Test.YtikmbjfambjmaaaGreatDoorMf19
namespace Go.Proofs.YtikmbjfambjmaaaGreatDoor
open Go.RowKit
variable [Inhabited Er] [Inhabited En]
set_option linter.unusedVariables false
set_option linter.unusedSectionVars false
set_option linter.unusedSimpArgs false
def PostEn (l : List UInt8) (w : World) (e : Ending) (w' : World) : Prop := ∃ a cap es, e = .returned (.slice a es.length cap) ∧ (∀ p : Addr, a = some p → w.heap.size ≤ p.block) ∧ Pe w' a cap es ∧ WfE es ∧ es.length ≤ 1000 ∧ (∀ x ∈ es, x.name.length ≤ 20000) ∧ ∀ u, okTr u → treeB u = l → es = u
set_option maxRecDepth 20000 in
set_option maxHeartbeats 4000000 in
theorem entriesOf_any (l : List UInt8) (hl : l.length ≤ 20000) (w : World) (he : Ers w) (hm : Mx w) :
    Calls Tryz.prog 36 #[.string ⟨l.toArray⟩] w fun e w' => Below w.heap.size w w' ∧ PostEn l w e w' := by
  obtain ⟨G, HG⟩ : ∃ G, Hid (w.heap.size = G) := ⟨_, rfl⟩
  obtain ⟨LN, HLN⟩ : ∃ n, Hid (l.length = n) := ⟨_, rfl⟩
  have hLN : LN ≤ 20000 := by rw [← HLN.out]; exact hl
  obtain ⟨zr, HZ⟩ : ∃ zr : Array Value, Hid (zr = (erV ⟨0, [], z20⟩).toArray) := ⟨_, rfl⟩
  have hz51 : ∀ w : World, (zeroValue 84).run Tryz.prog w = .ok (.agg zr) w := fun w => by rw [HZ.out]; exact zero51 w
  have HZS : Hid (zr.size = 22) := hid (by rw [HZ.out]; rfl)
  have HE : Hid (∀ W, Below G w W → Ers W) := fun W hW => he.below (by rw [HG.out]; exact hW)
  have HM : Hid (∀ W, Below G w W → Mx W) := fun W hW => hm.below (by rw [HG.out]; exact hW)
  have HBF0 : Hid (Bf w w G (.slice none 0 0) []) := hid (bf_nil w G (by rw [HG.out]; exact Nat.le_refl _))
  clear he hm
  go_enter Tryz.func36, Tryz.ntmps36
  go_wp2_with fail
  go_loopg [0, 3] LN (fun g tv u wr => ∃ (t : List UInt8) (v : Value) (es : List Er), tv = .string ⟨t.toArray⟩ ∧ v = u ∧ g = t.length ∧ Hid (Bf w wr G v es) ∧ Hid (Rb l es t) ∧ Hid (WfE es) ∧ Hid (∀ x ∈ es, x.name.length ≤ 20000) ∧ es.length * 21 + t.length ≤ LN + 20 ∧ (t ≠ [] → es.length * 21 + t.length ≤ LN))
  case atStart => exact ⟨l, _, [], rfl, rfl, HLN.out.symm, HBF0, hid (Rb.start l), hid (fun x hx => by cases hx), hid (fun x hx => by cases hx), by rw [HLN.out]; simp, fun _ => by rw [HLN.out]; simp⟩
  case round =>
    obtain ⟨t, v, es, rfl, hv, hk, HBF, HRB, HWF, HNM, hc1, hc2⟩ := hrel
    subst hv
    by_cases ht : t = []
    · have HES : Hid (Rb l es []) := hid (by rw [← ht]; exact HRB.out)
      obtain ⟨n, HN⟩ : ∃ n, Hid (es.length = n) := ⟨_, rfl⟩
      have hn1 : n ≤ 1000 := by rw [← HN.out]; omega
      obtain ⟨va, vc, hv⟩ : ∃ va vc, v = .slice va n vc := by
        have ho := HBF.out.own
        rw [HN.out] at ho
        exact owns_shape ho
      subst hv
      have HPE : Hid (Pe wr va vc es) := hid (HBF.out.pe (fun x hx => (HWF.out x hx).1) HN.out)
      subst ht
      clear hc1 hc2 hk
      go_wp2
      go_ret
      exact ⟨by rw [HG.out]; exact HBF.out.below, va, vc, es, by rw [HN.out]; rfl, (fun p hp => by rw [HG.out]; exact (own_lt HBF.out.own p.block (by rw [hp]; rfl)).1), HPE.out, HWF.out, by rw [HN.out]; exact hn1, HNM.out, fun u h1 h2 => HES.out.done u h1 h2⟩
    · have hc3 := hc2 ht
      obtain ⟨T, HT⟩ : ∃ S : ByteArray, Hid (⟨t.toArray⟩ = S) := ⟨_, rfl⟩
      have hemp : (T.toList == []) = false := by rw [← HT.out, Lib.toList_data]; simpa using ht
      have hemp2 : T.toList.isEmpty = false := by rw [← HT.out, Lib.toList_data]; simpa using ht
      obtain ⟨hd, HHD⟩ : ∃ x, Hid ((Lib.cut t [0]).1 = x) := ⟨_, rfl⟩
      obtain ⟨rs, HRS⟩ : ∃ x, Hid ((Lib.cut t [0]).2.1 = x) := ⟨_, rfl⟩
      obtain ⟨b1, HB1⟩ : ∃ x, Hid ((Lib.cut t [0]).2.2 = x) := ⟨_, rfl⟩
      obtain ⟨mo, HMO⟩ : ∃ x, Hid ((Lib.cut hd [32]).1 = x) := ⟨_, rfl⟩
      obtain ⟨nm, HNA⟩ : ∃ x, Hid ((Lib.cut hd [32]).2.1 = x) := ⟨_, rfl⟩
      obtain ⟨b2, HB2⟩ : ∃ x, Hid ((Lib.cut hd [32]).2.2 = x) := ⟨_, rfl⟩
      have htl : t.length ≤ 20000 := by omega
      have hhl : hd.length ≤ 20000 := by rw [← HHD.out]; have := cut_le1 t [0]; omega
      have hrl : rs.length + 1 ≤ t.length := by rw [← HRS.out]; exact cut_len t 0 ht
      have hml : mo.length ≤ 20000 := by rw [← HMO.out]; have := cut_le1 hd [32]; omega
      have hnl : nm.length ≤ 20000 := by rw [← HNA.out]; have := cut_le2 hd [32]; omega
      have C1 : Hid (∀ W, Below G w W → Calls Tryz.prog 50 #[.string T, .string ⟨#[0]⟩] W fun e w' => e = .returned (.tuple #[.string ⟨hd.toArray⟩, .string ⟨rs.toArray⟩, .bool b1]) ∧ ∃ q, w' = W.drewN q) := fun W hW => by
        have := scut_any t [0] W (by omega) (HM.out W hW)
        rw [HT.out, HHD.out, HRS.out, HB1.out] at this
        exact this
      have C2 : Hid (∀ W, Below G w W → Calls Tryz.prog 50 #[.string ⟨hd.toArray⟩, .string ⟨#[32]⟩] W fun e w' => e = .returned (.tuple #[.string ⟨mo.toArray⟩, .string ⟨nm.toArray⟩, .bool b2]) ∧ ∃ q, w' = W.drewN q) := fun W hW => by
        have := scut_any hd [32] W (by omega) (HM.out W hW)
        rw [HMO.out, HNA.out, HB2.out] at this
        exact this
      have C3 : Hid (∀ W, Below G w W → Calls Tryz.prog 51 #[.string ⟨mo.toArray⟩] W fun e w' => Below W.heap.size W w' ∧ PMo mo e) := fun W hW => modeOf_any mo (by omega) W (HE.out W hW)
      have hG0 : G ≤ wr.heap.size := HBF.out.le
      rw [HT.out]
      go_wp2_with fail
      refine (C1.out wr HBF.out.below).mono ?_
      rintro ev w1 ⟨rfl, q1, hw1⟩
      have hb1 : Below wr.heap.size wr w1 := by rw [hw1]; exact below_drewH (Below.refl _ _) _
      clear hw1
      have HBF1 : Hid (Bf w w1 G v es) := hid (HBF.out.carry hb1)
      clear hb1
      go_wp2_with fail
      refine (C2.out w1 HBF1.out.below).mono ?_
      rintro ev w2 ⟨rfl, q2, hw2⟩
      have hb2 : Below w1.heap.size w1 w2 := by rw [hw2]; exact below_drewH (Below.refl _ _) _
      clear hw2
      have HBF2 : Hid (Bf w w2 G v es) := hid (HBF1.out.carry hb2)
      clear hb2
      go_wp2_with fail
      refine (C3.out w2 HBF2.out.below).mono ?_
      rintro ev w3 ⟨hb3, mv, rfl, hmv⟩
      have HBF3 : Hid (Bf w w3 G v es) := hid (HBF2.out.carry hb3)
      clear hb3
      obtain ⟨S, HS⟩ : ∃ S : ByteArray, Hid (⟨nm.toArray⟩ = S) := ⟨_, rfl⟩
      obtain ⟨x, HX⟩ : ∃ x : Er, Hid (⟨mv, nm, fill rs⟩ = x) := ⟨_, rfl⟩
      obtain ⟨R0, HR0⟩ : ∃ R : List Value, Hid ((Value.int .i64 mv :: Value.string S :: row .u8 z20) = R) := ⟨_, rfl⟩
      obtain ⟨R1, HR1⟩ : ∃ R : List Value, Hid (erV x = R) := ⟨_, rfl⟩
      have HXI : Hid (x.id.length = 20 ∧ ∀ n ∈ x.id, 0 ≤ n ∧ n < 256) := hid (by rw [← HX.out]; exact ⟨fill_len rs, fill_b rs⟩)
      have HXN : Hid (x.name.length ≤ 20000) := hid (by rw [← HX.out]; exact hnl)
      have HRF : Hid (Rf t x (rs.drop 20)) := hid (by
        have := rf_entry t mv (by rw [HHD.out, HMO.out]; exact fun m h1 h2 => hmv m h1 h2)
        rw [HHD.out, HNA.out, HRS.out, HX.out] at this
        exact this)
      clear hmv
      have HR0L : Hid (R0.length = 22) := hid (by rw [← HR0.out]; rfl)
      have HR1L : Hid (R1.length = 22) := hid (by rw [← HR1.out]; exact erV_len x HXI.out.1)
      have hi51 : (Tryz.prog.info? 84).map (·.size) = some R1.length := by rw [HR1L.out]; exact size51
      have I51 : Hid ((Tryz.prog.info? 84).map (·.size) = some R0.toArray.size) := hid (by rw [List.size_toArray, HR0L.out]; exact size51)
      have E51 : Hid (zr.size = R0.toArray.size) := hid (by rw [HZS.out, List.size_toArray, HR0L.out])
      have O51 : Hid (R0.toArray.all (·.oneCell') = true) := hid (by
        rw [← HR0.out, ← HS.out]
        exact all_oneCell_toArray (erV_one ⟨mv, nm, z20⟩))
      have HBU : Hid (Tryz.prog.built 84 [(0, .int .i64 mv), (1, .string S)] = some R0.toArray) := hid (by rw [← HR0.out]; exact built51 mv S)
      have D0 : Hid ((w3.alloc (.cells zr 84)).heap[w3.heap.size]? = some (.cells zr 84 (0, 0))) := heap_alloc_new w3 _
      obtain ⟨w4, HW4⟩ : ∃ w4, Hid ((w3.alloc (.cells zr 84)).setRow w3.heap.size R0.toArray = w4) := ⟨_, rfl⟩
      obtain ⟨K, HK⟩ : ∃ K, Hid (w3.heap.size = K) := ⟨_, rfl⟩
      have hb4 : Below w3.heap.size w3 w4 := by rw [← HW4.out]; exact below_setRow ((Below.refl _ w3).alloc (Nat.le_refl _) _) (Nat.le_refl _) _
      have B4 : Hid (w4.heap[K]? = some (.cells R0.toArray 84 (0, 0))) := hid (by rw [← HW4.out, ← HK.out]; exact setRow_heap _ _ _ R0.toArray _ _ D0.out)
      obtain ⟨RS, HRSS⟩ : ∃ S : ByteArray, Hid (⟨rs.toArray⟩ = S) := ⟨_, rfl⟩
      obtain ⟨k, HKK⟩ : ∃ k, Hid (Nat.min rs.length 20 = k) := ⟨_, rfl⟩
      have hk20 : k ≤ 20 ∧ k ≤ rs.length ∧ (k = 20 ∨ k = rs.length) := by
        have : Nat.min rs.length 20 = min rs.length 20 := rfl
        have := HKK.out
        omega
      obtain ⟨w5, HW5⟩ : ∃ w5, Hid (w4.setCells K 2 ((nums (rs.take 20)).map (Value.int .u8)) = w5) := ⟨_, rfl⟩
      have HNT : Hid ((RS.data.toList.map fun x => Value.int .u8 (x.toNat : Int)).take k = (nums (rs.take 20)).map (Value.int .u8)) := hid (by
        rw [← HRSS.out]
        simp only [nums, List.map_map, List.map_take]
        rcases hk20.2.2 with h | h
        · rw [h]; rfl
        · rw [List.take_of_length_le (by simp; omega), List.take_of_length_le (by simp; omega)]; rfl)
      have HCP : Hid (∀ ty, (Builtin.copy_ #[26, 9] ty #[.slice (some ⟨K, 2, none⟩) 20 20, .string RS]).run Tryz.prog w4 = .ok (.int .i64 k) w5) := fun ty => by
        rw [← HW5.out, ← HNT.out]
        have hcell : ∀ j, j < k → ∃ u, R0[2 + j]? = some u := fun j hj => ⟨_, List.getElem?_eq_getElem (by rw [HR0L.out]; omega)⟩
        refine run_copy_str w4 K 2 RS k (by rw [← HKK.out, ← HRSS.out, txt_len]) ty (fun j hj => ?_) (fun j hj => frozen_of_row w4 K _ _ 84 B4.out)
        obtain ⟨u, hu⟩ := hcell j hj
        rw [cell_of_row w4 K (2 + j) _ 84 _ B4.out]
        simp [hu]
      have B5 : Hid (w5.heap[K]? = some (.cells R1.toArray 84 (0, 0))) := hid (by
        have h1 := heap_setCells_same K 84 ((nums (rs.take 20)).map (Value.int .u8)) 2 w4 R0 B4.out
        rw [HW5.out] at h1
        rw [h1]
        congr 2
        rw [← HR0.out, ← HR1.out, ← HX.out]
        have h20 : (nums (rs.take 20)).length ≤ 20 := by rw [nums_len, List.length_take]; omega
        have hz : row .u8 z20 = (List.replicate (nums (rs.take 20)).length (Value.int .u8 0)) ++ (List.replicate (20 - (nums (rs.take 20)).length) (Value.int .u8 0)) := by
          rw [List.replicate_append_replicate, show (nums (rs.take 20)).length + (20 - (nums (rs.take 20)).length) = 20 by omega]
          rfl
        rw [hz]
        have := setAt_mid ((nums (rs.take 20)).map (Value.int .u8)) (List.replicate (nums (rs.take 20)).length (Value.int .u8 0)) [Value.int .i64 mv, Value.string S] (List.replicate (20 - (nums (rs.take 20)).length) (Value.int .u8 0)) (by simp)
        refine (congrArg List.toArray this).trans ?_
        unfold erV fill row
        rw [List.map_append, List.map_replicate, HS.out, nums_len]
        rfl)
      have hsl : ∀ W : World, (Instr.slice 9 (.string RS) (some (.int .i64 k)) none none).run Tryz.prog W = .ok (.string ⟨(rs.drop k).toArray⟩) W := fun W => by
        rw [← HRSS.out]; exact slice_from rs k hk20.2.1 W
      have HDR : Hid (rs.drop k = rs.drop 20) := hid (by
        rcases hk20.2.2 with h | h
        · rw [h]
        · rw [List.drop_eq_nil_of_le (by omega), List.drop_eq_nil_of_le (by omega)])
      rw [HDR.out] at hsl
      have HBF5 : Hid (Bf w w5 G v es) := hid (by
        have h4 := HBF3.out.carry hb4
        have hb5 : Below w3.heap.size w3 w5 := by
          rw [← HW5.out]
          exact below_setCells (by rw [HK.out]; exact Nat.le_refl _) _ _ _ _ hb4
        exact HBF3.out.carry hb5)
      clear hb4
      have L5 : Hid (w5.rangeAt K 0 R1) := hid (range_row B5.out)
      have hes : es.length ≤ 3000 := by omega
      have hcp := HCP.out 3
      rw [HS.out, HRSS.out]
      go_wp2_with (first
        | (refine wpList_built rfl 84 _ rfl R0.toArray (by simp only [List.map_toArray, List.map_cons, List.map_nil]; exact HBU.out) ?_)
        | (refine wpList_store_row rfl 84 _ _ rfl w3.heap.size R0.toArray rfl rfl 84 zr D0.out I51.out E51.out O51.out ?_; rw [HW4.out, HK.out])
        | refine wpList_load_mid rfl 84 _ rfl K 0 rfl R1 _ L5.out Tryz.underlying84 rfl hi51 ?_
        | refine wpList_buildS rfl 72 1 _ rfl (.agg R1.toArray) _ rfl (by rw [← HR1.out]; exact run_build51 x HXI.out.1 _) ?_
        | (at_builtin; refine wpList_bf_one rfl _ _ rfl G _ _ rfl (HBF5.out.alloc _) w5.heap.size x rfl (range_row (heap_alloc_new w5 _)) HXI.out.1 hes ?_; intro v6 w6 hbf6; have HBF6 : Hid (Bf w w6 G v6 (es ++ [x])) := hbf6; clear hbf6)
        | fail)
      go_roundg (rs.drop 20).length
      case measure => rw [List.length_drop]; omega
      case rel =>
        refine ⟨rs.drop 20, _, es ++ [x], rfl, rfl, rfl, HBF6, hid (HRB.out.step ht x _ HRF.out), hid ?_, hid ?_, ?_, ?_⟩
        · intro y hy
          rcases List.mem_append.1 hy with hy | hy
          · exact HWF.out y hy
          · have : y = x := by simpa using hy
            rw [this]; exact HXI.out
        · intro y hy
          rcases List.mem_append.1 hy with hy | hy
          · exact HNM.out y hy
          · have : y = x := by simpa using hy
            rw [this]; exact HXN.out
        · rw [List.length_append, List.length_drop]
          simp only [List.length_cons, List.length_nil]
          omega
        · intro hne
          have := List.length_pos_iff.2 hne
          rw [List.length_drop] at this
          rw [List.length_append, List.length_drop]
          simp only [List.length_cons, List.length_nil]
          omega
end Go.Proofs.YtikmbjfambjmaaaGreatDoor
namespace Go.Proofs.YtikmbjfambjmaaaGreatDoor
open Go.RowKit
variable [Inhabited Er] [Inhabited En]
set_option linter.unusedVariables false
set_option linter.unusedSectionVars false
set_option linter.unusedSimpArgs false
def PostRB (l : List UInt8) (w : World) (e : Ending) (w' : World) : Prop := ∃ a cap es, (∀ p : Addr, a = some p → w.heap.size ≤ p.block) ∧ Pe w' a cap es ∧ WfE es ∧ es.length ≤ 1000 ∧ (∀ u, okTr u → treeB u = l → es = u) ∧
  (((okL es ∧ treeB (srtE es) = l) ∧ e = .returned (.tuple #[.slice a es.length cap, .nilIface])) ∨ (¬ (okL es ∧ treeB (srtE es) = l) ∧ e = .returned (.tuple #[.slice none 0 0, .iface 45 (.int .i64 21)])))
set_option maxRecDepth 20000 in
set_option maxHeartbeats 2000000 in
theorem readBackE_any (a : Option Addr) (cap : Nat) (zs : List Int) (hl : zs.length ≤ 20000) (w : World) (hd : Db w) (he : Ers w) (hm : Mx w) (hS : Sl w a cap zs) :
    Calls Tryz.prog 35 #[.slice a zs.length cap, .int .i64 21, .func (.func 36) #[] #[], .func (.func 37) #[] #[]] w fun e w' => Below w.heap.size w w' ∧ PostRB (Lib.bytesOf zs) w e w' := by
  obtain ⟨n, HN⟩ : ∃ n, Hid (zs.length = n) := ⟨_, rfl⟩
  obtain ⟨l, HL⟩ : ∃ l, Hid (Lib.bytesOf zs = l) := ⟨_, rfl⟩
  have HLL : Hid (l.length ≤ 20000) := hid (by rw [← HL.out, Lib.bytesOf_length]; exact hl)
  obtain ⟨S, HSS⟩ : ∃ S : ByteArray, Hid (⟨l.toArray⟩ = S) := ⟨_, rfl⟩
  obtain ⟨G, HG⟩ : ∃ G, Hid (w.heap.size = G) := ⟨_, rfl⟩
  have HCV : Hid ((convert 26 9 (.slice a n cap)).run Tryz.prog w = .ok (.string S) w) := hid (by
    rw [← HSS.out, ← HL.out, ← HN.out]
    exact conv_str hS)
  have HSL : Hid (∀ W, Below G w W → Sl W a cap zs) := fun W hW => hS.below (by rw [HG.out]; exact hW)
  have HD : Hid (∀ W, Below G w W → Db W) := fun W hW => hd.below (by rw [HG.out]; exact hW)
  have HGS : Hid (G ≤ w.heap.size) := hid (by rw [HG.out]; exact Nat.le_refl _)
  have C1 : Hid (Calls Tryz.prog 36 #[.string S] w fun e w' => Below w.heap.size w w' ∧ PostEn l w e w') := hid (by
    rw [← HSS.out]
    exact entriesOf_any l HLL.out w he hm)
  rw [HN.out, HL.out]
  clear hd he hm hS
  have hcv := HCV.out
  go_enter Tryz.func35, Tryz.ntmps35
  go_wp2_with fail
  refine C1.out.mono ?_
  rintro ev w1 ⟨hb1, a1, c1, es, rfl, hfr, hpe, hwf, hle, hnm, hun⟩
  rw [HG.out] at hb1
  have HB1 : Hid (Below G w w1) := hb1
  have HPE : Hid (Pe w1 a1 c1 es) := hpe
  have HFR : Hid (∀ p : Addr, a1 = some p → w.heap.size ≤ p.block) := hfr
  have HWF : Hid (WfE es) := hwf
  have HLE : Hid (es.length ≤ 1000) := hle
  have HUN : Hid (∀ u, okTr u → treeB u = l → es = u) := hun
  clear hb1 hfr hpe hwf hle hnm hun hcv
  obtain ⟨k, HK⟩ : ∃ k, Hid (es.length = k) := ⟨_, rfl⟩
  rw [HK.out]
  have C2 : Hid (Calls Tryz.prog 37 #[.slice a1 k c1] w1 (PostW es w1)) := hid (by
    rw [← HK.out]
    exact writeTree_any a1 c1 es HWF.out HLE.out w1 HPE.out (HD.out _ HB1.out))
  have FIN : Hid (∀ W, Below w1.heap.size w1 W → (okL es ∧ treeB (srtE es) = l) → PostRB l w (.returned (.tuple #[.slice a1 k c1, .nilIface])) W) := fun W hW h =>
    ⟨a1, c1, es, HFR.out, HPE.out.below hW, HWF.out, HLE.out, HUN.out, .inl ⟨h, by rw [HK.out]⟩⟩
  have BAD : Hid (∀ W, Below w1.heap.size w1 W → ¬ (okL es ∧ treeB (srtE es) = l) → PostRB l w (.returned (.tuple #[.slice none 0 0, .iface 45 (.int .i64 21)])) W) := fun W hW h =>
    ⟨a1, c1, es, HFR.out, HPE.out.below hW, HWF.out, HLE.out, HUN.out, .inr ⟨h, rfl⟩⟩
  have hG1 : G ≤ w1.heap.size := Nat.le_trans HGS.out HB1.out.size
  go_wp2_with fail
  refine C2.out.mono ?_
  rintro ev w2 ⟨hb2, hor⟩
  have HB12 : Hid (Below w1.heap.size w1 w2) := hb2
  have HB2 : Hid (Below G w w2) := HB1.out.trans (hb2.mono hG1)
  clear hb2
  rcases hor with ⟨hok, a2, c2, rfl, hsl⟩ | ⟨hno, rfl⟩
  rotate_left
  · have HNO : Hid (¬ (okL es ∧ treeB (srtE es) = l)) := fun h => hno h.1
    clear hno
    go_wp2
    go_ret2
    exact ⟨by rw [HG.out]; exact HB2.out, BAD.out _ HB12.out HNO.out⟩
  have HOK : Hid (okL es) := hok
  have HS2 : Hid (Sl w2 a2 c2 (nums (treeB (srtE es)))) := hsl
  clear hok hsl
  obtain ⟨tb, HTB⟩ : ∃ t, Hid (treeB (srtE es) = t) := ⟨_, rfl⟩
  obtain ⟨eq, HEQ⟩ : ∃ b : Bool, Hid ((tb == l) = b) := ⟨_, rfl⟩
  obtain ⟨tl, HTL⟩ : ∃ k, Hid (tb.length = k) := ⟨_, rfl⟩
  have CE : Hid (Calls Tryz.prog 49 #[.slice a2 tl c2, .slice a n cap] w2 fun e w' => e = .returned (.bool eq) ∧ w' = w2) := hid (by
    have h := equal_any a2 a c2 cap (nums tb) zs w2 (by rw [← HTB.out]; exact HS2.out) (HSL.out _ HB2.out)
    rw [nums_len, HTL.out, bytesOf_nums, HL.out, HEQ.out, HN.out] at h
    exact h)
  rw [HTB.out, HTL.out]
  go_wp2_with fail
  refine CE.out.mono ?_
  rintro ev w2' ⟨rfl, hw2⟩
  have hw2' := hw2.symm
  subst hw2'
  clear hw2
  cases eq with
  | false =>
    have HNO : Hid (¬ (okL es ∧ treeB (srtE es) = l)) := fun h => by have h2 := HEQ.out; rw [← HTB.out, h.2] at h2; simp at h2
    go_wp2
    go_ret2
    exact ⟨by rw [HG.out]; exact HB2.out, BAD.out _ HB12.out HNO.out⟩
  | true =>
    have HYE : Hid (treeB (srtE es) = l) := hid (by have h2 := HEQ.out; rw [HTB.out]; simpa using h2)
    go_wp2
    go_ret2
    exact ⟨by rw [HG.out]; exact HB2.out, FIN.out _ HB12.out ⟨HOK.out, HYE.out⟩⟩
theorem PostRB.form {l : List UInt8} {w : World} {e : Ending} {w' : World} (h : PostRB l w e w') : ∃ (v ev : Value), e = .returned (.tuple #[v, ev]) := by
  obtain ⟨a, cap, es, _, _, _, _, _, ⟨_, rfl⟩ | ⟨_, rfl⟩⟩ := h
  · exact ⟨_, _, rfl⟩
  · exact ⟨_, _, rfl⟩
set_option maxRecDepth 20000 in
set_option maxHeartbeats 1000000 in
theorem readTree_any (a : Option Addr) (cap : Nat) (zs : List Int) (hl : zs.length ≤ 20000) (w : World) (hd : Db w) (he : Ers w) (hm : Mx w) (hS : Sl w a cap zs) :
    Calls Tryz.prog 22 #[.slice a zs.length cap] w fun e w' => Below w.heap.size w w' ∧ PostRB (Lib.bytesOf zs) w e w' := by
  obtain ⟨n, HN⟩ : ∃ n, Hid (zs.length = n) := ⟨_, rfl⟩
  have C1 : Hid (Calls Tryz.prog 35 #[.slice a n cap, .int .i64 21, .func (.func 36) #[] #[], .func (.func 37) #[] #[]] w fun e w' => Below w.heap.size w w' ∧ PostRB (Lib.bytesOf zs) w e w') := hid (by
    rw [← HN.out]
    exact readBackE_any a cap zs hl w hd he hm hS)
  rw [HN.out]
  clear hd he hm hS
  go_enter Tryz.func22, Tryz.ntmps22
  go_wp2_with fail
  refine C1.out.mono ?_
  rintro ev w1 ⟨hb1, hpb⟩
  obtain ⟨v, ev2, rfl⟩ := hpb.form
  have HPB : Hid (PostRB (Lib.bytesOf zs) w (.returned (.tuple #[v, ev2])) w1) := hpb
  have HB1 : Hid (Below w.heap.size w w1) := hb1
  clear hpb hb1
  go_wp2
  go_ret2
  exact ⟨HB1.out, HPB.out⟩
end Go.Proofs.YtikmbjfambjmaaaGreatDoor
namespace Go.Proofs.YtikmbjfambjmaaaGreatDoor.Gr
open Go.RowKit Go.Shelf
set_option linter.unusedVariables false
set_option linter.unusedSimpArgs false
structure Tb (w : World) : Prop where
  tab : Tab w
  db : Db w
  ers : Ers w
  mx : Mx w
theorem Tb.below {w w' : World} (h : Tb w) (hb : Below w.heap.size w w') : Tb w' := ⟨h.tab.below hb, h.db.below hb, h.ers.below hb, h.mx.below hb⟩
theorem gb_row {A C : World} (row : Option Nat) (h : Below A.heap.size A C) : A.grownBy C row := ⟨h.os, h.tape, h.output, h.size, fun k hk _ => h.block k hk⟩
def tvO (o : Oj) (ea : Option Addr) (n ec : Nat) : Value := .agg #[.int .i64 o.k, .slice o.a o.zs.length o.cap, .slice ea n ec]
def PostA (o : Oj) (r : Option (List Er)) (g n : Nat) (M : List Int → Option Value) (w : World) (e : Ending) (w' : World) : Prop :=
  (∃ v, e = .returned v) ∧ w.grownBy w' (some g) ∧ ((FM w' g n M ∧ ¬ (o.k = 2 ∧ oer o = 0 ∧ r ≠ none)) ∨ (∃ es ea ec, o.k = 2 ∧ oer o = 0 ∧ r = some es ∧ FM w' g (n + 1) (fun y => if y = oid o then some (tvO o ea es.length ec) else M y) ∧ Px erV 22 ⟨0, [], []⟩ w' ea ec es ∧ (∀ p : Addr, ea = some p → w.heap.size ≤ p.block) ∧ es.length ≤ 1000))
theorem built24 : Tryz.prog.built 24 [] = some (row .u8 z20).toArray := by kernel_rfl
theorem built76 (k : Int) (a ea : Option Addr) (n c ne ec : Nat) : Tryz.prog.built 76 [(0, .agg #[.int .i64 k, .slice a n c]), (1, .slice ea ne ec)] = some #[.int .i64 k, .slice a n c, .slice ea ne ec] := by kernel_rfl
theorem zero24 (w : World) : (zeroValue 24).run Tryz.prog w = .ok (.agg (row .u8 z20).toArray) w := by kernel_rfl
theorem size28 : (Tryz.prog.info? 28).map (·.size) = some 2 := by kernel_rfl
theorem Tryz.results13 : Tryz.f13.results = #[.cell 4 24, .tmp 5] := by kernel_rfl
theorem readTree_o (o : Oj) (r : Option (List Er)) (hr : Rt (Lib.bytesOf o.zs) r) (w : World) (hl : o.zs.length ≤ 20000) (hT : Tb w) (hS : Sl w o.a o.cap o.zs) :
    Calls Tryz.prog 22 #[.slice o.a o.zs.length o.cap] w fun e w' => Below w.heap.size w w' ∧ ((∃ es ea ec, r = some es ∧ e = .returned (.tuple #[.slice ea es.length ec, .nilIface]) ∧ Px erV 22 ⟨0, [], []⟩ w' ea ec es ∧ (∀ p : Addr, ea = some p → w.heap.size ≤ p.block) ∧ es.length ≤ 1000) ∨ (r = none ∧ e = .returned (.tuple #[.slice none 0 0, .iface 45 (.int .i64 21)]))) := by
  letI i1 : Inhabited Er := ⟨⟨0, [], []⟩⟩
  haveI i2 : Inhabited En := ⟨⟨⟨0, [], z20⟩, by decide, by decide⟩⟩
  refine Calls.mono (readTree_any o.a o.cap o.zs hl w hT.db hT.ers hT.mx hS) ?_
  rintro e w' ⟨hb, a', c', es, h1, h2, h3, h4, h5, ⟨h6, rfl⟩ | ⟨h6, rfl⟩⟩
  · exact ⟨hb, .inl ⟨es, a', c', hr.one ((rt_prog h3 h5).1 h6), rfl, ⟨h2.capl, h2.at_, h2.nil⟩, h1, h4⟩⟩
  · exact ⟨hb, .inr ⟨hr.one ((rt_prog h3 h5).2 h6), rfl⟩⟩
set_option maxRecDepth 20000 in
set_option maxHeartbeats 4000000 in
theorem addTree_any (o : Oj) {RO : List Value} (hO : encO o = RO) (r : Option (List Er)) (hr : o.k = 2 → Rt (Lib.bytesOf o.zs) r) (hl : o.zs.length ≤ 20000) (hz : IsB o.zs) (g n : Nat) (M : List Int → Option Value) (w : World) (hS : Sl w o.a o.cap o.zs) (hT : Tb w) (hM : FM w g n M) (hn : n ≤ 1000) :
    Calls Tryz.prog 13 #[.map (some g), .agg RO.toArray] w (PostA o r g n M w) := by
  have hg := hM.lt
  obtain ⟨zr, HZ⟩ : ∃ zr : Array Value, Hid ((row .u8 z20).toArray = zr) := ⟨_, rfl⟩
  have hz24 : ∀ w : World, (zeroValue 24).run Tryz.prog w = .ok (.agg zr) w := fun w => by rw [← HZ.out]; exact zero24 w
  have HBU : Hid (Tryz.prog.built 24 [] = some zr) := hid (by rw [← HZ.out]; exact built24)
  have Z20 : Hid (zr.size = 20) := hid (by rw [← HZ.out]; rfl)
  have IZ : Hid ((Tryz.prog.info? 24).map (·.size) = some zr.size) := hid (by rw [Z20.out]; exact Tryz.size24)
  have OZ : Hid (zr.all (·.oneCell') = true) := hid (by rw [← HZ.out]; exact all_oneCell_toArray (row_one _ _))
  obtain ⟨kd, HKD⟩ : ∃ k, Hid (o.k = k) := ⟨_, rfl⟩
  obtain ⟨ol, HOL⟩ : ∃ k, Hid (o.zs.length = k) := ⟨_, rfl⟩
  obtain ⟨oa, HOA⟩ : ∃ k, Hid (o.a = k) := ⟨_, rfl⟩
  obtain ⟨oc, HOC⟩ : ∃ k, Hid (o.cap = k) := ⟨_, rfl⟩
  have HRO : Hid (RO = [.int .i64 kd, .slice oa ol oc]) := hid (by rw [← hO]; unfold encO; rw [HKD.out, HOL.out, HOA.out, HOC.out])
  have hi28 : (Tryz.prog.info? 28).map (·.size) = some RO.length := by rw [HRO.out]; exact size28
  obtain ⟨K, HK⟩ : ∃ K, Hid (w.heap.size = K) := ⟨_, rfl⟩
  obtain ⟨wa, HWA⟩ : ∃ u, Hid (w.alloc (.cells RO.toArray 28) = u) := ⟨_, rfl⟩
  obtain ⟨w1, HW1⟩ : ∃ u, Hid (wa.alloc (.cells zr 24) = u) := ⟨_, rfl⟩
  have hsa : wa.heap.size = K + 1 := by rw [← HWA.out, ← HK.out]; simp
  have hs1 : w1.heap.size = K + 2 := by rw [← HW1.out]; simp [hsa]
  have HB1 : Hid (Below K w w1) := hid (by rw [← HK.out, ← HW1.out, ← HWA.out]; exact ((Below.refl _ w).alloc (Nat.le_refl _) _).alloc (by simp) _)
  have h0 : w1.heap[K]? = some (.cells RO.toArray 28 (0, 0)) := by rw [← HW1.out, Below.heap_alloc _ _ _ (by omega), ← HWA.out, ← HK.out]; exact heap_alloc_new w _
  have h1 : w1.heap[K + 1]? = some (.cells zr 24 (0, 0)) := by rw [← HW1.out, ← hsa]; exact heap_alloc_new wa _
  have CO : Hid (∀ W : World, W.heap[K]? = some (.cells RO.toArray 28 (0, 0)) → W.cell? ⟨K, 0, none⟩ = some (.int .i64 kd) ∧ W.cell? ⟨K, 1, none⟩ = some (.slice oa ol oc) ∧ W.rangeAt K 0 RO) := fun W h => by
    refine ⟨?_, ?_, range_row h⟩ <;> (rw [HRO.out] at h; simp [World.cell?, h])
  have H0 : Hid (w1.heap[K]? = some (.cells RO.toArray 28 (0, 0))) := h0
  have H1 : Hid (w1.heap[K + 1]? = some (.cells zr 24 (0, 0))) := h1
  have HS1 : Hid (w1.heap.size = K + 2) := hs1
  have hgK : Hid (g < K) := hid (by rw [← HK.out]; exact hg)
  have HM : Hid (FM w g n M) := hM
  have HTB : Hid (∀ W, Below K w W → Tb W) := fun W hW => hT.below (by rw [HK.out]; exact hW)
  have HSL : Hid (∀ W, Below K w W → Sl W o.a o.cap o.zs) := fun W hW => hS.below (by rw [HK.out]; exact hW)
  have HLN : Hid (o.zs.length ≤ 20000) := hl
  have HIB : Hid (IsB o.zs) := hz
  have HRT : Hid (kd = 2 → Rt (Lib.bytesOf o.zs) r) := hid (by rw [← HKD.out]; exact hr)
  have fin : ∀ (W : World) (C : List Value) (b : Nat) (hCl : C.length = 20), K ≤ b → W.heap[b]? = some (.cells C.toArray 24 (0, 0)) → W.rangeAt b 0 C ∧ (Tryz.prog.info? 24).map (·.size) = some C.length := fun W C b hCl _ h => ⟨range_row h, by rw [hCl]; exact Tryz.size24⟩
  have NOT : Hid (∀ W, Below K w W → ¬ (kd = 2 ∧ oer o = 0 ∧ r ≠ none) → ∀ v, PostA o r g n M w (.returned v) W) := fun W hW hno v =>
    ⟨⟨v, rfl⟩, gb_row _ (by rw [HK.out]; exact hW), .inl ⟨HM.out.sm (hW.block g hgK.out), by rw [HKD.out]; exact hno⟩⟩
  have STZ : Hid (∀ W : World, W.heap[K + 1]? = some (.cells zr 24 (0, 0)) → (W.setRow (K + 1) zr).heap[K + 1]? = some (.cells zr 24 (0, 0)) ∧ (Below K w W → Below K w (W.setRow (K + 1) zr))) := fun W h => ⟨setRow_heap _ _ _ _ _ _ h, fun hb => below_setRow hb (by omega) _⟩
  have hl20 : zr.toList.length = 20 := by rw [Array.length_toList]; exact Z20.out
  have RET : Hid (∀ (W : World) (t5 : Value) (tm : Array Value) (Q : Ending → World → Prop), W.heap[K + 1]? = some (.cells zr 24 (0, 0)) → tm.getD 4 undef = .pointer (some ⟨K + 1, 0, none⟩) → (∀ v, Q (.returned v) W) → bodyPost Tryz.prog Tryz.f13 Q .ret { tmps := tm, defers := [] } W) := fun W t5 tm Q h h4 hQ => by
    have hz2 : W.heap[K + 1]? = some (.cells zr.toList.toArray 24 (0, 0)) := by rw [h]
    exact bodyPost_ret (results_mid2 Tryz.results13 _ _ (K + 1) zr.toList _ h4 (range_row hz2) Tryz.underlying24 rfl (by rw [hl20]; exact Tryz.size24)) rfl (hQ _)
  obtain ⟨hc0, hc1, hc2⟩ := CO.out w1 h0
  have R1 : Hid (w1.rangeAt K 0 RO) := hc2
  clear hg hM hT hS hl hz hr hsa hs1 h0 h1 fin hc2
  by_cases hk2 : kd = 2
  · subst hk2
    have HRT2 : Hid (Rt (Lib.bytesOf o.zs) r) := hid (HRT.out rfl)
    clear HRT
    obtain ⟨er, HER⟩ : ∃ er, Hid (oer o = er) := ⟨_, rfl⟩
    obtain ⟨FR, HFR⟩ := rw_ (oid_w o).1
    have hiF := HFR.out.i56
    have EF : Hid (zr.size = FR.toArray.size) := hid (by rw [Z20.out, ← HFR.out.e, row_size, (oid_w o).1])
    have CID : Hid (Calls Tryz.prog 21 #[.agg RO.toArray] w1 fun e w' => e = .returned (.tuple #[.agg FR.toArray, errV er]) ∧ Below w1.heap.size w1 w') := hid (by
      have := id_any o.k o.a o.cap o.zs w1 (HTB.out w1 HB1.out).tab (by have := HLN.out; omega) HIB.out (HSL.out w1 HB1.out)
      rw [HRO.out]
      rw [HKD.out, HOL.out, HOA.out, HOC.out] at this
      have e1 : row .u8 (idZ 2 o.zs) = FR := by rw [← HFR.out.e]; unfold oid; rw [HKD.out]
      have e2 : errE 2 ol = er := by rw [← HER.out]; unfold oer; rw [HKD.out, HOL.out]
      rw [e1, e2] at this
      exact this)
    go_enter Tryz.func13, Tryz.ntmps13
    go_wp2_with (first | (rw [HWA.out, HW1.out, HK.out]; refine Hid.out ?_) | fail)
    refine hid ?_
    go_wp2_with (refine wpList_load_mid rfl 28 _ rfl K 0 rfl RO _ R1.out Tryz.underlying28 rfl hi28 ?_)
    refine CID.out.mono ?_
    rintro ev w2 ⟨rfl, hb2⟩
    obtain ⟨H, w3, HN3⟩ := nw 24 zr w2 FR
    have hb3 : Below w1.heap.size w1 w3 := hb2.trans (HN3.out.below.mono (by rw [← HN3.out.h]; exact hb2.size))
    rw [HS1.out] at hb3
    have HB3 : Hid (Below K w w3) := hid (HB1.out.trans (hb3.mono (by omega)))
    have H03 : Hid (w3.heap[K]? = some (.cells RO.toArray 28 (0, 0))) := hid ((hb3.block K (by omega)).trans H0.out)
    have H13 : Hid (w3.heap[K + 1]? = some (.cells zr 24 (0, 0))) := hid ((hb3.block (K + 1) (by omega)).trans H1.out)
    have hHK : Hid (K + 2 ≤ H) := hid (by have := hb2.size; rw [HN3.out.h, HS1.out] at this; exact this)
    have HX3 : Hid (w3.heap[H]? = some (.cells FR.toArray 24 (0, 0))) := hid HN3.out.box
    obtain ⟨hd0, hd1, _⟩ := CO.out w3 H03.out
    clear hb2 hb3 hc0 hc1
    by_cases her : er = 0
    · subst her
      have HE0 : Hid (errV 0 = .nilIface) := hid (by unfold errV; rw [if_pos rfl])
      rw [HE0.out]
      obtain ⟨K3, HK3⟩ : ∃ K, Hid (w3.heap.size = K) := ⟨_, rfl⟩
      have hHK3 : H < K3 := by rw [← HK3.out]; exact (Array.getElem?_eq_some_iff.1 HX3.out).1
      have C22 : Hid (Calls Tryz.prog 22 #[.slice oa ol oc] w3 fun e w' => Below K3 w3 w' ∧ ((∃ es ea ec, r = some es ∧ e = .returned (.tuple #[.slice ea es.length ec, .nilIface]) ∧ Px erV 22 ⟨0, [], []⟩ w' ea ec es ∧ (∀ p : Addr, ea = some p → K3 ≤ p.block) ∧ es.length ≤ 1000) ∨ (r = none ∧ e = .returned (.tuple #[.slice none 0 0, .iface 45 (.int .i64 21)])))) := hid (by
        have := readTree_o o r HRT2.out w3 HLN.out (HTB.out w3 HB3.out) (HSL.out w3 HB3.out)
        rw [HOL.out, HOA.out, HOC.out, HK3.out] at this
        exact this)
      go_wp2_with (first
        | (refine wpList_store_row rfl 24 _ _ rfl w2.heap.size FR.toArray rfl rfl 24 zr HN3.out.d HFR.out.j56 EF.out HFR.out.o ?_; rw [HN3.out.w, HN3.out.h])
        | fail)
      refine C22.out.mono ?_
      rintro ev w4 ⟨hb4, ⟨es, ea, ec, hre, rfl, hpx, hpb, hel⟩ | ⟨hre, rfl⟩⟩
      · have hK34 : K3 ≤ w4.heap.size := by rw [← HK3.out]; exact hb4.size
        have hKK3 : Hid (K + 2 < K3) := hid (by have := hHK.out; omega)
        have HB4 : Hid (Below K w w4) := hid (HB3.out.trans (hb4.mono (by have := hKK3.out; omega)))
        have H04 : Hid (w4.heap[K]? = some (.cells RO.toArray 28 (0, 0))) := hid ((hb4.block K (by have := hKK3.out; omega)).trans H03.out)
        have H14 : Hid (w4.heap[K + 1]? = some (.cells zr 24 (0, 0))) := hid ((hb4.block (K + 1) (by have := hKK3.out; omega)).trans H13.out)
        have HX4 : Hid (w4.heap[H]? = some (.cells FR.toArray 24 (0, 0))) := hid ((hb4.block H hHK3).trans HX3.out)
        have RX4 : Hid (w4.rangeAt H 0 FR) := hid (range_row HX4.out)
        have RO4 : Hid (w4.rangeAt K 0 RO) := hid (range_row H04.out)
        obtain ⟨ne, HNE⟩ : ∃ n, Hid (es.length = n) := ⟨_, rfl⟩
        obtain ⟨TV, HTV⟩ : ∃ v : Array Value, Hid (#[.int .i64 2, .slice oa ol oc, .slice ea ne ec] = v) := ⟨_, rfl⟩
        have HB76 : Hid (Tryz.prog.built 76 [(0, .agg RO.toArray), (1, .slice ea ne ec)] = some TV) := hid (by rw [HRO.out, ← HTV.out]; exact built76 _ _ _ _ _ _ _)
        have HTO : Hid (tvO o ea ne ec = .agg TV) := hid (by unfold tvO; rw [HKD.out, HOL.out, HOA.out, HOC.out, HTV.out])
        obtain ⟨w5, hput, hfm, hg5⟩ := (HM.out.sm (HB4.out.block g hgK.out)).put (by omega) (oid_w o) (.agg TV)
        unfold idV at hput
        rw [HFR.out.e] at hput
        have keep : ∀ k, k < w4.heap.size → k ≠ g → w5.heap[k]? = w4.heap[k]? := fun k hk hne => hg5.block k hk (fun e => hne (by cases e; rfl))
        have gK := hgK.out
        have HX5 : Hid (w5.heap[H]? = some (.cells FR.toArray 24 (0, 0))) := hid ((keep H (by omega) (by have := hHK.out; omega)).trans HX4.out)
        have RX5 : Hid (w5.rangeAt H 0 FR) := hid (range_row HX5.out)
        have H15 : Hid (w5.heap[K + 1]? = some (.cells zr 24 (0, 0))) := hid ((keep (K + 1) (by have := hKK3.out; omega) (by omega)).trans H14.out)
        have hlF : FR.length = 20 := by rw [← HFR.out.e, row_len]; exact (oid_w o).1
        obtain ⟨w6, HW6⟩ : ∃ u, Hid (w5.setRow (K + 1) FR.toArray = u) := ⟨_, rfl⟩
        have H16 : Hid (w6.heap[K + 1]? = some (.cells FR.toArray 24 (0, 0))) := hid (by rw [← HW6.out]; exact setRow_heap _ _ _ _ _ _ H15.out)
        have o6 : ∀ k, k ≠ K + 1 → w6.heap[k]? = w5.heap[k]? := fun k hk => by rw [← HW6.out]; exact setRow_other _ _ _ _ hk
        have s6 : w6.heap.size = w5.heap.size := by rw [← HW6.out]; exact setRow_size _ _ _
        have HFM6 : Hid (FM w6 g (n + 1) (fun y => if y = oid o then some (tvO o ea es.length ec) else M y)) := hid (by
          rw [HNE.out, HTO.out]
          exact hfm.sm (o6 g (by omega)))
        have HG6 : Hid (w.grownBy w6 (some g)) := hid ⟨by rw [← HW6.out]; exact hg5.os.trans HB4.out.os, by rw [← HW6.out]; exact hg5.tape.trans HB4.out.tape, by rw [← HW6.out]; exact hg5.output.trans HB4.out.output, by rw [s6]; exact Nat.le_trans HB4.out.size hg5.size, fun k hk hne => by
          rw [HK.out] at hk
          have h4 := HB4.out.size
          rw [HK.out] at h4
          rw [o6 k (by omega), keep k (by omega) (fun e => hne (by rw [e])), HB4.out.block k hk]⟩
        have HP6 : Hid (Px erV 22 ⟨0, [], []⟩ w6 ea ec es) := hid ⟨hpx.capl, fun h0 => by
          obtain ⟨b, off, e1, e2, e3⟩ := hpx.at_ h0
          have hb := hpb _ e1
          have hb2 : K3 ≤ b := hb
          refine ⟨b, off, e1, by rw [s6]; exact Nat.lt_of_lt_of_le e2 hg5.size, fun i hi j u hu => ?_⟩
          rw [World.cell?_of_block (a := ⟨b, off + i * 22 + j, none⟩) ((o6 b (by have := hKK3.out; omega)).trans (keep b e2 (by have := hKK3.out; omega)))]
          exact e3 i hi j u hu, hpx.nil⟩
        have HFIN : Hid (∀ v, PostA o r g n M w (.returned v) w6) := fun v => ⟨⟨v, rfl⟩, HG6.out, .inr ⟨es, ea, ec, HKD.out, HER.out, hre, HFM6.out, HP6.out, fun p hp => by rw [HK.out]; have := hpb p hp; have := hKK3.out; omega, hel⟩⟩
        have IF : Hid ((Tryz.prog.info? 24).map (·.size) = some FR.length) := hid hiF
        rw [HNE.out]
        clear hb4 hpx hpb hel hre keep hfm hg5 o6 s6 hd0 hd1
        go_wp2_with (first
          | refine wpList_load_mid rfl 24 _ rfl H 0 rfl FR _ RX4.out Tryz.underlying24 rfl hiF ?_
          | refine wpList_load_mid rfl 28 _ rfl K 0 rfl RO _ RO4.out Tryz.underlying28 rfl hi28 ?_
          | refine wpList_bdR rfl 76 _ rfl TV (by simp only [List.map_toArray, List.map_cons, List.map_nil]; exact HB76.out) ?_
          | refine wpList_load_mid rfl 24 _ rfl H 0 rfl FR _ RX5.out Tryz.underlying24 rfl hiF ?_
          | (refine wpList_store_row rfl 24 _ _ rfl (K + 1) FR.toArray rfl rfl 24 zr H15.out HFR.out.j56 EF.out HFR.out.o ?_; rw [HW6.out]))
        exact bodyPost_ret (results_mid2 Tryz.results13 _ _ (K + 1) FR _ rfl (range_row H16.out) Tryz.underlying24 rfl IF.out) rfl (HFIN.out _)
      · have HNO : Hid (¬ (2 = (2 : Int) ∧ oer o = 0 ∧ r ≠ none)) := hid (fun h => h.2.2 hre)
        have hKK3 : Hid (K + 2 < K3) := hid (by have := hHK.out; omega)
        have HB4 : Hid (Below K w w4) := hid (HB3.out.trans (hb4.mono (by have := hKK3.out; omega)))
        have H14 : Hid (w4.heap[K + 1]? = some (.cells zr 24 (0, 0))) := hid ((hb4.block (K + 1) (by have := hKK3.out; omega)).trans H13.out)
        clear hb4 hre hd0 hd1
        go_wp2_with (first
          | refine wpList_bdR rfl 24 _ rfl zr (by simp only [List.map_toArray, List.map_nil]; exact HBU.out) ?_
          | refine wpList_store_row rfl 24 _ _ rfl (K + 1) zr rfl rfl 24 zr H14.out IZ.out rfl OZ.out ?_)
        exact RET.out _ undef _ _ (STZ.out w4 H14.out).1 rfl (NOT.out _ ((STZ.out w4 H14.out).2 HB4.out) HNO.out)
    · have HE1 : Hid (errV er = .iface 45 (.int .i64 er)) := hid (by unfold errV; rw [if_neg her])
      rw [HE1.out]
      have HNO : Hid (¬ (2 = (2 : Int) ∧ oer o = 0 ∧ r ≠ none)) := hid (fun h => her (by rw [← HER.out]; exact h.2.1))
      go_wp2_with (first
        | (refine wpList_store_row rfl 24 _ _ rfl w2.heap.size FR.toArray rfl rfl 24 zr HN3.out.d HFR.out.j56 EF.out HFR.out.o ?_; rw [HN3.out.w, HN3.out.h])
        | refine wpList_bdR rfl 24 _ rfl zr (by simp only [List.map_toArray, List.map_nil]; exact HBU.out) ?_
        | refine wpList_store_row rfl 24 _ _ rfl (K + 1) zr rfl rfl 24 zr H13.out IZ.out rfl OZ.out ?_)
      exact RET.out _ undef _ _ (STZ.out w3 H13.out).1 rfl (NOT.out _ ((STZ.out w3 H13.out).2 HB3.out) HNO.out)
  · have hkb : (kd == 2) = false := by rw [beq_eq_false_iff_ne]; exact hk2
    have HNO : Hid (¬ (kd = 2 ∧ oer o = 0 ∧ r ≠ none)) := hid (fun h => hk2 h.1)
    go_enter Tryz.func13, Tryz.ntmps13
    go_wp2_with (first | (rw [HWA.out, HW1.out, HK.out]; refine Hid.out ?_) | fail)
    refine hid ?_
    go_wp2_with (first
      | refine wpList_bdR rfl 24 _ rfl zr (by simp only [List.map_toArray, List.map_nil]; exact HBU.out) ?_
      | refine wpList_store_row rfl 24 _ _ rfl (K + 1) zr rfl rfl 24 zr H1.out IZ.out rfl OZ.out ?_)
    exact RET.out _ undef _ _ (STZ.out w1 H1.out).1 rfl (NOT.out _ ((STZ.out w1 H1.out).2 HB1.out) HNO.out)
end Go.Proofs.YtikmbjfambjmaaaGreatDoor.Gr
namespace Go.Proofs.YtikmbjfambjmaaaGreatDoor.Gr
open Go.RowKit Go.Shelf
set_option linter.unusedVariables false
set_option linter.unusedSimpArgs false
structure FI (os : List Oj) (R : Nat → Option (List Er)) (g i : Nat) (W : World) : Prop where
  m : ∃ n M, n ≤ i ∧ FM W g n M ∧ (∀ x, IdW x → (∀ j, j < i → ¬ HitT os R x j) → M x = none) ∧ (∀ x, IdW x → (∃ j, j < i ∧ HitT os R x j) → M x ≠ none) ∧
    (∀ x v, IdW x → M x = some v → ∃ j es ea ec, j < i ∧ HitT os R x j ∧ R j = some es ∧ v = tvO (os.getD j dO) ea es.length ec ∧ Px erV 22 ⟨0, [], []⟩ W ea ec es ∧ (0 < es.length → ∀ p : Addr, ea = some p → p.block ≠ g) ∧ es.length ≤ 1000)
theorem fi_made (os : List Oj) (R : Nat → Option (List Er)) (w : World) : FI os R w.heap.size 0 (w.alloc (.map #[] 0)) := ⟨0, _, Nat.le_refl _, fm_made w, fun _ _ _ => rfl, (fun x _ ⟨j, hj, _⟩ => by omega), (fun x v _ h => by cases h)⟩
theorem FI.grow {os : List Oj} {R : Nat → Option (List Er)} {g i : Nat} {W W' : World} (h : FI os R g i W) (hb : Below W.heap.size W W') : FI os R g i W' := by
  obtain ⟨n, M, h1, h2, h3, h4, h5⟩ := h.m
  refine ⟨n, M, h1, h2.sm (hb.block g h2.lt), h3, h4, fun x v hx hv => ?_⟩
  obtain ⟨j, es, ea, ec, k1, k2, k3, k4, k5, k6, k7⟩ := h5 x v hx hv
  exact ⟨j, es, ea, ec, k1, k2, k3, k4, k5.below hb, k6, k7⟩
theorem Px.but {α : Type} {enc : α → List Value} {k : Nat} {d : α} {w w' : World} {a : Option Addr} {cap g : Nat} {l : List α} (h : Px enc k d w a cap l) (hg : w.grownBy w' (some g)) (hne : 0 < l.length → ∀ p : Addr, a = some p → p.block ≠ g) : Px enc k d w' a cap l :=
  ⟨h.capl, fun h0 => by
    obtain ⟨b, off, e1, e2, e3⟩ := h.at_ h0
    refine ⟨b, off, e1, Nat.lt_of_lt_of_le e2 hg.size, fun i hi j u hu => ?_⟩
    rw [World.cell?_of_block (a := ⟨b, off + i * k + j, none⟩) (hg.block b e2 (fun e => hne h0 _ e1 (by cases e; rfl)))]
    exact e3 i hi j u hu, h.nil⟩
theorem FI.step {os : List Oj} {R : Nat → Option (List Er)} {g i n : Nat} {W W' : World} {M : List Int → Option Value} {o : Oj} {e : Ending} (hn : n ≤ i) (h2 : FM W g n M) (h3 : ∀ x, IdW x → (∀ j, j < i → ¬ HitT os R x j) → M x = none) (h4 : ∀ x, IdW x → (∃ j, j < i ∧ HitT os R x j) → M x ≠ none)
    (h5 : ∀ x v, IdW x → M x = some v → ∃ j es ea ec, j < i ∧ HitT os R x j ∧ R j = some es ∧ v = tvO (os.getD j dO) ea es.length ec ∧ Px erV 22 ⟨0, [], []⟩ W ea ec es ∧ (0 < es.length → ∀ p : Addr, ea = some p → p.block ≠ g) ∧ es.length ≤ 1000)
    (ho : os.getD i dO = o) (hP : PostA o (R i) g n M W e W') : FI os R g (i + 1) W' := by
  obtain ⟨_, hg, ⟨hm, hno⟩ | ⟨es, ea, ec, hk, he, hr, hm, hpx, hpb, hel⟩⟩ := hP
  · have hnh : ∀ x, ¬ HitT os R x i := fun x h => hno ⟨by rw [← ho]; exact h.1, by rw [← ho]; exact h.2.1, h.2.2.2⟩
    refine ⟨n, M, by omega, hm, fun x hx h => h3 x hx (fun j hj => h j (by omega)), fun x hx ⟨j, hj, h⟩ => h4 x hx ⟨j, ?_, h⟩, fun x v hx hv => ?_⟩
    · rcases Nat.lt_or_ge j i with h' | h'
      · exact h'
      · have : j = i := by omega
        rw [this] at h
        exact absurd h (hnh x)
    · obtain ⟨j, es, ea, ec, k1, k2, k3, k4, k5, k6, k7⟩ := h5 x v hx hv
      exact ⟨j, es, ea, ec, by omega, k2, k3, k4, k5.but hg k6, k6, k7⟩
  · have hh : HitT os R (oid o) i := ⟨by rw [ho]; exact hk, by rw [ho]; exact he, by rw [ho], by rw [hr]; simp⟩
    refine ⟨n + 1, _, by omega, hm, fun x hx h => ?_, fun x hx ⟨j, hj, h⟩ => ?_, fun x v hx hv => ?_⟩
    · have hne : x ≠ oid o := fun e => h i (by omega) (by rw [e]; exact hh)
      try simp only
      rw [if_neg hne]
      exact h3 x hx (fun j hj => h j (by omega))
    · try simp only
      by_cases e : x = oid o
      · rw [if_pos e]; simp
      · rw [if_neg e]
        refine h4 x hx ⟨j, ?_, h⟩
        rcases Nat.lt_or_ge j i with h' | h'
        · exact h'
        · have : j = i := by omega
          rw [this] at h
          exact absurd (by rw [← h.2.2.1, ho]) e
    · try simp only at hv
      by_cases e : x = oid o
      · rw [if_pos e] at hv
        cases hv
        exact ⟨i, es, ea, ec, by omega, by rw [e]; exact hh, hr, by rw [ho], hpx, fun _ p hp e2 => by
          have h1 := hpb p hp
          have h2' := h2.lt
          omega, hel⟩
      · rw [if_neg e] at hv
        obtain ⟨j, es, ea, ec, k1, k2, k3, k4, k5, k6, k7⟩ := h5 x v hx hv
        exact ⟨j, es, ea, ec, by omega, k2, k3, k4, k5.but hg k6, k6, k7⟩
theorem FI.fst {os : List Oj} {R : Nat → Option (List Er)} {g : Nat} {W : World} {lk : Lks} (h : FI os R g os.length W) (hlk : Lk os R lk) : Fst W g W.heap.size lk := by
  obtain ⟨n, M, h1, h2, h3, h4, h5⟩ := h.m
  refine ⟨⟨n, M, h2, fun x hx hn => ?_, fun x es hx he => ?_⟩, h2.lt⟩
  · cases hv : M x with
    | none => rfl
    | some v =>
      obtain ⟨j, es, ea, ec, k1, k2, k3, _⟩ := h5 x v hx hv
      have := hlk.of x j k1 k2
      rw [hn, k3] at this
      cases this
  · cases hv : M x with
    | none =>
      exfalso
      have : ∃ j, j < os.length ∧ HitT os R x j := Classical.byContradiction fun hc => by
        have := hlk.no x (fun i hi h => hc ⟨i, hi, h⟩)
        rw [he] at this
        cases this
      exact h4 x hx this hv
    | some v =>
      obtain ⟨j, es', ea, ec, k1, k2, k3, k4, k5, k6, k7⟩ := h5 x v hx hv
      have := hlk.of x j k1 k2
      rw [he, k3] at this
      cases this
      refine ⟨_, _, _, _, ea, ec, by rw [k4]; rfl, k5, fun h0 p hp => ?_, k7⟩
      obtain ⟨b, off, e1, e2, _⟩ := k5.at_ h0
      rw [hp] at e1
      cases e1
      exact e2
end Go.Proofs.YtikmbjfambjmaaaGreatDoor.Gr
