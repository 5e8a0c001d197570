import Derived.Test.YtcicoeneemnbiaaGreatDoorMw11
import Derived.Test.YtcicoeneemnbiaaGreatDoorMw09
import Derived.Shelf.Small.Strs
import Derived.Shelf.SlLaysF0
import Derived.Test.YtcicoeneemnbiaaGreatDoorProg
import Derived.Sort.Statements
import Derived.Sort.Grow
import Derived.RangeFuncNested
import Derived.RangeFuncBound
import Derived.RangeFuncCalls
import Derived.RangeFuncLeaves
import Derived.RangeFuncBox
import Derived.Shelf.Abstract
import Derived.Shelf.RegionOpen
import Derived.WalkKit
import Derived.OwnWalkIn
import Derived.TacticsInMore
import Derived.Sort.LoopGhostIn
namespace Go.Proofs.YtcicoeneemnbiaaGreatDoor
open Go.RowKit
set_option linter.unusedVariables false
set_option linter.unusedSimpArgs false
theorem zc_bv (m : Nat) : Builtin.zeroCells (Value.int .u8 0).cells m = (bv (zs m)).toArray := by
  apply Array.ext'
  simp only [Builtin.zeroCells, Value.cells, bv, zs]
  simp
  apply List.ext_getElem?
  intro i
  by_cases h : i < m
  · simp [h, Nat.mod_one]
  · simp [h]
theorem und3i : Tryz.prog.underlying 3 = some (.int .i64) := by kernel_rfl
theorem own_z {w : World} {B : Nat} {v : Value} {s : Str} (h : w.ownsRow B 5 1 v s.length (bv s)) (hB : B ≤ w.heap.size) (h0 : 0 < s.length) (m : Nat) (hm : 0 < m) (hl : s.length + m ≤ 100000000) (ty : TypeId) :
    ∃ v' w', (Builtin.append_ #[23, 3] ty #[v, .int .i64 (m : Int)]).run Tryz.prog w = .ok v' w' ∧ w'.ownsRow B 5 1 v' (s ++ zs m).length (bv (s ++ zs m)) ∧ w.grownBy w' v.ownBlock := by
  obtain ⟨i5, hi, hz0, hz1, hz2⟩ := info_parts Tryz.info5
  have hzl : (zs m).length = m := by simp [zs]
  have hwr : IntKind.i64.wrap (m : Int) = m := by rw [IntKind.wrap_i64]; omega
  have hneg : ¬ ((m : Int) < 0) := by omega
  have hm0 : m ≠ 0 := by omega
  have h48i : ¬ (281474976710656 < (m : Int)) := by omega
  obtain ⟨hxl, ⟨hv, e0⟩ | ⟨g, cap, cur, hv, hbg, hg, hnc, hcm, hcs, htake⟩⟩ := h
  · omega
  subst hv
  by_cases hroom : s.length + m ≤ cap
  · have hst := run_storeCells_at Tryz.prog g s.length 5 (bv (zs m)) 0 cur w hg (by rw [bv_len, hzl]; omega) (bv_one _)
    simp only [Nat.add_zero] at hst
    refine ⟨.slice (some ⟨g, 0, none⟩) (s.length + m) cap, w.setRow g (cur.toList.take s.length ++ bv (zs m) ++ cur.toList.drop (s.length + (bv (zs m)).length)).toArray, ?_, ⟨by rw [bv_len, Nat.mul_one], .inr ⟨g, cap, _, by rw [List.length_append, hzl], hbg, setRow_heap w g cur _ 5 _ hg, by rw [List.length_append, hzl]; exact hroom, hcm, ?_, ?_⟩⟩, ⟨rfl, rfl, rfl, by simp, fun k _ hk => setRow_other w g k _ (fun e => hk (by simp [Value.ownBlock, e]))⟩⟩
    · simp [Builtin.append_, run_underlying Tryz.underlying23, run_underlying und3i, sizeOf, typeInfo, zeroValue, hi, hz0, hz1, hz2, asInt, asIntOf, hwr, hneg, hm0, h48i, hroom, zc_bv, Addr.add_lit, hst]
    · simp only [List.size_toArray, List.length_append, List.length_take, List.length_drop, Array.length_toList, bv_len, hzl]
      omega
    · rw [Nat.mul_one] at htake
      simp only [List.append_assoc]
      rw [htake, ← List.append_assoc, ← bv_app, List.take_left' (by rw [bv_len, Nat.mul_one])]
  · have hfo := run_firstCells_some (P := Tryz.prog) w.drew 1 s.length ⟨g, 0, none⟩ s.length cap (bv s) (by rw [bv_len, Nat.mul_one]) (fun j u hj => by
      have hlt := (List.getElem?_eq_some_iff.1 hj).1
      rw [bv_len] at hlt
      show w.cell? ((⟨g, 0, none⟩ : Addr).add j) = some u
      rw [addr_add, Nat.zero_add, cell_of_row w g j _ _ _ hg]
      rw [Nat.mul_one] at htake
      rw [← htake, List.getElem?_take_of_lt hlt] at hj
      simpa using hj)
    have hge := grownCap_ge w (s.length + m) cap 5
    have hcm2 : grownCap w (s.length + m) cap 5 ≤ maxLen := grownCap_le_maxLen w (s.length + m) cap 5 (by unfold maxLen; omega)
    have h63' : ¬ (9223372036854775807 < ((s.length : Int) + (m : Int))) := by omega
    have h48' : ¬ (281474976710656 < Builtin.nextslicecap (s.length + m) cap) := by
      have := growslice_fits (need := s.length + m) (old := cap) (bytes := 1) (by omega) (by omega)
      omega
    refine ⟨.slice (some ⟨w.heap.size, 0, none⟩) (s.length + m) (grownCap w (s.length + m) cap 5), w.drew.alloc (.cells ((bv s).toArray ++ (bv (zs m)).toArray ++ Builtin.zeroCells (Value.int .u8 0).cells (grownCap w (s.length + m) cap 5 - (s.length + m))) 5), ?_, ⟨by rw [bv_len, Nat.mul_one], .inr ⟨w.heap.size, _, _, by rw [List.length_append, hzl], hB, heap_alloc_new w.drew _, by rw [List.length_append, hzl]; exact hge, hcm2, ?_, ?_⟩⟩, ⟨rfl, rfl, rfl, by simp, fun k hk _ => by
      show (w.heap.push _)[k]? = _
      rw [Array.getElem?_push_lt hk, Array.getElem?_eq_getElem hk]⟩⟩
    · simp [Builtin.append_, run_underlying Tryz.underlying23, run_underlying und3i, sizeOf, typeInfo, zeroValue, hi, hz0, hz1, hz2, asInt, asIntOf, hwr, hneg, hm0, h48i, hroom, h63', h48', Question.forced, hfo, newRow, grownCap, zc_bv]
    · have hz1 : (Value.int IntKind.u8 0).cells.size = 1 := rfl
      simp only [Array.size_append, List.size_toArray, size_zeroCells, hz1, bv_len, hzl]
      omega
    · simp only [Array.toList_append, List.append_assoc]
      rw [← List.append_assoc, ← bv_app, List.take_left' (by rw [bv_len, Nat.mul_one])]
theorem own_str {w : World} {B : Nat} {v : Value} {s : Str} (h : w.ownsRow B 5 1 v s.length (bv s)) (hB : B ≤ w.heap.size) (t : Str) (hl : s.length + t.length ≤ 100000000) (ty : TypeId) :
    ∃ v' w', (Builtin.append_ #[23, 9] ty #[v, .string ⟨t.toArray⟩]).run Tryz.prog w = .ok v' w' ∧ w'.ownsRow B 5 1 v' (s ++ t).length (bv (s ++ t)) ∧ w.grownBy w' v.ownBlock := by
  obtain ⟨i5, hi, hz0, hz1, hz2⟩ := info_parts Tryz.info5
  obtain ⟨v', w', hr, h1, h2, _⟩ := Lib.run_append_own_string (P := Tryz.prog) w B 23 9 ty 5 i5 Tryz.underlying23 Tryz.underlying9 hi hz0 hz1 hz2 v _ _ h ⟨t.toArray⟩ (by rw [txt_len]; unfold maxLen; omega) (by rw [txt_len]; omega) hB
  refine ⟨v', w', hr, ?_, h2⟩
  rw [txt_len, bv_str, ← bv_app, ← List.length_append] at h1
  exact h1
theorem run_dirc (w : World) : (Instr.buildSlice 23 4 #[(0, .int .u8 68), (1, .int .u8 73), (2, .int .u8 82), (3, .int .u8 67)]).run Tryz.prog w = .ok (.slice (some ⟨w.heap.size, 0, none⟩) 4 4) (w.alloc (.cells #[.int .u8 68, .int .u8 73, .int .u8 82, .int .u8 67] 5)) := by
  obtain ⟨i, hq, hz, hs, _⟩ := info_parts Tryz.info5
  refine run_buildSlice w 23 5 4 _ #[.int .u8 68, .int .u8 73, .int .u8 82, .int .u8 67] i _ Tryz.underlying23 hq hz (by rw [hs]; decide) (by rw [hs]; decide) ?_
  rw [hs]
  kernel_rfl
end Go.Proofs.YtcicoeneemnbiaaGreatDoor
namespace Go.Proofs.YtcicoeneemnbiaaGreatDoor
open Go.RowKit
set_option linter.unusedVariables false
set_option linter.unusedSimpArgs false
structure Fl (w : World) (v : Value) (s : Str) : Prop where
  ex : ∃ g, v = .slice (some ⟨g, 0, none⟩) s.length s.length ∧ g < w.heap.size ∧ ∀ j u, (bv s)[j]? = some u → w.cell? ⟨g, j, none⟩ = some u
def Bz (w : World) (B : Nat) (v : Value) (s : Str) : Prop := w.ownsRow B 5 1 v s.length (bv s) ∨ Fl w v s
theorem Bz.alloc {w : World} {B : Nat} {v : Value} {s : Str} (h : Bz w B v s) (o : Obj) : Bz (w.alloc o) B v s := by
  rcases h with h | ⟨g, h1, h2, h3⟩
  · exact .inl (h.alloc o)
  · refine .inr ⟨g, h1, by rw [size_alloc]; omega, fun j u hj => ?_⟩
    rw [World.cell?_of_block (a := ⟨g, j, none⟩) (show (w.alloc o).heap[g]? = w.heap[g]? by
      show (w.heap.push _)[g]? = _
      rw [Array.getElem?_push_lt h2, Array.getElem?_eq_getElem h2])]
    exact h3 j u hj
theorem wpList_bz {w : World} {ops : Array Oper} {rest : List Oper} {o : Oper} {a : Act} {Q : Exit → Act → World → Prop} (hgd : o.guard = none) (s x : Operand) (ho : o.op = .call { callee := .builtin .append, args := #[s, x], argTypes := #[23, 23] })
    (B : Nat) (v : Value) (l : Str) (hs : a.eval s = v) (h : Bz w B v l) (hB : B ≤ w.heap.size) (ax : Addr) (cx : Nat) (m : Str) (hx : a.eval x = .slice (some ax) m.length cx) (hP : PB w (some ax) cx m) (hm : 0 < m.length) (hl : l.length + m.length ≤ 100000000)
    (hK : ∀ v' w', w'.ownsRow B 5 1 v' (l ++ m).length (bv (l ++ m)) → Below B w w' → B ≤ w'.heap.size → wpList Tryz.prog ops Q rest (a.put o.dst v') w') : wpList Tryz.prog ops Q (o :: rest) a w := by
  rcases h with h | ⟨g, rfl, hlt, hat⟩
  · exact wpList_own hgd s x ho B v l hs h hB (some ax) cx m hx hP hl (fun v' w' h1 h2 _ => hK v' w' h1 ((Below.refl _ _).grown h2 hB (fun q hq => (own_lt h q hq).1)) (Nat.le_trans hB h2.size))
  · obtain ⟨i5, hi, hz0, hz1, hz2⟩ := info_parts Tryz.info5
    obtain ⟨b, off, e1, _⟩ := hP.at_ hm
    cases e1
    have hr := run_append_grow (P := Tryz.prog) w 23 o.type 5 i5 (.int .u8 0) Tryz.underlying23 hi hz0 ⟨g, 0, none⟩ l.length l.length (bv l) (by rw [bv_len, hz1]; simp) (fun j u hj => by rw [addr_add, Nat.zero_add]; exact hat j u hj) ⟨b, off, none⟩ m.length cx (bv m) (by rw [bv_len, hz1]; simp) hP.at (by omega) (by omega) (by rw [hz2]; exact growslice_fits (by omega) (by omega))
    have hge := grownCap_ge w (l.length + m.length) l.length 5
    have hcm : grownCap w (l.length + m.length) l.length 5 ≤ maxLen := grownCap_le_maxLen w (l.length + m.length) l.length 5 (by unfold maxLen; omega)
    generalize grownCap w (l.length + m.length) l.length 5 = cp at hr hge hcm
    have hown : (w.drew.alloc (.cells ((bv l).toArray ++ (bv m).toArray ++ Builtin.zeroCells (Value.int .u8 0).cells (cp - (l.length + m.length))) 5)).ownsRow B 5 1 (.slice (some ⟨w.heap.size, 0, none⟩) (l.length + m.length) cp) (l ++ m).length (bv (l ++ m)) := by
      refine ⟨by rw [bv_len, Nat.mul_one], .inr ⟨w.heap.size, cp, _, by rw [List.length_append], hB, heap_alloc_new w.drew _, by rw [List.length_append]; exact hge, hcm, ?_, ?_⟩⟩
      · have hz1 : (Value.int IntKind.u8 0).cells.size = 1 := rfl
        simp only [Array.size_append, List.size_toArray, size_zeroCells, hz1, bv_len]
        omega
      · simp only [Array.toList_append, List.append_assoc]
        rw [← List.append_assoc, ← bv_app, List.take_left' (by rw [bv_len]; omega)]
    refine wpList_plain hgd fun K hK' => ?_
    unfold Oper.wp execOp
    simp only [ho, resolve, invoke, builtin, Sem.run_bind, Sem.run_pure, Result.andThen_ok, List.map_toArray, List.map_cons, List.map_nil, hs, hx, hr]
    exact hK' _ _ (hK _ _ hown ((Below.drewR (Below.refl _ w)).alloc hB _) (by rw [size_alloc]; show B ≤ w.heap.size + 1; omega))
set_option maxRecDepth 20000 in
set_option maxHeartbeats 2000000 in
theorem number_bz {w : World} {B : Nat} {v : Value} {s : Str} (h : Bz w B v s) (hB : B ≤ w.heap.size) (hs : s.length ≤ 1000000) (n k : Nat) (hn : n < 4294967296) (hk : 1 ≤ k) (hk4 : k ≤ 4) : Calls Tryz.prog 16 #[v, .int .i64 (n : Int), .int .i64 (k : Int)] w (PostNu B (s ++ nb k n) w) := by
  have H0 : Hid (Bz w B v s) := h
  have HB : Hid (B ≤ w.heap.size) := hB
  have HS : Hid (s.length ≤ 1000000) := hs
  clear h hB hs
  go_enter Tryz.func16, Tryz.ntmps16
  go_wp2_with fail
  go_loopg [0, 7] k (fun gg lv iv wr => ∃ d : Nat, d ≤ k ∧ iv = .int .i64 ((k : Int) - 1 - d) ∧ gg = k - d ∧ Hid (Bz wr B lv (s ++ (nb k n).take d)) ∧ Hid (1 ≤ d → wr.ownsRow B 5 1 lv (s ++ (nb k n).take d).length (bv (s ++ (nb k n).take d))) ∧ Hid (Below B w wr) ∧ Hid (B ≤ wr.heap.size))
  case atStart => exact ⟨0, Nat.zero_le _, by simp, rfl, hid (by simpa using H0.out), hid (fun h => by omega), hid (Below.refl _ _), HB⟩
  case round =>
    obtain ⟨d, hd, rfl, hg, HO, HOw, HBW, HBs⟩ := hrel
    by_cases hlt : d < k
    · obtain ⟨i, HI⟩ : ∃ i : Nat, Hid (i = k - 1 - d) := ⟨_, rfl⟩
      have hie : (k : Int) - 1 - (d : Int) = (i : Int) := by rw [HI.out]; omega
      have hi3 : i ≤ 3 := by rw [HI.out]; omega
      have HSN : Hid (s ++ (nb k n).take (d + 1) = s ++ (nb k n).take d ++ [UInt8.ofNat (n / 256 ^ i)]) := hid (by rw [nb_snoc k n d hlt, ← HI.out, List.append_assoc])
      rw [hie]
      obtain ⟨S, HSS⟩ : ∃ S, Hid (s ++ (nb k n).take d = S) := ⟨_, rfl⟩
      rw [HSS.out] at HO HSN
      clear HOw
      have HLen : Hid (S.length ≤ 1000004) := hid (by rw [← HSS.out, List.length_append, List.length_take]; have := HS.out; rw [nb_len]; omega)
      obtain ⟨y, HY⟩ : ∃ y, Hid (UInt8.ofNat (n / 256 ^ i) = y) := ⟨_, rfl⟩
      have hyv : ((y.toNat : Nat) : Int) = ((n / 256 ^ i % 256 : Nat) : Int) := by rw [← HY.out]; simp
      rw [HY.out] at HSN
      have HBL : Hid (∀ V : Int, V = ((n / 256 ^ i % 256 : Nat) : Int) → (Instr.buildSlice 23 1 #[(0, .int .u8 V)]).run Tryz.prog wr = .ok (.slice (some ⟨wr.heap.size, 0, none⟩) 1 1) (wr.alloc (.cells #[.int .u8 (y.toNat : Int)] 5))) := hid (fun V hV => run_byte y V (by rw [hV, hyv]) wr)
      have HP1 : Hid (PB (wr.alloc (.cells #[.int .u8 (y.toNat : Int)] 5)) (some ⟨wr.heap.size, 0, none⟩) 1 [y]) := hid (pb_byte y wr)
      have HO1 : Hid (Bz (wr.alloc (.cells #[.int .u8 (y.toNat : Int)] 5)) B u0 S) := hid (HO.out.alloc _)
      have hB1 : B ≤ (wr.alloc (.cells #[.int .u8 (y.toNat : Int)] 5)).heap.size := by rw [size_alloc]; have := HBs.out; omega
      have HBA : Hid (Below B w (wr.alloc (.cells #[.int .u8 (y.toNat : Int)] 5))) := hid (HBW.out.alloc HBs.out _)
      clear hyv
      rcases (show i = 0 ∨ i = 1 ∨ i = 2 ∨ i = 3 by omega) with rfl | rfl | rfl | rfl
      · have HBV : Hid ((Instr.buildSlice 23 1 #[(0, .int .u8 ((n : Int) % 256))]).run Tryz.prog wr = .ok (.slice (some ⟨wr.heap.size, 0, none⟩) 1 1) (wr.alloc (.cells #[.int .u8 (y.toNat : Int)] 5))) := hid (HBL.out _ (by simp; try omega))
        clear HBL
        go_wp2_with (first
          | (refine wpList_bSY rfl 23 1 _ rfl (.int .u8 ((n : Int) % 256)) _ rfl HBV.out ?_)
          | (refine wpList_bz rfl _ _ rfl B u0 S rfl HO1.out hB1 ⟨wr.heap.size, 0, none⟩ 1 [y] rfl HP1.out (by simp) (by have := HLen.out; simp; omega) ?_; intro v2 w2 ho2 hg2 hl2))
        have HOn : Hid (w2.ownsRow B 5 1 v2 (s ++ (nb k n).take (d + 1)).length (bv (s ++ (nb k n).take (d + 1)))) := hid (by rw [HSN.out]; exact ho2)
        have HBn : Hid (Below B w w2) := hid (HBA.out.trans hg2)
        have HBz : Hid (B ≤ w2.heap.size) := hid hl2
        clear ho2 hg2 hl2
        go_wp2
        go_roundg (k - (d + 1))
        case measure => omega
        case rel => exact ⟨d + 1, by omega, by have := HI.out; first | (go_num; omega) | (congr 1; omega), rfl, hid (.inl HOn.out), hid (fun _ => HOn.out), HBn, HBz⟩
      · have HBV : Hid ((Instr.buildSlice 23 1 #[(0, .int .u8 ((n : Int) / 256 % 256))]).run Tryz.prog wr = .ok (.slice (some ⟨wr.heap.size, 0, none⟩) 1 1) (wr.alloc (.cells #[.int .u8 (y.toNat : Int)] 5))) := hid (HBL.out _ (by simp; try omega))
        clear HBL
        go_wp2_with (first
          | (refine wpList_bSY rfl 23 1 _ rfl (.int .u8 ((n : Int) / 256 % 256)) _ rfl HBV.out ?_)
          | (refine wpList_bz rfl _ _ rfl B u0 S rfl HO1.out hB1 ⟨wr.heap.size, 0, none⟩ 1 [y] rfl HP1.out (by simp) (by have := HLen.out; simp; omega) ?_; intro v2 w2 ho2 hg2 hl2))
        have HOn : Hid (w2.ownsRow B 5 1 v2 (s ++ (nb k n).take (d + 1)).length (bv (s ++ (nb k n).take (d + 1)))) := hid (by rw [HSN.out]; exact ho2)
        have HBn : Hid (Below B w w2) := hid (HBA.out.trans hg2)
        have HBz : Hid (B ≤ w2.heap.size) := hid hl2
        clear ho2 hg2 hl2
        go_wp2
        go_roundg (k - (d + 1))
        case measure => omega
        case rel => exact ⟨d + 1, by omega, by have := HI.out; first | (go_num; omega) | (congr 1; omega), rfl, hid (.inl HOn.out), hid (fun _ => HOn.out), HBn, HBz⟩
      · have HBV : Hid ((Instr.buildSlice 23 1 #[(0, .int .u8 ((n : Int) / 65536 % 256))]).run Tryz.prog wr = .ok (.slice (some ⟨wr.heap.size, 0, none⟩) 1 1) (wr.alloc (.cells #[.int .u8 (y.toNat : Int)] 5))) := hid (HBL.out _ (by simp; try omega))
        clear HBL
        go_wp2_with (first
          | (refine wpList_bSY rfl 23 1 _ rfl (.int .u8 ((n : Int) / 65536 % 256)) _ rfl HBV.out ?_)
          | (refine wpList_bz rfl _ _ rfl B u0 S rfl HO1.out hB1 ⟨wr.heap.size, 0, none⟩ 1 [y] rfl HP1.out (by simp) (by have := HLen.out; simp; omega) ?_; intro v2 w2 ho2 hg2 hl2))
        have HOn : Hid (w2.ownsRow B 5 1 v2 (s ++ (nb k n).take (d + 1)).length (bv (s ++ (nb k n).take (d + 1)))) := hid (by rw [HSN.out]; exact ho2)
        have HBn : Hid (Below B w w2) := hid (HBA.out.trans hg2)
        have HBz : Hid (B ≤ w2.heap.size) := hid hl2
        clear ho2 hg2 hl2
        go_wp2
        go_roundg (k - (d + 1))
        case measure => omega
        case rel => exact ⟨d + 1, by omega, by have := HI.out; first | (go_num; omega) | (congr 1; omega), rfl, hid (.inl HOn.out), hid (fun _ => HOn.out), HBn, HBz⟩
      · have HBV : Hid ((Instr.buildSlice 23 1 #[(0, .int .u8 ((n : Int) / 16777216))]).run Tryz.prog wr = .ok (.slice (some ⟨wr.heap.size, 0, none⟩) 1 1) (wr.alloc (.cells #[.int .u8 (y.toNat : Int)] 5))) := hid (HBL.out _ (by simp; try omega))
        clear HBL
        go_wp2_with (first
          | (refine wpList_bSY rfl 23 1 _ rfl (.int .u8 ((n : Int) / 16777216)) _ rfl HBV.out ?_)
          | (refine wpList_bz rfl _ _ rfl B u0 S rfl HO1.out hB1 ⟨wr.heap.size, 0, none⟩ 1 [y] rfl HP1.out (by simp) (by have := HLen.out; simp; omega) ?_; intro v2 w2 ho2 hg2 hl2))
        have HOn : Hid (w2.ownsRow B 5 1 v2 (s ++ (nb k n).take (d + 1)).length (bv (s ++ (nb k n).take (d + 1)))) := hid (by rw [HSN.out]; exact ho2)
        have HBn : Hid (Below B w w2) := hid (HBA.out.trans hg2)
        have HBz : Hid (B ≤ w2.heap.size) := hid hl2
        clear ho2 hg2 hl2
        go_wp2
        go_roundg (k - (d + 1))
        case measure => omega
        case rel => exact ⟨d + 1, by omega, by have := HI.out; first | (go_num; omega) | (congr 1; omega), rfl, hid (.inl HOn.out), hid (fun _ => HOn.out), HBn, HBz⟩
    · have hdk : d = k := by omega
      subst hdk
      have HF : Hid ((nb d n).take d = nb d n) := hid (List.take_of_length_le (by rw [nb_len]; exact Nat.le_refl _))
      rw [HF.out] at HO HOw
      go_wp2
      go_ret
      exact ⟨_, rfl, HOw.out hk, HBW.out, HBs.out⟩
end Go.Proofs.YtcicoeneemnbiaaGreatDoor
namespace Go.Proofs
open Go.Shelf
def Tryz.lays106_ren : Go.Shelf.Ren := ⟨fun | 106 => 50 | 213 => 67 | 265 => 84 | n => n, fun | 9 => 9 | 3 => 3 | n => n, fun | n => n⟩
theorem Tryz.lays106 : Go.Proofs.Lays.n106 Tryz.prog Tryz.lays106_ren := {
  mixed := by kernel_rfl
  f106 := Tryz.func50.trans (congrArg some (by kernel_rfl))
  f213 := Tryz.func67.trans (congrArg some (by kernel_rfl))
  f265 := Tryz.func84.trans (congrArg some (by kernel_rfl))
  t3 := Tryz.underlying3
  a3 := Tryz.isAgg3
  z3 := Tryz.sizeOf3
  v3 := Tryz.zeroValue3
  t9 := Tryz.underlying9
  a9 := Tryz.isAgg9
  z9 := Tryz.sizeOf9
  v9 := Tryz.zeroValue9 }
def Tryz.sortE_ren : Go.Shelf.Ren := ⟨fun | 6 => 47 | 15 => 66 | 14 => 65 | 28 => 82 | 29 => 83 | 20 => 74 | 21 => 75 | 22 => 76 | 23 => 77 | 24 => 78 | 25 => 79 | 26 => 80 | 27 => 81 | 46 => 92 | 47 => 93 | 48 => 94 | 49 => 95 | 50 => 96 | 57 => 101 | n => n, fun | 22 => 22 | 24 => 32 | 25 => 65 | 3 => 3 | 39 => 68 | 0 => 0 | 53 => 74 | 55 => 73 | 4 => 4 | 46 => 144 | 45 => 143 | 50 => 148 | 5 => 5 | 9 => 9 | 66 => 158 | 70 => 162 | 76 => 168 | 77 => 169 | n => n, fun | n => n⟩
theorem Tryz.sortE : Go.Proofs.SlLaysF0.n6 Tryz.prog Tryz.sortE_ren := {
  mixed := by kernel_rfl
  f6 := ⟨Tryz.f47.name, by decide, Tryz.func47.trans (congrArg some (by kernel_rfl))⟩
  f14 := ⟨Tryz.f65.name, by decide, Tryz.func65.trans (congrArg some (by kernel_rfl))⟩
  f15 := Tryz.func66.trans (congrArg some (by kernel_rfl))
  f20 := ⟨Tryz.f74.name, by decide, Tryz.func74.trans (congrArg some (by kernel_rfl))⟩
  f21 := ⟨Tryz.f75.name, by decide, Tryz.func75.trans (congrArg some (by kernel_rfl))⟩
  f22 := ⟨Tryz.f76.name, by decide, Tryz.func76.trans (congrArg some (by kernel_rfl))⟩
  f23 := ⟨Tryz.f77.name, by decide, Tryz.func77.trans (congrArg some (by kernel_rfl))⟩
  f24 := ⟨Tryz.f78.name, by decide, Tryz.func78.trans (congrArg some (by kernel_rfl))⟩
  f25 := ⟨Tryz.f79.name, by decide, Tryz.func79.trans (congrArg some (by kernel_rfl))⟩
  f26 := ⟨Tryz.f80.name, by decide, Tryz.func80.trans (congrArg some (by kernel_rfl))⟩
  f27 := ⟨Tryz.f81.name, by decide, Tryz.func81.trans (congrArg some (by kernel_rfl))⟩
  f28 := Tryz.func82.trans (congrArg some (by kernel_rfl))
  f29 := Tryz.func83.trans (congrArg some (by kernel_rfl))
  f46 := ⟨Tryz.f92.name, by decide, Tryz.func92.trans (congrArg some (by kernel_rfl))⟩
  f47 := Tryz.func93.trans (congrArg some (by kernel_rfl))
  f48 := Tryz.func94.trans (congrArg some (by kernel_rfl))
  f49 := ⟨Tryz.f95.name, by decide, Tryz.func95.trans (congrArg some (by kernel_rfl))⟩
  f50 := ⟨Tryz.f96.name, by decide, Tryz.func96.trans (congrArg some (by kernel_rfl))⟩
  f57 := ⟨Tryz.f101.name, by decide, Tryz.func101.trans (congrArg some (by kernel_rfl))⟩
  t0 := Tryz.underlying0
  a0 := Tryz.isAgg0
  z0 := Tryz.sizeOf0
  v0 := Tryz.zeroValue0
  t3 := Tryz.underlying3
  a3 := Tryz.isAgg3
  z3 := Tryz.sizeOf3
  v3 := Tryz.zeroValue3
  t4 := Tryz.underlying4
  a4 := Tryz.isAgg4
  z4 := Tryz.sizeOf4
  v4 := Tryz.zeroValue4
  t5 := Tryz.underlying5
  a5 := Tryz.isAgg5
  z5 := Tryz.sizeOf5
  v5 := Tryz.zeroValue5
  t9 := Tryz.underlying9
  a9 := Tryz.isAgg9
  z9 := Tryz.sizeOf9
  v9 := Tryz.zeroValue9
  t22 := Tryz.underlying22
  a22 := Tryz.isAgg22
  z22 := Tryz.sizeOf22
  v22 := Tryz.zeroValue22
  t25 := Tryz.underlying65
  a25 := Tryz.isAgg65
  z25 := Tryz.sizeOf65
  v25 := Tryz.zeroValue65
  t39 := Tryz.underlying68
  a39 := Tryz.isAgg68
  z39 := Tryz.sizeOf68
  v39 := Tryz.zeroValue68
  t45 := Tryz.underlying143
  a45 := Tryz.isAgg143
  z45 := Tryz.sizeOf143
  v45 := Tryz.zeroValue143
  t46 := Tryz.underlying144
  a46 := Tryz.isAgg144
  z46 := Tryz.sizeOf144
  v46 := Tryz.zeroValue144
  t50 := Tryz.underlying148
  a50 := Tryz.isAgg148
  z50 := Tryz.sizeOf148
  v50 := Tryz.zeroValue148
  t53 := Tryz.underlying74
  a53 := Tryz.isAgg74
  z53 := Tryz.sizeOf74
  v53 := Tryz.zeroValue74
  t55 := Tryz.underlying73
  a55 := Tryz.isAgg73
  z55 := Tryz.sizeOf73
  v55 := Tryz.zeroValue73
  t66 := Tryz.underlying158
  a66 := Tryz.isAgg158
  z66 := Tryz.sizeOf158
  v66 := Tryz.zeroValue158
  t70 := Tryz.underlying162
  a70 := Tryz.isAgg162
  z70 := Tryz.sizeOf162
  v70 := Tryz.zeroValue162
  t76 := Tryz.underlying168
  a76 := Tryz.isAgg168
  z76 := Tryz.sizeOf168
  v76 := Tryz.zeroValue168
  t77 := Tryz.underlying169
  a77 := Tryz.isAgg169
  z77 := Tryz.sizeOf169
  v77 := Tryz.zeroValue169 }
end Go.Proofs
namespace Go.Proofs.YtcicoeneemnbiaaGreatDoor
open Go.RowKit
set_option linter.unusedVariables false
set_option linter.unusedSimpArgs false
theorem compare_any (a b : List UInt8) (w : World) : Calls Tryz.prog 50 #[.string ⟨a.toArray⟩, .string ⟨b.toArray⟩] w fun e w' => e = .returned (.int .i64 (Lib.compareBytes a b)) ∧ w' = w :=
  Any.strings_Compare Tryz.lays106 ⟨a.toArray⟩ ⟨b.toArray⟩ w
theorem nan_any (x : Int) (w : World) : Calls Tryz.prog 68 #[.int .i64 x] w fun e w' => e = .returned (.bool false) ∧ w' = w := by
  go_enter Tryz.func68, Tryz.ntmps68
  go_wp2
  go_ret
  exact ⟨rfl, rfl⟩
def cmpI (x y : Int) : Int := if x < y then -1 else if y < x then 1 else 0
set_option maxRecDepth 20000 in
theorem cmp_any (x y : Int) (w : World) : Calls Tryz.prog 51 #[.int .i64 x, .int .i64 y] w fun e w' => e = .returned (.int .i64 (cmpI x y)) ∧ w' = w := by
  obtain ⟨z, HZ⟩ : ∃ z, Hid (cmpI x y = z) := ⟨_, rfl⟩
  rw [HZ.out]
  have N1 : Hid (Calls Tryz.prog 68 #[.int .i64 x] w fun e w' => e = .returned (.bool false) ∧ w' = w) := nan_any x w
  have N2 : Hid (Calls Tryz.prog 68 #[.int .i64 y] w fun e w' => e = .returned (.bool false) ∧ w' = w) := nan_any y w
  go_enter Tryz.func51, Tryz.ntmps51
  go_wp2_with fail
  refine N1.out.mono ?_
  rintro e w1 ⟨rfl, hw⟩
  rw [hw]
  clear hw w1
  go_wp2_with fail
  refine N2.out.mono ?_
  rintro e w1 ⟨rfl, hw⟩
  rw [hw]
  clear hw w1
  by_cases h1 : x < y
  · have HC : Hid (cmpI x y = -1) := hid (by unfold cmpI; rw [if_pos h1])
    go_wp2
    go_ret
    exact ⟨by rw [← HZ.out, HC.out]; rfl, rfl⟩
  · by_cases h2 : y < x
    · have HC : Hid (cmpI x y = 1) := hid (by unfold cmpI; rw [if_neg h1, if_pos h2])
      go_wp2
      go_ret
      exact ⟨by rw [← HZ.out, HC.out]; rfl, rfl⟩
    · have HC : Hid (cmpI x y = 0) := hid (by unfold cmpI; rw [if_neg h1, if_neg h2])
      go_wp2
      go_ret
      exact ⟨by rw [← HZ.out, HC.out]; rfl, rfl⟩
def orI (x y : Int) : Int := if x ≠ 0 then x else y
set_option maxRecDepth 20000 in
set_option maxHeartbeats 1000000 in
theorem or_any (g : Nat) (x y : Int) (w : World) (h0 : w.cell? ⟨g, 0, none⟩ = some (.int .i64 x)) (h1 : w.cell? ⟨g, 1, none⟩ = some (.int .i64 y)) : Calls Tryz.prog 49 #[.slice (some ⟨g, 0, none⟩) 2 2] w fun e w' => e = .returned (.int .i64 (orI x y)) ∧ w' = w := by
  obtain ⟨z, HZ⟩ : ∃ z, Hid (orI x y = z) := ⟨_, rfl⟩
  rw [HZ.out]
  go_enter Tryz.func49, Tryz.ntmps49
  go_wp2_with fail
  go_loopg [8] 2 (fun gg iv wr => ∃ i : Nat, iv = .int .i64 i ∧ i ≤ 2 ∧ gg = 2 - i ∧ wr = w ∧ Hid (1 ≤ i → x = 0) ∧ Hid (2 ≤ i → y = 0))
  case atStart => exact ⟨0, rfl, Nat.zero_le _, rfl, rfl, hid (fun h => by omega), hid (fun h => by omega)⟩
  case round =>
    obtain ⟨i, rfl, hi, hk, rfl, H1, H2⟩ := hrel
    rcases (show i = 0 ∨ i = 1 ∨ i = 2 by omega) with rfl | rfl | rfl
    · by_cases hx : x = 0
      · have HX : Hid (x = 0) := hx
        go_wp2
        go_roundg 1
        case measure => omega
        case rel => exact ⟨1, by go_num, by omega, rfl, rfl, hid (fun _ => HX.out), hid (fun h => by omega)⟩
      · have HC : Hid (orI x y = x) := hid (by unfold orI; rw [if_pos hx])
        go_wp2
        go_ret
        exact ⟨by rw [← HZ.out, HC.out]; rfl, rfl⟩
    · by_cases hy : y = 0
      · have HX : Hid (y = 0) := hy
        go_wp2
        go_roundg 0
        case measure => omega
        case rel => exact ⟨2, by go_num, by omega, rfl, rfl, hid (fun _ => H1.out (by omega)), hid (fun _ => HX.out)⟩
      · have HC : Hid (orI x y = y) := hid (by unfold orI; rw [if_neg (by simpa using H1.out (by omega))])
        go_wp2
        go_ret
        exact ⟨by rw [← HZ.out, HC.out]; rfl, rfl⟩
    · have HC : Hid (orI x y = 0) := hid (by unfold orI; rw [if_neg (by simpa using H1.out (by omega)), H2.out (by omega)])
      go_wp2
      go_ret
      exact ⟨by rw [← HZ.out, HC.out]; rfl, rfl⟩
end Go.Proofs.YtcicoeneemnbiaaGreatDoor
namespace Go.Proofs.YtcicoeneemnbiaaGreatDoor
open Go.RowKit
set_option linter.unusedVariables false
set_option linter.unusedSimpArgs false
def Grew (w w' : World) : Prop := ∃ q os, w' = Sort.grow (w.drewN q) os
theorem Grew.below {w w' : World} (h : Grew w w') : Below w.heap.size w w' := by
  obtain ⟨q, os, rfl⟩ := h
  refine ⟨rfl, rfl, rfl, by simp [Sort.grow], fun k hk => ?_⟩
  show (w.heap ++ os)[k]? = _
  rw [Array.getElem?_append_left hk]
theorem Grew.alloc (w : World) (o : Obj) : Grew w (w.alloc o) := ⟨0, #[o], by rw [Sort.alloc_eq_grow]; rfl⟩
theorem Grew.refl (w : World) : Grew w w := ⟨0, #[], by simp [Sort.grow, World.drewN]⟩
theorem Grew.drew (w : World) : Grew w w.drew := ⟨1, #[], by rw [World.drew_is_drewN]; simp [Sort.grow]; rfl⟩
theorem Grew.trans {a b c : World} (h : Grew a b) (k : Grew b c) : Grew a c := by
  obtain ⟨q, os, rfl⟩ := h
  obtain ⟨q2, os2, rfl⟩ := k
  refine ⟨q + q2, os ++ os2, ?_⟩
  simp [Sort.grow, World.drewN, Nat.add_assoc, Array.append_assoc]
def cmpY (x y : Ey) : Int := orI (Lib.compareBytes x.path y.path) (cmpI x.stage y.stage)
structure Q2 (G H : Nat) (A B : ByteArray) (s t : Int) (W : World) : Prop where
  a0 : W.cell? ⟨G, 0, none⟩ = some (.string A)
  a1 : W.cell? ⟨G, 23, none⟩ = some (.int .i64 s)
  b0 : W.cell? ⟨H, 0, none⟩ = some (.string B)
  b1 : W.cell? ⟨H, 23, none⟩ = some (.int .i64 t)
theorem Q2.below {G H : Nat} {A B : ByteArray} {s t : Int} {W W' : World} (h : Q2 G H A B s t W) (hG : G < W.heap.size) (hH : H < W.heap.size) (hb : Below W.heap.size W W') : Q2 G H A B s t W' :=
  ⟨(hb.cell (p := ⟨G, 0, none⟩) hG).trans h.a0, (hb.cell (p := ⟨G, 23, none⟩) hG).trans h.a1, (hb.cell (p := ⟨H, 0, none⟩) hH).trans h.b0, (hb.cell (p := ⟨H, 23, none⟩) hH).trans h.b1⟩
theorem enter50 (v1 v2 : Value) (w : World) : (callFunc 50 #[v1, v2]).run Tryz.prog w = .ok (.enter 50 #[v1, v2]) w := by kernel_rfl
theorem enter51 (v1 v2 : Value) (w : World) : (callFunc 51 #[v1, v2]).run Tryz.prog w = .ok (.enter 51 #[v1, v2]) w := by kernel_rfl
theorem enter49 (v : Value) (w : World) : (callFunc 49 #[v]).run Tryz.prog w = .ok (.enter 49 #[v]) w := by kernel_rfl
set_option maxRecDepth 20000 in
set_option maxHeartbeats 1000000 in
theorem byOrder_any (x y : Ey) (lx : x.id.length = 20) (ly : y.id.length = 20) (w : World) : Calls Tryz.prog 27 #[.agg (encY x).toArray, .agg (encY y).toArray] w fun e w' => e = .returned (.int .i64 (cmpY x y)) ∧ Grew w w' := by
  have hcx := cy x lx
  have hcy := cy y ly
  obtain ⟨X, HX⟩ : ∃ X, Hid ((encY x).toArray = X) := ⟨_, rfl⟩
  obtain ⟨Y, HY⟩ : ∃ Y, Hid ((encY y).toArray = Y) := ⟨_, rfl⟩
  rw [HX.out] at hcx ⊢
  rw [HY.out] at hcy ⊢
  obtain ⟨A, HA⟩ : ∃ A : ByteArray, Hid (⟨x.path.toArray⟩ = A) := ⟨_, rfl⟩
  obtain ⟨B, HB⟩ : ∃ B : ByteArray, Hid (⟨y.path.toArray⟩ = B) := ⟨_, rfl⟩
  obtain ⟨c1, HC1⟩ : ∃ c, Hid (Lib.compareBytes x.path y.path = c) := ⟨_, rfl⟩
  obtain ⟨c2, HC2⟩ : ∃ c, Hid (cmpI x.stage y.stage = c) := ⟨_, rfl⟩
  have HS : Hid (∀ W, Calls Tryz.prog 50 #[.string A, .string B] W fun e w' => e = .returned (.int .i64 c1) ∧ w' = W) := fun W => by rw [← HA.out, ← HB.out, ← HC1.out]; exact compare_any _ _ W
  have HI : Hid (∀ W, Calls Tryz.prog 51 #[.int .i64 x.stage, .int .i64 y.stage] W fun e w' => e = .returned (.int .i64 c2) ∧ w' = W) := fun W => by rw [← HC2.out]; exact cmp_any _ _ W
  obtain ⟨g, HG⟩ : ∃ g, Hid (w.heap.size = g) := ⟨_, rfl⟩
  obtain ⟨w0, HW0⟩ : ∃ w0, Hid ((w.alloc (.cells X 32)).alloc (.cells Y 32) = w0) := ⟨_, rfl⟩
  have HGW : Hid (Grew w w0.drew) := hid (by rw [← HW0.out]; exact ((Grew.alloc w _).trans (Grew.alloc _ _)).trans (Grew.drew _))
  have HQ0 : Hid (Q2 g (g + 1) A B x.stage y.stage w0.drew) := hid (by
    rw [← HW0.out, ← HG.out, ← HA.out, ← HB.out]
    have hs : (w.alloc (.cells X 32)).heap.size = w.heap.size + 1 := by simp
    have q1 : ∀ i v, X[i]? = some v → ((w.alloc (.cells X 32)).alloc (.cells Y 32)).cell? ⟨w.heap.size, i, none⟩ = some v := fun i v hv => by
      rw [World.cell?_of_block (a := ⟨w.heap.size, i, none⟩) (Below.heap_alloc _ _ _ (by rw [hs]; show w.heap.size < _; omega))]
      exact cellN hv
    have q2 : ∀ i v, Y[i]? = some v → ((w.alloc (.cells X 32)).alloc (.cells Y 32)).cell? ⟨w.heap.size + 1, i, none⟩ = some v := fun i v hv => by
      rw [← hs]
      exact cellN hv
    exact ⟨q1 _ _ hcx.c0, q1 _ _ hcx.c23, q2 _ _ hcy.c0, q2 _ _ hcy.c23⟩)
  have hsz : g + 1 < w0.drew.heap.size := by
    rw [← HW0.out, ← HG.out]
    show w.heap.size + 1 < ((w.heap.push _).push _).size
    simp
  obtain ⟨z, HZ⟩ : ∃ z, Hid (orI c1 c2 = z) := ⟨_, rfl⟩
  have HO : Hid (∀ W : World, Calls Tryz.prog 49 #[.slice (some ⟨W.heap.size, 0, none⟩) 2 2] (W.alloc (.cells #[.int .i64 c1, .int .i64 c2] 3)) fun e w' => e = .returned (.int .i64 z) ∧ w' = W.alloc (.cells #[.int .i64 c1, .int .i64 c2] 3)) := fun W => by
    rw [← HZ.out]
    exact or_any W.heap.size c1 c2 _ (cellN rfl) (cellN rfl)
  have HF : Hid (cmpY x y = z) := hid (by unfold cmpY; rw [HC1.out, HC2.out, HZ.out])
  rw [HF.out]
  clear hcx hcy
  go_enter Tryz.func27, Tryz.ntmps27
  go_wp2_with fail
  rw [HG.out, HW0.out]
  refine wp_region_held_drew (S := Q2 g (g + 1) A B x.stage y.stage) (by kernel_rfl) (by exact HQ0.out) (fun hHeld => ?_)
  generalize w0.drew = wd at hHeld HGW hsz ⊢
  refine takeL (i := 0) (v := ?_) rfl (by kernel_rfl) (by kernel_rfl) (by kernel_rfl) (fun _ _ _ h => h) (Or.inl ⟨by rfl, ?_⟩) hHeld ?_
  rotate_left
  · rintro w' ⟨s0, s1, s2, s3⟩; go_simp; rfl
  try simp only [Act.put, List.setIfInBounds_toArray, List.set_cons_zero, List.set_cons_succ]
  refine takeL (i := 1) (v := ?_) rfl (by kernel_rfl) (by kernel_rfl) (by kernel_rfl) (fun _ _ _ h => h) (Or.inl ⟨by rfl, ?_⟩) hHeld ?_
  rotate_left
  · rintro w' ⟨s0, s1, s2, s3⟩; go_simp; rfl
  try simp only [Act.put, List.setIfInBounds_toArray, List.set_cons_zero, List.set_cons_succ]
  refine takeL (i := 2) (v := ?_) rfl (by kernel_rfl) (by kernel_rfl) (by kernel_rfl) (fun _ _ _ h => h) (Or.inl ⟨by rfl, ?_⟩) hHeld ?_
  rotate_left
  · rintro w' ⟨s0, s1, s2, s3⟩; go_simp; rfl
  try simp only [Act.put, List.setIfInBounds_toArray, List.set_cons_zero, List.set_cons_succ]
  refine takeL (i := 3) (v := ?_) rfl (by kernel_rfl) (by kernel_rfl) (by kernel_rfl) (fun _ _ _ h => h) (Or.inl ⟨by rfl, ?_⟩) hHeld ?_
  rotate_left
  · rintro w' ⟨s0, s1, s2, s3⟩; go_simp; rfl
  try simp only [Act.put, List.setIfInBounds_toArray, List.set_cons_zero, List.set_cons_succ]
  refine takeL (i := 5) (v := ?_) rfl (by kernel_rfl) (by kernel_rfl) (by kernel_rfl) (fun _ _ _ h => h) (Or.inl ⟨by rfl, ?_⟩) hHeld ?_
  rotate_left
  · rintro w' ⟨s0, s1, s2, s3⟩; go_simp; rfl
  try simp only [Act.put, List.setIfInBounds_toArray, List.set_cons_zero, List.set_cons_succ]
  refine takeL (i := 6) (v := ?_) rfl (by kernel_rfl) (by kernel_rfl) (by kernel_rfl) (fun _ _ _ h => h) (Or.inl ⟨by rfl, ?_⟩) hHeld ?_
  rotate_left
  · rintro w' ⟨s0, s1, s2, s3⟩; go_simp; rfl
  try simp only [Act.put, List.setIfInBounds_toArray, List.set_cons_zero, List.set_cons_succ]
  refine takeL (i := 7) (v := ?_) rfl (by kernel_rfl) (by kernel_rfl) (by kernel_rfl) (fun _ _ _ h => h) (Or.inl ⟨by rfl, ?_⟩) hHeld ?_
  rotate_left
  · rintro w' ⟨s0, s1, s2, s3⟩; go_simp; rfl
  try simp only [Act.put, List.setIfInBounds_toArray, List.set_cons_zero, List.set_cons_succ]
  refine takeL (i := 8) (v := ?_) rfl (by kernel_rfl) (by kernel_rfl) (by kernel_rfl) (fun _ _ _ h => h) (Or.inl ⟨by rfl, ?_⟩) hHeld ?_
  rotate_left
  · rintro w' ⟨s0, s1, s2, s3⟩; go_simp; rfl
  try simp only [Act.put, List.setIfInBounds_toArray, List.set_cons_zero, List.set_cons_succ]
  refine wpAnyH_ready (rs := [4]) (by kernel_rfl) (by simp) ?_
  refine consL rfl (fun KK hKK => ?_) AllReadyH.nil
  refine step_callv (by rfl) 50 [.tmp 6, .tmp 8] _ [.string A, .string B] _ (by rfl) (by rfl) (enter50 _ _) (HS.out _) ?_
  rintro e w' ⟨rfl, hw⟩
  rw [hw]
  clear hw w'
  refine ⟨_, rfl, ?_⟩
  refine hKK.out _ _ hHeld (fun hHeldN => ?_)
  clear hKK KK hHeldN
  try simp only [Act.put, List.setIfInBounds_toArray, List.set_cons_zero, List.set_cons_succ]
  refine wpAnyH_ready (rs := [9]) (by kernel_rfl) (by simp) ?_
  refine consL rfl (fun KK hKK => ?_) AllReadyH.nil
  refine step_callv (by rfl) 51 [.tmp 11, .tmp 13] _ [.int .i64 x.stage, .int .i64 y.stage] _ (by rfl) (by rfl) (enter51 _ _) (HI.out _) ?_
  rintro e w' ⟨rfl, hw⟩
  rw [hw]
  clear hw w'
  refine ⟨_, rfl, ?_⟩
  refine hKK.out _ _ hHeld (fun hHeldN => ?_)
  clear hKK KK hHeldN
  try simp only [Act.put, List.setIfInBounds_toArray, List.set_cons_zero, List.set_cons_succ]
  refine wpAnyH_ready (rs := [10]) (by kernel_rfl) (by simp) ?_
  refine consL rfl (fun KK hKK => ?_) AllReadyH.nil
  refine step_exec (by rfl) (.slice (some ⟨wd.heap.size, 0, none⟩) 2 2) (w' := wd.alloc (.cells #[.int .i64 c1, .int .i64 c2] 3)) (by go_simp) ?_
  have HH2 := hHeld.below (by omega) hsz ((Below.refl _ wd).alloc (Nat.le_refl _) (.cells #[.int .i64 c1, .int .i64 c2] 3))
  refine hKK.out _ _ HH2 (fun hHeldN => ?_)
  clear hKK KK hHeldN
  try simp only [Act.put, List.setIfInBounds_toArray, List.set_cons_zero, List.set_cons_succ]
  refine wpAnyH_ready (rs := [11]) (by kernel_rfl) (by simp) ?_
  refine consL rfl (fun KK hKK => ?_) AllReadyH.nil
  refine step_callv (by rfl) 49 [.tmp 15] _ [.slice (some ⟨wd.heap.size, 0, none⟩) 2 2] _ (by rfl) (by rfl) (enter49 _) (HO.out wd) ?_
  rintro e w' ⟨rfl, hw⟩
  rw [hw]
  clear hw w'
  refine ⟨_, rfl, ?_⟩
  refine hKK.out _ _ HH2 (fun hHeldN => ?_)
  clear hKK KK hHeldN
  try simp only [Act.put, List.setIfInBounds_toArray, List.set_cons_zero, List.set_cons_succ]
  refine takeL (i := 12) (v := ?_) rfl (by kernel_rfl) (by kernel_rfl) (by kernel_rfl) (fun _ _ _ h => h) (Or.inl ⟨by rfl, ?_⟩) HH2 ?_
  rotate_left
  · rintro w' ⟨s0, s1, s2, s3⟩; go_simp; rfl
  try simp only [Act.put, List.setIfInBounds_toArray, List.set_cons_zero, List.set_cons_succ]
  refine wpAnyH_done (by kernel_rfl) ?_ _
  go_wp2
  go_ret
  exact ⟨rfl, HGW.out.trans (Grew.alloc _ _)⟩
end Go.Proofs.YtcicoeneemnbiaaGreatDoor
namespace Go.Proofs.YtcicoeneemnbiaaGreatDoor
open Go.RowKit Go.Shelf
set_option linter.unusedVariables false
set_option linter.unusedSimpArgs false
theorem hg_alloc (w : World) (o : Obj) : w.grownBy (w.alloc o) none := World.grownBy_alloc w o none
def SeqAll {α : Type} (F : Fence) (n : Nat) (P : Program) (g : Nat) (lb : Array Value) (encs : α → Array Value) (Fx : α → World → Prop) (Kp : Nat → World → World → Prop) (S : List α → Prop) (N : Nat) (w0 : World) : Prop :=
  ∀ (l : Nat) (J : List α → World → Prop) (W : World), Below w0.heap.size w0 W → w0.heap.size ≤ l → l < W.heap.size →
    (∀ s A B, J s A → A.grownBy B none → J s B) →
    (∀ pre x W1, J pre W1 → Fx x W1 → pre.length < N → YieldAt F (n - 1) P l (encs x) W1 fun e W' => e = .returned (.bool true) ∧ J (pre ++ [x]) W' ∧ Kp l W1 W') →
    J [] W →
    CallsIn F n P g (#[.func (.yield l) #[] #[]] ++ lb) W fun e W' => (∃ v, e = .returned v) ∧ ∃ xs, S xs ∧ J xs W'
def Ob (X : Nat) (W : World) (k : Nat) : Prop := ∃ v, W.cell? ⟨X, 0, none⟩ = some v ∧ v.ownBlock = some k
structure Kx (X l : Nat) (A B : World) : Prop where
  os : B.os = A.os
  tape : B.tape = A.tape
  output : B.output = A.output
  size : A.heap.size ≤ B.heap.size
  at_ : ∀ k, Ob X B k → Ob X A k ∨ A.heap.size ≤ k
  blk : ∀ k, k < A.heap.size → k ≠ X → k ≠ l → ¬ Ob X A k → B.heap[k]? = A.heap[k]?
  bd : (∀ k, Ob X A k → k < A.heap.size) → ∀ k, Ob X B k → k < B.heap.size
theorem Kx.refl (X l : Nat) (A : World) : Kx X l A A := ⟨rfl, rfl, rfl, Nat.le_refl _, fun _ h => .inl h, fun _ _ _ _ _ => rfl, fun h => h⟩
theorem Kx.trans {X l : Nat} {A B C : World} (h : Kx X l A B) (k : Kx X l B C) : Kx X l A C := by
  have hs := h.size
  refine ⟨k.os.trans h.os, k.tape.trans h.tape, k.output.trans h.output, Nat.le_trans h.size k.size, fun i hi => ?_, fun i h1 h2 h3 h4 => ?_, fun hb => k.bd (h.bd hb)⟩
  · rcases k.at_ i hi with g | g
    · exact h.at_ i g
    · exact .inr (by omega)
  · refine (k.blk i (by omega) h2 h3 (fun ho => ?_)).trans (h.blk i h1 h2 h3 h4)
    rcases h.at_ i ho with g | g
    · exact h4 g
    · omega
theorem Kx.grow {X l : Nat} {A B : World} (hX : X < A.heap.size) (h : A.grownBy B none) : Kx X l A B :=
  ⟨h.os, h.tape, h.output, h.size, fun k ⟨v, h1, h2⟩ => .inl ⟨v, by rw [← h1]; exact (World.cell?_of_block (a := ⟨X, 0, none⟩) (h.block X hX (by simp))).symm, h2⟩, fun k h1 _ _ _ => h.block k h1 (by simp), fun hb k ⟨v, h1, h2⟩ => Nat.lt_of_lt_of_le (hb k ⟨v, by rw [← h1]; exact (World.cell?_of_block (a := ⟨X, 0, none⟩) (h.block X hX (by simp))).symm, h2⟩) h.size⟩
theorem Kx.loop {X l : Nat} {W : World} {r r' : Loop} (hX : X ≠ l) : Kx X l W (W.putObj l (.loop r')) :=
  ⟨rfl, rfl, rfl, by rw [World.putObj_size]; exact Nat.le_refl _, fun k ⟨v, h1, h2⟩ => .inl ⟨v, by rw [← h1]; exact (World.cell?_of_block (a := ⟨X, 0, none⟩) (World.putObj_heap_other hX)).symm, h2⟩, fun k h1 _ h3 _ => World.putObj_heap_other h3, fun hb k ⟨v, h1, h2⟩ => by rw [World.putObj_size]; exact hb k ⟨v, by rw [← h1]; exact (World.cell?_of_block (a := ⟨X, 0, none⟩) (World.putObj_heap_other hX)).symm, h2⟩⟩
theorem Kx.keep {X l k : Nat} {A B : World} (h : Kx X l A B) (h1 : k < A.heap.size) (h2 : k ≠ X) (h3 : k ≠ l) (h4 : ¬ Ob X A k) : B.heap[k]? = A.heap[k]? := h.blk k h1 h2 h3 h4
structure Fre (X : Nat) (w : World) (k : Nat) : Prop where
  lt : k < w.heap.size
  ne : k ≠ X
  no : ¬ Ob X w k
theorem Fre.kx {X l k : Nat} {A B : World} (h : Fre X A k) (hk : Kx X l A B) : Fre X B k :=
  ⟨Nat.lt_of_lt_of_le h.lt hk.size, h.ne, fun ho => by rcases hk.at_ k ho with g | g; exact h.no g; have := h.lt; omega⟩
theorem boxed_kx {X l B t : Nat} {v : Value} {A W : World} (h : Boxed A B t v) (hk : Kx X l A W) (hf : Fre X A B) (hl : B ≠ l) : Boxed W B t v := (hk.blk B hf.lt hf.ne hl hf.no).trans h
end Go.Proofs.YtcicoeneemnbiaaGreatDoor
