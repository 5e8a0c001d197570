/- 'maps.Keys' of a set, 'slices.AppendSeq', 'slices.Collect'. -/
import Derived.Test.YtjgjeedablgmeaaDoorGtA
namespace Go.Proofs.YtjgjeedablgmeaaDoor
open Go.RowKit Go.Shelf Go.Maps
set_option linter.unusedVariables false
set_option linter.unusedSectionVars false
set_option linter.unusedSimpArgs false
attribute [local go_sem] Oper.semAt_some
def encI (x : List Int) : Array Value := #[.agg (row .u8 x).toArray]
theorem und67 : Tryd.prog.underlying 67 = some (.map 42 105) := by kernel_rfl
theorem SI.range67 {w : World} {g n : Nat} {S : List Int → Prop} (h : SI w g n S) : ∃ w' cnt, (Instr.range 67 (.map (some g))).run Tryd.prog w = .ok (.pointer (some ⟨w.heap.size, 0, none⟩)) w' ∧ SR w' g w.heap.size n S S cnt ∧ cnt ≤ n ∧ w.grownBy w' none := by
  obtain ⟨D, h1, h2⟩ := h
  obtain ⟨w', hrun, r1, r2, r3⟩ := h1.range keyed42 und67
  exact ⟨w', _, hrun, ⟨D, _, r1, h2, h2⟩, h1.size_le, r2⟩
/-- What is listed: just those of a set, each once. -/
structure Lst' (S : List Int → Prop) (xs : List (List Int)) : Prop where
  one : xs.Nodup
  idw : ∀ y ∈ xs, IdW y
  all : ∀ y, IdW y → (y ∈ xs ↔ S y)
theorem SI.kx {X l : Nat} {A B : World} {g n : Nat} {S : List Int → Prop} (h : SI A g n S) (hk : Kx X l A B) (hf : Fre X A g) (hl : g ≠ l) : SI B g n S := by
  obtain ⟨D, ⟨es, clock, hb, rest⟩, h2⟩ := h
  exact ⟨D, ⟨es, clock, (hk.blk g hf.lt hf.ne hl hf.no).trans hb, rest⟩, h2⟩
theorem SR.kx {X l : Nat} {A B : World} {g r n cnt : Nat} {S Lf : List Int → Prop} (h : SR A g r n S Lf cnt) (hk : Kx X l A B) (hf : Fre X A g) (hl : g ≠ l) (hf2 : Fre X A r) (hl2 : r ≠ l) : SR B g r n S Lf cnt := by
  obtain ⟨D, left, ⟨es, clock, since, seen, c0, hb, F, hs, hD, hr, rest⟩, h2⟩ := h
  exact ⟨D, left, ⟨es, clock, since, seen, c0, (hk.blk g hf.lt hf.ne hl hf.no).trans hb, F, hs, hD, (hk.blk r hf2.lt hf2.ne hl2 hf2.no).trans hr, rest⟩, h2⟩
set_option maxRecDepth 100000 in
set_option maxHeartbeats 4000000 in
theorem keys_all (n : Nat) (hn : 1 ≤ n) (w : World) (X Bs g ns : Nat) (S : List Int → Prop) (hS : SI w g ns S) (hl : ns ≤ 1000) (hbs : Boxed w Bs 67 (.map (some g)))
    (hX : X < w.heap.size) (fs : Fre X w Bs) (fg : Fre X w g) (hob : ∀ k, Ob X w k → k < w.heap.size) :
    SeqAll Fence.wide n Tryd.prog 64 #[.pointer (some ⟨Bs, 0, none⟩)] encI (fun x _ => IdW x) (Kx X) (Lst' S) 1000 w := by
  intro l J W hW hwl hlW hJ hJ2 hY h0
  have hXW : X < W.heap.size := Nat.lt_of_lt_of_le hX hW.size
  have K0 : Kx X l w W := ⟨hW.os, hW.tape, hW.output, hW.size, fun k ⟨v, h1, h2⟩ => .inl ⟨v, by rw [← h1]; exact (hW.cell (p := ⟨X, 0, none⟩) hX).symm, h2⟩, fun k h1 _ _ _ => hW.block k h1, fun hb k ⟨v, h1, h2⟩ => Nat.lt_of_lt_of_le (hb k ⟨v, by rw [← h1]; exact (hW.cell (p := ⟨X, 0, none⟩) hX).symm, h2⟩) hW.size⟩
  have ks : W.cell? ⟨Bs, 0, none⟩ = some (.map (some g)) := (boxed_kx hbs K0 fs (by have := fs.lt; omega)).cell
  have hgl : g ≠ l := by have := fg.lt; omega
  obtain ⟨zr, HZ⟩ : ∃ zr : Array Value, Hid (zr = (row .u8 z20).toArray) := ⟨_, rfl⟩
  have hz42 : ∀ w : World, (zeroValue 42).run Tryd.prog w = .ok (.agg zr) w := fun w => by rw [HZ.out]; exact zero42 w
  have hSW : SI W g ns S := hS.kx K0 fg hgl
  obtain ⟨W1, cnt0, hrun, hsr, hcnt, hg1⟩ := hSW.range67
  obtain ⟨r, HR⟩ : ∃ r, Hid (W.heap.size = r) := ⟨_, rfl⟩
  rw [HR.out] at hrun hsr
  have HRUN : Hid ((Instr.range 67 (.map (some g))).run Tryd.prog W = .ok (.pointer (some ⟨r, 0, none⟩)) W1) := hrun
  have hobW : ∀ k, Ob X W k → k < W.heap.size := K0.bd hob
  have K1 : Kx X l w W1 := K0.trans (Kx.grow hXW hg1)
  have HFR1 : Hid (Fre X W1 r) := hid ⟨hsr.lt, by have := HR.out; omega, fun ⟨v, h1, h2⟩ => by
    have h3 : W.cell? ⟨X, 0, none⟩ = some v := by rw [← h1]; exact (World.cell?_of_block (a := ⟨X, 0, none⟩) (hg1.block X hXW (by simp))).symm
    have := hobW r ⟨v, h3, h2⟩
    have := HR.out
    omega⟩
  have HFG1 : Hid (Fre X W1 g) := hid (fg.kx K1)
  have hrl : r ≠ l := by have := HR.out; omega
  have HK1 : Hid (Kx X l w W1) := K1
  have HSR1 : Hid (SR W1 g r ns S S cnt0) := hsr
  have HJ1 : Hid (J [] W1) := hid (hJ _ _ _ h0 hg1)
  have HX1 : Hid (X < W1.heap.size) := hid (Nat.lt_of_lt_of_le hXW hg1.size)
  have HYY : Hid (∀ pre x W1, J pre W1 → IdW x → pre.length < 1000 → YieldAt Fence.wide (n - 1) Tryd.prog l (encI x) W1 fun e W' => e = .returned (.bool true) ∧ J (pre ++ [x]) W' ∧ Kx X l W1 W') := hY
  have HJJ : Hid (∀ s A B, J s A → A.grownBy B none → J s B) := hJ
  have HJ2 : Hid (∀ A B s, Itr A r → J s A → A.grownBy B (some r) → J s B) := fun A B s hi hj hg => hJ2 s A B r (by have := HR.out; have := hW.size; omega) hi hj hg
  have HZS : Hid (zr.size = 20) := hid (by rw [HZ.out]; rfl)
  clear hrun hsr hY hJ hJ2 h0 hg1 K1 hSW hS
  refine callsIn_of_wp Tryd.func64 rfl trivial ?_ rfl
  simp only [Tryd.ntmps64, List.size_toArray, List.length_cons, List.length_nil, Nat.reduceAdd, Nat.reduceSub, Array.replicate_succ, Array.replicate_zero, List.push_toArray, List.append_toArray, List.nil_append, List.cons_append]
  gi_wp2_with (first
    | refine wpListIn_range rfl 67 _ rfl _ _ rfl HRUN.out ?_
    | fail)
  simp only [Act.put, List.setIfInBounds_toArray, List.set_cons_succ, List.set_cons_zero]
  gi_loopg [3] cnt0 (fun k v wr => ∃ (pre : List (List Int)) (cnt : Nat), k = cnt ∧ pre.length + cnt ≤ ns ∧ Hid (SR wr g r ns S (fun y => S y ∧ y ∉ pre) cnt) ∧ Hid (pre.Nodup ∧ ∀ y ∈ pre, IdW y ∧ S y) ∧ Hid (Fre X wr r) ∧ Hid (Fre X wr g) ∧ Hid (J pre wr) ∧ Hid (X < wr.heap.size))
  case atStart => exact ⟨[], cnt0, rfl, by simpa using hcnt, hid (by
      obtain ⟨D, left, h1, h2, h3⟩ := HSR1.out
      exact ⟨D, left, h1, h2, fun x kl hk => (h3 x kl hk).trans (by simp)⟩), hid ⟨List.nodup_nil, fun y hy => by cases hy⟩, HFR1, HFG1, HJ1, HX1⟩
  case round =>
    clear HSR1 HK1 HFR1 HFG1 HJ1 HX1 HRUN
    obtain ⟨pre, cnt, hk, hpc, HSR, HPR, HFR, HFG, HJ, HXl⟩ := hrel
    rcases HSR.out.next 0 with ⟨hno, hnx⟩ | ⟨x, w3, cnt', hx, hLx, hSx, hnx, hsr3, hlt, hg3, hen⟩
    · have HL : Hid (Lst' S pre) := hid ⟨HPR.out.1, fun y hy => (HPR.out.2 y hy).1, fun y hy => ⟨fun h => (HPR.out.2 y h).2, fun h => Classical.byContradiction (fun h2 => hno y hy ⟨h, h2⟩)⟩⟩
      clear hno
      gi_wp2
      go_end0
      exact ⟨⟨_, rfl⟩, pre, HL.out, HJ.out⟩
    · obtain ⟨RI, HRI⟩ : ∃ R : List Value, Hid (row .u8 x = R) := ⟨_, rfl⟩
      unfold idV at hnx hen
      rw [HRI.out] at hnx hen
      have HXW : Hid (IdW x) := hx
      have HXP : Hid (x ∉ pre) := hLx.2
      have HXS : Hid (S x) := hSx
      -- the iterator's block turns
      have hXr : X ≠ r := fun e => HFR.out.ne e.symm
      have hc3 : ∀ k, Ob X w3 k ↔ Ob X wr k := fun k => by
        have e : w3.cell? ⟨X, 0, none⟩ = wr.cell? ⟨X, 0, none⟩ := World.cell?_of_block (a := ⟨X, 0, none⟩) (hg3.block X HXl.out (by simp; exact hXr))
        unfold Ob
        rw [e]
      have hs3 := hg3.size
      have hFR3 : Fre X w3 r := ⟨Nat.lt_of_lt_of_le HFR.out.lt hs3, HFR.out.ne, fun h => HFR.out.no ((hc3 r).1 h)⟩
      have hFG3 : Fre X w3 g := ⟨Nat.lt_of_lt_of_le HFG.out.lt hs3, HFG.out.ne, fun h => HFG.out.no ((hc3 g).1 h)⟩
      have hit : Itr wr r := by
        obtain ⟨D, left, ⟨es, clock, since, seen, c0, _, _, _, _, hr, _⟩, _⟩ := HSR.out
        exact ⟨_, _, _, _, hr⟩
      have hJ3 : J pre w3 := HJ2.out wr w3 pre hit HJ.out hg3
      have hX3 : X < w3.heap.size := Nat.lt_of_lt_of_le HXl.out hs3
      have HFN : Hid (RI.length = 20) := hid (by rw [← HRI.out, row_len]; exact hx.1)
      have hi42 : (Tryd.prog.info? 42).map (·.size) = some RI.length := by rw [HFN.out]; exact Tryd.size42
      have I42 : Hid ((Tryd.prog.info? 42).map (·.size) = some RI.toArray.size) := hid (by rw [List.size_toArray]; exact hi42)
      have E42 : Hid (zr.size = RI.toArray.size) := hid (by rw [HZS.out, List.size_toArray, HFN.out])
      have O42 : Hid (RI.toArray.all (·.oneCell') = true) := hid (by rw [← HRI.out]; exact all_oneCell_toArray (row_one _ _))
      have D0 : Hid ((w3.alloc (.cells zr 42)).heap[w3.heap.size]? = some (.cells zr 42 (0, 0))) := heap_alloc_new w3 _
      obtain ⟨w4, HW4⟩ : ∃ u, Hid ((w3.alloc (.cells zr 42)).setRow w3.heap.size RI.toArray = u) := ⟨_, rfl⟩
      obtain ⟨H, HH⟩ : ∃ H, Hid (w3.heap.size = H) := ⟨_, rfl⟩
      obtain ⟨hb4, hx4⟩ := laid HW4.out HH.out
      have R4 : Hid (w4.rangeAt H 0 RI) := hid (range_row hx4)
      have hg4 : w3.grownBy w4 none := grown_of_below hb4 _
      have k4 : Kx X l w3 w4 := Kx.grow hX3 hg4
      have HSR4 : Hid (SR w4 g r ns S (fun y => (S y ∧ y ∉ pre) ∧ y ≠ x) cnt') := hid (hsr3.below hb4)
      have HFR4 : Hid (Fre X w4 r) := hid (hFR3.kx k4)
      have HFG4 : Hid (Fre X w4 g) := hid (hFG3.kx k4)
      have hpl : pre.length < 1000 := by omega
      obtain ⟨fn_, tmps, assign, body, hy, hRr⟩ := HYY.out pre x w4 (HJJ.out _ _ _ hJ3 hg4) hx hpl
      have hRr2 : Hid (RoundIn Fence.wide (n - 1) Tryd.prog l fn_ tmps assign body w4 fun e W' => e = .returned (.bool true) ∧ J (pre ++ [x]) W' ∧ Kx X l w4 W') := hid hRr
      rw [show encI x = #[.agg RI.toArray] by unfold encI; rw [HRI.out]] at hy
      have HX4 : Hid (X < w4.heap.size) := hid (Nat.lt_of_lt_of_le hX3 hb4.size)
      clear hg4 hb4 hRr k4 hsr3 hx4 hJ3 hFR3 hFG3 hc3 hx hLx hSx hg3
      gi_wp2_with (first
        | (refine wpListIn_store_row rfl 42 _ _ rfl w3.heap.size RI.toArray rfl rfl 42 zr D0.out I42.out E42.out O42.out ?_; rw [HW4.out, HH.out])
        | refine wpListIn_load_mid rfl 42 _ rfl H 0 rfl RI _ R4.out Tryd.underlying42 rfl hi42 ?_)
      refine hRr2.out.mono ?_
      rintro e1 W5 ⟨rfl, hJ5, hk5⟩
      have HSR5 : Hid (SR W5 g r ns S (fun y => S y ∧ y ∉ pre ++ [x]) cnt') := hid (by
        obtain ⟨D, left, h1, h2, h3⟩ := HSR4.out.kx hk5 HFG4.out hgl HFR4.out hrl
        refine ⟨D, left, h1, h2, fun y kl hkl => (h3 y kl hkl).trans ⟨fun h => ⟨h.1.1, fun hm => ?_⟩, fun h => ⟨⟨h.1, fun hm => h.2 (by simp [hm])⟩, fun e => h.2 (by simp [e])⟩⟩⟩
        rcases List.mem_append.1 hm with h4 | h4
        · exact h.1.2 h4
        · exact h.2 (by simpa using h4))
      have HPR5 : Hid ((pre ++ [x]).Nodup ∧ ∀ y ∈ pre ++ [x], IdW y ∧ S y) := hid ⟨by
          rw [List.nodup_append]
          refine ⟨HPR.out.1, by simp, fun a ha b hb e => ?_⟩
          have : b = x := by simpa using hb
          rw [e, this] at ha
          exact HXP.out ha, fun y hy => by
          rcases List.mem_append.1 hy with h4 | h4
          · exact HPR.out.2 y h4
          · rw [show y = x by simpa using h4]; exact ⟨HXW.out, HXS.out⟩⟩
      have HFR5 : Hid (Fre X W5 r) := hid (HFR4.out.kx hk5)
      have HFG5 : Hid (Fre X W5 g) := hid (HFG4.out.kx hk5)
      have HJ5 : Hid (J (pre ++ [x]) W5) := hJ5
      have HX5 : Hid (X < W5.heap.size) := hid (Nat.lt_of_lt_of_le HX4.out hk5.size)
      have hpl5 : (pre ++ [x]).length + cnt' ≤ ns := by rw [List.length_append]; simp only [List.length_cons, List.length_nil]; omega
      clear hJ5 hk5
      gi_wp2
      gi_roundg cnt'
      case measure => omega
      case rel => exact ⟨pre ++ [x], cnt', rfl, hpl5, HSR5, HPR5, HFR5, HFG5, HJ5, HX5⟩
end Go.Proofs.YtjgjeedablgmeaaDoor
