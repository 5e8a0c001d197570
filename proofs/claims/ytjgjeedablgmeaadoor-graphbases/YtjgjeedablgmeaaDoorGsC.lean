/- 'Order' of package graph. -/
import Derived.Test.YtjgjeedablgmeaaDoorGsA
import Derived.Test.YtjgjeedablgmeaaDoorGsB
import Derived.Test.YtjgjeedablgmeaaDoorGpO
namespace Go.Proofs.YtjgjeedablgmeaaDoor
open Go.RowKit
set_option linter.unusedVariables false
set_option linter.unusedSimpArgs false
/-- Are these among those that F reach, and N don't? -/
def Sel (l : List Nd) (F N : List (List Int)) (f : Nd → Bool) : Prop := ∀ x, f x = true ↔ (Rch l (· ∈ F) x.id ∧ ¬ Rch l (· ∈ N) x.id)
/-- What 'Order' gives. -/
def PostOr (l : List Nd) (F N : List (List Int)) (w : World) (e : Ending) (w' : World) : Prop := Below w.heap.size w w' ∧
  (((OkG l ∧ ∀ y ∈ F ++ N, y ∈ ids l) ∧ ∃ (f : Nd → Bool) (v : Value) (I : List (List Int)) (Bo : Nat), Sel l F N f ∧ OrdI (l.filter f) I ∧ e = .returned (.tuple #[v, .nilIface]) ∧ w.heap.size ≤ Bo ∧ Bi 42 w' w' Bo v I) ∨
   (¬ (OkG l ∧ ∀ y ∈ F ++ N, y ∈ ids l) ∧ e = .returned (.tuple #[.slice none 0 0, .iface 30 (.int .i64 80)])))
theorem run_build95 (w : World) (a b : Option Addr) (n m c d : Nat) : (Instr.buildSlice 95 2 #[(0, .slice a n c), (1, .slice b m d)]).run Tryd.prog w = .ok (.slice (some ⟨w.heap.size, 0, none⟩) 2 2) (w.alloc (.cells #[.slice a n c, .slice b m d] 32)) := by kernel_rfl
set_option maxRecDepth 20000 in
set_option maxHeartbeats 1000000 in
theorem order_any {w : World} (a : Option Addr) (cap : Nat) (l : List Nd) (hP : Pn w a cap l) (hw : ∀ x ∈ l, NdW w x) (hn : l.length ≤ 40) (hps : ∀ x ∈ l, x.ps.length ≤ 40)
    (fa : Option Addr) (fc : Nat) (F : List (List Int)) (hF : Pa w fa fc F) (na : Option Addr) (nc : Nat) (N : List (List Int)) (hN : Pa w na nc N) (hi : ∀ y ∈ F ++ N, IdW y) (hl : F.length + N.length ≤ 40) :
    Calls Tryd.prog 12 #[.slice a l.length cap, .slice fa F.length fc, .slice na N.length nc] w (PostOr l F N w) := by
  obtain ⟨G, HG⟩ : ∃ G, Hid (w.heap.size = G) := ⟨_, rfl⟩
  obtain ⟨n, HNL⟩ : ∃ n, Hid (l.length = n) := ⟨_, rfl⟩
  obtain ⟨nF, HNF⟩ : ∃ n, Hid (F.length = n) := ⟨_, rfl⟩
  obtain ⟨nN, HNN⟩ : ∃ n, Hid (N.length = n) := ⟨_, rfl⟩
  have hFi : ∀ y ∈ F, IdW y := fun y hy => hi y (by simp [hy])
  have hNi : ∀ y ∈ N, IdW y := fun y hy => hi y (by simp [hy])
  have hbs := run_build95 w fa na nF nN fc nc
  obtain ⟨w1, HW1⟩ : ∃ u, Hid (w.alloc (.cells #[.slice fa nF fc, .slice na nN nc] 32) = u) := ⟨_, rfl⟩
  have hb1 : Below w.heap.size w w1 := by rw [← HW1.out]; exact (Below.refl _ w).alloc (Nat.le_refl _) _
  have hx1 : w1.heap[G]? = some (.cells #[.slice fa nF fc, .slice na nN nc] 32 (0, 0)) := by rw [← HW1.out, ← HG.out]; exact heap_alloc_new w _
  have C26 : Hid (Calls Tryd.prog 26 #[.slice (some ⟨G, 0, none⟩) 2 2] w1 fun e w' => ∃ v, e = .returned v ∧ Bi 42 w1 w' w1.heap.size v (F ++ N)) := hid (concat_any G fc nc fa na F N w1 ((cell_of_row _ _ 0 _ _ _ hx1).trans (by rw [HNF.out]; rfl)) ((cell_of_row _ _ 1 _ _ _ hx1).trans (by rw [HNN.out]; rfl)) (lt_of_some hx1) (hF.below hb1) (hN.below hb1) hi (by omega))
  have HPN : Hid (∀ W, Below G w W → Pn W a cap l) := fun W hW => hP.below (by rw [HG.out]; exact hW)
  have HWF : Hid (∀ W, Below G w W → ∀ x ∈ l, NdW W x) := fun W hW x hx => (hw x hx).below (by rw [HG.out]; exact hW)
  have HPF : Hid (∀ W, Below G w W → Pa W fa fc F) := fun W hW => hF.below (by rw [HG.out]; exact hW)
  have HPO : Hid (∀ W, Below G w W → Pa W na nc N) := fun W hW => hN.below (by rw [HG.out]; exact hW)
  have HFI : Hid (∀ y ∈ F, IdW y) := hFi
  have HNI : Hid (∀ y ∈ N, IdW y) := hNi
  have HI : Hid (∀ y ∈ F ++ N, IdW y) := hi
  have HL40 : Hid (l.length ≤ 40) := hn
  have HPS : Hid (∀ x ∈ l, x.ps.length ≤ 40) := hps
  have HSUM : Hid (F.length + N.length ≤ 40) := hl
  have HB1 : Hid (Below G w w1) := hid (by rw [← HG.out]; exact hb1)
  have hG1 : G < w1.heap.size := lt_of_some hx1
  rw [HNL.out, HNF.out, HNN.out]
  clear hP hw hn hps hF hN hi hl hFi hNi hb1 hx1
  go_enter Tryd.func12, Tryd.ntmps12
  go_wp2_with fail
  rw [HW1.out, HG.out]
  refine C26.out.mono ?_
  rintro ev w2 ⟨v0, rfl, hbi⟩
  have HB2 : Hid (Below G w w2) := hid (HB1.out.trans (hbi.below.mono (by omega)))
  obtain ⟨va, vc, hve, hvp, _, _⟩ := hbi.px (d := []) (fun z hz => by rw [row_len]; exact (HI.out z hz).1)
  subst hve
  obtain ⟨t, HT⟩ : ∃ t, Hid ((F ++ N).length = t) := ⟨_, rfl⟩
  have hG2 : G < w2.heap.size := Nat.lt_of_lt_of_le hG1 hbi.below.size
  have C22 : Hid (Calls Tryd.prog 22 #[.slice a n cap, .slice va t vc] w2 (PostOp l (F ++ N) a cap w2)) := hid (by
    have := open_any a cap l (HPN.out _ HB2.out) (HWF.out _ HB2.out) HL40.out HPS.out va vc (F ++ N) HI.out (by rw [List.length_append]; have := HSUM.out; omega) hvp
    rw [HNL.out, HT.out] at this
    exact this)
  rw [HT.out]
  clear hbi hvp
  go_wp2_with fail
  refine C22.out.mono ?_
  rintro ev w3 ⟨hb3, ⟨⟨hok, hin⟩, hb, m, rfl, hhi⟩ | ⟨hno, rfl⟩⟩
  · have HB3 : Hid (Below G w w3) := hid (HB2.out.trans (hb3.mono (by omega)))
    have HHI : Hid (Hi w3 hb m a cap l) := hhi
    have HOK : Hid (OkG l) := hok
    have HIN : Hid (∀ y ∈ F ++ N, y ∈ ids l) := hin
    have hG3 : G < w3.heap.size := Nat.lt_of_lt_of_le hG2 hb3.size
    have C28 : Hid (Calls Tryd.prog 28 #[.pointer (some ⟨hb, 0, none⟩), .slice fa nF fc] w3 (PostS (Rch l (· ∈ F)) 40 w3)) := hid (by
      have := reached_any HHI.out fa fc F HFI.out (by have := HSUM.out; omega) (HPF.out _ HB3.out) (rch_in HOK.out.par (fun y hy => HIN.out y (by simp [hy])))
      rw [HNF.out] at this
      exact this)
    clear hb3 hhi hok hin
    go_wp2_with fail
    refine C28.out.mono ?_
    rintro ev w4 ⟨hb4, g4, n4, rfl, hg4, hn4, hs4⟩
    have HB4 : Hid (Below G w w4) := hid (HB3.out.trans (hb4.mono (by omega)))
    have HHI4 : Hid (Hi w4 hb m a cap l) := hid (HHI.out.below hb4)
    have HS4 : Hid (SI w4 g4 n4 (Rch l (· ∈ F))) := hs4
    have hG4 : G < w4.heap.size := Nat.lt_of_lt_of_le hG3 hb4.size
    have D28 : Hid (Calls Tryd.prog 28 #[.pointer (some ⟨hb, 0, none⟩), .slice na nN nc] w4 (PostS (Rch l (· ∈ N)) 40 w4)) := hid (by
      have := reached_any HHI4.out na nc N HNI.out (by have := HSUM.out; omega) (HPO.out _ HB4.out) (rch_in HOK.out.par (fun y hy => HIN.out y (by simp [hy])))
      rw [HNN.out] at this
      exact this)
    clear hb4 hs4 C28
    go_wp2_with fail
    refine D28.out.mono ?_
    rintro ev w5 ⟨hb5, g5, n5, rfl, hg5, hn5, hs5⟩
    have HB5 : Hid (Below G w w5) := hid (HB4.out.trans (hb5.mono (by omega)))
    have HHI5 : Hid (Hi w5 hb m a cap l) := hid (HHI4.out.below hb5)
    have hG5 : G < w5.heap.size := Nat.lt_of_lt_of_le hG4 hb5.size
    have C29 : Hid (Calls Tryd.prog 29 #[.map (some g4), .map (some g5)] w5 (PostS (fun y => Rch l (· ∈ F) y ∧ ¬ Rch l (· ∈ N) y) n4 w5)) := hid (lessS_any (HS4.out.below hb5) hs5 (by omega))
    clear hb5 hs5 D28
    go_wp2_with fail
    refine C29.out.mono ?_
    rintro ev w6 ⟨hb6, g6, n6, rfl, hg6, hn6, hs6⟩
    have HB6 : Hid (Below G w w6) := hid (HB5.out.trans (hb6.mono (by omega)))
    have hG6 : G < w6.heap.size := Nat.lt_of_lt_of_le hG5 hb6.size
    have C27 : Hid (Calls Tryd.prog 27 #[.pointer (some ⟨hb, 0, none⟩), .map (some g6)] w6 (PostIo l (fun y => Rch l (· ∈ F) y ∧ ¬ Rch l (· ∈ N) y) w6)) := hid (inOrder_any (HHI5.out.below hb6) hs6 (fun y hy => rch_in HOK.out.par (fun z hz => HIN.out z (by simp [hz])) y hy.1))
    clear hb6 hs6
    go_wp2_with fail
    refine C27.out.mono ?_
    rintro ev w7 ⟨hb7, f, v, D, R, hf, hks, hbst, rfl, ⟨Bo, hBo, hbi⟩, _⟩
    have HB7 : Hid (Below G w w7) := hid (HB6.out.trans (hb7.mono (by omega)))
    have HSel : Hid (Sel l F N f) := hf
    have HOI : Hid (OrdI (l.filter f) (ids D)) := hid (ordi_ks (nodup_filter f HOK.out.one) (Acy.sub f HOK.out.acy) hks hbst)
    have HBI : Hid (Bi 42 w7 w7 Bo v (ids D)) := hbi
    have HBO : Hid (G ≤ Bo) := hid (by omega)
    clear hb7 hf hks hbst hbi
    go_wp2
    go_ret2
    exact ⟨by rw [HG.out]; exact HB7.out, .inl ⟨⟨HOK.out, HIN.out⟩, f, v, ids D, Bo, HSel.out, HOI.out, rfl, by rw [HG.out]; exact HBO.out, HBI.out⟩⟩
  · have HB3 : Hid (Below G w w3) := hid (HB2.out.trans (hb3.mono (by omega)))
    have HNO : Hid (¬ (OkG l ∧ ∀ y ∈ F ++ N, y ∈ ids l)) := hno
    clear hb3 hno
    go_wp2
    go_ret2
    exact ⟨by rw [HG.out]; exact HB3.out, .inr ⟨HNO.out, rfl⟩⟩
end Go.Proofs.YtjgjeedablgmeaaDoor
