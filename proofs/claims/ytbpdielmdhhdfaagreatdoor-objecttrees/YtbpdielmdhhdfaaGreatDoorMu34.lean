import Derived.Test.YtbpdielmdhhdfaaGreatDoorMu33
import Derived.Test.YtbpdielmdhhdfaaGreatDoorMu08
import Derived.Test.YtbpdielmdhhdfaaGreatDoorMu17
import Derived.Deep.Onto
import Derived.Test.YtbpdielmdhhdfaaGreatDoorMu30
/- Package object: ReadTree. -/
namespace Go.Proofs.YtbpdielmdhhdfaaGreatDoor
open Go.RowKit
variable [Inhabited Er] [Inhabited En]
set_option linter.unusedVariables false
set_option linter.unusedSectionVars false
set_option linter.unusedSimpArgs false
/-- What a reader of trees gives: what it read, if that is written so. -/
def PostRB (l : List UInt8) (w : World) (e : Ending) (w' : World) : Prop := ∃ a cap es, (∀ p : Addr, a = some p → w.heap.size ≤ p.block) ∧ Pe w' a cap es ∧ WfE es ∧ es.length ≤ 1000 ∧ (∀ u, okTr u → treeB u = l → es = u) ∧
  (((okL es ∧ treeB (srtE es) = l) ∧ e = .returned (.tuple #[.slice a es.length cap, .nilIface])) ∨ (¬ (okL es ∧ treeB (srtE es) = l) ∧ e = .returned (.tuple #[.slice none 0 0, .iface 35 (.int .i64 21)])))
set_option maxRecDepth 20000 in
set_option maxHeartbeats 2000000 in
theorem readBackE_any (a : Option Addr) (cap : Nat) (zs : List Int) (hl : zs.length ≤ 20000) (w : World) (hd : Db w) (he : Ers w) (hm : Mx w) (hS : Sl w a cap zs) :
    Calls Tryz.prog 97 #[.slice a zs.length cap, .int .i64 21, .func (.func 98) #[] #[], .func (.func 18) #[] #[]] w fun e w' => Below w.heap.size w w' ∧ PostRB (Lib.bytesOf zs) w e w' := by
  obtain ⟨n, HN⟩ : ∃ n, Hid (zs.length = n) := ⟨_, rfl⟩
  obtain ⟨l, HL⟩ : ∃ l, Hid (Lib.bytesOf zs = l) := ⟨_, rfl⟩
  have HLL : Hid (l.length ≤ 20000) := hid (by rw [← HL.out, Lib.bytesOf_length]; exact hl)
  obtain ⟨S, HSS⟩ : ∃ S : ByteArray, Hid (⟨l.toArray⟩ = S) := ⟨_, rfl⟩
  obtain ⟨G, HG⟩ : ∃ G, Hid (w.heap.size = G) := ⟨_, rfl⟩
  have HCV : Hid ((convert 23 9 (.slice a n cap)).run Tryz.prog w = .ok (.string S) w) := hid (by
    rw [← HSS.out, ← HL.out, ← HN.out]
    exact conv_str hS)
  have HSL : Hid (∀ W, Below G w W → Sl W a cap zs) := fun W hW => hS.below (by rw [HG.out]; exact hW)
  have HD : Hid (∀ W, Below G w W → Db W) := fun W hW => hd.below (by rw [HG.out]; exact hW)
  have HGS : Hid (G ≤ w.heap.size) := hid (by rw [HG.out]; exact Nat.le_refl _)
  have C1 : Hid (Calls Tryz.prog 98 #[.string S] w fun e w' => Below w.heap.size w w' ∧ PostEn l w e w') := hid (by
    rw [← HSS.out]
    exact entriesOf_any l HLL.out w he hm)
  rw [HN.out, HL.out]
  clear hd he hm hS
  have hcv := HCV.out
  go_enter Tryz.func97, Tryz.ntmps97
  go_wp2_with fail
  refine C1.out.mono ?_
  rintro ev w1 ⟨hb1, a1, c1, es, rfl, hfr, hpe, hwf, hle, hnm, hun⟩
  rw [HG.out] at hb1
  have HB1 : Hid (Below G w w1) := hb1
  have HPE : Hid (Pe w1 a1 c1 es) := hpe
  have HFR : Hid (∀ p : Addr, a1 = some p → w.heap.size ≤ p.block) := hfr
  have HWF : Hid (WfE es) := hwf
  have HLE : Hid (es.length ≤ 1000) := hle
  have HUN : Hid (∀ u, okTr u → treeB u = l → es = u) := hun
  clear hb1 hfr hpe hwf hle hnm hun hcv
  obtain ⟨k, HK⟩ : ∃ k, Hid (es.length = k) := ⟨_, rfl⟩
  rw [HK.out]
  have C2 : Hid (Calls Tryz.prog 18 #[.slice a1 k c1] w1 (PostW es w1)) := hid (by
    rw [← HK.out]
    exact writeTree_any a1 c1 es HWF.out HLE.out w1 HPE.out (HD.out _ HB1.out))
  have FIN : Hid (∀ W, Below w1.heap.size w1 W → (okL es ∧ treeB (srtE es) = l) → PostRB l w (.returned (.tuple #[.slice a1 k c1, .nilIface])) W) := fun W hW h =>
    ⟨a1, c1, es, HFR.out, HPE.out.below hW, HWF.out, HLE.out, HUN.out, .inl ⟨h, by rw [HK.out]⟩⟩
  have BAD : Hid (∀ W, Below w1.heap.size w1 W → ¬ (okL es ∧ treeB (srtE es) = l) → PostRB l w (.returned (.tuple #[.slice none 0 0, .iface 35 (.int .i64 21)])) W) := fun W hW h =>
    ⟨a1, c1, es, HFR.out, HPE.out.below hW, HWF.out, HLE.out, HUN.out, .inr ⟨h, rfl⟩⟩
  have hG1 : G ≤ w1.heap.size := Nat.le_trans HGS.out HB1.out.size
  go_wp2_with fail
  refine C2.out.mono ?_
  rintro ev w2 ⟨hb2, hor⟩
  have HB12 : Hid (Below w1.heap.size w1 w2) := hb2
  have HB2 : Hid (Below G w w2) := HB1.out.trans (hb2.mono hG1)
  clear hb2
  rcases hor with ⟨hok, a2, c2, rfl, hsl⟩ | ⟨hno, rfl⟩
  rotate_left
  · have HNO : Hid (¬ (okL es ∧ treeB (srtE es) = l)) := fun h => hno h.1
    clear hno
    go_wp2
    go_ret2
    exact ⟨by rw [HG.out]; exact HB2.out, BAD.out _ HB12.out HNO.out⟩
  have HOK : Hid (okL es) := hok
  have HS2 : Hid (Sl w2 a2 c2 (nums (treeB (srtE es)))) := hsl
  clear hok hsl
  obtain ⟨tb, HTB⟩ : ∃ t, Hid (treeB (srtE es) = t) := ⟨_, rfl⟩
  obtain ⟨eq, HEQ⟩ : ∃ b : Bool, Hid ((tb == l) = b) := ⟨_, rfl⟩
  obtain ⟨tl, HTL⟩ : ∃ k, Hid (tb.length = k) := ⟨_, rfl⟩
  have CE : Hid (Calls Tryz.prog 124 #[.slice a2 tl c2, .slice a n cap] w2 fun e w' => e = .returned (.bool eq) ∧ w' = w2) := hid (by
    have h := equal_any a2 a c2 cap (nums tb) zs w2 (by rw [← HTB.out]; exact HS2.out) (HSL.out _ HB2.out)
    rw [nums_len, HTL.out, bytesOf_nums, HL.out, HEQ.out, HN.out] at h
    exact h)
  rw [HTB.out, HTL.out]
  go_wp2_with fail
  refine CE.out.mono ?_
  rintro ev w2' ⟨rfl, hw2⟩
  have hw2' := hw2.symm
  subst hw2'
  clear hw2
  cases eq with
  | false =>
    have HNO : Hid (¬ (okL es ∧ treeB (srtE es) = l)) := fun h => by have h2 := HEQ.out; rw [← HTB.out, h.2] at h2; simp at h2
    go_wp2
    go_ret2
    exact ⟨by rw [HG.out]; exact HB2.out, BAD.out _ HB12.out HNO.out⟩
  | true =>
    have HYE : Hid (treeB (srtE es) = l) := hid (by have h2 := HEQ.out; rw [HTB.out]; simpa using h2)
    go_wp2
    go_ret2
    exact ⟨by rw [HG.out]; exact HB2.out, FIN.out _ HB12.out ⟨HOK.out, HYE.out⟩⟩
theorem PostRB.form {l : List UInt8} {w : World} {e : Ending} {w' : World} (h : PostRB l w e w') : ∃ (v ev : Value), e = .returned (.tuple #[v, ev]) := by
  obtain ⟨a, cap, es, _, _, _, _, _, ⟨_, rfl⟩ | ⟨_, rfl⟩⟩ := h
  · exact ⟨_, _, rfl⟩
  · exact ⟨_, _, rfl⟩
set_option maxRecDepth 20000 in
set_option maxHeartbeats 1000000 in
theorem readTree_any (a : Option Addr) (cap : Nat) (zs : List Int) (hl : zs.length ≤ 20000) (w : World) (hd : Db w) (he : Ers w) (hm : Mx w) (hS : Sl w a cap zs) :
    Calls Tryz.prog 51 #[.slice a zs.length cap] w fun e w' => Below w.heap.size w w' ∧ PostRB (Lib.bytesOf zs) w e w' := by
  obtain ⟨n, HN⟩ : ∃ n, Hid (zs.length = n) := ⟨_, rfl⟩
  have C1 : Hid (Calls Tryz.prog 97 #[.slice a n cap, .int .i64 21, .func (.func 98) #[] #[], .func (.func 18) #[] #[]] w fun e w' => Below w.heap.size w w' ∧ PostRB (Lib.bytesOf zs) w e w') := hid (by
    rw [← HN.out]
    exact readBackE_any a cap zs hl w hd he hm hS)
  rw [HN.out]
  clear hd he hm hS
  go_enter Tryz.func51, Tryz.ntmps51
  go_wp2_with fail
  refine C1.out.mono ?_
  rintro ev w1 ⟨hb1, hpb⟩
  obtain ⟨v, ev2, rfl⟩ := hpb.form
  have HPB : Hid (PostRB (Lib.bytesOf zs) w (.returned (.tuple #[v, ev2])) w1) := hpb
  have HB1 : Hid (Below w.heap.size w w1) := hb1
  clear hpb hb1
  go_wp2
  go_ret2
  exact ⟨HB1.out, HPB.out⟩
end Go.Proofs.YtbpdielmdhhdfaaGreatDoor
/- Package object: 'Decode'. -/
namespace Go.Proofs.YtbpdielmdhhdfaaGreatDoor
open Go.RowKit
set_option linter.unusedVariables false
set_option linter.unusedSimpArgs false
/-- What is cut at the first 0: what stands ahead of it, what stands behind. -/
structure Cu (B : List UInt8) (i : Nat) (d : List UInt8) : Prop where
  le : i ≤ B.length
  gd : ∀ k D, Gd B k D → (Lib.cut (B.take i) [32]).1 = (kN k).data.toList ∧ D = d
  of : ∀ k : Nat, 1 ≤ k → k ≤ 4 → d.length ≤ 100000 → Lib.hasPrefix B (hd k d.length) = true → Gd B k d
theorem cu_none {B : List UInt8} (h : (0 : UInt8) ∉ B) : Cu B B.length [] := by
  refine ⟨Nat.le_refl _, fun k D hg => absurd hg.has h, fun k _ _ _ hp => ?_⟩
  obtain ⟨t, ht⟩ := List.isPrefixOf_iff_prefix.1 hp
  exact absurd (by rw [← ht, hd]; simp) h
theorem cu_some {a d : List UInt8} (h : (0 : UInt8) ∉ a) : Cu (a ++ 0 :: d) a.length d := by
  refine ⟨by simp, fun k D hg => ⟨?_, ((hg.cut rfl h).2).symm⟩, fun k h1 h4 hl hp => gd_of h1 h4 hl rfl h hp⟩
  rw [List.take_left]
  exact hg.name rfl h
theorem sl_one0 (w : World) (c : Int) : Sl (w.alloc (.cells #[.int .u8 c] 5)) (some ⟨w.heap.size, 0, none⟩) 1 [c] :=
  ⟨by simp, fun _ => ⟨w.heap.size, 0, rfl, by simp, fun i hi => by
    have : i = 0 := by simpa using hi
    subst this
    simp⟩, fun h => by cases h⟩
/-- A slice behind j bytes. -/
theorem Sl.from {w : World} {a : Option Addr} {cap : Nat} {l : List Int} (h : Sl w a cap l) (j : Nat) (hj : j ≤ l.length) (h0 : 0 < l.length) : Sl w (if cap = j then a else a.map (fun x => x.add j)) (cap - j) (l.drop j) := by
  obtain ⟨b, off, rfl, e2, e3⟩ := h.at_ h0
  have hc := h.capl
  refine ⟨by rw [List.length_drop]; omega, fun h1 => ?_, fun e => by split at e <;> cases e⟩
  rw [List.length_drop] at h1
  rw [if_neg (by omega)]
  refine ⟨b, off + j, by rw [Option.map_some, addr_add], e2, fun i hi => ?_⟩
  rw [List.length_drop] at hi
  rw [Nat.add_assoc, e3 (j + i) (by omega)]
  simp [List.getD_eq_getElem?_getD, List.getElem?_drop]
/-- What 'bytes.Cut' at a 0 gives. -/
theorem cut_zero (a : Option Addr) (cap : Nat) (zs : List Int) (w : World) (hz : IsB zs) (hS : Sl w a cap zs) :
    ∃ (i : Nat) (da : Option Addr) (dc : Nat) (dz : List Int) (f : Bool), Lib.cutV a zs.length cap 1 (Lib.index (Lib.bytesOf zs) [0]) = .tuple #[.slice a i cap, .slice da dz.length dc, .bool f] ∧ i ≤ zs.length ∧ dz.length ≤ zs.length ∧ IsB dz ∧ Cu (Lib.bytesOf zs) i (Lib.bytesOf dz) ∧ (∀ w', Below w.heap.size w w' → Sl w' da dc dz) := by
  have hlB : (Lib.bytesOf zs).length = zs.length := Lib.bytesOf_length zs
  rcases index_one 0 (Lib.bytesOf zs) with ⟨h1, h2⟩ | ⟨a', d', h1, h2, h3⟩
  · refine ⟨zs.length, none, 0, [], false, ?_, Nat.le_refl _, Nat.zero_le _, (fun x hx => by cases hx), ?_, fun w' _ => ⟨Nat.le_refl _, (fun h => by cases h), fun _ => rfl⟩⟩
    · unfold Lib.cutV; rw [h2, if_neg (by decide)]; rfl
    · have := cu_none h1; rw [hlB] at this; exact this
  · have hd' : d' = Lib.bytesOf (zs.drop (a'.length + 1)) := by rw [Lib.bytesOf_drop, h1]; simp
    have hln : a'.length + 1 ≤ zs.length := by rw [← hlB, h1]; simp
    refine ⟨a'.length, if cap = a'.length + 1 then a else a.map (fun x => x.add (a'.length + 1)), cap - (a'.length + 1), zs.drop (a'.length + 1), true, ?_, by omega, by rw [List.length_drop]; omega, fun x hx => hz x (List.mem_of_mem_drop hx), ?_, fun w' hb => (hS.below hb).from _ hln (by omega)⟩
    · unfold Lib.cutV Lib.fromV
      rw [h3, if_pos (by omega)]
      simp only [Int.toNat_natCast, List.length_drop]
    · rw [← hd', h1]
      exact cu_some h2
theorem there_of {w : World} {g : Nat} {cs : Array Value} {t : TypeId} (h : w.heap[g]? = some (.cells cs t (0, 0))) : w.there g 0 cs.size := fun j hj => by
  rw [Nat.zero_add]
  exact ⟨by rw [cell_of_row w g j _ t _ h]; simp [hj], frozen_of_row w g j _ t h⟩
theorem errE_0' (k : Int) (n : Nat) (h : ¬ (kN k).toList.isEmpty = true) (h2 : ¬ 100000 < n) : errE k n = 0 := by unfold errE; rw [if_neg h, if_neg h2]
theorem kN_ne (k : Nat) (h1 : 1 ≤ k) (h4 : k ≤ 4) : ¬ (kN k).toList.isEmpty = true := by
  have e1 : k = 1 ∨ k = 2 ∨ k = 3 ∨ k = 4 := by omega
  rw [Lib.toList_data, kN_list]
  rcases e1 with rfl | rfl | rfl | rfl <;> simp
theorem kO_gd {B : List UInt8} {i : Nat} {d : List UInt8} (hcu : Cu B i d) {Nm : ByteArray} (hN : Nm = ⟨(Lib.cut (B.take i) [32]).1.toArray⟩) {k : Nat} (hk : kO Nm k) {k' : Nat} {D : List UInt8} (hg : Gd B k' D) : k = k' ∧ D = d := by
  obtain ⟨h1, h2⟩ := hcu.gd k' D hg
  refine ⟨?_, h2⟩
  have hNl : Nm.toList = (kN k').data.toList := by rw [hN, Lib.toList_data]; exact h1
  rcases hk with ⟨e1, e2, e3⟩ | ⟨rfl, e2⟩
  · rw [hNl, Lib.toList_data] at e3
    exact kN_inj k k' e1 e2 hg.lo hg.hi (by simpa using e3)
  · have := e2 k' hg.lo hg.hi
    rw [hNl, Lib.toList_data] at this
    simp at this
theorem range_set2 {W : World} {G : Nat} {x y u v : Value} (c0 : W.cell? ⟨G, 0, none⟩ = some u) (c1 : W.cell? ⟨G, 1, none⟩ = some v) : World.rangeAt ((W.setCell ⟨G, 0, none⟩ x).setCell ⟨G, 1, none⟩ y) G 0 [x, y] := by
  intro j z hz
  rw [Nat.zero_add]
  match j, hz with
  | 0, hz =>
    simp at hz; subst hz
    rw [World.cell?_setCell_other (h := by simp)]
    exact World.cell?_setCell_same _ _ _ c0
  | 1, hz =>
    simp at hz; subst hz
    exact World.cell?_setCell_same _ _ _ (by rw [World.cell?_setCell_other (h := by simp)]; exact c1)
  | j + 2, hz => simp at hz
/-- What 'Decode' gives. -/
def PostD (zs : List Int) (w : World) (e : Ending) (w' : World) : Prop :=
  Below w.heap.size w w' ∧ ((∃ (k : Nat) (D : List UInt8) (g : Option Addr) (c : Nat), Gd (Lib.bytesOf zs) k D ∧ e = .returned (.tuple #[.agg #[.int .i64 k, .slice g D.length c], .nilIface]) ∧ w'.ownsRow w.heap.size 5 1 (.slice g D.length c) D.length ((nums D).map (Value.int .u8))) ∨
    ((∀ k D, ¬ Gd (Lib.bytesOf zs) k D) ∧ e = .returned (.tuple #[.agg #[.int .i64 0, .slice none 0 0], .iface 35 (.int .i64 24)])))
theorem Tryz.results40 : Tryz.f40.results = #[.cell 2 25, .tmp 3] := by kernel_rfl
theorem Tryz.size25 : (Tryz.prog.info? 25).map (·.size) = some 2 := by kernel_rfl
theorem zero25o (w : World) : (zeroValue 25).run Tryz.prog w = .ok (.agg #[.int .i64 0, .slice none 0 0]) w := by kernel_rfl
set_option maxRecDepth 20000 in
set_option maxHeartbeats 4000000 in
theorem decode_any (a : Option Addr) (cap : Nat) (zs : List Int) (w : World) (hl : zs.length ≤ 300000) (hz : IsB zs) (hS : Sl w a cap zs) (ht : Tab w) (hm : Mx w) :
    Calls Tryz.prog 40 #[.slice a zs.length cap] w (PostD zs w) := by
  obtain ⟨n, HN⟩ : ∃ n, Hid (zs.length = n) := ⟨_, rfl⟩
  obtain ⟨G, HG⟩ : ∃ G, Hid (w.heap.size = G) := ⟨_, rfl⟩
  obtain ⟨w1, HW1⟩ : ∃ w1, Hid ((w.alloc (.cells #[.int .i64 0, .slice none 0 0] 25)).alloc (.cells #[.int .u8 0] 5) = w1) := ⟨_, rfl⟩
  have HB1 : Hid (Below G w w1) := hid (by rw [← HW1.out, ← HG.out]; exact ((Below.refl _ w).alloc (Nat.le_refl _) _).alloc (by simp) _)
  have hs1 : w1.heap.size = G + 2 := by rw [← HW1.out, ← HG.out]; simp
  have HR1 : Hid (w1.heap[G]? = some (.cells #[.int .i64 0, .slice none 0 0] 25 (0, 0))) := hid (by
    have h1 := heap_alloc_new w (.cells #[.int .i64 0, .slice none 0 0] 25)
    rw [← HW1.out, ← HG.out, Below.heap_alloc _ _ _ (by simp)]
    exact h1)
  obtain ⟨i, da, dc, dz, f, hV, hi, hdz, hdb, hcu, hsl⟩ := cut_zero a cap zs w hz hS
  have HC1 : Hid (Calls Tryz.prog 81 #[.slice a n cap, .slice (some ⟨G + 1, 0, none⟩) 1 1] w1 fun e w' => e = .returned (.tuple #[.slice a i cap, .slice da dz.length dc, .bool f]) ∧ ∃ q, w' = w1.drewN q) := hid (by
    have h2 : Sl w1 (some ⟨G + 1, 0, none⟩) 1 [0] := by
      have := sl_one0 (w.alloc (.cells #[.int .i64 0, .slice none 0 0] 25)) 0
      rw [HW1.out] at this
      rw [← HG.out]
      simpa using this
    have := bcut_any a (some ⟨G + 1, 0, none⟩) cap 1 zs [0] w1 (by omega) (by simp) hz (by intro x hx; simp at hx; omega) (hS.below (by rw [HG.out]; exact HB1.out)) h2 (hm.below (by rw [HG.out]; exact HB1.out))
    rw [show Lib.bytesOf [0] = [0] from rfl, show ([0] : List Int).length = 1 from rfl, hV, HN.out] at this
    exact this)
  obtain ⟨dn, HDN⟩ : ∃ dn, Hid (dz.length = dn) := ⟨_, rfl⟩
  obtain ⟨Hs, HHs⟩ : ∃ S : ByteArray, Hid (S = ⟨((Lib.bytesOf zs).take i).toArray⟩) := ⟨_, rfl⟩
  obtain ⟨Nm, HNm⟩ : ∃ S : ByteArray, Hid (S = ⟨(Lib.cut ((Lib.bytesOf zs).take i) [32]).1.toArray⟩) := ⟨_, rfl⟩
  obtain ⟨Rs, HRs⟩ : ∃ S : ByteArray, Hid (S = ⟨(Lib.cut ((Lib.bytesOf zs).take i) [32]).2.1.toArray⟩) := ⟨_, rfl⟩
  obtain ⟨f2, HF2⟩ : ∃ f2 : Bool, Hid (f2 = (Lib.cut ((Lib.bytesOf zs).take i) [32]).2.2) := ⟨_, rfl⟩
  have HCV : Hid (∀ W, Below G w W → Sem.run Tryz.prog (convert 23 9 (.slice a i cap)) W = .ok (.string Hs) W) := fun W hW => by
    have := conv_str ((hS.below (by rw [HG.out]; exact hW)).take i)
    rw [List.length_take, Nat.min_eq_left hi, Lib.bytesOf_take, ← HHs.out] at this
    exact this
  have HSC : Hid (∀ W, Below G w W → Calls Tryz.prog 82 #[.string Hs, .string ⟨#[32]⟩] W fun e w' => e = .returned (.tuple #[.string Nm, .string Rs, .bool f2]) ∧ ∃ q, w' = W.drewN q) := fun W hW => by
    rw [HHs.out, HNm.out, HRs.out, HF2.out]
    exact scut_any ((Lib.bytesOf zs).take i) [32] W (by rw [List.length_take, Lib.bytesOf_length]; omega) (hm.below (by rw [HG.out]; exact hW))
  have HKO : Hid (∀ W, Calls Tryz.prog 83 #[.string Nm] W fun e w' => (∃ k : Nat, e = .returned (.int .i64 k) ∧ kO Nm k) ∧ w' = W) := fun W => kindOf_any Nm W
  have HCL : Hid (∀ W, Below G w W → Calls Tryz.prog 84 #[.slice da dn dc] W fun e w' => ∃ ga gc, e = .returned (.slice ga dn gc) ∧ w'.ownsRow W.heap.size 5 1 (.slice ga dn gc) dn (dz.map (Value.int .u8)) ∧ Below W.heap.size W w') := fun W hW => by
    have := clone_any da dc dz W (by omega) (hsl W (by rw [HG.out]; exact hW))
    rw [HDN.out] at this
    refine this.mono ?_
    rintro e w' ⟨v', rfl, h1, h2⟩
    have h1' := h1
    obtain ⟨_, ⟨hv, h0⟩ | ⟨g, cp, cur, hv, _⟩⟩ := h1'
    · subst hv
      exact ⟨none, 0, by rw [h0], by rw [h0]; rw [h0] at h1; exact h1, h2⟩
    · subst hv
      exact ⟨_, _, rfl, h1, h2⟩
  rw [HDN.out] at HC1
  rw [HN.out]
  have HCU : Hid _ := hcu
  have HDB : Hid (IsB dz) := hdb
  have HSS : Hid (∀ W, Below G w W → Sl W a cap zs) := fun W hW => hS.below (by rw [HG.out]; exact hW)
  have HTA : Hid (∀ W, Below G w W → Tab W) := fun W hW => ht.below (by rw [HG.out]; exact hW)
  have hdn : dn ≤ 300000 := by rw [← HDN.out]; omega
  clear hS ht hm hcu hsl hV hdb
  go_enter Tryz.func40, Tryz.ntmps40
  go_wp2_with fail
  rw [HG.out, HW1.out]
  refine HC1.out.mono ?_
  rintro ev w2 ⟨rfl, q2, rfl⟩
  have hb2 : Below w1.heap.size w1 (w1.drewN q2) := ⟨rfl, rfl, rfl, Nat.le_refl _, fun _ _ => rfl⟩
  generalize w1.drewN q2 = w2 at hb2 ⊢
  have hb2s := hb2.size
  have HB2 : Hid (Below G w w2) := HB1.out.trans (hb2.mono (by omega))
  have HR2 : Hid (w2.heap[G]? = some (.cells #[.int .i64 0, .slice none 0 0] 25 (0, 0))) := (hb2.block _ (by omega)).trans HR1.out
  clear hb2
  have hcv := HCV.out w2 HB2.out
  go_wp2_with fail
  refine (HSC.out w2 HB2.out).mono ?_
  rintro ev w3 ⟨rfl, q3, rfl⟩
  have hb3 : Below w2.heap.size w2 (w2.drewN q3) := ⟨rfl, rfl, rfl, Nat.le_refl _, fun _ _ => rfl⟩
  generalize w2.drewN q3 = w3 at hb3 ⊢
  have hb3s := hb3.size
  have HB3 : Hid (Below G w w3) := HB2.out.trans (hb3.mono (by omega))
  have HR3 : Hid (w3.heap[G]? = some (.cells #[.int .i64 0, .slice none 0 0] 25 (0, 0))) := (hb3.block _ (by omega)).trans HR2.out
  clear hb3 hcv
  go_wp2_with fail
  refine (HKO.out w3).mono ?_
  rintro ev w' ⟨⟨k, rfl, hko⟩, rfl⟩
  have HKK : Hid (kO Nm k) := hko
  clear hko
  go_wp2_with fail
  refine (HCL.out _ HB3.out).mono ?_
  rintro ev w4 ⟨ga, gc, rfl, how4, hb4⟩
  have hb4s := hb4.size
  have HB4 : Hid (Below G w w4) := HB3.out.trans (hb4.mono (by omega))
  have HR4 : Hid (w4.heap[G]? = some (.cells #[.int .i64 0, .slice none 0 0] 25 (0, 0))) := (hb4.block _ (by omega)).trans HR3.out
  have HO4 : Hid (w4.ownsRow (G + 2) 5 1 (.slice ga dn gc) dn (dz.map (Value.int .u8))) := World.ownsRow.mono how4 (by omega)
  clear how4 hb4
  go_wp2_with fail
  refine (fits_any k ga dn gc _).mono ?_
  rintro ev w5 ⟨rfl, hw5⟩
  have hb5 : Below w4.heap.size w4 w5 := by rw [hw5]; exact ((Below.refl _ w4).alloc (Nat.le_refl _) _).alloc (by simp) _
  have hs5 : w5.heap.size = w4.heap.size + 2 := by rw [hw5]; simp
  have hc50 : w5.cell? ⟨w4.heap.size, 0, none⟩ = some (.int .i64 k) := by rw [hw5]; simp
  have hc51 : w5.cell? ⟨w4.heap.size, 1, none⟩ = some (.slice ga dn gc) := by rw [hw5]; simp
  obtain ⟨H, HH⟩ : ∃ H, Hid (w4.heap.size = H) := ⟨_, rfl⟩
  rw [HH.out] at hc50 hc51 hb5 hs5 ⊢
  have hGH : G < H := by rw [← HH.out]; omega
  have HB5 : Hid (Below G w w5) := HB4.out.trans (hb5.mono (by omega))
  have HR5 : Hid (w5.heap[G]? = some (.cells #[.int .i64 0, .slice none 0 0] 25 (0, 0))) := (hb5.block _ hGH).trans HR4.out
  have HO5 : Hid (w5.ownsRow (G + 2) 5 1 (.slice ga dn gc) dn (dz.map (Value.int .u8))) := HO4.out.kept (row := none) ⟨hb5.os, hb5.tape, hb5.output, by rw [HH.out]; omega, fun k hk _ => hb5.block k (by rw [← HH.out]; exact hk)⟩ (by cases ga <;> simp [Value.ownBlock])
  clear hb5 hw5
  have hg0 : w5.cell? ⟨G, 0, none⟩ = some (.int .i64 0) := by rw [cell_of_row w5 G 0 _ _ _ HR5.out]; rfl
  have hg1 : w5.cell? ⟨G, 1, none⟩ = some (.slice none 0 0) := by rw [cell_of_row w5 G 1 _ _ _ HR5.out]; rfl
  have hf0 : w5.frozen? ⟨G, 0, none⟩ = false := frozen_of_row w5 G 0 _ _ HR5.out
  have hf1 : w5.frozen? ⟨G, 1, none⟩ = false := frozen_of_row w5 G 1 _ _ HR5.out
  have HNO : Hid (errE k dn ≠ 0 → ∀ k' D, ¬ Gd (Lib.bytesOf zs) k' D) := fun he k' D hg => by
    obtain ⟨rfl, rfl⟩ := kO_gd HCU.out HNm.out HKK.out hg
    have hl := hg.len
    rw [Lib.bytesOf_length, HDN.out] at hl
    exact he (errE_0' k dn (kN_ne k hg.lo hg.hi) (by omega))
  by_cases he : errE k dn = 0
  · obtain ⟨hfv, hd1⟩ := fits_ok k dn he
    rw [hfv]
    have hk14 : 1 ≤ k ∧ k ≤ 4 := by
      rcases HKK.out with ⟨e1, e2, _⟩ | ⟨rfl, _⟩
      · exact ⟨e1, e2⟩
      · exact absurd he (by unfold errE; rw [if_pos (by rw [Lib.toList_data, kN_list]; simp)]; decide)
    have HHD : Hid (Calls Tryz.prog 34 #[.agg #[.int .i64 k, .slice ga dn gc]] w5 fun e w' => e = .returned (.string ⟨(hd k dn).toArray⟩) ∧ Below w5.heap.size w5 w') := header_any k ga dn gc (by omega) w5 (HTA.out _ HB5.out)
    obtain ⟨S, HS⟩ : ∃ S : ByteArray, Hid (S = ⟨(hd k dn).toArray⟩) := ⟨_, rfl⟩
    rw [← HS.out] at HHD
    go_wp2_with fail
    refine HHD.out.mono ?_
    rintro ev w6 ⟨rfl, hb6⟩
    obtain ⟨c7, w7, hr7, hm7, hb7, hs7⟩ := conv_mk (hd k dn) w6
    rw [← HS.out] at hr7
    have hb6s := hb6.size
    have hb57 : Below w5.heap.size w5 w7 := hb6.trans (hb7.mono hb6.size)
    have HB7 : Hid (Below G w w7) := HB5.out.trans (hb57.mono (by omega))
    have HR7 : Hid (w7.heap[G]? = some (.cells #[.int .i64 0, .slice none 0 0] 25 (0, 0))) := (hb57.block _ (by omega)).trans HR5.out
    have HO7 : Hid (w7.ownsRow (G + 2) 5 1 (.slice ga dn gc) dn (dz.map (Value.int .u8))) := HO5.out.kept (row := none) ⟨hb57.os, hb57.tape, hb57.output, hb57.size, fun k hk _ => hb57.block k hk⟩ (by cases ga <;> simp [Value.ownBlock])
    have hc70 : w7.cell? ⟨H, 0, none⟩ = some (.int .i64 k) := (hb57.cell (p := ⟨H, 0, none⟩) (show H < _ by omega)).trans hc50
    have hc71 : w7.cell? ⟨H, 1, none⟩ = some (.slice ga dn gc) := (hb57.cell (p := ⟨H, 1, none⟩) (show H < _ by omega)).trans hc51
    obtain ⟨L, HL⟩ : ∃ L, Hid ((hd k dn).length = L) := ⟨_, rfl⟩
    rw [HL.out] at hr7
    have HPX : Hid (Calls Tryz.prog 85 #[.slice a n cap, .slice (some ⟨w6.heap.size, 0, none⟩) L c7] w7 fun e w' => e = .returned (.bool (Lib.hasPrefix (Lib.bytesOf zs) (hd k dn))) ∧ w' = w7) := by
      have := prefix_any a (some ⟨w6.heap.size, 0, none⟩) cap c7 zs (nums (hd k dn)) w7 (HSS.out w7 HB7.out) hm7.sl
      rw [nums_len, HN.out, HL.out, bytesOf_nums] at this
      exact this
    clear hc50 hc51 hg0 hg1 hf0 hf1 hb6 hb57 hb7 hm7
    cases hp : Lib.hasPrefix (Lib.bytesOf zs) (hd k dn) with
    | true =>
      rw [hp] at HPX
      have hg0 : w7.cell? ⟨G, 0, none⟩ = some (.int .i64 0) := by rw [cell_of_row w7 G 0 _ _ _ HR7.out]; rfl
      have hg1 : w7.cell? ⟨G, 1, none⟩ = some (.slice none 0 0) := by rw [cell_of_row w7 G 1 _ _ _ HR7.out]; rfl
      have hf0 : w7.frozen? ⟨G, 0, none⟩ = false := frozen_of_row w7 G 0 _ _ HR7.out
      have hf1 : w7.frozen? ⟨G, 1, none⟩ = false := frozen_of_row w7 G 1 _ _ HR7.out
      go_wp2_with fail
      refine HPX.out.mono ?_
      rintro ev w' ⟨rfl, rfl⟩
      go_wp2
      have hgd : Gd (Lib.bytesOf zs) k (Lib.bytesOf dz) := HCU.out.of k hk14.1 hk14.2 (by rw [Lib.bytesOf_length, HDN.out]; exact hd1) (by rw [Lib.bytesOf_length, HDN.out]; exact hp)
      refine bodyPost_ret (v := .tuple #[.agg #[.int .i64 k, .slice ga dn gc], .nilIface]) (results_mid2 Tryz.results40 _ _ G [.int .i64 k, .slice ga dn gc] _ rfl (range_set2 hg0 hg1) Tryz.underlying25 rfl Tryz.size25) rfl ⟨by rw [HG.out]; exact (HB7.out.setCell (Nat.le_refl _) _).setCell (Nat.le_refl _) _, .inl ⟨k, Lib.bytesOf dz, ga, gc, hgd, ?_, ?_⟩⟩
      · rw [Lib.bytesOf_length, HDN.out]
      · rw [Lib.bytesOf_length, HDN.out, nums_bytesOf _ HDB.out, HG.out]
        refine World.ownsRow.mono (base := G + 2) (HO7.out.kept (row := some G) (grown_setCell _ (grown_setCell _ ⟨rfl, rfl, rfl, Nat.le_refl _, fun _ _ _ => rfl⟩)) ?_) (by omega)
        cases hob : (Value.slice ga dn gc).ownBlock with
        | none => exact .inl rfl
        | some b =>
          refine .inr fun e => ?_
          have := (own_lt HO7.out b hob).1
          simp at e
          omega
    | false =>
      rw [hp] at HPX
      have hg0 : w7.cell? ⟨G, 0, none⟩ = some (.int .i64 0) := by rw [cell_of_row w7 G 0 _ _ _ HR7.out]; rfl
      have hg1 : w7.cell? ⟨G, 1, none⟩ = some (.slice none 0 0) := by rw [cell_of_row w7 G 1 _ _ _ HR7.out]; rfl
      have hf0 : w7.frozen? ⟨G, 0, none⟩ = false := frozen_of_row w7 G 0 _ _ HR7.out
      have hf1 : w7.frozen? ⟨G, 1, none⟩ = false := frozen_of_row w7 G 1 _ _ HR7.out
      go_wp2_with fail
      refine HPX.out.mono ?_
      rintro ev w' ⟨rfl, rfl⟩
      go_wp2
      refine bodyPost_ret (v := .tuple #[.agg #[.int .i64 0, .slice none 0 0], .iface 35 (.int .i64 24)]) (results_mid2 Tryz.results40 _ _ G [.int .i64 0, .slice none 0 0] _ rfl (range_set2 hg0 hg1) Tryz.underlying25 rfl Tryz.size25) rfl ⟨by rw [HG.out]; exact (HB7.out.setCell (Nat.le_refl _) _).setCell (Nat.le_refl _) _, .inr ⟨?_, rfl⟩⟩
      intro k' D hg
      obtain ⟨rfl, rfl⟩ := kO_gd HCU.out HNm.out HKK.out hg
      have := hg.prefix
      rw [Lib.bytesOf_length, HDN.out, hp] at this
      cases this
  · have hfv := fits_err k dn he
    rw [hfv]
    obtain ⟨er, HER⟩ : ∃ er, Hid (errE k dn = er) := ⟨_, rfl⟩
    rw [HER.out]
    clear hc50 hc51
    go_wp2
    refine bodyPost_ret (v := .tuple #[.agg #[.int .i64 0, .slice none 0 0], .iface 35 (.int .i64 24)]) (results_mid2 Tryz.results40 _ _ G [.int .i64 0, .slice none 0 0] _ rfl (range_set2 hg0 hg1) Tryz.underlying25 rfl Tryz.size25) rfl ⟨by rw [HG.out]; exact (HB5.out.setCell (Nat.le_refl _) _).setCell (Nat.le_refl _) _, .inr ⟨?_, rfl⟩⟩
    exact HNO.out he
end Go.Proofs.YtbpdielmdhhdfaaGreatDoor
/- The document's side of chapter 3: 'Decode'. -/
namespace Go.Proofs.YtbpdielmdhhdfaaGreatDoor
open Go.RowKit
set_option linter.unusedVariables false
set_option linter.unusedSimpArgs false
/-- What the document's 'Decode' gives. -/
def PostF (zs : List Int) (w : World) (e : Ending) (w' : World) : Prop :=
  Below w.heap.size w w' ∧ ((∃ (k : Nat) (D : List UInt8) (g : Option Addr) (c : Nat), Gd (Lib.bytesOf zs) k D ∧ e = .returned (.tuple #[.agg #[.int .i64 k, .slice g D.length c], .bool true]) ∧ Sl w' g c (nums D)) ∨
    ((∀ k D, ¬ Gd (Lib.bytesOf zs) k D) ∧ e = .returned (.tuple #[.agg #[.int .i64 0, .slice none 0 0], .bool false])))
theorem Tryz.results41 : Tryz.f41.results = #[.cell 2 39, .tmp 3] := by kernel_rfl
theorem bytesOf_zero {zs : List Int} (hz : IsB zs) {q : Nat} (hq : q < zs.length) : zs.getD q 0 = 0 ↔ (Lib.bytesOf zs).getD q 0 = 0 := by
  have hb := hz (zs.getD q 0) (by rw [List.getD_eq_getElem?_getD, List.getElem?_eq_getElem hq]; exact List.getElem_mem _)
  have : (Lib.bytesOf zs).getD q 0 = UInt8.ofNat (zs.getD q 0).toNat := by
    simp [Lib.bytesOf, List.getD_eq_getElem?_getD, List.getElem?_eq_getElem hq]
  rw [this]
  constructor
  · intro h; rw [h]; rfl
  · intro h
    have h2 := congrArg UInt8.toNat h
    rw [UInt8.toNat_ofNat'] at h2
    have h3 : (0 : UInt8).toNat = 0 := rfl
    rw [h3] at h2
    omega
/-- No 0 ahead of i; a 0 there. -/
structure Zr (zs : List Int) (i : Nat) : Prop where
  lt : i < zs.length
  at_ : zs.getD i 0 = 0
  no : ∀ q, q < i → zs.getD q 0 ≠ 0
theorem zr_split (zs : List Int) (hz : IsB zs) : (∀ q, q < zs.length → zs.getD q 0 ≠ 0) ∧ (0 : UInt8) ∉ Lib.bytesOf zs ∨ ∃ i, Zr zs i ∧ Cu (Lib.bytesOf zs) i (Lib.bytesOf (zs.drop (i + 1))) := by
  have hlB : (Lib.bytesOf zs).length = zs.length := Lib.bytesOf_length zs
  rcases index_one 0 (Lib.bytesOf zs) with ⟨h1, h2⟩ | ⟨a', d', h1, h2, h3⟩
  · refine .inl ⟨fun q hq h => ?_, h1⟩
    rw [bytesOf_zero hz hq, List.getD_eq_getElem?_getD, List.getElem?_eq_getElem (by omega)] at h
    simp only [Option.getD_some] at h
    exact h1 (h ▸ List.getElem_mem _)
  · have hd' : d' = Lib.bytesOf (zs.drop (a'.length + 1)) := by rw [Lib.bytesOf_drop, h1]; simp
    have hln : a'.length + 1 ≤ zs.length := by rw [← hlB, h1]; simp
    refine .inr ⟨a'.length, ⟨by omega, ?_, fun q hq h => ?_⟩, ?_⟩
    · rw [bytesOf_zero hz (by omega), h1]; simp
    · rw [bytesOf_zero hz (by omega), h1, List.getD_eq_getElem?_getD, List.getElem?_append_left hq, List.getElem?_eq_getElem hq] at h
      simp only [Option.getD_some] at h
      exact h2 (h ▸ List.getElem_mem _)
    · rw [← hd', h1]
      exact cu_some h2
/-- The same bytes: the object is that. -/
theorem gd_enc {zs dz : List Int} {k : Nat} (hz : IsB zs) (hdz : IsB dz) (h1 : 1 ≤ k) (h4 : k ≤ 4) (he : errE k dz.length = 0) (h : encZ k dz = zs) : Gd (Lib.bytesOf zs) k (Lib.bytesOf dz) := by
  have hl := (fits_ok k _ he).2
  refine ⟨h1, h4, by rw [Lib.bytesOf_length]; exact hl, ?_⟩
  rw [← h, encZ, Lib.bytesOf_length]
  have : Lib.bytesOf (nums (hd k dz.length) ++ dz) = Lib.bytesOf (nums (hd k dz.length)) ++ Lib.bytesOf dz := by simp [Lib.bytesOf]
  rw [this, bytesOf_nums]
theorem enc_gd {zs dz : List Int} {k : Nat} (hz : IsB zs) (hdz : IsB dz) (h : Gd (Lib.bytesOf zs) k (Lib.bytesOf dz)) : errE k dz.length = 0 ∧ encZ k dz = zs := by
  have hl := h.len
  rw [Lib.bytesOf_length] at hl
  refine ⟨errE_0 k _ (kN_ne k h.lo h.hi) (by omega), ?_⟩
  have e := congrArg nums h.eq
  rw [nums_bytesOf _ hz, nums_app, nums_bytesOf _ hdz, Lib.bytesOf_length] at e
  rw [e]; rfl
theorem Tryz.size39o : (Tryz.prog.info? 39).map (·.size) = some 2 := by kernel_rfl
theorem zero39 (w : World) : (zeroValue 39).run Tryz.prog w = .ok (.agg #[.int .i64 0, .slice none 0 0]) w := by kernel_rfl
set_option maxRecDepth 20000 in
set_option maxHeartbeats 4000000 in
theorem refDecode_none (a : Option Addr) (cap : Nat) (zs : List Int) (w : World) (hl : zs.length ≤ 300000) (hz : IsB zs) (hS : Sl w a cap zs) (hno : ∀ q, q < zs.length → zs.getD q 0 ≠ 0) (h0 : (0 : UInt8) ∉ Lib.bytesOf zs) :
    Calls Tryz.prog 41 #[.slice a zs.length cap] w (PostF zs w) := by
  obtain ⟨n, HN⟩ : ∃ n, Hid (zs.length = n) := ⟨_, rfl⟩
  obtain ⟨G, HG⟩ : ∃ G, Hid (w.heap.size = G) := ⟨_, rfl⟩
  obtain ⟨w1, HW1⟩ : ∃ w1, Hid (w.alloc (.cells #[.int .i64 0, .slice none 0 0] 39) = w1) := ⟨_, rfl⟩
  have HB1 : Hid (Below G w w1) := hid (by rw [← HW1.out, ← HG.out]; exact (Below.refl _ w).alloc (Nat.le_refl _) _)
  have hs1 : w1.heap.size = G + 1 := by rw [← HW1.out, ← HG.out]; simp
  have HR1 : Hid (w1.heap[G]? = some (.cells #[.int .i64 0, .slice none 0 0] 39 (0, 0))) := hid (by rw [← HW1.out, ← HG.out]; exact heap_alloc_new w _)
  have HS1 : Hid (Sl w1 a cap zs) := hS.below (by rw [HG.out]; exact HB1.out)
  have hln : n ≤ 300000 := by rw [← HN.out]; exact hl
  have HNO : Hid (∀ q, q < n → zs.getD q 0 ≠ 0) := fun q hq => hno q (by rw [HN.out]; exact hq)
  rw [HN.out]
  clear hS
  go_enter Tryz.func41, Tryz.ntmps41
  go_wp2_with fail
  rw [HG.out, HW1.out]
  go_loopg [4] 5 (fun g v wr => g = 5 ∧ v = .int .i64 1 ∧ wr = w1)
  case atStart => exact ⟨rfl, rfl, rfl⟩
  case round =>
    obtain ⟨rfl, rfl, hwr⟩ := hrel
    have hwr' := hwr.symm
    subst hwr'
    go_wp2_with fail
    go_loopg [5] n (fun g v wr => ∃ q : Nat, q ≤ n ∧ v = .int .i64 q ∧ g = n - q ∧ wr = w1)
    case atStart => exact ⟨0, Nat.zero_le _, rfl, rfl, rfl⟩
    case round =>
      obtain ⟨q, hq, rfl, hgq, hwr⟩ := hrel
      have hwr' := hwr.symm
      subst hwr'
      by_cases hlt : q < n
      · have hlti : (q : Int) < n := by omega
        obtain ⟨b, off, rfl, _, hat⟩ := HS1.out.at_ (by rw [HN.out]; omega)
        have hc := hat q (by rw [HN.out]; exact hlt)
        obtain ⟨x, HX⟩ : ∃ x, Hid (zs.getD q 0 = x) := ⟨_, rfl⟩
        rw [HX.out] at hc
        have hx : ¬ x = 0 := by rw [← HX.out]; exact HNO.out q hlt
        have hxb : (x == 0) = false := by simpa using hx
        go_wp2
        go_roundg (n - (q + 1))
        case measure => omega
        case rel => exact ⟨q + 1, by omega, by go_num, rfl, rfl⟩
      · have hlti : ¬ (q : Int) < n := by omega
        have hlei : (n : Int) ≤ q := by omega
        have hg0 : w1.cell? ⟨G, 0, none⟩ = some (.int .i64 0) := by rw [cell_of_row w1 G 0 _ _ _ HR1.out]; rfl
        have hg1 : w1.cell? ⟨G, 1, none⟩ = some (.slice none 0 0) := by rw [cell_of_row w1 G 1 _ _ _ HR1.out]; rfl
        have hf0 : w1.frozen? ⟨G, 0, none⟩ = false := frozen_of_row w1 G 0 _ _ HR1.out
        have hf1 : w1.frozen? ⟨G, 1, none⟩ = false := frozen_of_row w1 G 1 _ _ HR1.out
        go_wp2
        exact bodyPost_ret (v := .tuple #[.agg #[.int .i64 0, .slice none 0 0], .bool false]) (results_mid2 Tryz.results41 _ _ G [.int .i64 0, .slice none 0 0] _ rfl (range_set2 hg0 hg1) Tryz.underlying39 rfl Tryz.size39o) rfl ⟨by rw [HG.out]; exact (HB1.out.setCell (Nat.le_refl _) _).setCell (Nat.le_refl _) _, .inr ⟨fun k D hg => absurd hg.has h0, rfl⟩⟩
set_option maxRecDepth 20000 in
set_option maxHeartbeats 4000000 in
theorem refDecode_some (a : Option Addr) (cap : Nat) (zs : List Int) (w : World) (hl : zs.length ≤ 300000) (hz : IsB zs) (hS : Sl w a cap zs) (i : Nat) (hi : Zr zs i) (hcu : Cu (Lib.bytesOf zs) i (Lib.bytesOf (zs.drop (i + 1)))) :
    Calls Tryz.prog 41 #[.slice a zs.length cap] w (PostF zs w) := by
  obtain ⟨n, HN⟩ : ∃ n, Hid (zs.length = n) := ⟨_, rfl⟩
  obtain ⟨G, HG⟩ : ∃ G, Hid (w.heap.size = G) := ⟨_, rfl⟩
  obtain ⟨w1, HW1⟩ : ∃ w1, Hid (w.alloc (.cells #[.int .i64 0, .slice none 0 0] 39) = w1) := ⟨_, rfl⟩
  have HB1 : Hid (Below G w w1) := hid (by rw [← HW1.out, ← HG.out]; exact (Below.refl _ w).alloc (Nat.le_refl _) _)
  have hs1 : w1.heap.size = G + 1 := by rw [← HW1.out, ← HG.out]; simp
  have HR1 : Hid (w1.heap[G]? = some (.cells #[.int .i64 0, .slice none 0 0] 39 (0, 0))) := hid (by rw [← HW1.out, ← HG.out]; exact heap_alloc_new w _)
  have hln : n ≤ 300000 := by rw [← HN.out]; exact hl
  have hin : i < n := by rw [← HN.out]; exact hi.lt
  obtain ⟨dz, HDZ⟩ : ∃ dz, Hid (dz = zs.drop (i + 1)) := ⟨_, rfl⟩
  rw [← HDZ.out] at hcu
  have hdb : IsB dz := by rw [HDZ.out]; exact fun x hx => hz x (List.mem_of_mem_drop hx)
  obtain ⟨dn, HDN⟩ : ∃ dn, Hid (dz.length = dn) := ⟨_, rfl⟩
  have hdn : n - (i + 1) = dn := by rw [← HDN.out, HDZ.out, List.length_drop, HN.out]
  obtain ⟨b, off, rfl, hbl, hat⟩ := hS.at_ (by have := HN.out; omega)
  obtain ⟨da, HDA⟩ : ∃ da : Option Addr, Hid (da = if cap = i + 1 then some ⟨b, off, none⟩ else some ⟨b, off + (i + 1), none⟩) := ⟨_, rfl⟩
  obtain ⟨dc, HDC⟩ : ∃ dc, Hid (cap - (i + 1) = dc) := ⟨_, rfl⟩
  have hsl : ∀ W, (Instr.slice 23 (.slice (some ⟨b, off, none⟩) n cap) (some (.int .i64 ((i : Int) + 1))) none none).run Tryz.prog W = .ok (.slice da dn dc) W := fun W => by
    have hc := hS.capl
    rw [HN.out] at hc
    have := slice22 b off n cap (i + 1) W (by omega) hc
    rw [← HDA.out, HDC.out, hdn] at this
    rw [show ((i : Int) + 1) = ((i + 1 : Nat) : Int) by omega]
    exact this
  have HSD : Hid (∀ W, Below G w W → Sl W da dc dz) := fun W hW => by
    have := (hS.below (w' := W) (by rw [HG.out]; exact hW)).from (i + 1) (by have := HN.out; omega) (by have := HN.out; omega)
    rw [← HDZ.out, HDC.out] at this
    rw [HDA.out]
    simpa [addr_add] using this
  have HSS : Hid (∀ W, Below G w W → Sl W (some ⟨b, off, none⟩) cap zs) := fun W hW => hS.below (by rw [HG.out]; exact hW)
  have HNO : Hid (∀ q, q < i → zs.getD q 0 ≠ 0) := hi.no
  have HAT : Hid (zs.getD i 0 = 0) := hi.at_
  have HCU : Hid _ := hcu
  have HEN : Hid (∀ (k : Nat) W, Below G w W → Calls Tryz.prog 14 #[.agg #[.int .i64 k, .slice da dn dc]] W (PostR k dz W)) := fun k W hW => by
    rw [← HDN.out]
    exact refEncode_any k da dc dz W (by have := HDN.out; omega) (HSD.out W hW)
  rw [HN.out]
  clear hcu hi hat
  have hS' : Hid _ := hS
  clear hS
  go_enter Tryz.func41, Tryz.ntmps41
  go_wp2_with fail
  rw [HG.out, HW1.out]
  go_loopg [4] 4 (fun g v wr => ∃ j : Nat, 1 ≤ j ∧ j ≤ 5 ∧ v = .int .i64 j ∧ g = 5 - j ∧ Hid (Below G w wr) ∧ G < wr.heap.size ∧ Hid (wr.heap[G]? = some (.cells #[.int .i64 0, .slice none 0 0] 39 (0, 0))) ∧ Hid (∀ k D, Gd (Lib.bytesOf zs) k D → j ≤ k))
  case atStart => exact ⟨1, by omega, by omega, rfl, rfl, HB1, by omega, HR1, fun k D hg => hg.lo⟩
  case round =>
    obtain ⟨j, hj1, hj5, rfl, hgj, HB, hGs, HR, HJ⟩ := hrel
    by_cases hj : j ≤ 4
    · have hji : (j : Int) ≤ 4 := by omega
      go_wp2_with fail
      go_loopg [5] n (fun g v wr' => ∃ q : Nat, q ≤ i ∧ v = .int .i64 q ∧ g = n - q ∧ wr' = wr)
      case atStart => exact ⟨0, Nat.zero_le _, rfl, rfl, rfl⟩
      case round =>
        obtain ⟨q, hq, rfl, hgq, hwr⟩ := hrel
        have hwr' := hwr.symm
        subst hwr'
        obtain ⟨b', off', e1, _, hat⟩ := (HSS.out wr HB.out).at_ (by have := HN.out; omega)
        cases e1
        have hqn : q < n := by omega
        have hlti : (q : Int) < n := by omega
        have hc := hat q (by rw [HN.out]; exact hqn)
        obtain ⟨x, HX⟩ : ∃ x, Hid (zs.getD q 0 = x) := ⟨_, rfl⟩
        rw [HX.out] at hc
        by_cases hlt : q < i
        · have hx : ¬ x = 0 := by rw [← HX.out]; exact HNO.out q hlt
          have hxb : (x == 0) = false := by simpa using hx
          go_wp2
          go_roundg (n - (q + 1))
          case measure => omega
          case rel => exact ⟨q + 1, by omega, by go_num, rfl, rfl⟩
        · obtain rfl : q = i := by omega
          have hx : x = 0 := by rw [← HX.out]; exact HAT.out
          subst hx
          have hlei : ¬ (n : Int) ≤ q := by omega
          obtain ⟨H, HH⟩ : ∃ H, Hid (wr.heap.size = H) := ⟨_, rfl⟩
          obtain ⟨w1', HW1'⟩ : ∃ w1', Hid (wr.alloc (.cells #[.int .i64 j, .slice da dn dc] 39) = w1') := ⟨_, rfl⟩
          have hs1' : w1'.heap.size = H + 1 := by rw [← HW1'.out, ← HH.out]; simp
          have hc0 : w1'.cell? ⟨H, 0, none⟩ = some (.int .i64 j) := by rw [← HW1'.out, ← HH.out]; simp
          have hc1 : w1'.cell? ⟨H, 1, none⟩ = some (.slice da dn dc) := by rw [← HW1'.out, ← HH.out]; simp
          have hGH : G < H := by rw [← HH.out]; exact hGs
          have hb1' : Below H wr w1' := by rw [← HW1'.out, ← HH.out]; exact (Below.refl _ wr).alloc (Nat.le_refl _) _
          have HB1' : Hid (Below G w w1') := HB.out.trans (hb1'.mono (by omega))
          have HR1' : Hid (w1'.heap[G]? = some (.cells #[.int .i64 0, .slice none 0 0] 39 (0, 0))) := (hb1'.block _ hGH).trans HR.out
          have HE1 : Hid (Calls Tryz.prog 14 #[.agg #[.int .i64 j, .slice da dn dc]] w1' (PostR j dz w1')) := HEN.out j w1' HB1'.out
          go_wp2_with fail
          rw [HW1'.out, HH.out]
          refine HE1.out.mono ?_
          rintro ev w2 ⟨hb2, ⟨he, rfl⟩ | ⟨he, g, c2, rfl, h1, h2, h3, h4⟩⟩
          · have hb2s := hb2.size
            rw [hs1'] at hb2 hb2s
            have HB2 : Hid (Below G w w2) := HB1'.out.trans (hb2.mono (by omega))
            have HR2 : Hid (w2.heap[G]? = some (.cells #[.int .i64 0, .slice none 0 0] 39 (0, 0))) := (hb2.block _ (by omega)).trans HR1'.out
            have HJ2 : Hid (∀ k D, Gd (Lib.bytesOf zs) k D → j + 1 ≤ k) := fun k D hg => by
              have h := HJ.out k D hg
              rcases Nat.lt_or_ge j k with h' | h'
              · omega
              · obtain rfl : k = j := by omega
                obtain ⟨_, rfl⟩ := HCU.out.gd k D hg
                exact absurd (enc_gd hz hdb hg).1 he
            obtain ⟨er, HER⟩ : ∃ er, Hid (er = errE j dz.length) := ⟨_, rfl⟩
            have her : ¬ er = 0 := by rw [HER.out]; exact he
            have her2 : (er == 0) = false := by simpa using her
            rw [← HER.out]
            clear hb2 he hc0 hc1 hc
            go_wp2
            go_roundg (5 - (j + 1))
            case measure => omega
            case rel => exact ⟨j + 1, by omega, by omega, by go_num, rfl, HB2, by omega, HR2, HJ2⟩
          · have hb2s := hb2.size
            rw [hs1'] at hb2 hb2s
            have HB2 : Hid (Below G w w2) := HB1'.out.trans (hb2.mono (by omega))
            have HR2 : Hid (w2.heap[G]? = some (.cells #[.int .i64 0, .slice none 0 0] 39 (0, 0))) := (hb2.block _ (by omega)).trans HR1'.out
            have hcv1 := conv_str (l := encZ j dz) (a := some ⟨g, 0, none⟩) (cap := c2) (w := w2) ⟨h4, fun _ => ⟨g, 0, rfl, h2, h3⟩, fun e => by cases e⟩
            have hcv2 := conv_str (HSS.out w2 HB2.out)
            obtain ⟨L, HL⟩ : ∃ L, Hid ((encZ j dz).length = L) := ⟨_, rfl⟩
            rw [HL.out] at hcv1 ⊢
            rw [HN.out] at hcv2
            have hd0 : w2.cell? ⟨H, 0, none⟩ = some (.int .i64 j) := (hb2.cell (p := ⟨H, 0, none⟩) (show H < H + 1 by omega)).trans hc0
            have hd1 : w2.cell? ⟨H, 1, none⟩ = some (.slice da dn dc) := (hb2.cell (p := ⟨H, 1, none⟩) (show H < H + 1 by omega)).trans hc1
            obtain ⟨S2, HS2⟩ : ∃ S : ByteArray, Hid (S = ⟨(Lib.bytesOf zs).toArray⟩) := ⟨_, rfl⟩
            by_cases heq : encZ j dz = zs
            · rw [heq, ← HS2.out] at hcv1
              rw [← HS2.out] at hcv2
              have hgd := gd_enc hz hdb hj1 hj he heq
              have HGD : Hid _ := hgd
              have hg0 : w2.cell? ⟨G, 0, none⟩ = some (.int .i64 0) := by rw [cell_of_row w2 G 0 _ _ _ HR2.out]; rfl
              have hg1 : w2.cell? ⟨G, 1, none⟩ = some (.slice none 0 0) := by rw [cell_of_row w2 G 1 _ _ _ HR2.out]; rfl
              have hf0 : w2.frozen? ⟨G, 0, none⟩ = false := frozen_of_row w2 G 0 _ _ HR2.out
              have hf1 : w2.frozen? ⟨G, 1, none⟩ = false := frozen_of_row w2 G 1 _ _ HR2.out
              clear hb2 he hc0 hc1 hc heq hgd h1 h2 h3 h4
              go_wp2
              have hbE : Below G w ((w2.setCell ⟨G, 0, none⟩ (.int .i64 j)).setCell ⟨G, 1, none⟩ (.slice da dn dc)) := (HB2.out.setCell (Nat.le_refl _) _).setCell (Nat.le_refl _) _
              refine bodyPost_ret (v := .tuple #[.agg #[.int .i64 j, .slice da dn dc], .bool true]) (results_mid2 Tryz.results41 _ _ G [.int .i64 j, .slice da dn dc] _ rfl (range_set2 hg0 hg1) Tryz.underlying39 rfl Tryz.size39o) rfl ⟨by rw [HG.out]; exact hbE, .inl ⟨j, Lib.bytesOf dz, da, dc, HGD.out, ?_, ?_⟩⟩
              · rw [Lib.bytesOf_length, HDN.out]
              · rw [nums_bytesOf _ hdb]
                exact HSD.out _ hbE
            · obtain ⟨S1, HS1⟩ : ∃ S : ByteArray, Hid (S = ⟨(Lib.bytesOf (encZ j dz)).toArray⟩) := ⟨_, rfl⟩
              rw [← HS1.out] at hcv1
              rw [← HS2.out] at hcv2
              have hne : (S1.toList == S2.toList) = false := by
                rw [HS1.out, HS2.out, Lib.toList_data, Lib.toList_data]
                refine beq_eq_false_iff_ne.2 fun e => heq ?_
                have e' := congrArg nums (show Lib.bytesOf (encZ j dz) = Lib.bytesOf zs from e)
                rwa [nums_bytesOf _ (encZ_isB _ _ hdb), nums_bytesOf _ hz] at e'
              have HJ2 : Hid (∀ k D, Gd (Lib.bytesOf zs) k D → j + 1 ≤ k) := fun k D hg => by
                have h := HJ.out k D hg
                rcases Nat.lt_or_ge j k with h' | h'
                · omega
                · obtain rfl : k = j := by omega
                  obtain ⟨_, rfl⟩ := HCU.out.gd k D hg
                  exact absurd (enc_gd hz hdb hg).2 heq
              clear hb2 he hc0 hc1 hc heq hd0 hd1 h1 h2 h3 h4
              go_wp2
              go_roundg (5 - (j + 1))
              case measure => omega
              case rel => exact ⟨j + 1, by omega, by omega, by go_num, rfl, HB2, by omega, HR2, HJ2⟩
    · have hji : ¬ (j : Int) ≤ 4 := by omega
      have hg0 : wr.cell? ⟨G, 0, none⟩ = some (.int .i64 0) := by rw [cell_of_row wr G 0 _ _ _ HR.out]; rfl
      have hg1 : wr.cell? ⟨G, 1, none⟩ = some (.slice none 0 0) := by rw [cell_of_row wr G 1 _ _ _ HR.out]; rfl
      have hf0 : wr.frozen? ⟨G, 0, none⟩ = false := frozen_of_row wr G 0 _ _ HR.out
      have hf1 : wr.frozen? ⟨G, 1, none⟩ = false := frozen_of_row wr G 1 _ _ HR.out
      go_wp2
      exact bodyPost_ret (v := .tuple #[.agg #[.int .i64 0, .slice none 0 0], .bool false]) (results_mid2 Tryz.results41 _ _ G [.int .i64 0, .slice none 0 0] _ rfl (range_set2 hg0 hg1) Tryz.underlying39 rfl Tryz.size39o) rfl ⟨by rw [HG.out]; exact (HB.out.setCell (Nat.le_refl _) _).setCell (Nat.le_refl _) _, .inr ⟨fun k D hg => by have := HJ.out k D hg; have := hg.hi; omega, rfl⟩⟩
theorem refDecode_any (a : Option Addr) (cap : Nat) (zs : List Int) (w : World) (hl : zs.length ≤ 300000) (hz : IsB zs) (hS : Sl w a cap zs) : Calls Tryz.prog 41 #[.slice a zs.length cap] w (PostF zs w) := by
  rcases zr_split zs hz with ⟨h1, h2⟩ | ⟨i, h1, h2⟩
  · exact refDecode_none a cap zs w hl hz hS h1 h2
  · exact refDecode_some a cap zs w hl hz hS i h1 h2
end Go.Proofs.YtbpdielmdhhdfaaGreatDoor
