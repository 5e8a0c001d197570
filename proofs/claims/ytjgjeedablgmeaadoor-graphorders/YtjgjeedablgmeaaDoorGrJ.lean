/- 'walk'. -/
import Derived.Test.YtjgjeedablgmeaaDoorGrI
namespace Go.Proofs.YtjgjeedablgmeaaDoor
open Go.RowKit
set_option linter.unusedVariables false
set_option linter.unusedSimpArgs false
section
variable {α : Type} {enc : α → List Value} {k : Nat}
theorem Bx.move {e : TypeId} {w0 w w' : World} {B : Nat} {v : Value} {l : List α} {row : Option Nat} (h : Bx enc k e w0 w B v l) (hg : w.grownBy w' row) (hne : v.ownBlock = none ∨ v.ownBlock ≠ row) : Bx enc k e w' w' B v l :=
  ⟨Below.refl _ _, h.own.kept hg hne, Nat.le_trans h.le hg.size⟩
theorem Bx.re {e : TypeId} {w0 w : World} {B : Nat} {v : Value} {l : List α} (h : Bx enc k e w0 w B v l) : Bx enc k e w w B v l := ⟨Below.refl _ _, h.own, h.le⟩
theorem Bx.moveB {e : TypeId} {w0 w w' : World} {B : Nat} {v : Value} {l : List α} (h : Bx enc k e w0 w B v l) (hb : Below w.heap.size w w') : Bx enc k e w' w' B v l := h.move (row := none) (grown_of_below hb _) (by cases hv : v.ownBlock <;> simp)
theorem Bx.cut {e : TypeId} {w0 w : World} {B g n cap : Nat} {l : List α} (h : Bx enc k e w0 w B (.slice (some ⟨g, 0, none⟩) n cap) l) (hw : ∀ y ∈ l, (enc y).length = k) (j : Nat) (hj : j ≤ l.length) : Bx enc k e w0 w B (.slice (some ⟨g, 0, none⟩) j cap) (l.take j) := by
  refine ⟨h.below, ?_, h.le⟩
  have hlt : (l.take j).length = j := by rw [List.length_take]; omega
  rw [hlt]
  obtain ⟨h1, ⟨hv, _⟩ | ⟨g', cap', cur, hv, h2, h3, h4, h5, h6, h7⟩⟩ := h.own
  · cases hv
  · cases hv
    refine ⟨by rw [fX_len (k := k) _ (fun y hy => hw y (List.mem_of_mem_take hy)), hlt], .inr ⟨g, cap, cur, rfl, h2, h3, by omega, h5, h6, ?_⟩⟩
    have hjk : j * k ≤ l.length * k := Nat.mul_le_mul_right k hj
    have e1 : cur.toList.take (j * k) = (l.flatMap enc).take (j * k) := by rw [← h7, List.take_take, Nat.min_eq_left hjk]
    rw [e1]
    conv => lhs; rw [← List.take_append_drop j l, List.flatMap_append]
    rw [List.take_append_of_le_length (by rw [fX_len (k := k) _ (fun y hy => hw y (List.mem_of_mem_take hy)), hlt]; exact Nat.le_refl _), List.take_of_length_le (by rw [fX_len (k := k) _ (fun y hy => hw y (List.mem_of_mem_take hy)), hlt]; exact Nat.le_refl _)]
end
theorem SI.congr {w : World} {g n : Nat} {S T : List Int → Prop} (h : SI w g n S) (he : ∀ x, S x ↔ T x) : SI w g n T := by
  obtain ⟨D, h1, h2⟩ := h
  exact ⟨D, h1, fun x kl hk => (h2 x kl hk).trans (he x)⟩
theorem nodup_sub {α : Type} [DecidableEq α] : ∀ (M L : List α), M.Nodup → (∀ y ∈ M, y ∈ L) → M.length ≤ L.length
  | [], L, _, _ => Nat.zero_le _
  | x :: M, L, h, hs => by
    have hx := hs x (by simp)
    have h2 := List.nodup_cons.1 h
    have := nodup_sub M (L.erase x) h2.2 (fun y hy => (List.mem_erase_of_ne (fun e => h2.1 (by rw [← e]; exact hy))).2 (hs y (by simp [hy])))
    rw [List.length_erase_of_mem hx] at this
    have := List.length_pos_of_mem hx
    simp only [List.length_cons]
    omega
/-- While it walks: M has been met, W waits. -/
structure WK (l : List Nd) (fs M W : List (List Int)) : Prop where
  one : M.Nodup
  met : ∀ y ∈ M, y ∈ ids l ∧ Rch l (· ∈ fs) y
  wait : ∀ y ∈ W, Rch l (· ∈ fs) y
  idw : ∀ y ∈ W, IdW y
  start : ∀ y ∈ fs, y ∈ M ∨ y ∈ W
  step : ∀ x ∈ l, x.id ∈ M → ∀ p ∈ x.ps, p ∈ M ∨ p ∈ W
  len : W.length ≤ fs.length + 40 * M.length
theorem WK.few {l : List Nd} {fs M W : List (List Int)} (h : WK l fs M W) : M.length ≤ l.length := by
  have := nodup_sub M (ids l) h.one (fun y hy => (h.met y hy).1)
  unfold ids at this
  rwa [List.length_map] at this
theorem wk_start {l : List Nd} {fs W : List (List Int)} (hf : ∀ y ∈ fs, IdW y) (hW : W.Perm fs) : WK l fs [] W :=
  ⟨List.nodup_nil, fun y hy => by (cases hy), fun y hy => Rch.of (hW.mem_iff.1 hy), fun y hy => hf y (hW.mem_iff.1 hy), fun y hy => .inr (hW.mem_iff.2 hy), fun x _ hx => by (cases hx), by rw [hW.length_eq]; simp⟩
theorem WK.pass {l : List Nd} {fs M W : List (List Int)} {y : List Int} (h : WK l fs M (W ++ [y])) (hy : y ∈ M) : WK l fs M W :=
  ⟨h.one, h.met, fun z hz => h.wait z (by simp [hz]), fun z hz => h.idw z (by simp [hz]), fun z hz => by
    rcases h.start z hz with h1 | h1
    · exact .inl h1
    · rcases List.mem_append.1 h1 with h2 | h2
      · exact .inr h2
      · exact .inl (by have : z = y := by simpa using h2
                       rw [this]; exact hy), fun x hx hm p hp => by
    rcases h.step x hx hm p hp with h1 | h1
    · exact .inl h1
    · rcases List.mem_append.1 h1 with h2 | h2
      · exact .inr h2
      · exact .inl (by have : p = y := by simpa using h2
                       rw [this]; exact hy), by have := h.len; rw [List.length_append] at this; simp at this; omega⟩
theorem WK.take {l : List Nd} {fs M W Z : List (List Int)} {x : Nd} (hl : (ids l).Nodup) (hx : x ∈ l) (h : WK l fs M (W ++ [x.id])) (hy : x.id ∉ M) (hZ : Z.Perm x.ps) (hps : ∀ p ∈ x.ps, IdW p) (h40 : x.ps.length ≤ 40) : WK l fs (x.id :: M) (W ++ Z) := by
  have hrx : Rch l (· ∈ fs) x.id := h.wait _ (by simp)
  refine ⟨List.nodup_cons.2 ⟨hy, h.one⟩, fun z hz => ?_, fun z hz => ?_, fun z hz => ?_, fun z hz => ?_, fun c hc hm p hp => ?_, ?_⟩
  · rcases List.mem_cons.1 hz with rfl | hz
    · exact ⟨mem_ids hx, hrx⟩
    · exact h.met z hz
  · rcases List.mem_append.1 hz with hz | hz
    · exact h.wait z (by simp [hz])
    · exact hrx.step ⟨x, hx, rfl, hZ.mem_iff.1 hz⟩
  · rcases List.mem_append.1 hz with hz | hz
    · exact h.idw z (by simp [hz])
    · exact hps z (hZ.mem_iff.1 hz)
  · rcases h.start z hz with h1 | h1
    · exact .inl (by simp [h1])
    · rcases List.mem_append.1 h1 with h2 | h2
      · exact .inr (by simp [h2])
      · exact .inl (by have : z = x.id := by simpa using h2
                       simp [this])
  · rcases List.mem_cons.1 hm with e | hm
    · have : c = x := ids_inj hl hc hx e
      subst this
      exact .inr (by simp [hZ.mem_iff.2 hp])
    · rcases h.step c hc hm p hp with h1 | h1
      · exact .inl (by simp [h1])
      · rcases List.mem_append.1 h1 with h2 | h2
        · exact .inr (by simp [h2])
        · exact .inl (by have : p = x.id := by simpa using h2
                         simp [this])
  · have := h.len
    have h2 := hZ.length_eq
    rw [List.length_append] at this ⊢
    simp at this
    simp only [List.length_cons]
    omega
theorem WK.all {l : List Nd} {fs M : List (List Int)} (h : WK l fs M []) (y : List Int) : y ∈ M ↔ Rch l (· ∈ fs) y :=
  ⟨fun hy => (h.met y hy).2, fun hr => hr (· ∈ M) (fun x hx => (h.start x hx).resolve_right (by simp)) (fun x z hx he => by
    obtain ⟨n, hn, e1, e2⟩ := he
    exact (h.step n hn (by rw [e1]; exact hx) z e2).resolve_right (by simp))⟩
/-- What 'walk' gives. -/
def PostW (l : List Nd) (fs : List (List Int)) (w : World) (e : Ending) (w' : World) : Prop := Below w.heap.size w w' ∧
  (((∃ g n, e = .returned (.tuple #[.map (some g), .nilIface]) ∧ w.heap.size ≤ g ∧ n ≤ 40 ∧ SI w' g n (Rch l (· ∈ fs))) ∧ ∀ y, Rch l (· ∈ fs) y → y ∈ ids l) ∨
   ((∃ y, Rch l (· ∈ fs) y ∧ y ∉ ids l) ∧ e = .returned (.tuple #[.map none, .iface 30 (.int .i64 80)])))
set_option maxRecDepth 20000 in
set_option maxHeartbeats 4000000 in
theorem walk_any {w : World} {hb m : Nat} {a : Option Addr} {cap : Nat} {l : List Nd} (h : Hi w hb m a cap l) (fa : Option Addr) (fc : Nat) (fs : List (List Int)) (hf : ∀ x ∈ fs, IdW x) (hfl : fs.length ≤ 20000) (hP : Pa w fa fc fs) (ha : True) :
    Calls Tryd.prog 38 #[.func (.func 39) #[.pointer (some ⟨hb, 0, none⟩)] #[], .slice fa fs.length fc] w (PostW l fs w) := by
  obtain ⟨G, HG⟩ : ∃ G, Hid (w.heap.size = G) := ⟨_, rfl⟩
  obtain ⟨NF, HNF⟩ : ∃ n, Hid (fs.length = n) := ⟨_, rfl⟩
  have hNF : NF ≤ 20000 := by rw [← HNF.out]; exact hfl
  have HHI : Hid (∀ W, Below G w W → Hi W hb m a cap l) := fun W hW => h.below (by rw [HG.out]; exact hW)
  have HONE : Hid ((ids l).Nodup) := h.one
  have HL40 : Hid (l.length ≤ 40) := h.few
  have HPS : Hid (∀ x ∈ l, x.ps.length ≤ 40) := h.fps
  obtain ⟨w1, HW1⟩ : ∃ w1, Hid (w.alloc (.map #[] 0) = w1) := ⟨_, rfl⟩
  have hb1 : Below w.heap.size w w1 := by rw [← HW1.out]; exact (Below.refl _ w).alloc (Nat.le_refl _) _
  have HS1 : Hid (SI w1 G 0 (· ∈ ([] : List (List Int)))) := hid (by rw [← HW1.out, ← HG.out]; exact (si_made w).congr (fun x => by simp))
  have hsz1 : w1.heap.size = G + 1 := by rw [← HW1.out, ← HG.out]; simp
  have HB1 : Hid (Below G w w1) := hid (by rw [← HG.out]; exact hb1)
  have C52 : Hid (Calls Tryd.prog 52 #[.slice fa NF fc] w1 fun e w' => ∃ v l', e = .returned v ∧ l'.Perm fs ∧ Bi 42 w1 w' (G + 1) v l') := hid (by
    have := backwards_any fa fc fs w1 hf (by omega) (hP.below hb1) ha
    rw [HNF.out, hsz1] at this
    exact this)
  have HFI : Hid (∀ y ∈ fs, IdW y) := hf
  have hmk : (Instr.makeMap 67 none).run Tryd.prog w = .ok (.map (some w.heap.size)) (w.alloc (.map #[] 0)) := by kernel_rfl
  obtain ⟨zr, HZ⟩ : ∃ zr : Array Value, Hid (zr = (row .u8 z20).toArray) := ⟨_, rfl⟩
  have hz42 : ∀ w : World, (zeroValue 42).run Tryd.prog w = .ok (.agg zr) w := fun w => by rw [HZ.out]; exact zero42 w
  rw [HNF.out]
  clear h hP hb1 hf
  go_enter Tryd.func38, Tryd.ntmps38
  go_wp2_with fail
  rw [HW1.out, HG.out]
  refine C52.out.mono ?_
  rintro ev w2 ⟨v0, W0, rfl, hp0, hb2⟩
  have HSz : Hid (w1.heap.size = G + 1) := hsz1
  have HBI2 : Hid (Bi 42 w2 w2 (G + 1) v0 W0) := hid hb2.re
  have HB2 : Hid (Below G w w2) := hid (HB1.out.trans (hb2.below.mono (by omega)))
  have HS2 : Hid (SI w2 G 0 (· ∈ ([] : List (List Int)))) := hid (HS1.out.below (by rw [hsz1]; exact hb2.below))
  have HWK : Hid (WK l fs [] W0) := hid (wk_start HFI.out hp0)
  clear hp0 hb2 hsz1
  go_wp2_with fail
  go_loopg [7] (W0.length + 41 * 40) (fun gg v wr => ∃ (W M : List (List Int)) (n : Nat), Hid (W.length = n) ∧ gg = n + 41 * (40 - M.length) ∧ Hid (Bi 42 wr wr (G + 1) v W) ∧ Hid (SI wr G M.length (· ∈ M)) ∧ Hid (Below G w wr) ∧ Hid (WK l fs M W))
  case atStart => exact ⟨W0, [], _, hid rfl, rfl, HBI2, HS2, HB2, HWK⟩
  case round =>
    obtain ⟨W, M, n, HN, hgg, HBI, HSI, HBw, HWK⟩ := hrel
    have hMl : M.length ≤ 40 := Nat.le_trans HWK.out.few HL40.out
    have hGw : G < wr.heap.size := HSI.out.lt
    by_cases h0 : 0 < n
    · obtain ⟨q, cp, hvq⟩ : ∃ q cp, u7 = .slice (some ⟨q, 0, none⟩) n cp := by
        obtain ⟨_, ⟨_, h1⟩ | ⟨q, cp, cur, h1, _⟩⟩ := HBI.out.own
        · rw [HN.out] at h1; omega
        · rw [HN.out] at h1; exact ⟨q, cp, h1⟩
      subst hvq
      have hnb : n ≤ 22000 := by have := HWK.out.len; rw [HN.out, HNF.out] at this; omega
      obtain ⟨n1, hn1⟩ : ∃ n1, n = n1 + 1 := ⟨n - 1, by omega⟩
      have hn1b : n1 ≤ 22000 := by omega
      have hn1lt : n1 < n := by omega
      have HN1 : Hid (n = n1 + 1) := hn1
      have hn1i : (n : Int) - 1 = (n1 : Int) := by omega
      have HWE : Hid (W = W.take n1 ++ [W.getD n1 []]) := hid (by
        have := take_snocG [] W n1 (by rw [HN.out]; omega)
        rw [← this, List.take_of_length_le (by rw [HN.out]; omega)])
      obtain ⟨y, HY⟩ : ∃ y, Hid (W.getD n1 [] = y) := ⟨_, rfl⟩
      obtain ⟨W1, HW1'⟩ : ∃ W1, Hid (W.take n1 = W1) := ⟨_, rfl⟩
      have HWE2 : Hid (W = W1 ++ [y]) := hid (by have := HWE.out; rwa [HY.out, HW1'.out] at this)
      have HW1L : Hid (W1.length = n1) := hid (by rw [← HW1'.out, List.length_take, HN.out]; omega)
      have hym : y ∈ W := by rw [HWE2.out]; simp
      have HYW : Hid (IdW y) := hid (HWK.out.idw y hym)
      have HRY : Hid (Rch l (· ∈ fs) y) := hid (HWK.out.wait y hym)
      have HWL : Hid (∀ z ∈ W, (row .u8 z).length = 20) := fun z hz => by rw [row_len]; exact (HWK.out.idw z hz).1
      have HCUT : Hid (Bi 42 wr wr (G + 1) (.slice (some ⟨q, 0, none⟩) n1 cp) W1) := hid (by
        rw [← HW1'.out]; exact HBI.out.cut HWL.out n1 (by rw [HN.out]; omega))
      have hcp : n ≤ cp := by
        obtain ⟨_, ⟨h1, _⟩ | ⟨_, _, cur, h1, _, _, h2, _⟩⟩ := HBI.out.own
        · cases h1
        · cases h1; rw [HN.out] at h2; exact h2
      have hcpi : (n1 : Int) ≤ (cp : Int) := by omega
      have hn1n : (n1 : Int) < (n : Int) := by omega
      obtain ⟨RF, HRF⟩ : ∃ R : List Value, Hid (row .u8 y = R) := ⟨_, rfl⟩
      have RR : Hid (wr.rangeAt q (n1 * 20) RF) := hid (by
        obtain ⟨a', cap', e1, e2, _⟩ := HBI.out.px (d := []) HWL.out
        rw [HN.out] at e1
        cases e1
        obtain ⟨b', off', e3, _, e4⟩ := e2.at_ (by rw [HN.out]; omega)
        cases e3
        have := e4 n1 (by rw [HN.out]; omega)
        rw [HY.out, HRF.out, Nat.zero_add] at this
        exact this)
      have HFN : Hid (RF.length = 20) := hid (by rw [← HRF.out, row_len]; exact HYW.out.1)
      have hi42 : (Tryd.prog.info? 42).map (·.size) = some RF.length := by rw [HFN.out]; exact Tryd.size42
      have I42 : Hid ((Tryd.prog.info? 42).map (·.size) = some RF.toArray.size) := hid (by rw [List.size_toArray]; exact hi42)
      have E42 : Hid (zr.size = RF.toArray.size) := hid (by rw [HZ.out, List.size_toArray, List.size_toArray, HFN.out]; rfl)
      have O42 : Hid (RF.toArray.all (·.oneCell') = true) := hid (by rw [← HRF.out]; exact all_oneCell_toArray (row_one _ _))
      have D0 : Hid ((wr.alloc (.cells zr 42)).heap[wr.heap.size]? = some (.cells zr 42 (0, 0))) := heap_alloc_new wr _
      obtain ⟨w3, HW3⟩ : ∃ w3, Hid ((wr.alloc (.cells zr 42)).setRow wr.heap.size RF.toArray = w3) := ⟨_, rfl⟩
      obtain ⟨H, HH⟩ : ∃ H, Hid (wr.heap.size = H) := ⟨_, rfl⟩
      have hb3 : Below wr.heap.size wr w3 := by rw [← HW3.out]; exact below_setRow ((Below.refl _ wr).alloc (Nat.le_refl _) _) (Nat.le_refl _) _
      have HX3 : Hid (w3.heap[H]? = some (.cells RF.toArray 42 (0, 0))) := hid (by rw [← HW3.out, ← HH.out]; exact setRow_heap _ _ _ RF.toArray _ _ D0.out)
      have R3 : Hid (w3.rangeAt H 0 RF) := hid (range_row HX3.out)
      have HB3 : Hid (Below G w w3) := hid (HBw.out.trans (hb3.mono (Nat.le_of_lt hGw)))
      have HS3 : Hid (SI w3 G M.length (· ∈ M)) := hid (HSI.out.below hb3)
      have HC3 : Hid (Bi 42 w3 w3 (G + 1) (.slice (some ⟨q, 0, none⟩) n1 cp) W1) := hid (HCUT.out.moveB hb3)
      have hH3 : H < w3.heap.size := lt_of_some HX3.out
      have hGH : G < H := by rw [← HH.out]; exact hGw
      obtain ⟨b, hbm, hlk⟩ := HS3.out.look7 HYW.out
      have HLK : Hid ((Instr.lookup 67 (.map (some G)) (.agg RF.toArray) true).run Tryd.prog w3 = .ok (.tuple #[.agg #[], .bool b]) w3) := hid (by
        unfold idV at hlk
        rw [HRF.out] at hlk
        exact hlk)
      have hz105 : ∀ w : World, (zeroValue 105).run Tryd.prog w = .ok (.agg #[]) w := zero105r
      obtain ⟨w4, HW4⟩ : ∃ u, Hid (w3.alloc (.cells #[] 105) = u) := ⟨_, rfl⟩
      have hb4 : Below w3.heap.size w3 w4 := by rw [← HW4.out]; exact (Below.refl _ w3).alloc (Nat.le_refl _) _
      have al4 : w3.alloc (.cells #[] 105) = w4 := HW4.out
      have HB4 : Hid (Below G w w4) := hid (HB3.out.trans (hb4.mono (by omega)))
      have HS4 : Hid (SI w4 G M.length (· ∈ M)) := hid (HS3.out.below hb4)
      have HC4 : Hid (Bi 42 w4 w4 (G + 1) (.slice (some ⟨q, 0, none⟩) n1 cp) W1) := hid (HC3.out.moveB hb4)
      have HX4 : Hid (w4.heap[H]? = some (.cells RF.toArray 42 (0, 0))) := hid ((hb4.block H hH3).trans HX3.out)
      have R4 : Hid (w4.rangeAt H 0 RF) := hid (range_row HX4.out)
      have hH4 : H < w4.heap.size := lt_of_some HX4.out
      have HBM : Hid (b = true ↔ y ∈ M) := hbm
      clear hb3 hym HWE hn1 hb4 hbm hlk
      cases b with
      | true =>
        have hyM : y ∈ M := HBM.out.1 rfl
        have HWK2 : Hid (WK l fs M W1) := hid (by have := HWK.out; rw [HWE2.out] at this; exact this.pass hyM)
        clear hyM
        go_wp2_with (first
          | refine wpList_load_mid rfl 42 _ rfl q (n1 * 20) rfl RF _ RR.out Tryd.underlying42 rfl hi42 ?_
          | (refine wpList_store_row rfl 42 _ _ rfl wr.heap.size RF.toArray rfl rfl 42 zr D0.out I42.out E42.out O42.out ?_; rw [HW3.out, HH.out])
          | refine wpList_load_mid rfl 42 _ rfl H 0 rfl RF _ R3.out Tryd.underlying42 rfl hi42 ?_
          | refine wpList_run rfl _ (exec_lookup rfl rfl rfl HLK.out) ?_
          | fail)
        go_roundg (n1 + 41 * (40 - M.length))
        case measure => omega
        case rel => exact ⟨W1, M, n1, HW1L, rfl, HC4, HS4, HB4, HWK2⟩
      | false =>
        have HYM : Hid (y ∉ M) := fun h => by have := HBM.out.2 h; cases this
        obtain ⟨w5, hput, hs5, hg5⟩ := HS4.out.put7 (by omega) HYW.out
        have HPUT : Hid ((Instr.mapUpdate 67 (.map (some G)) (.agg RF.toArray) (.agg #[])).run Tryd.prog w4 = .ok () w5) := hid (by
          unfold idV at hput
          rw [HRF.out] at hput
          exact hput)
        have HS5 : Hid (SI w5 G (y :: M).length (· ∈ (y :: M))) := hid (hs5.congr (fun x => by simp))
        have HB5 : Hid (Below G w w5) := hid (HB4.out.grown hg5 (by omega) (fun k hk => by cases hk; exact Nat.le_refl _))
        have HC5 : Hid (Bi 42 w5 w5 (G + 1) (.slice (some ⟨q, 0, none⟩) n1 cp) W1) := hid (HC4.out.move hg5 (.inr (by
          have := (own_lt HC4.out.own q rfl).1
          simp [Value.ownBlock]
          omega)))
        have HX5 : Hid (w5.heap[H]? = some (.cells RF.toArray 42 (0, 0))) := hid ((hg5.block H hH4 (by simp; omega)).trans HX4.out)
        have R5 : Hid (w5.rangeAt H 0 RF) := hid (range_row HX5.out)
        have HI5 : Hid (Hi w5 hb m a cap l) := hid (HHI.out _ HB5.out)
        have C39 : Hid (Calls Tryd.prog 39 #[.pointer (some ⟨hb, 0, none⟩), .agg RF.toArray] w5 fun e w' => PostPa l y e ∧ Below w5.heap.size w5 w') := hid (by
          have := parents_any HI5.out HYW.out
          unfold idV at this
          rw [HRF.out] at this
          exact this)
        have hH5 : H < w5.heap.size := lt_of_some HX5.out
        clear hput hs5 hg5
        go_wp2_with (first
          | refine wpList_load_mid rfl 42 _ rfl q (n1 * 20) rfl RF _ RR.out Tryd.underlying42 rfl hi42 ?_
          | (refine wpList_store_row rfl 42 _ _ rfl wr.heap.size RF.toArray rfl rfl 42 zr D0.out I42.out E42.out O42.out ?_; rw [HW3.out, HH.out])
          | refine wpList_load_mid rfl 42 _ rfl H 0 rfl RF _ R3.out Tryd.underlying42 rfl hi42 ?_
          | refine wpList_run rfl _ (exec_lookup rfl rfl rfl HLK.out) ?_
          | refine wpList_load_mid rfl 42 _ rfl H 0 rfl RF _ R4.out Tryd.underlying42 rfl hi42 ?_
          | refine wpList_skip rfl (exec_update rfl rfl rfl rfl HPUT.out) ?_
          | refine wpList_load_mid rfl 42 _ rfl H 0 rfl RF _ R5.out Tryd.underlying42 rfl hi42 ?_
          | fail)
        refine C39.out.mono ?_
        rintro ev w6 ⟨hpo, hb6⟩
        have HB6 : Hid (Below G w w6) := hid (HB5.out.trans (hb6.mono (by omega)))
        have HS6 : Hid (SI w6 G (y :: M).length (· ∈ (y :: M))) := hid (HS5.out.below hb6)
        have HC6 : Hid (Bi 42 w6 w6 (G + 1) (.slice (some ⟨q, 0, none⟩) n1 cp) W1) := hid (HC5.out.moveB hb6)
        have hGw6 : G < w6.heap.size := HS6.out.lt
        clear hb6
        rcases hpo with ⟨hno, rfl⟩ | ⟨x, hx, hxy, rfl⟩
        · have HNO : Hid (y ∉ ids l) := hno
          clear hno
          go_wp2
          go_ret2
          exact ⟨by rw [HG.out]; exact HB6.out, .inr ⟨⟨y, HRY.out, HNO.out⟩, rfl⟩⟩
        · have HX : Hid (x ∈ l) := hx
          have HXY : Hid (x.id = y) := hxy
          have hnw := (HHI.out _ HB6.out).wf x hx
          obtain ⟨k, HK⟩ : ∃ k, Hid (x.ps.length = k) := ⟨_, rfl⟩
          obtain ⟨pa, HPA⟩ : ∃ k, Hid (x.pa = k) := ⟨_, rfl⟩
          obtain ⟨pc, HPC⟩ : ∃ k, Hid (x.pc = k) := ⟨_, rfl⟩
          have hk40 : k ≤ 40 := by rw [← HK.out]; exact HPS.out x hx
          have HPI : Hid (∀ p ∈ x.ps, IdW p) := hnw.ps
          have C52b : Hid (Calls Tryd.prog 52 #[.slice pa k pc] w6 fun e w' => ∃ v l', e = .returned v ∧ l'.Perm x.ps ∧ Bi 42 w6 w' w6.heap.size v l') := hid (by
            have := backwards_any x.pa x.pc x.ps w6 hnw.ps (by rw [HK.out]; omega) hnw.mem hnw.pl
            rw [HK.out, HPA.out, HPC.out] at this
            exact this)
          rw [HK.out, HPA.out, HPC.out]
          clear hnw hx hxy
          go_wp2_with fail
          refine C52b.out.mono ?_
          rintro ev w7 ⟨vz, Z, rfl, hpz, hbz⟩
          have HPZ : Hid (Z.Perm x.ps) := hpz
          have hb7 := hbz.below
          have HB7 : Hid (Below G w w7) := hid (HB6.out.trans (hb7.mono (by omega)))
          have HS7 : Hid (SI w7 G (y :: M).length (· ∈ (y :: M))) := hid (HS6.out.below hb7)
          have HC7 : Hid (Bi 42 w7 w7 (G + 1) (.slice (some ⟨q, 0, none⟩) n1 cp) W1) := hid (HC6.out.moveB hb7)
          have hZI : ∀ z ∈ Z, IdW z := fun z hz => HPI.out z (hpz.mem_iff.1 hz)
          obtain ⟨za, zc, hze, hzp, _⟩ := hbz.px (d := []) (fun z hz => by rw [row_len]; exact (hZI z hz).1)
          subst hze
          have HZP : Hid (Pa w7 za zc Z) := hzp
          have HZI : Hid (∀ z ∈ Z, (row .u8 z).length = 20) := fun z hz => by rw [row_len]; exact (hZI z hz).1
          have hZk : Z.length = k := by rw [hpz.length_eq]; exact HK.out
          have HSUM : Hid (W1.length + Z.length ≤ 30000) := hid (by rw [hZk, HW1L.out]; omega)
          have HWK3 : Hid (WK l fs (y :: M) (W1 ++ Z)) := hid (by
            have h1 := HWK.out
            rw [HWE2.out, ← HXY.out] at h1
            have h2 := HYM.out
            rw [← HXY.out] at h2
            have := WK.take HONE.out HX.out h1 h2 HPZ.out HPI.out (by rw [HK.out]; exact hk40)
            rw [HXY.out] at this
            exact this)
          have HZL : Hid (Z.length = k) := hZk
          have hML2 : (y :: M).length ≤ 40 := Nat.le_trans HWK3.out.few HL40.out
          have hGw7 : G < w7.heap.size := HS7.out.lt
          rw [hZk]
          clear hpz hbz hb7 hZI hzp hZk
          go_wp2_with (first
            | (refine wpList_bx_sl (d := []) rfl _ _ 32 42 Tryd.underlying32 Tryd.info42 rfl (by decide) (by decide) (fun z => row_one _ z) rfl (G + 1) _ W1 rfl HC7.out za zc Z (by rw [HZL.out]; rfl) HZP.out HZI.out HSUM.out ?_; intro v8 w8 hb8 hg8)
            | fail)
          have hg8' : w7.grownBy w8 (some q) := hg8
          have hqG : G + 1 ≤ q := (own_lt HC7.out.own q rfl).1
          have HB8 : Hid (Below G w w8) := hid (HB7.out.grown hg8' (by omega) (fun k hk => by cases hk; omega))
          have HS8 : Hid (SI w8 G (y :: M).length (· ∈ (y :: M))) := hid (HS7.out.kept hg8' (by simp; omega))
          have HC8 : Hid (Bi 42 w8 w8 (G + 1) v8 (W1 ++ Z)) := hid hb8.re
          have HNL : Hid ((W1 ++ Z).length = n1 + k) := hid (by rw [List.length_append, HW1L.out, HZL.out])
          clear hb8 hg8 hg8'
          go_roundg (n1 + k + 41 * (40 - (y :: M).length))
          case measure => simp only [List.length_cons] at hML2 ⊢; omega
          case rel => exact ⟨W1 ++ Z, y :: M, n1 + k, HNL, rfl, HC8, HS8, HB8, HWK3⟩
    · have h0n : n = 0 := by omega
      obtain ⟨va, vc, hv⟩ : ∃ va vc, u7 = .slice va n vc := by
        have ho := HBI.out.own
        rw [HN.out] at ho
        exact owns_shape ho
      subst hv
      have HWN : Hid (W = []) := hid (List.length_eq_zero_iff.1 (by rw [HN.out]; exact h0n))
      have HWK2 : Hid (WK l fs M []) := hid (by have := HWK.out; rwa [HWN.out] at this)
      subst h0n
      clear h0
      go_wp2
      go_ret2
      exact ⟨by rw [HG.out]; exact HBw.out, .inl ⟨⟨G, M.length, rfl, by rw [HG.out]; exact Nat.le_refl _, hMl, HSI.out.congr HWK2.out.all⟩, fun y hy => (HWK2.out.met y ((HWK2.out.all y).2 hy)).1⟩⟩
end Go.Proofs.YtjgjeedablgmeaaDoor
