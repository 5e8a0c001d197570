/- A set is gone through; 'reached', 'less'. -/
import Derived.Test.YtjgjeedablgmeaaDoorGrV
import Derived.Maps.RangeWalk
namespace Go.Proofs.YtjgjeedablgmeaaDoor
open Go.RowKit
set_option linter.unusedVariables false
set_option linter.unusedSimpArgs false
theorem mapM_all {α β : Type} {f : α → Option β} : ∀ {l : List α} {ys : List β}, l.mapM f = some ys → ∀ i ∈ l, ∃ y, f i = some y
  | [], ys, h, i, hi => by cases hi
  | a :: r, ys, h, i, hi => by
    rw [List.mapM_cons] at h
    cases ha : f a with
    | none => rw [ha] at h; simp at h
    | some y =>
      rw [ha] at h
      cases hr : r.mapM f with
      | none => rw [hr] at h; simp at h
      | some zs =>
        rcases List.mem_cons.1 hi with rfl | hi
        · exact ⟨y, ha⟩
        · exact mapM_all hr i hi
set_option maxRecDepth 20000 in
/-- What is a key of a set of ids is an id. -/
theorem key_inv {v : Value} {kl : Lit} (h : keyOf Tryd.prog 42 v = some kl) : ∃ x, IdW x ∧ v = idV x := by
  unfold keyOf at h
  rw [Tryd.underlying42] at h
  simp only at h
  split at h
  case isFalse => cases h
  case isTrue hf =>
    have hform : v.formed Tryd.prog 42 = true := by
      cases hv : v.formed Tryd.prog 42 with
      | true => rfl
      | false => rw [hv, Bool.and_false] at hf; cases hf
    cases v with
    | agg cs =>
      have hsz : cs.size = 20 := by
        simp only [Value.formed, Tryd.underlying42, cellsOf42] at hform
        exact of_decide_eq_true hform
      rw [types194] at h
      have hk : ∃ ls, Tryd.prog.keyLits (194 + 1) 42 cs.toList = some ls := by
        cases hl : Tryd.prog.keyLits (194 + 1) 42 cs.toList with
        | none =>
          have h2 : Option.map (fun ls => Lit.string (keyBytes ls)) (Tryd.prog.keyLits (194 + 1) 42 cs.toList) = some kl := h
          rw [hl] at h2; cases h2
        | some ls => exact ⟨ls, rfl⟩
      obtain ⟨ls, hls⟩ := hk
      have hlen : cs.toList.length = 20 := by rw [Array.length_toList]; exact hsz
      unfold Program.keyLits at hls
      rw [Tryd.underlying42] at hls
      simp only [cellsOf42, hlen, if_true] at hls
      have hall : ∀ i, i < 20 → ∃ n, 0 ≤ n ∧ n < 256 ∧ cs.toList[i]? = some (.int .u8 n) := by
        intro i hi
        cases hm : (List.range 20).mapM (fun i => Tryd.prog.keyLits 194 5 ((cs.toList.drop (i * Tryd.prog.cellsOf 5)).take (Tryd.prog.cellsOf 5))) with
        | none => rw [hm] at hls; cases hls
        | some ys =>
          obtain ⟨y, hy⟩ := mapM_all hm i (List.mem_range.2 hi)
          rw [cells5, Nat.mul_one, List.drop_eq_getElem_cons (by omega)] at hy
          simp only [List.take_succ_cons, List.take_zero] at hy
          unfold Program.keyLits at hy
          rw [Tryd.underlying5] at hy
          rw [List.getElem?_eq_getElem (by omega)]
          generalize cs.toList[i] = c at hy ⊢
          cases c with
          | int q n =>
            simp only at hy
            split at hy
            · rename_i hq
              obtain ⟨rfl, hw⟩ := hq
              have : 0 ≤ n ∧ n < 256 := by
                simp [Lit.wf, IntKind.min, IntKind.max, IntKind.signed, IntKind.bits] at hw
                omega
              exact ⟨n, this.1, this.2, rfl⟩
            · cases hy
          | _ => simp at hy
      refine ⟨cs.toList.map (fun v => match v with | .int _ n => n | _ => 0), ⟨by simp [hlen], fun n hn => ?_⟩, ?_⟩
      · obtain ⟨v, hv, rfl⟩ := List.mem_map.1 hn
        obtain ⟨i, hi⟩ := List.getElem?_of_mem hv
        have hi2 := (List.getElem?_eq_some_iff.1 hi).1
        obtain ⟨n, h1, h2, h3⟩ := hall i (by omega)
        rw [hi] at h3
        cases h3
        exact ⟨h1, h2⟩
      · unfold idV row
        congr 1
        apply Array.toList_inj.1
        rw [List.map_map]
        refine (List.map_id cs.toList).symm.trans (List.map_congr_left (fun v hv => ?_))
        obtain ⟨i, hi⟩ := List.getElem?_of_mem hv
        have hi2 := (List.getElem?_eq_some_iff.1 hi).1
        obtain ⟨n, h1, h2, h3⟩ := hall i (by omega)
        rw [hi] at h3
        cases h3
        rfl
    | _ => simp [Value.formed, Tryd.underlying42] at hform
theorem SI.congrK {w : World} {g n : Nat} {S T : List Int → Prop} (h : SI w g n S) (he : ∀ x, IdW x → (S x ↔ T x)) : SI w g n T := by
  obtain ⟨D, h1, h2⟩ := h
  refine ⟨D, h1, fun x kl hk => (h2 x kl hk).trans (he x ?_)⟩
  obtain ⟨y, hy, e⟩ := key_inv hk
  rw [row_inj e]; exact hy
/-- A set is gone through: Lf are still to come. -/
def SR (w : World) (g r n : Nat) (S Lf : List Int → Prop) (cnt : Nat) : Prop := ∃ D left, w.ranges (H := Unit) Tryd.prog 42 unitElem g r n D left cnt ∧ (∀ x kl, keyOf Tryd.prog 42 (idV x) = some kl → (Maps.has D kl = true ↔ S x)) ∧ (∀ x kl, keyOf Tryd.prog 42 (idV x) = some kl → (left kl = true ↔ Lf x))
set_option maxRecDepth 20000 in
theorem ranges_has {w : World} {b r n cnt : Nat} {D : DataW Unit} {left : Lit → Bool} (h : w.ranges (H := Unit) Tryd.prog 42 unitElem b r n D left cnt) (kl : Lit) (hk : left kl = true) : Maps.has D kl = true := by
  obtain ⟨es, clock, since, seen, c0, hb, F, hs, rfl, hr, hold, hc, hl1, hl2, hsc, hsk⟩ := h
  obtain ⟨x, hx, rfl⟩ := hl2 kl hk
  obtain ⟨y, hy⟩ := F.reads x hx
  exact List.any_eq_true.2 ⟨WideElems.rg Tryd.prog 42 unitElem x, mem_sorted.2 (List.mem_map.2 ⟨x, hx, rfl⟩), WideAt.sameKey_self (by rw [WideElems.rg_of hy]; exact keyed42.key (WideElems.rd_key hy))⟩
theorem SI.range {w : World} {g n : Nat} {S : List Int → Prop} (h : SI w g n S) : ∃ w' cnt, (Instr.range 68 (.map (some g))).run Tryd.prog w = .ok (.pointer (some ⟨w.heap.size, 0, none⟩)) w' ∧ SR w' g w.heap.size n S S cnt ∧ cnt ≤ n ∧ w.grownBy w' none := by
  obtain ⟨D, h1, h2⟩ := h
  obtain ⟨w', hrun, r1, r2, r3⟩ := h1.range keyed42 und68
  exact ⟨w', _, hrun, ⟨D, _, r1, h2, h2⟩, h1.size_le, r2⟩
theorem SR.si {w : World} {g r n cnt : Nat} {S Lf : List Int → Prop} (h : SR w g r n S Lf cnt) : SI w g n S := by
  obtain ⟨D, left, h1, h2, _⟩ := h
  exact ⟨D, h1.owns, h2⟩
theorem SR.lt {w : World} {g r n cnt : Nat} {S Lf : List Int → Prop} (h : SR w g r n S Lf cnt) : r < w.heap.size := by
  obtain ⟨D, left, h1, _⟩ := h
  exact h1.lt
theorem SR.ne {w : World} {g r n cnt : Nat} {S Lf : List Int → Prop} (h : SR w g r n S Lf cnt) : r ≠ g := by
  obtain ⟨D, left, h1, _⟩ := h
  exact h1.ne
theorem SR.kept {w w' : World} {g r n cnt : Nat} {S Lf : List Int → Prop} {row : Option Nat} (h : SR w g r n S Lf cnt) (hg : w.grownBy w' row) (hb : some g ≠ row) (hr : some r ≠ row) : SR w' g r n S Lf cnt := by
  obtain ⟨D, left, h1, h2⟩ := h
  exact ⟨D, left, h1.kept hg hb hr, h2⟩
theorem SR.below {w w' : World} {g r n cnt : Nat} {S Lf : List Int → Prop} (h : SR w g r n S Lf cnt) (hb : Below w.heap.size w w') : SR w' g r n S Lf cnt := h.kept (row := none) (grown_of_below hb _) (by simp) (by simp)
theorem SR.next {w : World} {g r n cnt : Nat} {S Lf : List Int → Prop} (h : SR w g r n S Lf cnt) (ty : TypeId) :
    ((∀ x, IdW x → ¬ Lf x) ∧ (Instr.next (.pointer (some ⟨r, 0, none⟩)) false ty).run Tryd.prog w = .ok (.tuple #[.bool false]) w) ∨
    ∃ x w' cnt', IdW x ∧ Lf x ∧ S x ∧ (Instr.next (.pointer (some ⟨r, 0, none⟩)) false ty).run Tryd.prog w = .ok (.tuple #[.bool true, idV x, .agg #[]]) w' ∧ SR w' g r n S (fun y => Lf y ∧ y ≠ x) cnt' ∧ cnt' < cnt ∧ w.grownBy w' (some r) ∧ (Instr.entry (.pointer (some ⟨r, 0, none⟩))).run Tryd.prog w' = .ok (.tuple #[idV x, .agg #[]]) w' := by
  obtain ⟨D, left, h1, h2, h3⟩ := h
  rcases h1.next keyed42 ty with ⟨_, hl, hrun⟩ | ⟨key, v, kl, y, w', cnt', hkey, hlk, hv, hat, hrun, hrg, hlt, hgr, hsz, hen⟩
  · refine .inl ⟨fun x hx hl2 => ?_, hrun⟩
    obtain ⟨kl, hkl⟩ := key_id x hx.1 hx.2
    have := (h3 x kl hkl).2 hl2
    rw [hl kl] at this
    cases this
  · obtain ⟨x, hx, rfl⟩ := key_inv hkey
    obtain ⟨rfl, _⟩ := unitElem_inv hv
    refine .inr ⟨x, w', cnt', hx, (h3 x kl hkey).1 hlk, (h2 x kl hkey).1 (ranges_has h1 kl hlk), hrun, ⟨D, _, hrg, h2, fun z kz hkz => ?_⟩, hlt, hgr, hen⟩
    simp only [Bool.and_eq_true, Bool.not_eq_true']
    rw [h3 z kz hkz]
    constructor
    · rintro ⟨a1, a2⟩
      refine ⟨a1, fun e => ?_⟩
      subst e
      rw [hkz] at hkey
      cases hkey
      rw [WideAt.sameKey_self (keyed42.key hkz)] at a2
      cases a2
    · rintro ⟨a1, a2⟩
      refine ⟨a1, ?_⟩
      cases hs : kz.sameKey kl with
      | false => rfl
      | true =>
        have := WideAt.sameKey_eq hs
        subst this
        exact absurd (key_eq hkz hkey) a2
theorem exec_range {P : Program} {o : Oper} {a : Act} {w w' : World} {t : TypeId} {m : Operand} (ho : o.op = .range t m) {mv v : Value} (hm : a.eval m = mv) (hr : (Instr.range t mv).run P w = .ok v w') : (execOp a.eval o).run P w = .ok (.value v) w' := by
  unfold execOp
  simp [ho, hm, hr, Result.andThen]
theorem exec_next {P : Program} {o : Oper} {a : Act} {w w' : World} {m : Operand} (ho : o.op = .next m false) {mv v : Value} (hm : a.eval m = mv) (hr : (Instr.next mv false o.type).run P w = .ok v w') : (execOp a.eval o).run P w = .ok (.value v) w' := by
  unfold execOp
  simp [ho, hm, hr, Result.andThen]
theorem exec_entryOf {P : Program} {o : Oper} {a : Act} {w w' : World} {m : Operand} (ho : o.op = .entry m) {mv v : Value} (hm : a.eval m = mv) (hr : (Instr.entry mv).run P w = .ok v w') : (execOp a.eval o).run P w = .ok (.value v) w' := by
  unfold execOp
  simp [ho, hm, hr, Result.andThen]
theorem zero68 (w : World) : (Instr.makeMap 68 none).run Tryd.prog w = .ok (.map (some w.heap.size)) (w.alloc (.map #[] 0)) := by kernel_rfl
theorem built105 : Tryd.prog.built 105 [] = some #[] := by kernel_rfl
/-- What gives a new set. -/
def PostS (S : List Int → Prop) (m : Nat) (w : World) (e : Ending) (w' : World) : Prop := Below w.heap.size w w' ∧ ∃ g n, e = .returned (.map (some g)) ∧ w.heap.size ≤ g ∧ n ≤ m ∧ SI w' g n S
set_option maxRecDepth 20000 in
set_option maxHeartbeats 1000000 in
theorem lessS_any {w : World} {gs ns gt nt : Nat} {S T : List Int → Prop} (hS : SI w gs ns S) (hT : SI w gt nt T) (hn : ns ≤ 1000) : Calls Tryd.prog 29 #[.map (some gs), .map (some gt)] w (PostS (fun y => S y ∧ ¬ T y) ns w) := by
  obtain ⟨G, HG⟩ : ∃ G, Hid (w.heap.size = G) := ⟨_, rfl⟩
  have hmk := zero68 w
  obtain ⟨w1, HW1⟩ : ∃ u, Hid (w.alloc (.map #[] 0) = u) := ⟨_, rfl⟩
  have hb1 : Below w.heap.size w w1 := by rw [← HW1.out]; exact (Below.refl _ w).alloc (Nat.le_refl _) _
  have hs1 : w1.heap.size = G + 1 := by rw [← HW1.out, ← HG.out]; simp
  have hm1 : SI w1 G 0 (fun _ => False) := by rw [← HW1.out, ← HG.out]; exact si_made w
  obtain ⟨w2, cnt0, hrun, hsr, hc0, hg2⟩ := (hS.below hb1).range
  rw [hs1] at hrun hsr
  have HRUN : Hid ((Instr.range 68 (.map (some gs))).run Tryd.prog w1 = .ok (.pointer (some ⟨G + 1, 0, none⟩)) w2) := hrun
  have hgsG : gs < G := by rw [← HG.out]; exact hS.lt
  have HB2 : Hid (Below G w w2) := hid ((by rw [← HG.out]; exact hb1 : Below G w w1).grown hg2 (by omega) (fun k hk => by cases hk))
  have HT : Hid (∀ W, Below G w W → SI W gt nt T) := fun W hW => hT.below (by rw [HG.out]; exact hW)
  have HSR2 : Hid (SR w2 gs (G + 1) ns S S cnt0) := hsr
  have HSI2 : Hid (SI w2 G 0 (fun y => S y ∧ ¬ T y ∧ ¬ S y)) := hid ((hm1.kept hg2 (by simp)).congr (fun x => ⟨fun h => h.elim, fun h => h.2.2 h.1⟩))
  obtain ⟨zi, HZI⟩ : ∃ zr : Array Value, Hid (zr = (row .u8 z20).toArray) := ⟨_, rfl⟩
  have hz42 : ∀ w : World, (zeroValue 42).run Tryd.prog w = .ok (.agg zi) w := fun w => by rw [HZI.out]; exact zero42 w
  have HZIS : Hid (zi.size = 20) := hid (by rw [HZI.out]; rfl)
  have hbu := built105
  clear hS hT hb1 hm1 hrun hsr hg2
  go_enter Tryd.func29, Tryd.ntmps29
  go_wp2_with (first
    | refine wpList_run rfl _ (exec_range rfl rfl (by rw [HW1.out]; exact HRUN.out)) ?_
    | fail)
  simp only [Act.put, List.setIfInBounds_toArray, List.set_cons_succ, List.set_cons_zero]
  rw [HG.out]
  go_loopg [6] cnt0 (fun gg v wr => ∃ (Lf : List Int → Prop) (cnt n : Nat), gg = cnt ∧ n + cnt ≤ ns ∧ Hid (SR wr gs (G + 1) ns S Lf cnt) ∧ Hid (SI wr G n (fun y => S y ∧ ¬ T y ∧ ¬ Lf y)) ∧ Hid (Below G w wr))
  case atStart => exact ⟨S, cnt0, 0, rfl, by omega, HSR2, HSI2, HB2⟩
  case round =>
    clear HSR2 HSI2 HB2 HRUN
    obtain ⟨Lf, cnt, n, hgg, hnc, HSR, HSI, HB⟩ := hrel
    rcases HSR.out.next 0 with ⟨hno, hnx⟩ | ⟨x, w3, cnt', hx, hLx, hSx, hnx, hsr3, hlt, hg3, hen⟩
    · have HNX : Hid ((Instr.next (.pointer (some ⟨G + 1, 0, none⟩)) false 0).run Tryd.prog wr = .ok (.tuple #[.bool false]) wr) := hnx
      have HF : Hid (SI wr G n (fun y => S y ∧ ¬ T y)) := hid (HSI.out.congrK (fun y hy => ⟨fun h => ⟨h.1, h.2.1⟩, fun h => ⟨h.1, h.2, hno y hy⟩⟩))
      clear hno
      go_wp2_with fail
      go_ret
      exact ⟨by rw [HG.out]; exact HB.out, G, n, rfl, by rw [HG.out]; exact Nat.le_refl _, by omega, HF.out⟩
    · obtain ⟨RI, HRI⟩ : ∃ R : List Value, Hid (row .u8 x = R) := ⟨_, rfl⟩
      unfold idV at hnx hen
      rw [HRI.out] at hnx hen
      have HNX : Hid ((Instr.next (.pointer (some ⟨G + 1, 0, none⟩)) false 0).run Tryd.prog wr = .ok (.tuple #[.bool true, .agg RI.toArray, .agg #[]]) w3) := hnx
      have HEN : Hid ((Instr.entry (.pointer (some ⟨G + 1, 0, none⟩))).run Tryd.prog w3 = .ok (.tuple #[.agg RI.toArray, .agg #[]]) w3) := hen
      have HXW : Hid (IdW x) := hx
      have hGw : G + 1 < wr.heap.size := HSR.out.lt
      have hB3 : Below G w w3 := HB.out.grown hg3 (by omega) (fun k hk => by cases hk; omega)
      have hSI3 : SI w3 G n (fun y => S y ∧ ¬ T y ∧ ¬ Lf y) := HSI.out.kept hg3 (by simp)
      have hGw3 : G + 1 < w3.heap.size := hsr3.lt
      have HFN : Hid (RI.length = 20) := hid (by rw [← HRI.out, row_len]; exact hx.1)
      have hi42 : (Tryd.prog.info? 42).map (·.size) = some RI.length := by rw [HFN.out]; exact Tryd.size42
      have I42 : Hid ((Tryd.prog.info? 42).map (·.size) = some RI.toArray.size) := hid (by rw [List.size_toArray]; exact hi42)
      have E42 : Hid (zi.size = RI.toArray.size) := hid (by rw [HZIS.out, List.size_toArray, HFN.out])
      have O42 : Hid (RI.toArray.all (·.oneCell') = true) := hid (by rw [← HRI.out]; exact all_oneCell_toArray (row_one _ _))
      have D0 : Hid ((w3.alloc (.cells zi 42)).heap[w3.heap.size]? = some (.cells zi 42 (0, 0))) := heap_alloc_new w3 _
      obtain ⟨w4, HW4⟩ : ∃ u, Hid ((w3.alloc (.cells zi 42)).setRow w3.heap.size RI.toArray = u) := ⟨_, rfl⟩
      obtain ⟨H, HH⟩ : ∃ H, Hid (w3.heap.size = H) := ⟨_, rfl⟩
      obtain ⟨hb4, hx4⟩ := laid HW4.out HH.out
      have R4 : Hid (w4.rangeAt H 0 RI) := hid (range_row hx4)
      have HSR4 : Hid (SR w4 gs (G + 1) ns S (fun y => Lf y ∧ y ≠ x) cnt') := hid (hsr3.below hb4)
      have HSI4 : Hid (SI w4 G n (fun y => S y ∧ ¬ T y ∧ ¬ Lf y)) := hid (hSI3.below hb4)
      have HB4 : Hid (Below G w w4) := hid (hB3.trans (hb4.mono (by omega)))
      have HX4 : Hid (w4.heap[H]? = some (.cells RI.toArray 42 (0, 0))) := hx4
      have C32 : Hid (Calls Tryd.prog 32 #[.map (some gt), .agg RI.toArray] w4 fun e w' => BI (T x) e ∧ Below w4.heap.size w4 w') := hid (by
        have := has_any (HT.out _ HB4.out) HXW.out
        unfold idV at this
        rw [HRI.out] at this
        exact this)
      have HLX : Hid (Lf x) := hLx
      have HSX : Hid (S x) := hSx
      clear hx hLx hSx hsr3 hg3 hb4 hx4 hB3 hSI3
      go_wp2_with (first
        | (refine wpList_store_row rfl 42 _ _ rfl w3.heap.size RI.toArray rfl rfl 42 zi D0.out I42.out E42.out O42.out ?_; rw [HW4.out, HH.out])
        | refine wpList_load_mid rfl 42 _ rfl H 0 rfl RI _ R4.out Tryd.underlying42 rfl hi42 ?_
        | fail)
      refine C32.out.mono ?_
      rintro ev w5 ⟨⟨bb, hbb, rfl⟩, hb5⟩
      have HBB : Hid (bb = true ↔ T x) := hbb
      have HSR5 : Hid (SR w5 gs (G + 1) ns S (fun y => Lf y ∧ y ≠ x) cnt') := hid (HSR4.out.below hb5)
      have HSI5 : Hid (SI w5 G n (fun y => S y ∧ ¬ T y ∧ ¬ Lf y)) := hid (HSI4.out.below hb5)
      have HB5 : Hid (Below G w w5) := hid (HB4.out.trans (hb5.mono (by have := HSI4.out.lt; omega)))
      have R5 : Hid (w5.rangeAt H 0 RI) := hid (range_row ((hb5.block H (lt_of_some HX4.out)).trans HX4.out))
      clear hb5 hbb
      cases bb with
      | true =>
        have HSI6 : Hid (SI w5 G n (fun y => S y ∧ ¬ T y ∧ ¬ (Lf y ∧ y ≠ x))) := hid (HSI5.out.congr (fun y => ⟨fun h => ⟨h.1, h.2.1, fun e => h.2.2 e.1⟩, fun h => ⟨h.1, h.2.1, fun e => h.2.2 ⟨e, fun e2 => h.2.1 (by rw [e2]; exact HBB.out.1 rfl)⟩⟩⟩))
        go_wp2
        go_roundg cnt'
        case measure => omega
        case rel => exact ⟨_, cnt', n, rfl, by omega, HSR5, HSI6, HB5⟩
      | false =>
        obtain ⟨w6, hput, hsi6, hg6⟩ := HSI5.out.put (by omega) HXW.out
        have HPUT : Hid ((Instr.mapUpdate 68 (.map (some G)) (.agg RI.toArray) (.agg #[])).run Tryd.prog w5 = .ok () w6) := hid (by
          unfold idV at hput
          rw [HRI.out] at hput
          exact hput)
        have hnT : ¬ T x := fun e => by have := HBB.out.2 e; cases this
        have HSI6 : Hid (SI w6 G (n + 1) (fun y => S y ∧ ¬ T y ∧ ¬ (Lf y ∧ y ≠ x))) := hid (hsi6.congr (fun y => ⟨fun h => by
            rcases h with rfl | h
            · exact ⟨HSX.out, hnT, fun e => e.2 rfl⟩
            · exact ⟨h.1, h.2.1, fun e => h.2.2 e.1⟩, fun h => by
            by_cases e : y = x
            · exact .inl e
            · exact .inr ⟨h.1, h.2.1, fun e2 => h.2.2 ⟨e2, e⟩⟩⟩))
        have HSR6 : Hid (SR w6 gs (G + 1) ns S (fun y => Lf y ∧ y ≠ x) cnt') := hid (HSR5.out.kept hg6 (fun e => by cases e; omega) (by simp))
        have HB6 : Hid (Below G w w6) := hid (HB5.out.grown hg6 (by have := HSI5.out.lt; omega) (fun k hk => by cases hk; exact Nat.le_refl _))
        clear hput hsi6 hg6 hnT
        go_wp2_with (first
          | refine wpList_load_mid rfl 42 _ rfl H 0 rfl RI _ R5.out Tryd.underlying42 rfl hi42 ?_
          | refine wpList_skip rfl (exec_update rfl rfl rfl rfl HPUT.out) ?_
          | fail)
        go_roundg cnt'
        case measure => omega
        case rel => exact ⟨_, cnt', n + 1, rfl, by omega, HSR6, HSI6, HB6⟩
set_option maxRecDepth 20000 in
theorem reached_any {w : World} {hb m : Nat} {a : Option Addr} {cap : Nat} {l : List Nd} (h : Hi w hb m a cap l) (fa : Option Addr) (fc : Nat) (fs : List (List Int)) (hf : ∀ x ∈ fs, IdW x) (hfl : fs.length ≤ 20000) (hP : Pa w fa fc fs) (hin : ∀ y, Rch l (· ∈ fs) y → y ∈ ids l) : Calls Tryd.prog 28 #[.pointer (some ⟨hb, 0, none⟩), .slice fa fs.length fc] w (PostS (Rch l (· ∈ fs)) 40 w) := by
  obtain ⟨NF, HNF⟩ : ∃ n, Hid (fs.length = n) := ⟨_, rfl⟩
  have C38 : Hid (Calls Tryd.prog 38 #[.func (.func 39) #[.pointer (some ⟨hb, 0, none⟩)] #[], .slice fa NF fc] w (PostW l fs w)) := hid (by rw [← HNF.out]; exact walk_any h fa fc fs hf hfl hP trivial)
  rw [HNF.out]
  have HIN : Hid (∀ y, Rch l (· ∈ fs) y → y ∈ ids l) := hin
  clear h hP hf hin
  go_enter Tryd.func28, Tryd.ntmps28
  go_wp2_with fail
  refine C38.out.mono ?_
  rintro ev w1 ⟨hb1, ⟨⟨g, n, rfl, hg, hn, hsi⟩, _⟩ | ⟨⟨y, hy1, hy2⟩, rfl⟩⟩
  · have HB : Hid (Below w.heap.size w w1) := hb1
    have HS : Hid (SI w1 g n (Rch l (· ∈ fs))) := hsi
    clear hb1 hsi
    go_wp2
    go_ret
    exact ⟨HB.out, g, n, rfl, hg, hn, HS.out⟩
  · exact absurd (HIN.out y hy1) hy2
end Go.Proofs.YtjgjeedablgmeaaDoor
