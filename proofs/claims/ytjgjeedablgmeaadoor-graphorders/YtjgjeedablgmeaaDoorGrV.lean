/- 'open' and 'Check' of package graph. -/
import Derived.Test.YtjgjeedablgmeaaDoorGrU
namespace Go.Proofs.YtjgjeedablgmeaaDoor
open Go.RowKit
set_option linter.unusedVariables false
set_option linter.unusedSimpArgs false
/-- Where ids stand: so far. -/
structure Pl (l : List Nd) (f : List Int → Option Int) (s : Nat) : Prop where
  has : ∀ y, (f y).isSome = true ↔ y ∈ ids l
  le : s ≤ l.length
  one : s = l.length ↔ (ids l).Nodup
  at_ : (ids l).Nodup → ∀ (i : Nat) (x : Nd), l[i]? = some x → f x.id = some (i : Int)
theorem pl_zero : Pl [] (fun _ => none) 0 := ⟨fun y => by simp [ids], Nat.le_refl _, by simp [ids], fun _ i x hx => by simp at hx⟩
theorem Pl.step {l : List Nd} {f : List Int → Option Int} {s : Nat} (h : Pl l f s) (x : Nd) : Pl (l ++ [x]) (updF f x.id (l.length : Int)) (if (f x.id).isSome then s else s + 1) := by
  have hid : ids (l ++ [x]) = ids l ++ [x.id] := by simp [ids]
  refine ⟨fun y => ?_, ?_, ?_, fun hn i z hz => ?_⟩
  · rw [hid]
    unfold updF
    by_cases e : y = x.id
    · rw [if_pos e]; simp [e]
    · rw [if_neg e, h.has y]; simp [e]
  · have := h.le
    rw [List.length_append]
    simp only [List.length_cons, List.length_nil]
    split <;> omega
  · rw [hid, List.length_append, List.nodup_append]
    simp only [List.length_cons, List.length_nil]
    have h1 := h.le
    by_cases hm : x.id ∈ ids l
    · rw [if_pos ((h.has _).2 hm)]
      constructor
      · intro e; omega
      · rintro ⟨_, _, h2⟩
        exact absurd rfl (h2 x.id hm x.id (by simp))
    · rw [if_neg (fun e => hm ((h.has _).1 e))]
      constructor
      · intro e
        refine ⟨h.one.1 (by omega), by simp, fun a ha b hb e2 => ?_⟩
        have : b = x.id := by simpa using hb
        rw [e2, this] at ha
        exact hm ha
      · rintro ⟨h2, _, _⟩
        have := h.one.2 h2
        omega
  · rw [hid, List.nodup_append] at hn
    unfold updF
    by_cases hi : i < l.length
    · rw [List.getElem?_append_left hi] at hz
      have hne : z.id ≠ x.id := fun e => hn.2.2 z.id (mem_ids (List.mem_of_getElem? hz)) x.id (by simp) e
      rw [if_neg hne]
      exact h.at_ hn.1 i z hz
    · rw [List.getElem?_append_right (by omega)] at hz
      have hi2 := (List.getElem?_eq_some_iff.1 hz).1
      simp at hi2
      have e : i - l.length = 0 := by omega
      rw [e] at hz
      have e2 : z = x := by simpa using hz.symm
      subst e2
      rw [if_pos rfl]
      congr 1
      omega
theorem Pl.plc {l : List Nd} {f : List Int → Option Int} {s : Nat} (h : Pl l f s) (hn : (ids l).Nodup) : Plc l f := fun y => by
  by_cases hy : y ∈ ids l
  · obtain ⟨x, hx, e⟩ := List.mem_map.1 hy
    obtain ⟨i, hi⟩ := List.getElem?_of_mem hx
    exact .inr ⟨i, x, hi, e, by rw [← show x.id = y from e]; exact h.at_ hn i x hi⟩
  · exact .inl ⟨hy, by
      cases hf : f y with
      | none => rfl
      | some c => exact absurd ((h.has y).1 (by rw [hf]; rfl)) hy⟩
/-- What 'open' gives, when ids A are asked for. -/
def PostOp (l : List Nd) (A : List (List Int)) (a : Option Addr) (cap : Nat) (w : World) (e : Ending) (w' : World) : Prop := Below w.heap.size w w' ∧ (((OkG l ∧ ∀ y ∈ A, y ∈ ids l) ∧ ∃ hb m, e = .returned (.tuple #[.pointer (some ⟨hb, 0, none⟩), .nilIface]) ∧ Hi w' hb m a cap l) ∨ (¬ (OkG l ∧ ∀ y ∈ A, y ∈ ids l) ∧ e = .returned (.tuple #[.pointer none, .iface 30 (.int .i64 80)])))
structure QO (b H G : Nat) (RI : List Value) (W : World) : Prop where
  c1 : W.cell? ⟨b, 1, none⟩ = some (.map (some G))
  r0 : W.rangeAt H 0 RI
theorem built77 (a : Option Addr) (n cap G : Nat) : Tryd.prog.built 77 [(0, .slice a n cap), (1, .map (some G))] = some #[.slice a n cap, .map (some G)] := by kernel_rfl
theorem okg_walk {l : List Nd} {A : List (List Int)} (hpar : ∀ n ∈ l, ∀ p ∈ n.ps, p ∈ ids l) (hA : ∀ y ∈ A, y ∈ ids l) (y : List Int) (h : Rch l (· ∈ A ++ ids l) y) : y ∈ ids l := h (· ∈ ids l) (fun z h => (List.mem_append.1 h).elim (hA z) (fun h => h)) (fun x z _ he => by
  obtain ⟨n, hn, _, e2⟩ := he
  exact hpar n hn z e2)
set_option maxRecDepth 20000 in
set_option maxHeartbeats 4000000 in
theorem open_any {w : World} (a : Option Addr) (cap : Nat) (l : List Nd) (hP : Pn w a cap l) (hw : ∀ x ∈ l, NdW w x) (hn : l.length ≤ 40) (hps : ∀ x ∈ l, x.ps.length ≤ 40) (aa : Option Addr) (ac : Nat) (A : List (List Int)) (hA : ∀ y ∈ A, IdW y) (hAl : A.length ≤ 80) (hPA : Pa w aa ac A) : Calls Tryd.prog 22 #[.slice a l.length cap, .slice aa A.length ac] w (PostOp l A a cap w) := by
  obtain ⟨na, HNA⟩ : ∃ n, Hid (A.length = n) := ⟨_, rfl⟩
  have hna : na ≤ 80 := by rw [← HNA.out]; exact hAl
  have HAW : Hid (∀ y ∈ A, IdW y) := hA
  obtain ⟨G, HG⟩ : ∃ G, Hid (w.heap.size = G) := ⟨_, rfl⟩
  obtain ⟨n, HN⟩ : ∃ n, Hid (l.length = n) := ⟨_, rfl⟩
  have hn40 : n ≤ 40 := by rw [← HN.out]; exact hn
  have HPA : Hid (∀ W, Below G w W → Pn W a cap l) := fun W hW => hP.below (by rw [HG.out]; exact hW)
  have HWF : Hid (∀ W, Below G w W → ∀ x ∈ l, NdW W x) := fun W hW x hx => (hw x hx).below (by rw [HG.out]; exact hW)
  have HPS : Hid (∀ x ∈ l, x.ps.length ≤ 40) := hps
  have HPL : Hid (0 < n → ∃ b off, a = some ⟨b, off, none⟩) := fun h0 => by
    obtain ⟨b, off, e1, _⟩ := hP.at_ (by rw [HN.out]; exact h0)
    exact ⟨b, off, e1⟩
  obtain ⟨zr, HZ⟩ : ∃ zr : Array Value, Hid (zr = (ndV nd0).toArray) := ⟨_, rfl⟩
  have hz53 : ∀ w : World, (zeroValue 53).run Tryd.prog w = .ok (.agg zr) w := fun w => by rw [HZ.out]; exact zero53 w
  have HZS : Hid (zr.size = 22) := hid (by rw [HZ.out]; rfl)
  have hmk := zero75 w
  have hbu := built77 a n cap w.heap.size
  obtain ⟨w1, HW1⟩ : ∃ u, Hid (w.alloc (.map #[] 0) = u) := ⟨_, rfl⟩
  have hs1 : w1.heap.size = G + 1 := by rw [← HW1.out, ← HG.out]; simp
  have hm1 : MI w1 G 0 (fun _ => none) 0 := by rw [← HW1.out, ← HG.out]; exact mi_made w
  have hb1 : Below G w w1 := by rw [← HW1.out, ← HG.out]; exact (Below.refl _ w).alloc (Nat.le_refl _) _
  obtain ⟨w2, HW2⟩ : ∃ u, Hid (w1.alloc (.cells #[.slice a n cap, .map (some G)] 77) = u) := ⟨_, rfl⟩
  have hs2 : w2.heap.size = G + 2 := by rw [← HW2.out]; simp; omega
  have hb2 : Below w1.heap.size w1 w2 := by rw [← HW2.out]; exact (Below.refl _ w1).alloc (Nat.le_refl _) _
  have HM2 : Hid (MI w2 G 0 (fun _ => none) 0) := hid (hm1.below hb2)
  have HB2 : Hid (Below G w w2) := hid (hb1.trans (hb2.mono (by omega)))
  have HX2 : Hid (w2.heap[G + 1]? = some (.cells #[.slice a n cap, .map (some G)] 77 (0, 0))) := hid (by rw [← HW2.out, ← hs1]; exact heap_alloc_new w1 _)
  have HP0 : Hid (Pl (l.take 0) (fun _ => none) 0) := hid pl_zero
  have HS1 : Hid (w1.heap.size = G + 1) := hs1
  have HS2 : Hid (w2.heap.size = G + 2) := hs2
  have C37 : Hid (Calls Tryd.prog 37 #[.slice aa na ac] w2 fun e w' => ∃ v, e = .returned v ∧ Bi 42 w2 w' w2.heap.size v A) := hid (by
    have := clone_any aa ac A w2 hA (by omega) (hPA.below (by rw [HG.out]; exact HB2.out)) trivial
    rw [HNA.out] at this
    exact this)
  rw [HN.out, HNA.out]
  clear hP hw hps hm1 hb1 hb2 hs1 hs2 hA hAl hPA
  go_enter Tryd.func22, Tryd.ntmps22
  go_wp2_with fail
  rw [HW1.out]
  try rw [HS1.out]
  try rw [HG.out]
  rw [HW2.out]
  refine C37.out.mono ?_
  rintro ev w3 ⟨v0, rfl, hbi⟩
  have hb3 := hbi.below
  have HV3 : Hid (Bi 42 w3 w3 (G + 2) v0 (A ++ ids (l.take 0))) := hid (by
    have h1 := hbi.re
    rw [HS2.out] at h1
    rw [List.take_zero, show ids [] = [] from rfl, List.append_nil]
    exact h1)
  have HM3 : Hid (MI w3 G 0 (fun _ => none) 0) := hid (HM2.out.below hb3)
  have HB3 : Hid (Below G w w3) := hid (HB2.out.trans (hb3.mono (by rw [HS2.out]; omega)))
  have HX3 : Hid (w3.heap[G + 1]? = some (.cells #[.slice a n cap, .map (some G)] 77 (0, 0))) := hid ((hb3.block _ (lt_of_some HX2.out)).trans HX2.out)
  clear hbi hb3
  go_wp2_with fail
  go_loopg [7, 24] n (fun gg u iv wr => ∃ (i s : Nat) (v : Value) (f : List Int → Option Int), v = u ∧ i ≤ n ∧ gg = n - i ∧ iv = .int .i64 i ∧ Hid (MI wr G i f s) ∧ Hid (Pl (l.take i) f s) ∧ Hid (Bi 42 wr wr (G + 2) v (A ++ ids (l.take i))) ∧ Hid (Below G w wr) ∧ Hid (wr.heap[G + 1]? = some (.cells #[.slice a n cap, .map (some G)] 77 (0, 0))))
  case atStart => exact ⟨0, 0, _, _, rfl, Nat.zero_le _, rfl, rfl, HM3, HP0, HV3, HB3, HX3⟩
  case round =>
    clear HM2 HP0 HB2 HX2 HM3 HV3 HB3 HX3 C37
    obtain ⟨i, s, v, f, hv, hi, hk, rfl, HM, HP, HV, HB, HX⟩ := hrel
    subst hv
    by_cases hlt : i < n
    · have hlti : (i : Int) < (n : Int) := by omega
      obtain ⟨b, off, hae⟩ := HPL.out (by omega)
      subst hae
      obtain ⟨x, HXx⟩ : ∃ x, Hid (l.getD i nd0 = x) := ⟨_, rfl⟩
      have hxm : x ∈ l := by rw [← HXx.out]; exact getD_mem l i _ (by rw [HN.out]; exact hlt)
      have HXW : Hid (IdW x.id) := hid (HWF.out _ HB.out x hxm).id
      obtain ⟨R, HR⟩ : ∃ R : List Value, Hid (ndV x = R) := ⟨_, rfl⟩
      obtain ⟨RI, HRI⟩ : ∃ R : List Value, Hid (row .u8 x.id = R) := ⟨_, rfl⟩
      have HRL : Hid (R.length = 22) := hid (by rw [← HR.out]; exact ndV_len x HXW.out.1)
      have hiR : (Tryd.prog.info? 53).map (·.size) = some R.length := by rw [HRL.out]; exact Tryd.size53
      have hiI : (Tryd.prog.info? 42).map (·.size) = some RI.length := by rw [← HRI.out, row_len, HXW.out.1]; exact Tryd.size42
      have RR : Hid (wr.rangeAt b (off + i * 22) R) := hid (by
        obtain ⟨b', off', e1, _, e3⟩ := (HPA.out wr HB.out).at_ (by rw [HN.out]; omega)
        cases e1
        have := e3 i (by rw [HN.out]; exact hlt)
        rw [HXx.out, HR.out] at this
        exact this)
      have I53 : Hid ((Tryd.prog.info? 53).map (·.size) = some R.toArray.size) := hid (by rw [List.size_toArray]; exact hiR)
      have E53 : Hid (zr.size = R.toArray.size) := hid (by rw [HZS.out, List.size_toArray, HRL.out])
      have O53 : Hid (R.toArray.all (·.oneCell') = true) := hid (by rw [← HR.out]; exact all_oneCell_toArray (ndV_one x))
      have D0 : Hid ((wr.alloc (.cells zr 53)).heap[wr.heap.size]? = some (.cells zr 53 (0, 0))) := heap_alloc_new wr _
      obtain ⟨w5, HW5⟩ : ∃ w3, Hid ((wr.alloc (.cells zr 53)).setRow wr.heap.size R.toArray = w3) := ⟨_, rfl⟩
      obtain ⟨H, HH⟩ : ∃ H, Hid (wr.heap.size = H) := ⟨_, rfl⟩
      obtain ⟨hb5, hx5⟩ := laid HW5.out HH.out
      have hb5d : Below wr.heap.size wr w5.drew := below_drewH hb5 1
      have hx5d : w5.drew.heap[H]? = some (.cells R.toArray 53 (0, 0)) := hx5
      have hGw : G + 1 < wr.heap.size := lt_of_some HX.out
      have hGH : G + 1 < H := by rw [← HH.out]; exact hGw
      have hm5 := HM.out.below hb5d
      have hv5 := HV.out.moveB hb5d
      have hB5 : Below G w w5.drew := HB.out.trans (hb5d.mono (by omega))
      have hX5 : w5.drew.heap[G + 1]? = some (.cells #[.slice (some ⟨b, off, none⟩) n cap, .map (some G)] 77 (0, 0)) := (hb5d.block _ hGw).trans HX.out
      have hS5 : QO (G + 1) H G RI w5.drew := ⟨(cell_of_row _ _ 1 _ _ _ hX5).trans rfl, by rw [← HRI.out]; exact nd_id (by rw [HR.out]; exact range_row hx5d)⟩
      obtain ⟨w6, hput, hm6, hg6⟩ := hm5.put (by omega) HXW.out (i : Int) (WalkArith.wf_i64 (by omega))
      have HPUT : Hid ((Instr.mapUpdate 75 (.map (some G)) (.agg RI.toArray) (.int .i64 i)).run Tryd.prog w5.drew = .ok () w6) := hid (by
        unfold idV at hput
        rw [HRI.out] at hput
        exact hput)
      have HM6 : Hid (MI w6 G (i + 1) (updF f x.id (i : Int)) (if (f x.id).isSome then s else s + 1)) := hm6
      have HV6 : Hid (Bi 42 w6 w6 (G + 2) v (A ++ ids (l.take i))) := hid (hv5.move hg6 (by
        cases hvv : v.ownBlock with
        | none => exact .inl rfl
        | some k => exact .inr (fun e => by cases e; have := (own_lt hv5.own G hvv).1; omega)))
      have HB6 : Hid (Below G w w6) := hid (hB5.grown hg6 (by have := hb5d.size; omega) (fun k hk => by cases hk; exact Nat.le_refl _))
      have HX6 : Hid (w6.heap[G + 1]? = some (.cells #[.slice (some ⟨b, off, none⟩) n cap, .map (some G)] 77 (0, 0))) := hid ((hg6.block _ (lt_of_some hX5) (by simp)).trans hX5)
      have hx6 : w6.heap[H]? = some (.cells R.toArray 53 (0, 0)) := (hg6.block _ (lt_of_some hx5d) (by simp; omega)).trans hx5d
      have HS6 : Hid (QO (G + 1) H G RI w6) := hid ⟨(cell_of_row _ _ 1 _ _ _ HX6.out).trans rfl, by rw [← HRI.out]; exact nd_id (by rw [HR.out]; exact range_row hx6)⟩
      have RI6 : Hid (w6.rangeAt H 0 RI) := hid HS6.out.r0
      obtain ⟨K7, HK7⟩ : ∃ K, Hid (w6.heap.size = K) := ⟨_, rfl⟩
      have HBLD : Hid ((Instr.buildSlice 32 1 #[(0, .agg RI.toArray)]).run Tryd.prog w6 = .ok (.slice (some ⟨K7, 0, none⟩) 1 1) (w6.alloc (.cells RI.toArray 42))) := hid (by rw [← HK7.out, ← HRI.out]; exact run_build32 x.id HXW.out.1 w6)
      have hb7 : Below w6.heap.size w6 (w6.alloc (.cells RI.toArray 42)) := (Below.refl _ w6).alloc (Nat.le_refl _) _
      have HV7 : Hid (Bi 42 (w6.alloc (.cells RI.toArray 42)) (w6.alloc (.cells RI.toArray 42)) (G + 2) v (A ++ ids (l.take i))) := hid (HV6.out.moveB hb7)
      have HM7 : Hid (MI (w6.alloc (.cells RI.toArray 42)) G (i + 1) (updF f x.id (i : Int)) (if (f x.id).isSome then s else s + 1)) := hid (HM6.out.below hb7)
      have HB7 : Hid (Below G w (w6.alloc (.cells RI.toArray 42))) := hid (HB6.out.trans (hb7.mono (by have := HM6.out.lt; omega)))
      have HX7 : Hid ((w6.alloc (.cells RI.toArray 42)).heap[G + 1]? = some (.cells #[.slice (some ⟨b, off, none⟩) n cap, .map (some G)] 77 (0, 0))) := hid ((hb7.block _ (lt_of_some HX6.out)).trans HX6.out)
      have HP8 : Hid (Pa (w6.alloc (.cells RI.toArray 42)) (some ⟨K7, 0, none⟩) 1 [x.id]) := hid (by rw [← HK7.out, ← HRI.out]; exact pa_one w6 x.id 42)
      have HIL : Hid ((A ++ ids (l.take i)).length = na + i) := hid (by unfold ids; rw [List.length_append, HNA.out, List.length_map, List.length_take, HN.out]; omega)
      have HSUM : Hid ((A ++ ids (l.take i)).length + [x.id].length ≤ 30000) := hid (by rw [HIL.out]; simp only [List.length_cons, List.length_nil]; omega)
      have HONE1 : Hid (∀ z ∈ [x.id], (row .u8 z).length = 20) := fun z hz => by
        have : z = x.id := by simpa using hz
        rw [this, row_len]; exact HXW.out.1
      have HTK : Hid (l.take (i + 1) = l.take i ++ [x]) := hid (by rw [take_snocG nd0 l i (by rw [HN.out]; exact hlt), HXx.out])
      have HPN : Hid (Pl (l.take (i + 1)) (updF f x.id (i : Int)) (if (f x.id).isSome then s else s + 1)) := hid (by
        rw [HTK.out]
        have := HP.out.step x
        rw [show (l.take i).length = i by rw [List.length_take, HN.out]; omega] at this
        exact this)
      clear hb5 hx5 hb5d hx5d hm5 hv5 hB5 hX5 hput hm6 hg6 hx6 hb7 hxm
      go_wp2_with (first
        | refine wpList_load_mid rfl 53 _ rfl b (off + i * 22) rfl R _ RR.out Tryd.underlying53 rfl hiR ?_
        | (refine wpList_store_row rfl 53 _ _ rfl wr.heap.size R.toArray rfl rfl 53 zr D0.out I53.out E53.out O53.out ?_; rw [HW5.out, HH.out])
        | fail)
      refine wp_region_held_drew (S := QO (G + 1) H G RI) (by kernel_rfl) hS5 (fun hHeld => ?_)
      clear hS5
      refine takeL (i := 0) (v := ?_) rfl (by kernel_rfl) (by kernel_rfl) (by kernel_rfl) (fun _ _ _ h => h) (Or.inl ⟨by rfl, ?_⟩) hHeld ?_
      rotate_left
      · rintro w' ⟨c1, r0⟩; go_simp; rfl
      try simp only [Act.put, List.setIfInBounds_toArray, List.set_cons_zero, List.set_cons_succ]
      refine takeL (i := 1) (v := ?_) rfl (by kernel_rfl) (by kernel_rfl) (by kernel_rfl) (fun _ _ _ h => h) (Or.inl ⟨by rfl, ?_⟩) hHeld ?_
      rotate_left
      · rintro w' ⟨c1, r0⟩; go_simp; rfl
      try simp only [Act.put, List.setIfInBounds_toArray, List.set_cons_zero, List.set_cons_succ]
      refine takeL (i := 2) (v := ?_) rfl (by kernel_rfl) (by kernel_rfl) (by kernel_rfl) (fun _ _ _ h => h) (Or.inl ⟨by rfl, ?_⟩) hHeld ?_
      rotate_left
      · rintro w' ⟨c1, r0⟩; go_simp; rfl
      try simp only [Act.put, List.setIfInBounds_toArray, List.set_cons_zero, List.set_cons_succ]
      refine takeL (i := 3) (v := ?_) rfl (by kernel_rfl) (by kernel_rfl) (by kernel_rfl) (fun _ _ _ h => h) (Or.inl ⟨by rfl, ?_⟩) hHeld ?_
      rotate_left
      · rintro w' ⟨c1, r0⟩; go_simp; rfl
      try simp only [Act.put, List.setIfInBounds_toArray, List.set_cons_zero, List.set_cons_succ]
      refine takeL (i := 4) (v := ?_) rfl (by kernel_rfl) (by kernel_rfl) (by kernel_rfl) (fun _ _ _ h => h) (Or.inl ⟨by rfl, ?_⟩) hHeld ?_
      rotate_left
      · rintro w' ⟨c1, r0⟩; go_simp; rfl
      try simp only [Act.put, List.setIfInBounds_toArray, List.set_cons_zero, List.set_cons_succ]
      refine takeL (i := 5) (v := .agg RI.toArray) rfl (by kernel_rfl) (by kernel_rfl) (by kernel_rfl) (fun _ _ _ h => h) (yieldsIf_load_mid (by kernel_rfl) 42 _ rfl H (0) (by rfl) RI _ (fun w' h => h.r0) Tryd.underlying42 rfl hiI) hHeld ?_
      try simp only [Act.put, List.setIfInBounds_toArray, List.set_cons_zero, List.set_cons_succ]
      refine takeL (i := 6) (v := ?_) rfl (by kernel_rfl) (by kernel_rfl) (by kernel_rfl) (fun _ _ _ h => h) (Or.inl ⟨by rfl, ?_⟩) hHeld ?_
      rotate_left
      · rintro w' ⟨c1, r0⟩; go_simp; rfl
      try simp only [Act.put, List.setIfInBounds_toArray, List.set_cons_zero, List.set_cons_succ]
      refine wpAnyH_ready (rs := [7]) (by kernel_rfl) (by simp) ?_
      refine consL rfl (fun KK hKK => ?_) AllReadyH.nil
      refine step_skip (by rfl) (exec_update rfl rfl rfl rfl HPUT.out) ?_
      refine hKK.out _ _ HS6.out (fun hHeld2 => ?_)
      clear hKK KK hHeld hHeld2
      try simp only [Act.put, List.setIfInBounds_toArray, List.set_cons_zero, List.set_cons_succ]
      refine wpAnyH_done (by kernel_rfl) ?_ _
      go_wp2_with (first
        | refine wpList_load_mid rfl 42 _ rfl H 0 rfl RI _ RI6.out Tryd.underlying42 rfl hiI ?_
        | refine wpList_bS rfl 32 1 _ rfl (.agg RI.toArray) _ rfl HBLD.out ?_
        | (refine wpList_bx_sl (d := []) rfl _ _ 32 42 Tryd.underlying32 Tryd.info42 rfl (by decide) (by decide) (fun z => row_one _ z) rfl (G + 2) v _ rfl HV7.out (some ⟨K7, 0, none⟩) 1 [x.id] rfl HP8.out HONE1.out HSUM.out ?_; intro v8 w8 hb8 hg8)
        | fail)
      have hne8 : ∀ k, v.ownBlock = some k → G + 2 ≤ k := fun k hk => (own_lt HV7.out.own k hk).1
      have HV8 : Hid (Bi 42 w8 w8 (G + 2) v8 (A ++ ids (l.take (i + 1)))) := hid (by
        rw [HTK.out, show ids (l.take i ++ [x]) = ids (l.take i) ++ [x.id] by simp [ids], ← List.append_assoc]
        exact hb8.re)
      have HM8 : Hid (MI w8 G (i + 1) (updF f x.id (i : Int)) (if (f x.id).isSome then s else s + 1)) := hid (HM7.out.kept hg8 (fun e => by have := hne8 G e.symm; omega))
      have HB8 : Hid (Below G w w8) := hid (HB7.out.grown hg8 (by have := HM7.out.lt; omega) (fun k hk => by have := hne8 k hk; omega))
      have HX8 : Hid (w8.heap[G + 1]? = some (.cells #[.slice (some ⟨b, off, none⟩) n cap, .map (some G)] 77 (0, 0))) := hid ((hg8.block _ (lt_of_some HX7.out) (fun e => by have := hne8 _ e.symm; omega)).trans HX7.out)
      clear hb8 hg8 hne8
      go_roundg (n - (i + 1))
      case measure => omega
      case rel => exact ⟨i + 1, _, v8, _, rfl, by omega, rfl, by go_num, HM8, HPN, HV8, HB8, HX8⟩
    · have hlti : ¬ (i : Int) < (n : Int) := by omega
      have hin : i = n := by omega
      subst hin
      have HTA : Hid (l.take i = l) := hid (List.take_of_length_le (by rw [HN.out]; exact Nat.le_refl _))
      have HPZ : Hid (Pl l f s) := hid (by have := HP.out; rwa [HTA.out] at this)
      have HVZ : Hid (Bi 42 wr wr (G + 2) v (A ++ ids l)) := hid (by have := HV.out; rwa [HTA.out] at this)
      have hc1 : wr.cell? ⟨G + 1, 1, none⟩ = some (.map (some G)) := (cell_of_row _ _ 1 _ _ _ HX.out).trans rfl
      have hlen := HM.out.len 3
      by_cases hsn : s < i
      · have hsi : (s : Int) < (i : Int) := by omega
        have HNO : Hid (¬ (OkG l ∧ ∀ y ∈ A, y ∈ ids l)) := fun h => by have := HPZ.out.one.2 h.1.one; rw [HN.out] at this; omega
        go_wp2
        go_ret2
        exact ⟨by rw [HG.out]; exact HB.out, .inr ⟨HNO.out, rfl⟩⟩
      · have hsi : ¬ (s : Int) < (i : Int) := by omega
        have HND : Hid ((ids l).Nodup) := hid (HPZ.out.one.1 (by have := HPZ.out.le; rw [HN.out] at this ⊢; omega))
        have HHI : Hid (Hi wr (G + 1) G a cap l) := hid ⟨by rw [HN.out]; exact HX.out, ⟨i, f, s, by omega, HM.out, HPZ.out.plc HND.out⟩, HPA.out wr HB.out, HWF.out wr HB.out, HND.out, by rw [HN.out]; exact hn40, HPS.out⟩
        have hidw : ∀ y ∈ A ++ ids l, IdW y := fun y hy => by
          rcases List.mem_append.1 hy with hy | hy
          · exact HAW.out y hy
          · obtain ⟨x, hx, e⟩ := List.mem_map.1 hy
            rw [← e]; exact (HWF.out wr HB.out x hx).id
        obtain ⟨va, vc, hve, hvp, _, hvs⟩ := HVZ.out.px (d := []) (fun z hz => by rw [row_len]; exact (hidw z hz).1)
        obtain ⟨t, HT⟩ : ∃ t, Hid (na + i = t) := ⟨_, rfl⟩
        have hil : (A ++ ids l).length = t := by unfold ids; rw [List.length_append, HNA.out, List.length_map, HN.out]; exact HT.out
        have htb : t ≤ 120 := by rw [← HT.out]; omega
        rw [hil] at hve
        subst hve
        have C38 : Hid (Calls Tryd.prog 38 #[.func (.func 39) #[.pointer (some ⟨G + 1, 0, none⟩)] #[], (.slice va t vc)] wr (PostW l (A ++ ids l) wr)) := hid (by
          have := walk_any HHI.out va vc (A ++ ids l) hidw (by rw [hil]; omega) hvp trivial
          rw [hil] at this
          exact this)
        have hGw : G + 1 < wr.heap.size := lt_of_some HX.out
        clear hvp hvs hidw
        go_wp2_with fail
        refine C38.out.mono ?_
        rintro ev w9 ⟨hb9, hcase⟩
        have HB9 : Hid (Below G w w9) := hid (HB.out.trans (hb9.mono (by omega)))
        have HHI9 : Hid (Hi w9 (G + 1) G a cap l) := hid (HHI.out.below hb9)
        clear hb9
        rcases hcase with ⟨⟨gs, ns, rfl, hgs, hns, hsi9⟩, hall⟩ | ⟨⟨y, hy1, hy2⟩, rfl⟩
        · have HALL : Hid (∀ y, Rch l (· ∈ A ++ ids l) y → y ∈ ids l) := hall
          have HAI : Hid (∀ y ∈ A, y ∈ ids l) := fun y hy => hall y (Rch.of (List.mem_append.2 (.inl hy)))
          have HPAR : Hid (∀ n ∈ l, ∀ p ∈ n.ps, p ∈ ids l) := fun m hm p hp => hall p ((Rch.of (S := (· ∈ A ++ ids l)) (List.mem_append.2 (.inr (mem_ids hm)))).step ⟨m, hm, rfl, hp⟩)
          have C27 : Hid (Calls Tryd.prog 27 #[.pointer (some ⟨G + 1, 0, none⟩), .map (some gs)] w9 (PostIo l (Rch l (· ∈ A ++ ids l)) w9)) := hid (inOrder_any HHI9.out hsi9 hall)
          have hGw9 : G + 1 < w9.heap.size := lt_of_some HHI9.out.box
          clear hsi9 hall hgs hns
          go_wp2_with fail
          refine C27.out.mono ?_
          rintro ev w10 ⟨hb10, fF, vo, D, R, hfF, hks, _, rfl, _, oa, oc, rfl⟩
          have HHI10 : Hid (Hi w10 (G + 1) G a cap l) := hid (HHI9.out.below hb10)
          have HB10 : Hid (Below G w w10) := hid (HB9.out.trans (hb10.mono (by omega)))
          have hfl : l.filter fF = l := List.filter_eq_self.2 (fun x hx => (hfF x).2 (Rch.of (List.mem_append.2 (.inr (mem_ids hx)))))
          rw [hfl] at hks
          have hDl := hks.len
          rw [HN.out] at hDl
          obtain ⟨d, HD⟩ : ∃ d, Hid (D.length = d) := ⟨_, rfl⟩
          rw [HD.out] at hDl ⊢
          by_cases hdn : d < i
          · have hdi : (d : Int) < (i : Int) := by omega
            have HNO : Hid (¬ (OkG l ∧ ∀ y ∈ A, y ∈ ids l)) := fun h => hks.ring HND.out (fun e => by rw [e] at hDl; simp at hDl; omega) h.1.acy
            clear hks hDl hfl hb10 hfF
            go_wp2
            go_ret2
            exact ⟨by rw [HG.out]; exact HB10.out, .inr ⟨HNO.out, rfl⟩⟩
          · have hdi : ¬ (d : Int) < (i : Int) := by omega
            have HOK : Hid (OkG l) := ⟨HND.out, HPAR.out, hks.acy HND.out HPAR.out (List.length_eq_zero_iff.1 (by omega))⟩
            clear hks hDl hfl hb10 hfF
            go_wp2
            go_ret2
            exact ⟨by rw [HG.out]; exact HB10.out, .inl ⟨⟨HOK.out, HAI.out⟩, G + 1, G, rfl, HHI10.out⟩⟩
        · have HNO : Hid (¬ (OkG l ∧ ∀ y ∈ A, y ∈ ids l)) := fun h => hy2 (okg_walk h.1.par h.2 y hy1)
          clear hy1 hy2
          go_wp2
          go_ret2
          exact ⟨by rw [HG.out]; exact HB9.out, .inr ⟨HNO.out, rfl⟩⟩
/-- What 'Check' gives. -/
def PostCk (l : List Nd) (w : World) (e : Ending) (w' : World) : Prop := Below w.heap.size w w' ∧ ((OkG l ∧ e = .returned .nilIface) ∨ (¬ OkG l ∧ e = .returned (.iface 30 (.int .i64 80))))
set_option maxRecDepth 20000 in
theorem check_any {w : World} (a : Option Addr) (cap : Nat) (l : List Nd) (hP : Pn w a cap l) (hw : ∀ x ∈ l, NdW w x) (hn : l.length ≤ 40) (hps : ∀ x ∈ l, x.ps.length ≤ 40) : Calls Tryd.prog 8 #[.slice a l.length cap] w (PostCk l w) := by
  have C22 : Hid (Calls Tryd.prog 22 #[.slice a l.length cap, .slice none 0 0] w (PostOp l [] a cap w)) := open_any a cap l hP hw hn hps none 0 [] (fun y hy => by cases hy) (by simp) ⟨Nat.le_refl _, fun h => by simp at h, fun _ => rfl⟩
  obtain ⟨n, HN⟩ : ∃ n, Hid (l.length = n) := ⟨_, rfl⟩
  rw [HN.out] at C22 ⊢
  clear hP hw hps
  go_enter Tryd.func8, Tryd.ntmps8
  go_wp2_with fail
  refine C22.out.mono ?_
  rintro ev w1 ⟨hb, ⟨⟨hok, _⟩, p, m, rfl, _⟩ | ⟨hno, rfl⟩⟩
  · have HB : Hid (Below w.heap.size w w1) := hb
    have HO : Hid (OkG l) := hok
    clear hb hok
    go_wp2
    go_ret
    exact ⟨HB.out, .inl ⟨HO.out, rfl⟩⟩
  · have HB : Hid (Below w.heap.size w w1) := hb
    have HO : Hid (¬ OkG l) := fun h => hno ⟨h, fun y hy => by cases hy⟩
    clear hb hno
    go_wp2
    go_ret
    exact ⟨HB.out, .inr ⟨HO.out, rfl⟩⟩
end Go.Proofs.YtjgjeedablgmeaaDoor
