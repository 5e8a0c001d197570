/- 'thirdCode'. -/
import Derived.Test.YtbiibhpknflagaaDoorCodeF
namespace Go.Proofs.YtbiibhpknflagaaDoor
open Go.RowKit Plain
set_option linter.unusedVariables false

theorem Str.frame {w w' : World} {E : Env} {nx hold held : Nat} {v : Value} (h : Str w E nx hold held v) (hS : w'.heap[E.S]? = w.heap[E.S]?) (hI : w'.heap[E.ib]? = w.heap[E.ib]?) (hs : w.heap.size ≤ w'.heap.size) : Str w' E nx hold held v :=
  have c : ∀ i, w'.cell? ⟨E.S, i, none⟩ = w.cell? ⟨E.S, i, none⟩ := fun i => World.cell?_of_block (a := ⟨E.S, i, none⟩) hS
  ⟨(c 0).trans h.c0, (c 1).trans h.c1, (c 2).trans h.c2, (c 3).trans h.c3, (c 4).trans h.c4, (c 5).trans h.c5, (c 6).trans h.c6, fun i => (World.frozen?_of_block (a := ⟨E.S, i, none⟩) hS).trans (h.fz i),
    fun j hj => (World.cell?_of_block (a := ⟨E.ib, E.io + j, none⟩) hI).trans (h.src j hj), h.ibS, h.ibv, by have := h.ibl; omega, by have := h.Sl; omega, h.Sv⟩
theorem Rd.frame {w w' : World} {E : Env} {p : Nat} {v : Value} (h : Rd w E p v) (hS : w'.heap[E.S]? = w.heap[E.S]?) (hI : w'.heap[E.ib]? = w.heap[E.ib]?) (hs : w.heap.size ≤ w'.heap.size) : Rd w' E p v := by
  obtain ⟨a, b, c, d, e⟩ := h; exact ⟨a, b, c, d.frame hS hI hs, e⟩
theorem Rd.lt {w : World} {E : Env} {p : Nat} {v : Value} (h : Rd w E p v) : E.S < w.heap.size ∧ E.ib < w.heap.size := by
  obtain ⟨a, b, c, d, e⟩ := h; exact ⟨d.Sl, d.ibl⟩
/-- New memory, and a write into it. -/
theorem Rd.below {w w' : World} {E : Env} {p : Nat} {v : Value} (h : Rd w E p v) (hb : Below w.heap.size w w') : Rd w' E p v := h.frame (hb.block _ h.lt.1) (hb.block _ h.lt.2) hb.size
theorem Rd.set {w : World} {E : Env} {p : Nat} {v : Value} (h : Rd w E p v) (T i : Nat) (u : Value) (h1 : E.S ≠ T) (h2 : E.ib ≠ T) : Rd (w.setCell ⟨T, i, none⟩ u) E p v :=
  h.frame (Below.heap_setCell w ⟨T, i, none⟩ u _ h1) (Below.heap_setCell w ⟨T, i, none⟩ u _ h2) (by simp [World.setCell])
/-- What is kept since w0, and a write into a block that is newer. -/
theorem Kept.set2 {S : Nat} {v v' : Value} {w w' : World} (h : Kept S v v' w w') (T i : Nat) (u : Value) (hT : w.heap.size ≤ T) : Kept S v v' w (w'.setCell ⟨T, i, none⟩ u) :=
  ⟨h.os, h.tape, h.output, by simpa [World.setCell] using h.size, fun k h1 h2 h3 => (Below.heap_setCell w' ⟨T, i, none⟩ u k (by simp; omega)).trans (h.block k h1 h2 h3), h.row⟩

/-- The third code's own lengths, k of them read. -/
def thTo (zs : List Int) (p : Nat) : Nat → List Nat
  | 0 => List.replicate 19 0
  | k + 1 => (thTo zs p k).set (third.getD k 0) (getB zs (p + 3 * k) 3)
theorem thTo_len (zs : List Int) (p : Nat) : ∀ k, (thTo zs p k).length = 19
  | 0 => by simp [thTo]
  | k + 1 => by rw [thTo, List.length_set, thTo_len zs p k]
theorem thTo_7 (zs : List Int) (p : Nat) : ∀ k, ∀ x ∈ thTo zs p k, x ≤ 7
  | 0, x, hx => by rw [thTo] at hx; have := List.eq_of_mem_replicate hx; omega
  | k + 1, x, hx => by
    rw [thTo] at hx
    rcases List.mem_or_eq_of_mem_set hx with h | h
    · exact thTo_7 zs p k x h
    · rw [h]; have := getB_lt zs (p + 3 * k) 3; omega
theorem third_lt : ∀ i, i < 19 → third.getD i 0 < 19 := by decide

set_option maxRecDepth 20000 in
set_option maxHeartbeats 2000000 in
theorem thirdCode_any (E : Env) (p n : Nat) (v : Value) (w : World) (hz : IsB E.zs) (hl : E.zs.length ≤ 400000) (h : Rd w E p v) (ht : Tabs w E v) (hn : n ≤ 19) (hp : p + 3 * n ≤ 8 * E.zs.length) :
    Calls Tryd.prog 60 #[.pointer (some ⟨E.S, 0, none⟩), .int .i64 n] w fun e w' => Kept E.S (.bool true) (.bool true) w w' ∧ Rd w' E (p + 3 * n) v ∧
      ((wholeB (cntOf (thTo E.zs p n)) = true ∧ ∃ L, e = .returned (codeV L) ∧ New w w' E.S L (cntOf (thTo E.zs p n)) (srtOf (thTo E.zs p n))) ∨ (wholeB (cntOf (thTo E.zs p n)) = false ∧ e = .panicked (errv 10))) := by
  obtain ⟨i3, hi, hz0, hz1, hz2⟩ := info_parts Tryd.info3
  have hSl := h.lt
  go_enter Tryd.func60, Tryd.ntmps60
  go_wp2_with (at_make; refine wpList_make_full _ rfl _ _ 70 rfl w.heap.size 3 i3 (.int .i64 0) 1 Tryd.underlying70 hi hz0 hz1 _ _ _ _ 19 rfl rfl ?c1 ?c2 ?c3 ?c4 ?c5 ?_)
  case c1 => rfl
  case c2 => rfl
  case c3 => rw [hz2]; omega
  case c4 => unfold maxLen; omega
  case c5 => exact Nat.le_refl _
  · intro w2 hown hgrow
    have hb2 : Below w.heap.size w w2 := (Below.refl _ _).grown hgrow (Nat.le_refl _) (fun k h => by cases h)
    have HH : Hid (w2.heap[w.heap.size]? = some (.cells (arr (thTo E.zs p 0)).toArray 3 (0, 0))) := by rw [thTo]; exact made_row hown
    have HR2 : Hid (Rd w2 E p v) := h.below hb2
    have HK2 : Hid (Kept E.S (.bool true) (.bool true) w w2) := Kept.of_below hb2
    clear hown hgrow hb2
    go_wp2
    go_loopw [9] (fun i wr => ∃ k : Nat, k ≤ n ∧ i = .int .i64 k ∧ Hid (wr.heap[w.heap.size]? = some (.cells (arr (thTo E.zs p k)).toArray 3 (0, 0))) ∧ Hid (Rd wr E (p + 3 * k) v) ∧ Hid (Kept E.S (.bool true) (.bool true) w wr)) (fun i _ => n - (intOf i).toNat)
    case atStart => exact ⟨0, by omega, rfl, HH, HR2, HK2⟩
    case round =>
      obtain ⟨k, hk, rfl, H, HR, HK⟩ := hrel
      clear HH HR2 HK2
      by_cases hlt : k < n
      · have hltZ : (k : Int) < n := by omega
        have hk19 : (k : Int) < 19 := by omega
        have htr := ht.kept (HK.out.weak v)
        have ct := htr.t6 k (by omega)
        have hq := third_lt k (by omega)
        obtain ⟨q, HQ⟩ : ∃ q, Hid (q = third.getD k 0) := ⟨_, rfl⟩
        rw [← HQ.out] at ct hq
        have hqZ : (q : Int) < 19 := by omega
        have h6 : w.heap.size ≠ 6 := by have := ht.a6.lt; omega
        have hTS : E.S ≠ w.heap.size := by omega
        have hTI : E.ib ≠ w.heap.size := by omega
        have HLT : Hid (w.heap.size < wr.heap.size) := by
          rcases Nat.lt_or_ge w.heap.size wr.heap.size with h | h
          · exact h
          · have := H.out; rw [Array.getElem?_eq_none h] at this; cases this
        go_wp2
        go_region_held3 (fun w' => w'.cell? ⟨6, k, none⟩ = some (.int .i64 q)) (first | go_keep | (rw [World.cell?_setCell_other _ _ _ _ (by intro e; simp only [Addr.mk.injEq] at e; exact h6 e.1)]; assumption)) (first | (go_at_call 28; refine (number_ok E (p + 3 * k) 3 v _ hz hl (by omega) ?_ (by omega)).mono ?_; (first | exact HR.out | exact HR.out.drewN _ | exact HR.out.drew); rintro e w3 ⟨rfl, r3, k3⟩; have k3' : Kept E.S (.bool true) (.bool true) wr w3 := (by first | exact k3 | exact (Kept.refl _ _ _).drew.trans k3); have d6 : w3.cell? ⟨6, k, none⟩ = some (.int .i64 q) := ((k3'.weak v).cell (p := ⟨6, k, none⟩) htr.a6.lt htr.a6.neS htr.a6.nev).trans ct; have H3 : Hid (w3.heap[w.heap.size]? = some (.cells (arr (thTo E.zs p k)).toArray 3 (0, 0))) := (k3'.all _ HLT.out (Ne.symm hTS)).trans H.out; have HR3 : Hid (Rd w3 E (p + 3 * k + 3) v) := r3; have HK3 : Hid (Kept E.S (.bool true) (.bool true) w w3) := HK.out.trans k3'; have e3 := row_cell H3.out q (by rw [thTo_len]; exact hq); have f3 := frozen_of_row w3 w.heap.size q _ 3 H3.out; clear r3 k3 k3'))
        all_goals
          go_wp2
          go_roundw
          case rel =>
            refine ⟨k + 1, by omega, by go_num, ?_, ?_, HK3.out.set2 _ _ _ (Nat.le_refl _)⟩
            · show _ = _
              rw [heap_setCell_same w3 _ _ _ _ _ H3.out, thTo, ← HQ.out, ← arr_set]
            · show Rd _ _ _ _
              rw [show p + 3 * (k + 1) = p + 3 * k + 3 from by omega]
              exact HR3.out.set _ _ _ hTS hTI
          case measure => simp [intOf]; omega
      · obtain rfl : k = n := by omega
        have hat : AtI wr w.heap.size 0 (thTo E.zs p k) := fun i hi => by rw [Nat.zero_add]; exact row_cell H.out i hi
        have HLT : Hid (w.heap.size < wr.heap.size) := by
          rcases Nat.lt_or_ge w.heap.size wr.heap.size with h | h
          · exact h
          · have := H.out; rw [Array.getElem?_eq_none h] at this; cases this
        have hlen := thTo_len E.zs p k
        have h15 : ∀ x ∈ thTo E.zs p k, x ≤ 15 := fun x hx => by have := thTo_7 E.zs p k x hx; omega
        cases hwh : wholeB (cntOf (thTo E.zs p k)) with
        | true =>
          go_wp2_with fail
          rw [← hlen]
          refine (wholeCode_ok E.S w.heap.size 0 _ (thTo E.zs p k) wr (by omega) h15 hat HLT.out hwh).mono ?_
          rintro e w3 ⟨L, rfl, hb3, hL⟩
          have HF : Hid (Kept E.S (.bool true) (.bool true) w w3 ∧ Rd w3 E (p + 3 * k) v ∧ New w w3 E.S L (cntOf (thTo E.zs p k)) (srtOf (thTo E.zs p k))) := ⟨HK.out.trans (Kept.of_below hb3), HR.out.below hb3, hL.mono HK.out.size⟩
          clear hb3 hL
          go_wp2
          go_ret
          exact ⟨HF.out.1, HF.out.2.1, .inl ⟨hwh, L, rfl, HF.out.2.2⟩⟩
        | false =>
          go_wp2_with fail
          rw [← hlen]
          refine (wholeCode_bad E.S w.heap.size 0 _ (thTo E.zs p k) wr (by omega) h15 hat HLT.out hwh).mono ?_
          rintro e w3 ⟨rfl, hb3⟩
          exact ⟨rfl, HK.out.trans (Kept.of_below hb3), HR.out.below hb3, .inr ⟨hwh, rfl⟩⟩
set_option maxRecDepth 20000 in
set_option maxHeartbeats 2000000 in
theorem thirdCode_short (E : Env) (p n : Nat) (v : Value) (w : World) (hz : IsB E.zs) (hl : E.zs.length ≤ 400000) (h : Rd w E p v) (ht : Tabs w E v) (hn : n ≤ 19) (hp : 8 * E.zs.length < p + 3 * n) (hp0 : p ≤ 8 * E.zs.length) :
    Calls Tryd.prog 60 #[.pointer (some ⟨E.S, 0, none⟩), .int .i64 n] w fun e w' => e = .panicked (errv 10) ∧ Kept E.S (.bool true) (.bool true) w w' := by
  obtain ⟨i3, hi, hz0, hz1, hz2⟩ := info_parts Tryd.info3
  have hSl := h.lt
  go_enter Tryd.func60, Tryd.ntmps60
  go_wp2_with (at_make; refine wpList_make_full _ rfl _ _ 70 rfl w.heap.size 3 i3 (.int .i64 0) 1 Tryd.underlying70 hi hz0 hz1 _ _ _ _ 19 rfl rfl ?c1 ?c2 ?c3 ?c4 ?c5 ?_)
  case c1 => rfl
  case c2 => rfl
  case c3 => rw [hz2]; omega
  case c4 => unfold maxLen; omega
  case c5 => exact Nat.le_refl _
  · intro w2 hown hgrow
    have hb2 : Below w.heap.size w w2 := (Below.refl _ _).grown hgrow (Nat.le_refl _) (fun k h => by cases h)
    have HH : Hid (w2.heap[w.heap.size]? = some (.cells (arr (thTo E.zs p 0)).toArray 3 (0, 0))) := by rw [thTo]; exact made_row hown
    have HR2 : Hid (Rd w2 E p v) := h.below hb2
    have HK2 : Hid (Kept E.S (.bool true) (.bool true) w w2) := Kept.of_below hb2
    clear hown hgrow hb2
    go_wp2
    go_loopw [9] (fun i wr => ∃ k : Nat, k ≤ n ∧ p + 3 * k ≤ 8 * E.zs.length ∧ i = .int .i64 k ∧ Hid (wr.heap[w.heap.size]? = some (.cells (arr (thTo E.zs p k)).toArray 3 (0, 0))) ∧ Hid (Rd wr E (p + 3 * k) v) ∧ Hid (Kept E.S (.bool true) (.bool true) w wr)) (fun i _ => n - (intOf i).toNat)
    case atStart => exact ⟨0, by omega, by omega, rfl, HH, HR2, HK2⟩
    case round =>
      obtain ⟨k, hk, hk8, rfl, H, HR, HK⟩ := hrel
      clear HH HR2 HK2
      by_cases hlt : k < n
      · have hltZ : (k : Int) < n := by omega
        have hk19 : (k : Int) < 19 := by omega
        have htr := ht.kept (HK.out.weak v)
        have ct := htr.t6 k (by omega)
        have hq := third_lt k (by omega)
        obtain ⟨q, HQ⟩ : ∃ q, Hid (q = third.getD k 0) := ⟨_, rfl⟩
        rw [← HQ.out] at ct hq
        have hqZ : (q : Int) < 19 := by omega
        have h6 : w.heap.size ≠ 6 := by have := ht.a6.lt; omega
        have hTS : E.S ≠ w.heap.size := by omega
        have hTI : E.ib ≠ w.heap.size := by omega
        have HLT : Hid (w.heap.size < wr.heap.size) := by
          rcases Nat.lt_or_ge w.heap.size wr.heap.size with h | h
          · exact h
          · have := H.out; rw [Array.getElem?_eq_none h] at this; cases this
        by_cases hroom : p + 3 * k + 3 ≤ 8 * E.zs.length
        · have hp' := hroom
          go_wp2
          go_region_held3 (fun w' => w'.cell? ⟨6, k, none⟩ = some (.int .i64 q)) (first | go_keep | (rw [World.cell?_setCell_other _ _ _ _ (by intro e; simp only [Addr.mk.injEq] at e; exact h6 e.1)]; assumption)) (first | (go_at_call 28; refine (number_ok E (p + 3 * k) 3 v _ hz hl (by omega) ?_ (by omega)).mono ?_; (first | exact HR.out | exact HR.out.drewN _ | exact HR.out.drew); rintro e w3 ⟨rfl, r3, k3⟩; have k3' : Kept E.S (.bool true) (.bool true) wr w3 := (by first | exact k3 | exact (Kept.refl _ _ _).drew.trans k3); have d6 : w3.cell? ⟨6, k, none⟩ = some (.int .i64 q) := ((k3'.weak v).cell (p := ⟨6, k, none⟩) htr.a6.lt htr.a6.neS htr.a6.nev).trans ct; have H3 : Hid (w3.heap[w.heap.size]? = some (.cells (arr (thTo E.zs p k)).toArray 3 (0, 0))) := (k3'.all _ HLT.out (Ne.symm hTS)).trans H.out; have HR3 : Hid (Rd w3 E (p + 3 * k + 3) v) := r3; have HK3 : Hid (Kept E.S (.bool true) (.bool true) w w3) := HK.out.trans k3'; have e3 := row_cell H3.out q (by rw [thTo_len]; exact hq); have f3 := frozen_of_row w3 w.heap.size q _ 3 H3.out; clear r3 k3 k3'))
          all_goals
            go_wp2
            go_roundw
            case rel =>
              refine ⟨k + 1, by omega, by omega, by go_num, ?_, ?_, HK3.out.set2 _ _ _ (Nat.le_refl _)⟩
              · show _ = _
                rw [heap_setCell_same w3 _ _ _ _ _ H3.out, thTo, ← HQ.out, ← arr_set]
              · show Rd _ _ _ _
                rw [show p + 3 * (k + 1) = p + 3 * k + 3 from by omega]
                exact HR3.out.set _ _ _ hTS hTI
            case measure => simp [intOf]; omega
        · go_wp2
          go_region_with (first | (go_at_call 28; refine (number_bad E (p + 3 * k) 3 v _ hz hl (by omega) ?_ (by omega)).mono ?_; (first | exact HR.out | exact HR.out.drewN _ | exact HR.out.drew); rintro e w3 ⟨rfl, k3⟩; have HK3 : Hid (Kept E.S (.bool true) (.bool true) w w3) := (by first | exact HK.out.trans k3 | exact HK.out.drew.trans k3 | exact (HK.out.drewN _).trans k3); clear k3; refine way_out ⟨rfl, rfl, HK3.out⟩ ?_))
          all_goals exact trivial
      · omega
end Go.Proofs.YtbiibhpknflagaaDoor
