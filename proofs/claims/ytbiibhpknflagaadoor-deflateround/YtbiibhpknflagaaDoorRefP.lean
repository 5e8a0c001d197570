/- The document's own reader: the codes that are told. -/
import Derived.Test.YtbiibhpknflagaaDoorRefO
import Derived.Deep.RegionHeld3
namespace Go.Proofs.YtbiibhpknflagaaDoor
open Go.RowKit Plain
set_option linter.unusedVariables false
set_option linter.unusedSimpArgs false

theorem bitsOf_ee (zs : List Int) (p n : Nat) (er : Int) (he : er = 0 ∨ er = 10) : (bitsOf zs p n er).2.2 = 0 ∨ (bitsOf zs p n er).2.2 = 10 := by
  unfold bitsOf first
  split
  · exact he
  · rcases he with rfl | rfl <;> simp
theorem bits3_bad (zs : List Int) (p : Nat) (h : 8 * zs.length < p + 14) (hp : p ≤ 8 * zs.length) :
    (bitsOf zs (bitsOf zs (bitsOf zs p 5 0).2.1 5 (bitsOf zs p 5 0).2.2).2.1 4 (bitsOf zs (bitsOf zs p 5 0).2.1 5 (bitsOf zs p 5 0).2.2).2.2).2.2 = 10 := by
  unfold bitsOf first
  by_cases c1 : p + 5 ≤ 8 * zs.length
  · simp only [if_pos c1]
    by_cases c2 : p + 5 + 5 ≤ 8 * zs.length
    · simp only [if_pos c2]
      rw [if_neg (by omega)]; rfl
    · simp only [if_neg c2]
      rw [if_neg (by omega)]; rfl
  · simp only [if_neg c1]
    rw [if_neg (show ¬ (8 * zs.length + 5 ≤ 8 * zs.length) by omega)]
    rw [if_neg (by simp)]
    simp
theorem told_short (zs : List Int) (p : Nat) (h : 8 * zs.length < p + 14) : toldOf zs p = none := by
  unfold toldOf
  split
  · rfl
  · split
    · rfl
    · split
      · rfl
      · first | rfl | rw [if_pos (by omega)]
/-- What the row's loop keeps besides: the code of the lengths, in its box. -/
structure TJ (w wr : World) (E : REnv) (v : Value) (far : Int) (p : Nat) (er : Int) (w0 : World) (C : RCode) (T : List Nat) (b H1 : Nat) : Prop where
  ti : TI w wr E v far p er
  nc : NewC w0 wr C T
  bx : wr.heap[b]? = some (.cells #[.slice C.ax 19 C.cx, .slice C.ay 19 C.cy] 72)
  bl : b < H1
  l1 : C.gl < H1
  l2 : C.gb < H1
  hh : H1 ≤ wr.heap.size
  h0 : w0.heap.size = w.heap.size + 2
  b0 : w.heap.size + 2 ≤ b
theorem TJ.step {w wr w1 : World} {E : REnv} {v : Value} {far : Int} {p p' : Nat} {er er' : Int} {w0 : World} {C : RCode} {T : List Nat} {b H1 : Nat} (h : TJ w wr E v far p er w0 C T b H1) (k : Kept E.S (.bool true) (.bool true) wr w1) (r : RS w1 E p' v far er') (hp : p' ≤ 8 * E.zs.length) (he : er' = 0 ∨ er' = 10 := by first | exact .inl rfl | exact .inr rfl) : TJ w w1 E v far p' er' w0 C T b H1 := by
  have h1 := h.nc.l1
  have h2 := h.nc.l2
  have h3 := h.h0
  have h4 := h.ti.sl
  have h5 := h.b0
  have h6 := h.bl
  have h7 := h.hh
  exact ⟨h.ti.step k r hp he, h.nc.frame (k.all _ h1.2 (by omega)) (k.all _ h2.2 (by omega)) k.size, (k.all _ (by omega) (by omega)).trans h.bx, h.bl, h.l1, h.l2, Nat.le_trans h7 k.size, h3, h5⟩
theorem TJ.own {w wr w1 : World} {E : REnv} {v : Value} {far : Int} {p : Nat} {er : Int} {w0 : World} {C : RCode} {T : List Nat} {b H1 : Nat} (h : TJ w wr E v far p er w0 C T b H1) (hb : Below H1 wr w1) : TJ w w1 E v far p er w0 C T b H1 := by
  have h5 := h.b0
  have h6 := h.bl
  exact ⟨h.ti.own (hb.mono (by omega)), h.nc.frame (hb.block _ h.l1) (hb.block _ h.l2) hb.size, (hb.block _ h6).trans h.bx, h6, h.l1, h.l2, Nat.le_trans h.hh hb.size, h.h0, h5⟩
theorem owns_cap {w : World} {B n cp : Nat} {a : Option Addr} {xs : List Value} (h : w.ownsRow B 3 1 (.slice a n cp) n xs) : n ≤ cp := by
  obtain ⟨_, ⟨h, hn⟩ | ⟨g', cap', cur, hv, _, _, hc, _⟩⟩ := h
  · omega
  · simp only [Value.slice.injEq] at hv
    omega
theorem getD_le {l : List Nat} {b : Nat} (h : ∀ x ∈ l, x ≤ b) (i : Nat) : l.getD i 0 ≤ b := by
  by_cases hi : i < l.length
  · rw [List.getD_eq_getElem?_getD, List.getElem?_eq_getElem hi]; exact h _ (List.getElem_mem hi)
  · rw [List.getD_eq_getElem?_getD, List.getElem?_eq_none (by omega)]; simp
theorem wp_region_tail_g {P : Program} {id : Nat} {Q : Exit → Act → World → Prop} {a : Act} {w : World} {l : List Oper} (n j d j' d' : Nat) (hm : P.follows .mixedOrders = true) (hB : Region.lexTailB .any l.toArray n = true)
    (h1 : (l.toArray[j]?).bind (·.dst) = some d) (h2 : (l.toArray[j']?).bind (·.dst) = some d')
    (h : ∀ ops : Array Oper, (ops[j]?).bind (·.dst) = some d → (ops[j']?).bind (·.dst) = some d' → wpStill P ops w.drew (fun a' => wpList P l.toArray Q (l.drop n) a' w.drew) (l.take n) a) : (Code.region id l.toArray true).wp P Q a w :=
  wp_region_drew_tail n hm hB (h _ h1 h2)
/-- The last return of 'told'. -/
theorem told_end {w w0 w4 : World} {E : REnv} {v : Value} {far : Int} {p n m : Nat} {R : Option (List Nat × List Nat × Nat)} {a : Act} {L D : RCode} {l d : List Nat} (z : Bool) (h : TI w w4 E v far p 0) (hL : NewC w0 w4 L l) (hD : NewC w0 w4 D d) (h0 : w0.heap.size = w.heap.size + 2) (el : l.length = n) (ed : d.length = m) (ln : n ≤ 400) (lm : m ≤ 400) (l15 : ∀ i, l.getD i 0 ≤ 15) (d15 : ∀ i, d.getD i 0 ≤ 15)
    (hR : R = if z = true then some (l, d, p) else none) (hd : a.defers = [])
    (h2 : a.tmps.getD 2 undef = .pointer (some ⟨w.heap.size, 0, none⟩)) (h3 : a.tmps.getD 3 undef = .pointer (some ⟨w.heap.size + 1, 0, none⟩)) (h4 : a.tmps.getD 4 undef = .bool z) :
    bodyPost Tryd.prog Tryd.f42 (ToldP E v far w R) Exit.ret a (fin4 w w4 (.slice L.ax n L.cx) (.slice L.ay n L.cy) (.slice D.ax m D.cx) (.slice D.ay m D.cy)) := by
  obtain ⟨⟨k1, k2⟩, ⟨q2, q3, q4, q5⟩, q6, q7⟩ := h.fin (.slice L.ax n L.cx) (.slice L.ay n L.cy) (.slice D.ax m D.cx) (.slice D.ay m D.cy)
  refine bodyPost_ret (results_three Tryd.results42 _ _ w.heap.size (w.heap.size + 1) _ _ _ _ _ h2 h3 h4 q2 q3 q4 q5) hd ?_
  rw [hR]
  cases z with
  | false => exact ⟨k1, (L.ax, n, L.cx), (L.ay, n, L.cy), (D.ax, m, D.cx), (D.ay, m, D.cy), p, 0, rfl, h.pp, k2, .inl rfl⟩
  | true =>
    have a1 := hL.l1
    have a2 := hL.l2
    have a3 := hD.l1
    have a4 := hD.l2
    refine ⟨k1, h.pp, k2, L, D, ?_, (hL.frame (q6 _ (by omega) (by omega)) (q6 _ (by omega) (by omega)) (Nat.le_of_eq q7.symm)).mono (by omega), (hD.frame (q6 _ (by omega) (by omega)) (q6 _ (by omega) (by omega)) (Nat.le_of_eq q7.symm)).mono (by omega), by omega, by omega, l15, d15⟩
    unfold codeVal
    rw [hL.le, hD.le, el, ed]
set_option maxRecDepth 20000 in
set_option maxHeartbeats 40000000 in
theorem told_any (E : REnv) (p : Nat) (far : Int) (v : Value) (w : World) (hz : IsB E.zs) (hl : E.zs.length ≤ 400000) (hp : p ≤ 8 * E.zs.length) (h : RS w E p v far 0) :
    Calls Tryd.prog 42 #[.pointer (some ⟨E.S, 0, none⟩)] w (ToldP E v far w (toldOf E.zs p)) := by
  obtain ⟨i3, hi, hz0, hz1, hz2⟩ := info_parts Tryd.info3
  have HT0 : Hid _ := TI.start h hp
  clear h
  by_cases c1 : 8 * E.zs.length < p + 14
  · have hR := told_short E.zs p c1
    have h10 := bits3_bad E.zs p c1 hp
    obtain ⟨R, HR⟩ : ∃ R, Hid (R = toldOf E.zs p) := ⟨_, rfl⟩
    rw [← HR.out] at hR ⊢
    have HRN : Hid _ := hR
    obtain ⟨x1, HX1⟩ : ∃ x, Hid (x = bitsOf E.zs p 5 0) := ⟨_, rfl⟩
    rw [← HX1.out] at h10
    obtain ⟨x2, HX2⟩ : ∃ x, Hid (x = bitsOf E.zs x1.2.1 5 x1.2.2) := ⟨_, rfl⟩
    rw [← HX2.out] at h10
    obtain ⟨x3, HX3⟩ : ∃ x, Hid (x = bitsOf E.zs x2.2.1 4 x2.2.2) := ⟨_, rfl⟩
    rw [← HX3.out] at h10
    have l1 : x1.2.1 ≤ 8 * E.zs.length := by rw [HX1.out]; exact bitsOf_le _ _ _ _
    have l2 : x2.2.1 ≤ 8 * E.zs.length := by rw [HX2.out]; exact bitsOf_le _ _ _ _
    have l3 : x3.2.1 ≤ 8 * E.zs.length := by rw [HX3.out]; exact bitsOf_le _ _ _ _
    have n1 : x1.1 < 32 := by rw [HX1.out]; exact bitsOf_lt _ _ 5 _
    have n2 : x2.1 < 32 := by rw [HX2.out]; exact bitsOf_lt _ _ 5 _
    have n3 : x3.1 < 16 := by rw [HX3.out]; exact bitsOf_lt _ _ 4 _
    have B1 := fun w h => bits_any E p 5 v far 0 w hz hl (by omega) h hp
    have B2 := fun w h => bits_any E x1.2.1 5 v far x1.2.2 w hz hl (by omega) h l1
    have B3 := fun w h => bits_any E x2.2.1 4 v far x2.2.2 w hz hl (by omega) h l2
    rw [← HX1.out] at B1
    rw [← HX2.out] at B2
    rw [← HX3.out] at B3
    have HE1 : Hid (x1.2.2 = 0 ∨ x1.2.2 = 10) := by show _ ∨ _; rw [HX1.out]; exact bitsOf_ee _ _ _ _ (.inl rfl)
    have HE2 : Hid (x2.2.2 = 0 ∨ x2.2.2 = 10) := by show _ ∨ _; rw [HX2.out]; exact bitsOf_ee _ _ _ _ HE1.out
    have HE3 : Hid (x3.2.2 = 0 ∨ x3.2.2 = 10) := by show _ ∨ _; rw [HX3.out]; exact bitsOf_ee _ _ _ _ HE2.out
    clear hR HR
    go_enter Tryd.func42, Tryd.ntmps42
    go_wp2_with (first | (go_at_call 37; refine (B1 _ HT0.out.rs).mono ?_; clear B1; rintro ev w1 ⟨rfl, hR1, hK1⟩; have HT1 : Hid _ := HT0.out.step hK1 hR1 l1 HE1.out; clear hR1 hK1) | (go_at_call 37; refine (B2 _ HT1.out.rs).mono ?_; clear B2; rintro ev w2 ⟨rfl, hR2, hK2⟩; have HT2 : Hid _ := HT1.out.step hK2 hR2 l2 HE2.out; clear hR2 hK2) | (go_at_call 37; refine (B3 _ HT2.out.rs).mono ?_; clear B3; rintro ev w3 ⟨rfl, hR3, hK3⟩; have HT3 : Hid _ := HT2.out.step hK3 hR3 l3 HE3.out; have c5 := hR3.c5; rw [h10] at c5; obtain ⟨r0, r1, r2, r3, f0, f1, f2, f3⟩ := HT3.out.cells; clear hR3 hK3))
    exact told_no HT3.out HRN.out rfl rfl rfl rfl
  · obtain ⟨n, HN⟩ : ∃ n, Hid (n = getB E.zs p 5 + 257) := ⟨_, rfl⟩
    obtain ⟨m, HM⟩ : ∃ m, Hid (m = getB E.zs (p + 5) 5 + 1) := ⟨_, rfl⟩
    obtain ⟨k, HK⟩ : ∃ k, Hid (k = getB E.zs (p + 5 + 5) 4 + 4) := ⟨_, rfl⟩
    obtain ⟨R, HR⟩ : ∃ R, Hid (R = toldOf E.zs p) := ⟨_, rfl⟩
    rw [← HR.out]
    have g1 := getB_lt E.zs p 5
    have g2 := getB_lt E.zs (p + 5) 5
    have g3 := getB_lt E.zs (p + 5 + 5) 4
    have B1 := fun w h => bits_ok E p 5 v far 0 w hz hl (by omega) h (by omega)
    have B2 := fun w h => bits_ok E (p + 5) 5 v far 0 w hz hl (by omega) h (by omega)
    have B3 := fun w h => bits_ok E (p + 5 + 5) 4 v far 0 w hz hl (by omega) h (by omega)
    have l1 : p + 5 ≤ 8 * E.zs.length := by omega
    have l2 : p + 5 + 5 ≤ 8 * E.zs.length := by omega
    have l3 : p + 5 + 5 + 4 ≤ 8 * E.zs.length := by omega
    have hR := HR.out
    unfold toldOf at hR
    rw [if_neg (by omega), if_neg (by omega), if_neg (show ¬ (8 * E.zs.length < p + 5 + 5 + 4) by omega), ← HN.out, ← HM.out, ← HK.out] at hR
    obtain ⟨y1, HY1⟩ : ∃ y, Hid (y = getB E.zs p 5) := ⟨_, rfl⟩
    obtain ⟨y2, HY2⟩ : ∃ y, Hid (y = getB E.zs (p + 5) 5) := ⟨_, rfl⟩
    obtain ⟨y3, HY3⟩ : ∃ y, Hid (y = getB E.zs (p + 5 + 5) 4) := ⟨_, rfl⟩
    rw [← HY1.out] at g1 B1
    rw [← HY2.out] at g2 B2
    rw [← HY3.out] at g3 B3
    have hn : (y1 : Int) + 257 = (n : Int) := by rw [HN.out, HY1.out]; omega
    have hm : (y2 : Int) + 1 = (m : Int) := by rw [HM.out, HY2.out]; omega
    have hk : (y3 : Int) + 4 = (k : Int) := by rw [HK.out, HY3.out]; omega
    have hn2 : 257 ≤ n ∧ n ≤ 288 := by omega
    have hm2 : 1 ≤ m ∧ m ≤ 32 := by omega
    have hk2 : 4 ≤ k ∧ k ≤ 19 := by omega
    clear HR
    go_enter Tryd.func42, Tryd.ntmps42
    by_cases c2 : 286 < n ∨ 30 < m
    · rw [if_pos c2] at hR
      have HRN : Hid _ := hR
      clear hR
      by_cases c3 : (286 : Int) < n
      · go_wp2_with (first | (go_at_call 37; refine (B1 _ HT0.out.rs).mono ?_; clear B1; rintro ev w1 ⟨rfl, hR1, hK1⟩; have HT1 : Hid _ := HT0.out.step hK1 hR1 l1; clear hR1 hK1) | (go_at_call 37; refine (B2 _ HT1.out.rs).mono ?_; clear B2; rintro ev w2 ⟨rfl, hR2, hK2⟩; have HT2 : Hid _ := HT1.out.step hK2 hR2 l2; clear hR2 hK2) | (go_at_call 37; refine (B3 _ HT2.out.rs).mono ?_; clear B3; rintro ev w3 ⟨rfl, hR3, hK3⟩; have HT3 : Hid _ := HT2.out.step hK3 hR3 l3; have c5 := hR3.c5; obtain ⟨r0, r1, r2, r3, f0, f1, f2, f3⟩ := HT3.out.cells; clear hR3 hK3))
        exact told_no HT3.out HRN.out rfl rfl rfl rfl
      · have c4 : (30 : Int) < m := by omega
        go_wp2_with (first | (go_at_call 37; refine (B1 _ HT0.out.rs).mono ?_; clear B1; rintro ev w1 ⟨rfl, hR1, hK1⟩; have HT1 : Hid _ := HT0.out.step hK1 hR1 l1; clear hR1 hK1) | (go_at_call 37; refine (B2 _ HT1.out.rs).mono ?_; clear B2; rintro ev w2 ⟨rfl, hR2, hK2⟩; have HT2 : Hid _ := HT1.out.step hK2 hR2 l2; clear hR2 hK2) | (go_at_call 37; refine (B3 _ HT2.out.rs).mono ?_; clear B3; rintro ev w3 ⟨rfl, hR3, hK3⟩; have HT3 : Hid _ := HT2.out.step hK3 hR3 l3; have c5 := hR3.c5; obtain ⟨r0, r1, r2, r3, f0, f1, f2, f3⟩ := HT3.out.cells; clear hR3 hK3))
        exact told_no HT3.out HRN.out rfl rfl rfl rfl
    · rw [if_neg c2] at hR
      have HR : Hid _ := hR
      have c3 : ¬ (286 : Int) < n := by omega
      have c4 : ¬ (30 : Int) < m := by omega
      clear hR
      go_wp2_with (first | (go_at_call 37; refine (B1 _ HT0.out.rs).mono ?_; clear B1; rintro ev w1 ⟨rfl, hR1, hK1⟩; have HT1 : Hid _ := HT0.out.step hK1 hR1 l1; clear hR1 hK1) | (go_at_call 37; refine (B2 _ HT1.out.rs).mono ?_; clear B2; rintro ev w2 ⟨rfl, hR2, hK2⟩; have HT2 : Hid _ := HT1.out.step hK2 hR2 l2; clear hR2 hK2) | (go_at_call 37; refine (B3 _ HT2.out.rs).mono ?_; clear B3; rintro ev w3 ⟨rfl, hR3, hK3⟩; have HT3 : Hid _ := HT2.out.step hK3 hR3 l3; have c5 := hR3.c5; clear hR3 hK3) | (at_make; refine wpList_make_full _ rfl _ _ 70 rfl (w.heap.size + 2) 3 i3 (.int .i64 0) 1 Tryd.underlying70 hi hz0 hz1 _ _ _ _ 19 rfl rfl ?k1 ?k2 ?k3 ?k4 ?k5 ?_))
      case k1 => rfl
      case k2 => rfl
      case k3 => rw [hz2]; omega
      case k4 => unfold maxLen; omega
      case k5 => have := HT3.out.sz; simp; omega
      intro w4 hown hgrow
      have hz3 := HT3.out.sz
      obtain ⟨g, HGG⟩ : ∃ g, Hid (g = w3.heap.size + 1) := ⟨_, rfl⟩
      have HG4 : Hid (w4.heap[g]? = some (.cells (arr (List.replicate 19 0)).toArray 3 (0, 0))) := by show _ = _; rw [HGG.out]; exact made_row hown
      obtain ⟨o, HOO⟩ : ∃ o, Hid (o = w3.heap.size) := ⟨_, rfl⟩
      have HB4 : Hid (Below (w.heap.size + 2) w3 w4) := ((Below.refl _ _).alloc hz3 _).grown hgrow (by simp; omega) (fun k h => by cases h)
      have HO4 : Hid (w4.heap[o]? = some (.cells (arr third).toArray 3 (0, 0))) := by
        show _ = _
        rw [hgrow.block o (by rw [HOO.out]; simp) (by simp), HOO.out]
        exact heap_alloc_new _ _
      have HT4 : Hid (TI w w4 E v far (p + 5 + 5 + 4) 0) := HT3.out.own HB4.out
      have ho2 : w.heap.size + 2 ≤ o := by rw [HOO.out]; exact hz3
      have ho4 : o < w4.heap.size := by
        rcases Nat.lt_or_ge o w4.heap.size with h | h
        · exact h
        · have := HO4.out; rw [Array.getElem?_eq_none h] at this; cases this
      clear hown hgrow c5
      have e1 : decide ((286 : Int) < (n : Int)) = false := decide_eq_false (by omega)
      have e2 : decide ((30 : Int) < (m : Int)) = false := decide_eq_false (by omega)
      have hgo : g ≠ o := by rw [HGG.out, HOO.out]; omega
      have hg2 : w.heap.size + 2 ≤ g := by rw [HGG.out]; omega
      have hg4 : g < w4.heap.size := by
        rcases Nat.lt_or_ge g w4.heap.size with h | h
        · exact h
        · have := HG4.out; rw [Array.getElem?_eq_none h] at this; cases this
      go_wp2_with fail
      simp only [e1, e2, Bool.or_false]
      rw [← HGG.out, ← HOO.out]
      clear e1 e2 HT0 HT1 HT2 HT3 HB4 hz3
      obtain ⟨P, HPP⟩ : ∃ P, Hid (P = p + 5 + 5 + 4) := ⟨_, rfl⟩
      rw [← HPP.out] at HR HT4 l3
      have hsl := HT4.out.sl
      go_loopg [10] k (fun kk i wr => ∃ (j q : Nat) (er : Int) (T : List Nat), j ≤ k ∧ i = .int .i64 j ∧ kk = k - j ∧ T.length = 19 ∧ Hid (∀ x ∈ T, x ≤ 7) ∧ Hid (TI w wr E v far q er) ∧ Hid (wr.heap[g]? = some (.cells (arr T).toArray 3 (0, 0))) ∧ Hid (wr.heap[o]? = some (.cells (arr third).toArray 3 (0, 0))) ∧ g < wr.heap.size ∧ o < wr.heap.size ∧ Hid (er = 0 ∧ q = P + 3 * j ∧ T = thTo E.zs P j ∨ er ≠ 0 ∧ 8 * E.zs.length < P + 3 * k))
      case atStart => exact ⟨0, P, 0, List.replicate 19 0, by omega, rfl, by omega, by simp, fun x hx => by have := List.eq_of_mem_replicate hx; omega, HT4.out, HG4.out, HO4.out, hg4, ho4, .inl ⟨rfl, rfl, rfl⟩⟩
      case round =>
        clear HT4 HG4 HO4 hg4 ho4
        obtain ⟨j, q, er, T, hj, rfl, hkk, hTl, H7, HT, HG, HO, hg4, ho4, HC⟩ := hrel
        by_cases hjk : j < k
        · have hj19 : (j : Int) < 19 := by omega
          have ct := row_cell HO.out j (by show j < 19; omega)
          have htl := third_lt j (by omega)
          obtain ⟨t, HTT⟩ : ∃ t, Hid (t = third.getD j 0) := ⟨_, rfl⟩
          rw [← HTT.out] at ct htl
          have htZ : (t : Int) < 19 := by omega
          obtain ⟨x, HX⟩ : ∃ x, Hid (x = bitsOf E.zs q 3 er) := ⟨_, rfl⟩
          have B1 := fun w h => bits_any E q 3 v far er w hz hl (by omega) h HT.out.pp
          have lx : x.2.1 ≤ 8 * E.zs.length := by rw [HX.out]; exact bitsOf_le _ _ _ _
          have nx : x.1 < 8 := by rw [HX.out]; exact bitsOf_lt _ _ 3 _
          rw [← HX.out] at B1
          have hgS : g ≠ E.S := by omega
          have hoS : o ≠ E.S := by omega
          have hog : o ≠ g := Ne.symm hgo
          have HB1 : Hid _ := B1
          have HEX : Hid (x.2.2 = 0 ∨ x.2.2 = 10) := by show _ ∨ _; rw [HX.out]; exact bitsOf_ee _ _ _ _ HT.out.ee
          clear B1
          go_wp2
          go_region_held3 (fun w' => w'.cell? ⟨o, j, none⟩ = some (.int .i64 t)) (first | go_keep | (rw [World.cell?_setCell_other _ _ _ _ (by intro e; simp only [Addr.mk.injEq] at e; exact hgo e.1)]; assumption)) (first | (go_at_call 37; refine (HB1.out _ ?_).mono ?_; (first | exact HT.out.rs | exact HT.out.rs.drewN _ | exact HT.out.drew.rs); rintro e w5 ⟨rfl, r5, k5⟩; have k5' : Kept E.S (.bool true) (.bool true) wr w5 := (by first | exact k5 | exact (Kept.refl _ _ _).drew.trans k5); have d6 : w5.cell? ⟨o, j, none⟩ = some (.int .i64 t) := (k5'.cell (p := ⟨o, j, none⟩) ho4 hoS (by simp [Value.ownBlock])).trans ct; have HG5 : Hid (w5.heap[g]? = some (.cells (arr T).toArray 3 (0, 0))) := (k5'.all _ hg4 hgS).trans HG.out; have HO5 : Hid (w5.heap[o]? = some (.cells (arr third).toArray 3 (0, 0))) := (k5'.all _ ho4 hoS).trans HO.out; have HT5 : Hid (TI w w5 E v far x.2.1 x.2.2) := HT.out.step k5' r5 lx HEX.out; have HZ5 : Hid (wr.heap.size ≤ w5.heap.size) := k5'.size; have e3 := row_cell HG5.out t (by rw [hTl]; exact htl); have f3 := frozen_of_row w5 g t _ 3 HG5.out; clear r5 k5 k5'))
          all_goals
            go_wp2
            go_roundg (k - (j + 1))
            case measure => omega
            case rel =>
              have hz5 := HZ5.out
              refine ⟨j + 1, x.2.1, x.2.2, T.set t x.1, by omega, by go_num, rfl, by rw [List.length_set]; exact hTl, ?_, HT5.out.own ((Below.refl _ _).setCell (by exact hg2) _), ?_, (Below.heap_setCell _ _ _ _ hog).trans HO5.out, by simp [World.setCell]; omega, by simp [World.setCell]; omega, ?_⟩
              · intro y hy
                rcases List.mem_or_eq_of_mem_set hy with h | h
                · exact H7.out y h
                · omega
              · show _ = _
                rw [heap_setCell_same w5 _ _ _ _ _ HG5.out, ← arr_set]
              · rcases HC.out with ⟨he, hq, hT⟩ | ⟨he, hs⟩
                · have hx := HX.out
                  unfold bitsOf at hx
                  by_cases c : q + 3 ≤ 8 * E.zs.length
                  · rw [if_pos c] at hx
                    refine .inl ⟨by rw [hx]; exact he, by rw [hx]; show q + 3 = _; omega, ?_⟩
                    rw [hx, hT, thTo, ← HTT.out, hq]
                  · rw [if_neg c] at hx
                    refine .inr ⟨?_, by omega⟩
                    rw [hx]; show first er 10 ≠ 0; unfold first; rw [if_pos he]; omega
                · refine .inr ⟨?_, hs⟩
                  rw [HX.out, bitsOf_err _ _ _ _ he]; exact he
        · obtain rfl : j = k := by omega
          have HZ0 : Hid (((w.alloc (.cells #[.slice none 0 0, .slice none 0 0] 72)).alloc (.cells #[.slice none 0 0, .slice none 0 0] 72)).heap.size = w.heap.size + 2) := by show _ = _; simp
          obtain ⟨w0, HW0⟩ : ∃ w0, Hid (w0 = (w.alloc (.cells #[.slice none 0 0, .slice none 0 0] 72)).alloc (.cells #[.slice none 0 0, .slice none 0 0] 72)) := ⟨_, rfl⟩
          rw [← HW0.out] at HZ0
          have t15 : ∀ i, T.getD i 0 ≤ 15 := fun i => Nat.le_trans (getD_le H7.out i) (by omega)
          go_wp2_with fail
          refine (code_new g 0 19 19 T false false w0 wr hTl (by omega) (by omega) t15 (fun i hi => by rw [Nat.zero_add]; exact row_cell HG.out i hi) hg4 (by rw [HZ0.out]; exact hg2)).mono ?_
          rintro ev w5 ⟨C, rfl, hb5, hn5⟩
          have HB5 : Hid _ := hb5
          have HN5 : Hid _ := hn5
          rw [codeQ_whole]
          clear hb5 hn5
          obtain ⟨b, HBB⟩ : ∃ b, Hid (b = w5.heap.size) := ⟨_, rfl⟩
          have HB6 : Hid (Below wr.heap.size wr (w5.alloc (.cells #[.slice C.ax 19 C.cx, .slice C.ay 19 C.cy] 72))) := HB5.out.alloc HB5.out.size _
          have HN6 := hid' (HN5.out.later ((Below.refl _ _).alloc (Nat.le_refl _) (.cells #[.slice C.ax 19 C.cx, .slice C.ay 19 C.cy] 72)))
          have HX6 : Hid ((w5.alloc (.cells #[.slice C.ax 19 C.cx, .slice C.ay 19 C.cy] 72)).heap[w5.heap.size]? = some (.cells #[.slice C.ax 19 C.cx, .slice C.ay 19 C.cy] 72)) := heap_alloc_new _ _
          have HXS : Hid (w5.heap.size < (w5.alloc (.cells #[.slice C.ax 19 C.cx, .slice C.ay 19 C.cy] 72)).heap.size) := by show _ < _; simp
          obtain ⟨w6, HW6⟩ : ∃ w6, Hid (w6 = w5.alloc (.cells #[.slice C.ax 19 C.cx, .slice C.ay 19 C.cy] 72)) := ⟨_, rfl⟩
          have HT6 : Hid (TI w w6 E v far q er) := by rw [HW6.out]; exact HT.out.below HB6.out
          have c5 : (w5.alloc (.cells #[.slice C.ax 19 C.cx, .slice C.ay 19 C.cy] 72)).cell? ⟨E.S, 5, none⟩ = some (.int .i64 er) := by rw [← HW6.out]; exact HT6.out.rs.c5
          by_cases hgood : er = 0 ∧ wholeB (cntOf T) = true
          · obtain ⟨rfl, hwh⟩ := hgood
            obtain ⟨hq, hT⟩ : q = P + 3 * j ∧ T = thTo E.zs P j := by
              rcases HC.out with ⟨_, h1, h2⟩ | ⟨h1, _⟩
              · exact ⟨h1, h2⟩
              · exact absurd rfl h1
            have hR := HR.out
            have hpp := HT.out.pp
            rw [← hT, ← hq, if_neg (by omega), if_neg (by rw [hwh]; simp)] at hR
            have HR2 : Hid _ := hR
            have HTT : Hid _ := hT
            clear hR hT HR HC
            obtain ⟨H1, HH1⟩ : ∃ H1, Hid (H1 = w6.heap.size) := ⟨_, rfl⟩
            have HJ6 : Hid (TJ w w6 E v far q 0 w0 C T b H1) := by
              have e1 := HN6.out.l1
              have e2 := HN6.out.l2
              have e3 := HXS.out
              rw [← HW6.out] at e1 e2 e3
              refine ⟨HT6.out, by rw [HW6.out]; exact HN6.out, by rw [HW6.out, HBB.out]; exact HX6.out, by rw [HBB.out, HH1.out]; exact e3, by rw [HH1.out]; exact e1.2, by rw [HH1.out]; exact e2.2, Nat.le_of_eq HH1.out, HZ0.out, ?_⟩
              have := HT.out.sz
              have := HB5.out.size
              rw [HBB.out]; omega
            rw [hwh]
            go_wp2_with fail
            rw [← HBB.out, ← HW6.out]
            clear HB5 HN5 HB6 HN6 HX6 HXS HT6 c5 HT HG HO hg4 ho4
            obtain ⟨sz, HSZ⟩ : ∃ sz, Hid (sz = n + m) := ⟨_, rfl⟩
            have hsz : (n : Int) + (m : Int) = (sz : Int) := by rw [HSZ.out]; omega
            have hszb : sz ≤ 316 := by rw [HSZ.out]; omega
            rw [← HSZ.out] at HR2
            obtain ⟨r, HR0⟩ : ∃ r, Hid (rowF (dec (cntOf T) (srtOf T) E.zs) E.zs sz sz q [] = r) := ⟨_, rfl⟩
            rw [HR0.out] at HR2
            have hs19 : ∀ i, (srtOf T).getD i 0 < 19 := fun i => by rw [← hTl]; exact srtOf_lt T (by omega) i
            go_loopg [13] sz (fun kk vr wr => ∃ (f p' m' cp : Nat) (a : Option Addr) (row : List Nat), vr = .slice a m' cp ∧ Hid (row.length = m') ∧ kk = sz - m' ∧ m' ≤ sz ∧ sz - m' ≤ f ∧ Hid (∀ z ∈ row, z ≤ 15) ∧ Hid (rowF (dec (cntOf T) (srtOf T) E.zs) E.zs sz f p' row = r) ∧ Hid (TJ w wr E v far p' 0 w0 C T b H1) ∧ Hid (wr.ownsRow H1 3 1 (.slice a m' cp) m' (arr row)))
            case atStart => exact ⟨sz, q, 0, 0, none, [], rfl, rfl, by omega, by omega, by omega, by simp [Hid], HR0, HJ6.out, World.ownsRow_nil _ _ _ _⟩
            case round =>
              clear HJ6
              obtain ⟨f, p', m', cp, a, row, rfl, Hm, hkk', hms, hf, H15, HF, HJ, HOR⟩ := hrel
              have E0 := HF.out
              have hSo : some E.S ≠ (Value.slice a m' cp).ownBlock := fun e => by
                have h1 := (HOR.out.lt _ e.symm).1
                have h2 := HJ.out.bl
                have h3 := HJ.out.b0
                omega
              by_cases hlt : m' < sz
              · obtain ⟨f, rfl⟩ : ∃ f', f = f' + 1 := ⟨f - 1, by omega⟩
                rw [rowF, if_pos (by rw [Hm.out]; exact hlt)] at E0
                have hltZ : (m' : Int) < sz := by omega
                have hCl : C.lens = T := HJ.out.nc.le
                have x0 := cell_of (cs := [.slice C.ax 19 C.cx, .slice C.ay 19 C.cy]) (i := 0) HJ.out.bx rfl
                have x1 := cell_of (cs := [.slice C.ax 19 C.cx, .slice C.ay 19 C.cy]) (i := 1) HJ.out.bx rfl
                have S1 := symbol_dec E p' far v C wr hz hl HJ.out.ti.pp HJ.out.ti.rs (HJ.out.nc.rc E.S (by rw [HJ.out.h0]; omega) (by omega)) (by rw [hCl]; exact HJ.out.nc.bt) (by rw [hCl]; exact t15)
                rw [hCl, hTl] at S1
                cases hd : dec (cntOf T) (srtOf T) E.zs p' with
                | none =>
                  rw [hd] at S1 E0
                  simp only [] at S1 E0
                  have HRN : Hid (R = none) := by show _ = _; rw [HR2.out, ← E0]
                  clear E0 hd
                  go_wp2_with (go_at_call 67; refine S1.mono ?_; clear S1; rintro ev w7 ⟨hK7, rfl, p4, hp4, hR7⟩; have c5 := hR7.c5; have HJ7 : Hid _ := HJ.out.step hK7 hR7 hp4; obtain ⟨r0, r1, r2, r3, f0, f1, f2, f3⟩ := HJ7.out.ti.cells; clear hK7 hR7)
                  exact told_no HJ7.out.ti HRN.out rfl rfl rfl rfl
                | some yp =>
                  obtain ⟨y, p1⟩ := yp
                  have hlt1 := dec_lt hd
                  have hy19 := dec_lt19 hd hs19
                  rw [hd] at S1 E0
                  simp only [] at S1 E0
                  unfold runOf at E0
                  rw [Hm.out] at E0
                  clear hd
                  by_cases hy16 : y = 16
                  · rw [if_pos hy16] at E0
                    subst hy16
                    by_cases hm0 : m' = 0
                    · rw [if_pos hm0] at E0
                      simp only [] at E0
                      have HRN : Hid (R = none) := by show _ = _; rw [HR2.out, ← E0]
                      clear E0
                      subst hm0
                      go_wp2_with ((go_at_call 67; refine S1.mono ?_; clear S1; rintro ev w7 ⟨hK7, rfl, hR7⟩; have c5 := hR7.c5; have HJ7 : Hid _ := HJ.out.step hK7 hR7 hlt1.2; have HOR7 : Hid _ := hK7.owns HOR.out hSo; obtain ⟨r0, r1, r2, r3, f0, f1, f2, f3⟩ := HJ7.out.ti.cells; clear hK7 hR7))
                      exact told_no HJ7.out.ti HRN.out rfl rfl rfl rfl
                    · rw [if_neg hm0] at E0
                      have hm0Z : ¬ ((m' : Int) = 0) := by omega
                      obtain ⟨gr, cap', hv, hgr1, hgr2⟩ := HOR.out.form (by omega)
                      simp only [Value.slice.injEq] at hv
                      obtain ⟨rfl, _, rfl⟩ := hv
                      have cw := HOR.out.cellAt (m' - 1) (by omega)
                      rw [arr_at row (m' - 1) (by rw [Hm.out]; omega)] at cw
                      obtain ⟨x, HX⟩ : ∃ x, Hid (x = row.getD (m' - 1) 0) := ⟨_, rfl⟩
                      rw [← HX.out] at cw E0
                      have hx15 : x ≤ 15 := by rw [HX.out]; exact getD_le H15.out _
                      obtain ⟨q1, HQ1⟩ : ∃ q1, Hid (q1 = m' - 1) := ⟨_, rfl⟩
                      rw [← HQ1.out] at cw
                      have hq1 : (m' : Int) - 1 = (q1 : Int) := by rw [HQ1.out]; omega
                      have hq1l : (q1 : Int) < m' := by omega
                      have hgrS : gr ≠ E.S := by have h2 := HJ.out.bl; have h3 := HJ.out.b0; omega
                      by_cases hb : 8 * E.zs.length < p1 + 2
                      · rw [if_pos hb] at E0
                        simp only [] at E0
                        have HRN : Hid (R = none) := by show _ = _; rw [HR2.out, ← E0]
                        clear E0
                        go_wp2_with (first | (go_at_call 67; refine S1.mono ?_; clear S1; rintro ev w7 ⟨hK7, rfl, hR7⟩; have c5 := hR7.c5; have HJ7 : Hid _ := HJ.out.step hK7 hR7 hlt1.2; have HOR7 : Hid _ := hK7.owns HOR.out hSo; have d1 := (hK7.cell (p := ⟨gr, q1, none⟩) hgr2 hgrS (by simp [Value.ownBlock])).trans cw; clear hK7 hR7) | (go_at_call 37; refine (bits_bad E p1 2 v far 0 _ hz hl (by omega) HJ7.out.ti.rs hlt1.2 hb).mono ?_; rintro ev w8 ⟨rfl, hR8, hK8⟩; have z5 : w8.cell? ⟨E.S, 5, none⟩ = some (.int .i64 10) := hR8.c5; have HJ8 : Hid _ := HJ7.out.step hK8 hR8 (Nat.le_refl _); obtain ⟨r0, r1, r2, r3, f0, f1, f2, f3⟩ := HJ8.out.ti.cells; clear hK8 hR8))
                        exact told_no HJ8.out.ti HRN.out rfl rfl rfl rfl
                      · rw [if_neg hb] at E0
                        simp only [] at E0
                        obtain ⟨u, HU⟩ : ∃ u, Hid (u = getB E.zs p1 2) := ⟨_, rfl⟩
                        have hu := getB_lt E.zs p1 2
                        obtain ⟨t, HTI⟩ : ∃ t, Hid (t = 3 + u) := ⟨_, rfl⟩
                        obtain ⟨Q, HQ⟩ : ∃ Q, Hid (Q = p1 + 2) := ⟨_, rfl⟩
                        have B1 := fun w h => bits_ok E p1 2 v far 0 w hz hl (by omega) h (by omega)
                        rw [← HU.out] at hu E0 B1
                        rw [← HTI.out] at E0
                        rw [← HQ.out] at E0 B1
                        have htz : (3 : Int) + (u : Int) = (t : Int) := by rw [HTI.out]; omega
                        have htp : 1 ≤ t ∧ t ≤ 138 := by rw [HTI.out]; omega
                        have hQl : Q ≤ 8 * E.zs.length := by rw [HQ.out]; omega
                        by_cases hts : sz - m' < t
                        · rw [if_pos hts] at E0
                          have HRN : Hid (R = none) := by show _ = _; rw [HR2.out, ← E0]
                          have htsZ : (sz : Int) < (m' : Int) + (t : Int) := by omega
                          clear E0
                          go_wp2_with (first | (go_at_call 67; refine S1.mono ?_; clear S1; rintro ev w7 ⟨hK7, rfl, hR7⟩; have c5 := hR7.c5; have HJ7 : Hid _ := HJ.out.step hK7 hR7 hlt1.2; have HOR7 : Hid _ := hK7.owns HOR.out hSo; have d1 := (hK7.cell (p := ⟨gr, q1, none⟩) hgr2 hgrS (by simp [Value.ownBlock])).trans cw; clear hK7 hR7) | (go_at_call 37; refine (B1 _ HJ7.out.ti.rs).mono ?_; clear B1; rintro ev w8 ⟨rfl, hR8, hK8⟩; have z5 := hR8.c5; have HJ8 : Hid _ := HJ7.out.step hK8 hR8 hQl; have HOR8 : Hid _ := hK8.owns HOR7.out hSo; obtain ⟨r0, r1, r2, r3, f0, f1, f2, f3⟩ := HJ8.out.ti.cells; clear hK8 hR8))
                          exact told_no HJ8.out.ti HRN.out rfl rfl rfl rfl
                        · rw [if_neg hts] at E0
                          have HE0 : Hid (_ = r) := E0
                          have htsZ : ¬ (sz : Int) < (m' : Int) + (t : Int) := by omega
                          clear E0
                          go_wp2_with (first | (go_at_call 67; refine S1.mono ?_; clear S1; rintro ev w7 ⟨hK7, rfl, hR7⟩; have c5 := hR7.c5; have HJ7 : Hid _ := HJ.out.step hK7 hR7 hlt1.2; have HOR7 : Hid _ := hK7.owns HOR.out hSo; have d1 := (hK7.cell (p := ⟨gr, q1, none⟩) hgr2 hgrS (by simp [Value.ownBlock])).trans cw; clear hK7 hR7) | (go_at_call 37; refine (B1 _ HJ7.out.ti.rs).mono ?_; clear B1; rintro ev w8 ⟨rfl, hR8, hK8⟩; have z5 := hR8.c5; have HJ8 : Hid _ := HJ7.out.step hK8 hR8 hQl; have HOR8 : Hid _ := hK8.owns HOR7.out hSo; obtain ⟨r0, r1, r2, r3, f0, f1, f2, f3⟩ := HJ8.out.ti.cells; clear hK8 hR8))
                          have e1 : decide ((sz : Int) < (m' : Int) + (t : Int)) = false := decide_eq_false (by omega)
                          try simp only [e1]
                          clear e1 c5 r0 r1 r2 r3 f0 f1 f2 f3
                          go_loopg [13, 17] t (fun kk vr i wq => ∃ (i0 cp' : Nat) (a' : Option Addr), i0 ≤ t ∧ vr = .slice a' (m' + i0 : Nat) cp' ∧ i = .int .i64 i0 ∧ kk = t - i0 ∧ Hid (TJ w wq E v far Q 0 w0 C T b H1) ∧ Hid (wq.ownsRow H1 3 1 (.slice a' (m' + i0 : Nat) cp') (m' + i0) (arr (row ++ List.replicate i0 x))))
                          case atStart => exact ⟨0, _, _, by omega, rfl, rfl, by omega, HJ8.out, by show World.ownsRow _ _ _ _ _ _ _; rw [List.replicate_zero, List.append_nil]; exact HOR8.out⟩
                          case round =>
                            clear HJ8 HOR8 HJ HOR
                            obtain ⟨i0, cp', a', hi0, rfl, rfl, hk0, HJ, HOR⟩ := hrel
                            have hh := HJ.out.hh
                            by_cases hit : i0 < t
                            · go_wp2_with (at_builtin; refine wpList_append_lies _ rfl _ _ _ rfl H1 3 i3 (.int .i64 0) 1 8 Tryd.underlying70 hi hz0 hz1 hz2 rfl (by omega) (.slice a' (m' + i0 : Nat) cp') (m' + i0) (arr (row ++ List.replicate i0 x)) rfl (by exact HOR.out.alloc _) ⟨wr.heap.size, 0, none⟩ 1 1 [.int .i64 (x : Nat)] rfl rfl (by intro i u hu; match i, hu with | 0, hu => simp at hu; subst hu; exact (World.cell?_alloc_at (w := wr) _ _ _ 0 rfl).trans rfl) (by intro u hu; simp at hu; subst hu; rfl) (by omega) (by unfold maxLen; omega) (by omega) (by simp; omega) (wr.heap.size + 1) (by simp) ?_; intro g2 cp2 w9 hown1 hgrow hat hlt2; have HG1 : Hid (Below H1 wr w9) := grown_below (World.grownBy_alloc wr _ none) hgrow hh (fun k e => (HOR.out.lt k e).1); have HO1 : Hid _ := hown1; clear hown1 hgrow hat)
                              go_roundg (t - (i0 + 1))
                              case measure => omega
                              case rel => exact ⟨i0 + 1, cp2, some ⟨g2, 0, none⟩, by omega, rfl, by go_num, rfl, HJ.out.own HG1.out, by show World.ownsRow _ _ _ _ _ _ _; rw [show arr (row ++ List.replicate (i0 + 1) x) = arr (row ++ List.replicate i0 x) ++ [.int .i64 (x : Nat)] by rw [List.replicate_succ', ← List.append_assoc]; simp [arr]]; exact HO1.out⟩
                            · obtain rfl : i0 = t := by omega
                              go_wp2
                              go_roundg (sz - (m' + i0))
                              case measure => omega
                              case rel => exact ⟨f, Q, m' + i0, cp', a', row ++ List.replicate i0 x, rfl, by show _ = _; rw [List.length_append, List.length_replicate, Hm.out], rfl, by omega, by omega, fun z hz => by (rcases List.mem_append.1 hz with hz | hz; exact H15.out z hz; have := List.eq_of_mem_replicate hz; omega), HE0.out, HJ.out, HOR.out⟩
                  · rw [if_neg hy16] at E0
                    have hy16Z : ¬ ((y : Int) = 16) := by omega
                    by_cases hy17 : y = 17
                    · rw [if_pos hy17] at E0
                      subst hy17
                      by_cases hb : 8 * E.zs.length < p1 + 3
                      · rw [if_pos hb] at E0
                        simp only [] at E0
                        have HRN : Hid (R = none) := by show _ = _; rw [HR2.out, ← E0]
                        clear E0
                        go_wp2_with (first | (go_at_call 67; refine S1.mono ?_; clear S1; rintro ev w7 ⟨hK7, rfl, hR7⟩; have c5 := hR7.c5; have HJ7 : Hid _ := HJ.out.step hK7 hR7 hlt1.2; have HOR7 : Hid _ := hK7.owns HOR.out hSo; clear hK7 hR7) | (go_at_call 37; refine (bits_bad E p1 3 v far 0 _ hz hl (by omega) HJ7.out.ti.rs hlt1.2 hb).mono ?_; rintro ev w8 ⟨rfl, hR8, hK8⟩; have z5 : w8.cell? ⟨E.S, 5, none⟩ = some (.int .i64 10) := hR8.c5; have HJ8 : Hid _ := HJ7.out.step hK8 hR8 (Nat.le_refl _); obtain ⟨r0, r1, r2, r3, f0, f1, f2, f3⟩ := HJ8.out.ti.cells; clear hK8 hR8))
                        exact told_no HJ8.out.ti HRN.out rfl rfl rfl rfl
                      · rw [if_neg hb] at E0
                        simp only [] at E0
                        obtain ⟨u, HU⟩ : ∃ u, Hid (u = getB E.zs p1 3) := ⟨_, rfl⟩
                        have hu := getB_lt E.zs p1 3
                        obtain ⟨t, HTI⟩ : ∃ t, Hid (t = 3 + u) := ⟨_, rfl⟩
                        obtain ⟨Q, HQ⟩ : ∃ Q, Hid (Q = p1 + 3) := ⟨_, rfl⟩
                        have B1 := fun w h => bits_ok E p1 3 v far 0 w hz hl (by omega) h (by omega)
                        rw [← HU.out] at hu E0 B1
                        rw [← HTI.out] at E0
                        rw [← HQ.out] at E0 B1
                        have htz : (3 : Int) + (u : Int) = (t : Int) := by rw [HTI.out]; omega
                        have htp : 1 ≤ t ∧ t ≤ 138 := by rw [HTI.out]; omega
                        have hQl : Q ≤ 8 * E.zs.length := by rw [HQ.out]; omega
                        by_cases hts : sz - m' < t
                        · rw [if_pos hts] at E0
                          have HRN : Hid (R = none) := by show _ = _; rw [HR2.out, ← E0]
                          have htsZ : (sz : Int) < (m' : Int) + (t : Int) := by omega
                          clear E0
                          go_wp2_with (first | (go_at_call 67; refine S1.mono ?_; clear S1; rintro ev w7 ⟨hK7, rfl, hR7⟩; have c5 := hR7.c5; have HJ7 : Hid _ := HJ.out.step hK7 hR7 hlt1.2; have HOR7 : Hid _ := hK7.owns HOR.out hSo; clear hK7 hR7) | (go_at_call 37; refine (B1 _ HJ7.out.ti.rs).mono ?_; clear B1; rintro ev w8 ⟨rfl, hR8, hK8⟩; have z5 := hR8.c5; have HJ8 : Hid _ := HJ7.out.step hK8 hR8 hQl; have HOR8 : Hid _ := hK8.owns HOR7.out hSo; obtain ⟨r0, r1, r2, r3, f0, f1, f2, f3⟩ := HJ8.out.ti.cells; clear hK8 hR8))
                          exact told_no HJ8.out.ti HRN.out rfl rfl rfl rfl
                        · rw [if_neg hts] at E0
                          have HE0 : Hid (_ = r) := E0
                          have htsZ : ¬ (sz : Int) < (m' : Int) + (t : Int) := by omega
                          clear E0
                          go_wp2_with (first | (go_at_call 67; refine S1.mono ?_; clear S1; rintro ev w7 ⟨hK7, rfl, hR7⟩; have c5 := hR7.c5; have HJ7 : Hid _ := HJ.out.step hK7 hR7 hlt1.2; have HOR7 : Hid _ := hK7.owns HOR.out hSo; clear hK7 hR7) | (go_at_call 37; refine (B1 _ HJ7.out.ti.rs).mono ?_; clear B1; rintro ev w8 ⟨rfl, hR8, hK8⟩; have z5 := hR8.c5; have HJ8 : Hid _ := HJ7.out.step hK8 hR8 hQl; have HOR8 : Hid _ := hK8.owns HOR7.out hSo; obtain ⟨r0, r1, r2, r3, f0, f1, f2, f3⟩ := HJ8.out.ti.cells; clear hK8 hR8))
                          have e1 : decide ((sz : Int) < (m' : Int) + (t : Int)) = false := decide_eq_false (by omega)
                          try simp only [e1]
                          clear e1 c5 r0 r1 r2 r3 f0 f1 f2 f3
                          go_loopg [13, 17] t (fun kk vr i wq => ∃ (i0 cp' : Nat) (a' : Option Addr), i0 ≤ t ∧ vr = .slice a' (m' + i0 : Nat) cp' ∧ i = .int .i64 i0 ∧ kk = t - i0 ∧ Hid (TJ w wq E v far Q 0 w0 C T b H1) ∧ Hid (wq.ownsRow H1 3 1 (.slice a' (m' + i0 : Nat) cp') (m' + i0) (arr (row ++ List.replicate i0 0))))
                          case atStart => exact ⟨0, _, _, by omega, rfl, rfl, by omega, HJ8.out, by show World.ownsRow _ _ _ _ _ _ _; rw [List.replicate_zero, List.append_nil]; exact HOR8.out⟩
                          case round =>
                            clear HJ8 HOR8 HJ HOR
                            obtain ⟨i0, cp', a', hi0, rfl, rfl, hk0, HJ, HOR⟩ := hrel
                            have hh := HJ.out.hh
                            by_cases hit : i0 < t
                            · go_wp2_with (at_builtin; refine wpList_append_lies _ rfl _ _ _ rfl H1 3 i3 (.int .i64 0) 1 8 Tryd.underlying70 hi hz0 hz1 hz2 rfl (by omega) (.slice a' (m' + i0 : Nat) cp') (m' + i0) (arr (row ++ List.replicate i0 0)) rfl (by exact HOR.out.alloc _) ⟨wr.heap.size, 0, none⟩ 1 1 [.int .i64 0] rfl rfl (by intro i u hu; match i, hu with | 0, hu => simp at hu; subst hu; exact (World.cell?_alloc_at (w := wr) _ _ _ 0 rfl).trans rfl) (by intro u hu; simp at hu; subst hu; rfl) (by omega) (by unfold maxLen; omega) (by omega) (by simp; omega) (wr.heap.size + 1) (by simp) ?_; intro g2 cp2 w9 hown1 hgrow hat hlt2; have HG1 : Hid (Below H1 wr w9) := grown_below (World.grownBy_alloc wr _ none) hgrow hh (fun k e => (HOR.out.lt k e).1); have HO1 : Hid _ := hown1; clear hown1 hgrow hat)
                              go_roundg (t - (i0 + 1))
                              case measure => omega
                              case rel => exact ⟨i0 + 1, cp2, some ⟨g2, 0, none⟩, by omega, rfl, by go_num, rfl, HJ.out.own HG1.out, by show World.ownsRow _ _ _ _ _ _ _; rw [show arr (row ++ List.replicate (i0 + 1) 0) = arr (row ++ List.replicate i0 0) ++ [.int .i64 0] by rw [List.replicate_succ', ← List.append_assoc]; simp [arr]]; exact HO1.out⟩
                            · obtain rfl : i0 = t := by omega
                              go_wp2
                              go_roundg (sz - (m' + i0))
                              case measure => omega
                              case rel => exact ⟨f, Q, m' + i0, cp', a', row ++ List.replicate i0 0, rfl, by show _ = _; rw [List.length_append, List.length_replicate, Hm.out], rfl, by omega, by omega, fun z hz => by (rcases List.mem_append.1 hz with hz | hz; exact H15.out z hz; have := List.eq_of_mem_replicate hz; omega), HE0.out, HJ.out, HOR.out⟩
                    · rw [if_neg hy17] at E0
                      have hy17Z : ¬ ((y : Int) = 17) := by omega
                      by_cases hy18 : y = 18
                      · rw [if_pos hy18] at E0
                        subst hy18
                        by_cases hb : 8 * E.zs.length < p1 + 7
                        · rw [if_pos hb] at E0
                          simp only [] at E0
                          have HRN : Hid (R = none) := by show _ = _; rw [HR2.out, ← E0]
                          clear E0
                          go_wp2_with (first | (go_at_call 67; refine S1.mono ?_; clear S1; rintro ev w7 ⟨hK7, rfl, hR7⟩; have c5 := hR7.c5; have HJ7 : Hid _ := HJ.out.step hK7 hR7 hlt1.2; have HOR7 : Hid _ := hK7.owns HOR.out hSo; clear hK7 hR7) | (go_at_call 37; refine (bits_bad E p1 7 v far 0 _ hz hl (by omega) HJ7.out.ti.rs hlt1.2 hb).mono ?_; rintro ev w8 ⟨rfl, hR8, hK8⟩; have z5 : w8.cell? ⟨E.S, 5, none⟩ = some (.int .i64 10) := hR8.c5; have HJ8 : Hid _ := HJ7.out.step hK8 hR8 (Nat.le_refl _); obtain ⟨r0, r1, r2, r3, f0, f1, f2, f3⟩ := HJ8.out.ti.cells; clear hK8 hR8))
                          exact told_no HJ8.out.ti HRN.out rfl rfl rfl rfl
                        · rw [if_neg hb] at E0
                          simp only [] at E0
                          obtain ⟨u, HU⟩ : ∃ u, Hid (u = getB E.zs p1 7) := ⟨_, rfl⟩
                          have hu := getB_lt E.zs p1 7
                          obtain ⟨t, HTI⟩ : ∃ t, Hid (t = 11 + u) := ⟨_, rfl⟩
                          obtain ⟨Q, HQ⟩ : ∃ Q, Hid (Q = p1 + 7) := ⟨_, rfl⟩
                          have B1 := fun w h => bits_ok E p1 7 v far 0 w hz hl (by omega) h (by omega)
                          rw [← HU.out] at hu E0 B1
                          rw [← HTI.out] at E0
                          rw [← HQ.out] at E0 B1
                          have htz : (11 : Int) + (u : Int) = (t : Int) := by rw [HTI.out]; omega
                          have htp : 1 ≤ t ∧ t ≤ 138 := by rw [HTI.out]; omega
                          have hQl : Q ≤ 8 * E.zs.length := by rw [HQ.out]; omega
                          by_cases hts : sz - m' < t
                          · rw [if_pos hts] at E0
                            have HRN : Hid (R = none) := by show _ = _; rw [HR2.out, ← E0]
                            have htsZ : (sz : Int) < (m' : Int) + (t : Int) := by omega
                            clear E0
                            go_wp2_with (first | (go_at_call 67; refine S1.mono ?_; clear S1; rintro ev w7 ⟨hK7, rfl, hR7⟩; have c5 := hR7.c5; have HJ7 : Hid _ := HJ.out.step hK7 hR7 hlt1.2; have HOR7 : Hid _ := hK7.owns HOR.out hSo; clear hK7 hR7) | (go_at_call 37; refine (B1 _ HJ7.out.ti.rs).mono ?_; clear B1; rintro ev w8 ⟨rfl, hR8, hK8⟩; have z5 := hR8.c5; have HJ8 : Hid _ := HJ7.out.step hK8 hR8 hQl; have HOR8 : Hid _ := hK8.owns HOR7.out hSo; obtain ⟨r0, r1, r2, r3, f0, f1, f2, f3⟩ := HJ8.out.ti.cells; clear hK8 hR8))
                            exact told_no HJ8.out.ti HRN.out rfl rfl rfl rfl
                          · rw [if_neg hts] at E0
                            have HE0 : Hid (_ = r) := E0
                            have htsZ : ¬ (sz : Int) < (m' : Int) + (t : Int) := by omega
                            clear E0
                            go_wp2_with (first | (go_at_call 67; refine S1.mono ?_; clear S1; rintro ev w7 ⟨hK7, rfl, hR7⟩; have c5 := hR7.c5; have HJ7 : Hid _ := HJ.out.step hK7 hR7 hlt1.2; have HOR7 : Hid _ := hK7.owns HOR.out hSo; clear hK7 hR7) | (go_at_call 37; refine (B1 _ HJ7.out.ti.rs).mono ?_; clear B1; rintro ev w8 ⟨rfl, hR8, hK8⟩; have z5 := hR8.c5; have HJ8 : Hid _ := HJ7.out.step hK8 hR8 hQl; have HOR8 : Hid _ := hK8.owns HOR7.out hSo; obtain ⟨r0, r1, r2, r3, f0, f1, f2, f3⟩ := HJ8.out.ti.cells; clear hK8 hR8))
                            have e1 : decide ((sz : Int) < (m' : Int) + (t : Int)) = false := decide_eq_false (by omega)
                            try simp only [e1]
                            clear e1 c5 r0 r1 r2 r3 f0 f1 f2 f3
                            go_loopg [13, 17] t (fun kk vr i wq => ∃ (i0 cp' : Nat) (a' : Option Addr), i0 ≤ t ∧ vr = .slice a' (m' + i0 : Nat) cp' ∧ i = .int .i64 i0 ∧ kk = t - i0 ∧ Hid (TJ w wq E v far Q 0 w0 C T b H1) ∧ Hid (wq.ownsRow H1 3 1 (.slice a' (m' + i0 : Nat) cp') (m' + i0) (arr (row ++ List.replicate i0 0))))
                            case atStart => exact ⟨0, _, _, by omega, rfl, rfl, by omega, HJ8.out, by show World.ownsRow _ _ _ _ _ _ _; rw [List.replicate_zero, List.append_nil]; exact HOR8.out⟩
                            case round =>
                              clear HJ8 HOR8 HJ HOR
                              obtain ⟨i0, cp', a', hi0, rfl, rfl, hk0, HJ, HOR⟩ := hrel
                              have hh := HJ.out.hh
                              by_cases hit : i0 < t
                              · go_wp2_with (at_builtin; refine wpList_append_lies _ rfl _ _ _ rfl H1 3 i3 (.int .i64 0) 1 8 Tryd.underlying70 hi hz0 hz1 hz2 rfl (by omega) (.slice a' (m' + i0 : Nat) cp') (m' + i0) (arr (row ++ List.replicate i0 0)) rfl (by exact HOR.out.alloc _) ⟨wr.heap.size, 0, none⟩ 1 1 [.int .i64 0] rfl rfl (by intro i u hu; match i, hu with | 0, hu => simp at hu; subst hu; exact (World.cell?_alloc_at (w := wr) _ _ _ 0 rfl).trans rfl) (by intro u hu; simp at hu; subst hu; rfl) (by omega) (by unfold maxLen; omega) (by omega) (by simp; omega) (wr.heap.size + 1) (by simp) ?_; intro g2 cp2 w9 hown1 hgrow hat hlt2; have HG1 : Hid (Below H1 wr w9) := grown_below (World.grownBy_alloc wr _ none) hgrow hh (fun k e => (HOR.out.lt k e).1); have HO1 : Hid _ := hown1; clear hown1 hgrow hat)
                                go_roundg (t - (i0 + 1))
                                case measure => omega
                                case rel => exact ⟨i0 + 1, cp2, some ⟨g2, 0, none⟩, by omega, rfl, by go_num, rfl, HJ.out.own HG1.out, by show World.ownsRow _ _ _ _ _ _ _; rw [show arr (row ++ List.replicate (i0 + 1) 0) = arr (row ++ List.replicate i0 0) ++ [.int .i64 0] by rw [List.replicate_succ', ← List.append_assoc]; simp [arr]]; exact HO1.out⟩
                              · obtain rfl : i0 = t := by omega
                                go_wp2
                                go_roundg (sz - (m' + i0))
                                case measure => omega
                                case rel => exact ⟨f, Q, m' + i0, cp', a', row ++ List.replicate i0 0, rfl, by show _ = _; rw [List.length_append, List.length_replicate, Hm.out], rfl, by omega, by omega, fun z hz => by (rcases List.mem_append.1 hz with hz | hz; exact H15.out z hz; have := List.eq_of_mem_replicate hz; omega), HE0.out, HJ.out, HOR.out⟩
                      · rw [if_neg hy18] at E0
                        have hy18Z : ¬ ((y : Int) = 18) := by omega
                        simp only [] at E0
                        have hy15 : y ≤ 15 := by omega
                        rw [if_neg (by omega)] at E0
                        have HE0 : Hid (_ = r) := E0
                        have htsZ : ¬ (sz : Int) < (m' : Int) + 1 := by omega
                        clear E0
                        go_wp2_with ((go_at_call 67; refine S1.mono ?_; clear S1; rintro ev w7 ⟨hK7, rfl, hR7⟩; have c5 := hR7.c5; have HJ7 : Hid _ := HJ.out.step hK7 hR7 hlt1.2; have HOR7 : Hid _ := hK7.owns HOR.out hSo; clear hK7 hR7))
                        have e1 : decide ((sz : Int) < (m' : Int) + 1) = false := decide_eq_false (by omega)
                        have e2 : decide ((sz : Int) ≤ (m' : Int)) = false := decide_eq_false (by omega)
                        have e3 : decide (sz ≤ m') = false := decide_eq_false (by omega)
                        have e4 : ((y : Int) == 16) = false := beq_false_of_ne (by omega)
                        have e5 : ((y : Int) == 17) = false := beq_false_of_ne (by omega)
                        have e6 : ((y : Int) == 18) = false := beq_false_of_ne (by omega)
                        try simp only [e1, e2, e3, e4, e5, e6]
                        clear e1 e2 e3 e4 e5 e6 c5
                        go_loopg [13, 17] 1 (fun kk vr i wq => ∃ (i0 cp' : Nat) (a' : Option Addr), i0 ≤ 1 ∧ vr = .slice a' (m' + i0 : Nat) cp' ∧ i = .int .i64 i0 ∧ kk = 1 - i0 ∧ Hid (TJ w wq E v far p1 0 w0 C T b H1) ∧ Hid (wq.ownsRow H1 3 1 (.slice a' (m' + i0 : Nat) cp') (m' + i0) (arr (row ++ List.replicate i0 y))))
                        case atStart => exact ⟨0, _, _, by omega, rfl, rfl, by omega, HJ7.out, by show World.ownsRow _ _ _ _ _ _ _; rw [List.replicate_zero, List.append_nil]; exact HOR7.out⟩
                        case round =>
                          clear HJ7 HOR7 HJ HOR
                          obtain ⟨i0, cp', a', hi0, rfl, rfl, hk0, HJ, HOR⟩ := hrel
                          have hh := HJ.out.hh
                          by_cases hit : i0 < 1
                          · have hitZ : (i0 : Int) < 1 := by omega
                            go_wp2_with (at_builtin; refine wpList_append_lies _ rfl _ _ _ rfl H1 3 i3 (.int .i64 0) 1 8 Tryd.underlying70 hi hz0 hz1 hz2 rfl (by omega) (.slice a' (m' + i0 : Nat) cp') (m' + i0) (arr (row ++ List.replicate i0 y)) rfl (by exact HOR.out.alloc _) ⟨wr.heap.size, 0, none⟩ 1 1 [.int .i64 (y : Nat)] rfl rfl (by intro i u hu; match i, hu with | 0, hu => simp at hu; subst hu; exact (World.cell?_alloc_at (w := wr) _ _ _ 0 rfl).trans rfl) (by intro u hu; simp at hu; subst hu; rfl) (by omega) (by unfold maxLen; omega) (by omega) (by simp; omega) (wr.heap.size + 1) (by simp) ?_; intro g2 cp2 w9 hown1 hgrow hat hlt2; have HG1 : Hid (Below H1 wr w9) := grown_below (World.grownBy_alloc wr _ none) hgrow hh (fun k e => (HOR.out.lt k e).1); have HO1 : Hid _ := hown1; clear hown1 hgrow hat)
                            go_roundg (1 - (i0 + 1))
                            case measure => omega
                            case rel => exact ⟨i0 + 1, cp2, some ⟨g2, 0, none⟩, by omega, rfl, by go_num, rfl, HJ.out.own HG1.out, by show World.ownsRow _ _ _ _ _ _ _; rw [show arr (row ++ List.replicate (i0 + 1) y) = arr (row ++ List.replicate i0 y) ++ [.int .i64 (y : Nat)] by rw [List.replicate_succ', ← List.append_assoc]; simp [arr]]; exact HO1.out⟩
                          · obtain rfl : i0 = 1 := by omega
                            go_wp2
                            go_roundg (sz - (m' + 1))
                            case measure => omega
                            case rel => exact ⟨f, p1, m' + 1, cp', a', row ++ List.replicate 1 y, rfl, by show _ = _; rw [List.length_append, List.length_replicate, Hm.out], rfl, by omega, by omega, fun z hz => by (rcases List.mem_append.1 hz with hz | hz; exact H15.out z hz; have := List.eq_of_mem_replicate hz; omega), HE0.out, HJ.out, HOR.out⟩
              · obtain rfl : m' = sz := by omega
                have E1 : r = some (p', row) := by
                  rw [← E0]
                  cases f with
                  | zero => rw [rowF, if_neg (by rw [Hm.out]; exact hlt)]
                  | succ f => rw [rowF, if_neg (by rw [Hm.out]; exact hlt)]
                have hR := HR2.out
                rw [E1] at hR
                simp only [] at hR
                have HR3 : Hid _ := hR
                clear hR E0 E1 HR2 HR0 HF
                obtain ⟨gr, cap', hv, hgr1, hgr2⟩ := HOR.out.form (by omega)
                simp only [Value.slice.injEq] at hv
                obtain ⟨rfl, _, rfl⟩ := hv
                have hcp : m' ≤ cp := owns_cap HOR.out
                have HCW : Hid (∀ i, i < m' → wr.cell? ⟨gr, i, none⟩ = some (.int .i64 (row.getD i 0 : Nat))) := fun i hi => by
                  have := HOR.out.cellAt i (by omega)
                  rw [this, arr_at row i (by rw [Hm.out]; exact hi)]
                have hgr0 : w.heap.size + 2 ≤ gr := by have h2 := HJ.out.bl; have h3 := HJ.out.b0; omega
                have hncp : (n : Int) ≤ cp := by have := HSZ.out; omega
                have hncp2 : (n : Int) < cp := by have := HSZ.out; omega
                have hnm1 : (n : Int) ≤ m' := by have := HSZ.out; omega
                have hsubZ : (m' : Int) - (n : Int) = (m : Int) := by have := HSZ.out; omega
                have HTK : Hid (∀ i, i < (row.take n).length → (row.take n).getD i 0 = row.getD i 0) := fun i hi => by
                  rw [List.length_take] at hi
                  rw [List.getD_eq_getElem?_getD, List.getElem?_take, if_pos (by omega), ← List.getD_eq_getElem?_getD]
                have HDK : Hid (∀ i, (row.drop n).getD i 0 = row.getD (n + i) 0) := fun i => by
                  rw [List.getD_eq_getElem?_getD, List.getElem?_drop, ← List.getD_eq_getElem?_getD]
                have HLT1 : Hid ((row.take n).length = n) := by show _ = _; have := HSZ.out; rw [List.length_take, Hm.out]; omega
                have HLD1 : Hid ((row.drop n).length = m) := by show _ = _; have := HSZ.out; rw [List.length_drop, Hm.out]; omega
                have H15T : Hid (∀ i, (row.take n).getD i 0 ≤ 15) := getD_le fun x hx => H15.out x (List.mem_of_mem_take hx)
                have H15D : Hid (∀ i, (row.drop n).getD i 0 ≤ 15) := getD_le fun x hx => H15.out x (List.mem_of_mem_drop hx)
                clear hlt
                go_wp2_with fail
                refine (code_new gr 0 cp n (row.take n) true false w0 wr HLT1.out (by rw [HLT1.out]; omega) (by rw [HLT1.out]; omega) H15T.out (fun i hi => by rw [Nat.zero_add, HTK.out i hi]; exact HCW.out i (by have := HLT1.out; omega)) hgr2 (by rw [HZ0.out]; exact hgr0)).mono ?_
                rintro ev w7 ⟨CA, rfl, hb7, hn7⟩
                have HB7 : Hid _ := hb7
                have HN7 : Hid _ := hn7
                clear hb7 hn7
                go_wp2_with fail
                refine (code_new gr n (cp - n) (m' - n) (row.drop n) true true w0 (w7.alloc (.cells #[.slice CA.ax n CA.cx, .slice CA.ay n CA.cy] 72)) (by rw [HLD1.out]; omega) (by rw [HLD1.out]; omega) (by rw [HLD1.out]; omega) H15D.out (fun i hi => ?b1) ?b2 (by rw [HZ0.out]; exact hgr0)).mono ?_
                case b1 =>
                  rw [HDK.out i]
                  have h1 := HB7.out.alloc HB7.out.size (.cells #[.slice CA.ax n CA.cx, .slice CA.ay n CA.cy] 72)
                  exact (h1.cell (p := ⟨gr, n + i, none⟩) hgr2).trans (HCW.out (n + i) (by have := HLD1.out; omega))
                case b2 =>
                  have h1 := HB7.out.size
                  simp; omega
                have HB8 : Hid (Below wr.heap.size wr (w7.alloc (.cells #[.slice CA.ax n CA.cx, .slice CA.ay n CA.cy] 72))) := HB7.out.alloc HB7.out.size _
                have HN8 := hid' (HN7.out.later ((Below.refl _ _).alloc (Nat.le_refl _) (.cells #[.slice CA.ax n CA.cx, .slice CA.ay n CA.cy] 72)))
                have HX8 : Hid ((w7.alloc (.cells #[.slice CA.ax n CA.cx, .slice CA.ay n CA.cy] 72)).heap[w7.heap.size]? = some (.cells #[.slice CA.ax n CA.cx, .slice CA.ay n CA.cy] 72)) := heap_alloc_new _ _
                have HXS8 : Hid (w7.heap.size < (w7.alloc (.cells #[.slice CA.ax n CA.cx, .slice CA.ay n CA.cy] 72)).heap.size) := by show _ < _; simp
                have HXL8 : Hid (wr.heap.size ≤ w7.heap.size) := HB7.out.size
                obtain ⟨b18, HB18⟩ : ∃ b, Hid (b = w7.heap.size) := ⟨_, rfl⟩
                rw [← HB18.out] at HX8 HXS8 HXL8 ⊢
                generalize w7.alloc (.cells #[.slice CA.ax n CA.cx, .slice CA.ay n CA.cy] 72) = w8 at HB8 HN8 HX8 HXS8 ⊢
                have hmn : m' - n = m := by have := HSZ.out; omega
                rw [hmn]
                rintro ev w9 ⟨CB, rfl, hb9, hn9⟩
                have HB9 : Hid _ := hb9
                have HN9 : Hid _ := hn9
                clear hb9 hn9 HB7 HN7 HB18
                go_wp2_with fail
                have HB10 : Hid (Below w8.heap.size w8 (w9.alloc (.cells #[.slice CB.ax m CB.cx, .slice CB.ay m CB.cy] 72))) := HB9.out.alloc HB9.out.size _
                have HN10 := hid' (HN9.out.later ((Below.refl _ _).alloc (Nat.le_refl _) (.cells #[.slice CB.ax m CB.cx, .slice CB.ay m CB.cy] 72)))
                have HX10 : Hid ((w9.alloc (.cells #[.slice CB.ax m CB.cx, .slice CB.ay m CB.cy] 72)).heap[w9.heap.size]? = some (.cells #[.slice CB.ax m CB.cx, .slice CB.ay m CB.cy] 72)) := heap_alloc_new _ _
                have HXL10 : Hid (w8.heap.size ≤ w9.heap.size) := HB9.out.size
                obtain ⟨b20, HB20⟩ : ∃ b, Hid (b = w9.heap.size) := ⟨_, rfl⟩
                rw [← HB20.out] at HX10 HXL10 ⊢
                generalize w9.alloc (.cells #[.slice CB.ax m CB.cx, .slice CB.ay m CB.cy] 72) = w10 at HB10 HN10 HX10 ⊢
                have HN11 := hid' (HN8.out.later HB10.out)
                have HX11 : Hid (w10.heap[b18]? = some (.cells #[.slice CA.ax n CA.cx, .slice CA.ay n CA.cy] 72)) := (HB10.out.block _ HXS8.out).trans HX8.out
                have HBA : Hid (Below wr.heap.size wr w10) := HB8.out.trans (HB10.out.mono HB8.out.size)
                have HT10 : Hid (TI w w10.drew E v far p' 0) := (HJ.out.ti.below HBA.out).drew
                have x0 : w10.drew.cell? ⟨b18, 0, none⟩ = _ := cell_of (cs := [.slice CA.ax n CA.cx, .slice CA.ay n CA.cy]) (i := 0) HX11.out rfl
                have x1 : w10.drew.cell? ⟨b18, 1, none⟩ = _ := cell_of (cs := [.slice CA.ax n CA.cx, .slice CA.ay n CA.cy]) (i := 1) HX11.out rfl
                have y0 : w10.drew.cell? ⟨b20, 0, none⟩ = _ := cell_of (cs := [.slice CB.ax m CB.cx, .slice CB.ay m CB.cy]) (i := 0) HX10.out rfl
                have y1' : w10.drew.cell? ⟨b20, 1, none⟩ = _ := cell_of (cs := [.slice CB.ax m CB.cx, .slice CB.ay m CB.cy]) (i := 1) HX10.out rfl
                have c256 : w10.drew.cell? ⟨gr, 256, none⟩ = some (.int .i64 (row.getD 256 0 : Nat)) := (HBA.out.cell (p := ⟨gr, 256, none⟩) hgr2).trans (HCW.out 256 (by have := HSZ.out; omega))
                obtain ⟨x256, HX256⟩ : ∃ x, Hid (x = row.getD 256 0) := ⟨_, rfl⟩
                rw [← HX256.out] at c256 HR3
                obtain ⟨r0, r1, r2, r3, f0, f1, f2, f3⟩ := (HJ.out.ti.below HBA.out).cells
                have h256 : (256 : Int) < m' := by omega
                obtain ⟨xb, HXB⟩ : ∃ x, Hid (x = codeQ true false (row.take n)) := ⟨_, rfl⟩
                obtain ⟨yb, HYB⟩ : ∃ x, Hid (x = codeQ true true (row.drop n)) := ⟨_, rfl⟩
                rw [← HXB.out, ← HYB.out]
                have HRF : Hid (R = if (xb && yb && decide (0 < x256)) = true then some (row.take n, row.drop n, p') else none) := by
                  show _ = _
                  have hr := HR3.out
                  by_cases h0 : x256 = 0
                  · rw [if_pos h0] at hr
                    rw [hr, if_neg (by simp [h0])]
                  · rw [if_neg h0] at hr
                    have e256 : (row.take n).getD 256 0 = x256 := by rw [HTK.out 256 (by rw [HLT1.out]; omega), HX256.out]
                    have q1 := codeQ_some (row.take n) 256 (by rw [HLT1.out]; omega) (by rw [e256]; omega) (H15T.out 256)
                    have q2 := codeQ_any (row.drop n)
                    rw [HXB.out, HYB.out, q1, q2, hr]
                    cases codeB (row.take n) <;> cases codeB (row.drop n) <;> simp <;> omega
                have HNA : Hid (NewC w0 w10.drew CA (row.take n)) := HN11.out.drew
                have HNB : Hid (NewC w0 w10.drew CB (row.drop n)) := HN10.out.drew
                have hm4 : m ≤ 400 := by omega
                have hn4 : n ≤ 400 := by omega
                have h18 : w.heap.size + 2 ≤ b18 := by have h1 := HXL8.out; have h2 := HJ.out.ti.sz; omega
                have h20 : w.heap.size + 2 ≤ b20 := by have h1 := HXL10.out; have h2 := HJ.out.ti.sz; have h3 := HB8.out.size; omega
                clear HB8 HN8 HX8 HXS8 HXL8 HB9 HN9 HB10 HN10 HX10 HXL10 HB20 HX11 HN11 HBA HXB HYB HX256 HR3 HCW HOR
                have hst0 : w10.drew.cell? ⟨b18, 0, none⟩ = some (.slice CA.ax n CA.cx) ∧ w10.drew.cell? ⟨b18, 1, none⟩ = some (.slice CA.ay n CA.cy) ∧ w10.drew.cell? ⟨b20, 0, none⟩ = some (.slice CB.ax m CB.cx) ∧ w10.drew.cell? ⟨b20, 1, none⟩ = some (.slice CB.ay m CB.cy) ∧ w10.drew.cell? ⟨gr, 256, none⟩ = some (.int .i64 x256) := ⟨x0, x1, y0, y1', c256⟩
                have HS1 : Hid (((w10.drew.setCell ⟨w.heap.size, 0, none⟩ (.slice CA.ax n CA.cx)).setCell ⟨w.heap.size, 1, none⟩ (.slice CA.ay n CA.cy)).cell? ⟨b18, 0, none⟩ = some (.slice CA.ax n CA.cx) ∧ ((w10.drew.setCell ⟨w.heap.size, 0, none⟩ (.slice CA.ax n CA.cx)).setCell ⟨w.heap.size, 1, none⟩ (.slice CA.ay n CA.cy)).cell? ⟨b18, 1, none⟩ = some (.slice CA.ay n CA.cy) ∧ ((w10.drew.setCell ⟨w.heap.size, 0, none⟩ (.slice CA.ax n CA.cx)).setCell ⟨w.heap.size, 1, none⟩ (.slice CA.ay n CA.cy)).cell? ⟨b20, 0, none⟩ = some (.slice CB.ax m CB.cx) ∧ ((w10.drew.setCell ⟨w.heap.size, 0, none⟩ (.slice CA.ax n CA.cx)).setCell ⟨w.heap.size, 1, none⟩ (.slice CA.ay n CA.cy)).cell? ⟨b20, 1, none⟩ = some (.slice CB.ay m CB.cy) ∧ ((w10.drew.setCell ⟨w.heap.size, 0, none⟩ (.slice CA.ax n CA.cx)).setCell ⟨w.heap.size, 1, none⟩ (.slice CA.ay n CA.cy)).cell? ⟨gr, 256, none⟩ = some (.int .i64 x256)) :=
                  ⟨(cell_set_far _ (by omega)).trans ((cell_set_far _ (by omega)).trans x0), (cell_set_far _ (by omega)).trans ((cell_set_far _ (by omega)).trans x1), (cell_set_far _ (by omega)).trans ((cell_set_far _ (by omega)).trans y0), (cell_set_far _ (by omega)).trans ((cell_set_far _ (by omega)).trans y1'), (cell_set_far _ (by omega)).trans ((cell_set_far _ (by omega)).trans c256)⟩
                have HS2 : Hid ((fin4 w w10.drew (.slice CA.ax n CA.cx) (.slice CA.ay n CA.cy) (.slice CB.ax m CB.cx) (.slice CB.ay m CB.cy)).cell? ⟨b18, 0, none⟩ = some (.slice CA.ax n CA.cx) ∧ (fin4 w w10.drew (.slice CA.ax n CA.cx) (.slice CA.ay n CA.cy) (.slice CB.ax m CB.cx) (.slice CB.ay m CB.cy)).cell? ⟨b18, 1, none⟩ = some (.slice CA.ay n CA.cy) ∧ (fin4 w w10.drew (.slice CA.ax n CA.cx) (.slice CA.ay n CA.cy) (.slice CB.ax m CB.cx) (.slice CB.ay m CB.cy)).cell? ⟨b20, 0, none⟩ = some (.slice CB.ax m CB.cx) ∧ (fin4 w w10.drew (.slice CA.ax n CA.cx) (.slice CA.ay n CA.cy) (.slice CB.ax m CB.cx) (.slice CB.ay m CB.cy)).cell? ⟨b20, 1, none⟩ = some (.slice CB.ay m CB.cy) ∧ (fin4 w w10.drew (.slice CA.ax n CA.cx) (.slice CA.ay n CA.cy) (.slice CB.ax m CB.cx) (.slice CB.ay m CB.cy)).cell? ⟨gr, 256, none⟩ = some (.int .i64 x256)) :=
                  ⟨(cell_set_far _ (by omega)).trans ((cell_set_far _ (by omega)).trans HS1.out.1), (cell_set_far _ (by omega)).trans ((cell_set_far _ (by omega)).trans HS1.out.2.1), (cell_set_far _ (by omega)).trans ((cell_set_far _ (by omega)).trans HS1.out.2.2.1), (cell_set_far _ (by omega)).trans ((cell_set_far _ (by omega)).trans HS1.out.2.2.2.1), (cell_set_far _ (by omega)).trans ((cell_set_far _ (by omega)).trans HS1.out.2.2.2.2)⟩
                refine wp_region_held_drew (S := fun w' => w'.cell? ⟨b18, 0, none⟩ = some (.slice CA.ax n CA.cx) ∧ w'.cell? ⟨b18, 1, none⟩ = some (.slice CA.ay n CA.cy) ∧ w'.cell? ⟨b20, 0, none⟩ = some (.slice CB.ax m CB.cx) ∧ w'.cell? ⟨b20, 1, none⟩ = some (.slice CB.ay m CB.cy) ∧ w'.cell? ⟨gr, 256, none⟩ = some (.int .i64 x256)) (by kernel_rfl) hst0 (fun hHeld => ?_)
                clear hst0
                refine wpAnyH_take (i := 0) (v := ?_) rfl (by kernel_rfl) (by kernel_rfl) (by kernel_rfl) (fun _ _ _ h => h) (Or.inl ⟨by rfl, ?_⟩) hHeld ?_
                rotate_left
                · rintro w ⟨s0, s1, s2, s3, s4⟩; go_simp; rfl
                try simp only [Act.put, List.setIfInBounds_toArray, List.set_cons_zero, List.set_cons_succ]
                refine wpAnyH_take (i := 1) (v := ?_) rfl (by kernel_rfl) (by kernel_rfl) (by kernel_rfl) (fun _ _ _ h => h) (Or.inl ⟨by rfl, ?_⟩) hHeld ?_
                rotate_left
                · rintro w ⟨s0, s1, s2, s3, s4⟩; go_simp; rfl
                try simp only [Act.put, List.setIfInBounds_toArray, List.set_cons_zero, List.set_cons_succ]
                refine wpAnyH_take (i := 2) (v := ?_) rfl (by kernel_rfl) (by kernel_rfl) (by kernel_rfl) (fun _ _ _ h => h) (Or.inl ⟨by rfl, ?_⟩) hHeld ?_
                rotate_left
                · rintro w ⟨s0, s1, s2, s3, s4⟩; go_simp; rfl
                try simp only [Act.put, List.setIfInBounds_toArray, List.set_cons_zero, List.set_cons_succ]
                refine wpAnyH_take (i := 3) (v := ?_) rfl (by kernel_rfl) (by kernel_rfl) (by kernel_rfl) (fun _ _ _ h => h) (Or.inl ⟨by rfl, ?_⟩) hHeld ?_
                rotate_left
                · rintro w ⟨s0, s1, s2, s3, s4⟩; go_simp; rfl
                try simp only [Act.put, List.setIfInBounds_toArray, List.set_cons_zero, List.set_cons_succ]
                cases xb with
                | false =>
                  refine wpAnyH_take (i := 4) (v := undef) rfl (by kernel_rfl) (by kernel_rfl) (by kernel_rfl) (fun _ _ _ h => h) (Or.inr ⟨by kernel_rfl, rfl⟩) hHeld ?_
                  try simp only [Act.put, List.setIfInBounds_toArray, List.set_cons_zero, List.set_cons_succ]
                  refine wpAnyH_take (i := 5) (v := ?_) rfl (by kernel_rfl) (by kernel_rfl) (by kernel_rfl) (fun _ _ _ h => h) (Or.inl ⟨by rfl, ?_⟩) hHeld ?_
                  rotate_left
                  · rintro w ⟨s0, s1, s2, s3, s4⟩; go_simp; rfl
                  try simp only [Act.put, List.setIfInBounds_toArray, List.set_cons_zero, List.set_cons_succ]
                  refine wpAnyH_take (i := 6) (v := ?_) rfl (by kernel_rfl) (by kernel_rfl) (by kernel_rfl) (fun _ _ _ h => h) (Or.inl ⟨by rfl, ?_⟩) hHeld ?_
                  rotate_left
                  · rintro w ⟨s0, s1, s2, s3, s4⟩; go_simp; rfl
                  try simp only [Act.put, List.setIfInBounds_toArray, List.set_cons_zero, List.set_cons_succ]
                  refine wpAnyH_take (i := 7) (v := undef) rfl (by kernel_rfl) (by kernel_rfl) (by kernel_rfl) (fun _ _ _ h => h) (Or.inr ⟨by kernel_rfl, rfl⟩) hHeld ?_
                  try simp only [Act.put, List.setIfInBounds_toArray, List.set_cons_zero, List.set_cons_succ]
                  refine wpAnyH_take (i := 8) (v := undef) rfl (by kernel_rfl) (by kernel_rfl) (by kernel_rfl) (fun _ _ _ h => h) (Or.inr ⟨by kernel_rfl, rfl⟩) hHeld ?_
                  try simp only [Act.put, List.setIfInBounds_toArray, List.set_cons_zero, List.set_cons_succ]
                  refine wpAnyH_take (i := 9) (v := undef) rfl (by kernel_rfl) (by kernel_rfl) (by kernel_rfl) (fun _ _ _ h => h) (Or.inr ⟨by kernel_rfl, rfl⟩) hHeld ?_
                  try simp only [Act.put, List.setIfInBounds_toArray, List.set_cons_zero, List.set_cons_succ]
                  refine wpAnyH_take (i := 10) (v := undef) rfl (by kernel_rfl) (by kernel_rfl) (by kernel_rfl) (fun _ _ _ h => h) (Or.inr ⟨by kernel_rfl, rfl⟩) hHeld ?_
                  try simp only [Act.put, List.setIfInBounds_toArray, List.set_cons_zero, List.set_cons_succ]
                  refine wpAnyH_take (i := 11) (v := ?_) rfl (by kernel_rfl) (by kernel_rfl) (by kernel_rfl) (fun _ _ _ h => h) (Or.inl ⟨by rfl, ?_⟩) hHeld ?_
                  rotate_left
                  · rintro w ⟨s0, s1, s2, s3, s4⟩; go_simp; rfl
                  try simp only [Act.put, List.setIfInBounds_toArray, List.set_cons_zero, List.set_cons_succ]
                  refine wpAnyH_ready (rs := [12]) (by kernel_rfl) (by simp) ?_
                  refine AllReadyH.cons rfl (fun K hK => ?_) AllReadyH.nil
                  go_simp
                  refine hK.out _ _ HS1.out (fun hHeld2 => ?_)
                  clear hK K
                  try simp only [Act.put, List.setIfInBounds_toArray, List.set_cons_zero, List.set_cons_succ]
                  refine wpAnyH_ready (rs := [13]) (by kernel_rfl) (by simp) ?_
                  refine AllReadyH.cons rfl (fun K hK => ?_) AllReadyH.nil
                  go_simp
                  refine hK.out _ _ HS2.out (fun hHeld3 => ?_)
                  clear hK K
                  try simp only [Act.put, List.setIfInBounds_toArray, List.set_cons_zero, List.set_cons_succ]
                  refine wpAnyH_ready (rs := [14]) (by kernel_rfl) (by simp) ?_
                  refine AllReadyH.cons rfl (fun K hK => ?_) AllReadyH.nil
                  go_simp
                  refine hK.out _ _ HS2.out (fun hHeld4 => ?_)
                  clear hK K
                  try simp only [Act.put, List.setIfInBounds_toArray, List.set_cons_zero, List.set_cons_succ]
                  refine wpAnyH_done (by kernel_rfl) ?_ _
                  clear hHeld hHeld2 hHeld3 hHeld4 HS1 HS2
                  go_wp2
                  show bodyPost Tryd.prog Tryd.f42 (ToldP E v far w R) Exit.ret _ (fin4 w w10.drew (.slice CA.ax n CA.cx) (.slice CA.ay n CA.cy) (.slice CB.ax m CB.cx) (.slice CB.ay m CB.cy))
                  refine told_end false HT10.out HNA.out HNB.out HZ0.out HLT1.out HLD1.out hn4 hm4 H15T.out H15D.out (HRF.out.trans (by simp)) ?_ ?_ ?_ ?_
                  · rfl
                  · rfl
                  · rfl
                  · rfl
                | true =>
                  refine wpAnyH_take (i := 4) (v := ?_) rfl (by kernel_rfl) (by kernel_rfl) (by kernel_rfl) (fun _ _ _ h => h) (Or.inl ⟨by kernel_rfl, ?_⟩) hHeld ?_
                  rotate_left
                  · rintro w ⟨s0, s1, s2, s3, s4⟩; go_simp; rfl
                  try simp only [Act.put, List.setIfInBounds_toArray, List.set_cons_zero, List.set_cons_succ]
                  refine wpAnyH_take (i := 5) (v := ?_) rfl (by kernel_rfl) (by kernel_rfl) (by kernel_rfl) (fun _ _ _ h => h) (Or.inl ⟨by rfl, ?_⟩) hHeld ?_
                  rotate_left
                  · rintro w ⟨s0, s1, s2, s3, s4⟩; go_simp; rfl
                  try simp only [Act.put, List.setIfInBounds_toArray, List.set_cons_zero, List.set_cons_succ]
                  refine wpAnyH_take (i := 6) (v := ?_) rfl (by kernel_rfl) (by kernel_rfl) (by kernel_rfl) (fun _ _ _ h => h) (Or.inl ⟨by rfl, ?_⟩) hHeld ?_
                  rotate_left
                  · rintro w ⟨s0, s1, s2, s3, s4⟩; go_simp; rfl
                  try simp only [Act.put, List.setIfInBounds_toArray, List.set_cons_zero, List.set_cons_succ]
                  cases yb with
                  | false =>
                    refine wpAnyH_take (i := 7) (v := undef) rfl (by kernel_rfl) (by kernel_rfl) (by kernel_rfl) (fun _ _ _ h => h) (Or.inr ⟨by kernel_rfl, rfl⟩) hHeld ?_
                    try simp only [Act.put, List.setIfInBounds_toArray, List.set_cons_zero, List.set_cons_succ]
                    refine wpAnyH_take (i := 8) (v := undef) rfl (by kernel_rfl) (by kernel_rfl) (by kernel_rfl) (fun _ _ _ h => h) (Or.inr ⟨by kernel_rfl, rfl⟩) hHeld ?_
                    try simp only [Act.put, List.setIfInBounds_toArray, List.set_cons_zero, List.set_cons_succ]
                    refine wpAnyH_take (i := 9) (v := undef) rfl (by kernel_rfl) (by kernel_rfl) (by kernel_rfl) (fun _ _ _ h => h) (Or.inr ⟨by kernel_rfl, rfl⟩) hHeld ?_
                    try simp only [Act.put, List.setIfInBounds_toArray, List.set_cons_zero, List.set_cons_succ]
                    refine wpAnyH_take (i := 10) (v := undef) rfl (by kernel_rfl) (by kernel_rfl) (by kernel_rfl) (fun _ _ _ h => h) (Or.inr ⟨by kernel_rfl, rfl⟩) hHeld ?_
                    try simp only [Act.put, List.setIfInBounds_toArray, List.set_cons_zero, List.set_cons_succ]
                    refine wpAnyH_take (i := 11) (v := ?_) rfl (by kernel_rfl) (by kernel_rfl) (by kernel_rfl) (fun _ _ _ h => h) (Or.inl ⟨by rfl, ?_⟩) hHeld ?_
                    rotate_left
                    · rintro w ⟨s0, s1, s2, s3, s4⟩; go_simp; rfl
                    try simp only [Act.put, List.setIfInBounds_toArray, List.set_cons_zero, List.set_cons_succ]
                    refine wpAnyH_ready (rs := [12]) (by kernel_rfl) (by simp) ?_
                    refine AllReadyH.cons rfl (fun K hK => ?_) AllReadyH.nil
                    go_simp
                    refine hK.out _ _ HS1.out (fun hHeld2 => ?_)
                    clear hK K
                    try simp only [Act.put, List.setIfInBounds_toArray, List.set_cons_zero, List.set_cons_succ]
                    refine wpAnyH_ready (rs := [13]) (by kernel_rfl) (by simp) ?_
                    refine AllReadyH.cons rfl (fun K hK => ?_) AllReadyH.nil
                    go_simp
                    refine hK.out _ _ HS2.out (fun hHeld3 => ?_)
                    clear hK K
                    try simp only [Act.put, List.setIfInBounds_toArray, List.set_cons_zero, List.set_cons_succ]
                    refine wpAnyH_ready (rs := [14]) (by kernel_rfl) (by simp) ?_
                    refine AllReadyH.cons rfl (fun K hK => ?_) AllReadyH.nil
                    go_simp
                    refine hK.out _ _ HS2.out (fun hHeld4 => ?_)
                    clear hK K
                    try simp only [Act.put, List.setIfInBounds_toArray, List.set_cons_zero, List.set_cons_succ]
                    refine wpAnyH_done (by kernel_rfl) ?_ _
                    clear hHeld hHeld2 hHeld3 hHeld4 HS1 HS2
                    go_wp2
                    show bodyPost Tryd.prog Tryd.f42 (ToldP E v far w R) Exit.ret _ (fin4 w w10.drew (.slice CA.ax n CA.cx) (.slice CA.ay n CA.cy) (.slice CB.ax m CB.cx) (.slice CB.ay m CB.cy))
                    refine told_end false HT10.out HNA.out HNB.out HZ0.out HLT1.out HLD1.out hn4 hm4 H15T.out H15D.out (HRF.out.trans (by simp)) ?_ ?_ ?_ ?_
                    · rfl
                    · rfl
                    · rfl
                    · rfl
                  | true =>
                    refine wpAnyH_take (i := 7) (v := ?_) rfl (by kernel_rfl) (by kernel_rfl) (by kernel_rfl) (fun _ _ _ h => h) (Or.inl ⟨by kernel_rfl, ?_⟩) hHeld ?_
                    rotate_left
                    · rintro w ⟨s0, s1, s2, s3, s4⟩; go_simp; rfl
                    try simp only [Act.put, List.setIfInBounds_toArray, List.set_cons_zero, List.set_cons_succ]
                    refine wpAnyH_take (i := 8) (v := ?_) rfl (by kernel_rfl) (by kernel_rfl) (by kernel_rfl) (fun _ _ _ h => h) (Or.inl ⟨by kernel_rfl, ?_⟩) hHeld ?_
                    rotate_left
                    · rintro w ⟨s0, s1, s2, s3, s4⟩; go_simp; rfl
                    try simp only [Act.put, List.setIfInBounds_toArray, List.set_cons_zero, List.set_cons_succ]
                    refine wpAnyH_take (i := 9) (v := ?_) rfl (by kernel_rfl) (by kernel_rfl) (by kernel_rfl) (fun _ _ _ h => h) (Or.inl ⟨by kernel_rfl, ?_⟩) hHeld ?_
                    rotate_left
                    · rintro w ⟨s0, s1, s2, s3, s4⟩; go_simp; rfl
                    try simp only [Act.put, List.setIfInBounds_toArray, List.set_cons_zero, List.set_cons_succ]
                    refine wpAnyH_take (i := 10) (v := ?_) rfl (by kernel_rfl) (by kernel_rfl) (by kernel_rfl) (fun _ _ _ h => h) (Or.inl ⟨by kernel_rfl, ?_⟩) hHeld ?_
                    rotate_left
                    · rintro w ⟨s0, s1, s2, s3, s4⟩; go_simp; rfl
                    try simp only [Act.put, List.setIfInBounds_toArray, List.set_cons_zero, List.set_cons_succ]
                    refine wpAnyH_take (i := 11) (v := ?_) rfl (by kernel_rfl) (by kernel_rfl) (by kernel_rfl) (fun _ _ _ h => h) (Or.inl ⟨by rfl, ?_⟩) hHeld ?_
                    rotate_left
                    · rintro w ⟨s0, s1, s2, s3, s4⟩; go_simp; rfl
                    try simp only [Act.put, List.setIfInBounds_toArray, List.set_cons_zero, List.set_cons_succ]
                    refine wpAnyH_ready (rs := [12]) (by kernel_rfl) (by simp) ?_
                    refine AllReadyH.cons rfl (fun K hK => ?_) AllReadyH.nil
                    go_simp
                    refine hK.out _ _ HS1.out (fun hHeld2 => ?_)
                    clear hK K
                    try simp only [Act.put, List.setIfInBounds_toArray, List.set_cons_zero, List.set_cons_succ]
                    refine wpAnyH_ready (rs := [13]) (by kernel_rfl) (by simp) ?_
                    refine AllReadyH.cons rfl (fun K hK => ?_) AllReadyH.nil
                    go_simp
                    refine hK.out _ _ HS2.out (fun hHeld3 => ?_)
                    clear hK K
                    try simp only [Act.put, List.setIfInBounds_toArray, List.set_cons_zero, List.set_cons_succ]
                    refine wpAnyH_ready (rs := [14]) (by kernel_rfl) (by simp) ?_
                    refine AllReadyH.cons rfl (fun K hK => ?_) AllReadyH.nil
                    go_simp
                    refine hK.out _ _ HS2.out (fun hHeld4 => ?_)
                    clear hK K
                    try simp only [Act.put, List.setIfInBounds_toArray, List.set_cons_zero, List.set_cons_succ]
                    refine wpAnyH_done (by kernel_rfl) ?_ _
                    clear hHeld hHeld2 hHeld3 hHeld4 HS1 HS2
                    go_wp2
                    show bodyPost Tryd.prog Tryd.f42 (ToldP E v far w R) Exit.ret _ (fin4 w w10.drew (.slice CA.ax n CA.cx) (.slice CA.ay n CA.cy) (.slice CB.ax m CB.cx) (.slice CB.ay m CB.cy))
                    refine told_end (decide (0 < x256)) HT10.out HNA.out HNB.out HZ0.out HLT1.out HLD1.out hn4 hm4 H15T.out H15D.out (HRF.out.trans (by simp)) ?_ ?_ ?_ ?_
                    · rfl
                    · rfl
                    · rfl
                    · first | rfl | exact congrArg Value.bool (by simp)
          · have hRN : R = none := by
              have hR := HR.out
              rcases HC.out with ⟨h1, h2, h3⟩ | ⟨_, h2⟩
              · have hpp := HT.out.pp
                rw [← h3, ← h2, if_neg (by omega)] at hR
                rw [hR, if_pos]
                cases hw : wholeB (cntOf T) with
                | false => rfl
                | true => exact absurd ⟨h1, hw⟩ hgood
              · rw [hR, if_pos h2]
            have HRN : Hid _ := hRN
            have HHG : Hid _ := hgood
            clear hRN hgood HR HC
            obtain ⟨r0, r1, r2, r3, f0, f1, f2, f3⟩ := HT6.out.cells
            rw [HW6.out] at r0 r1 r2 r3 f0 f1 f2 f3 HT6
            cases hwh : wholeB (cntOf T) with
            | false =>
              by_cases he : er = 0
              · subst he
                go_wp2
                exact told_no HT6.out HRN.out rfl rfl rfl rfl
              · go_wp2
                exact told_no HT6.out HRN.out rfl rfl rfl rfl
            | true =>
              have he : er ≠ 0 := fun e => HHG.out ⟨e, hwh⟩
              go_wp2
              exact told_no HT6.out HRN.out rfl rfl rfl rfl
end Go.Proofs.YtbiibhpknflagaaDoor
