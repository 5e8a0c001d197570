/- The program's 'Apply'. -/
import Derived.Test.YtblegkefeiefjaaDoorApI
import Derived.Maps.AppendAt
namespace Go.Proofs.YtblegkefeiefjaaDoor
open Go.RowKit Go.Shelf Plain
set_option linter.unusedVariables false
set_option linter.unusedSimpArgs false
attribute [local go_sem] Oper.semAt_some

theorem Tryd.info5' : (Tryd.prog.info? 5).map (fun i => (i.zero, i.size, i.bytes)) = some (some (.int .u8 0), 1, 1) := by kernel_rfl
theorem ap_ret (tmps : Array Value) (W : World) (D s : Nat) (v0 v1 : Value) (h4 : tmps.getD 4 undef = .pointer (some ⟨s, 0, none⟩)) (h5 : tmps.getD 5 undef = .pointer (some ⟨s + 1, 0, none⟩)) (hr0 : Boxed W s 22 v0) (hr1 : Boxed W (s + 1) 25 v1) (hK : W.heap[D]? = some (.deferred (some [])))
    (R : Ending → World → Prop) (hR : R (.returned (.tuple #[v0, v1])) (W.putObj D (.deferred none))) : bodyPostM Fence.wide 3 Tryd.prog Tryd.f7 R .ret { tmps := tmps, defers := [{ target := .collected D, args := #[] }] } W := by
  refine ⟨by simp, .inl ⟨_, _, rfl, run_takeDeferred hK, ?_⟩⟩
  have hr : ∀ r, some D = some r → ∃ o : Obj, W.heap[r]? = some o ∧ o.isCells = false := fun r e => by cases e; exact ⟨_, hK, rfl⟩
  exact ⟨_, results_c2 Tryd.results7 _ _ s (s + 1) v0 v1 h4 h5 (cell_kept hr0.cell (grownBy_putObj' _ D (.deferred none)) hr) (cell_kept hr1.cell (grownBy_putObj' _ D (.deferred none)) hr), hR⟩
set_option maxRecDepth 100000 in
set_option maxHeartbeats 4000000 in
theorem apply_good (a0 ad : Option Addr) (cap0 cd : Nat) (base d : List Int) (w : World) (hzd : IsB d) (hlb : base.length ≤ 400000) (hld : d.length ≤ 400000) (hSb : Sl w a0 cap0 base) (hSd : Sl w ad cd d) (m : Nat) (r : List Int) (hn : szs d = some (base.length, m, r)) (hm : m ≤ 100000) (hrB : IsB r) (hrl : r.length ≤ d.length) :
    Calls Tryd.prog 7 #[.slice a0 base.length cap0, .slice ad d.length cd] w (PostA w (appS base m r [])) := by
  obtain ⟨i5, hi, hz0, hz1, hz2⟩ := info_parts Tryd.info5'
  have R1 : ∀ w', _ := fun (w' : World) (hB : Below w.heap.size w w') => readSizes_any ad cd d w' hzd hld (hSd.below hB)
  rw [hn] at R1
  have HB : Hid (Below w.heap.size w ((w.alloc (.cells #[.slice none 0 0] 22)).alloc (.cells #[.nilIface] 25))) := ((Below.refl _ w).alloc (Nat.le_refl _) _).alloc (by simp) _
  obtain ⟨L0, HL0⟩ : ∃ L0, Hid (L0 = base.length) := ⟨_, rfl⟩
  rw [← HL0.out] at R1 hlb ⊢
  have hmZ : ¬ (100000 : Int) < (m : Int) := by omega
  obtain ⟨R, HR⟩ : ∃ R, Hid (R = madeCells #[.int .u8 0] m) := ⟨_, rfl⟩
  have hmk : ∀ w : World, (Instr.makeSlice 22 (.int .i64 0) (.int .i64 m)).run Tryd.prog w = .ok (.slice (some ⟨w.heap.size, 0, none⟩) 0 m) (w.alloc (.cells R 5)) := fun w => by
    have hr := run_make (P := Tryd.prog) w 22 5 i5 (.int .u8 0) Tryd.underlying22 hi hz0 .i64 .i64 0 m (by omega) (by omega) (by rw [hz2]; omega) (by omega)
    simp only [Int.toNat_natCast, hz1, Nat.mul_one] at hr
    rw [HR.out]
    exact hr
  refine (callsIn_wide (n := 3)).1 ?_
  refine callsIn_of_wp_marks Tryd.func7 rfl trivial ?_ rfl
  simp only [Tryd.ntmps7, List.size_toArray, List.length_cons, List.length_nil, Nat.reduceAdd, Nat.reduceSub, Array.replicate_succ, Array.replicate_zero, List.push_toArray, List.append_toArray, List.nil_append, List.cons_append]
  gi_wp2_with (first | (refine ⟨trivial, ?_⟩; gi_at_call 15; refine (callsIn_wide.2 (R1 _ HB.out)).mono ?_; clear R1; rintro ev w1 ⟨a1, cap1, q, rfl, rfl, hS1, hn1, hn2⟩) | (refine ⟨trivial, ?_⟩; gi_at_call 16; refine (putOut_in _ _ _ _ _ _ _ _).mono ?_; rintro ev w2 ⟨rfl, rfl⟩))
  have HS1 : Hid _ := hS1
  have HBE : Hid _ := HB.out
  obtain ⟨wE, HWE⟩ : ∃ wE, Hid (wE = ((w.alloc (.cells #[.slice none 0 0] 22)).alloc (.cells #[.nilIface] 25)).drewN q) := ⟨_, rfl⟩
  rw [← HWE.out] at hS1 ⊢
  have hEs : wE.heap.size = w.heap.size + 2 := by rw [HWE.out]; show ((w.alloc _).alloc _).heap.size = _; simp
  have hBw : Below w.heap.size w wE := by rw [HWE.out]; exact below_drewN HB.out q
  have c0 : Boxed wE w.heap.size 22 (.slice none 0 0) := by
    rw [HWE.out]
    exact show Boxed ((w.alloc (.cells #[.slice none 0 0] 22)).alloc (.cells #[.nilIface] 25)) w.heap.size 22 (.slice none 0 0) from (Boxed.new w 22 (.slice none 0 0)).alloc _
  have c1 : Boxed wE (w.heap.size + 1) 25 .nilIface := by
    rw [HWE.out]
    have := Boxed.new (w.alloc (.cells #[.slice none 0 0] 22)) 25 .nilIface
    rw [World.size_alloc] at this
    exact this
  have c2 := Boxed.new wE 3 (.int .i64 m)
  have c4 := Boxed.new ((wE.alloc (.cells #[.int .i64 m] 3)).alloc (.cells R 5)) 22 (.slice (some ⟨w.heap.size + 1 + 1 + 1, 0, none⟩) 0 m)
  have c5 := Boxed.new (((wE.alloc (.cells #[.int .i64 m] 3)).alloc (.cells R 5)).alloc (.cells #[.slice (some ⟨w.heap.size + 1 + 1 + 1, 0, none⟩) 0 m] 22)) 22 (.slice a0 L0 cap0)
  have c6 := Boxed.new ((((wE.alloc (.cells #[.int .i64 m] 3)).alloc (.cells R 5)).alloc (.cells #[.slice (some ⟨w.heap.size + 1 + 1 + 1, 0, none⟩) 0 m] 22)).alloc (.cells #[.slice a0 L0 cap0] 22)) 22 (.slice a1 r.length cap1)
  have c3 := World.alloc_heap_new (wE.alloc (.cells #[.int .i64 m] 3)) (.cells R 5)
  simp only [World.size_alloc, hEs] at c2 c3 c4 c5 c6
  have hI0 : ApI w wE w.heap.size m [] (((((wE.alloc (.cells #[.int .i64 m] 3)).alloc (.cells R 5)).alloc (.cells #[.slice (some ⟨w.heap.size + 1 + 1 + 1, 0, none⟩) 0 m] 22)).alloc (.cells #[.slice a0 L0 cap0] 22)).alloc (.cells #[.slice a1 r.length cap1] 22)) := by
    refine ⟨((((c0.alloc _).alloc _).alloc _).alloc _).alloc _, ((((c1.alloc _).alloc _).alloc _).alloc _).alloc _, (((c2.alloc _).alloc _).alloc _).alloc _, (c4.alloc _).alloc _, ⟨by simp [flat], .inr ⟨_, m, R, rfl, by omega, ?_, Nat.zero_le _, by unfold maxLen; omega, by rw [HR.out]; simp [madeCells], by simp [flat]⟩⟩, Nat.zero_le _, (fun x h => by cases h), (by simp [hEs]),
      ((((hBw.alloc (by omega) _).alloc (by simp; omega) _).alloc (by simp; omega) _).alloc (by simp; omega) _).alloc (by simp; omega) _,
      (((((Below.refl _ wE).alloc (by omega) _).alloc (by simp) _).alloc (by simp; omega) _).alloc (by simp; omega) _).alloc (by simp; omega) _⟩
    rw [Below.heap_alloc _ _ _ (by simp; omega), Below.heap_alloc _ _ _ (by simp; omega), Below.heap_alloc _ _ _ (by simp; omega)]
    exact c3
  obtain ⟨WL, HWL⟩ : ∃ WL, Hid ((((((wE.alloc (.cells #[.int .i64 m] 3)).alloc (.cells R 5)).alloc (.cells #[.slice (some ⟨w.heap.size + 1 + 1 + 1, 0, none⟩) 0 m] 22)).alloc (.cells #[.slice a0 L0 cap0] 22)).alloc (.cells #[.slice a1 r.length cap1] 22)) = WL) := ⟨_, rfl⟩
  have hLs : WL.heap.size = w.heap.size + 7 := by rw [← HWL.out]; simp [hEs]
  have HES : Hid (wE.heap.size = w.heap.size + 2) := hEs
  have c5 := c5.alloc (.cells #[.slice a1 r.length cap1] 22)
  rw [HWL.out] at hI0 c5 c6 ⊢
  refine wpIn_rangeFunc_ownG (F := Fence.wide) (n := 3) rfl (by omega) (gf := 24) (lb := #[.pointer (some ⟨w.heap.size + 1 + 1 + 1 + 1 + 1 + 1, 0, none⟩), .pointer (some ⟨w.heap.size + 1 + 1 + 1 + 1 + 1, 0, none⟩)]) rfl trivial (enters_of Tryd.func24 (by kernel_rfl) rfl)
    (out_stops 2 (by omega) wE WL (w.heap.size + 1 + 1 + 1 + 1 + 1 + 1) (w.heap.size + 1 + 1 + 1 + 1 + 1) a0 a1 cap0 cap1 base r (hSb.below hBw) hS1 hrB (by rw [← HL0.out]; exact hlb) (by omega) hI0.b2 (by omega) (by omega) c6.cell (by rw [← HL0.out]; exact c5.cell))
    kp_t (kp_b (by omega) (by omega)) (Below.refl _ _) (fun _ => rfl) (ApI w wE w.heap.size m) (ApX w wE w.heap.size m) (ApI.own w wE m _ (by omega) (by omega) _) (ApX.own w wE m _ (by omega) _) hI0
    (fun x => { tmps := #[Value.slice a0 L0 cap0, Value.slice ad d.length cd, undef, undef, .pointer (some ⟨w.heap.size, 0, none⟩), .pointer (some ⟨w.heap.size + 1, 0, none⟩), .int .i64 L0, .pointer (some ⟨w.heap.size + 1 + 1, 0, none⟩), .slice a1 r.length cap1, .nilIface, .pointer (some ⟨w.heap.size + 1 + 1 + 1 + 1, 0, none⟩), .slice x.ad x.c.length x.cap, .bool x.ok, .tuple #[.int .i64 L0, .int .i64 m, .slice a1 r.length cap1, .nilIface], .slice ad d.length cd, .tuple #[.int .i64 L0, .int .i64 m, .slice a1 r.length cap1, .nilIface], .int .i64 L0, .int .i64 m, .slice a1 r.length cap1, .nilIface, .nilIface, .bool false, undef, .int .i64 L0, .slice a0 L0 cap0, .int .i64 L0, .bool false, .bool false, .int .i64 m, .bool (decide ((100000 : Int) < m)), .bool (decide ((100000 : Int) < m)), undef, .int .i64 m, .slice (some ⟨w.heap.size + 1 + 1 + 1, 0, none⟩) 0 m, .slice a0 L0 cap0, .slice a1 r.length cap1, .func (.func 24) #[] #[.pointer (some ⟨w.heap.size + 1 + 1 + 1 + 1 + 1 + 1, 0, none⟩), .pointer (some ⟨w.heap.size + 1 + 1 + 1 + 1 + 1, 0, none⟩)], .slice x.ad x.c.length x.cap, .bool x.ok, undef, undef, undef, undef, undef, undef, undef, undef, undef, undef, undef, undef, undef, undef, undef, undef, undef, undef, undef, undef, undef], defers := [] }) ?assign ?body ?done ?stop
  case assign =>
    intro l x W K hK
    dsimp only [Itm.enc]
    gi_wp2
    exact hK
  case body =>
    rintro l pre x W hI hlt
    have HI : Hid _ := hI
    obtain ⟨hr0, hr1, hmk, hout, hrow, hle, hok, hlt', hb1, hb2⟩ := hI
    have k0 := hr0.cell
    have f0 := hr0.frozen
    have k1 := hr1.cell
    have f1 := hr1.frozen
    have km := hmk.cell
    have ko := hout.cell
    have fo := hout.frozen
    obtain ⟨ad, cap, c, ok, sl, ne⟩ := x
    dsimp only
    cases ok with
    | false =>
      gi_wp2
      exact ⟨((KeepsOthers.setCell _ _ _).trans (KeepsOthers.setCell _ _ _)).from _, rfl, ⟨pre, _, rfl, hle, hok, .inl rfl⟩, (hr0.set _).other (by omega) _, (hr1.other (by omega) _).set _, (hb1.setCell (Nat.le_refl _) _).setCell (by show w.heap.size ≤ w.heap.size + 1; omega) _⟩
    | true =>
      obtain ⟨b, off, rfl, hb, hat⟩ := sl.at_ (ne rfl)
      by_cases hlong : m < (flat pre).length + c.length
      · have hlZ : (m : Int) - (flat pre).length < c.length := by omega
        have hl0 : (0 : Int) ≤ (m : Int) - (flat pre).length := by omega
        gi_wp2
        exact ⟨((KeepsOthers.setCell _ _ _).trans (KeepsOthers.setCell _ _ _)).from _, rfl, ⟨pre, _, rfl, hle, hok, .inr hlong⟩, (hr0.set _).other (by omega) _, (hr1.other (by omega) _).set _, (hb1.setCell (Nat.le_refl _) _).setCell (by show w.heap.size ≤ w.heap.size + 1; omega) _⟩
      · have hlZ : ¬ (m : Int) - (flat pre).length < c.length := by omega
        have hl0 : (0 : Int) ≤ (m : Int) - (flat pre).length := by omega
        have hcs : ∀ j u, (c.map (Value.int .u8))[j]? = some u → W.cell? ((⟨b, off, none⟩ : Addr).add j) = some u := fun j u hu => by
          rw [List.getElem?_map] at hu
          cases hj : c[j]? with
          | none => rw [hj] at hu; cases hu
          | some z =>
            rw [hj] at hu
            cases hu
            have hjl := (List.getElem?_eq_some_iff.1 hj).1
            have h1 := (hb2.cell (p := ⟨b, off + j, none⟩) hb).trans (hat j hjl)
            simp only [List.getD_eq_getElem?_getD, hj, Option.getD_some] at h1
            by_cases h0 : j = 0
            · subst h0; simpa [Addr.add] using h1
            · simpa [Addr.add, h0] using h1
        gi_wp2_with (gi_at_builtin; refine wpListIn_append_fits _ rfl _ _ 22 rfl w.heap.size 5 i5 1 Tryd.underlying22 hi hz1 (w.heap.size + 1 + 1 + 1) (flat pre).length m _ rfl hrow ⟨b, off, none⟩ c.length cap (c.map (Value.int .u8)) rfl (by simp) hcs (ints_oneCell _ _) (by omega) ?_; intro w1 hown1 hgrow1; obtain ⟨hbx1, hkf1, hkp1, hI1⟩ := ApI.more (x := ⟨some ⟨b, off, none⟩, cap, c, true, sl, ne⟩) rfl hEs HI.out rfl (by show (flat pre).length + c.length ≤ m; omega) hown1 hgrow1; have ko1 := hbx1.cell; have fo1 := hbx1.frozen)
        exact ⟨hkf1 _, hkp1, hI1⟩
  case done =>
    rintro D xs W hD hS hI hK
    have hE := hI.ended hS
    have k0 := hI.r0.cell
    have f0 := hI.r0.frozen
    have k1 := hI.r1.cell
    have f1 := hI.r1.frozen
    have km := hI.mks.cell
    have ko := hI.out.cell
    have fo := hI.out.frozen
    have hle := hI.le
    have hr0 := hI.r0
    have hr1 := hI.r1
    have hrow := hI.row
    have hb1 := hI.b1
    by_cases hfull : (flat xs).length = m
    · rw [if_pos hfull] at hE
      have hlZ : ¬ ((flat xs).length : Int) < m := by omega
      have hrow' : W.ownsRow w.heap.size 5 1 (.slice (some ⟨w.heap.size + 1 + 1 + 1, 0, none⟩) m m) (flat xs).length ((flat xs).map (Value.int .u8)) := by
        have h := hrow
        simp only [hfull] at h ⊢
        exact h
      have HE : Hid _ := hE
      have HK : Hid _ := hK
      clear hI hE
      gi_wp2
      have b0 := ((hr0.set (.slice (some ⟨w.heap.size + 1 + 1 + 1, 0, none⟩) m m)).other (B' := w.heap.size + 1) (by omega) .nilIface)
      have b1 := ((hr1.other (B' := w.heap.size) (by omega) (.slice (some ⟨w.heap.size + 1 + 1 + 1, 0, none⟩) m m)).set .nilIface)
      have hK2 := ((KeepsOthers.setCell W ⟨w.heap.size, 0, none⟩ (.slice (some ⟨w.heap.size + 1 + 1 + 1, 0, none⟩) m m)).trans (KeepsOthers.setCell _ ⟨w.heap.size + 1, 0, none⟩ .nilIface)).same D _ HK.out rfl
      refine ap_ret _ _ D w.heap.size _ _ rfl rfl b0 b1 hK2 _ ?_
      rw [HE.out]
      refine ⟨?_, _, rfl, ?_⟩
      · exact ((hb1.setCell (Nat.le_refl _) _).setCell (by show w.heap.size ≤ w.heap.size + 1; omega) _).trans (belowK_b (w := w) (Nat.le_refl _) _ D _ _ (by omega) hK2 rfl rfl)
      · exact ownsRow_putObj ((hrow'.kept (grownBy_setCell' _ _ _) (.inr (by simp [Value.ownBlock]; omega))).kept (grownBy_setCell' _ _ _) (.inr (by simp [Value.ownBlock]; omega))) _ hK2 rfl
    · rw [if_neg hfull] at hE
      have hlZ : ((flat xs).length : Int) < m := by omega
      have HE : Hid _ := hE
      have HK : Hid _ := hK
      clear hI hE
      gi_wp2
      have b0 := ((hr0.set (.slice none 0 0)).other (B' := w.heap.size + 1) (by omega) (.iface 35 (.int .i64 30)))
      have b1 := ((hr1.other (B' := w.heap.size) (by omega) (.slice none 0 0)).set (.iface 35 (.int .i64 30)))
      have hK2 := ((KeepsOthers.setCell W ⟨w.heap.size, 0, none⟩ (.slice none 0 0)).trans (KeepsOthers.setCell _ ⟨w.heap.size + 1, 0, none⟩ (.iface 35 (.int .i64 30)))).same D _ HK.out rfl
      refine ap_ret _ _ D w.heap.size _ _ rfl rfl b0 b1 hK2 _ ?_
      rw [HE.out]
      exact ⟨((hb1.setCell (Nat.le_refl _) _).setCell (by show w.heap.size ≤ w.heap.size + 1; omega) _).trans (belowK_b (w := w) (Nat.le_refl _) _ D _ _ (by omega) hK2 rfl rfl), rfl⟩
  case stop =>
    rintro D c pre W hD hS hX hK
    have HE : Hid _ := hX.ended hS
    obtain ⟨rfl, _, hr0, hr1, hb1⟩ := hX
    have HK : Hid _ := hK
    gi_wp2
    refine ap_ret _ _ D w.heap.size _ _ rfl rfl hr0 hr1 HK.out _ ?_
    rw [HE.out]
    exact ⟨hb1.trans (belowK_b (w := w) (Nat.le_refl _) _ D _ _ (by omega) HK.out rfl rfl), rfl⟩
/-- 'Apply', at whatever bytes. -/
theorem apply_any (a0 ad : Option Addr) (cap0 cd : Nat) (base d : List Int) (w : World) (hzd : IsB d) (hlb : base.length ≤ 400000) (hld : d.length ≤ 400000) (hSb : Sl w a0 cap0 base) (hSd : Sl w ad cd d) :
    Calls Tryd.prog 7 #[.slice a0 base.length cap0, .slice ad d.length cd] w (PostA w (app base d)) := by
  cases e : szs d with
  | none =>
    have := apply_none a0 ad cap0 cd base d w hzd hlb hld hSd e
    simpa only [app, e] using this
  | some x =>
    obtain ⟨n, m, r⟩ := x
    have hap : app base d = if n = base.length ∧ m ≤ 100000 then appS base m r [] else none := by simp only [app, e, appS]
    rw [hap]
    by_cases hc : n = base.length ∧ m ≤ 100000
    · rw [if_pos hc]
      obtain ⟨rfl, hm⟩ := hc
      have h1 : IsB r ∧ r.length ≤ d.length := by
        unfold szs at e
        split at e
        · cases e
        · rename_i e1
          split at e
          · cases e
          · rename_i e2
            simp only [Option.some.injEq, Prod.mk.injEq] at e
            obtain ⟨_, _, rfl⟩ := e
            have g1 := sz_isB e1 hzd
            have g2 := sz_isB e2 g1.1
            exact ⟨g2.1, by omega⟩
      exact apply_good a0 ad cap0 cd base d w hzd hlb hld hSb hSd m r e hm h1.1 h1.2
    · rw [if_neg hc]
      exact apply_bad a0 ad cap0 cd base d w hzd hlb hld hSd n m r e (by omega)
end Go.Proofs.YtblegkefeiefjaaDoor
