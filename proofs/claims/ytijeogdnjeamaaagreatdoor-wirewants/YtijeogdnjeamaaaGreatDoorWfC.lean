/- 'readWanting'; the closure of 'ReadWant'. -/
import Derived.Test.YtijeogdnjeamaaaGreatDoorWfB
namespace Go.Proofs.YtijeogdnjeamaaaGreatDoor
open Go.RowKit
set_option linter.unusedVariables false
set_option linter.unusedSimpArgs false
theorem results_cell {P : Program} {fn : Func} {p : Tmp} {ty : TypeId} (h : fn.results = #[.cell p ty]) (tmps : Array Value) (w : World) (g : Nat) (cs : List Value) (d : TypeDesc)
    (hp : tmps.getD p undef = .pointer (some ⟨g, 0, none⟩)) (hc : w.rangeAt g 0 cs) (hu : P.underlying ty = some d) (hd : d.isRow = true) (hi : (P.info? ty).map (·.size) = some cs.length) :
    (results fn tmps).run P w = .ok (.agg cs.toArray) w := by
  have hp' : tmps[p]?.getD undef = .pointer (some ⟨g, 0, none⟩) := by simpa using hp
  simp [results, h, hp', asAddr, run_loadVar_mid w g 0 ty cs d hc hu hd hi]
theorem Tryz.results75 : Tryz.f75.results = #[.cell 2 145] := by kernel_rfl
theorem size145 : (Tryz.prog.info? 145).map (·.size) = some 2 := by kernel_rfl
theorem run_b145 (v1 v2 : Value) (w : World) (h1 : v1.oneCell' = true) (h2 : v2.oneCell' = true) : (Instr.build 145 #[(0, v1), (1, v2)]).run Tryz.prog w = .ok (.agg #[v1, v2]) w := by
  cases v1 <;> first
    | (simp [Value.oneCell'] at h1; done)
    | (cases v2 <;> first
        | (simp [Value.oneCell'] at h2; done)
        | kernel_rfl)
theorem wpList_build2 {P : Program} {ops : Array Oper} {rest : List Oper} {o : Oper} {a : Act} {w w' : World} {Q : Exit → Act → World → Prop} (hg : o.guard = none) (t : Nat) (x0 x1 : Operand) (ho : o.op = .build t #[(0, x0), (1, x1)]) (u0 u1 v : Value) (h0 : a.eval x0 = u0) (h1 : a.eval x1 = u1)
    (hr : (Instr.build t #[(0, u0), (1, u1)]).run P w = .ok v w')
    (h : wpList P ops Q rest (a.put o.dst v) w') : wpList P ops Q (o :: rest) a w := by
  refine wpList_plain hg fun K hK => ?_
  unfold Oper.wp execOp
  simp [ho, h0, h1, hr, Result.andThen]
  exact hK _ _ h
def PostRT (ts : List Str) (w : World) (e : Ending) (w' : World) : Prop :=
  ∃ v1 v2, e = .returned (.agg #[v1, v2]) ∧ Bi 68 w w' w.heap.size v1 (rdW ts).1 ∧ Bi 68 w w' w.heap.size v2 (rdW ts).2
theorem drop_min (l : List Str) (j : Nat) (h : j = min 1 l.length) : l.drop j = l.drop 1 := by
  cases l with
  | nil => simp
  | cons x l => rw [h, List.length_cons, Nat.min_eq_left (by omega)]
theorem und145 : ∃ d, Tryz.prog.underlying 145 = some d ∧ d.isRow = true := ⟨_, Tryz.underlying145, rfl⟩
set_option maxRecDepth 20000 in
set_option maxHeartbeats 1000000 in
theorem readWanting_any {w : World} (a : Option Addr) (cap : Nat) (ts : List Str) (hP : PS w a cap ts) (hn : ts.length ≤ 20000) (hl : ∀ t ∈ ts, t.length ≤ 10000) :
    Calls Tryz.prog 75 #[.slice a ts.length cap] w (PostRT ts w) := by
  obtain ⟨G, HG⟩ : ∃ n, Hid (w.heap.size = n) := ⟨_, rfl⟩
  obtain ⟨m, HM⟩ : ∃ n, Hid (ts.length = n) := ⟨_, rfl⟩
  obtain ⟨w1, HW1⟩ : ∃ u, Hid (w.alloc (.cells #[.slice none 0 0, .slice none 0 0] 145) = u) := ⟨_, rfl⟩
  have hb1 : Below G w w1 := by rw [← HW1.out, ← HG.out]; exact (Below.refl _ w).alloc (Nat.le_refl _) _
  have hs1 : w1.heap.size = G + 1 := by rw [← HW1.out, ← HG.out]; exact size_alloc _ _
  have hn1 : w1.heap[G]? = some (.cells #[.slice none 0 0, .slice none 0 0] 145 (0, 0)) := by rw [← HW1.out, ← HG.out]; exact heap_alloc_new _ _
  have C1 : Hid (Calls Tryz.prog 105 #[.slice a m cap, .string ⟨#[119, 97, 110, 116, 32]⟩] w1 (PostRL wWord ts w1 w1.heap.size)) := hid (by
    rw [← HM.out]
    exact readIDs_any wWord (by decide) a cap ts (hP.below (by rw [HG.out]; exact hb1)) hn hl)
  have C2 : Hid (∀ (W : World) (b : Option Addr) (c k : Nat) (us : List Str), Hid (us.length = k) → PS W b c us → us.length ≤ 20000 → (∀ t ∈ us, t.length ≤ 10000) → Calls Tryz.prog 105 #[.slice b k c, .string ⟨#[104, 97, 118, 101, 32]⟩] W (PostRL hWord us W W.heap.size)) := hid (fun W b c k us hk h1 h2 h3 => by
    rw [← hk.out]
    exact readIDs_any hWord (by decide) b c us h1 h2 h3)
  have HB1 := hid hb1
  have HS1 := hid hs1
  have HN1 := hid hn1
  have HNN := hid hn
  have HLL := hid hl
  have al1 : w.alloc (.cells #[.slice none 0 0, .slice none 0 0] 145) = w1 := HW1.out
  have hs0 : w.heap.size = G := HG.out
  unfold PostRT
  rw [HM.out, HG.out]
  clear hP hn hl hb1 hs1 hn1
  go_enter Tryz.func75, Tryz.ntmps75
  go_wp2_with fail
  refine C1.out.mono ?_
  rintro e w2 ⟨v1, a2, c2, hbi, rfl, hps⟩
  obtain ⟨us, HUS⟩ : ∃ u, Hid ((rdI wWord ts).2 = u) := ⟨_, rfl⟩
  rw [HUS.out] at hps
  rw [HUS.out]
  obtain ⟨k, HK⟩ : ∃ n, Hid (us.length = n) := ⟨_, rfl⟩
  rw [HK.out]
  obtain ⟨j, HJ⟩ : ∃ n, Hid (min 1 k = n) := ⟨_, rfl⟩
  have hjk : j ≤ k := by rw [← HJ.out]; omega
  have hdrop : ts.drop (rdI wWord ts).1.length = us := by rw [rdI_behind]; exact HUS.out
  have hus : us.length ≤ 20000 := by rw [← hdrop, List.length_drop]; have := HNN.out; omega
  have hul : ∀ t ∈ us, t.length ≤ 10000 := fun t ht => HLL.out t (by rw [← hdrop] at ht; exact List.mem_of_mem_drop ht)
  have hmin : (if (k : Int) < 1 then (k : Int) else 1) = (j : Int) := by rw [← HJ.out]; split <;> omega
  have hmin2 : min (1 : Int) (k : Int) = (j : Int) := by rw [← HJ.out]; omega
  obtain ⟨aa, HAA⟩ : ∃ x, Hid (adX 1 a2 c2 j = x) := ⟨_, rfl⟩
  obtain ⟨ca, HCA⟩ : ∃ x : Nat, Hid (c2 - j = x) := ⟨_, rfl⟩
  obtain ⟨na, HNA⟩ : ∃ x : Nat, Hid (k - j = x) := ⟨_, rfl⟩
  have hsl : ∀ W : World, (Instr.slice 63 (.slice a2 k c2) (some (.int .i64 j)) none none).run Tryz.prog W = .ok (.slice aa na ca) W := fun W => by
    rw [← HAA.out, ← HCA.out, ← HNA.out]
    exact sl63l _ k c2 j hjk W
  have hde : us.drop j = us.drop 1 := drop_min us j (by rw [HK.out]; exact HJ.out.symm)
  have HPF : Hid (PS w2 aa ca (us.drop 1)) := hid (by
    rw [← HAA.out, ← HCA.out, ← hde]
    exact hps.from j (by rw [HK.out]; exact hjk))
  have HNL : Hid ((us.drop 1).length = na) := hid (by rw [← hde, List.length_drop, HK.out]; exact HNA.out)
  have C2' := hid (C2.out w2 aa ca na (us.drop 1) HNL HPF.out (by rw [List.length_drop]; omega) (fun t ht => hul t (List.mem_of_mem_drop ht)))
  have HBI := hid hbi
  clear hbi hps hdrop hus hul hde
  go_wp2_with fail
  refine C2'.out.mono ?_
  rintro e w3 ⟨v2, a3, c3, hbi2, rfl, hps⟩
  have hx1 : Bi 68 w1 w3 w1.heap.size v1 (rdI wWord ts).1 := HBI.out.carry hbi2.below
  have hx2 : Bi 68 w2 w3 w2.heap.size v2 (rdI hWord (us.drop 1)).1 := hbi2
  have e1 := HBI.out.below.size
  have e2 := HS1.out
  have e3 := hbi2.below.size
  have hn3 : w3.heap[G]? = some (.cells #[.slice none 0 0, .slice none 0 0] 145 (0, 0)) := ((hbi2.below.block G (by omega)).trans (HBI.out.below.block G (by omega))).trans HN1.out
  have T1 : Hid (w3.there G 0 (#[v1, v2] : Array Value).size) := hid (there_off hn3 0 (by simp))
  obtain ⟨w4, HW4⟩ : ∃ u, Hid (w3.setCells G 0 (#[v1, v2] : Array Value).toList = u) := ⟨_, rfl⟩
  have hg4 : w3.grownBy w4 (some G) := by rw [← HW4.out]; exact grown_setCells G _ 0 w3 w3 (World.grownBy.refl _ _)
  have hR4 : Hid (w4.rangeAt G 0 [v1, v2]) := hid (by rw [← HW4.out]; exact World.rangeAt_setCells_same _ _ 0 _ (by have := T1.out; simpa using this))
  obtain ⟨xa, xc, hv1, _⟩ := hx1.px (d := []) (idw_row (rdI_wf _ _))
  obtain ⟨ya, yc, hv2, _⟩ := hx2.px (d := []) (idw_row (rdI_wf _ _))
  have hb4 : Below G w w4 := by
    have h1 : Below G w w3 := HB1.out.trans (hx1.below.mono (by omega))
    exact h1.grown hg4 (by omega) (fun k e => by cases e; omega)
  have HF1 : Hid (Bi 68 w w4 G v1 (rdW ts).1) := hid ⟨hb4, base_mono (own_keep hx1.own hg4 (fun j e => by cases e; omega)) (by omega), by have := hg4.size; omega⟩
  have HF2 : Hid (Bi 68 w w4 G v2 (rdW ts).2) := hid ⟨hb4, by
    have h1 := base_mono (own_keep hx2.own hg4 (fun j e => by cases e; omega)) (show G ≤ w2.heap.size by omega)
    unfold rdW
    rw [HUS.out]
    exact h1, by have := hg4.size; omega⟩
  have ho1 : v1.oneCell' = true := by rw [hv1]; rfl
  have ho2 : v2.oneCell' = true := by rw [hv2]; rfl
  have hbd : ∀ W : World, (Instr.build 145 #[(0, v1), (1, v2)]).run Tryz.prog W = .ok (.agg #[v1, v2]) W := fun W => run_b145 v1 v2 W ho1 ho2
  have T2 : Hid ((Tryz.prog.info? 145).map (·.size) = some (#[v1, v2] : Array Value).size) := hid size145
  have T3 : Hid ((#[v1, v2] : Array Value).all (·.oneCell') = true) := hid (by simp [ho1, ho2])
  obtain ⟨kk, HKK⟩ : ∃ n, Hid ((rdI hWord (us.drop 1)).2.length = n) := ⟨_, rfl⟩
  rw [HKK.out]
  clear hbi2 hps hx1 hx2 e1 e2 e3 hn3 hg4 hb4 hv1 hv2 ho1 ho2
  go_wp2_with (first
    | (refine wpList_build2 rfl 145 _ _ rfl v1 v2 _ rfl rfl (hbd _) ?_)
    | (refine wpList_store_mid rfl 145 _ _ rfl G 0 #[v1, v2] rfl rfl T1.out T2.out T3.out ?_; rw [HW4.out])
    | fail)
  obtain ⟨d, hd1, hd2⟩ := und145
  refine bodyPost_ret (results_cell Tryz.results75 _ _ G [v1, v2] d rfl hR4.out hd1 hd2 size145) rfl ?_
  exact ⟨v1, v2, rfl, HF1.out, HF2.out⟩
theorem Tryz.results76 : Tryz.f76.results = #[.tmp 2, .tmp 3] := by kernel_rfl
set_option maxRecDepth 20000 in
set_option maxHeartbeats 1000000 in
theorem writeBack_any {w : World} (a : Option Addr) (cap : Nat) (W : List (List Int)) (hP : Pa w a cap W) (hW : IdL W) (hn : W.length ≤ 400) (b : Option Addr) (cbp : Nat) (H : List (List Int)) (hQ : Pa w b cbp H) (hH : IdL H) (hm : H.length ≤ 400) (hd : Db w) :
    Calls Tryz.prog 76 #[.agg #[.slice a W.length cap, .slice b H.length cbp]] w (PostWW W H w) := by
  obtain ⟨n, HN⟩ : ∃ n, Hid (W.length = n) := ⟨_, rfl⟩
  obtain ⟨m, HM⟩ : ∃ n, Hid (H.length = n) := ⟨_, rfl⟩
  obtain ⟨G, HG⟩ : ∃ n, Hid (w.heap.size = n) := ⟨_, rfl⟩
  obtain ⟨w1, HW1⟩ : ∃ u, Hid (w.alloc (.cells #[.slice a n cap, .slice b m cbp] 145) = u) := ⟨_, rfl⟩
  have hb1 : Below G w w1 := by rw [← HW1.out, ← HG.out]; exact (Below.refl _ w).alloc (Nat.le_refl _) _
  have hs1 : w1.heap.size = G + 1 := by rw [← HW1.out, ← HG.out]; exact size_alloc _ _
  have hn1 : w1.heap[G]? = some (.cells #[.slice a n cap, .slice b m cbp] 145 (0, 0)) := by rw [← HW1.out, ← HG.out]; exact heap_alloc_new _ _
  have hc0 : w1.cell? ⟨G, 0, none⟩ = some (.slice a n cap) := by rw [cell_of_row _ G 0 _ _ _ hn1]; rfl
  have hc1 : w1.cell? ⟨G, 1, none⟩ = some (.slice b m cbp) := by rw [cell_of_row _ G 1 _ _ _ hn1]; rfl
  have CC : Hid (Calls Tryz.prog 13 #[.slice a n cap, .slice b m cbp] w1 (PostWW W H w1)) := hid (by
    rw [← HN.out, ← HM.out]
    exact writeWant_any a cap W (hP.below (by rw [HG.out]; exact hb1)) hW hn b cbp H (hQ.below (by rw [HG.out]; exact hb1)) hH hm (hd.below (by rw [HG.out]; exact hb1)))
  have HB1 := hid hb1
  have HS1 : Hid (G ≤ w1.heap.size) := hid (by omega)
  have al1 : w.alloc (.cells #[.slice a n cap, .slice b m cbp] 145) = w1 := HW1.out
  have hs0 : w.heap.size = G := HG.out
  unfold PostWW
  rw [HN.out, HM.out, HG.out]
  clear hP hn hW hQ hm hH hd hb1 hs1 hn1
  go_enter Tryz.func76, Tryz.ntmps76
  go_wp2_with fail
  refine CC.out.mono ?_
  rintro e w2 ⟨hb2, ⟨h1, h2, v, rfl, ho⟩ | ⟨h1, rfl⟩⟩
  · have HB2 : Hid (Below G w w2) := hid (HB1.out.trans (hb2.mono HS1.out))
    have HO : Hid (w2.ownsRow G 5 1 v (wB W H).length (bv (wB W H))) := hid (base_mono ho HS1.out)
    have H1 := hid h1
    have H2 := hid h2
    clear hb2 ho h1 h2
    go_wp2
    refine bodyPost_ret (results_tmp2 Tryz.results76 _ _ _) rfl ?_
    exact ⟨HB2.out, .inl ⟨H1.out, H2.out, _, rfl, HO.out⟩⟩
  · have HB2 : Hid (Below G w w2) := hid (HB1.out.trans (hb2.mono HS1.out))
    have H1 := hid h1
    clear hb2 h1
    go_wp2
    refine bodyPost_ret (results_tmp2 Tryz.results76 _ _ _) rfl ?_
    exact ⟨HB2.out, .inr ⟨H1.out, rfl⟩⟩
end Go.Proofs.YtijeogdnjeamaaaGreatDoor
