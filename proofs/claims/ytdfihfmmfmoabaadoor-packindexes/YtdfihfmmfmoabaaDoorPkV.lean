/- The document's 'ReadIdx'. -/
import Derived.Test.YtdfihfmmfmoabaaDoorPkU
import Derived.Test.YtdfihfmmfmoabaaDoorPkQ
namespace Go.Proofs.YtdfihfmmfmoabaaDoor
open Go.RowKit Go.Shelf
variable [Inhabited Pn]
set_option linter.unusedVariables false
set_option linter.unusedSectionVars false
set_option linter.unusedSimpArgs false
theorem built23 : Tryd.prog.built 23 [] = some (row .u8 z20).toArray := by kernel_rfl
theorem Tryd.results23 : Tryd.f23.results = #[.tmp 2, .cell 3 23, .tmp 4] := by kernel_rfl
theorem sizeA23 : (Tryd.prog.info? 23).map (·.size) = some 20 := by kernel_rfl
/-- What it gives. -/
def PostRd (B : List Int) (w : World) (e : Ending) (w' : World) : Prop := Below w.heap.size w w' ∧
  (((1072 ≤ B.length ∧ Idx B) ∧ ∃ a cap, e = .returned (.tuple #[.slice a ((B.length - 1072) / 28) cap, .agg (row .u8 (rd20 B (B.length - 40))).toArray, .bool true]) ∧ Pp w' a cap (rdP B ((B.length - 1072) / 28))) ∨
   (¬ (1072 ≤ B.length ∧ Idx B) ∧ e = .returned (.tuple #[.slice none 0 0, .agg (row .u8 z20).toArray, .bool false])))
theorem wrap_nn (x : Int) (h0 : 0 ≤ x) (h : x < 9223372036854775808) : IntKind.i64.wrap x = x := by rw [IntKind.wrap_i64]; omega
theorem heap_setRow_ne (w : World) (g k : Nat) (R : Array Value) (h : k ≠ g) : (w.setRow g R).heap[k]? = w.heap[k]? := by
  unfold World.setRow
  simp [Array.getElem?_modify, Ne.symm h]
theorem heap_setCell_ne (w : World) (p : Addr) (k : Nat) (v : Value) (h : k ≠ p.block) : (w.setCell p v).heap[k]? = w.heap[k]? := by
  unfold World.setCell
  simp [Array.getElem?_modify, Ne.symm h]
theorem bp_change {e : TypeId} {w0 w w' : World} {B K : Nat} {v : Value} {l : List Pl} (h : Bp e w0 w B v l) (hv : ∀ k, v.ownBlock = some k → k ≠ K) (hB : B ≤ K) (hg : w.grownBy w' (some K)) : Bp e w0 w' B v l :=
  ⟨h.below.grown hg h.le (fun k hk => by cases hk; exact hB), h.own.kept (row := some K) hg (by
    cases hb : v.ownBlock with
    | none => exact .inl rfl
    | some k => exact .inr (fun e => by cases e; exact hv _ hb rfl)), Nat.le_trans h.le hg.size⟩
theorem grown_setRow (w : World) (K : Nat) (R : Array Value) : w.grownBy (w.setRow K R) (some K) := ⟨rfl, rfl, rfl, by unfold World.setRow; simp, fun k _ hne => heap_setRow_ne w K k R (fun e => hne (by rw [e]))⟩
theorem grown_sc (w : World) (K o : Nat) (v : Value) : w.grownBy (w.setCell ⟨K, o, none⟩ v) (some K) := ⟨rfl, rfl, rfl, by unfold World.setCell; simp, fun k _ hne => heap_setCell_ne w _ k v (fun e => hne (by rw [e]))⟩
theorem grown_scs (K : Nat) : ∀ (vs : List Value) (o : Nat) (w : World), w.grownBy (w.setCells K o vs) (some K)
  | [], _, w => ⟨rfl, rfl, rfl, Nat.le_refl _, fun _ _ _ => rfl⟩
  | v :: vs, o, w => (grown_sc w K o v).trans (grown_scs K vs (o + 1) _)
theorem bp_setRow {e : TypeId} {w0 w : World} {B K : Nat} {v : Value} {l : List Pl} (h : Bp e w0 w B v l) (hv : ∀ k, v.ownBlock = some k → k ≠ K) (hB : B ≤ K) (R : Array Value) : Bp e w0 (w.setRow K R) B v l := bp_change h hv hB (grown_setRow w K R)
theorem bp_setCell {e : TypeId} {w0 w : World} {B K : Nat} {v : Value} {l : List Pl} (h : Bp e w0 w B v l) (hv : ∀ k, v.ownBlock = some k → k ≠ K) (hB : B ≤ K) (o : Nat) (u : Value) : Bp e w0 (w.setCell ⟨K, o, none⟩ u) B v l := bp_change h hv hB (grown_sc w K o u)
theorem pp_change {w w' : World} {a : Option Addr} {cap K : Nat} {l : List Pl} (h : Pp w a cap l) (hK : ∀ p : Addr, a = some p → p.block ≠ K) (hg : w.grownBy w' (some K)) : Pp w' a cap l :=
  ⟨h.capl, fun h0 => by
    obtain ⟨b, off, e1, e2, e3⟩ := h.at_ h0
    refine ⟨b, off, e1, Nat.lt_of_lt_of_le e2 hg.size, fun i hi j v hv => ?_⟩
    rw [World.cell?_of_block (a := ⟨b, off + i * 22 + j, none⟩) (hg.block b e2 (fun e => hK _ e1 (by cases e; rfl)))]
    exact e3 i hi j v hv, h.nil⟩
theorem run_build48b (x : Pl) (h : x.id.length = 20) (w : World) : (Instr.buildSlice 33 1 #[(0, .agg (plV x).toArray)]).run Tryd.prog w = .ok (.slice (some ⟨w.heap.size, 0, none⟩) 1 1) (w.alloc (.cells (plV x).toArray 48)) := run_build48 x h w
set_option maxRecDepth 20000 in
set_option maxHeartbeats 8000000 in
theorem refRead_any (a : Option Addr) (cap : Nat) (B : List Int) (w : World) (hz : IsB B) (hlen : B.length ≤ 20000) (hS : Sl w a cap B) :
    Calls Tryd.prog 23 #[.slice a B.length cap] w (PostRd B w) := by
  obtain ⟨G, HG⟩ : ∃ G, Hid (w.heap.size = G) := ⟨_, rfl⟩
  obtain ⟨LN, HLN⟩ : ∃ n, Hid (B.length = n) := ⟨_, rfl⟩
  have hLN : LN ≤ 20000 := by rw [← HLN.out]; exact hlen
  obtain ⟨zr, HZ⟩ : ∃ zr : Array Value, Hid (zr = (row .u8 z20).toArray) := ⟨_, rfl⟩
  have hz23 : ∀ w : World, (zeroValue 23).run Tryd.prog w = .ok (.agg zr) w := fun w => by rw [HZ.out]; kernel_rfl
  obtain ⟨zp, HZP⟩ : ∃ zr : Array Value, Hid (zr = (plV p0).toArray) := ⟨_, rfl⟩
  have hz48 : ∀ w : World, (zeroValue 48).run Tryd.prog w = .ok (.agg zp) w := fun w => by rw [HZP.out]; exact zero48 w
  have HBU : Hid (Tryd.prog.built 23 [] = some zr) := hid (by rw [HZ.out]; exact built23)
  have HZS : Hid (zr.size = 20) := hid (by rw [HZ.out]; rfl)
  obtain ⟨ZR, HZR⟩ : ∃ Z : List Value, Hid (row .u8 z20 = Z) := ⟨_, rfl⟩
  have HZA : Hid (zr = ZR.toArray) := hid (by rw [HZ.out, HZR.out])
  have HZRL : Hid (ZR.length = 20) := hid (by rw [← HZR.out]; rfl)
  have hiZ : (Tryd.prog.info? 23).map (·.size) = some ZR.length := by rw [HZRL.out]; exact sizeA23
  have IZ : Hid ((Tryd.prog.info? 23).map (·.size) = some zr.size) := hid (by rw [HZS.out]; exact sizeA23)
  have IZ2 : Hid ((Tryd.prog.info? 23).map (·.size) = some ZR.toArray.size) := hid (by rw [List.size_toArray]; exact hiZ)
  have OZ : Hid (zr.all (·.oneCell') = true) := hid (by rw [HZ.out]; exact all_oneCell_toArray (row_one _ _))
  have OZ2 : Hid (ZR.toArray.all (·.oneCell') = true) := hid (by rw [← HZA.out]; exact OZ.out)
  obtain ⟨w1, HW1⟩ : ∃ w1, Hid ((w.alloc (.cells zr 23)).alloc (.cells zr 23) = w1) := ⟨_, rfl⟩
  have hb1 : Below w.heap.size w w1 := by rw [← HW1.out]; exact ((Below.refl _ w).alloc (Nat.le_refl _) _).alloc (by simp) _
  have HB1 : Hid (Below G w w1) := hid (by rw [← HG.out]; exact hb1)
  have HR1 : Hid (w1.heap[G]? = some (.cells zr 23 (0, 0))) := hid (by
    rw [← HW1.out, ← HG.out]
    show ((w.heap.push _).push _)[w.heap.size]? = _
    rw [Array.getElem?_push, if_neg (by simp), Array.getElem?_push, if_pos rfl])
  have HV1 : Hid (w1.heap[G + 1]? = some (.cells zr 23 (0, 0))) := hid (by
    rw [← HW1.out, ← HG.out]
    show ((w.heap.push _).push _)[w.heap.size + 1]? = _
    rw [Array.getElem?_push, if_pos (by simp)])
  have HSB : Hid (∀ W, Below G w W → Sl W a cap B) := fun W hW => hS.below (by rw [HG.out]; exact hW)
  have hsz1 : (w.alloc (.cells zr 23)).heap.size = w.heap.size + 1 := by simp
  clear hb1 hS
  rw [HLN.out]
  obtain ⟨n, HN⟩ : ∃ n, Hid ((LN - 1072) / 28 = n) := ⟨_, rfl⟩
  have HNB : Hid ((B.length - 1072) / 28 = n) := hid (by rw [HLN.out]; exact HN.out)
  have HBADZ : Hid (¬ (1072 ≤ B.length ∧ Idx B) → ∀ W, Below G w W → PostRd B w (.returned (.tuple #[.slice none 0 0, .agg ZR.toArray, .bool false])) W) := fun h W hW => ⟨by rw [HG.out]; exact hW, .inr ⟨h, by rw [← HZR.out]⟩⟩
  by_cases h1072 : LN < 1072
  · have h1i : (LN : Int) < 1072 := by omega
    have HNO : Hid (¬ (1072 ≤ B.length ∧ Idx B)) := fun h => by have := h.1; rw [HLN.out] at this; omega
    have HSS : Hid (RW (G + 1) G ZR.toArray.size ZR w1.drew) := hid ⟨range_row (by rw [← HZA.out]; exact HV1.out), there_off (show w1.drew.heap[G]? = _ from HR1.out) (by rw [← HZA.out]; exact Nat.le_refl _)⟩
    have HBd : Hid (Below G w w1.drew) := hid (below_drewH HB1.out 1)
    go_enter Tryd.func23, Tryd.ntmps23
    go_wp2_with fail
    rw [HW1.out, HG.out]
    refine wp_region_held_drew (S := RW (G + 1) G ZR.toArray.size ZR) (by kernel_rfl) (by exact HSS.out) (fun hHeld => ?_)
    generalize w1.drew = u0 at hHeld HSS HBd ⊢
    clear HSS
    refine takeL (i := 0) (v := .agg ZR.toArray) rfl (by kernel_rfl) (by kernel_rfl) (by kernel_rfl) (fun _ _ _ h => h) (yieldsIf_load_mid (by kernel_rfl) 23 _ rfl (G + 1) (0) (by rfl) ZR _ (fun w' h => h.r) Tryd.underlying23 rfl hiZ) hHeld ?_
    try simp only [Act.put, List.setIfInBounds_toArray, List.set_cons_zero, List.set_cons_succ]
    refine takeL (i := 1) (v := ?_) rfl (by kernel_rfl) (by kernel_rfl) (by kernel_rfl) (fun _ _ _ h => h) (Or.inl ⟨by rfl, ?_⟩) hHeld ?_
    rotate_left
    · rintro w' ⟨r, t⟩; go_simp; rfl
    try simp only [Act.put, List.setIfInBounds_toArray, List.set_cons_zero, List.set_cons_succ]
    refine wpAnyH_ready (rs := [2]) (by kernel_rfl) (by simp) ?_
    refine consL rfl (fun KK hKK => ?_) AllReadyH.nil
    refine step_store (by rfl) 23 _ _ (by rfl) G 0 ZR.toArray (by rfl) (by rfl) hHeld.t IZ2.out OZ2.out ?_
    refine hKK.out _ _ ⟨World.rangeAt_setCells_apart hHeld.r G 0 _ (.inl (by omega)), World.there_setCells hHeld.t _ _ _⟩ (fun hHeld2 => ?_)
    clear hKK KK
    try simp only [Act.put, List.setIfInBounds_toArray, List.set_cons_zero, List.set_cons_succ]
    refine takeL (i := 3) (v := ?_) rfl (by kernel_rfl) (by kernel_rfl) (by kernel_rfl) (fun _ _ _ h => h) (Or.inl ⟨by rfl, ?_⟩) hHeld2 ?_
    rotate_left
    · rintro w' ⟨r, t⟩; go_simp; rfl
    try simp only [Act.put, List.setIfInBounds_toArray, List.set_cons_zero, List.set_cons_succ]
    refine wpAnyH_done (by kernel_rfl) ?_ _
    have HT : Hid (u0.there G 0 ZR.length) := hid (by have := hHeld.t; rwa [List.size_toArray] at this)
    clear hHeld hHeld2
    go_wp2_with fail
    refine bodyPost_ret (v := .tuple #[.slice none 0 0, .agg ZR.toArray, .bool false]) (results_t3 Tryd.results23 _ _ G ZR _ rfl (World.rangeAt_setCells_same _ G 0 _ HT.out) Tryd.underlying23 rfl hiZ) rfl ?_
    exact HBADZ.out HNO.out _ (below_setCells (Nat.le_refl _) _ _ _ _ HBd.out)
  have h1i : ¬ (LN : Int) < 1072 := by omega
  by_cases hrem : (LN - 1072) % 28 = 0
  · have hri : Int.tmod ((LN : Int) - 1072) 28 = 0 := by
      rw [Int.tmod_eq_emod_of_nonneg (by omega)]
      omega
    have hq : Int.tdiv ((LN : Int) - 1072) 28 = (n : Int) := by
      have := HN.out
      rw [Int.tdiv_eq_ediv_of_nonneg (by omega)]
      omega
    have hnL : 1072 + 28 * n = LN := by rw [← HN.out]; omega
    have hn7 : n ≤ 700 := by omega
    have HBB : Hid (IsB B) := hz
    obtain ⟨b, off, hae⟩ : ∃ b off, a = some ⟨b, off, none⟩ := by
      obtain ⟨b, off, e1, _⟩ := (HSB.out w1 HB1.out).at_ (by rw [HLN.out]; omega)
      exact ⟨b, off, e1⟩
    subst hae
    have hLc : LN ≤ cap := by have := (HSB.out w1 HB1.out).capl; rw [HLN.out] at this; exact this
    have HAT : Hid (∀ W, Below G w W → At W b off B ∧ b < W.heap.size) := fun W hW => by
      obtain ⟨b', off', e1, e2, e3⟩ := (HSB.out W hW).at_ (by rw [HLN.out]; omega)
      cases e1
      exact ⟨e3, e2⟩
    have HWP : Hid (Wp (rdP B n)) := rdP_wp B n hz (by rw [HLN.out]; omega)
    obtain ⟨l, HL⟩ : ∃ l, Hid (rdP B n = l) := ⟨_, rfl⟩
    rw [HL.out] at HWP
    have HLL : Hid (l.length = n) := hid (by rw [← HL.out]; exact rdP_len B n)
    have CN : Hid (∀ (W : World) (k L c : Nat), Below G w W → k + 4 ≤ LN → L = LN - k → Calls Tryd.prog 38 #[.slice (some ⟨b, off + k, none⟩) L c] W fun e w' => e = .returned (.int .i64 (rd4 B k)) ∧ ∃ n, w' = W.drewN n) := fun W k L c hW hk hL =>
      numb_any b off k L c B W HBB.out (by rw [HLN.out]; exact hk) (by rw [HLN.out]; exact hL) (HAT.out W hW).1
    obtain ⟨H, HH⟩ : ∃ H, Hid (G + 1 + 1 = H) := ⟨_, rfl⟩
    have HH1 : Hid (w1.heap.size = H) := hid (by rw [← HW1.out, ← HH.out, ← HG.out]; simp)
    have HBW : Hid (∀ W, Below H w1 W → Below G w W) := fun W hW => HB1.out.trans (hW.mono (by have := HH.out; omega))
    have HE0 : Hid (Bp 48 w1 w1 H (.slice none 0 0) (l.take 0)) := hid (bp_nil 48 w1 H (by rw [HH1.out]; exact Nat.le_refl _))
    clear hz
    go_enter Tryd.func23, Tryd.ntmps23
    go_wp2_with fail
    rw [HW1.out, HG.out]
    go_loopg [7, 8] n (fun g uv iv wr => ∃ (i : Nat) (v : Value), v = uv ∧ i ≤ n ∧ g = n - i ∧ iv = .int .i64 i ∧ Hid (Bp 48 w1 wr H v (l.take i)))
    case atStart => exact ⟨0, _, rfl, Nat.zero_le _, rfl, rfl, HE0⟩
    case round =>
      obtain ⟨i, v, hv, hi, hg, rfl, HBE⟩ := hrel
      subst hv
      by_cases hlt : i < n
      · have hlti : (i : Int) < (n : Int) := by omega
        obtain ⟨I1, HI1⟩ : ∃ l, Hid (rd20 B (1032 + 20 * i) = l) := ⟨_, rfl⟩
        obtain ⟨q1, HQ1⟩ : ∃ l, Hid (rd4 B (1032 + 20 * n + 4 * i) = l) := ⟨_, rfl⟩
        obtain ⟨q2, HQ2⟩ : ∃ l, Hid (rd4 B (1032 + 24 * n + 4 * i) = l) := ⟨_, rfl⟩
        have hI20 : I1.length = 20 := by rw [← HI1.out]; exact rd20_len B _ (by rw [HLN.out]; omega)
        have hq1 : 0 ≤ q1 ∧ q1 < 4294967296 := by rw [← HQ1.out]; exact rd4_bd B _ HBB.out
        have hq2 : 0 ≤ q2 ∧ q2 < 4294967296 := by rw [← HQ2.out]; exact rd4_bd B _ HBB.out
        obtain ⟨x, HX⟩ : ∃ x : Pl, Hid (⟨I1, q2, q1⟩ = x) := ⟨_, rfl⟩
        have HX20 : Hid (x.id.length = 20) := hid (by rw [← HX.out]; exact hI20)
        have HXT : Hid (l.take (i + 1) = l.take i ++ [x]) := hid (by rw [← HL.out, rdP_take B n i hlt, HI1.out, HQ1.out, HQ2.out, HX.out])
        obtain ⟨oa, HOA⟩ : ∃ o, Hid (off + (1032 + 20 * i) = o) := ⟨_, rfl⟩
        obtain ⟨la, HLA⟩ : ∃ o, Hid (LN - (1032 + 20 * i) = o) := ⟨_, rfl⟩
        obtain ⟨ca, HCA⟩ : ∃ o, Hid (cap - (1032 + 20 * i) = o) := ⟨_, rfl⟩
        obtain ⟨ob, HOB⟩ : ∃ o, Hid (off + (1032 + 20 * n + 4 * i) = o) := ⟨_, rfl⟩
        obtain ⟨lb, HLB⟩ : ∃ o, Hid (LN - (1032 + 20 * n + 4 * i) = o) := ⟨_, rfl⟩
        obtain ⟨cb, HCB⟩ : ∃ o, Hid (cap - (1032 + 20 * n + 4 * i) = o) := ⟨_, rfl⟩
        obtain ⟨oc, HOC⟩ : ∃ o, Hid (off + (1032 + 24 * n + 4 * i) = o) := ⟨_, rfl⟩
        obtain ⟨lc, HLC⟩ : ∃ o, Hid (LN - (1032 + 24 * n + 4 * i) = o) := ⟨_, rfl⟩
        obtain ⟨cc, HCC⟩ : ∃ o, Hid (cap - (1032 + 24 * n + 4 * i) = o) := ⟨_, rfl⟩
        have hsa : ∀ W : World, (Instr.slice 25 (.slice (some ⟨b, off, none⟩) LN cap) (some (.int .i64 (1032 + 20 * (i : Int)))) none none).run Tryd.prog W = .ok (.slice (some ⟨b, oa, none⟩) la ca) W := fun W => by
          rw [← HOA.out, ← HLA.out, ← HCA.out]; exact slB_from b off LN cap (1032 + 20 * i) _ (by omega) (by omega) (by omega) (by omega) W
        have hsb : ∀ W : World, (Instr.slice 25 (.slice (some ⟨b, off, none⟩) LN cap) (some (.int .i64 (1032 + 20 * (n : Int) + 4 * (i : Int)))) none none).run Tryd.prog W = .ok (.slice (some ⟨b, ob, none⟩) lb cb) W := fun W => by
          rw [← HOB.out, ← HLB.out, ← HCB.out]; exact slB_from b off LN cap (1032 + 20 * n + 4 * i) _ (by omega) (by omega) (by omega) (by omega) W
        have hsc : ∀ W : World, (Instr.slice 25 (.slice (some ⟨b, off, none⟩) LN cap) (some (.int .i64 (1032 + 24 * (n : Int) + 4 * (i : Int)))) none none).run Tryd.prog W = .ok (.slice (some ⟨b, oc, none⟩) lc cc) W := fun W => by
          rw [← HOC.out, ← HLC.out, ← HCC.out]; exact slB_from b off LN cap (1032 + 24 * n + 4 * i) _ (by omega) (by omega) (by omega) (by omega) W
        have CB : Hid (∀ W, Below H w1 W → Calls Tryd.prog 38 #[.slice (some ⟨b, ob, none⟩) lb cb] W fun e w' => e = .returned (.int .i64 q1) ∧ ∃ n, w' = W.drewN n) := fun W hW => by
          have := CN.out W (1032 + 20 * n + 4 * i) lb cb (HBW.out W hW) (by omega) HLB.out.symm
          rw [HQ1.out, HOB.out] at this
          exact this
        have CC : Hid (∀ W, Below H w1 W → Calls Tryd.prog 38 #[.slice (some ⟨b, oc, none⟩) lc cc] W fun e w' => e = .returned (.int .i64 q2) ∧ ∃ n, w' = W.drewN n) := fun W hW => by
          have := CN.out W (1032 + 24 * n + 4 * i) lc cc (HBW.out W hW) (by omega) HLC.out.symm
          rw [HQ2.out, HOC.out] at this
          exact this
        obtain ⟨K, HK⟩ : ∃ K, Hid (wr.heap.size = K) := ⟨_, rfl⟩
        have hHK : H ≤ K := by rw [← HK.out]; exact HBE.out.le
        obtain ⟨w2, HW2⟩ : ∃ w2, Hid (wr.alloc (.cells zp 48) = w2) := ⟨_, rfl⟩
        have HB2 : Hid (Bp 48 w1 w2.drew H v (l.take i)) := hid (by rw [← HW2.out]; exact (HBE.out.alloc _).carry (below_drewH (Below.refl _ _) 1))
        have HK2 : Hid (w2.drew.heap[K]? = some (.cells (plV p0).toArray 48 (0, 0))) := hid (by
          rw [← HZP.out]
          show w2.heap[K]? = _
          rw [← HW2.out, ← HK.out]; exact heap_alloc_new wr _)
        have hKv : Hid (∀ k, v.ownBlock = some k → k ≠ K) := fun k hk => by
          have := (own_lt HBE.out.own k hk).2
          rw [HK.out] at this
          omega
        clear HBE
        go_wp2_with fail
        rw [HW2.out, HK.out]
        refine wp_region_held_drew (S := fun _ => True) (by kernel_rfl) trivial (fun hHeld => ?_)
        generalize w2.drew = u0 at HB2 HK2 ⊢
        have hw1 : IntKind.i64.wrap (20 * (i : Int)) = 20 * (i : Int) := wrap_nn _ (by omega) (by omega)
        have hw2 : IntKind.i64.wrap (1032 + 20 * (i : Int)) = 1032 + 20 * (i : Int) := wrap_nn _ (by omega) (by omega)
        refine takeL (i := 0) (v := ?_) rfl (by kernel_rfl) (by kernel_rfl) (by kernel_rfl) (fun _ _ _ h => h) (Or.inl ⟨by rfl, ?_⟩) hHeld ?_
        rotate_left
        · rintro w' -; go_simp; rfl
        try simp only [Act.put, List.setIfInBounds_toArray, List.set_cons_zero, List.set_cons_succ]
        refine takeL (i := 1) (v := ?_) rfl (by kernel_rfl) (by kernel_rfl) (by kernel_rfl) (fun _ _ _ h => h) (Or.inl ⟨by rfl, ?_⟩) hHeld ?_
        rotate_left
        · rintro w' -; go_simp; rfl
        try simp only [Act.put, List.setIfInBounds_toArray, List.set_cons_zero, List.set_cons_succ]
        refine takeL (i := 2) (v := ?_) rfl (by kernel_rfl) (by kernel_rfl) (by kernel_rfl) (fun _ _ _ h => h) (Or.inl ⟨by rfl, ?_⟩) hHeld ?_
        rotate_left
        · rintro w' -; go_simp; rfl
        try simp only [Act.put, List.setIfInBounds_toArray, List.set_cons_zero, List.set_cons_succ]
        refine takeL (i := 3) (v := ?_) rfl (by kernel_rfl) (by kernel_rfl) (by kernel_rfl) (fun _ _ _ h => h) (Or.inl ⟨by rfl, ?_⟩) hHeld ?_
        rotate_left
        · rintro w' -; go_simp; rfl
        try simp only [Act.put, List.setIfInBounds_toArray, List.set_cons_zero, List.set_cons_succ]
        refine takeL (i := 4) (v := .int .i64 (20 * (i : Int))) rfl (by kernel_rfl) (by kernel_rfl) (by kernel_rfl) (fun _ _ _ h => h) (Or.inl ⟨by rfl, ?_⟩) hHeld ?_
        · rintro w' -; go_simp; try rfl
        try simp only [Act.put, List.setIfInBounds_toArray, List.set_cons_zero, List.set_cons_succ]
        refine takeL (i := 5) (v := .int .i64 (1032 + 20 * (i : Int))) rfl (by kernel_rfl) (by kernel_rfl) (by kernel_rfl) (fun _ _ _ h => h) (Or.inl ⟨by rfl, ?_⟩) hHeld ?_
        · rintro w' -; go_simp; try rfl
        try simp only [Act.put, List.setIfInBounds_toArray, List.set_cons_zero, List.set_cons_succ]
        refine takeL (i := 6) (v := .slice (some ⟨b, oa, none⟩) la ca) rfl (by kernel_rfl) (by kernel_rfl) (by kernel_rfl) (fun _ _ _ h => h) (Or.inl ⟨by rfl, ?_⟩) hHeld ?_
        · rintro w' -; go_simp; try rfl
        try simp only [Act.put, List.setIfInBounds_toArray, List.set_cons_zero, List.set_cons_succ]
        have hcp : (Builtin.copy_ #[25, 25] 3 #[.slice (some ⟨K, 0, none⟩) 20 20, .slice (some ⟨b, oa, none⟩) la ca]).run Tryd.prog u0 = .ok (.int .i64 20) (u0.setRow K (plV ⟨I1, 0, 0⟩).toArray) := by
          refine copy20 u0 K b oa la ca [.int .i64 0, .int .u32 0] 48 I1 HK2.out hI20 (by have := HLA.out; omega) (fun j hj => ?_)
          rw [← HI1.out, rd20_at B _ j hj, ← HOA.out, Nat.add_assoc]
          exact (HAT.out _ (HBW.out _ HB2.out.below)).1 (1032 + 20 * i + j) (by rw [HLN.out]; omega)
        obtain ⟨w3, HW3⟩ : ∃ w3, Hid (u0.setRow K (plV ⟨I1, 0, 0⟩).toArray = w3) := ⟨_, rfl⟩
        have HK3 : Hid (w3.heap[K]? = some (.cells (plV ⟨I1, 0, 0⟩).toArray 48 (0, 0))) := hid (by rw [← HW3.out]; exact setRow_heap _ _ _ _ _ _ HK2.out)
        rw [HW3.out] at hcp
        have HB3 : Hid (Bp 48 w1 w3 H v (l.take i)) := hid (by
          have h := HB2.out
          rw [← HW3.out]
          exact bp_setRow h hKv.out hHK _)
        refine wpAnyH_ready (rs := [7]) (by kernel_rfl) (by simp) ?_
        refine consL rfl (fun KK hKK => ?_) AllReadyH.nil
        refine step_copy (by rfl) _ _ 25 _ _ _ w3 (by rfl) (by rfl) (by rfl) hcp ?_
        refine hKK.out _ _ trivial (fun _ => ?_)
        clear hKK KK hcp hHeld hw1 hw2
        try simp only [Act.put, List.setIfInBounds_toArray, List.set_cons_zero, List.set_cons_succ]
        refine wpAnyH_done (by kernel_rfl) ?_ _
        go_wp2_with fail
        refine (CB.out w3 HB3.out.below).mono ?_
        rintro ev w4 ⟨rfl, q4, hw4⟩
        have hb4 : Below w3.heap.size w3 w4 := by rw [hw4]; exact below_drewH (Below.refl _ _) _
        clear hw4
        have HB4 : Hid (Bp 48 w1 w4 H v (l.take i)) := hid (HB3.out.carry hb4)
        have HK4 : Hid (w4.heap[K]? = some (.cells (plV ⟨I1, 0, 0⟩).toArray 48 (0, 0))) := hid ((hb4.block K (lt_of_some HK3.out)).trans HK3.out)
        clear hb4 HB3 HK3
        have c21 : w4.cell? ⟨K, 21, none⟩ = some (.int .u32 0) := by
          have := pl_crc (range_row HK4.out) hI20
          simpa using this
        have f21 : w4.frozen? ⟨K, 21, none⟩ = false := frozen_of_row w4 K _ _ 48 HK4.out
        obtain ⟨w5, HW5⟩ : ∃ w5, Hid (w4.setCell ⟨K, 21, none⟩ (.int .u32 q1) = w5) := ⟨_, rfl⟩
        have HK5 : Hid (w5.heap[K]? = some (.cells (plV ⟨I1, 0, q1⟩).toArray 48 (0, 0))) := hid (by
          rw [← HW5.out, heap_setCell_same w4 K 21 _ 48 _ HK4.out, List.setIfInBounds_toArray, set_crc _ hI20])
        have HB5 : Hid (Bp 48 w1 w5 H v (l.take i)) := hid (by rw [← HW5.out]; exact bp_setCell HB4.out hKv.out hHK _ _)
        have hqu : IntKind.u32.wrap q1 = q1 := by rw [IntKind.wrap_u32]; omega
        go_wp2_with fail
        rw [HW5.out]
        refine (CC.out w5 HB5.out.below).mono ?_
        rintro ev w6 ⟨rfl, q6, hw6⟩
        have hb6 : Below w5.heap.size w5 w6 := by rw [hw6]; exact below_drewH (Below.refl _ _) _
        clear hw6 c21 f21
        have HB6 : Hid (Bp 48 w1 w6 H v (l.take i)) := hid (HB5.out.carry hb6)
        have HK6 : Hid (w6.heap[K]? = some (.cells (plV ⟨I1, 0, q1⟩).toArray 48 (0, 0))) := hid ((hb6.block K (lt_of_some HK5.out)).trans HK5.out)
        clear hb6 HB5 HK5 HB4 HK4
        have c20 : w6.cell? ⟨K, 20, none⟩ = some (.int .i64 0) := by
          have := pl_off (range_row HK6.out) hI20
          simpa using this
        have f20 : w6.frozen? ⟨K, 20, none⟩ = false := frozen_of_row w6 K _ _ 48 HK6.out
        obtain ⟨R, HR⟩ : ∃ R : List Value, Hid (plV x = R) := ⟨_, rfl⟩
        obtain ⟨w7, HW7⟩ : ∃ w7, Hid (w6.setCell ⟨K, 20, none⟩ (.int .i64 q2) = w7) := ⟨_, rfl⟩
        have HK7 : Hid (w7.heap[K]? = some (.cells R.toArray 48 (0, 0))) := hid (by
          rw [← HR.out, ← HX.out, ← HW7.out, heap_setCell_same w6 K 20 _ 48 _ HK6.out, List.setIfInBounds_toArray, set_off _ hI20])
        have HB7 : Hid (Bp 48 w1 w7 H v (l.take i)) := hid (by rw [← HW7.out]; exact bp_setCell HB6.out hKv.out hHK _ _)
        have RR : Hid (w7.rangeAt K 0 R) := hid (range_row HK7.out)
        have hi48 : (Tryd.prog.info? 48).map (·.size) = some R.length := by rw [← HR.out, plV_len x HX20.out]; exact size48
        have HX1 : Hid (∀ y ∈ [x], y.id.length = 20) := fun y hy => by
          have : y = x := by simpa using hy
          rw [this]; exact HX20.out
        have htl : (l.take i).length + [x].length ≤ 30000 := by rw [List.length_take, HLL.out]; simp only [List.length_cons, List.length_nil]; omega
        go_wp2_with (first
          | (rw [HW7.out]; refine wpList_load_mid rfl 48 _ rfl K 0 rfl R _ RR.out Tryd.underlying48 rfl hi48 ?_)
          | refine wpList_buildS rfl 33 1 _ rfl (.agg R.toArray) _ rfl (by rw [← HR.out]; exact run_build48b x HX20.out _) ?_
          | (at_builtin; refine wpList_bp_sl rfl _ _ 33 48 Tryd.underlying33 Tryd.info48p rfl H _ _ rfl (HB7.out.alloc _) (some ⟨w7.heap.size, 0, none⟩) 1 [x] rfl (pp_one w7 x) HX1.out htl ?_; intro v8 w8 hb8 hg8; have HB8 : Hid (Bp 48 w1 w8 H v8 (l.take i ++ [x])) := hb8; clear hb8 hg8)
          | fail)
        go_roundg (n - (i + 1))
        case measure => omega
        case rel => exact ⟨i + 1, _, rfl, by omega, rfl, by go_num, hid (by rw [HXT.out]; exact HB8.out)⟩
      · have hlti : ¬ (i : Int) < (n : Int) := by omega
        have HBZ : Hid (Bp 48 w1 wr H v l) := hid (by
          have := HBE.out
          rw [List.take_of_length_le (by rw [HLL.out]; omega)] at this
          exact this)
        obtain ⟨va, vc, hv⟩ : ∃ va vc, v = .slice va n vc := by
          have ho := HBZ.out.own
          rw [HLL.out] at ho
          exact owns_shape ho
        subst hv
        obtain ⟨hpv, hvb⟩ := HBZ.out.pp (fun y hy => (HWP.out y hy).1) HLL.out
        have HVB : Hid (∀ p : Addr, va = some p → p.block ≠ G + 1 ∧ p.block ≠ G) := fun p hp => by have := hvb p hp; have h2 := HH.out; constructor <;> omega
        have HPD : Hid (Pp wr.drew va vc l) := hid (hpv.below (below_drewH (Below.refl _ _) 1))
        have HBD : Hid (Below G w wr.drew) := hid (below_drewH (HBW.out _ HBZ.out.below) 1)
        have HRD : Hid (wr.drew.heap[G]? = some (.cells zr 23 (0, 0))) := hid ((HBZ.out.below.block G (by have := HH.out; omega)).trans HR1.out)
        have HVD : Hid (wr.drew.heap[G + 1]? = some (.cells zr 23 (0, 0))) := hid ((HBZ.out.below.block (G + 1) (by have := HH.out; omega)).trans HV1.out)
        clear hpv hvb HBE HBZ
        obtain ⟨su, HSU0⟩ : ∃ l, Hid (rd20 B (LN - 40) = l) := ⟨_, rfl⟩
        have HS20 : Hid (su.length = 20) := hid (by rw [← HSU0.out]; exact rd20_len B _ (by rw [HLN.out]; omega))
        have HSI : Hid (IsB su) := hid (by rw [← HSU0.out]; exact rd20_isB B _ HBB.out)
        obtain ⟨SU, HSU⟩ : ∃ S : List Value, Hid (row .u8 su = S) := ⟨_, rfl⟩
        have HRL : Hid (SU.length = 20) := hid (by rw [← HSU.out, row_len]; exact HS20.out)
        have hi23 : (Tryd.prog.info? 23).map (·.size) = some SU.length := by rw [HRL.out]; exact sizeA23
        have I23 : Hid ((Tryd.prog.info? 23).map (·.size) = some SU.toArray.size) := hid (by rw [List.size_toArray]; exact hi23)
        have O23 : Hid (SU.toArray.all (·.oneCell') = true) := hid (by rw [← HSU.out]; exact all_oneCell_toArray (row_one _ _))
        obtain ⟨os, HOS⟩ : ∃ o, Hid (off + (LN - 40) = o) := ⟨_, rfl⟩
        obtain ⟨ls, HLS⟩ : ∃ o, Hid (LN - (LN - 40) = o) := ⟨_, rfl⟩
        obtain ⟨cs, HCS⟩ : ∃ o, Hid (cap - (LN - 40) = o) := ⟨_, rfl⟩
        have hs40 : ∀ W : World, (Instr.slice 25 (.slice (some ⟨b, off, none⟩) LN cap) (some (.int .i64 ((LN : Int) - 40))) none none).run Tryd.prog W = .ok (.slice (some ⟨b, os, none⟩) ls cs) W := fun W => by
          rw [← HOS.out, ← HLS.out, ← HCS.out]; exact slB_from b off LN cap (LN - 40) _ (by omega) (by omega) (by omega) (by omega) W
        have hw40 : IntKind.i64.wrap ((LN : Int) - 40) = (LN : Int) - 40 := wrap_nn _ (by omega) (by omega)
        go_wp2_with fail
        refine wp_region_held_drew (S := fun _ => True) (by kernel_rfl) trivial (fun hHeld => ?_)
        generalize wr.drew = u0 at HPD HBD HRD HVD ⊢
        refine takeL (i := 0) (v := ?_) rfl (by kernel_rfl) (by kernel_rfl) (by kernel_rfl) (fun _ _ _ h => h) (Or.inl ⟨by rfl, ?_⟩) hHeld ?_
        rotate_left
        · rintro w' -; go_simp; rfl
        try simp only [Act.put, List.setIfInBounds_toArray, List.set_cons_zero, List.set_cons_succ]
        refine takeL (i := 1) (v := ?_) rfl (by kernel_rfl) (by kernel_rfl) (by kernel_rfl) (fun _ _ _ h => h) (Or.inl ⟨by rfl, ?_⟩) hHeld ?_
        rotate_left
        · rintro w' -; go_simp; rfl
        try simp only [Act.put, List.setIfInBounds_toArray, List.set_cons_zero, List.set_cons_succ]
        refine takeL (i := 2) (v := ?_) rfl (by kernel_rfl) (by kernel_rfl) (by kernel_rfl) (fun _ _ _ h => h) (Or.inl ⟨by rfl, ?_⟩) hHeld ?_
        rotate_left
        · rintro w' -; go_simp; rfl
        try simp only [Act.put, List.setIfInBounds_toArray, List.set_cons_zero, List.set_cons_succ]
        refine takeL (i := 3) (v := ?_) rfl (by kernel_rfl) (by kernel_rfl) (by kernel_rfl) (fun _ _ _ h => h) (Or.inl ⟨by rfl, ?_⟩) hHeld ?_
        rotate_left
        · rintro w' -; go_simp; rfl
        try simp only [Act.put, List.setIfInBounds_toArray, List.set_cons_zero, List.set_cons_succ]
        refine takeL (i := 4) (v := .int .i64 ((LN : Int) - 40)) rfl (by kernel_rfl) (by kernel_rfl) (by kernel_rfl) (fun _ _ _ h => h) (Or.inl ⟨by rfl, ?_⟩) hHeld ?_
        · rintro w' -; go_simp; try rfl
        try simp only [Act.put, List.setIfInBounds_toArray, List.set_cons_zero, List.set_cons_succ]
        refine takeL (i := 5) (v := .slice (some ⟨b, os, none⟩) ls cs) rfl (by kernel_rfl) (by kernel_rfl) (by kernel_rfl) (fun _ _ _ h => h) (Or.inl ⟨by rfl, ?_⟩) hHeld ?_
        · rintro w' -; go_simp; try rfl
        try simp only [Act.put, List.setIfInBounds_toArray, List.set_cons_zero, List.set_cons_succ]
        have hcp : (Builtin.copy_ #[25, 25] 3 #[.slice (some ⟨G + 1, 0, none⟩) 20 20, .slice (some ⟨b, os, none⟩) ls cs]).run Tryd.prog u0 = .ok (.int .i64 20) (u0.setRow (G + 1) SU.toArray) := by
          have := copy20 u0 (G + 1) b os ls cs [] 23 su (by rw [List.append_nil, ← HZ.out]; exact HVD.out) HS20.out (by have := HLS.out; omega) (fun j hj => by
            rw [← HSU0.out, rd20_at B _ j hj, ← HOS.out, Nat.add_assoc]
            exact (HAT.out _ HBD.out).1 (LN - 40 + j) (by rw [HLN.out]; omega))
          rw [List.append_nil, HSU.out] at this
          exact this
        obtain ⟨w9, HW9⟩ : ∃ w9, Hid (u0.setRow (G + 1) SU.toArray = w9) := ⟨_, rfl⟩
        rw [HW9.out] at hcp
        have HV9 : Hid (w9.heap[G + 1]? = some (.cells SU.toArray 23 (0, 0))) := hid (by rw [← HW9.out]; exact setRow_heap _ _ _ _ _ _ HVD.out)
        have HR9 : Hid (w9.heap[G]? = some (.cells zr 23 (0, 0))) := hid (by rw [← HW9.out, heap_setRow_ne _ _ _ _ (by omega)]; exact HRD.out)
        have HP9 : Hid (Pp w9 va vc l) := hid (by rw [← HW9.out]; exact pp_change HPD.out (fun p hp => (HVB.out p hp).1) (grown_setRow _ _ _))
        have HB9 : Hid (Below G w w9) := hid (by rw [← HW9.out]; exact below_setRow HBD.out (by omega) _)
        refine wpAnyH_ready (rs := [6]) (by kernel_rfl) (by simp) ?_
        refine consL rfl (fun KK hKK => ?_) AllReadyH.nil
        refine step_copy (by rfl) _ _ 25 _ _ _ w9 (by rfl) (by rfl) (by rfl) hcp ?_
        refine hKK.out _ _ trivial (fun _ => ?_)
        clear hKK KK hcp hHeld hw40 hs40
        try simp only [Act.put, List.setIfInBounds_toArray, List.set_cons_zero, List.set_cons_succ]
        refine wpAnyH_done (by kernel_rfl) ?_ _
        have RS : Hid (w9.rangeAt (G + 1) 0 SU) := hid (range_row HV9.out)
        have C6 : Hid (Calls Tryd.prog 6 #[.slice va n vc, .agg SU.toArray] w9 (PostWd l su w9)) := hid (by
          have := refWrite_any va vc l su HS20.out HSI.out w9 HWP.out (by rw [HLL.out]; omega) HP9.out
          rw [HLL.out, HSU.out] at this
          exact this)
        have HIX : Hid ((okX l ∧ idxF (srtI l) su = B) ↔ Idx B) := hid (by
          unfold Idx
          rw [HNB.out, HL.out, HLN.out, HSU0.out]
          exact ⟨fun h => ⟨hrem, h.1, h.2⟩, fun h => ⟨h.2.1, h.2.2⟩⟩)
        have HIF : Hid (IsB (idxF (srtI l) su)) := hid (idxF_isB _ su (wp_perm (srtI_both l).1 HWP.out) HSI.out)
        go_wp2_with (first
          | refine wpList_load_mid rfl 23 _ rfl (G + 1) 0 rfl SU _ RS.out Tryd.underlying23 rfl hi23 ?_
          | fail)
        refine C6.out.mono ?_
        rintro ev w10 ⟨hb10, hcase⟩
        have hG9 : G < w9.heap.size := lt_of_some HR9.out
        have HB10 : Hid (Below G w w10) := hid (HB9.out.trans (hb10.mono (Nat.le_of_lt hG9)))
        have HR10 : Hid (w10.heap[G]? = some (.cells zr 23 (0, 0))) := hid ((hb10.block G hG9).trans HR9.out)
        have HV10 : Hid (w10.heap[G + 1]? = some (.cells SU.toArray 23 (0, 0))) := hid ((hb10.block (G + 1) (lt_of_some HV9.out)).trans HV9.out)
        have HP10 : Hid (Pp w10 va vc l) := hid (HP9.out.below hb10)
        have HSF : Hid (w10.setRow G zr = w10) := hid (setRow_self _ _ _ 23 _ HR10.out)
        clear hb10 hG9
        rcases hcase with ⟨hok, a5, cap5, rfl, hs5⟩ | ⟨hbad, rfl⟩
        · have HOK : Hid (okX l) := hok
          obtain ⟨fl, HFL⟩ : ∃ n, Hid ((idxF (srtI l) su).length = n) := ⟨_, rfl⟩
          obtain ⟨SC, HSC⟩ : ∃ S : ByteArray, Hid (⟨(Lib.bytesOf (idxF (srtI l) su)).toArray⟩ = S) := ⟨_, rfl⟩
          obtain ⟨SB, HSBB⟩ : ∃ S : ByteArray, Hid (⟨(Lib.bytesOf B).toArray⟩ = S) := ⟨_, rfl⟩
          have hc1 := conv_str hs5
          have hc2 := conv_str (HSB.out _ HB10.out)
          rw [HFL.out, HSC.out] at hc1
          rw [HLN.out, HSBB.out] at hc2
          rw [HFL.out]
          clear hok hs5
          by_cases heq : idxF (srtI l) su = B
          · have hss : SC = SB := by rw [← HSC.out, ← HSBB.out, heq]
            have HID : Hid (Idx B) := hid (HIX.out.1 ⟨HOK.out, heq⟩)
            clear heq
            subst hss
            have HSS : Hid (RW (G + 1) G SU.toArray.size SU w10.drew) := hid ⟨range_row HV10.out, there_off (show w10.drew.heap[G]? = _ from HR10.out) (by rw [HZS.out, List.size_toArray, HRL.out]; exact Nat.le_refl _)⟩
            have HBd : Hid (Below G w w10.drew) := hid (below_drewH HB10.out 1)
            have HPd : Hid (Pp w10.drew va vc l) := hid (HP10.out.below (below_drewH (Below.refl _ _) 1))
            go_wp2_with fail
            refine wp_region_held_drew (S := RW (G + 1) G SU.toArray.size SU) (by kernel_rfl) (by exact HSS.out) (fun hHeld => ?_)
            generalize w10.drew = u1 at hHeld HSS HBd HPd ⊢
            clear HSS
            refine takeL (i := 0) (v := ?_) rfl (by kernel_rfl) (by kernel_rfl) (by kernel_rfl) (fun _ _ _ h => h) (Or.inl ⟨by rfl, ?_⟩) hHeld ?_
            rotate_left
            · rintro w' ⟨r, t⟩; go_simp; rfl
            try simp only [Act.put, List.setIfInBounds_toArray, List.set_cons_zero, List.set_cons_succ]
            refine takeL (i := 1) (v := .agg SU.toArray) rfl (by kernel_rfl) (by kernel_rfl) (by kernel_rfl) (fun _ _ _ h => h) (yieldsIf_load_mid (by kernel_rfl) 23 _ rfl (G + 1) (0) (by rfl) SU _ (fun w' h => h.r) Tryd.underlying23 rfl hi23) hHeld ?_
            try simp only [Act.put, List.setIfInBounds_toArray, List.set_cons_zero, List.set_cons_succ]
            refine takeL (i := 2) (v := ?_) rfl (by kernel_rfl) (by kernel_rfl) (by kernel_rfl) (fun _ _ _ h => h) (Or.inl ⟨by rfl, ?_⟩) hHeld ?_
            rotate_left
            · rintro w' ⟨r, t⟩; go_simp; rfl
            try simp only [Act.put, List.setIfInBounds_toArray, List.set_cons_zero, List.set_cons_succ]
            refine wpAnyH_ready (rs := [3]) (by kernel_rfl) (by simp) ?_
            refine consL rfl (fun KK hKK => ?_) AllReadyH.nil
            refine step_store (by rfl) 23 _ _ (by rfl) G 0 SU.toArray (by rfl) (by rfl) hHeld.t I23.out O23.out ?_
            refine hKK.out _ _ ⟨World.rangeAt_setCells_apart hHeld.r G 0 _ (.inl (by omega)), World.there_setCells hHeld.t _ _ _⟩ (fun hHeld2 => ?_)
            clear hKK KK
            try simp only [Act.put, List.setIfInBounds_toArray, List.set_cons_zero, List.set_cons_succ]
            refine takeL (i := 4) (v := ?_) rfl (by kernel_rfl) (by kernel_rfl) (by kernel_rfl) (fun _ _ _ h => h) (Or.inl ⟨by rfl, ?_⟩) hHeld2 ?_
            rotate_left
            · rintro w' ⟨r, t⟩; go_simp; rfl
            try simp only [Act.put, List.setIfInBounds_toArray, List.set_cons_zero, List.set_cons_succ]
            refine wpAnyH_done (by kernel_rfl) ?_ _
            have HT : Hid (u1.there G 0 SU.length) := hid (by have := hHeld.t; rwa [List.size_toArray] at this)
            have HPu : Hid (Pp (u1.setCells G 0 SU.toArray.toList) va vc l) := hid (pp_change HPd.out (fun p hp => (HVB.out p hp).2) (grown_scs G _ _ _))
            clear hHeld hHeld2
            go_wp2_with fail
            refine bodyPost_ret (v := .tuple #[.slice va n vc, .agg SU.toArray, .bool true]) (results_t3 Tryd.results23 _ _ G SU _ rfl (World.rangeAt_setCells_same _ G 0 _ HT.out) Tryd.underlying23 rfl hi23) rfl ?_
            refine ⟨?_, .inl ⟨⟨by rw [HLN.out]; omega, HID.out⟩, va, vc, ?_, ?_⟩⟩
            · rw [HG.out]
              exact below_setCells (Nat.le_refl _) _ _ _ _ HBd.out
            · rw [HNB.out, HLN.out, HSU0.out, HSU.out]
            · rw [HNB.out, HL.out]
              exact HPu.out
          · have HNO : Hid (¬ (1072 ≤ B.length ∧ Idx B)) := fun h => heq (HIX.out.2 h.2).2
            have hss : (SC.toList == SB.toList) = false := by
              rw [← HSC.out, ← HSBB.out, Lib.toList_data, Lib.toList_data, beq_eq_false_iff_ne]
              exact fun e => heq (bytes_inj HIF.out HBB.out e)
            clear heq
            go_wp2_with (first
              | (refine wpList_built rfl 23 _ rfl zr (by simp only [List.map_toArray, List.map_nil]; exact HBU.out) ?_)
              | (refine wpList_store_row rfl 23 _ _ rfl G zr rfl rfl 23 zr HR10.out IZ.out rfl OZ.out ?_; rw [HSF.out])
              | fail)
            refine bodyPost_ret (v := .tuple #[.slice none 0 0, .agg ZR.toArray, .bool false]) (results_t3 Tryd.results23 _ _ G ZR _ rfl (range_row (by rw [← HZA.out]; exact HR10.out)) Tryd.underlying23 rfl hiZ) rfl ?_
            exact HBADZ.out HNO.out _ HB10.out
        · have HNO : Hid (¬ (1072 ≤ B.length ∧ Idx B)) := fun h => hbad (HIX.out.2 h.2).1
          clear hbad
          go_wp2_with (first
            | (refine wpList_built rfl 23 _ rfl zr (by simp only [List.map_toArray, List.map_nil]; exact HBU.out) ?_)
            | (refine wpList_store_row rfl 23 _ _ rfl G zr rfl rfl 23 zr HR10.out IZ.out rfl OZ.out ?_; rw [HSF.out])
            | fail)
          refine bodyPost_ret (v := .tuple #[.slice none 0 0, .agg ZR.toArray, .bool false]) (results_t3 Tryd.results23 _ _ G ZR _ rfl (range_row (by rw [← HZA.out]; exact HR10.out)) Tryd.underlying23 rfl hiZ) rfl ?_
          exact HBADZ.out HNO.out _ HB10.out
  · have hri : ¬ Int.tmod ((LN : Int) - 1072) 28 = 0 := by
      rw [Int.tmod_eq_emod_of_nonneg (by omega)]
      omega
    have HNO : Hid (¬ (1072 ≤ B.length ∧ Idx B)) := fun h => by have := h.2.1; rw [HLN.out] at this; exact hrem this
    have HSS : Hid (RW (G + 1) G ZR.toArray.size ZR w1.drew) := hid ⟨range_row (by rw [← HZA.out]; exact HV1.out), there_off (show w1.drew.heap[G]? = _ from HR1.out) (by rw [← HZA.out]; exact Nat.le_refl _)⟩
    have HBd : Hid (Below G w w1.drew) := hid (below_drewH HB1.out 1)
    go_enter Tryd.func23, Tryd.ntmps23
    go_wp2_with fail
    rw [HW1.out, HG.out]
    refine wp_region_held_drew (S := RW (G + 1) G ZR.toArray.size ZR) (by kernel_rfl) (by exact HSS.out) (fun hHeld => ?_)
    generalize w1.drew = u0 at hHeld HSS HBd ⊢
    clear HSS
    refine takeL (i := 0) (v := .agg ZR.toArray) rfl (by kernel_rfl) (by kernel_rfl) (by kernel_rfl) (fun _ _ _ h => h) (yieldsIf_load_mid (by kernel_rfl) 23 _ rfl (G + 1) (0) (by rfl) ZR _ (fun w' h => h.r) Tryd.underlying23 rfl hiZ) hHeld ?_
    try simp only [Act.put, List.setIfInBounds_toArray, List.set_cons_zero, List.set_cons_succ]
    refine takeL (i := 1) (v := ?_) rfl (by kernel_rfl) (by kernel_rfl) (by kernel_rfl) (fun _ _ _ h => h) (Or.inl ⟨by rfl, ?_⟩) hHeld ?_
    rotate_left
    · rintro w' ⟨r, t⟩; go_simp; rfl
    try simp only [Act.put, List.setIfInBounds_toArray, List.set_cons_zero, List.set_cons_succ]
    refine wpAnyH_ready (rs := [2]) (by kernel_rfl) (by simp) ?_
    refine consL rfl (fun KK hKK => ?_) AllReadyH.nil
    refine step_store (by rfl) 23 _ _ (by rfl) G 0 ZR.toArray (by rfl) (by rfl) hHeld.t IZ2.out OZ2.out ?_
    refine hKK.out _ _ ⟨World.rangeAt_setCells_apart hHeld.r G 0 _ (.inl (by omega)), World.there_setCells hHeld.t _ _ _⟩ (fun hHeld2 => ?_)
    clear hKK KK
    try simp only [Act.put, List.setIfInBounds_toArray, List.set_cons_zero, List.set_cons_succ]
    refine takeL (i := 3) (v := ?_) rfl (by kernel_rfl) (by kernel_rfl) (by kernel_rfl) (fun _ _ _ h => h) (Or.inl ⟨by rfl, ?_⟩) hHeld2 ?_
    rotate_left
    · rintro w' ⟨r, t⟩; go_simp; rfl
    try simp only [Act.put, List.setIfInBounds_toArray, List.set_cons_zero, List.set_cons_succ]
    refine wpAnyH_done (by kernel_rfl) ?_ _
    have HT : Hid (u0.there G 0 ZR.length) := hid (by have := hHeld.t; rwa [List.size_toArray] at this)
    clear hHeld hHeld2
    go_wp2_with fail
    refine bodyPost_ret (v := .tuple #[.slice none 0 0, .agg ZR.toArray, .bool false]) (results_t3 Tryd.results23 _ _ G ZR _ rfl (World.rangeAt_setCells_same _ G 0 _ HT.out) Tryd.underlying23 rfl hiZ) rfl ?_
    exact HBADZ.out HNO.out _ (below_setCells (Nat.le_refl _) _ _ _ _ HBd.out)
end Go.Proofs.YtdfihfmmfmoabaaDoor
