/- The program's 'ReadIdx'. -/
import Derived.Test.YtdfihfmmfmoabaaDoorPkN
import Derived.Test.YtdfihfmmfmoabaaDoorPkJ
namespace Go.Proofs.YtdfihfmmfmoabaaDoor
open Go.RowKit Go.Shelf
variable [Inhabited Pn]
set_option linter.unusedVariables false
set_option linter.unusedSectionVars false
set_option linter.unusedSimpArgs false
theorem Sl.bytesIn {w : World} {a : Option Addr} {cap : Nat} {l : List Int} (h : Sl w a cap l) : Lib.BytesIn w a l.length l := fun h0 => by
  obtain ⟨b, off, e1, _, e3⟩ := h.at_ h0
  exact ⟨b, off, e1, e3⟩
theorem equal_any (a a2 : Option Addr) (cap cap2 : Nat) (zs ys : List Int) (w : World) (hS : Sl w a cap zs) (hS2 : Sl w a2 cap2 ys) :
    Calls Tryd.prog 35 #[.slice a zs.length cap, .slice a2 ys.length cap2] w fun e w' => e = .returned (.bool (Lib.bytesOf zs == Lib.bytesOf ys)) ∧ w' = w :=
  Any.bytes_Equal_all Tryd.laysb115 a a2 zs.length cap ys.length cap2 zs ys w rfl rfl hS.bytesIn hS2.bytesIn
theorem wpList_built {P : Program} {ops : Array Oper} {rest : List Oper} {o : Oper} {a : Act} {w : World} {Q : Exit → Act → World → Prop} (hg : o.guard = none) (t : TypeId) (parts : Array (Nat × Operand)) (ho : o.op = .build t parts) (cells : Array Value)
    (hf : P.built t (parts.map fun (i, x) => (i, a.eval x)).toList = some cells)
    (h : wpList P ops Q rest (a.put o.dst (.agg cells)) w) : wpList P ops Q (o :: rest) a w :=
  wpList_build hg t parts ho (by rw [hf]; rfl) (by rw [hf]; exact h)
theorem sha_isB (l : List Int) : IsB (sha l) := by
  intro x hx
  unfold sha outAt at hx
  obtain ⟨i, _, rfl⟩ := List.mem_map.1 hx
  split
  · exact ⟨Int.emod_nonneg _ (by decide), Int.emod_lt_of_pos _ (by decide)⟩
  · omega
theorem idxF_isB (s : List Pl) (sum : List Int) (hw : Wp s) (hs : IsB sum) : IsB (idxF s sum) := isB_app (idxZ_isB s sum hw hs) (sha_isB _)
theorem built24 : Tryd.prog.built 24 [] = some (row .u8 z20).toArray := by kernel_rfl
theorem Tryd.results20 : Tryd.f20.results = #[.tmp 2, .cell 3 24, .tmp 4] := by kernel_rfl
/-- What 'ReadIdx' gives. -/
def PostRi (B : List Int) (w : World) (e : Ending) (w' : World) : Prop := Below w.heap.size w w' ∧
  (((1072 ≤ B.length ∧ Idx B) ∧ ∃ g, e = .returned (.tuple #[.slice (some ⟨g, 0, none⟩) ((B.length - 1072) / 28) ((B.length - 1072) / 28), .agg (row .u8 (rd20 B (B.length - 40))).toArray, .nilIface]) ∧ w.heap.size ≤ g ∧ Fr w' g (rdP B ((B.length - 1072) / 28))) ∨
   (¬ (1072 ≤ B.length ∧ Idx B) ∧ e = .returned (.tuple #[.slice none 0 0, .agg (row .u8 z20).toArray, .iface 38 (.int .i64 42)])))
set_option maxRecDepth 20000 in
set_option maxHeartbeats 4000000 in
theorem readIdx_any (a : Option Addr) (cap : Nat) (B : List Int) (w : World) (hz : IsB B) (hlen : B.length ≤ 20000) (hS : Sl w a cap B) :
    Calls Tryd.prog 20 #[.slice a B.length cap] w (PostRi B w) := by
  obtain ⟨G, HG⟩ : ∃ G, Hid (w.heap.size = G) := ⟨_, rfl⟩
  obtain ⟨LN, HLN⟩ : ∃ n, Hid (B.length = n) := ⟨_, rfl⟩
  have hLN : LN ≤ 20000 := by rw [← HLN.out]; exact hlen
  obtain ⟨zr, HZ⟩ : ∃ zr : Array Value, Hid (zr = (row .u8 z20).toArray) := ⟨_, rfl⟩
  have hz24 : ∀ w : World, (zeroValue 24).run Tryd.prog w = .ok (.agg zr) w := fun w => by rw [HZ.out]; kernel_rfl
  have HBU : Hid (Tryd.prog.built 24 [] = some zr) := hid (by rw [HZ.out]; exact built24)
  have HZS : Hid (zr.size = 20) := hid (by rw [HZ.out]; rfl)
  have HZL : Hid (zr.toList = row .u8 z20) := hid (by rw [HZ.out])
  have IZ : Hid ((Tryd.prog.info? 24).map (·.size) = some zr.size) := hid (by rw [HZS.out]; exact Tryd.size24)
  have OZ : Hid (zr.all (·.oneCell') = true) := hid (by rw [HZ.out]; exact all_oneCell_toArray (row_one _ _))
  obtain ⟨w1, HW1⟩ : ∃ w1, Hid (w.alloc (.cells zr 24) = w1) := ⟨_, rfl⟩
  have hb1 : Below w.heap.size w w1 := by rw [← HW1.out]; exact (Below.refl _ w).alloc (Nat.le_refl _) _
  have HB1 : Hid (Below G w w1) := hid (by rw [← HG.out]; exact hb1)
  have HR1 : Hid (w1.heap[G]? = some (.cells zr 24 (0, 0))) := hid (by rw [← HW1.out, ← HG.out]; exact heap_alloc_new w _)
  have HSB : Hid (∀ W, Below G w W → Sl W a cap B) := fun W hW => hS.below (by rw [HG.out]; exact hW)
  clear hb1 hS
  rw [HLN.out]
  by_cases h1072 : LN < 1072
  · have h1i : (LN : Int) < 1072 := by omega
    have HNO : Hid (¬ (1072 ≤ B.length ∧ Idx B)) := fun h => by have := h.1; rw [HLN.out] at this; omega
    have D0 : Hid ((w.alloc (.cells zr 24)).heap[w.heap.size]? = some (.cells zr 24 (0, 0))) := heap_alloc_new w _
    have HSF : Hid ((w.alloc (.cells zr 24)).setRow w.heap.size zr = w1) := hid (by rw [← HW1.out]; exact setRow_self _ _ _ 24 _ D0.out)
    go_enter Tryd.func20, Tryd.ntmps20
    go_wp2_with (first
      | (refine wpList_built rfl 24 _ rfl zr (by simp only [List.map_toArray, List.map_nil]; exact HBU.out) ?_)
      | (refine wpList_store_row rfl 24 _ _ rfl w.heap.size zr rfl rfl 24 zr D0.out IZ.out rfl OZ.out ?_; rw [HSF.out, HG.out])
      | fail)
    refine bodyPost_ret (v := .tuple #[.slice none 0 0, .agg (row .u8 z20).toArray, .iface 38 (.int .i64 42)]) (results_t3 Tryd.results20 _ _ G (row .u8 z20) _ rfl (range_row (by rw [← HZ.out]; exact HR1.out)) Tryd.underlying24 rfl Tryd.size24) rfl ?_
    exact ⟨by rw [HG.out]; exact HB1.out, .inr ⟨HNO.out, rfl⟩⟩
  · have h1i : ¬ (LN : Int) < 1072 := by omega
    obtain ⟨n, HN⟩ : ∃ n, Hid ((LN - 1072) / 28 = n) := ⟨_, rfl⟩
    have hnL : 1072 + 28 * n ≤ LN := by rw [← HN.out]; omega
    have hn7 : n ≤ 700 := by omega
    have hNB : (B.length - 1072) / 28 = n := by rw [HLN.out]; exact HN.out
    have HNB : Hid ((B.length - 1072) / 28 = n) := hNB
    have HWP : Hid (Wp (rdP B n)) := rdP_wp B n hz (by rw [HLN.out]; exact hnL)
    obtain ⟨l, HL⟩ : ∃ l, Hid (rdP B n = l) := ⟨_, rfl⟩
    have HLL : Hid (l.length = n) := hid (by rw [← HL.out]; exact rdP_len B n)
    obtain ⟨su, HSU0⟩ : ∃ l, Hid (rd20 B (1032 + 28 * n) = l) := ⟨_, rfl⟩
    have HS20 : Hid (su.length = 20) := hid (by rw [← HSU0.out]; exact rd20_len B _ (by rw [HLN.out]; omega))
    have HSI : Hid (IsB su) := hid (by rw [← HSU0.out]; exact rd20_isB B _ hz)
    obtain ⟨SU, HSU⟩ : ∃ S : List Value, Hid (row .u8 su = S) := ⟨_, rfl⟩
    have C34 : Hid (Calls Tryd.prog 34 #[.slice a LN cap] w1 (PostTk B n w1)) := hid (by
      have hS1 := HSB.out w1 HB1.out
      obtain ⟨b, off, e1, e2, e3⟩ := hS1.at_ (by rw [HLN.out]; omega)
      subst e1
      have := takePlaces_any b off cap n B w1 hz (by rw [HLN.out]; omega) hNB (by rw [HLN.out]; exact hLN) hS1.capl e2 e3
      rw [HLN.out] at this
      exact this)
    have HIP := idx_prog B hz (by rw [HLN.out]; omega)
    rw [hNB, HL.out, HSU0.out] at HIP
    have HIX : Hid (∀ s, s.Perm l → SrtP s → ((okX l ∧ idxF s su = B) ↔ Idx B)) := HIP
    clear HIP
    rw [HL.out] at HWP
    have HBZ : Hid (IsB B) := hz
    clear hz hNB
    go_enter Tryd.func20, Tryd.ntmps20
    go_wp2_with fail
    rw [HW1.out, HG.out]
    refine C34.out.mono ?_
    rintro ev w2 ⟨F, rfl, hb2, hF, hfr⟩
    have hG1 : G < w1.heap.size := lt_of_some HR1.out
    have HB2 : Hid (Below G w w2) := hid (HB1.out.trans (hb2.mono (Nat.le_of_lt hG1)))
    have HR2 : Hid (w2.heap[G]? = some (.cells zr 24 (0, 0))) := hid ((hb2.block G hG1).trans HR1.out)
    rw [HL.out] at hfr
    have HF2 : Hid (Fr w2 F l) := hfr
    have hGF : G < F := by omega
    rw [HSU0.out, HSU.out]
    clear hb2 hF hfr
    have HRL : Hid (SU.length = 20) := hid (by rw [← HSU.out, row_len]; exact HS20.out)
    have I24 : Hid ((Tryd.prog.info? 24).map (·.size) = some SU.toArray.size) := hid (by rw [List.size_toArray, HRL.out]; exact Tryd.size24)
    have hi24 : (Tryd.prog.info? 24).map (·.size) = some SU.length := by rw [HRL.out]; exact Tryd.size24
    have E24 : Hid (zr.size = SU.toArray.size) := hid (by rw [HZS.out, List.size_toArray, HRL.out])
    have O24 : Hid (SU.toArray.all (·.oneCell') = true) := hid (by rw [← HSU.out]; exact all_oneCell_toArray (row_one _ _))
    have D0 : Hid ((w2.alloc (.cells zr 24)).heap[w2.heap.size]? = some (.cells zr 24 (0, 0))) := heap_alloc_new w2 _
    obtain ⟨w3, HW3⟩ : ∃ w3, Hid ((w2.alloc (.cells zr 24)).setRow w2.heap.size SU.toArray = w3) := ⟨_, rfl⟩
    obtain ⟨K, HK⟩ : ∃ K, Hid (w2.heap.size = K) := ⟨_, rfl⟩
    have hb3 : Below w2.heap.size w2 w3 := by rw [← HW3.out]; exact below_setRow ((Below.refl _ w2).alloc (Nat.le_refl _) _) (Nat.le_refl _) _
    have B3 : Hid (w3.heap[K]? = some (.cells SU.toArray 24 (0, 0))) := hid (by rw [← HW3.out, ← HK.out]; exact setRow_heap _ _ _ SU.toArray _ _ D0.out)
    have hG2 : G < w2.heap.size := lt_of_some HR2.out
    have HB3 : Hid (Below G w w3) := hid (HB2.out.trans (hb3.mono (Nat.le_of_lt hG2)))
    have HR3 : Hid (w3.heap[G]? = some (.cells zr 24 (0, 0))) := hid ((hb3.block G hG2).trans HR2.out)
    have HF3 : Hid (Fr w3 F l) := hid (HF2.out.below hb3)
    have hGK : G < K := by rw [← HK.out]; exact hG2
    have RS : Hid (w3.rangeAt K 0 SU) := hid (range_row B3.out)
    clear hb3 HB2 HR2 hG2 HF2
    have C4 : Hid (Calls Tryd.prog 4 #[.slice (some ⟨F, 0, none⟩) n n, .agg SU.toArray] w3 (PostWx l su w3)) := hid (by
      have hpp := fr_pp HF3.out (fun p hp => (HWP.out p hp).1)
      rw [HLL.out] at hpp
      have := writeIdx_any (some ⟨F, 0, none⟩) n l su HS20.out HSI.out w3 HWP.out (by rw [HLL.out]; omega) hpp (.inr ⟨F, 0, rfl⟩)
      rw [HLL.out, HSU.out] at this
      exact this)
    go_wp2_with (first
      | (refine wpList_store_row rfl 24 _ _ rfl w2.heap.size SU.toArray rfl rfl 24 zr D0.out I24.out E24.out O24.out ?_; rw [HW3.out, HK.out])
      | refine wpList_load_mid rfl 24 _ rfl K 0 rfl SU _ RS.out Tryd.underlying24 rfl hi24 ?_
      | fail)
    refine C4.out.mono ?_
    rintro ev w4 ⟨hb4, s, hsp, hsr, hcase⟩
    have HIF : Hid (IsB (idxF s su)) := hid (idxF_isB s su (wp_perm hsp HWP.out) HSI.out)
    have HIS : Hid ((okX l ∧ idxF s su = B) ↔ Idx B) := hid (HIX.out s hsp hsr)
    have hG3 : G < w3.heap.size := lt_of_some HR3.out
    have HB4 : Hid (Below G w w4) := hid (HB3.out.trans (hb4.mono (Nat.le_of_lt hG3)))
    have HR4 : Hid (w4.heap[G]? = some (.cells zr 24 (0, 0))) := hid ((hb4.block G hG3).trans HR3.out)
    have HK4 : Hid (w4.heap[K]? = some (.cells SU.toArray 24 (0, 0))) := hid ((hb4.block K (lt_of_some B3.out)).trans B3.out)
    have HF4 : Hid (Fr w4 F l) := hid (HF3.out.below hb4)
    clear hb4 hsp hsr hG3 C4
    have HSF : Hid (w4.setRow G zr = w4) := hid (setRow_self _ _ _ 24 _ HR4.out)
    have HBAD : Hid (¬ (okX l ∧ idxF s su = B) → PostRi B w (.returned (.tuple #[.slice none 0 0, .agg (row .u8 z20).toArray, .iface 38 (.int .i64 42)])) w4) := fun h => ⟨by rw [HG.out]; exact HB4.out, .inr ⟨fun h2 => h (HIS.out.2 h2.2), rfl⟩⟩
    rcases hcase with ⟨hok, a5, cap5, rfl, hs5⟩ | ⟨hbad, rfl⟩
    · have HOK : Hid (okX l) := hok
      have HS5 : Hid (Sl w4 a5 cap5 (idxF s su)) := hs5
      clear hok hs5
      obtain ⟨fl, HFL⟩ : ∃ n, Hid ((idxF s su).length = n) := ⟨_, rfl⟩
      obtain ⟨eq, HEQ⟩ : ∃ b : Bool, Hid ((Lib.bytesOf (idxF s su) == Lib.bytesOf B) = b) := ⟨_, rfl⟩
      have CE : Hid (Calls Tryd.prog 35 #[.slice a5 fl cap5, .slice a LN cap] w4 fun e w' => e = .returned (.bool eq) ∧ w' = w4) := hid (by
        have h := equal_any a5 a cap5 cap (idxF s su) B w4 HS5.out (HSB.out _ HB4.out)
        rw [HFL.out, HEQ.out, HLN.out] at h
        exact h)
      rw [HFL.out]
      go_wp2_with fail
      refine CE.out.mono ?_
      rintro ev w4' ⟨rfl, hw4⟩
      have hw4' := hw4.symm
      subst hw4'
      clear hw4
      cases eq with
      | false =>
        have HNO : Hid (¬ (okX l ∧ idxF s su = B)) := fun h => by have h2 := HEQ.out; rw [h.2] at h2; simp at h2
        go_wp2_with (first
          | (refine wpList_built rfl 24 _ rfl zr (by simp only [List.map_toArray, List.map_nil]; exact HBU.out) ?_)
          | (refine wpList_store_row rfl 24 _ _ rfl G zr rfl rfl 24 zr HR4.out IZ.out rfl OZ.out ?_; rw [HSF.out])
          | fail)
        refine bodyPost_ret (v := .tuple #[.slice none 0 0, .agg (row .u8 z20).toArray, .iface 38 (.int .i64 42)]) (results_t3 Tryd.results20 _ _ G (row .u8 z20) _ rfl (range_row (by rw [← HZ.out]; exact HR4.out)) Tryd.underlying24 rfl Tryd.size24) rfl ?_
        exact HBAD.out HNO.out
      | true =>
        have HYE : Hid (idxF s su = B) := hid (bytes_inj HIF.out HBZ.out (by have h2 := HEQ.out; simpa using h2))
        have HID : Hid (Idx B) := hid (HIS.out.1 ⟨HOK.out, HYE.out⟩)
        have HSS : Hid (RW K G SU.toArray.size SU w4.drew) := hid ⟨range_row HK4.out, there_off (show w4.drew.heap[G]? = _ from HR4.out) (by rw [← E24.out]; exact Nat.le_refl _)⟩
        have HBd : Hid (Below G w w4.drew) := hid (below_drewH HB4.out 1)
        have HFd : Hid (Fr w4.drew F l) := HF4.out
        go_wp2_with fail
        refine wp_region_held_drew (S := RW K G SU.toArray.size SU) (by kernel_rfl) (by exact HSS.out) (fun hHeld => ?_)
        generalize w4.drew = u0 at hHeld HSS HBd HFd ⊢
        clear HSS
        refine takeL (i := 0) (v := ?_) rfl (by kernel_rfl) (by kernel_rfl) (by kernel_rfl) (fun _ _ _ h => h) (Or.inl ⟨by rfl, ?_⟩) hHeld ?_
        rotate_left
        · rintro w' ⟨r, t⟩; go_simp; rfl
        try simp only [Act.put, List.setIfInBounds_toArray, List.set_cons_zero, List.set_cons_succ]
        refine takeL (i := 1) (v := .agg SU.toArray) rfl (by kernel_rfl) (by kernel_rfl) (by kernel_rfl) (fun _ _ _ h => h) (yieldsIf_load_mid (by kernel_rfl) 24 _ rfl K 0 (by rfl) SU _ (fun w' h => h.r) Tryd.underlying24 rfl hi24) hHeld ?_
        try simp only [Act.put, List.setIfInBounds_toArray, List.set_cons_zero, List.set_cons_succ]
        refine takeL (i := 2) (v := ?_) rfl (by kernel_rfl) (by kernel_rfl) (by kernel_rfl) (fun _ _ _ h => h) (Or.inl ⟨by rfl, ?_⟩) hHeld ?_
        rotate_left
        · rintro w' ⟨r, t⟩; go_simp; rfl
        try simp only [Act.put, List.setIfInBounds_toArray, List.set_cons_zero, List.set_cons_succ]
        refine wpAnyH_ready (rs := [3]) (by kernel_rfl) (by simp) ?_
        refine consL rfl (fun KK hKK => ?_) AllReadyH.nil
        refine step_store (by rfl) 24 _ _ (by rfl) G 0 SU.toArray (by rfl) (by rfl) hHeld.t I24.out O24.out ?_
        have hGK2 : K ≠ G := by omega
        refine hKK.out _ _ ⟨World.rangeAt_setCells_apart hHeld.r G 0 _ (.inl hGK2), World.there_setCells hHeld.t _ _ _⟩ (fun hHeld2 => ?_)
        clear hKK KK
        try simp only [Act.put, List.setIfInBounds_toArray, List.set_cons_zero, List.set_cons_succ]
        refine takeL (i := 4) (v := ?_) rfl (by kernel_rfl) (by kernel_rfl) (by kernel_rfl) (fun _ _ _ h => h) (Or.inl ⟨by rfl, ?_⟩) hHeld2 ?_
        rotate_left
        · rintro w' ⟨r, t⟩; go_simp; rfl
        try simp only [Act.put, List.setIfInBounds_toArray, List.set_cons_zero, List.set_cons_succ]
        refine wpAnyH_done (by kernel_rfl) ?_ _
        have HT : Hid (u0.there G 0 SU.length) := hid (by have := hHeld.t; rwa [List.size_toArray] at this)
        have HFu : Hid (Fr (u0.setCells G 0 SU.toArray.toList) F l) := hid (by
          have h := HFd.out
          unfold Fr at h ⊢
          rw [heap_setCells_ne _ _ _ _ _ (by omega)]
          exact h)
        clear hHeld hHeld2
        go_wp2_with fail
        refine bodyPost_ret (v := .tuple #[.slice (some ⟨F, 0, none⟩) n n, .agg SU.toArray, .nilIface]) (results_t3 Tryd.results20 _ _ G SU _ rfl (World.rangeAt_setCells_same _ G 0 _ HT.out) Tryd.underlying24 rfl hi24) rfl ?_
        have he40 : LN - 40 = 1032 + 28 * n := by have := HID.out.1; have h2 := HNB.out; rw [HLN.out] at this h2; omega
        refine ⟨?_, .inl ⟨⟨by rw [HLN.out]; omega, HID.out⟩, F, ?_, by rw [HG.out]; omega, ?_⟩⟩
        · rw [HG.out]
          exact below_setCells (Nat.le_refl _) _ _ _ _ HBd.out
        · rw [HNB.out, HLN.out, he40, HSU0.out, HSU.out]
        · rw [HNB.out, HL.out]
          exact HFu.out
    · have HNO : Hid (¬ (okX l ∧ idxF s su = B)) := fun h => hbad h.1
      clear hbad
      go_wp2_with (first
        | (refine wpList_built rfl 24 _ rfl zr (by simp only [List.map_toArray, List.map_nil]; exact HBU.out) ?_)
        | (refine wpList_store_row rfl 24 _ _ rfl G zr rfl rfl 24 zr HR4.out IZ.out rfl OZ.out ?_; rw [HSF.out])
        | fail)
      refine bodyPost_ret (v := .tuple #[.slice none 0 0, .agg (row .u8 z20).toArray, .iface 38 (.int .i64 42)]) (results_t3 Tryd.results20 _ _ G (row .u8 z20) _ rfl (range_row (by rw [← HZ.out]; exact HR4.out)) Tryd.underlying24 rfl Tryd.size24) rfl ?_
      exact HBAD.out HNO.out
end Go.Proofs.YtdfihfmmfmoabaaDoor
