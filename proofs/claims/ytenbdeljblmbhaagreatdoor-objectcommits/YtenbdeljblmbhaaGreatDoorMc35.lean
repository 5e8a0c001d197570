import Derived.Test.YtenbdeljblmbhaaGreatDoorMc34
/- Package object: commitOf. -/
namespace Go.Proofs.YtenbdeljblmbhaaGreatDoor
open Go.RowKit
set_option linter.unusedVariables false
set_option linter.unusedSimpArgs false
theorem Tryz.info32 : (Tryz.prog.info? 32).map (fun i => (i.zero, i.size, i.bytes)) = some (some (.agg (row .u8 z20).toArray), 20, 20) := by kernel_rfl
theorem enter138 (v1 v2 : Value) (w : World) : (callFunc 138 #[v1, v2]).run Tryz.prog w = .ok (.enter 138 #[v1, v2]) w := by kernel_rfl
theorem Tryz.results106 : Tryz.f106.results = #[.cell 2 60] := by kernel_rfl
theorem OI.lower {B B' : Nat} {a : Option Addr} {cap : Nat} {ids : List (List Int)} {W : World} (h : OI B a cap ids W) (hb : B' ≤ B) : OI B' a cap ids W := by
  obtain ⟨hl, h | ⟨g, cap2, cur, hv, hg, r⟩⟩ := h
  · exact ⟨hl, .inl h⟩
  · exact ⟨hl, .inr ⟨g, cap2, cur, hv, by omega, r⟩⟩
theorem OI.snoc {B : Nat} {ao : Option Addr} {cap n : Nat} {ids : List (List Int)} {fr : List Int} {W : World} (hn : ids.length = n) (h : W.ownsRow B 32 20 (.slice ao (n + 1 : Nat) cap) (n + 1) (ids.flatMap (row .u8) ++ row .u8 fr)) : OI B ao cap (ids ++ [fr]) W := by
  unfold OI
  have e : (ids ++ [fr]).length = n + 1 := by simp [hn]
  rw [e, List.flatMap_append]
  simpa using h
theorem OI.setCells {B g : Nat} {a : Option Addr} {cap : Nat} {ids : List (List Int)} {W : World} (h : OI B a cap ids W) (hg : g < B) (o : Nat) (vs : List Value) : OI B a cap ids (W.setCells g o vs) := by
  have hb := below_setCells (Nat.le_refl g) vs o W W (Below.refl g W)
  have hgr : W.grownBy (W.setCells g o vs) (some g) := ⟨hb.os, hb.tape, hb.output, hb.size, fun k hk hne => heap_setCells_other g k (fun e => hne (by rw [e])) vs o _⟩
  refine World.ownsRow.kept h hgr ?_
  obtain ⟨_, ⟨hv, _⟩ | ⟨g2, cap2, cur, hv, hb, _⟩⟩ := h
  · rw [hv]; left; rfl
  · rw [hv]; right
    simp [Value.ownBlock]
    omega
theorem news_row (w : World) (RF : List Value) (t : TypeId) : ∀ j u, RF[j]? = some u → (w.alloc (.cells RF.toArray t)).cell? ((⟨w.heap.size, 0, none⟩ : Addr).add j) = some u := fun j u hj => by
  have h := range_row (heap_alloc_new w (.cells RF.toArray t)) j u hj
  rw [addr_add]
  exact h
set_option maxRecDepth 20000 in
theorem fold32 (fr : List Int) (h : fr.length = 20) : List.foldl (fun (cs : Array Value) (x : Value × Nat) => cs.setIfInBounds x.snd x.fst) #[.int .u8 0, .int .u8 0, .int .u8 0, .int .u8 0, .int .u8 0, .int .u8 0, .int .u8 0, .int .u8 0, .int .u8 0, .int .u8 0, .int .u8 0, .int .u8 0, .int .u8 0, .int .u8 0, .int .u8 0, .int .u8 0, .int .u8 0, .int .u8 0, .int .u8 0, .int .u8 0] (row .u8 fr).zipIdx = (row .u8 fr).toArray := by
  obtain ⟨a0, a1, a2, a3, a4, a5, a6, a7, a8, a9, a10, a11, a12, a13, a14, a15, a16, a17, a18, a19, rfl⟩ := list20 fr h
  kernel_rfl
/-- What 'commitOf' gives. -/
def PostOC (s : List UInt8) (w : World) (e : Ending) (w' : World) : Prop := Below w.heap.size w w' ∧ ∃ C a cap, e = .returned (.agg (cmV C a cap).toArray) ∧ TC s C ∧ OI w.heap.size a cap C.ids w'
set_option maxRecDepth 20000 in
set_option maxHeartbeats 4000000 in
theorem commitOf_any (s : List UInt8) (hs : s.length ≤ 200000) (w : World) (he : Ers w) (hm : Mx w) : Calls Tryz.prog 106 #[.string ⟨s.toArray⟩] w (PostOC s w) := by
  obtain ⟨i32, hi32, hz0, hz1, hz2⟩ := info_parts Tryz.info32
  obtain ⟨S, HS⟩ : ∃ S : ByteArray, Hid (⟨s.toArray⟩ = S) := ⟨_, rfl⟩
  obtain ⟨zr, HZ⟩ : ∃ zr : Array Value, Hid (zr = (cmV (cm0 z20) none 0).toArray) := ⟨_, rfl⟩
  have hz60 : ∀ w : World, (zeroValue 60).run Tryz.prog w = .ok (.agg zr) w := fun w => by rw [HZ.out]; exact zero60 w
  have HZS : Hid (zr.size = 30) := hid (by rw [HZ.out, List.size_toArray]; exact cmV_len _ _ _ rfl)
  obtain ⟨G, HG⟩ : ∃ G, Hid (w.heap.size = G) := ⟨_, rfl⟩
  obtain ⟨w1, HW1⟩ : ∃ w1, Hid ((w.alloc (.cells zr 60)).alloc (.cells #[.string S] 220) = w1) := ⟨_, rfl⟩
  have HB1 : Hid (Below G w w1) := hid (by rw [← HW1.out, ← HG.out]; exact ((Below.refl _ w).alloc (Nat.le_refl _) _).alloc (by simp) _)
  have HR1 : Hid (w1.heap[G + 1]? = some (.cells #[.string S] 220 (0, 0))) := hid (by
    rw [← HW1.out, ← HG.out]
    have := heap_alloc_new (w.alloc (.cells zr 60)) (.cells #[.string S] 220)
    simpa using this)
  have HZ1 : Hid (w1.heap[G]? = some (.cells zr 60 (0, 0))) := hid (by
    rw [← HW1.out, ← HG.out]
    have h1 := heap_alloc_new w (.cells zr 60)
    have h2 := ((Below.refl (w.alloc (.cells zr 60)).heap.size (w.alloc (.cells zr 60))).alloc (Nat.le_refl _) (.cells #[.string S] 220)).block w.heap.size (by simp)
    exact h2.trans h1)
  have HE : Hid (∀ W, Below G w W → Ers W) := fun W hW => he.below (by rw [HG.out]; exact hW)
  have HM : Hid (∀ W, Below G w W → Mx W) := fun W hW => hm.below (by rw [HG.out]; exact hW)
  obtain ⟨s1, K1⟩ : ∃ x, Hid (rst s = x) := ⟨_, rfl⟩
  have L1 : Hid (s1.length ≤ 200000) := hid (by rw [← K1.out]; exact Nat.le_trans (rst_le _) hs)
  obtain ⟨S1, J1⟩ : ∃ S : ByteArray, Hid (⟨s1.toArray⟩ = S) := ⟨_, rfl⟩
  have C0 : Hid (Calls Tryz.prog 138 #[.pointer (some ⟨G + 1, 0, none⟩), .string ⟨#[116, 114, 101, 101]⟩] w1 (PostI s wTree (G + 1) w1)) := hid (rid_any s wTree hs (by decide) (Nat.le_trans (fld_le _ _) (by omega)) (G + 1) w1 (by rw [HS.out]; exact HR1.out) (HM.out _ HB1.out))
  rw [HS.out]
  clear he hm
  go_enter Tryz.func106, Tryz.ntmps106
  go_wp2_with fail
  rw [HG.out, HW1.out]
  refine C0.out.mono ?_
  rintro ev w2 ⟨fr, rfl, hpid, hrd⟩
  have HPI : Hid (PId (fld s wTree) fr) := hpid
  have HFL : Hid (fr.length = 20) := hpid.1
  have HB2 : Hid (Below G w w2) := hrd.below HB1.out (by omega) (lt_of_some HR1.out)
  have HR2 : Hid (w2.heap[G + 1]? = some (.cells #[.string S1] 220 (0, 0))) := hid (by rw [← J1.out, ← K1.out]; exact hrd.box)
  have HZ2 : Hid (w2.heap[G]? = some (.cells zr 60 (0, 0))) := hid ((hrd.block G (lt_of_some HZ1.out) (by omega)).trans HZ1.out)
  clear hpid hrd C0
  obtain ⟨B, HBB⟩ : ∃ B : Array Value, Hid ((cmV (cm0 fr) none 0).toArray = B) := ⟨_, rfl⟩
  have HBU : Hid (Tryz.prog.built 60 [(0, .agg (row .u8 fr).toArray)] = some B) := hid (by rw [← HBB.out]; exact built60 fr HFL.out)
  have HBS : Hid (B.size = 30) := hid (by rw [← HBB.out, List.size_toArray]; exact cmV_len _ _ _ HFL.out)
  have hfold : List.foldl (fun (cs : Array Value) (x : Value × Nat) => cs.setIfInBounds x.snd x.fst) zr (row .u8 fr).zipIdx = B := by rw [HZ.out, ← HBB.out]; exact fold60 fr HFL.out
  have D2 : Hid ((Tryz.prog.info? 60).map (·.size) = some B.size) := hid (by rw [HBS.out]; exact Tryz.size60)
  have D3 : Hid (B.all (·.oneCell') = true) := hid (by rw [← HBB.out]; exact all_oneCell_toArray (cmV_one _ _ _))
  have D0 : Hid ((w2.alloc (.cells zr 60)).heap[w2.heap.size]? = some (.cells zr 60 (0, 0))) := heap_alloc_new w2 _
  have D1 : Hid (zr.size = B.size) := hid (by rw [HZS.out, HBS.out])
  have hrl : (row .u8 fr).length = 20 := by rw [row_len]; exact HFL.out
  have hzs : zr.size = 30 := HZS.out
  go_wp2_with (first
    | refine wpList_store_row rfl 60 _ _ rfl w2.heap.size B rfl rfl 60 zr D0.out D2.out D1.out D3.out ?_
    | fail)
  clear hrl hzs hfold
  obtain ⟨G4, HG4⟩ : ∃ G4, Hid (w2.heap.size = G4) := ⟨_, rfl⟩
  have HLT : Hid (G + 1 < G4) := hid (by rw [← HG4.out]; exact lt_of_some HR2.out)
  have CS3 : Hid (CS G G4 zr S1 (cm0 fr) none 0 w ((w2.alloc (.cells zr 60)).setRow w2.heap.size B)) := hid (by
    have hlt := HLT.out
    have h4 := HG4.out
    have hb2 := (Below.refl w2.heap.size w2).alloc (Nat.le_refl _) (.cells zr 60)
    refine ⟨below_setRow (HB2.out.alloc (by omega) _) (by omega) B, ?_, ?_, ?_⟩
    · rw [setRow_other _ _ _ _ (by omega)]
      exact (hb2.block _ (by omega)).trans HR2.out
    · rw [← h4, HBB.out]
      exact setRow_heap _ _ _ B _ _ D0.out
    · rw [setRow_other _ _ _ _ (by omega)]
      exact (hb2.block _ (by omega)).trans HZ2.out)
  rw [HG4.out] at CS3
  rw [HG4.out]
  generalize (w2.alloc (.cells zr 60)).setRow G4 B = w3 at CS3 ⊢
  have OI3 : Hid (OI (G4 + 1) none 0 [] w3) := ⟨rfl, .inl ⟨rfl, rfl⟩⟩
  simp only [Act.put]
  go_loopg [] s1.length (fun g wr => ∃ (ids : List (List Int)) (r : List UInt8) (a : Option Addr) (cap : Nat), g = r.length ∧ Hid (CS G G4 zr ⟨r.toArray⟩ ⟨fr, ids, ⟨[], [], 0, 0⟩, ⟨[], [], 0, 0⟩, []⟩ a cap w wr) ∧ Hid (OI (G4 + 1) a cap ids wr) ∧ Hid (PQs s1 ids r))
  case atStart => exact ⟨[], s1, none, 0, rfl, hid (by rw [J1.out]; exact CS3.out), OI3, .zero⟩
  case round =>
    obtain ⟨ids, r, a, cap, hk, CSR, OIR, HQ⟩ := hrel
    obtain ⟨R, HR⟩ : ∃ S : ByteArray, Hid (⟨r.toArray⟩ = S) := ⟨_, rfl⟩
    have LR : Hid (r.length + ids.length ≤ 200000) := hid (Nat.le_trans HQ.out.le L1.out)
    obtain ⟨hp, HHP⟩ : ∃ b, Hid (hasP r = b) := ⟨_, rfl⟩
    have CH : Hid (Calls Tryz.prog 139 #[.pointer (some ⟨G + 1, 0, none⟩), .string ⟨#[112, 97, 114, 101, 110, 116]⟩] wr fun e w' => e = .returned (.bool hp) ∧ w' = wr) := hid (by rw [← HHP.out]; exact has_any r (G + 1) wr CSR.out.box)
    go_wp2_with fail
    refine CH.out.mono ?_
    rintro ev wr' ⟨rfl, hwr⟩
    have hwr' := hwr.symm
    subst hwr'
    clear hwr CH
    cases hp with
    | true =>
      obtain ⟨n, HN⟩ : ∃ n, Hid (ids.length = n) := ⟨_, rfl⟩
      have hn2 : n ≤ 200000 := by have := LR.out; have := HN.out; omega
      obtain ⟨SV, HSV⟩ : ∃ V : Value, Hid (.slice a ids.length cap = V) := ⟨_, rfl⟩
      have hS0 : wr.drew.cell? ⟨G4, 20, none⟩ = some SV := by rw [← HSV.out]; exact (CSR.out.cell HFL.out 0 _ rfl).1
      have CSd : Hid (CS G G4 zr ⟨r.toArray⟩ ⟨fr, ids, ⟨[], [], 0, 0⟩, ⟨[], [], 0, 0⟩, []⟩ a cap w wr.drew) := ⟨⟨CSR.out.below.os, CSR.out.below.tape, CSR.out.below.output, CSR.out.below.size, CSR.out.below.block⟩, CSR.out.box, CSR.out.com, CSR.out.res⟩
      have OId : Hid (OI (G4 + 1) a cap ids wr.drew) := OIR
      have CR : Hid (Calls Tryz.prog 138 #[.pointer (some ⟨G + 1, 0, none⟩), .string ⟨#[112, 97, 114, 101, 110, 116]⟩] wr.drew (PostI r wParent (G + 1) wr.drew)) := hid (rid_any r wParent (by have := LR.out; omega) (by decide) (Nat.le_trans (fld_le _ _) (by have := LR.out; omega)) (G + 1) wr.drew CSd.out.box (HM.out _ CSd.out.below))
      go_wp2_with fail
      refine region_U (fun w' => w'.cell? ⟨G4, 20, none⟩ = some SV) 6 (by kernel_rfl) ?_
      generalize wr.drew = u0 at hS0 CSd OId CR ⊢
      refine takeU (i := 0) (v := ?_) rfl (by kernel_rfl) (by kernel_rfl) (by kernel_rfl) (by kernel_rfl) (fun _ _ _ h => h) (Or.inl ⟨by rfl, ?_⟩) hS0 ?_
      rotate_left
      · intro w' s0; go_simp; rfl
      try simp only [Act.put, List.setIfInBounds_toArray, List.set_cons_zero, List.set_cons_succ]
      refine takeU (i := 1) (v := ?_) rfl (by kernel_rfl) (by kernel_rfl) (by kernel_rfl) (by kernel_rfl) (fun _ _ _ h => h) (Or.inl ⟨by rfl, ?_⟩) hS0 ?_
      rotate_left
      · intro w' s0; go_simp; rfl
      try simp only [Act.put, List.setIfInBounds_toArray, List.set_cons_zero, List.set_cons_succ]
      refine readyU1 (i := 2) (by kernel_rfl) (consU rfl (fun KK hKK => ?_))
      refine step_callv (by rfl) 138 [.tmp 3, .const (.string ⟨#[112, 97, 114, 101, 110, 116]⟩)] _ [.pointer (some ⟨G + 1, 0, none⟩), .string ⟨#[112, 97, 114, 101, 110, 116]⟩] _ (by rfl) (by rfl) (enter138 _ _) CR.out ?_
      rintro e u1 ⟨fx, rfl, hpx, hrx⟩
      refine ⟨_, rfl, ?_⟩
      have HPX : Hid (PId (fld r wParent) fx) := hpx
      obtain ⟨rr, HRR⟩ : ∃ x, Hid (rst r = x) := ⟨_, rfl⟩
      have CSA : Hid (CS G G4 zr ⟨rr.toArray⟩ ⟨fr, ids, ⟨[], [], 0, 0⟩, ⟨[], [], 0, 0⟩, []⟩ a cap w u1) := hid (by rw [← HRR.out]; exact CSd.out.rd HLT.out hrx)
      have OIA : Hid (OI (G4 + 1) a cap ids u1) := OId.out.rd hrx (by have := HLT.out; omega)
      clear hpx hrx
      have hS1 : u1.cell? ⟨G4, 20, none⟩ = some SV := by rw [← HSV.out]; exact (CSA.out.cell HFL.out 0 _ rfl).1
      refine hKK.out _ _ (.inr hS1) ?_
      clear hKK KK hS0
      try simp only [Act.put, List.setIfInBounds_toArray, List.set_cons_zero, List.set_cons_succ]
      obtain ⟨RF, HRF⟩ : ∃ R : List Value, Hid (row .u8 fx = R) := ⟨_, rfl⟩
      have hRL : RF.length = 20 := by rw [← HRF.out, row_len]; exact HPX.out.1
      rw [HRF.out]
      refine readyU1 (i := 3) (by kernel_rfl) (consU rfl (fun KK hKK => ?_))
      obtain ⟨u2, HU2⟩ : ∃ u2, Hid (u1.alloc (.cells RF.toArray 32) = u2) := ⟨_, rfl⟩
      obtain ⟨b2, Hb2⟩ : ∃ b, Hid (u1.heap.size = b) := ⟨_, rfl⟩
      have hb2 : Below u1.heap.size u1 u2 := by rw [← HU2.out]; exact (Below.refl _ _).alloc (Nat.le_refl _) _
      have HN2 : Hid (∀ j u, RF[j]? = some u → u2.cell? ((⟨b2, 0, none⟩ : Addr).add j) = some u) := hid (by rw [← HU2.out, ← Hb2.out]; exact news_row _ _ _)
      have CSB : Hid (CS G G4 zr ⟨rr.toArray⟩ ⟨fr, ids, ⟨[], [], 0, 0⟩, ⟨[], [], 0, 0⟩, []⟩ a cap w u2) := CSA.out.grow hb2
      have OIB : Hid (OI (G4 + 1) a cap ids u2) := OIA.out.keep hb2
      refine step_exec (by rfl) (.slice (some ⟨b2, 0, none⟩) 1 1) (w' := u2) (by rw [← HU2.out, ← Hb2.out]; go_simp; rw [← HRF.out, fold32 fx HPX.out.1]) ?_
      have hS2 : u2.cell? ⟨G4, 20, none⟩ = some SV := by rw [← HSV.out]; exact (CSB.out.cell HFL.out 0 _ rfl).1
      refine hKK.out _ _ (.inr hS2) ?_
      clear hKK KK hS1 hb2
      try simp only [Act.put, List.setIfInBounds_toArray, List.set_cons_zero, List.set_cons_succ]
      have OWB : Hid (u2.ownsRow (G4 + 1) 32 20 SV n (ids.flatMap (row .u8))) := hid (by rw [← HSV.out, ← HN.out]; exact OIB.out)
      refine readyU1 (i := 4) (by kernel_rfl) (consU rfl (fun KK hKK => ?_))
      refine step_append_at u2 (by rfl) _ _ 56 rfl (G4 + 1) 32 i32 (.agg (row .u8 z20).toArray) 20 20 Tryz.underlying56 hi32 hz0 hz1 hz2 rfl (by decide) SV n (ids.flatMap (row .u8)) (by rfl) OWB.out ⟨b2, 0, none⟩ 1 1 RF (by rfl) (by rw [hRL]) HN2.out (by rw [← HRF.out]; exact row_one _ _) (by unfold maxLen; omega) (by omega) (Nat.succ_le_of_lt (lt_of_some CSB.out.com)) _ rfl ?_
      intro ao cap2 u3 hown hg hloc
      have OIC : Hid (OI (G4 + 1) ao cap2 (ids ++ [fx]) u3) := OI.snoc HN.out (by rw [HRF.out]; exact hown)
      have CSC : Hid (CS G G4 zr ⟨rr.toArray⟩ ⟨fr, ids, ⟨[], [], 0, 0⟩, ⟨[], [], 0, 0⟩, []⟩ a cap w u3) := CSB.out.grown HLT.out hg (fun k hk => by
        obtain ⟨_, ⟨hv, _⟩ | ⟨g2, c2, cur, hv, hb, _⟩⟩ := OWB.out
        · rw [hv] at hk; cases hk
        · rw [hv] at hk
          have : g2 = k := by simpa [Value.ownBlock] using hk
          omega)
      clear hown hg hloc
      have hS3 : u3.cell? ⟨G4, 20, none⟩ = some SV := by rw [← HSV.out]; exact (CSC.out.cell HFL.out 0 _ rfl).1
      have hf3 : u3.frozen? ⟨G4, 20, none⟩ = false := (CSC.out.cell HFL.out 0 _ rfl).2
      refine hKK.out _ _ (.inr hS3) ?_
      clear hKK KK hS2
      try simp only [Act.put, List.setIfInBounds_toArray, List.set_cons_zero, List.set_cons_succ]
      refine takeU (i := 5) (v := ?_) rfl (by kernel_rfl) (by kernel_rfl) (by kernel_rfl) (by kernel_rfl) (fun _ _ _ h => h) (Or.inl ⟨by rfl, ?_⟩) hS3 ?_
      rotate_left
      · intro w' s0; go_simp; rfl
      try simp only [Act.put, List.setIfInBounds_toArray, List.set_cons_zero, List.set_cons_succ]
      refine readyU1 (i := 6) (by kernel_rfl) (consU rfl (fun KK hKK => ?_))
      go_simp
      refine hKK.out _ _ (.inl rfl) ?_
      clear hKK KK
      try simp only [Act.put, List.setIfInBounds_toArray, List.set_cons_zero, List.set_cons_succ]
      refine doneU (by kernel_rfl) ?_ _
      have CSD : Hid (CS G G4 zr ⟨rr.toArray⟩ ⟨fr, ids ++ [fx], ⟨[], [], 0, 0⟩, ⟨[], [], 0, 0⟩, []⟩ ao cap2 w (u3.setCell ⟨G4, 20, none⟩ (.slice ao (n + 1 : Nat) cap2))) := CSC.out.set HLT.out HFL.out 0 _ (by
        have e : (ids ++ [fx]).length = n + 1 := by simp [HN.out]
        unfold cmV cmT
        rw [e]
        rfl)
      have OID : Hid (OI (G4 + 1) ao cap2 (ids ++ [fx]) (u3.setCell ⟨G4, 20, none⟩ (.slice ao (n + 1 : Nat) cap2))) := hid (by
        have hgr : u3.grownBy (u3.setCell ⟨G4, 20, none⟩ (.slice ao (n + 1 : Nat) cap2)) (some G4) := ⟨rfl, rfl, rfl, by simp [World.setCell], fun k hk hne => heap_setCell_other u3 ⟨G4, 20, none⟩ k _ (fun e => hne (by rw [e]))⟩
        refine World.ownsRow.kept OIC.out hgr ?_
        obtain ⟨_, ⟨hv, _⟩ | ⟨g2, c2, cur, hv, hb, _⟩⟩ := OIC.out
        · rw [hv]; left; rfl
        · rw [hv]; right
          simp [Value.ownBlock]
          omega)
      generalize u3.setCell ⟨G4, 20, none⟩ (.slice ao (n + 1 : Nat) cap2) = u4 at CSD OID ⊢
      clear hS3 hf3 hRL
      have HQ2 : Hid (PQs s1 (ids ++ [fx]) rr) := hid (by rw [← HRR.out]; exact .step HQ.out HHP.out HPX.out)
      have hlt : rr.length < r.length := by
        have h1 := (PQs.step (s := r) PQs.zero HHP.out HPX.out).le
        rw [HRR.out] at h1
        simp at h1
        omega
      go_wp2
      go_roundg rr.length
      case measure => rw [hk]; exact hlt
      case rel => exact ⟨ids ++ [fx], rr, ao, cap2, rfl, CSD, OID, HQ2⟩
    | false =>
      obtain ⟨r1, Q1⟩ : ∃ x, Hid (rst r = x) := ⟨_, rfl⟩
      obtain ⟨r2, Q2⟩ : ∃ x, Hid (rst r1 = x) := ⟨_, rfl⟩
      obtain ⟨r3, Q3⟩ : ∃ x, Hid (rst r2 = x) := ⟨_, rfl⟩
      have M0 : Hid (r.length ≤ 200000) := hid (by have := LR.out; omega)
      have M1 : Hid (r1.length ≤ 200000) := hid (by rw [← Q1.out]; exact Nat.le_trans (rst_le _) M0.out)
      have M2 : Hid (r2.length ≤ 200000) := hid (by rw [← Q2.out]; exact Nat.le_trans (rst_le _) M1.out)
      obtain ⟨R1, J1'⟩ : ∃ S : ByteArray, Hid (⟨r1.toArray⟩ = S) := ⟨_, rfl⟩
      obtain ⟨R2, J2'⟩ : ∃ S : ByteArray, Hid (⟨r2.toArray⟩ = S) := ⟨_, rfl⟩
      obtain ⟨R3, J3'⟩ : ∃ S : ByteArray, Hid (⟨r3.toArray⟩ = S) := ⟨_, rfl⟩
      obtain ⟨F1, N1⟩ : ∃ S : ByteArray, Hid (⟨(fld r wAuthor).toArray⟩ = S) := ⟨_, rfl⟩
      obtain ⟨F2, N2⟩ : ∃ S : ByteArray, Hid (⟨(fld r1 wCommitter).toArray⟩ = S) := ⟨_, rfl⟩
      have X1 : Hid (∀ W, Below G w W → W.heap[G + 1]? = some (.cells #[.string R] 220 (0, 0)) → Calls Tryz.prog 141 #[.pointer (some ⟨G + 1, 0, none⟩), .string ⟨#[97, 117, 116, 104, 111, 114]⟩] W fun e w' => e = .returned (.string F1) ∧ Rd (G + 1) R1 W w') := fun W hW hb => by
        rw [← N1.out, ← J1'.out, ← Q1.out]
        exact rfield_any r wAuthor (Nat.le_trans M0.out (by omega)) (by decide) (G + 1) W (by rw [HR.out]; exact hb) (HM.out _ hW)
      have X2 : Hid (∀ W, Below G w W → W.heap[G + 1]? = some (.cells #[.string R1] 220 (0, 0)) → Calls Tryz.prog 141 #[.pointer (some ⟨G + 1, 0, none⟩), .string ⟨#[99, 111, 109, 109, 105, 116, 116, 101, 114]⟩] W fun e w' => e = .returned (.string F2) ∧ Rd (G + 1) R2 W w') := fun W hW hb => by
        rw [← N2.out, ← J2'.out, ← Q2.out]
        exact rfield_any r1 wCommitter (Nat.le_trans M1.out (by omega)) (by decide) (G + 1) W (by rw [J1'.out]; exact hb) (HM.out _ hW)
      have X3 : Hid (∀ W, Below G w W → W.heap[G + 1]? = some (.cells #[.string R2] 220 (0, 0)) → Calls Tryz.prog 142 #[.pointer (some ⟨G + 1, 0, none⟩)] W fun e w' => e = .returned (.string ⟨(Lib.cut r2 [10]).1.toArray⟩) ∧ Rd (G + 1) R3 W w') := fun W hW hb => by
        rw [← J3'.out, ← Q3.out]
        exact rline_any r2 (Nat.le_trans M2.out (by omega)) (G + 1) W (by rw [J2'.out]; exact hb) (HM.out _ hW)
      have Y1 : Hid (∀ W, Below G w W → Calls Tryz.prog 140 #[.string F1] W fun e w' => Below W.heap.size W w' ∧ PostQ (fld r wAuthor) e) := fun W hW => by
        rw [← N1.out]
        exact personOf_any _ (Nat.le_trans (fld_le _ _) (Nat.le_trans M0.out (by omega))) W (HE.out _ hW) (HM.out _ hW)
      have Y2 : Hid (∀ W, Below G w W → Calls Tryz.prog 140 #[.string F2] W fun e w' => Below W.heap.size W w' ∧ PostQ (fld r1 wCommitter) e) := fun W hW => by
        rw [← N2.out]
        exact personOf_any _ (Nat.le_trans (fld_le _ _) (Nat.le_trans M1.out (by omega))) W (HE.out _ hW) (HM.out _ hW)
      rw [HR.out] at CSR
      go_wp2_with fail
      refine (X1.out wr CSR.out.below CSR.out.box).mono ?_
      rintro ev u1 ⟨rfl, hrd⟩
      have CA : Hid (CS G G4 zr R1 ⟨fr, ids, ⟨[], [], 0, 0⟩, ⟨[], [], 0, 0⟩, []⟩ a cap w u1) := CSR.out.rd HLT.out hrd
      have OA : Hid (OI (G4 + 1) a cap ids u1) := OIR.out.rd hrd (by have := HLT.out; omega)
      clear hrd
      go_wp2_with fail
      refine (Y1.out u1 CA.out.below).mono ?_
      rintro ev u2 ⟨hb, p1, rfl, hpp⟩
      have HP1 : Hid (PP (fld r wAuthor) p1) := hpp
      have CB : Hid (CS G G4 zr R1 ⟨fr, ids, ⟨[], [], 0, 0⟩, ⟨[], [], 0, 0⟩, []⟩ a cap w u2) := CA.out.grow hb
      have OB : Hid (OI (G4 + 1) a cap ids u2) := OA.out.keep hb
      clear hb hpp
      have E1 : Hid (u2.there G4 21 (perV p1).size) := there_off CB.out.com 21 (by
        have h := cmV_len (⟨fr, ids, ⟨[], [], 0, 0⟩, ⟨[], [], 0, 0⟩, []⟩ : Cm) a cap HFL.out
        exact Nat.le_trans (show 21 + 4 ≤ 30 by omega) (Nat.le_of_eq h.symm))
      have E2 : Hid ((Tryz.prog.info? 58).map (·.size) = some (perV p1).size) := Tryz.size58
      have E3 : Hid ((perV p1).all (·.oneCell') = true) := perV_one p1
      obtain ⟨u3, HU3⟩ : ∃ W, Hid (u2.setCells G4 21 (perV p1).toList = W) := ⟨_, rfl⟩
      have CC : Hid (CS G G4 zr R1 ⟨fr, ids, p1, ⟨[], [], 0, 0⟩, []⟩ a cap w u3) := hid (by rw [← HU3.out]; exact CB.out.au HLT.out HFL.out p1)
      have OC : Hid (OI (G4 + 1) a cap ids u3) := hid (by rw [← HU3.out]; exact OB.out.setCells (by omega) _ _)
      go_wp2_with (first
        | (refine wpList_store_mid rfl 58 _ _ rfl G4 21 (perV p1) rfl rfl E1.out E2.out E3.out ?_; rw [HU3.out])
        | fail)
      refine (X2.out u3 CC.out.below CC.out.box).mono ?_
      rintro ev u4 ⟨rfl, hrd⟩
      have CD : Hid (CS G G4 zr R2 ⟨fr, ids, p1, ⟨[], [], 0, 0⟩, []⟩ a cap w u4) := CC.out.rd HLT.out hrd
      have OD : Hid (OI (G4 + 1) a cap ids u4) := OC.out.rd hrd (by have := HLT.out; omega)
      clear hrd
      go_wp2_with fail
      refine (Y2.out u4 CD.out.below).mono ?_
      rintro ev u5 ⟨hb, p2, rfl, hpp⟩
      have HP2 : Hid (PP (fld r1 wCommitter) p2) := hpp
      have CE : Hid (CS G G4 zr R2 ⟨fr, ids, p1, ⟨[], [], 0, 0⟩, []⟩ a cap w u5) := CD.out.grow hb
      have OE : Hid (OI (G4 + 1) a cap ids u5) := OD.out.keep hb
      clear hb hpp
      have E4 : Hid (u5.there G4 25 (perV p2).size) := there_off CE.out.com 25 (by
        have h := cmV_len (⟨fr, ids, p1, ⟨[], [], 0, 0⟩, []⟩ : Cm) a cap HFL.out
        exact Nat.le_trans (show 25 + 4 ≤ 30 by omega) (Nat.le_of_eq h.symm))
      have E5 : Hid ((Tryz.prog.info? 58).map (·.size) = some (perV p2).size) := Tryz.size58
      have E6 : Hid ((perV p2).all (·.oneCell') = true) := perV_one p2
      obtain ⟨u6, HU6⟩ : ∃ W, Hid (u5.setCells G4 25 (perV p2).toList = W) := ⟨_, rfl⟩
      have CF : Hid (CS G G4 zr R2 ⟨fr, ids, p1, p2, []⟩ a cap w u6) := hid (by rw [← HU6.out]; exact CE.out.co HLT.out HFL.out p2)
      have OF : Hid (OI (G4 + 1) a cap ids u6) := hid (by rw [← HU6.out]; exact OE.out.setCells (by omega) _ _)
      go_wp2_with (first
        | (refine wpList_store_mid rfl 58 _ _ rfl G4 25 (perV p2) rfl rfl E4.out E5.out E6.out ?_; rw [HU6.out])
        | fail)
      refine (X3.out u6 CF.out.below CF.out.box).mono ?_
      rintro ev u7 ⟨rfl, hrd⟩
      have CGx : Hid (CS G G4 zr R3 ⟨fr, ids, p1, p2, []⟩ a cap w u7) := CF.out.rd HLT.out hrd
      have OG : Hid (OI (G4 + 1) a cap ids u7) := OF.out.rd hrd (by have := HLT.out; omega)
      clear hrd
      obtain ⟨c29, f29⟩ := CGx.out.cell HFL.out 9 _ rfl
      have cr : u7.cell? ⟨G + 1, 0, none⟩ = some (.string R3) := by rw [cell_of_row u7 (G + 1) 0 _ _ _ CGx.out.box]; rfl
      obtain ⟨C, HCC⟩ : ∃ C : Cm, Hid (C = ⟨fr, ids, p1, p2, r3⟩) := ⟨_, rfl⟩
      have CHx : Hid (CS G G4 zr R3 C a cap w (u7.setCell ⟨G4, 29, none⟩ (.string R3))) := CGx.out.set HLT.out HFL.out 9 _ (by rw [HCC.out, ← J3'.out]; rfl)
      have OH : Hid (OI (G4 + 1) a cap ids (u7.setCell ⟨G4, 29, none⟩ (.string R3))) := OG.out.setCells (g := G4) (by omega) 29 [.string R3]
      have HTL : Hid (C.tree.length = 20) := hid (by rw [HCC.out]; exact HFL.out)
      obtain ⟨TV, HTV⟩ : ∃ l : List Value, Hid (cmV C a cap = l) := ⟨_, rfl⟩
      have HVL : Hid (TV.length = 30) := hid (by rw [← HTV.out]; exact cmV_len C a cap HTL.out)
      have CT : Hid ((u7.setCell ⟨G4, 29, none⟩ (.string R3)).rangeAt G4 0 TV) := hid (by rw [← HTV.out]; exact range_row CHx.out.com)
      have CSx : Hid ((u7.setCell ⟨G4, 29, none⟩ (.string R3)).there G 0 TV.toArray.size) := hid (there_off CHx.out.res 0 (by rw [List.size_toArray, HVL.out, HZS.out]; omega))
      have CSy : Hid ((u7.setCell ⟨G4, 29, none⟩ (.string R3)).there G 0 TV.length) := hid (there_off CHx.out.res 0 (by rw [HVL.out, HZS.out]; omega))
      have hi60 : (Tryz.prog.info? 60).map (·.size) = some TV.length := by rw [HVL.out]; exact Tryz.size60
      have CI : Hid ((Tryz.prog.info? 60).map (·.size) = some TV.toArray.size) := hid (by rw [List.size_toArray]; exact hi60)
      have CO : Hid (TV.toArray.all (·.oneCell') = true) := hid (by rw [← HTV.out]; exact all_oneCell_toArray (cmV_one C a cap))
      have c29' : u7.cell? ⟨G4, 29, none⟩ = some (.string ⟨#[]⟩) := c29
      have f29' : u7.frozen? ⟨G4, 29, none⟩ = false := f29
      clear c29 f29
      go_wp2_with (first
        | refine wpList_load_mid rfl 60 _ rfl G4 0 rfl TV _ CT.out Tryz.underlying60 rfl hi60 ?_
        | refine wpList_store_mid rfl 60 _ _ rfl G 0 TV.toArray rfl rfl CSx.out CI.out CO.out ?_)
      refine bodyPost_ret (v := .agg TV.toArray) (results_mid Tryz.results106 _ _ G TV _ rfl (World.rangeAt_setCells_same _ G 0 _ CSy.out) Tryz.underlying60 rfl hi60) rfl ⟨?_, ?_⟩
      · rw [HG.out]
        exact below_setCells (Nat.le_refl _) _ _ _ _ CHx.out.below
      · refine ⟨C, a, cap, by rw [HTV.out], ?_, ?_⟩
        · rw [HCC.out]
          refine ⟨HPI.out, r, ?_, HHP.out, HP1.out, ?_, ?_⟩
          · rw [K1.out]; exact HQ.out
          · rw [Q1.out]; exact HP2.out
          · rw [Q1.out, Q2.out, Q3.out]
        · have h1 : OI (G4 + 1) a cap ids ((u7.setCell ⟨G4, 29, none⟩ (.string R3)).setCells G 0 TV) := OH.out.setCells (by have := HLT.out; omega) _ _
          rw [HG.out]
          have h2 := h1.lower (show G ≤ G4 + 1 by have := HLT.out; omega)
          rw [HCC.out]
          exact h2
end Go.Proofs.YtenbdeljblmbhaaGreatDoor
/- Package object: ReadCommit. -/
namespace Go.Proofs.YtenbdeljblmbhaaGreatDoor
open Go.RowKit
set_option linter.unusedVariables false
set_option linter.unusedSimpArgs false
theorem Tryz.results105 : Tryz.f105.results = #[.cell 8 60, .tmp 9] := by kernel_rfl
theorem Tryz.results61 : Tryz.f61.results = #[.cell 2 60, .tmp 3] := by kernel_rfl
theorem TC.msg {l : List UInt8} {T : Cm} (h : TC l T) : T.msg.length ≤ l.length := by
  obtain ⟨_, r, h2, _, _, _, h6⟩ := h
  have r1 := rst_le l
  have r2 := h2.le
  have r3 := rst_le r
  have r4 := rst_le (rst r)
  have r5 := rst_le (rst (rst r))
  rw [h6]
  omega
/-- What a reader of commits gives: what it read, if that is written so. -/
def PostBC (l : List UInt8) (w : World) (e : Ending) (w' : World) : Prop := ∃ T, TC l T ∧ (((okC T ∧ cmB T = l) ∧ ∃ pa pc, e = .returned (.tuple #[.agg (cmV T pa pc).toArray, .nilIface]) ∧ OI w.heap.size pa pc T.ids w') ∨ (¬ (okC T ∧ cmB T = l) ∧ e = .returned (.tuple #[.agg (cmV (cm0 z20) none 0).toArray, .iface 35 (.int .i64 22)])))
set_option maxRecDepth 20000 in
set_option maxHeartbeats 2000000 in
theorem readBackC_any (a : Option Addr) (cap : Nat) (zs : List Int) (hl : zs.length ≤ 200000) (hz : IsB zs) (w : World) (ht : Tab w) (he : Ers w) (hm : Mx w) (hS : Sl w a cap zs) :
    Calls Tryz.prog 105 #[.slice a zs.length cap, .int .i64 22, .func (.func 106) #[] #[], .func (.func 22) #[] #[]] w fun e w' => Below w.heap.size w w' ∧ PostBC (Lib.bytesOf zs) w e w' := by
  obtain ⟨ZV, HZ⟩ : ∃ l : List Value, Hid (l = cmV (cm0 z20) none 0) := ⟨_, rfl⟩
  have hz60 := zero60
  rw [← HZ.out] at hz60
  have HZL : Hid (ZV.length = 30) := hid (by rw [HZ.out]; exact cmV_len _ _ _ rfl)
  have hi60z : (Tryz.prog.info? 60).map (·.size) = some ZV.length := by rw [HZL.out]; exact Tryz.size60
  have FI : Hid ((Tryz.prog.info? 60).map (·.size) = some ZV.toArray.size) := hid (by rw [List.size_toArray]; exact hi60z)
  have FO : Hid (ZV.toArray.all (·.oneCell') = true) := hid (by rw [HZ.out]; exact all_oneCell_toArray (cmV_one _ _ _))
  obtain ⟨n, HN⟩ : ∃ n, Hid (zs.length = n) := ⟨_, rfl⟩
  obtain ⟨l, HL⟩ : ∃ l, Hid (Lib.bytesOf zs = l) := ⟨_, rfl⟩
  have HLL : Hid (l.length ≤ 200000) := hid (by rw [← HL.out, Lib.bytesOf_length]; exact hl)
  obtain ⟨S, HSS⟩ : ∃ S : ByteArray, Hid (⟨l.toArray⟩ = S) := ⟨_, rfl⟩
  obtain ⟨G, HG⟩ : ∃ G, Hid (w.heap.size = G) := ⟨_, rfl⟩
  obtain ⟨w0, HW0⟩ : ∃ w0, Hid (w.alloc (.cells ZV.toArray 60) = w0) := ⟨_, rfl⟩
  have HB0 : Hid (Below G w w0) := hid (by rw [← HW0.out, ← HG.out]; exact (Below.refl _ w).alloc (Nat.le_refl _) _)
  have HR0 : Hid (w0.heap[G]? = some (.cells ZV.toArray 60 (0, 0))) := hid (by rw [← HW0.out, ← HG.out]; exact heap_alloc_new w _)
  have HCV : Hid ((convert 23 9 (.slice a n cap)).run Tryz.prog (w.alloc (.cells ZV.toArray 60)) = .ok (.string S) (w.alloc (.cells ZV.toArray 60))) := hid (by
    rw [← HSS.out, ← HL.out, ← HN.out]
    exact conv_str (hS.below (by rw [HW0.out, HG.out]; exact HB0.out)))
  have HT : Hid (∀ W, Below G w W → Tab W) := fun W hW => ht.below (by rw [HG.out]; exact hW)
  have HSL : Hid (∀ W, Below G w W → Sl W a cap zs) := fun W hW => hS.below (by rw [HG.out]; exact hW)
  have C1 : Hid (Calls Tryz.prog 106 #[.string S] w0 (PostOC l w0)) := hid (by
    rw [← HSS.out]
    exact commitOf_any l HLL.out w0 (he.below (by rw [HG.out]; exact HB0.out)) (hm.below (by rw [HG.out]; exact HB0.out)))
  rw [HN.out, HL.out]
  clear ht he hm hS
  have hcv := HCV.out
  go_enter Tryz.func105, Tryz.ntmps105
  go_wp2_with fail
  rw [HG.out, HW0.out]
  clear hcv HCV
  refine C1.out.mono ?_
  rintro ev w1 ⟨hb1, T, pa, pc, rfl, htg, hoi⟩
  have HTG : Hid (TC l T) := htg
  have OI1 : Hid (OI w0.heap.size pa pc T.ids w1) := hoi
  have hs0 : G < w0.heap.size := lt_of_some HR0.out
  have HWT : Hid (WfC T) := hid (by obtain ⟨h1, r, h2, _⟩ := htg; exact ⟨⟨h1.1, h1.2.1⟩, h2.wf⟩)
  have HB1 : Hid (Below G w w1) := HB0.out.trans (hb1.mono (Nat.le_of_lt (lt_of_some HR0.out)))
  have HR1 : Hid (w1.heap[G]? = some (.cells ZV.toArray 60 (0, 0))) := hid ((hb1.block G (lt_of_some HR0.out)).trans HR0.out)
  have HID : Hid (T.tree.length = 20) := htg.1.1
  clear htg hb1 hoi
  obtain ⟨TV, HTV⟩ : ∃ l : List Value, Hid (cmV T pa pc = l) := ⟨_, rfl⟩
  rw [HTV.out]
  have HVL : Hid (TV.length = 30) := hid (by rw [← HTV.out]; exact cmV_len T pa pc HID.out)
  have hi60 : (Tryz.prog.info? 60).map (·.size) = some TV.length := by rw [HVL.out]; exact Tryz.size60
  have CI : Hid ((Tryz.prog.info? 60).map (·.size) = some TV.toArray.size) := hid (by rw [List.size_toArray]; exact hi60)
  have CO : Hid (TV.toArray.all (·.oneCell') = true) := hid (by rw [← HTV.out]; exact all_oneCell_toArray (cmV_one T pa pc))
  have D0 : Hid ((w1.alloc (.cells ZV.toArray 60)).heap[w1.heap.size]? = some (.cells ZV.toArray 60 (0, 0))) := heap_alloc_new w1 _
  have D1 : Hid (ZV.toArray.size = TV.toArray.size) := hid (by rw [List.size_toArray, List.size_toArray, HZL.out, HVL.out])
  have D4 : Hid (((w1.alloc (.cells ZV.toArray 60)).setRow w1.heap.size TV.toArray).rangeAt w1.heap.size 0 TV) := hid (range_row (setRow_heap _ _ _ TV.toArray _ _ D0.out))
  go_wp2_with (first
    | refine wpList_store_row rfl 60 _ _ rfl w1.heap.size TV.toArray rfl rfl 60 ZV.toArray D0.out CI.out D1.out CO.out ?_
    | refine wpList_load_mid rfl 60 _ rfl w1.heap.size 0 rfl TV _ D4.out Tryz.underlying60 rfl hi60 ?_
    | fail)
  obtain ⟨H, HH⟩ : ∃ H, Hid (w1.heap.size = H) := ⟨_, rfl⟩
  have HGH : Hid (G < H) := hid (by rw [← HH.out]; exact lt_of_some HR1.out)
  obtain ⟨w2, HW2⟩ : ∃ w2, Hid ((w1.alloc (.cells ZV.toArray 60)).setRow w1.heap.size TV.toArray = w2) := ⟨_, rfl⟩
  have HB2 : Hid (Below G w w2) := hid (by rw [← HW2.out]; exact below_setRow (HB1.out.alloc (by rw [HH.out]; have := HGH.out; omega) _) (by rw [HH.out]; have := HGH.out; omega) _)
  have HR2 : Hid (w2.heap[G]? = some (.cells ZV.toArray 60 (0, 0))) := hid (by
    have hb2 := (Below.refl w1.heap.size w1).alloc (Nat.le_refl _) (.cells ZV.toArray 60)
    rw [← HW2.out, setRow_other _ _ _ _ (by rw [HH.out]; have := HGH.out; omega)]
    exact (hb2.block _ (by rw [HH.out]; exact HGH.out)).trans HR1.out)
  have HV2 : Hid (w2.heap[H]? = some (.cells TV.toArray 60 (0, 0))) := hid (by rw [← HW2.out, ← HH.out]; exact setRow_heap _ _ _ TV.toArray _ _ D0.out)
  rw [HW2.out, HH.out]
  clear hz60
  have hz60 : ∀ w : World, (zeroValue 60).run Tryz.prog w = .ok (.agg ZV.toArray) w := fun w => by rw [HZ.out]; exact zero60 w
  have OI2 : Hid (OI w0.heap.size pa pc T.ids w2) := hid (by
    rw [← HW2.out]
    have hb := below_setRow ((Below.refl w1.heap.size w1).alloc (Nat.le_refl _) (.cells ZV.toArray 60)) (Nat.le_refl _) TV.toArray
    exact OI1.out.keep hb)
  have C2 : Hid (Calls Tryz.prog 22 #[.agg TV.toArray] w2 (PostC T w2)) := hid (by
    rw [← HTV.out]
    have hln := HTG.out.msg
    have h2 := HLL.out
    exact writeCommit_any T HWT.out pa pc (by omega) w2 (HT.out _ HB2.out) (OI2.out.pa HWT.out.2))
  refine C2.out.mono ?_
  rintro ev w3 ⟨hb3, hor⟩
  have HB3 : Hid (Below G w w3) := HB2.out.trans (hb3.mono (Nat.le_of_lt (lt_of_some HR2.out)))
  have HR3 : Hid (w3.heap[G]? = some (.cells ZV.toArray 60 (0, 0))) := hid ((hb3.block G (lt_of_some HR2.out)).trans HR2.out)
  have OI3 : Hid (OI w0.heap.size pa pc T.ids w3) := OI2.out.keep hb3
  have HV3 : Hid (w3.heap[H]? = some (.cells TV.toArray 60 (0, 0))) := hid ((hb3.block H (lt_of_some HV2.out)).trans HV2.out)
  have FL : Hid ((w3.alloc (.cells ZV.toArray 60)).rangeAt w3.heap.size 0 ZV) := hid (range_row (heap_alloc_new w3 _))
  have HR4 : Hid ((w3.alloc (.cells ZV.toArray 60)).heap[G]? = some (.cells ZV.toArray 60 (0, 0))) := hid ((((Below.refl w3.heap.size w3).alloc (Nat.le_refl _) (.cells ZV.toArray 60)).block G (lt_of_some HR3.out)).trans HR3.out)
  have FS : Hid ((w3.alloc (.cells ZV.toArray 60)).there G 0 ZV.toArray.size) := hid (there_off HR4.out 0 (by omega))
  have FS' : Hid ((w3.alloc (.cells ZV.toArray 60)).there G 0 ZV.length) := hid (there_off HR4.out 0 (by rw [List.size_toArray]; omega))
  have BAD : Hid (¬ (okC T ∧ cmB T = l) → (Below w.heap.size w ((w3.alloc (.cells ZV.toArray 60)).setCells G 0 ZV) ∧ PostBC l w (.returned (.tuple #[.agg ZV.toArray, .iface 35 (.int .i64 22)])) ((w3.alloc (.cells ZV.toArray 60)).setCells G 0 ZV))) := fun hno => by
    refine ⟨by rw [HG.out]; exact below_setCells (Nat.le_refl _) _ _ _ _ (HB3.out.alloc (Nat.le_of_lt (lt_of_some HR3.out)) _), T, HTG.out, .inr ⟨hno, ?_⟩⟩
    rw [HZ.out]
  clear hb3
  rcases hor with ⟨hok, g, cp, rfl, hge, hmk⟩ | ⟨hno, rfl⟩
  rotate_left
  · have HNO : Hid (¬ (okC T ∧ cmB T = l)) := fun h => hno h.1
    clear hno
    go_wp2_with (first
      | refine wpList_load_mid rfl 60 _ rfl w3.heap.size 0 rfl ZV _ FL.out Tryz.underlying60 rfl hi60z ?_
      | refine wpList_store_mid rfl 60 _ _ rfl G 0 ZV.toArray rfl rfl FS.out FI.out FO.out ?_)
    refine bodyPost_ret (v := .tuple #[.agg ZV.toArray, .iface 35 (.int .i64 22)]) (results_mid2 Tryz.results105 _ _ G ZV _ rfl (World.rangeAt_setCells_same _ G 0 _ FS'.out) Tryz.underlying60 rfl hi60z) rfl ?_
    exact BAD.out HNO.out
  have HOK : Hid (okC T) := hok
  have HMK : Hid (Mk w3 g cp (nums (cmB T))) := hmk
  clear hok hmk hge
  obtain ⟨eq, HEQ⟩ : ∃ b : Bool, Hid ((cmB T == l) = b) := ⟨_, rfl⟩
  obtain ⟨tl, HTL⟩ : ∃ k, Hid ((cmB T).length = k) := ⟨_, rfl⟩
  have CE : Hid (Calls Tryz.prog 124 #[.slice (some ⟨g, 0, none⟩) tl cp, .slice a n cap] w3 fun e w' => e = .returned (.bool eq) ∧ w' = w3) := hid (by
    have h := equal_any (some ⟨g, 0, none⟩) a cp cap (nums (cmB T)) zs w3 HMK.out.sl (HSL.out _ HB3.out)
    rw [nums_len, HTL.out, bytesOf_nums, HL.out, HEQ.out, HN.out] at h
    exact h)
  rw [HTL.out]
  go_wp2_with fail
  refine CE.out.mono ?_
  rintro ev w3' ⟨rfl, hw3⟩
  have hw3' := hw3.symm
  subst hw3'
  clear hw3
  cases eq with
  | false =>
    have HNO : Hid (¬ (okC T ∧ cmB T = l)) := fun h => by have h2 := HEQ.out; rw [h.2] at h2; simp at h2
    go_wp2_with (first
      | refine wpList_load_mid rfl 60 _ rfl w3.heap.size 0 rfl ZV _ FL.out Tryz.underlying60 rfl hi60z ?_
      | refine wpList_store_mid rfl 60 _ _ rfl G 0 ZV.toArray rfl rfl FS.out FI.out FO.out ?_)
    refine bodyPost_ret (v := .tuple #[.agg ZV.toArray, .iface 35 (.int .i64 22)]) (results_mid2 Tryz.results105 _ _ G ZV _ rfl (World.rangeAt_setCells_same _ G 0 _ FS'.out) Tryz.underlying60 rfl hi60z) rfl ?_
    exact BAD.out HNO.out
  | true =>
    have HYE : Hid (cmB T = l) := hid (by have h2 := HEQ.out; simpa using h2)
    have GL : Hid (w3.rangeAt H 0 TV) := hid (range_row HV3.out)
    have GS : Hid (w3.there G 0 TV.toArray.size) := hid (there_off HR3.out 0 (by rw [← D1.out]; omega))
    have GS' : Hid (w3.there G 0 TV.length) := hid (there_off HR3.out 0 (by rw [List.size_toArray, HZL.out, HVL.out]; omega))
    go_wp2_with (first
      | refine wpList_load_mid rfl 60 _ rfl H 0 rfl TV _ GL.out Tryz.underlying60 rfl hi60 ?_
      | refine wpList_store_mid rfl 60 _ _ rfl G 0 TV.toArray rfl rfl GS.out CI.out CO.out ?_)
    refine bodyPost_ret (v := .tuple #[.agg TV.toArray, .nilIface]) (results_mid2 Tryz.results105 _ _ G TV _ rfl (World.rangeAt_setCells_same _ G 0 _ GS'.out) Tryz.underlying60 rfl hi60) rfl ⟨?_, ?_⟩
    · rw [HG.out]
      exact below_setCells (Nat.le_refl _) _ _ _ _ HB3.out
    · refine ⟨T, HTG.out, .inl ⟨⟨HOK.out, HYE.out⟩, pa, pc, by rw [HTV.out], ?_⟩⟩
      rw [HG.out]
      exact (OI3.out.setCells hs0 0 TV).lower (Nat.le_of_lt hs0)
theorem PostBC.form {l : List UInt8} {w : World} {e : Ending} {w' : World} (h : PostBC l w e w') : ∃ (X : Cm) (pa : Option Addr) (pc : Nat) (ev : Value), e = .returned (.tuple #[.agg (cmV X pa pc).toArray, ev]) ∧ X.tree.length = 20 := by
  obtain ⟨T, htg, ⟨_, pa, pc, rfl, _⟩ | ⟨_, rfl⟩⟩ := h
  · exact ⟨T, pa, pc, _, rfl, htg.1.1⟩
  · exact ⟨cm0 z20, none, 0, _, rfl, rfl⟩
theorem PostBC.up {l : List UInt8} {w0 w w1 : World} {e : Ending} (h : PostBC l w0 e w1) (hw : w.heap.size ≤ w0.heap.size) (g : Nat) (hg : g < w0.heap.size) (vs : List Value) : PostBC l w e (w1.setCells g 0 vs) := by
  obtain ⟨T, htg, ⟨h1, pa, pc, rfl, ho⟩ | h1⟩ := h
  · exact ⟨T, htg, .inl ⟨h1, pa, pc, rfl, (ho.setCells hg 0 vs).lower hw⟩⟩
  · exact ⟨T, htg, .inr h1⟩
set_option maxRecDepth 20000 in
set_option maxHeartbeats 1000000 in
theorem readCommit_any (a : Option Addr) (cap : Nat) (zs : List Int) (hl : zs.length ≤ 200000) (hz : IsB zs) (w : World) (ht : Tab w) (he : Ers w) (hm : Mx w) (hS : Sl w a cap zs) :
    Calls Tryz.prog 61 #[.slice a zs.length cap] w fun e w' => Below w.heap.size w w' ∧ PostBC (Lib.bytesOf zs) w e w' := by
  obtain ⟨ZV, HZ⟩ : ∃ l : List Value, Hid (l = cmV (cm0 z20) none 0) := ⟨_, rfl⟩
  have hz60 := zero60
  rw [← HZ.out] at hz60
  have HZL : Hid (ZV.length = 30) := hid (by rw [HZ.out]; exact cmV_len _ _ _ rfl)
  obtain ⟨n, HN⟩ : ∃ n, Hid (zs.length = n) := ⟨_, rfl⟩
  obtain ⟨G, HG⟩ : ∃ G, Hid (w.heap.size = G) := ⟨_, rfl⟩
  obtain ⟨w0, HW0⟩ : ∃ w0, Hid (w.alloc (.cells ZV.toArray 60) = w0) := ⟨_, rfl⟩
  have HB0 : Hid (Below G w w0) := hid (by rw [← HW0.out, ← HG.out]; exact (Below.refl _ w).alloc (Nat.le_refl _) _)
  have HR0 : Hid (w0.heap[G]? = some (.cells ZV.toArray 60 (0, 0))) := hid (by rw [← HW0.out, ← HG.out]; exact heap_alloc_new w _)
  have C1 : Hid (Calls Tryz.prog 105 #[.slice a n cap, .int .i64 22, .func (.func 106) #[] #[], .func (.func 22) #[] #[]] w0 fun e w' => Below w0.heap.size w0 w' ∧ PostBC (Lib.bytesOf zs) w0 e w') := hid (by
    have hb : Below w.heap.size w w0 := by rw [HG.out]; exact HB0.out
    rw [← HN.out]
    exact readBackC_any a cap zs hl hz w0 (ht.below hb) (he.below hb) (hm.below hb) (hS.below hb))
  rw [HN.out]
  clear ht he hm hS
  go_enter Tryz.func61, Tryz.ntmps61
  go_wp2_with fail
  rw [HG.out, HW0.out]
  refine C1.out.mono ?_
  rintro ev w1 ⟨hb1, hpb⟩
  obtain ⟨X, pa, pc, ev2, rfl, hx⟩ := hpb.form
  have HPB : Hid (PostBC (Lib.bytesOf zs) w0 (.returned (.tuple #[.agg (cmV X pa pc).toArray, ev2])) w1) := hpb
  have hs0 : G < w0.heap.size := lt_of_some HR0.out
  have HB1 : Hid (Below G w w1) := HB0.out.trans (hb1.mono (Nat.le_of_lt (lt_of_some HR0.out)))
  have HR1 : Hid (w1.heap[G]? = some (.cells ZV.toArray 60 (0, 0))) := hid ((hb1.block G (lt_of_some HR0.out)).trans HR0.out)
  have HID : Hid (X.tree.length = 20) := hx
  clear hpb hb1 hx
  obtain ⟨TV, HTV⟩ : ∃ l : List Value, Hid (cmV X pa pc = l) := ⟨_, rfl⟩
  rw [HTV.out] at HPB
  rw [HTV.out]
  have HVL : Hid (TV.length = 30) := hid (by rw [← HTV.out]; exact cmV_len X pa pc HID.out)
  have hi60 : (Tryz.prog.info? 60).map (·.size) = some TV.length := by rw [HVL.out]; exact Tryz.size60
  have CI : Hid ((Tryz.prog.info? 60).map (·.size) = some TV.toArray.size) := hid (by rw [List.size_toArray]; exact hi60)
  have CO : Hid (TV.toArray.all (·.oneCell') = true) := hid (by rw [← HTV.out]; exact all_oneCell_toArray (cmV_one X pa pc))
  have GS : Hid (w1.there G 0 TV.toArray.size) := hid (there_off HR1.out 0 (by rw [List.size_toArray, List.size_toArray, HZL.out, HVL.out]; omega))
  have GS' : Hid (w1.there G 0 TV.length) := hid (there_off HR1.out 0 (by rw [List.size_toArray, HZL.out, HVL.out]; omega))
  go_wp2_with (refine wpList_store_mid rfl 60 _ _ rfl G 0 TV.toArray rfl rfl GS.out CI.out CO.out ?_)
  refine bodyPost_ret (v := .tuple #[.agg TV.toArray, ev2]) (results_mid2 Tryz.results61 _ _ G TV _ rfl (World.rangeAt_setCells_same _ G 0 _ GS'.out) Tryz.underlying60 rfl hi60) rfl ⟨?_, HPB.out.up (by rw [HG.out]; omega) G hs0 TV⟩
  rw [HG.out]
  exact below_setCells (Nat.le_refl _) _ _ _ _ HB1.out
end Go.Proofs.YtenbdeljblmbhaaGreatDoor
