import Derived.Test.YtikmbjfambjmaaaGreatDoorMf18
namespace Go.Proofs.YtikmbjfambjmaaaGreatDoor.Gr
open Go.RowKit
set_option linter.unusedVariables false
set_option linter.unusedSimpArgs false
abbrev RV (v : Value) : Option (DataW Value × List MemPlace) := some (.held v, [])
def zT : Value := .agg #[.int .i64 0, .slice none 0 0, .slice none 0 0]
theorem und52 : Tryz.prog.underlying 52 = some (.map 24 76) := by kernel_rfl
theorem zero76 (w : World) : (zeroValue 76).run Tryz.prog w = .ok zT w := by kernel_rfl
def FM (w : World) (g n : Nat) (M : List Int → Option Value) : Prop := ∃ D, w.ownsMap (H := Value) Tryz.prog 24 RV g n D ∧ ∀ x kl, keyOf Tryz.prog 24 (idV x) = some kl → Maps.has D kl = (M x).isSome ∧ D.atKey kl (.held zT) = .held ((M x).getD zT)
theorem fm_made (w : World) : FM (w.alloc (.map #[] 0)) w.heap.size 0 (fun _ => none) := ⟨_, World.ownsMap_made _ _ _ _, fun x kl _ => by simp [Maps.has, DataW.atKey]⟩
theorem FM.sm {w W : World} {g n : Nat} {M : List Int → Option Value} (h : FM w g n M) (hg : W.heap[g]? = w.heap[g]?) : FM W g n M := by
  obtain ⟨D, ⟨es, ck, hb, hr⟩, h2⟩ := h
  exact ⟨D, ⟨es, ck, hg.trans hb, hr⟩, h2⟩
theorem FM.lt {w : World} {g n : Nat} {M : List Int → Option Value} (h : FM w g n M) : g < w.heap.size := by obtain ⟨D, h1, _⟩ := h; exact h1.lt
theorem FM.look {w : World} {g n : Nat} {M : List Int → Option Value} (h : FM w g n M) {x : List Int} (hx : IdW x) : (Instr.lookup 52 (.map (some g)) (idV x) true).run Tryz.prog w = .ok (.tuple #[(M x).getD zT, .bool (M x).isSome]) w := by
  obtain ⟨D, h1, h2⟩ := h
  obtain ⟨kl, hkl⟩ := key_id x hx.1 hx.2
  obtain ⟨v, ps, hrun, hv⟩ := h1.look_ok keyed42 und52 (zero76 w) (zd := .held zT) (zp := []) rfl hkl
  obtain ⟨e1, e2⟩ := h2 x kl hkl
  rw [e2] at hv
  have : v = (M x).getD zT := by
    have := congrArg (fun o => o.map (·.1)) hv
    simp only [RV, Option.map_some] at this
    exact DataW.held.inj (Option.some.inj this)
  rw [hrun, this, e1]
theorem FM.put {w : World} {g n : Nat} {M : List Int → Option Value} (h : FM w g n M) (hn : n ≤ 100000) {x : List Int} (hx : IdW x) (v : Value) : ∃ w', (Instr.mapUpdate 52 (.map (some g)) (idV x) v).run Tryz.prog w = .ok () w' ∧ FM w' g (n + 1) (fun y => if y = x then some v else M y) ∧ w.grownBy w' (some g) := by
  obtain ⟨D, h1, h2⟩ := h
  obtain ⟨kl, hkl⟩ := key_id x hx.1 hx.2
  obtain ⟨w', hrun, h3, h4⟩ := h1.update keyed42 und52 (by unfold maxLen; omega) hkl (val := v) (d := .held v) (ps := []) rfl
  refine ⟨w', hrun, ⟨_, h3, fun y ky hky => ?_⟩, h4⟩
  simp only
  by_cases e : ky = kl
  · subst e
    rw [Maps.has_put_same h1.isMap (keyed42.key hkl), Maps.atKey_put_same h1.isMap (keyed42.key hkl), if_pos (key_eq hky hkl)]
    exact ⟨rfl, rfl⟩
  · rw [Maps.has_put_other e, Maps.atKey_put_other e, if_neg (fun h => by subst h; rw [hkl] at hky; exact e (Option.some.inj hky).symm)]
    exact h2 y ky hky
def Sm (G : Nat) (w W : World) : Prop := G ≤ W.heap.size ∧ ∀ k, k < G → W.heap[k]? = w.heap[k]?
theorem Sm.below {G : Nat} {w W W' : World} (h : Sm G w W) (hb : Below W.heap.size W W') : Sm G w W' := ⟨Nat.le_trans h.1 hb.size, fun k hk => (hb.block k (Nat.lt_of_lt_of_le hk h.1)).trans (h.2 k hk)⟩
structure Fst (w : World) (g G : Nat) (lk : Lks) : Prop where
  m : ∃ n M, FM w g n M ∧ (∀ x, IdW x → lk x = none → M x = none) ∧ (∀ x es, IdW x → lk x = some es → ∃ k a zn cap ea ec, M x = some (.agg #[.int .i64 k, .slice a zn cap, .slice ea es.length ec]) ∧ Px erV 22 ⟨0, [], []⟩ w ea ec es ∧ (0 < es.length → ∀ p : Addr, ea = some p → p.block < G) ∧ es.length ≤ 1000)
  gl : g < G
theorem Px.sm {α : Type} {enc : α → List Value} {k : Nat} {d : α} {w w' : World} {a : Option Addr} {cap : Nat} {l : List α} {G : Nat} (h : Px enc k d w a cap l) (hs : Sm G w w') (hp : 0 < l.length → ∀ p : Addr, a = some p → p.block < G) : Px enc k d w' a cap l :=
  ⟨h.capl, fun h0 => by
    obtain ⟨b, off, e1, e2, e3⟩ := h.at_ h0
    have hb : b < G := hp h0 _ e1
    exact ⟨b, off, e1, Nat.lt_of_lt_of_le hb hs.1, fun i hi j u hu => (World.cell?_of_block (a := ⟨b, off + i * k + j, none⟩) (hs.2 b hb)).trans (e3 i hi j u hu)⟩, h.nil⟩
theorem Fst.sm {w W : World} {g G : Nat} {lk : Lks} (h : Fst w g G lk) (hs : Sm G w W) : Fst W g G lk := by
  obtain ⟨n, M, h1, h2, h3⟩ := h.m
  refine ⟨⟨n, M, h1.sm (hs.2 g h.gl), h2, fun x es hx he => ?_⟩, h.gl⟩
  obtain ⟨k, a, zn, cap, ea, ec, e1, e2, e3, e4⟩ := h3 x es hx he
  exact ⟨k, a, zn, cap, ea, ec, e1, e2.sm hs e3, e3, e4⟩
theorem PostF.back {G : Nat} {w w1 : World} {its : List It} {e : Ending} {w' : World} (hb : Below w.heap.size w w1) (h : PostF G w1 its e w') : PostF G w its e w' := by
  obtain ⟨h1, gf, lb, h2, h3, h4⟩ := h
  refine ⟨hb.trans (h1.mono hb.size), gf, lb, h2, h3, h4.mono (fun k hk => hk.imp id fun h => ⟨Nat.le_trans hb.size h.1, h.2⟩)⟩
def CF (w0 : World) (g G : Nat) (lk : Lks) (d : Nat) : Prop := ∀ (x : List Int) (hx : IdW x) (front : List UInt8) (hf : front.length ≤ 101) (hd : 102 ≤ d + front.length) (hgf : Gf front) (w : World) (hs : Sm G w0 w),
  Calls Tryz.prog 14 #[.map (some g), idV x, .string ⟨front.toArray⟩] w (PostF G w (itm lk d x front))
theorem encF_zero : encF f0 = [.string ⟨#[]⟩, .int .i64 0, .int .u8 0, .int .u8 0, .int .u8 0, .int .u8 0, .int .u8 0, .int .u8 0, .int .u8 0, .int .u8 0, .int .u8 0, .int .u8 0, .int .u8 0, .int .u8 0, .int .u8 0, .int .u8 0, .int .u8 0, .int .u8 0, .int .u8 0, .int .u8 0, .int .u8 0, .int .u8 0, .int .i64 0, .int .i64 0] := by kernel_rfl
theorem wpList_bdR {P : Program} {ops : Array Oper} {rest : List Oper} {o : Oper} {a : Act} {w : World} {Q : Exit → Act → World → Prop} (hg : o.guard = none) (t : TypeId) (parts : Array (Nat × Operand)) (ho : o.op = .build t parts) (R : Array Value)
    (hf : P.built t (parts.map fun (i, x) => (i, a.eval x)).toList = some R) (h : wpList P ops Q rest (a.put o.dst (.agg R)) w) : wpList P ops Q (o :: rest) a w :=
  wpList_build hg t parts ho (by rw [hf]; rfl) (by rw [hf]; exact h)
set_option maxRecDepth 20000 in
theorem built60_3 (p : ByteArray) (m : Int) (x : List Int) (h : x.length = 20) : Tryz.prog.built 60 [(0, .string p), (1, .int .i64 m), (2, .agg (row .u8 x).toArray)] = some (.string p :: .int .i64 m :: (row .u8 x ++ [.int .i64 0, .int .i64 0])).toArray := by
  obtain ⟨a0, a1, a2, a3, a4, a5, a6, a7, a8, a9, a10, a11, a12, a13, a14, a15, a16, a17, a18, a19, rfl⟩ := list20 x h
  kernel_rfl
theorem z20_w : IdW z20 := ⟨rfl, by unfold z20; intro n hn; have := List.eq_of_mem_replicate hn; subst this; exact ⟨by decide, by decide⟩⟩
theorem size84 : (Tryz.prog.info? 84).map (·.size) = some 22 := by kernel_rfl
set_option maxRecDepth 20000 in
set_option maxHeartbeats 4000000 in
theorem filesAt_any (w0 : World) (g G : Nat) (lk : Lks) (d : Nat) (hC : CF w0 g G lk d) (front : List UInt8) (hf : front.length ≤ 101) (hd : 102 ≤ d + 1 + front.length) (hgf : Gf front) (e : Er) (hn : okE e.name) (hi : IdW e.id) (w : World) (hs : Sm G w0 w) :
    Calls Tryz.prog 25 #[.map (some g), .agg (erV e).toArray, .string ⟨(front ++ e.name).toArray⟩] w (PostF G w (itE (itm lk d) front e)) := by
  obtain ⟨RE, HRE⟩ : ∃ R, Hid (erV e = R) := ⟨_, rfl⟩
  obtain ⟨PL, HPL⟩ : ∃ l : List UInt8, Hid (front ++ e.name = l) := ⟨_, hid rfl⟩
  obtain ⟨PS, HPS⟩ : ∃ S : ByteArray, Hid ((⟨PL.toArray⟩ : ByteArray) = S) := ⟨_, rfl⟩
  obtain ⟨pl, HPN⟩ : ∃ n, Hid (PL.length = n) := ⟨_, rfl⟩
  have hpsz : PS.size = pl := by rw [← HPS.out, ← HPN.out]; simp [ByteArray.size]
  obtain ⟨fl, HFL⟩ : ∃ n, Hid (front.length = n) := ⟨_, rfl⟩
  obtain ⟨nl, HNL⟩ : ∃ n, Hid (e.name.length = n) := ⟨_, rfl⟩
  have HPV : Hid (pl = fl + nl) := hid (by rw [← HPN.out, ← HPL.out, List.length_append, HFL.out, HNL.out])
  have HN1 : Hid (1 ≤ nl ∧ nl ≤ 50) := hid (by rw [← HNL.out]; exact ⟨hn.1, hn.2.1⟩)
  have hplm : pl ≤ 151 := by have h1 := HPV.out; have h2 := HN1.out; rw [HFL.out] at hf; omega
  have HGF : Hid (Gf front) := hgf
  have HOE : Hid (okE e.name) := hn
  have HII : Hid (IdW e.id) := hi
  have HD : Hid (102 ≤ d + 1 + fl) := hid (by rw [← HFL.out]; exact hd)
  have HCF : Hid (CF w0 g G lk d) := hC
  have HSM : Hid (Sm G w0 w) := hs
  obtain ⟨K, HK⟩ : ∃ K, Hid (w.heap.size = K) := ⟨_, rfl⟩
  obtain ⟨w1, HW1⟩ : ∃ u, Hid (w.alloc (.cells RE.toArray 84) = u) := ⟨_, rfl⟩
  have HB1 : Hid (Below w.heap.size w w1) := hid (by rw [← HW1.out]; exact (Below.refl _ w).alloc (Nat.le_refl _) _)
  have hK1 : K < w1.heap.size := by rw [← HW1.out, ← HK.out]; simp
  have HX1 : Hid (w1.heap[K]? = some (.cells RE.toArray 84 (0, 0))) := hid (by rw [← HW1.out, ← HK.out]; exact heap_alloc_new w _)
  obtain ⟨md, HMD⟩ : ∃ m, Hid (e.mode = m) := ⟨_, rfl⟩
  obtain ⟨IR, HIR⟩ := rw_ hi.1
  have hiI := HIR.out.i56
  have C39 : Hid (Calls Tryz.prog 39 #[.string PS] w1 fun e w' => BIs (Ip.okP PL) e ∧ Below w1.heap.size w1 w') := hid (by rw [← HPS.out]; exact Ip.isPath_all PL w1)
  have HPI : Hid (Ip.okP PL ↔ pl ≤ 100) := hid (by rw [← HPL.out, HGF.out.path HOE.out, HPL.out, HPN.out])
  rw [HRE.out, HPL.out, HPS.out]
  clear hC hf hd hgf hn hi hs
  go_enter Tryz.func25, Tryz.ntmps25
  go_wp2_with fail
  rw [HW1.out, HK.out]
  refine C39.out.mono ?_
  rintro ev w2 ⟨⟨b, rfl, hb⟩, hb2⟩
  have HB2 : Hid (Below w.heap.size w w2) := hid (HB1.out.trans (hb2.mono HB1.out.size))
  have HX2 : Hid (w2.heap[K]? = some (.cells RE.toArray 84 (0, 0))) := hid ((hb2.block K hK1).trans HX1.out)
  have HS2 : Hid (Sm G w0 w2) := hid (HSM.out.below HB2.out)
  have hce : w2.cell? ⟨K, 0, none⟩ = some (.int .i64 md) ∧ w2.rangeAt K 2 IR := by
    have h1 : w2.rangeAt K 0 (erV e) := by rw [HRE.out]; exact range_row HX2.out
    have := cells_E h1
    rw [HMD.out, HIR.out.e] at this
    exact ⟨this.1, this.2.2⟩
  obtain ⟨hc0, hc2⟩ := hce
  have RI : Hid (w2.rangeAt K 2 IR) := hc2
  have HBB : Hid (b = true ↔ pl ≤ 100) := hid (hb.trans HPI.out)
  clear hb hb2 hc2
  cases b with
  | false =>
    have HLG : Hid (100 < pl) := hid (by
      rcases Nat.lt_or_ge 100 pl with h | h
      · exact h
      · have := HBB.out.2 h; cases this)
    clear HBB
    have C23 : Hid (Calls Tryz.prog 23 #[.agg #[.string ⟨#[]⟩, .int .i64 0, .int .u8 0, .int .u8 0, .int .u8 0, .int .u8 0, .int .u8 0, .int .u8 0, .int .u8 0, .int .u8 0, .int .u8 0, .int .u8 0, .int .u8 0, .int .u8 0, .int .u8 0, .int .u8 0, .int .u8 0, .int .u8 0, .int .u8 0, .int .u8 0, .int .u8 0, .int .u8 0, .int .i64 0, .int .i64 0], .iface 45 (.int .i64 71)] w2 (PostF G w2 [(71, f0)])) := hid (only_any G ⟨(71, f0), .iface 45 (.int .i64 71)⟩ w2 ⟨z20_w, .inr ⟨by decide, .inl rfl⟩⟩ encF_zero rfl)
    have HIT : Hid (itE (itm lk d) front e = [(71, f0)]) := hid (by unfold itE; rw [if_pos (by rw [HPL.out, HPN.out]; exact HLG.out)])
    go_wp2_with fail
    refine C23.out.mono ?_
    rintro ev w3 hP
    have hP' := hP.back HB2.out
    obtain ⟨h1, gf, lb, rfl, h3⟩ := hP
    go_wp2
    go_ret
    rw [HIT.out]
    exact hP'
  | true =>
    have hsh : ¬ 100 < pl := by have := HBB.out.1 rfl; omega
    have HLN : Hid (¬ 100 < (front ++ e.name).length) := hid (by rw [HPL.out, HPN.out]; exact hsh)
    clear HBB
    by_cases hdir : md = 16384
    · subst hdir
      obtain ⟨DL, HDL⟩ : ∃ l : List UInt8, Hid (PL ++ [47] = l) := ⟨_, hid rfl⟩
      obtain ⟨DS, HDS⟩ : ∃ S : ByteArray, Hid ((⟨DL.toArray⟩ : ByteArray) = S) := ⟨_, rfl⟩
      have hcat2 : PS ++ (⟨#[47]⟩ : ByteArray) = DS := by rw [← HPS.out, ← HDS.out, ← HDL.out, show (⟨#[47]⟩ : ByteArray) = ⟨[47].toArray⟩ from rfl]; exact str_app _ _
      have HIT : Hid (itE (itm lk d) front e = itm lk d e.id DL) := hid (by unfold itE; rw [if_neg HLN.out, if_pos HMD.out, HPL.out, HDL.out])
      have C14 : Hid (Calls Tryz.prog 14 #[.map (some g), .agg IR.toArray, .string DS] w2 (PostF G w2 (itm lk d e.id DL))) := hid (by
        have h1 : DL.length = pl + 1 := by rw [← HDL.out, List.length_append, HPN.out]; rfl
        have h2 := HCF.out e.id HII.out DL (by omega) (by have := HPV.out; have := HN1.out; have := HD.out; omega) (by rw [← HDL.out, ← HPL.out]; exact HGF.out.step HOE.out) w2 HS2.out
        rw [HDS.out] at h2
        unfold idV at h2
        rw [HIR.out.e] at h2
        exact h2)
      go_wp2_with (refine wpList_load_mid rfl 24 _ rfl K 2 rfl IR _ RI.out Tryz.underlying24 rfl hiI ?_)
      refine C14.out.mono ?_
      rintro ev w3 hP
      have hP' := hP.back HB2.out
      obtain ⟨h1, gf, lb, rfl, h3⟩ := hP
      go_wp2
      go_ret
      rw [HIT.out]
      exact hP'
    · have hdb : (md == 16384) = false := by rw [beq_eq_false_iff_ne]; exact hdir
      obtain ⟨fe, HFE⟩ : ∃ f : Fe, Hid (⟨PL, md, e.id⟩ = f) := ⟨_, rfl⟩
      have HIT : Hid (itE (itm lk d) front e = [(0, fe)]) := hid (by unfold itE; rw [if_neg HLN.out, if_neg (by rw [HMD.out]; exact hdir), HPL.out, HMD.out, HFE.out])
      obtain ⟨RF, HRF⟩ : ∃ R, Hid (encF fe = R) := ⟨_, rfl⟩
      have HBU : Hid (Tryz.prog.built 60 [(0, .string PS), (1, .int .i64 md), (2, .agg IR.toArray)] = some RF.toArray) := hid (by
        have := built60_3 PS md e.id HII.out.1
        rw [HIR.out.e] at this
        rw [this, ← HRF.out, ← HFE.out]
        unfold encF
        simp only
        rw [HPS.out, HIR.out.e])
      have C23 : Hid (Calls Tryz.prog 23 #[.agg RF.toArray, .nilIface] w2 (PostF G w2 [(0, fe)])) := hid (only_any G ⟨(0, fe), .nilIface⟩ w2 ⟨by show IdW fe.id; rw [← HFE.out]; exact HII.out, .inl ⟨rfl, rfl⟩⟩ HRF.out rfl)
      go_wp2_with (first | refine wpList_load_mid rfl 24 _ rfl K 2 rfl IR _ RI.out Tryz.underlying24 rfl hiI ?_ | refine wpList_bdR rfl 60 _ rfl RF.toArray (by simp only [List.map_toArray, List.map_cons, List.map_nil]; exact HBU.out) ?_)
      refine C23.out.mono ?_
      rintro ev w3 hP
      have hP' := hP.back HB2.out
      obtain ⟨h1, gf, lb, rfl, h3⟩ := hP
      go_wp2
      go_ret
      rw [HIT.out]
      exact hP'
end Go.Proofs.YtikmbjfambjmaaaGreatDoor.Gr
namespace Go.Proofs.YtikmbjfambjmaaaGreatDoor.Gr
open Go.RowKit Go.Shelf
set_option linter.unusedVariables false
set_option linter.unusedSimpArgs false
attribute [local go_sem] Oper.semAt_some
def mk1 (D : Nat) : Deferred := { target := .collected D, args := #[] }
theorem leave24 (tmps : Array Value) (R : Ending → World → Prop) (B : Nat) (Q : World → Prop) (hQ : ∀ (V : World) (D : Nat), Q V → V.heap[D]? = some (.deferred (some [])) → B ≤ D → Q (V.putObj D (.deferred none))) (hR : ∀ V, Q V → ∀ v, R (.returned v) V) :
    ∀ (ds : List Nat) (V : World), ds.Nodup → (∀ D ∈ ds, B ≤ D ∧ V.heap[D]? = some (.deferred (some []))) → Q V → LeavesInM Fence.wide 3 Tryz.prog Tryz.f24 tmps R (ds.map mk1) .returning V
  | [], V, _, _, hq => ⟨_, results_none rfl _ _ _, hR V hq _⟩
  | D :: ds, V, hn, hm, hq => by
    have hK := (hm D (by simp)).2
    refine ⟨by simp, .inl ⟨D, _, rfl, run_takeDeferred hK, leave24 tmps R B Q hQ hR ds _ (List.nodup_cons.1 hn).2 (fun E hE => ⟨(hm E (by simp [hE])).1, ?_⟩) (hQ V D hq hK (hm D (by simp)).1)⟩⟩
    have hne : E ≠ D := fun e => (List.nodup_cons.1 hn).1 (e ▸ hE)
    exact (World.putObj_heap_other hne).trans (hm E (by simp [hE])).2
structure Iv (Fr : World → Nat → Prop) (J : List Xt → World → Prop) (A0 : World) (its : List It) (xs : List Xt) (ds : List Nat) (W : World) : Prop where
  j : J xs W
  it : xs.map (·.it) = its
  kt : Kt 0 Fr A0 W
  nd : ds.Nodup
  ma : ∀ D ∈ ds, A0.heap.size ≤ D ∧ W.heap[D]? = some (.deferred (some [])) ∧ Fr W D
theorem zero84 (w : World) : (zeroValue 84).run Tryz.prog w = .ok (.agg (erV ⟨0, [], z20⟩).toArray) w := by kernel_rfl
theorem erV_len' {e : Er} (h : e.id.length = 20) : (erV e).length = 22 := by unfold erV; simp [row_len, h]
theorem erV_one' (e : Er) : (erV e).toArray.all (·.oneCell') = true := all_oneCell_toArray (fun v hv => by
  simp only [erV, List.mem_cons] at hv
  rcases hv with rfl | rfl | hv
  · rfl
  · rfl
  · exact row_one _ _ v hv)
def laidF (x : Xt) (W : World) : World := (W.alloc (.cells (encF f0).toArray 60)).setRow W.heap.size (encF x.it.2).toArray
theorem laidF_below (x : Xt) (W : World) : Below W.heap.size W (laidF x W) := below_setRow ((Below.refl _ W).alloc (Nat.le_refl _) _) (Nat.le_refl _) _
theorem laidF_at (x : Xt) (W : World) : (laidF x W).heap[W.heap.size]? = some (.cells (encF x.it.2).toArray 60 (0, 0)) := setRow_heap _ _ _ _ _ _ (heap_alloc_new W (.cells (encF f0).toArray 60))
set_option maxRecDepth 100000 in
set_option maxHeartbeats 4000000 in
theorem iter_seq (w0 : World) (g G : Nat) (lk : Lks) (d : Nat) (hCF : CF w0 g G lk d) (front : List UInt8) (hf : front.length ≤ 101) (hd : 102 ≤ d + 1 + front.length) (hgf : Gf front) (es : List Er) (hok : okL es) (hwf : WfE es) (hel : es.length ≤ 1000)
    (w : World) (hs : Sm G w0 w) (bt bm bf : Nat) (k0 : Int) (a0 : Option Addr) (zn c0 : Nat) (ea : Option Addr) (ec : Nat) (hbt : w.heap[bt]? = some (.cells #[.int .i64 k0, .slice a0 zn c0, .slice ea es.length ec] 76 (0, 0))) (hbm : w.heap[bm]? = some (.cells #[.map (some g)] 52 (0, 0))) (hbf : w.heap[bf]? = some (.cells #[.string ⟨front.toArray⟩] 9 (0, 0)))
    (hP : Px erV 22 ⟨0, [], []⟩ w ea ec es) (hpG : 0 < es.length → ∀ p : Addr, ea = some p → p.block < G) (Nd : Nat → Prop) (hNG : ∀ k, k < G → Nd k) (hNt : Nd bt) (hNm : Nd bm) (hNf : Nd bf) :
    SeqF Tryz.prog 24 #[.pointer (some ⟨bt, 0, none⟩), .pointer (some ⟨bm, 0, none⟩), .pointer (some ⟨bf, 0, none⟩)] encX Fx (·.it) (es.flatMap (itE (itm lk d) front)) Nd w := by
  intro l J Jx Fr Bs W hW hC hN h0
  have HCF : Hid (CF w0 g G lk d) := hCF
  have HGF : Hid (Gf front) := hgf
  have HOK : Hid (okL es) := hok
  have HWF : Hid (WfE es) := hwf
  obtain ⟨ne, HNE⟩ : ∃ n, Hid (es.length = n) := ⟨_, rfl⟩
  have hne : ne ≤ 1000 := by rw [← HNE.out]; exact hel
  obtain ⟨FS, HFS⟩ : ∃ S : ByteArray, Hid ((⟨front.toArray⟩ : ByteArray) = S) := ⟨_, rfl⟩
  obtain ⟨fl, HFL⟩ : ∃ n, Hid (front.length = n) := ⟨_, rfl⟩
  have hfs : FS.size = fl := by rw [← HFS.out, ← HFL.out]; simp [ByteArray.size]
  have hfl : fl ≤ 101 := by rw [← HFL.out]; exact hf
  have HFD : Hid (front.length ≤ 101 ∧ 102 ≤ d + 1 + front.length) := hid ⟨hf, hd⟩
  have hG : G ≤ w.heap.size := hs.1
  have lt_ : ∀ {X : World} {k : Nat} {o : Obj}, X.heap[k]? = some o → k < X.heap.size := fun h => (Array.getElem?_eq_some_iff.1 h).1
  obtain ⟨Y, HY⟩ : ∃ Y, Hid (W.heap.size = Y) := ⟨_, rfl⟩
  obtain ⟨A0, HA0⟩ : ∃ A, Hid (W.alloc (.cells #[.func (.yield l) #[] #[]] 82) = A) := ⟨_, rfl⟩
  have hgA : W.grownBy A0 none := by rw [← HA0.out]; exact hg_alloc W _
  have hsA : A0.heap.size = Y + 1 := by rw [← HA0.out, ← HY.out]; simp
  have hbW : Below W.heap.size W A0 := by rw [← HA0.out]; exact (Below.refl _ W).alloc (Nat.le_refl _) _
  have hbA : Below w.heap.size w A0 := hW.trans (hbW.mono hW.size)
  have HSA : Hid (Sm G w0 A0) := hid ⟨Nat.le_trans hG hbA.size, fun k hk => (hbA.block k (Nat.lt_of_lt_of_le hk hG)).trans (hs.2 k hk)⟩
  have hFk : ∀ k, Nd k → Fr A0 k := fun k hk => hC.stay W A0 none k hgA (rr_none _ _) (hN k hk)
  have HFG : Hid (∀ k, k < G → Fr A0 k) := fun k hk => hFk k (hNG k hk)
  have HJ0 : Hid (J [] A0) := hid (hC.own [] W A0 none h0 hgA (rr_none _ _))
  have HFY : Hid (Fr A0 Y) := hid (hC.new [] W A0 Y h0 hgA (by rw [HY.out]; exact Nat.le_refl _) (by omega))
  have HYA : Hid (A0.heap[Y]? = some (.cells #[.func (.yield l) #[] #[]] 82 (0, 0))) := hid (by rw [← HA0.out, ← HY.out]; exact heap_alloc_new W _)
  have hKey : ∀ V, Kt 0 Fr A0 V → V.cell? ⟨bt, 2, none⟩ = some (.slice ea ne ec) ∧ V.cell? ⟨bm, 0, none⟩ = some (.map (some g)) ∧ V.cell? ⟨bf, 0, none⟩ = some (.string FS) ∧ V.cell? ⟨Y, 0, none⟩ = some (.func (.yield l) #[] #[]) ∧ Px erV 22 ⟨0, [], []⟩ V ea ec es ∧ Sm G w0 V := fun V hV => by
    have q1 : V.heap[bt]? = some (.cells #[.int .i64 k0, .slice a0 zn c0, .slice ea es.length ec] 76 (0, 0)) := (hV.2 bt (Nat.zero_le _) (hFk bt hNt)).2.trans ((hbA.block bt (lt_ hbt)).trans hbt)
    have q2 : V.heap[bm]? = some (.cells #[.map (some g)] 52 (0, 0)) := (hV.2 bm (Nat.zero_le _) (hFk bm hNm)).2.trans ((hbA.block bm (lt_ hbm)).trans hbm)
    have q3 : V.heap[bf]? = some (.cells #[.string FS] 9 (0, 0)) := (hV.2 bf (Nat.zero_le _) (hFk bf hNf)).2.trans ((hbA.block bf (lt_ hbf)).trans (by rw [hbf, HFS.out]))
    have q4 : V.heap[Y]? = some (.cells #[.func (.yield l) #[] #[]] 82 (0, 0)) := (hV.2 Y (Nat.zero_le _) HFY.out).2.trans HYA.out
    have sm : Sm G A0 V := ⟨Nat.le_trans HSA.out.1 hV.1, fun k hk => (hV.2 k (Nat.zero_le _) (HFG.out k hk)).2⟩
    refine ⟨by simp [World.cell?, q1, HNE.out], by simp [World.cell?, q2], by simp [World.cell?, q3], by simp [World.cell?, q4], ?_, ⟨sm.1, fun k hk => (sm.2 k hk).trans (HSA.out.2 k hk)⟩⟩
    have hPA : Px erV 22 ⟨0, [], []⟩ A0 ea ec es := hP.below hbA
    exact hPA.sm sm hpG
  have HKEY : Hid (∀ V, Kt 0 Fr A0 V → V.cell? ⟨bt, 2, none⟩ = some (.slice ea ne ec) ∧ V.cell? ⟨bm, 0, none⟩ = some (.map (some g)) ∧ V.cell? ⟨bf, 0, none⟩ = some (.string FS) ∧ V.cell? ⟨Y, 0, none⟩ = some (.func (.yield l) #[] #[]) ∧ Px erV 22 ⟨0, [], []⟩ V ea ec es ∧ Sm G w0 V) := hKey
  have HPA : Hid (0 < ne → ∃ b off, ea = some ⟨b, off, none⟩) := fun h => by
    obtain ⟨b, off, e1, _⟩ := hP.at_ (by rw [HNE.out]; exact h)
    exact ⟨b, off, e1⟩
  have HC : Hid (Cal Tryz.prog l encX Fx J Jx Fr Bs W.heap.size) := hC
  have HI0 : Hid (Iv Fr J A0 ((es.take 0).flatMap (itE (itm lk d) front)) [] [] A0) := hid ⟨HJ0.out, rfl, Kt.refl _ _ _, List.nodup_nil, fun D h => by cases h⟩
  obtain ⟨zr, HZ⟩ : ∃ zr : Array Value, Hid ((erV ⟨0, [], z20⟩).toArray = zr) := ⟨_, rfl⟩
  have hz84 : ∀ w : World, (zeroValue 84).run Tryz.prog w = .ok (.agg zr) w := fun w => by rw [← HZ.out]; exact zero84 w
  obtain ⟨zf, HZF⟩ : ∃ zr : Array Value, Hid ((encF f0).toArray = zr) := ⟨_, rfl⟩
  have hz60 : ∀ w : World, (zeroValue 60).run Tryz.prog w = .ok (.agg zf) w := fun w => by rw [← HZF.out]; exact zero60 w
  have hc2 := (hKey A0 (Kt.refl _ _ _)).1
  clear hCF hgf hok hwf hel hf hd hs hbt hbm hbf hP hpG hNG hNt hNm hNf hN h0 hC hKey hFk hgA hbW hbA hW hG lt_
  refine callsIn_of_wp_marks Tryz.func24 rfl trivial ?_ rfl
  simp only [Tryz.ntmps24, List.size_toArray, List.length_cons, List.length_nil, Nat.reduceAdd, Nat.reduceSub, Array.replicate_succ, Array.replicate_zero, List.push_toArray, List.append_toArray, List.nil_append, List.cons_append]
  refine wpIn_wide.2 ?_
  have hal : W.alloc (.cells #[.func (.yield l) #[] #[]] 82) = A0 := HA0.out
  have hbx : (Instr.box 82 (.func (.yield l) #[] #[])).run Tryz.prog W = .ok (.pointer (some ⟨Y, 0, none⟩)) A0 := by rw [← HA0.out, ← HY.out]; kernel_rfl
  go_wp2_with fail
  rw [HY.out]
  refine wp_loop_ghost_k (fun gk A V => ∃ (k : Nat) (xs : List Xt) (ds : List Nat), k ≤ ne ∧ gk = ne - k ∧ Hid (Iv Fr J A0 ((es.take k).flatMap (itE (itm lk d) front)) xs ds V) ∧ ∃ (y5 y6 y7 y8 y9 y13 y14 y15 y16 y17 y18 y19 y20 y21 y22 y23 y24 y25 y26 y27 y28 y29 y30 : Value), A = { tmps := #[.func (.yield l) #[] #[], .pointer (some ⟨bt, 0, none⟩), .pointer (some ⟨bm, 0, none⟩), .pointer (some ⟨bf, 0, none⟩), .pointer (some ⟨Y, 0, none⟩), y5, y6, y7, y8, y9, .slice ea ne ec, .int .i64 ne, .int .i64 k, y13, y14, y15, y16, y17, y18, y19, y20, y21, y22, y23, y24, y25, y26, y27, y28, y29, y30], defers := ds.map mk1 }) ne ⟨0, [], [], Nat.zero_le _, rfl, HI0, _, _, _, _, _, _, _, _, _, _, _, _, _, _, _, _, _, _, _, _, _, _, _, rfl⟩ ?_
  clear HI0 hc2 hbx hal
  rintro gk _ wr ⟨k, xs, ds, hk, hgk, HI, y5, y6, y7, y8, y9, y13, y14, y15, y16, y17, y18, y19, y20, y21, y22, y23, y24, y25, y26, y27, y28, y29, y30, rfl⟩ J' K' hJ hK
  obtain ⟨hcT, hcM, hcF, hcY, hPW, hSW⟩ := HKEY.out wr HI.out.kt
  have HPW : Hid (Px erV 22 ⟨0, [], []⟩ wr ea ec es) := hPW
  have HSW : Hid (Sm G w0 wr) := hSW
  clear hPW hSW
  by_cases hlt : k < ne
  · have hlti : (k : Int) < (ne : Int) := by omega
    obtain ⟨eb, eo, hae⟩ := HPA.out (by omega)
    subst hae
    have hkl : k < es.length := by rw [HNE.out]; exact hlt
    obtain ⟨e, HE⟩ : ∃ e, Hid (es.getD k ⟨0, [], []⟩ = e) := ⟨_, rfl⟩
    have HEM : Hid (e ∈ es) := hid (by rw [← HE.out]; exact getD_mem es k _ hkl)
    obtain ⟨RE, HRE⟩ : ∃ R, Hid (erV e = R) := ⟨_, rfl⟩
    have HRL : Hid (RE.length = 22) := hid (by rw [← HRE.out]; exact erV_len' (HWF.out e HEM.out).1)
    have hi84 : (Tryz.prog.info? 84).map (·.size) = some RE.length := by rw [HRL.out]; exact size84
    have I84 : Hid ((Tryz.prog.info? 84).map (·.size) = some RE.toArray.size) := hid (by rw [List.size_toArray]; exact hi84)
    have E84 : Hid (zr.size = RE.toArray.size) := hid (by rw [← HZ.out, List.size_toArray, List.size_toArray, HRL.out]; rfl)
    have O84 : Hid (RE.toArray.all (·.oneCell') = true) := hid (by rw [← HRE.out]; exact erV_one' e)
    have RR : Hid (wr.rangeAt eb (eo + k * 22) RE) := hid (by
      obtain ⟨b', off', e1, _, e3⟩ := HPW.out.at_ (by omega)
      cases e1
      have := e3 k hkl
      rw [HE.out, HRE.out] at this
      exact this)
    have HT : Hid (es.take (k + 1) = es.take k ++ [e]) := hid (by rw [← HE.out]; exact take_snocG _ es k hkl)
    obtain ⟨H, w2, HN2⟩ := nw 84 zr wr RE
    have HB2 : Hid (Below wr.heap.size wr w2) := hid (by have := HN2.out.below; rw [← HN2.out.h] at this; exact this)
    have hH2 : w2.heap[H]? = some (.cells RE.toArray 84 (0, 0)) := HN2.out.box
    have R2 : Hid (w2.rangeAt H 0 RE) := hid (range_row hH2)
    obtain ⟨NS, HNM⟩ : ∃ S : ByteArray, Hid ((⟨e.name.toArray⟩ : ByteArray) = S) := ⟨_, rfl⟩
    obtain ⟨nl, HNL⟩ : ∃ n, Hid (e.name.length = n) := ⟨_, rfl⟩
    have hnsz : NS.size = nl := by rw [← HNM.out, ← HNL.out]; simp [ByteArray.size]
    have hnl : nl ≤ 50 := by rw [← HNL.out]; exact (HOK.out.1 e HEM.out).2.2.1
    have hcN : w2.cell? ⟨H, 1, none⟩ = some (.string NS) := by
      have h1 : w2.rangeAt H 0 (erV e) := by rw [HRE.out]; exact R2.out
      have := (cells_E h1).2.1
      rw [HNM.out] at this
      exact this
    obtain ⟨PS, HPS⟩ : ∃ S : ByteArray, Hid ((⟨(front ++ e.name).toArray⟩ : ByteArray) = S) := ⟨_, hid rfl⟩
    have hcat : FS ++ NS = PS := by rw [← HFS.out, ← HNM.out, ← HPS.out]; exact str_app _ _
    have HK2 : Hid (Kt 0 Fr A0 w2) := hid (HI.out.kt.trans ⟨HB2.out.size, fun k _ hk => ⟨HC.out.stay _ _ none k (gb_below HB2.out) (rr_none _ _) hk, HB2.out.block k (HC.out.lt _ _ hk)⟩⟩)
    obtain ⟨_, hcM2, hcF2, _, _, hS2⟩ := HKEY.out w2 HK2.out
    have HS2 : Hid (Sm G w0 w2) := hS2
    have HJ2 : Hid (J xs w2) := hid (HC.out.own xs wr w2 none HI.out.j (gb_below HB2.out) (rr_none _ _))
    obtain ⟨ie, HIE⟩ : ∃ l, Hid (itE (itm lk d) front e = l) := ⟨_, rfl⟩
    have C25 : Hid (Calls Tryz.prog 25 #[.map (some g), .agg RE.toArray, .string PS] w2 (PostF G w2 ie)) := hid (by
      have := filesAt_any w0 g G lk d HCF.out front HFD.out.1 HFD.out.2 HGF.out e (HOK.out.1 e HEM.out).2 (HWF.out e HEM.out) w2 HS2.out
      rw [HRE.out, HPS.out, HIE.out] at this
      exact this)
    have HW2 : Hid (Nw 84 zr wr w2 H RE) := HN2
    clear hS2 hH2 hcM hcF hcT hcY
    go_wp2_with (first
      | refine wpList_load_mid rfl 84 _ rfl eb (eo + k * 22) rfl RE _ RR.out Tryz.underlying84 rfl hi84 ?_
      | (refine wpList_store_row rfl 84 _ _ rfl wr.heap.size RE.toArray rfl rfl 84 zr HN2.out.d I84.out E84.out O84.out ?_; rw [HN2.out.w, HN2.out.h])
      | refine wpList_load_mid rfl 84 _ rfl H 0 rfl RE _ R2.out Tryz.underlying84 rfl hi84 ?_)
    refine C25.out.mono ?_
    rintro ev w3 ⟨hb3, gf, lb, rfl, hgfe, hseq⟩
    have HSQ : Hid (SeqF Tryz.prog gf lb encX Fx (·.it) ie (fun k => k < G ∨ (w2.heap.size ≤ k ∧ k < w3.heap.size)) w3) := hseq
    have HB3 : Hid (Below w2.heap.size w2 w3) := hb3
    have HK3 : Hid (Kt 0 Fr A0 w3) := hid (HK2.out.trans ⟨HB3.out.size, fun k _ hk => ⟨HC.out.stay _ _ none k (gb_below HB3.out) (rr_none _ _) hk, HB3.out.block k (HC.out.lt _ _ hk)⟩⟩)
    have HJ3 : Hid (J xs w3) := hid (HC.out.own xs w2 w3 none HJ2.out (gb_below HB3.out) (rr_none _ _))
    have HWS : Hid (W.heap.size ≤ w3.heap.size) := hid (by have h1 := HK3.out.1; rw [hsA] at h1; rw [HY.out]; omega)
    have HM3 : Hid (∀ D ∈ ds, A0.heap.size ≤ D ∧ w3.heap[D]? = some (.deferred (some [])) ∧ Fr w3 D) := fun D hD => by
      obtain ⟨h1, h2, h3⟩ := HI.out.ma D hD
      have l1 := HC.out.lt _ _ h3
      have hb : Below wr.heap.size wr w3 := HB2.out.trans (HB3.out.mono HB2.out.size)
      exact ⟨h1, (hb.block D l1).trans h2, HC.out.stay _ _ none D (gb_below hb) (rr_none _ _) h3⟩
    have HEN : Hid (∀ (args : Array Value) (w : World), (callFunc gf args).run Tryz.prog w = .ok (.enter gf args) w) := hid (by
      rcases hgfe with rfl | rfl
      · exact enters_of Tryz.func24 (by kernel_rfl) rfl
      · exact enters_of Tryz.func38 (by kernel_rfl) rfl)
    clear hb3 hseq hgfe hcM2 hcF2 hcN
    go_wp2_with fail
    refine (wpIn_wide (n := 3)).1 ?_
    have hstay : ∀ A C row k, A.grownBy C row → Rr w3.heap.size A row → Fr A k → Fr C k := fun A C row k hg hr hk => HC.out.stay A C row k hg (fun r e => ⟨Nat.le_trans HWS.out (hr r e).1, (hr r e).2⟩) hk
    refine range_F (a := _) (gf := gf) (lb := lb) rfl HEN.out (Below.refl _ _) HSQ.out (fun _ => rfl) (fun x A C row hg hr h => h.stay hg hr)
      (fun zs V => J (xs ++ zs) V ∧ Kt 0 Fr w3 V) (fun zs V => Jx (xs ++ zs) V ∧ Kt Bs Fr w3 V) Fr Bs (Nat.le_trans HC.out.le HWS.out)
      (fun zs A C row h hg hr => ⟨ownFrom_mono HC.out.own HWS.out _ A C row h.1 hg hr, Kt.own (β := Unit) (Nat.le_refl _) HC.out.lt hstay () A C row h.2 hg hr⟩)
      (fun zs A C row h hg hr => ⟨ownFrom_mono HC.out.ownx HWS.out _ A C row h.1 hg hr, Kt.own (β := Unit) (Nat.le_refl _) HC.out.lt hstay () A C row h.2 hg hr⟩)
      HC.out.lt (fun pre A C k h hg h1 h2 => HC.out.new _ A C k h.1 hg h1 h2) hstay ?nd ⟨by rw [List.append_nil]; exact HJ3.out, Kt.refl _ _ _⟩
      (fun x V => { tmps := #[.func (.yield l) #[] #[], .pointer (some ⟨bt, 0, none⟩), .pointer (some ⟨bm, 0, none⟩), .pointer (some ⟨bf, 0, none⟩), .pointer (some ⟨Y, 0, none⟩), y5, .pointer (some ⟨H, 0, none⟩), .pointer (some ⟨V.heap.size, 0, none⟩), x.ev, y9, .slice (some ⟨eb, eo, none⟩) ne ec, .int .i64 ne, .int .i64 k, .bool true, .pointer (some ⟨eb, eo + k * 22, none⟩), .agg RE.toArray, .map (some g), .agg RE.toArray, .string FS, .pointer (some ⟨H, 1, none⟩), .string NS, .string PS, .func (.func gf) #[] lb, .agg (encF x.it.2).toArray, x.ev, y25, y26, y27, y28, y29, y30], defers := [] }) laidF (fun x V => gb_below (laidF_below x V)) ?assign ?body ?done ?stop
    case nd =>
      rintro k (h | ⟨h1, h2⟩)
      · exact (HK3.out.2 k (Nat.zero_le _) (HFG.out k h)).1
      · exact HC.out.new xs w2 w3 k HJ2.out (gb_below HB3.out) h1 h2
    case assign =>
      intro l2 x V K hFx hK
      dsimp only [encX]
      unfold laidF at hK
      obtain ⟨RF, HRF⟩ : ∃ R, Hid (encF x.it.2 = R) := ⟨_, rfl⟩
      rw [HRF.out, HZF.out] at hK
      rw [HRF.out]
      have HFN : Hid (RF.length = 24) := hid (by rw [← HRF.out]; exact encF_len hFx.1.1)
      have I60 : Hid ((Tryz.prog.info? 60).map (·.size) = some RF.toArray.size) := hid (by rw [List.size_toArray, HFN.out]; exact size60)
      have E60 : Hid (zf.size = RF.toArray.size) := hid (by rw [← HZF.out, List.size_toArray, List.size_toArray, HFN.out]; rfl)
      have O60 : Hid (RF.toArray.all (·.oneCell') = true) := hid (by rw [← HRF.out]; exact all_oneCell_toArray (encF_one _))
      have D0 : Hid ((V.alloc (.cells zf 60)).heap[V.heap.size]? = some (.cells zf 60 (0, 0))) := heap_alloc_new V _
      have HKK : Hid _ := hK
      clear hK
      gi_wp2_with (refine storeIn_row rfl 60 _ _ rfl V.heap.size RF.toArray rfl rfl 60 zf D0.out I60.out E60.out O60.out ?_)
      exact HKK.out
    case body =>
      rintro l2 pre x V0 V hl2 hl3 hsame hsz ⟨hj, hkt⟩ hFx
      have hKV : Kt 0 Fr A0 V := HK3.out.trans hkt
      obtain ⟨_, _, _, hcYV, _, _⟩ := HKEY.out V hKV
      obtain ⟨RF, HRF⟩ : ∃ R, Hid (encF x.it.2 = R) := ⟨_, rfl⟩
      have HFN : Hid (RF.length = 24) := hid (by rw [← HRF.out]; exact encF_len hFx.1.1)
      have hi60 : (Tryz.prog.info? 60).map (·.size) = some RF.length := by rw [HFN.out]; exact size60
      have RB : Hid (V.rangeAt V0.heap.size 0 RF) := hid (by
        have h1 : V.heap[V0.heap.size]? = some (.cells RF.toArray 60 (0, 0)) := by rw [hsame _ (by omega), laidF_at, HRF.out]
        exact range_row h1)
      obtain ⟨fn, tmps, assign, body, hy, hR⟩ := HC.out.yld (xs ++ pre) x V hj hFx
      have HR : Hid (RoundIn Fence.wide 2 Tryz.prog l fn tmps assign body V fun e W' => (e = .returned (.bool true) ∧ J (xs ++ pre ++ [x]) W' ∧ Kt 0 Fr V W') ∨ (e = .returned (.bool false) ∧ Jx (xs ++ pre ++ [x]) W' ∧ Kt Bs Fr V W')) := hid (roundIn_any hR)
      have HKT : Hid (Kt 0 Fr w3 V) := hkt
      obtain ⟨ev, HEV⟩ : ∃ v, Hid (x.ev = v) := ⟨_, rfl⟩
      unfold encX at hy
      rw [HRF.out, HEV.out] at hy
      rw [HRF.out, HEV.out]
      clear hR hkt hj hKV hsame
      gi_wp2_with (refine loadIn_mid rfl 60 _ rfl V0.heap.size 0 rfl RF _ RB.out Tryz.underlying60 rfl hi60 ?_)
      refine HR.out.mono ?_
      rintro e1 W3 (⟨rfl, hJ3, hk3⟩ | ⟨rfl, hJ3, hk3⟩)
      · rw [List.append_assoc] at hJ3
        have HJ3 : Hid (J (xs ++ (pre ++ [x])) W3) := hJ3
        have HK9 : Hid (Kt 0 Fr V W3) := hk3
        clear hJ3 hk3
        gi_wp2
        exact ⟨⟨HJ3.out, HKT.out.trans HK9.out⟩, HK9.out⟩
      · rw [List.append_assoc] at hJ3
        have HJ3 : Hid (Jx (xs ++ (pre ++ [x])) W3) := hJ3
        have HK9 : Hid (Kt Bs Fr V W3) := hk3
        clear hJ3 hk3
        gi_wp2
        exact ⟨⟨HJ3.out, (HKT.out.weak (Nat.zero_le _)).trans HK9.out⟩, HK9.out⟩
    case done =>
      rintro D zs V hD hS ⟨hj, hkt⟩ hFD hV
      have HI2 : Hid (Iv Fr J A0 ((es.take (k + 1)).flatMap (itE (itm lk d) front)) (xs ++ zs) (D :: ds) V) := hid ⟨hj, by rw [HT.out, List.map_append, HI.out.it, hS, List.flatMap_append, ← HIE.out]; simp, HK3.out.trans hkt, List.nodup_cons.2 ⟨fun h => by have := HC.out.lt _ _ (HM3.out D h).2.2; omega, HI.out.nd⟩, fun E hE => by
        rcases List.mem_cons.1 hE with rfl | hE
        · exact ⟨Nat.le_trans HK3.out.1 hD, hV, hFD⟩
        · obtain ⟨h1, h2, h3⟩ := HM3.out E hE
          exact ⟨h1, (hkt.2 E (Nat.zero_le _) h3).2.trans h2, (hkt.2 E (Nat.zero_le _) h3).1⟩⟩
      clear hS hj hkt hFD hV
      go_wp2
      exact Handed.intro (ne - (k + 1)) (by omega) (hJ _ _ _ ⟨k + 1, xs ++ zs, D :: ds, by omega, rfl, HI2, _, _, _, _, _, _, _, _, _, _, _, _, _, _, _, _, _, _, _, _, _, _, _, rfl⟩)
    case stop =>
      rintro D zs V hD hS ⟨hj, hkt⟩ hFD hV
      have HST : Hid (∃ r, (xs ++ zs).map (·.it) ++ r = es.flatMap (itE (itm lk d) front)) := hid (by
        obtain ⟨r, hr⟩ := hS
        refine ⟨r ++ (es.drop (k + 1)).flatMap (itE (itm lk d) front), ?_⟩
        conv => rhs; rw [← List.take_append_drop (k + 1) es, List.flatMap_append, HT.out, List.flatMap_append]
        rw [List.map_append, HI.out.it, ← List.append_assoc, List.append_assoc _ _ r, hr, ← HIE.out]
        simp)
      refine wpIn_wide.2 ?_
      go_wp2
      refine leave24 _ _ A0.heap.size (fun V => Jx (xs ++ zs) V) (fun V' E hq hE hB => HC.out.ownx.putObj _ hq (by rw [hsA] at hB; rw [HY.out]; omega) hE rfl) (fun V' hq v => ⟨⟨v, rfl⟩, .inr ⟨xs ++ zs, HST.out, hq⟩⟩) (D :: ds) V (List.nodup_cons.2 ⟨fun h => by have := HC.out.lt _ _ (HM3.out D h).2.2; omega, HI.out.nd⟩) (fun E hE => ?_) hj
      rcases List.mem_cons.1 hE with rfl | hE
      · exact ⟨Nat.le_trans HK3.out.1 hD, hV⟩
      · obtain ⟨h1, h2, h3⟩ := HM3.out E hE
        exact ⟨h1, (hkt.2 E (Nat.le_trans HC.out.le (by rw [hsA] at h1; rw [HY.out]; omega)) h3).2.trans h2⟩
  · have hlti : ¬ (k : Int) < (ne : Int) := by omega
    have HLT : Hid (xs.map (·.it) = es.flatMap (itE (itm lk d) front)) := hid (by rw [HI.out.it, List.take_of_length_le (by rw [HNE.out]; omega)])
    go_wp2
    exact leave24 _ _ A0.heap.size (fun V => J xs V) (fun V' E hq hE hB => HC.out.own.putObj _ hq (by rw [hsA] at hB; rw [HY.out]; omega) hE rfl) (fun V' hq v => ⟨⟨v, rfl⟩, .inl ⟨xs, HLT.out, hq⟩⟩) ds wr HI.out.nd (fun E hE => ⟨(HI.out.ma E hE).1, (HI.out.ma E hE).2.1⟩) HI.out.j
end Go.Proofs.YtikmbjfambjmaaaGreatDoor.Gr
namespace Go.Proofs.YtikmbjfambjmaaaGreatDoor.Gr
open Go.RowKit Go.Shelf
set_option linter.unusedVariables false
set_option linter.unusedSimpArgs false
set_option maxRecDepth 20000 in
theorem built81 (x : List Int) (h : x.length = 20) : Tryz.prog.built 81 [(0, .agg (row .u8 x).toArray), (1, .int .i64 50)] = some (row .u8 x ++ [Value.int .i64 50]).toArray := by
  obtain ⟨a0, a1, a2, a3, a4, a5, a6, a7, a8, a9, a10, a11, a12, a13, a14, a15, a16, a17, a18, a19, rfl⟩ := list20 x h
  kernel_rfl
theorem one3 (k : Int) (a b : Option Addr) (n m c e : Nat) : (#[Value.int .i64 k, .slice a n c, .slice b m e] : Array Value).all (·.oneCell') = true := all_oneCell_toArray (cs := [Value.int .i64 k, .slice a n c, .slice b m e]) (fun v hv => by
  simp only [List.mem_cons, List.not_mem_nil, or_false] at hv
  rcases hv with rfl | rfl | rfl <;> rfl)
theorem size76 : (Tryz.prog.info? 76).map (·.size) = some 3 := by kernel_rfl
set_option maxRecDepth 20000 in
set_option maxHeartbeats 4000000 in
theorem files_any (w0 : World) (g G : Nat) (lk : Lks) (hF : Fst w0 g G lk) (hfo : Fo lk) : ∀ d, CF w0 g G lk d := by
  intro d
  induction d with
  | zero => intro x hx front hf hd; omega
  | succ d ih =>
    intro x hx front hf hd hgf w hs
    have HCF : Hid (CF w0 g G lk d) := ih
    have HFO : Hid (Fo lk) := hfo
    have HX0 : Hid (IdW x) := hx
    have HGF : Hid (Gf front) := hgf
    have HFD : Hid (front.length ≤ 101 ∧ 102 ≤ d + 1 + front.length) := hid ⟨hf, hd⟩
    obtain ⟨FS, HFS⟩ : ∃ S : ByteArray, Hid ((⟨front.toArray⟩ : ByteArray) = S) := ⟨_, rfl⟩
    obtain ⟨X, HX⟩ := rw_ hx.1
    have hiX := HX.out.i56
    obtain ⟨K, HK⟩ : ∃ K, Hid (w.heap.size = K) := ⟨_, rfl⟩
    obtain ⟨wa, HWA⟩ : ∃ u, Hid (w.alloc (.cells #[.map (some g)] 52) = u) := ⟨_, rfl⟩
    obtain ⟨wb, HWB⟩ : ∃ u, Hid (wa.alloc (.cells X.toArray 24) = u) := ⟨_, rfl⟩
    obtain ⟨w1, HW1⟩ : ∃ u, Hid (wb.alloc (.cells #[.string FS] 9) = u) := ⟨_, rfl⟩
    have hsa : wa.heap.size = K + 1 := by rw [← HWA.out, ← HK.out]; simp
    have hsb : wb.heap.size = K + 2 := by rw [← HWB.out]; simp [hsa]
    have hs1 : w1.heap.size = K + 3 := by rw [← HW1.out]; simp [hsb]
    have HB1 : Hid (Below w.heap.size w w1) := hid (by rw [← HW1.out, ← HWB.out, ← HWA.out]; exact (((Below.refl _ w).alloc (Nat.le_refl _) _).alloc (by simp) _).alloc (by simp; omega) _)
    have h0 : w1.heap[K]? = some (.cells #[.map (some g)] 52 (0, 0)) := by
      rw [← HW1.out, Below.heap_alloc _ _ _ (by omega), ← HWB.out, Below.heap_alloc _ _ _ (by omega), ← HWA.out, ← HK.out]; exact heap_alloc_new w _
    have h1 : w1.heap[K + 1]? = some (.cells X.toArray 24 (0, 0)) := by
      rw [← HW1.out, Below.heap_alloc _ _ _ (by omega), ← HWB.out, ← hsa]; exact heap_alloc_new wa _
    have h2 : w1.heap[K + 2]? = some (.cells #[.string FS] 9 (0, 0)) := by rw [← HW1.out, ← hsb]; exact heap_alloc_new wb _
    have H0 : Hid (w1.heap[K]? = some (.cells #[.map (some g)] 52 (0, 0))) := h0
    have H1 : Hid (w1.heap[K + 1]? = some (.cells X.toArray 24 (0, 0))) := h1
    have H2 : Hid (w1.heap[K + 2]? = some (.cells #[.string FS] 9 (0, 0))) := h2
    have HS1 : Hid (Sm G w0 w1) := hid (hs.below HB1.out)
    have RX1 : Hid (w1.rangeAt (K + 1) 0 X) := hid (range_row h1)
    have hc0 : w1.cell? ⟨K, 0, none⟩ = some (.map (some g)) := by simp [World.cell?, h0]
    obtain ⟨nn, M, hM, hMn, hMs⟩ := (hF.sm HS1.out).m
    have hlook := hM.look hx
    obtain ⟨zr, HZ⟩ : ∃ zr : Array Value, Hid (#[.int .i64 0, .slice none 0 0, .slice none 0 0] = zr) := ⟨_, rfl⟩
    have hz76 : ∀ w : World, (zeroValue 76).run Tryz.prog w = .ok (.agg zr) w := fun w => by rw [← HZ.out]; exact zero76 w
    have HZ3 : Hid (zr.size = 3) := hid (by rw [← HZ.out]; rfl)
    have ends : ∀ (e : Ending) (w2 w3 : World) (its : List It), Below w.heap.size w w2 → PostF G w2 its e w3 → ∃ gf lb, e = .returned (.func (.func gf) #[] lb) ∧ PostF G w its e w3 := fun e w2 w3 its hb hp => by
      obtain ⟨_, gf, lb, h, _⟩ := id hp
      exact ⟨gf, lb, h, hp.back hb⟩
    have HEND : Hid _ := ends
    have HSA : Hid (wa.heap.size = K + 1) := hsa
    have HSB : Hid (wb.heap.size = K + 2) := hsb
    have HS3 : Hid (w1.heap.size = K + 3) := hs1
    unfold idV
    unfold idV at hlook
    rw [HX.out.e] at hlook
    rw [HX.out.e, HFS.out]
    cases hl : lk x with
    | none =>
      have HLK : Hid (lk x = none) := hl
      rw [hMn x hx hl] at hlook
      have hlk : (Instr.lookup 52 (.map (some g)) (.agg X.toArray) true).run Tryz.prog w1 = .ok (.tuple #[.agg zr, .bool false]) w1 := by rw [← HZ.out]; exact hlook
      obtain ⟨H, w2, HN2⟩ := nw 76 zr w1 zr.toList
      have HB2 : Hid (Below w1.heap.size w1 w2) := hid (by have := HN2.out.below; rw [← HN2.out.h] at this; exact this)
      have HB : Hid (Below w.heap.size w w2) := hid (HB1.out.trans (HB2.out.mono HB1.out.size))
      have HZL : Hid (zr.toList.toArray = zr) := hid (by simp)
      have HNW : Hid ((w1.alloc (.cells zr 76)).setRow w1.heap.size zr = w2) := hid (by have := HN2.out.w; rw [HZL.out] at this; exact this)
      have RX2 : Hid (w2.rangeAt (K + 1) 0 X) := hid (range_row ((HB2.out.block (K + 1) (by omega)).trans h1))
      have I76 : Hid ((Tryz.prog.info? 76).map (·.size) = some zr.size) := hid (by rw [HZ3.out]; exact size76)
      have O76 : Hid (zr.all (·.oneCell') = true) := hid (by rw [← HZ.out]; exact one3 _ _ _ _ _ _ _)
      obtain ⟨XE, HXE⟩ : ∃ l, Hid (X ++ [.int .i64 50] = l) := ⟨_, hid rfl⟩
      have HBU : Hid (Tryz.prog.built 81 [(0, .agg X.toArray), (1, .int .i64 50)] = some XE.toArray) := hid (by
        have := built81 x HX0.out.1
        rw [HX.out.e, HXE.out] at this
        exact this)
      obtain ⟨K2, HK2⟩ : ∃ K, Hid (w2.heap.size = K) := ⟨_, rfl⟩
      obtain ⟨w3, HW3⟩ : ∃ u, Hid (w2.alloc (.cells XE.toArray 81) = u) := ⟨_, rfl⟩
      have HB3 : Hid (Below w.heap.size w w3) := hid (by rw [← HW3.out]; exact HB.out.alloc HB.out.size _)
      have hXL : X.length = 20 := by rw [← HX.out.e, row_len]; exact HX0.out.1
      have HC3 : Hid (w3.cell? ⟨K2, 20, none⟩ = some (.int .i64 50)) := hid (by
        have h3 : w3.heap[K2]? = some (.cells XE.toArray 81 (0, 0)) := by rw [← HW3.out, ← HK2.out]; exact heap_alloc_new w2 _
        have h4 : XE.toArray[20]? = some (.int .i64 50) := by rw [← HXE.out]; simp [List.getElem?_append_right, hXL]
        simp [World.cell?, h3, h4])
      have C23 : Hid (Calls Tryz.prog 23 #[.agg #[.string ⟨#[]⟩, .int .i64 0, .int .u8 0, .int .u8 0, .int .u8 0, .int .u8 0, .int .u8 0, .int .u8 0, .int .u8 0, .int .u8 0, .int .u8 0, .int .u8 0, .int .u8 0, .int .u8 0, .int .u8 0, .int .u8 0, .int .u8 0, .int .u8 0, .int .u8 0, .int .u8 0, .int .u8 0, .int .u8 0, .int .i64 0, .int .i64 0], .iface 79 (.pointer (some ⟨K2, 0, none⟩))] w3 (PostF G w3 [(50, f0)])) := hid (only_any G ⟨(50, f0), .iface 79 (.pointer (some ⟨K2, 0, none⟩))⟩ w3 ⟨z20_w, .inr ⟨by show (50 : Int) ≠ 0; decide, .inr ⟨K2, rfl, HC3.out⟩⟩⟩ encF_zero rfl)
      have HIT : Hid (itm lk (d + 1) x front = [(50, f0)]) := hid (by rw [itm, HLK.out])
      have hal3 : w2.alloc (.cells XE.toArray 81) = w3 := HW3.out
      clear hx hf hd hgf hs ih hF hfo hM hMn hMs hlook hl ends h0 h1 h2 hsa hsb hs1
      go_enter Tryz.func14, Tryz.ntmps14
      go_wp2_with (first | (rw [HWA.out, HWB.out, HW1.out, HK.out]; refine Hid.out ?_) | fail)
      refine hid ?_
      go_wp2_with (first
        | refine wpList_load_mid rfl 24 _ rfl (K + 1) 0 rfl X _ RX1.out Tryz.underlying24 rfl hiX ?_
        | refine wpList_load_mid rfl 24 _ rfl (K + 1) 0 rfl X _ RX2.out Tryz.underlying24 rfl hiX ?_
        | (refine wpList_store_row rfl 76 _ _ rfl w1.heap.size zr rfl rfl 76 zr HN2.out.d I76.out rfl O76.out ?_; rw [HNW.out, HN2.out.h])
        | refine wpList_bdR rfl 81 _ rfl XE.toArray (by simp only [List.map_toArray, List.map_cons, List.map_nil]; exact HBU.out) ?_)
      rw [HK2.out]
      refine C23.out.mono ?_
      rintro ev w4 hP
      obtain ⟨gf, lb, rfl, hP'⟩ := HEND.out _ _ _ _ HB3.out hP
      clear hP
      go_wp2
      go_ret
      rw [HIT.out]
      exact hP'
    | some es =>
      have HLK : Hid (lk x = some es) := hl
      obtain ⟨k0, a0, zn, c0, ea, ec, hMx, hPx, hpG, hel⟩ := hMs x es hx hl
      rw [hMx] at hlook
      obtain ⟨ne, HNE⟩ : ∃ n, Hid (es.length = n) := ⟨_, rfl⟩
      rw [HNE.out] at hlook
      obtain ⟨TV, HTV⟩ : ∃ v : Array Value, Hid (#[.int .i64 k0, .slice a0 zn c0, .slice ea ne ec] = v) := ⟨_, rfl⟩
      have hlk : (Instr.lookup 52 (.map (some g)) (.agg X.toArray) true).run Tryz.prog w1 = .ok (.tuple #[.agg TV, .bool true]) w1 := by rw [← HTV.out]; exact hlook
      obtain ⟨H, w2, HN2⟩ := nw 76 zr w1 TV.toList
      have HTL : Hid (TV.toList.toArray = TV) := hid (by simp)
      have HNW : Hid ((w1.alloc (.cells zr 76)).setRow w1.heap.size TV = w2) := hid (by have := HN2.out.w; rw [HTL.out] at this; exact this)
      have HT3 : Hid (TV.size = 3) := hid (by rw [← HTV.out]; rfl)
      have HB2 : Hid (Below w1.heap.size w1 w2) := hid (by have := HN2.out.below; rw [← HN2.out.h] at this; exact this)
      have HB : Hid (Below w.heap.size w w2) := hid (HB1.out.trans (HB2.out.mono HB1.out.size))
      have I76 : Hid ((Tryz.prog.info? 76).map (·.size) = some TV.size) := hid (by rw [HT3.out]; exact size76)
      have E76 : Hid (zr.size = TV.size) := hid (by rw [HT3.out, HZ3.out])
      have O76 : Hid (TV.all (·.oneCell') = true) := hid (by rw [← HTV.out]; exact one3 _ _ _ _ _ _ _)
      have HH : Hid (H = K + 3) := hid (by rw [← HN2.out.h]; exact hs1)
      have HBT : Hid (w2.heap[H]? = some (.cells #[.int .i64 k0, .slice a0 zn c0, .slice ea ne ec] 76 (0, 0))) := hid (by have := HN2.out.box; rw [HTL.out, ← HTV.out] at this; exact this)
      have hct : w2.cell? ⟨H, 2, none⟩ = some (.slice ea ne ec) := by simp [World.cell?, HBT.out]
      have HF2 : Hid (w2.heap[K + 1 + 1]? = some (.cells #[.string FS] 9 (0, 0))) := hid ((HB2.out.block (K + 2) (by omega)).trans h2)
      have hcf : w2.cell? ⟨K + 1 + 1, 0, none⟩ = some (.string FS) := by simp [World.cell?, HF2.out]
      have HM2 : Hid (w2.heap[K]? = some (.cells #[.map (some g)] 52 (0, 0))) := hid ((HB2.out.block K (by omega)).trans h0)
      have HS2 : Hid (Sm G w0 w2) := hid (HS1.out.below HB2.out)
      have HP2 : Hid (Px erV 22 ⟨0, [], []⟩ w2 ea ec es) := hid (hPx.below HB2.out)
      have HPG : Hid (0 < es.length → ∀ p : Addr, ea = some p → p.block < G) := hpG
      have HEL : Hid (es.length ≤ 1000) := hel
      have hGK : Hid (w2.heap.size = H + 1 ∧ K ≤ H) := hid ⟨by rw [← HNW.out]; simp [World.setRow]; rw [HN2.out.h], by have := HH.out; omega⟩
      have FIN : Hid (itm lk (d + 1) x front = es.flatMap (itE (itm lk d) front) → PostF G w (itm lk (d + 1) x front) (.returned (.func (.func 24) #[] #[.pointer (some ⟨H, 0, none⟩), .pointer (some ⟨K, 0, none⟩), .pointer (some ⟨K + 1 + 1, 0, none⟩)])) w2) := fun h => by
        rw [h]
        have q1 := hGK.out.1
        have q2 := HH.out
        refine ⟨HB.out, 24, _, rfl, .inl rfl, iter_seq w0 g G lk d HCF.out front HFD.out.1 HFD.out.2 HGF.out es (HFO.out.ok x es HLK.out) (HFO.out.wf x es HLK.out) HEL.out w2 HS2.out H K (K + 1 + 1) k0 a0 zn c0 ea ec (by rw [HNE.out]; exact HBT.out) HM2.out (by rw [HFS.out]; exact HF2.out) HP2.out HPG.out _ (fun k hk => .inl hk) (.inr ⟨?_, ?_⟩) (.inr ⟨?_, ?_⟩) (.inr ⟨?_, ?_⟩)⟩ <;> (try rw [HK.out]) <;> omega
      clear hx hf hd hgf hs ih hF hfo hM hMn hMs hlook hl ends h0 h1 h2 hsa hsb hs1 hMx hPx hpG hel
      by_cases hem : ne = 0 ∧ front ≠ []
      · obtain ⟨h0e, hfn⟩ := hem
        subst h0e
        have HES : Hid (es = []) := hid (List.length_eq_zero_iff.1 HNE.out)
        have hfe : FS.toList.isEmpty = false := by
          rw [← HFS.out, Lib.toList_data]
          cases front with
          | nil => exact absurd rfl hfn
          | cons _ _ => rfl
        have HIT : Hid (itm lk (d + 1) x front = [(21, f0)]) := hid (by
          have hf2 : front.isEmpty = false := by cases front with
            | nil => exact absurd rfl hfn
            | cons _ _ => rfl
          rw [itm, HLK.out]
          simp only
          rw [HES.out, if_pos (by rw [hf2]; rfl)])
        have C23 : Hid (Calls Tryz.prog 23 #[.agg #[.string ⟨#[]⟩, .int .i64 0, .int .u8 0, .int .u8 0, .int .u8 0, .int .u8 0, .int .u8 0, .int .u8 0, .int .u8 0, .int .u8 0, .int .u8 0, .int .u8 0, .int .u8 0, .int .u8 0, .int .u8 0, .int .u8 0, .int .u8 0, .int .u8 0, .int .u8 0, .int .u8 0, .int .u8 0, .int .u8 0, .int .i64 0, .int .i64 0], .iface 45 (.int .i64 21)] w2 (PostF G w2 [(21, f0)])) := hid (only_any G ⟨(21, f0), .iface 45 (.int .i64 21)⟩ w2 ⟨z20_w, .inr ⟨by show (21 : Int) ≠ 0; decide, .inl rfl⟩⟩ encF_zero rfl)
        clear FIN hfn
        go_enter Tryz.func14, Tryz.ntmps14
        go_wp2_with (first | (rw [HWA.out, HWB.out, HW1.out, HK.out]; refine Hid.out ?_) | fail)
        refine hid ?_
        go_wp2_with (first
          | refine wpList_load_mid rfl 24 _ rfl (K + 1) 0 rfl X _ RX1.out Tryz.underlying24 rfl hiX ?_
          | (refine wpList_store_row rfl 76 _ _ rfl w1.heap.size TV rfl rfl 76 zr HN2.out.d I76.out E76.out O76.out ?_; rw [HNW.out, HN2.out.h]))
        refine C23.out.mono ?_
        rintro ev w4 hP
        obtain ⟨gf, lb, rfl, hP'⟩ := HEND.out _ _ _ _ HB.out hP
        clear hP
        go_wp2
        go_ret
        rw [HIT.out]
        exact hP'
      · have HIT : Hid (itm lk (d + 1) x front = es.flatMap (itE (itm lk d) front)) := hid (by
          rw [itm, HLK.out]
          simp only
          rw [if_neg ?_]
          intro h
          rw [Bool.and_eq_true] at h
          refine hem ⟨by rw [← HNE.out, List.isEmpty_iff.1 h.1]; rfl, fun e => ?_⟩
          rw [e] at h
          cases h.2)
        have HPO : Hid _ := hid (FIN.out HIT.out)
        have hgo : (ne = 0 → FS.toList.isEmpty = true) := fun h => by
          have : front = [] := by
            by_cases hf : front = []
            · exact hf
            · exact absurd ⟨h, hf⟩ hem
          rw [← HFS.out, Lib.toList_data, this]
          rfl
        clear FIN hem
        by_cases h0e : ne = 0
        · have hfe := hgo h0e
          subst h0e
          clear hgo
          go_enter Tryz.func14, Tryz.ntmps14
          go_wp2_with (first | (rw [HWA.out, HWB.out, HW1.out, HK.out]; refine Hid.out ?_) | fail)
          refine hid ?_
          go_wp2_with (first
            | refine wpList_load_mid rfl 24 _ rfl (K + 1) 0 rfl X _ RX1.out Tryz.underlying24 rfl hiX ?_
            | (refine wpList_store_row rfl 76 _ _ rfl w1.heap.size TV rfl rfl 76 zr HN2.out.d I76.out E76.out O76.out ?_; rw [HNW.out, HN2.out.h]))
          go_ret
          exact HPO.out
        · have hneb : ((ne : Int) == 0) = false := by rw [beq_eq_false_iff_ne]; omega
          clear hgo
          go_enter Tryz.func14, Tryz.ntmps14
          go_wp2_with (first | (rw [HWA.out, HWB.out, HW1.out, HK.out]; refine Hid.out ?_) | fail)
          refine hid ?_
          go_wp2_with (first
            | refine wpList_load_mid rfl 24 _ rfl (K + 1) 0 rfl X _ RX1.out Tryz.underlying24 rfl hiX ?_
            | (refine wpList_store_row rfl 76 _ _ rfl w1.heap.size TV rfl rfl 76 zr HN2.out.d I76.out E76.out O76.out ?_; rw [HNW.out, HN2.out.h]))
          go_ret
          exact HPO.out
end Go.Proofs.YtikmbjfambjmaaaGreatDoor.Gr
