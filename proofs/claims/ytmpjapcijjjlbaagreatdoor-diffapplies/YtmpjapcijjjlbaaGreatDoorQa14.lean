import Derived.Test.YtmpjapcijjjlbaaGreatDoorQa13
namespace Go.Proofs.YtmpjapcijjjlbaaGreatDoor
open Go.RowKit
set_option linter.unusedVariables false
set_option linter.unusedSimpArgs false
def putF (a : Act) (ns : List Nat) (f : Nat → Value) : Act := ns.foldl (fun a n => a.put (some n) (f n)) a
theorem merge2 {P : Program} {c rest : Code} {Q : Exit → Act → World → Prop} {act : Act} {w : World} (ns : List Nat) (R : (Nat → Value) → Prop) (h1 : c.wp P (fun e a' w' => e = .normal ∧ w' = w ∧ a' = putF act ns (fun n => a'.tmps.getD n undef) ∧ R (fun n => a'.tmps.getD n undef)) act w) (h2 : ∀ y : Nat → Value, R y → rest.wp P Q (putF act ns y) w) : (Code.seq c rest).wp P Q act w :=
  wp_seq (Code.wp_mono (by
    rintro e a' w' ⟨rfl, rfl, h, hR⟩
    show rest.wp P Q a' w'
    rw [h]
    exact h2 _ hR) h1)
theorem one5 {x y z u v : Value} (hx : x.oneCell' = true) (hy : y.oneCell' = true) (hz : z.oneCell' = true) (hu : u.oneCell' = true) (hv : v.oneCell' = true) : (#[x, y, z, u, v] : Array Value).all (·.oneCell') = true := by
  simp [hx, hy, hz, hu, hv]
theorem Tryz.results47 : Tryz.f47.results = #[.cell 4 59, .tmp 5, .tmp 6] := by kernel_rfl
theorem und57 : Tryz.prog.underlying 57 = some (.slice 61) := by kernel_rfl
theorem LB.end_ {G : Nat} {x y z u v : Value} {W : World} (h : LB G x y z u v W) : (W.setCells (G + 1) 0 [x, y, z, u, v]).rangeAt (G + 1) 0 [x, y, z, u, v] := World.rangeAt_setCells_same W (G + 1) 0 [x, y, z, u, v] h.there
structure BV (G : Nat) (x y z u v : Value) (W : World) : Prop where
  r : W.rangeAt G 0 [x, y, z, u, v]
  t : W.there (G + 1) 0 5
theorem BV.c1 {G : Nat} {x y z u v : Value} {W : World} (h : BV G x y z u v W) : W.cell? ⟨G, 1, none⟩ = some y := by simpa using h.r 1 y rfl
theorem BV.c3 {G : Nat} {x y z u v : Value} {W : World} (h : BV G x y z u v W) : W.cell? ⟨G, 3, none⟩ = some u := by simpa using h.r 3 u rfl
theorem own_box {G : Nat} {x y z u v v' : Value} {w W : World} {es : List Ed} (h : BE 61 w W G v es) (hb : LB G x y z u v' W) (k : Nat) (hk : v.ownBlock = some k) (e : k = G ∨ k = G + 1) : False := by
  obtain ⟨cur, hc⟩ := own_type h.own k hk
  rcases e with rfl | rfl
  · rw [hb.b] at hc
    simp at hc
  · rw [hb.q] at hc
    simp at hc
set_option maxRecDepth 20000 in
set_option maxHeartbeats 16000000 in
theorem lines47_any (AV TV : Value) (h1A : AV.oneCell' = true) (h1T : TV.oneCell' = true) (N M : Nat) (s0 : Str) (hl : s0.length ≤ 100000) (hN : N < 10000000000) (hM : M < 10000000000) (w : World) : Calls Tryz.prog 47 #[.agg #[AV, .int .i64 (N : Int), TV, .int .i64 (M : Int), .slice none 0 0], .string ⟨s0.toArray⟩] w (PostLi N M s0 AV (.int .i64 (N : Int)) TV (.int .i64 (M : Int)) w w.heap.size) := by
  obtain ⟨S0, HS0⟩ : ∃ Z : ByteArray, Hid (⟨s0.toArray⟩ = Z) := ⟨_, hid rfl⟩
  obtain ⟨G, HG⟩ : ∃ n, Hid (w.heap.size = n) := ⟨_, rfl⟩
  obtain ⟨wa, HWA⟩ : ∃ u, Hid (w.alloc (.cells #[AV, .int .i64 (N : Int), TV, .int .i64 (M : Int), .slice none 0 0] 59) = u) := ⟨_, rfl⟩
  obtain ⟨wb, HWB⟩ : ∃ u, Hid (wa.alloc (.cells #[.int .i64 0, .int .i64 0, .int .i64 0, .int .i64 0, .slice none 0 0] 59) = u) := ⟨_, rfl⟩
  have hsa : wa.heap.size = G + 1 := by rw [← HWA.out, ← HG.out]; simp
  have HBa : Hid (Below G w wb) := hid (by rw [← HWB.out, ← HWA.out]; exact ((Below.refl G w).alloc (by rw [HG.out]; exact Nat.le_refl _) _).alloc (by rw [HWA.out, hsa]; omega) _)
  have HLB : Hid (LB G AV (.int .i64 (N : Int)) TV (.int .i64 (M : Int)) (.slice none 0 0) wb) := hid ⟨by
    rw [← HWB.out, Below.heap_alloc wa _ G (by omega), ← HWA.out, ← HG.out]
    exact heap_alloc_new w _, by
    rw [← HWB.out, ← hsa]
    exact heap_alloc_new wa _⟩
  have HGE : Hid (∀ W, Below G w W → G ≤ W.heap.size) := hid (fun W hW => by have := hW.size; have := HG.out; omega)
  have HI0 : Hid (LnI N M s0 w wb G AV (.int .i64 (N : Int)) TV (.int .i64 (M : Int)) (.slice none 0 0) s0 0 0 false []) := hid ⟨by simp, rfl, by simp, ⟨Nat.le_refl _, Nat.le_refl _⟩, ⟨HBa.out, ⟨rfl, .inl ⟨rfl, rfl⟩⟩, HGE.out _ HBa.out⟩, HLB.out⟩
  have HL0 := hid hl
  have H1A := hid h1A
  have H1T := hid h1T
  have al1 : w.alloc (.cells #[AV, .int .i64 (N : Int), TV, .int .i64 (M : Int), .slice none 0 0] 59) = wa := HWA.out
  have al2 : wa.alloc (.cells #[.int .i64 0, .int .i64 0, .int .i64 0, .int .i64 0, .slice none 0 0] 59) = wb := HWB.out
  have hs0 : w.heap.size = G := HG.out
  rw [HS0.out, HG.out]
  clear hl h1A h1T
  go_enter Tryz.func47, Tryz.ntmps47
  go_wp2_with fail
  clear al1 al2 hs0 hsa
  go_loopg [1, 7, 8, 9] s0.length (fun gg sv nv mv cv wr => ∃ (s : Str) (S : ByteArray) (n m : Nat) (ch : Bool) (es : List Ed), sv = .string S ∧ Hid (⟨s.toArray⟩ = S) ∧ nv = .int .i64 (n : Int) ∧ mv = .int .i64 (m : Int) ∧ cv = .bool ch ∧ (∃ v, Hid (LnI N M s0 w wr G AV (.int .i64 (N : Int)) TV (.int .i64 (M : Int)) v s n m ch es)) ∧ gg = s.length)
  case atStart => exact ⟨s0, S0, 0, 0, false, [], rfl, HS0, rfl, rfl, rfl, ⟨_, HI0⟩, rfl⟩
  case round =>
    obtain ⟨s, S, n, m, ch, es, rfl, HS, rfl, rfl, rfl, ⟨v, HST⟩, hgg⟩ := hrel
    obtain ⟨wo, hwo⟩ : ∃ u, u = wr := ⟨_, rfl⟩
    subst hwo
    obtain ⟨la, lc, q, rfl, HQL⟩ : ∃ la lc q, v = .slice la q lc ∧ Hid (es.length = q) := by
      obtain ⟨a, c, e⟩ := owns_shape HST.out.row.own
      exact ⟨a, c, _, e, hid rfl⟩
    obtain ⟨l, HL⟩ : ∃ l, Hid (s.length = l) := ⟨_, rfl⟩
    rw [HL.out] at hgg
    have HEL : Hid (l + es.length ≤ 100000) := hid (by have := HST.out.le; have := HL0.out; have := HL.out; omega)
    have hl5 : l ≤ 100000 := by have := HEL.out; omega
    have hn5 : n ≤ 100000 := by have := HST.out.nm; have := HEL.out; omega
    have hm5 : m ≤ 100000 := by have := HST.out.nm; have := HEL.out; omega
    have hSs : S.size = l := by rw [← HS.out, sizeT]; exact HL.out
    have HIX : Hid (∀ (k : Nat) (h : k < S.size), S[k]'h = s.getD k 0) := hid (fun k h => by
      have := Lib.data_getElem? S k h
      rw [List.getD_eq_getElem?_getD]
      have e : S.data.toList = s := by rw [← HS.out]
      rw [e] at this
      rw [this]
      rfl)
    have q1 := HST.out.box.c1
    have q3 := HST.out.box.c3
    have HBE : Hid (Below G w (wo.setCells (G + 1) 0 [AV, .int .i64 (N : Int), TV, .int .i64 (M : Int), .slice la q lc])) := hid (below_setCells (by omega) _ _ _ _ HST.out.row.below)
    have HONE : Hid ((#[AV, .int .i64 (N : Int), TV, .int .i64 (M : Int), .slice la q lc] : Array Value).all (·.oneCell') = true) := hid (one5 H1A.out rfl H1T.out rfl rfl)
    by_cases hgo : n < N ∨ m < M
    · refine merge2 [15, 16, 17, 18, 19, 20, 21, 22, 23, 24] (fun _ => True) ?_ (fun y0 _ => ?_)
      · by_cases hn1 : n < N
        · have hni : (n : Int) < (N : Int) := by omega
          clear hgo hn1
          go_wp2_with fail
          first | exact ⟨rfl, rfl, by kernel_rfl, trivial⟩ | exact ⟨by kernel_rfl, trivial⟩ | kernel_rfl
        · have hni : ¬ (n : Int) < (N : Int) := by omega
          have hmi : (m : Int) < (M : Int) := by omega
          clear hgo hn1
          go_wp2_with fail
          first | exact ⟨rfl, rfl, by kernel_rfl, trivial⟩ | exact ⟨by kernel_rfl, trivial⟩ | kernel_rfl
      simp only [putF, List.foldl_cons, List.foldl_nil, Act.put, List.setIfInBounds_toArray, List.set_cons_zero, List.set_cons_succ]
      by_cases hl2 : l < 2
      · have hl2i : (l : Int) < 2 := by omega
        have HN1 : Hid (ln1 s = none) := hid (ln1_short s (by rw [HL.out]; exact hl2))
        clear hl2
        have HNO : Hid (∀ es r, lnX N M 0 0 s0 = some (es, r) → es.any chE = false) := hid (HST.out.none hgo HN1.out)
        clear hgo
        go_wp2_with (first
          | (refine wpList_load_mid rfl 59 _ rfl G 0 rfl [AV, .int .i64 (N : Int), TV, .int .i64 (M : Int), .slice la q lc] _ HST.out.box.range Tryz.underlying59 rfl size59 ?_)
          | (refine wpList_store_mid rfl 59 _ _ rfl (G + 1) 0 #[AV, .int .i64 (N : Int), TV, .int .i64 (M : Int), .slice la q lc] rfl rfl HST.out.box.there size59 HONE.out ?_)
          | fail)
        refine bodyPost_ret (v := .tuple #[.agg #[AV, .int .i64 (N : Int), TV, .int .i64 (M : Int), .slice la q lc], .string _, .bool false]) (results_c3 Tryz.results47 _ _ (G + 1) _ _ rfl HST.out.box.end_ Tryz.underlying59 rfl size59) rfl ?_
        exact ⟨HBE.out, .inr ⟨HNO.out, _, _, _, _, rfl⟩⟩
      · have hl2i : ¬ (l : Int) < 2 := by omega
        obtain ⟨x0, HX0⟩ : ∃ x, Hid (s.getD 0 0 = x) := ⟨_, rfl⟩
        have hx0 : ∀ h : 0 < S.size, S[0]'h = x0 := fun h => by rw [HIX.out 0 h]; exact HX0.out
        have HSN : Hid (s ≠ []) := hid (fun e => by have := HL.out; rw [e] at this; simp at this; omega)
        obtain ⟨d, hd1, hdl0, hne, hend⟩ := end_at s (by rw [HL.out]; omega)
        rw [HL.out] at hdl0 hend
        have HNE := hid hne
        clear hne
        have HNEQ : (Value.slice la q lc).ownBlock = some G → False := fun e => own_box HST.out.row HST.out.box G e (.inl rfl)
        have HNEQ1 : (Value.slice la q lc).ownBlock = some (G + 1) → False := fun e => own_box HST.out.row HST.out.box (G + 1) e (.inr rfl)
        replace HNEQ := hid HNEQ
        replace HNEQ1 := hid HNEQ1
        rcases (by omega : x0.toNat = 32 ∨ x0.toNat = 45 ∨ x0.toNat = 43 ∨ (x0.toNat ≠ 32 ∧ x0.toNat ≠ 45 ∧ x0.toNat ≠ 43)) with hk0 | hk0 | hk0 | hk0
        · have HKD : Hid (kdD (s.getD 0 0) = some 0) := hid (by rw [HX0.out, show x0 = 32 from UInt8.toNat_inj.1 (by rw [hk0]; rfl)]; rfl)
          have e32a : ((x0.toNat : Int) == 32) = true := by simp; have := hk0; omega
          have e32b : decide ((x0.toNat : Int) = 32) = true := by simp; have := hk0; omega
          have e32c : (x0.toNat : Int) = 32 := by have := hk0; omega
          clear hk0
          go_wp2_with fail
          go_loopg [11] (d - 1) (fun gg av wq => ∃ k : Nat, 1 ≤ k ∧ k ≤ d ∧ gg = d - k ∧ av = .int .i64 k ∧ wq = wo)
          case atStart => exact ⟨1, Nat.le_refl _, hd1, rfl, rfl, rfl⟩
          case round =>
            obtain ⟨k, hk1, hkd, hkk2, rfl, hwq⟩ := hrel
            subst hwq
            obtain ⟨wo, hwo⟩ : ∃ u, u = wr := ⟨_, rfl⟩
            subst hwo
            by_cases hlt : k < d
            · have hkl : (k : Int) < (l : Int) := by omega
              obtain ⟨xk, HXK⟩ : ∃ x, Hid (s.getD k 0 = x) := ⟨_, rfl⟩
              have hxk : ∀ h : k < S.size, S[k]'h = xk := fun h => by rw [HIX.out k h]; exact HXK.out
              have h10 : xk ≠ 10 := by rw [← HXK.out]; exact HNE.out k hk1 hlt
              have h10i : ¬ (xk.toNat : Int) = 10 := fun e => h10 (UInt8.toNat_inj.1 (by rw [show xk.toNat = 10 by omega]; rfl))
              have h10a : ((xk.toNat : Int) != 10) = true := by simp; omega
              have h10b : ((xk.toNat : Int) == 10) = false := by simp; omega
              clear h10
              go_wp2_with fail
              go_roundg (d - (k + 1))
              case measure => omega
              case rel => exact ⟨k + 1, by omega, by omega, rfl, by go_num, rfl⟩
            · obtain rfl : k = d := by omega
              rcases hend with ⟨hdl, hno⟩ | ⟨hdl, hat, x, r, hup, hdx, htk, hdr⟩
              · have HN1 := hid hno
                clear hno
                obtain rfl : k = l := hdl
                have hkl : ¬ (k : Int) < (k : Int) := by omega
                have hkl2 : (k : Int) ≤ (k : Int) := by omega
                have HNO : Hid (∀ es r, lnX N M 0 0 s0 = some (es, r) → es.any chE = false) := hid (HST.out.none hgo HN1.out)
                clear hgo
                go_wp2_with (first
                  | (refine wpList_load_mid rfl 59 _ rfl G 0 rfl [AV, .int .i64 (N : Int), TV, .int .i64 (M : Int), .slice la q lc] _ HST.out.box.range Tryz.underlying59 rfl size59 ?_)
                  | (refine wpList_store_mid rfl 59 _ _ rfl (G + 1) 0 #[AV, .int .i64 (N : Int), TV, .int .i64 (M : Int), .slice la q lc] rfl rfl HST.out.box.there size59 HONE.out ?_)
                  | fail)
                refine bodyPost_ret (v := .tuple #[.agg #[AV, .int .i64 (N : Int), TV, .int .i64 (M : Int), .slice la q lc], .string _, .bool false]) (results_c3 Tryz.results47 _ _ (G + 1) _ _ rfl HST.out.box.end_ Tryz.underlying59 rfl size59) rfl ?_
                exact ⟨HBE.out, .inr ⟨HNO.out, _, _, _, _, rfl⟩⟩
              · have hkl : (k : Int) < (l : Int) := by omega
                have hxk : ∀ h : k < S.size, S[k]'h = 10 := fun h => by rw [HIX.out k h]; exact hat
                have HUP := hid hup
                have HDX := hid hdx
                have HTK := hid htk
                have HDR := hid hdr
                clear hat hup hdx htk hdr hlt hkd hk1 hkk2
                obtain ⟨d, hkd⟩ : ∃ d, d = k := ⟨_, rfl⟩
                subst hkd
                obtain ⟨TX, HTX⟩ : ∃ Z : ByteArray, Hid (⟨(x ++ [10]).toArray⟩ = Z) := ⟨_, hid rfl⟩
                obtain ⟨R, HR⟩ : ∃ Z : ByteArray, Hid (⟨r.toArray⟩ = Z) := ⟨_, hid rfl⟩
                obtain ⟨XX, HXX⟩ : ∃ Z : ByteArray, Hid (⟨x.toArray⟩ = Z) := ⟨_, hid rfl⟩
                have hE1 : S.extract 1 (d + 1) = TX := by rw [← HS.out, ← HTX.out, ext_txt, ← HTK.out, show d + 1 - 1 = d by omega]
                have hE2 : S.extract (d + 1) l = R := by rw [← HS.out, ← HR.out, ext_txt, ← HDR.out, List.take_of_length_le (by rw [List.length_drop, HL.out]; omega)]
                have hTS : TX.size = d := by rw [← HTX.out, sizeT, List.length_append, HDX.out]; rfl
                have hXS : XX.size = d - 1 := by rw [← HXX.out, sizeT]; have := HDX.out; omega
                have hE3 : TX.extract 0 (d - 1) = XX := by rw [← HTX.out, ← HXX.out, ext_txt, show d - 1 - 0 = x.length by have := HDX.out; omega, List.drop_zero, List.take_left]
                have HCW : Hid (∀ W : World, Calls Tryz.prog 69 #[.string R, .string ⟨#[92, 32, 78, 111, 32, 110, 101, 119, 108, 105, 110, 101, 32, 97, 116, 32, 101, 110, 100, 32, 111, 102, 32, 102, 105, 108, 101, 10]⟩] W fun e w' => e = .returned (.tuple #[.string ⟨(wrd r noM).1.toArray⟩, .bool (wrd r noM).2]) ∧ w' = W) := hid (fun W => by rw [← HR.out]; exact word_any r noM W)
                have hdi : (1 : Int) ≤ (d : Int) := by omega
                have hdl : (d : Int) < (l : Int) := by omega
                rcases hwr : wrd r noM with ⟨r2, b⟩
                rw [hwr] at HCW
                simp only at HCW
                obtain ⟨R2, HR2⟩ : ∃ Z : ByteArray, Hid (⟨r2.toArray⟩ = Z) := ⟨_, hid rfl⟩
                rw [HR2.out] at HCW
                cases b with
                | false =>
                  have HWR := hid hwr
                  clear hwr
                  go_wp2_with fail
                  refine (HCW.out _).mono ?_
                  rintro ev w1 ⟨rfl, hw1⟩
                  subst hw1
                  obtain ⟨wo, hwo⟩ : ∃ u, u = w1 := ⟨_, rfl⟩
                  subst hwo
                  have hT0 : ¬ ((d : Int) = 0) := by omega
                  have hT0b : ((d : Int) == 0) = false := by simp; omega
                  obtain ⟨wc, HWc⟩ : ∃ u, Hid (wo.alloc (.cells #[.int .i64 0, .string TX] 61) = u) := ⟨_, rfl⟩
                  have HBEc : Hid (BE 61 w wc G (.slice la q lc) es) := hid (by rw [← HWc.out]; exact HST.out.row.alloc _)
                  have HPEc : Hid (PE wc (some ⟨wo.heap.size, 0, none⟩) 1 [(0, x ++ [10])]) := hid (by rw [← HWc.out, ← HTX.out]; exact pe_one (0, x ++ [10]) 61 wo)
                  have HBXc : Hid (LB G AV (.int .i64 (N : Int)) TV (.int .i64 (M : Int)) (.slice la q lc) wc) := hid (by rw [← HWc.out]; exact HST.out.box.below ((Below.refl _ wo).alloc (Nat.le_refl _) _))
                  have HBu : Hid (∀ W : World, (Instr.buildSlice 57 1 #[(0, .agg #[.int .i64 0, .string TX])]).run Tryz.prog W = .ok (.slice (some ⟨W.heap.size, 0, none⟩) 1 1) (W.alloc (.cells #[.int .i64 0, .string TX] 61))) := hid (fun W => run_build29 0 (.string TX) ⟨_, rfl⟩ W)
                  have HLN : Hid (ln1 s = some ((0, x ++ [10]), r)) := hid (ln1_not s 0 x r r2 HSN.out HKD.out HUP.out HWR.out)
                  have hc4 := HST.out.box.c4
                  cases ch with
                  | false =>
                    go_wp2_with (first
                      | (refine wpList_bS rfl 57 1 _ rfl (.agg #[.int .i64 0, .string TX]) _ rfl (HBu.out _) ?_; rw [HWc.out])
                      | (refine wpList_bx_sl (d := (0, [])) rfl _ _ 57 61 und57 Tryz.info61 rfl (by decide) (by decide) encE_one rfl G _ es rfl HBEc.out (some ⟨wo.heap.size, 0, none⟩) 1 [(0, x ++ [10])] rfl HPEc.out (fun x _ => encE_len x) (by have := HEL.out; simp; omega) ?_
                         intro v9 w9 hb9 hg9
                         obtain ⟨a9, c9, n9, e9⟩ : ∃ a c n, v9 = .slice a n c := by obtain ⟨a, c, e⟩ := owns_shape hb9.own; exact ⟨a, c, _, e⟩
                         subst e9
                         have HB9 := hid hb9
                         have HX9 : Hid (LB G AV (.int .i64 (N : Int)) TV (.int .i64 (M : Int)) (.slice la q lc) w9) := hid (HBXc.out.kept hg9 (fun e => HNEQ.out e) (fun e => HNEQ1.out e))
                         have k4 := HX9.out.c4
                         have kf := HX9.out.f4
                         obtain ⟨w10, HW10⟩ : ∃ u, Hid (w9.setCell ⟨G, 4, none⟩ (.slice a9 n9 c9) = u) := ⟨_, rfl⟩
                         have kw := HW10.out
                         clear hb9 hg9)
                      | fail)
                    have HB10 : Hid (BE 61 w w10 G (.slice a9 n9 c9) (es ++ [(0, x ++ [10])])) := hid (by
                      rw [← HW10.out]
                      exact HB9.out.change (fun k hk e => own_box HB9.out HX9.out k hk (.inl e)) (Nat.le_refl _) (HX9.out.set4 (.slice a9 n9 c9)).2)
                    have HX10 : Hid (LB G AV (.int .i64 (N : Int)) TV (.int .i64 (M : Int)) (.slice a9 n9 c9) w10) := hid (by rw [← HW10.out]; exact (HX9.out.set4 (.slice a9 n9 c9)).1)
                    go_roundg r.length
                    case measure => have := ln1_less HLN.out; have := HL.out; omega
                    case rel => exact ⟨r, R, n + 1, m + 1, false, es ++ [(0, x ++ [10])], by first | rfl | go_num, HR, by first | rfl | go_num, by first | rfl | go_num, rfl, ⟨_, hid (HST.out.next hgo _ _ HLN.out HB10.out HX10.out _ _ _ rfl rfl rfl)⟩, rfl⟩
                  | true =>
                    go_wp2_with (first
                      | (refine wpList_bS rfl 57 1 _ rfl (.agg #[.int .i64 0, .string TX]) _ rfl (HBu.out _) ?_; rw [HWc.out])
                      | (refine wpList_bx_sl (d := (0, [])) rfl _ _ 57 61 und57 Tryz.info61 rfl (by decide) (by decide) encE_one rfl G _ es rfl HBEc.out (some ⟨wo.heap.size, 0, none⟩) 1 [(0, x ++ [10])] rfl HPEc.out (fun x _ => encE_len x) (by have := HEL.out; simp; omega) ?_
                         intro v9 w9 hb9 hg9
                         obtain ⟨a9, c9, n9, e9⟩ : ∃ a c n, v9 = .slice a n c := by obtain ⟨a, c, e⟩ := owns_shape hb9.own; exact ⟨a, c, _, e⟩
                         subst e9
                         have HB9 := hid hb9
                         have HX9 : Hid (LB G AV (.int .i64 (N : Int)) TV (.int .i64 (M : Int)) (.slice la q lc) w9) := hid (HBXc.out.kept hg9 (fun e => HNEQ.out e) (fun e => HNEQ1.out e))
                         have k4 := HX9.out.c4
                         have kf := HX9.out.f4
                         obtain ⟨w10, HW10⟩ : ∃ u, Hid (w9.setCell ⟨G, 4, none⟩ (.slice a9 n9 c9) = u) := ⟨_, rfl⟩
                         have kw := HW10.out
                         clear hb9 hg9)
                      | fail)
                    have HB10 : Hid (BE 61 w w10 G (.slice a9 n9 c9) (es ++ [(0, x ++ [10])])) := hid (by
                      rw [← HW10.out]
                      exact HB9.out.change (fun k hk e => own_box HB9.out HX9.out k hk (.inl e)) (Nat.le_refl _) (HX9.out.set4 (.slice a9 n9 c9)).2)
                    have HX10 : Hid (LB G AV (.int .i64 (N : Int)) TV (.int .i64 (M : Int)) (.slice a9 n9 c9) w10) := hid (by rw [← HW10.out]; exact (HX9.out.set4 (.slice a9 n9 c9)).1)
                    go_roundg r.length
                    case measure => have := ln1_less HLN.out; have := HL.out; omega
                    case rel => exact ⟨r, R, n + 1, m + 1, true, es ++ [(0, x ++ [10])], by first | rfl | go_num, HR, by first | rfl | go_num, by first | rfl | go_num, rfl, ⟨_, hid (HST.out.next hgo _ _ HLN.out HB10.out HX10.out _ _ _ rfl rfl rfl)⟩, rfl⟩
                | true =>
                  have HWR := hid hwr
                  clear hwr
                  by_cases hx0 : x = []
                  · have hd1 : d = 1 := by rw [HDX.out, hx0]; rfl
                    have HN1 : Hid (ln1 s = none) := hid (by rw [ln1_yes s 0 x r r2 HSN.out HKD.out HUP.out HWR.out, if_pos hx0])
                    have hdI : (d : Int) - 1 = 0 := by omega
                    have hXS0 : XX.size = 0 := by omega
                    have hE4 : TX.extract 0 0 = XX := by rw [← hE3, hd1]
                    subst hd1
                    clear hx0
                    go_wp2_with fail
                    refine (HCW.out _).mono ?_
                    rintro ev w1 ⟨rfl, hw1⟩
                    subst hw1
                    obtain ⟨wo, hwo⟩ : ∃ u, u = w1 := ⟨_, rfl⟩
                    subst hwo
                    have HNO : Hid (∀ es r, lnX N M 0 0 s0 = some (es, r) → es.any chE = false) := hid (HST.out.none hgo HN1.out)
                    clear hgo
                    go_wp2_with (first
                      | (refine wpList_load_mid rfl 59 _ rfl G 0 rfl [AV, .int .i64 (N : Int), TV, .int .i64 (M : Int), .slice la q lc] _ HST.out.box.range Tryz.underlying59 rfl size59 ?_)
                      | (refine wpList_store_mid rfl 59 _ _ rfl (G + 1) 0 #[AV, .int .i64 (N : Int), TV, .int .i64 (M : Int), .slice la q lc] rfl rfl HST.out.box.there size59 HONE.out ?_)
                      | fail)
                    refine bodyPost_ret (v := .tuple #[.agg #[AV, .int .i64 (N : Int), TV, .int .i64 (M : Int), .slice la q lc], .string _, .bool false]) (results_c3 Tryz.results47 _ _ (G + 1) _ _ rfl HST.out.box.end_ Tryz.underlying59 rfl size59) rfl ?_
                    exact ⟨HBE.out, .inr ⟨HNO.out, _, _, _, _, rfl⟩⟩
                  · have hd1 : 2 ≤ d := by have := HDX.out; have := List.length_pos_iff.2 hx0; omega
                    have HX0 := hid hx0
                    obtain ⟨d1, HD1⟩ : ∃ k, Hid (d = k + 1) := ⟨d - 1, hid (by omega)⟩
                    have hdI : (d : Int) - 1 = (d1 : Int) := by have := HD1.out; omega
                    have hE4 : TX.extract 0 d1 = XX := by rw [← hE3]; congr 1; have := HD1.out; omega
                    have hXS1 : XX.size = d1 := by have := HD1.out; omega
                    have hT0 : ¬ ((d1 : Int) = 0) := by have := HD1.out; omega
                    have hT0b : ((d1 : Int) == 0) = false := by have := HD1.out; simp; omega
                    have hd1i : (0 : Int) ≤ (d1 : Int) := by omega
                    have hd1d : (d1 : Int) ≤ (d : Int) := by have := HD1.out; omega
                    clear hx0
                    go_wp2_with fail
                    refine (HCW.out _).mono ?_
                    rintro ev w1 ⟨rfl, hw1⟩
                    subst hw1
                    obtain ⟨wo, hwo⟩ : ∃ u, u = w1 := ⟨_, rfl⟩
                    subst hwo
                    obtain ⟨wc, HWc⟩ : ∃ u, Hid (wo.alloc (.cells #[.int .i64 0, .string XX] 61) = u) := ⟨_, rfl⟩
                    have HBEc : Hid (BE 61 w wc G (.slice la q lc) es) := hid (by rw [← HWc.out]; exact HST.out.row.alloc _)
                    have HPEc : Hid (PE wc (some ⟨wo.heap.size, 0, none⟩) 1 [(0, x)]) := hid (by rw [← HWc.out, ← HXX.out]; exact pe_one (0, x) 61 wo)
                    have HBXc : Hid (LB G AV (.int .i64 (N : Int)) TV (.int .i64 (M : Int)) (.slice la q lc) wc) := hid (by rw [← HWc.out]; exact HST.out.box.below ((Below.refl _ wo).alloc (Nat.le_refl _) _))
                    have HBu : Hid (∀ W : World, (Instr.buildSlice 57 1 #[(0, .agg #[.int .i64 0, .string XX])]).run Tryz.prog W = .ok (.slice (some ⟨W.heap.size, 0, none⟩) 1 1) (W.alloc (.cells #[.int .i64 0, .string XX] 61))) := hid (fun W => run_build29 0 (.string XX) ⟨_, rfl⟩ W)
                    have HLN : Hid (ln1 s = some ((0, x), r2)) := hid (by rw [ln1_yes s 0 x r r2 HSN.out HKD.out HUP.out HWR.out, if_neg HX0.out])
                    have hc4 := HST.out.box.c4
                    cases ch with
                    | false =>
                      go_wp2_with (first
                        | (refine wpList_bS rfl 57 1 _ rfl (.agg #[.int .i64 0, .string XX]) _ rfl (HBu.out _) ?_; rw [HWc.out])
                        | (refine wpList_bx_sl (d := (0, [])) rfl _ _ 57 61 und57 Tryz.info61 rfl (by decide) (by decide) encE_one rfl G _ es rfl HBEc.out (some ⟨wo.heap.size, 0, none⟩) 1 [(0, x)] rfl HPEc.out (fun x _ => encE_len x) (by have := HEL.out; simp; omega) ?_
                           intro v9 w9 hb9 hg9
                           obtain ⟨a9, c9, n9, e9⟩ : ∃ a c n, v9 = .slice a n c := by obtain ⟨a, c, e⟩ := owns_shape hb9.own; exact ⟨a, c, _, e⟩
                           subst e9
                           have HB9 := hid hb9
                           have HX9 : Hid (LB G AV (.int .i64 (N : Int)) TV (.int .i64 (M : Int)) (.slice la q lc) w9) := hid (HBXc.out.kept hg9 (fun e => HNEQ.out e) (fun e => HNEQ1.out e))
                           have k4 := HX9.out.c4
                           have kf := HX9.out.f4
                           obtain ⟨w10, HW10⟩ : ∃ u, Hid (w9.setCell ⟨G, 4, none⟩ (.slice a9 n9 c9) = u) := ⟨_, rfl⟩
                           have kw := HW10.out
                           clear hb9 hg9)
                        | fail)
                      have HB10 : Hid (BE 61 w w10 G (.slice a9 n9 c9) (es ++ [(0, x)])) := hid (by
                        rw [← HW10.out]
                        exact HB9.out.change (fun k hk e => own_box HB9.out HX9.out k hk (.inl e)) (Nat.le_refl _) (HX9.out.set4 (.slice a9 n9 c9)).2)
                      have HX10 : Hid (LB G AV (.int .i64 (N : Int)) TV (.int .i64 (M : Int)) (.slice a9 n9 c9) w10) := hid (by rw [← HW10.out]; exact (HX9.out.set4 (.slice a9 n9 c9)).1)
                      go_roundg r2.length
                      case measure => have := ln1_less HLN.out; have := HL.out; omega
                      case rel => exact ⟨r2, R2, n + 1, m + 1, false, es ++ [(0, x)], by first | rfl | go_num, HR2, by first | rfl | go_num, by first | rfl | go_num, rfl, ⟨_, hid (HST.out.next hgo _ _ HLN.out HB10.out HX10.out _ _ _ rfl rfl rfl)⟩, rfl⟩
                    | true =>
                      go_wp2_with (first
                        | (refine wpList_bS rfl 57 1 _ rfl (.agg #[.int .i64 0, .string XX]) _ rfl (HBu.out _) ?_; rw [HWc.out])
                        | (refine wpList_bx_sl (d := (0, [])) rfl _ _ 57 61 und57 Tryz.info61 rfl (by decide) (by decide) encE_one rfl G _ es rfl HBEc.out (some ⟨wo.heap.size, 0, none⟩) 1 [(0, x)] rfl HPEc.out (fun x _ => encE_len x) (by have := HEL.out; simp; omega) ?_
                           intro v9 w9 hb9 hg9
                           obtain ⟨a9, c9, n9, e9⟩ : ∃ a c n, v9 = .slice a n c := by obtain ⟨a, c, e⟩ := owns_shape hb9.own; exact ⟨a, c, _, e⟩
                           subst e9
                           have HB9 := hid hb9
                           have HX9 : Hid (LB G AV (.int .i64 (N : Int)) TV (.int .i64 (M : Int)) (.slice la q lc) w9) := hid (HBXc.out.kept hg9 (fun e => HNEQ.out e) (fun e => HNEQ1.out e))
                           have k4 := HX9.out.c4
                           have kf := HX9.out.f4
                           obtain ⟨w10, HW10⟩ : ∃ u, Hid (w9.setCell ⟨G, 4, none⟩ (.slice a9 n9 c9) = u) := ⟨_, rfl⟩
                           have kw := HW10.out
                           clear hb9 hg9)
                        | fail)
                      have HB10 : Hid (BE 61 w w10 G (.slice a9 n9 c9) (es ++ [(0, x)])) := hid (by
                        rw [← HW10.out]
                        exact HB9.out.change (fun k hk e => own_box HB9.out HX9.out k hk (.inl e)) (Nat.le_refl _) (HX9.out.set4 (.slice a9 n9 c9)).2)
                      have HX10 : Hid (LB G AV (.int .i64 (N : Int)) TV (.int .i64 (M : Int)) (.slice a9 n9 c9) w10) := hid (by rw [← HW10.out]; exact (HX9.out.set4 (.slice a9 n9 c9)).1)
                      go_roundg r2.length
                      case measure => have := ln1_less HLN.out; have := HL.out; omega
                      case rel => exact ⟨r2, R2, n + 1, m + 1, true, es ++ [(0, x)], by first | rfl | go_num, HR2, by first | rfl | go_num, by first | rfl | go_num, rfl, ⟨_, hid (HST.out.next hgo _ _ HLN.out HB10.out HX10.out _ _ _ rfl rfl rfl)⟩, rfl⟩
        · have HKD : Hid (kdD (s.getD 0 0) = some 1) := hid (by rw [HX0.out, show x0 = 45 from UInt8.toNat_inj.1 (by rw [hk0]; rfl)]; rfl)
          have e32a : ((x0.toNat : Int) == 32) = false := by simp; have := hk0; omega
          have e32b : decide ((x0.toNat : Int) = 32) = false := by simp; have := hk0; omega
          have e32c : ¬ (x0.toNat : Int) = 32 := by have := hk0; omega
          have e45a : ((x0.toNat : Int) == 45) = true := by simp; have := hk0; omega
          have e45b : decide ((x0.toNat : Int) = 45) = true := by simp; have := hk0; omega
          have e45c : (x0.toNat : Int) = 45 := by have := hk0; omega
          clear hk0
          go_wp2_with fail
          go_loopg [11] (d - 1) (fun gg av wq => ∃ k : Nat, 1 ≤ k ∧ k ≤ d ∧ gg = d - k ∧ av = .int .i64 k ∧ wq = wo)
          case atStart => exact ⟨1, Nat.le_refl _, hd1, rfl, rfl, rfl⟩
          case round =>
            obtain ⟨k, hk1, hkd, hkk2, rfl, hwq⟩ := hrel
            subst hwq
            obtain ⟨wo, hwo⟩ : ∃ u, u = wr := ⟨_, rfl⟩
            subst hwo
            by_cases hlt : k < d
            · have hkl : (k : Int) < (l : Int) := by omega
              obtain ⟨xk, HXK⟩ : ∃ x, Hid (s.getD k 0 = x) := ⟨_, rfl⟩
              have hxk : ∀ h : k < S.size, S[k]'h = xk := fun h => by rw [HIX.out k h]; exact HXK.out
              have h10 : xk ≠ 10 := by rw [← HXK.out]; exact HNE.out k hk1 hlt
              have h10i : ¬ (xk.toNat : Int) = 10 := fun e => h10 (UInt8.toNat_inj.1 (by rw [show xk.toNat = 10 by omega]; rfl))
              have h10a : ((xk.toNat : Int) != 10) = true := by simp; omega
              have h10b : ((xk.toNat : Int) == 10) = false := by simp; omega
              clear h10
              go_wp2_with fail
              go_roundg (d - (k + 1))
              case measure => omega
              case rel => exact ⟨k + 1, by omega, by omega, rfl, by go_num, rfl⟩
            · obtain rfl : k = d := by omega
              rcases hend with ⟨hdl, hno⟩ | ⟨hdl, hat, x, r, hup, hdx, htk, hdr⟩
              · have HN1 := hid hno
                clear hno
                obtain rfl : k = l := hdl
                have hkl : ¬ (k : Int) < (k : Int) := by omega
                have hkl2 : (k : Int) ≤ (k : Int) := by omega
                have HNO : Hid (∀ es r, lnX N M 0 0 s0 = some (es, r) → es.any chE = false) := hid (HST.out.none hgo HN1.out)
                clear hgo
                go_wp2_with (first
                  | (refine wpList_load_mid rfl 59 _ rfl G 0 rfl [AV, .int .i64 (N : Int), TV, .int .i64 (M : Int), .slice la q lc] _ HST.out.box.range Tryz.underlying59 rfl size59 ?_)
                  | (refine wpList_store_mid rfl 59 _ _ rfl (G + 1) 0 #[AV, .int .i64 (N : Int), TV, .int .i64 (M : Int), .slice la q lc] rfl rfl HST.out.box.there size59 HONE.out ?_)
                  | fail)
                refine bodyPost_ret (v := .tuple #[.agg #[AV, .int .i64 (N : Int), TV, .int .i64 (M : Int), .slice la q lc], .string _, .bool false]) (results_c3 Tryz.results47 _ _ (G + 1) _ _ rfl HST.out.box.end_ Tryz.underlying59 rfl size59) rfl ?_
                exact ⟨HBE.out, .inr ⟨HNO.out, _, _, _, _, rfl⟩⟩
              · have hkl : (k : Int) < (l : Int) := by omega
                have hxk : ∀ h : k < S.size, S[k]'h = 10 := fun h => by rw [HIX.out k h]; exact hat
                have HUP := hid hup
                have HDX := hid hdx
                have HTK := hid htk
                have HDR := hid hdr
                clear hat hup hdx htk hdr hlt hkd hk1 hkk2
                obtain ⟨d, hkd⟩ : ∃ d, d = k := ⟨_, rfl⟩
                subst hkd
                obtain ⟨TX, HTX⟩ : ∃ Z : ByteArray, Hid (⟨(x ++ [10]).toArray⟩ = Z) := ⟨_, hid rfl⟩
                obtain ⟨R, HR⟩ : ∃ Z : ByteArray, Hid (⟨r.toArray⟩ = Z) := ⟨_, hid rfl⟩
                obtain ⟨XX, HXX⟩ : ∃ Z : ByteArray, Hid (⟨x.toArray⟩ = Z) := ⟨_, hid rfl⟩
                have hE1 : S.extract 1 (d + 1) = TX := by rw [← HS.out, ← HTX.out, ext_txt, ← HTK.out, show d + 1 - 1 = d by omega]
                have hE2 : S.extract (d + 1) l = R := by rw [← HS.out, ← HR.out, ext_txt, ← HDR.out, List.take_of_length_le (by rw [List.length_drop, HL.out]; omega)]
                have hTS : TX.size = d := by rw [← HTX.out, sizeT, List.length_append, HDX.out]; rfl
                have hXS : XX.size = d - 1 := by rw [← HXX.out, sizeT]; have := HDX.out; omega
                have hE3 : TX.extract 0 (d - 1) = XX := by rw [← HTX.out, ← HXX.out, ext_txt, show d - 1 - 0 = x.length by have := HDX.out; omega, List.drop_zero, List.take_left]
                have HCW : Hid (∀ W : World, Calls Tryz.prog 69 #[.string R, .string ⟨#[92, 32, 78, 111, 32, 110, 101, 119, 108, 105, 110, 101, 32, 97, 116, 32, 101, 110, 100, 32, 111, 102, 32, 102, 105, 108, 101, 10]⟩] W fun e w' => e = .returned (.tuple #[.string ⟨(wrd r noM).1.toArray⟩, .bool (wrd r noM).2]) ∧ w' = W) := hid (fun W => by rw [← HR.out]; exact word_any r noM W)
                have hdi : (1 : Int) ≤ (d : Int) := by omega
                have hdl : (d : Int) < (l : Int) := by omega
                rcases hwr : wrd r noM with ⟨r2, b⟩
                rw [hwr] at HCW
                simp only at HCW
                obtain ⟨R2, HR2⟩ : ∃ Z : ByteArray, Hid (⟨r2.toArray⟩ = Z) := ⟨_, hid rfl⟩
                rw [HR2.out] at HCW
                cases b with
                | false =>
                  have HWR := hid hwr
                  clear hwr
                  go_wp2_with fail
                  refine (HCW.out _).mono ?_
                  rintro ev w1 ⟨rfl, hw1⟩
                  subst hw1
                  obtain ⟨wo, hwo⟩ : ∃ u, u = w1 := ⟨_, rfl⟩
                  subst hwo
                  have hT0 : ¬ ((d : Int) = 0) := by omega
                  have hT0b : ((d : Int) == 0) = false := by simp; omega
                  obtain ⟨wc, HWc⟩ : ∃ u, Hid (wo.alloc (.cells #[.int .i64 1, .string TX] 61) = u) := ⟨_, rfl⟩
                  have HBEc : Hid (BE 61 w wc G (.slice la q lc) es) := hid (by rw [← HWc.out]; exact HST.out.row.alloc _)
                  have HPEc : Hid (PE wc (some ⟨wo.heap.size, 0, none⟩) 1 [(1, x ++ [10])]) := hid (by rw [← HWc.out, ← HTX.out]; exact pe_one (1, x ++ [10]) 61 wo)
                  have HBXc : Hid (LB G AV (.int .i64 (N : Int)) TV (.int .i64 (M : Int)) (.slice la q lc) wc) := hid (by rw [← HWc.out]; exact HST.out.box.below ((Below.refl _ wo).alloc (Nat.le_refl _) _))
                  have HBu : Hid (∀ W : World, (Instr.buildSlice 57 1 #[(0, .agg #[.int .i64 1, .string TX])]).run Tryz.prog W = .ok (.slice (some ⟨W.heap.size, 0, none⟩) 1 1) (W.alloc (.cells #[.int .i64 1, .string TX] 61))) := hid (fun W => run_build29 1 (.string TX) ⟨_, rfl⟩ W)
                  have HLN : Hid (ln1 s = some ((1, x ++ [10]), r)) := hid (ln1_not s 1 x r r2 HSN.out HKD.out HUP.out HWR.out)
                  have hc4 := HST.out.box.c4
                  cases ch with
                  | false =>
                    go_wp2_with (first
                      | (refine wpList_bS rfl 57 1 _ rfl (.agg #[.int .i64 1, .string TX]) _ rfl (HBu.out _) ?_; rw [HWc.out])
                      | (refine wpList_bx_sl (d := (0, [])) rfl _ _ 57 61 und57 Tryz.info61 rfl (by decide) (by decide) encE_one rfl G _ es rfl HBEc.out (some ⟨wo.heap.size, 0, none⟩) 1 [(1, x ++ [10])] rfl HPEc.out (fun x _ => encE_len x) (by have := HEL.out; simp; omega) ?_
                         intro v9 w9 hb9 hg9
                         obtain ⟨a9, c9, n9, e9⟩ : ∃ a c n, v9 = .slice a n c := by obtain ⟨a, c, e⟩ := owns_shape hb9.own; exact ⟨a, c, _, e⟩
                         subst e9
                         have HB9 := hid hb9
                         have HX9 : Hid (LB G AV (.int .i64 (N : Int)) TV (.int .i64 (M : Int)) (.slice la q lc) w9) := hid (HBXc.out.kept hg9 (fun e => HNEQ.out e) (fun e => HNEQ1.out e))
                         have k4 := HX9.out.c4
                         have kf := HX9.out.f4
                         obtain ⟨w10, HW10⟩ : ∃ u, Hid (w9.setCell ⟨G, 4, none⟩ (.slice a9 n9 c9) = u) := ⟨_, rfl⟩
                         have kw := HW10.out
                         clear hb9 hg9)
                      | fail)
                    have HB10 : Hid (BE 61 w w10 G (.slice a9 n9 c9) (es ++ [(1, x ++ [10])])) := hid (by
                      rw [← HW10.out]
                      exact HB9.out.change (fun k hk e => own_box HB9.out HX9.out k hk (.inl e)) (Nat.le_refl _) (HX9.out.set4 (.slice a9 n9 c9)).2)
                    have HX10 : Hid (LB G AV (.int .i64 (N : Int)) TV (.int .i64 (M : Int)) (.slice a9 n9 c9) w10) := hid (by rw [← HW10.out]; exact (HX9.out.set4 (.slice a9 n9 c9)).1)
                    go_roundg r.length
                    case measure => have := ln1_less HLN.out; have := HL.out; omega
                    case rel => exact ⟨r, R, n + 1, m, true, es ++ [(1, x ++ [10])], by first | rfl | go_num, HR, by first | rfl | go_num, by first | rfl | go_num, rfl, ⟨_, hid (HST.out.next hgo _ _ HLN.out HB10.out HX10.out _ _ _ rfl rfl rfl)⟩, rfl⟩
                  | true =>
                    go_wp2_with (first
                      | (refine wpList_bS rfl 57 1 _ rfl (.agg #[.int .i64 1, .string TX]) _ rfl (HBu.out _) ?_; rw [HWc.out])
                      | (refine wpList_bx_sl (d := (0, [])) rfl _ _ 57 61 und57 Tryz.info61 rfl (by decide) (by decide) encE_one rfl G _ es rfl HBEc.out (some ⟨wo.heap.size, 0, none⟩) 1 [(1, x ++ [10])] rfl HPEc.out (fun x _ => encE_len x) (by have := HEL.out; simp; omega) ?_
                         intro v9 w9 hb9 hg9
                         obtain ⟨a9, c9, n9, e9⟩ : ∃ a c n, v9 = .slice a n c := by obtain ⟨a, c, e⟩ := owns_shape hb9.own; exact ⟨a, c, _, e⟩
                         subst e9
                         have HB9 := hid hb9
                         have HX9 : Hid (LB G AV (.int .i64 (N : Int)) TV (.int .i64 (M : Int)) (.slice la q lc) w9) := hid (HBXc.out.kept hg9 (fun e => HNEQ.out e) (fun e => HNEQ1.out e))
                         have k4 := HX9.out.c4
                         have kf := HX9.out.f4
                         obtain ⟨w10, HW10⟩ : ∃ u, Hid (w9.setCell ⟨G, 4, none⟩ (.slice a9 n9 c9) = u) := ⟨_, rfl⟩
                         have kw := HW10.out
                         clear hb9 hg9)
                      | fail)
                    have HB10 : Hid (BE 61 w w10 G (.slice a9 n9 c9) (es ++ [(1, x ++ [10])])) := hid (by
                      rw [← HW10.out]
                      exact HB9.out.change (fun k hk e => own_box HB9.out HX9.out k hk (.inl e)) (Nat.le_refl _) (HX9.out.set4 (.slice a9 n9 c9)).2)
                    have HX10 : Hid (LB G AV (.int .i64 (N : Int)) TV (.int .i64 (M : Int)) (.slice a9 n9 c9) w10) := hid (by rw [← HW10.out]; exact (HX9.out.set4 (.slice a9 n9 c9)).1)
                    go_roundg r.length
                    case measure => have := ln1_less HLN.out; have := HL.out; omega
                    case rel => exact ⟨r, R, n + 1, m, true, es ++ [(1, x ++ [10])], by first | rfl | go_num, HR, by first | rfl | go_num, by first | rfl | go_num, rfl, ⟨_, hid (HST.out.next hgo _ _ HLN.out HB10.out HX10.out _ _ _ rfl rfl rfl)⟩, rfl⟩
                | true =>
                  have HWR := hid hwr
                  clear hwr
                  by_cases hx0 : x = []
                  · have hd1 : d = 1 := by rw [HDX.out, hx0]; rfl
                    have HN1 : Hid (ln1 s = none) := hid (by rw [ln1_yes s 1 x r r2 HSN.out HKD.out HUP.out HWR.out, if_pos hx0])
                    have hdI : (d : Int) - 1 = 0 := by omega
                    have hXS0 : XX.size = 0 := by omega
                    have hE4 : TX.extract 0 0 = XX := by rw [← hE3, hd1]
                    subst hd1
                    clear hx0
                    go_wp2_with fail
                    refine (HCW.out _).mono ?_
                    rintro ev w1 ⟨rfl, hw1⟩
                    subst hw1
                    obtain ⟨wo, hwo⟩ : ∃ u, u = w1 := ⟨_, rfl⟩
                    subst hwo
                    have HNO : Hid (∀ es r, lnX N M 0 0 s0 = some (es, r) → es.any chE = false) := hid (HST.out.none hgo HN1.out)
                    clear hgo
                    go_wp2_with (first
                      | (refine wpList_load_mid rfl 59 _ rfl G 0 rfl [AV, .int .i64 (N : Int), TV, .int .i64 (M : Int), .slice la q lc] _ HST.out.box.range Tryz.underlying59 rfl size59 ?_)
                      | (refine wpList_store_mid rfl 59 _ _ rfl (G + 1) 0 #[AV, .int .i64 (N : Int), TV, .int .i64 (M : Int), .slice la q lc] rfl rfl HST.out.box.there size59 HONE.out ?_)
                      | fail)
                    refine bodyPost_ret (v := .tuple #[.agg #[AV, .int .i64 (N : Int), TV, .int .i64 (M : Int), .slice la q lc], .string _, .bool false]) (results_c3 Tryz.results47 _ _ (G + 1) _ _ rfl HST.out.box.end_ Tryz.underlying59 rfl size59) rfl ?_
                    exact ⟨HBE.out, .inr ⟨HNO.out, _, _, _, _, rfl⟩⟩
                  · have hd1 : 2 ≤ d := by have := HDX.out; have := List.length_pos_iff.2 hx0; omega
                    have HX0 := hid hx0
                    obtain ⟨d1, HD1⟩ : ∃ k, Hid (d = k + 1) := ⟨d - 1, hid (by omega)⟩
                    have hdI : (d : Int) - 1 = (d1 : Int) := by have := HD1.out; omega
                    have hE4 : TX.extract 0 d1 = XX := by rw [← hE3]; congr 1; have := HD1.out; omega
                    have hXS1 : XX.size = d1 := by have := HD1.out; omega
                    have hT0 : ¬ ((d1 : Int) = 0) := by have := HD1.out; omega
                    have hT0b : ((d1 : Int) == 0) = false := by have := HD1.out; simp; omega
                    have hd1i : (0 : Int) ≤ (d1 : Int) := by omega
                    have hd1d : (d1 : Int) ≤ (d : Int) := by have := HD1.out; omega
                    clear hx0
                    go_wp2_with fail
                    refine (HCW.out _).mono ?_
                    rintro ev w1 ⟨rfl, hw1⟩
                    subst hw1
                    obtain ⟨wo, hwo⟩ : ∃ u, u = w1 := ⟨_, rfl⟩
                    subst hwo
                    obtain ⟨wc, HWc⟩ : ∃ u, Hid (wo.alloc (.cells #[.int .i64 1, .string XX] 61) = u) := ⟨_, rfl⟩
                    have HBEc : Hid (BE 61 w wc G (.slice la q lc) es) := hid (by rw [← HWc.out]; exact HST.out.row.alloc _)
                    have HPEc : Hid (PE wc (some ⟨wo.heap.size, 0, none⟩) 1 [(1, x)]) := hid (by rw [← HWc.out, ← HXX.out]; exact pe_one (1, x) 61 wo)
                    have HBXc : Hid (LB G AV (.int .i64 (N : Int)) TV (.int .i64 (M : Int)) (.slice la q lc) wc) := hid (by rw [← HWc.out]; exact HST.out.box.below ((Below.refl _ wo).alloc (Nat.le_refl _) _))
                    have HBu : Hid (∀ W : World, (Instr.buildSlice 57 1 #[(0, .agg #[.int .i64 1, .string XX])]).run Tryz.prog W = .ok (.slice (some ⟨W.heap.size, 0, none⟩) 1 1) (W.alloc (.cells #[.int .i64 1, .string XX] 61))) := hid (fun W => run_build29 1 (.string XX) ⟨_, rfl⟩ W)
                    have HLN : Hid (ln1 s = some ((1, x), r2)) := hid (by rw [ln1_yes s 1 x r r2 HSN.out HKD.out HUP.out HWR.out, if_neg HX0.out])
                    have hc4 := HST.out.box.c4
                    cases ch with
                    | false =>
                      go_wp2_with (first
                        | (refine wpList_bS rfl 57 1 _ rfl (.agg #[.int .i64 1, .string XX]) _ rfl (HBu.out _) ?_; rw [HWc.out])
                        | (refine wpList_bx_sl (d := (0, [])) rfl _ _ 57 61 und57 Tryz.info61 rfl (by decide) (by decide) encE_one rfl G _ es rfl HBEc.out (some ⟨wo.heap.size, 0, none⟩) 1 [(1, x)] rfl HPEc.out (fun x _ => encE_len x) (by have := HEL.out; simp; omega) ?_
                           intro v9 w9 hb9 hg9
                           obtain ⟨a9, c9, n9, e9⟩ : ∃ a c n, v9 = .slice a n c := by obtain ⟨a, c, e⟩ := owns_shape hb9.own; exact ⟨a, c, _, e⟩
                           subst e9
                           have HB9 := hid hb9
                           have HX9 : Hid (LB G AV (.int .i64 (N : Int)) TV (.int .i64 (M : Int)) (.slice la q lc) w9) := hid (HBXc.out.kept hg9 (fun e => HNEQ.out e) (fun e => HNEQ1.out e))
                           have k4 := HX9.out.c4
                           have kf := HX9.out.f4
                           obtain ⟨w10, HW10⟩ : ∃ u, Hid (w9.setCell ⟨G, 4, none⟩ (.slice a9 n9 c9) = u) := ⟨_, rfl⟩
                           have kw := HW10.out
                           clear hb9 hg9)
                        | fail)
                      have HB10 : Hid (BE 61 w w10 G (.slice a9 n9 c9) (es ++ [(1, x)])) := hid (by
                        rw [← HW10.out]
                        exact HB9.out.change (fun k hk e => own_box HB9.out HX9.out k hk (.inl e)) (Nat.le_refl _) (HX9.out.set4 (.slice a9 n9 c9)).2)
                      have HX10 : Hid (LB G AV (.int .i64 (N : Int)) TV (.int .i64 (M : Int)) (.slice a9 n9 c9) w10) := hid (by rw [← HW10.out]; exact (HX9.out.set4 (.slice a9 n9 c9)).1)
                      go_roundg r2.length
                      case measure => have := ln1_less HLN.out; have := HL.out; omega
                      case rel => exact ⟨r2, R2, n + 1, m, true, es ++ [(1, x)], by first | rfl | go_num, HR2, by first | rfl | go_num, by first | rfl | go_num, rfl, ⟨_, hid (HST.out.next hgo _ _ HLN.out HB10.out HX10.out _ _ _ rfl rfl rfl)⟩, rfl⟩
                    | true =>
                      go_wp2_with (first
                        | (refine wpList_bS rfl 57 1 _ rfl (.agg #[.int .i64 1, .string XX]) _ rfl (HBu.out _) ?_; rw [HWc.out])
                        | (refine wpList_bx_sl (d := (0, [])) rfl _ _ 57 61 und57 Tryz.info61 rfl (by decide) (by decide) encE_one rfl G _ es rfl HBEc.out (some ⟨wo.heap.size, 0, none⟩) 1 [(1, x)] rfl HPEc.out (fun x _ => encE_len x) (by have := HEL.out; simp; omega) ?_
                           intro v9 w9 hb9 hg9
                           obtain ⟨a9, c9, n9, e9⟩ : ∃ a c n, v9 = .slice a n c := by obtain ⟨a, c, e⟩ := owns_shape hb9.own; exact ⟨a, c, _, e⟩
                           subst e9
                           have HB9 := hid hb9
                           have HX9 : Hid (LB G AV (.int .i64 (N : Int)) TV (.int .i64 (M : Int)) (.slice la q lc) w9) := hid (HBXc.out.kept hg9 (fun e => HNEQ.out e) (fun e => HNEQ1.out e))
                           have k4 := HX9.out.c4
                           have kf := HX9.out.f4
                           obtain ⟨w10, HW10⟩ : ∃ u, Hid (w9.setCell ⟨G, 4, none⟩ (.slice a9 n9 c9) = u) := ⟨_, rfl⟩
                           have kw := HW10.out
                           clear hb9 hg9)
                        | fail)
                      have HB10 : Hid (BE 61 w w10 G (.slice a9 n9 c9) (es ++ [(1, x)])) := hid (by
                        rw [← HW10.out]
                        exact HB9.out.change (fun k hk e => own_box HB9.out HX9.out k hk (.inl e)) (Nat.le_refl _) (HX9.out.set4 (.slice a9 n9 c9)).2)
                      have HX10 : Hid (LB G AV (.int .i64 (N : Int)) TV (.int .i64 (M : Int)) (.slice a9 n9 c9) w10) := hid (by rw [← HW10.out]; exact (HX9.out.set4 (.slice a9 n9 c9)).1)
                      go_roundg r2.length
                      case measure => have := ln1_less HLN.out; have := HL.out; omega
                      case rel => exact ⟨r2, R2, n + 1, m, true, es ++ [(1, x)], by first | rfl | go_num, HR2, by first | rfl | go_num, by first | rfl | go_num, rfl, ⟨_, hid (HST.out.next hgo _ _ HLN.out HB10.out HX10.out _ _ _ rfl rfl rfl)⟩, rfl⟩
        · have HKD : Hid (kdD (s.getD 0 0) = some 2) := hid (by rw [HX0.out, show x0 = 43 from UInt8.toNat_inj.1 (by rw [hk0]; rfl)]; rfl)
          have e32a : ((x0.toNat : Int) == 32) = false := by simp; have := hk0; omega
          have e32b : decide ((x0.toNat : Int) = 32) = false := by simp; have := hk0; omega
          have e32c : ¬ (x0.toNat : Int) = 32 := by have := hk0; omega
          have e45a : ((x0.toNat : Int) == 45) = false := by simp; have := hk0; omega
          have e45b : decide ((x0.toNat : Int) = 45) = false := by simp; have := hk0; omega
          have e45c : ¬ (x0.toNat : Int) = 45 := by have := hk0; omega
          have e43a : ((x0.toNat : Int) == 43) = true := by simp; have := hk0; omega
          have e43b : decide ((x0.toNat : Int) = 43) = true := by simp; have := hk0; omega
          have e43c : (x0.toNat : Int) = 43 := by have := hk0; omega
          clear hk0
          go_wp2_with fail
          go_loopg [11] (d - 1) (fun gg av wq => ∃ k : Nat, 1 ≤ k ∧ k ≤ d ∧ gg = d - k ∧ av = .int .i64 k ∧ wq = wo)
          case atStart => exact ⟨1, Nat.le_refl _, hd1, rfl, rfl, rfl⟩
          case round =>
            obtain ⟨k, hk1, hkd, hkk2, rfl, hwq⟩ := hrel
            subst hwq
            obtain ⟨wo, hwo⟩ : ∃ u, u = wr := ⟨_, rfl⟩
            subst hwo
            by_cases hlt : k < d
            · have hkl : (k : Int) < (l : Int) := by omega
              obtain ⟨xk, HXK⟩ : ∃ x, Hid (s.getD k 0 = x) := ⟨_, rfl⟩
              have hxk : ∀ h : k < S.size, S[k]'h = xk := fun h => by rw [HIX.out k h]; exact HXK.out
              have h10 : xk ≠ 10 := by rw [← HXK.out]; exact HNE.out k hk1 hlt
              have h10i : ¬ (xk.toNat : Int) = 10 := fun e => h10 (UInt8.toNat_inj.1 (by rw [show xk.toNat = 10 by omega]; rfl))
              have h10a : ((xk.toNat : Int) != 10) = true := by simp; omega
              have h10b : ((xk.toNat : Int) == 10) = false := by simp; omega
              clear h10
              go_wp2_with fail
              go_roundg (d - (k + 1))
              case measure => omega
              case rel => exact ⟨k + 1, by omega, by omega, rfl, by go_num, rfl⟩
            · obtain rfl : k = d := by omega
              rcases hend with ⟨hdl, hno⟩ | ⟨hdl, hat, x, r, hup, hdx, htk, hdr⟩
              · have HN1 := hid hno
                clear hno
                obtain rfl : k = l := hdl
                have hkl : ¬ (k : Int) < (k : Int) := by omega
                have hkl2 : (k : Int) ≤ (k : Int) := by omega
                have HNO : Hid (∀ es r, lnX N M 0 0 s0 = some (es, r) → es.any chE = false) := hid (HST.out.none hgo HN1.out)
                clear hgo
                go_wp2_with (first
                  | (refine wpList_load_mid rfl 59 _ rfl G 0 rfl [AV, .int .i64 (N : Int), TV, .int .i64 (M : Int), .slice la q lc] _ HST.out.box.range Tryz.underlying59 rfl size59 ?_)
                  | (refine wpList_store_mid rfl 59 _ _ rfl (G + 1) 0 #[AV, .int .i64 (N : Int), TV, .int .i64 (M : Int), .slice la q lc] rfl rfl HST.out.box.there size59 HONE.out ?_)
                  | fail)
                refine bodyPost_ret (v := .tuple #[.agg #[AV, .int .i64 (N : Int), TV, .int .i64 (M : Int), .slice la q lc], .string _, .bool false]) (results_c3 Tryz.results47 _ _ (G + 1) _ _ rfl HST.out.box.end_ Tryz.underlying59 rfl size59) rfl ?_
                exact ⟨HBE.out, .inr ⟨HNO.out, _, _, _, _, rfl⟩⟩
              · have hkl : (k : Int) < (l : Int) := by omega
                have hxk : ∀ h : k < S.size, S[k]'h = 10 := fun h => by rw [HIX.out k h]; exact hat
                have HUP := hid hup
                have HDX := hid hdx
                have HTK := hid htk
                have HDR := hid hdr
                clear hat hup hdx htk hdr hlt hkd hk1 hkk2
                obtain ⟨d, hkd⟩ : ∃ d, d = k := ⟨_, rfl⟩
                subst hkd
                obtain ⟨TX, HTX⟩ : ∃ Z : ByteArray, Hid (⟨(x ++ [10]).toArray⟩ = Z) := ⟨_, hid rfl⟩
                obtain ⟨R, HR⟩ : ∃ Z : ByteArray, Hid (⟨r.toArray⟩ = Z) := ⟨_, hid rfl⟩
                obtain ⟨XX, HXX⟩ : ∃ Z : ByteArray, Hid (⟨x.toArray⟩ = Z) := ⟨_, hid rfl⟩
                have hE1 : S.extract 1 (d + 1) = TX := by rw [← HS.out, ← HTX.out, ext_txt, ← HTK.out, show d + 1 - 1 = d by omega]
                have hE2 : S.extract (d + 1) l = R := by rw [← HS.out, ← HR.out, ext_txt, ← HDR.out, List.take_of_length_le (by rw [List.length_drop, HL.out]; omega)]
                have hTS : TX.size = d := by rw [← HTX.out, sizeT, List.length_append, HDX.out]; rfl
                have hXS : XX.size = d - 1 := by rw [← HXX.out, sizeT]; have := HDX.out; omega
                have hE3 : TX.extract 0 (d - 1) = XX := by rw [← HTX.out, ← HXX.out, ext_txt, show d - 1 - 0 = x.length by have := HDX.out; omega, List.drop_zero, List.take_left]
                have HCW : Hid (∀ W : World, Calls Tryz.prog 69 #[.string R, .string ⟨#[92, 32, 78, 111, 32, 110, 101, 119, 108, 105, 110, 101, 32, 97, 116, 32, 101, 110, 100, 32, 111, 102, 32, 102, 105, 108, 101, 10]⟩] W fun e w' => e = .returned (.tuple #[.string ⟨(wrd r noM).1.toArray⟩, .bool (wrd r noM).2]) ∧ w' = W) := hid (fun W => by rw [← HR.out]; exact word_any r noM W)
                have hdi : (1 : Int) ≤ (d : Int) := by omega
                have hdl : (d : Int) < (l : Int) := by omega
                rcases hwr : wrd r noM with ⟨r2, b⟩
                rw [hwr] at HCW
                simp only at HCW
                obtain ⟨R2, HR2⟩ : ∃ Z : ByteArray, Hid (⟨r2.toArray⟩ = Z) := ⟨_, hid rfl⟩
                rw [HR2.out] at HCW
                cases b with
                | false =>
                  have HWR := hid hwr
                  clear hwr
                  go_wp2_with fail
                  refine (HCW.out _).mono ?_
                  rintro ev w1 ⟨rfl, hw1⟩
                  subst hw1
                  obtain ⟨wo, hwo⟩ : ∃ u, u = w1 := ⟨_, rfl⟩
                  subst hwo
                  have hT0 : ¬ ((d : Int) = 0) := by omega
                  have hT0b : ((d : Int) == 0) = false := by simp; omega
                  obtain ⟨wc, HWc⟩ : ∃ u, Hid (wo.alloc (.cells #[.int .i64 2, .string TX] 61) = u) := ⟨_, rfl⟩
                  have HBEc : Hid (BE 61 w wc G (.slice la q lc) es) := hid (by rw [← HWc.out]; exact HST.out.row.alloc _)
                  have HPEc : Hid (PE wc (some ⟨wo.heap.size, 0, none⟩) 1 [(2, x ++ [10])]) := hid (by rw [← HWc.out, ← HTX.out]; exact pe_one (2, x ++ [10]) 61 wo)
                  have HBXc : Hid (LB G AV (.int .i64 (N : Int)) TV (.int .i64 (M : Int)) (.slice la q lc) wc) := hid (by rw [← HWc.out]; exact HST.out.box.below ((Below.refl _ wo).alloc (Nat.le_refl _) _))
                  have HBu : Hid (∀ W : World, (Instr.buildSlice 57 1 #[(0, .agg #[.int .i64 2, .string TX])]).run Tryz.prog W = .ok (.slice (some ⟨W.heap.size, 0, none⟩) 1 1) (W.alloc (.cells #[.int .i64 2, .string TX] 61))) := hid (fun W => run_build29 2 (.string TX) ⟨_, rfl⟩ W)
                  have HLN : Hid (ln1 s = some ((2, x ++ [10]), r)) := hid (ln1_not s 2 x r r2 HSN.out HKD.out HUP.out HWR.out)
                  have hc4 := HST.out.box.c4
                  cases ch with
                  | false =>
                    go_wp2_with (first
                      | (refine wpList_bS rfl 57 1 _ rfl (.agg #[.int .i64 2, .string TX]) _ rfl (HBu.out _) ?_; rw [HWc.out])
                      | (refine wpList_bx_sl (d := (0, [])) rfl _ _ 57 61 und57 Tryz.info61 rfl (by decide) (by decide) encE_one rfl G _ es rfl HBEc.out (some ⟨wo.heap.size, 0, none⟩) 1 [(2, x ++ [10])] rfl HPEc.out (fun x _ => encE_len x) (by have := HEL.out; simp; omega) ?_
                         intro v9 w9 hb9 hg9
                         obtain ⟨a9, c9, n9, e9⟩ : ∃ a c n, v9 = .slice a n c := by obtain ⟨a, c, e⟩ := owns_shape hb9.own; exact ⟨a, c, _, e⟩
                         subst e9
                         have HB9 := hid hb9
                         have HX9 : Hid (LB G AV (.int .i64 (N : Int)) TV (.int .i64 (M : Int)) (.slice la q lc) w9) := hid (HBXc.out.kept hg9 (fun e => HNEQ.out e) (fun e => HNEQ1.out e))
                         have k4 := HX9.out.c4
                         have kf := HX9.out.f4
                         obtain ⟨w10, HW10⟩ : ∃ u, Hid (w9.setCell ⟨G, 4, none⟩ (.slice a9 n9 c9) = u) := ⟨_, rfl⟩
                         have kw := HW10.out
                         clear hb9 hg9)
                      | fail)
                    have HB10 : Hid (BE 61 w w10 G (.slice a9 n9 c9) (es ++ [(2, x ++ [10])])) := hid (by
                      rw [← HW10.out]
                      exact HB9.out.change (fun k hk e => own_box HB9.out HX9.out k hk (.inl e)) (Nat.le_refl _) (HX9.out.set4 (.slice a9 n9 c9)).2)
                    have HX10 : Hid (LB G AV (.int .i64 (N : Int)) TV (.int .i64 (M : Int)) (.slice a9 n9 c9) w10) := hid (by rw [← HW10.out]; exact (HX9.out.set4 (.slice a9 n9 c9)).1)
                    go_roundg r.length
                    case measure => have := ln1_less HLN.out; have := HL.out; omega
                    case rel => exact ⟨r, R, n, m + 1, true, es ++ [(2, x ++ [10])], by first | rfl | go_num, HR, by first | rfl | go_num, by first | rfl | go_num, rfl, ⟨_, hid (HST.out.next hgo _ _ HLN.out HB10.out HX10.out _ _ _ rfl rfl rfl)⟩, rfl⟩
                  | true =>
                    go_wp2_with (first
                      | (refine wpList_bS rfl 57 1 _ rfl (.agg #[.int .i64 2, .string TX]) _ rfl (HBu.out _) ?_; rw [HWc.out])
                      | (refine wpList_bx_sl (d := (0, [])) rfl _ _ 57 61 und57 Tryz.info61 rfl (by decide) (by decide) encE_one rfl G _ es rfl HBEc.out (some ⟨wo.heap.size, 0, none⟩) 1 [(2, x ++ [10])] rfl HPEc.out (fun x _ => encE_len x) (by have := HEL.out; simp; omega) ?_
                         intro v9 w9 hb9 hg9
                         obtain ⟨a9, c9, n9, e9⟩ : ∃ a c n, v9 = .slice a n c := by obtain ⟨a, c, e⟩ := owns_shape hb9.own; exact ⟨a, c, _, e⟩
                         subst e9
                         have HB9 := hid hb9
                         have HX9 : Hid (LB G AV (.int .i64 (N : Int)) TV (.int .i64 (M : Int)) (.slice la q lc) w9) := hid (HBXc.out.kept hg9 (fun e => HNEQ.out e) (fun e => HNEQ1.out e))
                         have k4 := HX9.out.c4
                         have kf := HX9.out.f4
                         obtain ⟨w10, HW10⟩ : ∃ u, Hid (w9.setCell ⟨G, 4, none⟩ (.slice a9 n9 c9) = u) := ⟨_, rfl⟩
                         have kw := HW10.out
                         clear hb9 hg9)
                      | fail)
                    have HB10 : Hid (BE 61 w w10 G (.slice a9 n9 c9) (es ++ [(2, x ++ [10])])) := hid (by
                      rw [← HW10.out]
                      exact HB9.out.change (fun k hk e => own_box HB9.out HX9.out k hk (.inl e)) (Nat.le_refl _) (HX9.out.set4 (.slice a9 n9 c9)).2)
                    have HX10 : Hid (LB G AV (.int .i64 (N : Int)) TV (.int .i64 (M : Int)) (.slice a9 n9 c9) w10) := hid (by rw [← HW10.out]; exact (HX9.out.set4 (.slice a9 n9 c9)).1)
                    go_roundg r.length
                    case measure => have := ln1_less HLN.out; have := HL.out; omega
                    case rel => exact ⟨r, R, n, m + 1, true, es ++ [(2, x ++ [10])], by first | rfl | go_num, HR, by first | rfl | go_num, by first | rfl | go_num, rfl, ⟨_, hid (HST.out.next hgo _ _ HLN.out HB10.out HX10.out _ _ _ rfl rfl rfl)⟩, rfl⟩
                | true =>
                  have HWR := hid hwr
                  clear hwr
                  by_cases hx0 : x = []
                  · have hd1 : d = 1 := by rw [HDX.out, hx0]; rfl
                    have HN1 : Hid (ln1 s = none) := hid (by rw [ln1_yes s 2 x r r2 HSN.out HKD.out HUP.out HWR.out, if_pos hx0])
                    have hdI : (d : Int) - 1 = 0 := by omega
                    have hXS0 : XX.size = 0 := by omega
                    have hE4 : TX.extract 0 0 = XX := by rw [← hE3, hd1]
                    subst hd1
                    clear hx0
                    go_wp2_with fail
                    refine (HCW.out _).mono ?_
                    rintro ev w1 ⟨rfl, hw1⟩
                    subst hw1
                    obtain ⟨wo, hwo⟩ : ∃ u, u = w1 := ⟨_, rfl⟩
                    subst hwo
                    have HNO : Hid (∀ es r, lnX N M 0 0 s0 = some (es, r) → es.any chE = false) := hid (HST.out.none hgo HN1.out)
                    clear hgo
                    go_wp2_with (first
                      | (refine wpList_load_mid rfl 59 _ rfl G 0 rfl [AV, .int .i64 (N : Int), TV, .int .i64 (M : Int), .slice la q lc] _ HST.out.box.range Tryz.underlying59 rfl size59 ?_)
                      | (refine wpList_store_mid rfl 59 _ _ rfl (G + 1) 0 #[AV, .int .i64 (N : Int), TV, .int .i64 (M : Int), .slice la q lc] rfl rfl HST.out.box.there size59 HONE.out ?_)
                      | fail)
                    refine bodyPost_ret (v := .tuple #[.agg #[AV, .int .i64 (N : Int), TV, .int .i64 (M : Int), .slice la q lc], .string _, .bool false]) (results_c3 Tryz.results47 _ _ (G + 1) _ _ rfl HST.out.box.end_ Tryz.underlying59 rfl size59) rfl ?_
                    exact ⟨HBE.out, .inr ⟨HNO.out, _, _, _, _, rfl⟩⟩
                  · have hd1 : 2 ≤ d := by have := HDX.out; have := List.length_pos_iff.2 hx0; omega
                    have HX0 := hid hx0
                    obtain ⟨d1, HD1⟩ : ∃ k, Hid (d = k + 1) := ⟨d - 1, hid (by omega)⟩
                    have hdI : (d : Int) - 1 = (d1 : Int) := by have := HD1.out; omega
                    have hE4 : TX.extract 0 d1 = XX := by rw [← hE3]; congr 1; have := HD1.out; omega
                    have hXS1 : XX.size = d1 := by have := HD1.out; omega
                    have hT0 : ¬ ((d1 : Int) = 0) := by have := HD1.out; omega
                    have hT0b : ((d1 : Int) == 0) = false := by have := HD1.out; simp; omega
                    have hd1i : (0 : Int) ≤ (d1 : Int) := by omega
                    have hd1d : (d1 : Int) ≤ (d : Int) := by have := HD1.out; omega
                    clear hx0
                    go_wp2_with fail
                    refine (HCW.out _).mono ?_
                    rintro ev w1 ⟨rfl, hw1⟩
                    subst hw1
                    obtain ⟨wo, hwo⟩ : ∃ u, u = w1 := ⟨_, rfl⟩
                    subst hwo
                    obtain ⟨wc, HWc⟩ : ∃ u, Hid (wo.alloc (.cells #[.int .i64 2, .string XX] 61) = u) := ⟨_, rfl⟩
                    have HBEc : Hid (BE 61 w wc G (.slice la q lc) es) := hid (by rw [← HWc.out]; exact HST.out.row.alloc _)
                    have HPEc : Hid (PE wc (some ⟨wo.heap.size, 0, none⟩) 1 [(2, x)]) := hid (by rw [← HWc.out, ← HXX.out]; exact pe_one (2, x) 61 wo)
                    have HBXc : Hid (LB G AV (.int .i64 (N : Int)) TV (.int .i64 (M : Int)) (.slice la q lc) wc) := hid (by rw [← HWc.out]; exact HST.out.box.below ((Below.refl _ wo).alloc (Nat.le_refl _) _))
                    have HBu : Hid (∀ W : World, (Instr.buildSlice 57 1 #[(0, .agg #[.int .i64 2, .string XX])]).run Tryz.prog W = .ok (.slice (some ⟨W.heap.size, 0, none⟩) 1 1) (W.alloc (.cells #[.int .i64 2, .string XX] 61))) := hid (fun W => run_build29 2 (.string XX) ⟨_, rfl⟩ W)
                    have HLN : Hid (ln1 s = some ((2, x), r2)) := hid (by rw [ln1_yes s 2 x r r2 HSN.out HKD.out HUP.out HWR.out, if_neg HX0.out])
                    have hc4 := HST.out.box.c4
                    cases ch with
                    | false =>
                      go_wp2_with (first
                        | (refine wpList_bS rfl 57 1 _ rfl (.agg #[.int .i64 2, .string XX]) _ rfl (HBu.out _) ?_; rw [HWc.out])
                        | (refine wpList_bx_sl (d := (0, [])) rfl _ _ 57 61 und57 Tryz.info61 rfl (by decide) (by decide) encE_one rfl G _ es rfl HBEc.out (some ⟨wo.heap.size, 0, none⟩) 1 [(2, x)] rfl HPEc.out (fun x _ => encE_len x) (by have := HEL.out; simp; omega) ?_
                           intro v9 w9 hb9 hg9
                           obtain ⟨a9, c9, n9, e9⟩ : ∃ a c n, v9 = .slice a n c := by obtain ⟨a, c, e⟩ := owns_shape hb9.own; exact ⟨a, c, _, e⟩
                           subst e9
                           have HB9 := hid hb9
                           have HX9 : Hid (LB G AV (.int .i64 (N : Int)) TV (.int .i64 (M : Int)) (.slice la q lc) w9) := hid (HBXc.out.kept hg9 (fun e => HNEQ.out e) (fun e => HNEQ1.out e))
                           have k4 := HX9.out.c4
                           have kf := HX9.out.f4
                           obtain ⟨w10, HW10⟩ : ∃ u, Hid (w9.setCell ⟨G, 4, none⟩ (.slice a9 n9 c9) = u) := ⟨_, rfl⟩
                           have kw := HW10.out
                           clear hb9 hg9)
                        | fail)
                      have HB10 : Hid (BE 61 w w10 G (.slice a9 n9 c9) (es ++ [(2, x)])) := hid (by
                        rw [← HW10.out]
                        exact HB9.out.change (fun k hk e => own_box HB9.out HX9.out k hk (.inl e)) (Nat.le_refl _) (HX9.out.set4 (.slice a9 n9 c9)).2)
                      have HX10 : Hid (LB G AV (.int .i64 (N : Int)) TV (.int .i64 (M : Int)) (.slice a9 n9 c9) w10) := hid (by rw [← HW10.out]; exact (HX9.out.set4 (.slice a9 n9 c9)).1)
                      go_roundg r2.length
                      case measure => have := ln1_less HLN.out; have := HL.out; omega
                      case rel => exact ⟨r2, R2, n, m + 1, true, es ++ [(2, x)], by first | rfl | go_num, HR2, by first | rfl | go_num, by first | rfl | go_num, rfl, ⟨_, hid (HST.out.next hgo _ _ HLN.out HB10.out HX10.out _ _ _ rfl rfl rfl)⟩, rfl⟩
                    | true =>
                      go_wp2_with (first
                        | (refine wpList_bS rfl 57 1 _ rfl (.agg #[.int .i64 2, .string XX]) _ rfl (HBu.out _) ?_; rw [HWc.out])
                        | (refine wpList_bx_sl (d := (0, [])) rfl _ _ 57 61 und57 Tryz.info61 rfl (by decide) (by decide) encE_one rfl G _ es rfl HBEc.out (some ⟨wo.heap.size, 0, none⟩) 1 [(2, x)] rfl HPEc.out (fun x _ => encE_len x) (by have := HEL.out; simp; omega) ?_
                           intro v9 w9 hb9 hg9
                           obtain ⟨a9, c9, n9, e9⟩ : ∃ a c n, v9 = .slice a n c := by obtain ⟨a, c, e⟩ := owns_shape hb9.own; exact ⟨a, c, _, e⟩
                           subst e9
                           have HB9 := hid hb9
                           have HX9 : Hid (LB G AV (.int .i64 (N : Int)) TV (.int .i64 (M : Int)) (.slice la q lc) w9) := hid (HBXc.out.kept hg9 (fun e => HNEQ.out e) (fun e => HNEQ1.out e))
                           have k4 := HX9.out.c4
                           have kf := HX9.out.f4
                           obtain ⟨w10, HW10⟩ : ∃ u, Hid (w9.setCell ⟨G, 4, none⟩ (.slice a9 n9 c9) = u) := ⟨_, rfl⟩
                           have kw := HW10.out
                           clear hb9 hg9)
                        | fail)
                      have HB10 : Hid (BE 61 w w10 G (.slice a9 n9 c9) (es ++ [(2, x)])) := hid (by
                        rw [← HW10.out]
                        exact HB9.out.change (fun k hk e => own_box HB9.out HX9.out k hk (.inl e)) (Nat.le_refl _) (HX9.out.set4 (.slice a9 n9 c9)).2)
                      have HX10 : Hid (LB G AV (.int .i64 (N : Int)) TV (.int .i64 (M : Int)) (.slice a9 n9 c9) w10) := hid (by rw [← HW10.out]; exact (HX9.out.set4 (.slice a9 n9 c9)).1)
                      go_roundg r2.length
                      case measure => have := ln1_less HLN.out; have := HL.out; omega
                      case rel => exact ⟨r2, R2, n, m + 1, true, es ++ [(2, x)], by first | rfl | go_num, HR2, by first | rfl | go_num, by first | rfl | go_num, rfl, ⟨_, hid (HST.out.next hgo _ _ HLN.out HB10.out HX10.out _ _ _ rfl rfl rfl)⟩, rfl⟩
        · have HKN : Hid (ln1 s = none) := hid (ln1_kd s (by rw [HX0.out]; exact kd_none (fun e => hk0.1 (by rw [e]; rfl)) (fun e => hk0.2.1 (by rw [e]; rfl)) (fun e => hk0.2.2 (by rw [e]; rfl))))
          have e32a : ((x0.toNat : Int) == 32) = false := by simp; have := hk0; omega
          have e32b : decide ((x0.toNat : Int) = 32) = false := by simp; have := hk0; omega
          have e32c : ¬ (x0.toNat : Int) = 32 := by have := hk0; omega
          have e45a : ((x0.toNat : Int) == 45) = false := by simp; have := hk0; omega
          have e45b : decide ((x0.toNat : Int) = 45) = false := by simp; have := hk0; omega
          have e45c : ¬ (x0.toNat : Int) = 45 := by have := hk0; omega
          have e43a : ((x0.toNat : Int) == 43) = false := by simp; have := hk0; omega
          have e43b : decide ((x0.toNat : Int) = 43) = false := by simp; have := hk0; omega
          have e43c : ¬ (x0.toNat : Int) = 43 := by have := hk0; omega
          clear hk0
          go_wp2_with fail
          go_loopg [11] (d - 1) (fun gg av wq => ∃ k : Nat, 1 ≤ k ∧ k ≤ d ∧ gg = d - k ∧ av = .int .i64 k ∧ wq = wo)
          case atStart => exact ⟨1, Nat.le_refl _, hd1, rfl, rfl, rfl⟩
          case round =>
            obtain ⟨k, hk1, hkd, hkk2, rfl, hwq⟩ := hrel
            subst hwq
            obtain ⟨wo, hwo⟩ : ∃ u, u = wr := ⟨_, rfl⟩
            subst hwo
            by_cases hlt : k < d
            · have hkl : (k : Int) < (l : Int) := by omega
              obtain ⟨xk, HXK⟩ : ∃ x, Hid (s.getD k 0 = x) := ⟨_, rfl⟩
              have hxk : ∀ h : k < S.size, S[k]'h = xk := fun h => by rw [HIX.out k h]; exact HXK.out
              have h10 : xk ≠ 10 := by rw [← HXK.out]; exact HNE.out k hk1 hlt
              have h10i : ¬ (xk.toNat : Int) = 10 := fun e => h10 (UInt8.toNat_inj.1 (by rw [show xk.toNat = 10 by omega]; rfl))
              have h10a : ((xk.toNat : Int) != 10) = true := by simp; omega
              have h10b : ((xk.toNat : Int) == 10) = false := by simp; omega
              clear h10
              go_wp2_with fail
              go_roundg (d - (k + 1))
              case measure => omega
              case rel => exact ⟨k + 1, by omega, by omega, rfl, by go_num, rfl⟩
            · obtain rfl : k = d := by omega
              rcases hend with ⟨hdl, hno⟩ | ⟨hdl, hat, x, r, hup, hdx, htk, hdr⟩
              · have HN1 := hid hno
                clear hno
                obtain rfl : k = l := hdl
                have hkl : ¬ (k : Int) < (k : Int) := by omega
                have hkl2 : (k : Int) ≤ (k : Int) := by omega
                have HNO : Hid (∀ es r, lnX N M 0 0 s0 = some (es, r) → es.any chE = false) := hid (HST.out.none hgo HN1.out)
                clear hgo
                go_wp2_with (first
                  | (refine wpList_load_mid rfl 59 _ rfl G 0 rfl [AV, .int .i64 (N : Int), TV, .int .i64 (M : Int), .slice la q lc] _ HST.out.box.range Tryz.underlying59 rfl size59 ?_)
                  | (refine wpList_store_mid rfl 59 _ _ rfl (G + 1) 0 #[AV, .int .i64 (N : Int), TV, .int .i64 (M : Int), .slice la q lc] rfl rfl HST.out.box.there size59 HONE.out ?_)
                  | fail)
                refine bodyPost_ret (v := .tuple #[.agg #[AV, .int .i64 (N : Int), TV, .int .i64 (M : Int), .slice la q lc], .string _, .bool false]) (results_c3 Tryz.results47 _ _ (G + 1) _ _ rfl HST.out.box.end_ Tryz.underlying59 rfl size59) rfl ?_
                exact ⟨HBE.out, .inr ⟨HNO.out, _, _, _, _, rfl⟩⟩
              · have hkl : (k : Int) < (l : Int) := by omega
                have hxk : ∀ h : k < S.size, S[k]'h = 10 := fun h => by rw [HIX.out k h]; exact hat
                clear hat hup hdx htk hdr
                have HNO : Hid (∀ es r, lnX N M 0 0 s0 = some (es, r) → es.any chE = false) := hid (HST.out.none hgo HKN.out)
                clear hgo
                go_wp2_with (first
                  | (refine wpList_load_mid rfl 59 _ rfl G 0 rfl [AV, .int .i64 (N : Int), TV, .int .i64 (M : Int), .slice la q lc] _ HST.out.box.range Tryz.underlying59 rfl size59 ?_)
                  | (refine wpList_store_mid rfl 59 _ _ rfl (G + 1) 0 #[AV, .int .i64 (N : Int), TV, .int .i64 (M : Int), .slice la q lc] rfl rfl HST.out.box.there size59 HONE.out ?_)
                  | fail)
                refine bodyPost_ret (v := .tuple #[.agg #[AV, .int .i64 (N : Int), TV, .int .i64 (M : Int), .slice la q lc], .string _, .bool false]) (results_c3 Tryz.results47 _ _ (G + 1) _ _ rfl HST.out.box.end_ Tryz.underlying59 rfl size59) rfl ?_
                exact ⟨HBE.out, .inr ⟨HNO.out, _, _, _, _, rfl⟩⟩
    · have hni : ¬ (n : Int) < (N : Int) := by omega
      have hmi : ¬ (m : Int) < (M : Int) := by omega
      have HFIN := hid (HST.out.fin hgo)
      obtain ⟨c2, HC2⟩ : ∃ b, Hid ((ch && decide (n = N)) = b) := ⟨_, rfl⟩
      rw [HC2.out] at HFIN
      obtain ⟨c3, HC3⟩ : ∃ b, Hid ((c2 && decide (m = M)) = b) := ⟨_, rfl⟩
      rw [HC3.out] at HFIN
      have HNEQ1 : (Value.slice la q lc).ownBlock = some (G + 1) → False := fun e => own_box HST.out.row HST.out.box (G + 1) e (.inr rfl)
      replace HNEQ1 := hid HNEQ1
      have hdn : ((n : Int) == (N : Int)) = decide (n = N) := by rw [Bool.eq_iff_iff]; simp; omega
      have hdm : ((m : Int) == (M : Int)) = decide (m = M) := by rw [Bool.eq_iff_iff]; simp; omega
      have hdn2 : decide ((n : Int) = (N : Int)) = decide (n = N) := by rw [Bool.eq_iff_iff]; simp; omega
      have hdm2 : decide ((m : Int) = (M : Int)) = decide (m = M) := by rw [Bool.eq_iff_iff]; simp; omega
      have HSS : Hid (BV G AV (.int .i64 (N : Int)) TV (.int .i64 (M : Int)) (.slice la q lc) wo.drew) := hid ⟨HST.out.box.range, HST.out.box.there⟩
      have HBX : Hid (BE 61 w wo.drew G (.slice la q lc) es) := hid (HST.out.row.carry ⟨rfl, rfl, rfl, Nat.le_refl _, fun _ _ => rfl⟩)
      clear hgo
      go_wp2_with fail
      refine wp_region_held_drew (S := BV G AV (.int .i64 (N : Int)) TV (.int .i64 (M : Int)) (.slice la q lc)) (by kernel_rfl) HSS.out (fun hHeld => ?_)
      generalize wo.drew = u0 at hHeld HSS HBX ⊢
      clear HSS
      refine takeL (i := 0) (v := .agg #[AV, .int .i64 (N : Int), TV, .int .i64 (M : Int), .slice la q lc]) rfl (by kernel_rfl) (by kernel_rfl) (by kernel_rfl) (fun _ _ _ h => h) (yieldsIf_load_mid (by rfl) 59 _ rfl G 0 (by rfl) [AV, .int .i64 (N : Int), TV, .int .i64 (M : Int), .slice la q lc] _ (fun w' h => h.r) Tryz.underlying59 rfl size59) hHeld ?_
      try simp only [Act.put, List.setIfInBounds_toArray, List.set_cons_zero, List.set_cons_succ]
      refine takeL (i := 1) (v := .string S) rfl (by kernel_rfl) (by kernel_rfl) (by kernel_rfl) (fun _ _ _ h => h) (Or.inl ⟨by rfl, by intro w' h; go_simp; try rfl⟩) hHeld ?_
      try simp only [Act.put, List.setIfInBounds_toArray, List.set_cons_zero, List.set_cons_succ]
      refine takeL (i := 2) (v := .bool ch) rfl (by kernel_rfl) (by kernel_rfl) (by kernel_rfl) (fun _ _ _ h => h) (Or.inl ⟨by rfl, by intro w' h; go_simp; try rfl⟩) hHeld ?_
      try simp only [Act.put, List.setIfInBounds_toArray, List.set_cons_zero, List.set_cons_succ]
      refine takeL (i := 3) (v := .bool ch) rfl (by kernel_rfl) (by kernel_rfl) (by kernel_rfl) (fun _ _ _ h => h) (Or.inl ⟨by rfl, by intro w' h; go_simp; try rfl⟩) hHeld ?_
      try simp only [Act.put, List.setIfInBounds_toArray, List.set_cons_zero, List.set_cons_succ]
      refine takeL (i := 4) (v := gv ch (.int .i64 (n : Int))) rfl (by kernel_rfl) (by kernel_rfl) (by kernel_rfl) (fun _ _ _ h => h) (by cases ch with | false => exact Or.inr ⟨by kernel_rfl, rfl⟩ | true => exact Or.inl ⟨by rfl, by intro w' h; simp only [gv_t]; go_simp; try rfl⟩) hHeld ?_
      try simp only [Act.put, List.setIfInBounds_toArray, List.set_cons_zero, List.set_cons_succ]
      refine takeL (i := 5) (v := gv ch (.pointer (some ⟨G, 1, none⟩))) rfl (by kernel_rfl) (by kernel_rfl) (by kernel_rfl) (fun _ _ _ h => h) (by cases ch with | false => exact Or.inr ⟨by kernel_rfl, rfl⟩ | true => exact Or.inl ⟨by rfl, by intro w' h; simp only [gv_t]; go_simp; try rfl⟩) hHeld ?_
      try simp only [Act.put, List.setIfInBounds_toArray, List.set_cons_zero, List.set_cons_succ]
      refine takeL (i := 6) (v := gv ch (.int .i64 (N : Int))) rfl (by kernel_rfl) (by kernel_rfl) (by kernel_rfl) (fun _ _ _ h => h) (by cases ch with | false => exact Or.inr ⟨by kernel_rfl, rfl⟩ | true => exact Or.inl ⟨by rfl, by intro w' h; have h0 := h.c1; simp only [gv_t]; go_simp; try rfl⟩) hHeld ?_
      try simp only [Act.put, List.setIfInBounds_toArray, List.set_cons_zero, List.set_cons_succ]
      refine takeL (i := 7) (v := gv ch (.bool (decide (n = N)))) rfl (by kernel_rfl) (by kernel_rfl) (by kernel_rfl) (fun _ _ _ h => h) (by cases ch with | false => exact Or.inr ⟨by kernel_rfl, rfl⟩ | true => exact Or.inl ⟨by rfl, by intro w' h; simp only [gv_t]; go_simp; try simp only [hdn, hdn2]; try rfl⟩) hHeld ?_
      try simp only [Act.put, List.setIfInBounds_toArray, List.set_cons_zero, List.set_cons_succ]
      refine takeL (i := 8) (v := .bool c2) rfl (by kernel_rfl) (by kernel_rfl) (by kernel_rfl) (fun _ _ _ h => h) (Or.inl ⟨by rfl, by intro w' h; rw [← HC2.out]; cases ch <;> (simp only [gv_t, gv_f, Bool.true_and, Bool.false_and]; go_simp; try rfl)⟩) hHeld ?_
      try simp only [Act.put, List.setIfInBounds_toArray, List.set_cons_zero, List.set_cons_succ]
      refine takeL (i := 9) (v := .bool c2) rfl (by kernel_rfl) (by kernel_rfl) (by kernel_rfl) (fun _ _ _ h => h) (Or.inl ⟨by rfl, by intro w' h; go_simp; try rfl⟩) hHeld ?_
      try simp only [Act.put, List.setIfInBounds_toArray, List.set_cons_zero, List.set_cons_succ]
      refine takeL (i := 10) (v := gv c2 (.int .i64 (m : Int))) rfl (by kernel_rfl) (by kernel_rfl) (by kernel_rfl) (fun _ _ _ h => h) (by cases c2 with | false => exact Or.inr ⟨by kernel_rfl, rfl⟩ | true => exact Or.inl ⟨by rfl, by intro w' h; simp only [gv_t]; go_simp; try rfl⟩) hHeld ?_
      try simp only [Act.put, List.setIfInBounds_toArray, List.set_cons_zero, List.set_cons_succ]
      refine takeL (i := 11) (v := gv c2 (.pointer (some ⟨G, 3, none⟩))) rfl (by kernel_rfl) (by kernel_rfl) (by kernel_rfl) (fun _ _ _ h => h) (by cases c2 with | false => exact Or.inr ⟨by kernel_rfl, rfl⟩ | true => exact Or.inl ⟨by rfl, by intro w' h; simp only [gv_t]; go_simp; try rfl⟩) hHeld ?_
      try simp only [Act.put, List.setIfInBounds_toArray, List.set_cons_zero, List.set_cons_succ]
      refine takeL (i := 12) (v := gv c2 (.int .i64 (M : Int))) rfl (by kernel_rfl) (by kernel_rfl) (by kernel_rfl) (fun _ _ _ h => h) (by cases c2 with | false => exact Or.inr ⟨by kernel_rfl, rfl⟩ | true => exact Or.inl ⟨by rfl, by intro w' h; have h0 := h.c3; simp only [gv_t]; go_simp; try rfl⟩) hHeld ?_
      try simp only [Act.put, List.setIfInBounds_toArray, List.set_cons_zero, List.set_cons_succ]
      refine takeL (i := 13) (v := gv c2 (.bool (decide (m = M)))) rfl (by kernel_rfl) (by kernel_rfl) (by kernel_rfl) (fun _ _ _ h => h) (by cases c2 with | false => exact Or.inr ⟨by kernel_rfl, rfl⟩ | true => exact Or.inl ⟨by rfl, by intro w' h; simp only [gv_t]; go_simp; try simp only [hdm, hdm2]; try rfl⟩) hHeld ?_
      try simp only [Act.put, List.setIfInBounds_toArray, List.set_cons_zero, List.set_cons_succ]
      refine takeL (i := 14) (v := .bool c3) rfl (by kernel_rfl) (by kernel_rfl) (by kernel_rfl) (fun _ _ _ h => h) (Or.inl ⟨by rfl, by intro w' h; rw [← HC3.out]; cases c2 <;> (simp only [gv_t, gv_f, Bool.true_and, Bool.false_and]; go_simp; try rfl)⟩) hHeld ?_
      try simp only [Act.put, List.setIfInBounds_toArray, List.set_cons_zero, List.set_cons_succ]
      refine wpAnyH_ready (rs := [15]) (by kernel_rfl) (by simp) ?_
      refine consL rfl (fun KK hKK => ?_) AllReadyH.nil
      refine step_store (by rfl) 59 _ _ (by rfl) (G + 1) 0 #[AV, .int .i64 (N : Int), TV, .int .i64 (M : Int), .slice la q lc] (by rfl) (by rfl) hHeld.t size59 HONE.out ?_
      refine hKK.out _ _ ⟨World.rangeAt_setCells_apart hHeld.r (G + 1) 0 _ (.inl (by omega)), World.there_setCells hHeld.t _ _ _⟩ (fun hHeld2 => ?_)
      clear hKK KK
      try simp only [Act.put, List.setIfInBounds_toArray, List.set_cons_zero, List.set_cons_succ]
      refine takeL (i := 16) (v := .string S) rfl (by kernel_rfl) (by kernel_rfl) (by kernel_rfl) (fun _ _ _ h => h) (Or.inl ⟨by rfl, by intro w' h; go_simp; try rfl⟩) hHeld2 ?_
      try simp only [Act.put, List.setIfInBounds_toArray, List.set_cons_zero, List.set_cons_succ]
      refine takeL (i := 17) (v := .bool c3) rfl (by kernel_rfl) (by kernel_rfl) (by kernel_rfl) (fun _ _ _ h => h) (Or.inl ⟨by rfl, by intro w' h; go_simp; try rfl⟩) hHeld2 ?_
      try simp only [Act.put, List.setIfInBounds_toArray, List.set_cons_zero, List.set_cons_succ]
      refine wpAnyH_done (by kernel_rfl) ?_ _
      have HRR := hid (World.rangeAt_setCells_same u0 (G + 1) 0 [AV, .int .i64 (N : Int), TV, .int .i64 (M : Int), .slice la q lc] hHeld.t)
      obtain ⟨u9, HU9⟩ : ∃ u, Hid (u0.setCells (G + 1) 0 [AV, .int .i64 (N : Int), TV, .int .i64 (M : Int), .slice la q lc] = u) := ⟨_, rfl⟩
      have HGW : Hid (u0.grownBy u9 (some (G + 1))) := hid (by rw [← HU9.out]; exact grown_sets u0 (G + 1) 0 [AV, .int .i64 (N : Int), TV, .int .i64 (M : Int), .slice la q lc])
      have HFB : Hid (BE 61 w u9 G (.slice la q lc) es) := hid (HBX.out.change (fun k hk e => HNEQ1.out (by rw [hk, e])) (Nat.le_succ _) HGW.out)
      rw [HU9.out] at HRR
      clear hHeld hHeld2
      show _
      simp only [show (#[AV, .int .i64 (N : Int), TV, .int .i64 (M : Int), .slice la q lc] : Array Value).toList = [AV, .int .i64 (N : Int), TV, .int .i64 (M : Int), .slice la q lc] from rfl, HU9.out]
      go_wp2_with fail
      refine bodyPost_ret (v := .tuple #[.agg #[AV, .int .i64 (N : Int), TV, .int .i64 (M : Int), .slice la q lc], .string S, .bool c3]) (results_c3 Tryz.results47 _ _ (G + 1) _ _ rfl HRR.out Tryz.underlying59 rfl size59) rfl ?_
      cases c3 with
      | true => exact ⟨HFB.out.below, .inl ⟨es, s, _, (HFIN.out.1 rfl).1, (HFIN.out.1 rfl).2, HFB.out, by rw [HS.out]⟩⟩
      | false => exact ⟨HFB.out.below, .inr ⟨HFIN.out.2 rfl, _, _, _, _, rfl⟩⟩
end Go.Proofs.YtmpjapcijjjlbaaGreatDoor
