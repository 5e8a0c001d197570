import Derived.Test.YtijeogdnjeamaaaGreatDoorQp04
namespace Go.Proofs.YtijeogdnjeamaaaGreatDoor
open Go.RowKit
set_option linter.unusedVariables false
set_option linter.unusedSimpArgs false
def pktL (ls : List Str) : Str := ls.flatMap pkt
def okL (ls : List Str) : Prop := ∀ x ∈ ls, x.length ≤ 1000
theorem pkt_fst (x r : Str) (h : x.length ≤ 1000) : Fst (pkt x ++ r) x.length := by
  refine ⟨h, by rw [List.length_append, pkt_len]; omega, ?_⟩
  unfold pkt
  rw [List.append_assoc, List.take_left' (szT_len _)]
theorem fst_pkt {s : Str} {n : Nat} (h : Fst s n) : s = pkt ((s.drop 4).take n) ++ s.drop (4 + n) ∧ ((s.drop 4).take n).length = n := by
  have hl : ((s.drop 4).take n).length = n := by rw [List.length_take, List.length_drop]; have := h.2.1; omega
  refine ⟨?_, hl⟩
  unfold pkt
  rw [hl, ← h.2.2, ← List.drop_drop, List.append_assoc, List.take_append_drop, List.take_append_drop]
theorem pktL_pre : ∀ (dn ls : List Str) (r : Str), okL dn → okL ls → pktL ls = pktL dn ++ r → ∃ rest, ls = dn ++ rest ∧ r = pktL rest
  | [], ls, r, _, _, h => ⟨ls, rfl, h.symm⟩
  | d :: dn, [], r, h1, h2, h => by
    have := congrArg List.length h
    simp [pktL, pkt_len] at this
    omega
  | d :: dn, x :: ls, r, h1, h2, h => by
    have e1 : pktL (x :: ls) = pkt x ++ pktL ls := rfl
    have e2 : pktL (d :: dn) ++ r = pkt d ++ (pktL dn ++ r) := by rw [show pktL (d :: dn) = pkt d ++ pktL dn from rfl, List.append_assoc]
    rw [e1, e2] at h
    have f1 := pkt_fst x (pktL ls) (h2 x (by simp))
    have f2 := pkt_fst d (pktL dn ++ r) (h1 d (by simp))
    rw [← h] at f2
    have hlen := fst_one f1 f2
    have hp : pkt x = pkt d := by
      have := congrArg (List.take (4 + x.length)) h
      rwa [List.take_left' (pkt_len x), List.take_left' (by rw [pkt_len, hlen])] at this
    have hx : x = d := by
      unfold pkt at hp
      rw [hlen] at hp
      exact List.append_cancel_left hp
    subst hx
    obtain ⟨rest, h3, h4⟩ := pktL_pre dn ls r (fun y hy => h1 y (by simp [hy])) (fun y hy => h2 y (by simp [hy])) (List.append_cancel_left h)
    exact ⟨rest, by rw [h3]; rfl, h4⟩
theorem pktL_app (x y : List Str) : pktL (x ++ y) = pktL x ++ pktL y := by simp [pktL]
theorem info23 : (Tryz.prog.info? 25).map (fun i => (i.zero, i.size, i.bytes)) = some (some (.slice none 0 0), 1, 24) := by kernel_rfl
structure LL (w W : World) (B : Nat) (v : Value) (hs : List Value) (ls : List Str) : Prop where
  bl : Below B w W
  le : B ≤ W.heap.size
  row : W.ownsRow B 25 1 v hs.length hs
  len : hs.length = ls.length
  each : ∀ i, i < ls.length → W.ownsRow B 5 1 (hs.getD i undef) (ls.getD i []).length (bv (ls.getD i []))
  dist : ∀ i j, i < j → j < ls.length → ∀ k, (hs.getD i undef).ownBlock = some k → (hs.getD j undef).ownBlock ≠ some k
theorem own_ty {W : World} {B B' : Nat} {e e' : TypeId} {s s' : Nat} {v v' : Value} {n n' : Nat} {xs xs' : List Value} (h : W.ownsRow B e s v n xs) (h' : W.ownsRow B' e' s' v' n' xs') {k : Nat} (hk : v.ownBlock = some k) (hk' : v'.ownBlock = some k) : e = e' := by
  obtain ⟨_, ⟨hv, _⟩ | ⟨g, cap, cur, hv, _, hh, _⟩⟩ := h
  · subst hv; cases hk
  · obtain ⟨_, ⟨hv', _⟩ | ⟨g', cap', cur', hv', _, hh', _⟩⟩ := h'
    · subst hv'; cases hk'
    · subst hv; subst hv'
      have e1 : g = k := Option.some.inj hk
      have e2 : g' = k := Option.some.inj hk'
      subst e1; subst e2
      rw [hh] at hh'
      cases hh'
      rfl
theorem LL.below {w W W' : World} {B : Nat} {v : Value} {hs : List Value} {ls : List Str} (h : LL w W B v hs ls) (hb : Below W.heap.size W W') : LL w W' B v hs ls :=
  ⟨h.bl.trans (hb.mono h.le), Nat.le_trans h.le hb.size, h.row.kept (row := none) (grown_of_below hb _) (by cases v.ownBlock <;> simp), h.len, fun i hi => (h.each i hi).kept (row := none) (grown_of_below hb _) (by cases (hs.getD i undef).ownBlock <;> simp), h.dist⟩
theorem LL.more {w W : World} {B : Nat} {v : Value} {hs : List Value} {ls : List Str} (h : LL w W B v hs ls) (hn : ls.length ≤ 20000) {B1 : Nat} {u : Value} {s : Str} (hu : W.ownsRow B1 5 1 u s.length (bv s)) (hB1 : B ≤ B1) (hnew : ∀ i, i < ls.length → ∀ k, (hs.getD i undef).ownBlock = some k → k < B1) (g : Nat) (hg : W.cell? ⟨g, 0, none⟩ = some u) (ty : TypeId) :
    ∃ v' W', (Builtin.append_ #[134, 134] ty #[v, .slice (some ⟨g, 0, none⟩) 1 1]).run Tryz.prog W = .ok v' W' ∧ LL w W' B v' (hs ++ [u]) (ls ++ [s]) := by
  obtain ⟨i, hi, hz0, hz1, hz2⟩ := info_parts info23
  obtain ⟨v', W', hr, h1, h2, _⟩ := run_append_own_at (P := Tryz.prog) W B 134 ty 25 i _ 1 24 Tryz.underlying134 hi hz0 hz1 hz2 rfl (by decide) v _ _ h.row ⟨g, 0, none⟩ 1 1 [u] rfl (fun j x hj => by
    cases j with
    | zero => cases hj; rw [addr_add]; exact hg
    | succ j => simp at hj) (fun x hx => by
    rw [List.mem_singleton.1 hx]
    obtain ⟨_, ⟨hv, _⟩ | ⟨g, cap, cur, hv, _⟩⟩ := hu
    · rw [hv]; rfl
    · rw [hv]; rfl) (by rw [h.len]; unfold maxLen; omega) (by rw [h.len]; omega) h.le
  have hel : ∀ i, i < ls.length → (hs ++ [u]).getD i undef = hs.getD i undef := fun i hi => by
    rw [List.getD_eq_getElem?_getD, List.getD_eq_getElem?_getD, List.getElem?_append_left (by rw [h.len]; exact hi)]
  have hev : (hs ++ [u]).getD ls.length undef = u := by
    rw [List.getD_eq_getElem?_getD, List.getElem?_append_right (by rw [h.len]; exact Nat.le_refl _), h.len, Nat.sub_self]
    rfl
  have kept : ∀ {C : Nat} {x : Value} {n : Nat} {xs : List Value}, W.ownsRow C 5 1 x n xs → W'.ownsRow C 5 1 x n xs := fun hx => hx.kept h2 (by
    cases hxo : Value.ownBlock _ with
    | none => exact .inl rfl
    | some k => exact .inr (fun e => by
        have := own_ty hx h.row hxo e.symm
        cases this))
  refine ⟨v', W', hr, h.bl.grown h2 h.le (fun k hk => (own_lt h.row k hk).1), Nat.le_trans h.le h2.size, by rw [List.length_append]; exact h1, by rw [List.length_append, List.length_append, h.len]; rfl, fun i hi => ?_, fun i j hij hj k hk => ?_⟩
  · rw [List.length_append, List.length_singleton] at hi
    by_cases e : i < ls.length
    · rw [hel i e, show (ls ++ [s]).getD i [] = ls.getD i [] by rw [List.getD_eq_getElem?_getD, List.getD_eq_getElem?_getD, List.getElem?_append_left e]]
      exact kept (h.each i e)
    · obtain rfl : i = ls.length := by omega
      rw [hev, show (ls ++ [s]).getD ls.length [] = s by rw [List.getD_eq_getElem?_getD, List.getElem?_append_right (Nat.le_refl _), Nat.sub_self]; rfl]
      exact base_mono (kept hu) hB1
  · rw [List.length_append, List.length_singleton] at hj
    rw [hel i (by omega)] at hk
    by_cases e : j < ls.length
    · rw [hel j e]
      exact h.dist i j hij e k hk
    · obtain rfl : j = ls.length := by omega
      rw [hev]
      intro h3
      have h4 := hnew i (by omega) k hk
      have h5 := (own_lt hu k h3).1
      omega
theorem ll_nil (w : World) (B : Nat) (h : B = w.heap.size) : LL w w B (.slice none 0 0) [] [] :=
  ⟨Below.refl _ _, by omega, ⟨rfl, .inl ⟨rfl, rfl⟩⟩, rfl, (fun i hi => absurd hi (by simp)), (fun i j hij hj => absurd hj (by simp))⟩
theorem run_hdr (u : Value) (hu : u.oneCell' = true) (h1 : u.cells = #[u]) (w : World) : (Instr.buildSlice 134 1 #[(0, u)]).run Tryz.prog w = .ok (.slice (some ⟨w.heap.size, 0, none⟩) 1 1) (w.alloc (.cells #[u] 25)) := by
  obtain ⟨i, hq, hz, hs, _⟩ := info_parts info23
  refine run_buildSlice w 134 25 1 _ #[u] i _ Tryz.underlying134 hq hz (by rw [hs]; decide) (by rw [hs]; decide) ?_
  rw [hs]
  have hr : Array.range 1 = #[0] := rfl
  simp [Instr.fill, h1, hr]
theorem own_hdr {W : World} {B : Nat} {e : TypeId} {s : Nat} {u : Value} {n : Nat} {xs : List Value} (h : W.ownsRow B e s u n xs) : u.oneCell' = true ∧ u.cells = #[u] := by
  obtain ⟨_, ⟨hv, _⟩ | ⟨g, cap, cur, hv, _⟩⟩ := h
  · rw [hv]; exact ⟨rfl, rfl⟩
  · rw [hv]; exact ⟨rfl, rfl⟩
theorem Tryz.results119 : Tryz.f119.results = #[.tmp 2, .tmp 3] := by kernel_rfl
def PostL (s : Str) (w : World) (e : Ending) (w' : World) : Prop :=
  Below w.heap.size w w' ∧ ((∃ ls, okL ls ∧ s = pktL ls ∧ ∃ v hs, e = .returned (.tuple #[v, .nilIface]) ∧ LL w w' w.heap.size v hs ls) ∨ ((¬ ∃ ls, okL ls ∧ s = pktL ls) ∧ e = .returned (.tuple #[.slice none 0 0, .iface 37 (.int .i64 110)])))
theorem adX_some {a : Option Addr} {cap j : Nat} (h : ∃ p, a = some p) : ∃ p, adX 1 a cap j = some p := by
  obtain ⟨p, rfl⟩ := h
  unfold adX
  split
  · exact ⟨p, rfl⟩
  · exact ⟨_, rfl⟩
set_option maxRecDepth 20000 in
set_option maxHeartbeats 4000000 in
theorem lines_any {w : World} (a : Option Addr) (cap : Nat) (s : Str) (hP : PB w a cap s) (hl : s.length ≤ 70000) (he : Ers w) (hd : Db w) : Calls Tryz.prog 119 #[.slice a s.length cap] w (PostL s w) := by
  obtain ⟨B, HB⟩ : ∃ B, Hid (w.heap.size = B) := ⟨_, rfl⟩
  have HEW : Hid (∀ W, Below B w W → Ers W) := fun W hW => he.below (by rw [HB.out]; exact hW)
  have HDW : Hid (∀ W, Below B w W → Db W) := fun W hW => hd.b hW HB.out.symm
  have HL0 : Hid (s.length ≤ 70000) := hl
  obtain ⟨m, HM⟩ : ∃ m, Hid (s.length = m) := ⟨_, rfl⟩
  have hm : m ≤ 70000 := by rw [← HM.out]; exact hl
  have HBW : Hid (∀ (aa : Option Addr) (cc : Nat) (r : Str), PB w aa cc r → ∀ W, Below B w W → PB W aa cc r) := fun aa cc r h W hW => h.below (by rw [HB.out]; exact hW)
  have HP := hid hP
  have S0 : Hid (LL w w B (.slice none 0 0) [] []) := hid (ll_nil w B HB.out.symm)
  rw [HM.out]
  clear hP hl he hd
  go_enter Tryz.func119, Tryz.ntmps119
  go_wp2_with fail
  go_loopg [0, 4] m (fun gg bv0 lv wr => ∃ (aa : Option Addr) (k cc : Nat) (r : Str) (dn : List Str) (hs : List Value), bv0 = .slice aa k cc ∧ k = gg ∧ Hid (r.length = k) ∧ Hid (PB w aa cc r) ∧ Hid (s = pktL dn ++ r) ∧ Hid (okL dn) ∧ Hid (LL w wr B lv hs dn) ∧ Hid (dn.length * 4 + r.length ≤ m))
  case atStart => exact ⟨a, m, cap, s, [], [], rfl, rfl, HM, HP, hid rfl, hid (fun x hx => by simp at hx), S0, hid (by rw [HM.out]; simp)⟩
  case round =>
    obtain ⟨aa, k, cc, r, dn, hs, rfl, hk, HRL, HPR, HE, HOK, HLL, HC⟩ := hrel
    have hkm : k ≤ m := by have := HC.out; rw [HRL.out] at this; omega
    by_cases h0 : 0 < k
    · have h0i : (0 : Int) < (k : Int) := by omega
      have C23 : Hid (Calls Tryz.prog 107 #[.slice aa k cc] wr (PostF aa cc r wr)) := hid (by
        have := first_any aa cc r (HBW.out _ _ _ HPR.out wr HLL.out.bl) (by rw [HRL.out]; omega) (HEW.out wr HLL.out.bl) (HDW.out wr HLL.out.bl)
        rw [HRL.out] at this
        exact this)
      have HKG : Hid (k = gk) := hk
      clear hk
      go_wp2_with fail
      refine C23.out.mono ?_
      rintro e w1 ⟨hb1, ⟨n, hf, rfl⟩ | ⟨hno, rfl⟩⟩
      · have HF := hid hf
        have HLL1 : Hid (LL w w1 B u4 hs dn) := hid (HLL.out.below hb1)
        obtain ⟨hpk, hsl⟩ := fst_pkt hf
        have hfl := hf.2.1
        have hf1 := hf.1
        rw [HRL.out] at hfl
        obtain ⟨x, HX⟩ : ∃ x, Hid ((r.drop 4).take n = x) := ⟨_, rfl⟩
        rw [HX.out] at hpk hsl
        have HXL := hid hsl
        have hsome : ∃ p, aa = some p := by
          obtain ⟨b, off, e1, _⟩ := HPR.out.at_ (by rw [HRL.out]; exact h0)
          exact ⟨_, e1⟩
        obtain ⟨p, hp⟩ := adX_some (cap := cc) (j := 4) hsome
        obtain ⟨A2, HA2⟩ : ∃ y, Hid (adX 1 aa cc (4 + n) = y) := ⟨_, rfl⟩
        obtain ⟨c2, HC2⟩ : ∃ y, Hid (cc - (4 + n) = y) := ⟨_, rfl⟩
        obtain ⟨k2, HK2⟩ : ∃ y, Hid (k - (4 + n) = y) := ⟨_, rfl⟩
        obtain ⟨c4, HC4⟩ : ∃ y, Hid (cc - 4 = y) := ⟨_, rfl⟩
        have HPL : Hid (PB w (some p) c4 x) := hid (by
          have := Px.mid HPR.out 4 (4 + n) (by omega) (by rw [HRL.out]; omega)
          rw [hp, HC4.out, show 4 + n - 4 = n by omega, HX.out] at this
          exact this)
        have HPR2 : Hid (PB w A2 c2 (r.drop (4 + n))) := hid (by
          have := Px.from HPR.out (4 + n) (by rw [HRL.out]; omega)
          rw [HA2.out, HC2.out] at this
          exact this)
        have C24 : Hid (Calls Tryz.prog 83 #[.slice (some p) n c4] w1 fun e w' => ∃ v, e = .returned v ∧ w'.ownsRow w1.heap.size 5 1 v x.length (bv x) ∧ Below w1.heap.size w1 w') := hid (by
          have := clone_any p c4 x (HBW.out _ _ _ HPL.out w1 HLL1.out.bl) (by rw [HXL.out]; omega)
          rw [HXL.out] at this
          rw [HXL.out]
          exact this)
        have HPK := hid hpk
        have hdl : dn.length ≤ 20000 := by have := HC.out; omega
        rw [hp, HA2.out, HC2.out, HRL.out, HK2.out, HC4.out]
        clear hf hb1 hpk hsl
        go_wp2_with fail
        refine C24.out.mono ?_
        rintro e w2 ⟨u, rfl, hu, hb2⟩
        have hll2 := HLL1.out.below hb2
        obtain ⟨ho1, ho2⟩ := own_hdr hu
        have hbs := run_hdr u ho1 ho2 w2
        obtain ⟨v5, W5, hr5, hl5⟩ := (hll2.below ((Below.refl _ w2).alloc (Nat.le_refl _) (.cells #[u] 25))).more hdl (hu.alloc (.cells #[u] 25)) HLL1.out.le (fun i hi q hq => by
          have h1 := HLL1.out.each i hi
          exact (own_lt h1 q hq).2) w2.heap.size (by
          have := cell_of_row (w2.alloc (.cells #[u] 25)) w2.heap.size 0 _ 25 (0, 0) (heap_alloc_new w2 _)
          rw [this]; rfl) 134
        obtain ⟨W3, HW3⟩ : ∃ W, Hid (w2.alloc (.cells #[u] 25) = W) := ⟨_, rfl⟩
        rw [HW3.out] at hr5 hbs
        have al3 : w2.alloc (.cells #[u] 25) = W3 := HW3.out
        have HL5 : Hid (LL w W5 B v5 (hs ++ [u]) (dn ++ [x])) := hid hl5
        have HE2 : Hid (s = pktL (dn ++ [x]) ++ r.drop (4 + n)) := hid (by
          rw [pktL_app, List.append_assoc, show pktL [x] = pkt x by simp [pktL], ← HPK.out]; exact HE.out)
        have HOK2 : Hid (okL (dn ++ [x])) := hid (fun y hy => (List.mem_append.1 hy).elim (HOK.out y) (fun h => by rw [List.mem_singleton.1 h, HXL.out]; exact hf1))
        have HC3 : Hid ((dn ++ [x]).length * 4 + (r.drop (4 + n)).length ≤ m) := hid (by
          rw [List.length_append, List.length_singleton, List.length_drop, HRL.out]
          have := HC.out
          rw [HRL.out] at this
          omega)
        have HRL2 : Hid ((r.drop (4 + n)).length = k2) := hid (by rw [List.length_drop, HRL.out, HK2.out])
        have hk2 : k2 < k := by rw [← HK2.out]; omega
        clear hu hb2 hll2 ho1 ho2 hl5
        go_wp2_with (first | (refine wpList_bSY rfl 134 1 _ rfl u _ rfl hbs ?_) | (at_builtin; refine wpList_app rfl _ _ 134 134 rfl 134 rfl _ _ rfl rfl hr5 ?_) | fail)
        go_roundg k2
        case measure => have := HKG.out; omega
        case rel => exact ⟨A2, k2, c2, r.drop (4 + n), dn ++ [x], hs ++ [u], rfl, rfl, HRL2, HPR2, HE2, HOK2, HL5, HC3⟩
      · have HNO : Hid (¬ ∃ ls, okL ls ∧ s = pktL ls) := hid (by
          rintro ⟨ls, h1, h2⟩
          obtain ⟨rest, h3, h4⟩ := pktL_pre dn ls r HOK.out h1 (by rw [← h2]; exact HE.out)
          cases rest with
          | nil =>
            have := congrArg List.length h4
            rw [HRL.out] at this
            simp [pktL] at this
            omega
          | cons x rest =>
            refine hno ⟨x.length, ?_⟩
            rw [h4]
            exact pkt_fst x (pktL rest) (h1 x (by rw [h3]; simp)))
        have HB2 : Hid (Below w.heap.size w w1) := hid (by rw [HB.out]; exact HLL.out.bl.trans (hb1.mono HLL.out.le))
        clear hno hb1
        go_wp2
        refine bodyPost_ret (results_tmp2 Tryz.results119 _ _ _) rfl ?_
        exact ⟨HB2.out, .inr ⟨HNO.out, rfl⟩⟩
    · have h0i : ¬ (0 : Int) < (k : Int) := by omega
      have HE2 : Hid (s = pktL dn) := hid (by
        have hr : r = [] := List.length_eq_zero_iff.1 (by rw [HRL.out]; omega)
        have := HE.out
        rw [hr, List.append_nil] at this
        exact this)
      clear hk
      go_wp2
      refine bodyPost_ret (results_tmp2 Tryz.results119 _ _ _) rfl ?_
      exact ⟨by rw [HB.out]; exact HLL.out.bl, .inl ⟨dn, HOK.out, HE2.out, _, hs, rfl, by rw [HB.out]; exact HLL.out⟩⟩
end Go.Proofs.YtijeogdnjeamaaaGreatDoor
namespace Go.Proofs.YtijeogdnjeamaaaGreatDoor
open Go.RowKit
set_option linter.unusedVariables false
set_option linter.unusedSimpArgs false
theorem conv_mk (l : Str) (w : World) : ∃ cap w', (convert 9 25 (.string ⟨l.toArray⟩)).run Tryz.prog w = .ok (.slice (some ⟨w.heap.size, 0, none⟩) l.length cap) w' ∧ Mk w' w.heap.size cap l ∧ Below w.heap.size w w' := by
  have hr := run_bytes_of_string (P := Tryz.prog) w 9 25 5 ⟨l.toArray⟩ Tryz.underlying9 Tryz.underlying25 Tryz.underlying5
  have hsz : (⟨l.toArray⟩ : ByteArray).size = l.length := by simp [ByteArray.size]
  rw [hsz] at hr
  have hge := grownCap_ge w l.length 0 5
  generalize grownCap w l.length 0 5 = cap at hr hge
  have hrs : (bytesRow ⟨l.toArray⟩ cap).size = cap := by simp [bytesRow, ByteArray.size]; omega
  rw [hrs] at hr
  have h1 : ∀ i, i < l.length → (bytesRow ⟨l.toArray⟩ cap)[i]? = some (.int .u8 ((l.getD i 0).toNat : Int)) := fun i hi => by
    simp [bytesRow, hi, Array.getElem?_append]
  generalize bytesRow ⟨l.toArray⟩ cap = R at hr h1 hrs
  have hh : (w.drew.alloc (.cells R 5 (cap, cap + 1))).heap[w.heap.size]? = some (.cells R 5 (cap, cap + 1)) := by
    show (w.heap.push _)[w.heap.size]? = _
    simp
  refine ⟨cap, _, hr, ⟨by simp, hge, fun j u hj => ?_, fun i g1 g2 => ⟨?_, ?_⟩⟩, rfl, rfl, rfl, by simp, fun k hk => ?_⟩
  · have hl := (List.getElem?_eq_some_iff.1 hj).1
    rw [bv_len] at hl
    unfold bv at hj
    rw [List.getElem?_map, List.getElem?_eq_getElem hl] at hj
    rw [World.cell?, hh]
    have := h1 j hl
    rw [List.getD_eq_getElem?_getD, List.getElem?_eq_getElem hl] at this
    rw [← hj]
    exact this
  · rw [World.cell?, hh]
    show (R[i]?).isSome = true
    rw [Array.getElem?_eq_getElem (by omega)]
    rfl
  · rw [World.frozen?, hh]
    simp
    omega
  · show (w.heap.push _)[k]? = _
    rw [Array.getElem?_push_lt hk, Array.getElem?_eq_getElem hk]
def Apd (w w' : World) (g : Nat) (v : Value) (s : Str) : Prop := ∃ g' cap', v = .slice (some ⟨g', 0, none⟩) s.length cap' ∧ Mk w' g' cap' s ∧ (g' = g ∨ w.heap.size ≤ g') ∧ w.grownBy w' (some g)
theorem mk_room {w : World} {g cap : Nat} {s : Str} (hm : Mk w g cap s) (l : Str) (hr : s.length + l.length ≤ cap) : Mk (w.setCells g s.length (bv l)) g cap (s ++ l) := by
  have hsp : ∀ j, j < (bv l).length → (w.cell? ⟨g, s.length + j, none⟩).isSome = true := fun j hj => by
    rw [bv_len] at hj
    exact (hm.spare (s.length + j) (by omega) (by omega)).1
  refine ⟨Nat.lt_of_lt_of_le hm.lt (grown_cells w g s.length (bv l)).size, by rw [List.length_append]; exact hr, fun j u hj => ?_, fun i h1 h2 => ?_⟩
  · rw [bv_app] at hj
    by_cases hlt : j < s.length
    · rw [World.cell?_setCells_out _ _ _ _ _ (fun _ _ => .inl hlt)]
      rw [List.getElem?_append_left (by rw [bv_len]; exact hlt)] at hj
      exact hm.at_ j u hj
    · rw [List.getElem?_append_right (by rw [bv_len]; omega), bv_len] at hj
      obtain ⟨k, rfl⟩ : ∃ k, j = s.length + k := ⟨j - s.length, by omega⟩
      rw [Nat.add_sub_cancel_left] at hj
      have hk := (List.getElem?_eq_some_iff.1 hj).1
      rw [World.cell?_setCells_in _ _ _ _ hsp k hk, ← List.getElem?_eq_getElem hk]
      exact hj
  · rw [List.length_append] at h1
    rw [World.cell?_setCells_out _ _ _ _ _ (fun _ _ => .inr (by show s.length + (bv l).length ≤ i; rw [bv_len]; exact h1)), World.frozen?_setCells]
    exact hm.spare i (by omega) h2
theorem app_mk (w : World) (g cap : Nat) (s l : Str) (a : Option Addr) (c : Nat) (hm : Mk w g cap s) (hS : PB w a c l) (hl : s.length + l.length ≤ 100000000) :
    ∃ v w', (Builtin.append_ #[25, 25] 25 #[.slice (some ⟨g, 0, none⟩) s.length cap, .slice a l.length c]).run Tryz.prog w = .ok v w' ∧ Apd w w' g v (s ++ l) := by
  obtain ⟨i5, hi, hz0, hz1, hz2⟩ := info_parts Tryz.info5
  by_cases h0 : l.length = 0
  · obtain rfl : l = [] := List.length_eq_zero_iff.1 h0
    refine ⟨.slice (some ⟨g, 0, none⟩) s.length cap, w, ?_, g, cap, by simp, by simpa using hm, .inl rfl, ⟨rfl, rfl, rfl, Nat.le_refl _, fun _ _ _ => rfl⟩⟩
    have hc := hm.capl
    cases a with
    | none => simp [Builtin.append_, run_underlying Tryz.underlying25, sizeOf, typeInfo, hi, Builtin.lenOf, Builtin.firstCells, hc, storeCells]
    | some ad => simp [Builtin.append_, run_underlying Tryz.underlying25, sizeOf, typeInfo, hi, Builtin.lenOf, Builtin.firstCells, hc, storeCells, loadCells, loadCellsFrom]
  · obtain ⟨b, off, rfl, hb, _⟩ := hS.at_ (by omega)
    by_cases hroom : s.length + l.length ≤ cap
    · have hr := run_append_room_cells (P := Tryz.prog) w 25 25 5 i5 Tryz.underlying25 hi g 0 s.length cap ⟨b, off, none⟩ l.length c (bv l) (by rw [hz1, bv_len]; simp) (PB.at hS) (bv_one l) hroom
        (fun j hj => by
          rw [hz1, Nat.zero_add, Nat.mul_one]
          rw [bv_len] at hj
          exact (hm.spare (s.length + j) (by omega) (by omega)).1)
        (fun j hj => by
          rw [hz1, Nat.zero_add, Nat.mul_one]
          rw [bv_len] at hj
          exact (hm.spare (s.length + j) (by omega) (by omega)).2)
      rw [hz1, Nat.zero_add, Nat.mul_one] at hr
      exact ⟨_, _, hr, g, cap, by rw [List.length_append], mk_room hm l hroom, .inl rfl, grown_cells w g _ _⟩
    · obtain ⟨v', w', hr, hown, hg⟩ := run_append_arg_grows (P := Tryz.prog) w 25 25 5 i5 (.int .u8 0) 1 1 Tryz.underlying25 hi hz0 hz1 hz2 rfl (by omega) ⟨g, 0, none⟩ s.length cap (bv s) (by rw [bv_len]; simp)
        (fun j u hj => by rw [addr_add, Nat.zero_add]; exact hm.at_ j u hj)
        ⟨b, off, none⟩ l.length c (bv l) (by rw [bv_len]; simp) (PB.at hS) (by omega) (by unfold maxLen; omega) (by omega)
      rw [← bv_app, ← List.length_append] at hown
      obtain ⟨g', cap', rfl, h1, h2⟩ := mk_own hown (by rw [List.length_append]; omega)
      exact ⟨_, w', hr, g', cap', rfl, h2, .inr h1, ⟨hg.os, hg.tape, hg.output, hg.size, fun k hk _ => hg.block k hk (by simp)⟩⟩
theorem run_four (a b c d : Int) (w : World) : (Instr.buildSlice 25 4 #[(0, .int .u8 a), (1, .int .u8 b), (2, .int .u8 c), (3, .int .u8 d)]).run Tryz.prog w = .ok (.slice (some ⟨w.heap.size, 0, none⟩) 4 4) (w.alloc (.cells #[.int .u8 a, .int .u8 b, .int .u8 c, .int .u8 d] 5)) := by
  obtain ⟨i, hq, hz, hs, _⟩ := info_parts Tryz.info5
  refine run_buildSlice w 25 5 4 _ #[.int .u8 a, .int .u8 b, .int .u8 c, .int .u8 d] i _ Tryz.underlying25 hq hz (by rw [hs]; decide) (by rw [hs]; decide) ?_
  rw [hs]
  kernel_rfl
theorem exec_bS4 {P : Program} {o : Oper} {a : Act} {w w' : World} (t len : Nat) (x y z q : Operand) (ho : o.op = .buildSlice t len #[(0, x), (1, y), (2, z), (3, q)]) (u1 u2 u3 u4 v : Value) (h1 : a.eval x = u1) (h2 : a.eval y = u2) (h3 : a.eval z = u3) (h4 : a.eval q = u4) (hr : (Instr.buildSlice t len #[(0, u1), (1, u2), (2, u3), (3, u4)]).run P w = .ok v w') : (execOp a.eval o).run P w = .ok (.value v) w' := by
  unfold execOp
  simp [ho, h1, h2, h3, h4, hr, Result.andThen]
def dh : ByteArray := ⟨#[48, 49, 50, 51, 52, 53, 54, 55, 56, 57, 97, 98, 99, 100, 101, 102]⟩
theorem dh_at (d : Nat) (h : d < 16) (w : World) : (Instr.index 9 (.string dh) (.int .i64 d)).run Tryz.prog w = .ok (.int .u8 ((dc d).toNat : Nat)) w := by
  have hc : d = 0 ∨ d = 1 ∨ d = 2 ∨ d = 3 ∨ d = 4 ∨ d = 5 ∨ d = 6 ∨ d = 7 ∨ d = 8 ∨ d = 9 ∨ d = 10 ∨ d = 11 ∨ d = 12 ∨ d = 13 ∨ d = 14 ∨ d = 15 := by omega
  rcases hc with rfl | rfl | rfl | rfl | rfl | rfl | rfl | rfl | rfl | rfl | rfl | rfl | rfl | rfl | rfl | rfl
  all_goals
    show _ = _
    kernel_rfl
theorem exec_ix {o : Oper} {a : Act} {w : World} (x : Operand) (ho : o.op = .index 9 (.const (.string dh)) x) (d : Nat) (h : d < 16) (hx : a.eval x = .int .i64 d) : (execOp a.eval o).run Tryz.prog w = .ok (.value (.int .u8 ((dc d).toNat : Nat))) w := by
  have hr := dh_at d h w
  have hc : a.eval (.const (.string dh)) = .string dh := rfl
  unfold execOp
  simp [ho, hx, hc, Sem.run_bind, hr, Result.andThen]
theorem exec_cv {o : Oper} {a : Act} {w : World} (x : Operand) (ho : o.op = .convert 25 9 x) (u v : Value) (hx : a.eval x = u) (hr : (convert 25 9 u).run Tryz.prog w = .ok v w) : (execOp a.eval o).run Tryz.prog w = .ok (.value v) w := by
  unfold execOp
  simp [ho, hx, Sem.run_bind, hr, Result.andThen]
set_option maxRecDepth 20000 in
set_option maxHeartbeats 2000000 in
theorem digits_any (n : Nat) (hn : n < 65536) (w : World) : Calls Tryz.prog 95 #[.int .i64 n] w fun e w' => e = .returned (.string ⟨(hx4 n).toArray⟩) ∧ Below w.heap.size w w' := by
  obtain ⟨a1, H1⟩ : ∃ x, Hid (n / 4096 = x) := ⟨_, rfl⟩
  obtain ⟨b1, J1⟩ : ∃ x, Hid (a1 % 16 = x) := ⟨_, rfl⟩
  obtain ⟨a2, H2⟩ : ∃ x, Hid (n / 256 = x) := ⟨_, rfl⟩
  obtain ⟨b2, J2⟩ : ∃ x, Hid (a2 % 16 = x) := ⟨_, rfl⟩
  obtain ⟨a3, H3⟩ : ∃ x, Hid (n / 16 = x) := ⟨_, rfl⟩
  obtain ⟨b3, J3⟩ : ∃ x, Hid (a3 % 16 = x) := ⟨_, rfl⟩
  obtain ⟨b4, J4⟩ : ∃ x, Hid (n % 16 = x) := ⟨_, rfl⟩
  have HB : Hid (a1 < 65536 ∧ a2 < 65536 ∧ a3 < 65536 ∧ b1 < 16 ∧ b2 < 16 ∧ b3 < 16 ∧ b4 < 16) := hid (by have h1 := H1.out; have h2 := H2.out; have h3 := H3.out; have j1 := J1.out; have j2 := J2.out; have j3 := J3.out; have j4 := J4.out; omega)
  obtain ⟨ha1, ha2, ha3, hb1, hb2, hb3, hb4⟩ := HB.out
  have e1 : IntKind.i64.wrap (a1 : Int) = a1 := wrap_i64 a1 (by omega)
  have e2 : IntKind.i64.wrap (a2 : Int) = a2 := wrap_i64 a2 (by omega)
  have e3 : IntKind.i64.wrap (a3 : Int) = a3 := wrap_i64 a3 (by omega)
  have HX : Hid (hx4 n = [dc b1, dc b2, dc b3, dc b4]) := hid (by unfold hx4; rw [H1.out, J1.out, H2.out, J2.out, H3.out, J3.out, J4.out])
  have q1 : (n : Int).tdiv 4096 = (a1 : Int) := by rw [Int.tdiv_eq_ediv_of_nonneg (by omega), ← H1.out]; omega
  have r1 : (a1 : Int).tmod 16 = (b1 : Int) := by rw [Int.tmod_eq_emod_of_nonneg (by omega), ← J1.out]; omega
  have q2 : (n : Int).tdiv 256 = (a2 : Int) := by rw [Int.tdiv_eq_ediv_of_nonneg (by omega), ← H2.out]; omega
  have r2 : (a2 : Int).tmod 16 = (b2 : Int) := by rw [Int.tmod_eq_emod_of_nonneg (by omega), ← J2.out]; omega
  have q3 : (n : Int).tdiv 16 = (a3 : Int) := by rw [Int.tdiv_eq_ediv_of_nonneg (by omega), ← H3.out]; omega
  have r3 : (a3 : Int).tmod 16 = (b3 : Int) := by rw [Int.tmod_eq_emod_of_nonneg (by omega), ← J3.out]; omega
  have r4 : (n : Int).tmod 16 = (b4 : Int) := by rw [Int.tmod_eq_emod_of_nonneg (by omega), ← J4.out]; omega
  have HW : Hid (Below w.heap.size w w.drew) := hid (Below.drewR (Below.refl _ _))
  go_enter Tryz.func95, Tryz.ntmps95
  go_wp2_with fail
  refine wp_region_held_drew (S := fun _ => True) (by kernel_rfl) trivial (fun hHeld => ?_)
  generalize w.drew = wd at HW ⊢
  refine takeL (i := 0) (v := ?_) rfl (by kernel_rfl) (by kernel_rfl) (by kernel_rfl) (fun _ _ _ h => h) (Or.inl ⟨by rfl, ?_⟩) hHeld ?_
  rotate_left
  · rintro w' _; go_simp; rfl
  try simp only [Act.put, List.setIfInBounds_toArray, List.set_cons_zero, List.set_cons_succ]
  refine takeL (i := 1) (v := .int .i64 (a1 : Nat)) rfl (by kernel_rfl) (by kernel_rfl) (by kernel_rfl) (fun _ _ _ h => h) (Or.inl ⟨by rfl, ?_⟩) hHeld ?_
  · rintro w' _; go_simp; try rfl
  try simp only [Act.put, List.setIfInBounds_toArray, List.set_cons_zero, List.set_cons_succ]
  refine takeL (i := 2) (v := .int .i64 (b1 : Nat)) rfl (by kernel_rfl) (by kernel_rfl) (by kernel_rfl) (fun _ _ _ h => h) (Or.inl ⟨by rfl, ?_⟩) hHeld ?_
  · rintro w' _; go_simp; try rfl
  try simp only [Act.put, List.setIfInBounds_toArray, List.set_cons_zero, List.set_cons_succ]
  refine takeL (i := 3) (v := .int .u8 ((dc b1).toNat : Nat)) rfl (by kernel_rfl) (by kernel_rfl) (by kernel_rfl) (fun _ _ _ h => h) (Or.inl ⟨by rfl, ?_⟩) hHeld ?_
  · rintro w' _; exact exec_ix (.tmp 5) rfl b1 hb1 rfl
  try simp only [Act.put, List.setIfInBounds_toArray, List.set_cons_zero, List.set_cons_succ]
  refine takeL (i := 4) (v := ?_) rfl (by kernel_rfl) (by kernel_rfl) (by kernel_rfl) (fun _ _ _ h => h) (Or.inl ⟨by rfl, ?_⟩) hHeld ?_
  rotate_left
  · rintro w' _; go_simp; rfl
  try simp only [Act.put, List.setIfInBounds_toArray, List.set_cons_zero, List.set_cons_succ]
  refine takeL (i := 5) (v := .int .i64 (a2 : Nat)) rfl (by kernel_rfl) (by kernel_rfl) (by kernel_rfl) (fun _ _ _ h => h) (Or.inl ⟨by rfl, ?_⟩) hHeld ?_
  · rintro w' _; go_simp; try rfl
  try simp only [Act.put, List.setIfInBounds_toArray, List.set_cons_zero, List.set_cons_succ]
  refine takeL (i := 6) (v := .int .i64 (b2 : Nat)) rfl (by kernel_rfl) (by kernel_rfl) (by kernel_rfl) (fun _ _ _ h => h) (Or.inl ⟨by rfl, ?_⟩) hHeld ?_
  · rintro w' _; go_simp; try rfl
  try simp only [Act.put, List.setIfInBounds_toArray, List.set_cons_zero, List.set_cons_succ]
  refine takeL (i := 7) (v := .int .u8 ((dc b2).toNat : Nat)) rfl (by kernel_rfl) (by kernel_rfl) (by kernel_rfl) (fun _ _ _ h => h) (Or.inl ⟨by rfl, ?_⟩) hHeld ?_
  · rintro w' _; exact exec_ix (.tmp 9) rfl b2 hb2 rfl
  try simp only [Act.put, List.setIfInBounds_toArray, List.set_cons_zero, List.set_cons_succ]
  refine takeL (i := 8) (v := ?_) rfl (by kernel_rfl) (by kernel_rfl) (by kernel_rfl) (fun _ _ _ h => h) (Or.inl ⟨by rfl, ?_⟩) hHeld ?_
  rotate_left
  · rintro w' _; go_simp; rfl
  try simp only [Act.put, List.setIfInBounds_toArray, List.set_cons_zero, List.set_cons_succ]
  refine takeL (i := 9) (v := .int .i64 (a3 : Nat)) rfl (by kernel_rfl) (by kernel_rfl) (by kernel_rfl) (fun _ _ _ h => h) (Or.inl ⟨by rfl, ?_⟩) hHeld ?_
  · rintro w' _; go_simp; try rfl
  try simp only [Act.put, List.setIfInBounds_toArray, List.set_cons_zero, List.set_cons_succ]
  refine takeL (i := 10) (v := .int .i64 (b3 : Nat)) rfl (by kernel_rfl) (by kernel_rfl) (by kernel_rfl) (fun _ _ _ h => h) (Or.inl ⟨by rfl, ?_⟩) hHeld ?_
  · rintro w' _; go_simp; try rfl
  try simp only [Act.put, List.setIfInBounds_toArray, List.set_cons_zero, List.set_cons_succ]
  refine takeL (i := 11) (v := .int .u8 ((dc b3).toNat : Nat)) rfl (by kernel_rfl) (by kernel_rfl) (by kernel_rfl) (fun _ _ _ h => h) (Or.inl ⟨by rfl, ?_⟩) hHeld ?_
  · rintro w' _; exact exec_ix (.tmp 13) rfl b3 hb3 rfl
  try simp only [Act.put, List.setIfInBounds_toArray, List.set_cons_zero, List.set_cons_succ]
  refine takeL (i := 12) (v := ?_) rfl (by kernel_rfl) (by kernel_rfl) (by kernel_rfl) (fun _ _ _ h => h) (Or.inl ⟨by rfl, ?_⟩) hHeld ?_
  rotate_left
  · rintro w' _; go_simp; rfl
  try simp only [Act.put, List.setIfInBounds_toArray, List.set_cons_zero, List.set_cons_succ]
  refine takeL (i := 13) (v := .int .i64 (b4 : Nat)) rfl (by kernel_rfl) (by kernel_rfl) (by kernel_rfl) (fun _ _ _ h => h) (Or.inl ⟨by rfl, ?_⟩) hHeld ?_
  · rintro w' _; go_simp; try rfl
  try simp only [Act.put, List.setIfInBounds_toArray, List.set_cons_zero, List.set_cons_succ]
  refine takeL (i := 14) (v := .int .u8 ((dc b4).toNat : Nat)) rfl (by kernel_rfl) (by kernel_rfl) (by kernel_rfl) (fun _ _ _ h => h) (Or.inl ⟨by rfl, ?_⟩) hHeld ?_
  · rintro w' _; exact exec_ix (.tmp 16) rfl b4 hb4 rfl
  try simp only [Act.put, List.setIfInBounds_toArray, List.set_cons_zero, List.set_cons_succ]
  obtain ⟨W2, HW2⟩ : ∃ W2, Hid (wd.alloc (.cells (bv [dc b1, dc b2, dc b3, dc b4]).toArray 5) = W2) := ⟨_, rfl⟩
  have HB2 : Hid (Below w.heap.size w W2) := hid (by rw [← HW2.out]; exact HW.out.alloc HW.out.size _)
  have HP2 : Hid (PB W2 (some ⟨wd.heap.size, 0, none⟩) 4 [dc b1, dc b2, dc b3, dc b4]) := hid (by rw [← HW2.out]; exact pb_new _ wd 5)
  refine wpAnyH_ready (rs := [15]) (by kernel_rfl) (by simp) ?_
  refine consL rfl (fun KK hKK => ?_) AllReadyH.nil
  refine step_exec (by rfl) (.slice (some ⟨wd.heap.size, 0, none⟩) 4 4) (w' := W2) (exec_bS4 25 4 (.tmp 6) (.tmp 10) (.tmp 14) (.tmp 17) (by rfl) _ _ _ _ _ (by rfl) (by rfl) (by rfl) (by rfl) (by rw [← HW2.out]; exact run_four _ _ _ _ wd)) ?_
  refine hKK.out _ _ trivial (fun _ => ?_)
  clear hKK KK
  try simp only [Act.put, List.setIfInBounds_toArray, List.set_cons_zero, List.set_cons_succ]
  refine wpAnyH_ready (rs := [16]) (by kernel_rfl) (by simp) ?_
  refine consL rfl (fun KK hKK => ?_) AllReadyH.nil
  refine step_exec (by rfl) (sV [dc b1, dc b2, dc b3, dc b4]) (w' := W2) (exec_cv (.tmp 18) (by rfl) _ _ (by rfl) (conv_str HP2.out)) ?_
  refine hKK.out _ _ trivial (fun _ => ?_)
  clear hKK KK
  try simp only [Act.put, List.setIfInBounds_toArray, List.set_cons_zero, List.set_cons_succ]
  refine takeL (i := 17) (v := ?_) rfl (by kernel_rfl) (by kernel_rfl) (by kernel_rfl) (fun _ _ _ h => h) (Or.inl ⟨by rfl, ?_⟩) hHeld ?_
  rotate_left
  · rintro w' _; go_simp; rfl
  try simp only [Act.put, List.setIfInBounds_toArray, List.set_cons_zero, List.set_cons_succ]
  refine wpAnyH_done (by kernel_rfl) ?_ _
  clear hHeld
  go_wp2
  go_ret
  exact ⟨by rw [HX.out]; rfl, HB2.out⟩
end Go.Proofs.YtijeogdnjeamaaaGreatDoor
