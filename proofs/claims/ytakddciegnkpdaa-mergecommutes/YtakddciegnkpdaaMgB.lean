/- The document's 'side'. -/
import Derived.Test.YtakddciegnkpdaaMgR
import Derived.Test.YtakddciegnkpdaaMgA
import Derived.Test.YtakddciegnkpdaaDfR
namespace Go.Proofs.Ytakddciegnkpdaa
open Go.RowKit
set_option linter.unusedVariables false
set_option linter.unusedSimpArgs false
/-- What is asked of the document's 'Edits'. -/
def RefE : Prop := ∀ {w : World} (a : Option Addr) (ca : Nat) (s : Str), PB w a ca s → s.length ≤ 4000 → ∀ (b : Option Addr) (cb : Nat) (t : Str), PB w b cb t → t.length ≤ 4000 → Calls Try.prog 22 #[.slice a s.length ca, .slice b t.length cb] w fun e w' => ∃ v, e = .returned v ∧ BE 52 w w' w.heap.size v (edits (lns s) (lns t))
theorem edits_len (A B : List Str) : (edits A B).length ≤ A.length + B.length := by
  unfold edits
  split
  · exact edL_len A B
  · exact ed_len A B
theorem Try.info4 : (Try.prog.info? 4).map (fun i => (i.zero, i.size, i.bytes)) = some (some (.bool false), 1, 1) := by kernel_rfl
theorem PE.kind {w : World} {b off cap : Nat} {l : List Ed} (h : PE w (some ⟨b, off, none⟩) cap l) (i : Nat) (hi : i < l.length) : w.cell? ⟨b, off + i * 2, none⟩ = some (.int .i64 ((l.getD i (0, [])).1 : Int)) ∧ w.cell? ⟨b, off + i * 2 + 1, none⟩ = some (sV (l.getD i (0, [])).2) := by
  obtain ⟨b', off', e1, _, e3⟩ := h.at_ (by omega)
  cases e1
  exact ⟨e3 i hi 0 _ rfl, e3 i hi 1 _ rfl⟩
theorem mem_sd : ∀ (E : List Ed), ∀ e ∈ E, e.2 ∈ sdA E ∨ e.2 ∈ sdB E
  | [], e, h => by cases h
  | x :: r, e, h => by
    rcases List.mem_cons.1 h with rfl | h
    · rw [sdA, sdB]
      split
      · left; simp
      · split
        · left; simp
        · right; simp
    · have ih := mem_sd r e h
      rw [sdA, sdB]
      split
      · exact ih.elim (fun h => .inl (List.mem_cons_of_mem _ h)) (fun h => .inr (List.mem_cons_of_mem _ h))
      · split
        · exact ih.elim (fun h => .inl (List.mem_cons_of_mem _ h)) .inr
        · exact ih.elim .inl (fun h => .inr (List.mem_cons_of_mem _ h))
theorem rw_own {w : World} {B : Nat} {e : TypeId} {g n c : Nat} {xs : List Value} (h : w.ownsRow B e 1 (.slice (some ⟨g, 0, none⟩) n c) n xs) : Rw w g xs :=
  ⟨(h.lt _ rfl).2, fun i v hv => by
    rw [h.cellAt i (by
      have := (List.getElem?_eq_some_iff.1 hv).1
      have := h.1
      omega)]
    exact hv, h.frozenAt⟩
def PostSd (E : List Ed) (n : Nat) (w : World) (e : Ending) (w' : World) : Prop :=
  ∃ bk bi, e = .returned (.tuple #[.slice (some ⟨bk, 0, none⟩) n n, .slice (some ⟨bi, 0, none⟩) (n + 1) (n + 1)]) ∧ Below w.heap.size w w' ∧ PK w' (some ⟨bk, 0, none⟩) n (sdK E) ∧ PS w' (some ⟨bi, 0, none⟩) (n + 1) (sdI E)
structure QS (b o bi at_ : Nat) (X Y : ByteArray) (W : World) : Prop where
  c0 : W.cell? ⟨b, o + 1, none⟩ = some (.string X)
  c1 : W.cell? ⟨bi, at_, none⟩ = some (.string Y)
set_option maxRecDepth 20000 in
set_option maxHeartbeats 2000000 in
theorem refSide_any (hRef : RefE) {w : World} (a : Option Addr) (ca : Nat) (s : Str) (hA : PB w a ca s) (hs : s.length ≤ 4000) (b : Option Addr) (cb : Nat) (t : Str) (hB : PB w b cb t) (ht : t.length ≤ 4000) :
    Calls Try.prog 16 #[.slice a s.length ca, .slice b t.length cb] w (PostSd (edits (lns s) (lns t)) (lns s).length w) := by
  obtain ⟨E, HE⟩ : ∃ E, Hid (edits (lns s) (lns t) = E) := ⟨_, rfl⟩
  obtain ⟨n, HNL⟩ : ∃ n, Hid ((lns s).length = n) := ⟨_, rfl⟩
  have HAE : Hid ((sdA E).length = n) := hid (by rw [← HE.out, ← HNL.out, (edits_A _ _).1])
  have HKD : Hid (∀ e ∈ E, e.1 ≤ 2) := hid (by rw [← HE.out]; exact edits_kind _ _)
  have hEl : E.length ≤ 8000 := by rw [← HE.out]; have h1 := edits_len (lns s) (lns t); have h2 := lns_few s; have h3 := lns_few t; omega
  have hn4 : n ≤ 4000 := by rw [← HNL.out]; have := lns_few s; omega
  have HSH : Hid (∀ j i, ((Ij E n j).getD i []).length ≤ 4000) := hid (fun j i => by rw [← HE.out, ← HNL.out]; exact Nat.le_trans (Ij_short s t j i) ht)
  have HLS : Hid (∀ e ∈ E, e.2.length ≤ 4000) := hid (fun e he => by
    rcases mem_sd E e he with h | h
    · rw [← HE.out, (edits_A _ _).1] at h
      exact Nat.le_trans (lns_short s _ h) hs
    · rw [← HE.out, (edits_A _ _).2] at h
      exact Nat.le_trans (lns_short t _ h) ht)
  obtain ⟨p, HP⟩ : ∃ n, Hid (s.length = n) := ⟨_, rfl⟩
  obtain ⟨q, HQ⟩ : ∃ n, Hid (t.length = n) := ⟨_, rfl⟩
  obtain ⟨g, HG⟩ : ∃ g, Hid (w.heap.size = g) := ⟨_, rfl⟩
  have C22 : Hid (Calls Try.prog 22 #[.slice a p ca, .slice b q cb] w fun e w' => ∃ v, e = .returned v ∧ BE 52 w w' w.heap.size v E) := hid (by rw [← HP.out, ← HQ.out, ← HE.out]; exact hRef a ca s hA hs b cb t hB ht)
  have C15 : Hid (∀ W, Below g w W → Calls Try.prog 15 #[.slice a p ca] W (PostS (lns s) W)) := fun W hW => by rw [← HP.out]; exact refLines_any a ca s (hA.below (by rw [HG.out]; exact hW)) hs
  obtain ⟨i4, hi4, hz40, hz41, hz42⟩ := info_parts Try.info4
  obtain ⟨i9, hi9, hz90, hz91, hz92⟩ := info_parts Try.info9
  rw [HP.out, HQ.out, HNL.out, HE.out]
  clear hA hB hs ht hRef
  go_enter Try.func16, Try.ntmps16
  go_wp2_with fail
  refine C22.out.mono ?_
  rintro e w1 ⟨v, rfl, hbe⟩
  obtain ⟨ea, ec, rfl, hpe, hea, _⟩ := hbe.px (d := (0, [])) (fun x _ => encE_len x)
  have HB1 : Hid (Below g w w1) := hid (by rw [← HG.out]; exact hbe.below)
  have HPE1 : Hid (PE w1 ea ec E) := hpe
  have HEA : Hid (∀ p : Addr, ea = some p → p.block < w1.heap.size) := fun p hp => (hea p hp).2
  clear hbe hpe hea
  go_wp2_with fail
  refine (C15.out w1 HB1.out).mono ?_
  rintro e w2 ⟨v, rfl, hbs⟩
  obtain ⟨xa, xc, rfl, hps, hxa, _⟩ := hbs.px (d := []) (fun x _ => encS_len x)
  have hb2 := hbs.below
  have HB2 : Hid (Below g w w2) := hid (HB1.out.trans (hb2.mono (by have := HB1.out.size; have := HG.out; omega)))
  have HPE2 : Hid (PE w2 ea ec E) := hid (HPE1.out.below hb2)
  have HEA2 : Hid (∀ p : Addr, ea = some p → p.block < w2.heap.size) := fun p hp => Nat.lt_of_lt_of_le (HEA.out p hp) hb2.size
  rw [HNL.out]
  clear hbs hps hxa hb2
  go_wp2_with (at_make; refine wpList_make_full _ rfl _ _ 38 rfl w2.heap.size 4 i4 (.bool false) 1 Try.underlying38 hi4 hz40 hz41 _ _ _ _ n rfl rfl ?c1 ?c2 ?c3 ?c4 ?c5 ?_)
  case c1 => omega
  case c2 => omega
  case c3 => rw [hz42]; omega
  case c4 => unfold maxLen; omega
  case c5 => exact Nat.le_refl _
  intro w3 hown hgrow
  obtain ⟨bk, HGK⟩ : ∃ x, Hid (w2.heap.size = x) := ⟨_, rfl⟩
  rw [HGK.out] at hown ⊢
  have HB3 : Hid (Below g w w3) := hid (HB2.out.grown hgrow (by have := HB2.out.size; have := HG.out; omega) (fun k hk => by cases hk))
  have HR3 : Hid (Rw w3 bk ((Kj E n 0).map Value.bool)) := hid (by
    have := rw_own hown
    rw [toList_madeCells_one] at this
    rw [Kj_zero, List.map_replicate]
    exact this)
  have HPE3 : Hid (PE w3 ea ec E) := hid (HPE2.out.below ⟨hgrow.os, hgrow.tape, hgrow.output, hgrow.size, fun k hk => hgrow.block k hk (by simp)⟩)
  have hbk : bk < w3.heap.size := HR3.out.lt
  have HEK : Hid (∀ p : Addr, ea = some p → p.block < bk) := hid (by rw [← HGK.out]; exact HEA2.out)
  have HGg : Hid (g ≤ bk) := hid (by have := HB2.out.size; have := HG.out; have := HGK.out; omega)
  clear hown hgrow
  go_wp2_with (at_make; refine wpList_make_full _ rfl _ _ 36 rfl w3.heap.size 9 i9 (.string ⟨#[]⟩) 1 Try.underlying36 hi9 hz90 hz91 _ _ _ _ (n + 1) rfl rfl ?c1 ?c2 ?c3 ?c4 ?c5 ?_)
  case c1 => omega
  case c2 => omega
  case c3 => rw [hz92]; omega
  case c4 => unfold maxLen; omega
  case c5 => exact Nat.le_refl _
  intro w4 hown hgrow
  obtain ⟨bi, HGI⟩ : ∃ x, Hid (w3.heap.size = x) := ⟨_, rfl⟩
  rw [HGI.out] at hown ⊢
  have HB4 : Hid (Below g w w4) := hid (HB3.out.grown hgrow (by have := HB3.out.size; have := HG.out; omega) (fun k hk => by cases hk))
  have HI4 : Hid (Rw w4 bi ((Ij E n 0).map sV)) := hid (by
    have := rw_own hown
    rw [toList_madeCells_one] at this
    rw [Ij_zero, List.map_replicate]
    exact this)
  have HK4 : Hid (Rw w4 bk ((Kj E n 0).map Value.bool)) := hid (HR3.out.kept (hgrow.block bk hbk (by simp)))
  have HPE4 : Hid (PE w4 ea ec E) := hid (HPE3.out.below ⟨hgrow.os, hgrow.tape, hgrow.output, hgrow.size, fun k hk => hgrow.block k hk (by simp)⟩)
  have hki : bk < bi := by have := HGI.out; omega
  have HFE : Hid (∀ W, Below bk w4 W → PE W ea ec E) := fun W hW => by
    refine ⟨HPE4.out.capl, fun h0 => ?_, HPE4.out.nil⟩
    obtain ⟨b, off, e1, e2, e3⟩ := HPE4.out.at_ h0
    have hlt := HEK.out _ e1
    exact ⟨b, off, e1, Nat.lt_of_lt_of_le e2 hW.size, fun i hi j v hv => (hW.cell (p := ⟨b, off + i * 2 + j, none⟩) hlt).trans (e3 i hi j v hv)⟩
  have HFA : Hid (0 < E.length → ∃ b off, ea = some ⟨b, off, none⟩) := fun h0 => by
    obtain ⟨b, off, e1, _⟩ := HPE4.out.at_ h0
    exact ⟨b, off, e1⟩
  have HGi : Hid (g ≤ bi) := hid (by have := HGg.out; omega)
  clear hown hgrow hbk
  obtain ⟨l, HL⟩ : ∃ l, Hid (E.length = l) := ⟨_, rfl⟩
  have hll : l ≤ 8000 := by rw [← HL.out]; exact hEl
  rw [HL.out]
  clear hEl
  go_wp2_with fail
  go_loopg [10, 11] l (fun gg av iv wr => ∃ j k : Nat, iv = .int .i64 j ∧ av = .int .i64 k ∧ j ≤ l ∧ gg = l - j ∧ k ≤ n ∧ Hid (aj E j = k) ∧ Hid (Below bk w4 wr) ∧ Hid (Rw wr bk ((Kj E n j).map Value.bool)) ∧ Hid (Rw wr bi ((Ij E n j).map sV)))
  case atStart => exact ⟨0, 0, rfl, rfl, Nat.zero_le _, rfl, Nat.zero_le _, hid (by simp [aj, sdA]), hid (Below.refl _ _), HK4, HI4⟩
  case round =>
    obtain ⟨j, k, rfl, rfl, hj, hg', hkn, HAJ, HB, HK, HI⟩ := hrel
    by_cases hlt : j < l
    · have hlti : (j : Int) < (l : Int) := by omega
      obtain ⟨eb, eo, hae⟩ := HFA.out (by have := HL.out; omega)
      subst hae
      have hjE : j < E.length := by rw [HL.out]; exact hlt
      obtain ⟨x, HX⟩ : ∃ x, Hid (E.getD j (0, []) = x) := ⟨_, rfl⟩
      obtain ⟨hc0, hc1⟩ := (HFE.out wr HB.out).kind j hjE
      rw [HX.out] at hc0 hc1
      obtain ⟨kd, ln⟩ := x
      simp only [] at hc0 hc1
      have hkd : kd ≤ 2 := by
        have := HKD.out (E.getD j (0, [])) (getD_mem E j _ hjE)
        rw [HX.out] at this
        exact this
      have HJE : Hid (j < E.length) := hjE
      have HC1 := hid hc1
      clear hc1 hjE
      by_cases h0 : kd = 0
      · subst h0
        have hst := step_keep E j HJE.out (by rw [HX.out])
        rw [HAE.out, HAJ.out] at hst
        obtain ⟨s1, s2, s3, s4⟩ := hst
        have hkl : k < ((Kj E n j).map Value.bool).length := by
          have := Kj_len E j
          rw [HAE.out] at this
          rw [List.length_map, this]; exact s1
        obtain ⟨u, hu⟩ : ∃ u, wr.cell? ⟨bk, k, none⟩ = some (.bool u) := ⟨(Kj E n j).getD k false, HK.out.at_ k _ (by
          rw [List.length_map] at hkl
          rw [List.getElem?_map, List.getElem?_eq_getElem hkl, List.getD_eq_getElem?_getD, List.getElem?_eq_getElem hkl]
          rfl)⟩
        have hfz := HK.out.fz k
        have HK' : Hid (Rw (wr.setCell ⟨bk, k, none⟩ (.bool true)) bk ((Kj E n (j + 1)).map Value.bool)) := hid (by
          have := HK.out.set k hkl (.bool true)
          rw [s3, List.map_set]
          exact this)
        have HI' : Hid (Rw (wr.setCell ⟨bk, k, none⟩ (.bool true)) bi ((Ij E n (j + 1)).map sV)) := hid (by rw [s4]; exact HI.out.other (by omega) k _)
        have HB' : Hid (Below bk w4 (wr.setCell ⟨bk, k, none⟩ (.bool true))) := hid (HB.out.setCell (p := ⟨bk, k, none⟩) (Nat.le_refl _) _)
        have HA' := hid s2
        have hk1 : k < n := s1
        have hk1i : (k : Int) < (n : Int) := by omega
        clear s1 s2 s3 s4 hkl
        go_wp2
        go_roundg (l - (j + 1))
        case measure => omega
        case rel => exact ⟨j + 1, k + 1, by go_num, by go_num, by omega, rfl, by omega, HA', HB', HK', HI'⟩
      · by_cases h1 : kd = 1
        · subst h1
          have hst := step_drop E j HJE.out (by rw [HX.out])
          rw [HAE.out, HAJ.out] at hst
          obtain ⟨s1, s2, s3, s4⟩ := hst
          have HK' : Hid (Rw wr bk ((Kj E n (j + 1)).map Value.bool)) := hid (by rw [s3]; exact HK.out)
          have HI' : Hid (Rw wr bi ((Ij E n (j + 1)).map sV)) := hid (by rw [s4]; exact HI.out)
          have HA' := hid s2
          have hk1 : k < n := s1
          clear s1 s2 s3 s4
          go_wp2
          go_roundg (l - (j + 1))
          case measure => omega
          case rel => exact ⟨j + 1, k + 1, by go_num, by go_num, by omega, rfl, by omega, HA', HB, HK', HI'⟩
        · obtain rfl : kd = 2 := by omega
          have hst := step_ins E j HJE.out (by rw [HX.out]; show ¬ 2 ≤ 1; decide)
          rw [HAE.out, HAJ.out, HX.out] at hst
          obtain ⟨s2, s3, s4⟩ := hst
          obtain ⟨y, HY⟩ : ∃ y, Hid ((Ij E n j).getD k [] = y) := ⟨_, rfl⟩
          have hil : k < ((Ij E n j).map sV).length := by
            have := Ij_len E j
            rw [HAE.out] at this
            rw [List.length_map, this]; omega
          have hcy : wr.cell? ⟨bi, k, none⟩ = some (sV y) := HI.out.at_ k _ (by
            rw [List.length_map] at hil
            rw [List.getElem?_map, List.getElem?_eq_getElem hil, ← HY.out, List.getD_eq_getElem?_getD, List.getElem?_eq_getElem hil]
            rfl)
          obtain ⟨X, HXX⟩ : ∃ X, Hid ((⟨ln.toArray⟩ : ByteArray) = X) := ⟨_, rfl⟩
          obtain ⟨Y, HYY⟩ : ∃ X, Hid ((⟨y.toArray⟩ : ByteArray) = X) := ⟨_, rfl⟩
          obtain ⟨Z, HZ⟩ : ∃ Z, Y ++ X = Z := ⟨_, rfl⟩
          have sX : X.size ≤ 4000 := by
            have := HLS.out (E.getD j (0, [])) (getD_mem E j _ HJE.out)
            rw [HX.out] at this
            rw [← HXX.out]
            simpa [ByteArray.size] using this
          have sY : Y.size ≤ 4000 := by
            have := HSH.out j k
            rw [HY.out] at this
            rw [← HYY.out]
            simpa [ByteArray.size] using this
          have HQ0 : Hid (QS eb (eo + j * 2) bi k X Y wr.drew) := hid ⟨by rw [← HXX.out]; exact HC1.out, by rw [← HYY.out]; exact hcy⟩
          have hfz : wr.drew.frozen? ⟨bi, k, none⟩ = false := HI.out.fz k
          have HI' : Hid (Rw (wr.drew.setCell ⟨bi, k, none⟩ (.string Z)) bi ((Ij E n (j + 1)).map sV)) := hid (by
            have := HI.out.drew.set k hil (.string Z)
            rw [s4, List.map_set, HY.out]
            have e : sV (y ++ ln) = .string Z := by unfold sV; rw [← HZ, ← HYY.out, ← HXX.out, str_app]
            rw [e]
            exact this)
          have HK' : Hid (Rw (wr.drew.setCell ⟨bi, k, none⟩ (.string Z)) bk ((Kj E n (j + 1)).map Value.bool)) := hid (by rw [s3]; exact HK.out.drew.other (by omega) k _)
          have HB' : Hid (Below bk w4 (wr.drew.setCell ⟨bi, k, none⟩ (.string Z))) := hid (Below.setCell (w := wr.drew) (HB.out.trans ⟨rfl, rfl, rfl, Nat.le_refl _, fun _ _ => rfl⟩) (p := ⟨bi, k, none⟩) (by show bk ≤ bi; omega) _)
          have HA' := hid s2
          have hki1 : (k : Int) < (n : Int) + 1 := by omega
          clear s2 s3 s4 hil hcy HC1
          go_wp2_with fail
          have hS0 := HQ0.out
          refine region_U (QS eb (eo + j * 2) bi k X Y) 13 (by kernel_rfl) ?_
          generalize wr.drew = w5 at hS0 HI' HK' HB' hfz ⊢
          refine takeU (i := 0) (v := ?_) rfl (by kernel_rfl) (by kernel_rfl) (by kernel_rfl) (by kernel_rfl) (fun _ _ _ h => h) (Or.inl ⟨by rfl, ?_⟩) hS0 ?_
          rotate_left
          · rintro w' ⟨c0, c1⟩; go_simp; rfl
          try simp only [Act.put, List.setIfInBounds_toArray, List.set_cons_zero, List.set_cons_succ]
          refine takeU (i := 1) (v := ?_) rfl (by kernel_rfl) (by kernel_rfl) (by kernel_rfl) (by kernel_rfl) (fun _ _ _ h => h) (Or.inl ⟨by rfl, ?_⟩) hS0 ?_
          rotate_left
          · rintro w' ⟨c0, c1⟩; go_simp; rfl
          try simp only [Act.put, List.setIfInBounds_toArray, List.set_cons_zero, List.set_cons_succ]
          refine takeU (i := 2) (v := ?_) rfl (by kernel_rfl) (by kernel_rfl) (by kernel_rfl) (by kernel_rfl) (fun _ _ _ h => h) (Or.inl ⟨by rfl, ?_⟩) hS0 ?_
          rotate_left
          · rintro w' ⟨c0, c1⟩; go_simp; rfl
          try simp only [Act.put, List.setIfInBounds_toArray, List.set_cons_zero, List.set_cons_succ]
          refine takeU (i := 3) (v := ?_) rfl (by kernel_rfl) (by kernel_rfl) (by kernel_rfl) (by kernel_rfl) (fun _ _ _ h => h) (Or.inl ⟨by rfl, ?_⟩) hS0 ?_
          rotate_left
          · rintro w' ⟨c0, c1⟩; go_simp; rfl
          try simp only [Act.put, List.setIfInBounds_toArray, List.set_cons_zero, List.set_cons_succ]
          refine takeU (i := 4) (v := ?_) rfl (by kernel_rfl) (by kernel_rfl) (by kernel_rfl) (by kernel_rfl) (fun _ _ _ h => h) (Or.inl ⟨by rfl, ?_⟩) hS0 ?_
          rotate_left
          · rintro w' ⟨c0, c1⟩; go_simp; rfl
          try simp only [Act.put, List.setIfInBounds_toArray, List.set_cons_zero, List.set_cons_succ]
          refine takeU (i := 5) (v := ?_) rfl (by kernel_rfl) (by kernel_rfl) (by kernel_rfl) (by kernel_rfl) (fun _ _ _ h => h) (Or.inl ⟨by rfl, ?_⟩) hS0 ?_
          rotate_left
          · rintro w' ⟨c0, c1⟩; go_simp; rfl
          try simp only [Act.put, List.setIfInBounds_toArray, List.set_cons_zero, List.set_cons_succ]
          refine takeU (i := 6) (v := ?_) rfl (by kernel_rfl) (by kernel_rfl) (by kernel_rfl) (by kernel_rfl) (fun _ _ _ h => h) (Or.inl ⟨by rfl, ?_⟩) hS0 ?_
          rotate_left
          · rintro w' ⟨c0, c1⟩; go_simp; rfl
          try simp only [Act.put, List.setIfInBounds_toArray, List.set_cons_zero, List.set_cons_succ]
          refine takeU (i := 7) (v := ?_) rfl (by kernel_rfl) (by kernel_rfl) (by kernel_rfl) (by kernel_rfl) (fun _ _ _ h => h) (Or.inl ⟨by rfl, ?_⟩) hS0 ?_
          rotate_left
          · rintro w' ⟨c0, c1⟩; go_simp; rfl
          try simp only [Act.put, List.setIfInBounds_toArray, List.set_cons_zero, List.set_cons_succ]
          refine takeU (i := 8) (v := ?_) rfl (by kernel_rfl) (by kernel_rfl) (by kernel_rfl) (by kernel_rfl) (fun _ _ _ h => h) (Or.inl ⟨by rfl, ?_⟩) hS0 ?_
          rotate_left
          · rintro w' ⟨c0, c1⟩; go_simp; rfl
          try simp only [Act.put, List.setIfInBounds_toArray, List.set_cons_zero, List.set_cons_succ]
          refine takeU (i := 9) (v := ?_) rfl (by kernel_rfl) (by kernel_rfl) (by kernel_rfl) (by kernel_rfl) (fun _ _ _ h => h) (Or.inl ⟨by rfl, ?_⟩) hS0 ?_
          rotate_left
          · rintro w' ⟨c0, c1⟩; go_simp; rfl
          try simp only [Act.put, List.setIfInBounds_toArray, List.set_cons_zero, List.set_cons_succ]
          refine takeU (i := 10) (v := ?_) rfl (by kernel_rfl) (by kernel_rfl) (by kernel_rfl) (by kernel_rfl) (fun _ _ _ h => h) (Or.inl ⟨by rfl, ?_⟩) hS0 ?_
          rotate_left
          · rintro w' ⟨c0, c1⟩; go_simp; rfl
          try simp only [Act.put, List.setIfInBounds_toArray, List.set_cons_zero, List.set_cons_succ]
          refine takeU (i := 11) (v := .string Z) rfl (by kernel_rfl) (by kernel_rfl) (by kernel_rfl) (by kernel_rfl) (fun _ _ _ h => h) (Or.inl ⟨by rfl, ?_⟩) hS0 ?_
          · rintro w' ⟨c0, c1⟩; go_simp; first | rfl | omega
          try simp only [Act.put, List.setIfInBounds_toArray, List.set_cons_zero, List.set_cons_succ]
          refine takeU (i := 12) (v := ?_) rfl (by kernel_rfl) (by kernel_rfl) (by kernel_rfl) (by kernel_rfl) (fun _ _ _ h => h) (Or.inl ⟨by rfl, ?_⟩) hS0 ?_
          rotate_left
          · rintro w' ⟨c0, c1⟩; go_simp; rfl
          try simp only [Act.put, List.setIfInBounds_toArray, List.set_cons_zero, List.set_cons_succ]
          refine readyU1 (i := 13) (by kernel_rfl) (consU rfl (fun KK hKK => ?_))
          obtain ⟨c0, c1⟩ := hS0
          go_simp
          refine hKK.out _ _ (.inl rfl) ?_
          clear hKK KK
          try simp only [Act.put, List.setIfInBounds_toArray, List.set_cons_zero, List.set_cons_succ]
          refine doneU (by kernel_rfl) ?_ _
          clear c0 c1 hfz
          generalize w5.setCell ⟨bi, k, none⟩ (.string Z) = w6 at HI' HK' HB' ⊢
          try simp only [Exit.then]
          go_wp2
          go_roundg (l - (j + 1))
          case measure => omega
          case rel => exact ⟨j + 1, k, by go_num, rfl, by omega, rfl, hkn, HA', HB', HK', HI'⟩
    · have hlti : ¬ (j : Int) < (l : Int) := by omega
      have HFK : Hid (PK wr (some ⟨bk, 0, none⟩) n (sdK E)) := hid (by
        have h := HK.out
        have e := Kj_all E j (by rw [HL.out]; omega)
        rw [HAE.out] at e
        rw [e] at h
        exact h.px (fun _ => rfl) (by rw [sdK_len, HAE.out]))
      have HFI : Hid (PS wr (some ⟨bi, 0, none⟩) (n + 1) (sdI E)) := hid (by
        have h := HI.out
        have e := Ij_all E j (by rw [HL.out]; omega)
        rw [HAE.out] at e
        rw [e] at h
        exact h.px (fun _ => rfl) (by rw [sdI_len, HAE.out]))
      have HFB : Hid (Below w.heap.size w wr) := hid (by rw [HG.out]; exact HB4.out.trans (HB.out.mono HGg.out))
      go_wp2
      go_ret2
      exact ⟨bk, bi, rfl, HFB.out, HFK.out, HFI.out⟩
end Go.Proofs.Ytakddciegnkpdaa
