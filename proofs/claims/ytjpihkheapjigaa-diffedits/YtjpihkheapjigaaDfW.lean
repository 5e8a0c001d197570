/- The document's 'Similarity'. -/
import Derived.Test.YtjpihkheapjigaaDfZ
namespace Go.Proofs.Ytjpihkheapjigaa
open Go.RowKit Go.Shelf
set_option linter.unusedVariables false
set_option linter.unusedSimpArgs false
/-- Those that are not used. -/
def rem : List Str → List Bool → List Str
  | y :: ys, b :: bs => if b = true then rem ys bs else y :: rem ys bs
  | _, _ => []
theorem rem_new : ∀ Y : List Str, rem Y (List.replicate Y.length false) = Y
  | [] => rfl
  | y :: Y => by
    have := rem_new Y
    simp [rem, List.replicate_succ, this]
theorem rem_set : ∀ (Y : List Str) (m : List Bool) (k : Nat), k < Y.length → m.length = Y.length → m.getD k false = false → (rem Y m).Perm (Y.getD k [] :: rem Y (m.set k true))
  | [], _, k, h, _, _ => by simp at h
  | y :: Y, [], k, _, h, _ => by simp at h
  | y :: Y, b :: m, 0, h1, h2, h3 => by
    have hb : b = false := by simpa using h3
    subst hb
    simp [rem]
  | y :: Y, b :: m, k + 1, h1, h2, h3 => by
    have ih := rem_set Y m k (by simpa using h1) (by simpa using h2) (by simpa using h3)
    cases b with
    | true => simpa [rem] using ih
    | false =>
      simp only [rem, List.set_cons_succ, if_false, Bool.false_eq_true, List.getD_cons_succ]
      exact (ih.cons y).trans (List.Perm.swap _ _ _)
theorem rem_none : ∀ (Y : List Str) (m : List Bool) (x : Str), (∀ k, k < Y.length → m.getD k false = false → Y.getD k [] ≠ x) → x ∉ rem Y m
  | [], m, x, _ => by cases m <;> simp [rem]
  | y :: Y, [], x, _ => by simp [rem]
  | y :: Y, b :: m, x, h => by
    have ih := rem_none Y m x (fun k hk hm => by have := h (k + 1) (by simpa using hk) (by simpa using hm); simpa using this)
    cases b with
    | true => simpa [rem] using ih
    | false =>
      have h0 := h 0 (by simp) (by simp)
      simp only [rem, if_false, Bool.false_eq_true, List.mem_cons, not_or]
      exact ⟨fun e => h0 (by simpa using e.symm), ih⟩
/-- Flags in memory. -/
structure Fl (F n : Nat) (w wr : World) (m : List Bool) : Prop where
  grown : w.grownBy wr (some F)
  own : wr.ownsRow F 4 1 (.slice (some ⟨F, 0, none⟩) n n) n (m.map Value.bool)
  len : m.length = n
theorem Fl.cell {F n : Nat} {w wr : World} {m : List Bool} (h : Fl F n w wr m) (j : Nat) (hj : j < n) : wr.cell? ⟨F, j, none⟩ = some (.bool (m.getD j false)) ∧ wr.frozen? ⟨F, j, none⟩ = false := by
  refine ⟨?_, h.own.frozenAt j⟩
  rw [h.own.cellAt j (by omega), List.getElem?_map, List.getElem?_eq_getElem (by rw [h.len]; exact hj), List.getD_eq_getElem?_getD, List.getElem?_eq_getElem (by rw [h.len]; exact hj)]
  rfl
theorem Fl.drew {F n : Nat} {w wr : World} {m : List Bool} (h : Fl F n w wr m) : Fl F n w wr.drew m := ⟨⟨h.grown.os, h.grown.tape, h.grown.output, h.grown.size, h.grown.block⟩, h.own.kept (row := none) (grown_drewN1 wr) (.inr (by simp [Value.ownBlock])), h.len⟩
theorem Fl.set {F n : Nat} {w wr : World} {m : List Bool} (h : Fl F n w wr m) (t : Nat) : Fl F n w (wr.setCell ⟨F, t, none⟩ (.bool true)) (m.set t true) := by
  have h1 := h.own.stored t (.bool true)
  refine ⟨h.grown.trans h1.2, ?_, by rw [List.length_set]; exact h.len⟩
  rw [List.map_set]
  exact h1.1
theorem Try.info4 : (Try.prog.info? 4).map (fun i => (i.zero, i.size, i.bytes)) = some (some (.bool false), 1, 1) := by kernel_rfl
theorem und51 : Try.prog.underlying 51 = some (.slice 4) := by kernel_rfl
structure QF (F k by_ oy bx ox : Nat) (u : Bool) (BY BX : ByteArray) (W : World) : Prop where
  c0 : W.cell? ⟨F, k, none⟩ = some (.bool u)
  c1 : W.cell? ⟨by_, oy, none⟩ = some (.string BY)
  c2 : W.cell? ⟨bx, ox, none⟩ = some (.string BX)
theorem simv_self (s : Str) : simv (com List.length (lns s) (lns s)) (s.length + s.length) = 100 := by
  rw [com_self, lns_len]
  unfold simv
  split
  · rfl
  · rename_i h
    have : 200 * s.length / (s.length + s.length) = 100 := by
      rw [show 200 * s.length = 100 * (s.length + s.length) by omega]
      exact Nat.mul_div_cancel _ (by omega)
    rw [this]
    rfl
set_option maxRecDepth 20000 in
set_option maxHeartbeats 4000000 in
theorem refSim_any {w : World} (a : Option Addr) (ca : Nat) (s : Str) (hA : PB w a ca s) (hs : s.length ≤ 4000) (b : Option Addr) (cb : Nat) (t : Str) (hB : PB w b cb t) (ht : t.length ≤ 4000) :
    Calls Try.prog 13 #[.slice a s.length ca, .slice b t.length cb] w fun e w' => e = .returned (.int .i64 (simv (com List.length (lns s) (lns t)) (s.length + t.length))) ∧ Below w.heap.size w w' := by
  by_cases hst : s = t
  · subst hst
    rw [simv_self]
    obtain ⟨n, HN⟩ : ∃ n, Hid (s.length = n) := ⟨_, rfl⟩
    obtain ⟨S, HS⟩ : ∃ S, Hid (sV s = .string S) := ⟨_, rfl⟩
    have hcA : (convert 22 9 (.slice a n ca)).run Try.prog w = .ok (.string S) w := by rw [← HN.out, ← HS.out]; exact conv_str hA
    have hcB : (convert 22 9 (.slice b n cb)).run Try.prog w = .ok (.string S) w := by rw [← HN.out, ← HS.out]; exact conv_str hB
    rw [HN.out]
    clear hA hB hs ht
    go_enter Try.func13, Try.ntmps13
    go_wp2
    go_ret
    exact ⟨rfl, Below.refl _ _⟩
  · obtain ⟨n, HN⟩ : ∃ n, Hid (s.length = n) := ⟨_, rfl⟩
    obtain ⟨m, HM⟩ : ∃ n, Hid (t.length = n) := ⟨_, rfl⟩
    obtain ⟨SA, HSA⟩ : ∃ S, Hid ((⟨s.toArray⟩ : ByteArray) = S) := ⟨_, rfl⟩
    obtain ⟨SB, HSB⟩ : ∃ S, Hid ((⟨t.toArray⟩ : ByteArray) = S) := ⟨_, rfl⟩
    have hcA : (convert 22 9 (.slice a n ca)).run Try.prog w = .ok (.string SA) w := by rw [← HN.out, ← HSA.out]; exact conv_str hA
    have hcB : (convert 22 9 (.slice b m cb)).run Try.prog w = .ok (.string SB) w := by rw [← HM.out, ← HSB.out]; exact conv_str hB
    have hne : ¬ SA = SB := by rw [← HSA.out, ← HSB.out, ba_eq]; exact hst
    have hneb : (SA.toList == SB.toList) = false := by rw [← HSA.out, ← HSB.out, Lib.toList_data, Lib.toList_data]; simpa using hst
    obtain ⟨X, HX⟩ : ∃ X, Hid (lns s = X) := ⟨_, rfl⟩
    obtain ⟨Y, HY⟩ : ∃ X, Hid (lns t = X) := ⟨_, rfl⟩
    obtain ⟨nx, HNX⟩ : ∃ n, Hid (X.length = n) := ⟨_, rfl⟩
    obtain ⟨ny, HNY⟩ : ∃ n, Hid (Y.length = n) := ⟨_, rfl⟩
    obtain ⟨G, HG⟩ : ∃ G, Hid (w.heap.size = G) := ⟨_, rfl⟩
    obtain ⟨C, HC⟩ : ∃ C, Hid (com List.length X Y = C) := ⟨_, rfl⟩
    have hC4 : C ≤ 4000 := by rw [← HC.out]; refine Nat.le_trans (com_le _ _ _) ?_; rw [← HX.out, lns_len]; exact hs
    have hn4 : n ≤ 4000 := by rw [← HN.out]; exact hs
    have hm4 : m ≤ 4000 := by rw [← HM.out]; exact ht
    have hnx4 : nx ≤ 4000 := by have := lns_few s; rw [HX.out, HNX.out] at this; omega
    have hny4 : ny ≤ 4000 := by have := lns_few t; rw [HY.out, HNY.out] at this; omega
    have hnm : ¬ n + m = 0 := fun h => hst (by
      have h1 : s = [] := List.length_eq_zero_iff.1 (by rw [HN.out]; omega)
      have h2 : t = [] := List.length_eq_zero_iff.1 (by rw [HM.out]; omega)
      rw [h1, h2])
    have hI : ¬ (n : Int) + (m : Int) = 0 := by omega
    obtain ⟨D, HD⟩ : ∃ D, Hid (simv C (n + m) = D) := ⟨_, rfl⟩
    have hDD : (200 * (C : Int)).tdiv ((n : Int) + (m : Int)) = D := by
      rw [← HD.out]
      unfold simv
      rw [if_neg hnm, show (200 * (C : Int)) = ((200 * C : Nat) : Int) by omega, show (n : Int) + (m : Int) = ((n + m : Nat) : Int) by omega, Int.ofNat_tdiv]
    have hDb : 0 ≤ D ∧ D ≤ 800000 := by
      rw [← HD.out]
      unfold simv
      rw [if_neg hnm]
      have := Nat.div_le_self (200 * C) (n + m)
      generalize 200 * C / (n + m) = z at this ⊢
      omega
    have HDD : Hid ((200 * (C : Int)).tdiv ((n : Int) + (m : Int)) = D) := hDD
    clear hDD
    have C1 : Hid (Calls Try.prog 9 #[.slice a n ca] w (PostS X w)) := hid (by rw [← HN.out, ← HX.out]; exact refLines_any a ca s hA hs)
    have C2 : Hid (∀ W, Below G w W → Calls Try.prog 9 #[.slice b m cb] W (PostS Y W)) := fun W hW => by rw [← HM.out, ← HY.out]; exact refLines_any b cb t (hB.below (by rw [HG.out]; exact hW)) ht
    obtain ⟨i4, hi4, hz0, hz1, hz2⟩ := info_parts Try.info4
    rw [HN.out, HM.out, HX.out, HY.out, HC.out, HD.out]
    clear hA hB hs ht hst
    go_enter Try.func13, Try.ntmps13
    go_wp2_with fail
    refine C1.out.mono ?_
    rintro e w1 ⟨v, rfl, hbs⟩
    obtain ⟨xa, xc, rfl, hps, hxa, _⟩ := hbs.px (d := []) (fun x _ => encS_len x)
    rw [HNX.out]
    have HPX1 : Hid (PS w1 xa xc X) := hps
    have HXA : Hid (∀ p : Addr, xa = some p → p.block < w1.heap.size) := fun p hp => (hxa p hp).2
    have HB1 : Hid (Below G w w1) := hid (by rw [← HG.out]; exact hbs.below)
    have C2' : Hid (Calls Try.prog 9 #[.slice b m cb] w1 (PostS Y w1)) := hid (C2.out w1 HB1.out)
    clear hbs hps hxa
    go_wp2_with fail
    refine C2'.out.mono ?_
    rintro e w2 ⟨v, rfl, hbs⟩
    obtain ⟨ya, yc, rfl, hps, hya, _⟩ := hbs.px (d := []) (fun x _ => encS_len x)
    rw [HNY.out]
    have HPY2 : Hid (PS w2 ya yc Y) := hps
    have HYA : Hid (∀ p : Addr, ya = some p → p.block < w2.heap.size) := fun p hp => (hya p hp).2
    have HPX2 : Hid (PS w2 xa xc X) := hid (HPX1.out.below hbs.below)
    have HXA2 : Hid (∀ p : Addr, xa = some p → p.block < w2.heap.size) := fun p hp => Nat.lt_of_lt_of_le (HXA.out p hp) hbs.below.size
    have HB2 : Hid (Below G w w2) := hid (HB1.out.trans (hbs.below.mono (by have := HB1.out.size; have := HG.out; omega)))
    clear hbs hps hya
    obtain ⟨F, HF⟩ : ∃ F, Hid (w2.heap.size = F) := ⟨_, rfl⟩
    go_wp2_with (first
      | (at_make; refine wpList_make_full _ rfl _ _ 51 rfl F 4 i4 (.bool false) 1 und51 hi4 hz0 hz1 _ _ _ _ ny rfl rfl ?c1 ?c2 ?c3 ?c4 ?c5 ?_)
      | fail)
    case c1 => rfl
    case c2 => rfl
    case c3 => rw [hz2]; omega
    case c4 => unfold maxLen; omega
    case c5 => rw [HF.out]; exact Nat.le_refl _
    intro w3 hown3 hgr3
    rw [HF.out] at hown3 ⊢
    have hb3 : Below w2.heap.size w2 w3 := ⟨hgr3.os, hgr3.tape, hgr3.output, hgr3.size, fun k hk => hgr3.block k hk (by simp)⟩
    have HPX3 : Hid (PS w3 xa xc X) := hid (HPX2.out.below hb3)
    have HPY3 : Hid (PS w3 ya yc Y) := hid (HPY2.out.below hb3)
    have HXF : Hid (∀ p : Addr, xa = some p → p.block ≠ F) := fun p hp => by have := HXA2.out p hp; rw [HF.out] at this; omega
    have HYF : Hid (∀ p : Addr, ya = some p → p.block ≠ F) := fun p hp => by have := HYA.out p hp; rw [HF.out] at this; omega
    have hGF : G ≤ F := by have := HB2.out.size; have := HG.out; have := HF.out; omega
    have HB3 : Hid (Below G w w3) := hid (HB2.out.trans (hb3.mono (by have := HF.out; omega)))
    have HFL3 : Hid (Fl F ny w3 w3 (List.replicate ny false)) := hid ⟨⟨rfl, rfl, rfl, Nat.le_refl _, fun _ _ _ => rfl⟩, by
      rw [toList_madeCells_one] at hown3
      rw [List.map_replicate]
      exact hown3, by simp⟩
    have HPFX : Hid (0 < nx → ∃ b off, xa = some ⟨b, off, none⟩) := fun h0 => by
      obtain ⟨b, off, e1, _⟩ := HPX3.out.at_ (by rw [HNX.out]; exact h0)
      exact ⟨b, off, e1⟩
    have HPFY : Hid (0 < ny → ∃ b off, ya = some ⟨b, off, none⟩) := fun h0 => by
      obtain ⟨b, off, e1, _⟩ := HPY3.out.at_ (by rw [HNY.out]; exact h0)
      exact ⟨b, off, e1⟩
    have HBF : Hid (∀ W, w3.grownBy W (some F) → Below G w W) := fun W hW => HB3.out.grown hW (by have := HB3.out.size; have := HG.out; omega) (fun k hk => by cases hk; exact hGF)
    clear hown3 hgr3 hb3
    go_wp2_with fail
    go_loopg [8, 9] nx (fun gg nv iv wr => ∃ (i sm : Nat) (fl : List Bool), nv = .int .i64 sm ∧ iv = .int .i64 i ∧ i ≤ nx ∧ gg = nx - i ∧ Hid (Fl F ny w3 wr fl) ∧ Hid (sm + com List.length (X.drop i) (rem Y fl) = C))
    case atStart => exact ⟨0, 0, _, rfl, rfl, Nat.zero_le _, rfl, HFL3, hid (by rw [← HNY.out, rem_new, List.drop_zero, HC.out, Nat.zero_add])⟩
    case round =>
      obtain ⟨i, sm, fl, rfl, rfl, hi, hk, HFL, HSM⟩ := hrel
      have hsm4 : sm ≤ 4000 := by have := HSM.out; omega
      by_cases hlt : i < nx
      · have hlti : (i : Int) < (nx : Int) := by omega
        obtain ⟨bx, ox, hae⟩ := HPFX.out (by omega)
        subst hae
        obtain ⟨x, HXX⟩ : ∃ x, Hid (X.getD i [] = x) := ⟨_, rfl⟩
        obtain ⟨BX, HBX⟩ : ∃ B, Hid ((⟨x.toArray⟩ : ByteArray) = B) := ⟨_, rfl⟩
        obtain ⟨q, HQ⟩ : ∃ q : Nat, Hid (x.length = q) := ⟨_, rfl⟩
        have hbs : BX.size = q := by rw [← HBX.out, txt_len, HQ.out]
        have hq4 : q ≤ 4000 := by
          have h1 := lns_short s x (by rw [HX.out, ← HXX.out]; exact getD_mem X i _ (by rw [HNX.out]; exact hlt))
          rw [HQ.out, HN.out] at h1
          omega
        have HDX : Hid (X.drop i = x :: X.drop (i + 1)) := hid (by
          rw [List.drop_eq_getElem_cons (by rw [HNX.out]; exact hlt), ← HXX.out, List.getD_eq_getElem?_getD, List.getElem?_eq_getElem (by rw [HNX.out]; exact hlt)]
          rfl)
        have HCX : Hid (∀ W, w3.grownBy W (some F) → W.cell? ⟨bx, ox + i, none⟩ = some (.string BX)) := fun W hW => by
          have := PS.cell (HPX3.out.grown HXF.out hW) i (by rw [HNX.out]; exact hlt)
          rw [HXX.out] at this
          rw [this, ← HBX.out]
          rfl
        go_wp2_with fail
        go_loopg [8, 10] ny (fun gg nv kv wr => ∃ k : Nat, nv = .int .i64 sm ∧ kv = .int .i64 k ∧ k ≤ ny ∧ gg = ny - k ∧ Hid (Fl F ny w3 wr fl) ∧ Hid (∀ j, j < k → fl.getD j false = false → Y.getD j [] ≠ x))
        case atStart => exact ⟨0, rfl, rfl, Nat.zero_le _, rfl, HFL, hid (fun j hj => by omega)⟩
        case round =>
          obtain ⟨k, rfl, rfl, hkn, hkk, HFK, HNO⟩ := hrel
          by_cases hkl : k < ny
          · have hkli : (k : Int) < (ny : Int) := by omega
            obtain ⟨by_, oy, hbe⟩ := HPFY.out (by omega)
            subst hbe
            obtain ⟨y, HYY⟩ : ∃ x, Hid (Y.getD k [] = x) := ⟨_, rfl⟩
            obtain ⟨BY, HBY⟩ : ∃ B, Hid ((⟨y.toArray⟩ : ByteArray) = B) := ⟨_, rfl⟩
            have hcy : ∀ W, w3.grownBy W (some F) → W.cell? ⟨by_, oy + k, none⟩ = some (.string BY) := fun W hW => by
              have := PS.cell (HPY3.out.grown HYF.out hW) k (by rw [HNY.out]; exact hkl)
              rw [HYY.out] at this
              rw [this, ← HBY.out]
              rfl
            obtain ⟨u, HU⟩ : ∃ u, Hid (fl.getD k false = u) := ⟨_, rfl⟩
            have HFD : Hid (Fl F ny w3 wr.drew fl) := hid HFK.out.drew
            have HQQ : Hid (QF F k by_ (oy + k) bx (ox + i) u BY BX wr.drew) := hid ⟨by rw [← HU.out]; exact (HFD.out.cell k hkl).1, hcy _ HFD.out.grown, HCX.out _ HFD.out.grown⟩
            clear hcy
            cases u with
            | true =>
              have HNO2 : Hid (∀ j, j < k + 1 → fl.getD j false = false → Y.getD j [] ≠ x) := hid (fun j hj hf => by
                by_cases e : j = k
                · rw [e, HU.out] at hf; cases hf
                · exact HNO.out j (by omega) hf)
              go_wp2_with fail
              refine wp_region_held_drew (S := QF F k by_ (oy + k) bx (ox + i) true BY BX) (by kernel_rfl) HQQ.out (fun hHeld => ?_)
              generalize wr.drew = wd at hHeld HFD ⊢
              refine takeL (i := 0) (v := ?_) rfl (by kernel_rfl) (by kernel_rfl) (by kernel_rfl) (fun _ _ _ h => h) (Or.inl ⟨by rfl, ?_⟩) hHeld ?_
              rotate_left
              · rintro w' ⟨s0, s1, s2⟩; go_simp; rfl
              try simp only [Act.put, List.setIfInBounds_toArray, List.set_cons_zero, List.set_cons_succ]
              refine takeL (i := 1) (v := ?_) rfl (by kernel_rfl) (by kernel_rfl) (by kernel_rfl) (fun _ _ _ h => h) (Or.inl ⟨by rfl, ?_⟩) hHeld ?_
              rotate_left
              · rintro w' ⟨s0, s1, s2⟩; go_simp; rfl
              try simp only [Act.put, List.setIfInBounds_toArray, List.set_cons_zero, List.set_cons_succ]
              refine takeL (i := 2) (v := ?_) rfl (by kernel_rfl) (by kernel_rfl) (by kernel_rfl) (fun _ _ _ h => h) (Or.inl ⟨by rfl, ?_⟩) hHeld ?_
              rotate_left
              · rintro w' ⟨s0, s1, s2⟩; go_simp; rfl
              try simp only [Act.put, List.setIfInBounds_toArray, List.set_cons_zero, List.set_cons_succ]
              refine takeL (i := 3) (v := ?_) rfl (by kernel_rfl) (by kernel_rfl) (by kernel_rfl) (fun _ _ _ h => h) (Or.inl ⟨by rfl, ?_⟩) hHeld ?_
              rotate_left
              · rintro w' ⟨s0, s1, s2⟩; go_simp; rfl
              try simp only [Act.put, List.setIfInBounds_toArray, List.set_cons_zero, List.set_cons_succ]
              refine takeL (i := 4) (v := .bool false) rfl (by kernel_rfl) (by kernel_rfl) (by kernel_rfl) (fun _ _ _ h => h) (Or.inl ⟨by rfl, ?_⟩) hHeld ?_
              · rintro w' ⟨s0, s1, s2⟩; go_simp; try rfl
              try simp only [Act.put, List.setIfInBounds_toArray, List.set_cons_zero, List.set_cons_succ]
              refine takeL (i := 5) (v := .bool false) rfl (by kernel_rfl) (by kernel_rfl) (by kernel_rfl) (fun _ _ _ h => h) (Or.inl ⟨by rfl, ?_⟩) hHeld ?_
              · rintro w' ⟨s0, s1, s2⟩; go_simp; try rfl
              try simp only [Act.put, List.setIfInBounds_toArray, List.set_cons_zero, List.set_cons_succ]
              refine takeL (i := 6) (v := undef) rfl (by kernel_rfl) (by kernel_rfl) (by kernel_rfl) (fun _ _ _ h => h) (Or.inr ⟨by kernel_rfl, rfl⟩) hHeld ?_
              try simp only [Act.put, List.setIfInBounds_toArray, List.set_cons_zero, List.set_cons_succ]
              refine takeL (i := 7) (v := undef) rfl (by kernel_rfl) (by kernel_rfl) (by kernel_rfl) (fun _ _ _ h => h) (Or.inr ⟨by kernel_rfl, rfl⟩) hHeld ?_
              try simp only [Act.put, List.setIfInBounds_toArray, List.set_cons_zero, List.set_cons_succ]
              refine takeL (i := 8) (v := undef) rfl (by kernel_rfl) (by kernel_rfl) (by kernel_rfl) (fun _ _ _ h => h) (Or.inr ⟨by kernel_rfl, rfl⟩) hHeld ?_
              try simp only [Act.put, List.setIfInBounds_toArray, List.set_cons_zero, List.set_cons_succ]
              refine takeL (i := 9) (v := undef) rfl (by kernel_rfl) (by kernel_rfl) (by kernel_rfl) (fun _ _ _ h => h) (Or.inr ⟨by kernel_rfl, rfl⟩) hHeld ?_
              try simp only [Act.put, List.setIfInBounds_toArray, List.set_cons_zero, List.set_cons_succ]
              refine takeL (i := 10) (v := undef) rfl (by kernel_rfl) (by kernel_rfl) (by kernel_rfl) (fun _ _ _ h => h) (Or.inr ⟨by kernel_rfl, rfl⟩) hHeld ?_
              try simp only [Act.put, List.setIfInBounds_toArray, List.set_cons_zero, List.set_cons_succ]
              refine takeL (i := 11) (v := undef) rfl (by kernel_rfl) (by kernel_rfl) (by kernel_rfl) (fun _ _ _ h => h) (Or.inr ⟨by kernel_rfl, rfl⟩) hHeld ?_
              try simp only [Act.put, List.setIfInBounds_toArray, List.set_cons_zero, List.set_cons_succ]
              refine takeL (i := 12) (v := undef) rfl (by kernel_rfl) (by kernel_rfl) (by kernel_rfl) (fun _ _ _ h => h) (Or.inr ⟨by kernel_rfl, rfl⟩) hHeld ?_
              try simp only [Act.put, List.setIfInBounds_toArray, List.set_cons_zero, List.set_cons_succ]
              refine takeL (i := 13) (v := undef) rfl (by kernel_rfl) (by kernel_rfl) (by kernel_rfl) (fun _ _ _ h => h) (Or.inr ⟨by kernel_rfl, rfl⟩) hHeld ?_
              try simp only [Act.put, List.setIfInBounds_toArray, List.set_cons_zero, List.set_cons_succ]
              refine takeL (i := 14) (v := undef) rfl (by kernel_rfl) (by kernel_rfl) (by kernel_rfl) (fun _ _ _ h => h) (Or.inr ⟨by kernel_rfl, rfl⟩) hHeld ?_
              try simp only [Act.put, List.setIfInBounds_toArray, List.set_cons_zero, List.set_cons_succ]
              refine takeL (i := 15) (v := .bool false) rfl (by kernel_rfl) (by kernel_rfl) (by kernel_rfl) (fun _ _ _ h => h) (Or.inl ⟨by rfl, ?_⟩) hHeld ?_
              · rintro w' ⟨s0, s1, s2⟩; go_simp; try rfl
              try simp only [Act.put, List.setIfInBounds_toArray, List.set_cons_zero, List.set_cons_succ]
              refine wpAnyH_done (by kernel_rfl) ?_ _
              clear hHeld
              go_wp2
              go_roundg (ny - (k + 1))
              case measure => omega
              case rel => exact ⟨k + 1, rfl, by go_num, by omega, rfl, HFD, HNO2⟩
            | false =>
              by_cases hyx : y = x
              · have hYX : BY = BX := by rw [← HBY.out, ← HBX.out, hyx]
                subst hYX
                have heq : (BY.toList == BY.toList) = true := by simp
                go_wp2_with fail
                refine wp_region_held_drew (S := QF F k by_ (oy + k) bx (ox + i) false BY BY) (by kernel_rfl) HQQ.out (fun hHeld => ?_)
                generalize wr.drew = wd at hHeld HFD ⊢
                refine takeL (i := 0) (v := ?_) rfl (by kernel_rfl) (by kernel_rfl) (by kernel_rfl) (fun _ _ _ h => h) (Or.inl ⟨by rfl, ?_⟩) hHeld ?_
                rotate_left
                · rintro w' ⟨s0, s1, s2⟩; go_simp; rfl
                try simp only [Act.put, List.setIfInBounds_toArray, List.set_cons_zero, List.set_cons_succ]
                refine takeL (i := 1) (v := ?_) rfl (by kernel_rfl) (by kernel_rfl) (by kernel_rfl) (fun _ _ _ h => h) (Or.inl ⟨by rfl, ?_⟩) hHeld ?_
                rotate_left
                · rintro w' ⟨s0, s1, s2⟩; go_simp; rfl
                try simp only [Act.put, List.setIfInBounds_toArray, List.set_cons_zero, List.set_cons_succ]
                refine takeL (i := 2) (v := ?_) rfl (by kernel_rfl) (by kernel_rfl) (by kernel_rfl) (fun _ _ _ h => h) (Or.inl ⟨by rfl, ?_⟩) hHeld ?_
                rotate_left
                · rintro w' ⟨s0, s1, s2⟩; go_simp; rfl
                try simp only [Act.put, List.setIfInBounds_toArray, List.set_cons_zero, List.set_cons_succ]
                refine takeL (i := 3) (v := ?_) rfl (by kernel_rfl) (by kernel_rfl) (by kernel_rfl) (fun _ _ _ h => h) (Or.inl ⟨by rfl, ?_⟩) hHeld ?_
                rotate_left
                · rintro w' ⟨s0, s1, s2⟩; go_simp; rfl
                try simp only [Act.put, List.setIfInBounds_toArray, List.set_cons_zero, List.set_cons_succ]
                refine takeL (i := 4) (v := .bool true) rfl (by kernel_rfl) (by kernel_rfl) (by kernel_rfl) (fun _ _ _ h => h) (Or.inl ⟨by rfl, ?_⟩) hHeld ?_
                · rintro w' ⟨s0, s1, s2⟩; go_simp; try rfl
                try simp only [Act.put, List.setIfInBounds_toArray, List.set_cons_zero, List.set_cons_succ]
                refine takeL (i := 5) (v := .bool true) rfl (by kernel_rfl) (by kernel_rfl) (by kernel_rfl) (fun _ _ _ h => h) (Or.inl ⟨by rfl, ?_⟩) hHeld ?_
                · rintro w' ⟨s0, s1, s2⟩; go_simp; try rfl
                try simp only [Act.put, List.setIfInBounds_toArray, List.set_cons_zero, List.set_cons_succ]
                refine takeL (i := 6) (v := ?_) rfl (by kernel_rfl) (by kernel_rfl) (by kernel_rfl) (fun _ _ _ h => h) (Or.inl ⟨by kernel_rfl, ?_⟩) hHeld ?_
                rotate_left
                · rintro w' ⟨s0, s1, s2⟩; go_simp; rfl
                try simp only [Act.put, List.setIfInBounds_toArray, List.set_cons_zero, List.set_cons_succ]
                refine takeL (i := 7) (v := ?_) rfl (by kernel_rfl) (by kernel_rfl) (by kernel_rfl) (fun _ _ _ h => h) (Or.inl ⟨by kernel_rfl, ?_⟩) hHeld ?_
                rotate_left
                · rintro w' ⟨s0, s1, s2⟩; go_simp; rfl
                try simp only [Act.put, List.setIfInBounds_toArray, List.set_cons_zero, List.set_cons_succ]
                refine takeL (i := 8) (v := ?_) rfl (by kernel_rfl) (by kernel_rfl) (by kernel_rfl) (fun _ _ _ h => h) (Or.inl ⟨by kernel_rfl, ?_⟩) hHeld ?_
                rotate_left
                · rintro w' ⟨s0, s1, s2⟩; go_simp; rfl
                try simp only [Act.put, List.setIfInBounds_toArray, List.set_cons_zero, List.set_cons_succ]
                refine takeL (i := 9) (v := ?_) rfl (by kernel_rfl) (by kernel_rfl) (by kernel_rfl) (fun _ _ _ h => h) (Or.inl ⟨by kernel_rfl, ?_⟩) hHeld ?_
                rotate_left
                · rintro w' ⟨s0, s1, s2⟩; go_simp; rfl
                try simp only [Act.put, List.setIfInBounds_toArray, List.set_cons_zero, List.set_cons_succ]
                refine takeL (i := 10) (v := ?_) rfl (by kernel_rfl) (by kernel_rfl) (by kernel_rfl) (fun _ _ _ h => h) (Or.inl ⟨by kernel_rfl, ?_⟩) hHeld ?_
                rotate_left
                · rintro w' ⟨s0, s1, s2⟩; go_simp; rfl
                try simp only [Act.put, List.setIfInBounds_toArray, List.set_cons_zero, List.set_cons_succ]
                refine takeL (i := 11) (v := ?_) rfl (by kernel_rfl) (by kernel_rfl) (by kernel_rfl) (fun _ _ _ h => h) (Or.inl ⟨by kernel_rfl, ?_⟩) hHeld ?_
                rotate_left
                · rintro w' ⟨s0, s1, s2⟩; go_simp; rfl
                try simp only [Act.put, List.setIfInBounds_toArray, List.set_cons_zero, List.set_cons_succ]
                refine takeL (i := 12) (v := ?_) rfl (by kernel_rfl) (by kernel_rfl) (by kernel_rfl) (fun _ _ _ h => h) (Or.inl ⟨by kernel_rfl, ?_⟩) hHeld ?_
                rotate_left
                · rintro w' ⟨s0, s1, s2⟩; go_simp; rfl
                try simp only [Act.put, List.setIfInBounds_toArray, List.set_cons_zero, List.set_cons_succ]
                refine takeL (i := 13) (v := ?_) rfl (by kernel_rfl) (by kernel_rfl) (by kernel_rfl) (fun _ _ _ h => h) (Or.inl ⟨by kernel_rfl, ?_⟩) hHeld ?_
                rotate_left
                · rintro w' ⟨s0, s1, s2⟩; go_simp; rfl
                try simp only [Act.put, List.setIfInBounds_toArray, List.set_cons_zero, List.set_cons_succ]
                refine takeL (i := 14) (v := .bool true) rfl (by kernel_rfl) (by kernel_rfl) (by kernel_rfl) (fun _ _ _ h => h) (Or.inl ⟨by kernel_rfl, ?_⟩) hHeld ?_
                · rintro w' ⟨s0, s1, s2⟩; go_simp; try rfl
                try simp only [Act.put, List.setIfInBounds_toArray, List.set_cons_zero, List.set_cons_succ]
                refine takeL (i := 15) (v := .bool true) rfl (by kernel_rfl) (by kernel_rfl) (by kernel_rfl) (fun _ _ _ h => h) (Or.inl ⟨by rfl, ?_⟩) hHeld ?_
                · rintro w' ⟨s0, s1, s2⟩; go_simp; try rfl
                try simp only [Act.put, List.setIfInBounds_toArray, List.set_cons_zero, List.set_cons_succ]
                refine wpAnyH_done (by kernel_rfl) ?_ _
                clear hHeld
                obtain ⟨hc4, hf4⟩ := HFD.out.cell k hkl
                have HFS : Hid (Fl F ny w3 (wd.setCell ⟨F, k, none⟩ (.bool true)) (fl.set k true)) := hid (HFD.out.set k)
                have hcx5 := HCX.out _ HFS.out.grown
                have HSM2 : Hid (sm + q + com List.length (X.drop (i + 1)) (rem Y (fl.set k true)) = C) := hid (by
                  have h1 := HSM.out
                  rw [HDX.out, com_perm_right _ _ (rem_set Y fl k (by rw [HNY.out]; exact hkl) (by rw [HFL.out.len, HNY.out]) HU.out), HYY.out, hyx, com_both, HQ.out] at h1
                  omega)
                have hsq : sm + q ≤ 4000 := by have := HSM2.out; omega
                go_wp2
                go_roundg (nx - (i + 1))
                case measure => omega
                case rel => exact ⟨i + 1, sm + q, fl.set k true, by go_num, by go_num, by omega, rfl, HFS, HSM2⟩
              · have heq : (BY.toList == BX.toList) = false := by rw [← HBY.out, ← HBX.out, Lib.toList_data, Lib.toList_data]; simpa using hyx
                have HNO2 : Hid (∀ j, j < k + 1 → fl.getD j false = false → Y.getD j [] ≠ x) := hid (fun j hj hf => by
                  by_cases e : j = k
                  · rw [e, HYY.out]; exact hyx
                  · exact HNO.out j (by omega) hf)
                go_wp2_with fail
                refine wp_region_held_drew (S := QF F k by_ (oy + k) bx (ox + i) false BY BX) (by kernel_rfl) HQQ.out (fun hHeld => ?_)
                generalize wr.drew = wd at hHeld HFD ⊢
                refine takeL (i := 0) (v := ?_) rfl (by kernel_rfl) (by kernel_rfl) (by kernel_rfl) (fun _ _ _ h => h) (Or.inl ⟨by rfl, ?_⟩) hHeld ?_
                rotate_left
                · rintro w' ⟨s0, s1, s2⟩; go_simp; rfl
                try simp only [Act.put, List.setIfInBounds_toArray, List.set_cons_zero, List.set_cons_succ]
                refine takeL (i := 1) (v := ?_) rfl (by kernel_rfl) (by kernel_rfl) (by kernel_rfl) (fun _ _ _ h => h) (Or.inl ⟨by rfl, ?_⟩) hHeld ?_
                rotate_left
                · rintro w' ⟨s0, s1, s2⟩; go_simp; rfl
                try simp only [Act.put, List.setIfInBounds_toArray, List.set_cons_zero, List.set_cons_succ]
                refine takeL (i := 2) (v := ?_) rfl (by kernel_rfl) (by kernel_rfl) (by kernel_rfl) (fun _ _ _ h => h) (Or.inl ⟨by rfl, ?_⟩) hHeld ?_
                rotate_left
                · rintro w' ⟨s0, s1, s2⟩; go_simp; rfl
                try simp only [Act.put, List.setIfInBounds_toArray, List.set_cons_zero, List.set_cons_succ]
                refine takeL (i := 3) (v := ?_) rfl (by kernel_rfl) (by kernel_rfl) (by kernel_rfl) (fun _ _ _ h => h) (Or.inl ⟨by rfl, ?_⟩) hHeld ?_
                rotate_left
                · rintro w' ⟨s0, s1, s2⟩; go_simp; rfl
                try simp only [Act.put, List.setIfInBounds_toArray, List.set_cons_zero, List.set_cons_succ]
                refine takeL (i := 4) (v := .bool true) rfl (by kernel_rfl) (by kernel_rfl) (by kernel_rfl) (fun _ _ _ h => h) (Or.inl ⟨by rfl, ?_⟩) hHeld ?_
                · rintro w' ⟨s0, s1, s2⟩; go_simp; try rfl
                try simp only [Act.put, List.setIfInBounds_toArray, List.set_cons_zero, List.set_cons_succ]
                refine takeL (i := 5) (v := .bool true) rfl (by kernel_rfl) (by kernel_rfl) (by kernel_rfl) (fun _ _ _ h => h) (Or.inl ⟨by rfl, ?_⟩) hHeld ?_
                · rintro w' ⟨s0, s1, s2⟩; go_simp; try rfl
                try simp only [Act.put, List.setIfInBounds_toArray, List.set_cons_zero, List.set_cons_succ]
                refine takeL (i := 6) (v := ?_) rfl (by kernel_rfl) (by kernel_rfl) (by kernel_rfl) (fun _ _ _ h => h) (Or.inl ⟨by kernel_rfl, ?_⟩) hHeld ?_
                rotate_left
                · rintro w' ⟨s0, s1, s2⟩; go_simp; rfl
                try simp only [Act.put, List.setIfInBounds_toArray, List.set_cons_zero, List.set_cons_succ]
                refine takeL (i := 7) (v := ?_) rfl (by kernel_rfl) (by kernel_rfl) (by kernel_rfl) (fun _ _ _ h => h) (Or.inl ⟨by kernel_rfl, ?_⟩) hHeld ?_
                rotate_left
                · rintro w' ⟨s0, s1, s2⟩; go_simp; rfl
                try simp only [Act.put, List.setIfInBounds_toArray, List.set_cons_zero, List.set_cons_succ]
                refine takeL (i := 8) (v := ?_) rfl (by kernel_rfl) (by kernel_rfl) (by kernel_rfl) (fun _ _ _ h => h) (Or.inl ⟨by kernel_rfl, ?_⟩) hHeld ?_
                rotate_left
                · rintro w' ⟨s0, s1, s2⟩; go_simp; rfl
                try simp only [Act.put, List.setIfInBounds_toArray, List.set_cons_zero, List.set_cons_succ]
                refine takeL (i := 9) (v := ?_) rfl (by kernel_rfl) (by kernel_rfl) (by kernel_rfl) (fun _ _ _ h => h) (Or.inl ⟨by kernel_rfl, ?_⟩) hHeld ?_
                rotate_left
                · rintro w' ⟨s0, s1, s2⟩; go_simp; rfl
                try simp only [Act.put, List.setIfInBounds_toArray, List.set_cons_zero, List.set_cons_succ]
                refine takeL (i := 10) (v := ?_) rfl (by kernel_rfl) (by kernel_rfl) (by kernel_rfl) (fun _ _ _ h => h) (Or.inl ⟨by kernel_rfl, ?_⟩) hHeld ?_
                rotate_left
                · rintro w' ⟨s0, s1, s2⟩; go_simp; rfl
                try simp only [Act.put, List.setIfInBounds_toArray, List.set_cons_zero, List.set_cons_succ]
                refine takeL (i := 11) (v := ?_) rfl (by kernel_rfl) (by kernel_rfl) (by kernel_rfl) (fun _ _ _ h => h) (Or.inl ⟨by kernel_rfl, ?_⟩) hHeld ?_
                rotate_left
                · rintro w' ⟨s0, s1, s2⟩; go_simp; rfl
                try simp only [Act.put, List.setIfInBounds_toArray, List.set_cons_zero, List.set_cons_succ]
                refine takeL (i := 12) (v := ?_) rfl (by kernel_rfl) (by kernel_rfl) (by kernel_rfl) (fun _ _ _ h => h) (Or.inl ⟨by kernel_rfl, ?_⟩) hHeld ?_
                rotate_left
                · rintro w' ⟨s0, s1, s2⟩; go_simp; rfl
                try simp only [Act.put, List.setIfInBounds_toArray, List.set_cons_zero, List.set_cons_succ]
                refine takeL (i := 13) (v := ?_) rfl (by kernel_rfl) (by kernel_rfl) (by kernel_rfl) (fun _ _ _ h => h) (Or.inl ⟨by kernel_rfl, ?_⟩) hHeld ?_
                rotate_left
                · rintro w' ⟨s0, s1, s2⟩; go_simp; rfl
                try simp only [Act.put, List.setIfInBounds_toArray, List.set_cons_zero, List.set_cons_succ]
                refine takeL (i := 14) (v := .bool false) rfl (by kernel_rfl) (by kernel_rfl) (by kernel_rfl) (fun _ _ _ h => h) (Or.inl ⟨by kernel_rfl, ?_⟩) hHeld ?_
                · rintro w' ⟨s0, s1, s2⟩; go_simp; try rfl
                try simp only [Act.put, List.setIfInBounds_toArray, List.set_cons_zero, List.set_cons_succ]
                refine takeL (i := 15) (v := .bool false) rfl (by kernel_rfl) (by kernel_rfl) (by kernel_rfl) (fun _ _ _ h => h) (Or.inl ⟨by rfl, ?_⟩) hHeld ?_
                · rintro w' ⟨s0, s1, s2⟩; go_simp; try rfl
                try simp only [Act.put, List.setIfInBounds_toArray, List.set_cons_zero, List.set_cons_succ]
                refine wpAnyH_done (by kernel_rfl) ?_ _
                clear hHeld
                go_wp2
                go_roundg (ny - (k + 1))
                case measure => omega
                case rel => exact ⟨k + 1, rfl, by go_num, by omega, rfl, HFD, HNO2⟩
          · have hkli : ¬ (k : Int) < (ny : Int) := by omega
            have HSM2 : Hid (sm + com List.length (X.drop (i + 1)) (rem Y fl) = C) := hid (by
              have h1 := HSM.out
              rw [HDX.out, com_miss _ _ _ _ (rem_none Y fl x (fun j hj hf => HNO.out j (by rw [HNY.out] at hj; omega) hf))] at h1
              exact h1)
            go_wp2
            go_roundg (nx - (i + 1))
            case measure => omega
            case rel => exact ⟨i + 1, sm, fl, rfl, by go_num, by omega, rfl, HFK, HSM2⟩
      · have hlti : ¬ (i : Int) < (nx : Int) := by omega
        have hSC : sm = C := by
          have h1 := HSM.out
          rw [List.drop_of_length_le (by rw [HNX.out]; omega)] at h1
          simpa [com] using h1
        have HID : Hid (200 * (C : Int) / ((n : Int) + (m : Int)) = D) := hid (by rw [← HDD.out, Int.tdiv_eq_ediv_of_nonneg (by omega)])
        go_wp2
        go_ret
        exact ⟨ret_int HID.out, by rw [HG.out]; exact HBF.out _ HFL.out.grown⟩
end Go.Proofs.Ytjpihkheapjigaa
