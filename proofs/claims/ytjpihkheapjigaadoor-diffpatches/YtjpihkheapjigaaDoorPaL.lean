/- 'diff.Patch'. -/
import Derived.Test.YtjpihkheapjigaaDoorPaK
import Derived.Test.YtjpihkheapjigaaDoorEdY
namespace Go.Proofs.YtjpihkheapjigaaDoor
open Go.RowKit
set_option linter.unusedVariables false
set_option linter.unusedSimpArgs false
theorem edF_in : ∀ (k : Nat) (xs ys : List Str), ∀ e ∈ edF k xs ys, e.1 ≤ 2 ∧ (e.2 ∈ xs ∨ e.2 ∈ ys)
  | 0, xs, ys, e, he => by simp [edF] at he
  | k + 1, [], [], e, he => by simp [edF] at he
  | k + 1, x :: xs, [], e, he => by
    simp only [edF, List.mem_cons] at he
    rcases he with rfl | he
    · exact ⟨by simp, .inl (by simp)⟩
    · have := edF_in k xs [] e he
      exact ⟨this.1, this.2.elim (fun h => .inl (by simp [h])) .inr⟩
  | k + 1, [], y :: ys, e, he => by
    simp only [edF, List.mem_cons] at he
    rcases he with rfl | he
    · exact ⟨by simp, .inr (by simp)⟩
    · have := edF_in k [] ys e he
      exact ⟨this.1, this.2.elim .inl (fun h => .inr (by simp [h]))⟩
  | k + 1, x :: xs, y :: ys, e, he => by
    simp only [edF] at he
    split at he
    · rcases List.mem_cons.1 he with rfl | he
      · exact ⟨by simp, .inl (by simp)⟩
      · have := edF_in k xs ys e he
        exact ⟨this.1, this.2.elim (fun h => .inl (by simp [h])) (fun h => .inr (by simp [h]))⟩
    · split at he
      · rcases List.mem_cons.1 he with rfl | he
        · exact ⟨by simp, .inl (by simp)⟩
        · have := edF_in k xs (y :: ys) e he
          exact ⟨this.1, this.2.elim (fun h => .inl (by simp [h])) .inr⟩
      · rcases List.mem_cons.1 he with rfl | he
        · exact ⟨by simp, .inr (by simp)⟩
        · have := edF_in k (x :: xs) ys e he
          exact ⟨this.1, this.2.elim .inl (fun h => .inr (by simp [h]))⟩
theorem mk_in (k : Nat) (l : List Str) (hk : k ≤ 2) : ∀ e ∈ mk k l, e.1 ≤ 2 ∧ e.2 ∈ l := fun e he => by
  obtain ⟨x, hx, rfl⟩ := List.mem_map.1 he
  exact ⟨hk, hx⟩
theorem edits_in (A B : List Str) : ∀ e ∈ edits A B, e.1 ≤ 2 ∧ (e.2 ∈ A ∨ e.2 ∈ B) := fun e he => by
  unfold edits at he
  split at he
  · unfold edL at he
    rcases List.mem_append.1 he with h | h
    · have := mk_in 0 _ (by decide) e h
      exact ⟨this.1, .inl (List.mem_of_mem_take this.2)⟩
    · rcases List.mem_append.1 h with h | h
      · have := mk_in 1 _ (by decide) e h
        exact ⟨this.1, .inl (List.mem_of_mem_drop this.2)⟩
      · have := mk_in 2 _ (by decide) e h
        exact ⟨this.1, .inr (List.mem_of_mem_drop this.2)⟩
  · exact edF_in _ A B e he
theorem edits_len (A B : List Str) : (edits A B).length ≤ A.length + B.length := by
  unfold edits
  split
  · exact edL_len A B
  · exact ed_len A B
/-- How many kept lines there are about a change. -/
def ctx (c : Int) : Nat := (min (max c 0) 1000).toNat
theorem ctx_le (c : Int) : ctx c ≤ 1000 := by unfold ctx; omega
set_option maxRecDepth 20000 in
theorem patch_any {w : World} (a : Option Addr) (ca : Nat) (s : Str) (hA : PB w a ca s) (hs : s.length ≤ 4000) (b : Option Addr) (cb : Nat) (t : Str) (hB : PB w b cb t) (ht : t.length ≤ 4000) (c : Int) (hT : Tab w) :
    Calls Tryd.prog 4 #[.slice a s.length ca, .slice b t.length cb, .int .i64 c] w (PostY (patchT (edits (lns s) (lns t)) (ctx c)) w) := by
  obtain ⟨n, HN⟩ : ∃ n, Hid (s.length = n) := ⟨_, rfl⟩
  obtain ⟨m, HM⟩ : ∃ n, Hid (t.length = n) := ⟨_, rfl⟩
  obtain ⟨g, HG⟩ : ∃ g, Hid (w.heap.size = g) := ⟨_, rfl⟩
  obtain ⟨E, HE⟩ : ∃ E, Hid (edits (lns s) (lns t) = E) := ⟨_, rfl⟩
  obtain ⟨C, HC⟩ : ∃ C, Hid (ctx c = C) := ⟨_, rfl⟩
  have hC : C ≤ 1000 := by rw [← HC.out]; exact ctx_le c
  have hcl : min (max c 0) 1000 = (C : Int) := by rw [← HC.out]; unfold ctx; omega
  have hEl : E.length ≤ 10000 := by rw [← HE.out]; have h1 := edits_len (lns s) (lns t); have h2 := lns_few s; have h3 := lns_few t; omega
  have HEi : Hid (∀ e ∈ E, e.1 ≤ 2 ∧ e.2.length ≤ 4000) := fun e he => by
    have h := edits_in (lns s) (lns t) e (by rw [HE.out]; exact he)
    refine ⟨h.1, ?_⟩
    rcases h.2 with h | h
    · have := lns_short s _ h; omega
    · have := lns_short t _ h; omega
  have C9 : Hid (Calls Tryd.prog 9 #[.slice a n ca, .slice b m cb] w (PostW E w)) := hid (by rw [← HN.out, ← HM.out, ← HE.out]; exact edits_any a ca s hA hs b cb t hB ht)
  have HTb : Hid (∀ W, Below g w W → Tab W) := fun W hW => hT.below (by rw [HG.out]; exact hW)
  rw [HN.out, HM.out, HE.out, HC.out]
  clear hA hB hs ht hT
  go_enter Tryd.func4, Tryd.ntmps4
  go_wp2_with fail
  refine C9.out.mono ?_
  rintro ev w1 ⟨v, rfl, hbe⟩
  obtain ⟨ea, ec, rfl, hpe, _, _⟩ := hbe.px (d := (0, [])) (fun x _ => encE_len x)
  have HB1 : Hid (Below g w w1) := hid (by rw [← HG.out]; exact hbe.below)
  have HPE : Hid (PE w1 ea ec E) := hpe
  obtain ⟨l, HL⟩ : ∃ l, Hid (E.length = l) := ⟨_, rfl⟩
  have C8 : Hid (Calls Tryd.prog 8 #[.slice ea l ec, .int .i64 (C : Int)] w1 (PostH ea ec E (sps E C E.length) w1)) := hid (by have := cut_any ea ec E hpe hEl C hC; rw [HL.out] at this ⊢; exact this)
  clear hbe hpe
  rw [HL.out]
  go_wp2_with fail
  refine C8.out.mono ?_
  rintro ev w2 ⟨v, rfl, hbh⟩
  obtain ⟨ha, hc, rfl, hph, _, _⟩ := hbh.px (d := (0, 0)) (fun x _ => encH_len ea ec E x)
  have HB2 : Hid (Below g w w2) := hid (HB1.out.trans (hbh.below.mono (by have := HB1.out.size; rw [HG.out] at this; exact this)))
  obtain ⟨S, HS⟩ : ∃ S, Hid (sps E C E.length = S) := ⟨_, rfl⟩
  have C7 : Hid (Calls Tryd.prog 7 #[.slice ha S.length hc] w2 (PostY (patchT E C) w2)) := hid (by
    unfold patchT
    rw [HS.out] at hph ⊢
    exact writeHunks_any ea ec E (HPE.out.below hbh.below) hEl HEi.out ha hc S hph (by rw [← HS.out]; exact Nat.le_trans (sps_len E C _) hEl) (fun s hs => by have := sps_ok E C E.length (Nat.le_refl _) s (by rw [HS.out]; exact hs); exact ⟨this.1, this.2.1⟩) (HTb.out w2 HB2.out))
  rw [HS.out]
  clear hbh hph
  go_wp2_with fail
  refine C7.out.mono ?_
  rintro ev w3 ⟨pa, pc, rfl, hpb, hb3⟩
  have HPB : Hid (PB w3 pa pc (patchT E C)) := hpb
  have HB3 : Hid (Below g w w3) := hid (HB2.out.trans (hb3.mono (by have := HB2.out.size; rw [HG.out] at this; exact this)))
  clear hpb hb3
  go_wp2
  go_ret
  exact ⟨_, _, rfl, HPB.out, by rw [HG.out]; exact HB3.out⟩
end Go.Proofs.YtjpihkheapjigaaDoor
