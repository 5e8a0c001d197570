/- The document's order: plainly. -/
import Derived.Test.YtdfihfmmfmoabaaDoorPkL
namespace Go.Proofs.YtdfihfmmfmoabaaDoor
open Go.RowKit Go.Shelf
variable [Inhabited Pn]
set_option linter.unusedVariables false
set_option linter.unusedSectionVars false
set_option linter.unusedSimpArgs false
/-- Ahead of the first one that is not less. -/
def insP (x : Pl) : List Pl → List Pl
  | [] => [x]
  | y :: t => if Lib.bytesOf y.id < Lib.bytesOf x.id then y :: insP x t else x :: y :: t
def srtI (l : List Pl) : List Pl := l.foldl (fun acc x => insP x acc) []
theorem srtI_snoc (l : List Pl) (x : Pl) : srtI (l ++ [x]) = insP x (srtI l) := by simp [srtI]
theorem insP_perm (x : Pl) : ∀ l, (insP x l).Perm (x :: l)
  | [] => List.Perm.refl _
  | y :: t => by
    rw [insP]
    split
    · exact ((insP_perm x t).cons y).trans (List.Perm.swap x y t)
    · exact List.Perm.refl _
theorem insP_srt (x : Pl) : ∀ l, SrtP l → SrtP (insP x l)
  | [], _ => by unfold SrtP; simp [insP]
  | y :: t, h => by
    unfold SrtP at h
    rw [List.pairwise_cons] at h
    rw [insP]
    split
    · rename_i hlt
      unfold SrtP
      rw [List.pairwise_cons]
      refine ⟨fun z hz => ?_, insP_srt x t h.2⟩
      rcases List.mem_cons.1 ((insP_perm x t).subset hz) with rfl | hz
      · exact fun h2 => lex_irrefl _ (lex_trans _ _ _ hlt h2)
      · exact h.1 z hz
    · rename_i hlt
      unfold SrtP
      rw [List.pairwise_cons, List.pairwise_cons]
      refine ⟨fun z hz => ?_, h.1, h.2⟩
      rcases List.mem_cons.1 hz with rfl | hz
      · exact hlt
      · exact lex_ntrans _ _ _ (h.1 z hz) hlt
theorem srtI_both (l : List Pl) : (srtI l).Perm l ∧ SrtP (srtI l) := by
  have key : ∀ (l acc : List Pl), SrtP acc → (l.foldl (fun acc x => insP x acc) acc).Perm (acc ++ l) ∧ SrtP (l.foldl (fun acc x => insP x acc) acc) := by
    intro l
    induction l with
    | nil => intro acc h; simpa using h
    | cons x t ih =>
      intro acc h
      obtain ⟨h1, h2⟩ := ih (insP x acc) (insP_srt x acc h)
      refine ⟨h1.trans ?_, h2⟩
      have := (insP_perm x acc).append_right t
      refine this.trans ?_
      simpa using (List.perm_middle (a := x) (l₁ := acc) (l₂ := t)).symm
  have := key l [] List.Pairwise.nil
  rw [List.nil_append] at this
  exact this
theorem srtI_len (l : List Pl) : (srtI l).length = l.length := (srtI_both l).1.length_eq
theorem insP_at (x : Pl) : ∀ (l : List Pl) (p : Nat), p ≤ l.length → (∀ j, j < p → Lib.bytesOf (l.getD j p0).id < Lib.bytesOf x.id) → (p = l.length ∨ ¬ Lib.bytesOf (l.getD p p0).id < Lib.bytesOf x.id) → insP x l = l.take p ++ x :: l.drop p
  | [], p, hp, _, _ => by
    have : p = 0 := by simpa using hp
    subst this
    simp [insP]
  | y :: t, 0, _, _, h => by
    rw [insP, if_neg]
    · simp
    · rcases h with h | h
      · simp at h
      · simpa using h
  | y :: t, p + 1, hp, hn, h => by
    rw [insP, if_pos (by simpa using hn 0 (by omega)), insP_at x t p (by simpa using hp) (fun j hj => by simpa using hn (j + 1) (by omega)) (by simpa using h)]
    simp
/-- What both readers take: whether bytes are an index of these places and this sum. -/
def Idx (B : List Int) : Prop := (B.length - 1072) % 28 = 0 ∧ okX (rdP B ((B.length - 1072) / 28)) ∧ idxF (srtI (rdP B ((B.length - 1072) / 28))) (rd20 B (B.length - 40)) = B
/-- The places of an index are in order. -/
theorem idx_srt (B : List Int) (hB : IsB B) (h1072 : 1072 ≤ B.length) (h : Idx B) : srtI (rdP B ((B.length - 1072) / 28)) = rdP B ((B.length - 1072) / 28) := by
  obtain ⟨hm, hok, he⟩ := h
  obtain ⟨n, hn⟩ : ∃ n, (B.length - 1072) / 28 = n := ⟨_, rfl⟩
  rw [hn] at hok he ⊢
  have hw : Wp (rdP B n) := rdP_wp B n hB (by omega)
  have hp := (srtI_both (rdP B n)).1
  have hl : (srtI (rdP B n)).length = n := by rw [srtI_len, rdP_len]
  have := rd_back (srtI (rdP B n)) (rd20 B (B.length - 40)) (wp_perm hp hw) (((okX_perm hp).2 hok).1) (rd20_len B _ (by omega))
  rw [he, hl] at this
  exact this.symm
/-- The program's answer is the document's. -/
theorem idx_prog (B : List Int) (hB : IsB B) (h1072 : 1072 ≤ B.length) (s : List Pl) (hp : s.Perm (rdP B ((B.length - 1072) / 28))) (hs : SrtP s) :
    (okX (rdP B ((B.length - 1072) / 28)) ∧ idxF s (rd20 B (1032 + 28 * ((B.length - 1072) / 28))) = B) ↔ Idx B := by
  obtain ⟨n, hn⟩ : ∃ n, (B.length - 1072) / 28 = n := ⟨_, rfl⟩
  unfold Idx
  rw [hn] at hp ⊢
  have hw : Wp (rdP B n) := rdP_wp B n hB (by omega)
  have hq : WfQ s := fun p hp2 => (wp_perm hp hw p hp2).1
  have h20 : (rd20 B (1032 + 28 * n)).length = 20 := rd20_len B _ (by omega)
  have hsl : s.length = n := by rw [hp.length_eq, rdP_len]
  constructor
  · rintro ⟨hok, he⟩
    have hlen := congrArg List.length he
    rw [idxF_len s _ hq h20, hsl] at hlen
    have hone : s = srtI (rdP B n) := srt_one _ _ (hp.trans (srtI_both _).1.symm) (wp_perm hp hw) (((okX_perm hp).2 hok).2) hs (srtI_both _).2
    refine ⟨by omega, hok, ?_⟩
    rw [← hone, show B.length - 40 = 1032 + 28 * n by omega]
    exact he
  · rintro ⟨hm, hok, he⟩
    have hone : s = srtI (rdP B n) := srt_one _ _ (hp.trans (srtI_both _).1.symm) (wp_perm hp hw) (((okX_perm hp).2 hok).2) hs (srtI_both _).2
    refine ⟨hok, ?_⟩
    rw [hone, show 1032 + 28 * n = B.length - 40 by omega]
    exact he
/-- What is written is an index. -/
theorem idx_made (l : List Pl) (sum : List Int) (hw : Wp l) (hok : okX l) (hs : sum.length = 20) : Idx (idxF (srtI l) sum) ∧ rdP (idxF (srtI l) sum) l.length = srtI l := by
  have hp := (srtI_both l).1
  have hw2 := wp_perm hp hw
  have hq : WfQ (srtI l) := fun p hp => (hw2 p hp).1
  have hok2 := (okX_perm hp).2 hok
  have hlen := idxF_len (srtI l) sum hq hs
  rw [srtI_len] at hlen
  have hb := rd_back (srtI l) sum hw2 hok2.1 hs
  rw [srtI_len] at hb
  have hsb := sum_back (srtI l) sum hq hs
  rw [srtI_len] at hsb
  have hn : ((idxF (srtI l) sum).length - 1072) / 28 = l.length := by rw [hlen]; omega
  refine ⟨⟨by rw [hlen]; omega, by rw [hn, hb]; exact hok2, ?_⟩, hb⟩
  rw [hn, hb, show (idxF (srtI l) sum).length - 40 = 1032 + 28 * l.length by rw [hlen]; omega, hsb]
  congr 1
  exact srt_one _ _ (srtI_both _).1 (wp_perm (srtI_both _).1 hw2) (((okX_perm (srtI_both _).1).2 hok2).2) (srtI_both _).2 (srtI_both _).2
end Go.Proofs.YtdfihfmmfmoabaaDoor
