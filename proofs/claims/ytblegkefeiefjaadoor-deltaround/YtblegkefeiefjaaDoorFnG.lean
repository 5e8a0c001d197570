/- One byte more, plainly. -/
import Derived.Test.YtblegkefeiefjaaDoorFnF
namespace Go.Proofs.YtblegkefeiefjaaDoor
open Go.RowKit Go.Maps Sam
set_option linter.unusedVariables false

/-- The finder of a text. -/
def Good (t : List Int) (F : Fn) (wd : Nat → List Int) : Prop := Sam t F.N wd F.sh F.en (delF F) F.last ∧ (∀ s, s < F.N → F.lon s = (wd s).length) ∧ Gr F ∧ F.N ≤ 2 * t.length + 1
def Fn.begin_ (F : Fn) (n : Nat) : Fn := { F.app (n + 1) (some 0) (n + 1) with last := F.N }
def thr (wd : Nat → List Int) : Option Nat → Nat
  | none => 0
  | some p => (wd p).length + 1
structure Mid (t : List Int) (wd : Nat → List Int) (F Fc : Fn) (c : Nat) (o : Option Nat) : Prop where
  gr : Gr Fc
  same : SameF (F.begin_ t.length) Fc
  ok : ∀ p, o = some p → p < F.N ∧ wd p <:+ t
  l1 : L1 t F.N wd (delF F) c (thr wd o)
  d1 : ∀ x, x < F.N → wd x <:+ t → thr wd o ≤ (wd x).length → delF Fc x c = some F.N
  d2 : ∀ x b, x < F.N → ¬ (b = (c : Int) ∧ wd x <:+ t ∧ thr wd o ≤ (wd x).length) → delF Fc x b = delF F x b
  d3 : ∀ b, delF Fc F.N b = none
theorem Gr.begin_ {F : Fn} (h : Gr F) (n : Nat) : Gr (F.begin_ n) := by
  have := h.app (n + 1) (some 0) (n + 1)
  exact ⟨this.K1, this.g1, this.g2, this.g3, this.g4, this.g5⟩
theorem Mid.start {t : List Int} {F : Fn} {wd : Nat → List Int} (h : Good t F wd) (c : Nat) : Mid t wd F (F.begin_ t.length) c (some F.last) := by
  obtain ⟨A, hl, hG, hN⟩ := h
  have ht : thr wd (some F.last) = t.length + 1 := by simp [thr, A.lastw]
  refine ⟨hG.begin_ _, SameF.refl _, fun p hp => ?_, ?_, fun x hx hs hl => ?_, fun x b hx _ => rfl, fun b => hG.del_out (Nat.le_refl _) b⟩
  · cases hp; exact ⟨A.lastN, by rw [A.lastw]; exact List.suffix_refl _⟩
  · rw [ht]; exact A.l1_start c
  · rw [ht] at hl; have := hs.length_le; omega
theorem Mid.sh_old {t : List Int} {F Fc : Fn} {wd : Nat → List Int} {c : Nat} {o : Option Nat} (h : Mid t wd F Fc c o) {q : Nat} (hq : q < F.N) : Fc.sh q = F.sh q := by
  rw [h.same.sh]
  show upd F.sh F.N (some 0) q = F.sh q
  rw [upd_ne _ _ (by omega)]
theorem Mid.lon_old {t : List Int} {F Fc : Fn} {wd : Nat → List Int} {c : Nat} {o : Option Nat} (h : Mid t wd F Fc c o) {q : Nat} (hq : q < F.N) : Fc.lon q = F.lon q := by
  rw [h.same.lon]
  show upd F.lon F.N (t.length + 1) q = F.lon q
  rw [upd_ne _ _ (by omega)]
theorem Mid.N_eq {t : List Int} {F Fc : Fn} {wd : Nat → List Int} {c : Nat} {o : Option Nat} (h : Mid t wd F Fc c o) : Fc.N = F.N + 1 := h.same.N
theorem Mid.step {t : List Int} {F Fc : Fn} {wd : Nat → List Int} {c p : Nat} (hg : Good t F wd) (h : Mid t wd F Fc c (some p)) (hc : c < 256) (hm : Fc.m p c = 0) (eb ce : Nat) : Mid t wd F (Fc.join p c F.N eb ce) c (Fc.sh p) := by
  obtain ⟨A, hl, hG, hN⟩ := hg
  obtain ⟨hp, hpt⟩ := h.ok p rfl
  have hNe := h.N_eq
  have hsp := h.sh_old hp
  have hk : ∀ p', F.sh p = some p' → thr wd (Fc.sh p) = (wd p').length + 1 := fun p' e => by rw [hsp, e]; rfl
  have hn : delF F p c = none := by
    rw [← h.d2 p c hp (by rintro ⟨_, _, g⟩; simp only [thr] at g; omega), delF_nat, if_pos hm]
  have hjd := fun s b => h.gr.join_del (s := p) (x := c) (t := F.N) eb ce s b
  refine ⟨h.gr.join eb ce (by omega) hc (by omega) hm, h.same.trans (SameF.join _ _ _ _ _ _), fun q hq => ?_, ?_, fun x hx hs hl => ?_, fun x b hx hnc => ?_, fun b => ?_⟩
  · rw [hsp] at hq
    obtain ⟨a1, a2, a3⟩ := A.sh_some hp hq
    exact ⟨a1, a3.trans hpt⟩
  · exact A.l1_step hp hpt hk h.l1 hn
  · rw [hjd]
    rcases A.l1_or hp hpt hk hx hs hl with g | g
    · by_cases hq : x = p ∧ (c : Int) = c
      · rw [if_pos hq]
      · rw [if_neg hq]; exact h.d1 x hx hs g
    · rw [if_pos ⟨g, rfl⟩]
  · rw [hjd]
    by_cases hq : x = p ∧ b = (c : Int)
    · exfalso
      obtain ⟨rfl, rfl⟩ := hq
      refine hnc ⟨rfl, hpt, ?_⟩
      rw [hsp]
      cases e : F.sh x with
      | none => simp [thr]
      | some r => obtain ⟨_, a2, _⟩ := A.sh_some hp e; simp only [thr]; omega
    · rw [if_neg hq]
      refine h.d2 x b hx ?_
      rintro ⟨rfl, g1, g2⟩
      refine hnc ⟨rfl, g1, ?_⟩
      simp only [thr] at g2
      rw [hsp]
      cases e : F.sh p with
      | none => simp [thr]
      | some r => obtain ⟨_, a2, _⟩ := A.sh_some hp e; simp only [thr]; omega
  · rw [hjd, if_neg (by rintro ⟨e, _⟩; omega)]
    exact h.d3 b
/-- The words of the states, behind. -/
def wd1 (F : Fn) (wd : Nat → List Int) (t : List Int) (c : Int) : Nat → List Int := upd wd F.N (t ++ [c])
/-- No new part: the new state's shorter endings are those of state r. -/
theorem Mid.finish1 {t : List Int} {F Fc : Fn} {wd : Nat → List Int} {c : Nat} {o : Option Nat} (hg : Good t F wd) (h : Mid t wd F Fc c o) {r : Nat} (hr : r < F.N) (hrt : wd r <:+ t ++ [(c : Int)]) (hkr : thr wd o ≤ (wd r).length) : Good (t ++ [(c : Int)]) (Fc.link F.N (some r)) (wd1 F wd t c) := by
  obtain ⟨A, hl, hG, hN⟩ := hg
  have hNe := h.N_eq
  have w1 : ∀ s, s < F.N → wd1 F wd t c s = wd s := fun s hs => upd_ne _ _ (by omega)
  refine ⟨?_, fun s hs => ?_, h.gr.link _ _, ?_⟩
  · show Sam _ Fc.N _ _ Fc.en (delF Fc) Fc.last
    have hlast : Fc.last = F.N := h.same.last
    rw [hNe, hlast]
    refine A.add1 (c := (c : Int)) (k := thr wd o) (r := r) h.l1 hr hrt (A.len_le hr).2 hkr (fun x hx hs hl => h.d1 x hx hs hl) (fun x b hx hn => h.d2 x b hx hn) h.d3 w1 (upd_same _ _ _) (fun s hs => ?_) ?_ (fun s hs => ?_) ?_
    · show upd Fc.sh F.N (some r) s = F.sh s
      rw [upd_ne _ _ (by omega)]; exact h.sh_old hs
    · show upd Fc.sh F.N (some r) F.N = some r
      rw [upd_same]
    · rw [h.same.en]
      show upd F.en F.N (t.length + 1) s = F.en s
      rw [upd_ne _ _ (by omega)]
    · rw [h.same.en]
      show upd F.en F.N (t.length + 1) F.N = t.length + 1
      rw [upd_same]
  · have hs' : s < Fc.N := hs
    show Fc.lon s = _
    rw [h.same.lon]
    show upd F.lon F.N (t.length + 1) s = (upd wd F.N (t ++ [(c : Int)]) s).length
    by_cases hq : s = F.N
    · rw [hq, upd_same, upd_same]; simp
    · rw [upd_ne _ _ hq, upd_ne _ _ hq]; exact hl s (by omega)
  · show Fc.N ≤ _
    rw [hNe]; simp; omega
/-- What is known where the first loop has met an edge. -/
theorem Mid.met {t : List Int} {F Fc : Fn} {wd : Nat → List Int} {c p : Nat} (hg : Good t F wd) (h : Mid t wd F Fc c (some p)) (hm : Fc.m p c ≠ 0) : delF F p c = some (Fc.to (Fc.m p c)) ∧ Fc.to (Fc.m p c) < F.N ∧ wd p ++ [(c : Int)] <:+ wd (Fc.to (Fc.m p c)) ∧ Fc.to (Fc.m p c) ≠ 0 ∧ Fc.to (Fc.m p c) ≠ p := by
  obtain ⟨A, hl, hG, hN⟩ := hg
  obtain ⟨hp, hpt⟩ := h.ok p rfl
  have e : delF F p c = some (Fc.to (Fc.m p c)) := by
    rw [← h.d2 p c hp (by rintro ⟨_, _, g⟩; simp only [thr] at g; omega), delF_nat, if_neg hm]
  obtain ⟨a1, a2⟩ := A.edge p c _ hp e
  have a3 := a2.length_le
  refine ⟨e, a1, a2, fun h0 => ?_, fun h0 => ?_⟩
  · rw [h0, A.wd0] at a3; simp at a3
  · rw [h0] at a3; simp at a3; omega
def wd2 (F : Fn) (wd : Nat → List Int) (t : List Int) (c : Int) (p : Nat) : Nat → List Int := upd (upd wd F.N (t ++ [c])) (F.N + 1) (wd p ++ [c])
/-- A new part. -/
theorem Mid.finish2 {t : List Int} {F Fc F2 F' : Fn} {wd : Nat → List Int} {c p to : Nat} (hg : Good t F wd) (h : Mid t wd F Fc c (some p)) (hm : Fc.m p c ≠ 0) (hto : Fc.to (Fc.m p c) = to) (hne : Fc.lon to ≠ Fc.lon p + 1)
    (hC : CopyI (Fc.cl p to) F2 Fc.N to 0) (hL : Lead c to Fc.N (some p) F2 F') : Good (t ++ [(c : Int)]) (F'.link F.N (some Fc.N)) (wd2 F wd t c p) := by
  have hM := h.met hg hm
  rw [hto] at hM
  obtain ⟨m1, m2, m3, m4, m5⟩ := hM
  obtain ⟨A, hl, hG, hN⟩ := hg
  obtain ⟨hp, hpt⟩ := h.ok p rfl
  have hNe := h.N_eq
  have hlen : (wd p).length + 1 < (wd to).length := by
    have := m3.length_le
    rw [h.lon_old m2, h.lon_old hp, hl _ m2, hl _ hp] at hne
    simp at this; omega
  have hG1 : Gr (Fc.cl p to) := (h.gr.app _ _ _).link _ _
  have hN2 : F2.N = F.N + 2 := by rw [hC.same.N]; show Fc.N + 1 = _; omega
  have hsh2 : ∀ q, F2.sh q = upd (upd Fc.sh Fc.N (Fc.sh to)) to (some Fc.N) q := fun q => by rw [hC.same.sh]; rfl
  have hdc : ∀ s b, delF F2 s b = if s = Fc.N then delF Fc to b else delF Fc s b := fun s b => hC.del hG1 s b
  obtain ⟨⟨hG', hS'⟩, hd'⟩ := lead_del A hp m1 m4 hL (fun q hq => by
      by_cases hqt : q = to
      · exact .inr hqt
      · refine .inl ?_
        rw [hsh2, upd_ne _ _ hqt, upd_ne _ _ (by omega)]
        exact h.sh_old hq) hC.gr (by rw [hN2, hNe]; omega) p rfl hp (List.suffix_refl _) (Ne.symm m5) (fun q hq hql => by
      rw [hdc, if_neg (by omega)]
      exact h.d2 q c hq (by rintro ⟨_, _, g⟩; simp only [thr] at g; omega))
  have hSN : F'.N = F.N + 2 := by rw [hS'.N, hN2]
  have hlast : F'.last = F.N := by rw [hS'.last, hC.same.last]; exact h.same.last
  have hen : F'.en = upd (upd F.en F.N (t.length + 1)) Fc.N (Fc.en to) := by
    rw [hS'.en, hC.same.en]
    show upd Fc.en Fc.N (Fc.en to) = _
    rw [h.same.en]; rfl
  have hlon : F'.lon = upd (upd F.lon F.N (t.length + 1)) Fc.N (Fc.lon p + 1) := by
    rw [hS'.lon, hC.same.lon]
    show upd Fc.lon Fc.N (Fc.lon p + 1) = _
    rw [h.same.lon]; rfl
  refine ⟨?_, fun s hs => ?_, hG'.link _ _, ?_⟩
  · show Sam _ F'.N _ _ F'.en (delF F') F'.last
    rw [hSN, hlast]
    refine A.add2 (c := (c : Int)) (p := p) (to := to) hp hpt m1 hlen h.l1 (fun x hx hs hl => ?_) (fun x hx hd hl => ?_) (fun x b hx n1 n2 => ?_) (fun b => ?_) (fun hs => ?_) (fun b hn => ?_) (fun s hs => ?_) ?_ ?_ (fun s hs hst => ?_) ?_ ?_ ?_ (fun s hs => ?_) ?_ ?_
    · rw [hd', if_neg, hdc, if_neg (by omega)]
      · exact h.d1 x hx hs hl
      · rintro ⟨_, _, g, _⟩
        rw [h.l1 x hx hs hl] at g; cases g
    · rw [hd', if_pos ⟨rfl, hx, hd, hl⟩, hNe]
    · rw [hd', if_neg (by rintro ⟨g1, _, g2, g3⟩; exact n2 ⟨g1, g2, g3⟩), hdc, if_neg (by omega)]
      exact h.d2 x b hx n1
    · rw [hd', if_neg (by rintro ⟨_, g, _⟩; omega), hdc, if_neg (by omega)]
      exact h.d3 b
    · rw [hd', if_neg (by rintro ⟨_, g, _⟩; omega), hdc, if_pos hNe.symm]
      exact h.d1 to m2 hs (by simp only [thr]; omega)
    · rw [hd', if_neg (by rintro ⟨_, g, _⟩; omega), hdc, if_pos hNe.symm]
      exact h.d2 to b m2 (by rintro ⟨g1, g2, _⟩; exact hn ⟨g1, g2⟩)
    · show upd (upd wd F.N (t ++ [(c : Int)])) (F.N + 1) (wd p ++ [(c : Int)]) s = wd s
      rw [upd_ne _ _ (by omega), upd_ne _ _ (by omega)]
    · show upd (upd wd F.N (t ++ [(c : Int)])) (F.N + 1) (wd p ++ [(c : Int)]) F.N = _
      rw [upd_ne _ _ (by omega), upd_same]
    · exact upd_same _ _ _
    · show upd F'.sh F.N (some Fc.N) s = F.sh s
      rw [upd_ne _ _ (by omega), hS'.sh, hsh2, upd_ne _ _ hst, upd_ne _ _ (by omega)]
      exact h.sh_old hs
    · show upd F'.sh F.N (some Fc.N) F.N = some (F.N + 1)
      rw [upd_same, hNe]
    · show upd F'.sh F.N (some Fc.N) (F.N + 1) = F.sh to
      rw [upd_ne _ _ (by omega), hS'.sh, hsh2, upd_ne _ _ (by omega), ← hNe, upd_same]
      exact h.sh_old m2
    · show upd F'.sh F.N (some Fc.N) to = some (F.N + 1)
      rw [upd_ne _ _ (by omega), hS'.sh, hsh2, upd_same, hNe]
    · rw [hen, upd_ne _ _ (by omega), upd_ne _ _ (by omega)]
    · rw [hen, upd_ne _ _ (by omega), upd_same]
    · rw [hen, ← hNe, upd_same, h.same.en]
      show upd F.en F.N (t.length + 1) to = F.en to
      rw [upd_ne _ _ (by omega)]
  · have hs' : s < F'.N := hs
    show F'.lon s = _
    rw [hlon]
    show _ = (upd (upd wd F.N (t ++ [(c : Int)])) (F.N + 1) (wd p ++ [(c : Int)]) s).length
    by_cases h1 : s = F.N + 1
    · rw [h1, upd_same, ← hNe, upd_same, h.lon_old hp, hl _ hp]; simp
    · rw [upd_ne _ _ (by omega), upd_ne _ _ h1]
      by_cases h2 : s = F.N
      · rw [h2, upd_same, upd_same]; simp
      · rw [upd_ne _ _ h2, upd_ne _ _ h2]; exact hl s (by omega)
  · show F'.N ≤ _
    rw [hSN]; simp; omega
end Go.Proofs.YtblegkefeiefjaaDoor
