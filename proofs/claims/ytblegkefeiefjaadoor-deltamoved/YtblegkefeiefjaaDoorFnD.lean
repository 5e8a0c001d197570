/- The finder's edges, plainly. -/
import Derived.Test.YtblegkefeiefjaaDoorFnC
namespace Go.Proofs.YtblegkefeiefjaaDoor
open Go.RowKit Go.Maps
set_option linter.unusedVariables false

/-- So many different numbers below a bound are no more than the bound. -/
theorem pigeon : ∀ (M n : Nat) (f : Nat → Nat), (∀ i, i < n → f i < M) → (∀ i j, i < n → j < n → f i = f j → i = j) → n ≤ M
  | 0, n, f, h1, _ => by
    rcases Nat.eq_zero_or_pos n with h | h
    · omega
    · have := h1 0 h; omega
  | M + 1, n, f, h1, h2 => by
    by_cases hx : ∃ i, i < n ∧ f i = M
    · obtain ⟨i0, hi0, hf⟩ := hx
      have := pigeon M (n - 1) (fun i => if i < i0 then f i else f (i + 1)) (fun i hi => by
        split
        · rename_i hlt
          have h3 := h1 i (by omega)
          have h4 : f i ≠ M := fun e => by have := h2 i i0 (by omega) hi0 (by rw [e, hf]); omega
          omega
        · have h3 := h1 (i + 1) (by omega)
          have h4 : f (i + 1) ≠ M := fun e => by have := h2 (i + 1) i0 (by omega) hi0 (by rw [e, hf]); omega
          omega) (fun i j hi hj hij => by
        split at hij <;> split at hij
        · exact h2 i j (by omega) (by omega) hij
        · have := h2 i (j + 1) (by omega) (by omega) hij; omega
        · have := h2 (i + 1) j (by omega) (by omega) hij; omega
        · have := h2 (i + 1) (j + 1) (by omega) (by omega) hij; omega)
      omega
    · have := pigeon M n f (fun i hi => by
        have h3 := h1 i hi
        have h4 : f i ≠ M := fun e => hx ⟨i, hi, e⟩
        omega) h2
      omega
structure Gr (F : Fn) : Prop where
  K1 : 1 ≤ F.K
  g1 : ∀ s x, F.m s x ≠ 0 → F.m s x < F.K ∧ F.src (F.m s x) = s ∧ F.by_ (F.m s x) = x
  g2 : ∀ e, 0 < e → e < F.K → F.src e < F.N ∧ F.by_ e < 256 ∧ F.to e < F.N ∧ F.m (F.src e) (F.by_ e) = e
  g3 : ∀ e, 0 < e → e < F.K → F.nx e < e ∧ (F.nx e ≠ 0 → F.src (F.nx e) = F.src e) ∧ ∀ e', F.nx e < e' → e' < e → F.src e' ≠ F.src e
  g4 : ∀ s, s < F.N → F.hd s < F.K ∧ (F.hd s ≠ 0 → F.src (F.hd s) = s) ∧ ∀ e', F.hd s < e' → e' < F.K → F.src e' ≠ s
  g5 : F.to 0 = 0
theorem Gr.bound {F : Fn} (h : Gr F) : F.K ≤ F.N * 256 + 1 := by
  have := pigeon (F.N * 256) (F.K - 1) (fun i => F.src (i + 1) * 256 + F.by_ (i + 1)) (fun i hi => by
    obtain ⟨h1, h2, _⟩ := h.g2 (i + 1) (by omega) (by omega)
    have : (F.src (i + 1) + 1) * 256 ≤ F.N * 256 := Nat.mul_le_mul_right _ h1
    omega) (fun i j hi hj hij => by
    obtain ⟨_, h2, _, h4⟩ := h.g2 (i + 1) (by omega) (by omega)
    obtain ⟨_, k2, _, k4⟩ := h.g2 (j + 1) (by omega) (by omega)
    have e1 : F.src (i + 1) = F.src (j + 1) := by omega
    have e2 : F.by_ (i + 1) = F.by_ (j + 1) := by omega
    rw [e1, e2, k4] at h4
    omega)
  omega
theorem Gr.m_out {F : Fn} (h : Gr F) {s : Nat} (hs : F.N ≤ s) (x : Nat) : F.m s x = 0 := by
  rcases Nat.eq_zero_or_pos (F.m s x) with h0 | h0
  · exact h0
  · obtain ⟨h1, h2, h3⟩ := h.g1 s x (by omega)
    have := (h.g2 _ h0 h1).1
    omega
theorem Gr.m_big {F : Fn} (h : Gr F) (s : Nat) {x : Nat} (hx : 256 ≤ x) : F.m s x = 0 := by
  rcases Nat.eq_zero_or_pos (F.m s x) with h0 | h0
  · exact h0
  · obtain ⟨h1, h2, h3⟩ := h.g1 s x (by omega)
    have := (h.g2 _ h0 h1).2.1
    omega
/-- Where a state's edge by a byte leads. -/
def delF (F : Fn) (s : Nat) (b : Int) : Option Nat := if b < 0 ∨ F.m s b.toNat = 0 then none else some (F.to (F.m s b.toNat))
theorem delF_nat (F : Fn) (s x : Nat) : delF F s x = if F.m s x = 0 then none else some (F.to (F.m s x)) := by
  unfold delF
  rw [Int.toNat_natCast]
  by_cases h : F.m s x = 0
  · simp [h]
  · rw [if_neg (by omega), if_neg h]
theorem Gr.del_lt {F : Fn} (h : Gr F) {s q : Nat} {b : Int} (hd : delF F s b = some q) : q < F.N := by
  unfold delF at hd
  split at hd
  · cases hd
  · rename_i hc
    cases hd
    obtain ⟨h1, _⟩ := h.g1 s b.toNat (by omega)
    exact (h.g2 _ (by omega) h1).2.2.1
theorem Gr.del_out {F : Fn} (h : Gr F) {s : Nat} (hs : F.N ≤ s) (b : Int) : delF F s b = none := by
  unfold delF
  rw [if_pos (.inr (h.m_out hs _))]
theorem Gr.join {F : Fn} (h : Gr F) {s x t : Nat} (eb ce : Nat) (hs : s < F.N) (hx : x < 256) (ht : t < F.N) (hm : F.m s x = 0) : Gr (F.join s x t eb ce) := by
  have hK := h.K1
  refine ⟨?_, ?_, ?_, ?_, ?_, ?_⟩
  · show 1 ≤ F.K + 1; omega
  · intro s' x'
    show (if s' = s ∧ x' = x then F.K else F.m s' x') ≠ 0 → (if s' = s ∧ x' = x then F.K else F.m s' x') < F.K + 1 ∧ upd F.src F.K s (if s' = s ∧ x' = x then F.K else F.m s' x') = s' ∧ upd F.by_ F.K x (if s' = s ∧ x' = x then F.K else F.m s' x') = x'
    by_cases hq : s' = s ∧ x' = x
    · rw [if_pos hq, upd_same, upd_same]
      intro _
      exact ⟨by omega, hq.1.symm, hq.2.symm⟩
    · rw [if_neg hq]
      intro h0
      obtain ⟨h1, h2, h3⟩ := h.g1 s' x' h0
      rw [upd_ne _ _ (by omega), upd_ne _ _ (by omega)]
      exact ⟨by omega, h2, h3⟩
  · intro e h0 he
    show upd F.src F.K s e < F.N ∧ upd F.by_ F.K x e < 256 ∧ upd F.to F.K t e < F.N ∧ (if upd F.src F.K s e = s ∧ upd F.by_ F.K x e = x then F.K else F.m (upd F.src F.K s e) (upd F.by_ F.K x e)) = e
    have he' : e < F.K + 1 := he
    by_cases hq : e = F.K
    · subst hq
      rw [upd_same, upd_same, upd_same, if_pos ⟨rfl, rfl⟩]
      exact ⟨hs, hx, ht, rfl⟩
    · rw [upd_ne _ _ hq, upd_ne _ _ hq, upd_ne _ _ hq]
      obtain ⟨h1, h2, h3, h4⟩ := h.g2 e h0 (by omega)
      refine ⟨h1, h2, h3, ?_⟩
      rw [if_neg (fun hc => ?_)]
      · exact h4
      · rw [hc.1, hc.2, hm] at h4
        omega
  · intro e h0 he
    show upd F.nx F.K (F.hd s) e < e ∧ (upd F.nx F.K (F.hd s) e ≠ 0 → upd F.src F.K s (upd F.nx F.K (F.hd s) e) = upd F.src F.K s e) ∧ ∀ e', upd F.nx F.K (F.hd s) e < e' → e' < e → upd F.src F.K s e' ≠ upd F.src F.K s e
    have he' : e < F.K + 1 := he
    by_cases hq : e = F.K
    · subst hq
      obtain ⟨h1, h2, h3⟩ := h.g4 s hs
      rw [upd_same, upd_same]
      refine ⟨h1, fun hn => ?_, fun e' a b => ?_⟩
      · rw [upd_ne _ _ (by omega)]; exact h2 hn
      · rw [upd_ne _ _ (by omega)]; exact h3 e' a b
    · obtain ⟨h1, h2, h3⟩ := h.g3 e h0 (by omega)
      rw [upd_ne _ _ hq, upd_ne F.src _ hq]
      refine ⟨h1, fun hn => ?_, fun e' a b => ?_⟩
      · rw [upd_ne _ _ (by omega)]; exact h2 hn
      · rw [upd_ne _ _ (by omega)]; exact h3 e' a b
  · intro s' hs'
    show upd F.hd s F.K s' < F.K + 1 ∧ (upd F.hd s F.K s' ≠ 0 → upd F.src F.K s (upd F.hd s F.K s') = s') ∧ ∀ e', upd F.hd s F.K s' < e' → e' < F.K + 1 → upd F.src F.K s e' ≠ s'
    by_cases hq : s' = s
    · subst hq
      rw [upd_same]
      exact ⟨by omega, fun _ => by rw [upd_same], fun e' a b => by omega⟩
    · rw [upd_ne _ _ hq]
      obtain ⟨h1, h2, h3⟩ := h.g4 s' hs'
      refine ⟨by omega, fun hn => ?_, fun e' a b => ?_⟩
      · rw [upd_ne _ _ (by omega)]; exact h2 hn
      · by_cases hK' : e' = F.K
        · rw [hK', upd_same]; exact fun e => hq e.symm
        · rw [upd_ne _ _ hK']; exact h3 e' a (by omega)
  · show upd F.to F.K t 0 = 0
    rw [upd_ne _ _ (by omega)]; exact h.g5
theorem Gr.join_del {F : Fn} (h : Gr F) {s x t : Nat} (eb ce : Nat) (s' : Nat) (b : Int) : delF (F.join s x t eb ce) s' b = if s' = s ∧ b = (x : Int) then some t else delF F s' b := by
  have hK := h.K1
  unfold delF
  show (if b < 0 ∨ (if s' = s ∧ b.toNat = x then F.K else F.m s' b.toNat) = 0 then none else some (upd F.to F.K t (if s' = s ∧ b.toNat = x then F.K else F.m s' b.toNat))) = _
  by_cases hq : s' = s ∧ b = (x : Int)
  · obtain ⟨rfl, rfl⟩ := hq
    rw [Int.toNat_natCast, if_pos (show s' = s' ∧ x = x from ⟨rfl, rfl⟩), if_neg (by omega), upd_same, if_pos ⟨rfl, rfl⟩]
  · rw [if_neg hq]
    by_cases hb : b < 0
    · rw [if_pos (.inl hb), if_pos (.inl hb)]
    · rw [if_neg (show ¬ (s' = s ∧ b.toNat = x) by omega)]
      by_cases h0 : F.m s' b.toNat = 0
      · rw [if_pos (.inr h0), if_pos (.inr h0)]
      · rw [if_neg (by omega), if_neg (by omega), upd_ne]
        have := (h.g1 _ _ h0).1
        omega
/-- An edge that leads to another state. -/
def Fn.retar (F : Fn) (e t : Nat) : Fn := { F with to := upd F.to e t }
theorem Gr.retar {F : Fn} (h : Gr F) {e t : Nat} (he : 0 < e) (ht : t < F.N) : Gr (F.retar e t) := by
  refine ⟨h.K1, h.g1, fun e' h0 he' => ?_, h.g3, h.g4, ?_⟩
  · obtain ⟨h1, h2, h3, h4⟩ := h.g2 e' h0 he'
    refine ⟨h1, h2, ?_, h4⟩
    show upd F.to e t e' < F.N
    by_cases hq : e' = e
    · rw [hq, upd_same]; exact ht
    · rw [upd_ne _ _ hq]; exact h3
  · show upd F.to e t 0 = 0
    rw [upd_ne _ _ (by omega)]; exact h.g5
theorem Gr.retar_del {F : Fn} (h : Gr F) {s x : Nat} (t : Nat) (hm : F.m s x ≠ 0) (s' : Nat) (b : Int) : delF (F.retar (F.m s x) t) s' b = if s' = s ∧ b = (x : Int) then some t else delF F s' b := by
  unfold delF
  show (if b < 0 ∨ F.m s' b.toNat = 0 then none else some (upd F.to (F.m s x) t (F.m s' b.toNat))) = _
  by_cases hq : s' = s ∧ b = (x : Int)
  · obtain ⟨rfl, rfl⟩ := hq
    rw [Int.toNat_natCast, if_neg (by omega), upd_same, if_pos ⟨rfl, rfl⟩]
  · rw [if_neg hq]
    by_cases hb : b < 0
    · rw [if_pos (.inl hb), if_pos (.inl hb)]
    · by_cases h0 : F.m s' b.toNat = 0
      · rw [if_pos (.inr h0), if_pos (.inr h0)]
      · rw [if_neg (by omega), if_neg (by omega), upd_ne]
        intro e
        obtain ⟨_, a1, a2⟩ := h.g1 _ _ h0
        obtain ⟨_, b1, b2⟩ := h.g1 _ _ hm
        rw [e] at a1 a2
        exact hq ⟨by rw [← a1, b1], by omega⟩
/-- What 'lead' does. -/
structure Lead (x fr to : Nat) (o : Option Nat) (F F' : Fn) : Prop where
  all : ∀ P : Option Nat → Fn → Fn → Prop, (∀ F, P none F F) → (∀ F p, F.to (F.m p x) ≠ fr → P (some p) F F) → (∀ F p F', F.to (F.m p x) = fr → P (F.sh p) (F.retar (F.m p x) to) F' → P (some p) F F') → P o F F'
theorem Lead.none {x fr to : Nat} (F : Fn) : Lead x fr to Option.none F F := ⟨fun _ h _ _ => h F⟩
theorem Lead.stop {x fr to : Nat} (F : Fn) (p : Nat) (h : F.to (F.m p x) ≠ fr) : Lead x fr to (some p) F F := ⟨fun _ _ k _ => k F p h⟩
theorem Lead.go {x fr to : Nat} {F : Fn} {p : Nat} {F' : Fn} (h1 : F.to (F.m p x) = fr) (h2 : Lead x fr to (F.sh p) (F.retar (F.m p x) to) F') : Lead x fr to (some p) F F' :=
  ⟨fun P a b c => c F p F' h1 (h2.all P a b c)⟩
theorem Lead.ind {x fr to : Nat} {motive : (o : Option Nat) → (F F' : Fn) → Lead x fr to o F F' → Prop} (none : ∀ (F : Fn), motive Option.none F F (Lead.none F))
    (stop : ∀ (F : Fn) (p : Nat) (h : F.to (F.m p x) ≠ fr), motive (some p) F F (Lead.stop F p h))
    (go : ∀ {F : Fn} {p : Nat} {F' : Fn} (h1 : F.to (F.m p x) = fr) (h2 : Lead x fr to (F.sh p) (F.retar (F.m p x) to) F'), motive (F.sh p) (F.retar (F.m p x) to) F' h2 → motive (some p) F F' (Lead.go h1 h2))
    {o : Option Nat} {F F' : Fn} (h : Lead x fr to o F F') : motive o F F' h := by
  have k : ∃ h', motive o F F' h' := h.all (fun o F F' => ∃ h', motive o F F' h') (fun F => ⟨_, none F⟩) (fun F p h => ⟨_, stop F p h⟩) (fun F p F' h1 ⟨h2, m⟩ => ⟨_, go h1 h2 m⟩)
  obtain ⟨_, m⟩ := k
  exact m
theorem Lead.inv {x fr to : Nat} {F F' : Fn} (h : Lead x fr to Option.none F F') : F' = F :=
  h.all (fun o F F' => o = Option.none → F' = F) (fun _ _ => rfl) (fun _ _ _ e => by cases e) (fun _ _ _ _ _ e => by cases e) rfl
/-- What stays in all of it. -/
structure SameF (F F' : Fn) : Prop where
  sb : F'.sb = F.sb
  mb : F'.mb = F.mb
  cs : F'.cs = F.cs
  N : F'.N = F.N
  last : F'.last = F.last
  lon : F'.lon = F.lon
  en : F'.en = F.en
  sh : F'.sh = F.sh
theorem SameF.refl (F : Fn) : SameF F F := ⟨rfl, rfl, rfl, rfl, rfl, rfl, rfl, rfl⟩
theorem SameF.trans {F G H : Fn} (h : SameF F G) (k : SameF G H) : SameF F H := ⟨k.sb.trans h.sb, k.mb.trans h.mb, k.cs.trans h.cs, k.N.trans h.N, k.last.trans h.last, k.lon.trans h.lon, k.en.trans h.en, k.sh.trans h.sh⟩
theorem SameF.join (F : Fn) (s x t eb ce : Nat) : SameF F (F.join s x t eb ce) := ⟨rfl, rfl, rfl, rfl, rfl, rfl, rfl, rfl⟩
theorem SameF.retar (F : Fn) (e t : Nat) : SameF F (F.retar e t) := ⟨rfl, rfl, rfl, rfl, rfl, rfl, rfl, rfl⟩
open Sam in
/-- WHERE THE EDGES LEAD BEHIND 'lead'. -/
theorem lead_del {t : List Int} {N : Nat} {wd : Nat → List Int} {sh : Nat → Option Nat} {en : Nat → Nat} {del : Nat → Int → Option Nat} {last : Nat} (A : Sam t N wd sh en del last) {x p to part : Nat} (hp : p < N) (hto : del p x = some to) (ht0 : to ≠ 0)
    {o : Option Nat} {F F' : Fn} (hL : Lead x to part o F F') : (∀ q, q < N → F.sh q = sh q ∨ q = to) → Gr F → part < F.N → ∀ y, o = some y → y < N → wd y <:+ wd p → y ≠ to → (∀ q, q < N → (wd q).length ≤ (wd y).length → delF F q x = del q x) →
      (Gr F' ∧ SameF F F') ∧ ∀ s b, delF F' s b = if b = (x : Int) ∧ s < N ∧ del s x = some to ∧ (wd s).length ≤ (wd y).length then some part else delF F s b := by
  induction hL using Lead.ind with
  | none F => intro _ _ _ y hy; cases hy
  | stop F q hne =>
    intro hsh hG hpt y hy hyN hyp hyt hun
    cases hy
    refine ⟨⟨hG, SameF.refl F⟩, fun s b => ?_⟩
    rw [if_neg]
    rintro ⟨_, h1, h2, h3⟩
    have h4 := A.contig hp hto h1 h2 hyN hyp h3
    rw [← hun q hyN (Nat.le_refl _), delF_nat] at h4
    split at h4
    · cases h4
    · exact hne (Option.some.inj h4)
  | @go F q F' heq hrest ih =>
    intro hsh hG hpt y hy hyN hyp hyt hun
    cases hy
    have hm : F.m q x ≠ 0 := by
      intro h0
      rw [h0, hG.g5] at heq
      exact ht0 heq.symm
    have hdq : del q x = some to := by rw [← hun q hyN (Nat.le_refl _), delF_nat, if_neg hm, heq]
    have hG1 := hG.retar (e := F.m q x) (t := part) (by omega) hpt
    have hsq : F.sh q = sh q := by rcases hsh q hyN with h | h; exact h; exact absurd h hyt
    cases e : F.sh q with
    | none =>
      rw [e] at hrest
      have hFF := hrest.inv
      subst hFF
      refine ⟨⟨hG1, SameF.retar _ _ _⟩, fun s b => ?_⟩
      rw [hG.retar_del _ hm]
      by_cases hc : s = q ∧ b = (x : Int)
      · obtain ⟨rfl, rfl⟩ := hc
        rw [if_pos ⟨rfl, rfl⟩, if_pos ⟨rfl, hyN, hdq, Nat.le_refl _⟩]
      · rw [if_neg hc, if_neg]
        rintro ⟨h0, h1, h2, h3⟩
        rcases A.lead_or hp hto hyN hyp h1 h2 h3 with h | ⟨x', h, _⟩
        · exact hc ⟨h, h0⟩
        · rw [← hsq, e] at h; cases h
    | some y' =>
      obtain ⟨a1, a2, a3⟩ := A.sh_some hyN (show sh q = some y' by rw [← hsq]; exact e)
      have hwto := (A.edge p x to hp hto).2.length_le
      have hpl := (a3.trans hyp).length_le
      have hne' : y' ≠ to := by
        intro e
        rw [e] at hpl
        simp at hwto
        omega
      obtain ⟨⟨b1, b2⟩, b3⟩ := ih hsh hG1 hpt y' e a1 (a3.trans hyp) hne' (fun z hz hzl => by
        rw [hG.retar_del _ hm, if_neg]
        · exact hun z hz (by omega)
        · rintro ⟨rfl, _⟩
          omega)
      refine ⟨⟨b1, (SameF.retar _ _ _).trans b2⟩, fun s b => ?_⟩
      rw [b3 s b, hG.retar_del _ hm]
      by_cases hb : b = (x : Int) ∧ s < N ∧ del s x = some to
      · obtain ⟨h0, h1, h2⟩ := hb
        by_cases hl : (wd s).length ≤ (wd q).length
        · rw [if_pos (show b = (x : Int) ∧ s < N ∧ del s x = some to ∧ (wd s).length ≤ (wd q).length from ⟨h0, h1, h2, hl⟩)]
          rcases A.lead_or hp hto hyN hyp h1 h2 hl with h | ⟨x', h, h'⟩
          · rw [if_neg (by rintro ⟨_, _, _, h4⟩; rw [h] at h4; omega), if_pos ⟨h, h0⟩]
          · rw [← hsq, e] at h
            cases h
            rw [if_pos ⟨h0, h1, h2, h'⟩]
        · rw [if_neg (by rintro ⟨_, _, _, h4⟩; omega), if_neg (by rintro ⟨rfl, _⟩; omega), if_neg (by rintro ⟨_, _, _, h4⟩; omega)]
      · rw [if_neg (by rintro ⟨h0, h1, h2, _⟩; exact hb ⟨h0, h1, h2⟩), if_neg (by
          rintro ⟨rfl, h0⟩
          exact hb ⟨h0, hyN, hdq⟩), if_neg (by rintro ⟨h0, h1, h2, _⟩; exact hb ⟨h0, h1, h2⟩)]
/-- What the loop of 'split' that copies edges has done, when edge e is the next. -/
structure CopyI (F1 F : Fn) (part to e : Nat) : Prop where
  gr : Gr F
  same : SameF F1 F
  Kle : F1.K ≤ F.K
  old : ∀ e', e' < F1.K → F.to e' = F1.to e' ∧ F.nx e' = F1.nx e' ∧ F.by_ e' = F1.by_ e' ∧ F.src e' = F1.src e'
  mo : ∀ s x, s ≠ part → F.m s x = F1.m s x
  done : ∀ x, e < F1.m to x → F.m part x ≠ 0 ∧ F.to (F.m part x) = F1.to (F1.m to x)
  rest : ∀ x, F1.m to x ≤ e → F.m part x = 0
theorem CopyI.start {F1 : Fn} (h : Gr F1) {part to : Nat} (hto : to < F1.N) (hpt : ∀ x, F1.m part x = 0) : CopyI F1 F1 part to (F1.hd to) :=
  ⟨h, SameF.refl _, Nat.le_refl _, fun _ _ => ⟨rfl, rfl, rfl, rfl⟩, fun _ _ _ => rfl, fun x hx => by
    exfalso
    obtain ⟨_, _, h3⟩ := h.g4 to hto
    have h0 : F1.m to x ≠ 0 := by omega
    obtain ⟨a1, a2, _⟩ := h.g1 to x h0
    exact h3 _ hx a1 a2, fun x _ => hpt x⟩
theorem CopyI.step {F1 F : Fn} (h1 : Gr F1) {part to e : Nat} (h : CopyI F1 F part to e) (hp : part < F1.N) (hpt : part ≠ to) (h0 : 0 < e) (he : e < F1.K) (hs : F1.src e = to) (eb ce : Nat) :
    F.m part (F.by_ e) = 0 ∧ F.by_ e < 256 ∧ F.to e < F.N ∧ F.nx e = F1.nx e ∧ F1.nx e < e ∧ (F1.nx e ≠ 0 → F1.src (F1.nx e) = to) ∧ CopyI F1 (F.join part (F.by_ e) (F.to e) eb ce) part to (F1.nx e) := by
  obtain ⟨o1, o2, o3, o4⟩ := h.old e he
  obtain ⟨a1, a2, a3, a4⟩ := h1.g2 e h0 he
  obtain ⟨b1, b2, b3⟩ := h1.g3 e h0 he
  rw [hs] at a4
  have hz : F.m part (F.by_ e) = 0 := by rw [o3]; exact h.rest _ (by rw [a4]; exact Nat.le_refl _)
  have hby : F.by_ e < 256 := by rw [o3]; exact a2
  have hto : F.to e < F.N := by rw [o1, h.same.N]; exact a3
  have hK1 := h.gr.K1
  have hKl := h.Kle
  refine ⟨hz, hby, hto, o2, b1, fun hn => by rw [← hs]; exact b2 hn, ?_⟩
  refine ⟨h.gr.join eb ce (by rw [h.same.N]; exact hp) hby hto hz, h.same.trans (SameF.join _ _ _ _ _ _), ?_, ?_, ?_, ?_, ?_⟩
  · show F1.K ≤ F.K + 1; omega
  · intro e' he'
    show upd F.to F.K (F.to e) e' = F1.to e' ∧ upd F.nx F.K (F.hd part) e' = F1.nx e' ∧ upd F.by_ F.K (F.by_ e) e' = F1.by_ e' ∧ upd F.src F.K part e' = F1.src e'
    rw [upd_ne _ _ (by omega), upd_ne _ _ (by omega), upd_ne _ _ (by omega), upd_ne _ _ (by omega)]
    exact h.old e' he'
  · intro s x hsx
    show (if s = part ∧ x = F.by_ e then F.K else F.m s x) = F1.m s x
    rw [if_neg (fun hc => hsx hc.1)]
    exact h.mo s x hsx
  · intro x hx
    show (if part = part ∧ x = F.by_ e then F.K else F.m part x) ≠ 0 ∧ upd F.to F.K (F.to e) (if part = part ∧ x = F.by_ e then F.K else F.m part x) = F1.to (F1.m to x)
    by_cases hq : x = F.by_ e
    · rw [if_pos ⟨rfl, hq⟩, upd_same, hq, o3, a4]
      exact ⟨by omega, o1⟩
    · rw [if_neg (fun hc => hq hc.2)]
      have hgt : e < F1.m to x := by
        rcases Nat.lt_trichotomy e (F1.m to x) with g | g | g
        · exact g
        · exfalso
          have hn : F1.m to x ≠ 0 := by omega
          have := (h1.g1 to x hn).2.2
          rw [← g, ← o3] at this
          exact hq this.symm
        · exfalso
          have hn : F1.m to x ≠ 0 := by omega
          have := (h1.g1 to x hn).2.1
          exact b3 _ hx g (by rw [this, hs])
      obtain ⟨d1, d2⟩ := h.done x hgt
      have := (h.gr.g1 part x d1).1
      rw [upd_ne _ _ (by omega)]
      exact ⟨d1, d2⟩
  · intro x hx
    show (if part = part ∧ x = F.by_ e then F.K else F.m part x) = 0
    rw [if_neg]
    · exact h.rest x (by omega)
    · rintro ⟨_, rfl⟩
      rw [o3, a4] at hx
      omega
theorem CopyI.del {F1 F : Fn} {part to : Nat} (h : CopyI F1 F part to 0) (h1 : Gr F1) (s : Nat) (b : Int) : delF F s b = if s = part then delF F1 to b else delF F1 s b := by
  unfold delF
  by_cases hs : s = part
  · subst hs
    rw [if_pos rfl]
    by_cases hb : b < 0
    · rw [if_pos (.inl hb), if_pos (.inl hb)]
    · by_cases hm : F1.m to b.toNat = 0
      · rw [if_pos (show b < 0 ∨ F.m s b.toNat = 0 from .inr (h.rest _ (by omega))), if_pos (.inr hm)]
      · obtain ⟨d1, d2⟩ := h.done b.toNat (by omega)
        rw [if_neg (by omega), if_neg (by omega), d2]
  · rw [if_neg hs, h.mo s _ hs]
    by_cases hb : b < 0
    · rw [if_pos (.inl hb), if_pos (.inl hb)]
    · by_cases hm : F1.m s b.toNat = 0
      · rw [if_pos (.inr hm), if_pos (.inr hm)]
      · rw [if_neg (by omega), if_neg (by omega)]
        have := (h1.g1 s _ hm).1
        rw [(h.old _ this).1]
end Go.Proofs.YtblegkefeiefjaaDoor
