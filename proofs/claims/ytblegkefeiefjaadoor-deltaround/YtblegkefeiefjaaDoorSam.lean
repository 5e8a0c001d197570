/- THE PLAIN MATHEMATICS OF THE FINDER: the automaton of all the words that stand in a text. -/
namespace Go.Proofs.YtblegkefeiefjaaDoor.Sam
set_option linter.unusedVariables false

/-- Where a word leads. -/
def rd (del : Nat → Int → Option Nat) (u : List Int) : Option Nat := u.foldl (fun o b => o.bind (fun s => del s b)) (some 0)
theorem rd_nil (del : Nat → Int → Option Nat) : rd del [] = some 0 := rfl
theorem rd_snoc (del : Nat → Int → Option Nat) (u : List Int) (b : Int) : rd del (u ++ [b]) = (rd del u).bind (fun s => del s b) := by simp [rd, List.foldl_append]
theorem snoc_ind {p : List Int → Prop} (h0 : p []) (h1 : ∀ u b, p u → p (u ++ [b])) (u : List Int) : p u := by
  have : ∀ n (u : List Int), u.length = n → p u := by
    intro n
    induction n with
    | zero => intro u hu; rw [List.length_eq_zero_iff.1 hu]; exact h0
    | succ n ih =>
      intro u hu
      have hne : u ≠ [] := by intro h; rw [h] at hu; simp at hu
      rw [← List.dropLast_concat_getLast hne]
      exact h1 _ _ (ih _ (by simp; omega))
  exact this _ u rfl
theorem suf_snoc {u v : List Int} (h : u <:+ v) (b : Int) : u ++ [b] <:+ v ++ [b] := by
  obtain ⟨p, rfl⟩ := h
  exact ⟨p, by simp⟩
theorem snoc_suf {u v : List Int} {a b : Int} (h : u ++ [a] <:+ v ++ [b]) : a = b ∧ u <:+ v := by
  obtain ⟨p, hp⟩ := h
  rw [← List.append_assoc] at hp
  obtain ⟨h1, h2⟩ := List.append_inj' hp rfl
  exact ⟨by simpa using h2, ⟨p, h1⟩⟩
theorem suf_le {u v w : List Int} (h1 : u <:+ w) (h2 : v <:+ w) (hl : u.length ≤ v.length) : u <:+ v := List.suffix_of_suffix_length_le h1 h2 hl
theorem snoc_two {u v w : List Int} {a b : Int} (h1 : u ++ [a] <:+ w) (h2 : v ++ [b] <:+ w) : a = b := by
  rcases Nat.le_total (u ++ [a]).length (v ++ [b]).length with h | h
  · exact (snoc_suf (suf_le h1 h2 h)).1
  · exact (snoc_suf (suf_le h2 h1 h)).1.symm
theorem snoc_of {u t : List Int} {c : Int} (h : u <:+ t ++ [c]) (h0 : 0 < u.length) : ∃ v, u = v ++ [c] ∧ v <:+ t := by
  have hne : u ≠ [] := by intro h; rw [h] at h0; simp at h0
  have e := List.dropLast_concat_getLast hne
  rw [← e] at h
  obtain ⟨h1, h2⟩ := snoc_suf h
  exact ⟨_, by rw [← e, h1]; simp, h2⟩

def Up (wd : Nat → List Int) (sh : Nat → Option Nat) (q : Nat) (u : List Int) : Prop := ∀ p, sh q = some p → (wd p).length < u.length
/-- The automaton of a text t: N states; the longest word of each, the state of its longest shorter ending, where it ends first, where it leads. -/
structure Sam (t : List Int) (N : Nat) (wd : Nat → List Int) (sh : Nat → Option Nat) (en : Nat → Nat) (del : Nat → Int → Option Nat) (last : Nat) : Prop where
  pos : 0 < N
  wd0 : wd 0 = []
  sh0 : sh 0 = none
  en0 : en 0 = 0
  ends : ∀ s, s < N → en s ≤ t.length ∧ wd s <:+ t.take (en s)
  link : ∀ s, s < N → s ≠ 0 → ∃ p, sh s = some p ∧ p < N ∧ (wd p).length < (wd s).length ∧ wd p <:+ wd s
  edge : ∀ s b q, s < N → del s b = some q → q < N ∧ wd s ++ [b] <:+ wd q
  read : ∀ q, q < N → ∀ u, u <:+ wd q → Up wd sh q u → rd del u = some q
  lastN : last < N
  lastw : wd last = t
  pref : ∀ e, e ≤ t.length → ∃ q, q < N ∧ wd q = t.take e
theorem sam_nil : Sam [] 1 (fun _ => []) (fun _ => none) (fun _ => 0) (fun _ _ => none) 0 where
  pos := by omega
  wd0 := rfl
  sh0 := rfl
  en0 := rfl
  ends := fun s _ => ⟨Nat.le_refl _, List.suffix_refl _⟩
  link := fun s h1 h2 => by omega
  edge := fun s b q _ h => by cases h
  read := fun q hq u hu _ => by
    obtain rfl : q = 0 := by omega
    rw [List.suffix_nil.1 hu]; rfl
  lastN := by omega
  lastw := rfl
  pref := fun e he => ⟨0, by omega, by simp⟩

section
variable {t : List Int} {N : Nat} {wd : Nat → List Int} {sh : Nat → Option Nat} {en : Nat → Nat} {del : Nat → Int → Option Nat} {last : Nat}
theorem Sam.sound (A : Sam t N wd sh en del last) (u : List Int) : ∀ s, rd del u = some s → s < N ∧ u <:+ wd s := by
  induction u using snoc_ind with
  | h0 => intro s h; cases h; exact ⟨A.pos, List.nil_suffix⟩
  | h1 u b ih =>
    intro s h
    rw [rd_snoc] at h
    cases e : rd del u with
    | none => rw [e] at h; cases h
    | some s1 =>
      rw [e] at h
      obtain ⟨h1, h2⟩ := ih s1 e
      obtain ⟨h3, h4⟩ := A.edge s1 b s h1 h
      exact ⟨h3, (suf_snoc h2 b).trans h4⟩
theorem Sam.len_le (A : Sam t N wd sh en del last) {s : Nat} (h : s < N) : (wd s).length ≤ en s ∧ (wd s).length ≤ t.length := by
  obtain ⟨h1, h2⟩ := A.ends s h
  have := h2.length_le
  rw [List.length_take] at this
  omega
theorem Sam.up_self (A : Sam t N wd sh en del last) {s : Nat} (h : s < N) : Up wd sh s (wd s) := by
  intro p hp
  by_cases h0 : s = 0
  · rw [h0, A.sh0] at hp; cases hp
  · obtain ⟨p', h1, _, h3, _⟩ := A.link s h h0
    rw [hp] at h1; cases h1; exact h3
theorem Sam.read_wd (A : Sam t N wd sh en del last) {s : Nat} (h : s < N) : rd del (wd s) = some s := A.read s h _ (List.suffix_refl _) (A.up_self h)
theorem Sam.sh_some (A : Sam t N wd sh en del last) {s p : Nat} (h : s < N) (hp : sh s = some p) : p < N ∧ (wd p).length < (wd s).length ∧ wd p <:+ wd s := by
  by_cases h0 : s = 0
  · rw [h0, A.sh0] at hp; cases hp
  · obtain ⟨p', h1, h2, h3, h4⟩ := A.link s h h0
    rw [hp] at h1; cases h1; exact ⟨h2, h3, h4⟩
theorem Sam.sh_none (A : Sam t N wd sh en del last) {s : Nat} (h : s < N) (hp : sh s = none) : s = 0 := by
  by_cases h0 : s = 0
  · exact h0
  · obtain ⟨p', h1, _⟩ := A.link s h h0
    rw [hp] at h1; cases h1
/-- Each ending of a state's word leads to a state of its chain. -/
theorem Sam.chain (A : Sam t N wd sh en del last) : ∀ (n s : Nat) (u : List Int), (wd s).length = n → s < N → u <:+ wd s → ∃ q, rd del u = some q ∧ q < N ∧ wd q <:+ wd s ∧ u <:+ wd q := by
  intro n
  induction n using Nat.strongRecOn with
  | _ n ih =>
    intro s u hn hs hu
    by_cases hup : Up wd sh s u
    · exact ⟨s, A.read s hs u hu hup, hs, List.suffix_refl _, hu⟩
    · simp only [Up, Classical.not_forall, Nat.not_lt] at hup
      obtain ⟨p, hp, hl⟩ := hup
      obtain ⟨h1, h2, h3⟩ := A.sh_some hs hp
      obtain ⟨q, g1, g2, g3, g4⟩ := ih _ (by omega) p u rfl h1 (suf_le hu h3 hl)
      exact ⟨q, g1, g2, g3.trans h3, g4⟩
theorem Sam.chain' (A : Sam t N wd sh en del last) {s : Nat} {u : List Int} (hs : s < N) (hu : u <:+ wd s) : ∃ q, rd del u = some q ∧ q < N ∧ wd q <:+ wd s ∧ u <:+ wd q := A.chain _ s u rfl hs hu
theorem Sam.gap (A : Sam t N wd sh en del last) {p x : Nat} (hp : p < N) (hx : x < N) (h : wd x <:+ wd p) (hu : ∀ p', sh p = some p' → (wd p').length < (wd x).length) : x = p := by
  have h1 := A.read_wd hx
  rw [A.read p hp _ h hu] at h1
  exact (Option.some.inj h1).symm
/-- What goes on by one byte into a state is no longer than that state's shorter endings are. -/
theorem Sam.lk (A : Sam t N wd sh en del last) {y to : Nat} {c : Int} (hy : y < N) (h : del y c = some to) {r : Nat} (hr : sh to = some r) : (wd r).length ≤ (wd y).length := by
  obtain ⟨h1, h2⟩ := A.edge y c to hy h
  obtain ⟨h3, h4, h5⟩ := A.sh_some h1 hr
  rcases Nat.lt_or_ge (wd y).length (wd r).length with hl | hl
  · obtain ⟨q, g1, g2, g3, _⟩ := A.chain' h3 (suf_le h2 h5 (by simp; omega))
    rw [rd_snoc, A.read_wd hy] at g1
    simp only [Option.bind_some] at g1
    rw [h] at g1; cases g1
    have := g3.length_le
    omega
  · exact hl
/-- All words of the text can be read. -/
theorem Sam.all (A : Sam t N wd sh en del last) (a u b : List Int) (h : t = a ++ u ++ b) : ∃ q, rd del u = some q := by
  obtain ⟨q, h1, h2⟩ := A.pref (a.length + u.length) (by rw [h]; simp)
  have h3 : u <:+ wd q := by rw [h2, h, show a.length + u.length = (a ++ u).length by simp, List.take_left]; exact List.suffix_append _ _
  obtain ⟨q', g, _⟩ := A.chain' h1 h3
  exact ⟨q', g⟩
/-- Where it stands. -/
theorem Sam.stands (A : Sam t N wd sh en del last) {u : List Int} {s : Nat} (h : rd del u = some s) : u.length ≤ en s ∧ en s ≤ t.length ∧ (t.drop (en s - u.length)).take u.length = u := by
  obtain ⟨h1, h2⟩ := A.sound u s h
  obtain ⟨h3, h4⟩ := A.ends s h1
  have h5 := h2.trans h4
  have h6 := h5.length_le
  rw [List.length_take] at h6
  refine ⟨by omega, h3, ?_⟩
  have h7 := List.suffix_iff_eq_drop.1 h5
  rw [List.length_take, Nat.min_eq_left h3] at h7
  rw [List.drop_take, show en s - (en s - u.length) = u.length by omega] at h7
  exact h7.symm

/-- What the first loop has found: of the text's endings that are at least so long none goes on by c. -/
def L1 (t : List Int) (N : Nat) (wd : Nat → List Int) (del : Nat → Int → Option Nat) (c : Int) (k : Nat) : Prop := ∀ x, x < N → wd x <:+ t → k ≤ (wd x).length → del x c = none
theorem Sam.l1_start (A : Sam t N wd sh en del last) (c : Int) : L1 t N wd del c (t.length + 1) := fun x hx h hl => by
  have := h.length_le
  omega
theorem Sam.l1_or (A : Sam t N wd sh en del last) {p x k : Nat} (hp : p < N) (hpt : wd p <:+ t) (hk : ∀ p', sh p = some p' → k = (wd p').length + 1) (hx : x < N) (hxt : wd x <:+ t) (hl : k ≤ (wd x).length) : (wd p).length + 1 ≤ (wd x).length ∨ x = p := by
  rcases Nat.lt_or_ge (wd p).length (wd x).length with h | h
  · exact .inl h
  · exact .inr (A.gap hp hx (suf_le hxt hpt h) (fun p' e => by have := hk p' e; omega))
theorem Sam.l1_step (A : Sam t N wd sh en del last) {c : Int} {p k : Nat} (hp : p < N) (hpt : wd p <:+ t) (hk : ∀ p', sh p = some p' → k = (wd p').length + 1) (h : L1 t N wd del c ((wd p).length + 1)) (hn : del p c = none) : L1 t N wd del c k := fun x hx hxt hl => by
  rcases A.l1_or hp hpt hk hx hxt hl with h1 | rfl
  · exact h x hx hxt h1
  · exact hn
theorem Sam.last_none (A : Sam t N wd sh en del last) (c : Int) {p : Nat} (hp : p < N) (h : (wd p).length = t.length) : del p c = none := by
  cases e : del p c with
  | none => rfl
  | some q =>
    obtain ⟨h1, h2⟩ := A.edge p c q hp e
    have h3 := h2.length_le
    have h4 := (A.len_le h1).2
    simp at h3; omega

theorem rd_mono {N : Nat} {t wd sh en last} {del del' : Nat → Int → Option Nat} (A : Sam t N wd sh en del last) (h : ∀ x b s, x < N → del x b = some s → del' x b = some s) (u : List Int) : ∀ s, rd del u = some s → rd del' u = some s := by
  induction u using snoc_ind with
  | h0 => exact fun s h => h
  | h1 u b ih =>
    intro s hs
    rw [rd_snoc] at hs ⊢
    cases e : rd del u with
    | none => rw [e] at hs; cases hs
    | some s1 =>
      rw [e] at hs
      rw [ih s1 e]
      exact h s1 b s (A.sound u s1 e).1 hs

/-- ONE BYTE MORE, without a new state for a part. -/
theorem Sam.add1 (A : Sam t N wd sh en del last) {c : Int} {k r : Nat} {wd' : Nat → List Int} {sh' : Nat → Option Nat} {en' : Nat → Nat} {del' : Nat → Int → Option Nat}
    (hL : L1 t N wd del c k) (hr : r < N) (hrt : wd r <:+ t ++ [c]) (hrl : (wd r).length ≤ t.length) (hkr : k ≤ (wd r).length)
    (d1 : ∀ x, x < N → wd x <:+ t → k ≤ (wd x).length → del' x c = some N)
    (d2 : ∀ x b, x < N → ¬ (b = c ∧ wd x <:+ t ∧ k ≤ (wd x).length) → del' x b = del x b)
    (d3 : ∀ b, del' N b = none)
    (w1 : ∀ s, s < N → wd' s = wd s) (w2 : wd' N = t ++ [c]) (s1 : ∀ s, s < N → sh' s = sh s) (s2 : sh' N = some r) (e1 : ∀ s, s < N → en' s = en s) (e2 : en' N = t.length + 1) :
    Sam (t ++ [c]) (N + 1) wd' sh' en' del' N := by
  have hm : ∀ u s, rd del u = some s → rd del' u = some s := rd_mono A (fun x b s hx h => by
    rw [d2 x b hx ?_]; exact h
    rintro ⟨rfl, g1, g2⟩
    rw [hL x hx g1 g2] at h; cases h)
  have hup : ∀ q u, q < N → Up wd' sh' q u → Up wd sh q u := fun q u hq h p hp => by
    have := h p (by rw [s1 q hq]; exact hp)
    rwa [w1 p (A.sh_some hq hp).1] at this
  constructor
  · omega
  · rw [w1 0 A.pos]; exact A.wd0
  · rw [s1 0 A.pos]; exact A.sh0
  · rw [e1 0 A.pos]; exact A.en0
  · intro s hs
    by_cases hN : s < N
    · obtain ⟨h1, h2⟩ := A.ends s hN
      rw [e1 s hN, w1 s hN, List.take_append_of_le_length h1]
      exact ⟨by simp; omega, h2⟩
    · obtain rfl : s = N := by omega
      rw [e2, w2]
      exact ⟨by simp, by rw [List.take_of_length_le (by simp)]; exact List.suffix_refl _⟩
  · intro s hs h0
    by_cases hN : s < N
    · obtain ⟨p, h1, h2, h3, h4⟩ := A.link s hN h0
      exact ⟨p, by rw [s1 s hN]; exact h1, by omega, by rw [w1 s hN, w1 p h2]; exact h3, by rw [w1 s hN, w1 p h2]; exact h4⟩
    · obtain rfl : s = N := by omega
      exact ⟨r, s2, by omega, by rw [w1 r hr, w2]; simp; omega, by rw [w1 r hr, w2]; exact hrt⟩
  · intro s b q hs h
    by_cases hN : s < N
    · by_cases hc : b = c ∧ wd s <:+ t ∧ k ≤ (wd s).length
      · obtain ⟨rfl, g1, g2⟩ := hc
        rw [d1 s hN g1 g2] at h
        cases h
        exact ⟨by omega, by rw [w1 s hN, w2]; exact suf_snoc g1 _⟩
      · rw [d2 s b hN hc] at h
        obtain ⟨g1, g2⟩ := A.edge s b q hN h
        exact ⟨by omega, by rw [w1 s hN, w1 q g1]; exact g2⟩
    · obtain rfl : s = N := by omega
      rw [d3] at h; cases h
  · intro q hq u hu hU
    by_cases hN : q < N
    · rw [w1 q hN] at hu
      exact hm u q (A.read q hN u hu (hup q u hN hU))
    · obtain rfl : q = N := by omega
      rw [w2] at hu
      have hl := hU r s2
      rw [w1 r hr] at hl
      obtain ⟨v, rfl, hv⟩ := snoc_of hu (by omega)
      rw [← A.lastw] at hv
      obtain ⟨s, g1, g2, g3, g4⟩ := A.chain' A.lastN hv
      rw [A.lastw] at g3
      have := g4.length_le
      simp at hl
      rw [rd_snoc, hm v s g1]
      exact d1 s g2 g3 (by omega)
  · omega
  · exact w2
  · intro e he
    by_cases hl : e ≤ t.length
    · obtain ⟨q, h1, h2⟩ := A.pref e hl
      exact ⟨q, by omega, by rw [w1 q h1, h2, List.take_append_of_le_length hl]⟩
    · exact ⟨N, by omega, by rw [w2, List.take_of_length_le (by simp; omega)]⟩
/-- ONE BYTE MORE, with a new state for a part of another one's words. -/
theorem Sam.add2 (A : Sam t N wd sh en del last) {c : Int} {p to : Nat} {wd' : Nat → List Int} {sh' : Nat → Option Nat} {en' : Nat → Nat} {del' : Nat → Int → Option Nat}
    (hp : p < N) (hpt : wd p <:+ t) (hto : del p c = some to) (hlt : (wd p).length + 1 < (wd to).length)
    (hL : L1 t N wd del c ((wd p).length + 1))
    (d1 : ∀ x, x < N → wd x <:+ t → (wd p).length < (wd x).length → del' x c = some N)
    (d2 : ∀ x, x < N → del x c = some to → (wd x).length ≤ (wd p).length → del' x c = some (N + 1))
    (d3 : ∀ x b, x < N → ¬ (b = c ∧ wd x <:+ t ∧ (wd p).length < (wd x).length) → ¬ (b = c ∧ del x c = some to ∧ (wd x).length ≤ (wd p).length) → del' x b = del x b)
    (d4 : ∀ b, del' N b = none) (d5 : wd to <:+ t → del' (N + 1) c = some N) (d6 : ∀ b, ¬ (b = c ∧ wd to <:+ t) → del' (N + 1) b = del to b)
    (w1 : ∀ s, s < N → wd' s = wd s) (w2 : wd' N = t ++ [c]) (w3 : wd' (N + 1) = wd p ++ [c])
    (s1 : ∀ s, s < N → s ≠ to → sh' s = sh s) (s2 : sh' N = some (N + 1)) (s3 : sh' (N + 1) = sh to) (s4 : sh' to = some (N + 1))
    (e1 : ∀ s, s < N → en' s = en s) (e2 : en' N = t.length + 1) (e3 : en' (N + 1) = en to) :
    Sam (t ++ [c]) (N + 2) wd' sh' en' del' N := by
  obtain ⟨htN, htw⟩ := A.edge p c to hp hto
  have ht0 : to ≠ 0 := by intro h; rw [h, A.wd0] at hlt; simp at hlt
  obtain ⟨r, hr1, hr2, hr3, hr4⟩ := A.link to htN ht0
  have hrp := A.lk hp hto hr1
  have hpl := hpt.length_le
  have hpl' : (wd p).length < t.length := by
    rcases Nat.lt_or_ge (wd p).length t.length with h | h
    · exact h
    · rw [A.last_none c hp (by omega)] at hto; cases hto
  have hw3l : (wd' (N + 1)).length = (wd p).length + 1 := by rw [w3]; simp
  have F3 : ∀ u q, rd del u = some q → (q ≠ to → rd del' u = some q) ∧ (q = to → (u.length ≤ (wd p).length + 1 → rd del' u = some (N + 1)) ∧ ((wd p).length + 1 < u.length → rd del' u = some to)) := by
    intro u
    induction u using snoc_ind with
    | h0 => intro q h; cases h; exact ⟨fun _ => rfl, fun h => absurd h.symm ht0⟩
    | h1 v b ih =>
      intro q h
      rw [rd_snoc] at h
      cases e : rd del v with
      | none => rw [e] at h; cases h
      | some s =>
        rw [e] at h
        simp only [Option.bind_some] at h
        obtain ⟨hsN, hvs⟩ := A.sound v s e
        obtain ⟨hqN, hsq⟩ := A.edge s b q hsN h
        have hc1 : ¬ (b = c ∧ wd s <:+ t ∧ (wd p).length < (wd s).length) := by
          rintro ⟨rfl, g1, g2⟩
          rw [hL s hsN g1 g2] at h; cases h
        by_cases hs : s = to
        · subst hs
          have hne : q ≠ s := by intro hq; subst hq; have := hsq.length_le; simp at this; omega
          refine ⟨fun _ => ?_, fun hq => absurd hq hne⟩
          rw [rd_snoc]
          rcases Nat.lt_or_ge ((wd p).length + 1) v.length with hl | hl
          · rw [((ih s e).2 rfl).2 hl]
            simp only [Option.bind_some]
            rw [d3 s b hsN hc1 (by
              rintro ⟨rfl, g1, g2⟩
              omega)]
            exact h
          · rw [((ih s e).2 rfl).1 hl]
            simp only [Option.bind_some]
            rw [d6 b (by
              rintro ⟨rfl, g1⟩
              exact hc1 ⟨rfl, g1, by omega⟩)]
            exact h
        · rw [rd_snoc, (ih s e).1 hs]
          simp only [Option.bind_some]
          by_cases hq : q = to
          · subst hq
            obtain rfl : b = c := snoc_two hsq htw
            refine ⟨fun h => absurd rfl h, fun _ => ⟨fun hl => ?_, fun hl => ?_⟩⟩
            · have hl' : v.length ≤ (wd p).length := by simp at hl; omega
              have hvt : v ++ [b] <:+ wd q := (suf_snoc hvs b).trans hsq
              have hvp : v <:+ wd p := (snoc_suf (suf_le hvt htw (by simp; omega))).2
              obtain ⟨q2, g1, g2, g3, _⟩ := A.chain' hp hvp
              rw [e] at g1; cases g1
              exact d2 s hsN h g3.length_le
            · have := hvs.length_le
              simp at hl
              rw [d3 s b hsN hc1 (by rintro ⟨_, _, g2⟩; omega)]
              exact h
          · refine ⟨fun _ => ?_, fun h => absurd h hq⟩
            rw [d3 s b hsN hc1 (by
              rintro ⟨rfl, g1, _⟩
              rw [h] at g1; cases g1; exact hq rfl)]
            exact h
  have hup : ∀ q u, q < N → q ≠ to → Up wd' sh' q u → Up wd sh q u := fun q u hq hqt h x hx => by
    have := h x (by rw [s1 q hq hqt]; exact hx)
    rwa [w1 x (A.sh_some hq hx).1] at this
  have hput : wd p ++ [c] <:+ t ++ [c] := suf_snoc hpt c
  have htN1 : wd' to = wd to := w1 to htN
  constructor
  · omega
  · rw [w1 0 A.pos]; exact A.wd0
  · rw [s1 0 A.pos (Ne.symm ht0)]; exact A.sh0
  · rw [e1 0 A.pos]; exact A.en0
  · intro s hs
    by_cases hN : s < N
    · obtain ⟨h1, h2⟩ := A.ends s hN
      rw [e1 s hN, w1 s hN, List.take_append_of_le_length h1]
      exact ⟨by simp; omega, h2⟩
    · by_cases hN1 : s = N
      · subst hN1
        rw [e2, w2]
        exact ⟨by simp, by rw [List.take_of_length_le (by simp)]; exact List.suffix_refl _⟩
      · obtain rfl : s = N + 1 := by omega
        obtain ⟨h1, h2⟩ := A.ends to htN
        rw [e3, w3, List.take_append_of_le_length h1]
        exact ⟨by simp; omega, htw.trans h2⟩
  · intro s hs h0
    by_cases hN : s < N
    · by_cases hst : s = to
      · subst hst
        exact ⟨N + 1, s4, by omega, by rw [hw3l, htN1]; exact hlt, by rw [w3, htN1]; exact htw⟩
      · obtain ⟨x, h1, h2, h3, h4⟩ := A.link s hN h0
        exact ⟨x, by rw [s1 s hN hst]; exact h1, by omega, by rw [w1 s hN, w1 x h2]; exact h3, by rw [w1 s hN, w1 x h2]; exact h4⟩
    · by_cases hN1 : s = N
      · subst hN1
        exact ⟨s + 1, s2, by omega, by rw [hw3l, w2]; simp; omega, by rw [w3, w2]; exact hput⟩
      · obtain rfl : s = N + 1 := by omega
        exact ⟨r, by rw [s3]; exact hr1, by omega, by rw [w1 r hr2, hw3l]; omega, by rw [w1 r hr2, w3]; exact suf_le hr4 htw (by simp; omega)⟩
  · intro s b q hs h
    by_cases hN : s < N
    · rw [w1 s hN]
      by_cases hc : b = c ∧ wd s <:+ t ∧ (wd p).length < (wd s).length
      · obtain ⟨rfl, g1, g2⟩ := hc
        rw [d1 s hN g1 g2] at h
        cases h
        exact ⟨by omega, by rw [w2]; exact suf_snoc g1 _⟩
      · by_cases hc2 : b = c ∧ del s c = some to ∧ (wd s).length ≤ (wd p).length
        · obtain ⟨rfl, g1, g2⟩ := hc2
          rw [d2 s hN g1 g2] at h
          cases h
          exact ⟨by omega, by rw [w3]; exact suf_le (A.edge s b to hN g1).2 htw (by simp; omega)⟩
        · rw [d3 s b hN hc hc2] at h
          obtain ⟨g1, g2⟩ := A.edge s b q hN h
          exact ⟨by omega, by rw [w1 q g1]; exact g2⟩
    · by_cases hN1 : s = N
      · subst hN1
        rw [d4] at h; cases h
      · obtain rfl : s = N + 1 := by omega
        rw [w3]
        by_cases hc : b = c ∧ wd to <:+ t
        · obtain ⟨rfl, g1⟩ := hc
          rw [d5 g1] at h
          cases h
          exact ⟨by omega, by rw [w2]; exact suf_snoc (htw.trans g1) _⟩
        · rw [d6 b hc] at h
          obtain ⟨g1, g2⟩ := A.edge to b q htN h
          exact ⟨by omega, by rw [w1 q g1]; exact (suf_snoc htw b).trans g2⟩
  · intro q hq u hu hU
    by_cases hN : q < N
    · rw [w1 q hN] at hu
      by_cases hqt : q = to
      · subst hqt
        have hl := hU (N + 1) s4
        rw [hw3l] at hl
        exact ((F3 u q (A.read q hN u hu (fun x hx => by rw [hr1] at hx; cases hx; omega))).2 rfl).2 hl
      · exact (F3 u q (A.read q hN u hu (hup q u hN hqt hU))).1 hqt
    · by_cases hN1 : q = N
      · subst hN1
        rw [w2] at hu
        have hl := hU (q + 1) s2
        rw [hw3l] at hl
        obtain ⟨v, rfl, hv⟩ := snoc_of hu (by omega)
        rw [← A.lastw] at hv
        obtain ⟨s, g1, g2, g3, g4⟩ := A.chain' A.lastN hv
        rw [A.lastw] at g3
        have hvl := g4.length_le
        simp at hl
        rw [rd_snoc]
        by_cases hst : s = to
        · subst hst
          rcases Nat.lt_or_ge ((wd p).length + 1) v.length with hl2 | hl2
          · rw [((F3 v s g1).2 rfl).2 hl2]
            exact d1 s g2 g3 (by omega)
          · rw [((F3 v s g1).2 rfl).1 hl2]
            exact d5 g3
        · rw [(F3 v s g1).1 hst]
          exact d1 s g2 g3 (by omega)
      · obtain rfl : q = N + 1 := by omega
        rw [w3] at hu
        have hul := hu.length_le
        have hl := hU r (by rw [s3]; exact hr1)
        rw [w1 r hr2] at hl
        refine ((F3 u to (A.read to htN u (hu.trans htw) (fun x hx => by rw [hr1] at hx; cases hx; exact hl))).2 rfl).1 ?_
        simpa using hul
  · omega
  · exact w2
  · intro e he
    by_cases hl : e ≤ t.length
    · obtain ⟨q, h1, h2⟩ := A.pref e hl
      exact ⟨q, by omega, by rw [w1 q h1, h2, List.take_append_of_le_length hl]⟩
    · exact ⟨N, by omega, by rw [w2, List.take_of_length_le (by simp; omega)]⟩
/-- Those that lead to a state lie one behind another in a chain. -/
theorem Sam.contig (A : Sam t N wd sh en del last) {c : Int} {p to x y : Nat} (hp : p < N) (hto : del p c = some to) (hy : y < N) (hyt : del y c = some to) (hx : x < N) (hxp : wd x <:+ wd p) (hl : (wd y).length ≤ (wd x).length) : del x c = some to := by
  obtain ⟨h1, h2⟩ := A.edge p c to hp hto
  have h3 := A.read to h1 (wd x ++ [c]) ((suf_snoc hxp c).trans h2) (fun r hr => by have := A.lk hy hyt hr; simp; omega)
  rw [rd_snoc, A.read_wd hx] at h3
  exact h3
theorem Sam.lead_or (A : Sam t N wd sh en del last) {c : Int} {p to x y : Nat} (hp : p < N) (hto : del p c = some to) (hx : x < N) (hxp : wd x <:+ wd p) (hy : y < N) (hyt : del y c = some to) (hl : (wd y).length ≤ (wd x).length) :
    y = x ∨ ∃ x', sh x = some x' ∧ (wd y).length ≤ (wd x').length := by
  have h1 := (A.edge p c to hp hto).2
  have h2 := (A.edge y c to hy hyt).2
  have h3 := hxp.length_le
  have h4 : wd y <:+ wd p := (snoc_suf (suf_le h2 h1 (by simp; omega))).2
  have h5 : wd y <:+ wd x := suf_le h4 hxp hl
  cases e : sh x with
  | none => exact .inl (A.gap hx hy h5 (fun p' hp' => by rw [e] at hp'; cases hp'))
  | some x' =>
    rcases Nat.lt_or_ge (wd x').length (wd y).length with h | h
    · exact .inl (A.gap hx hy h5 (fun p' hp' => by rw [e] at hp'; cases hp'; exact h))
    · exact .inr ⟨x', rfl, h⟩
end
end Go.Proofs.YtblegkefeiefjaaDoor.Sam
