/- 'DeltaMoved': the count, in plain lists. -/
import Derived.Test.YtblegkefeiefjaaDoorMkP
namespace Go.Proofs.YtblegkefeiefjaaDoor.Plain
set_option linter.unusedVariables false
set_option linter.unusedSimpArgs false
/-- Where a place of the target lies: in a piece of the base (from, to), or loose. -/
abbrev Pl := Nat → Option (Nat × Nat)
def wt (K : Pl) (i : Nat) : Nat := match K i with
  | none => 2
  | some (s, _) => if i = s then 16 else 0
def fK (K : Pl) : Nat → Nat
  | 0 => 0
  | i + 1 => fK K i + wt K i
structure Kok (base target : List Int) (K : Pl) : Prop where
  in_ : ∀ i s e, K i = some (s, e) → s ≤ i ∧ i < e ∧ e ≤ target.length ∧ s + 32 ≤ e
  all : ∀ i s e, K i = some (s, e) → ∀ j, s ≤ j → j < e → K j = some (s, e)
  inf : ∀ i s e, K i = some (s, e) → ∃ p q, base = p ++ (target.drop s).take (e - s) ++ q
theorem fK_mono (K : Pl) {x : Nat} : ∀ n, fK K x ≤ fK K (x + n)
  | 0 => Nat.le_refl _
  | n + 1 => Nat.le_trans (fK_mono K n) (by rw [← Nat.add_assoc, fK]; omega)
theorem fK_le (K : Pl) {x y : Nat} (h : x ≤ y) : fK K x ≤ fK K y := by
  obtain ⟨n, rfl⟩ : ∃ n, y = x + n := ⟨y - x, by omega⟩
  exact fK_mono K n
theorem fK_none {K : Pl} {i : Nat} (h : K i = none) : fK K (i + 1) = fK K i + 2 := by rw [fK, wt, h]
theorem fK_start {K : Pl} {s e : Nat} (h : K s = some (s, e)) : fK K (s + 1) = fK K s + 16 := by rw [fK, wt, h]; simp
/-- What is left of a piece is a piece of the base too. -/
theorem Kok.rest {base target : List Int} {K : Pl} (h : Kok base target K) {at_ s e fr len : Nat} (hk : K at_ = some (s, e)) (hf : Fd base (target.drop at_) fr len) : e - at_ ≤ len := by
  obtain ⟨h1, h2, h3, h4⟩ := h.in_ _ _ _ hk
  obtain ⟨p, q, hpq⟩ := h.inf _ _ _ hk
  refine hf.2.2.2 (e - at_) (by rw [List.length_drop]; omega) ?_
  refine ⟨p ++ (target.drop s).take (at_ - s), q, ?_⟩
  rw [hpq]
  have : (target.drop s).take (e - s) = (target.drop s).take (at_ - s) ++ (target.drop at_).take (e - at_) := by
    rw [show e - s = (at_ - s) + (e - at_) by omega, List.take_add, List.drop_drop, show s + (at_ - s) = at_ by omega]
  rw [this]
  simp only [List.append_assoc]
theorem Kok.loose {base target : List Int} {K : Pl} (h : Kok base target K) {x : Nat} (hx : K x = none) : ∀ n, fK K x + 16 ≤ fK K (x + n) ∨ (fK K x + 2 * n ≤ fK K (x + n) ∧ (0 < n → K (x + n - 1) = none))
  | 0 => .inr ⟨by simp, by omega⟩
  | n + 1 => by
    have hm : fK K (x + n) ≤ fK K (x + (n + 1)) := fK_le K (by omega)
    rcases Kok.loose h hx n with g | ⟨g1, g2⟩
    · exact .inl (by omega)
    · cases hk : K (x + n) with
      | none =>
        refine .inr ⟨?_, fun _ => hk⟩
        rw [← Nat.add_assoc, fK_none hk]; omega
      | some se =>
        obtain ⟨s, e⟩ := se
        obtain ⟨h1, h2, h3, h4⟩ := h.in_ _ _ _ hk
        by_cases hs : s = x + n
        · subst hs
          refine .inl ?_
          rw [← Nat.add_assoc, fK_start hk]; omega
        · by_cases hn : 0 < n
          · have := h.all _ _ _ hk (x + n - 1) (by omega) (by omega)
            rw [g2 hn] at this; cases this
          · obtain rfl : n = 0 := by omega
            rw [Nat.add_zero, hx] at hk; cases hk
def ocost (r : Nat) : Nat := r + (r + 126) / 127
theorem Cu.count {base target : List Int} {K : Pl} (h : Kok base target K) (hb : base.length < 65536) {pre : List (List Int × List Int)} {bg at_ : Nat} (hc : Cu base target pre bg at_) :
    (stps pre).length + ocost (at_ - bg) ≤ fK K at_ ∧ ∀ s e, K at_ = some (s, e) → s < at_ → (bg = at_ → (stps pre).length + ocost (at_ - bg) + 9 ≤ fK K at_) ∧ (bg < at_ → (at_ - bg) + (e - at_) ≤ 4 ∧ (stps pre).length + ocost (at_ - bg) + (e - at_) + 4 ≤ fK K at_) := by
  induction hc using Cu.ind with
  | start => exact ⟨by simp [stps, ocost], fun s e _ h => by omega⟩
  | @own pre bg at_ fr len g1 g2 g3 g4 ih =>
    obtain ⟨ih1, ih2⟩ := ih
    have hle := g1.le
    have hfr := g3.1
    have h5 := cpy_len5 (at_ := fr) (len := len) (by omega) (by omega)
    have hlen : len ≤ 4 := by
      rcases Nat.lt_or_ge len 256 with h | h
      · have := h5.2 h; omega
      · have := h5.1; omega
    have hr : at_ + 1 - bg = (at_ - bg) + 1 := by omega
    rw [hr]
    have hC : ocost (at_ - bg + 1) ≤ ocost (at_ - bg) + 2 := by unfold ocost; omega
    cases hk : K at_ with
    | none =>
      rw [fK_none hk]
      refine ⟨by omega, fun s e hk1 hs => ?_⟩
      obtain ⟨a1, a2, _⟩ := h.in_ _ _ _ hk1
      have := h.all _ _ _ hk1 at_ (by omega) (by omega)
      rw [hk] at this; cases this
    | some se =>
      obtain ⟨s, e⟩ := se
      obtain ⟨h1, h2, h3, h4⟩ := h.in_ _ _ _ hk
      have hj := h.rest hk g3
      have hs : s < at_ := by omega
      obtain ⟨i1, i2⟩ := ih2 s e hk hs
      have hm : fK K at_ ≤ fK K (at_ + 1) := fK_le K (by omega)
      have hC1 : bg < at_ → ocost (at_ - bg + 1) = ocost (at_ - bg) + 1 := fun hb => by
        have := (i2 hb).1
        unfold ocost; omega
      rcases Nat.lt_or_ge bg at_ with hb | hb
      · have := hC1 hb
        obtain ⟨j1, j2⟩ := i2 hb
        refine ⟨by omega, fun s' e' hk1 hs' => ?_⟩
        obtain ⟨a1, a2, _⟩ := h.in_ _ _ _ hk1
        have hh := h.all _ _ _ hk1 at_ (by omega) (by omega)
        rw [hk] at hh; cases hh
        exact ⟨by omega, fun _ => ⟨by omega, by omega⟩⟩
      · have := i1 (by omega)
        refine ⟨by omega, fun s' e' hk1 hs' => ?_⟩
        obtain ⟨a1, a2, _⟩ := h.in_ _ _ _ hk1
        have hh := h.all _ _ _ hk1 at_ (by omega) (by omega)
        rw [hk] at hh; cases hh
        exact ⟨by omega, fun _ => ⟨by omega, by omega⟩⟩
  | @copy pre bg at_ fr len g1 g2 g3 g4 ih =>
    obtain ⟨ih1, ih2⟩ := ih
    have hle := g1.le
    have hfr := g3.1
    have h5 := (cpy_len5 (at_ := fr) (len := len) (by omega) (by omega)).1
    have hS : (stps (pre ++ [((target.take at_).drop bg, cpy fr len)])).length = (stps pre).length + ocost (at_ - bg) + (cpy fr len).length := by
      rw [stps_snoc, List.length_append, List.length_append, own_len _ _ rfl]
      have : ((target.take at_).drop bg).length = at_ - bg := by rw [List.length_drop, List.length_take]; omega
      simp only [this]; unfold ocost; omega
    rw [hS, Nat.sub_self, show ocost 0 = 0 by rfl, Nat.add_zero]
    constructor
    · cases hk : K at_ with
      | none => rcases h.loose hk len with g | ⟨g, _⟩ <;> omega
      | some se =>
        obtain ⟨s, e⟩ := se
        obtain ⟨h1, h2, h3, h4⟩ := h.in_ _ _ _ hk
        by_cases hs : s = at_
        · subst hs
          have := fK_start hk
          have : fK K (s + 1) ≤ fK K (s + len) := fK_le K (by omega)
          omega
        · obtain ⟨i1, i2⟩ := ih2 s e hk (by omega)
          have : fK K at_ ≤ fK K (at_ + len) := fK_le K (by omega)
          rcases Nat.lt_or_ge bg at_ with hb | hb
          · have := (i2 hb).2; omega
          · have := i1 (by omega); omega
    · intro s e hk hs
      refine ⟨fun _ => ?_, fun h => by omega⟩
      obtain ⟨h1, h2, h3, h4⟩ := h.in_ _ _ _ hk
      by_cases hsa : s ≤ at_
      · have := h.rest (h.all _ _ _ hk at_ hsa (by omega)) g3
        omega
      · have e1 := fK_start (h.all _ _ _ hk s (Nat.le_refl _) (by omega))
        have e2 : fK K at_ ≤ fK K s := fK_le K (by omega)
        have e3 : fK K (s + 1) ≤ fK K (at_ + len) := fK_le K (by omega)
        omega
theorem mk_moved {base target : List Int} {K : Pl} (h : Kok base target K) (hb : base.length < 65536) (ht : target.length < 65536) {pre : List (List Int × List Int)} {bg : Nat} (hc : Cu base target pre bg target.length) :
    (mk base target pre bg).length ≤ 6 + fK K target.length := by
  have c := (hc.count h hb).1
  have a := szw_len (n := base.length) (by omega)
  have b := szw_len (n := target.length) (by omega)
  unfold mk
  simp only [List.length_append, own_len _ _ rfl, List.length_drop]
  unfold ocost at c
  omega
/-- The first bytes are loose. -/
theorem kok_first (base target : List Int) : Kok base target fun _ => none := ⟨fun _ _ _ h => (by cases h), fun _ _ _ h => (by cases h), fun _ _ _ h => (by cases h)⟩
theorem fK_first : ∀ n, fK (fun _ => none) n = 2 * n
  | 0 => rfl
  | n + 1 => by rw [fK_none rfl, fK_first n]; omega
def Kadd (K : Pl) (T n : Nat) : Pl := fun i => if i < T then K i else if i < T + n then some (T, T + n) else none
theorem Kok.add {base target : List Int} {K : Pl} (h : Kok base target K) (pc more : List Int) (h32 : 32 ≤ pc.length) (hpc : ∃ p q, base = p ++ pc ++ q) : Kok base (target ++ pc ++ more) (Kadd K target.length pc.length) := by
  have hlen : (target ++ pc ++ more).length = target.length + pc.length + more.length := by simp only [List.length_append]
  refine ⟨fun i s e hk => ?_, fun i s e hk j hj1 hj2 => ?_, fun i s e hk => ?_⟩
  · unfold Kadd at hk
    rw [hlen]
    split at hk
    · obtain ⟨a, b, c, d⟩ := h.in_ _ _ _ hk; omega
    · split at hk
      · cases hk; omega
      · cases hk
  · unfold Kadd at hk ⊢
    split at hk
    · obtain ⟨a, b, c, d⟩ := h.in_ _ _ _ hk
      rw [if_pos (by omega)]
      exact h.all _ _ _ hk j hj1 hj2
    · split at hk
      · cases hk
        rw [if_neg (by omega), if_pos hj2]
      · cases hk
  · unfold Kadd at hk
    split at hk
    · obtain ⟨a, b, c, d⟩ := h.in_ _ _ _ hk
      obtain ⟨p, q, hpq⟩ := h.inf _ _ _ hk
      refine ⟨p, q, ?_⟩
      have hlt : s ≤ target.length := by omega
      rw [List.append_assoc target, List.drop_append_of_le_length hlt, List.take_append_of_le_length (by rw [List.length_drop]; omega)]
      exact hpq
    · split at hk
      · cases hk
        obtain ⟨p, q, hpq⟩ := hpc
        refine ⟨p, q, ?_⟩
        rw [List.append_assoc target, List.drop_left, show target.length + pc.length - target.length = pc.length by omega, List.take_left]
        exact hpq
      · cases hk
theorem fK_add_lo (K : Pl) (T n : Nat) : ∀ i, i ≤ T → fK (Kadd K T n) i = fK K i
  | 0, _ => rfl
  | i + 1, h => by
    rw [fK, fK, fK_add_lo K T n i (by omega)]
    have : Kadd K T n i = K i := by unfold Kadd; rw [if_pos (by omega)]
    unfold wt; rw [this]
theorem fK_add_mid (K : Pl) (T n : Nat) : ∀ i, i < n → fK (Kadd K T n) (T + (i + 1)) = fK K T + 16
  | 0, h => by
    have : Kadd K T n T = some (T, T + n) := by unfold Kadd; rw [if_neg (by omega), if_pos (by omega)]
    show fK (Kadd K T n) (T + 1) = _
    rw [fK_start this, fK_add_lo K T n T (Nat.le_refl _)]
  | i + 1, h => by
    have : Kadd K T n (T + (i + 1)) = some (T, T + n) := by unfold Kadd; rw [if_neg (by omega), if_pos (by omega)]
    rw [← Nat.add_assoc, fK, fK_add_mid K T n i (by omega), wt, this]
    simp
theorem fK_add_hi (K : Pl) (T n : Nat) (hn : 0 < n) : ∀ k, fK (Kadd K T n) (T + n + k) = fK K T + 16 + 2 * k
  | 0 => by
    have := fK_add_mid K T n (n - 1) (by omega)
    rw [show n - 1 + 1 = n by omega] at this
    simpa using this
  | k + 1 => by
    have : Kadd K T n (T + n + k) = none := by unfold Kadd; rw [if_neg (by omega), if_neg (by omega)]
    rw [← Nat.add_assoc, fK_none this, fK_add_hi K T n hn k]; omega
end Go.Proofs.YtblegkefeiefjaaDoor.Plain
