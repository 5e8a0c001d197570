/- The steps of a delta, one for each round: plainly. -/
import Derived.Test.YtblegkefeiefjaaDoorStC
namespace Go.Proofs.YtblegkefeiefjaaDoor
open Go.RowKit Plain
set_option linter.unusedVariables false

theorem stp_pos {base b c r : List Int} (hb : IsB b) (h : stp base b = some (c, r)) : 0 < c.length := by
  cases b with
  | nil => cases h
  | cons x t =>
    rw [stp] at h
    split at h
    · cases h
    · rename_i hx0
      split at h
      · split at h
        · rename_i hle
          simp only [Option.some.injEq, Prod.mk.injEq] at h
          rw [← h.1, List.length_take]
          have := hb x (by simp)
          omega
        · cases h
      · split at h
        · cases h
        · split at h
          · cases h
          · split at h
            · rename_i hin
              simp only [Option.some.injEq, Prod.mk.injEq] at h
              rw [← h.1, List.length_take, List.length_drop]
              unfold cnt at hin ⊢
              split at hin <;> rename_i hc <;> simp only [hc, if_true, if_false] <;> omega
            · cases h
/-- What a round is handed: where a chunk lies, and the chunk; is it a step? -/
structure Itm (w : World) where
  ad : Option Addr
  cap : Nat
  c : List Int
  ok : Bool
  sl : Sl w ad cap c
  ne : ok = true → 0 < c.length
theorem sl_nil (w : World) : Sl w none 0 [] := ⟨by simp, fun h => by simp at h, fun _ => rfl⟩
def Itm.bad (w : World) : Itm w := ⟨none, 0, [], false, sl_nil w, fun h => by cases h⟩
def Itm.enc {w : World} (x : Itm w) : Array Value := #[.slice x.ad x.c.length x.cap, .bool x.ok]
/-- The steps that lead from some bytes to others. -/
structure Steps (w : World) (base bs : List Int) (pre : List (Itm w)) (r : List Int) : Prop where
  all : ∀ P : List (Itm w) → List Int → Prop, P [] bs → (∀ (pre : List (Itm w)) (r r' : List Int) (x : Itm w), P pre r → r ≠ [] → stp base r = some (x.c, r') → x.ok = true → P (pre ++ [x]) r') → P pre r
theorem Steps.nil {w : World} {base : List Int} (bs : List Int) : Steps w base bs [] bs := ⟨fun _ h _ => h⟩
theorem Steps.snoc {w : World} {base bs : List Int} {pre : List (Itm w)} {r r' : List Int} (x : Itm w) (h1 : Steps w base bs pre r) (h2 : r ≠ []) (h3 : stp base r = some (x.c, r')) (h4 : x.ok = true) : Steps w base bs (pre ++ [x]) r' :=
  ⟨fun P p q => q pre r r' x (h1.all P p q) h2 h3 h4⟩
theorem Steps.ind {w : World} {base bs : List Int} {motive : (pre : List (Itm w)) → (r : List Int) → Steps w base bs pre r → Prop} (nil : motive [] bs (Steps.nil bs))
    (snoc : ∀ {pre : List (Itm w)} {r r' : List Int} (x : Itm w) (h1 : Steps w base bs pre r) (h2 : r ≠ []) (h3 : stp base r = some (x.c, r')) (h4 : x.ok = true), motive pre r h1 → motive (pre ++ [x]) r' (Steps.snoc x h1 h2 h3 h4))
    {pre : List (Itm w)} {r : List Int} (h : Steps w base bs pre r) : motive pre r h := by
  have k : ∃ h', motive pre r h' := h.all (fun p q => ∃ h', motive p q h') ⟨_, nil⟩ (fun p q q' x ⟨h1, m⟩ h2 h3 h4 => ⟨_, snoc x h1 h2 h3 h4 m⟩)
  obtain ⟨_, m⟩ := k
  exact m
theorem Steps.len {w : World} {base bs r : List Int} {pre : List (Itm w)} (h : Steps w base bs pre r) : pre.length + r.length ≤ bs.length := by
  induction h using Steps.ind with
  | nil => simp
  | snoc x h1 h2 h3 h4 ih => have := stp_len h3; simp; omega
def flat {w : World} (pre : List (Itm w)) : List Int := pre.flatMap (·.c)
theorem flat_snoc {w : World} (pre : List (Itm w)) (x : Itm w) : flat (pre ++ [x]) = flat pre ++ x.c := by simp [flat]
theorem flat_pre {w : World} {pre : List (Itm w)} {x : Itm w} : (flat pre).length ≤ (flat (pre ++ [x])).length := by rw [flat_snoc]; simp
/-- So far all is well. -/
theorem Steps.app {w : World} {base bs r : List Int} {pre : List (Itm w)} (h : Steps w base bs pre r) (m : Nat) (hm : (flat pre).length ≤ m) : appS base m bs [] = appS base m r (flat pre) := by
  induction h using Steps.ind with
  | nil => rfl
  | @snoc pre r r' x h1 h2 h3 h4 ih =>
    have hp := flat_pre (pre := pre) (x := x)
    rw [ih (by omega), appS_eq, if_neg h2, h3]
    simp only
    rw [flat_snoc] at hm ⊢
    rw [List.length_append] at hm
    rw [if_pos hm]
theorem Steps.end_ {w : World} {base bs : List Int} {pre : List (Itm w)} (h : Steps w base bs pre []) (m : Nat) (hm : (flat pre).length ≤ m) : appS base m bs [] = if (flat pre).length = m then some (flat pre) else none := by
  rw [h.app m hm, appS_eq, if_pos rfl]
theorem Steps.none_ {w : World} {base bs r : List Int} {pre : List (Itm w)} (h : Steps w base bs pre r) (m : Nat) (hm : (flat pre).length ≤ m) (hr : r ≠ []) (hs : stp base r = none) : appS base m bs [] = none := by
  rw [h.app m hm, appS_eq, if_neg hr, hs]
theorem Steps.long {w : World} {base bs r r' : List Int} {pre : List (Itm w)} (h : Steps w base bs pre r) (m : Nat) (hm : (flat pre).length ≤ m) (hr : r ≠ []) {c : List Int} (hs : stp base r = some (c, r')) (hl : m < (flat pre).length + c.length) : appS base m bs [] = none := by
  rw [h.app m hm, appS_eq, if_neg hr, hs]
  simp only
  rw [if_neg (by omega)]
theorem Steps.isB {w : World} {base bs r : List Int} {pre : List (Itm w)} (h : Steps w base bs pre r) (hb : IsB bs) : ∃ k, r = bs.drop k := by
  induction h using Steps.ind with
  | nil => exact ⟨0, rfl⟩
  | @snoc pre r r' x h1 h2 h3 h4 ih =>
    obtain ⟨k, rfl⟩ := ih
    have : ∃ j, r' = (bs.drop k).drop j := by
      generalize bs.drop k = r at h3
      cases r with
      | nil => cases h3
      | cons y t =>
        rw [stp] at h3
        split at h3
        · cases h3
        · split at h3
          · split at h3
            · simp only [Option.some.injEq, Prod.mk.injEq] at h3
              exact ⟨y.toNat + 1, by rw [← h3.2]; rfl⟩
            · cases h3
          · split at h3
            · cases h3
            · rename_i e1
              split at h3
              · cases h3
              · rename_i e2
                split at h3
                · simp only [Option.some.injEq, Prod.mk.injEq] at h3
                  have dr : ∀ (c op k j n : Nat) (b : List Int) (n' : Nat) (r : List Int), prt c op k j n b = some (n', r) → ∃ q, r = b.drop q := by
                    intro c
                    induction c with
                    | zero => intro op k j n b n' r h; simp [prt] at h; exact ⟨0, by rw [h.2]; rfl⟩
                    | succ c ih =>
                      intro op k j n b n' r h
                      rw [prt] at h
                      split at h
                      · exact ih _ _ _ _ _ _ _ h
                      · split at h
                        · cases h
                        · obtain ⟨q, hq⟩ := ih _ _ _ _ _ _ _ h
                          exact ⟨1 + q, by rw [hq, List.drop_drop]⟩
                  obtain ⟨q1, h1⟩ := dr _ _ _ _ _ _ _ _ e1
                  obtain ⟨q2, h2⟩ := dr _ _ _ _ _ _ _ _ e2
                  exact ⟨q1 + q2 + 1, by rw [← h3.2, h2, h1, List.drop_drop]; rfl⟩
                · cases h3
    obtain ⟨j, hj⟩ := this
    exact ⟨k + j, by rw [hj, List.drop_drop]⟩
end Go.Proofs.YtblegkefeiefjaaDoor
