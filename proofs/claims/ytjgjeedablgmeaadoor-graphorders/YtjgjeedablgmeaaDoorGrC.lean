/- Maps and sets of ids: what is asked of them, and what changes them. -/
import Derived.Test.YtjgjeedablgmeaaDoorGrB
namespace Go.Proofs.YtjgjeedablgmeaaDoor
open Go.RowKit
open Go.ChangeMaps (setBlock heap_setBlock_same heap_setBlock_other)
set_option linter.unusedVariables false
set_option linter.unusedSimpArgs false
theorem keylaw42 : WideMaps.KeyLaw Tryd.prog 42 := deep_law_laid (m := 10) (by kernel_rfl) (by decide) (of_decide_eq_true (by kernel_rfl)) (by kernel_rfl) (by kernel_rfl)
theorem und68 : Tryd.prog.underlying 68 = some (.map 42 105) := by kernel_rfl
theorem und75 : Tryd.prog.underlying 75 = some (.map 42 3) := by kernel_rfl
theorem zero105 (w : World) : (zeroValue 105).run Tryd.prog w = .ok (.agg #[]) w := by kernel_rfl
theorem zero3 (w : World) : (zeroValue 3).run Tryd.prog w = .ok (.int .i64 0) w := by kernel_rfl
theorem und3 : Tryd.prog.underlying 3 = some (.int .i64) := by kernel_rfl
theorem key_eq {x y : List Int} {kl : Lit} (h1 : keyOf Tryd.prog 42 (idV x) = some kl) (h2 : keyOf Tryd.prog 42 (idV y) = some kl) : x = y := row_inj (keyed42.inj h1 h2)
/-- Is an id in a set? -/
theorem SI.look {w : World} {g n : Nat} {S : List Int → Prop} (h : SI w g n S) {x : List Int} (hx : IdW x) : ∃ b : Bool, (b = true ↔ S x) ∧ (Instr.lookup 68 (.map (some g)) (idV x) true).run Tryd.prog w = .ok (.tuple #[.agg #[], .bool b]) w := by
  obtain ⟨D, h1, h2⟩ := h
  obtain ⟨kl, hkl⟩ := key_id x hx.1 hx.2
  obtain ⟨v, ps, hrun, hv⟩ := h1.look_ok keyed42 und68 (zero105 w) (unitElem_mk (H := Unit)) hkl
  obtain ⟨rfl, _⟩ := unitElem_inv hv
  exact ⟨_, h2 x kl hkl, hrun⟩
theorem SI.put {w : World} {g n : Nat} {S : List Int → Prop} (h : SI w g n S) (hn : n ≤ 100000) {x : List Int} (hx : IdW x) : ∃ w', (Instr.mapUpdate 68 (.map (some g)) (idV x) (.agg #[])).run Tryd.prog w = .ok () w' ∧ SI w' g (n + 1) (fun y => y = x ∨ S y) ∧ w.grownBy w' (some g) := by
  obtain ⟨D, h1, h2⟩ := h
  obtain ⟨kl, hkl⟩ := key_id x hx.1 hx.2
  obtain ⟨w', hrun, h3, h4⟩ := h1.update keyed42 und68 (by unfold maxLen; omega) hkl (unitElem_mk (H := Unit))
  refine ⟨w', hrun, ⟨_, h3, fun y ky hky => ?_⟩, h4⟩
  by_cases e : ky = kl
  · subst e
    rw [Maps.has_put_same h1.isMap (keyed42.key hkl)]
    simp [key_eq hky hkl]
  · rw [Maps.has_put_other e, h2 y ky hky]
    constructor
    · exact .inr
    · rintro (rfl | h)
      · rw [hkl] at hky; exact absurd (Option.some.inj hky).symm e
      · exact h
theorem und67w : Tryd.prog.underlying 67 = some (.map 42 105) := by kernel_rfl
/-- Is an id in a set? -/
theorem SI.look7 {w : World} {g n : Nat} {S : List Int → Prop} (h : SI w g n S) {x : List Int} (hx : IdW x) : ∃ b : Bool, (b = true ↔ S x) ∧ (Instr.lookup 67 (.map (some g)) (idV x) true).run Tryd.prog w = .ok (.tuple #[.agg #[], .bool b]) w := by
  obtain ⟨D, h1, h2⟩ := h
  obtain ⟨kl, hkl⟩ := key_id x hx.1 hx.2
  obtain ⟨v, ps, hrun, hv⟩ := h1.look_ok keyed42 und67w (zero105 w) (unitElem_mk (H := Unit)) hkl
  obtain ⟨rfl, _⟩ := unitElem_inv hv
  exact ⟨_, h2 x kl hkl, hrun⟩
theorem SI.put7 {w : World} {g n : Nat} {S : List Int → Prop} (h : SI w g n S) (hn : n ≤ 100000) {x : List Int} (hx : IdW x) : ∃ w', (Instr.mapUpdate 67 (.map (some g)) (idV x) (.agg #[])).run Tryd.prog w = .ok () w' ∧ SI w' g (n + 1) (fun y => y = x ∨ S y) ∧ w.grownBy w' (some g) := by
  obtain ⟨D, h1, h2⟩ := h
  obtain ⟨kl, hkl⟩ := key_id x hx.1 hx.2
  obtain ⟨w', hrun, h3, h4⟩ := h1.update keyed42 und67w (by unfold maxLen; omega) hkl (unitElem_mk (H := Unit))
  refine ⟨w', hrun, ⟨_, h3, fun y ky hky => ?_⟩, h4⟩
  by_cases e : ky = kl
  · subst e
    rw [Maps.has_put_same h1.isMap (keyed42.key hkl)]
    simp [key_eq hky hkl]
  · rw [Maps.has_put_other e, h2 y ky hky]
    constructor
    · exact .inr
    · rintro (rfl | h)
      · rw [hkl] at hky; exact absurd (Option.some.inj hky).symm e
      · exact h
theorem MI.size_le {w : World} {g n s : Nat} {f : List Int → Option Int} (h : MI w g n f s) : s ≤ n := by
  obtain ⟨D, h1, h2, h3⟩ := h
  rw [← h2]
  exact h1.size_le
set_option maxRecDepth 20000 in
theorem MI.get {w : World} {g n s : Nat} {f : List Int → Option Int} (h : MI w g n f s) {x : List Int} (hx : IdW x) : (Instr.lookup 75 (.map (some g)) (idV x) false).run Tryd.prog w = .ok (.int .i64 ((f x).getD 0)) w ∧ (Lit.int .i64 ((f x).getD 0)).wf = true := by
  obtain ⟨D, h1, h2, h3⟩ := h
  obtain ⟨kl, hkl⟩ := key_id x hx.1 hx.2
  obtain ⟨c, hrun, hat, hwc⟩ := h1.lookup_int keyed42 und75 und3 (zero3 w) hkl
  have h4 := (h3 x kl hkl).2
  rw [hat] at h4
  have h5 := (Lit.int.inj (DataW.lit.inj h4)).2
  rw [← h5]
  exact ⟨hrun, hwc⟩
set_option maxRecDepth 20000 in
theorem MI.look {w : World} {g n s : Nat} {f : List Int → Option Int} (h : MI w g n f s) {x : List Int} (hx : IdW x) : (Instr.lookup 75 (.map (some g)) (idV x) true).run Tryd.prog w = .ok (.tuple #[.int .i64 ((f x).getD 0), .bool (f x).isSome]) w := by
  obtain ⟨D, h1, h2, h3⟩ := h
  obtain ⟨kl, hkl⟩ := key_id x hx.1 hx.2
  obtain ⟨v, ps, hrun, hv⟩ := h1.look_ok keyed42 und75 (zero3 w) (plainElem_int (H := Unit) und3 (by decide)) hkl
  obtain ⟨c, rfl, hc, _⟩ := plainElem_int_inv und3 hv
  have h4 := (h3 x kl hkl).2
  have h5 := congrArg Prod.fst hc
  simp only at h5
  rw [h5] at h4
  have h6 := (Lit.int.inj (DataW.lit.inj h4)).2
  rw [hrun, (h3 x kl hkl).1, h6]
theorem MI.len {w : World} {g n s : Nat} {f : List Int → Option Int} (h : MI w g n f s) (ty : TypeId) : (Builtin.len_ #[75] ty #[.map (some g)]).run Tryd.prog w = .ok (.int .i64 s) w := by
  obtain ⟨D, h1, h2, h3⟩ := h
  rw [h1.len und75 ty, h2]
theorem MI.put_of {w w' : World} {g n s : Nat} {f : List Int → Option Int} {D : DataW Unit} (h1 : w.ownsMap (H := Unit) Tryd.prog 42 (plainElem Tryd.prog 3) g n D) (h2 : Maps.size D = s) (h3 : ∀ x kl, keyOf Tryd.prog 42 (idV x) = some kl → (Maps.has D kl = (f x).isSome) ∧ D.atKey kl (.lit (.int .i64 0)) = .lit (.int .i64 ((f x).getD 0))) {x : List Int} {kl : Lit} (hkl : keyOf Tryd.prog 42 (idV x) = some kl) (v : Int) (h4 : w'.ownsMap (H := Unit) Tryd.prog 42 (plainElem Tryd.prog 3) g (n + 1) (D.put kl (.lit (.int .i64 v)))) : MI w' g (n + 1) (updF f x v) (if (f x).isSome then s else s + 1) := by
  refine ⟨_, h4, ?_, fun y ky hky => ?_⟩
  · rw [Maps.size_put (h1.tidy keyed42), (h3 x kl hkl).1, h2]
  · unfold updF
    by_cases e : ky = kl
    · subst e
      rw [Maps.has_put_same h1.isMap (keyed42.key hkl), Maps.atKey_put_same h1.isMap (keyed42.key hkl), if_pos (key_eq hky hkl)]
      exact ⟨rfl, rfl⟩
    · rw [Maps.has_put_other e, Maps.atKey_put_other e, if_neg (fun h => by subst h; rw [hkl] at hky; exact e (Option.some.inj hky).symm)]
      exact h3 y ky hky
theorem MI.put {w : World} {g n s : Nat} {f : List Int → Option Int} (h : MI w g n f s) (hn : n ≤ 100000) {x : List Int} (hx : IdW x) (v : Int) (hv : (Lit.int .i64 v).wf = true) : ∃ w', (Instr.mapUpdate 75 (.map (some g)) (idV x) (.int .i64 v)).run Tryd.prog w = .ok () w' ∧ MI w' g (n + 1) (updF f x v) (if (f x).isSome then s else s + 1) ∧ w.grownBy w' (some g) := by
  obtain ⟨D, h1, h2, h3⟩ := h
  obtain ⟨kl, hkl⟩ := key_id x hx.1 hx.2
  obtain ⟨w', hrun, h4, h5⟩ := h1.update keyed42 und75 (by unfold maxLen; omega) hkl (plainElem_int (H := Unit) und3 hv)
  exact ⟨w', hrun, MI.put_of h1 h2 h3 hkl v h4, h5⟩
set_option maxRecDepth 20000 in
/-- 'm[k] op= v': the entry, then its store. -/
theorem MI.entry {w : World} {g n s : Nat} {f : List Int → Option Int} (h : MI w g n f s) (hn : n ≤ 100000) {x : List Int} (hx : IdW x) (v : Int) (hv : (Lit.int .i64 v).wf = true) :
    ∃ (v0 : Value) (st : Nat) (w1 : World), (Instr.mapEntry 75 (.map (some g)) (idV x)).run Tryd.prog w = .ok (.tuple #[v0, goInt st]) w1 ∧ w.grownBy w1 (some g) ∧
      ∃ w', (Instr.entryStore 75 (.map (some g)) (goInt st) (.int .i64 v)).run Tryd.prog w1 = .ok () w' ∧ MI w' g (n + 1) (updF f x v) (if (f x).isSome then s else s + 1) ∧ w.grownBy w' (some g) := by
  obtain ⟨D, h1, h2, h3⟩ := h
  obtain ⟨kl, hkl⟩ := key_id x hx.1 hx.2
  have h1' := h1
  obtain ⟨es, clock, hb, F, hs, hD⟩ := h1
  obtain ⟨v0, st, es1, clock1, hr1, _, hr2⟩ := WideElems.entry_then_store (H := Unit) keylaw42 und75 (z := .int .i64 0) (fun u => zero3 u) hb F hkl
  obtain ⟨es', clock', hr3, hr4⟩ := hr2 (setBlock w g (.map es1 clock1)) (.int .i64 v) (heap_setBlock_same hb _)
  obtain ⟨w', hrun, h4, h5⟩ := h1'.update keyed42 und75 (by unfold maxLen; omega) hkl (plainElem_int (H := Unit) und3 hv)
  have hw' : w' = setBlock w g (.map es' clock') := by
    rw [hrun] at hr4
    exact (Result.ok.inj hr4).2
  have hss : setBlock (setBlock w g (.map es1 clock1)) g (.map es' clock') = setBlock w g (.map es' clock') := by
    unfold setBlock
    simp
  refine ⟨v0, st, _, hr1, ⟨rfl, rfl, rfl, by simp [setBlock], fun i _ hi => heap_setBlock_other hb _ (fun e => hi (by rw [e]))⟩, w', ?_, MI.put_of h1' h2 h3 hkl v h4, h5⟩
  rw [hr3, hss, hw']
end Go.Proofs.YtjgjeedablgmeaaDoor
