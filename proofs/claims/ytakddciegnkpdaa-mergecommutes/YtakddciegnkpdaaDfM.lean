/- Maps of texts to numbers. -/
import Derived.Test.YtakddciegnkpdaaDfL
namespace Go.Proofs.Ytakddciegnkpdaa
open Go.RowKit
set_option linter.unusedVariables false
set_option linter.unusedSimpArgs false
theorem keyed9 : Maps.Keyed Try.prog 9 := Maps.string_keyed Try.underlying9
theorem key_str (x : Str) (h : x.length ≤ 4000) : keyOf Try.prog 9 (sV x) = some (.string x) := by
  have h2 : (⟨x.toArray⟩ : ByteArray).size ≤ maxLen := by simp [ByteArray.size, maxLen]; omega
  unfold keyOf sV
  rw [Try.underlying9]
  simp [mapKey, Try.underlying9, h2]
theorem und45 : Try.prog.underlying 73 = some (.map 9 3) := by kernel_rfl
theorem zero3 (w : World) : (zeroValue 3).run Try.prog w = .ok (.int .i64 0) w := by kernel_rfl
theorem und3 : Try.prog.underlying 3 = some (.int .i64) := by kernel_rfl
theorem key_eq {x y : Str} {kl : Lit} (h1 : keyOf Try.prog 9 (sV x) = some kl) (h2 : keyOf Try.prog 9 (sV y) = some kl) : x = y := str_inj (keyed9.inj h1 h2)
/-- A map of texts to numbers, with s keys. -/
def MS (w : World) (g n : Nat) (f : Str → Option Int) (s : Nat) : Prop := ∃ D, w.ownsMap (H := Unit) Try.prog 9 (plainElem Try.prog 3) g n D ∧ Maps.size D = s ∧ ∀ x kl, keyOf Try.prog 9 (sV x) = some kl → (Maps.has D kl = (f x).isSome) ∧ D.atKey kl (.lit (.int .i64 0)) = .lit (.int .i64 ((f x).getD 0))
theorem MS.kept {w w' : World} {g n s : Nat} {f : Str → Option Int} {row : Option Nat} (h : MS w g n f s) (hg : w.grownBy w' row) (hne : some g ≠ row) : MS w' g n f s := by
  obtain ⟨D, h1, h2, h3⟩ := h
  exact ⟨D, h1.kept hg hne, h2, h3⟩
theorem MS.below {w w' : World} {g n s : Nat} {f : Str → Option Int} (h : MS w g n f s) (hb : Below w.heap.size w w') : MS w' g n f s := h.kept (row := none) (grown_of_below hb _) (by simp)
theorem MS.lt {w : World} {g n s : Nat} {f : Str → Option Int} (h : MS w g n f s) : g < w.heap.size := by obtain ⟨D, h1, _⟩ := h; exact h1.lt
theorem ms_made (w : World) : MS (w.alloc (.map #[] 0)) w.heap.size 0 (fun _ => none) 0 := ⟨_, World.ownsMap_made _ _ _ _, rfl, fun x kl _ => by simp [Maps.has, DataW.atKey]⟩
def updF (f : Str → Option Int) (x : Str) (v : Int) : Str → Option Int := fun y => if y = x then some v else f y
theorem MS.size_le {w : World} {g n s : Nat} {f : Str → Option Int} (h : MS w g n f s) : s ≤ n := by
  obtain ⟨D, h1, h2, h3⟩ := h
  rw [← h2]
  exact h1.size_le
set_option maxRecDepth 20000 in
theorem MS.look {w : World} {g n s : Nat} {f : Str → Option Int} (h : MS w g n f s) {x : Str} (hx : x.length ≤ 4000) : (Instr.lookup 73 (.map (some g)) (sV x) true).run Try.prog w = .ok (.tuple #[.int .i64 ((f x).getD 0), .bool (f x).isSome]) w := by
  obtain ⟨D, h1, h2, h3⟩ := h
  have hkl := key_str x hx
  obtain ⟨v, ps, hrun, hv⟩ := h1.look_ok keyed9 und45 (zero3 w) (plainElem_int (H := Unit) und3 (by decide)) hkl
  obtain ⟨c, rfl, hc, _⟩ := plainElem_int_inv und3 hv
  have h4 := (h3 x _ hkl).2
  have h5 := congrArg Prod.fst hc
  simp only at h5
  rw [h5] at h4
  have h6 := (Lit.int.inj (DataW.lit.inj h4)).2
  rw [hrun, (h3 x _ hkl).1, h6]
theorem MS.len {w : World} {g n s : Nat} {f : Str → Option Int} (h : MS w g n f s) (ty : TypeId) : (Builtin.len_ #[73] ty #[.map (some g)]).run Try.prog w = .ok (.int .i64 s) w := by
  obtain ⟨D, h1, h2, h3⟩ := h
  rw [h1.len und45 ty, h2]
theorem MS.put {w : World} {g n s : Nat} {f : Str → Option Int} (h : MS w g n f s) (hn : n ≤ 100000) {x : Str} (hx : x.length ≤ 4000) (v : Int) (hv : (Lit.int .i64 v).wf = true) : ∃ w', (Instr.mapUpdate 73 (.map (some g)) (sV x) (.int .i64 v)).run Try.prog w = .ok () w' ∧ MS w' g (n + 1) (updF f x v) (if (f x).isSome then s else s + 1) ∧ w.grownBy w' (some g) := by
  obtain ⟨D, h1, h2, h3⟩ := h
  have hkl := key_str x hx
  obtain ⟨w', hrun, h4, h5⟩ := h1.update keyed9 und45 (by unfold maxLen; omega) hkl (plainElem_int (H := Unit) und3 hv)
  refine ⟨w', hrun, ⟨_, h4, ?_, fun y ky hky => ?_⟩, h5⟩
  · rw [Maps.size_put (h1.tidy keyed9), (h3 x _ hkl).1, h2]
  · unfold updF
    by_cases e : ky = .string x
    · subst e
      rw [Maps.has_put_same h1.isMap (keyed9.key hkl), Maps.atKey_put_same h1.isMap (keyed9.key hkl), if_pos (key_eq hky hkl)]
      exact ⟨rfl, rfl⟩
    · rw [Maps.has_put_other e, Maps.atKey_put_other e, if_neg (fun h => by subst h; rw [hkl] at hky; exact e (Option.some.inj hky).symm)]
      exact h3 y ky hky
end Go.Proofs.Ytakddciegnkpdaa
