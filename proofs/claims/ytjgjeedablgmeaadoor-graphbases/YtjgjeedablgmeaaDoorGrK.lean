/- 'm[k] op= v' in any order; 'among'. -/
import Derived.Test.YtjgjeedablgmeaaDoorGrJ
namespace Go.Proofs.YtjgjeedablgmeaaDoor
open Go.RowKit Go.ChangeMaps Go.WideMaps Go.WideElems
set_option linter.unusedVariables false
set_option linter.unusedSimpArgs false
theorem setBlock_self {w : World} {b : Nat} {o : Obj} (h : w.heap[b]? = some o) : setBlock w b o = w := by
  have : w.heap.setIfInBounds b o = w.heap := by
    apply Array.ext_getElem?
    intro i
    by_cases e : b = i
    · subst e
      rw [Array.getElem?_setIfInBounds_self, if_pos (Array.getElem?_eq_some_iff.1 h).1, h]
    · rw [Array.getElem?_setIfInBounds_ne e]
  unfold setBlock
  rw [this]
theorem entry_mid {H : Type} {P : Program} {w : World} {t k e : TypeId} {R : Value → Option (DataW H × List MemPlace)} {b : Nat} {es : Array MapEntry} {clock : Nat} (K : KeyLaw P k) (ht : P.underlying t = some (.map k e)) {z : Value} (hz : ∀ u : World, (zeroValue e).run P u = .ok z u) (hb : w.heap[b]? = some (.map es clock)) (F : Fit P k R es clock)
    {key : Value} {kl : Lit} (hkey : keyOf P k key = some kl) :
    ∃ (v0 : Value) (st : Nat) (w1 : World), (Instr.mapEntry t (.map (some b)) key).run P w = .ok (.tuple #[v0, goInt st]) w1 ∧ (w1 = w ∨ ((Instr.mapUpdate t (.map (some b)) key z).run P w = .ok () w1 ∧ (Instr.lookup t (.map (some b)) key false).run P w = .ok z w)) := by
  rcases K.find w hkey es.toList F.keys with ⟨h1, h2⟩ | ⟨j, e0, h1, h2, h3⟩
  · refine ⟨z, clock, setBlock w b (.map (es.push ⟨key, z, clock⟩) (clock + 1)), ?_, .inr ⟨?_, ?_⟩⟩
    · simp [Instr.mapEntry, run_underlying ht, MapKept.run_getObj_map hb, K.check w false hkey, h1, hz, MapKept.run_setObj_map _ hb, Result.andThen, setBlock]
    · simp [Instr.mapUpdate, run_underlying ht, MapKept.run_getObj_map hb, K.check w false hkey, h1, MapKept.run_setObj_map _ hb, Result.andThen, setBlock]
    · simp [Instr.lookup, run_underlying ht, MapKept.run_getObj_map hb, K.check w _ hkey, h1, hz, Result.andThen]
  · have hj : es[j]? = some e0 := by simpa using h2
    have hsame : es.modify j (fun e => { e with key := key }) = es := by
      apply Array.ext'
      rw [Array.toList_modify, modify_eq_set _ _ _ _ h2]
      have : ({ e0 with key := key } : MapEntry) = e0 := by rw [← h3]
      rw [this]
      exact set_self _ _ _ h2
    refine ⟨e0.val, e0.born, setBlock w b (.map es clock), ?_, .inl (setBlock_self hb)⟩
    simp [Instr.mapEntry, run_underlying ht, MapKept.run_getObj_map hb, K.check w false hkey, h1, hj, h3, K.stays w hkey, hsame, MapKept.run_setObj_map _ hb, Result.andThen, setBlock]
set_option maxRecDepth 20000 in
theorem MI.entry2 {w : World} {g n s : Nat} {f : List Int → Option Int} (h : MI w g n f s) (hn : n ≤ 100000) {x : List Int} (hx : IdW x) (v : Int) (hv : (Lit.int .i64 v).wf = true) :
    ∃ (v0 : Value) (st : Nat) (w1 : World), (Instr.mapEntry 75 (.map (some g)) (idV x)).run Tryd.prog w = .ok (.tuple #[v0, goInt st]) w1 ∧ w.grownBy w1 (some g) ∧ (Instr.lookup 75 (.map (some g)) (idV x) false).run Tryd.prog w1 = .ok (.int .i64 ((f x).getD 0)) w1 ∧
      ∃ w', (Instr.entryStore 75 (.map (some g)) (goInt st) (.int .i64 v)).run Tryd.prog w1 = .ok () w' ∧ MI w' g (n + 1) (updF f x v) (if (f x).isSome then s else s + 1) ∧ w.grownBy w' (some g) := by
  obtain ⟨v0, st, w1, h1, h2, h3⟩ := h.entry hn hx v hv
  refine ⟨v0, st, w1, h1, h2, ?_, h3⟩
  have hget := (h.get hx).1
  have h' := h
  obtain ⟨D, ho, hs, hf⟩ := h
  obtain ⟨es, clock, hb, F, _, _⟩ := ho
  obtain ⟨kl, hkl⟩ := key_id x hx.1 hx.2
  obtain ⟨v0', st', w1', k1, k2⟩ := entry_mid (H := Unit) keylaw42 und75 (z := .int .i64 0) (fun u => zero3 u) hb F hkl
  have hw : w1' = w1 := by
    rw [h1] at k1
    exact (Result.ok.inj k1).2.symm
  subst hw
  rcases k2 with rfl | ⟨k2, k3⟩
  · exact hget
  · obtain ⟨w2, p1, p2, p3⟩ := h'.put hn hx 0 (by decide)
    have hw2 : w2 = w1' := by
      rw [p1] at k2
      exact (Result.ok.inj k2).2
    subst hw2
    have h0 : (f x).getD 0 = 0 := by
      rw [hget] at k3
      exact (Value.int.inj (Result.ok.inj k3).1).2
    have := (p2.get hx).1
    rw [h0]
    unfold updF at this
    rw [if_pos rfl] at this
    exact this
end Go.Proofs.YtjgjeedablgmeaaDoor
