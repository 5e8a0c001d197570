/- The document's 'number'; a copy of twenty bytes. -/
import Derived.Test.YtdfihfmmfmoabaaDoorPkT
import Derived.Test.YtdfihfmmfmoabaaDoorPkN
namespace Go.Proofs.YtdfihfmmfmoabaaDoor
open Go.RowKit Go.Shelf
variable [Inhabited Pn]
set_option linter.unusedVariables false
set_option linter.unusedSectionVars false
set_option linter.unusedSimpArgs false
theorem copy20 (w : World) (g b o L cap : Nat) (C : List Value) (t : TypeId) (X : List Int) (hg : w.heap[g]? = some (.cells (row .u8 z20 ++ C).toArray t (0, 0))) (hX : X.length = 20) (hL : 20 ≤ L) (hsrc : ∀ j, j < 20 → w.cell? ⟨b, o + j, none⟩ = some (.int .u8 (X.getD j 0))) :
    (Builtin.copy_ #[25, 25] 3 #[.slice (some ⟨g, 0, none⟩) 20 20, .slice (some ⟨b, o, none⟩) L cap]).run Tryd.prog w = .ok (.int .i64 20) (w.setRow g (row .u8 X ++ C).toArray) := by
  have hz : (row IntKind.u8 z20).length = 20 := rfl
  have hXl : (row IntKind.u8 X).length = 20 := by rw [row_len, hX]
  have h := run_copy_row (P := Tryd.prog) w 25 25 3 5 g 0 20 20 ⟨b, o, none⟩ L cap (row .u8 z20 ++ C).toArray t (row .u8 X) Tryd.underlying25 Tryd.size5 hg (by rw [hXl]; show 20 = min L 20; omega) (fun j v hj => by
      have hj20 : j < 20 := by rw [← hXl]; exact (List.getElem?_eq_some_iff.1 hj).1
      rw [row_at _ _ _ (by rw [hX]; exact hj20)] at hj
      cases hj
      rw [addr_add]
      exact hsrc j hj20) (by rw [hXl, List.size_toArray, List.length_append, hz]; omega) (row_one _ _)
  rw [h, hXl]
  rfl
set_option maxRecDepth 20000 in
theorem numb_any (b off k L cap : Nat) (B : List Int) (w : World) (hz : IsB B) (hk : k + 4 ≤ B.length) (hL : L = B.length - k) (hat : At w b off B) :
    Calls Tryd.prog 38 #[.slice (some ⟨b, off + k, none⟩) L cap] w fun e w' => e = .returned (.int .i64 (rd4 B k)) ∧ ∃ n, w' = w.drewN n := by
  obtain ⟨x0, H0⟩ : ∃ x, Hid (x = B.getD k 0) := ⟨_, rfl⟩
  obtain ⟨x1, H1⟩ : ∃ x, Hid (x = B.getD (k + 1) 0) := ⟨_, rfl⟩
  obtain ⟨x2, H2⟩ : ∃ x, Hid (x = B.getD (k + 2) 0) := ⟨_, rfl⟩
  obtain ⟨x3, H3⟩ : ∃ x, Hid (x = B.getD (k + 3) 0) := ⟨_, rfl⟩
  obtain ⟨o, HO⟩ : ∃ o, Hid (o = off + k) := ⟨_, rfl⟩
  have c0 : w.cell? ⟨b, o, none⟩ = some (.int .u8 x0) := by rw [H0.out, HO.out]; exact hat _ (by omega)
  have c1 : w.cell? ⟨b, o + 1, none⟩ = some (.int .u8 x1) := by rw [H1.out, HO.out]; exact hat (k + 1) (by omega)
  have c2 : w.cell? ⟨b, o + 2, none⟩ = some (.int .u8 x2) := by rw [H2.out, HO.out]; exact hat (k + 2) (by omega)
  have c3 : w.cell? ⟨b, o + 3, none⟩ = some (.int .u8 x3) := by rw [H3.out, HO.out]; exact hat (k + 3) (by omega)
  have b0 : 0 ≤ x0 ∧ x0 < 256 := by rw [H0.out]; exact hz.at _
  have b1 : 0 ≤ x1 ∧ x1 < 256 := by rw [H1.out]; exact hz.at _
  have b2 : 0 ≤ x2 ∧ x2 < 256 := by rw [H2.out]; exact hz.at _
  have b3 : 0 ≤ x3 ∧ x3 < 256 := by rw [H3.out]; exact hz.at _
  unfold rd4
  rw [← H0.out, ← H1.out, ← H2.out, ← H3.out, ← HO.out]
  have hL4 : 4 ≤ L := by omega
  clear hat hL hk
  go_enter Tryd.func38, Tryd.ntmps38
  go_wp2
  go_quiet (fail)
  go_wp2
  go_ret
  refine ⟨?_, _, rfl⟩
  unfold num4
  rfl
end Go.Proofs.YtdfihfmmfmoabaaDoor
