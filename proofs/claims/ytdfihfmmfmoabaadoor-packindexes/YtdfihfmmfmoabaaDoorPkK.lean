/- 'readNumber', 'readID'. -/
import Derived.Test.YtdfihfmmfmoabaaDoorPkI
namespace Go.Proofs.YtdfihfmmfmoabaaDoor
open Go.RowKit Go.Shelf
set_option linter.unusedVariables false
set_option linter.unusedSimpArgs false
def rd4 (B : List Int) (k : Nat) : Int := num4 (B.getD k 0) (B.getD (k + 1) 0) (B.getD (k + 2) 0) (B.getD (k + 3) 0)
theorem rd4_bd (B : List Int) (k : Nat) (h : IsB B) : 0 ≤ rd4 B k ∧ rd4 B k < 4294967296 := by
  have b0 := h.at k
  have b1 := h.at (k + 1)
  have b2 := h.at (k + 2)
  have b3 := h.at (k + 3)
  unfold rd4 num4
  omega
def rd20 (B : List Int) (k : Nat) : List Int := (B.drop k).take 20
theorem rd20_len (B : List Int) (k : Nat) (h : k + 20 ≤ B.length) : (rd20 B k).length = 20 := by unfold rd20; rw [List.length_take, List.length_drop]; omega
theorem rd20_isB (B : List Int) (k : Nat) (h : IsB B) : IsB (rd20 B k) := fun x hx => h x (List.mem_of_mem_drop (List.mem_of_mem_take hx))
theorem rd20_at (B : List Int) (k q : Nat) (hq : q < 20) : (rd20 B k).getD q 0 = B.getD (k + q) 0 := by
  unfold rd20
  rw [List.getD_eq_getElem?_getD, List.getElem?_take, if_pos hq, List.getElem?_drop, List.getD_eq_getElem?_getD]
theorem wpList_copy_run {P : Program} {w : World} {ops : Array Oper} {rest : List Oper} {o : Oper} {a : Act} {Q : Exit → Act → World → Prop} (hgd : o.guard = none) (s x : Operand) (t u : TypeId)
    (ho : o.op = .call { callee := .builtin .copy, args := #[s, x], argTypes := #[t, u] }) (sv xv v : Value) (w2 : World) (hs : a.eval s = sv) (hx : a.eval x = xv) (hrun : (Builtin.copy_ #[t, u] o.type #[sv, xv]).run P w = .ok v w2) (h : wpList P ops Q rest (a.put o.dst v) w2) :
    wpList P ops Q (o :: rest) a w := by
  refine wpList_plain hgd fun K hK => ?_
  unfold Oper.wp execOp
  simp only [ho, resolve, invoke, builtin, Sem.run_bind, Sem.run_pure, Result.andThen_ok, List.map_toArray, List.map_cons, List.map_nil, hs, hx, hrun]
  exact hK _ _ h
theorem readNumber_any (b off k L cap : Nat) (B : List Int) (w : World) (hz : IsB B) (hk : k + 4 ≤ B.length) (hL : L = B.length - k) (hat : At w b off B) :
    Calls Tryd.prog 51 #[.slice (some ⟨b, off + k, none⟩) L cap] w fun e w' => e = .returned (.int .u32 (rd4 B k)) ∧ ∃ n, w' = w.drewN n := by
  obtain ⟨x0, H0⟩ : ∃ x, Hid (x = B.getD k 0) := ⟨_, rfl⟩
  obtain ⟨x1, H1⟩ : ∃ x, Hid (x = B.getD (k + 1) 0) := ⟨_, rfl⟩
  obtain ⟨x2, H2⟩ : ∃ x, Hid (x = B.getD (k + 2) 0) := ⟨_, rfl⟩
  obtain ⟨x3, H3⟩ : ∃ x, Hid (x = B.getD (k + 3) 0) := ⟨_, rfl⟩
  obtain ⟨o, HO⟩ : ∃ o, Hid (o = off + k) := ⟨_, rfl⟩
  have c0 : w.cell? ⟨b, o, none⟩ = some (.int .u8 x0) := by rw [H0.out, HO.out]; exact hat _ (by omega)
  have c1 : w.cell? ⟨b, o + 1, none⟩ = some (.int .u8 x1) := by rw [H1.out, HO.out]; exact hat (k + 1) (by omega)
  have c2 : w.cell? ⟨b, o + 2, none⟩ = some (.int .u8 x2) := by rw [H2.out, HO.out]; exact hat (k + 2) (by omega)
  have c3 : w.cell? ⟨b, o + 3, none⟩ = some (.int .u8 x3) := by rw [H3.out, HO.out]; exact hat (k + 3) (by omega)
  have b0 : 0 ≤ x0 ∧ x0 < 256 := by rw [H0.out]; exact hz.at _
  have b1 : 0 ≤ x1 ∧ x1 < 256 := by rw [H1.out]; exact hz.at _
  have b2 : 0 ≤ x2 ∧ x2 < 256 := by rw [H2.out]; exact hz.at _
  have b3 : 0 ≤ x3 ∧ x3 < 256 := by rw [H3.out]; exact hz.at _
  unfold rd4
  rw [← H0.out, ← H1.out, ← H2.out, ← H3.out, ← HO.out]
  have hL4 : 4 ≤ L := by omega
  clear hat hL hk
  go_enter Tryd.func51, Tryd.ntmps51
  go_wp2
  go_quiet (fail)
  go_wp2
  go_ret
  rw [← num4_or x0 x1 x2 x3 b0 b1 b2 b3]
  exact ⟨rfl, _, rfl⟩
set_option maxRecDepth 20000 in
set_option maxHeartbeats 2000000 in
theorem readID_any (b off k L cap : Nat) (B : List Int) (w : World) (hz : IsB B) (hk : k + 20 ≤ B.length) (hL : L = B.length - k) (hbw : b < w.heap.size) (hat : At w b off B) :
    Calls Tryd.prog 50 #[.slice (some ⟨b, off + k, none⟩) L cap] w fun e w' => e = .returned (.agg (row .u8 (rd20 B k)).toArray) ∧ Below w.heap.size w w' := by
  obtain ⟨g, HG⟩ : ∃ g, Hid (w.heap.size = g) := ⟨_, rfl⟩
  obtain ⟨X, HX⟩ : ∃ X, Hid (row .u8 (rd20 B k) = X) := ⟨_, rfl⟩
  have hXl : X.length = 20 := by rw [← HX.out, row_len]; exact rd20_len B k hk
  obtain ⟨o, HO⟩ : ∃ o, Hid (off + k = o) := ⟨_, rfl⟩
  have hcp : (Builtin.copy_ #[25, 25] 3 #[.slice (some ⟨w.heap.size, 0, none⟩) 20 20, .slice (some ⟨b, o, none⟩) L cap]).run Tryd.prog (w.alloc (.cells (row .u8 z20).toArray 24)) = .ok (.int .i64 20) (w.alloc (.cells X.toArray 24)) := by
    have hb1 : Below w.heap.size w (w.alloc (.cells (row .u8 z20).toArray 24)) := (Below.refl _ w).alloc (Nat.le_refl _) _
    have h := run_copy_row (P := Tryd.prog) (w.alloc (.cells (row .u8 z20).toArray 24)) 25 25 3 5 w.heap.size 0 20 20 ⟨b, o, none⟩ L cap (row .u8 z20).toArray 24 X Tryd.underlying25 Tryd.size5 (heap_alloc_new w _) (by rw [hXl]; show 20 = min L 20; omega) (fun j v hj => by
        have hj20 : j < 20 := by rw [← hXl]; exact (List.getElem?_eq_some_iff.1 hj).1
        rw [← HX.out] at hj
        rw [row_at _ _ _ (by rw [rd20_len B k hk]; exact hj20)] at hj
        cases hj
        rw [addr_add]
        refine (hb1.cell (p := ⟨b, o + j, none⟩) hbw).trans ?_
        rw [rd20_at B k j hj20, ← HO.out, Nat.add_assoc]
        exact hat (k + j) (by omega)) (by rw [hXl]; decide) (by rw [← HX.out]; exact row_one _ _)
    rw [h, hXl]
    congr 1
    have hz : (row IntKind.u8 z20).length = 20 := rfl
    have he : (List.take 0 (row IntKind.u8 z20).toArray.toList ++ X ++ List.drop (0 + 20) (row IntKind.u8 z20).toArray.toList) = X := by
      simp [List.drop_eq_nil_of_le, hz]
    rw [he]
    unfold World.setRow World.alloc
    congr 1
    apply Array.ext
    · simp
    · intro i h1 h2
      simp only [Array.getElem_modify, Array.getElem_push]
      by_cases hh : w.heap.size = i
      · subst hh
        simp
      · rw [if_neg hh]
        simp at h1
        have hlt : i < w.heap.size := by omega
        simp [hlt]
  have hcp2 : (Builtin.copy_ #[25, 25] 3 #[.slice (some ⟨w.heap.size, 0, none⟩) 20 20, .slice (some ⟨b, o, none⟩) L cap]).run Tryd.prog (w.alloc (.cells #[.int .u8 0, .int .u8 0, .int .u8 0, .int .u8 0, .int .u8 0, .int .u8 0, .int .u8 0, .int .u8 0, .int .u8 0, .int .u8 0, .int .u8 0, .int .u8 0, .int .u8 0, .int .u8 0, .int .u8 0, .int .u8 0, .int .u8 0, .int .u8 0, .int .u8 0, .int .u8 0] 24)) = .ok (.int .i64 20) (w.alloc (.cells X.toArray 24)) := hcp
  have HBL : Hid (Below g w (w.alloc (.cells X.toArray 24))) := hid (by rw [← HG.out]; exact (Below.refl _ w).alloc (Nat.le_refl _) _)
  obtain ⟨w2, HW2⟩ : ∃ w2, Hid (w.alloc (.cells X.toArray 24) = w2) := ⟨_, rfl⟩
  have B2 : Hid (w2.heap[g]? = some (.cells X.toArray 24 (0, 0))) := hid (by rw [← HW2.out, ← HG.out]; exact heap_alloc_new w _)
  have hi24 : (Tryd.prog.info? 24).map (·.size) = some X.length := by rw [hXl]; exact Tryd.size24
  have RG : Hid (w2.rangeAt g 0 X) := hid (fun j v hj => by
    rw [Nat.zero_add, cell_of_row _ g j _ 24 _ B2.out]
    simpa using hj)
  have I24 : Hid ((Tryd.prog.info? 24).map (·.size) = some X.toArray.size) := hid (by simpa using hi24)
  have O24 : Hid (X.toArray.all (·.oneCell') = true) := hid (by rw [← HX.out]; exact all_oneCell_toArray (row_one _ _))
  have HSF : Hid (w2.setRow g X.toArray = w2) := hid (setRow_self w2 g _ 24 _ B2.out)
  rw [HW2.out] at hcp2 HBL
  rw [HG.out] at hcp2
  rw [HX.out, HO.out, HG.out]
  clear hcp hat hL hk
  go_enter Tryd.func50, Tryd.ntmps50
  have hge := HG.out
  go_wp2_with (first
    | (at_builtin; rw [hge]; refine wpList_copy_run rfl _ _ 25 25 rfl _ _ _ w2 rfl rfl hcp2 ?_)
    | refine wpList_load_mid rfl 24 _ rfl g 0 rfl X _ RG.out Tryd.underlying24 rfl hi24 ?_
    | (refine wpList_store_row rfl 24 _ _ rfl g X.toArray rfl rfl 24 X.toArray B2.out I24.out rfl O24.out ?_; rw [HSF.out])
    | fail)
  exact bodyPost_ret (v := .agg X.toArray) (results_mid Tryd.results50 _ _ g X _ rfl RG.out Tryd.underlying24 rfl hi24) rfl ⟨rfl, HBL.out⟩
end Go.Proofs.YtdfihfmmfmoabaaDoor
