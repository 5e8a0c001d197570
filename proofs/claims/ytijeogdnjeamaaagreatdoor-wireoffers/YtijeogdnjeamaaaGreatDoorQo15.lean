import Derived.Test.YtijeogdnjeamaaaGreatDoorQo13
import Derived.Test.YtijeogdnjeamaaaGreatDoorQo14
namespace Go.Proofs.YtijeogdnjeamaaaGreatDoor
open Go.RowKit
set_option linter.unusedVariables false
set_option linter.unusedSimpArgs false
def PostPd (s : Str) (w : World) (e : Ending) (w' : World) : Prop :=
  Below w.heap.size w w' ∧ ((∃ x, prs s = some x ∧ e = .returned (.tuple #[idV x, .bool true])) ∨ (prs s = none ∧ e = .returned (.tuple #[idV z20, .bool false])))
theorem parseD (s : Str) (hl : s.length ≤ 300000) (w : World) : Calls Tryz.prog 70 #[.string ⟨s.toArray⟩] w (PostPd s w) := by
  refine (Hx.parse_ref ⟨s.toArray⟩ w (by rw [txt_len]; exact hl)).mono ?_
  rintro e w' ⟨hb, h1, h2⟩
  refine ⟨hb, ?_⟩
  by_cases h : (⟨s.toArray⟩ : ByteArray).size = 40 ∧ Hx.good ⟨s.toArray⟩
  · exact .inl ⟨_, prs_yes h, h1 h⟩
  · exact .inr ⟨prs_not h, h2 h⟩
theorem zero67 (w : World) : (zeroValue 67).run Tryz.prog w = .ok (.agg (row .u8 z20).toArray) w := by kernel_rfl
theorem two_of (l : List Str) (h : l.length = 2) : ∃ p q, l = [p, q] := by
  match l, h with
  | [p, q], _ => exact ⟨p, q, rfl⟩
end Go.Proofs.YtijeogdnjeamaaaGreatDoor
namespace Go.Proofs.YtijeogdnjeamaaaGreatDoor
open Go.RowKit
set_option linter.unusedVariables false
set_option linter.unusedSimpArgs false
theorem nums_b (s : Str) : IsB (nums s) := by
  intro x hx
  obtain ⟨y, _, rfl⟩ := List.mem_map.1 hx
  have := y.toNat_lt
  omega
end Go.Proofs.YtijeogdnjeamaaaGreatDoor
namespace Go.Proofs.YtijeogdnjeamaaaGreatDoor
open Go.RowKit
set_option linter.unusedVariables false
set_option linter.unusedSimpArgs false
section
variable {α : Type} {enc : α → List Value} {k : Nat} {d : α}
theorem exec_bx_sl {w w0 : World} {o : Oper} {a : Act} (s x : Operand) (t e : TypeId) (hu : Tryz.prog.underlying t = some (.slice e)) {z : Value} {by_ : Nat} (hin : (Tryz.prog.info? e).map (fun i => (i.zero, i.size, i.bytes)) = some (some z, k, by_)) (hz : z.cells.size = k) (hk : 0 < k) (hby : by_ ≤ 100)
    (hone : ∀ x, ∀ v ∈ enc x, v.oneCell' = true)
    (ho : o.op = .call { callee := .builtin .append, args := #[s, x], argTypes := #[t, t] }) (B : Nat) (v : Value) (l : List α) (hs : a.eval s = v) (h : Bx enc k e w0 w B v l)
    (ax : Option Addr) (cx : Nat) (m : List α) (hx : a.eval x = .slice ax m.length cx) (hP : Px enc k d w ax cx m) (hw : ∀ x ∈ m, (enc x).length = k) (hl : l.length + m.length ≤ 30000) :
    ∃ v' w', (execOp a.eval o).run Tryz.prog w = .ok (.value v') w' ∧ Bx enc k e w0 w' B v' (l ++ m) ∧ w.grownBy w' v.ownBlock := by
  obtain ⟨i, hi, hz0, hz1, hz2⟩ := info_parts hin
  have key : ∀ v' w', (Builtin.append_ #[t, t] o.type #[v, .slice ax m.length cx]).run Tryz.prog w = .ok v' w' → (execOp a.eval o).run Tryz.prog w = .ok (.value v') w' := fun v' w' hr => by
    unfold execOp
    simp only [ho, resolve, invoke, builtin, Sem.run_bind, Sem.run_pure, Result.andThen_ok, List.map_toArray, List.map_cons, List.map_nil, hs, hx, hr]
  cases ax with
  | none =>
    have hc : cx = 0 := hP.nil rfl
    have hcl := hP.capl
    obtain rfl : m = [] := List.length_eq_zero_iff.1 (by omega)
    subst hc
    exact ⟨v, w, key _ _ (run_append_owned_none (P := Tryz.prog) w B t o.type e i k hu hi v _ _ h.own), by simpa using h, ⟨rfl, rfl, rfl, Nat.le_refl _, fun _ _ _ => rfl⟩⟩
  | some ad =>
    obtain ⟨bk, of, fr⟩ := ad
    by_cases h0 : m.length = 0
    · obtain rfl : m = [] := List.length_eq_zero_iff.1 h0
      obtain ⟨v', w', hr, h1, h2, _⟩ := run_append_own_at (P := Tryz.prog) w B t o.type e i z k by_ hu hi hz0 hz1 hz2 hz hk v _ _ h.own ⟨bk, of, fr⟩ 0 cx [] (by simp) (fun j u hj => by cases hj) (fun u hu => by cases hu) (by unfold maxLen; omega) (by have h2 := Nat.mul_le_mul hl hby; exact Nat.le_trans h2 (by decide)) h.le
      refine ⟨v', w', key _ _ hr, ⟨h.below.grown h2 h.le (fun k hk => (own_lt h.own k hk).1), ?_, Nat.le_trans h.le h2.size⟩, h2⟩
      simpa using h1
    · obtain ⟨b', off', e1, _⟩ := hP.at_ (by omega)
      cases e1
      obtain ⟨v', w', hr, h1, h2, _⟩ := run_append_own_at (P := Tryz.prog) w B t o.type e i z k by_ hu hi hz0 hz1 hz2 hz hk v _ _ h.own ⟨bk, of, none⟩ m.length cx (m.flatMap enc) (fX_len m hw) (hP.cells hk hw) (fX_one m hone) (by unfold maxLen; omega) (by have h2 := Nat.mul_le_mul hl hby; exact Nat.le_trans h2 (by decide)) h.le
      refine ⟨v', w', key _ _ hr, ⟨h.below.grown h2 h.le (fun k hk => (own_lt h.own k hk).1), ?_, Nat.le_trans h.le h2.size⟩, h2⟩
      rw [List.length_append, List.flatMap_append]
      exact h1
end
theorem exec_bS1 {P : Program} {o : Oper} {a : Act} {w w' : World} (t len : Nat) (x : Operand) (ho : o.op = .buildSlice t len #[(0, x)]) (u1 v : Value) (h1 : a.eval x = u1) (hr : (Instr.buildSlice t len #[(0, u1)]).run P w = .ok v w') : (execOp a.eval o).run P w = .ok (.value v) w' := by
  unfold execOp
  simp [ho, h1, hr, Result.andThen]
theorem exec_bd2 {P : Program} {o : Oper} {a : Act} {w w' : World} (t : Nat) (x y : Operand) (ho : o.op = .build t #[(0, x), (1, y)]) (u1 u2 v : Value) (h1 : a.eval x = u1) (h2 : a.eval y = u2) (hr : (Instr.build t #[(0, u1), (1, u2)]).run P w = .ok v w') : (execOp a.eval o).run P w = .ok (.value v) w' := by
  unfold execOp
  simp [ho, h1, h2, hr, Result.andThen]
theorem Bx.drew {α : Type} {enc : α → List Value} {k : Nat} {e : TypeId} {w0 w : World} {B : Nat} {v : Value} {l : List α} (h : Bx enc k e w0 w B v l) : Bx enc k e w0 w.drew B v l := h.carry (Below.refl _ _).drew
end Go.Proofs.YtijeogdnjeamaaaGreatDoor
namespace Go.Proofs.YtijeogdnjeamaaaGreatDoor
open Go.RowKit
set_option linter.unusedVariables false
set_option linter.unusedSimpArgs false
theorem encR2_one : ∀ x : Rf, ∀ v ∈ encR2 x, v.oneCell' = true := fun x v hv => by
  rcases List.mem_cons.1 hv with rfl | hv
  · rfl
  · rcases List.mem_append.1 hv with hv | hv
    · exact row_oneC _ v hv
    · rw [List.mem_singleton.1 hv]; rfl
theorem info76 : (Tryz.prog.info? 76).map (fun i => (i.zero, i.size, i.bytes)) = some (some (.agg (encR2 zrf).toArray), 22, 56) := by kernel_rfl
theorem run_b76 (A : Str) (a : List Int) (ha : a.length = 20) (w : World) : (Instr.build 76 #[(0, .string ⟨A.toArray⟩), (1, idV a)]).run Tryz.prog w = .ok (.agg (encR2 (A, a)).toArray) w := by
  obtain ⟨a0, a1, a2, a3, a4, a5, a6, a7, a8, a9, a10, a11, a12, a13, a14, a15, a16, a17, a18, a19, rfl⟩ := list20 a ha
  kernel_rfl
theorem run_b30 (x : Rf) (h : IdW x.2) (w : World) : (Instr.buildSlice 30 1 #[(0, .agg (encR2 x).toArray)]).run Tryz.prog w = .ok (.slice (some ⟨w.heap.size, 0, none⟩) 1 1) (w.alloc (.cells (encR2 x).toArray 76)) := by
  obtain ⟨i, hq, hz, hs, _⟩ := info_parts info76
  refine run_buildSlice w 30 76 1 _ (encR2 x).toArray i _ Tryz.underlying30 hq hz (by rw [hs]; decide) (by rw [hs]; decide) ?_
  rw [hs]
  obtain ⟨A, a⟩ := x
  obtain ⟨a0, a1, a2, a3, a4, a5, a6, a7, a8, a9, a10, a11, a12, a13, a14, a15, a16, a17, a18, a19, rfl⟩ := list20 a h.1
  kernel_rfl
theorem prd_one (w : World) (x : Rf) (e : TypeId) : PRd (w.alloc (.cells (encR2 x).toArray e)) (some ⟨w.heap.size, 0, none⟩) 1 [x] :=
  ⟨Nat.le_refl _, fun _ => ⟨w.heap.size, 0, rfl, by simp, fun i hi j v hv => by
    obtain rfl : i = 0 := by simpa using hi
    have := range_row (heap_alloc_new w (.cells (encR2 x).toArray e)) j v hv
    simpa using this⟩, fun h => by cases h⟩
abbrev BRd (w0 w : World) (B : Nat) (v : Value) (l : List Rf) : Prop := Bx encR2 22 76 w0 w B v l
structure So (w wr : World) (G : Nat) (H : Str) (v : Value) (l : List Rf) : Prop where
  bl : Below G w wr
  b0 : Bx2 wr G 32 (.string ⟨#[]⟩) (.slice none 0 0)
  b1 : Bx2 wr (G + 1) 32 (.string ⟨H.toArray⟩) v
  own : wr.ownsRow (G + 2) 76 22 v l.length (l.flatMap encR2)
  le : G + 2 ≤ wr.heap.size
theorem So.below {w wr w' : World} {G : Nat} {H : Str} {v : Value} {l : List Rf} (h : So w wr G H v l) (hb : Below wr.heap.size wr w') : So w w' G H v l := by
  have := h.le
  exact ⟨h.bl.trans (hb.mono (by omega)), h.b0.below hb, h.b1.below hb, own_keep h.own (grown_of_below hb none) (fun j e => by cases e), Nat.le_trans h.le hb.size⟩
theorem So.head {w wr : World} {G : Nat} {H : Str} {v : Value} {l : List Rf} (h : So w wr G H v l) (K : Str) (X : ByteArray) (hX : ⟨K.toArray⟩ = X) : So w (wr.setCell ⟨G + 1, 0, none⟩ (.string X)) G K v l := by
  have hg := grown_set1 wr (G + 1) 0 (.string X)
  have := h.le
  have := hg.size
  exact ⟨h.bl.grown hg (by omega) (fun k e => by cases e; omega), h.b0.kept hg (fun e => by cases e), by rw [hX]; exact h.b1.set0 _, own_keep h.own hg (fun j e => by cases e; omega), by omega⟩
theorem So.refs {w wr : World} {G : Nat} {H : Str} {v v' : Value} {l l' : List Rf} (h : So w wr G H v l) {wr' : World} (hg0 : wr.grownBy wr' v.ownBlock) (ho : wr'.ownsRow (G + 2) 76 22 v' l'.length (l'.flatMap encR2)) : So w (wr'.setCell ⟨G + 1, 1, none⟩ v') G H v' l' ∧ Bx2 wr' (G + 1) 32 (.string ⟨H.toArray⟩) v := by
  have hj : ∀ j, v.ownBlock = some j → G + 2 ≤ j := fun j e => (own_lt h.own j e).1
  have h1 := h.le
  have h2 := hg0.size
  have hb1 : Bx2 wr' (G + 1) 32 (.string ⟨H.toArray⟩) v := h.b1.kept hg0 (fun e => by have := hj _ e.symm; omega)
  have hb0 : Bx2 wr' G 32 (.string ⟨#[]⟩) (.slice none 0 0) := h.b0.kept hg0 (fun e => by have := hj _ e.symm; omega)
  have hg := grown_set1 wr' (G + 1) 1 v'
  have h3 := hg.size
  exact ⟨⟨(h.bl.grown hg0 (by omega) (fun k e => by have := hj _ e; omega)).grown hg (by omega) (fun k e => by cases e; omega), hb0.kept hg (fun e => by cases e), hb1.set1 _, own_keep ho hg (fun j e => by cases e; omega), by omega⟩, hb1⟩
theorem size32 : (Tryz.prog.info? 32).map (·.size) = some 2 := by kernel_rfl
theorem und32 : ∃ d, Tryz.prog.underlying 32 = some d ∧ d.isRow = true := ⟨_, Tryz.underlying32, rfl⟩
theorem Tryz.results37 : Tryz.f37.results = #[.cell 2 32, .tmp 3] := by kernel_rfl
def PostRDo (s : Str) (w : World) (G : Nat) (e : Ending) (w' : World) : Prop :=
  Below G w w' ∧ ((∃ h l a c, Ook s h l ∧ e = .returned (.tuple #[.agg #[.string ⟨h.toArray⟩, .slice a l.length c], .int .i64 0]) ∧ PRd w' a c l) ∨ ((¬ ∃ h l, Ook s h l) ∧ (∃ ls, okL ls ∧ s = pktL ls) ∧ e = .returned (.tuple #[.agg #[.string ⟨#[]⟩, .slice none 0 0], .int .i64 111])) ∨ ((¬ ∃ ls, okL ls ∧ s = pktL ls) ∧ e = .returned (.tuple #[.agg #[.string ⟨#[]⟩, .slice none 0 0], .int .i64 110])))
theorem dcO_snoc (ls : List Str) (i : Nat) (x : Str) (h : i < ls.length) (hx : ls.getD i [] = x) : dcO (ls.take (i + 1)) = stO (dcO (ls.take i)) x := by
  unfold dcO
  rw [take_snocG [] ls i h, hx, List.foldl_append]
  rfl
theorem dcO_wf (ls : List Str) (hok : okL ls) : ∀ i, (dcO (ls.take i)).1.length ≤ 1000 ∧ ∀ y ∈ (dcO (ls.take i)).2, IdW y.2 ∧ y.1.length ≤ 1000 := by
  intro i
  induction i with
  | zero => exact ⟨by simp [dcO], fun y hy => by simp [dcO] at hy⟩
  | succ i ih =>
    by_cases hi : i < ls.length
    · rw [dcO_snoc ls i _ hi rfl]
      exact stO_wf 1000 (hok _ (getD_mem ls i [] hi)) ih
    · rw [List.take_of_length_le (by omega)]
      rw [List.take_of_length_le (by omega)] at ih
      exact ih
theorem dcO_cnt (ls : List Str) : ∀ i, (dcO (ls.take i)).2.length ≤ i := by
  intro i
  induction i with
  | zero => simp [dcO]
  | succ i ih =>
    by_cases hi : i < ls.length
    · rw [dcO_snoc ls i _ hi rfl]
      have := stO_cnt (dcO (ls.take i)) (ls.getD i [])
      omega
    · rw [List.take_of_length_le (by omega)]
      rw [List.take_of_length_le (by omega)] at ih
      omega
end Go.Proofs.YtijeogdnjeamaaaGreatDoor
