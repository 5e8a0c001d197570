/- Spans in memory. -/
import Derived.Test.YtjpihkheapjigaaDoorPaB
namespace Go.Proofs.YtjpihkheapjigaaDoor
open Go.RowKit
set_option linter.unusedVariables false
set_option linter.unusedSimpArgs false
def encP (x : Sp) : List Value := [.int .i64 (x.1 : Int), .int .i64 (x.2 : Int)]
/-- Spans in memory; of one's own. -/
abbrev PP (w : World) (a : Option Addr) (cap : Nat) (l : List Sp) : Prop := Px encP 2 (0, 0) w a cap l
abbrev BP (w0 w : World) (B : Nat) (v : Value) (l : List Sp) : Prop := Bx encP 2 54 w0 w B v l
theorem encP_len (x : Sp) : (encP x).length = 2 := rfl
theorem encP_one (x : Sp) : ∀ v ∈ encP x, v.oneCell' = true := fun v hv => by
  rcases List.mem_cons.1 hv with rfl | hv
  · rfl
  · rw [List.mem_singleton.1 hv]; rfl
theorem Tryd.info54 : (Tryd.prog.info? 54).map (fun i => (i.zero, i.size, i.bytes)) = some (some (.agg #[.int .i64 0, .int .i64 0]), 2, 16) := by kernel_rfl
theorem und51 : Tryd.prog.underlying 51 = some (.slice 54) := by kernel_rfl
theorem run_build51 (x y : Nat) (w : World) : (Instr.buildSlice 51 1 #[(0, .agg #[.int .i64 (x : Int), .int .i64 (y : Int)])]).run Tryd.prog w = .ok (.slice (some ⟨w.heap.size, 0, none⟩) 1 1) (w.alloc (.cells #[.int .i64 (x : Int), .int .i64 (y : Int)] 54)) := by
  obtain ⟨i, hq, hz, hs, _⟩ := info_parts Tryd.info54
  refine run_buildSlice w 51 54 1 _ #[.int .i64 (x : Int), .int .i64 (y : Int)] i _ Tryd.underlying51 hq hz (by rw [hs]; decide) (by rw [hs]; decide) ?_
  rw [hs]
  kernel_rfl
theorem pp_one (x : Sp) (e : TypeId) (w : World) : PP (w.alloc (.cells (encP x).toArray e)) (some ⟨w.heap.size, 0, none⟩) 1 [x] :=
  ⟨by simp, fun _ => ⟨w.heap.size, 0, rfl, by simp, fun i hi => by
    obtain rfl : i = 0 := by simp at hi; omega
    have := range_row (cs := encP x) (heap_alloc_new w (.cells (encP x).toArray e))
    simpa using this⟩, fun h => by cases h⟩
/-- One span more, behind those of one's own. -/
theorem app_sp {w0 wr : World} {G m lc : Nat} {la : Option Addr} {L : List Sp} (hB : BP w0 wr G (.slice la m lc) L) (hLm : L.length = m) (hm : m ≤ 20000) (x : Sp)
    {ops : Array Oper} {rest : List Oper} {o : Oper} {ac : Act} {Q : Exit → Act → World → Prop} (hg : o.guard = none) (s y : Operand) (ho : o.op = .call { callee := .builtin .append, args := #[s, y], argTypes := #[51, 51] }) (hs : ac.eval s = .slice la m lc) (hy : ac.eval y = .slice (some ⟨wr.heap.size, 0, none⟩) 1 1)
    (hK : ∀ a' c' w', Hid (BP w0 w' G (.slice a' (m + 1 : Nat) c') (L ++ [x])) → wpList Tryd.prog ops Q rest (ac.put o.dst (.slice a' (m + 1 : Nat) c')) w') : wpList Tryd.prog ops Q (o :: rest) ac (wr.alloc (.cells #[.int .i64 (x.1 : Int), .int .i64 (x.2 : Int)] 54)) := by
  refine wpList_bx_sl hg s y 51 54 und51 Tryd.info54 rfl (by decide) (by decide) encP_one ho G (.slice la m lc) L hs (hB.alloc _) _ 1 [x] hy (pp_one x 54 wr) (fun x _ => encP_len x) (by rw [hLm]; simp; omega) ?_
  intro v' w' h1 h2
  obtain ⟨a', c', rfl⟩ := owns_shape h1.own
  rw [List.length_append, hLm] at h1 ⊢
  exact hK a' c' w' h1
theorem PP.two {w : World} {b off cap : Nat} {l : List Sp} (h : PP w (some ⟨b, off, none⟩) cap l) (i : Nat) (hi : i < l.length) : w.cell? ⟨b, off + i * 2, none⟩ = some (.int .i64 ((l.getD i (0, 0)).1 : Int)) ∧ w.cell? ⟨b, off + i * 2 + 1, none⟩ = some (.int .i64 ((l.getD i (0, 0)).2 : Int)) := by
  obtain ⟨b', off', e1, _, e3⟩ := h.at_ (by omega)
  cases e1
  have h0 := e3 i hi 0 _ rfl
  have h1 := e3 i hi 1 _ rfl
  exact ⟨h0, h1⟩
theorem flat_len (l : List Sp) : (l.flatMap encP).length = l.length * 2 := fX_len l (fun x _ => encP_len x)
/-- The last one's end, moved. -/
theorem BP.more {w0 w : World} {G n cap g : Nat} {l : List Sp} {p : Sp} (h : BP w0 w G (.slice (some ⟨g, 0, none⟩) n cap) (l ++ [p])) (hn : l.length + 1 = n) (e : Nat) : BP w0 (w.setCell ⟨g, l.length * 2 + 1, none⟩ (.int .i64 (e : Int))) G (.slice (some ⟨g, 0, none⟩) n cap) (l ++ [(p.1, e)]) := by
  have hl : (l ++ [p]).length = n := by simp [hn]
  have ho := h.own
  rw [hl] at ho
  have hG : G ≤ g := (own_lt ho g rfl).1
  have h1 := ho.stored (l.length * 2 + 1) (.int .i64 (e : Int))
  refine ⟨h.below.grown h1.2 h.le (fun k hk => by cases hk; exact hG), ?_, Nat.le_trans h.le h1.2.size⟩
  rw [show (l ++ [(p.1, e)]).length = n by simp [hn]]
  have e2 : ((l ++ [p]).flatMap encP).set (l.length * 2 + 1) (.int .i64 (e : Int)) = (l ++ [(p.1, e)]).flatMap encP := by
    rw [List.flatMap_append, List.flatMap_append, List.set_append_right _ _ (by rw [flat_len]; omega), flat_len, show l.length * 2 + 1 - l.length * 2 = 1 by omega]
    rfl
  rw [← e2]
  exact h1.1
theorem sps_len (L : List Ed) (c : Nat) : ∀ i, (sps L c i).length ≤ i
  | 0 => Nat.le_refl _
  | i + 1 => by
    have := sps_len L c i
    rw [sps]
    split
    · unfold addS
      split
      · simp
      · split
        · rename_i p hp _
          cases h : sps L c i with
          | nil => rw [h] at hp; cases hp
          | cons a r => rw [h] at this; simp at this ⊢; omega
        · simp; omega
    · omega
end Go.Proofs.YtjpihkheapjigaaDoor
