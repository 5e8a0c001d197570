/- Edits in memory. -/
import Derived.Test.YtakddciegnkpdaaEhA
import Derived.Test.YtakddciegnkpdaaEdP
namespace Go.Proofs.Ytakddciegnkpdaa
open Go.RowKit
set_option linter.unusedVariables false
set_option linter.unusedSimpArgs false
def encE (x : Ed) : List Value := [.int .i64 (x.1 : Int), sV x.2]
/-- Edits in memory. -/
abbrev PE (w : World) (a : Option Addr) (cap : Nat) (l : List Ed) : Prop := Px encE 2 (0, []) w a cap l
/-- Edits of one's own. -/
abbrev BE (e : TypeId) (w0 w : World) (B : Nat) (v : Value) (l : List Ed) : Prop := Bx encE 2 e w0 w B v l
theorem encE_len (x : Ed) : (encE x).length = 2 := rfl
theorem encE_one (x : Ed) : ∀ v ∈ encE x, v.oneCell' = true := fun v hv => by
  rcases List.mem_cons.1 hv with rfl | hv
  · rfl
  · rw [List.mem_singleton.1 hv]; rfl
theorem Try.info58 : (Try.prog.info? 58).map (fun i => (i.zero, i.size, i.bytes)) = some (some (.agg #[.int .i64 0, .string ⟨#[]⟩]), 2, 24) := by kernel_rfl
theorem Try.info52 : (Try.prog.info? 52).map (fun i => (i.zero, i.size, i.bytes)) = some (some (.agg #[.int .i64 0, .string ⟨#[]⟩]), 2, 24) := by kernel_rfl
theorem und26 : Try.prog.underlying 54 = some (.slice 58) := by kernel_rfl
theorem und29 : Try.prog.underlying 49 = some (.slice 52) := by kernel_rfl
theorem run_build26 (k : Nat) (T : Value) (hT : ∃ B, T = .string B) (w : World) : (Instr.buildSlice 54 1 #[(0, .agg #[.int .i64 (k : Int), T])]).run Try.prog w = .ok (.slice (some ⟨w.heap.size, 0, none⟩) 1 1) (w.alloc (.cells #[.int .i64 (k : Int), T] 58)) := by
  obtain ⟨B, rfl⟩ := hT
  obtain ⟨i, hq, hz, hs, _⟩ := info_parts Try.info58
  refine run_buildSlice w 54 58 1 _ #[.int .i64 (k : Int), .string B] i _ Try.underlying54 hq hz (by rw [hs]; decide) (by rw [hs]; decide) ?_
  rw [hs]
  kernel_rfl
theorem run_build29 (k : Nat) (T : Value) (hT : ∃ B, T = .string B) (w : World) : (Instr.buildSlice 49 1 #[(0, .agg #[.int .i64 (k : Int), T])]).run Try.prog w = .ok (.slice (some ⟨w.heap.size, 0, none⟩) 1 1) (w.alloc (.cells #[.int .i64 (k : Int), T] 52)) := by
  obtain ⟨B, rfl⟩ := hT
  obtain ⟨i, hq, hz, hs, _⟩ := info_parts Try.info52
  refine run_buildSlice w 49 52 1 _ #[.int .i64 (k : Int), .string B] i _ Try.underlying49 hq hz (by rw [hs]; decide) (by rw [hs]; decide) ?_
  rw [hs]
  kernel_rfl
theorem pe_one (x : Ed) (e : TypeId) (w : World) : PE (w.alloc (.cells (encE x).toArray e)) (some ⟨w.heap.size, 0, none⟩) 1 [x] :=
  ⟨by simp, fun _ => ⟨w.heap.size, 0, rfl, by simp, fun i hi => by
    obtain rfl : i = 0 := by simp at hi; omega
    have := range_row (cs := encE x) (heap_alloc_new w (.cells (encE x).toArray e))
    simpa using this⟩, fun h => by cases h⟩
/-- One edit more, behind those of one's own. -/
theorem app_ed {e t : TypeId} (hu : Try.prog.underlying t = some (.slice e)) (hin : (Try.prog.info? e).map (fun i => (i.zero, i.size, i.bytes)) = some (some (.agg #[.int .i64 0, .string ⟨#[]⟩]), 2, 24)) {w0 wr : World} {G m lc : Nat} {la : Option Addr} {L : List Ed} (hB : BE e w0 wr G (.slice la m lc) L) (hLm : L.length = m) (hm : m ≤ 20000) (x : Ed) (T : Value) (hT : sV x.2 = T)
    {ops : Array Oper} {rest : List Oper} {o : Oper} {ac : Act} {Q : Exit → Act → World → Prop} (hg : o.guard = none) (s y : Operand) (ho : o.op = .call { callee := .builtin .append, args := #[s, y], argTypes := #[t, t] }) (hs : ac.eval s = .slice la m lc) (hy : ac.eval y = .slice (some ⟨wr.heap.size, 0, none⟩) 1 1)
    (hK : ∀ a' c' w', Hid (BE e w0 w' G (.slice a' (m + 1 : Nat) c') (L ++ [x])) → wpList Try.prog ops Q rest (ac.put o.dst (.slice a' (m + 1 : Nat) c')) w') : wpList Try.prog ops Q (o :: rest) ac (wr.alloc (.cells #[.int .i64 (x.1 : Int), T] e)) := by
  subst hT
  refine wpList_bx_sl hg s y t e hu hin rfl (by decide) (by decide) encE_one ho G (.slice la m lc) L hs (hB.alloc _) _ 1 [x] hy (pe_one x e wr) (fun x _ => encE_len x) (by rw [hLm]; simp; omega) ?_
  intro v' w' h1 h2
  obtain ⟨a', c', rfl⟩ := owns_shape h1.own
  rw [List.length_append, hLm] at h1 ⊢
  exact hK a' c' w' h1
end Go.Proofs.Ytakddciegnkpdaa
