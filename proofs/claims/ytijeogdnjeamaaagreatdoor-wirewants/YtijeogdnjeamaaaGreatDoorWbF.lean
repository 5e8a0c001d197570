/- 'bytes.Clone', 'appendLine'; rows of slices. -/
import Derived.Test.YtijeogdnjeamaaaGreatDoorWbE
namespace Go.Proofs.YtijeogdnjeamaaaGreatDoor
open Go.RowKit
set_option linter.unusedVariables false
set_option linter.unusedSimpArgs false
theorem run_empty (w : World) : (Instr.buildSlice 25 0 #[]).run Tryz.prog w = .ok (.slice (some ⟨w.heap.size, 0, none⟩) 0 0) (w.alloc (.cells #[] 5)) := by
  obtain ⟨i, hq, hz, hs, _⟩ := info_parts Tryz.info5
  simp [Instr.buildSlice, run_underlying Tryz.underlying25, sizeOf, typeInfo, hq, hs, Instr.fill, newRow]
  have e : Array.map (fun x : Nat => (default : Value)) (Array.range 0) = #[] := Array.ext' (by simp)
  rw [e]
theorem own_empty (w : World) : (w.alloc (.cells #[] 5)).ownsRow w.heap.size 5 1 (.slice (some ⟨w.heap.size, 0, none⟩) 0 0) ([] : Str).length (bv []) :=
  ⟨rfl, .inr ⟨w.heap.size, 0, _, rfl, Nat.le_refl _, heap_alloc_new w _, Nat.le_refl _, by decide, rfl, rfl⟩⟩
theorem eq_nil (p : Addr) (n cap : Nat) (w : World) : (binOp .eql 25 (.slice (some p) n cap) (.slice none 0 0)).run Tryz.prog w = .ok (.bool false) w := by
  first
    | (simp [binOp, Op.equal, Op.equalIn, run_underlying Tryz.underlying25]; done)
    | (simp [go_sem, binOp, run_underlying Tryz.underlying25]; done)
    | kernel_rfl
set_option maxRecDepth 20000 in
theorem clone_any {w : World} (p : Addr) (cap : Nat) (s : Str) (hP : PB w (some p) cap s) (hl : s.length ≤ 1000000) : Calls Tryz.prog 83 #[.slice (some p) s.length cap] w fun e w' => ∃ v, e = .returned v ∧ w'.ownsRow w.heap.size 5 1 v s.length (bv s) ∧ Below w.heap.size w w' := by
  obtain ⟨n, HN⟩ : ∃ n, Hid (s.length = n) := ⟨_, rfl⟩
  obtain ⟨W0, HW0⟩ : ∃ W, Hid (w.alloc (.cells #[] 5) = W) := ⟨_, rfl⟩
  have hbe := run_empty w
  rw [HW0.out] at hbe
  have HO : Hid (W0.ownsRow w.heap.size 5 1 (.slice (some ⟨w.heap.size, 0, none⟩) 0 0) ([] : Str).length (bv [])) := hid (by rw [← HW0.out]; exact own_empty w)
  have HB0 : Hid (Below w.heap.size w W0) := hid (by rw [← HW0.out]; exact (Below.refl _ _).alloc (Nat.le_refl _) _)
  have HP0 : Hid (PB W0 (some p) cap s) := hid (hP.below HB0.out)
  have hs0 : w.heap.size ≤ W0.heap.size := HB0.out.size
  have HL := hid hl
  have heqn : ∀ W : World, (binOp .eql 25 (.slice (some p) n cap) (.slice none 0 0)).run Tryz.prog W = .ok (.bool false) W := fun W => eq_nil p n cap W
  rw [HN.out]
  clear hP hl
  go_enter Tryz.func83, Tryz.ntmps83
  go_wp2_with (first | (at_builtin; rw [HW0.out]; refine wpList_own rfl _ _ rfl w.heap.size _ [] rfl HO.out hs0 (some p) cap s (by rw [HN.out]; rfl) HP0.out (by have := HL.out; simp; omega) ?_; intro v2 w2 ho2 hg2 hl2) | fail)
  have HO2 : Hid (w2.ownsRow w.heap.size 5 1 v2 s.length (bv s)) := hid (by simpa using ho2)
  have HB2 : Hid (Below w.heap.size w w2) := hid (HB0.out.grown hg2 hs0 (fun q hq => (own_lt HO.out q hq).1))
  clear ho2 hg2 hl2
  go_wp2
  go_ret
  exact ⟨_, rfl, by rw [← HN.out]; exact HO2.out, HB2.out⟩
/-- A packet line. -/
def pkt (s : Str) : Str := szT s.length ++ s
set_option maxRecDepth 20000 in
theorem appendLine_any {w w0 : World} {B : Nat} {v : Value} {S : Str} (h : Wst B w0 w v S) (hS : S.length ≤ 1000000) (a : Option Addr) (cap : Nat) (s : Str) (hP : PB w a cap s) (hB : 0 < s.length → ∀ p : Addr, a = some p → p.block < B) (hl : s.length ≤ 1000) (hd : Db w) : Calls Tryz.prog 59 #[v, .slice a s.length cap] w fun e w' => ∃ v', e = .returned v' ∧ Wst B w0 w' v' (S ++ pkt s) := by
  obtain ⟨n, HN⟩ : ∃ n, Hid (s.length = n) := ⟨_, rfl⟩
  have hn : n ≤ 1000 := by rw [← HN.out]; exact hl
  have C17 : Hid (Calls Tryz.prog 94 #[.slice a n cap] w fun e w' => e = .returned (.string ⟨(szT n).toArray⟩) ∧ Below w.heap.size w w') := hid (sizeOf_any a n cap (by omega) w hd)
  obtain ⟨Z, HZ⟩ : ∃ Z : ByteArray, Hid (⟨(szT n).toArray⟩ = Z) := ⟨_, rfl⟩
  rw [HZ.out] at C17
  have HW := hid h
  have HPB := hid hP
  have HBk := hid hB
  rw [HN.out]
  clear hP hd h
  go_enter Tryz.func59, Tryz.ntmps59
  go_wp2_with fail
  refine C17.out.mono ?_
  rintro e w1 ⟨rfl, hb1⟩
  have hw1 := HW.out.below hb1
  obtain ⟨v2, W2, hr2, hs2⟩ := hw1.str (szT n) (by rw [szT_len]; omega) 25
  rw [HZ.out] at hr2
  have hl2 : (S ++ szT n).length ≤ 1000004 := by rw [List.length_append, szT_len]; omega
  have HP2 : Hid (PB W2 a cap s) := hid (by
    refine ⟨HPB.out.capl, fun h0 => ?_, HPB.out.nil⟩
    obtain ⟨b, off, e1, e2, e3⟩ := HPB.out.at_ h0
    have hbB := HBk.out h0 _ e1
    refine ⟨b, off, e1, Nat.lt_of_lt_of_le hbB hs2.le, fun i hi j u hu => ?_⟩
    have k0 : w.heap[b]? = w0.heap[b]? := HW.out.bl.block b hbB
    have k2 : W2.heap[b]? = w0.heap[b]? := hs2.bl.block b hbB
    rw [World.cell?_of_block (a := ⟨b, off + i * 1 + j, none⟩) (k2.trans k0.symm)]
    exact e3 i hi j u hu)
  have HS2 := hid hs2
  clear hw1 hs2 hb1
  go_wp2_with (first | (at_builtin; refine wpList_app rfl _ _ 25 9 rfl 25 rfl _ _ rfl rfl hr2 ?_) | (at_builtin; refine wpList_own rfl _ _ rfl B _ (S ++ szT n) rfl HS2.out.own HS2.out.le a cap s (by rw [HN.out]; rfl) HP2.out (by rw [HN.out]; omega) ?_; intro v3 w3 ho3 hg3 hl3) | fail)
  have HS3 : Hid (Wst B w0 w3 v3 (S ++ pkt s)) := hid (by
    have he : S ++ pkt s = (S ++ szT n) ++ s := by unfold pkt; rw [HN.out, List.append_assoc]
    rw [he]; exact HS2.out.grown ho3 hg3)
  clear ho3 hg3 hl3
  go_wp2
  go_ret
  exact ⟨_, rfl, HS3.out⟩
end Go.Proofs.YtijeogdnjeamaaaGreatDoor
