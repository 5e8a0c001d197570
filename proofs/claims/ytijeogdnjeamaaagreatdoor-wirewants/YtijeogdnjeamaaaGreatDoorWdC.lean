/- 'appendLine', of a line that lies in any other block. -/
import Derived.Test.YtijeogdnjeamaaaGreatDoorWdB
namespace Go.Proofs.YtijeogdnjeamaaaGreatDoor
open Go.RowKit
set_option linter.unusedVariables false
set_option linter.unusedSimpArgs false
theorem pb_grown {w w' : World} {a : Option Addr} {cap : Nat} {s : Str} {row : Option Nat} (h : PB w a cap s) (hne : ∀ p : Addr, a = some p → row ≠ some p.block) (hg : w.grownBy w' row) : PB w' a cap s :=
  ⟨h.capl, fun h0 => by
    obtain ⟨b, off, e1, e2, e3⟩ := h.at_ h0
    refine ⟨b, off, e1, Nat.lt_of_lt_of_le e2 hg.size, fun i hi j v hv => ?_⟩
    rw [World.cell?_of_block (a := ⟨b, off + i * 1 + j, none⟩) (hg.block b e2 (fun e => hne _ e1 e.symm))]
    exact e3 i hi j v hv, h.nil⟩
set_option maxRecDepth 20000 in
theorem appendLine2 {w w0 : World} {B : Nat} {v : Value} {S : Str} (h : Wst B w0 w v S) (hS : S.length ≤ 1000000) (a : Option Addr) (cap : Nat) (s : Str) (hP : PB w a cap s) (hB : ∀ p : Addr, a = some p → v.ownBlock ≠ some p.block) (hl : s.length ≤ 1000) (hd : Db w) : Calls Tryz.prog 59 #[v, .slice a s.length cap] w fun e w' => ∃ v', e = .returned v' ∧ Wst B w0 w' v' (S ++ pkt s) := by
  obtain ⟨n, HN⟩ : ∃ n, Hid (s.length = n) := ⟨_, rfl⟩
  have hn : n ≤ 1000 := by rw [← HN.out]; exact hl
  have C17 : Hid (Calls Tryz.prog 94 #[.slice a n cap] w fun e w' => e = .returned (.string ⟨(szT n).toArray⟩) ∧ Below w.heap.size w w') := hid (sizeOf_any a n cap (by omega) w hd)
  obtain ⟨Z, HZ⟩ : ∃ Z : ByteArray, Hid (⟨(szT n).toArray⟩ = Z) := ⟨_, rfl⟩
  rw [HZ.out] at C17
  have HW := hid h
  have HPB := hid hP
  have HBk := hid hB
  rw [HN.out]
  clear hP hd h
  go_enter Tryz.func59, Tryz.ntmps59
  go_wp2_with fail
  refine C17.out.mono ?_
  rintro e w1 ⟨rfl, hb1⟩
  have hw1 := HW.out.below hb1
  obtain ⟨v2, W2, hr2, ho2, hg2⟩ := own_str hw1.own hw1.le (szT n) (by rw [szT_len]; omega) 25
  rw [HZ.out] at hr2
  have HS2 : Hid (Wst B w0 W2 v2 (S ++ szT n)) := hid (hw1.grown ho2 hg2)
  have hl2 : (S ++ szT n).length ≤ 1000004 := by rw [List.length_append, szT_len]; omega
  have HP2 : Hid (PB W2 a cap s) := hid (pb_grown (HPB.out.below hb1) HBk.out hg2)
  clear hw1 ho2 hg2 hb1
  go_wp2_with (first | (at_builtin; refine wpList_app rfl _ _ 25 9 rfl 25 rfl _ _ rfl rfl hr2 ?_) | (at_builtin; refine wpList_own rfl _ _ rfl B _ (S ++ szT n) rfl HS2.out.own HS2.out.le a cap s (by rw [HN.out]; rfl) HP2.out (by rw [HN.out]; omega) ?_; intro v3 w3 ho3 hg3 hl3) | fail)
  have HS3 : Hid (Wst B w0 w3 v3 (S ++ pkt s)) := hid (by
    have he : S ++ pkt s = (S ++ szT n) ++ s := by unfold pkt; rw [HN.out, List.append_assoc]
    rw [he]; exact HS2.out.grown ho3 hg3)
  clear ho3 hg3 hl3
  go_wp2
  go_ret
  exact ⟨_, rfl, HS3.out⟩
end Go.Proofs.YtijeogdnjeamaaaGreatDoor
