import Derived.Test.YtenbdeljblmbhaaGreatDoorMc11
import Derived.Test.YtenbdeljblmbhaaGreatDoorMc12
import Derived.Test.YtenbdeljblmbhaaGreatDoorMc16
import Derived.Test.YtenbdeljblmbhaaGreatDoorMc19
import Derived.Test.YtenbdeljblmbhaaGreatDoorMc09
/- Package object: the reader of lines. -/
namespace Go.Proofs.YtenbdeljblmbhaaGreatDoor
open Go.RowKit
set_option linter.unusedVariables false
set_option linter.unusedSimpArgs false
/-- The reader at block g has come to r; all else that was there is as it was. -/
structure Rd (g : Nat) (r : ByteArray) (w w' : World) : Prop where
  os : w'.os = w.os
  tape : w'.tape = w.tape
  output : w'.output = w.output
  size : w.heap.size ≤ w'.heap.size
  block : ∀ b, b < w.heap.size → b ≠ g → w'.heap[b]? = w.heap[b]?
  box : w'.heap[g]? = some (.cells #[.string r] 220 (0, 0))
theorem lt_of_some {w : World} {g : Nat} {o : Obj} (h : w.heap[g]? = some o) : g < w.heap.size := (Array.getElem?_eq_some_iff.1 h).1
theorem Rd.below {g : Nat} {r : ByteArray} {w w' : World} (h : Rd g r w w') {B : Nat} {w0 : World} (hb : Below B w0 w) (hB : B ≤ g) (hg : g < w.heap.size) : Below B w0 w' :=
  ⟨h.os.trans hb.os, h.tape.trans hb.tape, h.output.trans hb.output, Nat.le_trans hb.size h.size, fun k hk => (h.block k (by omega) (by omega)).trans (hb.block k hk)⟩
/-- Before it memory grew, behind it too. -/
theorem Rd.wide {g : Nat} {r : ByteArray} {w w1 w2 w3 : World} (hg : g < w.heap.size) (h1 : Below w.heap.size w w1) (h : Rd g r w1 w2) (h2 : Below w.heap.size w2 w3) : Rd g r w w3 :=
  ⟨h2.os.trans (h.os.trans h1.os), h2.tape.trans (h.tape.trans h1.tape), h2.output.trans (h.output.trans h1.output), Nat.le_trans h1.size (Nat.le_trans h.size h2.size), fun b hb hne => (h2.block b hb).trans ((h.block b (Nat.lt_of_lt_of_le hb h1.size) hne).trans (h1.block b hb)), (h2.block g hg).trans h.box⟩
theorem Rd.cell {g : Nat} {r : ByteArray} {w w' : World} (h : Rd g r w w') {p : Addr} (hp : p.block < w.heap.size) (hne : p.block ≠ g) : w'.cell? p = w.cell? p := by
  simp only [World.cell?, h.block p.block hp hne]
theorem Mx.rd {g : Nat} {r : ByteArray} {w w' : World} (h : Mx w) (hr : Rd g r w w') (hg : 1 < g) : Mx w' := by
  obtain ⟨m, hm⟩ := h
  refine ⟨m, ?_⟩
  have h1 : 1 < w.heap.size := by
    rcases Nat.lt_or_ge 1 w.heap.size with h' | h'
    · exact h'
    · simp [World.cell?, Array.getElem?_eq_none h'] at hm
  exact (hr.cell (p := ⟨1, 0, none⟩) h1 (by simp; omega)).trans hm
set_option maxRecDepth 20000 in
theorem rline_any (s : List UInt8) (hs : s.length ≤ 1000000) (g : Nat) (w : World) (hg : w.heap[g]? = some (.cells #[.string ⟨s.toArray⟩] 220 (0, 0))) (hm : Mx w) :
    Calls Tryz.prog 142 #[.pointer (some ⟨g, 0, none⟩)] w fun e w' => e = .returned (.string ⟨(Lib.cut s [10]).1.toArray⟩) ∧ Rd g ⟨(Lib.cut s [10]).2.1.toArray⟩ w w' := by
  obtain ⟨S, HS⟩ : ∃ S : ByteArray, Hid (⟨s.toArray⟩ = S) := ⟨_, rfl⟩
  obtain ⟨F, HF⟩ : ∃ S : ByteArray, Hid (⟨(Lib.cut s [10]).1.toArray⟩ = S) := ⟨_, rfl⟩
  obtain ⟨R, HR⟩ : ∃ S : ByteArray, Hid (⟨(Lib.cut s [10]).2.1.toArray⟩ = S) := ⟨_, rfl⟩
  obtain ⟨fd, HFD⟩ : ∃ b : Bool, Hid ((Lib.cut s [10]).2.2 = b) := ⟨_, rfl⟩
  have HC : Hid (Calls Tryz.prog 82 #[.string S, .string ⟨#[10]⟩] w fun e w' => e = .returned (.tuple #[.string F, .string R, .bool fd]) ∧ ∃ q, w' = w.drewN q) := hid (by
    rw [← HS.out, ← HF.out, ← HR.out, ← HFD.out]
    exact scut_any s [10] w hs hm)
  rw [HF.out, HR.out]
  rw [HS.out] at hg
  have HG : Hid (w.heap[g]? = some (.cells #[.string S] 220 (0, 0))) := hg
  have hc : w.cell? ⟨g, 0, none⟩ = some (.string S) := by rw [cell_of_row w g 0 _ _ _ hg]; rfl
  have hf : w.frozen? ⟨g, 0, none⟩ = false := frozen_of_row w g 0 _ _ hg
  clear hg hm
  go_enter Tryz.func142, Tryz.ntmps142
  go_wp2_with fail
  refine HC.out.mono ?_
  rintro ev w' ⟨rfl, q, rfl⟩
  go_wp2
  go_ret
  refine ⟨rfl, rfl, rfl, rfl, Nat.le_of_eq ?_, ?_, ?_⟩
  · simp [World.setCell, heap_drewN]
  · intro b hb hne
    exact heap_setCell_other (w.drewN q) ⟨g, 0, none⟩ b _ hne
  · exact (heap_setCell_same (w.drewN q) g 0 _ 220 _ HG.out)
/-- What stands in a line behind its word. -/
def fld (s wd : List UInt8) : List UInt8 := Lib.trimPrefix (Lib.cut s [10]).1 (wd ++ [32])
set_option maxRecDepth 20000 in
theorem rfield_any (s wd : List UInt8) (hs : s.length ≤ 1000000) (hw : wd.length ≤ 100) (g : Nat) (w : World) (hg : w.heap[g]? = some (.cells #[.string ⟨s.toArray⟩] 220 (0, 0))) (hm : Mx w) :
    Calls Tryz.prog 141 #[.pointer (some ⟨g, 0, none⟩), .string ⟨wd.toArray⟩] w fun e w' => e = .returned (.string ⟨(fld s wd).toArray⟩) ∧ Rd g ⟨(Lib.cut s [10]).2.1.toArray⟩ w w' := by
  obtain ⟨F, HF⟩ : ∃ S : ByteArray, Hid (⟨(Lib.cut s [10]).1.toArray⟩ = S) := ⟨_, rfl⟩
  obtain ⟨R, HR⟩ : ∃ S : ByteArray, Hid (⟨(Lib.cut s [10]).2.1.toArray⟩ = S) := ⟨_, rfl⟩
  obtain ⟨Wd, HW⟩ : ∃ S : ByteArray, Hid (⟨wd.toArray⟩ = S) := ⟨_, rfl⟩
  obtain ⟨W2, HW2⟩ : ∃ S : ByteArray, Wd ++ ⟨#[32]⟩ = S := ⟨_, rfl⟩
  obtain ⟨T, HT⟩ : ∃ S : ByteArray, Hid (⟨(fld s wd).toArray⟩ = S) := ⟨_, rfl⟩
  have HL : Hid (Calls Tryz.prog 142 #[.pointer (some ⟨g, 0, none⟩)] w fun e w' => e = .returned (.string F) ∧ Rd g R w w') := hid (by rw [← HF.out, ← HR.out]; exact rline_any s hs g w hg hm)
  have HP : Hid (∀ w, Calls Tryz.prog 177 #[.string F, .string W2] w fun e w' => e = .returned (.string T) ∧ w' = w) := fun w => by
    have h2 : W2 = ⟨(wd ++ [32]).toArray⟩ := by rw [← HW2, ← HW.out, show (⟨#[32]⟩ : ByteArray) = ⟨[32].toArray⟩ from rfl]; exact str_app _ _
    rw [h2, ← HF.out, ← HT.out]
    exact Any.strings_TrimPrefix Tryz.lays101 ⟨(Lib.cut s [10]).1.toArray⟩ ⟨(wd ++ [32]).toArray⟩ w
  have hWs : Wd.size ≤ 100 := by rw [← HW.out]; simpa [ByteArray.size] using hw
  have g1 : ¬ 9223372036854775807 < Wd.size + 1 := by omega
  have g2 : ¬ 9223372036854775807 ≤ Wd.size := by omega
  have l3 : (⟨#[32]⟩ : ByteArray).size = 1 := rfl
  rw [HR.out, HW.out, HT.out]
  clear hg hm
  go_enter Tryz.func141, Tryz.ntmps141
  go_wp2_with fail
  refine HL.out.mono ?_
  rintro ev w1 ⟨rfl, hr⟩
  have HRD : Hid (Rd g R w w1) := hr
  clear hr
  go_wp2_with fail
  refine (HP.out w1).mono ?_
  rintro ev w' ⟨rfl, rfl⟩
  go_wp2
  go_ret
  exact ⟨rfl, HRD.out⟩
end Go.Proofs.YtenbdeljblmbhaaGreatDoor
/- 'end'. -/
namespace Go.Proofs.YtenbdeljblmbhaaGreatDoor
open Go.RowKit
set_option linter.unusedVariables false

theorem row_snoc (k : IntKind) (l : List Int) (x : Int) : row k (l ++ [x]) = row k l ++ [.int k x] := by simp [row]
theorem pad_iff (n j : Nat) (h : j ≤ pads n) : ((n + (1 + j) + 8) % 64 = 0) ↔ j = pads n := by unfold pads at *; omega
set_option maxRecDepth 20000 in
set_option maxHeartbeats 2000000 in
theorem end_any (n : Nat) (w : World) (hn : n ≤ 700000) :
    Calls Tryz.prog 116 #[.int .u64 n] w fun e w' => ∃ g cp, e = .returned (.slice (some ⟨g, 0, none⟩) (endOf n).length cp) ∧ Below w.heap.size w w' ∧ w.heap.size ≤ g ∧ g < w'.heap.size ∧ At w' g 0 (endOf n) ∧ (endOf n).length ≤ cp := by
  obtain ⟨i5, hi, hz0, hz1, hz2⟩ := info_parts Tryz.info5
  have HB0 : Hid (Below w.heap.size w (w.alloc (.cells #[.int .u8 128] 5))) := (Below.refl _ w).alloc (Nat.le_refl _) _
  have hp63 := pads_le n
  go_enter Tryz.func116, Tryz.ntmps116
  go_wp2
  go_loopg [3] (pads n) (fun g s wr => ∃ (j gb cp : Nat) (ls : List Int), j ≤ pads n ∧ g = pads n - j ∧ s = .slice (some ⟨gb, 0, none⟩) (1 + j : Nat) cp ∧ Hid (ls = 128 :: List.replicate j 0) ∧ wr.ownsRow w.heap.size 5 1 (.slice (some ⟨gb, 0, none⟩) (1 + j : Nat) cp) (1 + j) (row .u8 ls) ∧ Hid (Below w.heap.size w wr))
  case atStart => exact ⟨0, w.heap.size, 1, _, by omega, rfl, rfl, rfl, World.ownsRow_lit w #[.int .u8 128] 1 (Nat.le_refl _) (by unfold maxLen; omega) rfl, HB0⟩
  case round =>
    obtain ⟨j, gb, cp, ls, hj, hk, rfl, HLs, hown, HB⟩ := hrel
    by_cases hlt : j < pads n
    · have hc : ((n : Int) + (1 + j) + 8) % 64 ≠ 0 := by have := pad_iff n j hj; omega
      go_wp2_with (refine wpList_append_lies _ rfl _ _ _ rfl w.heap.size 5 i5 (.int .u8 0) 1 1 Tryz.underlying23 hi hz0 hz1 hz2 rfl (by omega) (.slice (some ⟨gb, 0, none⟩) (1 + j : Nat) cp) (1 + j) (row .u8 ls) rfl (by exact hown.alloc _) ⟨wr.heap.size, 0, none⟩ 1 1 [.int .u8 0] rfl rfl (by intro j u hj; match j, hj with | 0, hj => simp at hj; subst hj; simp [Addr.add]) (by intro u hu; simp at hu; subst hu; rfl) (by omega) (by unfold maxLen; omega) (by omega) (by have := HB.out.size; simp; omega) (wr.heap.size + 1) (by simp) ?_; intro g2 cp2 w3 hown1 hgrow hat hlt2)
      have HB2 : Hid (Below w.heap.size w w3) := below_step HB.out (Nat.le_refl _) (World.grownBy_alloc wr _ none) hgrow (fun k hk => (own_lt hown k hk).1)
      have HO : Hid (w3.ownsRow w.heap.size 5 1 (.slice (some ⟨g2, 0, none⟩) (1 + j + 1 : Nat) cp2) (1 + j + 1) (row .u8 (ls ++ [0]))) := hid (by rw [row_snoc]; exact hown1)
      clear hown1 hgrow hat hown
      go_wp2
      go_roundg (pads n - (j + 1))
      case measure => omega
      case rel => exact ⟨j + 1, g2, cp2, ls ++ [0], by omega, rfl, rfl, hid (by rw [HLs.out, List.replicate_succ', List.cons_append]), HO.out, HB2⟩
    · obtain rfl : j = pads n := by omega
      have hc : ((n : Int) + (1 + (pads n : Nat)) + 8) % 64 = 0 := by have := pad_iff n (pads n) (Nat.le_refl _); omega
      obtain ⟨q, HQ⟩ : ∃ q, Hid (q = 1 + pads n) := ⟨_, rfl⟩
      have hq64 : q ≤ 64 := by have := HQ.out; omega
      rw [← HQ.out] at hown
      have hc2 : ((n : Int) + q + 8) % 64 = 0 := by have := HQ.out; omega
      rw [← HQ.out]
      have HLq : Hid (ls = 128 :: List.replicate (pads n) 0) := HLs.out
      clear hc hlt hj hk
      go_wp2
      clear hc2
      go_loopg [3, 20] 8 (fun g s i wr => ∃ (j gb cp : Nat) (ls : List Int), j ≤ 8 ∧ g = 8 - j ∧ i = .int .i64 j ∧ s = .slice (some ⟨gb, 0, none⟩) (q + j : Nat) cp ∧ Hid (ls = 128 :: List.replicate (pads n) 0 ++ (List.range j).map (be8 (8 * n))) ∧ wr.ownsRow w.heap.size 5 1 (.slice (some ⟨gb, 0, none⟩) (q + j : Nat) cp) (q + j) (row .u8 ls) ∧ Hid (Below w.heap.size w wr))
      case atStart => exact ⟨0, gb, cp, ls, by omega, rfl, rfl, rfl, hid (by rw [HLq.out]; simp), hown, HB⟩
      case round =>
        clear hown HB
        obtain ⟨j, gb, cp, ls, hj, hk, rfl, rfl, HLs, hown, HB⟩ := hrel
        by_cases hlt : j < 8
        · obtain ⟨x, HX⟩ : ∃ x, Hid (x = be8 (8 * n) j) := ⟨_, rfl⟩
          have hx : 8 * (n : Int) / 2 ^ (8 * (7 - j)) % 256 = x := by rw [HX.out]; unfold be8; rw [Int.natCast_emod, Int.natCast_ediv, Int.natCast_mul, Int.natCast_pow]; rfl
          go_wp2_with (refine wpList_append_lies _ rfl _ _ _ rfl w.heap.size 5 i5 (.int .u8 0) 1 1 Tryz.underlying23 hi hz0 hz1 hz2 rfl (by omega) (.slice (some ⟨gb, 0, none⟩) (q + j : Nat) cp) (q + j) (row .u8 ls) rfl (by exact hown.alloc _) ⟨wr.heap.size, 0, none⟩ 1 1 [.int .u8 x] rfl rfl (by intro j u hj; match j, hj with | 0, hj => simp at hj; subst hj; simp [Addr.add]) (by intro u hu; simp at hu; subst hu; rfl) (by omega) (by unfold maxLen; omega) (by omega) (by have := HB.out.size; simp; omega) (wr.heap.size + 1) (by simp) ?_; intro g2 cp2 w3 hown1 hgrow hat hlt2)
          have HB2 : Hid (Below w.heap.size w w3) := below_step HB.out (Nat.le_refl _) (World.grownBy_alloc wr _ none) hgrow (fun k hk => (own_lt hown k hk).1)
          have HO : Hid (w3.ownsRow w.heap.size 5 1 (.slice (some ⟨g2, 0, none⟩) (q + j + 1 : Nat) cp2) (q + j + 1) (row .u8 (ls ++ [x]))) := hid (by rw [row_snoc]; exact hown1)
          clear hown1 hgrow hat hown hx
          go_wp2
          go_roundg (8 - (j + 1))
          case measure => omega
          case rel => exact ⟨j + 1, g2, cp2, ls ++ [x], by omega, rfl, by go_num, rfl, hid (by rw [HLs.out, HX.out, List.range_succ, List.map_append, List.append_assoc]; rfl), HO.out, HB2⟩
        · obtain rfl : j = 8 := by omega
          have HE : Hid (ls = endOf n) := hid (by rw [HLs.out]; rfl)
          have hel : (endOf n).length = q + 8 := by rw [endOf_len]; have := HQ.out; omega
          obtain ⟨g0, cp0, hform, hg0, hcp0⟩ := hown.form (by omega)
          have hlt3 := (own_lt hown gb rfl)
          have HAt : Hid (At wr gb 0 (endOf n)) := fun i hi => by
            rw [Nat.zero_add, hown.cellAt i (by omega), HE.out, row_at .u8 (endOf n) i hi]
          have hcp : q + 8 ≤ cp := by
            rcases hown.2 with ⟨_, h0⟩ | ⟨g, cap, cur, hv, _, _, h1, _⟩
            · omega
            · simp only [Value.slice.injEq] at hv; omega
          go_wp2
          go_ret
          exact ⟨gb, cp, by rw [hel]; rfl, HB.out, hlt3.1, hlt3.2, HAt.out, by rw [hel]; exact hcp⟩
end Go.Proofs.YtenbdeljblmbhaaGreatDoor
