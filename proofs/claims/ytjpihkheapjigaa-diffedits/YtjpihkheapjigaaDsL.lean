/- THE LAW 'DiffSimilar': walked. -/
import Derived.Test.YtjpihkheapjigaaDfW
namespace Go.Proofs.Ytjpihkheapjigaa
open Go.RowKit
set_option linter.unusedVariables false
set_option linter.unusedSimpArgs false
def IsTrue (w : World) (e : Ending) (w' : World) : Prop := e = .returned (.bool true) ∧ Below w.heap.size w w'
theorem walkS_one (a b : Option Addr) (n ca m cb : Nat) (w : World) (hn : 4000 < n) : Calls Try.prog 4 #[.slice a n ca, .slice b m cb] w (IsTrue w) := by
  have hI : (4000 : Int) < (n : Int) := by omega
  go_enter Try.func4, Try.ntmps4
  go_wp2
  go_ret
  exact ⟨rfl, Below.refl _ _⟩
theorem walkS_two (a b : Option Addr) (n ca m cb : Nat) (w : World) (hn : ¬ 4000 < n) (hm : 4000 < m) : Calls Try.prog 4 #[.slice a n ca, .slice b m cb] w (IsTrue w) := by
  have hI : ¬ (4000 : Int) < (n : Int) := by omega
  have hJ : (4000 : Int) < (m : Int) := by omega
  go_enter Try.func4, Try.ntmps4
  go_wp2
  go_ret
  exact ⟨rfl, Below.refl _ _⟩
set_option maxRecDepth 20000 in
set_option maxHeartbeats 1000000 in
theorem walkS {w : World} (a : Option Addr) (ca : Nat) (s : Str) (hA : PB w a ca s) (hs : s.length ≤ 4000) (b : Option Addr) (cb : Nat) (t : Str) (hB : PB w b cb t) (ht : t.length ≤ 4000) :
    Calls Try.prog 4 #[.slice a s.length ca, .slice b t.length cb] w (IsTrue w) := by
  obtain ⟨n, HN⟩ : ∃ n, Hid (s.length = n) := ⟨_, rfl⟩
  obtain ⟨m, HM⟩ : ∃ n, Hid (t.length = n) := ⟨_, rfl⟩
  obtain ⟨D, HD⟩ : ∃ D, Hid (simv (com List.length (lns s) (lns t)) (n + m) = D) := ⟨_, rfl⟩
  have C1 : Hid (∀ W, Below w.heap.size w W → Calls Try.prog 12 #[.slice a n ca, .slice b m cb] W fun e w' => e = .returned (.int .i64 D) ∧ Below W.heap.size W w') := fun W hW => by
    have := sim_any a ca s (hA.below hW) hs b cb t (hB.below hW) ht
    rw [HN.out, HM.out, HD.out] at this
    exact this
  have C2 : Hid (∀ W, Below w.heap.size w W → Calls Try.prog 13 #[.slice a n ca, .slice b m cb] W fun e w' => e = .returned (.int .i64 D) ∧ Below W.heap.size W w') := fun W hW => by
    have := refSim_any a ca s (hA.below hW) hs b cb t (hB.below hW) ht
    rw [HN.out, HM.out, HD.out] at this
    exact this
  have C3 : Hid (∀ W, Below w.heap.size w W → Calls Try.prog 12 #[.slice b m cb, .slice a n ca] W fun e w' => e = .returned (.int .i64 D) ∧ Below W.heap.size W w') := fun W hW => by
    have := sim_any b cb t (hB.below hW) ht a ca s (hA.below hW) hs
    rw [HN.out, HM.out, com_symm, Nat.add_comm, HD.out] at this
    exact this
  have C4 : Hid (∀ W, Below w.heap.size w W → Calls Try.prog 12 #[.slice a n ca, .slice a n ca] W fun e w' => e = .returned (.int .i64 100) ∧ Below W.heap.size W w') := fun W hW => by
    have := sim_any a ca s (hA.below hW) hs a ca s (hA.below hW) hs
    rw [simv_self, HN.out] at this
    exact this
  have hI : ¬ (4000 : Int) < (n : Int) := by have := HN.out; omega
  have hJ : ¬ (4000 : Int) < (m : Int) := by have := HM.out; omega
  have HGS : Hid (∀ W, Below w.heap.size w W → w.heap.size ≤ W.heap.size) := fun W hW => hW.size
  rw [HN.out, HM.out]
  clear hA hB hs ht
  go_enter Try.func4, Try.ntmps4
  go_wp2_with fail
  refine (C1.out w (Below.refl _ _)).mono ?_
  rintro e w1 ⟨rfl, hb1⟩
  have HB1 : Hid (Below w.heap.size w w1) := hb1
  have K2 : Hid (Calls Try.prog 13 #[.slice a n ca, .slice b m cb] w1 fun e w' => e = .returned (.int .i64 D) ∧ Below w1.heap.size w1 w') := hid (C2.out w1 hb1)
  clear hb1
  go_wp2_with fail
  refine K2.out.mono ?_
  rintro e w2 ⟨rfl, hb2⟩
  have HB2 : Hid (Below w.heap.size w w2) := hid (HB1.out.trans (hb2.mono HB1.out.size))
  have K3 : Hid (Calls Try.prog 12 #[.slice b m cb, .slice a n ca] w2 fun e w' => e = .returned (.int .i64 D) ∧ Below w2.heap.size w2 w') := hid (C3.out w2 HB2.out)
  clear hb2
  go_wp2_with fail
  refine K3.out.mono ?_
  rintro e w3 ⟨rfl, hb3⟩
  have HB3 : Hid (Below w.heap.size w w3) := hid (HB2.out.trans (hb3.mono HB2.out.size))
  have K4 : Hid (Calls Try.prog 12 #[.slice a n ca, .slice a n ca] w3 fun e w' => e = .returned (.int .i64 100) ∧ Below w3.heap.size w3 w') := hid (C4.out w3 HB3.out)
  clear hb3
  go_wp2_with fail
  refine K4.out.mono ?_
  rintro e w4 ⟨rfl, hb4⟩
  have HB4 : Hid (Below w.heap.size w w4) := hid (HB3.out.trans (hb4.mono HB3.out.size))
  clear hb4
  go_wp2
  go_ret
  exact ⟨rfl, HB4.out⟩
end Go.Proofs.Ytjpihkheapjigaa
