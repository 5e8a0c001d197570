/- THE LAW 'DiffPatches', walked. -/
import Derived.Test.YtjpihkheapjigaaDoorPaR
import Derived.Test.YtjpihkheapjigaaDoorEdR
import Derived.Test.YtjpihkheapjigaaDoorEdQ
import Derived.Test.YtjpihkheapjigaaDoorEdS
namespace Go.Proofs.YtjpihkheapjigaaDoor
open Go.RowKit
set_option linter.unusedVariables false
set_option linter.unusedSimpArgs false
def IsTrue (w : World) : Ending → World → Prop := fun e w' => e = .returned (.bool true) ∧ Below w.heap.size w w'
theorem refE {w : World} (a : Option Addr) (ca : Nat) (s : Str) (hA : PB w a ca s) (hs : s.length ≤ 4000) (b : Option Addr) (cb : Nat) (t : Str) (hB : PB w b cb t) (ht : t.length ≤ 4000) : Calls Tryd.prog 10 #[.slice a s.length ca, .slice b t.length cb] w (PostX (edits (lns s) (lns t)) w) := by
  by_cases h1 : 2000 < (lns s).length
  · exact refEdits_big1 a ca s hA hs b cb t hB ht h1
  · by_cases h2 : 2000 < (lns t).length
    · exact refEdits_big2 a ca s hA hs b cb t hB ht h1 h2
    · exact refEdits_small a ca s hA hs b cb t hB ht (fun h => h.elim h1 h2)
theorem walkP_one (a b : Option Addr) (n ca m cb : Nat) (c : Int) (w : World) (h : 4000 < n) : Calls Tryd.prog 3 #[.slice a n ca, .slice b m cb, .int .i64 c] w (IsTrue w) := by
  have hi : (4000 : Int) < (n : Int) := by omega
  have HB : Hid (Below w.heap.size w w) := Below.refl _ _
  go_enter Tryd.func3, Tryd.ntmps3
  go_wp2
  go_ret
  exact ⟨rfl, HB.out⟩
theorem walkP_two (a b : Option Addr) (n ca m cb : Nat) (c : Int) (w : World) (h0 : ¬ 4000 < n) (h : 4000 < m) : Calls Tryd.prog 3 #[.slice a n ca, .slice b m cb, .int .i64 c] w (IsTrue w) := by
  have hj : ¬ (4000 : Int) < (n : Int) := by omega
  have hi : (4000 : Int) < (m : Int) := by omega
  have HB : Hid (Below w.heap.size w w) := Below.refl _ _
  go_enter Tryd.func3, Tryd.ntmps3
  go_wp2
  go_ret
  exact ⟨rfl, HB.out⟩
theorem patchT_le (s t : Str) (c : Nat) (hs : s.length ≤ 4000) (ht : t.length ≤ 4000) : (patchT (edits (lns s) (lns t)) c).length ≤ 1000000000000 := by
  have hEl : (edits (lns s) (lns t)).length ≤ 10000 := by have h1 := edits_len (lns s) (lns t); have h2 := lns_few s; have h3 := lns_few t; omega
  have hE : ∀ e ∈ edits (lns s) (lns t), e.2.length ≤ 4000 := fun e he => by
    rcases (edits_in (lns s) (lns t) e he).2 with h | h
    · have := lns_short s _ h; omega
    · have := lns_short t _ h; omega
  unfold patchT
  have h1 := flat_le (hkT (edits (lns s) (lns t))) 40300040 (sps (edits (lns s) (lns t)) c (edits (lns s) (lns t)).length) (fun x _ => hkT_le _ x hEl hE)
  have h2 := Nat.mul_le_mul_right 40300040 (Nat.le_trans (sps_len (edits (lns s) (lns t)) c (edits (lns s) (lns t)).length) hEl)
  omega
set_option maxRecDepth 20000 in
theorem walkP {w : World} (a : Option Addr) (ca : Nat) (s : Str) (hA : PB w a ca s) (hs : s.length ≤ 4000) (b : Option Addr) (cb : Nat) (t : Str) (hB : PB w b cb t) (ht : t.length ≤ 4000) (c : Int) (hT : Tab w) :
    Calls Tryd.prog 3 #[.slice a s.length ca, .slice b t.length cb, .int .i64 c] w (IsTrue w) := by
  obtain ⟨n, HN⟩ : ∃ n, Hid (s.length = n) := ⟨_, rfl⟩
  obtain ⟨m, HM⟩ : ∃ n, Hid (t.length = n) := ⟨_, rfl⟩
  obtain ⟨g, HG⟩ : ∃ g, Hid (w.heap.size = g) := ⟨_, rfl⟩
  obtain ⟨T, HTT⟩ : ∃ T, Hid (patchT (edits (lns s) (lns t)) (ctx c) = T) := ⟨_, rfl⟩
  have hI : ¬ (4000 : Int) < (n : Int) := by have := HN.out; omega
  have hJ : ¬ (4000 : Int) < (m : Int) := by have := HM.out; omega
  have HTl : Hid (T.length ≤ 1000000000000) := hid (by rw [← HTT.out]; exact patchT_le s t _ hs ht)
  have C4 : Hid (Calls Tryd.prog 4 #[.slice a n ca, .slice b m cb, .int .i64 c] w (PostY T w)) := hid (by rw [← HN.out, ← HM.out, ← HTT.out]; exact patch_any a ca s hA hs b cb t hB ht c hT)
  have C5 : Hid (∀ W, Below g w W → Calls Tryd.prog 5 #[.slice a n ca, .slice b m cb, .int .i64 c] W (PostY T W)) := fun W hW => by
    have hA' := hA.below (by rw [HG.out]; exact hW)
    have hB' := hB.below (by rw [HG.out]; exact hW)
    rw [← HN.out, ← HM.out, ← HTT.out]
    exact refPatch_any a ca s b cb t hs ht (refE a ca s hA' hs b cb t hB' ht) c (ctx c) rfl
  obtain ⟨l, HL⟩ : ∃ l, Hid (T.length = l) := ⟨_, rfl⟩
  rw [HN.out, HM.out]
  clear hA hB hs ht hT
  go_enter Tryd.func3, Tryd.ntmps3
  go_wp2_with fail
  refine C4.out.mono ?_
  rintro ev w1 ⟨pa, pc, rfl, hpb, hb1⟩
  have HB1 : Hid (Below g w w1) := hid (by rw [← HG.out]; exact hb1)
  have HP1 : Hid (PB w1 pa pc T) := hpb
  have C5' := hid (C5.out w1 HB1.out)
  clear hpb hb1
  rw [HL.out]
  go_wp2_with fail
  refine C5'.out.mono ?_
  rintro ev w2 ⟨ra, rc, rfl, hpb, hb2⟩
  have HB2 : Hid (Below g w w2) := hid (HB1.out.trans (hb2.mono (by have := HB1.out.size; rw [HG.out] at this; exact this)))
  have C6 : Hid (Calls Tryd.prog 6 #[.slice pa l pc, .slice ra l rc] w2 fun e w' => e = .returned (.bool true) ∧ ∃ n, w' = w2.drewN n) := hid (by
    have := same_pb pa pc ra rc T (HP1.out.below hb2) hpb HTl.out
    rw [HL.out] at this
    exact this)
  clear hpb hb2
  rw [HL.out]
  go_wp2_with fail
  refine C6.out.mono ?_
  rintro ev w3 ⟨rfl, k, rfl⟩
  have HB3 : Hid (Below g w (w2.drewN k)) := hid (below_drewH HB2.out k)
  go_wp2
  go_ret
  exact ⟨rfl, by rw [HG.out]; exact HB3.out⟩
end Go.Proofs.YtjpihkheapjigaaDoor
