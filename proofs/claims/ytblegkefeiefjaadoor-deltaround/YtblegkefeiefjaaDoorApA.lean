/- The program's 'putOut', 'Apply'. -/
import Derived.Test.YtblegkefeiefjaaDoorItB
namespace Go.Proofs.YtblegkefeiefjaaDoor
open Go.RowKit Go.Shelf Plain
set_option linter.unusedVariables false
set_option linter.unusedSimpArgs false
attribute [local go_sem] Oper.semAt_some

set_option maxHeartbeats 1000000 in
theorem putOut_in (n : Nat) (a1 a2 : Option Addr) (n1 c1 n2 c2 : Nat) (w : World) :
    CallsIn Fence.wide n Tryd.prog 16 #[.slice a1 n1 c1, .slice a2 n2 c2] w fun e w' => e = .returned (.func (.func 24) #[] #[.pointer (some ⟨w.heap.size + 1, 0, none⟩), .pointer (some ⟨w.heap.size, 0, none⟩)]) ∧ w' = (w.alloc (.cells #[.slice a1 n1 c1] 22)).alloc (.cells #[.slice a2 n2 c2] 22) := by
  refine callsIn_of_wp Tryd.func16 rfl trivial ?_ rfl
  simp only [Tryd.ntmps16, List.size_toArray, List.length_cons, List.length_nil, Nat.reduceAdd, Nat.reduceSub, Array.replicate_succ, Array.replicate_zero, List.push_toArray, List.append_toArray, List.nil_append, List.cons_append]
  gi_wp2
  go_ret
  exact ⟨rfl, rfl⟩
theorem out_stops (n : Nat) (hn : 1 ≤ n) (w wL : World) (Bst Bba : Nat) (a0 as_ : Option Addr) (cap0 cs : Nat) (base bs : List Int) (hSb : Sl w a0 cap0 base) (hSs : Sl w as_ cs bs) (hz : IsB bs) (hlb : base.length ≤ 400000) (hls : bs.length ≤ 400000)
    (hW : Below w.heap.size w wL) (hb1 : Bst < wL.heap.size) (hb2 : Bba < wL.heap.size) (hst : wL.cell? ⟨Bst, 0, none⟩ = some (.slice as_ bs.length cs)) (hba : wL.cell? ⟨Bba, 0, none⟩ = some (.slice a0 base.length cap0)) :
    SeqStopsK Fence.wide n Tryd.prog 24 #[.pointer (some ⟨Bst, 0, none⟩), .pointer (some ⟨Bba, 0, none⟩)] (fun x : Itm w => x.enc) (Kp w Bba) (SAll w base bs) (SPart w base bs) (bs.length + 1) wL := fun l J Jx W hWL _ _ hY h0 =>
  out1_in n hn w l Bst Bba a0 as_ cap0 cs base bs hSb hSs hz hlb hls J Jx hY W (hW.trans (hWL.mono hW.size)) ((hWL.cell (p := ⟨Bst, 0, none⟩) hb1).trans hst) ((hWL.cell (p := ⟨Bba, 0, none⟩) hb2).trans hba) h0
theorem Tryd.results7 : Tryd.f7.results = #[.cell 4 22, .cell 5 25] := by kernel_rfl
theorem results_c2 {fn : Func} {p q : Tmp} (h : fn.results = #[.cell p 22, .cell q 25]) (tmps : Array Value) (w : World) (b c : Nat) (x y : Value) (hp : tmps.getD p undef = .pointer (some ⟨b, 0, none⟩)) (hq : tmps.getD q undef = .pointer (some ⟨c, 0, none⟩)) (hx : w.cell? ⟨b, 0, none⟩ = some x) (hy : w.cell? ⟨c, 0, none⟩ = some y) :
    (results fn tmps).run Tryd.prog w = .ok (.tuple #[x, y]) w := by
  have hp' : tmps[p]?.getD undef = .pointer (some ⟨b, 0, none⟩) := by simpa using hp
  have hq' : tmps[q]?.getD undef = .pointer (some ⟨c, 0, none⟩) := by simpa using hq
  simp [results, h, hp', hq', asAddr, loadVar, isAgg, underlying, Tryd.underlying22, Tryd.underlying25, hx, hy]
def PostA (w : World) (r : Option (List Int)) (ev : Ending) (w' : World) : Prop :=
  Below w.heap.size w w' ∧ match r with
  | none => ev = .returned (.tuple #[.slice none 0 0, .iface 35 (.int .i64 30)])
  | some out => ∃ v, ev = .returned (.tuple #[v, .nilIface]) ∧ w'.ownsRow w.heap.size 5 1 v out.length (out.map (Value.int .u8))
set_option maxRecDepth 20000 in
set_option maxHeartbeats 2000000 in
theorem apply_none (a0 ad : Option Addr) (cap0 cd : Nat) (base d : List Int) (w : World) (hzd : IsB d) (hlb : base.length ≤ 400000) (hld : d.length ≤ 400000) (hSd : Sl w ad cd d) (hn : szs d = none) :
    Calls Tryd.prog 7 #[.slice a0 base.length cap0, .slice ad d.length cd] w (PostA w none) := by
  have R1 : ∀ w', _ := fun (w' : World) (hB : Below w.heap.size w w') => readSizes_any ad cd d w' hzd hld (hSd.below hB)
  rw [hn] at R1
  have HB : Hid (Below w.heap.size w ((w.alloc (.cells #[.slice none 0 0] 22)).alloc (.cells #[.nilIface] 25))) := ((Below.refl _ w).alloc (Nat.le_refl _) _).alloc (by simp) _
  go_enter Tryd.func7, Tryd.ntmps7
  go_wp2_with (go_at_call 15; refine (R1 _ HB.out).mono ?_; clear R1; rintro ev w1 ⟨rfl, q, rfl⟩)
  refine bodyPost_ret (results_c2 Tryd.results7 _ _ w.heap.size (w.heap.size + 1) (.slice none 0 0) (.iface 35 (.int .i64 30)) rfl rfl (by simp [go_sem]) (by simp [go_sem])) rfl ⟨?_, rfl⟩
  exact (((below_drewN HB.out q).setCell (Nat.le_refl _) _).setCell (by simp) _).alloc (by simp; omega) _
set_option maxRecDepth 20000 in
set_option maxHeartbeats 2000000 in
theorem apply_bad (a0 ad : Option Addr) (cap0 cd : Nat) (base d : List Int) (w : World) (hzd : IsB d) (hlb : base.length ≤ 400000) (hld : d.length ≤ 400000) (hSd : Sl w ad cd d) (n m : Nat) (r : List Int) (hn : szs d = some (n, m, r)) (hbad : ¬ n = base.length ∨ 100000 < m) :
    Calls Tryd.prog 7 #[.slice a0 base.length cap0, .slice ad d.length cd] w (PostA w none) := by
  have R1 : ∀ w', _ := fun (w' : World) (hB : Below w.heap.size w w') => readSizes_any ad cd d w' hzd hld (hSd.below hB)
  rw [hn] at R1
  have HB : Hid (Below w.heap.size w ((w.alloc (.cells #[.slice none 0 0] 22)).alloc (.cells #[.nilIface] 25))) := ((Below.refl _ w).alloc (Nat.le_refl _) _).alloc (by simp) _
  obtain ⟨L0, HL0⟩ : ∃ L0, Hid (L0 = base.length) := ⟨_, rfl⟩
  rw [← HL0.out] at hbad hlb ⊢
  have hcc : ¬ (n : Int) = (L0 : Int) ∨ ((n : Int) = (L0 : Int) ∧ (100000 : Int) < (m : Int)) := by omega
  rcases hcc with h1 | ⟨h1, h2⟩
  all_goals
    go_enter Tryd.func7, Tryd.ntmps7
    go_wp2_with (go_at_call 15; refine (R1 _ HB.out).mono ?_; clear R1; rintro ev w1 ⟨a1, cap1, q, rfl, rfl, hS1, hn1, hn2⟩)
    refine bodyPost_ret (results_c2 Tryd.results7 _ _ w.heap.size (w.heap.size + 1) (.slice none 0 0) (.iface 35 (.int .i64 30)) rfl rfl (by simp [go_sem]) (by simp [go_sem])) rfl ⟨?_, rfl⟩
    first
      | exact (((below_drewN HB.out q).setCell (Nat.le_refl _) _).setCell (by simp) _).alloc (by simp; omega) _
      | exact (((below_drewN HB.out q).alloc (by simp; omega) _).setCell (by simp) _).setCell (by simp) _
end Go.Proofs.YtblegkefeiefjaaDoor
