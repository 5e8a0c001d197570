/- 'with': the rounds of one block. -/
import Derived.Test.YtbpdielmdhhdfaaGreatDoorSprB
namespace Go.Proofs.YtbpdielmdhhdfaaGreatDoor
open Go.RowKit
set_option linter.unusedVariables false

/-- Five numbers. -/
structure S5 where
  a : Int
  b : Int
  c : Int
  d : Int
  e : Int
def S5.ok (s : S5) : Prop := U s.a ∧ U s.b ∧ U s.c ∧ U s.d ∧ U s.e
def S5.l (s : S5) : List Int := [s.a, s.b, s.c, s.d, s.e]
def fi (i : Nat) (b c d : Int) : Int := if i < 20 then ch b c d else if i < 40 then par b c d else if i < 60 then maj b c d else par b c d
def ki (i : Nat) : Int := if i < 20 then 1518500249 else if i < 40 then 1859775393 else if i < 60 then 2400959708 else 3395469782
def rd (W : List Int) (i : Nat) (s : S5) : S5 := ⟨(turn5 s.a + fi i s.b s.c s.d + s.e + ki i + W.getD i 0) % 4294967296, s.a, turn30 s.b, s.c, s.d⟩
def rds (W : List Int) (s : S5) : Nat → S5
  | 0 => s
  | n + 1 => rd W n (rds W s n)
theorem rds_ok (W : List Int) (s : S5) (h : s.ok) : ∀ n, (rds W s n).ok
  | 0 => h
  | n + 1 => by
    obtain ⟨h1, h2, h3, h4, h5⟩ := rds_ok W s h n
    exact ⟨⟨by simp only [rds, rd]; omega, by simp only [rds, rd]; omega⟩, h1, turn30_bd _, h3, h4⟩
theorem fi_bd (i : Nat) (b c d : Int) : U (fi i b c d) := by
  unfold fi
  split
  · exact ch_bd _ _ _
  · split
    · exact par_bd _ _ _
    · split
      · exact maj_bd _ _ _
      · exact par_bd _ _ _
def plus (s t : S5) : S5 := ⟨(s.a + t.a) % 4294967296, (s.b + t.b) % 4294967296, (s.c + t.c) % 4294967296, (s.d + t.d) % 4294967296, (s.e + t.e) % 4294967296⟩
/-- The sum with one block more. -/
def comp (s : S5) (zs : List Int) : S5 := plus s (rds (spread zs) s 80)
theorem plus_ok (s t : S5) : (plus s t).ok := by
  refine ⟨⟨?_, ?_⟩, ⟨?_, ?_⟩, ⟨?_, ?_⟩, ⟨?_, ?_⟩, ?_, ?_⟩ <;> simp only [plus] <;> omega
theorem comp_ok (s : S5) (zs : List Int) : (comp s zs).ok := plus_ok _ _

theorem there_cells {w : World} {g n : Nat} {cs : Array Value} {t : TypeId} (h : w.heap[g]? = some (.cells cs t (0, 0))) (hn : cs.size = n) : w.there g 0 n := fun j hj => by
  rw [Nat.zero_add]
  refine ⟨?_, frozen_of_row w g j _ t h⟩
  rw [cell_of_row w g j _ t _ h]
  simp [hn, hj]
def kindsV : Array Value := #[.func (.func 185) #[] #[], .int .u32 1518500249, .func (.func 186) #[] #[], .int .u32 1859775393, .func (.func 187) #[] #[], .int .u32 2400959708, .func (.func 186) #[] #[], .int .u32 3395469782]
set_option maxRecDepth 20000 in
set_option maxHeartbeats 1000000 in
theorem kinds_any (w : World) : Calls Tryz.prog 147 #[] w fun e w' => e = .returned (.agg kindsV) ∧ Below w.heap.size w w' := by
  have H0 : Hid ((w.alloc (.cells #[.nilFunc, .int .u32 0, .nilFunc, .int .u32 0, .nilFunc, .int .u32 0, .nilFunc, .int .u32 0] 232)).there w.heap.size 0 8) := there_cells (heap_alloc_new w _) rfl
  have HB : Hid (Below w.heap.size w (w.alloc (.cells #[.nilFunc, .int .u32 0, .nilFunc, .int .u32 0, .nilFunc, .int .u32 0, .nilFunc, .int .u32 0] 232))) := (Below.refl _ w).alloc (Nat.le_refl _) _
  go_enter Tryz.func147, Tryz.ntmps147
  go_wp2_with (refine wpList_store_mid rfl 232 _ _ rfl w.heap.size 0 kindsV rfl rfl H0.out Tryz.size232 (by kernel_rfl) ?_)
  exact bodyPost_ret (v := .agg kindsV) (results_mid Tryz.results147 _ _ w.heap.size kindsV.toList _ rfl (World.rangeAt_setCells_same _ w.heap.size 0 _ H0.out) Tryz.underlying232 rfl Tryz.size232) rfl ⟨rfl, below_setCells (Nat.le_refl _) _ _ _ _ HB.out⟩
theorem kind0 (w : World) : (Instr.index 232 (.agg kindsV) (.int .i64 (0 : Nat))).run Tryz.prog w = .ok (.agg #[.func (.func 185) #[] #[], .int .u32 1518500249]) w := by kernel_rfl
theorem kind1 (w : World) : (Instr.index 232 (.agg kindsV) (.int .i64 (1 : Nat))).run Tryz.prog w = .ok (.agg #[.func (.func 186) #[] #[], .int .u32 1859775393]) w := by kernel_rfl
theorem kind2 (w : World) : (Instr.index 232 (.agg kindsV) (.int .i64 (2 : Nat))).run Tryz.prog w = .ok (.agg #[.func (.func 187) #[] #[], .int .u32 2400959708]) w := by kernel_rfl
theorem kind3 (w : World) : (Instr.index 232 (.agg kindsV) (.int .i64 (3 : Nat))).run Tryz.prog w = .ok (.agg #[.func (.func 186) #[] #[], .int .u32 3395469782]) w := by kernel_rfl
theorem addr_add (b off j : Nat) : (⟨b, off, none⟩ : Addr).add j = ⟨b, off + j, none⟩ := by unfold Addr.add; split <;> simp_all
theorem size37r (w : World) : (sizeOf (Tryz.prog.elem 201)).run Tryz.prog w = .ok 1 w := by kernel_rfl
theorem size5r (w : World) : (sizeOf (Tryz.prog.elem 182)).run Tryz.prog w = .ok 1 w := by kernel_rfl
theorem len47 : Tryz.prog.arrayLen 201 = 80 := by kernel_rfl
theorem len41 : Tryz.prog.arrayLen 182 = 64 := by kernel_rfl
theorem und47 : Tryz.prog.underlying 201 = some (.array (Tryz.prog.arrayLen 201) (Tryz.prog.elem 201)) := by kernel_rfl
theorem und41 : Tryz.prog.underlying 182 = some (.array (Tryz.prog.arrayLen 182) (Tryz.prog.elem 182)) := by kernel_rfl
theorem slice47 (g m : Nat) (w : World) (h : m ≤ 60) : (Instr.sliceAt 201 (.pointer (some ⟨g, 0, none⟩)) (some (.int .i64 m)) (some (.int .i64 ((m : Int) + 20))) none).run Tryz.prog w = .ok (.slice (some ⟨g, m, none⟩) 20 (80 - m : Nat)) w := by
  rw [run_sliceAt_array_lh w 201 _ und47 .i64 .i64 m (m + 20) (by omega) (by omega) (by rw [len47]; omega), size37r, len47]
  simp only [Result.andThen_ok, slicedAt]
  rw [if_neg (by omega), addr_add, show ((m : Int) + 20).toNat - (m : Int).toNat = 20 from by omega]
  simp
theorem slice41 (g o m : Nat) (w : World) (h : m < 64) : (Instr.sliceAt 182 (.pointer (some ⟨g, o, none⟩)) (some (.int .u64 m)) none none).run Tryz.prog w = .ok (.slice (some ⟨g, o + m, none⟩) (64 - m : Nat) (64 - m : Nat)) w := by
  rw [run_sliceAt_array_l w 182 _ und41 .u64 m (by omega) (by rw [len41]; omega), size5r, len41]
  simp only [Result.andThen_ok, slicedAt]
  rw [if_neg (by omega), addr_add]
  simp
theorem ki_same (j n : Nat) (h : n < 20) : ki (20 * j + n) = ki (20 * j) := by
  unfold ki
  repeat' split
  all_goals first | rfl | omega
theorem ki_bd (i : Nat) : U (ki i) := by
  unfold ki U
  split
  · omega
  · split
    · omega
    · split <;> omega
end Go.Proofs.YtbpdielmdhhdfaaGreatDoor
