import Derived.Test.YtbpdielmdhhdfaaGreatDoorMu03
import Derived.Laws.CopyOwn
import Derived.Deep.QuietTactic
import Derived.BigQuiet
import Derived.Laws.IdiomCopy
/- 'with': the rounds of one block. -/
namespace Go.Proofs.YtbpdielmdhhdfaaGreatDoor
open Go.RowKit
set_option linter.unusedVariables false

/-- Five numbers. -/
structure S5 where
  a : Int
  b : Int
  c : Int
  d : Int
  e : Int
def S5.ok (s : S5) : Prop := U s.a ∧ U s.b ∧ U s.c ∧ U s.d ∧ U s.e
def S5.l (s : S5) : List Int := [s.a, s.b, s.c, s.d, s.e]
def fi (i : Nat) (b c d : Int) : Int := if i < 20 then ch b c d else if i < 40 then par b c d else if i < 60 then maj b c d else par b c d
def ki (i : Nat) : Int := if i < 20 then 1518500249 else if i < 40 then 1859775393 else if i < 60 then 2400959708 else 3395469782
def rd (W : List Int) (i : Nat) (s : S5) : S5 := ⟨(turn5 s.a + fi i s.b s.c s.d + s.e + ki i + W.getD i 0) % 4294967296, s.a, turn30 s.b, s.c, s.d⟩
def rds (W : List Int) (s : S5) : Nat → S5
  | 0 => s
  | n + 1 => rd W n (rds W s n)
theorem rds_ok (W : List Int) (s : S5) (h : s.ok) : ∀ n, (rds W s n).ok
  | 0 => h
  | n + 1 => by
    obtain ⟨h1, h2, h3, h4, h5⟩ := rds_ok W s h n
    exact ⟨⟨by simp only [rds, rd]; omega, by simp only [rds, rd]; omega⟩, h1, turn30_bd _, h3, h4⟩
theorem fi_bd (i : Nat) (b c d : Int) : U (fi i b c d) := by
  unfold fi
  split
  · exact ch_bd _ _ _
  · split
    · exact par_bd _ _ _
    · split
      · exact maj_bd _ _ _
      · exact par_bd _ _ _
def plus (s t : S5) : S5 := ⟨(s.a + t.a) % 4294967296, (s.b + t.b) % 4294967296, (s.c + t.c) % 4294967296, (s.d + t.d) % 4294967296, (s.e + t.e) % 4294967296⟩
/-- The sum with one block more. -/
def comp (s : S5) (zs : List Int) : S5 := plus s (rds (spread zs) s 80)
theorem plus_ok (s t : S5) : (plus s t).ok := by
  refine ⟨⟨?_, ?_⟩, ⟨?_, ?_⟩, ⟨?_, ?_⟩, ⟨?_, ?_⟩, ?_, ?_⟩ <;> simp only [plus] <;> omega
theorem comp_ok (s : S5) (zs : List Int) : (comp s zs).ok := plus_ok _ _

theorem there_cells {w : World} {g n : Nat} {cs : Array Value} {t : TypeId} (h : w.heap[g]? = some (.cells cs t (0, 0))) (hn : cs.size = n) : w.there g 0 n := fun j hj => by
  rw [Nat.zero_add]
  refine ⟨?_, frozen_of_row w g j _ t h⟩
  rw [cell_of_row w g j _ t _ h]
  simp [hn, hj]
def kindsV : Array Value := #[.func (.func 185) #[] #[], .int .u32 1518500249, .func (.func 186) #[] #[], .int .u32 1859775393, .func (.func 187) #[] #[], .int .u32 2400959708, .func (.func 186) #[] #[], .int .u32 3395469782]
set_option maxRecDepth 20000 in
set_option maxHeartbeats 1000000 in
theorem kinds_any (w : World) : Calls Tryz.prog 147 #[] w fun e w' => e = .returned (.agg kindsV) ∧ Below w.heap.size w w' := by
  have H0 : Hid ((w.alloc (.cells #[.nilFunc, .int .u32 0, .nilFunc, .int .u32 0, .nilFunc, .int .u32 0, .nilFunc, .int .u32 0] 232)).there w.heap.size 0 8) := there_cells (heap_alloc_new w _) rfl
  have HB : Hid (Below w.heap.size w (w.alloc (.cells #[.nilFunc, .int .u32 0, .nilFunc, .int .u32 0, .nilFunc, .int .u32 0, .nilFunc, .int .u32 0] 232))) := (Below.refl _ w).alloc (Nat.le_refl _) _
  go_enter Tryz.func147, Tryz.ntmps147
  go_wp2_with (refine wpList_store_mid rfl 232 _ _ rfl w.heap.size 0 kindsV rfl rfl H0.out Tryz.size232 (by kernel_rfl) ?_)
  exact bodyPost_ret (v := .agg kindsV) (results_mid Tryz.results147 _ _ w.heap.size kindsV.toList _ rfl (World.rangeAt_setCells_same _ w.heap.size 0 _ H0.out) Tryz.underlying232 rfl Tryz.size232) rfl ⟨rfl, below_setCells (Nat.le_refl _) _ _ _ _ HB.out⟩
theorem kind0 (w : World) : (Instr.index 232 (.agg kindsV) (.int .i64 (0 : Nat))).run Tryz.prog w = .ok (.agg #[.func (.func 185) #[] #[], .int .u32 1518500249]) w := by kernel_rfl
theorem kind1 (w : World) : (Instr.index 232 (.agg kindsV) (.int .i64 (1 : Nat))).run Tryz.prog w = .ok (.agg #[.func (.func 186) #[] #[], .int .u32 1859775393]) w := by kernel_rfl
theorem kind2 (w : World) : (Instr.index 232 (.agg kindsV) (.int .i64 (2 : Nat))).run Tryz.prog w = .ok (.agg #[.func (.func 187) #[] #[], .int .u32 2400959708]) w := by kernel_rfl
theorem kind3 (w : World) : (Instr.index 232 (.agg kindsV) (.int .i64 (3 : Nat))).run Tryz.prog w = .ok (.agg #[.func (.func 186) #[] #[], .int .u32 3395469782]) w := by kernel_rfl
theorem addr_add (b off j : Nat) : (⟨b, off, none⟩ : Addr).add j = ⟨b, off + j, none⟩ := by unfold Addr.add; split <;> simp_all
theorem size37r (w : World) : (sizeOf (Tryz.prog.elem 201)).run Tryz.prog w = .ok 1 w := by kernel_rfl
theorem size5r (w : World) : (sizeOf (Tryz.prog.elem 182)).run Tryz.prog w = .ok 1 w := by kernel_rfl
theorem len47 : Tryz.prog.arrayLen 201 = 80 := by kernel_rfl
theorem len41 : Tryz.prog.arrayLen 182 = 64 := by kernel_rfl
theorem und47 : Tryz.prog.underlying 201 = some (.array (Tryz.prog.arrayLen 201) (Tryz.prog.elem 201)) := by kernel_rfl
theorem und41 : Tryz.prog.underlying 182 = some (.array (Tryz.prog.arrayLen 182) (Tryz.prog.elem 182)) := by kernel_rfl
theorem slice47 (g m : Nat) (w : World) (h : m ≤ 60) : (Instr.sliceAt 201 (.pointer (some ⟨g, 0, none⟩)) (some (.int .i64 m)) (some (.int .i64 ((m : Int) + 20))) none).run Tryz.prog w = .ok (.slice (some ⟨g, m, none⟩) 20 (80 - m : Nat)) w := by
  rw [run_sliceAt_array_lh w 201 _ und47 .i64 .i64 m (m + 20) (by omega) (by omega) (by rw [len47]; omega), size37r, len47]
  simp only [Result.andThen_ok, slicedAt]
  rw [if_neg (by omega), addr_add, show ((m : Int) + 20).toNat - (m : Int).toNat = 20 from by omega]
  simp
theorem slice41 (g o m : Nat) (w : World) (h : m < 64) : (Instr.sliceAt 182 (.pointer (some ⟨g, o, none⟩)) (some (.int .u64 m)) none none).run Tryz.prog w = .ok (.slice (some ⟨g, o + m, none⟩) (64 - m : Nat) (64 - m : Nat)) w := by
  rw [run_sliceAt_array_l w 182 _ und41 .u64 m (by omega) (by rw [len41]; omega), size5r, len41]
  simp only [Result.andThen_ok, slicedAt]
  rw [if_neg (by omega), addr_add]
  simp
theorem ki_same (j n : Nat) (h : n < 20) : ki (20 * j + n) = ki (20 * j) := by
  unfold ki
  repeat' split
  all_goals first | rfl | omega
theorem ki_bd (i : Nat) : U (ki i) := by
  unfold ki U
  split
  · omega
  · split
    · omega
    · split <;> omega
end Go.Proofs.YtbpdielmdhhdfaaGreatDoor
/- THE WALKS OF 'gitlikelaw0.Same', 'Roomy', 'Still'. -/
namespace Go.Proofs.YtbpdielmdhhdfaaGreatDoor
open Go.RowKit

set_option maxHeartbeats 400000 in
theorem same_true (b off cap b' off' cap' : Nat) (zs : List Int) (w : World) (hl : zs.length ≤ 400000) (hc : At w b off zs) (hc' : At w b' off' zs) :
    Calls Tryz.prog 16 #[.slice (some ⟨b, off, none⟩) zs.length cap, .slice (some ⟨b', off', none⟩) zs.length cap'] w fun e w' => e = .returned (.bool true) ∧ ∃ n, w' = w.drewN n := by
  go_enter Tryz.func16, Tryz.ntmps16
  go_wp2
  go_loopw [5] (fun i wr => ∃ k n : Nat, k ≤ zs.length ∧ i = .int .i64 k ∧ wr = w.drewN n) (fun i _ => zs.length - (intOf i).toNat)
  case atStart => exact ⟨0, 0, Nat.zero_le _, rfl, rfl⟩
  case round =>
    obtain ⟨k, n, hk, rfl, rfl⟩ := hrel
    by_cases hlt : k < zs.length
    · have hcell := hc k hlt
      have hcell' := hc' k hlt
      go_wp2
      go_quiet (fail)
      go_wp2
      go_roundw
      case rel => exact ⟨k + 1, _, by omega, by go_num, rfl⟩
      case measure => simp [intOf]; omega
    · go_wp2
      go_ret
      exact ⟨rfl, n, rfl⟩
set_option maxHeartbeats 400000 in
theorem same_none (a a' : Option Addr) (cap cap' : Nat) (w : World) :
    Calls Tryz.prog 16 #[.slice a 0 cap, .slice a' 0 cap'] w fun e w' => e = .returned (.bool true) ∧ ∃ n, w' = w.drewN n := by
  go_enter Tryz.func16, Tryz.ntmps16
  go_wp2
  go_loop [5] (fun i => i = .int .i64 0) (fun _ => 0)
  case atStart => rfl
  case round =>
    obtain rfl := hrel
    go_wp2
    go_ret
    exact ⟨rfl, 0, rfl⟩
end Go.Proofs.YtbpdielmdhhdfaaGreatDoor
/- THE WALK OF 'gitlikelaw0.Roomy'. -/
namespace Go.Proofs.YtbpdielmdhhdfaaGreatDoor
open Go.RowKit


/-- What Roomy leaves: a block g of its own: the bytes, 71, 72; nothing of it is frozen. -/
structure Room (w : World) (g : Nat) (zs : List Int) : Prop where
  lt : g < w.heap.size
  cell : ∀ i, i < zs.length → w.cell? ⟨g, i, none⟩ = some (.int .u8 (zs.getD i 0))
  c71 : w.cell? ⟨g, zs.length, none⟩ = some (.int .u8 71)
  c72 : w.cell? ⟨g, zs.length + 1, none⟩ = some (.int .u8 72)
  fz : ∀ i, w.frozen? ⟨g, i, none⟩ = false


/-- 'copy' of bytes into a row of one's own. -/
theorem copy_in (w1 : World) (g n2 : Nat) (a : Option Addr) (cap : Nat) (zs : List Int) (hn : zs.length ≤ n2) (hcell : ∀ j, j < n2 → w1.cell? ⟨g, j, none⟩ = some (.int .u8 0)) (hfz : ∀ j, w1.frozen? ⟨g, j, none⟩ = false)
    (hc : 0 < zs.length → ∃ b off, a = some ⟨b, off, none⟩ ∧ At w1 b off zs) :
    ∃ w2, Sem.run Tryz.prog (Builtin.copy_ #[23, 23] 3 #[.slice (some ⟨g, 0, none⟩) n2 n2, .slice a zs.length cap]) w1 = .ok (.int .i64 zs.length) w2 ∧ Below g w1 w2 ∧ w2.heap.size = w1.heap.size ∧
      (∀ j, j < zs.length → w2.cell? ⟨g, j, none⟩ = some (.int .u8 (zs.getD j 0))) ∧ (∀ j, zs.length ≤ j → j < n2 → w2.cell? ⟨g, j, none⟩ = some (.int .u8 0)) ∧ ∀ j, w2.frozen? ⟨g, j, none⟩ = false := by
  by_cases h0 : zs.length = 0
  · refine ⟨w1, ?_, Below.refl _ _, rfl, fun j hj => by omega, fun j _ hj => hcell j hj, hfz⟩
    rw [run_copy_none w1 23 23 3 5 _ a n2 n2 zs.length cap Tryz.underlying23 Tryz.size5 (by rw [h0]; exact Nat.zero_min _), h0]; rfl
  · obtain ⟨b, off, rfl, hat⟩ := hc (by omega)
    have hlen : (zs.map (Value.int .u8)).length = zs.length := by simp
    have hr := run_copy_cells (P := Tryz.prog) w1 23 23 3 5 g 0 n2 n2 ⟨b, off, none⟩ zs.length cap (zs.map (Value.int .u8)) Tryz.underlying23 Tryz.size5
      (by rw [hlen]; exact (Nat.min_eq_left hn).symm)
      (fun j v hj => by
        rw [List.getElem?_map] at hj
        cases hq : zs[j]? with
        | none => simp [hq] at hj
        | some q =>
          simp [hq] at hj
          subst hj
          have hlt : j < zs.length := by rcases Nat.lt_or_ge j zs.length with h | h; exact h; rw [List.getElem?_eq_none h] at hq; cases hq
          have := hat j hlt
          rw [addr_add]
          simpa [hq] using this)
      (fun j hj => by rw [hlen] at hj; rw [Nat.zero_add, hcell j (by omega)]; rfl) (fun j _ => hfz _) (ints_oneCell _ _)
    have hin := World.cell?_setCells_in g (zs.map (Value.int .u8)) 0 w1 (fun j hj => by rw [hlen] at hj; rw [Nat.zero_add, hcell j (by omega)]; rfl)
    refine ⟨_, by rw [hr, hlen]; rfl, below_setCells (Nat.le_refl _) _ _ _ _ (Below.refl _ _), size_setCells _ _ _ _, fun j hj => ?_, fun j h1 h2 => ?_, fun j => ?_⟩
    · have := hin j (by omega)
      rw [Nat.zero_add] at this
      rw [this]
      simp [hj]
    · rw [World.cell?_setCells_out g _ 0 w1 _ (fun _ _ => Or.inr (by rw [hlen]; simpa using h1))]
      exact hcell j h2
    · rw [World.frozen?_setCells]; exact hfz j

theorem room_of {w2 : World} {g : Nat} {zs : List Int} (hs : g < w2.heap.size) (hin : ∀ j, j < zs.length → w2.cell? ⟨g, j, none⟩ = some (.int .u8 (zs.getD j 0))) (k1 : w2.cell? ⟨g, zs.length, none⟩ = some (.int .u8 0))
    (k2 : w2.cell? ⟨g, zs.length + 1, none⟩ = some (.int .u8 0)) (hfz : ∀ j, w2.frozen? ⟨g, j, none⟩ = false) :
    Room ((w2.setCell ⟨g, zs.length, none⟩ (.int .u8 71)).setCell ⟨g, zs.length + 1, none⟩ (.int .u8 72)) g zs where
  lt := by simpa [World.setCell] using hs
  cell i hi := by
    rw [World.cell?_setCell_other _ _ _ _ (by intro h; simp only [Addr.mk.injEq] at h; omega), World.cell?_setCell_other _ _ _ _ (by intro h; simp only [Addr.mk.injEq] at h; omega)]; exact hin i hi
  c71 := by rw [World.cell?_setCell_other _ _ _ _ (by simp)]; exact World.cell?_setCell_same _ _ _ k1
  c72 := World.cell?_setCell_same (u := .int .u8 0) _ _ _ (by rw [World.cell?_setCell_other _ _ _ _ (by simp)]; exact k2)
  fz i := by rw [World.frozen?_setCell, World.frozen?_setCell]; exact hfz i

set_option maxRecDepth 10000 in
set_option maxHeartbeats 400000 in
theorem roomy_any (a : Option Addr) (cap : Nat) (zs : List Int) (w : World) (hl : zs.length ≤ 300000) (hc : 0 < zs.length → ∃ b off, a = some ⟨b, off, none⟩ ∧ b < w.heap.size ∧ At w b off zs) :
    Calls Tryz.prog 8 #[.slice a zs.length cap] w fun e w' => e = .returned (.slice (some ⟨w.heap.size, 0, none⟩) zs.length (zs.length + 2)) ∧ Below w.heap.size w w' ∧ Room w' w.heap.size zs := by
  obtain ⟨i5, hi, hz0, hz1, hz2⟩ := info_parts Tryz.info5
  go_enter Tryz.func8, Tryz.ntmps8
  go_wp2_with (at_make; refine wpList_make_full _ rfl _ _ 23 rfl w.heap.size 5 i5 (.int .u8 0) 1 Tryz.underlying23 hi hz0 hz1 _ _ _ _ (zs.length + 2) rfl rfl ?c1 ?c2 ?c3 ?c4 ?c5 ?_)
  case c1 => omega
  case c2 => omega
  case c3 => rw [hz2]; omega
  case c4 => unfold maxLen; omega
  case c5 => exact Nat.le_refl _
  · intro w1 hown hgrow
    have hb1 : Below w.heap.size w w1 := (Below.refl _ _).grown hgrow (Nat.le_refl _) (fun k h => by cases h)
    have hs1 : w.heap.size < w1.heap.size := (hown.lt _ rfl).2
    obtain ⟨w2, hrun, hb2, hs2, hin, hout, hfz⟩ := copy_in w1 w.heap.size (zs.length + 2) a cap zs (by omega)
      (fun j hj => by
        rw [hown.cellAt j (by omega), toList_madeCells_one, List.getElem?_replicate, if_pos (by omega)]) hown.frozenAt
      (fun h => by
        obtain ⟨b, off, ha, hb, hat⟩ := hc h
        exact ⟨b, off, ha, fun j hj => (hb1.cell (p := ⟨b, off + j, none⟩) hb).trans (hat j hj)⟩)
    have k1 := hout zs.length (by omega) (by omega)
    have k2 := hout (zs.length + 1) (by omega) (by omega)
    have f1 := hfz zs.length
    have f2 := hfz (zs.length + 1)
    have HB : Hid (Below w.heap.size w w2) := hb1.trans hb2
    clear hown hgrow hb1 hc hout hb2
    go_wp2
    go_ret
    exact ⟨rfl, (HB.out.setCell (Nat.le_refl _) _).setCell (Nat.le_refl _) _, room_of (by omega) hin k1 k2 hfz⟩
end Go.Proofs.YtbpdielmdhhdfaaGreatDoor
