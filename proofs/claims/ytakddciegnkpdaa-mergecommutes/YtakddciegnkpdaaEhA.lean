/- 'gitlikelaw0.Same', 'Roomy', 'Still'. -/
import Derived.Test.YtakddciegnkpdaaDfG
import Derived.Laws.CopyOwn
import Derived.Laws.IdiomCopy
import Derived.Deep.QuietTactic
import Derived.BigQuiet
namespace Go.Proofs.Ytakddciegnkpdaa
open Go.RowKit
set_option linter.unusedVariables false
set_option linter.unusedSimpArgs false
theorem grown_setCells (g : Nat) : ∀ (vs : List Value) (o : Nat) (w0 w : World), w0.grownBy w (some g) → w0.grownBy (w.setCells g o vs) (some g)
  | [], _, _, _, h => h
  | v :: r, o, w0, w, h => grown_setCells g r (o + 1) w0 _ ⟨h.os, h.tape, h.output, by simpa [World.setCell] using h.size, fun k hk hne => (Below.heap_setCell w ⟨g, o, none⟩ v k (fun e => hne (by rw [e]))).trans (h.block k hk hne)⟩
theorem grown_setCell {w0 w : World} {g i : Nat} (v : Value) (h : w0.grownBy w (some g)) : w0.grownBy (w.setCell ⟨g, i, none⟩ v) (some g) := grown_setCells g [v] i w0 w h
def At (w : World) (b off : Nat) (zs : List Int) : Prop := ∀ i, i < zs.length → w.cell? ⟨b, off + i, none⟩ = some (.int .u8 (zs.getD i 0))


set_option maxHeartbeats 400000 in
theorem same_true (b off cap b' off' cap' : Nat) (zs : List Int) (w : World) (hl : zs.length ≤ 400000) (hc : At w b off zs) (hc' : At w b' off' zs) :
    Calls Try.prog 9 #[.slice (some ⟨b, off, none⟩) zs.length cap, .slice (some ⟨b', off', none⟩) zs.length cap'] w fun e w' => e = .returned (.bool true) ∧ ∃ n, w' = w.drewN n := by
  go_enter Try.func9, Try.ntmps9
  go_wp2
  go_loopw [5] (fun i wr => ∃ k n : Nat, k ≤ zs.length ∧ i = .int .i64 k ∧ wr = w.drewN n) (fun i _ => zs.length - (intOf i).toNat)
  case atStart => exact ⟨0, 0, Nat.zero_le _, rfl, rfl⟩
  case round =>
    obtain ⟨k, n, hk, rfl, rfl⟩ := hrel
    by_cases hlt : k < zs.length
    · have hcell := hc k hlt
      have hcell' := hc' k hlt
      go_wp2
      go_quiet (fail)
      go_wp2
      go_roundw
      case rel => exact ⟨k + 1, _, by omega, by go_num, rfl⟩
      case measure => simp [intOf]; omega
    · go_wp2
      go_ret
      exact ⟨rfl, n, rfl⟩
set_option maxHeartbeats 400000 in
theorem same_none (a a' : Option Addr) (cap cap' : Nat) (w : World) :
    Calls Try.prog 9 #[.slice a 0 cap, .slice a' 0 cap'] w fun e w' => e = .returned (.bool true) ∧ ∃ n, w' = w.drewN n := by
  go_enter Try.func9, Try.ntmps9
  go_wp2
  go_loop [5] (fun i => i = .int .i64 0) (fun _ => 0)
  case atStart => rfl
  case round =>
    obtain rfl := hrel
    go_wp2
    go_ret
    exact ⟨rfl, 0, rfl⟩



/-- What Roomy leaves: a block g of its own: the bytes, 71, 72; nothing of it is frozen. -/
structure Room (w : World) (g : Nat) (zs : List Int) : Prop where
  lt : g < w.heap.size
  cell : ∀ i, i < zs.length → w.cell? ⟨g, i, none⟩ = some (.int .u8 (zs.getD i 0))
  c71 : w.cell? ⟨g, zs.length, none⟩ = some (.int .u8 71)
  c72 : w.cell? ⟨g, zs.length + 1, none⟩ = some (.int .u8 72)
  fz : ∀ i, w.frozen? ⟨g, i, none⟩ = false


/-- 'copy' of bytes into a row of one's own. -/
theorem copy_in (w1 : World) (g n2 : Nat) (a : Option Addr) (cap : Nat) (zs : List Int) (hn : zs.length ≤ n2) (hcell : ∀ j, j < n2 → w1.cell? ⟨g, j, none⟩ = some (.int .u8 0)) (hfz : ∀ j, w1.frozen? ⟨g, j, none⟩ = false)
    (hc : 0 < zs.length → ∃ b off, a = some ⟨b, off, none⟩ ∧ At w1 b off zs) :
    ∃ w2, Sem.run Try.prog (Builtin.copy_ #[22, 22] 3 #[.slice (some ⟨g, 0, none⟩) n2 n2, .slice a zs.length cap]) w1 = .ok (.int .i64 zs.length) w2 ∧ Below g w1 w2 ∧ w2.heap.size = w1.heap.size ∧
      (∀ j, j < zs.length → w2.cell? ⟨g, j, none⟩ = some (.int .u8 (zs.getD j 0))) ∧ (∀ j, zs.length ≤ j → j < n2 → w2.cell? ⟨g, j, none⟩ = some (.int .u8 0)) ∧ ∀ j, w2.frozen? ⟨g, j, none⟩ = false := by
  by_cases h0 : zs.length = 0
  · refine ⟨w1, ?_, Below.refl _ _, rfl, fun j hj => by omega, fun j _ hj => hcell j hj, hfz⟩
    rw [run_copy_none w1 22 22 3 5 _ a n2 n2 zs.length cap Try.underlying22 Try.size5 (by rw [h0]; exact Nat.zero_min _), h0]; rfl
  · obtain ⟨b, off, rfl, hat⟩ := hc (by omega)
    have hlen : (zs.map (Value.int .u8)).length = zs.length := by simp
    have hr := run_copy_cells (P := Try.prog) w1 22 22 3 5 g 0 n2 n2 ⟨b, off, none⟩ zs.length cap (zs.map (Value.int .u8)) Try.underlying22 Try.size5
      (by rw [hlen]; exact (Nat.min_eq_left hn).symm)
      (fun j v hj => by
        rw [List.getElem?_map] at hj
        cases hq : zs[j]? with
        | none => simp [hq] at hj
        | some q =>
          simp [hq] at hj
          subst hj
          have hlt : j < zs.length := by rcases Nat.lt_or_ge j zs.length with h | h; exact h; rw [List.getElem?_eq_none h] at hq; cases hq
          have := hat j hlt
          rw [addr_add]
          simpa [hq] using this)
      (fun j hj => by rw [hlen] at hj; rw [Nat.zero_add, hcell j (by omega)]; rfl) (fun j _ => hfz _) (ints_oneCell _ _)
    have hin := World.cell?_setCells_in g (zs.map (Value.int .u8)) 0 w1 (fun j hj => by rw [hlen] at hj; rw [Nat.zero_add, hcell j (by omega)]; rfl)
    refine ⟨_, by rw [hr, hlen]; rfl, below_setCells (Nat.le_refl _) _ _ _ _ (Below.refl _ _), size_setCells _ _ _ _, fun j hj => ?_, fun j h1 h2 => ?_, fun j => ?_⟩
    · have := hin j (by omega)
      rw [Nat.zero_add] at this
      rw [this]
      simp [hj]
    · rw [World.cell?_setCells_out g _ 0 w1 _ (fun _ _ => Or.inr (by rw [hlen]; simpa using h1))]
      exact hcell j h2
    · rw [World.frozen?_setCells]; exact hfz j

theorem room_of {w2 : World} {g : Nat} {zs : List Int} (hs : g < w2.heap.size) (hin : ∀ j, j < zs.length → w2.cell? ⟨g, j, none⟩ = some (.int .u8 (zs.getD j 0))) (k1 : w2.cell? ⟨g, zs.length, none⟩ = some (.int .u8 0))
    (k2 : w2.cell? ⟨g, zs.length + 1, none⟩ = some (.int .u8 0)) (hfz : ∀ j, w2.frozen? ⟨g, j, none⟩ = false) :
    Room ((w2.setCell ⟨g, zs.length, none⟩ (.int .u8 71)).setCell ⟨g, zs.length + 1, none⟩ (.int .u8 72)) g zs where
  lt := by simpa [World.setCell] using hs
  cell i hi := by
    rw [World.cell?_setCell_other _ _ _ _ (by intro h; simp only [Addr.mk.injEq] at h; omega), World.cell?_setCell_other _ _ _ _ (by intro h; simp only [Addr.mk.injEq] at h; omega)]; exact hin i hi
  c71 := by rw [World.cell?_setCell_other _ _ _ _ (by simp)]; exact World.cell?_setCell_same _ _ _ k1
  c72 := World.cell?_setCell_same (u := .int .u8 0) _ _ _ (by rw [World.cell?_setCell_other _ _ _ _ (by simp)]; exact k2)
  fz i := by rw [World.frozen?_setCell, World.frozen?_setCell]; exact hfz i

set_option maxRecDepth 10000 in
set_option maxHeartbeats 400000 in
theorem roomy_any (a : Option Addr) (cap : Nat) (zs : List Int) (w : World) (hl : zs.length ≤ 300000) (hc : 0 < zs.length → ∃ b off, a = some ⟨b, off, none⟩ ∧ b < w.heap.size ∧ At w b off zs) :
    Calls Try.prog 5 #[.slice a zs.length cap] w fun e w' => e = .returned (.slice (some ⟨w.heap.size, 0, none⟩) zs.length (zs.length + 2)) ∧ Below w.heap.size w w' ∧ Room w' w.heap.size zs := by
  obtain ⟨i5, hi, hz0, hz1, hz2⟩ := info_parts Try.info5
  go_enter Try.func5, Try.ntmps5
  go_wp2_with (at_make; refine wpList_make_full _ rfl _ _ 22 rfl w.heap.size 5 i5 (.int .u8 0) 1 Try.underlying22 hi hz0 hz1 _ _ _ _ (zs.length + 2) rfl rfl ?c1 ?c2 ?c3 ?c4 ?c5 ?_)
  case c1 => omega
  case c2 => omega
  case c3 => rw [hz2]; omega
  case c4 => unfold maxLen; omega
  case c5 => exact Nat.le_refl _
  · intro w1 hown hgrow
    have hb1 : Below w.heap.size w w1 := (Below.refl _ _).grown hgrow (Nat.le_refl _) (fun k h => by cases h)
    have hs1 : w.heap.size < w1.heap.size := (hown.lt _ rfl).2
    obtain ⟨w2, hrun, hb2, hs2, hin, hout, hfz⟩ := copy_in w1 w.heap.size (zs.length + 2) a cap zs (by omega)
      (fun j hj => by
        rw [hown.cellAt j (by omega), toList_madeCells_one, List.getElem?_replicate, if_pos (by omega)]) hown.frozenAt
      (fun h => by
        obtain ⟨b, off, ha, hb, hat⟩ := hc h
        exact ⟨b, off, ha, fun j hj => (hb1.cell (p := ⟨b, off + j, none⟩) hb).trans (hat j hj)⟩)
    have k1 := hout zs.length (by omega) (by omega)
    have k2 := hout (zs.length + 1) (by omega) (by omega)
    have f1 := hfz zs.length
    have f2 := hfz (zs.length + 1)
    have HB : Hid (Below w.heap.size w w2) := hb1.trans hb2
    clear hown hgrow hb1 hc hout hb2
    go_wp2
    go_ret
    exact ⟨rfl, (HB.out.setCell (Nat.le_refl _) _).setCell (Nat.le_refl _) _, room_of (by omega) hin k1 k2 hfz⟩


theorem same_any (a a' : Option Addr) (cap cap' : Nat) (zs : List Int) (w : World) (hl : zs.length ≤ 400000) (hc : 0 < zs.length → ∃ b off, a = some ⟨b, off, none⟩ ∧ At w b off zs) (hc' : 0 < zs.length → ∃ b off, a' = some ⟨b, off, none⟩ ∧ At w b off zs) :
    Calls Try.prog 9 #[.slice a zs.length cap, .slice a' zs.length cap'] w fun e w' => e = .returned (.bool true) ∧ ∃ n, w' = w.drewN n := by
  by_cases h0 : zs.length = 0
  · rw [h0]; exact same_none a a' cap cap' w
  · obtain ⟨b, off, rfl, h⟩ := hc (by omega)
    obtain ⟨b', off', rfl, h'⟩ := hc' (by omega)
    exact same_true b off cap b' off' cap' zs w hl h h'

/-- A row of bytes of one's own, of whatever content. -/
def Own (w : World) (g n : Nat) : Prop := ∀ i, i < n → ∃ v : Int, 0 ≤ v ∧ v ≤ 255 ∧ w.cell? ⟨g, i, none⟩ = some (.int .u8 v)

theorem Own.set {w : World} {g n : Nat} (h : Own w g n) (k : Nat) (v : Int) (h1 : 0 ≤ v) (h2 : v ≤ 255) : Own (w.setCell ⟨g, k, none⟩ (.int .u8 v)) g n := by
  intro i hi
  by_cases hk : i = k
  · subst hk
    obtain ⟨u, _, _, hu⟩ := h i hi
    exact ⟨v, h1, h2, World.cell?_setCell_same _ _ _ hu⟩
  · obtain ⟨u, a, b, hu⟩ := h i hi
    exact ⟨u, a, b, by rw [World.cell?_setCell_other _ _ _ _ (by intro h; simp only [Addr.mk.injEq] at h; omega)]; exact hu⟩
theorem IsB.get {zs : List Int} (h : IsB zs) (k : Nat) : 0 ≤ zs[k]?.getD 0 ∧ zs[k]?.getD 0 ≤ 255 := by
  have := h.at k
  rw [List.getD_eq_getElem?_getD] at this
  omega
theorem Room.own {w : World} {g : Nat} {zs : List Int} (h : Room w g zs) (hz : IsB zs) : Own w g (zs.length + 2) := by
  intro i hi
  by_cases h1 : i < zs.length
  · exact ⟨_, (hz.get i).1, (hz.get i).2, by simpa using h.cell i h1⟩
  · by_cases h2 : i = zs.length
    · subst h2; exact ⟨71, by omega, by omega, h.c71⟩
    · obtain rfl : i = zs.length + 1 := by omega
      exact ⟨72, by omega, by omega, h.c72⟩
theorem xor85 (v : Int) (h1 : 0 ≤ v) (h2 : v ≤ 255) : ∃ v' : Int, bits .xor .u8 v 85 = v' ∧ 0 ≤ v' ∧ v' ≤ 255 := by
  refine ⟨_, rfl, ?_⟩
  rw [u8_xor _ _ h1 (by omega) (by omega) (by omega)]
  have := Nat.xor_lt_two_pow (n := 8) (x := v.toNat) (y := (85 : Int).toNat) (by omega) (by decide)
  omega

theorem grown_drewN (w : World) (n : Nat) (r : Option Nat) : w.grownBy (w.drewN n) r := ⟨rfl, rfl, rfl, Nat.le_refl _, fun _ _ _ => rfl⟩
set_option maxHeartbeats 400000 in
theorem still_keep (a : Option Addr) (cap g : Nat) (zs : List Int) (w : World) (hl : zs.length ≤ 300000) (hz : IsB zs) (hr : Room w g zs) (hc : 0 < zs.length → ∃ b off, a = some ⟨b, off, none⟩ ∧ b < g ∧ At w b off zs) :
    Calls Try.prog 7 #[.slice (some ⟨g, 0, none⟩) zs.length (zs.length + 2), .slice a zs.length cap] w fun e w' => e = .returned (.bool true) ∧ w.grownBy w' (some g) := by
  have c71 := hr.c71
  have c72 := hr.c72
  go_enter Try.func7, Try.ntmps7
  go_wp2_with (go_at_call 9; refine (same_any _ _ _ _ zs _ (by omega) (fun _ => ⟨g, 0, rfl, fun i hi => by rw [Nat.zero_add]; exact hr.cell i hi⟩) (fun h => by obtain ⟨b, off, h1, h2, h3⟩ := hc h; exact ⟨b, off, h1, h3⟩)).mono ?_; rintro e w1 ⟨rfl, nq, rfl⟩)
  go_loopw [8] (fun i wr => ∃ k : Nat, k ≤ zs.length + 2 ∧ i = .int .i64 k ∧ Own wr g (zs.length + 2) ∧ (∀ i, wr.frozen? ⟨g, i, none⟩ = false) ∧ w.grownBy wr (some g)) (fun i _ => zs.length + 2 - (intOf i).toNat)
  case atStart => exact ⟨0, Nat.zero_le _, rfl, hr.own hz, hr.fz, grown_drewN _ _ _⟩
  case round =>
    obtain ⟨k, hk, rfl, hown, hfz, hbel⟩ := hrel
    clear c71 c72
    by_cases hlt : k < zs.length + 2
    · obtain ⟨v, hv1, hv2, hcell⟩ := hown k hlt
      obtain ⟨v', hx, hv3, hv4⟩ := xor85 v hv1 hv2
      have hf := hfz k
      go_wp2
      go_roundw
      case rel => exact ⟨k + 1, by omega, by go_num, hown.set k v' hv3 hv4, fun i => by rw [World.frozen?_setCell]; exact hfz i, grown_setCell _ hbel⟩
      case measure => simp [intOf]; omega
    · go_wp2
      go_ret
      exact ⟨rfl, hbel⟩

/-- Bytes as numbers. -/
def nums (s : Str) : List Int := s.map (fun x => (x.toNat : Int))
theorem nums_len (s : Str) : (nums s).length = s.length := by simp [nums]
theorem nums_at (s : Str) (i : Nat) (hi : i < s.length) : (nums s).getD i 0 = ((s.getD i 0).toNat : Int) := by
  simp [nums, List.getD_eq_getElem?_getD, List.getElem?_eq_getElem hi]
theorem nums_b (s : Str) : IsB (nums s) := by
  intro x hx
  obtain ⟨y, _, rfl⟩ := List.mem_map.1 hx
  have := y.toNat_lt
  omega
theorem pb_at {w : World} {b off cap : Nat} {s : Str} (h : PB w (some ⟨b, off, none⟩) cap s) : At w b off (nums s) := fun i hi => by
  rw [nums_len] at hi
  rw [nums_at s i hi]
  exact PB.cell h i hi
theorem room_pb {w : World} {g : Nat} {s : Str} (h : Room w g (nums s)) : PB w (some ⟨g, 0, none⟩) (s.length + 2) s :=
  ⟨by omega, fun _ => ⟨g, 0, rfl, h.lt, fun i hi j v hv => by
    have hj : j = 0 := by
      have := (List.getElem?_eq_some_iff.1 hv).1
      simp [encB] at this
      omega
    subst hj
    simp only [encB, List.getElem?_cons_zero, Option.some.injEq] at hv
    have := h.cell i (by rw [nums_len]; exact hi)
    rw [nums_at s i hi, hv] at this
    simpa using this⟩, fun h => by cases h⟩
theorem roomyP {w : World} (a : Option Addr) (cap : Nat) (s : Str) (hP : PB w a cap s) (hl : s.length ≤ 4000) :
    Calls Try.prog 5 #[.slice a s.length cap] w fun e w' => e = .returned (.slice (some ⟨w.heap.size, 0, none⟩) s.length (s.length + 2)) ∧ Below w.heap.size w w' ∧ Room w' w.heap.size (nums s) := by
  have := roomy_any a cap (nums s) w (by rw [nums_len]; omega) (fun h0 => by
    rw [nums_len] at h0
    obtain ⟨b, off, e1, e2, _⟩ := hP.at_ h0
    subst e1
    exact ⟨b, off, rfl, e2, pb_at hP⟩)
  rw [nums_len] at this
  exact this
theorem stillP {w : World} (a : Option Addr) (cap g : Nat) (s : Str) (hl : s.length ≤ 4000) (hr : Room w g (nums s)) (hP : PB w a cap s) (hg : ∀ p : Addr, a = some p → p.block < g) :
    Calls Try.prog 7 #[.slice (some ⟨g, 0, none⟩) s.length (s.length + 2), .slice a s.length cap] w fun e w' => e = .returned (.bool true) ∧ w.grownBy w' (some g) := by
  have := still_keep a cap g (nums s) w (by rw [nums_len]; omega) (nums_b s) hr (fun h0 => by
    rw [nums_len] at h0
    obtain ⟨b, off, e1, e2, _⟩ := hP.at_ h0
    subst e1
    exact ⟨b, off, rfl, hg _ rfl, pb_at hP⟩)
  rw [nums_len] at this
  exact this
theorem Room.kept {w w' : World} {g : Nat} {zs : List Int} (h : Room w g zs) (hb : w'.heap[g]? = w.heap[g]?) : Room w' g zs := by
  have hc : ∀ i, w'.cell? ⟨g, i, none⟩ = w.cell? ⟨g, i, none⟩ := fun i => World.cell?_of_block (a := ⟨g, i, none⟩) hb
  refine ⟨?_, fun i hi => (hc i).trans (h.cell i hi), (hc _).trans h.c71, (hc _).trans h.c72, fun i => ?_⟩
  · have := h.lt
    rw [Array.getElem?_eq_getElem this] at hb
    exact (Array.getElem?_eq_some_iff.1 hb).1
  · rw [← h.fz i]
    unfold World.frozen?
    rw [hb]
end Go.Proofs.Ytakddciegnkpdaa
