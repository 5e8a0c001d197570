import Derived.Test.YtmpjapcijjjlbaaGreatDoorQa10
import Derived.Laws.CopyOwn
import Derived.Laws.IdiomCopy
import Derived.Test.YtmpjapcijjjlbaaGreatDoorQa11
import Derived.Test.YtmpjapcijjjlbaaGreatDoorQa12
namespace Go.Proofs.YtmpjapcijjjlbaaGreatDoor
open Go.RowKit
set_option linter.unusedVariables false
set_option linter.unusedSimpArgs false
theorem grown_setCells (g : Nat) : ∀ (vs : List Value) (o : Nat) (w0 w : World), w0.grownBy w (some g) → w0.grownBy (w.setCells g o vs) (some g)
  | [], _, _, _, h => h
  | v :: r, o, w0, w, h => grown_setCells g r (o + 1) w0 _ ⟨h.os, h.tape, h.output, by simpa [World.setCell] using h.size, fun k hk hne => (Below.heap_setCell w ⟨g, o, none⟩ v k (fun e => hne (by rw [e]))).trans (h.block k hk hne)⟩
theorem grown_setCell {w0 w : World} {g i : Nat} (v : Value) (h : w0.grownBy w (some g)) : w0.grownBy (w.setCell ⟨g, i, none⟩ v) (some g) := grown_setCells g [v] i w0 w h
structure Room (w : World) (g : Nat) (zs : List Int) : Prop where
  lt : g < w.heap.size
  cell : ∀ i, i < zs.length → w.cell? ⟨g, i, none⟩ = some (.int .u8 (zs.getD i 0))
  c71 : w.cell? ⟨g, zs.length, none⟩ = some (.int .u8 71)
  c72 : w.cell? ⟨g, zs.length + 1, none⟩ = some (.int .u8 72)
  fz : ∀ i, w.frozen? ⟨g, i, none⟩ = false
theorem copy_in (w1 : World) (g n2 : Nat) (a : Option Addr) (cap : Nat) (zs : List Int) (hn : zs.length ≤ n2) (hcell : ∀ j, j < n2 → w1.cell? ⟨g, j, none⟩ = some (.int .u8 0)) (hfz : ∀ j, w1.frozen? ⟨g, j, none⟩ = false)
    (hc : 0 < zs.length → ∃ b off, a = some ⟨b, off, none⟩ ∧ At w1 b off zs) :
    ∃ w2, Sem.run Tryz.prog (Builtin.copy_ #[22, 22] 3 #[.slice (some ⟨g, 0, none⟩) n2 n2, .slice a zs.length cap]) w1 = .ok (.int .i64 zs.length) w2 ∧ Below g w1 w2 ∧ w2.heap.size = w1.heap.size ∧
      (∀ j, j < zs.length → w2.cell? ⟨g, j, none⟩ = some (.int .u8 (zs.getD j 0))) ∧ (∀ j, zs.length ≤ j → j < n2 → w2.cell? ⟨g, j, none⟩ = some (.int .u8 0)) ∧ ∀ j, w2.frozen? ⟨g, j, none⟩ = false := by
  by_cases h0 : zs.length = 0
  · refine ⟨w1, ?_, Below.refl _ _, rfl, fun j hj => by omega, fun j _ hj => hcell j hj, hfz⟩
    rw [run_copy_none w1 22 22 3 5 _ a n2 n2 zs.length cap Tryz.underlying22 Tryz.size5 (by rw [h0]; exact Nat.zero_min _), h0]; rfl
  · obtain ⟨b, off, rfl, hat⟩ := hc (by omega)
    have hlen : (zs.map (Value.int .u8)).length = zs.length := by simp
    have hr := run_copy_cells (P := Tryz.prog) w1 22 22 3 5 g 0 n2 n2 ⟨b, off, none⟩ zs.length cap (zs.map (Value.int .u8)) Tryz.underlying22 Tryz.size5
      (by rw [hlen]; exact (Nat.min_eq_left hn).symm)
      (fun j v hj => by
        rw [List.getElem?_map] at hj
        cases hq : zs[j]? with
        | none => simp [hq] at hj
        | some q =>
          simp [hq] at hj
          subst hj
          have hlt : j < zs.length := by rcases Nat.lt_or_ge j zs.length with h | h; exact h; rw [List.getElem?_eq_none h] at hq; cases hq
          have := hat j hlt
          rw [addr_add]
          simpa [hq] using this)
      (fun j hj => by rw [hlen] at hj; rw [Nat.zero_add, hcell j (by omega)]; rfl) (fun j _ => hfz _) (ints_oneCell _ _)
    have hin := World.cell?_setCells_in g (zs.map (Value.int .u8)) 0 w1 (fun j hj => by rw [hlen] at hj; rw [Nat.zero_add, hcell j (by omega)]; rfl)
    refine ⟨_, by rw [hr, hlen]; rfl, below_setCells (Nat.le_refl _) _ _ _ _ (Below.refl _ _), size_setCells _ _ _ _, fun j hj => ?_, fun j h1 h2 => ?_, fun j => ?_⟩
    · have := hin j (by omega)
      rw [Nat.zero_add] at this
      rw [this]
      simp [hj]
    · rw [World.cell?_setCells_out g _ 0 w1 _ (fun _ _ => Or.inr (by rw [hlen]; simpa using h1))]
      exact hcell j h2
    · rw [World.frozen?_setCells]; exact hfz j
theorem room_of {w2 : World} {g : Nat} {zs : List Int} (hs : g < w2.heap.size) (hin : ∀ j, j < zs.length → w2.cell? ⟨g, j, none⟩ = some (.int .u8 (zs.getD j 0))) (k1 : w2.cell? ⟨g, zs.length, none⟩ = some (.int .u8 0))
    (k2 : w2.cell? ⟨g, zs.length + 1, none⟩ = some (.int .u8 0)) (hfz : ∀ j, w2.frozen? ⟨g, j, none⟩ = false) :
    Room ((w2.setCell ⟨g, zs.length, none⟩ (.int .u8 71)).setCell ⟨g, zs.length + 1, none⟩ (.int .u8 72)) g zs where
  lt := by simpa [World.setCell] using hs
  cell i hi := by
    rw [World.cell?_setCell_other _ _ _ _ (by intro h; simp only [Addr.mk.injEq] at h; omega), World.cell?_setCell_other _ _ _ _ (by intro h; simp only [Addr.mk.injEq] at h; omega)]; exact hin i hi
  c71 := by rw [World.cell?_setCell_other _ _ _ _ (by simp)]; exact World.cell?_setCell_same _ _ _ k1
  c72 := World.cell?_setCell_same (u := .int .u8 0) _ _ _ (by rw [World.cell?_setCell_other _ _ _ _ (by simp)]; exact k2)
  fz i := by rw [World.frozen?_setCell, World.frozen?_setCell]; exact hfz i
set_option maxRecDepth 10000 in
set_option maxHeartbeats 400000 in
theorem roomy_any (a : Option Addr) (cap : Nat) (zs : List Int) (w : World) (hl : zs.length ≤ 300000) (hc : 0 < zs.length → ∃ b off, a = some ⟨b, off, none⟩ ∧ b < w.heap.size ∧ At w b off zs) :
    Calls Tryz.prog 11 #[.slice a zs.length cap] w fun e w' => e = .returned (.slice (some ⟨w.heap.size, 0, none⟩) zs.length (zs.length + 2)) ∧ Below w.heap.size w w' ∧ Room w' w.heap.size zs := by
  obtain ⟨i5, hi, hz0, hz1, hz2⟩ := info_parts Tryz.info5
  go_enter Tryz.func11, Tryz.ntmps11
  go_wp2_with (at_make; refine wpList_make_full _ rfl _ _ 22 rfl w.heap.size 5 i5 (.int .u8 0) 1 Tryz.underlying22 hi hz0 hz1 _ _ _ _ (zs.length + 2) rfl rfl ?c1 ?c2 ?c3 ?c4 ?c5 ?_)
  case c1 => omega
  case c2 => omega
  case c3 => rw [hz2]; omega
  case c4 => unfold maxLen; omega
  case c5 => exact Nat.le_refl _
  · intro w1 hown hgrow
    have hb1 : Below w.heap.size w w1 := (Below.refl _ _).grown hgrow (Nat.le_refl _) (fun k h => by cases h)
    have hs1 : w.heap.size < w1.heap.size := (hown.lt _ rfl).2
    obtain ⟨w2, hrun, hb2, hs2, hin, hout, hfz⟩ := copy_in w1 w.heap.size (zs.length + 2) a cap zs (by omega)
      (fun j hj => by
        rw [hown.cellAt j (by omega), toList_madeCells_one, List.getElem?_replicate, if_pos (by omega)]) hown.frozenAt
      (fun h => by
        obtain ⟨b, off, ha, hb, hat⟩ := hc h
        exact ⟨b, off, ha, fun j hj => (hb1.cell (p := ⟨b, off + j, none⟩) hb).trans (hat j hj)⟩)
    have k1 := hout zs.length (by omega) (by omega)
    have k2 := hout (zs.length + 1) (by omega) (by omega)
    have f1 := hfz zs.length
    have f2 := hfz (zs.length + 1)
    have HB : Hid (Below w.heap.size w w2) := hb1.trans hb2
    clear hown hgrow hb1 hc hout hb2
    go_wp2
    go_ret
    exact ⟨rfl, (HB.out.setCell (Nat.le_refl _) _).setCell (Nat.le_refl _) _, room_of (by omega) hin k1 k2 hfz⟩
def Own (w : World) (g n : Nat) : Prop := ∀ i, i < n → ∃ v : Int, 0 ≤ v ∧ v ≤ 255 ∧ w.cell? ⟨g, i, none⟩ = some (.int .u8 v)
theorem Own.set {w : World} {g n : Nat} (h : Own w g n) (k : Nat) (v : Int) (h1 : 0 ≤ v) (h2 : v ≤ 255) : Own (w.setCell ⟨g, k, none⟩ (.int .u8 v)) g n := by
  intro i hi
  by_cases hk : i = k
  · subst hk
    obtain ⟨u, _, _, hu⟩ := h i hi
    exact ⟨v, h1, h2, World.cell?_setCell_same _ _ _ hu⟩
  · obtain ⟨u, a, b, hu⟩ := h i hi
    exact ⟨u, a, b, by rw [World.cell?_setCell_other _ _ _ _ (by intro h; simp only [Addr.mk.injEq] at h; omega)]; exact hu⟩
theorem IsB.get {zs : List Int} (h : IsB zs) (k : Nat) : 0 ≤ zs[k]?.getD 0 ∧ zs[k]?.getD 0 ≤ 255 := by
  have := h.at k
  rw [List.getD_eq_getElem?_getD] at this
  omega
theorem Room.own {w : World} {g : Nat} {zs : List Int} (h : Room w g zs) (hz : IsB zs) : Own w g (zs.length + 2) := by
  intro i hi
  by_cases h1 : i < zs.length
  · exact ⟨_, (hz.get i).1, (hz.get i).2, by simpa using h.cell i h1⟩
  · by_cases h2 : i = zs.length
    · subst h2; exact ⟨71, by omega, by omega, h.c71⟩
    · obtain rfl : i = zs.length + 1 := by omega
      exact ⟨72, by omega, by omega, h.c72⟩
theorem xor85 (v : Int) (h1 : 0 ≤ v) (h2 : v ≤ 255) : ∃ v' : Int, bits .xor .u8 v 85 = v' ∧ 0 ≤ v' ∧ v' ≤ 255 := by
  refine ⟨_, rfl, ?_⟩
  rw [u8_xor _ _ h1 (by omega) (by omega) (by omega)]
  have := Nat.xor_lt_two_pow (n := 8) (x := v.toNat) (y := (85 : Int).toNat) (by omega) (by decide)
  omega
theorem grown_drewN (w : World) (n : Nat) (r : Option Nat) : w.grownBy (w.drewN n) r := ⟨rfl, rfl, rfl, Nat.le_refl _, fun _ _ _ => rfl⟩
set_option maxHeartbeats 400000 in
theorem still_keep (a : Option Addr) (cap g : Nat) (zs : List Int) (w : World) (hl : zs.length ≤ 300000) (hz : IsB zs) (hr : Room w g zs) (hc : 0 < zs.length → ∃ b off, a = some ⟨b, off, none⟩ ∧ b < g ∧ At w b off zs) :
    Calls Tryz.prog 12 #[.slice (some ⟨g, 0, none⟩) zs.length (zs.length + 2), .slice a zs.length cap] w fun e w' => e = .returned (.bool true) ∧ w.grownBy w' (some g) := by
  have c71 := hr.c71
  have c72 := hr.c72
  go_enter Tryz.func12, Tryz.ntmps12
  go_wp2_with (go_at_call 9; refine (same_any _ _ _ _ zs _ (by omega) (fun _ => ⟨g, 0, rfl, fun i hi => by rw [Nat.zero_add]; exact hr.cell i hi⟩) (fun h => by obtain ⟨b, off, h1, h2, h3⟩ := hc h; exact ⟨b, off, h1, h3⟩)).mono ?_; rintro e w1 ⟨rfl, nq, rfl⟩)
  go_loopw [8] (fun i wr => ∃ k : Nat, k ≤ zs.length + 2 ∧ i = .int .i64 k ∧ Own wr g (zs.length + 2) ∧ (∀ i, wr.frozen? ⟨g, i, none⟩ = false) ∧ w.grownBy wr (some g)) (fun i _ => zs.length + 2 - (intOf i).toNat)
  case atStart => exact ⟨0, Nat.zero_le _, rfl, hr.own hz, hr.fz, grown_drewN _ _ _⟩
  case round =>
    obtain ⟨k, hk, rfl, hown, hfz, hbel⟩ := hrel
    clear c71 c72
    by_cases hlt : k < zs.length + 2
    · obtain ⟨v, hv1, hv2, hcell⟩ := hown k hlt
      obtain ⟨v', hx, hv3, hv4⟩ := xor85 v hv1 hv2
      have hf := hfz k
      go_wp2
      go_roundw
      case rel => exact ⟨k + 1, by omega, by go_num, hown.set k v' hv3 hv4, fun i => by rw [World.frozen?_setCell]; exact hfz i, grown_setCell _ hbel⟩
      case measure => simp [intOf]; omega
    · go_wp2
      go_ret
      exact ⟨rfl, hbel⟩
theorem nums_b (s : Str) : IsB (nums s) := by
  intro x hx
  obtain ⟨y, _, rfl⟩ := List.mem_map.1 hx
  have := y.toNat_lt
  omega
theorem room_pb {w : World} {g : Nat} {s : Str} (h : Room w g (nums s)) : PB w (some ⟨g, 0, none⟩) (s.length + 2) s :=
  ⟨by omega, fun _ => ⟨g, 0, rfl, h.lt, fun i hi j v hv => by
    have hj : j = 0 := by
      have := (List.getElem?_eq_some_iff.1 hv).1
      simp [encB] at this
      omega
    subst hj
    simp only [encB, List.getElem?_cons_zero, Option.some.injEq] at hv
    have := h.cell i (by rw [nums_len]; exact hi)
    rw [nums_at s i hi, hv] at this
    simpa using this⟩, fun h => by cases h⟩
theorem roomyP {w : World} (a : Option Addr) (cap : Nat) (s : Str) (hP : PB w a cap s) (hl : s.length ≤ 4000) :
    Calls Tryz.prog 11 #[.slice a s.length cap] w fun e w' => e = .returned (.slice (some ⟨w.heap.size, 0, none⟩) s.length (s.length + 2)) ∧ Below w.heap.size w w' ∧ Room w' w.heap.size (nums s) := by
  have := roomy_any a cap (nums s) w (by rw [nums_len]; omega) (fun h0 => by
    rw [nums_len] at h0
    obtain ⟨b, off, e1, e2, _⟩ := hP.at_ h0
    subst e1
    exact ⟨b, off, rfl, e2, pb_at hP⟩)
  rw [nums_len] at this
  exact this
theorem Room.kept {w w' : World} {g : Nat} {zs : List Int} (h : Room w g zs) (hb : w'.heap[g]? = w.heap[g]?) : Room w' g zs := by
  have hc : ∀ i, w'.cell? ⟨g, i, none⟩ = w.cell? ⟨g, i, none⟩ := fun i => World.cell?_of_block (a := ⟨g, i, none⟩) hb
  refine ⟨?_, fun i hi => (hc i).trans (h.cell i hi), (hc _).trans h.c71, (hc _).trans h.c72, fun i => ?_⟩
  · have := h.lt
    rw [Array.getElem?_eq_getElem this] at hb
    exact (Array.getElem?_eq_some_iff.1 hb).1
  · rw [← h.fz i]
    unfold World.frozen?
    rw [hb]
end Go.Proofs.YtmpjapcijjjlbaaGreatDoor
namespace Go.Proofs.YtmpjapcijjjlbaaGreatDoor
open Go.RowKit
set_option linter.unusedVariables false
set_option linter.unusedSimpArgs false
theorem ln1_short (s : Str) (h : s.length < 2) : ln1 s = none := by
  match s, h with
  | [], _ => rfl
  | [c], _ =>
    have h' : upto [] = none := rfl
    unfold ln1
    cases hk : kdD c <;> simp only [hk, h']
theorem ln1_kd (s : Str) (h : kdD (s.getD 0 0) = none) : ln1 s = none := by
  match s, h with
  | [], _ => rfl
  | c :: t, h =>
    have h' : kdD c = none := h
    unfold ln1
    simp only [h']
theorem ln1_noend (s : Str) (h : upto (s.drop 1) = none) : ln1 s = none := by
  match s, h with
  | [], _ => rfl
  | c :: t, h =>
    have h' : upto t = none := by simpa using h
    unfold ln1
    cases hk : kdD c <;> simp only [hk, h']
theorem ln1_yes (s : Str) (k : Nat) (x r r2 : Str) (hs : s ≠ []) (hk : kdD (s.getD 0 0) = some k) (hu : upto (s.drop 1) = some (x, r)) (hw : wrd r noM = (r2, true)) : ln1 s = if x = [] then none else some ((k, x), r2) := by
  match s, hs, hk, hu with
  | [], hs, _, _ => exact absurd rfl hs
  | c :: t, _, hk, hu =>
    have h1 : kdD c = some k := hk
    have h2 : upto t = some (x, r) := by simpa using hu
    unfold ln1
    simp only [h1, h2, hw]
theorem ln1_not (s : Str) (k : Nat) (x r r2 : Str) (hs : s ≠ []) (hk : kdD (s.getD 0 0) = some k) (hu : upto (s.drop 1) = some (x, r)) (hw : wrd r noM = (r2, false)) : ln1 s = some ((k, x ++ [10]), r) := by
  match s, hs, hk, hu with
  | [], hs, _, _ => exact absurd rfl hs
  | c :: t, _, hk, hu =>
    have h1 : kdD c = some k := hk
    have h2 : upto t = some (x, r) := by simpa using hu
    unfold ln1
    simp only [h1, h2, hw]
theorem end_at (s : Str) (hs : 1 ≤ s.length) : ∃ d, 1 ≤ d ∧ d ≤ s.length ∧ (∀ i, 1 ≤ i → i < d → s.getD i 0 ≠ 10) ∧ ((d = s.length ∧ ln1 s = none) ∨ (d < s.length ∧ s.getD d 0 = 10 ∧ ∃ x r, upto (s.drop 1) = some (x, r) ∧ d = x.length + 1 ∧ (s.drop 1).take d = x ++ [10] ∧ s.drop (d + 1) = r)) := by
  have hg : ∀ i, 1 ≤ i → s.getD i 0 = (s.drop 1).getD (i - 1) 0 := fun i hi => by
    rw [List.getD_eq_getElem?_getD, List.getD_eq_getElem?_getD, List.getElem?_drop, show 1 + (i - 1) = i by omega]
  have hl : (s.drop 1).length = s.length - 1 := List.length_drop
  cases hu : upto (s.drop 1) with
  | none => exact ⟨s.length, hs, Nat.le_refl _, fun i h1 h2 => by rw [hg i h1]; exact upto_no hu _ (by omega), .inl ⟨rfl, ln1_noend s hu⟩⟩
  | some y =>
    obtain ⟨x, r⟩ := y
    obtain ⟨h1, h2, h3, h4, h5⟩ := upto_at hu
    refine ⟨x.length + 1, by omega, by omega, fun i i1 i2 => by rw [hg i i1]; exact h3 _ (by omega), .inr ⟨by omega, by rw [hg _ (by omega)]; exact h2, x, r, rfl, rfl, ?_, ?_⟩⟩
    · have e := (upto_read hu).1
      rw [e, show x ++ 10 :: r = (x ++ [10]) ++ r by simp, show x.length + 1 = (x ++ [10]).length by simp, List.take_left]
    · rw [h5, List.drop_drop]
      congr 1
      omega
theorem kd_none {c : UInt8} (h1 : c ≠ 32) (h2 : c ≠ 45) (h3 : c ≠ 43) : kdD c = none := by
  unfold kdD
  rw [if_neg h1, if_neg h2, if_neg h3]
structure LB (G : Nat) (x y z u v : Value) (W : World) : Prop where
  b : W.heap[G]? = some (.cells #[x, y, z, u, v] 59 (0, 0))
  q : W.heap[G + 1]? = some (.cells #[.int .i64 0, .int .i64 0, .int .i64 0, .int .i64 0, .slice none 0 0] 59 (0, 0))
theorem LB.c1 {G : Nat} {x y z u v : Value} {W : World} (h : LB G x y z u v W) : W.cell? ⟨G, 1, none⟩ = some y := by rw [cell_of_row _ _ _ _ _ _ h.b]; rfl
theorem LB.c3 {G : Nat} {x y z u v : Value} {W : World} (h : LB G x y z u v W) : W.cell? ⟨G, 3, none⟩ = some u := by rw [cell_of_row _ _ _ _ _ _ h.b]; rfl
theorem LB.c4 {G : Nat} {x y z u v : Value} {W : World} (h : LB G x y z u v W) : W.cell? ⟨G, 4, none⟩ = some v := by rw [cell_of_row _ _ _ _ _ _ h.b]; rfl
theorem LB.f4 {G : Nat} {x y z u v : Value} {W : World} (h : LB G x y z u v W) : W.frozen? ⟨G, 4, none⟩ = false := by simp [World.frozen?, h.b]
theorem LB.range {G : Nat} {x y z u v : Value} {W : World} (h : LB G x y z u v W) : W.rangeAt G 0 [x, y, z, u, v] := range_row h.b
theorem LB.there {G : Nat} {x y z u v : Value} {W : World} (h : LB G x y z u v W) : W.there (G + 1) 0 5 := there_off h.q 0 (by simp)
theorem LB.kept {G : Nat} {x y z u v : Value} {W W' : World} {row : Option Nat} (h : LB G x y z u v W) (hg : W.grownBy W' row) (h0 : row ≠ some G) (h1 : row ≠ some (G + 1)) : LB G x y z u v W' :=
  ⟨(hg.block G (lt_of_some h.b) h0.symm).trans h.b, (hg.block (G + 1) (lt_of_some h.q) h1.symm).trans h.q⟩
theorem LB.below {G : Nat} {x y z u v : Value} {W W' : World} (h : LB G x y z u v W) (hb : Below W.heap.size W W') : LB G x y z u v W' := h.kept (grown_of_below hb none) (fun e => by cases e) (fun e => by cases e)
theorem grown_sets (W : World) (g o : Nat) (vs : List Value) : W.grownBy (W.setCells g o vs) (some g) := grown_setCells g vs o W W ⟨rfl, rfl, rfl, Nat.le_refl _, fun _ _ _ => rfl⟩
theorem LB.set4 {G : Nat} {x y z u v : Value} {W : World} (h : LB G x y z u v W) (v' : Value) : LB G x y z u v' (W.setCell ⟨G, 4, none⟩ v') ∧ W.grownBy (W.setCell ⟨G, 4, none⟩ v') (some G) := by
  have hg : W.grownBy (W.setCell ⟨G, 4, none⟩ v') (some G) := grown_sets W G 4 [v']
  refine ⟨⟨?_, (hg.block (G + 1) (lt_of_some h.q) (by simp)).trans h.q⟩, hg⟩
  have hb := h.b
  have hlt := lt_of_some hb
  simp only [World.setCell]
  rw [Array.getElem?_modify, if_pos rfl, hb]
  rfl
structure LnI (N M : Nat) (s0 : Str) (w wr : World) (G : Nat) (x y z u v : Value) (s : Str) (n m : Nat) (ch : Bool) (es : List Ed) : Prop where
  ln : lnX N M 0 0 s0 = (lnX N M n m s).map fun y => (es ++ y.1, y.2)
  ch : es.any chE = ch
  le : s.length + es.length ≤ s0.length
  nm : n ≤ es.length ∧ m ≤ es.length
  row : BE 61 w wr G v es
  box : LB G x y z u v wr
theorem LnI.none {N M : Nat} {s0 : Str} {w wr : World} {G : Nat} {x y z u v : Value} {s : Str} {n m : Nat} {ch : Bool} {es : List Ed} (h : LnI N M s0 w wr G x y z u v s n m ch es) (hgo : n < N ∨ m < M) (h1 : ln1 s = none) : ∀ es r, lnX N M 0 0 s0 = some (es, r) → es.any chE = false := fun es r e => by
  rw [h.ln, lnX_none N M n m s hgo h1] at e
  cases e
theorem LnI.next {N M : Nat} {s0 : Str} {w wr : World} {G : Nat} {x y z u v : Value} {s : Str} {n m : Nat} {ch : Bool} {es : List Ed} (h : LnI N M s0 w wr G x y z u v s n m ch es) (hgo : n < N ∨ m < M) (e : Ed) (r : Str) (h1 : ln1 s = some (e, r)) {wq : World} {v' : Value} (hr : BE 61 w wq G v' (es ++ [e])) (hb : LB G x y z u v' wq) (n' m' : Nat) (ch' : Bool) (hn : n' = n + cA1 e) (hm : m' = m + cB1 e) (hc : ch' = (ch || chE e)) : LnI N M s0 w wq G x y z u v' r n' m' ch' (es ++ [e]) := by
  subst hn hm hc
  refine ⟨?_, by rw [List.any_append, h.ch]; simp, ?_, ?_, hr, hb⟩
  · rw [h.ln, lnX_some N M n m s hgo e r h1, Option.map_map]
    congr 1
    funext y
    simp
  · have h2 := ln1_less h1
    have h3 := h.le
    rw [List.length_append]
    simp
    omega
  · have := h.nm
    rw [List.length_append]
    unfold cA1 cB1
    simp
    split <;> split <;> omega
def PostLi (N M : Nat) (s0 : Str) (x y z u : Value) (w : World) (G : Nat) (e : Ending) (w' : World) : Prop :=
  Below G w w' ∧ ((∃ es r v, lnX N M 0 0 s0 = some (es, r) ∧ es.any chE = true ∧ BE 61 w w' G v es ∧ e = .returned (.tuple #[.agg #[x, y, z, u, v], .string ⟨r.toArray⟩, .bool true]))
    ∨ ((∀ es r, lnX N M 0 0 s0 = some (es, r) → es.any chE = false) ∧ ∃ (r : ByteArray) (va : Option Addr) (vn : Nat) (vc : Nat), e = .returned (.tuple #[.agg #[x, y, z, u, .slice va vn vc], .string r, .bool false])))
theorem LnI.fin {N M : Nat} {s0 : Str} {w wr : World} {G : Nat} {x y z u v : Value} {s : Str} {n m : Nat} {ch : Bool} {es : List Ed} (h : LnI N M s0 w wr G x y z u v s n m ch es) (hgo : ¬ (n < N ∨ m < M)) :
    (((ch && decide (n = N)) && decide (m = M)) = true → lnX N M 0 0 s0 = some (es, s) ∧ es.any chE = true) ∧ (((ch && decide (n = N)) && decide (m = M)) = false → ∀ es r, lnX N M 0 0 s0 = some (es, r) → es.any chE = false) := by
  have e := h.ln
  rw [lnX_end N M n m s hgo] at e
  constructor
  · intro hb
    simp only [Bool.and_eq_true, decide_eq_true_eq] at hb
    obtain ⟨⟨h1, h2⟩, h3⟩ := hb
    rw [if_pos ⟨h2, h3⟩] at e
    refine ⟨by rw [e]; simp, by rw [h.ch]; exact h1⟩
  · intro hb es' r' e'
    rw [e] at e'
    split at e'
    · rename_i hnm
      simp only [Option.map_some, Option.some.injEq, Prod.mk.injEq, List.append_nil] at e'
      rw [← e'.1, h.ch]
      simpa [hnm.1, hnm.2] using hb
    · cases e'
end Go.Proofs.YtmpjapcijjjlbaaGreatDoor
