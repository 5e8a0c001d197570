import Derived.Test.YtbiibhpknflagaaDoorHelpC
import Derived.Test.YtbiibhpknflagaaDoorRefT
import Derived.Test.YtbiibhpknflagaaDoorInfD
import Derived.Test.YtbiibhpknflagaaDoorTellB
import Derived.Test.YtbiibhpknflagaaDoorCards
import Derived.Test.YtbiibhpknflagaaDoorTie
import Derived.WalkKit
import Derived.ProofKit
import Derived.OpenShut
import Derived.Below
import Derived.Deep.DeepHandedRow
import Derived.Lib.LaidTab
import Derived.LaidLaws
import Derived.LaidHandle
import Derived.Test.YtbiibhpknflagaaDoorMfi
import Derived.Laws.OwnMore
/- 'Still' leaves all but its block as it was. -/
namespace Go.Proofs.YtbiibhpknflagaaDoor
open Go.RowKit Plain
set_option linter.unusedVariables false

theorem grown_setCell {w wr : World} {g k : Nat} (u : Value) (h : w.grownBy wr (some g)) : w.grownBy (wr.setCell ⟨g, k, none⟩ u) (some g) :=
  ⟨h.os, h.tape, h.output, by simp [World.setCell]; exact h.size, fun j hj hne => (Below.heap_setCell wr _ u j (fun e => hne (congrArg some e))).trans (h.block j hj hne)⟩
theorem grown_drewN (w : World) (n : Nat) (r : Option Nat) : w.grownBy (w.drewN n) r := ⟨rfl, rfl, rfl, Nat.le_refl _, fun _ _ _ => rfl⟩
set_option maxHeartbeats 400000 in
theorem still_keep (a : Option Addr) (cap g : Nat) (zs : List Int) (w : World) (hl : zs.length ≤ 300000) (hz : IsB zs) (hr : Room w g zs) (hc : 0 < zs.length → ∃ b off, a = some ⟨b, off, none⟩ ∧ b < g ∧ At w b off zs) :
    Calls Tryd.prog 10 #[.slice (some ⟨g, 0, none⟩) zs.length (zs.length + 2), .slice a zs.length cap] w fun e w' => e = .returned (.bool true) ∧ w.grownBy w' (some g) := by
  have c71 := hr.c71
  have c72 := hr.c72
  go_enter Tryd.func10, Tryd.ntmps10
  go_wp2_with (go_at_call 16; refine (same_any _ _ _ _ zs _ (by omega) (fun _ => ⟨g, 0, rfl, fun i hi => by rw [Nat.zero_add]; exact hr.cell i hi⟩) (fun h => by obtain ⟨b, off, h1, h2, h3⟩ := hc h; exact ⟨b, off, h1, h3⟩)).mono ?_; rintro e w1 ⟨rfl, nq, rfl⟩)
  go_loopw [8] (fun i wr => ∃ k : Nat, k ≤ zs.length + 2 ∧ i = .int .i64 k ∧ Own wr g (zs.length + 2) ∧ (∀ i, wr.frozen? ⟨g, i, none⟩ = false) ∧ w.grownBy wr (some g)) (fun i _ => zs.length + 2 - (intOf i).toNat)
  case atStart => exact ⟨0, Nat.zero_le _, rfl, hr.own hz, hr.fz, grown_drewN _ _ _⟩
  case round =>
    obtain ⟨k, hk, rfl, hown, hfz, hbel⟩ := hrel
    clear c71 c72
    by_cases hlt : k < zs.length + 2
    · obtain ⟨v, hv1, hv2, hcell⟩ := hown k hlt
      obtain ⟨v', hx, hv3, hv4⟩ := xor85 v hv1 hv2
      have hf := hfz k
      go_wp2
      go_roundw
      case rel => exact ⟨k + 1, by omega, by go_num, hown.set k v' hv3 hv4, fun i => by rw [World.frozen?_setCell]; exact hfz i, grown_setCell _ hbel⟩
      case measure => simp [intOf]; omega
    · go_wp2
      go_ret
      exact ⟨rfl, hbel⟩
end Go.Proofs.YtbiibhpknflagaaDoor
/- The law 'DeflateReads': its walk. -/
namespace Go.Proofs.YtbiibhpknflagaaDoor
open Go.RowKit Plain
set_option linter.unusedVariables false
set_option linter.unusedSimpArgs false

theorem ref_any (a : Option Addr) (cap : Nat) (zs : List Int) (most : Int) (w : World) (hz : IsB zs) (hl : zs.length ≤ 300000) (hm : most ≤ 300000) (hc : 0 < zs.length → ∃ b off, a = some ⟨b, off, none⟩ ∧ b < w.heap.size ∧ At w b off zs) :
    Calls Tryd.prog 15 #[.slice a zs.length cap, .int .i64 most] w (PostJ w (inflOf zs (max most 0))) := by
  by_cases h2 : zs.length < 2
  · have e : inflOf zs (max most 0) = .error 10 := by
      match zs, h2 with
      | [], _ => rfl
      | [x], _ => rfl
      | x :: y :: r, h => exact absurd h (by simp)
    rw [e]
    exact ref_short a zs.length cap most w h2
  · obtain ⟨b, off, rfl, hb, hat⟩ := hc (by omega)
    obtain ⟨x, y, rest, he⟩ : ∃ x y rest, zs = x :: y :: rest := by
      match zs, h2 with
      | [], h => simp at h
      | [x], h => simp at h
      | x :: y :: r, _ => exact ⟨x, y, r, rfl⟩
    cases hh : headB x y with
    | true => exact ref_good b off cap zs x y rest most w he hz hl hm hat hb hh
    | false =>
      have e : inflOf zs (max most 0) = .error 10 := by rw [he]; unfold inflOf; simp only []; rw [if_neg (by rw [hh]; simp)]
      rw [e]
      have bx := hz x (by rw [he]; simp)
      have bY := hz y (by rw [he]; simp)
      have cx : w.cell? ⟨b, off, none⟩ = some (.int .u8 x) := by have := hat 0 (by omega); rw [Nat.add_zero, show zs.getD 0 0 = x by rw [he]; rfl] at this; exact this
      have cy : w.cell? ⟨b, off + 1, none⟩ = some (.int .u8 y) := by have := hat 1 (by omega); rw [show zs.getD 1 0 = y by rw [he]; rfl] at this; exact this
      exact ref_head b off cap zs.length x y most w (by omega) (by omega) bx.1 bx.2 bY.1 bY.2 cx cy hh
theorem TabsW.below {w w' : World} (h : TabsW w) (hb : Below w.heap.size w w') : TabsW w' := by
  have hl := h.lt
  have c : ∀ k i, k ≤ 6 → w'.cell? ⟨k, i, none⟩ = w.cell? ⟨k, i, none⟩ := fun k i hk => hb.cell (p := ⟨k, i, none⟩) (by show k < _; omega)
  exact ⟨fun i hi => (c 2 i (by omega)).trans (h.t2 i hi), fun i hi => (c 3 i (by omega)).trans (h.t3 i hi), fun i hi => (c 4 i (by omega)).trans (h.t4 i hi), fun i hi => (c 5 i (by omega)).trans (h.t5 i hi), fun i hi => (c 6 i (by omega)).trans (h.t6 i hi), Nat.lt_of_lt_of_le hl hb.size⟩
theorem Room.below {w w' : World} {g : Nat} {zs : List Int} (h : Room w g zs) (hb : Below w.heap.size w w') : Room w' g zs where
  lt := Nat.lt_of_lt_of_le h.lt hb.size
  cell := fun j hj => (hb.cell (p := ⟨g, j, none⟩) h.lt).trans (h.cell j hj)
  c71 := (hb.cell (p := ⟨g, zs.length, none⟩) h.lt).trans h.c71
  c72 := (hb.cell (p := ⟨g, zs.length + 1, none⟩) h.lt).trans h.c72
  fz := fun j => (World.frozen?_of_block (a := ⟨g, j, none⟩) (hb.block g h.lt)).trans (h.fz j)
/-- Bytes that were given out. -/
structure Got (w : World) (B : Nat) (a : Option Addr) (out : List Int) : Prop where
  at_ : 0 < out.length → ∃ g, a = some ⟨g, 0, none⟩ ∧ B ≤ g ∧ g < w.heap.size ∧ At w g 0 out
theorem got_of {w : World} {B cp : Nat} {a : Option Addr} {out : List Int} (h : w.ownsRow B 5 1 (.slice a out.length cp) out.length (out.map (Value.int .u8))) : Got w B a out :=
  ⟨fun h0 => by
    obtain ⟨g, cap', hv, h1, h2⟩ := h.form h0
    simp only [Value.slice.injEq] at hv
    obtain ⟨rfl, _, rfl⟩ := hv
    exact ⟨g, rfl, h1, h2, fun i hi => by rw [Nat.zero_add]; exact own_at h rfl i hi⟩⟩
theorem Got.frame {w w' : World} {B : Nat} {a : Option Addr} {out : List Int} (h : Got w B a out) (hb : ∀ k, B ≤ k → k < w.heap.size → w'.heap[k]? = w.heap[k]?) (hs : w.heap.size ≤ w'.heap.size) : Got w' B a out :=
  ⟨fun h0 => by
    obtain ⟨g, h1, h2, h3, h4⟩ := h.at_ h0
    exact ⟨g, h1, h2, Nat.lt_of_lt_of_le h3 hs, fun i hi => (World.cell?_of_block (a := ⟨g, 0 + i, none⟩) (hb g h2 h3)).trans (h4 i hi)⟩⟩
theorem slice_of {w : World} {B n : Nat} {v : Value} {xs : List Value} (h : w.ownsRow B 5 1 v n xs) : ∃ a cp, v = .slice a (n : Nat) cp := by
  obtain ⟨_, ⟨h1, h2⟩ | ⟨g, cap, cur, hv, _⟩⟩ := h
  · exact ⟨none, 0, by rw [h1, h2]⟩
  · exact ⟨_, _, hv⟩
set_option maxHeartbeats 400000 in
theorem walkR_long (a : Option Addr) (len cap : Nat) (most : Int) (w : World) (h : 5000 < len ∨ 300000 < most) (hm : len ≤ maxLen) :
    Calls Tryd.prog 4 #[.slice a len cap, .int .i64 most] w fun e w' => e = .returned (.bool true) ∧ Below w.heap.size w w' := by
  unfold maxLen at hm
  by_cases h1 : (5000 : Int) < len
  · go_enter Tryd.func4, Tryd.ntmps4
    go_wp2
    go_ret
    exact ⟨rfl, Below.refl _ _⟩
  · have h2 : (300000 : Int) < most := by omega
    go_enter Tryd.func4, Tryd.ntmps4
    go_wp2
    go_ret
    exact ⟨rfl, Below.refl _ _⟩
set_option maxRecDepth 20000 in
set_option maxHeartbeats 2000000 in
theorem walkR_short (a : Option Addr) (cap : Nat) (zs : List Int) (most : Int) (w : World) (hl : zs.length ≤ 5000) (hm : most ≤ 300000) (hz : IsB zs) (hc : 0 < zs.length → ∃ b off, a = some ⟨b, off, none⟩ ∧ b < w.heap.size ∧ At w b off zs) (ht : TabsW w)
    (hg : w.cell? ⟨1, 0, none⟩ = some (.iface 93 (.agg #[.pointer (some ⟨7, 29, none⟩)]))) :
    Calls Tryd.prog 4 #[.slice a zs.length cap, .int .i64 most] w fun e w' => e = .returned (.bool true) ∧ Below w.heap.size w w' := by
  have h1 : ¬ (5000 : Int) < zs.length := by omega
  have h2 : ¬ (300000 : Int) < most := by omega
  have HT : Hid (TabsW w) := ht
  have HC : Hid (0 < zs.length → ∃ b off, a = some ⟨b, off, none⟩ ∧ b < w.heap.size ∧ At w b off zs) := hc
  have HG : Hid _ := hg
  have HLT : Hid (1 < w.heap.size) := by show _ < _; have := ht.lt; omega
  clear ht hc hg
  go_enter Tryd.func4, Tryd.ntmps4
  go_wp2_with fail
  refine (roomy_any a cap zs w (by omega) HC.out).mono ?_
  rintro ev w1 ⟨rfl, hb1, hr1⟩
  have HB1 : Hid _ := hb1
  have HR1 : Hid _ := hr1
  clear hb1 hr1
  obtain ⟨g, HGG⟩ : ∃ g, Hid (g = w.heap.size) := ⟨_, rfl⟩
  rw [← HGG.out] at HR1 ⊢
  go_wp2_with fail
  refine (inflate_some g 0 (zs.length + 2) zs most w1 hz (by omega) (by omega) (fun i hi => by rw [Nat.zero_add]; exact HR1.out.cell i hi) HR1.out.lt hm (HT.out.below HB1.out)).mono ?_
  rintro ev w2 ⟨hb2, hm2⟩
  have HB2 : Hid _ := hb2
  clear hb2
  obtain ⟨r, HRR⟩ : ∃ r, Hid (r = inflOf zs (max most 0)) := ⟨_, rfl⟩
  rw [← HRR.out] at hm2
  have HCC : Hid (∀ w', Below w.heap.size w w' → 0 < zs.length → ∃ b off, a = some ⟨b, off, none⟩ ∧ b < w.heap.size ∧ At w' b off zs) := fun w' hb h0 => by
    obtain ⟨b, off, e1, e2, e3⟩ := HC.out h0
    exact ⟨b, off, e1, e2, fun i hi => (hb.cell (p := ⟨b, off + i, none⟩) e2).trans (e3 i hi)⟩
  cases hr : r with
  | error k =>
    rw [hr] at hm2
    simp only [] at hm2
    subst hm2
    have HB02 : Hid (Below w.heap.size w w2) := HB1.out.trans (HB2.out.mono HB1.out.size)
    go_wp2_with fail
    refine (tell_errno k w2 ((HB02.out.cell (p := ⟨1, 0, none⟩) HLT.out).trans HG.out)).mono ?_
    rintro ev w3 ⟨rfl, hb3⟩
    have HB3 : Hid _ := hb3
    clear hb3
    have HR3 : Hid (Room w3 g zs) := (HR1.out.below HB2.out).below HB3.out
    have HB03 : Hid (Below w.heap.size w w3) := HB02.out.trans (HB3.out.mono HB02.out.size)
    go_wp2_with fail
    refine (still_keep a cap g zs w3 (by omega) hz HR3.out (fun h0 => by obtain ⟨b, off, e1, e2, e3⟩ := HCC.out w3 HB03.out h0; exact ⟨b, off, e1, by rw [HGG.out]; exact e2, e3⟩)).mono ?_
    rintro ev w4 ⟨rfl, hg4⟩
    have HB04 : Hid (Below w.heap.size w w4) := HB03.out.grown hg4 (HB03.out.size) (fun k hk => by have := HGG.out; simp at hk; omega)
    clear hg4
    go_wp2_with fail
    refine (ref_any a cap zs most w4 hz (by omega) hm (fun h0 => by obtain ⟨b, off, e1, e2, e3⟩ := HCC.out w4 HB04.out h0; exact ⟨b, off, e1, Nat.lt_of_lt_of_le e2 HB04.out.size, e3⟩)).mono ?_
    rintro ev w5 ⟨hb5, hm5⟩
    rw [← HRR.out, hr] at hm5
    simp only [] at hm5
    subst hm5
    have HB05 : Hid (Below w.heap.size w w5) := HB04.out.trans (hb5.mono HB04.out.size)
    clear hb5
    go_wp2_with fail
    refine (same_any none none 0 0 [] w5 (by simp) (by simp) (by simp)).mono ?_
    rintro ev w6 ⟨rfl, q6, rfl⟩
    have HB06 : Hid (Below w.heap.size w (w5.drewN q6)) := ⟨HB05.out.os, HB05.out.tape, HB05.out.output, HB05.out.size, HB05.out.block⟩
    by_cases hk : k = 0
    · subst hk
      go_wp2
      go_ret
      exact ⟨rfl, HB06.out⟩
    · go_wp2
      go_ret
      exact ⟨rfl, HB06.out⟩
  | ok no =>
    obtain ⟨n, out⟩ := no
    rw [hr] at hm2
    obtain ⟨hisB, v, rfl, how⟩ := hm2
    obtain ⟨av, cv, rfl⟩ := slice_of how
    have HG2 := hid' (got_of how)
    clear how
    have HB02 : Hid (Below w.heap.size w w2) := HB1.out.trans (HB2.out.mono HB1.out.size)
    go_wp2_with fail
    refine (tell_nil w2).mono ?_
    rintro ev w3 ⟨rfl, hb3⟩
    have HB3 : Hid _ := hb3
    clear hb3
    have HR3 : Hid (Room w3 g zs) := (HR1.out.below HB2.out).below HB3.out
    have HB03 : Hid (Below w.heap.size w w3) := HB02.out.trans (HB3.out.mono HB02.out.size)
    have HG3 := hid' (HG2.out.frame (fun k _ hk => HB3.out.block k hk) HB3.out.size)
    go_wp2_with fail
    refine (still_keep a cap g zs w3 (by omega) hz HR3.out (fun h0 => by obtain ⟨b, off, e1, e2, e3⟩ := HCC.out w3 HB03.out h0; exact ⟨b, off, e1, by rw [HGG.out]; exact e2, e3⟩)).mono ?_
    rintro ev w4 ⟨rfl, hg4⟩
    have HB04 : Hid (Below w.heap.size w w4) := HB03.out.grown hg4 (HB03.out.size) (fun k hk => by have := HGG.out; simp at hk; omega)
    have HG4 := hid' (HG3.out.frame (fun k hk1 hk2 => hg4.block k hk2 (fun e => by have := HR1.out.lt; simp at e; omega)) hg4.size)
    clear hg4
    go_wp2_with fail
    refine (ref_any a cap zs most w4 hz (by omega) hm (fun h0 => by obtain ⟨b, off, e1, e2, e3⟩ := HCC.out w4 HB04.out h0; exact ⟨b, off, e1, Nat.lt_of_lt_of_le e2 HB04.out.size, e3⟩)).mono ?_
    rintro ev w5 ⟨hb5, hm5⟩
    rw [← HRR.out, hr] at hm5
    obtain ⟨_, hol, v', rfl, how'⟩ := hm5
    obtain ⟨av', cv', rfl⟩ := slice_of how'
    have HG5' := hid' (got_of how')
    have HG5 := hid' (HG4.out.frame (fun k _ hk => hb5.block k hk) hb5.size)
    have HB05 : Hid (Below w.heap.size w w5) := HB04.out.trans (hb5.mono HB04.out.size)
    clear hb5 how'
    go_wp2_with fail
    refine (same_any av av' cv cv' out w5 hol (fun h0 => by obtain ⟨g1, e1, _, _, e4⟩ := HG5.out.at_ h0; exact ⟨g1, 0, e1, e4⟩) (fun h0 => by obtain ⟨g1, e1, _, _, e4⟩ := HG5'.out.at_ h0; exact ⟨g1, 0, e1, e4⟩)).mono ?_
    rintro ev w6 ⟨rfl, q6, rfl⟩
    have HB06 : Hid (Below w.heap.size w (w5.drewN q6)) := ⟨HB05.out.os, HB05.out.tape, HB05.out.output, HB05.out.size, HB05.out.block⟩
    go_wp2
    go_ret
    exact ⟨rfl, HB06.out⟩
end Go.Proofs.YtbiibhpknflagaaDoor
/- THE LAW 'DeflateReads': its row, its card. -/
namespace Go.Proofs.YtbiibhpknflagaaDoor.Reads
open Go.ChangeShapes Go.WideShapes Go.ChangeAt Go.RowKit Plain

theorem own : ownKnob Tryd.prog.godebug = none := by kernel_rfl
theorem laidOut : laidOutB Tryd.prog = true := by kernel_rfl
theorem et : Tryd.prog.globalNamed "errors.errorType" = some 1 := by kernel_rfl
theorem g2 : Tryd.prog.globalNamed "gitlike/deflate.lengthStart" = some 2 := by kernel_rfl
theorem g3 : Tryd.prog.globalNamed "gitlike/deflate.lengthBits" = some 3 := by kernel_rfl
theorem g4 : Tryd.prog.globalNamed "gitlike/deflate.distanceStart" = some 4 := by kernel_rfl
theorem g5 : Tryd.prog.globalNamed "gitlike/deflate.distanceBits" = some 5 := by kernel_rfl
theorem g6 : Tryd.prog.globalNamed "gitlike/deflate.thirdOrder" = some 6 := by kernel_rfl
theorem t2 : (Tryd.prog.globals[2]?).map (·.type) = some 114 := by kernel_rfl
theorem t3 : (Tryd.prog.globals[3]?).map (·.type) = some 114 := by kernel_rfl
theorem t4 : (Tryd.prog.globals[4]?).map (·.type) = some 115 := by kernel_rfl
theorem t5 : (Tryd.prog.globals[5]?).map (·.type) = some 115 := by kernel_rfl
theorem t6 : (Tryd.prog.globals[6]?).map (·.type) = some 124 := by kernel_rfl
theorem u114 : Tryd.prog.underlying 114 = some (.array 29 3) := by kernel_rfl
theorem u115 : Tryd.prog.underlying 115 = some (.array 30 3) := by kernel_rfl
theorem u124 : Tryd.prog.underlying 124 = some (.array 19 3) := by kernel_rfl
theorem u3 : Tryd.prog.underlying 3 = some (.int .i64) := by kernel_rfl
theorem c3 : Tryd.prog.cellsOf 3 = 1 := by kernel_rfl
theorem c114 : Tryd.prog.cellsOf 114 = 29 := by kernel_rfl
theorem c115 : Tryd.prog.cellsOf 115 = 30 := by kernel_rfl
theorem c124 : Tryd.prog.cellsOf 124 = 19 := by kernel_rfl
theorem rt : (Tryd.prog.cutTypes.find? (·.1 == "internal/reflectlite.rtype")).map (·.2) = some 93 := by kernel_rfl
theorem oneRow : ((List.range 160).filter fun t => Tryd.prog.rowNamed t [101, 114, 114, 111, 114]) = [29] := by kernel_rfl
theorem tsize : Tryd.prog.types.size = 160 := by kernel_rfl

def zOf (l : List Nat) : List Int := l.map fun (n : Nat) => (n : Int)
theorem zOf_len (l : List Nat) : (zOf l).length = l.length := by simp [zOf]
theorem zOf_get (l : List Nat) (i : Nat) : (zOf l).getD i 0 = ((l.getD i 0 : Nat) : Int) := by
  unfold zOf
  rw [List.getD_eq_getElem?_getD, List.getElem?_map, List.getD_eq_getElem?_getD]
  cases l[i]? <;> rfl
theorem laidMet_tail {P : Program} {W : World} {n : String} {d : DataW Unit} {r : List (String × DataW Unit)} (h : laidMet P ((n, d) :: r) W) : laidMet P r W := by
  obtain ⟨ps, ⟨g, t, cs, fuel, p, q, _, _, _, _, hq, rfl⟩, hn, hall⟩ := h
  exact ⟨q, hq, (List.nodup_append.1 hn).2.1, fun b off hb => hall b off (List.mem_append.2 (.inr hb))⟩
def dataRows : List (String × DataW Unit) := [("gitlike/deflate.lengthStart", Lib.tabData .i64 (zOf lenStart)), ("gitlike/deflate.lengthBits", Lib.tabData .i64 (zOf lenBits)), ("gitlike/deflate.distanceStart", Lib.tabData .i64 (zOf distStart)), ("gitlike/deflate.distanceBits", Lib.tabData .i64 (zOf distBits)), ("gitlike/deflate.thirdOrder", Lib.tabData .i64 (zOf third))]
def handleRows : List (String × DataW Unit) := [("errors.errorType", Rows.laid_errors_errorType)]
theorem parts_of {W : World} (h : laidMetH Tryd.prog Rows.deflateReadsRow.laid W) : laidMet Tryd.prog dataRows W ∧ handlesMet Tryd.prog handleRows W := h
theorem handle_of_laid {W : World} (h : laidMetH Tryd.prog Rows.deflateReadsRow.laid W) : W.cell? ⟨1, 0, none⟩ = some (.iface 93 (.agg #[.pointer (some ⟨7, 29, none⟩)])) := by
  obtain ⟨name, u, ty, e1, e2, e3, e4, e5⟩ := (parts_of h).2 _ (List.mem_singleton.2 rfl)
  have en : name = [101, 114, 114, 111, 114] := (Option.some.inj e1).symm
  subst en
  obtain rfl := Option.some.inj (rt.symm.trans e2)
  have hm : ty ∈ (List.range 160).filter fun t => Tryd.prog.rowNamed t [101, 114, 114, 111, 114] := List.mem_filter.2 ⟨List.mem_range.2 (by rw [← tsize]; exact e3), e4⟩
  rw [oneRow] at hm
  obtain rfl := List.mem_singleton.1 hm
  have hh : typeHandle Tryd.prog 29 = .pointer (some ⟨7, 29, none⟩) := by kernel_rfl
  rw [hh] at e5
  simpa using World.var?_cell et e5 0
theorem cell_lt {w : World} {a : Addr} {v : Value} (h : w.cell? a = some v) : a.block < w.heap.size := by
  rcases Nat.lt_or_ge a.block w.heap.size with h' | h'
  · exact h'
  · simp [World.cell?, Array.getElem?_eq_none h'] at h
theorem tabs_of_laid {W : World} (h : laidMetH Tryd.prog Rows.deflateReadsRow.laid W) : TabsW W := by
  have h2 := (parts_of h).1
  have h3 := laidMet_tail h2
  have h4 := laidMet_tail h3
  have h5 := laidMet_tail h4
  have h6 := laidMet_tail h5
  have k2 := Lib.tabIs_of_head g2 t2 u114 u3 c3 c114 h2
  have k3 := Lib.tabIs_of_head g3 t3 u114 u3 c3 c114 h3
  have k4 := Lib.tabIs_of_head g4 t4 u115 u3 c3 c115 h4
  have k5 := Lib.tabIs_of_head g5 t5 u115 u3 c3 c115 h5
  have k6 := Lib.tabIs_of_head g6 t6 u124 u3 c3 c124 h6
  refine ⟨fun i hi => ?_, fun i hi => ?_, fun i hi => ?_, fun i hi => ?_, fun i hi => ?_, cell_lt (k6.cell g6 0 (by rw [zOf_len]; decide))⟩
  · rw [← zOf_get]; exact k2.cell g2 i (by rw [zOf_len]; exact hi)
  · rw [← zOf_get]; exact k3.cell g3 i (by rw [zOf_len]; exact hi)
  · rw [← zOf_get]; exact k4.cell g4 i (by rw [zOf_len]; exact hi)
  · rw [← zOf_get]; exact k5.cell g5 i (by rw [zOf_len]; exact hi)
  · rw [← zOf_get]; exact k6.cell g6 i (by rw [zOf_len]; exact hi)
def IsRow (k : IntKind) (w : World) (a : Option Addr) (len cap : Nat) (zs : List Int) : Prop :=
  (a = none ∧ len = 0 ∧ cap = 0 ∧ zs = []) ∨
  ∃ x, a = some x ∧ len ≤ cap ∧ cap ≤ maxLen ∧ zs.length = cap ∧ (∀ i, i < zs.length → w.cell? (x.add i) = some (.int k (zs.getD i 0))) ∧ ∀ n ∈ zs, (Lit.int k n).wf = true

set_option maxRecDepth 100000 in
theorem contract (H : Type) (enc : TypeId × Value → H) (W : World) (base : Nat) (args : Array Value) (ds gs : List (DataW H)) (before : List MemPlace)
    (hval : ∀ (j : Nat) t v, Tryd.f4.params[j]? = some t → args[j]? = some v → Value.okWide Tryd.prog W .any base t v)
    (hW : DataW.Whole enc Tryd.prog Tryd.f4.params.toList Rows.deflateReadsSpec.vars false W args.toList ds gs before) (hL : laidMetH Tryd.prog Rows.deflateReadsRow.laid W) :
    Calls Tryd.prog 4 args W fun e W' => ∃ v, e = .returned v ∧ Rows.deflateReadsSpec.post enc Tryd.prog Tryd.f4 false true false false W args v W' := by
  have hW' := hW
  obtain ⟨p, q, hA0, hV, rfl, hfz, hnd⟩ := hW
  have hA : DataW.TrodAll enc Tryd.prog W 0 (fun _ => true) true Tryd.f4.params.toList args.toList ds p := hA0
  rw [Tryd.params4] at hA hval
  obtain ⟨v0, vs0, d0, ds0, p0, q0, hargs, rfl, rfl, h0, r0⟩ := trodAll_cons hA
  obtain ⟨v1, vs1, d1, ds1, p1, q1, rfl, rfl, rfl, h1, r1⟩ := trodAll_cons r0
  obtain ⟨rfl, rfl, rfl⟩ := trodAll_nil r1
  obtain rfl : args = #[v0, v1] := by cases args; simp_all
  obtain ⟨rfl, rfl⟩ := trodVars_none hV
  obtain ⟨a0, len0, cap0, rfl⟩ := okWide_slice Tryd.underlying22 (hval 0 22 v0 rfl rfl)
  have k0 := h0
  have k1 := h1
  have lt0 : ∀ x ∈ p0, x.block < W.heap.size := by obtain ⟨m, hm⟩ := k0; exact DataW.trod_lt m _ _ _ hm
  have lt1 : ∀ x ∈ p1, x.block < W.heap.size := by obtain ⟨m, hm⟩ := k1; exact DataW.trod_lt m _ _ _ hm
  obtain ⟨z0, w0⟩ : ∃ zs, IsRow .u8 W a0 len0 cap0 zs := by
    obtain ⟨fuel, hf⟩ := h0
    rcases open_ints Tryd.underlying22 Tryd.underlying5 (by kernel_rfl) hf with ⟨hcs, _⟩ | ⟨x, l, c, zs, hcs, _, hl, hm, hz, _, hcell, hwz⟩
    · simp [Value.cells] at hcs
      obtain ⟨rfl, rfl, rfl⟩ := hcs
      exact ⟨[], .inl ⟨rfl, rfl, rfl, rfl⟩⟩
    · simp [Value.cells] at hcs
      obtain ⟨rfl, rfl, rfl⟩ := hcs
      exact ⟨zs, .inr ⟨_, rfl, hl, hm, by simpa using hz, hcell, hwz⟩⟩
  obtain ⟨most, rfl⟩ := okWide_int u3 (hval 1 3 v1 rfl rfl)
  clear hA0
  have hg := handle_of_laid hL
  have ht := tabs_of_laid hL
  have walk : Calls Tryd.prog 4 #[.slice a0 len0 cap0, .int .i64 most] W fun e w' => e = .returned (.bool true) ∧ Below W.heap.size W w' := by
    by_cases hml : most ≤ 300000
    · rcases w0 with ⟨rfl, rfl, rfl, rfl⟩ | ⟨x, rfl, hl, hm, hz, hcell, hwz⟩
      · exact walkR_short none 0 [] most W (by simp) hml (by simp [IsB]) (by simp) ht hg
      · by_cases hlong : 5000 < len0
        · exact walkR_long _ len0 cap0 most W (.inl hlong) (by omega)
        · have hlen : (z0.take len0).length = len0 := by simp; omega
          rw [← hlen]
          refine walkR_short _ _ (z0.take len0) most W (by omega) hml ?_ ?_ ht hg
          · intro n hn
            exact bounds_u8 (hwz n (List.mem_of_mem_take hn))
          · intro hpos
            obtain ⟨b, off, spot⟩ := x
            have hc := hcell 0 (by omega)
            have hspot : spot = none := by simpa [Addr.add] using World.cell?_spot hc
            subst hspot
            refine ⟨b, off, rfl, ?_, fun i hi => ?_⟩
            · exact cell_lt hc
            · have := hcell i (by omega)
              rw [addr_add] at this
              rw [this]
              simp [show i < len0 by omega]
    · have hm0 : len0 ≤ maxLen := by
        rcases w0 with ⟨_, rfl, _, _⟩ | ⟨x, _, hl, hm, _⟩
        · unfold maxLen; omega
        · omega
      exact walkR_long a0 len0 cap0 most W (.inr (by omega)) hm0
  refine walk.mono fun e W' ⟨he, bel⟩ => ?_
  subst he
  exact ⟨_, rfl, _, _, _, [], _, [], hW', trodAll_mk1 (shut_bool Tryd.underlying4 _), (trodAll_cons_mk (Below.trod laidOut (by kernel_rfl) (of_decide_eq_true (by kernel_rfl)) k0 bel lt0) (trodAll_cons_mk (Below.trod laidOut (by kernel_rfl) (of_decide_eq_true (by kernel_rfl)) k1 bel lt1) trodAll_mk0)), rfl, bel.frame _, fun h => by cases h⟩

/-- A block's cells, laid anew. -/
def relay (cs : Array Value) : Obj → Obj
  | .cells _ t frozen => .cells cs t frozen
  | o => o
/-- A WORLD FOR THE WITNESS: the variables' cells hold what their initialisers lay. -/
def layIn (w : World) : World :=
  { w with heap := (((((w.heap.modify 1 (relay #[.iface 93 (.agg #[.pointer (some ⟨7, 29, none⟩)])])).modify 2 (relay (arr lenStart).toArray)).modify 3 (relay (arr lenBits).toArray)).modify 4 (relay (arr distStart).toArray)).modify 5 (relay (arr distBits).toArray)).modify 6 (relay (arr third).toArray) }
def wit : Array Value := #[.slice none 0 0, .int .i64 0]
theorem laid_met (os : Os) : laidMetH Tryd.prog Rows.deflateReadsRow.laid ((layIn (World.holding Tryd.prog os ⟨#[], #[], []⟩)).forCall (fun _ _ => 0) ⟨#[], wit, []⟩).memory :=
  laidMetH_of_parts (laidMet_of_run' 8 (by kernel_rfl) (by kernel_rfl)) (by kernel_rfl)
theorem reads (os : Os) {H : Type} (enc : TypeId × Value → H) : ∃ ds places, DataW.whole enc Tryd.prog ((layIn (World.holding Tryd.prog os ⟨#[], #[], []⟩)).forCall (fun _ _ => 0) ⟨#[], wit, []⟩).memory Tryd.f4.params.toList Rows.deflateReadsSpec.vars false wit.toList 8 = some (ds, [], places) :=
  ⟨[.nil, .lit (.int .i64 0)], [], by kernel_rfl⟩

set_option maxRecDepth 100000 in
theorem lifted (os : Os) (started : os.Started) (H : Type) (enc : TypeId × Value → H) (F : Stop.Interp) :
    ReturnsInHanded {} Tryd.checked os 4 .any ((OpenSpec.ofChange Rows.deflateReadsSpec).preRow enc Tryd.prog Tryd.f4 Rows.deflateReadsRow.domain false Rows.deflateReadsRow.laid) (((OpenSpec.ofChange Rows.deflateReadsSpec).at F).post enc Tryd.prog Tryd.f4 false true false false) := by
  obtain ⟨ds, places, hx⟩ := reads os enc
  refine returnsInHanded_of_row (C := Tryd.checked) (s := OpenSpec.ofChange Rows.deflateReadsSpec) own started (by kernel_rfl) Tryd.func4
    (witness_row_at (enc := enc) (C := Tryd.checked) false (layIn (World.holding Tryd.prog os ⟨#[], #[], []⟩)) wit rfl (by kernel_rfl) (by kernel_rfl) (by kernel_rfl)
      (OpenSpec.preRow_of_cond 8 hx (by kernel_rfl) (fun k hk => by cases hk) (by kernel_rfl) (laid_met os))) ?_
  intro W base args ds gs before hval hW _ _ _ hL _ _
  exact contract H enc W base args ds gs before hval hW hL

theorem said : Rows.DeflateReadsSaid :=
  OpenClaim.holds_of_cond 4 Tryd.f4 rfl rfl rfl rfl rfl rfl rfl ⟨rfl, rfl, rfl, rfl, rfl⟩ rfl rfl rfl rfl rfl (by kernel_rfl) Tryd.func4 (by kernel_rfl)
    (of_decide_eq_true (by kernel_rfl)) (by unfold Func.isWrapper; first | (rw [if_pos (by decide +kernel)]; kernel_rfl) | (rw [if_neg (by decide +kernel)]; exact ⟨rfl, rfl⟩))
    (fun os started H enc _ F => by rw [OpenClaim.pre_eq_preRow]; exact lifted os started H enc F)

theorem plain (f : FuncId) (fn : Func) (hf : Tryd.pinned.checked.prog.funcNamed "gitlike/gitlikelaw1.DeflateReads" = some f) (hfn : Tryd.pinned.checked.prog.funcs[f]? = some fn) :
    true = Tryd.pinned.checked.prog.looks [] ∧ ∀ (j : Nat) t, fn.params[j]? = some t → Tryd.pinned.checked.prog.wantsStandIn t = false := by
  obtain rfl : f = 4 := Option.some.inj ((show Tryd.prog.funcNamed "gitlike/gitlikelaw1.DeflateReads" = some 4 by kernel_rfl).symm.trans hf) |>.symm
  obtain rfl : fn = Tryd.f4 := (Option.some.inj (Tryd.func4.symm.trans hfn)).symm
  refine ⟨by kernel_rfl, fun j t ht => ?_⟩
  rw [Tryd.params4] at ht
  have hm : t = 22 ∨ t = 3 := by simpa using Array.mem_of_getElem? ht
  rcases hm with rfl | rfl
  · exact (show Tryd.prog.wantsStandIn 22 = false by kernel_rfl)
  · exact (show Tryd.prog.wantsStandIn 3 = false by kernel_rfl)

end Go.Proofs.YtbiibhpknflagaaDoor.Reads
namespace Go.Proofs.YtbiibhpknflagaaDoor
/-- THE CARD -/
theorem deflateReads_card : Rows.DeflateReadsCardSaid :=
  Claim7.holds_tied_plain_at .later [] _ _ _ _ Reads.said (fun _ h => by cases h) (by kernel_rfl) (fun _ h => by cases h) deflateReads_row_tie rfl ⟨rfl, rfl⟩ (by kernel_rfl) rfl Reads.plain (by kernel_rfl)
#print axioms deflateReads_card
end Go.Proofs.YtbiibhpknflagaaDoor
/- The law 'DeflateRound': its walk. -/
namespace Go.Proofs.YtbiibhpknflagaaDoor
open Go.RowKit Plain
set_option linter.unusedVariables false
set_option linter.unusedSimpArgs false

theorem wpList_append_run {P : Program} {w : World} {ops : Array Oper} {rest : List Oper} {o : Oper} {a : Act} {Q : Exit → Act → World → Prop} (hgd : o.guard = none) (s x : Operand) (t : TypeId)
    (ho : o.op = .call { callee := .builtin .append, args := #[s, x], argTypes := #[t, t] }) (sv xv v : Value) (w2 : World) (hs : a.eval s = sv) (hx : a.eval x = xv) (hrun : (Builtin.append_ #[t, t] o.type #[sv, xv]).run P w = .ok v w2) (h : wpList P ops Q rest (a.put o.dst v) w2) :
    wpList P ops Q (o :: rest) a w :=
  wpList_plain hgd fun K hK => by
    unfold Oper.wp execOp
    simp only [ho, resolve, invoke, builtin, Sem.run_bind, Sem.run_pure, Result.andThen_ok, List.map_toArray, List.map_cons, List.map_nil, hs, hx, hrun]
    exact hK _ _ h
theorem append_more (ao : Option Addr) (n cp : Nat) (ls : List Int) (A : Option Addr) (C : Nat) (Z : List Int) (w : World) (B : Nat) (hB : B ≤ w.heap.size) (hown : w.ownsRow B 5 1 (.slice ao n cp) n (ls.map (Value.int .u8))) (hl : n + Z.length ≤ 700000) (hnil : A = none → C = 0) (hc : 0 < Z.length → ∃ b off, A = some ⟨b, off, none⟩ ∧ At w b off Z) :
    ∃ w1 ao2 cp2, (Builtin.append_ #[22, 22] 22 #[.slice ao n cp, .slice A Z.length C]).run Tryd.prog w = .ok (.slice ao2 (n + Z.length : Nat) cp2) w1 ∧ w1.ownsRow B 5 1 (.slice ao2 (n + Z.length : Nat) cp2) (n + Z.length) ((ls ++ Z).map (Value.int .u8)) ∧ w.grownBy w1 (Value.slice ao n cp).ownBlock := by
  obtain ⟨i5, hi, hz0, hz1, hz2⟩ := info_parts Tryd.info5
  cases A with
  | none =>
    have h0 : Z.length = 0 := by
      rcases Nat.eq_zero_or_pos Z.length with h | h
      · exact h
      · obtain ⟨b, off, h1, -⟩ := hc h; cases h1
    obtain rfl : Z = [] := List.eq_nil_of_length_eq_zero h0
    have hC := hnil rfl
    subst hC
    have hr := run_append_owned_none (P := Tryd.prog) w B 22 22 5 i5 1 Tryd.underlying22 hi (.slice ao n cp) n (ls.map (Value.int .u8)) hown
    exact ⟨w, ao, cp, hr, by rw [List.append_nil]; exact hown, World.grownBy.refl _ _⟩
  | some ad =>
    obtain ⟨v', w', hr, h2, h3, -, -⟩ := run_append_own_at (P := Tryd.prog) w B 22 22 5 i5 (.int .u8 0) 1 1 Tryd.underlying22 hi hz0 hz1 hz2 rfl (by omega) (.slice ao n cp) n (ls.map (Value.int .u8)) hown ad Z.length C (Z.map (Value.int .u8)) (by simp)
      (fun j u hj => by
        have hjm : j < Z.length := by
          rcases Nat.lt_or_ge j Z.length with h | h
          · exact h
          · rw [List.getElem?_eq_none (by simpa using h)] at hj; cases hj
        obtain ⟨b, off, h1, hat⟩ := hc (by omega)
        cases h1
        rw [List.getElem?_map, List.getElem?_eq_getElem hjm] at hj
        cases hj
        have := hat j hjm
        rw [List.getD_eq_getElem?_getD, List.getElem?_eq_getElem hjm] at this
        have hadd : (⟨b, off, none⟩ : Addr).add j = ⟨b, off + j, none⟩ := by unfold Addr.add; split <;> simp_all
        rw [hadd]; exact this) (u8_one _) (by unfold maxLen; omega) (by omega) hB
    rw [← List.map_append] at h2
    obtain ⟨ao2, cp2, rfl⟩ := owns_shape h2
    exact ⟨w', ao2, cp2, hr, h2, h3⟩
theorem Defl.pos {zs z : List Int} (h : Defl zs z) : 0 < z.length := by
  rcases Nat.eq_zero_or_pos z.length with h0 | h0
  · obtain rfl : z = [] := List.eq_nil_of_length_eq_zero h0
    have := h.rd [] zs.length (by omega)
    rw [if_pos (Int.le_refl _)] at this
    cases this
  · exact h0
theorem TabsW.four {w : World} (h : TabsW w) : Tabs4 w := ⟨h.t2, h.t3, h.t4, h.t5, by have := h.lt; omega⟩
theorem owns_capZ {w : World} {B g n c : Nat} {xs : List Value} (h : w.ownsRow B 5 1 (.slice (some ⟨g, 0, none⟩) n c) n xs) : n ≤ c := by
  obtain ⟨_, ⟨h1, _⟩ | ⟨g', c', cur, hv, _, _, h5, _⟩⟩ := h
  · cases h1
  · simp only [Value.slice.injEq] at hv
    omega
theorem own_isAt {w : World} {B g c : Nat} {z : List Int} (h : w.ownsRow B 5 1 (.slice (some ⟨g, 0, none⟩) z.length c) z.length (z.map (Value.int .u8))) : At w g 0 z := fun i hi => by rw [Nat.zero_add]; exact own_at h rfl i hi
set_option maxRecDepth 20000 in
set_option maxHeartbeats 400000 in
theorem walkD_long (a1 a2 : Option Addr) (len1 cap1 len2 cap2 : Nat) (w : World) (h : 300000 < len1 + len2) (hm1 : len1 ≤ 200000000000000) (hm2 : len2 ≤ 200000000000000) :
    Calls Tryd.prog 5 #[.slice a1 len1 cap1, .slice a2 len2 cap2] w fun e w' => e = .returned (.bool true) ∧ Below w.heap.size w w' := by
  have h2 : (300000 : Int) < (len1 : Int) + len2 := by omega
  go_enter Tryd.func5, Tryd.ntmps5
  go_wp2
  go_ret
  exact ⟨rfl, Below.refl _ _⟩
set_option maxRecDepth 20000 in
set_option maxHeartbeats 4000000 in
theorem walkD_short (a1 a2 : Option Addr) (cap1 cap2 : Nat) (zs ms : List Int) (w : World) (hl : zs.length + ms.length ≤ 300000) (hz : IsB zs) (hmB : IsB ms) (hc1 : 0 < zs.length → ∃ b off, a1 = some ⟨b, off, none⟩ ∧ b < w.heap.size ∧ At w b off zs) (hc2 : 0 < ms.length → ∃ b off, a2 = some ⟨b, off, none⟩ ∧ b < w.heap.size ∧ At w b off ms) (hnil : a2 = none → cap2 = 0) (ht : TabsW w)
    (hg : w.cell? ⟨1, 0, none⟩ = some (.iface 93 (.agg #[.pointer (some ⟨7, 29, none⟩)]))) :
    Calls Tryd.prog 5 #[.slice a1 zs.length cap1, .slice a2 ms.length cap2] w fun e w' => e = .returned (.bool true) ∧ Below w.heap.size w w' := by
  have h1 : ¬ (300000 : Int) < (zs.length : Int) + ms.length := by omega
  have HT : Hid (TabsW w) := ht
  have HC1 : Hid (∀ w', Below w.heap.size w w' → 0 < zs.length → ∃ b off, a1 = some ⟨b, off, none⟩ ∧ b < w.heap.size ∧ At w' b off zs) := fun w' hb h0 => by
    obtain ⟨b, off, e1, e2, e3⟩ := hc1 h0
    exact ⟨b, off, e1, e2, fun i hi => (hb.cell (p := ⟨b, off + i, none⟩) e2).trans (e3 i hi)⟩
  have HC2 : Hid (∀ w', Below w.heap.size w w' → 0 < ms.length → ∃ b off, a2 = some ⟨b, off, none⟩ ∧ b < w.heap.size ∧ At w' b off ms) := fun w' hb h0 => by
    obtain ⟨b, off, e1, e2, e3⟩ := hc2 h0
    exact ⟨b, off, e1, e2, fun i hi => (hb.cell (p := ⟨b, off + i, none⟩) e2).trans (e3 i hi)⟩
  have HG : Hid _ := hg
  have HLT : Hid (1 < w.heap.size) := by show _ < _; have := ht.lt; omega
  have HNIL : Hid _ := hnil
  have RO := roomy_any a1 cap1 zs w (by omega) hc1
  clear ht hc1 hc2 hg hnil
  go_enter Tryd.func5, Tryd.ntmps5
  go_wp2_with fail
  refine RO.mono ?_
  rintro ev w1 ⟨rfl, hb1, hr1⟩
  have HB1 : Hid _ := hb1
  have HR1 : Hid _ := hr1
  clear hb1 hr1
  obtain ⟨g, HGG⟩ : ∃ g, Hid (g = w.heap.size) := ⟨_, rfl⟩
  rw [← HGG.out] at HR1 ⊢
  have hgl := HR1.out.lt
  go_wp2_with fail
  refine (deflate_f g 0 (zs.length + 2) zs w1 hz (fun i hi => by rw [Nat.zero_add]; exact HR1.out.cell i hi) HR1.out.lt (by omega) (by omega) (HT.out.below HB1.out).four).mono ?_
  rintro ev w2 ⟨v, rfl, z, hD, hS2⟩
  have HD : Hid _ := hD
  have hzp := hD.pos
  have hzl : z.length ≤ 350000 := by have := hD.len; omega
  have hbd : (z.length : Int) ≤ (zs.length : Int) + 11 + 5 * ((zs.length : Int) / 65535 + 1) := by have := hD.len; omega
  obtain ⟨gz, cz, rfl, hgz1, hgz2⟩ := hS2.owns.form hzp
  have HO2 : Hid (w2.ownsRow w1.heap.size 5 1 (.slice (some ⟨gz, 0, none⟩) z.length cz) z.length (z.map (Value.int .u8))) := hS2.owns
  have HB2 : Hid _ := hS2.below
  clear hS2 hD
  have HB02 : Hid (Below w.heap.size w w2) := HB1.out.trans (HB2.out.mono HB1.out.size)
  have HR2 : Hid (Room w2 g zs) := HR1.out.below HB2.out
  go_wp2_with fail
  refine (still_keep a1 cap1 g zs w2 (by omega) hz HR2.out (fun h0 => by obtain ⟨b, off, e1, e2, e3⟩ := HC1.out w2 HB02.out h0; exact ⟨b, off, e1, by rw [HGG.out]; exact e2, e3⟩)).mono ?_
  rintro ev w3 ⟨rfl, hg3⟩
  have HB03 : Hid (Below w.heap.size w w3) := HB02.out.grown hg3 (HB02.out.size) (fun k hk => by have := HGG.out; simp at hk; omega)
  have HO3 : Hid (w3.ownsRow w1.heap.size 5 1 (.slice (some ⟨gz, 0, none⟩) z.length cz) z.length (z.map (Value.int .u8))) := HO2.out.kept hg3 (.inr (by simp [Value.ownBlock]; omega))
  have hgz3 : gz < w3.heap.size := by have := hg3.size; omega
  clear hg3 HO2 HB2
  have HIZ : Hid (inflOf z (max (zs.length : Int) 0) = .ok (z.length, zs)) := by
    show _ = _
    have := HD.out.rd [] zs.length (by omega)
    rw [List.append_nil, if_pos (Int.le_refl _)] at this
    rw [show max (zs.length : Int) 0 = zs.length by omega]
    exact this
  have HIM : Hid (inflOf (z ++ ms) (max (zs.length : Int) 0) = .ok (z.length, zs)) := by
    show _ = _
    have := HD.out.rd ms zs.length (by omega)
    rw [if_pos (Int.le_refl _)] at this
    rw [show max (zs.length : Int) 0 = zs.length by omega]
    exact this
  have HIL : Hid (0 < zs.length → inflOf z (max ((zs.length : Int) - 1) 0) = .error 11) := fun h0 => by
    have := HD.out.rd [] ((zs.length : Int) - 1) (by omega)
    rw [List.append_nil, if_neg (by omega)] at this
    rw [show max ((zs.length : Int) - 1) 0 = (zs.length : Int) - 1 by omega]
    exact this
  have hcc : (zs.length < 3000 ∧ (zs.length : Int) < 3000) ∨ (¬ zs.length < 3000 ∧ ¬ (zs.length : Int) < 3000) := by omega
  have hA : ∀ W : World, Below w.heap.size w W → 0 < zs.length → ∃ b off, a1 = some ⟨b, off, none⟩ ∧ At W b off zs := fun W hb h0 => by obtain ⟨b, off, e1, e2, e3⟩ := HC1.out W hb h0; exact ⟨b, off, e1, e3⟩
  have HA : Hid _ := hA
  clear hA
  have KEY : ∀ (W : World), Hid (Below w.heap.size w W) → Hid (W.ownsRow w1.heap.size 5 1 (.slice (some ⟨gz, 0, none⟩) z.length cz) z.length (z.map (Value.int .u8))) → Hid (gz < W.heap.size) → ∃ w7 ao6 cp6 w6 ga cp7, (Builtin.append_ #[22, 22] 22 #[.slice none 0 0, .slice (some ⟨gz, 0, none⟩) z.length cz]).run Tryd.prog W = .ok (.slice ao6 (z.length : Nat) cp6) w6 ∧ (Builtin.append_ #[22, 22] 22 #[.slice ao6 z.length cp6, .slice a2 ms.length cap2]).run Tryd.prog w6 = .ok (.slice (some ⟨ga, 0, none⟩) (z.length + ms.length : Nat) cp7) w7 ∧ Below W.heap.size W w7 ∧ w7.ownsRow W.heap.size 5 1 (.slice (some ⟨ga, 0, none⟩) (z.length + ms.length) cp7) (z.length + ms.length) ((z ++ ms).map (Value.int .u8)) ∧ ga < w7.heap.size := by
    intro W hB hO hG
    obtain ⟨w6, ao6, cp6, hrun6, hown6, hgr6⟩ := append_more none 0 0 [] (some ⟨gz, 0, none⟩) cz z W W.heap.size (Nat.le_refl _) (World.ownsRow_nil W W.heap.size 5 1) (by omega) (fun h => by cases h) (fun _ => ⟨gz, 0, rfl, own_isAt hO.out⟩)
    rw [Nat.zero_add] at hrun6 hown6
    rw [List.nil_append] at hown6
    have hB6 : Below W.heap.size W w6 := (Below.refl _ W).grown hgr6 (Nat.le_refl _) (fun k hk => by simp [Value.ownBlock] at hk)
    have hB06 : Below w.heap.size w w6 := hB.out.trans (hB6.mono hB.out.size)
    obtain ⟨w7, ao7, cp7, hrun7, hown7, hgr7⟩ := append_more ao6 z.length cp6 z a2 cap2 ms w6 W.heap.size hB6.size hown6 (by omega) HNIL.out (fun h => by obtain ⟨b, off, e1, e2, e3⟩ := HC2.out w6 hB06 h; exact ⟨b, off, e1, e3⟩)
    have hB7 : Below W.heap.size W w7 := hB6.grown hgr7 hB6.size (fun k hk => (owns_lt hown6 k hk).1)
    obtain ⟨ga, c', hv, h1, h2⟩ := hown7.form (by omega)
    simp only [Value.slice.injEq] at hv
    obtain ⟨rfl, _, rfl⟩ := hv
    exact ⟨w7, ao6, cp6, w6, ga, cp7, hrun6, hrun7, hB7, hown7, h2⟩
  rcases hcc with ⟨h3, h3Z⟩ | ⟨h3, h3Z⟩
  · go_wp2_with fail
    refine (ref_any (some ⟨gz, 0, none⟩) cz z zs.length w3 HD.out.isB (by have := HD.out.len; omega) (by omega) (fun _ => ⟨gz, 0, rfl, hgz3, own_isAt HO3.out⟩)).mono ?_
    rintro ev w4 ⟨hb4, hm4⟩
    rw [HIZ.out] at hm4
    obtain ⟨_, hol, v', rfl, how⟩ := hm4
    obtain ⟨av, cv, rfl⟩ := slice_of how
    have HG4 := hid' (got_of how)
    have HB04 : Hid (Below w.heap.size w w4) := HB03.out.trans (hb4.mono HB03.out.size)
    have HO4 : Hid (w4.ownsRow w1.heap.size 5 1 (.slice (some ⟨gz, 0, none⟩) z.length cz) z.length (z.map (Value.int .u8))) := owns_bel HO3.out hb4
    have HGZ4 : Hid (gz < w4.heap.size) := Nat.lt_of_lt_of_le hgz3 hb4.size
    clear hb4 how
    go_wp2_with fail
    refine (same_any av a1 cv cap1 zs w4 (by omega) (fun h0 => by obtain ⟨g1, e1, _, _, e4⟩ := HG4.out.at_ h0; exact ⟨g1, 0, e1, e4⟩) (HA.out w4 HB04.out)).mono ?_
    rintro ev w5 ⟨rfl, q5, rfl⟩
    obtain ⟨w7, ao6, cp6, w6, ga, cp7, hrun6, hrun7, hB7, hO7, hga⟩ := KEY (w4.drewN q5) ⟨HB04.out.os, HB04.out.tape, HB04.out.output, HB04.out.size, HB04.out.block⟩ HO4.out HGZ4.out
    have HB7 : Hid (Below w4.heap.size w4 w7) := ⟨hB7.os, hB7.tape, hB7.output, hB7.size, hB7.block⟩
    have HO7 : Hid (w7.ownsRow _ 5 1 (.slice (some ⟨ga, 0, none⟩) (z.length + ms.length) cp7) (z.length + ms.length) ((z ++ ms).map (Value.int .u8))) := hO7
    clear hB7 hO7 KEY
    have HB07 : Hid (Below w.heap.size w w7) := HB04.out.trans (HB7.out.mono HB04.out.size)
    have IN := inflate_some ga 0 cp7 (z ++ ms) zs.length w7 (isB_app HD.out.isB hmB) (by rw [List.length_append]; omega) (by rw [List.length_append]; exact owns_capZ HO7.out) (by have h := HO7.out; rw [← List.length_append] at h; exact own_isAt h) hga (by omega) (HT.out.below HB07.out)
    rw [List.length_append, HIM.out] at IN
    have HZ7 : Hid (w7.ownsRow w1.heap.size 5 1 (.slice (some ⟨gz, 0, none⟩) z.length cz) z.length (z.map (Value.int .u8))) := owns_bel HO4.out HB7.out
    have HG7 : Hid (gz < w7.heap.size) := Nat.lt_of_lt_of_le HGZ4.out HB7.out.size
    go_wp2_with (first | (at_builtin; refine wpList_append_run rfl _ _ 22 rfl (.slice none 0 0) (.slice (some ⟨gz, 0, none⟩) z.length cz) _ _ rfl rfl hrun6 ?_; clear hrun6) | (at_builtin; refine wpList_append_run rfl _ _ 22 rfl (.slice ao6 z.length cp6) (.slice a2 ms.length cap2) _ _ rfl rfl hrun7 ?_; clear hrun7))
    refine IN.mono ?_
    clear IN
    rintro ev w8 ⟨hb8, hm8⟩
    obtain ⟨_, v8, rfl, how8⟩ := hm8
    obtain ⟨av8, cv8, rfl⟩ := slice_of how8
    have HG8 := hid' (got_of how8)
    have HB08 : Hid (Below w.heap.size w w8) := HB07.out.trans (hb8.mono HB07.out.size)
    have HZ8 : Hid (w8.ownsRow w1.heap.size 5 1 (.slice (some ⟨gz, 0, none⟩) z.length cz) z.length (z.map (Value.int .u8))) := owns_bel HZ7.out hb8
    have hgz8 : gz < w8.heap.size := Nat.lt_of_lt_of_le HG7.out hb8.size
    clear hb8 how8
    go_wp2_with fail
    refine (same_any av8 a1 cv8 cap1 zs w8 (by omega) (fun h0 => by obtain ⟨g1, e1, _, _, e4⟩ := HG8.out.at_ h0; exact ⟨g1, 0, e1, e4⟩) (HA.out w8 HB08.out)).mono ?_
    rintro ev w9 ⟨rfl, q9, rfl⟩
    go_wp2_with fail
    refine (tell_nil (w8.drewN q9)).mono ?_
    rintro ev w10 ⟨rfl, hb10⟩
    have HB10 : Hid (Below w8.heap.size w8 w10) := ⟨hb10.os, hb10.tape, hb10.output, hb10.size, hb10.block⟩
    have HB010 : Hid (Below w.heap.size w w10) := HB08.out.trans (HB10.out.mono HB08.out.size)
    have HZ10 : Hid (w10.ownsRow w1.heap.size 5 1 (.slice (some ⟨gz, 0, none⟩) z.length cz) z.length (z.map (Value.int .u8))) := owns_bel HZ8.out HB10.out
    have hgz10 : gz < w10.heap.size := Nat.lt_of_lt_of_le hgz8 HB10.out.size
    clear hb10
    by_cases h0 : zs.length = 0
    · have h0Z : (zs.length : Int) = 0 := by omega
      go_wp2
      go_ret
      exact ⟨rfl, HB010.out⟩
    · have h0Z : ¬ (zs.length : Int) = 0 := by omega
      have I2 := inflate_some gz 0 cz z ((zs.length : Int) - 1) w10 HD.out.isB (by omega) (owns_capZ HZ10.out) (own_isAt HZ10.out) hgz10 (by omega) (HT.out.below HB010.out)
      rw [HIL.out (by omega)] at I2
      go_wp2_with fail
      refine I2.mono ?_
      clear I2
      rintro ev w11 ⟨hb11, hm11⟩
      simp only [] at hm11
      subst hm11
      have HB011 : Hid (Below w.heap.size w w11) := HB010.out.trans (hb11.mono HB010.out.size)
      clear hb11
      go_wp2_with fail
      refine (tell_errno 11 w11 ((HB011.out.cell (p := ⟨1, 0, none⟩) HLT.out).trans HG.out)).mono ?_
      rintro ev w12 ⟨rfl, hb12⟩
      have HB012 : Hid (Below w.heap.size w w12) := HB011.out.trans (hb12.mono HB011.out.size)
      clear hb12
      go_wp2
      go_ret
      exact ⟨rfl, HB012.out⟩
  · obtain ⟨w7, ao6, cp6, w6, ga, cp7, hrun6, hrun7, hB7, hO7, hga⟩ := KEY w3 HB03.out HO3.out hgz3
    have HB7 : Hid (Below w3.heap.size w3 w7) := hB7
    have HO7 : Hid (w7.ownsRow _ 5 1 (.slice (some ⟨ga, 0, none⟩) (z.length + ms.length) cp7) (z.length + ms.length) ((z ++ ms).map (Value.int .u8))) := hO7
    clear hB7 hO7 KEY
    have HB07 : Hid (Below w.heap.size w w7) := HB03.out.trans (HB7.out.mono HB03.out.size)
    have IN := inflate_some ga 0 cp7 (z ++ ms) zs.length w7 (isB_app HD.out.isB hmB) (by rw [List.length_append]; omega) (by rw [List.length_append]; exact owns_capZ HO7.out) (by have h := HO7.out; rw [← List.length_append] at h; exact own_isAt h) hga (by omega) (HT.out.below HB07.out)
    rw [List.length_append, HIM.out] at IN
    have HZ7 : Hid (w7.ownsRow w1.heap.size 5 1 (.slice (some ⟨gz, 0, none⟩) z.length cz) z.length (z.map (Value.int .u8))) := owns_bel HO3.out HB7.out
    have HG7 : Hid (gz < w7.heap.size) := Nat.lt_of_lt_of_le hgz3 HB7.out.size
    go_wp2_with (first | (at_builtin; refine wpList_append_run rfl _ _ 22 rfl (.slice none 0 0) (.slice (some ⟨gz, 0, none⟩) z.length cz) _ _ rfl rfl hrun6 ?_; clear hrun6) | (at_builtin; refine wpList_append_run rfl _ _ 22 rfl (.slice ao6 z.length cp6) (.slice a2 ms.length cap2) _ _ rfl rfl hrun7 ?_; clear hrun7))
    refine IN.mono ?_
    clear IN
    rintro ev w8 ⟨hb8, hm8⟩
    obtain ⟨_, v8, rfl, how8⟩ := hm8
    obtain ⟨av8, cv8, rfl⟩ := slice_of how8
    have HG8 := hid' (got_of how8)
    have HB08 : Hid (Below w.heap.size w w8) := HB07.out.trans (hb8.mono HB07.out.size)
    have HZ8 : Hid (w8.ownsRow w1.heap.size 5 1 (.slice (some ⟨gz, 0, none⟩) z.length cz) z.length (z.map (Value.int .u8))) := owns_bel HZ7.out hb8
    have hgz8 : gz < w8.heap.size := Nat.lt_of_lt_of_le HG7.out hb8.size
    clear hb8 how8
    go_wp2_with fail
    refine (same_any av8 a1 cv8 cap1 zs w8 (by omega) (fun h0 => by obtain ⟨g1, e1, _, _, e4⟩ := HG8.out.at_ h0; exact ⟨g1, 0, e1, e4⟩) (HA.out w8 HB08.out)).mono ?_
    rintro ev w9 ⟨rfl, q9, rfl⟩
    go_wp2_with fail
    refine (tell_nil (w8.drewN q9)).mono ?_
    rintro ev w10 ⟨rfl, hb10⟩
    have HB10 : Hid (Below w8.heap.size w8 w10) := ⟨hb10.os, hb10.tape, hb10.output, hb10.size, hb10.block⟩
    have HB010 : Hid (Below w.heap.size w w10) := HB08.out.trans (HB10.out.mono HB08.out.size)
    have HZ10 : Hid (w10.ownsRow w1.heap.size 5 1 (.slice (some ⟨gz, 0, none⟩) z.length cz) z.length (z.map (Value.int .u8))) := owns_bel HZ8.out HB10.out
    have hgz10 : gz < w10.heap.size := Nat.lt_of_lt_of_le hgz8 HB10.out.size
    clear hb10
    by_cases h0 : zs.length = 0
    · have h0Z : (zs.length : Int) = 0 := by omega
      go_wp2
      go_ret
      exact ⟨rfl, HB010.out⟩
    · have h0Z : ¬ (zs.length : Int) = 0 := by omega
      have I2 := inflate_some gz 0 cz z ((zs.length : Int) - 1) w10 HD.out.isB (by omega) (owns_capZ HZ10.out) (own_isAt HZ10.out) hgz10 (by omega) (HT.out.below HB010.out)
      rw [HIL.out (by omega)] at I2
      go_wp2_with fail
      refine I2.mono ?_
      clear I2
      rintro ev w11 ⟨hb11, hm11⟩
      simp only [] at hm11
      subst hm11
      have HB011 : Hid (Below w.heap.size w w11) := HB010.out.trans (hb11.mono HB010.out.size)
      clear hb11
      go_wp2_with fail
      refine (tell_errno 11 w11 ((HB011.out.cell (p := ⟨1, 0, none⟩) HLT.out).trans HG.out)).mono ?_
      rintro ev w12 ⟨rfl, hb12⟩
      have HB012 : Hid (Below w.heap.size w w12) := HB011.out.trans (hb12.mono HB011.out.size)
      clear hb12
      go_wp2
      go_ret
      exact ⟨rfl, HB012.out⟩
end Go.Proofs.YtbiibhpknflagaaDoor
/- THE LAW 'DeflateRound': its row, its card. -/
namespace Go.Proofs.YtbiibhpknflagaaDoor.Round
open Go.ChangeShapes Go.WideShapes Go.ChangeAt Go.RowKit Plain
set_option linter.unusedVariables false

theorem bytes5 : Tryd.prog.bytesOf 5 = 1 := by kernel_rfl
theorem lits_len {H : Type} (k : IntKind) (l : List Int) : (lits (H := H) k l).length = l.length := by simp [lits]
/-- What is known of a slice of bytes. -/
def One (W : World) (v : Value) (t : Option Addr × Nat × List Int) : Prop :=
  v = .slice t.1 t.2.2.length t.2.1 ∧ IsB t.2.2 ∧ (0 < t.2.2.length → ∃ b off, t.1 = some ⟨b, off, none⟩ ∧ b < W.heap.size ∧ At W b off t.2.2) ∧ (t.1 = none → t.2.1 = 0)
theorem open_one {H : Type} {enc : TypeId × Value → H} {W : World} {m : Nat} {v : Value} {y : DataW H × List MemPlace} (h : DataW.trod enc Tryd.prog W 0 (fun _ => true) true m 22 [v] = some y) :
    ∃ t, One W v t ∧ (t.2.2.length = 0 ∨ ∃ n, n ∈ y.1.weights Tryd.prog 22 ∧ t.2.2.length ≤ n) := by
  rcases open_ints Tryd.underlying22 Tryd.underlying5 (by kernel_rfl) h with ⟨hcs, _⟩ | ⟨x, l, c, zs, hcs, _, hl, hm, hz, hy, hcell, hwz⟩
  · simp only [List.cons.injEq, and_true] at hcs
    subst hcs
    exact ⟨(none, 0, []), ⟨rfl, (fun x hx => by cases hx), (fun h => absurd h (Nat.lt_irrefl 0)), fun _ => rfl⟩, .inl rfl⟩
  · simp only [List.cons.injEq, and_true] at hcs
    subst hcs
    simp only [if_true] at hz
    have hlen : (zs.take l).length = l := by rw [List.length_take]; omega
    refine ⟨(some x, c, zs.take l), ⟨by rw [hlen], ?_, ?_, fun h => by cases h⟩, .inr ⟨c, ?_, by rw [hlen]; exact hl⟩⟩
    · intro n hn
      have := bounds_u8 (hwz n (List.mem_of_mem_take hn))
      omega
    · intro hpos
      rw [hlen] at hpos
      obtain ⟨b, off, spot⟩ := x
      have hc := hcell 0 (by omega)
      have hspot : spot = none := by simpa [Addr.add] using World.cell?_spot hc
      subst hspot
      refine ⟨b, off, rfl, Reads.cell_lt hc, fun i hi => ?_⟩
      rw [hlen] at hi
      have := hcell i (by omega)
      rw [addr_add] at this
      rw [this]
      simp [hi]
    · rw [hy]
      simp only [DataW.weights, Tryd.underlying22, lits_len, bytes5, List.mem_cons]
      left
      rw [List.length_take, List.length_drop]; omega
set_option maxRecDepth 100000 in
theorem contract (H : Type) (enc : TypeId × Value → H) (W : World) (base : Nat) (args : Array Value) (ds gs : List (DataW H)) (before : List MemPlace)
    (hval : ∀ (j : Nat) t v, Tryd.f5.params[j]? = some t → args[j]? = some v → Value.okWide Tryd.prog W .any base t v)
    (hW : DataW.Whole enc Tryd.prog Tryd.f5.params.toList Rows.deflateRoundSpec.vars false W args.toList ds gs before)
    (hsz : (DataW.weightsEach Tryd.prog (Tryd.f5.params.toList ++ (OpenSpec.ofChange Rows.deflateRoundSpec).bare.plain.varTypes Tryd.prog) (ds ++ gs)).all (· ≤ reachBytes) = true)
    (hL : laidMetH Tryd.prog Rows.deflateRoundRow.laid W) :
    Calls Tryd.prog 5 args W fun e W' => ∃ v, e = .returned v ∧ Rows.deflateRoundSpec.post enc Tryd.prog Tryd.f5 false true false false W args v W' := by
  have hW' := hW
  obtain ⟨p, q, hA0, hV, rfl, hfz, hnd⟩ := hW
  have hA : DataW.TrodAll enc Tryd.prog W 0 (fun _ => true) true Tryd.f5.params.toList args.toList ds p := hA0
  rw [Tryd.params5] at hA hval hsz
  obtain ⟨v0, vs0, d0, ds0, p0, q0, hargs, rfl, rfl, h0, r0⟩ := trodAll_cons hA
  obtain ⟨v1, vs1, d1, ds1, p1, q1, rfl, rfl, rfl, h1, r1⟩ := trodAll_cons r0
  obtain ⟨rfl, rfl, rfl⟩ := trodAll_nil r1
  obtain rfl : args = #[v0, v1] := by cases args; simp_all
  obtain ⟨rfl, rfl⟩ := trodVars_none hV
  have k0 := h0
  have k1 := h1
  have lt0 : ∀ x ∈ p0, x.block < W.heap.size := by obtain ⟨m, hm⟩ := k0; exact DataW.trod_lt m _ _ _ hm
  have lt1 : ∀ x ∈ p1, x.block < W.heap.size := by obtain ⟨m, hm⟩ := k1; exact DataW.trod_lt m _ _ _ hm
  obtain ⟨a0, len0, cap0, rfl⟩ := okWide_slice Tryd.underlying22 (hval 0 22 v0 rfl rfl)
  obtain ⟨a1, len1, cap1, rfl⟩ := okWide_slice Tryd.underlying22 (hval 1 22 v1 rfl rfl)
  obtain ⟨t0, o0, b0⟩ : ∃ t, One W (.slice a0 len0 cap0) t ∧ (t.2.2.length = 0 ∨ ∃ n, n ∈ d0.weights Tryd.prog 22 ∧ t.2.2.length ≤ n) := by
    obtain ⟨fuel, hf⟩ := h0
    exact open_one (y := (d0, p0)) hf
  obtain ⟨t1, o1, b1⟩ : ∃ t, One W (.slice a1 len1 cap1) t ∧ (t.2.2.length = 0 ∨ ∃ n, n ∈ d1.weights Tryd.prog 22 ∧ t.2.2.length ≤ n) := by
    obtain ⟨fuel, hf⟩ := h1
    exact open_one (y := (d1, p1)) hf
  have hm : ∀ n, n ∈ d0.weights Tryd.prog 22 ∨ n ∈ d1.weights Tryd.prog 22 → n ≤ reachBytes := by
    intro n hn
    refine of_decide_eq_true (List.all_eq_true.1 hsz n ?_)
    show n ∈ DataW.weightsEach Tryd.prog ([22, 22] ++ _) ([d0, d1] ++ [])
    simp only [List.cons_append, List.nil_append, List.append_nil, DataW.weightsEach, List.mem_append]
    rcases hn with h | h
    · exact .inl h
    · exact .inr (.inl h)
  have m0 : t0.2.2.length ≤ 200000000000000 := by
    rcases b0 with h | ⟨n, h1, h2⟩
    · omega
    · have := hm n (.inl h1)
      unfold reachBytes at this
      omega
  have m1 : t1.2.2.length ≤ 200000000000000 := by
    rcases b1 with h | ⟨n, h1, h2⟩
    · omega
    · have := hm n (.inr h1)
      unfold reachBytes at this
      omega
  clear hA0 b0 b1 hm
  have hg := Reads.handle_of_laid (W := W) hL
  have ht := Reads.tabs_of_laid (W := W) hL
  obtain ⟨e0, z0, c0, n0⟩ := o0
  obtain ⟨e1, z1, c1, n1⟩ := o1
  have walk : Calls Tryd.prog 5 #[.slice a0 len0 cap0, .slice a1 len1 cap1] W fun e w' => e = .returned (.bool true) ∧ Below W.heap.size W w' := by
    rw [e0, e1]
    by_cases hl : t0.2.2.length + t1.2.2.length ≤ 300000
    · exact walkD_short t0.1 t1.1 t0.2.1 t1.2.1 t0.2.2 t1.2.2 W hl z0 z1 c0 c1 n1 ht hg
    · exact walkD_long _ _ _ _ _ _ W (by omega) m0 m1
  refine walk.mono fun e W' ⟨he, bel⟩ => ?_
  subst he
  exact ⟨_, rfl, _, _, _, [], _, [], hW', trodAll_mk1 (shut_bool Tryd.underlying4 _), (trodAll_cons_mk (Below.trod Reads.laidOut (by kernel_rfl) (of_decide_eq_true (by kernel_rfl)) k0 bel lt0) (trodAll_cons_mk (Below.trod Reads.laidOut (by kernel_rfl) (of_decide_eq_true (by kernel_rfl)) k1 bel lt1) trodAll_mk0)), rfl, bel.frame _, fun h => by cases h⟩

def wit : Array Value := #[.slice none 0 0, .slice none 0 0]
theorem laid_met (os : Os) : laidMetH Tryd.prog Rows.deflateRoundRow.laid ((Reads.layIn (World.holding Tryd.prog os ⟨#[], #[], []⟩)).forCall (fun _ _ => 0) ⟨#[], wit, []⟩).memory :=
  laidMetH_of_parts (laidMet_of_run' 8 (by kernel_rfl) (by kernel_rfl)) (by kernel_rfl)
theorem reads (os : Os) {H : Type} (enc : TypeId × Value → H) : ∃ ds places, DataW.whole enc Tryd.prog ((Reads.layIn (World.holding Tryd.prog os ⟨#[], #[], []⟩)).forCall (fun _ _ => 0) ⟨#[], wit, []⟩).memory Tryd.f5.params.toList Rows.deflateRoundSpec.vars false wit.toList 8 = some (ds, [], places) :=
  ⟨[.nil, .nil], [], by kernel_rfl⟩

set_option maxRecDepth 100000 in
theorem lifted (os : Os) (started : os.Started) (H : Type) (enc : TypeId × Value → H) (F : Stop.Interp) :
    ReturnsInHanded {} Tryd.checked os 5 .any ((OpenSpec.ofChange Rows.deflateRoundSpec).preRow enc Tryd.prog Tryd.f5 Rows.deflateRoundRow.domain false Rows.deflateRoundRow.laid) (((OpenSpec.ofChange Rows.deflateRoundSpec).at F).post enc Tryd.prog Tryd.f5 false true false false) := by
  obtain ⟨ds, places, hx⟩ := reads os enc
  refine returnsInHanded_of_row (C := Tryd.checked) (s := OpenSpec.ofChange Rows.deflateRoundSpec) Reads.own started (by kernel_rfl) Tryd.func5
    (witness_row_at (enc := enc) (C := Tryd.checked) false (Reads.layIn (World.holding Tryd.prog os ⟨#[], #[], []⟩)) wit rfl (by kernel_rfl) (by kernel_rfl) (by kernel_rfl)
      (OpenSpec.preRow_of_cond 8 hx (by kernel_rfl) (fun k hk => by cases hk) (by kernel_rfl) (laid_met os))) ?_
  intro W base args ds gs before hval hW _ _ hsz hL _ _
  exact contract H enc W base args ds gs before hval hW hsz hL

theorem said : Rows.DeflateRoundSaid :=
  OpenClaim.holds_of_cond 5 Tryd.f5 rfl rfl rfl rfl rfl rfl rfl ⟨rfl, rfl, rfl, rfl, rfl⟩ rfl rfl rfl rfl rfl (by kernel_rfl) Tryd.func5 (by kernel_rfl)
    (of_decide_eq_true (by kernel_rfl)) (by unfold Func.isWrapper; first | (rw [if_pos (by decide +kernel)]; kernel_rfl) | (rw [if_neg (by decide +kernel)]; exact ⟨rfl, rfl⟩))
    (fun os started H enc _ F => by rw [OpenClaim.pre_eq_preRow]; exact lifted os started H enc F)

theorem plain (f : FuncId) (fn : Func) (hf : Tryd.pinned.checked.prog.funcNamed "gitlike/gitlikelaw1.DeflateRound" = some f) (hfn : Tryd.pinned.checked.prog.funcs[f]? = some fn) :
    true = Tryd.pinned.checked.prog.looks [] ∧ ∀ (j : Nat) t, fn.params[j]? = some t → Tryd.pinned.checked.prog.wantsStandIn t = false := by
  obtain rfl : f = 5 := Option.some.inj ((show Tryd.prog.funcNamed "gitlike/gitlikelaw1.DeflateRound" = some 5 by kernel_rfl).symm.trans hf) |>.symm
  obtain rfl : fn = Tryd.f5 := (Option.some.inj (Tryd.func5.symm.trans hfn)).symm
  refine ⟨by kernel_rfl, fun j t ht => ?_⟩
  rw [Tryd.params5] at ht
  have hm : t = 22 := by simpa using Array.mem_of_getElem? ht
  subst hm
  exact (show Tryd.prog.wantsStandIn 22 = false by kernel_rfl)

end Go.Proofs.YtbiibhpknflagaaDoor.Round
namespace Go.Proofs.YtbiibhpknflagaaDoor
/-- THE CARD -/
theorem deflateRound_card : Rows.DeflateRoundCardSaid :=
  Claim7.holds_tied_plain_at .later [] _ _ _ _ Round.said (fun _ h => by cases h) (by kernel_rfl) (fun _ h => by cases h) deflateRound_row_tie rfl ⟨rfl, rfl⟩ (by kernel_rfl) rfl Round.plain (by kernel_rfl)
#print axioms deflateRound_card
end Go.Proofs.YtbiibhpknflagaaDoor
