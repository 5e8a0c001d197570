/- The law 'DeltaApplies': its walk. -/
import Derived.Test.YtblegkefeiefjaaDoorApB
import Derived.Test.YtblegkefeiefjaaDoorRaC
import Derived.Test.YtblegkefeiefjaaDoorTellB
import Derived.Test.YtblegkefeiefjaaDoorCards
import Derived.Test.YtblegkefeiefjaaDoorTie
import Derived.WalkKit
import Derived.ProofKit
import Derived.OpenShut
import Derived.Below
import Derived.Deep.DeepHandedRow
import Derived.Lib.LaidTab
import Derived.LaidLaws
import Derived.LaidHandle
namespace Go.Proofs.YtblegkefeiefjaaDoor
open Go.RowKit Plain
set_option linter.unusedVariables false
set_option linter.unusedSimpArgs false
theorem grown_setCell {w wr : World} {g k : Nat} (u : Value) (h : w.grownBy wr (some g)) : w.grownBy (wr.setCell ⟨g, k, none⟩ u) (some g) :=
  ⟨h.os, h.tape, h.output, by simp [World.setCell]; exact h.size, fun j hj hne => (Below.heap_setCell wr _ u j (fun e => hne (congrArg some e))).trans (h.block j hj hne)⟩
theorem grown_drewN (w : World) (n : Nat) (r : Option Nat) : w.grownBy (w.drewN n) r := ⟨rfl, rfl, rfl, Nat.le_refl _, fun _ _ _ => rfl⟩
set_option maxHeartbeats 400000 in
theorem still_keep (a : Option Addr) (cap g : Nat) (zs : List Int) (w : World) (hl : zs.length ≤ 300000) (hz : IsB zs) (hr : Room w g zs) (hc : 0 < zs.length → ∃ b off, a = some ⟨b, off, none⟩ ∧ b < g ∧ At w b off zs) :
    Calls Tryd.prog 9 #[.slice (some ⟨g, 0, none⟩) zs.length (zs.length + 2), .slice a zs.length cap] w fun e w' => e = .returned (.bool true) ∧ w.grownBy w' (some g) := by
  have c71 := hr.c71
  have c72 := hr.c72
  go_enter Tryd.func9, Tryd.ntmps9
  go_wp2_with (go_at_call 13; refine (same_any _ _ _ _ zs _ (by omega) (fun _ => ⟨g, 0, rfl, fun i hi => by rw [Nat.zero_add]; exact hr.cell i hi⟩) (fun h => by obtain ⟨b, off, h1, h2, h3⟩ := hc h; exact ⟨b, off, h1, h3⟩)).mono ?_; rintro e w1 ⟨rfl, nq, rfl⟩)
  go_loopw [8] (fun i wr => ∃ k : Nat, k ≤ zs.length + 2 ∧ i = .int .i64 k ∧ Own wr g (zs.length + 2) ∧ (∀ i, wr.frozen? ⟨g, i, none⟩ = false) ∧ w.grownBy wr (some g)) (fun i _ => zs.length + 2 - (intOf i).toNat)
  case atStart => exact ⟨0, Nat.zero_le _, rfl, hr.own hz, hr.fz, grown_drewN _ _ _⟩
  case round =>
    obtain ⟨k, hk, rfl, hown, hfz, hbel⟩ := hrel
    clear c71 c72
    by_cases hlt : k < zs.length + 2
    · obtain ⟨v, hv1, hv2, hcell⟩ := hown k hlt
      obtain ⟨v', hx, hv3, hv4⟩ := xor85 v hv1 hv2
      have hf := hfz k
      go_wp2
      go_roundw
      case rel => exact ⟨k + 1, by omega, by go_num, hown.set k v' hv3 hv4, fun i => by rw [World.frozen?_setCell]; exact hfz i, grown_setCell _ hbel⟩
      case measure => simp [intOf]; omega
    · go_wp2
      go_ret
      exact ⟨rfl, hbel⟩
theorem Room.below {w w' : World} {g : Nat} {zs : List Int} (h : Room w g zs) (hb : Below w.heap.size w w') : Room w' g zs where
  lt := Nat.lt_of_lt_of_le h.lt hb.size
  cell := fun j hj => (hb.cell (p := ⟨g, j, none⟩) h.lt).trans (h.cell j hj)
  c71 := (hb.cell (p := ⟨g, zs.length, none⟩) h.lt).trans h.c71
  c72 := (hb.cell (p := ⟨g, zs.length + 1, none⟩) h.lt).trans h.c72
  fz := fun j => (World.frozen?_of_block (a := ⟨g, j, none⟩) (hb.block g h.lt)).trans (h.fz j)
theorem own_at {w : World} {B g n cp : Nat} {k : IntKind} {e : TypeId} {out : List Int} (h : w.ownsRow B e 1 (.slice (some ⟨g, 0, none⟩) n cp) n (out.map (Value.int k))) (hn : out.length = n) (q : Nat) (hq : q < n) : w.cell? ⟨g, q, none⟩ = some (.int k (out.getD q 0)) := by
  rw [h.cellAt q (by omega), List.getElem?_map, List.getElem?_eq_getElem (by omega)]
  simp [hn ▸ hq]
/-- Bytes that were given out. -/
structure Got (w : World) (B : Nat) (a : Option Addr) (out : List Int) : Prop where
  at_ : 0 < out.length → ∃ g, a = some ⟨g, 0, none⟩ ∧ B ≤ g ∧ g < w.heap.size ∧ At w g 0 out
theorem got_of {w : World} {B cp : Nat} {a : Option Addr} {out : List Int} (h : w.ownsRow B 5 1 (.slice a out.length cp) out.length (out.map (Value.int .u8))) : Got w B a out :=
  ⟨fun h0 => by
    obtain ⟨g, cap', hv, h1, h2⟩ := h.form h0
    simp only [Value.slice.injEq] at hv
    obtain ⟨rfl, _, rfl⟩ := hv
    exact ⟨g, rfl, h1, h2, fun i hi => by rw [Nat.zero_add]; exact own_at h rfl i hi⟩⟩
theorem Got.frame {w w' : World} {B : Nat} {a : Option Addr} {out : List Int} (h : Got w B a out) (hb : ∀ k, B ≤ k → k < w.heap.size → w'.heap[k]? = w.heap[k]?) (hs : w.heap.size ≤ w'.heap.size) : Got w' B a out :=
  ⟨fun h0 => by
    obtain ⟨g, h1, h2, h3, h4⟩ := h.at_ h0
    exact ⟨g, h1, h2, Nat.lt_of_lt_of_le h3 hs, fun i hi => (World.cell?_of_block (a := ⟨g, 0 + i, none⟩) (hb g h2 h3)).trans (h4 i hi)⟩⟩
theorem slice_of {w : World} {B n : Nat} {v : Value} {xs : List Value} (h : w.ownsRow B 5 1 v n xs) : ∃ a cp, v = .slice a (n : Nat) cp := by
  obtain ⟨_, ⟨h1, h2⟩ | ⟨g, cap, cur, hv, _⟩⟩ := h
  · exact ⟨none, 0, by rw [h1, h2]⟩
  · exact ⟨_, _, hv⟩
theorem appS_len (base : List Int) (m : Nat) : ∀ (f : Nat) (b out : List Int) (r : List Int), appF base m f b out = some r → r.length = m
  | 0, _, _, _, h => by cases h
  | f + 1, b, out, r, h => by
    rw [appF] at h
    split at h
    · split at h
      · rename_i hl; cases h; exact hl
      · cases h
    · split at h
      · cases h
      · split at h
        · exact appS_len base m f _ _ _ h
        · cases h
theorem app_len {base d out : List Int} (h : app base d = some out) : out.length ≤ 400000 := by
  unfold app at h
  split at h
  · cases h
  · split at h
    · rename_i hc
      have := appS_len _ _ _ _ _ _ h
      omega
    · cases h
theorem Room.sl {w : World} {g : Nat} {zs : List Int} (h : Room w g zs) : Sl w (some ⟨g, 0, none⟩) (zs.length + 2) zs :=
  ⟨by omega, fun _ => ⟨g, 0, rfl, h.lt, fun i hi => by rw [Nat.zero_add]; exact h.cell i hi⟩, fun e => by cases e⟩
theorem Room.grown {w w' : World} {g k : Nat} {zs : List Int} (h : Room w g zs) (hg : w.grownBy w' (some k)) (hne : g ≠ k) : Room w' g zs where
  lt := Nat.lt_of_lt_of_le h.lt hg.size
  cell := fun j hj => (World.cell?_of_block (a := ⟨g, j, none⟩) (hg.block g h.lt (fun e => hne (by cases e; rfl)))).trans (h.cell j hj)
  c71 := (World.cell?_of_block (a := ⟨g, zs.length, none⟩) (hg.block g h.lt (fun e => hne (by cases e; rfl)))).trans h.c71
  c72 := (World.cell?_of_block (a := ⟨g, zs.length + 1, none⟩) (hg.block g h.lt (fun e => hne (by cases e; rfl)))).trans h.c72
  fz := fun j => (World.frozen?_of_block (a := ⟨g, j, none⟩) (hg.block g h.lt (fun e => hne (by cases e; rfl)))).trans (h.fz j)
set_option maxHeartbeats 400000 in
theorem walkA_long (a a' : Option Addr) (len len' cap cap' : Nat) (w : World) (h : 300000 < len + len') (hm : len ≤ 200000000000000) (hm' : len' ≤ 200000000000000) :
    Calls Tryd.prog 3 #[.slice a len cap, .slice a' len' cap'] w fun e w' => e = .returned (.bool true) ∧ Below w.heap.size w w' := by
  have h1 : (300000 : Int) < len + len' := by omega
  go_enter Tryd.func3, Tryd.ntmps3
  go_wp2
  go_ret
  exact ⟨rfl, Below.refl _ _⟩
set_option maxRecDepth 20000 in
set_option maxHeartbeats 4000000 in
theorem walkA_short (a a' : Option Addr) (cap cap' : Nat) (xs zs : List Int) (w : World) (hl : xs.length + zs.length ≤ 300000) (hx : IsB xs) (hz : IsB zs) (hS : Sl w a cap xs) (hS' : Sl w a' cap' zs)
    (hg : w.cell? ⟨0, 0, none⟩ = some (.iface 84 (.agg #[.pointer (some ⟨1, 25, none⟩)]))) (hlt : 0 < w.heap.size) :
    Calls Tryd.prog 3 #[.slice a xs.length cap, .slice a' zs.length cap'] w fun e w' => e = .returned (.bool true) ∧ Below w.heap.size w w' := by
  have HX : Hid _ := hS
  have HZ : Hid _ := hS'
  have HG : Hid _ := hg
  have HLT : Hid _ := hlt
  have HCX : Hid (∀ w', Below w.heap.size w w' → 0 < xs.length → ∃ b off, a = some ⟨b, off, none⟩ ∧ b < w.heap.size ∧ At w' b off xs) := fun w' hb h0 => by
    obtain ⟨b, off, e1, e2, e3⟩ := HX.out.at_ h0
    exact ⟨b, off, e1, e2, fun i hi => (hb.cell (p := ⟨b, off + i, none⟩) e2).trans (e3 i hi)⟩
  have HCZ : Hid (∀ w', Below w.heap.size w w' → 0 < zs.length → ∃ b off, a' = some ⟨b, off, none⟩ ∧ b < w.heap.size ∧ At w' b off zs) := fun w' hb h0 => by
    obtain ⟨b, off, e1, e2, e3⟩ := HZ.out.at_ h0
    exact ⟨b, off, e1, e2, fun i hi => (hb.cell (p := ⟨b, off + i, none⟩) e2).trans (e3 i hi)⟩
  have HTE : Hid (∀ k w', Below w.heap.size w w' → Calls Tryd.prog 12 #[.iface 35 (.int .i64 k)] w' fun e w'' => e = .returned (.int .i64 k) ∧ Below w'.heap.size w' w'') := fun k w' hb => tell_errno k w' ((hb.cell (p := ⟨0, 0, none⟩) HLT.out).trans HG.out)
  obtain ⟨X, HXL⟩ : ∃ X, Hid (X = xs.length) := ⟨_, rfl⟩
  obtain ⟨Z, HZL⟩ : ∃ Z, Hid (Z = zs.length) := ⟨_, rfl⟩
  have hXZ : X + Z ≤ 300000 := by have := HXL.out; have := HZL.out; omega
  have hXZi : ¬ (300000 : Int) < (X : Int) + Z := by omega
  have hlx : xs.length ≤ 300000 := by omega
  have hlz : zs.length ≤ 300000 := by omega
  have HR6 : Hid _ := fun (w' : World) (hb : Below w.heap.size w w') => roomy_any a cap xs w' hlx (fun h0 => by obtain ⟨b, off, e1, e2, e3⟩ := HCX.out w' hb h0; exact ⟨b, off, e1, Nat.lt_of_lt_of_le e2 hb.size, e3⟩)
  have HR6' : Hid _ := fun (w' : World) (hb : Below w.heap.size w w') => roomy_any a' cap' zs w' hlz (fun h0 => by obtain ⟨b, off, e1, e2, e3⟩ := HCZ.out w' hb h0; exact ⟨b, off, e1, Nat.lt_of_lt_of_le e2 hb.size, e3⟩)
  have HAP : Hid _ := fun (w' : World) (g g' : Nat) (h : Room w' g xs) (h' : Room w' g' zs) => apply_any (some ⟨g, 0, none⟩) (some ⟨g', 0, none⟩) (xs.length + 2) (zs.length + 2) xs zs w' hz (by omega) (by omega) h.sl h'.sl
  have HSI : Hid _ := fun (w' : World) (g' : Nat) (h' : Room w' g' zs) => sizes_any (some ⟨g', 0, none⟩) (zs.length + 2) zs w' hz (by omega) h'.sl
  have HST : Hid _ := fun (w' : World) (hb : Below w.heap.size w w') (g : Nat) (hg : w.heap.size ≤ g) (h : Room w' g xs) => still_keep a cap g xs w' hlx hx h (fun h0 => by obtain ⟨b, off, e1, e2, e3⟩ := HCX.out w' hb h0; exact ⟨b, off, e1, by omega, e3⟩)
  have HST' : Hid _ := fun (w' : World) (hb : Below w.heap.size w w') (g : Nat) (hg : w.heap.size ≤ g) (h : Room w' g zs) => still_keep a' cap' g zs w' hlz hz h (fun h0 => by obtain ⟨b, off, e1, e2, e3⟩ := HCZ.out w' hb h0; exact ⟨b, off, e1, by omega, e3⟩)
  have HRA : Hid _ := fun (w' : World) (hb : Below w.heap.size w w') => refApply_any a a' cap cap' xs zs w' hz (by omega) (by omega) (HX.out.below' hb) (HZ.out.below' hb)
  have HRS : Hid _ := fun (w' : World) (hb : Below w.heap.size w w') => refSizes_any a' cap' zs w' hz (by omega) (HZ.out.below' hb)
  simp only [← HXL.out, ← HZL.out] at HR6 HR6' HAP HSI HST HST' HRA HRS
  rw [← HXL.out, ← HZL.out]
  clear hS hS' hg hl hlt
  cases ea : app xs zs with
  | none =>
    rw [ea] at HAP HRA
    cases es : szs zs with
    | none =>
      rw [es] at HSI HRS
      go_enter Tryd.func3, Tryd.ntmps3
      go_wp2_with fail
      refine (HR6.out w (Below.refl _ _)).mono ?_
      rintro ev w1 ⟨rfl, hb1, hr1⟩
      have HB1 : Hid _ := hb1
      have HR1 : Hid _ := hr1
      clear hb1 hr1
      obtain ⟨g, HGG⟩ : ∃ g, Hid (g = w.heap.size) := ⟨_, rfl⟩
      rw [← HGG.out] at HR1 ⊢
      go_wp2_with fail
      refine (HR6'.out w1 HB1.out).mono ?_
      rintro ev w2 ⟨rfl, hb2, hr2⟩
      have HB2 : Hid _ := hb2
      have HR2 : Hid _ := hr2
      clear hb2 hr2
      obtain ⟨g', HGG'⟩ : ∃ g', Hid (g' = w1.heap.size) := ⟨_, rfl⟩
      rw [← HGG'.out] at HR2 ⊢
      have HR1' : Hid (Room w2 g xs) := HR1.out.below HB2.out
      have HGL : Hid (g < g' ∧ g' < w2.heap.size) := ⟨by rw [HGG'.out]; exact HR1.out.lt, HR2.out.lt⟩
      have HB02 : Hid (Below w.heap.size w w2) := HB1.out.trans (HB2.out.mono HB1.out.size)
      go_wp2_with fail
      refine (HAP.out w2 g g' HR1'.out HR2.out).mono ?_
      rintro ev w3 ⟨hb3, rfl⟩
      have HB3 : Hid _ := hb3
      clear hb3
      have HB03 : Hid (Below w.heap.size w w3) := HB02.out.trans (HB3.out.mono HB02.out.size)
      go_wp2_with fail
      refine (HSI.out w3 g' (HR2.out.below HB3.out)).mono ?_
      rintro ev w4 ⟨⟨q4, rfl⟩, rfl⟩
      have HB4 : Hid (Below w3.heap.size w3 (w3.drewN q4)) := below_drewN (Below.refl _ _) _
      obtain ⟨w4, HW4⟩ : ∃ w4, Hid (w3.drewN q4 = w4) := ⟨_, rfl⟩
      rw [HW4.out] at HB4 ⊢
      have HB04 : Hid (Below w.heap.size w w4) := HB03.out.trans (HB4.out.mono HB03.out.size)
      go_wp2_with fail
      refine (HST.out w4 HB04.out g (by rw [HGG.out]; exact Nat.le_refl _) ((HR1'.out.below HB3.out).below HB4.out)).mono ?_
      rintro ev w5 ⟨rfl, hg5⟩
      have HG5 : Hid _ := hg5
      clear hg5
      have HB05 : Hid (Below w.heap.size w w5) := HB04.out.grown HG5.out HB04.out.size (fun k hk => by have := HGG.out; simp at hk; omega)
      have HR5' : Hid (Room w5 g' zs) := ((HR2.out.below HB3.out).below HB4.out).grown HG5.out (by have := HGL.out; omega)
      go_wp2_with fail
      refine (HST'.out w5 HB05.out g' (by have := HGG.out; have := HGL.out; omega) HR5'.out).mono ?_
      rintro ev w6 ⟨rfl, hg6⟩
      have HG6 : Hid _ := hg6
      clear hg6
      have HB06 : Hid (Below w.heap.size w w6) := HB05.out.grown HG6.out HB05.out.size (fun k hk => by have := HGG.out; have := HGL.out; simp at hk; omega)
      go_wp2_with fail
      refine (HRA.out w6 HB06.out).mono ?_
      rintro ev w7 ⟨hb7, ar, kr, cr, rfl⟩
      have HB7 : Hid _ := hb7
      clear hb7
      have HB07 : Hid (Below w.heap.size w w7) := HB06.out.trans (HB7.out.mono HB06.out.size)
      go_wp2_with fail
      refine (HRS.out w7 HB07.out).mono ?_
      rintro ev w8 ⟨rfl, q8, rfl⟩
      have HB8 : Hid (Below w7.heap.size w7 (w7.drewN q8)) := below_drewN (Below.refl _ _) _
      obtain ⟨w8, HW8⟩ : ∃ w8, Hid (w7.drewN q8 = w8) := ⟨_, rfl⟩
      rw [HW8.out] at HB8 ⊢
      have HB08 : Hid (Below w.heap.size w w8) := HB07.out.trans (HB8.out.mono HB07.out.size)
      go_wp2_with fail
      refine (HTE.out 30 w8 HB08.out).mono ?_
      rintro ev w9 ⟨rfl, hb9⟩
      have HB9 : Hid _ := hb9
      clear hb9
      have HB09 : Hid (Below w.heap.size w w9) := HB08.out.trans (HB9.out.mono HB08.out.size)
      go_wp2_with fail
      refine (HTE.out 30 w9 HB09.out).mono ?_
      rintro ev w10 ⟨rfl, hb10⟩
      have HB10 : Hid _ := hb10
      clear hb10
      have HB010 : Hid (Below w.heap.size w w10) := HB09.out.trans (HB10.out.mono HB09.out.size)
      go_wp2_with fail
      refine (HTE.out 30 w10 HB010.out).mono ?_
      rintro ev w11 ⟨rfl, hb11⟩
      have HB011 : Hid (Below w.heap.size w w11) := HB010.out.trans (hb11.mono HB010.out.size)
      clear hb11
      go_wp2
      go_ret
      exact ⟨rfl, HB011.out⟩
    | some nml =>
      obtain ⟨n, m, l⟩ := nml
      rw [es] at HSI HRS
      go_enter Tryd.func3, Tryd.ntmps3
      go_wp2_with fail
      refine (HR6.out w (Below.refl _ _)).mono ?_
      rintro ev w1 ⟨rfl, hb1, hr1⟩
      have HB1 : Hid _ := hb1
      have HR1 : Hid _ := hr1
      clear hb1 hr1
      obtain ⟨g, HGG⟩ : ∃ g, Hid (g = w.heap.size) := ⟨_, rfl⟩
      rw [← HGG.out] at HR1 ⊢
      go_wp2_with fail
      refine (HR6'.out w1 HB1.out).mono ?_
      rintro ev w2 ⟨rfl, hb2, hr2⟩
      have HB2 : Hid _ := hb2
      have HR2 : Hid _ := hr2
      clear hb2 hr2
      obtain ⟨g', HGG'⟩ : ∃ g', Hid (g' = w1.heap.size) := ⟨_, rfl⟩
      rw [← HGG'.out] at HR2 ⊢
      have HR1' : Hid (Room w2 g xs) := HR1.out.below HB2.out
      have HGL : Hid (g < g' ∧ g' < w2.heap.size) := ⟨by rw [HGG'.out]; exact HR1.out.lt, HR2.out.lt⟩
      have HB02 : Hid (Below w.heap.size w w2) := HB1.out.trans (HB2.out.mono HB1.out.size)
      go_wp2_with fail
      refine (HAP.out w2 g g' HR1'.out HR2.out).mono ?_
      rintro ev w3 ⟨hb3, rfl⟩
      have HB3 : Hid _ := hb3
      clear hb3
      have HB03 : Hid (Below w.heap.size w w3) := HB02.out.trans (HB3.out.mono HB02.out.size)
      go_wp2_with fail
      refine (HSI.out w3 g' (HR2.out.below HB3.out)).mono ?_
      rintro ev w4 ⟨⟨q4, rfl⟩, rfl⟩
      have HB4 : Hid (Below w3.heap.size w3 (w3.drewN q4)) := below_drewN (Below.refl _ _) _
      obtain ⟨w4, HW4⟩ : ∃ w4, Hid (w3.drewN q4 = w4) := ⟨_, rfl⟩
      rw [HW4.out] at HB4 ⊢
      have HB04 : Hid (Below w.heap.size w w4) := HB03.out.trans (HB4.out.mono HB03.out.size)
      go_wp2_with fail
      refine (HST.out w4 HB04.out g (by rw [HGG.out]; exact Nat.le_refl _) ((HR1'.out.below HB3.out).below HB4.out)).mono ?_
      rintro ev w5 ⟨rfl, hg5⟩
      have HG5 : Hid _ := hg5
      clear hg5
      have HB05 : Hid (Below w.heap.size w w5) := HB04.out.grown HG5.out HB04.out.size (fun k hk => by have := HGG.out; simp at hk; omega)
      have HR5' : Hid (Room w5 g' zs) := ((HR2.out.below HB3.out).below HB4.out).grown HG5.out (by have := HGL.out; omega)
      go_wp2_with fail
      refine (HST'.out w5 HB05.out g' (by have := HGG.out; have := HGL.out; omega) HR5'.out).mono ?_
      rintro ev w6 ⟨rfl, hg6⟩
      have HG6 : Hid _ := hg6
      clear hg6
      have HB06 : Hid (Below w.heap.size w w6) := HB05.out.grown HG6.out HB05.out.size (fun k hk => by have := HGG.out; have := HGL.out; simp at hk; omega)
      go_wp2_with fail
      refine (HRA.out w6 HB06.out).mono ?_
      rintro ev w7 ⟨hb7, ar, kr, cr, rfl⟩
      have HB7 : Hid _ := hb7
      clear hb7
      have HB07 : Hid (Below w.heap.size w w7) := HB06.out.trans (HB7.out.mono HB06.out.size)
      go_wp2_with fail
      refine (HRS.out w7 HB07.out).mono ?_
      rintro ev w8 ⟨a8, cap8, q8, rfl, rfl, hs8, hn8, hm8⟩
      have HB8 : Hid (Below w7.heap.size w7 (w7.drewN q8)) := below_drewN (Below.refl _ _) _
      obtain ⟨w8, HW8⟩ : ∃ w8, Hid (w7.drewN q8 = w8) := ⟨_, rfl⟩
      rw [HW8.out] at HB8 ⊢
      have HB08 : Hid (Below w.heap.size w w8) := HB07.out.trans (HB8.out.mono HB07.out.size)
      go_wp2_with fail
      refine (tell_nil w8).mono ?_
      rintro ev w9 ⟨rfl, hb9⟩
      have HB9 : Hid _ := hb9
      clear hb9
      have HB09 : Hid (Below w.heap.size w w9) := HB08.out.trans (HB9.out.mono HB08.out.size)
      go_wp2_with fail
      refine (tell_nil w9).mono ?_
      rintro ev w10 ⟨rfl, hb10⟩
      have HB10 : Hid _ := hb10
      clear hb10
      have HB010 : Hid (Below w.heap.size w w10) := HB09.out.trans (HB10.out.mono HB09.out.size)
      go_wp2_with fail
      refine (HTE.out 30 w10 HB010.out).mono ?_
      rintro ev w11 ⟨rfl, hb11⟩
      have HB011 : Hid (Below w.heap.size w w11) := HB010.out.trans (hb11.mono HB010.out.size)
      clear hb11
      go_wp2
      go_ret
      exact ⟨rfl, HB011.out⟩
  | some out =>
    rw [ea] at HAP HRA
    have hol : out.length ≤ 400000 := app_len ea
    cases es : szs zs with
    | none =>
      simp only [app, es] at ea
      cases ea
    | some nml =>
      obtain ⟨n, m, l⟩ := nml
      rw [es] at HSI HRS
      go_enter Tryd.func3, Tryd.ntmps3
      go_wp2_with fail
      refine (HR6.out w (Below.refl _ _)).mono ?_
      rintro ev w1 ⟨rfl, hb1, hr1⟩
      have HB1 : Hid _ := hb1
      have HR1 : Hid _ := hr1
      clear hb1 hr1
      obtain ⟨g, HGG⟩ : ∃ g, Hid (g = w.heap.size) := ⟨_, rfl⟩
      rw [← HGG.out] at HR1 ⊢
      go_wp2_with fail
      refine (HR6'.out w1 HB1.out).mono ?_
      rintro ev w2 ⟨rfl, hb2, hr2⟩
      have HB2 : Hid _ := hb2
      have HR2 : Hid _ := hr2
      clear hb2 hr2
      obtain ⟨g', HGG'⟩ : ∃ g', Hid (g' = w1.heap.size) := ⟨_, rfl⟩
      rw [← HGG'.out] at HR2 ⊢
      have HR1' : Hid (Room w2 g xs) := HR1.out.below HB2.out
      have HGL : Hid (g < g' ∧ g' < w2.heap.size) := ⟨by rw [HGG'.out]; exact HR1.out.lt, HR2.out.lt⟩
      have HB02 : Hid (Below w.heap.size w w2) := HB1.out.trans (HB2.out.mono HB1.out.size)
      go_wp2_with fail
      refine (HAP.out w2 g g' HR1'.out HR2.out).mono ?_
      rintro ev w3 ⟨hb3, v3, rfl, how3⟩
      have HB3 : Hid _ := hb3
      clear hb3
      have HB03 : Hid (Below w.heap.size w w3) := HB02.out.trans (HB3.out.mono HB02.out.size)
      obtain ⟨av, cv, rfl⟩ := slice_of how3
      have HO3 : Hid _ := got_of how3
      clear how3
      go_wp2_with fail
      refine (HSI.out w3 g' (HR2.out.below HB3.out)).mono ?_
      rintro ev w4 ⟨⟨q4, rfl⟩, rfl⟩
      have HB4 : Hid (Below w3.heap.size w3 (w3.drewN q4)) := below_drewN (Below.refl _ _) _
      obtain ⟨w4, HW4⟩ : ∃ w4, Hid (w3.drewN q4 = w4) := ⟨_, rfl⟩
      rw [HW4.out] at HB4 ⊢
      have HB04 : Hid (Below w.heap.size w w4) := HB03.out.trans (HB4.out.mono HB03.out.size)
      have HO4 : Hid (Got w4 w2.heap.size av out) := HO3.out.frame (fun k _ hk => HB4.out.block k hk) HB4.out.size
      go_wp2_with fail
      refine (HST.out w4 HB04.out g (by rw [HGG.out]; exact Nat.le_refl _) ((HR1'.out.below HB3.out).below HB4.out)).mono ?_
      rintro ev w5 ⟨rfl, hg5⟩
      have HG5 : Hid _ := hg5
      clear hg5
      have HB05 : Hid (Below w.heap.size w w5) := HB04.out.grown HG5.out HB04.out.size (fun k hk => by have := HGG.out; simp at hk; omega)
      have HR5' : Hid (Room w5 g' zs) := ((HR2.out.below HB3.out).below HB4.out).grown HG5.out (by have := HGL.out; omega)
      have HO5 : Hid (Got w5 w2.heap.size av out) := HO4.out.frame (fun k hk1 hk2 => HG5.out.block k hk2 (fun e => by have := HGL.out; simp at e; omega)) HG5.out.size
      go_wp2_with fail
      refine (HST'.out w5 HB05.out g' (by have := HGG.out; have := HGL.out; omega) HR5'.out).mono ?_
      rintro ev w6 ⟨rfl, hg6⟩
      have HG6 : Hid _ := hg6
      clear hg6
      have HB06 : Hid (Below w.heap.size w w6) := HB05.out.grown HG6.out HB05.out.size (fun k hk => by have := HGG.out; have := HGL.out; simp at hk; omega)
      have HO6 : Hid (Got w6 w2.heap.size av out) := HO5.out.frame (fun k hk1 hk2 => HG6.out.block k hk2 (fun e => by have := HGL.out; simp at e; omega)) HG6.out.size
      go_wp2_with fail
      refine (HRA.out w6 HB06.out).mono ?_
      rintro ev w7 ⟨hb7, ar, cr, rfl, how7⟩
      have HB7 : Hid _ := hb7
      clear hb7
      have HB07 : Hid (Below w.heap.size w w7) := HB06.out.trans (HB7.out.mono HB06.out.size)
      have HQ7 : Hid (Got w7 w6.heap.size ar out) := got_of how7
      clear how7
      have HO7 : Hid (Got w7 w2.heap.size av out) := HO6.out.frame (fun k _ hk => HB7.out.block k hk) HB7.out.size
      go_wp2_with fail
      refine (HRS.out w7 HB07.out).mono ?_
      rintro ev w8 ⟨a8, cap8, q8, rfl, rfl, hs8, hn8, hm8⟩
      have HB8 : Hid (Below w7.heap.size w7 (w7.drewN q8)) := below_drewN (Below.refl _ _) _
      obtain ⟨w8, HW8⟩ : ∃ w8, Hid (w7.drewN q8 = w8) := ⟨_, rfl⟩
      rw [HW8.out] at HB8 ⊢
      have HB08 : Hid (Below w.heap.size w w8) := HB07.out.trans (HB8.out.mono HB07.out.size)
      go_wp2_with fail
      refine (tell_nil w8).mono ?_
      rintro ev w9 ⟨rfl, hb9⟩
      have HB9 : Hid _ := hb9
      clear hb9
      have HB09 : Hid (Below w.heap.size w w9) := HB08.out.trans (HB9.out.mono HB08.out.size)
      go_wp2_with fail
      refine (tell_nil w9).mono ?_
      rintro ev w10 ⟨rfl, hb10⟩
      have HB10 : Hid _ := hb10
      clear hb10
      have HB010 : Hid (Below w.heap.size w w10) := HB09.out.trans (HB10.out.mono HB09.out.size)
      go_wp2_with fail
      have HO10 : Hid (Got w10 w2.heap.size av out) := ((HO7.out.frame (fun k _ hk => HB8.out.block k hk) HB8.out.size).frame (fun k _ hk => HB9.out.block k hk) HB9.out.size).frame (fun k _ hk => HB10.out.block k hk) HB10.out.size
      have HQ10 : Hid (Got w10 w6.heap.size ar out) := ((HQ7.out.frame (fun k _ hk => HB8.out.block k hk) HB8.out.size).frame (fun k _ hk => HB9.out.block k hk) HB9.out.size).frame (fun k _ hk => HB10.out.block k hk) HB10.out.size
      refine (same_any av ar cv cr out w10 hol (fun h0 => by obtain ⟨g1, e1, _, _, e4⟩ := HO10.out.at_ h0; exact ⟨g1, 0, e1, e4⟩) (fun h0 => by obtain ⟨g1, e1, _, _, e4⟩ := HQ10.out.at_ h0; exact ⟨g1, 0, e1, e4⟩)).mono ?_
      rintro ev w11 ⟨rfl, q11, rfl⟩
      have HB011 : Hid (Below w.heap.size w (w10.drewN q11)) := ⟨HB010.out.os, HB010.out.tape, HB010.out.output, HB010.out.size, HB010.out.block⟩
      obtain ⟨w11, HW11⟩ : ∃ w11, Hid (w10.drewN q11 = w11) := ⟨_, rfl⟩
      rw [HW11.out] at HB011 ⊢
      go_wp2_with fail
      refine (tell_nil w11).mono ?_
      rintro ev w12 ⟨rfl, hb12⟩
      have HB012 : Hid (Below w.heap.size w w12) := HB011.out.trans (hb12.mono HB011.out.size)
      clear hb12
      go_wp2
      go_ret
      exact ⟨rfl, HB012.out⟩
end Go.Proofs.YtblegkefeiefjaaDoor
