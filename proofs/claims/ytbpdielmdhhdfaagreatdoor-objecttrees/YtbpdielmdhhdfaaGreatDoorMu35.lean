import Derived.Test.YtbpdielmdhhdfaaGreatDoorMu20
import Derived.Test.YtbpdielmdhhdfaaGreatDoorMu05
import Derived.ChangeKeysEq
import Derived.Laws.StructEq
import Derived.Test.YtbpdielmdhhdfaaGreatDoorMu34
import Derived.Test.YtbpdielmdhhdfaaGreatDoorMu12
import Derived.Test.YtbpdielmdhhdfaaGreatDoorMu30
/- The law 'DigestSums': its walk. -/
namespace Go.Proofs.YtbpdielmdhhdfaaGreatDoor
open Go.RowKit
set_option linter.unusedVariables false

theorem eqItems_same {P : Program} (d : Nat) (e : TypeId) (he : P.plainKey e = true) (hu : P.underlying e = some (.int .u8)) (xs : List Int) : ∀ (is : List Nat) (w : World), (∀ j ∈ is, j < xs.length) → (Op.eqItems (d + 1) e 1 (row .u8 xs).toArray (row .u8 xs).toArray is).run P w = .ok true w
  | [], w, _ => by simp [Op.eqItems]
  | j :: is, w, h => by
    have hj := h j (by simp)
    have hp : (part e (row .u8 xs).toArray j).run P w = .ok (.int .u8 (xs.getD j 0)) w := run_part_plain w he (by simpa using row_at .u8 xs j hj)
    simp only [Op.eqItems, Sem.run_bind, Nat.mul_one, hp, Result.andThen_ok]
    simp [go_sem, hu, eqItems_same d e he hu xs is w (fun k hk => h k (by simp [hk]))]
theorem cells5 : Tryz.prog.cellsOf 5 = 1 := by kernel_rfl
theorem plain5 : Tryz.prog.plainKey 5 = true := by kernel_rfl
theorem same25 (xs : List Int) (h : xs.length = 20) (w : World) : (Op.equalIn 10000 32 (.agg (row .u8 xs).toArray) (.agg (row .u8 xs).toArray)).run Tryz.prog w = .ok true w := by
  obtain ⟨i5, hi, -⟩ := info_parts Tryz.info5
  rw [show (10000 : Nat) = 9999 + 1 from rfl, run_equalIn_array w 9999 _ _ Tryz.underlying32 hi, cells5]
  exact eqItems_same 9998 5 plain5 Tryz.underlying5 xs _ w (fun j hj => by rw [h]; simpa using hj)

theorem grown_drewN (w : World) (n : Nat) (r : Option Nat) : w.grownBy (w.drewN n) r := ⟨rfl, rfl, rfl, Nat.le_refl _, fun _ _ _ => rfl⟩
set_option maxHeartbeats 400000 in
theorem still_keep (a : Option Addr) (cap g : Nat) (zs : List Int) (w : World) (hl : zs.length ≤ 300000) (hz : IsB zs) (hr : Room w g zs) (hc : 0 < zs.length → ∃ b off, a = some ⟨b, off, none⟩ ∧ b < g ∧ At w b off zs) :
    Calls Tryz.prog 12 #[.slice (some ⟨g, 0, none⟩) zs.length (zs.length + 2), .slice a zs.length cap] w fun e w' => e = .returned (.bool true) ∧ w.grownBy w' (some g) := by
  have c71 := hr.c71
  have c72 := hr.c72
  go_enter Tryz.func12, Tryz.ntmps12
  go_wp2_with (go_at_call 16; refine (same_any _ _ _ _ zs _ (by omega) (fun _ => ⟨g, 0, rfl, fun i hi => by rw [Nat.zero_add]; exact hr.cell i hi⟩) (fun h => by obtain ⟨b, off, h1, h2, h3⟩ := hc h; exact ⟨b, off, h1, h3⟩)).mono ?_; rintro e w1 ⟨rfl, nq, rfl⟩)
  go_loopw [8] (fun i wr => ∃ k : Nat, k ≤ zs.length + 2 ∧ i = .int .i64 k ∧ Own wr g (zs.length + 2) ∧ (∀ i, wr.frozen? ⟨g, i, none⟩ = false) ∧ w.grownBy wr (some g)) (fun i _ => zs.length + 2 - (intOf i).toNat)
  case atStart => exact ⟨0, Nat.zero_le _, rfl, hr.own hz, hr.fz, grown_drewN _ _ _⟩
  case round =>
    obtain ⟨k, hk, rfl, hown, hfz, hbel⟩ := hrel
    clear c71 c72
    by_cases hlt : k < zs.length + 2
    · obtain ⟨v, hv1, hv2, hcell⟩ := hown k hlt
      obtain ⟨v', hx, hv3, hv4⟩ := xor85 v hv1 hv2
      have hf := hfz k
      go_wp2
      go_roundw
      case rel => exact ⟨k + 1, by omega, by go_num, hown.set k v' hv3 hv4, fun i => by rw [World.frozen?_setCell]; exact hfz i, grown_setCell _ hbel⟩
      case measure => simp [intOf]; omega
    · go_wp2
      go_ret
      exact ⟨rfl, hbel⟩
end Go.Proofs.YtbpdielmdhhdfaaGreatDoor
/- The law's 'decodes'. -/
namespace Go.Proofs.YtbpdielmdhhdfaaGreatDoor
open Go.RowKit
set_option linter.unusedVariables false
set_option linter.unusedSimpArgs false
theorem Room.below {w w' : World} {g : Nat} {zs : List Int} (h : Room w g zs) (hb : Below w.heap.size w w') : Room w' g zs where
  lt := Nat.lt_of_lt_of_le h.lt hb.size
  cell := fun j hj => (hb.cell (p := ⟨g, j, none⟩) h.lt).trans (h.cell j hj)
  c71 := (hb.cell (p := ⟨g, zs.length, none⟩) h.lt).trans h.c71
  c72 := (hb.cell (p := ⟨g, zs.length + 1, none⟩) h.lt).trans h.c72
  fz := fun j => (World.frozen?_of_block (a := ⟨g, j, none⟩) (hb.block g h.lt)).trans (h.fz j)
theorem Room.sl {w : World} {g : Nat} {zs : List Int} (h : Room w g zs) : Sl w (some ⟨g, 0, none⟩) (zs.length + 2) zs :=
  ⟨by omega, fun _ => ⟨g, 0, rfl, h.lt, fun i hi => by rw [Nat.zero_add]; exact h.cell i hi⟩, fun e => by cases e⟩
theorem Sl.grown {w w' : World} {a : Option Addr} {cap : Nat} {l : List Int} {r : Option Nat} (h : Sl w a cap l) (hg : w.grownBy w' r) (hne : ∀ b off, a = some ⟨b, off, none⟩ → some b ≠ r) : Sl w' a cap l :=
  ⟨h.capl, fun h0 => by
    obtain ⟨b, off, e1, e2, e3⟩ := h.at_ h0
    exact ⟨b, off, e1, Nat.lt_of_lt_of_le e2 hg.size, fun i hi => (World.cell?_of_block (a := ⟨b, off + i, none⟩) (hg.block b e2 (hne b off e1))).trans (e3 i hi)⟩, h.nil⟩
/-- What the world holds that errors and numbers want. -/
structure Lw (w : World) : Prop where
  tab : Tab w
  mx : Mx w
  hand : w.cell? ⟨0, 0, none⟩ = some (.iface 188 (.agg #[.pointer (some ⟨9, 28, none⟩)]))
theorem cell_lt0 {w : World} {a : Addr} {v : Value} (h : w.cell? a = some v) : a.block < w.heap.size := by
  rcases Nat.lt_or_ge a.block w.heap.size with h' | h'
  · exact h'
  · simp [World.cell?, Array.getElem?_eq_none h'] at h
theorem Lw.below {w w' : World} (h : Lw w) (hb : Below w.heap.size w w') : Lw w' :=
  ⟨h.tab.below hb, h.mx.below hb, (hb.cell (p := ⟨0, 0, none⟩) (cell_lt0 h.hand)).trans h.hand⟩
theorem owns_sl {w : World} {B : Nat} {a : Option Addr} {c : Nat} {l : List Int} (h : w.ownsRow B 5 1 (.slice a l.length c) l.length (l.map (Value.int .u8))) : Sl w a c l := by
  have h' := h
  obtain ⟨_, ⟨hv, h0⟩ | ⟨g2, cap2, cur, hv, _, hlt, hnc, _⟩⟩ := h'
  · simp only [Value.slice.injEq] at hv
    exact ⟨by omega, fun h1 => by omega, fun _ => hv.2.2⟩
  · simp only [Value.slice.injEq] at hv
    obtain ⟨rfl, _, rfl⟩ := hv
    refine ⟨hnc, fun h0 => ⟨g2, 0, rfl, ?_, fun i hi => ?_⟩, fun e => by cases e⟩
    · exact (own_lt h g2 rfl).2
    · rw [Nat.zero_add, h.cellAt i (by simpa using hi), List.getElem?_map, List.getElem?_eq_getElem hi]
      simp [List.getD_eq_getElem?_getD, List.getElem?_eq_getElem hi]
set_option maxRecDepth 20000 in
set_option maxHeartbeats 4000000 in
theorem decodes_any (a : Option Addr) (cap : Nat) (zs : List Int) (w : World) (hl : zs.length ≤ 300000) (hz : IsB zs) (hS : Sl w a cap zs) (hw : Lw w) :
    Calls Tryz.prog 17 #[.slice a zs.length cap] w fun e w' => e = .returned (.bool true) ∧ Below w.heap.size w w' := by
  obtain ⟨n, HN⟩ : ∃ n, Hid (zs.length = n) := ⟨_, rfl⟩
  obtain ⟨G, HG⟩ : ∃ G, Hid (w.heap.size = G) := ⟨_, rfl⟩
  have HLW : Hid (∀ W, Below G w W → Lw W) := fun W hW => hw.below (by rw [HG.out]; exact hW)
  have HSS : Hid (∀ W, Below G w W → Sl W a cap zs) := fun W hW => hS.below (by rw [HG.out]; exact hW)
  have HSB : Hid (0 < zs.length → ∃ b off, a = some ⟨b, off, none⟩ ∧ b < G) := fun h0 => by
    obtain ⟨b, off, e1, e2, _⟩ := hS.at_ h0
    exact ⟨b, off, e1, by rw [← HG.out]; exact e2⟩
  have HR8 : Hid (Calls Tryz.prog 8 #[.slice a n cap] w fun e w' => e = .returned (.slice (some ⟨G, 0, none⟩) n (n + 2)) ∧ Below G w w' ∧ Room w' G zs) := by
    have := roomy_any a cap zs w hl hS.at_
    rw [HN.out, HG.out] at this
    exact this
  have HDE : Hid (∀ W, Below G w W → Room W G zs → Calls Tryz.prog 40 #[.slice (some ⟨G, 0, none⟩) n (n + 2)] W (PostD zs W)) := fun W hW hr => by
    have := decode_any (some ⟨G, 0, none⟩) (zs.length + 2) zs W hl hz hr.sl (HLW.out W hW).tab (HLW.out W hW).mx
    rw [HN.out] at this
    exact this
  have HRD : Hid (∀ W, Below G w W → Calls Tryz.prog 41 #[.slice a n cap] W (PostF zs W)) := fun W hW => by
    have := refDecode_any a cap zs W hl hz (HSS.out W hW)
    rw [HN.out] at this
    exact this
  have HST : Hid (∀ W, Below G w W → Room W G zs → Calls Tryz.prog 12 #[.slice (some ⟨G, 0, none⟩) n (n + 2), .slice a n cap] W fun e w' => e = .returned (.bool true) ∧ W.grownBy w' (some G)) := fun W hW hr => by
    have := still_keep a cap G zs W hl hz hr (fun h0 => by
      obtain ⟨b, off, e1, e2, e3⟩ := (HSS.out W hW).at_ h0
      obtain ⟨b', off', e1', e2'⟩ := HSB.out h0
      rw [e1] at e1'
      cases e1'
      exact ⟨b, off, e1, e2', e3⟩)
    rw [HN.out] at this
    exact this
  have HTE : Hid (∀ W, Below G w W → Calls Tryz.prog 11 #[.iface 35 (.int .i64 24)] W fun e w' => e = .returned (.int .i64 24) ∧ Below W.heap.size W w') := fun W hW => tell_errno 24 W (HLW.out W hW).hand
  rw [HN.out, HG.out]
  clear hS hw
  go_enter Tryz.func17, Tryz.ntmps17
  go_wp2_with fail
  refine HR8.out.mono ?_
  rintro ev w1 ⟨rfl, hb1, hr1⟩
  have HB1 : Hid _ := hb1
  have HR1 : Hid _ := hr1
  have hG1 : G < w1.heap.size := hr1.lt
  clear hb1 hr1
  go_wp2_with fail
  refine (HDE.out w1 HB1.out HR1.out).mono ?_
  rintro ev w2 ⟨hb2, ⟨k, D, ga, gc, hgd, rfl, hown⟩ | ⟨hng, rfl⟩⟩
  · have hb2s := hb2.size
    have hDl : D.length ≤ 100000 := hgd.len
    have HGD : Hid (Gd (Lib.bytesOf zs) k D) := hgd
    obtain ⟨m, HM⟩ : ∃ m, Hid (D.length = m) := ⟨_, rfl⟩
    have HO2 : Hid (Sl w2 ga gc (nums D)) := owns_sl (B := w1.heap.size) (by rw [nums_len]; exact hown)
    have HNE : Hid (∀ b off, ga = some ⟨b, off, none⟩ → some b ≠ some G) := fun b off e e2 => by
      cases e2
      obtain ⟨_, ⟨hv, h0⟩ | ⟨g2, cap2, cur, hv, hle, _⟩⟩ := hown
      · simp only [Value.slice.injEq] at hv
        rw [e] at hv; cases hv.1
      · simp only [Value.slice.injEq] at hv
        rw [e] at hv; cases hv.1; omega
    rw [HM.out]
    clear hown hgd
    obtain ⟨w3, HW3⟩ : ∃ w3, Hid (w2.alloc (.cells #[.int .i64 k, .slice ga m gc] 25) = w3) := ⟨_, rfl⟩
    obtain ⟨H, HH⟩ : ∃ H, Hid (w2.heap.size = H) := ⟨_, rfl⟩
    have hb23 : Below w2.heap.size w2 w3 := by rw [← HW3.out]; exact (Below.refl _ w2).alloc (Nat.le_refl _) _
    have hb3 : Below w1.heap.size w1 w3 := hb2.trans (hb23.mono hb2.size)
    have HO3 : Hid (Sl w3 ga gc (nums D)) := HO2.out.below hb23
    have hs3 : w3.heap.size = H + 1 := by rw [← HW3.out, ← HH.out]; simp
    have hc30 : w3.cell? ⟨H, 0, none⟩ = some (.int .i64 k) := by rw [← HW3.out, ← HH.out]; simp
    have hc31 : w3.cell? ⟨H, 1, none⟩ = some (.slice ga m gc) := by rw [← HW3.out, ← HH.out]; simp
    have hGH : G < H := by rw [← HH.out]; omega
    have HB3 : Hid (Below G w w3) := HB1.out.trans (hb3.mono (by omega))
    have HR3 : Hid (Room w3 G zs) := HR1.out.below hb3
    clear hb2 hb3 hb23
    go_wp2_with fail
    rw [HW3.out, HH.out]
    refine (tell_nil w3).mono ?_
    rintro ev w4 ⟨rfl, hb4⟩
    have hb4s := hb4.size
    have HB4 : Hid (Below G w w4) := HB3.out.trans (hb4.mono (by omega))
    have HR4 : Hid (Room w4 G zs) := HR3.out.below hb4
    have HO4 : Hid (Sl w4 ga gc (nums D)) := HO3.out.below hb4
    have hc40 : w4.cell? ⟨H, 0, none⟩ = some (.int .i64 k) := (hb4.cell (p := ⟨H, 0, none⟩) (show H < _ by omega)).trans hc30
    have hc41 : w4.cell? ⟨H, 1, none⟩ = some (.slice ga m gc) := (hb4.cell (p := ⟨H, 1, none⟩) (show H < _ by omega)).trans hc31
    clear hb4 hc30 hc31
    go_wp2_with fail
    refine (HST.out w4 HB4.out HR4.out).mono ?_
    rintro ev w5 ⟨rfl, hg5⟩
    have hg5s := hg5.size
    have HB5 : Hid (Below G w w5) := HB4.out.grown hg5 (by omega) (fun k hk => by cases hk; exact Nat.le_refl _)
    have HO5 : Hid (Sl w5 ga gc (nums D)) := HO4.out.grown hg5 HNE.out
    have hc50 : w5.cell? ⟨H, 0, none⟩ = some (.int .i64 k) := (World.cell?_of_block (a := ⟨H, 0, none⟩) (hg5.block H (by omega) (by simp; omega))).trans hc40
    have hc51 : w5.cell? ⟨H, 1, none⟩ = some (.slice ga m gc) := (World.cell?_of_block (a := ⟨H, 1, none⟩) (hg5.block H (by omega) (by simp; omega))).trans hc41
    clear hg5 hc40 hc41
    go_wp2_with fail
    refine (HRD.out w5 HB5.out).mono ?_
    rintro ev w6 ⟨hb6, ⟨k', D', ga', gc', hgd', rfl, hown'⟩ | ⟨hng, rfl⟩⟩
    · obtain ⟨rfl, rfl⟩ := HGD.out.one hgd'
      rw [HM.out]
      have hb6s := hb6.size
      obtain ⟨w7, HW7⟩ : ∃ w7, Hid (w6.alloc (.cells #[.int .i64 k, .slice ga' m gc'] 39) = w7) := ⟨_, rfl⟩
      have hb67 : Below w6.heap.size w6 w7 := by rw [← HW7.out]; exact (Below.refl _ w6).alloc (Nat.le_refl _) _
      have hb7 : Below w5.heap.size w5 w7 := hb6.trans (hb67.mono hb6.size)
      have hc70 : w7.cell? ⟨H, 0, none⟩ = some (.int .i64 k) := (hb7.cell (p := ⟨H, 0, none⟩) (show H < _ by omega)).trans hc50
      have hc71 : w7.cell? ⟨H, 1, none⟩ = some (.slice ga m gc) := (hb7.cell (p := ⟨H, 1, none⟩) (show H < _ by omega)).trans hc51
      have HB7 : Hid (Below G w w7) := HB5.out.trans (hb7.mono (by omega))
      have HO7 : Hid (Sl w7 ga gc (nums D)) := HO5.out.below hb7
      have HQ7 : Hid (Sl w7 ga' gc' (nums D)) := hown'.below hb67
      have HSA : Hid (Calls Tryz.prog 16 #[.slice ga m gc, .slice ga' m gc'] w7 fun e w' => e = .returned (.bool true) ∧ ∃ n, w' = w7.drewN n) := hid (by
        have := same_any ga ga' gc gc' (nums D) w7 (by rw [nums_len]; omega) (fun h0 => by obtain ⟨b, off, e1, _, e3⟩ := HO7.out.at_ h0; exact ⟨b, off, e1, e3⟩) (fun h0 => by obtain ⟨b, off, e1, _, e3⟩ := HQ7.out.at_ h0; exact ⟨b, off, e1, e3⟩)
        rw [nums_len, HM.out] at this
        exact this)
      obtain ⟨H7, HH7⟩ : ∃ H7, Hid (w6.heap.size = H7) := ⟨_, rfl⟩
      have hd0 : w7.cell? ⟨H7, 0, none⟩ = some (.int .i64 k) := by rw [← HW7.out, ← HH7.out]; simp
      have hd1 : w7.cell? ⟨H7, 1, none⟩ = some (.slice ga' m gc') := by rw [← HW7.out, ← HH7.out]; simp
      rw [← HW7.out] at hc70 hc71 HSA
      clear hb6 hb7 hb67 hc50 hc51 hown' hgd'
      go_wp2_with fail
      rw [HW7.out] at HSA ⊢
      refine HSA.out.mono ?_
      rintro ev w8 ⟨rfl, q8, rfl⟩
      have HB8 : Hid (Below G w (w7.drewN q8)) := below_drewH HB7.out q8
      rw [HW7.out] at hc70 hc71
      rw [HH7.out]
      go_wp2
      go_ret
      exact ⟨rfl, HB8.out⟩
    · exact absurd HGD.out (hng k D)
  · have hb2s := hb2.size
    obtain ⟨w3, HW3⟩ : ∃ w3, Hid (w2.alloc (.cells #[.int .i64 0, .slice none 0 0] 25) = w3) := ⟨_, rfl⟩
    obtain ⟨H, HH⟩ : ∃ H, Hid (w2.heap.size = H) := ⟨_, rfl⟩
    have hb3 : Below w1.heap.size w1 w3 := by rw [← HW3.out]; exact hb2.alloc hb2.size _
    have hs3 : w3.heap.size = H + 1 := by rw [← HW3.out, ← HH.out]; simp
    have hc30 : w3.cell? ⟨H, 0, none⟩ = some (.int .i64 0) := by rw [← HW3.out, ← HH.out]; simp
    have hc31 : w3.cell? ⟨H, 1, none⟩ = some (.slice none 0 0) := by rw [← HW3.out, ← HH.out]; simp
    have hGH : G < H := by rw [← HH.out]; omega
    have HB3 : Hid (Below G w w3) := HB1.out.trans (hb3.mono (by omega))
    have HR3 : Hid (Room w3 G zs) := HR1.out.below hb3
    clear hb2 hb3
    go_wp2_with fail
    rw [HW3.out, HH.out]
    refine (HTE.out w3 HB3.out).mono ?_
    rintro ev w4 ⟨rfl, hb4⟩
    have hb4s := hb4.size
    have HB4 : Hid (Below G w w4) := HB3.out.trans (hb4.mono (by omega))
    have HR4 : Hid (Room w4 G zs) := HR3.out.below hb4
    have hc40 : w4.cell? ⟨H, 0, none⟩ = some (.int .i64 0) := (hb4.cell (p := ⟨H, 0, none⟩) (show H < _ by omega)).trans hc30
    have hc41 : w4.cell? ⟨H, 1, none⟩ = some (.slice none 0 0) := (hb4.cell (p := ⟨H, 1, none⟩) (show H < _ by omega)).trans hc31
    clear hb4 hc30 hc31
    go_wp2_with fail
    refine (HST.out w4 HB4.out HR4.out).mono ?_
    rintro ev w5 ⟨rfl, hg5⟩
    have hg5s := hg5.size
    have HB5 : Hid (Below G w w5) := HB4.out.grown hg5 (by omega) (fun k hk => by cases hk; exact Nat.le_refl _)
    have hc50 : w5.cell? ⟨H, 0, none⟩ = some (.int .i64 0) := (World.cell?_of_block (a := ⟨H, 0, none⟩) (hg5.block H (by omega) (by simp; omega))).trans hc40
    have hc51 : w5.cell? ⟨H, 1, none⟩ = some (.slice none 0 0) := (World.cell?_of_block (a := ⟨H, 1, none⟩) (hg5.block H (by omega) (by simp; omega))).trans hc41
    clear hg5 hc40 hc41
    go_wp2_with fail
    refine (HRD.out w5 HB5.out).mono ?_
    rintro ev w6 ⟨hb6, ⟨k, D, ga, gc, hgd, rfl, hown⟩ | ⟨_, rfl⟩⟩
    · exact absurd hgd (hng k D)
    · have hb6s := hb6.size
      obtain ⟨w7, HW7⟩ : ∃ w7, Hid (w6.alloc (.cells #[.int .i64 0, .slice none 0 0] 39) = w7) := ⟨_, rfl⟩
      have hb7 : Below w5.heap.size w5 w7 := by rw [← HW7.out]; exact hb6.alloc hb6.size _
      have hc70 : w7.cell? ⟨H, 0, none⟩ = some (.int .i64 0) := (hb7.cell (p := ⟨H, 0, none⟩) (show H < _ by omega)).trans hc50
      have hc71 : w7.cell? ⟨H, 1, none⟩ = some (.slice none 0 0) := (hb7.cell (p := ⟨H, 1, none⟩) (show H < _ by omega)).trans hc51
      have HB7 : Hid (Below G w w7) := HB5.out.trans (hb7.mono (by omega))
      rw [← HW7.out] at hc70 hc71 HB7
      clear hb6 hb7 hc50 hc51
      go_wp2
      go_ret
      exact ⟨rfl, HB7.out⟩
end Go.Proofs.YtbpdielmdhhdfaaGreatDoor
/- The document's side of chapter 3: 'ID'; the law's 'theirs'. -/
namespace Go.Proofs.YtbpdielmdhhdfaaGreatDoor
open Go.RowKit
set_option linter.unusedVariables false
set_option linter.unusedSimpArgs false
theorem Tryz.results15 : Tryz.f15.results = #[.cell 2 31, .tmp 3] := by kernel_rfl
theorem Tryz.results13 : Tryz.f13.results = #[.cell 2 39] := by kernel_rfl
theorem Tryz.size39 : (Tryz.prog.info? 39).map (·.size) = some 2 := by kernel_rfl
theorem zero31 (w : World) : (zeroValue 31).run Tryz.prog w = .ok (.agg (row .u8 z20).toArray) w := by kernel_rfl
set_option maxRecDepth 20000 in
set_option maxHeartbeats 2000000 in
theorem refID_any (k : Int) (a : Option Addr) (cap : Nat) (zs : List Int) (w : World) (hl : zs.length ≤ 300000) (hz : IsB zs) (hS : Sl w a cap zs) :
    Calls Tryz.prog 15 #[.agg #[.int .i64 k, .slice a zs.length cap]] w fun e w' => e = .returned (.tuple #[.agg (row .u8 (idZ k zs)).toArray, .int .i64 (errE k zs.length)]) ∧ Below w.heap.size w w' := by
  obtain ⟨zr, HZ⟩ : ∃ zr : Array Value, Hid (zr = (row .u8 z20).toArray) := ⟨_, rfl⟩
  have hz25 := zero31
  rw [← HZ.out] at hz25
  obtain ⟨n, HN⟩ : ∃ n, Hid (zs.length = n) := ⟨_, rfl⟩
  obtain ⟨fr, HE⟩ : ∃ fr, Hid (fr = idZ k zs) := ⟨_, rfl⟩
  have hfl : fr.length = 20 := by rw [HE.out]; exact idZ_len _ _
  have hi25 : (Tryz.prog.info? 31).map (·.size) = some (row .u8 fr).length := by rw [row_len, hfl]; exact Tryz.size31
  have T2 : Hid ((Tryz.prog.info? 31).map (·.size) = some (row .u8 fr).toArray.size) := hid (by rw [row_size, hfl]; exact Tryz.size31)
  have T3 : Hid ((row .u8 fr).toArray.all (·.oneCell') = true) := all_oneCell_toArray (row_one _ _)
  obtain ⟨G, HG⟩ : ∃ G, Hid (w.heap.size = G) := ⟨_, rfl⟩
  obtain ⟨w0, HW0⟩ : ∃ w0, Hid ((w.alloc (.cells #[.int .i64 k, .slice a n cap] 39)).alloc (.cells zr 31) = w0) := ⟨_, rfl⟩
  have hs0 : w0.heap.size = G + 2 := by rw [← HW0.out, ← HG.out]; simp
  have hc0 : w0.cell? ⟨G, 0, none⟩ = some (.int .i64 k) := by rw [← HW0.out, ← HG.out]; simp
  have hc1 : w0.cell? ⟨G, 1, none⟩ = some (.slice a n cap) := by rw [← HW0.out, ← HG.out]; simp
  have HR0 : Hid (w0.heap[G + 1]? = some (.cells (row .u8 z20).toArray 31 (0, 0))) := hid (by
    have := heap_alloc_new (w.alloc (.cells #[.int .i64 k, .slice a n cap] 39)) (.cells zr 31)
    rw [HW0.out, HZ.out] at this
    rw [← HG.out]; simpa using this)
  have HB0 : Hid (Below G w w0) := hid (by rw [← HW0.out, ← HG.out]; exact ((Below.refl _ w).alloc (Nat.le_refl _) _).alloc (by simp) _)
  have HEN : Hid (Calls Tryz.prog 14 #[.agg #[.int .i64 k, .slice a n cap]] w0 (PostR k zs w0)) := by
    rw [← HN.out]
    exact refEncode_any k a cap zs w0 hl (hS.below (by rw [HG.out]; exact HB0.out))
  replace hs0 := hid hs0
  rw [HN.out]
  go_enter Tryz.func15, Tryz.ntmps15
  go_wp2_with fail
  rw [HG.out, HW0.out]
  clear hS
  have hl' : Hid (zs.length ≤ 300000) := hl
  clear hl
  refine HEN.out.mono ?_
  rintro ev w1 ⟨hb1, ⟨he, rfl⟩ | ⟨he, g, c1, rfl, h1, h2, h3, h4⟩⟩
  · have hb1s := hb1.size
    rw [hs0.out] at hb1 hb1s
    have HR1 : Hid (w1.heap[G + 1]? = some (.cells (row .u8 z20).toArray 31 (0, 0))) := (hb1.block _ (by omega)).trans HR0.out
    have HB1 : Hid (Below G w w1) := HB0.out.trans (hb1.mono (by omega))
    obtain ⟨er, HER⟩ : ∃ er, Hid (er = errE k zs.length) := ⟨_, rfl⟩
    have HV : Hid (errE k n = er) := hid (by rw [← HN.out, HER.out])
    rw [← HER.out]
    have hfr : fr = z20 := by rw [HE.out]; unfold idZ; rw [if_neg he]
    have T1 : Hid (w1.there (G + 1) 0 (row .u8 fr).toArray.size) := hid (by rw [row_size, hfl]; exact there_row HR1.out rfl)
    have T4 : Hid (w1.there (G + 1) 0 (row .u8 fr).length) := hid (by rw [row_len, hfl]; exact there_row HR1.out rfl)
    obtain rfl : zr = (row .u8 fr).toArray := by rw [HZ.out, hfr]
    have her : ¬ er = 0 := by rw [HER.out]; exact he
    have her2 : (er == 0) = false := by simpa using her
    clear hb1 hfr he hc0 hc1
    go_wp2_with (refine wpList_store_mid rfl 31 _ _ rfl (G + 1) 0 (row .u8 fr).toArray rfl rfl T1.out T2.out T3.out ?_)
    exact bodyPost_ret (v := .tuple #[.agg (row .u8 fr).toArray, .int .i64 er]) (results_mid2 Tryz.results15 _ _ (G + 1) _ _ rfl (World.rangeAt_setCells_same w1 (G + 1) 0 _ T4.out) Tryz.underlying31 rfl hi25) rfl ⟨by rw [HV.out, HE.out], by rw [HG.out]; exact below_setCells (by omega) _ _ _ _ HB1.out⟩
  · have hb1s := hb1.size
    rw [hs0.out] at hb1 hb1s h1
    have HR1 : Hid (w1.heap[G + 1]? = some (.cells (row .u8 z20).toArray 31 (0, 0))) := (hb1.block _ (by omega)).trans HR0.out
    have HB1 : Hid (Below G w w1) := HB0.out.trans (hb1.mono (by omega))
    have HV : Hid (errE k n = 0) := hid (by rw [← HN.out]; exact he)
    have hfr : Hid (fr = sha (encZ k zs)) := hid (by rw [HE.out]; unfold idZ; rw [if_pos he])
    have HSU : Hid (Calls Tryz.prog 39 #[.slice (some ⟨g, 0, none⟩) (encZ k zs).length c1] w1 fun e w' => e = .returned (.agg (row .u8 (sha (encZ k zs))).toArray) ∧ Below w1.heap.size w1 w') :=
      ref_any (some ⟨g, 0, none⟩) c1 (encZ k zs) w1 (by
        have := encZ_len k zs hl'.out
        have := (fits_ok k _ he).2
        omega) (encZ_isB k zs hz) (fun _ => ⟨g, 0, rfl, h2, h3⟩)
    obtain ⟨L, HL⟩ : ∃ L, Hid (L = (encZ k zs).length) := ⟨_, rfl⟩
    rw [← HL.out, ← hfr.out] at HSU
    rw [← HL.out]
    clear hb1 he hc0 hc1 h3 h4
    go_wp2_with fail
    refine HSU.out.mono ?_
    rintro ev w2 ⟨rfl, hb2⟩
    have HR2 : Hid (w2.heap[G + 1]? = some (.cells (row .u8 z20).toArray 31 (0, 0))) := (hb2.block _ (by omega)).trans HR1.out
    have HB2 : Hid (Below G w w2) := HB1.out.trans (hb2.mono (by omega))
    have T1 : Hid (w2.there (G + 1) 0 (row .u8 fr).toArray.size) := hid (by rw [row_size, hfl]; exact there_row HR2.out rfl)
    have T4 : Hid (w2.there (G + 1) 0 (row .u8 fr).length) := hid (by rw [row_len, hfl]; exact there_row HR2.out rfl)
    clear hb2
    go_wp2_with (refine wpList_store_mid rfl 31 _ _ rfl (G + 1) 0 (row .u8 fr).toArray rfl rfl T1.out T2.out T3.out ?_)
    exact bodyPost_ret (v := .tuple #[.agg (row .u8 fr).toArray, .int .i64 0]) (results_mid2 Tryz.results15 _ _ (G + 1) _ _ rfl (World.rangeAt_setCells_same w2 (G + 1) 0 _ T4.out) Tryz.underlying31 rfl hi25) rfl ⟨by rw [HV.out, HE.out], by rw [HG.out]; exact below_setCells (by omega) _ _ _ _ HB2.out⟩
set_option maxRecDepth 20000 in
theorem theirs_any (k : Int) (a : Option Addr) (n cap : Nat) (w : World) : Calls Tryz.prog 13 #[.agg #[.int .i64 k, .slice a n cap]] w fun e w' => e = .returned (.agg #[.int .i64 k, .slice a n cap]) ∧ Below w.heap.size w w' := by
  have HB : Hid (∀ o1 o2, Below w.heap.size w ((w.alloc o1).alloc o2)) := fun o1 o2 => ((Below.refl _ w).alloc (Nat.le_refl _) _).alloc (by simp) _
  go_enter Tryz.func13, Tryz.ntmps13
  go_wp2
  have hr : World.rangeAt ((w.alloc (.cells #[.int .i64 k, .slice a n cap] 25)).alloc (.cells #[.int .i64 k, .slice a n cap] 39)) (w.heap.size + 1) 0 [.int .i64 k, .slice a n cap] := by
    have := heap_alloc_new (w.alloc (.cells #[.int .i64 k, .slice a n cap] 25)) (.cells #[.int .i64 k, .slice a n cap] 39)
    simp only [World.size_alloc] at this
    exact range_row this
  exact bodyPost_ret (v := .agg #[.int .i64 k, .slice a n cap]) (results_mid Tryz.results13 _ _ (w.heap.size + 1) _ _ rfl hr Tryz.underlying39 rfl Tryz.size39) rfl ⟨rfl, HB.out _ _⟩
end Go.Proofs.YtbpdielmdhhdfaaGreatDoor
