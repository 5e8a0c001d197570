/- The law's 'decodes'. -/
import Derived.Test.YtbpdielmdhhdfaaGreatDoorDeR
import Derived.Test.YtbpdielmdhhdfaaGreatDoorTellB
import Derived.Test.YtbpdielmdhhdfaaGreatDoorStill
namespace Go.Proofs.YtbpdielmdhhdfaaGreatDoor
open Go.RowKit
set_option linter.unusedVariables false
set_option linter.unusedSimpArgs false
theorem Room.below {w w' : World} {g : Nat} {zs : List Int} (h : Room w g zs) (hb : Below w.heap.size w w') : Room w' g zs where
  lt := Nat.lt_of_lt_of_le h.lt hb.size
  cell := fun j hj => (hb.cell (p := ⟨g, j, none⟩) h.lt).trans (h.cell j hj)
  c71 := (hb.cell (p := ⟨g, zs.length, none⟩) h.lt).trans h.c71
  c72 := (hb.cell (p := ⟨g, zs.length + 1, none⟩) h.lt).trans h.c72
  fz := fun j => (World.frozen?_of_block (a := ⟨g, j, none⟩) (hb.block g h.lt)).trans (h.fz j)
theorem Room.sl {w : World} {g : Nat} {zs : List Int} (h : Room w g zs) : Sl w (some ⟨g, 0, none⟩) (zs.length + 2) zs :=
  ⟨by omega, fun _ => ⟨g, 0, rfl, h.lt, fun i hi => by rw [Nat.zero_add]; exact h.cell i hi⟩, fun e => by cases e⟩
theorem Sl.grown {w w' : World} {a : Option Addr} {cap : Nat} {l : List Int} {r : Option Nat} (h : Sl w a cap l) (hg : w.grownBy w' r) (hne : ∀ b off, a = some ⟨b, off, none⟩ → some b ≠ r) : Sl w' a cap l :=
  ⟨h.capl, fun h0 => by
    obtain ⟨b, off, e1, e2, e3⟩ := h.at_ h0
    exact ⟨b, off, e1, Nat.lt_of_lt_of_le e2 hg.size, fun i hi => (World.cell?_of_block (a := ⟨b, off + i, none⟩) (hg.block b e2 (hne b off e1))).trans (e3 i hi)⟩, h.nil⟩
/-- What the world holds that errors and numbers want. -/
structure Lw (w : World) : Prop where
  tab : Tab w
  mx : Mx w
  hand : w.cell? ⟨0, 0, none⟩ = some (.iface 188 (.agg #[.pointer (some ⟨9, 28, none⟩)]))
theorem cell_lt0 {w : World} {a : Addr} {v : Value} (h : w.cell? a = some v) : a.block < w.heap.size := by
  rcases Nat.lt_or_ge a.block w.heap.size with h' | h'
  · exact h'
  · simp [World.cell?, Array.getElem?_eq_none h'] at h
theorem Lw.below {w w' : World} (h : Lw w) (hb : Below w.heap.size w w') : Lw w' :=
  ⟨h.tab.below hb, h.mx.below hb, (hb.cell (p := ⟨0, 0, none⟩) (cell_lt0 h.hand)).trans h.hand⟩
theorem owns_sl {w : World} {B : Nat} {a : Option Addr} {c : Nat} {l : List Int} (h : w.ownsRow B 5 1 (.slice a l.length c) l.length (l.map (Value.int .u8))) : Sl w a c l := by
  have h' := h
  obtain ⟨_, ⟨hv, h0⟩ | ⟨g2, cap2, cur, hv, _, hlt, hnc, _⟩⟩ := h'
  · simp only [Value.slice.injEq] at hv
    exact ⟨by omega, fun h1 => by omega, fun _ => hv.2.2⟩
  · simp only [Value.slice.injEq] at hv
    obtain ⟨rfl, _, rfl⟩ := hv
    refine ⟨hnc, fun h0 => ⟨g2, 0, rfl, ?_, fun i hi => ?_⟩, fun e => by cases e⟩
    · exact (own_lt h g2 rfl).2
    · rw [Nat.zero_add, h.cellAt i (by simpa using hi), List.getElem?_map, List.getElem?_eq_getElem hi]
      simp [List.getD_eq_getElem?_getD, List.getElem?_eq_getElem hi]
set_option maxRecDepth 20000 in
set_option maxHeartbeats 4000000 in
theorem decodes_any (a : Option Addr) (cap : Nat) (zs : List Int) (w : World) (hl : zs.length ≤ 300000) (hz : IsB zs) (hS : Sl w a cap zs) (hw : Lw w) :
    Calls Tryz.prog 17 #[.slice a zs.length cap] w fun e w' => e = .returned (.bool true) ∧ Below w.heap.size w w' := by
  obtain ⟨n, HN⟩ : ∃ n, Hid (zs.length = n) := ⟨_, rfl⟩
  obtain ⟨G, HG⟩ : ∃ G, Hid (w.heap.size = G) := ⟨_, rfl⟩
  have HLW : Hid (∀ W, Below G w W → Lw W) := fun W hW => hw.below (by rw [HG.out]; exact hW)
  have HSS : Hid (∀ W, Below G w W → Sl W a cap zs) := fun W hW => hS.below (by rw [HG.out]; exact hW)
  have HSB : Hid (0 < zs.length → ∃ b off, a = some ⟨b, off, none⟩ ∧ b < G) := fun h0 => by
    obtain ⟨b, off, e1, e2, _⟩ := hS.at_ h0
    exact ⟨b, off, e1, by rw [← HG.out]; exact e2⟩
  have HR8 : Hid (Calls Tryz.prog 8 #[.slice a n cap] w fun e w' => e = .returned (.slice (some ⟨G, 0, none⟩) n (n + 2)) ∧ Below G w w' ∧ Room w' G zs) := by
    have := roomy_any a cap zs w hl hS.at_
    rw [HN.out, HG.out] at this
    exact this
  have HDE : Hid (∀ W, Below G w W → Room W G zs → Calls Tryz.prog 40 #[.slice (some ⟨G, 0, none⟩) n (n + 2)] W (PostD zs W)) := fun W hW hr => by
    have := decode_any (some ⟨G, 0, none⟩) (zs.length + 2) zs W hl hz hr.sl (HLW.out W hW).tab (HLW.out W hW).mx
    rw [HN.out] at this
    exact this
  have HRD : Hid (∀ W, Below G w W → Calls Tryz.prog 41 #[.slice a n cap] W (PostF zs W)) := fun W hW => by
    have := refDecode_any a cap zs W hl hz (HSS.out W hW)
    rw [HN.out] at this
    exact this
  have HST : Hid (∀ W, Below G w W → Room W G zs → Calls Tryz.prog 12 #[.slice (some ⟨G, 0, none⟩) n (n + 2), .slice a n cap] W fun e w' => e = .returned (.bool true) ∧ W.grownBy w' (some G)) := fun W hW hr => by
    have := still_keep a cap G zs W hl hz hr (fun h0 => by
      obtain ⟨b, off, e1, e2, e3⟩ := (HSS.out W hW).at_ h0
      obtain ⟨b', off', e1', e2'⟩ := HSB.out h0
      rw [e1] at e1'
      cases e1'
      exact ⟨b, off, e1, e2', e3⟩)
    rw [HN.out] at this
    exact this
  have HTE : Hid (∀ W, Below G w W → Calls Tryz.prog 11 #[.iface 35 (.int .i64 24)] W fun e w' => e = .returned (.int .i64 24) ∧ Below W.heap.size W w') := fun W hW => tell_errno 24 W (HLW.out W hW).hand
  rw [HN.out, HG.out]
  clear hS hw
  go_enter Tryz.func17, Tryz.ntmps17
  go_wp2_with fail
  refine HR8.out.mono ?_
  rintro ev w1 ⟨rfl, hb1, hr1⟩
  have HB1 : Hid _ := hb1
  have HR1 : Hid _ := hr1
  have hG1 : G < w1.heap.size := hr1.lt
  clear hb1 hr1
  go_wp2_with fail
  refine (HDE.out w1 HB1.out HR1.out).mono ?_
  rintro ev w2 ⟨hb2, ⟨k, D, ga, gc, hgd, rfl, hown⟩ | ⟨hng, rfl⟩⟩
  · have hb2s := hb2.size
    have hDl : D.length ≤ 100000 := hgd.len
    have HGD : Hid (Gd (Lib.bytesOf zs) k D) := hgd
    obtain ⟨m, HM⟩ : ∃ m, Hid (D.length = m) := ⟨_, rfl⟩
    have HO2 : Hid (Sl w2 ga gc (nums D)) := owns_sl (B := w1.heap.size) (by rw [nums_len]; exact hown)
    have HNE : Hid (∀ b off, ga = some ⟨b, off, none⟩ → some b ≠ some G) := fun b off e e2 => by
      cases e2
      obtain ⟨_, ⟨hv, h0⟩ | ⟨g2, cap2, cur, hv, hle, _⟩⟩ := hown
      · simp only [Value.slice.injEq] at hv
        rw [e] at hv; cases hv.1
      · simp only [Value.slice.injEq] at hv
        rw [e] at hv; cases hv.1; omega
    rw [HM.out]
    clear hown hgd
    obtain ⟨w3, HW3⟩ : ∃ w3, Hid (w2.alloc (.cells #[.int .i64 k, .slice ga m gc] 25) = w3) := ⟨_, rfl⟩
    obtain ⟨H, HH⟩ : ∃ H, Hid (w2.heap.size = H) := ⟨_, rfl⟩
    have hb23 : Below w2.heap.size w2 w3 := by rw [← HW3.out]; exact (Below.refl _ w2).alloc (Nat.le_refl _) _
    have hb3 : Below w1.heap.size w1 w3 := hb2.trans (hb23.mono hb2.size)
    have HO3 : Hid (Sl w3 ga gc (nums D)) := HO2.out.below hb23
    have hs3 : w3.heap.size = H + 1 := by rw [← HW3.out, ← HH.out]; simp
    have hc30 : w3.cell? ⟨H, 0, none⟩ = some (.int .i64 k) := by rw [← HW3.out, ← HH.out]; simp
    have hc31 : w3.cell? ⟨H, 1, none⟩ = some (.slice ga m gc) := by rw [← HW3.out, ← HH.out]; simp
    have hGH : G < H := by rw [← HH.out]; omega
    have HB3 : Hid (Below G w w3) := HB1.out.trans (hb3.mono (by omega))
    have HR3 : Hid (Room w3 G zs) := HR1.out.below hb3
    clear hb2 hb3 hb23
    go_wp2_with fail
    rw [HW3.out, HH.out]
    refine (tell_nil w3).mono ?_
    rintro ev w4 ⟨rfl, hb4⟩
    have hb4s := hb4.size
    have HB4 : Hid (Below G w w4) := HB3.out.trans (hb4.mono (by omega))
    have HR4 : Hid (Room w4 G zs) := HR3.out.below hb4
    have HO4 : Hid (Sl w4 ga gc (nums D)) := HO3.out.below hb4
    have hc40 : w4.cell? ⟨H, 0, none⟩ = some (.int .i64 k) := (hb4.cell (p := ⟨H, 0, none⟩) (show H < _ by omega)).trans hc30
    have hc41 : w4.cell? ⟨H, 1, none⟩ = some (.slice ga m gc) := (hb4.cell (p := ⟨H, 1, none⟩) (show H < _ by omega)).trans hc31
    clear hb4 hc30 hc31
    go_wp2_with fail
    refine (HST.out w4 HB4.out HR4.out).mono ?_
    rintro ev w5 ⟨rfl, hg5⟩
    have hg5s := hg5.size
    have HB5 : Hid (Below G w w5) := HB4.out.grown hg5 (by omega) (fun k hk => by cases hk; exact Nat.le_refl _)
    have HO5 : Hid (Sl w5 ga gc (nums D)) := HO4.out.grown hg5 HNE.out
    have hc50 : w5.cell? ⟨H, 0, none⟩ = some (.int .i64 k) := (World.cell?_of_block (a := ⟨H, 0, none⟩) (hg5.block H (by omega) (by simp; omega))).trans hc40
    have hc51 : w5.cell? ⟨H, 1, none⟩ = some (.slice ga m gc) := (World.cell?_of_block (a := ⟨H, 1, none⟩) (hg5.block H (by omega) (by simp; omega))).trans hc41
    clear hg5 hc40 hc41
    go_wp2_with fail
    refine (HRD.out w5 HB5.out).mono ?_
    rintro ev w6 ⟨hb6, ⟨k', D', ga', gc', hgd', rfl, hown'⟩ | ⟨hng, rfl⟩⟩
    · obtain ⟨rfl, rfl⟩ := HGD.out.one hgd'
      rw [HM.out]
      have hb6s := hb6.size
      obtain ⟨w7, HW7⟩ : ∃ w7, Hid (w6.alloc (.cells #[.int .i64 k, .slice ga' m gc'] 39) = w7) := ⟨_, rfl⟩
      have hb67 : Below w6.heap.size w6 w7 := by rw [← HW7.out]; exact (Below.refl _ w6).alloc (Nat.le_refl _) _
      have hb7 : Below w5.heap.size w5 w7 := hb6.trans (hb67.mono hb6.size)
      have hc70 : w7.cell? ⟨H, 0, none⟩ = some (.int .i64 k) := (hb7.cell (p := ⟨H, 0, none⟩) (show H < _ by omega)).trans hc50
      have hc71 : w7.cell? ⟨H, 1, none⟩ = some (.slice ga m gc) := (hb7.cell (p := ⟨H, 1, none⟩) (show H < _ by omega)).trans hc51
      have HB7 : Hid (Below G w w7) := HB5.out.trans (hb7.mono (by omega))
      have HO7 : Hid (Sl w7 ga gc (nums D)) := HO5.out.below hb7
      have HQ7 : Hid (Sl w7 ga' gc' (nums D)) := hown'.below hb67
      have HSA : Hid (Calls Tryz.prog 16 #[.slice ga m gc, .slice ga' m gc'] w7 fun e w' => e = .returned (.bool true) ∧ ∃ n, w' = w7.drewN n) := hid (by
        have := same_any ga ga' gc gc' (nums D) w7 (by rw [nums_len]; omega) (fun h0 => by obtain ⟨b, off, e1, _, e3⟩ := HO7.out.at_ h0; exact ⟨b, off, e1, e3⟩) (fun h0 => by obtain ⟨b, off, e1, _, e3⟩ := HQ7.out.at_ h0; exact ⟨b, off, e1, e3⟩)
        rw [nums_len, HM.out] at this
        exact this)
      obtain ⟨H7, HH7⟩ : ∃ H7, Hid (w6.heap.size = H7) := ⟨_, rfl⟩
      have hd0 : w7.cell? ⟨H7, 0, none⟩ = some (.int .i64 k) := by rw [← HW7.out, ← HH7.out]; simp
      have hd1 : w7.cell? ⟨H7, 1, none⟩ = some (.slice ga' m gc') := by rw [← HW7.out, ← HH7.out]; simp
      rw [← HW7.out] at hc70 hc71 HSA
      clear hb6 hb7 hb67 hc50 hc51 hown' hgd'
      go_wp2_with fail
      rw [HW7.out] at HSA ⊢
      refine HSA.out.mono ?_
      rintro ev w8 ⟨rfl, q8, rfl⟩
      have HB8 : Hid (Below G w (w7.drewN q8)) := below_drewH HB7.out q8
      rw [HW7.out] at hc70 hc71
      rw [HH7.out]
      go_wp2
      go_ret
      exact ⟨rfl, HB8.out⟩
    · exact absurd HGD.out (hng k D)
  · have hb2s := hb2.size
    obtain ⟨w3, HW3⟩ : ∃ w3, Hid (w2.alloc (.cells #[.int .i64 0, .slice none 0 0] 25) = w3) := ⟨_, rfl⟩
    obtain ⟨H, HH⟩ : ∃ H, Hid (w2.heap.size = H) := ⟨_, rfl⟩
    have hb3 : Below w1.heap.size w1 w3 := by rw [← HW3.out]; exact hb2.alloc hb2.size _
    have hs3 : w3.heap.size = H + 1 := by rw [← HW3.out, ← HH.out]; simp
    have hc30 : w3.cell? ⟨H, 0, none⟩ = some (.int .i64 0) := by rw [← HW3.out, ← HH.out]; simp
    have hc31 : w3.cell? ⟨H, 1, none⟩ = some (.slice none 0 0) := by rw [← HW3.out, ← HH.out]; simp
    have hGH : G < H := by rw [← HH.out]; omega
    have HB3 : Hid (Below G w w3) := HB1.out.trans (hb3.mono (by omega))
    have HR3 : Hid (Room w3 G zs) := HR1.out.below hb3
    clear hb2 hb3
    go_wp2_with fail
    rw [HW3.out, HH.out]
    refine (HTE.out w3 HB3.out).mono ?_
    rintro ev w4 ⟨rfl, hb4⟩
    have hb4s := hb4.size
    have HB4 : Hid (Below G w w4) := HB3.out.trans (hb4.mono (by omega))
    have HR4 : Hid (Room w4 G zs) := HR3.out.below hb4
    have hc40 : w4.cell? ⟨H, 0, none⟩ = some (.int .i64 0) := (hb4.cell (p := ⟨H, 0, none⟩) (show H < _ by omega)).trans hc30
    have hc41 : w4.cell? ⟨H, 1, none⟩ = some (.slice none 0 0) := (hb4.cell (p := ⟨H, 1, none⟩) (show H < _ by omega)).trans hc31
    clear hb4 hc30 hc31
    go_wp2_with fail
    refine (HST.out w4 HB4.out HR4.out).mono ?_
    rintro ev w5 ⟨rfl, hg5⟩
    have hg5s := hg5.size
    have HB5 : Hid (Below G w w5) := HB4.out.grown hg5 (by omega) (fun k hk => by cases hk; exact Nat.le_refl _)
    have hc50 : w5.cell? ⟨H, 0, none⟩ = some (.int .i64 0) := (World.cell?_of_block (a := ⟨H, 0, none⟩) (hg5.block H (by omega) (by simp; omega))).trans hc40
    have hc51 : w5.cell? ⟨H, 1, none⟩ = some (.slice none 0 0) := (World.cell?_of_block (a := ⟨H, 1, none⟩) (hg5.block H (by omega) (by simp; omega))).trans hc41
    clear hg5 hc40 hc41
    go_wp2_with fail
    refine (HRD.out w5 HB5.out).mono ?_
    rintro ev w6 ⟨hb6, ⟨k, D, ga, gc, hgd, rfl, hown⟩ | ⟨_, rfl⟩⟩
    · exact absurd hgd (hng k D)
    · have hb6s := hb6.size
      obtain ⟨w7, HW7⟩ : ∃ w7, Hid (w6.alloc (.cells #[.int .i64 0, .slice none 0 0] 39) = w7) := ⟨_, rfl⟩
      have hb7 : Below w5.heap.size w5 w7 := by rw [← HW7.out]; exact hb6.alloc hb6.size _
      have hc70 : w7.cell? ⟨H, 0, none⟩ = some (.int .i64 0) := (hb7.cell (p := ⟨H, 0, none⟩) (show H < _ by omega)).trans hc50
      have hc71 : w7.cell? ⟨H, 1, none⟩ = some (.slice none 0 0) := (hb7.cell (p := ⟨H, 1, none⟩) (show H < _ by omega)).trans hc51
      have HB7 : Hid (Below G w w7) := HB5.out.trans (hb7.mono (by omega))
      rw [← HW7.out] at hc70 hc71 HB7
      clear hb6 hb7 hc50 hc51
      go_wp2
      go_ret
      exact ⟨rfl, HB7.out⟩
end Go.Proofs.YtbpdielmdhhdfaaGreatDoor
