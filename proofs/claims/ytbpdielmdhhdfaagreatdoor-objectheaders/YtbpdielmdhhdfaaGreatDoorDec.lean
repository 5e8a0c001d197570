/- Package object: 'Decode'. -/
import Derived.Test.YtbpdielmdhhdfaaGreatDoorDcP
import Derived.Test.YtbpdielmdhhdfaaGreatDoorIdA
import Derived.Deep.Onto
namespace Go.Proofs.YtbpdielmdhhdfaaGreatDoor
open Go.RowKit
set_option linter.unusedVariables false
set_option linter.unusedSimpArgs false
/-- What is cut at the first 0: what stands ahead of it, what stands behind. -/
structure Cu (B : List UInt8) (i : Nat) (d : List UInt8) : Prop where
  le : i ≤ B.length
  gd : ∀ k D, Gd B k D → (Lib.cut (B.take i) [32]).1 = (kN k).data.toList ∧ D = d
  of : ∀ k : Nat, 1 ≤ k → k ≤ 4 → d.length ≤ 100000 → Lib.hasPrefix B (hd k d.length) = true → Gd B k d
theorem cu_none {B : List UInt8} (h : (0 : UInt8) ∉ B) : Cu B B.length [] := by
  refine ⟨Nat.le_refl _, fun k D hg => absurd hg.has h, fun k _ _ _ hp => ?_⟩
  obtain ⟨t, ht⟩ := List.isPrefixOf_iff_prefix.1 hp
  exact absurd (by rw [← ht, hd]; simp) h
theorem cu_some {a d : List UInt8} (h : (0 : UInt8) ∉ a) : Cu (a ++ 0 :: d) a.length d := by
  refine ⟨by simp, fun k D hg => ⟨?_, ((hg.cut rfl h).2).symm⟩, fun k h1 h4 hl hp => gd_of h1 h4 hl rfl h hp⟩
  rw [List.take_left]
  exact hg.name rfl h
theorem sl_one0 (w : World) (c : Int) : Sl (w.alloc (.cells #[.int .u8 c] 5)) (some ⟨w.heap.size, 0, none⟩) 1 [c] :=
  ⟨by simp, fun _ => ⟨w.heap.size, 0, rfl, by simp, fun i hi => by
    have : i = 0 := by simpa using hi
    subst this
    simp⟩, fun h => by cases h⟩
/-- A slice behind j bytes. -/
theorem Sl.from {w : World} {a : Option Addr} {cap : Nat} {l : List Int} (h : Sl w a cap l) (j : Nat) (hj : j ≤ l.length) (h0 : 0 < l.length) : Sl w (if cap = j then a else a.map (fun x => x.add j)) (cap - j) (l.drop j) := by
  obtain ⟨b, off, rfl, e2, e3⟩ := h.at_ h0
  have hc := h.capl
  refine ⟨by rw [List.length_drop]; omega, fun h1 => ?_, fun e => by split at e <;> cases e⟩
  rw [List.length_drop] at h1
  rw [if_neg (by omega)]
  refine ⟨b, off + j, by rw [Option.map_some, addr_add], e2, fun i hi => ?_⟩
  rw [List.length_drop] at hi
  rw [Nat.add_assoc, e3 (j + i) (by omega)]
  simp [List.getD_eq_getElem?_getD, List.getElem?_drop]
/-- What 'bytes.Cut' at a 0 gives. -/
theorem cut_zero (a : Option Addr) (cap : Nat) (zs : List Int) (w : World) (hz : IsB zs) (hS : Sl w a cap zs) :
    ∃ (i : Nat) (da : Option Addr) (dc : Nat) (dz : List Int) (f : Bool), Lib.cutV a zs.length cap 1 (Lib.index (Lib.bytesOf zs) [0]) = .tuple #[.slice a i cap, .slice da dz.length dc, .bool f] ∧ i ≤ zs.length ∧ dz.length ≤ zs.length ∧ IsB dz ∧ Cu (Lib.bytesOf zs) i (Lib.bytesOf dz) ∧ (∀ w', Below w.heap.size w w' → Sl w' da dc dz) := by
  have hlB : (Lib.bytesOf zs).length = zs.length := Lib.bytesOf_length zs
  rcases index_one 0 (Lib.bytesOf zs) with ⟨h1, h2⟩ | ⟨a', d', h1, h2, h3⟩
  · refine ⟨zs.length, none, 0, [], false, ?_, Nat.le_refl _, Nat.zero_le _, (fun x hx => by cases hx), ?_, fun w' _ => ⟨Nat.le_refl _, (fun h => by cases h), fun _ => rfl⟩⟩
    · unfold Lib.cutV; rw [h2, if_neg (by decide)]; rfl
    · have := cu_none h1; rw [hlB] at this; exact this
  · have hd' : d' = Lib.bytesOf (zs.drop (a'.length + 1)) := by rw [Lib.bytesOf_drop, h1]; simp
    have hln : a'.length + 1 ≤ zs.length := by rw [← hlB, h1]; simp
    refine ⟨a'.length, if cap = a'.length + 1 then a else a.map (fun x => x.add (a'.length + 1)), cap - (a'.length + 1), zs.drop (a'.length + 1), true, ?_, by omega, by rw [List.length_drop]; omega, fun x hx => hz x (List.mem_of_mem_drop hx), ?_, fun w' hb => (hS.below hb).from _ hln (by omega)⟩
    · unfold Lib.cutV Lib.fromV
      rw [h3, if_pos (by omega)]
      simp only [Int.toNat_natCast, List.length_drop]
    · rw [← hd', h1]
      exact cu_some h2
theorem there_of {w : World} {g : Nat} {cs : Array Value} {t : TypeId} (h : w.heap[g]? = some (.cells cs t (0, 0))) : w.there g 0 cs.size := fun j hj => by
  rw [Nat.zero_add]
  exact ⟨by rw [cell_of_row w g j _ t _ h]; simp [hj], frozen_of_row w g j _ t h⟩
theorem errE_0' (k : Int) (n : Nat) (h : ¬ (kN k).toList.isEmpty = true) (h2 : ¬ 100000 < n) : errE k n = 0 := by unfold errE; rw [if_neg h, if_neg h2]
theorem kN_ne (k : Nat) (h1 : 1 ≤ k) (h4 : k ≤ 4) : ¬ (kN k).toList.isEmpty = true := by
  have e1 : k = 1 ∨ k = 2 ∨ k = 3 ∨ k = 4 := by omega
  rw [Lib.toList_data, kN_list]
  rcases e1 with rfl | rfl | rfl | rfl <;> simp
theorem kO_gd {B : List UInt8} {i : Nat} {d : List UInt8} (hcu : Cu B i d) {Nm : ByteArray} (hN : Nm = ⟨(Lib.cut (B.take i) [32]).1.toArray⟩) {k : Nat} (hk : kO Nm k) {k' : Nat} {D : List UInt8} (hg : Gd B k' D) : k = k' ∧ D = d := by
  obtain ⟨h1, h2⟩ := hcu.gd k' D hg
  refine ⟨?_, h2⟩
  have hNl : Nm.toList = (kN k').data.toList := by rw [hN, Lib.toList_data]; exact h1
  rcases hk with ⟨e1, e2, e3⟩ | ⟨rfl, e2⟩
  · rw [hNl, Lib.toList_data] at e3
    exact kN_inj k k' e1 e2 hg.lo hg.hi (by simpa using e3)
  · have := e2 k' hg.lo hg.hi
    rw [hNl, Lib.toList_data] at this
    simp at this
theorem range_set2 {W : World} {G : Nat} {x y u v : Value} (c0 : W.cell? ⟨G, 0, none⟩ = some u) (c1 : W.cell? ⟨G, 1, none⟩ = some v) : World.rangeAt ((W.setCell ⟨G, 0, none⟩ x).setCell ⟨G, 1, none⟩ y) G 0 [x, y] := by
  intro j z hz
  rw [Nat.zero_add]
  match j, hz with
  | 0, hz =>
    simp at hz; subst hz
    rw [World.cell?_setCell_other (h := by simp)]
    exact World.cell?_setCell_same _ _ _ c0
  | 1, hz =>
    simp at hz; subst hz
    exact World.cell?_setCell_same _ _ _ (by rw [World.cell?_setCell_other (h := by simp)]; exact c1)
  | j + 2, hz => simp at hz
/-- What 'Decode' gives. -/
def PostD (zs : List Int) (w : World) (e : Ending) (w' : World) : Prop :=
  Below w.heap.size w w' ∧ ((∃ (k : Nat) (D : List UInt8) (g : Option Addr) (c : Nat), Gd (Lib.bytesOf zs) k D ∧ e = .returned (.tuple #[.agg #[.int .i64 k, .slice g D.length c], .nilIface]) ∧ w'.ownsRow w.heap.size 5 1 (.slice g D.length c) D.length ((nums D).map (Value.int .u8))) ∨
    ((∀ k D, ¬ Gd (Lib.bytesOf zs) k D) ∧ e = .returned (.tuple #[.agg #[.int .i64 0, .slice none 0 0], .iface 35 (.int .i64 24)])))
theorem Tryz.results40 : Tryz.f40.results = #[.cell 2 25, .tmp 3] := by kernel_rfl
theorem Tryz.size25 : (Tryz.prog.info? 25).map (·.size) = some 2 := by kernel_rfl
theorem zero25o (w : World) : (zeroValue 25).run Tryz.prog w = .ok (.agg #[.int .i64 0, .slice none 0 0]) w := by kernel_rfl
set_option maxRecDepth 20000 in
set_option maxHeartbeats 4000000 in
theorem decode_any (a : Option Addr) (cap : Nat) (zs : List Int) (w : World) (hl : zs.length ≤ 300000) (hz : IsB zs) (hS : Sl w a cap zs) (ht : Tab w) (hm : Mx w) :
    Calls Tryz.prog 40 #[.slice a zs.length cap] w (PostD zs w) := by
  obtain ⟨n, HN⟩ : ∃ n, Hid (zs.length = n) := ⟨_, rfl⟩
  obtain ⟨G, HG⟩ : ∃ G, Hid (w.heap.size = G) := ⟨_, rfl⟩
  obtain ⟨w1, HW1⟩ : ∃ w1, Hid ((w.alloc (.cells #[.int .i64 0, .slice none 0 0] 25)).alloc (.cells #[.int .u8 0] 5) = w1) := ⟨_, rfl⟩
  have HB1 : Hid (Below G w w1) := hid (by rw [← HW1.out, ← HG.out]; exact ((Below.refl _ w).alloc (Nat.le_refl _) _).alloc (by simp) _)
  have hs1 : w1.heap.size = G + 2 := by rw [← HW1.out, ← HG.out]; simp
  have HR1 : Hid (w1.heap[G]? = some (.cells #[.int .i64 0, .slice none 0 0] 25 (0, 0))) := hid (by
    have h1 := heap_alloc_new w (.cells #[.int .i64 0, .slice none 0 0] 25)
    rw [← HW1.out, ← HG.out, Below.heap_alloc _ _ _ (by simp)]
    exact h1)
  obtain ⟨i, da, dc, dz, f, hV, hi, hdz, hdb, hcu, hsl⟩ := cut_zero a cap zs w hz hS
  have HC1 : Hid (Calls Tryz.prog 81 #[.slice a n cap, .slice (some ⟨G + 1, 0, none⟩) 1 1] w1 fun e w' => e = .returned (.tuple #[.slice a i cap, .slice da dz.length dc, .bool f]) ∧ ∃ q, w' = w1.drewN q) := hid (by
    have h2 : Sl w1 (some ⟨G + 1, 0, none⟩) 1 [0] := by
      have := sl_one0 (w.alloc (.cells #[.int .i64 0, .slice none 0 0] 25)) 0
      rw [HW1.out] at this
      rw [← HG.out]
      simpa using this
    have := bcut_any a (some ⟨G + 1, 0, none⟩) cap 1 zs [0] w1 (by omega) (by simp) hz (by intro x hx; simp at hx; omega) (hS.below (by rw [HG.out]; exact HB1.out)) h2 (hm.below (by rw [HG.out]; exact HB1.out))
    rw [show Lib.bytesOf [0] = [0] from rfl, show ([0] : List Int).length = 1 from rfl, hV, HN.out] at this
    exact this)
  obtain ⟨dn, HDN⟩ : ∃ dn, Hid (dz.length = dn) := ⟨_, rfl⟩
  obtain ⟨Hs, HHs⟩ : ∃ S : ByteArray, Hid (S = ⟨((Lib.bytesOf zs).take i).toArray⟩) := ⟨_, rfl⟩
  obtain ⟨Nm, HNm⟩ : ∃ S : ByteArray, Hid (S = ⟨(Lib.cut ((Lib.bytesOf zs).take i) [32]).1.toArray⟩) := ⟨_, rfl⟩
  obtain ⟨Rs, HRs⟩ : ∃ S : ByteArray, Hid (S = ⟨(Lib.cut ((Lib.bytesOf zs).take i) [32]).2.1.toArray⟩) := ⟨_, rfl⟩
  obtain ⟨f2, HF2⟩ : ∃ f2 : Bool, Hid (f2 = (Lib.cut ((Lib.bytesOf zs).take i) [32]).2.2) := ⟨_, rfl⟩
  have HCV : Hid (∀ W, Below G w W → Sem.run Tryz.prog (convert 23 9 (.slice a i cap)) W = .ok (.string Hs) W) := fun W hW => by
    have := conv_str ((hS.below (by rw [HG.out]; exact hW)).take i)
    rw [List.length_take, Nat.min_eq_left hi, Lib.bytesOf_take, ← HHs.out] at this
    exact this
  have HSC : Hid (∀ W, Below G w W → Calls Tryz.prog 82 #[.string Hs, .string ⟨#[32]⟩] W fun e w' => e = .returned (.tuple #[.string Nm, .string Rs, .bool f2]) ∧ ∃ q, w' = W.drewN q) := fun W hW => by
    rw [HHs.out, HNm.out, HRs.out, HF2.out]
    exact scut_any ((Lib.bytesOf zs).take i) [32] W (by rw [List.length_take, Lib.bytesOf_length]; omega) (hm.below (by rw [HG.out]; exact hW))
  have HKO : Hid (∀ W, Calls Tryz.prog 83 #[.string Nm] W fun e w' => (∃ k : Nat, e = .returned (.int .i64 k) ∧ kO Nm k) ∧ w' = W) := fun W => kindOf_any Nm W
  have HCL : Hid (∀ W, Below G w W → Calls Tryz.prog 84 #[.slice da dn dc] W fun e w' => ∃ ga gc, e = .returned (.slice ga dn gc) ∧ w'.ownsRow W.heap.size 5 1 (.slice ga dn gc) dn (dz.map (Value.int .u8)) ∧ Below W.heap.size W w') := fun W hW => by
    have := clone_any da dc dz W (by omega) (hsl W (by rw [HG.out]; exact hW))
    rw [HDN.out] at this
    refine this.mono ?_
    rintro e w' ⟨v', rfl, h1, h2⟩
    have h1' := h1
    obtain ⟨_, ⟨hv, h0⟩ | ⟨g, cp, cur, hv, _⟩⟩ := h1'
    · subst hv
      exact ⟨none, 0, by rw [h0], by rw [h0]; rw [h0] at h1; exact h1, h2⟩
    · subst hv
      exact ⟨_, _, rfl, h1, h2⟩
  rw [HDN.out] at HC1
  rw [HN.out]
  have HCU : Hid _ := hcu
  have HDB : Hid (IsB dz) := hdb
  have HSS : Hid (∀ W, Below G w W → Sl W a cap zs) := fun W hW => hS.below (by rw [HG.out]; exact hW)
  have HTA : Hid (∀ W, Below G w W → Tab W) := fun W hW => ht.below (by rw [HG.out]; exact hW)
  have hdn : dn ≤ 300000 := by rw [← HDN.out]; omega
  clear hS ht hm hcu hsl hV hdb
  go_enter Tryz.func40, Tryz.ntmps40
  go_wp2_with fail
  rw [HG.out, HW1.out]
  refine HC1.out.mono ?_
  rintro ev w2 ⟨rfl, q2, rfl⟩
  have hb2 : Below w1.heap.size w1 (w1.drewN q2) := ⟨rfl, rfl, rfl, Nat.le_refl _, fun _ _ => rfl⟩
  generalize w1.drewN q2 = w2 at hb2 ⊢
  have hb2s := hb2.size
  have HB2 : Hid (Below G w w2) := HB1.out.trans (hb2.mono (by omega))
  have HR2 : Hid (w2.heap[G]? = some (.cells #[.int .i64 0, .slice none 0 0] 25 (0, 0))) := (hb2.block _ (by omega)).trans HR1.out
  clear hb2
  have hcv := HCV.out w2 HB2.out
  go_wp2_with fail
  refine (HSC.out w2 HB2.out).mono ?_
  rintro ev w3 ⟨rfl, q3, rfl⟩
  have hb3 : Below w2.heap.size w2 (w2.drewN q3) := ⟨rfl, rfl, rfl, Nat.le_refl _, fun _ _ => rfl⟩
  generalize w2.drewN q3 = w3 at hb3 ⊢
  have hb3s := hb3.size
  have HB3 : Hid (Below G w w3) := HB2.out.trans (hb3.mono (by omega))
  have HR3 : Hid (w3.heap[G]? = some (.cells #[.int .i64 0, .slice none 0 0] 25 (0, 0))) := (hb3.block _ (by omega)).trans HR2.out
  clear hb3 hcv
  go_wp2_with fail
  refine (HKO.out w3).mono ?_
  rintro ev w' ⟨⟨k, rfl, hko⟩, rfl⟩
  have HKK : Hid (kO Nm k) := hko
  clear hko
  go_wp2_with fail
  refine (HCL.out _ HB3.out).mono ?_
  rintro ev w4 ⟨ga, gc, rfl, how4, hb4⟩
  have hb4s := hb4.size
  have HB4 : Hid (Below G w w4) := HB3.out.trans (hb4.mono (by omega))
  have HR4 : Hid (w4.heap[G]? = some (.cells #[.int .i64 0, .slice none 0 0] 25 (0, 0))) := (hb4.block _ (by omega)).trans HR3.out
  have HO4 : Hid (w4.ownsRow (G + 2) 5 1 (.slice ga dn gc) dn (dz.map (Value.int .u8))) := World.ownsRow.mono how4 (by omega)
  clear how4 hb4
  go_wp2_with fail
  refine (fits_any k ga dn gc _).mono ?_
  rintro ev w5 ⟨rfl, hw5⟩
  have hb5 : Below w4.heap.size w4 w5 := by rw [hw5]; exact ((Below.refl _ w4).alloc (Nat.le_refl _) _).alloc (by simp) _
  have hs5 : w5.heap.size = w4.heap.size + 2 := by rw [hw5]; simp
  have hc50 : w5.cell? ⟨w4.heap.size, 0, none⟩ = some (.int .i64 k) := by rw [hw5]; simp
  have hc51 : w5.cell? ⟨w4.heap.size, 1, none⟩ = some (.slice ga dn gc) := by rw [hw5]; simp
  obtain ⟨H, HH⟩ : ∃ H, Hid (w4.heap.size = H) := ⟨_, rfl⟩
  rw [HH.out] at hc50 hc51 hb5 hs5 ⊢
  have hGH : G < H := by rw [← HH.out]; omega
  have HB5 : Hid (Below G w w5) := HB4.out.trans (hb5.mono (by omega))
  have HR5 : Hid (w5.heap[G]? = some (.cells #[.int .i64 0, .slice none 0 0] 25 (0, 0))) := (hb5.block _ hGH).trans HR4.out
  have HO5 : Hid (w5.ownsRow (G + 2) 5 1 (.slice ga dn gc) dn (dz.map (Value.int .u8))) := HO4.out.kept (row := none) ⟨hb5.os, hb5.tape, hb5.output, by rw [HH.out]; omega, fun k hk _ => hb5.block k (by rw [← HH.out]; exact hk)⟩ (by cases ga <;> simp [Value.ownBlock])
  clear hb5 hw5
  have hg0 : w5.cell? ⟨G, 0, none⟩ = some (.int .i64 0) := by rw [cell_of_row w5 G 0 _ _ _ HR5.out]; rfl
  have hg1 : w5.cell? ⟨G, 1, none⟩ = some (.slice none 0 0) := by rw [cell_of_row w5 G 1 _ _ _ HR5.out]; rfl
  have hf0 : w5.frozen? ⟨G, 0, none⟩ = false := frozen_of_row w5 G 0 _ _ HR5.out
  have hf1 : w5.frozen? ⟨G, 1, none⟩ = false := frozen_of_row w5 G 1 _ _ HR5.out
  have HNO : Hid (errE k dn ≠ 0 → ∀ k' D, ¬ Gd (Lib.bytesOf zs) k' D) := fun he k' D hg => by
    obtain ⟨rfl, rfl⟩ := kO_gd HCU.out HNm.out HKK.out hg
    have hl := hg.len
    rw [Lib.bytesOf_length, HDN.out] at hl
    exact he (errE_0' k dn (kN_ne k hg.lo hg.hi) (by omega))
  by_cases he : errE k dn = 0
  · obtain ⟨hfv, hd1⟩ := fits_ok k dn he
    rw [hfv]
    have hk14 : 1 ≤ k ∧ k ≤ 4 := by
      rcases HKK.out with ⟨e1, e2, _⟩ | ⟨rfl, _⟩
      · exact ⟨e1, e2⟩
      · exact absurd he (by unfold errE; rw [if_pos (by rw [Lib.toList_data, kN_list]; simp)]; decide)
    have HHD : Hid (Calls Tryz.prog 34 #[.agg #[.int .i64 k, .slice ga dn gc]] w5 fun e w' => e = .returned (.string ⟨(hd k dn).toArray⟩) ∧ Below w5.heap.size w5 w') := header_any k ga dn gc (by omega) w5 (HTA.out _ HB5.out)
    obtain ⟨S, HS⟩ : ∃ S : ByteArray, Hid (S = ⟨(hd k dn).toArray⟩) := ⟨_, rfl⟩
    rw [← HS.out] at HHD
    go_wp2_with fail
    refine HHD.out.mono ?_
    rintro ev w6 ⟨rfl, hb6⟩
    obtain ⟨c7, w7, hr7, hm7, hb7, hs7⟩ := conv_mk (hd k dn) w6
    rw [← HS.out] at hr7
    have hb6s := hb6.size
    have hb57 : Below w5.heap.size w5 w7 := hb6.trans (hb7.mono hb6.size)
    have HB7 : Hid (Below G w w7) := HB5.out.trans (hb57.mono (by omega))
    have HR7 : Hid (w7.heap[G]? = some (.cells #[.int .i64 0, .slice none 0 0] 25 (0, 0))) := (hb57.block _ (by omega)).trans HR5.out
    have HO7 : Hid (w7.ownsRow (G + 2) 5 1 (.slice ga dn gc) dn (dz.map (Value.int .u8))) := HO5.out.kept (row := none) ⟨hb57.os, hb57.tape, hb57.output, hb57.size, fun k hk _ => hb57.block k hk⟩ (by cases ga <;> simp [Value.ownBlock])
    have hc70 : w7.cell? ⟨H, 0, none⟩ = some (.int .i64 k) := (hb57.cell (p := ⟨H, 0, none⟩) (show H < _ by omega)).trans hc50
    have hc71 : w7.cell? ⟨H, 1, none⟩ = some (.slice ga dn gc) := (hb57.cell (p := ⟨H, 1, none⟩) (show H < _ by omega)).trans hc51
    obtain ⟨L, HL⟩ : ∃ L, Hid ((hd k dn).length = L) := ⟨_, rfl⟩
    rw [HL.out] at hr7
    have HPX : Hid (Calls Tryz.prog 85 #[.slice a n cap, .slice (some ⟨w6.heap.size, 0, none⟩) L c7] w7 fun e w' => e = .returned (.bool (Lib.hasPrefix (Lib.bytesOf zs) (hd k dn))) ∧ w' = w7) := by
      have := prefix_any a (some ⟨w6.heap.size, 0, none⟩) cap c7 zs (nums (hd k dn)) w7 (HSS.out w7 HB7.out) hm7.sl
      rw [nums_len, HN.out, HL.out, bytesOf_nums] at this
      exact this
    clear hc50 hc51 hg0 hg1 hf0 hf1 hb6 hb57 hb7 hm7
    cases hp : Lib.hasPrefix (Lib.bytesOf zs) (hd k dn) with
    | true =>
      rw [hp] at HPX
      have hg0 : w7.cell? ⟨G, 0, none⟩ = some (.int .i64 0) := by rw [cell_of_row w7 G 0 _ _ _ HR7.out]; rfl
      have hg1 : w7.cell? ⟨G, 1, none⟩ = some (.slice none 0 0) := by rw [cell_of_row w7 G 1 _ _ _ HR7.out]; rfl
      have hf0 : w7.frozen? ⟨G, 0, none⟩ = false := frozen_of_row w7 G 0 _ _ HR7.out
      have hf1 : w7.frozen? ⟨G, 1, none⟩ = false := frozen_of_row w7 G 1 _ _ HR7.out
      go_wp2_with fail
      refine HPX.out.mono ?_
      rintro ev w' ⟨rfl, rfl⟩
      go_wp2
      have hgd : Gd (Lib.bytesOf zs) k (Lib.bytesOf dz) := HCU.out.of k hk14.1 hk14.2 (by rw [Lib.bytesOf_length, HDN.out]; exact hd1) (by rw [Lib.bytesOf_length, HDN.out]; exact hp)
      refine bodyPost_ret (v := .tuple #[.agg #[.int .i64 k, .slice ga dn gc], .nilIface]) (results_mid2 Tryz.results40 _ _ G [.int .i64 k, .slice ga dn gc] _ rfl (range_set2 hg0 hg1) Tryz.underlying25 rfl Tryz.size25) rfl ⟨by rw [HG.out]; exact (HB7.out.setCell (Nat.le_refl _) _).setCell (Nat.le_refl _) _, .inl ⟨k, Lib.bytesOf dz, ga, gc, hgd, ?_, ?_⟩⟩
      · rw [Lib.bytesOf_length, HDN.out]
      · rw [Lib.bytesOf_length, HDN.out, nums_bytesOf _ HDB.out, HG.out]
        refine World.ownsRow.mono (base := G + 2) (HO7.out.kept (row := some G) (grown_setCell _ (grown_setCell _ ⟨rfl, rfl, rfl, Nat.le_refl _, fun _ _ _ => rfl⟩)) ?_) (by omega)
        cases hob : (Value.slice ga dn gc).ownBlock with
        | none => exact .inl rfl
        | some b =>
          refine .inr fun e => ?_
          have := (own_lt HO7.out b hob).1
          simp at e
          omega
    | false =>
      rw [hp] at HPX
      have hg0 : w7.cell? ⟨G, 0, none⟩ = some (.int .i64 0) := by rw [cell_of_row w7 G 0 _ _ _ HR7.out]; rfl
      have hg1 : w7.cell? ⟨G, 1, none⟩ = some (.slice none 0 0) := by rw [cell_of_row w7 G 1 _ _ _ HR7.out]; rfl
      have hf0 : w7.frozen? ⟨G, 0, none⟩ = false := frozen_of_row w7 G 0 _ _ HR7.out
      have hf1 : w7.frozen? ⟨G, 1, none⟩ = false := frozen_of_row w7 G 1 _ _ HR7.out
      go_wp2_with fail
      refine HPX.out.mono ?_
      rintro ev w' ⟨rfl, rfl⟩
      go_wp2
      refine bodyPost_ret (v := .tuple #[.agg #[.int .i64 0, .slice none 0 0], .iface 35 (.int .i64 24)]) (results_mid2 Tryz.results40 _ _ G [.int .i64 0, .slice none 0 0] _ rfl (range_set2 hg0 hg1) Tryz.underlying25 rfl Tryz.size25) rfl ⟨by rw [HG.out]; exact (HB7.out.setCell (Nat.le_refl _) _).setCell (Nat.le_refl _) _, .inr ⟨?_, rfl⟩⟩
      intro k' D hg
      obtain ⟨rfl, rfl⟩ := kO_gd HCU.out HNm.out HKK.out hg
      have := hg.prefix
      rw [Lib.bytesOf_length, HDN.out, hp] at this
      cases this
  · have hfv := fits_err k dn he
    rw [hfv]
    obtain ⟨er, HER⟩ : ∃ er, Hid (errE k dn = er) := ⟨_, rfl⟩
    rw [HER.out]
    clear hc50 hc51
    go_wp2
    refine bodyPost_ret (v := .tuple #[.agg #[.int .i64 0, .slice none 0 0], .iface 35 (.int .i64 24)]) (results_mid2 Tryz.results40 _ _ G [.int .i64 0, .slice none 0 0] _ rfl (range_set2 hg0 hg1) Tryz.underlying25 rfl Tryz.size25) rfl ⟨by rw [HG.out]; exact (HB5.out.setCell (Nat.le_refl _) _).setCell (Nat.le_refl _) _, .inr ⟨?_, rfl⟩⟩
    exact HNO.out he
end Go.Proofs.YtbpdielmdhhdfaaGreatDoor
