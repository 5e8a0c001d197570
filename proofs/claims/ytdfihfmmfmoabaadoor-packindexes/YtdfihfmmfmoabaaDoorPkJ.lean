/- The program's 'WriteIdx'. -/
import Derived.Lib.SlBytesConst
import Derived.Test.YtdfihfmmfmoabaaDoorPkI
namespace Go.Proofs.YtdfihfmmfmoabaaDoor
open Go.RowKit Go.Shelf
variable [Inhabited Pn]
set_option linter.unusedVariables false
set_option linter.unusedSectionVars false
set_option linter.unusedSimpArgs false
/-- What 'WriteIdx' gives. -/
def PostWx (l : List Pl) (sum : List Int) (w : World) (e : Ending) (w' : World) : Prop := Below w.heap.size w w' ∧ ∃ s, s.Perm l ∧ SrtP s ∧
  ((okX l ∧ ∃ a cap, e = .returned (.tuple #[.slice a (idxF s sum).length cap, .nilIface]) ∧ Sl w' a cap (idxF s sum)) ∨ (¬ okX l ∧ e = .returned (.tuple #[.slice none 0 0, .iface 38 (.int .i64 42)])))
/-- So far all is well. -/
def Gd (s : List Pl) (i : Nat) : Prop := ∀ j, j < i → (0 ≤ (s.getD j p0).off ∧ (s.getD j p0).off ≤ 2147483647) ∧ (0 < j → (s.getD j p0).id ≠ (s.getD (j - 1) p0).id)
theorem Gd.ok {s : List Pl} (h : Gd s s.length) (hs : SrtP s) (hw : Wp s) : okX s := by
  refine ⟨fun p hp => ?_, adj_nodup hs hw (fun i h0 hi => (h i hi).2 h0)⟩
  obtain ⟨i, hi, rfl⟩ := List.getElem_of_mem hp
  have := (h i hi).1
  rwa [List.getD_eq_getElem?_getD, List.getElem?_eq_getElem hi] at this
theorem bad_off {s : List Pl} {i : Nat} (hi : i < s.length) (h : ¬ (0 ≤ (s.getD i p0).off ∧ (s.getD i p0).off ≤ 2147483647)) : ¬ okX s := fun hk => by
  have hm : s.getD i p0 ∈ s := by rw [List.getD_eq_getElem?_getD, List.getElem?_eq_getElem hi]; exact List.getElem_mem _
  exact h (hk.1 _ hm)
theorem bad_id {s : List Pl} {i : Nat} (h0 : 0 < i) (hi : i < s.length) (h : (s.getD i p0).id = (s.getD (i - 1) p0).id) : ¬ okX s := fun hk => by
  have h1 := List.pairwise_iff_getElem.1 hk.2 (i - 1) i (by simp; omega) (by simpa using hi) (by omega)
  simp only [List.getElem_map] at h1
  rw [List.getD_eq_getElem?_getD, List.getElem?_eq_getElem hi, List.getD_eq_getElem?_getD, List.getElem?_eq_getElem (show i - 1 < s.length by omega)] at h
  exact h1 h.symm
/-- What the test of a place reads. -/
structure QW (K b po : Nat) (o : Int) (RI RJ : List Value) (W : World) : Prop where
  c20 : W.cell? ⟨K, 20, none⟩ = some (.int .i64 o)
  rk : W.rangeAt K 0 RI
  rp : W.rangeAt b po RJ
theorem hr_head (w : World) : Hr w (w.alloc (.cells #[.int .u8 255, .int .u8 116, .int .u8 79, .int .u8 99, .int .u8 0, .int .u8 0, .int .u8 0, .int .u8 2] 5 (8, 9))) w.heap.size (.slice (some ⟨w.heap.size, 0, none⟩) 8 8) hdX :=
  ⟨(Below.refl _ w).alloc (Nat.le_refl _) _, by simp, w.heap.size, rfl, by simp, fun i hi => by
    have h8 : i < 8 := hi
    rw [World.cell?_alloc_mark]
    rcases i with _ | _ | _ | _ | _ | _ | _ | _ | i
    all_goals first | rfl | omega⟩
theorem take_snocP (s : List Pl) (i : Nat) (h : i < s.length) : s.take (i + 1) = s.take i ++ [s.getD i p0] := by
  rw [List.take_add_one, List.getD_eq_getElem?_getD, List.getElem?_eq_getElem h]; rfl
theorem flat_snoc (f : Pl → List Int) (s : List Pl) (i : Nat) (h : i < s.length) : (s.take (i + 1)).flatMap f = (s.take i).flatMap f ++ f (s.getD i p0) := by
  rw [take_snocP s i h, List.flatMap_append]; simp
theorem flat_le (f : Pl → List Int) (k : Nat) (s : List Pl) (i : Nat) (h : ∀ p ∈ s, (f p).length = k) : ((s.take i).flatMap f).length ≤ k * s.length := by
  rw [flat_len f k (s.take i) (fun p hp => h p (List.mem_of_mem_take hp))]
  exact Nat.mul_le_mul_left k (by rw [List.length_take]; omega)
set_option maxRecDepth 20000 in
set_option maxHeartbeats 8000000 in
theorem writeIdx_any (a : Option Addr) (cap : Nat) (l : List Pl) (sum : List Int) (hs20 : sum.length = 20) (hsb : IsB sum) (w : World) (hw : Wp l) (hl : l.length ≤ 1000) (hP : Pp w a cap l) (ha : Plain0 a) :
    Calls Tryd.prog 4 #[.slice a l.length cap, .agg (row .u8 sum).toArray] w (PostWx l sum w) := by
  obtain ⟨n, HN⟩ : ∃ n, Hid (l.length = n) := ⟨_, rfl⟩
  obtain ⟨G, HG⟩ : ∃ G, Hid (w.heap.size = G) := ⟨_, rfl⟩
  obtain ⟨SU, HSU⟩ : ∃ S : List Value, Hid (row .u8 sum = S) := ⟨_, rfl⟩
  obtain ⟨zr, HZ⟩ : ∃ zr : Array Value, Hid (zr = (plV p0).toArray) := ⟨_, rfl⟩
  have hz32 : ∀ w : World, (zeroValue 32).run Tryd.prog w = .ok (.agg zr) w := fun w => by rw [HZ.out]; exact zero32 w
  have hn : n ≤ 1000 := by rw [← HN.out]; exact hl
  have HQ : Hid (WfQ l) := fun p hp => (hw p hp).1
  have HWP : Hid (Wp l) := hw
  obtain ⟨w1, HW1⟩ : ∃ w1, Hid (w.alloc (.cells SU.toArray 24) = w1) := ⟨_, rfl⟩
  have hb1 : Below w.heap.size w w1 := by rw [← HW1.out]; exact (Below.refl _ w).alloc (Nat.le_refl _) _
  have HB1 : Hid (Below G w w1) := hid (by rw [← HG.out]; exact hb1)
  have HS1 : Hid (w1.heap[G]? = some (.cells SU.toArray 24 (0, 0))) := hid (by rw [← HW1.out, ← HG.out]; exact heap_alloc_new w _)
  have hG1 : G < w1.heap.size := lt_of_some HS1.out
  have C10 : Hid (Calls Tryd.prog 10 #[.slice a n cap] w1 fun e w' => ∃ v, e = .returned v ∧ Bp 32 w1 w' w1.heap.size v l) := hid (by
    rw [← HN.out]; exact clone_any a cap l w1 HQ.out (by omega) (hP.below hb1) ha)
  have h5000 : ¬ (5000 : Int) < (n : Int) := by omega
  rw [HN.out, HSU.out]
  clear hP hw hb1
  go_enter Tryd.func4, Tryd.ntmps4
  go_wp2_with fail
  rw [HG.out, HW1.out]
  refine C10.out.mono ?_
  rintro ev w2 ⟨v, rfl, hb2⟩
  have C11 : Hid (Calls Tryd.prog 11 #[v] w2 fun e w' => e = .returned (.tuple #[]) ∧ PostS w1.heap.size w1 v l w') := hid (sortPlaces_any w1 w2 w1.heap.size v l (Nat.le_refl _) HQ.out (by omega) hb2)
  clear hb2
  go_wp2_with fail
  refine C11.out.mono ?_
  rintro ev w3 ⟨rfl, a3, cap3, s, rfl, hperm, hsrt, hp3, hb3⟩
  have HSP : Hid (s.Perm l) := hperm
  have HSR : Hid (SrtP s) := hsrt
  have HWS : Hid (Wp s) := wp_perm hperm HWP.out
  have HNS : Hid (s.length = n) := hid (by rw [hperm.length_eq, HN.out])
  have HB3 : Hid (Below G w w3) := HB1.out.trans (hb3.mono (Nat.le_of_lt hG1))
  have HS3 : Hid (w3.heap[G]? = some (.cells SU.toArray 24 (0, 0))) := hid ((hb3.block G hG1).trans HS1.out)
  obtain ⟨H, HH⟩ : ∃ H, Hid (w3.heap.size = H) := ⟨_, rfl⟩
  have hGH : G < H := by rw [← HH.out]; exact lt_of_some HS3.out
  have HPP : Hid (∀ W, Below H w3 W → Pp W a3 cap3 s) := fun W hW => hp3.below (by rw [HH.out]; exact hW)
  have HP3 : Hid (Pp w3 a3 cap3 s) := hp3
  have HPL : Hid (0 < n → ∃ b off, a3 = some ⟨b, off, none⟩ ∧ b < H) := fun h0 => by
    obtain ⟨b, off, e1, e2, _⟩ := hp3.at_ (by rw [HNS.out]; exact h0)
    exact ⟨b, off, e1, by rw [← HH.out]; exact e2⟩
  have hcap3 : n ≤ cap3 := by rw [← HNS.out]; exact hp3.capl
  have HBW : Hid (∀ W, Below H w3 W → Below G w W) := fun W hW => HB3.out.trans (hW.mono (Nat.le_of_lt hGH))
  rw [HN.out]
  clear hperm hsrt hp3 hb3
  go_wp2_with fail
  go_loopg [26] n (fun g iv wr => ∃ i : Nat, i ≤ n ∧ g = n - i ∧ iv = .int .i64 i ∧ Hid (Below H w3 wr) ∧ Hid (Gd s i))
  case atStart => exact ⟨0, Nat.zero_le _, rfl, rfl, hid (by rw [← HH.out]; exact Below.refl _ _), fun j hj => by omega⟩
  case round =>
    obtain ⟨i, hi, hg, rfl, HBr, HGd⟩ := hrel
    by_cases hlt : i < n
    · have hlti : (i : Int) < (n : Int) := by omega
      obtain ⟨b, off, hae, hbH⟩ := HPL.out (by omega)
      subst hae
      obtain ⟨b', off', e1, e2, e3⟩ := (HPP.out wr HBr.out).at_ (by rw [HNS.out]; omega)
      cases e1
      obtain ⟨x, HX⟩ : ∃ x, Hid (s.getD i p0 = x) := ⟨_, rfl⟩
      have hxm : x ∈ s := by
        rw [← HX.out, List.getD_eq_getElem?_getD, List.getElem?_eq_getElem (by rw [HNS.out]; exact hlt)]
        exact List.getElem_mem _
      have HX20 : Hid (x.id.length = 20) := (HWS.out x hxm).1
      have HXW : Hid (0 ≤ x.crc ∧ x.crc < 4294967296) := (HWS.out x hxm).2.2
      obtain ⟨R, HR⟩ : ∃ R : List Value, Hid (plV x = R) := ⟨_, rfl⟩
      have RR : Hid (wr.rangeAt b (off + i * 22) R) := hid (by rw [← HR.out, ← HX.out]; exact e3 i (by rw [HNS.out]; exact hlt))
      have HFN : Hid (R.length = 22) := hid (by rw [← HR.out]; exact plV_len x HX20.out)
      have hi32 : (Tryd.prog.info? 32).map (·.size) = some R.length := by rw [HFN.out]; exact Tryd.size32
      have I32 : Hid ((Tryd.prog.info? 32).map (·.size) = some R.toArray.size) := hid (by rw [List.size_toArray]; exact hi32)
      have E32 : Hid (zr.size = R.toArray.size) := hid (by rw [HZ.out, List.size_toArray, List.size_toArray, HFN.out]; rfl)
      have O32 : Hid (R.toArray.all (·.oneCell') = true) := hid (by rw [← HR.out]; exact all_oneCell_toArray (plV_one _))
      have D0 : Hid ((wr.alloc (.cells zr 32)).heap[wr.heap.size]? = some (.cells zr 32 (0, 0))) := heap_alloc_new wr _
      obtain ⟨w4, HW4⟩ : ∃ w4, Hid ((wr.alloc (.cells zr 32)).setRow wr.heap.size R.toArray = w4) := ⟨_, rfl⟩
      obtain ⟨K, HK⟩ : ∃ K, Hid (wr.heap.size = K) := ⟨_, rfl⟩
      have hb4 : Below wr.heap.size wr w4 := by rw [← HW4.out]; exact below_setRow ((Below.refl _ wr).alloc (Nat.le_refl _) _) (Nat.le_refl _) _
      have B4 : Hid (w4.heap[K]? = some (.cells R.toArray 32 (0, 0))) := hid (by rw [← HW4.out, ← HK.out]; exact setRow_heap _ _ _ R.toArray _ _ D0.out)
      have RP : Hid (w4.rangeAt K 0 (plV x)) := hid (by rw [HR.out]; exact range_row B4.out)
      clear hxm e3 e2
      obtain ⟨o, HOF⟩ : ∃ o, Hid (x.off = o) := ⟨_, rfl⟩
      have c20 : w4.cell? ⟨K, 20, none⟩ = some (.int .i64 o) := by rw [← HOF.out]; simpa using pl_off RP.out HX20.out
      have HXI : Hid (i < s.length) := hid (by rw [HNS.out]; exact hlt)
      have HB4 : Hid (Below H w3 w4) := HBr.out.trans (hb4.mono (by have := HBr.out.size; rw [HH.out] at this; exact this))
      have HNO : Hid (∀ e : ¬ okX s, ¬ okX l) := fun e h => e ((okX_perm HSP.out).2 h)
      clear hb4
      obtain ⟨RI, HRI⟩ : ∃ R : List Value, Hid (row .u8 x.id = R) := ⟨_, rfl⟩
      have hiRI : (Tryd.prog.info? 24).map (·.size) = some RI.length := by rw [← HRI.out, row_len, HX20.out]; exact Tryd.size24
      obtain ⟨j, HJJ⟩ : ∃ j, Hid (i - 1 = j) := ⟨_, rfl⟩
      have hjn : j < n := by rw [← HJJ.out]; omega
      obtain ⟨y, HY0⟩ : ∃ y, Hid (s.getD j p0 = y) := ⟨_, rfl⟩
      have HY : Hid (s.getD (i - 1) p0 = y) := hid (by rw [HJJ.out]; exact HY0.out)
      have hym : y ∈ s := by
        rw [← HY0.out, List.getD_eq_getElem?_getD, List.getElem?_eq_getElem (by rw [HNS.out]; exact hjn)]
        exact List.getElem_mem _
      have HY20 : Hid (y.id.length = 20) := (HWS.out y hym).1
      obtain ⟨RJ, HRJ⟩ : ∃ R : List Value, Hid (row .u8 y.id = R) := ⟨_, rfl⟩
      have hiRJ : (Tryd.prog.info? 24).map (·.size) = some RJ.length := by rw [← HRJ.out, row_len, HY20.out]; exact Tryd.size24
      have HQW : Hid (QW K b (off + j * 22) o RI RJ w4.drew) := hid (by
        refine ⟨c20, ?_, ?_⟩
        · rw [← HRI.out]; exact pl_id RP.out
        · obtain ⟨b', off', e1, e2, e3⟩ := (HPP.out w4 HB4.out).at_ (by rw [HNS.out]; omega)
          cases e1
          rw [← HRJ.out, ← HY0.out]
          exact pl_id (e3 j (by rw [HNS.out]; exact hjn)))
      have HBD4 : Hid (Below H w3 w4.drew) := hid (below_drewH HB4.out 1)
      clear c20 hym
      by_cases ho1 : o < 0
      · have HBAD : Hid (¬ okX l) := hid (HNO.out (bad_off HXI.out (by rw [HX.out, HOF.out]; omega)))
        go_wp2_with (first
          | refine wpList_load_mid rfl 32 _ rfl b (off + i * 22) rfl R _ RR.out Tryd.underlying32 rfl hi32 ?_
          | (refine wpList_store_row rfl 32 _ _ rfl wr.heap.size R.toArray rfl rfl 32 zr D0.out I32.out E32.out O32.out ?_; rw [HW4.out, HK.out])
          | fail)
        refine wp_region_held_drew (S := QW K b (off + j * 22) o RI RJ) (by kernel_rfl) (by exact HQW.out) (fun hHeld => ?_)
        generalize w4.drew = u0 at hHeld HBD4 ⊢
        refine takeL (i := 0) (v := ?_) rfl (by kernel_rfl) (by kernel_rfl) (by kernel_rfl) (fun _ _ _ h => h) (Or.inl ⟨by rfl, ?_⟩) hHeld ?_
        rotate_left
        · rintro w' ⟨c20, rk, rp⟩; go_simp; rfl
        try simp only [Act.put, List.setIfInBounds_toArray, List.set_cons_zero, List.set_cons_succ]
        refine takeL (i := 1) (v := ?_) rfl (by kernel_rfl) (by kernel_rfl) (by kernel_rfl) (fun _ _ _ h => h) (Or.inl ⟨by rfl, ?_⟩) hHeld ?_
        rotate_left
        · rintro w' ⟨c20, rk, rp⟩; go_simp; rfl
        try simp only [Act.put, List.setIfInBounds_toArray, List.set_cons_zero, List.set_cons_succ]
        refine takeL (i := 2) (v := .bool true) rfl (by kernel_rfl) (by kernel_rfl) (by kernel_rfl) (fun _ _ _ h => h) (Or.inl ⟨by rfl, ?_⟩) hHeld ?_
        · rintro w' ⟨c20, rk, rp⟩; go_simp; try rfl
        try simp only [Act.put, List.setIfInBounds_toArray, List.set_cons_zero, List.set_cons_succ]
        refine takeL (i := 3) (v := .bool true) rfl (by kernel_rfl) (by kernel_rfl) (by kernel_rfl) (fun _ _ _ h => h) (Or.inl ⟨by rfl, ?_⟩) hHeld ?_
        · rintro w' ⟨c20, rk, rp⟩; go_simp; try rfl
        try simp only [Act.put, List.setIfInBounds_toArray, List.set_cons_zero, List.set_cons_succ]
        refine takeL (i := 4) (v := undef) rfl (by kernel_rfl) (by kernel_rfl) (by kernel_rfl) (fun _ _ _ h => h) (Or.inr ⟨by kernel_rfl, rfl⟩) hHeld ?_
        try simp only [Act.put, List.setIfInBounds_toArray, List.set_cons_zero, List.set_cons_succ]
        refine takeL (i := 5) (v := undef) rfl (by kernel_rfl) (by kernel_rfl) (by kernel_rfl) (fun _ _ _ h => h) (Or.inr ⟨by kernel_rfl, rfl⟩) hHeld ?_
        try simp only [Act.put, List.setIfInBounds_toArray, List.set_cons_zero, List.set_cons_succ]
        refine takeL (i := 6) (v := undef) rfl (by kernel_rfl) (by kernel_rfl) (by kernel_rfl) (fun _ _ _ h => h) (Or.inr ⟨by kernel_rfl, rfl⟩) hHeld ?_
        try simp only [Act.put, List.setIfInBounds_toArray, List.set_cons_zero, List.set_cons_succ]
        refine takeL (i := 7) (v := .bool true) rfl (by kernel_rfl) (by kernel_rfl) (by kernel_rfl) (fun _ _ _ h => h) (Or.inl ⟨by rfl, ?_⟩) hHeld ?_
        · rintro w' ⟨c20, rk, rp⟩; go_simp; try rfl
        try simp only [Act.put, List.setIfInBounds_toArray, List.set_cons_zero, List.set_cons_succ]
        refine takeL (i := 8) (v := .bool true) rfl (by kernel_rfl) (by kernel_rfl) (by kernel_rfl) (fun _ _ _ h => h) (Or.inl ⟨by rfl, ?_⟩) hHeld ?_
        · rintro w' ⟨c20, rk, rp⟩; go_simp; try rfl
        try simp only [Act.put, List.setIfInBounds_toArray, List.set_cons_zero, List.set_cons_succ]
        refine takeL (i := 9) (v := undef) rfl (by kernel_rfl) (by kernel_rfl) (by kernel_rfl) (fun _ _ _ h => h) (Or.inr ⟨by kernel_rfl, rfl⟩) hHeld ?_
        try simp only [Act.put, List.setIfInBounds_toArray, List.set_cons_zero, List.set_cons_succ]
        refine takeL (i := 10) (v := undef) rfl (by kernel_rfl) (by kernel_rfl) (by kernel_rfl) (fun _ _ _ h => h) (Or.inr ⟨by kernel_rfl, rfl⟩) hHeld ?_
        try simp only [Act.put, List.setIfInBounds_toArray, List.set_cons_zero, List.set_cons_succ]
        refine takeL (i := 11) (v := undef) rfl (by kernel_rfl) (by kernel_rfl) (by kernel_rfl) (fun _ _ _ h => h) (Or.inr ⟨by kernel_rfl, rfl⟩) hHeld ?_
        try simp only [Act.put, List.setIfInBounds_toArray, List.set_cons_zero, List.set_cons_succ]
        refine takeL (i := 12) (v := undef) rfl (by kernel_rfl) (by kernel_rfl) (by kernel_rfl) (fun _ _ _ h => h) (Or.inr ⟨by kernel_rfl, rfl⟩) hHeld ?_
        try simp only [Act.put, List.setIfInBounds_toArray, List.set_cons_zero, List.set_cons_succ]
        refine takeL (i := 13) (v := undef) rfl (by kernel_rfl) (by kernel_rfl) (by kernel_rfl) (fun _ _ _ h => h) (Or.inr ⟨by kernel_rfl, rfl⟩) hHeld ?_
        try simp only [Act.put, List.setIfInBounds_toArray, List.set_cons_zero, List.set_cons_succ]
        refine takeL (i := 14) (v := undef) rfl (by kernel_rfl) (by kernel_rfl) (by kernel_rfl) (fun _ _ _ h => h) (Or.inr ⟨by kernel_rfl, rfl⟩) hHeld ?_
        try simp only [Act.put, List.setIfInBounds_toArray, List.set_cons_zero, List.set_cons_succ]
        refine takeL (i := 15) (v := undef) rfl (by kernel_rfl) (by kernel_rfl) (by kernel_rfl) (fun _ _ _ h => h) (Or.inr ⟨by kernel_rfl, rfl⟩) hHeld ?_
        try simp only [Act.put, List.setIfInBounds_toArray, List.set_cons_zero, List.set_cons_succ]
        refine takeL (i := 16) (v := undef) rfl (by kernel_rfl) (by kernel_rfl) (by kernel_rfl) (fun _ _ _ h => h) (Or.inr ⟨by kernel_rfl, rfl⟩) hHeld ?_
        try simp only [Act.put, List.setIfInBounds_toArray, List.set_cons_zero, List.set_cons_succ]
        refine takeL (i := 17) (v := undef) rfl (by kernel_rfl) (by kernel_rfl) (by kernel_rfl) (fun _ _ _ h => h) (Or.inr ⟨by kernel_rfl, rfl⟩) hHeld ?_
        try simp only [Act.put, List.setIfInBounds_toArray, List.set_cons_zero, List.set_cons_succ]
        refine takeL (i := 18) (v := undef) rfl (by kernel_rfl) (by kernel_rfl) (by kernel_rfl) (fun _ _ _ h => h) (Or.inr ⟨by kernel_rfl, rfl⟩) hHeld ?_
        try simp only [Act.put, List.setIfInBounds_toArray, List.set_cons_zero, List.set_cons_succ]
        refine takeL (i := 19) (v := undef) rfl (by kernel_rfl) (by kernel_rfl) (by kernel_rfl) (fun _ _ _ h => h) (Or.inr ⟨by kernel_rfl, rfl⟩) hHeld ?_
        try simp only [Act.put, List.setIfInBounds_toArray, List.set_cons_zero, List.set_cons_succ]
        refine takeL (i := 20) (v := undef) rfl (by kernel_rfl) (by kernel_rfl) (by kernel_rfl) (fun _ _ _ h => h) (Or.inr ⟨by kernel_rfl, rfl⟩) hHeld ?_
        try simp only [Act.put, List.setIfInBounds_toArray, List.set_cons_zero, List.set_cons_succ]
        refine takeL (i := 21) (v := undef) rfl (by kernel_rfl) (by kernel_rfl) (by kernel_rfl) (fun _ _ _ h => h) (Or.inr ⟨by kernel_rfl, rfl⟩) hHeld ?_
        try simp only [Act.put, List.setIfInBounds_toArray, List.set_cons_zero, List.set_cons_succ]
        refine takeL (i := 22) (v := .bool true) rfl (by kernel_rfl) (by kernel_rfl) (by kernel_rfl) (fun _ _ _ h => h) (Or.inl ⟨by rfl, ?_⟩) hHeld ?_
        · rintro w' ⟨c20, rk, rp⟩; go_simp; try rfl
        try simp only [Act.put, List.setIfInBounds_toArray, List.set_cons_zero, List.set_cons_succ]
        refine wpAnyH_done (by kernel_rfl) ?_ _
        clear hHeld
        go_wp2
        go_ret2
        exact ⟨by rw [HG.out]; exact HBW.out _ HBD4.out, s, HSP.out, HSR.out, .inr ⟨HBAD.out, rfl⟩⟩
      by_cases ho2 : 2147483647 < o
      · have HBAD : Hid (¬ okX l) := hid (HNO.out (bad_off HXI.out (by rw [HX.out, HOF.out]; omega)))
        go_wp2_with (first
          | refine wpList_load_mid rfl 32 _ rfl b (off + i * 22) rfl R _ RR.out Tryd.underlying32 rfl hi32 ?_
          | (refine wpList_store_row rfl 32 _ _ rfl wr.heap.size R.toArray rfl rfl 32 zr D0.out I32.out E32.out O32.out ?_; rw [HW4.out, HK.out])
          | fail)
        refine wp_region_held_drew (S := QW K b (off + j * 22) o RI RJ) (by kernel_rfl) (by exact HQW.out) (fun hHeld => ?_)
        generalize w4.drew = u0 at hHeld HBD4 ⊢
        refine takeL (i := 0) (v := ?_) rfl (by kernel_rfl) (by kernel_rfl) (by kernel_rfl) (fun _ _ _ h => h) (Or.inl ⟨by rfl, ?_⟩) hHeld ?_
        rotate_left
        · rintro w' ⟨c20, rk, rp⟩; go_simp; rfl
        try simp only [Act.put, List.setIfInBounds_toArray, List.set_cons_zero, List.set_cons_succ]
        refine takeL (i := 1) (v := ?_) rfl (by kernel_rfl) (by kernel_rfl) (by kernel_rfl) (fun _ _ _ h => h) (Or.inl ⟨by rfl, ?_⟩) hHeld ?_
        rotate_left
        · rintro w' ⟨c20, rk, rp⟩; go_simp; rfl
        try simp only [Act.put, List.setIfInBounds_toArray, List.set_cons_zero, List.set_cons_succ]
        refine takeL (i := 2) (v := .bool false) rfl (by kernel_rfl) (by kernel_rfl) (by kernel_rfl) (fun _ _ _ h => h) (Or.inl ⟨by rfl, ?_⟩) hHeld ?_
        · rintro w' ⟨c20, rk, rp⟩; go_simp; try rfl
        try simp only [Act.put, List.setIfInBounds_toArray, List.set_cons_zero, List.set_cons_succ]
        refine takeL (i := 3) (v := .bool false) rfl (by kernel_rfl) (by kernel_rfl) (by kernel_rfl) (fun _ _ _ h => h) (Or.inl ⟨by rfl, ?_⟩) hHeld ?_
        · rintro w' ⟨c20, rk, rp⟩; go_simp; try rfl
        try simp only [Act.put, List.setIfInBounds_toArray, List.set_cons_zero, List.set_cons_succ]
        refine takeL (i := 4) (v := ?_) rfl (by kernel_rfl) (by kernel_rfl) (by kernel_rfl) (fun _ _ _ h => h) (Or.inl ⟨by kernel_rfl, ?_⟩) hHeld ?_
        rotate_left
        · rintro w' ⟨c20, rk, rp⟩; go_simp; rfl
        try simp only [Act.put, List.setIfInBounds_toArray, List.set_cons_zero, List.set_cons_succ]
        refine takeL (i := 5) (v := ?_) rfl (by kernel_rfl) (by kernel_rfl) (by kernel_rfl) (fun _ _ _ h => h) (Or.inl ⟨by kernel_rfl, ?_⟩) hHeld ?_
        rotate_left
        · rintro w' ⟨c20, rk, rp⟩; go_simp; rfl
        try simp only [Act.put, List.setIfInBounds_toArray, List.set_cons_zero, List.set_cons_succ]
        refine takeL (i := 6) (v := .bool true) rfl (by kernel_rfl) (by kernel_rfl) (by kernel_rfl) (fun _ _ _ h => h) (Or.inl ⟨by kernel_rfl, ?_⟩) hHeld ?_
        · rintro w' ⟨c20, rk, rp⟩; go_simp; try rfl
        try simp only [Act.put, List.setIfInBounds_toArray, List.set_cons_zero, List.set_cons_succ]
        refine takeL (i := 7) (v := .bool true) rfl (by kernel_rfl) (by kernel_rfl) (by kernel_rfl) (fun _ _ _ h => h) (Or.inl ⟨by rfl, ?_⟩) hHeld ?_
        · rintro w' ⟨c20, rk, rp⟩; go_simp; try rfl
        try simp only [Act.put, List.setIfInBounds_toArray, List.set_cons_zero, List.set_cons_succ]
        refine takeL (i := 8) (v := .bool true) rfl (by kernel_rfl) (by kernel_rfl) (by kernel_rfl) (fun _ _ _ h => h) (Or.inl ⟨by rfl, ?_⟩) hHeld ?_
        · rintro w' ⟨c20, rk, rp⟩; go_simp; try rfl
        try simp only [Act.put, List.setIfInBounds_toArray, List.set_cons_zero, List.set_cons_succ]
        refine takeL (i := 9) (v := undef) rfl (by kernel_rfl) (by kernel_rfl) (by kernel_rfl) (fun _ _ _ h => h) (Or.inr ⟨by kernel_rfl, rfl⟩) hHeld ?_
        try simp only [Act.put, List.setIfInBounds_toArray, List.set_cons_zero, List.set_cons_succ]
        refine takeL (i := 10) (v := undef) rfl (by kernel_rfl) (by kernel_rfl) (by kernel_rfl) (fun _ _ _ h => h) (Or.inr ⟨by kernel_rfl, rfl⟩) hHeld ?_
        try simp only [Act.put, List.setIfInBounds_toArray, List.set_cons_zero, List.set_cons_succ]
        refine takeL (i := 11) (v := undef) rfl (by kernel_rfl) (by kernel_rfl) (by kernel_rfl) (fun _ _ _ h => h) (Or.inr ⟨by kernel_rfl, rfl⟩) hHeld ?_
        try simp only [Act.put, List.setIfInBounds_toArray, List.set_cons_zero, List.set_cons_succ]
        refine takeL (i := 12) (v := undef) rfl (by kernel_rfl) (by kernel_rfl) (by kernel_rfl) (fun _ _ _ h => h) (Or.inr ⟨by kernel_rfl, rfl⟩) hHeld ?_
        try simp only [Act.put, List.setIfInBounds_toArray, List.set_cons_zero, List.set_cons_succ]
        refine takeL (i := 13) (v := undef) rfl (by kernel_rfl) (by kernel_rfl) (by kernel_rfl) (fun _ _ _ h => h) (Or.inr ⟨by kernel_rfl, rfl⟩) hHeld ?_
        try simp only [Act.put, List.setIfInBounds_toArray, List.set_cons_zero, List.set_cons_succ]
        refine takeL (i := 14) (v := undef) rfl (by kernel_rfl) (by kernel_rfl) (by kernel_rfl) (fun _ _ _ h => h) (Or.inr ⟨by kernel_rfl, rfl⟩) hHeld ?_
        try simp only [Act.put, List.setIfInBounds_toArray, List.set_cons_zero, List.set_cons_succ]
        refine takeL (i := 15) (v := undef) rfl (by kernel_rfl) (by kernel_rfl) (by kernel_rfl) (fun _ _ _ h => h) (Or.inr ⟨by kernel_rfl, rfl⟩) hHeld ?_
        try simp only [Act.put, List.setIfInBounds_toArray, List.set_cons_zero, List.set_cons_succ]
        refine takeL (i := 16) (v := undef) rfl (by kernel_rfl) (by kernel_rfl) (by kernel_rfl) (fun _ _ _ h => h) (Or.inr ⟨by kernel_rfl, rfl⟩) hHeld ?_
        try simp only [Act.put, List.setIfInBounds_toArray, List.set_cons_zero, List.set_cons_succ]
        refine takeL (i := 17) (v := undef) rfl (by kernel_rfl) (by kernel_rfl) (by kernel_rfl) (fun _ _ _ h => h) (Or.inr ⟨by kernel_rfl, rfl⟩) hHeld ?_
        try simp only [Act.put, List.setIfInBounds_toArray, List.set_cons_zero, List.set_cons_succ]
        refine takeL (i := 18) (v := undef) rfl (by kernel_rfl) (by kernel_rfl) (by kernel_rfl) (fun _ _ _ h => h) (Or.inr ⟨by kernel_rfl, rfl⟩) hHeld ?_
        try simp only [Act.put, List.setIfInBounds_toArray, List.set_cons_zero, List.set_cons_succ]
        refine takeL (i := 19) (v := undef) rfl (by kernel_rfl) (by kernel_rfl) (by kernel_rfl) (fun _ _ _ h => h) (Or.inr ⟨by kernel_rfl, rfl⟩) hHeld ?_
        try simp only [Act.put, List.setIfInBounds_toArray, List.set_cons_zero, List.set_cons_succ]
        refine takeL (i := 20) (v := undef) rfl (by kernel_rfl) (by kernel_rfl) (by kernel_rfl) (fun _ _ _ h => h) (Or.inr ⟨by kernel_rfl, rfl⟩) hHeld ?_
        try simp only [Act.put, List.setIfInBounds_toArray, List.set_cons_zero, List.set_cons_succ]
        refine takeL (i := 21) (v := undef) rfl (by kernel_rfl) (by kernel_rfl) (by kernel_rfl) (fun _ _ _ h => h) (Or.inr ⟨by kernel_rfl, rfl⟩) hHeld ?_
        try simp only [Act.put, List.setIfInBounds_toArray, List.set_cons_zero, List.set_cons_succ]
        refine takeL (i := 22) (v := .bool true) rfl (by kernel_rfl) (by kernel_rfl) (by kernel_rfl) (fun _ _ _ h => h) (Or.inl ⟨by rfl, ?_⟩) hHeld ?_
        · rintro w' ⟨c20, rk, rp⟩; go_simp; try rfl
        try simp only [Act.put, List.setIfInBounds_toArray, List.set_cons_zero, List.set_cons_succ]
        refine wpAnyH_done (by kernel_rfl) ?_ _
        clear hHeld
        go_wp2
        go_ret2
        exact ⟨by rw [HG.out]; exact HBW.out _ HBD4.out, s, HSP.out, HSR.out, .inr ⟨HBAD.out, rfl⟩⟩
      have HOK1 : Hid (0 ≤ (s.getD i p0).off ∧ (s.getD i p0).off ≤ 2147483647) := hid (by rw [HX.out, HOF.out]; omega)
      by_cases hi0 : i = 0
      · have HG2 : Hid (Gd s (i + 1)) := fun j hj => by
          obtain rfl : j = i := by omega
          exact ⟨HOK1.out, fun h => by omega⟩
        have hi0i : ¬ (0 : Int) < (i : Int) := by omega
        have HI0 : Hid (i = 0) := hi0
        have hgt : decide ((0 : Int) < (i : Int)) = false := decide_eq_false (by omega)
        have hgt2 : ¬ 0 < i := by omega
        clear hi0
        go_wp2_with (first
          | refine wpList_load_mid rfl 32 _ rfl b (off + i * 22) rfl R _ RR.out Tryd.underlying32 rfl hi32 ?_
          | (refine wpList_store_row rfl 32 _ _ rfl wr.heap.size R.toArray rfl rfl 32 zr D0.out I32.out E32.out O32.out ?_; rw [HW4.out, HK.out])
          | fail)
        refine wp_region_held_drew (S := QW K b (off + j * 22) o RI RJ) (by kernel_rfl) (by exact HQW.out) (fun hHeld => ?_)
        generalize w4.drew = u0 at hHeld HBD4 ⊢
        refine takeL (i := 0) (v := ?_) rfl (by kernel_rfl) (by kernel_rfl) (by kernel_rfl) (fun _ _ _ h => h) (Or.inl ⟨by rfl, ?_⟩) hHeld ?_
        rotate_left
        · rintro w' ⟨c20, rk, rp⟩; go_simp; rfl
        try simp only [Act.put, List.setIfInBounds_toArray, List.set_cons_zero, List.set_cons_succ]
        refine takeL (i := 1) (v := ?_) rfl (by kernel_rfl) (by kernel_rfl) (by kernel_rfl) (fun _ _ _ h => h) (Or.inl ⟨by rfl, ?_⟩) hHeld ?_
        rotate_left
        · rintro w' ⟨c20, rk, rp⟩; go_simp; rfl
        try simp only [Act.put, List.setIfInBounds_toArray, List.set_cons_zero, List.set_cons_succ]
        refine takeL (i := 2) (v := .bool false) rfl (by kernel_rfl) (by kernel_rfl) (by kernel_rfl) (fun _ _ _ h => h) (Or.inl ⟨by rfl, ?_⟩) hHeld ?_
        · rintro w' ⟨c20, rk, rp⟩; go_simp; try rfl
        try simp only [Act.put, List.setIfInBounds_toArray, List.set_cons_zero, List.set_cons_succ]
        refine takeL (i := 3) (v := .bool false) rfl (by kernel_rfl) (by kernel_rfl) (by kernel_rfl) (fun _ _ _ h => h) (Or.inl ⟨by rfl, ?_⟩) hHeld ?_
        · rintro w' ⟨c20, rk, rp⟩; go_simp; try rfl
        try simp only [Act.put, List.setIfInBounds_toArray, List.set_cons_zero, List.set_cons_succ]
        refine takeL (i := 4) (v := ?_) rfl (by kernel_rfl) (by kernel_rfl) (by kernel_rfl) (fun _ _ _ h => h) (Or.inl ⟨by kernel_rfl, ?_⟩) hHeld ?_
        rotate_left
        · rintro w' ⟨c20, rk, rp⟩; go_simp; rfl
        try simp only [Act.put, List.setIfInBounds_toArray, List.set_cons_zero, List.set_cons_succ]
        refine takeL (i := 5) (v := ?_) rfl (by kernel_rfl) (by kernel_rfl) (by kernel_rfl) (fun _ _ _ h => h) (Or.inl ⟨by kernel_rfl, ?_⟩) hHeld ?_
        rotate_left
        · rintro w' ⟨c20, rk, rp⟩; go_simp; rfl
        try simp only [Act.put, List.setIfInBounds_toArray, List.set_cons_zero, List.set_cons_succ]
        refine takeL (i := 6) (v := .bool false) rfl (by kernel_rfl) (by kernel_rfl) (by kernel_rfl) (fun _ _ _ h => h) (Or.inl ⟨by kernel_rfl, ?_⟩) hHeld ?_
        · rintro w' ⟨c20, rk, rp⟩; go_simp; try rfl
        try simp only [Act.put, List.setIfInBounds_toArray, List.set_cons_zero, List.set_cons_succ]
        refine takeL (i := 7) (v := .bool false) rfl (by kernel_rfl) (by kernel_rfl) (by kernel_rfl) (fun _ _ _ h => h) (Or.inl ⟨by rfl, ?_⟩) hHeld ?_
        · rintro w' ⟨c20, rk, rp⟩; go_simp; try rfl
        try simp only [Act.put, List.setIfInBounds_toArray, List.set_cons_zero, List.set_cons_succ]
        refine takeL (i := 8) (v := .bool false) rfl (by kernel_rfl) (by kernel_rfl) (by kernel_rfl) (fun _ _ _ h => h) (Or.inl ⟨by rfl, ?_⟩) hHeld ?_
        · rintro w' ⟨c20, rk, rp⟩; go_simp; try rfl
        try simp only [Act.put, List.setIfInBounds_toArray, List.set_cons_zero, List.set_cons_succ]
        refine takeL (i := 9) (v := ?_) rfl (by kernel_rfl) (by kernel_rfl) (by kernel_rfl) (fun _ _ _ h => h) (Or.inl ⟨by kernel_rfl, ?_⟩) hHeld ?_
        rotate_left
        · rintro w' ⟨c20, rk, rp⟩; go_simp; rfl
        try simp only [Act.put, List.setIfInBounds_toArray, List.set_cons_zero, List.set_cons_succ]
        refine takeL (i := 10) (v := .bool false) rfl (by kernel_rfl) (by kernel_rfl) (by kernel_rfl) (fun _ _ _ h => h) (Or.inl ⟨by kernel_rfl, ?_⟩) hHeld ?_
        · rintro w' ⟨c20, rk, rp⟩; go_simp; try rfl
        try simp only [Act.put, List.setIfInBounds_toArray, List.set_cons_zero, List.set_cons_succ]
        refine takeL (i := 11) (v := .bool false) rfl (by kernel_rfl) (by kernel_rfl) (by kernel_rfl) (fun _ _ _ h => h) (Or.inl ⟨by kernel_rfl, ?_⟩) hHeld ?_
        · rintro w' ⟨c20, rk, rp⟩; go_simp; try rfl
        try simp only [Act.put, List.setIfInBounds_toArray, List.set_cons_zero, List.set_cons_succ]
        refine takeL (i := 12) (v := undef) rfl (by kernel_rfl) (by kernel_rfl) (by kernel_rfl) (fun _ _ _ h => h) (Or.inr ⟨by kernel_rfl, rfl⟩) hHeld ?_
        try simp only [Act.put, List.setIfInBounds_toArray, List.set_cons_zero, List.set_cons_succ]
        refine takeL (i := 13) (v := undef) rfl (by kernel_rfl) (by kernel_rfl) (by kernel_rfl) (fun _ _ _ h => h) (Or.inr ⟨by kernel_rfl, rfl⟩) hHeld ?_
        try simp only [Act.put, List.setIfInBounds_toArray, List.set_cons_zero, List.set_cons_succ]
        refine takeL (i := 14) (v := undef) rfl (by kernel_rfl) (by kernel_rfl) (by kernel_rfl) (fun _ _ _ h => h) (Or.inr ⟨by kernel_rfl, rfl⟩) hHeld ?_
        try simp only [Act.put, List.setIfInBounds_toArray, List.set_cons_zero, List.set_cons_succ]
        refine takeL (i := 15) (v := undef) rfl (by kernel_rfl) (by kernel_rfl) (by kernel_rfl) (fun _ _ _ h => h) (Or.inr ⟨by kernel_rfl, rfl⟩) hHeld ?_
        try simp only [Act.put, List.setIfInBounds_toArray, List.set_cons_zero, List.set_cons_succ]
        refine takeL (i := 16) (v := undef) rfl (by kernel_rfl) (by kernel_rfl) (by kernel_rfl) (fun _ _ _ h => h) (Or.inr ⟨by kernel_rfl, rfl⟩) hHeld ?_
        try simp only [Act.put, List.setIfInBounds_toArray, List.set_cons_zero, List.set_cons_succ]
        refine takeL (i := 17) (v := undef) rfl (by kernel_rfl) (by kernel_rfl) (by kernel_rfl) (fun _ _ _ h => h) (Or.inr ⟨by kernel_rfl, rfl⟩) hHeld ?_
        try simp only [Act.put, List.setIfInBounds_toArray, List.set_cons_zero, List.set_cons_succ]
        refine takeL (i := 18) (v := undef) rfl (by kernel_rfl) (by kernel_rfl) (by kernel_rfl) (fun _ _ _ h => h) (Or.inr ⟨by kernel_rfl, rfl⟩) hHeld ?_
        try simp only [Act.put, List.setIfInBounds_toArray, List.set_cons_zero, List.set_cons_succ]
        refine takeL (i := 19) (v := undef) rfl (by kernel_rfl) (by kernel_rfl) (by kernel_rfl) (fun _ _ _ h => h) (Or.inr ⟨by kernel_rfl, rfl⟩) hHeld ?_
        try simp only [Act.put, List.setIfInBounds_toArray, List.set_cons_zero, List.set_cons_succ]
        refine takeL (i := 20) (v := undef) rfl (by kernel_rfl) (by kernel_rfl) (by kernel_rfl) (fun _ _ _ h => h) (Or.inr ⟨by kernel_rfl, rfl⟩) hHeld ?_
        try simp only [Act.put, List.setIfInBounds_toArray, List.set_cons_zero, List.set_cons_succ]
        refine takeL (i := 21) (v := .bool false) rfl (by kernel_rfl) (by kernel_rfl) (by kernel_rfl) (fun _ _ _ h => h) (Or.inl ⟨by kernel_rfl, ?_⟩) hHeld ?_
        · rintro w' ⟨c20, rk, rp⟩; go_simp; try rfl
        try simp only [Act.put, List.setIfInBounds_toArray, List.set_cons_zero, List.set_cons_succ]
        refine takeL (i := 22) (v := .bool false) rfl (by kernel_rfl) (by kernel_rfl) (by kernel_rfl) (fun _ _ _ h => h) (Or.inl ⟨by rfl, ?_⟩) hHeld ?_
        · rintro w' ⟨c20, rk, rp⟩; go_simp; try rfl
        try simp only [Act.put, List.setIfInBounds_toArray, List.set_cons_zero, List.set_cons_succ]
        refine wpAnyH_done (by kernel_rfl) ?_ _
        clear hHeld
        go_wp2
        go_roundg (n - (i + 1))
        case measure => omega
        case rel => exact ⟨i + 1, by omega, rfl, by go_num, HBD4, HG2⟩
      have hi0i : (0 : Int) < (i : Int) := by omega
      have hsub0 : (i : Int) - 1 = (j : Int) := by have := HJJ.out; omega
      have hjni : (j : Int) < (n : Int) := by omega
      have hi0n : 0 < i := by omega
      have hwj : IntKind.i64.wrap (j : Int) = (j : Int) := wrap_i64 j (by omega)
      have hsub : IntKind.i64.wrap ((i : Int) - 1) = (j : Int) := by rw [hsub0]; exact wrap_i64 j (by omega)
      obtain ⟨eb, HEB⟩ : ∃ eb, Hid (decide (x.id = y.id) = eb) := ⟨_, rfl⟩
      have heq : ∀ w : World, (Op.equalIn 10000 24 (.agg RI.toArray) (.agg RJ.toArray)).run Tryd.prog w = .ok eb w := fun w => by
        rw [← HRI.out, ← HRJ.out, ← HEB.out]
        exact eq24 x.id y.id HX20.out HY20.out w
      have HI0 : Hid (0 < i) := hid (by omega)
      clear hi0
      cases eb with
      | true =>
        have HBAD : Hid (¬ okX l) := hid (HNO.out (bad_id HI0.out HXI.out (by rw [HX.out, HY.out]; exact of_decide_eq_true HEB.out)))
        go_wp2_with (first
          | refine wpList_load_mid rfl 32 _ rfl b (off + i * 22) rfl R _ RR.out Tryd.underlying32 rfl hi32 ?_
          | (refine wpList_store_row rfl 32 _ _ rfl wr.heap.size R.toArray rfl rfl 32 zr D0.out I32.out E32.out O32.out ?_; rw [HW4.out, HK.out])
          | fail)
        refine wp_region_held_drew (S := QW K b (off + j * 22) o RI RJ) (by kernel_rfl) (by exact HQW.out) (fun hHeld => ?_)
        generalize w4.drew = u0 at hHeld HBD4 ⊢
        refine takeL (i := 0) (v := ?_) rfl (by kernel_rfl) (by kernel_rfl) (by kernel_rfl) (fun _ _ _ h => h) (Or.inl ⟨by rfl, ?_⟩) hHeld ?_
        rotate_left
        · rintro w' ⟨c20, rk, rp⟩; go_simp; rfl
        try simp only [Act.put, List.setIfInBounds_toArray, List.set_cons_zero, List.set_cons_succ]
        refine takeL (i := 1) (v := ?_) rfl (by kernel_rfl) (by kernel_rfl) (by kernel_rfl) (fun _ _ _ h => h) (Or.inl ⟨by rfl, ?_⟩) hHeld ?_
        rotate_left
        · rintro w' ⟨c20, rk, rp⟩; go_simp; rfl
        try simp only [Act.put, List.setIfInBounds_toArray, List.set_cons_zero, List.set_cons_succ]
        refine takeL (i := 2) (v := .bool false) rfl (by kernel_rfl) (by kernel_rfl) (by kernel_rfl) (fun _ _ _ h => h) (Or.inl ⟨by rfl, ?_⟩) hHeld ?_
        · rintro w' ⟨c20, rk, rp⟩; go_simp; try rfl
        try simp only [Act.put, List.setIfInBounds_toArray, List.set_cons_zero, List.set_cons_succ]
        refine takeL (i := 3) (v := .bool false) rfl (by kernel_rfl) (by kernel_rfl) (by kernel_rfl) (fun _ _ _ h => h) (Or.inl ⟨by rfl, ?_⟩) hHeld ?_
        · rintro w' ⟨c20, rk, rp⟩; go_simp; try rfl
        try simp only [Act.put, List.setIfInBounds_toArray, List.set_cons_zero, List.set_cons_succ]
        refine takeL (i := 4) (v := ?_) rfl (by kernel_rfl) (by kernel_rfl) (by kernel_rfl) (fun _ _ _ h => h) (Or.inl ⟨by kernel_rfl, ?_⟩) hHeld ?_
        rotate_left
        · rintro w' ⟨c20, rk, rp⟩; go_simp; rfl
        try simp only [Act.put, List.setIfInBounds_toArray, List.set_cons_zero, List.set_cons_succ]
        refine takeL (i := 5) (v := ?_) rfl (by kernel_rfl) (by kernel_rfl) (by kernel_rfl) (fun _ _ _ h => h) (Or.inl ⟨by kernel_rfl, ?_⟩) hHeld ?_
        rotate_left
        · rintro w' ⟨c20, rk, rp⟩; go_simp; rfl
        try simp only [Act.put, List.setIfInBounds_toArray, List.set_cons_zero, List.set_cons_succ]
        refine takeL (i := 6) (v := .bool false) rfl (by kernel_rfl) (by kernel_rfl) (by kernel_rfl) (fun _ _ _ h => h) (Or.inl ⟨by kernel_rfl, ?_⟩) hHeld ?_
        · rintro w' ⟨c20, rk, rp⟩; go_simp; try rfl
        try simp only [Act.put, List.setIfInBounds_toArray, List.set_cons_zero, List.set_cons_succ]
        refine takeL (i := 7) (v := .bool false) rfl (by kernel_rfl) (by kernel_rfl) (by kernel_rfl) (fun _ _ _ h => h) (Or.inl ⟨by rfl, ?_⟩) hHeld ?_
        · rintro w' ⟨c20, rk, rp⟩; go_simp; try rfl
        try simp only [Act.put, List.setIfInBounds_toArray, List.set_cons_zero, List.set_cons_succ]
        refine takeL (i := 8) (v := .bool false) rfl (by kernel_rfl) (by kernel_rfl) (by kernel_rfl) (fun _ _ _ h => h) (Or.inl ⟨by rfl, ?_⟩) hHeld ?_
        · rintro w' ⟨c20, rk, rp⟩; go_simp; try rfl
        try simp only [Act.put, List.setIfInBounds_toArray, List.set_cons_zero, List.set_cons_succ]
        refine takeL (i := 9) (v := ?_) rfl (by kernel_rfl) (by kernel_rfl) (by kernel_rfl) (fun _ _ _ h => h) (Or.inl ⟨by kernel_rfl, ?_⟩) hHeld ?_
        rotate_left
        · rintro w' ⟨c20, rk, rp⟩; go_simp; rfl
        try simp only [Act.put, List.setIfInBounds_toArray, List.set_cons_zero, List.set_cons_succ]
        refine takeL (i := 10) (v := .bool true) rfl (by kernel_rfl) (by kernel_rfl) (by kernel_rfl) (fun _ _ _ h => h) (Or.inl ⟨by kernel_rfl, ?_⟩) hHeld ?_
        · rintro w' ⟨c20, rk, rp⟩; go_simp; try rfl
        try simp only [Act.put, List.setIfInBounds_toArray, List.set_cons_zero, List.set_cons_succ]
        refine takeL (i := 11) (v := .bool true) rfl (by kernel_rfl) (by kernel_rfl) (by kernel_rfl) (fun _ _ _ h => h) (Or.inl ⟨by kernel_rfl, ?_⟩) hHeld ?_
        · rintro w' ⟨c20, rk, rp⟩; go_simp; try rfl
        try simp only [Act.put, List.setIfInBounds_toArray, List.set_cons_zero, List.set_cons_succ]
        refine takeL (i := 12) (v := ?_) rfl (by kernel_rfl) (by kernel_rfl) (by kernel_rfl) (fun _ _ _ h => h) (Or.inl ⟨by kernel_rfl, ?_⟩) hHeld ?_
        rotate_left
        · rintro w' ⟨c20, rk, rp⟩; go_simp; rfl
        try simp only [Act.put, List.setIfInBounds_toArray, List.set_cons_zero, List.set_cons_succ]
        refine takeL (i := 13) (v := .agg RI.toArray) rfl (by kernel_rfl) (by kernel_rfl) (by kernel_rfl) (fun _ _ _ h => h) (yieldsIf_load_mid (by kernel_rfl) 24 _ rfl K (0) (by rfl) RI _ (fun w' h => h.rk) Tryd.underlying24 rfl hiRI) hHeld ?_
        try simp only [Act.put, List.setIfInBounds_toArray, List.set_cons_zero, List.set_cons_succ]
        refine takeL (i := 14) (v := ?_) rfl (by kernel_rfl) (by kernel_rfl) (by kernel_rfl) (fun _ _ _ h => h) (Or.inl ⟨by kernel_rfl, ?_⟩) hHeld ?_
        rotate_left
        · rintro w' ⟨c20, rk, rp⟩; go_simp; rfl
        try simp only [Act.put, List.setIfInBounds_toArray, List.set_cons_zero, List.set_cons_succ]
        refine takeL (i := 15) (v := ?_) rfl (by kernel_rfl) (by kernel_rfl) (by kernel_rfl) (fun _ _ _ h => h) (Or.inl ⟨by kernel_rfl, ?_⟩) hHeld ?_
        rotate_left
        · rintro w' ⟨c20, rk, rp⟩; go_simp; rfl
        try simp only [Act.put, List.setIfInBounds_toArray, List.set_cons_zero, List.set_cons_succ]
        refine takeL (i := 16) (v := .int .i64 j) rfl (by kernel_rfl) (by kernel_rfl) (by kernel_rfl) (fun _ _ _ h => h) (Or.inl ⟨by kernel_rfl, ?_⟩) hHeld ?_
        · rintro w' ⟨c20, rk, rp⟩; go_simp; try rfl
        try simp only [Act.put, List.setIfInBounds_toArray, List.set_cons_zero, List.set_cons_succ]
        refine takeL (i := 17) (v := .pointer (some ⟨b, off + j * 22, none⟩)) rfl (by kernel_rfl) (by kernel_rfl) (by kernel_rfl) (fun _ _ _ h => h) (Or.inl ⟨by kernel_rfl, ?_⟩) hHeld ?_
        · rintro w' ⟨c20, rk, rp⟩; go_simp; try rfl
        try simp only [Act.put, List.setIfInBounds_toArray, List.set_cons_zero, List.set_cons_succ]
        refine takeL (i := 18) (v := .pointer (some ⟨b, off + j * 22, none⟩)) rfl (by kernel_rfl) (by kernel_rfl) (by kernel_rfl) (fun _ _ _ h => h) (Or.inl ⟨by kernel_rfl, ?_⟩) hHeld ?_
        · rintro w' ⟨c20, rk, rp⟩; go_simp; try rfl
        try simp only [Act.put, List.setIfInBounds_toArray, List.set_cons_zero, List.set_cons_succ]
        refine takeL (i := 19) (v := .agg RJ.toArray) rfl (by kernel_rfl) (by kernel_rfl) (by kernel_rfl) (fun _ _ _ h => h) (yieldsIf_load_mid (by kernel_rfl) 24 _ rfl b (off + j * 22) (by rfl) RJ _ (fun w' h => h.rp) Tryd.underlying24 rfl hiRJ) hHeld ?_
        try simp only [Act.put, List.setIfInBounds_toArray, List.set_cons_zero, List.set_cons_succ]
        refine takeL (i := 20) (v := .bool true) rfl (by kernel_rfl) (by kernel_rfl) (by kernel_rfl) (fun _ _ _ h => h) (Or.inl ⟨by kernel_rfl, ?_⟩) hHeld ?_
        · rintro w' ⟨c20, rk, rp⟩; go_simp; try rfl
        try simp only [Act.put, List.setIfInBounds_toArray, List.set_cons_zero, List.set_cons_succ]
        refine takeL (i := 21) (v := .bool true) rfl (by kernel_rfl) (by kernel_rfl) (by kernel_rfl) (fun _ _ _ h => h) (Or.inl ⟨by kernel_rfl, ?_⟩) hHeld ?_
        · rintro w' ⟨c20, rk, rp⟩; go_simp; try rfl
        try simp only [Act.put, List.setIfInBounds_toArray, List.set_cons_zero, List.set_cons_succ]
        refine takeL (i := 22) (v := .bool true) rfl (by kernel_rfl) (by kernel_rfl) (by kernel_rfl) (fun _ _ _ h => h) (Or.inl ⟨by rfl, ?_⟩) hHeld ?_
        · rintro w' ⟨c20, rk, rp⟩; go_simp; try rfl
        try simp only [Act.put, List.setIfInBounds_toArray, List.set_cons_zero, List.set_cons_succ]
        refine wpAnyH_done (by kernel_rfl) ?_ _
        clear hHeld
        go_wp2
        go_ret2
        exact ⟨by rw [HG.out]; exact HBW.out _ HBD4.out, s, HSP.out, HSR.out, .inr ⟨HBAD.out, rfl⟩⟩
      | false =>
        have HG2 : Hid (Gd s (i + 1)) := fun j hj => by
          rcases Nat.lt_or_ge j i with h | h
          · exact HGd.out j h
          · obtain rfl : j = i := by omega
            exact ⟨HOK1.out, fun _ => by rw [HX.out, HY.out]; exact of_decide_eq_false HEB.out⟩
        go_wp2_with (first
          | refine wpList_load_mid rfl 32 _ rfl b (off + i * 22) rfl R _ RR.out Tryd.underlying32 rfl hi32 ?_
          | (refine wpList_store_row rfl 32 _ _ rfl wr.heap.size R.toArray rfl rfl 32 zr D0.out I32.out E32.out O32.out ?_; rw [HW4.out, HK.out])
          | fail)
        refine wp_region_held_drew (S := QW K b (off + j * 22) o RI RJ) (by kernel_rfl) (by exact HQW.out) (fun hHeld => ?_)
        generalize w4.drew = u0 at hHeld HBD4 ⊢
        refine takeL (i := 0) (v := ?_) rfl (by kernel_rfl) (by kernel_rfl) (by kernel_rfl) (fun _ _ _ h => h) (Or.inl ⟨by rfl, ?_⟩) hHeld ?_
        rotate_left
        · rintro w' ⟨c20, rk, rp⟩; go_simp; rfl
        try simp only [Act.put, List.setIfInBounds_toArray, List.set_cons_zero, List.set_cons_succ]
        refine takeL (i := 1) (v := ?_) rfl (by kernel_rfl) (by kernel_rfl) (by kernel_rfl) (fun _ _ _ h => h) (Or.inl ⟨by rfl, ?_⟩) hHeld ?_
        rotate_left
        · rintro w' ⟨c20, rk, rp⟩; go_simp; rfl
        try simp only [Act.put, List.setIfInBounds_toArray, List.set_cons_zero, List.set_cons_succ]
        refine takeL (i := 2) (v := .bool false) rfl (by kernel_rfl) (by kernel_rfl) (by kernel_rfl) (fun _ _ _ h => h) (Or.inl ⟨by rfl, ?_⟩) hHeld ?_
        · rintro w' ⟨c20, rk, rp⟩; go_simp; try rfl
        try simp only [Act.put, List.setIfInBounds_toArray, List.set_cons_zero, List.set_cons_succ]
        refine takeL (i := 3) (v := .bool false) rfl (by kernel_rfl) (by kernel_rfl) (by kernel_rfl) (fun _ _ _ h => h) (Or.inl ⟨by rfl, ?_⟩) hHeld ?_
        · rintro w' ⟨c20, rk, rp⟩; go_simp; try rfl
        try simp only [Act.put, List.setIfInBounds_toArray, List.set_cons_zero, List.set_cons_succ]
        refine takeL (i := 4) (v := ?_) rfl (by kernel_rfl) (by kernel_rfl) (by kernel_rfl) (fun _ _ _ h => h) (Or.inl ⟨by kernel_rfl, ?_⟩) hHeld ?_
        rotate_left
        · rintro w' ⟨c20, rk, rp⟩; go_simp; rfl
        try simp only [Act.put, List.setIfInBounds_toArray, List.set_cons_zero, List.set_cons_succ]
        refine takeL (i := 5) (v := ?_) rfl (by kernel_rfl) (by kernel_rfl) (by kernel_rfl) (fun _ _ _ h => h) (Or.inl ⟨by kernel_rfl, ?_⟩) hHeld ?_
        rotate_left
        · rintro w' ⟨c20, rk, rp⟩; go_simp; rfl
        try simp only [Act.put, List.setIfInBounds_toArray, List.set_cons_zero, List.set_cons_succ]
        refine takeL (i := 6) (v := .bool false) rfl (by kernel_rfl) (by kernel_rfl) (by kernel_rfl) (fun _ _ _ h => h) (Or.inl ⟨by kernel_rfl, ?_⟩) hHeld ?_
        · rintro w' ⟨c20, rk, rp⟩; go_simp; try rfl
        try simp only [Act.put, List.setIfInBounds_toArray, List.set_cons_zero, List.set_cons_succ]
        refine takeL (i := 7) (v := .bool false) rfl (by kernel_rfl) (by kernel_rfl) (by kernel_rfl) (fun _ _ _ h => h) (Or.inl ⟨by rfl, ?_⟩) hHeld ?_
        · rintro w' ⟨c20, rk, rp⟩; go_simp; try rfl
        try simp only [Act.put, List.setIfInBounds_toArray, List.set_cons_zero, List.set_cons_succ]
        refine takeL (i := 8) (v := .bool false) rfl (by kernel_rfl) (by kernel_rfl) (by kernel_rfl) (fun _ _ _ h => h) (Or.inl ⟨by rfl, ?_⟩) hHeld ?_
        · rintro w' ⟨c20, rk, rp⟩; go_simp; try rfl
        try simp only [Act.put, List.setIfInBounds_toArray, List.set_cons_zero, List.set_cons_succ]
        refine takeL (i := 9) (v := ?_) rfl (by kernel_rfl) (by kernel_rfl) (by kernel_rfl) (fun _ _ _ h => h) (Or.inl ⟨by kernel_rfl, ?_⟩) hHeld ?_
        rotate_left
        · rintro w' ⟨c20, rk, rp⟩; go_simp; rfl
        try simp only [Act.put, List.setIfInBounds_toArray, List.set_cons_zero, List.set_cons_succ]
        refine takeL (i := 10) (v := .bool true) rfl (by kernel_rfl) (by kernel_rfl) (by kernel_rfl) (fun _ _ _ h => h) (Or.inl ⟨by kernel_rfl, ?_⟩) hHeld ?_
        · rintro w' ⟨c20, rk, rp⟩; go_simp; try rfl
        try simp only [Act.put, List.setIfInBounds_toArray, List.set_cons_zero, List.set_cons_succ]
        refine takeL (i := 11) (v := .bool true) rfl (by kernel_rfl) (by kernel_rfl) (by kernel_rfl) (fun _ _ _ h => h) (Or.inl ⟨by kernel_rfl, ?_⟩) hHeld ?_
        · rintro w' ⟨c20, rk, rp⟩; go_simp; try rfl
        try simp only [Act.put, List.setIfInBounds_toArray, List.set_cons_zero, List.set_cons_succ]
        refine takeL (i := 12) (v := ?_) rfl (by kernel_rfl) (by kernel_rfl) (by kernel_rfl) (fun _ _ _ h => h) (Or.inl ⟨by kernel_rfl, ?_⟩) hHeld ?_
        rotate_left
        · rintro w' ⟨c20, rk, rp⟩; go_simp; rfl
        try simp only [Act.put, List.setIfInBounds_toArray, List.set_cons_zero, List.set_cons_succ]
        refine takeL (i := 13) (v := .agg RI.toArray) rfl (by kernel_rfl) (by kernel_rfl) (by kernel_rfl) (fun _ _ _ h => h) (yieldsIf_load_mid (by kernel_rfl) 24 _ rfl K (0) (by rfl) RI _ (fun w' h => h.rk) Tryd.underlying24 rfl hiRI) hHeld ?_
        try simp only [Act.put, List.setIfInBounds_toArray, List.set_cons_zero, List.set_cons_succ]
        refine takeL (i := 14) (v := ?_) rfl (by kernel_rfl) (by kernel_rfl) (by kernel_rfl) (fun _ _ _ h => h) (Or.inl ⟨by kernel_rfl, ?_⟩) hHeld ?_
        rotate_left
        · rintro w' ⟨c20, rk, rp⟩; go_simp; rfl
        try simp only [Act.put, List.setIfInBounds_toArray, List.set_cons_zero, List.set_cons_succ]
        refine takeL (i := 15) (v := ?_) rfl (by kernel_rfl) (by kernel_rfl) (by kernel_rfl) (fun _ _ _ h => h) (Or.inl ⟨by kernel_rfl, ?_⟩) hHeld ?_
        rotate_left
        · rintro w' ⟨c20, rk, rp⟩; go_simp; rfl
        try simp only [Act.put, List.setIfInBounds_toArray, List.set_cons_zero, List.set_cons_succ]
        refine takeL (i := 16) (v := .int .i64 j) rfl (by kernel_rfl) (by kernel_rfl) (by kernel_rfl) (fun _ _ _ h => h) (Or.inl ⟨by kernel_rfl, ?_⟩) hHeld ?_
        · rintro w' ⟨c20, rk, rp⟩; go_simp; try rfl
        try simp only [Act.put, List.setIfInBounds_toArray, List.set_cons_zero, List.set_cons_succ]
        refine takeL (i := 17) (v := .pointer (some ⟨b, off + j * 22, none⟩)) rfl (by kernel_rfl) (by kernel_rfl) (by kernel_rfl) (fun _ _ _ h => h) (Or.inl ⟨by kernel_rfl, ?_⟩) hHeld ?_
        · rintro w' ⟨c20, rk, rp⟩; go_simp; try rfl
        try simp only [Act.put, List.setIfInBounds_toArray, List.set_cons_zero, List.set_cons_succ]
        refine takeL (i := 18) (v := .pointer (some ⟨b, off + j * 22, none⟩)) rfl (by kernel_rfl) (by kernel_rfl) (by kernel_rfl) (fun _ _ _ h => h) (Or.inl ⟨by kernel_rfl, ?_⟩) hHeld ?_
        · rintro w' ⟨c20, rk, rp⟩; go_simp; try rfl
        try simp only [Act.put, List.setIfInBounds_toArray, List.set_cons_zero, List.set_cons_succ]
        refine takeL (i := 19) (v := .agg RJ.toArray) rfl (by kernel_rfl) (by kernel_rfl) (by kernel_rfl) (fun _ _ _ h => h) (yieldsIf_load_mid (by kernel_rfl) 24 _ rfl b (off + j * 22) (by rfl) RJ _ (fun w' h => h.rp) Tryd.underlying24 rfl hiRJ) hHeld ?_
        try simp only [Act.put, List.setIfInBounds_toArray, List.set_cons_zero, List.set_cons_succ]
        refine takeL (i := 20) (v := .bool false) rfl (by kernel_rfl) (by kernel_rfl) (by kernel_rfl) (fun _ _ _ h => h) (Or.inl ⟨by kernel_rfl, ?_⟩) hHeld ?_
        · rintro w' ⟨c20, rk, rp⟩; go_simp; try rfl
        try simp only [Act.put, List.setIfInBounds_toArray, List.set_cons_zero, List.set_cons_succ]
        refine takeL (i := 21) (v := .bool false) rfl (by kernel_rfl) (by kernel_rfl) (by kernel_rfl) (fun _ _ _ h => h) (Or.inl ⟨by kernel_rfl, ?_⟩) hHeld ?_
        · rintro w' ⟨c20, rk, rp⟩; go_simp; try rfl
        try simp only [Act.put, List.setIfInBounds_toArray, List.set_cons_zero, List.set_cons_succ]
        refine takeL (i := 22) (v := .bool false) rfl (by kernel_rfl) (by kernel_rfl) (by kernel_rfl) (fun _ _ _ h => h) (Or.inl ⟨by rfl, ?_⟩) hHeld ?_
        · rintro w' ⟨c20, rk, rp⟩; go_simp; try rfl
        try simp only [Act.put, List.setIfInBounds_toArray, List.set_cons_zero, List.set_cons_succ]
        refine wpAnyH_done (by kernel_rfl) ?_ _
        clear hHeld
        go_wp2
        go_roundg (n - (i + 1))
        case measure => omega
        case rel => exact ⟨i + 1, by omega, rfl, by go_num, HBD4, HG2⟩
    · have hlti : ¬ (i : Int) < (n : Int) := by omega
      have HOK : Hid (okX l) := hid ((okX_perm HSP.out).1 (Gd.ok (by rw [HNS.out]; have : i = n := by omega
                                                                     rw [← this]; exact HGd.out) HSR.out HWS.out))
      clear HGd
      obtain ⟨wS, HWSS⟩ : ∃ wS, Hid (wr = wS) := ⟨_, rfl⟩
      have HBS : Hid (Below H w3 wS) := hid (by rw [← HWSS.out]; exact HBr.out)
      rw [HWSS.out]
      clear HBr
      obtain ⟨S, HSS⟩ : ∃ S, Hid (wS.heap.size = S) := ⟨_, rfl⟩
      have hHS : H ≤ S := by rw [← HSS.out, ← HH.out]; exact HBS.out.size
      have HPS : Hid (∀ W, Below S wS W → Pp W a3 cap3 s) := fun W hW => (HPP.out wS HBS.out).below (by rw [HSS.out]; exact hW)
      have HQS : Hid (WfQ s) := fun p hp => (HWS.out p hp).1
      have HOKS : Hid (okX s) := hid ((okX_perm HSP.out).2 HOK.out)
      have HGS : Hid (∀ W, Below S wS W → W.heap[G]? = some (.cells SU.toArray 24 (0, 0))) := fun W hW => (hW.block G (by omega)).trans ((HBS.out.block G hGH).trans HS3.out)
      have HGB : Hid (∀ W, Below S wS W → Below G w W) := fun W hW => HBW.out W (HBS.out.trans (hW.mono hHS))
      have hcv := fun (w : World) (C : Array Value) (n c : Nat) => Lib.run_convert_bytes_const (P := Tryd.prog) w 25 5 C n c Tryd.underlying25 Tryd.underlying5
      obtain ⟨w5, HW5⟩ : ∃ w5, Hid (wS.alloc (.cells #[.int .u8 255, .int .u8 116, .int .u8 79, .int .u8 99, .int .u8 0, .int .u8 0, .int .u8 0, .int .u8 2] 5 (8, 9)) = w5) := ⟨_, rfl⟩
      have C12 : Hid (Calls Tryd.prog 12 #[.slice (some ⟨S, 0, none⟩) 8 8, .slice a3 n cap3] w5 fun e w' => ∃ v', e = .returned v' ∧ Bd wS w' S v' (idx1 s)) := hid (by
        have := appendCounts_any wS w5 (.slice (some ⟨wS.heap.size, 0, none⟩) 8 8) hdX a3 cap3 s (by rw [← HW5.out]; exact .inr (hr_head wS)) (HPP.out wS HBS.out) HWS.out (srt_mon HSR.out HWS.out) (by decide) (by rw [HNS.out]; omega)
        rw [HNS.out, HSS.out] at this
        exact this)
      go_wp2_with fail
      rw [HSS.out, HW5.out]
      refine C12.out.mono ?_
      rintro ev w6 ⟨v6, rfl, hb6⟩
      have HD1 : Hid (Bd wS w6 S v6 (idx1 s)) := hb6
      clear hb6
      go_wp2_with fail
      go_loopg [9, 62] n (fun g ov iv wr => ∃ (i : Nat) (v : Value), v = ov ∧ i ≤ n ∧ g = n - i ∧ iv = .int .i64 i ∧ Hid (Bd wS wr S v (idx1 s ++ (s.take i).flatMap (·.id))))
      case atStart => exact ⟨0, _, rfl, Nat.zero_le _, rfl, rfl, hid (by simpa using HD1.out)⟩
      case round =>
        obtain ⟨i, v, hv, hi, hg, rfl, HBD⟩ := hrel
        subst hv
        by_cases hlt : i < n
        · have hlti : (i : Int) < (n : Int) := by omega
          obtain ⟨b, off, hae, hbH⟩ := HPL.out (by omega)
          subst hae
          obtain ⟨b', off', e1, e2, e3⟩ := (HPS.out wr HBD.out.below).at_ (by rw [HNS.out]; omega)
          cases e1
          obtain ⟨x, HX⟩ : ∃ x, Hid (s.getD i p0 = x) := ⟨_, rfl⟩
          have hxm : x ∈ s := by
            rw [← HX.out, List.getD_eq_getElem?_getD, List.getElem?_eq_getElem (by rw [HNS.out]; exact hlt)]
            exact List.getElem_mem _
          have HX20 : Hid (x.id.length = 20) := (HWS.out x hxm).1
          have HXW : Hid (0 ≤ x.crc ∧ x.crc < 4294967296) := (HWS.out x hxm).2.2
          obtain ⟨R, HR⟩ : ∃ R : List Value, Hid (plV x = R) := ⟨_, rfl⟩
          have RR : Hid (wr.rangeAt b (off + i * 22) R) := hid (by rw [← HR.out, ← HX.out]; exact e3 i (by rw [HNS.out]; exact hlt))
          have HFN : Hid (R.length = 22) := hid (by rw [← HR.out]; exact plV_len x HX20.out)
          have hi32 : (Tryd.prog.info? 32).map (·.size) = some R.length := by rw [HFN.out]; exact Tryd.size32
          have I32 : Hid ((Tryd.prog.info? 32).map (·.size) = some R.toArray.size) := hid (by rw [List.size_toArray]; exact hi32)
          have E32 : Hid (zr.size = R.toArray.size) := hid (by rw [HZ.out, List.size_toArray, List.size_toArray, HFN.out]; rfl)
          have O32 : Hid (R.toArray.all (·.oneCell') = true) := hid (by rw [← HR.out]; exact all_oneCell_toArray (plV_one _))
          have D0 : Hid ((wr.alloc (.cells zr 32)).heap[wr.heap.size]? = some (.cells zr 32 (0, 0))) := heap_alloc_new wr _
          obtain ⟨w4, HW4⟩ : ∃ w4, Hid ((wr.alloc (.cells zr 32)).setRow wr.heap.size R.toArray = w4) := ⟨_, rfl⟩
          obtain ⟨K, HK⟩ : ∃ K, Hid (wr.heap.size = K) := ⟨_, rfl⟩
          have hb4 : Below wr.heap.size wr w4 := by rw [← HW4.out]; exact below_setRow ((Below.refl _ wr).alloc (Nat.le_refl _) _) (Nat.le_refl _) _
          have B4 : Hid (w4.heap[K]? = some (.cells R.toArray 32 (0, 0))) := hid (by rw [← HW4.out, ← HK.out]; exact setRow_heap _ _ _ R.toArray _ _ D0.out)
          have RP : Hid (w4.rangeAt K 0 (plV x)) := hid (by rw [HR.out]; exact range_row B4.out)
          clear hxm e3 e2
          have HBD4 : Hid (Bd wS w4 S v (idx1 s ++ (s.take i).flatMap (·.id))) := HBD.out.carry hb4
          have HXI : Hid (i < s.length) := hid (by rw [HNS.out]; exact hlt)
          have hlen : (idx1 s ++ (s.take i).flatMap (·.id)).length ≤ 100000 := by
            have h1 := flat_le (·.id) 20 s i (fun p hp => (HWS.out p hp).1)
            rw [HNS.out] at h1
            have h2 := idx1_len s
            try rw [HNS.out] at h2
            rw [List.length_append]
            omega
          clear hb4
          have HS4 : Hid (Sl w4 (some ⟨K, 0, none⟩) 20 x.id) := hid ⟨by rw [HX20.out]; exact Nat.le_refl _, fun _ => ⟨K, 0, rfl, lt_of_some B4.out, fun q hq => by
            have := pl_id RP.out q (.int .u8 (x.id.getD q 0)) (by rw [row_at _ _ _ hq])
            simpa using this⟩, fun e => by cases e⟩
          go_wp2_with (first
            | refine wpList_load_mid rfl 32 _ rfl b (off + i * 22) rfl R _ RR.out Tryd.underlying32 rfl hi32 ?_
            | (refine wpList_store_row rfl 32 _ _ rfl wr.heap.size R.toArray rfl rfl 32 zr D0.out I32.out E32.out O32.out ?_; rw [HW4.out, HK.out])
            | (at_builtin; refine wpList_bd_slG rfl _ _ rfl S _ _ rfl HBD4.out (some ⟨K, 0, none⟩) 20 x.id (by rw [HX20.out]; rfl) HS4.out (by rw [HX20.out]; omega) ?_; intro v5 w5 hb5 hg5; have HB5 : Hid (Bd wS w5 S v5 ((idx1 s ++ (s.take i).flatMap (·.id)) ++ x.id)) := hb5; clear hb5 hg5)
            | fail)
          go_roundg (n - (i + 1))
          case measure => omega
          case rel => exact ⟨i + 1, _, rfl, by omega, rfl, by go_num, hid (by rw [flat_snoc (·.id) s i HXI.out, HX.out, ← List.append_assoc]; exact HB5.out)⟩
        · have hlti : ¬ (i : Int) < (n : Int) := by omega
          have HD2 : Hid (Bd wS wr S v (idx2 s)) := hid (by
            have := HBD.out
            rw [List.take_of_length_le (by rw [HNS.out]; omega)] at this
            exact this)
          clear HBD
          go_wp2_with fail
          go_loopg [9, 73] n (fun g ov iv wr => ∃ (i : Nat) (v : Value), v = ov ∧ i ≤ n ∧ g = n - i ∧ iv = .int .i64 i ∧ Hid (Bd wS wr S v (idx2 s ++ (s.take i).flatMap (fun p => n4 p.crc.toNat))))
          case atStart => exact ⟨0, _, rfl, Nat.zero_le _, rfl, rfl, hid (by simpa using HD2.out)⟩
          case round =>
            obtain ⟨i, v, hv, hi, hg, rfl, HBD⟩ := hrel
            subst hv
            by_cases hlt : i < n
            · have hlti : (i : Int) < (n : Int) := by omega
              obtain ⟨b, off, hae, hbH⟩ := HPL.out (by omega)
              subst hae
              obtain ⟨b', off', e1, e2, e3⟩ := (HPS.out wr HBD.out.below).at_ (by rw [HNS.out]; omega)
              cases e1
              obtain ⟨x, HX⟩ : ∃ x, Hid (s.getD i p0 = x) := ⟨_, rfl⟩
              have hxm : x ∈ s := by
                rw [← HX.out, List.getD_eq_getElem?_getD, List.getElem?_eq_getElem (by rw [HNS.out]; exact hlt)]
                exact List.getElem_mem _
              have HX20 : Hid (x.id.length = 20) := (HWS.out x hxm).1
              have HXW : Hid (0 ≤ x.crc ∧ x.crc < 4294967296) := (HWS.out x hxm).2.2
              obtain ⟨R, HR⟩ : ∃ R : List Value, Hid (plV x = R) := ⟨_, rfl⟩
              have RR : Hid (wr.rangeAt b (off + i * 22) R) := hid (by rw [← HR.out, ← HX.out]; exact e3 i (by rw [HNS.out]; exact hlt))
              have HFN : Hid (R.length = 22) := hid (by rw [← HR.out]; exact plV_len x HX20.out)
              have hi32 : (Tryd.prog.info? 32).map (·.size) = some R.length := by rw [HFN.out]; exact Tryd.size32
              have I32 : Hid ((Tryd.prog.info? 32).map (·.size) = some R.toArray.size) := hid (by rw [List.size_toArray]; exact hi32)
              have E32 : Hid (zr.size = R.toArray.size) := hid (by rw [HZ.out, List.size_toArray, List.size_toArray, HFN.out]; rfl)
              have O32 : Hid (R.toArray.all (·.oneCell') = true) := hid (by rw [← HR.out]; exact all_oneCell_toArray (plV_one _))
              have D0 : Hid ((wr.alloc (.cells zr 32)).heap[wr.heap.size]? = some (.cells zr 32 (0, 0))) := heap_alloc_new wr _
              obtain ⟨w4, HW4⟩ : ∃ w4, Hid ((wr.alloc (.cells zr 32)).setRow wr.heap.size R.toArray = w4) := ⟨_, rfl⟩
              obtain ⟨K, HK⟩ : ∃ K, Hid (wr.heap.size = K) := ⟨_, rfl⟩
              have hb4 : Below wr.heap.size wr w4 := by rw [← HW4.out]; exact below_setRow ((Below.refl _ wr).alloc (Nat.le_refl _) _) (Nat.le_refl _) _
              have B4 : Hid (w4.heap[K]? = some (.cells R.toArray 32 (0, 0))) := hid (by rw [← HW4.out, ← HK.out]; exact setRow_heap _ _ _ R.toArray _ _ D0.out)
              have RP : Hid (w4.rangeAt K 0 (plV x)) := hid (by rw [HR.out]; exact range_row B4.out)
              clear hxm e3 e2
              have HBD4 : Hid (Bd wS w4 S v (idx2 s ++ (s.take i).flatMap (fun p => n4 p.crc.toNat))) := HBD.out.carry hb4
              have HXI : Hid (i < s.length) := hid (by rw [HNS.out]; exact hlt)
              have hlen : (idx2 s ++ (s.take i).flatMap (fun p => n4 p.crc.toNat)).length ≤ 100000 := by
                have h1 := flat_le (fun p => n4 p.crc.toNat) 4 s i (fun _ _ => rfl)
                rw [HNS.out] at h1
                have h2 := idx2_len s HQS.out
                try rw [HNS.out] at h2
                rw [List.length_append]
                omega
              clear hb4
              obtain ⟨c, HCC⟩ : ∃ c : Nat, Hid (x.crc.toNat = c) := ⟨_, rfl⟩
              have hcc : x.crc = (c : Int) := by have := HXW.out; rw [← HCC.out]; omega
              have c21 : w4.cell? ⟨K, 21, none⟩ = some (.int .u32 c) := by rw [← hcc]; simpa using pl_crc RP.out HX20.out
              have HCN : Hid (Calls Tryd.prog 13 #[v, .int .u32 c] w4 (PoA wS w4 S v ((idx2 s ++ (s.take i).flatMap (fun p => n4 p.crc.toNat)) ++ n4 x.crc.toNat))) := hid (by
                rw [HCC.out]; exact appendNumber_any wS w4 S v _ c (by have := HXW.out; omega) HBD4.out (by omega))
              clear hcc
              go_wp2_with (first
                | refine wpList_load_mid rfl 32 _ rfl b (off + i * 22) rfl R _ RR.out Tryd.underlying32 rfl hi32 ?_
                | (refine wpList_store_row rfl 32 _ _ rfl wr.heap.size R.toArray rfl rfl 32 zr D0.out I32.out E32.out O32.out ?_; rw [HW4.out, HK.out])
                | (go_at_call 13; refine HCN.out.mono ?_; rintro ev w5 ⟨v5, rfl, hb5, hg5⟩; have HB5 : Hid (Bd wS w5 S v5 ((idx2 s ++ (s.take i).flatMap (fun p => n4 p.crc.toNat)) ++ n4 x.crc.toNat)) := hb5; clear hb5 hg5)
                | fail)
              go_roundg (n - (i + 1))
              case measure => omega
              case rel => exact ⟨i + 1, _, rfl, by omega, rfl, by go_num, hid (by rw [flat_snoc (fun p => n4 p.crc.toNat) s i HXI.out, HX.out, ← List.append_assoc]; exact HB5.out)⟩
            · have hlti : ¬ (i : Int) < (n : Int) := by omega
              have HD3 : Hid (Bd wS wr S v (idx3 s)) := hid (by
                have := HBD.out
                rw [List.take_of_length_le (by rw [HNS.out]; omega)] at this
                exact this)
              clear HBD
              go_wp2_with fail
              go_loopg [9, 84] n (fun g ov iv wr => ∃ (i : Nat) (v : Value), v = ov ∧ i ≤ n ∧ g = n - i ∧ iv = .int .i64 i ∧ Hid (Bd wS wr S v (idx3 s ++ (s.take i).flatMap (fun p => n4 p.off.toNat))))
              case atStart => exact ⟨0, _, rfl, Nat.zero_le _, rfl, rfl, hid (by simpa using HD3.out)⟩
              case round =>
                obtain ⟨i, v, hv, hi, hg, rfl, HBD⟩ := hrel
                subst hv
                by_cases hlt : i < n
                · have hlti : (i : Int) < (n : Int) := by omega
                  obtain ⟨b, off, hae, hbH⟩ := HPL.out (by omega)
                  subst hae
                  obtain ⟨b', off', e1, e2, e3⟩ := (HPS.out wr HBD.out.below).at_ (by rw [HNS.out]; omega)
                  cases e1
                  obtain ⟨x, HX⟩ : ∃ x, Hid (s.getD i p0 = x) := ⟨_, rfl⟩
                  have hxm : x ∈ s := by
                    rw [← HX.out, List.getD_eq_getElem?_getD, List.getElem?_eq_getElem (by rw [HNS.out]; exact hlt)]
                    exact List.getElem_mem _
                  have HX20 : Hid (x.id.length = 20) := (HWS.out x hxm).1
                  have HXW : Hid (0 ≤ x.crc ∧ x.crc < 4294967296) := (HWS.out x hxm).2.2
                  obtain ⟨R, HR⟩ : ∃ R : List Value, Hid (plV x = R) := ⟨_, rfl⟩
                  have RR : Hid (wr.rangeAt b (off + i * 22) R) := hid (by rw [← HR.out, ← HX.out]; exact e3 i (by rw [HNS.out]; exact hlt))
                  have HFN : Hid (R.length = 22) := hid (by rw [← HR.out]; exact plV_len x HX20.out)
                  have hi32 : (Tryd.prog.info? 32).map (·.size) = some R.length := by rw [HFN.out]; exact Tryd.size32
                  have I32 : Hid ((Tryd.prog.info? 32).map (·.size) = some R.toArray.size) := hid (by rw [List.size_toArray]; exact hi32)
                  have E32 : Hid (zr.size = R.toArray.size) := hid (by rw [HZ.out, List.size_toArray, List.size_toArray, HFN.out]; rfl)
                  have O32 : Hid (R.toArray.all (·.oneCell') = true) := hid (by rw [← HR.out]; exact all_oneCell_toArray (plV_one _))
                  have D0 : Hid ((wr.alloc (.cells zr 32)).heap[wr.heap.size]? = some (.cells zr 32 (0, 0))) := heap_alloc_new wr _
                  obtain ⟨w4, HW4⟩ : ∃ w4, Hid ((wr.alloc (.cells zr 32)).setRow wr.heap.size R.toArray = w4) := ⟨_, rfl⟩
                  obtain ⟨K, HK⟩ : ∃ K, Hid (wr.heap.size = K) := ⟨_, rfl⟩
                  have hb4 : Below wr.heap.size wr w4 := by rw [← HW4.out]; exact below_setRow ((Below.refl _ wr).alloc (Nat.le_refl _) _) (Nat.le_refl _) _
                  have B4 : Hid (w4.heap[K]? = some (.cells R.toArray 32 (0, 0))) := hid (by rw [← HW4.out, ← HK.out]; exact setRow_heap _ _ _ R.toArray _ _ D0.out)
                  have RP : Hid (w4.rangeAt K 0 (plV x)) := hid (by rw [HR.out]; exact range_row B4.out)
                  have HXM : Hid (x ∈ s) := hxm
                  clear hxm e3 e2
                  have HBD4 : Hid (Bd wS w4 S v (idx3 s ++ (s.take i).flatMap (fun p => n4 p.off.toNat))) := HBD.out.carry hb4
                  have HXI : Hid (i < s.length) := hid (by rw [HNS.out]; exact hlt)
                  have hlen : (idx3 s ++ (s.take i).flatMap (fun p => n4 p.off.toNat)).length ≤ 100000 := by
                    have h1 := flat_le (fun p => n4 p.off.toNat) 4 s i (fun _ _ => rfl)
                    rw [HNS.out] at h1
                    have h2 := idx3_len s HQS.out
                    try rw [HNS.out] at h2
                    rw [List.length_append]
                    omega
                  clear hb4
                  obtain ⟨c, HCC⟩ : ∃ c : Nat, Hid (x.off.toNat = c) := ⟨_, rfl⟩
                  have hoo := HOKS.out.1 x HXM.out
                  have hcc : x.off = (c : Int) := by rw [← HCC.out]; omega
                  have c20 : w4.cell? ⟨K, 20, none⟩ = some (.int .i64 c) := by rw [← hcc]; simpa using pl_off RP.out HX20.out
                  have hcu : (c : Int) < 4294967296 := by rw [← hcc]; omega
                  have HCN : Hid (Calls Tryd.prog 13 #[v, .int .u32 c] w4 (PoA wS w4 S v ((idx3 s ++ (s.take i).flatMap (fun p => n4 p.off.toNat)) ++ n4 x.off.toNat))) := hid (by
                    rw [HCC.out]; exact appendNumber_any wS w4 S v _ c (by omega) HBD4.out (by omega))
                  clear hcc hoo
                  go_wp2_with (first
                    | refine wpList_load_mid rfl 32 _ rfl b (off + i * 22) rfl R _ RR.out Tryd.underlying32 rfl hi32 ?_
                    | (refine wpList_store_row rfl 32 _ _ rfl wr.heap.size R.toArray rfl rfl 32 zr D0.out I32.out E32.out O32.out ?_; rw [HW4.out, HK.out])
                    | (go_at_call 13; refine HCN.out.mono ?_; rintro ev w5 ⟨v5, rfl, hb5, hg5⟩; have HB5 : Hid (Bd wS w5 S v5 ((idx3 s ++ (s.take i).flatMap (fun p => n4 p.off.toNat)) ++ n4 x.off.toNat)) := hb5; clear hb5 hg5)
                    | fail)
                  go_roundg (n - (i + 1))
                  case measure => omega
                  case rel => exact ⟨i + 1, _, rfl, by omega, rfl, by go_num, hid (by rw [flat_snoc (fun p => n4 p.off.toNat) s i HXI.out, HX.out, ← List.append_assoc]; exact HB5.out)⟩
                · have hlti : ¬ (i : Int) < (n : Int) := by omega
                  have HD4 : Hid (Bd wS wr S v (idx4 s)) := hid (by
                    have := HBD.out
                    rw [List.take_of_length_le (by rw [HNS.out]; omega)] at this
                    exact this)
                  clear HBD
                  have HSUM : Hid (Sl wr (some ⟨G, 0, none⟩) 20 sum) := hid (id_sl (t := 24) (by rw [HSU.out]; exact HGS.out wr HD4.out.below) hs20)
                  have hl4 : (idx4 s).length + sum.length ≤ 1000000 := by
                    have := idx4_len s HQS.out
                    rw [HNS.out] at this
                    omega
                  go_wp2_with (first
                    | (at_builtin; refine wpList_bd_slG rfl _ _ rfl S _ _ rfl HD4.out (some ⟨G, 0, none⟩) 20 sum (by rw [hs20]; rfl) HSUM.out hl4 ?_; intro v7 w7 hb7 hg7; have HB7 : Hid (Bd wS w7 S v7 (idxZ s sum)) := hb7; clear hb7 hg7)
                    | fail)
                  have C14 : Hid (Calls Tryd.prog 14 #[v7] w7 fun e w' => ∃ v', e = .returned v' ∧ Bd wS w' S v' (idxF s sum)) := hid (withSum_any wS w7 S v7 (idxZ s sum) (idxZ_isB s sum HWS.out hsb) (by
                    have := idxZ_len s sum HQS.out hs20
                    rw [HNS.out] at this
                    omega) HB7.out)
                  refine C14.out.mono ?_
                  rintro ev w8 ⟨v8, rfl, hb8⟩
                  obtain ⟨a8, cap8, rfl, hs8⟩ := hb8.sl
                  have HB8 : Hid (Below G w w8) := HGB.out w8 hb8.below
                  have HS8 : Hid (Sl w8 a8 cap8 (idxF s sum)) := hs8
                  clear hb8 hs8
                  go_wp2
                  go_ret2
                  exact ⟨by rw [HG.out]; exact HB8.out, s, HSP.out, HSR.out, .inl ⟨HOK.out, a8, cap8, rfl, HS8.out⟩⟩
end Go.Proofs.YtdfihfmmfmoabaaDoor
