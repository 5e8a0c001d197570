import Derived.Test.YtmpjapcijjjlbaaGreatDoorQd13
namespace Go.Proofs.YtmpjapcijjjlbaaGreatDoor
open Go.RowKit
set_option linter.unusedVariables false
set_option linter.unusedSimpArgs false
def encZ (n : Int) : List Value := [.int .i64 n]
abbrev PI (w : World) (a : Option Addr) (cap : Nat) (l : List Int) : Prop := Px encZ 1 0 w a cap l
theorem PI.cell {w : World} {b off cap : Nat} {s : List Int} (h : PI w (some ⟨b, off, none⟩) cap s) (i : Nat) (hi : i < s.length) : w.cell? ⟨b, off + i, none⟩ = some (.int .i64 (s.getD i 0)) := by
  obtain ⟨b', off', e1, _, e3⟩ := h.at_ (by omega)
  cases e1
  have := e3 i hi 0 _ rfl
  simpa using this
theorem Ik.pi {G n g : Nat} {w wr : World} {ks : List Int} (h : Ik G n g w wr ks) : PI wr (some ⟨G, 0, none⟩) n ks :=
  ⟨by rw [h.len]; exact Nat.le_refl _, fun _ => ⟨G, 0, rfl, h.lt, fun i hi j v hv => by
    have hj : j = 0 := by
      have := (List.getElem?_eq_some_iff.1 hv).1
      simp [encZ] at this
      omega
    subst hj
    simp only [encZ, List.getElem?_cons_zero, Option.some.injEq] at hv
    have := (h.cell i (by rw [← h.len]; exact hi)).1
    rw [hv] at this
    simpa using this⟩, fun h => by cases h⟩
theorem Tryz.info112 : (Tryz.prog.info? 112).map (fun i => (i.zero, i.size, i.bytes)) = some (some (.int .u16 0), 1, 2) := by kernel_rfl
theorem Tryz.info113 : (Tryz.prog.info? 113).map (fun i => (i.zero, i.size, i.bytes)) = some (some (.slice none 0 0), 1, 24) := by kernel_rfl
theorem und69 : Tryz.prog.underlying 113 = some (.slice 112) := by kernel_rfl
theorem und66 : Tryz.prog.underlying 110 = some (.slice 113) := by kernel_rfl
theorem made_arr (z : Value) (n : Nat) : madeCells #[z] n = (List.replicate n z).toArray := by
  apply Array.ext'
  rw [toList_madeCells_one]
theorem mk_row {t e : TypeId} {z : Value} {b : Nat} (hu : Tryz.prog.underlying t = some (.slice e)) (hin : (Tryz.prog.info? e).map (fun i => (i.zero, i.size, i.bytes)) = some (some z, 1, b)) (hz : z.cells = #[z]) (hb : b ≤ 24) (m : Nat) (hm : m ≤ 10000) (w : World) : (Instr.makeSlice t (.int .i64 (m : Int)) (.int .i64 (m : Int))).run Tryz.prog w = .ok (.slice (some ⟨w.heap.size, 0, none⟩) m m) (w.alloc (.cells (List.replicate m z).toArray e)) := by
  obtain ⟨i, hi, hz0, hz1, hz2⟩ := info_parts hin
  have h1 : i.bytes * m ≤ 24 * 10000 := Nat.mul_le_mul (by omega) hm
  have h2 : (i.bytes : Int) * (m : Int) ≤ 281474976710656 := by
    have h3 : ((i.bytes * m : Nat) : Int) ≤ 240000 := by omega
    rw [Int.natCast_mul] at h3
    omega
  have := run_make (P := Tryz.prog) w t e i z hu hi hz0 .i64 .i64 m m (by omega) (by omega) h2 (by omega)
  rw [hz1, hz, Nat.mul_one, Int.toNat_natCast, made_arr] at this
  exact this
structure Tm (T p q i : Nat) (w wr : World) : Prop where
  below : Below T w wr
  size : wr.heap.size = T + 1 + i
  oin : ∀ j, j < i → wr.cell? ⟨T, j, none⟩ = some (.slice (some ⟨T + 1 + j, 0, none⟩) q q)
  oany : ∀ j, j < p → ∃ v, wr.cell? ⟨T, j, none⟩ = some v ∧ wr.frozen? ⟨T, j, none⟩ = false
  rows : ∀ j k, j < i → k < q → wr.cell? ⟨T + 1 + j, k, none⟩ = some (.int .u16 0) ∧ wr.frozen? ⟨T + 1 + j, k, none⟩ = false
theorem cell_alloc (w : World) (o : Obj) (b k : Nat) (hb : b < w.heap.size) : (w.alloc o).cell? ⟨b, k, none⟩ = w.cell? ⟨b, k, none⟩ := World.cell?_of_block (a := ⟨b, k, none⟩) (Below.heap_alloc w o b hb)
theorem frozen_block {w w' : World} {b : Nat} (h : w'.heap[b]? = w.heap[b]?) (k : Nat) : w'.frozen? ⟨b, k, none⟩ = w.frozen? ⟨b, k, none⟩ := by
  unfold World.frozen?
  rw [h]
theorem frozen_alloc (w : World) (o : Obj) (b k : Nat) (hb : b < w.heap.size) : (w.alloc o).frozen? ⟨b, k, none⟩ = w.frozen? ⟨b, k, none⟩ := frozen_block (Below.heap_alloc w o b hb) k
theorem Tm.step {T p q i : Nat} {w wr : World} (h : Tm T p q i w wr) (hi : i < p) : Tm T p q (i + 1) w ((wr.alloc (.cells (List.replicate q (.int .u16 0)).toArray 112)).setCell ⟨T, i, none⟩ (.slice (some ⟨T + 1 + i, 0, none⟩) q q)) := by
  have hs := h.size
  have hnew : (wr.alloc (.cells (List.replicate q (.int .u16 0)).toArray 112)).heap[T + 1 + i]? = some (.cells (List.replicate q (.int .u16 0)).toArray 112 (0, 0)) := by rw [← hs]; exact heap_alloc_new wr _
  refine ⟨(h.below.alloc (by omega) _).setCell (Nat.le_refl _) _, by simp [World.setCell]; omega, fun j hj => ?_, fun j hj => ?_, fun j k hj hk => ?_⟩
  · by_cases e : j = i
    · subst e
      obtain ⟨v, hv, _⟩ := h.oany j hi
      exact World.cell?_setCell_same (u := v) _ _ _ (by rw [cell_alloc _ _ _ _ (by omega)]; exact hv)
    · rw [World.cell?_setCell_other _ _ _ _ (by intro h; simp only [Addr.mk.injEq] at h; omega), cell_alloc _ _ _ _ (by omega)]
      exact h.oin j (by omega)
  · obtain ⟨v, hv, hf⟩ := h.oany j hj
    by_cases e : j = i
    · subst e
      exact ⟨_, World.cell?_setCell_same (u := v) _ _ _ (by rw [cell_alloc _ _ _ _ (by omega)]; exact hv), by rw [World.frozen?_setCell, frozen_alloc _ _ _ _ (by omega)]; exact hf⟩
    · exact ⟨v, by rw [World.cell?_setCell_other _ _ _ _ (by intro h; simp only [Addr.mk.injEq] at h; omega), cell_alloc _ _ _ _ (by omega)]; exact hv, by rw [World.frozen?_setCell, frozen_alloc _ _ _ _ (by omega)]; exact hf⟩
  · rw [World.cell?_setCell_other _ _ _ _ (by intro h; simp only [Addr.mk.injEq] at h; omega), World.frozen?_setCell]
    by_cases e : j = i
    · subst e
      exact ⟨by rw [cell_of_row _ _ _ _ _ _ hnew]; simp [hk], frozen_of_row _ _ _ _ _ hnew⟩
    · rw [cell_alloc _ _ _ _ (by omega), frozen_alloc _ _ _ _ (by omega)]
      exact h.rows j k (by omega) hk
structure Tb (T p q : Nat) (w wr : World) (t : Nat → Nat → Nat) : Prop where
  below : Below T w wr
  size : T + 1 + p ≤ wr.heap.size
  outer : ∀ j, j < p → wr.cell? ⟨T, j, none⟩ = some (.slice (some ⟨T + 1 + j, 0, none⟩) q q)
  rows : ∀ j k, j < p → k < q → wr.cell? ⟨T + 1 + j, k, none⟩ = some (.int .u16 (t j k : Int)) ∧ wr.frozen? ⟨T + 1 + j, k, none⟩ = false
theorem Tm.tb {T p q : Nat} {w wr : World} (h : Tm T p q p w wr) : Tb T p q w wr (fun _ _ => 0) := ⟨h.below, by rw [h.size]; exact Nat.le_refl _, h.oin, h.rows⟩
theorem Tb.drew {T p q : Nat} {w wr : World} {t : Nat → Nat → Nat} (h : Tb T p q w wr t) : Tb T p q w wr.drew t := ⟨h.below.trans ⟨rfl, rfl, rfl, Nat.le_refl _, fun _ _ => rfl⟩, h.size, h.outer, h.rows⟩
def updT (t : Nat → Nat → Nat) (i k v : Nat) : Nat → Nat → Nat := fun a b => if a = i ∧ b = k then v else t a b
theorem Tb.set {T p q : Nat} {w wr : World} {t : Nat → Nat → Nat} (h : Tb T p q w wr t) (i k v : Nat) (hi : i < p) (hk : k < q) : Tb T p q w (wr.setCell ⟨T + 1 + i, k, none⟩ (.int .u16 (v : Int))) (updT t i k v) := by
  refine ⟨h.below.setCell (by show T ≤ T + 1 + i; omega) _, by simp [World.setCell]; exact h.size, fun j hj => ?_, fun j l hj hl => ?_⟩
  · rw [World.cell?_setCell_other _ _ _ _ (by intro h; simp only [Addr.mk.injEq] at h; omega)]
    exact h.outer j hj
  · rw [World.frozen?_setCell]
    refine ⟨?_, (h.rows j l hj hl).2⟩
    unfold updT
    by_cases e : j = i ∧ l = k
    · rw [if_pos e]
      obtain ⟨rfl, rfl⟩ := e
      exact World.cell?_setCell_same _ _ _ (h.rows j l hj hl).1
    · rw [if_neg e, World.cell?_setCell_other _ _ _ _ (by intro h; simp only [Addr.mk.injEq] at h; omega)]
      exact (h.rows j l hj hl).1
def dn (r : Nat) : Int := (r : Int) - 1
theorem dn_succ (i : Nat) : dn (i + 1) = (i : Int) := by unfold dn; omega
theorem dn_zero : dn 0 = -1 := rfl
structure QA (b o b' o' : Nat) (n m : Int) (W : World) : Prop where
  c0 : W.cell? ⟨b, o, none⟩ = some (.int .i64 n)
  c1 : W.cell? ⟨b', o', none⟩ = some (.int .i64 m)
structure QB (T i k q : Nat) (v : Int) (W : World) : Prop where
  c0 : W.cell? ⟨T, i, none⟩ = some (.slice (some ⟨T + 1 + i, 0, none⟩) q q)
  c1 : W.cell? ⟨T, i + 1, none⟩ = some (.slice (some ⟨T + 1 + (i + 1), 0, none⟩) q q)
  c2 : W.cell? ⟨T + 1 + (i + 1), k + 1, none⟩ = some (.int .u16 v)
structure QC (T i k q : Nat) (v u : Int) (W : World) : Prop where
  c0 : W.cell? ⟨T, i, none⟩ = some (.slice (some ⟨T + 1 + i, 0, none⟩) q q)
  c1 : W.cell? ⟨T, i + 1, none⟩ = some (.slice (some ⟨T + 1 + (i + 1), 0, none⟩) q q)
  c2 : W.cell? ⟨T + 1 + (i + 1), k, none⟩ = some (.int .u16 v)
  c3 : W.cell? ⟨T + 1 + i, k + 1, none⟩ = some (.int .u16 u)
def Rt (X Y : List Int) (r s : Nat) (t : Nat → Nat → Nat) : Prop := (∀ i k, r ≤ i → i ≤ X.length → k ≤ Y.length → t i k = lcs (X.drop i) (Y.drop k)) ∧ (∀ k, s ≤ k → k ≤ Y.length → 0 < r → t (r - 1) k = lcs (X.drop (r - 1)) (Y.drop k)) ∧ ∀ i k, i + 1 < r ∨ (i + 1 = r ∧ k < s) → t i k = 0
theorem Rt.step {X Y : List Int} {i k v : Nat} {t : Nat → Nat → Nat} (h : Rt X Y (i + 1) (k + 1) t) (hv : v = lcs (X.drop i) (Y.drop k)) : Rt X Y (i + 1) k (updT t i k v) := by
  obtain ⟨h1, h2, h3⟩ := h
  refine ⟨fun a b ha hb hc => ?_, fun b hb hc h0 => ?_, fun a b hab => ?_⟩
  · unfold updT
    rw [if_neg (by omega)]
    exact h1 a b ha hb hc
  · unfold updT
    simp only [Nat.add_sub_cancel] at *
    by_cases e : b = k
    · rw [if_pos ⟨trivial, e⟩, e]; exact hv
    · rw [if_neg (by omega)]; exact h2 b (by omega) hc h0
  · unfold updT
    rw [if_neg (by omega)]
    exact h3 a b (by omega)
theorem Rt.row {X Y : List Int} {i : Nat} {t : Nat → Nat → Nat} (h : Rt X Y (i + 1) 0 t) : Rt X Y i Y.length t := by
  obtain ⟨h1, h2, h3⟩ := h
  refine ⟨fun a b ha hb hc => ?_, fun b hb hc h0 => ?_, fun a b hab => ?_⟩
  · by_cases e : a = i
    · subst e
      have := h2 b (Nat.zero_le _) hc (by omega)
      simpa using this
    · exact h1 a b (by omega) hb hc
  · rw [h3 (i - 1) b (.inl (by omega)), lcs_out X Y _ b (.inr hb)]
  · exact h3 a b (.inl (by omega))
set_option maxRecDepth 20000 in
set_option maxHeartbeats 8000000 in
theorem common_any {w : World} (xa : Option Addr) (xc : Nat) (X : List Int) (hX : PI w xa xc X) (ya : Option Addr) (yc : Nat) (Y : List Int) (hY : PI w ya yc Y) (hXl : X.length ≤ 2000) (hYl : Y.length ≤ 2000) :
    Calls Tryz.prog 50 #[.slice xa X.length xc, .slice ya Y.length yc] w fun e w' => ∃ t, e = .returned (.slice (some ⟨w.heap.size, 0, none⟩) (X.length + 1 : Nat) (X.length + 1 : Nat)) ∧ Tb w.heap.size (X.length + 1) (Y.length + 1) w w' t ∧ ∀ i k, i ≤ X.length → k ≤ Y.length → t i k = lcs (X.drop i) (Y.drop k) := by
  obtain ⟨n, HN⟩ : ∃ n, Hid (X.length = n) := ⟨_, rfl⟩
  obtain ⟨m, HM⟩ : ∃ n, Hid (Y.length = n) := ⟨_, rfl⟩
  obtain ⟨T, HT⟩ : ∃ G, Hid (w.heap.size = G) := ⟨_, rfl⟩
  have hn4 : n ≤ 2000 := by rw [← HN.out]; exact hXl
  have hm4 : m ≤ 2000 := by rw [← HM.out]; exact hYl
  have HPX : Hid (∀ W, Below T w W → PI W xa xc X) := fun W hW => hX.below (by rw [HT.out]; exact hW)
  have HPY : Hid (∀ W, Below T w W → PI W ya yc Y) := fun W hW => hY.below (by rw [HT.out]; exact hW)
  have HFX : Hid (0 < n → ∃ b off, xa = some ⟨b, off, none⟩) := fun h0 => by
    obtain ⟨b, off, e1, _⟩ := hX.at_ (by rw [HN.out]; exact h0)
    exact ⟨b, off, e1⟩
  have HFY : Hid (0 < m → ∃ b off, ya = some ⟨b, off, none⟩) := fun h0 => by
    obtain ⟨b, off, e1, _⟩ := hY.at_ (by rw [HM.out]; exact h0)
    exact ⟨b, off, e1⟩
  obtain ⟨q, HQ⟩ : ∃ q, Hid (m + 1 = q) := ⟨_, rfl⟩
  obtain ⟨p, HP⟩ : ∃ p, Hid (n + 1 = p) := ⟨_, rfl⟩
  have hqI : (m : Int) + 1 = (q : Int) := by have := HQ.out; omega
  have hpI : (n : Int) + 1 = (p : Int) := by have := HP.out; omega
  have hmr : ∀ w : World, (Instr.makeSlice 113 (.int .i64 (q : Int)) (.int .i64 (q : Int))).run Tryz.prog w = .ok (.slice (some ⟨w.heap.size, 0, none⟩) q q) (w.alloc (.cells (List.replicate q (.int .u16 0)).toArray 112)) := fun w => mk_row und69 Tryz.info112 rfl (by omega) q (by have := HQ.out; omega) w
  have hmo : (Instr.makeSlice 110 (.int .i64 (p : Int)) (.int .i64 (p : Int))).run Tryz.prog w = .ok (.slice (some ⟨T, 0, none⟩) p p) (w.alloc (.cells (List.replicate p (.slice none 0 0)).toArray 113)) := by rw [← HT.out]; exact mk_row und66 Tryz.info113 rfl (by omega) p (by have := HP.out; omega) w
  obtain ⟨w1, HW1⟩ : ∃ u, Hid (w.alloc (.cells (List.replicate p (.slice none 0 0)).toArray 113) = u) := ⟨_, rfl⟩
  rw [HW1.out] at hmo
  have HTM1 : Hid (Tm T p q 0 w w1) := hid (by
    have hnew : w1.heap[T]? = some (.cells (List.replicate p (.slice none 0 0)).toArray 113 (0, 0)) := by rw [← HW1.out, ← HT.out]; exact heap_alloc_new w _
    refine ⟨by rw [← HW1.out, ← HT.out]; exact (Below.refl _ w).alloc (Nat.le_refl _) _, by rw [← HW1.out, ← HT.out]; simp, fun j hj => by omega, fun j hj => ⟨.slice none 0 0, ?_, frozen_of_row _ _ _ _ _ hnew⟩, fun j k hj => by omega⟩
    rw [cell_of_row _ _ _ _ _ _ hnew]
    simp [hj])
  have HPQ : Hid (p = X.length + 1 ∧ q = Y.length + 1) := hid ⟨by rw [HN.out, HP.out], by rw [HM.out, HQ.out]⟩
  rw [← HPQ.out.1, ← HPQ.out.2, HN.out, HM.out, HT.out]
  clear hX hY hXl hYl
  go_enter Tryz.func50, Tryz.ntmps50
  go_wp2_with fail
  go_loopg [15] p (fun gg iv wr => ∃ i : Nat, iv = .int .i64 i ∧ gg = p - i ∧ i ≤ p ∧ Hid (Tm T p q i w wr))
  case atStart => exact ⟨0, rfl, rfl, Nat.zero_le _, HTM1⟩
  case round =>
    obtain ⟨i, rfl, hk, hi, HTM⟩ := hrel
    by_cases hlt : i < p
    · have hlti : (i : Int) < (p : Int) := by omega
      obtain ⟨v, hv, hf⟩ := HTM.out.oany i hlt
      have hsz := HTM.out.size
      have hv2 : (wr.alloc (.cells (List.replicate q (.int .u16 0)).toArray 112)).cell? ⟨T, i, none⟩ = some v := by rw [cell_alloc _ _ _ _ (by omega)]; exact hv
      have hf2 : (wr.alloc (.cells (List.replicate q (.int .u16 0)).toArray 112)).frozen? ⟨T, i, none⟩ = false := by rw [frozen_alloc _ _ _ _ (by omega)]; exact hf
      have hmr2 := hmr wr
      rw [hsz] at hmr2
      have HS : Hid (Tm T p q (i + 1) w ((wr.alloc (.cells (List.replicate q (.int .u16 0)).toArray 112)).setCell ⟨T, i, none⟩ (.slice (some ⟨T + 1 + i, 0, none⟩) q q))) := hid (HTM.out.step hlt)
      generalize wr.alloc (.cells (List.replicate q (.int .u16 0)).toArray 112) = w2 at hv2 hf2 hmr2 HS
      clear hmr hsz
      go_wp2
      go_roundg (p - (i + 1))
      case measure => omega
      case rel => exact ⟨i + 1, by go_num, rfl, by omega, HS⟩
    · have hlti : ¬ (i : Int) < (p : Int) := by omega
      have hip : p = i := by omega
      subst hip
      have HTB0 : Hid (Tb T p q w wr (fun _ _ => 0)) := hid HTM.out.tb
      have HRT0 : Hid (Rt X Y n m (fun _ _ => 0)) := hid ⟨fun a k h1 h2 h3 => (lcs_out X Y a k (.inl (by rw [HN.out]; exact h1))).symm, fun k h1 h2 h3 => (lcs_out X Y _ k (.inr (by rw [HM.out]; exact h1))).symm, fun _ _ _ => rfl⟩
      have hnd : (n : Int) - 1 = dn n := rfl
      clear hmr HTM
      go_wp2_with fail
      go_loopg [7] n (fun gg iv wr => ∃ (r : Nat) (t : Nat → Nat → Nat), iv = .int .i64 (dn r) ∧ r ≤ n ∧ gg = r ∧ Hid (Tb T p q w wr t) ∧ Hid (Rt X Y r m t))
      case atStart => exact ⟨n, _, rfl, Nat.le_refl _, rfl, HTB0, HRT0⟩
      case round =>
        obtain ⟨r, t, rfl, hr, hkk, HTB, HRT⟩ := hrel
        clear hnd HTB0 HRT0
        cases r with
        | zero =>
          rw [dn_zero]
          have HAL : Hid (∀ i k, i ≤ n → k ≤ m → t i k = lcs (X.drop i) (Y.drop k)) := fun i k hi hk => HRT.out.1 i k (Nat.zero_le _) (by rw [HN.out]; exact hi) (by rw [HM.out]; exact hk)
          go_wp2
          go_ret
          exact ⟨t, rfl, HTB.out, HAL.out⟩
        | succ i =>
          rw [dn_succ]
          have hiI : (0 : Int) ≤ (i : Int) := by omega
          have HRT1 : Hid (Rt X Y (i + 1) m t) := HRT
          have hmd : (m : Int) - 1 = dn m := rfl
          have hid_ : (i : Int) - 1 = dn i := rfl
          go_wp2_with fail
          go_loopg [8] m (fun gg kv wr => ∃ (r : Nat) (t : Nat → Nat → Nat), kv = .int .i64 (dn r) ∧ r ≤ m ∧ gg = r ∧ Hid (Tb T p q w wr t) ∧ Hid (Rt X Y (i + 1) r t))
          case atStart => exact ⟨m, t, rfl, Nat.le_refl _, rfl, HTB, HRT1⟩
          case round =>
            obtain ⟨s, t, rfl, hs, hkk2, HTB, HRT⟩ := hrel
            clear hmd HRT1
            cases s with
            | zero =>
              rw [dn_zero]
              have HRT2 : Hid (Rt X Y i m t) := hid (by have := HRT.out.row; rw [HM.out] at this; exact this)
              go_wp2
              go_roundg i
              case measure => omega
              case rel => exact ⟨i, t, rfl, by omega, rfl, HTB, HRT2⟩
            | succ k =>
              rw [dn_succ]
              have hkI : (0 : Int) ≤ (k : Int) := by omega
              have hkd : (k : Int) - 1 = dn k := rfl
              have hin : (i : Int) < (n : Int) := by omega
              have hkm : (k : Int) < (m : Int) := by omega
              obtain ⟨bx, ox, e1⟩ := HFX.out (by omega)
              subst e1
              obtain ⟨by_, oy, e1⟩ := HFY.out (by omega)
              subst e1
              obtain ⟨x, HXX⟩ : ∃ x, Hid (X.getD i 0 = x) := ⟨_, rfl⟩
              obtain ⟨y, HYY⟩ : ∃ x, Hid (Y.getD k 0 = x) := ⟨_, rfl⟩
              have HTBd : Hid (Tb T p q w wr.drew t) := hid HTB.out.drew
              have HQA : Hid (QA bx (ox + i) by_ (oy + k) x y wr.drew) := hid ⟨by rw [← HXX.out]; exact PI.cell (HPX.out _ HTBd.out.below) i (by rw [HN.out]; omega), by rw [← HYY.out]; exact PI.cell (HPY.out _ HTBd.out.below) k (by rw [HM.out]; omega)⟩
              have hip : i < p := by have := HP.out; omega
              have hi1p : i + 1 < p := by have := HP.out; omega
              have hkq : k < q := by have := HQ.out; omega
              have hk1q : k + 1 < q := by have := HQ.out; omega
              have hipI : (i : Int) < (p : Int) := by omega
              have hi1pI : (i : Int) + 1 < (p : Int) := by omega
              have hkqI : (k : Int) < (q : Int) := by omega
              have hk1qI : (k : Int) + 1 < (q : Int) := by omega
              have hwi : IntKind.i64.wrap ((i : Int) + 1) = (i : Int) + 1 := by rw [IntKind.wrap_i64]; omega
              have hwk : IntKind.i64.wrap ((k : Int) + 1) = (k : Int) + 1 := by rw [IntKind.wrap_i64]; omega
              have hti : ((i : Int) + 1).toNat = i + 1 := by omega
              have htk : ((k : Int) + 1).toNat = k + 1 := by omega
              have h0i : (0 : Int) ≤ (i : Int) + 1 := by omega
              have h0k : (0 : Int) ≤ (k : Int) + 1 := by omega
              have hlc := lcs_eq (0 : Int) X Y i k (by rw [HN.out]; omega) (by rw [HM.out]; omega)
              rw [HXX.out, HYY.out] at hlc
              have hR := HRT.out
              have hv1 := hR.1 (i + 1) (k + 1) (Nat.le_refl _) (by rw [HN.out]; omega) (by rw [HM.out]; omega)
              have hv2 := hR.1 (i + 1) k (Nat.le_refl _) (by rw [HN.out]; omega) (by rw [HM.out]; omega)
              have hv3 := hR.2.1 (k + 1) (Nat.le_refl _) (by rw [HM.out]; omega) (by omega)
              simp only [Nat.add_sub_cancel] at hv3
              have hb1 : t (i + 1) (k + 1) ≤ 2000 := by rw [hv1]; have := lcs_le (X.drop (i + 1)) (Y.drop (k + 1)); rw [List.length_drop, HN.out] at this; omega
              by_cases hxy : x = y
              · subst hxy
                obtain ⟨v, HV⟩ : ∃ v, Hid (t (i + 1) (k + 1) = v) := ⟨_, rfl⟩
                have hv4 : v ≤ 2000 := by rw [← HV.out]; exact hb1
                have HRT2 : Hid (Rt X Y (i + 1) k (updT t i k (v + 1))) := hid (hR.step (by rw [hlc, if_pos rfl, ← hv1, HV.out]))
                have hwr : IntKind.u16.wrap ((v : Int) + 1) = (v : Int) + 1 := by rw [IntKind.wrap_u16]; omega
                clear hlc hR hv1 hv2 hv3 hb1
                go_wp2_with fail
                refine wp_region_held_drew (S := QA bx (ox + i) by_ (oy + k) x x) (by kernel_rfl) HQA.out (fun hHeld => ?_)
                generalize wr.drew = wd at hHeld HTBd ⊢
                refine takeL (i := 0) (v := ?_) rfl (by kernel_rfl) (by kernel_rfl) (by kernel_rfl) (fun _ _ _ h => h) (Or.inl ⟨by rfl, ?_⟩) hHeld ?_
                rotate_left
                · rintro w' ⟨s0, s1⟩; go_simp; rfl
                try simp only [Act.put, List.setIfInBounds_toArray, List.set_cons_zero, List.set_cons_succ]
                refine takeL (i := 1) (v := ?_) rfl (by kernel_rfl) (by kernel_rfl) (by kernel_rfl) (fun _ _ _ h => h) (Or.inl ⟨by rfl, ?_⟩) hHeld ?_
                rotate_left
                · rintro w' ⟨s0, s1⟩; go_simp; rfl
                try simp only [Act.put, List.setIfInBounds_toArray, List.set_cons_zero, List.set_cons_succ]
                refine takeL (i := 2) (v := ?_) rfl (by kernel_rfl) (by kernel_rfl) (by kernel_rfl) (fun _ _ _ h => h) (Or.inl ⟨by rfl, ?_⟩) hHeld ?_
                rotate_left
                · rintro w' ⟨s0, s1⟩; go_simp; rfl
                try simp only [Act.put, List.setIfInBounds_toArray, List.set_cons_zero, List.set_cons_succ]
                refine takeL (i := 3) (v := ?_) rfl (by kernel_rfl) (by kernel_rfl) (by kernel_rfl) (fun _ _ _ h => h) (Or.inl ⟨by rfl, ?_⟩) hHeld ?_
                rotate_left
                · rintro w' ⟨s0, s1⟩; go_simp; rfl
                try simp only [Act.put, List.setIfInBounds_toArray, List.set_cons_zero, List.set_cons_succ]
                refine takeL (i := 4) (v := ?_) rfl (by kernel_rfl) (by kernel_rfl) (by kernel_rfl) (fun _ _ _ h => h) (Or.inl ⟨by rfl, ?_⟩) hHeld ?_
                rotate_left
                · rintro w' ⟨s0, s1⟩; go_simp; rfl
                try simp only [Act.put, List.setIfInBounds_toArray, List.set_cons_zero, List.set_cons_succ]
                refine takeL (i := 5) (v := ?_) rfl (by kernel_rfl) (by kernel_rfl) (by kernel_rfl) (fun _ _ _ h => h) (Or.inl ⟨by rfl, ?_⟩) hHeld ?_
                rotate_left
                · rintro w' ⟨s0, s1⟩; go_simp; rfl
                try simp only [Act.put, List.setIfInBounds_toArray, List.set_cons_zero, List.set_cons_succ]
                refine takeL (i := 6) (v := ?_) rfl (by kernel_rfl) (by kernel_rfl) (by kernel_rfl) (fun _ _ _ h => h) (Or.inl ⟨by rfl, ?_⟩) hHeld ?_
                rotate_left
                · rintro w' ⟨s0, s1⟩; go_simp; rfl
                try simp only [Act.put, List.setIfInBounds_toArray, List.set_cons_zero, List.set_cons_succ]
                refine takeL (i := 7) (v := ?_) rfl (by kernel_rfl) (by kernel_rfl) (by kernel_rfl) (fun _ _ _ h => h) (Or.inl ⟨by rfl, ?_⟩) hHeld ?_
                rotate_left
                · rintro w' ⟨s0, s1⟩; go_simp; rfl
                try simp only [Act.put, List.setIfInBounds_toArray, List.set_cons_zero, List.set_cons_succ]
                refine takeL (i := 8) (v := .bool true) rfl (by kernel_rfl) (by kernel_rfl) (by kernel_rfl) (fun _ _ _ h => h) (Or.inl ⟨by rfl, ?_⟩) hHeld ?_
                · rintro w' ⟨s0, s1⟩; go_simp; try rfl
                try simp only [Act.put, List.setIfInBounds_toArray, List.set_cons_zero, List.set_cons_succ]
                refine wpAnyH_done (by kernel_rfl) ?_ _
                clear hHeld HQA
                go_wp2_with fail
                have HTB2 : Hid (Tb T p q w wd.drew t) := hid HTBd.out.drew
                have hS0 : QB T i k q v wd.drew := ⟨HTB2.out.outer i hip, HTB2.out.outer (i + 1) hi1p, by rw [← HV.out]; exact (HTB2.out.rows (i + 1) (k + 1) hi1p hk1q).1⟩
                obtain ⟨hk4, hf4⟩ := HTB2.out.rows i k hip hkq
                have HTB3 : Hid (Tb T p q w (wd.drew.setCell ⟨T + 1 + i, k, none⟩ (.int .u16 ((v : Int) + 1))) (updT t i k (v + 1))) := hid (by have h9 := HTB2.out.set i k (v + 1) hip hkq; rw [show ((v + 1 : Nat) : Int) = (v : Int) + 1 by omega] at h9; exact h9)
                refine region_U (QB T i k q v) 16 (by kernel_rfl) ?_
                generalize wd.drew = w2 at hS0 hk4 hf4 HTB3 ⊢
                refine takeU (i := 0) (v := ?_) rfl (by kernel_rfl) (by kernel_rfl) (by kernel_rfl) (by kernel_rfl) (fun _ _ _ h => h) (Or.inl ⟨by rfl, ?_⟩) hS0 ?_
                rotate_left
                · rintro w' ⟨s0, s1, s2⟩; go_simp; try simp only [hwi, hwk, hti, htk, h0i, h0k, hi1pI, hk1qI, and_self, if_true]
                  rfl
                try simp only [Act.put, List.setIfInBounds_toArray, List.set_cons_zero, List.set_cons_succ]
                refine takeU (i := 1) (v := ?_) rfl (by kernel_rfl) (by kernel_rfl) (by kernel_rfl) (by kernel_rfl) (fun _ _ _ h => h) (Or.inl ⟨by rfl, ?_⟩) hS0 ?_
                rotate_left
                · rintro w' ⟨s0, s1, s2⟩; go_simp; try simp only [hwi, hwk, hti, htk, h0i, h0k, hi1pI, hk1qI, and_self, if_true]
                  rfl
                try simp only [Act.put, List.setIfInBounds_toArray, List.set_cons_zero, List.set_cons_succ]
                refine takeU (i := 2) (v := ?_) rfl (by kernel_rfl) (by kernel_rfl) (by kernel_rfl) (by kernel_rfl) (fun _ _ _ h => h) (Or.inl ⟨by rfl, ?_⟩) hS0 ?_
                rotate_left
                · rintro w' ⟨s0, s1, s2⟩; go_simp; try simp only [hwi, hwk, hti, htk, h0i, h0k, hi1pI, hk1qI, and_self, if_true]
                  rfl
                try simp only [Act.put, List.setIfInBounds_toArray, List.set_cons_zero, List.set_cons_succ]
                refine takeU (i := 3) (v := ?_) rfl (by kernel_rfl) (by kernel_rfl) (by kernel_rfl) (by kernel_rfl) (fun _ _ _ h => h) (Or.inl ⟨by rfl, ?_⟩) hS0 ?_
                rotate_left
                · rintro w' ⟨s0, s1, s2⟩; go_simp; try simp only [hwi, hwk, hti, htk, h0i, h0k, hi1pI, hk1qI, and_self, if_true]
                  rfl
                try simp only [Act.put, List.setIfInBounds_toArray, List.set_cons_zero, List.set_cons_succ]
                refine takeU (i := 4) (v := ?_) rfl (by kernel_rfl) (by kernel_rfl) (by kernel_rfl) (by kernel_rfl) (fun _ _ _ h => h) (Or.inl ⟨by rfl, ?_⟩) hS0 ?_
                rotate_left
                · rintro w' ⟨s0, s1, s2⟩; go_simp; try simp only [hwi, hwk, hti, htk, h0i, h0k, hi1pI, hk1qI, and_self, if_true]
                  rfl
                try simp only [Act.put, List.setIfInBounds_toArray, List.set_cons_zero, List.set_cons_succ]
                refine takeU (i := 5) (v := ?_) rfl (by kernel_rfl) (by kernel_rfl) (by kernel_rfl) (by kernel_rfl) (fun _ _ _ h => h) (Or.inl ⟨by rfl, ?_⟩) hS0 ?_
                rotate_left
                · rintro w' ⟨s0, s1, s2⟩; go_simp; try simp only [hwi, hwk, hti, htk, h0i, h0k, hi1pI, hk1qI, and_self, if_true]
                  rfl
                try simp only [Act.put, List.setIfInBounds_toArray, List.set_cons_zero, List.set_cons_succ]
                refine takeU (i := 6) (v := ?_) rfl (by kernel_rfl) (by kernel_rfl) (by kernel_rfl) (by kernel_rfl) (fun _ _ _ h => h) (Or.inl ⟨by rfl, ?_⟩) hS0 ?_
                rotate_left
                · rintro w' ⟨s0, s1, s2⟩; go_simp; try simp only [hwi, hwk, hti, htk, h0i, h0k, hi1pI, hk1qI, and_self, if_true]
                  rfl
                try simp only [Act.put, List.setIfInBounds_toArray, List.set_cons_zero, List.set_cons_succ]
                refine takeU (i := 7) (v := ?_) rfl (by kernel_rfl) (by kernel_rfl) (by kernel_rfl) (by kernel_rfl) (fun _ _ _ h => h) (Or.inl ⟨by rfl, ?_⟩) hS0 ?_
                rotate_left
                · rintro w' ⟨s0, s1, s2⟩; go_simp; try simp only [hwi, hwk, hti, htk, h0i, h0k, hi1pI, hk1qI, and_self, if_true]
                  rfl
                try simp only [Act.put, List.setIfInBounds_toArray, List.set_cons_zero, List.set_cons_succ]
                refine takeU (i := 8) (v := ?_) rfl (by kernel_rfl) (by kernel_rfl) (by kernel_rfl) (by kernel_rfl) (fun _ _ _ h => h) (Or.inl ⟨by rfl, ?_⟩) hS0 ?_
                rotate_left
                · rintro w' ⟨s0, s1, s2⟩; go_simp; try simp only [hwi, hwk, hti, htk, h0i, h0k, hi1pI, hk1qI, and_self, if_true]
                  rfl
                try simp only [Act.put, List.setIfInBounds_toArray, List.set_cons_zero, List.set_cons_succ]
                refine takeU (i := 9) (v := ?_) rfl (by kernel_rfl) (by kernel_rfl) (by kernel_rfl) (by kernel_rfl) (fun _ _ _ h => h) (Or.inl ⟨by rfl, ?_⟩) hS0 ?_
                rotate_left
                · rintro w' ⟨s0, s1, s2⟩; go_simp; try simp only [hwi, hwk, hti, htk, h0i, h0k, hi1pI, hk1qI, and_self, if_true]
                  rfl
                try simp only [Act.put, List.setIfInBounds_toArray, List.set_cons_zero, List.set_cons_succ]
                refine takeU (i := 10) (v := ?_) rfl (by kernel_rfl) (by kernel_rfl) (by kernel_rfl) (by kernel_rfl) (fun _ _ _ h => h) (Or.inl ⟨by rfl, ?_⟩) hS0 ?_
                rotate_left
                · rintro w' ⟨s0, s1, s2⟩; go_simp; try simp only [hwi, hwk, hti, htk, h0i, h0k, hi1pI, hk1qI, and_self, if_true]
                  rfl
                try simp only [Act.put, List.setIfInBounds_toArray, List.set_cons_zero, List.set_cons_succ]
                refine takeU (i := 11) (v := ?_) rfl (by kernel_rfl) (by kernel_rfl) (by kernel_rfl) (by kernel_rfl) (fun _ _ _ h => h) (Or.inl ⟨by rfl, ?_⟩) hS0 ?_
                rotate_left
                · rintro w' ⟨s0, s1, s2⟩; go_simp; try simp only [hwi, hwk, hti, htk, h0i, h0k, hi1pI, hk1qI, and_self, if_true]
                  rfl
                try simp only [Act.put, List.setIfInBounds_toArray, List.set_cons_zero, List.set_cons_succ]
                refine takeU (i := 12) (v := ?_) rfl (by kernel_rfl) (by kernel_rfl) (by kernel_rfl) (by kernel_rfl) (fun _ _ _ h => h) (Or.inl ⟨by rfl, ?_⟩) hS0 ?_
                rotate_left
                · rintro w' ⟨s0, s1, s2⟩; go_simp; try simp only [hwi, hwk, hti, htk, h0i, h0k, hi1pI, hk1qI, and_self, if_true]
                  rfl
                try simp only [Act.put, List.setIfInBounds_toArray, List.set_cons_zero, List.set_cons_succ]
                refine takeU (i := 13) (v := ?_) rfl (by kernel_rfl) (by kernel_rfl) (by kernel_rfl) (by kernel_rfl) (fun _ _ _ h => h) (Or.inl ⟨by rfl, ?_⟩) hS0 ?_
                rotate_left
                · rintro w' ⟨s0, s1, s2⟩; go_simp; try simp only [hwi, hwk, hti, htk, h0i, h0k, hi1pI, hk1qI, and_self, if_true]
                  rfl
                try simp only [Act.put, List.setIfInBounds_toArray, List.set_cons_zero, List.set_cons_succ]
                refine takeU (i := 14) (v := .int .u16 ((v : Int) + 1)) rfl (by kernel_rfl) (by kernel_rfl) (by kernel_rfl) (by kernel_rfl) (fun _ _ _ h => h) (Or.inl ⟨by rfl, ?_⟩) hS0 ?_
                · rintro w' ⟨s0, s1, s2⟩; go_simp; try (simp only [hwr]; rfl)
                try simp only [Act.put, List.setIfInBounds_toArray, List.set_cons_zero, List.set_cons_succ]
                refine takeU (i := 15) (v := ?_) rfl (by kernel_rfl) (by kernel_rfl) (by kernel_rfl) (by kernel_rfl) (fun _ _ _ h => h) (Or.inl ⟨by rfl, ?_⟩) hS0 ?_
                rotate_left
                · rintro w' ⟨s0, s1, s2⟩; go_simp; try simp only [hwi, hwk, hti, htk, h0i, h0k, hi1pI, hk1qI, and_self, if_true]
                  rfl
                try simp only [Act.put, List.setIfInBounds_toArray, List.set_cons_zero, List.set_cons_succ]
                refine readyU1 (i := 16) (by kernel_rfl) (consU rfl (fun KK hKK => ?_))
                go_simp
                refine hKK.out _ _ (.inl rfl) ?_
                clear hKK KK
                try simp only [Act.put, List.setIfInBounds_toArray, List.set_cons_zero, List.set_cons_succ]
                refine doneU (by kernel_rfl) ?_ _
                clear hS0 hk4 hf4
                generalize w2.setCell ⟨T + 1 + i, k, none⟩ (.int .u16 ((v : Int) + 1)) = w3 at HTB3 ⊢
                try simp only [Exit.then]
                go_wp2
                go_roundg k
                case measure => omega
                case rel => exact ⟨k, _, rfl, by omega, rfl, HTB3, HRT2⟩
              · obtain ⟨v, HV⟩ : ∃ v, Hid (t (i + 1) k = v) := ⟨_, rfl⟩
                obtain ⟨u, HU⟩ : ∃ v, Hid (t i (k + 1) = v) := ⟨_, rfl⟩
                obtain ⟨z, HZ⟩ : ∃ z, Hid (max v u = z) := ⟨_, rfl⟩
                have hmx : max (v : Int) (u : Int) = (z : Int) := by rw [← HZ.out]; omega
                have hxb : (x == y) = false := by simpa using hxy
                have HRT2 : Hid (Rt X Y (i + 1) k (updT t i k z)) := hid (hR.step (by rw [hlc, if_neg hxy, ← hv2, ← hv3, HV.out, HU.out, HZ.out]))
                clear hlc hR hv1 hv2 hv3 hb1
                go_wp2_with fail
                refine wp_region_held_drew (S := QA bx (ox + i) by_ (oy + k) x y) (by kernel_rfl) HQA.out (fun hHeld => ?_)
                generalize wr.drew = wd at hHeld HTBd ⊢
                refine takeL (i := 0) (v := ?_) rfl (by kernel_rfl) (by kernel_rfl) (by kernel_rfl) (fun _ _ _ h => h) (Or.inl ⟨by rfl, ?_⟩) hHeld ?_
                rotate_left
                · rintro w' ⟨s0, s1⟩; go_simp; rfl
                try simp only [Act.put, List.setIfInBounds_toArray, List.set_cons_zero, List.set_cons_succ]
                refine takeL (i := 1) (v := ?_) rfl (by kernel_rfl) (by kernel_rfl) (by kernel_rfl) (fun _ _ _ h => h) (Or.inl ⟨by rfl, ?_⟩) hHeld ?_
                rotate_left
                · rintro w' ⟨s0, s1⟩; go_simp; rfl
                try simp only [Act.put, List.setIfInBounds_toArray, List.set_cons_zero, List.set_cons_succ]
                refine takeL (i := 2) (v := ?_) rfl (by kernel_rfl) (by kernel_rfl) (by kernel_rfl) (fun _ _ _ h => h) (Or.inl ⟨by rfl, ?_⟩) hHeld ?_
                rotate_left
                · rintro w' ⟨s0, s1⟩; go_simp; rfl
                try simp only [Act.put, List.setIfInBounds_toArray, List.set_cons_zero, List.set_cons_succ]
                refine takeL (i := 3) (v := ?_) rfl (by kernel_rfl) (by kernel_rfl) (by kernel_rfl) (fun _ _ _ h => h) (Or.inl ⟨by rfl, ?_⟩) hHeld ?_
                rotate_left
                · rintro w' ⟨s0, s1⟩; go_simp; rfl
                try simp only [Act.put, List.setIfInBounds_toArray, List.set_cons_zero, List.set_cons_succ]
                refine takeL (i := 4) (v := ?_) rfl (by kernel_rfl) (by kernel_rfl) (by kernel_rfl) (fun _ _ _ h => h) (Or.inl ⟨by rfl, ?_⟩) hHeld ?_
                rotate_left
                · rintro w' ⟨s0, s1⟩; go_simp; rfl
                try simp only [Act.put, List.setIfInBounds_toArray, List.set_cons_zero, List.set_cons_succ]
                refine takeL (i := 5) (v := ?_) rfl (by kernel_rfl) (by kernel_rfl) (by kernel_rfl) (fun _ _ _ h => h) (Or.inl ⟨by rfl, ?_⟩) hHeld ?_
                rotate_left
                · rintro w' ⟨s0, s1⟩; go_simp; rfl
                try simp only [Act.put, List.setIfInBounds_toArray, List.set_cons_zero, List.set_cons_succ]
                refine takeL (i := 6) (v := ?_) rfl (by kernel_rfl) (by kernel_rfl) (by kernel_rfl) (fun _ _ _ h => h) (Or.inl ⟨by rfl, ?_⟩) hHeld ?_
                rotate_left
                · rintro w' ⟨s0, s1⟩; go_simp; rfl
                try simp only [Act.put, List.setIfInBounds_toArray, List.set_cons_zero, List.set_cons_succ]
                refine takeL (i := 7) (v := ?_) rfl (by kernel_rfl) (by kernel_rfl) (by kernel_rfl) (fun _ _ _ h => h) (Or.inl ⟨by rfl, ?_⟩) hHeld ?_
                rotate_left
                · rintro w' ⟨s0, s1⟩; go_simp; rfl
                try simp only [Act.put, List.setIfInBounds_toArray, List.set_cons_zero, List.set_cons_succ]
                refine takeL (i := 8) (v := .bool false) rfl (by kernel_rfl) (by kernel_rfl) (by kernel_rfl) (fun _ _ _ h => h) (Or.inl ⟨by rfl, ?_⟩) hHeld ?_
                · rintro w' ⟨s0, s1⟩; go_simp; try rfl
                try simp only [Act.put, List.setIfInBounds_toArray, List.set_cons_zero, List.set_cons_succ]
                refine wpAnyH_done (by kernel_rfl) ?_ _
                clear hHeld HQA
                go_wp2_with fail
                have HTB2 : Hid (Tb T p q w wd.drew t) := hid HTBd.out.drew
                have hS0 : QC T i k q v u wd.drew := ⟨HTB2.out.outer i hip, HTB2.out.outer (i + 1) hi1p, by rw [← HV.out]; exact (HTB2.out.rows (i + 1) k hi1p hkq).1, by rw [← HU.out]; exact (HTB2.out.rows i (k + 1) hip hk1q).1⟩
                obtain ⟨hk4, hf4⟩ := HTB2.out.rows i k hip hkq
                have HTB3 : Hid (Tb T p q w (wd.drew.setCell ⟨T + 1 + i, k, none⟩ (.int .u16 (z : Int))) (updT t i k z)) := hid (HTB2.out.set i k z hip hkq)
                refine region_U (QC T i k q v u) 23 (by kernel_rfl) ?_
                generalize wd.drew = w2 at hS0 hk4 hf4 HTB3 ⊢
                refine takeU (i := 0) (v := ?_) rfl (by kernel_rfl) (by kernel_rfl) (by kernel_rfl) (by kernel_rfl) (fun _ _ _ h => h) (Or.inl ⟨by rfl, ?_⟩) hS0 ?_
                rotate_left
                · rintro w' ⟨s0, s1, s2, s3⟩; go_simp; try simp only [hwi, hwk, hti, htk, h0i, h0k, hi1pI, hk1qI, and_self, if_true]
                  rfl
                try simp only [Act.put, List.setIfInBounds_toArray, List.set_cons_zero, List.set_cons_succ]
                refine takeU (i := 1) (v := ?_) rfl (by kernel_rfl) (by kernel_rfl) (by kernel_rfl) (by kernel_rfl) (fun _ _ _ h => h) (Or.inl ⟨by rfl, ?_⟩) hS0 ?_
                rotate_left
                · rintro w' ⟨s0, s1, s2, s3⟩; go_simp; try simp only [hwi, hwk, hti, htk, h0i, h0k, hi1pI, hk1qI, and_self, if_true]
                  rfl
                try simp only [Act.put, List.setIfInBounds_toArray, List.set_cons_zero, List.set_cons_succ]
                refine takeU (i := 2) (v := ?_) rfl (by kernel_rfl) (by kernel_rfl) (by kernel_rfl) (by kernel_rfl) (fun _ _ _ h => h) (Or.inl ⟨by rfl, ?_⟩) hS0 ?_
                rotate_left
                · rintro w' ⟨s0, s1, s2, s3⟩; go_simp; try simp only [hwi, hwk, hti, htk, h0i, h0k, hi1pI, hk1qI, and_self, if_true]
                  rfl
                try simp only [Act.put, List.setIfInBounds_toArray, List.set_cons_zero, List.set_cons_succ]
                refine takeU (i := 3) (v := ?_) rfl (by kernel_rfl) (by kernel_rfl) (by kernel_rfl) (by kernel_rfl) (fun _ _ _ h => h) (Or.inl ⟨by rfl, ?_⟩) hS0 ?_
                rotate_left
                · rintro w' ⟨s0, s1, s2, s3⟩; go_simp; try simp only [hwi, hwk, hti, htk, h0i, h0k, hi1pI, hk1qI, and_self, if_true]
                  rfl
                try simp only [Act.put, List.setIfInBounds_toArray, List.set_cons_zero, List.set_cons_succ]
                refine takeU (i := 4) (v := ?_) rfl (by kernel_rfl) (by kernel_rfl) (by kernel_rfl) (by kernel_rfl) (fun _ _ _ h => h) (Or.inl ⟨by rfl, ?_⟩) hS0 ?_
                rotate_left
                · rintro w' ⟨s0, s1, s2, s3⟩; go_simp; try simp only [hwi, hwk, hti, htk, h0i, h0k, hi1pI, hk1qI, and_self, if_true]
                  rfl
                try simp only [Act.put, List.setIfInBounds_toArray, List.set_cons_zero, List.set_cons_succ]
                refine takeU (i := 5) (v := ?_) rfl (by kernel_rfl) (by kernel_rfl) (by kernel_rfl) (by kernel_rfl) (fun _ _ _ h => h) (Or.inl ⟨by rfl, ?_⟩) hS0 ?_
                rotate_left
                · rintro w' ⟨s0, s1, s2, s3⟩; go_simp; try simp only [hwi, hwk, hti, htk, h0i, h0k, hi1pI, hk1qI, and_self, if_true]
                  rfl
                try simp only [Act.put, List.setIfInBounds_toArray, List.set_cons_zero, List.set_cons_succ]
                refine takeU (i := 6) (v := ?_) rfl (by kernel_rfl) (by kernel_rfl) (by kernel_rfl) (by kernel_rfl) (fun _ _ _ h => h) (Or.inl ⟨by rfl, ?_⟩) hS0 ?_
                rotate_left
                · rintro w' ⟨s0, s1, s2, s3⟩; go_simp; try simp only [hwi, hwk, hti, htk, h0i, h0k, hi1pI, hk1qI, and_self, if_true]
                  rfl
                try simp only [Act.put, List.setIfInBounds_toArray, List.set_cons_zero, List.set_cons_succ]
                refine takeU (i := 7) (v := ?_) rfl (by kernel_rfl) (by kernel_rfl) (by kernel_rfl) (by kernel_rfl) (fun _ _ _ h => h) (Or.inl ⟨by rfl, ?_⟩) hS0 ?_
                rotate_left
                · rintro w' ⟨s0, s1, s2, s3⟩; go_simp; try simp only [hwi, hwk, hti, htk, h0i, h0k, hi1pI, hk1qI, and_self, if_true]
                  rfl
                try simp only [Act.put, List.setIfInBounds_toArray, List.set_cons_zero, List.set_cons_succ]
                refine takeU (i := 8) (v := ?_) rfl (by kernel_rfl) (by kernel_rfl) (by kernel_rfl) (by kernel_rfl) (fun _ _ _ h => h) (Or.inl ⟨by rfl, ?_⟩) hS0 ?_
                rotate_left
                · rintro w' ⟨s0, s1, s2, s3⟩; go_simp; try simp only [hwi, hwk, hti, htk, h0i, h0k, hi1pI, hk1qI, and_self, if_true]
                  rfl
                try simp only [Act.put, List.setIfInBounds_toArray, List.set_cons_zero, List.set_cons_succ]
                refine takeU (i := 9) (v := ?_) rfl (by kernel_rfl) (by kernel_rfl) (by kernel_rfl) (by kernel_rfl) (fun _ _ _ h => h) (Or.inl ⟨by rfl, ?_⟩) hS0 ?_
                rotate_left
                · rintro w' ⟨s0, s1, s2, s3⟩; go_simp; try simp only [hwi, hwk, hti, htk, h0i, h0k, hi1pI, hk1qI, and_self, if_true]
                  rfl
                try simp only [Act.put, List.setIfInBounds_toArray, List.set_cons_zero, List.set_cons_succ]
                refine takeU (i := 10) (v := ?_) rfl (by kernel_rfl) (by kernel_rfl) (by kernel_rfl) (by kernel_rfl) (fun _ _ _ h => h) (Or.inl ⟨by rfl, ?_⟩) hS0 ?_
                rotate_left
                · rintro w' ⟨s0, s1, s2, s3⟩; go_simp; try simp only [hwi, hwk, hti, htk, h0i, h0k, hi1pI, hk1qI, and_self, if_true]
                  rfl
                try simp only [Act.put, List.setIfInBounds_toArray, List.set_cons_zero, List.set_cons_succ]
                refine takeU (i := 11) (v := ?_) rfl (by kernel_rfl) (by kernel_rfl) (by kernel_rfl) (by kernel_rfl) (fun _ _ _ h => h) (Or.inl ⟨by rfl, ?_⟩) hS0 ?_
                rotate_left
                · rintro w' ⟨s0, s1, s2, s3⟩; go_simp; try simp only [hwi, hwk, hti, htk, h0i, h0k, hi1pI, hk1qI, and_self, if_true]
                  rfl
                try simp only [Act.put, List.setIfInBounds_toArray, List.set_cons_zero, List.set_cons_succ]
                refine takeU (i := 12) (v := ?_) rfl (by kernel_rfl) (by kernel_rfl) (by kernel_rfl) (by kernel_rfl) (fun _ _ _ h => h) (Or.inl ⟨by rfl, ?_⟩) hS0 ?_
                rotate_left
                · rintro w' ⟨s0, s1, s2, s3⟩; go_simp; try simp only [hwi, hwk, hti, htk, h0i, h0k, hi1pI, hk1qI, and_self, if_true]
                  rfl
                try simp only [Act.put, List.setIfInBounds_toArray, List.set_cons_zero, List.set_cons_succ]
                refine takeU (i := 13) (v := ?_) rfl (by kernel_rfl) (by kernel_rfl) (by kernel_rfl) (by kernel_rfl) (fun _ _ _ h => h) (Or.inl ⟨by rfl, ?_⟩) hS0 ?_
                rotate_left
                · rintro w' ⟨s0, s1, s2, s3⟩; go_simp; try simp only [hwi, hwk, hti, htk, h0i, h0k, hi1pI, hk1qI, and_self, if_true]
                  rfl
                try simp only [Act.put, List.setIfInBounds_toArray, List.set_cons_zero, List.set_cons_succ]
                refine takeU (i := 14) (v := ?_) rfl (by kernel_rfl) (by kernel_rfl) (by kernel_rfl) (by kernel_rfl) (fun _ _ _ h => h) (Or.inl ⟨by rfl, ?_⟩) hS0 ?_
                rotate_left
                · rintro w' ⟨s0, s1, s2, s3⟩; go_simp; try simp only [hwi, hwk, hti, htk, h0i, h0k, hi1pI, hk1qI, and_self, if_true]
                  rfl
                try simp only [Act.put, List.setIfInBounds_toArray, List.set_cons_zero, List.set_cons_succ]
                refine takeU (i := 15) (v := ?_) rfl (by kernel_rfl) (by kernel_rfl) (by kernel_rfl) (by kernel_rfl) (fun _ _ _ h => h) (Or.inl ⟨by rfl, ?_⟩) hS0 ?_
                rotate_left
                · rintro w' ⟨s0, s1, s2, s3⟩; go_simp; try simp only [hwi, hwk, hti, htk, h0i, h0k, hi1pI, hk1qI, and_self, if_true]
                  rfl
                try simp only [Act.put, List.setIfInBounds_toArray, List.set_cons_zero, List.set_cons_succ]
                refine takeU (i := 16) (v := ?_) rfl (by kernel_rfl) (by kernel_rfl) (by kernel_rfl) (by kernel_rfl) (fun _ _ _ h => h) (Or.inl ⟨by rfl, ?_⟩) hS0 ?_
                rotate_left
                · rintro w' ⟨s0, s1, s2, s3⟩; go_simp; try simp only [hwi, hwk, hti, htk, h0i, h0k, hi1pI, hk1qI, and_self, if_true]
                  rfl
                try simp only [Act.put, List.setIfInBounds_toArray, List.set_cons_zero, List.set_cons_succ]
                refine takeU (i := 17) (v := ?_) rfl (by kernel_rfl) (by kernel_rfl) (by kernel_rfl) (by kernel_rfl) (fun _ _ _ h => h) (Or.inl ⟨by rfl, ?_⟩) hS0 ?_
                rotate_left
                · rintro w' ⟨s0, s1, s2, s3⟩; go_simp; try simp only [hwi, hwk, hti, htk, h0i, h0k, hi1pI, hk1qI, and_self, if_true]
                  rfl
                try simp only [Act.put, List.setIfInBounds_toArray, List.set_cons_zero, List.set_cons_succ]
                refine takeU (i := 18) (v := ?_) rfl (by kernel_rfl) (by kernel_rfl) (by kernel_rfl) (by kernel_rfl) (fun _ _ _ h => h) (Or.inl ⟨by rfl, ?_⟩) hS0 ?_
                rotate_left
                · rintro w' ⟨s0, s1, s2, s3⟩; go_simp; try simp only [hwi, hwk, hti, htk, h0i, h0k, hi1pI, hk1qI, and_self, if_true]
                  rfl
                try simp only [Act.put, List.setIfInBounds_toArray, List.set_cons_zero, List.set_cons_succ]
                refine takeU (i := 19) (v := ?_) rfl (by kernel_rfl) (by kernel_rfl) (by kernel_rfl) (by kernel_rfl) (fun _ _ _ h => h) (Or.inl ⟨by rfl, ?_⟩) hS0 ?_
                rotate_left
                · rintro w' ⟨s0, s1, s2, s3⟩; go_simp; try simp only [hwi, hwk, hti, htk, h0i, h0k, hi1pI, hk1qI, and_self, if_true]
                  rfl
                try simp only [Act.put, List.setIfInBounds_toArray, List.set_cons_zero, List.set_cons_succ]
                refine takeU (i := 20) (v := ?_) rfl (by kernel_rfl) (by kernel_rfl) (by kernel_rfl) (by kernel_rfl) (fun _ _ _ h => h) (Or.inl ⟨by rfl, ?_⟩) hS0 ?_
                rotate_left
                · rintro w' ⟨s0, s1, s2, s3⟩; go_simp; try simp only [hwi, hwk, hti, htk, h0i, h0k, hi1pI, hk1qI, and_self, if_true]
                  rfl
                try simp only [Act.put, List.setIfInBounds_toArray, List.set_cons_zero, List.set_cons_succ]
                refine takeU (i := 21) (v := .int .u16 (z : Int)) rfl (by kernel_rfl) (by kernel_rfl) (by kernel_rfl) (by kernel_rfl) (fun _ _ _ h => h) (Or.inl ⟨by rfl, ?_⟩) hS0 ?_
                · rintro w' ⟨s0, s1, s2, s3⟩; go_simp; try rfl
                try simp only [Act.put, List.setIfInBounds_toArray, List.set_cons_zero, List.set_cons_succ]
                refine takeU (i := 22) (v := ?_) rfl (by kernel_rfl) (by kernel_rfl) (by kernel_rfl) (by kernel_rfl) (fun _ _ _ h => h) (Or.inl ⟨by rfl, ?_⟩) hS0 ?_
                rotate_left
                · rintro w' ⟨s0, s1, s2, s3⟩; go_simp; try simp only [hwi, hwk, hti, htk, h0i, h0k, hi1pI, hk1qI, and_self, if_true]
                  rfl
                try simp only [Act.put, List.setIfInBounds_toArray, List.set_cons_zero, List.set_cons_succ]
                refine readyU1 (i := 23) (by kernel_rfl) (consU rfl (fun KK hKK => ?_))
                go_simp
                refine hKK.out _ _ (.inl rfl) ?_
                clear hKK KK
                try simp only [Act.put, List.setIfInBounds_toArray, List.set_cons_zero, List.set_cons_succ]
                refine doneU (by kernel_rfl) ?_ _
                clear hS0 hk4 hf4
                generalize w2.setCell ⟨T + 1 + i, k, none⟩ (.int .u16 (z : Int)) = w3 at HTB3 ⊢
                try simp only [Exit.then]
                go_wp2
                go_roundg k
                case measure => omega
                case rel => exact ⟨k, _, rfl, by omega, rfl, HTB3, HRT2⟩
end Go.Proofs.YtmpjapcijjjlbaaGreatDoor
