/- The law's 'few', 'plain'; the document's 'Find'. -/
import Derived.Test.YtjgjeedablgmeaaDoorGrV
namespace Go.Proofs.YtjgjeedablgmeaaDoor
open Go.RowKit
set_option linter.unusedVariables false
set_option linter.unusedSimpArgs false
/-- Few enough. -/
def Few (l : List Nd) : Prop := l.length ≤ 40 ∧ ∀ x ∈ l, x.ps.length ≤ 40
set_option maxRecDepth 20000 in
set_option maxHeartbeats 1000000 in
theorem few_any {w : World} (a : Option Addr) (cap : Nat) (l : List Nd) (hP : Pn w a cap l) (hw : ∀ x ∈ l, x.id.length = 20) : Calls Tryd.prog 7 #[.slice a l.length cap] w fun e w' => BI (Few l) e ∧ w' = w := by
  obtain ⟨n, HN⟩ : ∃ n, Hid (l.length = n) := ⟨_, rfl⟩
  have HP : Hid (Pn w a cap l) := hP
  have HW : Hid (∀ x ∈ l, x.id.length = 20) := hw
  have HPL : Hid (0 < n → ∃ b off, a = some ⟨b, off, none⟩) := fun h0 => by
    obtain ⟨b, off, e1, _⟩ := hP.at_ (by rw [HN.out]; exact h0)
    exact ⟨b, off, e1⟩
  rw [HN.out]
  clear hP hw
  go_enter Tryd.func7, Tryd.ntmps7
  by_cases hbig : 40 < n
  · have hbi : (40 : Int) < (n : Int) := by omega
    have HNO : Hid (¬ Few l) := fun h => by have := h.1; rw [HN.out] at this; omega
    go_wp2
    go_ret
    exact ⟨⟨false, by simp [HNO.out], rfl⟩, rfl⟩
  · have hbi : ¬ (40 : Int) < (n : Int) := by omega
    go_wp2_with fail
    go_loopg [3] n (fun gg iv wr => ∃ i : Nat, i ≤ n ∧ gg = n - i ∧ iv = .int .i64 i ∧ wr = w ∧ Hid (∀ x ∈ l.take i, x.ps.length ≤ 40))
    case atStart => exact ⟨0, Nat.zero_le _, rfl, rfl, rfl, hid (by simp)⟩
    case round =>
      obtain ⟨i, hi, hk, rfl, rfl, HA⟩ := hrel
      by_cases hlt : i < n
      · have hlti : (i : Int) < (n : Int) := by omega
        obtain ⟨b, off, hae⟩ := HPL.out (by omega)
        subst hae
        obtain ⟨x, HX⟩ : ∃ x, Hid (l.getD i nd0 = x) := ⟨_, rfl⟩
        have hxm : x ∈ l := by rw [← HX.out]; exact getD_mem l i _ (by rw [HN.out]; exact hlt)
        obtain ⟨k, HK⟩ : ∃ k, Hid (x.ps.length = k) := ⟨_, rfl⟩
        have hcell : wr.cell? ⟨b, off + i * 22 + 20, none⟩ = some (.slice x.pa k x.pc) := by
          obtain ⟨b', off', e1, _, e3⟩ := HP.out.at_ (by rw [HN.out]; omega)
          cases e1
          have := nd_ps (e3 i (by rw [HN.out]; exact hlt)) (by rw [HX.out]; exact HW.out x hxm)
          rw [HX.out, HK.out] at this
          exact this
        have HXM : Hid (x ∈ l) := hxm
        clear hxm
        by_cases hk4 : 40 < k
        · have hk4i : (40 : Int) < (k : Int) := by omega
          have HNO : Hid (¬ Few l) := fun h => by have := h.2 x HXM.out; rw [HK.out] at this; omega
          go_wp2
          go_ret
          exact ⟨⟨false, by simp [HNO.out], rfl⟩, rfl⟩
        · have hk4i : ¬ (40 : Int) < (k : Int) := by omega
          go_wp2
          go_roundg (n - (i + 1))
          case measure => omega
          case rel => exact ⟨i + 1, by omega, rfl, by go_num, rfl, hid (by
              rw [take_snocG nd0 l i (by rw [HN.out]; exact hlt), HX.out]
              intro z hz
              rcases List.mem_append.1 hz with h1 | h1
              · exact HA.out z h1
              · have : z = x := by simpa using h1
                rw [this, HK.out]; omega)⟩
      · have hlti : ¬ (i : Int) < (n : Int) := by omega
        have HOK : Hid (Few l) := hid ⟨by rw [HN.out]; omega, fun x hx => HA.out x (by rw [List.take_of_length_le (by rw [HN.out]; omega)]; exact hx)⟩
        go_wp2
        go_ret
        exact ⟨⟨true, by simp [HOK.out], rfl⟩, rfl⟩
set_option maxRecDepth 20000 in
set_option maxHeartbeats 1000000 in
theorem plain_any {w : World} (a : Option Addr) (cap : Nat) (l : List (List Int)) (hP : Pa w a cap l) (hw : ∀ x ∈ l, IdW x) (hn : l.length ≤ 1000) : Calls Tryd.prog 13 #[.slice a l.length cap] w fun e w' => ∃ v, e = .returned v ∧ Bi 41 w w' w.heap.size v l := by
  obtain ⟨n, HN⟩ : ∃ n, Hid (l.length = n) := ⟨_, rfl⟩
  obtain ⟨G, HG⟩ : ∃ G, Hid (w.heap.size = G) := ⟨_, rfl⟩
  have hnn : n ≤ 1000 := by rw [← HN.out]; exact hn
  have HPA : Hid (∀ W, Below G w W → Pa W a cap l) := fun W hW => hP.below (by rw [HG.out]; exact hW)
  have HPL : Hid (0 < n → ∃ b off, a = some ⟨b, off, none⟩) := fun h0 => by
    obtain ⟨b, off, e1, e2, _⟩ := hP.at_ (by rw [HN.out]; exact h0)
    exact ⟨b, off, e1⟩
  have HWF : Hid (∀ x ∈ l, IdW x) := hw
  have HE0 : Hid (Bi 41 w w G (.slice none 0 0) (l.take 0)) := hid (bx_nil 41 w G (by rw [HG.out]; exact Nat.le_refl _))
  rw [HN.out]
  clear hP hw
  go_enter Tryd.func13, Tryd.ntmps13
  go_wp2_with fail
  go_loopg [3, 4] n (fun g u iv wr => ∃ (i : Nat) (v : Value), v = u ∧ i ≤ n ∧ g = n - i ∧ iv = .int .i64 i ∧ Hid (Bi 41 w wr G v (l.take i)))
  case atStart => exact ⟨0, _, rfl, Nat.zero_le _, rfl, rfl, HE0⟩
  case round =>
    obtain ⟨i, v, hv, hi, hk, rfl, HBE⟩ := hrel
    subst hv
    by_cases hlt : i < n
    · have hlti : (i : Int) < (n : Int) := by omega
      obtain ⟨b, off, hae⟩ := HPL.out (by omega)
      subst hae
      obtain ⟨x, HX⟩ : ∃ x, Hid (l.getD i [] = x) := ⟨_, rfl⟩
      have hxm : x ∈ l := by rw [← HX.out]; exact getD_mem l i _ (by rw [HN.out]; exact hlt)
      have HX20 : Hid (x.length = 20) := (HWF.out x hxm).1
      obtain ⟨RI, HRI⟩ : ∃ R, Hid (row .u8 x = R) := ⟨_, rfl⟩
      have hiI : (Tryd.prog.info? 42).map (·.size) = some RI.length := by rw [← HRI.out, row_len, HX20.out]; exact Tryd.size42
      have RR : Hid (wr.rangeAt b (off + i * 20) RI) := hid (by
        obtain ⟨b', off', e1, _, e3⟩ := (HPA.out wr HBE.out.below).at_ (by rw [HN.out]; omega)
        cases e1
        have := e3 i (by rw [HN.out]; exact hlt)
        rw [HX.out, HRI.out] at this
        exact this)
      obtain ⟨K7, HK7⟩ : ∃ K, Hid (wr.heap.size = K) := ⟨_, rfl⟩
      have HBLD : Hid ((Instr.buildSlice 35 1 #[(0, .agg RI.toArray)]).run Tryd.prog wr = .ok (.slice (some ⟨K7, 0, none⟩) 1 1) (wr.alloc (.cells RI.toArray 41))) := hid (by rw [← HK7.out, ← HRI.out]; exact run_build35 x HX20.out wr)
      have HV7 : Hid (Bi 41 w (wr.alloc (.cells RI.toArray 41)) G v (l.take i)) := hid (HBE.out.alloc _)
      have HP8 : Hid (Pa (wr.alloc (.cells RI.toArray 41)) (some ⟨K7, 0, none⟩) 1 [x]) := hid (by rw [← HK7.out, ← HRI.out]; exact pa_one wr x 41)
      have HSUM : Hid ((l.take i).length + [x].length ≤ 30000) := hid (by rw [List.length_take, HN.out]; simp only [List.length_cons, List.length_nil]; omega)
      have HONE1 : Hid (∀ z ∈ [x], (row .u8 z).length = 20) := fun z hz => by
        have : z = x := by simpa using hz
        rw [this, row_len]; exact HX20.out
      clear hxm
      go_wp2_with (first
        | refine wpList_load_mid rfl 42 _ rfl b (off + i * 20) rfl RI _ RR.out Tryd.underlying42 rfl hiI ?_
        | refine wpList_bS rfl 35 1 _ rfl (.agg RI.toArray) _ rfl HBLD.out ?_
        | (refine wpList_bx_sl (d := []) rfl _ _ 35 41 Tryd.underlying35 Tryd.info41 rfl (by decide) (by decide) (fun z => row_one _ z) rfl G v _ rfl HV7.out (some ⟨K7, 0, none⟩) 1 [x] rfl HP8.out HONE1.out HSUM.out ?_; intro v8 w8 hb8 hg8)
        | fail)
      have HB8 : Hid (Bi 41 w w8 G v8 (l.take (i + 1))) := hid (by rw [take_snocG [] l i (by rw [HN.out]; exact hlt), HX.out]; exact hb8)
      clear hb8 hg8
      go_roundg (n - (i + 1))
      case measure => omega
      case rel => exact ⟨i + 1, v8, rfl, by omega, rfl, by go_num, HB8⟩
    · have hlti : ¬ (i : Int) < (n : Int) := by omega
      have HBZ : Hid (Bi 41 w wr G v l) := hid (by
        have := HBE.out
        rw [List.take_of_length_le (by rw [HN.out]; omega)] at this
        exact this)
      go_wp2
      go_ret
      exact ⟨v, rfl, by rw [HG.out]; exact HBZ.out⟩
/-- Where a node of an id is first; -1: nowhere. -/
def fnd : List Nd → List Int → Int
  | [], _ => -1
  | x :: r, y => if x.id = y then 0 else if fnd r y < 0 then -1 else fnd r y + 1
structure QF (b o G : Nat) (RI Y : List Value) (W : World) : Prop where
  r0 : W.rangeAt b o RI
  r1 : W.rangeAt G 0 Y
theorem fnd_at : ∀ (l : List Nd) (y : List Int) (i : Nat), i < l.length → (∀ x ∈ l.take i, x.id ≠ y) → (l.getD i nd0).id = y → fnd l y = (i : Int)
  | [], y, i, hi, _, _ => by simp at hi
  | x :: r, y, 0, hi, _, h => by
    have : x.id = y := h
    simp [fnd, this]
  | x :: r, y, i + 1, hi, hn, h => by
    have h1 : x.id ≠ y := hn x (by simp)
    have ih := fnd_at r y i (by simpa using hi) (fun z hz => hn z (by simp [hz])) (by simpa using h)
    unfold fnd
    rw [if_neg h1, ih, if_neg (by omega)]
    omega
theorem fnd_none : ∀ (l : List Nd) (y : List Int), (∀ x ∈ l, x.id ≠ y) → fnd l y = -1
  | [], y, _ => rfl
  | x :: r, y, h => by
    unfold fnd
    rw [if_neg (h x (by simp)), fnd_none r y (fun z hz => h z (by simp [hz])), if_pos (by decide)]
set_option maxRecDepth 20000 in
set_option maxHeartbeats 2000000 in
theorem find_any {w : World} (a : Option Addr) (cap : Nat) (l : List Nd) (hP : Pn w a cap l) (hw : ∀ x ∈ l, x.id.length = 20) (hn : l.length ≤ 40) (y : List Int) (hy : y.length = 20) : Calls Tryd.prog 23 #[.slice a l.length cap, idV y] w fun e w' => e = .returned (.int .i64 (fnd l y)) ∧ Below w.heap.size w w' := by
  obtain ⟨n, HN⟩ : ∃ n, Hid (l.length = n) := ⟨_, rfl⟩
  obtain ⟨G, HG⟩ : ∃ G, Hid (w.heap.size = G) := ⟨_, rfl⟩
  have hn40 : n ≤ 40 := by rw [← HN.out]; exact hn
  obtain ⟨Y, HY⟩ : ∃ S : List Value, Hid (row .u8 y = S) := ⟨_, rfl⟩
  have HY20 : Hid (y.length = 20) := hy
  have hiY : (Tryd.prog.info? 41).map (·.size) = some Y.length := by rw [← HY.out, row_len, hy]; exact Tryd.size41
  obtain ⟨w1, HW1⟩ : ∃ w1, Hid (w.alloc (.cells Y.toArray 41) = w1) := ⟨_, rfl⟩
  have HB1 : Hid (Below G w w1) := hid (by rw [← HW1.out, ← HG.out]; exact (Below.refl _ w).alloc (Nat.le_refl _) _)
  have HX1 : Hid (w1.heap[G]? = some (.cells Y.toArray 41 (0, 0))) := hid (by rw [← HW1.out, ← HG.out]; exact heap_alloc_new w _)
  have HPA : Hid (∀ W, Below G w W → Pn W a cap l) := fun W hW => hP.below (by rw [HG.out]; exact hW)
  have HPL : Hid (0 < n → ∃ b off, a = some ⟨b, off, none⟩) := fun h0 => by
    obtain ⟨b, off, e1, e2, _⟩ := hP.at_ (by rw [HN.out]; exact h0)
    exact ⟨b, off, e1⟩
  have HWF : Hid (∀ x ∈ l, x.id.length = 20) := hw
  unfold idV
  rw [HN.out, HY.out]
  clear hP hw hy
  go_enter Tryd.func23, Tryd.ntmps23
  go_wp2_with fail
  rw [HW1.out, HG.out]
  go_loopg [5] n (fun gg iv wr => ∃ i : Nat, i ≤ n ∧ gg = n - i ∧ iv = .int .i64 i ∧ Hid (Below G w wr) ∧ Hid (wr.heap[G]? = some (.cells Y.toArray 41 (0, 0))) ∧ Hid (∀ x ∈ l.take i, x.id ≠ y))
  case atStart => exact ⟨0, Nat.zero_le _, rfl, rfl, HB1, HX1, hid (by simp)⟩
  case round =>
    obtain ⟨i, hi, hk, rfl, HB, HX, HA⟩ := hrel
    by_cases hlt : i < n
    · have hlti : (i : Int) < (n : Int) := by omega
      obtain ⟨b, off, hae⟩ := HPL.out (by omega)
      subst hae
      obtain ⟨x, HXx⟩ : ∃ x, Hid (l.getD i nd0 = x) := ⟨_, rfl⟩
      have hxm : x ∈ l := by rw [← HXx.out]; exact getD_mem l i _ (by rw [HN.out]; exact hlt)
      have HX20 : Hid (x.id.length = 20) := HWF.out x hxm
      obtain ⟨RI, HRI⟩ : ∃ R, Hid (row .u8 x.id = R) := ⟨_, rfl⟩
      have hiI : (Tryd.prog.info? 41).map (·.size) = some RI.length := by rw [← HRI.out, row_len, HX20.out]; exact Tryd.size41
      have HBd : Hid (Below G w wr.drew) := hid (below_drewH HB.out 1)
      have HXd : Hid (wr.drew.heap[G]? = some (.cells Y.toArray 41 (0, 0))) := HX
      have hSd : QF b (off + i * 22) G RI Y wr.drew := ⟨by
        obtain ⟨b', off', e1, _, e3⟩ := (HPA.out wr.drew HBd.out).at_ (by rw [HN.out]; omega)
        cases e1
        have := e3 i (by rw [HN.out]; exact hlt)
        rw [HXx.out] at this
        rw [← HRI.out]
        exact nd_id this, range_row HXd.out⟩
      have HEQ : Hid (∀ W : World, (Op.equalIn 10000 41 (.agg RI.toArray) (.agg Y.toArray)).run Tryd.prog W = .ok (decide (x.id = y)) W) := fun W => by rw [← HRI.out, ← HY.out]; exact eq41 x.id y HX20.out HY20.out W
      clear hxm
      go_wp2_with fail
      refine wp_region_held_drew (S := QF b (off + i * 22) G RI Y) (by kernel_rfl) hSd (fun hHeld => ?_)
      clear hSd
      generalize wr.drew = u0 at hHeld HBd HXd ⊢
      refine takeL (i := 0) (v := ?_) rfl (by kernel_rfl) (by kernel_rfl) (by kernel_rfl) (fun _ _ _ h => h) (Or.inl ⟨by rfl, ?_⟩) hHeld ?_
      rotate_left
      · rintro w' ⟨r0, r1⟩; go_simp; rfl
      try simp only [Act.put, List.setIfInBounds_toArray, List.set_cons_zero, List.set_cons_succ]
      refine takeL (i := 1) (v := ?_) rfl (by kernel_rfl) (by kernel_rfl) (by kernel_rfl) (fun _ _ _ h => h) (Or.inl ⟨by rfl, ?_⟩) hHeld ?_
      rotate_left
      · rintro w' ⟨r0, r1⟩; go_simp; rfl
      try simp only [Act.put, List.setIfInBounds_toArray, List.set_cons_zero, List.set_cons_succ]
      refine takeL (i := 2) (v := ?_) rfl (by kernel_rfl) (by kernel_rfl) (by kernel_rfl) (fun _ _ _ h => h) (Or.inl ⟨by rfl, ?_⟩) hHeld ?_
      rotate_left
      · rintro w' ⟨r0, r1⟩; go_simp; rfl
      try simp only [Act.put, List.setIfInBounds_toArray, List.set_cons_zero, List.set_cons_succ]
      refine takeL (i := 3) (v := ?_) rfl (by kernel_rfl) (by kernel_rfl) (by kernel_rfl) (fun _ _ _ h => h) (Or.inl ⟨by rfl, ?_⟩) hHeld ?_
      rotate_left
      · rintro w' ⟨r0, r1⟩; go_simp; rfl
      try simp only [Act.put, List.setIfInBounds_toArray, List.set_cons_zero, List.set_cons_succ]
      refine takeL (i := 4) (v := .agg RI.toArray) rfl (by kernel_rfl) (by kernel_rfl) (by kernel_rfl) (fun _ _ _ h => h) (yieldsIf_load_mid (by kernel_rfl) 41 _ rfl b (off + i * 22) (by rfl) RI _ (fun w' h => h.r0) Tryd.underlying41 rfl hiI) hHeld ?_
      try simp only [Act.put, List.setIfInBounds_toArray, List.set_cons_zero, List.set_cons_succ]
      refine takeL (i := 5) (v := .agg Y.toArray) rfl (by kernel_rfl) (by kernel_rfl) (by kernel_rfl) (fun _ _ _ h => h) (yieldsIf_load_mid (by kernel_rfl) 41 _ rfl G (0) (by rfl) Y _ (fun w' h => h.r1) Tryd.underlying41 rfl hiY) hHeld ?_
      try simp only [Act.put, List.setIfInBounds_toArray, List.set_cons_zero, List.set_cons_succ]
      by_cases hxy : x.id = y
      · have heq : ∀ W : World, (Op.equalIn 10000 41 (.agg RI.toArray) (.agg Y.toArray)).run Tryd.prog W = .ok true W := fun W => by rw [HEQ.out W, decide_eq_true hxy]
        refine takeL (i := 6) (v := .bool true) rfl (by kernel_rfl) (by kernel_rfl) (by kernel_rfl) (fun _ _ _ h => h) (Or.inl ⟨by rfl, ?_⟩) hHeld ?_
        · rintro w' _; go_simp; try rfl
        try simp only [Act.put, List.setIfInBounds_toArray, List.set_cons_zero, List.set_cons_succ]
        refine wpAnyH_done (by kernel_rfl) ?_ _
        clear hHeld heq
        have HFN : Hid (fnd l y = (i : Int)) := hid (fnd_at l y i (by rw [HN.out]; exact hlt) HA.out (by rw [HXx.out]; exact hxy))
        go_wp2
        go_ret
        exact ⟨by rw [HFN.out]; rfl, by rw [HG.out]; exact HBd.out⟩
      · have heq : ∀ W : World, (Op.equalIn 10000 41 (.agg RI.toArray) (.agg Y.toArray)).run Tryd.prog W = .ok false W := fun W => by rw [HEQ.out W, decide_eq_false hxy]
        refine takeL (i := 6) (v := .bool false) rfl (by kernel_rfl) (by kernel_rfl) (by kernel_rfl) (fun _ _ _ h => h) (Or.inl ⟨by rfl, ?_⟩) hHeld ?_
        · rintro w' _; go_simp; try rfl
        try simp only [Act.put, List.setIfInBounds_toArray, List.set_cons_zero, List.set_cons_succ]
        refine wpAnyH_done (by kernel_rfl) ?_ _
        clear hHeld heq
        go_wp2
        go_roundg (n - (i + 1))
        case measure => omega
        case rel => exact ⟨i + 1, by omega, rfl, by go_num, HBd, HXd, hid (by
            rw [take_snocG nd0 l i (by rw [HN.out]; exact hlt), HXx.out]
            intro z hz
            rcases List.mem_append.1 hz with h1 | h1
            · exact HA.out z h1
            · have : z = x := by simpa using h1
              rw [this]; exact hxy)⟩
    · have hlti : ¬ (i : Int) < (n : Int) := by omega
      have HFN : Hid (fnd l y = -1) := hid (fnd_none l y (fun x hx => HA.out x (by rw [List.take_of_length_le (by rw [HN.out]; omega)]; exact hx)))
      go_wp2
      go_ret
      exact ⟨by rw [HFN.out]; rfl, by rw [HG.out]; exact HB.out⟩
end Go.Proofs.YtjgjeedablgmeaaDoor
