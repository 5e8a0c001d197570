import Derived.Test.YtcicoeneemnbiaaGreatDoorMw18
import Derived.Test.YtcicoeneemnbiaaGreatDoorMw11
namespace Go.Proofs.YtcicoeneemnbiaaGreatDoor
open Go.RowKit
variable [Inhabited En]
set_option linter.unusedVariables false
set_option linter.unusedSectionVars false
set_option linter.unusedSimpArgs false
structure EY (W : World) (g : Nat) (e : Ey) : Prop where
  lt : g < W.heap.size
  at_ : W.rangeAt g 0 (encY e)
  fr : ∀ j, W.frozen? ⟨g, j, none⟩ = false
  id : e.id.length = 20
theorem ey_new (W : World) : EY (W.alloc (.cells (encY dY).toArray 48)) W.heap.size dY :=
  ⟨by rw [size_alloc]; omega, range_row (heap_alloc_new W _), fun j => by
    have h := heap_alloc_new W (.cells (encY dY).toArray 48)
    simp only [World.frozen?]
    rw [h]
    simp, by simp [dY, zs]⟩
theorem EY.set {W : World} {g : Nat} {e e' : Ey} (h : EY W g e) (j : Nat) (v : Value) (hj : j < 24) (he : encY e' = (encY e).set j v) (hi : e'.id.length = 20) : EY (W.setCell ⟨g, j, none⟩ v) g e' := by
  refine ⟨by simp [World.setCell]; exact h.lt, fun k u hk => ?_, fun k => by rw [World.frozen?_setCell]; exact h.fr k, hi⟩
  rw [he] at hk
  have hl := encY_len e h.id
  rw [Nat.zero_add]
  by_cases e1 : k = j
  · subst e1
    rw [List.getElem?_set_self (by omega)] at hk
    obtain ⟨u0, hu0⟩ : ∃ u0, (encY e)[k]? = some u0 := ⟨_, List.getElem?_eq_getElem (by omega)⟩
    have h0 := h.at_ k u0 hu0
    rw [Nat.zero_add] at h0
    rw [World.cell?_setCell_same _ _ _ h0]
    exact hk
  · rw [List.getElem?_set_ne (by omega)] at hk
    have h0 := h.at_ k u hk
    rw [Nat.zero_add] at h0
    rw [World.cell?_setCell_other _ _ _ _ (by intro h; simp only [Addr.mk.injEq] at h; omega)]
    exact h0
theorem encY_id (e : Ey) (m : Str) (h : e.id.length = 20) (hm : m.length = 20) (j : Nat) : (encY { e with id := m })[j]? = if 2 ≤ j ∧ j < 22 then (bv m)[j - 2]? else (encY e)[j]? := by
  unfold encY
  match j with
  | 0 => rfl
  | 1 => rfl
  | j + 2 =>
    simp only [List.getElem?_cons_succ]
    by_cases hj : j < 20
    · rw [if_pos (by omega), List.getElem?_append_left (by rw [bv_len, hm]; exact hj)]
      rfl
    · rw [if_neg (by omega), List.getElem?_append_right (by rw [bv_len, hm]; omega), List.getElem?_append_right (by rw [bv_len, h]; omega), bv_len, bv_len, h, hm]
theorem EY.copy {W : World} {g : Nat} {e : Ey} (h : EY W g e) (m : Str) (hm : m.length = 20) (hsz : (W.setCells g 2 (bv m)).heap.size = W.heap.size) : EY (W.setCells g 2 (bv m)) g { e with id := m } := by
  have hl := encY_len e h.id
  refine ⟨by rw [hsz]; exact h.lt, fun k u hk => ?_, fun k => by rw [World.frozen?_setCells]; exact h.fr k, hm⟩
  rw [encY_id e m h.id hm] at hk
  rw [Nat.zero_add]
  by_cases hk2 : 2 ≤ k ∧ k < 22
  · rw [if_pos hk2] at hk
    have hlt := (List.getElem?_eq_some_iff.1 hk).1
    have := World.cell?_setCells_in g (bv m) 2 W (fun j hj => by
      rw [bv_len, hm] at hj
      have h0 := h.at_ (2 + j) _ (List.getElem?_eq_getElem (by omega))
      rw [Nat.zero_add] at h0
      rw [h0]; rfl) (k - 2) hlt
    rw [show 2 + (k - 2) = k by omega] at this
    rw [this]
    rw [List.getElem?_eq_getElem hlt] at hk
    exact hk
  · rw [if_neg hk2] at hk
    have h0 := h.at_ k u hk
    rw [Nat.zero_add] at h0
    rw [World.cell?_setCells_out g (bv m) 2 W ⟨g, k, none⟩ (fun _ _ => by rw [bv_len, hm]; show k < 2 ∨ 2 + 20 ≤ k; omega)]
    exact h0
theorem EY.below {W W' : World} {g : Nat} {e : Ey} (h : EY W g e) (hb : W'.heap[g]? = W.heap[g]?) (hl : W.heap.size ≤ W'.heap.size) : EY W' g e :=
  ⟨Nat.lt_of_lt_of_le h.lt hl, fun j v hv => (World.cell?_of_block (a := ⟨g, 0 + j, none⟩) hb).trans (h.at_ j v hv), fun j => by
    have := h.fr j
    simp only [World.frozen?] at this ⊢
    rw [hb]; exact this, h.id⟩
theorem EY.cell {W : World} {g : Nat} {e : Ey} (h : EY W g e) (j : Nat) (v : Value) (hv : (encY e)[j]? = some v) : W.cell? ⟨g, j, none⟩ = some v := by
  have := h.at_ j v hv
  rwa [Nat.zero_add] at this
theorem encY_stage (e : Ey) (h : e.id.length = 20) (x : Int) : encY { e with stage := x } = (encY e).set 23 (.int .i64 x) := by
  unfold encY
  rw [List.set_cons_succ, List.set_cons_succ, List.set_append, if_neg (by rw [bv_len, h]; decide), bv_len, h]
  rfl
structure RS (w1 wr W : World) (G0 : Nat) (v : Value) (l : List Ey) (e : Ey) : Prop where
  ey : EY W wr.heap.size e
  bx : BY 48 w1 W G0 v l
  ob : ∀ k, v.ownBlock = some k → k ≠ wr.heap.size
  gl : G0 ≤ wr.heap.size
theorem RS.new {w1 wr : World} {G0 : Nat} {v : Value} {l : List Ey} (h : BY 48 w1 wr G0 v l) : RS w1 wr (wr.alloc (.cells (encY dY).toArray 48)) G0 v l dY :=
  ⟨ey_new wr, h.alloc _, fun k hk => by have := (own_lt h.own k hk).2; omega, h.le⟩
theorem RS.set {w1 wr W : World} {G0 : Nat} {v : Value} {l : List Ey} {e : Ey} (h : RS w1 wr W G0 v l e) (e' : Ey) (j : Nat) (u : Value) (hj : j < 24) (he : encY e' = (encY e).set j u) (hi : e'.id.length = 20) : RS w1 wr (W.setCell ⟨wr.heap.size, j, none⟩ u) G0 v l e' :=
  ⟨h.ey.set j u hj he hi, h.bx.change h.ob h.gl (grown_cells W wr.heap.size j [u]), h.ob, h.gl⟩
theorem setCells_size : ∀ (vs : List Value) (g o : Nat) (w : World), (w.setCells g o vs).heap.size = w.heap.size
  | [], _, _, _ => rfl
  | v :: vs, g, o, w => by
    rw [World.setCells, setCells_size vs g (o + 1)]
    simp [World.setCell]
theorem RS.copy {w1 wr W : World} {G0 : Nat} {v : Value} {l : List Ey} {e : Ey} (h : RS w1 wr W G0 v l e) (m : Str) (hm : m.length = 20) : RS w1 wr (W.setCells wr.heap.size 2 (bv m)) G0 v l { e with id := m } :=
  ⟨h.ey.copy m hm (setCells_size _ _ _ _), h.bx.change h.ob h.gl (grown_cells W wr.heap.size 2 (bv m)), h.ob, h.gl⟩
theorem RS.drew {w1 wr W : World} {G0 : Nat} {v : Value} {l : List Ey} {e : Ey} (h : RS w1 wr W G0 v l e) : RS w1 wr W.drew G0 v l e :=
  ⟨h.ey.below rfl (Nat.le_refl _), h.bx.carry (Below.drewR (Below.refl _ _)), h.ob, h.gl⟩
def dcL : Nat → Str → Option (List Ey)
  | 0, _ => some []
  | k + 1, t => if t.length < 62 ∨ t.length - 62 < bth t % 4096 then none else (dcL k (t.drop (entLen (bth t % 4096)))).map (rdE t :: ·)
def docL (s : Str) : Option (List Ey) := if s.length < 32 then none else if 2000 < bn ((s.drop 8).take 4) then none else dcL (bn ((s.drop 8).take 4)) (s.drop 12)
theorem dcL_no (k : Nat) (t : Str) (h : t.length < 62 ∨ t.length - 62 < bth t % 4096) : dcL (k + 1) t = none := by rw [dcL, if_pos h]
theorem dcL_go (k : Nat) (t : Str) (h1 : ¬ t.length < 62) (h2 : ¬ t.length - 62 < bth t % 4096) : dcL (k + 1) t = (dcL k (t.drop (entLen (bth t % 4096)))).map (rdE t :: ·) := by rw [dcL, if_neg (by omega)]
theorem bth_bn (t : Str) (h : 62 ≤ t.length) : bn ((t.drop 60).take 2) = bth t := by
  unfold bth
  obtain ⟨x, hx⟩ : ∃ x, t[60]? = some x := ⟨_, List.getElem?_eq_getElem (by omega)⟩
  obtain ⟨y, hy⟩ : ∃ y, t[61]? = some y := ⟨_, List.getElem?_eq_getElem (by omega)⟩
  have e : (t.drop 60).take 2 = [x, y] := by
    apply List.ext_getElem?
    intro j
    match j with
    | 0 => simp [List.getElem?_take, hx]
    | 1 => simp [List.getElem?_take, hy]
    | j + 2 =>
      rw [List.getElem?_take, if_neg (by omega)]
      rfl
  rw [e, List.getD_eq_getElem?_getD, List.getD_eq_getElem?_getD, hx, hy]
  simp [bn]
theorem bth_lt (t : Str) : bth t < 65536 := by
  unfold bth
  have h1 := (t.getD 60 0).toNat_lt
  have h2 := (t.getD 61 0).toNat_lt
  omega
theorem rdE_eq (t : Str) (h2 : ¬ t.length - 62 < bth t % 4096) (h1 : ¬ t.length < 62) : rdE t = ⟨(t.drop 62).take (bth t % 4096), (bn ((t.drop 24).take 4) : Nat), (t.drop 40).take 20, (bn ((t.drop 36).take 4) : Nat), (bth t / 4096 : Nat)⟩ := by
  unfold rdE endE
  rw [show min (62 + bth t % 4096) t.length - 62 = bth t % 4096 by omega]
theorem value_mid {W : World} (a : Option Addr) (cap : Nat) (s : Str) (hP : PB W a cap s) (i j : Nat) (hij : i ≤ j) (hj : j ≤ s.length) (h4 : j - i ≤ 4) : Calls Tryz.prog 43 #[.slice (adX 1 a cap i) (j - i : Nat) (cap - i : Nat)] W fun e w' => e = .returned (.int .i64 ((bn ((s.drop i).take (j - i)) : Nat) : Int)) ∧ w' = W := by
  have hl : ((s.drop i).take (j - i)).length = j - i := by rw [List.length_take, List.length_drop]; omega
  have := value_any (adX 1 a cap i) (cap - i) ((s.drop i).take (j - i)) (Px.mid hP i j hij hj) (by rw [hl]; exact h4)
  rw [hl] at this
  exact this
def DG (l : List Ey) (s : Str) : Prop := codeY l = 0 ∧ ∃ sm, nums sm = sha (nums (idxS (srtY l))) ∧ s = idxS (srtY l) ++ sm
def PostDr (s : Str) (w : World) (e : Ending) (w' : World) : Prop :=
  Below w.heap.size w w' ∧ ((∃ l, docL s = some l ∧ DG l s ∧ ∃ a cap, e = .returned (.tuple #[.slice a l.length cap, .bool true]) ∧ PY w' a cap l) ∨ ((¬ ∃ l, docL s = some l ∧ DG l s) ∧ e = .returned (.tuple #[.slice none 0 0, .bool false])))
theorem Tryz.results22 : Tryz.f22.results = #[.tmp 2, .tmp 3] := by kernel_rfl
theorem dcl_step (k : Nat) (s : Str) (at_ : Nat) (l : List Ey) (n : Nat) (h1 : ¬ (s.drop at_).length < 62) (h2 : ¬ (s.drop at_).length - 62 < bth (s.drop at_) % 4096) (h : dcL n (s.drop 12) = (dcL (k + 1) (s.drop at_)).map (l ++ ·)) :
    dcL n (s.drop 12) = (dcL k (s.drop (at_ + entLen (bth (s.drop at_) % 4096)))).map ((l ++ [rdE (s.drop at_)]) ++ ·) := by
  rw [h, dcL_go k _ h1 h2, List.drop_drop]
  cases dcL k (s.drop (at_ + entLen (bth (s.drop at_) % 4096))) <;> simp
end Go.Proofs.YtcicoeneemnbiaaGreatDoor
namespace Go.Proofs.YtcicoeneemnbiaaGreatDoor
open Go.RowKit
variable [Inhabited En]
set_option linter.unusedVariables false
set_option linter.unusedSectionVars false
set_option linter.unusedSimpArgs false
set_option maxRecDepth 20000 in
set_option maxHeartbeats 8000000 in
theorem refRead_any {w : World} (a : Option Addr) (cap : Nat) (s : Str) (hP : PB w a cap s) (hl : s.length ≤ 20000) : Calls Tryz.prog 22 #[.slice a s.length cap] w (PostDr s w) := by
  obtain ⟨m, HMm⟩ : ∃ m, Hid (s.length = m) := ⟨_, rfl⟩
  have hm : m ≤ 20000 := by rw [← HMm.out]; exact hl
  have hcap : m ≤ cap := by rw [← HMm.out]; exact hP.capl
  obtain ⟨G0, HG0⟩ : ∃ g, Hid (w.heap.size = g) := ⟨_, rfl⟩
  have HPW : Hid (∀ W, Below G0 w W → PB W a cap s) := fun W hW => hP.below (by rw [HG0.out]; exact hW)
  have HFA : Hid (0 < m → ∃ b off, a = some ⟨b, off, none⟩ ∧ b < G0) := fun h0 => by
    obtain ⟨b, off, e1, e2, _⟩ := hP.at_ (by rw [HMm.out]; exact h0)
    exact ⟨b, off, e1, by rw [← HG0.out]; exact e2⟩
  have HVL : Hid (∀ W, Below G0 w W → ∀ i j, i ≤ j → j ≤ m → j - i ≤ 4 → Calls Tryz.prog 43 #[.slice (adX 1 a cap i) (j - i : Nat) (cap - i : Nat)] W fun e w' => e = .returned (.int .i64 ((bn ((s.drop i).take (j - i)) : Nat) : Int)) ∧ w' = W) := fun W hW i j h1 h2 h3 => value_mid a cap s (hP.below (by rw [HG0.out]; exact hW)) i j h1 (by rw [HMm.out]; exact h2) h3
  have HSL : Hid (∀ (i j : Nat) (J : Int), J = (j : Int) → i ≤ j → j ≤ m → ∀ W : World, (Instr.slice 23 (.slice a m cap) (some (.int .i64 i)) (some (.int .i64 J)) none).run Tryz.prog W = .ok (.slice (adX 1 a cap i) (j - i : Nat) (cap - i : Nat)) W) := fun i j J h0 h1 h2 W => sl22 a m cap i j J h0 h1 (by omega) W
  have HPB := hid hP
  rw [HMm.out]
  clear hP hl
  by_cases h32 : m < 32
  · have h32i : (m : Int) < 32 := by omega
    have HN : Hid (¬ ∃ l, docL s = some l ∧ DG l s) := hid (by rintro ⟨l, h, _⟩; unfold docL at h; rw [if_pos (by rw [HMm.out]; exact h32)] at h; cases h)
    go_enter Tryz.func22, Tryz.ntmps22
    go_wp2
    refine bodyPost_ret (results_tmp2 Tryz.results22 _ _ _) rfl ?_
    exact ⟨Below.refl _ _, .inr ⟨HN.out, rfl⟩⟩
  have h32i : ¬ (m : Int) < 32 := by omega
  obtain ⟨n, HNn⟩ : ∃ n, Hid (bn ((s.drop 8).take 4) = n) := ⟨_, rfl⟩
  obtain ⟨A8, HA8⟩ : ∃ x, Hid (adX 1 a cap 8 = x) := ⟨_, rfl⟩
  obtain ⟨c8, HC8⟩ : ∃ x, Hid (cap - 8 = x) := ⟨_, rfl⟩
  have C0 : Hid (Calls Tryz.prog 43 #[.slice A8 4 c8] w fun e w' => e = .returned (.int .i64 ((n : Nat) : Int)) ∧ w' = w) := hid (by rw [← HNn.out, ← HA8.out, ← HC8.out]; exact HVL.out w (Below.refl _ _) 8 12 (by decide) (by omega) (by decide))
  have hs0 : ∀ W : World, (Instr.slice 23 (.slice a m cap) (some (.int .i64 8)) (some (.int .i64 12)) none).run Tryz.prog W = .ok (.slice A8 4 c8) W := fun W => by rw [← HA8.out, ← HC8.out]; exact HSL.out 8 12 12 rfl (by decide) (by omega) W
  go_enter Tryz.func22, Tryz.ntmps22
  go_wp2_with fail
  refine C0.out.mono ?_
  rintro e w1 ⟨rfl, rfl⟩
  by_cases hn2 : 2000 < n
  · have hn2i : (2000 : Int) < (n : Int) := by omega
    have HN : Hid (¬ ∃ l, docL s = some l ∧ DG l s) := hid (by rintro ⟨l, h, _⟩; unfold docL at h; rw [if_neg (by rw [HMm.out]; exact h32), if_pos (by rw [HNn.out]; exact hn2)] at h; cases h)
    go_wp2
    refine bodyPost_ret (results_tmp2 Tryz.results22 _ _ _) rfl ?_
    exact ⟨Below.refl _ _, .inr ⟨HN.out, rfl⟩⟩
  have hn2i : ¬ (2000 : Int) < (n : Int) := by omega
  have HDL : Hid (docL s = dcL n (s.drop 12)) := hid (by unfold docL; rw [if_neg (by rw [HMm.out]; exact h32), HNn.out, if_neg hn2])
  go_wp2_with fail
  go_loopg [5, 6, 7] n (fun gg av lv iv wr => ∃ (i at_ : Nat) (l : List Ey), av = .int .i64 at_ ∧ iv = .int .i64 i ∧ i ≤ n ∧ gg = n - i ∧ at_ ≤ m + 8 ∧ Hid (12 + i * 64 ≤ at_) ∧ Hid (l.length = i) ∧ Hid (WY l) ∧ Hid (BY 48 w1 wr G0 lv l) ∧ Hid (dcL n (s.drop 12) = (dcL (n - i) (s.drop at_)).map (l ++ ·)))
  case atStart => exact ⟨0, 12, [], rfl, rfl, Nat.zero_le _, rfl, by omega, hid (by omega), hid rfl, hid (fun e he => by cases he), hid (bx_nil _ _ _ (by rw [HG0.out]; exact Nat.le_refl _)), hid (by simp)⟩
  case round =>
    obtain ⟨i, at_, l, rfl, rfl, hi, hk, hat, HAT, HLl, HWl, HBY, HDC⟩ := hrel
    by_cases hlt : i < n
    · have hlti : (i : Int) < (n : Int) := by omega
      obtain ⟨k, HKk⟩ : ∃ k, Hid (n - i = k + 1) := ⟨n - i - 1, hid (by omega)⟩
      rw [HKk.out] at HDC
      obtain ⟨t, HTt⟩ : ∃ t, Hid (s.drop at_ = t) := ⟨_, rfl⟩
      rw [HTt.out] at HDC
      have HTL : Hid (t.length = m - at_) := hid (by rw [← HTt.out, List.length_drop, HMm.out])
      have HBB : Hid (Below w1.heap.size w1 wr) := hid (by rw [HG0.out]; exact HBY.out.below)
      by_cases h62 : m < at_ + 62
      · have h62i : (m : Int) - (at_ : Int) < 62 := by omega
        have HN : Hid (¬ ∃ l, docL s = some l ∧ DG l s) := hid (by
          rintro ⟨l', h, _⟩
          rw [HDL.out, HDC.out, dcL_no k t (.inl (by rw [HTL.out]; omega))] at h
          cases h)
        go_wp2
        refine bodyPost_ret (results_tmp2 Tryz.results22 _ _ _) rfl ?_
        exact ⟨HBB.out, .inr ⟨HN.out, rfl⟩⟩
      have h62i : ¬ (m : Int) - (at_ : Int) < 62 := by omega
      obtain ⟨b, off, hae, hbG⟩ := HFA.out (by omega)
      subst hae
      have hz48 : ∀ w : World, (zeroValue 48).run Tryz.prog w = .ok (.agg (encY dY).toArray) w := fun w => by kernel_rfl
      obtain ⟨W0, HW0⟩ : ∃ W, Hid (wr.alloc (.cells (encY dY).toArray 48) = W) := ⟨_, rfl⟩
      have al0 : wr.alloc (.cells (encY dY).toArray 48) = W0 := HW0.out
      have R0 : Hid (RS w1 wr W0 G0 u6 l dY) := hid (by rw [← HW0.out]; exact RS.new HBY.out)
      obtain ⟨md, Hmd⟩ : ∃ x, Hid (bn ((s.drop (at_ + 24)).take 4) = x) := ⟨_, rfl⟩
      obtain ⟨A24, HA24⟩ : ∃ x, Hid (adX 1 (some ⟨b, off, none⟩) cap (at_ + 24) = x) := ⟨_, rfl⟩
      obtain ⟨c24, HC24⟩ : ∃ x, Hid (cap - (at_ + 24) = x) := ⟨_, rfl⟩
      have hs24 : ∀ W : World, (Instr.slice 23 (.slice (some ⟨b, off, none⟩) m cap) (some (.int .i64 ((at_ : Int) + 24))) (some (.int .i64 ((at_ : Int) + 28))) none).run Tryz.prog W = .ok (.slice A24 4 c24) W := fun W => by
        have := HSL.out (at_ + 24) (at_ + 28) ((at_ : Int) + 28) (by omega) (by omega) (by omega) W
        rw [HA24.out, HC24.out, show at_ + 28 - (at_ + 24) = 4 by omega] at this
        exact this
      have C24 : Hid (∀ W, Below G0 w1 W → Calls Tryz.prog 43 #[.slice A24 4 c24] W fun e w' => e = .returned (.int .i64 (md : Int)) ∧ w' = W) := hid (fun W hW => by
        have := HVL.out W hW (at_ + 24) (at_ + 28) (by omega) (by omega) (by omega)
        rw [HA24.out, HC24.out, show at_ + 28 - (at_ + 24) = 4 by omega, Hmd.out] at this
        exact this)
      obtain ⟨sz, Hsz⟩ : ∃ x, Hid (bn ((s.drop (at_ + 36)).take 4) = x) := ⟨_, rfl⟩
      obtain ⟨A36, HA36⟩ : ∃ x, Hid (adX 1 (some ⟨b, off, none⟩) cap (at_ + 36) = x) := ⟨_, rfl⟩
      obtain ⟨c36, HC36⟩ : ∃ x, Hid (cap - (at_ + 36) = x) := ⟨_, rfl⟩
      have hs36 : ∀ W : World, (Instr.slice 23 (.slice (some ⟨b, off, none⟩) m cap) (some (.int .i64 ((at_ : Int) + 36))) (some (.int .i64 ((at_ : Int) + 40))) none).run Tryz.prog W = .ok (.slice A36 4 c36) W := fun W => by
        have := HSL.out (at_ + 36) (at_ + 40) ((at_ : Int) + 40) (by omega) (by omega) (by omega) W
        rw [HA36.out, HC36.out, show at_ + 40 - (at_ + 36) = 4 by omega] at this
        exact this
      have C36 : Hid (∀ W, Below G0 w1 W → Calls Tryz.prog 43 #[.slice A36 4 c36] W fun e w' => e = .returned (.int .i64 (sz : Int)) ∧ w' = W) := hid (fun W hW => by
        have := HVL.out W hW (at_ + 36) (at_ + 40) (by omega) (by omega) (by omega)
        rw [HA36.out, HC36.out, show at_ + 40 - (at_ + 36) = 4 by omega, Hsz.out] at this
        exact this)
      obtain ⟨f, Hf⟩ : ∃ x, Hid (bn ((s.drop (at_ + 60)).take 2) = x) := ⟨_, rfl⟩
      obtain ⟨A60, HA60⟩ : ∃ x, Hid (adX 1 (some ⟨b, off, none⟩) cap (at_ + 60) = x) := ⟨_, rfl⟩
      obtain ⟨c60, HC60⟩ : ∃ x, Hid (cap - (at_ + 60) = x) := ⟨_, rfl⟩
      have hs60 : ∀ W : World, (Instr.slice 23 (.slice (some ⟨b, off, none⟩) m cap) (some (.int .i64 ((at_ : Int) + 60))) (some (.int .i64 ((at_ : Int) + 62))) none).run Tryz.prog W = .ok (.slice A60 2 c60) W := fun W => by
        have := HSL.out (at_ + 60) (at_ + 62) ((at_ : Int) + 62) (by omega) (by omega) (by omega) W
        rw [HA60.out, HC60.out, show at_ + 62 - (at_ + 60) = 2 by omega] at this
        exact this
      have C60 : Hid (∀ W, Below G0 w1 W → Calls Tryz.prog 43 #[.slice A60 2 c60] W fun e w' => e = .returned (.int .i64 (f : Int)) ∧ w' = W) := hid (fun W hW => by
        have := HVL.out W hW (at_ + 60) (at_ + 62) (by omega) (by omega) (by omega)
        rw [HA60.out, HC60.out, show at_ + 62 - (at_ + 60) = 2 by omega, Hf.out] at this
        exact this)
      obtain ⟨A40, HA40⟩ : ∃ x, Hid (adX 1 (some ⟨b, off, none⟩) cap (at_ + 40) = x) := ⟨_, rfl⟩
      obtain ⟨c40, HC40⟩ : ∃ x, Hid (cap - (at_ + 40) = x) := ⟨_, rfl⟩
      have hs40 : ∀ W : World, (Instr.slice 23 (.slice (some ⟨b, off, none⟩) m cap) (some (.int .i64 ((at_ : Int) + 40))) (some (.int .i64 ((at_ : Int) + 60))) none).run Tryz.prog W = .ok (.slice A40 20 c40) W := fun W => by
        have := HSL.out (at_ + 40) (at_ + 60) ((at_ : Int) + 60) (by omega) (by omega) (by omega) W
        rw [HA40.out, HC40.out, show at_ + 60 - (at_ + 40) = 20 by omega] at this
        exact this
      have hmdb : md < 4294967296 := by rw [← Hmd.out]; have := bn_lt ((s.drop (at_ + 24)).take 4) 0 0 (by decide); have h2 : ((s.drop (at_ + 24)).take 4).length ≤ 4 := by rw [List.length_take]; omega
                                        exact Nat.lt_of_lt_of_le this (Nat.pow_le_pow_right (by decide) (show 0 + _ ≤ 4 by omega))
      have HFb : Hid (f = bth t) := hid (by rw [← Hf.out, ← HTt.out, ← bth_bn _ (by rw [HTt.out, HTL.out]; omega), List.drop_drop])
      have hfb : f < 65536 := by rw [HFb.out]; exact bth_lt t
      have C24a := hid (C24.out W0 R0.out.bx.below)
      have k1 : W0.cell? ⟨wr.heap.size, 1, none⟩ = some (.int .i64 0) := R0.out.ey.cell 1 _ rfl
      have f1 : W0.frozen? ⟨wr.heap.size, 1, none⟩ = false := R0.out.ey.fr 1
      obtain ⟨e1, He1⟩ : ∃ e : Ey, Hid (e = { dY with mode := (md : Int) }) := ⟨_, rfl⟩
      obtain ⟨W1, HW1⟩ : ∃ W, Hid (W0.setCell ⟨wr.heap.size, 1, none⟩ (.int .i64 (md : Int)) = W) := ⟨_, rfl⟩
      have st1 : W0.setCell ⟨wr.heap.size, 1, none⟩ (.int .i64 (md : Int)) = W1 := HW1.out
      have R1 : Hid (RS w1 wr W1 G0 u6 l e1) := hid (by rw [← HW1.out, He1.out]; exact R0.out.set _ 1 _ (by decide) rfl (by simp [dY, zs]))
      have C36a := hid (C36.out W1 R1.out.bx.below)
      have k2 : W1.cell? ⟨wr.heap.size, 22, none⟩ = some (.int .i64 0) := R1.out.ey.cell 22 _ (by rw [He1.out]; rfl)
      have f2 : W1.frozen? ⟨wr.heap.size, 22, none⟩ = false := R1.out.ey.fr 22
      obtain ⟨e2, He2⟩ : ∃ e : Ey, Hid (e = { e1 with size := (sz : Int) }) := ⟨_, rfl⟩
      obtain ⟨W2, HW2⟩ : ∃ W, Hid (W1.setCell ⟨wr.heap.size, 22, none⟩ (.int .i64 (sz : Int)) = W) := ⟨_, rfl⟩
      have st2 : W1.setCell ⟨wr.heap.size, 22, none⟩ (.int .i64 (sz : Int)) = W2 := HW2.out
      have R2 : Hid (RS w1 wr W2 G0 u6 l e2) := hid (by rw [← HW2.out, He2.out, He1.out]; exact (He1.out ▸ R1.out).set _ 22 _ (by decide) rfl (by simp [dY, zs]))
      go_wp2_with fail
      refine C24a.out.mono ?_
      rintro e w' ⟨rfl, hw'⟩
      rw [hw']
      clear hw' w'
      go_wp2_with fail
      refine C36a.out.mono ?_
      rintro e w' ⟨rfl, hw'⟩
      rw [hw']
      clear hw' w'
      go_wp2_with fail
      have R2d := hid R2.out.drew
      have hw40 : IntKind.i64.wrap ((at_ : Int) + 40) = (at_ : Int) + 40 := by rw [IntKind.wrap_i64]; omega
      have hw60 : IntKind.i64.wrap ((at_ : Int) + 60) = (at_ : Int) + 60 := by rw [IntKind.wrap_i64]; omega
      refine wp_region_held_drew (S := fun _ => True) (by kernel_rfl) trivial (fun hHeld => ?_)
      generalize W2.drew = wd at R2d ⊢
      obtain ⟨m20, Hm20⟩ : ∃ x, Hid ((s.drop (at_ + 40)).take 20 = x) := ⟨_, rfl⟩
      have hm20 : m20.length = 20 := by rw [← Hm20.out, List.length_take, List.length_drop, HMm.out]; omega
      have HCp : Hid (∀ ty, (Builtin.copy_ #[23, 23] ty #[.slice (some ⟨wr.heap.size, 2, none⟩) 20 20, .slice A40 20 c40]).run Tryz.prog wd = .ok (goInt m20.length) (wd.setCells wr.heap.size 2 (bv m20))) := hid (fun ty => by
        have hpb : PB wd A40 c40 m20 := by
          have := Px.mid (HPW.out wd R2d.out.bx.below) (at_ + 40) (at_ + 60) (by omega) (by rw [HMm.out]; omega)
          rw [HA40.out, HC40.out, show at_ + 60 - (at_ + 40) = 20 by omega, Hm20.out] at this
          exact this
        obtain ⟨b2, off2, e1, _⟩ := hpb.at_ (by rw [hm20]; decide)
        subst e1
        have := run_copy_cells (P := Tryz.prog) wd 23 23 ty 5 wr.heap.size 2 20 20 ⟨b2, off2, none⟩ 20 c40 (bv m20) Tryz.underlying23 (by kernel_rfl) (by rw [bv_len, hm20]; rfl) hpb.at (fun j hj => by
          rw [bv_len, hm20] at hj
          have h0 := R2d.out.ey.cell (2 + j) _ (List.getElem?_eq_getElem (by rw [encY_len _ R2d.out.ey.id]; omega))
          rw [h0]; rfl) (fun j hj => R2d.out.ey.fr _) (bv_one m20)
        rw [bv_len] at this
        exact this)
      refine takeL (i := 0) (v := ?_) rfl (by kernel_rfl) (by kernel_rfl) (by kernel_rfl) (fun _ _ _ h => h) (Or.inl ⟨by rfl, ?_⟩) hHeld ?_
      rotate_left
      · rintro w' _; go_simp; rfl
      try simp only [Act.put, List.setIfInBounds_toArray, List.set_cons_zero, List.set_cons_succ]
      refine takeL (i := 1) (v := .slice (some ⟨wr.heap.size, 2, none⟩) 20 20) rfl (by kernel_rfl) (by kernel_rfl) (by kernel_rfl) (fun _ _ _ h => h) (Or.inl ⟨by rfl, ?_⟩) hHeld ?_
      · rintro w' _; go_simp; try rfl
      try simp only [Act.put, List.setIfInBounds_toArray, List.set_cons_zero, List.set_cons_succ]
      refine takeL (i := 2) (v := ?_) rfl (by kernel_rfl) (by kernel_rfl) (by kernel_rfl) (fun _ _ _ h => h) (Or.inl ⟨by rfl, ?_⟩) hHeld ?_
      rotate_left
      · rintro w' _; go_simp; rfl
      try simp only [Act.put, List.setIfInBounds_toArray, List.set_cons_zero, List.set_cons_succ]
      refine takeL (i := 3) (v := ?_) rfl (by kernel_rfl) (by kernel_rfl) (by kernel_rfl) (fun _ _ _ h => h) (Or.inl ⟨by rfl, ?_⟩) hHeld ?_
      rotate_left
      · rintro w' _; go_simp; rfl
      try simp only [Act.put, List.setIfInBounds_toArray, List.set_cons_zero, List.set_cons_succ]
      refine takeL (i := 4) (v := .int .i64 ((at_ : Int) + 40)) rfl (by kernel_rfl) (by kernel_rfl) (by kernel_rfl) (fun _ _ _ h => h) (Or.inl ⟨by rfl, ?_⟩) hHeld ?_
      · rintro w' _; go_simp; try rfl
      try simp only [Act.put, List.setIfInBounds_toArray, List.set_cons_zero, List.set_cons_succ]
      refine takeL (i := 5) (v := ?_) rfl (by kernel_rfl) (by kernel_rfl) (by kernel_rfl) (fun _ _ _ h => h) (Or.inl ⟨by rfl, ?_⟩) hHeld ?_
      rotate_left
      · rintro w' _; go_simp; rfl
      try simp only [Act.put, List.setIfInBounds_toArray, List.set_cons_zero, List.set_cons_succ]
      refine takeL (i := 6) (v := .int .i64 ((at_ : Int) + 60)) rfl (by kernel_rfl) (by kernel_rfl) (by kernel_rfl) (fun _ _ _ h => h) (Or.inl ⟨by rfl, ?_⟩) hHeld ?_
      · rintro w' _; go_simp; try rfl
      try simp only [Act.put, List.setIfInBounds_toArray, List.set_cons_zero, List.set_cons_succ]
      refine takeL (i := 7) (v := .slice A40 20 c40) rfl (by kernel_rfl) (by kernel_rfl) (by kernel_rfl) (fun _ _ _ h => h) (Or.inl ⟨by rfl, ?_⟩) hHeld ?_
      · rintro w' _; go_simp; try rfl
      try simp only [Act.put, List.setIfInBounds_toArray, List.set_cons_zero, List.set_cons_succ]
      refine wpAnyH_ready (rs := [8]) (by kernel_rfl) (by simp) ?_
      refine consL rfl (fun KK hKK => ?_) AllReadyH.nil
      refine step_copy2 (by rfl) (.tmp 48) (.tmp 54) 23 23 _ _ _ _ (by rfl) (by rfl) (by rfl) (HCp.out _) ?_
      refine hKK.out _ _ trivial (fun hH2 => ?_)
      clear hKK KK hH2 hHeld HCp
      try simp only [Act.put, List.setIfInBounds_toArray, List.set_cons_zero, List.set_cons_succ]
      refine wpAnyH_done (by kernel_rfl) ?_ _
      obtain ⟨W3, HW3⟩ : ∃ W, Hid (wd.setCells wr.heap.size 2 (bv m20) = W) := ⟨_, rfl⟩
      rw [HW3.out]
      obtain ⟨e3, He3⟩ : ∃ e : Ey, Hid (e = { e2 with id := m20 }) := ⟨_, rfl⟩
      have R3 : Hid (RS w1 wr W3 G0 u6 l e3) := hid (by rw [← HW3.out, He3.out]; exact R2d.out.copy m20 hm20)
      have C60a := hid (C60.out W3 R3.out.bx.below)
      obtain ⟨fq, Hfq⟩ : ∃ x, Hid (f / 4096 = x) := ⟨_, rfl⟩
      obtain ⟨fr, Hfr⟩ : ∃ x, Hid (f % 4096 = x) := ⟨_, rfl⟩
      have hq : ((f : Int).tdiv 4096) = (fq : Int) := by rw [Int.tdiv_eq_ediv_of_nonneg (by omega), ← Hfq.out]; omega
      have hr : ((f : Int).tmod 4096) = (fr : Int) := by rw [Int.tmod_eq_emod_of_nonneg (by omega), ← Hfr.out]; omega
      have hq2 : ((f : Int) / 4096) = (fq : Int) := by rw [← Hfq.out]; omega
      have hr2 : ((f : Int) % 4096) = (fr : Int) := by rw [← Hfr.out]; omega
      have hfr : fr < 4096 := by rw [← Hfr.out]; omega
      have hfq : fq < 16 := by rw [← Hfq.out]; omega
      have h0e : e3.stage = 0 ∧ e3.path = [] := by rw [He3.out, He2.out, He1.out]; exact ⟨rfl, rfl⟩
      have k4 : W3.cell? ⟨wr.heap.size, 23, none⟩ = some (.int .i64 0) := by
        have h := R3.out.ey.cell 23 _ (encY_at e3 R3.out.ey.id).2.2.2
        rw [h0e.1] at h
        exact h
      have f4 : W3.frozen? ⟨wr.heap.size, 23, none⟩ = false := R3.out.ey.fr 23
      obtain ⟨e4, He4⟩ : ∃ e : Ey, Hid (e = { e3 with stage := (fq : Int) }) := ⟨_, rfl⟩
      obtain ⟨W4, HW4⟩ : ∃ W, Hid (W3.setCell ⟨wr.heap.size, 23, none⟩ (.int .i64 (fq : Int)) = W) := ⟨_, rfl⟩
      have st4 : W3.setCell ⟨wr.heap.size, 23, none⟩ (.int .i64 (fq : Int)) = W4 := HW4.out
      have R4 : Hid (RS w1 wr W4 G0 u6 l e4) := hid (by rw [← HW4.out, He4.out]; exact R3.out.set _ 23 _ (by decide) (encY_stage e3 R3.out.ey.id _) R3.out.ey.id)
      have HEp : Hid (e4.path = []) := hid (by rw [He4.out]; exact h0e.2)
      have HBB4 : Hid (Below w1.heap.size w1 W4) := hid (by rw [HG0.out]; exact R4.out.bx.below)
      clear h0e
      go_wp2_with fail
      refine C60a.out.mono ?_
      rintro e w' ⟨rfl, hw'⟩
      rw [hw']
      clear hw' w'
      by_cases hfit : m < at_ + 62 + fr
      · have hfi : (m : Int) - (at_ : Int) - 62 < (fr : Int) := by omega
        have HN : Hid (¬ ∃ l, docL s = some l ∧ DG l s) := hid (by
          rintro ⟨l', h, _⟩
          rw [HDL.out, HDC.out, dcL_no k t (.inr (by rw [HTL.out, ← HFb.out, Hfr.out]; omega))] at h
          cases h)
        go_wp2
        refine bodyPost_ret (results_tmp2 Tryz.results22 _ _ _) rfl ?_
        exact ⟨HBB4.out, .inr ⟨HN.out, rfl⟩⟩
      have hfi : ¬ (m : Int) - (at_ : Int) - 62 < (fr : Int) := by omega
      obtain ⟨A62, HA62⟩ : ∃ x, Hid (adX 1 (some ⟨b, off, none⟩) cap (at_ + 62) = x) := ⟨_, rfl⟩
      obtain ⟨c62, HC62⟩ : ∃ x, Hid (cap - (at_ + 62) = x) := ⟨_, rfl⟩
      have hs62 : ∀ W : World, (Instr.slice 23 (.slice (some ⟨b, off, none⟩) m cap) (some (.int .i64 ((at_ : Int) + 62))) (some (.int .i64 ((at_ : Int) + 62 + (fr : Int)))) none).run Tryz.prog W = .ok (.slice A62 fr c62) W := fun W => by
        have := HSL.out (at_ + 62) (at_ + 62 + fr) ((at_ : Int) + 62 + (fr : Int)) (by omega) (by omega) (by omega) W
        rw [HA62.out, HC62.out, show at_ + 62 + fr - (at_ + 62) = fr by omega] at this
        exact this
      obtain ⟨pth, HPT⟩ : ∃ x, Hid ((s.drop (at_ + 62)).take fr = x) := ⟨_, rfl⟩
      have HPL : Hid (pth.length = fr) := hid (by rw [← HPT.out, List.length_take, List.length_drop, HMm.out]; omega)
      obtain ⟨PT, HPTT⟩ : ∃ x : ByteArray, Hid (⟨pth.toArray⟩ = x) := ⟨_, rfl⟩
      have hcv : (convert 23 9 (.slice A62 fr c62)).run Tryz.prog W4 = .ok (.string PT) W4 := by
        have hpb : PB W4 A62 c62 pth := by
          have := Px.mid (HPW.out W4 R4.out.bx.below) (at_ + 62) (at_ + 62 + fr) (by omega) (by rw [HMm.out]; omega)
          rw [HA62.out, HC62.out, show at_ + 62 + fr - (at_ + 62) = fr by omega, HPT.out] at this
          exact this
        have := conv_str hpb
        rw [HPL.out] at this
        rw [← HPTT.out]
        exact this
      have k5 : W4.cell? ⟨wr.heap.size, 0, none⟩ = some (.string ⟨#[]⟩) := by
        have h := R4.out.ey.cell 0 _ (encY_at e4 R4.out.ey.id).1
        rw [HEp.out] at h
        exact h
      have f5 : W4.frozen? ⟨wr.heap.size, 0, none⟩ = false := R4.out.ey.fr 0
      obtain ⟨e5, He5⟩ : ∃ e : Ey, Hid (e = { e4 with path := pth }) := ⟨_, rfl⟩
      obtain ⟨W5, HW5⟩ : ∃ W, Hid (W4.setCell ⟨wr.heap.size, 0, none⟩ (.string PT) = W) := ⟨_, rfl⟩
      have st5 : W4.setCell ⟨wr.heap.size, 0, none⟩ (.string PT) = W5 := HW5.out
      have R5 : Hid (RS w1 wr W5 G0 u6 l e5) := hid (by rw [← HW5.out, He5.out, ← HPTT.out]; exact R4.out.set _ 0 _ (by decide) rfl R4.out.ey.id)
      have HE5 : Hid (e5 = rdE t) := hid (by
        rw [rdE_eq t (by rw [HTL.out, ← HFb.out, Hfr.out]; omega) (by rw [HTL.out]; omega), ← HFb.out, Hfr.out, Hfq.out]
        rw [He5.out, He4.out, He3.out, He2.out, He1.out, ← HPT.out, ← Hm20.out, ← Hmd.out, ← Hsz.out, ← HTt.out]
        simp only [List.drop_drop])
      obtain ⟨q8, Hq8⟩ : ∃ x, Hid ((62 + fr) / 8 = x) := ⟨_, rfl⟩
      have hq8b : q8 ≤ 600 := by rw [← Hq8.out]; omega
      have hq8 : ((62 : Int) + (fr : Int)).tdiv 8 = (q8 : Int) := by rw [Int.tdiv_eq_ediv_of_nonneg (by omega), ← Hq8.out]; omega
      have hq82 : ((62 : Int) + (fr : Int)) / 8 = (q8 : Int) := by rw [← Hq8.out]; omega
      have HEN : Hid (entLen fr = q8 * 8 + 8) := hid (by unfold entLen; rw [Hq8.out])
      have hen8 : q8 * 8 + 8 ≤ 62 + fr + 8 := by rw [← Hq8.out]; omega
      have hen9 : 64 ≤ q8 * 8 + 8 := by rw [← Hq8.out]; omega
      have HRow5 : Hid (W5.rangeAt wr.heap.size 0 (encY e5)) := hid R5.out.ey.at_
      have HI5 : Hid (e5.id.length = 20) := hid R5.out.ey.id
      have HBS : Hid ((Instr.buildSlice 33 1 #[(0, .agg (encY e5).toArray)]).run Tryz.prog W5 = .ok (.slice (some ⟨W5.heap.size, 0, none⟩) 1 1) (W5.alloc (.cells (encY e5).toArray 48))) := hid (run_build33 e5 HI5.out W5)
      have hlb : l.length ≤ 1000 := by rw [HLl.out]; have := HAT.out; omega
      clear C24a C36a C60a C24 C36 C60 hs24 hs36 hs40 hs60 k1 k2 f1 f2 st1 st2
      go_wp2_with (first
        | (refine wpList_load_mid rfl 48 _ rfl wr.heap.size 0 rfl (encY e5) _ HRow5.out Tryz.underlying48 rfl (by rw [encY_len _ HI5.out]; exact info48) ?_)
        | (refine wpList_bSY rfl 33 1 _ rfl (.agg (encY e5).toArray) _ rfl HBS.out ?_)
        | (at_builtin; refine wpList_bx_sl (enc := encY) (d := dY) rfl _ _ 33 48 und33 info48z rfl (by decide) (by decide) encY_one rfl G0 _ _ rfl (R5.out.bx.alloc _) (some ⟨W5.heap.size, 0, none⟩) 1 [e5] rfl (px_oneT W5 e5 48) (fun y hy => by rw [List.mem_singleton.1 hy]; exact encY_len _ HI5.out) (by simp only [List.length_cons, List.length_nil]; omega) ?_; intro v6 w6 hb6 hg6; have HB6 : Hid (BY 48 w1 w6 G0 v6 (l ++ [e5])) := hb6; clear hb6 hg6)
        | fail)
      go_roundg (n - (i + 1))
      case measure => omega
      case rel =>
        refine ⟨i + 1, at_ + (q8 * 8 + 8), l ++ [e5], ?_, by go_num, by omega, rfl, by omega, hid (by have := HAT.out; omega), hid (by rw [List.length_append, HLl.out]; rfl), hid (fun y hy => (List.mem_append.1 hy).elim (HWl.out y) (fun h => by rw [List.mem_singleton.1 h]; exact HI5.out)), HB6, hid ?_⟩
        · first | go_num | (go_num; omega) | (congr 1; omega)
        · have h1 := dcl_step k s at_ l n (by rw [HTt.out, HTL.out]; omega) (by rw [HTt.out, HTL.out, ← HFb.out, Hfr.out]; omega) (by rw [HTt.out]; exact HDC.out)
          rw [HTt.out, ← HFb.out, Hfr.out, HEN.out, ← HE5.out] at h1
          rw [show n - (i + 1) = k by have := HKk.out; omega]
          exact h1
    · have hlti : ¬ (i : Int) < (n : Int) := by omega
      have HDO : Hid (docL s = some l) := hid (by rw [HDL.out, HDC.out, show n - i = 0 by omega]; simp [dcL])
      have hlb : l.length ≤ 1000 := by rw [HLl.out]; have := HAT.out; omega
      obtain ⟨al, cl, hv, hpy, _⟩ := HBY.out.px (d := dY) (fun y hy => encY_len y (HWl.out y hy))
      subst hv
      obtain ⟨q, HQq⟩ : ∃ q, Hid (l.length = q) := ⟨_, rfl⟩
      have C6 : Hid (Calls Tryz.prog 6 #[.slice al q cl] wr (PostWr l wr)) := hid (by rw [← HQq.out]; exact refWrite_any al cl l hpy HWl.out hlb)
      have HPY := hid hpy
      have HBB : Hid (Below w1.heap.size w1 wr) := hid (by rw [HG0.out]; exact HBY.out.below)
      rw [HQq.out]
      clear hpy
      go_wp2_with fail
      refine C6.out.mono ?_
      rintro e w2 ⟨hb2, ⟨h0, rfl⟩ | ⟨h0, a2, c2, S, rfl, hp2, sm, hsm, hS⟩⟩
      · have HB2 : Hid (Below w1.heap.size w1 w2) := hid (HBB.out.trans (hb2.mono HBB.out.size))
        have HNG : Hid (¬ ∃ l, docL s = some l ∧ DG l s) := hid (by
          rintro ⟨l', h1, h2⟩
          rw [HDO.out] at h1
          cases h1
          exact h0 h2.1)
        obtain ⟨c, HC⟩ : ∃ c, Hid (codeY l = c) := ⟨_, rfl⟩
        have hcb : (c != 0) = true := by rw [← HC.out]; simpa using h0
        rw [HC.out]
        clear h0 hb2
        go_wp2
        refine bodyPost_ret (results_tmp2 Tryz.results22 _ _ _) rfl ?_
        exact ⟨HB2.out, .inr ⟨HNG.out, rfl⟩⟩
      · have HB2 : Hid (Below w1.heap.size w1 w2) := hid (HBB.out.trans (hb2.mono HBB.out.size))
        have HP2 := hid (HPY.out.below hb2)
        obtain ⟨k, HK⟩ : ∃ k, Hid (S.length = k) := ⟨_, rfl⟩
        obtain ⟨SS, HSS⟩ : ∃ x : ByteArray, Hid (⟨S.toArray⟩ = x) := ⟨_, rfl⟩
        obtain ⟨ss, Hss⟩ : ∃ x : ByteArray, Hid (⟨s.toArray⟩ = x) := ⟨_, rfl⟩
        have hc1 : (convert 23 9 (.slice a2 k c2)).run Tryz.prog w2 = .ok (.string SS) w2 := by rw [← HSS.out, ← HK.out]; exact conv_str hp2
        have hc2 : (convert 23 9 (.slice a m cap)).run Tryz.prog w2 = .ok (.string ss) w2 := by
          have := conv_str (HPW.out w2 (by rw [← HG0.out]; exact HB2.out))
          rw [HMm.out] at this
          rw [← Hss.out]
          exact this
        have HG : Hid (S = s ↔ DG l s) := hid (by
          constructor
          · intro h
            exact ⟨h0, sm, hsm, by rw [← h]; exact hS⟩
          · rintro ⟨_, sm', h1, h2⟩
            rw [hS, h2, nums_inj (hsm.trans h1.symm)])
        rw [HK.out]
        clear h0 hb2 hp2 hsm hS
        by_cases hSs : S = s
        · have hbq : (SS.toList == ss.toList) = true := by rw [← HSS.out, ← Hss.out, hSs]; simp
          have hbn : (SS.toList != ss.toList) = false := by rw [bne, hbq]; rfl
          have HGD : Hid (DG l s) := hid (HG.out.1 hSs)
          clear hSs
          go_wp2
          refine bodyPost_ret (results_tmp2 Tryz.results22 _ _ _) rfl ?_
          exact ⟨HB2.out, .inl ⟨l, HDO.out, HGD.out, al, cl, by rw [HQq.out]; rfl, HP2.out⟩⟩
        · have hbq : (SS.toList == ss.toList) = false := bne_txt HSS.out Hss.out hSs
          have hbn : (SS.toList != ss.toList) = true := by rw [bne, hbq]; rfl
          have HNG : Hid (¬ ∃ l, docL s = some l ∧ DG l s) := hid (by
            rintro ⟨l', h1, h2⟩
            rw [HDO.out] at h1
            cases h1
            exact hSs (HG.out.2 h2))
          clear hSs
          go_wp2
          refine bodyPost_ret (results_tmp2 Tryz.results22 _ _ _) rfl ?_
          exact ⟨HB2.out, .inr ⟨HNG.out, rfl⟩⟩
end Go.Proofs.YtcicoeneemnbiaaGreatDoor
