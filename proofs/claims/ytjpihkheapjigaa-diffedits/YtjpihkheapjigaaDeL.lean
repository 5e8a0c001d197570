/- THE LAW 'DiffEdits': walked. -/
import Derived.Test.YtjpihkheapjigaaEdZ
import Derived.Test.YtjpihkheapjigaaEdV
import Derived.Test.YtjpihkheapjigaaDsL
namespace Go.Proofs.Ytjpihkheapjigaa
open Go.RowKit
set_option linter.unusedVariables false
set_option linter.unusedSimpArgs false
theorem walkE_one (a b : Option Addr) (n ca m cb : Nat) (w : World) (hn : 4000 < n) : Calls Try.prog 3 #[.slice a n ca, .slice b m cb] w (IsTrue w) := by
  have hI : (4000 : Int) < (n : Int) := by omega
  go_enter Try.func3, Try.ntmps3
  go_wp2
  go_ret
  exact ⟨rfl, Below.refl _ _⟩
theorem walkE_two (a b : Option Addr) (n ca m cb : Nat) (w : World) (hn : ¬ 4000 < n) (hm : 4000 < m) : Calls Try.prog 3 #[.slice a n ca, .slice b m cb] w (IsTrue w) := by
  have hI : ¬ (4000 : Int) < (n : Int) := by omega
  have hJ : (4000 : Int) < (m : Int) := by omega
  go_enter Try.func3, Try.ntmps3
  go_wp2
  go_ret
  exact ⟨rfl, Below.refl _ _⟩
theorem stillQ {w : World} (a : Option Addr) (cap g : Nat) (s : Str) (hl : s.length ≤ 4000) (hr : Room w g (nums s)) (hP : PB w a cap s) (hg : 0 < s.length → ∀ p : Addr, a = some p → p.block < g) :
    Calls Try.prog 8 #[.slice (some ⟨g, 0, none⟩) s.length (s.length + 2), .slice a s.length cap] w fun e w' => e = .returned (.bool true) ∧ w.grownBy w' (some g) := by
  have := still_keep a cap g (nums s) w (by rw [nums_len]; omega) (nums_b s) hr (fun h0 => by
    rw [nums_len] at h0
    obtain ⟨b, off, e1, e2, _⟩ := hP.at_ h0
    subst e1
    exact ⟨b, off, rfl, hg h0 _ rfl, pb_at hP⟩)
  rw [nums_len] at this
  exact this
theorem pb_lt {w : World} {a : Option Addr} {cap : Nat} {s : Str} (h : PB w a cap s) : 0 < s.length → ∀ p : Addr, a = some p → p.block < w.heap.size := fun h0 p hp => by
  obtain ⟨b, off, e1, e2, _⟩ := h.at_ h0
  rw [e1] at hp
  cases hp
  exact e2
/-- What is asked of the document's 'Edits'. -/
def RefE : Prop := ∀ {w : World} (a : Option Addr) (ca : Nat) (s : Str), PB w a ca s → s.length ≤ 4000 → ∀ (b : Option Addr) (cb : Nat) (t : Str), PB w b cb t → t.length ≤ 4000 → Calls Try.prog 10 #[.slice a s.length ca, .slice b t.length cb] w (PostX (edits (lns s) (lns t)) w)
theorem edits_len (A B : List Str) : (edits A B).length ≤ A.length + B.length := by
  unfold edits
  split
  · exact edL_len A B
  · exact ed_len A B
set_option maxRecDepth 20000 in
set_option maxHeartbeats 4000000 in
theorem walkE (hRef : RefE) {w : World} (a : Option Addr) (ca : Nat) (s : Str) (hA : PB w a ca s) (hs : s.length ≤ 4000) (b : Option Addr) (cb : Nat) (t : Str) (hB : PB w b cb t) (ht : t.length ≤ 4000) :
    Calls Try.prog 3 #[.slice a s.length ca, .slice b t.length cb] w (IsTrue w) := by
  obtain ⟨n, HN⟩ : ∃ n, Hid (s.length = n) := ⟨_, rfl⟩
  obtain ⟨m, HM⟩ : ∃ n, Hid (t.length = n) := ⟨_, rfl⟩
  obtain ⟨g, HG⟩ : ∃ g, Hid (w.heap.size = g) := ⟨_, rfl⟩
  have hI : ¬ (4000 : Int) < (n : Int) := by have := HN.out; omega
  have hJ : ¬ (4000 : Int) < (m : Int) := by have := HM.out; omega
  have HPA : Hid (∀ W, Below g w W → PB W a ca s) := fun W hW => hA.below (by rw [HG.out]; exact hW)
  have HPB : Hid (∀ W, Below g w W → PB W b cb t) := fun W hW => hB.below (by rw [HG.out]; exact hW)
  have HAB : Hid (0 < s.length → ∀ p : Addr, a = some p → p.block < g) := hid (by rw [← HG.out]; exact pb_lt hA)
  have HBB : Hid (0 < t.length → ∀ p : Addr, b = some p → p.block < g) := hid (by rw [← HG.out]; exact pb_lt hB)
  have HSL : Hid (s.length ≤ 4000) := hs
  have HTL : Hid (t.length ≤ 4000) := ht
  have HREF : Hid RefE := hRef
  obtain ⟨A, HX⟩ : ∃ X, Hid (lns s = X) := ⟨_, rfl⟩
  obtain ⟨E, HE⟩ : ∃ X, Hid (edits (lns s) (lns t) = X) := ⟨_, rfl⟩
  have hEl : E.length ≤ 8000 := by rw [← HE.out]; have h1 := edits_len (lns s) (lns t); have h2 := lns_few s; have h3 := lns_few t; omega
  obtain ⟨nx, HNX⟩ : ∃ n, Hid (A.length = n) := ⟨_, rfl⟩
  have hnx4 : nx ≤ 4000 := by have := lns_few s; rw [HX.out, HNX.out] at this; omega
  have C1 : Hid (Calls Try.prog 5 #[.slice a n ca] w fun e w' => e = .returned (.slice (some ⟨g, 0, none⟩) n (n + 2)) ∧ Below g w w' ∧ Room w' g (nums s)) := hid (by
    have := roomyP a ca s hA hs
    rw [HN.out, HG.out] at this
    exact this)
  rw [HN.out, HM.out]
  clear hA hB hs ht hRef
  go_enter Try.func3, Try.ntmps3
  go_wp2_with fail
  refine C1.out.mono ?_
  rintro e w1 ⟨rfl, hb1, hr1⟩
  have HB1 : Hid (Below g w w1) := hb1
  have HR1 : Hid (Room w1 g (nums s)) := hr1
  obtain ⟨h, HH⟩ : ∃ h, Hid (w1.heap.size = h) := ⟨_, rfl⟩
  have hgh : g < h := by rw [← HH.out]; exact hr1.lt
  have C2 : Hid (Calls Try.prog 5 #[.slice b m cb] w1 fun e w' => e = .returned (.slice (some ⟨h, 0, none⟩) m (m + 2)) ∧ Below h w1 w' ∧ Room w' h (nums t)) := hid (by
    have := roomyP b cb t (HPB.out w1 hb1) HTL.out
    rw [HM.out, HH.out] at this
    exact this)
  clear hb1 hr1
  go_wp2_with fail
  refine C2.out.mono ?_
  rintro e w2 ⟨rfl, hb2, hr2⟩
  have HB2 : Hid (Below g w w2) := hid (HB1.out.trans (hb2.mono (Nat.le_of_lt hgh)))
  have HRA2 : Hid (Room w2 g (nums s)) := hid (HR1.out.kept (hb2.block g hgh))
  have HRB2 : Hid (Room w2 h (nums t)) := hr2
  clear hb2 hr2
  have C6 : Hid (Calls Try.prog 6 #[.slice (some ⟨g, 0, none⟩) n (n + 2)] w2 (PostS A w2)) := hid (by
    have := lines_any (some ⟨g, 0, none⟩) (s.length + 2) s (room_pb HRA2.out) HSL.out
    rw [HN.out, HX.out] at this
    exact this)
  go_wp2_with fail
  refine C6.out.mono ?_
  rintro e w3 ⟨v, rfl, hbs⟩
  obtain ⟨xa, xc, rfl, hps, hxa, _⟩ := hbs.px (d := []) (fun x _ => encS_len x)
  rw [HNX.out]
  have h2lt : g < w2.heap.size := HRA2.out.lt
  have h2lt' : h < w2.heap.size := HRB2.out.lt
  have hb3 := hbs.below
  have HB3 : Hid (Below g w w3) := hid (HB2.out.trans (hb3.mono (Nat.le_of_lt h2lt)))
  have HRA3 : Hid (Room w3 g (nums s)) := hid (HRA2.out.kept (hb3.block g h2lt))
  have HRB3 : Hid (Room w3 h (nums t)) := hid (HRB2.out.kept (hb3.block h h2lt'))
  have HPX3 : Hid (PS w3 xa xc A) := hps
  have HXA3 : Hid (∀ p : Addr, xa = some p → h < p.block ∧ p.block < w3.heap.size) := fun p hp => ⟨Nat.lt_of_lt_of_le h2lt' (hxa p hp).1, (hxa p hp).2⟩
  clear hbs hps hxa hb3
  have C7 : Hid (Calls Try.prog 7 #[.slice (some ⟨g, 0, none⟩) n (n + 2), .slice (some ⟨h, 0, none⟩) m (m + 2)] w3 (PostW E w3)) := hid (by
    have := edits_any (some ⟨g, 0, none⟩) (s.length + 2) s (room_pb HRA3.out) HSL.out (some ⟨h, 0, none⟩) (t.length + 2) t (room_pb HRB3.out) HTL.out
    rw [HN.out, HM.out, HE.out] at this
    exact this)
  go_wp2_with fail
  refine C7.out.mono ?_
  rintro e w4 ⟨v, rfl, hbe⟩
  obtain ⟨ea, ec, rfl, hpe, hea, _⟩ := hbe.px (d := (0, [])) (fun x _ => encE_len x)
  have h3lt : g < w3.heap.size := HRA3.out.lt
  have h3lt' : h < w3.heap.size := HRB3.out.lt
  have hb4 := hbe.below
  have HB4 : Hid (Below g w w4) := hid (HB3.out.trans (hb4.mono (Nat.le_of_lt h3lt)))
  have HRA4 : Hid (Room w4 g (nums s)) := hid (HRA3.out.kept (hb4.block g h3lt))
  have HRB4 : Hid (Room w4 h (nums t)) := hid (HRB3.out.kept (hb4.block h h3lt'))
  have HPX4 : Hid (PS w4 xa xc A) := hid (HPX3.out.below hb4)
  have HXA4 : Hid (∀ p : Addr, xa = some p → p.block ≠ g ∧ p.block ≠ h) := fun p hp => by have := HXA3.out p hp; omega
  have HPE4 : Hid (PE w4 ea ec E) := hpe
  have HEA4 : Hid (∀ p : Addr, ea = some p → p.block ≠ g ∧ p.block ≠ h) := fun p hp => by have := hea p hp; omega
  clear hbe hpe hea hb4
  have C8 : Hid (Calls Try.prog 8 #[.slice (some ⟨g, 0, none⟩) n (n + 2), .slice a n ca] w4 fun e w' => e = .returned (.bool true) ∧ w4.grownBy w' (some g)) := hid (by
    have := stillQ a ca g s HSL.out HRA4.out (HPA.out w4 HB4.out) HAB.out
    rw [HN.out] at this
    exact this)
  go_wp2_with fail
  refine C8.out.mono ?_
  rintro e w5 ⟨rfl, hg5⟩
  have h4lt : g < w4.heap.size := HRA4.out.lt
  have h4lt' : h < w4.heap.size := HRB4.out.lt
  have HB5 : Hid (Below g w w5) := hid (HB4.out.grown hg5 (Nat.le_of_lt (by have := HG.out; omega)) (fun k hk => by cases hk; exact Nat.le_refl _))
  have HRB5 : Hid (Room w5 h (nums t)) := hid (HRB4.out.kept (hg5.block h h4lt' (by simp; omega)))
  have HPX5 : Hid (PS w5 xa xc A) := hid (HPX4.out.grown (fun p hp => (HXA4.out p hp).1) hg5)
  have HPE5 : Hid (PE w5 ea ec E) := hid (HPE4.out.grown (fun p hp => (HEA4.out p hp).1) hg5)
  clear hg5
  have C8' : Hid (Calls Try.prog 8 #[.slice (some ⟨h, 0, none⟩) m (m + 2), .slice b m cb] w5 fun e w' => e = .returned (.bool true) ∧ w5.grownBy w' (some h)) := hid (by
    have := stillQ b cb h t HTL.out HRB5.out (HPB.out w5 HB5.out) (fun h0 p hp => by have := HBB.out h0 p hp; omega)
    rw [HM.out] at this
    exact this)
  go_wp2_with fail
  refine C8'.out.mono ?_
  rintro e w6 ⟨rfl, hg6⟩
  have h5lt' : h < w5.heap.size := HRB5.out.lt
  have HB6 : Hid (Below g w w6) := hid (HB5.out.grown hg6 (by have := HG.out; omega) (fun k hk => by cases hk; omega))
  have HPX6 : Hid (PS w6 xa xc A) := hid (HPX5.out.grown (fun p hp => (HXA4.out p hp).2) hg6)
  have HPE6 : Hid (PE w6 ea ec E) := hid (HPE5.out.grown (fun p hp => (HEA4.out p hp).2) hg6)
  clear hg6
  have C9 : Hid (Calls Try.prog 9 #[.slice a n ca] w6 (PostS A w6)) := hid (by
    have := refLines_any a ca s (HPA.out w6 HB6.out) HSL.out
    rw [HN.out, HX.out] at this
    exact this)
  go_wp2_with fail
  refine C9.out.mono ?_
  rintro e w7 ⟨v, rfl, hbs⟩
  obtain ⟨ya, yc, rfl, hps, hya, _⟩ := hbs.px (d := []) (fun x _ => encS_len x)
  rw [HNX.out]
  have hb7 := hbs.below
  have h6s : g ≤ w6.heap.size := by have := HB6.out.size; have := HG.out; omega
  have HB7 : Hid (Below g w w7) := hid (HB6.out.trans (hb7.mono h6s))
  have HPX7 : Hid (PS w7 xa xc A) := hid (HPX6.out.below hb7)
  have HPE7 : Hid (PE w7 ea ec E) := hid (HPE6.out.below hb7)
  have HPY7 : Hid (PS w7 ya yc A) := hps
  clear hbs hps hya hb7
  have C10 : Hid (Calls Try.prog 10 #[.slice a n ca, .slice b m cb] w7 (PostX E w7)) := hid (by
    have := HREF.out a ca s (HPA.out w7 HB7.out) HSL.out b cb t (HPB.out w7 HB7.out) HTL.out
    rw [HN.out, HM.out, HE.out] at this
    exact this)
  go_wp2_with fail
  refine C10.out.mono ?_
  rintro e w8 ⟨v, rfl, hbe⟩
  obtain ⟨ra, rc, rfl, hpr, hra, _⟩ := hbe.px (d := (0, [])) (fun x _ => encE_len x)
  have hb8 := hbe.below
  have h7s : g ≤ w7.heap.size := by have := HB7.out.size; have := HG.out; omega
  have HB8 : Hid (Below g w w8) := hid (HB7.out.trans (hb8.mono h7s))
  have HPX8 : Hid (PS w8 xa xc A) := hid (HPX7.out.below hb8)
  have HPY8 : Hid (PS w8 ya yc A) := hid (HPY7.out.below hb8)
  have C11 : Hid (Calls Try.prog 11 #[.slice ea E.length ec, .slice ra E.length rc] w8 fun e w' => e = .returned (.bool true) ∧ Below w8.heap.size w8 w') := hid (sameEdits_true ea ec ra rc E (HPE7.out.below hb8) hpr (by omega))
  clear hbe hpr hra hb8
  go_wp2_with fail
  refine C11.out.mono ?_
  rintro e w9 ⟨rfl, hb9⟩
  have h8s : g ≤ w8.heap.size := by have := HB8.out.size; have := HG.out; omega
  have HB9 : Hid (Below g w w9) := hid (HB8.out.trans (hb9.mono h8s))
  have HPX9 : Hid (PS w9 xa xc A) := hid (HPX8.out.below hb9)
  have HPY9 : Hid (PS w9 ya yc A) := hid (HPY8.out.below hb9)
  clear hb9
  obtain ⟨R, HR⟩ : ∃ R, Hid (w9.heap.size = R) := ⟨_, rfl⟩
  have hgR : g ≤ R := by have := HB9.out.size; have := HG.out; have := HR.out; omega
  have HPXW : Hid (∀ W, Below R w9 W → PS W xa xc A) := fun W hW => HPX9.out.below (by rw [HR.out]; exact hW)
  have HPYW : Hid (∀ W, Below R w9 W → PS W ya yc A) := fun W hW => HPY9.out.below (by rw [HR.out]; exact hW)
  have HFX : Hid (0 < nx → ∃ b off, xa = some ⟨b, off, none⟩) := fun h0 => by
    obtain ⟨b, off, e1, _⟩ := HPX9.out.at_ (by rw [HNX.out]; exact h0)
    exact ⟨b, off, e1⟩
  have HFY : Hid (0 < nx → ∃ b off, ya = some ⟨b, off, none⟩) := fun h0 => by
    obtain ⟨b, off, e1, _⟩ := HPY9.out.at_ (by rw [HNX.out]; exact h0)
    exact ⟨b, off, e1⟩
  go_wp2_with fail
  go_loopg [14] nx (fun gg iv wr => ∃ i : Nat, iv = .int .i64 i ∧ i ≤ nx ∧ gg = nx - i ∧ Hid (Below R w9 wr))
  case atStart => exact ⟨0, rfl, Nat.zero_le _, rfl, hid (Below.refl _ _)⟩
  case round =>
    obtain ⟨i, rfl, hi, hk, HB⟩ := hrel
    by_cases hlt : i < nx
    · have hlti : (i : Int) < (nx : Int) := by omega
      obtain ⟨ba, oa, e1⟩ := HFX.out (by omega)
      subst e1
      obtain ⟨bb, ob, e1⟩ := HFY.out (by omega)
      subst e1
      have HBD : Hid (Below R w9 wr.drew) := hid (HB.out.trans ⟨rfl, rfl, rfl, Nat.le_refl _, fun _ _ => rfl⟩)
      obtain ⟨X, HXX⟩ : ∃ X, Hid ((⟨(A.getD i []).toArray⟩ : ByteArray) = X) := ⟨_, rfl⟩
      have HQ : Hid (Q2 ba (oa + i) bb (ob + i) X X wr.drew) := hid ⟨by rw [← HXX.out]; exact PS.str (HPXW.out _ HBD.out) i (by rw [HNX.out]; exact hlt), by rw [← HXX.out]; exact PS.str (HPYW.out _ HBD.out) i (by rw [HNX.out]; exact hlt)⟩
      have heq : (X.toList == X.toList) = true := by simp
      go_wp2_with fail
      refine wp_region_held_drew (S := Q2 ba (oa + i) bb (ob + i) X X) (by kernel_rfl) HQ.out (fun hHeld => ?_)
      generalize wr.drew = wd at hHeld HBD ⊢
      refine takeL (i := 0) (v := ?_) rfl (by kernel_rfl) (by kernel_rfl) (by kernel_rfl) (fun _ _ _ h => h) (Or.inl ⟨by rfl, ?_⟩) hHeld ?_
      rotate_left
      · rintro w' ⟨s0, s1⟩; go_simp; rfl
      try simp only [Act.put, List.setIfInBounds_toArray, List.set_cons_zero, List.set_cons_succ]
      refine takeL (i := 1) (v := ?_) rfl (by kernel_rfl) (by kernel_rfl) (by kernel_rfl) (fun _ _ _ h => h) (Or.inl ⟨by rfl, ?_⟩) hHeld ?_
      rotate_left
      · rintro w' ⟨s0, s1⟩; go_simp; rfl
      try simp only [Act.put, List.setIfInBounds_toArray, List.set_cons_zero, List.set_cons_succ]
      refine takeL (i := 2) (v := ?_) rfl (by kernel_rfl) (by kernel_rfl) (by kernel_rfl) (fun _ _ _ h => h) (Or.inl ⟨by rfl, ?_⟩) hHeld ?_
      rotate_left
      · rintro w' ⟨s0, s1⟩; go_simp; rfl
      try simp only [Act.put, List.setIfInBounds_toArray, List.set_cons_zero, List.set_cons_succ]
      refine takeL (i := 3) (v := ?_) rfl (by kernel_rfl) (by kernel_rfl) (by kernel_rfl) (fun _ _ _ h => h) (Or.inl ⟨by rfl, ?_⟩) hHeld ?_
      rotate_left
      · rintro w' ⟨s0, s1⟩; go_simp; rfl
      try simp only [Act.put, List.setIfInBounds_toArray, List.set_cons_zero, List.set_cons_succ]
      refine takeL (i := 4) (v := ?_) rfl (by kernel_rfl) (by kernel_rfl) (by kernel_rfl) (fun _ _ _ h => h) (Or.inl ⟨by rfl, ?_⟩) hHeld ?_
      rotate_left
      · rintro w' ⟨s0, s1⟩; go_simp; rfl
      try simp only [Act.put, List.setIfInBounds_toArray, List.set_cons_zero, List.set_cons_succ]
      refine takeL (i := 5) (v := ?_) rfl (by kernel_rfl) (by kernel_rfl) (by kernel_rfl) (fun _ _ _ h => h) (Or.inl ⟨by rfl, ?_⟩) hHeld ?_
      rotate_left
      · rintro w' ⟨s0, s1⟩; go_simp; rfl
      try simp only [Act.put, List.setIfInBounds_toArray, List.set_cons_zero, List.set_cons_succ]
      refine takeL (i := 6) (v := ?_) rfl (by kernel_rfl) (by kernel_rfl) (by kernel_rfl) (fun _ _ _ h => h) (Or.inl ⟨by rfl, ?_⟩) hHeld ?_
      rotate_left
      · rintro w' ⟨s0, s1⟩; go_simp; rfl
      try simp only [Act.put, List.setIfInBounds_toArray, List.set_cons_zero, List.set_cons_succ]
      refine takeL (i := 7) (v := ?_) rfl (by kernel_rfl) (by kernel_rfl) (by kernel_rfl) (fun _ _ _ h => h) (Or.inl ⟨by rfl, ?_⟩) hHeld ?_
      rotate_left
      · rintro w' ⟨s0, s1⟩; go_simp; rfl
      try simp only [Act.put, List.setIfInBounds_toArray, List.set_cons_zero, List.set_cons_succ]
      refine takeL (i := 8) (v := .bool false) rfl (by kernel_rfl) (by kernel_rfl) (by kernel_rfl) (fun _ _ _ h => h) (Or.inl ⟨by rfl, ?_⟩) hHeld ?_
      · rintro w' ⟨s0, s1⟩; go_simp; try rfl
      try simp only [Act.put, List.setIfInBounds_toArray, List.set_cons_zero, List.set_cons_succ]
      refine wpAnyH_done (by kernel_rfl) ?_ _
      clear hHeld
      go_wp2
      go_roundg (nx - (i + 1))
      case measure => omega
      case rel => exact ⟨i + 1, by go_num, by omega, rfl, HBD⟩
    · have hlti : ¬ (i : Int) < (nx : Int) := by omega
      go_wp2
      go_ret
      exact ⟨rfl, by rw [HG.out]; exact HB9.out.trans (HB.out.mono hgR)⟩
end Go.Proofs.Ytjpihkheapjigaa
