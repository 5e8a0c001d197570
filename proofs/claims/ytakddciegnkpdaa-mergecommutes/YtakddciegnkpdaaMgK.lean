/- 'gitlikelaw0.Same' of any bytes; the laws, walked. -/
import Derived.Test.YtakddciegnkpdaaMgJ
import Derived.Test.YtakddciegnkpdaaMgQ
namespace Go.Proofs.Ytakddciegnkpdaa
open Go.RowKit
set_option linter.unusedVariables false
set_option linter.unusedSimpArgs false
def IsTrue (w : World) (e : Ending) (w' : World) : Prop := e = .returned (.bool true) ∧ Below w.heap.size w w'
/-- What 'Same' answers. -/
def PostSm (s t : Str) (w : World) (e : Ending) (w' : World) : Prop := ∃ v : Bool, e = .returned (.bool v) ∧ (s = t → v = true) ∧ Below w.heap.size w w'
theorem below_drewN (w : World) (n : Nat) : Below w.heap.size w (w.drewN n) := ⟨rfl, rfl, rfl, Nat.le_refl _, fun _ _ => rfl⟩
set_option maxHeartbeats 1000000 in
theorem same_some {w : World} (a : Option Addr) (ca : Nat) (s : Str) (hA : PB w a ca s) (b : Option Addr) (cb : Nat) (t : Str) (hB : PB w b cb t) (hs : s.length ≤ 100000000) (ht : t.length ≤ 100000000) :
    Calls Try.prog 9 #[.slice a s.length ca, .slice b t.length cb] w (PostSm s t w) := by
  obtain ⟨n, HN⟩ : ∃ n, Hid (s.length = n) := ⟨_, rfl⟩
  obtain ⟨m, HM⟩ : ∃ n, Hid (t.length = n) := ⟨_, rfl⟩
  have hn : n ≤ 100000000 := by rw [← HN.out]; exact hs
  have hm : m ≤ 100000000 := by rw [← HM.out]; exact ht
  rw [HN.out, HM.out]
  by_cases hnm : n = m
  · subst hnm
    have HFA : Hid (0 < n → ∃ b off, a = some ⟨b, off, none⟩) := fun h0 => by
      obtain ⟨b, off, e1, _⟩ := hA.at_ (by rw [HN.out]; exact h0)
      exact ⟨b, off, e1⟩
    have HFB : Hid (0 < n → ∃ bb off, b = some ⟨bb, off, none⟩) := fun h0 => by
      obtain ⟨b', off, e1, _⟩ := hB.at_ (by rw [HM.out]; exact h0)
      exact ⟨b', off, e1⟩
    have HPA : Hid (PB w a ca s) := hA
    have HPB : Hid (PB w b cb t) := hB
    have HD : Hid (∀ k, PostSm s t w (.returned (.bool true)) (w.drewN k)) := fun k => ⟨true, rfl, fun _ => rfl, below_drewN w k⟩
    clear hA hB hs ht
    go_enter Try.func9, Try.ntmps9
    go_wp2
    go_loopw [5] (fun i wr => ∃ k q : Nat, k ≤ n ∧ i = .int .i64 k ∧ wr = w.drewN q) (fun i _ => n - (intOf i).toNat)
    case atStart => exact ⟨0, 0, Nat.zero_le _, rfl, rfl⟩
    case round =>
      obtain ⟨k, q, hk, rfl, rfl⟩ := hrel
      by_cases hlt : k < n
      · obtain ⟨ba, oa, e1⟩ := HFA.out (by omega)
        obtain ⟨bb, ob, e2⟩ := HFB.out (by omega)
        subst e1 e2
        have hc := HPA.out.cell k (by rw [HN.out]; exact hlt)
        have hc' := HPB.out.cell k (by rw [HM.out]; exact hlt)
        obtain ⟨x, HX⟩ : ∃ x, Hid (s.getD k 0 = x) := ⟨_, rfl⟩
        obtain ⟨y, HY⟩ : ∃ x, Hid (t.getD k 0 = x) := ⟨_, rfl⟩
        rw [HX.out] at hc
        rw [HY.out] at hc'
        by_cases hxy : x = y
        · subst hxy
          go_wp2
          go_quiet (fail)
          go_wp2
          go_roundw
          case rel => exact ⟨k + 1, _, by omega, by go_num, rfl⟩
          case measure => simp [intOf]; omega
        · have hne : ((x.toNat : Int) != (y.toNat : Int)) = true := by
            simp only [bne_iff_ne, ne_eq]
            intro e
            exact hxy (UInt8.toNat_inj.1 (by omega))
          have HF : Hid (∀ W, Below w.heap.size w W → PostSm s t w (.returned (.bool false)) W) := fun W hW => ⟨false, rfl, fun e => by
            exfalso
            apply hxy
            rw [← HX.out, ← HY.out, e], hW⟩
          go_wp2
          go_quiet (fail)
          go_wp2
          go_ret
          exact HF.out _ ⟨rfl, rfl, rfl, Nat.le_refl _, fun _ _ => rfl⟩
      · go_wp2
        go_ret
        exact HD.out q
  · have hne : ((n : Int) != (m : Int)) = true := by simp; omega
    have HF : Hid (PostSm s t w (.returned (.bool false)) w) := hid ⟨false, rfl, fun e => by
      exfalso
      apply hnm
      rw [← HN.out, ← HM.out, e], Below.refl _ _⟩
    clear hA hB
    go_enter Try.func9, Try.ntmps9
    go_wp2
    go_ret
    exact HF.out
theorem stillQ {w : World} (a : Option Addr) (cap g : Nat) (s : Str) (hl : s.length ≤ 4000) (hr : Room w g (nums s)) (hP : PB w a cap s) (hg : 0 < s.length → ∀ p : Addr, a = some p → p.block < g) :
    Calls Try.prog 7 #[.slice (some ⟨g, 0, none⟩) s.length (s.length + 2), .slice a s.length cap] w fun e w' => e = .returned (.bool true) ∧ w.grownBy w' (some g) := by
  have := still_keep a cap g (nums s) w (by rw [nums_len]; omega) (nums_b s) hr (fun h0 => by
    rw [nums_len] at h0
    obtain ⟨b, off, e1, e2, _⟩ := hP.at_ h0
    subst e1
    exact ⟨b, off, rfl, hg h0 _ rfl, pb_at hP⟩)
  rw [nums_len] at this
  exact this
/- The law 'MergeTexts'. -/
theorem walkT_one (a b c : Option Addr) (n ca m cb k cc : Nat) (x y : Str) (w : World) (hn : 3000 < n) : Calls Try.prog 3 #[.slice a n ca, .slice b m cb, .slice c k cc, sV x, sV y] w (IsTrue w) := by
  have hI : (3000 : Int) < (n : Int) := by omega
  unfold sV
  go_enter Try.func3, Try.ntmps3
  go_wp2
  go_ret
  exact ⟨rfl, Below.refl _ _⟩
theorem walkT_two (a b c : Option Addr) (n ca m cb k cc : Nat) (x y : Str) (w : World) (hn : ¬ 3000 < n) (hm : 3000 < m) : Calls Try.prog 3 #[.slice a n ca, .slice b m cb, .slice c k cc, sV x, sV y] w (IsTrue w) := by
  have hI : ¬ (3000 : Int) < (n : Int) := by omega
  have hJ : (3000 : Int) < (m : Int) := by omega
  unfold sV
  go_enter Try.func3, Try.ntmps3
  go_wp2
  go_ret
  exact ⟨rfl, Below.refl _ _⟩
theorem walkT_three (a b c : Option Addr) (n ca m cb k cc : Nat) (x y : Str) (w : World) (hn : ¬ 3000 < n) (hm : ¬ 3000 < m) (hk : 3000 < k) : Calls Try.prog 3 #[.slice a n ca, .slice b m cb, .slice c k cc, sV x, sV y] w (IsTrue w) := by
  have hI : ¬ (3000 : Int) < (n : Int) := by omega
  have hJ : ¬ (3000 : Int) < (m : Int) := by omega
  have hK : (3000 : Int) < (k : Int) := by omega
  unfold sV
  go_enter Try.func3, Try.ntmps3
  go_wp2
  go_ret
  exact ⟨rfl, Below.refl _ _⟩
theorem walkT_four (a b c : Option Addr) (n ca m cb k cc : Nat) (x y : Str) (w : World) (hn : ¬ 3000 < n) (hm : ¬ 3000 < m) (hk : ¬ 3000 < k) (h1 : x.length ≤ 4611686018427387904) (h2 : y.length ≤ 4611686018427387903) (hx : 3000 < x.length + y.length) : Calls Try.prog 3 #[.slice a n ca, .slice b m cb, .slice c k cc, sV x, sV y] w (IsTrue w) := by
  have hI : ¬ (3000 : Int) < (n : Int) := by omega
  have hJ : ¬ (3000 : Int) < (m : Int) := by omega
  have hK : ¬ (3000 : Int) < (k : Int) := by omega
  have hL : (3000 : Int) < (x.length : Int) + (y.length : Int) := by omega
  unfold sV
  go_enter Try.func3, Try.ntmps3
  go_wp2
  go_ret
  exact ⟨rfl, Below.refl _ _⟩
set_option maxRecDepth 20000 in
set_option maxHeartbeats 4000000 in
theorem walkT (hRef : RefE) {w : World} (a0 : Option Addr) (c0 : Nat) (s : Str) (h0 : PB w a0 c0 s) (hs : s.length ≤ 3000) (a1 : Option Addr) (c1 : Nat) (t : Str) (h1 : PB w a1 c1 t) (ht : t.length ≤ 3000) (a2 : Option Addr) (c2 : Nat) (u : Str) (h2 : PB w a2 c2 u) (hu : u.length ≤ 3000) (a b : Str) (hab : a.length + b.length ≤ 3000) :
    Calls Try.prog 3 #[.slice a0 s.length c0, .slice a1 t.length c1, .slice a2 u.length c2, sV a, sV b] w (IsTrue w) := by
  obtain ⟨T, HT⟩ : ∃ T, Hid (mtx a b s t u = T) := ⟨_, rfl⟩
  obtain ⟨N, HN⟩ : ∃ T, Hid (mcn s t u = T) := ⟨_, rfl⟩
  have hTl : T.length ≤ 20000000 := by rw [← HT.out]; exact mtx_len a b s t u hs ht hu hab
  obtain ⟨n0, HN0⟩ : ∃ n, Hid (s.length = n) := ⟨_, rfl⟩
  obtain ⟨n1, HN1⟩ : ∃ n, Hid (t.length = n) := ⟨_, rfl⟩
  obtain ⟨n2, HN2⟩ : ∃ n, Hid (u.length = n) := ⟨_, rfl⟩
  obtain ⟨g, HG⟩ : ∃ g, Hid (w.heap.size = g) := ⟨_, rfl⟩
  have hI : ¬ (3000 : Int) < (n0 : Int) := by have := HN0.out; omega
  have hJ : ¬ (3000 : Int) < (n1 : Int) := by have := HN1.out; omega
  have hK : ¬ (3000 : Int) < (n2 : Int) := by have := HN2.out; omega
  have hL : ¬ (3000 : Int) < (a.length : Int) + (b.length : Int) := by omega
  have ha : a.length ≤ 3000 := by omega
  have hb : b.length ≤ 3000 := by omega
  have HP0 : Hid (∀ W, Below g w W → PB W a0 c0 s) := fun W hW => h0.below (by rw [HG.out]; exact hW)
  have HP1 : Hid (∀ W, Below g w W → PB W a1 c1 t) := fun W hW => h1.below (by rw [HG.out]; exact hW)
  have HP2 : Hid (∀ W, Below g w W → PB W a2 c2 u) := fun W hW => h2.below (by rw [HG.out]; exact hW)
  have HA0 : Hid (0 < s.length → ∀ p : Addr, a0 = some p → p.block < g) := hid (by rw [← HG.out]; exact h0.lt)
  have HA1 : Hid (0 < t.length → ∀ p : Addr, a1 = some p → p.block < g) := hid (by rw [← HG.out]; exact h1.lt)
  have HA2 : Hid (0 < u.length → ∀ p : Addr, a2 = some p → p.block < g) := hid (by rw [← HG.out]; exact h2.lt)
  have HS : Hid (s.length ≤ 3000) := hs
  have HTl : Hid (t.length ≤ 3000) := ht
  have HU : Hid (u.length ≤ 3000) := hu
  have HAB : Hid (a.length + b.length ≤ 3000) := hab
  have HREF : Hid RefE := hRef
  have CR : Hid (∀ (W : World) (x : Option Addr) (c : Nat) (l : Str), PB W x c l → l.length ≤ 3000 → Calls Try.prog 5 #[.slice x l.length c] W fun e w' => e = .returned (.slice (some ⟨W.heap.size, 0, none⟩) l.length (l.length + 2)) ∧ Below W.heap.size W w' ∧ Room w' W.heap.size (nums l)) := fun W x c l hp hl => roomyP x c l hp (by omega)
  rw [HN0.out, HN1.out, HN2.out]
  unfold sV
  have C1 := hid (CR.out w a0 c0 s h0 hs)
  rw [HN0.out, HG.out] at C1
  clear h0 h1 h2 hs ht hu hab hRef
  go_enter Try.func3, Try.ntmps3
  go_wp2_with fail
  refine C1.out.mono ?_
  rintro e w1 ⟨rfl, hb1, hr1⟩
  have HB1 : Hid (Below g w w1) := hb1
  have HR1 : Hid (Room w1 g (nums s)) := hr1
  obtain ⟨g1, HG1⟩ : ∃ h, Hid (w1.heap.size = h) := ⟨_, rfl⟩
  have l1 : g < g1 := by rw [← HG1.out]; exact hr1.lt
  have C2 := hid (CR.out w1 a1 c1 t (HP1.out w1 hb1) HTl.out)
  rw [HN1.out, HG1.out] at C2
  clear hb1 hr1 C1
  go_wp2_with fail
  refine C2.out.mono ?_
  rintro e w2 ⟨rfl, hb2, hr2⟩
  have HB2 : Hid (Below g w w2) := hid (HB1.out.trans (hb2.mono (Nat.le_of_lt l1)))
  have HR12 : Hid (Room w2 g (nums s)) := hid (HR1.out.kept (hb2.block g l1))
  have HR22 : Hid (Room w2 g1 (nums t)) := hr2
  obtain ⟨g2, HG2⟩ : ∃ h, Hid (w2.heap.size = h) := ⟨_, rfl⟩
  have l2 : g1 < g2 := by rw [← HG2.out]; exact hr2.lt
  have C3 := hid (CR.out w2 a2 c2 u (HP2.out w2 HB2.out) HU.out)
  rw [HN2.out, HG2.out] at C3
  clear hb2 hr2 C2
  go_wp2_with fail
  refine C3.out.mono ?_
  rintro e w3 ⟨rfl, hb3, hr3⟩
  have HB3 : Hid (Below g w w3) := hid (HB2.out.trans (hb3.mono (by omega)))
  have HR13 : Hid (Room w3 g (nums s)) := hid (HR12.out.kept (hb3.block g (by omega)))
  have HR23 : Hid (Room w3 g1 (nums t)) := hid (HR22.out.kept (hb3.block g1 l2))
  have HR33 : Hid (Room w3 g2 (nums u)) := hr3
  have l3 : g2 < w3.heap.size := hr3.lt
  have C6 : Hid (Calls Try.prog 6 #[.slice (some ⟨g, 0, none⟩) n0 (n0 + 2), .slice (some ⟨g1, 0, none⟩) n1 (n1 + 2), .slice (some ⟨g2, 0, none⟩) n2 (n2 + 2), .string ⟨a.toArray⟩, .string ⟨b.toArray⟩] w3 (PostTx T N w3)) := hid (by
    have := texts_any (some ⟨g, 0, none⟩) (s.length + 2) s (room_pb HR13.out) HS.out (some ⟨g1, 0, none⟩) (t.length + 2) t (room_pb HR23.out) HTl.out (some ⟨g2, 0, none⟩) (u.length + 2) u (room_pb HR33.out) HU.out a b HAB.out
    rw [HN0.out, HN1.out, HN2.out, HT.out, HN.out] at this
    exact this)
  clear hb3 hr3 C3 CR
  go_wp2_with fail
  refine C6.out.mono ?_
  rintro e w4 ⟨xa, xc, rfl, hb4, hx4, hxa⟩
  have HB4 : Hid (Below g w w4) := hid (HB3.out.trans (hb4.mono (by omega)))
  have HR14 : Hid (Room w4 g (nums s)) := hid (HR13.out.kept (hb4.block g (by omega)))
  have HR24 : Hid (Room w4 g1 (nums t)) := hid (HR23.out.kept (hb4.block g1 (by omega)))
  have HR34 : Hid (Room w4 g2 (nums u)) := hid (HR33.out.kept (hb4.block g2 (by omega)))
  have HX4 : Hid (PB w4 xa xc T) := hx4
  have HXA : Hid (∀ p : Addr, xa = some p → g2 < p.block) := fun p hp => by have := hxa p hp; omega
  clear hb4 hx4 hxa C6
  have hgs : g = w.heap.size := HG.out.symm
  have HGS := hid hgs
  clear hgs
  have C7 : Hid (Calls Try.prog 7 #[.slice (some ⟨g, 0, none⟩) n0 (n0 + 2), .slice a0 n0 c0] w4 fun e w' => e = .returned (.bool true) ∧ w4.grownBy w' (some g)) := hid (by
    have := stillQ a0 c0 g s (by have := HS.out; omega) HR14.out (HP0.out w4 HB4.out) HA0.out
    rw [HN0.out] at this
    exact this)
  go_wp2_with fail
  refine C7.out.mono ?_
  rintro e w5 ⟨rfl, hg5⟩
  have HB5 : Hid (Below g w w5) := hid (HB4.out.grown hg5 (by have := HR14.out.lt; omega) (fun k hk => by cases hk; exact Nat.le_refl _))
  have HR25 : Hid (Room w5 g1 (nums t)) := hid (HR24.out.kept (hg5.block g1 HR24.out.lt (fun e => by cases e; omega)))
  have HR35 : Hid (Room w5 g2 (nums u)) := hid (HR34.out.kept (hg5.block g2 HR34.out.lt (fun e => by cases e; omega)))
  have HX5 : Hid (PB w5 xa xc T) := hid (HX4.out.grown (fun p hp => by have := HXA.out p hp; omega) hg5)
  clear hg5 C7
  have C7 : Hid (Calls Try.prog 7 #[.slice (some ⟨g1, 0, none⟩) n1 (n1 + 2), .slice a1 n1 c1] w5 fun e w' => e = .returned (.bool true) ∧ w5.grownBy w' (some g1)) := hid (by
    have := stillQ a1 c1 g1 t (by have := HTl.out; omega) HR25.out (HP1.out w5 HB5.out) (fun h p hp => by have := HA1.out h p hp; omega)
    rw [HN1.out] at this
    exact this)
  go_wp2_with fail
  refine C7.out.mono ?_
  rintro e w6 ⟨rfl, hg6⟩
  have HB6 : Hid (Below g w w6) := hid (HB5.out.grown hg6 (by have := HR25.out.lt; omega) (fun k hk => by cases hk; omega))
  have HR36 : Hid (Room w6 g2 (nums u)) := hid (HR35.out.kept (hg6.block g2 HR35.out.lt (fun e => by cases e; omega)))
  have HX6 : Hid (PB w6 xa xc T) := hid (HX5.out.grown (fun p hp => by have := HXA.out p hp; omega) hg6)
  clear hg6 C7
  have C7 : Hid (Calls Try.prog 7 #[.slice (some ⟨g2, 0, none⟩) n2 (n2 + 2), .slice a2 n2 c2] w6 fun e w' => e = .returned (.bool true) ∧ w6.grownBy w' (some g2)) := hid (by
    have := stillQ a2 c2 g2 u (by have := HU.out; omega) HR36.out (HP2.out w6 HB6.out) (fun h p hp => by have := HA2.out h p hp; omega)
    rw [HN2.out] at this
    exact this)
  go_wp2_with fail
  refine C7.out.mono ?_
  rintro e w7 ⟨rfl, hg7⟩
  have HB7 : Hid (Below g w w7) := hid (HB6.out.grown hg7 (by have := HR36.out.lt; omega) (fun k hk => by cases hk; omega))
  have HX7 : Hid (PB w7 xa xc T) := hid (HX6.out.grown (fun p hp => by have := HXA.out p hp; omega) hg7)
  clear hg7 C7
  have C8 : Hid (Calls Try.prog 8 #[.slice a0 n0 c0, .slice a1 n1 c1, .slice a2 n2 c2, .string ⟨a.toArray⟩, .string ⟨b.toArray⟩] w7 (PostTx T N w7)) := hid (by
    have := refTexts_any HREF.out a0 c0 s (HP0.out w7 HB7.out) HS.out a1 c1 t (HP1.out w7 HB7.out) HTl.out a2 c2 u (HP2.out w7 HB7.out) HU.out a b HAB.out
    rw [HN0.out, HN1.out, HN2.out, HT.out, HN.out] at this
    exact this)
  go_wp2_with fail
  refine C8.out.mono ?_
  rintro e w8 ⟨ya, yc, rfl, hb8, hy8, _⟩
  have HB8 : Hid (Below g w w8) := hid (HB7.out.trans (hb8.mono (by have := HB7.out.size; have := HG.out; omega)))
  have C9 : Hid (Calls Try.prog 9 #[.slice xa T.length xc, .slice ya T.length yc] w8 (PostSm T T w8)) := hid (same_some xa xc T (HX7.out.below hb8) ya yc T hy8 (by omega) (by omega))
  clear hb8 hy8 C8
  go_wp2_with fail
  refine C9.out.mono ?_
  rintro e w9 ⟨v, rfl, hv, hb9⟩
  obtain rfl := hv rfl
  have HB9 : Hid (Below w.heap.size w w9) := hid (by rw [HG.out]; exact HB8.out.trans (hb9.mono (by have := HB8.out.size; have := HG.out; omega)))
  clear hb9 hv C9
  go_wp2
  go_ret
  exact ⟨rfl, HB9.out⟩
end Go.Proofs.Ytakddciegnkpdaa
