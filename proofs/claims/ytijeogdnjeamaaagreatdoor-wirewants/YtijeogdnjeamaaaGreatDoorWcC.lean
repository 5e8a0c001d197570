/- The document's 'Pkt' and 'Lines'. -/
import Derived.Test.YtijeogdnjeamaaaGreatDoorWcB
namespace Go.Proofs.YtijeogdnjeamaaaGreatDoor
open Go.RowKit
set_option linter.unusedVariables false
set_option linter.unusedSimpArgs false
abbrev BT (w0 w : World) (B : Nat) (v : Value) (ts : List Hdr) : Prop := Bx encT 1 25 w0 w B v ts
theorem BT.more {w0 W : World} {B : Nat} {v : Value} {ts : List Hdr} (h : BT w0 W B v ts) (hn : ts.length ≤ 20000) (t : Hdr) (g : Nat) (hg : W.cell? ⟨g, 0, none⟩ = some (.slice t.1 t.2.2.length t.2.1)) (ty : TypeId) :
    ∃ v' W', (Builtin.append_ #[134, 134] ty #[v, .slice (some ⟨g, 0, none⟩) 1 1]).run Tryz.prog W = .ok v' W' ∧ BT w0 W' B v' (ts ++ [t]) ∧ W.grownBy W' v.ownBlock := by
  obtain ⟨i, hi, hz0, hz1, hz2⟩ := info_parts info23
  obtain ⟨v', W', hr, h1, h2, _⟩ := run_append_own_at (P := Tryz.prog) W B 134 ty 25 i _ 1 24 Tryz.underlying134 hi hz0 hz1 hz2 rfl (by decide) v _ _ h.own ⟨g, 0, none⟩ 1 1 [.slice t.1 t.2.2.length t.2.1] rfl (fun j x hj => by
    cases j with
    | zero => cases hj; rw [addr_add]; exact hg
    | succ j => simp at hj) (fun x hx => by rw [List.mem_singleton.1 hx]; rfl) (by unfold maxLen; omega) (by omega) h.le
  refine ⟨v', W', hr, ⟨h.below.grown h2 h.le (fun k hk => (own_lt h.own k hk).1), ?_, Nat.le_trans h.le h2.size⟩, h2⟩
  rw [List.length_append, List.flatMap_append]
  exact h1
theorem bt_nil (w : World) (B : Nat) (h : B = w.heap.size) : BT w w B (.slice none 0 0) [] := ⟨Below.refl _ _, ⟨rfl, .inl ⟨rfl, rfl⟩⟩, by omega⟩
theorem Tryz.results68 : Tryz.f68.results = #[.tmp 2, .tmp 3] := by kernel_rfl
def PostLd (s : Str) (w : World) (e : Ending) (w' : World) : Prop :=
  Below w.heap.size w w' ∧ ((∃ ls, okL ls ∧ s = pktL ls ∧ ∃ v ts, e = .returned (.tuple #[v, .bool true]) ∧ BT w w' w.heap.size v ts ∧ AT w ts ∧ ts.map (·.2.2) = ls) ∨ ((¬ ∃ ls, okL ls ∧ s = pktL ls) ∧ e = .returned (.tuple #[.slice none 0 0, .bool false])))
set_option maxRecDepth 20000 in
set_option maxHeartbeats 4000000 in
theorem refLines_any {w : World} (a : Option Addr) (cap : Nat) (s : Str) (hP : PB w a cap s) (hl : s.length ≤ 70000) : Calls Tryz.prog 68 #[.slice a s.length cap] w (PostLd s w) := by
  obtain ⟨B, HB⟩ : ∃ B, Hid (w.heap.size = B) := ⟨_, rfl⟩
  have HL0 : Hid (s.length ≤ 70000) := hl
  obtain ⟨m, HM⟩ : ∃ m, Hid (s.length = m) := ⟨_, rfl⟩
  have hm : m ≤ 70000 := by rw [← HM.out]; exact hl
  have HBW : Hid (∀ (aa : Option Addr) (cc : Nat) (r : Str), PB w aa cc r → ∀ W, Below B w W → PB W aa cc r) := fun aa cc r h W hW => h.below (by rw [HB.out]; exact hW)
  have HP := hid hP
  have S0 : Hid (BT w w B (.slice none 0 0) []) := hid (bt_nil w B HB.out.symm)
  rw [HM.out]
  clear hP hl
  go_enter Tryz.func68, Tryz.ntmps68
  go_wp2_with fail
  go_loopg [0, 4] m (fun gg bv0 lv wr => ∃ (aa : Option Addr) (k cc : Nat) (r : Str) (dn : List Str) (ts : List Hdr), bv0 = .slice aa k cc ∧ k = gg ∧ Hid (r.length = k) ∧ Hid (PB w aa cc r) ∧ Hid (s = pktL dn ++ r) ∧ Hid (okL dn) ∧ Hid (BT w wr B lv ts) ∧ Hid (AT w ts ∧ ts.map (·.2.2) = dn) ∧ Hid (dn.length * 4 + r.length ≤ m))
  case atStart => exact ⟨a, m, cap, s, [], [], rfl, rfl, HM, HP, hid rfl, hid (fun x hx => by simp at hx), S0, hid ⟨fun t ht => by simp at ht, rfl⟩, hid (by rw [HM.out]; simp)⟩
  case round =>
    obtain ⟨aa, k, cc, r, dn, ts, rfl, hk, HRL, HPR, HE, HOK, HLL, HAT, HC⟩ := hrel
    have hkm : k ≤ m := by have := HC.out; rw [HRL.out] at this; omega
    by_cases h0 : 0 < k
    · have h0i : (0 : Int) < (k : Int) := by omega
      have C23 : Hid (Calls Tryz.prog 84 #[.slice aa k cc] wr (PostNx aa cc r wr)) := hid (by
        have := next_any aa cc r (HBW.out _ _ _ HPR.out wr HLL.out.below) (by rw [HRL.out]; omega)
        rw [HRL.out] at this
        exact this)
      have HKG : Hid (k = gk) := hk
      clear hk
      go_wp2_with fail
      refine C23.out.mono ?_
      rintro e w1 ⟨hb1, ⟨n, hf, rfl⟩ | ⟨hno, rfl⟩⟩
      · have HF := hid hf
        have HLL1 : Hid (BT w w1 B u4 ts) := hid (HLL.out.carry hb1)
        obtain ⟨hpk, hsl⟩ := fst_pkt hf
        have hfl := hf.2.1
        have hf1 := hf.1
        rw [HRL.out] at hfl
        obtain ⟨x, HX⟩ : ∃ x, Hid ((r.drop 4).take n = x) := ⟨_, rfl⟩
        rw [HX.out] at hpk hsl
        have HXL := hid hsl
        have hsome : ∃ p, aa = some p := by
          obtain ⟨b, off, e1, _⟩ := HPR.out.at_ (by rw [HRL.out]; exact h0)
          exact ⟨_, e1⟩
        obtain ⟨p, hp⟩ := adX_some (cap := cc) (j := 4) hsome
        obtain ⟨A2, HA2⟩ : ∃ y, Hid (adX 1 aa cc (4 + n) = y) := ⟨_, rfl⟩
        obtain ⟨c2, HC2⟩ : ∃ y, Hid (cc - (4 + n) = y) := ⟨_, rfl⟩
        obtain ⟨k2, HK2⟩ : ∃ y, Hid (k - (4 + n) = y) := ⟨_, rfl⟩
        obtain ⟨c4, HC4⟩ : ∃ y, Hid (cc - 4 = y) := ⟨_, rfl⟩
        have HPL : Hid (PB w (some p) c4 x) := hid (by
          have := Px.mid HPR.out 4 (4 + n) (by omega) (by rw [HRL.out]; omega)
          rw [hp, HC4.out, show 4 + n - 4 = n by omega, HX.out] at this
          exact this)
        have HPR2 : Hid (PB w A2 c2 (r.drop (4 + n))) := hid (by
          have := Px.from HPR.out (4 + n) (by rw [HRL.out]; omega)
          rw [HA2.out, HC2.out] at this
          exact this)
        have HPK := hid hpk
        have hdl : ts.length ≤ 20000 := by
          have h1 := HC.out
          have h2 := congrArg List.length HAT.out.2
          rw [List.length_map] at h2
          omega
        rw [hp, HA2.out, HC2.out, HRL.out, HK2.out, HC4.out]
        have hbs := run_hdr (.slice (some p) n c4) rfl rfl w1
        obtain ⟨v5, W5, hr5, hl5, hg5⟩ := BT.more (HLL1.out.alloc (.cells #[.slice (some p) n c4] 25)) hdl (some p, c4, x) w1.heap.size (by
          have := cell_of_row (w1.alloc (.cells #[.slice (some p) n c4] 25)) w1.heap.size 0 _ 25 (0, 0) (heap_alloc_new w1 _)
          rw [this]
          show some (Value.slice (some p) n c4) = some (Value.slice (some p) x.length c4)
          rw [HXL.out]) 134
        obtain ⟨W3, HW3⟩ : ∃ W, Hid (w1.alloc (.cells #[.slice (some p) n c4] 25) = W) := ⟨_, rfl⟩
        rw [HW3.out] at hr5 hbs
        have al3 : w1.alloc (.cells #[.slice (some p) n c4] 25) = W3 := HW3.out
        have HL5 : Hid (BT w W5 B v5 (ts ++ [(some p, c4, x)])) := hid hl5
        have HAT2 : Hid (AT w (ts ++ [(some p, c4, x)]) ∧ (ts ++ [(some p, c4, x)]).map (·.2.2) = dn ++ [x]) := hid ⟨fun t ht => (List.mem_append.1 ht).elim (HAT.out.1 t) (fun h => by rw [List.mem_singleton.1 h]; exact HPL.out), by rw [List.map_append, HAT.out.2]; rfl⟩
        have HE2 : Hid (s = pktL (dn ++ [x]) ++ r.drop (4 + n)) := hid (by
          rw [pktL_app, List.append_assoc, show pktL [x] = pkt x by simp [pktL], ← HPK.out]; exact HE.out)
        have HOK2 : Hid (okL (dn ++ [x])) := hid (fun y hy => (List.mem_append.1 hy).elim (HOK.out y) (fun h => by rw [List.mem_singleton.1 h, HXL.out]; exact hf1))
        have HC3 : Hid ((dn ++ [x]).length * 4 + (r.drop (4 + n)).length ≤ m) := hid (by
          rw [List.length_append, List.length_singleton, List.length_drop, HRL.out]
          have := HC.out
          rw [HRL.out] at this
          omega)
        have HRL2 : Hid ((r.drop (4 + n)).length = k2) := hid (by rw [List.length_drop, HRL.out, HK2.out])
        have hk2 : k2 < k := by rw [← HK2.out]; omega
        clear hf hb1 hpk hsl hl5 hg5
        go_wp2_with (first | (refine wpList_bSY rfl 134 1 _ rfl (.slice (some p) n c4) _ rfl hbs ?_) | (at_builtin; refine wpList_app rfl _ _ 134 134 rfl 134 rfl _ _ rfl rfl hr5 ?_) | fail)
        go_roundg k2
        case measure => have := HKG.out; omega
        case rel => exact ⟨A2, k2, c2, r.drop (4 + n), dn ++ [x], ts ++ [(some p, c4, x)], rfl, rfl, HRL2, HPR2, HE2, HOK2, HL5, HAT2, HC3⟩
      · have HNO : Hid (¬ ∃ ls, okL ls ∧ s = pktL ls) := hid (by
          rintro ⟨ls, h1, h2⟩
          obtain ⟨rest, h3, h4⟩ := pktL_pre dn ls r HOK.out h1 (by rw [← h2]; exact HE.out)
          cases rest with
          | nil =>
            have := congrArg List.length h4
            rw [HRL.out] at this
            simp [pktL] at this
            omega
          | cons x rest =>
            refine hno ⟨x.length, ?_⟩
            rw [h4]
            exact pkt_fst x (pktL rest) (h1 x (by rw [h3]; simp)))
        have HB2 : Hid (Below w.heap.size w w1) := hid (by rw [HB.out]; exact HLL.out.below.trans (hb1.mono HLL.out.le))
        clear hno hb1
        go_wp2
        refine bodyPost_ret (results_tmp2 Tryz.results68 _ _ _) rfl ?_
        exact ⟨HB2.out, .inr ⟨HNO.out, rfl⟩⟩
    · have h0i : ¬ (0 : Int) < (k : Int) := by omega
      have HE2 : Hid (s = pktL dn) := hid (by
        have hr : r = [] := List.length_eq_zero_iff.1 (by rw [HRL.out]; omega)
        have := HE.out
        rw [hr, List.append_nil] at this
        exact this)
      clear hk
      go_wp2
      refine bodyPost_ret (results_tmp2 Tryz.results68 _ _ _) rfl ?_
      exact ⟨by rw [HB.out]; exact HLL.out.below, .inl ⟨dn, HOK.out, HE2.out, _, ts, rfl, by rw [HB.out]; exact HLL.out, HAT.out.1, HAT.out.2⟩⟩
end Go.Proofs.YtijeogdnjeamaaaGreatDoor
