import Derived.Test.YtbpdielmdhhdfaaGreatDoorMk05
import Derived.Test.YtbpdielmdhhdfaaGreatDoorMk04
import Derived.Shelf.Strconv.AtoiAll
import Derived.Test.YtbpdielmdhhdfaaGreatDoorMk01
import Derived.Maps.OwnSet
import Derived.Maps.OwnOps
import Derived.DeepKeys4
namespace Go.Proofs.YtbpdielmdhhdfaaGreatDoor
open Go.RowKit
set_option linter.unusedVariables false
set_option linter.unusedSimpArgs false
def Ers (w : World) : Prop := (∃ ev, w.cell? ⟨5, 0, none⟩ = some ev ∧ (ev = .nilIface ∨ ∃ te pe, ev = .iface te pe)) ∧ (∃ ev, w.cell? ⟨6, 0, none⟩ = some ev ∧ (ev = .nilIface ∨ ∃ te pe, ev = .iface te pe))
theorem cell_lt {w : World} {p : Addr} {v : Value} (h : w.cell? p = some v) : p.block < w.heap.size := by
  rcases Nat.lt_or_ge p.block w.heap.size with h' | h'
  · exact h'
  · simp [World.cell?, Array.getElem?_eq_none h'] at h
theorem Ers.below {w w' : World} (h : Ers w) (hb : Below w.heap.size w w') : Ers w' := by
  obtain ⟨⟨e1, h1, k1⟩, ⟨e2, h2, k2⟩⟩ := h
  exact ⟨⟨e1, (hb.cell (cell_lt h1)).trans h1, k1⟩, ⟨e2, (hb.cell (cell_lt h2)).trans h2, k2⟩⟩
theorem below_bw (w : World) (e : TypeId) (s : ByteArray) : Below w.heap.size w (Lib.bytesWorld w e s) := ⟨rfl, rfl, rfl, by rw [Lib.bytesWorld_size]; omega, fun k hk => Lib.bytesWorld_at_old w e s k hk⟩
def PA (r : Lib.NumEnd Int) (e : Ending) : Prop := ∃ x ev, e = .returned (.tuple #[.int .i64 x, ev]) ∧ ((ev = .nilIface ∧ r = .ok x) ∨ ((∃ N, ev = .iface 292 (.pointer (some ⟨N, 0, none⟩))) ∧ ∀ v, r ≠ .ok v))
theorem atoi_short (l : List UInt8) (hl : l.length ≤ 1000000) (w : World) (he : Ers w) : Calls Tryz.prog 211 #[.string ⟨l.toArray⟩] w fun e w' => Below w.heap.size w w' ∧ PA (Lib.atoiAll l) e := by
  have hsz : (⟨l.toArray⟩ : ByteArray).size = l.length := by simp [ByteArray.size]
  obtain ⟨⟨e1, h1, k1⟩, ⟨e2, h2, k2⟩⟩ := he
  cases hr : Lib.atoiAll l with
  | ok v =>
    refine (Any.strconv_Atoi_ok Tryz.laysC172 ⟨l.toArray⟩ (by rw [hsz]; omega) v hr w).mono ?_
    rintro e w' ⟨rfl, h⟩
    refine ⟨?_, _, _, rfl, .inl ⟨rfl, rfl⟩⟩
    rcases h with rfl | ⟨t, rfl⟩
    · exact Below.refl _ _
    · exact below_bw _ _ _
  | «syntax» =>
    refine (Any.strconv_Atoi_syntax Tryz.laysC172 ⟨l.toArray⟩ (by rw [hsz]; omega) hr e1 w h1 k1).mono ?_
    rintro e w' ⟨N, rfl, -, -, h⟩
    exact ⟨h, _, _, rfl, .inr ⟨⟨N, rfl⟩, fun v hv => by cases hv⟩⟩
  | range =>
    refine (Any.strconv_Atoi_range Tryz.laysC172 ⟨l.toArray⟩ (by rw [hsz]; omega) hr e2 w h2 k2).mono ?_
    rintro e w' ⟨N, rfl, -, -, h⟩
    exact ⟨h, _, _, rfl, .inr ⟨⟨N, rfl⟩, fun v hv => by cases hv⟩⟩
theorem parseInt_short (l : List UInt8) (hl : l.length ≤ 1000000) (w : World) (he : Ers w) : Calls Tryz.prog 172 #[.string ⟨l.toArray⟩, .int .i64 10, .int .i64 64] w fun e w' => Below w.heap.size w w' ∧ PA (Lib.parseIntB 64 l) e := by
  have hsz : (⟨l.toArray⟩ : ByteArray).size = l.length := by simp [ByteArray.size]
  obtain ⟨⟨e1, h1, k1⟩, ⟨e2, h2, k2⟩⟩ := he
  cases hr : Lib.parseIntB 64 l with
  | ok v =>
    refine (Any.strconv_ParseInt_10_at64_ok Tryz.laysC174 ⟨l.toArray⟩ (by rw [hsz]; omega) v hr w).mono ?_
    rintro e w' ⟨rfl, h⟩
    refine ⟨?_, _, _, rfl, .inl ⟨rfl, rfl⟩⟩
    rcases h with rfl | ⟨t, rfl⟩
    · exact Below.refl _ _
    · exact below_bw _ _ _
  | «syntax» =>
    refine (Any.strconv_ParseInt_10_at64_syntax Tryz.laysC174 ⟨l.toArray⟩ (by rw [hsz]; omega) hr e1 w h1 k1).mono ?_
    rintro e w' ⟨N, rfl, -, -, h⟩
    exact ⟨h, _, _, rfl, .inr ⟨⟨N, rfl⟩, fun v hv => by cases hv⟩⟩
  | range =>
    refine (Any.strconv_ParseInt_10_at64_range Tryz.laysC174 ⟨l.toArray⟩ (by rw [hsz]; omega) hr e2 w h2 k2).mono ?_
    rintro e w' ⟨N, rfl, -, -, h⟩
    exact ⟨h, _, _, rfl, .inr ⟨⟨N, rfl⟩, fun v hv => by cases hv⟩⟩
def PZ (l : List UInt8) (z : Int) : Prop := ∀ v, Lib.atoiAll l = .ok v → -10000 ≤ v → v ≤ 10000 → z = v.tdiv 100 * 60 + v.tmod 100
def PostZ (l : List UInt8) (e : Ending) : Prop := ∃ z, e = .returned (.int .i64 z) ∧ PZ l z
set_option maxRecDepth 20000 in
theorem zoneOf_any (l : List UInt8) (hl : l.length ≤ 1000000) (w : World) (he : Ers w) : Calls Tryz.prog 176 #[.string ⟨l.toArray⟩] w fun e w' => Below w.heap.size w w' ∧ PostZ l e := by
  obtain ⟨S, HS⟩ : ∃ S : ByteArray, Hid (⟨l.toArray⟩ = S) := ⟨_, rfl⟩
  have HA : Hid (Calls Tryz.prog 211 #[.string S] w fun e w' => Below w.heap.size w w' ∧ PA (Lib.atoiAll l) e) := hid (by rw [← HS.out]; exact atoi_short l hl w he)
  rw [HS.out]
  clear he
  go_enter Tryz.func176, Tryz.ntmps176
  go_wp2_with fail
  refine HA.out.mono ?_
  rintro e w1 ⟨hb, x, ev, rfl, hx⟩
  have HB : Hid (Below w.heap.size w w1) := hb
  have HX : Hid ((ev = .nilIface ∧ Lib.atoiAll l = .ok x) ∨ ((∃ N, ev = .iface 292 (.pointer (some ⟨N, 0, none⟩))) ∧ ∀ v, Lib.atoiAll l ≠ .ok v)) := hx
  clear hb hx
  rcases HX.out with ⟨rfl, hok⟩ | ⟨⟨N, rfl⟩, hno⟩
  · have HOK : Hid (Lib.atoiAll l = .ok x) := hok
    clear hok HX
    by_cases hr : -10000 ≤ x ∧ x ≤ 10000
    · obtain ⟨r1, r2⟩ := hr
      obtain ⟨q, HQ⟩ : ∃ q, Hid (x.tdiv 100 = q) := ⟨_, rfl⟩
      obtain ⟨m, HM⟩ : ∃ m, Hid (x.tmod 100 = m) := ⟨_, rfl⟩
      have hq : x.tdiv 100 = q := HQ.out
      have hm : x.tmod 100 = m := HM.out
      have q1 : -100 ≤ q ∧ q ≤ 100 := by
        have h1 := Int.mul_tdiv_add_tmod x 100
        have h2 : m.natAbs < 100 := by rw [← hm]; have := Int.natAbs_tmod x 100; rw [this]; exact Nat.mod_lt _ (by decide)
        rw [hq, hm] at h1
        omega
      have m1 : -100 ≤ m ∧ m ≤ 100 := by
        have h2 : m.natAbs < 100 := by rw [← hm]; have := Int.natAbs_tmod x 100; rw [this]; exact Nat.mod_lt _ (by decide)
        omega
      obtain ⟨q1, q2⟩ := q1
      obtain ⟨m1, m2⟩ := m1
      go_wp2
      go_ret
      refine ⟨HB.out, _, rfl, ?_⟩
      intro v hv _ _
      rw [HOK.out] at hv
      cases hv
      rw [HQ.out, HM.out]
    · have HR : Hid (¬ (-10000 ≤ x ∧ x ≤ 10000)) := hr
      clear hr
      go_wp2
      go_ret
      refine ⟨HB.out, _, rfl, ?_⟩
      intro v hv h1 h2
      rw [HOK.out] at hv
      cases hv
      exact absurd ⟨h1, h2⟩ HR.out
  · have HNO : Hid (∀ v, Lib.atoiAll l ≠ .ok v) := hno
    clear hno HX
    go_wp2
    go_ret
    exact ⟨HB.out, _, rfl, fun v hv => absurd hv (HNO.out v)⟩
def p1 (l : List UInt8) : List UInt8 := (Lib.cut l [32, 60]).1
def p2 (l : List UInt8) : List UInt8 := (Lib.cut (Lib.cut l [32, 60]).2.1 [62, 32]).1
def p3 (l : List UInt8) : List UInt8 := (Lib.cut (Lib.cut (Lib.cut l [32, 60]).2.1 [62, 32]).2.1 [32]).1
def p4 (l : List UInt8) : List UInt8 := (Lib.cut (Lib.cut (Lib.cut l [32, 60]).2.1 [62, 32]).2.1 [32]).2.1
theorem cut_le1 (s sep : List UInt8) : (Lib.cut s sep).1.length ≤ s.length := by
  unfold Lib.cut
  split
  · simp only [List.length_take]; omega
  · exact Nat.le_refl _
theorem cut_le2 (s sep : List UInt8) : (Lib.cut s sep).2.1.length ≤ s.length := by
  unfold Lib.cut
  split
  · simp only [List.length_drop]; omega
  · simp
def PP (l : List UInt8) (p : Per) : Prop := p.name.length ≤ l.length ∧ p.mail.length ≤ l.length ∧ ∀ v, Lib.parseIntB 64 (p3 l) = .ok v → p.name = p1 l ∧ p.mail = p2 l ∧ p.time = v ∧ PZ (p4 l) p.zone
def PostQ (l : List UInt8) (e : Ending) : Prop := ∃ p, e = .returned (.agg (perV p)) ∧ PP l p
theorem Tryz.results140 : Tryz.f140.results = #[.cell 2 58] := by kernel_rfl
theorem Tryz.size58 : (Tryz.prog.info? 58).map (·.size) = some 4 := by kernel_rfl
set_option maxRecDepth 20000 in
set_option maxHeartbeats 1000000 in
theorem personOf_any (l : List UInt8) (hl : l.length ≤ 1000000) (w : World) (he : Ers w) (hm : Mx w) : Calls Tryz.prog 140 #[.string ⟨l.toArray⟩] w fun e w' => Below w.heap.size w w' ∧ PostQ l e := by
  obtain ⟨S, HS⟩ : ∃ S : ByteArray, Hid (⟨l.toArray⟩ = S) := ⟨_, rfl⟩
  obtain ⟨A1, H1⟩ : ∃ S : ByteArray, Hid (⟨(p1 l).toArray⟩ = S) := ⟨_, rfl⟩
  obtain ⟨A2, H2⟩ : ∃ S : ByteArray, Hid (⟨(p2 l).toArray⟩ = S) := ⟨_, rfl⟩
  obtain ⟨A3, H3⟩ : ∃ S : ByteArray, Hid (⟨(p3 l).toArray⟩ = S) := ⟨_, rfl⟩
  obtain ⟨A4, H4⟩ : ∃ S : ByteArray, Hid (⟨(p4 l).toArray⟩ = S) := ⟨_, rfl⟩
  obtain ⟨r1, K1⟩ : ∃ r, Hid ((Lib.cut l [32, 60]).2.1 = r) := ⟨_, rfl⟩
  obtain ⟨r2, K2⟩ : ∃ r, Hid ((Lib.cut r1 [62, 32]).2.1 = r) := ⟨_, rfl⟩
  obtain ⟨R1, L1⟩ : ∃ S : ByteArray, Hid (⟨r1.toArray⟩ = S) := ⟨_, rfl⟩
  obtain ⟨R2, L2⟩ : ∃ S : ByteArray, Hid (⟨r2.toArray⟩ = S) := ⟨_, rfl⟩
  obtain ⟨f1, F1⟩ : ∃ b : Bool, Hid ((Lib.cut l [32, 60]).2.2 = b) := ⟨_, rfl⟩
  obtain ⟨f2, F2⟩ : ∃ b : Bool, Hid ((Lib.cut r1 [62, 32]).2.2 = b) := ⟨_, rfl⟩
  obtain ⟨f3, F3⟩ : ∃ b : Bool, Hid ((Lib.cut r2 [32]).2.2 = b) := ⟨_, rfl⟩
  have q1 : Hid (r1.length ≤ l.length) := hid (by rw [← K1.out]; exact cut_le2 _ _)
  have q2 : Hid (r2.length ≤ l.length) := hid (by rw [← K2.out]; exact Nat.le_trans (cut_le2 _ _) q1.out)
  have q3 : Hid ((p3 l).length ≤ l.length) := hid (by unfold p3; rw [K1.out, K2.out]; exact Nat.le_trans (cut_le1 _ _) q2.out)
  have q4 : Hid ((p4 l).length ≤ l.length) := hid (by unfold p4; rw [K1.out, K2.out]; exact Nat.le_trans (cut_le2 _ _) q2.out)
  have q5 : Hid ((p1 l).length ≤ l.length) := hid (cut_le1 _ _)
  have q6 : Hid ((p2 l).length ≤ l.length) := hid (by unfold p2; rw [K1.out]; exact Nat.le_trans (cut_le1 _ _) q1.out)
  obtain ⟨G, HG⟩ : ∃ G, Hid (w.heap.size = G) := ⟨_, rfl⟩
  obtain ⟨w0, HW0⟩ : ∃ w0, Hid (w.alloc (.cells #[.string ⟨#[]⟩, .string ⟨#[]⟩, .int .i64 0, .int .i64 0] 58) = w0) := ⟨_, rfl⟩
  have HB0 : Hid (Below G w w0) := hid (by rw [← HW0.out, ← HG.out]; exact (Below.refl _ w).alloc (Nat.le_refl _) _)
  have HS0 : Hid (G < w0.heap.size) := hid (by rw [← HW0.out, ← HG.out]; simp)
  have HR0 : Hid (w0.heap[G]? = some (.cells #[.string ⟨#[]⟩, .string ⟨#[]⟩, .int .i64 0, .int .i64 0] 58 (0, 0))) := hid (by rw [← HW0.out, ← HG.out]; exact heap_alloc_new w _)
  have HE : Hid (∀ W, Below G w W → Ers W) := fun W hW => he.below (by rw [HG.out]; exact hW)
  have HM : Hid (∀ W, Below G w W → Mx W) := fun W hW => hm.below (by rw [HG.out]; exact hW)
  have C1 : Hid (∀ W, Below G w W → Calls Tryz.prog 82 #[.string S, .string ⟨#[32, 60]⟩] W fun e w' => e = .returned (.tuple #[.string A1, .string R1, .bool f1]) ∧ ∃ q, w' = W.drewN q) := fun W hW => by
    rw [← HS.out, ← H1.out, ← L1.out, ← K1.out, ← F1.out]
    exact scut_any l [32, 60] W hl (HM.out W hW)
  have C2 : Hid (∀ W, Below G w W → Calls Tryz.prog 82 #[.string R1, .string ⟨#[62, 32]⟩] W fun e w' => e = .returned (.tuple #[.string A2, .string R2, .bool f2]) ∧ ∃ q, w' = W.drewN q) := fun W hW => by
    rw [← L1.out, ← H2.out, ← L2.out, ← K2.out, ← F2.out]
    unfold p2
    rw [K1.out]
    exact scut_any r1 [62, 32] W (Nat.le_trans q1.out hl) (HM.out W hW)
  have C3 : Hid (∀ W, Below G w W → Calls Tryz.prog 82 #[.string R2, .string ⟨#[32]⟩] W fun e w' => e = .returned (.tuple #[.string A3, .string A4, .bool f3]) ∧ ∃ q, w' = W.drewN q) := fun W hW => by
    rw [← L2.out, ← H3.out, ← H4.out, ← F3.out]
    unfold p3 p4
    rw [K1.out, K2.out]
    exact scut_any r2 [32] W (Nat.le_trans q2.out hl) (HM.out W hW)
  have C4 : Hid (∀ W, Below G w W → Calls Tryz.prog 172 #[.string A3, .int .i64 10, .int .i64 64] W fun e w' => Below W.heap.size W w' ∧ PA (Lib.parseIntB 64 (p3 l)) e) := fun W hW => by
    rw [← H3.out]; exact parseInt_short _ (Nat.le_trans q3.out hl) W (HE.out W hW)
  have C5 : Hid (∀ W, Below G w W → Calls Tryz.prog 176 #[.string A4] W fun e w' => Below W.heap.size W w' ∧ PostZ (p4 l) e) := fun W hW => by
    rw [← H4.out]; exact zoneOf_any _ (Nat.le_trans q4.out hl) W (HE.out W hW)
  have RET : Hid (∀ (p : Per) W1, Below G w W1 → Below w0.heap.size w0 W1 → PP l p → W1.there G 0 4 → (Below w.heap.size w (W1.setCells G 0 (perV p).toList) ∧ PostQ l (.returned (.agg (perV p))))) := fun p W1 a b c d => ⟨by rw [HG.out]; exact below_setCells (Nat.le_refl _) _ _ _ _ a, p, rfl, c⟩
  have HTH : Hid (∀ W1, Below w0.heap.size w0 W1 → W1.there G 0 4) := fun W1 h j hj => by
    have hh := (h.block G HS0.out).trans HR0.out
    refine ⟨?_, frozen_of_row W1 G (0 + j) _ _ hh⟩
    rw [cell_of_row W1 G (0 + j) _ _ _ hh]
    have : j = 0 ∨ j = 1 ∨ j = 2 ∨ j = 3 := by omega
    rcases this with rfl | rfl | rfl | rfl <;> rfl
  rw [HS.out]
  clear he hm
  go_enter Tryz.func140, Tryz.ntmps140
  go_wp2_with fail
  rw [HG.out, HW0.out]
  refine (C1.out w0 HB0.out).mono ?_
  rintro ev w' ⟨rfl, n1, rfl⟩
  have HB1 : Hid (Below G w (w0.drewN n1)) := below_drewN' _ _ HB0.out
  have HY1 : Hid (Below w0.heap.size w0 (w0.drewN n1)) := ⟨rfl, rfl, rfl, Nat.le_refl _, fun _ _ => rfl⟩
  generalize w0.drewN n1 = w1 at HB1 HY1 ⊢
  go_wp2_with fail
  refine (C2.out _ HB1.out).mono ?_
  rintro ev w' ⟨rfl, n2, rfl⟩
  have HB2 : Hid (Below G w (w1.drewN n2)) := below_drewN' _ _ HB1.out
  have HY2 : Hid (Below w0.heap.size w0 (w1.drewN n2)) := below_drewN' _ _ HY1.out
  generalize w1.drewN n2 = w2 at HB2 HY2 ⊢
  go_wp2_with fail
  refine (C3.out _ HB2.out).mono ?_
  rintro ev w' ⟨rfl, n3, rfl⟩
  have HB3 : Hid (Below G w (w2.drewN n3)) := below_drewN' _ _ HB2.out
  have HY3 : Hid (Below w0.heap.size w0 (w2.drewN n3)) := below_drewN' _ _ HY2.out
  generalize w2.drewN n3 = w3 at HB3 HY3 ⊢
  go_wp2_with fail
  refine (C4.out _ HB3.out).mono ?_
  rintro ev w4 ⟨hb4, x, ev2, rfl, hx⟩
  have HB4 : Hid (Below G w w4) := HB3.out.trans (hb4.mono (by have := HY3.out.size; have := HS0.out; omega))
  have HY4 : Hid (Below w0.heap.size w0 w4) := HY3.out.trans (hb4.mono HY3.out.size)
  have HX : Hid ((ev2 = .nilIface ∧ Lib.parseIntB 64 (p3 l) = .ok x) ∨ ((∃ N, ev2 = .iface 292 (.pointer (some ⟨N, 0, none⟩))) ∧ ∀ v, Lib.parseIntB 64 (p3 l) ≠ .ok v)) := hx
  clear hb4 hx
  rcases HX.out with ⟨rfl, hok⟩ | ⟨⟨N, rfl⟩, hno⟩
  · have HOK : Hid (Lib.parseIntB 64 (p3 l) = .ok x) := hok
    clear hok HX
    go_wp2_with fail
    refine (C5.out _ HB4.out).mono ?_
    rintro ev w5 ⟨hb5, z, rfl, hz⟩
    have HB5 : Hid (Below G w w5) := HB4.out.trans (hb5.mono (by have := HY4.out.size; have := HS0.out; omega))
    have HY5 : Hid (Below w0.heap.size w0 w5) := HY4.out.trans (hb5.mono HY4.out.size)
    have HPP : Hid (PP l ⟨p1 l, p2 l, x, z⟩) := ⟨q5.out, q6.out, fun v hv => by
      rw [HOK.out] at hv
      cases hv
      exact ⟨rfl, rfl, rfl, hz⟩⟩
    clear hb5 hz
    have HPV : Hid (perV ⟨p1 l, p2 l, x, z⟩ = #[.string A1, .string A2, .int .i64 x, .int .i64 z]) := hid (by unfold perV; rw [← H1.out, ← H2.out])
    have T1 : Hid (w5.there G 0 (#[.string A1, .string A2, .int .i64 x, .int .i64 z] : Array Value).size) := HTH.out w5 HY5.out
    have T2 : Hid ((Tryz.prog.info? 58).map (·.size) = some (#[.string A1, .string A2, .int .i64 x, .int .i64 z] : Array Value).size) := Tryz.size58
    have T3 : Hid ((#[.string A1, .string A2, .int .i64 x, .int .i64 z] : Array Value).all (·.oneCell') = true) := hid (all_oneCell_toArray (fun v hv => by simp only [List.mem_cons, List.not_mem_nil, or_false] at hv; rcases hv with rfl | rfl | rfl | rfl <;> rfl))
    go_wp2_with (refine wpList_store_mid rfl 58 _ _ rfl G 0 #[.string A1, .string A2, .int .i64 x, .int .i64 z] rfl rfl T1.out T2.out T3.out ?_)
    have hret := RET.out ⟨p1 l, p2 l, x, z⟩ w5 HB5.out HY5.out HPP.out (HTH.out w5 HY5.out)
    rw [HPV.out] at hret
    refine bodyPost_ret (v := .agg #[.string A1, .string A2, .int .i64 x, .int .i64 z]) (results_mid Tryz.results140 _ _ G [.string A1, .string A2, .int .i64 x, .int .i64 z] _ rfl (World.rangeAt_setCells_same w5 G 0 _ T1.out) Tryz.underlying58 rfl Tryz.size58) rfl ?_
    exact hret
  · have HPP : Hid (PP l ⟨[], [], 0, 0⟩) := ⟨(by simp), (by simp), fun v hv => absurd hv (hno v)⟩
    clear hno HX
    have T1 : Hid (w4.there G 0 (#[.string ⟨#[]⟩, .string ⟨#[]⟩, .int .i64 0, .int .i64 0] : Array Value).size) := HTH.out w4 HY4.out
    have T2 : Hid ((Tryz.prog.info? 58).map (·.size) = some (#[.string ⟨#[]⟩, .string ⟨#[]⟩, .int .i64 0, .int .i64 0] : Array Value).size) := Tryz.size58
    have T3 : Hid ((#[.string ⟨#[]⟩, .string ⟨#[]⟩, .int .i64 0, .int .i64 0] : Array Value).all (·.oneCell') = true) := hid (all_oneCell_toArray (fun v hv => by simp only [List.mem_cons, List.not_mem_nil, or_false] at hv; rcases hv with rfl | rfl | rfl | rfl <;> rfl))
    go_wp2_with (refine wpList_store_mid rfl 58 _ _ rfl G 0 #[.string ⟨#[]⟩, .string ⟨#[]⟩, .int .i64 0, .int .i64 0] rfl rfl T1.out T2.out T3.out ?_)
    have hret := RET.out ⟨[], [], 0, 0⟩ w4 HB4.out HY4.out HPP.out (HTH.out w4 HY4.out)
    refine bodyPost_ret (v := .agg #[.string ⟨#[]⟩, .string ⟨#[]⟩, .int .i64 0, .int .i64 0]) (results_mid Tryz.results140 _ _ G [.string ⟨#[]⟩, .string ⟨#[]⟩, .int .i64 0, .int .i64 0] _ rfl (World.rangeAt_setCells_same w4 G 0 _ T1.out) Tryz.underlying58 rfl Tryz.size58) rfl ?_
    exact hret
end Go.Proofs.YtbpdielmdhhdfaaGreatDoor
namespace Go.Proofs.YtbpdielmdhhdfaaGreatDoor
open Go.RowKit
set_option linter.unusedVariables false
set_option linter.unusedSimpArgs false
theorem enter54 (v : Value) (w : World) : (callFunc 54 #[v]).run Tryz.prog w = .ok (.enter 54 #[v]) w := by kernel_rfl
theorem enter56 (v : Value) (w : World) : (callFunc 56 #[v]).run Tryz.prog w = .ok (.enter 56 #[v]) w := by kernel_rfl
structure L2 (b : Nat) (x y : ByteArray) (W : World) : Prop where
  lt : b < W.heap.size
  c0 : W.cell? ⟨b, 0, none⟩ = some (.string x)
  c1 : W.cell? ⟨b, 1, none⟩ = some (.string y)
theorem L2.below {b : Nat} {x y : ByteArray} {W W' : World} (h : L2 b x y W) (hb : Below W.heap.size W W') : L2 b x y W' :=
  ⟨Nat.lt_of_lt_of_le h.lt hb.size, (hb.cell (p := ⟨b, 0, none⟩) h.lt).trans h.c0, (hb.cell (p := ⟨b, 1, none⟩) h.lt).trans h.c1⟩
theorem l2_alloc (w : World) (x y : ByteArray) : L2 w.heap.size x y (w.alloc (.cells #[.string x, .string y] 9)) := ⟨by simp, by simp, by simp⟩
def ln2 (a b : List UInt8) : List UInt8 := a ++ 32 :: (b ++ [10])
def hexB (zs : List Int) : List UInt8 := (Hx.hexOf zs).map fun n => UInt8.ofNat n.toNat
theorem hexB_len (zs : List Int) : (hexB zs).length = 2 * zs.length := by simp [hexB, Hx.hexOf_len]
theorem line2 (x y : ByteArray) (b : Nat) (w : World) (h : L2 b x y w) (hx : x.data.toList.length ≤ 100) (hy : y.data.toList.length ≤ 10000) :
    Calls Tryz.prog 54 #[.slice (some ⟨b, 0, none⟩) 2 2] w fun e w' => e = .returned (.string ⟨(ln2 x.data.toList y.data.toList).toArray⟩) ∧ Below w.heap.size w w' := by
  have hj : Lib.join (bl [x, y]) [32] = x.data.toList ++ 32 :: y.data.toList := by simp [bl, Lib.join, List.intercalate]
  have h2 := line_any b 0 2 [x, y] w (fun j v hv => by
    match j, hv with
    | 0, hv => simp at hv; subst hv; exact h.c0
    | 1, hv => simp at hv; subst hv; exact h.c1
    | j + 2, hv => simp at hv) h.lt (by simp) (by simp) (by rw [hj]; simp at hx hy ⊢; omega)
  rw [hj] at h2
  have he : x.data.toList ++ 32 :: y.data.toList ++ [10] = ln2 x.data.toList y.data.toList := by simp [ln2]
  rw [he] at h2
  exact h2
theorem perB_len (p : Per) (h : okP p) : (perB p).length ≤ 1000 := by
  obtain ⟨⟨n1, _⟩, ⟨m1, _⟩, ⟨t1, t2⟩, z1, z2⟩ := h
  have := dig_len40 p.time.toNat (by omega)
  simp [perB, zoneB, two]
  omega
end Go.Proofs.YtbpdielmdhhdfaaGreatDoor
namespace Go.Proofs.YtbpdielmdhhdfaaGreatDoor
open Go.RowKit
set_option linter.unusedVariables false
set_option linter.unusedSimpArgs false
theorem list20 : ∀ (fr : List Int), fr.length = 20 → ∃ a0 a1 a2 a3 a4 a5 a6 a7 a8 a9 a10 a11 a12 a13 a14 a15 a16 a17 a18 a19, fr = [a0, a1, a2, a3, a4, a5, a6, a7, a8, a9, a10, a11, a12, a13, a14, a15, a16, a17, a18, a19]
  | [a0, a1, a2, a3, a4, a5, a6, a7, a8, a9, a10, a11, a12, a13, a14, a15, a16, a17, a18, a19], _ => ⟨a0, a1, a2, a3, a4, a5, a6, a7, a8, a9, a10, a11, a12, a13, a14, a15, a16, a17, a18, a19, rfl⟩
theorem wpList_built {P : Program} {ops : Array Oper} {rest : List Oper} {o : Oper} {a : Act} {w : World} {Q : Exit → Act → World → Prop} (hg : o.guard = none) (t : TypeId) (parts : Array (Nat × Operand)) (ho : o.op = .build t parts) (cells : Array Value)
    (hf : P.built t (parts.map fun (i, x) => (i, a.eval x)).toList = some cells)
    (h : wpList P ops Q rest (a.put o.dst (.agg cells)) w) : wpList P ops Q (o :: rest) a w :=
  wpList_build hg t parts ho (by rw [hf]; rfl) (by rw [hf]; exact h)
theorem fld_le (s wd : List UInt8) : (fld s wd).length ≤ s.length := by
  have h1 := cut_le1 s [10]
  unfold fld Lib.trimPrefix
  split
  · rw [List.length_drop]; omega
  · exact h1
def rst (s : List UInt8) : List UInt8 := (Lib.cut s [10]).2.1
theorem rst_le (s : List UInt8) : (rst s).length ≤ s.length := cut_le2 s [10]
end Go.Proofs.YtbpdielmdhhdfaaGreatDoor
namespace Go.Proofs.YtbpdielmdhhdfaaGreatDoor
open Go.RowKit
set_option linter.unusedVariables false
set_option linter.unusedSimpArgs false
theorem heap_setCells_other (g k : Nat) (h : k ≠ g) : ∀ (vs : List Value) (o : Nat) (w : World), (w.setCells g o vs).heap[k]? = w.heap[k]?
  | [], _, _ => rfl
  | v :: vs, o, w => by
    show ((w.setCell ⟨g, o, none⟩ v).setCells g (o + 1) vs).heap[k]? = _
    rw [heap_setCells_other g k h vs]
    exact heap_setCell_other w ⟨g, o, none⟩ k v h
theorem perV_one (p : Per) : (perV p).all (·.oneCell') = true := by
  show ([.string ⟨p.name.toArray⟩, .string ⟨p.mail.toArray⟩, .int .i64 p.time, .int .i64 p.zone] : List Value).toArray.all (·.oneCell') = true
  refine all_oneCell_toArray (fun v hv => ?_)
  simp only [List.mem_cons, List.not_mem_nil, or_false] at hv
  rcases hv with rfl | rfl | rfl | rfl <;> rfl
theorem there_off {w : World} {g n : Nat} {cs : Array Value} {t : TypeId} (h : w.heap[g]? = some (.cells cs t (0, 0))) (o : Nat) (hn : o + n ≤ cs.size) : w.there g o n := fun j hj => by
  refine ⟨?_, frozen_of_row w g (o + j) _ _ h⟩
  rw [cell_of_row w g (o + j) _ _ _ h, Array.getElem?_eq_getElem (by omega)]
  rfl
end Go.Proofs.YtbpdielmdhhdfaaGreatDoor
namespace Go.Proofs.YtbpdielmdhhdfaaGreatDoor
open Go.RowKit
set_option linter.unusedVariables false
set_option linter.unusedSimpArgs false
theorem results_mid2 {P : Program} {fn : Func} {p q : Tmp} {ty : TypeId} (h : fn.results = #[.cell p ty, .tmp q]) (tmps : Array Value) (w : World) (g : Nat) (cs : List Value) (d : TypeDesc)
    (hp : tmps.getD p undef = .pointer (some ⟨g, 0, none⟩)) (hc : w.rangeAt g 0 cs) (hu : P.underlying ty = some d) (hd : d.isRow = true) (hi : (P.info? ty).map (·.size) = some cs.length) :
    (results fn tmps).run P w = .ok (.tuple #[.agg cs.toArray, tmps.getD q undef]) w := by
  have hp' : tmps[p]?.getD undef = .pointer (some ⟨g, 0, none⟩) := by simpa using hp
  simp [results, h, hp', asAddr, run_loadVar_mid w g 0 ty cs d hc hu hd hi]
def errV (n : Int) : Value := if n = 0 then .nilIface else .iface 35 (.int .i64 n)
end Go.Proofs.YtbpdielmdhhdfaaGreatDoor
namespace Go.Proofs.YtbpdielmdhhdfaaGreatDoor
open Go.RowKit
set_option linter.unusedVariables false
set_option linter.unusedSimpArgs false
theorem equal_any (a a2 : Option Addr) (cap cap2 : Nat) (zs ys : List Int) (w : World) (hS : Sl w a cap zs) (hS2 : Sl w a2 cap2 ys) :
    Calls Tryz.prog 124 #[.slice a zs.length cap, .slice a2 ys.length cap2] w fun e w' => e = .returned (.bool (Lib.bytesOf zs == Lib.bytesOf ys)) ∧ w' = w :=
  Any.bytes_Equal_all Tryz.laysb115 a a2 zs.length cap ys.length cap2 zs ys w rfl rfl hS.bytesIn hS2.bytesIn
end Go.Proofs.YtbpdielmdhhdfaaGreatDoor
namespace Go.Proofs.YtbpdielmdhhdfaaGreatDoor
open Go.RowKit
set_option linter.unusedVariables false
set_option linter.unusedSimpArgs false
def WfI (ids : List (List Int)) : Prop := ∀ x ∈ ids, x.length = 20 ∧ ∀ n ∈ x, 0 ≤ n ∧ n < 256
structure Pa (w : World) (a : Option Addr) (cap : Nat) (ids : List (List Int)) : Prop where
  capl : ids.length ≤ cap
  at_ : 0 < ids.length → ∃ b off, a = some ⟨b, off, none⟩ ∧ b < w.heap.size ∧ ∀ i, i < ids.length → w.rangeAt b (off + i * 20) (row .u8 (ids.getD i []))
  nil : a = none → cap = 0
theorem Pa.below {w w' : World} {a : Option Addr} {cap : Nat} {ids : List (List Int)} (h : Pa w a cap ids) (hb : Below w.heap.size w w') : Pa w' a cap ids :=
  ⟨h.capl, fun h0 => by
    obtain ⟨b, off, e1, e2, e3⟩ := h.at_ h0
    exact ⟨b, off, e1, Nat.lt_of_lt_of_le e2 hb.size, fun i hi j v hv => (hb.cell (p := ⟨b, off + i * 20 + j, none⟩) e2).trans (e3 i hi j v hv)⟩, h.nil⟩
theorem mapM_some {α β : Type} (f : α → Option β) : ∀ l : List α, (∀ i ∈ l, ∃ y, f i = some y) → ∃ ys, l.mapM f = some ys
  | [], _ => ⟨[], rfl⟩
  | a :: r, h => by
    obtain ⟨y, hy⟩ := h a (by simp)
    obtain ⟨ys, hys⟩ := mapM_some f r (fun i hi => h i (by simp [hi]))
    exact ⟨y :: ys, by simp [List.mapM_cons, hy, hys]⟩
theorem types333 : Tryz.prog.types.size = 333 := by kernel_rfl
theorem cellsOf5 : Tryz.prog.cellsOf 5 = 1 := by kernel_rfl
theorem cellsOf32 : Tryz.prog.cellsOf 32 = 20 := by kernel_rfl
theorem keyed32 : Maps.Keyed Tryz.prog 32 := Maps.Keyed.of_law (deep_law_laid (m := 10) (by kernel_rfl) (by decide) (of_decide_eq_true (by kernel_rfl)) (by kernel_rfl) (by kernel_rfl))
theorem key_id (x : List Int) (h : x.length = 20) (hb : ∀ n ∈ x, 0 ≤ n ∧ n < 256) : ∃ kl, keyOf Tryz.prog 32 (.agg (row .u8 x).toArray) = some kl := by
  have hlen : (row .u8 x).length = 20 := by rw [row_len]; exact h
  have hform : (Value.agg (row .u8 x).toArray).formed Tryz.prog 32 = true := by
    simp [Value.formed, Tryz.underlying32, hlen, cellsOf32]
  have hlits : ∃ ls, Tryz.prog.keyLits 334 32 (row .u8 x) = some ls := by
    obtain ⟨ys, hys⟩ := mapM_some (fun i => Tryz.prog.keyLits 333 5 (((row .u8 x).drop (i * Tryz.prog.cellsOf 5)).take (Tryz.prog.cellsOf 5))) (List.range 20) (fun i hi => by
      have hi2 : i < 20 := List.mem_range.1 hi
      refine ⟨[.int .u8 (x[i]'(by omega))], ?_⟩
      have e : ((row .u8 x).drop (i * Tryz.prog.cellsOf 5)).take (Tryz.prog.cellsOf 5) = [.int .u8 (x[i]'(by omega))] := by
        rw [cellsOf5, Nat.mul_one, List.drop_eq_getElem_cons (by omega)]
        simp [row]
      rw [e]
      have hw : (Lit.int .u8 (x[i]'(by omega))).wf = true := by
        have := hb _ (List.getElem_mem (l := x) (n := i) (by omega))
        exact WalkArith.wf_u8 ⟨this.1, by omega⟩
      unfold Program.keyLits
      rw [Tryz.underlying5]
      simp [hw])
    refine ⟨ys.flatten, ?_⟩
    unfold Program.keyLits
    rw [Tryz.underlying32]
    simp only [cellsOf32, hlen, if_true]
    rw [hys]
    rfl
  obtain ⟨ls, hls⟩ := hlits
  refine ⟨.string (keyBytes ls), ?_⟩
  unfold keyOf
  rw [Tryz.underlying32]
  simp only
  rw [if_pos (by rw [hform]; kernel_rfl), types333]
  show Option.map _ (Tryz.prog.keyLits (333 + 1) 32 (row .u8 x)) = _
  rw [hls]
  rfl
theorem row_inj {x y : List Int} (h : (Value.agg (row .u8 x).toArray) = .agg (row .u8 y).toArray) : x = y := by
  injection h with h
  have h2 : row .u8 x = row .u8 y := by simpa using congrArg Array.toList h
  unfold row at h2
  exact List.map_inj_right (fun a b e => by injection e) |>.1 h2
def DI (l : List (List Int)) (i : Nat) (D : DataW Unit) : Prop := (∀ kl, Maps.has D kl = true ↔ ∃ x ∈ l, keyOf Tryz.prog 32 (.agg (row .u8 x).toArray) = some kl) ∧ Maps.size D ≤ i ∧ (Maps.size D = i ↔ l.Nodup)
theorem di_zero : DI [] 0 (.map []) := ⟨fun kl => by simp [Maps.has], Nat.le_refl _, by simp [Maps.size]⟩
theorem DI.step {l : List (List Int)} {i : Nat} {D : DataW Unit} (h : DI l i D) (ht : Maps.Tidy D) (x : List Int) (kl : Lit) (hk : keyOf Tryz.prog 32 (.agg (row .u8 x).toArray) = some kl) (d : DataW Unit) : DI (l ++ [x]) (i + 1) (D.put kl d) := by
  obtain ⟨h1, h2, h3⟩ := h
  have hx : Maps.has D kl = true ↔ x ∈ l := by
    rw [h1]
    constructor
    · rintro ⟨y, hy, e⟩
      rw [← row_inj (keyed32.inj e hk)]
      exact hy
    · intro hx; exact ⟨x, hx, hk⟩
  refine ⟨fun kl' => ?_, ?_, ?_⟩
  · by_cases e : kl' = kl
    · subst e
      rw [Maps.has_put_same ht.isMap (keyed32.key hk)]
      simp only [true_iff]
      exact ⟨x, by simp, hk⟩
    · rw [Maps.has_put_other e, h1]
      constructor
      · rintro ⟨y, hy, e2⟩; exact ⟨y, by simp [hy], e2⟩
      · rintro ⟨y, hy, e2⟩
        rcases List.mem_append.1 hy with hy | hy
        · exact ⟨y, hy, e2⟩
        · have : y = x := by simpa using hy
          subst this
          rw [hk] at e2
          exact absurd (Option.some.inj e2).symm e
  · rw [Maps.size_put ht]
    split <;> omega
  · rw [Maps.size_put ht, List.nodup_append]
    by_cases hm : x ∈ l
    · rw [if_pos (hx.2 hm)]
      constructor
      · intro e; omega
      · rintro ⟨_, _, h⟩
        exact absurd rfl (h x hm x (by simp))
    · rw [if_neg (fun e => hm (hx.1 e))]
      constructor
      · intro e
        refine ⟨h3.1 (by omega), by simp, fun a ha b hb e2 => ?_⟩
        have : b = x := by simpa using hb
        rw [e2, this] at ha
        exact hm ha
      · rintro ⟨h, _, _⟩
        have := h3.2 h
        omega
theorem zero32 (w : World) : (zeroValue 32).run Tryz.prog w = .ok (.agg (row .u8 z20).toArray) w := by kernel_rfl
theorem take_snocI (ids : List (List Int)) (i : Nat) (h : i < ids.length) : ids.take (i + 1) = ids.take i ++ [ids.getD i []] := by
  rw [List.take_add_one, List.getD_eq_getElem?_getD, List.getElem?_eq_getElem h]
  rfl
theorem run_makeMap_some (n : Nat) (hn : n ≤ 1000) (w : World) : (Instr.makeMap 218 (some (.int .i64 (n : Int)))).run Tryz.prog w = .ok (.map (some w.heap.size)) (w.alloc (.map #[] 0)) := by
  have h : ¬ (n : Int) < 0 := by omega
  unfold Instr.makeMap
  go_simp
set_option maxRecDepth 20000 in
set_option maxHeartbeats 1000000 in
theorem differ_any (a : Option Addr) (cap : Nat) (ids : List (List Int)) (hwf : WfI ids) (hn : ids.length ≤ 1000) (w : World) (hP : Pa w a cap ids) :
    Calls Tryz.prog 99 #[.slice a ids.length cap] w fun e w' => BIs ids.Nodup e ∧ Below w.heap.size w w' := by
  obtain ⟨n, HN⟩ : ∃ n, Hid (ids.length = n) := ⟨_, rfl⟩
  obtain ⟨G, HG⟩ : ∃ G, Hid (w.heap.size = G) := ⟨_, rfl⟩
  have hnn : n ≤ 1000 := by rw [← HN.out]; exact hn
  obtain ⟨zr, HZ⟩ : ∃ zr : Array Value, Hid (zr = (row .u8 z20).toArray) := ⟨_, rfl⟩
  have hz32 : ∀ w : World, (zeroValue 32).run Tryz.prog w = .ok (.agg zr) w := fun w => by rw [HZ.out]; exact zero32 w
  have HPA : Hid (∀ W, Below G w W → Pa W a cap ids) := fun W hW => hP.below (by rw [HG.out]; exact hW)
  have HPL : Hid (0 < n → ∃ b off, a = some ⟨b, off, none⟩ ∧ b < G) := fun h0 => by
    obtain ⟨b, off, e1, e2, _⟩ := hP.at_ (by rw [HN.out]; exact h0)
    exact ⟨b, off, e1, by rw [← HG.out]; exact e2⟩
  obtain ⟨w1, HW1⟩ : ∃ w1, Hid (w.alloc (.map #[] 0) = w1) := ⟨_, rfl⟩
  have OW1 : Hid (w1.ownsMap (H := Unit) Tryz.prog 32 (plainElem Tryz.prog 3) G 0 (.map [])) := hid (by rw [← HW1.out, ← HG.out]; exact World.ownsMap_made _ _ _ _)
  have HB1 : Hid (Below G w w1) := hid (by rw [← HW1.out, ← HG.out]; exact (Below.refl _ w).alloc (Nat.le_refl _) _)
  have hmm : (Instr.makeMap 218 (some (.int .i64 (n : Int)))).run Tryz.prog w = .ok (.map (some w.heap.size)) (w.alloc (.map #[] 0)) := run_makeMap_some n hnn w
  rw [HN.out]
  clear hP
  go_enter Tryz.func99, Tryz.ntmps99
  go_wp2_with fail
  rw [HG.out, HW1.out]
  go_loopg [11] n (fun g v wr => ∃ (i : Nat) (D : DataW Unit), i ≤ n ∧ v = .int .i64 i ∧ g = n - i ∧ Hid (wr.ownsMap (H := Unit) Tryz.prog 32 (plainElem Tryz.prog 3) G i D) ∧ Hid (Below G w wr) ∧ Hid (DI (ids.take i) i D))
  case atStart => exact ⟨0, _, Nat.zero_le _, rfl, rfl, OW1, HB1, hid (by rw [List.take_zero]; exact di_zero)⟩
  case round =>
    obtain ⟨i, D, hi, rfl, hk, OW, HB, HD⟩ := hrel
    by_cases hlt : i < n
    · have hlti : (i : Int) < (n : Int) := by omega
      obtain ⟨b, off, hae, hbG⟩ := HPL.out (by omega)
      subst hae
      obtain ⟨b', off', e1, e2, e3⟩ := (HPA.out wr HB.out).at_ (by rw [HN.out]; omega)
      cases e1
      obtain ⟨x, HX⟩ : ∃ x, Hid (ids.getD i [] = x) := ⟨_, rfl⟩
      have hxm : x ∈ ids := by
        rw [← HX.out, List.getD_eq_getElem?_getD, List.getElem?_eq_getElem (by rw [HN.out]; exact hlt)]
        exact List.getElem_mem _
      obtain ⟨hx20, hxb⟩ := hwf x hxm
      obtain ⟨kl, hkl⟩ := key_id x hx20 hxb
      obtain ⟨RF, HRF⟩ : ∃ R : List Value, Hid (row .u8 x = R) := ⟨_, rfl⟩
      have HKL : Hid (keyOf Tryz.prog 32 (.agg RF.toArray) = some kl) := hid (by rw [← HRF.out]; exact hkl)
      have HKX : Hid (keyOf Tryz.prog 32 (.agg (row .u8 x).toArray) = some kl) := hkl
      have RR : Hid (wr.rangeAt b (off + i * 20) RF) := hid (by rw [← HRF.out, ← HX.out]; exact e3 i (by rw [HN.out]; exact hlt))
      have HFN : Hid (RF.length = 20) := hid (by rw [← HRF.out, row_len]; exact hx20)
      have hi32 : (Tryz.prog.info? 32).map (·.size) = some RF.length := by rw [HFN.out]; exact Tryz.size32
      have I32 : Hid ((Tryz.prog.info? 32).map (·.size) = some RF.toArray.size) := hid (by rw [List.size_toArray]; exact hi32)
      have E32 : Hid (zr.size = RF.toArray.size) := hid (by rw [HZ.out, List.size_toArray, List.size_toArray, HFN.out]; rfl)
      have O32 : Hid (RF.toArray.all (·.oneCell') = true) := hid (by rw [← HRF.out]; exact all_oneCell_toArray (row_one _ _))
      have D0 : Hid ((wr.alloc (.cells zr 32)).heap[wr.heap.size]? = some (.cells zr 32 (0, 0))) := heap_alloc_new wr _
      obtain ⟨w2, HW2⟩ : ∃ w2, Hid ((wr.alloc (.cells zr 32)).setRow wr.heap.size RF.toArray = w2) := ⟨_, rfl⟩
      obtain ⟨H, HH⟩ : ∃ H, Hid (wr.heap.size = H) := ⟨_, rfl⟩
      have hb2 : Below wr.heap.size wr w2 := by rw [← HW2.out]; exact below_setRow ((Below.refl _ wr).alloc (Nat.le_refl _) _) (Nat.le_refl _) _
      have R2 : Hid (w2.rangeAt H 0 RF) := hid (by rw [← HW2.out, ← HH.out]; exact range_row (setRow_heap _ _ _ RF.toArray _ _ D0.out))
      have OW2 : Hid (w2.ownsMap (H := Unit) Tryz.prog 32 (plainElem Tryz.prog 3) G i D) := OW.out.kept (row := none) (grown_of_below hb2 _) (by simp)
      have HB2 : Hid (Below G w w2) := HB.out.trans (hb2.mono (Nat.le_of_lt OW.out.lt))
      have HWF : Hid ((Lit.int .i64 (i : Int)).wf = true) := hid (WalkArith.wf_i64 (by omega))
      clear hb2 hkl hxm hx20 hxb e3 e2
      go_wp2_with (first
        | refine wpList_load_mid rfl 32 _ rfl b (off + i * 20) rfl RF _ RR.out Tryz.underlying32 rfl hi32 ?_
        | (refine wpList_store_row rfl 32 _ _ rfl wr.heap.size RF.toArray rfl rfl 32 zr D0.out I32.out E32.out O32.out ?_; rw [HW2.out, HH.out])
        | refine wpList_load_mid rfl 32 _ rfl H 0 rfl RF _ R2.out Tryz.underlying32 rfl hi32 ?_
        | (at_mapUpdate; refine wpList_mapUpdate_own _ rfl _ _ _ 218 rfl 32 3 keyed32 Tryz.underlying218 _ G i D rfl OW2.out (by unfold maxLen; omega) _ _ kl rfl rfl HKL.out _ [] (plainElem_int Tryz.underlying3 HWF.out) ?_; intro w3 hown3 hgrow3; have OW3 : Hid _ := hown3; have HB3 : Hid (Below G w w3) := HB2.out.grown hgrow3 (Nat.le_of_lt OW2.out.lt) (fun j hj => by cases hj; exact Nat.le_refl _); clear hown3 hgrow3))
      go_roundg (n - (i + 1))
      case measure => omega
      case rel =>
        refine ⟨i + 1, _, by omega, by go_num, rfl, OW3, HB3, hid ?_⟩
        rw [take_snocI ids i (by rw [HN.out]; exact hlt), HX.out]
        exact HD.out.step (OW2.out.tidy keyed32) x kl HKX.out _
    · have hlti : ¬ (i : Int) < (n : Int) := by omega
      have hin : i = n := by omega
      have HDN : Hid (Maps.size D = n ↔ ids.Nodup) := hid (by
        have := HD.out.2.2
        rw [hin, List.take_of_length_le (by rw [HN.out]; omega)] at this
        exact this)
      obtain ⟨sz, HSZ⟩ : ∃ sz, Maps.size D = sz := ⟨_, rfl⟩
      obtain ⟨eq, HEQ⟩ : ∃ b : Bool, ((sz : Int) == (n : Int)) = b := ⟨_, rfl⟩
      have FIN : Hid (BIs ids.Nodup (.returned (.bool eq))) := ⟨eq, rfl, by
        rw [← HDN.out, HSZ, ← HEQ]
        simp only [beq_iff_eq]
        omega⟩
      go_wp2_with (first
        | (at_len; refine wpList_len_own _ rfl _ 218 rfl 32 3 Tryz.underlying218 _ G i D rfl OW.out ?_; rw [HSZ]))
      go_ret
      exact ⟨FIN.out, by rw [HG.out]; exact HB.out⟩
end Go.Proofs.YtbpdielmdhhdfaaGreatDoor
