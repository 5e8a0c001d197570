import Derived.Test.YtijeogdnjeamaaaGreatDoorQo17
import Derived.Test.YtijeogdnjeamaaaGreatDoorQo13
import Derived.Test.YtijeogdnjeamaaaGreatDoorQo15
namespace Go.Proofs.YtijeogdnjeamaaaGreatDoor
open Go.RowKit
set_option linter.unusedVariables false
set_option linter.unusedSimpArgs false
def ResO (s : Str) (h : Str) (l : List Rf) (ev : Int) (ie : Value) : Prop :=
  (Ook s h l ∧ ev = 0 ∧ ie = .nilIface) ∨ ((¬ ∃ h l, Ook s h l) ∧ (∃ ls, okL ls ∧ s = pktL ls) ∧ h = [] ∧ l = [] ∧ ev = 111 ∧ ie = .iface 37 (.int .i64 111)) ∨ ((¬ ∃ ls, okL ls ∧ s = pktL ls) ∧ h = [] ∧ l = [] ∧ ev = 110 ∧ ie = .iface 37 (.int .i64 110))
theorem ResO.cnt {s h : Str} {l : List Rf} {ev : Int} {ie : Value} (k : ResO s h l ev ie) : l.length ≤ 500 ∧ IdR l := by
  rcases k with ⟨k, _⟩ | ⟨_, _, rfl, rfl, _⟩ | ⟨_, rfl, rfl, _⟩
  · exact ⟨k.ok.2.2, k.ids⟩
  · exact ⟨by simp, fun x hx => (by cases hx)⟩
  · exact ⟨by simp, fun x hx => (by cases hx)⟩
theorem PostRBo.res {s : Str} {w w' : World} {e : Ending} (k : PostRBo s w w.heap.size e w') : ∃ h l ev ie a c, ResO s h l ev ie ∧ e = .returned (.tuple #[.agg #[.string ⟨h.toArray⟩, .slice a l.length c], ie]) ∧ BRf w w' w.heap.size (.slice a l.length c) l := by
  obtain ⟨hb, ⟨h, l, a, c, h1, rfl, hv⟩ | ⟨h1, h2, rfl⟩ | ⟨h1, rfl⟩⟩ := k
  · exact ⟨h, l, 0, .nilIface, a, c, .inl ⟨h1, rfl, rfl⟩, rfl, hv⟩
  · exact ⟨[], [], 111, _, none, 0, .inr (.inl ⟨h1, h2, rfl, rfl, rfl, rfl⟩), rfl, ⟨hb, ⟨rfl, .inl ⟨rfl, rfl⟩⟩, hb.size⟩⟩
  · exact ⟨[], [], 110, _, none, 0, .inr (.inr ⟨h1, rfl, rfl, rfl, rfl⟩), rfl, ⟨hb, ⟨rfl, .inl ⟨rfl, rfl⟩⟩, hb.size⟩⟩
theorem prd_nil (w : World) : PRd w none 0 [] := ⟨Nat.le_refl _, fun h => by simp at h, fun _ => rfl⟩
theorem PostRDo.res {s h : Str} {w w' : World} {e : Ending} {l : List Rf} {ev : Int} {ie : Value} (hr : ResO s h l ev ie) (k : PostRDo s w w.heap.size e w') : Below w.heap.size w w' ∧ ∃ a c, e = .returned (.tuple #[.agg #[.string ⟨h.toArray⟩, .slice a l.length c], .int .i64 ev]) ∧ PRd w' a c l := by
  obtain ⟨hb, ⟨h2, l2, a, c, h1, rfl, hv⟩ | ⟨h1, h2, rfl⟩ | ⟨h1, rfl⟩⟩ := k
  · rcases hr with ⟨hr, rfl, rfl⟩ | ⟨hr, _⟩ | ⟨hr, _⟩
    · obtain ⟨rfl, rfl⟩ := ook_one hr h1
      exact ⟨hb, a, c, rfl, hv⟩
    · exact absurd ⟨h2, l2, h1⟩ hr
    · exact absurd (ook_ls h1) hr
  · rcases hr with ⟨hr, rfl, rfl⟩ | ⟨hr, _, rfl, rfl, rfl, rfl⟩ | ⟨hr, _⟩
    · exact absurd ⟨h, l, hr⟩ h1
    · exact ⟨hb, none, 0, rfl, prd_nil w'⟩
    · exact absurd h2 hr
  · rcases hr with ⟨hr, rfl, rfl⟩ | ⟨hr, h2, _⟩ | ⟨hr, rfl, rfl, rfl, rfl⟩
    · exact absurd (ook_ls hr) h1
    · exact absurd h2 h1
    · exact ⟨hb, none, 0, rfl, prd_nil w'⟩
theorem ResO.tell {s h : Str} {l : List Rf} {ev : Int} {ie : Value} (k : ResO s h l ev ie) (W : World) (hg : Hg W) : Calls Tryz.prog 11 #[ie] W fun e w' => e = .returned (.int .i64 ev) ∧ Below W.heap.size W w' := by
  rcases k with ⟨_, rfl, rfl⟩ | ⟨_, _, _, _, rfl, rfl⟩ | ⟨_, _, _, rfl, rfl⟩
  · exact tell_nil W
  · exact tell_errno 111 W hg
  · exact tell_errno 110 W hg
structure Q9 (p q b o b2 o2 : Nat) (u v : Value) (X : ByteArray) (O : List Value) (W : World) : Prop where
  c0 : W.cell? ⟨p, 1, none⟩ = some u
  c1 : W.cell? ⟨q, 1, none⟩ = some v
  c2 : W.cell? ⟨b, o, none⟩ = some (.string X)
  r3 : W.rangeAt b (o + 1) O
  c4 : W.cell? ⟨b2, o2, none⟩ = some (.string X)
  r5 : W.rangeAt b2 (o2 + 1) O
set_option maxRecDepth 20000 in
set_option maxHeartbeats 8000000 in
theorem offersL_any {w : World} (a : Option Addr) (cap : Nat) (s : Str) (hP : PB w a cap s) (hl : s.length ≤ 8000) (hg : Hg w) (he : Ers w) (hd : Db w) (hm : Nm.Mx w) (hsz : 1 < w.heap.size) : Calls Tryz.prog 12 #[.slice a s.length cap] w fun e w' => e = .returned (.bool true) ∧ Below w.heap.size w w' := by
  obtain ⟨n, HN⟩ : ∃ n, Hid (s.length = n) := ⟨_, rfl⟩
  obtain ⟨G, HG⟩ : ∃ g, Hid (w.heap.size = g) := ⟨_, rfl⟩
  have hG0 : 0 < G := by rw [← HG.out]; exact hg.lt
  have HPW : Hid (∀ W, Below G w W → PB W a cap s) := hid (fun W hW => hP.below (by rw [HG.out]; exact hW))
  have HGW : Hid (∀ W, Below G w W → Hg W) := hid (fun W hW => hg.below hW hG0)
  have HEW : Hid (∀ W, Below G w W → Ers W ∧ Db W ∧ Nm.Mx W) := hid (fun W hW => by
    have hbw : Below w.heap.size w W := by rw [HG.out]; exact hW
    exact ⟨he.below hbw, hd.b hW HG.out.symm, Mx_kept hm (grown_of_below hbw none) (by simp)⟩)
  have HSB : Hid (0 < s.length → ∃ b off, a = some ⟨b, off, none⟩ ∧ b < G) := hid (fun h0 => by
    obtain ⟨b, off, e1, e2, _⟩ := hP.at_ h0
    exact ⟨b, off, e1, by rw [← HG.out]; exact e2⟩)
  have HL := hid hl
  have C17 : Hid (Calls Tryz.prog 17 #[.slice a n cap] w fun e w' => e = .returned (.slice (some ⟨G, 0, none⟩) n (n + 2)) ∧ Below G w w' ∧ Room w' G (nums s)) := hid (by
    have := roomy_any a cap (nums s) w (by rw [nums_len]; omega) (fun h0 => by
      rw [nums_len] at h0
      obtain ⟨b, off, e1, e2, _⟩ := hP.at_ h0
      subst e1
      exact ⟨b, off, rfl, e2, pb_at hP⟩)
    rw [nums_len, HN.out, HG.out] at this
    exact this)
  have C19 : Hid (∀ W, Below G w W → Room W G (nums s) → Calls Tryz.prog 19 #[.slice (some ⟨G, 0, none⟩) n (n + 2), .slice a n cap] W fun e w' => e = .returned (.bool true) ∧ W.grownBy w' (some G)) := hid (fun W hW hr => by
    have := still_keep a cap G (nums s) W (by rw [nums_len]; omega) (nums_b s) hr (fun h0 => by
      rw [nums_len] at h0
      obtain ⟨b, off, e1, e2⟩ := HSB.out h0
      subst e1
      exact ⟨b, off, rfl, e2, pb_at (HPW.out W hW)⟩)
    rw [nums_len, HN.out] at this
    exact this)
  have HGS : Hid (∀ X, Below G w X → G ≤ X.heap.size) := hid (fun X hX => by have := hX.size; have := HG.out; omega)
  have HG1 : Hid (1 < G) := hid (by rw [← HG.out]; exact hsz)
  have C36 : Hid (∀ W, Below G w W → Room W G (nums s) → Calls Tryz.prog 36 #[.slice (some ⟨G, 0, none⟩) n (n + 2)] W (PostRBo s W W.heap.size)) := hid (fun W hW hr => by
    obtain ⟨h1, h2, h3⟩ := HEW.out W hW
    have := readOfferB_any (some ⟨G, 0, none⟩) (s.length + 2) s hr.pb HL.out h1 h2 h3 (by have := HGS.out W hW; have := HG1.out; omega)
    rw [HN.out] at this
    exact this)
  have C37 : Hid (∀ W, Below G w W → Calls Tryz.prog 37 #[.slice a n cap] W (PostRDo s W W.heap.size)) := hid (fun W hW => by
    have := refReadOffer_any a cap s (HPW.out W hW) HL.out
    rw [HN.out] at this
    exact this)
  rw [HN.out, HG.out]
  clear hP hl hg he hd hm hsz
  go_enter Tryz.func12, Tryz.ntmps12
  go_wp2_with fail
  refine C17.out.mono ?_
  rintro e w1 ⟨rfl, hb1, hr1⟩
  have HB1 := hid hb1
  have HR1 := hid hr1
  have HGL1 : Hid (G < w1.heap.size) := hid hr1.lt
  clear hb1 hr1
  go_wp2_with fail
  refine (C36.out w1 HB1.out HR1.out).mono ?_
  intro e w2 h36
  obtain ⟨hh, l, ev, ie, a1, c1, hres, rfl, hv1⟩ := h36.res
  have hb2 : Below w1.heap.size w1 w2 := h36.1
  obtain ⟨k, HK⟩ : ∃ n, Hid (l.length = n) := ⟨_, rfl⟩
  obtain ⟨X, HX⟩ : ∃ X : ByteArray, Hid (⟨hh.toArray⟩ = X) := ⟨_, hid rfl⟩
  have HK5 : Hid (k ≤ 500) := hid (by rw [← HK.out]; exact hres.cnt.1)
  have HIC : Hid (IdR l) := hid hres.cnt.2
  have HRS := hid hres
  rw [HK.out] at hv1
  rw [HK.out, HX.out]
  obtain ⟨p4, HP4⟩ : ∃ p, Hid (w2.heap.size = p) := ⟨_, rfl⟩
  obtain ⟨w20, HW20⟩ : ∃ u, Hid (w2.alloc (.cells #[.string ⟨#[]⟩, .slice none 0 0] 24) = u) := ⟨_, rfl⟩
  have hx20 : Bx2 w20 p4 24 (.string ⟨#[]⟩) (.slice none 0 0) := by rw [← HW20.out, ← HP4.out]; exact Bx2.new _ _ _ _
  have hb20 : Below w2.heap.size w2 w20 := by rw [← HW20.out]; exact (Below.refl _ w2).alloc (Nat.le_refl _) _
  have hs20 : w20.heap.size = p4 + 1 := by rw [← HW20.out, ← HP4.out]; exact size_alloc _ _
  obtain ⟨w21, y1, y2, y3, y4⟩ := hx20.put (.string X) (.slice a1 k c1)
  have HX4 : Hid (Bx2 w21 p4 24 (.string X) (.slice a1 k c1)) := hid (by rw [← y1]; exact hx20.put2 _ _)
  have hb221 : Below w2.heap.size w2 w21 := hb20.grown y3 (by rw [hs20, HP4.out]; omega) (fun k e => by cases e; rw [HP4.out]; exact Nat.le_refl _)
  have hb121 : Below w1.heap.size w1 w21 := hb2.trans (hb221.mono hb2.size)
  have HB2 : Hid (Below G w w21) := hid (HB1.out.trans (hb121.mono (by have := HGL1.out; omega)))
  have HR2 : Hid (Room w21 G (nums s)) := hid (HR1.out.below hb121)
  have HO2 : Hid (w21.ownsRow w1.heap.size 70 21 (.slice a1 k c1) l.length (l.flatMap encR)) := hid (own_keep hv1.own (grown_of_below hb221 none) (fun j e => by cases e))
  have HPG : Hid (G < p4) := hid (by rw [← HP4.out]; have := hb2.size; have := HGL1.out; omega)
  have Y1 := hid y1
  have Y2 := hid y2
  have U2 : Hid ((Tryz.prog.info? 24).map (·.size) = some (#[.string X, .slice a1 k c1] : Array Value).size) := hid size24
  have U3 : Hid ((#[.string X, .slice a1 k c1] : Array Value).all (·.oneCell') = true) := hid (by simp [Value.oneCell'])
  have al2 : w2.alloc (.cells #[.string ⟨#[]⟩, .slice none 0 0] 24) = w20 := HW20.out
  have hs2 : w2.heap.size = p4 := HP4.out
  clear h36 hv1 hres hb2 hx20 hb20 hs20 y1 y2 y3 y4 hb221 hb121
  go_wp2_with (first
    | (refine wpList_store_mid rfl 24 _ _ rfl p4 0 #[.string X, .slice a1 k c1] rfl rfl Y2.out U2.out U3.out ?_; rw [Y1.out])
    | fail)
  clear al2 hs2
  refine (C19.out w21 HB2.out HR2.out).mono ?_
  rintro e w3 ⟨rfl, hg3⟩
  have HB3 : Hid (Below G w w3) := hid (HB2.out.grown hg3 (HGS.out w21 HB2.out) (fun q hq => by cases hq; exact Nat.le_refl _))
  have HG3 := hid hg3
  clear hg3
  go_wp2_with fail
  refine (C37.out w3 HB3.out).mono ?_
  intro e w4 h37
  obtain ⟨hb4, a3, c3, rfl, hp3⟩ := PostRDo.res HRS.out h37
  have HB4 : Hid (Below G w w4) := hid (HB3.out.trans (hb4.mono (HGS.out w3 HB3.out)))
  rw [HK.out, HX.out]
  obtain ⟨p7, HP7⟩ : ∃ p, Hid (w4.heap.size = p) := ⟨_, rfl⟩
  obtain ⟨w40, HW40⟩ : ∃ u, Hid (w4.alloc (.cells #[.string ⟨#[]⟩, .slice none 0 0] 32) = u) := ⟨_, rfl⟩
  have hx40 : Bx2 w40 p7 32 (.string ⟨#[]⟩) (.slice none 0 0) := by rw [← HW40.out, ← HP7.out]; exact Bx2.new _ _ _ _
  have hb40 : Below w4.heap.size w4 w40 := by rw [← HW40.out]; exact (Below.refl _ w4).alloc (Nat.le_refl _) _
  have hs40 : w40.heap.size = p7 + 1 := by rw [← HW40.out, ← HP7.out]; exact size_alloc _ _
  obtain ⟨w5, z1, z2, z3, z4⟩ := hx40.put (.string X) (.slice a3 k c3)
  have hx7 : Bx2 w5 p7 32 (.string X) (.slice a3 k c3) := by rw [← z1]; exact hx40.put2 _ _
  have hb45 : Below w4.heap.size w4 w5 := hb40.grown z3 (by rw [hs40, HP7.out]; omega) (fun k e => by cases e; rw [HP7.out]; exact Nat.le_refl _)
  have HB5 : Hid (Below G w w5) := hid (HB4.out.trans (hb45.mono (HGS.out w4 HB4.out)))
  have hx4 : Bx2 w5 p4 24 (.string X) (.slice a1 k c1) := ((HX4.out.kept HG3.out (fun e => by cases e; have := HPG.out; omega)).below hb4).below hb45
  have hk1 := own_keep (own_keep (own_keep HO2.out HG3.out (fun j e => by cases e; exact HGL1.out)) (grown_of_below hb4 none) (fun j e => by cases e)) (grown_of_below hb45 none) (fun j e => by cases e)
  have hbx : BRf w5 w5 (min w1.heap.size w5.heap.size) (.slice a1 k c1) l := ⟨Below.refl _ _, base_mono hk1 (Nat.min_le_left _ _), Nat.min_le_right _ _⟩
  have hp1 : PRf w5 a1 c1 l := by
    obtain ⟨ax, cx, e1, hp, _⟩ := hbx.px (d := rf0) (encR_ln HIC.out)
    rw [HK.out] at e1
    injection e1 with e2 e3 e4
    rw [e2, e4]
    exact hp
  have hp35 : PRd w5 a3 c3 l := hp3.below hb45
  have HPP : Hid (∀ W, Below w5.heap.size w5 W → PRf W a1 c1 l ∧ PRd W a3 c3 l ∧ Bx2 W p4 24 (.string X) (.slice a1 k c1) ∧ Bx2 W p7 32 (.string X) (.slice a3 k c3)) := hid (fun W hW => ⟨hp1.below hW, hp35.below hW, hx4.below hW, hx7.below hW⟩)
  have HA1 : Hid (0 < k → ∃ b off, a1 = some ⟨b, off, none⟩) := hid (fun h => by
    obtain ⟨b, off, e1, _⟩ := hp1.at_ (by rw [HK.out]; exact h)
    exact ⟨b, off, e1⟩)
  have HA3 : Hid (0 < k → ∃ b off, a3 = some ⟨b, off, none⟩) := hid (fun h => by
    obtain ⟨b, off, e1, _⟩ := hp35.at_ (by rw [HK.out]; exact h)
    exact ⟨b, off, e1⟩)
  have Z1 := hid z1
  have Z2 := hid z2
  have V2 : Hid ((Tryz.prog.info? 32).map (·.size) = some (#[.string X, .slice a3 k c3] : Array Value).size) := hid size32
  have V3 : Hid ((#[.string X, .slice a3 k c3] : Array Value).all (·.oneCell') = true) := hid (by simp [Value.oneCell'])
  have al4 : w4.alloc (.cells #[.string ⟨#[]⟩, .slice none 0 0] 32) = w40 := HW40.out
  have hs4 : w4.heap.size = p7 := HP7.out
  have DT : Hid (Calls Tryz.prog 11 #[ie] w5 fun e w' => e = .returned (.int .i64 ev) ∧ Below w5.heap.size w5 w') := hid (HRS.out.tell w5 (HGW.out w5 HB5.out))
  clear hb4 h37 hk1 hbx hp1 hp3 hp35 hx40 hb40 hs40 z1 z2 z3 z4 hx7 hb45 hx4
  go_wp2_with (first
    | (refine wpList_store_mid rfl 32 _ _ rfl p7 0 #[.string X, .slice a3 k c3] rfl rfl Z2.out V2.out V3.out ?_; rw [Z1.out])
    | fail)
  clear al4 hs4
  refine DT.out.mono ?_
  rintro e w6 ⟨rfl, hb6⟩
  have S0 : Hid (Below w5.heap.size w5 w6) := hid hb6
  obtain ⟨_, _, q4, q7⟩ := HPP.out w6 hb6
  have k40 := q4.c0
  have k41 := q4.c1
  have k70 := q7.c0
  have k71 := q7.c1
  have hee : (ev != ev) = false := by simp
  have hXX : (X.toList != X.toList) = false := by simp
  clear hb6 q4 q7
  go_wp2_with fail
  clear k40 k41 k70 k71
  go_loopg [9] k (fun gg kv wr => ∃ i : Nat, i ≤ k ∧ gg = k - i ∧ kv = .int .i64 i ∧ Hid (Below w5.heap.size w5 wr))
  case atStart => exact ⟨0, Nat.zero_le _, rfl, rfl, S0⟩
  case round =>
    obtain ⟨i, hi, hkk, rfl, HS⟩ := hrel
    have k41 := (HPP.out wr HS.out).2.2.1.c1
    by_cases hlt : i < k
    · have hlti : (i : Int) < (k : Int) := by omega
      have hk5 := HK5.out
      obtain ⟨b1, o1, e1⟩ := HA1.out (by omega)
      obtain ⟨b3, o3, e3⟩ := HA3.out (by omega)
      have hil : i < l.length := by rw [HK.out]; exact hlt
      obtain ⟨x, HXX⟩ : ∃ x, Hid (l.getD i rf0 = x) := ⟨_, rfl⟩
      have hxw := HIC.out x (by rw [← HXX.out]; exact getD_mem l i _ hil)
      obtain ⟨Y, HYB⟩ : ∃ X : ByteArray, Hid (⟨x.1.toArray⟩ = X) := ⟨_, hid rfl⟩
      obtain ⟨O, HO⟩ : ∃ S : List Value, Hid (row .u8 x.2 = S) := ⟨_, rfl⟩
      have hiO : (Tryz.prog.info? 68).map (·.size) = some O.length := by rw [← HO.out, row_len, hxw.1]; exact size68
      have hiO7 : (Tryz.prog.info? 67).map (·.size) = some O.length := by rw [← HO.out, row_len, hxw.1]; exact size67
      have HSd : Hid (Below w5.heap.size w5 wr.drew) := hid (HS.out.drew)
      have hSd : Q9 p4 p7 b1 (o1 + i * 21) b3 (o3 + i * 22) (.slice a1 k c1) (.slice a3 k c3) Y O wr.drew := by
        obtain ⟨q1, q3, q4, q7⟩ := HPP.out _ HSd.out
        obtain ⟨h1, h2⟩ := prf_at q1 e1 i hil _ HXX.out Y HYB.out O HO.out
        obtain ⟨h3, h4⟩ := prd_at q3 e3 i hil _ HXX.out Y HYB.out O HO.out
        exact ⟨q4.c1, q7.c1, h1, h2, h3, h4⟩
      have heqO : ∀ W : World, (Op.equalIn 10000 68 (.agg O.toArray) (.agg O.toArray)).run Tryz.prog W = .ok true W := fun W => by
        have := eq68 x.2 x.2 hxw.1 hxw.1 W
        rw [decide_eq_true rfl] at this
        rw [← HO.out]
        exact this
      have HQN := hid hSd
      subst e1 e3
      have hYY : (Y.toList != Y.toList) = false := by simp
      clear hSd hil hxw
      go_wp2_with fail
      clear k41
      refine wp_region_held_drew (S := Q9 p4 p7 b1 (o1 + i * 21) b3 (o3 + i * 22) (.slice (some ⟨b1, o1, none⟩) k c1) (.slice (some ⟨b3, o3, none⟩) k c3) Y O) (by kernel_rfl) HQN.out (fun hHeld => ?_)
      generalize wr.drew = u0 at hHeld HSd HQN ⊢
      refine takeL (i := 0) (v := ?_) rfl (by kernel_rfl) (by kernel_rfl) (by kernel_rfl) (fun _ _ _ h => h) (Or.inl ⟨by rfl, ?_⟩) hHeld ?_
      rotate_left
      · rintro w' ⟨c0, c1, c2, r3, c4, r5⟩; go_simp; rfl
      try simp only [Act.put, List.setIfInBounds_toArray, List.set_cons_zero, List.set_cons_succ]
      refine takeL (i := 1) (v := ?_) rfl (by kernel_rfl) (by kernel_rfl) (by kernel_rfl) (fun _ _ _ h => h) (Or.inl ⟨by rfl, ?_⟩) hHeld ?_
      rotate_left
      · rintro w' ⟨c0, c1, c2, r3, c4, r5⟩; go_simp; rfl
      try simp only [Act.put, List.setIfInBounds_toArray, List.set_cons_zero, List.set_cons_succ]
      refine takeL (i := 2) (v := ?_) rfl (by kernel_rfl) (by kernel_rfl) (by kernel_rfl) (fun _ _ _ h => h) (Or.inl ⟨by rfl, ?_⟩) hHeld ?_
      rotate_left
      · rintro w' ⟨c0, c1, c2, r3, c4, r5⟩; go_simp; rfl
      try simp only [Act.put, List.setIfInBounds_toArray, List.set_cons_zero, List.set_cons_succ]
      refine takeL (i := 3) (v := ?_) rfl (by kernel_rfl) (by kernel_rfl) (by kernel_rfl) (fun _ _ _ h => h) (Or.inl ⟨by rfl, ?_⟩) hHeld ?_
      rotate_left
      · rintro w' ⟨c0, c1, c2, r3, c4, r5⟩; go_simp; rfl
      try simp only [Act.put, List.setIfInBounds_toArray, List.set_cons_zero, List.set_cons_succ]
      refine takeL (i := 4) (v := ?_) rfl (by kernel_rfl) (by kernel_rfl) (by kernel_rfl) (fun _ _ _ h => h) (Or.inl ⟨by rfl, ?_⟩) hHeld ?_
      rotate_left
      · rintro w' ⟨c0, c1, c2, r3, c4, r5⟩; go_simp; rfl
      try simp only [Act.put, List.setIfInBounds_toArray, List.set_cons_zero, List.set_cons_succ]
      refine takeL (i := 5) (v := ?_) rfl (by kernel_rfl) (by kernel_rfl) (by kernel_rfl) (fun _ _ _ h => h) (Or.inl ⟨by rfl, ?_⟩) hHeld ?_
      rotate_left
      · rintro w' ⟨c0, c1, c2, r3, c4, r5⟩; go_simp; rfl
      try simp only [Act.put, List.setIfInBounds_toArray, List.set_cons_zero, List.set_cons_succ]
      refine takeL (i := 6) (v := ?_) rfl (by kernel_rfl) (by kernel_rfl) (by kernel_rfl) (fun _ _ _ h => h) (Or.inl ⟨by rfl, ?_⟩) hHeld ?_
      rotate_left
      · rintro w' ⟨c0, c1, c2, r3, c4, r5⟩; go_simp; rfl
      try simp only [Act.put, List.setIfInBounds_toArray, List.set_cons_zero, List.set_cons_succ]
      refine takeL (i := 7) (v := ?_) rfl (by kernel_rfl) (by kernel_rfl) (by kernel_rfl) (fun _ _ _ h => h) (Or.inl ⟨by rfl, ?_⟩) hHeld ?_
      rotate_left
      · rintro w' ⟨c0, c1, c2, r3, c4, r5⟩; go_simp; rfl
      try simp only [Act.put, List.setIfInBounds_toArray, List.set_cons_zero, List.set_cons_succ]
      refine takeL (i := 8) (v := ?_) rfl (by kernel_rfl) (by kernel_rfl) (by kernel_rfl) (fun _ _ _ h => h) (Or.inl ⟨by rfl, ?_⟩) hHeld ?_
      rotate_left
      · rintro w' ⟨c0, c1, c2, r3, c4, r5⟩; go_simp; rfl
      try simp only [Act.put, List.setIfInBounds_toArray, List.set_cons_zero, List.set_cons_succ]
      refine takeL (i := 9) (v := ?_) rfl (by kernel_rfl) (by kernel_rfl) (by kernel_rfl) (fun _ _ _ h => h) (Or.inl ⟨by rfl, ?_⟩) hHeld ?_
      rotate_left
      · rintro w' ⟨c0, c1, c2, r3, c4, r5⟩; go_simp; rfl
      try simp only [Act.put, List.setIfInBounds_toArray, List.set_cons_zero, List.set_cons_succ]
      refine takeL (i := 10) (v := ?_) rfl (by kernel_rfl) (by kernel_rfl) (by kernel_rfl) (fun _ _ _ h => h) (Or.inl ⟨by rfl, ?_⟩) hHeld ?_
      rotate_left
      · rintro w' ⟨c0, c1, c2, r3, c4, r5⟩; go_simp; rfl
      try simp only [Act.put, List.setIfInBounds_toArray, List.set_cons_zero, List.set_cons_succ]
      refine takeL (i := 11) (v := ?_) rfl (by kernel_rfl) (by kernel_rfl) (by kernel_rfl) (fun _ _ _ h => h) (Or.inl ⟨by rfl, ?_⟩) hHeld ?_
      rotate_left
      · rintro w' ⟨c0, c1, c2, r3, c4, r5⟩; go_simp; rfl
      try simp only [Act.put, List.setIfInBounds_toArray, List.set_cons_zero, List.set_cons_succ]
      refine takeL (i := 12) (v := .bool false) rfl (by kernel_rfl) (by kernel_rfl) (by kernel_rfl) (fun _ _ _ h => h) (Or.inl ⟨by rfl, ?_⟩) hHeld ?_
      · rintro w' ⟨c0, c1, c2, r3, c4, r5⟩; go_simp; try rfl
      try simp only [Act.put, List.setIfInBounds_toArray, List.set_cons_zero, List.set_cons_succ]
      refine takeL (i := 13) (v := .bool false) rfl (by kernel_rfl) (by kernel_rfl) (by kernel_rfl) (fun _ _ _ h => h) (Or.inl ⟨by rfl, ?_⟩) hHeld ?_
      · rintro w' ⟨c0, c1, c2, r3, c4, r5⟩; go_simp; try rfl
      try simp only [Act.put, List.setIfInBounds_toArray, List.set_cons_zero, List.set_cons_succ]
      refine takeL (i := 14) (v := ?_) rfl (by kernel_rfl) (by kernel_rfl) (by kernel_rfl) (fun _ _ _ h => h) (Or.inl ⟨by rfl, ?_⟩) hHeld ?_
      rotate_left
      · rintro w' ⟨c0, c1, c2, r3, c4, r5⟩; go_simp; rfl
      try simp only [Act.put, List.setIfInBounds_toArray, List.set_cons_zero, List.set_cons_succ]
      refine takeL (i := 15) (v := ?_) rfl (by kernel_rfl) (by kernel_rfl) (by kernel_rfl) (fun _ _ _ h => h) (Or.inl ⟨by rfl, ?_⟩) hHeld ?_
      rotate_left
      · rintro w' ⟨c0, c1, c2, r3, c4, r5⟩; go_simp; rfl
      try simp only [Act.put, List.setIfInBounds_toArray, List.set_cons_zero, List.set_cons_succ]
      refine takeL (i := 16) (v := ?_) rfl (by kernel_rfl) (by kernel_rfl) (by kernel_rfl) (fun _ _ _ h => h) (Or.inl ⟨by rfl, ?_⟩) hHeld ?_
      rotate_left
      · rintro w' ⟨c0, c1, c2, r3, c4, r5⟩; go_simp; rfl
      try simp only [Act.put, List.setIfInBounds_toArray, List.set_cons_zero, List.set_cons_succ]
      refine takeL (i := 17) (v := ?_) rfl (by kernel_rfl) (by kernel_rfl) (by kernel_rfl) (fun _ _ _ h => h) (Or.inl ⟨by rfl, ?_⟩) hHeld ?_
      rotate_left
      · rintro w' ⟨c0, c1, c2, r3, c4, r5⟩; go_simp; rfl
      try simp only [Act.put, List.setIfInBounds_toArray, List.set_cons_zero, List.set_cons_succ]
      refine takeL (i := 18) (v := ?_) rfl (by kernel_rfl) (by kernel_rfl) (by kernel_rfl) (fun _ _ _ h => h) (Or.inl ⟨by rfl, ?_⟩) hHeld ?_
      rotate_left
      · rintro w' ⟨c0, c1, c2, r3, c4, r5⟩; go_simp; rfl
      try simp only [Act.put, List.setIfInBounds_toArray, List.set_cons_zero, List.set_cons_succ]
      refine takeL (i := 19) (v := .agg O.toArray) rfl (by kernel_rfl) (by kernel_rfl) (by kernel_rfl) (fun _ _ _ h => h) (yieldsIf_load_mid (by rfl) 68 _ rfl b1 (o1 + i * 21 + 1) (by rfl) O _ (fun w' h => h.r3) Tryz.underlying68 rfl hiO) hHeld ?_
      try simp only [Act.put, List.setIfInBounds_toArray, List.set_cons_zero, List.set_cons_succ]
      refine takeL (i := 20) (v := ?_) rfl (by kernel_rfl) (by kernel_rfl) (by kernel_rfl) (fun _ _ _ h => h) (Or.inl ⟨by rfl, ?_⟩) hHeld ?_
      rotate_left
      · rintro w' ⟨c0, c1, c2, r3, c4, r5⟩; go_simp; rfl
      try simp only [Act.put, List.setIfInBounds_toArray, List.set_cons_zero, List.set_cons_succ]
      refine takeL (i := 21) (v := ?_) rfl (by kernel_rfl) (by kernel_rfl) (by kernel_rfl) (fun _ _ _ h => h) (Or.inl ⟨by rfl, ?_⟩) hHeld ?_
      rotate_left
      · rintro w' ⟨c0, c1, c2, r3, c4, r5⟩; go_simp; rfl
      try simp only [Act.put, List.setIfInBounds_toArray, List.set_cons_zero, List.set_cons_succ]
      refine takeL (i := 22) (v := ?_) rfl (by kernel_rfl) (by kernel_rfl) (by kernel_rfl) (fun _ _ _ h => h) (Or.inl ⟨by rfl, ?_⟩) hHeld ?_
      rotate_left
      · rintro w' ⟨c0, c1, c2, r3, c4, r5⟩; go_simp; rfl
      try simp only [Act.put, List.setIfInBounds_toArray, List.set_cons_zero, List.set_cons_succ]
      refine takeL (i := 23) (v := ?_) rfl (by kernel_rfl) (by kernel_rfl) (by kernel_rfl) (fun _ _ _ h => h) (Or.inl ⟨by rfl, ?_⟩) hHeld ?_
      rotate_left
      · rintro w' ⟨c0, c1, c2, r3, c4, r5⟩; go_simp; rfl
      try simp only [Act.put, List.setIfInBounds_toArray, List.set_cons_zero, List.set_cons_succ]
      refine takeL (i := 24) (v := ?_) rfl (by kernel_rfl) (by kernel_rfl) (by kernel_rfl) (fun _ _ _ h => h) (Or.inl ⟨by rfl, ?_⟩) hHeld ?_
      rotate_left
      · rintro w' ⟨c0, c1, c2, r3, c4, r5⟩; go_simp; rfl
      try simp only [Act.put, List.setIfInBounds_toArray, List.set_cons_zero, List.set_cons_succ]
      refine takeL (i := 25) (v := .agg O.toArray) rfl (by kernel_rfl) (by kernel_rfl) (by kernel_rfl) (fun _ _ _ h => h) (yieldsIf_load_mid (by rfl) 67 _ rfl b3 (o3 + i * 22 + 1) (by rfl) O _ (fun w' h => h.r5) Tryz.underlying67 rfl hiO7) hHeld ?_
      try simp only [Act.put, List.setIfInBounds_toArray, List.set_cons_zero, List.set_cons_succ]
      refine takeL (i := 26) (v := .bool false) rfl (by kernel_rfl) (by kernel_rfl) (by kernel_rfl) (fun _ _ _ h => h) (Or.inl ⟨by rfl, ?_⟩) hHeld ?_
      · rintro w' ⟨c0, c1, c2, r3, c4, r5⟩; go_simp; try rfl
      try simp only [Act.put, List.setIfInBounds_toArray, List.set_cons_zero, List.set_cons_succ]
      refine takeL (i := 27) (v := .bool false) rfl (by kernel_rfl) (by kernel_rfl) (by kernel_rfl) (fun _ _ _ h => h) (Or.inl ⟨by rfl, ?_⟩) hHeld ?_
      · rintro w' ⟨c0, c1, c2, r3, c4, r5⟩; go_simp; try rfl
      try simp only [Act.put, List.setIfInBounds_toArray, List.set_cons_zero, List.set_cons_succ]
      refine wpAnyH_done (by kernel_rfl) ?_ _
      clear hHeld
      go_wp2
      go_roundg (k - (i + 1))
      case measure => omega
      case rel => exact ⟨i + 1, by omega, rfl, by go_num, HSd⟩
    · have hlti : ¬ (i : Int) < (k : Int) := by omega
      have HF : Hid (Below G w wr) := hid (HB5.out.trans (HS.out.mono (HGS.out w5 HB5.out)))
      go_wp2
      go_ret
      exact ⟨rfl, HF.out⟩
end Go.Proofs.YtijeogdnjeamaaaGreatDoor
namespace Go.Proofs.YtijeogdnjeamaaaGreatDoor
open Go.RowKit
set_option linter.unusedVariables false
set_option linter.unusedSimpArgs false
theorem ofB_blen {h : Str} {l : List Rf} (ho : OkO h l) (hi : IdR l) : (ofB h l).length ≤ 84 + 110 * l.length := by
  rw [← ofP_end h l l.length (Nat.le_refl _), List.length_append]
  have := ofP_len h l l.length ho.1 hi (fun j hj _ => ho.2.1 j hj)
  simp
  omega
set_option maxRecDepth 20000 in
theorem walkO_long (X : ByteArray) (a a1 : Option Addr) (n n1 cap c1 : Nat) (w : World) (h : 60 < n ∨ 6000 < n1 ∨ 6000 < X.size) : Calls Tryz.prog 3 #[.agg #[.string X, .slice a n cap], .slice a1 n1 c1] w fun e w' => e = .returned (.bool true) ∧ Below w.heap.size w w' := by
  obtain ⟨G, HG⟩ : ∃ n, Hid (w.heap.size = n) := ⟨_, rfl⟩
  obtain ⟨w1, HW1⟩ : ∃ u, Hid (w.alloc (.cells #[.string X, .slice a n cap] 24) = u) := ⟨_, rfl⟩
  have HB : Hid (Below G w w1) := hid (by rw [← HW1.out, ← HG.out]; exact (Below.refl _ w).alloc (Nat.le_refl _) _)
  have hx1 : Bx2 w1 G 24 (.string X) (.slice a n cap) := by rw [← HW1.out, ← HG.out]; exact Bx2.new _ _ _ _
  have k0 := hx1.c0
  have k1 := hx1.c1
  have al1 : w.alloc (.cells #[.string X, .slice a n cap] 24) = w1 := HW1.out
  have hs0 : w.heap.size = G := HG.out
  rw [HG.out]
  clear hx1
  by_cases h0 : 60 < n
  · have hi : (60 : Int) < (n : Int) := by omega
    go_enter Tryz.func3, Tryz.ntmps3
    go_wp2
    go_ret
    exact ⟨rfl, HB.out⟩
  · have hi : ¬ (60 : Int) < (n : Int) := by omega
    by_cases h1 : 6000 < n1
    · have hi1 : (6000 : Int) < (n1 : Int) := by omega
      go_enter Tryz.func3, Tryz.ntmps3
      go_wp2
      go_ret
      exact ⟨rfl, HB.out⟩
    · have hi1 : ¬ (6000 : Int) < (n1 : Int) := by omega
      have hi2 : (6000 : Int) < (X.size : Int) := by omega
      go_enter Tryz.func3, Tryz.ntmps3
      go_wp2
      go_ret
      exact ⟨rfl, HB.out⟩
set_option maxRecDepth 20000 in
set_option maxHeartbeats 4000000 in
theorem walkO {w : World} (h : Str) (hh : h.length ≤ 6000) (a : Option Addr) (cap : Nat) (l : List Rf) (hP : PRf w a cap l) (hf : FitR l) (hn : l.length ≤ 60) (ab : Option Addr) (cb : Nat) (s : Str) (hB : PB w ab cb s) (hl : s.length ≤ 6000) (hg : Hg w) (he : Ers w) (hd : Db w) (hm : Nm.Mx w) :
    Calls Tryz.prog 3 #[.agg #[.string ⟨h.toArray⟩, .slice a l.length cap], .slice ab s.length cb] w fun e w' => e = .returned (.bool true) ∧ Below w.heap.size w w' := by
  obtain ⟨n, HN⟩ : ∃ n, Hid (l.length = n) := ⟨_, rfl⟩
  obtain ⟨k, HK⟩ : ∃ n, Hid (s.length = n) := ⟨_, rfl⟩
  obtain ⟨G, HG⟩ : ∃ n, Hid (w.heap.size = n) := ⟨_, rfl⟩
  obtain ⟨X, HX⟩ : ∃ X : ByteArray, Hid (⟨h.toArray⟩ = X) := ⟨_, hid rfl⟩
  have hG0 : 0 < G := by rw [← HG.out]; exact hg.lt
  have hni : ¬ (60 : Int) < (n : Int) := by have := HN.out; omega
  have hki : ¬ (6000 : Int) < (k : Int) := by have := HK.out; omega
  have hXi : ¬ (6000 : Int) < (X.size : Int) := by rw [← HX.out, txt_len]; omega
  have HGW : Hid (∀ X, Below G w X → Hg X) := hid (fun X hX => hg.below hX hG0)
  have HEW : Hid (∀ W, Below G w W → Ers W ∧ Db W ∧ Nm.Mx W) := hid (fun W hW => by
    have hbw : Below w.heap.size w W := by rw [HG.out]; exact hW
    exact ⟨he.below hbw, hd.b hW HG.out.symm, Mx_kept hm (grown_of_below hbw none) (by simp)⟩)
  have HGS : Hid (∀ X, Below G w X → G ≤ X.heap.size) := hid (fun X hX => by have := hX.size; have := HG.out; omega)
  have HG1 : Hid (1 < G) := hid (by rw [← HG.out]; obtain ⟨m, hm⟩ := hm; exact cell_lt hm)
  have HPP : Hid (∀ X, Below G w X → PRf X a cap l) := hid (fun X hX => hP.below (by rw [HG.out]; exact hX))
  have HPB : Hid (∀ X, Below G w X → PB X ab cb s) := hid (fun X hX => hB.below (by rw [HG.out]; exact hX))
  have HFI := hid hf
  have C7 : Hid (∀ W, Below G w W → Calls Tryz.prog 7 #[.agg #[.string X, .slice a n cap]] W (PostWo h l W)) := hid (fun W hW => by
    obtain ⟨h1, h2, h3⟩ := HEW.out W hW
    rw [← HN.out, ← HX.out]
    exact writeOffer_any h (by omega) a cap l (HPP.out W hW) HFI.out h3 (by have := HGS.out W hW; have := HG1.out; omega) h2)
  have C8 : Hid (∀ W, Below G w W → Calls Tryz.prog 8 #[.agg #[.string X, .slice a n cap]] W fun e w' => ∃ a2 c2, e = .returned (.agg #[.string X, .slice a2 n c2]) ∧ BRd W w' W.heap.size (.slice a2 n c2) l) := hid (fun W hW => by
    rw [← HN.out, ← HX.out]
    exact offerL_any h a cap l (HPP.out W hW) HFI.out (by omega))
  have C9 : Hid (∀ (W : World) (x : Option Addr) (cx : Nat), PRd W x cx l → Calls Tryz.prog 9 #[.agg #[.string X, .slice x n cx]] W (PostWDo h l W W.heap.size)) := hid (fun W x cx h1 => by
    rw [← HN.out, ← HX.out]
    exact refWriteOffer_any h (by omega) x cx l h1 HFI.out)
  have C12 : Hid (∀ (X : World) (x : Option Addr) (cx : Nat) (u : Str) (q : Nat), Hid (u.length = q) → Below G w X → PB X x cx u → u.length ≤ 8000 → Calls Tryz.prog 12 #[.slice x q cx] X fun e w' => e = .returned (.bool true) ∧ Below X.heap.size X w') := hid (fun X x cx u q hq hX hp hu => by
    obtain ⟨h1, h2, h3⟩ := HEW.out X hX
    rw [← hq.out]
    exact offersL_any x cx u hp hu (HGW.out X hX) h1 h2 h3 (by have := HGS.out X hX; have := HG1.out; omega))
  have HSL : Hid (s.length ≤ 8000) := hid (by omega)
  have HBL : Hid (OkO h l → (ofB h l).length ≤ 8000) := hid (fun k => by
    have h1 := ofB_blen k HFI.out.ids
    omega)
  obtain ⟨d, hd1, hd2⟩ := und24
  have HD1 := hid hd1
  have HD2 := hid hd2
  obtain ⟨d3, hd31, hd32⟩ := und32
  have HE1 := hid hd31
  have HE2 := hid hd32
  obtain ⟨w0, HW0⟩ : ∃ u, Hid (w.alloc (.cells #[.string X, .slice a n cap] 24) = u) := ⟨_, rfl⟩
  have HB0 : Hid (Below G w w0) := hid (by rw [← HW0.out, ← HG.out]; exact (Below.refl _ w).alloc (Nat.le_refl _) _)
  have HX0 : Hid (Bx2 w0 G 24 (.string X) (.slice a n cap)) := hid (by rw [← HW0.out, ← HG.out]; exact Bx2.new _ _ _ _)
  have k0 := HX0.out.c0
  have k1 := HX0.out.c1
  have R0 : Hid (w0.rangeAt G 0 [.string X, .slice a n cap]) := hid (range_row HX0.out)
  have al1 : w.alloc (.cells #[.string X, .slice a n cap] 24) = w0 := HW0.out
  have hs0 : w.heap.size = G := HG.out
  rw [HN.out, HK.out, HG.out, HX.out]
  clear hP hf hn hB hl hg he hd hm hh hd1 hd2 hd31 hd32
  go_enter Tryz.func3, Tryz.ntmps3
  go_wp2_with (first
    | (refine wpList_load_mid rfl 24 _ rfl G 0 rfl [.string X, .slice a n cap] _ R0.out HD1.out HD2.out size24 ?_)
    | fail)
  clear al1 hs0 k0 k1
  refine (C7.out w0 HB0.out).mono ?_
  rintro e w1 ⟨hb1, h7⟩
  have HB1 : Hid (Below G w w1) := hid (HB0.out.trans (hb1.mono (HGS.out w0 HB0.out)))
  have R1 : Hid (w1.rangeAt G 0 [.string X, .slice a n cap]) := hid (range_row (HX0.out.below hb1))
  clear hb1
  rcases h7 with ⟨hd1, v7, rfl, ho7⟩ | ⟨hnn, rfl⟩
  · obtain ⟨a7, c7, rfl, hp7, _⟩ := own_pb ho7
    have HP7 : Hid (∀ X, Below w1.heap.size w1 X → PB X a7 c7 (ofB h l)) := hid (fun X hX => hp7.below hX)
    obtain ⟨q, HQ⟩ : ∃ n, Hid ((ofB h l).length = n) := ⟨_, rfl⟩
    have HD7 := hid hd1
    rw [HQ.out]
    clear hd1 ho7 hp7
    go_wp2_with (first
      | (refine wpList_load_mid rfl 24 _ rfl G 0 rfl [.string X, .slice a n cap] _ R1.out HD1.out HD2.out size24 ?_)
      | fail)
    refine (C8.out w1 HB1.out).mono ?_
    rintro e w2 ⟨a5, c5, rfl, hb2⟩
    have HB2 : Hid (Below G w w2) := hid (HB1.out.trans (hb2.below.mono (HGS.out w1 HB1.out)))
    have HB12 : Hid (Below w1.heap.size w1 w2) := hid hb2.below
    have hp5 : PRd w2 a5 c5 l := by
      obtain ⟨ax, cx, e1, hp, _⟩ := hb2.px (d := rf0) (encR2_ln HFI.out.ids)
      rw [HN.out] at e1
      injection e1 with e2 e3 e4
      rw [e2, e4]
      exact hp
    obtain ⟨p7, HP⟩ : ∃ p, Hid (w2.heap.size = p) := ⟨_, rfl⟩
    obtain ⟨w20, HW20⟩ : ∃ u, Hid (w2.alloc (.cells #[.string ⟨#[]⟩, .slice none 0 0] 32) = u) := ⟨_, rfl⟩
    have hx20 : Bx2 w20 p7 32 (.string ⟨#[]⟩) (.slice none 0 0) := by rw [← HW20.out, ← HP.out]; exact Bx2.new _ _ _ _
    have hb20 : Below w2.heap.size w2 w20 := by rw [← HW20.out]; exact (Below.refl _ w2).alloc (Nat.le_refl _) _
    have hs20 : w20.heap.size = p7 + 1 := by rw [← HW20.out, ← HP.out]; exact size_alloc _ _
    obtain ⟨w3, z1, z2, z3, z4⟩ := hx20.put (.string X) (.slice a5 n c5)
    have hb23 : Below w2.heap.size w2 w3 := hb20.grown z3 (by rw [hs20, HP.out]; omega) (fun k e => by cases e; rw [HP.out]; exact Nat.le_refl _)
    have HB3 : Hid (Below G w w3) := hid (HB2.out.trans (hb23.mono (HGS.out w2 HB2.out)))
    have HB13 : Hid (Below w1.heap.size w1 w3) := hid (HB12.out.trans (hb23.mono HB12.out.size))
    have Z1 := hid z1
    have Z2 := hid z2
    have Z4 := hid z4
    have V2 : Hid ((Tryz.prog.info? 32).map (·.size) = some (#[.string X, .slice a5 n c5] : Array Value).size) := hid size32
    have V3 : Hid ((#[.string X, .slice a5 n c5] : Array Value).all (·.oneCell') = true) := hid (by simp [Value.oneCell'])
    have C9' := hid (C9.out w3 a5 c5 (hp5.below hb23))
    have al2 : w2.alloc (.cells #[.string ⟨#[]⟩, .slice none 0 0] 32) = w20 := HW20.out
    have hs2 : w2.heap.size = p7 := HP.out
    clear hb2 hp5 hx20 hb20 hs20 z1 z2 z3 z4 hb23
    go_wp2_with (first
      | (refine wpList_store_mid rfl 32 _ _ rfl p7 0 #[.string X, .slice a5 n c5] rfl rfl Z2.out V2.out V3.out ?_; rw [Z1.out])
      | (refine wpList_load_mid rfl 32 _ rfl p7 0 rfl [.string X, .slice a5 n c5] _ Z4.out HE1.out HE2.out size32 ?_)
      | fail)
    clear al2 hs2
    refine C9'.out.mono ?_
    rintro e w4 ⟨hb4, h9⟩
    have HB4 : Hid (Below G w w4) := hid (HB3.out.trans (hb4.mono (HGS.out w3 HB3.out)))
    have HB14 : Hid (Below w1.heap.size w1 w4) := hid (HB13.out.trans (hb4.mono HB13.out.size))
    clear hb4
    rcases h9 with ⟨_, a11, c11, rfl, hp11⟩ | ⟨hnn, _⟩
    rotate_left
    · exact absurd HD7.out hnn
    have C10 : Hid (Calls Tryz.prog 10 #[.slice a7 q c7, .slice a11 q c11] w4 fun e w' => e = .returned (.bool true) ∧ Below w4.heap.size w4 w') := hid (by
      rw [← HQ.out]
      exact sameB a7 a11 c7 c11 (ofB h l) (HP7.out w4 HB14.out) hp11 (by have := HBL.out HD7.out; omega))
    rw [HQ.out]
    clear hp11
    go_wp2_with fail
    refine C10.out.mono ?_
    rintro e w5 ⟨rfl, hb5⟩
    have HB5 : Hid (Below G w w5) := hid (HB4.out.trans (hb5.mono (HGS.out w4 HB4.out)))
    have HB15 : Hid (Below w1.heap.size w1 w5) := hid (HB14.out.trans (hb5.mono HB14.out.size))
    clear hb5
    have C11 : Hid (Calls Tryz.prog 11 #[.nilIface] w5 fun e w' => e = .returned (.int .i64 0) ∧ Below w5.heap.size w5 w') := hid (tell_nil w5)
    go_wp2_with fail
    refine C11.out.mono ?_
    rintro e w6 ⟨rfl, hb6⟩
    have HB6 : Hid (Below G w w6) := hid (HB5.out.trans (hb6.mono (HGS.out w5 HB5.out)))
    have HB16 : Hid (Below w1.heap.size w1 w6) := hid (HB15.out.trans (hb6.mono HB15.out.size))
    clear hb6
    have CA := hid (C12.out w6 ab cb s k HK HB6.out (HPB.out w6 HB6.out) HSL.out)
    go_wp2_with fail
    refine CA.out.mono ?_
    rintro e w7 ⟨rfl, hb7⟩
    have HB7 : Hid (Below G w w7) := hid (HB6.out.trans (hb7.mono (HGS.out w6 HB6.out)))
    have HB17 : Hid (Below w1.heap.size w1 w7) := hid (HB16.out.trans (hb7.mono HB16.out.size))
    clear hb7
    have CB := hid (C12.out w7 a7 c7 (ofB h l) q HQ HB7.out (HP7.out w7 HB17.out) (HBL.out HD7.out))
    go_wp2_with fail
    refine CB.out.mono ?_
    rintro e w8 ⟨rfl, hb8⟩
    have HB8 : Hid (Below G w w8) := hid (HB7.out.trans (hb8.mono (HGS.out w7 HB7.out)))
    clear hb8
    go_wp2
    go_ret
    exact ⟨rfl, HB8.out⟩
  · have HNN := hid hnn
    clear hnn
    go_wp2_with (first
      | (refine wpList_load_mid rfl 24 _ rfl G 0 rfl [.string X, .slice a n cap] _ R1.out HD1.out HD2.out size24 ?_)
      | fail)
    refine (C8.out w1 HB1.out).mono ?_
    rintro e w2 ⟨a5, c5, rfl, hb2⟩
    have HB2 : Hid (Below G w w2) := hid (HB1.out.trans (hb2.below.mono (HGS.out w1 HB1.out)))
    have HB12 : Hid (Below w1.heap.size w1 w2) := hid hb2.below
    have hp5 : PRd w2 a5 c5 l := by
      obtain ⟨ax, cx, e1, hp, _⟩ := hb2.px (d := rf0) (encR2_ln HFI.out.ids)
      rw [HN.out] at e1
      injection e1 with e2 e3 e4
      rw [e2, e4]
      exact hp
    obtain ⟨p7, HP⟩ : ∃ p, Hid (w2.heap.size = p) := ⟨_, rfl⟩
    obtain ⟨w20, HW20⟩ : ∃ u, Hid (w2.alloc (.cells #[.string ⟨#[]⟩, .slice none 0 0] 32) = u) := ⟨_, rfl⟩
    have hx20 : Bx2 w20 p7 32 (.string ⟨#[]⟩) (.slice none 0 0) := by rw [← HW20.out, ← HP.out]; exact Bx2.new _ _ _ _
    have hb20 : Below w2.heap.size w2 w20 := by rw [← HW20.out]; exact (Below.refl _ w2).alloc (Nat.le_refl _) _
    have hs20 : w20.heap.size = p7 + 1 := by rw [← HW20.out, ← HP.out]; exact size_alloc _ _
    obtain ⟨w3, z1, z2, z3, z4⟩ := hx20.put (.string X) (.slice a5 n c5)
    have hb23 : Below w2.heap.size w2 w3 := hb20.grown z3 (by rw [hs20, HP.out]; omega) (fun k e => by cases e; rw [HP.out]; exact Nat.le_refl _)
    have HB3 : Hid (Below G w w3) := hid (HB2.out.trans (hb23.mono (HGS.out w2 HB2.out)))
    have HB13 : Hid (Below w1.heap.size w1 w3) := hid (HB12.out.trans (hb23.mono HB12.out.size))
    have Z1 := hid z1
    have Z2 := hid z2
    have Z4 := hid z4
    have V2 : Hid ((Tryz.prog.info? 32).map (·.size) = some (#[.string X, .slice a5 n c5] : Array Value).size) := hid size32
    have V3 : Hid ((#[.string X, .slice a5 n c5] : Array Value).all (·.oneCell') = true) := hid (by simp [Value.oneCell'])
    have C9' := hid (C9.out w3 a5 c5 (hp5.below hb23))
    have al2 : w2.alloc (.cells #[.string ⟨#[]⟩, .slice none 0 0] 32) = w20 := HW20.out
    have hs2 : w2.heap.size = p7 := HP.out
    clear hb2 hp5 hx20 hb20 hs20 z1 z2 z3 z4 hb23
    go_wp2_with (first
      | (refine wpList_store_mid rfl 32 _ _ rfl p7 0 #[.string X, .slice a5 n c5] rfl rfl Z2.out V2.out V3.out ?_; rw [Z1.out])
      | (refine wpList_load_mid rfl 32 _ rfl p7 0 rfl [.string X, .slice a5 n c5] _ Z4.out HE1.out HE2.out size32 ?_)
      | fail)
    clear al2 hs2
    refine C9'.out.mono ?_
    rintro e w4 ⟨hb4, h9⟩
    have HB4 : Hid (Below G w w4) := hid (HB3.out.trans (hb4.mono (HGS.out w3 HB3.out)))
    have HB14 : Hid (Below w1.heap.size w1 w4) := hid (HB13.out.trans (hb4.mono HB13.out.size))
    clear hb4
    rcases h9 with ⟨h1, _⟩ | ⟨_, rfl⟩
    · exact absurd h1 HNN.out
    have C10 : Hid (Calls Tryz.prog 10 #[.slice none 0 0, .slice none 0 0] w4 fun e w' => e = .returned (.bool true) ∧ Below w4.heap.size w4 w') := hid (sameB none none 0 0 [] (pb_none w4) (pb_none w4) (by simp))
    go_wp2_with fail
    refine C10.out.mono ?_
    rintro e w5 ⟨rfl, hb5⟩
    have HB5 : Hid (Below G w w5) := hid (HB4.out.trans (hb5.mono (HGS.out w4 HB4.out)))
    have HB15 : Hid (Below w1.heap.size w1 w5) := hid (HB14.out.trans (hb5.mono HB14.out.size))
    clear hb5
    have C11 : Hid (Calls Tryz.prog 11 #[.iface 37 (.int .i64 111)] w5 fun e w' => e = .returned (.int .i64 111) ∧ Below w5.heap.size w5 w') := hid (tell_errno 111 w5 (HGW.out w5 HB5.out))
    go_wp2_with fail
    refine C11.out.mono ?_
    rintro e w6 ⟨rfl, hb6⟩
    have HB6 : Hid (Below G w w6) := hid (HB5.out.trans (hb6.mono (HGS.out w5 HB5.out)))
    have HB16 : Hid (Below w1.heap.size w1 w6) := hid (HB15.out.trans (hb6.mono HB15.out.size))
    clear hb6
    have CA := hid (C12.out w6 ab cb s k HK HB6.out (HPB.out w6 HB6.out) HSL.out)
    go_wp2_with fail
    refine CA.out.mono ?_
    rintro e w7 ⟨rfl, hb7⟩
    have HB7 : Hid (Below G w w7) := hid (HB6.out.trans (hb7.mono (HGS.out w6 HB6.out)))
    have HB17 : Hid (Below w1.heap.size w1 w7) := hid (HB16.out.trans (hb7.mono HB16.out.size))
    clear hb7
    go_wp2
    go_ret
    exact ⟨rfl, HB7.out⟩
end Go.Proofs.YtijeogdnjeamaaaGreatDoor
