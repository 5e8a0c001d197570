/- 'cut': its iterator. -/
import Derived.Test.YtblegkefeiefjaaDoorAoA
namespace Go.Proofs.YtblegkefeiefjaaDoor
open Go.RowKit Go.Shelf Go.Maps Plain
set_option linter.unusedVariables false
set_option linter.unusedSimpArgs false
attribute [local go_sem] Oper.semAt_some

/-- Bytes of its own, and a copy. -/
structure Cx where
  ao : Option Addr
  co : Nat
  o : List Int
  ac : Option Addr
  cc : Nat
  k : List Int
def Cx.enc (x : Cx) : Array Value := #[.slice x.ao x.o.length x.co, .slice x.ac x.k.length x.cc]
def Cx.Fx (X : Nat) (x : Cx) (W : World) : Prop := Sl W x.ao x.co x.o ∧ Sl W x.ac x.cc x.k ∧ (∀ p : Addr, x.ao = some p → Fre X W p.block) ∧ (∀ p : Addr, x.ac = some p → Fre X W p.block) ∧ x.o.length ≤ 100000 ∧ x.k.length ≤ 7 ∧ IsB x.o ∧ (x.k = [] → x.ac = none ∧ x.cc = 0)
def Cx.pr (x : Cx) : List Int × List Int := (x.o, x.k)
def SCu (base target : List Int) (xs : List Cx) : Prop := ∃ pre bg, Cu base target pre bg target.length ∧ xs.map Cx.pr = pre ++ [(target.drop bg, [])]
theorem grown_of_below {w w' : World} (h : Below w.heap.size w w') : w.grownBy w' none := ⟨h.os, h.tape, h.output, h.size, fun k hk _ => h.block k hk⟩
theorem sl_of_own {w : World} {B g n cap : Nat} {c : List Int} (h : w.ownsRow B 5 1 (.slice (some ⟨g, 0, none⟩) c.length cap) c.length (c.map (Value.int .u8))) : Sl w (some ⟨g, 0, none⟩) cap c := by
  have hc := h.cells (g := g) rfl
  obtain ⟨h1, ⟨h2, _⟩ | ⟨g', cap', cur, hv, h3, h4, h5, h6, h7, h8⟩⟩ := h
  · cases h2
  · simp only [Value.slice.injEq, Option.some.injEq, Addr.mk.injEq, and_true, true_and] at hv
    obtain ⟨rfl, rfl⟩ := hv
    refine ⟨h5, fun _ => ⟨g, 0, rfl, (Array.getElem?_eq_some_iff.1 h4).1, fun i hi => ?_⟩, fun h => by cases h⟩
    have := hc i (.int .u8 (c.getD i 0)) (by rw [List.getElem?_map, List.getElem?_eq_getElem hi]; simp [hi])
    rw [addr_add] at this
    exact this
theorem grown_drewN0 (w : World) (n : Nat) : w.grownBy (w.drewN n) none := ⟨rfl, rfl, rfl, Nat.le_refl _, fun _ _ _ => rfl⟩
theorem Tryd.results30 : Tryd.f30.results = #[] := by kernel_rfl
set_option maxRecDepth 100000 in
set_option maxHeartbeats 4000000 in
theorem cut1_all (n : Nat) (hn : 1 ≤ n) (w : World) (X Bb Bt : Nat) (ab at_ : Option Addr) (cb ct : Nat) (base target : List Int) (hSb : Sl w ab cb base) (hSt : Sl w at_ ct target) (hzb : IsB base) (hzt : IsB target) (hlb : base.length ≤ 100000) (hlt : target.length ≤ 100000)
    (hbb : Boxed w Bb 22 (.slice ab base.length cb)) (hbt : Boxed w Bt 22 (.slice at_ target.length ct)) (hX : X < w.heap.size) (hbd : ∀ k, Ob X w k → k < w.heap.size)
    (fb : Fre X w Bb) (ft : Fre X w Bt) (fab : ∀ p : Addr, ab = some p → Fre X w p.block) (fat : ∀ p : Addr, at_ = some p → Fre X w p.block) :
    SeqAll Fence.wide n Tryd.prog 30 #[.pointer (some ⟨Bb, 0, none⟩), .pointer (some ⟨Bt, 0, none⟩)] Cx.enc (Cx.Fx X) (Kx X) (SCu base target) (target.length + 1) w := by
  intro l J W hW hwl hlW hJ hY h0
  have hXW : X < W.heap.size := Nat.lt_of_lt_of_le hX hW.size
  have K0 : Kx X l w W := ⟨hW.os, hW.tape, hW.output, hW.size, fun k ⟨v, h1, h2⟩ => .inl ⟨v, by rw [← h1]; exact (hW.cell (p := ⟨X, 0, none⟩) hX).symm, h2⟩, fun k h1 _ _ _ => hW.block k h1, fun hb k ⟨v, h1, h2⟩ => Nat.lt_of_lt_of_le (hb k ⟨v, by rw [← h1]; exact (hW.cell (p := ⟨X, 0, none⟩) hX).symm, h2⟩) hW.size⟩
  have hbW : ∀ k, Ob X W k → k < W.heap.size := K0.bd hbd
  have nl : ∀ {k}, Fre X w k → k ≠ l := fun h => by have := h.lt; omega
  have kb := (boxed_kx hbb K0 fb (nl fb)).cell
  have hSbW : Sl W ab cb base := hSb.kx K0 (fun p hp => ⟨fab p hp, nl (fab p hp)⟩)
  have NFI := newFinder_any ab cb base W hzb hlb hSbW
  have HK0 : Hid _ := K0
  have HBW : Hid _ := hbW
  have HJ0 : Hid _ := h0
  clear K0 hbW h0
  refine callsIn_of_wp Tryd.func30 rfl trivial ?_ rfl
  simp only [Tryd.ntmps30, List.size_toArray, List.length_cons, List.length_nil, Nat.reduceAdd, Nat.reduceSub, Array.replicate_succ, Array.replicate_zero, List.push_toArray, List.append_toArray, List.nil_append, List.cons_append]
  gi_wp2_with (refine ⟨trivial, ?_⟩; gi_at_call 31; refine (callsIn_wide.2 NFI).mono ?_; clear NFI; rintro ev WF ⟨g, F, wd, rfl, hRF, hGF, hBF⟩)
  have HRF : Hid (Rep W.heap.size WF g F) := hRF
  have HGF : Hid (Good base F wd) := hGF
  have hgF := grown_of_below hBF
  have HKF : Hid (Kx X l W WF) := Kx.grow hXW hgF
  have HJF : Hid (J [] WF) := hJ _ _ _ HJ0.out hgF
  have HBF : Hid (∀ k, Ob X WF k → k < W.heap.size) := fun k ho => by
    rcases HKF.out.at_ k ho with h | h
    · exact HBW.out k h
    · obtain ⟨v, h1, h2⟩ := ho
      exact HBW.out k ⟨v, by rw [← h1]; exact (hBF.cell (p := ⟨X, 0, none⟩) hXW).symm, h2⟩
  have hWF : W.heap.size ≤ WF.heap.size := hBF.size
  clear hRF hGF hgF hBF
  obtain ⟨T, HT⟩ : ∃ T, Hid (T = target.length) := ⟨_, rfl⟩
  have hT : T ≤ 100000 := by rw [HT.out]; exact hlt
  gi_loopg [5, 6] T (fun k vb va wr => ∃ (bg a : Nat) (pre : List Cx), vb = .int .i64 bg ∧ va = .int .i64 a ∧ k = T - a ∧ a ≤ T ∧ bg ≤ a ∧ Hid (Kx X l w wr) ∧ Hid (Kx X l WF wr) ∧ Hid (∀ k, Ob X wr k → k < wr.heap.size) ∧ Hid (J pre wr) ∧ Hid (Cu base target (pre.map Cx.pr) bg a) ∧ Hid (pre.length ≤ a))
  case atStart => exact ⟨0, 0, [], rfl, rfl, rfl, by omega, by omega, HK0.out.trans HKF.out, Kx.refl _ _ _, HKF.out.bd HBW.out, HJF.out, Cu.start, by show _ ≤ _; simp⟩
  case round =>
    obtain ⟨bg, a, pre, rfl, rfl, hk, ha, hbga, HKw, HKf, HBD, HJ, HCU, HPL⟩ := hrel
    have kt := (boxed_kx hbt HKw.out ft (nl ft)).cell
    rw [← HT.out] at kt
    have HSt : Hid (Sl wr at_ ct target) := hSt.kx HKw.out (fun p hp => ⟨fat p hp, nl (fat p hp)⟩)
    have HFt : Hid (∀ p : Addr, at_ = some p → Fre X wr p.block) := fun p hp => (fat p hp).kx HKw.out
    have hcap : T ≤ ct := by rw [HT.out]; exact hSt.capl
    have hXr : X < wr.heap.size := Nat.lt_of_lt_of_le hX HKw.out.size
    by_cases haT : a < T
    · have haI : (a : Int) < T := by omega
      obtain ⟨b, off, rfl, hb, hat⟩ := HSt.out.at_ (by rw [← HT.out]; omega)
      have HRr : Hid (Rep W.heap.size wr g F) := HRF.out.kept (fun k hk hBk => HKf.out.blk k hk (by omega) (by omega) (fun ho => by have := HBF.out k ho; omega))
      obtain ⟨D, HD⟩ : ∃ D, Hid (T - a = D) := ⟨_, rfl⟩
      have hD := HD.out
      have hdl : (target.drop a).length = D := by rw [List.length_drop, ← HT.out]; exact HD.out
      have hSd : Sl wr (some ⟨b, off + a, none⟩) (ct - a) (target.drop a) := ⟨by rw [hdl]; omega, fun _ => ⟨b, off + a, rfl, hb, at_drop hat a (by rw [← HT.out]; exact ha)⟩, fun h => by cases h⟩
      have FI := find_any (some ⟨b, off + a, none⟩) (ct - a) (target.drop a) wr HRr.out HGF.out hlb (fun x hx => hzt x (List.mem_of_mem_drop hx)) (by rw [hdl]; omega) hSd
      rw [hdl] at FI
      clear hdl hSd
      gi_wp2_with (refine ⟨trivial, ?_⟩; gi_at_call 32; refine (callsIn_wide.2 FI).mono ?_; clear FI; rintro ev w1 ⟨fr, len, q, rfl, rfl, hfd⟩)
      have HFD : Hid (Plain.Fd base (target.drop a) fr len) := hfd
      have hfl : fr + len ≤ 100000 := Nat.le_trans hfd.1 hlb
      have hlD : len ≤ D := by have := hfd.2.1; rw [List.length_drop, ← HT.out, HD.out] at this; exact this
      clear hfd
      refine ⟨trivial, ?_⟩
      refine (callsIn_wide.2 (copyStep_any fr len (by omega) (by omega) (wr.drewN q))).mono ?_
      rintro ev w2 ⟨g2, cap2, rfl, ho2, hB2⟩
      have hg2 : wr.grownBy w2 none := (grown_drewN0 wr q).trans (grown_of_below hB2)
      have HO2 : Hid (w2.ownsRow (wr.drewN q).heap.size 5 1 (.slice (some ⟨g2, 0, none⟩) (cpy fr len).length cap2) (cpy fr len).length ((cpy fr len).map (Value.int .u8))) := ho2
      have HG2 : Hid (wr.grownBy w2 none) := hg2
      have HKg : Hid (Kx X l wr w2) := Kx.grow hXr hg2
      have hg2l := (ho2.lt g2 rfl)
      have HSC : Hid (Sl w2 (some ⟨g2, 0, none⟩) cap2 (cpy fr len)) := sl_of_own (n := 0) ho2
      obtain ⟨C, HC⟩ : ∃ C, Hid (C = (cpy fr len).length) := ⟨_, rfl⟩
      rw [← HC.out]
      have hC8 : C ≤ 7 := by rw [HC.out]; exact cpy_len fr len (by omega) (by omega)
      have kt2 := (boxed_kx hbt (HKw.out.trans HKg.out) ft (nl ft)).cell
      rw [← HT.out] at kt2
      have hgl : wr.heap.size ≤ g2 := hg2l.1
      have hgl2 : g2 < w2.heap.size := hg2l.2
      clear ho2 hB2 hg2 hg2l
      by_cases hc : len ≤ C
      · have hcI : (len : Int) ≤ C := by omega
        have HCU2 : Hid (Cu base target (pre.map Cx.pr) bg (a + 1)) := Cu.own fr len HCU.out (by rw [← HT.out]; exact haT) HFD.out (by rw [← HC.out]; exact hc)
        gi_wp2
        gi_roundg (T - (a + 1))
        case measure => omega
        case rel => exact ⟨bg, a + 1, pre, rfl, by go_num, rfl, by omega, by omega, HKw.out.trans HKg.out, HKf.out.trans HKg.out, HKg.out.bd HBD.out, hJ _ _ _ HJ.out HG2.out, HCU2.out, Nat.le_succ_of_le HPL.out⟩
      · have hcI : ¬ (len : Int) ≤ C := by omega
        have hol : ((target.take a).drop bg).length = a - bg := by rw [List.length_drop, List.length_take, ← HT.out]; omega
        have hS2 : Sl w2 (some ⟨b, off + bg, none⟩) (ct - bg) ((target.take a).drop bg) := by
          have hS := HSt.out.kx HKg.out (fun p hp => ⟨HFt.out p hp, by have := (HFt.out p hp).lt; have := nl (fat p hp); omega⟩)
          obtain ⟨b2, off2, e1, e2, e3⟩ := hS.at_ (by rw [← HT.out]; omega)
          cases e1
          refine ⟨by rw [hol]; omega, fun _ => ⟨b, off + bg, rfl, e2, ?_⟩, fun h => by cases h⟩
          rw [List.drop_take]
          exact at_sub e3 bg (a - bg) (by rw [← HT.out]; omega)
        obtain ⟨x, Hx⟩ : ∃ x : Cx, Hid (x = ⟨some ⟨b, off + bg, none⟩, ct - bg, (target.take a).drop bg, some ⟨g2, 0, none⟩, cap2, cpy fr len⟩) := ⟨_, rfl⟩
        have HXP : Hid (x.pr = ((target.take a).drop bg, cpy fr len)) := by rw [Hx.out]; rfl
        have hxe : x.enc = #[.slice (some ⟨b, off + bg, none⟩) (a - bg : Nat) (ct - bg), .slice (some ⟨g2, 0, none⟩) C cap2] := by rw [Hx.out]; unfold Cx.enc; simp only [hol, HC.out]
        have hfx : x.Fx X w2 := by
          rw [Hx.out]
          exact ⟨hS2, HSC.out, fun p hp => by cases hp; exact (HFt.out ⟨b, off, none⟩ rfl).kx HKg.out, fun p hp => by
            cases hp
            exact ⟨hgl2, by show g2 ≠ X; omega, fun ho => by
              rcases HKg.out.at_ _ ho with h | h
              · have h2 := HBD.out g2 h; omega
              · obtain ⟨v, h1, h2⟩ := ho
                have h3 := HBD.out g2 ⟨v, by rw [← h1]; exact (World.cell?_of_block (a := ⟨X, 0, none⟩) (HG2.out.block X hXr (by simp))).symm, h2⟩
                omega⟩, by show ((target.take a).drop bg).length ≤ _; rw [hol]; omega, by show (cpy fr len).length ≤ 7; rw [← HC.out]; exact hC8, fun z hz => hzt z (List.mem_of_mem_take (List.mem_of_mem_drop hz)), fun h => by have := cpy_pos fr len; have h' : cpy fr len = [] := h; rw [h'] at this; simp at this⟩
        have HPI : Hid (pre.length < target.length + 1) := by have := HPL.out; show _ < _; rw [← HT.out]; omega
        obtain ⟨fn_, tmps, assign, body, hy, hR⟩ := hY pre x w2 (hJ _ _ _ HJ.out HG2.out) hfx HPI.out
        rw [hxe] at hy
        have hlp : 0 < len := by omega
        have HCU2 : Hid (Cu base target ((pre ++ [x]).map Cx.pr) (a + len) (a + len)) := by
          show Cu _ _ _ _ _
          rw [List.map_append, List.map_singleton, HXP.out]
          exact Cu.copy fr len HCU.out (by rw [← HT.out]; exact haT) HFD.out (by rw [← HC.out]; omega)
        obtain ⟨E, HE⟩ : ∃ E, Hid (a - bg = E) := ⟨_, rfl⟩
        have hE := HE.out
        rw [hE] at hy
        have hbc : ¬ ct = bg := by omega
        clear hS2 hxe hfx hol Hx hat
        gi_wp2
        refine hR.mono ?_
        rintro e1 W3 ⟨rfl, hJ3, hk3⟩
        have HK3 : Hid (Kx X l w2 W3) := hk3
        have HJ3 : Hid (J (pre ++ [x]) W3) := hJ3
        clear hJ3 hk3
        gi_wp2
        gi_roundg (T - (a + len))
        case measure => omega
        case rel => exact ⟨a + len, a + len, pre ++ [x], by go_num, by go_num, rfl, by omega, by omega, (HKw.out.trans HKg.out).trans HK3.out, (HKf.out.trans HKg.out).trans HK3.out, HK3.out.bd (HKg.out.bd HBD.out), HJ3.out, HCU2.out, by have := HPL.out; show _ ≤ _; simp; omega⟩
    · have haI : ¬ (a : Int) < T := by omega
      obtain ⟨ad, HAD⟩ : ∃ ad, Hid ((if ct = bg then at_ else Option.map (fun x => x.add bg) at_) = ad) := ⟨_, rfl⟩
      have had := HAD.out
      obtain ⟨E, HE⟩ : ∃ E, Hid (T - bg = E) := ⟨_, rfl⟩
      have hE := HE.out
      have hol : (target.drop bg).length = E := by rw [List.length_drop, ← HT.out]; exact HE.out
      have hS2 : Sl wr ad (ct - bg) (target.drop bg) := by
        refine ⟨by rw [hol]; omega, fun h0 => ?_, fun h => ?_⟩
        · rw [hol] at h0
          obtain ⟨b2, off2, rfl, e2, e3⟩ := HSt.out.at_ (by rw [← HT.out]; omega)
          rw [← HAD.out, if_neg (by omega)]
          exact ⟨b2, off2 + bg, by simp [addr_add], e2, at_drop e3 bg (by rw [← HT.out]; omega)⟩
        · rw [← HAD.out] at h
          have : at_ = none := by
            split at h
            · exact h
            · simpa using h
          have := HSt.out.nil this
          omega
      have hF2 : ∀ p : Addr, ad = some p → Fre X wr p.block := fun p hp => by
        rw [← HAD.out] at hp
        split at hp
        · exact HFt.out p hp
        · rw [Option.map_eq_some_iff] at hp
          obtain ⟨p0, h1, rfl⟩ := hp
          have := HFt.out p0 h1
          have hbk : (p0.add bg).block = p0.block := by unfold Addr.add; split <;> rfl
          rw [hbk]; exact this
      obtain ⟨x, Hx⟩ : ∃ x : Cx, Hid (x = ⟨ad, ct - bg, target.drop bg, none, 0, []⟩) := ⟨_, rfl⟩
      have HXP : Hid (x.pr = (target.drop bg, [])) := by rw [Hx.out]; rfl
      have hxe : x.enc = #[.slice ad E (ct - bg), .slice none 0 0] := by rw [Hx.out]; unfold Cx.enc; simp only [hol]; rfl
      have hfx : x.Fx X wr := by rw [Hx.out]; exact ⟨hS2, sl_nil wr, hF2, (fun p hp => by cases hp), by show (target.drop bg).length ≤ _; rw [hol]; omega, by simp, fun z hz => hzt z (List.mem_of_mem_drop hz), fun _ => ⟨rfl, rfl⟩⟩
      have HPI : Hid (pre.length < target.length + 1) := by have := HPL.out; show _ < _; rw [← HT.out]; omega
      obtain ⟨fn_, tmps, assign, body, hy, hR⟩ := hY pre x wr HJ.out hfx HPI.out
      rw [hxe] at hy
      clear hS2 hxe hfx hol Hx hF2
      gi_wp2
      refine hR.mono ?_
      rintro e1 W3 ⟨rfl, hJ3, hk3⟩
      gi_wp2
      go_end0
      refine ⟨⟨_, rfl⟩, pre ++ [x], ⟨pre.map Cx.pr, bg, ?_, by rw [List.map_append, List.map_singleton, HXP.out]⟩, hJ3⟩
      have := HCU.out
      rw [show a = target.length by rw [← HT.out]; omega] at this
      exact this
end Go.Proofs.YtblegkefeiefjaaDoor
