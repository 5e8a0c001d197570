import Derived.Test.YtijeogdnjeamaaaGreatDoorQo10
import Derived.Test.YtijeogdnjeamaaaGreatDoorQo07
namespace Go.Proofs.YtijeogdnjeamaaaGreatDoor
open Go.RowKit
set_option linter.unusedVariables false
set_option linter.unusedSimpArgs false
abbrev PRf (w : World) (a : Option Addr) (cap : Nat) (l : List Rf) : Prop := Px encR 21 rf0 w a cap l
abbrev BRf (w0 w : World) (B : Nat) (v : Value) (l : List Rf) : Prop := Bx encR 21 70 w0 w B v l
theorem encR_one : ∀ x : Rf, ∀ v ∈ encR x, v.oneCell' = true := fun x v hv => by
  rcases List.mem_cons.1 hv with rfl | hv
  · rfl
  · exact row_oneC _ v hv
def FitR (l : List Rf) : Prop := ∀ x ∈ l, x.1.length ≤ 1000000000000000 ∧ IdW x.2
theorem FitR.ids {l : List Rf} (h : FitR l) : IdR l := fun x hx => (h x hx).2
def zrf : Rf := ([], z20)
theorem zero70 (w : World) : (zeroValue 70).run Tryz.prog w = .ok (.agg (encR zrf).toArray) w := by kernel_rfl
theorem Tryz.results27 : Tryz.f27.results = #[.tmp 6, .tmp 7] := by kernel_rfl
structure Wlr (w0 wr : World) (B0 B1 : Nat) (v : Value) (ts : List Str) (k : Nat) (p : Str) : Prop where
  bl : Below B0 w0 wr
  own : wr.ownsRow B1 9 1 v ts.length (ts.flatMap encS)
  le : B1 ≤ wr.heap.size
  ck : Boxed wr k 9 (.string ⟨p.toArray⟩)
theorem Wlr.below {w0 wr w' : World} {B0 B1 : Nat} {v : Value} {ts : List Str} {k : Nat} {p : Str} (h : Wlr w0 wr B0 B1 v ts k p) (hB : B0 ≤ B1) (hb : Below wr.heap.size wr w') : Wlr w0 w' B0 B1 v ts k p := by
  have hg := grown_of_below hb none
  have := h.le
  exact ⟨h.bl.trans (hb.mono (by omega)), own_keep h.own hg (fun j e => by cases e), Nat.le_trans h.le hb.size, h.ck.kept hg (by simp)⟩
theorem Wlr.turn {w0 wr w' : World} {B0 B1 : Nat} {v : Value} {ts : List Str} {k : Nat} {p p' : Str} (h : Wlr w0 wr B0 B1 v ts k p) (hB : B0 ≤ B1) (hk : B0 ≤ k ∧ k < B1) (hgr : wr.grownBy w' (some k)) (hck : Boxed w' k 9 (.string ⟨p'.toArray⟩)) : Wlr w0 w' B0 B1 v ts k p' := by
  have := h.le
  exact ⟨h.bl.grown hgr (by omega) (fun k e => by cases e; exact hk.1), own_keep h.own hgr (fun j e => by cases e; exact hk.2), Nat.le_trans h.le hgr.size, hck⟩
theorem Wlr.more {w0 wr : World} {B0 B1 : Nat} {v : Value} {ts : List Str} {k : Nat} {p : Str} (h : Wlr w0 wr B0 B1 v ts k p) (hB : B0 ≤ B1) (hk : k < B1) (hn : ts.length ≤ 20000) (s : Str) (u : ByteArray) (hu : ⟨s.toArray⟩ = u) (ty : TypeId) :
    ∃ v' W', (Builtin.append_ #[63, 63] ty #[v, .slice (some ⟨wr.heap.size, 0, none⟩) 1 1]).run Tryz.prog (wr.alloc (.cells #[.string u] 9)) = .ok v' W' ∧ Wlr w0 W' B0 B1 v' (ts ++ [s]) k p := by
  obtain ⟨v', W', hr, ho, hgr⟩ := own_more h.own h.le hn s u hu ty
  have h1 := h.below hB ((Below.refl _ wr).alloc (Nat.le_refl _) (.cells #[.string u] 9))
  have hj : ∀ j, v.ownBlock = some j → B1 ≤ j := fun j e => (own_lt h.own j e).1
  have := h1.le
  exact ⟨v', W', hr, h1.bl.grown hgr (by omega) (fun k e => by have := hj k e; omega), ho, Nat.le_trans h1.le hgr.size, h1.ck.kept hgr (fun e => by have := hj _ e.symm; omega)⟩
def PostWLr (l : List Rf) (w0 : World) (B0 : Nat) (e : Ending) (w' : World) : Prop :=
  Below B0 w0 w' ∧ B0 ≤ w'.heap.size ∧ ((OkR l ∧ ∃ v, e = .returned (.tuple #[v, .nilIface]) ∧ w'.ownsRow B0 9 1 v (l.map rfT).length ((l.map rfT).flatMap encS)) ∨ (¬ OkR l ∧ e = .returned (.tuple #[.slice none 0 0, .iface 37 (.int .i64 111)])))
set_option maxRecDepth 20000 in
set_option maxHeartbeats 4000000 in
theorem writeListR_any {w w0 : World} {B0 k : Nat} (hb : Below B0 w0 w) (h0 : w0.heap.size = B0) (hk : Boxed w k 9 (.string ⟨#[]⟩)) (hk0 : B0 ≤ k) (h1 : 1 < B0) (hm : Nm.Mx w0)
    (a : Option Addr) (cap : Nat) (l : List Rf) (hP : PRf w0 a cap l) (hl : FitR l) :
    Calls Tryz.prog 27 #[.slice a l.length cap, .int .i64 500, .func (.func 28) #[] #[.pointer (some ⟨k, 0, none⟩)]] w (PostWLr l w0 B0) := by
  obtain ⟨m, HM⟩ : ∃ n, Hid (l.length = n) := ⟨_, rfl⟩
  obtain ⟨B1, HB1⟩ : ∃ n, Hid (w.heap.size = n) := ⟨_, rfl⟩
  have HLT : Hid (B0 ≤ B1 ∧ k < B1) := hid (by
    have h1 := hb.size
    have h5 := hk.lt
    have h6 := HB1.out
    omega)
  have HKB : Hid (B0 ≤ k) := hid hk0
  have HB0S := hid hb
  by_cases hbig : 500 < m
  · have hbi : (500 : Int) < (m : Int) := by omega
    have HNO : Hid (¬ OkR l) := hid (fun h => by have := h.2; have := HM.out; omega)
    have HSZ : Hid (B0 ≤ w.heap.size) := hid (by have := hb.size; omega)
    rw [HM.out]
    clear hb h0 hk hk0 hP hl hm
    go_enter Tryz.func27, Tryz.ntmps27
    go_wp2
    refine bodyPost_ret (results_tmp2 Tryz.results27 _ _ _) rfl ?_
    exact ⟨HB0S.out, HSZ.out, .inr ⟨HNO.out, rfl⟩⟩
  · have hbi : ¬ (500 : Int) < (m : Int) := by omega
    have HPA : Hid (∀ W, Below B0 w0 W → PRf W a cap l) := hid (fun W hW => hP.below (by rw [h0]; exact hW))
    have HPL : Hid (0 < m → ∃ b off, a = some ⟨b, off, none⟩) := hid (fun h => by
      obtain ⟨b, off, e1, _⟩ := hP.at_ (by rw [HM.out]; exact h)
      exact ⟨b, off, e1⟩)
    have HMX : Hid (∀ W, Below B0 w0 W → Nm.Mx W) := hid (fun W hW => Mx_kept hm (grown_of_below (by rw [h0]; exact hW) none) (by simp))
    have HIL := hid hl
    have S0 : Hid (Wlr w0 w B0 B1 (.slice none 0 0) ((l.take 0).map rfT) k (prevN l 0)) := hid ⟨hb, ⟨rfl, .inl ⟨rfl, rfl⟩⟩, by rw [HB1.out]; exact Nat.le_refl _, hk⟩
    obtain ⟨zr, HZR⟩ : ∃ z : Array Value, Hid (z = (encR zrf).toArray) := ⟨_, hid rfl⟩
    have hzs : zr.size = 21 := by rw [HZR.out]; rfl
    have hz70 : ∀ w : World, (zeroValue 70).run Tryz.prog w = .ok (.agg zr) w := fun w => by rw [HZR.out]; exact zero70 w
    have CF : Hid (∀ (W : World) (x : Rf) (Y : List Value) (p : Str), Hid (encR x = Y) → (x.1.length ≤ 1000000000000000 ∧ IdW x.2) → Boxed W k 9 (.string ⟨p.toArray⟩) → Below B0 w0 W → Calls Tryz.prog 28 #[.agg Y.toArray, .pointer (some ⟨k, 0, none⟩)] W (PostWr x p k W)) := hid (fun W x Y p hY hx hck hW => by
      rw [← hY.out]
      exact writeRfF_any p hck (by have := HKB.out; omega) x hx.1 hx.2 (HMX.out W hW))
    rw [HM.out]
    clear hb h0 hk hk0 hP hl hm
    go_enter Tryz.func27, Tryz.ntmps27
    go_wp2_with fail
    go_loopg [8, 20] m (fun gg tv iv wr => ∃ i : Nat, i ≤ m ∧ gg = m - i ∧ iv = .int .i64 i ∧ Hid (Wlr w0 wr B0 B1 tv ((l.take i).map rfT) k (prevN l i)) ∧ Hid (∀ j, j < i → okAt l j))
    case atStart => exact ⟨0, Nat.zero_le _, rfl, rfl, S0, hid (fun j hj => by omega)⟩
    case round =>
      obtain ⟨i, hi, hkk, rfl, HS, HND⟩ := hrel
      by_cases hlt : i < m
      · have hlti : (i : Int) < (m : Int) := by omega
        obtain ⟨b, off, rfl⟩ := HPL.out (by omega)
        have hil : i < l.length := by rw [HM.out]; exact hlt
        obtain ⟨x, HX⟩ : ∃ x, Hid (l.getD i rf0 = x) := ⟨_, rfl⟩
        have HXF := hid (HIL.out x (by rw [← HX.out]; exact getD_mem l i _ hil))
        obtain ⟨Y, HY⟩ : ∃ R : List Value, Hid (encR x = R) := ⟨_, rfl⟩
        have HYL : Hid (Y.length = 21) := hid (by rw [← HY.out]; exact encR_len HXF.out.2)
        have hiY : (Tryz.prog.info? 70).map (·.size) = some Y.length := by rw [HYL.out]; exact size70
        have RR : Hid (wr.rangeAt b (off + i * 21) Y) := hid (by
          obtain ⟨b', off', e1, _, e3⟩ := (HPA.out wr HS.out.bl).at_ (by rw [HM.out]; omega)
          cases e1
          have := e3 i hil
          rw [HX.out, HY.out] at this
          exact this)
        obtain ⟨P, HPP⟩ : ∃ P, Hid (wr.heap.size = P) := ⟨_, rfl⟩
        obtain ⟨w2, hw2, ht2, hb2, hr2⟩ := st_new wr 70 zr Y (by rw [HYL.out, hzs])
        obtain ⟨wa, HWA⟩ : ∃ W, Hid (wr.alloc (.cells zr 70) = W) := ⟨_, rfl⟩
        rw [HWA.out, HPP.out] at hw2 ht2
        rw [HPP.out] at hr2
        have HW2 := hid hw2
        have T1 := hid ht2
        have T2 : Hid ((Tryz.prog.info? 70).map (·.size) = some Y.toArray.size) := hid (by rw [List.size_toArray]; exact hiY)
        have T3 : Hid (Y.toArray.all (·.oneCell') = true) := hid (by rw [← HY.out]; exact all_oneCell_toArray (encR_one x))
        have R2 := hid hr2
        have S2 : Hid (Wlr w0 w2 B0 B1 u8 ((l.take i).map rfT) k (prevN l i)) := hid (HS.out.below HLT.out.1 hb2)
        have al1 : wr.alloc (.cells zr 70) = wa := HWA.out
        have hsw : wr.heap.size = P := HPP.out
        have HCC := hid (CF.out w2 x Y (prevN l i) HY HXF.out S2.out.ck S2.out.bl)
        have HTK : Hid ((l.take (i + 1)).map rfT = (l.take i).map rfT ++ [rfT x]) := hid (by rw [take_snocG rf0 l i hil, HX.out]; simp)
        have HAT : Hid (okAt l i ↔ (Nm.isN x.1 = true ∧ Op.bytesLess (prevN l i) x.1 = true)) := hid (by rw [← HX.out]; exact okAt_prev)
        have HIL2 := hid hil
        clear hw2 ht2 hb2 hr2 hil
        go_wp2_with (first
          | (refine wpList_load_mid rfl 70 _ rfl b (off + i * 21) rfl Y _ RR.out Tryz.underlying70 rfl hiY ?_)
          | (refine wpList_load_mid rfl 70 _ rfl P 0 rfl Y _ R2.out Tryz.underlying70 rfl hiY ?_)
          | (refine wpList_store_mid rfl 70 _ _ rfl P 0 Y.toArray rfl rfl T1.out T2.out T3.out ?_; rw [HW2.out])
          | fail)
        clear al1 hsw
        refine HCC.out.mono ?_
        rintro e w3 ⟨hg3, ⟨hs, u, rfl⟩ | ⟨hs, rfl, ho3⟩⟩
        · have HF : Hid (Below B0 w0 w3) := hid (S2.out.bl.grown hg3 (by have := S2.out.le; have := HLT.out; omega) (fun k e => by cases e; exact HKB.out))
          have HFS : Hid (B0 ≤ w3.heap.size) := hid (by have := S2.out.le; have := HLT.out; have := hg3.size; omega)
          have HNN : Hid (¬ OkR l) := hid (fun h => hs (HAT.out.1 (h.1 i HIL2.out)))
          clear hg3 hs
          go_wp2
          refine bodyPost_ret (results_tmp2 Tryz.results27 _ _ _) rfl ?_
          exact ⟨HF.out, HFS.out, .inr ⟨HNN.out, rfl⟩⟩
        · have S3 : Hid (Wlr w0 w3 B0 B1 u8 ((l.take i).map rfT) k (prevN l (i + 1))) := hid (S2.out.turn HLT.out.1 ⟨HKB.out, HLT.out.2⟩ hg3 (by
            unfold prevN
            rw [if_neg (by omega), Nat.add_sub_cancel, HX.out]
            exact ho3))
          have HN3 : Hid (∀ j, j < i + 1 → okAt l j) := hid (fun j hj => by
            by_cases hji : j < i
            · exact HND.out j hji
            · have : j = i := by omega
              subst this
              exact HAT.out.2 hs)
          obtain ⟨Z, HZ⟩ : ∃ Z : ByteArray, Hid (⟨(rfT x).toArray⟩ = Z) := ⟨_, hid rfl⟩
          rw [HZ.out]
          obtain ⟨v5, W5, hr5, hs5⟩ := S3.out.more HLT.out.1 HLT.out.2 (by rw [List.length_map, List.length_take]; omega) (rfT x) Z HZ.out 63
          have hbs := run_txt Z w3
          obtain ⟨W4, HW4⟩ : ∃ W, Hid (w3.alloc (.cells #[.string Z] 9) = W) := ⟨_, rfl⟩
          rw [HW4.out] at hr5 hbs
          have S5 : Hid (Wlr w0 W5 B0 B1 v5 ((l.take (i + 1)).map rfT) k (prevN l (i + 1))) := hid (by rw [HTK.out]; exact hs5)
          clear hg3 hs ho3 hs5
          go_wp2_with (first | (refine wpList_bSY rfl 63 1 _ rfl (.string Z) _ rfl hbs ?_) | (at_builtin; refine wpList_app rfl _ _ 63 63 rfl 63 rfl _ _ rfl rfl hr5 ?_) | fail)
          go_roundg (m - (i + 1))
          case measure => omega
          case rel => exact ⟨i + 1, by omega, rfl, by go_num, S5, HN3⟩
      · have hlti : ¬ (i : Int) < (m : Int) := by omega
        have HTA : Hid (l.take i = l) := hid (List.take_of_length_le (by rw [HM.out]; omega))
        have HF : Hid (Wlr w0 wr B0 B1 u8 (l.map rfT) k (prevN l i)) := hid (by have := HS.out; rw [HTA.out] at this; exact this)
        have HNF : Hid (OkR l) := hid ⟨fun j hj => HND.out j (by have := HM.out; omega), by have := HM.out; omega⟩
        clear HS HND HTA
        go_wp2
        refine bodyPost_ret (results_tmp2 Tryz.results27 _ _ _) rfl ?_
        exact ⟨HF.out.bl, Nat.le_trans HLT.out.1 HF.out.le, .inl ⟨HNF.out, _, rfl, base_mono HF.out.own HLT.out.1⟩⟩
end Go.Proofs.YtijeogdnjeamaaaGreatDoor
namespace Go.Proofs.YtijeogdnjeamaaaGreatDoor
open Go.RowKit
set_option linter.unusedVariables false
set_option linter.unusedSimpArgs false
theorem Tryz.results26 : Tryz.f26.results = #[.tmp 2, .tmp 3] := by kernel_rfl
theorem ps_nil (w : World) : PS w none 0 [] := ⟨Nat.le_refl _, fun h => by simp at h, fun _ => rfl⟩
def PostWh (h : Str) (w : World) (e : Ending) (w' : World) : Prop :=
  Below w.heap.size w w' ∧ (((h = [] ∨ Nm.isN h = true) ∧ ∃ a c, e = .returned (.tuple #[.slice a (hdL h).length c, .nilIface]) ∧ PS w' a c (hdL h)) ∨ (¬ (h = [] ∨ Nm.isN h = true) ∧ e = .returned (.tuple #[.slice none 0 0, .iface 37 (.int .i64 111)])))
set_option maxRecDepth 20000 in
theorem writeHead_any {w : World} (h : Str) (hl : h.length ≤ 1000000000000000) (hm : Nm.Mx w) : Calls Tryz.prog 26 #[.string ⟨h.toArray⟩] w (PostWh h w) := by
  obtain ⟨X, HX⟩ : ∃ X : ByteArray, Hid (⟨h.toArray⟩ = X) := ⟨_, hid rfl⟩
  by_cases h0 : h = []
  · have hX : X = ⟨#[]⟩ := by rw [← HX.out, h0]
    have HQ : Hid (PS w none 0 (hdL h)) := hid (by rw [h0]; exact ps_nil w)
    have HLN : Hid ((hdL h).length = 0) := hid (by rw [h0]; rfl)
    have HOK : Hid (h = [] ∨ Nm.isN h = true) := hid (.inl h0)
    unfold PostWh
    rw [HX.out, HLN.out]
    subst hX
    clear hm h0
    go_enter Tryz.func26, Tryz.ntmps26
    go_wp2
    refine bodyPost_ret (results_tmp2 Tryz.results26 _ _ _) rfl ?_
    exact ⟨Below.refl _ _, .inl ⟨HOK.out, none, 0, rfl, HQ.out⟩⟩
  · have hne : (X.toList == []) = false := by rw [← HX.out]; simp; exact h0
    have C29 : Hid (Calls Tryz.prog 29 #[.string X] w fun e w' => e = .returned (.bool (Nm.isN h)) ∧ Below w.heap.size w w') := hid (by
      rw [← HX.out]
      exact isName2 h hl w hm)
    have HH0 := hid h0
    have hXs : X.size ≤ 1000000000000000 := by rw [← HX.out, txt_len]; exact hl
    have h5 : (⟨#[104, 101, 97, 100, 32]⟩ : ByteArray).size = 5 := rfl
    unfold PostWh
    rw [HX.out]
    clear hm h0 hl
    go_enter Tryz.func26, Tryz.ntmps26
    go_wp2_with fail
    refine C29.out.mono ?_
    rintro e w1 ⟨rfl, hb1⟩
    have HB1 := hid hb1
    clear hb1
    by_cases hN : Nm.isN h = true
    · obtain ⟨Z, HZ⟩ : ∃ Z : ByteArray, Hid ((⟨#[104, 101, 97, 100, 32]⟩ : ByteArray) ++ X = Z) := ⟨_, hid rfl⟩
      have hcat : (⟨#[104, 101, 97, 100, 32]⟩ : ByteArray) ++ X = Z := HZ.out
      have HZT : Hid ((⟨(hWo ++ h).toArray⟩ : ByteArray) = Z) := hid (by rw [← HZ.out, ← HX.out]; exact (str_app hWo h).symm)
      obtain ⟨K, HK⟩ : ∃ n, Hid (w1.heap.size = n) := ⟨_, rfl⟩
      obtain ⟨wa, HWA⟩ : ∃ u, Hid (w1.alloc (.cells #[.string Z] 9) = u) := ⟨_, rfl⟩
      have r1 := run_txt Z w1
      rw [HWA.out, HK.out] at r1
      have HLN : Hid ((hdL h).length = 1) := hid (by unfold hdL; rw [if_neg HH0.out]; rfl)
      have HQ : Hid (PS wa (some ⟨K, 0, none⟩) 1 (hdL h)) := hid (by
        unfold hdL
        rw [if_neg HH0.out, ← HWA.out, ← HK.out]
        exact ps_one w1 (hWo ++ h) _ HZT.out)
      have HB2 : Hid (Below w.heap.size w wa) := hid (by rw [← HWA.out]; exact HB1.out.alloc HB1.out.size _)
      have HOK : Hid (h = [] ∨ Nm.isN h = true) := hid (.inr hN)
      rw [hN]
      clear hN
      go_wp2_with (first | (refine wpList_bSY rfl 63 1 _ rfl (.string Z) _ rfl r1 ?_) | fail)
      refine bodyPost_ret (results_tmp2 Tryz.results26 _ _ _) rfl ?_
      exact ⟨HB2.out, .inl ⟨HOK.out, some ⟨K, 0, none⟩, 1, by rw [HLN.out]; rfl, HQ.out⟩⟩
    · have hNf : Nm.isN h = false := by simpa using hN
      have HOK : Hid (¬ (h = [] ∨ Nm.isN h = true)) := hid (fun k => k.elim HH0.out hN)
      rw [hNf]
      clear hN hNf
      go_wp2
      refine bodyPost_ret (results_tmp2 Tryz.results26 _ _ _) rfl ?_
      exact ⟨HB1.out, .inr ⟨HOK.out, rfl⟩⟩
theorem wpList_bS3 {P : Program} {ops : Array Oper} {rest : List Oper} {o : Oper} {a : Act} {w w' : World} {Q : Exit → Act → World → Prop} (hg : o.guard = none) (t : Nat) (x0 x1 x2 : Operand) (ho : o.op = .buildSlice t 3 #[(0, x0), (1, x1), (2, x2)]) (u0 u1 u2 v : Value) (h0 : a.eval x0 = u0) (h1 : a.eval x1 = u1) (h2 : a.eval x2 = u2)
    (hr : (Instr.buildSlice t 3 #[(0, u0), (1, u1), (2, u2)]).run P w = .ok v w')
    (h : wpList P ops Q rest (a.put o.dst v) w') : wpList P ops Q (o :: rest) a w := by
  refine wpList_plain hg fun K hK => ?_
  unfold Oper.wp execOp
  simp [ho, h0, h1, h2, hr, Result.andThen]
  exact hK _ _ h
theorem run_rows3 (a0 a1 a2 : Option Addr) (n0 n1 n2 c0 c1 c2 : Nat) (w : World) : (Instr.buildSlice 115 3 #[(0, .slice a0 n0 c0), (1, .slice a1 n1 c1), (2, .slice a2 n2 c2)]).run Tryz.prog w = .ok (.slice (some ⟨w.heap.size, 0, none⟩) 3 3) (w.alloc (.cells #[.slice a0 n0 c0, .slice a1 n1 c1, .slice a2 n2 c2] 63)) := by kernel_rfl
def PostWo (h : Str) (l : List Rf) (w : World) (e : Ending) (w' : World) : Prop :=
  Below w.heap.size w w' ∧ ((OkO h l ∧ ∃ v, e = .returned (.tuple #[v, .nilIface]) ∧ w'.ownsRow w.heap.size 5 1 v (ofB h l).length (bv (ofB h l))) ∨ (¬ OkO h l ∧ e = .returned (.tuple #[.slice none 0 0, .iface 37 (.int .i64 111)])))
theorem Tryz.results7 : Tryz.f7.results = #[.tmp 2, .tmp 3] := by kernel_rfl
theorem ofL_flat (h : Str) (l : List Rf) : [hdL h, l.map rfT, [[]]].flatten = ofL h l := by simp [ofL]
theorem hdL_cnt (h : Str) : (hdL h).length ≤ 1 := by
  unfold hdL
  split <;> simp
set_option maxRecDepth 20000 in
set_option maxHeartbeats 1000000 in
theorem writeOffer_any {w : World} (h : Str) (hh : h.length ≤ 1000000000000000) (a : Option Addr) (cap : Nat) (l : List Rf) (hP : PRf w a cap l) (hl : FitR l) (hm : Nm.Mx w) (h1 : 1 < w.heap.size) (hd : Db w) :
    Calls Tryz.prog 7 #[.agg #[.string ⟨h.toArray⟩, .slice a l.length cap]] w (PostWo h l w) := by
  obtain ⟨n, HN⟩ : ∃ n, Hid (l.length = n) := ⟨_, rfl⟩
  obtain ⟨X, HX⟩ : ∃ X : ByteArray, Hid (⟨h.toArray⟩ = X) := ⟨_, hid rfl⟩
  obtain ⟨G, HG⟩ : ∃ n, Hid (w.heap.size = n) := ⟨_, rfl⟩
  have HG1 : Hid (1 < G) := hid (by rw [← HG.out]; exact h1)
  obtain ⟨w1, HW1⟩ : ∃ u, Hid (w.alloc (.cells #[.string X, .slice a n cap] 24) = u) := ⟨_, rfl⟩
  have hb1 : Below G w w1 := by rw [← HW1.out, ← HG.out]; exact (Below.refl _ w).alloc (Nat.le_refl _) _
  have hs1 : w1.heap.size = G + 1 := by rw [← HW1.out, ← HG.out]; exact size_alloc _ _
  have hn1 : w1.heap[G]? = some (.cells #[.string X, .slice a n cap] 24 (0, 0)) := by rw [← HW1.out, ← HG.out]; exact heap_alloc_new _ _
  have hc0 : w1.cell? ⟨G, 0, none⟩ = some (.string X) := by rw [cell_of_row _ G 0 _ _ _ hn1]; rfl
  have hc1 : w1.cell? ⟨G, 1, none⟩ = some (.slice a n cap) := by rw [cell_of_row _ G 1 _ _ _ hn1]; rfl
  have HB1 := hid hb1
  have HS1 := hid hs1
  have HMX : Hid (∀ W, Below G w W → Nm.Mx W ∧ Db W) := hid (fun W hW => by
    have hw : Below w.heap.size w W := by rw [HG.out]; exact hW
    exact ⟨Mx_kept hm (grown_of_below hw none) (by simp), hd.below hw⟩)
  have C26 : Hid (Calls Tryz.prog 26 #[.string X] w1 (PostWh h w1)) := hid (by
    rw [← HX.out]
    exact writeHead_any h hh (HMX.out w1 hb1).1)
  have C27 : Hid (∀ (W W0 : World) (B0 k : Nat), Below G w W0 → W0.heap.size = B0 → Below B0 W0 W → Boxed W k 9 (.string ⟨#[]⟩) → B0 ≤ k → Calls Tryz.prog 27 #[.slice a n cap, .int .i64 500, .func (.func 28) #[] #[.pointer (some ⟨k, 0, none⟩)]] W (PostWLr l W0 B0)) := hid (fun W W0 B0 k hW0 h0 hW hk hkB => by
    rw [← HN.out]
    have hs : G ≤ B0 := by have := hW0.size; have := HG.out; omega
    exact writeListR_any hW h0 hk hkB (by have := HG1.out; omega) (HMX.out W0 hW0).1 a cap l (hP.below (by rw [HG.out]; exact hW0)) hl)
  have HIR : Hid (IdR l) := hid hl.ids
  have al1 : w.alloc (.cells #[.string X, .slice a n cap] 24) = w1 := HW1.out
  have hs0 : w.heap.size = G := HG.out
  unfold PostWo
  rw [HN.out, HG.out, HX.out]
  clear hP hl hm hd hb1 hs1 hn1 h1 hh
  go_enter Tryz.func7, Tryz.ntmps7
  go_wp2_with fail
  refine C26.out.mono ?_
  rintro e w2 ⟨hb2, ⟨hok, ah, ch, rfl, hph⟩ | ⟨hok, rfl⟩⟩
  · have HB2 : Hid (Below G w w2) := hid (HB1.out.trans (hb2.mono (by rw [HS1.out]; omega)))
    have k1 : w2.cell? ⟨G, 1, none⟩ = some (.slice a n cap) := (hb2.cell (p := ⟨G, 1, none⟩) (cell_lt hc1)).trans hc1
    have HOK := hid hok
    have HPH := hid hph
    obtain ⟨nh, HNH⟩ : ∃ n, Hid ((hdL h).length = n) := ⟨_, rfl⟩
    obtain ⟨R, HR⟩ : ∃ n, Hid (w2.heap.size = n) := ⟨_, rfl⟩
    obtain ⟨w3, HW3⟩ : ∃ u, Hid (w2.alloc (.cells #[.string ⟨#[]⟩] 9) = u) := ⟨_, rfl⟩
    have hbx3 : Boxed w3 R 9 (.string ⟨#[]⟩) := by rw [← HW3.out, ← HR.out]; exact Boxed.new _ _ _
    obtain ⟨w4, HW4⟩ : ∃ u, Hid (w3.setCell ⟨R, 0, none⟩ (.string ⟨#[]⟩) = u) := ⟨_, rfl⟩
    have hbx4 : Boxed w4 R 9 (.string ⟨#[]⟩) := by rw [← HW4.out]; exact hbx3.set _
    have hc3 := hbx3.cell
    have hf3 := hbx3.frozen
    have hg3 : w2.grownBy w3 none := by rw [← HW3.out]; exact World.grownBy_alloc _ _ _
    have hg4 : w3.grownBy w4 (some R) := by rw [← HW4.out]; exact grownBy_setCell' _ _ _
    have hst : (store ⟨R, 0, none⟩ (.string ⟨#[]⟩)).run Tryz.prog w3 = .ok () w4 := by
      rw [run_store _ _ _ _ _ rfl, hc3]
      simp [hf3, HW4.out]
    have hb24 : Below R w2 w4 := by
      have e1 : Below R w2 w3 := by rw [← HW3.out, ← HR.out]; exact (Below.refl _ _).alloc (Nat.le_refl _) _
      exact e1.grown hg4 (by have := e1.size; have := HR.out; omega) (fun k e => by cases e; exact Nat.le_refl _)
    have HB24 := hid hb24
    have k4 : w4.cell? ⟨G, 1, none⟩ = some (.slice a n cap) := (hb24.cell (p := ⟨G, 1, none⟩) (by have := cell_lt k1; rw [HR.out] at this; exact this)).trans k1
    have CC := hid (C27.out w4 w2 R R HB2.out HR.out hb24 hbx4 (Nat.le_refl _))
    have al3 : w2.alloc (.cells #[.string ⟨#[]⟩] 9) = w3 := HW3.out
    have al4 : w3.setCell ⟨R, 0, none⟩ (.string ⟨#[]⟩) = w4 := HW4.out
    have hsR : w2.heap.size = R := HR.out
    have HGR : Hid (G ≤ R) := hid (by have := HB2.out.size; have := HG.out; have := HR.out; omega)
    rw [HNH.out]
    clear hb2 hok hph hbx3 hbx4 hg3 hg4 hb24 k1 hc0 hc1 al1
    go_wp2_with fail
    refine CC.out.mono ?_
    rintro e w5 ⟨hb5, hs5, ⟨hok, v1, rfl, hown⟩ | ⟨hok, rfl⟩⟩
    · have hx1 : Bx encS 1 9 w2 w5 R v1 (l.map rfT) := ⟨hb5, hown, hs5⟩
      obtain ⟨a1, c1, rfl, hp1, _⟩ := hx1.px (d := []) (encS_len _)
      have HOO : Hid (OkO h l) := hid ⟨HOK.out, hok⟩
      obtain ⟨K, HK⟩ : ∃ n, Hid (w5.heap.size = n) := ⟨_, rfl⟩
      obtain ⟨k1, HK1⟩ : ∃ n, Hid ((l.map rfT).length = n) := ⟨_, rfl⟩
      obtain ⟨wa, HWA⟩ : ∃ u, Hid (w5.alloc (.cells #[.string ⟨#[]⟩] 9) = u) := ⟨_, rfl⟩
      have hsa : wa.heap.size = K + 1 := by rw [← HWA.out, ← HK.out]; exact size_alloc _ _
      obtain ⟨wc, HWC⟩ : ∃ u, Hid (wa.alloc (.cells #[.slice ah nh ch, .slice a1 k1 c1, .slice (some ⟨K, 0, none⟩) 1 1] 63) = u) := ⟨_, rfl⟩
      have r1 := run_txt ⟨#[]⟩ w5
      have r3 := run_rows3 ah a1 (some ⟨K, 0, none⟩) nh k1 1 ch c1 1 wa
      rw [HWA.out, HK.out] at r1
      rw [HWC.out, hsa] at r3
      have hba : Below w5.heap.size w5 wa := by rw [← HWA.out]; exact (Below.refl _ _).alloc (Nat.le_refl _) _
      have hbc : Below wa.heap.size wa wc := by rw [← HWC.out]; exact (Below.refl _ _).alloc (Nat.le_refl _) _
      have hp0 : PS wa (some ⟨K, 0, none⟩) 1 [[]] := by rw [← HWA.out, ← HK.out]; exact ps_one w5 [] _ rfl
      have hph5 : PS w5 ah ch (hdL h) := HPH.out.below (by rw [HR.out]; exact hb5)
      have hcell : ∀ i v, (#[.slice ah nh ch, .slice a1 k1 c1, .slice (some ⟨K, 0, none⟩) 1 1] : Array Value)[i]? = some v → wc.cell? ⟨K + 1, i, none⟩ = some v := fun i v hv => by
        rw [cell_of_row wc (K + 1) i _ 63 (0, 0) (by rw [← HWC.out, ← hsa]; exact heap_alloc_new _ _)]
        exact hv
      have hRw : Rws wc (K + 1) 3 (fun i => [ah, a1, some ⟨K, 0, none⟩].getD i none) (fun i => [ch, c1, 1].getD i 0) [hdL h, l.map rfT, [[]]] := {
        len := rfl
        lt := by rw [← HWC.out, size_alloc, hsa]; omega
        cell := fun i hi => by
          have e4 : i = 0 ∨ i = 1 ∨ i = 2 := by omega
          rcases e4 with rfl | rfl | rfl
          · show _ = some (Value.slice ah (hdL h).length ch)
            rw [HNH.out]; exact hcell 0 _ rfl
          · show _ = some (Value.slice a1 (l.map rfT).length c1)
            rw [HK1.out]; exact hcell 1 _ rfl
          · exact hcell 2 _ rfl
        ps := fun i hi => by
          have e4 : i = 0 ∨ i = 1 ∨ i = 2 := by omega
          rcases e4 with rfl | rfl | rfl
          · exact (hph5.below hba).below hbc
          · exact (hp1.below hba).below hbc
          · exact hp0.below hbc }
      have hGw : Below G w wc := by
        have h3 := HK.out
        have h4 : Below G w w5 := HB2.out.trans (hb5.mono HGR.out)
        have h5 := HGR.out
        exact (h4.trans (hba.mono (by omega))).trans (hbc.mono (by omega))
      have CT : Hid (Calls Tryz.prog 31 #[.slice (some ⟨K + 1, 0, none⟩) 3 3] wc (PostNu wc.heap.size (ofB h l) wc)) := hid (by
        have := writeRows_any hRw (by omega) 3 (by rw [ofL_flat]; unfold ofL; rw [List.length_append, List.length_append, List.length_map]; have := HOO.out.2.2; have := hdL_cnt h; simp; omega) (by rw [ofL_flat]; exact fun s hs => Nat.le_trans (ofL_len HOO.out HIR.out s hs) (by omega)) (HMX.out wc hGw).2
        rw [ofL_flat] at this
        exact this)
      have HGW := hid hGw
      have HGS : Hid (G ≤ wc.heap.size) := hid (by have := HK.out; have := hbc.size; have := HGR.out; omega)
      have hkk : w5.heap.size = K := HK.out
      rw [HK1.out]
      clear hx1 hp0 hp1 hph5 hcell hRw hGw hba hbc hb5 hs5 hok hown
      go_wp2_with (first | (refine wpList_bSY rfl 63 1 _ rfl (.string ⟨#[]⟩) _ rfl r1 ?_) | (refine wpList_bS3 rfl 115 _ _ _ rfl (.slice ah nh ch) (.slice a1 k1 c1) (.slice (some ⟨K, 0, none⟩) 1 1) _ rfl rfl rfl r3 ?_) | fail)
      refine CT.out.mono ?_
      rintro e w6 ⟨v5, rfl, ho5, hb6, hs6⟩
      have HO5 : Hid (w6.ownsRow G 5 1 v5 (ofB h l).length (bv (ofB h l))) := hid (base_mono ho5 HGS.out)
      have HB5 : Hid (Below G w w6) := hid (HGW.out.trans (hb6.mono HGS.out))
      clear ho5 hb6 hs6
      go_wp2
      refine bodyPost_ret (results_tmp2 Tryz.results7 _ _ _) rfl ?_
      exact ⟨HB5.out, .inl ⟨HOO.out, _, rfl, HO5.out⟩⟩
    · have HB5 : Hid (Below G w w5) := hid (HB2.out.trans (hb5.mono HGR.out))
      have HNO : Hid (¬ OkO h l) := hid (fun k => hok k.2)
      clear hb5 hs5 hok
      go_wp2
      refine bodyPost_ret (results_tmp2 Tryz.results7 _ _ _) rfl ?_
      exact ⟨HB5.out, .inr ⟨HNO.out, rfl⟩⟩
  · have HB2 : Hid (Below G w w2) := hid (HB1.out.trans (hb2.mono (by rw [HS1.out]; omega)))
    have HNO : Hid (¬ OkO h l) := hid (fun k => hok k.1)
    clear hb2 hok
    go_wp2
    refine bodyPost_ret (results_tmp2 Tryz.results7 _ _ _) rfl ?_
    exact ⟨HB2.out, .inr ⟨HNO.out, rfl⟩⟩
end Go.Proofs.YtijeogdnjeamaaaGreatDoor
namespace Go.Proofs.YtijeogdnjeamaaaGreatDoor
open Go.RowKit
set_option linter.unusedVariables false
set_option linter.unusedSimpArgs false
theorem cutStr (s p : Str) (hs : s.length ≤ 100000) (w : World) (hm : Nm.Mx w) : Calls Tryz.prog 122 #[.string ⟨s.toArray⟩, .string ⟨p.toArray⟩] w fun e w' => e = .returned (.tuple #[.string ⟨(Lib.cut s p).1.toArray⟩, .string ⟨(Lib.cut s p).2.1.toArray⟩, .bool (Lib.cut s p).2.2]) ∧ Below w.heap.size w w' := by
  obtain ⟨m, hm⟩ := hm
  refine (Any.strings_Cut Tryz.lays145 ⟨s.toArray⟩ ⟨p.toArray⟩ m w (by rw [txt_len]; omega) hm).mono ?_
  rintro e w' ⟨rfl, n, rfl⟩
  exact ⟨rfl, below_drewH (Below.refl _ _) n⟩
end Go.Proofs.YtijeogdnjeamaaaGreatDoor
namespace Go.Proofs.YtijeogdnjeamaaaGreatDoor
open Go.RowKit
set_option linter.unusedVariables false
set_option linter.unusedSimpArgs false
def zch : Chg := ([], (z20, z20))
theorem zch_wf : IdW zch.2.1 ∧ IdW zch.2.2 := by
  have h : IdW z20 := ⟨by decide, by intro n hn; rw [List.eq_of_mem_replicate hn]; decide⟩
  exact ⟨h, h⟩
theorem wpList_build0 {P : Program} {ops : Array Oper} {rest : List Oper} {o : Oper} {a : Act} {w w' : World} {Q : Exit → Act → World → Prop} (hg : o.guard = none) (t : Nat) (ho : o.op = .build t #[]) (v : Value)
    (hr : (Instr.build t #[]).run P w = .ok v w')
    (h : wpList P ops Q rest (a.put o.dst v) w') : wpList P ops Q (o :: rest) a w := by
  refine wpList_plain hg fun K hK => ?_
  unfold Oper.wp execOp
  simp [ho, hr, Result.andThen]
  exact hK _ _ h
end Go.Proofs.YtijeogdnjeamaaaGreatDoor
