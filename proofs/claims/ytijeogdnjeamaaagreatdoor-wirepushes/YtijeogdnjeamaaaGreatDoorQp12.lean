import Derived.Test.YtijeogdnjeamaaaGreatDoorQp11
import Derived.Test.YtijeogdnjeamaaaGreatDoorQp10
namespace Go.Proofs.YtijeogdnjeamaaaGreatDoor
open Go.RowKit
set_option linter.unusedVariables false
set_option linter.unusedSimpArgs false
abbrev PCh (w : World) (a : Option Addr) (cap : Nat) (l : List Chg) : Prop := Px encCh 41 ch0 w a cap l
abbrev BCh (e : TypeId) (w0 w : World) (B : Nat) (v : Value) (l : List Chg) : Prop := Bx encCh 41 e w0 w B v l
theorem encCh_one : ∀ x : Chg, ∀ v ∈ encCh x, v.oneCell' = true := fun x v hv => by
  rcases List.mem_cons.1 hv with rfl | hv
  · rfl
  · rcases List.mem_append.1 hv with hv | hv
    · exact row_oneC _ v hv
    · exact row_oneC _ v hv
def FitC (l : List Chg) : Prop := ∀ x ∈ l, x.1.length ≤ 1000000000000000 ∧ IdW x.2.1 ∧ IdW x.2.2
theorem FitC.ids {l : List Chg} (h : FitC l) : IdC l := fun x hx => (h x hx).2
theorem zero96 (w : World) : (zeroValue 96).run Tryz.prog w = .ok (.agg (encCh ([], (z20, z20))).toArray) w := by kernel_rfl
theorem Tryz.results44 : Tryz.f44.results = #[.tmp 6, .tmp 7] := by kernel_rfl
def PostWLc (l : List Chg) (w0 : World) (B0 : Nat) (e : Ending) (w' : World) : Prop :=
  Below B0 w0 w' ∧ B0 ≤ w'.heap.size ∧ ((OkC l ∧ ∃ v, e = .returned (.tuple #[v, .nilIface]) ∧ w'.ownsRow B0 9 1 v (l.map chT).length ((l.map chT).flatMap encS)) ∨ (¬ OkC l ∧ e = .returned (.tuple #[.slice none 0 0, .iface 37 (.int .i64 111)])))
theorem not_okc {l : List Chg} {i : Nat} {x : Chg} (hi : i < l.length) (he : l.getD i ch0 = x) (hx : ¬ (okC x ∧ ¬ x.1 ∈ (l.take i).map (·.1))) : ¬ OkC l := by
  intro h
  have hm : x ∈ l := by rw [← he]; exact getD_mem l i _ hi
  refine hx ⟨h.1 x hm, fun hin => ?_⟩
  have h1 : (l.take (i + 1)).map (·.1) = (l.take i).map (·.1) ++ [x.1] := by rw [take_snocG ch0 l i hi, he]; simp
  have h2 : ((l.take (i + 1)).map (·.1)).Nodup := h.2.1.sublist (List.Sublist.map _ (List.take_sublist _ _))
  rw [h1, List.nodup_append] at h2
  exact h2.2.2 x.1 hin x.1 (by simp) rfl
set_option maxRecDepth 20000 in
set_option maxHeartbeats 4000000 in
theorem writeListC_any {w w0 : World} {B0 k c p g : Nat} (hb : Below B0 w0 w) (h0 : w0.heap.size = B0) (hon : OnS w c p g 0 (fun _ => False)) (hk : Boxed w k 92 (onmF c)) (hg0 : B0 ≤ g) (hgk : g ≠ k) (hm : Nm.Mx w0)
    (a : Option Addr) (cap : Nat) (l : List Chg) (hP : PCh w0 a cap l) (hl : FitC l) :
    Calls Tryz.prog 44 #[.slice a l.length cap, .int .i64 500, .func (.func 45) #[] #[.pointer (some ⟨k, 0, none⟩)]] w (PostWLc l w0 B0) := by
  obtain ⟨m, HM⟩ : ∃ n, Hid (l.length = n) := ⟨_, rfl⟩
  obtain ⟨B1, HB1⟩ : ∃ n, Hid (w.heap.size = n) := ⟨_, rfl⟩
  have HLT : Hid (B0 ≤ B1 ∧ g < B1 ∧ p < B1 ∧ c < B1 ∧ k < B1) := hid (by
    have h1 := hb.size
    have h2 := hon.ss.lt
    have h3 := hon.b2.lt
    have h4 := hon.b1.lt
    have h5 := hk.lt
    have h6 := HB1.out
    omega)
  have HGC : Hid (B0 ≤ g ∧ g ≠ k) := hid ⟨hg0, hgk⟩
  have HB0S := hid hb
  by_cases hbig : 500 < m
  · have hbi : (500 : Int) < (m : Int) := by omega
    have HNO : Hid (¬ OkC l) := hid (fun h => by have := h.2.2; have := HM.out; omega)
    have HSZ : Hid (B0 ≤ w.heap.size) := hid (by have := hb.size; omega)
    rw [HM.out]
    clear hb h0 hon hk hg0 hgk hP hl hm
    go_enter Tryz.func44, Tryz.ntmps44
    go_wp2
    refine bodyPost_ret (results_tmp2 Tryz.results44 _ _ _) rfl ?_
    exact ⟨HB0S.out, HSZ.out, .inr ⟨HNO.out, rfl⟩⟩
  · have hbi : ¬ (500 : Int) < (m : Int) := by omega
    have HPA : Hid (∀ W, Below B0 w0 W → PCh W a cap l) := hid (fun W hW => hP.below (by rw [h0]; exact hW))
    have HPL : Hid (0 < m → ∃ b off, a = some ⟨b, off, none⟩) := hid (fun h => by
      obtain ⟨b, off, e1, _⟩ := hP.at_ (by rw [HM.out]; exact h)
      exact ⟨b, off, e1⟩)
    have HMX : Hid (∀ W, Below B0 w0 W → Nm.Mx W) := hid (fun W hW => Mx_kept hm (grown_of_below (by rw [h0]; exact hW) none) (by simp))
    have HIL := hid hl
    have S0 : Hid (Wls w0 w B0 B1 (.slice none 0 0) ((l.take 0).map chT) k c p g 0 (fun y => y ∈ (l.take 0).map (·.1))) := hid ⟨hb, ⟨rfl, .inl ⟨rfl, rfl⟩⟩, by rw [HB1.out]; exact Nat.le_refl _, hon.congr (fun y => by simp), hk⟩
    obtain ⟨zr, HZR⟩ : ∃ z : Array Value, Hid (z = (encCh ([], (z20, z20))).toArray) := ⟨_, hid rfl⟩
    have hz96 : ∀ w : World, (zeroValue 96).run Tryz.prog w = .ok (.agg zr) w := fun w => by rw [HZR.out]; exact zero96 w
    have CF : Hid (∀ (W : World) (x : Chg) (Y : List Value) (i : Nat) (S : Str → Prop), Hid (encCh x = Y) → (x.1.length ≤ 1000000000000000 ∧ IdW x.2.1 ∧ IdW x.2.2) → i ≤ 1000 → OnS W c p g i S → Boxed W k 92 (onmF c) → Below B0 w0 W → Calls Tryz.prog 45 #[.agg Y.toArray, .pointer (some ⟨k, 0, none⟩)] W (PostWc x c p g i S W)) := hid (fun W x Y i S hY hx hi ho hck hW => by
      rw [← hY.out]
      exact writeChF_any ho (by omega) hck HGC.out.2 x hx.1 hx.2 (HMX.out W hW))
    rw [HM.out]
    clear hb h0 hon hk hg0 hgk hP hl hm
    go_enter Tryz.func44, Tryz.ntmps44
    go_wp2_with fail
    go_loopg [8, 20] m (fun gg tv iv wr => ∃ i : Nat, i ≤ m ∧ gg = m - i ∧ iv = .int .i64 i ∧ Hid (Wls w0 wr B0 B1 tv ((l.take i).map chT) k c p g i (fun y => y ∈ (l.take i).map (·.1))) ∧ Hid ((∀ x ∈ l.take i, okC x) ∧ ((l.take i).map (·.1)).Nodup))
    case atStart => exact ⟨0, Nat.zero_le _, rfl, rfl, S0, hid (by simp)⟩
    case round =>
      obtain ⟨i, hi, hkk, rfl, HS, HND⟩ := hrel
      by_cases hlt : i < m
      · have hlti : (i : Int) < (m : Int) := by omega
        obtain ⟨b, off, rfl⟩ := HPL.out (by omega)
        have hil : i < l.length := by rw [HM.out]; exact hlt
        obtain ⟨x, HX⟩ : ∃ x, Hid (l.getD i ch0 = x) := ⟨_, rfl⟩
        have HXF := hid (HIL.out x (by rw [← HX.out]; exact getD_mem l i _ hil))
        obtain ⟨Y, HY⟩ : ∃ R : List Value, Hid (encCh x = R) := ⟨_, rfl⟩
        have HYL : Hid (Y.length = 41) := hid (by rw [← HY.out]; exact encCh_len HXF.out.2)
        have hiY : (Tryz.prog.info? 96).map (·.size) = some Y.length := by rw [HYL.out]; exact size96
        have RR : Hid (wr.rangeAt b (off + i * 41) Y) := hid (by
          obtain ⟨b', off', e1, _, e3⟩ := (HPA.out wr HS.out.bl).at_ (by rw [HM.out]; omega)
          cases e1
          have := e3 i hil
          rw [HX.out, HY.out] at this
          exact this)
        obtain ⟨P, HPP⟩ : ∃ P, Hid (wr.heap.size = P) := ⟨_, rfl⟩
        obtain ⟨w2, hw2, ht2, hb2, hr2⟩ := st_new wr 96 zr Y (by rw [HYL.out, HZR.out]; rfl)
        obtain ⟨wa, HWA⟩ : ∃ W, Hid (wr.alloc (.cells zr 96) = W) := ⟨_, rfl⟩
        rw [HWA.out, HPP.out] at hw2 ht2
        rw [HPP.out] at hr2
        have HW2 := hid hw2
        have T1 := hid ht2
        have T2 : Hid ((Tryz.prog.info? 96).map (·.size) = some Y.toArray.size) := hid (by rw [List.size_toArray]; exact hiY)
        have T3 : Hid (Y.toArray.all (·.oneCell') = true) := hid (by rw [← HY.out]; exact all_oneCell_toArray (encCh_one x))
        have R2 := hid hr2
        have S2 : Hid (Wls w0 w2 B0 B1 u8 ((l.take i).map chT) k c p g i (fun y => y ∈ (l.take i).map (·.1))) := hid (HS.out.below HLT.out.1 hb2)
        have al1 : wr.alloc (.cells zr 96) = wa := HWA.out
        have hsw : wr.heap.size = P := HPP.out
        have HCC := hid (CF.out w2 x Y i _ HY HXF.out (by omega) S2.out.on S2.out.ck S2.out.bl)
        have HTK : Hid ((l.take (i + 1)).map chT = (l.take i).map chT ++ [chT x]) := hid (by rw [take_snocG ch0 l i hil, HX.out]; simp)
        have HTX : Hid (l.take (i + 1) = l.take i ++ [x]) := hid (by rw [take_snocG ch0 l i hil, HX.out])
        have HNO : Hid (¬ (okC x ∧ ¬ x.1 ∈ (l.take i).map (·.1)) → ¬ OkC l) := hid (fun h => not_okc hil HX.out h)
        clear hw2 ht2 hb2 hr2 hil
        go_wp2_with (first
          | (refine wpList_load_mid rfl 96 _ rfl b (off + i * 41) rfl Y _ RR.out Tryz.underlying96 rfl hiY ?_)
          | (refine wpList_load_mid rfl 96 _ rfl P 0 rfl Y _ R2.out Tryz.underlying96 rfl hiY ?_)
          | (refine wpList_store_mid rfl 96 _ _ rfl P 0 Y.toArray rfl rfl T1.out T2.out T3.out ?_; rw [HW2.out])
          | fail)
        clear al1 hsw
        refine HCC.out.mono ?_
        rintro e w3 ⟨hg3, ⟨hs, u, rfl⟩ | ⟨hs, rfl, ho3⟩⟩
        · have HF : Hid (Below B0 w0 w3) := hid (S2.out.bl.grown hg3 (by have := S2.out.le; have := HLT.out; omega) (fun k e => by cases e; exact HGC.out.1))
          have HFS : Hid (B0 ≤ w3.heap.size) := hid (by have := S2.out.le; have := HLT.out; have := hg3.size; omega)
          have HNN := hid (HNO.out hs)
          clear hg3 hs
          go_wp2
          refine bodyPost_ret (results_tmp2 Tryz.results44 _ _ _) rfl ?_
          exact ⟨HF.out, HFS.out, .inr ⟨HNN.out, rfl⟩⟩
        · have S3 : Hid (Wls w0 w3 B0 B1 u8 ((l.take i).map chT) k c p g (i + 1) (fun y => y ∈ (l.take (i + 1)).map (·.1))) := hid (S2.out.turn HLT.out.1 ⟨HGC.out.1, HLT.out.2.1, HGC.out.2⟩ hg3 (ho3.congr (fun y => by rw [HTX.out]; simp [or_comm])))
          have HN3 : Hid ((∀ x ∈ l.take (i + 1), okC x) ∧ ((l.take (i + 1)).map (·.1)).Nodup) := hid (by
            rw [HTX.out]
            refine ⟨fun y hy => ?_, ?_⟩
            · rcases List.mem_append.1 hy with hy | hy
              · exact HND.out.1 y hy
              · rw [List.mem_singleton.1 hy]; exact hs.1
            · rw [List.map_append]
              exact nodup_snocS HND.out.2 hs.2)
          obtain ⟨Z, HZ⟩ : ∃ Z : ByteArray, Hid (⟨(chT x).toArray⟩ = Z) := ⟨_, hid rfl⟩
          rw [HZ.out]
          obtain ⟨v5, W5, hr5, hs5⟩ := S3.out.more HLT.out.1 ⟨HLT.out.2.1, HLT.out.2.2.1, HLT.out.2.2.2.1, HLT.out.2.2.2.2⟩ (by rw [List.length_map, List.length_take]; omega) (chT x) Z HZ.out 63
          have hbs := run_txt Z w3
          obtain ⟨W4, HW4⟩ : ∃ W, Hid (w3.alloc (.cells #[.string Z] 9) = W) := ⟨_, rfl⟩
          rw [HW4.out] at hr5 hbs
          have S5 : Hid (Wls w0 W5 B0 B1 v5 ((l.take (i + 1)).map chT) k c p g (i + 1) (fun y => y ∈ (l.take (i + 1)).map (·.1))) := hid (by rw [HTK.out]; exact hs5)
          clear hg3 hs ho3 hs5
          go_wp2_with (first | (refine wpList_bSY rfl 63 1 _ rfl (.string Z) _ rfl hbs ?_) | (at_builtin; refine wpList_app rfl _ _ 63 63 rfl 63 rfl _ _ rfl rfl hr5 ?_) | fail)
          go_roundg (m - (i + 1))
          case measure => omega
          case rel => exact ⟨i + 1, by omega, rfl, by go_num, S5, HN3⟩
      · have hlti : ¬ (i : Int) < (m : Int) := by omega
        have HTA : Hid (l.take i = l) := hid (List.take_of_length_le (by rw [HM.out]; omega))
        have HF : Hid (Wls w0 wr B0 B1 u8 (l.map chT) k c p g i (fun y => y ∈ l.map (·.1))) := hid (by have := HS.out; rw [HTA.out] at this; exact this)
        have HNF : Hid (OkC l) := hid (by have := HND.out; rw [HTA.out] at this; exact ⟨this.1, this.2, by have := HM.out; omega⟩)
        clear HS HND HTA
        go_wp2
        refine bodyPost_ret (results_tmp2 Tryz.results44 _ _ _) rfl ?_
        exact ⟨HF.out.bl, Nat.le_trans HLT.out.1 HF.out.le, .inl ⟨HNF.out, _, rfl, base_mono HF.out.own HLT.out.1⟩⟩
theorem chB_parts (l : List Chg) : chB l = pktL ((l.map chT).map tx) ++ [48, 48, 48, 48] := by
  unfold chB chL
  rw [List.map_append, pktL_app]
  rfl
theorem chB_blenT : ∀ (l : List Chg), (∀ x ∈ l, okC x) → IdC l → (pktL ((l.map chT).map tx)).length ≤ 147 * l.length
  | [], _, _ => Nat.le_refl _
  | x :: l, h, hi => by
    have ih := chB_blenT l (fun y hy => h y (by simp [hy])) (fun y hy => hi y (by simp [hy]))
    have e : pktL ((List.map chT (x :: l)).map tx) = pkt (tx (chT x)) ++ pktL ((l.map chT).map tx) := rfl
    have h1 := chT_len (hi x (by simp))
    have h2 := tx_len (chT x)
    have h3 := isN_len (h x (by simp))
    rw [e, List.length_append, pkt_len, List.length_cons]
    omega
theorem chB_blen (l : List Chg) (h : ∀ x ∈ l, okC x) (hi : IdC l) : (chB l).length ≤ 147 * l.length + 4 := by
  rw [chB_parts, List.length_append]
  have := chB_blenT l h hi
  simp only [List.length_cons, List.length_nil]
  omega
theorem Wst.slP {B : Nat} {w0 w : World} {v : Value} {S : Str} (h : Wst B w0 w v S) (a : Option Addr) (c : Nat) (s : Str) (hP : PB w a c s) (hl : S.length + s.length ≤ 1000000) (ty : TypeId) :
    ∃ v' w', (Builtin.append_ #[25, 25] ty #[v, .slice a s.length c]).run Tryz.prog w = .ok v' w' ∧ Wst B w0 w' v' (S ++ s) := by
  obtain ⟨i, hi, hz0, hz1, hz2⟩ := info_parts Tryz.info5
  cases a with
  | none =>
    have hc : c = 0 := hP.nil rfl
    have hcl := hP.capl
    obtain rfl : s = [] := List.length_eq_zero_iff.1 (by omega)
    subst hc
    exact ⟨v, w, run_append_owned_none (P := Tryz.prog) w B 25 ty 5 i 1 Tryz.underlying25 hi v _ _ h.own, by simpa using h⟩
  | some ad =>
    obtain ⟨bk, of, fr⟩ := ad
    by_cases h0 : s.length = 0
    · obtain rfl : s = [] := List.length_eq_zero_iff.1 h0
      obtain ⟨v', W', hr, h1, h2, _⟩ := run_append_own_at (P := Tryz.prog) w B 25 ty 5 i _ 1 1 Tryz.underlying25 hi hz0 hz1 hz2 rfl (by decide) v _ _ h.own ⟨bk, of, fr⟩ 0 c [] (by simp) (fun j u hj => by cases hj) (fun u hu => by cases hu) (by unfold maxLen; omega) (by omega) h.le
      exact ⟨v', W', hr, h.grown (by simpa using h1) h2⟩
    · obtain ⟨b', off', e1, _⟩ := hP.at_ (by omega)
      cases e1
      exact h.sl bk of c s hP (by omega) ty
def PostWp (l : List Chg) (P : Str) (w : World) (e : Ending) (w' : World) : Prop :=
  Below w.heap.size w w' ∧ ((OkC l ∧ ∃ v, e = .returned (.tuple #[v, .nilIface]) ∧ w'.ownsRow w.heap.size 5 1 v (chB l ++ P).length (bv (chB l ++ P))) ∨ (¬ OkC l ∧ e = .returned (.tuple #[.slice none 0 0, .iface 37 (.int .i64 111)])))
theorem Tryz.results18 : Tryz.f18.results = #[.tmp 4, .tmp 5] := by kernel_rfl
theorem chL_flat (l : List Chg) : [l.map chT, [[]]].flatten = chL l := by simp [chL]
set_option maxRecDepth 20000 in
set_option maxHeartbeats 1000000 in
theorem writePush_any {w : World} (a : Option Addr) (cap : Nat) (l : List Chg) (hP : PCh w a cap l) (hl : FitC l)(hm : Nm.Mx w) (hd : Db w) (ap : Option Addr) (cp : Nat) (P : Str) (hQ : PB w ap cp P) (hq : P.length ≤ 20000) :
    Calls Tryz.prog 18 #[.slice a l.length cap, .slice ap P.length cp] w (PostWp l P w) := by
  obtain ⟨n, HN⟩ : ∃ n, Hid (l.length = n) := ⟨_, rfl⟩
  obtain ⟨G, HG⟩ : ∃ n, Hid (w.heap.size = n) := ⟨_, rfl⟩
  have C43 := hid (onceNamed_any w)
  rw [HG.out] at C43
  have C44 : Hid (∀ (W : World) (k c p g : Nat), Below G w W → OnS W c p g 0 (fun _ => False) → Boxed W k 92 (onmF c) → G ≤ g → g ≠ k → Calls Tryz.prog 44 #[.slice a n cap, .int .i64 500, .func (.func 45) #[] #[.pointer (some ⟨k, 0, none⟩)]] W (PostWLc l w G)) := hid (fun W k c p g h1 h2 h3 h4 h5 => by
    rw [← HN.out]
    exact writeListC_any h1 HG.out h2 h3 h4 h5 hm a cap l hP hl)
  have HD : Hid (∀ X, Below G w X → Db X) := hid (fun X hX => hd.below (by rw [HG.out]; exact hX))
  have HFI := hid hl
  obtain ⟨np, HNP⟩ : ∃ n, Hid (P.length = n) := ⟨_, rfl⟩
  have HPQ : Hid (∀ X, Below G w X → PB X ap cp P) := hid (fun X hX => hQ.below (by rw [HG.out]; exact hX))
  have HQL := hid hq
  unfold PostWp
  rw [HN.out, HG.out, HNP.out]
  clear hP hl hm hd hQ hq
  go_enter Tryz.func18, Tryz.ntmps18
  go_wp2_with fail
  refine C43.out.mono ?_
  rintro e w1 ⟨hb1, c, p, g, hg, rfl, hon⟩
  obtain ⟨R, HR⟩ : ∃ n, Hid (w1.heap.size = n) := ⟨_, rfl⟩
  obtain ⟨w3, HW3⟩ : ∃ u, Hid (w1.alloc (.cells #[.nilFunc] 92) = u) := ⟨_, rfl⟩
  obtain ⟨w4, HW4⟩ : ∃ u, Hid (w3.setCell ⟨R, 0, none⟩ (onmF c) = u) := ⟨_, rfl⟩
  have hbx3 : Boxed w3 R 92 .nilFunc := by rw [← HW3.out, ← HR.out]; exact Boxed.new _ _ _
  have hbx4 : Boxed w4 R 92 (onmF c) := by rw [← HW4.out]; exact hbx3.set _
  have hc3 := hbx3.cell
  have hf3 := hbx3.frozen
  have hg3 : w1.grownBy w3 none := by rw [← HW3.out]; exact World.grownBy_alloc _ _ _
  have hg4 : w3.grownBy w4 (some R) := by rw [← HW4.out]; exact grownBy_setCell' _ _ _
  have e1 := hon.ss.lt
  have e2 := hon.b1.lt
  have e2' := hon.b2.lt
  have e3 := HR.out
  have e4 := hb1.size
  have e5 := HG.out
  have hst : (store ⟨R, 0, none⟩ (onmF c)).run Tryz.prog w3 = .ok () w4 := by
    rw [run_store _ _ _ _ _ rfl, hc3]
    simp [hf3, HW4.out]
  have hon4 : OnS w4 c p g 0 (fun _ => False) := (hon.kept hg3 (by simp) (by simp) (by simp)).kept hg4 (fun e => by cases e; omega) (fun e => by cases e; omega) (fun e => by cases e; omega)
  have hb4 : Below G w w4 := (hb1.grown hg3 (by omega) (fun k e => by cases e)).grown hg4 (by have := hg3.size; omega) (fun k e => by cases e; omega)
  have CC := hid (C44.out w4 R c p g hb4 hon4 hbx4 hg (by omega))
  have al3 : w1.alloc (.cells #[.nilFunc] 92) = w3 := HW3.out
  have al4 : w3.setCell ⟨R, 0, none⟩ (onmF c) = w4 := HW4.out
  have hsR : w1.heap.size = R := HR.out
  clear hbx3 hbx4 hg3 hg4 e1 e2 e2' e3 e4 e5 hb1 hon hon4 hb4 hg
  simp only [onmF] at al4 hst ⊢
  go_wp2_with fail
  refine CC.out.mono ?_
  rintro e w5 ⟨hb5, hs5, ⟨hok, v1, rfl, hown⟩ | ⟨hok, rfl⟩⟩
  · have hx1 : Bx encS 1 9 w w5 G v1 (l.map chT) := ⟨hb5, hown, hs5⟩
    obtain ⟨a1, c1, rfl, hp1, _⟩ := hx1.px (d := []) (encS_len _)
    have HOK := hid hok
    obtain ⟨K, HK⟩ : ∃ n, Hid (w5.heap.size = n) := ⟨_, rfl⟩
    obtain ⟨k1, HK1⟩ : ∃ n, Hid ((l.map chT).length = n) := ⟨_, rfl⟩
    obtain ⟨wa, HWA⟩ : ∃ u, Hid (w5.alloc (.cells #[.string ⟨#[]⟩] 9) = u) := ⟨_, rfl⟩
    have hsa : wa.heap.size = K + 1 := by rw [← HWA.out, ← HK.out]; exact size_alloc _ _
    obtain ⟨wc, HWC⟩ : ∃ u, Hid (wa.alloc (.cells #[.slice a1 k1 c1, .slice (some ⟨K, 0, none⟩) 1 1] 63) = u) := ⟨_, rfl⟩
    have r1 := run_txt ⟨#[]⟩ w5
    have r3 := run_rows2 a1 (some ⟨K, 0, none⟩) k1 1 c1 1 wa
    rw [HWA.out, HK.out] at r1
    rw [HWC.out, hsa] at r3
    have hba : Below w5.heap.size w5 wa := by rw [← HWA.out]; exact (Below.refl _ _).alloc (Nat.le_refl _) _
    have hbc : Below wa.heap.size wa wc := by rw [← HWC.out]; exact (Below.refl _ _).alloc (Nat.le_refl _) _
    have hp0 : PS wa (some ⟨K, 0, none⟩) 1 [[]] := by rw [← HWA.out, ← HK.out]; exact ps_one w5 [] _ rfl
    have hcell : ∀ i v, (#[.slice a1 k1 c1, .slice (some ⟨K, 0, none⟩) 1 1] : Array Value)[i]? = some v → wc.cell? ⟨K + 1, i, none⟩ = some v := fun i v hv => by
      rw [cell_of_row wc (K + 1) i _ 63 (0, 0) (by rw [← HWC.out, ← hsa]; exact heap_alloc_new _ _)]
      exact hv
    have hRw : Rws wc (K + 1) 2 (fun i => [a1, some ⟨K, 0, none⟩].getD i none) (fun i => [c1, 1].getD i 0) [l.map chT, [[]]] := {
      len := rfl
      lt := by rw [← HWC.out, size_alloc, hsa]; omega
      cell := fun i hi => by
        have e4 : i = 0 ∨ i = 1 := by omega
        rcases e4 with rfl | rfl
        · show _ = some (Value.slice a1 (l.map chT).length c1)
          rw [HK1.out]; exact hcell 0 _ rfl
        · exact hcell 1 _ rfl
      ps := fun i hi => by
        have e4 : i = 0 ∨ i = 1 := by omega
        rcases e4 with rfl | rfl
        · exact (hp1.below hba).below hbc
        · exact hp0.below hbc }
    have hGw : Below G w wc := by
      have h3 := HK.out
      exact (hb5.trans (hba.mono (by omega))).trans (hbc.mono (by omega))
    have CT : Hid (Calls Tryz.prog 31 #[.slice (some ⟨K + 1, 0, none⟩) 2 2] wc (PostNu wc.heap.size (chB l) wc)) := hid (by
      have := writeRows_any hRw (by omega) 2 (by rw [chL_flat]; unfold chL; simp; have := HOK.out.2.2; omega) (by rw [chL_flat]; exact fun s hs => Nat.le_trans (chL_len HOK.out.1 HFI.out.ids s hs) (by omega)) (HD.out wc hGw)
      rw [chL_flat] at this
      exact this)
    have HGW := hid hGw
    have HGS : Hid (G ≤ wc.heap.size) := hid (by have := HK.out; have := hbc.size; omega)
    have hkk : w5.heap.size = K := HK.out
    rw [HK1.out]
    clear hx1 hp0 hp1 hcell hRw hGw hba hbc hb5 hs5 hok hown
    go_wp2_with (first | (refine wpList_bSY rfl 63 1 _ rfl (.string ⟨#[]⟩) _ rfl r1 ?_) | (refine wpList_bS2 rfl 115 _ _ rfl (.slice a1 k1 c1) (.slice (some ⟨K, 0, none⟩) 1 1) _ rfl rfl r3 ?_) | fail)
    refine CT.out.mono ?_
    rintro e w6 ⟨v5, rfl, ho5, hb6, hs6⟩
    have HB5 : Hid (Below G w w6) := hid (HGW.out.trans (hb6.mono HGS.out))
    have hW : Wst G w w6 v5 (chB l) := ⟨base_mono ho5 HGS.out, HB5.out, by have := hb6.size; have := HGS.out; omega⟩
    have hCL : (chB l).length ≤ 80000 := by
      have h1 := chB_blen l HOK.out.1 HFI.out.ids
      have := HOK.out.2.2
      omega
    obtain ⟨v7, w7, hr7, hs7⟩ := hW.slP ap cp P (HPQ.out w6 HB5.out) (by have := HQL.out; omega) 25
    rw [HNP.out] at hr7
    have HS7 := hid hs7
    clear ho5 hb6 hs6 hW hs7 hCL
    go_wp2_with (first | (at_builtin; refine wpList_app rfl _ _ 25 25 rfl 25 rfl _ _ rfl rfl hr7 ?_) | fail)
    refine bodyPost_ret (results_tmp2 Tryz.results18 _ _ _) rfl ?_
    exact ⟨HS7.out.bl, .inl ⟨HOK.out, _, rfl, HS7.out.own⟩⟩
  · have HB5 := hid hb5
    have HNO := hid hok
    clear hb5 hs5 hok
    go_wp2
    refine bodyPost_ret (results_tmp2 Tryz.results18 _ _ _) rfl ?_
    exact ⟨HB5.out, .inr ⟨HNO.out, rfl⟩⟩
end Go.Proofs.YtijeogdnjeamaaaGreatDoor
namespace Go.Proofs.YtijeogdnjeamaaaGreatDoor
open Go.RowKit
set_option linter.unusedVariables false
set_option linter.unusedSimpArgs false
theorem cutStr (s p : Str) (hs : s.length ≤ 100000) (w : World) (hm : Nm.Mx w) : Calls Tryz.prog 122 #[.string ⟨s.toArray⟩, .string ⟨p.toArray⟩] w fun e w' => e = .returned (.tuple #[.string ⟨(Lib.cut s p).1.toArray⟩, .string ⟨(Lib.cut s p).2.1.toArray⟩, .bool (Lib.cut s p).2.2]) ∧ Below w.heap.size w w' := by
  obtain ⟨m, hm⟩ := hm
  refine (Any.strings_Cut Tryz.lays145 ⟨s.toArray⟩ ⟨p.toArray⟩ m w (by rw [txt_len]; omega) hm).mono ?_
  rintro e w' ⟨rfl, n, rfl⟩
  exact ⟨rfl, below_drewH (Below.refl _ _) n⟩
end Go.Proofs.YtijeogdnjeamaaaGreatDoor
namespace Go.Proofs.YtijeogdnjeamaaaGreatDoor
open Go.RowKit
set_option linter.unusedVariables false
set_option linter.unusedSimpArgs false
def zch : Chg := ([], (z20, z20))
theorem zch_wf : IdW zch.2.1 ∧ IdW zch.2.2 := by
  have h : IdW z20 := ⟨by decide, by intro n hn; rw [List.eq_of_mem_replicate hn]; decide⟩
  exact ⟨h, h⟩
theorem Tryz.results109 : Tryz.f109.results = #[.cell 2 96, .tmp 3] := by kernel_rfl
def PostRc (t : Str) (w : World) (G : Nat) (e : Ending) (w' : World) : Prop :=
  Below G w w' ∧ ((∃ x, rc1 t = some x ∧ e = .returned (.tuple #[chV x, .nilIface])) ∨ (rc1 t = none ∧ ∃ (y : Chg) (te : TypeId) (pe : Value), (IdW y.2.1 ∧ IdW y.2.2) ∧ e = .returned (.tuple #[chV y, .iface te pe])))
theorem run_b96z (w : World) : (Instr.build 96 #[]).run Tryz.prog w = .ok (.agg (encCh zch).toArray) w := by kernel_rfl
theorem run_b96 (A : Str) (a b : List Int) (ha : a.length = 20) (hb : b.length = 20) (w : World) : (Instr.build 96 #[(0, .string ⟨A.toArray⟩), (1, idV a), (2, idV b)]).run Tryz.prog w = .ok (.agg (encCh (A, (a, b))).toArray) w := by
  obtain ⟨a0, a1, a2, a3, a4, a5, a6, a7, a8, a9, a10, a11, a12, a13, a14, a15, a16, a17, a18, a19, rfl⟩ := list20 a ha
  obtain ⟨b0, b1, b2, b3, b4, b5, b6, b7, b8, b9, b10, b11, b12, b13, b14, b15, b16, b17, b18, b19, rfl⟩ := list20 b hb
  kernel_rfl
theorem wpList_build0 {P : Program} {ops : Array Oper} {rest : List Oper} {o : Oper} {a : Act} {w w' : World} {Q : Exit → Act → World → Prop} (hg : o.guard = none) (t : Nat) (ho : o.op = .build t #[]) (v : Value)
    (hr : (Instr.build t #[]).run P w = .ok v w')
    (h : wpList P ops Q rest (a.put o.dst v) w') : wpList P ops Q (o :: rest) a w := by
  refine wpList_plain hg fun K hK => ?_
  unfold Oper.wp execOp
  simp [ho, hr, Result.andThen]
  exact hK _ _ h
theorem wpList_build3 {P : Program} {ops : Array Oper} {rest : List Oper} {o : Oper} {a : Act} {w w' : World} {Q : Exit → Act → World → Prop} (hg : o.guard = none) (t : Nat) (x0 x1 x2 : Operand) (ho : o.op = .build t #[(0, x0), (1, x1), (2, x2)]) (u0 u1 u2 v : Value) (h0 : a.eval x0 = u0) (h1 : a.eval x1 = u1) (h2 : a.eval x2 = u2)
    (hr : (Instr.build t #[(0, u0), (1, u1), (2, u2)]).run P w = .ok v w')
    (h : wpList P ops Q rest (a.put o.dst v) w') : wpList P ops Q (o :: rest) a w := by
  refine wpList_plain hg fun K hK => ?_
  unfold Oper.wp execOp
  simp [ho, h0, h1, h2, hr, Result.andThen]
  exact hK _ _ h
set_option maxRecDepth 20000 in
set_option maxHeartbeats 2000000 in
theorem readChange_any {w : World} (t : Str) (hl : t.length ≤ 10000) (hm : Nm.Mx w) : Calls Tryz.prog 109 #[.string ⟨t.toArray⟩] w (PostRc t w w.heap.size) := by
  obtain ⟨G, HG⟩ : ∃ n, Hid (w.heap.size = n) := ⟨_, rfl⟩
  obtain ⟨zr, HZR⟩ : ∃ z : Array Value, Hid (z = (encCh zch).toArray) := ⟨_, hid rfl⟩
  have hzs : zr.size = 41 := by rw [HZR.out, List.size_toArray]; exact encCh_len zch_wf
  have hz96 : ∀ w : World, (zeroValue 96).run Tryz.prog w = .ok (.agg zr) w := fun w => by rw [HZR.out]; exact zero96 w
  obtain ⟨z2, HZ2⟩ : ∃ z : Array Value, Hid (z = (row .u8 z20).toArray) := ⟨_, hid rfl⟩
  have hz2s : z2.size = 20 := by rw [HZ2.out]; rfl
  have hz68 : ∀ w : World, (zeroValue 68).run Tryz.prog w = .ok (.agg z2) w := fun w => by rw [HZ2.out]; exact zero68 w
  obtain ⟨w1, HW1⟩ : ∃ u, Hid (w.alloc (.cells zr 96) = u) := ⟨_, rfl⟩
  have hb1 : Below G w w1 := by rw [← HW1.out, ← HG.out]; exact (Below.refl _ w).alloc (Nat.le_refl _) _
  have hs1 : w1.heap.size = G + 1 := by rw [← HW1.out, ← HG.out]; exact size_alloc _ _
  have hn1 : w1.heap[G]? = some (.cells zr 96 (0, 0)) := by rw [← HW1.out, ← HG.out]; exact heap_alloc_new _ _
  obtain ⟨X, HX⟩ : ∃ X : ByteArray, Hid (⟨t.toArray⟩ = X) := ⟨_, hid rfl⟩
  obtain ⟨o, HO⟩ : ∃ u, Hid ((Lib.cut t [32]).1 = u) := ⟨_, rfl⟩
  obtain ⟨mo, HMO⟩ : ∃ u, Hid ((Lib.cut t [32]).2.1 = u) := ⟨_, rfl⟩
  obtain ⟨b0, HB0⟩ : ∃ u, Hid ((Lib.cut t [32]).2.2 = u) := ⟨_, rfl⟩
  obtain ⟨nw, HNW⟩ : ∃ u, Hid ((Lib.cut mo [32]).1 = u) := ⟨_, rfl⟩
  obtain ⟨nm, HNM⟩ : ∃ u, Hid ((Lib.cut mo [32]).2.1 = u) := ⟨_, rfl⟩
  obtain ⟨b1, HBB1⟩ : ∃ u, Hid ((Lib.cut mo [32]).2.2 = u) := ⟨_, rfl⟩
  obtain ⟨OB, HOB⟩ : ∃ X : ByteArray, Hid (⟨o.toArray⟩ = X) := ⟨_, hid rfl⟩
  obtain ⟨MB, HMB⟩ : ∃ X : ByteArray, Hid (⟨mo.toArray⟩ = X) := ⟨_, hid rfl⟩
  obtain ⟨NB, HNB⟩ : ∃ X : ByteArray, Hid (⟨nw.toArray⟩ = X) := ⟨_, hid rfl⟩
  obtain ⟨NM, HNMB⟩ : ∃ X : ByteArray, Hid (⟨nm.toArray⟩ = X) := ⟨_, hid rfl⟩
  have hol : o.length ≤ 10000 := by rw [← HO.out]; exact Nat.le_trans (cut_len t) hl
  have hml : mo.length ≤ 10000 := by rw [← HMO.out]; exact Nat.le_trans (cut_len2 t) hl
  have hnl : nw.length ≤ 10000 := by rw [← HNW.out]; exact Nat.le_trans (cut_len mo) hml
  have HS1 := hid hs1
  have HN1 := hid hn1
  have HB1 := hid hb1
  have HMW : Hid (∀ W, Below w1.heap.size w1 W → Nm.Mx W) := hid (fun W hW => by
    have hbw : Below w.heap.size w W := by rw [HG.out]; exact HB1.out.trans (hW.mono (by rw [HS1.out]; omega))
    exact Mx_kept hm (grown_of_below hbw none) (by simp))
  have CA : Hid (∀ W, Below w1.heap.size w1 W → Calls Tryz.prog 122 #[.string X, .string ⟨#[32]⟩] W fun e w' => e = .returned (.tuple #[.string OB, .string MB, .bool b0]) ∧ Below W.heap.size W w') := hid (fun W hW => by
    have := cutStr t [32] (by omega) W (HMW.out W hW)
    rw [HO.out, HMO.out, HB0.out, HOB.out, HMB.out, HX.out] at this
    exact this)
  have CB : Hid (∀ W, Below w1.heap.size w1 W → Calls Tryz.prog 122 #[.string MB, .string ⟨#[32]⟩] W fun e w' => e = .returned (.tuple #[.string NB, .string NM, .bool b1]) ∧ Below W.heap.size W w') := hid (fun W hW => by
    have := cutStr mo [32] (by omega) W (HMW.out W hW)
    rw [HNW.out, HNM.out, HBB1.out, HNB.out, HNMB.out, HMB.out] at this
    exact this)
  have CO : Hid (∀ W, Calls Tryz.prog 123 #[.string OB] W (PostPr o W)) := hid (fun W => by rw [← HOB.out]; exact parseP o (by omega) W)
  have CN : Hid (∀ W, Calls Tryz.prog 123 #[.string NB] W (PostPr nw W)) := hid (fun W => by rw [← HNB.out]; exact parseP nw (by omega) W)
  have HST : Hid (∀ (w2 : World) (Y : List Value), Y.length = 41 → Below w1.heap.size w1 w2 → w2.there G 0 Y.toArray.size ∧ Below G w (w2.setCells G 0 Y.toArray.toList) ∧ (w2.setCells G 0 Y.toArray.toList).rangeAt G 0 Y) := hid (fun w2 Y hY hb => by
    have h2 : w2.heap[G]? = some (.cells zr 96 (0, 0)) := (hb.block G (by rw [HS1.out]; omega)).trans HN1.out
    have ht : w2.there G 0 Y.toArray.size := there_off h2 0 (by rw [List.size_toArray, hY, hzs]; omega)
    exact ⟨ht, below_setCells (Nat.le_refl _) _ _ _ _ (HB1.out.trans (hb.mono (by rw [HS1.out]; omega))), World.rangeAt_setCells_same _ _ 0 _ (by rwa [List.size_toArray] at ht)⟩)
  have HR1 : Hid (prs o = none → rc1 t = none) := hid (fun h => rc1_no1 (by rw [HO.out]; exact h))
  have HR2 : Hid (prs nw = none → rc1 t = none) := hid (fun h => rc1_no2 (by rw [HMO.out, HNW.out]; exact h))
  have HR3 : Hid (∀ a b, prs o = some a → prs nw = some b → rc1 t = some (nm, (a, b))) := hid (fun a b h1 h2 => by
    have := rc1_yes (t := t) (a := a) (b := b) (by rw [HO.out]; exact h1) (by rw [HMO.out, HNW.out]; exact h2)
    rw [HMO.out, HNM.out] at this
    exact this)
  have al1 : w.alloc (.cells zr 96) = w1 := HW1.out
  have hs0 : w.heap.size = G := HG.out
  rw [HX.out, HG.out]
  clear hb1 hs1 hn1 hm hl hol hml hnl
  go_enter Tryz.func109, Tryz.ntmps109
  go_wp2_with fail
  refine (CA.out w1 (Below.refl _ _)).mono ?_
  rintro e w2 ⟨rfl, hb2⟩
  have HB2 := hid hb2
  clear hb2 al1 hs0
  go_wp2_with fail
  refine (CB.out w2 HB2.out).mono ?_
  rintro e w3 ⟨rfl, hb3⟩
  have HB3 : Hid (Below w1.heap.size w1 w3) := hid (HB2.out.trans (hb3.mono HB2.out.size))
  clear hb3
  go_wp2_with fail
  refine (CO.out w3).mono ?_
  rintro e w4 ⟨hb4, ho⟩
  have HB4 : Hid (Below w1.heap.size w1 w4) := hid (HB3.out.trans (hb4.mono HB3.out.size))
  clear hb4
  have hid1 : ∃ (x : List Int) (ev : Value), IdW x ∧ e = .returned (.tuple #[idV x, ev]) ∧ ((prs o = some x ∧ ev = .nilIface) ∨ (prs o = none ∧ ev = .iface 37 (.int .i64 12))) := by
    rcases ho with ⟨x, hx, rfl⟩ | ⟨hx, rfl⟩
    · exact ⟨x, _, (prs_wf hx).1, rfl, .inl ⟨hx, rfl⟩⟩
    · exact ⟨z20, _, zch_wf.1, rfl, .inr ⟨hx, rfl⟩⟩
  clear ho
  obtain ⟨x1, ev, hw1, rfl, hev⟩ := hid1
  obtain ⟨Y, HY⟩ : ∃ R : List Value, Hid (row .u8 x1 = R) := ⟨_, rfl⟩
  have HYL : Hid (Y.length = 20) := hid (by rw [← HY.out, row_len, hw1.1])
  have hiY : (Tryz.prog.info? 68).map (·.size) = some Y.length := by rw [HYL.out]; exact size68
  obtain ⟨P, HPP⟩ : ∃ P, Hid (w4.heap.size = P) := ⟨_, rfl⟩
  obtain ⟨w5, hw5, ht5, hb5, hr5⟩ := st_new w4 68 z2 Y (by rw [HYL.out, hz2s])
  obtain ⟨wa, HWA⟩ : ∃ W, Hid (w4.alloc (.cells z2 68) = W) := ⟨_, rfl⟩
  rw [HWA.out, HPP.out] at hw5 ht5
  rw [HPP.out] at hr5
  have HW5 := hid hw5
  have T1 := hid ht5
  have T2 : Hid ((Tryz.prog.info? 68).map (·.size) = some Y.toArray.size) := hid (by rw [List.size_toArray]; exact hiY)
  have T3 : Hid (Y.toArray.all (·.oneCell') = true) := hid (by rw [← HY.out]; exact all_oneCell_toArray (row_oneC _))
  have R5 := hid hr5
  have HB5 : Hid (Below w1.heap.size w1 w5) := hid (HB4.out.trans (hb5.mono HB4.out.size))
  have HP5 : Hid (P < w5.heap.size) := hid (by
    have h0 := hr5 0 _ (List.getElem?_eq_getElem (by rw [HYL.out]; omega))
    have := cell_lt h0
    simpa using this)
  have HPW : Hid (w1.heap.size ≤ P) := hid (by rw [← HPP.out]; exact HB4.out.size)
  have al2 : w4.alloc (.cells z2 68) = wa := HWA.out
  have hs2 : w4.heap.size = P := HPP.out
  have HXW := hid hw1
  unfold idV
  rw [HY.out]
  clear hw5 ht5 hb5 hr5 hw1
  rcases hev with ⟨hp1, rfl⟩ | ⟨hp1, rfl⟩
  · have HP1 := hid hp1
    clear hp1
    go_wp2_with (first
      | (refine wpList_store_mid rfl 68 _ _ rfl P 0 Y.toArray rfl rfl T1.out T2.out T3.out ?_; rw [HW5.out])
      | fail)
    clear al2 hs2
    refine (CN.out w5).mono ?_
    rintro e w6 ⟨hb6, ho⟩
    have HB6 : Hid (Below w1.heap.size w1 w6) := hid (HB5.out.trans (hb6.mono HB5.out.size))
    have R6 : Hid (w6.rangeAt P 0 Y) := hid (fun j v hv => (hb6.cell (p := ⟨P, 0 + j, none⟩) HP5.out).trans (R5.out j v hv))
    clear hb6
    have hid2 : ∃ (x : List Int) (ev : Value), IdW x ∧ e = .returned (.tuple #[idV x, ev]) ∧ ((prs nw = some x ∧ ev = .nilIface) ∨ (prs nw = none ∧ ev = .iface 37 (.int .i64 12))) := by
      rcases ho with ⟨x, hx, rfl⟩ | ⟨hx, rfl⟩
      · exact ⟨x, _, (prs_wf hx).1, rfl, .inl ⟨hx, rfl⟩⟩
      · exact ⟨z20, _, zch_wf.1, rfl, .inr ⟨hx, rfl⟩⟩
    clear ho
    obtain ⟨x2, ev, hw2, rfl, hev⟩ := hid2
    obtain ⟨Y2, HY2⟩ : ∃ R : List Value, Hid (row .u8 x2 = R) := ⟨_, rfl⟩
    have HYL2 : Hid (Y2.length = 20) := hid (by rw [← HY2.out, row_len, hw2.1])
    have hiY2 : (Tryz.prog.info? 68).map (·.size) = some Y2.length := by rw [HYL2.out]; exact size68
    obtain ⟨P2, HPP2⟩ : ∃ P, Hid (w6.heap.size = P) := ⟨_, rfl⟩
    obtain ⟨w7, hw7, ht7, hb7, hr7⟩ := st_new w6 68 z2 Y2 (by rw [HYL2.out, hz2s])
    obtain ⟨wb, HWB⟩ : ∃ W, Hid (w6.alloc (.cells z2 68) = W) := ⟨_, rfl⟩
    rw [HWB.out, HPP2.out] at hw7 ht7
    rw [HPP2.out] at hr7
    have HW7 := hid hw7
    have U1 := hid ht7
    have U2 : Hid ((Tryz.prog.info? 68).map (·.size) = some Y2.toArray.size) := hid (by rw [List.size_toArray]; exact hiY2)
    have U3 : Hid (Y2.toArray.all (·.oneCell') = true) := hid (by rw [← HY2.out]; exact all_oneCell_toArray (row_oneC _))
    have R7b := hid hr7
    have HB7 : Hid (Below w1.heap.size w1 w7) := hid (HB6.out.trans (hb7.mono HB6.out.size))
    have R7a : Hid (w7.rangeAt P 0 Y) := hid (fun j v hv => (hb7.cell (p := ⟨P, 0 + j, none⟩) (cell_lt (R6.out j v hv))).trans (R6.out j v hv))
    have al2 : w6.alloc (.cells z2 68) = wb := HWB.out
    have hs2 : w6.heap.size = P2 := HPP2.out
    obtain ⟨V, HV⟩ : ∃ R : List Value, Hid (encCh (nm, (x1, x2)) = R) := ⟨_, rfl⟩
    have HVL : Hid (V.length = 41) := hid (by rw [← HV.out]; exact encCh_len ⟨HXW.out, hw2⟩)
    have hiV : (Tryz.prog.info? 96).map (·.size) = some V.length := by rw [HVL.out]; exact size96
    obtain ⟨h1, h2, h3⟩ := HST.out w7 V HVL.out HB7.out
    have V1 := hid h1
    have V2 : Hid ((Tryz.prog.info? 96).map (·.size) = some V.toArray.size) := hid (by rw [List.size_toArray]; exact hiV)
    have V3 : Hid (V.toArray.all (·.oneCell') = true) := hid (by rw [← HV.out]; exact all_oneCell_toArray (encCh_one _))
    have HB := hid h2
    have HRR := hid h3
    have hbd : ∀ W : World, (Instr.build 96 #[(0, .string NM), (1, .agg Y.toArray), (2, .agg Y2.toArray)]).run Tryz.prog W = .ok (.agg V.toArray) W := fun W => by
      rw [← HV.out, ← HNMB.out, ← HY.out, ← HY2.out]
      exact run_b96 nm x1 x2 HXW.out.1 hw2.1 W
    have HX2 := hid hw2
    unfold idV
    rw [HY2.out]
    clear hw7 ht7 hb7 hr7 h1 h2 h3 hw2
    rcases hev with ⟨hp2, rfl⟩ | ⟨hp2, rfl⟩
    · have HRC : Hid (rc1 t = some (nm, (x1, x2))) := hid (HR3.out x1 x2 HP1.out hp2)
      clear hp2
      go_wp2_with (first
        | (refine wpList_load_mid rfl 68 _ rfl P 0 rfl Y _ R7a.out Tryz.underlying68 rfl hiY ?_)
        | (refine wpList_load_mid rfl 68 _ rfl P2 0 rfl Y2 _ R7b.out Tryz.underlying68 rfl hiY2 ?_)
        | (refine wpList_store_mid rfl 68 _ _ rfl P2 0 Y2.toArray rfl rfl U1.out U2.out U3.out ?_; rw [HW7.out])
        | (refine wpList_build3 rfl 96 _ _ _ rfl (.string NM) (.agg Y.toArray) (.agg Y2.toArray) _ rfl rfl rfl (hbd _) ?_)
        | (refine wpList_store_mid rfl 96 _ _ rfl G 0 V.toArray rfl rfl V1.out V2.out V3.out ?_)
        | fail)
      refine bodyPost_ret (Hx.results_mid2 (t2 := 27) Tryz.results109 _ _ G V _ _ rfl rfl HRR.out Tryz.underlying96 rfl hiV) rfl ?_
      exact ⟨HB.out, .inl ⟨_, HRC.out, by unfold chV; rw [HV.out]; rfl⟩⟩
    · have HRC : Hid (rc1 t = none) := hid (HR2.out hp2)
      clear hp2
      go_wp2_with (first
        | (refine wpList_load_mid rfl 68 _ rfl P 0 rfl Y _ R7a.out Tryz.underlying68 rfl hiY ?_)
        | (refine wpList_load_mid rfl 68 _ rfl P2 0 rfl Y2 _ R7b.out Tryz.underlying68 rfl hiY2 ?_)
        | (refine wpList_store_mid rfl 68 _ _ rfl P2 0 Y2.toArray rfl rfl U1.out U2.out U3.out ?_; rw [HW7.out])
        | (refine wpList_build3 rfl 96 _ _ _ rfl (.string NM) (.agg Y.toArray) (.agg Y2.toArray) _ rfl rfl rfl (hbd _) ?_)
        | (refine wpList_store_mid rfl 96 _ _ rfl G 0 V.toArray rfl rfl V1.out V2.out V3.out ?_)
        | fail)
      refine bodyPost_ret (Hx.results_mid2 (t2 := 27) Tryz.results109 _ _ G V _ _ rfl rfl HRR.out Tryz.underlying96 rfl hiV) rfl ?_
      exact ⟨HB.out, .inr ⟨HRC.out, (nm, (x1, x2)), 37, .int .i64 12, ⟨HXW.out, HX2.out⟩, by unfold chV; rw [HV.out]; rfl⟩⟩
  · have HRC : Hid (rc1 t = none) := hid (HR1.out hp1)
    obtain ⟨V, HV⟩ : ∃ R : List Value, Hid (encCh zch = R) := ⟨_, rfl⟩
    have HVL : Hid (V.length = 41) := hid (by rw [← HV.out]; exact encCh_len zch_wf)
    have hiV : (Tryz.prog.info? 96).map (·.size) = some V.length := by rw [HVL.out]; exact size96
    obtain ⟨h1, h2, h3⟩ := HST.out w5 V HVL.out HB5.out
    have V1 := hid h1
    have V2 : Hid ((Tryz.prog.info? 96).map (·.size) = some V.toArray.size) := hid (by rw [List.size_toArray]; exact hiV)
    have V3 : Hid (V.toArray.all (·.oneCell') = true) := hid (by rw [← HV.out]; exact all_oneCell_toArray (encCh_one _))
    have HB := hid h2
    have HRR := hid h3
    have hbd : ∀ W : World, (Instr.build 96 #[]).run Tryz.prog W = .ok (.agg V.toArray) W := fun W => by rw [← HV.out]; exact run_b96z W
    clear hp1 h1 h2 h3
    go_wp2_with (first
      | (refine wpList_store_mid rfl 68 _ _ rfl P 0 Y.toArray rfl rfl T1.out T2.out T3.out ?_; rw [HW5.out])
      | (refine wpList_build0 rfl 96 rfl _ (hbd _) ?_)
      | (refine wpList_store_mid rfl 96 _ _ rfl G 0 V.toArray rfl rfl V1.out V2.out V3.out ?_)
      | fail)
    refine bodyPost_ret (Hx.results_mid2 (t2 := 27) Tryz.results109 _ _ G V _ _ rfl rfl HRR.out Tryz.underlying96 rfl hiV) rfl ?_
    exact ⟨HB.out, .inr ⟨HRC.out, zch, 37, .int .i64 12, zch_wf, by unfold chV; rw [HV.out]; rfl⟩⟩
end Go.Proofs.YtijeogdnjeamaaaGreatDoor
