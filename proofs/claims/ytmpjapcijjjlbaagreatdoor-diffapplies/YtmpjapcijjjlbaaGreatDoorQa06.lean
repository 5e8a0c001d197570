import Derived.Test.YtmpjapcijjjlbaaGreatDoorQa05
import Derived.Test.YtmpjapcijjjlbaaGreatDoorQa04
import Derived.Test.YtmpjapcijjjlbaaGreatDoorQa03
import Derived.Shelf.Strings.BuilderX
namespace Go.Proofs.YtmpjapcijjjlbaaGreatDoor
open Go.RowKit
set_option linter.unusedVariables false
set_option linter.unusedSimpArgs false
def stG (g : Int) (y : Gh) : Gh := (y.1 - ((min (cA y.2.2.2.2) 1 : Nat) : Int), y.1 - ((min (cA y.2.2.2.2) 1 : Nat) : Int) + g, y.2.2.1, y.2.2.2.1, y.2.2.2.2)
def dfG (y : Gh) : Int := ((cB y.2.2.2.2 : Nat) : Int) - ((cA y.2.2.2.2 : Nat) : Int)
def stl : Int → List Gh → List Gh
  | _, [] => []
  | g, y :: r => stG g y :: stl (g + dfG y) r
def grw : List Gh → Int
  | [] => 0
  | y :: r => dfG y + grw r
theorem stl_len : ∀ (l : List Gh) (g : Int), (stl g l).length = l.length
  | [], _ => rfl
  | y :: r, g => by rw [stl, List.length_cons, List.length_cons, stl_len r]
theorem stl_get : ∀ (l : List Gh) (g : Int) (i : Nat), i < l.length → (stl g l).getD i g0 = stG (g + grw (l.take i)) (l.getD i g0)
  | [], _, i, h => by simp at h
  | y :: r, g, 0, h => by simp [stl, grw]
  | y :: r, g, i + 1, h => by
    rw [stl, List.getD_cons_succ, List.getD_cons_succ, stl_get r _ i (by simpa using h), List.take_succ_cons, grw, Int.add_assoc]
theorem grw_snoc : ∀ (l : List Gh) (i : Nat), i < l.length → grw (l.take (i + 1)) = grw (l.take i) + dfG (l.getD i g0)
  | [], i, h => by simp at h
  | y :: r, 0, h => by simp [grw]
  | y :: r, i + 1, h => by
    rw [List.take_succ_cons, List.take_succ_cons, grw, grw, grw_snoc r i (by simpa using h), List.getD_cons_succ, Int.add_assoc]
theorem grw_le : ∀ (l : List Gh), (∀ y ∈ l, y.2.2.2.2.length ≤ 1000000) → -(1000000 * (l.length : Int)) ≤ grw l ∧ grw l ≤ 1000000 * (l.length : Int)
  | [], _ => by simp [grw]
  | y :: r, h => by
    have ih := grw_le r (fun z hz => h z (by simp [hz]))
    have h1 := h y (by simp)
    have h2 := cA_le y.2.2.2.2
    have h3 := cB_le y.2.2.2.2
    rw [grw, List.length_cons]
    unfold dfG
    omega
theorem BG.set1 {w0 w : World} {G hb m cap : Nat} {cur : List Gh} (h : BG w0 w G (.slice (some ⟨hb, 0, none⟩) m cap) cur) (hm : cur.length = m) (i j : Nat) (y : Gh) (v : Value) (hi : i < cur.length) (hj : j < 3) (hy : encG y = (encG (cur.getD i g0)).set j v) :
    BG w0 (w.setCell ⟨hb, i * 3 + j, none⟩ v) G (.slice (some ⟨hb, 0, none⟩) m cap) (cur.set i y) ∧ w.grownBy (w.setCell ⟨hb, i * 3 + j, none⟩ v) (some hb) := by
  subst hm
  obtain ⟨k1, k2⟩ := own_set1 h.own (i * 3 + j) v
  rw [set_fl encG 3 g0 cur i j y v hi hj (fun z _ => encG_len z) hy] at k1
  exact ⟨⟨h.below.grown k2 h.le (fun k e => by cases e; exact (own_lt h.own _ rfl).1), by rw [List.length_set]; exact k1, Nat.le_trans h.le k2.size⟩, k2⟩
theorem BG.cellj {w0 w : World} {G hb m cap : Nat} {cur : List Gh} (h : BG w0 w G (.slice (some ⟨hb, 0, none⟩) m cap) cur) (hm : cur.length = m) (i j : Nat) (hi : i < cur.length) (hj : j < 3) (x : Value) (hx : x.oneCell' = true) :
    w.cell? ⟨hb, i * 3 + j, none⟩ = (encG (cur.getD i g0))[j]? ∧ w.frozen? ⟨hb, i * 3 + j, none⟩ = false ∧ (store ⟨hb, i * 3 + j, none⟩ x).run Tryz.prog w = .ok () (w.setCell ⟨hb, i * 3 + j, none⟩ x) := by
  subst hm
  obtain ⟨h1, h2, h3⟩ := own_st h.own (i * 3 + j) (by rw [fX_len (k := 3) _ (fun y _ => encG_len y)]; omega) x hx
  rw [fX_at (enc := encG) (k := 3) (d := g0) cur (fun y _ => encG_len y) i j hi hj] at h1
  exact ⟨h1, h2, h3⟩
theorem OwE.pe {w : World} {B : Nat} {y : Gh} (h : OwE w B y) : PE w y.2.2.1 y.2.2.2.1 y.2.2.2.2 := by
  have hb : BE 43 w w (min B w.heap.size) (slE y) y.2.2.2.2 := ⟨Below.refl _ _, base_mono h (Nat.min_le_left _ _), Nat.min_le_right _ _⟩
  obtain ⟨a, c, e, hp, _⟩ := hb.px (d := (0, [])) (fun x _ => encE_len x)
  unfold slE at e
  injection e with e1 e2 e3
  rw [e1, e3]
  exact hp
theorem OwE.header {w w' : World} {B G hb m cap : Nat} {y : Gh} {cur : List Gh} {w0 : World} (h : OwE w B y) (hr : BG w0 w G (.slice (some ⟨hb, 0, none⟩) m cap) cur) (hg : w.grownBy w' (some hb)) : OwE w' B y := own_other h hr.own (by decide) hg rfl
theorem enter61 (x y : Value) (w : World) : (callFunc 61 #[x, y]).run Tryz.prog w = .ok (.enter 61 #[x, y]) w := by kernel_rfl
theorem mid_set (l l2 : List Gh) (i : Nat) (y : Gh) (h : l2.length = l.length) (hi : i < l.length) (hy : l2.getD i g0 = y) : (l2.take i ++ l.drop i).set i y = l2.take (i + 1) ++ l.drop (i + 1) := by
  have e1 : (l2.take i).length = i := by rw [List.length_take]; omega
  rw [List.set_append_right _ _ (by omega), e1, Nat.sub_self, List.drop_eq_getElem_cons hi, List.set_cons_zero, take_snocG g0 l2 i (by omega), hy]
  simp
theorem mid_get (l l2 : List Gh) (i : Nat) (h : l2.length = l.length) (hi : i < l.length) : (l2.take i ++ l.drop i).getD i g0 = l.getD i g0 := by
  have e1 : (l2.take i).length = i := by rw [List.length_take]; omega
  rw [List.getD_eq_getElem?_getD, List.getElem?_append_right (by omega), e1, Nat.sub_self, List.getElem?_drop, Nat.add_zero, List.getD_eq_getElem?_getD]
set_option maxRecDepth 20000 in
set_option maxHeartbeats 4000000 in
theorem settle_any {w0 w : World} {G : Nat} (v : Value) (l : List Gh) (hB : BG w0 w G v l) (hO : ∀ y ∈ l, OwE w G y) (hok : GOk l) (hes : ∀ y ∈ l, y.2.2.2.2.length ≤ 1000000) (hn : l.length ≤ 1000000) :
    Calls Tryz.prog 37 #[v] w fun e w' => e = .returned (.tuple #[]) ∧ BG w0 w' G v (stl 0 l) ∧ ∀ y ∈ stl 0 l, OwE w' G y := by
  obtain ⟨va, vc, rfl⟩ := owns_shape hB.own
  obtain ⟨m, HM⟩ : ∃ n, Hid (l.length = n) := ⟨_, rfl⟩
  obtain ⟨l2, HL2⟩ : ∃ q, Hid (stl 0 l = q) := ⟨_, rfl⟩
  have HLL : Hid (l2.length = l.length) := hid (by rw [← HL2.out]; exact stl_len l 0)
  have HGT : Hid (∀ i, i < l.length → l2.getD i g0 = stG (grw (l.take i)) (l.getD i g0)) := hid (fun i hi => by rw [← HL2.out, stl_get l 0 i hi, Int.zero_add])
  have HOK := hid hok
  have HES := hid hes
  have hm6 : m ≤ 1000000 := by rw [← HM.out]; exact hn
  have HVS : Hid (0 < m → ∃ hb, va = some ⟨hb, 0, none⟩) := hid (fun h0 => by
    obtain ⟨_, ⟨_, h1⟩ | ⟨g, cp, cur, h1, _⟩⟩ := hB.own
    · have := HM.out; omega
    · injection h1 with h1
      exact ⟨g, h1⟩)
  rw [HM.out] at hB
  have HS0 : Hid (BG w0 w G (.slice va m vc) (l2.take 0 ++ l.drop 0) ∧ ∀ y ∈ l, OwE w G y) := hid ⟨by simpa using hB, hO⟩
  rw [HM.out]
  clear hB hO hok hes hn
  go_enter Tryz.func37, Tryz.ntmps37
  go_wp2_with fail
  go_loopg [2, 8] m (fun gg gv iv wr => ∃ i : Nat, i ≤ m ∧ gg = m - i ∧ iv = .int .i64 i ∧ gv = .int .i64 (grw (l.take i)) ∧ Hid (BG w0 wr G (.slice va m vc) (l2.take i ++ l.drop i) ∧ ∀ y ∈ l, OwE wr G y))
  case atStart => exact ⟨0, Nat.zero_le _, rfl, rfl, rfl, HS0⟩
  case round =>
    obtain ⟨i, hi, hkk, rfl, rfl, HS⟩ := hrel
    by_cases hlt : i < m
    · have hlti : (i : Int) < (m : Int) := by omega
      obtain ⟨hb, rfl⟩ := HVS.out (by omega)
      have hil : i < l.length := by rw [HM.out]; exact hlt
      obtain ⟨g, HGV⟩ : ∃ g, Hid (grw (l.take i) = g) := ⟨_, rfl⟩
      have hgb : -1000000000000 ≤ g ∧ g ≤ 1000000000000 := by
        have h1 := grw_le (l.take i) (fun y hy => HES.out y (List.mem_of_mem_take hy))
        rw [HGV.out, List.length_take] at h1
        omega
      obtain ⟨cur, HCUR⟩ : ∃ q, Hid (l2.take i ++ l.drop i = q) := ⟨_, rfl⟩
      rw [HCUR.out] at HS
      have HCL : Hid (cur.length = m) := hid (by rw [← HCUR.out, List.length_append, List.length_take, List.length_drop]; have := HLL.out; have := HM.out; omega)
      obtain ⟨y, HY⟩ : ∃ y, Hid (l.getD i g0 = y) := ⟨_, rfl⟩
      have HCY : Hid (cur.getD i g0 = y) := hid (by rw [← HCUR.out, mid_get l l2 i HLL.out hil]; exact HY.out)
      have hym : y ∈ l := by rw [← HY.out]; exact getD_mem l i g0 hil
      obtain ⟨⟨ya0, ya1, _⟩, _⟩ := HOK.out y hym
      have hyl := HES.out y hym
      have HOY : Hid (∀ W, (∀ y ∈ l, OwE W G y) → PE W y.2.2.1 y.2.2.2.1 y.2.2.2.2) := hid (fun W h => (h y hym).pe)
      have HGI := hid (HGT.out i hil)
      have HGS := hid (grw_snoc l i hil)
      rw [HY.out, HGV.out] at HGI HGS
      have HMS : Hid (∀ z, l2.getD i g0 = z → cur.set i z = l2.take (i + 1) ++ l.drop (i + 1)) := hid (fun z hz => by rw [← HCUR.out]; exact mid_set l l2 i z HLL.out hil hz)
      have hic : i < cur.length := by rw [HCL.out]; exact hlt
      have HIC := hid hic
      obtain ⟨ya, yb, ea, ec, es⟩ := y
      simp only at ya0 ya1 hyl HOY
      obtain ⟨ne, HNE⟩ : ∃ n, Hid (es.length = n) := ⟨_, rfl⟩
      obtain ⟨na, HNA⟩ : ∃ n, Hid (cA es = n) := ⟨_, rfl⟩
      obtain ⟨nb, HNB⟩ : ∃ n, Hid (cB es = n) := ⟨_, rfl⟩
      have hna : na ≤ 1000000 := by rw [← HNA.out]; exact Nat.le_trans (cA_le es) hyl
      have hnb : nb ≤ 1000000 := by rw [← HNB.out]; exact Nat.le_trans (cB_le es) hyl
      obtain ⟨mn, HMN⟩ : ∃ n, Hid (min na 1 = n) := ⟨_, rfl⟩
      have hmn : mn ≤ 1 := by rw [← HMN.out]; omega
      obtain ⟨a1, HA1⟩ : ∃ a, Hid (ya - (mn : Int) = a) := ⟨_, rfl⟩
      obtain ⟨b1, HB1⟩ : ∃ a, Hid (a1 + g = a) := ⟨_, rfl⟩
      obtain ⟨g1, HG1⟩ : ∃ a, Hid (g + ((nb : Int) - (na : Int)) = a) := ⟨_, rfl⟩
      have ha1 : -1 ≤ a1 ∧ a1 ≤ 4294967295 := by rw [← HA1.out]; omega
      have hb1 : -1000000000001 ≤ b1 ∧ b1 ≤ 1010000000000 := by rw [← HB1.out]; omega
      have hg1 : -1000001000000 ≤ g1 ∧ g1 ≤ 1000001000000 := by rw [← HG1.out]; omega
      have hsb : ya - (mn : Int) = a1 := HA1.out
      have had : a1 + g = b1 := HB1.out
      have hgd : g + ((nb : Int) - (na : Int)) = g1 := HG1.out
      have hw1 : IntKind.i64.wrap a1 = a1 := by rw [IntKind.wrap_i64]; omega
      have hw2 : IntKind.i64.wrap b1 = b1 := by rw [IntKind.wrap_i64]; omega
      have hw3 : IntKind.i64.wrap g1 = g1 := by rw [IntKind.wrap_i64]; omega
      have hw4 : IntKind.i64.wrap ((nb : Int) - (na : Int)) = (nb : Int) - (na : Int) := by rw [IntKind.wrap_i64]; omega
      have HNG : Hid (grw (l.take (i + 1)) = g1) := hid (by
        rw [HGS.out]
        unfold dfG
        simp only
        rw [HNA.out, HNB.out]
        exact HG1.out)
      have HNY : Hid (l2.getD i g0 = (a1, b1, ea, ec, es)) := hid (by
        rw [HGI.out]
        unfold stG
        simp only
        rw [HNA.out, HMN.out, HA1.out, HB1.out])
      have C35 : Hid (∀ W, (∀ y ∈ l, OwE W G y) → Calls Tryz.prog 35 #[.slice ea ne ec] W fun e w' => e = .returned (.tuple #[.int .i64 (na : Nat), .int .i64 (nb : Nat)]) ∧ Below W.heap.size W w') := hid (fun W h => by
        rw [← HNE.out, ← HNA.out, ← HNB.out]
        exact count_any ea ec es (HOY.out W h) hyl)
      have C61 : Hid (∀ W : World, Calls Tryz.prog 61 #[.int .i64 0, .int .i64 (na : Int)] W fun e w' => e = .returned (.int .i64 (mn : Nat)) ∧ w' = W) := hid (fun W => by
        have := start_any 0 na (by omega) W
        rw [Nat.zero_add, HMN.out] at this
        exact this)
      have k2 : wr.cell? ⟨hb, i * 3 + 2, none⟩ = some (.slice ea ne ec) := by
        have h := (HS.out.1.cellj HCL.out i 2 HIC.out (by omega) (.int .i64 0) rfl).1
        rw [HCY.out] at h
        rw [h, ← HNE.out]
        rfl
      rw [HGV.out]
      clear hym hil hic
      go_wp2_with fail
      refine (C35.out wr HS.out.2).mono ?_
      rintro e w2 ⟨rfl, hb2⟩
      have HW2 : Hid (Below w2.heap.size w2 w2.drew) := hid ⟨rfl, rfl, rfl, Nat.le_refl _, fun _ _ => rfl⟩
      have HSd : Hid (BG w0 w2.drew G (.slice (some ⟨hb, 0, none⟩) m vc) cur ∧ ∀ y ∈ l, OwE w2.drew G y) := hid ⟨(HS.out.1.carry hb2).carry HW2.out, fun y hy => own_below (own_below (HS.out.2 y hy) hb2) HW2.out⟩
      have k0 : w2.drew.cell? ⟨hb, i * 3, none⟩ = some (.int .i64 ya) := by
        have h := (HSd.out.1.cellj HCL.out i 0 HIC.out (by omega) (.int .i64 0) rfl).1
        rw [HCY.out] at h
        exact h
      clear hb2 k2
      go_wp2_with fail
      refine region_U (fun W => W.cell? ⟨hb, i * 3, none⟩ = some (.int .i64 ya)) 10 (by kernel_rfl) ?_
      have hS0 := k0
      generalize w2.drew = u0 at hS0 HSd HW2 k0 ⊢
      refine takeU (i := 0) (v := ?_) rfl (by kernel_rfl) (by kernel_rfl) (by kernel_rfl) (by kernel_rfl) (fun _ _ _ h => h) (Or.inl ⟨by rfl, ?_⟩) hS0 ?_
      rotate_left
      · intro w' c0; go_simp; rfl
      try simp only [Act.put, List.setIfInBounds_toArray, List.set_cons_zero, List.set_cons_succ]
      refine takeU (i := 1) (v := ?_) rfl (by kernel_rfl) (by kernel_rfl) (by kernel_rfl) (by kernel_rfl) (fun _ _ _ h => h) (Or.inl ⟨by rfl, ?_⟩) hS0 ?_
      rotate_left
      · intro w' c0; go_simp; rfl
      try simp only [Act.put, List.setIfInBounds_toArray, List.set_cons_zero, List.set_cons_succ]
      refine takeU (i := 2) (v := ?_) rfl (by kernel_rfl) (by kernel_rfl) (by kernel_rfl) (by kernel_rfl) (fun _ _ _ h => h) (Or.inl ⟨by rfl, ?_⟩) hS0 ?_
      rotate_left
      · intro w' c0; go_simp; rfl
      try simp only [Act.put, List.setIfInBounds_toArray, List.set_cons_zero, List.set_cons_succ]
      refine takeU (i := 3) (v := ?_) rfl (by kernel_rfl) (by kernel_rfl) (by kernel_rfl) (by kernel_rfl) (fun _ _ _ h => h) (Or.inl ⟨by rfl, ?_⟩) hS0 ?_
      rotate_left
      · intro w' c0; go_simp; rfl
      try simp only [Act.put, List.setIfInBounds_toArray, List.set_cons_zero, List.set_cons_succ]
      refine takeU (i := 4) (v := ?_) rfl (by kernel_rfl) (by kernel_rfl) (by kernel_rfl) (by kernel_rfl) (fun _ _ _ h => h) (Or.inl ⟨by rfl, ?_⟩) hS0 ?_
      rotate_left
      · intro w' c0; go_simp; rfl
      try simp only [Act.put, List.setIfInBounds_toArray, List.set_cons_zero, List.set_cons_succ]
      refine takeU (i := 5) (v := ?_) rfl (by kernel_rfl) (by kernel_rfl) (by kernel_rfl) (by kernel_rfl) (fun _ _ _ h => h) (Or.inl ⟨by rfl, ?_⟩) hS0 ?_
      rotate_left
      · intro w' c0; go_simp; rfl
      try simp only [Act.put, List.setIfInBounds_toArray, List.set_cons_zero, List.set_cons_succ]
      refine readyU1 (i := 6) (by kernel_rfl) (consU rfl (fun KK hKK => ?_))
      refine step_callv (by rfl) 61 [.const (.int .i64 0), .tmp 25] _ [.int .i64 0, .int .i64 (na : Int)] _ (by rfl) (by rfl) (enter61 _ _) (C61.out u0) ?_
      rintro e u1 ⟨rfl, rfl⟩
      refine ⟨_, rfl, ?_⟩
      refine hKK.out _ _ (.inr k0) ?_
      clear hKK KK
      try simp only [Act.put, List.setIfInBounds_toArray, List.set_cons_zero, List.set_cons_succ]
      refine readyU1 (i := 7) (by kernel_rfl) (consU rfl (fun KK hKK => ?_))
      refine step_exec (by rfl) (.int .i64 a1) (w' := u1) (by go_simp; try rfl) ?_
      refine hKK.out _ _ (.inr k0) ?_
      clear hKK KK
      try simp only [Act.put, List.setIfInBounds_toArray, List.set_cons_zero, List.set_cons_succ]
      refine readyU1 (i := 8) (by kernel_rfl) (consU rfl (fun KK hKK => ?_))
      refine step_exec (by rfl) (.pointer (some ⟨hb, i * 3, none⟩)) (w' := u1) (by go_simp; try rfl) ?_
      refine hKK.out _ _ (.inr k0) ?_
      clear hKK KK
      try simp only [Act.put, List.setIfInBounds_toArray, List.set_cons_zero, List.set_cons_succ]
      refine readyU1 (i := 9) (by kernel_rfl) (consU rfl (fun KK hKK => ?_))
      refine step_exec (by rfl) (.pointer (some ⟨hb, i * 3, none⟩)) (w' := u1) (by go_simp; try rfl) ?_
      refine hKK.out _ _ (.inr k0) ?_
      clear hKK KK
      try simp only [Act.put, List.setIfInBounds_toArray, List.set_cons_zero, List.set_cons_succ]
      obtain ⟨hc, hf, hst⟩ := HSd.out.1.cellj HCL.out i 0 HIC.out (by omega) (.int .i64 a1) rfl
      obtain ⟨hBa, hga⟩ := HSd.out.1.set1 HCL.out i 0 (a1, yb, ea, ec, es) (.int .i64 a1) HIC.out (by omega) (by rw [HCY.out]; rfl)
      rw [Nat.add_zero] at hc hf hst hBa hga
      obtain ⟨u2, HU2⟩ : ∃ u, Hid (u1.setCell ⟨hb, i * 3, none⟩ (.int .i64 a1) = u) := ⟨_, rfl⟩
      rw [HU2.out] at hst hBa hga
      have HOa : Hid (∀ y ∈ l, OwE u2 G y) := hid (fun y hy => (HSd.out.2 y hy).header HSd.out.1 hga)
      have HBa := hid hBa
      have HCLa : Hid ((cur.set i (a1, yb, ea, ec, es)).length = m) := hid (by rw [List.length_set]; exact HCL.out)
      have HICa : Hid (i < (cur.set i (a1, yb, ea, ec, es)).length) := hid (by rw [List.length_set]; exact HIC.out)
      have HGa : Hid ((cur.set i (a1, yb, ea, ec, es)).getD i g0 = (a1, yb, ea, ec, es)) := hid (by rw [List.getD_eq_getElem?_getD, List.getElem?_set_self HIC.out]; rfl)
      have m0 : u2.cell? ⟨hb, i * 3, none⟩ = some (.int .i64 a1) := by
        have h := (HBa.out.cellj HCLa.out i 0 HICa.out (by omega) (.int .i64 0) rfl).1
        rw [HGa.out] at h
        exact h
      obtain ⟨hc1, hf1, hst1⟩ := HBa.out.cellj HCLa.out i 1 HICa.out (by omega) (.int .i64 b1) rfl
      rw [HGa.out] at hc1
      have hc1' : u2.cell? ⟨hb, i * 3 + 1, none⟩ = some (.int .i64 yb) := hc1
      obtain ⟨hBb, hgb2⟩ := HBa.out.set1 HCLa.out i 1 (a1, b1, ea, ec, es) (.int .i64 b1) HICa.out (by omega) (by rw [HGa.out]; rfl)
      obtain ⟨u3, HU3⟩ : ∃ u, Hid (u2.setCell ⟨hb, i * 3 + 1, none⟩ (.int .i64 b1) = u) := ⟨_, rfl⟩
      rw [HU3.out] at hst1 hBb hgb2
      have HF : Hid (BG w0 u3 G (.slice (some ⟨hb, 0, none⟩) m vc) (l2.take (i + 1) ++ l.drop (i + 1)) ∧ ∀ y ∈ l, OwE u3 G y) := hid ⟨by
        rw [List.set_set, HMS.out _ HNY.out] at hBb
        exact hBb, fun y hy => (HOa.out y hy).header HBa.out hgb2⟩
      refine readyU1 (i := 10) (by kernel_rfl) (consU rfl (fun KK hKK => ?_))
      refine step_skip (by rfl) (w' := u2) (by go_simp; exact HU2.out) ?_
      refine hKK.out _ _ (.inl rfl) ?_
      clear hKK KK
      try simp only [Act.put, List.setIfInBounds_toArray, List.set_cons_zero, List.set_cons_succ]
      refine doneU (by kernel_rfl) ?_ _
      have al3 : u2.setCell ⟨hb, i * 3 + 1, none⟩ (.int .i64 b1) = u3 := HU3.out
      clear hBa hga hBb hgb2 hc hf hst hc1 k0 hS0
      go_wp2
      go_roundg (m - (i + 1))
      case measure => omega
      case rel => exact ⟨i + 1, by omega, rfl, by go_num, by rw [HNG.out], HF⟩
    · have hlti : ¬ (i : Int) < (m : Int) := by omega
      have HF : Hid (BG w0 wr G (.slice va m vc) l2 ∧ ∀ y ∈ l2, OwE wr G y) := hid (by
        obtain ⟨h1, h2⟩ := HS.out
        rw [List.take_of_length_le (by have := HLL.out; have := HM.out; omega), List.drop_of_length_le (by have := HM.out; omega), List.append_nil] at h1
        refine ⟨h1, fun z hz => ?_⟩
        obtain ⟨j, hj, e⟩ := List.getElem_of_mem hz
        have h3 := HGT.out j (by have := HLL.out; omega)
        rw [List.getD_eq_getElem?_getD, List.getElem?_eq_getElem hj] at h3
        simp only [Option.getD_some] at h3
        rw [e] at h3
        rw [h3]
        have h4 : OwE wr G (l.getD j g0) := h2 _ (getD_mem l j g0 (by have := HLL.out; omega))
        exact h4)
      have e2 := HL2.out
      go_wp2
      go_end0
      exact ⟨rfl, HF.out.1, fun a b c d e h => HF.out.2 _ h⟩
end Go.Proofs.YtmpjapcijjjlbaaGreatDoor
namespace Go.Proofs.YtmpjapcijjjlbaaGreatDoor
open Go.RowKit
set_option linter.unusedVariables false
set_option linter.unusedSimpArgs false
def chE (e : Ed) : Bool := decide (e.1 ≠ 0)
def emE (e : Ed) : Bool := decide (e.2 = [])
theorem start_int (a : Int) (n : Nat) (ha : -10000000000000 ≤ a ∧ a ≤ 10000000000000) (w : World) : Calls Tryz.prog 61 #[.int .i64 a, .int .i64 (n : Int)] w fun e w' => e = .returned (.int .i64 (a + ((min n 1 : Nat) : Int))) ∧ w' = w := by
  obtain ⟨m, HM⟩ : ∃ m, Hid (min n 1 = m) := ⟨_, rfl⟩
  have hmin : min (n : Int) 1 = (m : Int) := by rw [← HM.out]; omega
  have hm : m ≤ 1 := by rw [← HM.out]; omega
  obtain ⟨r, HR⟩ : ∃ r, Hid (a + (m : Int) = r) := ⟨_, rfl⟩
  have hr : a + (m : Int) = r := HR.out
  have hwr : IntKind.i64.wrap r = r := by rw [IntKind.wrap_i64]; omega
  rw [HM.out]
  go_enter Tryz.func61, Tryz.ntmps61
  go_wp2
  go_ret
  exact ⟨ret_int (by omega), rfl⟩
theorem isChange_any (e : Ed) (w : World) : Calls Tryz.prog 63 #[.agg #[.int .i64 (e.1 : Int), .string ⟨e.2.toArray⟩]] w fun r w' => r = .returned (.bool (chE e)) ∧ Below w.heap.size w w' := by
  obtain ⟨k, x⟩ := e
  obtain ⟨X, HX⟩ : ∃ X : ByteArray, Hid (⟨x.toArray⟩ = X) := ⟨_, hid rfl⟩
  obtain ⟨G, HG⟩ : ∃ n, Hid (w.heap.size = n) := ⟨_, rfl⟩
  obtain ⟨w1, HW1⟩ : ∃ u, Hid (w.alloc (.cells #[.int .i64 (k : Int), .string X] 43) = u) := ⟨_, rfl⟩
  have HB : Hid (Below G w w1) := hid (by rw [← HW1.out, ← HG.out]; exact (Below.refl _ w).alloc (Nat.le_refl _) _)
  have k0 : w1.cell? ⟨G, 0, none⟩ = some (.int .i64 (k : Int)) := by rw [← HW1.out, ← HG.out]; simp
  have al1 : w.alloc (.cells #[.int .i64 (k : Int), .string X] 43) = w1 := HW1.out
  have hs0 : w.heap.size = G := HG.out
  have HF : Hid (chE (k, x) = ((k : Int) != 0)) := hid (by
    unfold chE
    by_cases h : k = 0
    · subst h; rfl
    · have h1 : ((k : Int) != 0) = true := by simp; omega
      rw [h1]
      simp [h])
  simp only
  rw [HX.out, HG.out, HF.out]
  go_enter Tryz.func63, Tryz.ntmps63
  go_wp2
  go_ret
  exact ⟨rfl, HB.out⟩
theorem isEmpty_any (e : Ed) (w : World) : Calls Tryz.prog 64 #[.agg #[.int .i64 (e.1 : Int), .string ⟨e.2.toArray⟩]] w fun r w' => r = .returned (.bool (emE e)) ∧ Below w.heap.size w w' := by
  obtain ⟨k, x⟩ := e
  obtain ⟨X, HX⟩ : ∃ X : ByteArray, Hid (⟨x.toArray⟩ = X) := ⟨_, hid rfl⟩
  obtain ⟨G, HG⟩ : ∃ n, Hid (w.heap.size = n) := ⟨_, rfl⟩
  obtain ⟨w1, HW1⟩ : ∃ u, Hid (w.alloc (.cells #[.int .i64 (k : Int), .string X] 43) = u) := ⟨_, rfl⟩
  have HB : Hid (Below G w w1) := hid (by rw [← HW1.out, ← HG.out]; exact (Below.refl _ w).alloc (Nat.le_refl _) _)
  have k0 : w1.cell? ⟨G, 1, none⟩ = some (.string X) := by rw [← HW1.out, ← HG.out]; simp
  have al1 : w.alloc (.cells #[.int .i64 (k : Int), .string X] 43) = w1 := HW1.out
  have hs0 : w.heap.size = G := HG.out
  obtain ⟨r, HR⟩ : ∃ r, Hid (emE (k, x) = r) := ⟨_, rfl⟩
  have hF : (X.toList == []) = r := by
    rw [← HR.out, ← HX.out]
    unfold emE
    simp only
    by_cases h : x = []
    · subst h; simp
    · simp [h]
  simp only
  rw [HX.out, HG.out, HR.out]
  go_enter Tryz.func64, Tryz.ntmps64
  go_wp2
  go_ret
  exact ⟨rfl, HB.out⟩
def PIx (p : Ed → Bool) (L : List Ed) (e : Ending) : Prop := ∃ r : Int, e = .returned (.int .i64 r) ∧ ((0 ≤ r ∧ L.any p = true) ∨ (r = -1 ∧ L.any p = false))
set_option maxRecDepth 20000 in
theorem indexF63 {w : World} (a : Option Addr) (ca : Nat) (L : List Ed) (hA : PE w a ca L) (hl : L.length ≤ 1000000) :
    Calls Tryz.prog 81 #[.slice a L.length ca, .func (.func 63) #[] #[]] w fun e w' => PIx chE L e ∧ Below w.heap.size w w' := by
  obtain ⟨n, HN⟩ : ∃ n, Hid (L.length = n) := ⟨_, rfl⟩
  obtain ⟨G, HG⟩ : ∃ G, Hid (w.heap.size = G) := ⟨_, rfl⟩
  have hn6 : n ≤ 1000000 := by rw [← HN.out]; exact hl
  have HPA : Hid (∀ W, Below G w W → PE W a ca L) := fun W hW => hA.below (by rw [HG.out]; exact hW)
  have HFA : Hid (0 < n → ∃ b off, a = some ⟨b, off, none⟩) := fun h0 => by
    obtain ⟨b, off, e1, _⟩ := hA.at_ (by rw [HN.out]; exact h0)
    exact ⟨b, off, e1⟩
  have HGS : Hid (∀ W, Below G w W → G ≤ W.heap.size) := hid (fun W hW => by have := hW.size; have := HG.out; omega)
  rw [HN.out, HG.out]
  clear hA hl
  go_enter Tryz.func81, Tryz.ntmps81
  go_wp2_with fail
  go_loopg [8] n (fun gg iv wr => ∃ i : Nat, i ≤ n ∧ gg = n - i ∧ iv = .int .i64 i ∧ Hid (Below G w wr) ∧ Hid (∀ j, j < i → chE (L.getD j (0, [])) = false))
  case atStart => exact ⟨0, Nat.zero_le _, rfl, rfl, hid (Below.refl _ _), hid (fun j hj => by omega)⟩
  case round =>
    obtain ⟨i, hi, hkk, rfl, HB, HNO⟩ := hrel
    by_cases hlt : i < n
    · have hlti : (i : Int) < (n : Int) := by omega
      obtain ⟨b, off, rfl⟩ := HFA.out (by omega)
      have hil : i < L.length := by rw [HN.out]; exact hlt
      obtain ⟨x, HX⟩ : ∃ x, Hid (L.getD i (0, []) = x) := ⟨_, rfl⟩
      obtain ⟨hd0, hd1⟩ := PE.two (HPA.out _ HB.out) i hil
      rw [HX.out] at hd0 hd1
      obtain ⟨r, HR⟩ : ∃ r, Hid (chE x = r) := ⟨_, rfl⟩
      have CF : Hid (∀ W : World, Calls Tryz.prog 63 #[.agg #[.int .i64 (x.1 : Int), .string ⟨x.2.toArray⟩]] W fun e w' => e = .returned (.bool r) ∧ Below W.heap.size W w') := hid (fun W => by rw [← HR.out]; exact isChange_any x W)
      have HMX : Hid (x ∈ L) := hid (by rw [← HX.out]; exact getD_mem L i _ hil)
      obtain ⟨kx, xx⟩ := x
      simp only at hd0 hd1 CF
      obtain ⟨X, HXX⟩ : ∃ X : ByteArray, Hid (⟨xx.toArray⟩ = X) := ⟨_, hid rfl⟩
      rw [HXX.out] at hd1 CF
      clear hil
      go_wp2_with fail
      refine (CF.out _).mono ?_
      rintro e w2 ⟨rfl, hb2⟩
      have HB2 : Hid (Below G w w2) := hid (HB.out.trans (hb2.mono (HGS.out _ HB.out)))
      clear hb2 hd0 hd1
      cases r with
      | true =>
        have HF : Hid (L.any chE = true) := hid (List.any_eq_true.2 ⟨_, HMX.out, HR.out⟩)
        go_wp2
        go_ret
        exact ⟨⟨_, rfl, .inl ⟨by omega, HF.out⟩⟩, HB2.out⟩
      | false =>
        have HNO2 : Hid (∀ j, j < i + 1 → chE (L.getD j (0, [])) = false) := hid (fun j hj => by
          by_cases e : j = i
          · rw [e, HX.out]; exact HR.out
          · exact HNO.out j (by omega))
        go_wp2
        go_roundg (n - (i + 1))
        case measure => omega
        case rel => exact ⟨i + 1, by omega, rfl, by go_num, HB2, HNO2⟩
    · have hlti : ¬ (i : Int) < (n : Int) := by omega
      have HF : Hid (L.any chE = false) := hid (by
        rw [List.any_eq_false]
        intro x hx
        obtain ⟨j, hj, e⟩ := List.getElem_of_mem hx
        have h1 := HNO.out j (by have := HN.out; omega)
        rw [List.getD_eq_getElem?_getD, List.getElem?_eq_getElem hj] at h1
        simp only [Option.getD_some] at h1
        rw [e] at h1
        rw [h1]
        simp)
      go_wp2
      go_ret
      exact ⟨⟨_, rfl, .inr ⟨rfl, HF.out⟩⟩, HB.out⟩
set_option maxRecDepth 20000 in
theorem containsF63 {w : World} (a : Option Addr) (ca : Nat) (L : List Ed) (hA : PE w a ca L) (hl : L.length ≤ 1000000) :
    Calls Tryz.prog 62 #[.slice a L.length ca, .func (.func 63) #[] #[]] w fun e w' => e = .returned (.bool (L.any chE)) ∧ Below w.heap.size w w' := by
  obtain ⟨n, HN⟩ : ∃ n, Hid (L.length = n) := ⟨_, rfl⟩
  have C : Hid (Calls Tryz.prog 81 #[.slice a n ca, .func (.func 63) #[] #[]] w fun e w' => PIx chE L e ∧ Below w.heap.size w w') := hid (by rw [← HN.out]; exact indexF63 a ca L hA hl)
  rw [HN.out]
  clear hA hl
  go_enter Tryz.func62, Tryz.ntmps62
  go_wp2_with fail
  refine C.out.mono ?_
  rintro e w2 ⟨⟨r, rfl, h⟩, hb2⟩
  have HB2 := hid hb2
  clear hb2
  rcases h with ⟨h1, h2⟩ | ⟨rfl, h2⟩
  · have H2 := hid h2
    clear h2
    go_wp2
    go_ret
    exact ⟨by rw [H2.out]; rfl, HB2.out⟩
  · have H2 := hid h2
    clear h2
    go_wp2
    go_ret
    exact ⟨by rw [H2.out]; rfl, HB2.out⟩
set_option maxRecDepth 20000 in
theorem indexF64 {w : World} (a : Option Addr) (ca : Nat) (L : List Ed) (hA : PE w a ca L) (hl : L.length ≤ 1000000) :
    Calls Tryz.prog 81 #[.slice a L.length ca, .func (.func 64) #[] #[]] w fun e w' => PIx emE L e ∧ Below w.heap.size w w' := by
  obtain ⟨n, HN⟩ : ∃ n, Hid (L.length = n) := ⟨_, rfl⟩
  obtain ⟨G, HG⟩ : ∃ G, Hid (w.heap.size = G) := ⟨_, rfl⟩
  have hn6 : n ≤ 1000000 := by rw [← HN.out]; exact hl
  have HPA : Hid (∀ W, Below G w W → PE W a ca L) := fun W hW => hA.below (by rw [HG.out]; exact hW)
  have HFA : Hid (0 < n → ∃ b off, a = some ⟨b, off, none⟩) := fun h0 => by
    obtain ⟨b, off, e1, _⟩ := hA.at_ (by rw [HN.out]; exact h0)
    exact ⟨b, off, e1⟩
  have HGS : Hid (∀ W, Below G w W → G ≤ W.heap.size) := hid (fun W hW => by have := hW.size; have := HG.out; omega)
  rw [HN.out, HG.out]
  clear hA hl
  go_enter Tryz.func81, Tryz.ntmps81
  go_wp2_with fail
  go_loopg [8] n (fun gg iv wr => ∃ i : Nat, i ≤ n ∧ gg = n - i ∧ iv = .int .i64 i ∧ Hid (Below G w wr) ∧ Hid (∀ j, j < i → emE (L.getD j (0, [])) = false))
  case atStart => exact ⟨0, Nat.zero_le _, rfl, rfl, hid (Below.refl _ _), hid (fun j hj => by omega)⟩
  case round =>
    obtain ⟨i, hi, hkk, rfl, HB, HNO⟩ := hrel
    by_cases hlt : i < n
    · have hlti : (i : Int) < (n : Int) := by omega
      obtain ⟨b, off, rfl⟩ := HFA.out (by omega)
      have hil : i < L.length := by rw [HN.out]; exact hlt
      obtain ⟨x, HX⟩ : ∃ x, Hid (L.getD i (0, []) = x) := ⟨_, rfl⟩
      obtain ⟨hd0, hd1⟩ := PE.two (HPA.out _ HB.out) i hil
      rw [HX.out] at hd0 hd1
      obtain ⟨r, HR⟩ : ∃ r, Hid (emE x = r) := ⟨_, rfl⟩
      have CF : Hid (∀ W : World, Calls Tryz.prog 64 #[.agg #[.int .i64 (x.1 : Int), .string ⟨x.2.toArray⟩]] W fun e w' => e = .returned (.bool r) ∧ Below W.heap.size W w') := hid (fun W => by rw [← HR.out]; exact isEmpty_any x W)
      have HMX : Hid (x ∈ L) := hid (by rw [← HX.out]; exact getD_mem L i _ hil)
      obtain ⟨kx, xx⟩ := x
      simp only at hd0 hd1 CF
      obtain ⟨X, HXX⟩ : ∃ X : ByteArray, Hid (⟨xx.toArray⟩ = X) := ⟨_, hid rfl⟩
      rw [HXX.out] at hd1 CF
      clear hil
      go_wp2_with fail
      refine (CF.out _).mono ?_
      rintro e w2 ⟨rfl, hb2⟩
      have HB2 : Hid (Below G w w2) := hid (HB.out.trans (hb2.mono (HGS.out _ HB.out)))
      clear hb2 hd0 hd1
      cases r with
      | true =>
        have HF : Hid (L.any emE = true) := hid (List.any_eq_true.2 ⟨_, HMX.out, HR.out⟩)
        go_wp2
        go_ret
        exact ⟨⟨_, rfl, .inl ⟨by omega, HF.out⟩⟩, HB2.out⟩
      | false =>
        have HNO2 : Hid (∀ j, j < i + 1 → emE (L.getD j (0, [])) = false) := hid (fun j hj => by
          by_cases e : j = i
          · rw [e, HX.out]; exact HR.out
          · exact HNO.out j (by omega))
        go_wp2
        go_roundg (n - (i + 1))
        case measure => omega
        case rel => exact ⟨i + 1, by omega, rfl, by go_num, HB2, HNO2⟩
    · have hlti : ¬ (i : Int) < (n : Int) := by omega
      have HF : Hid (L.any emE = false) := hid (by
        rw [List.any_eq_false]
        intro x hx
        obtain ⟨j, hj, e⟩ := List.getElem_of_mem hx
        have h1 := HNO.out j (by have := HN.out; omega)
        rw [List.getD_eq_getElem?_getD, List.getElem?_eq_getElem hj] at h1
        simp only [Option.getD_some] at h1
        rw [e] at h1
        rw [h1]
        simp)
      go_wp2
      go_ret
      exact ⟨⟨_, rfl, .inr ⟨rfl, HF.out⟩⟩, HB.out⟩
set_option maxRecDepth 20000 in
theorem containsF64 {w : World} (a : Option Addr) (ca : Nat) (L : List Ed) (hA : PE w a ca L) (hl : L.length ≤ 1000000) :
    Calls Tryz.prog 62 #[.slice a L.length ca, .func (.func 64) #[] #[]] w fun e w' => e = .returned (.bool (L.any emE)) ∧ Below w.heap.size w w' := by
  obtain ⟨n, HN⟩ : ∃ n, Hid (L.length = n) := ⟨_, rfl⟩
  have C : Hid (Calls Tryz.prog 81 #[.slice a n ca, .func (.func 64) #[] #[]] w fun e w' => PIx emE L e ∧ Below w.heap.size w w') := hid (by rw [← HN.out]; exact indexF64 a ca L hA hl)
  rw [HN.out]
  clear hA hl
  go_enter Tryz.func62, Tryz.ntmps62
  go_wp2_with fail
  refine C.out.mono ?_
  rintro e w2 ⟨⟨r, rfl, h⟩, hb2⟩
  have HB2 := hid hb2
  clear hb2
  rcases h with ⟨h1, h2⟩ | ⟨rfl, h2⟩
  · have H2 := hid h2
    clear h2
    go_wp2
    go_ret
    exact ⟨by rw [H2.out]; rfl, HB2.out⟩
  · have H2 := hid h2
    clear h2
    go_wp2
    go_ret
    exact ⟨by rw [H2.out]; rfl, HB2.out⟩
end Go.Proofs.YtmpjapcijjjlbaaGreatDoor
namespace Go.Proofs.YtmpjapcijjjlbaaGreatDoor
open Go.RowKit
set_option linter.unusedVariables false
set_option linter.unusedSimpArgs false
structure QH (g : Nat) (a b : Int) (W : World) : Prop where
  c0 : W.cell? ⟨g, 0, none⟩ = some (.int .i64 a)
  c1 : W.cell? ⟨g, 1, none⟩ = some (.int .i64 b)
theorem enter24 (x y : Value) (w : World) : (callFunc 55 #[x, y]).run Tryz.prog w = .ok (.enter 55 #[x, y]) w := by kernel_rfl
theorem plc_len (a n : Nat) (ha : a ≤ 1000000000) (hn : n ≤ 1000000000) : (plc a n).length ≤ 23 := by
  have h1 := dig_len 10 (a + min n 1) (by omega)
  have h2 := dig_len 10 n (by omega)
  unfold plc
  simp only [List.length_append, List.length_cons]
  omega
set_option maxRecDepth 20000 in
set_option maxHeartbeats 1000000 in
theorem head_any {w : World} (a b : Nat) (p : Option Addr) (c : Nat) (L : List Ed) (hP : PE w p c L) (hl : L.length ≤ 1000000) (ha : a ≤ 1000000000) (hb : b ≤ 1000000000) (ht : Tab w) :
    Calls Tryz.prog 31 #[.agg #[.int .i64 (a : Int), .int .i64 (b : Int), .slice p L.length c]] w fun e w' => e = .returned (.string ⟨(headT a (cA L) b (cB L)).toArray⟩) ∧ Below w.heap.size w w' := by
  obtain ⟨l, HL⟩ : ∃ n, Hid (L.length = n) := ⟨_, rfl⟩
  obtain ⟨w0, HW0⟩ : ∃ w0, Hid (w.alloc (.cells #[.int .i64 (a : Int), .int .i64 (b : Int), .slice p l c] 73) = w0) := ⟨_, rfl⟩
  obtain ⟨g, HG⟩ : ∃ g, Hid (w.heap.size = g) := ⟨_, rfl⟩
  obtain ⟨n, HN⟩ : ∃ n, Hid (cA L = n) := ⟨_, rfl⟩
  obtain ⟨m, HM⟩ : ∃ n, Hid (cB L = n) := ⟨_, rfl⟩
  have hn : n ≤ 1000000 := by rw [← HN.out]; exact Nat.le_trans (cA_le L) hl
  have hm : m ≤ 1000000 := by rw [← HM.out]; exact Nat.le_trans (cB_le L) hl
  have HB0 : Hid (Below g w w0) := hid (by rw [← HW0.out, ← HG.out]; exact (Below.refl _ w).alloc (Nat.le_refl _) _)
  have hg0 : g < w0.heap.size := by rw [← HW0.out, ← HG.out]; simp
  have hc0 : w0.cell? ⟨g, 0, none⟩ = some (.int .i64 a) := by rw [← HW0.out, ← HG.out]; simp
  have hc1 : w0.cell? ⟨g, 1, none⟩ = some (.int .i64 b) := by rw [← HW0.out, ← HG.out]; simp
  have hc2 : w0.cell? ⟨g, 2, none⟩ = some (.slice p l c) := by rw [← HW0.out, ← HG.out]; simp
  have C18 : Hid (Calls Tryz.prog 35 #[.slice p l c] w0 fun e w' => e = .returned (.tuple #[.int .i64 (n : Nat), .int .i64 (m : Nat)]) ∧ Below w0.heap.size w0 w') := hid (by
    rw [← HL.out, ← HN.out, ← HM.out]
    exact count_any p c L (hP.below (by rw [HG.out]; exact HB0.out)) hl)
  have HTb : Hid (∀ W, Below w0.heap.size w0 W → Tab W) := fun W hW => (ht.below (by rw [HG.out]; exact HB0.out)).below hW
  have HQ0 : Hid (∀ W, Below w0.heap.size w0 W → QH g a b W) := fun W hW => ⟨by rw [hW.cell (p := ⟨g, 0, none⟩) hg0]; exact hc0, by rw [hW.cell (p := ⟨g, 1, none⟩) hg0]; exact hc1⟩
  have CP : Hid (∀ x y W, x ≤ 1000000000 → y ≤ 1000000000 → Below w0.heap.size w0 W → Calls Tryz.prog 55 #[.int .i64 ((x : Nat) : Int), .int .i64 ((y : Nat) : Int)] W fun e w' => e = .returned (.string ⟨(plc x y).toArray⟩) ∧ Below w0.heap.size w0 w') := fun x y W hx hy hW => by
    refine (place_any x y hx hy W (HTb.out W hW)).mono ?_
    rintro e w' ⟨rfl, hb⟩
    exact ⟨rfl, hW.trans (hb.mono hW.size)⟩
  obtain ⟨X, HX⟩ : ∃ X, Hid ((⟨(plc a n).toArray⟩ : ByteArray) = X) := ⟨_, rfl⟩
  obtain ⟨Y, HY⟩ : ∃ X, Hid ((⟨(plc b m).toArray⟩ : ByteArray) = X) := ⟨_, rfl⟩
  have hX : X.size ≤ 23 := by rw [← HX.out]; simpa [ByteArray.size] using plc_len a n ha (by omega)
  have hY : Y.size ≤ 23 := by rw [← HY.out]; simpa [ByteArray.size] using plc_len b m hb (by omega)
  have C1 : Hid (∀ W, Below w0.heap.size w0 W → Calls Tryz.prog 55 #[.int .i64 (a : Int), .int .i64 (n : Int)] W fun e w' => e = .returned (.string X) ∧ Below w0.heap.size w0 w') := fun W hW => by rw [← HX.out]; exact CP.out a n W ha (by omega) hW
  have C2 : Hid (∀ W, Below w0.heap.size w0 W → Calls Tryz.prog 55 #[.int .i64 (b : Int), .int .i64 (m : Int)] W fun e w' => e = .returned (.string Y) ∧ Below w0.heap.size w0 w') := fun W hW => by rw [← HY.out]; exact CP.out b m W hb (by omega) hW
  obtain ⟨X1, HX1⟩ : ∃ Z, Hid ((⟨#[64, 64, 32, 45]⟩ : ByteArray) ++ X = Z) := ⟨_, rfl⟩
  obtain ⟨X2, HX2⟩ : ∃ Z, Hid (X1 ++ (⟨#[32, 43]⟩ : ByteArray) = Z) := ⟨_, rfl⟩
  obtain ⟨X3, HX3⟩ : ∃ Z, Hid (X2 ++ Y = Z) := ⟨_, rfl⟩
  obtain ⟨X4, HX4⟩ : ∃ Z, Hid (X3 ++ (⟨#[32, 64, 64, 10]⟩ : ByteArray) = Z) := ⟨_, rfl⟩
  have hX1 : X1.size = 4 + X.size := by rw [← HX1.out, ByteArray.size_append]; rfl
  have hX2 : X2.size = X1.size + 2 := by rw [← HX2.out, ByteArray.size_append]; rfl
  have hX3 : X3.size = X2.size + Y.size := by rw [← HX3.out, ByteArray.size_append]
  have HR : Hid ((⟨(headT a n b m).toArray⟩ : ByteArray) = X4) := hid (by
    rw [← HX4.out, ← HX3.out, ← HX2.out, ← HX1.out, ← HX.out, ← HY.out, show (⟨#[64, 64, 32, 45]⟩ : ByteArray) = ⟨([64, 64, 32, 45] : Str).toArray⟩ from rfl, show (⟨#[32, 43]⟩ : ByteArray) = ⟨([32, 43] : Str).toArray⟩ from rfl, show (⟨#[32, 64, 64, 10]⟩ : ByteArray) = ⟨([32, 64, 64, 10] : Str).toArray⟩ from rfl, str_add, str_add, str_add, str_add]
    unfold headT
    simp only [List.append_assoc])
  rw [HL.out, HN.out, HM.out, HR.out]
  clear hP ht CP
  go_enter Tryz.func31, Tryz.ntmps31
  rw [HG.out]
  go_wp2_with fail
  rw [HW0.out, HG.out]
  refine C18.out.mono ?_
  rintro e w1 ⟨rfl, hb1⟩
  have HB1 : Hid (Below w0.heap.size w0 w1) := hb1
  clear hb1
  go_wp2_with fail
  have HBD : Hid (Below w0.heap.size w0 w1.drew) := hid (HB1.out.trans ⟨rfl, rfl, rfl, Nat.le_refl _, fun _ _ => rfl⟩)
  refine wp_region_held_drew (S := QH g a b) (by kernel_rfl) (HQ0.out _ HBD.out) (fun hHeld => ?_)
  generalize w1.drew = wd at hHeld HBD ⊢
  refine takeL (i := 0) (v := ?_) rfl (by kernel_rfl) (by kernel_rfl) (by kernel_rfl) (fun _ _ _ h => h) (Or.inl ⟨by rfl, ?_⟩) hHeld ?_
  rotate_left
  · rintro w' ⟨s0, s1⟩; go_simp; rfl
  try simp only [Act.put, List.setIfInBounds_toArray, List.set_cons_zero, List.set_cons_succ]
  refine takeL (i := 1) (v := ?_) rfl (by kernel_rfl) (by kernel_rfl) (by kernel_rfl) (fun _ _ _ h => h) (Or.inl ⟨by rfl, ?_⟩) hHeld ?_
  rotate_left
  · rintro w' ⟨s0, s1⟩; go_simp; rfl
  try simp only [Act.put, List.setIfInBounds_toArray, List.set_cons_zero, List.set_cons_succ]
  refine takeL (i := 2) (v := ?_) rfl (by kernel_rfl) (by kernel_rfl) (by kernel_rfl) (fun _ _ _ h => h) (Or.inl ⟨by rfl, ?_⟩) hHeld ?_
  rotate_left
  · rintro w' ⟨s0, s1⟩; go_simp; rfl
  try simp only [Act.put, List.setIfInBounds_toArray, List.set_cons_zero, List.set_cons_succ]
  refine takeL (i := 6) (v := ?_) rfl (by kernel_rfl) (by kernel_rfl) (by kernel_rfl) (fun _ _ _ h => h) (Or.inl ⟨by rfl, ?_⟩) hHeld ?_
  rotate_left
  · rintro w' ⟨s0, s1⟩; go_simp; rfl
  try simp only [Act.put, List.setIfInBounds_toArray, List.set_cons_zero, List.set_cons_succ]
  refine takeL (i := 7) (v := ?_) rfl (by kernel_rfl) (by kernel_rfl) (by kernel_rfl) (fun _ _ _ h => h) (Or.inl ⟨by rfl, ?_⟩) hHeld ?_
  rotate_left
  · rintro w' ⟨s0, s1⟩; go_simp; rfl
  try simp only [Act.put, List.setIfInBounds_toArray, List.set_cons_zero, List.set_cons_succ]
  refine takeL (i := 8) (v := ?_) rfl (by kernel_rfl) (by kernel_rfl) (by kernel_rfl) (fun _ _ _ h => h) (Or.inl ⟨by rfl, ?_⟩) hHeld ?_
  rotate_left
  · rintro w' ⟨s0, s1⟩; go_simp; rfl
  try simp only [Act.put, List.setIfInBounds_toArray, List.set_cons_zero, List.set_cons_succ]
  refine wpAnyH_ready (rs := [3]) (by kernel_rfl) (by simp) ?_
  refine consL rfl (fun KK hKK => ?_) AllReadyH.nil
  refine step_callv (by rfl) 55 [.tmp 12, .tmp 13] _ [.int .i64 (a : Int), .int .i64 (n : Int)] _ (by rfl) (by rfl) (enter24 _ _) (C1.out _ HBD.out) ?_
  rintro ev w2 ⟨rfl, hb⟩
  refine ⟨_, rfl, ?_⟩
  refine hKK.out _ _ (HQ0.out _ hb) (fun hHeld2 => ?_)
  clear hKK KK
  have HBw2 : Hid (Below w0.heap.size w0 w2) := hb
  clear hb
  try simp only [Act.put, List.setIfInBounds_toArray, List.set_cons_zero, List.set_cons_succ]
  refine takeL (i := 4) (v := .string X1) rfl (by kernel_rfl) (by kernel_rfl) (by kernel_rfl) (fun _ _ _ h => h) (Or.inl ⟨by rfl, ?_⟩) hHeld2 ?_
  · rintro w' ⟨s0, s1⟩; rw [← HX1.out]; go_simp; first | done | omega | rfl
  try simp only [Act.put, List.setIfInBounds_toArray, List.set_cons_zero, List.set_cons_succ]
  refine takeL (i := 5) (v := .string X2) rfl (by kernel_rfl) (by kernel_rfl) (by kernel_rfl) (fun _ _ _ h => h) (Or.inl ⟨by rfl, ?_⟩) hHeld2 ?_
  · rintro w' ⟨s0, s1⟩; rw [← HX2.out]; go_simp; first | done | omega | rfl
  try simp only [Act.put, List.setIfInBounds_toArray, List.set_cons_zero, List.set_cons_succ]
  refine wpAnyH_ready (rs := [9]) (by kernel_rfl) (by simp) ?_
  refine consL rfl (fun KK hKK => ?_) AllReadyH.nil
  refine step_callv (by rfl) 55 [.tmp 18, .tmp 19] _ [.int .i64 (b : Int), .int .i64 (m : Int)] _ (by rfl) (by rfl) (enter24 _ _) (C2.out _ HBw2.out) ?_
  rintro ev w3 ⟨rfl, hb⟩
  refine ⟨_, rfl, ?_⟩
  refine hKK.out _ _ (HQ0.out _ hb) (fun hHeld3 => ?_)
  clear hKK KK
  have HBw3 : Hid (Below w0.heap.size w0 w3) := hb
  clear hb
  try simp only [Act.put, List.setIfInBounds_toArray, List.set_cons_zero, List.set_cons_succ]
  refine takeL (i := 10) (v := .string X3) rfl (by kernel_rfl) (by kernel_rfl) (by kernel_rfl) (fun _ _ _ h => h) (Or.inl ⟨by rfl, ?_⟩) hHeld3 ?_
  · rintro w' ⟨s0, s1⟩; rw [← HX3.out]; go_simp; first | done | omega | rfl
  try simp only [Act.put, List.setIfInBounds_toArray, List.set_cons_zero, List.set_cons_succ]
  refine takeL (i := 11) (v := .string X4) rfl (by kernel_rfl) (by kernel_rfl) (by kernel_rfl) (fun _ _ _ h => h) (Or.inl ⟨by rfl, ?_⟩) hHeld3 ?_
  · rintro w' ⟨s0, s1⟩; rw [← HX4.out]; go_simp; first | done | omega | rfl
  try simp only [Act.put, List.setIfInBounds_toArray, List.set_cons_zero, List.set_cons_succ]
  refine takeL (i := 12) (v := ?_) rfl (by kernel_rfl) (by kernel_rfl) (by kernel_rfl) (fun _ _ _ h => h) (Or.inl ⟨by rfl, ?_⟩) hHeld3 ?_
  rotate_left
  · rintro w' ⟨s0, s1⟩; go_simp; rfl
  try simp only [Act.put, List.setIfInBounds_toArray, List.set_cons_zero, List.set_cons_succ]
  refine wpAnyH_done (by kernel_rfl) ?_ _
  clear hHeld hHeld2 hHeld3
  go_wp2
  go_ret
  exact ⟨rfl, HB0.out.trans (HBw3.out.mono (Nat.le_of_lt hg0))⟩
end Go.Proofs.YtmpjapcijjjlbaaGreatDoor
namespace Go.Proofs
open Go.Shelf
def Tryz.lays240_ren : Go.Shelf.Ren := ⟨fun | 240 => 54 | 276 => 72 | n => n, fun | 0 => 0 | 4 => 4 | 9 => 9 | 20 => 20 | 70 => 69 | 72 => 71 | 164 => 89 | 37 => 22 | n => n, fun | n => n⟩
theorem Tryz.lays240 : Go.Proofs.Lays.n240 Tryz.prog Tryz.lays240_ren := {
  mixed := by kernel_rfl
  f240 := Tryz.func54.trans (congrArg some (by kernel_rfl))
  f276 := Tryz.func72.trans (congrArg some (by kernel_rfl))
  t0 := Tryz.underlying0
  a0 := Tryz.isAgg0
  z0 := Tryz.sizeOf0
  v0 := Tryz.zeroValue0
  t4 := Tryz.underlying4
  a4 := Tryz.isAgg4
  z4 := Tryz.sizeOf4
  v4 := Tryz.zeroValue4
  t9 := Tryz.underlying9
  a9 := Tryz.isAgg9
  z9 := Tryz.sizeOf9
  v9 := Tryz.zeroValue9
  t20 := Tryz.underlying20
  a20 := Tryz.isAgg20
  z20 := Tryz.sizeOf20
  v20 := Tryz.zeroValue20
  t70 := Tryz.underlying69
  a70 := Tryz.isAgg69
  z70 := Tryz.sizeOf69
  v70 := Tryz.zeroValue69
  t72 := Tryz.underlying71
  a72 := Tryz.isAgg71
  z72 := Tryz.sizeOf71
  v72 := Tryz.zeroValue71
  t164 := Tryz.underlying89
  a164 := Tryz.isAgg89
  z164 := Tryz.sizeOf89
  v164 := Tryz.zeroValue89 }
theorem Tryz.Builder_Extra_240 : Builder.Extra Tryz.prog Tryz.lays240_ren := {
  sizeBuilder := by kernel_rfl
  liesBuilder := by kernel_rfl
  t5 := Tryz.underlying5
  a5 := Tryz.isAgg5
  z5 := Tryz.sizeOf5
  v5 := Tryz.zeroValue5
  infoByte := by kernel_rfl
  cellsByte := by kernel_rfl
  sizeByte := by kernel_rfl
  neB5 := by decide }
end Go.Proofs
