/- The finder's 'add'. -/
import Derived.Test.YtblegkefeiefjaaDoorFnG
namespace Go.Proofs.YtblegkefeiefjaaDoor
open Go.RowKit Go.Maps Sam
set_option linter.unusedVariables false
set_option linter.unusedSimpArgs false

def Fn.lastS (F : Fn) (l : Nat) : Fn := { F with last := l }
theorem Rep.lastS {B g : Nat} {w : World} {F : Fn} (h : Rep B w g F) (l : Nat) : Rep B (w.setCell ⟨g, 3, none⟩ (.int .i32 l)) g (F.lastS l) ∧ Below B w (w.setCell ⟨g, 3, none⟩ (.int .i32 l)) := by
  obtain ⟨a1, a2, a3, a4, a5, a6⟩ := h.ap
  have f1 : ∀ k, k ≠ g → (w.setCell ⟨g, 3, none⟩ (.int .i32 l)).heap[k]? = w.heap[k]? := fun k hk => Below.heap_setCell w _ _ k hk
  refine ⟨⟨?_, h.st.kept (f1 _ (Ne.symm a1)), h.ed.kept (f1 _ (Ne.symm a2)), h.mp.kept (f1 _ (Ne.symm a3)), h.Bg, h.Bs, h.Be, h.Bm, h.csl, h.mnl⟩, (Below.refl _ _).setCell h.Bg _⟩
  rw [heap_set w g 3 _ h.fin]
  simp [Fn.obj, Fn.lastS]
theorem link_same {F : Fn} {a : Nat} {s : Option Nat} (h : F.sh a = s) : F.link a s = F := by
  have : upd F.sh a s = F.sh := by
    funext j
    by_cases hj : j = a
    · rw [hj, upd_same, h]
    · rw [upd_ne _ _ hj]
  unfold Fn.link
  rw [this]
theorem enter43 (v1 v2 v3 : Value) (w : World) : (callFunc 43 #[v1, v2, v3]).run Tryd.prog w = .ok (.enter 43 #[v1, v2, v3]) w := by kernel_rfl
/-- 'split', where the first loop has met an edge. -/
theorem split_mid {B g : Nat} {t : List Int} {F Fc : Fn} {wd : Nat → List Int} {c p : Nat} (hc : c < 256) (w : World) (hR : Rep B w g Fc) (hg : Good t F wd) (hM : Mid t wd F Fc c (some p)) (hm : Fc.m p c ≠ 0) (ht : t.length ≤ 100000) (hcs : F.N + 2 ≤ Fc.cs) :
    Calls Tryd.prog 43 #[.pointer (some ⟨g, 0, none⟩), .int .i32 p, .int .u8 c] w fun e w' => Below B w w' ∧ ∃ r F5 wd', e = .returned (.int .i32 ((r : Nat) : Int)) ∧ Rep B w' g F5 ∧ F5.sb = Fc.sb ∧ F5.cs = Fc.cs ∧ F.N < F5.N ∧ F5.N ≤ 300000 ∧ Good (t ++ [(c : Int)]) (F5.link F.N (some r)) wd' := by
  obtain ⟨m1, m2, m3, m4, m5⟩ := hM.met hg hm
  obtain ⟨hp, hpt⟩ := hM.ok p rfl
  have hg' := hg
  obtain ⟨A, hl, hG, hN⟩ := hg
  have hNe := hM.N_eq
  have lp := hM.lon_old hp
  have lt := hM.lon_old m2
  have p1 := (A.len_le hp).2
  have p2 := (A.len_le m2).2
  have m3l := m3.length_le
  simp at m3l
  rw [hl p hp] at lp
  rw [hl _ m2] at lt
  have hSp := split_any p c (Fc.to (Fc.m p c)) hc w hR hM.gr (by omega) hm rfl m4 (by omega) (by omega)
    (fun q r hq hr => by
      by_cases hqN : q = F.N
      · have e1 : Fc.sh q = some 0 := by rw [hM.same.sh, hqN]; exact upd_same _ _ _
        rw [e1] at hr
        cases hr
        have hpos := A.pos
        refine ⟨by omega, ?_⟩
        rw [hM.lon_old hpos, hl 0 hpos, A.wd0, hqN, hM.same.lon]
        show 0 < upd F.lon F.N (t.length + 1) F.N
        rw [upd_same]; omega
      · have hq' : q < F.N := by omega
        rw [hM.sh_old hq'] at hr
        obtain ⟨a1, a2, _⟩ := A.sh_some hq' hr
        rw [hM.lon_old hq', hM.lon_old a1, hl q hq', hl r a1]
        exact ⟨by omega, a2⟩) (by omega) (by omega) (fun r hr => by
      rw [hM.sh_old m2] at hr
      obtain ⟨a1, a2, _⟩ := A.sh_some m2 hr
      have := A.lk hp m1 hr
      rw [hM.lon_old a1, hl r a1]
      omega)
  refine hSp.mono ?_
  rintro e w' ⟨hB, ⟨h1, rfl, hR'⟩ | ⟨h1, rfl, F2, F', hC, hL, hR'⟩⟩
  · refine ⟨hB, _, Fc, _, rfl, hR', rfl, rfl, by omega, by have := hR'.st.le; have := hR'.csl; omega, hM.finish1 hg' m2 ?_ ?_⟩
    · have e : wd p ++ [(c : Int)] = wd (Fc.to (Fc.m p c)) := m3.eq_of_length (by simp; omega)
      rw [← e]
      exact suf_snoc hpt _
    · simp only [thr]; omega
  · have hs2 : F2.sb = Fc.sb := by rw [hC.same.sb]; rfl
    have hfin := hM.finish2 hg' hm rfl h1 hC hL
    have hS' : SameF F2 F' := by
      have hG1 : Gr (Fc.cl p (Fc.to (Fc.m p c))) := (hM.gr.app _ _ _).link _ _
      clear hfin hR' hR hSp
      generalize some p = o at hL
      clear hB h1
      revert hL
      intro hL
      have : ∀ {o : Option Nat} {F2 F' : Fn}, Lead c (Fc.to (Fc.m p c)) Fc.N o F2 F' → SameF F2 F' := by
        intro o F2 F' hL
        induction hL using Lead.ind with
        | none F => exact SameF.refl _
        | stop F q h => exact SameF.refl _
        | go h1 h2 ih => exact (SameF.retar _ _ _).trans ih
      exact this hL
    have hN5 : F'.N = Fc.N + 1 := by rw [hS'.N, hC.same.N]; rfl
    refine ⟨hB, Fc.N, F', _, rfl, hR', by rw [hS'.sb, hs2], by rw [hS'.cs, hC.same.cs]; rfl, by omega, by have := hR'.st.le; have := hR'.csl; omega, hfin⟩
set_option maxRecDepth 10000 in
set_option maxHeartbeats 4000000 in
theorem add_any {B g : Nat} {t : List Int} {F : Fn} {wd : Nat → List Int} (c : Nat) (hc : c < 256) (w : World) (hR : Rep B w g F) (hg : Good t F wd) (ht : t.length < 100000) (hcs : F.N + 2 ≤ F.cs) :
    Calls Tryd.prog 39 #[.pointer (some ⟨g, 0, none⟩), .int .u8 c] w fun e w' => (∃ v, e = .returned v) ∧ ∃ F' wd', Rep B w' g F' ∧ Good (t ++ [(c : Int)]) F' wd' ∧ F'.cs = F.cs ∧ Below B w w' := by
  obtain ⟨i, hi, hz0, hz1, hz2⟩ := info_parts Tryd.info103
  have HR : Hid _ := hR
  have HGD : Hid _ := hg
  obtain ⟨A, hlon, hG, hN⟩ := hg
  have c0 := hR.c0
  have c3 := hR.c3
  have cl := hR.st.cell A.lastN (show 0 < 4 by omega)
  have hNl : F.N ≤ 300000 := by have := hR.st.le; have := hR.csl; omega
  obtain ⟨N, HN⟩ : ∃ N, Hid (N = F.N) := ⟨_, rfl⟩
  obtain ⟨la, HLA⟩ : ∃ la, Hid (la = F.last) := ⟨_, rfl⟩
  obtain ⟨n, Hn⟩ : ∃ n, Hid (n = t.length) := ⟨_, rfl⟩
  have hla : la < N := by rw [HLA.out, HN.out]; exact A.lastN
  rw [Nat.add_zero, show F.stv F.last 0 = .int .i32 n by rw [Hn.out, ← A.lastw, ← hlon _ A.lastN]; rfl] at cl
  rw [← HLA.out] at c3 cl
  rw [← HN.out] at c0 hNl hcs
  rw [← Hn.out] at ht
  have HOW : Hid (w.drew.ownsRow B 103 4 (.slice (some ⟨F.sb, 0, none⟩) N F.cs) N (rowL F.stv N 4)) := by rw [HN.out]; exact hR.st.owns (show 0 < 4 by omega) hR.Bs
  have HX : Hid (w.grownBy (w.drew.alloc (.cells #[.int .i32 ((n : Int) + 1), .int .i32 0, .int .i32 ((n : Int) + 1), .int .i32 0] 103)) none) := ⟨rfl, rfl, rfl, (World.grownBy_alloc w.drew _ none).size, (World.grownBy_alloc w.drew _ none).block⟩
  have HNW : Hid _ := new4 w.drew (.int .i32 ((n : Int) + 1)) (.int .i32 0) (.int .i32 ((n : Int) + 1)) (.int .i32 0) 103
  have HOX : Hid (World.ownsRow _ B 103 4 (.slice (some ⟨F.sb, 0, none⟩) N F.cs) N (rowL F.stv N 4)) := HOW.out.alloc (.cells #[.int .i32 ((n : Int) + 1), .int .i32 0, .int .i32 ((n : Int) + 1), .int .i32 0] 103)
  have HM0 : Hid _ := HGD.out |> fun h => Mid.start h c
  have APP : Hid (∀ w1 : World, w1.ownsRow B 103 4 (.slice (some ⟨F.sb, 0, none⟩) (N + 1 : Nat) F.cs) (N + 1) (rowL F.stv N 4 ++ [.int .i32 ((n : Int) + 1), .int .i32 0, .int .i32 ((n : Int) + 1), .int .i32 0]) → (w.drew.alloc (.cells #[.int .i32 ((n : Int) + 1), .int .i32 0, .int .i32 ((n : Int) + 1), .int .i32 0] 103)).grownBy w1 (some F.sb) →
      Rep B ((w1.setCell ⟨g, 0, none⟩ (.slice (some ⟨F.sb, 0, none⟩) (N + 1 : Nat) F.cs)).setCell ⟨g, 3, none⟩ (.int .i32 N)) g (F.begin_ t.length) ∧ Below B w ((w1.setCell ⟨g, 0, none⟩ (.slice (some ⟨F.sb, 0, none⟩) (N + 1 : Nat) F.cs)).setCell ⟨g, 3, none⟩ (.int .i32 N)) ∧ w1.cell? ⟨g, 0, none⟩ = some (.slice (some ⟨F.sb, 0, none⟩) N F.cs) ∧ w1.frozen? ⟨g, 0, none⟩ = false ∧
      (w1.setCell ⟨g, 0, none⟩ (.slice (some ⟨F.sb, 0, none⟩) (N + 1 : Nat) F.cs)).cell? ⟨g, 3, none⟩ = some (.int .i32 la) ∧ (w1.setCell ⟨g, 0, none⟩ (.slice (some ⟨F.sb, 0, none⟩) (N + 1 : Nat) F.cs)).frozen? ⟨g, 3, none⟩ = false) := by
    intro w1 ho hg
    have hpl : ((n : Int) + 1) = ((n + 1 : Nat) : Int) := by omega
    have HM := HR.out.app (l := n + 1) (s := some 0) (e := n + 1) HX.out hg
    rw [← HN.out, ← hpl] at HM
    obtain ⟨a1, a2, a3, a4, a5⟩ := HM ho
    refine ⟨?_, a2.trans (a1.lastS N).2, a3.trans c0, a5, ?_, a1.fz 3⟩
    · have := (a1.lastS N).1
      rw [Hn.out, HN.out] at this
      rw [HN.out]
      exact this
    · have := a1.c3
      rw [HLA.out]
      exact this
  have HOC : Hid (∀ u ∈ [Value.int .i32 ((n : Int) + 1), .int .i32 0, .int .i32 ((n : Int) + 1), .int .i32 0], u.oneCell' = true) := by
    intro u hu
    simp only [List.mem_cons, List.not_mem_nil, or_false] at hu
    rcases hu with rfl | rfl | rfl | rfl <;> rfl
  have hwr : IntKind.i32.wrap (N : Int) = N := by rw [IntKind.wrap_i32]; omega
  clear hR A hlon hG hN HOW HX
  go_enter Tryd.func39, Tryd.ntmps39
  go_wp2_with fail
  refine wp_region_held_drew (S := fun w' => w'.cell? ⟨g, 0, none⟩ = some (.slice (some ⟨F.sb, 0, none⟩) N F.cs) ∧ w'.cell? ⟨g, 3, none⟩ = some (.int .i32 la)) (by kernel_rfl) ⟨c0, c3⟩ (fun hHeld => ?_)
  refine takeL (i := 0) (v := ?_) rfl (by kernel_rfl) (by kernel_rfl) (by kernel_rfl) (fun _ _ _ h => h) (Or.inl ⟨by rfl, ?_⟩) hHeld ?_
  rotate_left
  · rintro w' ⟨s0, s1⟩; go_simp; rfl
  try simp only [Act.put, List.setIfInBounds_toArray, List.set_cons_zero, List.set_cons_succ]
  refine takeL (i := 1) (v := ?_) rfl (by kernel_rfl) (by kernel_rfl) (by kernel_rfl) (fun _ _ _ h => h) (Or.inl ⟨by rfl, ?_⟩) hHeld ?_
  rotate_left
  · rintro w' ⟨s0, s1⟩; go_simp; rfl
  try simp only [Act.put, List.setIfInBounds_toArray, List.set_cons_zero, List.set_cons_succ]
  refine takeL (i := 2) (v := ?_) rfl (by kernel_rfl) (by kernel_rfl) (by kernel_rfl) (fun _ _ _ h => h) (Or.inl ⟨by rfl, ?_⟩) hHeld ?_
  rotate_left
  · rintro w' ⟨s0, s1⟩; go_simp; rfl
  try simp only [Act.put, List.setIfInBounds_toArray, List.set_cons_zero, List.set_cons_succ]
  refine takeL (i := 3) (v := ?_) rfl (by kernel_rfl) (by kernel_rfl) (by kernel_rfl) (fun _ _ _ h => h) (Or.inl ⟨by rfl, ?_⟩) hHeld ?_
  rotate_left
  · rintro w' ⟨s0, s1⟩; go_simp; rfl
  try simp only [Act.put, List.setIfInBounds_toArray, List.set_cons_zero, List.set_cons_succ]
  refine takeL (i := 4) (v := ?_) rfl (by kernel_rfl) (by kernel_rfl) (by kernel_rfl) (fun _ _ _ h => h) (Or.inl ⟨by rfl, ?_⟩) hHeld ?_
  rotate_left
  · rintro w' ⟨s0, s1⟩; go_simp; rfl
  try simp only [Act.put, List.setIfInBounds_toArray, List.set_cons_zero, List.set_cons_succ]
  refine takeL (i := 5) (v := ?_) rfl (by kernel_rfl) (by kernel_rfl) (by kernel_rfl) (fun _ _ _ h => h) (Or.inl ⟨by rfl, ?_⟩) hHeld ?_
  rotate_left
  · rintro w' ⟨s0, s1⟩; go_simp; rfl
  try simp only [Act.put, List.setIfInBounds_toArray, List.set_cons_zero, List.set_cons_succ]
  refine takeL (i := 6) (v := ?_) rfl (by kernel_rfl) (by kernel_rfl) (by kernel_rfl) (fun _ _ _ h => h) (Or.inl ⟨by rfl, ?_⟩) hHeld ?_
  rotate_left
  · rintro w' ⟨s0, s1⟩; go_simp; rfl
  try simp only [Act.put, List.setIfInBounds_toArray, List.set_cons_zero, List.set_cons_succ]
  refine takeL (i := 7) (v := ?_) rfl (by kernel_rfl) (by kernel_rfl) (by kernel_rfl) (fun _ _ _ h => h) (Or.inl ⟨by rfl, ?_⟩) hHeld ?_
  rotate_left
  · rintro w' ⟨s0, s1⟩; go_simp; rfl
  try simp only [Act.put, List.setIfInBounds_toArray, List.set_cons_zero, List.set_cons_succ]
  refine takeL (i := 8) (v := ?_) rfl (by kernel_rfl) (by kernel_rfl) (by kernel_rfl) (fun _ _ _ h => h) (Or.inl ⟨by rfl, ?_⟩) hHeld ?_
  rotate_left
  · rintro w' ⟨s0, s1⟩; go_simp; rfl
  try simp only [Act.put, List.setIfInBounds_toArray, List.set_cons_zero, List.set_cons_succ]
  refine takeL (i := 9) (v := ?_) rfl (by kernel_rfl) (by kernel_rfl) (by kernel_rfl) (fun _ _ _ h => h) (Or.inl ⟨by rfl, ?_⟩) hHeld ?_
  rotate_left
  · rintro w' ⟨s0, s1⟩; go_simp; rfl
  try simp only [Act.put, List.setIfInBounds_toArray, List.set_cons_zero, List.set_cons_succ]
  refine takeL (i := 10) (v := ?_) rfl (by kernel_rfl) (by kernel_rfl) (by kernel_rfl) (fun _ _ _ h => h) (Or.inl ⟨by rfl, ?_⟩) hHeld ?_
  rotate_left
  · rintro w' ⟨s0, s1⟩; go_simp; rfl
  try simp only [Act.put, List.setIfInBounds_toArray, List.set_cons_zero, List.set_cons_succ]
  refine takeL (i := 11) (v := ?_) rfl (by kernel_rfl) (by kernel_rfl) (by kernel_rfl) (fun _ _ _ h => h) (Or.inl ⟨by rfl, ?_⟩) hHeld ?_
  rotate_left
  · rintro w' ⟨s0, s1⟩; go_simp; rfl
  try simp only [Act.put, List.setIfInBounds_toArray, List.set_cons_zero, List.set_cons_succ]
  refine wpAnyH_done (by kernel_rfl) ?_ _
  have c0d : w.drew.cell? ⟨g, 0, none⟩ = some (.slice (some ⟨F.sb, 0, none⟩) N F.cs) := c0
  have cld : w.drew.cell? ⟨F.sb, la * 4, none⟩ = some (.int .i32 n) := cl
  clear hHeld c0 c3 cl
  go_wp2_with (at_builtin; refine wpList_append_fits _ rfl _ _ 97 rfl B 103 i 4 Tryd.underlying97 hi hz1 F.sb N F.cs (rowL F.stv N 4) rfl (by exact HOX.out) ⟨w.heap.size, 0, none⟩ 1 1 [.int .i32 ((n : Int) + 1), .int .i32 0, .int .i32 ((n : Int) + 1), .int .i32 0] rfl (by simp) (by exact HNW.out) (by exact HOC.out) (by omega) ?_; intro w1 ho1 hg1; obtain ⟨hR2, hB2, k0, f0, k3, f3⟩ := APP.out w1 ho1 hg1; have HR2 : Hid _ := hR2; have HB2 : Hid _ := hB2; clear hR2 hB2 ho1 hg1 APP)
  obtain ⟨w3, HW3⟩ : ∃ w3, Hid ((w1.setCell ⟨g, 0, none⟩ (.slice (some ⟨F.sb, 0, none⟩) (N + 1 : Nat) F.cs)).setCell ⟨g, 3, none⟩ (.int .i32 N) = w3) := ⟨_, rfl⟩
  rw [HW3.out] at HR2 HB2 ⊢
  clear HW3 k0 f0 k3 f3 c0d cld HNW HOX HOC hi hz0 hz1 hz2 HR
  have hlI : ((la : Nat) : Int) = shI (some la) := rfl
  have HM1 : Hid (Mid t wd F (F.begin_ t.length) c (some la)) := by rw [HLA.out]; exact HM0.out
  go_loopg [4] (thr wd (some la)) (fun k v wr => ∃ (o : Option Nat) (Fc : Fn), v = .int .i32 (shI o) ∧ k = thr wd o ∧ Hid (Rep B wr g Fc) ∧ Hid (Below B w wr) ∧ Hid (Mid t wd F Fc c o))
  case atStart => exact ⟨some la, F.begin_ t.length, rfl, rfl, HR2.out, HB2.out, HM1.out⟩
  case round =>
    obtain ⟨o, Fc, rfl, hk, HR4, HB4, HM4⟩ := hrel
    clear hlI
    have HSB : Hid (Fc.sb = F.sb ∧ Fc.cs = F.cs) := ⟨HM4.out.same.sb, HM4.out.same.cs⟩
    cases o with
    | none =>
      simp only [shI]
      go_wp2_with fail
      go_end0
      have hfin := HM4.out.finish1 HGD.out (r := 0) HGD.out.1.pos (by rw [HGD.out.1.wd0]; exact List.nil_suffix) (by simp [thr])
      rw [link_same (by rw [HM4.out.same.sh]; exact upd_same _ _ _)] at hfin
      exact ⟨⟨_, rfl⟩, Fc, _, HR4.out, hfin, HSB.out.2, HB4.out⟩
    | some p =>
      obtain ⟨hp, hpt⟩ := HM4.out.ok p rfl
      rw [← HN.out] at hp
      have hpI : ¬ (p : Int) = -1 := by omega
      have E : Hid (∀ w', Rep B w' g Fc → _) := fun w' (h : Rep B w' g Fc) => edge_any p c (by omega) hc w' h
      obtain ⟨e, HE⟩ : ∃ e, Hid (e = Fc.m p c) := ⟨_, rfl⟩
      rw [← HE.out] at E
      have HN4 : Hid (Fc.N = F.N + 1) := HM4.out.N_eq
      simp only [shI]
      by_cases he : e = 0
      · subst he
        have HJM : Hid _ := fun eb ce => HM4.out.step HGD.out hc HE.out.symm eb ce
        have hKb : Fc.K ≤ 100000000 := by have := HM4.out.gr.bound; rw [HN4.out, ← HN.out] at this; omega
        have JN : Hid (∀ w', Rep B w' g Fc → _) := fun w' (h : Rep B w' g Fc) => join_any p c N hc w' h (by rw [HN4.out, ← HN.out]; omega) hKb
        obtain ⟨so, HSO⟩ : ∃ so, Hid (so = Fc.sh p) := ⟨_, rfl⟩
        rw [← HSO.out, ← HN.out] at HJM
        go_wp2_with (first | (go_at_call 40; refine (E.out _ HR4.out).mono ?_; clear E; rintro ev w5 ⟨rfl, nq, rfl⟩) | (go_at_call 42; refine (JN.out _ (HR4.out.drewN nq)).mono ?_; clear JN; rintro ev w6 ⟨⟨v, rfl⟩, eb, ce, hR5, hB5⟩; have HR5 : Hid _ := hR5; have HB5 : Hid _ := hB5; clear hR5 hB5; have d0 := HR5.out.c0; have ds := HR5.out.st.cell (s := p) (show p < Fc.N by rw [HN4.out, ← HN.out]; omega) (show 1 < 4 by omega); rw [show (Fc.join p c N eb ce).stv p 1 = .int .i32 (shI so) by rw [HSO.out]; rfl] at ds; simp only [Fn.join, Fn.more, Fn.head, Fn.mapS] at d0 ds; rw [HN4.out, ← HN.out] at d0))
        go_roundg (thr wd so)
        case measure =>
          rw [hk]
          have hq : p < F.N := by rw [← HN.out]; exact hp
          cases so with
          | none => simp [thr]
          | some r =>
            have := HGD.out.1.sh_some hq (by rw [← HM4.out.sh_old hq]; exact HSO.out.symm)
            simp only [thr]; omega
        case rel => exact ⟨so, Fc.join p c N eb ce, rfl, rfl, HR5.out, (below_drewN HB4.out nq).trans HB5.out, HJM.out eb ce⟩
      · have heB : ((e : Int) == 0) = false := beq_eq_false_iff_ne.2 (by omega)
        have heI : ¬ (e : Int) = 0 := by omega
        have heN : ¬ e = 0 := he
        have hNN : (N : Int) < (N : Int) + 1 := by omega
        have SP : Hid (∀ w', Rep B w' g Fc → _) := fun w' (h : Rep B w' g Fc) => split_mid (t := t) (F := F) (wd := wd) hc w' h HGD.out HM4.out (by rw [← HE.out]; exact he) (by rw [← Hn.out]; omega) (by rw [HSB.out.2, ← HN.out]; exact hcs)
        go_wp2_with (go_at_call 40; refine (E.out _ HR4.out).mono ?_; clear E; rintro ev w5 ⟨rfl, nq, rfl⟩)
        have HR5 : Hid (Rep B (wr.drewN nq) g Fc) := HR4.out.drewN nq
        have HB5 : Hid (Below B w (wr.drewN nq)) := below_drewN HB4.out nq
        obtain ⟨w5, HW5⟩ : ∃ w5, Hid (wr.drewN nq = w5) := ⟨_, rfl⟩
        rw [HW5.out] at HR5 HB5 ⊢
        clear HW5 HR4 HB4
        have c0 := (HR5.out.drewN 1).c0
        rw [HN4.out, ← HN.out, HSB.out.1, HSB.out.2] at c0
        have c0d : w5.drew.cell? ⟨g, 0, none⟩ = some (.slice (some ⟨F.sb, 0, none⟩) (N + 1) F.cs) := c0
        clear c0
        refine wp_region_held_drew (S := fun w' => True) (by kernel_rfl) trivial (fun hHeld => ?_)
        refine takeL (i := 0) (v := ?_) rfl (by kernel_rfl) (by kernel_rfl) (by kernel_rfl) (fun _ _ _ h => h) (Or.inl ⟨by rfl, ?_⟩) trivial ?_
        rotate_left
        · rintro w' _; go_simp; rfl
        try simp only [Act.put, List.setIfInBounds_toArray, List.set_cons_zero, List.set_cons_succ]
        refine takeL (i := 1) (v := ?_) rfl (by kernel_rfl) (by kernel_rfl) (by kernel_rfl) (fun _ _ _ h => h) (Or.inl ⟨by rfl, ?_⟩) trivial ?_
        rotate_left
        · rintro w' _; go_simp; rfl
        try simp only [Act.put, List.setIfInBounds_toArray, List.set_cons_zero, List.set_cons_succ]
        refine takeL (i := 2) (v := ?_) rfl (by kernel_rfl) (by kernel_rfl) (by kernel_rfl) (fun _ _ _ h => h) (Or.inl ⟨by rfl, ?_⟩) trivial ?_
        rotate_left
        · rintro w' _; go_simp; rfl
        try simp only [Act.put, List.setIfInBounds_toArray, List.set_cons_zero, List.set_cons_succ]
        refine takeL (i := 4) (v := ?_) rfl (by kernel_rfl) (by kernel_rfl) (by kernel_rfl) (fun _ _ _ h => h) (Or.inl ⟨by rfl, ?_⟩) trivial ?_
        rotate_left
        · rintro w' _; go_simp; rfl
        try simp only [Act.put, List.setIfInBounds_toArray, List.set_cons_zero, List.set_cons_succ]
        refine takeL (i := 5) (v := ?_) rfl (by kernel_rfl) (by kernel_rfl) (by kernel_rfl) (fun _ _ _ h => h) (Or.inl ⟨by rfl, ?_⟩) trivial ?_
        rotate_left
        · rintro w' _; go_simp; rfl
        try simp only [Act.put, List.setIfInBounds_toArray, List.set_cons_zero, List.set_cons_succ]
        refine takeL (i := 6) (v := ?_) rfl (by kernel_rfl) (by kernel_rfl) (by kernel_rfl) (fun _ _ _ h => h) (Or.inl ⟨by rfl, ?_⟩) trivial ?_
        rotate_left
        · rintro w' _; go_simp; rfl
        try simp only [Act.put, List.setIfInBounds_toArray, List.set_cons_zero, List.set_cons_succ]
        refine takeL (i := 7) (v := ?_) rfl (by kernel_rfl) (by kernel_rfl) (by kernel_rfl) (fun _ _ _ h => h) (Or.inl ⟨by rfl, ?_⟩) trivial ?_
        rotate_left
        · rintro w' _; go_simp; rfl
        try simp only [Act.put, List.setIfInBounds_toArray, List.set_cons_zero, List.set_cons_succ]
        refine wpAnyH_ready (rs := [3, 8]) (by kernel_rfl) (by simp) ?_
        refine consL rfl (fun KK hKK => ?_) (consL rfl (fun KK hKK => ?_) AllReadyH.nil)
        · go_simp
          refine hKK.out _ _ trivial (fun _ => ?_)
          clear hKK KK
          try simp only [Act.put, List.setIfInBounds_toArray, List.set_cons_zero, List.set_cons_succ]
          refine wpAnyH_ready (rs := [8]) (by kernel_rfl) (by simp) ?_
          refine consL rfl (fun KK hKK => ?_) AllReadyH.nil
          refine step_callv (by rfl) 43 [.tmp 71, .tmp 72, .tmp 73] _ [.pointer (some ⟨g, 0, none⟩), .int .i32 p, .int .u8 c] _ (by rfl) (by rfl) (enter43 _ _ _) (SP.out _ (HR5.out.drewN 1)) ?_
          rintro ev w6 ⟨hB6, r, F5, wd', rfl, hR6, hsb, hcs6, hN5, hN6, hgd⟩
          refine ⟨_, rfl, ?_⟩
          have HR6 : Hid _ := hR6
          have HG6 : Hid _ := hgd
          have HL6 : Hid _ := hR6.link (a := F.N) (some r) hN5
          have k1 := hR6.st.cell hN5 (show 1 < 4 by omega)
          have f1 := hR6.st.frozen (F.N * 4 + 1)
          rw [hsb, HSB.out.1, ← HN.out] at k1 f1
          have HB6 : Hid (Below B w w6) := (below_drewN HB5.out 1).trans hB6
          clear hR6 hgd hB6
          refine hKK.out _ _ trivial (fun _ => ?_)
          clear hKK KK
          try simp only [Act.put, List.setIfInBounds_toArray, List.set_cons_zero, List.set_cons_succ]
          refine takeL (i := 9) (v := ?_) rfl (by kernel_rfl) (by kernel_rfl) (by kernel_rfl) (fun _ _ _ h => h) (Or.inl ⟨by rfl, ?_⟩) trivial ?_
          rotate_left
          · rintro w' _; go_simp; rfl
          try simp only [Act.put, List.setIfInBounds_toArray, List.set_cons_zero, List.set_cons_succ]
          refine takeL (i := 10) (v := ?_) rfl (by kernel_rfl) (by kernel_rfl) (by kernel_rfl) (fun _ _ _ h => h) (Or.inl ⟨by rfl, ?_⟩) trivial ?_
          rotate_left
          · rintro w' _; go_simp; rfl
          try simp only [Act.put, List.setIfInBounds_toArray, List.set_cons_zero, List.set_cons_succ]
          refine wpAnyH_ready (rs := [11]) (by kernel_rfl) (by simp) ?_
          refine consL rfl (fun KK hKK => ?_) AllReadyH.nil
          go_simp
          refine hKK.out _ _ trivial (fun _ => ?_)
          clear hKK KK
          try simp only [Act.put, List.setIfInBounds_toArray, List.set_cons_zero, List.set_cons_succ]
          refine wpAnyH_done (by kernel_rfl) ?_ _
          go_wp2_with fail
          go_end0
          refine ⟨⟨_, rfl⟩, F5.link F.N (some r), wd', ?_, HG6.out, by show F5.cs = _; rw [hcs6, HSB.out.2], ?_⟩
          · have := HL6.out.1; rw [hsb, HSB.out.1, ← HN.out] at this; rw [← HN.out]; exact this
          · have := HL6.out.2; rw [hsb, HSB.out.1, ← HN.out] at this; exact HB6.out.trans this
        · refine step_callv (by rfl) 43 [.tmp 71, .tmp 72, .tmp 73] _ [.pointer (some ⟨g, 0, none⟩), .int .i32 p, .int .u8 c] _ (by rfl) (by rfl) (enter43 _ _ _) (SP.out _ (HR5.out.drewN 1)) ?_
          rintro ev w6 ⟨hB6, r, F5, wd', rfl, hR6, hsb, hcs6, hN5, hN6, hgd⟩
          refine ⟨_, rfl, ?_⟩
          have HR6 : Hid _ := hR6
          have HG6 : Hid _ := hgd
          have HL6 : Hid _ := hR6.link (a := F.N) (some r) hN5
          have k1 := hR6.st.cell hN5 (show 1 < 4 by omega)
          have f1 := hR6.st.frozen (F.N * 4 + 1)
          have k0 := hR6.c0
          rw [hsb, HSB.out.1, ← HN.out] at k1 f1
          rw [hsb, HSB.out.1, hcs6, HSB.out.2] at k0
          rw [← HN.out] at hN5
          have HB6 : Hid (Below B w w6) := (below_drewN HB5.out 1).trans hB6
          clear hR6 hgd hB6
          refine hKK.out _ _ trivial (fun _ => ?_)
          clear hKK KK
          try simp only [Act.put, List.setIfInBounds_toArray, List.set_cons_zero, List.set_cons_succ]
          refine wpAnyH_ready (rs := [3]) (by kernel_rfl) (by simp) ?_
          refine consL rfl (fun KK hKK => ?_) AllReadyH.nil
          go_simp
          refine hKK.out _ _ trivial (fun _ => ?_)
          clear hKK KK
          try simp only [Act.put, List.setIfInBounds_toArray, List.set_cons_zero, List.set_cons_succ]
          refine takeL (i := 9) (v := ?_) rfl (by kernel_rfl) (by kernel_rfl) (by kernel_rfl) (fun _ _ _ h => h) (Or.inl ⟨by rfl, ?_⟩) trivial ?_
          rotate_left
          · rintro w' _; go_simp; rfl
          try simp only [Act.put, List.setIfInBounds_toArray, List.set_cons_zero, List.set_cons_succ]
          refine takeL (i := 10) (v := ?_) rfl (by kernel_rfl) (by kernel_rfl) (by kernel_rfl) (fun _ _ _ h => h) (Or.inl ⟨by rfl, ?_⟩) trivial ?_
          rotate_left
          · rintro w' _; go_simp; rfl
          try simp only [Act.put, List.setIfInBounds_toArray, List.set_cons_zero, List.set_cons_succ]
          refine wpAnyH_ready (rs := [11]) (by kernel_rfl) (by simp) ?_
          refine consL rfl (fun KK hKK => ?_) AllReadyH.nil
          go_simp
          refine hKK.out _ _ trivial (fun _ => ?_)
          clear hKK KK
          try simp only [Act.put, List.setIfInBounds_toArray, List.set_cons_zero, List.set_cons_succ]
          refine wpAnyH_done (by kernel_rfl) ?_ _
          go_wp2_with fail
          go_end0
          refine ⟨⟨_, rfl⟩, F5.link F.N (some r), wd', ?_, HG6.out, by show F5.cs = _; rw [hcs6, HSB.out.2], ?_⟩
          · have := HL6.out.1; rw [hsb, HSB.out.1, ← HN.out] at this; rw [← HN.out]; exact this
          · have := HL6.out.2; rw [hsb, HSB.out.1, ← HN.out] at this; exact HB6.out.trans this
end Go.Proofs.YtblegkefeiefjaaDoor
