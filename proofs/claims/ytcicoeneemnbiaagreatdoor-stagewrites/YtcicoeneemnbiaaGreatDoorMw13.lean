import Derived.Test.YtcicoeneemnbiaaGreatDoorMw12
namespace Go.Proofs.YtcicoeneemnbiaaGreatDoor
open Go.RowKit
set_option linter.unusedVariables false
set_option linter.unusedSimpArgs false
def putF (a : Act) (ns : List Nat) (f : Nat → Value) : Act := ns.foldl (fun a n => a.put (some n) (f n)) a
theorem merge2 {P : Program} {c rest : Code} {Q : Exit → Act → World → Prop} {act : Act} {w : World} (ns : List Nat) (R : (Nat → Value) → Prop) (h1 : c.wp P (fun e a' w' => e = .normal ∧ w' = w ∧ a' = putF act ns (fun n => a'.tmps.getD n undef) ∧ R (fun n => a'.tmps.getD n undef)) act w) (h2 : ∀ y : Nat → Value, R y → rest.wp P Q (putF act ns y) w) : (Code.seq c rest).wp P Q act w :=
  wp_seq (Code.wp_mono (by
    rintro e a' w' ⟨rfl, rfl, h, hR⟩
    show rest.wp P Q a' w'
    rw [h]
    exact h2 _ hR) h1)
structure Qh (g b o : Nat) (X Y : ByteArray) (sx sy : Int) (W : World) : Prop where
  c0 : W.cell? ⟨g, 0, none⟩ = some (.string X)
  c23 : W.cell? ⟨g, 23, none⟩ = some (.int .i64 sx)
  d0 : W.cell? ⟨b, o, none⟩ = some (.string Y)
  d23 : W.cell? ⟨b, o + 23, none⟩ = some (.int .i64 sy)
structure Bg (g : Nat) (X : ByteArray) (sx : Int) (W : World) : Prop where
  c0 : W.cell? ⟨g, 0, none⟩ = some (.string X)
  c23 : W.cell? ⟨g, 23, none⟩ = some (.int .i64 sx)
theorem dir_iff (x y : Ey) : dirOf x y ↔ (x.path ++ [47]).length < y.path.length ∧ y.path.take (x.path ++ [47]).length = x.path ++ [47] := by
  constructor
  · rintro ⟨r, hr, he⟩
    rw [he]
    have h : x.path ++ 47 :: r = (x.path ++ [47]) ++ r := by simp
    rw [h, List.take_left]
    refine ⟨?_, rfl⟩
    cases r with
    | nil => exact absurd rfl hr
    | cons c r => simp
  · rintro ⟨h1, h2⟩
    refine ⟨y.path.drop (x.path ++ [47]).length, ?_, ?_⟩
    · intro e
      have := congrArg List.length e
      rw [List.length_drop] at this
      simp at this h1
      omega
    · have := List.take_append_drop (x.path ++ [47]).length y.path
      rw [h2] at this
      rw [← this]
      simp
def PostCk (l : List Ey) (w : World) (e : Ending) (w' : World) : Prop :=
  Below w.heap.size w w' ∧ ((¬ okPs l ∧ e = .returned (.int .i64 71)) ∨ (okPs l ∧ ¬ (l.length ≤ 2000 ∧ okFs l) ∧ e = .returned (.int .i64 70)) ∨ (okPs l ∧ l.length ≤ 2000 ∧ okFs l ∧ ¬ okDs l ∧ e = .returned (.int .i64 71)) ∨ (okPs l ∧ l.length ≤ 2000 ∧ okFs l ∧ okDs l ∧ e = .returned (.int .i64 0)))
theorem pair_snoc (l : List Ey) (i : Nat) (x : Ey) (ht : l.take (i + 1) = l.take i ++ [x]) (hp : (l.take i).Pairwise (fun x y => ¬ bad2 x y)) (hn : ∀ j, j < i → ¬ bad2 (l.getD j dY) x) : (l.take (i + 1)).Pairwise (fun x y => ¬ bad2 x y) := by
  rw [ht]
  refine List.pairwise_append.2 ⟨hp, List.pairwise_singleton _ _, fun y hy z hz => ?_⟩
  rw [List.mem_singleton.1 hz]
  obtain ⟨j, hj, rfl⟩ := List.getElem_of_mem hy
  rw [List.length_take] at hj
  have := hn j (by omega)
  rwa [List.getD_eq_getElem?_getD, List.getElem?_eq_getElem (by omega), show (some l[j]).getD dY = (l.take i)[j]'(by rw [List.length_take]; omega) by rw [List.getElem_take]; rfl] at this
theorem bad_at (l : List Ey) (k i : Nat) (hk : k < i) (hi : i < l.length) (hb : bad2 (l.getD k dY) (l.getD i dY)) : ¬ okFs l := fun h => by
  have := List.pairwise_iff_getElem.1 h.2 k i (by omega) hi hk
  rw [List.getD_eq_getElem?_getD, List.getD_eq_getElem?_getD, List.getElem?_eq_getElem hi, List.getElem?_eq_getElem (show k < l.length by omega)] at hb
  exact this hb
set_option maxRecDepth 20000 in
set_option maxHeartbeats 8000000 in
theorem refCheck_any {w : World} (a : Option Addr) (ca : Nat) (l : List Ey) (hP : PY w a ca l) (hw : WY l) (hl : l.length ≤ 100000) : Calls Tryz.prog 14 #[.slice a l.length ca] w (PostCk l w) := by
  obtain ⟨n, HN⟩ : ∃ n, Hid (l.length = n) := ⟨_, rfl⟩
  obtain ⟨g, HG⟩ : ∃ g, Hid (w.heap.size = g) := ⟨_, rfl⟩
  have hn : n ≤ 100000 := by rw [← HN.out]; exact hl
  have HPW : Hid (∀ W, Below g w W → PY W a ca l) := fun W hW => hP.below (by rw [HG.out]; exact hW)
  have HFA : Hid (0 < n → ∃ b off, a = some ⟨b, off, none⟩) := fun h0 => by
    obtain ⟨b, off, e1, _⟩ := hP.at_ (by rw [HN.out]; exact h0)
    exact ⟨b, off, e1⟩
  have HWY : Hid (WY l) := hw
  have HB0 : Hid (Below g w w) := Below.refl _ _
  rw [HN.out]
  clear hP hw hl
  go_enter Tryz.func14, Tryz.ntmps14
  go_wp2_with fail
  go_loopg [3] n (fun gg iv wr => w = wr ∧ ∃ i : Nat, iv = .int .i64 i ∧ i ≤ n ∧ gg = n - i ∧ Hid (∀ x ∈ l.take i, okP x.path))
  case atStart => exact ⟨rfl, 0, rfl, Nat.zero_le _, rfl, hid (by simp)⟩
  case round =>
    obtain ⟨rfl, i, rfl, hi, hk, HOK⟩ := hrel
    by_cases hlt : i < n
    · have hlti : (i : Int) < (n : Int) := by omega
      obtain ⟨b, off, hae⟩ := HFA.out (by omega)
      subst hae
      have hil : i < l.length := by rw [HN.out]; exact hlt
      obtain ⟨x, HX⟩ : ∃ x, Hid (l.getD i dY = x) := ⟨_, rfl⟩
      have HT : Hid (l.take (i + 1) = l.take i ++ [x]) := hid (by rw [← HX.out]; exact take_snocG dY l i hil)
      have HM : Hid (x ∈ l) := hid (by rw [← HX.out]; exact getD_mem l i dY hil)
      obtain ⟨X, HXX⟩ : ∃ S : ByteArray, Hid (⟨x.path.toArray⟩ = S) := ⟨_, rfl⟩
      have c0 : w.cell? ⟨b, off + i * 24, none⟩ = some (.string X) := by rw [← HXX.out, ← HX.out]; exact ((HPW.out w HB0.out).cells i hil HWY.out).1
      have C35 : Hid (Calls Tryz.prog 35 #[.string X] w fun e w' => BIs (okP x.path) e ∧ w' = w) := hid (by rw [← HXX.out]; exact refPath_any x.path w)
      clear hil
      go_wp2_with fail
      refine C35.out.mono ?_
      rintro e w1 ⟨hbi, rfl⟩
      rcases bis_or hbi with ⟨hmd, rfl⟩ | ⟨hmd, rfl⟩
      · have HOK2 : Hid (∀ y ∈ l.take (i + 1), okP y.path) := hid (by
          rw [HT.out]
          intro y hy
          rcases List.mem_append.1 hy with h | h
          · exact HOK.out y h
          · rw [List.mem_singleton.1 h]; exact hmd)
        clear hbi hmd
        go_wp2
        go_roundg (n - (i + 1))
        case measure => omega
        case rel => exact ⟨rfl, i + 1, by go_num, by omega, rfl, HOK2⟩
      · have HC : Hid (¬ okPs l) := hid (fun h => hmd (h x HM.out))
        clear hbi hmd
        go_wp2
        go_ret
        exact ⟨Below.refl _ _, .inl ⟨HC.out, rfl⟩⟩
    · have hlti : ¬ (i : Int) < (n : Int) := by omega
      have HPs : Hid (okPs l) := hid (by
        have h := HOK.out
        rwa [List.take_of_length_le (by rw [HN.out]; omega)] at h)
      by_cases h2000 : 2000 < n
      · have h2 : (2000 : Int) < (n : Int) := by omega
        have HC : Hid (¬ (l.length ≤ 2000 ∧ okFs l)) := hid (fun h => by have := h.1; rw [HN.out] at this; omega)
        go_wp2
        go_ret
        exact ⟨Below.refl _ _, .inr (.inl ⟨HPs.out, HC.out, rfl⟩)⟩
      have h2 : ¬ (2000 : Int) < (n : Int) := by omega
      have HL2 : Hid (l.length ≤ 2000) := hid (by rw [HN.out]; omega)
      clear HOK
      go_wp2_with fail
      go_loopg [5] n (fun gg iv wr => ∃ i : Nat, iv = .int .i64 i ∧ i ≤ n ∧ gg = n - i ∧ Hid (∀ x ∈ l.take i, fOk x) ∧ Hid ((l.take i).Pairwise (fun x y => ¬ bad2 x y)) ∧ Hid (Below g w wr))
      case atStart => exact ⟨0, rfl, Nat.zero_le _, rfl, hid (by simp), hid (by simp), hid (Below.refl _ _)⟩
      case round =>
        clear hlti hlt hi hk
        obtain ⟨i, rfl, hi, hko, HF, HPA, HB⟩ := hrel
        by_cases hlt : i < n
        · have hlti : (i : Int) < (n : Int) := by omega
          obtain ⟨b, off, hae⟩ := HFA.out (by omega)
          subst hae
          have hil : i < l.length := by rw [HN.out]; exact hlt
          obtain ⟨x, HX⟩ : ∃ x, Hid (l.getD i dY = x) := ⟨_, rfl⟩
          have HRow : Hid (wr.rangeAt b (off + i * 24) (encY x)) := hid (by rw [← HX.out]; exact (HPW.out wr HB.out).row i hil)
          have HW : Hid (x.id.length = 20) := hid (by rw [← HX.out]; exact HWY.out _ (getD_mem l i dY hil))
          have HCY : Hid (CY x (encY x).toArray) := hid (cy x HW.out)
          have HT : Hid (l.take (i + 1) = l.take i ++ [x]) := hid (by rw [← HX.out]; exact take_snocG dY l i hil)
          have HM : Hid (x ∈ l) := hid (by rw [← HX.out]; exact getD_mem l i dY hil)
          obtain ⟨X, HXX⟩ : ∃ S : ByteArray, Hid (⟨x.path.toArray⟩ = S) := ⟨_, rfl⟩
          obtain ⟨W, HWW⟩ : ∃ W, Hid (wr.alloc (.cells (encY x).toArray 48) = W) := ⟨_, rfl⟩
          have k0 : W.cell? ⟨wr.heap.size, 0, none⟩ = some (.string X) := by rw [← HWW.out, ← HXX.out]; exact cellN HCY.out.c0
          have k1 : W.cell? ⟨wr.heap.size, 1, none⟩ = some (.int .i64 x.mode) := by rw [← HWW.out]; exact cellN HCY.out.c1
          have k2 : W.cell? ⟨wr.heap.size, 22, none⟩ = some (.int .i64 x.size) := by rw [← HWW.out]; exact cellN HCY.out.c22
          have k3 : W.cell? ⟨wr.heap.size, 23, none⟩ = some (.int .i64 x.stage) := by rw [← HWW.out]; exact cellN HCY.out.c23
          have HBW : Hid (Below g w W) := hid (by rw [← HWW.out]; exact HB.out.alloc (by rw [← HG.out]; exact HB.out.size) _)
          have al : wr.alloc (.cells (encY x).toArray 48) = W := HWW.out
          obtain ⟨G, HGG⟩ : ∃ G, Hid (wr.heap.size = G) := ⟨_, rfl⟩
          clear hil
          by_cases hf : fOk x
          · have HF2 : Hid (∀ y ∈ l.take (i + 1), fOk y) := hid (by
              rw [HT.out]
              intro y hy
              rcases List.mem_append.1 hy with h | h
              · exact HF.out y h
              · rw [List.mem_singleton.1 h]; exact hf)
            obtain ⟨fm, f1, f2, f3, f4⟩ := hf
            have f1' : ¬ x.size < 0 := by omega
            have f2' : ¬ 100000 < x.size := by omega
            have f3' : ¬ x.stage < 0 := by omega
            have f4' : ¬ 3 < x.stage := by omega
            clear f1 f2 f3 f4
            have HFM := hid fm
            clear fm
            go_wp2_with (first | (refine wpList_load_mid rfl 48 _ rfl b (off + i * 24) rfl (encY x) _ HRow.out Tryz.underlying48 rfl (by rw [encY_len x HW.out]; exact info48) ?_) | (refine wpList_store_new rfl 48 _ _ rfl _ (encY x).toArray rfl rfl (by rw [HCY.out.size]; exact info48) (by rw [HCY.out.size]; rfl) HCY.out.one ?_; rw [al]; refine wpList_nil ?_; simp only [Exit.then, Act.put]; rename_i K1 hK1; refine hK1 _ _ ?_; refine Hid.out ?_))
            refine hid ?_
            rw [HGG.out] at k0 k1 k2 k3 ⊢
            refine merge2 [39, 40, 41, 42, 43, 44, 45, 46, 47, 48, 49, 50, 51, 52, 53, 54, 55, 56, 57, 58, 59, 60, 61, 62, 63, 64, 65, 66, 67, 68, 69, 70, 71] (fun _ => True) ?_ (fun y _ => ?_)
            · rcases HFM.out with e | e | e
              · have hb1 : (x.mode != 33188) = false := by simp [e]
                clear e
                go_wp2_with fail
                first | exact ⟨rfl, rfl, by kernel_rfl, trivial⟩ | exact ⟨by kernel_rfl, trivial⟩ | kernel_rfl
              · have hb1 : (x.mode != 33188) = true := by simp [e]
                have hb2 : (x.mode != 33261) = false := by simp [e]
                clear e
                go_wp2_with fail
                first | exact ⟨rfl, rfl, by kernel_rfl, trivial⟩ | exact ⟨by kernel_rfl, trivial⟩ | kernel_rfl
              · have hb1 : (x.mode != 33188) = true := by simp [e]
                have hb2 : (x.mode != 33261) = true := by simp [e]
                have hb3 : (x.mode != 40960) = false := by simp [e]
                clear e
                go_wp2_with fail
                first | exact ⟨rfl, rfl, by kernel_rfl, trivial⟩ | exact ⟨by kernel_rfl, trivial⟩ | kernel_rfl
            simp only [putF, List.foldl_cons, List.foldl_nil, Act.put, List.setIfInBounds_toArray, List.set_cons_zero, List.set_cons_succ]
            go_wp2_with fail
            go_loopg [7] i (fun gg kv wq => ∃ k : Nat, kv = .int .i64 k ∧ k ≤ i ∧ gg = i - k ∧ Hid (∀ j, j < k → ¬ bad2 (l.getD j dY) x) ∧ Hid (Below g w wq) ∧ Hid (Bg G X x.stage wq))
            case atStart => exact ⟨0, rfl, Nat.zero_le _, rfl, hid (fun j h => by omega), HBW, hid ⟨k0, k3⟩⟩
            case round =>
              clear k0 k1 k2 k3 al HBW HRow HB HWW HF
              rename_i wq _ _ _ _
              obtain ⟨k, rfl, hki, hk, HNB, HBq, HBG⟩ := hrel
              by_cases hkl : k < i
              · have hklI : (k : Int) < (i : Int) := by omega
                have hkn : (k : Int) < (n : Int) := by omega
                obtain ⟨z, HZ⟩ : ∃ z, Hid (l.getD k dY = z) := ⟨_, rfl⟩
                obtain ⟨Y, HYY⟩ : ∃ S : ByteArray, Hid (⟨z.path.toArray⟩ = S) := ⟨_, rfl⟩
                have hcs := (HPW.out wr HBq.out).cells k (by rw [HN.out]; omega) HWY.out
                rw [HZ.out, HYY.out] at hcs
                obtain ⟨z0, _, _, z3⟩ := hcs
                have hS : Qh G b (off + k * 24) X Y x.stage z.stage wr.drew := ⟨HBG.out.c0, HBG.out.c23, z0, z3⟩
                have HPE : Hid (z.path = x.path ↔ Y = X) := hid (by rw [← HXX.out, ← HYY.out]; exact ⟨fun h => by rw [h], fun h => (ba_eq _ _).1 h⟩)
                have HBD : Hid (Below g w wr.drew) := hid (HBq.out.trans ⟨rfl, rfl, rfl, Nat.le_refl _, fun _ _ => rfl⟩)
                have HBGd : Hid (Bg G X x.stage wr.drew) := hid ⟨HBG.out.c0, HBG.out.c23⟩
                have hwk : IntKind.i64.wrap ((k : Nat) : Int) = (k : Int) := by rw [IntKind.wrap_i64]; omega
                have h0k : (0 : Int) ≤ (k : Int) := by omega
                have htk : ((k : Int)).toNat = k := by omega
                clear z0 z3
                go_wp2_with fail
                refine wp_region_held_drew (S := Qh G b (off + k * 24) X Y x.stage z.stage) (by kernel_rfl) hS (fun hHeld => ?_)
                generalize wr.drew = wd at HBD HBGd hHeld ⊢
                clear hS HBq HBG
                by_cases hxy : Y = X
                · have hbq : (Y.toList == X.toList) = true := by rw [hxy]; simp
                  have HXY := hid hxy
                  clear hxy
                  by_cases hse : z.stage = x.stage
                  · have hsb : (z.stage == x.stage) = true := by simp [hse]
                    have HC : Hid (¬ (l.length ≤ 2000 ∧ okFs l)) := hid (fun h => bad_at l k i hkl (by rw [HN.out]; exact hlt) (by rw [HZ.out, HX.out]; exact ⟨HPE.out.2 HXY.out, .inl hse⟩) h.2)
                    clear hse
                    refine takeL (i := 0) (v := ?_) rfl (by kernel_rfl) (by kernel_rfl) (by kernel_rfl) (fun _ _ _ h => h) (Or.inl ⟨by rfl, ?_⟩) hHeld ?_
                    rotate_left
                    · rintro w' ⟨d0, d1, d2, d3⟩; go_simp; rfl
                    try simp only [Act.put, List.setIfInBounds_toArray, List.set_cons_zero, List.set_cons_succ]
                    refine takeL (i := 1) (v := ?_) rfl (by kernel_rfl) (by kernel_rfl) (by kernel_rfl) (fun _ _ _ h => h) (Or.inl ⟨by rfl, ?_⟩) hHeld ?_
                    rotate_left
                    · rintro w' ⟨d0, d1, d2, d3⟩; go_simp; rfl
                    try simp only [Act.put, List.setIfInBounds_toArray, List.set_cons_zero, List.set_cons_succ]
                    refine takeL (i := 2) (v := ?_) rfl (by kernel_rfl) (by kernel_rfl) (by kernel_rfl) (fun _ _ _ h => h) (Or.inl ⟨by rfl, ?_⟩) hHeld ?_
                    rotate_left
                    · rintro w' ⟨d0, d1, d2, d3⟩; go_simp; rfl
                    try simp only [Act.put, List.setIfInBounds_toArray, List.set_cons_zero, List.set_cons_succ]
                    refine takeL (i := 3) (v := ?_) rfl (by kernel_rfl) (by kernel_rfl) (by kernel_rfl) (fun _ _ _ h => h) (Or.inl ⟨by rfl, ?_⟩) hHeld ?_
                    rotate_left
                    · rintro w' ⟨d0, d1, d2, d3⟩; go_simp; rfl
                    try simp only [Act.put, List.setIfInBounds_toArray, List.set_cons_zero, List.set_cons_succ]
                    refine takeL (i := 4) (v := ?_) rfl (by kernel_rfl) (by kernel_rfl) (by kernel_rfl) (fun _ _ _ h => h) (Or.inl ⟨by rfl, ?_⟩) hHeld ?_
                    rotate_left
                    · rintro w' ⟨d0, d1, d2, d3⟩; go_simp; rfl
                    try simp only [Act.put, List.setIfInBounds_toArray, List.set_cons_zero, List.set_cons_succ]
                    refine takeL (i := 5) (v := ?_) rfl (by kernel_rfl) (by kernel_rfl) (by kernel_rfl) (fun _ _ _ h => h) (Or.inl ⟨by rfl, ?_⟩) hHeld ?_
                    rotate_left
                    · rintro w' ⟨d0, d1, d2, d3⟩; go_simp; rfl
                    try simp only [Act.put, List.setIfInBounds_toArray, List.set_cons_zero, List.set_cons_succ]
                    refine takeL (i := 6) (v := ?_) rfl (by kernel_rfl) (by kernel_rfl) (by kernel_rfl) (fun _ _ _ h => h) (Or.inl ⟨by rfl, ?_⟩) hHeld ?_
                    rotate_left
                    · rintro w' ⟨d0, d1, d2, d3⟩; go_simp; rfl
                    try simp only [Act.put, List.setIfInBounds_toArray, List.set_cons_zero, List.set_cons_succ]
                    refine takeL (i := 7) (v := .bool true) rfl (by kernel_rfl) (by kernel_rfl) (by kernel_rfl) (fun _ _ _ h => h) (Or.inl ⟨by rfl, ?_⟩) hHeld ?_
                    · rintro w' ⟨d0, d1, d2, d3⟩; go_simp; try rfl
                    try simp only [Act.put, List.setIfInBounds_toArray, List.set_cons_zero, List.set_cons_succ]
                    refine takeL (i := 8) (v := ?_) rfl (by kernel_rfl) (by kernel_rfl) (by kernel_rfl) (fun _ _ _ h => h) (Or.inl ⟨by rfl, ?_⟩) hHeld ?_
                    rotate_left
                    · rintro w' ⟨d0, d1, d2, d3⟩; go_simp; rfl
                    try simp only [Act.put, List.setIfInBounds_toArray, List.set_cons_zero, List.set_cons_succ]
                    refine takeL (i := 9) (v := ?_) rfl (by kernel_rfl) (by kernel_rfl) (by kernel_rfl) (fun _ _ _ h => h) (Or.inl ⟨by kernel_rfl, ?_⟩) hHeld ?_
                    rotate_left
                    · rintro w' ⟨d0, d1, d2, d3⟩; go_simp; rfl
                    try simp only [Act.put, List.setIfInBounds_toArray, List.set_cons_zero, List.set_cons_succ]
                    refine takeL (i := 10) (v := ?_) rfl (by kernel_rfl) (by kernel_rfl) (by kernel_rfl) (fun _ _ _ h => h) (Or.inl ⟨by kernel_rfl, ?_⟩) hHeld ?_
                    rotate_left
                    · rintro w' ⟨d0, d1, d2, d3⟩; go_simp; rfl
                    try simp only [Act.put, List.setIfInBounds_toArray, List.set_cons_zero, List.set_cons_succ]
                    refine takeL (i := 11) (v := ?_) rfl (by kernel_rfl) (by kernel_rfl) (by kernel_rfl) (fun _ _ _ h => h) (Or.inl ⟨by kernel_rfl, ?_⟩) hHeld ?_
                    rotate_left
                    · rintro w' ⟨d0, d1, d2, d3⟩; go_simp; rfl
                    try simp only [Act.put, List.setIfInBounds_toArray, List.set_cons_zero, List.set_cons_succ]
                    refine takeL (i := 12) (v := ?_) rfl (by kernel_rfl) (by kernel_rfl) (by kernel_rfl) (fun _ _ _ h => h) (Or.inl ⟨by kernel_rfl, ?_⟩) hHeld ?_
                    rotate_left
                    · rintro w' ⟨d0, d1, d2, d3⟩; go_simp; rfl
                    try simp only [Act.put, List.setIfInBounds_toArray, List.set_cons_zero, List.set_cons_succ]
                    refine takeL (i := 13) (v := ?_) rfl (by kernel_rfl) (by kernel_rfl) (by kernel_rfl) (fun _ _ _ h => h) (Or.inl ⟨by kernel_rfl, ?_⟩) hHeld ?_
                    rotate_left
                    · rintro w' ⟨d0, d1, d2, d3⟩; go_simp; rfl
                    try simp only [Act.put, List.setIfInBounds_toArray, List.set_cons_zero, List.set_cons_succ]
                    refine takeL (i := 14) (v := ?_) rfl (by kernel_rfl) (by kernel_rfl) (by kernel_rfl) (fun _ _ _ h => h) (Or.inl ⟨by kernel_rfl, ?_⟩) hHeld ?_
                    rotate_left
                    · rintro w' ⟨d0, d1, d2, d3⟩; go_simp; rfl
                    try simp only [Act.put, List.setIfInBounds_toArray, List.set_cons_zero, List.set_cons_succ]
                    refine takeL (i := 15) (v := ?_) rfl (by kernel_rfl) (by kernel_rfl) (by kernel_rfl) (fun _ _ _ h => h) (Or.inl ⟨by kernel_rfl, ?_⟩) hHeld ?_
                    rotate_left
                    · rintro w' ⟨d0, d1, d2, d3⟩; go_simp; rfl
                    try simp only [Act.put, List.setIfInBounds_toArray, List.set_cons_zero, List.set_cons_succ]
                    refine takeL (i := 16) (v := .bool true) rfl (by kernel_rfl) (by kernel_rfl) (by kernel_rfl) (fun _ _ _ h => h) (Or.inl ⟨by kernel_rfl, ?_⟩) hHeld ?_
                    · rintro w' ⟨d0, d1, d2, d3⟩; go_simp; try rfl
                    try simp only [Act.put, List.setIfInBounds_toArray, List.set_cons_zero, List.set_cons_succ]
                    refine takeL (i := 17) (v := ?_) rfl (by kernel_rfl) (by kernel_rfl) (by kernel_rfl) (fun _ _ _ h => h) (Or.inl ⟨by kernel_rfl, ?_⟩) hHeld ?_
                    rotate_left
                    · rintro w' ⟨d0, d1, d2, d3⟩; go_simp; rfl
                    try simp only [Act.put, List.setIfInBounds_toArray, List.set_cons_zero, List.set_cons_succ]
                    refine takeL (i := 18) (v := undef) rfl (by kernel_rfl) (by kernel_rfl) (by kernel_rfl) (fun _ _ _ h => h) (Or.inr ⟨by kernel_rfl, rfl⟩) hHeld ?_
                    try simp only [Act.put, List.setIfInBounds_toArray, List.set_cons_zero, List.set_cons_succ]
                    refine takeL (i := 19) (v := undef) rfl (by kernel_rfl) (by kernel_rfl) (by kernel_rfl) (fun _ _ _ h => h) (Or.inr ⟨by kernel_rfl, rfl⟩) hHeld ?_
                    try simp only [Act.put, List.setIfInBounds_toArray, List.set_cons_zero, List.set_cons_succ]
                    refine takeL (i := 20) (v := undef) rfl (by kernel_rfl) (by kernel_rfl) (by kernel_rfl) (fun _ _ _ h => h) (Or.inr ⟨by kernel_rfl, rfl⟩) hHeld ?_
                    try simp only [Act.put, List.setIfInBounds_toArray, List.set_cons_zero, List.set_cons_succ]
                    refine takeL (i := 21) (v := undef) rfl (by kernel_rfl) (by kernel_rfl) (by kernel_rfl) (fun _ _ _ h => h) (Or.inr ⟨by kernel_rfl, rfl⟩) hHeld ?_
                    try simp only [Act.put, List.setIfInBounds_toArray, List.set_cons_zero, List.set_cons_succ]
                    refine takeL (i := 22) (v := undef) rfl (by kernel_rfl) (by kernel_rfl) (by kernel_rfl) (fun _ _ _ h => h) (Or.inr ⟨by kernel_rfl, rfl⟩) hHeld ?_
                    try simp only [Act.put, List.setIfInBounds_toArray, List.set_cons_zero, List.set_cons_succ]
                    refine takeL (i := 23) (v := undef) rfl (by kernel_rfl) (by kernel_rfl) (by kernel_rfl) (fun _ _ _ h => h) (Or.inr ⟨by kernel_rfl, rfl⟩) hHeld ?_
                    try simp only [Act.put, List.setIfInBounds_toArray, List.set_cons_zero, List.set_cons_succ]
                    refine takeL (i := 24) (v := .bool true) rfl (by kernel_rfl) (by kernel_rfl) (by kernel_rfl) (fun _ _ _ h => h) (Or.inl ⟨by kernel_rfl, ?_⟩) hHeld ?_
                    · rintro w' ⟨d0, d1, d2, d3⟩; go_simp; try rfl
                    try simp only [Act.put, List.setIfInBounds_toArray, List.set_cons_zero, List.set_cons_succ]
                    refine takeL (i := 25) (v := ?_) rfl (by kernel_rfl) (by kernel_rfl) (by kernel_rfl) (fun _ _ _ h => h) (Or.inl ⟨by kernel_rfl, ?_⟩) hHeld ?_
                    rotate_left
                    · rintro w' ⟨d0, d1, d2, d3⟩; go_simp; rfl
                    try simp only [Act.put, List.setIfInBounds_toArray, List.set_cons_zero, List.set_cons_succ]
                    refine takeL (i := 26) (v := undef) rfl (by kernel_rfl) (by kernel_rfl) (by kernel_rfl) (fun _ _ _ h => h) (Or.inr ⟨by kernel_rfl, rfl⟩) hHeld ?_
                    try simp only [Act.put, List.setIfInBounds_toArray, List.set_cons_zero, List.set_cons_succ]
                    refine takeL (i := 27) (v := undef) rfl (by kernel_rfl) (by kernel_rfl) (by kernel_rfl) (fun _ _ _ h => h) (Or.inr ⟨by kernel_rfl, rfl⟩) hHeld ?_
                    try simp only [Act.put, List.setIfInBounds_toArray, List.set_cons_zero, List.set_cons_succ]
                    refine takeL (i := 28) (v := undef) rfl (by kernel_rfl) (by kernel_rfl) (by kernel_rfl) (fun _ _ _ h => h) (Or.inr ⟨by kernel_rfl, rfl⟩) hHeld ?_
                    try simp only [Act.put, List.setIfInBounds_toArray, List.set_cons_zero, List.set_cons_succ]
                    refine takeL (i := 29) (v := .bool true) rfl (by kernel_rfl) (by kernel_rfl) (by kernel_rfl) (fun _ _ _ h => h) (Or.inl ⟨by kernel_rfl, ?_⟩) hHeld ?_
                    · rintro w' ⟨d0, d1, d2, d3⟩; go_simp; try rfl
                    try simp only [Act.put, List.setIfInBounds_toArray, List.set_cons_zero, List.set_cons_succ]
                    refine takeL (i := 30) (v := .bool true) rfl (by kernel_rfl) (by kernel_rfl) (by kernel_rfl) (fun _ _ _ h => h) (Or.inl ⟨by rfl, ?_⟩) hHeld ?_
                    · rintro w' ⟨d0, d1, d2, d3⟩; go_simp; try rfl
                    try simp only [Act.put, List.setIfInBounds_toArray, List.set_cons_zero, List.set_cons_succ]
                    refine wpAnyH_done (by kernel_rfl) ?_ _
                    clear hHeld
                    go_wp2
                    go_ret
                    exact ⟨by rw [HG.out]; exact HBD.out, .inr (.inl ⟨HPs.out, HC.out, rfl⟩)⟩
                  · have hsb : (z.stage == x.stage) = false := by simp [hse]
                    by_cases hz0 : z.stage = 0
                    · have hzb : (z.stage == 0) = true := by simp [hz0]
                      have HC : Hid (¬ (l.length ≤ 2000 ∧ okFs l)) := hid (fun h => bad_at l k i hkl (by rw [HN.out]; exact hlt) (by rw [HZ.out, HX.out]; exact ⟨HPE.out.2 HXY.out, .inr (.inl hz0)⟩) h.2)
                      clear hse hz0
                      refine takeL (i := 0) (v := ?_) rfl (by kernel_rfl) (by kernel_rfl) (by kernel_rfl) (fun _ _ _ h => h) (Or.inl ⟨by rfl, ?_⟩) hHeld ?_
                      rotate_left
                      · rintro w' ⟨d0, d1, d2, d3⟩; go_simp; rfl
                      try simp only [Act.put, List.setIfInBounds_toArray, List.set_cons_zero, List.set_cons_succ]
                      refine takeL (i := 1) (v := ?_) rfl (by kernel_rfl) (by kernel_rfl) (by kernel_rfl) (fun _ _ _ h => h) (Or.inl ⟨by rfl, ?_⟩) hHeld ?_
                      rotate_left
                      · rintro w' ⟨d0, d1, d2, d3⟩; go_simp; rfl
                      try simp only [Act.put, List.setIfInBounds_toArray, List.set_cons_zero, List.set_cons_succ]
                      refine takeL (i := 2) (v := ?_) rfl (by kernel_rfl) (by kernel_rfl) (by kernel_rfl) (fun _ _ _ h => h) (Or.inl ⟨by rfl, ?_⟩) hHeld ?_
                      rotate_left
                      · rintro w' ⟨d0, d1, d2, d3⟩; go_simp; rfl
                      try simp only [Act.put, List.setIfInBounds_toArray, List.set_cons_zero, List.set_cons_succ]
                      refine takeL (i := 3) (v := ?_) rfl (by kernel_rfl) (by kernel_rfl) (by kernel_rfl) (fun _ _ _ h => h) (Or.inl ⟨by rfl, ?_⟩) hHeld ?_
                      rotate_left
                      · rintro w' ⟨d0, d1, d2, d3⟩; go_simp; rfl
                      try simp only [Act.put, List.setIfInBounds_toArray, List.set_cons_zero, List.set_cons_succ]
                      refine takeL (i := 4) (v := ?_) rfl (by kernel_rfl) (by kernel_rfl) (by kernel_rfl) (fun _ _ _ h => h) (Or.inl ⟨by rfl, ?_⟩) hHeld ?_
                      rotate_left
                      · rintro w' ⟨d0, d1, d2, d3⟩; go_simp; rfl
                      try simp only [Act.put, List.setIfInBounds_toArray, List.set_cons_zero, List.set_cons_succ]
                      refine takeL (i := 5) (v := ?_) rfl (by kernel_rfl) (by kernel_rfl) (by kernel_rfl) (fun _ _ _ h => h) (Or.inl ⟨by rfl, ?_⟩) hHeld ?_
                      rotate_left
                      · rintro w' ⟨d0, d1, d2, d3⟩; go_simp; rfl
                      try simp only [Act.put, List.setIfInBounds_toArray, List.set_cons_zero, List.set_cons_succ]
                      refine takeL (i := 6) (v := ?_) rfl (by kernel_rfl) (by kernel_rfl) (by kernel_rfl) (fun _ _ _ h => h) (Or.inl ⟨by rfl, ?_⟩) hHeld ?_
                      rotate_left
                      · rintro w' ⟨d0, d1, d2, d3⟩; go_simp; rfl
                      try simp only [Act.put, List.setIfInBounds_toArray, List.set_cons_zero, List.set_cons_succ]
                      refine takeL (i := 7) (v := .bool true) rfl (by kernel_rfl) (by kernel_rfl) (by kernel_rfl) (fun _ _ _ h => h) (Or.inl ⟨by rfl, ?_⟩) hHeld ?_
                      · rintro w' ⟨d0, d1, d2, d3⟩; go_simp; try rfl
                      try simp only [Act.put, List.setIfInBounds_toArray, List.set_cons_zero, List.set_cons_succ]
                      refine takeL (i := 8) (v := ?_) rfl (by kernel_rfl) (by kernel_rfl) (by kernel_rfl) (fun _ _ _ h => h) (Or.inl ⟨by rfl, ?_⟩) hHeld ?_
                      rotate_left
                      · rintro w' ⟨d0, d1, d2, d3⟩; go_simp; rfl
                      try simp only [Act.put, List.setIfInBounds_toArray, List.set_cons_zero, List.set_cons_succ]
                      refine takeL (i := 9) (v := ?_) rfl (by kernel_rfl) (by kernel_rfl) (by kernel_rfl) (fun _ _ _ h => h) (Or.inl ⟨by kernel_rfl, ?_⟩) hHeld ?_
                      rotate_left
                      · rintro w' ⟨d0, d1, d2, d3⟩; go_simp; rfl
                      try simp only [Act.put, List.setIfInBounds_toArray, List.set_cons_zero, List.set_cons_succ]
                      refine takeL (i := 10) (v := ?_) rfl (by kernel_rfl) (by kernel_rfl) (by kernel_rfl) (fun _ _ _ h => h) (Or.inl ⟨by kernel_rfl, ?_⟩) hHeld ?_
                      rotate_left
                      · rintro w' ⟨d0, d1, d2, d3⟩; go_simp; rfl
                      try simp only [Act.put, List.setIfInBounds_toArray, List.set_cons_zero, List.set_cons_succ]
                      refine takeL (i := 11) (v := ?_) rfl (by kernel_rfl) (by kernel_rfl) (by kernel_rfl) (fun _ _ _ h => h) (Or.inl ⟨by kernel_rfl, ?_⟩) hHeld ?_
                      rotate_left
                      · rintro w' ⟨d0, d1, d2, d3⟩; go_simp; rfl
                      try simp only [Act.put, List.setIfInBounds_toArray, List.set_cons_zero, List.set_cons_succ]
                      refine takeL (i := 12) (v := ?_) rfl (by kernel_rfl) (by kernel_rfl) (by kernel_rfl) (fun _ _ _ h => h) (Or.inl ⟨by kernel_rfl, ?_⟩) hHeld ?_
                      rotate_left
                      · rintro w' ⟨d0, d1, d2, d3⟩; go_simp; rfl
                      try simp only [Act.put, List.setIfInBounds_toArray, List.set_cons_zero, List.set_cons_succ]
                      refine takeL (i := 13) (v := ?_) rfl (by kernel_rfl) (by kernel_rfl) (by kernel_rfl) (fun _ _ _ h => h) (Or.inl ⟨by kernel_rfl, ?_⟩) hHeld ?_
                      rotate_left
                      · rintro w' ⟨d0, d1, d2, d3⟩; go_simp; rfl
                      try simp only [Act.put, List.setIfInBounds_toArray, List.set_cons_zero, List.set_cons_succ]
                      refine takeL (i := 14) (v := ?_) rfl (by kernel_rfl) (by kernel_rfl) (by kernel_rfl) (fun _ _ _ h => h) (Or.inl ⟨by kernel_rfl, ?_⟩) hHeld ?_
                      rotate_left
                      · rintro w' ⟨d0, d1, d2, d3⟩; go_simp; rfl
                      try simp only [Act.put, List.setIfInBounds_toArray, List.set_cons_zero, List.set_cons_succ]
                      refine takeL (i := 15) (v := ?_) rfl (by kernel_rfl) (by kernel_rfl) (by kernel_rfl) (fun _ _ _ h => h) (Or.inl ⟨by kernel_rfl, ?_⟩) hHeld ?_
                      rotate_left
                      · rintro w' ⟨d0, d1, d2, d3⟩; go_simp; rfl
                      try simp only [Act.put, List.setIfInBounds_toArray, List.set_cons_zero, List.set_cons_succ]
                      refine takeL (i := 16) (v := .bool false) rfl (by kernel_rfl) (by kernel_rfl) (by kernel_rfl) (fun _ _ _ h => h) (Or.inl ⟨by kernel_rfl, ?_⟩) hHeld ?_
                      · rintro w' ⟨d0, d1, d2, d3⟩; go_simp; try rfl
                      try simp only [Act.put, List.setIfInBounds_toArray, List.set_cons_zero, List.set_cons_succ]
                      refine takeL (i := 17) (v := ?_) rfl (by kernel_rfl) (by kernel_rfl) (by kernel_rfl) (fun _ _ _ h => h) (Or.inl ⟨by kernel_rfl, ?_⟩) hHeld ?_
                      rotate_left
                      · rintro w' ⟨d0, d1, d2, d3⟩; go_simp; rfl
                      try simp only [Act.put, List.setIfInBounds_toArray, List.set_cons_zero, List.set_cons_succ]
                      refine takeL (i := 18) (v := ?_) rfl (by kernel_rfl) (by kernel_rfl) (by kernel_rfl) (fun _ _ _ h => h) (Or.inl ⟨by kernel_rfl, ?_⟩) hHeld ?_
                      rotate_left
                      · rintro w' ⟨d0, d1, d2, d3⟩; go_simp; rfl
                      try simp only [Act.put, List.setIfInBounds_toArray, List.set_cons_zero, List.set_cons_succ]
                      refine takeL (i := 19) (v := ?_) rfl (by kernel_rfl) (by kernel_rfl) (by kernel_rfl) (fun _ _ _ h => h) (Or.inl ⟨by kernel_rfl, ?_⟩) hHeld ?_
                      rotate_left
                      · rintro w' ⟨d0, d1, d2, d3⟩; go_simp; rfl
                      try simp only [Act.put, List.setIfInBounds_toArray, List.set_cons_zero, List.set_cons_succ]
                      refine takeL (i := 20) (v := ?_) rfl (by kernel_rfl) (by kernel_rfl) (by kernel_rfl) (fun _ _ _ h => h) (Or.inl ⟨by kernel_rfl, ?_⟩) hHeld ?_
                      rotate_left
                      · rintro w' ⟨d0, d1, d2, d3⟩; go_simp; rfl
                      try simp only [Act.put, List.setIfInBounds_toArray, List.set_cons_zero, List.set_cons_succ]
                      refine takeL (i := 21) (v := ?_) rfl (by kernel_rfl) (by kernel_rfl) (by kernel_rfl) (fun _ _ _ h => h) (Or.inl ⟨by kernel_rfl, ?_⟩) hHeld ?_
                      rotate_left
                      · rintro w' ⟨d0, d1, d2, d3⟩; go_simp; rfl
                      try simp only [Act.put, List.setIfInBounds_toArray, List.set_cons_zero, List.set_cons_succ]
                      refine takeL (i := 22) (v := ?_) rfl (by kernel_rfl) (by kernel_rfl) (by kernel_rfl) (fun _ _ _ h => h) (Or.inl ⟨by kernel_rfl, ?_⟩) hHeld ?_
                      rotate_left
                      · rintro w' ⟨d0, d1, d2, d3⟩; go_simp; rfl
                      try simp only [Act.put, List.setIfInBounds_toArray, List.set_cons_zero, List.set_cons_succ]
                      refine takeL (i := 23) (v := .bool true) rfl (by kernel_rfl) (by kernel_rfl) (by kernel_rfl) (fun _ _ _ h => h) (Or.inl ⟨by kernel_rfl, ?_⟩) hHeld ?_
                      · rintro w' ⟨d0, d1, d2, d3⟩; go_simp; try rfl
                      try simp only [Act.put, List.setIfInBounds_toArray, List.set_cons_zero, List.set_cons_succ]
                      refine takeL (i := 24) (v := .bool true) rfl (by kernel_rfl) (by kernel_rfl) (by kernel_rfl) (fun _ _ _ h => h) (Or.inl ⟨by kernel_rfl, ?_⟩) hHeld ?_
                      · rintro w' ⟨d0, d1, d2, d3⟩; go_simp; try rfl
                      try simp only [Act.put, List.setIfInBounds_toArray, List.set_cons_zero, List.set_cons_succ]
                      refine takeL (i := 25) (v := ?_) rfl (by kernel_rfl) (by kernel_rfl) (by kernel_rfl) (fun _ _ _ h => h) (Or.inl ⟨by kernel_rfl, ?_⟩) hHeld ?_
                      rotate_left
                      · rintro w' ⟨d0, d1, d2, d3⟩; go_simp; rfl
                      try simp only [Act.put, List.setIfInBounds_toArray, List.set_cons_zero, List.set_cons_succ]
                      refine takeL (i := 26) (v := undef) rfl (by kernel_rfl) (by kernel_rfl) (by kernel_rfl) (fun _ _ _ h => h) (Or.inr ⟨by kernel_rfl, rfl⟩) hHeld ?_
                      try simp only [Act.put, List.setIfInBounds_toArray, List.set_cons_zero, List.set_cons_succ]
                      refine takeL (i := 27) (v := undef) rfl (by kernel_rfl) (by kernel_rfl) (by kernel_rfl) (fun _ _ _ h => h) (Or.inr ⟨by kernel_rfl, rfl⟩) hHeld ?_
                      try simp only [Act.put, List.setIfInBounds_toArray, List.set_cons_zero, List.set_cons_succ]
                      refine takeL (i := 28) (v := undef) rfl (by kernel_rfl) (by kernel_rfl) (by kernel_rfl) (fun _ _ _ h => h) (Or.inr ⟨by kernel_rfl, rfl⟩) hHeld ?_
                      try simp only [Act.put, List.setIfInBounds_toArray, List.set_cons_zero, List.set_cons_succ]
                      refine takeL (i := 29) (v := .bool true) rfl (by kernel_rfl) (by kernel_rfl) (by kernel_rfl) (fun _ _ _ h => h) (Or.inl ⟨by kernel_rfl, ?_⟩) hHeld ?_
                      · rintro w' ⟨d0, d1, d2, d3⟩; go_simp; try rfl
                      try simp only [Act.put, List.setIfInBounds_toArray, List.set_cons_zero, List.set_cons_succ]
                      refine takeL (i := 30) (v := .bool true) rfl (by kernel_rfl) (by kernel_rfl) (by kernel_rfl) (fun _ _ _ h => h) (Or.inl ⟨by rfl, ?_⟩) hHeld ?_
                      · rintro w' ⟨d0, d1, d2, d3⟩; go_simp; try rfl
                      try simp only [Act.put, List.setIfInBounds_toArray, List.set_cons_zero, List.set_cons_succ]
                      refine wpAnyH_done (by kernel_rfl) ?_ _
                      clear hHeld
                      go_wp2
                      go_ret
                      exact ⟨by rw [HG.out]; exact HBD.out, .inr (.inl ⟨HPs.out, HC.out, rfl⟩)⟩
                    · have hzb : (z.stage == 0) = false := by simp [hz0]
                      by_cases hx0 : x.stage = 0
                      · have hxb : (x.stage == 0) = true := by simp [hx0]
                        have HC : Hid (¬ (l.length ≤ 2000 ∧ okFs l)) := hid (fun h => bad_at l k i hkl (by rw [HN.out]; exact hlt) (by rw [HZ.out, HX.out]; exact ⟨HPE.out.2 HXY.out, .inr (.inr hx0)⟩) h.2)
                        clear hse hz0 hx0
                        refine takeL (i := 0) (v := ?_) rfl (by kernel_rfl) (by kernel_rfl) (by kernel_rfl) (fun _ _ _ h => h) (Or.inl ⟨by rfl, ?_⟩) hHeld ?_
                        rotate_left
                        · rintro w' ⟨d0, d1, d2, d3⟩; go_simp; rfl
                        try simp only [Act.put, List.setIfInBounds_toArray, List.set_cons_zero, List.set_cons_succ]
                        refine takeL (i := 1) (v := ?_) rfl (by kernel_rfl) (by kernel_rfl) (by kernel_rfl) (fun _ _ _ h => h) (Or.inl ⟨by rfl, ?_⟩) hHeld ?_
                        rotate_left
                        · rintro w' ⟨d0, d1, d2, d3⟩; go_simp; rfl
                        try simp only [Act.put, List.setIfInBounds_toArray, List.set_cons_zero, List.set_cons_succ]
                        refine takeL (i := 2) (v := ?_) rfl (by kernel_rfl) (by kernel_rfl) (by kernel_rfl) (fun _ _ _ h => h) (Or.inl ⟨by rfl, ?_⟩) hHeld ?_
                        rotate_left
                        · rintro w' ⟨d0, d1, d2, d3⟩; go_simp; rfl
                        try simp only [Act.put, List.setIfInBounds_toArray, List.set_cons_zero, List.set_cons_succ]
                        refine takeL (i := 3) (v := ?_) rfl (by kernel_rfl) (by kernel_rfl) (by kernel_rfl) (fun _ _ _ h => h) (Or.inl ⟨by rfl, ?_⟩) hHeld ?_
                        rotate_left
                        · rintro w' ⟨d0, d1, d2, d3⟩; go_simp; rfl
                        try simp only [Act.put, List.setIfInBounds_toArray, List.set_cons_zero, List.set_cons_succ]
                        refine takeL (i := 4) (v := ?_) rfl (by kernel_rfl) (by kernel_rfl) (by kernel_rfl) (fun _ _ _ h => h) (Or.inl ⟨by rfl, ?_⟩) hHeld ?_
                        rotate_left
                        · rintro w' ⟨d0, d1, d2, d3⟩; go_simp; rfl
                        try simp only [Act.put, List.setIfInBounds_toArray, List.set_cons_zero, List.set_cons_succ]
                        refine takeL (i := 5) (v := ?_) rfl (by kernel_rfl) (by kernel_rfl) (by kernel_rfl) (fun _ _ _ h => h) (Or.inl ⟨by rfl, ?_⟩) hHeld ?_
                        rotate_left
                        · rintro w' ⟨d0, d1, d2, d3⟩; go_simp; rfl
                        try simp only [Act.put, List.setIfInBounds_toArray, List.set_cons_zero, List.set_cons_succ]
                        refine takeL (i := 6) (v := ?_) rfl (by kernel_rfl) (by kernel_rfl) (by kernel_rfl) (fun _ _ _ h => h) (Or.inl ⟨by rfl, ?_⟩) hHeld ?_
                        rotate_left
                        · rintro w' ⟨d0, d1, d2, d3⟩; go_simp; rfl
                        try simp only [Act.put, List.setIfInBounds_toArray, List.set_cons_zero, List.set_cons_succ]
                        refine takeL (i := 7) (v := .bool true) rfl (by kernel_rfl) (by kernel_rfl) (by kernel_rfl) (fun _ _ _ h => h) (Or.inl ⟨by rfl, ?_⟩) hHeld ?_
                        · rintro w' ⟨d0, d1, d2, d3⟩; go_simp; try rfl
                        try simp only [Act.put, List.setIfInBounds_toArray, List.set_cons_zero, List.set_cons_succ]
                        refine takeL (i := 8) (v := ?_) rfl (by kernel_rfl) (by kernel_rfl) (by kernel_rfl) (fun _ _ _ h => h) (Or.inl ⟨by rfl, ?_⟩) hHeld ?_
                        rotate_left
                        · rintro w' ⟨d0, d1, d2, d3⟩; go_simp; rfl
                        try simp only [Act.put, List.setIfInBounds_toArray, List.set_cons_zero, List.set_cons_succ]
                        refine takeL (i := 9) (v := ?_) rfl (by kernel_rfl) (by kernel_rfl) (by kernel_rfl) (fun _ _ _ h => h) (Or.inl ⟨by kernel_rfl, ?_⟩) hHeld ?_
                        rotate_left
                        · rintro w' ⟨d0, d1, d2, d3⟩; go_simp; rfl
                        try simp only [Act.put, List.setIfInBounds_toArray, List.set_cons_zero, List.set_cons_succ]
                        refine takeL (i := 10) (v := ?_) rfl (by kernel_rfl) (by kernel_rfl) (by kernel_rfl) (fun _ _ _ h => h) (Or.inl ⟨by kernel_rfl, ?_⟩) hHeld ?_
                        rotate_left
                        · rintro w' ⟨d0, d1, d2, d3⟩; go_simp; rfl
                        try simp only [Act.put, List.setIfInBounds_toArray, List.set_cons_zero, List.set_cons_succ]
                        refine takeL (i := 11) (v := ?_) rfl (by kernel_rfl) (by kernel_rfl) (by kernel_rfl) (fun _ _ _ h => h) (Or.inl ⟨by kernel_rfl, ?_⟩) hHeld ?_
                        rotate_left
                        · rintro w' ⟨d0, d1, d2, d3⟩; go_simp; rfl
                        try simp only [Act.put, List.setIfInBounds_toArray, List.set_cons_zero, List.set_cons_succ]
                        refine takeL (i := 12) (v := ?_) rfl (by kernel_rfl) (by kernel_rfl) (by kernel_rfl) (fun _ _ _ h => h) (Or.inl ⟨by kernel_rfl, ?_⟩) hHeld ?_
                        rotate_left
                        · rintro w' ⟨d0, d1, d2, d3⟩; go_simp; rfl
                        try simp only [Act.put, List.setIfInBounds_toArray, List.set_cons_zero, List.set_cons_succ]
                        refine takeL (i := 13) (v := ?_) rfl (by kernel_rfl) (by kernel_rfl) (by kernel_rfl) (fun _ _ _ h => h) (Or.inl ⟨by kernel_rfl, ?_⟩) hHeld ?_
                        rotate_left
                        · rintro w' ⟨d0, d1, d2, d3⟩; go_simp; rfl
                        try simp only [Act.put, List.setIfInBounds_toArray, List.set_cons_zero, List.set_cons_succ]
                        refine takeL (i := 14) (v := ?_) rfl (by kernel_rfl) (by kernel_rfl) (by kernel_rfl) (fun _ _ _ h => h) (Or.inl ⟨by kernel_rfl, ?_⟩) hHeld ?_
                        rotate_left
                        · rintro w' ⟨d0, d1, d2, d3⟩; go_simp; rfl
                        try simp only [Act.put, List.setIfInBounds_toArray, List.set_cons_zero, List.set_cons_succ]
                        refine takeL (i := 15) (v := ?_) rfl (by kernel_rfl) (by kernel_rfl) (by kernel_rfl) (fun _ _ _ h => h) (Or.inl ⟨by kernel_rfl, ?_⟩) hHeld ?_
                        rotate_left
                        · rintro w' ⟨d0, d1, d2, d3⟩; go_simp; rfl
                        try simp only [Act.put, List.setIfInBounds_toArray, List.set_cons_zero, List.set_cons_succ]
                        refine takeL (i := 16) (v := .bool false) rfl (by kernel_rfl) (by kernel_rfl) (by kernel_rfl) (fun _ _ _ h => h) (Or.inl ⟨by kernel_rfl, ?_⟩) hHeld ?_
                        · rintro w' ⟨d0, d1, d2, d3⟩; go_simp; try rfl
                        try simp only [Act.put, List.setIfInBounds_toArray, List.set_cons_zero, List.set_cons_succ]
                        refine takeL (i := 17) (v := ?_) rfl (by kernel_rfl) (by kernel_rfl) (by kernel_rfl) (fun _ _ _ h => h) (Or.inl ⟨by kernel_rfl, ?_⟩) hHeld ?_
                        rotate_left
                        · rintro w' ⟨d0, d1, d2, d3⟩; go_simp; rfl
                        try simp only [Act.put, List.setIfInBounds_toArray, List.set_cons_zero, List.set_cons_succ]
                        refine takeL (i := 18) (v := ?_) rfl (by kernel_rfl) (by kernel_rfl) (by kernel_rfl) (fun _ _ _ h => h) (Or.inl ⟨by kernel_rfl, ?_⟩) hHeld ?_
                        rotate_left
                        · rintro w' ⟨d0, d1, d2, d3⟩; go_simp; rfl
                        try simp only [Act.put, List.setIfInBounds_toArray, List.set_cons_zero, List.set_cons_succ]
                        refine takeL (i := 19) (v := ?_) rfl (by kernel_rfl) (by kernel_rfl) (by kernel_rfl) (fun _ _ _ h => h) (Or.inl ⟨by kernel_rfl, ?_⟩) hHeld ?_
                        rotate_left
                        · rintro w' ⟨d0, d1, d2, d3⟩; go_simp; rfl
                        try simp only [Act.put, List.setIfInBounds_toArray, List.set_cons_zero, List.set_cons_succ]
                        refine takeL (i := 20) (v := ?_) rfl (by kernel_rfl) (by kernel_rfl) (by kernel_rfl) (fun _ _ _ h => h) (Or.inl ⟨by kernel_rfl, ?_⟩) hHeld ?_
                        rotate_left
                        · rintro w' ⟨d0, d1, d2, d3⟩; go_simp; rfl
                        try simp only [Act.put, List.setIfInBounds_toArray, List.set_cons_zero, List.set_cons_succ]
                        refine takeL (i := 21) (v := ?_) rfl (by kernel_rfl) (by kernel_rfl) (by kernel_rfl) (fun _ _ _ h => h) (Or.inl ⟨by kernel_rfl, ?_⟩) hHeld ?_
                        rotate_left
                        · rintro w' ⟨d0, d1, d2, d3⟩; go_simp; rfl
                        try simp only [Act.put, List.setIfInBounds_toArray, List.set_cons_zero, List.set_cons_succ]
                        refine takeL (i := 22) (v := ?_) rfl (by kernel_rfl) (by kernel_rfl) (by kernel_rfl) (fun _ _ _ h => h) (Or.inl ⟨by kernel_rfl, ?_⟩) hHeld ?_
                        rotate_left
                        · rintro w' ⟨d0, d1, d2, d3⟩; go_simp; rfl
                        try simp only [Act.put, List.setIfInBounds_toArray, List.set_cons_zero, List.set_cons_succ]
                        refine takeL (i := 23) (v := .bool false) rfl (by kernel_rfl) (by kernel_rfl) (by kernel_rfl) (fun _ _ _ h => h) (Or.inl ⟨by kernel_rfl, ?_⟩) hHeld ?_
                        · rintro w' ⟨d0, d1, d2, d3⟩; go_simp; try rfl
                        try simp only [Act.put, List.setIfInBounds_toArray, List.set_cons_zero, List.set_cons_succ]
                        refine takeL (i := 24) (v := .bool false) rfl (by kernel_rfl) (by kernel_rfl) (by kernel_rfl) (fun _ _ _ h => h) (Or.inl ⟨by kernel_rfl, ?_⟩) hHeld ?_
                        · rintro w' ⟨d0, d1, d2, d3⟩; go_simp; try rfl
                        try simp only [Act.put, List.setIfInBounds_toArray, List.set_cons_zero, List.set_cons_succ]
                        refine takeL (i := 25) (v := ?_) rfl (by kernel_rfl) (by kernel_rfl) (by kernel_rfl) (fun _ _ _ h => h) (Or.inl ⟨by kernel_rfl, ?_⟩) hHeld ?_
                        rotate_left
                        · rintro w' ⟨d0, d1, d2, d3⟩; go_simp; rfl
                        try simp only [Act.put, List.setIfInBounds_toArray, List.set_cons_zero, List.set_cons_succ]
                        refine takeL (i := 26) (v := ?_) rfl (by kernel_rfl) (by kernel_rfl) (by kernel_rfl) (fun _ _ _ h => h) (Or.inl ⟨by kernel_rfl, ?_⟩) hHeld ?_
                        rotate_left
                        · rintro w' ⟨d0, d1, d2, d3⟩; go_simp; rfl
                        try simp only [Act.put, List.setIfInBounds_toArray, List.set_cons_zero, List.set_cons_succ]
                        refine takeL (i := 27) (v := ?_) rfl (by kernel_rfl) (by kernel_rfl) (by kernel_rfl) (fun _ _ _ h => h) (Or.inl ⟨by kernel_rfl, ?_⟩) hHeld ?_
                        rotate_left
                        · rintro w' ⟨d0, d1, d2, d3⟩; go_simp; rfl
                        try simp only [Act.put, List.setIfInBounds_toArray, List.set_cons_zero, List.set_cons_succ]
                        refine takeL (i := 28) (v := .bool true) rfl (by kernel_rfl) (by kernel_rfl) (by kernel_rfl) (fun _ _ _ h => h) (Or.inl ⟨by kernel_rfl, ?_⟩) hHeld ?_
                        · rintro w' ⟨d0, d1, d2, d3⟩; go_simp; try rfl
                        try simp only [Act.put, List.setIfInBounds_toArray, List.set_cons_zero, List.set_cons_succ]
                        refine takeL (i := 29) (v := .bool true) rfl (by kernel_rfl) (by kernel_rfl) (by kernel_rfl) (fun _ _ _ h => h) (Or.inl ⟨by kernel_rfl, ?_⟩) hHeld ?_
                        · rintro w' ⟨d0, d1, d2, d3⟩; go_simp; try rfl
                        try simp only [Act.put, List.setIfInBounds_toArray, List.set_cons_zero, List.set_cons_succ]
                        refine takeL (i := 30) (v := .bool true) rfl (by kernel_rfl) (by kernel_rfl) (by kernel_rfl) (fun _ _ _ h => h) (Or.inl ⟨by rfl, ?_⟩) hHeld ?_
                        · rintro w' ⟨d0, d1, d2, d3⟩; go_simp; try rfl
                        try simp only [Act.put, List.setIfInBounds_toArray, List.set_cons_zero, List.set_cons_succ]
                        refine wpAnyH_done (by kernel_rfl) ?_ _
                        clear hHeld
                        go_wp2
                        go_ret
                        exact ⟨by rw [HG.out]; exact HBD.out, .inr (.inl ⟨HPs.out, HC.out, rfl⟩)⟩
                      · have hxb : (x.stage == 0) = false := by simp [hx0]
                        have HNB2 : Hid (∀ j, j < k + 1 → ¬ bad2 (l.getD j dY) x) := hid (fun j hj hb => by
                          by_cases e : j = k
                          · subst e
                            rw [HZ.out] at hb
                            rcases hb.2 with h | h | h
                            · exact hse h
                            · exact hz0 h
                            · exact hx0 h
                          · exact HNB.out j (by omega) hb)
                        clear hse hz0 hx0
                        refine takeL (i := 0) (v := ?_) rfl (by kernel_rfl) (by kernel_rfl) (by kernel_rfl) (fun _ _ _ h => h) (Or.inl ⟨by rfl, ?_⟩) hHeld ?_
                        rotate_left
                        · rintro w' ⟨d0, d1, d2, d3⟩; go_simp; rfl
                        try simp only [Act.put, List.setIfInBounds_toArray, List.set_cons_zero, List.set_cons_succ]
                        refine takeL (i := 1) (v := ?_) rfl (by kernel_rfl) (by kernel_rfl) (by kernel_rfl) (fun _ _ _ h => h) (Or.inl ⟨by rfl, ?_⟩) hHeld ?_
                        rotate_left
                        · rintro w' ⟨d0, d1, d2, d3⟩; go_simp; rfl
                        try simp only [Act.put, List.setIfInBounds_toArray, List.set_cons_zero, List.set_cons_succ]
                        refine takeL (i := 2) (v := ?_) rfl (by kernel_rfl) (by kernel_rfl) (by kernel_rfl) (fun _ _ _ h => h) (Or.inl ⟨by rfl, ?_⟩) hHeld ?_
                        rotate_left
                        · rintro w' ⟨d0, d1, d2, d3⟩; go_simp; rfl
                        try simp only [Act.put, List.setIfInBounds_toArray, List.set_cons_zero, List.set_cons_succ]
                        refine takeL (i := 3) (v := ?_) rfl (by kernel_rfl) (by kernel_rfl) (by kernel_rfl) (fun _ _ _ h => h) (Or.inl ⟨by rfl, ?_⟩) hHeld ?_
                        rotate_left
                        · rintro w' ⟨d0, d1, d2, d3⟩; go_simp; rfl
                        try simp only [Act.put, List.setIfInBounds_toArray, List.set_cons_zero, List.set_cons_succ]
                        refine takeL (i := 4) (v := ?_) rfl (by kernel_rfl) (by kernel_rfl) (by kernel_rfl) (fun _ _ _ h => h) (Or.inl ⟨by rfl, ?_⟩) hHeld ?_
                        rotate_left
                        · rintro w' ⟨d0, d1, d2, d3⟩; go_simp; rfl
                        try simp only [Act.put, List.setIfInBounds_toArray, List.set_cons_zero, List.set_cons_succ]
                        refine takeL (i := 5) (v := ?_) rfl (by kernel_rfl) (by kernel_rfl) (by kernel_rfl) (fun _ _ _ h => h) (Or.inl ⟨by rfl, ?_⟩) hHeld ?_
                        rotate_left
                        · rintro w' ⟨d0, d1, d2, d3⟩; go_simp; rfl
                        try simp only [Act.put, List.setIfInBounds_toArray, List.set_cons_zero, List.set_cons_succ]
                        refine takeL (i := 6) (v := ?_) rfl (by kernel_rfl) (by kernel_rfl) (by kernel_rfl) (fun _ _ _ h => h) (Or.inl ⟨by rfl, ?_⟩) hHeld ?_
                        rotate_left
                        · rintro w' ⟨d0, d1, d2, d3⟩; go_simp; rfl
                        try simp only [Act.put, List.setIfInBounds_toArray, List.set_cons_zero, List.set_cons_succ]
                        refine takeL (i := 7) (v := .bool true) rfl (by kernel_rfl) (by kernel_rfl) (by kernel_rfl) (fun _ _ _ h => h) (Or.inl ⟨by rfl, ?_⟩) hHeld ?_
                        · rintro w' ⟨d0, d1, d2, d3⟩; go_simp; try rfl
                        try simp only [Act.put, List.setIfInBounds_toArray, List.set_cons_zero, List.set_cons_succ]
                        refine takeL (i := 8) (v := ?_) rfl (by kernel_rfl) (by kernel_rfl) (by kernel_rfl) (fun _ _ _ h => h) (Or.inl ⟨by rfl, ?_⟩) hHeld ?_
                        rotate_left
                        · rintro w' ⟨d0, d1, d2, d3⟩; go_simp; rfl
                        try simp only [Act.put, List.setIfInBounds_toArray, List.set_cons_zero, List.set_cons_succ]
                        refine takeL (i := 9) (v := ?_) rfl (by kernel_rfl) (by kernel_rfl) (by kernel_rfl) (fun _ _ _ h => h) (Or.inl ⟨by kernel_rfl, ?_⟩) hHeld ?_
                        rotate_left
                        · rintro w' ⟨d0, d1, d2, d3⟩; go_simp; rfl
                        try simp only [Act.put, List.setIfInBounds_toArray, List.set_cons_zero, List.set_cons_succ]
                        refine takeL (i := 10) (v := ?_) rfl (by kernel_rfl) (by kernel_rfl) (by kernel_rfl) (fun _ _ _ h => h) (Or.inl ⟨by kernel_rfl, ?_⟩) hHeld ?_
                        rotate_left
                        · rintro w' ⟨d0, d1, d2, d3⟩; go_simp; rfl
                        try simp only [Act.put, List.setIfInBounds_toArray, List.set_cons_zero, List.set_cons_succ]
                        refine takeL (i := 11) (v := ?_) rfl (by kernel_rfl) (by kernel_rfl) (by kernel_rfl) (fun _ _ _ h => h) (Or.inl ⟨by kernel_rfl, ?_⟩) hHeld ?_
                        rotate_left
                        · rintro w' ⟨d0, d1, d2, d3⟩; go_simp; rfl
                        try simp only [Act.put, List.setIfInBounds_toArray, List.set_cons_zero, List.set_cons_succ]
                        refine takeL (i := 12) (v := ?_) rfl (by kernel_rfl) (by kernel_rfl) (by kernel_rfl) (fun _ _ _ h => h) (Or.inl ⟨by kernel_rfl, ?_⟩) hHeld ?_
                        rotate_left
                        · rintro w' ⟨d0, d1, d2, d3⟩; go_simp; rfl
                        try simp only [Act.put, List.setIfInBounds_toArray, List.set_cons_zero, List.set_cons_succ]
                        refine takeL (i := 13) (v := ?_) rfl (by kernel_rfl) (by kernel_rfl) (by kernel_rfl) (fun _ _ _ h => h) (Or.inl ⟨by kernel_rfl, ?_⟩) hHeld ?_
                        rotate_left
                        · rintro w' ⟨d0, d1, d2, d3⟩; go_simp; rfl
                        try simp only [Act.put, List.setIfInBounds_toArray, List.set_cons_zero, List.set_cons_succ]
                        refine takeL (i := 14) (v := ?_) rfl (by kernel_rfl) (by kernel_rfl) (by kernel_rfl) (fun _ _ _ h => h) (Or.inl ⟨by kernel_rfl, ?_⟩) hHeld ?_
                        rotate_left
                        · rintro w' ⟨d0, d1, d2, d3⟩; go_simp; rfl
                        try simp only [Act.put, List.setIfInBounds_toArray, List.set_cons_zero, List.set_cons_succ]
                        refine takeL (i := 15) (v := ?_) rfl (by kernel_rfl) (by kernel_rfl) (by kernel_rfl) (fun _ _ _ h => h) (Or.inl ⟨by kernel_rfl, ?_⟩) hHeld ?_
                        rotate_left
                        · rintro w' ⟨d0, d1, d2, d3⟩; go_simp; rfl
                        try simp only [Act.put, List.setIfInBounds_toArray, List.set_cons_zero, List.set_cons_succ]
                        refine takeL (i := 16) (v := .bool false) rfl (by kernel_rfl) (by kernel_rfl) (by kernel_rfl) (fun _ _ _ h => h) (Or.inl ⟨by kernel_rfl, ?_⟩) hHeld ?_
                        · rintro w' ⟨d0, d1, d2, d3⟩; go_simp; try rfl
                        try simp only [Act.put, List.setIfInBounds_toArray, List.set_cons_zero, List.set_cons_succ]
                        refine takeL (i := 17) (v := ?_) rfl (by kernel_rfl) (by kernel_rfl) (by kernel_rfl) (fun _ _ _ h => h) (Or.inl ⟨by kernel_rfl, ?_⟩) hHeld ?_
                        rotate_left
                        · rintro w' ⟨d0, d1, d2, d3⟩; go_simp; rfl
                        try simp only [Act.put, List.setIfInBounds_toArray, List.set_cons_zero, List.set_cons_succ]
                        refine takeL (i := 18) (v := ?_) rfl (by kernel_rfl) (by kernel_rfl) (by kernel_rfl) (fun _ _ _ h => h) (Or.inl ⟨by kernel_rfl, ?_⟩) hHeld ?_
                        rotate_left
                        · rintro w' ⟨d0, d1, d2, d3⟩; go_simp; rfl
                        try simp only [Act.put, List.setIfInBounds_toArray, List.set_cons_zero, List.set_cons_succ]
                        refine takeL (i := 19) (v := ?_) rfl (by kernel_rfl) (by kernel_rfl) (by kernel_rfl) (fun _ _ _ h => h) (Or.inl ⟨by kernel_rfl, ?_⟩) hHeld ?_
                        rotate_left
                        · rintro w' ⟨d0, d1, d2, d3⟩; go_simp; rfl
                        try simp only [Act.put, List.setIfInBounds_toArray, List.set_cons_zero, List.set_cons_succ]
                        refine takeL (i := 20) (v := ?_) rfl (by kernel_rfl) (by kernel_rfl) (by kernel_rfl) (fun _ _ _ h => h) (Or.inl ⟨by kernel_rfl, ?_⟩) hHeld ?_
                        rotate_left
                        · rintro w' ⟨d0, d1, d2, d3⟩; go_simp; rfl
                        try simp only [Act.put, List.setIfInBounds_toArray, List.set_cons_zero, List.set_cons_succ]
                        refine takeL (i := 21) (v := ?_) rfl (by kernel_rfl) (by kernel_rfl) (by kernel_rfl) (fun _ _ _ h => h) (Or.inl ⟨by kernel_rfl, ?_⟩) hHeld ?_
                        rotate_left
                        · rintro w' ⟨d0, d1, d2, d3⟩; go_simp; rfl
                        try simp only [Act.put, List.setIfInBounds_toArray, List.set_cons_zero, List.set_cons_succ]
                        refine takeL (i := 22) (v := ?_) rfl (by kernel_rfl) (by kernel_rfl) (by kernel_rfl) (fun _ _ _ h => h) (Or.inl ⟨by kernel_rfl, ?_⟩) hHeld ?_
                        rotate_left
                        · rintro w' ⟨d0, d1, d2, d3⟩; go_simp; rfl
                        try simp only [Act.put, List.setIfInBounds_toArray, List.set_cons_zero, List.set_cons_succ]
                        refine takeL (i := 23) (v := .bool false) rfl (by kernel_rfl) (by kernel_rfl) (by kernel_rfl) (fun _ _ _ h => h) (Or.inl ⟨by kernel_rfl, ?_⟩) hHeld ?_
                        · rintro w' ⟨d0, d1, d2, d3⟩; go_simp; try rfl
                        try simp only [Act.put, List.setIfInBounds_toArray, List.set_cons_zero, List.set_cons_succ]
                        refine takeL (i := 24) (v := .bool false) rfl (by kernel_rfl) (by kernel_rfl) (by kernel_rfl) (fun _ _ _ h => h) (Or.inl ⟨by kernel_rfl, ?_⟩) hHeld ?_
                        · rintro w' ⟨d0, d1, d2, d3⟩; go_simp; try rfl
                        try simp only [Act.put, List.setIfInBounds_toArray, List.set_cons_zero, List.set_cons_succ]
                        refine takeL (i := 25) (v := ?_) rfl (by kernel_rfl) (by kernel_rfl) (by kernel_rfl) (fun _ _ _ h => h) (Or.inl ⟨by kernel_rfl, ?_⟩) hHeld ?_
                        rotate_left
                        · rintro w' ⟨d0, d1, d2, d3⟩; go_simp; rfl
                        try simp only [Act.put, List.setIfInBounds_toArray, List.set_cons_zero, List.set_cons_succ]
                        refine takeL (i := 26) (v := ?_) rfl (by kernel_rfl) (by kernel_rfl) (by kernel_rfl) (fun _ _ _ h => h) (Or.inl ⟨by kernel_rfl, ?_⟩) hHeld ?_
                        rotate_left
                        · rintro w' ⟨d0, d1, d2, d3⟩; go_simp; rfl
                        try simp only [Act.put, List.setIfInBounds_toArray, List.set_cons_zero, List.set_cons_succ]
                        refine takeL (i := 27) (v := ?_) rfl (by kernel_rfl) (by kernel_rfl) (by kernel_rfl) (fun _ _ _ h => h) (Or.inl ⟨by kernel_rfl, ?_⟩) hHeld ?_
                        rotate_left
                        · rintro w' ⟨d0, d1, d2, d3⟩; go_simp; rfl
                        try simp only [Act.put, List.setIfInBounds_toArray, List.set_cons_zero, List.set_cons_succ]
                        refine takeL (i := 28) (v := .bool false) rfl (by kernel_rfl) (by kernel_rfl) (by kernel_rfl) (fun _ _ _ h => h) (Or.inl ⟨by kernel_rfl, ?_⟩) hHeld ?_
                        · rintro w' ⟨d0, d1, d2, d3⟩; go_simp; try rfl
                        try simp only [Act.put, List.setIfInBounds_toArray, List.set_cons_zero, List.set_cons_succ]
                        refine takeL (i := 29) (v := .bool false) rfl (by kernel_rfl) (by kernel_rfl) (by kernel_rfl) (fun _ _ _ h => h) (Or.inl ⟨by kernel_rfl, ?_⟩) hHeld ?_
                        · rintro w' ⟨d0, d1, d2, d3⟩; go_simp; try rfl
                        try simp only [Act.put, List.setIfInBounds_toArray, List.set_cons_zero, List.set_cons_succ]
                        refine takeL (i := 30) (v := .bool false) rfl (by kernel_rfl) (by kernel_rfl) (by kernel_rfl) (fun _ _ _ h => h) (Or.inl ⟨by rfl, ?_⟩) hHeld ?_
                        · rintro w' ⟨d0, d1, d2, d3⟩; go_simp; try rfl
                        try simp only [Act.put, List.setIfInBounds_toArray, List.set_cons_zero, List.set_cons_succ]
                        refine wpAnyH_done (by kernel_rfl) ?_ _
                        clear hHeld
                        go_wp2
                        go_roundg (i - (k + 1))
                        case measure => omega
                        case rel => exact ⟨k + 1, by go_num, by omega, rfl, HNB2, HBD, HBGd⟩
                · have hbq : (Y.toList == X.toList) = false := by
                    cases hq : (Y.toList == X.toList) with
                    | false => rfl
                    | true => exact absurd (by
                        have h1 := eq_of_beq hq
                        rw [← HXX.out, ← HYY.out] at h1 ⊢
                        have h2 : ∀ t : Str, (⟨t.toArray⟩ : ByteArray).toList = t := fun t => by simp
                        rw [h2, h2] at h1
                        rw [h1]) hxy
                  have HNB2 : Hid (∀ j, j < k + 1 → ¬ bad2 (l.getD j dY) x) := hid (fun j hj hb => by
                    by_cases e : j = k
                    · subst e
                      rw [HZ.out] at hb
                      exact hxy (HPE.out.1 hb.1)
                    · exact HNB.out j (by omega) hb)
                  clear hxy
                  refine takeL (i := 0) (v := ?_) rfl (by kernel_rfl) (by kernel_rfl) (by kernel_rfl) (fun _ _ _ h => h) (Or.inl ⟨by rfl, ?_⟩) hHeld ?_
                  rotate_left
                  · rintro w' ⟨d0, d1, d2, d3⟩; go_simp; rfl
                  try simp only [Act.put, List.setIfInBounds_toArray, List.set_cons_zero, List.set_cons_succ]
                  refine takeL (i := 1) (v := ?_) rfl (by kernel_rfl) (by kernel_rfl) (by kernel_rfl) (fun _ _ _ h => h) (Or.inl ⟨by rfl, ?_⟩) hHeld ?_
                  rotate_left
                  · rintro w' ⟨d0, d1, d2, d3⟩; go_simp; rfl
                  try simp only [Act.put, List.setIfInBounds_toArray, List.set_cons_zero, List.set_cons_succ]
                  refine takeL (i := 2) (v := ?_) rfl (by kernel_rfl) (by kernel_rfl) (by kernel_rfl) (fun _ _ _ h => h) (Or.inl ⟨by rfl, ?_⟩) hHeld ?_
                  rotate_left
                  · rintro w' ⟨d0, d1, d2, d3⟩; go_simp; rfl
                  try simp only [Act.put, List.setIfInBounds_toArray, List.set_cons_zero, List.set_cons_succ]
                  refine takeL (i := 3) (v := ?_) rfl (by kernel_rfl) (by kernel_rfl) (by kernel_rfl) (fun _ _ _ h => h) (Or.inl ⟨by rfl, ?_⟩) hHeld ?_
                  rotate_left
                  · rintro w' ⟨d0, d1, d2, d3⟩; go_simp; rfl
                  try simp only [Act.put, List.setIfInBounds_toArray, List.set_cons_zero, List.set_cons_succ]
                  refine takeL (i := 4) (v := ?_) rfl (by kernel_rfl) (by kernel_rfl) (by kernel_rfl) (fun _ _ _ h => h) (Or.inl ⟨by rfl, ?_⟩) hHeld ?_
                  rotate_left
                  · rintro w' ⟨d0, d1, d2, d3⟩; go_simp; rfl
                  try simp only [Act.put, List.setIfInBounds_toArray, List.set_cons_zero, List.set_cons_succ]
                  refine takeL (i := 5) (v := ?_) rfl (by kernel_rfl) (by kernel_rfl) (by kernel_rfl) (fun _ _ _ h => h) (Or.inl ⟨by rfl, ?_⟩) hHeld ?_
                  rotate_left
                  · rintro w' ⟨d0, d1, d2, d3⟩; go_simp; rfl
                  try simp only [Act.put, List.setIfInBounds_toArray, List.set_cons_zero, List.set_cons_succ]
                  refine takeL (i := 6) (v := ?_) rfl (by kernel_rfl) (by kernel_rfl) (by kernel_rfl) (fun _ _ _ h => h) (Or.inl ⟨by rfl, ?_⟩) hHeld ?_
                  rotate_left
                  · rintro w' ⟨d0, d1, d2, d3⟩; go_simp; rfl
                  try simp only [Act.put, List.setIfInBounds_toArray, List.set_cons_zero, List.set_cons_succ]
                  refine takeL (i := 7) (v := .bool false) rfl (by kernel_rfl) (by kernel_rfl) (by kernel_rfl) (fun _ _ _ h => h) (Or.inl ⟨by rfl, ?_⟩) hHeld ?_
                  · rintro w' ⟨d0, d1, d2, d3⟩; go_simp; try rfl
                  try simp only [Act.put, List.setIfInBounds_toArray, List.set_cons_zero, List.set_cons_succ]
                  refine takeL (i := 8) (v := ?_) rfl (by kernel_rfl) (by kernel_rfl) (by kernel_rfl) (fun _ _ _ h => h) (Or.inl ⟨by rfl, ?_⟩) hHeld ?_
                  rotate_left
                  · rintro w' ⟨d0, d1, d2, d3⟩; go_simp; rfl
                  try simp only [Act.put, List.setIfInBounds_toArray, List.set_cons_zero, List.set_cons_succ]
                  refine takeL (i := 9) (v := undef) rfl (by kernel_rfl) (by kernel_rfl) (by kernel_rfl) (fun _ _ _ h => h) (Or.inr ⟨by kernel_rfl, rfl⟩) hHeld ?_
                  try simp only [Act.put, List.setIfInBounds_toArray, List.set_cons_zero, List.set_cons_succ]
                  refine takeL (i := 10) (v := undef) rfl (by kernel_rfl) (by kernel_rfl) (by kernel_rfl) (fun _ _ _ h => h) (Or.inr ⟨by kernel_rfl, rfl⟩) hHeld ?_
                  try simp only [Act.put, List.setIfInBounds_toArray, List.set_cons_zero, List.set_cons_succ]
                  refine takeL (i := 11) (v := undef) rfl (by kernel_rfl) (by kernel_rfl) (by kernel_rfl) (fun _ _ _ h => h) (Or.inr ⟨by kernel_rfl, rfl⟩) hHeld ?_
                  try simp only [Act.put, List.setIfInBounds_toArray, List.set_cons_zero, List.set_cons_succ]
                  refine takeL (i := 12) (v := undef) rfl (by kernel_rfl) (by kernel_rfl) (by kernel_rfl) (fun _ _ _ h => h) (Or.inr ⟨by kernel_rfl, rfl⟩) hHeld ?_
                  try simp only [Act.put, List.setIfInBounds_toArray, List.set_cons_zero, List.set_cons_succ]
                  refine takeL (i := 13) (v := undef) rfl (by kernel_rfl) (by kernel_rfl) (by kernel_rfl) (fun _ _ _ h => h) (Or.inr ⟨by kernel_rfl, rfl⟩) hHeld ?_
                  try simp only [Act.put, List.setIfInBounds_toArray, List.set_cons_zero, List.set_cons_succ]
                  refine takeL (i := 14) (v := undef) rfl (by kernel_rfl) (by kernel_rfl) (by kernel_rfl) (fun _ _ _ h => h) (Or.inr ⟨by kernel_rfl, rfl⟩) hHeld ?_
                  try simp only [Act.put, List.setIfInBounds_toArray, List.set_cons_zero, List.set_cons_succ]
                  refine takeL (i := 15) (v := undef) rfl (by kernel_rfl) (by kernel_rfl) (by kernel_rfl) (fun _ _ _ h => h) (Or.inr ⟨by kernel_rfl, rfl⟩) hHeld ?_
                  try simp only [Act.put, List.setIfInBounds_toArray, List.set_cons_zero, List.set_cons_succ]
                  refine takeL (i := 16) (v := undef) rfl (by kernel_rfl) (by kernel_rfl) (by kernel_rfl) (fun _ _ _ h => h) (Or.inr ⟨by kernel_rfl, rfl⟩) hHeld ?_
                  try simp only [Act.put, List.setIfInBounds_toArray, List.set_cons_zero, List.set_cons_succ]
                  refine takeL (i := 17) (v := undef) rfl (by kernel_rfl) (by kernel_rfl) (by kernel_rfl) (fun _ _ _ h => h) (Or.inr ⟨by kernel_rfl, rfl⟩) hHeld ?_
                  try simp only [Act.put, List.setIfInBounds_toArray, List.set_cons_zero, List.set_cons_succ]
                  refine takeL (i := 18) (v := undef) rfl (by kernel_rfl) (by kernel_rfl) (by kernel_rfl) (fun _ _ _ h => h) (Or.inr ⟨by kernel_rfl, rfl⟩) hHeld ?_
                  try simp only [Act.put, List.setIfInBounds_toArray, List.set_cons_zero, List.set_cons_succ]
                  refine takeL (i := 19) (v := undef) rfl (by kernel_rfl) (by kernel_rfl) (by kernel_rfl) (fun _ _ _ h => h) (Or.inr ⟨by kernel_rfl, rfl⟩) hHeld ?_
                  try simp only [Act.put, List.setIfInBounds_toArray, List.set_cons_zero, List.set_cons_succ]
                  refine takeL (i := 20) (v := undef) rfl (by kernel_rfl) (by kernel_rfl) (by kernel_rfl) (fun _ _ _ h => h) (Or.inr ⟨by kernel_rfl, rfl⟩) hHeld ?_
                  try simp only [Act.put, List.setIfInBounds_toArray, List.set_cons_zero, List.set_cons_succ]
                  refine takeL (i := 21) (v := undef) rfl (by kernel_rfl) (by kernel_rfl) (by kernel_rfl) (fun _ _ _ h => h) (Or.inr ⟨by kernel_rfl, rfl⟩) hHeld ?_
                  try simp only [Act.put, List.setIfInBounds_toArray, List.set_cons_zero, List.set_cons_succ]
                  refine takeL (i := 22) (v := undef) rfl (by kernel_rfl) (by kernel_rfl) (by kernel_rfl) (fun _ _ _ h => h) (Or.inr ⟨by kernel_rfl, rfl⟩) hHeld ?_
                  try simp only [Act.put, List.setIfInBounds_toArray, List.set_cons_zero, List.set_cons_succ]
                  refine takeL (i := 23) (v := undef) rfl (by kernel_rfl) (by kernel_rfl) (by kernel_rfl) (fun _ _ _ h => h) (Or.inr ⟨by kernel_rfl, rfl⟩) hHeld ?_
                  try simp only [Act.put, List.setIfInBounds_toArray, List.set_cons_zero, List.set_cons_succ]
                  refine takeL (i := 24) (v := undef) rfl (by kernel_rfl) (by kernel_rfl) (by kernel_rfl) (fun _ _ _ h => h) (Or.inr ⟨by kernel_rfl, rfl⟩) hHeld ?_
                  try simp only [Act.put, List.setIfInBounds_toArray, List.set_cons_zero, List.set_cons_succ]
                  refine takeL (i := 25) (v := undef) rfl (by kernel_rfl) (by kernel_rfl) (by kernel_rfl) (fun _ _ _ h => h) (Or.inr ⟨by kernel_rfl, rfl⟩) hHeld ?_
                  try simp only [Act.put, List.setIfInBounds_toArray, List.set_cons_zero, List.set_cons_succ]
                  refine takeL (i := 26) (v := undef) rfl (by kernel_rfl) (by kernel_rfl) (by kernel_rfl) (fun _ _ _ h => h) (Or.inr ⟨by kernel_rfl, rfl⟩) hHeld ?_
                  try simp only [Act.put, List.setIfInBounds_toArray, List.set_cons_zero, List.set_cons_succ]
                  refine takeL (i := 27) (v := undef) rfl (by kernel_rfl) (by kernel_rfl) (by kernel_rfl) (fun _ _ _ h => h) (Or.inr ⟨by kernel_rfl, rfl⟩) hHeld ?_
                  try simp only [Act.put, List.setIfInBounds_toArray, List.set_cons_zero, List.set_cons_succ]
                  refine takeL (i := 28) (v := undef) rfl (by kernel_rfl) (by kernel_rfl) (by kernel_rfl) (fun _ _ _ h => h) (Or.inr ⟨by kernel_rfl, rfl⟩) hHeld ?_
                  try simp only [Act.put, List.setIfInBounds_toArray, List.set_cons_zero, List.set_cons_succ]
                  refine takeL (i := 29) (v := undef) rfl (by kernel_rfl) (by kernel_rfl) (by kernel_rfl) (fun _ _ _ h => h) (Or.inr ⟨by kernel_rfl, rfl⟩) hHeld ?_
                  try simp only [Act.put, List.setIfInBounds_toArray, List.set_cons_zero, List.set_cons_succ]
                  refine takeL (i := 30) (v := .bool false) rfl (by kernel_rfl) (by kernel_rfl) (by kernel_rfl) (fun _ _ _ h => h) (Or.inl ⟨by rfl, ?_⟩) hHeld ?_
                  · rintro w' ⟨d0, d1, d2, d3⟩; go_simp; try rfl
                  try simp only [Act.put, List.setIfInBounds_toArray, List.set_cons_zero, List.set_cons_succ]
                  refine wpAnyH_done (by kernel_rfl) ?_ _
                  clear hHeld
                  go_wp2
                  go_roundg (i - (k + 1))
                  case measure => omega
                  case rel => exact ⟨k + 1, by go_num, by omega, rfl, HNB2, HBD, HBGd⟩
              · have hklI : ¬ (k : Int) < (i : Int) := by omega
                have HPA2 : Hid ((l.take (i + 1)).Pairwise (fun x y => ¬ bad2 x y)) := hid (pair_snoc l i x HT.out HPA.out (fun j hj => HNB.out j (by omega)))
                go_wp2
                go_roundg (n - (i + 1))
                case measure => omega
                case rel => exact ⟨i + 1, by go_num, by omega, rfl, HF2, HPA2, HBq⟩
          · have HC : Hid (¬ (l.length ≤ 2000 ∧ okFs l)) := hid (fun h => hf (h.2.1 x HM.out))
            have HBF : Hid (Below w.heap.size w W) := hid (by rw [HG.out]; exact HBW.out)
            have hor : ((x.mode ≠ 33188 ∧ x.mode ≠ 33261 ∧ x.mode ≠ 40960) ∨ (x.mode = 33188 ∨ x.mode = 33261 ∨ x.mode = 40960) ∧ (x.size < 0 ∨ (¬ x.size < 0 ∧ 100000 < x.size) ∨ (¬ x.size < 0 ∧ ¬ 100000 < x.size ∧ x.stage < 0) ∨ (¬ x.size < 0 ∧ ¬ 100000 < x.size ∧ ¬ x.stage < 0 ∧ 3 < x.stage))) := by
              by_cases hm : x.mode = 33188 ∨ x.mode = 33261 ∨ x.mode = 40960
              · refine .inr ⟨hm, ?_⟩
                have h5 : ¬ (0 ≤ x.size ∧ x.size ≤ 100000 ∧ 0 ≤ x.stage ∧ x.stage ≤ 3) := fun h => hf ⟨hm, h⟩
                omega
              · left; omega
            have HOR := hid hor
            clear hf hor
            go_wp2_with (first | (refine wpList_load_mid rfl 48 _ rfl b (off + i * 24) rfl (encY x) _ HRow.out Tryz.underlying48 rfl (by rw [encY_len x HW.out]; exact info48) ?_) | (refine wpList_store_new rfl 48 _ _ rfl _ (encY x).toArray rfl rfl (by rw [HCY.out.size]; exact info48) (by rw [HCY.out.size]; rfl) HCY.out.one ?_; rw [al]; refine wpList_nil ?_; simp only [Exit.then, Act.put]; rename_i K1 hK1; refine hK1 _ _ ?_; refine Hid.out ?_))
            refine hid ?_
            rw [HGG.out] at k0 k1 k2 k3 ⊢
            rcases HOR.out with ⟨e1, e2, e3⟩ | ⟨e, hq⟩
            · have hb1 : (x.mode != 33188) = true := by simp [e1]
              have hb2 : (x.mode != 33261) = true := by simp [e2]
              have hb3 : (x.mode != 40960) = true := by simp [e3]
              clear e1 e2 e3
              go_wp2
              go_ret
              exact ⟨HBF.out, .inr (.inl ⟨HPs.out, HC.out, rfl⟩)⟩
            · rcases e with e | e | e
              · have hb1 : (x.mode != 33188) = false := by simp [e]
                clear e
                rcases hq with q | ⟨q1, q⟩ | ⟨q1, q2, q⟩ | ⟨q1, q2, q3, q⟩
                all_goals
                  go_wp2
                  go_ret
                  exact ⟨HBF.out, .inr (.inl ⟨HPs.out, HC.out, rfl⟩)⟩
              · have hb1 : (x.mode != 33188) = true := by simp [e]
                have hb2 : (x.mode != 33261) = false := by simp [e]
                clear e
                rcases hq with q | ⟨q1, q⟩ | ⟨q1, q2, q⟩ | ⟨q1, q2, q3, q⟩
                all_goals
                  go_wp2
                  go_ret
                  exact ⟨HBF.out, .inr (.inl ⟨HPs.out, HC.out, rfl⟩)⟩
              · have hb1 : (x.mode != 33188) = true := by simp [e]
                have hb2 : (x.mode != 33261) = true := by simp [e]
                have hb3 : (x.mode != 40960) = false := by simp [e]
                clear e
                rcases hq with q | ⟨q1, q⟩ | ⟨q1, q2, q⟩ | ⟨q1, q2, q3, q⟩
                all_goals
                  go_wp2
                  go_ret
                  exact ⟨HBF.out, .inr (.inl ⟨HPs.out, HC.out, rfl⟩)⟩
        · have hlti : ¬ (i : Int) < (n : Int) := by omega
          have HFs : Hid (okFs l) := hid (by
            have h1 := HF.out
            have h2 := HPA.out
            rw [List.take_of_length_le (by rw [HN.out]; omega)] at h1 h2
            exact ⟨h1, h2⟩)
          have HBl : Hid (Below w.heap.size w wr) := hid (by rw [HG.out]; exact HB.out)
          clear HF HPA hko
          go_wp2_with fail
          go_loopg [8] n (fun gg iv wq => wr = wq ∧ ∃ i : Nat, iv = .int .i64 i ∧ i ≤ n ∧ gg = n - i ∧ Hid (∀ j, j < i → ∀ y ∈ l, ¬ dirOf (l.getD j dY) y))
          case atStart => exact ⟨rfl, 0, rfl, Nat.zero_le _, rfl, hid (fun j h => by omega)⟩
          case round =>
            clear hlti hlt hi
            obtain ⟨rfl, i, rfl, hi, hk, HD⟩ := hrel
            by_cases hlt : i < n
            · have hlti : (i : Int) < (n : Int) := by omega
              obtain ⟨b, off, hae⟩ := HFA.out (by omega)
              subst hae
              obtain ⟨x, HX⟩ : ∃ x, Hid (l.getD i dY = x) := ⟨_, rfl⟩
              have HM : Hid (x ∈ l) := hid (by rw [← HX.out]; exact getD_mem l i dY (by rw [HN.out]; exact hlt))
              obtain ⟨X, HXX⟩ : ∃ S : ByteArray, Hid (⟨x.path.toArray⟩ = S) := ⟨_, rfl⟩
              obtain ⟨A, HA⟩ : ∃ S : ByteArray, Hid ((⟨List.toArray (x.path ++ [47])⟩ : ByteArray) = S) := ⟨_, hid rfl⟩
              obtain ⟨m, HMm⟩ : ∃ m : Nat, Hid (List.length (x.path ++ [47]) = m) := ⟨_, hid rfl⟩
              have hAs : A.size = m := by rw [← HA.out, txt_len]; exact HMm.out
              have hm : m ≤ 101 := by
                rw [← HMm.out]
                have := (HPs.out x HM.out).1
                simp
                omega
              have c0 : wr.cell? ⟨b, off + i * 24, none⟩ = some (.string X) := by rw [← HXX.out, ← HX.out]; exact ((HPW.out wr HB.out).cells i (by rw [HN.out]; exact hlt) HWY.out).1
              have hcat : X ++ (⟨#[47]⟩ : ByteArray) = A := by rw [← HXX.out, ← HA.out]; exact str_app x.path [47]
              have hXs : X.size ≤ 100 := by rw [← HXX.out, txt_len]; exact (HPs.out x HM.out).1
              go_wp2_with fail
              go_loopg [9] n (fun gg kv wq => wr = wq ∧ ∃ k : Nat, kv = .int .i64 k ∧ k ≤ n ∧ gg = n - k ∧ Hid (∀ j, j < k → ¬ dirOf x (l.getD j dY)))
              case atStart => exact ⟨rfl, 0, rfl, Nat.zero_le _, rfl, hid (fun j h => by omega)⟩
              case round =>
                obtain ⟨rfl, k, rfl, hkn, hk2, HDk⟩ := hrel
                by_cases hkl : k < n
                · have hklI : (k : Int) < (n : Int) := by omega
                  obtain ⟨z, HZ⟩ : ∃ z, Hid (l.getD k dY = z) := ⟨_, rfl⟩
                  have HMz : Hid (z ∈ l) := hid (by rw [← HZ.out]; exact getD_mem l k dY (by rw [HN.out]; exact hkl))
                  obtain ⟨Y, HYY⟩ : ∃ S : ByteArray, Hid (⟨z.path.toArray⟩ = S) := ⟨_, rfl⟩
                  obtain ⟨p, HPp⟩ : ∃ p, Hid (z.path.length = p) := ⟨_, rfl⟩
                  have hYs : Y.size = p := by rw [← HYY.out, txt_len]; exact HPp.out
                  have d0 : wr.cell? ⟨b, off + k * 24, none⟩ = some (.string Y) := by rw [← HYY.out, ← HZ.out]; exact ((HPW.out wr HB.out).cells k (by rw [HN.out]; exact hkl) HWY.out).1
                  by_cases hmp : m < p
                  · have hmpI : (m : Int) < (p : Int) := by omega
                    obtain ⟨F, HF⟩ : ∃ S : ByteArray, Hid (⟨(z.path.take m).toArray⟩ = S) := ⟨_, rfl⟩
                    have hsl : ∀ w1 : World, (Instr.slice 9 (.string Y) none (some (.int .i64 m)) none).run Tryz.prog w1 = .ok (.string F) w1 := fun w1 => by rw [← HYY.out, ← HF.out]; exact slc_to z.path m (by rw [HPp.out]; omega) w1
                    by_cases hq : z.path.take m = x.path ++ [47]
                    · have hbq : (F.toList == A.toList) = true := by rw [← HF.out, ← HA.out, hq]; simp
                      have HC : Hid (¬ okDs l) := hid (fun h => h x HM.out z HMz.out ((dir_iff x z).2 ⟨by rw [HMm.out, HPp.out]; exact hmp, by rw [HMm.out]; exact hq⟩))
                      clear hq
                      go_wp2
                      go_ret
                      exact ⟨HBl.out, .inr (.inr (.inl ⟨HPs.out, HL2.out, HFs.out, HC.out, rfl⟩))⟩
                    · have hbq : (F.toList == A.toList) = false := bne_txt HF.out HA.out hq
                      have HDk2 : Hid (∀ j, j < k + 1 → ¬ dirOf x (l.getD j dY)) := hid (fun j hj hb => by
                        by_cases e : j = k
                        · subst e
                          rw [HZ.out] at hb
                          have := ((dir_iff x z).1 hb).2
                          rw [HMm.out] at this
                          exact hq this
                        · exact HDk.out j (by omega) hb)
                      clear hq
                      go_wp2
                      go_roundg (n - (k + 1))
                      case measure => omega
                      case rel => exact ⟨rfl, k + 1, by go_num, by omega, rfl, HDk2⟩
                  · have hmpI : ¬ (m : Int) < (p : Int) := by omega
                    have HDk2 : Hid (∀ j, j < k + 1 → ¬ dirOf x (l.getD j dY)) := hid (fun j hj hb => by
                      by_cases e : j = k
                      · subst e
                        rw [HZ.out] at hb
                        have := ((dir_iff x z).1 hb).1
                        rw [HMm.out, HPp.out] at this
                        exact hmp this
                      · exact HDk.out j (by omega) hb)
                    go_wp2
                    go_roundg (n - (k + 1))
                    case measure => omega
                    case rel => exact ⟨rfl, k + 1, by go_num, by omega, rfl, HDk2⟩
                · have hklI : ¬ (k : Int) < (n : Int) := by omega
                  have HD2 : Hid (∀ j, j < i + 1 → ∀ y ∈ l, ¬ dirOf (l.getD j dY) y) := hid (fun j hj y hy hb => by
                    by_cases e : j = i
                    · subst e
                      rw [HX.out] at hb
                      obtain ⟨q, hq, rfl⟩ := List.getElem_of_mem hy
                      refine HDk.out q (by rw [HN.out] at hq; omega) ?_
                      rw [List.getD_eq_getElem?_getD, List.getElem?_eq_getElem hq]
                      exact hb
                    · exact HD.out j (by omega) y hy hb)
                  go_wp2
                  go_roundg (n - (i + 1))
                  case measure => omega
                  case rel => exact ⟨rfl, i + 1, by go_num, by omega, rfl, HD2⟩
            · have hlti : ¬ (i : Int) < (n : Int) := by omega
              have HC : Hid (okDs l) := hid (fun x hx y hy hb => by
                obtain ⟨q, hq, rfl⟩ := List.getElem_of_mem hx
                refine HD.out q (by rw [HN.out] at hq; omega) y hy ?_
                rw [List.getD_eq_getElem?_getD, List.getElem?_eq_getElem hq]
                exact hb)
              go_wp2
              go_ret
              exact ⟨HBl.out, .inr (.inr (.inr ⟨HPs.out, HL2.out, HFs.out, HC.out, rfl⟩))⟩
end Go.Proofs.YtcicoeneemnbiaaGreatDoor
