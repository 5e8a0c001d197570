/- 'Inflate', with a number below 0. -/
import Derived.Test.YtbiibhpknflagaaDoorInfB
namespace Go.Proofs.YtbiibhpknflagaaDoor
open Go.RowKit Plain
set_option linter.unusedVariables false
set_option linter.unusedSimpArgs false

set_option maxRecDepth 20000 in
set_option maxHeartbeats 1000000 in
theorem inflate_neg (ib io cap : Nat) (zs : List Int) (most : Int) (w : World) (hz : IsB zs) (hl : zs.length ≤ 400000) (hc : zs.length ≤ cap) (hat : At w ib io zs) (hib : ib < w.heap.size) (hm0 : most < 0) (ht : TabsW w) :
    Calls Tryd.prog 13 #[.slice (some ⟨ib, io, none⟩) zs.length cap, .int .i64 most] w (PostI w.heap.size w (inflOf zs (max most 0))) := by
  obtain ⟨r, HR0⟩ : ∃ r, Hid (inflOf zs (max most 0) = r) := ⟨_, rfl⟩
  rw [HR0.out]
  have hmf : ∀ (fn : Fn) (first cap : Array Value) (w : World), (Instr.makeFunc fn first cap).run Tryd.prog w = .ok (.func fn first cap) w := fun _ _ _ _ => rfl
  have hmx : max most 0 = 0 := by omega
  rw [hmx] at HR0
  have hb1 := world1_below w ib io zs.length cap 0
  obtain ⟨ec, ez⟩ := world1_err w ib io zs.length cap 0
  have hst := world1_str w ib io cap zs 0 hib hat
  go_enter_defers Tryd.func13, Tryd.ntmps13
  go_wp2_with fail
  rw [show (w.alloc (Obj.cells #[Value.nilIface] 29)).alloc (Obj.cells #[Value.slice (some ⟨ib, io, none⟩) zs.length cap, Value.int IntKind.i64 0, Value.int IntKind.i64 0, Value.int IntKind.i64 0, Value.slice none 0 0, Value.int IntKind.i64 0, Value.int IntKind.i64 0] 42) = world1 w ib io zs.length cap 0 from rfl]
  obtain ⟨w1, HW1⟩ : ∃ w1, Hid (w1 = world1 w ib io zs.length cap 0) := ⟨_, rfl⟩
  obtain ⟨E, HE⟩ : ∃ E, Hid (E = env1 w ib io cap zs 0) := ⟨_, rfl⟩
  rw [← HW1.out] at hb1 ec ez hst ⊢
  rw [← HE.out] at hst
  have hzs : E.zs = zs := by rw [HE.out]; rfl
  have hES : E.S = w.heap.size + 1 := by rw [HE.out]; rfl
  have leave : ∀ (k : Int) (v' : Value) (w2 : World), Kept E.S (.slice none 0 0) v' w1 w2 → w2.cell? ⟨w.heap.size, 0, none⟩ = some .nilIface ∧ w2.frozen? ⟨w.heap.size, 0, none⟩ = false ∧ Below w.heap.size w (w2.setCell ⟨w.heap.size, 0, none⟩ (.iface 32 (.int .i64 k))) := by
    intro k v' w2 K2
    have hs1 := hb1.size
    have hG : w2.heap[w.heap.size]? = w1.heap[w.heap.size]? := K2.block _ (by rw [HW1.out]; simp [world1]; omega) (by omega) (by simp [Value.ownBlock])
    exact ⟨(World.cell?_of_block (a := ⟨w.heap.size, 0, none⟩) hG).trans ec, (World.frozen?_of_block (a := ⟨w.heap.size, 0, none⟩) hG).trans ez, (K2.below hb1 (Nat.le_refl _) (by omega) (by simp [Value.ownBlock])).setCell (Nat.le_refl _) _⟩
  rw [← hES]
  by_cases h2 : E.zs.length < 2
  · obtain rfl : Except.error 10 = r := (inflOf_short (hzs ▸ h2)).symm.trans HR0.out
    refine (readHead_short E (.slice none 0 0) w1 (hzs ▸ hz) (hzs ▸ hl) hst h2).mono ?_
    rintro e w2 ⟨rfl, k2⟩
    obtain ⟨l1, l2, l3⟩ := leave 10 _ w2 (k2.weak _)
    have l4 := World.cell?_setCell_same w2 _ (.iface 32 (.int .i64 10)) l1
    simp only [bodyPostD]
    refine leaves_cons (f := 18) (args := #[.pointer (some ⟨w.heap.size, 0, none⟩)]) (by simp) (by simp [go_sem]) ?_
    refine (catch_panicking ⟨w.heap.size, 0, none⟩ 10 _ [] _ l1 l2).mono ?_
    rintro e u' w'' ⟨rfl, rfl, rfl⟩
    simp [Leaves, settle, results, Tryd.results13, go_sem, l4]
    exact ⟨l3, rfl⟩
  obtain ⟨x, y, rest, hxy⟩ : ∃ x y rest, E.zs = x :: y :: rest := by
    match hq : E.zs, h2 with
    | [], h => simp at h
    | [_], h => simp at h
    | x :: y :: rest, _ => exact ⟨x, y, rest, rfl⟩
  have hin : (if headB x y = true then
      match blocks (x :: y :: rest) 0 ((2 ^ ((x / 16).toNat + 8) : Nat) : Int) 16 [] with
      | .error k => .error k
      | .ok (p, out) => if sumB (x :: y :: rest) p out = true then .ok ((p + 7) / 8 + 4, out) else .error 10
    else (.error 10 : Res)) = r := by rw [← HR0.out, ← hzs, hxy]; rfl
  have HIN : Hid (_ = r) := hin
  clear hin
  refine (readHead_any E x y rest (.slice none 0 0) w1 hxy (hzs ▸ hz) (hzs ▸ hl) hst).mono ?_
  rintro e w2 ⟨k2, hP2⟩
  by_cases hh : headB x y = true
  rotate_left
  · rw [if_neg hh] at hP2
    have hin := HIN.out
    rw [if_neg hh] at hin
    subst hP2 hin
    obtain ⟨l1, l2, l3⟩ := leave 10 _ w2 (k2.weak _)
    have l4 := World.cell?_setCell_same w2 _ (.iface 32 (.int .i64 10)) l1
    simp only [bodyPostD]
    refine leaves_cons (f := 18) (args := #[.pointer (some ⟨w.heap.size, 0, none⟩)]) (by simp) (by simp [go_sem]) ?_
    refine (catch_panicking ⟨w.heap.size, 0, none⟩ 10 _ [] _ l1 l2).mono ?_
    rintro e u' w'' ⟨rfl, rfl, rfl⟩
    simp [Leaves, settle, results, Tryd.results13, go_sem, l4]
    exact ⟨l3, rfl⟩
  rw [if_pos hh] at hP2
  obtain ⟨rfl, hst2⟩ := hP2
  have hin := HIN.out
  rw [if_pos hh] at hin
  have hx7 : (x / 16).toNat ≤ 7 := by
    unfold headB at hh
    simp only [Bool.and_eq_true, decide_eq_true_eq] at hh
    have := hh.1.1.2
    omega
  obtain ⟨W, HW⟩ : ∃ W : Nat, Hid (W = 2 ^ ((x / 16).toNat + 8)) := ⟨_, rfl⟩
  have hW : W ≤ 40000 := by
    have h1 : 2 ^ ((x / 16).toNat + 8) ≤ 2 ^ 15 := Nat.pow_le_pow_right (by omega) (by omega)
    have h2 := HW.out
    omega
  rw [← HW.out] at hin hst2
  rw [← hxy] at hin
  have HIN2 : Hid (_ = r) := hin
  clear hin HIN hx7 HW
  obtain ⟨E2, HE2⟩ : ∃ E2, Hid (E2 = ({ E with win := (W : Int) } : Env)) := ⟨_, rfl⟩
  rw [← HE2.out] at hst2
  have e2S : E2.S = E.S := by rw [HE2.out]
  have e2z : E2.zs = E.zs := by rw [HE2.out]
  have e2c : E2.cap = cap := by rw [HE2.out, HE.out]; rfl
  have e2m : E2.most = 0 := by rw [HE2.out, HE.out]; rfl
  have e2w : E2.win = W := by rw [HE2.out]
  have hz2 : IsB E2.zs := by rw [e2z, hzs]; exact hz
  have hl2 : E2.zs.length ≤ 400000 := by rw [e2z, hzs]; exact hl
  have hc2 : E2.zs.length ≤ E2.cap := by rw [e2z, hzs, e2c]; exact hc
  have K2 : Kept E2.S (.slice none 0 0) (.slice none 0 0) w1 w2 := by rw [e2S]; exact k2.weak _
  have hb2 : Below w.heap.size w w2 := K2.below hb1 (Nat.le_refl _) (by omega) (by simp [Value.ownBlock])
  have T1 : Tabs w1 E2 (.slice none 0 0) := ht.tabs hb1 (by omega)
  have S2 : St w2 E2 w.heap.size 16 (.slice none 0 0) [] := ⟨⟨2, 0, 0, hst2, by omega, by omega, by rw [e2z]; omega, by show 0 = _; rw [getB_zero]⟩, ⟨rfl, .inl ⟨rfl, rfl⟩⟩, (fun x hx => by cases hx), hb2.size, by rw [e2m]; simp⟩
  rw [← e2z, ← e2m, ← e2w] at HIN2
  have hw2 : E2.win ≤ 40000 := by rw [e2w]; omega
  have hw3 : 0 ≤ E2.win := by rw [e2w]; omega
  have hm3 : E2.most ≤ 300000 := by rw [e2m]; omega
  have leave2 : ∀ (k : Int) (v' : Value) (w2 : World), Kept E2.S (.slice none 0 0) v' w1 w2 → w2.cell? ⟨w.heap.size, 0, none⟩ = some .nilIface ∧ w2.frozen? ⟨w.heap.size, 0, none⟩ = false ∧ Below w.heap.size w (w2.setCell ⟨w.heap.size, 0, none⟩ (.iface 32 (.int .i64 k))) := by rw [e2S]; exact leave
  have hS2 : E2.S = w.heap.size + 1 := by rw [e2S, hES]
  obtain ⟨bs, HBS⟩ : ∃ bs, Hid (blocks E2.zs E2.most E2.win 16 [] = bs) := ⟨_, rfl⟩
  rw [HBS.out] at HIN2
  rw [e2S.symm]
  have hG1 : w.heap.size < w1.heap.size := by rw [HW1.out]; simp [world1]; omega
  clear leave hst2 hst k2 HE2 HE HW1 e2S e2c e2m e2w e2z hzs hES ec ez hh h2 hmx HR0 hat hib hc hl hz hxy
  go_wp2_with fail
  go_loopg [8] (8 * E2.zs.length - 16 + 1) (fun k i wr => ∃ (b : Bool) (p' : Nat) (v' : Value) (out' : List Int), i = .bool b ∧ k = (if b = true then 0 else 8 * E2.zs.length - p' + 1) ∧ Hid (if b = true then bs = .ok (p', out') else blocks E2.zs E2.most E2.win p' out' = bs) ∧ Hid (St wr E2 w.heap.size p' v' out') ∧ Hid (Kept E2.S (.slice none 0 0) v' w1 wr))
  case atStart => exact ⟨false, 16, _, [], rfl, by simp, HBS, S2, K2⟩
  case round =>
    clear S2 K2 HBS
    obtain ⟨b, p', v', out', rfl, hk, HB, HS, HK⟩ := hrel
    cases b with
    | false =>
      have hB := HB.out
      simp only [Bool.false_eq_true, if_false] at hB hk
      rw [blocks_eq] at hB
      by_cases hsh : 8 * E2.zs.length < p' + 3
      · rw [if_pos hsh] at hB
        have hin := HIN2.out
        subst hB
        simp only at hin
        subst hin
        go_wp2_with fail
        rw [← hS2]
        refine (readBlock_short E2 p' v' wr hz2 hl2 HS.out.rd hsh).mono ?_
        rintro e w3 ⟨rfl, k3⟩
        obtain ⟨l1, l2, l3⟩ := leave2 10 _ w3 (HK.out.trans (k3.weak _))
        have l4 := World.cell?_setCell_same w3 _ (.iface 32 (.int .i64 10)) l1
        simp only [bodyPostD]
        refine leaves_cons (f := 18) (args := #[.pointer (some ⟨w.heap.size, 0, none⟩)]) (by simp) (by simp [go_sem]) ?_
        refine (catch_panicking ⟨w.heap.size, 0, none⟩ 10 _ [] _ l1 l2).mono ?_
        rintro e u' w'' ⟨rfl, rfl, rfl⟩
        simp [Leaves, settle, results, Tryd.results13, go_sem, l4]
        exact ⟨l3, rfl⟩
      · rw [if_neg hsh] at hB
        have HB2 : Hid (_ = bs) := hB
        clear hB HB
        go_wp2_with fail
        rw [← hS2]
        refine (readBlock_any E2 w.heap.size p' v' out' wr hz2 hl2 HS.out (by omega) hc2 hw2 hw3 (T1.kept HK.out) (by omega)).mono ?_
        rintro e w3 hP
        have hB := HB2.out
        cases hbo : bodyOf E2.zs E2.most E2.win (getB E2.zs (p' + 1) 2) (p' + 1 + 2) out' with
        | error k3 =>
          rw [hbo] at hP hB
          simp only at hB
          obtain ⟨rfl, v3, K3⟩ := hP
          have hin := HIN2.out
          subst hB
          simp only at hin
          subst hin
          obtain ⟨l1, l2, l3⟩ := leave2 k3 _ w3 (HK.out.trans K3)
          have l4 := World.cell?_setCell_same w3 _ (.iface 32 (.int .i64 k3)) l1
          simp only [bodyPostD]
          refine leaves_cons (f := 18) (args := #[.pointer (some ⟨w.heap.size, 0, none⟩)]) (by simp) (by simp [go_sem]) ?_
          refine (catch_panicking ⟨w.heap.size, 0, none⟩ k3 _ [] _ l1 l2).mono ?_
          rintro e u' w'' ⟨rfl, rfl, rfl⟩
          simp [Leaves, settle, results, Tryd.results13, go_sem, l4]
          exact ⟨l3, rfl⟩
        | ok qo =>
          obtain ⟨q, o⟩ := qo
          rw [hbo] at hP hB
          simp only at hB
          obtain ⟨rfl, v3, S3, K3⟩ := hP
          have hge := bodyOf_ge hbo
          have HS3 : Hid (St w3 E2 w.heap.size q v3 o) := S3
          have HK3 : Hid (Kept E2.S (.slice none 0 0) v3 w1 w3) := HK.out.trans K3
          clear S3 K3 HB2 hbo
          by_cases hg : getB E2.zs p' 1 = 1
          · rw [if_pos hg] at hB
            rw [hg]
            have HB3 : Hid (bs = .ok (q, o)) := hB.symm
            clear hB
            go_wp2
            go_roundg 0
            case measure => omega
            case rel => exact ⟨true, q, v3, o, rfl, by simp, HB3, HS3, HK3⟩
          · rw [if_neg hg] at hB
            have hgz : (((getB E2.zs p' 1 : Nat) : Int) == 1) = false := by simp; omega
            rw [hgz]
            have HB3 : Hid (blocks E2.zs E2.most E2.win q o = bs) := hB
            clear hB hgz
            go_wp2
            go_roundg (8 * E2.zs.length - q + 1)
            case measure => omega
            case rel => exact ⟨false, q, v3, o, rfl, by simp, HB3, HS3, HK3⟩
    | true =>
      have hB := HB.out
      simp only [if_true] at hB
      have hin := HIN2.out
      rw [hB] at hin
      simp only at hin
      have HIN3 : Hid (_ = r) := hin
      clear hin HIN2 hB HB
      go_wp2_with fail
      rw [← hS2]
      refine (checkSum_any E2 w.heap.size p' v' out' wr hz2 hl2 HS.out hm3).mono ?_
      rintro e w3 ⟨k3, hP⟩
      have hin := HIN3.out
      by_cases hsu : sumB E2.zs p' out' = true
      rotate_left
      · rw [if_neg hsu] at hP hin
        subst hP hin
        obtain ⟨l1, l2, l3⟩ := leave2 10 _ w3 (HK.out.trans (k3.weak _))
        have l4 := World.cell?_setCell_same w3 _ (.iface 32 (.int .i64 10)) l1
        simp only [bodyPostD]
        refine leaves_cons (f := 18) (args := #[.pointer (some ⟨w.heap.size, 0, none⟩)]) (by simp) (by simp [go_sem]) ?_
        refine (catch_panicking ⟨w.heap.size, 0, none⟩ 10 _ [] _ l1 l2).mono ?_
        rintro e u' w'' ⟨rfl, rfl, rfl⟩
        simp [Leaves, settle, results, Tryd.results13, go_sem, l4]
        exact ⟨l3, rfl⟩
      rw [if_pos hsu] at hP hin
      subst hin
      obtain ⟨rfl, hold, held, s3⟩ := hP
      obtain ⟨l1, l2, -⟩ := leave2 10 _ w3 (HK.out.trans (k3.weak _))
      have HO3 : Hid (w3.ownsRow w.heap.size 5 1 v' out'.length (out'.map (Value.int .u8))) := k3.owns HS.out.own HS.out.rd.sv
      have hib := HS.out.isB
      have HK3 : Hid (Kept E2.S (.slice none 0 0) v' w1 w3) := HK.out.trans (k3.weak _)
      have c4 := s3.c4
      have c1 := s3.c1
      clear s3 k3 HIN3 HS
      obtain ⟨u, HU⟩ : ∃ u, Hid (u = (p' + 7) / 8 + 4) := ⟨_, rfl⟩
      rw [← HU.out] at c1 ⊢
      rw [hS2] at c4 c1
      have hbw : Below w.heap.size w w3 := HK3.out.below hb1 (Nat.le_refl _) (by omega) (by simp [Value.ownBlock])
      have HBW : Hid (Below w.heap.size w w3) := hbw
      clear hbw
      have hnv : some w.heap.size ≠ v'.ownBlock := HK3.out.off hG1 (by simp [Value.ownBlock])
      have HOF : Hid ((w3.setCell ⟨w.heap.size, 0, none⟩ .nilIface).ownsRow w.heap.size 5 1 v' out'.length (out'.map (Value.int .u8))) := owns_set (w := w3) HO3.out w.heap.size 0 .nilIface hnv
      have HBF : Hid (Below w.heap.size w (w3.setCell ⟨w.heap.size, 0, none⟩ .nilIface)) := Below.setCell (w := w3) ⟨HBW.out.os, HBW.out.tape, HBW.out.output, HBW.out.size, HBW.out.block⟩ (Nat.le_refl _) _
      have l4 := World.cell?_setCell_same w3 _ .nilIface l1
      clear hnv
      go_wp2
      go_region
      all_goals
        go_wp2
        simp only [bodyPostD]
        refine leaves_cons (f := 18) (args := #[.pointer (some ⟨w.heap.size, 0, none⟩)]) (by simp) (by simp [go_sem]) ?_
        refine (catch_idle ⟨w.heap.size, 0, none⟩ _).mono ?_
        rintro e u' w'' ⟨rfl, rfl, rfl⟩
        simp [Leaves, settle, results, Tryd.results13, go_sem, l4]
        rw [← HU.out]
        exact ⟨⟨HBF.out.os, HBF.out.tape, HBF.out.output, HBF.out.size, HBF.out.block⟩, hib, _, rfl, HOF.out⟩
end Go.Proofs.YtbiibhpknflagaaDoor
