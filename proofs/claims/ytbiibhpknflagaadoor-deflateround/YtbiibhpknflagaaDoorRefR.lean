/- The document's own reader: symbols where something has gone wrong; the stored block's answer. -/
import Derived.Test.YtbiibhpknflagaaDoorRefN
import Derived.Test.YtbiibhpknflagaaDoorRefO
import Derived.Test.YtbiibhpknflagaaDoorBlkC
import Derived.Test.YtbiibhpknflagaaDoorRefP
namespace Go.Proofs.YtbiibhpknflagaaDoor
open Go.RowKit Plain
set_option linter.unusedVariables false
set_option linter.unusedSimpArgs false

set_option maxRecDepth 20000 in
set_option maxHeartbeats 1000000 in
theorem symbols_err (E : REnv) (p B : Nat) (far er : Int) (v : Value) (out : List Int) (a b c d : Value) (w : World) (h : OutS w E p B far er v out) (he : er ≠ 0) :
    Calls Tryd.prog 41 #[.pointer (some ⟨E.S, 0, none⟩), .agg #[a, b], .agg #[c, d]] w fun ev w' => ev = .returned (.tuple #[]) ∧ OutS w' E p B far er v out ∧ Kept E.S v v w w' := by
  have HH : Hid _ := h
  clear h
  go_enter Tryd.func41, Tryd.ntmps41
  go_wp2_with fail
  obtain ⟨b4, HB4⟩ : ∃ b4, Hid (b4 = w.heap.size) := ⟨_, rfl⟩
  have K1 : Kept E.S (.bool true) (.bool true) w ((w.alloc (.cells #[a, b] 72)).alloc (.cells #[c, d] 72)) := ((Kept.refl _ _ _).alloc _).alloc _
  have HO : Hid (OutS ((w.alloc (.cells #[a, b] 72)).alloc (.cells #[c, d] 72)) E p B far er v out) := HH.out.kept K1 (rs_alloc (rs_alloc HH.out.rs _) _)
  have HK : Hid _ := K1.weak v
  clear K1
  generalize (w.alloc (.cells #[a, b] 72)).alloc (.cells #[c, d] 72) = wa at HO HK ⊢
  go_loopg [] 0 (fun k wr => wr = wa)
  case atStart => exact rfl
  case round =>
    subst hrel
    have c5 := HO.out.rs.c5
    go_wp2
    go_end0
    exact ⟨rfl, HO.out, HK.out⟩
theorem putOf_maxf (most : Int) : putOf most = putOf (max most 0) := by
  funext s b; exact putOf_max most s b
theorem puts_eq (most : Int) : ∀ (xs out : List Int), (out.length : Int) ≤ most →
    ((out.length + xs.length : Nat) : Int) ≤ most ∧ putsOf most out xs = (0, out ++ xs) ∨ most < ((out.length + xs.length : Nat) : Int) ∧ (putsOf most out xs).1 = 11
  | [], out, h => .inl ⟨by simp; exact h, by simp [putsOf]⟩
  | x :: xs, out, h => by
    by_cases c : (out.length : Int) < most
    · have e : putsOf most out (x :: xs) = putsOf most (out ++ [x]) xs := by
        unfold putsOf
        rw [List.foldl_cons]
        congr 1
        unfold putOf
        simp [c]
      rw [e]
      have ih := puts_eq most xs (out ++ [x]) (by simp; omega)
      rw [List.length_append] at ih
      rcases ih with ⟨h1, h2⟩ | ⟨h1, h2⟩
      · exact .inl ⟨by simp at h1 ⊢; omega, by rw [h2]; simp⟩
      · exact .inr ⟨by simp at h1 ⊢; omega, h2⟩
    · refine .inr ⟨by simp; omega, ?_⟩
      have stuck : ∀ (ys : List Int), (ys.foldl (putOf most) ((11 : Int), out)).1 = 11 := by
        intro ys
        induction ys with
        | nil => rfl
        | cons y ys ih => rw [List.foldl_cons]; exact ih
      unfold putsOf
      rw [List.foldl_cons, show putOf most (0, out) x = (11, out) by unfold putOf; simp [c]]
      exact stuck xs
theorem stored_res (E : REnv) (p B : Nat) (far : Int) (v : Value) (out : List Int) (w : World) (hz : IsB E.zs) (hl : E.zs.length ≤ 400000) (hp : p ≤ 8 * E.zs.length) (h : OutS w E p B far 0 v out) (hm : E.most ≤ 400000) (ho : (out.length : Int) ≤ max E.most 0) :
    Calls Tryd.prog 39 #[.pointer (some ⟨E.S, 0, none⟩)] w fun ev w' => ev = .returned (.tuple #[]) ∧ PostR E B far v w (storedOf E.zs (max E.most 0) p out) w' := by
  refine (stored_any E p B far v out w hz hl hp h (by omega) hm).mono ?_
  rintro ev w' ⟨rfl, v', hO, hK⟩
  refine ⟨rfl, ?_⟩
  obtain ⟨c, hc⟩ : ∃ c, c = (p + 7) / 8 := ⟨_, rfl⟩
  unfold storedR at hO
  unfold storedOf
  rw [← hc] at hO ⊢
  simp only [bitsOf] at hO
  by_cases h1 : 8 * E.zs.length < 8 * c + 16
  · rw [if_pos h1]
    simp only [if_neg (show ¬ (8 * c + 16 ≤ 8 * E.zs.length) by omega)] at hO
    simp only [if_neg (show ¬ (8 * E.zs.length + 16 ≤ 8 * E.zs.length) by omega), first] at hO
    simp at hO
    exact ⟨by omega, _, v', _, Nat.le_refl _, hO, hK⟩
  · rw [if_neg h1]
    simp only [if_pos (show 8 * c + 16 ≤ 8 * E.zs.length by omega)] at hO
    by_cases h2 : 8 * E.zs.length < 8 * c + 16 + 16
    · rw [if_pos h2]
      simp only [if_neg (show ¬ (8 * c + 16 + 16 ≤ 8 * E.zs.length) by omega), first] at hO
      simp at hO
      exact ⟨by omega, _, v', _, Nat.le_refl _, hO, hK⟩
    · rw [if_neg h2]
      simp only [if_pos (show 8 * c + 16 + 16 ≤ 8 * E.zs.length by omega)] at hO
      have hdv : (8 * c + 16 + 16) / 8 = c + 4 := by omega
      rw [hdv] at hO
      have hn := getB_lt E.zs (8 * c) 16
      generalize getB E.zs (8 * c) 16 = n at hO hn ⊢
      generalize getB E.zs (8 * c + 16) 16 = mm at hO ⊢
      by_cases h3 : mm ≠ 65535 - n ∨ E.zs.length - (c + 4) < n
      · rw [if_pos h3]
        rw [if_neg (by omega)] at hO
        exact ⟨by omega, _, v', _, by show 8 * c + 16 + 16 ≤ _; omega, hO, hK⟩
      · rw [if_neg h3]
        rw [if_pos ⟨by trivial, by omega, by omega⟩] at hO
        have hxl : ((E.zs.drop (c + 4)).take n).length = n := by simp; omega
        have hpu := puts_eq (max E.most 0) ((E.zs.drop (c + 4)).take n) out ho
        rw [show putsOf (max E.most 0) out ((E.zs.drop (c + 4)).take n) = putsOf E.most out ((E.zs.drop (c + 4)).take n) by unfold putsOf; rw [← putOf_maxf], hxl] at hpu
        rcases hpu with ⟨g1, g2⟩ | ⟨g1, g2⟩
        · rw [if_neg (by omega)]
          rw [g2] at hO
          refine ⟨by omega, by rw [List.length_append, hxl]; exact g1, v', ?_, hK⟩
          rw [show 8 * (c + 4 + n) = 8 * c + 16 + 16 + 8 * n by omega]
          exact hO
        · rw [if_pos (by omega)]
          refine ⟨by omega, _, v', _, ?_, by rw [← g2]; exact hO, hK⟩
          show 8 * c + 16 + 16 + 8 * n ≤ _
          omega
theorem PostR.from {E : REnv} {B : Nat} {far : Int} {v : Value} {w w1 w' : World} {r : Res} (h : PostR E B far v w1 r w') (k : Kept E.S v v w w1) : PostR E B far v w r w' := by
  unfold PostR at h ⊢
  cases r with
  | ok po =>
    obtain ⟨p, out⟩ := po
    obtain ⟨h1, h2, v', h3, h4⟩ := h
    exact ⟨h1, h2, v', h3, k.trans h4⟩
  | error e =>
    obtain ⟨h1, p', v', out', h2, h3, h4⟩ := h
    exact ⟨h1, p', v', out', h2, h3, k.trans h4⟩
theorem NewC.rca {w w1 w2 : World} {E : REnv} {v : Value} {p B : Nat} {far er : Int} {out : List Int} {C : RCode} {lens : List Nat} (h : NewC w w2 C lens) (ho : OutS w E p B far er v out) (hl : lens.length ≤ 400) : RCA w2 E v C :=
  ⟨h.rc E.S ho.rs.Sl hl, fun e => by have := (ho.owns.lt _ e.symm).2; have := h.l1.1; omega, fun e => by have := (ho.owns.lt _ e.symm).2; have := h.l2.1; omega⟩
end Go.Proofs.YtbiibhpknflagaaDoor
/- The document's own reader: all blocks. -/
namespace Go.Proofs.YtbiibhpknflagaaDoor
open Go.RowKit Plain
set_option linter.unusedVariables false
set_option linter.unusedSimpArgs false

def renv (w : World) (ib io cap : Nat) (zs : List Int) (most : Int) : REnv := ⟨w.heap.size, ib, io, cap, some ⟨ib, io, none⟩, zs, most⟩
def farOf (x : Nat) : Int := ((2 ^ (x / 16 % 8 + 8) : Nat) : Int)
theorem far_bd (x : Nat) : 0 ≤ farOf x ∧ farOf x ≤ 40000 := by
  unfold farOf
  have h : 2 ^ (x / 16 % 8 + 8) ≤ 2 ^ 15 := Nat.pow_le_pow_right (by omega) (by omega)
  generalize 2 ^ (x / 16 % 8 + 8) = y at h ⊢
  omega
def BlocksP (w : World) (ib io cap : Nat) (zs : List Int) (most : Int) (x : Nat) (ev : Ending) (w' : World) : Prop :=
  ev = .returned (.pointer (some ⟨w.heap.size, 0, none⟩)) ∧ ∃ w1, Below w.heap.size w w1 ∧ w1.heap.size = w.heap.size + 1 ∧ PostR (renv w ib io cap zs most) w.heap.size (farOf x) (.slice none 0 0) w1 (blocks zs (max most 0) (farOf x) 16 []) w'
theorem outs_start (w : World) (ib io cap : Nat) (zs : List Int) (most far : Int) (hat : At w ib io zs) (hib : ib < w.heap.size) :
    OutS (w.alloc (.cells #[.slice (some ⟨ib, io, none⟩) zs.length cap, .int .i64 16, .slice none 0 0, .int .i64 most, .int .i64 far, .int .i64 0] 49)) (renv w ib io cap zs most) 16 w.heap.size far 0 (.slice none 0 0) [] := by
  have c : ∀ (i : Nat) (u : Value), (#[Value.slice (some ⟨ib, io, none⟩) zs.length cap, .int .i64 16, .slice none 0 0, .int .i64 most, .int .i64 far, .int .i64 0])[i]? = some u → (w.alloc (.cells #[.slice (some ⟨ib, io, none⟩) zs.length cap, .int .i64 16, .slice none 0 0, .int .i64 most, .int .i64 far, .int .i64 0] 49)).cell? ⟨w.heap.size, i, none⟩ = some u := fun i u hu => (World.cell?_alloc_at (w := w) _ _ _ i rfl).trans hu
  refine ⟨⟨c 0 _ rfl, c 1 _ rfl, c 2 _ rfl, c 3 _ rfl, c 4 _ rfl, c 5 _ rfl, fun i => World.frozen?_alloc_new _ _ _ i, fun j hj => (World.cell?_alloc_lt _ _ ⟨ib, io + j, none⟩ hib).trans (hat j hj), fun _ => rfl, by show ib ≠ w.heap.size; omega, fun _ => by simp [Value.ownBlock], fun _ => by show ib < _; simp; omega, by show w.heap.size < _; simp, by simp [Value.ownBlock]⟩, ⟨none, 0, rfl⟩, World.ownsRow_nil _ _ _ _, by simp⟩
theorem OutS.below {w w' : World} {E : REnv} {p B : Nat} {far er : Int} {v : Value} {out : List Int} (h : OutS w E p B far er v out) (hb : Below w.heap.size w w') : OutS w' E p B far er v out :=
  ⟨h.rs.below hb, h.row, owns_below h.owns hb, Nat.le_trans h.hB hb.size⟩
theorem bits2_bad (zs : List Int) (p : Nat) (h : 8 * zs.length < p + 3) :
    (bitsOf zs (bitsOf zs p 1 0).2.1 2 (bitsOf zs p 1 0).2.2).2.2 = 10 := by
  unfold bitsOf first
  by_cases c1 : p + 1 ≤ 8 * zs.length
  · simp only [if_pos c1]
    rw [if_neg (by omega)]; rfl
  · simp only [if_neg c1]
    rw [if_neg (by omega)]; rfl
set_option maxRecDepth 20000 in
set_option maxHeartbeats 4000000 in
theorem blocks_any (ib io cap : Nat) (zs : List Int) (x : Nat) (most : Int) (w : World) (hz : IsB zs) (hl : zs.length ≤ 400000) (h2 : 2 ≤ zs.length) (hm : most ≤ 400000) (hx : zs.getD 0 0 = (x : Int)) (hx255 : x ≤ 255) (hat : At w ib io zs) (hib : ib < w.heap.size) :
    Calls Tryd.prog 24 #[.slice (some ⟨ib, io, none⟩) zs.length cap, .int .i64 most] w (BlocksP w ib io cap zs most x) := by
  have cx : w.cell? ⟨ib, io, none⟩ = some (.int .u8 (x : Int)) := by
    have := hat 0 (by omega)
    rw [Nat.add_zero, hx] at this
    exact this
  have HAT : Hid (At w ib io zs) := hat
  clear hat hx
  obtain ⟨x1, HX1⟩ : ∃ x1, Hid (x1 = x / 16) := ⟨_, rfl⟩
  obtain ⟨x2, HX2⟩ : ∃ x2, Hid (x2 = x1 % 8) := ⟨_, rfl⟩
  obtain ⟨x3, HX3⟩ : ∃ x3, Hid (x3 = x2 + 8) := ⟨_, rfl⟩
  have hd1 : (x : Int).tdiv 16 = (x1 : Int) := by rw [Int.tdiv_eq_ediv_of_nonneg (by omega), HX1.out]; omega
  have hd2 : (x1 : Int).tmod 8 = (x2 : Int) := by rw [Int.tmod_eq_emod_of_nonneg (by omega), HX2.out]; omega
  have hd3 : (x2 : Int) + 8 = (x3 : Int) := by rw [HX3.out]; omega
  have hb1 : x1 ≤ 15 := by rw [HX1.out]; omega
  have hb2 : x2 ≤ 7 := by rw [HX2.out]; omega
  have hb3 : x3 ≤ 15 := by rw [HX3.out]; omega
  have hwx : IntKind.i64.wrap (x : Int) = (x : Int) := Plain.wrap_small x (by omega)
  go_enter Tryd.func24, Tryd.ntmps24
  go_wp2_with fail
  have hfar : wrap64 (2 ^ x3) = farOf x := by
    have e : ((2 : Int) ^ x3) = ((2 ^ x3 : Nat) : Int) := by push_cast; rfl
    have h3 : 2 ^ x3 ≤ 65536 := pow_le_16 (n := x3) (by omega)
    have e2 : x3 = x / 16 % 8 + 8 := by rw [HX3.out, HX2.out, HX1.out]
    rw [e, wrap64_eq, Plain.wrap_small _ (by omega), e2]
    rfl
  simp only [hfar]
  obtain ⟨hf1, hf2⟩ := far_bd x
  obtain ⟨E, HEE⟩ : ∃ E, Hid (E = renv w ib io cap zs most) := ⟨_, rfl⟩
  have HO0 := hid' (outs_start w ib io cap zs most (farOf x) HAT.out hib)
  rw [← HEE.out] at HO0
  have hES : w.heap.size = E.S := by rw [HEE.out]; rfl
  have hEz : zs = E.zs := by rw [HEE.out]; rfl
  have hEm : most = E.most := by rw [HEE.out]; rfl
  have HW1 : Hid (Below w.heap.size w (w.alloc (.cells #[.slice (some ⟨ib, io, none⟩) zs.length cap, .int .i64 16, .slice none 0 0, .int .i64 most, .int .i64 (farOf x), .int .i64 0] 49)) ∧ (w.alloc (.cells #[.slice (some ⟨ib, io, none⟩) zs.length cap, .int .i64 16, .slice none 0 0, .int .i64 most, .int .i64 (farOf x), .int .i64 0] 49)).heap.size = w.heap.size + 1) := ⟨(Below.refl _ _).alloc (Nat.le_refl _) _, by simp⟩
  obtain ⟨R, HR0⟩ : ∃ R, Hid (R = blocks zs (max most 0) (farOf x) 16 []) := ⟨_, rfl⟩
  have HFIN : Hid (∀ w', PostR E w.heap.size (farOf x) (.slice none 0 0) (w.alloc (.cells #[.slice (some ⟨ib, io, none⟩) zs.length cap, .int .i64 16, .slice none 0 0, .int .i64 most, .int .i64 (farOf x), .int .i64 0] 49)) R w' → BlocksP w ib io cap zs most x (.returned (.pointer (some ⟨E.S, 0, none⟩))) w') := fun w' hP => ⟨by rw [← hES], _, HW1.out.1, HW1.out.2, by rw [← HEE.out, ← HR0.out]; exact hP⟩
  generalize hwa : w.alloc (.cells #[.slice (some ⟨ib, io, none⟩) zs.length cap, .int .i64 16, .slice none 0 0, .int .i64 most, .int .i64 (farOf x), .int .i64 0] 49) = wa at HO0 HW1 HFIN ⊢
  clear hwa
  generalize farOf x = far at hf1 hf2 HO0 HR0 hfar HFIN ⊢
  rw [hES] at HO0 HFIN ⊢
  clear hES hfar hd1 hd2 hd3 hwx cx HW1 HEE HAT HX1 HX2 HX3
  subst hEz hEm
  go_loopg [6] (8 * E.zs.length + 1 - 16) (fun k vl wr => ∃ (p : Nat) (er : Int) (v : Value) (out : List Int) (l : Nat), k = (if er = 0 ∧ l = 0 then 8 * E.zs.length + 1 - p else 0) ∧ vl = .int .i64 l ∧ l ≤ 1 ∧ p ≤ 8 * E.zs.length ∧ Hid (OutS wr E p E.S far er v out) ∧ Hid (Kept E.S (.slice none 0 0) v wa wr) ∧ Hid (er = 0 ∧ l = 0 ∧ (out.length : Int) ≤ max E.most 0 ∧ R = blocks E.zs (max E.most 0) far p out ∨ er = 0 ∧ l = 1 ∧ (out.length : Int) ≤ max E.most 0 ∧ R = .ok (p, out) ∨ er ≠ 0 ∧ R = .error er))
  case atStart => exact ⟨16, 0, .slice none 0 0, [], 0, by simp, rfl, by omega, by omega, HO0.out, Kept.refl _ _ _, .inl ⟨rfl, rfl, by simp; omega, HR0.out⟩⟩
  case round =>
    clear HO0 HR0
    obtain ⟨p, er, v, out, l, hk, rfl, hl1, hp, HO, HK, HC⟩ := hrel
    rcases HC.out with ⟨he, hl0, ho, hR⟩ | ⟨he, hl0, ho, hR⟩ | ⟨he, hR⟩
    · subst he hl0
      rw [if_pos ⟨rfl, rfl⟩] at hk
      clear HC
      rw [blocks_eq] at hR
      have c5' := HO.out.rs.c5
      by_cases hs3 : 8 * E.zs.length < p + 3
      · rw [if_pos hs3] at hR
        have HR : Hid _ := hR
        clear hR
        have h10 := bits2_bad E.zs p hs3
        obtain ⟨a1, HA1⟩ : ∃ a1, Hid (a1 = bitsOf E.zs p 1 0) := ⟨_, rfl⟩
        rw [← HA1.out] at h10
        obtain ⟨a2, HA2⟩ : ∃ a2, Hid (a2 = bitsOf E.zs a1.2.1 2 a1.2.2) := ⟨_, rfl⟩
        rw [← HA2.out] at h10
        have l1 : a1.2.1 ≤ 8 * E.zs.length := by rw [HA1.out]; exact bitsOf_le _ _ _ _
        have l2 : a2.2.1 ≤ 8 * E.zs.length := by rw [HA2.out]; exact bitsOf_le _ _ _ _
        have n1 : a1.1 < 2 := by rw [HA1.out]; exact bitsOf_lt _ _ 1 _
        have n2 : a2.1 < 4 := by rw [HA2.out]; exact bitsOf_lt _ _ 2 _
        have B1 := fun w h => bits_any E p 1 v far 0 w hz hl (by omega) h hp
        have B2 := fun w h => bits_any E a1.2.1 2 v far a1.2.2 w hz hl (by omega) h l1
        rw [← HA1.out] at B1
        rw [← HA2.out] at B2
        go_wp2_with (first | (go_at_call 37; refine (B1 _ HO.out.rs).mono ?_; clear B1; rintro ev w1 ⟨rfl, hR1, hK1⟩; have HO1 : Hid _ := HO.out.kept hK1 hR1; have HK1 : Hid _ := HK.out.trans (hK1.weak v); clear hR1 hK1) | (go_at_call 37; refine (B2 _ HO1.out.rs).mono ?_; clear B2; rintro ev w2 ⟨rfl, hR2, hK2⟩; have c5 := hR2.c5; rw [h10] at c5; have HO2 : Hid _ := HO1.out.kept hK2 hR2; have HK2 : Hid _ := HK1.out.trans (hK2.weak v); clear hR2 hK2) | (go_at_call 38; refine (fail_any E a2.2.1 v far a2.2.2 10 _ HO2.out.rs).mono ?_; rintro ev w3 ⟨rfl, hR3, hK3⟩; have HO3 : Hid _ := HO2.out.kept hK3 hR3; have HK3 : Hid _ := HK2.out.trans (hK3.weak v); clear hR3 hK3))
        go_roundg 0
        case measure => omega
        case rel =>
          have e10 : first a2.2.2 10 = 10 := by rw [h10]; rfl
          refine ⟨a2.2.1, 10, v, out, a1.1, by simp, rfl, by omega, l2, by rw [← e10]; exact HO3.out, HK3.out, .inr (.inr ⟨by omega, HR.out⟩)⟩
      · rw [if_neg hs3] at hR
        have HRb : Hid _ := hR
        clear hR
        obtain ⟨l', HL'⟩ : ∃ l', Hid (l' = getB E.zs p 1) := ⟨_, rfl⟩
        obtain ⟨kd, HKD⟩ : ∃ kd, Hid (kd = getB E.zs (p + 1) 2) := ⟨_, rfl⟩
        have hl'2 : l' ≤ 1 := by have := getB_lt E.zs p 1; rw [HL'.out]; omega
        have hkd4 : kd < 4 := by rw [HKD.out]; exact getB_lt E.zs (p + 1) 2
        rw [← HL'.out, ← HKD.out] at HRb
        have B1 := fun w h => bits_ok E p 1 v far 0 w hz hl (by omega) h (by omega)
        have B2 := fun w h => bits_ok E (p + 1) 2 v far 0 w hz hl (by omega) h (by omega)
        rw [← HL'.out] at B1
        rw [← HKD.out] at B2
        have hp3 : p + 1 + 2 ≤ 8 * E.zs.length := by omega
        obtain ⟨r, HBO⟩ : ∃ r, Hid (bodyOf E.zs (max E.most 0) far kd (p + 1 + 2) out = r) := ⟨_, rfl⟩
        have hkc : kd = 0 ∨ kd = 1 ∨ kd = 2 ∨ kd = 3 := by omega
        rcases hkc with rfl | rfl | rfl | rfl
        · go_wp2_with (first | (go_at_call 37; refine (B1 _ HO.out.rs).mono ?_; clear B1; rintro ev w1 ⟨rfl, hR1, hK1⟩; have HO1 : Hid _ := HO.out.kept hK1 hR1; have HK1 : Hid _ := HK.out.trans (hK1.weak v); clear hR1 hK1) | (go_at_call 37; refine (B2 _ HO1.out.rs).mono ?_; clear B2; rintro ev w2 ⟨rfl, hR2, hK2⟩; have c5 := hR2.c5; have HO2 : Hid _ := HO1.out.kept hK2 hR2; have HK2 : Hid _ := HK1.out.trans (hK2.weak v); clear hR2 hK2) | (go_at_call 39; refine (stored_res E (p + 1 + 2) E.S far v out _ hz hl hp3 HO2.out hm ho).mono ?_; rintro ev w3 ⟨rfl, hP⟩; have HP3 : Hid _ := hP; clear hP))
          have hbo : storedOf E.zs (max E.most 0) (p + 1 + 2) out = r := by have := HBO.out; unfold bodyOf at this; rw [if_pos rfl] at this; exact this
          rw [hbo] at HP3
          cases hr : r with
          | error e =>
            rw [hr] at HP3 HBO
            obtain ⟨he, p5, v5, out5, hp5, hO5, hK5⟩ := HP3.out
            have HO5 : Hid _ := hO5
            have HK5 : Hid _ := HK2.out.trans hK5
            clear hO5 hK5
            go_wp2
            go_roundg 0
            case measure => omega
            case rel => exact ⟨p5, e, v5, out5, l', by rw [if_neg (by intro h; exact he h.1)], rfl, hl'2, hp5, HO5.out, HK5.out, .inr (.inr ⟨he, by rw [HRb.out, HBO.out]⟩)⟩
          | ok qo =>
            obtain ⟨q, o⟩ := qo
            rw [hr] at HP3 HBO
            have hge := bodyOf_ge HBO.out
            obtain ⟨hq, ho5, v5, hO5, hK5⟩ := HP3.out
            have HO5 : Hid _ := hO5
            have HK5 : Hid _ := HK2.out.trans hK5
            clear hO5 hK5
            go_wp2
            go_roundg (if (0 : Int) = 0 ∧ l' = 0 then 8 * E.zs.length + 1 - q else 0)
            case measure => split <;> omega
            case rel =>
              refine ⟨q, 0, v5, o, l', rfl, rfl, hl'2, hq, HO5.out, HK5.out, ?_⟩
              have e1 := HRb.out
              rw [HBO.out] at e1
              simp only [] at e1
              by_cases hl1 : l' = 1
              · exact .inr (.inl ⟨rfl, hl1, ho5, by rw [e1, if_pos hl1]⟩)
              · exact .inl ⟨rfl, by omega, ho5, by rw [e1, if_neg hl1]⟩
        · go_wp2_with (first | (go_at_call 37; refine (B1 _ HO.out.rs).mono ?_; clear B1; rintro ev w1 ⟨rfl, hR1, hK1⟩; have HO1 : Hid _ := HO.out.kept hK1 hR1; have HK1 : Hid _ := HK.out.trans (hK1.weak v); clear hR1 hK1) | (go_at_call 37; refine (B2 _ HO1.out.rs).mono ?_; clear B2; rintro ev w2 ⟨rfl, hR2, hK2⟩; have c5 := hR2.c5; have HO2 : Hid _ := HO1.out.kept hK2 hR2; have HK2 : Hid _ := HK1.out.trans (hK2.weak v); clear hR2 hK2))
          refine (fixed_any w2).mono ?_
          rintro ev w3 ⟨L, D, rfl, hb3, hL3, hD3⟩
          have HB3 : Hid _ := hb3
          have HL3 : Hid _ := hL3
          have HD3 : Hid _ := hD3
          clear hb3 hL3 hD3
          simp only [codeVal]
          go_wp2_with fail
          have HB4 : Hid (Below w2.heap.size w2 ((w3.alloc (.cells #[.slice L.ax L.lens.length L.cx, .slice L.ay L.lens.length L.cy] 72)).alloc (.cells #[.slice D.ax D.lens.length D.cx, .slice D.ay D.lens.length D.cy] 72))) := (HB3.out.alloc HB3.out.size _).alloc (by have := HB3.out.size; simp; omega) _
          have HL4 : Hid (NewC w2 ((w3.alloc (.cells #[.slice L.ax L.lens.length L.cx, .slice L.ay L.lens.length L.cy] 72)).alloc (.cells #[.slice D.ax D.lens.length D.cx, .slice D.ay D.lens.length D.cy] 72)) L fixLens) := HL3.out.later (((Below.refl _ _).alloc (Nat.le_refl _) _).alloc (by simp) _)
          have HD4 : Hid (NewC w2 ((w3.alloc (.cells #[.slice L.ax L.lens.length L.cx, .slice L.ay L.lens.length L.cy] 72)).alloc (.cells #[.slice D.ax D.lens.length D.cx, .slice D.ay D.lens.length D.cy] 72)) D fixDist) := HD3.out.later (((Below.refl _ _).alloc (Nat.le_refl _) _).alloc (by simp) _)
          generalize (w3.alloc (.cells #[.slice L.ax L.lens.length L.cx, .slice L.ay L.lens.length L.cy] 72)).alloc (.cells #[.slice D.ax D.lens.length D.cx, .slice D.ay D.lens.length D.cy] 72) = w4 at HB4 HL4 HD4 ⊢
          have f15 : ∀ i, fixLens.getD i 0 ≤ 15 := getD_le fix_15
          have d15 : ∀ i, fixDist.getD i 0 ≤ 15 := getD_le fixD_15
          refine (symbols_any E (p + 1 + 2) E.S far v out L D w4 hz hl hp3 hm hf1 hf2 (HO2.out.below HB4.out) ho (HL4.out.rca (w1 := w2) HO2.out (by rw [fixLens_len]; omega)) (HD4.out.rca (w1 := w2) HO2.out (by show 32 ≤ 400; omega)) (by rw [HL4.out.le]; exact HL4.out.bt) (by rw [HD4.out.le]; exact HD4.out.bt) (by rw [HL4.out.le]; exact f15) (by rw [HD4.out.le]; exact d15)).mono ?_
          rintro ev w5 ⟨rfl, hP⟩
          rw [HL4.out.le, HD4.out.le] at hP
          have HP3 : Hid _ := hP.from (Kept.of_below HB4.out)
          clear hP f15 d15
          have hbo : syms (dec (cntOf fixLens) (srtOf fixLens) E.zs) (dec (cntOf fixDist) (srtOf fixDist) E.zs) E.zs (max E.most 0) far (p + 1 + 2) out = r := by have := HBO.out; unfold bodyOf at this; rw [if_neg (by omega), if_pos rfl] at this; exact this
          rw [hbo] at HP3
          cases hr : r with
          | error e =>
            rw [hr] at HP3 HBO
            obtain ⟨he, p5, v5, out5, hp5, hO5, hK5⟩ := HP3.out
            have HO5 : Hid _ := hO5
            have HK5 : Hid _ := HK2.out.trans hK5
            clear hO5 hK5
            go_wp2
            go_roundg 0
            case measure => omega
            case rel => exact ⟨p5, e, v5, out5, l', by rw [if_neg (by intro h; exact he h.1)], rfl, hl'2, hp5, HO5.out, HK5.out, .inr (.inr ⟨he, by rw [HRb.out, HBO.out]⟩)⟩
          | ok qo =>
            obtain ⟨q, o⟩ := qo
            rw [hr] at HP3 HBO
            have hge := bodyOf_ge HBO.out
            obtain ⟨hq, ho5, v5, hO5, hK5⟩ := HP3.out
            have HO5 : Hid _ := hO5
            have HK5 : Hid _ := HK2.out.trans hK5
            clear hO5 hK5
            go_wp2
            go_roundg (if (0 : Int) = 0 ∧ l' = 0 then 8 * E.zs.length + 1 - q else 0)
            case measure => split <;> omega
            case rel =>
              refine ⟨q, 0, v5, o, l', rfl, rfl, hl'2, hq, HO5.out, HK5.out, ?_⟩
              have e1 := HRb.out
              rw [HBO.out] at e1
              simp only [] at e1
              by_cases hl1 : l' = 1
              · exact .inr (.inl ⟨rfl, hl1, ho5, by rw [e1, if_pos hl1]⟩)
              · exact .inl ⟨rfl, by omega, ho5, by rw [e1, if_neg hl1]⟩
        · go_wp2_with (first | (go_at_call 37; refine (B1 _ HO.out.rs).mono ?_; clear B1; rintro ev w1 ⟨rfl, hR1, hK1⟩; have HO1 : Hid _ := HO.out.kept hK1 hR1; have HK1 : Hid _ := HK.out.trans (hK1.weak v); clear hR1 hK1) | (go_at_call 37; refine (B2 _ HO1.out.rs).mono ?_; clear B2; rintro ev w2 ⟨rfl, hR2, hK2⟩; have c5 := hR2.c5; have HO2 : Hid _ := HO1.out.kept hK2 hR2; have HK2 : Hid _ := HK1.out.trans (hK2.weak v); clear hR2 hK2))
          refine (told_any E (p + 1 + 2) far v w2 hz hl hp3 HO2.out.rs).mono ?_
          rintro ev w3 ⟨hk3, hm3⟩
          cases ht : toldOf E.zs (p + 1 + 2) with
          | none =>
            rw [ht] at hm3
            obtain ⟨a, b, c, d, p4, er4, rfl, hp4, hr4, hee⟩ := hm3
            have HO3 : Hid _ := HO2.out.kept hk3 hr4
            have HK3 : Hid _ := HK2.out.trans (hk3.weak v)
            have HEE : Hid (first er4 10 = 10) := by show _ = _; unfold first; rcases hee with rfl | rfl <;> simp
            have hbo : r = .error 10 := by rw [← HBO.out]; unfold bodyOf; rw [if_neg (by omega), if_neg (by omega), if_pos rfl, ht]
            clear hk3 hr4 hee ht
            obtain ⟨a1, a2, a3⟩ := a
            obtain ⟨b1, b2, b3⟩ := b
            obtain ⟨c1, c2, c3⟩ := c
            obtain ⟨d1, d2, d3⟩ := d
            simp only []
            go_wp2_with fail
            have HB4 : Hid (Below w3.heap.size w3 ((w3.alloc (.cells #[.slice a1 a2 a3, .slice b1 b2 b3] 72)).alloc (.cells #[.slice c1 c2 c3, .slice d1 d2 d3] 72))) := ((Below.refl _ _).alloc (Nat.le_refl _) _).alloc (by simp) _
            have y0 : ((w3.alloc (.cells #[.slice a1 a2 a3, .slice b1 b2 b3] 72)).alloc (.cells #[.slice c1 c2 c3, .slice d1 d2 d3] 72)).heap[w3.heap.size]? = some (.cells [.slice a1 a2 a3, .slice b1 b2 b3].toArray 72) := heap_alloc2_old w3 _ _
            have y1 : ((w3.alloc (.cells #[.slice a1 a2 a3, .slice b1 b2 b3] 72)).alloc (.cells #[.slice c1 c2 c3, .slice d1 d2 d3] 72)).heap[w3.heap.size + 1]? = some (.cells [.slice c1 c2 c3, .slice d1 d2 d3].toArray 72) := heap_alloc2_new w3 _ _
            have HYS : Hid (((w3.alloc (.cells #[.slice a1 a2 a3, .slice b1 b2 b3] 72)).alloc (.cells #[.slice c1 c2 c3, .slice d1 d2 d3] 72)).heap.size = w3.heap.size + 2) := by show _ = _; simp
            obtain ⟨b10, HB10⟩ : ∃ b10, Hid (b10 = w3.heap.size) := ⟨_, rfl⟩
            have hSb : E.S < b10 := by rw [HB10.out]; exact HO3.out.rs.Sl
            have HO4 := hid' (HO3.out.below HB4.out)
            have HK4 : Hid (Kept E.S (.slice none 0 0) v wa ((w3.alloc (.cells #[.slice a1 a2 a3, .slice b1 b2 b3] 72)).alloc (.cells #[.slice c1 c2 c3, .slice d1 d2 d3] 72))) := HK3.out.trans (Kept.of_below HB4.out)
            rw [← HB10.out] at y0 y1 HYS ⊢
            generalize (w3.alloc (.cells #[.slice a1 a2 a3, .slice b1 b2 b3] 72)).alloc (.cells #[.slice c1 c2 c3, .slice d1 d2 d3] 72) = w4 at HB4 y0 y1 HYS HO4 HK4 ⊢
            have HY0 : Hid _ := y0
            have HY1 : Hid _ := y1
            clear y0 y1
            go_wp2_with (first | (go_at_call 38; refine (fail_any E p4 v far er4 10 _ HO4.out.rs).mono ?_; rintro ev w5 ⟨rfl, hR5, hK5⟩; have HO5 : Hid _ := HO4.out.kept hK5 hR5; have HK5 : Hid _ := HK4.out.trans (hK5.weak v); have y0 := cell_of (cs := [.slice a1 a2 a3, .slice b1 b2 b3]) (i := 0) ((hK5.all b10 (by have := HYS.out; omega) (by omega)).trans HY0.out) rfl; have y0' := cell_of (cs := [.slice a1 a2 a3, .slice b1 b2 b3]) (i := 1) ((hK5.all b10 (by have := HYS.out; omega) (by omega)).trans HY0.out) rfl; have y1 := cell_of (cs := [.slice c1 c2 c3, .slice d1 d2 d3]) (i := 0) ((hK5.all (b10 + 1) (by have := HYS.out; omega) (by omega)).trans HY1.out) rfl; have y1' := cell_of (cs := [.slice c1 c2 c3, .slice d1 d2 d3]) (i := 1) ((hK5.all (b10 + 1) (by have := HYS.out; omega) (by omega)).trans HY1.out) rfl; clear hK5 hR5) | (go_at_call 41; refine (symbols_err E p4 E.S far (first er4 10) v out _ _ _ _ _ HO5.out (by rw [HEE.out]; omega)).mono ?_; rintro ev w6 ⟨rfl, hO6, hK6⟩; have HO6 : Hid _ := hO6; have HK6 : Hid _ := HK5.out.trans hK6; clear hO6 hK6))
            go_roundg 0
            case measure => omega
            case rel => exact ⟨p4, first er4 10, v, out, l', by rw [HEE.out]; simp, rfl, hl'2, hp4, HO6.out, HK6.out, .inr (.inr ⟨by rw [HEE.out]; omega, by rw [HRb.out, HBO.out, hbo, HEE.out]⟩)⟩
          | some ldq =>
            obtain ⟨l0, d0, q0⟩ := ldq
            rw [ht] at hm3
            obtain ⟨hq0, hr3, L, D, rfl, hL3, hD3, ll, dl, l15, d15⟩ := hm3
            have HO3 : Hid _ := HO2.out.kept hk3 hr3
            have HK3 : Hid _ := HK2.out.trans (hk3.weak v)
            have HKK : Hid _ := hk3
            have HL3 : Hid _ := hL3
            have HD3 : Hid _ := hD3
            have hbo : syms (dec (cntOf l0) (srtOf l0) E.zs) (dec (cntOf d0) (srtOf d0) E.zs) E.zs (max E.most 0) far q0 out = r := by have := HBO.out; unfold bodyOf at this; rw [if_neg (by omega), if_neg (by omega), if_pos rfl, ht] at this; exact this
            have HBB : Hid _ := hbo
            clear hk3 hr3 hL3 hD3 hbo ht
            simp only [codeVal]
            go_wp2_with fail
            have HB4 : Hid (Below w3.heap.size w3 ((w3.alloc (.cells #[.slice L.ax L.lens.length L.cx, .slice L.ay L.lens.length L.cy] 72)).alloc (.cells #[.slice D.ax D.lens.length D.cx, .slice D.ay D.lens.length D.cy] 72))) := ((Below.refl _ _).alloc (Nat.le_refl _) _).alloc (by simp) _
            have HL4 : Hid (NewC w2 ((w3.alloc (.cells #[.slice L.ax L.lens.length L.cx, .slice L.ay L.lens.length L.cy] 72)).alloc (.cells #[.slice D.ax D.lens.length D.cx, .slice D.ay D.lens.length D.cy] 72)) L l0) := HL3.out.later HB4.out
            have HD4 : Hid (NewC w2 ((w3.alloc (.cells #[.slice L.ax L.lens.length L.cx, .slice L.ay L.lens.length L.cy] 72)).alloc (.cells #[.slice D.ax D.lens.length D.cx, .slice D.ay D.lens.length D.cy] 72)) D d0) := HD3.out.later HB4.out
            generalize (w3.alloc (.cells #[.slice L.ax L.lens.length L.cx, .slice L.ay L.lens.length L.cy] 72)).alloc (.cells #[.slice D.ax D.lens.length D.cx, .slice D.ay D.lens.length D.cy] 72) = w4 at HB4 HL4 HD4 ⊢
            refine (symbols_any E q0 E.S far v out L D w4 hz hl hq0 hm hf1 hf2 (HO3.out.below HB4.out) ho (HL4.out.rca (w1 := w2) HO2.out ll) (HD4.out.rca (w1 := w2) HO2.out dl) (by rw [HL4.out.le]; exact HL4.out.bt) (by rw [HD4.out.le]; exact HD4.out.bt) (by rw [HL4.out.le]; exact l15) (by rw [HD4.out.le]; exact d15)).mono ?_
            rintro ev w5 ⟨rfl, hP⟩
            rw [HL4.out.le, HD4.out.le, HBB.out] at hP
            have HP3 : Hid _ := hP.from ((HKK.out.weak v).trans (Kept.of_below HB4.out))
            clear hP
            cases hr : r with
            | error e =>
              rw [hr] at HP3 HBO
              obtain ⟨he, p5, v5, out5, hp5, hO5, hK5⟩ := HP3.out
              have HO5 : Hid _ := hO5
              have HK5 : Hid _ := HK2.out.trans hK5
              clear hO5 hK5
              go_wp2
              go_roundg 0
              case measure => omega
              case rel => exact ⟨p5, e, v5, out5, l', by rw [if_neg (by intro h; exact he h.1)], rfl, hl'2, hp5, HO5.out, HK5.out, .inr (.inr ⟨he, by rw [HRb.out, HBO.out]⟩)⟩
            | ok qo =>
              obtain ⟨q, o⟩ := qo
              rw [hr] at HP3 HBO
              have hge := bodyOf_ge HBO.out
              obtain ⟨hq, ho5, v5, hO5, hK5⟩ := HP3.out
              have HO5 : Hid _ := hO5
              have HK5 : Hid _ := HK2.out.trans hK5
              clear hO5 hK5
              go_wp2
              go_roundg (if (0 : Int) = 0 ∧ l' = 0 then 8 * E.zs.length + 1 - q else 0)
              case measure => split <;> omega
              case rel =>
                refine ⟨q, 0, v5, o, l', rfl, rfl, hl'2, hq, HO5.out, HK5.out, ?_⟩
                have e1 := HRb.out
                rw [HBO.out] at e1
                simp only [] at e1
                by_cases hl1 : l' = 1
                · exact .inr (.inl ⟨rfl, hl1, ho5, by rw [e1, if_pos hl1]⟩)
                · exact .inl ⟨rfl, by omega, ho5, by rw [e1, if_neg hl1]⟩
        · have hbo : r = .error 10 := by rw [← HBO.out]; rfl
          go_wp2_with (first | (go_at_call 37; refine (B1 _ HO.out.rs).mono ?_; clear B1; rintro ev w1 ⟨rfl, hR1, hK1⟩; have HO1 : Hid _ := HO.out.kept hK1 hR1; have HK1 : Hid _ := HK.out.trans (hK1.weak v); clear hR1 hK1) | (go_at_call 37; refine (B2 _ HO1.out.rs).mono ?_; clear B2; rintro ev w2 ⟨rfl, hR2, hK2⟩; have c5 := hR2.c5; have HO2 : Hid _ := HO1.out.kept hK2 hR2; have HK2 : Hid _ := HK1.out.trans (hK2.weak v); clear hR2 hK2) | (go_at_call 38; refine (fail_any E (p + 1 + 2) v far 0 10 _ HO2.out.rs).mono ?_; rintro ev w3 ⟨rfl, hR3, hK3⟩; have HO3 : Hid _ := HO2.out.kept hK3 hR3; have HK3 : Hid _ := HK2.out.trans (hK3.weak v); clear hR3 hK3))
          go_roundg 0
          case measure => omega
          case rel => exact ⟨p + 1 + 2, 10, v, out, l', by simp, rfl, hl'2, hp3, HO3.out, HK3.out, .inr (.inr ⟨by omega, by rw [HRb.out, HBO.out, hbo]⟩)⟩
    · subst he hl0
      have HR : Hid _ := hR
      clear hR HC
      go_wp2
      go_ret
      exact HFIN.out _ (by rw [HR.out]; exact ⟨hp, ho, v, HO.out, HK.out⟩)
    · have HR : Hid _ := hR
      clear hR HC
      have c5' := HO.out.rs.c5
      have hl01 : l = 0 ∨ l = 1 := by omega
      rcases hl01 with rfl | rfl
      · go_wp2
        go_ret
        exact HFIN.out _ (by rw [HR.out]; exact ⟨he, p, v, out, hp, HO.out, HK.out⟩)
      · go_wp2
        go_ret
        exact HFIN.out _ (by rw [HR.out]; exact ⟨he, p, v, out, hp, HO.out, HK.out⟩)
end Go.Proofs.YtbiibhpknflagaaDoor
