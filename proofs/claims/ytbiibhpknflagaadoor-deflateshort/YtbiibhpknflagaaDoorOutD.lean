/- 'repeat', where it gives up; the plain reading of a block's symbols. -/
import Derived.Test.YtbiibhpknflagaaDoorOutB
namespace Go.Proofs.YtbiibhpknflagaaDoor
open Go.RowKit Plain
set_option linter.unusedVariables false

set_option maxRecDepth 20000 in
set_option maxHeartbeats 1000000 in
theorem repeat_far (E : Env) (B p d n : Nat) (v : Value) (out : List Int) (w : World) (h : St w E B p v out) (hm : E.most ≤ 400000) (hd2 : d ≤ 40000) (hn2 : n ≤ 258) (hw2 : E.win ≤ 40000) (hw3 : 0 ≤ E.win) (hf : out.length < d ∨ E.win < d) :
    Calls Tryd.prog 54 #[.pointer (some ⟨E.S, 0, none⟩), .int .i64 n, .int .i64 d] w fun e w' => e = .panicked (errv 10) ∧ Kept E.S v v w w' := by
  have hlen := h.len hm
  obtain ⟨m, hmo⟩ : ∃ m, out.length = m := ⟨_, rfl⟩
  obtain ⟨⟨nx, hold, held, hst, hp, hh, hnx, HG⟩, hown, hisB, hB, hle⟩ := h
  rw [hmo] at hown hf hlen
  obtain ⟨a, cp, rfl⟩ := owns_shape hown
  have HK : Hid (Kept E.S (.slice a m cp) (.slice a m cp) w w) := Kept.refl _ _ _
  obtain ⟨c0, c1, c2, c3, c4, c5, c6, fz, src, ibS, ibv, ibl, Sl, Sv⟩ := hst
  by_cases h1 : m < d
  · have h1' : (m : Int) < d := by omega
    go_enter Tryd.func54, Tryd.ntmps54
    go_wp2
    exact ⟨rfl, rfl, HK.out⟩
  · have h1' : ¬ (m : Int) < d := by omega
    have h2 : E.win < d := by omega
    go_enter Tryd.func54, Tryd.ntmps54
    go_wp2
    exact ⟨rfl, rfl, HK.out⟩
set_option maxRecDepth 20000 in
set_option maxHeartbeats 1000000 in
theorem repeat_room (E : Env) (B p d n : Nat) (v : Value) (out : List Int) (w : World) (h : St w E B p v out) (hm : E.most ≤ 400000) (hd : d ≤ out.length) (hn2 : n ≤ 258) (hw : (d : Int) ≤ E.win) (hw2 : E.win ≤ 40000) (hr : ¬ (n : Int) ≤ E.most - out.length) :
    Calls Tryd.prog 54 #[.pointer (some ⟨E.S, 0, none⟩), .int .i64 n, .int .i64 d] w fun e w' => e = .panicked (errv 11) ∧ Kept E.S v v w w' := by
  have hlen := h.len hm
  obtain ⟨m, hmo⟩ : ∃ m, out.length = m := ⟨_, rfl⟩
  obtain ⟨⟨nx, hold, held, hst, hp, hh, hnx, HG⟩, hown, hisB, hB, hle⟩ := h
  rw [hmo] at hown hd hr hlen hle
  obtain ⟨a, cp, rfl⟩ := owns_shape hown
  have HH : Hid (Str w E nx hold held (.slice a m cp)) := hst
  have HK : Hid (Kept E.S (.slice a m cp) (.slice a m cp) w w) := Kept.refl _ _ _
  obtain ⟨c0, c1, c2, c3, c4, c5, c6, fz, src, ibS, ibv, ibl, Sl, Sv⟩ := hst
  have h1' : ¬ (m : Int) < d := by omega
  have h2 : ¬ E.win < d := by omega
  go_enter Tryd.func54, Tryd.ntmps54
  go_wp2_with fail
  refine (needRoom_bad E nx hold held n m cp _ _ hm hlen (by omega) (by omega) HH.out (by omega)).mono ?_
  rintro e w1 ⟨rfl, q, rfl⟩
  exact ⟨rfl, rfl, HK.out.drewN _⟩

/-- How a reading ends: at a bit, with what was put out; or by an error's number. -/
abbrev Res : Type := Except Int (Nat × List Int)

/-- 1.3: A BLOCK's SYMBOLS, by two decoders (from a bit to a symbol and the bit behind it): one symbol, and what is done with the rest. -/
def symsStep (dl dd : Nat → Option (Nat × Nat)) (zs : List Int) (most win : Int) (p : Nat) (out : List Int) (rest : Nat → List Int → Res) : Res :=
  match dl p with
  | none => .error 10
  | some (y, p1) =>
    if p < p1 ∧ p1 ≤ 8 * zs.length then
      if y < 256 then
        if ¬ (1 : Int) ≤ most - out.length then .error 11 else rest p1 (out ++ [(y : Int)])
      else if y = 256 then .ok (p1, out)
      else if 29 ≤ y - 257 then .error 10
      else if 8 * zs.length < p1 + lenBits.getD (y - 257) 0 then .error 10
      else match dd (p1 + lenBits.getD (y - 257) 0) with
        | none => .error 10
        | some (d, p3) =>
          if p1 + lenBits.getD (y - 257) 0 < p3 ∧ p3 ≤ 8 * zs.length then
            if 30 ≤ d then .error 10
            else if 8 * zs.length < p3 + distBits.getD d 0 then .error 10
            else if out.length < distStart.getD d 0 + getB zs p3 (distBits.getD d 0) ∨ win < (distStart.getD d 0 + getB zs p3 (distBits.getD d 0) : Nat) then .error 10
            else if ¬ ((lenStart.getD (y - 257) 0 + getB zs p1 (lenBits.getD (y - 257) 0) : Nat) : Int) ≤ most - out.length then .error 11
            else rest (p3 + distBits.getD d 0) (rep out (distStart.getD d 0 + getB zs p3 (distBits.getD d 0)) (lenStart.getD (y - 257) 0 + getB zs p1 (lenBits.getD (y - 257) 0)))
          else .error 10
    else .error 10
def symsF (dl dd : Nat → Option (Nat × Nat)) (zs : List Int) (most win : Int) : Nat → Nat → List Int → Res
  | 0, _, _ => .error 10
  | f + 1, p, out => symsStep dl dd zs most win p out (symsF dl dd zs most win f)
theorem ite_both {α : Type} {c : Prop} [Decidable c] {a a' b b' : α} (h1 : c → a = a') (h2 : ¬ c → b = b') : (if c then a else b) = (if c then a' else b') := by
  by_cases hc : c
  · rw [if_pos hc, if_pos hc]; exact h1 hc
  · rw [if_neg hc, if_neg hc]; exact h2 hc
/-- Only what stands behind p counts. -/
theorem symsStep_congr (dl dd : Nat → Option (Nat × Nat)) (zs : List Int) (most win : Int) (p : Nat) (out : List Int) (r r' : Nat → List Int → Res) (h : ∀ q o, p < q → q ≤ 8 * zs.length → r q o = r' q o) :
    symsStep dl dd zs most win p out r = symsStep dl dd zs most win p out r' := by
  unfold symsStep
  cases dl p with
  | none => rfl
  | some yp =>
    obtain ⟨y, p1⟩ := yp
    refine ite_both (fun hp => ?_) (fun _ => rfl)
    refine ite_both (fun _ => ite_both (fun _ => rfl) (fun _ => h _ _ hp.1 hp.2)) (fun _ => ?_)
    refine ite_both (fun _ => rfl) (fun _ => ite_both (fun _ => rfl) (fun _ => ite_both (fun _ => rfl) (fun _ => ?_)))
    cases dd (p1 + lenBits.getD (y - 257) 0) with
    | none => rfl
    | some dp =>
      obtain ⟨d, p3⟩ := dp
      refine ite_both (fun hp3 => ?_) (fun _ => rfl)
      refine ite_both (fun _ => rfl) (fun _ => ite_both (fun _ => rfl) (fun _ => ite_both (fun _ => rfl) (fun _ => ite_both (fun _ => rfl) (fun _ => ?_))))
      exact h _ _ (by omega) (by omega)
theorem symsF_more (dl dd : Nat → Option (Nat × Nat)) (zs : List Int) (most win : Int) : ∀ (f p : Nat) (out : List Int), 8 * zs.length - p < f → symsF dl dd zs most win f p out = symsF dl dd zs most win (f + 1) p out
  | 0, _, _, h => by omega
  | f + 1, p, out, h => by
    rw [symsF, symsF]
    exact symsStep_congr dl dd zs most win p out _ _ (fun q o h1 h2 => symsF_more dl dd zs most win f q o (by omega))
def syms (dl dd : Nat → Option (Nat × Nat)) (zs : List Int) (most win : Int) (p : Nat) (out : List Int) : Res := symsF dl dd zs most win (8 * zs.length + 1) p out
theorem syms_eq (dl dd : Nat → Option (Nat × Nat)) (zs : List Int) (most win : Int) (p : Nat) (out : List Int) :
    syms dl dd zs most win p out = symsStep dl dd zs most win p out (syms dl dd zs most win) := by
  unfold syms
  rw [symsF]
  exact symsStep_congr dl dd zs most win p out _ _ (fun q o h1 h2 => symsF_more dl dd zs most win _ q o (by omega))
end Go.Proofs.YtbiibhpknflagaaDoor
