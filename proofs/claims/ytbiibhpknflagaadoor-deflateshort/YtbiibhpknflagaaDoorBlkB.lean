/- 'readBlock'. -/
import Derived.Test.YtbiibhpknflagaaDoorBlkA
import Derived.Test.YtbiibhpknflagaaDoorToldD
namespace Go.Proofs.YtbiibhpknflagaaDoor
open Go.RowKit Plain
set_option linter.unusedVariables false
set_option linter.unusedSimpArgs false

/-- 1.3: what a block of a kind says, from bit p on. -/
def bodyOf (zs : List Int) (most win : Int) (kind p : Nat) (out : List Int) : Res :=
  if kind = 0 then storedOf zs most p out
  else if kind = 1 then syms (dec (cntOf fixLens) (srtOf fixLens) zs) (dec (cntOf fixDist) (srtOf fixDist) zs) zs most win p out
  else if kind = 2 then match toldOf zs p with
    | some (l, d, q) => syms (dec (cntOf l) (srtOf l) zs) (dec (cntOf d) (srtOf d) zs) zs most win q out
    | none => .error 10
  else .error 10
def PostB (E : Env) (B : Nat) (v : Value) (w : World) (b : Bool) (r : Res) (e : Ending) (w' : World) : Prop :=
  match r with
  | .ok (p, out) => e = .returned (.bool b) ∧ ∃ v', St w' E B p v' out ∧ Kept E.S v v' w w'
  | .error k => e = .panicked (errv k) ∧ ∃ v', Kept E.S v v' w w'

theorem Kept.ofBelow {S : Nat} {w w' : World} (hb : Below w.heap.size w w') : Kept S (.bool true) (.bool true) w w' :=
  ⟨hb.os, hb.tape, hb.output, hb.size, fun k h1 _ _ => hb.block k h1, .inl rfl⟩
theorem St.vlt {w : World} {E : Env} {B p : Nat} {v : Value} {out : List Int} (h : St w E B p v out) : ∀ k, v.ownBlock = some k → k < w.heap.size := by
  intro k hk
  rcases h.own.2 with ⟨hv, _⟩ | ⟨g, cap, cur, hv, hb, hg, _⟩
  · rw [hv] at hk; cases hk
  · rw [hv] at hk
    simp only [Value.ownBlock, Option.some.injEq] at hk
    subst hk
    rcases Nat.lt_or_ge g w.heap.size with hlt | hge
    · exact hlt
    · rw [Array.getElem?_eq_none hge] at hg; cases hg

theorem fix_len : fixLens.length ≤ 400 := by simp [fixLens]
theorem fix_pos : 0 < fixLens.length := by simp [fixLens]
theorem fixd_len : fixDist.length ≤ 400 := by decide
theorem fixd_pos : 0 < fixDist.length := by decide

set_option maxRecDepth 20000 in
set_option maxHeartbeats 1000000 in
theorem readBlock_short (E : Env) (p : Nat) (v : Value) (w : World) (hz : IsB E.zs) (hl : E.zs.length ≤ 400000) (h : Rd w E p v) (hs : 8 * E.zs.length < p + 3) :
    Calls Tryd.prog 21 #[.pointer (some ⟨E.S, 0, none⟩)] w fun e w' => e = .panicked (errv 10) ∧ Kept E.S (.bool true) (.bool true) w w' := by
  go_enter Tryd.func21, Tryd.ntmps21
  by_cases h1 : 8 * E.zs.length < p + 1
  · go_wp2_with fail
    refine (number_bad E p 1 v w hz hl (by omega) h h1).mono ?_
    rintro e w1 ⟨rfl, k1⟩
    exact ⟨rfl, rfl, k1⟩
  go_wp2_with fail
  refine (number_ok E p 1 v w hz hl (by omega) h (by omega)).mono ?_
  rintro e w1 ⟨rfl, r1, k1⟩
  go_wp2_with fail
  refine (number_bad E (p + 1) 2 v w1 hz hl (by omega) r1 (by omega)).mono ?_
  rintro e w2 ⟨rfl, k2⟩
  exact ⟨rfl, rfl, k1.trans k2⟩

set_option maxRecDepth 20000 in
set_option maxHeartbeats 2000000 in
theorem readBlock_any (E : Env) (B p : Nat) (v : Value) (out : List Int) (w : World) (hz : IsB E.zs) (hl : E.zs.length ≤ 400000) (h : St w E B p v out) (hm : E.most ≤ 400000) (hcap : E.zs.length ≤ E.cap) (hw2 : E.win ≤ 40000) (hw3 : 0 ≤ E.win) (ht : Tabs w E v) (hs : p + 3 ≤ 8 * E.zs.length) :
    Calls Tryd.prog 21 #[.pointer (some ⟨E.S, 0, none⟩)] w (PostB E B v w (((getB E.zs p 1 : Nat) : Int) == 1) (bodyOf E.zs E.most E.win (getB E.zs (p + 1) 2) (p + 1 + 2) out)) := by
  obtain ⟨r, HR0⟩ : ∃ r, Hid (bodyOf E.zs E.most E.win (getB E.zs (p + 1) 2) (p + 1 + 2) out = r) := ⟨_, rfl⟩
  rw [HR0.out]
  obtain ⟨g, HG⟩ : ∃ g, Hid (g = getB E.zs p 1) := ⟨_, rfl⟩
  rw [← HG.out]
  have hr := h.rd
  go_enter Tryd.func21, Tryd.ntmps21
  go_wp2_with fail
  refine (number_ok E p 1 v w hz hl (by omega) hr (by omega)).mono ?_
  rintro e w1 ⟨rfl, r1, k1⟩
  rw [← HG.out]
  go_wp2_with fail
  refine (number_ok E (p + 1) 2 v w1 hz hl (by omega) r1 (by omega)).mono ?_
  rintro e w2 ⟨rfl, r2, k2⟩
  have K2 := k1.trans k2
  have S2 : St w2 E B (p + 1 + 2) v out := h.read r2 K2
  have T2 : Tabs w2 E v := ht.kept (K2.weak v)
  have gk := getB_lt E.zs (p + 1) 2
  obtain ⟨k, HKd⟩ : ∃ k, Hid (k = getB E.zs (p + 1) 2) := ⟨_, rfl⟩
  rw [← HKd.out] at gk ⊢
  have HR1 : Hid (bodyOf E.zs E.most E.win k (p + 1 + 2) out = r) := by show _ = _; rw [HKd.out]; exact HR0.out
  have hS2 := S2.rd.lt.1
  have hv2 := S2.vlt
  have hk4 : k < 4 := by omega
  clear HR0 HKd gk hr r1 h ht hs
  by_cases h0 : k = 0
  · subst h0
    have e0 : storedOf E.zs E.most (p + 1 + 2) out = r := HR1.out
    go_wp2_with fail
    refine (readStored_any E B (p + 1 + 2) v out w2 hz hl S2 hm hcap).mono ?_
    rw [e0]
    clear e0 HR1
    rintro e w4 hP
    rcases r with k4 | ⟨q4, o4⟩
    · obtain ⟨rfl, v4, K4⟩ := hP
      exact ⟨rfl, rfl, v4, (K2.weak v).trans K4⟩
    · obtain ⟨rfl, v4, S4, K4⟩ := hP
      go_wp2
      go_ret
      exact ⟨rfl, v4, S4, (K2.weak v).trans K4⟩
  by_cases h1 : k = 1
  · subst h1
    have e0 : syms (dec (cntOf fixLens) (srtOf fixLens) E.zs) (dec (cntOf fixDist) (srtOf fixDist) E.zs) E.zs E.most E.win (p + 1 + 2) out = r := HR1.out
    go_wp2_with fail
    refine (fixedCodes_any E.S w2).mono ?_
    rintro e w3 ⟨L, M, rfl, hb3, nL, nM⟩
    have k3 : Kept E.S (.bool true) (.bool true) w2 w3 := Kept.ofBelow hb3
    have S3 : St w3 E B (p + 1 + 2) v out := S2.read (S2.rd.below hb3) k3
    have T3 : Tabs w3 E v := T2.kept (k3.weak v)
    have K3 := K2.trans k3
    unfold codeV
    go_wp2_with fail
    refine (readSymbols_any E B (p + 1 + 2) v out w3 hz hl S3 hm hw2 hw3 T3 L M _ _ _ _ (nL.codeAt hS2 hv2) (nM.codeAt hS2 hv2) (codeOK_of _ fix_len) (codeOK_of _ fixd_len) (fun i => by have := srtOf_lt fixLens fix_pos i; have := fix_len; omega) (fun i => by have := srtOf_lt fixDist fixd_pos i; have := fixd_len; omega)).mono ?_
    rw [e0]
    clear e0 HR1
    rintro e w4 hP
    rcases r with k4 | ⟨q4, o4⟩
    · obtain ⟨rfl, v4, K4⟩ := hP
      exact ⟨rfl, rfl, v4, (K3.weak v).trans K4⟩
    · obtain ⟨rfl, v4, S4, K4⟩ := hP
      go_wp2
      go_ret
      exact ⟨rfl, v4, S4, (K3.weak v).trans K4⟩
  by_cases h2 : k = 2
  · subst h2
    have e0 : (match toldOf E.zs (p + 1 + 2) with
      | some (l, d, q) => syms (dec (cntOf l) (srtOf l) E.zs) (dec (cntOf d) (srtOf d) E.zs) E.zs E.most E.win q out
      | none => .error 10) = r := HR1.out
    have HE0 : Hid (_ = r) := e0
    clear e0
    go_wp2_with fail
    refine (toldCodes_any E (p + 1 + 2) v w2 hz hl r2 T2 hv2).mono ?_
    rintro e w3 ⟨k3, hP3⟩
    have e0 := HE0.out
    clear HE0 HR1
    obtain ⟨tt, HTT⟩ : ∃ tt, toldOf E.zs (p + 1 + 2) = tt := ⟨_, rfl⟩
    rw [HTT] at hP3 e0
    rcases tt with _ | ⟨l, d, q⟩
    · simp only at hP3 e0
      subst hP3 e0
      exact ⟨rfl, rfl, v, (K2.trans k3).weak v⟩
    · simp only at hP3 e0
      obtain ⟨r3, hl1, hl2, hd1, hd2, L, M, rfl, nL, nM⟩ := hP3
      have S3 : St w3 E B q v out := S2.read r3 k3
      have T3 : Tabs w3 E v := T2.kept (k3.weak v)
      have K3 := K2.trans k3
      have HR1 : Hid (_ = r) := e0
      unfold codeV
      go_wp2_with fail
      refine (readSymbols_any E B q v out w3 hz hl S3 hm hw2 hw3 T3 L M _ _ _ _ (nL.codeAt hS2 hv2) (nM.codeAt hS2 hv2) (codeOK_of _ hl1) (codeOK_of _ hd1) (fun i => by have := srtOf_lt l hl2 i; omega) (fun i => by have := srtOf_lt d hd2 i; omega)).mono ?_
      rw [e0]
      clear e0 HR1
      rintro e w4 hP
      rcases r with k4 | ⟨q4, o4⟩
      · obtain ⟨rfl, v4, K4⟩ := hP
        exact ⟨rfl, rfl, v4, (K3.weak v).trans K4⟩
      · obtain ⟨rfl, v4, S4, K4⟩ := hP
        go_wp2
        go_ret
        exact ⟨rfl, v4, S4, (K3.weak v).trans K4⟩
  have hk3 : k = 3 := by omega
  subst hk3
  obtain rfl : Except.error 10 = r := HR1.out
  go_wp2
  exact ⟨rfl, rfl, v, K2.weak v⟩
end Go.Proofs.YtbiibhpknflagaaDoor
