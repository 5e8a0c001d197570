import Derived.Test.YtenbdeljblmbhaaGreatDoorMt07
import Derived.Test.YtenbdeljblmbhaaGreatDoorMt25
import Derived.Test.YtenbdeljblmbhaaGreatDoorMt17
import Derived.Lib.AppendStr
import Derived.Maps.AppendAt
import Derived.Test.YtenbdeljblmbhaaGreatDoorMt24
import Derived.Test.YtenbdeljblmbhaaGreatDoorMt31
import Derived.Test.YtenbdeljblmbhaaGreatDoorMt09
/- The document's side of chapter 3: 'Encode'. -/
namespace Go.Proofs.YtenbdeljblmbhaaGreatDoor
open Go.RowKit
set_option linter.unusedVariables false
set_option linter.unusedSimpArgs false
/-- Bytes of one's own, made since. -/
structure Bd (w0 w : World) (B : Nat) (v : Value) (out : List Int) : Prop where
  below : Below B w0 w
  own : w.ownsRow B 5 1 v out.length (out.map (Value.int .u8))
  le : B ≤ w.heap.size
theorem Bd.alloc {w0 w : World} {B : Nat} {v : Value} {out : List Int} (h : Bd w0 w B v out) (o : Obj) : Bd w0 (w.alloc o) B v out :=
  ⟨h.below.alloc h.le o, h.own.alloc o, Nat.le_trans h.le (by simp)⟩
theorem bd_nil (w : World) (B : Nat) (h : B ≤ w.heap.size) : Bd w w B (.slice none 0 0) [] := ⟨Below.refl _ _, ⟨rfl, .inl ⟨rfl, rfl⟩⟩, h⟩
theorem sl_one (w : World) (c : Int) : Sl (w.alloc (.cells #[.int .u8 c] 5)) (some ⟨w.heap.size, 0, none⟩) 1 [c] :=
  ⟨by simp, fun _ => ⟨w.heap.size, 0, rfl, by simp, fun i hi => by
    have : i = 0 := by simpa using hi
    subst this
    simp⟩, fun h => by cases h⟩
theorem strCells_nums (l : List UInt8) : Lib.strCells ⟨l.toArray⟩ = (nums l).map (Value.int .u8) := by simp [Lib.strCells, nums]
section
variable {w w0 : World} {ops : Array Oper} {rest : List Oper} {o : Oper} {a : Act} {Q : Exit → Act → World → Prop}
theorem wpList_bd_str (hgd : o.guard = none) (s x : Operand) (ho : o.op = .call { callee := .builtin .append, args := #[s, x], argTypes := #[23, 9] }) (B : Nat) (v : Value) (out : List Int) (hs : a.eval s = v) (h : Bd w0 w B v out)
    (l : List UInt8) (hx : a.eval x = .string ⟨l.toArray⟩) (hl : out.length + l.length ≤ 1000000)
    (hK : ∀ v' w', Bd w0 w' B v' (out ++ nums l) → wpList Tryz.prog ops Q rest (a.put o.dst v') w') : wpList Tryz.prog ops Q (o :: rest) a w := by
  obtain ⟨i5, hi, hz0, hz1, hz2⟩ := info_parts Tryz.info5
  have hsz : (⟨l.toArray⟩ : ByteArray).size = l.length := by simp [ByteArray.size]
  refine Lib.wpList_append_own_string w hgd s x 23 9 ho B 5 i5 Tryz.underlying23 Tryz.underlying9 hi hz0 hz1 hz2 v out.length _ hs h.own ⟨l.toArray⟩ hx (by rw [hsz]; unfold maxLen; omega) (by rw [hsz]; omega) h.le ?_
  intro v' w' h1 h2 h3
  refine hK v' w' ⟨h.below.grown h2 h.le (fun k hk => (own_lt h.own k hk).1), ?_, Nat.le_trans h.le h2.size⟩
  rw [List.length_append, nums_len, List.map_append, ← strCells_nums]
  rw [hsz] at h1
  exact h1
theorem wpList_bd_sl (hgd : o.guard = none) (s x : Operand) (ho : o.op = .call { callee := .builtin .append, args := #[s, x], argTypes := #[23, 23] }) (B : Nat) (v : Value) (out : List Int) (hs : a.eval s = v) (h : Bd w0 w B v out)
    (ax : Option Addr) (cx : Nat) (l : List Int) (hx : a.eval x = .slice ax l.length cx) (hS : Sl w ax cx l) (hl : out.length + l.length ≤ 1000000)
    (hK : ∀ v' w', Bd w0 w' B v' (out ++ l) → wpList Tryz.prog ops Q rest (a.put o.dst v') w') : wpList Tryz.prog ops Q (o :: rest) a w := by
  obtain ⟨i5, hi, hz0, hz1, hz2⟩ := info_parts Tryz.info5
  cases ax with
  | none =>
    have hc : cx = 0 := hS.nil rfl
    have hcl := hS.capl
    obtain rfl : l = [] := List.length_eq_zero_iff.1 (by omega)
    subst hc
    refine wpList_plain hgd fun K hK' => ?_
    have hr := run_append_owned_none (P := Tryz.prog) w B 23 o.type 5 i5 1 Tryz.underlying23 hi v _ _ h.own
    unfold Oper.wp execOp
    simp only [List.length_nil] at hx
    simp only [ho, resolve, invoke, builtin, Sem.run_bind, Sem.run_pure, Result.andThen_ok, List.map_toArray, List.map_cons, List.map_nil, hs, hx, hr]
    exact hK' _ _ (hK v w (by simpa using h))
  | some ad =>
    refine wpList_append_own_at w hgd s x 23 ho B 5 i5 (.int .u8 0) 1 1 Tryz.underlying23 hi hz0 hz1 hz2 rfl (by decide) v _ _ hs h.own ad l.length cx (l.map (Value.int .u8)) hx (by simp) ?_ (ints_oneCell .u8 l) (by unfold maxLen; omega) (by omega) h.le ?_
    · intro j z hj
      rw [List.getElem?_map] at hj
      cases hc : l[j]? with
      | none => rw [hc] at hj; cases hj
      | some y =>
        rw [hc] at hj; cases hj
        have hlt := (List.getElem?_eq_some_iff.1 hc).1
        obtain ⟨b, off, e1, e2, e3⟩ := hS.at_ (by omega)
        cases e1
        have := e3 j hlt
        rw [addr_add]
        simpa [List.getD_eq_getElem?_getD, hc] using this
    · intro v' w' h1 h2 h3 h4
      refine hK v' w' ⟨h.below.grown h2 h.le (fun k hk => (own_lt h.own k hk).1), ?_, Nat.le_trans h.le h2.size⟩
      rw [List.length_append, List.map_append]
      exact h1
end
end Go.Proofs.YtenbdeljblmbhaaGreatDoor
/- The document's side of chapter 3: 'Encode', its walk. -/
namespace Go.Proofs.YtenbdeljblmbhaaGreatDoor
open Go.RowKit
set_option linter.unusedVariables false
set_option linter.unusedSimpArgs false
/-- What the document's 'Encode' gives. -/
def PostR (k : Int) (zs : List Int) (w : World) (e : Ending) (w' : World) : Prop :=
  Below w.heap.size w w' ∧ ((errE k zs.length ≠ 0 ∧ e = .returned (.tuple #[.slice none 0 0, .int .i64 (errE k zs.length)])) ∨
    (errE k zs.length = 0 ∧ ∃ g cap' : Nat, e = .returned (.tuple #[.slice (some ⟨g, 0, none⟩) (encZ k zs).length cap', .int .i64 0]) ∧ w.heap.size ≤ g ∧ g < w'.heap.size ∧ At w' g 0 (encZ k zs) ∧ (encZ k zs).length ≤ cap'))
theorem Bd.carry {w0 w w' : World} {B : Nat} {v : Value} {out : List Int} (h : Bd w0 w B v out) (hb : Below w.heap.size w w') : Bd w0 w' B v out :=
  ⟨h.below.trans (hb.mono h.le), h.own.kept (row := none) ⟨hb.os, hb.tape, hb.output, hb.size, fun k hk _ => hb.block k hk⟩ (by cases h : v.ownBlock <;> simp), Nat.le_trans h.le hb.size⟩
theorem bd_form {w0 w : World} {B : Nat} {v : Value} {out : List Int} (h : Bd w0 w B v out) (h0 : 0 < out.length) : ∃ g cap, v = .slice (some ⟨g, 0, none⟩) out.length cap ∧ B ≤ g ∧ g < w.heap.size ∧ At w g 0 out ∧ out.length ≤ cap := by
  obtain ⟨g, cap, rfl, h1, h2⟩ := h.own.form h0
  refine ⟨g, cap, rfl, h1, h2, ?_, ?_⟩
  · intro i hi
    rw [Nat.zero_add, h.own.cellAt i (by simpa using hi), List.getElem?_map, List.getElem?_eq_getElem hi]
    simp [List.getD_eq_getElem?_getD, List.getElem?_eq_getElem hi]
  · obtain ⟨_, ⟨hv, _⟩ | ⟨g2, cap2, cur, hv, _, _, hnc, _⟩⟩ := h.own
    · cases hv
    · simp only [Value.slice.injEq] at hv
      omega
theorem errE_20 (k : Int) (n : Nat) (h : (kN k).toList.isEmpty = true) : errE k n = 20 := by unfold errE; rw [if_pos h]
theorem errE_11 (k : Int) (n : Nat) (h : ¬ (kN k).toList.isEmpty = true) (h2 : 100000 < n) : errE k n = 11 := by unfold errE; rw [if_neg h, if_pos h2]
theorem errE_0 (k : Int) (n : Nat) (h : ¬ (kN k).toList.isEmpty = true) (h2 : ¬ 100000 < n) : errE k n = 0 := by unfold errE; rw [if_neg h, if_neg h2]
set_option maxRecDepth 20000 in
set_option maxHeartbeats 2000000 in
theorem refEncode_any (k : Int) (a : Option Addr) (cap : Nat) (zs : List Int) (w : World) (hl : zs.length ≤ 300000) (hS : Sl w a cap zs) :
    Calls Tryz.prog 14 #[.agg #[.int .i64 k, .slice a zs.length cap]] w (PostR k zs w) := by
  obtain ⟨n, HN⟩ : ∃ n, Hid (zs.length = n) := ⟨_, rfl⟩
  obtain ⟨S, HSS⟩ : ∃ S : ByteArray, Hid (kN k = S) := ⟨_, rfl⟩
  have HK : Hid (∀ w, Calls Tryz.prog 37 #[.int .i64 k] w fun e w' => e = .returned (.string S) ∧ w' = w) := fun w => by rw [← HSS.out]; exact name_any k w
  have hln : n ≤ 300000 := by rw [← HN.out]; exact hl
  obtain ⟨G, HG⟩ : ∃ G, Hid (w.heap.size = G) := ⟨_, rfl⟩
  obtain ⟨w0, HW0⟩ : ∃ w0, Hid (w.alloc (.cells #[.int .i64 k, .slice a n cap] 39) = w0) := ⟨_, rfl⟩
  have HB0 : Hid (Below G w w0) := hid (by rw [← HW0.out, ← HG.out]; exact (Below.refl _ w).alloc (Nat.le_refl _) _)
  have hs0 : w0.heap.size = G + 1 := by rw [← HW0.out, ← HG.out]; simp
  have hc0 : w0.cell? ⟨G, 0, none⟩ = some (.int .i64 k) := by rw [← HW0.out, ← HG.out]; simp
  have hc1 : w0.cell? ⟨G, 1, none⟩ = some (.slice a n cap) := by rw [← HW0.out, ← HG.out]; simp
  rw [HN.out]
  by_cases he : S.toList.isEmpty = true
  · have hE : errE k zs.length = 20 := errE_20 k _ (by rw [HSS.out]; exact he)
    go_enter Tryz.func14, Tryz.ntmps14
    go_wp2_with fail
    rw [HG.out, HW0.out]
    refine (HK.out _).mono ?_
    rintro ev w' ⟨rfl, rfl⟩
    go_wp2
    go_ret2
    refine ⟨by rw [HG.out]; exact HB0.out, .inl ⟨by rw [hE]; decide, ?_⟩⟩
    rw [hE]
    rfl
  · by_cases h2 : 100000 < n
    · have hE : errE k zs.length = 11 := errE_11 k _ (by rw [HSS.out]; exact he) (by rw [HN.out]; exact h2)
      have h2i : (100000 : Int) < n := by omega
      go_enter Tryz.func14, Tryz.ntmps14
      go_wp2_with fail
      rw [HG.out, HW0.out]
      refine (HK.out _).mono ?_
      rintro ev w' ⟨rfl, rfl⟩
      go_wp2
      go_ret2
      refine ⟨by rw [HG.out]; exact HB0.out, .inl ⟨by rw [hE]; decide, ?_⟩⟩
      rw [hE]
      rfl
    · have hE : errE k zs.length = 0 := errE_0 k _ (by rw [HSS.out]; exact he) (by rw [HN.out]; exact h2)
      have h2i : ¬ (100000 : Int) < n := by omega
      obtain ⟨L1, HL1⟩ : ∃ L1 : List UInt8, Hid (L1 = (kN k).data.toList) := ⟨_, rfl⟩
      have hL1 : L1.length ≤ 6 := by rw [HL1.out]; exact kN_len k
      have hSL : S = ⟨L1.toArray⟩ := by rw [HL1.out, ← HSS.out]
      have hL1e : L1.isEmpty = false := by
        have h := he
        rw [hSL, Lib.toList_data] at h
        simpa using h
      obtain ⟨L2, HL2⟩ : ∃ L2 : List UInt8, Hid (L2 = Lib.decDigits n) := ⟨_, rfl⟩
      have hL2 : L2.length ≤ 6 := by rw [HL2.out]; exact dig_len 5 n (by omega)
      have HD : Hid (∀ w, Calls Tryz.prog 38 #[.int .i64 n] w fun e w' => e = .returned (.string ⟨L2.toArray⟩) ∧ Below w.heap.size w w') := fun w => by rw [HL2.out]; exact decimal_any n (by omega) w
      have HSl : Hid (∀ W, Below G w W → Sl W a cap zs) := fun W hW => hS.below (by rw [HG.out]; exact hW)
      clear hS
      go_enter Tryz.func14, Tryz.ntmps14
      go_wp2_with fail
      rw [HG.out, HW0.out]
      refine (HK.out _).mono ?_
      rintro ev w' ⟨rfl, rfl⟩
      have hbd0 : Bd w' w' (G + 1) (.slice none 0 0) [] := bd_nil w' (G + 1) (by omega)
      have HC : Hid (∀ W, Below (G + 1) w' W → W.cell? ⟨G, 1, none⟩ = some (.slice a n cap)) := fun W hW => (hW.cell (p := ⟨G, 1, none⟩) (show G < G + 1 by omega)).trans hc1
      go_wp2_with (first
        | (at_builtin; refine wpList_bd_str rfl _ _ rfl (G + 1) _ _ rfl hbd0 L1 rfl (by simp; omega) ?_; intro v1 w1 hbd1; clear hbd0)
        | (at_builtin; refine wpList_bd_sl rfl _ _ rfl (G + 1) _ _ rfl (hbd1.alloc _) _ _ [32] rfl (sl_one _ _) (by simp [nums_len]; omega) ?_; intro v2 w2 hbd2; clear hbd1; have hcw2 := HC.out w2 hbd2.below)
        | (go_at_call 38; refine (HD.out _).mono ?_; rintro ev w3 ⟨rfl, hb3⟩; have hbd3 := hbd2.carry hb3; clear hbd2 hb3 hcw2)
        | (at_builtin; refine wpList_bd_str rfl _ _ rfl (G + 1) _ _ rfl hbd3 L2 rfl (by simp [nums_len]; omega) ?_; intro v4 w4 hbd4; clear hbd3)
        | (at_builtin; refine wpList_bd_sl rfl _ _ rfl (G + 1) _ _ rfl (hbd4.alloc _) _ _ [0] rfl (sl_one _ _) (by simp [nums_len]; omega) ?_; intro v5 w5 hbd5; clear hbd4; have hcw5 := HC.out w5 hbd5.below)
        | (at_builtin; refine wpList_bd_sl rfl _ _ rfl (G + 1) _ _ rfl hbd5 a cap zs (by rw [HN.out]; rfl) (HSl.out _ (HB0.out.trans (hbd5.below.mono (by omega)))) (by simp [nums_len]; omega) ?_; intro v6 w6 hbd6; clear hbd5 hcw5))
      go_ret2
      have hout : [] ++ nums L1 ++ [32] ++ nums L2 ++ [0] ++ zs = encZ k zs := by
        unfold encZ hd h0
        rw [HN.out, ← HL1.out, ← HL2.out]
        simp [nums]
      rw [hout] at hbd6
      obtain ⟨g, c6, rfl, h1, h3, h4, h5⟩ := bd_form hbd6 (by rw [← hout]; simp; omega)
      exact ⟨by rw [HG.out]; exact HB0.out.trans (hbd6.below.mono (by omega)), .inr ⟨hE, g, c6, rfl, by rw [HG.out]; omega, h3, h4, h5⟩⟩
end Go.Proofs.YtenbdeljblmbhaaGreatDoor
/- Package object: WriteTree. -/
namespace Go.Proofs.YtenbdeljblmbhaaGreatDoor
open Go.RowKit
set_option linter.unusedVariables false
set_option linter.unusedSimpArgs false
/-- What 'WriteTree' gives. -/
def PostW (es : List Er) (w : World) (e : Ending) (w' : World) : Prop := Below w.heap.size w w' ∧
  ((okL es ∧ ∃ a cap, e = .returned (.tuple #[.slice a (treeB (srtE es)).length cap, .nilIface]) ∧ Sl w' a cap (nums (treeB (srtE es)))) ∨ (¬ okL es ∧ e = .returned (.tuple #[.slice none 0 0, .iface 35 (.int .i64 21)])))
theorem Bd.sl {w0 w : World} {B : Nat} {v : Value} {out : List Int} (h : Bd w0 w B v out) : ∃ a cap, v = .slice a out.length cap ∧ Sl w a cap out := by
  by_cases h0 : 0 < out.length
  · obtain ⟨g, cap, rfl, h1, h2, h3, h4⟩ := bd_form h h0
    exact ⟨_, cap, rfl, ⟨h4, fun _ => ⟨g, 0, rfl, h2, h3⟩, fun h => by cases h⟩⟩
  · have hz : out.length = 0 := by omega
    obtain ⟨_, ⟨rfl, _⟩ | ⟨g, cap, cur, rfl, _, hh, hnc, _⟩⟩ := h.own
    · exact ⟨none, 0, by rw [hz], ⟨by omega, fun h => absurd h h0, fun _ => rfl⟩⟩
    · exact ⟨some ⟨g, 0, none⟩, cap, rfl, ⟨hnc, fun h => absurd h h0, fun h => by cases h⟩⟩
theorem Bd.str {w0 w : World} {B : Nat} {v : Value} {out : List Int} (h : Bd w0 w B v out) (l : List UInt8) (hl : out.length + l.length ≤ 1000000) :
    ∃ v' w', (Builtin.append_ #[23, 9] 23 #[v, .string ⟨l.toArray⟩]).run Tryz.prog w = .ok v' w' ∧ Bd w0 w' B v' (out ++ nums l) ∧ w.grownBy w' v.ownBlock := by
  obtain ⟨i5, hi, hz0, hz1, hz2⟩ := info_parts Tryz.info5
  have hsz : (⟨l.toArray⟩ : ByteArray).size = l.length := by simp [ByteArray.size]
  obtain ⟨v', w', hr, h1, h2, _⟩ := Lib.run_append_own_string (P := Tryz.prog) w B 23 9 23 5 i5 Tryz.underlying23 Tryz.underlying9 hi hz0 hz1 hz2 v out.length _ h.own ⟨l.toArray⟩ (by rw [hsz]; unfold maxLen; omega) (by rw [hsz]; omega) h.le
  refine ⟨v', w', hr, ⟨h.below.grown h2 h.le (fun k hk => (own_lt h.own k hk).1), ?_, Nat.le_trans h.le h2.size⟩, h2⟩
  rw [List.length_append, nums_len, List.map_append, ← strCells_nums]
  rw [hsz] at h1
  exact h1
/-- What the drawn region reads of an entry. -/
structure QW (K : Nat) (m : Int) (N : ByteArray) (W : World) : Prop where
  c0 : W.cell? ⟨K, 0, none⟩ = some (.int .i64 m)
  c1 : W.cell? ⟨K, 1, none⟩ = some (.string N)
theorem QW.below {K : Nat} {m : Int} {N : ByteArray} {W W' : World} (h : QW K m N W) (hb : Below W.heap.size W W') (hK : K < W.heap.size) : QW K m N W' :=
  ⟨(hb.cell (p := ⟨K, 0, none⟩) hK).trans h.c0, (hb.cell (p := ⟨K, 1, none⟩) hK).trans h.c1⟩
theorem QW.grown {K : Nat} {m : Int} {N : ByteArray} {W W' : World} {r : Option Nat} (h : QW K m N W) (hg : W.grownBy W' r) (hK : K < W.heap.size) (hne : r ≠ some K) : QW K m N W' :=
  ⟨(World.cell?_of_block (a := ⟨K, 0, none⟩) (hg.block K hK (fun e => hne e.symm))).trans h.c0, (World.cell?_of_block (a := ⟨K, 1, none⟩) (hg.block K hK (fun e => hne e.symm))).trans h.c1⟩
theorem enter47 (v : Value) (w : World) : (callFunc 47 [v].toArray).run Tryz.prog w = .ok (.enter 47 [v].toArray) w := by kernel_rfl
theorem enter46' (v : Value) (w : World) : (callFunc 46 [v].toArray).run Tryz.prog w = .ok (.enter 46 [v].toArray) w := by kernel_rfl
theorem words_two (x y : List UInt8) (w1 w2 : World) (hx : x.length + y.length ≤ 100000) (h : w2 = w1.alloc (.cells #[.string ⟨x.toArray⟩, .string ⟨y.toArray⟩] 9)) :
    Calls Tryz.prog 46 #[.slice (some ⟨w1.heap.size, 0, none⟩) 2 2] w2 fun e w' => e = .returned (.string ⟨(x ++ 32 :: y).toArray⟩) ∧ Below w2.heap.size w2 w' := by
  subst h
  have hj : (Lib.join ([(⟨x.toArray⟩ : ByteArray), ⟨y.toArray⟩].map (·.data.toList)) [32]) = x ++ 32 :: y := by
    simp only [List.map_cons, List.map_nil, join_two]
  refine (words_any w1.heap.size 0 2 [⟨x.toArray⟩, ⟨y.toArray⟩] _ ?_ ?_ (by simp) (by simp) (by rw [hj]; simp; omega)).mono ?_
  · intro i z hz
    rcases i with _ | _ | i
    · simp at hz; subst hz; simp
    · simp at hz; subst hz; simp
    · simp at hz
  · simp
  · rintro e w' ⟨rfl, hb⟩
    rw [hj]
    exact ⟨rfl, hb⟩
theorem wpList_bd_slG {w w0 : World} {ops : Array Oper} {rest : List Oper} {o : Oper} {a : Act} {Q : Exit → Act → World → Prop} (hgd : o.guard = none) (s x : Operand) (ho : o.op = .call { callee := .builtin .append, args := #[s, x], argTypes := #[23, 23] }) (B : Nat) (v : Value) (out : List Int) (hs : a.eval s = v) (h : Bd w0 w B v out)
    (ax : Option Addr) (cx : Nat) (l : List Int) (hx : a.eval x = .slice ax l.length cx) (hS : Sl w ax cx l) (hl : out.length + l.length ≤ 1000000)
    (hK : ∀ v' w', Bd w0 w' B v' (out ++ l) → w.grownBy w' v.ownBlock → wpList Tryz.prog ops Q rest (a.put o.dst v') w') : wpList Tryz.prog ops Q (o :: rest) a w := by
  obtain ⟨i5, hi, hz0, hz1, hz2⟩ := info_parts Tryz.info5
  cases ax with
  | none =>
    have hc : cx = 0 := hS.nil rfl
    have hcl := hS.capl
    obtain rfl : l = [] := List.length_eq_zero_iff.1 (by omega)
    subst hc
    refine wpList_plain hgd fun K hK' => ?_
    have hr := run_append_owned_none (P := Tryz.prog) w B 23 o.type 5 i5 1 Tryz.underlying23 hi v _ _ h.own
    unfold Oper.wp execOp
    simp only [List.length_nil] at hx
    simp only [ho, resolve, invoke, builtin, Sem.run_bind, Sem.run_pure, Result.andThen_ok, List.map_toArray, List.map_cons, List.map_nil, hs, hx, hr]
    exact hK' _ _ (hK v w (by simpa using h) ⟨rfl, rfl, rfl, Nat.le_refl _, fun _ _ _ => rfl⟩)
  | some ad =>
    refine wpList_append_own_at w hgd s x 23 ho B 5 i5 (.int .u8 0) 1 1 Tryz.underlying23 hi hz0 hz1 hz2 rfl (by decide) v _ _ hs h.own ad l.length cx (l.map (Value.int .u8)) hx (by simp) ?_ (ints_oneCell .u8 l) (by unfold maxLen; omega) (by omega) h.le ?_
    · intro j z hj
      rw [List.getElem?_map] at hj
      cases hc : l[j]? with
      | none => rw [hc] at hj; cases hj
      | some y =>
        rw [hc] at hj; cases hj
        have hlt := (List.getElem?_eq_some_iff.1 hc).1
        obtain ⟨b, off, e1, e2, e3⟩ := hS.at_ (by omega)
        cases e1
        have := e3 j hlt
        rw [addr_add]
        simpa [List.getD_eq_getElem?_getD, hc] using this
    · intro v' w' h1 h2 h3 h4
      refine hK v' w' ⟨h.below.grown h2 h.le (fun k hk => (own_lt h.own k hk).1), ?_, Nat.le_trans h.le h2.size⟩ h2
      rw [List.length_append, List.map_append]
      exact h1
theorem Bd.ne {w0 w : World} {B K t : Nat} {v : Value} {out : List Int} {R : Array Value} (h : Bd w0 w B v out) (hb : w.heap[K]? = some (.cells R t (0, 0))) (ht : t ≠ 5) : v.ownBlock ≠ some K := by
  intro hk
  obtain ⟨_, ⟨rfl, _⟩ | ⟨g, cap, cur, rfl, _, h2, _⟩⟩ := h.own
  · cases hk
  · simp [Value.ownBlock] at hk
    subst hk
    rw [h2] at hb
    simp at hb
    exact ht hb.2.symm
theorem Bd.keep {w0 w w' : World} {B K t : Nat} {v : Value} {out : List Int} {R : Array Value} (h : Bd w0 w B v out) (hg : w.grownBy w' v.ownBlock) (hb : w.heap[K]? = some (.cells R t (0, 0))) (ht : t ≠ 5) : w'.heap[K]? = some (.cells R t (0, 0)) :=
  (hg.block K (lt_of_some hb) (fun e => h.ne hb ht e.symm)).trans hb
theorem id_sl {w : World} {K t : Nat} {x : Er} {R : List Value} (hR : erV x = R) (hb : w.heap[K]? = some (.cells R.toArray t (0, 0))) (hx : x.id.length = 20) : Sl w (some ⟨K, 2, none⟩) 20 x.id :=
  ⟨by omega, fun _ => ⟨K, 2, rfl, lt_of_some hb, fun j hj => by
    have hr := range_row hb
    rw [← hR] at hr
    have := hr (2 + j) (.int .u8 (x.id.getD j 0)) (by
      rw [Nat.add_comm 2 j]
      exact row_at .u8 x.id j hj)
    simpa using this⟩, fun h => by cases h⟩
theorem er_out (out : List Int) (x : Er) (h : ∀ n ∈ x.id, 0 ≤ n ∧ n < 256) : ((out ++ nums (octB x.mode ++ 32 :: x.name)) ++ [0]) ++ x.id = out ++ nums (erB x) := by
  have e1 : nums (erB x) = nums (octB x.mode ++ 32 :: x.name) ++ (0 :: x.id) := by
    unfold erB
    rw [show octB x.mode ++ 32 :: (x.name ++ 0 :: Lib.bytesOf x.id) = (octB x.mode ++ 32 :: x.name) ++ (0 :: Lib.bytesOf x.id) by simp, nums_app (octB x.mode ++ 32 :: x.name)]
    congr 1
    show 0 :: nums (Lib.bytesOf x.id) = _
    rw [nums_bytes x.id h]
  rw [e1]
  simp
set_option maxRecDepth 20000 in
set_option maxHeartbeats 4000000 in
theorem writeTree_any (a : Option Addr) (cap : Nat) (es : List Er) (hwf : WfE es) (hn : es.length ≤ 1000) (w : World) (hP : Pe w a cap es) (hd : Db w) :
    Calls Tryz.prog 18 #[.slice a es.length cap] w (PostW es w) := by
  obtain ⟨n, HN⟩ : ∃ n, Hid (es.length = n) := ⟨_, rfl⟩
  obtain ⟨G, HG⟩ : ∃ G, Hid (w.heap.size = G) := ⟨_, rfl⟩
  have hnn : n ≤ 1000 := by rw [← HN.out]; exact hn
  obtain ⟨zr, HZ⟩ : ∃ zr : Array Value, Hid (zr = (erV ⟨0, [], z20⟩).toArray) := ⟨_, rfl⟩
  have hz51 : ∀ w : World, (zeroValue 51).run Tryz.prog w = .ok (.agg zr) w := fun w => by rw [HZ.out]; exact zero51 w
  have HD : Hid (∀ W, Below G w W → Db W) := fun W hW => hd.below (by rw [HG.out]; exact hW)
  have HWF : Hid (WfE es) := hwf
  have C42 : Hid (Calls Tryz.prog 42 #[.slice a n cap] w fun e w' => BIs (okL es) e ∧ Below w.heap.size w w') := hid (by rw [← HN.out]; exact isTree_any a cap es hwf hn w hP)
  have HPA : Hid (∀ W, Below G w W → Pe W a cap es) := fun W hW => hP.below (by rw [HG.out]; exact hW)
  have HGS : Hid (G ≤ w.heap.size) := hid (by rw [HG.out]; exact Nat.le_refl _)
  rw [HN.out]
  clear hP hd hwf
  go_enter Tryz.func18, Tryz.ntmps18
  go_wp2_with fail
  refine C42.out.mono ?_
  rintro ev w1 ⟨hbi, hb1⟩
  rw [HG.out] at hb1
  have HB1 : Hid (Below G w w1) := hb1
  clear hb1
  rcases bis_or hbi with ⟨hok, rfl⟩ | ⟨hno, rfl⟩
  rotate_left
  · have HNO : Hid (¬ okL es) := hno
    clear hno hbi
    go_wp2
    go_ret2
    exact ⟨by rw [HG.out]; exact HB1.out, .inr ⟨HNO.out, rfl⟩⟩
  have HOK : Hid (okL es) := hok
  have HWN : Hid (WfN es) := fun x hx => ⟨(hok.1 x hx).2.2.1, (HWF.out x hx).1⟩
  clear hok hbi
  have hG1 : G ≤ w1.heap.size := Nat.le_trans HGS.out HB1.out.size
  obtain ⟨wv, HWV⟩ : ∃ wv, Hid (w1.alloc (.cells #[.slice a n cap] 47) = wv) := ⟨_, rfl⟩
  obtain ⟨Bs, HBs⟩ : ∃ B, Hid (w1.heap.size = B) := ⟨_, rfl⟩
  have HBV : Hid (Below G w wv) := hid (by rw [← HWV.out]; exact HB1.out.alloc hG1 _)
  have HBX : Hid (Boxed wv Bs 47 (.slice a n cap)) := hid (by rw [← HWV.out, ← HBs.out]; exact heap_alloc_new w1 _)
  have C44 : Hid (Calls Tryz.prog 44 #[.slice a n cap] w1 fun e w' => e = .returned (.func (.func 91) #[] #[.pointer (some ⟨Bs, 0, none⟩)]) ∧ w' = wv) := hid (by
    have := values_call a n cap w1
    rw [HWV.out, HBs.out] at this
    exact this)
  have C43 : Hid (Calls Tryz.prog 43 #[.func (.func 91) #[] #[.pointer (some ⟨Bs, 0, none⟩)], .func (.func 45) #[] #[]] wv (PostS wv es)) := hid
    (sortedFunc_any Bs a cap es wv HWF.out HWN.out (HPA.out _ HBV.out) hn (by rw [HN.out]; exact HBX.out))
  have hGv : G ≤ wv.heap.size := Nat.le_trans HGS.out HBV.out.size
  go_wp2_with (first
    | (go_at_call 44; refine C44.out.mono ?_; rintro ev w' ⟨rfl, hw'⟩; have hw'' := hw'.symm; subst hw''; clear hw')
    | (go_at_call 43; refine C43.out.mono ?_; rintro ev w2 ⟨a1, cap1, es', rfl, hpm, hsr, hpe, hb2⟩; rw [HN.out]; have hes := srtE_one es es' (okL_keys HOK.out) hpm hsr; subst hes; have HPM : Hid ((srtE es).Perm es) := hpm; have HPE2 : Hid (Pe w2 a1 cap1 (srtE es)) := hpe; have HB2 : Hid (Below G w w2) := HBV.out.trans (hb2.mono hGv); clear hpm hsr hpe hb2))
  obtain ⟨L, HL⟩ : ∃ L, Hid (srtE es = L) := ⟨_, rfl⟩
  obtain ⟨H, HH⟩ : ∃ H, Hid (w2.heap.size = H) := ⟨_, rfl⟩
  have HLN : Hid (L.length = n) := hid (by rw [← HL.out, HPM.out.length_eq]; exact HN.out)
  have HLX : Hid (∀ x ∈ L, okM x.mode ∧ okE x.name ∧ x.id.length = 20 ∧ ∀ k ∈ x.id, 0 ≤ k ∧ k < 256) := hid (by
    rw [← HL.out]
    intro x hx
    have hx' := HPM.out.subset hx
    exact ⟨(HOK.out.1 x hx').1, (HOK.out.1 x hx').2, HWF.out x hx'⟩)
  have HPL : Hid (∀ W, Below H w2 W → Pe W a1 cap1 L) := fun W hW => by
    rw [← HL.out]
    exact HPE2.out.below (by rw [HH.out]; exact hW)
  have HPB : Hid (0 < n → ∃ b off, a1 = some ⟨b, off, none⟩ ∧ b < H) := fun h0 => by
    obtain ⟨b, off, e1, e2, _⟩ := HPE2.out.at_ (by rw [HL.out, HLN.out]; exact h0)
    exact ⟨b, off, e1, by rw [← HH.out]; exact e2⟩
  have HD2 : Hid (∀ W, Below H w2 W → Db W) := fun W hW => HD.out W (HB2.out.trans (hW.mono (by rw [← HH.out]; exact Nat.le_trans HGS.out HB2.out.size)))
  have HGH : Hid (G ≤ H) := hid (by rw [← HH.out]; exact Nat.le_trans HGS.out HB2.out.size)
  have HTL : Hid (∀ i, (treeB (L.take i)).length ≤ 78000) := fun i => by
    have h1 := treeB_len (L.take i) (fun x hx => by
      have := HLX.out x (List.mem_of_mem_take hx)
      exact ⟨this.2.1.2.1, this.2.2.1⟩)
    have h2 : (L.take i).length ≤ 1000 := by rw [List.length_take, HLN.out]; omega
    omega
  go_wp2_with fail
  go_loopg [4, 15] n (fun g u iv wr => ∃ (i : Nat) (v : Value), v = u ∧ i ≤ n ∧ g = n - i ∧ iv = .int .i64 i ∧ Hid (Bd w2 wr H v (nums (treeB (L.take i)))))
  case atStart => exact ⟨0, _, rfl, Nat.zero_le _, rfl, rfl, hid (bd_nil w2 H (by rw [HH.out]; exact Nat.le_refl _))⟩
  case round =>
    obtain ⟨i, v, hv, hi, hk, rfl, HBD⟩ := hrel
    subst hv
    by_cases hlt : i < n
    · have hlti : (i : Int) < (n : Int) := by omega
      obtain ⟨b, off, hae, hbG⟩ := HPB.out (by omega)
      subst hae
      obtain ⟨b', off', e1, e2, e3⟩ := (HPL.out wr HBD.out.below).at_ (by rw [HLN.out]; omega)
      cases e1
      obtain ⟨x, HX⟩ : ∃ x, Hid (L.getD i default = x) := ⟨_, rfl⟩
      have hxm : x ∈ L := by
        rw [← HX.out, List.getD_eq_getElem?_getD, List.getElem?_eq_getElem (by rw [HLN.out]; exact hlt)]
        exact List.getElem_mem _
      have HXO : Hid (okM x.mode ∧ okE x.name ∧ x.id.length = 20 ∧ ∀ k ∈ x.id, 0 ≤ k ∧ k < 256) := hid (HLX.out x hxm)
      have hx20 := HXO.out.2.2.1
      obtain ⟨R, HR⟩ : ∃ R : List Value, Hid (erV x = R) := ⟨_, rfl⟩
      obtain ⟨S, HS⟩ : ∃ S : ByteArray, Hid ((⟨x.name.toArray⟩ : ByteArray) = S) := ⟨_, rfl⟩
      obtain ⟨m, HM⟩ : ∃ m, Hid (x.mode = m) := ⟨_, rfl⟩
      obtain ⟨O, HO⟩ : ∃ S : ByteArray, Hid ((⟨(octB m).toArray⟩ : ByteArray) = S) := ⟨_, rfl⟩
      have RR : Hid (wr.rangeAt b (off + i * 22) R) := hid (by rw [← HR.out, ← HX.out]; exact e3 i (by rw [HLN.out]; exact hlt))
      have HFN : Hid (R.length = 22) := hid (by rw [← HR.out]; exact erV_len x hx20)
      have hi51 : (Tryz.prog.info? 51).map (·.size) = some R.length := by rw [HFN.out]; exact size51
      have I51 : Hid ((Tryz.prog.info? 51).map (·.size) = some R.toArray.size) := hid (by rw [List.size_toArray]; exact hi51)
      have E51 : Hid (zr.size = R.toArray.size) := hid (by rw [HZ.out, List.size_toArray, List.size_toArray, HFN.out]; rfl)
      have O51 : Hid (R.toArray.all (·.oneCell') = true) := hid (by rw [← HR.out]; exact all_oneCell_toArray (erV_one _))
      have D0 : Hid ((wr.alloc (.cells zr 51)).heap[wr.heap.size]? = some (.cells zr 51 (0, 0))) := heap_alloc_new wr _
      obtain ⟨w3, HW3⟩ : ∃ w3, Hid ((wr.alloc (.cells zr 51)).setRow wr.heap.size R.toArray = w3) := ⟨_, rfl⟩
      obtain ⟨K, HK⟩ : ∃ K, Hid (wr.heap.size = K) := ⟨_, rfl⟩
      have hHK : H ≤ K := by rw [← HK.out]; exact HBD.out.le
      have hb3 : Below wr.heap.size wr w3 := by rw [← HW3.out]; exact below_setRow ((Below.refl _ wr).alloc (Nat.le_refl _) _) (Nat.le_refl _) _
      have B3 : Hid (w3.heap[K]? = some (.cells R.toArray 51 (0, 0))) := hid (by rw [← HW3.out, ← HK.out]; exact setRow_heap _ _ _ R.toArray _ _ D0.out)
      have hK3 : K < w3.heap.size := lt_of_some B3.out
      have HBD3 : Hid (Bd w2 w3.drew H v (nums (treeB (L.take i)))) := hid (HBD.out.carry (below_drewH hb3 1))
      have HQ3 : Hid (QW K m S w3.drew) := hid (by
        have hr := range_row B3.out
        rw [← HR.out] at hr
        exact ⟨by rw [← HM.out]; simpa using hr 0 _ rfl, by rw [← HS.out]; simpa using hr 1 _ rfl⟩)
      have HVB : Hid (∀ k, v.ownBlock = some k → k < K) := fun k hk => by rw [← HK.out]; exact (own_lt HBD.out.own k hk).2
      clear hb3 hxm e2 e3
      go_wp2_with (first
        | refine wpList_load_mid rfl 51 _ rfl b (off + i * 22) rfl R _ RR.out Tryz.underlying51 rfl hi51 ?_
        | (refine wpList_store_row rfl 51 _ _ rfl wr.heap.size R.toArray rfl rfl 51 zr D0.out I51.out E51.out O51.out ?_; rw [HW3.out, HK.out])
        | fail)
      refine wp_region_held_drew (S := QW K m S) (by kernel_rfl) (by exact HQ3.out) (fun hHeld => ?_)
      refine takeL (i := 0) (v := ?_) rfl (by kernel_rfl) (by kernel_rfl) (by kernel_rfl) (fun _ _ _ h => h) (Or.inl ⟨by rfl, ?_⟩) hHeld ?_
      rotate_left
      · rintro w' ⟨c0, c1⟩; go_simp; rfl
      try simp only [Act.put, List.setIfInBounds_toArray, List.set_cons_zero, List.set_cons_succ]
      refine takeL (i := 1) (v := ?_) rfl (by kernel_rfl) (by kernel_rfl) (by kernel_rfl) (fun _ _ _ h => h) (Or.inl ⟨by rfl, ?_⟩) hHeld ?_
      rotate_left
      · rintro w' ⟨c0, c1⟩; go_simp; rfl
      try simp only [Act.put, List.setIfInBounds_toArray, List.set_cons_zero, List.set_cons_succ]
      refine takeL (i := 2) (v := ?_) rfl (by kernel_rfl) (by kernel_rfl) (by kernel_rfl) (fun _ _ _ h => h) (Or.inl ⟨by rfl, ?_⟩) hHeld ?_
      rotate_left
      · rintro w' ⟨c0, c1⟩; go_simp; rfl
      try simp only [Act.put, List.setIfInBounds_toArray, List.set_cons_zero, List.set_cons_succ]
      refine takeL (i := 4) (v := ?_) rfl (by kernel_rfl) (by kernel_rfl) (by kernel_rfl) (fun _ _ _ h => h) (Or.inl ⟨by rfl, ?_⟩) hHeld ?_
      rotate_left
      · rintro w' ⟨c0, c1⟩; go_simp; rfl
      try simp only [Act.put, List.setIfInBounds_toArray, List.set_cons_zero, List.set_cons_succ]
      refine takeL (i := 5) (v := ?_) rfl (by kernel_rfl) (by kernel_rfl) (by kernel_rfl) (fun _ _ _ h => h) (Or.inl ⟨by rfl, ?_⟩) hHeld ?_
      rotate_left
      · rintro w' ⟨c0, c1⟩; go_simp; rfl
      try simp only [Act.put, List.setIfInBounds_toArray, List.set_cons_zero, List.set_cons_succ]
      have CM : Hid (Calls Tryz.prog 47 #[.int .i64 m] w3.drew fun e w' => e = .returned (.string O) ∧ Below w3.heap.size w3.drew w') := hid (by
        rw [← HO.out]
        exact modeText_any m (by rw [← HM.out]; exact HXO.out.1) w3.drew (HD2.out _ HBD3.out.below))
      refine wpAnyH_ready (rs := [3]) (by kernel_rfl) (by simp) ?_
      refine consL rfl (fun KK hKK => ?_) AllReadyH.nil
      refine step_callv (by rfl) 47 [.tmp 21] _ [.int .i64 m] _ (by rfl) (by rfl) (enter47 _) CM.out ?_
      rintro e w4 ⟨rfl, hb4⟩
      refine ⟨_, rfl, ?_⟩
      have HBD4 : Hid (Bd w2 w4 H v (nums (treeB (L.take i)))) := hid (HBD3.out.carry hb4)
      have HQ4 : Hid (QW K m S w4) := hid (HQ3.out.below hb4 hK3)
      have B4 : Hid (w4.heap[K]? = some (.cells R.toArray 51 (0, 0))) := hid ((hb4.block K hK3).trans B3.out)
      have hK4 : K < w4.heap.size := Nat.lt_of_lt_of_le hK3 hb4.size
      refine hKK.out _ _ HQ4.out (fun hHeld => ?_)
      clear hKK KK hb4
      try simp only [Act.put, List.setIfInBounds_toArray, List.set_cons_zero, List.set_cons_succ]
      obtain ⟨w5, HW5⟩ : ∃ w5, Hid (w4.alloc (.cells #[.string O, .string S] 9) = w5) := ⟨_, rfl⟩
      obtain ⟨q, HQB⟩ : ∃ q, Hid (w4.heap.size = q) := ⟨_, rfl⟩
      have hb5 : Below w4.heap.size w4 w5 := by rw [← HW5.out]; exact (Below.refl _ _).alloc (Nat.le_refl _) _
      have HBD5 : Hid (Bd w2 w5 H v (nums (treeB (L.take i)))) := hid (HBD4.out.carry hb5)
      have HQ5 : Hid (QW K m S w5) := hid (HQ4.out.below hb5 hK4)
      have B5 : Hid (w5.heap[K]? = some (.cells R.toArray 51 (0, 0))) := hid ((hb5.block K hK4).trans B4.out)
      have hK5 : K < w5.heap.size := Nat.lt_of_lt_of_le hK4 hb5.size
      clear hb5
      refine wpAnyH_ready (rs := [6]) (by kernel_rfl) (by simp) ?_
      refine consL rfl (fun KK hKK => ?_) AllReadyH.nil
      refine step_exec (by rfl) (.slice (some ⟨q, 0, none⟩) 2 2) (w' := w5) (by rw [← HW5.out, ← HQB.out]; go_simp) ?_
      refine hKK.out _ _ HQ5.out (fun hHeld => ?_)
      clear hKK KK
      try simp only [Act.put, List.setIfInBounds_toArray, List.set_cons_zero, List.set_cons_succ]
      have CW : Hid (Calls Tryz.prog 46 #[.slice (some ⟨q, 0, none⟩) 2 2] w5 fun e w' => e = .returned (.string ⟨(octB m ++ 32 :: x.name).toArray⟩) ∧ Below w5.heap.size w5 w') := hid (by
        rw [← HQB.out]
        exact words_two (octB m) x.name w4 w5 (by have := octB_len m; have := HXO.out.2.1.2.1; omega) (by rw [HO.out, HS.out, HW5.out]))
      refine wpAnyH_ready (rs := [7]) (by kernel_rfl) (by simp) ?_
      refine consL rfl (fun KK hKK => ?_) AllReadyH.nil
      refine step_callv (by rfl) 46 [.tmp 25] _ [.slice (some ⟨q, 0, none⟩) 2 2] _ (by rfl) (by rfl) (enter46' _) CW.out ?_
      rintro e w6 ⟨rfl, hb6⟩
      refine ⟨_, rfl, ?_⟩
      have HBD6 : Hid (Bd w2 w6 H v (nums (treeB (L.take i)))) := hid (HBD5.out.carry hb6)
      have HQ6 : Hid (QW K m S w6) := hid (HQ5.out.below hb6 hK5)
      have hK6 : K < w6.heap.size := Nat.lt_of_lt_of_le hK5 hb6.size
      have B6 : Hid (w6.heap[K]? = some (.cells R.toArray 51 (0, 0))) := hid ((hb6.block K hK5).trans B5.out)
      refine hKK.out _ _ HQ6.out (fun hHeld => ?_)
      clear hKK KK hb6
      try simp only [Act.put, List.setIfInBounds_toArray, List.set_cons_zero, List.set_cons_succ]
      obtain ⟨v7, w7, hr7, hbd7, hg7⟩ := HBD6.out.str (octB m ++ 32 :: x.name) (by have h1 := HTL.out i; have h2 := octB_len m; have h3 := HXO.out.2.1.2.1; rw [nums_len]; simp only [List.length_append, List.length_cons]; omega)
      have B7 : Hid (w7.heap[K]? = some (.cells R.toArray 51 (0, 0))) := hid (HBD6.out.keep hg7 B6.out (by decide))
      have HQ7 : Hid (QW K m S w7) := hid (HQ6.out.grown hg7 hK6 (HBD6.out.ne B6.out (by decide)))
      have HBD7 : Hid (Bd w2 w7 H v7 (nums (treeB (L.take i)) ++ nums (octB m ++ 32 :: x.name))) := hbd7
      refine wpAnyH_ready (rs := [8]) (by kernel_rfl) (by simp) ?_
      refine consL rfl (fun KK hKK => ?_) AllReadyH.nil
      refine step_exec (by rfl) v7 (w' := w7) (by unfold execOp; simp only [resolve, invoke, builtin, Sem.run_bind, Sem.run_pure, Result.andThen_ok, List.map_toArray, List.map_cons, List.map_nil]; exact (congrArg (fun r => Result.andThen r _) hr7).trans rfl) ?_
      refine hKK.out _ _ HQ7.out (fun hHeld => ?_)
      clear hKK KK hr7 hbd7 hg7
      try simp only [Act.put, List.setIfInBounds_toArray, List.set_cons_zero, List.set_cons_succ]
      refine takeL (i := 9) (v := ?_) rfl (by kernel_rfl) (by kernel_rfl) (by kernel_rfl) (fun _ _ _ h => h) (Or.inl ⟨by rfl, ?_⟩) hHeld ?_
      rotate_left
      · rintro w' ⟨c0, c1⟩; go_simp; rfl
      try simp only [Act.put, List.setIfInBounds_toArray, List.set_cons_zero, List.set_cons_succ]
      refine wpAnyH_done (by kernel_rfl) ?_ _
      have hl7 : (nums (treeB (L.take i)) ++ nums (octB m ++ 32 :: x.name)).length + 1 ≤ 1000000 := by have h1 := HTL.out i; have h2 := octB_len m; have h3 := HXO.out.2.1.2.1; rw [List.length_append, nums_len, nums_len]; simp only [List.length_append, List.length_cons]; omega
      have hl8 : ((nums (treeB (L.take i)) ++ nums (octB m ++ 32 :: x.name)) ++ [0]).length + x.id.length ≤ 1000000 := by have h1 := HTL.out i; have h2 := octB_len m; have h3 := HXO.out.2.1.2.1; rw [List.length_append, List.length_append, nums_len, nums_len]; simp only [List.length_append, List.length_cons, List.length_nil]; omega
      clear hHeld
      go_wp2_with (first
        | (at_builtin; refine wpList_bd_slG rfl _ _ rfl H _ _ rfl (HBD7.out.alloc _) _ _ [0] rfl (sl_one _ _) hl7 ?_; intro v8 w8 hbd8 hg8; have B8 : Hid (w8.heap[K]? = some (.cells R.toArray 51 (0, 0))) := hid ((HBD7.out.alloc _).keep hg8 ((((Below.refl w7.heap.size w7).alloc (Nat.le_refl _) _).block K (lt_of_some B7.out)).trans B7.out) (by decide)); have HBD8 : Hid (Bd w2 w8 H v8 ((nums (treeB (L.take i)) ++ nums (octB m ++ 32 :: x.name)) ++ [0])) := hbd8; clear hbd8 hg8)
        | (at_builtin; refine wpList_bd_slG rfl _ _ rfl H _ _ rfl HBD8.out (some ⟨K, 2, none⟩) 20 x.id (by rw [hx20]; rfl) (id_sl HR.out B8.out hx20) hl8 ?_; intro v9 w9 hbd9 hg9; have HBD9 : Hid (Bd w2 w9 H v9 (((nums (treeB (L.take i)) ++ nums (octB m ++ 32 :: x.name)) ++ [0]) ++ x.id)) := hbd9; clear hbd9 hg9)
        | fail)
      go_roundg (n - (i + 1))
      case measure => omega
      case rel =>
        refine ⟨i + 1, _, rfl, by omega, rfl, by go_num, hid ?_⟩
        have h9 := HBD9.out
        rw [← HM.out, er_out _ x HXO.out.2.2.2, ← nums_app, ← treeB_snoc, ← HX.out, ← take_snocE L i (by rw [HLN.out]; exact hlt)] at h9
        exact h9
    · have hlti : ¬ (i : Int) < (n : Int) := by omega
      have htk : L.take i = L := List.take_of_length_le (by rw [HLN.out]; omega)
      have HBE : Hid (Bd w2 wr H v (nums (treeB L))) := hid (by have := HBD.out; rw [htk] at this; exact this)
      obtain ⟨a9, c9, rfl, hsl⟩ := HBE.out.sl
      have HSL : Hid (Sl wr a9 c9 (nums (treeB L))) := hsl
      have HBZ : Hid (Below G w wr) := hid (HB2.out.trans (HBE.out.below.mono HGH.out))
      clear htk hsl
      go_wp2
      go_ret2
      refine ⟨by rw [HG.out]; exact HBZ.out, .inl ⟨HOK.out, a9, c9, ?_, ?_⟩⟩
      · rw [HL.out, ← nums_len (treeB L)]; rfl
      · rw [HL.out]; exact HSL.out
end Go.Proofs.YtenbdeljblmbhaaGreatDoor
