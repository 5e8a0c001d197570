import Derived.Test.YtbpdielmdhhdfaaGreatDoorMu29
import Derived.Test.YtbpdielmdhhdfaaGreatDoorMu07
import Derived.Test.YtbpdielmdhhdfaaGreatDoorMu24
import Derived.Test.YtbpdielmdhhdfaaGreatDoorMu17
import Derived.Lib.AppendStr
import Derived.Maps.AppendAt
/- Package object: 'modeText'. -/
namespace Go.Proofs.YtbpdielmdhhdfaaGreatDoor
open Go.RowKit
set_option linter.unusedVariables false
set_option linter.unusedSimpArgs false
set_option maxRecDepth 20000 in
theorem fmtInt8 (u : Nat) (hu : u < 65536) (w : World) (h : Db w) : Calls Tryz.prog 133 #[.int .i64 u, .int .i64 8] w fun e w' => e = .returned (.string ⟨(o8 u).toArray⟩) ∧ Below w.heap.size w w' := by
  have HF : Hid (Calls Tryz.prog 171 #[.slice none 0 0, .int .u64 u, .int .i64 8, .bool false, .bool false] w fun e w' => e = .returned (.tuple #[.slice none 0 0, .string ⟨(o8 u).toArray⟩]) ∧ Below w.heap.size w w') := fmt8 u hu w h
  have h0 : ¬ (u : Int) < 0 := by omega
  have hw : IntKind.u64.wrap (u : Int) = u := wrap_u64 u (by omega)
  go_enter Tryz.func133, Tryz.ntmps133
  go_wp2_with fail
  refine HF.out.mono ?_
  rintro e w1 ⟨rfl, hb⟩
  go_wp2
  go_ret
  exact ⟨rfl, hb⟩
set_option maxRecDepth 20000 in
theorem fmtI8 (u : Nat) (hu : u < 65536) (w : World) (h : Db w) : Calls Tryz.prog 95 #[.int .i64 u, .int .i64 8] w fun e w' => e = .returned (.string ⟨(o8 u).toArray⟩) ∧ Below w.heap.size w w' := by
  have HF : Hid (Calls Tryz.prog 133 #[.int .i64 u, .int .i64 8] w fun e w' => e = .returned (.string ⟨(o8 u).toArray⟩) ∧ Below w.heap.size w w') := fmtInt8 u hu w h
  go_enter Tryz.func95, Tryz.ntmps95
  go_wp2_with fail
  refine HF.out.mono ?_
  rintro e w1 ⟨rfl, hb⟩
  go_wp2
  go_ret
  exact ⟨rfl, hb⟩
theorem o8_oct (m : Int) (h : okM m) : o8 m.toNat = octB m := by
  rcases h with rfl | rfl | rfl | rfl <;> decide +kernel
set_option maxRecDepth 20000 in
theorem modeText_any (m : Int) (hm : okM m) (w : World) (h : Db w) : Calls Tryz.prog 47 #[.int .i64 m] w fun e w' => e = .returned (.string ⟨(octB m).toArray⟩) ∧ Below w.heap.size w w' := by
  have hb : 0 ≤ m ∧ m < 65536 := by rcases hm with rfl | rfl | rfl | rfl <;> decide
  have HF : Hid (Calls Tryz.prog 95 #[.int .i64 m, .int .i64 8] w fun e w' => e = .returned (.string ⟨(octB m).toArray⟩) ∧ Below w.heap.size w w') := hid (by
    have := fmtI8 m.toNat (by omega) w h
    rw [o8_oct m hm, Int.toNat_of_nonneg hb.1] at this
    exact this)
  clear hm
  go_enter Tryz.func47, Tryz.ntmps47
  go_wp2_with fail
  refine HF.out.mono ?_
  rintro e w1 ⟨rfl, hb⟩
  go_wp2
  go_ret
  exact ⟨rfl, hb⟩
end Go.Proofs.YtbpdielmdhhdfaaGreatDoor
/- The document's side of chapter 3: 'Encode'. -/
namespace Go.Proofs.YtbpdielmdhhdfaaGreatDoor
open Go.RowKit
set_option linter.unusedVariables false
set_option linter.unusedSimpArgs false
/-- Bytes of one's own, made since. -/
structure Bd (w0 w : World) (B : Nat) (v : Value) (out : List Int) : Prop where
  below : Below B w0 w
  own : w.ownsRow B 5 1 v out.length (out.map (Value.int .u8))
  le : B ≤ w.heap.size
theorem Bd.alloc {w0 w : World} {B : Nat} {v : Value} {out : List Int} (h : Bd w0 w B v out) (o : Obj) : Bd w0 (w.alloc o) B v out :=
  ⟨h.below.alloc h.le o, h.own.alloc o, Nat.le_trans h.le (by simp)⟩
theorem bd_nil (w : World) (B : Nat) (h : B ≤ w.heap.size) : Bd w w B (.slice none 0 0) [] := ⟨Below.refl _ _, ⟨rfl, .inl ⟨rfl, rfl⟩⟩, h⟩
theorem sl_one (w : World) (c : Int) : Sl (w.alloc (.cells #[.int .u8 c] 5)) (some ⟨w.heap.size, 0, none⟩) 1 [c] :=
  ⟨by simp, fun _ => ⟨w.heap.size, 0, rfl, by simp, fun i hi => by
    have : i = 0 := by simpa using hi
    subst this
    simp⟩, fun h => by cases h⟩
theorem strCells_nums (l : List UInt8) : Lib.strCells ⟨l.toArray⟩ = (nums l).map (Value.int .u8) := by simp [Lib.strCells, nums]
section
variable {w w0 : World} {ops : Array Oper} {rest : List Oper} {o : Oper} {a : Act} {Q : Exit → Act → World → Prop}
theorem wpList_bd_str (hgd : o.guard = none) (s x : Operand) (ho : o.op = .call { callee := .builtin .append, args := #[s, x], argTypes := #[23, 9] }) (B : Nat) (v : Value) (out : List Int) (hs : a.eval s = v) (h : Bd w0 w B v out)
    (l : List UInt8) (hx : a.eval x = .string ⟨l.toArray⟩) (hl : out.length + l.length ≤ 1000000)
    (hK : ∀ v' w', Bd w0 w' B v' (out ++ nums l) → wpList Tryz.prog ops Q rest (a.put o.dst v') w') : wpList Tryz.prog ops Q (o :: rest) a w := by
  obtain ⟨i5, hi, hz0, hz1, hz2⟩ := info_parts Tryz.info5
  have hsz : (⟨l.toArray⟩ : ByteArray).size = l.length := by simp [ByteArray.size]
  refine Lib.wpList_append_own_string w hgd s x 23 9 ho B 5 i5 Tryz.underlying23 Tryz.underlying9 hi hz0 hz1 hz2 v out.length _ hs h.own ⟨l.toArray⟩ hx (by rw [hsz]; unfold maxLen; omega) (by rw [hsz]; omega) h.le ?_
  intro v' w' h1 h2 h3
  refine hK v' w' ⟨h.below.grown h2 h.le (fun k hk => (own_lt h.own k hk).1), ?_, Nat.le_trans h.le h2.size⟩
  rw [List.length_append, nums_len, List.map_append, ← strCells_nums]
  rw [hsz] at h1
  exact h1
theorem wpList_bd_sl (hgd : o.guard = none) (s x : Operand) (ho : o.op = .call { callee := .builtin .append, args := #[s, x], argTypes := #[23, 23] }) (B : Nat) (v : Value) (out : List Int) (hs : a.eval s = v) (h : Bd w0 w B v out)
    (ax : Option Addr) (cx : Nat) (l : List Int) (hx : a.eval x = .slice ax l.length cx) (hS : Sl w ax cx l) (hl : out.length + l.length ≤ 1000000)
    (hK : ∀ v' w', Bd w0 w' B v' (out ++ l) → wpList Tryz.prog ops Q rest (a.put o.dst v') w') : wpList Tryz.prog ops Q (o :: rest) a w := by
  obtain ⟨i5, hi, hz0, hz1, hz2⟩ := info_parts Tryz.info5
  cases ax with
  | none =>
    have hc : cx = 0 := hS.nil rfl
    have hcl := hS.capl
    obtain rfl : l = [] := List.length_eq_zero_iff.1 (by omega)
    subst hc
    refine wpList_plain hgd fun K hK' => ?_
    have hr := run_append_owned_none (P := Tryz.prog) w B 23 o.type 5 i5 1 Tryz.underlying23 hi v _ _ h.own
    unfold Oper.wp execOp
    simp only [List.length_nil] at hx
    simp only [ho, resolve, invoke, builtin, Sem.run_bind, Sem.run_pure, Result.andThen_ok, List.map_toArray, List.map_cons, List.map_nil, hs, hx, hr]
    exact hK' _ _ (hK v w (by simpa using h))
  | some ad =>
    refine wpList_append_own_at w hgd s x 23 ho B 5 i5 (.int .u8 0) 1 1 Tryz.underlying23 hi hz0 hz1 hz2 rfl (by decide) v _ _ hs h.own ad l.length cx (l.map (Value.int .u8)) hx (by simp) ?_ (ints_oneCell .u8 l) (by unfold maxLen; omega) (by omega) h.le ?_
    · intro j z hj
      rw [List.getElem?_map] at hj
      cases hc : l[j]? with
      | none => rw [hc] at hj; cases hj
      | some y =>
        rw [hc] at hj; cases hj
        have hlt := (List.getElem?_eq_some_iff.1 hc).1
        obtain ⟨b, off, e1, e2, e3⟩ := hS.at_ (by omega)
        cases e1
        have := e3 j hlt
        rw [addr_add]
        simpa [List.getD_eq_getElem?_getD, hc] using this
    · intro v' w' h1 h2 h3 h4
      refine hK v' w' ⟨h.below.grown h2 h.le (fun k hk => (own_lt h.own k hk).1), ?_, Nat.le_trans h.le h2.size⟩
      rw [List.length_append, List.map_append]
      exact h1
end
end Go.Proofs.YtbpdielmdhhdfaaGreatDoor
/- The document's side of chapter 3: 'Encode', its walk. -/
namespace Go.Proofs.YtbpdielmdhhdfaaGreatDoor
open Go.RowKit
set_option linter.unusedVariables false
set_option linter.unusedSimpArgs false
/-- What the document's 'Encode' gives. -/
def PostR (k : Int) (zs : List Int) (w : World) (e : Ending) (w' : World) : Prop :=
  Below w.heap.size w w' ∧ ((errE k zs.length ≠ 0 ∧ e = .returned (.tuple #[.slice none 0 0, .int .i64 (errE k zs.length)])) ∨
    (errE k zs.length = 0 ∧ ∃ g cap' : Nat, e = .returned (.tuple #[.slice (some ⟨g, 0, none⟩) (encZ k zs).length cap', .int .i64 0]) ∧ w.heap.size ≤ g ∧ g < w'.heap.size ∧ At w' g 0 (encZ k zs) ∧ (encZ k zs).length ≤ cap'))
theorem Bd.carry {w0 w w' : World} {B : Nat} {v : Value} {out : List Int} (h : Bd w0 w B v out) (hb : Below w.heap.size w w') : Bd w0 w' B v out :=
  ⟨h.below.trans (hb.mono h.le), h.own.kept (row := none) ⟨hb.os, hb.tape, hb.output, hb.size, fun k hk _ => hb.block k hk⟩ (by cases h : v.ownBlock <;> simp), Nat.le_trans h.le hb.size⟩
theorem bd_form {w0 w : World} {B : Nat} {v : Value} {out : List Int} (h : Bd w0 w B v out) (h0 : 0 < out.length) : ∃ g cap, v = .slice (some ⟨g, 0, none⟩) out.length cap ∧ B ≤ g ∧ g < w.heap.size ∧ At w g 0 out ∧ out.length ≤ cap := by
  obtain ⟨g, cap, rfl, h1, h2⟩ := h.own.form h0
  refine ⟨g, cap, rfl, h1, h2, ?_, ?_⟩
  · intro i hi
    rw [Nat.zero_add, h.own.cellAt i (by simpa using hi), List.getElem?_map, List.getElem?_eq_getElem hi]
    simp [List.getD_eq_getElem?_getD, List.getElem?_eq_getElem hi]
  · obtain ⟨_, ⟨hv, _⟩ | ⟨g2, cap2, cur, hv, _, _, hnc, _⟩⟩ := h.own
    · cases hv
    · simp only [Value.slice.injEq] at hv
      omega
theorem errE_20 (k : Int) (n : Nat) (h : (kN k).toList.isEmpty = true) : errE k n = 20 := by unfold errE; rw [if_pos h]
theorem errE_11 (k : Int) (n : Nat) (h : ¬ (kN k).toList.isEmpty = true) (h2 : 100000 < n) : errE k n = 11 := by unfold errE; rw [if_neg h, if_pos h2]
theorem errE_0 (k : Int) (n : Nat) (h : ¬ (kN k).toList.isEmpty = true) (h2 : ¬ 100000 < n) : errE k n = 0 := by unfold errE; rw [if_neg h, if_neg h2]
set_option maxRecDepth 20000 in
set_option maxHeartbeats 2000000 in
theorem refEncode_any (k : Int) (a : Option Addr) (cap : Nat) (zs : List Int) (w : World) (hl : zs.length ≤ 300000) (hS : Sl w a cap zs) :
    Calls Tryz.prog 14 #[.agg #[.int .i64 k, .slice a zs.length cap]] w (PostR k zs w) := by
  obtain ⟨n, HN⟩ : ∃ n, Hid (zs.length = n) := ⟨_, rfl⟩
  obtain ⟨S, HSS⟩ : ∃ S : ByteArray, Hid (kN k = S) := ⟨_, rfl⟩
  have HK : Hid (∀ w, Calls Tryz.prog 37 #[.int .i64 k] w fun e w' => e = .returned (.string S) ∧ w' = w) := fun w => by rw [← HSS.out]; exact name_any k w
  have hln : n ≤ 300000 := by rw [← HN.out]; exact hl
  obtain ⟨G, HG⟩ : ∃ G, Hid (w.heap.size = G) := ⟨_, rfl⟩
  obtain ⟨w0, HW0⟩ : ∃ w0, Hid (w.alloc (.cells #[.int .i64 k, .slice a n cap] 39) = w0) := ⟨_, rfl⟩
  have HB0 : Hid (Below G w w0) := hid (by rw [← HW0.out, ← HG.out]; exact (Below.refl _ w).alloc (Nat.le_refl _) _)
  have hs0 : w0.heap.size = G + 1 := by rw [← HW0.out, ← HG.out]; simp
  have hc0 : w0.cell? ⟨G, 0, none⟩ = some (.int .i64 k) := by rw [← HW0.out, ← HG.out]; simp
  have hc1 : w0.cell? ⟨G, 1, none⟩ = some (.slice a n cap) := by rw [← HW0.out, ← HG.out]; simp
  rw [HN.out]
  by_cases he : S.toList.isEmpty = true
  · have hE : errE k zs.length = 20 := errE_20 k _ (by rw [HSS.out]; exact he)
    go_enter Tryz.func14, Tryz.ntmps14
    go_wp2_with fail
    rw [HG.out, HW0.out]
    refine (HK.out _).mono ?_
    rintro ev w' ⟨rfl, rfl⟩
    go_wp2
    go_ret2
    refine ⟨by rw [HG.out]; exact HB0.out, .inl ⟨by rw [hE]; decide, ?_⟩⟩
    rw [hE]
    rfl
  · by_cases h2 : 100000 < n
    · have hE : errE k zs.length = 11 := errE_11 k _ (by rw [HSS.out]; exact he) (by rw [HN.out]; exact h2)
      have h2i : (100000 : Int) < n := by omega
      go_enter Tryz.func14, Tryz.ntmps14
      go_wp2_with fail
      rw [HG.out, HW0.out]
      refine (HK.out _).mono ?_
      rintro ev w' ⟨rfl, rfl⟩
      go_wp2
      go_ret2
      refine ⟨by rw [HG.out]; exact HB0.out, .inl ⟨by rw [hE]; decide, ?_⟩⟩
      rw [hE]
      rfl
    · have hE : errE k zs.length = 0 := errE_0 k _ (by rw [HSS.out]; exact he) (by rw [HN.out]; exact h2)
      have h2i : ¬ (100000 : Int) < n := by omega
      obtain ⟨L1, HL1⟩ : ∃ L1 : List UInt8, Hid (L1 = (kN k).data.toList) := ⟨_, rfl⟩
      have hL1 : L1.length ≤ 6 := by rw [HL1.out]; exact kN_len k
      have hSL : S = ⟨L1.toArray⟩ := by rw [HL1.out, ← HSS.out]
      have hL1e : L1.isEmpty = false := by
        have h := he
        rw [hSL, Lib.toList_data] at h
        simpa using h
      obtain ⟨L2, HL2⟩ : ∃ L2 : List UInt8, Hid (L2 = Lib.decDigits n) := ⟨_, rfl⟩
      have hL2 : L2.length ≤ 6 := by rw [HL2.out]; exact dig_len 5 n (by omega)
      have HD : Hid (∀ w, Calls Tryz.prog 38 #[.int .i64 n] w fun e w' => e = .returned (.string ⟨L2.toArray⟩) ∧ Below w.heap.size w w') := fun w => by rw [HL2.out]; exact decimal_any n (by omega) w
      have HSl : Hid (∀ W, Below G w W → Sl W a cap zs) := fun W hW => hS.below (by rw [HG.out]; exact hW)
      clear hS
      go_enter Tryz.func14, Tryz.ntmps14
      go_wp2_with fail
      rw [HG.out, HW0.out]
      refine (HK.out _).mono ?_
      rintro ev w' ⟨rfl, rfl⟩
      have hbd0 : Bd w' w' (G + 1) (.slice none 0 0) [] := bd_nil w' (G + 1) (by omega)
      have HC : Hid (∀ W, Below (G + 1) w' W → W.cell? ⟨G, 1, none⟩ = some (.slice a n cap)) := fun W hW => (hW.cell (p := ⟨G, 1, none⟩) (show G < G + 1 by omega)).trans hc1
      go_wp2_with (first
        | (at_builtin; refine wpList_bd_str rfl _ _ rfl (G + 1) _ _ rfl hbd0 L1 rfl (by simp; omega) ?_; intro v1 w1 hbd1; clear hbd0)
        | (at_builtin; refine wpList_bd_sl rfl _ _ rfl (G + 1) _ _ rfl (hbd1.alloc _) _ _ [32] rfl (sl_one _ _) (by simp [nums_len]; omega) ?_; intro v2 w2 hbd2; clear hbd1; have hcw2 := HC.out w2 hbd2.below)
        | (go_at_call 38; refine (HD.out _).mono ?_; rintro ev w3 ⟨rfl, hb3⟩; have hbd3 := hbd2.carry hb3; clear hbd2 hb3 hcw2)
        | (at_builtin; refine wpList_bd_str rfl _ _ rfl (G + 1) _ _ rfl hbd3 L2 rfl (by simp [nums_len]; omega) ?_; intro v4 w4 hbd4; clear hbd3)
        | (at_builtin; refine wpList_bd_sl rfl _ _ rfl (G + 1) _ _ rfl (hbd4.alloc _) _ _ [0] rfl (sl_one _ _) (by simp [nums_len]; omega) ?_; intro v5 w5 hbd5; clear hbd4; have hcw5 := HC.out w5 hbd5.below)
        | (at_builtin; refine wpList_bd_sl rfl _ _ rfl (G + 1) _ _ rfl hbd5 a cap zs (by rw [HN.out]; rfl) (HSl.out _ (HB0.out.trans (hbd5.below.mono (by omega)))) (by simp [nums_len]; omega) ?_; intro v6 w6 hbd6; clear hbd5 hcw5))
      go_ret2
      have hout : [] ++ nums L1 ++ [32] ++ nums L2 ++ [0] ++ zs = encZ k zs := by
        unfold encZ hd h0
        rw [HN.out, ← HL1.out, ← HL2.out]
        simp [nums]
      rw [hout] at hbd6
      obtain ⟨g, c6, rfl, h1, h3, h4, h5⟩ := bd_form hbd6 (by rw [← hout]; simp; omega)
      exact ⟨by rw [HG.out]; exact HB0.out.trans (hbd6.below.mono (by omega)), .inr ⟨hE, g, c6, rfl, by rw [HG.out]; omega, h3, h4, h5⟩⟩
end Go.Proofs.YtbpdielmdhhdfaaGreatDoor
