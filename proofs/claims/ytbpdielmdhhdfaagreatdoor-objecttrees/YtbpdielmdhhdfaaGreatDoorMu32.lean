import Derived.Test.YtbpdielmdhhdfaaGreatDoorMu31
import Derived.Test.YtbpdielmdhhdfaaGreatDoorMu29
import Derived.Test.YtbpdielmdhhdfaaGreatDoorMu27
import Derived.Test.YtbpdielmdhhdfaaGreatDoorMu09
/- 'strconv.ParseInt' at base 8, 32 bits; package object: 'modeOf'. -/
namespace Go.Proofs.YtbpdielmdhhdfaaGreatDoor
open Go.RowKit Go.Shelf
set_option linter.unusedVariables false
set_option linter.unusedSimpArgs false
/-- A mode's digits are read as that mode. -/
def PI (l : List UInt8) (e : Ending) : Prop := ∃ (v : Int) (ev : Value), e = .returned (.tuple #[.int .i64 v, ev]) ∧ (ev = .nilIface ∨ ev = .iface 289 (.int .i64 1) ∨ ev = .iface 289 (.int .i64 2)) ∧ (∀ m, okM m → l = octB m → v = m ∧ ev = .nilIface)
theorem oct_read (m : Int) (h : okM m) : octB m ≠ [] ∧ oct8 0 (octB m) = some m.toNat ∧ 0 ≤ m ∧ m < 65536 ∧ ∀ c t, octB m = c :: t → c ≠ 43 ∧ c ≠ 45 := by
  rcases h with rfl | rfl | rfl | rfl
  all_goals
    refine ⟨by decide, by decide, by decide, by decide, ?_⟩
    intro c t h
    rw [show octB _ = _ from rfl] at h
    revert h
    simp only [octB]
    simp
    rintro rfl _
    decide
theorem neq_range (w : World) : (binOp .neq 28 (.iface 289 (.int .i64 1)) (.iface 289 (.int .i64 1))).run Tryz.prog w = .ok (.bool false) w := by kernel_rfl
theorem neq_syntax (w : World) : (binOp .neq 28 (.iface 289 (.int .i64 2)) (.iface 289 (.int .i64 1))).run Tryz.prog w = .ok (.bool true) w := by kernel_rfl
set_option maxHeartbeats 4000000 in
set_option maxRecDepth 100000 in
theorem parseInt8 (l : List UInt8) (hl : l.length ≤ 1000000) (w : World) :
    Calls Tryz.prog 207 #[.string ⟨l.toArray⟩, .int .i64 8, .int .i64 32] w fun e w' => PI l e ∧ Below w.heap.size w w' := by
  match l, hl with
  | [], _ =>
    have HB : Hid (Below w.heap.size w w) := Below.refl _ _
    have HP : Hid (PI [] (.returned (.tuple #[.int .i64 0, .iface 289 (.int .i64 2)]))) := ⟨0, _, rfl, .inr (.inr rfl), fun m hm h => absurd h.symm (oct_read m hm).1⟩
    go_enter Tryz.func207, Tryz.ntmps207
    go_wp2
    go_ret2
    exact ⟨HP.out, HB.out⟩
  | c :: t, hl =>
    obtain ⟨l, HL⟩ : ∃ l, Hid (c :: t = l) := ⟨_, rfl⟩
    have hemp : (⟨l.toArray⟩ : ByteArray).toList.isEmpty = false := by rw [Lib.toList_data, ← HL.out]; rfl
    have hix0 : ∀ w1 : World, (Instr.index 9 (.string ⟨l.toArray⟩) (.int .i64 0)).run Tryz.prog w1 = .ok (.int .u8 (c.toNat : Int)) w1 := fun w1 => by
      rw [← HL.out]
      exact index_txt (c :: t) 0 w1 c rfl
    have hsl : ∀ w1 : World, (Instr.slice 9 (.string ⟨l.toArray⟩) (some (.int .i64 1)) none none).run Tryz.prog w1 = .ok (.string ⟨t.toArray⟩) w1 := fun w1 => by
      rw [← HL.out]
      exact slice_from (c :: t) 1 (by simp) w1
    obtain ⟨S, HS⟩ : ∃ S : ByteArray, Hid (⟨l.toArray⟩ = S) := ⟨_, rfl⟩
    obtain ⟨T, HT⟩ : ∃ T : ByteArray, Hid (⟨t.toArray⟩ = T) := ⟨_, rfl⟩
    have CS : Hid (∀ w, Calls Tryz.prog 222 #[.string S, .int .i64 8, .int .i64 32] w fun e w' => PU l e ∧ Below w.heap.size w w') := fun w => by
      rw [← HS.out]; exact parseUint8 l (by rw [← HL.out]; exact hl) w
    have CT : Hid (∀ w, Calls Tryz.prog 222 #[.string T, .int .i64 8, .int .i64 32] w fun e w' => PU t e ∧ Below w.heap.size w w') := fun w => by
      rw [← HT.out]; exact parseUint8 t (by simp at hl; omega) w
    obtain ⟨x, HX⟩ : ∃ x : Int, Hid ((c.toNat : Int) = x) := ⟨_, rfl⟩
    have hx : 0 ≤ x ∧ x < 256 := by rw [← HX.out]; have := c.toNat_lt; omega
    have HM : Hid (∀ m, okM m → l = octB m → x ≠ 43 ∧ x ≠ 45) := fun m hm h => by
      rw [← HL.out] at h
      have h2 := (oct_read m hm).2.2.2.2 c t h.symm
      rw [← HX.out]
      exact ⟨fun e => h2.1 (UInt8.toNat_inj.1 (by show c.toNat = 43; omega)), fun e => h2.2 (UInt8.toNat_inj.1 (by show c.toNat = 45; omega))⟩
    have hcut : IntKind.u64.wrap (IntKind.u64.wrap 2147483648 - 1) = 2147483647 := by
      rw [IntKind.wrap_u64, IntKind.wrap_u64]
      decide
    have hq1 := neq_range
    have hq2 := neq_syntax
    rw [HL.out]
    rw [HS.out, HX.out] at hix0
    rw [HS.out, HT.out] at hsl
    rw [HS.out] at hemp
    rw [HS.out]
    by_cases h43 : x = 43
    · subst h43
      have HNO : Hid (∀ m, okM m → l ≠ octB m) := fun m hm h => (HM.out m hm h).1 rfl
      clear hx
      go_enter Tryz.func207, Tryz.ntmps207
      go_wp2_with fail
      refine (CT.out w).mono ?_
      rintro ev w1 ⟨⟨v, er, rfl, h0, h1, hor, _⟩, hb⟩
      have HB : Hid (Below w.heap.size w w1) := hb
      have HP : Hid (∀ (v : Int) (ev : Value), (ev = .nilIface ∨ ev = .iface 289 (.int .i64 1) ∨ ev = .iface 289 (.int .i64 2)) → PI l (.returned (.tuple #[.int .i64 v, ev]))) := fun v ev h => ⟨v, ev, rfl, h, fun m hm e => absurd e (HNO.out m hm)⟩
      clear hb
      by_cases hv : v < 2147483648
      · have hv2 : ¬ 2147483648 ≤ v := by omega
        rcases hor with rfl | rfl | rfl
        all_goals
          go_wp2
          go_ret2
          exact ⟨HP.out _ _ (by simp), HB.out⟩
      · have hv2 : 2147483648 ≤ v := by omega
        rcases hor with rfl | rfl | rfl
        all_goals
          go_wp2
          go_ret2
          exact ⟨HP.out _ _ (by simp), HB.out⟩
    · by_cases h45 : x = 45
      · subst h45
        have HNO : Hid (∀ m, okM m → l ≠ octB m) := fun m hm h => (HM.out m hm h).2 rfl
        clear hx
        go_enter Tryz.func207, Tryz.ntmps207
        go_wp2_with fail
        refine (CT.out w).mono ?_
        rintro ev w1 ⟨⟨v, er, rfl, h0, h1, hor, _⟩, hb⟩
        have HB : Hid (Below w.heap.size w w1) := hb
        have HP : Hid (∀ (v : Int) (ev : Value), (ev = .nilIface ∨ ev = .iface 289 (.int .i64 1) ∨ ev = .iface 289 (.int .i64 2)) → PI l (.returned (.tuple #[.int .i64 v, ev]))) := fun v ev h => ⟨v, ev, rfl, h, fun m hm e => absurd e (HNO.out m hm)⟩
        clear hb
        by_cases hv : v ≤ 2147483648
        · have hv2 : ¬ 2147483648 < v := by omega
          rcases hor with rfl | rfl | rfl
          all_goals
            go_wp2
            go_ret2
            exact ⟨HP.out _ _ (by simp), HB.out⟩
        · have hv2 : 2147483648 < v := by omega
          rcases hor with rfl | rfl | rfl
          all_goals
            go_wp2
            go_ret2
            exact ⟨HP.out _ _ (by simp), HB.out⟩
      · have b1 : (x == 43) = false := by simpa using h43
        have b2 : (x == 45) = false := by simpa using h45
        go_enter Tryz.func207, Tryz.ntmps207
        go_wp2_with fail
        refine (CS.out w).mono ?_
        rintro ev w1 ⟨⟨v, er, rfl, h0, h1, hor, hrd⟩, hb⟩
        have HB : Hid (Below w.heap.size w w1) := hb
        have HRD : Hid (∀ m, okM m → l = octB m → v = m ∧ v < 65536 ∧ er = .nilIface) := fun m hm e => by
          have h2 := oct_read m hm
          have h3 := hrd m.toNat (by rw [e]; exact h2.1) (by rw [e]; exact h2.2.1)
          rw [Int.toNat_of_nonneg h2.2.2.1] at h3
          exact ⟨h3.1, by rw [h3.1]; exact h2.2.2.2.1, h3.2⟩
        clear hb hrd
        by_cases hv : v < 2147483648
        · have hv2 : ¬ 2147483648 ≤ v := by omega
          rcases hor with rfl | rfl | rfl
          · have HP : Hid (PI l (.returned (.tuple #[.int .i64 v, .nilIface]))) := ⟨v, _, rfl, .inl rfl, fun m hm e => ⟨(HRD.out m hm e).1, rfl⟩⟩
            go_wp2
            go_ret2
            exact ⟨HP.out, HB.out⟩
          all_goals
            have HP : Hid (∀ (v : Int) (ev : Value), (ev = .nilIface ∨ ev = .iface 289 (.int .i64 1) ∨ ev = .iface 289 (.int .i64 2)) → PI l (.returned (.tuple #[.int .i64 v, ev]))) := fun v ev h => ⟨v, ev, rfl, h, fun m hm e => by have := (HRD.out m hm e).2.2; cases this⟩
            go_wp2
            go_ret2
            exact ⟨HP.out _ _ (by simp), HB.out⟩
        · have hv2 : 2147483648 ≤ v := by omega
          have HP : Hid (∀ (v : Int) (ev : Value), (ev = .nilIface ∨ ev = .iface 289 (.int .i64 1) ∨ ev = .iface 289 (.int .i64 2)) → PI l (.returned (.tuple #[.int .i64 v, ev]))) := fun v ev h => ⟨v, ev, rfl, h, fun m hm e => by have := (HRD.out m hm e).2.1; omega⟩
          rcases hor with rfl | rfl | rfl
          all_goals
            go_wp2
            go_ret2
            exact ⟨HP.out _ _ (by simp), HB.out⟩
/-- What is known of a mode that was read. -/
def PMo (l : List UInt8) (e : Ending) : Prop := ∃ v : Int, e = .returned (.int .i64 v) ∧ ∀ m, okM m → l = octB m → v = m
set_option maxHeartbeats 4000000 in
set_option maxRecDepth 100000 in
theorem parseIntP8 (l : List UInt8) (hl : l.length ≤ 1000000) (w : World) (he : Ers w) :
    Calls Tryz.prog 172 #[.string ⟨l.toArray⟩, .int .i64 8, .int .i64 32] w fun e w' => Below w.heap.size w w' ∧ ∃ (v : Int) (ev : Value), e = .returned (.tuple #[.int .i64 v, ev]) ∧ (ev = .nilIface ∨ ∃ N, ev = .iface 292 (.pointer (some ⟨N, 0, none⟩))) ∧ (∀ m, okM m → l = octB m → v = m ∧ ev = .nilIface) := by
  have HI : Hid (Calls Tryz.prog 207 #[.string ⟨l.toArray⟩, .int .i64 8, .int .i64 32] w fun e w' => PI l e ∧ Below w.heap.size w w') := parseInt8 l hl w
  obtain ⟨S, HS⟩ : ∃ S : ByteArray, Hid (⟨l.toArray⟩ = S) := ⟨_, rfl⟩
  have hsz : S.size ≤ 281474976710656 := by rw [← HS.out, txt_len]; omega
  have HE : Hid (Ers w) := he
  rw [HS.out] at HI
  rw [HS.out]
  clear he
  go_enter Tryz.func172, Tryz.ntmps172
  go_wp2_with fail
  refine HI.out.mono ?_
  rintro ev w1 ⟨⟨v, er, rfl, hor, hrd⟩, hb⟩
  have HB : Hid (Below w.heap.size w w1) := hb
  have HRD : Hid (∀ m, okM m → l = octB m → v = m ∧ er = .nilIface) := hrd
  obtain ⟨⟨e1, hv1, hev1⟩, ⟨e2, hv2, hev2⟩⟩ := HE.out.below hb
  clear hb hrd
  rcases hor with rfl | rfl | rfl
  · clear hv1 hv2 hev1 hev2
    go_wp2
    go_ret2
    exact ⟨HB.out, v, _, rfl, .inl rfl, fun m hm e => ⟨(HRD.out m hm e).1, rfl⟩⟩
  · have C : Hid (Calls Tryz.prog 208 #[.string ⟨#[80, 97, 114, 115, 101, 73, 110, 116]⟩, .string S, .int .i64 8, .int .i64 32, .iface 289 (.int .i64 1)] w1 fun e w' => ∃ N, e = .returned (.iface 292 (.pointer (some ⟨N, 0, none⟩))) ∧ Below w1.heap.size w1 w') := hid (by
      refine (Any.strconv_toError_range (ρ := Tryz.laysC174_ren) { Tryz.laysC174 with } ⟨#[80, 97, 114, 115, 101, 73, 110, 116]⟩ S 8 32 e2 w1 hsz hv2 hev2).mono ?_
      rintro e w2 ⟨N, rfl, h1, h2, h3⟩
      exact ⟨N, rfl, h3⟩)
    clear hv1 hv2 hev1 hev2
    go_wp2_with fail
    refine C.out.mono ?_
    rintro e w2 ⟨N, rfl, hb⟩
    have HB2 : Hid (Below w.heap.size w w2) := HB.out.trans (hb.mono HB.out.size)
    clear hb
    go_wp2
    go_ret2
    exact ⟨HB2.out, v, _, rfl, .inr ⟨N, rfl⟩, fun m hm e => by have := (HRD.out m hm e).2; cases this⟩
  · have C : Hid (Calls Tryz.prog 208 #[.string ⟨#[80, 97, 114, 115, 101, 73, 110, 116]⟩, .string S, .int .i64 8, .int .i64 32, .iface 289 (.int .i64 2)] w1 fun e w' => ∃ N, e = .returned (.iface 292 (.pointer (some ⟨N, 0, none⟩))) ∧ Below w1.heap.size w1 w') := hid (by
      refine (Any.strconv_toError_syntax (ρ := Tryz.laysC174_ren) { Tryz.laysC174 with } ⟨#[80, 97, 114, 115, 101, 73, 110, 116]⟩ S 8 32 e1 w1 hsz hv1 hev1).mono ?_
      rintro e w2 ⟨N, rfl, h1, h2, h3⟩
      exact ⟨N, rfl, h3⟩)
    clear hv1 hv2 hev1 hev2
    go_wp2_with fail
    refine C.out.mono ?_
    rintro e w2 ⟨N, rfl, hb⟩
    have HB2 : Hid (Below w.heap.size w w2) := HB.out.trans (hb.mono HB.out.size)
    clear hb
    go_wp2
    go_ret2
    exact ⟨HB2.out, v, _, rfl, .inr ⟨N, rfl⟩, fun m hm e => by have := (HRD.out m hm e).2; cases this⟩
set_option maxRecDepth 100000 in
theorem modeOf_any (l : List UInt8) (hl : l.length ≤ 1000000) (w : World) (he : Ers w) :
    Calls Tryz.prog 134 #[.string ⟨l.toArray⟩] w fun e w' => Below w.heap.size w w' ∧ PMo l e := by
  have HI : Hid (Calls Tryz.prog 172 #[.string ⟨l.toArray⟩, .int .i64 8, .int .i64 32] w fun e w' => Below w.heap.size w w' ∧ ∃ (v : Int) (ev : Value), e = .returned (.tuple #[.int .i64 v, ev]) ∧ (ev = .nilIface ∨ ∃ N, ev = .iface 292 (.pointer (some ⟨N, 0, none⟩))) ∧ (∀ m, okM m → l = octB m → v = m ∧ ev = .nilIface)) := parseIntP8 l hl w he
  obtain ⟨S, HS⟩ : ∃ S : ByteArray, Hid (⟨l.toArray⟩ = S) := ⟨_, rfl⟩
  rw [HS.out] at HI
  rw [HS.out]
  clear he
  go_enter Tryz.func134, Tryz.ntmps134
  go_wp2_with fail
  refine HI.out.mono ?_
  rintro ev w1 ⟨hb, v, er, rfl, hor, hrd⟩
  have HB : Hid (Below w.heap.size w w1) := hb
  have HRD : Hid (∀ m, okM m → l = octB m → v = m ∧ er = .nilIface) := hrd
  clear hb hrd
  rcases hor with rfl | ⟨N, rfl⟩
  · go_wp2
    go_ret
    exact ⟨HB.out, v, rfl, fun m hm e => (HRD.out m hm e).1⟩
  · go_wp2
    go_ret
    exact ⟨HB.out, 0, rfl, fun m hm e => by have := (HRD.out m hm e).2; cases this⟩
end Go.Proofs.YtbpdielmdhhdfaaGreatDoor
/- Package object: 'entriesOf'. -/
namespace Go.Proofs.YtbpdielmdhhdfaaGreatDoor
open Go.RowKit
variable [Inhabited Er] [Inhabited En]
set_option linter.unusedVariables false
set_option linter.unusedSectionVars false
set_option linter.unusedSimpArgs false
/-- Entries of one's own, made since: the program's. -/
structure Bf (w0 w : World) (B : Nat) (v : Value) (es : List Er) : Prop where
  below : Below B w0 w
  own : w.ownsRow B 51 22 v es.length (fE es)
  le : B ≤ w.heap.size
theorem Bf.alloc {w0 w : World} {B : Nat} {v : Value} {es : List Er} (h : Bf w0 w B v es) (o : Obj) : Bf w0 (w.alloc o) B v es :=
  ⟨h.below.alloc h.le o, h.own.alloc o, Nat.le_trans h.le (by simp)⟩
theorem bf_nil (w : World) (B : Nat) (h : B ≤ w.heap.size) : Bf w w B (.slice none 0 0) [] := ⟨Below.refl _ _, ⟨rfl, .inl ⟨rfl, rfl⟩⟩, h⟩
theorem Bf.carry {w0 w w' : World} {B : Nat} {v : Value} {es : List Er} (h : Bf w0 w B v es) (hb : Below w.heap.size w w') : Bf w0 w' B v es :=
  ⟨h.below.trans (hb.mono h.le), h.own.kept (row := none) ⟨hb.os, hb.tape, hb.output, hb.size, fun k hk _ => hb.block k hk⟩ (by cases h : v.ownBlock <;> simp), Nat.le_trans h.le hb.size⟩
theorem Bf.pe {w0 w : World} {B : Nat} {a : Option Addr} {n cap : Nat} {es : List Er} (h : Bf w0 w B (.slice a n cap) es) (hw : ∀ x ∈ es, x.id.length = 20) (hn : es.length = n) : Pe w a cap es := by
  obtain ⟨hl, ⟨h1, h2⟩ | ⟨g, c, cur, h1, hB, h3, h4, h5, h6, h7⟩⟩ := h.own
  · cases h1
    exact ⟨by omega, fun h0 => by omega, fun _ => rfl⟩
  · cases h1
    have hlt := lt_of_some h3
    refine ⟨h4, fun h0 => ⟨g, 0, rfl, hlt, fun i hi j v hv => ?_⟩, fun h => by cases h⟩
    have hj : j < 22 := by
      obtain ⟨hj, _⟩ := List.getElem?_eq_some_iff.1 hv
      have hm : es.getD i default ∈ es := by
        rw [List.getD_eq_getElem?_getD, List.getElem?_eq_getElem hi]
        exact List.getElem_mem _
      rw [erV_len _ (hw _ hm)] at hj
      exact hj
    have hf := fE_at es hw i j hi hj
    rw [hv] at hf
    have hlt2 := (List.getElem?_eq_some_iff.1 hf).1
    have := h.own.cellAt (i * 22 + j) (by rw [fE_len es hw] at hlt2; omega)
    rw [Nat.zero_add, this, hf]
theorem Tryz.info51' : (Tryz.prog.info? 51).map (fun i => (i.zero, i.size, i.bytes)) = some (some (.agg (erV ⟨0, [], z20⟩).toArray), 22, 48) := by kernel_rfl
theorem wpList_bf_one {w w0 : World} {ops : Array Oper} {rest : List Oper} {o : Oper} {a : Act} {Q : Exit → Act → World → Prop} (hgd : o.guard = none) (s x : Operand) (ho : o.op = .call { callee := .builtin .append, args := #[s, x], argTypes := #[47, 47] }) (B : Nat) (v : Value) (es : List Er) (hs : a.eval s = v) (h : Bf w0 w B v es)
    (b : Nat) (y : Er) (hx : a.eval x = .slice (some ⟨b, 0, none⟩) 1 1) (hb : w.rangeAt b 0 (erV y)) (hy : y.id.length = 20) (hl : es.length ≤ 3000)
    (hK : ∀ v' w', Bf w0 w' B v' (es ++ [y]) → wpList Tryz.prog ops Q rest (a.put o.dst v') w') : wpList Tryz.prog ops Q (o :: rest) a w := by
  obtain ⟨i, hi, hz0, hz1, hz2⟩ := info_parts Tryz.info51'
  refine wpList_append_own_at w hgd s x 47 ho B 51 i (.agg (erV ⟨0, [], z20⟩).toArray) 22 48 Tryz.underlying47 hi hz0 hz1 hz2 rfl (by decide) v _ _ hs h.own ⟨b, 0, none⟩ 1 1 (erV y) hx (by rw [erV_len y hy]) (fun j u hj => by rw [addr_add]; exact hb j u hj) (erV_one y) (by unfold maxLen; omega) (by omega) h.le ?_
  intro v' w' h1 h2 h3 h4
  refine hK v' w' ⟨h.below.grown h2 h.le (fun k hk => (own_lt h.own k hk).1), ?_, Nat.le_trans h.le h2.size⟩
  rw [List.length_append, fE_snoc]
  exact h1
/-- The first twenty bytes; nought, where there are fewer. -/
def fill (r : List UInt8) : List Int := nums (r.take 20) ++ List.replicate (20 - (r.take 20).length) 0
theorem fill_len (r : List UInt8) : (fill r).length = 20 := by simp [fill, nums_len]; omega
theorem fill_b (r : List UInt8) : ∀ n ∈ fill r, 0 ≤ n ∧ n < 256 := by
  intro n hn
  rcases List.mem_append.1 hn with h | h
  · exact nums_isB _ n h
  · have := List.eq_of_mem_replicate h
    omega
theorem fill_id (y : List Int) (r : List UInt8) (h : y.length = 20) (hb : ∀ n ∈ y, 0 ≤ n ∧ n < 256) : fill (Lib.bytesOf y ++ r) = y := by
  have hl : (Lib.bytesOf y).length = 20 := by rw [Lib.bytesOf_length, h]
  unfold fill
  rw [List.take_left' hl, hl, nums_bytes y hb]
  simp
theorem rf_entry (t : List UInt8) (v : Int) (h : ∀ m, okM m → (Lib.cut (Lib.cut t [0]).1 [32]).1 = octB m → v = m) :
    Rf t ⟨v, (Lib.cut (Lib.cut t [0]).1 [32]).2.1, fill (Lib.cut t [0]).2.1⟩ ((Lib.cut t [0]).2.1.drop 20) := by
  intro y r' hm he hl hb ht
  have e1 : Lib.cut t [0] = (octB y.mode ++ 32 :: y.name, Lib.bytesOf y.id ++ r', true) := by
    rw [ht, erB]
    have := cut_one (octB y.mode ++ 32 :: y.name) (Lib.bytesOf y.id ++ r') 0 (by
      intro hmem
      rcases List.mem_append.1 hmem with h1 | h1
      · exact (octB_ne _ _ h1).2 rfl
      · rcases List.mem_cons.1 h1 with h2 | h2
        · cases h2
        · exact (he.2.2.2.2.2 _ h2).2 rfl)
    rw [← this]
    simp
  have e2 : Lib.cut (octB y.mode ++ 32 :: y.name) [32] = (octB y.mode, y.name, true) := cut_one _ _ 32 (fun hmem => (octB_ne _ _ hmem).1 rfl)
  rw [e1] at h ⊢
  simp only [e2] at h ⊢
  have hv := h y.mode hm rfl
  refine ⟨?_, ?_⟩
  · rw [hv, fill_id y.id r' hl hb]
  · rw [List.drop_left' (by rw [Lib.bytesOf_length, hl])]
theorem cut_len (t : List UInt8) (c : UInt8) (h : t ≠ []) : (Lib.cut t [c]).2.1.length + 1 ≤ t.length := by
  have hp := List.length_pos_iff.2 h
  unfold Lib.cut
  split
  · simp only [List.length_drop, List.length_cons, List.length_nil]; omega
  · show 0 + 1 ≤ t.length
    omega
theorem run_copy_str (w : World) (b o : Nat) (t : ByteArray) (k : Nat) (hk : k = Nat.min t.size 20) (ty : TypeId)
    (hc : ∀ j, j < k → (w.cell? ⟨b, o + j, none⟩).isSome = true) (hf : ∀ j, j < k → w.frozen? ⟨b, o + j, none⟩ = false) :
    (Builtin.copy_ #[23, 9] ty #[.slice (some ⟨b, o, none⟩) 20 20, .string t]).run Tryz.prog w = .ok (.int .i64 k) (w.setCells b o ((t.data.toList.map fun x => Value.int .u8 (x.toNat : Int)).take k)) := by
  obtain ⟨i5, hi, hz0, hz1, hz2⟩ := info_parts Tryz.info5
  have hl : ((t.data.toList.map fun x => Value.int .u8 (x.toNat : Int)).take k).length = k := by
    rw [List.length_take, List.length_map, Array.length_toList]
    have : t.data.size = t.size := rfl
    have h2 : Nat.min t.size 20 = min t.size 20 := rfl
    rw [this]
    omega
  have hst := run_storeCells_cells (P := Tryz.prog) b o ((t.data.toList.map fun x => Value.int .u8 (x.toNat : Int)).take k) 0 w (by rw [hl]; simpa using hc) (by rw [hl]; simpa using hf) (by
    intro v hv
    obtain ⟨x, _, rfl⟩ := List.mem_map.1 (List.mem_of_mem_take hv)
    rfl)
  simp [Builtin.copy_, run_underlying Tryz.underlying23, Builtin.lenOf, Builtin.firstCells, sizeOf, typeInfo, hi, hz1, ← hk]
  rw [hst]
  rfl
theorem wpList_copy_run {P : Program} {w : World} {ops : Array Oper} {rest : List Oper} {o : Oper} {a : Act} {Q : Exit → Act → World → Prop} (hgd : o.guard = none) (s x : Operand) (t u : TypeId)
    (ho : o.op = .call { callee := .builtin .copy, args := #[s, x], argTypes := #[t, u] }) (sv xv v : Value) (w2 : World) (hs : a.eval s = sv) (hx : a.eval x = xv) (hrun : (Builtin.copy_ #[t, u] o.type #[sv, xv]).run P w = .ok v w2) (h : wpList P ops Q rest (a.put o.dst v) w2) :
    wpList P ops Q (o :: rest) a w := by
  refine wpList_plain hgd fun K hK => ?_
  unfold Oper.wp execOp
  simp only [ho, resolve, invoke, builtin, Sem.run_bind, Sem.run_pure, Result.andThen_ok, List.map_toArray, List.map_cons, List.map_nil, hs, hx, hrun]
  exact hK _ _ h
set_option maxRecDepth 20000 in
theorem built51 (m : Int) (S : ByteArray) : Tryz.prog.built 51 [(0, .int .i64 m), (1, .string S)] = some (Value.int .i64 m :: Value.string S :: row .u8 z20).toArray := by
  kernel_rfl
end Go.Proofs.YtbpdielmdhhdfaaGreatDoor
/- A region that draws its order: something holds till one operation comes up, the last to write; what waits for it may be taken first. -/
namespace Go.Proofs.YtbpdielmdhhdfaaGreatDoor
open Go.RowKit
set_option linter.unusedVariables false

section
variable {P : Program} {md : Region.Mode} {ops : Array Oper} {Q : Exit → Act → World → Prop} {S : World → Prop} {n : Nat}
def anyU (P : Program) (md : Region.Mode) (ops : Array Oper) (Q : Exit → Act → World → Prop) (S : World → Prop) (n : Nat) : Nat → Array Bool → Act → World → Prop
  | 0, listed, a, w => Region.ready md ops listed = [] ∧ Q .normal a w
  | fuel + 1, listed, a, w =>
    (Region.ready md ops listed = [] → Q .normal a w) ∧
    ∀ i ∈ Region.ready md ops listed, wpOp P ops Q i (fun a' w' => (i = n ∨ S w') ∧ anyU P md ops Q S n fuel (listed.setIfInBounds i true) a' w') a w
theorem any_of_U : ∀ (fuel : Nat) (listed : Array Bool) (a : Act) (w : World), anyU P md ops Q S n fuel listed a w → wpAny P md ops Q fuel listed a w
  | 0, _, _, _, h => h
  | fuel + 1, _, _, _, h => ⟨h.1, fun i hi => wpOp_mono (fun a' w' h' => any_of_U fuel _ a' w' h'.2) (h.2 i hi)⟩
/-- Operation n waits for operation i. -/
def waits (md : Region.Mode) (ops : Array Oper) (n i : Nat) : Bool := match ops[n]? with
  | some o => o.after.any fun e => Region.binds md e && e.on == i
  | none => true
theorem U_first {i : Nat} {oi : Oper} {v : Value} (hi : ops[i]? = some oi) (hsel : ∀ (j : Nat) (o : Oper) cs b, ops[j]? = some o → o.op ≠ .select cs b) (hn : waits md ops n i = true)
    (hQ : ∀ c a w, Q (.panic c) (a.put oi.dst v) w → Q (.panic c) a w) :
    ∀ (fuel : Nat) (listed : Array Bool) (a : Act) (w : World),
      (∀ j oj, ops[j]? = some oj → j ≠ i → listed.getD j true = false → (∀ e ∈ oj.after, Region.binds md e = true → e.on ≠ i) → oi.apart ops oj = true) →
      i ∈ Region.ready md ops listed → YieldsIf P ops S oi v a → S w →
      anyU P md ops Q S n fuel (listed.setIfInBounds i true) (a.put oi.dst v) w → anyU P md ops Q S n (fuel + 1) listed a w := by
  intro fuel
  induction fuel with
  | zero =>
    intro listed a w _ hr hy hS H
    refine ⟨fun h => (by rw [h] at hr; cases hr), fun j hj => ?_⟩
    by_cases hji : j = i
    · subst hji; exact hy.wpOp hi hS ⟨.inr hS, H⟩
    · have := ready_mono hj hji
      rw [H.1] at this
      cases this
  | succ fuel ih =>
    intro listed a w hfree hr hy hS H
    refine ⟨fun h => (by rw [h] at hr; cases hr), fun j hj => ?_⟩
    by_cases hji : j = i
    · subst hji; exact hy.wpOp hi hS ⟨.inr hS, H⟩
    · have h1 := H.2 j (ready_mono hj hji)
      obtain ⟨hjun, oj, hoj, hall⟩ := mem_ready.1 hj
      have hnot : ∀ e ∈ oj.after, Region.binds md e = true → e.on ≠ i := fun e he hb heq => by
        have g1 := hall e he hb
        have g0 := (mem_ready.1 hr).1
        rw [heq] at g1
        rcases Nat.lt_or_ge i listed.size with h' | h'
        · simp [h'] at g0 g1; rw [g0] at g1; cases g1
        · simp [Array.getElem?_eq_none h'] at g1
      have hjn : j ≠ n := fun e => by
        subst e
        unfold waits at hn
        rw [hoj] at hn
        simp only [Array.any_eq_true] at hn
        obtain ⟨k, hk, hk2⟩ := hn
        simp only [Bool.and_eq_true, beq_iff_eq] at hk2
        exact hnot _ (Array.getElem_mem hk) hk2.1 hk2.2
      have h2 := wpOp_putIf hoj (hfree j oj hoj hji hjun hnot) (fun cs b => hsel i oi cs b hi) (fun cs b => hsel j oj cs b hoj) hQ hy h1
      have hfree' : ∀ k ok, ops[k]? = some ok → k ≠ i → (listed.setIfInBounds j true).getD k true = false →
          (∀ e ∈ ok.after, Region.binds md e = true → e.on ≠ i) → oi.apart ops ok = true := fun k ok hk hki hun hno => by
        refine hfree k ok hk hki ?_ hno
        by_cases hjk : j = k
        · subst hjk; exact hjun
        · rw [getD_set_ne true hjk] at hun; exact hun
      refine wpOp_mono (fun a' w' h3 => ⟨h3.2.1, ?_⟩) h2
      have hS' : S w' := h3.2.1.resolve_left hjn
      refine ih (listed.setIfInBounds j true) a' w' hfree' (ready_mono hr (Ne.symm hji)) h3.1 hS' ?_
      rw [Array.setIfInBounds_comm _ _ hji]
      exact h3.2.2
end
theorem takeU {P : Program} {md : Region.Mode} {Q : Exit → Act → World → Prop} {S : World → Prop} {n : Nat} {l : List Oper} {i : Nat} {oi : Oper} {v : Value} {fuel : Nat} {listed : Array Bool} {a : Act} {w : World} (hi : l[i]? = some oi)
    (hs : Region.noSelect l.toArray = true) (hf : Region.free md l.toArray listed i = true) (hr : (Region.ready md l.toArray listed).contains i = true) (hn : waits md l.toArray n i = true)
    (hQ : ∀ c a w, Q (.panic c) (a.put oi.dst v) w → Q (.panic c) a w) (hy : YieldsIf P l.toArray S oi v a) (hS : S w)
    (h : anyU P md l.toArray Q S n fuel (listed.setIfInBounds i true) (a.put oi.dst v) w) : anyU P md l.toArray Q S n (fuel + 1) listed a w := by
  have hi' : l.toArray[i]? = some oi := by rw [List.getElem?_toArray]; exact hi
  exact U_first hi' (Region.noSelect_spec hs) hn hQ fuel listed a w (Region.free_spec hi' hf) (by simpa using hr) hy hS h
/-- One operation that may come up. -/
def oneU (P : Program) (md : Region.Mode) (ops : Array Oper) (Q : Exit → Act → World → Prop) (S : World → Prop) (n fuel : Nat) (listed : Array Bool) (a : Act) (w : World) (i : Nat) : Prop :=
  wpOp P ops Q i (fun a' w' => (i = n ∨ S w') ∧ anyU P md ops Q S n fuel (listed.setIfInBounds i true) a' w') a w
theorem readyU1 {P : Program} {md : Region.Mode} {Q : Exit → Act → World → Prop} {S : World → Prop} {n i fuel : Nat} {ops : Array Oper} {listed : Array Bool} {a : Act} {w : World} (hr : Region.ready md ops listed = [i])
    (h : oneU P md ops Q S n fuel listed a w i) : anyU P md ops Q S n (fuel + 1) listed a w :=
  ⟨fun h0 => (by rw [hr] at h0; cases h0), fun j hj => by rw [hr] at hj; obtain rfl := List.mem_singleton.1 hj; exact h⟩
theorem readyU2 {P : Program} {md : Region.Mode} {Q : Exit → Act → World → Prop} {S : World → Prop} {n i i' fuel : Nat} {ops : Array Oper} {listed : Array Bool} {a : Act} {w : World} (hr : Region.ready md ops listed = [i, i'])
    (h : oneU P md ops Q S n fuel listed a w i) (h' : oneU P md ops Q S n fuel listed a w i') : anyU P md ops Q S n (fuel + 1) listed a w :=
  ⟨fun h0 => (by rw [hr] at h0; cases h0), fun j hj => by
    rw [hr] at hj
    rcases List.mem_cons.1 hj with rfl | hj
    · exact h
    · obtain rfl := List.mem_singleton.1 hj; exact h'⟩
theorem readyU3 {P : Program} {md : Region.Mode} {Q : Exit → Act → World → Prop} {S : World → Prop} {n i i' i'' fuel : Nat} {ops : Array Oper} {listed : Array Bool} {a : Act} {w : World} (hr : Region.ready md ops listed = [i, i', i''])
    (h : oneU P md ops Q S n fuel listed a w i) (h' : oneU P md ops Q S n fuel listed a w i') (h'' : oneU P md ops Q S n fuel listed a w i'') : anyU P md ops Q S n (fuel + 1) listed a w :=
  ⟨fun h0 => (by rw [hr] at h0; cases h0), fun j hj => by
    rw [hr] at hj
    rcases List.mem_cons.1 hj with rfl | hj
    · exact h
    · rcases List.mem_cons.1 hj with rfl | hj
      · exact h'
      · obtain rfl := List.mem_singleton.1 hj; exact h''⟩
theorem consU {P : Program} {md : Region.Mode} {Q : Exit → Act → World → Prop} {S : World → Prop} {n : Nat} {l : List Oper} {fuel : Nat} {listed : Array Bool} {a : Act} {w : World} {i : Nat} {o : Oper} (ho : l[i]? = some o)
    (h : ∀ K' : Act → World → Prop, Shut (∀ a w, (i = n ∨ S w) → anyU P md l.toArray Q S n fuel (listed.setIfInBounds i true) a w → K' a w) → if Region.wanted o (yielded l.toArray a.tmps) = true then Oper.wp P o a w K' Q else K' (a.put o.dst undef) w) :
    oneU P md l.toArray Q S n fuel listed a w i := by
  have ho' : l.toArray[i]? = some o := by rw [List.getElem?_toArray]; exact ho
  exact wpOp_step ho' (fun K' hK => h K' (fun a w hS hW => hK a w ⟨hS, hW⟩))
theorem doneU {P : Program} {md : Region.Mode} {Q : Exit → Act → World → Prop} {S : World → Prop} {n : Nat} {ops : Array Oper} {listed : Array Bool} {a : Act} {w : World} (hr : Region.ready md ops listed = []) (h : Q .normal a w) :
    ∀ fuel, anyU P md ops Q S n fuel listed a w
  | 0 => ⟨hr, h⟩
  | _ + 1 => ⟨fun _ => h, by rw [hr]; simp⟩
theorem region_U {P : Program} {Q : Exit → Act → World → Prop} {id : Nat} {a : Act} {w : World} {ops : Array Oper} (S : World → Prop) (n : Nat) (hm : P.follows .mixedOrders = true)
    (h : anyU P .any ops Q S n ops.size (Array.replicate ops.size false) a w.drew) : (Code.region id ops true).wp P Q a w :=
  wp_region_any hm (any_of_U _ _ _ _ h)
end Go.Proofs.YtbpdielmdhhdfaaGreatDoor
