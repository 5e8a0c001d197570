/- 'strconv.ParseUint' with its errors; 'first'. -/
import Derived.Test.YtijeogdnjeamaaaGreatDoorWbC
namespace Go.Proofs.YtijeogdnjeamaaaGreatDoor
open Go.RowKit
set_option linter.unusedVariables false
set_option linter.unusedSimpArgs false
/-- The library's two errors of numbers. -/
structure Ers (w : World) : Prop where
  s : ∃ ev, w.cell? ⟨3, 0, none⟩ = some ev ∧ (ev = .nilIface ∨ ∃ te pe, ev = .iface te pe)
  r : ∃ ev, w.cell? ⟨4, 0, none⟩ = some ev ∧ (ev = .nilIface ∨ ∃ te pe, ev = .iface te pe)
theorem Ers.below {w w' : World} (h : Ers w) (hb : Below w.heap.size w w') : Ers w' := by
  obtain ⟨⟨e1, h1, k1⟩, ⟨e2, h2, k2⟩⟩ := h
  exact ⟨⟨e1, (hb.cell (p := ⟨3, 0, none⟩) (cell_lt h1)).trans h1, k1⟩, ⟨e2, (hb.cell (p := ⟨4, 0, none⟩) (cell_lt h2)).trans h2, k2⟩⟩
def PV (l : List UInt8) (e : Ending) : Prop := ∃ (v : Int) (ev : Value), e = .returned (.tuple #[.int .u64 v, ev]) ∧ 0 ≤ v ∧ v ≤ 65535 ∧ (ev = .nilIface ∨ ∃ N, ev = .iface 247 (.pointer (some ⟨N, 0, none⟩))) ∧ (∀ r, l ≠ [] → hex16 0 l = some r → v = r ∧ ev = .nilIface)
set_option maxRecDepth 20000 in
theorem parseU (l : List UInt8) (hl : l.length ≤ 1000000) (w : World) (he : Ers w) : Calls Tryz.prog 126 #[.string ⟨l.toArray⟩, .int .i64 16, .int .i64 16] w fun e w' => PV l e ∧ Below w.heap.size w w' := by
  have HI : Hid (Calls Tryz.prog 144 #[.string ⟨l.toArray⟩, .int .i64 16, .int .i64 16] w fun e w' => PU l e ∧ Below w.heap.size w w') := parseUint16 l hl w
  obtain ⟨S, HS⟩ : ∃ S : ByteArray, Hid (⟨l.toArray⟩ = S) := ⟨_, rfl⟩
  have hsz : S.size ≤ 281474976710656 := by rw [← HS.out, txt_len]; omega
  have HE : Hid (Ers w) := he
  rw [HS.out] at HI
  rw [HS.out]
  clear he
  go_enter Tryz.func126, Tryz.ntmps126
  go_wp2_with fail
  refine HI.out.mono ?_
  rintro ev w1 ⟨⟨v, er, rfl, v0, v1, hor, hrd⟩, hb⟩
  have HB : Hid (Below w.heap.size w w1) := hb
  have HRD : Hid (∀ r, l ≠ [] → hex16 0 l = some r → v = r ∧ er = .nilIface) := hrd
  have HV : Hid (0 ≤ v ∧ v ≤ 65535) := hid ⟨v0, v1⟩
  obtain ⟨⟨e1, hv1, hev1⟩, ⟨e2, hv2, hev2⟩⟩ := HE.out.below hb
  clear hb hrd
  rcases hor with rfl | rfl | rfl
  · clear hv1 hv2 hev1 hev2
    go_wp2
    go_ret2
    exact ⟨⟨v, _, rfl, HV.out.1, HV.out.2, .inl rfl, fun r h1 h2 => ⟨(HRD.out r h1 h2).1, rfl⟩⟩, HB.out⟩
  · have C : Hid (Calls Tryz.prog 145 #[.string ⟨#[80, 97, 114, 115, 101, 85, 105, 110, 116]⟩, .string S, .int .i64 16, .int .i64 16, .iface 246 (.int .i64 1)] w1 fun e w' => ∃ N, e = .returned (.iface 247 (.pointer (some ⟨N, 0, none⟩))) ∧ Below w1.heap.size w1 w') := hid (by
      refine (Any.strconv_toError_range (ρ := Tryz.laysC245_ren) Tryz.laysC245 ⟨#[80, 97, 114, 115, 101, 85, 105, 110, 116]⟩ S 16 16 e2 w1 hsz hv2 hev2).mono ?_
      rintro e w2 ⟨N, rfl, h1, h2, h3⟩
      exact ⟨N, rfl, h3⟩)
    clear hv1 hv2 hev1 hev2
    go_wp2_with fail
    refine C.out.mono ?_
    rintro e w2 ⟨N, rfl, hb⟩
    have HB2 : Hid (Below w.heap.size w w2) := HB.out.trans (hb.mono HB.out.size)
    clear hb
    go_wp2
    go_ret2
    exact ⟨⟨v, _, rfl, HV.out.1, HV.out.2, .inr ⟨N, rfl⟩, fun r h1 h2 => by have := (HRD.out r h1 h2).2; cases this⟩, HB2.out⟩
  · have C : Hid (Calls Tryz.prog 145 #[.string ⟨#[80, 97, 114, 115, 101, 85, 105, 110, 116]⟩, .string S, .int .i64 16, .int .i64 16, .iface 246 (.int .i64 2)] w1 fun e w' => ∃ N, e = .returned (.iface 247 (.pointer (some ⟨N, 0, none⟩))) ∧ Below w1.heap.size w1 w') := hid (by
      refine (Any.strconv_toError_syntax (ρ := Tryz.laysC245_ren) Tryz.laysC245 ⟨#[80, 97, 114, 115, 101, 85, 105, 110, 116]⟩ S 16 16 e1 w1 hsz hv1 hev1).mono ?_
      rintro e w2 ⟨N, rfl, h1, h2, h3⟩
      exact ⟨N, rfl, h3⟩)
    clear hv1 hv2 hev1 hev2
    go_wp2_with fail
    refine C.out.mono ?_
    rintro e w2 ⟨N, rfl, hb⟩
    have HB2 : Hid (Below w.heap.size w w2) := HB.out.trans (hb.mono HB.out.size)
    clear hb
    go_wp2
    go_ret2
    exact ⟨⟨v, _, rfl, HV.out.1, HV.out.2, .inr ⟨N, rfl⟩, fun r h1 h2 => by have := (HRD.out r h1 h2).2; cases this⟩, HB2.out⟩
/-- The first packet line has n bytes. -/
def Fst (s : Str) (n : Nat) : Prop := n ≤ 1000 ∧ 4 + n ≤ s.length ∧ s.take 4 = szT n
theorem szT_hex (n : Nat) (h : n ≤ 1000) : hex16 0 (szT n) = some (if n = 0 then 0 else n + 4) ∧ szT n ≠ [] := by
  unfold szT
  by_cases h0 : n = 0
  · rw [if_pos h0, if_pos h0]
    exact ⟨by decide, by simp⟩
  · rw [if_neg h0, if_neg h0]
    exact ⟨hex_hx4 _ (by omega), by simp [hx4]⟩
theorem fst_one {s : Str} {n m : Nat} (h : Fst s n) (k : Fst s m) : n = m := by
  have h1 := (szT_hex n h.1).1
  have h2 := (szT_hex m k.1).1
  rw [← h.2.2, k.2.2, h2] at h1
  have h3 := Option.some.inj h1
  by_cases hn : n = 0 <;> by_cases hm : m = 0 <;> simp [hn, hm] at h3 <;> omega
/-- What 'first' gives. -/
def PostF (a : Option Addr) (cap : Nat) (s : Str) (w : World) (e : Ending) (w' : World) : Prop :=
  Below w.heap.size w w' ∧ ((∃ n, Fst s n ∧ e = .returned (.tuple #[.slice (adX 1 a cap 4) n (cap - 4 : Nat), .slice (adX 1 a cap (4 + n)) (s.length - (4 + n) : Nat) (cap - (4 + n) : Nat), .nilIface])) ∨ ((¬ ∃ n, Fst s n) ∧ e = .returned (.tuple #[.slice none 0 0, .slice none 0 0, .iface 37 (.int .i64 110)])))
theorem Tryz.results107 : Tryz.f107.results = #[.tmp 2, .tmp 3, .tmp 4] := by kernel_rfl
end Go.Proofs.YtijeogdnjeamaaaGreatDoor
