/- 'Parse'. -/
import Derived.Test.YtijeogdnjeamaaaGreatDoorHexB
namespace Go.Proofs.YtijeogdnjeamaaaGreatDoor.Hx
open Go.RowKit
set_option linter.unusedVariables false

/-- What a sign tells; -1: it is none. -/
def hv (c : Int) : Int := if 48 ≤ c ∧ c ≤ 57 then c - 48 else if 97 ≤ c ∧ c ≤ 102 then c - 87 else -1
def sgn (s : ByteArray) (k : Nat) : Int := (s.data.toList.getD k 0).toNat
def zeros : List Int := List.replicate 20 0
/-- The id behind k signs. -/
def idAt (s : ByteArray) : Nat → List Int
  | 0 => zeros
  | k + 1 => (idAt s k).set (k / 2) (((idAt s k).getD (k / 2) 0 * 16 + hv (sgn s k)) % 256)
theorem idAt_len (s : ByteArray) : ∀ k, (idAt s k).length = 20
  | 0 => rfl
  | k + 1 => by rw [idAt, List.length_set, idAt_len s k]
theorem sgn_bd (s : ByteArray) (k : Nat) : 0 ≤ sgn s k ∧ sgn s k < 256 := by
  unfold sgn
  have := (s.data.toList.getD k 0).toNat_lt
  omega
theorem idAt_bd (s : ByteArray) : ∀ k, ∀ n ∈ idAt s k, 0 ≤ n ∧ n < 256
  | 0 => by intro n hn; simp [idAt, zeros] at hn; omega
  | k + 1 => by
    intro n hn
    rcases List.mem_or_eq_of_mem_set hn with h | h
    · exact idAt_bd s k n h
    · omega
def good (s : ByteArray) : Prop := ∀ k, k < 40 → 0 ≤ hv (sgn s k)

theorem firstIdx_digs (c : Int) (h0 : 0 ≤ c) (h1 : c < 256) : firstIdx { data := #[48, 49, 50, 51, 52, 53, 54, 55, 56, 57, 97, 98, 99, 100, 101, 102] } c.toNat.toUInt8 = hv c := by
  obtain ⟨n, rfl⟩ := Int.eq_ofNat_of_zero_le h0
  have : ∀ n : Nat, n < 256 → firstIdx { data := #[48, 49, 50, 51, 52, 53, 54, 55, 56, 57, 97, 98, 99, 100, 101, 102] } ((n : Int).toNat.toUInt8) = hv n := by decide +kernel
  exact this n (by omega)

set_option maxHeartbeats 1000000 in
theorem indexByte_in (c : Int) (w : World) (h0 : 0 ≤ c) (h1 : c < 256) :
    Calls Tryz.prog 135 #[.string { data := #[48, 49, 50, 51, 52, 53, 54, 55, 56, 57, 97, 98, 99, 100, 101, 102] }, .int .u8 c] w fun e w' => e = .returned (.int .i64 (hv c)) ∧ w' = w := by
  have h17 := @run_callFunc_extern Tryz.prog 154 _ Extern.BytealgIndexByte.indexByte Tryz.func154 (by kernel_rfl) (by kernel_rfl) (by kernel_rfl) (by kernel_rfl)
  have hr := run_indexByte_string (P := Tryz.prog) { data := #[48, 49, 50, 51, 52, 53, 54, 55, 56, 57, 97, 98, 99, 100, 101, 102] } c
  rw [firstIdx_digs c h0 h1] at hr
  go_enter Tryz.func135, Tryz.ntmps135
  go_wp2
  go_ret
  exact ⟨rfl, rfl⟩

theorem indexByte_any (c : Int) (w : World) (h0 : 0 ≤ c) (h1 : c < 256) :
    Calls Tryz.prog 131 #[.string { data := #[48, 49, 50, 51, 52, 53, 54, 55, 56, 57, 97, 98, 99, 100, 101, 102] }, .int .u8 c] w fun e w' => e = .returned (.int .i64 (hv c)) ∧ w' = w := by
  have HF := hid (indexByte_in c w h0 h1)
  go_enter Tryz.func131, Tryz.ntmps131
  go_wp2_with fail
  refine HF.out.mono ?_
  rintro e w1 ⟨rfl, hw⟩
  rw [hw]
  go_wp2
  go_ret
  exact ⟨rfl, rfl⟩

theorem results_mid2 {P : Program} {fn : Func} {p q : Tmp} {ty : TypeId} {t2 : TypeId} (h : fn.results = #[.cell p ty, .tmp q]) (tmps : Array Value) (w : World) (g : Nat) (cs : List Value) (d : TypeDesc) (v : Value)
    (hp : tmps.getD p undef = .pointer (some ⟨g, 0, none⟩)) (hq : tmps.getD q undef = v) (hc : w.rangeAt g 0 cs) (hu : P.underlying ty = some d) (hd : d.isRow = true) (hi : (P.info? ty).map (·.size) = some cs.length) :
    (results fn tmps).run P w = .ok (.tuple #[.agg cs.toArray, v]) w := by
  have hp' : tmps[p]?.getD undef = .pointer (some ⟨g, 0, none⟩) := by simpa using hp
  have hq' : tmps[q]?.getD undef = v := by simpa using hq
  simp [results, h, hp', hq', asAddr, run_loadVar_mid w g 0 ty cs d hc hu hd hi]
end Go.Proofs.YtijeogdnjeamaaaGreatDoor.Hx
