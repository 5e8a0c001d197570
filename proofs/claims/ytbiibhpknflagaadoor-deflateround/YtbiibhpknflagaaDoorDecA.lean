/- THE CLOSURE THAT READS ONE SYMBOL ('decoder$1'). -/
import Derived.Test.YtbiibhpknflagaaDoorRdC
import Derived.Test.YtbiibhpknflagaaDoorPlainC
namespace Go.Proofs.YtbiibhpknflagaaDoor
open Go.RowKit Plain

/-- A block that the reading leaves alone. -/
structure Apart (w : World) (E : Env) (v : Value) (k : Nat) : Prop where
  lt : k < w.heap.size
  neS : k ≠ E.S
  nev : some k ≠ v.ownBlock
theorem Apart.kept {w w' : World} {E : Env} {v v' : Value} {k : Nat} (h : Apart w E v k) (hk : Kept E.S v v' w w') : Apart w' E v' k :=
  ⟨by have := hk.size; have := h.lt; omega, h.neS, hk.off h.lt h.nev⟩

/-- Where a code's three captured variables lie: the stream, the counts, the symbols in order (a row of its own). -/
structure Loc where
  bs : Nat
  bc : Nat
  bd : Nat
  br : Nat
  cap : Nat
structure CodeAt (w : World) (E : Env) (v : Value) (L : Loc) (cnt srt : List Nat) : Prop where
  s : w.cell? ⟨L.bs, 0, none⟩ = some (.pointer (some ⟨E.S, 0, none⟩))
  c : ∀ i, i < 16 → w.cell? ⟨L.bc, i, none⟩ = some (.int .i64 (cnt.getD i 0 : Nat))
  d : w.cell? ⟨L.bd, 0, none⟩ = some (.slice (some ⟨L.br, 0, none⟩) srt.length L.cap)
  r : ∀ i, i < srt.length → w.cell? ⟨L.br, i, none⟩ = some (.int .i64 (srt.getD i 0 : Nat))
  a1 : Apart w E v L.bs
  a2 : Apart w E v L.bc
  a3 : Apart w E v L.bd
  a4 : Apart w E v L.br
theorem CodeAt.kept {w w' : World} {E : Env} {v v' : Value} {L : Loc} {cnt srt : List Nat} (h : CodeAt w E v L cnt srt) (hk : Kept E.S v v' w w') : CodeAt w' E v' L cnt srt where
  s := (hk.cell (p := ⟨L.bs, 0, none⟩) h.a1.lt h.a1.neS h.a1.nev).trans h.s
  c i hi := (hk.cell (p := ⟨L.bc, i, none⟩) h.a2.lt h.a2.neS h.a2.nev).trans (h.c i hi)
  d := (hk.cell (p := ⟨L.bd, 0, none⟩) h.a3.lt h.a3.neS h.a3.nev).trans h.d
  r i hi := (hk.cell (p := ⟨L.br, i, none⟩) h.a4.lt h.a4.neS h.a4.nev).trans (h.r i hi)
  a1 := h.a1.kept hk
  a2 := h.a2.kept hk
  a3 := h.a3.kept hk
  a4 := h.a4.kept hk
/-- What is known of counts and symbols: no count is great, all symbols are there. -/
structure CodeOK (cnt srt : List Nat) : Prop where
  small : ∀ i, cnt.getD i 0 ≤ 400
  all : below cnt 16 = srt.length
  len : srt.length ≤ 400
def codeArgs (L : Loc) : Array Value := #[.pointer (some ⟨L.bs, 0, none⟩), .pointer (some ⟨L.bc, 0, none⟩), .pointer (some ⟨L.bd, 0, none⟩)]

theorem getB_one (zs : List Int) (p : Nat) : getB zs p 1 ≤ 1 := by have := getB_lt zs p 1; omega

set_option maxHeartbeats 1000000 in
theorem dec_ok (E : Env) (L : Loc) (cnt srt : List Nat) (p y p' : Nat) (v : Value) (w : World) (hz : IsB E.zs) (hl : E.zs.length ≤ 400000) (h : Rd w E p v) (hc : CodeAt w E v L cnt srt) (hok : CodeOK cnt srt)
    (hd : dec cnt srt E.zs p = some (y, p')) :
    Calls Tryd.prog 80 #[.pointer (some ⟨L.bs, 0, none⟩), .pointer (some ⟨L.bc, 0, none⟩), .pointer (some ⟨L.bd, 0, none⟩)] w fun e w' => e = .returned (.int .i64 y) ∧ Rd w' E p' v ∧ Kept E.S (.bool true) (.bool true) w w' := by
  have HD : Hid (decGo cnt srt E.zs 15 1 0 0 0 p = some (y, p')) := hd
  clear hd
  go_enter Tryd.func80, Tryd.ntmps80
  go_wp2
  go_loopw [4, 5, 6, 7] (fun b f q i wr => ∃ n bn fn pn : Nat, 1 ≤ n ∧ n ≤ 16 ∧ i = .int .i64 n ∧ b = .int .i64 bn ∧ f = .int .i64 fn ∧ q = .int .i64 pn ∧ fn ≤ bn ∧ bn < 2 ^ (n - 1) ∧ pn ≤ 400 ∧
      Hid (pn = below cnt n) ∧ Hid (decGo cnt srt E.zs (16 - n) n bn fn pn (p + (n - 1)) = some (y, p')) ∧ Hid (Rd wr E (p + (n - 1)) v) ∧ Hid (Kept E.S (.bool true) (.bool true) w wr)) (fun _ _ _ i _ => 16 - (intOf i).toNat)
  case atStart => exact ⟨1, 0, 0, 0, by omega, by omega, rfl, rfl, rfl, rfl, by omega, by simp, by omega, rfl, HD, h, Kept.refl _ _ _⟩
  case round =>
    obtain ⟨n, bn, fn, pn, hn1, hn2, rfl, rfl, rfl, rfl, hfb, hb2, hpn, HP, HDn, HR, HK⟩ := hrel
    by_cases hn : n = 16
    · exact absurd HDn.out (by rw [hn]; simp [decGo])
    · have hbn : bn < 16384 := Nat.lt_of_lt_of_le hb2 (by have := Nat.pow_le_pow_right (n := 2) (by omega) (show n - 1 ≤ 14 by omega); simpa using this)
      have hle : n ≤ 15 := by omega
      have E1 := HDn.out
      rw [show 16 - n = (15 - n) + 1 from by omega, decGo] at E1
      have hroom : ¬ 8 * E.zs.length < p + (n - 1) + 1 := by intro hh; rw [if_pos hh] at E1; cases E1
      rw [if_neg hroom] at E1
      have hcw : CodeAt wr E v L cnt srt := hc.kept (HK.out.weak v)
      have cs := hcw.s
      have g1 := getB_one E.zs (p + (n - 1))
      have hsm := hok.small n
      obtain ⟨g, HG⟩ : ∃ g, Hid (g = getB E.zs (p + (n - 1)) 1) := ⟨_, rfl⟩
      obtain ⟨c, HC⟩ : ∃ c, Hid (c = cnt.getD n 0) := ⟨_, rfl⟩
      rw [← HG.out] at g1 E1
      rw [← HC.out] at hsm E1
      have HE1 : Hid (_ = some (y, p')) := E1
      have hle' : (n : Int) ≤ 15 := by omega
      clear E1
      go_wp2_with fail
      refine (number_ok E (p + (n - 1)) 1 v wr hz hl (by omega) HR.out (by omega)).mono ?_
      rintro e w1 ⟨rfl, hR1, hK1⟩
      rw [← HG.out]
      have HR1 : Hid (Rd w1 E (p + (n - 1) + 1) v) := hR1
      have HK1 : Hid (Kept E.S (.bool true) (.bool true) w w1) := HK.out.trans hK1
      have hc1 : CodeAt w1 E v L cnt srt := hcw.kept (hK1.weak v)
      have cd := hc1.d
      have cn := hc1.c n (by omega)
      rw [← HC.out] at cn
      clear hR1 hK1 cs
      by_cases hlt : 2 * bn + g - 2 * fn < c
      · have hix : pn + (2 * bn + g - 2 * fn) < srt.length := by
          have := below_mono cnt (n + 1) 16 (by omega)
          rw [below_succ cnt n hn1, hok.all, ← HC.out, ← HP.out] at this; omega
        have cr := hc1.r _ hix
        have hltZ : 2 * (bn : Int) + g - fn * 2 < c := by omega
        have hixZ : pn + (2 * bn + g) - fn * 2 < srt.length := by omega
        obtain ⟨x, HX⟩ : ∃ x, Hid (x = srt.getD (pn + (2 * bn + g - 2 * fn)) 0) := ⟨_, rfl⟩
        rw [← HX.out, show pn + (2 * bn + g - 2 * fn) = pn + (2 * bn + g) - fn * 2 from by omega] at cr
        have E2 := HE1.out
        rw [if_pos hlt, ← HX.out] at E2
        simp only [Option.some.injEq, Prod.mk.injEq] at E2
        obtain ⟨rfl, rfl⟩ := E2
        go_wp2
        go_ret
        exact ⟨rfl, HR1.out, HK1.out⟩
      · have E2 := HE1.out
        have hltZ : ¬ 2 * (bn : Int) + g - fn * 2 < c := by omega
        rw [if_neg hlt] at E2
        have HE2 : Hid (_ = some (y, p')) := E2
        have hpw : 2 ^ (n + 1 - 1) = 2 * 2 ^ (n - 1) := by rw [show n + 1 - 1 = (n - 1) + 1 from by omega, Nat.pow_succ]; omega
        have hb3 : 2 * bn + g < 2 ^ (n + 1 - 1) := by omega
        have HP1 : Hid (pn + c = below cnt (n + 1)) := by show _ = _; rw [below_succ cnt n hn1, ← HC.out, ← HP.out]
        have hp4 : pn + c ≤ 400 := by have := below_mono cnt (n + 1) 16 (by omega); rw [← HP1.out, hok.all] at this; have := hok.len; omega
        clear E2 hpw HDn HD
        go_wp2
        go_roundw
        case rel => exact ⟨n + 1, 2 * bn + g, 2 * fn + c, pn + c, by omega, by omega, by go_num, by go_num, by go_num, by go_num, by omega, hb3, hp4, HP1, by show _ = _; rw [show 16 - (n + 1) = 15 - n from by omega, show p + (n + 1 - 1) = p + (n - 1) + 1 from by omega]; exact HE2.out, by show Rd _ _ _ _; rw [show p + (n + 1 - 1) = p + (n - 1) + 1 from by omega]; exact HR1.out, HK1⟩
        case measure => simp [intOf]; omega
end Go.Proofs.YtbiibhpknflagaaDoor
