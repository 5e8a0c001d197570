import Derived.Test.YtijeogdnjeamaaaGreatDoorQo05
import Derived.Test.YtijeogdnjeamaaaGreatDoorQo02
import Derived.Deep.AppendLies
import Derived.Deep.LoopGhost
import Derived.Deep.RegionWith
import Derived.Deep.QuietTactic
import Derived.BigQuiet
import Derived.WalkLawsBesides
import Derived.WalkSpells
import Derived.Laws.BitsAllLaws
import Derived.Laws.CopyOwn
import Derived.Laws.IdiomCopy
import Derived.Deep.RegionHeld3
import Derived.Deep.RegionLaw
import Derived.Deep.DrawnRows
import Derived.Deep.MidRow
import Derived.Laws.BytesArg
import Derived.Laws.Externs
namespace Go.Proofs.YtijeogdnjeamaaaGreatDoor
open Go.RowKit
set_option linter.unusedVariables false
set_option linter.unusedSimpArgs false
theorem sV_out (s : Str) : sV s = .string ⟨s.toArray⟩ := rfl
theorem beq_txt {x y : Str} {X Y : ByteArray} (hX : (⟨x.toArray⟩ : ByteArray) = X) (hY : (⟨y.toArray⟩ : ByteArray) = Y) : (X.toList == Y.toList) = (x == y) := by
  rw [← hX, ← hY]
  simp
theorem hasPre (s p : Str) (w : World) : Calls Tryz.prog 114 #[sV s, sV p] w fun e w' => e = .returned (.bool (s.take p.length == p)) ∧ w' = w := by
  rw [sV_out, sV_out]
  obtain ⟨S, HS⟩ : ∃ S : ByteArray, Hid (⟨s.toArray⟩ = S) := ⟨_, hid rfl⟩
  obtain ⟨T, HT⟩ : ∃ S : ByteArray, Hid (⟨p.toArray⟩ = S) := ⟨_, hid rfl⟩
  obtain ⟨n, HN⟩ : ∃ n, Hid (s.length = n) := ⟨_, rfl⟩
  obtain ⟨m, HM⟩ : ∃ n, Hid (p.length = n) := ⟨_, rfl⟩
  have hsz : S.size = n := by rw [← HS.out, txt_len]; exact HN.out
  have hpz : T.size = m := by rw [← HT.out, txt_len]; exact HM.out
  obtain ⟨bb, HBB⟩ : ∃ bb, Hid ((s.take p.length == p) = bb) := ⟨_, rfl⟩
  by_cases hle : m ≤ n
  · have hli : (m : Int) ≤ (n : Int) := by omega
    obtain ⟨R, HR⟩ : ∃ S : ByteArray, Hid (⟨(s.take m).toArray⟩ = S) := ⟨_, hid rfl⟩
    have hsl : ∀ w1 : World, (Instr.slice 9 (.string S) none (some (.int .i64 m)) none).run Tryz.prog w1 = .ok (.string R) w1 := fun w1 => by rw [← HS.out, ← HR.out]; exact slc_to s m (by rw [HN.out]; exact hle) w1
    have hq : (R.toList == T.toList) = bb := by rw [beq_txt HR.out HT.out, ← HBB.out, HM.out]
    rw [HS.out, HT.out, HBB.out]
    go_enter Tryz.func114, Tryz.ntmps114
    go_wp2
    go_ret
    exact ⟨by rw [← hq]; rfl, rfl⟩
  · have hli : ¬ (m : Int) ≤ (n : Int) := by omega
    have hb : bb = false := by
      rw [← HBB.out]
      have : s.take p.length ≠ p := fun h => by
        have h2 := congrArg List.length h
        rw [List.length_take, HN.out, HM.out] at h2
        omega
      simp [this]
    rw [HS.out, HT.out, HBB.out, hb]
    go_enter Tryz.func114, Tryz.ntmps114
    go_wp2
    go_ret
    exact ⟨rfl, rfl⟩
def trP (p s : Str) : Str := if s.take p.length = p then s.drop p.length else s
theorem trimPre_in (s p : Str) (w : World) : Calls Tryz.prog 121 #[sV s, sV p] w fun e w' => e = .returned (sV (trP p s)) ∧ w' = w := by
  have HF := hid (hasPre s p w)
  rw [sV_out, sV_out] at HF
  rw [sV_out, sV_out, sV_out]
  obtain ⟨S, HS⟩ : ∃ S : ByteArray, Hid (⟨s.toArray⟩ = S) := ⟨_, hid rfl⟩
  obtain ⟨T, HT⟩ : ∃ S : ByteArray, Hid (⟨p.toArray⟩ = S) := ⟨_, hid rfl⟩
  obtain ⟨n, HN⟩ : ∃ n, Hid (s.length = n) := ⟨_, rfl⟩
  obtain ⟨m, HM⟩ : ∃ n, Hid (p.length = n) := ⟨_, rfl⟩
  have hsz : S.size = n := by rw [← HS.out, txt_len]; exact HN.out
  have hpz : T.size = m := by rw [← HT.out, txt_len]; exact HM.out
  by_cases hp : s.take p.length = p
  · have hb : (s.take p.length == p) = true := by simp [hp]
    have hle : m ≤ n := by
      have h2 := congrArg List.length hp
      rw [List.length_take, HN.out, HM.out] at h2
      omega
    obtain ⟨R, HR⟩ : ∃ S : ByteArray, Hid (⟨(trP p s).toArray⟩ = S) := ⟨_, hid rfl⟩
    have hsl : ∀ w1 : World, (Instr.slice 9 (.string S) (some (.int .i64 m)) none none).run Tryz.prog w1 = .ok (.string R) w1 := fun w1 => by
      rw [← HS.out, ← HR.out, trP, if_pos hp, HM.out]; exact slc_from s m (by rw [HN.out]; exact hle) w1
    rw [HS.out, HT.out, hb] at HF
    rw [HS.out, HT.out, HR.out]
    clear hp hb
    go_enter Tryz.func121, Tryz.ntmps121
    go_wp2_with fail
    refine HF.out.mono ?_
    rintro e w1 ⟨rfl, hw⟩
    rw [hw]
    go_wp2
    go_ret
    exact ⟨rfl, rfl⟩
  · have hb : (s.take p.length == p) = false := by simp [hp]
    have ht : trP p s = s := by rw [trP, if_neg hp]
    rw [HS.out, HT.out, hb] at HF
    rw [ht, HS.out, HT.out]
    clear hp hb ht
    go_enter Tryz.func121, Tryz.ntmps121
    go_wp2_with fail
    refine HF.out.mono ?_
    rintro e w1 ⟨rfl, hw⟩
    rw [hw]
    go_wp2
    go_ret
    exact ⟨rfl, rfl⟩
theorem trimPre (s p : Str) (w : World) : Calls Tryz.prog 101 #[sV s, sV p] w fun e w' => e = .returned (sV (trP p s)) ∧ w' = w := by
  have HF := hid (trimPre_in s p w)
  obtain ⟨S, HS⟩ : ∃ S, Hid (sV s = S) := ⟨_, hid rfl⟩
  obtain ⟨T, HT⟩ : ∃ S, Hid (sV p = S) := ⟨_, hid rfl⟩
  obtain ⟨R, HR⟩ : ∃ S, Hid (sV (trP p s) = S) := ⟨_, hid rfl⟩
  rw [HS.out, HT.out, HR.out] at HF
  rw [HS.out, HT.out, HR.out]
  go_enter Tryz.func101, Tryz.ntmps101
  go_wp2_with fail
  refine HF.out.mono ?_
  rintro e w1 ⟨rfl, hw⟩
  rw [hw]
  go_wp2
  go_ret
  exact ⟨rfl, rfl⟩
theorem hasSuf (s p : Str) (hl : s.length ≤ 1000000) (w : World) : Calls Tryz.prog 92 #[sV s, sV p] w fun e w' => e = .returned (.bool (decide (p.length ≤ s.length) && (s.drop (s.length - p.length) == p))) ∧ w' = w := by
  rw [sV_out, sV_out]
  obtain ⟨S, HS⟩ : ∃ S : ByteArray, Hid (⟨s.toArray⟩ = S) := ⟨_, hid rfl⟩
  obtain ⟨T, HT⟩ : ∃ S : ByteArray, Hid (⟨p.toArray⟩ = S) := ⟨_, hid rfl⟩
  obtain ⟨n, HN⟩ : ∃ n, Hid (s.length = n) := ⟨_, rfl⟩
  obtain ⟨m, HM⟩ : ∃ n, Hid (p.length = n) := ⟨_, rfl⟩
  have hsz : S.size = n := by rw [← HS.out, txt_len]; exact HN.out
  have hpz : T.size = m := by rw [← HT.out, txt_len]; exact HM.out
  rw [HN.out] at hl
  rw [HN.out, HM.out]
  obtain ⟨bb, HBB⟩ : ∃ bb, Hid ((s.drop (n - m) == p) = bb) := ⟨_, rfl⟩
  by_cases hle : m ≤ n
  · have hli : (m : Int) ≤ (n : Int) := by omega
    obtain ⟨d, HD⟩ : ∃ d, Hid (n - m = d) := ⟨_, rfl⟩
    have hdi : (n : Int) - (m : Int) = (d : Int) := by rw [← HD.out]; omega
    have hdn : d ≤ n := by rw [← HD.out]; omega
    obtain ⟨R, HR⟩ : ∃ S : ByteArray, Hid (⟨(s.drop d).toArray⟩ = S) := ⟨_, hid rfl⟩
    have hsl : ∀ w1 : World, (Instr.slice 9 (.string S) (some (.int .i64 d)) none none).run Tryz.prog w1 = .ok (.string R) w1 := fun w1 => by rw [← HS.out, ← HR.out]; exact slc_from s d (by rw [HN.out]; exact hdn) w1
    have hq : (R.toList == T.toList) = bb := by rw [beq_txt HR.out HT.out, ← HBB.out, HD.out]
    have hdc : decide (m ≤ n) = true := by simp [hle]
    rw [HS.out, HT.out, HBB.out, hdc, Bool.true_and]
    clear hdc
    go_enter Tryz.func92, Tryz.ntmps92
    go_wp2
    go_ret
    exact ⟨by rw [← hq]; rfl, rfl⟩
  · have hli : ¬ (m : Int) ≤ (n : Int) := by omega
    have hdc : decide (m ≤ n) = false := by simp [hle]
    rw [HS.out, HT.out, hdc, Bool.false_and]
    clear hdc
    go_enter Tryz.func92, Tryz.ntmps92
    go_wp2
    go_ret
    exact ⟨rfl, rfl⟩
def trS (p s : Str) : Str := if p.length ≤ s.length ∧ s.drop (s.length - p.length) = p then s.take (s.length - p.length) else s
theorem trimSuf_in (s p : Str) (hl : s.length ≤ 1000000) (w : World) : Calls Tryz.prog 142 #[sV s, sV p] w fun e w' => e = .returned (sV (trS p s)) ∧ w' = w := by
  have HF := hid (hasSuf s p hl w)
  rw [sV_out, sV_out] at HF
  rw [sV_out, sV_out, sV_out]
  obtain ⟨S, HS⟩ : ∃ S : ByteArray, Hid (⟨s.toArray⟩ = S) := ⟨_, hid rfl⟩
  obtain ⟨T, HT⟩ : ∃ S : ByteArray, Hid (⟨p.toArray⟩ = S) := ⟨_, hid rfl⟩
  obtain ⟨n, HN⟩ : ∃ n, Hid (s.length = n) := ⟨_, rfl⟩
  obtain ⟨m, HM⟩ : ∃ n, Hid (p.length = n) := ⟨_, rfl⟩
  have hsz : S.size = n := by rw [← HS.out, txt_len]; exact HN.out
  have hpz : T.size = m := by rw [← HT.out, txt_len]; exact HM.out
  rw [HN.out] at hl
  by_cases hp : p.length ≤ s.length ∧ s.drop (s.length - p.length) = p
  · have hb : (decide (p.length ≤ s.length) && (s.drop (s.length - p.length) == p)) = true := by simp [hp.1, hp.2]
    obtain ⟨d, HD⟩ : ∃ d, Hid (n - m = d) := ⟨_, rfl⟩
    have hmn : m ≤ n := by have := hp.1; rw [HN.out, HM.out] at this; exact this
    have hdi : (n : Int) - (m : Int) = (d : Int) := by rw [← HD.out]; omega
    have hdn : d ≤ n := by rw [← HD.out]; omega
    obtain ⟨R, HR⟩ : ∃ S : ByteArray, Hid (⟨(trS p s).toArray⟩ = S) := ⟨_, hid rfl⟩
    have hsl : ∀ w1 : World, (Instr.slice 9 (.string S) none (some (.int .i64 d)) none).run Tryz.prog w1 = .ok (.string R) w1 := fun w1 => by
      rw [← HS.out, ← HR.out, trS, if_pos hp, HM.out, HN.out, HD.out]; exact slc_to s d (by rw [HN.out]; exact hdn) w1
    rw [HS.out, HT.out, hb] at HF
    rw [HS.out, HT.out, HR.out]
    clear hp hb
    go_enter Tryz.func142, Tryz.ntmps142
    go_wp2_with fail
    refine HF.out.mono ?_
    rintro e w1 ⟨rfl, hw⟩
    rw [hw]
    go_wp2
    go_ret
    exact ⟨rfl, rfl⟩
  · have hb : (decide (p.length ≤ s.length) && (s.drop (s.length - p.length) == p)) = false := by
      by_cases h1 : p.length ≤ s.length
      · have h2 : ¬ s.drop (s.length - p.length) = p := fun h => hp ⟨h1, h⟩
        simp [h2]
      · simp [h1]
    have ht : trS p s = s := by rw [trS, if_neg hp]
    rw [HS.out, HT.out, hb] at HF
    rw [ht, HS.out, HT.out]
    clear hp hb ht
    go_enter Tryz.func142, Tryz.ntmps142
    go_wp2_with fail
    refine HF.out.mono ?_
    rintro e w1 ⟨rfl, hw⟩
    rw [hw]
    go_wp2
    go_ret
    exact ⟨rfl, rfl⟩
theorem trimSuf (s p : Str) (hl : s.length ≤ 1000000) (w : World) : Calls Tryz.prog 120 #[sV s, sV p] w fun e w' => e = .returned (sV (trS p s)) ∧ w' = w := by
  have HF := hid (trimSuf_in s p hl w)
  obtain ⟨S, HS⟩ : ∃ S, Hid (sV s = S) := ⟨_, hid rfl⟩
  obtain ⟨T, HT⟩ : ∃ S, Hid (sV p = S) := ⟨_, hid rfl⟩
  obtain ⟨R, HR⟩ : ∃ S, Hid (sV (trS p s) = S) := ⟨_, hid rfl⟩
  rw [HS.out, HT.out, HR.out] at HF
  rw [HS.out, HT.out, HR.out]
  go_enter Tryz.func120, Tryz.ntmps120
  go_wp2_with fail
  refine HF.out.mono ?_
  rintro e w1 ⟨rfl, hw⟩
  rw [hw]
  go_wp2
  go_ret
  exact ⟨rfl, rfl⟩
end Go.Proofs.YtijeogdnjeamaaaGreatDoor
namespace Go.Proofs.YtijeogdnjeamaaaGreatDoor
open Go.RowKit
set_option linter.unusedVariables false
set_option linter.unusedSimpArgs false
theorem own_mk {w : World} {B : Nat} {v : Value} {s : Str} (h : w.ownsRow B 5 1 v s.length (bv s)) : (v = .slice none 0 0 ∧ s = []) ∨ ∃ g cap, v = .slice (some ⟨g, 0, none⟩) s.length cap ∧ B ≤ g ∧ Mk w g cap s := by
  obtain ⟨hl, ⟨hv, e0⟩ | ⟨g, cap, cur, hv, hb, hh, hkc, hcm, hsz, htk⟩⟩ := h
  · exact .inl ⟨hv, List.length_eq_zero_iff.1 e0⟩
  · refine .inr ⟨g, cap, hv, hb, ⟨lt_of_some hh, hkc, fun j u hj => ?_, fun i h1 h2 => ⟨?_, ?_⟩⟩⟩
    · rw [cell_of_row w g j _ _ _ hh]
      rw [← htk] at hj
      have hlt := (List.getElem?_eq_some_iff.1 hj).1
      rw [List.length_take] at hlt
      rw [List.getElem?_take_of_lt (by omega)] at hj
      simpa using hj
    · rw [cell_of_row w g i _ _ _ hh, Array.getElem?_eq_getElem (by omega)]
      rfl
    · exact frozen_of_row w g i _ _ hh
structure AP (g : Nat) (hs : List Value) (ls : List Str) (W : World) : Prop where
  lt : g < W.heap.size
  row : ∀ i, i < ls.length → W.cell? ⟨g, i, none⟩ = some (hs.getD i undef)
  each : ∀ i, i < ls.length → ∃ a c, hs.getD i undef = .slice a (ls.getD i []).length c ∧ PB W a c (ls.getD i [])
theorem AP.below {g : Nat} {hs : List Value} {ls : List Str} {W W' : World} (h : AP g hs ls W) (hb : Below W.heap.size W W') : AP g hs ls W' :=
  ⟨Nat.lt_of_lt_of_le h.lt hb.size, fun i hi => (hb.cell (p := ⟨g, i, none⟩) h.lt).trans (h.row i hi), fun i hi => by
    obtain ⟨a, c, h1, h2⟩ := h.each i hi
    exact ⟨a, c, h1, h2.below hb⟩⟩
theorem ll_row {w W : World} {B : Nat} {v : Value} {hs : List Value} {ls : List Str} (h : LL w W B v hs ls) : ∃ a cap, v = .slice a ls.length cap ∧ (0 < ls.length → ∃ g, a = some ⟨g, 0, none⟩ ∧ v.ownBlock = some g ∧ B ≤ g ∧ g < W.heap.size ∧ ∀ i, i < ls.length → W.cell? ⟨g, i, none⟩ = some (hs.getD i undef)) := by
  have hr := h.row
  rw [h.len] at hr
  obtain ⟨hl, ⟨hv, h0⟩ | ⟨g, cap, cur, hv, hb, hh, hkc, hcm, hsz, htk⟩⟩ := hr
  · exact ⟨none, 0, by rw [hv, h0], fun h => by omega⟩
  · refine ⟨_, cap, hv, fun h1 => ⟨g, rfl, by rw [hv]; rfl, hb, lt_of_some hh, fun i hi => ?_⟩⟩
    rw [cell_of_row W g i _ _ _ hh]
    have hj : hs[i]? = some (hs.getD i undef) := by
      rw [List.getD_eq_getElem?_getD, List.getElem?_eq_getElem (by rw [h.len]; exact hi)]; rfl
    rw [← htk] at hj
    rw [List.getElem?_take_of_lt (by omega)] at hj
    rw [← htk]
    simpa using hj
theorem ap_mv {w w3 W : World} {B : Nat} {v : Value} {hs : List Value} {ls : List Str} (h : LL w w3 B v hs ls) (hsz : w3.heap.size ≤ W.heap.size) (g : Nat) (hg : v.ownBlock = some g) (h0 : 0 < ls.length) (hrow : W.heap[g]? = w3.heap[g]?) (hc : ∀ j, j < ls.length → ∀ k, (hs.getD j undef).ownBlock = some k → ∀ q, q < (ls.getD j []).length → W.cell? ⟨k, q, none⟩ = w3.cell? ⟨k, q, none⟩) : AP g hs ls W := by
  obtain ⟨a, cap, hv, hr⟩ := ll_row h
  obtain ⟨g', ha, hob, hBg, hlt, hcell⟩ := hr h0
  rw [hob] at hg
  cases hg
  refine ⟨Nat.lt_of_lt_of_le hlt hsz, fun i hi => ?_, fun i hi => ?_⟩
  · rw [World.cell?_of_block (a := ⟨g, i, none⟩) hrow]
    exact hcell i hi
  · rcases own_mk (h.each i hi) with ⟨hv, hs0⟩ | ⟨g, cap, hv, hBg, hm⟩
    · exact ⟨none, 0, by rw [hv, hs0]; rfl, by rw [hs0]; exact pb_none W⟩
    · refine ⟨some ⟨g, 0, none⟩, cap, hv, hm.capl, fun hp => ⟨g, 0, rfl, Nat.lt_of_lt_of_le hm.lt hsz, fun q hq j u hu => ?_⟩, fun e => by cases e⟩
      have hj : j = 0 := by
        have := (List.getElem?_eq_some_iff.1 hu).1
        simp [encB] at this
        exact this
      subst hj
      have h1 := hm.pb
      have h2 := h1.cell q hq
      have h3 := hc i hi g (by rw [hv]; rfl) q hq
      simp [encB] at hu
      rw [show 0 + q * 1 + 0 = q by omega, h3, ← hu]
      rw [Nat.zero_add] at h2
      simpa using h2
end Go.Proofs.YtijeogdnjeamaaaGreatDoor
namespace Go.Proofs.YtijeogdnjeamaaaGreatDoor
open Go.RowKit
set_option linter.unusedVariables false
set_option linter.unusedSimpArgs false
def encS (s : Str) : List Value := [sV s]
abbrev PS (w : World) (a : Option Addr) (cap : Nat) (l : List Str) : Prop := Px encS 1 ([] : Str) w a cap l
abbrev BS (w0 w : World) (B : Nat) (v : Value) (l : List Str) : Prop := Bx encS 1 9 w0 w B v l
theorem info9 : (Tryz.prog.info? 9).map (fun i => (i.zero, i.size, i.bytes)) = some (some (.string ⟨#[]⟩), 1, 16) := by kernel_rfl
theorem und63s : Tryz.prog.underlying 63 = some (.slice 9) := by kernel_rfl
theorem run_txt (u : ByteArray) (w : World) : (Instr.buildSlice 63 1 #[(0, .string u)]).run Tryz.prog w = .ok (.slice (some ⟨w.heap.size, 0, none⟩) 1 1) (w.alloc (.cells #[.string u] 9)) := by
  obtain ⟨i, hq, hz, hs, _⟩ := info_parts info9
  refine run_buildSlice w 63 9 1 _ #[.string u] i _ und63s hq hz (by rw [hs]; decide) (by rw [hs]; decide) ?_
  rw [hs]
  have hr : Array.range 1 = #[0] := rfl
  simp [Instr.fill, hr, Value.cells]
theorem BS.more {w0 W : World} {B : Nat} {v : Value} {l : List Str} (h : BS w0 W B v l) (hn : l.length ≤ 20000) (s : Str) (u : ByteArray) (hu : ⟨s.toArray⟩ = u) (ty : TypeId) :
    ∃ v' W', (Builtin.append_ #[63, 63] ty #[v, .slice (some ⟨W.heap.size, 0, none⟩) 1 1]).run Tryz.prog (W.alloc (.cells #[.string u] 9)) = .ok v' W' ∧ BS w0 W' B v' (l ++ [s]) := by
  obtain ⟨i, hi, hz0, hz1, hz2⟩ := info_parts info9
  have h' := h.alloc (.cells #[.string u] 9)
  obtain ⟨v', W', hr, h1, h2, _⟩ := run_append_own_at (P := Tryz.prog) (W.alloc (.cells #[.string u] 9)) B 63 ty 9 i _ 1 16 und63s hi hz0 hz1 hz2 rfl (by decide) v _ _ h'.own ⟨W.heap.size, 0, none⟩ 1 1 [sV s] rfl (fun j x hj => by
    cases j with
    | zero =>
      cases hj
      rw [addr_add]
      have := cell_of_row (W.alloc (.cells #[.string u] 9)) W.heap.size 0 _ 9 (0, 0) (heap_alloc_new W _)
      rw [Nat.zero_add, this, ← hu]
      rfl
    | succ j => simp at hj) (fun x hx => by rw [List.mem_singleton.1 hx]; rfl) (by unfold maxLen; omega) (by omega) h'.le
  refine ⟨v', W', hr, h'.below.grown h2 h'.le (fun k hk => (own_lt h'.own k hk).1), ?_, Nat.le_trans h'.le h2.size⟩
  rw [List.length_append, List.flatMap_append]
  exact h1
theorem bs_nil (w : World) (B : Nat) (h : B = w.heap.size) : BS w w B (.slice none 0 0) [] := ⟨Below.refl _ _, ⟨rfl, .inl ⟨rfl, rfl⟩⟩, by omega⟩
abbrev noEnd (s : Str) : Str := trS [10] s
theorem Tryz.results99 : Tryz.f99.results = #[.tmp 2, .tmp 3] := by kernel_rfl
def PostT (s : Str) (w : World) (e : Ending) (w' : World) : Prop :=
  Below w.heap.size w w' ∧ ((∃ ls, okL ls ∧ s = pktL ls ∧ ∃ v, e = .returned (.tuple #[v, .nilIface]) ∧ BS w w' w.heap.size v (ls.map noEnd)) ∨ ((¬ ∃ ls, okL ls ∧ s = pktL ls) ∧ e = .returned (.tuple #[.slice none 0 0, .iface 37 (.int .i64 110)])))
theorem pktL_cnt : ∀ ls : List Str, 4 * ls.length ≤ (pktL ls).length
  | [] => by simp
  | x :: ls => by
    have := pktL_cnt ls
    show 4 * (ls.length + 1) ≤ (pkt x ++ pktL ls).length
    rw [List.length_append, pkt_len]
    omega
set_option maxRecDepth 20000 in
set_option maxHeartbeats 4000000 in
theorem readTexts_any {w : World} (a : Option Addr) (cap : Nat) (s : Str) (hP : PB w a cap s) (hl : s.length ≤ 60000) (he : Ers w) (hd : Db w) : Calls Tryz.prog 99 #[.slice a s.length cap] w (PostT s w) := by
  obtain ⟨m, HM⟩ : ∃ m, Hid (s.length = m) := ⟨_, rfl⟩
  obtain ⟨G, HG⟩ : ∃ g, Hid (w.heap.size = g) := ⟨_, rfl⟩
  have C1 : Hid (Calls Tryz.prog 119 #[.slice a m cap] w (PostL s w)) := hid (by
    have := lines_any a cap s hP (by omega) he hd
    rw [HM.out] at this
    exact this)
  have HL := hid hl
  rw [HM.out]
  clear hP hl he hd
  go_enter Tryz.func99, Tryz.ntmps99
  go_wp2_with fail
  refine C1.out.mono ?_
  rintro e w1 ⟨hb1, ⟨ls, hok, hs, v, hs2, rfl, hll⟩ | ⟨hno, rfl⟩⟩
  · obtain ⟨al, cl, hvl, hrow⟩ := ll_row hll
    obtain ⟨k, HK⟩ : ∃ k, Hid (ls.length = k) := ⟨_, rfl⟩
    rw [HK.out] at hvl hrow
    subst hvl
    have HOK := hid hok
    have HS := hid hs
    have HB1 := hid hb1
    have hkb : k ≤ 15000 := by
      have h1 := pktL_cnt ls
      rw [← HS.out, HK.out] at h1
      have := HL.out
      omega
    obtain ⟨B, HBB⟩ : ∃ B, Hid (w1.heap.size = B) := ⟨_, rfl⟩
    have HAL : Hid (0 < k → ∃ g, al = some ⟨g, 0, none⟩ ∧ AP g hs2 ls w1) := hid (fun h0 => by
      obtain ⟨g, h1, h2, _⟩ := hrow h0
      exact ⟨g, h1, ap_mv hll (Nat.le_refl _) g h2 (by rw [HK.out]; exact h0) rfl (fun _ _ _ _ _ _ => rfl)⟩)
    have S0 : Hid (BS w1 w1 B (.slice none 0 0) ((ls.take 0).map noEnd)) := hid (bs_nil w1 B HBB.out.symm)
    clear hok hs hb1 hll hrow
    go_wp2_with fail
    go_loopg [6, 19] k (fun gg ov iv wr => ∃ i : Nat, iv = .int .i64 i ∧ i ≤ k ∧ gg = k - i ∧ Hid (BS w1 wr B ov ((ls.take i).map noEnd)))
    case atStart => exact ⟨0, rfl, Nat.zero_le _, rfl, S0⟩
    case round =>
      obtain ⟨i, rfl, hi, hk, HO⟩ := hrel
      by_cases hlt : i < k
      · have hlti : (i : Int) < (k : Int) := by omega
        obtain ⟨g, rfl, hA⟩ := HAL.out (by omega)
        have hil : i < ls.length := by rw [HK.out]; exact hlt
        have hA2 := hA.below (W' := wr) (by rw [HBB.out]; exact HO.out.below)
        obtain ⟨x, HX⟩ : ∃ x, Hid (ls.getD i [] = x) := ⟨_, rfl⟩
        obtain ⟨q, HQ⟩ : ∃ q, Hid (x.length = q) := ⟨_, rfl⟩
        obtain ⟨xa, xc, hx, hpx⟩ := hA2.each i hil
        rw [HX.out] at hx hpx
        rw [HQ.out] at hx
        have kc : wr.cell? ⟨g, i, none⟩ = some (.slice xa q xc) := by rw [hA2.row i hil, hx]
        obtain ⟨X, HXb⟩ : ∃ X : ByteArray, Hid (⟨x.toArray⟩ = X) := ⟨_, hid rfl⟩
        have hcv : (convert 25 9 (.slice xa q xc)).run Tryz.prog wr = .ok (.string X) wr := by
          have := conv_str hpx
          rw [HQ.out, sV_out, HXb.out] at this
          exact this
        have HXL : Hid (x.length ≤ 1000) := hid (by rw [← HX.out]; exact HOK.out _ (getD_mem ls i [] hil))
        obtain ⟨Y, HY⟩ : ∃ X : ByteArray, Hid (⟨(noEnd x).toArray⟩ = X) := ⟨_, hid rfl⟩
        have CT : Hid (Calls Tryz.prog 120 #[.string X, .string ⟨#[10]⟩] wr fun e w' => e = .returned (.string Y) ∧ w' = wr) := hid (by
          have := trimSuf x [10] (by have := HXL.out; omega) wr
          rw [sV_out, sV_out, sV_out, HXb.out] at this
          rw [← HY.out]
          exact this)
        have HTK : Hid ((ls.take (i + 1)).map noEnd = (ls.take i).map noEnd ++ [noEnd x]) := hid (by rw [← HX.out, take_snocG [] ls i hil, List.map_append]; rfl)
        have hbs := run_txt Y wr
        obtain ⟨v5, W5, hr5, hb5⟩ := HO.out.more (by rw [List.length_map, List.length_take]; omega) (noEnd x) Y HY.out 63
        obtain ⟨W3, HW3⟩ : ∃ W, Hid (wr.alloc (.cells #[.string Y] 9) = W) := ⟨_, rfl⟩
        rw [HW3.out] at hr5 hbs
        have al3 : wr.alloc (.cells #[.string Y] 9) = W3 := HW3.out
        have HB5 : Hid (BS w1 W5 B v5 ((ls.take (i + 1)).map noEnd)) := hid (by rw [HTK.out]; exact hb5)
        clear hil hA hA2 hx hpx hb5
        go_wp2_with fail
        refine CT.out.mono ?_
        rintro e w2 ⟨rfl, hw⟩
        rw [hw]
        clear hw
        go_wp2_with (first | (refine wpList_bSY rfl 63 1 _ rfl (.string Y) _ rfl hbs ?_) | (at_builtin; refine wpList_app rfl _ _ 63 63 rfl 63 rfl _ _ rfl rfl hr5 ?_) | fail)
        go_roundg (k - (i + 1))
        case measure => omega
        case rel => exact ⟨i + 1, by go_num, by omega, rfl, HB5⟩
      · have hlti : ¬ (i : Int) < (k : Int) := by omega
        have HF : Hid (BS w1 wr B u6 (ls.map noEnd)) := hid (by
          have := HO.out
          rw [List.take_of_length_le (by rw [HK.out]; omega)] at this
          exact this)
        have hGB : G ≤ B := by rw [← HG.out, ← HBB.out]; exact HB1.out.size
        go_wp2
        refine bodyPost_ret (results_tmp2 Tryz.results99 _ _ _) rfl ?_
        have hbw : Below w.heap.size w wr := HB1.out.trans (HF.out.below.mono (by rw [HG.out]; exact hGB))
        exact ⟨hbw, .inl ⟨ls, HOK.out, HS.out, _, rfl, hbw, base_mono HF.out.own (by rw [HG.out]; exact hGB), hbw.size⟩⟩
  · have HNO := hid hno
    have HB1 := hid hb1
    clear hno hb1
    go_wp2
    refine bodyPost_ret (results_tmp2 Tryz.results99 _ _ _) rfl ?_
    exact ⟨HB1.out, .inr ⟨HNO.out, rfl⟩⟩
end Go.Proofs.YtijeogdnjeamaaaGreatDoor
namespace Go.Proofs.YtijeogdnjeamaaaGreatDoor
open Go.RowKit
set_option linter.unusedVariables false
set_option linter.unusedSimpArgs false
theorem pb_grown {w w' : World} {a : Option Addr} {cap : Nat} {s : Str} {row : Option Nat} (h : PB w a cap s) (hne : ∀ p : Addr, a = some p → row ≠ some p.block) (hg : w.grownBy w' row) : PB w' a cap s :=
  ⟨h.capl, fun h0 => by
    obtain ⟨b, off, e1, e2, e3⟩ := h.at_ h0
    refine ⟨b, off, e1, Nat.lt_of_lt_of_le e2 hg.size, fun i hi j v hv => ?_⟩
    rw [World.cell?_of_block (a := ⟨b, off + i * 1 + j, none⟩) (hg.block b e2 (fun e => hne _ e1 e.symm))]
    exact e3 i hi j v hv, h.nil⟩
set_option maxRecDepth 20000 in
theorem appendLine2 {w w0 : World} {B : Nat} {v : Value} {S : Str} (h : Wst B w0 w v S) (hS : S.length ≤ 1000000) (a : Option Addr) (cap : Nat) (s : Str) (hP : PB w a cap s) (hB : ∀ p : Addr, a = some p → v.ownBlock ≠ some p.block) (hl : s.length ≤ 1000) (hd : Db w) : Calls Tryz.prog 59 #[v, .slice a s.length cap] w fun e w' => ∃ v', e = .returned v' ∧ Wst B w0 w' v' (S ++ pkt s) := by
  obtain ⟨n, HN⟩ : ∃ n, Hid (s.length = n) := ⟨_, rfl⟩
  have hn : n ≤ 1000 := by rw [← HN.out]; exact hl
  have C17 : Hid (Calls Tryz.prog 94 #[.slice a n cap] w fun e w' => e = .returned (.string ⟨(szT n).toArray⟩) ∧ Below w.heap.size w w') := hid (sizeOf_any a n cap (by omega) w hd)
  obtain ⟨Z, HZ⟩ : ∃ Z : ByteArray, Hid (⟨(szT n).toArray⟩ = Z) := ⟨_, rfl⟩
  rw [HZ.out] at C17
  have HW := hid h
  have HPB := hid hP
  have HBk := hid hB
  rw [HN.out]
  clear hP hd h
  go_enter Tryz.func59, Tryz.ntmps59
  go_wp2_with fail
  refine C17.out.mono ?_
  rintro e w1 ⟨rfl, hb1⟩
  have hw1 := HW.out.below hb1
  obtain ⟨v2, W2, hr2, ho2, hg2⟩ := own_str hw1.own hw1.le (szT n) (by rw [szT_len]; omega) 25
  rw [HZ.out] at hr2
  have HS2 : Hid (Wst B w0 W2 v2 (S ++ szT n)) := hid (hw1.grown ho2 hg2)
  have hl2 : (S ++ szT n).length ≤ 1000004 := by rw [List.length_append, szT_len]; omega
  have HP2 : Hid (PB W2 a cap s) := hid (pb_grown (HPB.out.below hb1) HBk.out hg2)
  clear hw1 ho2 hg2 hb1
  go_wp2_with (first | (at_builtin; refine wpList_app rfl _ _ 25 9 rfl 25 rfl _ _ rfl rfl hr2 ?_) | (at_builtin; refine wpList_own rfl _ _ rfl B _ (S ++ szT n) rfl HS2.out.own HS2.out.le a cap s (by rw [HN.out]; rfl) HP2.out (by rw [HN.out]; omega) ?_; intro v3 w3 ho3 hg3 hl3) | fail)
  have HS3 : Hid (Wst B w0 w3 v3 (S ++ pkt s)) := hid (by
    have he : S ++ pkt s = (S ++ szT n) ++ s := by unfold pkt; rw [HN.out, List.append_assoc]
    rw [he]; exact HS2.out.grown ho3 hg3)
  clear ho3 hg3 hl3
  go_wp2
  go_ret
  exact ⟨_, rfl, HS3.out⟩
end Go.Proofs.YtijeogdnjeamaaaGreatDoor
namespace Go.Proofs.YtijeogdnjeamaaaGreatDoor
open Go.RowKit
set_option linter.unusedVariables false
set_option linter.unusedSimpArgs false
def tx (s : Str) : Str := if s = [] then [] else s ++ [10]
set_option maxRecDepth 20000 in
set_option maxHeartbeats 4000000 in
theorem writeTexts_any {w : World} (v0 : Value) (l : List Str) (hC : Calls Tryz.prog 58 #[v0] w fun e w' => Below w.heap.size w w' ∧ ∃ a c, e = .returned (.slice a l.length c) ∧ PS w' a c l) (hn : l.length ≤ 900) (hlen : ∀ s ∈ l, s.length ≤ 990) (hd : Db w) : Calls Tryz.prog 31 #[v0] w (PostNu w.heap.size (pktL (l.map tx)) w) := by
  obtain ⟨k, HK⟩ : ∃ k, Hid (l.length = k) := ⟨_, rfl⟩
  have HC := hid hC
  rw [HK.out] at HC hn
  have HLN := hid hlen
  have HD := hid hd
  clear hC hlen hd
  go_enter Tryz.func31, Tryz.ntmps31
  go_wp2_with fail
  refine HC.out.mono ?_
  rintro e w1 ⟨hb1, a, c, rfl, hps⟩
  obtain ⟨B, HBB⟩ : ∃ B, Hid (w1.heap.size = B) := ⟨_, rfl⟩
  have HB1 := hid hb1
  have HPS : Hid (∀ W, Below B w1 W → PS W a c l) := hid (fun W hW => hps.below (by rw [HBB.out]; exact hW))
  have HDW : Hid (∀ W, Below B w1 W → Db W) := hid (fun W hW => (HD.out.below hb1).b hW HBB.out.symm)
  have HFA : Hid (0 < k → ∃ b off, a = some ⟨b, off, none⟩) := hid (fun h0 => by
    obtain ⟨b, off, e1, _⟩ := hps.at_ (by rw [HK.out]; exact h0)
    exact ⟨b, off, e1⟩)
  have S0 : Hid (Wst B w1 w1 (.slice none 0 0) (pktL ((l.take 0).map tx))) := hid ⟨⟨rfl, .inl ⟨rfl, rfl⟩⟩, Below.refl _ _, by rw [HBB.out]; exact Nat.le_refl _⟩
  clear hb1 hps
  go_wp2_with fail
  go_loopg [3, 9] k (fun gg bv0 iv wr => ∃ i : Nat, iv = .int .i64 i ∧ i ≤ k ∧ gg = k - i ∧ Hid (Wst B w1 wr bv0 (pktL ((l.take i).map tx))) ∧ Hid ((pktL ((l.take i).map tx)).length ≤ 1004 * i))
  case atStart => exact ⟨0, rfl, Nat.zero_le _, rfl, S0, hid (by simp [pktL])⟩
  case round =>
    obtain ⟨i, rfl, hi, hk, HS, HSL⟩ := hrel
    by_cases hlt : i < k
    · have hlti : (i : Int) < (k : Int) := by omega
      obtain ⟨b, off, rfl⟩ := HFA.out (by omega)
      have hil : i < l.length := by rw [HK.out]; exact hlt
      obtain ⟨x, HX⟩ : ∃ x, Hid (l.getD i [] = x) := ⟨_, rfl⟩
      obtain ⟨X, HXb⟩ : ∃ X : ByteArray, Hid (⟨x.toArray⟩ = X) := ⟨_, hid rfl⟩
      have HXL : Hid (x.length ≤ 990) := hid (by rw [← HX.out]; exact HLN.out _ (getD_mem l i [] hil))
      have kc : wr.cell? ⟨b, off + i, none⟩ = some (.string X) := by
        obtain ⟨b', off', e1, _, e3⟩ := (HPS.out wr HS.out.bl).at_ (by omega)
        cases e1
        have := e3 i hil 0 _ rfl
        rw [show off + i * 1 + 0 = off + i by omega, HX.out, sV_out, HXb.out] at this
        exact this
      have HTK : Hid (pktL ((l.take (i + 1)).map tx) = pktL ((l.take i).map tx) ++ pkt (tx x)) := hid (by
        rw [take_snocG [] l i hil, HX.out, List.map_append, pktL_app]
        simp [pktL])
      have HSL2 : Hid ((pktL ((l.take (i + 1)).map tx)).length ≤ 1004 * (i + 1)) := hid (by
        rw [HTK.out, List.length_append, pkt_len]
        have h1 := HSL.out
        have h2 : (tx x).length ≤ 1000 := by
          unfold tx
          have := HXL.out
          split
          · simp
          · rw [List.length_append]; simp; omega
        omega)
      by_cases hx0 : x = []
      · subst hx0
        obtain ⟨Y, HY⟩ : ∃ X : ByteArray, Hid (⟨(tx []).toArray⟩ = X) := ⟨_, hid rfl⟩
        have hXe : X = ⟨#[]⟩ := HXb.out.symm
        have hYe : Y = ⟨#[]⟩ := HY.out.symm
        have HTL : Hid ((tx []).length ≤ 1000) := hid (by simp [tx])
        rw [hXe] at kc
        obtain ⟨c2, w2, hr2, hp2, hb2⟩ := conv_bytes (tx []) wr
        rw [HY.out] at hr2
        obtain ⟨K, HK2⟩ : ∃ K, Hid ((tx []).length = K) := ⟨_, rfl⟩
        rw [HK2.out] at hr2
        have CL : Hid (Calls Tryz.prog 59 #[u3, .slice (some ⟨wr.heap.size, 0, none⟩) K c2] w2 fun e w' => ∃ v', e = .returned v' ∧ Wst B w1 w' v' (pktL ((l.take i).map tx) ++ pkt (tx []))) := hid (by
          have := appendLine2 (HS.out.below hb2) (by have := HSL.out; omega) (some ⟨wr.heap.size, 0, none⟩) c2 (tx []) hp2 (fun p hp e => by
            cases hp
            have := (own_lt HS.out.own _ e).2
            exact Nat.lt_irrefl _ this) HTL.out (HDW.out w2 (HS.out.bl.trans (hb2.mono HS.out.le)))
          rw [HK2.out] at this
          exact this)
        obtain ⟨P, HPP⟩ : ∃ P, Hid (wr.heap.size = P) := ⟨_, rfl⟩
        rw [HPP.out] at hr2 CL
        rw [hYe] at hr2
        clear hp2 hb2 hil
        go_wp2_with fail
        refine CL.out.mono ?_
        rintro e w3 ⟨v3, rfl, hs3⟩
        have HS3 : Hid (Wst B w1 w3 v3 (pktL ((l.take (i + 1)).map tx))) := hid (by rw [HTK.out]; exact hs3)
        clear hs3
        go_wp2
        go_roundg (k - (i + 1))
        case measure => omega
        case rel => exact ⟨i + 1, by go_num, by omega, rfl, HS3, HSL2⟩
      · obtain ⟨Y, HY⟩ : ∃ X : ByteArray, Hid (⟨(tx x).toArray⟩ = X) := ⟨_, hid rfl⟩
        have htx : tx x = x ++ [10] := by rw [tx, if_neg hx0]
        have hcat : X ++ ⟨#[10]⟩ = Y := by rw [← HXb.out, ← HY.out, htx]; exact str_app x [10]
        have hqe : (X.toList == []) = false := by rw [← HXb.out]; simp [hx0]
        have hqn : (X.toList != []) = true := by rw [bne, hqe]; rfl
        obtain ⟨q, HQ⟩ : ∃ q, Hid (x.length = q) := ⟨_, rfl⟩
        have hq990 : q ≤ 990 := by rw [← HQ.out]; exact HXL.out
        have hxz : X.size = q := by rw [← HXb.out, txt_len]; exact HQ.out
        have h10 : (⟨#[10]⟩ : ByteArray).size = 1 := rfl
        have HTL : Hid ((tx x).length ≤ 1000) := hid (by rw [htx, List.length_append]; have := HXL.out; simp; omega)
        obtain ⟨c2, w2, hr2, hp2, hb2⟩ := conv_bytes (tx x) wr
        rw [HY.out] at hr2
        obtain ⟨K, HK2⟩ : ∃ K, Hid ((tx x).length = K) := ⟨_, rfl⟩
        rw [HK2.out] at hr2
        have CL : Hid (Calls Tryz.prog 59 #[u3, .slice (some ⟨wr.heap.size, 0, none⟩) K c2] w2 fun e w' => ∃ v', e = .returned v' ∧ Wst B w1 w' v' (pktL ((l.take i).map tx) ++ pkt (tx x))) := hid (by
          have := appendLine2 (HS.out.below hb2) (by have := HSL.out; omega) (some ⟨wr.heap.size, 0, none⟩) c2 (tx x) hp2 (fun p hp e => by
            cases hp
            have := (own_lt HS.out.own _ e).2
            exact Nat.lt_irrefl _ this) HTL.out (HDW.out w2 (HS.out.bl.trans (hb2.mono HS.out.le)))
          rw [HK2.out] at this
          exact this)
        obtain ⟨P, HPP⟩ : ∃ P, Hid (wr.heap.size = P) := ⟨_, rfl⟩
        rw [HPP.out] at hr2 CL
        clear hp2 hb2 hil hx0 htx
        go_wp2_with fail
        refine CL.out.mono ?_
        rintro e w3 ⟨v3, rfl, hs3⟩
        have HS3 : Hid (Wst B w1 w3 v3 (pktL ((l.take (i + 1)).map tx))) := hid (by rw [HTK.out]; exact hs3)
        clear hs3
        go_wp2
        go_roundg (k - (i + 1))
        case measure => omega
        case rel => exact ⟨i + 1, by go_num, by omega, rfl, HS3, HSL2⟩
    · have hlti : ¬ (i : Int) < (k : Int) := by omega
      have HF : Hid (Wst B w1 wr u3 (pktL (l.map tx))) := hid (by
        have := HS.out
        rw [List.take_of_length_le (by rw [HK.out]; omega)] at this
        exact this)
      have hWB : w.heap.size ≤ B := by rw [← HBB.out]; exact HB1.out.size
      go_wp2
      go_ret
      have hbw : Below w.heap.size w wr := HB1.out.trans (HF.out.bl.mono hWB)
      exact ⟨_, rfl, base_mono HF.out.own hWB, hbw, hbw.size⟩
end Go.Proofs.YtijeogdnjeamaaaGreatDoor
namespace Go.Proofs.YtijeogdnjeamaaaGreatDoor.Hx
open Go.RowKit
set_option linter.unusedVariables false
theorem Tryz.info5 : (Tryz.prog.info? 5).map (fun i => (i.zero, i.size, i.bytes)) = some (some (.int .u8 0), 1, 1) := by kernel_rfl
theorem Tryz.info68 : (Tryz.prog.info? 68).map (·.size) = some 20 := by kernel_rfl
theorem Tryz.info67 : (Tryz.prog.info? 67).map (·.size) = some 20 := by kernel_rfl
theorem info_parts {o : Option TypeInfo} {z : Value} {a b : Nat} (h : o.map (fun i => (i.zero, i.size, i.bytes)) = some (some z, a, b)) : ∃ i, o = some i ∧ i.zero = some z ∧ i.size = a ∧ i.bytes = b := by
  cases o with
  | none => simp at h
  | some i => simp at h; exact ⟨i, rfl, h.1, h.2.1, h.2.2⟩
def row (zs : List Int) : List Value := zs.map (Value.int .u8)
theorem row_len (zs : List Int) : (row zs).length = zs.length := by simp [row]
theorem row_at (zs : List Int) (i : Nat) (h : i < zs.length) : (row zs)[i]? = some (.int .u8 (zs.getD i 0)) := by simp [row, h]
theorem row_one (zs : List Int) : ∀ v ∈ row zs, v.oneCell' = true := by
  intro v hv; simp only [row, List.mem_map] at hv; obtain ⟨c, _, rfl⟩ := hv; rfl
theorem row_set (zs : List Int) (n : Nat) (c : Int) : (row zs).toArray.setIfInBounds n (.int .u8 c) = (row (zs.set n c)).toArray := by
  simp [row, List.map_set]
theorem row_cell {w : World} {g : Nat} {zs : List Int} {t : TypeId} {fr : Nat × Nat} (h : w.heap[g]? = some (.cells (row zs).toArray t fr)) (i : Nat) (hi : i < zs.length) : w.cell? ⟨g, i, none⟩ = some (.int .u8 (zs.getD i 0)) := by
  rw [cell_of_row w g i _ t fr h]; simpa using row_at zs i hi
theorem range_row {w : World} {g : Nat} {cs : List Value} {t : TypeId} {fr : Nat × Nat} (h : w.heap[g]? = some (.cells cs.toArray t fr)) : w.rangeAt g 0 cs := fun j v hv => by
  rw [Nat.zero_add, cell_of_row w g j _ t fr h]; simpa using hv
theorem there_row {w : World} {g n : Nat} {zs : List Int} {t : TypeId} (h : w.heap[g]? = some (.cells (row zs).toArray t (0, 0))) (hn : zs.length = n) : w.there g 0 n := fun j hj => by
  rw [Nat.zero_add]
  exact ⟨by rw [row_cell h j (by omega)]; rfl, frozen_of_row w g j _ t h⟩
def dig (n : Int) : Int := if n < 10 then 48 + n else 87 + n
def hexOf (zs : List Int) : List Int := zs.flatMap fun x => [dig (x / 16), dig (x % 16)]
theorem hexOf_snoc (l : List Int) (x : Int) : hexOf (l ++ [x]) = hexOf l ++ [dig (x / 16), dig (x % 16)] := by simp [hexOf]
theorem hexOf_len (l : List Int) : (hexOf l).length = 2 * l.length := by
  induction l with
  | nil => rfl
  | cons a l ih => simp [hexOf] at ih ⊢; omega
theorem take_snoc (zs : List Int) (k : Nat) (h : k < zs.length) : zs.take (k + 1) = zs.take k ++ [zs.getD k 0] := by
  rw [List.take_succ_eq_append_getElem h]; simp [h]
theorem index_row {P : Program} (t e : TypeId) (n : Nat) (cs : Array Value) (k : IntKind) (i : Nat) (v : Value) (w : World) (h : P.underlying t = some (.array n e)) (he : (P.info? e).map (·.size) = some 1) (d : TypeDesc) (hu : P.underlying e = some d) (hd : d.isRow = false) (hi : i < n) (hv : cs[i]? = some v) :
    (Instr.index t (.agg cs) (.int k i)).run P w = .ok v w := by
  cases hq : P.info? e with
  | none => simp [hq] at he
  | some inf =>
    have hs : inf.size = 1 := by simpa [hq] using he
    have hagg : (isAgg e).run P w = .ok false w := by
      unfold isAgg
      rw [Sem.run_bind, run_underlying hu w]
      cases d <;> simp_all
    simp [Instr.index, asIntOf, run_underlying h, hi, part, sizeOf, typeInfo, hq, hs, hagg, hv]
theorem Tryz.size5 : (Tryz.prog.info? 5).map (·.size) = some 1 := by kernel_rfl
theorem index_digs (v : Int) (w : World) (h0 : 0 ≤ v) (h1 : v < 16) : (Instr.index 9 (.string { data := #[48, 49, 50, 51, 52, 53, 54, 55, 56, 57, 97, 98, 99, 100, 101, 102] }) (.int .u8 v)).run Tryz.prog w = .ok (.int .u8 (dig v)) w := by
  obtain ⟨n, rfl⟩ := Int.eq_ofNat_of_zero_le h0
  have hn : n < 16 := by omega
  match n, hn with
  | 0, _ => show _ = _; kernel_rfl
  | 1, _ => show _ = _; kernel_rfl
  | 2, _ => show _ = _; kernel_rfl
  | 3, _ => show _ = _; kernel_rfl
  | 4, _ => show _ = _; kernel_rfl
  | 5, _ => show _ = _; kernel_rfl
  | 6, _ => show _ = _; kernel_rfl
  | 7, _ => show _ = _; kernel_rfl
  | 8, _ => show _ = _; kernel_rfl
  | 9, _ => show _ = _; kernel_rfl
  | 10, _ => show _ = _; kernel_rfl
  | 11, _ => show _ = _; kernel_rfl
  | 12, _ => show _ = _; kernel_rfl
  | 13, _ => show _ = _; kernel_rfl
  | 14, _ => show _ = _; kernel_rfl
  | 15, _ => show _ = _; kernel_rfl
theorem and15 (x : Int) (h0 : 0 ≤ x) (h1 : x < 256) : bits .and .u8 x 15 = x % 16 := by
  obtain ⟨n, rfl⟩ := Int.eq_ofNat_of_zero_le h0
  have : ∀ n : Nat, n < 256 → bits .and .u8 (n : Int) 15 = (n : Int) % 16 := by decide +kernel
  exact this n (by omega)
theorem grownBy_allocD (w : World) (o : Obj) (row : Option Nat) : w.grownBy (w.alloc o).drew row := let h := World.grownBy_alloc w o row; ⟨h.os, h.tape, h.output, h.size, h.block⟩
theorem own_lt {w : World} {B : Nat} {e : TypeId} {s : Nat} {v : Value} {n : Nat} {xs : List Value} (h : w.ownsRow B e s v n xs) (k : Nat) (hk : v.ownBlock = some k) : B ≤ k ∧ k < w.heap.size := h.lt k hk
theorem below_step {B : Nat} {w0 w wx w3 : World} {r : Option Nat} (h : Below B w0 w) (hB : B ≤ w0.heap.size) (hx : w.grownBy wx none) (hg : wx.grownBy w3 r) (hr : ∀ k, r = some k → B ≤ k) : Below B w0 w3 :=
  (h.grown hx (Nat.le_trans hB h.size) (fun k h => by cases h)).grown hg (Nat.le_trans (Nat.le_trans hB h.size) hx.size) hr
set_option maxRecDepth 20000 in
set_option maxHeartbeats 1000000 in
theorem hex_prog (zs : List Int) (w : World) (hl : zs.length = 20) (hz : ∀ n ∈ zs, 0 ≤ n ∧ n < 256) :
    Calls Tryz.prog 30 #[.agg (row zs).toArray] w fun e w' => e = .returned (.string (strOfNums (hexOf zs))) ∧ Below w.heap.size w w' := by
  obtain ⟨i5, hi, hz0, hz1, hz2⟩ := info_parts Tryz.info5
  obtain ⟨arr, HA⟩ : ∃ arr, Hid (arr = row zs) := ⟨_, rfl⟩
  rw [← HA.out]
  have hsz : arr.toArray.size = 20 := by rw [HA.out, List.size_toArray, row_len]; exact hl
  have HB0 : Hid (Below w.heap.size w (w.alloc (.cells arr.toArray 68))) := (Below.refl _ w).alloc (Nat.le_refl _) _
  have HC0 : Hid ((w.alloc (.cells arr.toArray 68)).rangeAt w.heap.size 0 arr) := range_row (heap_alloc_new w _)
  go_enter Tryz.func30, Tryz.ntmps30
  go_wp2_with (at_make; refine wpList_make_own _ rfl _ _ 25 rfl w.heap.size 5 i5 (.int .u8 0) 1 Tryz.underlying25 hi hz0 hz1 _ _ _ 40 rfl rfl ?c1 ?c2 ?c3 ?c4 ?_)
  case c1 => rfl
  case c2 => rw [hz2]; omega
  case c3 => unfold maxLen; omega
  case c4 => simp
  · intro w1 hown hgrow
    have HC1 : w1.rangeAt w.heap.size 0 arr := fun j v hj => (World.cell?_of_block (a := ⟨w.heap.size, 0 + j, none⟩) (hgrow.block _ (by simp) (by simp))).trans (HC0.out j v hj)
    have HB1 : Hid (Below w.heap.size w w1) := HB0.out.grown hgrow (by simp) (fun k h => by cases h)
    clear HB0 hgrow HC0
    have hi23 : (Tryz.prog.info? 68).map (·.size) = some arr.length := by rw [Tryz.info68, ← hsz]; simp
    go_wp2_with (refine wpList_load_mid rfl 68 _ rfl w.heap.size 0 rfl arr _ HC1 Tryz.underlying68 rfl hi23 ?_)
    clear HC1
    go_loopg [3, 8] 20 (fun k s i wr => ∃ j g cp : Nat, j ≤ 20 ∧ k = 20 - j ∧ i = .int .i64 j ∧ s = .slice (some ⟨g, 0, none⟩) (2 * j) cp ∧ wr.ownsRow w.heap.size 5 1 (.slice (some ⟨g, 0, none⟩) (2 * j) cp) (2 * j) ((hexOf (zs.take j)).map (Value.int .u8)) ∧ Hid (Below w.heap.size w wr))
    case atStart => exact ⟨0, _, _, by omega, rfl, rfl, rfl, by simpa [hexOf] using hown, HB1⟩
    case round =>
      clear hown HB1
      obtain ⟨j, g, cp, hj, hk, rfl, rfl, hown, HB⟩ := hrel
      by_cases hlt : j < 20
      · obtain ⟨x, HX⟩ : ∃ x, Hid (x = zs.getD j 0) := ⟨_, rfl⟩
        have hg : arr.toArray[j]? = some (.int .u8 x) := by rw [HA.out, HX.out]; simpa using row_at zs j (by omega)
        have hx := hz x (by rw [HX.out, List.getD_eq_getElem?_getD, List.getElem?_eq_getElem (by omega)]; exact List.getElem_mem _)
        have hix : ∀ w1 : World, (Instr.index 68 (.agg arr.toArray) (.int .i64 j)).run Tryz.prog w1 = .ok (.int .u8 x) w1 := fun w1 => index_row 68 5 20 _ _ j _ w1 Tryz.underlying68 Tryz.size5 _ Tryz.underlying5 rfl hlt hg
        obtain ⟨p, HP⟩ : ∃ p, Hid (p = x / 16) := ⟨_, rfl⟩
        obtain ⟨q, HQ⟩ : ∃ q, Hid (q = x % 16) := ⟨_, rfl⟩
        have hp : x / 16 = p := HP.out.symm
        have hq : bits .and .u8 x 15 = q := by rw [HQ.out]; exact and15 x hx.1 hx.2
        have hdp : ∀ w1 : World, (Instr.index 9 (.string { data := #[48, 49, 50, 51, 52, 53, 54, 55, 56, 57, 97, 98, 99, 100, 101, 102] }) (.int .u8 p)).run Tryz.prog w1 = .ok (.int .u8 (dig p)) w1 := fun w1 => index_digs p w1 (by omega) (by omega)
        have hdq : ∀ w1 : World, (Instr.index 9 (.string { data := #[48, 49, 50, 51, 52, 53, 54, 55, 56, 57, 97, 98, 99, 100, 101, 102] }) (.int .u8 q)).run Tryz.prog w1 = .ok (.int .u8 (dig q)) w1 := fun w1 => index_digs q w1 (by rw [HQ.out]; omega) (by rw [HQ.out]; omega)
        obtain ⟨dp, HDP⟩ : ∃ d, Hid (d = dig p) := ⟨_, rfl⟩
        obtain ⟨dq, HDQ⟩ : ∃ d, Hid (d = dig q) := ⟨_, rfl⟩
        rw [← HDP.out] at hdp
        rw [← HDQ.out] at hdq
        go_wp2
        go_region_law ((refine step_append_lies _ (by rfl) _ _ _ (by rfl) w.heap.size 5 i5 (.int .u8 0) 1 1 Tryz.underlying25 hi hz0 hz1 hz2 rfl (by omega) (.slice (some ⟨g, 0, none⟩) (2 * j) cp) (2 * j) ((hexOf (zs.take j)).map (Value.int .u8)) (by rfl) (by exact hown.alloc _) ⟨wr.heap.size, 0, none⟩ 2 2 [.int .u8 dp, .int .u8 dq] (by rfl) (by rfl) (by intro j u hj; match j, hj with | 0, hj => simp at hj; subst hj; simp [Addr.add] | 1, hj => simp at hj; subst hj; simp [Addr.add]) (by intro u hu; simp at hu; rcases hu with rfl | rfl <;> rfl) (by omega) (by unfold maxLen; omega) (by omega) (by have := HB.out.size; simp; omega) (wr.heap.size + 1) (by simp) ?_; intro g2 cp2 w3 hown1 hgrow hat hlt))
        all_goals
          have HB2 : Hid (Below w.heap.size w w3) := below_step HB.out (Nat.le_refl _) (grownBy_allocD wr _ none) hgrow (fun k hk => (own_lt hown k hk).1)
          have HO : Hid (w3.ownsRow w.heap.size 5 1 (.slice (some ⟨g2, 0, none⟩) (2 * (j + 1)) cp2) (2 * (j + 1)) ((hexOf (zs.take (j + 1))).map (Value.int .u8))) := by
            show World.ownsRow _ _ _ _ _ _ _
            rw [take_snoc zs j (by omega), hexOf_snoc, List.map_append, ← HX.out, ← HP.out, ← HQ.out, List.map_cons, List.map_cons, List.map_nil, ← HDP.out, ← HDQ.out]
            exact hown1
          clear hown1 hgrow hat hown
          go_wp2
          go_roundg (20 - (j + 1))
          case measure => omega
          case rel => exact ⟨j + 1, g2, cp2, by omega, rfl, by go_num, rfl, HO.out, HB2⟩
      · obtain rfl : j = 20 := by omega
        have hcv : ∀ dst, Tryz.prog.underlying dst = some .string → (convert 25 dst (.slice (some ⟨g, 0, none⟩) 40 cp)).run Tryz.prog wr = .ok (.string (strOfNums (hexOf zs))) wr :=
          run_convert_bytes_arg wr 25 5 Tryz.underlying25 Tryz.underlying5 g 0 40 cp (hexOf zs) (by rw [hexOf_len]; omega) fun i hi => by
            rw [Nat.zero_add, hown.cellAt i (by omega), List.take_of_length_le (by omega), List.getElem?_map, List.getElem?_eq_getElem (by rw [hexOf_len]; omega)]
            simp [show i < (hexOf zs).length by rw [hexOf_len]; omega]
        have hcv9 := hcv 9 Tryz.underlying9
        clear hcv hown
        go_wp2
        go_ret
        exact ⟨rfl, HB.out⟩
end Go.Proofs.YtijeogdnjeamaaaGreatDoor.Hx
