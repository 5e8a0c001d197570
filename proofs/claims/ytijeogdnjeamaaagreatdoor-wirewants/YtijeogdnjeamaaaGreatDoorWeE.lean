/- 'slices.Grow', 'slices.Concat' of texts. -/
import Derived.Test.YtijeogdnjeamaaaGreatDoorWdD
import Derived.Test.YtijeogdnjeamaaaGreatDoorWeA
import Derived.Lib.AppendZeros
namespace Go.Proofs.YtijeogdnjeamaaaGreatDoor
open Go.RowKit
set_option linter.unusedVariables false
set_option linter.unusedSimpArgs false
theorem encS_len (l : List Str) : ∀ x ∈ l, (encS x).length = 1 := fun _ _ => rfl
theorem encS_one : ∀ x : Str, ∀ v ∈ encS x, v.oneCell' = true := fun x v hv => by rw [List.mem_singleton.1 hv]; rfl
set_option maxRecDepth 20000 in
theorem growS_zero (w : World) : Calls Tryz.prog 93 #[.slice none 0 0, .int .i64 0] w fun e w' => ∃ v, e = .returned v ∧ BS w w' w.heap.size v [] := by
  have HB : Hid (BS w w w.heap.size (.slice none 0 0) []) := hid (bs_nil w _ rfl)
  go_enter Tryz.func93, Tryz.ntmps93
  go_wp2
  go_ret
  exact ⟨_, rfl, HB.out⟩
set_option maxRecDepth 20000 in
set_option maxHeartbeats 1000000 in
theorem growS_some (n : Nat) (h1 : 1 ≤ n) (hn : n ≤ 2000) (w : World) : Calls Tryz.prog 93 #[.slice none 0 0, .int .i64 n] w fun e w' => ∃ v, e = .returned v ∧ BS w w' w.heap.size v [] := by
  obtain ⟨i, hi, hz0, hz1, hz2⟩ := info_parts info9
  have hr := fun ty w => Lib.run_append_nil_zeros (P := Tryz.prog) w 63 3 ty 9 i (.string ⟨#[]⟩) .i64 .i64 und63s und3i hi hz0 n h1 (by omega) (by omega) (by rw [hz2]; omega)
  have hc := grownCap_ge w n 0 9
  have hcm := grownCap_le_maxLen w n 0 9 (by unfold maxLen; omega)
  obtain ⟨cp, HC⟩ : ∃ cp, Hid (grownCap w n 0 9 = cp) := ⟨_, rfl⟩
  obtain ⟨R, HR⟩ : ∃ R : Array Value, Hid ((Builtin.zeroCells (Value.string ⟨#[]⟩).cells n ++ Builtin.zeroCells (Value.string ⟨#[]⟩).cells (cp - n)) = R) := ⟨_, rfl⟩
  have hr1 := hr 63 w
  rw [HC.out] at hr1 hc hcm
  rw [HR.out] at hr1
  have HRS : Hid (R.size = cp * 1) := hid (by
    rw [← HR.out]
    have hz : ∀ k, (Builtin.zeroCells (Value.string ⟨#[]⟩).cells k).size = k * 1 := fun k => by
      simp [Builtin.zeroCells, Value.cells]
    rw [Array.size_append, hz, hz, ← Nat.add_mul]
    congr 1
    omega)
  have hn0 : ¬ (n : Int) < 0 := by omega
  have hn1 : (0 : Int) < (n : Int) := by omega
  obtain ⟨G, HG⟩ : ∃ G, Hid (w.heap.size = G) := ⟨_, rfl⟩
  obtain ⟨w1, HW1⟩ : ∃ w1, Hid (w.drew.alloc (.cells R 9) = w1) := ⟨_, rfl⟩
  have HBI : Hid (BS w w1 G (.slice (some ⟨G, 0, none⟩) 0 cp) []) := hid (by
    rw [← HW1.out, ← HG.out]
    have hb : Below w.heap.size w (w.drew.alloc (.cells R 9)) := (below_drewH (Below.refl _ w) 1).alloc (Nat.le_refl _) _
    exact ⟨hb, ⟨rfl, .inr ⟨_, cp, R, rfl, Nat.le_refl _, heap_alloc_new w.drew _, Nat.zero_le _, hcm, HRS.out, by simp⟩⟩, hb.size⟩)
  rw [HW1.out, HG.out] at hr1
  rw [HG.out]
  clear hr hcm
  go_enter Tryz.func93, Tryz.ntmps93
  go_wp2_with (first
    | (at_builtin; refine Lib.wpList_append_run _ rfl _ _ 63 3 rfl _ _ rfl rfl _ _ hr1 ?_)
    | fail)
  go_ret
  exact ⟨_, rfl, HBI.out⟩
theorem growS_any (n : Nat) (hn : n ≤ 2000) (w : World) : Calls Tryz.prog 93 #[.slice none 0 0, .int .i64 n] w fun e w' => ∃ v, e = .returned v ∧ BS w w' w.heap.size v [] := by
  by_cases h : n = 0
  · subst h; exact growS_zero w
  · exact growS_some n (by omega) hn w
theorem flat_snoc (Ls : List (List Str)) (i : Nat) (h : i < Ls.length) : (Ls.take (i + 1)).flatten = (Ls.take i).flatten ++ Ls.getD i [] := by
  rw [take_snocG [] Ls i h, List.flatten_append]
  simp
theorem flat_le (Ls : List (List Str)) (i : Nat) : (Ls.take i).flatten.length ≤ Ls.flatten.length := by
  conv => rhs; rw [← List.take_append_drop i Ls]
  rw [List.flatten_append, List.length_append]
  omega
/-- Rows of texts, one behind the other. -/
structure Rws (w : World) (H k : Nat) (A : Nat → Option Addr) (C : Nat → Nat) (Ls : List (List Str)) : Prop where
  len : Ls.length = k
  lt : H < w.heap.size
  cell : ∀ i, i < k → w.cell? ⟨H, i, none⟩ = some (.slice (A i) (Ls.getD i []).length (C i))
  ps : ∀ i, i < k → PS w (A i) (C i) (Ls.getD i [])
theorem Rws.below {w w' : World} {H k : Nat} {A : Nat → Option Addr} {C : Nat → Nat} {Ls : List (List Str)} (h : Rws w H k A C Ls) (hb : Below w.heap.size w w') : Rws w' H k A C Ls :=
  ⟨h.len, Nat.lt_of_lt_of_le h.lt hb.size, fun i hi => (hb.cell (p := ⟨H, i, none⟩) h.lt).trans (h.cell i hi), fun i hi => (h.ps i hi).below hb⟩
set_option maxRecDepth 20000 in
set_option maxHeartbeats 4000000 in
theorem concatS_any {w : World} {H k : Nat} {A : Nat → Option Addr} {C : Nat → Nat} {Ls : List (List Str)} (hR : Rws w H k A C Ls) (hk : k ≤ 100) (hn : Ls.flatten.length ≤ 2000) (cap : Nat) :
    Calls Tryz.prog 58 #[.slice (some ⟨H, 0, none⟩) k cap] w fun e w' => ∃ v, e = .returned v ∧ BS w w' w.heap.size v Ls.flatten := by
  obtain ⟨G, HG⟩ : ∃ G, Hid (w.heap.size = G) := ⟨_, rfl⟩
  have HR : Hid (∀ W, Below G w W → Rws W H k A C Ls) := hid (fun W hW => hR.below (by rw [HG.out]; exact hW))
  have HLN : Hid (Ls.length = k) := hid hR.len
  have HN := hid hn
  obtain ⟨M, HM⟩ : ∃ M : Nat, Hid (Ls.flatten.length = M) := ⟨_, rfl⟩
  have hM : M ≤ 2000 := by rw [← HM.out]; exact hn
  have CG : Hid (∀ W, Calls Tryz.prog 93 #[.slice none 0 0, .int .i64 (M : Nat)] W fun e w' => ∃ v, e = .returned v ∧ BS W w' W.heap.size v []) := hid (fun W => growS_any M hM W)
  rw [HG.out]
  clear hR hn
  go_enter Tryz.func58, Tryz.ntmps58
  go_wp2_with fail
  go_loopg [3, 11] k (fun g sv iv wr => ∃ (i s : Nat), i ≤ k ∧ g = k - i ∧ iv = .int .i64 i ∧ sv = .int .i64 s ∧ Hid ((Ls.take i).flatten.length = s) ∧ Hid (wr = w))
  case atStart => exact ⟨0, 0, by omega, rfl, rfl, rfl, hid (by simp), hid rfl⟩
  case round =>
    obtain ⟨i, s, hi, hkk, rfl, rfl, HS, HW⟩ := hrel
    have hww := HW.out.symm
    subst hww
    clear HW
    by_cases hlt : i < k
    · have hlti : (i : Int) < (k : Int) := by omega
      obtain ⟨ai, HAi⟩ : ∃ a, Hid (A i = a) := ⟨_, rfl⟩
      obtain ⟨ci, HCi⟩ : ∃ a, Hid (C i = a) := ⟨_, rfl⟩
      obtain ⟨n, HNi⟩ : ∃ a, Hid ((Ls.getD i []).length = a) := ⟨_, rfl⟩
      have hc : w.cell? ⟨H, i, none⟩ = some (.slice ai n ci) := by rw [← HAi.out, ← HCi.out, ← HNi.out]; exact (HR.out w (Below.refl _ _)).cell i hlt
      obtain ⟨s2, HS2⟩ : ∃ a, Hid ((Ls.take (i + 1)).flatten.length = a) := ⟨_, rfl⟩
      have hs2 : (s : Int) + (n : Int) = (s2 : Int) := by
        rw [← HS2.out, flat_snoc Ls i (by rw [HLN.out]; exact hlt), List.length_append, HS.out, HNi.out]
        omega
      have hs3 : s2 ≤ 2000 := by
        rw [← HS2.out]
        exact Nat.le_trans (flat_le Ls (i + 1)) HN.out
      have hs4 : ¬ (s2 : Int) < 0 := by omega
      go_wp2
      go_roundg (k - (i + 1))
      case measure => omega
      case rel => exact ⟨i + 1, s2, by omega, rfl, by go_num, rfl, HS2, hid rfl⟩
    · have hlti : ¬ (i : Int) < (k : Int) := by omega
      have hsM : s = M := by
        rw [← HS.out, ← HM.out, List.take_of_length_le (by rw [HLN.out]; omega)]
      clear HS
      subst hsM
      go_wp2_with fail
      refine (CG.out _).mono ?_
      rintro ev w1 ⟨v1, rfl, hb1⟩
      have HB1 : Hid (BS w w1 G v1 ((Ls.take 0).flatten)) := hid (by rw [← HG.out]; exact hb1)
      clear hb1
      go_wp2_with fail
      go_loopg [6, 27] k (fun g nv jv wq => ∃ (j : Nat) (v : Value), v = nv ∧ j ≤ k ∧ g = k - j ∧ jv = .int .i64 j ∧ Hid (BS w wq G v ((Ls.take j).flatten)))
      case atStart => exact ⟨0, _, rfl, by omega, rfl, rfl, HB1⟩
      case round =>
        obtain ⟨j, v, hv, hj, hk2, rfl, HBI⟩ := hrel
        subst hv
        by_cases hltj : j < k
        · have hltji : (j : Int) < (k : Int) := by omega
          obtain ⟨ai, HAi⟩ : ∃ a, Hid (A j = a) := ⟨_, rfl⟩
          obtain ⟨ci, HCi⟩ : ∃ a, Hid (C j = a) := ⟨_, rfl⟩
          obtain ⟨n, HNi⟩ : ∃ a, Hid ((Ls.getD j []).length = a) := ⟨_, rfl⟩
          have HRW := HR.out wr HBI.out.below
          have hc : wr.cell? ⟨H, j, none⟩ = some (.slice ai n ci) := by rw [← HAi.out, ← HCi.out, ← HNi.out]; exact HRW.cell j hltj
          have hPx : PS wr ai ci (Ls.getD j []) := by rw [← HAi.out, ← HCi.out]; exact HRW.ps j hltj
          have HPX := hid hPx
          have HTK : Hid ((Ls.take (j + 1)).flatten = (Ls.take j).flatten ++ Ls.getD j []) := hid (flat_snoc Ls j (by rw [HLN.out]; exact hltj))
          have HSUM : Hid (((Ls.take j).flatten).length + (Ls.getD j []).length ≤ 30000) := hid (by
            have h1 := flat_le Ls (j + 1)
            rw [HTK.out, List.length_append] at h1
            have := HN.out
            omega)
          clear HRW hPx
          go_wp2_with (first
            | (refine wpList_bx_sl (enc := encS) (k := 1) (d := []) rfl _ _ 63 9 und63s info9 rfl (by decide) (by decide) encS_one rfl G v ((Ls.take j).flatten) rfl HBI.out ai ci (Ls.getD j []) (by rw [HNi.out]; rfl) HPX.out (encS_len _) HSUM.out ?_; intro v2 w2 hb2 hg2; have HB2 : Hid (BS w w2 G v2 ((Ls.take (j + 1)).flatten)) := hid (by rw [HTK.out]; exact hb2); clear hb2 hg2)
            | fail)
          go_roundg (k - (j + 1))
          case measure => omega
          case rel => exact ⟨j + 1, _, rfl, by omega, rfl, by go_num, HB2⟩
        · have hltji : ¬ (j : Int) < (k : Int) := by omega
          have HF : Hid (BS w wr G v Ls.flatten) := hid (by
            have := HBI.out
            rw [List.take_of_length_le (by rw [HLN.out]; omega)] at this
            exact this)
          go_wp2
          go_ret
          exact ⟨_, rfl, HF.out⟩
/-- 'writeTexts' of rows of texts. -/
theorem writeRows_any {w : World} {H k : Nat} {A : Nat → Option Addr} {C : Nat → Nat} {Ls : List (List Str)} (hR : Rws w H k A C Ls) (hk : k ≤ 100) (cap : Nat) (hn : Ls.flatten.length ≤ 900) (hlen : ∀ s ∈ Ls.flatten, s.length ≤ 990) (hd : Db w) : Calls Tryz.prog 31 #[.slice (some ⟨H, 0, none⟩) k cap] w (PostNu w.heap.size (pktL (Ls.flatten.map tx)) w) :=
  writeTexts_any _ Ls.flatten ((concatS_any hR hk (by omega) cap).mono (by
    rintro e w' ⟨v, rfl, hb⟩
    obtain ⟨a, c, rfl, hp, _⟩ := hb.px (d := []) (encS_len _)
    exact ⟨hb.below, a, c, rfl, hp⟩)) hn hlen hd
end Go.Proofs.YtijeogdnjeamaaaGreatDoor
