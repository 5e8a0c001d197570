import Derived.Test.YtijeogdnjeamaaaGreatDoorQo06
import Derived.Test.YtijeogdnjeamaaaGreatDoorQo03
import Derived.Lib.AppendZeros
import Derived.Test.YtijeogdnjeamaaaGreatDoorQo07
import Derived.Lib.Split
import Derived.Lib.Strings
import Derived.Lib.IndexMore
import Derived.Shelf.Strings.Split
import Derived.Shelf.Strings.Search3
import Derived.Shelf.Strings.Prefix
import Derived.Shelf.Strings.Runes
import Derived.Shelf.Strings.Cut
import Derived.Shelf.Small.Wraps
import Derived.Test.YtijeogdnjeamaaaGreatDoorProg
import Derived.Test.YtijeogdnjeamaaaGreatDoorChecked
import Derived.RowKit
import Derived.Below
import Derived.WalkKit
import Derived.WalkSpells
import Derived.WalkLawsBesides
import Derived.Deep.LoopGhost
import Derived.BigQuiet
import Derived.Laws.RangeString
import Derived.Laws.RangeAny
import Derived.Lib.IndexAny
namespace Go.Proofs.YtijeogdnjeamaaaGreatDoor
open Go.RowKit
set_option linter.unusedVariables false
set_option linter.unusedSimpArgs false
theorem encS_len (l : List Str) : ∀ x ∈ l, (encS x).length = 1 := fun _ _ => rfl
theorem encS_one : ∀ x : Str, ∀ v ∈ encS x, v.oneCell' = true := fun x v hv => by rw [List.mem_singleton.1 hv]; rfl
set_option maxRecDepth 20000 in
theorem growS_zero (w : World) : Calls Tryz.prog 93 #[.slice none 0 0, .int .i64 0] w fun e w' => ∃ v, e = .returned v ∧ BS w w' w.heap.size v [] := by
  have HB : Hid (BS w w w.heap.size (.slice none 0 0) []) := hid (bs_nil w _ rfl)
  go_enter Tryz.func93, Tryz.ntmps93
  go_wp2
  go_ret
  exact ⟨_, rfl, HB.out⟩
set_option maxRecDepth 20000 in
set_option maxHeartbeats 1000000 in
theorem growS_some (n : Nat) (h1 : 1 ≤ n) (hn : n ≤ 2000) (w : World) : Calls Tryz.prog 93 #[.slice none 0 0, .int .i64 n] w fun e w' => ∃ v, e = .returned v ∧ BS w w' w.heap.size v [] := by
  obtain ⟨i, hi, hz0, hz1, hz2⟩ := info_parts info9
  have hr := fun ty w => Lib.run_append_nil_zeros (P := Tryz.prog) w 63 3 ty 9 i (.string ⟨#[]⟩) .i64 .i64 und63s und3i hi hz0 n h1 (by omega) (by omega) (by rw [hz2]; omega)
  have hc := grownCap_ge w n 0 9
  have hcm := grownCap_le_maxLen w n 0 9 (by unfold maxLen; omega)
  obtain ⟨cp, HC⟩ : ∃ cp, Hid (grownCap w n 0 9 = cp) := ⟨_, rfl⟩
  obtain ⟨R, HR⟩ : ∃ R : Array Value, Hid ((Builtin.zeroCells (Value.string ⟨#[]⟩).cells n ++ Builtin.zeroCells (Value.string ⟨#[]⟩).cells (cp - n)) = R) := ⟨_, rfl⟩
  have hr1 := hr 63 w
  rw [HC.out] at hr1 hc hcm
  rw [HR.out] at hr1
  have HRS : Hid (R.size = cp * 1) := hid (by
    rw [← HR.out]
    have hz : ∀ k, (Builtin.zeroCells (Value.string ⟨#[]⟩).cells k).size = k * 1 := fun k => by
      simp [Builtin.zeroCells, Value.cells]
    rw [Array.size_append, hz, hz, ← Nat.add_mul]
    congr 1
    omega)
  have hn0 : ¬ (n : Int) < 0 := by omega
  have hn1 : (0 : Int) < (n : Int) := by omega
  obtain ⟨G, HG⟩ : ∃ G, Hid (w.heap.size = G) := ⟨_, rfl⟩
  obtain ⟨w1, HW1⟩ : ∃ w1, Hid (w.drew.alloc (.cells R 9) = w1) := ⟨_, rfl⟩
  have HBI : Hid (BS w w1 G (.slice (some ⟨G, 0, none⟩) 0 cp) []) := hid (by
    rw [← HW1.out, ← HG.out]
    have hb : Below w.heap.size w (w.drew.alloc (.cells R 9)) := (below_drewH (Below.refl _ w) 1).alloc (Nat.le_refl _) _
    exact ⟨hb, ⟨rfl, .inr ⟨_, cp, R, rfl, Nat.le_refl _, heap_alloc_new w.drew _, Nat.zero_le _, hcm, HRS.out, by simp⟩⟩, hb.size⟩)
  rw [HW1.out, HG.out] at hr1
  rw [HG.out]
  clear hr hcm
  go_enter Tryz.func93, Tryz.ntmps93
  go_wp2_with (first
    | (at_builtin; refine Lib.wpList_append_run _ rfl _ _ 63 3 rfl _ _ rfl rfl _ _ hr1 ?_)
    | fail)
  go_ret
  exact ⟨_, rfl, HBI.out⟩
theorem growS_any (n : Nat) (hn : n ≤ 2000) (w : World) : Calls Tryz.prog 93 #[.slice none 0 0, .int .i64 n] w fun e w' => ∃ v, e = .returned v ∧ BS w w' w.heap.size v [] := by
  by_cases h : n = 0
  · subst h; exact growS_zero w
  · exact growS_some n (by omega) hn w
theorem flat_snoc (Ls : List (List Str)) (i : Nat) (h : i < Ls.length) : (Ls.take (i + 1)).flatten = (Ls.take i).flatten ++ Ls.getD i [] := by
  rw [take_snocG [] Ls i h, List.flatten_append]
  simp
theorem flat_le (Ls : List (List Str)) (i : Nat) : (Ls.take i).flatten.length ≤ Ls.flatten.length := by
  conv => rhs; rw [← List.take_append_drop i Ls]
  rw [List.flatten_append, List.length_append]
  omega
structure Rws (w : World) (H k : Nat) (A : Nat → Option Addr) (C : Nat → Nat) (Ls : List (List Str)) : Prop where
  len : Ls.length = k
  lt : H < w.heap.size
  cell : ∀ i, i < k → w.cell? ⟨H, i, none⟩ = some (.slice (A i) (Ls.getD i []).length (C i))
  ps : ∀ i, i < k → PS w (A i) (C i) (Ls.getD i [])
theorem Rws.below {w w' : World} {H k : Nat} {A : Nat → Option Addr} {C : Nat → Nat} {Ls : List (List Str)} (h : Rws w H k A C Ls) (hb : Below w.heap.size w w') : Rws w' H k A C Ls :=
  ⟨h.len, Nat.lt_of_lt_of_le h.lt hb.size, fun i hi => (hb.cell (p := ⟨H, i, none⟩) h.lt).trans (h.cell i hi), fun i hi => (h.ps i hi).below hb⟩
set_option maxRecDepth 20000 in
set_option maxHeartbeats 4000000 in
theorem concatS_any {w : World} {H k : Nat} {A : Nat → Option Addr} {C : Nat → Nat} {Ls : List (List Str)} (hR : Rws w H k A C Ls) (hk : k ≤ 100) (hn : Ls.flatten.length ≤ 2000) (cap : Nat) :
    Calls Tryz.prog 58 #[.slice (some ⟨H, 0, none⟩) k cap] w fun e w' => ∃ v, e = .returned v ∧ BS w w' w.heap.size v Ls.flatten := by
  obtain ⟨G, HG⟩ : ∃ G, Hid (w.heap.size = G) := ⟨_, rfl⟩
  have HR : Hid (∀ W, Below G w W → Rws W H k A C Ls) := hid (fun W hW => hR.below (by rw [HG.out]; exact hW))
  have HLN : Hid (Ls.length = k) := hid hR.len
  have HN := hid hn
  obtain ⟨M, HM⟩ : ∃ M : Nat, Hid (Ls.flatten.length = M) := ⟨_, rfl⟩
  have hM : M ≤ 2000 := by rw [← HM.out]; exact hn
  have CG : Hid (∀ W, Calls Tryz.prog 93 #[.slice none 0 0, .int .i64 (M : Nat)] W fun e w' => ∃ v, e = .returned v ∧ BS W w' W.heap.size v []) := hid (fun W => growS_any M hM W)
  rw [HG.out]
  clear hR hn
  go_enter Tryz.func58, Tryz.ntmps58
  go_wp2_with fail
  go_loopg [3, 11] k (fun g sv iv wr => ∃ (i s : Nat), i ≤ k ∧ g = k - i ∧ iv = .int .i64 i ∧ sv = .int .i64 s ∧ Hid ((Ls.take i).flatten.length = s) ∧ Hid (wr = w))
  case atStart => exact ⟨0, 0, by omega, rfl, rfl, rfl, hid (by simp), hid rfl⟩
  case round =>
    obtain ⟨i, s, hi, hkk, rfl, rfl, HS, HW⟩ := hrel
    have hww := HW.out.symm
    subst hww
    clear HW
    by_cases hlt : i < k
    · have hlti : (i : Int) < (k : Int) := by omega
      obtain ⟨ai, HAi⟩ : ∃ a, Hid (A i = a) := ⟨_, rfl⟩
      obtain ⟨ci, HCi⟩ : ∃ a, Hid (C i = a) := ⟨_, rfl⟩
      obtain ⟨n, HNi⟩ : ∃ a, Hid ((Ls.getD i []).length = a) := ⟨_, rfl⟩
      have hc : w.cell? ⟨H, i, none⟩ = some (.slice ai n ci) := by rw [← HAi.out, ← HCi.out, ← HNi.out]; exact (HR.out w (Below.refl _ _)).cell i hlt
      obtain ⟨s2, HS2⟩ : ∃ a, Hid ((Ls.take (i + 1)).flatten.length = a) := ⟨_, rfl⟩
      have hs2 : (s : Int) + (n : Int) = (s2 : Int) := by
        rw [← HS2.out, flat_snoc Ls i (by rw [HLN.out]; exact hlt), List.length_append, HS.out, HNi.out]
        omega
      have hs3 : s2 ≤ 2000 := by
        rw [← HS2.out]
        exact Nat.le_trans (flat_le Ls (i + 1)) HN.out
      have hs4 : ¬ (s2 : Int) < 0 := by omega
      go_wp2
      go_roundg (k - (i + 1))
      case measure => omega
      case rel => exact ⟨i + 1, s2, by omega, rfl, by go_num, rfl, HS2, hid rfl⟩
    · have hlti : ¬ (i : Int) < (k : Int) := by omega
      have hsM : s = M := by
        rw [← HS.out, ← HM.out, List.take_of_length_le (by rw [HLN.out]; omega)]
      clear HS
      subst hsM
      go_wp2_with fail
      refine (CG.out _).mono ?_
      rintro ev w1 ⟨v1, rfl, hb1⟩
      have HB1 : Hid (BS w w1 G v1 ((Ls.take 0).flatten)) := hid (by rw [← HG.out]; exact hb1)
      clear hb1
      go_wp2_with fail
      go_loopg [6, 27] k (fun g nv jv wq => ∃ (j : Nat) (v : Value), v = nv ∧ j ≤ k ∧ g = k - j ∧ jv = .int .i64 j ∧ Hid (BS w wq G v ((Ls.take j).flatten)))
      case atStart => exact ⟨0, _, rfl, by omega, rfl, rfl, HB1⟩
      case round =>
        obtain ⟨j, v, hv, hj, hk2, rfl, HBI⟩ := hrel
        subst hv
        by_cases hltj : j < k
        · have hltji : (j : Int) < (k : Int) := by omega
          obtain ⟨ai, HAi⟩ : ∃ a, Hid (A j = a) := ⟨_, rfl⟩
          obtain ⟨ci, HCi⟩ : ∃ a, Hid (C j = a) := ⟨_, rfl⟩
          obtain ⟨n, HNi⟩ : ∃ a, Hid ((Ls.getD j []).length = a) := ⟨_, rfl⟩
          have HRW := HR.out wr HBI.out.below
          have hc : wr.cell? ⟨H, j, none⟩ = some (.slice ai n ci) := by rw [← HAi.out, ← HCi.out, ← HNi.out]; exact HRW.cell j hltj
          have hPx : PS wr ai ci (Ls.getD j []) := by rw [← HAi.out, ← HCi.out]; exact HRW.ps j hltj
          have HPX := hid hPx
          have HTK : Hid ((Ls.take (j + 1)).flatten = (Ls.take j).flatten ++ Ls.getD j []) := hid (flat_snoc Ls j (by rw [HLN.out]; exact hltj))
          have HSUM : Hid (((Ls.take j).flatten).length + (Ls.getD j []).length ≤ 30000) := hid (by
            have h1 := flat_le Ls (j + 1)
            rw [HTK.out, List.length_append] at h1
            have := HN.out
            omega)
          clear HRW hPx
          go_wp2_with (first
            | (refine wpList_bx_sl (enc := encS) (k := 1) (d := []) rfl _ _ 63 9 und63s info9 rfl (by decide) (by decide) encS_one rfl G v ((Ls.take j).flatten) rfl HBI.out ai ci (Ls.getD j []) (by rw [HNi.out]; rfl) HPX.out (encS_len _) HSUM.out ?_; intro v2 w2 hb2 hg2; have HB2 : Hid (BS w w2 G v2 ((Ls.take (j + 1)).flatten)) := hid (by rw [HTK.out]; exact hb2); clear hb2 hg2)
            | fail)
          go_roundg (k - (j + 1))
          case measure => omega
          case rel => exact ⟨j + 1, _, rfl, by omega, rfl, by go_num, HB2⟩
        · have hltji : ¬ (j : Int) < (k : Int) := by omega
          have HF : Hid (BS w wr G v Ls.flatten) := hid (by
            have := HBI.out
            rw [List.take_of_length_le (by rw [HLN.out]; omega)] at this
            exact this)
          go_wp2
          go_ret
          exact ⟨_, rfl, HF.out⟩
theorem writeRows_any {w : World} {H k : Nat} {A : Nat → Option Addr} {C : Nat → Nat} {Ls : List (List Str)} (hR : Rws w H k A C Ls) (hk : k ≤ 100) (cap : Nat) (hn : Ls.flatten.length ≤ 900) (hlen : ∀ s ∈ Ls.flatten, s.length ≤ 990) (hd : Db w) : Calls Tryz.prog 31 #[.slice (some ⟨H, 0, none⟩) k cap] w (PostNu w.heap.size (pktL (Ls.flatten.map tx)) w) :=
  writeTexts_any _ Ls.flatten ((concatS_any hR hk (by omega) cap).mono (by
    rintro e w' ⟨v, rfl, hb⟩
    obtain ⟨a, c, rfl, hp, _⟩ := hb.px (d := []) (encS_len _)
    exact ⟨hb.below, a, c, rfl, hp⟩)) hn hlen hd
end Go.Proofs.YtijeogdnjeamaaaGreatDoor
namespace Go.Proofs.YtijeogdnjeamaaaGreatDoor
open Go.RowKit
set_option linter.unusedVariables false
set_option linter.unusedSimpArgs false
theorem own_keep {w w' : World} {row : Option Nat} {B e k n : Nat} {v : Value} {xs : List Value} (h : w.ownsRow B e k v n xs) (hg : w.grownBy w' row) (hr : ∀ j, row = some j → j < B) : w'.ownsRow B e k v n xs := by
  refine h.kept hg ?_
  cases hv : v.ownBlock with
  | none => exact .inl rfl
  | some j =>
    right
    intro e
    have h1 := (own_lt h j hv).1
    have h2 := hr j e.symm
    omega
theorem own_more {W : World} {B : Nat} {v : Value} {l : List Str} (h : W.ownsRow B 9 1 v l.length (l.flatMap encS)) (hle : B ≤ W.heap.size) (hn : l.length ≤ 20000) (s : Str) (u : ByteArray) (hu : ⟨s.toArray⟩ = u) (ty : TypeId) :
    ∃ v' W', (Builtin.append_ #[63, 63] ty #[v, .slice (some ⟨W.heap.size, 0, none⟩) 1 1]).run Tryz.prog (W.alloc (.cells #[.string u] 9)) = .ok v' W' ∧ W'.ownsRow B 9 1 v' (l ++ [s]).length ((l ++ [s]).flatMap encS) ∧ (W.alloc (.cells #[.string u] 9)).grownBy W' v.ownBlock := by
  obtain ⟨i, hi, hz0, hz1, hz2⟩ := info_parts info9
  have h' := own_keep h (World.grownBy_alloc W (.cells #[.string u] 9) none) (fun j e => by cases e)
  obtain ⟨v', W', hr, h1, h2, _⟩ := run_append_own_at (P := Tryz.prog) (W.alloc (.cells #[.string u] 9)) B 63 ty 9 i _ 1 16 und63s hi hz0 hz1 hz2 rfl (by decide) v _ _ h' ⟨W.heap.size, 0, none⟩ 1 1 [sV s] rfl (fun j x hj => by
    cases j with
    | zero =>
      cases hj
      rw [addr_add]
      have := cell_of_row (W.alloc (.cells #[.string u] 9)) W.heap.size 0 _ 9 (0, 0) (heap_alloc_new W _)
      rw [Nat.zero_add, this, ← hu]
      rfl
    | succ j => simp at hj) (fun x hx => by rw [List.mem_singleton.1 hx]; rfl) (by unfold maxLen; omega) (by omega) (by rw [size_alloc]; omega)
  refine ⟨v', W', hr, ?_, h2⟩
  rw [List.length_append, List.flatMap_append]
  exact h1
theorem there_off {w : World} {g n : Nat} {cs : Array Value} {t : TypeId} (h : w.heap[g]? = some (.cells cs t (0, 0))) (o : Nat) (hn : o + n ≤ cs.size) : w.there g o n := fun j hj => by
  refine ⟨?_, frozen_of_row w g (o + j) _ _ h⟩
  rw [cell_of_row w g (o + j) _ _ _ h, Array.getElem?_eq_getElem (by omega)]
  rfl
theorem row_oneC (x : List Int) : ∀ v ∈ row .u8 x, v.oneCell' = true := fun v hv => by obtain ⟨n, _, rfl⟩ := List.mem_map.1 hv; rfl
end Go.Proofs.YtijeogdnjeamaaaGreatDoor
namespace Go.Proofs.YtijeogdnjeamaaaGreatDoor.Nm
set_option linter.unusedVariables false
set_option linter.unusedSimpArgs false
def spl : List UInt8 → List (List UInt8)
  | [] => [[]]
  | c :: t => if c = 47 then [] :: spl t else match spl t with
    | [] => [[c]]
    | p :: ps => (c :: p) :: ps
theorem spl_ne : ∀ s, spl s ≠ []
  | [] => by simp [spl]
  | c :: t => by
    rw [spl]
    split
    · simp
    · split <;> simp
theorem spl_index : ∀ s : List UInt8, (Lib.index s [47] = -1 ∧ spl s = [s]) ∨ ∃ i : Nat, Lib.index s [47] = i ∧ i < s.length ∧ s = s.take i ++ 47 :: s.drop (i + 1) ∧ spl s = s.take i :: spl (s.drop (i + 1))
  | [] => .inl ⟨by decide, by simp [spl]⟩
  | c :: t => by
    by_cases hc : c = 47
    · subst hc
      refine .inr ⟨0, ?_, by simp, by simp, ?_⟩
      · rw [Lib.index]; simp [List.isPrefixOf]
      · rw [spl]; simp
    · have hp : ([47] : List UInt8).isPrefixOf (c :: t) = false := by
        simp [List.isPrefixOf]
        exact fun h => hc h.symm
      rcases spl_index t with ⟨h1, h2⟩ | ⟨i, h1, h2, h3, h4⟩
      · refine .inl ⟨?_, ?_⟩
        · rw [Lib.index, hp, h1]; rfl
        · rw [spl, if_neg hc, h2]
      · refine .inr ⟨i + 1, ?_, by simp; exact h2, ?_, ?_⟩
        · rw [Lib.index, hp, h1]
          have : ¬ ((i : Int) == -1) = true := by simp
          rw [if_neg (by decide), if_neg this]
          omega
        · simp
          exact h3
        · rw [spl, if_neg hc, h4]
          simp
theorem splitK_spl : ∀ (k : Nat) (s : List UInt8), (spl s).length ≤ k + 1 → Lib.splitK [47] 0 k s = spl s
  | 0, s, h => by
    rcases spl_index s with ⟨h1, h2⟩ | ⟨i, h1, h2, h3, h4⟩
    · rw [h2]; rfl
    · rw [h4, List.length_cons] at h
      have := List.length_pos_iff.2 (spl_ne (s.drop (i + 1)))
      omega
  | k + 1, s, h => by
    rcases spl_index s with ⟨h1, h2⟩ | ⟨i, h1, h2, h3, h4⟩
    · rw [Lib.splitK, h1, h2]; rfl
    · rw [h4] at h
      rw [Lib.splitK, h1, h4]
      have : ¬ ((i : Int) == -1) = true := by simp
      rw [if_neg this]
      simp only [Int.toNat_natCast, Nat.add_zero, List.length_cons, List.length_nil, Nat.zero_add]
      rw [splitK_spl k _ (by simp at h; omega)]
theorem count_spl : ∀ (f : Nat) (s : List UInt8), s.length + 1 ≤ f → (spl s).length = Lib.countFrom [47] f s + 1
  | 0, s, h => by omega
  | f + 1, s, h => by
    rcases spl_index s with ⟨h1, h2⟩ | ⟨i, h1, h2, h3, h4⟩
    · rw [Lib.countFrom, h1, h2]; rfl
    · rw [Lib.countFrom, h1, h4]
      have : ¬ ((i : Int) == -1) = true := by simp
      rw [if_neg this]
      simp only [Int.toNat_natCast, List.length_cons, List.length_nil, Nat.zero_add]
      have := count_spl f (s.drop (i + 1)) (by rw [List.length_drop]; omega)
      omega
theorem split_spl (s : List UInt8) : Lib.split s [47] = spl s := splitK_spl _ s (by rw [count_spl (s.length + 1) s (Nat.le_refl _)]; exact Nat.le_refl _)
def hasPair (a b : UInt8) : List UInt8 → Bool
  | x :: y :: t => (x == a && y == b) || hasPair a b (y :: t)
  | _ => false
theorem contains_pair (a b : UInt8) : ∀ s : List UInt8, Lib.contains s [a, b] = hasPair a b s
  | [] => by simp [Lib.contains, Lib.index, hasPair]
  | [x] => by simp [Lib.contains, Lib.index, hasPair, List.isPrefixOf]
  | x :: y :: t => by
    have ih := contains_pair a b (y :: t)
    rw [hasPair, ← ih, Lib.contains, Lib.contains, Lib.index]
    have hge := Lib.index_ge (y :: t) [a, b]
    by_cases h : ([a, b] : List UInt8).isPrefixOf (x :: y :: t) = true
    · rw [if_pos h]
      have : (x == a && y == b) = true := by
        simp [List.isPrefixOf] at h ⊢
        exact ⟨h.1.symm, h.2.symm⟩
      rw [this]
      simp
    · rw [if_neg h]
      have : (x == a && y == b) = false := by
        rw [Bool.eq_false_iff]
        intro h2
        apply h
        simp [List.isPrefixOf] at h2 ⊢
        exact ⟨h2.1.symm, h2.2.symm⟩
      rw [this, Bool.false_or]
      by_cases hm : Lib.index (y :: t) [a, b] = -1
      · rw [hm]; rfl
      · rw [if_neg (by simpa using hm)]
        rw [decide_eq_decide]
        omega
def partOk (p : List UInt8) : Bool := !p.isEmpty && !Lib.hasPrefix p [46] && !Lib.hasSuffix p [46, 108, 111, 99, 107]
def byteOk (c : UInt8) : Bool := decide (33 ≤ c.toNat) && decide (c.toNat ≤ 126) && !([126, 94, 58, 63, 42, 91, 92] : List UInt8).contains c
def dgo : List UInt8 → Option UInt8 → List UInt8 → Bool
  | cur, _, [] => partOk cur
  | cur, pv, c :: t => if c = 47 then partOk cur && dgo [] (some 47) t else byteOk c && !(c == 46 && pv == some 46) && !(c == 123 && pv == some 64) && dgo (cur ++ [c]) (some c) t
def splC (cur t : List UInt8) : List (List UInt8) := match spl t with
  | [] => [cur]
  | p :: ps => (cur ++ p) :: ps
theorem splC_nil (t : List UInt8) : splC [] t = spl t := by
  unfold splC
  split
  · rename_i h; exact absurd h (spl_ne t)
  · rename_i h; rw [h]; simp
theorem hasPair_cons (a b x : UInt8) (t : List UInt8) (y : UInt8) : hasPair a b (x :: y :: t) = ((x == a && y == b) || hasPair a b (y :: t)) := rfl
theorem pair_pv (a b : UInt8) (pv : Option UInt8) (c : UInt8) (t : List UInt8) : hasPair a b (pv.toList ++ c :: t) = ((c == b && pv == some a) || hasPair a b (c :: t)) := by
  cases pv with
  | none => simp
  | some x =>
    show hasPair a b (x :: c :: t) = _
    rw [hasPair_cons]
    congr 1
    rw [Bool.and_comm]
    simp
theorem dgo_iff : ∀ (t cur : List UInt8) (pv : Option UInt8), dgo cur pv t = ((splC cur t).all partOk && t.all byteOk && !hasPair 46 46 (pv.toList ++ t) && !hasPair 64 123 (pv.toList ++ t))
  | [], cur, pv => by
    cases pv <;> simp [dgo, splC, spl, hasPair]
  | c :: t, cur, pv => by
    rw [dgo, pair_pv, pair_pv]
    by_cases hc : c = 47
    · subst hc
      rw [if_pos rfl, dgo_iff t [] (some 47), splC_nil]
      have e1 : splC cur (47 :: t) = cur :: spl t := by simp [splC, spl]
      have e2 : byteOk 47 = true := by decide
      rw [e1, List.all_cons, List.all_cons, e2]
      simp only [Option.toList_some, List.singleton_append]
      have e3 : ((47 : UInt8) == 46) = false := by decide
      have e4 : ((47 : UInt8) == 123) = false := by decide
      rw [e3, e4]
      simp only [Bool.false_and, Bool.false_or, Bool.true_and]
      cases partOk cur <;> simp
    · rw [if_neg hc, dgo_iff t (cur ++ [c]) (some c)]
      have e1 : splC (cur ++ [c]) t = splC cur (c :: t) := by
        unfold splC
        rw [spl, if_neg hc]
        split
        · rename_i h; exact absurd h (spl_ne t)
        · rename_i h; simp
      rw [e1, List.all_cons]
      simp only [Option.toList_some, List.singleton_append]
      cases byteOk c <;> cases (splC cur (c :: t)).all partOk <;> cases (c == 46 && pv == some 46) <;> cases (c == 123 && pv == some 64) <;> simp
def docOk (s : List UInt8) : Bool := decide (s.length ≤ 60) && decide (6 ≤ s.length) && (s.take 5 == [114, 101, 102, 115, 47]) && !Lib.hasSuffix s [46] && dgo [] none s
def prgOk (s : List UInt8) : Bool := decide (s.length ≤ 60) && ((spl s).all partOk && ((spl s).headD [] == [114, 101, 102, 115]) && decide (1 < (spl s).length)) && s.all byteOk && !Lib.contains s [46, 46] && !Lib.contains s [64, 123] && !Lib.hasSuffix s [46]
theorem refs_iff (s : List UInt8) (hp : (spl s).all partOk = true) : (((spl s).headD [] == [114, 101, 102, 115]) && decide (1 < (spl s).length)) = (decide (6 ≤ s.length) && (s.take 5 == [114, 101, 102, 115, 47])) := by
  rw [Bool.eq_iff_iff]
  simp only [Bool.and_eq_true, beq_iff_eq, decide_eq_true_eq]
  constructor
  · rintro ⟨h1, h2⟩
    rcases spl_index s with ⟨_, e⟩ | ⟨i, _, hi, hs, e⟩
    · rw [e] at h2; simp at h2
    · rw [e] at h1 hp
      simp at h1
      rw [h1] at hs
      have hne : s.drop (i + 1) ≠ [] := by
        intro h
        rw [h] at hp
        simp [spl, partOk] at hp
      rw [hs]
      have := List.length_pos_iff.2 hne
      constructor
      · simp only [List.length_append, List.length_cons, List.length_nil]
        omega
      · simp
  · rintro ⟨h1, h2⟩
    have hs : s = [114, 101, 102, 115, 47] ++ s.drop 5 := by
      rw [← h2, List.take_append_drop]
    obtain ⟨t, ht⟩ : ∃ t, t = s.drop 5 := ⟨_, rfl⟩
    rw [← ht] at hs
    have e : spl s = [114, 101, 102, 115] :: spl t := by
      rw [hs]
      simp [spl]
    rw [e]
    have := List.length_pos_iff.2 (spl_ne t)
    refine ⟨by simp, by simp; omega⟩
theorem ok_same (s : List UInt8) : prgOk s = docOk s := by
  unfold prgOk docOk
  rw [dgo_iff, splC_nil, contains_pair, contains_pair]
  simp only [Option.toList_none, List.nil_append]
  cases hp : (spl s).all partOk with
  | false => simp
  | true =>
    have := refs_iff s hp
    rw [Bool.true_and, this]
    cases decide (s.length ≤ 60) <;> cases decide (6 ≤ s.length) <;> cases (s.take 5 == [114, 101, 102, 115, 47]) <;> cases s.all byteOk <;> cases hasPair 46 46 s <;> cases hasPair 64 123 s <;> cases Lib.hasSuffix s [46] <;> rfl
end Go.Proofs.YtijeogdnjeamaaaGreatDoor.Nm
namespace Go.Proofs
open Go.Shelf
def Tryz.lays146_ren : Go.Shelf.Ren := ⟨fun | 146 => 88 | 221 => 113 | 268 => 129 | 138 => 130 | 143 => 91 | 195 => 151 | 197 => 152 | 218 => 153 | 219 => 116 | 260 => 171 | 217 => 135 | 225 => 134 | 224 => 133 | 267 => 136 | 266 => 154 | 314 => 155 | n => n, fun | 9 => 9 | 31 => 63 | 3 => 3 | 4 => 4 | 0 => 0 | 105 => 237 | 21 => 21 | 5 => 5 | 46 => 114 | 119 => 261 | 139 => 264 | 138 => 263 | 146 => 240 | 51 => 239 | n => n, fun | 1 => 1 | 3 => 5 | 4 => 6 | n => n⟩
theorem Tryz.lays146 : Go.Proofs.Lays.n146 Tryz.prog Tryz.lays146_ren := {
  mixed := by kernel_rfl
  f138 := Tryz.func130.trans (congrArg some (by kernel_rfl))
  f143 := Tryz.func91.trans (congrArg some (by kernel_rfl))
  f146 := Tryz.func88.trans (congrArg some (by kernel_rfl))
  f195 := Tryz.func151.trans (congrArg some (by kernel_rfl))
  f197 := Tryz.func152.trans (congrArg some (by kernel_rfl))
  f217 := Tryz.func135.trans (congrArg some (by kernel_rfl))
  f218 := Tryz.func153.trans (congrArg some (by kernel_rfl))
  f219 := Tryz.func116.trans (congrArg some (by kernel_rfl))
  f221 := Tryz.func113.trans (congrArg some (by kernel_rfl))
  f224 := Tryz.func133.trans (congrArg some (by kernel_rfl))
  f225 := Tryz.func134.trans (congrArg some (by kernel_rfl))
  f260 := Tryz.func171.trans (congrArg some (by kernel_rfl))
  f266 := Tryz.func154.trans (congrArg some (by kernel_rfl))
  f267 := Tryz.func136.trans (congrArg some (by kernel_rfl))
  f268 := Tryz.func129.trans (congrArg some (by kernel_rfl))
  f314 := Tryz.func155.trans (congrArg some (by kernel_rfl))
  t0 := Tryz.underlying0
  a0 := Tryz.isAgg0
  z0 := Tryz.sizeOf0
  v0 := Tryz.zeroValue0
  t3 := Tryz.underlying3
  a3 := Tryz.isAgg3
  z3 := Tryz.sizeOf3
  v3 := Tryz.zeroValue3
  t4 := Tryz.underlying4
  a4 := Tryz.isAgg4
  z4 := Tryz.sizeOf4
  v4 := Tryz.zeroValue4
  t5 := Tryz.underlying5
  a5 := Tryz.isAgg5
  z5 := Tryz.sizeOf5
  v5 := Tryz.zeroValue5
  t9 := Tryz.underlying9
  a9 := Tryz.isAgg9
  z9 := Tryz.sizeOf9
  v9 := Tryz.zeroValue9
  t21 := Tryz.underlying21
  a21 := Tryz.isAgg21
  z21 := Tryz.sizeOf21
  v21 := Tryz.zeroValue21
  t31 := Tryz.underlying63
  a31 := Tryz.isAgg63
  z31 := Tryz.sizeOf63
  v31 := Tryz.zeroValue63
  t46 := Tryz.underlying114
  a46 := Tryz.isAgg114
  z46 := Tryz.sizeOf114
  v46 := Tryz.zeroValue114
  t51 := Tryz.underlying239
  a51 := Tryz.isAgg239
  z51 := Tryz.sizeOf239
  v51 := Tryz.zeroValue239
  t105 := Tryz.underlying237
  a105 := Tryz.isAgg237
  z105 := Tryz.sizeOf237
  v105 := Tryz.zeroValue237
  t119 := Tryz.underlying261
  a119 := Tryz.isAgg261
  z119 := Tryz.sizeOf261
  t138 := Tryz.underlying263
  a138 := Tryz.isAgg263
  z138 := Tryz.sizeOf263
  v138 := Tryz.zeroValue263
  t139 := Tryz.underlying264
  a139 := Tryz.isAgg264
  z139 := Tryz.sizeOf264
  v139 := Tryz.zeroValue264
  t146 := Tryz.underlying240
  a146 := Tryz.isAgg240
  z146 := Tryz.sizeOf240
  v146 := Tryz.zeroValue240
  g1 := by kernel_rfl
  g3 := by kernel_rfl
  g4 := by kernel_rfl }
def Tryz.lays144_ren : Go.Shelf.Ren := ⟨fun | 144 => 56 | 143 => 91 | 219 => 116 | 217 => 135 | 225 => 134 | 224 => 133 | 267 => 136 | 266 => 154 | 314 => 155 | n => n, fun | 9 => 9 | 4 => 4 | 3 => 3 | 5 => 5 | 46 => 114 | 146 => 240 | 51 => 239 | n => n, fun | 1 => 1 | n => n⟩
theorem Tryz.lays144 : Go.Proofs.Lays.n144 Tryz.prog Tryz.lays144_ren := {
  mixed := by kernel_rfl
  f143 := Tryz.func91.trans (congrArg some (by kernel_rfl))
  f144 := Tryz.func56.trans (congrArg some (by kernel_rfl))
  f217 := Tryz.func135.trans (congrArg some (by kernel_rfl))
  f219 := Tryz.func116.trans (congrArg some (by kernel_rfl))
  f224 := Tryz.func133.trans (congrArg some (by kernel_rfl))
  f225 := Tryz.func134.trans (congrArg some (by kernel_rfl))
  f266 := Tryz.func154.trans (congrArg some (by kernel_rfl))
  f267 := Tryz.func136.trans (congrArg some (by kernel_rfl))
  f314 := Tryz.func155.trans (congrArg some (by kernel_rfl))
  t3 := Tryz.underlying3
  a3 := Tryz.isAgg3
  z3 := Tryz.sizeOf3
  v3 := Tryz.zeroValue3
  t4 := Tryz.underlying4
  a4 := Tryz.isAgg4
  z4 := Tryz.sizeOf4
  v4 := Tryz.zeroValue4
  t5 := Tryz.underlying5
  a5 := Tryz.isAgg5
  z5 := Tryz.sizeOf5
  v5 := Tryz.zeroValue5
  t9 := Tryz.underlying9
  a9 := Tryz.isAgg9
  z9 := Tryz.sizeOf9
  v9 := Tryz.zeroValue9
  t46 := Tryz.underlying114
  a46 := Tryz.isAgg114
  z46 := Tryz.sizeOf114
  v46 := Tryz.zeroValue114
  t51 := Tryz.underlying239
  a51 := Tryz.isAgg239
  z51 := Tryz.sizeOf239
  v51 := Tryz.zeroValue239
  t146 := Tryz.underlying240
  a146 := Tryz.isAgg240
  z146 := Tryz.sizeOf240
  v146 := Tryz.zeroValue240
  g1 := by kernel_rfl }
def Tryz.lays100_ren : Go.Shelf.Ren := ⟨fun | 100 => 57 | 207 => 92 | n => n, fun | 9 => 9 | 4 => 4 | 3 => 3 | n => n, fun | n => n⟩
theorem Tryz.lays100 : Go.Proofs.Lays.n100 Tryz.prog Tryz.lays100_ren := {
  mixed := by kernel_rfl
  f100 := Tryz.func57.trans (congrArg some (by kernel_rfl))
  f207 := Tryz.func92.trans (congrArg some (by kernel_rfl))
  t3 := Tryz.underlying3
  a3 := Tryz.isAgg3
  z3 := Tryz.sizeOf3
  v3 := Tryz.zeroValue3
  t4 := Tryz.underlying4
  a4 := Tryz.isAgg4
  z4 := Tryz.sizeOf4
  v4 := Tryz.zeroValue4
  t9 := Tryz.underlying9
  a9 := Tryz.isAgg9
  z9 := Tryz.sizeOf9
  v9 := Tryz.zeroValue9 }
def Tryz.lays99_ren : Go.Shelf.Ren := ⟨fun | 99 => 89 | 206 => 114 | n => n, fun | 9 => 9 | 4 => 4 | 3 => 3 | n => n, fun | n => n⟩
theorem Tryz.lays99 : Go.Proofs.Lays.n99 Tryz.prog Tryz.lays99_ren := {
  mixed := by kernel_rfl
  f99 := Tryz.func89.trans (congrArg some (by kernel_rfl))
  f206 := Tryz.func114.trans (congrArg some (by kernel_rfl))
  t3 := Tryz.underlying3
  a3 := Tryz.isAgg3
  z3 := Tryz.sizeOf3
  v3 := Tryz.zeroValue3
  t4 := Tryz.underlying4
  a4 := Tryz.isAgg4
  z4 := Tryz.sizeOf4
  v4 := Tryz.zeroValue4
  t9 := Tryz.underlying9
  a9 := Tryz.isAgg9
  z9 := Tryz.sizeOf9
  v9 := Tryz.zeroValue9 }
def Tryz.lays151_ren : Go.Shelf.Ren := ⟨fun | 151 => 90 | 152 => 115 | 137 => 131 | 119 => 132 | 224 => 133 | 225 => 134 | 217 => 135 | 266 => 154 | n => n, fun | 9 => 9 | 21 => 21 | 4 => 4 | 3 => 3 | 5 => 5 | 0 => 0 | 46 => 114 | n => n, fun | n => n⟩
theorem Tryz.lays151 : Go.Proofs.Lays.n151 Tryz.prog Tryz.lays151_ren := {
  mixed := by kernel_rfl
  f119 := Tryz.func132.trans (congrArg some (by kernel_rfl))
  f137 := Tryz.func131.trans (congrArg some (by kernel_rfl))
  f151 := Tryz.func90.trans (congrArg some (by kernel_rfl))
  f152 := Tryz.func115.trans (congrArg some (by kernel_rfl))
  f217 := Tryz.func135.trans (congrArg some (by kernel_rfl))
  f224 := Tryz.func133.trans (congrArg some (by kernel_rfl))
  f225 := Tryz.func134.trans (congrArg some (by kernel_rfl))
  f266 := Tryz.func154.trans (congrArg some (by kernel_rfl))
  t0 := Tryz.underlying0
  a0 := Tryz.isAgg0
  z0 := Tryz.sizeOf0
  v0 := Tryz.zeroValue0
  t3 := Tryz.underlying3
  a3 := Tryz.isAgg3
  z3 := Tryz.sizeOf3
  v3 := Tryz.zeroValue3
  t4 := Tryz.underlying4
  a4 := Tryz.isAgg4
  z4 := Tryz.sizeOf4
  v4 := Tryz.zeroValue4
  t5 := Tryz.underlying5
  a5 := Tryz.isAgg5
  z5 := Tryz.sizeOf5
  v5 := Tryz.zeroValue5
  t9 := Tryz.underlying9
  a9 := Tryz.isAgg9
  z9 := Tryz.sizeOf9
  v9 := Tryz.zeroValue9
  t21 := Tryz.underlying21
  a21 := Tryz.isAgg21
  z21 := Tryz.sizeOf21
  v21 := Tryz.zeroValue21
  t46 := Tryz.underlying114
  a46 := Tryz.isAgg114
  z46 := Tryz.sizeOf114
  v46 := Tryz.zeroValue114 }
def Tryz.lays145_ren : Go.Shelf.Ren := ⟨fun | 145 => 122 | 220 => 143 | 219 => 116 | 217 => 135 | 225 => 134 | 224 => 133 | 267 => 136 | 266 => 154 | 314 => 155 | n => n, fun | 9 => 9 | 4 => 4 | 59 => 205 | 3 => 3 | 5 => 5 | 46 => 114 | 146 => 240 | 51 => 239 | n => n, fun | 1 => 1 | n => n⟩
theorem Tryz.lays145 : Go.Proofs.Lays.n145 Tryz.prog Tryz.lays145_ren := {
  mixed := by kernel_rfl
  f145 := Tryz.func122.trans (congrArg some (by kernel_rfl))
  f217 := Tryz.func135.trans (congrArg some (by kernel_rfl))
  f219 := Tryz.func116.trans (congrArg some (by kernel_rfl))
  f220 := Tryz.func143.trans (congrArg some (by kernel_rfl))
  f224 := Tryz.func133.trans (congrArg some (by kernel_rfl))
  f225 := Tryz.func134.trans (congrArg some (by kernel_rfl))
  f266 := Tryz.func154.trans (congrArg some (by kernel_rfl))
  f267 := Tryz.func136.trans (congrArg some (by kernel_rfl))
  f314 := Tryz.func155.trans (congrArg some (by kernel_rfl))
  t3 := Tryz.underlying3
  a3 := Tryz.isAgg3
  z3 := Tryz.sizeOf3
  v3 := Tryz.zeroValue3
  t4 := Tryz.underlying4
  a4 := Tryz.isAgg4
  z4 := Tryz.sizeOf4
  v4 := Tryz.zeroValue4
  t5 := Tryz.underlying5
  a5 := Tryz.isAgg5
  z5 := Tryz.sizeOf5
  v5 := Tryz.zeroValue5
  t9 := Tryz.underlying9
  a9 := Tryz.isAgg9
  z9 := Tryz.sizeOf9
  v9 := Tryz.zeroValue9
  t46 := Tryz.underlying114
  a46 := Tryz.isAgg114
  z46 := Tryz.sizeOf114
  v46 := Tryz.zeroValue114
  t51 := Tryz.underlying239
  a51 := Tryz.isAgg239
  z51 := Tryz.sizeOf239
  v51 := Tryz.zeroValue239
  t59 := Tryz.underlying205
  a59 := Tryz.isAgg205
  z59 := Tryz.sizeOf205
  v59 := Tryz.zeroValue205
  t146 := Tryz.underlying240
  a146 := Tryz.isAgg240
  z146 := Tryz.sizeOf240
  v146 := Tryz.zeroValue240
  g1 := by kernel_rfl }
end Go.Proofs
namespace Go.Proofs.YtijeogdnjeamaaaGreatDoor.Nm
open Go.RowKit
set_option linter.unusedVariables false
set_option linter.unusedSimpArgs false
theorem hid {p : Prop} (h : p) : Hid p := h
theorem iter_below (w : World) (s : ByteArray) (pos : Nat) : Below w.heap.size w (w.iter s pos) :=
  ⟨rfl, rfl, rfl, by simp [World.iter], fun k hk => by
    show (w.heap.push _)[k]? = _
    rw [Array.getElem?_push, if_neg (by omega)]⟩
theorem rune_any (c : Int) (w : World) (h0 : 0 ≤ c) (h1 : c < 128) :
    Calls Tryz.prog 90 #[.string ⟨#[126, 94, 58, 63, 42, 91, 92]⟩, .int .i32 c] w fun e w' => e = .returned (.bool (([126, 94, 58, 63, 42, 91, 92] : List UInt8).contains c.toNat.toUInt8)) ∧ w' = w := by
  refine (Any.strings_ContainsRune_ascii Tryz.lays151 ⟨#[126, 94, 58, 63, 42, 91, 92]⟩ c w h0 h1).mono ?_
  rintro e w' ⟨rfl, rfl⟩
  exact ⟨by rw [Lib.contains_iff_indexByte], rfl⟩
set_option maxRecDepth 100000 in
set_option maxHeartbeats 1000000 in
theorem hasRunes_any (s : List UInt8) (w : World) :
    Calls Tryz.prog 55 #[.string ⟨s.toArray⟩] w fun e w' => e = .returned (.bool (s.all byteOk)) ∧ Below w.heap.size w w' := by
  obtain ⟨S, HS⟩ : ∃ S : ByteArray, Hid (⟨s.toArray⟩ = S) := ⟨_, rfl⟩
  obtain ⟨n, HN⟩ : ∃ n, Hid (s.length = n) := ⟨_, rfl⟩
  have hsz : S.size = n := by rw [← HS.out, ← HN.out]; simp [ByteArray.size]
  have HBI : Hid (∀ pos, Below w.heap.size w (w.iter S pos)) := fun pos => iter_below w S pos
  have HG : Hid (∀ pos (h : pos < S.size), s[pos]? = some (S[pos]'h)) := fun pos h => by
    have := Lib.data_getElem? S pos h
    rw [← this, ← HS.out]
  have HBAD : Hid (∀ pos x, s[pos]? = some x → byteOk x = false → s.all byteOk = false) := fun pos x hx hb => by
    rw [Bool.eq_false_iff]
    intro h
    have := List.all_eq_true.1 h x (List.mem_of_getElem? hx)
    rw [hb] at this
    cases this
  rw [HS.out]
  go_enter Tryz.func55, Tryz.ntmps55
  go_wp2
  go_loopw [] (fun w' => ∃ pos : Nat, w' = w.iter S pos ∧ pos ≤ n ∧ Hid (∀ x ∈ s.take pos, byteOk x = true)) (fun w' => n - w'.iterPos w.heap.size)
  case atStart => exact ⟨0, rfl, Nat.zero_le _, hid (by simp)⟩
  case round =>
    obtain ⟨pos, rfl, hpn, HD⟩ := hrel
    by_cases hp : pos < S.size
    · have hnx : ∀ ty, (Instr.next (.pointer (some ⟨w.heap.size, 0, none⟩)) true ty).run Tryz.prog (w.iter S pos) = _ := fun ty => run_next_any w S pos ty hp
      obtain ⟨x, HX⟩ : ∃ x, Hid (S[pos]'hp = x) := ⟨_, rfl⟩
      have HSX : Hid (s[pos]? = some x) := hid (by rw [← HX.out]; exact HG.out pos hp)
      by_cases h128 : x.toNat < 128
      · have hdec := decode_ascii S pos hp (by rw [HX.out]; exact h128)
        rw [HX.out] at hdec
        rw [hdec] at hnx
        obtain ⟨c, HC⟩ : ∃ c : Int, Hid ((x.toNat : Int) = c) := ⟨_, rfl⟩
        simp only [HC.out] at hnx
        have hc0 : 0 ≤ c := by rw [← HC.out]; omega
        have hc1 : c < 128 := by rw [← HC.out]; omega
        have HT : Hid (c.toNat.toUInt8 = x) := hid (by rw [← HC.out]; simp)
        clear hdec
        by_cases h33 : c < 33
        · have HB : Hid (s.all byteOk = false) := hid (HBAD.out pos x HSX.out (by unfold byteOk; rw [decide_eq_false (by have := HC.out; omega)]; rfl))
          go_wp2
          go_ret
          exact ⟨by rw [HB.out]; rfl, HBI.out _⟩
        · by_cases h126 : 126 < c
          · have HB : Hid (s.all byteOk = false) := hid (HBAD.out pos x HSX.out (by unfold byteOk; rw [decide_eq_false (show ¬ x.toNat ≤ 126 by have := HC.out; omega)]; simp))
            go_wp2
            go_ret
            exact ⟨by rw [HB.out]; rfl, HBI.out _⟩
          · obtain ⟨b, HBB⟩ : ∃ b, Hid (([126, 94, 58, 63, 42, 91, 92] : List UInt8).contains x = b) := ⟨_, rfl⟩
            have CR : Hid (∀ w, Calls Tryz.prog 90 #[.string ⟨#[126, 94, 58, 63, 42, 91, 92]⟩, .int .i32 c] w fun e w' => e = .returned (.bool b) ∧ w' = w) := fun w => by
              have := rune_any c w hc0 hc1
              rw [HT.out, HBB.out] at this
              exact this
            have HOK : Hid (byteOk x = !b) := hid (by
              unfold byteOk
              rw [HBB.out, decide_eq_true (show 33 ≤ x.toNat by have := HC.out; omega), decide_eq_true (show x.toNat ≤ 126 by have := HC.out; omega)]
              rfl)
            have hpn' : pos < n := by rw [← hsz]; exact hp
            cases b with
            | true =>
              have HB : Hid (s.all byteOk = false) := hid (HBAD.out pos x HSX.out HOK.out)
              go_wp2_with (go_at_call 90; refine (CR.out _).mono ?_; rintro e w' ⟨rfl, rfl⟩)
              go_ret
              exact ⟨by rw [HB.out]; rfl, HBI.out _⟩
            | false =>
              go_wp2_with (go_at_call 90; refine (CR.out _).mono ?_; rintro e w' ⟨rfl, rfl⟩)
              go_roundw
              case rel =>
                refine ⟨pos + 1, rfl, by omega, hid ?_⟩
                rw [List.take_add_one, HSX.out]
                intro y hy
                rcases List.mem_append.1 hy with hy | hy
                · exact HD.out y hy
                · have : y = x := by simpa using hy
                  subst this
                  exact HOK.out
              case measure =>
                simp
                omega
      · have hdec := decode_high S pos hp (by rw [HX.out]; omega)
        have HB : Hid (s.all byteOk = false) := hid (HBAD.out pos x HSX.out (by unfold byteOk; rw [decide_eq_false (show ¬ x.toNat ≤ 126 by omega)]; simp))
        obtain ⟨c, HC⟩ : ∃ c : Int, Hid (((Utf8.decode S pos).1 : Int) = c) := ⟨_, rfl⟩
        simp only [HC.out] at hnx
        have h126 : 126 < c := by rw [← HC.out]; omega
        have h33 : ¬ c < 33 := by omega
        clear hdec
        go_wp2
        go_ret
        exact ⟨by rw [HB.out]; rfl, HBI.out _⟩
    · have hnx : ∀ ty, (Instr.next (.pointer (some ⟨w.heap.size, 0, none⟩)) true ty).run Tryz.prog (w.iter S pos) = _ := fun ty => run_next_end w S pos ty hp
      have HB : Hid (s.all byteOk = true) := hid (by
        have h := HD.out
        rw [List.take_of_length_le (by rw [HN.out]; omega)] at h
        exact List.all_eq_true.2 h)
      go_wp2
      go_ret
      exact ⟨by rw [HB.out]; rfl, HBI.out _⟩
end Go.Proofs.YtijeogdnjeamaaaGreatDoor.Nm
