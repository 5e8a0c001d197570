import Derived.Test.YtmpjapcijjjlbaaGreatDoorQd04
import Derived.Lib.AppendZeros
namespace Go.Proofs.YtmpjapcijjjlbaaGreatDoor
open Go.RowKit
set_option linter.unusedVariables false
set_option linter.unusedSimpArgs false
theorem made_two (a b : Value) : ∀ n : Nat, (madeCells #[a, b] (n * 2)).toList = (List.replicate n ()).flatMap (fun _ => [a, b])
  | 0 => by simp [madeCells]
  | n + 1 => by
    have ih := made_two a b n
    rw [List.replicate_succ', List.flatMap_append, ← ih]
    have e0 : (n * 2) % 2 = 0 := by omega
    have e1 : (n * 2 + 1) % 2 = 1 := by omega
    rw [show (n + 1) * 2 = n * 2 + 1 + 1 by omega]
    unfold madeCells
    rw [Array.range_succ, Array.range_succ, Array.map_append, Array.map_append, Array.toList_append, Array.toList_append]
    simp [e0, e1]
theorem madeE (n : Nat) : (madeCells #[.int .i64 0, .string ⟨#[]⟩] (n * 2)).toList = (List.replicate n ((0, []) : Ed)).flatMap encE := by
  rw [made_two]
  induction n with
  | zero => rfl
  | succ n ih => rw [List.replicate_succ, List.replicate_succ, List.flatMap_cons, List.flatMap_cons, ih]; rfl
theorem own_pair {w : World} {B K n : Nat} {e : TypeId} {xs : List Value} (h : w.ownsRow B e 2 (.slice (some ⟨K, 0, none⟩) n n) n xs) (i : Nat) (hi : i < n) (v : Value) : (∃ c, w.cell? ⟨K, i * 2, none⟩ = some c) ∧ w.frozen? ⟨K, i * 2, none⟩ = false ∧ (∃ c, (w.setCell ⟨K, i * 2, none⟩ v).cell? ⟨K, i * 2 + 1, none⟩ = some c) ∧ (w.setCell ⟨K, i * 2, none⟩ v).frozen? ⟨K, i * 2 + 1, none⟩ = false := by
  have h1 := h.stored (i * 2) v
  exact ⟨⟨_, by rw [h.cellAt _ (by omega), List.getElem?_eq_getElem (by rw [h.1]; omega)]⟩, h.frozenAt _, ⟨_, by rw [h1.1.cellAt _ (by omega), List.getElem?_eq_getElem (by rw [h1.1.1]; omega)]⟩, h1.1.frozenAt _⟩
theorem set_takeE (m T : List Ed) (n i : Nat) (hm : m.length = n) (hi : i < n) (h : m.take i = T.take i) (hT : T.length = n) : (m.set i (T.getD i (0, []))).take (i + 1) = T.take (i + 1) := by
  rw [List.take_add_one, List.take_add_one, List.take_set_of_le (Nat.le_refl _), h, List.getElem?_set, if_pos rfl, if_pos (by omega), List.getElem?_eq_getElem (by omega), List.getD_eq_getElem?_getD, List.getElem?_eq_getElem (by omega)]
  rfl
theorem mk_at (k : Nat) (L : List Str) (i : Nat) (hi : i < L.length) : (mk k L).getD i (0, []) = (k, L.getD i []) := by
  unfold mk
  rw [List.getD_eq_getElem?_getD, List.getElem?_map, List.getElem?_eq_getElem hi, List.getD_eq_getElem?_getD, List.getElem?_eq_getElem hi]
  rfl
def PostA (l : List Ed) (n : Nat) (w : World) (e : Ending) (w' : World) : Prop := e = .returned (.slice (some ⟨w.heap.size, 0, none⟩) n n) ∧ l.length = n ∧ BE 43 w w' w.heap.size (.slice (some ⟨w.heap.size, 0, none⟩) n n) l
set_option maxRecDepth 20000 in
set_option maxHeartbeats 2000000 in
theorem all_any {w : World} (k : Nat) (a : Option Addr) (ca : Nat) (A : List Str) (hA : PS w a ca A) (hAl : A.length ≤ 4000) : Calls Tryz.prog 25 #[.int .i64 (k : Int), .slice a A.length ca] w (PostA (mk k A) A.length w) := by
  obtain ⟨n, HN⟩ : ∃ n, Hid (A.length = n) := ⟨_, rfl⟩
  obtain ⟨G, HG⟩ : ∃ G, Hid (w.heap.size = G) := ⟨_, rfl⟩
  have hn4 : n ≤ 4000 := by rw [← HN.out]; exact hAl
  have HPA : Hid (∀ W, Below G w W → PS W a ca A) := fun W hW => hA.below (by rw [HG.out]; exact hW)
  have HFA : Hid (0 < n → ∃ b off, a = some ⟨b, off, none⟩) := fun h0 => by
    obtain ⟨b, off, e1, _⟩ := hA.at_ (by rw [HN.out]; exact h0)
    exact ⟨b, off, e1⟩
  obtain ⟨tg, HTG⟩ : ∃ tg, Hid (mk k A = tg) := ⟨_, rfl⟩
  have htl : tg.length = n := by rw [← HTG.out, mk_len, HN.out]
  obtain ⟨i43, hi43, hz0, hz1, hz2⟩ := info_parts Tryz.info43
  unfold PostA
  rw [HN.out, HTG.out, HG.out]
  clear hA hAl
  go_enter Tryz.func25, Tryz.ntmps25
  go_wp2_with (first
    | (at_make; refine wpList_make_full _ rfl _ _ 23 rfl G 43 i43 (.agg #[.int .i64 0, .string ⟨#[]⟩]) 2 und26 hi43 hz0 hz1 _ _ _ _ n rfl rfl ?c1 ?c2 ?c3 ?c4 ?c5 ?_)
    | fail)
  case c1 => rfl
  case c2 => rfl
  case c3 => rw [hz2]; omega
  case c4 => unfold maxLen; omega
  case c5 => rw [HG.out]; exact Nat.le_refl _
  intro w1 hown1 hgr1
  rw [HG.out] at hown1 ⊢
  have HBE1 : Hid (BE 43 w w1 G (.slice (some ⟨G, 0, none⟩) n n) (List.replicate n (0, []))) := hid ⟨by rw [← HG.out]; exact ⟨hgr1.os, hgr1.tape, hgr1.output, hgr1.size, fun k hk => hgr1.block k hk (by simp)⟩, by
    rw [madeE] at hown1
    rw [List.length_replicate]
    exact hown1, by rw [← HG.out]; exact hgr1.size⟩
  clear hown1 hgr1
  go_wp2_with fail
  go_loopg [13] n (fun gg iv wr => ∃ (i : Nat) (m : List Ed), iv = .int .i64 i ∧ gg = n - i ∧ i ≤ n ∧ m.length = n ∧ Hid (BE 43 w wr G (.slice (some ⟨G, 0, none⟩) n n) m) ∧ Hid (m.take i = tg.take i))
  case atStart => exact ⟨0, _, rfl, rfl, Nat.zero_le _, by simp, HBE1, hid (by simp)⟩
  case round =>
    obtain ⟨i, m, rfl, hk, hi, hml, HB, HTK⟩ := hrel
    by_cases hlt : i < n
    · have hlti : (i : Int) < (n : Int) := by omega
      obtain ⟨b, off, hae⟩ := HFA.out (by omega)
      subst hae
      obtain ⟨x, HX⟩ : ∃ x, Hid (A.getD i [] = x) := ⟨_, rfl⟩
      obtain ⟨T, HT⟩ : ∃ T, Hid ((⟨x.toArray⟩ : ByteArray) = T) := ⟨_, rfl⟩
      have hc0 : wr.cell? ⟨b, off + i, none⟩ = some (.string T) := by rw [← HT.out, ← HX.out]; exact PS.str (HPA.out _ HB.out.below) i (by rw [HN.out]; exact hlt)
      have hc1 : wr.cell? ⟨b, off + i * 1, none⟩ = some (.string T) := by rw [Nat.mul_one]; exact hc0
      have hown := HB.out.own
      rw [hml] at hown
      obtain ⟨⟨c0, hk0⟩, hf0, ⟨c1, hk1⟩, hf1⟩ := own_pair hown i hlt (.int .i64 (k : Int))
      have h5 := (HB.out.set hml (Nat.le_refl _) i (k, x) (by omega) (fun y _ => encE_len y) (encE_len _)).1
      have HB5 : Hid (BE 43 w ((wr.setCell ⟨G, i * 2, none⟩ (.int .i64 (k : Int))).setCell ⟨G, i * 2 + 1, none⟩ (.string T)) G (.slice (some ⟨G, 0, none⟩) n n) (m.set i (k, x))) := hid (by rw [← HT.out]; exact h5)
      have HT5 : Hid ((m.set i (k, x)).take (i + 1) = tg.take (i + 1)) := hid (by
        have e : tg.getD i (0, []) = (k, x) := by rw [← HTG.out, mk_at k A i (by rw [HN.out]; exact hlt), HX.out]
        rw [← e]
        exact set_takeE m tg n i hml hlt HTK.out htl)
      clear hown h5
      go_wp2
      go_roundg (n - (i + 1))
      case measure => omega
      case rel => exact ⟨i + 1, m.set i (k, x), by go_num, rfl, by omega, by rw [List.length_set]; exact hml, HB5, HT5⟩
    · have hlti : ¬ (i : Int) < (n : Int) := by omega
      have HMT : Hid (m = tg) := hid (by
        have := HTK.out
        rw [List.take_of_length_le (by omega), List.take_of_length_le (by omega)] at this
        exact this)
      go_wp2
      go_ret
      exact ⟨rfl, by rw [← HMT.out]; exact HB.out⟩
end Go.Proofs.YtmpjapcijjjlbaaGreatDoor
namespace Go.Proofs.YtmpjapcijjjlbaaGreatDoor
open Go.RowKit
set_option linter.unusedVariables false
set_option linter.unusedSimpArgs false
set_option maxRecDepth 20000 in
theorem grow_zero (w : World) : Calls Tryz.prog 48 #[.slice none 0 0, .int .i64 0] w fun e w' => ∃ v, e = .returned v ∧ BE 43 w w' w.heap.size v [] := by
  have HB : Hid (BE 43 w w w.heap.size (.slice none 0 0) []) := hid (bx_nil 43 w _ (Nat.le_refl _))
  go_enter Tryz.func48, Tryz.ntmps48
  go_wp2
  go_ret
  exact ⟨_, rfl, HB.out⟩
set_option maxRecDepth 20000 in
set_option maxHeartbeats 1000000 in
theorem grow_some (n : Nat) (h1 : 1 ≤ n) (hn : n ≤ 10000) (w : World) : Calls Tryz.prog 48 #[.slice none 0 0, .int .i64 n] w fun e w' => ∃ v, e = .returned v ∧ BE 43 w w' w.heap.size v [] := by
  obtain ⟨i, hi, hz0, hz1, hz2⟩ := info_parts Tryz.info43
  have hr := fun ty w => Lib.run_append_nil_zeros (P := Tryz.prog) w 23 3 ty 43 i (.agg #[.int .i64 0, .string ⟨#[]⟩]) .i64 .i64 Tryz.underlying23 Tryz.underlying3 hi hz0 n h1 (by omega) (by omega) (by rw [hz2]; omega)
  have hc := grownCap_ge w n 0 43
  have hcm := grownCap_le_maxLen w n 0 43 (by unfold maxLen; omega)
  obtain ⟨cp, HC⟩ : ∃ cp, Hid (grownCap w n 0 43 = cp) := ⟨_, rfl⟩
  obtain ⟨R, HR⟩ : ∃ R : Array Value, Hid ((Builtin.zeroCells (Value.agg #[.int .i64 0, .string ⟨#[]⟩]).cells n ++ Builtin.zeroCells (Value.agg #[.int .i64 0, .string ⟨#[]⟩]).cells (cp - n)) = R) := ⟨_, rfl⟩
  have hr1 := hr 23 w
  rw [HC.out] at hr1 hc hcm
  rw [HR.out] at hr1
  have HRS : Hid (R.size = cp * 2) := hid (by
    rw [← HR.out]
    have hz : ∀ k, (Builtin.zeroCells (Value.agg #[.int .i64 0, .string ⟨#[]⟩]).cells k).size = k * 2 := fun k => by
      simp [Builtin.zeroCells, Value.cells]
    rw [Array.size_append, hz, hz, ← Nat.add_mul]
    congr 1
    omega)
  have hn0 : ¬ (n : Int) < 0 := by omega
  have hn1 : (0 : Int) < (n : Int) := by omega
  obtain ⟨G, HG⟩ : ∃ G, Hid (w.heap.size = G) := ⟨_, rfl⟩
  obtain ⟨w1, HW1⟩ : ∃ w1, Hid (w.drew.alloc (.cells R 43) = w1) := ⟨_, rfl⟩
  have HBI : Hid (BE 43 w w1 G (.slice (some ⟨G, 0, none⟩) 0 cp) []) := hid (by
    rw [← HW1.out, ← HG.out]
    have hb : Below w.heap.size w (w.drew.alloc (.cells R 43)) := (below_drewH (Below.refl _ w) 1).alloc (Nat.le_refl _) _
    exact ⟨hb, ⟨rfl, .inr ⟨_, cp, R, rfl, Nat.le_refl _, heap_alloc_new w.drew _, Nat.zero_le _, hcm, HRS.out, by simp⟩⟩, hb.size⟩)
  rw [HW1.out, HG.out] at hr1
  rw [HG.out]
  clear hr hcm
  go_enter Tryz.func48, Tryz.ntmps48
  go_wp2_with (first
    | (at_builtin; refine Lib.wpList_append_run _ rfl _ _ 23 3 rfl _ _ rfl rfl _ _ hr1 ?_)
    | fail)
  go_ret
  exact ⟨_, rfl, HBI.out⟩
theorem grow_any (n : Nat) (hn : n ≤ 10000) (w : World) : Calls Tryz.prog 48 #[.slice none 0 0, .int .i64 n] w fun e w' => ∃ v, e = .returned v ∧ BE 43 w w' w.heap.size v [] := by
  by_cases h : n = 0
  · subst h; exact grow_zero w
  · exact grow_some n (by omega) hn w
def pr3 (A B C : List Ed) (i : Nat) : List Ed := if i = 0 then [] else if i = 1 then A else if i = 2 then A ++ B else A ++ (B ++ C)
set_option maxRecDepth 20000 in
set_option maxHeartbeats 4000000 in
theorem concat_any (H ac bc cc : Nat) (aa ba ca : Option Addr) (A B C : List Ed) (w : World) (h0 : w.cell? ⟨H, 0, none⟩ = some (.slice aa A.length ac)) (h1 : w.cell? ⟨H, 1, none⟩ = some (.slice ba B.length bc)) (h2 : w.cell? ⟨H, 2, none⟩ = some (.slice ca C.length cc)) (hH : H < w.heap.size)
    (hA : PE w aa ac A) (hB : PE w ba bc B) (hC : PE w ca cc C) (hn : A.length + B.length + C.length ≤ 10000) :
    Calls Tryz.prog 26 #[.slice (some ⟨H, 0, none⟩) 3 3] w fun e w' => ∃ v, e = .returned v ∧ BE 43 w w' w.heap.size v (A ++ (B ++ C)) := by
  obtain ⟨na, HNA⟩ : ∃ n, Hid (A.length = n) := ⟨_, rfl⟩
  obtain ⟨nb, HNB⟩ : ∃ n, Hid (B.length = n) := ⟨_, rfl⟩
  obtain ⟨nc, HNC⟩ : ∃ n, Hid (C.length = n) := ⟨_, rfl⟩
  obtain ⟨G, HG⟩ : ∃ G, Hid (w.heap.size = G) := ⟨_, rfl⟩
  have hnn : na + nb + nc ≤ 10000 := by rw [← HNA.out, ← HNB.out, ← HNC.out]; exact hn
  have HC0 : Hid (∀ W, Below G w W → W.cell? ⟨H, 0, none⟩ = some (.slice aa na ac)) := fun W hW => by rw [← HNA.out]; exact (hW.cell (p := ⟨H, 0, none⟩) (by rw [← HG.out]; exact hH)).trans h0
  have HC1 : Hid (∀ W, Below G w W → W.cell? ⟨H, 1, none⟩ = some (.slice ba nb bc)) := fun W hW => by rw [← HNB.out]; exact (hW.cell (p := ⟨H, 1, none⟩) (by rw [← HG.out]; exact hH)).trans h1
  have HC2 : Hid (∀ W, Below G w W → W.cell? ⟨H, 2, none⟩ = some (.slice ca nc cc)) := fun W hW => by rw [← HNC.out]; exact (hW.cell (p := ⟨H, 2, none⟩) (by rw [← HG.out]; exact hH)).trans h2
  have HPA : Hid (∀ W, Below G w W → PE W aa ac A) := fun W hW => hA.below (by rw [HG.out]; exact hW)
  have HPB : Hid (∀ W, Below G w W → PE W ba bc B) := fun W hW => hB.below (by rw [HG.out]; exact hW)
  have HPC : Hid (∀ W, Below G w W → PE W ca cc C) := fun W hW => hC.below (by rw [HG.out]; exact hW)
  obtain ⟨M, HM⟩ : ∃ M : Nat, Hid (na + nb + nc = M) := ⟨_, rfl⟩
  obtain ⟨M2, HM2⟩ : ∃ M : Nat, Hid (na + nb = M) := ⟨_, rfl⟩
  have CG : Hid (∀ W, Calls Tryz.prog 48 #[.slice none 0 0, .int .i64 (M : Nat)] W fun e w' => ∃ v, e = .returned v ∧ BE 43 W w' W.heap.size v []) := fun W => grow_any M (by have := HM.out; omega) W
  have hM : M ≤ 10000 := by have := HM.out; omega
  have hM2 : M2 ≤ 10000 := by have := HM2.out; omega
  rw [HG.out]
  clear h0 h1 h2 hA hB hC hn
  have p0 : (pr3 A B C 0).length = 0 := rfl
  have p1 : (pr3 A B C 1).length = na := HNA.out
  have p2 : (pr3 A B C 2).length = M2 := by simp [pr3, HNA.out, HNB.out, HM2.out]
  have p3 : (pr3 A B C 3).length = M := by have := HM.out; simp [pr3, HNA.out, HNB.out, HNC.out]; omega
  go_enter Tryz.func26, Tryz.ntmps26
  go_wp2_with fail
  go_loopg [3, 11] 3 (fun g sv iv wr => ∃ i : Nat, i ≤ 3 ∧ g = 3 - i ∧ iv = .int .i64 i ∧ sv = .int .i64 (pr3 A B C i).length ∧ Hid (wr = w))
  case atStart => exact ⟨0, by omega, rfl, rfl, rfl, hid rfl⟩
  case round =>
    obtain ⟨i, hi, hk, rfl, rfl, HW⟩ := hrel
    have hww := HW.out.symm
    subst hww
    clear HW
    have e3 : i = 0 ∨ i = 1 ∨ i = 2 ∨ i = 3 := by omega
    have c0 := HC0.out w (Below.refl _ _)
    have c1 := HC1.out w (Below.refl _ _)
    have c2 := HC2.out w (Below.refl _ _)
    have hnai : ¬ (na : Int) < 0 := by omega
    have hs0 : (na : Int) + (nb : Int) = (M2 : Int) := by have := HM2.out; omega
    have hs1 : (M2 : Int) + (nc : Int) = (M : Int) := by have := HM2.out; have := HM.out; omega
    have hs2 : ¬ (M : Int) < 0 := by omega
    have hs3 : ¬ (M2 : Int) < 0 := by omega
    rcases e3 with rfl | rfl | rfl | rfl
    · rw [p0]
      go_wp2
      go_roundg 2
      case measure => omega
      case rel => exact ⟨1, by omega, rfl, rfl, by rw [p1], hid rfl⟩
    · rw [p1]
      go_wp2
      go_roundg 1
      case measure => omega
      case rel => exact ⟨2, by omega, rfl, rfl, by rw [p2], hid rfl⟩
    · rw [p2]
      go_wp2
      go_roundg 0
      case measure => omega
      case rel => exact ⟨3, by omega, rfl, rfl, by rw [p3], hid rfl⟩
    · rw [p3]
      go_wp2_with fail
      refine (CG.out _).mono ?_
      rintro ev w1 ⟨v1, rfl, hb1⟩
      have HB1 : Hid (BE 43 w w1 G v1 (pr3 A B C 0)) := hid (by rw [← HG.out]; exact hb1)
      clear hb1
      go_wp2_with fail
      clear c0 c1 c2
      go_loopg [6, 27] 3 (fun g nv jv wq => ∃ (j : Nat) (v : Value), v = nv ∧ j ≤ 3 ∧ g = 3 - j ∧ jv = .int .i64 j ∧ Hid (BE 43 w wq G v (pr3 A B C j)))
      case atStart => exact ⟨0, _, rfl, by omega, rfl, rfl, HB1⟩
      case round =>
        obtain ⟨j, v, hv, hj, hk2, rfl, HBI⟩ := hrel
        subst hv
        have e4 : j = 0 ∨ j = 1 ∨ j = 2 ∨ j = 3 := by omega
        have c0 := HC0.out wr HBI.out.below
        have c1 := HC1.out wr HBI.out.below
        have c2 := HC2.out wr HBI.out.below
        rcases e4 with rfl | rfl | rfl | rfl
        · have hPx := HPA.out wr HBI.out.below
          go_wp2_with (first
            | (refine wpList_bx_sl (d := (0, [])) rfl _ _ 23 43 und26 Tryz.info43 rfl (by decide) (by decide) encE_one rfl G _ _ rfl HBI.out aa ac A (by rw [HNA.out]; rfl) hPx (fun x _ => encE_len x) (by rw [p0, HNA.out]; have := HM2.out; have := HM.out; omega) ?_; intro v2 w2 hb2 hg2; have HB2 : Hid (BE 43 w w2 G v2 (pr3 A B C 1)) := hid (by have := hb2; simpa [pr3] using this); clear hb2 hg2)
            | fail)
          go_roundg 2
          case measure => omega
          case rel => exact ⟨1, _, rfl, by omega, rfl, rfl, HB2⟩
        · have hPx := HPB.out wr HBI.out.below
          go_wp2_with (first
            | (refine wpList_bx_sl (d := (0, [])) rfl _ _ 23 43 und26 Tryz.info43 rfl (by decide) (by decide) encE_one rfl G _ _ rfl HBI.out ba bc B (by rw [HNB.out]; rfl) hPx (fun x _ => encE_len x) (by rw [p1, HNB.out]; have := HM2.out; have := HM.out; omega) ?_; intro v2 w2 hb2 hg2; have HB2 : Hid (BE 43 w w2 G v2 (pr3 A B C 2)) := hid (by have := hb2; simpa [pr3] using this); clear hb2 hg2)
            | fail)
          go_roundg 1
          case measure => omega
          case rel => exact ⟨2, _, rfl, by omega, rfl, rfl, HB2⟩
        · have hPx := HPC.out wr HBI.out.below
          go_wp2_with (first
            | (refine wpList_bx_sl (d := (0, [])) rfl _ _ 23 43 und26 Tryz.info43 rfl (by decide) (by decide) encE_one rfl G _ _ rfl HBI.out ca cc C (by rw [HNC.out]; rfl) hPx (fun x _ => encE_len x) (by rw [p2, HNC.out]; have := HM2.out; have := HM.out; omega) ?_; intro v2 w2 hb2 hg2; have HB2 : Hid (BE 43 w w2 G v2 (pr3 A B C 3)) := hid (by have := hb2; simpa [pr3] using this); clear hb2 hg2)
            | fail)
          go_roundg 0
          case measure => omega
          case rel => exact ⟨3, _, rfl, by omega, rfl, rfl, HB2⟩
        · go_wp2
          go_ret
          exact ⟨_, rfl, HBI.out⟩
end Go.Proofs.YtmpjapcijjjlbaaGreatDoor
