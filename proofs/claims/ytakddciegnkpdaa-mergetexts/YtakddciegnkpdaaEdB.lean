/- 'all'. -/
import Derived.Test.YtakddciegnkpdaaEdA
namespace Go.Proofs.Ytakddciegnkpdaa
open Go.RowKit
set_option linter.unusedVariables false
set_option linter.unusedSimpArgs false
theorem made_two (a b : Value) : ∀ n : Nat, (madeCells #[a, b] (n * 2)).toList = (List.replicate n ()).flatMap (fun _ => [a, b])
  | 0 => by simp [madeCells]
  | n + 1 => by
    have ih := made_two a b n
    rw [List.replicate_succ', List.flatMap_append, ← ih]
    have e0 : (n * 2) % 2 = 0 := by omega
    have e1 : (n * 2 + 1) % 2 = 1 := by omega
    rw [show (n + 1) * 2 = n * 2 + 1 + 1 by omega]
    unfold madeCells
    rw [Array.range_succ, Array.range_succ, Array.map_append, Array.map_append, Array.toList_append, Array.toList_append]
    simp [e0, e1]
theorem madeE (n : Nat) : (madeCells #[.int .i64 0, .string ⟨#[]⟩] (n * 2)).toList = (List.replicate n ((0, []) : Ed)).flatMap encE := by
  rw [made_two]
  induction n with
  | zero => rfl
  | succ n ih => rw [List.replicate_succ, List.replicate_succ, List.flatMap_cons, List.flatMap_cons, ih]; rfl
theorem own_pair {w : World} {B K n : Nat} {e : TypeId} {xs : List Value} (h : w.ownsRow B e 2 (.slice (some ⟨K, 0, none⟩) n n) n xs) (i : Nat) (hi : i < n) (v : Value) : (∃ c, w.cell? ⟨K, i * 2, none⟩ = some c) ∧ w.frozen? ⟨K, i * 2, none⟩ = false ∧ (∃ c, (w.setCell ⟨K, i * 2, none⟩ v).cell? ⟨K, i * 2 + 1, none⟩ = some c) ∧ (w.setCell ⟨K, i * 2, none⟩ v).frozen? ⟨K, i * 2 + 1, none⟩ = false := by
  have h1 := h.stored (i * 2) v
  exact ⟨⟨_, by rw [h.cellAt _ (by omega), List.getElem?_eq_getElem (by rw [h.1]; omega)]⟩, h.frozenAt _, ⟨_, by rw [h1.1.cellAt _ (by omega), List.getElem?_eq_getElem (by rw [h1.1.1]; omega)]⟩, h1.1.frozenAt _⟩
theorem set_takeE (m T : List Ed) (n i : Nat) (hm : m.length = n) (hi : i < n) (h : m.take i = T.take i) (hT : T.length = n) : (m.set i (T.getD i (0, []))).take (i + 1) = T.take (i + 1) := by
  rw [List.take_add_one, List.take_add_one, List.take_set_of_le (Nat.le_refl _), h, List.getElem?_set, if_pos rfl, if_pos (by omega), List.getElem?_eq_getElem (by omega), List.getD_eq_getElem?_getD, List.getElem?_eq_getElem (by omega)]
  rfl
theorem mk_at (k : Nat) (L : List Str) (i : Nat) (hi : i < L.length) : (mk k L).getD i (0, []) = (k, L.getD i []) := by
  unfold mk
  rw [List.getD_eq_getElem?_getD, List.getElem?_map, List.getElem?_eq_getElem hi, List.getD_eq_getElem?_getD, List.getElem?_eq_getElem hi]
  rfl
/-- Edits of one's own, each of one kind. -/
def PostA (l : List Ed) (n : Nat) (w : World) (e : Ending) (w' : World) : Prop := e = .returned (.slice (some ⟨w.heap.size, 0, none⟩) n n) ∧ l.length = n ∧ BE 58 w w' w.heap.size (.slice (some ⟨w.heap.size, 0, none⟩) n n) l
set_option maxRecDepth 20000 in
set_option maxHeartbeats 2000000 in
theorem all_any {w : World} (k : Nat) (a : Option Addr) (ca : Nat) (A : List Str) (hA : PS w a ca A) (hAl : A.length ≤ 4000) : Calls Try.prog 33 #[.int .i64 (k : Int), .slice a A.length ca] w (PostA (mk k A) A.length w) := by
  obtain ⟨n, HN⟩ : ∃ n, Hid (A.length = n) := ⟨_, rfl⟩
  obtain ⟨G, HG⟩ : ∃ G, Hid (w.heap.size = G) := ⟨_, rfl⟩
  have hn4 : n ≤ 4000 := by rw [← HN.out]; exact hAl
  have HPA : Hid (∀ W, Below G w W → PS W a ca A) := fun W hW => hA.below (by rw [HG.out]; exact hW)
  have HFA : Hid (0 < n → ∃ b off, a = some ⟨b, off, none⟩) := fun h0 => by
    obtain ⟨b, off, e1, _⟩ := hA.at_ (by rw [HN.out]; exact h0)
    exact ⟨b, off, e1⟩
  obtain ⟨tg, HTG⟩ : ∃ tg, Hid (mk k A = tg) := ⟨_, rfl⟩
  have htl : tg.length = n := by rw [← HTG.out, mk_len, HN.out]
  obtain ⟨i43, hi43, hz0, hz1, hz2⟩ := info_parts Try.info58
  unfold PostA
  rw [HN.out, HTG.out, HG.out]
  clear hA hAl
  go_enter Try.func33, Try.ntmps33
  go_wp2_with (first
    | (at_make; refine wpList_make_full _ rfl _ _ 54 rfl G 58 i43 (.agg #[.int .i64 0, .string ⟨#[]⟩]) 2 und26 hi43 hz0 hz1 _ _ _ _ n rfl rfl ?c1 ?c2 ?c3 ?c4 ?c5 ?_)
    | fail)
  case c1 => rfl
  case c2 => rfl
  case c3 => rw [hz2]; omega
  case c4 => unfold maxLen; omega
  case c5 => rw [HG.out]; exact Nat.le_refl _
  intro w1 hown1 hgr1
  rw [HG.out] at hown1 ⊢
  have HBE1 : Hid (BE 58 w w1 G (.slice (some ⟨G, 0, none⟩) n n) (List.replicate n (0, []))) := hid ⟨by rw [← HG.out]; exact ⟨hgr1.os, hgr1.tape, hgr1.output, hgr1.size, fun k hk => hgr1.block k hk (by simp)⟩, by
    rw [madeE] at hown1
    rw [List.length_replicate]
    exact hown1, by rw [← HG.out]; exact hgr1.size⟩
  clear hown1 hgr1
  go_wp2_with fail
  go_loopg [13] n (fun gg iv wr => ∃ (i : Nat) (m : List Ed), iv = .int .i64 i ∧ gg = n - i ∧ i ≤ n ∧ m.length = n ∧ Hid (BE 58 w wr G (.slice (some ⟨G, 0, none⟩) n n) m) ∧ Hid (m.take i = tg.take i))
  case atStart => exact ⟨0, _, rfl, rfl, Nat.zero_le _, by simp, HBE1, hid (by simp)⟩
  case round =>
    obtain ⟨i, m, rfl, hk, hi, hml, HB, HTK⟩ := hrel
    by_cases hlt : i < n
    · have hlti : (i : Int) < (n : Int) := by omega
      obtain ⟨b, off, hae⟩ := HFA.out (by omega)
      subst hae
      obtain ⟨x, HX⟩ : ∃ x, Hid (A.getD i [] = x) := ⟨_, rfl⟩
      obtain ⟨T, HT⟩ : ∃ T, Hid ((⟨x.toArray⟩ : ByteArray) = T) := ⟨_, rfl⟩
      have hc0 : wr.cell? ⟨b, off + i, none⟩ = some (.string T) := by rw [← HT.out, ← HX.out]; exact PS.str (HPA.out _ HB.out.below) i (by rw [HN.out]; exact hlt)
      have hc1 : wr.cell? ⟨b, off + i * 1, none⟩ = some (.string T) := by rw [Nat.mul_one]; exact hc0
      have hown := HB.out.own
      rw [hml] at hown
      obtain ⟨⟨c0, hk0⟩, hf0, ⟨c1, hk1⟩, hf1⟩ := own_pair hown i hlt (.int .i64 (k : Int))
      have h5 := (HB.out.set hml (Nat.le_refl _) i (k, x) (by omega) (fun y _ => encE_len y) (encE_len _)).1
      have HB5 : Hid (BE 58 w ((wr.setCell ⟨G, i * 2, none⟩ (.int .i64 (k : Int))).setCell ⟨G, i * 2 + 1, none⟩ (.string T)) G (.slice (some ⟨G, 0, none⟩) n n) (m.set i (k, x))) := hid (by rw [← HT.out]; exact h5)
      have HT5 : Hid ((m.set i (k, x)).take (i + 1) = tg.take (i + 1)) := hid (by
        have e : tg.getD i (0, []) = (k, x) := by rw [← HTG.out, mk_at k A i (by rw [HN.out]; exact hlt), HX.out]
        rw [← e]
        exact set_takeE m tg n i hml hlt HTK.out htl)
      clear hown h5
      go_wp2
      go_roundg (n - (i + 1))
      case measure => omega
      case rel => exact ⟨i + 1, m.set i (k, x), by go_num, rfl, by omega, by rw [List.length_set]; exact hml, HB5, HT5⟩
    · have hlti : ¬ (i : Int) < (n : Int) := by omega
      have HMT : Hid (m = tg) := hid (by
        have := HTK.out
        rw [List.take_of_length_le (by omega), List.take_of_length_le (by omega)] at this
        exact this)
      go_wp2
      go_ret
      exact ⟨rfl, by rw [← HMT.out]; exact HB.out⟩
end Go.Proofs.Ytakddciegnkpdaa
