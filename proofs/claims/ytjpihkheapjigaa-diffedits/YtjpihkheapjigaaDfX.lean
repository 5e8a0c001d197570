/- 'numbering.text'. -/
import Derived.Test.YtjpihkheapjigaaDfG
namespace Go.Proofs.Ytjpihkheapjigaa
open Go.RowKit Go.Shelf
set_option linter.unusedVariables false
set_option linter.unusedSimpArgs false
theorem Fr.out' {g R : Nat} {a b : World} (hR : a.heap.size = R) (h : Fr R g a b) : a.grownBy b (some g) := by
  subst hR
  exact h.out
/-- Lines with their numbers. -/
def kns (f : Str → Option Int) (L : List Str) : List Kn := L.map (fun x => ((f x).getD 0, x.length))
/-- The lines are sorted. -/
def PostQ (K n : Nat) (m : List Kn) (w : World) (e : Ending) (w' : World) : Prop := e = .returned (.tuple #[]) ∧ ∃ xs : List Kn, xs.length = n ∧ w.grownBy w' (some K) ∧ xs.Perm m ∧ xs.Pairwise (fun x y => x.1 ≤ y.1) ∧ PK w' (some ⟨K, 0, none⟩) n xs
theorem sortK_any {w : World} {B K n : Nat} {m : List Kn} (hn : m.length = n) (hn4 : n ≤ 4000) (h : w.ownsRow B 61 2 (.slice (some ⟨K, 0, none⟩) n n) n (fK m)) :
    Calls Try.prog 29 #[.slice (some ⟨K, 0, none⟩) n n, .func (.func 30) #[] #[]] w (PostQ K n m w) := by
  by_cases h0 : n = 0
  · have hm : m = [] := List.length_eq_zero_iff.1 (by omega)
    subst h0
    refine (sort_none (some ⟨K, 0, none⟩) 0 _ w).mono ?_
    rintro e w' ⟨rfl, rfl⟩
    refine ⟨rfl, [], rfl, ⟨rfl, rfl, rfl, Nat.le_refl _, fun _ _ _ => rfl⟩, by rw [hm], List.Pairwise.nil, ⟨Nat.zero_le _, fun h => absurd h (by simp), fun h => by cases h⟩⟩
  · have hsz : m.toArray.size = n := by rw [List.size_toArray, hn]
    have := sort_any K 0 n m.toArray w (holds_own hn h) (h.lt K rfl).2 (by rw [hsz]; omega)
    rw [hsz] at this
    refine this.mono ?_
    rintro e w' ⟨rfl, d', q, os, hp, hs, rfl⟩
    rw [← hsz] at hp hs
    obtain ⟨q1, q2, q3⟩ := sorted_post hn h d' q os hp hs
    exact ⟨rfl, d'.toList, by rw [q1.length_eq, hn], sortW_grown w K q d' os, q1, q2, q3⟩
theorem own_there {w : World} {B K n : Nat} {m : List Kn} (h : w.ownsRow B 61 2 (.slice (some ⟨K, 0, none⟩) n n) n (fK m)) (i : Nat) (hi : i < n) : w.there K (i * 2) 2 := by
  intro j hj
  have hlt : i * 2 + j < n * 2 := by omega
  refine ⟨?_, h.frozenAt _⟩
  rw [h.cellAt _ hlt, List.getElem?_eq_getElem (by rw [h.1]; exact hlt)]
  rfl
theorem own_two {w : World} {B K n : Nat} {m : List Kn} (h : w.ownsRow B 61 2 (.slice (some ⟨K, 0, none⟩) n n) n (fK m)) (i : Nat) (hi : i < n) (v : Value) : (∃ c, w.cell? ⟨K, i * 2, none⟩ = some c) ∧ w.frozen? ⟨K, i * 2, none⟩ = false ∧ (∃ c, (w.setCell ⟨K, i * 2, none⟩ v).cell? ⟨K, i * 2 + 1, none⟩ = some c) ∧ (w.setCell ⟨K, i * 2, none⟩ v).frozen? ⟨K, i * 2 + 1, none⟩ = false := by
  have h1 := h.stored (i * 2) v
  exact ⟨⟨_, by rw [h.cellAt _ (by omega), List.getElem?_eq_getElem (by rw [h.1]; omega)]⟩, h.frozenAt _, ⟨_, by rw [h1.1.cellAt _ (by omega), List.getElem?_eq_getElem (by rw [h1.1.1]; omega)]⟩, h1.1.frozenAt _⟩
theorem two_cells {w : World} {R : Nat} {a b : Value} {t : TypeId} (h : w.heap[R]? = some (.cells #[a, b] t (0, 0))) (x y : Value) : w.cell? ⟨R, 0, none⟩ = some a ∧ w.frozen? ⟨R, 0, none⟩ = false ∧ (w.setCell ⟨R, 0, none⟩ x).cell? ⟨R, 1, none⟩ = some b ∧ (w.setCell ⟨R, 0, none⟩ x).frozen? ⟨R, 1, none⟩ = false ∧ ((w.setCell ⟨R, 0, none⟩ x).setCell ⟨R, 1, none⟩ y).cell? ⟨R, 0, none⟩ = some x ∧ ((w.setCell ⟨R, 0, none⟩ x).setCell ⟨R, 1, none⟩ y).cell? ⟨R, 1, none⟩ = some y := by
  have h1 : (w.setCell ⟨R, 0, none⟩ x).heap[R]? = some (.cells #[x, b] t (0, 0)) := heap_setCell_same w R 0 #[a, b] t x h
  have h2 : ((w.setCell ⟨R, 0, none⟩ x).setCell ⟨R, 1, none⟩ y).heap[R]? = some (.cells #[x, y] t (0, 0)) := heap_setCell_same _ R 1 #[x, b] t y h1
  refine ⟨?_, frozen_of_row _ R 0 _ _ h, ?_, frozen_of_row _ R 1 _ _ h1, ?_, ?_⟩
  · rw [cell_of_row _ R 0 _ _ _ h]; rfl
  · rw [cell_of_row _ R 1 _ _ _ h1]; rfl
  · rw [cell_of_row _ R 0 _ _ _ h2]; rfl
  · rw [cell_of_row _ R 1 _ _ _ h2]; rfl
theorem own_setK {w : World} {B K n : Nat} {m : List Kn} (hm : m.length = n) (h : w.ownsRow B 61 2 (.slice (some ⟨K, 0, none⟩) n n) n (fK m)) (i : Nat) (hi : i < n) (x : Kn) : (w.setCells K (i * 2) (encK x)).ownsRow B 61 2 (.slice (some ⟨K, 0, none⟩) n n) n (fK (m.set i x)) ∧ w.grownBy (w.setCells K (i * 2) (encK x)) (some K) := by
  have h1 := owns_set (encK x) (i * 2) w _ h
  rw [show setAt (fK m) (i * 2) (encK x) = fK (m.set i x) from set_flat m i x (by omega) (fun y _ => encK_len y) (encK_len x)] at h1
  exact h1
theorem set_take (m T : List Kn) (n i : Nat) (hm : m.length = n) (hi : i < n) (h : m.take i = T.take i) (hT : T.length = n) : (m.set i (T.getD i (0, 0))).take (i + 1) = T.take (i + 1) := by
  rw [List.take_add_one, List.take_add_one, List.take_set_of_le (Nat.le_refl _), h, List.getElem?_set, if_pos rfl, if_pos (by omega), List.getElem?_eq_getElem (by omega), List.getD_eq_getElem?_getD, List.getElem?_eq_getElem (by omega)]
  rfl
theorem kns_at (f : Str → Option Int) (L : List Str) (i : Nat) (hi : i < L.length) : (kns f L).getD i (0, 0) = ((f (L.getD i [])).getD 0, (L.getD i []).length) := by
  unfold kns
  rw [List.getD_eq_getElem?_getD, List.getElem?_map, List.getElem?_eq_getElem hi, List.getD_eq_getElem?_getD, List.getElem?_eq_getElem hi]
  rfl
/-- A text that is to be compared. -/
def PostT (b : Str) (n g nn : Nat) (f : Str → Option Int) (w : World) (e : Ending) (w' : World) : Prop :=
  ∃ (f' : Str → Option Int) (s' nn' K q : Nat) (xs : List Kn), e = .returned (.agg #[.slice (some ⟨K, 0, none⟩) q q, .int .i64 (n : Int)]) ∧ xs.length = q ∧ w.grownBy w' (some g) ∧ MS w' g nn' f' s' ∧ nn' ≤ nn + 4000 ∧ Nb f' s' ∧ Ext f f' ∧ PK w' (some ⟨K, 0, none⟩) q xs ∧ w.heap.size ≤ K ∧ xs.Pairwise (fun x y => x.1 ≤ y.1) ∧ xs.Perm (kns f' (lns b)) ∧ ∀ x ∈ lns b, (f' x).isSome = true
set_option maxRecDepth 20000 in
set_option maxHeartbeats 4000000 in
theorem text_any {w : World} (g nn s : Nat) (f : Str → Option Int) (hM : MS w g nn f s) (hN : Nb f s) (hnn : nn ≤ 10000) (a : Option Addr) (cap : Nat) (t : Str) (hP : PB w a cap t) (hn : t.length ≤ 4000) :
    Calls Try.prog 19 #[.map (some g), .slice a t.length cap] w (PostT t t.length g nn f w) := by
  obtain ⟨nt, HNT⟩ : ∃ n, Hid (t.length = n) := ⟨_, rfl⟩
  obtain ⟨L, HL⟩ : ∃ L, Hid (lns t = L) := ⟨_, rfl⟩
  obtain ⟨n, HN⟩ : ∃ n, Hid (L.length = n) := ⟨_, rfl⟩
  have hnt4 : nt ≤ 4000 := by rw [← HNT.out]; exact hn
  have hn4 : n ≤ 4000 := by have := lns_few t; rw [HL.out, HN.out] at this; omega
  have HLS : Hid (∀ x ∈ L, x.length ≤ 4000) := fun x hx => by have := lns_short t x (by rw [HL.out]; exact hx); omega
  obtain ⟨R, HR⟩ : ∃ R, Hid (w.heap.size = R) := ⟨_, rfl⟩
  have hgR : g < R := by rw [← HR.out]; exact hM.lt
  have HMS : Hid (MS w g nn f s) := hM
  have HNB : Hid (Nb f s) := hN
  obtain ⟨w0, HW0⟩ : ∃ u, Hid (w.alloc (.cells #[.slice none 0 0, .int .i64 0] 49) = u) := ⟨_, rfl⟩
  have hb0 : Below w.heap.size w w0 := by rw [← HW0.out]; exact (Below.refl _ w).alloc (Nat.le_refl _) _
  have hs0 : w0.heap.size = R + 1 := by rw [← HW0.out, ← HR.out]; simp
  have HS0 : Hid (w0.heap.size = R + 1) := hs0
  have HR0 : Hid (w0.heap[R]? = some (.cells #[.slice none 0 0, .int .i64 0] 49 (0, 0))) := hid (by rw [← HW0.out, ← HR.out]; exact heap_alloc_new w _)
  have HF0 : Hid (Fr R g w w0) := hid (Fr.below (g := g) hb0 (by rw [HR.out]; exact Nat.le_refl _))
  have C6 : Hid (Calls Try.prog 6 #[.slice a nt cap] w0 (PostS L w0)) := hid (by rw [← HNT.out, ← HL.out]; exact lines_any a cap t (hP.below hb0) hn)
  have HM0 : Hid (MS w0 g nn f s) := hid (hM.below hb0)
  obtain ⟨i61, hi61, hz0, hz1, hz2⟩ := info_parts Try.info61
  rw [HNT.out]
  clear hP hM hN hn hb0 hs0 HMS
  go_enter Try.func19, Try.ntmps19
  go_wp2_with fail
  rw [HW0.out, HR.out]
  refine C6.out.mono ?_
  rintro e w1 ⟨v, rfl, hbs⟩
  obtain ⟨la, lc, rfl, hps, hla, _⟩ := hbs.px (d := []) (fun x _ => encS_len x)
  rw [HN.out]
  have HPS : Hid (PS w1 la lc L) := hps
  have HLA : Hid (∀ p : Addr, la = some p → R + 1 ≤ p.block ∧ p.block < w1.heap.size) := hid (by rw [← HS0.out]; exact hla)
  have HPF : Hid (0 < n → ∃ b off, la = some ⟨b, off, none⟩) := fun h0 => by
    obtain ⟨b, off, e1, _⟩ := hps.at_ (by rw [HN.out]; exact h0)
    exact ⟨b, off, e1⟩
  have hb1 : Below w0.heap.size w0 w1 := hbs.below
  have HF1 : Hid (Fr R g w0 w1) := hid (Fr.below (g := g) hb1 (by rw [HS0.out]; omega))
  have HR1 : Hid (w1.heap[R]? = some (.cells #[.slice none 0 0, .int .i64 0] 49 (0, 0))) := hid ((hb1.block R (by rw [HS0.out]; omega)).trans HR0.out)
  have HM1 : Hid (MS w1 g nn f s) := hid (HM0.out.below hb1)
  have hs1 : R + 1 ≤ w1.heap.size := by rw [← HS0.out]; exact hb1.size
  clear hbs hps hla hb1 HR0 HM0
  obtain ⟨K, HK⟩ : ∃ K, Hid (w1.heap.size = K) := ⟨_, rfl⟩
  go_wp2_with (first
    | (at_make; refine wpList_make_full _ rfl _ _ 47 rfl R 61 i61 (.agg #[.int .i64 0, .int .i64 0]) 2 und47 hi61 hz0 hz1 _ _ _ _ n rfl rfl ?c1 ?c2 ?c3 ?c4 ?c5 ?_)
    | fail)
  case c1 => rfl
  case c2 => rfl
  case c3 => rw [hz2]; omega
  case c4 => unfold maxLen; omega
  case c5 => omega
  intro w2 hown2 hgr2
  rw [HK.out] at hown2 hs1 ⊢
  have HO2 : Hid (w2.ownsRow R 61 2 (.slice (some ⟨K, 0, none⟩) n n) n (fK (List.replicate n (0, 0)))) := hid (by
    have := hown2
    rw [made2] at this
    exact this)
  have hs2 := hgr2.size
  rw [HK.out] at hs2
  have HF2 : Hid (Fr R g w1 w2) := hid (Fr.grown hgr2 (by rw [HK.out]; omega) (fun k hk => by cases hk))
  have HR2 : Hid (w2.heap[R]? = some (.cells #[.slice none 0 0, .int .i64 0] 49 (0, 0))) := hid ((hgr2.block R (by rw [HK.out]; omega) (by simp)).trans HR1.out)
  have hPS2 : PS w2 la lc L := HPS.out.grown (K := w2.heap.size) (fun p hp => by have := (HLA.out p hp).2; rw [HK.out] at this; omega) ⟨hgr2.os, hgr2.tape, hgr2.output, hgr2.size, fun k hk _ => hgr2.block k hk (by simp)⟩
  have HPS2 : Hid (PS w2 la lc L) := hPS2
  have HLG : Hid (∀ p : Addr, la = some p → p.block ≠ g ∧ p.block ≠ K) := fun p hp => by have := HLA.out p hp; rw [HK.out] at this; omega
  have hM2 : MS w2 g nn f s := HM1.out.kept hgr2 (by simp)
  obtain ⟨I, HI⟩ : ∃ I, Hid (w2.heap.size = I) := ⟨_, rfl⟩
  have hKI : K < I := by rw [← HI.out]; exact (HO2.out.lt K rfl).2
  have C28 : Hid (Calls Try.prog 28 #[.map (some g), .slice la n lc] w2 (PostN L n I g nn f w2)) := hid (by
    have := numLines_any g nn s f hM2 HNB.out (by omega) la lc L hPS2 (fun p hp => (HLG.out p hp).1) (by rw [HN.out]; exact hn4) HLS.out
    rw [HN.out, HI.out] at this
    exact this)
  clear hown2 hgr2 hPS2 hM2 HR1 HM1 HPS
  go_wp2_with fail
  refine C28.out.mono ?_
  rintro e w3 ⟨f', s', nn', ks, rfl, hik, hms, hnn', hnb, hext, hat⟩
  have HIK : Hid (Ik I n g w2 w3 ks) := hik
  have HM3 : Hid (MS w3 g nn' f' s') := hms
  have HNB3 : Hid (Nb f' s') := hnb
  have HEX : Hid (Ext f f') := hext
  have HAT : Hid (∀ j, j < n → f' (L.getD j []) = some (ks.getD j 0)) := hat
  have HF3 : Hid (Fr R g w2 w3) := hid (Fr.grown hik.grown (by rw [HI.out]; omega) (fun k hk => by cases hk; exact .inl rfl))
  have HR3 : Hid (w3.heap[R]? = some (.cells #[.slice none 0 0, .int .i64 0] 49 (0, 0))) := hid ((hik.grown.block R (by rw [HI.out]; omega) (by simp; omega)).trans HR2.out)
  have HPS3 : Hid (PS w3 la lc L) := hid (HPS2.out.grown (fun p hp => (HLG.out p hp).1) hik.grown)
  have HO3 : Hid (w3.ownsRow R 61 2 (.slice (some ⟨K, 0, none⟩) n n) n (fK (List.replicate n (0, 0)))) := hid (HO2.out.kept hik.grown (.inr (by simp [Value.ownBlock]; omega)))
  have hI3 : I < w3.heap.size := hik.lt
  obtain ⟨tg, HTG⟩ : ∃ tg, Hid (kns f' L = tg) := ⟨_, rfl⟩
  have htl : tg.length = n := by rw [← HTG.out]; unfold kns; rw [List.length_map, HN.out]
  clear hik hms hnb hext hat HO2 HR2 HPS2
  go_wp2_with fail
  go_loopg [18] n (fun gg iv wr => ∃ (i : Nat) (m : List Kn), iv = .int .i64 i ∧ gg = n - i ∧ i ≤ n ∧ m.length = n ∧ Hid (wr.ownsRow R 61 2 (.slice (some ⟨K, 0, none⟩) n n) n (fK m)) ∧ Hid (w3.grownBy wr (some K)) ∧ Hid (m.take i = tg.take i))
  case atStart => exact ⟨0, _, rfl, rfl, Nat.zero_le _, by simp, HO3, hid ⟨rfl, rfl, rfl, Nat.le_refl _, fun _ _ _ => rfl⟩, hid (by simp)⟩
  case round =>
    obtain ⟨i, m, rfl, hk, hi, hml, HO, HGR, HTK⟩ := hrel
    by_cases hlt : i < n
    · have hlti : (i : Int) < (n : Int) := by omega
      obtain ⟨b, off, hae⟩ := HPF.out (by omega)
      subst hae
      obtain ⟨x, HX⟩ : ∃ x, Hid (L.getD i [] = x) := ⟨_, rfl⟩
      obtain ⟨T, HT⟩ : ∃ T, Hid (sV x = T) := ⟨_, rfl⟩
      obtain ⟨q, HQ⟩ : ∃ q : Nat, Hid (x.length = q) := ⟨_, rfl⟩
      obtain ⟨kv, HKV⟩ : ∃ kv, Hid (ks.getD i 0 = kv) := ⟨_, rfl⟩
      have hc0 : wr.cell? ⟨b, off + i, none⟩ = some T := by rw [← HT.out, ← HX.out]; exact PS.cell (HPS3.out.grown (fun p hp => (HLG.out p hp).2) HGR.out) i (by rw [HN.out]; exact hlt)
      have hc1 : wr.cell? ⟨b, off + i * 1, none⟩ = some T := by rw [Nat.mul_one]; exact hc0
      have hcI : wr.cell? ⟨I, i, none⟩ = some (.int .i64 kv) := by
        rw [← HKV.out, ← (HIK.out.cell i hlt).1]
        exact World.cell?_of_block (a := ⟨I, i, none⟩) (HGR.out.block I hI3 (by simp; omega))
      have hln : ∀ (ty : TypeId) (w : World), (Builtin.len_ #[9] ty #[T]).run Try.prog w = .ok (.int .i64 (q : Int)) w := fun ty w => by rw [← HT.out, ← HQ.out]; exact len_sV x ty w
      obtain ⟨hk0, hf0, hk1, hf1⟩ := own_two HO.out i hlt (.int .i64 kv)
      obtain ⟨hO5, hG5⟩ := own_setK hml HO.out i hlt (kv, q)
      have HO5 : Hid ((wr.setCells K (i * 2) (encK (kv, q))).ownsRow R 61 2 (.slice (some ⟨K, 0, none⟩) n n) n (fK (m.set i (kv, q)))) := hO5
      have HG5 : Hid (w3.grownBy (wr.setCells K (i * 2) (encK (kv, q))) (some K)) := hid (HGR.out.trans hG5)
      have HT5 : Hid ((m.set i (kv, q)).take (i + 1) = tg.take (i + 1)) := hid (by
        have e : tg.getD i (0, 0) = (kv, q) := by
          rw [← HTG.out, kns_at f' L i (by rw [HN.out]; exact hlt), HAT.out i hlt, HX.out, HQ.out, HKV.out]; rfl
        rw [← e]
        exact set_take m tg n i hml hlt HTK.out htl)
      clear hO5 hG5
      obtain ⟨c0, hk0⟩ := hk0
      obtain ⟨c1, hk1⟩ := hk1
      go_wp2
      go_roundg (n - (i + 1))
      case measure => omega
      case rel => exact ⟨i + 1, m.set i (kv, q), by go_num, rfl, by omega, by rw [List.length_set]; exact hml, HO5, HG5, HT5⟩
    · have hlti : ¬ (i : Int) < (n : Int) := by omega
      have HMT : Hid (m = tg) := hid (by
        have := HTK.out
        rw [List.take_of_length_le (by omega), List.take_of_length_le (by omega)] at this
        exact this)
      have C29 : Hid (Calls Try.prog 29 #[.slice (some ⟨K, 0, none⟩) n n, .func (.func 30) #[] #[]] wr (PostQ K n m wr)) := hid (sortK_any hml hn4 HO.out)
      go_wp2_with fail
      refine C29.out.mono ?_
      rintro e w5 ⟨rfl, xs, hxl, hg5, hp5, hpw, hpk⟩
      have hwrs : w3.heap.size ≤ wr.heap.size := HGR.out.size
      have hR5 : w5.heap[R]? = some (.cells #[.slice none 0 0, .int .i64 0] 49 (0, 0)) := by
        rw [hg5.block R (by omega) (by simp; omega), HGR.out.block R (by omega) (by simp; omega)]
        exact HR3.out
      have HM5 : Hid (MS w5 g nn' f' s') := hid ((HM3.out.kept HGR.out (by simp; omega)).kept hg5 (by simp; omega))
      have HF5 : Hid (Fr R g w w5) := hid (HF0.out.trans (HF1.out.trans (HF2.out.trans (HF3.out.trans ((Fr.grown HGR.out (by omega) (fun k hk => by cases hk; exact .inr (by omega))).trans (Fr.grown hg5 (by omega) (fun k hk => by cases hk; exact .inr (by omega))))))))
      obtain ⟨k0, f0, k1, f1, k2, k3⟩ := two_cells hR5 (.slice (some ⟨K, 0, none⟩) n n) (.int .i64 (nt : Int))
      have HPK : Hid (PK w5 (some ⟨K, 0, none⟩) n xs) := hpk
      have HPW : Hid (xs.Pairwise (fun x y => x.1 ≤ y.1)) := hpw
      have HPP : Hid (xs.Perm (kns f' L)) := hid (by rw [HTG.out, ← HMT.out]; exact hp5)
      have HXL : Hid (xs.length = n) := hxl
      have HSM : Hid (∀ x ∈ L, (f' x).isSome = true) := fun x hx => by
        obtain ⟨j, hj, e⟩ := List.getElem_of_mem hx
        have := HAT.out j (by rw [← HN.out]; exact hj)
        rw [List.getD_eq_getElem?_getD, List.getElem?_eq_getElem hj] at this
        rw [← e]
        simp only [Option.getD_some] at this
        rw [this]; rfl
      have hw5 := hg5.size
      have hsx : w5.grownBy ((w5.setCell ⟨R, 0, none⟩ (.slice (some ⟨K, 0, none⟩) n n)).setCell ⟨R, 1, none⟩ (.int .i64 (nt : Int))) (some R) := ⟨rfl, rfl, rfl, by simp [World.setCell], fun k hk hn => (Below.heap_setCell _ _ _ k (fun e => hn (by rw [e]))).trans (Below.heap_setCell _ _ _ k (fun e => hn (by rw [e])))⟩
      have HM6 : Hid (MS ((w5.setCell ⟨R, 0, none⟩ (.slice (some ⟨K, 0, none⟩) n n)).setCell ⟨R, 1, none⟩ (.int .i64 (nt : Int))) g nn' f' s') := hid (HM5.out.kept hsx (by simp; omega))
      have HF6 : Hid (Fr R g w ((w5.setCell ⟨R, 0, none⟩ (.slice (some ⟨K, 0, none⟩) n n)).setCell ⟨R, 1, none⟩ (.int .i64 (nt : Int)))) := hid (HF5.out.trans (Fr.grown hsx (by omega) (fun k hk => by cases hk; exact .inr (Nat.le_refl _))))
      have HPK6 : Hid (PK ((w5.setCell ⟨R, 0, none⟩ (.slice (some ⟨K, 0, none⟩) n n)).setCell ⟨R, 1, none⟩ (.int .i64 (nt : Int))) (some ⟨K, 0, none⟩) n xs) := hid (hpk.grown (K := R) (fun p hp => by cases hp; show K ≠ R; omega) hsx)
      clear hg5 hp5 hpw hpk hxl hR5 hsx
      have RG : Hid (((w5.setCell ⟨R, 0, none⟩ (.slice (some ⟨K, 0, none⟩) n n)).setCell ⟨R, 1, none⟩ (.int .i64 (nt : Int))).rangeAt R 0 [.slice (some ⟨K, 0, none⟩) n n, .int .i64 (nt : Int)]) := fun j v hv => by
        match j, hv with
        | 0, hv => cases hv; exact k2
        | 1, hv => cases hv; exact k3
      go_wp2
      refine bodyPost_ret (v := .agg #[.slice (some ⟨K, 0, none⟩) n n, .int .i64 (nt : Int)]) (results_mid Try.results19 _ _ R [.slice (some ⟨K, 0, none⟩) n n, .int .i64 (nt : Int)] _ rfl RG.out Try.underlying49 rfl Try.size49) rfl ?_
      exact ⟨f', s', nn', K, n, xs, rfl, HXL.out, Fr.out' HR.out HF6.out, HM6.out, by omega, HNB3.out, HEX.out, HPK6.out, by rw [HR.out]; omega, HPW.out, by rw [HL.out]; exact HPP.out, by rw [HL.out]; exact HSM.out⟩
end Go.Proofs.Ytjpihkheapjigaa
