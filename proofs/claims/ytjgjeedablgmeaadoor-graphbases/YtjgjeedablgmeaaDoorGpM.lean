/- What bases are, plainly. -/
import Derived.Test.YtjgjeedablgmeaaDoorGtE
namespace Go.Proofs.YtjgjeedablgmeaaDoor
open Go.RowKit
set_option linter.unusedVariables false
set_option linter.unusedSimpArgs false
theorem Rch.one {l : List Nd} {x y z : List Int} (h : Rch l (· ∈ [x]) y) (k : Rch l (· ∈ [y]) z) : Rch l (· ∈ [x]) z := k.trans (fun u hu => by rw [List.mem_singleton.1 hu]; exact h)
theorem Rch.self (l : List Nd) (x : List Int) : Rch l (· ∈ [x]) x := Rch.of (by simp)
/-- The first step of a way. -/
theorem Rch.first {l : List Nd} {x y : List Int} (h : Rch l (· ∈ [x]) y) : y = x ∨ ∃ n ∈ l, n.id = x ∧ Rch l (· ∈ n.ps) y := by
  refine h (fun y => y = x ∨ ∃ n ∈ l, n.id = x ∧ Rch l (· ∈ n.ps) y) (fun z hz => .inl (List.mem_singleton.1 hz)) (fun u z hu he => ?_)
  rcases hu with rfl | ⟨n, hn, e, hr⟩
  · obtain ⟨n, hn, e1, e2⟩ := he
    exact .inr ⟨n, hn, e1, Rch.of e2⟩
  · exact .inr ⟨n, hn, e, hr.step he⟩
/-- What one of some reaches, one of them reaches. -/
theorem Rch.from {l : List Nd} {S : List Int → Prop} {y : List Int} (h : Rch l S y) : ∃ x, S x ∧ Rch l (· ∈ [x]) y :=
  h (fun y => ∃ x, S x ∧ Rch l (· ∈ [x]) y) (fun x hx => ⟨x, hx, Rch.self l x⟩) (fun u z ⟨x, hx, hr⟩ he => ⟨x, hx, hr.step he⟩)
def Bth (l : List Nd) (a b : List Int) (z : List Int) : Prop := Rch l (· ∈ [a]) z ∧ Rch l (· ∈ [b]) z
/-- No base is reached from another one that both reach. -/
theorem Tp.no {l : List Nd} {S : List Int → Prop} {q z : List Int} (hq : Tp l S q) (hz : S z) (hne : q ≠ z) : ¬ Rch l (· ∈ [z]) q := fun h => by
  rcases h.first with e | ⟨n, hn, e, hr⟩
  · exact hne e
  · exact hq.2 (hr.trans (fun p hp => Rch.of ⟨n, hn, by rw [e]; exact hz, hp⟩))
/-- What is in S is reached from one that no other one reaches. -/
theorem tp_top {l : List Nd} {S : List Int → Prop} (ha : Acy l) (hone : (ids l).Nodup) : ∀ (m : Nat) (y : Nd), y ∈ l → S y.id → l.countP (fun n => @decide (Rch l (· ∈ [n.id]) y.id) (Classical.propDecidable _)) ≤ m → ∃ q, Tp l S q ∧ Rch l (· ∈ [q]) y.id := by
  intro m
  induction m with
  | zero =>
    intro y hy hS hm
    have h1 : 0 < l.countP (fun n => @decide (Rch l (· ∈ [n.id]) y.id) (Classical.propDecidable _)) := List.countP_pos_iff.2 ⟨y, hy, @decide_eq_true _ (Classical.propDecidable _) (Rch.self l y.id)⟩
    omega
  | succ m ih =>
    intro y hy hS hm
    by_cases ht : Tp l S y.id
    · exact ⟨y.id, ht, Rch.self l _⟩
    · have hr : Rch l (fun p => ∃ x ∈ l, S x.id ∧ p ∈ x.ps) y.id := Classical.byContradiction (fun h => ht ⟨hS, h⟩)
      obtain ⟨p, ⟨x, hx, hSx, hp⟩, hpy⟩ := hr.from
      have hxy : Rch l (· ∈ [x.id]) y.id := ((Rch.self l x.id).step ⟨x, hx, rfl, hp⟩).one hpy
      obtain ⟨q, h1, h2⟩ := ih x hx hSx (by
        have hlt : l.countP (fun n => @decide (Rch l (· ∈ [n.id]) x.id) (Classical.propDecidable _)) < l.countP (fun n => @decide (Rch l (· ∈ [n.id]) y.id) (Classical.propDecidable _)) := by
          refine countP_lt _ _ l (fun n hn h1 => ?_) y hy ?_ ?_
          · exact @decide_eq_true _ (Classical.propDecidable _) ((@of_decide_eq_true _ (Classical.propDecidable _) h1).one hxy)
          · exact @decide_eq_true _ (Classical.propDecidable _) (Rch.self l y.id)
          · refine @decide_eq_false _ (Classical.propDecidable _) (fun h => ha x hx ?_)
            have : Rch l (· ∈ x.ps) y.id := hpy.trans (fun u hu => by rw [List.mem_singleton.1 hu]; exact Rch.of hp)
            exact h.trans (fun u hu => by rw [List.mem_singleton.1 hu]; exact this)
        omega)
      exact ⟨q, h1, h2.one hxy⟩
/-- All that the law asks of bases. -/
theorem bth_iff {l : List Nd} {a b : List Int} {xs : List (List Int)} (hok : OkG l) (hx : Lst' (Tp l (Bth l a b)) xs) (hin : ∀ z, Bth l a b z → z ∈ ids l) (hw : ∀ n ∈ l, IdW n.id) (y : Nd) (hy : y ∈ l) : Bth l a b y.id ↔ ∃ q ∈ xs, Rch l (· ∈ [q]) y.id := by
  constructor
  · intro h
    obtain ⟨q, h1, h2⟩ := tp_top hok.acy hok.one _ y hy h (Nat.le_refl _)
    have hqi : IdW q := by
      obtain ⟨n, hn, e⟩ := List.mem_map.1 (hin q h1.1)
      rw [← show n.id = q from e]; exact hw n hn
    exact ⟨q, (hx.all q hqi).2 h1, h2⟩
  · rintro ⟨q, hq, hr⟩
    have h1 := (hx.all q (hx.idw q hq)).1 hq
    exact ⟨h1.1.1.one hr, h1.1.2.one hr⟩
theorem Bth.comm {l : List Nd} {a b z : List Int} : Bth l a b z ↔ Bth l b a z := And.comm
theorem tp_congr {l : List Nd} {S T : List Int → Prop} (h : ∀ z, S z ↔ T z) (y : List Int) : Tp l S y ↔ Tp l T y := by
  unfold Tp
  rw [h y, show (fun p => ∃ x ∈ l, S x.id ∧ p ∈ x.ps) = (fun p => ∃ x ∈ l, T x.id ∧ p ∈ x.ps) from funext (fun p => propext ⟨fun ⟨x, h1, h2, h3⟩ => ⟨x, h1, (h _).1 h2, h3⟩, fun ⟨x, h1, h2, h3⟩ => ⟨x, h1, (h _).2 h2, h3⟩⟩)]
theorem bytesOf_inj2 {x y : List Int} (hx : IdW x) (hy : IdW y) (h1 : ¬ Lib.bytesOf x < Lib.bytesOf y) (h2 : ¬ Lib.bytesOf y < Lib.bytesOf x) : x = y := bytesOf_inj hx hy (List.le_antisymm (List.not_lt.1 h2) (List.not_lt.1 h1))
/-- Two rising lists of the same ids are one. -/
theorem sorted_one : ∀ (xs ys : List (List Int)), xs.Perm ys → (∀ z ∈ xs, IdW z) → xs.Pairwise (fun x y => ¬ Lib.bytesOf y < Lib.bytesOf x) → ys.Pairwise (fun x y => ¬ Lib.bytesOf y < Lib.bytesOf x) → xs = ys
  | [], ys, hp, _, _, _ => by rw [List.nil_perm.1 hp]
  | x :: xs, [], hp, _, _, _ => by have := hp.length_eq; simp at this
  | x :: xs, y :: ys, hp, hw, h1, h2 => by
    have p1 := List.pairwise_cons.1 h1
    have p2 := List.pairwise_cons.1 h2
    have hxy : x = y := by
      have hx : x ∈ y :: ys := hp.mem_iff.1 (by simp)
      have hy : y ∈ x :: xs := hp.mem_iff.2 (by simp)
      have wx := hw x (by simp)
      have wy := hw y hy
      rcases List.mem_cons.1 hx with e | hx
      · exact e
      · rcases List.mem_cons.1 hy with e | hy
        · exact e.symm
        · exact bytesOf_inj2 wx wy (p2.1 x hx) (p1.1 y hy)
    subst hxy
    rw [sorted_one xs ys ((List.perm_cons x).1 hp) (fun z hz => hw z (by simp [hz])) p1.2 p2.2]
theorem lst_one {S T : List Int → Prop} {xs ys : List (List Int)} (he : ∀ z, S z ↔ T z) (hx : Lst' S xs) (hy : Lst' T ys) (h1 : xs.Pairwise (fun x y => ¬ Lib.bytesOf y < Lib.bytesOf x)) (h2 : ys.Pairwise (fun x y => ¬ Lib.bytesOf y < Lib.bytesOf x)) : xs = ys := by
  refine sorted_one xs ys ?_ hx.idw h1 h2
  refine (List.perm_ext_iff_of_nodup hx.one hy.one).2 (fun z => ?_)
  constructor
  · intro hz; exact (hy.all z (hx.idw z hz)).2 ((he z).1 ((hx.all z (hx.idw z hz)).1 hz))
  · intro hz; exact (hx.all z (hy.idw z hz)).2 ((he z).2 ((hy.all z (hy.idw z hz)).1 hz))
end Go.Proofs.YtjgjeedablgmeaaDoor
