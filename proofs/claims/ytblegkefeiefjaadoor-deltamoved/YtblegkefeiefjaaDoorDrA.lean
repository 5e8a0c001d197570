/- The law 'DeltaRound': what its walk wants. -/
import Derived.Test.YtblegkefeiefjaaDoorLaw
import Derived.Test.YtblegkefeiefjaaDoorMkA
namespace Go.Proofs.YtblegkefeiefjaaDoor
open Go.RowKit Plain
set_option linter.unusedVariables false
set_option linter.unusedSimpArgs false
theorem IsB.append {a b : List Int} (h : IsB a) (k : IsB b) : IsB (a ++ b) := fun x hx => by
  rcases List.mem_append.1 hx with g | g
  · exact h x g
  · exact k x g
theorem IsB.cons {x : Int} {b : List Int} (h : 0 ≤ x ∧ x ≤ 255) (k : IsB b) : IsB (x :: b) := fun y hy => by
  rcases List.mem_cons.1 hy with rfl | g
  · exact h
  · exact k y g
theorem IsB.nil : IsB [] := fun x hx => by cases hx
theorem IsB.drop {b : List Int} (h : IsB b) (n : Nat) : IsB (b.drop n) := fun x hx => h x (List.mem_of_mem_drop hx)
theorem IsB.take {b : List Int} (h : IsB b) (n : Nat) : IsB (b.take n) := fun x hx => h x (List.mem_of_mem_take hx)
theorem wsz_isB : ∀ (f n : Nat), n < 2 ^ (7 * f + 7) → IsB (wsz f n)
  | 0, n, h => IsB.cons (by omega) IsB.nil
  | f + 1, n, h => by
    rw [wsz]
    split
    · exact IsB.cons (by omega) IsB.nil
    · have : n / 128 < 2 ^ (7 * f + 7) := by
        rw [Nat.div_lt_iff_lt_mul (by omega)]
        rw [show 7 * (f + 1) + 7 = (7 * f + 7) + 7 by omega, Nat.pow_add] at h
        exact h
      exact IsB.cons (by omega) (wsz_isB f (n / 128) this)
theorem szw_isB {n : Nat} (h : n ≤ 100000) : IsB (szw n) := wsz_isB 5 n (by omega)
theorem ownS_isB : ∀ (f : Nat) (l : List Int), IsB l → IsB (ownS f l)
  | 0, l, h => IsB.nil
  | f + 1, l, h => by
    rw [ownS]
    split
    · exact IsB.nil
    · exact IsB.append (IsB.cons (by omega) (h.take _)) (ownS_isB f _ (h.drop _))
theorem own_isB {l : List Int} (h : IsB l) : IsB (own l) := ownS_isB _ _ h
theorem byl_isB (place : Nat) : ∀ i, IsB (byl place i)
  | 0 => IsB.nil
  | i + 1 => by
    rw [byl]
    refine IsB.append (byl_isB place i) ?_
    split
    · exact IsB.nil
    · have : byt place i < 256 := Nat.mod_lt _ (by omega)
      exact IsB.cons (by omega) IsB.nil
theorem cpy_isB (fr len : Nat) : IsB (cpy fr len) := by
  unfold cpy cpyI
  refine IsB.cons ?_ (byl_isB _ _)
  have := msk_lt (fr + len * 4294967296) 7
  generalize msk _ 7 = z at this
  omega
theorem Plain.Cu.isB {base target : List Int} {pre : List (List Int × List Int)} {bg at_ : Nat} (h : Cu base target pre bg at_) (hz : IsB target) : IsB (stps pre) := by
  induction h using Cu.ind with
  | start => exact IsB.nil
  | own fr len g1 g2 g3 g4 ih => exact ih
  | copy fr len g1 g2 g3 g4 ih =>
    rw [stps_snoc]
    exact ih.append ((own_isB ((hz.take _).drop _)).append (cpy_isB _ _))
theorem mk_isB {base target : List Int} {pre : List (List Int × List Int)} {bg : Nat} (h : Cu base target pre bg target.length) (hz : IsB target) (h1 : base.length ≤ 100000) (h2 : target.length ≤ 100000) : IsB (mk base target pre bg) :=
  (szw_isB h1).append ((szw_isB h2).append ((h.isB hz).append (own_isB (hz.drop _))))
/-- Bytes that were given out, with their slice. -/
structure Dg (w : World) (B : Nat) (a : Option Addr) (cap : Nat) (l : List Int) : Prop where
  sl : Sl w a cap l
  low : ∀ p : Addr, a = some p → B ≤ p.block
theorem dg_of {w : World} {B cap : Nat} {a : Option Addr} {c : List Int} (h : w.ownsRow B 5 1 (.slice a c.length cap) c.length (c.map (Value.int .u8))) : Dg w B a cap c := by
  have hh := h
  obtain ⟨h1, ⟨h2, h3⟩ | ⟨g', cap', cur, hv, h3, h4, h5, h6, h7, h8⟩⟩ := h
  · simp only [Value.slice.injEq] at h2
    obtain ⟨rfl, _, rfl⟩ := h2
    obtain rfl : c = [] := List.length_eq_zero_iff.1 (by omega)
    exact ⟨sl_nil w, fun p hp => by cases hp⟩
  · simp only [Value.slice.injEq] at hv
    obtain ⟨rfl, _, rfl⟩ := hv
    exact ⟨sl_of_own (n := 0) hh, fun p hp => by cases hp; exact h3⟩
theorem Dg.frame {w w' : World} {B cap : Nat} {a : Option Addr} {l : List Int} (h : Dg w B a cap l) (hb : ∀ k, B ≤ k → k < w.heap.size → w'.heap[k]? = w.heap[k]?) (hs : w.heap.size ≤ w'.heap.size) : Dg w' B a cap l :=
  ⟨⟨h.sl.capl, fun h0 => by
    obtain ⟨b, off, e1, e2, e3⟩ := h.sl.at_ h0
    exact ⟨b, off, e1, by omega, fun i hi => (World.cell?_of_block (a := ⟨b, off + i, none⟩) (hb b (h.low _ e1) e2)).trans (e3 i hi)⟩, h.sl.nil⟩, h.low⟩
set_option maxRecDepth 20000 in
set_option maxHeartbeats 400000 in
theorem make_long (a a' : Option Addr) (len len' cap cap' : Nat) (w : World) (h : 100000 < len ∨ 100000 < len') (hm : len + len' ≤ 300000) :
    Calls Tryd.prog 14 #[.slice a len cap, .slice a' len' cap'] w fun e w' => e = .returned (.slice none 0 0) ∧ w' = w := by
  by_cases h1 : 100000 < len
  · have h1' : (100000 : Int) < len := by omega
    refine (callsIn_wide (n := 3)).1 ?_
    refine callsIn_of_wp Tryd.func14 rfl trivial ?_ rfl
    simp only [Tryd.ntmps14, List.size_toArray, List.length_cons, List.length_nil, Nat.reduceAdd, Nat.reduceSub, Array.replicate_succ, Array.replicate_zero, List.push_toArray, List.append_toArray, List.nil_append, List.cons_append]
    gi_wp2
    go_ret
    exact ⟨rfl, rfl⟩
  · have h2' : (100000 : Int) < len' := by omega
    have h1' : ¬ (100000 : Int) < len := by omega
    refine (callsIn_wide (n := 3)).1 ?_
    refine callsIn_of_wp Tryd.func14 rfl trivial ?_ rfl
    simp only [Tryd.ntmps14, List.size_toArray, List.length_cons, List.length_nil, Nat.reduceAdd, Nat.reduceSub, Array.replicate_succ, Array.replicate_zero, List.push_toArray, List.append_toArray, List.nil_append, List.cons_append]
    gi_wp2
    go_ret
    exact ⟨rfl, rfl⟩
end Go.Proofs.YtblegkefeiefjaaDoor
