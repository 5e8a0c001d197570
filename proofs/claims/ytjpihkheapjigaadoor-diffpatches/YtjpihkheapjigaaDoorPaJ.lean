/- '[]byte(s)'; how long what is written may be. -/
import Derived.Test.YtjpihkheapjigaaDoorPaE
import Derived.Test.YtjpihkheapjigaaDoorPaI
import Derived.Laws.IdiomStrings
namespace Go.Proofs.YtjpihkheapjigaaDoor
open Go.RowKit
set_option linter.unusedVariables false
set_option linter.unusedSimpArgs false
theorem conv_bytes (l : Str) (w : World) : ∃ cap w', (convert 9 22 (.string ⟨l.toArray⟩)).run Tryd.prog w = .ok (.slice (some ⟨w.heap.size, 0, none⟩) l.length cap) w' ∧ PB w' (some ⟨w.heap.size, 0, none⟩) cap l ∧ Below w.heap.size w w' := by
  have hr := run_bytes_of_string (P := Tryd.prog) w 9 22 5 ⟨l.toArray⟩ Tryd.underlying9 Tryd.underlying22 Tryd.underlying5
  have hsz : (⟨l.toArray⟩ : ByteArray).size = l.length := by simp [ByteArray.size]
  rw [hsz] at hr
  have hge := grownCap_ge w l.length 0 5
  generalize grownCap w l.length 0 5 = cap at hr hge
  have h1 : ∀ i, i < l.length → (bytesRow ⟨l.toArray⟩ cap)[i]? = some (.int .u8 ((l.getD i 0).toNat : Int)) := fun i hi => by
    simp [bytesRow, hi, Array.getElem?_append]
  generalize bytesRow ⟨l.toArray⟩ cap = R at hr h1
  have hh : (w.drew.alloc (.cells R 5 (R.size, R.size + 1))).heap[w.heap.size]? = some (.cells R 5 (R.size, R.size + 1)) := by
    show (w.heap.push _)[w.heap.size]? = _
    simp
  refine ⟨cap, _, hr, ⟨hge, fun _ => ⟨_, 0, rfl, by simp, fun i hi j v hv => ?_⟩, fun h => by cases h⟩, rfl, rfl, rfl, by simp, fun k hk => ?_⟩
  · have hj : j = 0 := by
      have := (List.getElem?_eq_some_iff.1 hv).1
      simp [encB] at this
      exact this
    subst hj
    rw [Nat.zero_add, Nat.mul_one, Nat.add_zero, World.cell?, hh]
    have := h1 i hi
    simp [encB] at hv
    rw [← hv]
    exact this
  · show (w.heap.push _)[k]? = _
    rw [Array.getElem?_push_lt hk, Array.getElem?_eq_getElem hk]
theorem flat_le {α : Type} (f : α → Str) (K : Nat) : ∀ (l : List α), (∀ x ∈ l, (f x).length ≤ K) → (l.flatMap f).length ≤ l.length * K
  | [], _ => by simp
  | x :: l, h => by
    have h1 := flat_le f K l (fun y hy => h y (by simp [hy]))
    have h2 := h x (by simp)
    simp only [List.flatMap_cons, List.length_append, List.length_cons, Nat.add_mul]
    omega
theorem lineT_le (e : Ed) (h : e.2.length ≤ 4000) : (lineT e).length ≤ 4030 := by
  unfold lineT
  split <;> simp [noE] <;> omega
theorem headT_le (a n b m : Nat) (ha : a ≤ 50000) (hn : n ≤ 50000) (hb : b ≤ 50000) (hm : m ≤ 50000) : (headT a n b m).length ≤ 40 := by
  have h1 := plc_len a n ha hn
  have h2 := plc_len b m hb hm
  unfold headT
  simp only [List.length_append, List.length_cons, List.length_nil]
  omega
theorem seg_eq (L : List Ed) (s : Sp) (h : s.1 ≤ s.2) : seg L s = (L.drop s.1).take (s.2 - s.1) := by
  unfold seg
  rw [List.drop_take]
theorem seg_len (L : List Ed) (s : Sp) (h : s.1 ≤ s.2) (h' : s.2 ≤ L.length) : (seg L s).length = s.2 - s.1 := by
  unfold seg
  rw [List.length_drop, List.length_take]
  omega
theorem seg_mem (L : List Ed) (s : Sp) : ∀ e ∈ seg L s, e ∈ L := fun e he => List.mem_of_mem_take (List.mem_of_mem_drop he)
theorem hkT_le (L : List Ed) (s : Sp) (hl : L.length ≤ 10000) (hL : ∀ e ∈ L, e.2.length ≤ 4000) : (hkT L s).length ≤ 40300040 := by
  unfold hkT
  rw [List.length_append]
  have h0 : (seg L s).length ≤ 10000 := by unfold seg; rw [List.length_drop, List.length_take]; omega
  have t1 : (L.take s.1).length ≤ 10000 := by rw [List.length_take]; omega
  have h1 := headT_le (cA (L.take s.1)) (cA (seg L s)) (cB (L.take s.1)) (cB (seg L s)) (by have := cA_le (L.take s.1); omega) (by have := cA_le (seg L s); omega) (by have := cB_le (L.take s.1); omega) (by have := cB_le (seg L s); omega)
  have h2 := flat_le lineT 4030 (seg L s) (fun e he => lineT_le e (hL e (seg_mem L s e he)))
  have h3 : (seg L s).length * 4030 ≤ 10000 * 4030 := Nat.mul_le_mul_right _ h0
  omega
def PostY (l : Str) (w : World) : Ending → World → Prop := fun e w' => ∃ a cap, e = .returned (.slice a l.length cap) ∧ PB w' a cap l ∧ Below w.heap.size w w'
end Go.Proofs.YtjpihkheapjigaaDoor
