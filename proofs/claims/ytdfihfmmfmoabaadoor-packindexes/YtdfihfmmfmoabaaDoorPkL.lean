/- Indexes: what is read of bytes, and read back. -/
import Derived.Test.YtdfihfmmfmoabaaDoorPkK
namespace Go.Proofs.YtdfihfmmfmoabaaDoor
open Go.RowKit Go.Shelf
variable [Inhabited Pn]
set_option linter.unusedVariables false
set_option linter.unusedSectionVars false
set_option linter.unusedSimpArgs false
/-- The places that are read of bytes. -/
def rdP (B : List Int) (n : Nat) : List Pl := (List.range n).map fun i => ⟨rd20 B (1032 + 20 * i), rd4 B (1032 + 24 * n + 4 * i), rd4 B (1032 + 20 * n + 4 * i)⟩
theorem rdP_len (B : List Int) (n : Nat) : (rdP B n).length = n := by simp [rdP]
theorem rdP_at (B : List Int) (n i : Nat) (h : i < n) : (rdP B n).getD i p0 = ⟨rd20 B (1032 + 20 * i), rd4 B (1032 + 24 * n + 4 * i), rd4 B (1032 + 20 * n + 4 * i)⟩ := by
  rw [List.getD_eq_getElem?_getD]
  simp [rdP, h]
theorem rdP_wp (B : List Int) (n : Nat) (hB : IsB B) (hn : 1072 + 28 * n ≤ B.length) : Wp (rdP B n) := by
  intro p hp
  obtain ⟨i, hi, rfl⟩ := List.mem_map.1 hp
  have hi2 : i < n := List.mem_range.1 hi
  refine ⟨rd20_len B _ (by omega), rd20_isB B _ hB, ?_⟩
  exact rd4_bd B _ hB
theorem flat_at (f : Pl → List Int) (k : Nat) : ∀ (s : List Pl), (∀ p ∈ s, (f p).length = k) → ∀ (i j : Nat), i < s.length → j < k → (s.flatMap f)[k * i + j]? = (f (s.getD i p0))[j]?
  | [], _, i, j, hi, _ => by simp at hi
  | x :: r, h, 0, j, _, hj => by
    rw [List.flatMap_cons, Nat.mul_zero, Nat.zero_add, List.getElem?_append_left (by rw [h x (by simp)]; exact hj)]
    rfl
  | x :: r, h, i + 1, j, hi, hj => by
    have hx := h x (by simp)
    have := flat_at f k r (fun p hp => h p (by simp [hp])) i j (by simpa using hi) hj
    rw [List.flatMap_cons, List.getElem?_append_right (by rw [hx, Nat.mul_succ]; omega), hx, show k * (i + 1) + j - k = k * i + j by rw [Nat.mul_succ]; omega, this]
    rfl
/-- A part in the middle. -/
theorem mid_at (A C : List Int) (f : Pl → List Int) (k : Nat) (s : List Pl) (h : ∀ p ∈ s, (f p).length = k) (i j m : Nat) (hi : i < s.length) (hj : j < k) (hm : m = A.length + k * i + j) : (A ++ s.flatMap f ++ C).getD m 0 = (f (s.getD i p0)).getD j 0 := by
  have hl := flat_len f k s h
  have hk : k * i + j < k * s.length := by
    have : k * (i + 1) ≤ k * s.length := Nat.mul_le_mul_left k hi
    rw [Nat.mul_succ] at this
    omega
  subst hm
  rw [List.getD_eq_getElem?_getD, List.getElem?_append_left (by rw [List.length_append]; omega), List.getElem?_append_right (by omega), show A.length + k * i + j - A.length = k * i + j by omega, flat_at f k s h i j hi hj]
  rfl
theorem ext20 (x y : List Int) (hx : x.length = 20) (hy : y.length = 20) (h : ∀ j, j < 20 → x.getD j 0 = y.getD j 0) : x = y := by
  refine List.ext_getElem (by rw [hx, hy]) (fun j h1 h2 => ?_)
  have := h j (by omega)
  simpa [h1, h2] using this
theorem num4_n4 (n : Nat) (hn : n < 4294967296) : num4 ((n4 n).getD 0 0) ((n4 n).getD 1 0) ((n4 n).getD 2 0) ((n4 n).getD 3 0) = n := by
  rw [n4_int n hn]
  simp only [List.getD_cons_zero, List.getD_cons_succ]
  unfold num4
  omega
theorem idxF_ids (s : List Pl) (sum : List Int) : idxF s sum = idx1 s ++ s.flatMap (·.id) ++ ((s.flatMap fun p => n4 p.crc.toNat) ++ (s.flatMap fun p => n4 p.off.toNat) ++ sum ++ sha (idxZ s sum)) := by
  unfold idxF
  conv => lhs; lhs; unfold idxZ idx4 idx3 idx2
  simp only [List.append_assoc]
theorem idxF_crc (s : List Pl) (sum : List Int) : idxF s sum = idx2 s ++ (s.flatMap fun p => n4 p.crc.toNat) ++ ((s.flatMap fun p => n4 p.off.toNat) ++ sum ++ sha (idxZ s sum)) := by
  unfold idxF
  conv => lhs; lhs; unfold idxZ idx4 idx3
  simp only [List.append_assoc]
theorem idxF_off (s : List Pl) (sum : List Int) : idxF s sum = idx3 s ++ (s.flatMap fun p => n4 p.off.toNat) ++ (sum ++ sha (idxZ s sum)) := by
  unfold idxF
  conv => lhs; lhs; unfold idxZ idx4
  simp only [List.append_assoc]
/-- What was written is read. -/
theorem rd_back (s : List Pl) (sum : List Int) (hw : Wp s) (ho : ∀ p ∈ s, 0 ≤ p.off ∧ p.off ≤ 2147483647) (hs : sum.length = 20) : rdP (idxF s sum) s.length = s := by
  have hq : WfQ s := fun p hp => (hw p hp).1
  have hlen := idxF_len s sum hq hs
  refine List.ext_getElem (rdP_len _ _) (fun i h1 h2 => ?_)
  have hg : (rdP (idxF s sum) s.length)[i] = (rdP (idxF s sum) s.length).getD i p0 := by rw [List.getD_eq_getElem?_getD, List.getElem?_eq_getElem h1]; rfl
  have hg2 : s[i] = s.getD i p0 := by rw [List.getD_eq_getElem?_getD, List.getElem?_eq_getElem h2]; rfl
  have hm : s.getD i p0 ∈ s := by rw [← hg2]; exact List.getElem_mem _
  rw [hg, hg2, rdP_at _ _ _ h2]
  have e1 : rd20 (idxF s sum) (1032 + 20 * i) = (s.getD i p0).id := by
    refine ext20 _ _ (rd20_len _ _ (by omega)) (hq _ hm) (fun j hj => ?_)
    rw [rd20_at _ _ _ hj, idxF_ids]
    exact mid_at _ _ _ 20 s hq i j _ h2 hj (by rw [idx1_len])
  have e2 : rd4 (idxF s sum) (1032 + 20 * s.length + 4 * i) = (s.getD i p0).crc := by
    have hc := (hw _ hm).2.2
    have hA := idx2_len s hq
    have hk : ∀ j, j < 4 → (idxF s sum).getD (1032 + 20 * s.length + 4 * i + j) 0 = (n4 (s.getD i p0).crc.toNat).getD j 0 := fun j hj => by
      rw [idxF_crc]
      exact mid_at _ _ (fun p => n4 p.crc.toNat) 4 s (fun _ _ => rfl) i j _ h2 hj (by rw [hA])
    have h0 := hk 0 (by omega)
    rw [Nat.add_zero] at h0
    unfold rd4
    rw [h0, hk 1 (by omega), hk 2 (by omega), hk 3 (by omega), num4_n4 _ (by omega)]
    omega
  have e3 : rd4 (idxF s sum) (1032 + 24 * s.length + 4 * i) = (s.getD i p0).off := by
    have hc := ho _ hm
    have hA := idx3_len s hq
    have hk : ∀ j, j < 4 → (idxF s sum).getD (1032 + 24 * s.length + 4 * i + j) 0 = (n4 (s.getD i p0).off.toNat).getD j 0 := fun j hj => by
      rw [idxF_off]
      exact mid_at _ _ (fun p => n4 p.off.toNat) 4 s (fun _ _ => rfl) i j _ h2 hj (by rw [hA])
    have h0 := hk 0 (by omega)
    rw [Nat.add_zero] at h0
    unfold rd4
    rw [h0, hk 1 (by omega), hk 2 (by omega), hk 3 (by omega), num4_n4 _ (by omega)]
    omega
  rw [e1, e2, e3]
theorem sum_back (s : List Pl) (sum : List Int) (hw : WfQ s) (hs : sum.length = 20) : rd20 (idxF s sum) (1032 + 28 * s.length) = sum := by
  unfold rd20 idxF idxZ
  rw [List.append_assoc, List.drop_append_of_le_length (by rw [idx4_len s hw]; omega), List.drop_of_length_le (by rw [idx4_len s hw]; omega), List.nil_append, List.take_append_of_le_length (by omega), List.take_of_length_le (by omega)]
end Go.Proofs.YtdfihfmmfmoabaaDoor
