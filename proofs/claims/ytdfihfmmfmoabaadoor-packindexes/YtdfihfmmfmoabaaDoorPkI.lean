/- Indexes: plainly; equal ids. -/
import Derived.Test.YtdfihfmmfmoabaaDoorPkH
namespace Go.Proofs.YtdfihfmmfmoabaaDoor
open Go.RowKit Go.Shelf
variable [Inhabited Pn]
set_option linter.unusedVariables false
set_option linter.unusedSectionVars false
set_option linter.unusedSimpArgs false
theorem eqItems_any {P : Program} (d : Nat) (e : TypeId) (he : P.plainKey e = true) (hu : P.underlying e = some (.int .u8)) (xs ys : List Int) : ∀ (is : List Nat) (w : World), (∀ j ∈ is, j < xs.length ∧ j < ys.length) → (Op.eqItems (d + 1) e 1 (row .u8 xs).toArray (row .u8 ys).toArray is).run P w = .ok (is.all fun j => xs.getD j 0 == ys.getD j 0) w
  | [], w, _ => by simp [Op.eqItems]
  | j :: is, w, h => by
    have hj := h j (by simp)
    have hp : (part e (row .u8 xs).toArray j).run P w = .ok (.int .u8 (xs.getD j 0)) w := run_part_plain w he (by simpa using row_at .u8 xs j hj.1)
    have hq : (part e (row .u8 ys).toArray j).run P w = .ok (.int .u8 (ys.getD j 0)) w := run_part_plain w he (by simpa using row_at .u8 ys j hj.2)
    have ih := eqItems_any d e he hu xs ys is w (fun k hk => h k (by simp [hk]))
    simp only [Op.eqItems, Sem.run_bind, Nat.mul_one, hp, hq, Result.andThen_ok]
    by_cases hxy : xs.getD j 0 = ys.getD j 0
    · have h2 : xs[j]?.getD 0 = ys[j]?.getD 0 := by simpa using hxy
      simp [go_sem, hu, ih, h2]
    · have h2 : ¬ xs[j]?.getD 0 = ys[j]?.getD 0 := by simpa using hxy
      simp [go_sem, hu, ih, h2]
theorem eq24 (x y : List Int) (hx : x.length = 20) (hy : y.length = 20) (w : World) : (Op.equalIn 10000 24 (.agg (row .u8 x).toArray) (.agg (row .u8 y).toArray)).run Tryd.prog w = .ok (decide (x = y)) w := by
  obtain ⟨i5, hi, -⟩ := info_parts Tryd.info5
  have h1 := eqItems_any (P := Tryd.prog) 9998 5 plain5 Tryd.underlying5 x y (List.range 20) w (fun j hj => by rw [hx, hy]; exact ⟨List.mem_range.1 hj, List.mem_range.1 hj⟩)
  have hall : ((List.range 20).all fun j => x.getD j 0 == y.getD j 0) = decide (x = y) := by
    by_cases h : x = y
    · subst h
      simp
    · rw [decide_eq_false h, Bool.eq_false_iff]
      intro hall
      refine h (List.ext_getElem (by rw [hx, hy]) (fun j h1 h2 => ?_))
      have := List.all_eq_true.1 hall j (List.mem_range.2 (by omega))
      simpa [h1, h2] using this
  rw [hall] at h1
  rw [show (10000 : Nat) = 9999 + 1 from rfl, run_equalIn_array w 9999 _ _ Tryd.underlying24 hi, cells5]
  exact h1
theorem eq23 (x y : List Int) (hx : x.length = 20) (hy : y.length = 20) (w : World) : (Op.equalIn 10000 23 (.agg (row .u8 x).toArray) (.agg (row .u8 y).toArray)).run Tryd.prog w = .ok (decide (x = y)) w := by
  obtain ⟨i5, hi, -⟩ := info_parts Tryd.info5
  have h1 := eqItems_any (P := Tryd.prog) 9998 5 plain5 Tryd.underlying5 x y (List.range 20) w (fun j hj => by rw [hx, hy]; exact ⟨List.mem_range.1 hj, List.mem_range.1 hj⟩)
  have hall : ((List.range 20).all fun j => x.getD j 0 == y.getD j 0) = decide (x = y) := by
    by_cases h : x = y
    · subst h
      simp
    · rw [decide_eq_false h, Bool.eq_false_iff]
      intro hall
      refine h (List.ext_getElem (by rw [hx, hy]) (fun j h1 h2 => ?_))
      have := List.all_eq_true.1 hall j (List.mem_range.2 (by omega))
      simpa [h1, h2] using this
  rw [hall] at h1
  rw [show (10000 : Nat) = 9999 + 1 from rfl, run_equalIn_array w 9999 _ _ Tryd.underlying23 hi, cells5]
  exact h1
/-- 5.7: which places can be written. -/
def okX (l : List Pl) : Prop := (∀ p ∈ l, 0 ≤ p.off ∧ p.off ≤ 2147483647) ∧ (l.map (·.id)).Nodup
/-- In order. -/
def SrtP (s : List Pl) : Prop := s.Pairwise (fun x y => ¬ Lib.bytesOf y.id < Lib.bytesOf x.id)
def hdX : List Int := [255, 116, 79, 99, 0, 0, 0, 2]
/-- 5.7: what is written, by and by. -/
def idx1 (s : List Pl) : List Int := hdX ++ cntB s 256
def idx2 (s : List Pl) : List Int := idx1 s ++ s.flatMap (·.id)
def idx3 (s : List Pl) : List Int := idx2 s ++ s.flatMap fun p => n4 p.crc.toNat
def idx4 (s : List Pl) : List Int := idx3 s ++ s.flatMap fun p => n4 p.off.toNat
def idxZ (s : List Pl) (sum : List Int) : List Int := idx4 s ++ sum
def idxF (s : List Pl) (sum : List Int) : List Int := idxZ s sum ++ sha (idxZ s sum)
theorem flat_len (f : Pl → List Int) (k : Nat) : ∀ (s : List Pl), (∀ p ∈ s, (f p).length = k) → (s.flatMap f).length = k * s.length
  | [], _ => by simp
  | x :: r, h => by
    rw [List.flatMap_cons, List.length_append, h x (by simp), flat_len f k r (fun p hp => h p (by simp [hp])), List.length_cons, Nat.mul_succ]
    omega
theorem idx1_len (s : List Pl) : (idx1 s).length = 1032 := by rw [idx1, List.length_append, cntB_len]; rfl
theorem idx2_len (s : List Pl) (hw : WfQ s) : (idx2 s).length = 1032 + 20 * s.length := by rw [idx2, List.length_append, idx1_len, flat_len _ 20 s hw]
theorem idx3_len (s : List Pl) (hw : WfQ s) : (idx3 s).length = 1032 + 24 * s.length := by rw [idx3, List.length_append, idx2_len s hw, flat_len _ 4 s (fun _ _ => rfl)]; omega
theorem idx4_len (s : List Pl) (hw : WfQ s) : (idx4 s).length = 1032 + 28 * s.length := by rw [idx4, List.length_append, idx3_len s hw, flat_len _ 4 s (fun _ _ => rfl)]; omega
theorem idxZ_len (s : List Pl) (sum : List Int) (hw : WfQ s) (hs : sum.length = 20) : (idxZ s sum).length = 1052 + 28 * s.length := by rw [idxZ, List.length_append, idx4_len s hw, hs]; omega
theorem idxF_len (s : List Pl) (sum : List Int) (hw : WfQ s) (hs : sum.length = 20) : (idxF s sum).length = 1072 + 28 * s.length := by rw [idxF, List.length_append, idxZ_len s sum hw hs, sha_len]; omega
theorem isB_app {x y : List Int} (h : IsB x) (k : IsB y) : IsB (x ++ y) := fun n hn => (List.mem_append.1 hn).elim (h n) (k n)
theorem isB_flat (f : Pl → List Int) (s : List Pl) (h : ∀ p ∈ s, IsB (f p)) : IsB (s.flatMap f) := fun n hn => by
  obtain ⟨p, hp, h2⟩ := List.mem_flatMap.1 hn
  exact h p hp n h2
theorem idxZ_isB (s : List Pl) (sum : List Int) (hw : Wp s) (hs : IsB sum) : IsB (idxZ s sum) := by
  refine isB_app (isB_app (isB_app (isB_app (isB_app ?_ ?_) ?_) ?_) ?_) hs
  · intro n hn
    simp only [hdX, List.mem_cons, List.not_mem_nil, or_false] at hn
    omega
  · intro n hn
    obtain ⟨k, _, h2⟩ := List.mem_flatMap.1 hn
    exact n4_isB _ n h2
  · exact isB_flat _ s (fun p hp => (hw p hp).2.1)
  · exact isB_flat _ s (fun p hp => n4_isB _)
  · exact isB_flat _ s (fun p hp => n4_isB _)
theorem bytes_inj {x y : List Int} (hx : IsB x) (hy : IsB y) (h : Lib.bytesOf x = Lib.bytesOf y) : x = y := by
  have := congrArg nums h
  rwa [nums_bytesOf x hx, nums_bytesOf y hy] at this
/-- Where neighbours differ all do. -/
theorem adj_nodup {s : List Pl} (hs : SrtP s) (hw : Wp s) (h : ∀ i, 0 < i → i < s.length → (s.getD i p0).id ≠ (s.getD (i - 1) p0).id) : (s.map (·.id)).Nodup := by
  have hb : ∀ p ∈ s, IsB p.id := fun p hp => (hw p hp).2.1
  have hg : ∀ i (hi : i < s.length), s.getD i p0 = s[i] := fun i hi => by rw [List.getD_eq_getElem?_getD, List.getElem?_eq_getElem hi]; rfl
  have hst : s.Pairwise (fun x y => Lib.bytesOf x.id < Lib.bytesOf y.id) := by
    unfold SrtP at hs
    rw [List.pairwise_iff_getElem] at hs ⊢
    intro i j hi hj hij
    have hj1 : j - 1 < s.length := by omega
    have h1 := h j (by omega) hj
    rw [hg j hj, hg (j - 1) hj1] at h1
    have h2 : Lib.bytesOf (s[j - 1]).id < Lib.bytesOf (s[j]).id := by
      have h3 := hs (j - 1) j hj1 hj (by omega)
      rcases Classical.em (Lib.bytesOf (s[j - 1]).id < Lib.bytesOf (s[j]).id) with h4 | h4
      · exact h4
      · exact absurd (bytes_inj (hb _ (List.getElem_mem _)) (hb _ (List.getElem_mem _)) (lex_total _ _ h3 h4)) h1
    rcases Nat.lt_or_ge i (j - 1) with h5 | h5
    · exact List.lt_of_le_of_lt (List.not_lt.1 (hs i (j - 1) hi hj1 h5)) h2
    · have : i = j - 1 := by omega
      subst this
      exact h2
  unfold List.Nodup
  rw [List.pairwise_map]
  refine hst.imp fun {x y} hxy e => ?_
  rw [e] at hxy
  exact lex_irrefl _ hxy
theorem okX_perm {s l : List Pl} (h : s.Perm l) : okX s ↔ okX l :=
  ⟨fun ⟨a, b⟩ => ⟨fun p hp => a p (h.symm.subset hp), ((h.map (·.id)).nodup_iff).1 b⟩, fun ⟨a, b⟩ => ⟨fun p hp => a p (h.subset hp), ((h.map (·.id)).nodup_iff).2 b⟩⟩
theorem wp_perm {s l : List Pl} (h : s.Perm l) (hw : Wp l) : Wp s := fun p hp => hw p (h.subset hp)
/-- First bytes of a row in order rise. -/
theorem srt_mon {s : List Pl} (hs : SrtP s) (hw : Wp s) : Mon s := by
  unfold Mon
  refine List.Pairwise.imp_of_mem ?_ hs
  intro x y hx hy h
  have h1 := hw x hx
  have h2 := hw y hy
  rcases Int.lt_or_le (hd y) (hd x) with h3 | h3
  · exfalso
    refine h ?_
    unfold hd at h3
    obtain ⟨ix, ox, cx⟩ := x
    obtain ⟨iy, oy, cy⟩ := y
    cases ix with
    | nil => simp at h1
    | cons a r =>
      cases iy with
      | nil => simp at h2
      | cons b r2 =>
        simp only [List.headD_cons] at h3
        have ha := h1.2.1 a (by simp)
        have hb := h2.2.1 b (by simp)
        simp only [Lib.bytesOf, List.map_cons]
        rw [List.cons_lt_cons_iff]
        left
        rw [UInt8.lt_iff_toNat_lt, UInt8.toNat_ofNat', UInt8.toNat_ofNat']
        omega
  · exact h3
/-- Rows in order of one another's places, whose ids differ, are one. -/
theorem srt_one : ∀ (x y : List Pl), x.Perm y → Wp x → (x.map (·.id)).Nodup → SrtP x → SrtP y → x = y
  | [], y, hp, _, _, _, _ => by simpa using hp.symm.eq_nil
  | a :: x, [], hp, _, _, _, _ => by simpa using hp.eq_nil
  | a :: x, b :: y, hp, hw, hn, hx, hy => by
    have hn' := hn
    rw [List.map_cons, List.nodup_cons] at hn
    unfold SrtP at hx hy
    rw [List.pairwise_cons] at hx hy
    have hba : b ∈ a :: x := hp.symm.subset (List.mem_cons_self)
    have hk : a.id = b.id := by
      have ha : a ∈ b :: y := hp.subset (List.mem_cons_self)
      rcases List.mem_cons.1 ha with h | h
      · rw [h]
      · rcases List.mem_cons.1 hba with h' | h'
        · rw [h']
        · exact bytes_inj (hw a (by simp)).2.1 (hw b hba).2.1 (lex_total _ _ (hy.1 a h) (hx.1 b h'))
    have hab : a = b := by
      rcases List.mem_cons.1 hba with h' | h'
      · exact h'.symm
      · exact absurd (List.mem_map.2 ⟨b, h', hk.symm⟩) hn.1
    subst hab
    rw [srt_one x y (List.perm_cons a |>.1 hp) (fun p hp => hw p (by simp [hp])) hn.2 hx.2 hy.2]
end Go.Proofs.YtdfihfmmfmoabaaDoor
