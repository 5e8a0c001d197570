import Derived.Test.YtbiibhpknflagaaDoorMfi
import Derived.Test.YtbiibhpknflagaaDoorMro
/- Bytes that come again and again have few bits: the chains hold every place; the search finds it. -/
namespace Go.Proofs.YtbiibhpknflagaaDoor
open Go.RowKit Plain
set_option linter.unusedVariables false

/-- The last place below x that has a hash, and 1. -/
def prv (zs : List Int) (n h : Nat) : Nat → Nat
  | 0 => 0
  | x + 1 => if x + 3 ≤ zs.length ∧ hshAt zs n x = h then x + 1 else prv zs n h x
theorem prv_hit (zs : List Int) (n h : Nat) : ∀ x y, prv zs n h x = y + 1 → y < x ∧ y + 3 ≤ zs.length ∧ hshAt zs n y = h
  | 0, y, e => by simp [prv] at e
  | x + 1, y, e => by
    rw [prv] at e
    split at e
    · rename_i hc
      obtain rfl : x = y := by omega
      exact ⟨by omega, hc⟩
    · have := prv_hit zs n h x y e
      exact ⟨by omega, this.2⟩
theorem prv_ge (zs : List Int) (n h : Nat) (q : Nat) (h2 : q + 3 ≤ zs.length) (h3 : hshAt zs n q = h) : ∀ x, q < x → q + 1 ≤ prv zs n h x := by
  intro x
  induction x with
  | zero => intro h1; omega
  | succ x ih =>
    intro h1
    rw [prv]
    by_cases hc : x + 3 ≤ zs.length ∧ hshAt zs n x = h
    · rw [if_pos hc]; omega
    · rw [if_neg hc]
      by_cases e : q = x
      · exact absurd ⟨by omega, by rw [← e]; exact h3⟩ hc
      · exact ih (by omega)
/-- The chains hold every place below p. -/
structure Chn (zs : List Int) (n p : Nat) (ch ah : List Nat) : Prop where
  c : ∀ h, h < n → ch.getD h 0 = prv zs n h p
  a : ∀ q, q < p → q + 3 ≤ zs.length → ah.getD q 0 = prv zs n (hshAt zs n q) q
  cl : ch.length = n
  al : ah.length = n
theorem getD_set (l : List Nat) (i j x : Nat) (hi : i < l.length) : (l.set i x).getD j 0 = if i = j then x else l.getD j 0 := by
  simp only [List.getD_eq_getElem?_getD, List.getElem?_set]
  by_cases e : i = j
  · subst e; rw [if_pos rfl, if_pos rfl, if_pos hi]; rfl
  · rw [if_neg e, if_neg e]
theorem Chn.start (zs : List Int) (n : Nat) : Chn zs n 0 (List.replicate n 0) (List.replicate n 0) :=
  ⟨fun h hh => by simp [List.getD_eq_getElem?_getD, hh, prv], fun q hq => by omega, by simp, by simp⟩
theorem Chn.add {zs : List Int} {n p : Nat} {ch ah : List Nat} (h : Chn zs n p ch ah) (hn : 0 < n) (hl : zs.length ≤ n) : Chn zs n (p + 1) (addC zs n ch p) (addA zs n ch ah p) := by
  by_cases h3 : zs.length - p < 3
  · have e1 : addC zs n ch p = ch := by unfold addC; rw [if_pos h3]
    have e2 : addA zs n ch ah p = ah := by unfold addA; rw [if_pos h3]
    rw [e1, e2]
    refine ⟨fun k hk => ?_, fun q hq hq3 => ?_, h.cl, h.al⟩
    · rw [h.c k hk, prv, if_neg (by omega)]
    · exact h.a q (by omega) hq3
  · have hh : hshAt zs n p < n := hsh_lt _ _ _ hn
    have e1 : addC zs n ch p = ch.set (hshAt zs n p) (p + 1) := by unfold addC; rw [if_neg h3]
    have e2 : addA zs n ch ah p = ah.set p (ch.getD (hshAt zs n p) 0) := by unfold addA; rw [if_neg h3, Nat.mod_eq_of_lt (by omega)]
    rw [e1, e2]
    refine ⟨fun k hk => ?_, fun q hq hq3 => ?_, by rw [List.length_set]; exact h.cl, by rw [List.length_set]; exact h.al⟩
    · rw [getD_set _ _ _ _ (by rw [h.cl]; exact hh), prv]
      by_cases e : hshAt zs n p = k
      · rw [if_pos e, if_pos ⟨by omega, e⟩]
      · rw [if_neg e, if_neg (fun hc => e hc.2)]; exact h.c k hk
    · rw [getD_set _ _ _ _ (by rw [h.al]; omega)]
      by_cases e : p = q
      · subst e; rw [if_pos rfl]; exact h.c _ hh
      · rw [if_neg e]; exact h.a q (by omega) hq3
theorem Chn.adds {zs : List Int} {n p : Nat} {ch ah : List Nat} (h : Chn zs n p ch ah) (hn : 0 < n) (hl : zs.length ≤ n) : ∀ k, Chn zs n (p + k) (adds zs n p (ch, ah) k).1 (adds zs n p (ch, ah) k).2
  | 0 => h
  | k + 1 => (Chn.adds h hn hl k).add hn hl
/-- The search comes to where the bytes stood one round ago. -/
theorem look_full {zs : List Int} {n at_ p M : Nat} {ch ah : List Nat} (hC : Chn zs n at_ ch ah) (hl : zs.length ≤ n) (hp1 : 1 ≤ p) (hp : p ≤ 100) (hpa : p ≤ at_) (hM : at_ + M ≤ zs.length) (hM3 : 3 ≤ M) (hper : ∀ i, i < M → zs.getD (at_ - p + i) 0 = zs.getD (at_ + i) 0) :
    ∀ (left x l d : Nat), x ≤ at_ → at_ - p < x → x - (at_ - p) ≤ left → l ≤ M → (0 < l → d ≤ p) → (look zs ah n at_ M left (prv zs n (hshAt zs n at_) x) l d).1 = M ∧ (look zs ah n at_ M left (prv zs n (hshAt zs n at_) x) l d).2 ≤ p
  | 0, x, l, d, h1, h2, h3, h4, h5 => by omega
  | left + 1, x, l, d, h1, h2, h3, h4, h5 => by
    have hash : hshAt zs n (at_ - p) = hshAt zs n at_ := by
      unfold hshAt
      have g0 := hper 0 (by omega)
      have g1 := hper 1 (by omega)
      have g2 := hper 2 (by omega)
      rw [Nat.add_zero, Nat.add_zero] at g0
      rw [g0, g1, g2]
    have hge := prv_ge zs n (hshAt zs n at_) (at_ - p) (by omega) hash x h2
    obtain ⟨q, hq⟩ : ∃ q, prv zs n (hshAt zs n at_) x = q + 1 := ⟨prv zs n (hshAt zs n at_) x - 1, by omega⟩
    obtain ⟨q1, q2, q3⟩ := prv_hit zs n _ x q hq
    rw [hq, look]
    by_cases hlM : l < M
    · rw [if_pos ⟨by omega, hlM⟩]
      have hqn : q % n = q := Nat.mod_eq_of_lt (by omega)
      have hah : ah.getD (q % n) 0 = prv zs n (hshAt zs n at_) q := by rw [hqn, hC.a q (by omega) q2, q3]
      have hcl : com zs q at_ M 0 ≤ M := by have := com_le zs q at_ M 0; omega
      rw [hah]
      by_cases hqe : q = at_ - p
      · have hcm : com zs q at_ M 0 = M := com_eq (Nat.le_refl _) (fun i hi => by rw [hqe]; exact hper i hi) (fun h => by omega) M 0 (by omega) (by omega)
        rw [hcm, if_pos hlM]
        have stop : look zs ah n at_ M left (prv zs n (hshAt zs n at_) q) M (at_ - q) = (M, at_ - q) := look_stop (.inr (.inr (fun hc => by omega)))
        rw [stop]
        exact ⟨rfl, by show at_ - q ≤ p; omega⟩
      · split
        · exact look_full hC hl hp1 hp hpa hM hM3 hper left q _ _ (by omega) (by omega) (by omega) hcl (fun _ => by omega)
        · exact look_full hC hl hp1 hp hpa hM hM3 hper left q _ _ (by omega) (by omega) (by omega) h4 h5
    · rw [if_neg (by omega)]
      exact ⟨by show l = M; omega, h5 (by omega)⟩
theorem longest_full {zs : List Int} {n at_ p : Nat} {ch ah : List Nat} (hn : 0 < n) (hC : Chn zs n at_ ch ah) (hl : zs.length ≤ n) (hp1 : 1 ≤ p) (hp : p ≤ 100) (hpa : p ≤ at_) (h3 : at_ + 3 ≤ zs.length) (hper : ∀ i, i + p < zs.length → zs.getD i 0 = zs.getD (i + p) 0) :
    (longestOf zs n ch ah at_).1 = min 258 (zs.length - at_) ∧ (longestOf zs n ch ah at_).2 ≤ p := by
  unfold longestOf
  rw [if_neg (by omega), hC.c (hshAt zs n at_) (hsh_lt _ _ _ hn)]
  refine look_full hC hl hp1 hp hpa (by omega) (by omega) (fun i hi => ?_) 128 at_ 0 0 (Nat.le_refl _) (by omega) (by omega) (by omega) (fun h => by omega)
  have := hper (at_ - p + i) (by omega)
  rw [this, show at_ - p + i + p = at_ + i by omega]
theorem len_bits : ∀ l, l < 259 → 3 ≤ l → fixLen (257 + lenC l) + lenBits.getD (lenC l) 0 ≤ 13 ∧ (l = 258 → fixLen (257 + lenC l) + lenBits.getD (lenC l) 0 = 8) := by decide +kernel
theorem dist_bits : ∀ d, d < 101 → 1 ≤ d → distBits.getD (distC d) 0 ≤ 5 := by decide +kernel
theorem dupK (b : Bs) (l d : Nat) : (b.dup l d).k = b.k + fixLen (257 + lenC l) + lenBits.getD (lenC l) 0 + 5 + distBits.getD (distC d) 0 := rfl
/-- How many bits there are so far. -/
def Few (p N at_ k : Nat) : Prop := (at_ < p ∧ k ≤ 3 + 9 * at_) ∨ (p ≤ at_ ∧ k ≤ 34 + 9 * p + 18 * ((at_ - p) / 258)) ∨ (p ≤ at_ ∧ N - at_ ≤ 2 ∧ k + 9 * (N - at_) ≤ 34 + 9 * p + 18 * ((at_ - p) / 258) + 23 + 18)
theorem Sq.few {zs : List Int} {n p : Nat} (hz : IsB zs) (hn : 0 < n) (hl : zs.length ≤ n) (hp1 : 1 ≤ p) (hp : p ≤ 100) (hper : ∀ i, i + p < zs.length → zs.getD i 0 = zs.getD (i + p) 0) {at_ : Nat} {ch ah : List Nat} {b : Bs} (h : Sq zs n at_ ch ah b) : Chn zs n at_ ch ah ∧ Few p zs.length at_ b.k := by
  induction h using Sq.ind with
  | start => exact ⟨Chn.start zs n, .inl ⟨by omega, by show 0 + 1 + 2 ≤ _; omega⟩⟩
  | @lit at_ ch ah b h hlt hw ih =>
    obtain ⟨i1, i2⟩ := ih
    refine ⟨i1.adds hn hl 1, ?_⟩
    have hf := (fixLen_pos (zs.getD at_ 0).toNat).2
    rw [sym_k]
    unfold Few at i2 ⊢
    have key : p ≤ at_ → zs.length - at_ ≤ 2 := by
      intro hpa
      rcases Nat.lt_or_ge (zs.length - at_) 3 with h3 | h3
      · omega
      · obtain ⟨e1, e2⟩ := longest_full hn i1 hl hp1 hp hpa (by omega) hper
        exfalso
        unfold worth at hw
        rw [e1] at hw
        simp at hw
        omega
    rcases i2 with ⟨a1, a2⟩ | ⟨a1, a2⟩ | ⟨a1, a2, a3⟩
    · by_cases e : at_ + 1 < p
      · exact .inl ⟨e, by omega⟩
      · exact .inr (.inl ⟨by omega, by omega⟩)
    · have := key a1
      exact .inr (.inr ⟨by omega, by omega, by omega⟩)
    · exact .inr (.inr ⟨by omega, by omega, by omega⟩)
  | @dup at_ ch ah b h hlt hw ih =>
    obtain ⟨i1, i2⟩ := ih
    refine ⟨i1.adds hn hl _, ?_⟩
    obtain ⟨p1, p2, p3, p4, p5⟩ := h.pos hz hlt hw
    obtain ⟨L, hL⟩ : ∃ L, longestOf zs n ch ah at_ = L := ⟨_, rfl⟩
    have full := fun hpa h3 => longest_full (p := p) hn i1 hl hp1 hp hpa h3 hper
    rw [hL] at p1 p2 p3 p4 p5 full ⊢
    obtain ⟨l, d⟩ := L
    simp only at p1 p2 p3 p4 p5 full ⊢
    have lb := len_bits l (by omega) p1
    have db := (dist_ok d p4 p5).2.2.2
    have dk := dupK b l d
    have d9 := dup_k b l d (by omega) p1 p4 p5
    unfold Few at i2 ⊢
    rcases i2 with ⟨a1, a2⟩ | ⟨a1, a2⟩ | ⟨a1, a2, a3⟩
    · by_cases e : at_ + l < p
      · exact .inl ⟨e, by omega⟩
      · exact .inr (.inl ⟨by omega, by omega⟩)
    · obtain ⟨e1, e2⟩ := full a1 (by omega)
      have d5 := dist_bits d (by omega) p4
      by_cases e : l = 258
      · have := lb.2 e
        exact .inr (.inl ⟨by omega, by omega⟩)
      · exact .inr (.inr ⟨by omega, by omega, by omega⟩)
    · exfalso; omega
theorem Squeezed.few {zs : List Int} {p : Nat} {b : Bs} (hz : IsB zs) (hl : zs.length ≤ 32768) (hp1 : 1 ≤ p) (hp : p ≤ 100) (hper : ∀ i, i + p < zs.length → zs.getD i 0 = zs.getD (i + p) 0) (h : Squeezed zs b) : b.k ≤ 82 + 9 * p + 18 * (zs.length / 258) := by
  obtain ⟨n, ch, ah, b0, h1, h2, h3, hs, rfl⟩ := h
  have := (hs.few hz h1 (by omega) hp1 hp hper).2
  have e : (b0.sym 256).k = b0.k + 7 := rfl
  rw [e]
  unfold Few at this
  rcases this with ⟨a1, a2⟩ | ⟨a1, a2⟩ | ⟨a1, a2, a3⟩ <;> omega
end Go.Proofs.YtbiibhpknflagaaDoor
/- The law 'DeflateShort': its walk. -/
namespace Go.Proofs.YtbiibhpknflagaaDoor
open Go.RowKit Plain
set_option linter.unusedVariables false
set_option linter.unusedSimpArgs false

/-- The first i of N places hold the block again and again. -/
def part (bk : List Int) (N i : Nat) : List Int := (List.range N).map fun k => if k < i then bk.getD (k % bk.length) 0 else 0
def rpt (bk : List Int) (N : Nat) : List Int := (List.range N).map fun k => bk.getD (k % bk.length) 0
theorem part_len (bk : List Int) (N i : Nat) : (part bk N i).length = N := by simp [part]
theorem rpt_len (bk : List Int) (N : Nat) : (rpt bk N).length = N := by simp [rpt]
theorem part_all (bk : List Int) (N : Nat) : part bk N N = rpt bk N := by
  apply List.ext_getElem
  · rw [part_len, rpt_len]
  · intro k h1 h2
    rw [part_len] at h1
    simp [part, rpt, h1]
theorem part_set (bk : List Int) (N i : Nat) : (part bk N i).set i (bk.getD (i % bk.length) 0) = part bk N (i + 1) := by
  apply List.ext_getElem
  · simp [part]
  · intro k h1 h2
    rw [List.getElem_set]
    simp only [part, List.getElem_map, List.getElem_range]
    by_cases e : i = k
    · subst e; rw [if_pos rfl, if_pos (by omega)]
    · rw [if_neg e]
      by_cases h : k < i
      · rw [if_pos h, if_pos (by omega)]
      · rw [if_neg h, if_neg (by omega)]
theorem part_zero (bk : List Int) (N : Nat) : madeCells #[.int .u8 0] N = ((part bk N 0).map (Value.int .u8)).toArray := by
  apply Array.ext'
  rw [toList_madeCells_one]
  apply List.ext_getElem
  · simp [part]
  · intro k h1 h2
    simp [part]
theorem rpt_get (bk : List Int) (N k : Nat) (h : k < N) : (rpt bk N).getD k 0 = bk.getD (k % bk.length) 0 := by
  simp [rpt, List.getD_eq_getElem?_getD, h]
theorem rpt_per (bk : List Int) (N : Nat) : ∀ i, i + bk.length < (rpt bk N).length → (rpt bk N).getD i 0 = (rpt bk N).getD (i + bk.length) 0 := by
  intro i hi
  rw [rpt_len] at hi
  rw [rpt_get bk N i (by omega), rpt_get bk N _ hi, Nat.add_mod_right]
theorem rpt_isB (bk : List Int) (N : Nat) (h : IsB bk) : IsB (rpt bk N) := by
  intro x hx
  simp only [rpt, List.mem_map] at hx
  obtain ⟨k, _, rfl⟩ := hx
  simpa using h.get (k % bk.length)
theorem urow_cell {w : World} {g : Nat} {l : List Int} (h : w.heap[g]? = some (.cells (l.map (Value.int .u8)).toArray 5 (0, 0))) (i : Nat) (hi : i < l.length) : w.cell? ⟨g, i, none⟩ = some (.int .u8 (l.getD i 0)) := by
  rw [cell_of_row w g i _ 5 (0, 0) h]
  simp [hi]
theorem short_1 {N k z : Nat} (h1 : k ≤ 82 + 9 * 1 + 18 * (N / 258)) (h2 : z ≤ (k + 7) / 8 + 6) : z ≤ 40 + N / 80 := by omega
theorem short_m {N k z p : Nat} (hp : p ≤ 100) (h1 : k ≤ 82 + 9 * p + 18 * (N / 258)) (h2 : z ≤ (k + 7) / 8 + 6) : z ≤ 160 + N / 40 := by omega
set_option maxRecDepth 20000 in
set_option maxHeartbeats 400000 in
theorem walkH_none (a : Option Addr) (len cap : Nat) (n : Int) (w : World) (h : len = 0 ∨ 100 < len) (hm : len ≤ maxLen) :
    Calls Tryd.prog 6 #[.slice a len cap, .int .i64 n] w fun e w' => e = .returned (.bool true) ∧ Below w.heap.size w w' := by
  unfold maxLen at hm
  rcases h with rfl | h
  · go_enter Tryd.func6, Tryd.ntmps6
    go_wp2
    go_ret
    exact ⟨rfl, Below.refl _ _⟩
  · have h1 : ¬ (len : Int) = 0 := by omega
    have h2 : (100 : Int) < len := by omega
    go_enter Tryd.func6, Tryd.ntmps6
    go_wp2
    go_ret
    exact ⟨rfl, Below.refl _ _⟩
set_option maxRecDepth 20000 in
set_option maxHeartbeats 4000000 in
theorem walkH (b off cap : Nat) (bk : List Int) (n : Int) (w : World) (hl : bk.length ≤ 100) (hl1 : 1 ≤ bk.length) (hz : IsB bk) (hb : b < w.heap.size) (hat : At w b off bk) (ht : TabsW w) :
    Calls Tryd.prog 6 #[.slice (some ⟨b, off, none⟩) bk.length cap, .int .i64 n] w fun e w' => e = .returned (.bool true) ∧ Below w.heap.size w w' := by
  obtain ⟨i5, hi, hz0, hz1, hz2⟩ := info_parts Tryd.info5
  obtain ⟨p, HP⟩ : ∃ p, Hid (p = bk.length) := ⟨_, rfl⟩
  rw [← HP.out] at hl hl1 ⊢
  have h1 : ¬ (p : Int) = 0 := by omega
  have h2 : ¬ (100 : Int) < p := by omega
  have hw0 : 0 ≤ IntKind.u64.wrap n := by rw [IntKind.wrap_u64]; omega
  obtain ⟨N, HN⟩ : ∃ N : Nat, Hid ((IntKind.u64.wrap n % 20001).toNat = N) := ⟨_, rfl⟩
  have hN : N ≤ 20000 := by rw [← HN.out]; omega
  have hNZ : wrap64 ((IntKind.u64.wrap n).tmod 20001) = (N : Int) := by
    rw [Int.tmod_eq_emod_of_nonneg hw0, wrap64_eq, ← HN.out, IntKind.wrap_i64]; omega
  clear hw0
  have HT : Hid _ := ht
  have HAT : Hid _ := hat
  have HB : Hid _ := hb
  have HZ : Hid _ := hz
  obtain ⟨R, HR⟩ : ∃ R, Hid (R = ((part bk N 0).map (Value.int .u8)).toArray) := ⟨_, rfl⟩
  have hmk : ∀ w : World, (Instr.makeSlice 22 (.int .i64 N) (.int .i64 N)).run Tryd.prog w = .ok (.slice (some ⟨w.heap.size, 0, none⟩) N N) (w.alloc (.cells R 5)) := fun w => by
    rw [HR.out, ← part_zero]; exact run_make_row 22 5 i5 _ Tryd.underlying22 hi hz0 hz1 rfl .i64 .i64 N (by rw [hz2]; omega) (by omega) w
  clear ht hat hb hz
  go_enter Tryd.func6, Tryd.ntmps6
  go_wp2_with fail
  go_loopg [6] N (fun k i wr => ∃ j : Nat, j ≤ N ∧ i = .int .i64 j ∧ k = N - j ∧ Hid (wr.heap[w.heap.size]? = some (.cells ((part bk N j).map (Value.int .u8)).toArray 5 (0, 0))) ∧ Hid (Below w.heap.size w wr))
  case atStart =>
    refine ⟨0, by omega, rfl, rfl, ?_, (Below.refl _ w).alloc (Nat.le_refl _) _⟩
    show (w.heap.push _)[_]? = _
    rw [Array.getElem?_push, if_pos rfl, HR.out]
  case round =>
    obtain ⟨j, hj, rfl, hk, HROW, HBW⟩ := hrel
    by_cases hjN : j < N
    · have hjZ : (j : Int) < N := by omega
      obtain ⟨r, HRM⟩ : ∃ r, Hid (r = j % p) := ⟨_, rfl⟩
      have hr : r < p := by rw [HRM.out]; exact Nat.mod_lt _ (by omega)
      have hrT : (j : Int).tmod (p : Int) = (r : Int) := by rw [Int.tmod_eq_emod_of_nonneg (by omega), HRM.out]; omega
      have hrZ : (r : Int) < p := by omega
      have hp0 : ¬ p = 0 := by omega
      have cx : wr.cell? ⟨b, off + r, none⟩ = some (.int .u8 (bk.getD r 0)) := (HBW.out.cell (p := ⟨b, off + r, none⟩) HB.out).trans (HAT.out r (by rw [← HP.out]; exact hr))
      obtain ⟨x, HX⟩ : ∃ x : Int, Hid (x = bk.getD r 0) := ⟨_, rfl⟩
      rw [← HX.out] at cx
      have cg := urow_cell HROW.out j (by rw [part_len]; exact hjN)
      have fg := frozen_of_row wr w.heap.size j _ 5 HROW.out
      go_wp2_with fail
      go_roundg (N - (j + 1))
      case measure => omega
      case rel =>
        refine ⟨j + 1, by omega, by go_num, rfl, ?_, HBW.out.setCell (by simp) _⟩
        show _ = _
        rw [heap_setCell_same wr _ _ _ _ _ HROW.out, ← part_set, HX.out, HRM.out, HP.out]
        simp [List.map_set]
    · obtain rfl : N = j := by omega
      have hjZ : ¬ (N : Int) < (N : Int) := by omega
      rw [part_all] at HROW
      obtain ⟨zs, HZS⟩ : ∃ zs, Hid (zs = rpt bk N) := ⟨_, rfl⟩
      rw [← HZS.out] at HROW
      have hzl : zs.length = N := by rw [HZS.out, rpt_len]
      have HZB : Hid (IsB zs) := by show IsB zs; rw [HZS.out]; exact rpt_isB bk N HZ.out
      have HPER : Hid (∀ i, i + p < zs.length → zs.getD i 0 = zs.getD (i + p) 0) := by
        show ∀ i, _
        rw [HZS.out, HP.out]; exact rpt_per bk N
      have HAG : Hid (At wr w.heap.size 0 zs) := fun i hi => by rw [Nat.zero_add]; exact urow_cell HROW.out i hi
      have hglt : w.heap.size < wr.heap.size := by
        rcases Nat.lt_or_ge w.heap.size wr.heap.size with h | h
        · exact h
        · have := HROW.out; rw [Array.getElem?_eq_none h] at this; cases this
      have DF := deflate_f w.heap.size 0 N zs wr HZB.out HAG.out hglt (by omega) (by omega) (HT.out.below HBW.out).four
      rw [hzl] at DF
      go_wp2_with fail
      refine DF.mono ?_
      clear DF
      rintro ev w2 ⟨v, rfl, z, hD, hS2⟩
      have HD : Hid _ := hD
      have hzp := hD.pos
      have hzlen : z.length ≤ 350000 := by have := hD.len; omega
      obtain ⟨bb, hsq, hzk⟩ := hD.short
      have hk1 := Squeezed.few (p := p) HZB.out (by omega) hl1 hl HPER.out hsq
      rw [hzl] at hk1
      have HK1 : Hid _ := hk1
      have HZK : Hid _ := hzk
      obtain ⟨gz, cz, rfl, hgz1, hgz2⟩ := hS2.owns.form hzp
      have HO2 : Hid (w2.ownsRow wr.heap.size 5 1 (.slice (some ⟨gz, 0, none⟩) z.length cz) z.length (z.map (Value.int .u8))) := hS2.owns
      have HB2 : Hid _ := hS2.below
      have HB02 : Hid (Below w.heap.size w w2) := HBW.out.trans (HB2.out.mono HBW.out.size)
      have HAG2 : Hid (At w2 w.heap.size 0 zs) := fun i hi => (HB2.out.cell (p := ⟨w.heap.size, 0 + i, none⟩) hglt).trans (HAG.out i hi)
      clear hS2 hD hsq hk1 hzk
      have HI : Hid (inflOf z (max (N : Int) 0) = .ok (z.length, zs)) := by
        show _ = _
        have := HD.out.rd [] zs.length (by omega)
        rw [List.append_nil, if_pos (Int.le_refl _), hzl] at this
        rw [show max (N : Int) 0 = N by omega]
        exact this
      have IN := inflate_some gz 0 cz z (N : Int) w2 HD.out.isB (by omega) (owns_capZ HO2.out) (own_isAt HO2.out) hgz2 (by omega) (HT.out.below HB02.out)
      rw [HI.out] at IN
      go_wp2_with fail
      refine IN.mono ?_
      clear IN
      rintro ev w3 ⟨hb3, hm3⟩
      obtain ⟨_, v3, rfl, how3⟩ := hm3
      obtain ⟨av, cv, rfl⟩ := slice_of how3
      have HG3 := hid' (got_of how3)
      have HB03 : Hid (Below w.heap.size w w3) := HB02.out.trans (hb3.mono HB02.out.size)
      have HAG3 : Hid (At w3 w.heap.size 0 zs) := fun i hi => (hb3.cell (p := ⟨w.heap.size, 0 + i, none⟩) (by have := HB2.out.size; show w.heap.size < _; omega)).trans (HAG2.out i hi)
      clear hb3 how3
      have SM := same_any av (some ⟨w.heap.size, 0, none⟩) cv N zs w3 (by omega) (fun h0 => by obtain ⟨g1, e1, _, _, e4⟩ := HG3.out.at_ h0; exact ⟨g1, 0, e1, e4⟩) (fun _ => ⟨w.heap.size, 0, rfl, HAG3.out⟩)
      rw [hzl] at SM
      rw [hzl]
      go_wp2_with fail
      refine SM.mono ?_
      clear SM
      rintro ev w4 ⟨rfl, q4, rfl⟩
      go_wp2_with fail
      refine (tell_nil (w3.drewN q4)).mono ?_
      rintro ev w5 ⟨rfl, hb5⟩
      have HB05 : Hid (Below w.heap.size w w5) := HB03.out.trans ((show Below w3.heap.size w3 w5 from ⟨hb5.os, hb5.tape, hb5.output, hb5.size, hb5.block⟩).mono HB03.out.size)
      clear hb5
      by_cases hp1 : p = 1
      · subst hp1
        have hb1 : z.length ≤ 40 + N / 80 := short_1 HK1.out HZK.out
        have hb1Z : (z.length : Int) ≤ 40 + (N : Int) / 80 := by omega
        go_wp2
        go_ret
        exact ⟨by first | rfl | (simp [hb1Z]), HB05.out⟩
      · have hp1Z : ¬ (p : Int) = 1 := by omega
        have hb1 : z.length ≤ 160 + N / 40 := short_m hl HK1.out HZK.out
        have hb1Z : (z.length : Int) ≤ 160 + (N : Int) / 40 := by omega
        go_wp2
        go_ret
        exact ⟨by first | rfl | (simp [hb1Z]), HB05.out⟩
end Go.Proofs.YtbiibhpknflagaaDoor
/- THE LAW 'DeflateShort': its row, its card. -/
namespace Go.Proofs.YtbiibhpknflagaaDoor.Short
open Go.ChangeShapes Go.WideShapes Go.ChangeAt Go.RowKit Plain
set_option linter.unusedVariables false

set_option maxRecDepth 100000 in
theorem contract (H : Type) (enc : TypeId × Value → H) (W : World) (base : Nat) (args : Array Value) (ds gs : List (DataW H)) (before : List MemPlace)
    (hval : ∀ (j : Nat) t v, Tryd.f6.params[j]? = some t → args[j]? = some v → Value.okWide Tryd.prog W .any base t v)
    (hW : DataW.Whole enc Tryd.prog Tryd.f6.params.toList Rows.deflateShortSpec.vars false W args.toList ds gs before)
    (hsz : (DataW.weightsEach Tryd.prog (Tryd.f6.params.toList ++ (OpenSpec.ofChange Rows.deflateShortSpec).bare.plain.varTypes Tryd.prog) (ds ++ gs)).all (· ≤ reachBytes) = true)
    (hL : laidMetH Tryd.prog Rows.deflateShortRow.laid W) :
    Calls Tryd.prog 6 args W fun e W' => ∃ v, e = .returned v ∧ Rows.deflateShortSpec.post enc Tryd.prog Tryd.f6 false true false false W args v W' := by
  have hW' := hW
  obtain ⟨p, q, hA0, hV, rfl, hfz, hnd⟩ := hW
  have hA : DataW.TrodAll enc Tryd.prog W 0 (fun _ => true) true Tryd.f6.params.toList args.toList ds p := hA0
  rw [Tryd.params6] at hA hval hsz
  obtain ⟨v0, vs0, d0, ds0, p0, q0, hargs, rfl, rfl, h0, r0⟩ := trodAll_cons hA
  obtain ⟨v1, vs1, d1, ds1, p1, q1, rfl, rfl, rfl, h1, r1⟩ := trodAll_cons r0
  obtain ⟨rfl, rfl, rfl⟩ := trodAll_nil r1
  obtain rfl : args = #[v0, v1] := by cases args; simp_all
  obtain ⟨rfl, rfl⟩ := trodVars_none hV
  have k0 := h0
  have k1 := h1
  have lt0 : ∀ x ∈ p0, x.block < W.heap.size := by obtain ⟨m, hm⟩ := k0; exact DataW.trod_lt m _ _ _ hm
  have lt1 : ∀ x ∈ p1, x.block < W.heap.size := by obtain ⟨m, hm⟩ := k1; exact DataW.trod_lt m _ _ _ hm
  obtain ⟨a0, len0, cap0, rfl⟩ := okWide_slice Tryd.underlying22 (hval 0 22 v0 rfl rfl)
  obtain ⟨most, rfl⟩ := okWide_int Reads.u3 (hval 1 3 v1 rfl rfl)
  obtain ⟨t0, o0, b0⟩ : ∃ t, Round.One W (.slice a0 len0 cap0) t ∧ (t.2.2.length = 0 ∨ ∃ n, n ∈ d0.weights Tryd.prog 22 ∧ t.2.2.length ≤ n) := by
    obtain ⟨fuel, hf⟩ := h0
    exact Round.open_one (y := (d0, p0)) hf
  have hm : ∀ n, n ∈ d0.weights Tryd.prog 22 → n ≤ reachBytes := by
    intro n hn
    refine of_decide_eq_true (List.all_eq_true.1 hsz n ?_)
    show n ∈ DataW.weightsEach Tryd.prog ([22, 3] ++ _) ([d0, d1] ++ [])
    simp only [List.cons_append, List.nil_append, List.append_nil, DataW.weightsEach, List.mem_append]
    exact .inl hn
  have m0 : t0.2.2.length ≤ 200000000000000 := by
    rcases b0 with h | ⟨n, h1, h2⟩
    · omega
    · have := hm n h1
      unfold reachBytes at this
      omega
  clear hA0 b0 hm
  have ht := Reads.tabs_of_laid (W := W) hL
  obtain ⟨e0, z0, c0, n0⟩ := o0
  have walk : Calls Tryd.prog 6 #[.slice a0 len0 cap0, .int .i64 most] W fun e w' => e = .returned (.bool true) ∧ Below W.heap.size W w' := by
    rw [e0]
    by_cases hl : 1 ≤ t0.2.2.length ∧ t0.2.2.length ≤ 100
    · obtain ⟨b, off, h1, h2, h3⟩ := c0 (by omega)
      rw [h1]
      exact walkH b off t0.2.1 t0.2.2 most W hl.2 hl.1 z0 h2 h3 ht
    · exact walkH_none _ _ _ most W (by omega) (by unfold maxLen; omega)
  refine walk.mono fun e W' ⟨he, bel⟩ => ?_
  subst he
  exact ⟨_, rfl, _, _, _, [], _, [], hW', trodAll_mk1 (shut_bool Tryd.underlying4 _), (trodAll_cons_mk (Below.trod Reads.laidOut (by kernel_rfl) (of_decide_eq_true (by kernel_rfl)) k0 bel lt0) (trodAll_cons_mk (Below.trod Reads.laidOut (by kernel_rfl) (of_decide_eq_true (by kernel_rfl)) k1 bel lt1) trodAll_mk0)), rfl, bel.frame _, fun h => by cases h⟩

def wit : Array Value := #[.slice none 0 0, .int .i64 0]
theorem laid_met (os : Os) : laidMetH Tryd.prog Rows.deflateShortRow.laid ((Reads.layIn (World.holding Tryd.prog os ⟨#[], #[], []⟩)).forCall (fun _ _ => 0) ⟨#[], wit, []⟩).memory :=
  laidMetH_of_parts (laidMet_of_run' 8 (by kernel_rfl) (by kernel_rfl)) (by kernel_rfl)
theorem reads (os : Os) {H : Type} (enc : TypeId × Value → H) : ∃ ds places, DataW.whole enc Tryd.prog ((Reads.layIn (World.holding Tryd.prog os ⟨#[], #[], []⟩)).forCall (fun _ _ => 0) ⟨#[], wit, []⟩).memory Tryd.f6.params.toList Rows.deflateShortSpec.vars false wit.toList 8 = some (ds, [], places) :=
  ⟨[.nil, .lit (.int .i64 0)], [], by kernel_rfl⟩

set_option maxRecDepth 100000 in
theorem lifted (os : Os) (started : os.Started) (H : Type) (enc : TypeId × Value → H) (F : Stop.Interp) :
    ReturnsInHanded {} Tryd.checked os 6 .any ((OpenSpec.ofChange Rows.deflateShortSpec).preRow enc Tryd.prog Tryd.f6 Rows.deflateShortRow.domain false Rows.deflateShortRow.laid) (((OpenSpec.ofChange Rows.deflateShortSpec).at F).post enc Tryd.prog Tryd.f6 false true false false) := by
  obtain ⟨ds, places, hx⟩ := reads os enc
  refine returnsInHanded_of_row (C := Tryd.checked) (s := OpenSpec.ofChange Rows.deflateShortSpec) Reads.own started (by kernel_rfl) Tryd.func6
    (witness_row_at (enc := enc) (C := Tryd.checked) false (Reads.layIn (World.holding Tryd.prog os ⟨#[], #[], []⟩)) wit rfl (by kernel_rfl) (by kernel_rfl) (by kernel_rfl)
      (OpenSpec.preRow_of_cond 8 hx (by kernel_rfl) (fun k hk => by cases hk) (by kernel_rfl) (laid_met os))) ?_
  intro W base args ds gs before hval hW _ _ hsz hL _ _
  exact contract H enc W base args ds gs before hval hW hsz hL

theorem said : Rows.DeflateShortSaid :=
  OpenClaim.holds_of_cond 6 Tryd.f6 rfl rfl rfl rfl rfl rfl rfl ⟨rfl, rfl, rfl, rfl, rfl⟩ rfl rfl rfl rfl rfl (by kernel_rfl) Tryd.func6 (by kernel_rfl)
    (of_decide_eq_true (by kernel_rfl)) (by unfold Func.isWrapper; first | (rw [if_pos (by decide +kernel)]; kernel_rfl) | (rw [if_neg (by decide +kernel)]; exact ⟨rfl, rfl⟩))
    (fun os started H enc _ F => by rw [OpenClaim.pre_eq_preRow]; exact lifted os started H enc F)

theorem plain (f : FuncId) (fn : Func) (hf : Tryd.pinned.checked.prog.funcNamed "gitlike/gitlikelaw1.DeflateShort" = some f) (hfn : Tryd.pinned.checked.prog.funcs[f]? = some fn) :
    true = Tryd.pinned.checked.prog.looks [] ∧ ∀ (j : Nat) t, fn.params[j]? = some t → Tryd.pinned.checked.prog.wantsStandIn t = false := by
  obtain rfl : f = 6 := Option.some.inj ((show Tryd.prog.funcNamed "gitlike/gitlikelaw1.DeflateShort" = some 6 by kernel_rfl).symm.trans hf) |>.symm
  obtain rfl : fn = Tryd.f6 := (Option.some.inj (Tryd.func6.symm.trans hfn)).symm
  refine ⟨by kernel_rfl, fun j t ht => ?_⟩
  rw [Tryd.params6] at ht
  have hm : t = 22 ∨ t = 3 := by simpa using Array.mem_of_getElem? ht
  rcases hm with rfl | rfl
  · exact (show Tryd.prog.wantsStandIn 22 = false by kernel_rfl)
  · exact (show Tryd.prog.wantsStandIn 3 = false by kernel_rfl)

end Go.Proofs.YtbiibhpknflagaaDoor.Short
namespace Go.Proofs.YtbiibhpknflagaaDoor
/-- THE CARD -/
theorem deflateShort_card : Rows.DeflateShortCardSaid :=
  Claim7.holds_tied_plain_at .later [] _ _ _ _ Short.said (fun _ h => by cases h) (by kernel_rfl) (fun _ h => by cases h) deflateShort_row_tie rfl ⟨rfl, rfl⟩ (by kernel_rfl) rfl Short.plain (by kernel_rfl)
#print axioms deflateShort_card
end Go.Proofs.YtbiibhpknflagaaDoor
