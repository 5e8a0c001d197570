/- 'readRow'. -/
import Derived.Test.YtbiibhpknflagaaDoorToldB
namespace Go.Proofs.YtbiibhpknflagaaDoor
open Go.RowKit Plain
set_option linter.unusedVariables false

/-- 1.5: the row of lengths, by a decoder; so many of them. -/
def rowF (dc : Nat → Option (Nat × Nat)) (zs : List Int) (size : Nat) : Nat → Nat → List Nat → Option (Nat × List Nat)
  | 0, p, row => if row.length < size then none else some (p, row)
  | f + 1, p, row =>
    if row.length < size then
      match dc p with
      | none => none
      | some (y, p1) =>
        match runOf zs p1 y row with
        | none => none
        | some (x, t, q) => if size - row.length < t then none else rowF dc zs size f q (row ++ List.replicate t x)
    else some (p, row)
theorem runOf_pos {zs : List Int} {p y x t q : Nat} {row : List Nat} (h : runOf zs p y row = some (x, t, q)) : 1 ≤ t ∧ t ≤ 138 := by
  unfold runOf at h
  have g2 := getB_lt zs p 2
  have g3 := getB_lt zs p 3
  have g7 := getB_lt zs p 7
  by_cases h16 : y = 16
  · rw [if_pos h16] at h
    by_cases h0 : row.length = 0
    · rw [if_pos h0] at h; cases h
    · rw [if_neg h0] at h
      by_cases h1 : 8 * zs.length < p + 2
      · rw [if_pos h1] at h; cases h
      · rw [if_neg h1] at h; simp only [Option.some.injEq, Prod.mk.injEq] at h; omega
  · rw [if_neg h16] at h
    by_cases h17 : y = 17
    · rw [if_pos h17] at h
      by_cases h1 : 8 * zs.length < p + 3
      · rw [if_pos h1] at h; cases h
      · rw [if_neg h1] at h; simp only [Option.some.injEq, Prod.mk.injEq] at h; omega
    · rw [if_neg h17] at h
      by_cases h18 : y = 18
      · rw [if_pos h18] at h
        by_cases h1 : 8 * zs.length < p + 7
        · rw [if_pos h1] at h; cases h
        · rw [if_neg h1] at h; simp only [Option.some.injEq, Prod.mk.injEq] at h; omega
      · rw [if_neg h18] at h; simp only [Option.some.injEq, Prod.mk.injEq] at h; omega
theorem runOf_15 {zs : List Int} {p y x t q : Nat} {row : List Nat} (h : runOf zs p y row = some (x, t, q)) (hy : y < 19) (hr : ∀ z ∈ row, z ≤ 15) : x ≤ 15 := by
  unfold runOf at h
  by_cases h16 : y = 16
  · rw [if_pos h16] at h
    by_cases h0 : row.length = 0
    · rw [if_pos h0] at h; cases h
    · rw [if_neg h0] at h
      by_cases h1 : 8 * zs.length < p + 2
      · rw [if_pos h1] at h; cases h
      · rw [if_neg h1] at h
        simp only [Option.some.injEq, Prod.mk.injEq] at h
        rw [← h.1, List.getD_eq_getElem?_getD, List.getElem?_eq_getElem (by omega)]
        exact hr _ (List.getElem_mem _)
  · rw [if_neg h16] at h
    by_cases h17 : y = 17
    · rw [if_pos h17] at h
      by_cases h1 : 8 * zs.length < p + 3
      · rw [if_pos h1] at h; cases h
      · rw [if_neg h1] at h; simp only [Option.some.injEq, Prod.mk.injEq] at h; omega
    · rw [if_neg h17] at h
      by_cases h18 : y = 18
      · rw [if_pos h18] at h
        by_cases h1 : 8 * zs.length < p + 7
        · rw [if_pos h1] at h; cases h
        · rw [if_neg h1] at h; simp only [Option.some.injEq, Prod.mk.injEq] at h; omega
      · rw [if_neg h18] at h; simp only [Option.some.injEq, Prod.mk.injEq] at h; omega
theorem decGo_lt19 {cnt srt : List Nat} {zs : List Int} (hs : ∀ i, srt.getD i 0 < 19) : ∀ (f n b first passed p y p' : Nat), decGo cnt srt zs f n b first passed p = some (y, p') → y < 19
  | 0, _, _, _, _, _, _, _, h => by simp [decGo] at h
  | f + 1, n, b, first, passed, p, y, p', h => by
    rw [decGo] at h
    split at h
    · simp at h
    · split at h
      · simp only [Option.some.injEq, Prod.mk.injEq] at h; rw [← h.1]; exact hs _
      · exact decGo_lt19 hs f _ _ _ _ _ _ _ h
theorem dec_lt19 {cnt srt : List Nat} {zs : List Int} {p y p' : Nat} (h : dec cnt srt zs p = some (y, p')) (hs : ∀ i, srt.getD i 0 < 19) : y < 19 := decGo_lt19 hs _ _ _ _ _ _ _ _ h
theorem owns_below {w w' : World} {B : Nat} {e : TypeId} {s : Nat} {v : Value} {n : Nat} {xs : List Value} (h : w.ownsRow B e s v n xs) (hb : Below w.heap.size w w') : w'.ownsRow B e s v n xs :=
  h.kept (row := none) ⟨hb.os, hb.tape, hb.output, hb.size, fun k hk _ => hb.block k hk⟩ (by
    cases hv : v.ownBlock with
    | none => exact .inl rfl
    | some k => exact .inr (by simp))
theorem owns_off {w : World} {B S : Nat} {e : TypeId} {s : Nat} {v : Value} {n : Nat} {xs : List Value} (h : w.ownsRow B e s v n xs) (hS : S < B) : some S ≠ v.ownBlock := fun e => by have := (h.lt S e.symm).1; omega
theorem arr_app (a b : List Nat) : arr (a ++ b) = arr a ++ arr b := by simp [arr]

set_option maxRecDepth 20000 in
set_option maxHeartbeats 4000000 in
theorem readRow_any (E : Env) (p size : Nat) (v : Value) (w : World) (hz : IsB E.zs) (hl : E.zs.length ≤ 400000) (h : Rd w E p v) (hs : size ≤ 400) (hvb : ∀ k, v.ownBlock = some k → k < w.heap.size)
    (L : Loc) (cl sl : List Nat) (hcl : CodeAt w E v L cl sl) (okl : CodeOK cl sl) (hsl : ∀ i, sl.getD i 0 < 19) :
    Calls Tryd.prog 59 #[.pointer (some ⟨E.S, 0, none⟩), .func (.func 80) #[] #[.pointer (some ⟨L.bs, 0, none⟩), .pointer (some ⟨L.bc, 0, none⟩), .pointer (some ⟨L.bd, 0, none⟩)], .int .i64 size] w fun e w' => Kept E.S (.bool true) (.bool true) w w' ∧
      match rowF (dec cl sl E.zs) E.zs size size p [] with
      | some (q, row) => Rd w' E q v ∧ row.length = size ∧ (∀ z ∈ row, z ≤ 15) ∧ ∃ vr, e = .returned vr ∧ w'.ownsRow w.heap.size 3 1 vr size (arr row)
      | none => e = .panicked (errv 10) := by
  obtain ⟨i3, hi, hz0, hz1, hz2⟩ := info_parts Tryd.info3
  have hSl := h.lt
  obtain ⟨r, HR0⟩ : ∃ r, Hid (rowF (dec cl sl E.zs) E.zs size size p [] = r) := ⟨_, rfl⟩
  rw [HR0.out]
  go_enter Tryd.func59, Tryd.ntmps59
  go_wp2
  go_loopg [7] size (fun k vr wr => ∃ (f p' m cp : Nat) (a : Option Addr) (row : List Nat), vr = .slice a m cp ∧ Hid (row.length = m) ∧ k = size - m ∧ m ≤ size ∧ size - m ≤ f ∧ Hid (∀ z ∈ row, z ≤ 15) ∧ Hid (rowF (dec cl sl E.zs) E.zs size f p' row = r) ∧ Hid (Rd wr E p' v) ∧ Hid (Kept E.S (.bool true) (.bool true) w wr) ∧ Hid (wr.ownsRow w.heap.size 3 1 (.slice a m cp) m (arr row)))
  case atStart => exact ⟨size, p, 0, 0, none, [], rfl, rfl, by simp, by simp, by simp, by simp [Hid], HR0, h, Kept.refl _ _ _, World.ownsRow_nil _ _ _ _⟩
  case round =>
    obtain ⟨f, p', m, cp, a, row, rfl, Hm, hk, hms, hf, H15, HF, HR, HK, HO⟩ := hrel
    have E0 := HF.out
    by_cases hlt : m < size
    · obtain ⟨f, rfl⟩ : ∃ f', f = f' + 1 := ⟨f - 1, by omega⟩
      rw [rowF, if_pos (by rw [Hm.out]; exact hlt)] at E0
      have hltZ : (m : Int) < size := by omega
      have hc0 := hcl.kept (HK.out.weak v)
      cases hd : dec cl sl E.zs p' with
      | none =>
        rw [hd] at E0
        simp only [] at E0
        subst E0
        go_wp2_with fail
        refine (dec_bad E L cl sl p' v wr hz hl HR.out hc0 okl hd).mono ?_
        rintro e w1 ⟨rfl, k1⟩
        exact ⟨rfl, HK.out.trans k1, rfl⟩
      | some yp =>
        obtain ⟨y, p1⟩ := yp
        have hy19 := dec_lt19 hd hsl
        rw [hd] at E0
        simp only [] at E0
        go_wp2_with fail
        refine (dec_ok E L cl sl p' y p1 v wr hz hl HR.out hc0 okl hd).mono ?_
        rintro e w1 ⟨rfl, r1, k1⟩
        have HK1 : Hid (Kept E.S (.bool true) (.bool true) w w1) := HK.out.trans k1
        have HO1 : Hid (w1.ownsRow w.heap.size 3 1 (.slice a m cp) m (arr row)) := k1.owns HO.out (owns_off HO.out hSl.1)
        have hrr : 0 < m → a = some ⟨(a.getD ⟨0, 0, none⟩).block, 0, none⟩ ∧ (a.getD ⟨0, 0, none⟩).block < w1.heap.size ∧ (a.getD ⟨0, 0, none⟩).block ≠ E.S ∧ w1.cell? ⟨(a.getD ⟨0, 0, none⟩).block, m - 1, none⟩ = some (.int .i64 (row.getD (m - 1) 0 : Nat)) := fun hm0 => by
          obtain ⟨g, cap', hv, hg1, hg2⟩ := HO1.out.form hm0
          simp only [Value.slice.injEq] at hv
          obtain ⟨rfl, _, rfl⟩ := hv
          refine ⟨rfl, hg2, by have := hSl.1; simp; omega, ?_⟩
          have := HO1.out.cellAt (m - 1) (by omega)
          rw [show (Option.getD (some ({ block := g, off := 0 } : Addr)) ⟨0, 0, none⟩).block = g from rfl, this, arr_at row (m - 1) (by rw [Hm.out]; omega)]
        clear hd
        cases hrn : runOf E.zs p1 y row with
        | none =>
          rw [hrn] at E0
          simp only [] at E0
          subst E0
          go_wp2_with fail
          refine (readRun_any E p1 y m cp _ a v row w1 hz hl r1 (by omega) Hm.out (by omega) hrr).mono ?_
          rintro e w2 ⟨k2, he⟩
          rw [hrn] at he
          simp only [] at he
          subst he
          exact ⟨rfl, HK1.out.trans k2, rfl⟩
        | some xtq =>
          obtain ⟨x, t, q⟩ := xtq
          have htp := runOf_pos hrn
          have hx15 := runOf_15 hrn hy19 H15.out
          rw [hrn] at E0
          simp only [] at E0
          go_wp2_with fail
          refine (readRun_any E p1 y m cp _ a v row w1 hz hl r1 (by omega) Hm.out (by omega) hrr).mono ?_
          rintro e w2 ⟨k2, he⟩
          rw [hrn] at he
          simp only [] at he
          obtain ⟨rfl, r2⟩ := he
          have HK2 : Hid (Kept E.S (.bool true) (.bool true) w w2) := HK1.out.trans k2
          have HO2 : Hid (w2.ownsRow w.heap.size 3 1 (.slice a m cp) m (arr row)) := k2.owns HO1.out (owns_off HO1.out hSl.1)
          have HR2 : Hid (Rd w2 E q v) := r2
          clear hrr hrn r1 r2 k1 k2
          rw [Hm.out] at E0
          by_cases hts : size - m < t
          · rw [if_pos hts] at E0
            subst E0
            have htsZ : (size : Int) - m < t := by omega
            go_wp2
            exact ⟨rfl, HK2.out, rfl⟩
          · rw [if_neg hts] at E0
            have HE0 : Hid (_ = r) := E0
            have htsZ : ¬ (size : Int) - m < t := by omega
            clear E0
            go_wp2_with fail
            refine (repeat1_any w2.heap.size t x (w2.alloc (.cells #[.int .i64 (x : Int)] 3)) (by omega) htp.1 (by simp) (by simp)).mono ?_
            rintro e w3 ⟨g, hg0, rfl, hb3, hg3⟩
            have hb23 : Below w2.heap.size w2 w3 := ((Below.refl _ _).alloc (Nat.le_refl _) _).trans (hb3.mono (by simp))
            have HO3 : Hid (w3.ownsRow w.heap.size 3 1 (.slice a m cp) m (arr row)) := owns_below HO2.out hb23
            have HK3 : Hid (Kept E.S (.bool true) (.bool true) w w3) := HK2.out.trans (Kept.of_below hb23)
            have HR3 : Hid (Rd w3 E q v) := HR2.out.below hb23
            have HG3 : Hid (w3.heap[g]? = some (.cells (arr (List.replicate t x)).toArray 3 (0, 0))) := hg3
            clear hb23 hb3 hg3
            go_wp2_with (at_builtin; refine wpList_append_lies _ rfl _ _ _ rfl w.heap.size 3 i3 (.int .i64 0) 1 8 Tryd.underlying70 hi hz0 hz1 hz2 rfl (by omega) (.slice a m cp) m (arr row) rfl HO3.out ⟨g, 0, none⟩ t t (arr (List.replicate t x)) rfl ?b2 ?b3 (arr_one _) htp.1 ?b5 ?b6 ?b7 w3.heap.size rfl ?_)
            case b2 => rw [arr_len, List.length_replicate]; omega
            case b3 => exact World.news_of_block HG3.out
            case b5 => unfold maxLen; omega
            case b6 => omega
            case b7 => have := HK3.out.size; omega
            · intro g2 cp2 w4 hown4 hgrow hat hlt4
              have hoff : ∀ k, k < w.heap.size → w4.heap[k]? = w3.heap[k]? := fun k hk => hgrow.block k (by have := HK3.out.size; omega) (fun e => by have := (HO3.out.lt k e.symm).1; omega)
              have HR4 : Hid (Rd w4 E q v) := HR3.out.frame (hoff _ hSl.1) (hoff _ hSl.2) hgrow.size
              have HK4 : Hid (Kept E.S (.bool true) (.bool true) w w4) := ⟨hgrow.os.trans HK3.out.os, hgrow.tape.trans HK3.out.tape, hgrow.output.trans HK3.out.output, Nat.le_trans HK3.out.size hgrow.size, fun k h1 h2 h3 => (hoff k h1).trans (HK3.out.block k h1 h2 h3), .inl rfl⟩
              have HO4 : Hid (w4.ownsRow w.heap.size 3 1 (.slice (some ⟨g2, 0, none⟩) (m + t) cp2) (m + t) (arr (row ++ List.replicate t x))) := by rw [arr_app]; exact hown4
              have H154 : Hid (∀ z ∈ row ++ List.replicate t x, z ≤ 15) := fun z hz => by
                rcases List.mem_append.1 hz with hz | hz
                · exact H15.out z hz
                · have := List.eq_of_mem_replicate hz; omega
              clear hown4 hgrow hat hoff
              go_wp2
              go_roundg (size - (m + t))
              case measure => omega
              case rel => exact ⟨f, q, m + t, cp2, some ⟨g2, 0, none⟩, row ++ List.replicate t x, rfl, by show _ = _; rw [List.length_append, List.length_replicate, Hm.out], rfl, by omega, by omega, H154, HE0, HR4, HK4, HO4⟩
    · obtain rfl : m = size := by omega
      have E1 : r = some (p', row) := by
        rw [← E0]
        cases f with
        | zero => rw [rowF, if_neg (by rw [Hm.out]; exact hlt)]
        | succ f => rw [rowF, if_neg (by rw [Hm.out]; exact hlt)]
      subst E1
      go_wp2
      go_ret
      exact ⟨HK.out, HR.out, Hm.out, H15.out, _, rfl, HO.out⟩
end Go.Proofs.YtbiibhpknflagaaDoor
