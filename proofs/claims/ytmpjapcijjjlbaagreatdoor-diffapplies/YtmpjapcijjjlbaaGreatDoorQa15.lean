import Derived.Test.YtmpjapcijjjlbaaGreatDoorQa14
namespace Go.Proofs.YtmpjapcijjjlbaaGreatDoor
open Go.RowKit
set_option linter.unusedVariables false
set_option linter.unusedSimpArgs false
abbrev Gz := Nat × Nat × Gh
def z0 : Gz := (0, 0, g0)
def encHz (x : Gz) : List Value := [.int .i64 x.2.2.1, .int .i64 (x.1 : Int), .int .i64 x.2.2.2.1, .int .i64 (x.2.1 : Int), slE x.2.2]
abbrev PZ (w : World) (b : Option Addr) (cap : Nat) (l : List Gz) : Prop := Px encHz 5 z0 w b cap l
abbrev BZ (w0 w : World) (B : Nat) (v : Value) (l : List Gz) : Prop := Bx encHz 5 59 w0 w B v l
theorem encHz_len (x : Gz) : (encHz x).length = 5 := rfl
theorem encHz_one (x : Gz) : ∀ v ∈ encHz x, v.oneCell' = true := by
  intro v hv
  simp only [encHz, List.mem_cons, List.not_mem_nil, or_false] at hv
  rcases hv with rfl | rfl | rfl | rfl | rfl <;> rfl
def OwZ (w : World) (B : Nat) (x : Gz) : Prop := w.ownsRow B 61 2 (slE x.2.2) x.2.2.2.2.2.2.length (x.2.2.2.2.2.2.flatMap encE)
def gz (l : List Gz) : List Gh := l.map (·.2.2)
theorem Tryz.info59 : (Tryz.prog.info? 59).map (fun i => (i.zero, i.size, i.bytes)) = some (some (.agg #[.int .i64 0, .int .i64 0, .int .i64 0, .int .i64 0, .slice none 0 0]), 5, 56) := by kernel_rfl
theorem und54 : Tryz.prog.underlying 54 = some (.slice 59) := by kernel_rfl
theorem run_build54 (a b c d : Int) (v : Value) (hv : ∃ p q r, v = .slice p q r) (w : World) : (Instr.buildSlice 54 1 #[(0, .agg #[.int .i64 a, .int .i64 b, .int .i64 c, .int .i64 d, v])]).run Tryz.prog w = .ok (.slice (some ⟨w.heap.size, 0, none⟩) 1 1) (w.alloc (.cells #[.int .i64 a, .int .i64 b, .int .i64 c, .int .i64 d, v] 59)) := by
  obtain ⟨p, q, r, rfl⟩ := hv
  obtain ⟨i, hq, hz, hs, _⟩ := info_parts Tryz.info59
  refine run_buildSlice w 54 59 1 _ #[.int .i64 a, .int .i64 b, .int .i64 c, .int .i64 d, .slice p q r] i _ und54 hq hz (by rw [hs]; decide) (by rw [hs]; decide) ?_
  rw [hs]
  kernel_rfl
theorem pz_one (x : Gz) (e : TypeId) (w : World) : PZ (w.alloc (.cells (encHz x).toArray e)) (some ⟨w.heap.size, 0, none⟩) 1 [x] :=
  ⟨by simp, fun _ => ⟨w.heap.size, 0, rfl, by simp, fun i hi => by
    obtain rfl : i = 0 := by simp at hi; omega
    have := range_row (cs := encHz x) (heap_alloc_new w (.cells (encHz x).toArray e))
    simpa using this⟩, fun h => by cases h⟩
structure HkI (p : Str) (w wr : World) (G : Nat) (v : Value) (s : Str) (e g : Int) (l : List Gz) : Prop where
  hk : hkX 0 0 p = (hkX e g s).map fun y => (gz l).map prj ++ y
  row : BZ w wr G v l
  own : ∀ y ∈ l, OwZ wr G y
  le : s.length + l.length ≤ p.length
  eb : 0 ≤ e ∧ e ≤ 20000000000
  gb : -((p.length - s.length : Nat) : Int) ≤ g ∧ g ≤ ((p.length - s.length : Nat) : Int)
def PostHk (p : Str) (w : World) (G : Nat) (e : Ending) (w' : World) : Prop :=
  Below G w w' ∧ ((∃ l v, hkX 0 0 p = some ((gz l).map prj) ∧ l.length ≤ p.length ∧ BZ w w' G v l ∧ (∀ y ∈ l, OwZ w' G y) ∧ e = .returned (.tuple #[v, .bool true])) ∨ (hkX 0 0 p = none ∧ e = .returned (.tuple #[.slice none 0 0, .bool false])))
theorem own_belowZ {w w' : World} {B : Nat} {y : Gz} (h : OwZ w B y) (hb : Below w.heap.size w w') : OwZ w' B y := own_below h hb
theorem bgH_lt (s : Str) (h : bgOk s) : ∃ A N B M : Nat, bgH s = ((A : Int), N, (B : Int), M) ∧ A < 1000000000 ∧ N < 1000000000 ∧ B < 1000000000 ∧ M < 1000000000 := by
  obtain ⟨a, n, b, m, e, _, h1, h2, h3, h4⟩ := bg_read h
  exact ⟨a, n, b, m, e, by omega, by omega, by omega, by omega⟩
theorem Tryz.results22 : Tryz.f22.results = #[.tmp 2, .tmp 3] := by kernel_rfl
theorem ne_any {α : Type} {l : List α} {f : α → Bool} (h : l.any f = true) : 0 < l.length := by cases l with | nil => simp at h | cons a l => simp
theorem cAB_le : ∀ es : List Ed, cA es ≤ es.length ∧ cB es ≤ es.length
  | [] => by simp [cA, cB]
  | e :: r => by
    have h := cAB_le r
    rw [cA_cons, cB_cons, List.length_cons]
    unfold cA1 cB1
    split <;> split <;> omega
theorem hk_size {s : Str} {es : List Ed} {r : Str} (h : bgOk s) (h1 : lnX (bgH s).2.1 (bgH s).2.2.2 0 0 (bg9 s).1 = some (es, r)) : es.length + r.length < s.length ∧ (bgH s).2.1 ≤ es.length ∧ (bgH s).2.2.2 ≤ es.length := by
  unfold lnX at h1
  obtain ⟨e, _, e1, e2⟩ := lnL_read _ _ _ _ _ _ _ _ h1
  have h2 := congrArg List.length e
  have h3 := bg9_less h
  have h4 := lines_long es
  have h5 := cAB_le es
  rw [List.length_append] at h2
  omega
structure Nm (s : Str) (At : Int) (N : Nat) (To : Int) (M : Nat) (t : Str) : Prop where
  h : bgH s = (At, N, To, M)
  t : (bg9 s).1 = t
structure OkS (s : Str) : Prop where
  h : bgOk s
theorem Nm.ok {s : Str} {At : Int} {N : Nat} {To : Int} {M : Nat} {t : Str} (h : Nm s At N To M t) (ho : OkS s) (hl : s.length ≤ 1000000) (W : World) : Calls Tryz.prog 46 #[.string ⟨s.toArray⟩] W fun e w' => Below W.heap.size W w' ∧ e = .returned (.tuple #[.agg #[.int .i64 At, .int .i64 (N : Int), .int .i64 To, .int .i64 (M : Int), .slice none 0 0], .string ⟨t.toArray⟩, .bool true]) := by
  have := begin_any s hl W
  rw [decide_eq_true ho.h, h.h, h.t] at this
  exact this
theorem Nm.bad {s : Str} {At : Int} {N : Nat} {To : Int} {M : Nat} {t : Str} (h : Nm s At N To M t) (ho : ¬ OkS s) (hl : s.length ≤ 1000000) (W : World) : Calls Tryz.prog 46 #[.string ⟨s.toArray⟩] W fun e w' => Below W.heap.size W w' ∧ e = .returned (.tuple #[.agg #[.int .i64 At, .int .i64 (N : Int), .int .i64 To, .int .i64 (M : Int), .slice none 0 0], .string ⟨t.toArray⟩, .bool false]) := by
  have := begin_any s hl W
  rw [decide_eq_false (fun e => ho ⟨e⟩), h.h, h.t] at this
  exact this
theorem Nm.lt {s : Str} {At : Int} {N : Nat} {To : Int} {M : Nat} {t : Str} (h : Nm s At N To M t) (ho : OkS s) : ((0 ≤ At ∧ At < 1000000000) ∧ 0 ≤ To ∧ To < 1000000000) ∧ N < 1000000000 ∧ M < 1000000000 ∧ t.length < s.length := by
  obtain ⟨a, n, b, m, e, h1, h2, h3, h4⟩ := bgH_lt s ho.h
  have h5 := bg9_less ho.h
  rw [h.h] at e
  rw [h.t] at h5
  cases e
  omega
theorem Nm.go {s : Str} {At : Int} {N : Nat} {To : Int} {M : Nat} {t : Str} (h : Nm s At N To M t) (ho : OkS s) (hs : s ≠ []) (e g : Int) (es : List Ed) (r : Str) (h1 : lnX N M 0 0 t = some (es, r)) :
    hkX e g s = if es.any chE = true ∧ e ≤ At ∧ To = At + g then (hkX (At + (N : Int)) (g + (M : Int) - (N : Int)) r).map (fun y => (At, To, es) :: y) else none := by
  have := (hkX_go e g s hs ho.h es r (by rw [h.h, h.t]; exact h1)).2
  rw [h.h] at this
  exact this
theorem Nm.no {s : Str} {At : Int} {N : Nat} {To : Int} {M : Nat} {t : Str} (h : Nm s At N To M t) (ho : OkS s) (hs : s ≠ []) (e g : Int) (h1 : ∀ es r, lnX N M 0 0 t = some (es, r) → es.any chE = false) : hkX e g s = none := by
  cases hx : lnX N M 0 0 t with
  | none => exact hkX_no e g s hs ho.h (by rw [h.h, h.t]; exact hx)
  | some y =>
    obtain ⟨es, r⟩ := y
    rw [h.go ho hs e g es r hx, if_neg (fun h2 => by rw [h1 es r hx] at h2; exact absurd h2.1 (by decide))]
theorem Nm.size {s : Str} {At : Int} {N : Nat} {To : Int} {M : Nat} {t : Str} (h : Nm s At N To M t) (ho : OkS s) (es : List Ed) (r : Str) (h1 : lnX N M 0 0 t = some (es, r)) : es.length + r.length < s.length ∧ N ≤ es.length ∧ M ≤ es.length := by
  have := hk_size ho.h (es := es) (r := r) (by rw [h.h, h.t]; exact h1)
  rw [h.h] at this
  exact this
set_option maxRecDepth 20000 in
set_option maxHeartbeats 4000000 in
theorem hunks_any {w : World} (a : Option Addr) (ca : Nat) (p : Str) (hP : PB w a ca p) (hp : p.length ≤ 4000) : Calls Tryz.prog 22 #[.slice a p.length ca] w (PostHk p w w.heap.size) := by
  obtain ⟨P0, HP0⟩ : ∃ Z : ByteArray, Hid (⟨p.toArray⟩ = Z) := ⟨_, hid rfl⟩
  obtain ⟨G, HG⟩ : ∃ n, Hid (w.heap.size = n) := ⟨_, rfl⟩
  obtain ⟨np, HNP⟩ : ∃ n, Hid (p.length = n) := ⟨_, rfl⟩
  have hcv := conv_str hP
  unfold sV at hcv
  rw [HP0.out, HNP.out] at hcv
  have HGE : Hid (∀ W, Below G w W → G ≤ W.heap.size) := hid (fun W hW => by have := hW.size; have := HG.out; omega)
  have HI0 : Hid (HkI p w w G (.slice none 0 0) p 0 0 []) := hid ⟨by simp [gz], ⟨Below.refl _ _, ⟨rfl, .inl ⟨rfl, rfl⟩⟩, by rw [HG.out]; exact Nat.le_refl _⟩, (fun y hy => by cases hy), by simp, ⟨by omega, by omega⟩, ⟨by omega, by omega⟩⟩
  have HPL : Hid (p.length ≤ 4000) := hid hp
  rw [HNP.out, HG.out]
  clear hP hp
  go_enter Tryz.func22, Tryz.ntmps22
  go_wp2_with fail
  clear hcv
  go_loopg [4, 5, 6, 7] p.length (fun gg sv lv ev gv wr => ∃ (s : Str) (S : ByteArray) (e g : Int) (l : List Gz), sv = .string S ∧ Hid (⟨s.toArray⟩ = S) ∧ ev = .int .i64 e ∧ gv = .int .i64 g ∧ Hid (HkI p w wr G lv s e g l) ∧ gg = s.length)
  case atStart => exact ⟨p, P0, 0, 0, [], rfl, HP0, rfl, rfl, HI0, rfl⟩
  case round =>
    obtain ⟨s, S, en, gr, l, rfl, HS, rfl, rfl, HST, hgg⟩ := hrel
    obtain ⟨wo, hwo⟩ : ∃ u, u = wr := ⟨_, rfl⟩
    subst hwo
    obtain ⟨la, lc, q, HLV, HQL⟩ : ∃ la lc q, Hid (u5 = .slice la q lc) ∧ Hid (l.length = q) := by
      obtain ⟨a, c, e⟩ := owns_shape HST.out.row.own
      exact ⟨a, c, _, hid e, hid rfl⟩
    obtain ⟨n, HL⟩ : ∃ n, Hid (s.length = n) := ⟨_, rfl⟩
    rw [HL.out] at hgg
    have HLE : Hid (n + l.length ≤ 4000) := hid (by have := HST.out.le; have := HPL.out; have := HL.out; omega)
    have hn4 : n ≤ 4000 := by have := HLE.out; omega
    have hSs : S.size = n := by rw [← HS.out, sizeT]; exact HL.out
    by_cases h0 : n = 0
    · have h0i : ¬ (0 : Int) < (n : Int) := by omega
      have h0n : ¬ 0 < n := by omega
      have HFIN : Hid (hkX 0 0 p = some ((gz l).map prj)) := hid (by
        have e : s = [] := List.length_eq_zero_iff.1 (by rw [HL.out]; exact h0)
        have := HST.out.hk
        rw [e, hkX_nil] at this
        simpa using this)
      have HLP : Hid (l.length ≤ p.length) := hid (by have := HST.out.le; omega)
      clear h0
      go_wp2_with fail
      refine bodyPost_ret (results_tmp2 Tryz.results22 _ _ _) rfl ?_
      exact ⟨HST.out.row.below, .inl ⟨l, _, HFIN.out, HLP.out, HST.out.row, HST.out.own, rfl⟩⟩
    · have h0i : (0 : Int) < (n : Int) := by omega
      have h0n : 0 < n := by omega
      have HSN : Hid (s ≠ []) := hid (fun e => by have := HL.out; rw [e] at this; simp at this; omega)
      obtain ⟨At, N, To, M, t9, HNM⟩ : ∃ At N To M t9, Nm s At N To M t9 := ⟨_, _, _, _, _, rfl, rfl⟩
      obtain ⟨R9, HR9⟩ : ∃ Z : ByteArray, Hid (⟨t9.toArray⟩ = Z) := ⟨_, hid rfl⟩
      clear h0
      have HONE : Hid (∀ va vn vc, (#[.int .i64 At, .int .i64 (N : Int), .int .i64 To, .int .i64 (M : Int), .slice va vn vc] : Array Value).all (·.oneCell') = true) := hid (fun va vn vc => one5 rfl rfl rfl rfl rfl)
      by_cases hok : OkS s
      · have HCB : Hid (∀ W : World, Calls Tryz.prog 46 #[.string S] W fun e w' => Below W.heap.size W w' ∧ e = .returned (.tuple #[.agg #[.int .i64 At, .int .i64 (N : Int), .int .i64 To, .int .i64 (M : Int), .slice none 0 0], .string R9, .bool true])) := hid (fun W => by rw [← HS.out, ← HR9.out]; exact HNM.ok hok (by rw [HL.out]; omega) W)
        have HLT := hid (HNM.lt hok)
        have HOK := hid hok
        clear hok
        go_wp2_with fail
        refine (HCB.out _).mono ?_
        rintro ev w1 ⟨hb1, rfl⟩
        have HB1 := hid hb1
        clear hb1
        obtain ⟨g, HGg⟩ : ∃ n, Hid (w1.heap.size = n) := ⟨_, rfl⟩
        obtain ⟨wa, HWa⟩ : ∃ u, Hid (w1.alloc (.cells #[.int .i64 0, .int .i64 0, .int .i64 0, .int .i64 0, .slice none 0 0] 59) = u) := ⟨_, rfl⟩
        have HGa : Hid (wa.heap[g]? = some (.cells #[.int .i64 0, .int .i64 0, .int .i64 0, .int .i64 0, .slice none 0 0] 59 (0, 0))) := hid (by rw [← HWa.out, ← HGg.out]; exact heap_alloc_new w1 _)
        have HSZa : Hid (wa.heap.size = g + 1) := hid (by rw [← HWa.out, ← HGg.out]; simp)
        have HTa : Hid (wa.there g 0 5) := hid (there_off HGa.out 0 (by simp))
        obtain ⟨ub, HUb⟩ : ∃ u, Hid (wa.setCells g 0 (#[.int .i64 At, .int .i64 (N : Int), .int .i64 To, .int .i64 (M : Int), .slice none 0 0] : Array Value).toList = u) := ⟨_, rfl⟩
        have HRb : Hid (ub.rangeAt g 0 [.int .i64 At, .int .i64 (N : Int), .int .i64 To, .int .i64 (M : Int), .slice none 0 0]) := hid (by rw [← HUb.out]; exact World.rangeAt_setCells_same _ _ _ _ HTa.out)
        have HTb : Hid (ub.there g 0 5) := hid (by rw [← HUb.out]; exact World.there_setCells HTa.out _ _ _)
        have HSZb : Hid (ub.heap.size = g + 1) := hid (by rw [← HUb.out, size_setCells]; exact HSZa.out)
        have HGle : Hid (wo.heap.size ≤ g) := hid (by rw [← HGg.out]; exact HB1.out.size)
        have HBb : Hid (Below wo.heap.size wo ub) := hid (by
          rw [← HUb.out]
          refine below_setCells HGle.out _ _ _ _ ?_
          rw [← HWa.out]
          exact HB1.out.alloc HB1.out.size _)
        have HCL : Hid (Calls Tryz.prog 47 #[.agg #[.int .i64 At, .int .i64 (N : Int), .int .i64 To, .int .i64 (M : Int), .slice none 0 0], .string R9] ub (PostLi N M t9 (.int .i64 At) (.int .i64 (N : Int)) (.int .i64 To) (.int .i64 (M : Int)) ub (g + 1))) := hid (by
          have := lines47_any (.int .i64 At) (.int .i64 To) rfl rfl N M t9 (by have := HLT.out; have := HL.out; omega) (by have := HLT.out; omega) (by have := HLT.out; omega) ub
          rw [HR9.out, HSZb.out] at this
          exact this)
        have al1 : w1.alloc (.cells #[.int .i64 0, .int .i64 0, .int .i64 0, .int .i64 0, .slice none 0 0] 59) = wa := HWa.out
        have hs1 : w1.heap.size = g := HGg.out
        go_wp2_with (first
          | (refine wpList_store_mid rfl 59 _ _ rfl g 0 #[.int .i64 At, .int .i64 (N : Int), .int .i64 To, .int .i64 (M : Int), .slice none 0 0] rfl rfl HTa.out size59 (HONE.out none 0 0) ?_; rw [HUb.out])
          | (refine wpList_load_mid rfl 59 _ rfl g 0 rfl [.int .i64 At, .int .i64 (N : Int), .int .i64 To, .int .i64 (M : Int), .slice none 0 0] _ HRb.out Tryz.underlying59 rfl size59 ?_)
          | fail)
        refine HCL.out.mono ?_
        clear al1 hs1
        rintro ev w2 ⟨hb2, ⟨es, r, v2, hln, hany, hbe, rfl⟩ | ⟨hno, r2, va, vn, vc, rfl⟩⟩
        · have HB2 := hid hb2
          have HANY := hid hany
          have HBEs := hid hbe
          have HSZ := hid (HNM.size HOK.out es r hln)
          have HGO : Hid (hkX en gr s = if es.any chE = true ∧ en ≤ At ∧ To = At + gr then (hkX (At + (N : Int)) (gr + (M : Int) - (N : Int)) r).map (fun y => (At, To, es) :: y) else none) := hid (HNM.go HOK.out HSN.out en gr es r hln)
          clear hb2 hln hany hbe
          obtain ⟨ea, ec, ql, HV2, HQE⟩ : ∃ la lc q, Hid (v2 = .slice la q lc) ∧ Hid (es.length = q) := by
            obtain ⟨a, c, e⟩ := owns_shape HBEs.out.own
            exact ⟨a, c, _, hid e, hid rfl⟩
          rw [HV2.out] at HBEs ⊢
          obtain ⟨RR, HRR⟩ : ∃ Z : ByteArray, Hid (⟨r.toArray⟩ = Z) := ⟨_, hid rfl⟩
          rw [HRR.out]
          have HT2 : Hid (w2.there g 0 5) := hid (fun j hj => by
            have h := HTb.out j hj
            have e := HB2.out.block g (by omega)
            refine ⟨?_, ?_⟩
            · have h1 := h.1
              simp only [World.cell?, e] at h1 ⊢
              exact h1
            · have h1 := h.2
              simp only [World.frozen?, e] at h1 ⊢
              exact h1)
          obtain ⟨uc, HUc⟩ : ∃ u, Hid (w2.setCells g 0 (#[.int .i64 At, .int .i64 (N : Int), .int .i64 To, .int .i64 (M : Int), .slice ea ql ec] : Array Value).toList = u) := ⟨_, rfl⟩
          have HRc : Hid (uc.rangeAt g 0 [.int .i64 At, .int .i64 (N : Int), .int .i64 To, .int .i64 (M : Int), .slice ea ql ec]) := hid (by rw [← HUc.out]; exact World.rangeAt_setCells_same _ _ _ _ HT2.out)
          have c0 : uc.cell? ⟨g, 0, none⟩ = some (.int .i64 At) := by simpa using HRc.out 0 _ rfl
          have c1 : uc.cell? ⟨g, 1, none⟩ = some (.int .i64 (N : Int)) := by simpa using HRc.out 1 _ rfl
          have c2 : uc.cell? ⟨g, 2, none⟩ = some (.int .i64 To) := by simpa using HRc.out 2 _ rfl
          have c3 : uc.cell? ⟨g, 3, none⟩ = some (.int .i64 (M : Int)) := by simpa using HRc.out 3 _ rfl
          have HBc : Hid (Below wo.heap.size wo uc) := hid (by
            rw [← HUc.out]
            refine below_setCells HGle.out _ _ _ _ (HBb.out.trans (HB2.out.mono (by have := HGle.out; omega)))
            )
          have HOWc : Hid (uc.ownsRow (g + 1) 61 2 (.slice ea ql ec) es.length (es.flatMap encE)) := hid (by
            rw [← HUc.out]
            refine own_kept HBEs.out.own (grown_sets w2 g 0 _) (fun j hj e => ?_)
            have := (own_lt HBEs.out.own j hj).1
            cases e
            omega)
          have hA1 : 0 ≤ At := HLT.out.1.1.1
          have hA2 : At < 1000000000 := HLT.out.1.1.2
          have hT1 : 0 ≤ To := HLT.out.1.2.1
          have hT2 : To < 1000000000 := HLT.out.1.2.2
          have hN2 : N < 1000000000 := HLT.out.2.1
          have hM2 : M < 1000000000 := HLT.out.2.2.1
          have hg1 : -4000 ≤ gr := by have := HST.out.gb.1; have := HPL.out; omega
          have hg2 : gr ≤ 4000 := by have := HST.out.gb.2; have := HPL.out; omega
          have he1 : 0 ≤ en := HST.out.eb.1
          have he2 : en ≤ 20000000000 := HST.out.eb.2
          have HRET : Hid (Below G w uc) := hid (HST.out.row.below.trans (HBc.out.mono (HGE.out _ HST.out.row.below)))
          by_cases hlt : At < en
          · have HNONE : Hid (hkX 0 0 p = none) := hid (by
              rw [HST.out.hk, HGO.out, if_neg (fun h => by have := h.2.1; omega)]
              rfl)
            go_wp2_with (first
              | (refine wpList_store_mid rfl 59 _ _ rfl g 0 #[.int .i64 At, .int .i64 (N : Int), .int .i64 To, .int .i64 (M : Int), .slice ea ql ec] rfl rfl HT2.out size59 (HONE.out ea ql ec) ?_; rw [HUc.out])
              | fail)
            refine bodyPost_ret (results_tmp2 Tryz.results22 _ _ _) rfl ?_
            exact ⟨HRET.out, .inr ⟨HNONE.out, rfl⟩⟩
          · by_cases hto : To = At + gr
            · have HTO := hid hto
              subst hto
              have HGO2 : Hid (hkX en gr s = (hkX (At + (N : Int)) (gr + (M : Int) - (N : Int)) r).map (fun y => (At, (At + gr), es) :: y)) := hid (by
                have h := HGO.out
                rw [if_pos ⟨HANY.out, by omega, rfl⟩] at h
                exact h)
              obtain ⟨y, HY⟩ : ∃ y : Gz, Hid ((N, M, At, (At + gr), ea, ec, es) = y) := ⟨_, rfl⟩
              obtain ⟨wd, HWd⟩ : ∃ u, Hid (uc.alloc (.cells #[.int .i64 At, .int .i64 (N : Int), .int .i64 (At + gr), .int .i64 (M : Int), .slice ea ql ec] 59) = u) := ⟨_, rfl⟩
              have HBd : Hid (Below wo.heap.size wo wd) := hid (by rw [← HWd.out]; exact HBc.out.alloc HBc.out.size _)
              have HBcd : Hid (Below uc.heap.size uc wd) := hid (by rw [← HWd.out]; exact (Below.refl _ uc).alloc (Nat.le_refl _) _)
              have HROWd : Hid (BZ w wd G u5 l) := hid (HST.out.row.carry HBd.out)
              have HEZ : Hid ((encHz y).toArray = #[.int .i64 At, .int .i64 (N : Int), .int .i64 (At + gr), .int .i64 (M : Int), .slice ea ql ec]) := hid (by rw [← HY.out]; unfold encHz slE; simp [HQE.out])
              have HPZd : Hid (PZ wd (some ⟨uc.heap.size, 0, none⟩) 1 [y]) := hid (by rw [← HWd.out, ← HEZ.out]; exact pz_one y 59 uc)
              have HOWd : Hid (wd.ownsRow (g + 1) 61 2 (.slice ea ql ec) es.length (es.flatMap encE)) := hid (own_below HOWc.out HBcd.out)
              have HBu : Hid (∀ W : World, (Instr.buildSlice 54 1 #[(0, .agg #[.int .i64 At, .int .i64 (N : Int), .int .i64 (At + gr), .int .i64 (M : Int), .slice ea ql ec])]).run Tryz.prog W = .ok (.slice (some ⟨W.heap.size, 0, none⟩) 1 1) (W.alloc (.cells #[.int .i64 At, .int .i64 (N : Int), .int .i64 (At + gr), .int .i64 (M : Int), .slice ea ql ec] 59))) := hid (fun W => run_build54 _ _ _ _ _ ⟨_, _, _, rfl⟩ W)
              go_wp2_with (first
                | (refine wpList_store_mid rfl 59 _ _ rfl g 0 #[.int .i64 At, .int .i64 (N : Int), .int .i64 (At + gr), .int .i64 (M : Int), .slice ea ql ec] rfl rfl HT2.out size59 (HONE.out ea ql ec) ?_; rw [HUc.out])
                | (refine wpList_load_mid rfl 59 _ rfl g 0 rfl [.int .i64 At, .int .i64 (N : Int), .int .i64 (At + gr), .int .i64 (M : Int), .slice ea ql ec] _ HRc.out Tryz.underlying59 rfl size59 ?_)
                | (refine wpList_bS rfl 54 1 _ rfl (.agg #[.int .i64 At, .int .i64 (N : Int), .int .i64 (At + gr), .int .i64 (M : Int), .slice ea ql ec]) _ rfl (HBu.out _) ?_; rw [HWd.out])
                | (refine wpList_bx_sl (d := z0) rfl _ _ 54 59 und54 Tryz.info59 rfl (by decide) (by decide) encHz_one rfl G _ l rfl HROWd.out (some ⟨uc.heap.size, 0, none⟩) 1 [y] rfl HPZd.out (fun x _ => encHz_len x) (by have := HLE.out; simp; omega) ?_
                   intro v9 w9 hb9 hg9
                   have HB9 := hid hb9
                   have HG9 := hid hg9
                   clear hb9 hg9)
                | fail)
              have HIN : Hid (HkI p w w9 G v9 r (At + (N : Int)) (gr + (M : Int) - (N : Int)) (l ++ [y])) := hid ⟨by
                rw [HST.out.hk, HGO2.out, Option.map_map]
                congr 1
                funext z
                rw [← HY.out]
                simp [gz, prj], HB9.out, fun z hz => by
                rcases List.mem_append.1 hz with hz | hz
                · exact own_other (own_belowZ (HST.out.own z hz) HBd.out) HROWd.out.own (by decide) HG9.out rfl
                · rw [List.mem_singleton.1 hz, ← HY.out]
                  refine base_mono (own_other (v := slE (At, (At + gr), ea, ec, es)) ?_ HROWd.out.own (by decide) HG9.out rfl) (show G ≤ g + 1 by have := HGE.out _ HST.out.row.below; have := HGle.out; omega)
                  unfold slE
                  simp only [HQE.out]
                  have := HOWd.out
                  rw [HQE.out] at this
                  exact this, by
                have := HST.out.le; have := HSZ.out; have := ne_any HANY.out; rw [List.length_append]; simp; omega, by omega, by
                have h1 := HST.out.gb
                have h2 := HSZ.out
                have h3 := HST.out.le
                omega⟩
              go_roundg r.length
              case measure => have := HSZ.out; have := HL.out; omega
              case rel => exact ⟨r, RR, _, _, l ++ [y], rfl, HRR, rfl, rfl, HIN, rfl⟩
            · have hto1 : (To != At + gr) = true := by simp; omega
              have hto2 : (To == At + gr) = false := by simp; omega
              have hto3 : decide (To = At + gr) = false := decide_eq_false hto
              have HNONE : Hid (hkX 0 0 p = none) := hid (by
                rw [HST.out.hk, HGO.out, if_neg (fun h => hto h.2.2)]
                rfl)
              go_wp2_with (first
                | (refine wpList_store_mid rfl 59 _ _ rfl g 0 #[.int .i64 At, .int .i64 (N : Int), .int .i64 To, .int .i64 (M : Int), .slice ea ql ec] rfl rfl HT2.out size59 (HONE.out ea ql ec) ?_; rw [HUc.out])
                | fail)
              refine bodyPost_ret (results_tmp2 Tryz.results22 _ _ _) rfl ?_
              exact ⟨HRET.out, .inr ⟨HNONE.out, rfl⟩⟩
        · have HB2 := hid hb2
          have HNONE : Hid (hkX 0 0 p = none) := hid (by
            rw [HST.out.hk, HNM.no HOK.out HSN.out en gr hno]
            rfl)
          clear hb2 hno
          have HT2 : Hid (w2.there g 0 5) := hid (fun j hj => by
            have h := HTb.out j hj
            have e := HB2.out.block g (by omega)
            refine ⟨?_, ?_⟩
            · have h1 := h.1
              simp only [World.cell?, e] at h1 ⊢
              exact h1
            · have h1 := h.2
              simp only [World.frozen?, e] at h1 ⊢
              exact h1)
          obtain ⟨uc, HUc⟩ : ∃ u, Hid (w2.setCells g 0 (#[.int .i64 At, .int .i64 (N : Int), .int .i64 To, .int .i64 (M : Int), .slice va vn vc] : Array Value).toList = u) := ⟨_, rfl⟩
          have HBc : Hid (Below wo.heap.size wo uc) := hid (by
            rw [← HUc.out]
            refine below_setCells HGle.out _ _ _ _ (HBb.out.trans (HB2.out.mono (by have := HGle.out; omega))))
          have HRET : Hid (Below G w uc) := hid (HST.out.row.below.trans (HBc.out.mono (HGE.out _ HST.out.row.below)))
          go_wp2_with (first
            | (refine wpList_store_mid rfl 59 _ _ rfl g 0 #[.int .i64 At, .int .i64 (N : Int), .int .i64 To, .int .i64 (M : Int), .slice va vn vc] rfl rfl HT2.out size59 (HONE.out va vn vc) ?_; rw [HUc.out])
            | fail)
          refine bodyPost_ret (results_tmp2 Tryz.results22 _ _ _) rfl ?_
          exact ⟨HRET.out, .inr ⟨HNONE.out, rfl⟩⟩
      · have HCB : Hid (∀ W : World, Calls Tryz.prog 46 #[.string S] W fun e w' => Below W.heap.size W w' ∧ e = .returned (.tuple #[.agg #[.int .i64 At, .int .i64 (N : Int), .int .i64 To, .int .i64 (M : Int), .slice none 0 0], .string R9, .bool false])) := hid (fun W => by rw [← HS.out, ← HR9.out]; exact HNM.bad hok (by rw [HL.out]; omega) W)
        have HNONE : Hid (hkX 0 0 p = none) := hid (by rw [HST.out.hk, hkX_bad en gr s HSN.out (fun e => hok ⟨e⟩)]; rfl)
        clear hok
        go_wp2_with fail
        refine (HCB.out _).mono ?_
        rintro ev w1 ⟨hb1, rfl⟩
        have HB1 := hid hb1
        clear hb1
        obtain ⟨g, HGg⟩ : ∃ n, Hid (w1.heap.size = n) := ⟨_, rfl⟩
        obtain ⟨wa, HWa⟩ : ∃ u, Hid (w1.alloc (.cells #[.int .i64 0, .int .i64 0, .int .i64 0, .int .i64 0, .slice none 0 0] 59) = u) := ⟨_, rfl⟩
        have HGa : Hid (wa.heap[g]? = some (.cells #[.int .i64 0, .int .i64 0, .int .i64 0, .int .i64 0, .slice none 0 0] 59 (0, 0))) := hid (by rw [← HWa.out, ← HGg.out]; exact heap_alloc_new w1 _)
        have HTa : Hid (wa.there g 0 5) := hid (there_off HGa.out 0 (by simp))
        obtain ⟨ub, HUb⟩ : ∃ u, Hid (wa.setCells g 0 (#[.int .i64 At, .int .i64 (N : Int), .int .i64 To, .int .i64 (M : Int), .slice none 0 0] : Array Value).toList = u) := ⟨_, rfl⟩
        have HGle : Hid (wo.heap.size ≤ g) := hid (by rw [← HGg.out]; exact HB1.out.size)
        have HBb : Hid (Below wo.heap.size wo ub) := hid (by
          rw [← HUb.out]
          refine below_setCells HGle.out _ _ _ _ ?_
          rw [← HWa.out]
          exact HB1.out.alloc HB1.out.size _)
        have HRET : Hid (Below G w ub) := hid (HST.out.row.below.trans (HBb.out.mono (HGE.out _ HST.out.row.below)))
        have al1 : w1.alloc (.cells #[.int .i64 0, .int .i64 0, .int .i64 0, .int .i64 0, .slice none 0 0] 59) = wa := HWa.out
        have hs1 : w1.heap.size = g := HGg.out
        go_wp2_with (first
          | (refine wpList_store_mid rfl 59 _ _ rfl g 0 #[.int .i64 At, .int .i64 (N : Int), .int .i64 To, .int .i64 (M : Int), .slice none 0 0] rfl rfl HTa.out size59 (HONE.out none 0 0) ?_; rw [HUb.out])
          | fail)
        refine bodyPost_ret (results_tmp2 Tryz.results22 _ _ _) rfl ?_
        exact ⟨HRET.out, .inr ⟨HNONE.out, rfl⟩⟩
end Go.Proofs.YtmpjapcijjjlbaaGreatDoor
