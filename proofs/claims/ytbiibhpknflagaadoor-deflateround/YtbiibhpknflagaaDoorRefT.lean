/- What comes out of blocks are bytes. -/
import Derived.Test.YtbiibhpknflagaaDoorBlkC
import Derived.Test.YtbiibhpknflagaaDoorRefR
import Derived.Test.YtbiibhpknflagaaDoorHeadA
import Derived.Test.YtbiibhpknflagaaDoorHeadB
import Derived.Test.YtbiibhpknflagaaDoorSumB
import Derived.BigQuiet
import Derived.Test.YtbiibhpknflagaaDoorInfB
namespace Go.Proofs.YtbiibhpknflagaaDoor
open Go.RowKit Plain
set_option linter.unusedVariables false

theorem isB_snoc {out : List Int} (ho : IsB out) {y : Nat} (hy : y < 256) : IsB (out ++ [(y : Int)]) := by
  intro x hx
  rcases List.mem_append.1 hx with h | h
  · exact ho x h
  · simp at h; omega
theorem symsStep_isB {dl dd : Nat → Option (Nat × Nat)} {zs : List Int} {most win : Int} {p : Nat} {out : List Int} {rest : Nat → List Int → Res} (ho : IsB out) (hr : ∀ q o, IsB o → ∀ q' o', rest q o = .ok (q', o') → IsB o') {q' : Nat} {o' : List Int}
    (h : symsStep dl dd zs most win p out rest = .ok (q', o')) : IsB o' := by
  unfold symsStep at h
  split at h
  · cases h
  · split at h
    · split at h
      · rename_i hy
        split at h
        · cases h
        · exact hr _ _ (isB_snoc ho hy) _ _ h
      · split at h
        · cases h; exact ho
        · split at h
          · cases h
          · split at h
            · cases h
            · split at h
              · cases h
              · split at h
                · split at h
                  · cases h
                  · split at h
                    · cases h
                    · split at h
                      · cases h
                      · split at h
                        · cases h
                        · exact hr _ _ (rep_isB _ _ _ ho) _ _ h
                · cases h
    · cases h
theorem symsF_isB {dl dd : Nat → Option (Nat × Nat)} {zs : List Int} {most win : Int} : ∀ (f p : Nat) (out : List Int), IsB out → ∀ (q' : Nat) (o' : List Int), symsF dl dd zs most win f p out = .ok (q', o') → IsB o'
  | 0, _, _, _, _, _, h => by cases h
  | f + 1, p, out, ho, q', o', h => symsStep_isB ho (fun q o hq => symsF_isB f q o hq) h
theorem bodyOf_isB {zs : List Int} {most win : Int} {k p q : Nat} {out o : List Int} (hz : IsB zs) (ho : IsB out) (h : bodyOf zs most win k p out = .ok (q, o)) : IsB o := by
  unfold bodyOf at h
  split at h
  · unfold storedOf at h
    split at h
    · cases h
    · split at h
      · cases h
      · split at h
        · cases h
        · split at h
          · cases h
          · cases h
            intro x hx
            rcases List.mem_append.1 hx with h | h
            · exact ho x h
            · exact hz x (List.mem_of_mem_drop (List.mem_of_mem_take h))
  · split at h
    · exact symsF_isB _ _ _ ho _ _ h
    · split at h
      · split at h
        · exact symsF_isB _ _ _ ho _ _ h
        · cases h
      · cases h
theorem blocksF_isB {zs : List Int} {most win : Int} (hz : IsB zs) : ∀ (f p : Nat) (out : List Int), IsB out → ∀ (q' : Nat) (o' : List Int), blocksF zs most win f p out = .ok (q', o') → IsB o'
  | 0, _, _, _, _, _, h => by cases h
  | f + 1, p, out, ho, q', o', h => by
    rw [blocksF] at h
    split at h
    · cases h
    · split at h
      · cases h
      · rename_i hb
        have := bodyOf_isB hz ho hb
        split at h
        · cases h; exact this
        · exact blocksF_isB hz f _ _ this _ _ h
theorem blocks_isB {zs : List Int} {most win : Int} (hz : IsB zs) {p q : Nat} {o : List Int} (h : blocks zs most win p [] = .ok (q, o)) : IsB o :=
  blocksF_isB hz _ _ _ (by intro x hx; simp at hx) _ _ h
end Go.Proofs.YtbiibhpknflagaaDoor
/- The document's own reader: Inflate. -/
namespace Go.Proofs.YtbiibhpknflagaaDoor
open Go.RowKit Plain
set_option linter.unusedVariables false
set_option linter.unusedSimpArgs false

theorem and32n : ∀ y, y < 256 → (bits .and .u8 ((y : Nat) : Int) 32 = 0 ↔ bits .and .i64 ((y : Nat) : Int) 32 = 0) := by decide +kernel
theorem and32 (y : Int) (h1 : 0 ≤ y) (h2 : y ≤ 255) : bits .and .u8 y 32 = 0 ↔ bits .and .i64 y 32 = 0 := by
  have := and32n y.toNat (by omega)
  rwa [Int.toNat_of_nonneg h1] at this
def PostJ (w : World) (r : Res) (ev : Ending) (w' : World) : Prop :=
  Below w.heap.size w w' ∧ match r with
  | .ok (n, out) => IsB out ∧ out.length ≤ 400000 ∧ ∃ v, ev = .returned (.tuple #[v, .int .i64 n, .int .i64 0]) ∧ w'.ownsRow w.heap.size 5 1 v out.length (out.map (Value.int .u8))
  | .error k => ev = .returned (.tuple #[.slice none 0 0, .int .i64 0, .int .i64 k])
theorem Tryd.results15 : Tryd.f15.results = #[.tmp 4, .tmp 5, .tmp 6] := by kernel_rfl
theorem results_3 {fn : Func} {p q r : Tmp} (h : fn.results = #[.tmp p, .tmp q, .tmp r]) (tmps : Array Value) (w : World) (x y z : Value) (hp : tmps.getD p undef = x) (hq : tmps.getD q undef = y) (hr : tmps.getD r undef = z) :
    (results fn tmps).run Tryd.prog w = .ok (.tuple #[x, y, z]) w := by
  have hp' : tmps[p]?.getD undef = x := by simpa using hp
  have hq' : tmps[q]?.getD undef = y := by simpa using hq
  have hr' : tmps[r]?.getD undef = z := by simpa using hr
  simp [results, h, hp', hq', hr']
set_option maxRecDepth 20000 in
set_option maxHeartbeats 4000000 in
theorem ref_short (a : Option Addr) (n cap : Nat) (most : Int) (w : World) (hn : n < 2) :
    Calls Tryd.prog 15 #[.slice a n cap, .int .i64 most] w (PostJ w (.error 10)) := by
  have hnZ : (n : Int) < 2 := by omega
  go_enter Tryd.func15, Tryd.ntmps15
  go_wp2_with fail
  go_quiet (fail)
  go_wp2
  exact bodyPost_ret (results_3 Tryd.results15 _ _ _ _ _ rfl rfl rfl) rfl ⟨⟨rfl, rfl, rfl, Nat.le_refl _, fun k hk => rfl⟩, rfl⟩
set_option maxRecDepth 20000 in
set_option maxHeartbeats 4000000 in
theorem ref_head (ib io cap n : Nat) (x y : Int) (most : Int) (w : World) (hn : 2 ≤ n) (hn4 : n ≤ 400000) (bx1 : 0 ≤ x) (bx2 : x ≤ 255) (by1 : 0 ≤ y) (by2 : y ≤ 255) (cx : w.cell? ⟨ib, io, none⟩ = some (.int .u8 x)) (cy : w.cell? ⟨ib, io + 1, none⟩ = some (.int .u8 y)) (hh : headB x y = false) :
    Calls Tryd.prog 15 #[.slice (some ⟨ib, io, none⟩) n cap, .int .i64 most] w (PostJ w (.error 10)) := by
  have hnZ : decide ((n : Int) < 2) = false := decide_eq_false (by omega)
  have hnN : decide (n < 2) = false := decide_eq_false (by omega)
  have hn0 : (0 : Int) < n := by omega
  have hn1 : (1 : Int) < n := by omega
  unfold headB at hh
  by_cases h1 : x % 16 = 8
  · have h1' : (x % 16 != 8) = false := by simp [h1]
    by_cases h2 : x / 16 ≤ 7
    · have h2' : decide (7 < x / 16) = false := decide_eq_false (by omega)
      by_cases h3 : (x * 256 + y) % 31 = 0
      · have h3' : ((x * 256 + y) % 31 != 0) = false := by simp [h3]
        by_cases h4 : bits .and .u8 y 32 = 0
        · have h4i := (and32 y by1 by2).1 h4
          rw [h4i] at hh
          simp [h1, h2, h3] at hh
        · have h4' : (bits .and .u8 y 32 != 0) = true := by simp [h4]
          clear hh h1 h3 h4 hn
          go_enter Tryd.func15, Tryd.ntmps15
          go_wp2_with fail
          go_quiet (fail)
          go_wp2
          exact bodyPost_ret (results_3 Tryd.results15 _ _ _ _ _ rfl rfl rfl) rfl ⟨⟨rfl, rfl, rfl, Nat.le_refl _, fun k hk => rfl⟩, rfl⟩
      · have h3' : ((x * 256 + y) % 31 != 0) = true := by simp [h3]
        clear hh h1 h3 hn
        go_enter Tryd.func15, Tryd.ntmps15
        go_wp2_with fail
        go_quiet (fail)
        go_wp2
        exact bodyPost_ret (results_3 Tryd.results15 _ _ _ _ _ rfl rfl rfl) rfl ⟨⟨rfl, rfl, rfl, Nat.le_refl _, fun k hk => rfl⟩, rfl⟩
    · have h2' : 7 < x / 16 := by omega
      clear hh h1 hn
      go_enter Tryd.func15, Tryd.ntmps15
      go_wp2_with fail
      go_quiet (fail)
      go_wp2
      exact bodyPost_ret (results_3 Tryd.results15 _ _ _ _ _ rfl rfl rfl) rfl ⟨⟨rfl, rfl, rfl, Nat.le_refl _, fun k hk => rfl⟩, rfl⟩
  · have h1' : (x % 16 != 8) = true := by simp [h1]
    clear hh h1 hn
    go_enter Tryd.func15, Tryd.ntmps15
    go_wp2_with fail
    go_quiet (fail)
    go_wp2
    exact bodyPost_ret (results_3 Tryd.results15 _ _ _ _ _ rfl rfl rfl) rfl ⟨⟨rfl, rfl, rfl, Nat.le_refl _, fun k hk => rfl⟩, rfl⟩
end Go.Proofs.YtbiibhpknflagaaDoor
/- The document's own reader: Inflate, where the head is right. -/
namespace Go.Proofs.YtbiibhpknflagaaDoor
open Go.RowKit Plain
set_option linter.unusedVariables false
set_option linter.unusedSimpArgs false

theorem adler_refown (w : World) (B n cp : Nat) (a : Option Addr) (out : List Int) (hown : w.ownsRow B 5 1 (.slice a n cp) n (out.map (Value.int .u8))) (hn : out.length = n) (hz : IsB out) (hl : n ≤ 300000) :
    Calls Tryd.prog 11 #[.slice a n cp] w fun e w' => e = .returned (.int .u32 (adler out)) ∧ w' = w := by
  by_cases h0 : n = 0
  · subst h0
    obtain rfl : out = [] := List.eq_nil_of_length_eq_zero hn
    exact adler_ref0 a cp w
  · obtain ⟨g, cap', hv, _, _⟩ := hown.form (by omega)
    simp only [Value.slice.injEq] at hv
    obtain ⟨rfl, _, rfl⟩ := hv
    rw [← hn]
    exact adler_ref g 0 cp out w (by omega) hz (fun i hi => by rw [Nat.zero_add]; exact own_at hown hn i (by omega))
set_option maxRecDepth 20000 in
set_option maxHeartbeats 4000000 in
theorem ref_good (ib io cap : Nat) (zs : List Int) (x y : Int) (rest : List Int) (most : Int) (w : World) (he : zs = x :: y :: rest) (hz : IsB zs) (hl : zs.length ≤ 300000) (hm : most ≤ 300000) (hat : At w ib io zs) (hib : ib < w.heap.size) (hh : headB x y = true) :
    Calls Tryd.prog 15 #[.slice (some ⟨ib, io, none⟩) zs.length cap, .int .i64 most] w (PostJ w (inflOf zs (max most 0))) := by
  have h2 : 2 ≤ zs.length := by rw [he]; simp
  have hx0 : zs.getD 0 0 = x := by rw [he]; rfl
  have hy0 : zs.getD 1 0 = y := by rw [he]; rfl
  have bx := hz x (by rw [he]; simp)
  have bY := hz y (by rw [he]; simp)
  obtain ⟨bx1, bx2⟩ := bx
  obtain ⟨by1, by2⟩ := bY
  have cx : w.cell? ⟨ib, io, none⟩ = some (.int .u8 x) := by have := hat 0 (by omega); rw [Nat.add_zero, hx0] at this; exact this
  have cy : w.cell? ⟨ib, io + 1, none⟩ = some (.int .u8 y) := by have := hat 1 (by omega); rw [hy0] at this; exact this
  have hI : inflOf zs (max most 0) = match blocks zs (max most 0) (farOf x.toNat) 16 [] with
      | .error k => .error k
      | .ok (p, out) => if sumB zs p out = true then .ok ((p + 7) / 8 + 4, out) else .error 10 := by
    have hf : ((2 ^ ((x / 16).toNat + 8) : Nat) : Int) = farOf x.toNat := by
      unfold farOf
      have : (x / 16).toNat + 8 = x.toNat / 16 % 8 + 8 := by
        unfold headB at hh
        simp at hh
        omega
      rw [this]
    unfold inflOf
    rw [he]
    simp only []
    rw [if_pos hh, hf]
    cases blocks (x :: y :: rest) (max most 0) (farOf x.toNat) 16 [] <;> rfl
  obtain ⟨I, HI⟩ : ∃ I, Hid (I = inflOf zs (max most 0)) := ⟨_, rfl⟩
  rw [← HI.out] at hI ⊢
  have HI2 : Hid _ := hI
  have HAT : Hid (At w ib io zs) := hat
  have hn0 : (0 : Int) < zs.length := by omega
  have hn1 : (1 : Int) < zs.length := by omega
  have hnZ : decide ((zs.length : Int) < 2) = false := decide_eq_false (by omega)
  have hnN : decide (zs.length < 2) = false := decide_eq_false (by omega)
  have hhh := hh
  unfold headB at hhh
  simp at hhh
  obtain ⟨⟨⟨e1, e2⟩, e3⟩, e4⟩ := hhh
  have h1' : (x % 16 != 8) = false := by simp [e1]
  have h2' : decide (7 < x / 16) = false := decide_eq_false (by omega)
  have h3' : ((x * 256 + y) % 31 != 0) = false := by simp [e3]
  have h4' : (bits .and .u8 y 32 != 0) = false := by simp [(and32 y by1 by2).2 e4]
  have hx0' : zs.getD 0 0 = ((x.toNat : Nat) : Int) := by rw [hx0]; omega
  have HX0 : Hid _ := hx0'
  clear hI hat e1 e3 e4 hh hx0 hx0' hy0 he
  go_enter Tryd.func15, Tryd.ntmps15
  go_wp2_with fail
  go_quiet (fail)
  go_wp2_with fail
  refine (blocks_any ib io cap zs x.toNat most (w.drewN nq) hz (by omega) h2 (by omega) HX0.out (by omega) HAT.out hib).mono ?_
  rintro ev w2 ⟨rfl, w1, hb1, hs1, hP⟩
  obtain ⟨E, HE⟩ : ∃ E, Hid (E = renv (w.drewN nq) ib io cap zs most) := ⟨_, rfl⟩
  rw [← HE.out] at hP
  have hES : (w.drewN nq).heap.size = E.S := by rw [HE.out]; rfl
  have HESW : Hid (w.heap.size = E.S) := hES
  have HEZ : Hid (E.zs = zs) := by show _ = _; rw [HE.out]; rfl
  have HEM : Hid (E.most = most) := by show _ = _; rw [HE.out]; rfl
  have HEI : Hid (E.ib = ib ∧ E.io = io) := by show _ ∧ _; rw [HE.out]; exact ⟨rfl, rfl⟩
  rw [hES]
  obtain ⟨R, HRR⟩ : ∃ R, Hid (R = blocks zs (max most 0) (farOf x.toNat) 16 []) := ⟨_, rfl⟩
  rw [← HRR.out] at hP HI2
  have HB1 : Hid (Below w.heap.size w w1) := ⟨hb1.os, hb1.tape, hb1.output, hb1.size, hb1.block⟩
  clear hES hb1
  cases hR : R with
  | error k =>
    rw [hR] at hP HI2
    obtain ⟨hk, p', v', out', hp', hO, hK⟩ := hP
    have HO : Hid _ := hO
    have HK : Hid (Below w.heap.size w w2) := hK.below HB1.out (Nat.le_refl _) (Nat.le_of_eq HESW.out) (by intro k e; simp [Value.ownBlock] at e)
    have c1 := hO.rs.c1
    have c5 := hO.rs.c5
    rw [HEZ.out] at hp'
    clear hO hK
    go_wp2
    go_quiet (fail)
    go_wp2
    refine bodyPost_ret (results_3 Tryd.results15 _ _ _ _ _ rfl rfl rfl) rfl ?_
    rw [HI2.out]
    exact ⟨⟨HK.out.os, HK.out.tape, HK.out.output, HK.out.size, HK.out.block⟩, rfl⟩
  | ok po =>
    obtain ⟨p, out⟩ := po
    have HisB : Hid (IsB out) := blocks_isB hz (HRR.out.symm.trans hR)
    rw [hR] at hP HI2
    simp only [] at HI2
    obtain ⟨hp, hol, v', hO, hK⟩ := hP
    have HO : Hid _ := hO
    have HK : Hid (Below w.heap.size w w2) := hK.below HB1.out (Nat.le_refl _) (Nat.le_of_eq HESW.out) (by intro k e; simp [Value.ownBlock] at e)
    obtain ⟨a, cp, rfl⟩ := hO.row
    have c1 := hO.rs.c1
    have c2 := hO.rs.c2
    have c5 := hO.rs.c5
    have f5 := hO.rs.fz 5
    have HSRC : Hid (At w2 ib io zs) := by have := hO.rs.src; rw [HEZ.out, HEI.out.1, HEI.out.2] at this; exact this
    rw [HEZ.out] at hp
    rw [HEM.out] at hol
    clear hO hK
    obtain ⟨c, HC⟩ : ∃ c, Hid (c = (p + 7) / 8) := ⟨_, rfl⟩
    have hcz : ((p : Int) + 7).tdiv 8 = (c : Int) := by rw [Int.tdiv_eq_ediv_of_nonneg (by omega), HC.out]; omega
    have hcl : c ≤ zs.length := by rw [HC.out]; omega
    by_cases hc4 : c + 4 ≤ zs.length
    · have hc4Z : ¬ ((zs.length : Int) - (c : Int) < 4) := by omega
      go_wp2
      go_loopg [9, 10] 4 (fun kk vs i wr => ∃ j : Nat, j ≤ 4 ∧ i = .int .i64 j ∧ vs = .int .u32 (be zs c j : Nat) ∧ kk = 4 - j ∧ wr = w2)
      case atStart => exact ⟨0, by omega, rfl, rfl, by omega, rfl⟩
      case round =>
        obtain ⟨j, hj, rfl, rfl, hkk, rfl⟩ := hrel
        by_cases hj4 : j < 4
        · have hbl := be_lt zs hz c j
          have hp8 : 256 ^ j ≤ 16777216 := by
            have : 256 ^ j ≤ 256 ^ 3 := Nat.pow_le_pow_right (by omega) (by omega)
            exact this
          have hbs : be zs c (j + 1) = be zs c j * 256 + (zs.getD (c + j) 0).toNat := rfl
          have HBS : Hid _ := hbs
          have hcx := HSRC.out (c + j) (by omega)
          have hb0 := hz.get (c + j)
          rw [← List.getD_eq_getElem?_getD] at hb0
          obtain ⟨b, HB⟩ : ∃ b : Nat, Hid (b = (zs.getD (c + j) 0).toNat) := ⟨_, rfl⟩
          have hbz : zs.getD (c + j) 0 = (b : Int) := by rw [HB.out]; omega
          have hb255 : b ≤ 255 := by rw [HB.out]; omega
          rw [hbz] at hcx
          obtain ⟨s, HS⟩ : ∃ s, Hid (s = be zs c j) := ⟨_, rfl⟩
          rw [← HS.out] at hbl ⊢
          have hs2 : s ≤ 16777215 := by omega
          clear hbs hbl hp8 hb0 hbz c1 c2 c5 f5
          go_wp2
          go_roundg (4 - (j + 1))
          case measure => omega
          case rel =>
            refine ⟨j + 1, by omega, by go_num, ?_, rfl, rfl⟩
            rw [HBS.out, ← HB.out, ← HS.out]
            exact congrArg (Value.int .u32) (by push_cast; first | rfl | (rw [IntKind.wrap_u32]; omega) | omega)
        · obtain rfl : j = 4 := by omega
          obtain ⟨s, HS⟩ : ∃ s, Hid (s = be zs c 4) := ⟨_, rfl⟩
          rw [← HS.out]
          obtain ⟨ad, HAD⟩ : ∃ ad, Hid (ad = adler out) := ⟨_, rfl⟩
          have A1 := adler_refown wr w.heap.size out.length cp a out HO.out.owns rfl HisB.out (by omega)
          rw [← HAD.out] at A1
          have hI3 : I = if (s : Int) = ad then .ok (c + 4, out) else .error 10 := by
            rw [HI2.out, ← HC.out]
            unfold sumB
            rw [← HC.out, decide_eq_true hc4, Bool.true_and, ← HS.out, ← HAD.out]
            by_cases e : (s : Int) = ad
            · rw [if_pos e, if_pos (by simp [e])]
            · rw [if_neg e, if_neg (by simp [e])]
          have HI3 : Hid _ := hI3
          clear hI3
          by_cases e : (s : Int) = ad
          · subst e
            go_wp2_with (go_at_call 11; refine A1.mono ?_; clear A1; rintro ev w3 ⟨rfl, rfl⟩)
            refine bodyPost_ret (results_3 Tryd.results15 _ _ _ _ _ rfl rfl rfl) rfl ?_
            rw [HI3.out, if_pos (by trivial)]
            exact ⟨HK.out, HisB.out, by omega, _, by first | rfl | (push_cast; rfl), HO.out.owns⟩
          · go_wp2_with (go_at_call 11; refine A1.mono ?_; clear A1; rintro ev w3 ⟨rfl, rfl⟩)
            refine bodyPost_ret (results_3 Tryd.results15 _ _ _ _ _ rfl rfl rfl) rfl ?_
            rw [HI3.out, if_neg e]
            exact ⟨HK.out, rfl⟩
    · have hc4Z : (zs.length : Int) - (c : Int) < 4 := by omega
      have hI3 : I = .error 10 := by
        rw [HI2.out, if_neg]
        unfold sumB
        rw [← HC.out, decide_eq_false hc4]
        simp
      have HI3 : Hid _ := hI3
      clear hI3
      go_wp2
      go_quiet (fail)
      go_wp2
      refine bodyPost_ret (results_3 Tryd.results15 _ _ _ _ _ rfl rfl rfl) rfl ?_
      rw [HI3.out]
      have hb := HK.out.setCell (p := ⟨E.S, 5, none⟩) (Nat.le_of_eq HESW.out) (.int .i64 10)
      exact ⟨⟨hb.os, hb.tape, hb.output, hb.size, hb.block⟩, rfl⟩
end Go.Proofs.YtbiibhpknflagaaDoor
