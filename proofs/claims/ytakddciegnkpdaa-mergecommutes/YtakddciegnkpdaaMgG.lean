/- The function that 'Texts' hands to 'cut'. -/
import Derived.Test.YtakddciegnkpdaaMgF
namespace Go.Proofs.Ytakddciegnkpdaa
open Go.RowKit
set_option linter.unusedVariables false
set_option linter.unusedSimpArgs false
/-- 'append' of bytes to bytes of one's own. -/
theorem wpList_own {w : World} {ops : Array Oper} {rest : List Oper} {o : Oper} {a : Act} {Q : Exit → Act → World → Prop} (hgd : o.guard = none) (s x : Operand) (ho : o.op = .call { callee := .builtin .append, args := #[s, x], argTypes := #[22, 22] })
    (B : Nat) (v : Value) (l : Str) (hs : a.eval s = v) (h : w.ownsRow B 5 1 v l.length (bv l)) (hB : B ≤ w.heap.size) (ax : Option Addr) (cx : Nat) (m : Str) (hx : a.eval x = .slice ax m.length cx) (hP : PB w ax cx m) (hl : l.length + m.length ≤ 100000000)
    (hK : ∀ v' w', w'.ownsRow B 5 1 v' (l ++ m).length (bv (l ++ m)) → w.grownBy w' v.ownBlock → (v'.ownBlock = v.ownBlock ∨ v'.ownBlock = some w.heap.size) → wpList Try.prog ops Q rest (a.put o.dst v') w') : wpList Try.prog ops Q (o :: rest) a w := by
  obtain ⟨i, hi, hz0, hz1, hz2⟩ := info_parts Try.info5
  cases ax with
  | none =>
    have hc : cx = 0 := hP.nil rfl
    have hcl := hP.capl
    obtain rfl : m = [] := List.length_eq_zero_iff.1 (by omega)
    subst hc
    refine wpList_plain hgd fun K hK' => ?_
    have hr := run_append_owned_none (P := Try.prog) w B 22 o.type 5 i 1 Try.underlying22 hi v _ _ h
    unfold Oper.wp execOp
    simp only [List.length_nil] at hx
    simp only [ho, resolve, invoke, builtin, Sem.run_bind, Sem.run_pure, Result.andThen_ok, List.map_toArray, List.map_cons, List.map_nil, hs, hx, hr]
    exact hK' _ _ (hK v w (by simpa using h) ⟨rfl, rfl, rfl, Nat.le_refl _, fun _ _ _ => rfl⟩ (.inl rfl))
  | some ad =>
    obtain ⟨bk, of, fr⟩ := ad
    by_cases h0 : m.length = 0
    · obtain rfl : m = [] := List.length_eq_zero_iff.1 h0
      refine wpList_append_own_at w hgd s x 22 ho B 5 i _ 1 1 Try.underlying22 hi hz0 hz1 hz2 rfl (by decide) v _ _ hs h ⟨bk, of, fr⟩ 0 cx [] hx (by simp) (fun j u hj => by cases hj) (fun u hu => by cases hu) (by unfold maxLen; omega) (by omega) hB ?_
      intro v' w' h1 h2 h3 h4
      exact hK v' w' (by simpa using h1) h2 h4
    · obtain ⟨b', off', e1, _⟩ := hP.at_ (by omega)
      cases e1
      refine wpList_append_own_at w hgd s x 22 ho B 5 i _ 1 1 Try.underlying22 hi hz0 hz1 hz2 rfl (by decide) v _ _ hs h ⟨bk, of, none⟩ m.length cx (bv m) hx (by rw [bv_len, Nat.mul_one]) (PB.at hP) (bv_one m) (by unfold maxLen; omega) (by omega) hB ?_
      intro v' w' h1 h2 h3 h4
      exact hK v' w' (by rw [bv_app, List.length_append]; exact h1) h2 h4
/-- How far a merge has come: its variables. -/
structure Sx (w : World) (B pa pb pn pt : Nat) (a b : Str) (v : Value) (out : Str) (n : Nat) : Prop where
  ca : w.cell? ⟨pa, 0, none⟩ = some (.string ⟨a.toArray⟩)
  cb : w.cell? ⟨pb, 0, none⟩ = some (.string ⟨b.toArray⟩)
  cn : w.cell? ⟨pn, 0, none⟩ = some (.int .i64 (n : Int))
  fn : w.frozen? ⟨pn, 0, none⟩ = false
  ct : w.cell? ⟨pt, 0, none⟩ = some v
  ft : w.frozen? ⟨pt, 0, none⟩ = false
  own : w.ownsRow B 5 1 v out.length (bv out)
  la : pa < B
  lb : pb < B
  ln : pn < B
  lt : pt < B
  na : pa ≠ pn ∧ pa ≠ pt
  nb : pb ≠ pn ∧ pb ≠ pt
  nn : pn ≠ pt
  le : B ≤ w.heap.size
/-- What may be changed: two variables, and the row of bytes. -/
structure Fx (w w' : World) (pn pt : Nat) (r : Option Nat) : Prop where
  os : w'.os = w.os
  tape : w'.tape = w.tape
  output : w'.output = w.output
  size : w.heap.size ≤ w'.heap.size
  block : ∀ k, k < w.heap.size → k ≠ pn → k ≠ pt → some k ≠ r → w'.heap[k]? = w.heap[k]?
theorem Fx.trans {w w1 w2 : World} {pn pt : Nat} {r : Option Nat} (h : Fx w w1 pn pt r) (k : Fx w1 w2 pn pt r) : Fx w w2 pn pt r :=
  ⟨k.os.trans h.os, k.tape.trans h.tape, k.output.trans h.output, Nat.le_trans h.size k.size, fun i hi h1 h2 h3 => (k.block i (Nat.lt_of_lt_of_le hi h.size) h1 h2 h3).trans (h.block i hi h1 h2 h3)⟩
theorem fx_below {w w' : World} (pn pt : Nat) (r : Option Nat) (h : Below w.heap.size w w') : Fx w w' pn pt r := ⟨h.os, h.tape, h.output, h.size, fun k hk _ _ _ => h.block k hk⟩
theorem fx_grown {w w' : World} (pn pt : Nat) {r : Option Nat} (h : w.grownBy w' r) : Fx w w' pn pt r := ⟨h.os, h.tape, h.output, h.size, fun k hk _ _ h3 => h.block k hk h3⟩
theorem fx_set {w : World} (pn pt q : Nat) (r : Option Nat) (v : Value) (hq : q = pn ∨ q = pt) : Fx w (w.setCell ⟨q, 0, none⟩ v) pn pt r :=
  ⟨rfl, rfl, rfl, by simp [World.setCell], fun k hk h1 h2 _ => Below.heap_setCell _ _ _ _ (fun e => by rcases hq with rfl | rfl; exact h1 e; exact h2 e)⟩
section
variable {w w' : World} {B pa pb pn pt : Nat} {a b : Str} {v : Value} {out : Str} {n : Nat}
theorem Sx.ownb (h : Sx w B pa pb pn pt a b v out n) (k : Nat) (hk : v.ownBlock = some k) : B ≤ k ∧ k < w.heap.size := own_lt h.own k hk
theorem Sx.below (h : Sx w B pa pb pn pt a b v out n) (hb : Below w.heap.size w w') : Sx w' B pa pb pn pt a b v out n where
  ca := (hb.cell (p := ⟨pa, 0, none⟩) (Nat.lt_of_lt_of_le h.la h.le)).trans h.ca
  cb := (hb.cell (p := ⟨pb, 0, none⟩) (Nat.lt_of_lt_of_le h.lb h.le)).trans h.cb
  cn := (hb.cell (p := ⟨pn, 0, none⟩) (Nat.lt_of_lt_of_le h.ln h.le)).trans h.cn
  fn := by rw [← h.fn]; unfold World.frozen?; rw [hb.block pn (Nat.lt_of_lt_of_le h.ln h.le)]
  ct := (hb.cell (p := ⟨pt, 0, none⟩) (Nat.lt_of_lt_of_le h.lt h.le)).trans h.ct
  ft := by rw [← h.ft]; unfold World.frozen?; rw [hb.block pt (Nat.lt_of_lt_of_le h.lt h.le)]
  own := h.own.kept (row := none) ⟨hb.os, hb.tape, hb.output, hb.size, fun k hk _ => hb.block k hk⟩ (by cases h : v.ownBlock <;> simp)
  la := h.la
  lb := h.lb
  ln := h.ln
  lt := h.lt
  na := h.na
  nb := h.nb
  nn := h.nn
  le := Nat.le_trans h.le hb.size
theorem adne {p q : Nat} (h : p ≠ q) : (⟨p, 0, none⟩ : Addr) ≠ ⟨q, 0, none⟩ := fun e => by cases e; exact h rfl
theorem own_set {q : Nat} {u : Value} {xs : List Value} {m : Nat} (h : w.ownsRow B 5 1 v m xs) (hq : q < B) : (w.setCell ⟨q, 0, none⟩ u).ownsRow B 5 1 v m xs :=
  h.kept (row := some q) ⟨rfl, rfl, rfl, by simp [World.setCell], fun k hk hne => Below.heap_setCell _ _ _ _ (fun e => hne (by rw [e]))⟩ (by
    cases hb : v.ownBlock with
    | none => exact .inl rfl
    | some k => exact .inr (fun e => by cases e; have := (own_lt h _ hb).1; omega))
theorem Sx.count (h : Sx w B pa pb pn pt a b v out n) : Sx (w.setCell ⟨pn, 0, none⟩ (.int .i64 ((n + 1 : Nat) : Int))) B pa pb pn pt a b v out (n + 1) where
  ca := by rw [World.cell?_setCell_other _ _ _ _ (adne h.na.1.symm)]; exact h.ca
  cb := by rw [World.cell?_setCell_other _ _ _ _ (adne h.nb.1.symm)]; exact h.cb
  cn := World.cell?_setCell_same _ _ _ h.cn
  fn := by rw [World.frozen?_setCell]; exact h.fn
  ct := by rw [World.cell?_setCell_other _ _ _ _ (adne h.nn)]; exact h.ct
  ft := by rw [World.frozen?_setCell]; exact h.ft
  own := own_set h.own h.ln
  la := h.la
  lb := h.lb
  ln := h.ln
  lt := h.lt
  na := h.na
  nb := h.nb
  nn := h.nn
  le := by simpa [World.setCell] using h.le
theorem Sx.text {v' : Value} {m : Str} (h : Sx w B pa pb pn pt a b v out n) (ho : w'.ownsRow B 5 1 v' (out ++ m).length (bv (out ++ m))) (hg : w.grownBy w' v.ownBlock) : Sx (w'.setCell ⟨pt, 0, none⟩ v') B pa pb pn pt a b v' (out ++ m) n := by
  have hbl : ∀ q, q < B → w'.heap[q]? = w.heap[q]? := fun q hq => hg.block q (Nat.lt_of_lt_of_le hq h.le) (fun e => by have := (h.ownb q e.symm).1; omega)
  have hcl : ∀ q, q < B → w'.cell? ⟨q, 0, none⟩ = w.cell? ⟨q, 0, none⟩ := fun q hq => World.cell?_of_block (a := ⟨q, 0, none⟩) (hbl q hq)
  exact {
    ca := by rw [World.cell?_setCell_other _ _ _ _ (adne h.na.2.symm), hcl pa h.la]; exact h.ca
    cb := by rw [World.cell?_setCell_other _ _ _ _ (adne h.nb.2.symm), hcl pb h.lb]; exact h.cb
    cn := by rw [World.cell?_setCell_other _ _ _ _ (adne h.nn.symm), hcl pn h.ln]; exact h.cn
    fn := by rw [World.frozen?_setCell, ← h.fn]; unfold World.frozen?; rw [hbl pn h.ln]
    ct := World.cell?_setCell_same _ _ _ (by rw [hcl pt h.lt]; exact h.ct)
    ft := by rw [World.frozen?_setCell, ← h.ft]; unfold World.frozen?; rw [hbl pt h.lt]
    own := own_set ho h.lt
    la := h.la
    lb := h.lb
    ln := h.ln
    lt := h.lt
    na := h.na
    nb := h.nb
    nn := h.nn
    le := by have := h.le; have := hg.size; simp [World.setCell]; omega }
end
theorem Sx.pt_kept {w w' : World} {B pa pb pn pt : Nat} {a b : Str} {v : Value} {out : Str} {n : Nat} (h : Sx w B pa pb pn pt a b v out n) (hg : w.grownBy w' v.ownBlock) : w'.cell? ⟨pt, 0, none⟩ = some v ∧ w'.frozen? ⟨pt, 0, none⟩ = false := by
  have hbl : w'.heap[pt]? = w.heap[pt]? := hg.block pt (Nat.lt_of_lt_of_le h.lt h.le) (fun e => by have := (h.ownb pt e.symm).1; have := h.lt; omega)
  exact ⟨(World.cell?_of_block (a := ⟨pt, 0, none⟩) hbl).trans h.ct, by rw [← h.ft]; unfold World.frozen?; rw [hbl]⟩
/-- What a call of it leaves. -/
def PostT (w : World) (B pa pb pn pt : Nat) (a b : Str) (v : Value) (out : Str) (n : Nat) (e : Ending) (w' : World) : Prop :=
  e = .returned (.tuple #[]) ∧ ∃ v', Sx w' B pa pb pn pt a b v' out n ∧ Fx w w' pn pt v.ownBlock ∧ (v'.ownBlock = v.ownBlock ∨ ∀ k, v'.ownBlock = some k → w.heap.size ≤ k)
set_option maxRecDepth 20000 in
set_option maxHeartbeats 1000000 in
theorem take_any {w : World} {B pa pb pn pt : Nat} {a b : Str} {v : Value} {out : Str} {n : Nat} (hS : Sx w B pa pb pn pt a b v out n) (a0 : Option Addr) (c0 : Nat) (o : Str) (h0 : PB w a0 c0 o) (a1 : Option Addr) (c1 : Nat) (x : Str) (h1 : PB w a1 c1 x) (a2 : Option Addr) (c2 : Nat) (y : Str) (h2 : PB w a2 c2 y)
    (hx : x.length ≤ 10000) (hy : y.length ≤ 10000) (ha : a.length ≤ 3000) (hb : b.length ≤ 3000) (ho : out.length ≤ 20000000) (hn : n ≤ 10000) :
    Calls Try.prog 11 #[.agg #[.slice a0 o.length c0, .slice a1 x.length c1, .slice a2 y.length c2], .pointer (some ⟨pa, 0, none⟩), .pointer (some ⟨pb, 0, none⟩), .pointer (some ⟨pn, 0, none⟩), .pointer (some ⟨pt, 0, none⟩)] w (PostT w B pa pb pn pt a b v (out ++ (pc a b (o, x, y)).1) (n + (pc a b (o, x, y)).2)) := by
  obtain ⟨va, vc, hv⟩ := owns_shape hS.own
  subst hv
  obtain ⟨n0, HN0⟩ : ∃ n, Hid (o.length = n) := ⟨_, rfl⟩
  obtain ⟨n1, HN1⟩ : ∃ n, Hid (x.length = n) := ⟨_, rfl⟩
  obtain ⟨n2, HN2⟩ : ∃ n, Hid (y.length = n) := ⟨_, rfl⟩
  obtain ⟨no, HNO⟩ : ∃ n, Hid (out.length = n) := ⟨_, rfl⟩
  rw [HNO.out] at hS
  obtain ⟨u, HU⟩ : ∃ u, Hid (w.alloc (.cells #[.slice a0 n0 c0, .slice a1 n1 c1, .slice a2 n2 c2] 31) = u) := ⟨_, rfl⟩
  have hbu : Below w.heap.size w u := by rw [← HU.out]; exact (Below.refl _ w).alloc (Nat.le_refl _) _
  obtain ⟨k0, k1, k2⟩ := three_of (show u.heap[w.heap.size]? = some (.cells #[.slice a0 n0 c0, .slice a1 n1 c1, .slice a2 n2 c2] 31 (0, 0)) by rw [← HU.out]; exact heap_alloc_new _ _)
  have hlt : w.heap.size < u.heap.size := by rw [← HU.out]; simp
  have C12 : Hid (Calls Try.prog 12 #[.agg #[.slice a0 n0 c0, .slice a1 n1 c1, .slice a2 n2 c2], .func (.func 13) #[] #[]] u (PostCh a1 c1 a2 c2 o x y u)) := hid (by
    rw [← HN0.out, ← HN1.out, ← HN2.out]
    exact choose_any a0 c0 o (h0.below hbu) a1 c1 x (h1.below hbu) a2 c2 y (h2.below hbu))
  have HP1 : Hid (∀ W, Below w.heap.size w W → PB W a1 c1 x) := fun W hW => h1.below hW
  have HP2 : Hid (∀ W, Below w.heap.size w W → PB W a2 c2 y) := fun W hW => h2.below hW
  have HS := hid hS
  have HBU := hid hbu
  have HX : Hid (x.length ≤ 10000) := hx
  have HY : Hid (y.length ≤ 10000) := hy
  have HO : Hid (out.length ≤ 20000000) := ho
  have HLT : Hid (w.heap.size < u.heap.size) := hlt
  rw [HN0.out, HN1.out, HN2.out, HNO.out]
  have hal : w.alloc (.cells #[.slice a0 n0 c0, .slice a1 n1 c1, .slice a2 n2 c2] 31) = u := HU.out
  have HSu := hid (hS.below hbu)
  clear h0 h1 h2 hS hbu hx hy ho hlt
  go_enter Try.func11, Try.ntmps11
  go_wp2_with fail
  refine C12.out.mono ?_
  rintro e w2 ⟨hb2, hcase⟩
  have HB2 : Hid (Below w.heap.size w w2) := hid (HBU.out.trans (hb2.mono (Nat.le_of_lt HLT.out)))
  have HS2 := hid (HS.out.below HB2.out)
  have hct := HS2.out.ct
  have hft := HS2.out.ft
  rcases hcase with ⟨hc, rfl⟩ | ⟨hc, hc2, rfl⟩ | ⟨hc, hc2, rfl⟩
  · have HPC : Hid (pc a b (o, x, y) = (x, 0)) := hid (by unfold pc; rw [if_pos hc])
    rw [HN1.out]
    clear hc hb2
    go_wp2_with (at_builtin; refine wpList_own rfl _ _ rfl B (.slice va no vc) out rfl HS2.out.own HS2.out.le a1 c1 x (by rw [HN1.out]; rfl) (HP1.out w2 HB2.out) (by have := HX.out; have := HO.out; omega) ?_; intro v' w3 g1 g2 g3; obtain ⟨va', vc', rfl⟩ := owns_shape g1; obtain ⟨hct3, hft3⟩ := Sx.pt_kept HS2.out g2; have HFIN := hid (Sx.text HS2.out g1 g2); have HFR := hid (fx_grown pn pt g2); have HAT := hid g3; clear g1 g2 g3)
    have HF0 := hid (fx_below (w' := w2) pn pt (Value.slice va no vc).ownBlock HB2.out)
    rw [← List.length_append]
    go_end0
    refine ⟨rfl, _, by rw [HPC.out]; exact HFIN.out, (HF0.out.trans HFR.out).trans (fx_set pn pt pt _ _ (.inr rfl)), ?_⟩
    rcases HAT.out with h | h
    · exact .inl h
    · right
      intro k hk
      rw [h] at hk
      cases hk
      exact HF0.out.size
  · have HPC : Hid (pc a b (o, x, y) = (y, 0)) := hid (by unfold pc; rw [if_neg hc, if_pos hc2])
    rw [HN2.out]
    clear hc hc2 hb2
    go_wp2_with (at_builtin; refine wpList_own rfl _ _ rfl B (.slice va no vc) out rfl HS2.out.own HS2.out.le a2 c2 y (by rw [HN2.out]; rfl) (HP2.out w2 HB2.out) (by have := HY.out; have := HO.out; omega) ?_; intro v' w3 g1 g2 g3; obtain ⟨va', vc', rfl⟩ := owns_shape g1; obtain ⟨hct3, hft3⟩ := Sx.pt_kept HS2.out g2; have HFIN := hid (Sx.text HS2.out g1 g2); have HFR := hid (fx_grown pn pt g2); have HAT := hid g3; clear g1 g2 g3)
    have HF0 := hid (fx_below (w' := w2) pn pt (Value.slice va no vc).ownBlock HB2.out)
    rw [← List.length_append]
    go_end0
    refine ⟨rfl, _, by rw [HPC.out]; exact HFIN.out, (HF0.out.trans HFR.out).trans (fx_set pn pt pt _ _ (.inr rfl)), ?_⟩
    rcases HAT.out with h | h
    · exact .inl h
    · right
      intro k hk
      rw [h] at hk
      cases hk
      exact HF0.out.size
  · have HPC : Hid (pc a b (o, x, y) = (cfl a b x y, 1)) := hid (by unfold pc; rw [if_neg hc, if_neg hc2])
    have j0 : w2.cell? ⟨w.heap.size, 0, none⟩ = some (.slice a0 n0 c0) := by rw [hb2.cell (p := ⟨w.heap.size, 0, none⟩) HLT.out]; exact k0
    have j1 : w2.cell? ⟨w.heap.size, 1, none⟩ = some (.slice a1 n1 c1) := by rw [hb2.cell (p := ⟨w.heap.size, 1, none⟩) HLT.out]; exact k1
    have j2 : w2.cell? ⟨w.heap.size, 2, none⟩ = some (.slice a2 n2 c2) := by rw [hb2.cell (p := ⟨w.heap.size, 2, none⟩) HLT.out]; exact k2
    have C14 : Hid (Calls Try.prog 14 #[.agg #[.slice a0 n0 c0, .slice a1 n1 c1, .slice a2 n2 c2], .string ⟨a.toArray⟩, .string ⟨b.toArray⟩] w2 (PostB (cfl a b x y) w2)) := hid (by
      have h := showBoth_any (w := w2) a0 c0 n0 a1 c1 x (HP1.out w2 HB2.out) a2 c2 y (HP2.out w2 HB2.out) a b (by have := HX.out; omega) (by have := HY.out; omega) ha hb
      rw [HN1.out, HN2.out] at h
      exact h)
    have hca := HS2.out.ca
    have hcb := HS2.out.cb
    obtain ⟨q, HQ⟩ : ∃ q, Hid (cfl a b x y = q) := ⟨_, rfl⟩
    have hql : q.length ≤ 40000 := by
      rw [← HQ.out]
      unfold cfl
      have e1 := ended_len x
      have e2 := ended_len y
      have := HX.out
      have := HY.out
      simp only [List.length_append, List.length_cons, List.length_nil]
      omega
    rw [HQ.out] at C14 HPC
    clear hc hc2 hb2 hct hft k0 k1 k2
    go_wp2_with fail
    refine C14.out.mono ?_
    rintro e w4 ⟨qa, qc, rfl, hqp, hqb, hqn⟩
    have HB4 : Hid (Below w.heap.size w w4) := hid (HB2.out.trans (hqb.mono HB2.out.size))
    have HS4 := hid (HS.out.below HB4.out)
    have HPQ : Hid (PB w4 qa qc q) := hqp
    have hcn := HS4.out.cn
    have hfn := HS4.out.fn
    have HS5 := hid HS4.out.count
    obtain ⟨w5, HW5⟩ : ∃ u, Hid (w4.setCell ⟨pn, 0, none⟩ (.int .i64 ((n + 1 : Nat) : Int)) = u) := ⟨_, rfl⟩
    have hw5 : w4.setCell ⟨pn, 0, none⟩ (.int .i64 ((n : Int) + 1)) = w5 := by rw [← HW5.out]; rfl
    have HPQ5 : Hid (PB w5 qa qc q) := hid (by
      rw [← HW5.out]
      refine hqp.grown (K := pn) (fun p hp => ?_) (grown_setCell _ ⟨rfl, rfl, rfl, Nat.le_refl _, fun _ _ _ => rfl⟩)
      have h1 := hqn p hp
      have h2 := HS2.out.le
      have h3 := HS2.out.ln
      omega)
    have HF5 : Hid (Fx w w5 pn pt (Value.slice va no vc).ownBlock) := hid (by rw [← HW5.out]; exact (fx_below pn pt _ HB4.out).trans (fx_set pn pt pn _ _ (.inl rfl)))
    rw [HW5.out] at HS5
    have hct5 := HS5.out.ct
    clear hqp hqb hqn j0 j1 j2 hca hcb
    obtain ⟨nq, HNQ⟩ : ∃ k, Hid (q.length = k) := ⟨_, rfl⟩
    rw [HNQ.out]
    go_wp2_with (at_builtin; refine wpList_own rfl _ _ rfl B (.slice va no vc) out rfl HS5.out.own HS5.out.le qa qc q (by rw [HNQ.out]; rfl) HPQ5.out (by have := HO.out; omega) ?_; intro v' w3 g1 g2 g3; obtain ⟨va', vc', rfl⟩ := owns_shape g1; obtain ⟨hct3, hft3⟩ := Sx.pt_kept HS5.out g2; have HFIN := hid (Sx.text HS5.out g1 g2); have HFR := hid (fx_grown pn pt g2); have HAT := hid g3; clear g1 g2 g3)
    rw [← List.length_append]
    go_end0
    refine ⟨rfl, _, by rw [HPC.out]; exact HFIN.out, (HF5.out.trans HFR.out).trans (fx_set pn pt pt _ _ (.inr rfl)), ?_⟩
    rcases HAT.out with h | h
    · exact .inl h
    · right
      intro k hk
      rw [h] at hk
      cases hk
      exact HF5.out.size
end Go.Proofs.Ytakddciegnkpdaa
