import Derived.Test.YtmpjapcijjjlbaaGreatDoorQd15
import Derived.Test.YtmpjapcijjjlbaaGreatDoorQd12
namespace Go.Proofs.YtmpjapcijjjlbaaGreatDoor
open Go.RowKit
set_option linter.unusedVariables false
set_option linter.unusedSimpArgs false
theorem elem24 : Tryz.prog.underlying 40 = some (.slice (Tryz.prog.elem 40)) := by kernel_rfl
theorem size24e (w : World) : (Go.sizeOf (Tryz.prog.elem 40)).run Tryz.prog w = .ok 1 w := by kernel_rfl
theorem sl24_to (a : Option Addr) (n cap j : Nat) (h : j ≤ cap) (w : World) : (Instr.slice 40 (.slice a n cap) none (some (.int .i64 j)) none).run Tryz.prog w = .ok (.slice a j cap) w := by
  rw [run_slice_h w 40 a n cap elem24 .i64 j (by omega) (by omega), size24e, Result.andThen_ok, sliced]
  congr 2
  split
  · rfl
  · cases a with
    | none => rfl
    | some p => obtain ⟨b, o, f⟩ := p; simp [Addr.add]
theorem sl24_from (a : Option Addr) (n cap j : Nat) (h : j ≤ n) (w : World) : (Instr.slice 40 (.slice a n cap) (some (.int .i64 j)) none none).run Tryz.prog w = .ok (.slice (adX 1 a cap j) (n - j : Nat) (cap - j : Nat)) w := by
  rw [run_slice_l w 40 a n cap elem24 .i64 j (by omega) (by omega), size24e, Result.andThen_ok, sliced]
  rfl
theorem adX_block {k cap j : Nat} {a : Option Addr} {G : Nat} (h : ∀ p : Addr, a = some p → p.block < G) : ∀ p : Addr, adX k a cap j = some p → p.block < G := by
  intro p hp
  unfold adX at hp
  split at hp
  · exact h p hp
  · cases a with
    | none => cases hp
    | some q =>
      have := h q rfl
      simp only [Option.map_some, Option.some.injEq] at hp
      rw [← hp]
      unfold Addr.add
      split <;> exact this
theorem run_build64 (a b c : Option Addr) (na ca nb cb nc cc : Nat) (w : World) : (Instr.buildSlice 104 3 #[(0, .slice a na ca), (1, .slice b nb cb), (2, .slice c nc cc)]).run Tryz.prog w = .ok (.slice (some ⟨w.heap.size, 0, none⟩) 3 3) (w.alloc (.cells #[.slice a na ca, .slice b nb cb, .slice c nc cc] 23)) := by
  obtain ⟨i, hq, hz, hs, _⟩ := info_parts (show (Tryz.prog.info? 23).map (fun i => (i.zero, i.size, i.bytes)) = some (some (.slice none 0 0), 1, 24) by kernel_rfl)
  refine run_buildSlice w 104 23 3 _ #[.slice a na ca, .slice b nb cb, .slice c nc cc] i _ Tryz.underlying104 hq hz (by rw [hs]; decide) (by rw [hs]; decide) ?_
  rw [hs]
  kernel_rfl
theorem exec_append {w w0 : World} {o : Oper} {a : Act} (s x : Operand) (ho : o.op = .call { callee := .builtin .append, args := #[s, x], argTypes := #[23, 23] }) (B : Nat) (v : Value) (l : List Ed) (hs : a.eval s = v) (h : BE 43 w0 w B v l)
    (ax : Option Addr) (cx : Nat) (m : List Ed) (hx : a.eval x = .slice ax m.length cx) (hP : PE w ax cx m) (hl : l.length + m.length ≤ 30000) :
    ∃ v' w', (execOp a.eval o).run Tryz.prog w = .ok (.value v') w' ∧ BE 43 w0 w' B v' (l ++ m) := by
  obtain ⟨i, hi, hz0, hz1, hz2⟩ := info_parts Tryz.info43
  have key : ∀ v' w', (Builtin.append_ #[23, 23] o.type #[v, .slice ax m.length cx]).run Tryz.prog w = .ok v' w' → (execOp a.eval o).run Tryz.prog w = .ok (.value v') w' := fun v' w' hr => by
    unfold execOp
    simp only [ho, resolve, invoke, builtin, Sem.run_bind, Sem.run_pure, Result.andThen_ok, List.map_toArray, List.map_cons, List.map_nil, hs, hx, hr]
  cases ax with
  | none =>
    have hc : cx = 0 := hP.nil rfl
    have hcl := hP.capl
    obtain rfl : m = [] := List.length_eq_zero_iff.1 (by omega)
    subst hc
    exact ⟨v, w, key _ _ (run_append_owned_none (P := Tryz.prog) w B 23 o.type 43 i 2 und26 hi v _ _ h.own), by simpa using h⟩
  | some ad =>
    obtain ⟨bk, of, fr⟩ := ad
    by_cases h0 : m.length = 0
    · obtain rfl : m = [] := List.length_eq_zero_iff.1 h0
      obtain ⟨v', w', hr, h1, h2, _⟩ := run_append_own_at (P := Tryz.prog) w B 23 o.type 43 i _ 2 24 und26 hi hz0 hz1 hz2 rfl (by decide) v _ _ h.own ⟨bk, of, fr⟩ 0 cx [] (by simp) (fun j u hj => by cases hj) (fun u hu => by cases hu) (by unfold maxLen; omega) (by have h2 := Nat.mul_le_mul hl (Nat.le_refl 24); exact Nat.le_trans h2 (by decide)) h.le
      refine ⟨v', w', key _ _ hr, h.below.grown h2 h.le (fun k hk => (own_lt h.own k hk).1), ?_, Nat.le_trans h.le h2.size⟩
      simpa using h1
    · obtain ⟨b', off', e1, _⟩ := hP.at_ (by omega)
      cases e1
      obtain ⟨v', w', hr, h1, h2, _⟩ := run_append_own_at (P := Tryz.prog) w B 23 o.type 43 i _ 2 24 und26 hi hz0 hz1 hz2 rfl (by decide) v _ _ h.own ⟨bk, of, none⟩ m.length cx (m.flatMap encE) (fX_len m (fun x _ => encE_len x)) (hP.cells (by decide) (fun x _ => encE_len x)) (fX_one m encE_one) (by unfold maxLen; omega) (by have h2 := Nat.mul_le_mul hl (Nat.le_refl 24); exact Nat.le_trans h2 (by decide)) h.le
      refine ⟨v', w', key _ _ hr, h.below.grown h2 h.le (fun k hk => (own_lt h.own k hk).1), ?_, Nat.le_trans h.le h2.size⟩
      rw [List.length_append, List.flatMap_append]
      exact h1
theorem step_append {w w0 : World} {ops : Array Oper} {o : Oper} {a : Act} {KK : Act → World → Prop} {Q : Exit → Act → World → Prop} {P : Prop} (hg : o.guard = none) (s x : Operand) (ho : o.op = .call { callee := .builtin .append, args := #[s, x], argTypes := #[23, 23] }) (B : Nat) (v : Value) (l : List Ed) (hs : a.eval s = v) (h : BE 43 w0 w B v l)
    (ax : Option Addr) (cx : Nat) (m : List Ed) (hx : a.eval x = .slice ax m.length cx) (hP : PE w ax cx m) (hl : l.length + m.length ≤ 30000) (hK : ∀ v' w', BE 43 w0 w' B v' (l ++ m) → KK (a.put o.dst v') w') :
    if Region.wanted o (yielded ops a.tmps) = true then Oper.wp Tryz.prog o a w KK Q else P := by
  obtain ⟨v', w', hr, hb⟩ := exec_append s x ho B v l hs h ax cx m hx hP hl
  exact step_exec hg v' hr (hK v' w' hb)
theorem own_pe {e : TypeId} {w0 w : World} {B g n c : Nat} {l : List Ed} (h : BE e w0 w B (.slice (some ⟨g, 0, none⟩) n c) l) (hn : l.length = n) : PE w (some ⟨g, 0, none⟩) c l := by
  obtain ⟨a, cap, e1, hp, _⟩ := h.px (d := (0, [])) (fun x _ => encE_len x)
  cases e1
  exact hp
theorem three_cells {w : World} {R : Nat} {a b c : Value} {t : TypeId} (h : w.heap[R]? = some (.cells #[a, b, c] t (0, 0))) : w.cell? ⟨R, 0, none⟩ = some a ∧ w.cell? ⟨R, 1, none⟩ = some b ∧ w.cell? ⟨R, 2, none⟩ = some c :=
  ⟨by rw [cell_of_row _ R 0 _ _ _ h]; rfl, by rw [cell_of_row _ R 1 _ _ _ h]; rfl, by rw [cell_of_row _ R 2 _ _ _ h]; rfl⟩
set_option maxRecDepth 20000 in
set_option maxHeartbeats 8000000 in
theorem between_any {w : World} (a : Option Addr) (ca : Nat) (A : List Str) (hA : PS w a ca A) (hab : ∀ p : Addr, a = some p → p.block < w.heap.size) (b : Option Addr) (cb : Nat) (B : List Str) (hB : PS w b cb B) (hbb : ∀ p : Addr, b = some p → p.block < w.heap.size) (hAl : A.length ≤ 4000) (hBl : B.length ≤ 4000) (hAs : ∀ x ∈ A, x.length ≤ 4000) (hBs : ∀ x ∈ B, x.length ≤ 4000) :
    Calls Tryz.prog 14 #[.slice a A.length ca, .slice b B.length cb] w (PostW (edits A B) w) := by
  obtain ⟨n, HN⟩ : ∃ n, Hid (A.length = n) := ⟨_, rfl⟩
  obtain ⟨m, HM⟩ : ∃ n, Hid (B.length = n) := ⟨_, rfl⟩
  obtain ⟨g, HG⟩ : ∃ g, Hid (w.heap.size = g) := ⟨_, rfl⟩
  obtain ⟨f, HF⟩ : ∃ f, Hid (fr A B = f) := ⟨_, rfl⟩
  have hfl := fr_le A B
  rw [HF.out, HN.out, HM.out] at hfl
  have hn4 : n ≤ 4000 := by rw [← HN.out]; exact hAl
  have hm4 : m ≤ 4000 := by rw [← HM.out]; exact hBl
  have hca : n ≤ ca := by rw [← HN.out]; exact hA.capl
  have hcb : m ≤ cb := by rw [← HM.out]; exact hB.capl
  have HPA : Hid (∀ W, Below g w W → PS W a ca A) := fun W hW => hA.below (by rw [HG.out]; exact hW)
  have HPB : Hid (∀ W, Below g w W → PS W b cb B) := fun W hW => hB.below (by rw [HG.out]; exact hW)
  have HAB : Hid (∀ p : Addr, a = some p → p.block < g) := hid (by rw [← HG.out]; exact hab)
  have HBB : Hid (∀ p : Addr, b = some p → p.block < g) := hid (by rw [← HG.out]; exact hbb)
  have HAS : Hid (∀ x ∈ A, x.length ≤ 4000) := hAs
  have HBS : Hid (∀ x ∈ B, x.length ≤ 4000) := hBs
  have C23 : Hid (Calls Tryz.prog 24 #[.slice a n ca, .slice b m cb] w fun e w' => e = .returned (.int .i64 (f : Int)) ∧ Below g w w') := hid (by
    have := front_any a ca A hA b cb B hB hAl hBl
    rw [HN.out, HM.out, HF.out, HG.out] at this
    exact this)
  have hs0 : ∀ W : World, (Instr.slice 40 (.slice a n ca) none (some (.int .i64 (f : Int))) none).run Tryz.prog W = .ok (.slice a f ca) W := fun W => sl24_to a n ca f (by omega) W
  have hs1 : ∀ W : World, (Instr.slice 40 (.slice a n ca) (some (.int .i64 (f : Int))) none none).run Tryz.prog W = .ok (.slice (adX 1 a ca f) (n - f : Nat) (ca - f : Nat)) W := fun W => sl24_from a n ca f (by omega) W
  have hs2 : ∀ W : World, (Instr.slice 40 (.slice b m cb) (some (.int .i64 (f : Int))) none none).run Tryz.prog W = .ok (.slice (adX 1 b cb f) (m - f : Nat) (cb - f : Nat)) W := fun W => sl24_from b m cb f (by omega) W
  have HT1 : Hid (∀ W, Below g w W → PS W (adX 1 a ca f) (ca - f) (A.drop f)) := fun W hW => (HPA.out W hW).from f (by rw [HN.out]; omega)
  have HT2 : Hid (∀ W, Below g w W → PS W (adX 1 b cb f) (cb - f) (B.drop f)) := fun W hW => (HPB.out W hW).from f (by rw [HM.out]; omega)
  have HA1 : Hid (∀ p : Addr, adX 1 a ca f = some p → p.block < g) := adX_block HAB.out
  have HA2 : Hid (∀ p : Addr, adX 1 b cb f = some p → p.block < g) := adX_block HBB.out
  obtain ⟨a1, HE1⟩ : ∃ x, Hid (adX 1 a ca f = x) := ⟨_, rfl⟩
  obtain ⟨b1, HE2⟩ : ∃ x, Hid (adX 1 b cb f = x) := ⟨_, rfl⟩
  rw [HE1.out] at hs1 HT1 HA1
  rw [HE2.out] at hs2 HT2 HA2
  obtain ⟨n1, HN1⟩ : ∃ x, Hid (n - f = x) := ⟨_, rfl⟩
  obtain ⟨m1, HM1⟩ : ∃ x, Hid (m - f = x) := ⟨_, rfl⟩
  rw [HN1.out] at hs1
  rw [HM1.out] at hs2
  obtain ⟨ca1, HCA⟩ : ∃ x, Hid (ca - f = x) := ⟨_, rfl⟩
  obtain ⟨cb1, HCB⟩ : ∃ x, Hid (cb - f = x) := ⟨_, rfl⟩
  rw [HCA.out] at hs1 HT1
  rw [HCB.out] at hs2 HT2
  have HLA : Hid ((A.drop f).length = n1) := hid (by rw [List.length_drop, HN.out, HN1.out])
  have HLB : Hid ((B.drop f).length = m1) := hid (by rw [List.length_drop, HM.out, HM1.out])
  have HLT : Hid ((A.take f).length = f) := hid (by rw [List.length_take, HN.out]; omega)
  obtain ⟨M, HMX⟩ : ∃ M, Hid (max n m = M) := ⟨_, rfl⟩
  have hmx : max (n : Int) (m : Int) = (M : Int) := by rw [← HMX.out]; omega
  obtain ⟨E, HE⟩ : ∃ E, Hid (edits A B = E) := ⟨_, rfl⟩
  rw [HN.out, HM.out, HE.out]
  clear hA hB hab hbb hAl hBl hAs hBs
  go_enter Tryz.func14, Tryz.ntmps14
  go_wp2_with fail
  refine C23.out.mono ?_
  rintro e w1 ⟨rfl, hb1⟩
  have HB1 : Hid (Below g w w1) := hb1
  have C0 : Hid (Calls Tryz.prog 25 #[.int .i64 0, .slice a f ca] w1 (PostA (mk 0 (A.take f)) f w1)) := hid (by
    have := all_any 0 a ca (A.take f) ((HPA.out w1 hb1).take f) (by rw [HLT.out]; omega)
    rw [HLT.out] at this
    exact this)
  clear hb1
  go_wp2_with fail
  refine C0.out.mono ?_
  rintro e w2 ⟨rfl, hl0, hbe0⟩
  obtain ⟨K, HK⟩ : ∃ K, Hid (w1.heap.size = K) := ⟨_, rfl⟩
  rw [HK.out] at hbe0 ⊢
  have HBE0 : Hid (BE 43 w1 w2 K (.slice (some ⟨K, 0, none⟩) f f) (mk 0 (A.take f))) := hbe0
  have HL0 : Hid ((mk 0 (A.take f)).length = f) := hl0
  have hgK : g ≤ K := by have := HB1.out.size; have := HG.out; have := HK.out; omega
  have HB2 : Hid (Below g w w2) := hid (HB1.out.trans (hbe0.below.mono hgK))
  have hbd : Below w2.heap.size w2 w2.drew := ⟨rfl, rfl, rfl, Nat.le_refl _, fun _ _ => rfl⟩
  have HBD : Hid (Below g w w2.drew) := hid (HB2.out.trans (hbd.mono (by have := HB2.out.size; have := HG.out; omega)))
  have HBE1 : Hid (BE 43 w1 w2.drew K (.slice (some ⟨K, 0, none⟩) f f) (mk 0 (A.take f))) := hid (hbe0.carry hbd)
  clear hbe0 hl0 hbd
  by_cases hbig : 2000 < n ∨ 2000 < m
  · have hMI : (2000 : Int) < (M : Int) := by have := HMX.out; omega
    go_wp2_with fail
    refine wp_region_held_drew (S := fun _ => True) (by kernel_rfl) trivial (fun hHeld => ?_)
    generalize w2.drew = wd at HBD HBE1 ⊢
    refine takeL (i := 0) (v := ?_) rfl (by kernel_rfl) (by kernel_rfl) (by kernel_rfl) (fun _ _ _ h => h) (Or.inl ⟨by rfl, ?_⟩) hHeld ?_
    rotate_left
    · rintro w' _; go_simp; rfl
    try simp only [Act.put, List.setIfInBounds_toArray, List.set_cons_zero, List.set_cons_succ]
    refine takeL (i := 1) (v := ?_) rfl (by kernel_rfl) (by kernel_rfl) (by kernel_rfl) (fun _ _ _ h => h) (Or.inl ⟨by rfl, ?_⟩) hHeld ?_
    rotate_left
    · rintro w' _; go_simp; rfl
    try simp only [Act.put, List.setIfInBounds_toArray, List.set_cons_zero, List.set_cons_succ]
    refine takeL (i := 2) (v := ?_) rfl (by kernel_rfl) (by kernel_rfl) (by kernel_rfl) (fun _ _ _ h => h) (Or.inl ⟨by rfl, ?_⟩) hHeld ?_
    rotate_left
    · rintro w' _; go_simp; rfl
    try simp only [Act.put, List.setIfInBounds_toArray, List.set_cons_zero, List.set_cons_succ]
    refine takeL (i := 3) (v := ?_) rfl (by kernel_rfl) (by kernel_rfl) (by kernel_rfl) (fun _ _ _ h => h) (Or.inl ⟨by rfl, ?_⟩) hHeld ?_
    rotate_left
    · rintro w' _; go_simp; rfl
    try simp only [Act.put, List.setIfInBounds_toArray, List.set_cons_zero, List.set_cons_succ]
    refine takeL (i := 5) (v := ?_) rfl (by kernel_rfl) (by kernel_rfl) (by kernel_rfl) (fun _ _ _ h => h) (Or.inl ⟨by rfl, ?_⟩) hHeld ?_
    rotate_left
    · rintro w' _; go_simp; rfl
    try simp only [Act.put, List.setIfInBounds_toArray, List.set_cons_zero, List.set_cons_succ]
    refine takeL (i := 6) (v := ?_) rfl (by kernel_rfl) (by kernel_rfl) (by kernel_rfl) (fun _ _ _ h => h) (Or.inl ⟨by rfl, ?_⟩) hHeld ?_
    rotate_left
    · rintro w' _; go_simp; rfl
    try simp only [Act.put, List.setIfInBounds_toArray, List.set_cons_zero, List.set_cons_succ]
    refine takeL (i := 7) (v := ?_) rfl (by kernel_rfl) (by kernel_rfl) (by kernel_rfl) (fun _ _ _ h => h) (Or.inl ⟨by rfl, ?_⟩) hHeld ?_
    rotate_left
    · rintro w' _; go_simp; rfl
    try simp only [Act.put, List.setIfInBounds_toArray, List.set_cons_zero, List.set_cons_succ]
    have C1 : Calls Tryz.prog 25 #[.int .i64 1, .slice a1 n1 ca1] wd (PostA (mk 1 (A.drop f)) n1 wd) := by
      have := all_any 1 a1 ca1 (A.drop f) (HT1.out wd HBD.out) (by rw [HLA.out]; have := HN1.out; omega)
      rw [HLA.out] at this
      exact this
    refine wpAnyH_ready (rs := [4]) (by kernel_rfl) (by simp) ?_
    refine consL rfl (fun KK hKK => ?_) AllReadyH.nil
    refine step_callv (by rfl) 25 [.const (.int .i64 1), .tmp 23] _ [.int .i64 1, .slice a1 n1 ca1] _ (by rfl) (by rfl) (fun w => enters_of Tryz.func25 (by kernel_rfl) rfl _ w) C1 ?_
    rintro e w3 ⟨rfl, hl1, hbe1⟩
    refine ⟨_, rfl, ?_⟩
    refine hKK.out _ _ trivial (fun _ => ?_)
    clear hKK KK C1
    try simp only [Act.put, List.setIfInBounds_toArray, List.set_cons_zero, List.set_cons_succ]
    obtain ⟨K2, HK2⟩ : ∃ K, Hid (wd.heap.size = K) := ⟨_, rfl⟩
    rw [HK2.out] at hbe1 ⊢
    have hb3 : Below wd.heap.size wd w3 := by rw [HK2.out]; exact hbe1.below
    have HB3 : Hid (Below g w w3) := hid (HBD.out.trans (hb3.mono (by have := HBD.out.size; have := HG.out; omega)))
    have HP0 : Hid (PE w3 (some ⟨K, 0, none⟩) f (mk 0 (A.take f))) := hid ((own_pe HBE1.out HL0.out).below hb3)
    have HP1 : Hid (PE w3 (some ⟨K2, 0, none⟩) n1 (mk 1 (A.drop f))) := hid (own_pe hbe1 hl1)
    have C2 : Calls Tryz.prog 25 #[.int .i64 2, .slice b1 m1 cb1] w3 (PostA (mk 2 (B.drop f)) m1 w3) := by
      have := all_any 2 b1 cb1 (B.drop f) (HT2.out w3 HB3.out) (by rw [HLB.out]; have := HM1.out; omega)
      rw [HLB.out] at this
      exact this
    clear hbe1 hb3
    refine wpAnyH_ready (rs := [8]) (by kernel_rfl) (by simp) ?_
    refine consL rfl (fun KK hKK => ?_) AllReadyH.nil
    refine step_callv (by rfl) 25 [.const (.int .i64 2), .tmp 27] _ [.int .i64 2, .slice b1 m1 cb1] _ (by rfl) (by rfl) (fun w => enters_of Tryz.func25 (by kernel_rfl) rfl _ w) C2 ?_
    rintro e w4 ⟨rfl, hl2, hbe2⟩
    refine ⟨_, rfl, ?_⟩
    refine hKK.out _ _ trivial (fun _ => ?_)
    clear hKK KK C2
    try simp only [Act.put, List.setIfInBounds_toArray, List.set_cons_zero, List.set_cons_succ]
    obtain ⟨K3, HK3⟩ : ∃ K, Hid (w3.heap.size = K) := ⟨_, rfl⟩
    rw [HK3.out] at hbe2 ⊢
    have hb4 : Below w3.heap.size w3 w4 := by rw [HK3.out]; exact hbe2.below
    have HB4 : Hid (Below g w w4) := hid (HB3.out.trans (hb4.mono (by have := HB3.out.size; have := HG.out; omega)))
    obtain ⟨w5, HW5⟩ : ∃ u, Hid (w4.alloc (.cells #[.slice (some ⟨K, 0, none⟩) f f, .slice (some ⟨K2, 0, none⟩) n1 n1, .slice (some ⟨K3, 0, none⟩) m1 m1] 23) = u) := ⟨_, rfl⟩
    have hb5 : Below w4.heap.size w4 w5 := by rw [← HW5.out]; exact (Below.refl _ w4).alloc (Nat.le_refl _) _
    have HB5 : Hid (Below g w w5) := hid (HB4.out.trans (hb5.mono (by have := HB4.out.size; have := HG.out; omega)))
    have hP0 := (HP0.out.below hb4).below hb5
    have hP1 := (HP1.out.below hb4).below hb5
    have hP2 := (own_pe hbe2 hl2).below hb5
    obtain ⟨H, HH⟩ : ∃ H, Hid (w4.heap.size = H) := ⟨_, rfl⟩
    have hnew : w5.heap[H]? = some (.cells #[.slice (some ⟨K, 0, none⟩) f f, .slice (some ⟨K2, 0, none⟩) n1 n1, .slice (some ⟨K3, 0, none⟩) m1 m1] 23 (0, 0)) := by rw [← HW5.out, ← HH.out]; exact heap_alloc_new w4 _
    obtain ⟨q0, q1, q2⟩ := three_cells hnew
    have hr64 := run_build64 (some ⟨K, 0, none⟩) (some ⟨K2, 0, none⟩) (some ⟨K3, 0, none⟩) f f n1 n1 m1 m1 w4
    rw [HW5.out, HH.out] at hr64
    have C25 : Calls Tryz.prog 26 #[.slice (some ⟨H, 0, none⟩) 3 3] w5 fun e w' => ∃ v, e = .returned v ∧ BE 43 w5 w' w5.heap.size v (edL A B) := by
      have hh := hl1
      have hl := hl2
      have := concat_any H f n1 m1 (some ⟨K, 0, none⟩) (some ⟨K2, 0, none⟩) (some ⟨K3, 0, none⟩) (mk 0 (A.take f)) (mk 1 (A.drop f)) (mk 2 (B.drop f)) w5 (by rw [HL0.out]; exact q0) (by rw [hl1]; exact q1) (by rw [hl2]; exact q2) (lt_of_some hnew) hP0 hP1 hP2 (by rw [HL0.out, hl1, hl2]; have := HN1.out; have := HM1.out; omega)
      unfold edL
      rw [HF.out]
      exact this
    clear hbe2 hb4 hb5 hP0 hP1 hP2 hnew q0 q1 q2
    refine wpAnyH_ready (rs := [9]) (by kernel_rfl) (by simp) ?_
    refine consL rfl (fun KK hKK => ?_) AllReadyH.nil
    refine step_exec (by rfl) (.slice (some ⟨H, 0, none⟩) 3 3) (w' := w5) (by go_simp; exact ⟨by rw [HH.out], HW5.out⟩) ?_
    refine hKK.out _ _ trivial (fun _ => ?_)
    clear hKK KK
    try simp only [Act.put, List.setIfInBounds_toArray, List.set_cons_zero, List.set_cons_succ]
    refine wpAnyH_ready (rs := [10]) (by kernel_rfl) (by simp) ?_
    refine consL rfl (fun KK hKK => ?_) AllReadyH.nil
    refine step_callv (by rfl) 26 [.tmp 29] _ [.slice (some ⟨H, 0, none⟩) 3 3] _ (by rfl) (by rfl) (fun w => enters_of Tryz.func26 (by kernel_rfl) rfl _ w) C25 ?_
    rintro e w6 ⟨v6, rfl, hbe6⟩
    refine ⟨_, rfl, ?_⟩
    refine hKK.out _ _ trivial (fun _ => ?_)
    clear hKK KK C25
    try simp only [Act.put, List.setIfInBounds_toArray, List.set_cons_zero, List.set_cons_succ]
    have h5s := HB5.out.size
    rw [HG.out] at h5s
    have HFIN : Hid (BE 43 w w6 w.heap.size v6 E) := hid (by
      rw [← HE.out, show edits A B = edL A B by unfold edits; rw [HN.out, HM.out, if_pos hbig]]
      have hb := HB5.out.trans (hbe6.below.mono h5s)
      exact ⟨by rw [HG.out]; exact hb, base_mono hbe6.own (by rw [HG.out]; exact h5s), hb.size⟩)
    clear hbe6
    refine takeL (i := 11) (v := ?_) rfl (by kernel_rfl) (by kernel_rfl) (by kernel_rfl) (fun _ _ _ h => h) (Or.inl ⟨by rfl, ?_⟩) trivial ?_
    rotate_left
    · rintro w' _; go_simp; rfl
    try simp only [Act.put, List.setIfInBounds_toArray, List.set_cons_zero, List.set_cons_succ]
    refine wpAnyH_done (by kernel_rfl) ?_ _
    go_wp2
    go_ret
    exact ⟨_, rfl, HFIN.out⟩
  · have hMI : ¬ (2000 : Int) < (M : Int) := by have := HMX.out; omega
    go_wp2_with fail
    refine wp_region_held_drew (S := fun _ => True) (by kernel_rfl) trivial (fun hHeld => ?_)
    generalize w2.drew = wd at HBD HBE1 ⊢
    refine takeL (i := 0) (v := ?_) rfl (by kernel_rfl) (by kernel_rfl) (by kernel_rfl) (fun _ _ _ h => h) (Or.inl ⟨by rfl, ?_⟩) hHeld ?_
    rotate_left
    · rintro w' _; go_simp; rfl
    try simp only [Act.put, List.setIfInBounds_toArray, List.set_cons_zero, List.set_cons_succ]
    refine takeL (i := 1) (v := ?_) rfl (by kernel_rfl) (by kernel_rfl) (by kernel_rfl) (fun _ _ _ h => h) (Or.inl ⟨by rfl, ?_⟩) hHeld ?_
    rotate_left
    · rintro w' _; go_simp; rfl
    try simp only [Act.put, List.setIfInBounds_toArray, List.set_cons_zero, List.set_cons_succ]
    refine takeL (i := 2) (v := ?_) rfl (by kernel_rfl) (by kernel_rfl) (by kernel_rfl) (fun _ _ _ h => h) (Or.inl ⟨by rfl, ?_⟩) hHeld ?_
    rotate_left
    · rintro w' _; go_simp; rfl
    try simp only [Act.put, List.setIfInBounds_toArray, List.set_cons_zero, List.set_cons_succ]
    refine takeL (i := 3) (v := ?_) rfl (by kernel_rfl) (by kernel_rfl) (by kernel_rfl) (fun _ _ _ h => h) (Or.inl ⟨by rfl, ?_⟩) hHeld ?_
    rotate_left
    · rintro w' _; go_simp; rfl
    try simp only [Act.put, List.setIfInBounds_toArray, List.set_cons_zero, List.set_cons_succ]
    refine takeL (i := 4) (v := ?_) rfl (by kernel_rfl) (by kernel_rfl) (by kernel_rfl) (fun _ _ _ h => h) (Or.inl ⟨by rfl, ?_⟩) hHeld ?_
    rotate_left
    · rintro w' _; go_simp; rfl
    try simp only [Act.put, List.setIfInBounds_toArray, List.set_cons_zero, List.set_cons_succ]
    refine takeL (i := 5) (v := ?_) rfl (by kernel_rfl) (by kernel_rfl) (by kernel_rfl) (fun _ _ _ h => h) (Or.inl ⟨by rfl, ?_⟩) hHeld ?_
    rotate_left
    · rintro w' _; go_simp; rfl
    try simp only [Act.put, List.setIfInBounds_toArray, List.set_cons_zero, List.set_cons_succ]
    refine takeL (i := 6) (v := ?_) rfl (by kernel_rfl) (by kernel_rfl) (by kernel_rfl) (fun _ _ _ h => h) (Or.inl ⟨by rfl, ?_⟩) hHeld ?_
    rotate_left
    · rintro w' _; go_simp; rfl
    try simp only [Act.put, List.setIfInBounds_toArray, List.set_cons_zero, List.set_cons_succ]
    have hds := HBD.out.size
    rw [HG.out] at hds
    have C26 : Calls Tryz.prog 27 #[.slice a1 n1 ca1, .slice b1 m1 cb1] wd (PostW (ed (A.drop f) (B.drop f)) wd) := by
      have := weave_any a1 ca1 (A.drop f) (HT1.out wd HBD.out) (fun p hp => Nat.lt_of_lt_of_le (HA1.out p hp) hds) b1 cb1 (B.drop f) (HT2.out wd HBD.out) (fun p hp => Nat.lt_of_lt_of_le (HA2.out p hp) hds) (by rw [HLA.out]; have := HN1.out; omega) (by rw [HLB.out]; have := HM1.out; omega) (fun x hx => HAS.out x (List.mem_of_mem_drop hx)) (fun x hx => HBS.out x (List.mem_of_mem_drop hx))
      rw [HLA.out, HLB.out] at this
      exact this
    refine wpAnyH_ready (rs := [7]) (by kernel_rfl) (by simp) ?_
    refine consL rfl (fun KK hKK => ?_) AllReadyH.nil
    refine step_callv (by rfl) 27 [.tmp 34, .tmp 37] _ [.slice a1 n1 ca1, .slice b1 m1 cb1] _ (by rfl) (by rfl) (fun w => enters_of Tryz.func27 (by kernel_rfl) rfl _ w) C26 ?_
    rintro e w3 ⟨v3, rfl, hbe3⟩
    refine ⟨_, rfl, ?_⟩
    refine hKK.out _ _ trivial (fun _ => ?_)
    clear hKK KK C26
    try simp only [Act.put, List.setIfInBounds_toArray, List.set_cons_zero, List.set_cons_succ]
    obtain ⟨a3, c3, rfl, hp3, _⟩ := hbe3.px (d := (0, [])) (fun x _ => encE_len x)
    have HBE3 := HBE1.out.carry hbe3.below
    have hel := ed_len (A.drop f) (B.drop f)
    rw [HLA.out, HLB.out] at hel
    refine wpAnyH_ready (rs := [8]) (by kernel_rfl) (by simp) ?_
    refine consL rfl (fun KK hKK => ?_) AllReadyH.nil
    refine step_append (by rfl) (.tmp 31) (.tmp 38) (by rfl) K (.slice (some ⟨K, 0, none⟩) f f) (mk 0 (A.take f)) (by rfl) HBE3 a3 c3 (ed (A.drop f) (B.drop f)) (by rfl) hp3 (by rw [HL0.out]; have := HN1.out; have := HM1.out; omega) ?_
    intro v4 w4 hbe4
    refine hKK.out _ _ trivial (fun _ => ?_)
    clear hKK KK
    try simp only [Act.put, List.setIfInBounds_toArray, List.set_cons_zero, List.set_cons_succ]
    have HFIN : Hid (BE 43 w w4 w.heap.size v4 E) := hid (by
      rw [← HE.out, show edits A B = ed A B by unfold edits; rw [HN.out, HM.out, if_neg hbig], ed_fr A B, HF.out]
      have hb := HB1.out.trans (hbe4.below.mono hgK)
      exact ⟨by rw [HG.out]; exact hb, base_mono hbe4.own (by rw [HG.out]; exact hgK), hb.size⟩)
    clear hbe4 hbe3 hp3 HBE3
    refine takeL (i := 9) (v := ?_) rfl (by kernel_rfl) (by kernel_rfl) (by kernel_rfl) (fun _ _ _ h => h) (Or.inl ⟨by rfl, ?_⟩) trivial ?_
    rotate_left
    · rintro w' _; go_simp; rfl
    try simp only [Act.put, List.setIfInBounds_toArray, List.set_cons_zero, List.set_cons_succ]
    refine wpAnyH_done (by kernel_rfl) ?_ _
    go_wp2
    go_ret
    exact ⟨_, rfl, HFIN.out⟩
end Go.Proofs.YtmpjapcijjjlbaaGreatDoor
namespace Go.Proofs.YtmpjapcijjjlbaaGreatDoor
open Go.RowKit
set_option linter.unusedVariables false
set_option linter.unusedSimpArgs false
abbrev As := Nat × List Str
def ap1 (X : List Str) (s : As) (e : Ed) : Option As :=
  if e.1 = 2 then some (s.1, s.2 ++ [e.2]) else
  if s.1 < X.length ∧ X.getD s.1 [] = e.2 then some (s.1 + 1, if e.1 = 1 then s.2 else s.2 ++ [e.2]) else none
def apE (X : List Str) : List Ed → As → Option As
  | [], s => some s
  | e :: r, s => match ap1 X s e with
    | none => none
    | some t => apE X r t
theorem apE_app (X : List Str) : ∀ (a b : List Ed) (s : As), apE X (a ++ b) s = (apE X a s).bind (apE X b)
  | [], b, s => rfl
  | e :: a, b, s => by
    rw [List.cons_append, apE, apE]
    cases ap1 X s e with
    | none => rfl
    | some t => exact apE_app X a b t
theorem apE_snoc (X : List Str) (es : List Ed) (k : Nat) (s t : As) (e : Ed) (hk : k < es.length) (he : es.getD k (0, []) = e) (h : apE X (es.take k) s = some t) : apE X (es.take (k + 1)) s = ap1 X t e := by
  rw [take_snocG (0, []) es k hk, he, apE_app, h]
  simp only [Option.bind_some, apE]
  cases ap1 X t e <;> rfl
theorem apE_none (X : List Str) (es : List Ed) (k : Nat) (s : As) (h : apE X (es.take k) s = none) : apE X es s = none := by
  rw [← List.take_append_drop k es, apE_app, h]
  rfl
def apH (X : List Str) (s : As) (y : Gh) : Option As := if (X.length : Int) < y.1 then none else apE X y.2.2.2.2 (y.1.toNat, s.2 ++ (X.drop s.1).take (y.1.toNat - s.1))
def apL (X : List Str) : List Gh → As → Option As
  | [], s => some s
  | y :: r, s => match apH X s y with
    | none => none
    | some t => apL X r t
theorem apL_app (X : List Str) : ∀ (a b : List Gh) (s : As), apL X (a ++ b) s = (apL X a s).bind (apL X b)
  | [], b, s => rfl
  | e :: a, b, s => by
    rw [List.cons_append, apL, apL]
    cases apH X s e with
    | none => rfl
    | some t => exact apL_app X a b t
theorem apL_snoc (X : List Str) (l : List Gh) (k : Nat) (s t : As) (y : Gh) (hk : k < l.length) (he : l.getD k g0 = y) (h : apL X (l.take k) s = some t) : apL X (l.take (k + 1)) s = apH X t y := by
  rw [take_snocG g0 l k hk, he, apL_app, h]
  simp only [Option.bind_some, apL]
  cases apH X t y <;> rfl
theorem apL_none (X : List Str) (l : List Gh) (k : Nat) (s : As) (h : apL X (l.take k) s = none) : apL X l s = none := by
  rw [← List.take_append_drop k l, apL_app, h]
  rfl
def chP (X : List Str) (l : List Gh) : Option (List Str) := (apL X l (0, [])).map fun s => s.2 ++ X.drop s.1
def arL (L : List Str) : Prop := ∀ i, i + 1 < L.length → (L.getD i []).getLast? = some 10
theorem ap1_two {X : List Str} {s : As} {e : Ed} (h : e.1 = 2) : ap1 X s e = some (s.1, s.2 ++ [e.2]) := by rw [ap1, if_pos h]
theorem ap1_one {X : List Str} {s : As} {e : Ed} (h : e.1 = 1) (h1 : s.1 < X.length) (h2 : X.getD s.1 [] = e.2) : ap1 X s e = some (s.1 + 1, s.2) := by rw [ap1, if_neg (by omega), if_pos ⟨h1, h2⟩, if_pos h]
theorem ap1_zero {X : List Str} {s : As} {e : Ed} (h : e.1 = 0) (h1 : s.1 < X.length) (h2 : X.getD s.1 [] = e.2) : ap1 X s e = some (s.1 + 1, s.2 ++ [e.2]) := by rw [ap1, if_neg (by omega), if_pos ⟨h1, h2⟩, if_neg (by omega)]
theorem ap1_no {X : List Str} {s : As} {e : Ed} (h : e.1 ≠ 2) (h1 : ¬ (s.1 < X.length ∧ X.getD s.1 [] = e.2)) : ap1 X s e = none := by rw [ap1, if_neg h, if_neg h1]
set_option maxRecDepth 20000 in
theorem areLines_any {w : World} (a : Option Addr) (cap : Nat) (L : List Str) (hP : PS w a cap L) (hn : L.length ≤ 100000000) (hl : ∀ x ∈ L, x.length ≤ 10000000) :
    Calls Tryz.prog 40 #[.slice a L.length cap] w fun e w' => BIR (arL L) e ∧ Below w.heap.size w w' := by
  obtain ⟨n, HN⟩ : ∃ n, Hid (L.length = n) := ⟨_, rfl⟩
  obtain ⟨m, HM⟩ : ∃ m, Hid (n - 1 = m) := ⟨_, rfl⟩
  have hn6 : n ≤ 100000000 := by rw [← HN.out]; exact hn
  have hm6 : m ≤ 100000000 := by rw [← HM.out]; omega
  have hmx : max ((n : Int) - 1) 0 = (m : Int) := by rw [← HM.out]; omega
  have hwn : IntKind.i64.wrap ((n : Int) - 1) = (n : Int) - 1 := by rw [IntKind.wrap_i64]; omega
  have hcap : n ≤ cap := by rw [← HN.out]; exact hP.capl
  have hsl : ∀ W : World, (Instr.slice 40 (.slice a n cap) none (some (.int .i64 (m : Int))) none).run Tryz.prog W = .ok (.slice a m cap) W := fun W => sl24_to a n cap m (by have := HM.out; omega) W
  have HPS : Hid (∀ W, Below w.heap.size w W → PS W a cap L) := hid (fun W hW => hP.below hW)
  have HLL := hid hl
  have HFA : Hid (0 < n → ∃ b off, a = some ⟨b, off, none⟩) := hid (fun h0 => by
    obtain ⟨b, off, e1, _⟩ := hP.at_ (by rw [HN.out]; exact h0)
    exact ⟨b, off, e1⟩)
  rw [HN.out]
  clear hP hn hl
  go_enter Tryz.func40, Tryz.ntmps40
  go_wp2_with fail
  go_loopg [12] m (fun gg iv wr => ∃ i : Nat, i ≤ m ∧ gg = m - i ∧ iv = .int .i64 i ∧ Hid (Below w.heap.size w wr) ∧ Hid (∀ j, j < i → (L.getD j []).getLast? = some 10))
  case atStart => exact ⟨0, Nat.zero_le _, rfl, rfl, hid (Below.refl _ _), hid (fun j hj => by omega)⟩
  case round =>
    obtain ⟨i, hi, hkk, rfl, HB, HD⟩ := hrel
    by_cases hlt : i < m
    · have hlti : (i : Int) < (m : Int) := by omega
      obtain ⟨b, off, rfl⟩ := HFA.out (by have := HM.out; omega)
      have hil : i < L.length := by have := HN.out; have := HM.out; omega
      obtain ⟨t, HT⟩ : ∃ t, Hid (L.getD i [] = t) := ⟨_, rfl⟩
      obtain ⟨X, HX⟩ : ∃ X : ByteArray, Hid (⟨t.toArray⟩ = X) := ⟨_, hid rfl⟩
      have ks : wr.cell? ⟨b, off + i, none⟩ = some (.string X) := by
        have := (HPS.out wr HB.out).str i hil
        rw [HT.out, HX.out] at this
        exact this
      obtain ⟨r, HR⟩ : ∃ r, Hid (decide (t.getLast? = some 10) = r) := ⟨_, rfl⟩
      have C56 : Hid (∀ W : World, Calls Tryz.prog 56 #[.string X] W fun e w' => e = .returned (.bool r) ∧ w' = W) := hid (fun W => by
        rw [← HX.out, ← HR.out]
        exact hasEnd_any t (HLL.out t (by rw [← HT.out]; exact getD_mem L i [] hil)) W)
      have HIL := hid hil
      clear hil
      go_wp2_with fail
      refine (C56.out _).mono ?_
      rintro e w2 ⟨rfl, rfl⟩
      cases r with
      | false =>
        have HNO : Hid (¬ arL L) := hid (fun h => by
          have h1 := h i (by have := HN.out; have := HM.out; omega)
          rw [HT.out] at h1
          have h2 := HR.out
          rw [decide_eq_true h1] at h2
          cases h2)
        go_wp2
        go_ret
        exact ⟨⟨false, ⟨fun h => (by cases h), fun h => absurd h HNO.out⟩, rfl⟩, HB.out⟩
      | true =>
        have HD2 : Hid (∀ j, j < i + 1 → (L.getD j []).getLast? = some 10) := hid (fun j hj => by
          by_cases e : j = i
          · rw [e, HT.out]; exact of_decide_eq_true HR.out
          · exact HD.out j (by omega))
        go_wp2
        go_roundg (m - (i + 1))
        case measure => omega
        case rel => exact ⟨i + 1, by omega, rfl, by go_num, HB, HD2⟩
    · have hlti : ¬ (i : Int) < (m : Int) := by omega
      have HF : Hid (arL L) := hid (fun j hj => HD.out j (by have := HN.out; have := HM.out; omega))
      go_wp2
      go_ret
      exact ⟨⟨true, ⟨fun _ => HF.out, fun _ => rfl⟩, rfl⟩, HB.out⟩
end Go.Proofs.YtmpjapcijjjlbaaGreatDoor
