/- 'appendCounts'. -/
import Derived.Test.YtdfihfmmfmoabaaDoorPkG
namespace Go.Proofs.YtdfihfmmfmoabaaDoor
open Go.RowKit Go.Shelf
variable [Inhabited Pn]
set_option linter.unusedVariables false
set_option linter.unusedSectionVars false
set_option linter.unusedSimpArgs false
/-- An id's first byte. -/
def hd (p : Pl) : Int := p.id.headD 0
/-- How many have a first byte below f. -/
def cl (s : List Pl) (f : Nat) : Nat := s.countP (fun p => decide (hd p < (f : Int)))
def Mon (s : List Pl) : Prop := s.Pairwise (fun x y => hd x ≤ hd y)
theorem cl_le (s : List Pl) (f : Nat) : cl s f ≤ s.length := List.countP_le_length
theorem cl_spec : ∀ (s : List Pl), Mon s → ∀ (f i : Nat), i < s.length → (i < cl s f ↔ hd (s.getD i p0) < (f : Int))
  | [], _, f, i, hi => by simp at hi
  | x :: r, hm, f, i, hi => by
    unfold Mon at hm
    rw [List.pairwise_cons] at hm
    by_cases hx : hd x < (f : Int)
    · have hc : cl (x :: r) f = cl r f + 1 := by unfold cl; rw [List.countP_cons, if_pos (by simpa using hx)]
      rw [hc]
      cases i with
      | zero => simp [hx]
      | succ i =>
        have := cl_spec r hm.2 f i (by simpa using hi)
        simp only [List.getD_cons_succ]
        rw [← this]
        omega
    · have hge : ∀ y ∈ x :: r, ¬ hd y < (f : Int) := by
        intro y hy
        rcases List.mem_cons.1 hy with rfl | hy
        · exact hx
        · have := hm.1 y hy; omega
      have hc : cl (x :: r) f = 0 := by
        unfold cl
        rw [List.countP_eq_zero]
        intro y hy
        simpa using hge y hy
      rw [hc]
      have hmem : (x :: r).getD i p0 ∈ x :: r := by
        rw [List.getD_eq_getElem?_getD, List.getElem?_eq_getElem hi]
        exact List.getElem_mem _
      have := hge _ hmem
      omega
theorem cl_zero (s : List Pl) (h : ∀ p ∈ s, 0 ≤ hd p) : cl s 0 = 0 := by
  unfold cl
  rw [List.countP_eq_zero]
  intro y hy
  have := h y hy
  simp
  omega
/-- The counts, in bytes. -/
def cntB (s : List Pl) (k : Nat) : List Int := (List.range k).flatMap fun f => n4 (cl s (f + 1))
theorem cntB_succ (s : List Pl) (k : Nat) : cntB s (k + 1) = cntB s k ++ n4 (cl s (k + 1)) := by simp [cntB, List.range_succ]
theorem cntB_len (s : List Pl) (k : Nat) : (cntB s k).length = 4 * k := by
  induction k with
  | zero => rfl
  | succ k ih => rw [cntB_succ, List.length_append, ih, n4_len]; omega
theorem hd_cell {W : World} {b o : Nat} {x : Pl} (h : W.rangeAt b o (plV x)) (hx : x.id.length = 20) : W.cell? ⟨b, o, none⟩ = some (.int .u8 (hd x)) := by
  have hl : 0 < x.id.length := by omega
  have := pl_id h 0 (.int .u8 (hd x)) (by
    obtain ⟨id, of, cr⟩ := x
    cases id with
    | nil => simp at hl
    | cons y r => rfl)
  simpa using this
/-- A full row, not one's own. -/
structure Hr (w0 w : World) (B : Nat) (v : Value) (out : List Int) : Prop where
  below : Below B w0 w
  le : B ≤ w.heap.size
  row_ : ∃ g, v = .slice (some ⟨g, 0, none⟩) out.length out.length ∧ g < w.heap.size ∧ At w g 0 out
theorem Hr.alloc {w0 w : World} {B : Nat} {v : Value} {out : List Int} (h : Hr w0 w B v out) (o : Obj) : Hr w0 (w.alloc o) B v out := by
  obtain ⟨g, e1, e2, e3⟩ := h.row_
  refine ⟨h.below.alloc h.le o, Nat.le_trans h.le (by simp), g, e1, Nat.lt_of_lt_of_le e2 (by simp), fun i hi => ?_⟩
  have hb : Below w.heap.size w (w.alloc o) := (Below.refl _ w).alloc (Nat.le_refl _) o
  exact (hb.cell (p := ⟨g, 0 + i, none⟩) e2).trans (e3 i hi)
theorem wpList_hr_sl {w w0 : World} {ops : Array Oper} {rest : List Oper} {o : Oper} {a : Act} {Q : Exit → Act → World → Prop} (hgd : o.guard = none) (s x : Operand) (ho : o.op = .call { callee := .builtin .append, args := #[s, x], argTypes := #[25, 25] }) (B : Nat) (v : Value) (out : List Int) (hs : a.eval s = v) (h : Hr w0 w B v out)
    (ax : Option Addr) (cx : Nat) (l : List Int) (hx : a.eval x = .slice ax l.length cx) (hS : Sl w ax cx l) (h0 : 0 < l.length) (hl : out.length + l.length ≤ 1000000)
    (hK : ∀ v' w', Bd w0 w' B v' (out ++ l) → w.grownBy w' v.ownBlock → wpList Tryd.prog ops Q rest (a.put o.dst v') w') : wpList Tryd.prog ops Q (o :: rest) a w := by
  obtain ⟨i5, hi, hz0, hz1, hz2⟩ := info_parts Tryd.info5
  obtain ⟨g, rfl, hg, hat⟩ := h.row_
  obtain ⟨b, off, rfl, hb, hbat⟩ := hS.at_ h0
  have hr := run_append_grow (P := Tryd.prog) w 25 o.type 5 i5 (.int .u8 0) Tryd.underlying25 hi hz0 ⟨g, 0, none⟩ out.length out.length (out.map (Value.int .u8)) (by rw [hz1]; simp) (fun j u hj => by
      rw [List.getElem?_map] at hj
      cases hc : out[j]? with
      | none => rw [hc] at hj; cases hj
      | some y =>
        rw [hc] at hj; cases hj
        have := hat j (List.getElem?_eq_some_iff.1 hc).1
        rw [addr_add]
        simpa [List.getD_eq_getElem?_getD, hc] using this) ⟨b, off, none⟩ l.length cx (l.map (Value.int .u8)) (by rw [hz1]; simp) (fun j u hj => by
      rw [List.getElem?_map] at hj
      cases hc : l[j]? with
      | none => rw [hc] at hj; cases hj
      | some y =>
        rw [hc] at hj; cases hj
        have := hbat j (List.getElem?_eq_some_iff.1 hc).1
        rw [addr_add]
        simpa [List.getD_eq_getElem?_getD, hc] using this) (by omega) (by omega) (by rw [hz2]; exact growslice_fits (by omega) (by omega))
  have hge := grownCap_ge w (out.length + l.length) out.length 5
  have hcm : grownCap w (out.length + l.length) out.length 5 ≤ maxLen := grownCap_le_maxLen w (out.length + l.length) out.length 5 (by unfold maxLen; omega)
  have hgr : ∀ row, w.grownBy (w.drew.alloc (.cells ((out.map (Value.int .u8)).toArray ++ (l.map (Value.int .u8)).toArray ++ Builtin.zeroCells (Value.cells (.int .u8 0)) (grownCap w (out.length + l.length) out.length 5 - (out.length + l.length))) 5)) row := fun row =>
    ⟨rfl, rfl, rfl, by simp, fun k hk _ => heap_alloc_old w.drew _ hk⟩
  refine wpList_plain hgd fun K hK' => ?_
  unfold Oper.wp execOp
  simp only [ho, resolve, invoke, builtin, Sem.run_bind, Sem.run_pure, Result.andThen_ok, List.map_toArray, List.map_cons, List.map_nil, hs, hx, hr]
  refine hK' _ _ (hK _ _ ⟨h.below.grown (hgr none) h.le (fun k hk => by cases hk), ⟨by simp, .inr ⟨w.heap.size, _, _, by rw [List.length_append], h.le, heap_alloc_new w.drew _, by rw [List.length_append]; exact hge, hcm, ?_, ?_⟩⟩, Nat.le_trans h.le (hgr none).size⟩ (hgr _))
  · simp only [Array.size_append, List.size_toArray, List.length_map, size_zeroCells]
    show out.length + l.length + (grownCap w (out.length + l.length) out.length 5 - (out.length + l.length)) * 1 = _
    omega
  · simp only [Array.toList_append, List.append_assoc, List.length_append, Nat.mul_one]
    rw [← List.append_assoc, List.map_append, List.take_left' (by simp)]
set_option maxRecDepth 20000 in
set_option maxHeartbeats 1000000 in
theorem appendNumber_hr (w0 w : World) (B : Nat) (v : Value) (out : List Int) (n : Nat) (hn : n < 4294967296) (hb : Hr w0 w B v out) (hl : out.length ≤ 900000) :
    Calls Tryd.prog 13 #[v, .int .u32 n] w (PoA w0 w B v (out ++ n4 n)) := by
  have HN : Hid (n4 n = [(n : Int) / 16777216, (n : Int) / 65536 % 256, (n : Int) / 256 % 256, (n : Int) % 256]) := n4_int n hn
  obtain ⟨w1, HW1⟩ : ∃ w1, Hid (w.alloc (.cells #[.int .u8 ((n : Int) / 16777216), .int .u8 ((n : Int) / 65536 % 256), .int .u8 ((n : Int) / 256 % 256), .int .u8 ((n : Int) % 256)] 5) = w1) := ⟨_, rfl⟩
  have HB1 : Hid (Hr w0 w1 B v out) := hid (by rw [← HW1.out]; exact hb.alloc _)
  have HS1 : Hid (Sl w1 (some ⟨w.heap.size, 0, none⟩) 4 [(n : Int) / 16777216, (n : Int) / 65536 % 256, (n : Int) / 256 % 256, (n : Int) % 256]) := hid (by rw [← HW1.out]; exact sl_four _ _ _ _ _)
  have HG1 : Hid (w.grownBy w1 v.ownBlock) := hid (by rw [← HW1.out]; exact World.grownBy_alloc w _ _)
  have hl4 : out.length + [(n : Int) / 16777216, (n : Int) / 65536 % 256, (n : Int) / 256 % 256, (n : Int) % 256].length ≤ 1000000 := by simp; omega
  clear hb
  go_enter Tryd.func13, Tryd.ntmps13
  go_wp2_with (first
    | (at_builtin; rw [HW1.out]; refine wpList_hr_sl rfl _ _ rfl B _ out rfl HB1.out (some ⟨w.heap.size, 0, none⟩) 4 [(n : Int) / 16777216, (n : Int) / 65536 % 256, (n : Int) / 256 % 256, (n : Int) % 256] rfl HS1.out (by simp) hl4 ?_; intro v2 w2 hb2 hg2; have HB2 : Hid (Bd w0 w2 B v2 (out ++ n4 n)) := hid (by rw [HN.out]; exact hb2); have HG2 : Hid (w.grownBy w2 v.ownBlock) := HG1.out.trans hg2; clear hb2 hg2)
    | fail)
  go_ret
  exact ⟨_, rfl, HB2.out, HG2.out⟩
def Bz (w0 w : World) (B : Nat) (v : Value) (out : List Int) : Prop := Bd w0 w B v out ∨ Hr w0 w B v out
theorem Bz.below {w0 w : World} {B : Nat} {v : Value} {out : List Int} (h : Bz w0 w B v out) : Below B w0 w := h.elim (·.below) (·.below)
theorem appendNumber_z (w0 w : World) (B : Nat) (v : Value) (out : List Int) (n : Nat) (hn : n < 4294967296) (hb : Bz w0 w B v out) (hl : out.length ≤ 900000) :
    Calls Tryd.prog 13 #[v, .int .u32 n] w (PoA w0 w B v (out ++ n4 n)) := by
  rcases hb with hb | hb
  · exact appendNumber_any w0 w B v out n hn hb hl
  · exact appendNumber_hr w0 w B v out n hn hb hl
set_option maxRecDepth 20000 in
set_option maxHeartbeats 4000000 in
theorem appendCounts_any (w0 w : World) (v : Value) (out : List Int) (a : Option Addr) (cap : Nat) (s : List Pl) (hb : Bz w0 w w0.heap.size v out) (hP : Pp w0 a cap s) (hw : Wp s) (hm : Mon s) (hl : out.length ≤ 100000) (hs : s.length ≤ 6000) :
    Calls Tryd.prog 12 #[v, .slice a s.length cap] w fun e w' => ∃ v', e = .returned v' ∧ Bd w0 w' w0.heap.size v' (out ++ cntB s 256) := by
  obtain ⟨n, HN⟩ : ∃ n, Hid (s.length = n) := ⟨_, rfl⟩
  obtain ⟨B, HB⟩ : ∃ B, Hid (w0.heap.size = B) := ⟨_, rfl⟩
  have hn : n ≤ 6000 := by rw [← HN.out]; exact hs
  have HPP : Hid (∀ W, Below B w0 W → Pp W a cap s) := fun W hW => hP.below (by rw [HB.out]; exact hW)
  have HPL : Hid (0 < n → ∃ b off, a = some ⟨b, off, none⟩) := fun h0 => by
    obtain ⟨b, off, e1, e2, _⟩ := hP.at_ (by rw [HN.out]; exact h0)
    exact ⟨b, off, e1⟩
  have hcap : n ≤ cap := by rw [← HN.out]; exact hP.capl
  have HW : Hid (Wp s) := hw
  have HCS : Hid (∀ (f i : Nat), i < n → (i < cl s f ↔ hd (s.getD i p0) < (f : Int))) := fun f i hi => cl_spec s hm f i (by rw [HN.out]; exact hi)
  have HCL : Hid (∀ f, cl s f ≤ n) := fun f => by rw [← HN.out]; exact cl_le s f
  have HC0 : Hid (cl s 0 = 0) := hid (cl_zero s (fun p hp => by
    have h1 := (hw p hp).1
    have h2 := (hw p hp).2.1
    unfold hd
    cases hc : p.id with
    | nil => simp
    | cons y r => rw [hc] at h2; exact (h2 y (by simp)).1))
  have HD0 : Hid (Bz w0 w B v (out ++ cntB s 0)) := hid (by rw [← HB.out]; simpa [cntB] using hb)
  have CN : Hid (∀ (W : World) (u : Value) (o : List Int) (k : Nat), k < 4294967296 → Bz w0 W B u o → o.length ≤ 900000 → Calls Tryd.prog 13 #[u, .int .u32 k] W (PoA w0 W B u (o ++ n4 k))) := fun W u o k hk hb hl => appendNumber_z w0 W B u o k hk hb hl
  rw [HN.out, HB.out]
  clear hb hP hw hm
  go_enter Tryd.func12, Tryd.ntmps12
  go_wp2_with fail
  go_loopg [0, 5, 7] 256 (fun g uv nv fv wr => ∃ (f : Nat) (u : Value), u = uv ∧ f ≤ 256 ∧ g = 256 - f ∧ fv = .int .i64 f ∧ nv = .int .i64 (cl s f : Nat) ∧ Hid (Bz w0 wr B u (out ++ cntB s f)) ∧ Hid (0 < f → Bd w0 wr B u (out ++ cntB s f)))
  case atStart => exact ⟨0, _, rfl, by omega, rfl, rfl, by rw [HC0.out]; rfl, HD0, fun h => absurd h (Nat.lt_irrefl 0)⟩
  case round =>
    obtain ⟨f, u, hu, hf, hg, rfl, rfl, HBD, HBE⟩ := hrel
    subst hu
    obtain ⟨c0, HCC⟩ : ∃ c0, Hid (cl s f = c0) := ⟨_, rfl⟩
    obtain ⟨c1, HC1⟩ : ∃ c1, Hid (cl s (f + 1) = c1) := ⟨_, rfl⟩
    rw [HCC.out]
    by_cases hlt : f < 256
    · have hlti : (f : Int) < 256 := by omega
      have hc01 : c0 ≤ n := by rw [← HCC.out]; exact HCL.out f
      have hc1n : c1 ≤ n := by rw [← HC1.out]; exact HCL.out (f + 1)
      have HK : Hid (∀ i, i < n → c0 ≤ i → hd (s.getD i p0) = (f : Int) → i < c1) := fun i hi h1 h2 => by
        rw [← HC1.out, HCS.out (f + 1) i hi, h2]; omega
      have HK2 : Hid (∀ i, i < n → c0 ≤ i → ¬ hd (s.getD i p0) = (f : Int) → ¬ i < c1) := fun i hi h1 h2 h3 => by
        rw [← HC1.out, HCS.out (f + 1) i hi] at h3
        have h4 : ¬ i < cl s f := by rw [HCC.out]; omega
        rw [HCS.out f i hi] at h4
        omega
      have hc0c1 : c0 ≤ c1 := by
        rcases Nat.lt_or_ge c1 c0 with h | h
        · exfalso
          have h5 := (HCS.out f c1 (by omega)).1 (by rw [HCC.out]; exact h)
          have h6 := (HCS.out (f + 1) c1 (by omega)).2 (by omega)
          rw [HC1.out] at h6
          omega
        · exact h
      go_wp2_with fail
      go_loopg [5] (n - c0) (fun g2 nv wq => ∃ i : Nat, c0 ≤ i ∧ i ≤ c1 ∧ g2 = n - i ∧ nv = .int .i64 i ∧ Hid (wq = wr))
      case atStart => exact ⟨c0, Nat.le_refl _, hc0c1, rfl, rfl, hid rfl⟩
      case round =>
        obtain ⟨i, hi0, hi1, hg2, rfl, HWQ⟩ := hrel
        have hwq := HWQ.out.symm
        subst hwq
        clear HWQ
        by_cases hin : i < n
        · have hini : (i : Int) < (n : Int) := by omega
          obtain ⟨b, off, hae⟩ := HPL.out (by omega)
          subst hae
          obtain ⟨b', off', e1, e2, e3⟩ := (HPP.out wr HBD.out.below).at_ (by rw [HN.out]; omega)
          cases e1
          obtain ⟨x, HX⟩ : ∃ x, Hid (s.getD i p0 = x) := ⟨_, rfl⟩
          have hxm : x ∈ s := by
            rw [← HX.out, List.getD_eq_getElem?_getD, List.getElem?_eq_getElem (by rw [HN.out]; exact hin)]
            exact List.getElem_mem _
          have cc := hd_cell (by rw [← HX.out]; exact e3 i (by rw [HN.out]; exact hin)) (HW.out x hxm).1
          obtain ⟨h, HH⟩ : ∃ h, Hid (hd x = h) := ⟨_, rfl⟩
          rw [HH.out] at cc
          have hh2 : 0 ≤ h ∧ h < 256 := by
            rw [← HH.out]
            have h1 := (HW.out x hxm).1
            have h2 := (HW.out x hxm).2.1
            unfold hd
            cases hc : x.id with
            | nil => rw [hc] at h1; simp at h1
            | cons y r => rw [hc] at h2; exact h2 y (by simp)
          have hwp : wrap64 h = h := by unfold wrap64; omega
          have HHX : Hid (hd (s.getD i p0) = h) := hid (by rw [HX.out]; exact HH.out)
          clear e3 e2 hxm
          by_cases hhf : h = (f : Int)
          · have hhb : (h == (f : Int)) = true := by simpa using hhf
            have hic : i < c1 := HK.out i hin hi0 (by rw [HHX.out]; exact hhf)
            have HFF : Hid (h = (f : Int)) := hhf
            clear hhf
            go_wp2
            go_roundg (n - (i + 1))
            case measure => omega
            case rel => exact ⟨i + 1, by omega, by omega, rfl, by go_num, hid rfl⟩
          · have hhb : (h == (f : Int)) = false := by simpa using hhf
            have hic : i = c1 := by have := HK2.out i hin hi0 (by rw [HHX.out]; exact hhf); omega
            have HFF : Hid (¬ h = (f : Int)) := hhf
            clear hhf
            have hic2 := hic
            subst hic2
            have hcu : (i : Int) < 4294967296 := by omega
            have HCA : Hid (Calls Tryd.prog 13 #[u, .int .u32 (i : Nat)] wr (PoA w0 wr B u (out ++ cntB s (f + 1)))) := hid (by
              rw [cntB_succ, HC1.out, ← List.append_assoc]
              exact CN.out wr u _ i (by omega) HBD.out (by rw [List.length_append, cntB_len]; omega))
            go_wp2_with fail
            refine HCA.out.mono ?_
            rintro ev w3 ⟨v3, rfl, hb3, hg3⟩
            have HB3 : Hid (Bd w0 w3 B v3 (out ++ cntB s (f + 1))) := hb3
            clear hb3 hg3
            go_wp2
            go_roundg (256 - (f + 1))
            case measure => omega
            case rel => exact ⟨f + 1, _, rfl, by omega, rfl, by go_num, by rw [HC1.out], .inl HB3.out, fun _ => HB3.out⟩
        · have hini : ¬ (i : Int) < (n : Int) := by omega
          have hic : i = c1 := by omega
          have hic2 := hic
          subst hic2
          have hcu : (i : Int) < 4294967296 := by omega
          have HCA : Hid (Calls Tryd.prog 13 #[u, .int .u32 (i : Nat)] wr (PoA w0 wr B u (out ++ cntB s (f + 1)))) := hid (by
            rw [cntB_succ, HC1.out, ← List.append_assoc]
            exact CN.out wr u _ i (by omega) HBD.out (by rw [List.length_append, cntB_len]; omega))
          go_wp2_with fail
          refine HCA.out.mono ?_
          rintro ev w3 ⟨v3, rfl, hb3, hg3⟩
          have HB3 : Hid (Bd w0 w3 B v3 (out ++ cntB s (f + 1))) := hb3
          clear hb3 hg3
          go_wp2
          go_roundg (256 - (f + 1))
          case measure => omega
          case rel => exact ⟨f + 1, _, rfl, by omega, rfl, by go_num, by rw [HC1.out], .inl HB3.out, fun _ => HB3.out⟩
    · have hlti : ¬ (f : Int) < 256 := by omega
      obtain rfl : f = 256 := by omega
      go_wp2
      go_ret
      exact ⟨_, rfl, HBE.out (by omega)⟩
end Go.Proofs.YtdfihfmmfmoabaaDoor
