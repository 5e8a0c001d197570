/- The document's 'Edits': its table. -/
import Derived.Test.YtakddciegnkpdaaEdV
namespace Go.Proofs.Ytakddciegnkpdaa
open Go.RowKit
set_option linter.unusedVariables false
set_option linter.unusedSimpArgs false
/-- Right from a row on, and in that row from a column on. -/
def Rg {α : Type} [DecidableEq α] (X Y : List α) (r s : Nat) (t : Nat → Nat → Nat) : Prop := (∀ i k, r ≤ i → i ≤ X.length → k ≤ Y.length → t i k = lcs (X.drop i) (Y.drop k)) ∧ (∀ k, s ≤ k → k ≤ Y.length → 0 < r → t (r - 1) k = lcs (X.drop (r - 1)) (Y.drop k)) ∧ ∀ i k, i + 1 < r ∨ (i + 1 = r ∧ k < s) → t i k = 0
theorem Rg.step {α : Type} [DecidableEq α] {X Y : List α} {i k v : Nat} {t : Nat → Nat → Nat} (h : Rg X Y (i + 1) (k + 1) t) (hv : v = lcs (X.drop i) (Y.drop k)) : Rg X Y (i + 1) k (updT t i k v) := by
  obtain ⟨h1, h2, h3⟩ := h
  refine ⟨fun a b ha hb hc => ?_, fun b hb hc h0 => ?_, fun a b hab => ?_⟩
  · unfold updT
    rw [if_neg (by omega)]
    exact h1 a b ha hb hc
  · unfold updT
    simp only [Nat.add_sub_cancel] at *
    by_cases e : b = k
    · rw [if_pos ⟨trivial, e⟩, e]; exact hv
    · rw [if_neg (by omega)]; exact h2 b (by omega) hc h0
  · unfold updT
    rw [if_neg (by omega)]
    exact h3 a b (by omega)
theorem Rg.row {α : Type} [DecidableEq α] {X Y : List α} {i : Nat} {t : Nat → Nat → Nat} (h : Rg X Y (i + 1) 0 t) : Rg X Y i Y.length t := by
  obtain ⟨h1, h2, h3⟩ := h
  refine ⟨fun a b ha hb hc => ?_, fun b hb hc h0 => ?_, fun a b hab => ?_⟩
  · by_cases e : a = i
    · subst e
      have := h2 b (Nat.zero_le _) hc (by omega)
      simpa using this
    · exact h1 a b (by omega) hb hc
  · rw [h3 (i - 1) b (.inl (by omega)), lcs_out X Y _ b (.inr hb)]
  · exact h3 a b (.inl (by omega))
/-- The document's table. -/
structure Ct (T p q : Nat) (w wr : World) (t : Nat → Nat → Nat) : Prop where
  below : Below T w wr
  size : T < wr.heap.size
  cell : ∀ i k, i < p → k < q → wr.cell? ⟨T, i * q + k, none⟩ = some (.int .i64 (t i k : Int)) ∧ wr.frozen? ⟨T, i * q + k, none⟩ = false
theorem at_one {i j k l q : Nat} (hk : k < q) (hl : l < q) (h : i * q + k = j * q + l) : i = j ∧ k = l := by
  have h1 : (i * q + k) / q = i := by rw [Nat.mul_comm, Nat.mul_add_div (by omega), Nat.div_eq_of_lt hk]; rfl
  have h2 : (j * q + l) / q = j := by rw [Nat.mul_comm, Nat.mul_add_div (by omega), Nat.div_eq_of_lt hl]; rfl
  have e : i = j := by rw [← h1, ← h2, h]
  subst e
  exact ⟨rfl, by omega⟩
theorem at_lt {i k p q : Nat} (hi : i < p) (hk : k < q) : i * q + k < p * q := by
  have : (i + 1) * q ≤ p * q := Nat.mul_le_mul_right q hi
  rw [Nat.add_mul] at this
  omega
theorem Ct.drew {T p q : Nat} {w wr : World} {t : Nat → Nat → Nat} (h : Ct T p q w wr t) : Ct T p q w wr.drew t := ⟨h.below.trans ⟨rfl, rfl, rfl, Nat.le_refl _, fun _ _ => rfl⟩, h.size, h.cell⟩
theorem Ct.carry {T p q : Nat} {w wr w' : World} {t : Nat → Nat → Nat} (h : Ct T p q w wr t) (hb : Below wr.heap.size wr w') : Ct T p q w w' t :=
  ⟨h.below.trans (hb.mono (Nat.le_of_lt h.size)), Nat.lt_of_lt_of_le h.size hb.size, fun i k hi hk => ⟨(hb.cell (p := ⟨T, i * q + k, none⟩) h.size).trans (h.cell i k hi hk).1, by rw [frozen_block (hb.block T h.size)]; exact (h.cell i k hi hk).2⟩⟩
theorem Ct.set {T p q : Nat} {w wr : World} {t : Nat → Nat → Nat} (h : Ct T p q w wr t) (i k v : Nat) (hi : i < p) (hk : k < q) : Ct T p q w (wr.setCell ⟨T, i * q + k, none⟩ (.int .i64 (v : Int))) (updT t i k v) := by
  refine ⟨h.below.setCell (Nat.le_refl _) _, by simp [World.setCell]; exact h.size, fun j l hj hl => ?_⟩
  rw [World.frozen?_setCell]
  refine ⟨?_, (h.cell j l hj hl).2⟩
  unfold updT
  by_cases e : j = i ∧ l = k
  · rw [if_pos e]
    obtain ⟨rfl, rfl⟩ := e
    exact World.cell?_setCell_same _ _ _ (h.cell j l hj hl).1
  · rw [if_neg e, World.cell?_setCell_other _ _ _ _ (by intro h2; simp only [Addr.mk.injEq] at h2; exact e (at_one hl hk (by omega)))]
    exact (h.cell j l hj hl).1
theorem mk_big (m : Nat) (hm : m ≤ 5000000) (w : World) : (Instr.makeSlice 43 (.int .i64 (m : Int)) (.int .i64 (m : Int))).run Try.prog w = .ok (.slice (some ⟨w.heap.size, 0, none⟩) m m) (w.alloc (.cells (List.replicate m (.int .i64 0)).toArray 3)) := by
  obtain ⟨i, hi, hz0, hz1, hz2⟩ := info_parts Try.info3
  have h2 : (i.bytes : Int) * (m : Int) ≤ 281474976710656 := by rw [hz2]; omega
  have := run_make (P := Try.prog) w 43 3 i (.int .i64 0) und40 hi hz0 .i64 .i64 m m (by omega) (by omega) h2 (by omega)
  rw [hz1, show (Value.int IntKind.i64 0).cells = #[Value.int IntKind.i64 0] from rfl, Nat.mul_one, Int.toNat_natCast, made_arr] at this
  exact this
theorem ct_made {T p q S : Nat} (hS : p * q = S) (w : World) (hT : w.heap.size = T) : Ct T p q w (w.alloc (.cells (List.replicate S (.int .i64 0)).toArray 3)) (fun _ _ => 0) := by
  subst hT
  have hnew := heap_alloc_new w (.cells (List.replicate S (.int .i64 0)).toArray 3)
  refine ⟨(Below.refl _ w).alloc (Nat.le_refl _) _, by simp, fun i k hi hk => ⟨?_, frozen_of_row _ _ _ _ _ hnew⟩⟩
  rw [cell_of_row _ _ _ _ _ _ hnew]
  have := at_lt hi hk
  rw [hS] at this
  simp [this]
structure QE (T j l : Nat) (v u : Int) (W : World) : Prop where
  c0 : W.cell? ⟨T, j, none⟩ = some (.int .i64 v)
  c1 : W.cell? ⟨T, l, none⟩ = some (.int .i64 u)
set_option maxRecDepth 40000 in
set_option maxHeartbeats 32000000 in
theorem refEdits_small {w : World} (a : Option Addr) (ca : Nat) (s : Str) (hA : PB w a ca s) (hs : s.length ≤ 4000) (b : Option Addr) (cb : Nat) (t : Str) (hB : PB w b cb t) (ht : t.length ≤ 4000) (hbig : ¬ (2000 < (lns s).length ∨ 2000 < (lns t).length)) :
    Calls Try.prog 22 #[.slice a s.length ca, .slice b t.length cb] w (PostX (edits (lns s) (lns t)) w) := by
  obtain ⟨n, HN⟩ : ∃ n, Hid (s.length = n) := ⟨_, rfl⟩
  obtain ⟨m, HM⟩ : ∃ n, Hid (t.length = n) := ⟨_, rfl⟩
  obtain ⟨g, HG⟩ : ∃ g, Hid (w.heap.size = g) := ⟨_, rfl⟩
  obtain ⟨A, HX⟩ : ∃ X, Hid (lns s = X) := ⟨_, rfl⟩
  obtain ⟨B, HY⟩ : ∃ X, Hid (lns t = X) := ⟨_, rfl⟩
  obtain ⟨nx, HNX⟩ : ∃ n, Hid (A.length = n) := ⟨_, rfl⟩
  obtain ⟨ny, HNY⟩ : ∃ n, Hid (B.length = n) := ⟨_, rfl⟩
  have hnx4 : nx ≤ 4000 := by have := lns_few s; rw [HX.out, HNX.out] at this; omega
  have hny4 : ny ≤ 4000 := by have := lns_few t; rw [HY.out, HNY.out] at this; omega
  have C1 : Hid (Calls Try.prog 15 #[.slice a n ca] w (PostS A w)) := hid (by rw [← HN.out, ← HX.out]; exact refLines_any a ca s hA hs)
  have C2 : Hid (∀ W, Below g w W → Calls Try.prog 15 #[.slice b m cb] W (PostS B W)) := fun W hW => by rw [← HM.out, ← HY.out]; exact refLines_any b cb t (hB.below (by rw [HG.out]; exact hW)) ht
  obtain ⟨E, HE⟩ : ∃ E, Hid (edits A B = E) := ⟨_, rfl⟩
  rw [HX.out, HY.out, HNX.out, HNY.out] at hbig
  rw [HN.out, HM.out, HX.out, HY.out, HE.out]
  clear hA hB hs ht
  go_enter Try.func22, Try.ntmps22
  go_wp2_with fail
  refine C1.out.mono ?_
  rintro e w1 ⟨v, rfl, hbs⟩
  obtain ⟨xa, xc, rfl, hps, hxa, _⟩ := hbs.px (d := []) (fun x _ => encS_len x)
  rw [HNX.out]
  have HB1 : Hid (Below g w w1) := hid (by rw [← HG.out]; exact hbs.below)
  have C2' : Hid (Calls Try.prog 15 #[.slice b m cb] w1 (PostS B w1)) := hid (C2.out w1 HB1.out)
  have HPX1 : Hid (PS w1 xa xc A) := hps
  clear hbs hps hxa
  go_wp2_with fail
  refine C2'.out.mono ?_
  rintro e w2 ⟨v, rfl, hbs⟩
  obtain ⟨ya, yc, rfl, hps, hya, _⟩ := hbs.px (d := []) (fun x _ => encS_len x)
  rw [HNY.out]
  have HB2 : Hid (Below g w w2) := hid (HB1.out.trans (hbs.below.mono (by have := HB1.out.size; have := HG.out; omega)))
  have HPX2 : Hid (PS w2 xa xc A) := hid (HPX1.out.below hbs.below)
  have HPY2 : Hid (PS w2 ya yc B) := hps
  clear hbs hps hya
  have HFA : Hid (0 < nx → ∃ b off, xa = some ⟨b, off, none⟩) := fun h0 => by
    obtain ⟨b, off, e1, _⟩ := HPX2.out.at_ (by rw [HNX.out]; exact h0)
    exact ⟨b, off, e1⟩
  have HFB : Hid (0 < ny → ∃ c off, ya = some ⟨c, off, none⟩) := fun h0 => by
    obtain ⟨b, off, e1, _⟩ := HPY2.out.at_ (by rw [HNY.out]; exact h0)
    exact ⟨b, off, e1⟩
  have hx2 : nx ≤ 2000 := by omega
  have hy2 : ny ≤ 2000 := by omega
  have HEE : Hid (ed A B = E) := hid (by rw [← HE.out]; unfold edits; rw [HNX.out, HNY.out, if_neg hbig])
  have hbx : ¬ (2000 : Int) < (nx : Int) := by omega
  have hby : ¬ (2000 : Int) < (ny : Int) := by omega
  obtain ⟨q, HQ⟩ : ∃ q, Hid (ny + 1 = q) := ⟨_, rfl⟩
  obtain ⟨p, HP⟩ : ∃ p, Hid (nx + 1 = p) := ⟨_, rfl⟩
  obtain ⟨S, HS⟩ : ∃ S, Hid (p * q = S) := ⟨_, rfl⟩
  have hqI : (ny : Int) + 1 = (q : Int) := by have := HQ.out; omega
  have hpI : (nx : Int) + 1 = (p : Int) := by have := HP.out; omega
  have hmS : (p : Int) * (q : Int) = (S : Int) := by rw [← HS.out, Int.natCast_mul]
  have hS4 : S ≤ 5000000 := by
    rw [← HS.out]
    have h1 : p ≤ 2001 := by have := HP.out; omega
    have h2 : q ≤ 2001 := by have := HQ.out; omega
    exact Nat.le_trans (Nat.mul_le_mul h1 h2) (by decide)
  obtain ⟨T, HT⟩ : ∃ T, Hid (w2.heap.size = T) := ⟨_, rfl⟩
  obtain ⟨w3, HW3⟩ : ∃ u, Hid (w2.alloc (.cells (List.replicate S (.int .i64 0)).toArray 3) = u) := ⟨_, rfl⟩
  have hmk := mk_big S hS4 w2
  rw [HW3.out, HT.out] at hmk
  have HCT0 : Hid (Ct T p q w2 w3 (fun _ _ => 0)) := hid (by rw [← HW3.out]; exact ct_made HS.out w2 HT.out)
  have HRT0 : Hid (Rg A B nx ny (fun _ _ => 0)) := hid ⟨fun a k h1 h2 h3 => (lcs_out A B a k (.inl (by rw [HNX.out]; exact h1))).symm, fun k h1 h2 h3 => (lcs_out A B _ k (.inr (by rw [HNY.out]; exact h1))).symm, fun _ _ _ => rfl⟩
  have HPA : Hid (∀ W, Below T w2 W → PS W xa xc A) := fun W hW => HPX2.out.below (by rw [HT.out]; exact hW)
  have HPB : Hid (∀ W, Below T w2 W → PS W ya yc B) := fun W hW => HPY2.out.below (by rw [HT.out]; exact hW)
  have hnd : (nx : Int) - 1 = dn nx := rfl
  have hgT : g ≤ T := by have := HB2.out.size; have := HG.out; have := HT.out; omega
  go_wp2_with fail
  go_loopg [14] nx (fun gg iv wr => ∃ (r : Nat) (t : Nat → Nat → Nat), iv = .int .i64 (dn r) ∧ r ≤ nx ∧ gg = r ∧ Hid (Ct T p q w2 wr t) ∧ Hid (Rg A B r ny t))
  case atStart => exact ⟨nx, _, rfl, Nat.le_refl _, rfl, HCT0, HRT0⟩
  case round =>
    obtain ⟨r, t, rfl, hr, hkk, HCT, HRT⟩ := hrel
    clear hnd HCT0 HRT0 hmk hmS
    cases r with
    | zero =>
      rw [dn_zero]
      have HAL : Hid (∀ i k, i ≤ nx → k ≤ ny → t i k = lcs (A.drop i) (B.drop k)) := fun i k hi hk => HRT.out.1 i k (Nat.zero_le _) (by rw [HNX.out]; exact hi) (by rw [HNY.out]; exact hk)
      clear HRT
      have hbT : Below T w2 wr := HCT.out.below
      obtain ⟨w4, HW4⟩ : ∃ u, Hid (wr = u) := ⟨_, rfl⟩
      have e4 := HW4.out
      subst e4
      obtain ⟨R, HR⟩ : ∃ R, Hid (wr.heap.size = R) := ⟨_, rfl⟩
      have hTR : T ≤ R := by rw [← HR.out]; exact Nat.le_of_lt HCT.out.size
      have hgR : g ≤ R := by omega
      have HB4 : Hid (Below g w wr) := hid (HB2.out.trans (hbT.mono hgT))
      have HPA2 : Hid (∀ W, Below R wr W → PS W xa xc A) := fun W hW => HPA.out W (hbT.trans (hW.mono hTR))
      have HPB2 : Hid (∀ W, Below R wr W → PS W ya yc B) := fun W hW => HPB.out W (hbT.trans (hW.mono hTR))
      have HCW : Hid (∀ W, Below R wr W → Ct T p q w2 W t) := fun W hW => HCT.out.carry (by rw [HR.out]; exact hW)
      have HL0 : Hid (BE 52 wr wr R (.slice none 0 0) []) := hid (bx_nil 52 wr R (by rw [HR.out]; exact Nat.le_refl _))
      clear HW4 hbT
      go_wp2_with fail
      generalize wr = w4 at HB4 HPA2 HPB2 HCW HL0 HCT HR ⊢
      go_loopg [7, 8, 9] (nx + ny) (fun gg lv iv kv wr => ∃ (i k l : Nat) (L : List Ed) (la : Option Addr) (lc : Nat), lv = .slice la l lc ∧ iv = .int .i64 i ∧ kv = .int .i64 k ∧ L.length = l ∧ i ≤ nx ∧ k ≤ ny ∧ gg = (nx - i) + (ny - k) ∧ Hid (BE 52 w4 wr R (.slice la l lc) L) ∧ Hid (L ++ ed (A.drop i) (B.drop k) = E))
      case atStart => exact ⟨0, 0, 0, [], none, 0, rfl, rfl, rfl, rfl, Nat.zero_le _, Nat.zero_le _, rfl, HL0, hid (by rw [List.drop_zero, List.drop_zero, HEE.out]; rfl)⟩
      case round =>
        obtain ⟨i, k, l, L, la, lc, rfl, rfl, rfl, hLl, hi, hk, hgg, HBE, HED⟩ := hrel
        have hl4 : l ≤ 20000 := by
          have h8 := congrArg List.length HED.out
          have h9 := ed_len A B
          rw [HEE.out, HNX.out, HNY.out] at h9
          rw [List.length_append, hLl] at h8
          omega
        have hwi : IntKind.i64.wrap ((i : Int) + 1) = (i : Int) + 1 := by rw [IntKind.wrap_i64]; omega
        have hbd : Below wr.heap.size wr wr.drew := ⟨rfl, rfl, rfl, Nat.le_refl _, fun _ _ => rfl⟩
        have HBEd : Hid (BE 52 w4 wr.drew R (.slice la l lc) L) := hid (HBE.out.carry hbd)
        clear hbd
        by_cases hin : i < nx
        · have hinI : (i : Int) < (nx : Int) := by omega
          obtain ⟨ba, oa, e1⟩ := HFA.out (by omega)
          cases e1
          obtain ⟨x, HXX⟩ : ∃ x, Hid (A.getD i [] = x) := ⟨_, rfl⟩
          obtain ⟨BX, HBX⟩ : ∃ X, Hid ((⟨x.toArray⟩ : ByteArray) = X) := ⟨_, rfl⟩
          have HCX : Hid (∀ W, Below R w4 W → W.cell? ⟨ba, oa + i, none⟩ = some (.string BX)) := fun W hW => by
            rw [← HBX.out, ← HXX.out]
            exact PS.str (HPA2.out W hW) i (by rw [HNX.out]; exact hin)
          have HD1 : Hid (∀ W : World, (Instr.buildSlice 49 1 #[(0, .agg #[.int .i64 1, .string BX])]).run Try.prog W = .ok (.slice (some ⟨W.heap.size, 0, none⟩) 1 1) (W.alloc (.cells #[.int .i64 1, .string BX] 52))) := fun W => run_build29 1 (.string BX) ⟨_, rfl⟩ W
          by_cases hkm : k < ny
          · have hkmI : (k : Int) < (ny : Int) := by omega
            have hkne : ((k : Int) == (ny : Int)) = false := by simp; omega
            obtain ⟨bb, ob, e1⟩ := HFB.out (by omega)
            cases e1
            obtain ⟨y, HYY⟩ : ∃ x, Hid (B.getD k [] = x) := ⟨_, rfl⟩
            obtain ⟨BY, HBY⟩ : ∃ X, Hid ((⟨y.toArray⟩ : ByteArray) = X) := ⟨_, rfl⟩
            have HCY : Hid (∀ W, Below R w4 W → W.cell? ⟨bb, ob + k, none⟩ = some (.string BY)) := fun W hW => by
              rw [← HBY.out, ← HYY.out]
              exact PS.str (HPB2.out W hW) k (by rw [HNY.out]; exact hkm)
            have HD2 : Hid (∀ W : World, (Instr.buildSlice 49 1 #[(0, .agg #[.int .i64 2, .string BY])]).run Try.prog W = .ok (.slice (some ⟨W.heap.size, 0, none⟩) 1 1) (W.alloc (.cells #[.int .i64 2, .string BY] 52))) := fun W => run_build29 2 (.string BY) ⟨_, rfl⟩ W
            have HD0 : Hid (∀ W : World, (Instr.buildSlice 49 1 #[(0, .agg #[.int .i64 0, .string BX])]).run Try.prog W = .ok (.slice (some ⟨W.heap.size, 0, none⟩) 1 1) (W.alloc (.cells #[.int .i64 0, .string BX] 52))) := fun W => run_build29 0 (.string BX) ⟨_, rfl⟩ W
            have HQ1 : Hid (Q2 ba (oa + i) bb (ob + k) BX BY wr.drew) := hid ⟨HCX.out _ HBEd.out.below, HCY.out _ HBEd.out.below⟩
            obtain ⟨P0, HP0⟩ : ∃ P, Hid (i * q = P) := ⟨_, rfl⟩
            obtain ⟨P1, HP1⟩ : ∃ P, Hid ((i + 1) * q = P) := ⟨_, rfl⟩
            have hm0 : (i : Int) * (q : Int) = (P0 : Int) := by rw [← HP0.out, Int.natCast_mul]
            have hm1 : ((i : Int) + 1) * (q : Int) = (P1 : Int) := by rw [← HP1.out, Int.natCast_mul]; rfl
            have hP01 : P0 + q = P1 := by rw [← HP0.out, ← HP1.out, Nat.add_mul, Nat.one_mul]
            have hP1S : P1 + q ≤ S := by
              have h1 : (i + 1 + 1) * q ≤ p * q := Nat.mul_le_mul_right q (by have := HP.out; omega)
              rw [HS.out, Nat.add_mul, HP1.out, Nat.one_mul] at h1
              exact h1
            have hkq : k + 1 < q := by have := HQ.out; omega
            have hw14 : IntKind.i64.wrap (P1 : Int) = (P1 : Int) := by rw [IntKind.wrap_i64]; omega
            have hw16 : IntKind.i64.wrap ((P1 : Int) + (k : Int)) = (P1 : Int) + (k : Int) := by rw [IntKind.wrap_i64]; omega
            have hw22 : IntKind.i64.wrap (P0 : Int) = (P0 : Int) := by rw [IntKind.wrap_i64]; omega
            have hw24 : IntKind.i64.wrap ((P0 : Int) + (k : Int)) = (P0 : Int) + (k : Int) := by rw [IntKind.wrap_i64]; omega
            have hw25 : IntKind.i64.wrap ((P0 : Int) + (k : Int) + 1) = (P0 : Int) + (k : Int) + 1 := by rw [IntKind.wrap_i64]; omega
            have htn1 : ((P1 : Int) + (k : Int)).toNat = P1 + k := by omega
            have htn2 : ((P0 : Int) + (k : Int) + 1).toNat = P0 + k + 1 := by omega
            have hc01 : (0 : Int) ≤ (P1 : Int) + (k : Int) := by omega
            have hc02 : (0 : Int) ≤ (P0 : Int) + (k : Int) + 1 := by omega
            have hcS1 : (P1 : Int) + (k : Int) < (S : Int) := by omega
            have hcS2 : (P0 : Int) + (k : Int) + 1 < (S : Int) := by omega
            have HP01 : Hid (P0 + q = P1) := hP01
            clear hP01
            by_cases hxy : x = y
            · have hXY : BX = BY := by rw [← HBX.out, ← HBY.out, hxy]
              subst hXY
              have heq : (BX.toList == BX.toList) = true := by simp
              as_aux_lemma =>
                go_wp2_with fail
                refine wp_region_held_drew (S := Q2 ba (oa + i) bb (ob + k) BX BX) (by kernel_rfl) HQ1.out (fun hHeld => ?_)
                generalize wr.drew = wd at hHeld HBEd ⊢
                refine takeL (i := 0) (v := ?_) rfl (by kernel_rfl) (by kernel_rfl) (by kernel_rfl) (fun _ _ _ h => h) (Or.inl ⟨by rfl, ?_⟩) hHeld ?_
                rotate_left
                · rintro w' ⟨s0, s1⟩; go_simp; try simp only [hwi, hw14, hw16, hw22, hw24, hw25, hm1, hm0, htn1, htn2, hc01, hc02, hcS1, hcS2, and_self, if_true]
                  rfl
                try simp only [Act.put, List.setIfInBounds_toArray, List.set_cons_zero, List.set_cons_succ]
                refine takeL (i := 1) (v := ?_) rfl (by kernel_rfl) (by kernel_rfl) (by kernel_rfl) (fun _ _ _ h => h) (Or.inl ⟨by rfl, ?_⟩) hHeld ?_
                rotate_left
                · rintro w' ⟨s0, s1⟩; go_simp; try simp only [hwi, hw14, hw16, hw22, hw24, hw25, hm1, hm0, htn1, htn2, hc01, hc02, hcS1, hcS2, and_self, if_true]
                  rfl
                try simp only [Act.put, List.setIfInBounds_toArray, List.set_cons_zero, List.set_cons_succ]
                refine takeL (i := 2) (v := ?_) rfl (by kernel_rfl) (by kernel_rfl) (by kernel_rfl) (fun _ _ _ h => h) (Or.inl ⟨by rfl, ?_⟩) hHeld ?_
                rotate_left
                · rintro w' ⟨s0, s1⟩; go_simp; try simp only [hwi, hw14, hw16, hw22, hw24, hw25, hm1, hm0, htn1, htn2, hc01, hc02, hcS1, hcS2, and_self, if_true]
                  rfl
                try simp only [Act.put, List.setIfInBounds_toArray, List.set_cons_zero, List.set_cons_succ]
                refine takeL (i := 3) (v := .bool true) rfl (by kernel_rfl) (by kernel_rfl) (by kernel_rfl) (fun _ _ _ h => h) (Or.inl ⟨by rfl, ?_⟩) hHeld ?_
                · rintro w' ⟨s0, s1⟩; go_simp; try rfl
                try simp only [Act.put, List.setIfInBounds_toArray, List.set_cons_zero, List.set_cons_succ]
                refine takeL (i := 4) (v := .bool true) rfl (by kernel_rfl) (by kernel_rfl) (by kernel_rfl) (fun _ _ _ h => h) (Or.inl ⟨by rfl, ?_⟩) hHeld ?_
                · rintro w' ⟨s0, s1⟩; go_simp; try rfl
                try simp only [Act.put, List.setIfInBounds_toArray, List.set_cons_zero, List.set_cons_succ]
                refine takeL (i := 5) (v := ?_) rfl (by kernel_rfl) (by kernel_rfl) (by kernel_rfl) (fun _ _ _ h => h) (Or.inl ⟨by kernel_rfl, ?_⟩) hHeld ?_
                rotate_left
                · rintro w' ⟨s0, s1⟩; go_simp; try simp only [hwi, hw14, hw16, hw22, hw24, hw25, hm1, hm0, htn1, htn2, hc01, hc02, hcS1, hcS2, and_self, if_true]
                  rfl
                try simp only [Act.put, List.setIfInBounds_toArray, List.set_cons_zero, List.set_cons_succ]
                refine takeL (i := 6) (v := ?_) rfl (by kernel_rfl) (by kernel_rfl) (by kernel_rfl) (fun _ _ _ h => h) (Or.inl ⟨by kernel_rfl, ?_⟩) hHeld ?_
                rotate_left
                · rintro w' ⟨s0, s1⟩; go_simp; try simp only [hwi, hw14, hw16, hw22, hw24, hw25, hm1, hm0, htn1, htn2, hc01, hc02, hcS1, hcS2, and_self, if_true]
                  rfl
                try simp only [Act.put, List.setIfInBounds_toArray, List.set_cons_zero, List.set_cons_succ]
                refine takeL (i := 7) (v := ?_) rfl (by kernel_rfl) (by kernel_rfl) (by kernel_rfl) (fun _ _ _ h => h) (Or.inl ⟨by kernel_rfl, ?_⟩) hHeld ?_
                rotate_left
                · rintro w' ⟨s0, s1⟩; go_simp; try simp only [hwi, hw14, hw16, hw22, hw24, hw25, hm1, hm0, htn1, htn2, hc01, hc02, hcS1, hcS2, and_self, if_true]
                  rfl
                try simp only [Act.put, List.setIfInBounds_toArray, List.set_cons_zero, List.set_cons_succ]
                refine takeL (i := 8) (v := .bool true) rfl (by kernel_rfl) (by kernel_rfl) (by kernel_rfl) (fun _ _ _ h => h) (Or.inl ⟨by kernel_rfl, ?_⟩) hHeld ?_
                · rintro w' ⟨s0, s1⟩; go_simp; try rfl
                try simp only [Act.put, List.setIfInBounds_toArray, List.set_cons_zero, List.set_cons_succ]
                refine takeL (i := 9) (v := .bool true) rfl (by kernel_rfl) (by kernel_rfl) (by kernel_rfl) (fun _ _ _ h => h) (Or.inl ⟨by rfl, ?_⟩) hHeld ?_
                · rintro w' ⟨s0, s1⟩; go_simp; try rfl
                try simp only [Act.put, List.setIfInBounds_toArray, List.set_cons_zero, List.set_cons_succ]
                refine takeL (i := 10) (v := .bool true) rfl (by kernel_rfl) (by kernel_rfl) (by kernel_rfl) (fun _ _ _ h => h) (Or.inl ⟨by rfl, ?_⟩) hHeld ?_
                · rintro w' ⟨s0, s1⟩; go_simp; try rfl
                try simp only [Act.put, List.setIfInBounds_toArray, List.set_cons_zero, List.set_cons_succ]
                refine takeL (i := 11) (v := ?_) rfl (by kernel_rfl) (by kernel_rfl) (by kernel_rfl) (fun _ _ _ h => h) (Or.inl ⟨by kernel_rfl, ?_⟩) hHeld ?_
                rotate_left
                · rintro w' ⟨s0, s1⟩; go_simp; try simp only [hwi, hw14, hw16, hw22, hw24, hw25, hm1, hm0, htn1, htn2, hc01, hc02, hcS1, hcS2, and_self, if_true]
                  rfl
                try simp only [Act.put, List.setIfInBounds_toArray, List.set_cons_zero, List.set_cons_succ]
                refine takeL (i := 12) (v := ?_) rfl (by kernel_rfl) (by kernel_rfl) (by kernel_rfl) (fun _ _ _ h => h) (Or.inl ⟨by kernel_rfl, ?_⟩) hHeld ?_
                rotate_left
                · rintro w' ⟨s0, s1⟩; go_simp; try simp only [hwi, hw14, hw16, hw22, hw24, hw25, hm1, hm0, htn1, htn2, hc01, hc02, hcS1, hcS2, and_self, if_true]
                  rfl
                try simp only [Act.put, List.setIfInBounds_toArray, List.set_cons_zero, List.set_cons_succ]
                refine takeL (i := 13) (v := ?_) rfl (by kernel_rfl) (by kernel_rfl) (by kernel_rfl) (fun _ _ _ h => h) (Or.inl ⟨by kernel_rfl, ?_⟩) hHeld ?_
                rotate_left
                · rintro w' ⟨s0, s1⟩; go_simp; try simp only [hwi, hw14, hw16, hw22, hw24, hw25, hm1, hm0, htn1, htn2, hc01, hc02, hcS1, hcS2, and_self, if_true]
                  rfl
                try simp only [Act.put, List.setIfInBounds_toArray, List.set_cons_zero, List.set_cons_succ]
                refine takeL (i := 14) (v := ?_) rfl (by kernel_rfl) (by kernel_rfl) (by kernel_rfl) (fun _ _ _ h => h) (Or.inl ⟨by kernel_rfl, ?_⟩) hHeld ?_
                rotate_left
                · rintro w' ⟨s0, s1⟩; go_simp; try simp only [hwi, hw14, hw16, hw22, hw24, hw25, hm1, hm0, htn1, htn2, hc01, hc02, hcS1, hcS2, and_self, if_true]
                  rfl
                try simp only [Act.put, List.setIfInBounds_toArray, List.set_cons_zero, List.set_cons_succ]
                refine takeL (i := 15) (v := ?_) rfl (by kernel_rfl) (by kernel_rfl) (by kernel_rfl) (fun _ _ _ h => h) (Or.inl ⟨by kernel_rfl, ?_⟩) hHeld ?_
                rotate_left
                · rintro w' ⟨s0, s1⟩; go_simp; try simp only [hwi, hw14, hw16, hw22, hw24, hw25, hm1, hm0, htn1, htn2, hc01, hc02, hcS1, hcS2, and_self, if_true]
                  rfl
                try simp only [Act.put, List.setIfInBounds_toArray, List.set_cons_zero, List.set_cons_succ]
                refine takeL (i := 16) (v := ?_) rfl (by kernel_rfl) (by kernel_rfl) (by kernel_rfl) (fun _ _ _ h => h) (Or.inl ⟨by kernel_rfl, ?_⟩) hHeld ?_
                rotate_left
                · rintro w' ⟨s0, s1⟩; go_simp; try simp only [hwi, hw14, hw16, hw22, hw24, hw25, hm1, hm0, htn1, htn2, hc01, hc02, hcS1, hcS2, and_self, if_true]
                  rfl
                try simp only [Act.put, List.setIfInBounds_toArray, List.set_cons_zero, List.set_cons_succ]
                refine takeL (i := 17) (v := ?_) rfl (by kernel_rfl) (by kernel_rfl) (by kernel_rfl) (fun _ _ _ h => h) (Or.inl ⟨by kernel_rfl, ?_⟩) hHeld ?_
                rotate_left
                · rintro w' ⟨s0, s1⟩; go_simp; try simp only [hwi, hw14, hw16, hw22, hw24, hw25, hm1, hm0, htn1, htn2, hc01, hc02, hcS1, hcS2, and_self, if_true]
                  rfl
                try simp only [Act.put, List.setIfInBounds_toArray, List.set_cons_zero, List.set_cons_succ]
                refine takeL (i := 18) (v := ?_) rfl (by kernel_rfl) (by kernel_rfl) (by kernel_rfl) (fun _ _ _ h => h) (Or.inl ⟨by kernel_rfl, ?_⟩) hHeld ?_
                rotate_left
                · rintro w' ⟨s0, s1⟩; go_simp; try simp only [hwi, hw14, hw16, hw22, hw24, hw25, hm1, hm0, htn1, htn2, hc01, hc02, hcS1, hcS2, and_self, if_true]
                  rfl
                try simp only [Act.put, List.setIfInBounds_toArray, List.set_cons_zero, List.set_cons_succ]
                refine takeL (i := 19) (v := .bool true) rfl (by kernel_rfl) (by kernel_rfl) (by kernel_rfl) (fun _ _ _ h => h) (Or.inl ⟨by kernel_rfl, ?_⟩) hHeld ?_
                · rintro w' ⟨s0, s1⟩; go_simp; try rfl
                try simp only [Act.put, List.setIfInBounds_toArray, List.set_cons_zero, List.set_cons_succ]
                refine takeL (i := 20) (v := .bool true) rfl (by kernel_rfl) (by kernel_rfl) (by kernel_rfl) (fun _ _ _ h => h) (Or.inl ⟨by rfl, ?_⟩) hHeld ?_
                · rintro w' ⟨s0, s1⟩; go_simp; try rfl
                try simp only [Act.put, List.setIfInBounds_toArray, List.set_cons_zero, List.set_cons_succ]
                refine takeL (i := 21) (v := .bool true) rfl (by kernel_rfl) (by kernel_rfl) (by kernel_rfl) (fun _ _ _ h => h) (Or.inl ⟨by rfl, ?_⟩) hHeld ?_
                · rintro w' ⟨s0, s1⟩; go_simp; try rfl
                try simp only [Act.put, List.setIfInBounds_toArray, List.set_cons_zero, List.set_cons_succ]
                refine wpAnyH_done (by kernel_rfl) ?_ _
                clear hHeld
                have hcc := HCX.out wd HBEd.out.below
                have HED2 : Hid ((L ++ [(0, x)]) ++ ed (A.drop (i + 1)) (B.drop (k + 1)) = E) := hid (by
                  have h9 := HED.out
                  rw [ed_next_keep A B i k (by rw [HNX.out]; exact hin) (by rw [HNY.out]; exact hkm) (by rw [HXX.out, HYY.out]; exact hxy), HXX.out] at h9
                  rw [List.append_assoc]
                  exact h9)
                go_wp2_with (first
                  | refine wpList_bS rfl 49 1 _ rfl (.agg #[.int .i64 0, .string BX]) _ rfl (HD0.out _) ?_
                  | (refine app_edK und29 Try.info52 HBEd.out hLl hl4 0 x 0 rfl BX HBX.out rfl _ _ rfl rfl rfl ?_; intro a' c' w' HB')
                  | fail)
                go_roundg ((nx - (i + 1)) + (ny - (k + 1)))
                case measure => omega
                case rel => exact ⟨i + 1, k + 1, l + 1, L ++ [(0, x)], a', c', rfl, by go_num, by go_num, by simp [hLl], by omega, by omega, rfl, HB', HED2⟩
            · have heq : (BX.toList == BY.toList) = false := bne_txt HBX.out HBY.out hxy
              obtain ⟨v, HV⟩ : ∃ v, Hid (t (i + 1) k = v) := ⟨_, rfl⟩
              obtain ⟨u, HU⟩ : ∃ v, Hid (t i (k + 1) = v) := ⟨_, rfl⟩
              have HV2 : Hid (lcs (A.drop (i + 1)) (B.drop k) = v) := hid (by rw [← HV.out, HAL.out _ _ (by omega) (by omega)])
              have HU2 : Hid (lcs (A.drop i) (B.drop (k + 1)) = u) := hid (by rw [← HU.out, HAL.out _ _ (by omega) (by omega)])
              go_wp2_with fail
              refine wp_region_held_drew (S := Q2 ba (oa + i) bb (ob + k) BX BY) (by kernel_rfl) HQ1.out (fun hHeld => ?_)
              generalize wr.drew = wd at hHeld HBEd ⊢
              refine takeL (i := 0) (v := ?_) rfl (by kernel_rfl) (by kernel_rfl) (by kernel_rfl) (fun _ _ _ h => h) (Or.inl ⟨by rfl, ?_⟩) hHeld ?_
              rotate_left
              · rintro w' ⟨s0, s1⟩; go_simp; try simp only [hwi, hw14, hw16, hw22, hw24, hw25, hm1, hm0, htn1, htn2, hc01, hc02, hcS1, hcS2, and_self, if_true]
                rfl
              try simp only [Act.put, List.setIfInBounds_toArray, List.set_cons_zero, List.set_cons_succ]
              refine takeL (i := 1) (v := ?_) rfl (by kernel_rfl) (by kernel_rfl) (by kernel_rfl) (fun _ _ _ h => h) (Or.inl ⟨by rfl, ?_⟩) hHeld ?_
              rotate_left
              · rintro w' ⟨s0, s1⟩; go_simp; try simp only [hwi, hw14, hw16, hw22, hw24, hw25, hm1, hm0, htn1, htn2, hc01, hc02, hcS1, hcS2, and_self, if_true]
                rfl
              try simp only [Act.put, List.setIfInBounds_toArray, List.set_cons_zero, List.set_cons_succ]
              refine takeL (i := 2) (v := ?_) rfl (by kernel_rfl) (by kernel_rfl) (by kernel_rfl) (fun _ _ _ h => h) (Or.inl ⟨by rfl, ?_⟩) hHeld ?_
              rotate_left
              · rintro w' ⟨s0, s1⟩; go_simp; try simp only [hwi, hw14, hw16, hw22, hw24, hw25, hm1, hm0, htn1, htn2, hc01, hc02, hcS1, hcS2, and_self, if_true]
                rfl
              try simp only [Act.put, List.setIfInBounds_toArray, List.set_cons_zero, List.set_cons_succ]
              refine takeL (i := 3) (v := .bool true) rfl (by kernel_rfl) (by kernel_rfl) (by kernel_rfl) (fun _ _ _ h => h) (Or.inl ⟨by rfl, ?_⟩) hHeld ?_
              · rintro w' ⟨s0, s1⟩; go_simp; try rfl
              try simp only [Act.put, List.setIfInBounds_toArray, List.set_cons_zero, List.set_cons_succ]
              refine takeL (i := 4) (v := .bool true) rfl (by kernel_rfl) (by kernel_rfl) (by kernel_rfl) (fun _ _ _ h => h) (Or.inl ⟨by rfl, ?_⟩) hHeld ?_
              · rintro w' ⟨s0, s1⟩; go_simp; try rfl
              try simp only [Act.put, List.setIfInBounds_toArray, List.set_cons_zero, List.set_cons_succ]
              refine takeL (i := 5) (v := ?_) rfl (by kernel_rfl) (by kernel_rfl) (by kernel_rfl) (fun _ _ _ h => h) (Or.inl ⟨by kernel_rfl, ?_⟩) hHeld ?_
              rotate_left
              · rintro w' ⟨s0, s1⟩; go_simp; try simp only [hwi, hw14, hw16, hw22, hw24, hw25, hm1, hm0, htn1, htn2, hc01, hc02, hcS1, hcS2, and_self, if_true]
                rfl
              try simp only [Act.put, List.setIfInBounds_toArray, List.set_cons_zero, List.set_cons_succ]
              refine takeL (i := 6) (v := ?_) rfl (by kernel_rfl) (by kernel_rfl) (by kernel_rfl) (fun _ _ _ h => h) (Or.inl ⟨by kernel_rfl, ?_⟩) hHeld ?_
              rotate_left
              · rintro w' ⟨s0, s1⟩; go_simp; try simp only [hwi, hw14, hw16, hw22, hw24, hw25, hm1, hm0, htn1, htn2, hc01, hc02, hcS1, hcS2, and_self, if_true]
                rfl
              try simp only [Act.put, List.setIfInBounds_toArray, List.set_cons_zero, List.set_cons_succ]
              refine takeL (i := 7) (v := ?_) rfl (by kernel_rfl) (by kernel_rfl) (by kernel_rfl) (fun _ _ _ h => h) (Or.inl ⟨by kernel_rfl, ?_⟩) hHeld ?_
              rotate_left
              · rintro w' ⟨s0, s1⟩; go_simp; try simp only [hwi, hw14, hw16, hw22, hw24, hw25, hm1, hm0, htn1, htn2, hc01, hc02, hcS1, hcS2, and_self, if_true]
                rfl
              try simp only [Act.put, List.setIfInBounds_toArray, List.set_cons_zero, List.set_cons_succ]
              refine takeL (i := 8) (v := .bool true) rfl (by kernel_rfl) (by kernel_rfl) (by kernel_rfl) (fun _ _ _ h => h) (Or.inl ⟨by kernel_rfl, ?_⟩) hHeld ?_
              · rintro w' ⟨s0, s1⟩; go_simp; try rfl
              try simp only [Act.put, List.setIfInBounds_toArray, List.set_cons_zero, List.set_cons_succ]
              refine takeL (i := 9) (v := .bool true) rfl (by kernel_rfl) (by kernel_rfl) (by kernel_rfl) (fun _ _ _ h => h) (Or.inl ⟨by rfl, ?_⟩) hHeld ?_
              · rintro w' ⟨s0, s1⟩; go_simp; try rfl
              try simp only [Act.put, List.setIfInBounds_toArray, List.set_cons_zero, List.set_cons_succ]
              refine takeL (i := 10) (v := .bool true) rfl (by kernel_rfl) (by kernel_rfl) (by kernel_rfl) (fun _ _ _ h => h) (Or.inl ⟨by rfl, ?_⟩) hHeld ?_
              · rintro w' ⟨s0, s1⟩; go_simp; try rfl
              try simp only [Act.put, List.setIfInBounds_toArray, List.set_cons_zero, List.set_cons_succ]
              refine takeL (i := 11) (v := ?_) rfl (by kernel_rfl) (by kernel_rfl) (by kernel_rfl) (fun _ _ _ h => h) (Or.inl ⟨by kernel_rfl, ?_⟩) hHeld ?_
              rotate_left
              · rintro w' ⟨s0, s1⟩; go_simp; try simp only [hwi, hw14, hw16, hw22, hw24, hw25, hm1, hm0, htn1, htn2, hc01, hc02, hcS1, hcS2, and_self, if_true]
                rfl
              try simp only [Act.put, List.setIfInBounds_toArray, List.set_cons_zero, List.set_cons_succ]
              refine takeL (i := 12) (v := ?_) rfl (by kernel_rfl) (by kernel_rfl) (by kernel_rfl) (fun _ _ _ h => h) (Or.inl ⟨by kernel_rfl, ?_⟩) hHeld ?_
              rotate_left
              · rintro w' ⟨s0, s1⟩; go_simp; try simp only [hwi, hw14, hw16, hw22, hw24, hw25, hm1, hm0, htn1, htn2, hc01, hc02, hcS1, hcS2, and_self, if_true]
                rfl
              try simp only [Act.put, List.setIfInBounds_toArray, List.set_cons_zero, List.set_cons_succ]
              refine takeL (i := 13) (v := ?_) rfl (by kernel_rfl) (by kernel_rfl) (by kernel_rfl) (fun _ _ _ h => h) (Or.inl ⟨by kernel_rfl, ?_⟩) hHeld ?_
              rotate_left
              · rintro w' ⟨s0, s1⟩; go_simp; try simp only [hwi, hw14, hw16, hw22, hw24, hw25, hm1, hm0, htn1, htn2, hc01, hc02, hcS1, hcS2, and_self, if_true]
                rfl
              try simp only [Act.put, List.setIfInBounds_toArray, List.set_cons_zero, List.set_cons_succ]
              refine takeL (i := 14) (v := ?_) rfl (by kernel_rfl) (by kernel_rfl) (by kernel_rfl) (fun _ _ _ h => h) (Or.inl ⟨by kernel_rfl, ?_⟩) hHeld ?_
              rotate_left
              · rintro w' ⟨s0, s1⟩; go_simp; try simp only [hwi, hw14, hw16, hw22, hw24, hw25, hm1, hm0, htn1, htn2, hc01, hc02, hcS1, hcS2, and_self, if_true]
                rfl
              try simp only [Act.put, List.setIfInBounds_toArray, List.set_cons_zero, List.set_cons_succ]
              refine takeL (i := 15) (v := ?_) rfl (by kernel_rfl) (by kernel_rfl) (by kernel_rfl) (fun _ _ _ h => h) (Or.inl ⟨by kernel_rfl, ?_⟩) hHeld ?_
              rotate_left
              · rintro w' ⟨s0, s1⟩; go_simp; try simp only [hwi, hw14, hw16, hw22, hw24, hw25, hm1, hm0, htn1, htn2, hc01, hc02, hcS1, hcS2, and_self, if_true]
                rfl
              try simp only [Act.put, List.setIfInBounds_toArray, List.set_cons_zero, List.set_cons_succ]
              refine takeL (i := 16) (v := ?_) rfl (by kernel_rfl) (by kernel_rfl) (by kernel_rfl) (fun _ _ _ h => h) (Or.inl ⟨by kernel_rfl, ?_⟩) hHeld ?_
              rotate_left
              · rintro w' ⟨s0, s1⟩; go_simp; try simp only [hwi, hw14, hw16, hw22, hw24, hw25, hm1, hm0, htn1, htn2, hc01, hc02, hcS1, hcS2, and_self, if_true]
                rfl
              try simp only [Act.put, List.setIfInBounds_toArray, List.set_cons_zero, List.set_cons_succ]
              refine takeL (i := 17) (v := ?_) rfl (by kernel_rfl) (by kernel_rfl) (by kernel_rfl) (fun _ _ _ h => h) (Or.inl ⟨by kernel_rfl, ?_⟩) hHeld ?_
              rotate_left
              · rintro w' ⟨s0, s1⟩; go_simp; try simp only [hwi, hw14, hw16, hw22, hw24, hw25, hm1, hm0, htn1, htn2, hc01, hc02, hcS1, hcS2, and_self, if_true]
                rfl
              try simp only [Act.put, List.setIfInBounds_toArray, List.set_cons_zero, List.set_cons_succ]
              refine takeL (i := 18) (v := ?_) rfl (by kernel_rfl) (by kernel_rfl) (by kernel_rfl) (fun _ _ _ h => h) (Or.inl ⟨by kernel_rfl, ?_⟩) hHeld ?_
              rotate_left
              · rintro w' ⟨s0, s1⟩; go_simp; try simp only [hwi, hw14, hw16, hw22, hw24, hw25, hm1, hm0, htn1, htn2, hc01, hc02, hcS1, hcS2, and_self, if_true]
                rfl
              try simp only [Act.put, List.setIfInBounds_toArray, List.set_cons_zero, List.set_cons_succ]
              refine takeL (i := 19) (v := .bool false) rfl (by kernel_rfl) (by kernel_rfl) (by kernel_rfl) (fun _ _ _ h => h) (Or.inl ⟨by kernel_rfl, ?_⟩) hHeld ?_
              · rintro w' ⟨s0, s1⟩; go_simp; try rfl
              try simp only [Act.put, List.setIfInBounds_toArray, List.set_cons_zero, List.set_cons_succ]
              refine takeL (i := 20) (v := .bool false) rfl (by kernel_rfl) (by kernel_rfl) (by kernel_rfl) (fun _ _ _ h => h) (Or.inl ⟨by rfl, ?_⟩) hHeld ?_
              · rintro w' ⟨s0, s1⟩; go_simp; try rfl
              try simp only [Act.put, List.setIfInBounds_toArray, List.set_cons_zero, List.set_cons_succ]
              refine takeL (i := 21) (v := .bool false) rfl (by kernel_rfl) (by kernel_rfl) (by kernel_rfl) (fun _ _ _ h => h) (Or.inl ⟨by rfl, ?_⟩) hHeld ?_
              · rintro w' ⟨s0, s1⟩; go_simp; try rfl
              try simp only [Act.put, List.setIfInBounds_toArray, List.set_cons_zero, List.set_cons_succ]
              refine wpAnyH_done (by kernel_rfl) ?_ _
              clear hHeld HQ1
              have hbd : Below wd.heap.size wd wd.drew := ⟨rfl, rfl, rfl, Nat.le_refl _, fun _ _ => rfl⟩
              have HBE2 : Hid (BE 52 w4 wd.drew R (.slice la l lc) L) := hid (HBEd.out.carry hbd)
              have hCT := HCW.out _ HBE2.out.below
              have HQ2 : Hid (QE T (P1 + k) (P0 + k + 1) v u wd.drew) := hid ⟨by have h9 := (hCT.cell (i + 1) k (by have := HP.out; omega) (by omega)).1; rw [HP1.out, HV.out] at h9; exact h9, by have h9 := (hCT.cell i (k + 1) (by have := HP.out; omega) hkq).1; rw [HP0.out, HU.out] at h9; exact h9⟩
              clear hbd hCT
              by_cases huv : u ≤ v
              · have huvI : (u : Int) ≤ (v : Int) := by omega
                as_aux_lemma =>
                  go_wp2_with fail
                  refine wp_region_held_drew (S := QE T (P1 + k) (P0 + k + 1) v u) (by kernel_rfl) HQ2.out (fun hHeld => ?_)
                  generalize wd.drew = we at hHeld HBE2 ⊢
                  refine takeL (i := 0) (v := ?_) rfl (by kernel_rfl) (by kernel_rfl) (by kernel_rfl) (fun _ _ _ h => h) (Or.inl ⟨by rfl, ?_⟩) hHeld ?_
                  rotate_left
                  · rintro w' ⟨s0, s1⟩; go_simp; try simp only [hwi, hw14, hw16, hw22, hw24, hw25, hm1, hm0, htn1, htn2, hc01, hc02, hcS1, hcS2, and_self, if_true]
                    rfl
                  try simp only [Act.put, List.setIfInBounds_toArray, List.set_cons_zero, List.set_cons_succ]
                  refine takeL (i := 1) (v := ?_) rfl (by kernel_rfl) (by kernel_rfl) (by kernel_rfl) (fun _ _ _ h => h) (Or.inl ⟨by rfl, ?_⟩) hHeld ?_
                  rotate_left
                  · rintro w' ⟨s0, s1⟩; go_simp; try simp only [hwi, hw14, hw16, hw22, hw24, hw25, hm1, hm0, htn1, htn2, hc01, hc02, hcS1, hcS2, and_self, if_true]
                    rfl
                  try simp only [Act.put, List.setIfInBounds_toArray, List.set_cons_zero, List.set_cons_succ]
                  refine takeL (i := 2) (v := ?_) rfl (by kernel_rfl) (by kernel_rfl) (by kernel_rfl) (fun _ _ _ h => h) (Or.inl ⟨by rfl, ?_⟩) hHeld ?_
                  rotate_left
                  · rintro w' ⟨s0, s1⟩; go_simp; try simp only [hwi, hw14, hw16, hw22, hw24, hw25, hm1, hm0, htn1, htn2, hc01, hc02, hcS1, hcS2, and_self, if_true]
                    rfl
                  try simp only [Act.put, List.setIfInBounds_toArray, List.set_cons_zero, List.set_cons_succ]
                  refine takeL (i := 3) (v := .bool false) rfl (by kernel_rfl) (by kernel_rfl) (by kernel_rfl) (fun _ _ _ h => h) (Or.inl ⟨by rfl, ?_⟩) hHeld ?_
                  · rintro w' ⟨s0, s1⟩; go_simp; try rfl
                  try simp only [Act.put, List.setIfInBounds_toArray, List.set_cons_zero, List.set_cons_succ]
                  refine takeL (i := 4) (v := .bool false) rfl (by kernel_rfl) (by kernel_rfl) (by kernel_rfl) (fun _ _ _ h => h) (Or.inl ⟨by rfl, ?_⟩) hHeld ?_
                  · rintro w' ⟨s0, s1⟩; go_simp; try rfl
                  try simp only [Act.put, List.setIfInBounds_toArray, List.set_cons_zero, List.set_cons_succ]
                  refine takeL (i := 5) (v := ?_) rfl (by kernel_rfl) (by kernel_rfl) (by kernel_rfl) (fun _ _ _ h => h) (Or.inl ⟨by kernel_rfl, ?_⟩) hHeld ?_
                  rotate_left
                  · rintro w' ⟨s0, s1⟩; go_simp; try simp only [hwi, hw14, hw16, hw22, hw24, hw25, hm1, hm0, htn1, htn2, hc01, hc02, hcS1, hcS2, and_self, if_true]
                    rfl
                  try simp only [Act.put, List.setIfInBounds_toArray, List.set_cons_zero, List.set_cons_succ]
                  refine takeL (i := 6) (v := ?_) rfl (by kernel_rfl) (by kernel_rfl) (by kernel_rfl) (fun _ _ _ h => h) (Or.inl ⟨by kernel_rfl, ?_⟩) hHeld ?_
                  rotate_left
                  · rintro w' ⟨s0, s1⟩; go_simp; try simp only [hwi, hw14, hw16, hw22, hw24, hw25, hm1, hm0, htn1, htn2, hc01, hc02, hcS1, hcS2, and_self, if_true]
                    rfl
                  try simp only [Act.put, List.setIfInBounds_toArray, List.set_cons_zero, List.set_cons_succ]
                  refine takeL (i := 7) (v := ?_) rfl (by kernel_rfl) (by kernel_rfl) (by kernel_rfl) (fun _ _ _ h => h) (Or.inl ⟨by kernel_rfl, ?_⟩) hHeld ?_
                  rotate_left
                  · rintro w' ⟨s0, s1⟩; go_simp; try simp only [hwi, hw14, hw16, hw22, hw24, hw25, hm1, hm0, htn1, htn2, hc01, hc02, hcS1, hcS2, and_self, if_true]
                    rfl
                  try simp only [Act.put, List.setIfInBounds_toArray, List.set_cons_zero, List.set_cons_succ]
                  refine takeL (i := 8) (v := .bool true) rfl (by kernel_rfl) (by kernel_rfl) (by kernel_rfl) (fun _ _ _ h => h) (Or.inl ⟨by kernel_rfl, ?_⟩) hHeld ?_
                  · rintro w' ⟨s0, s1⟩; go_simp; try rfl
                  try simp only [Act.put, List.setIfInBounds_toArray, List.set_cons_zero, List.set_cons_succ]
                  refine takeL (i := 9) (v := .bool true) rfl (by kernel_rfl) (by kernel_rfl) (by kernel_rfl) (fun _ _ _ h => h) (Or.inl ⟨by kernel_rfl, ?_⟩) hHeld ?_
                  · rintro w' ⟨s0, s1⟩; go_simp; try rfl
                  try simp only [Act.put, List.setIfInBounds_toArray, List.set_cons_zero, List.set_cons_succ]
                  refine takeL (i := 10) (v := ?_) rfl (by kernel_rfl) (by kernel_rfl) (by kernel_rfl) (fun _ _ _ h => h) (Or.inl ⟨by kernel_rfl, ?_⟩) hHeld ?_
                  rotate_left
                  · rintro w' ⟨s0, s1⟩; go_simp; try simp only [hwi, hw14, hw16, hw22, hw24, hw25, hm1, hm0, htn1, htn2, hc01, hc02, hcS1, hcS2, and_self, if_true]
                    rfl
                  try simp only [Act.put, List.setIfInBounds_toArray, List.set_cons_zero, List.set_cons_succ]
                  refine takeL (i := 11) (v := ?_) rfl (by kernel_rfl) (by kernel_rfl) (by kernel_rfl) (fun _ _ _ h => h) (Or.inl ⟨by kernel_rfl, ?_⟩) hHeld ?_
                  rotate_left
                  · rintro w' ⟨s0, s1⟩; go_simp; try simp only [hwi, hw14, hw16, hw22, hw24, hw25, hm1, hm0, htn1, htn2, hc01, hc02, hcS1, hcS2, and_self, if_true]
                    rfl
                  try simp only [Act.put, List.setIfInBounds_toArray, List.set_cons_zero, List.set_cons_succ]
                  refine takeL (i := 12) (v := ?_) rfl (by kernel_rfl) (by kernel_rfl) (by kernel_rfl) (fun _ _ _ h => h) (Or.inl ⟨by kernel_rfl, ?_⟩) hHeld ?_
                  rotate_left
                  · rintro w' ⟨s0, s1⟩; go_simp; try simp only [hwi, hw14, hw16, hw22, hw24, hw25, hm1, hm0, htn1, htn2, hc01, hc02, hcS1, hcS2, and_self, if_true]
                    rfl
                  try simp only [Act.put, List.setIfInBounds_toArray, List.set_cons_zero, List.set_cons_succ]
                  refine takeL (i := 13) (v := ?_) rfl (by kernel_rfl) (by kernel_rfl) (by kernel_rfl) (fun _ _ _ h => h) (Or.inl ⟨by kernel_rfl, ?_⟩) hHeld ?_
                  rotate_left
                  · rintro w' ⟨s0, s1⟩; go_simp; try simp only [hwi, hw14, hw16, hw22, hw24, hw25, hm1, hm0, htn1, htn2, hc01, hc02, hcS1, hcS2, and_self, if_true]
                    rfl
                  try simp only [Act.put, List.setIfInBounds_toArray, List.set_cons_zero, List.set_cons_succ]
                  refine takeL (i := 14) (v := ?_) rfl (by kernel_rfl) (by kernel_rfl) (by kernel_rfl) (fun _ _ _ h => h) (Or.inl ⟨by kernel_rfl, ?_⟩) hHeld ?_
                  rotate_left
                  · rintro w' ⟨s0, s1⟩; go_simp; try simp only [hwi, hw14, hw16, hw22, hw24, hw25, hm1, hm0, htn1, htn2, hc01, hc02, hcS1, hcS2, and_self, if_true]
                    rfl
                  try simp only [Act.put, List.setIfInBounds_toArray, List.set_cons_zero, List.set_cons_succ]
                  refine takeL (i := 15) (v := ?_) rfl (by kernel_rfl) (by kernel_rfl) (by kernel_rfl) (fun _ _ _ h => h) (Or.inl ⟨by kernel_rfl, ?_⟩) hHeld ?_
                  rotate_left
                  · rintro w' ⟨s0, s1⟩; go_simp; try simp only [hwi, hw14, hw16, hw22, hw24, hw25, hm1, hm0, htn1, htn2, hc01, hc02, hcS1, hcS2, and_self, if_true]
                    rfl
                  try simp only [Act.put, List.setIfInBounds_toArray, List.set_cons_zero, List.set_cons_succ]
                  refine takeL (i := 16) (v := ?_) rfl (by kernel_rfl) (by kernel_rfl) (by kernel_rfl) (fun _ _ _ h => h) (Or.inl ⟨by kernel_rfl, ?_⟩) hHeld ?_
                  rotate_left
                  · rintro w' ⟨s0, s1⟩; go_simp; try simp only [hwi, hw14, hw16, hw22, hw24, hw25, hm1, hm0, htn1, htn2, hc01, hc02, hcS1, hcS2, and_self, if_true]
                    rfl
                  try simp only [Act.put, List.setIfInBounds_toArray, List.set_cons_zero, List.set_cons_succ]
                  refine takeL (i := 17) (v := ?_) rfl (by kernel_rfl) (by kernel_rfl) (by kernel_rfl) (fun _ _ _ h => h) (Or.inl ⟨by kernel_rfl, ?_⟩) hHeld ?_
                  rotate_left
                  · rintro w' ⟨s0, s1⟩; go_simp; try simp only [hwi, hw14, hw16, hw22, hw24, hw25, hm1, hm0, htn1, htn2, hc01, hc02, hcS1, hcS2, and_self, if_true]
                    rfl
                  try simp only [Act.put, List.setIfInBounds_toArray, List.set_cons_zero, List.set_cons_succ]
                  refine takeL (i := 18) (v := ?_) rfl (by kernel_rfl) (by kernel_rfl) (by kernel_rfl) (fun _ _ _ h => h) (Or.inl ⟨by kernel_rfl, ?_⟩) hHeld ?_
                  rotate_left
                  · rintro w' ⟨s0, s1⟩; go_simp; try simp only [hwi, hw14, hw16, hw22, hw24, hw25, hm1, hm0, htn1, htn2, hc01, hc02, hcS1, hcS2, and_self, if_true]
                    rfl
                  try simp only [Act.put, List.setIfInBounds_toArray, List.set_cons_zero, List.set_cons_succ]
                  refine takeL (i := 19) (v := ?_) rfl (by kernel_rfl) (by kernel_rfl) (by kernel_rfl) (fun _ _ _ h => h) (Or.inl ⟨by kernel_rfl, ?_⟩) hHeld ?_
                  rotate_left
                  · rintro w' ⟨s0, s1⟩; go_simp; try simp only [hwi, hw14, hw16, hw22, hw24, hw25, hm1, hm0, htn1, htn2, hc01, hc02, hcS1, hcS2, and_self, if_true]
                    rfl
                  try simp only [Act.put, List.setIfInBounds_toArray, List.set_cons_zero, List.set_cons_succ]
                  refine takeL (i := 20) (v := ?_) rfl (by kernel_rfl) (by kernel_rfl) (by kernel_rfl) (fun _ _ _ h => h) (Or.inl ⟨by kernel_rfl, ?_⟩) hHeld ?_
                  rotate_left
                  · rintro w' ⟨s0, s1⟩; go_simp; try simp only [hwi, hw14, hw16, hw22, hw24, hw25, hm1, hm0, htn1, htn2, hc01, hc02, hcS1, hcS2, and_self, if_true]
                    rfl
                  try simp only [Act.put, List.setIfInBounds_toArray, List.set_cons_zero, List.set_cons_succ]
                  refine takeL (i := 21) (v := ?_) rfl (by kernel_rfl) (by kernel_rfl) (by kernel_rfl) (fun _ _ _ h => h) (Or.inl ⟨by kernel_rfl, ?_⟩) hHeld ?_
                  rotate_left
                  · rintro w' ⟨s0, s1⟩; go_simp; try simp only [hwi, hw14, hw16, hw22, hw24, hw25, hm1, hm0, htn1, htn2, hc01, hc02, hcS1, hcS2, and_self, if_true]
                    rfl
                  try simp only [Act.put, List.setIfInBounds_toArray, List.set_cons_zero, List.set_cons_succ]
                  refine takeL (i := 22) (v := ?_) rfl (by kernel_rfl) (by kernel_rfl) (by kernel_rfl) (fun _ _ _ h => h) (Or.inl ⟨by kernel_rfl, ?_⟩) hHeld ?_
                  rotate_left
                  · rintro w' ⟨s0, s1⟩; go_simp; try simp only [hwi, hw14, hw16, hw22, hw24, hw25, hm1, hm0, htn1, htn2, hc01, hc02, hcS1, hcS2, and_self, if_true]
                    rfl
                  try simp only [Act.put, List.setIfInBounds_toArray, List.set_cons_zero, List.set_cons_succ]
                  refine takeL (i := 23) (v := ?_) rfl (by kernel_rfl) (by kernel_rfl) (by kernel_rfl) (fun _ _ _ h => h) (Or.inl ⟨by kernel_rfl, ?_⟩) hHeld ?_
                  rotate_left
                  · rintro w' ⟨s0, s1⟩; go_simp; try simp only [hwi, hw14, hw16, hw22, hw24, hw25, hm1, hm0, htn1, htn2, hc01, hc02, hcS1, hcS2, and_self, if_true]
                    rfl
                  try simp only [Act.put, List.setIfInBounds_toArray, List.set_cons_zero, List.set_cons_succ]
                  refine takeL (i := 24) (v := ?_) rfl (by kernel_rfl) (by kernel_rfl) (by kernel_rfl) (fun _ _ _ h => h) (Or.inl ⟨by kernel_rfl, ?_⟩) hHeld ?_
                  rotate_left
                  · rintro w' ⟨s0, s1⟩; go_simp; try simp only [hwi, hw14, hw16, hw22, hw24, hw25, hm1, hm0, htn1, htn2, hc01, hc02, hcS1, hcS2, and_self, if_true]
                    rfl
                  try simp only [Act.put, List.setIfInBounds_toArray, List.set_cons_zero, List.set_cons_succ]
                  refine takeL (i := 25) (v := ?_) rfl (by kernel_rfl) (by kernel_rfl) (by kernel_rfl) (fun _ _ _ h => h) (Or.inl ⟨by kernel_rfl, ?_⟩) hHeld ?_
                  rotate_left
                  · rintro w' ⟨s0, s1⟩; go_simp; try simp only [hwi, hw14, hw16, hw22, hw24, hw25, hm1, hm0, htn1, htn2, hc01, hc02, hcS1, hcS2, and_self, if_true]
                    rfl
                  try simp only [Act.put, List.setIfInBounds_toArray, List.set_cons_zero, List.set_cons_succ]
                  refine takeL (i := 26) (v := ?_) rfl (by kernel_rfl) (by kernel_rfl) (by kernel_rfl) (fun _ _ _ h => h) (Or.inl ⟨by kernel_rfl, ?_⟩) hHeld ?_
                  rotate_left
                  · rintro w' ⟨s0, s1⟩; go_simp; try simp only [hwi, hw14, hw16, hw22, hw24, hw25, hm1, hm0, htn1, htn2, hc01, hc02, hcS1, hcS2, and_self, if_true]
                    rfl
                  try simp only [Act.put, List.setIfInBounds_toArray, List.set_cons_zero, List.set_cons_succ]
                  refine takeL (i := 27) (v := ?_) rfl (by kernel_rfl) (by kernel_rfl) (by kernel_rfl) (fun _ _ _ h => h) (Or.inl ⟨by kernel_rfl, ?_⟩) hHeld ?_
                  rotate_left
                  · rintro w' ⟨s0, s1⟩; go_simp; try simp only [hwi, hw14, hw16, hw22, hw24, hw25, hm1, hm0, htn1, htn2, hc01, hc02, hcS1, hcS2, and_self, if_true]
                    rfl
                  try simp only [Act.put, List.setIfInBounds_toArray, List.set_cons_zero, List.set_cons_succ]
                  refine takeL (i := 28) (v := .bool true) rfl (by kernel_rfl) (by kernel_rfl) (by kernel_rfl) (fun _ _ _ h => h) (Or.inl ⟨by kernel_rfl, ?_⟩) hHeld ?_
                  · rintro w' ⟨s0, s1⟩; go_simp; try rfl
                  try simp only [Act.put, List.setIfInBounds_toArray, List.set_cons_zero, List.set_cons_succ]
                  refine takeL (i := 29) (v := .bool true) rfl (by kernel_rfl) (by kernel_rfl) (by kernel_rfl) (fun _ _ _ h => h) (Or.inl ⟨by kernel_rfl, ?_⟩) hHeld ?_
                  · rintro w' ⟨s0, s1⟩; go_simp; try rfl
                  try simp only [Act.put, List.setIfInBounds_toArray, List.set_cons_zero, List.set_cons_succ]
                  refine takeL (i := 30) (v := .bool true) rfl (by kernel_rfl) (by kernel_rfl) (by kernel_rfl) (fun _ _ _ h => h) (Or.inl ⟨by rfl, ?_⟩) hHeld ?_
                  · rintro w' ⟨s0, s1⟩; go_simp; try rfl
                  try simp only [Act.put, List.setIfInBounds_toArray, List.set_cons_zero, List.set_cons_succ]
                  refine takeL (i := 31) (v := .bool true) rfl (by kernel_rfl) (by kernel_rfl) (by kernel_rfl) (fun _ _ _ h => h) (Or.inl ⟨by rfl, ?_⟩) hHeld ?_
                  · rintro w' ⟨s0, s1⟩; go_simp; try rfl
                  try simp only [Act.put, List.setIfInBounds_toArray, List.set_cons_zero, List.set_cons_succ]
                  refine wpAnyH_done (by kernel_rfl) ?_ _
                  clear hHeld
                  have hcc := HCX.out we HBE2.out.below
                  have HED2 : Hid ((L ++ [(1, x)]) ++ ed (A.drop (i + 1)) (B.drop (k)) = E) := hid (by
                    have h9 := HED.out
                    rw [ed_next_drop A B i k (by rw [HNX.out]; exact hin) (by rw [HNY.out]; exact hkm) (by rw [HXX.out, HYY.out]; exact hxy) (by rw [HV2.out, HU2.out]; exact huv), HXX.out] at h9
                    rw [List.append_assoc]
                    exact h9)
                  go_wp2_with (first
                    | refine wpList_bS rfl 49 1 _ rfl (.agg #[.int .i64 1, .string BX]) _ rfl (HD1.out _) ?_
                    | (refine app_edK und29 Try.info52 HBE2.out hLl hl4 1 x 1 rfl BX HBX.out rfl _ _ rfl rfl rfl ?_; intro a' c' w' HB')
                    | fail)
                  go_roundg ((nx - (i + 1)) + (ny - (k)))
                  case measure => omega
                  case rel => exact ⟨i + 1, k, l + 1, L ++ [(1, x)], a', c', rfl, by go_num, by go_num, by simp [hLl], by omega, by omega, rfl, HB', HED2⟩
              · have huvI : ¬ (u : Int) ≤ (v : Int) := by omega
                as_aux_lemma =>
                  go_wp2_with fail
                  refine wp_region_held_drew (S := QE T (P1 + k) (P0 + k + 1) v u) (by kernel_rfl) HQ2.out (fun hHeld => ?_)
                  generalize wd.drew = we at hHeld HBE2 ⊢
                  refine takeL (i := 0) (v := ?_) rfl (by kernel_rfl) (by kernel_rfl) (by kernel_rfl) (fun _ _ _ h => h) (Or.inl ⟨by rfl, ?_⟩) hHeld ?_
                  rotate_left
                  · rintro w' ⟨s0, s1⟩; go_simp; try simp only [hwi, hw14, hw16, hw22, hw24, hw25, hm1, hm0, htn1, htn2, hc01, hc02, hcS1, hcS2, and_self, if_true]
                    rfl
                  try simp only [Act.put, List.setIfInBounds_toArray, List.set_cons_zero, List.set_cons_succ]
                  refine takeL (i := 1) (v := ?_) rfl (by kernel_rfl) (by kernel_rfl) (by kernel_rfl) (fun _ _ _ h => h) (Or.inl ⟨by rfl, ?_⟩) hHeld ?_
                  rotate_left
                  · rintro w' ⟨s0, s1⟩; go_simp; try simp only [hwi, hw14, hw16, hw22, hw24, hw25, hm1, hm0, htn1, htn2, hc01, hc02, hcS1, hcS2, and_self, if_true]
                    rfl
                  try simp only [Act.put, List.setIfInBounds_toArray, List.set_cons_zero, List.set_cons_succ]
                  refine takeL (i := 2) (v := ?_) rfl (by kernel_rfl) (by kernel_rfl) (by kernel_rfl) (fun _ _ _ h => h) (Or.inl ⟨by rfl, ?_⟩) hHeld ?_
                  rotate_left
                  · rintro w' ⟨s0, s1⟩; go_simp; try simp only [hwi, hw14, hw16, hw22, hw24, hw25, hm1, hm0, htn1, htn2, hc01, hc02, hcS1, hcS2, and_self, if_true]
                    rfl
                  try simp only [Act.put, List.setIfInBounds_toArray, List.set_cons_zero, List.set_cons_succ]
                  refine takeL (i := 3) (v := .bool false) rfl (by kernel_rfl) (by kernel_rfl) (by kernel_rfl) (fun _ _ _ h => h) (Or.inl ⟨by rfl, ?_⟩) hHeld ?_
                  · rintro w' ⟨s0, s1⟩; go_simp; try rfl
                  try simp only [Act.put, List.setIfInBounds_toArray, List.set_cons_zero, List.set_cons_succ]
                  refine takeL (i := 4) (v := .bool false) rfl (by kernel_rfl) (by kernel_rfl) (by kernel_rfl) (fun _ _ _ h => h) (Or.inl ⟨by rfl, ?_⟩) hHeld ?_
                  · rintro w' ⟨s0, s1⟩; go_simp; try rfl
                  try simp only [Act.put, List.setIfInBounds_toArray, List.set_cons_zero, List.set_cons_succ]
                  refine takeL (i := 5) (v := ?_) rfl (by kernel_rfl) (by kernel_rfl) (by kernel_rfl) (fun _ _ _ h => h) (Or.inl ⟨by kernel_rfl, ?_⟩) hHeld ?_
                  rotate_left
                  · rintro w' ⟨s0, s1⟩; go_simp; try simp only [hwi, hw14, hw16, hw22, hw24, hw25, hm1, hm0, htn1, htn2, hc01, hc02, hcS1, hcS2, and_self, if_true]
                    rfl
                  try simp only [Act.put, List.setIfInBounds_toArray, List.set_cons_zero, List.set_cons_succ]
                  refine takeL (i := 6) (v := ?_) rfl (by kernel_rfl) (by kernel_rfl) (by kernel_rfl) (fun _ _ _ h => h) (Or.inl ⟨by kernel_rfl, ?_⟩) hHeld ?_
                  rotate_left
                  · rintro w' ⟨s0, s1⟩; go_simp; try simp only [hwi, hw14, hw16, hw22, hw24, hw25, hm1, hm0, htn1, htn2, hc01, hc02, hcS1, hcS2, and_self, if_true]
                    rfl
                  try simp only [Act.put, List.setIfInBounds_toArray, List.set_cons_zero, List.set_cons_succ]
                  refine takeL (i := 7) (v := ?_) rfl (by kernel_rfl) (by kernel_rfl) (by kernel_rfl) (fun _ _ _ h => h) (Or.inl ⟨by kernel_rfl, ?_⟩) hHeld ?_
                  rotate_left
                  · rintro w' ⟨s0, s1⟩; go_simp; try simp only [hwi, hw14, hw16, hw22, hw24, hw25, hm1, hm0, htn1, htn2, hc01, hc02, hcS1, hcS2, and_self, if_true]
                    rfl
                  try simp only [Act.put, List.setIfInBounds_toArray, List.set_cons_zero, List.set_cons_succ]
                  refine takeL (i := 8) (v := .bool true) rfl (by kernel_rfl) (by kernel_rfl) (by kernel_rfl) (fun _ _ _ h => h) (Or.inl ⟨by kernel_rfl, ?_⟩) hHeld ?_
                  · rintro w' ⟨s0, s1⟩; go_simp; try rfl
                  try simp only [Act.put, List.setIfInBounds_toArray, List.set_cons_zero, List.set_cons_succ]
                  refine takeL (i := 9) (v := .bool true) rfl (by kernel_rfl) (by kernel_rfl) (by kernel_rfl) (fun _ _ _ h => h) (Or.inl ⟨by kernel_rfl, ?_⟩) hHeld ?_
                  · rintro w' ⟨s0, s1⟩; go_simp; try rfl
                  try simp only [Act.put, List.setIfInBounds_toArray, List.set_cons_zero, List.set_cons_succ]
                  refine takeL (i := 10) (v := ?_) rfl (by kernel_rfl) (by kernel_rfl) (by kernel_rfl) (fun _ _ _ h => h) (Or.inl ⟨by kernel_rfl, ?_⟩) hHeld ?_
                  rotate_left
                  · rintro w' ⟨s0, s1⟩; go_simp; try simp only [hwi, hw14, hw16, hw22, hw24, hw25, hm1, hm0, htn1, htn2, hc01, hc02, hcS1, hcS2, and_self, if_true]
                    rfl
                  try simp only [Act.put, List.setIfInBounds_toArray, List.set_cons_zero, List.set_cons_succ]
                  refine takeL (i := 11) (v := ?_) rfl (by kernel_rfl) (by kernel_rfl) (by kernel_rfl) (fun _ _ _ h => h) (Or.inl ⟨by kernel_rfl, ?_⟩) hHeld ?_
                  rotate_left
                  · rintro w' ⟨s0, s1⟩; go_simp; try simp only [hwi, hw14, hw16, hw22, hw24, hw25, hm1, hm0, htn1, htn2, hc01, hc02, hcS1, hcS2, and_self, if_true]
                    rfl
                  try simp only [Act.put, List.setIfInBounds_toArray, List.set_cons_zero, List.set_cons_succ]
                  refine takeL (i := 12) (v := ?_) rfl (by kernel_rfl) (by kernel_rfl) (by kernel_rfl) (fun _ _ _ h => h) (Or.inl ⟨by kernel_rfl, ?_⟩) hHeld ?_
                  rotate_left
                  · rintro w' ⟨s0, s1⟩; go_simp; try simp only [hwi, hw14, hw16, hw22, hw24, hw25, hm1, hm0, htn1, htn2, hc01, hc02, hcS1, hcS2, and_self, if_true]
                    rfl
                  try simp only [Act.put, List.setIfInBounds_toArray, List.set_cons_zero, List.set_cons_succ]
                  refine takeL (i := 13) (v := ?_) rfl (by kernel_rfl) (by kernel_rfl) (by kernel_rfl) (fun _ _ _ h => h) (Or.inl ⟨by kernel_rfl, ?_⟩) hHeld ?_
                  rotate_left
                  · rintro w' ⟨s0, s1⟩; go_simp; try simp only [hwi, hw14, hw16, hw22, hw24, hw25, hm1, hm0, htn1, htn2, hc01, hc02, hcS1, hcS2, and_self, if_true]
                    rfl
                  try simp only [Act.put, List.setIfInBounds_toArray, List.set_cons_zero, List.set_cons_succ]
                  refine takeL (i := 14) (v := ?_) rfl (by kernel_rfl) (by kernel_rfl) (by kernel_rfl) (fun _ _ _ h => h) (Or.inl ⟨by kernel_rfl, ?_⟩) hHeld ?_
                  rotate_left
                  · rintro w' ⟨s0, s1⟩; go_simp; try simp only [hwi, hw14, hw16, hw22, hw24, hw25, hm1, hm0, htn1, htn2, hc01, hc02, hcS1, hcS2, and_self, if_true]
                    rfl
                  try simp only [Act.put, List.setIfInBounds_toArray, List.set_cons_zero, List.set_cons_succ]
                  refine takeL (i := 15) (v := ?_) rfl (by kernel_rfl) (by kernel_rfl) (by kernel_rfl) (fun _ _ _ h => h) (Or.inl ⟨by kernel_rfl, ?_⟩) hHeld ?_
                  rotate_left
                  · rintro w' ⟨s0, s1⟩; go_simp; try simp only [hwi, hw14, hw16, hw22, hw24, hw25, hm1, hm0, htn1, htn2, hc01, hc02, hcS1, hcS2, and_self, if_true]
                    rfl
                  try simp only [Act.put, List.setIfInBounds_toArray, List.set_cons_zero, List.set_cons_succ]
                  refine takeL (i := 16) (v := ?_) rfl (by kernel_rfl) (by kernel_rfl) (by kernel_rfl) (fun _ _ _ h => h) (Or.inl ⟨by kernel_rfl, ?_⟩) hHeld ?_
                  rotate_left
                  · rintro w' ⟨s0, s1⟩; go_simp; try simp only [hwi, hw14, hw16, hw22, hw24, hw25, hm1, hm0, htn1, htn2, hc01, hc02, hcS1, hcS2, and_self, if_true]
                    rfl
                  try simp only [Act.put, List.setIfInBounds_toArray, List.set_cons_zero, List.set_cons_succ]
                  refine takeL (i := 17) (v := ?_) rfl (by kernel_rfl) (by kernel_rfl) (by kernel_rfl) (fun _ _ _ h => h) (Or.inl ⟨by kernel_rfl, ?_⟩) hHeld ?_
                  rotate_left
                  · rintro w' ⟨s0, s1⟩; go_simp; try simp only [hwi, hw14, hw16, hw22, hw24, hw25, hm1, hm0, htn1, htn2, hc01, hc02, hcS1, hcS2, and_self, if_true]
                    rfl
                  try simp only [Act.put, List.setIfInBounds_toArray, List.set_cons_zero, List.set_cons_succ]
                  refine takeL (i := 18) (v := ?_) rfl (by kernel_rfl) (by kernel_rfl) (by kernel_rfl) (fun _ _ _ h => h) (Or.inl ⟨by kernel_rfl, ?_⟩) hHeld ?_
                  rotate_left
                  · rintro w' ⟨s0, s1⟩; go_simp; try simp only [hwi, hw14, hw16, hw22, hw24, hw25, hm1, hm0, htn1, htn2, hc01, hc02, hcS1, hcS2, and_self, if_true]
                    rfl
                  try simp only [Act.put, List.setIfInBounds_toArray, List.set_cons_zero, List.set_cons_succ]
                  refine takeL (i := 19) (v := ?_) rfl (by kernel_rfl) (by kernel_rfl) (by kernel_rfl) (fun _ _ _ h => h) (Or.inl ⟨by kernel_rfl, ?_⟩) hHeld ?_
                  rotate_left
                  · rintro w' ⟨s0, s1⟩; go_simp; try simp only [hwi, hw14, hw16, hw22, hw24, hw25, hm1, hm0, htn1, htn2, hc01, hc02, hcS1, hcS2, and_self, if_true]
                    rfl
                  try simp only [Act.put, List.setIfInBounds_toArray, List.set_cons_zero, List.set_cons_succ]
                  refine takeL (i := 20) (v := ?_) rfl (by kernel_rfl) (by kernel_rfl) (by kernel_rfl) (fun _ _ _ h => h) (Or.inl ⟨by kernel_rfl, ?_⟩) hHeld ?_
                  rotate_left
                  · rintro w' ⟨s0, s1⟩; go_simp; try simp only [hwi, hw14, hw16, hw22, hw24, hw25, hm1, hm0, htn1, htn2, hc01, hc02, hcS1, hcS2, and_self, if_true]
                    rfl
                  try simp only [Act.put, List.setIfInBounds_toArray, List.set_cons_zero, List.set_cons_succ]
                  refine takeL (i := 21) (v := ?_) rfl (by kernel_rfl) (by kernel_rfl) (by kernel_rfl) (fun _ _ _ h => h) (Or.inl ⟨by kernel_rfl, ?_⟩) hHeld ?_
                  rotate_left
                  · rintro w' ⟨s0, s1⟩; go_simp; try simp only [hwi, hw14, hw16, hw22, hw24, hw25, hm1, hm0, htn1, htn2, hc01, hc02, hcS1, hcS2, and_self, if_true]
                    rfl
                  try simp only [Act.put, List.setIfInBounds_toArray, List.set_cons_zero, List.set_cons_succ]
                  refine takeL (i := 22) (v := ?_) rfl (by kernel_rfl) (by kernel_rfl) (by kernel_rfl) (fun _ _ _ h => h) (Or.inl ⟨by kernel_rfl, ?_⟩) hHeld ?_
                  rotate_left
                  · rintro w' ⟨s0, s1⟩; go_simp; try simp only [hwi, hw14, hw16, hw22, hw24, hw25, hm1, hm0, htn1, htn2, hc01, hc02, hcS1, hcS2, and_self, if_true]
                    rfl
                  try simp only [Act.put, List.setIfInBounds_toArray, List.set_cons_zero, List.set_cons_succ]
                  refine takeL (i := 23) (v := ?_) rfl (by kernel_rfl) (by kernel_rfl) (by kernel_rfl) (fun _ _ _ h => h) (Or.inl ⟨by kernel_rfl, ?_⟩) hHeld ?_
                  rotate_left
                  · rintro w' ⟨s0, s1⟩; go_simp; try simp only [hwi, hw14, hw16, hw22, hw24, hw25, hm1, hm0, htn1, htn2, hc01, hc02, hcS1, hcS2, and_self, if_true]
                    rfl
                  try simp only [Act.put, List.setIfInBounds_toArray, List.set_cons_zero, List.set_cons_succ]
                  refine takeL (i := 24) (v := ?_) rfl (by kernel_rfl) (by kernel_rfl) (by kernel_rfl) (fun _ _ _ h => h) (Or.inl ⟨by kernel_rfl, ?_⟩) hHeld ?_
                  rotate_left
                  · rintro w' ⟨s0, s1⟩; go_simp; try simp only [hwi, hw14, hw16, hw22, hw24, hw25, hm1, hm0, htn1, htn2, hc01, hc02, hcS1, hcS2, and_self, if_true]
                    rfl
                  try simp only [Act.put, List.setIfInBounds_toArray, List.set_cons_zero, List.set_cons_succ]
                  refine takeL (i := 25) (v := ?_) rfl (by kernel_rfl) (by kernel_rfl) (by kernel_rfl) (fun _ _ _ h => h) (Or.inl ⟨by kernel_rfl, ?_⟩) hHeld ?_
                  rotate_left
                  · rintro w' ⟨s0, s1⟩; go_simp; try simp only [hwi, hw14, hw16, hw22, hw24, hw25, hm1, hm0, htn1, htn2, hc01, hc02, hcS1, hcS2, and_self, if_true]
                    rfl
                  try simp only [Act.put, List.setIfInBounds_toArray, List.set_cons_zero, List.set_cons_succ]
                  refine takeL (i := 26) (v := ?_) rfl (by kernel_rfl) (by kernel_rfl) (by kernel_rfl) (fun _ _ _ h => h) (Or.inl ⟨by kernel_rfl, ?_⟩) hHeld ?_
                  rotate_left
                  · rintro w' ⟨s0, s1⟩; go_simp; try simp only [hwi, hw14, hw16, hw22, hw24, hw25, hm1, hm0, htn1, htn2, hc01, hc02, hcS1, hcS2, and_self, if_true]
                    rfl
                  try simp only [Act.put, List.setIfInBounds_toArray, List.set_cons_zero, List.set_cons_succ]
                  refine takeL (i := 27) (v := ?_) rfl (by kernel_rfl) (by kernel_rfl) (by kernel_rfl) (fun _ _ _ h => h) (Or.inl ⟨by kernel_rfl, ?_⟩) hHeld ?_
                  rotate_left
                  · rintro w' ⟨s0, s1⟩; go_simp; try simp only [hwi, hw14, hw16, hw22, hw24, hw25, hm1, hm0, htn1, htn2, hc01, hc02, hcS1, hcS2, and_self, if_true]
                    rfl
                  try simp only [Act.put, List.setIfInBounds_toArray, List.set_cons_zero, List.set_cons_succ]
                  refine takeL (i := 28) (v := .bool false) rfl (by kernel_rfl) (by kernel_rfl) (by kernel_rfl) (fun _ _ _ h => h) (Or.inl ⟨by kernel_rfl, ?_⟩) hHeld ?_
                  · rintro w' ⟨s0, s1⟩; go_simp; try rfl
                  try simp only [Act.put, List.setIfInBounds_toArray, List.set_cons_zero, List.set_cons_succ]
                  refine takeL (i := 29) (v := .bool false) rfl (by kernel_rfl) (by kernel_rfl) (by kernel_rfl) (fun _ _ _ h => h) (Or.inl ⟨by kernel_rfl, ?_⟩) hHeld ?_
                  · rintro w' ⟨s0, s1⟩; go_simp; try rfl
                  try simp only [Act.put, List.setIfInBounds_toArray, List.set_cons_zero, List.set_cons_succ]
                  refine takeL (i := 30) (v := .bool false) rfl (by kernel_rfl) (by kernel_rfl) (by kernel_rfl) (fun _ _ _ h => h) (Or.inl ⟨by rfl, ?_⟩) hHeld ?_
                  · rintro w' ⟨s0, s1⟩; go_simp; try rfl
                  try simp only [Act.put, List.setIfInBounds_toArray, List.set_cons_zero, List.set_cons_succ]
                  refine takeL (i := 31) (v := .bool false) rfl (by kernel_rfl) (by kernel_rfl) (by kernel_rfl) (fun _ _ _ h => h) (Or.inl ⟨by rfl, ?_⟩) hHeld ?_
                  · rintro w' ⟨s0, s1⟩; go_simp; try rfl
                  try simp only [Act.put, List.setIfInBounds_toArray, List.set_cons_zero, List.set_cons_succ]
                  refine wpAnyH_done (by kernel_rfl) ?_ _
                  clear hHeld
                  have hcc := HCY.out we HBE2.out.below
                  have HED2 : Hid ((L ++ [(2, y)]) ++ ed (A.drop (i)) (B.drop (k + 1)) = E) := hid (by
                    have h9 := HED.out
                    rw [ed_next_insert A B i k (by rw [HNX.out]; exact hin) (by rw [HNY.out]; exact hkm) (by rw [HXX.out, HYY.out]; exact hxy) (by rw [HV2.out, HU2.out]; exact huv), HYY.out] at h9
                    rw [List.append_assoc]
                    exact h9)
                  go_wp2_with (first
                    | refine wpList_bS rfl 49 1 _ rfl (.agg #[.int .i64 2, .string BY]) _ rfl (HD2.out _) ?_
                    | (refine app_edK und29 Try.info52 HBE2.out hLl hl4 2 y 2 rfl BY HBY.out rfl _ _ rfl rfl rfl ?_; intro a' c' w' HB')
                    | fail)
                  go_roundg ((nx - (i)) + (ny - (k + 1)))
                  case measure => omega
                  case rel => exact ⟨i, k + 1, l + 1, L ++ [(2, y)], a', c', rfl, by go_num, by go_num, by simp [hLl], by omega, by omega, rfl, HB', HED2⟩
          · have hkmI : ¬ (k : Int) < (ny : Int) := by omega
            have hke : ((k : Int) == (ny : Int)) = true := by simp; omega
            have hw14 : (0 : Int) = 0 := rfl
            have hw16 : (0 : Int) = 0 := rfl
            have hw22 : (0 : Int) = 0 := rfl
            have hw24 : (0 : Int) = 0 := rfl
            have hw25 : (0 : Int) = 0 := rfl
            have hm1 : (0 : Int) = 0 := rfl
            have hm0 : (0 : Int) = 0 := rfl
            have htn1 : (0 : Int) = 0 := rfl
            have htn2 : (0 : Int) = 0 := rfl
            have hc01 : (0 : Int) = 0 := rfl
            have hc02 : (0 : Int) = 0 := rfl
            have hcS1 : (0 : Int) = 0 := rfl
            have hcS2 : (0 : Int) = 0 := rfl
            as_aux_lemma =>
              go_wp2_with fail
              refine wp_region_held_drew (S := fun _ => True) (by kernel_rfl) trivial (fun hHeld => ?_)
              generalize wr.drew = wd at HBEd ⊢
              refine takeL (i := 0) (v := ?_) rfl (by kernel_rfl) (by kernel_rfl) (by kernel_rfl) (fun _ _ _ h => h) (Or.inl ⟨by rfl, ?_⟩) hHeld ?_
              rotate_left
              · rintro w' _; go_simp; try simp only [hwi, hw14, hw16, hw22, hw24, hw25, hm1, hm0, htn1, htn2, hc01, hc02, hcS1, hcS2, and_self, if_true]
                rfl
              try simp only [Act.put, List.setIfInBounds_toArray, List.set_cons_zero, List.set_cons_succ]
              refine takeL (i := 1) (v := ?_) rfl (by kernel_rfl) (by kernel_rfl) (by kernel_rfl) (fun _ _ _ h => h) (Or.inl ⟨by rfl, ?_⟩) hHeld ?_
              rotate_left
              · rintro w' _; go_simp; try simp only [hwi, hw14, hw16, hw22, hw24, hw25, hm1, hm0, htn1, htn2, hc01, hc02, hcS1, hcS2, and_self, if_true]
                rfl
              try simp only [Act.put, List.setIfInBounds_toArray, List.set_cons_zero, List.set_cons_succ]
              refine takeL (i := 2) (v := ?_) rfl (by kernel_rfl) (by kernel_rfl) (by kernel_rfl) (fun _ _ _ h => h) (Or.inl ⟨by rfl, ?_⟩) hHeld ?_
              rotate_left
              · rintro w' _; go_simp; try simp only [hwi, hw14, hw16, hw22, hw24, hw25, hm1, hm0, htn1, htn2, hc01, hc02, hcS1, hcS2, and_self, if_true]
                rfl
              try simp only [Act.put, List.setIfInBounds_toArray, List.set_cons_zero, List.set_cons_succ]
              refine takeL (i := 3) (v := .bool true) rfl (by kernel_rfl) (by kernel_rfl) (by kernel_rfl) (fun _ _ _ h => h) (Or.inl ⟨by rfl, ?_⟩) hHeld ?_
              · rintro w' _; go_simp; try rfl
              try simp only [Act.put, List.setIfInBounds_toArray, List.set_cons_zero, List.set_cons_succ]
              refine takeL (i := 4) (v := .bool true) rfl (by kernel_rfl) (by kernel_rfl) (by kernel_rfl) (fun _ _ _ h => h) (Or.inl ⟨by rfl, ?_⟩) hHeld ?_
              · rintro w' _; go_simp; try rfl
              try simp only [Act.put, List.setIfInBounds_toArray, List.set_cons_zero, List.set_cons_succ]
              refine takeL (i := 5) (v := ?_) rfl (by kernel_rfl) (by kernel_rfl) (by kernel_rfl) (fun _ _ _ h => h) (Or.inl ⟨by kernel_rfl, ?_⟩) hHeld ?_
              rotate_left
              · rintro w' _; go_simp; try simp only [hwi, hw14, hw16, hw22, hw24, hw25, hm1, hm0, htn1, htn2, hc01, hc02, hcS1, hcS2, and_self, if_true]
                rfl
              try simp only [Act.put, List.setIfInBounds_toArray, List.set_cons_zero, List.set_cons_succ]
              refine takeL (i := 6) (v := ?_) rfl (by kernel_rfl) (by kernel_rfl) (by kernel_rfl) (fun _ _ _ h => h) (Or.inl ⟨by kernel_rfl, ?_⟩) hHeld ?_
              rotate_left
              · rintro w' _; go_simp; try simp only [hwi, hw14, hw16, hw22, hw24, hw25, hm1, hm0, htn1, htn2, hc01, hc02, hcS1, hcS2, and_self, if_true]
                rfl
              try simp only [Act.put, List.setIfInBounds_toArray, List.set_cons_zero, List.set_cons_succ]
              refine takeL (i := 7) (v := ?_) rfl (by kernel_rfl) (by kernel_rfl) (by kernel_rfl) (fun _ _ _ h => h) (Or.inl ⟨by kernel_rfl, ?_⟩) hHeld ?_
              rotate_left
              · rintro w' _; go_simp; try simp only [hwi, hw14, hw16, hw22, hw24, hw25, hm1, hm0, htn1, htn2, hc01, hc02, hcS1, hcS2, and_self, if_true]
                rfl
              try simp only [Act.put, List.setIfInBounds_toArray, List.set_cons_zero, List.set_cons_succ]
              refine takeL (i := 8) (v := .bool false) rfl (by kernel_rfl) (by kernel_rfl) (by kernel_rfl) (fun _ _ _ h => h) (Or.inl ⟨by kernel_rfl, ?_⟩) hHeld ?_
              · rintro w' _; go_simp; try rfl
              try simp only [Act.put, List.setIfInBounds_toArray, List.set_cons_zero, List.set_cons_succ]
              refine takeL (i := 9) (v := .bool false) rfl (by kernel_rfl) (by kernel_rfl) (by kernel_rfl) (fun _ _ _ h => h) (Or.inl ⟨by rfl, ?_⟩) hHeld ?_
              · rintro w' _; go_simp; try rfl
              try simp only [Act.put, List.setIfInBounds_toArray, List.set_cons_zero, List.set_cons_succ]
              refine takeL (i := 10) (v := .bool false) rfl (by kernel_rfl) (by kernel_rfl) (by kernel_rfl) (fun _ _ _ h => h) (Or.inl ⟨by rfl, ?_⟩) hHeld ?_
              · rintro w' _; go_simp; try rfl
              try simp only [Act.put, List.setIfInBounds_toArray, List.set_cons_zero, List.set_cons_succ]
              refine takeL (i := 11) (v := undef) rfl (by kernel_rfl) (by kernel_rfl) (by kernel_rfl) (fun _ _ _ h => h) (Or.inr ⟨by kernel_rfl, rfl⟩) hHeld ?_
              try simp only [Act.put, List.setIfInBounds_toArray, List.set_cons_zero, List.set_cons_succ]
              refine takeL (i := 12) (v := undef) rfl (by kernel_rfl) (by kernel_rfl) (by kernel_rfl) (fun _ _ _ h => h) (Or.inr ⟨by kernel_rfl, rfl⟩) hHeld ?_
              try simp only [Act.put, List.setIfInBounds_toArray, List.set_cons_zero, List.set_cons_succ]
              refine takeL (i := 13) (v := undef) rfl (by kernel_rfl) (by kernel_rfl) (by kernel_rfl) (fun _ _ _ h => h) (Or.inr ⟨by kernel_rfl, rfl⟩) hHeld ?_
              try simp only [Act.put, List.setIfInBounds_toArray, List.set_cons_zero, List.set_cons_succ]
              refine takeL (i := 14) (v := undef) rfl (by kernel_rfl) (by kernel_rfl) (by kernel_rfl) (fun _ _ _ h => h) (Or.inr ⟨by kernel_rfl, rfl⟩) hHeld ?_
              try simp only [Act.put, List.setIfInBounds_toArray, List.set_cons_zero, List.set_cons_succ]
              refine takeL (i := 15) (v := undef) rfl (by kernel_rfl) (by kernel_rfl) (by kernel_rfl) (fun _ _ _ h => h) (Or.inr ⟨by kernel_rfl, rfl⟩) hHeld ?_
              try simp only [Act.put, List.setIfInBounds_toArray, List.set_cons_zero, List.set_cons_succ]
              refine takeL (i := 16) (v := undef) rfl (by kernel_rfl) (by kernel_rfl) (by kernel_rfl) (fun _ _ _ h => h) (Or.inr ⟨by kernel_rfl, rfl⟩) hHeld ?_
              try simp only [Act.put, List.setIfInBounds_toArray, List.set_cons_zero, List.set_cons_succ]
              refine takeL (i := 17) (v := undef) rfl (by kernel_rfl) (by kernel_rfl) (by kernel_rfl) (fun _ _ _ h => h) (Or.inr ⟨by kernel_rfl, rfl⟩) hHeld ?_
              try simp only [Act.put, List.setIfInBounds_toArray, List.set_cons_zero, List.set_cons_succ]
              refine takeL (i := 18) (v := undef) rfl (by kernel_rfl) (by kernel_rfl) (by kernel_rfl) (fun _ _ _ h => h) (Or.inr ⟨by kernel_rfl, rfl⟩) hHeld ?_
              try simp only [Act.put, List.setIfInBounds_toArray, List.set_cons_zero, List.set_cons_succ]
              refine takeL (i := 19) (v := undef) rfl (by kernel_rfl) (by kernel_rfl) (by kernel_rfl) (fun _ _ _ h => h) (Or.inr ⟨by kernel_rfl, rfl⟩) hHeld ?_
              try simp only [Act.put, List.setIfInBounds_toArray, List.set_cons_zero, List.set_cons_succ]
              refine takeL (i := 20) (v := .bool false) rfl (by kernel_rfl) (by kernel_rfl) (by kernel_rfl) (fun _ _ _ h => h) (Or.inl ⟨by rfl, ?_⟩) hHeld ?_
              · rintro w' _; go_simp; try rfl
              try simp only [Act.put, List.setIfInBounds_toArray, List.set_cons_zero, List.set_cons_succ]
              refine takeL (i := 21) (v := .bool false) rfl (by kernel_rfl) (by kernel_rfl) (by kernel_rfl) (fun _ _ _ h => h) (Or.inl ⟨by rfl, ?_⟩) hHeld ?_
              · rintro w' _; go_simp; try rfl
              try simp only [Act.put, List.setIfInBounds_toArray, List.set_cons_zero, List.set_cons_succ]
              refine wpAnyH_done (by kernel_rfl) ?_ _
              clear hHeld
              have hbd : Below wd.heap.size wd wd.drew := ⟨rfl, rfl, rfl, Nat.le_refl _, fun _ _ => rfl⟩
              have HBE2 : Hid (BE 52 w4 wd.drew R (.slice la l lc) L) := hid (HBEd.out.carry hbd)
              clear hbd
              go_wp2_with fail
              refine wp_region_held_drew (S := fun _ => True) (by kernel_rfl) trivial (fun hHeld => ?_)
              generalize wd.drew = we at HBE2 ⊢
              refine takeL (i := 0) (v := ?_) rfl (by kernel_rfl) (by kernel_rfl) (by kernel_rfl) (fun _ _ _ h => h) (Or.inl ⟨by rfl, ?_⟩) hHeld ?_
              rotate_left
              · rintro w' _; go_simp; try simp only [hwi, hw14, hw16, hw22, hw24, hw25, hm1, hm0, htn1, htn2, hc01, hc02, hcS1, hcS2, and_self, if_true]
                rfl
              try simp only [Act.put, List.setIfInBounds_toArray, List.set_cons_zero, List.set_cons_succ]
              refine takeL (i := 1) (v := ?_) rfl (by kernel_rfl) (by kernel_rfl) (by kernel_rfl) (fun _ _ _ h => h) (Or.inl ⟨by rfl, ?_⟩) hHeld ?_
              rotate_left
              · rintro w' _; go_simp; try simp only [hwi, hw14, hw16, hw22, hw24, hw25, hm1, hm0, htn1, htn2, hc01, hc02, hcS1, hcS2, and_self, if_true]
                rfl
              try simp only [Act.put, List.setIfInBounds_toArray, List.set_cons_zero, List.set_cons_succ]
              refine takeL (i := 2) (v := ?_) rfl (by kernel_rfl) (by kernel_rfl) (by kernel_rfl) (fun _ _ _ h => h) (Or.inl ⟨by rfl, ?_⟩) hHeld ?_
              rotate_left
              · rintro w' _; go_simp; try simp only [hwi, hw14, hw16, hw22, hw24, hw25, hm1, hm0, htn1, htn2, hc01, hc02, hcS1, hcS2, and_self, if_true]
                rfl
              try simp only [Act.put, List.setIfInBounds_toArray, List.set_cons_zero, List.set_cons_succ]
              refine takeL (i := 3) (v := .bool true) rfl (by kernel_rfl) (by kernel_rfl) (by kernel_rfl) (fun _ _ _ h => h) (Or.inl ⟨by rfl, ?_⟩) hHeld ?_
              · rintro w' _; go_simp; try rfl
              try simp only [Act.put, List.setIfInBounds_toArray, List.set_cons_zero, List.set_cons_succ]
              refine takeL (i := 4) (v := .bool true) rfl (by kernel_rfl) (by kernel_rfl) (by kernel_rfl) (fun _ _ _ h => h) (Or.inl ⟨by rfl, ?_⟩) hHeld ?_
              · rintro w' _; go_simp; try rfl
              try simp only [Act.put, List.setIfInBounds_toArray, List.set_cons_zero, List.set_cons_succ]
              refine takeL (i := 5) (v := undef) rfl (by kernel_rfl) (by kernel_rfl) (by kernel_rfl) (fun _ _ _ h => h) (Or.inr ⟨by kernel_rfl, rfl⟩) hHeld ?_
              try simp only [Act.put, List.setIfInBounds_toArray, List.set_cons_zero, List.set_cons_succ]
              refine takeL (i := 6) (v := undef) rfl (by kernel_rfl) (by kernel_rfl) (by kernel_rfl) (fun _ _ _ h => h) (Or.inr ⟨by kernel_rfl, rfl⟩) hHeld ?_
              try simp only [Act.put, List.setIfInBounds_toArray, List.set_cons_zero, List.set_cons_succ]
              refine takeL (i := 7) (v := undef) rfl (by kernel_rfl) (by kernel_rfl) (by kernel_rfl) (fun _ _ _ h => h) (Or.inr ⟨by kernel_rfl, rfl⟩) hHeld ?_
              try simp only [Act.put, List.setIfInBounds_toArray, List.set_cons_zero, List.set_cons_succ]
              refine takeL (i := 8) (v := undef) rfl (by kernel_rfl) (by kernel_rfl) (by kernel_rfl) (fun _ _ _ h => h) (Or.inr ⟨by kernel_rfl, rfl⟩) hHeld ?_
              try simp only [Act.put, List.setIfInBounds_toArray, List.set_cons_zero, List.set_cons_succ]
              refine takeL (i := 9) (v := undef) rfl (by kernel_rfl) (by kernel_rfl) (by kernel_rfl) (fun _ _ _ h => h) (Or.inr ⟨by kernel_rfl, rfl⟩) hHeld ?_
              try simp only [Act.put, List.setIfInBounds_toArray, List.set_cons_zero, List.set_cons_succ]
              refine takeL (i := 10) (v := undef) rfl (by kernel_rfl) (by kernel_rfl) (by kernel_rfl) (fun _ _ _ h => h) (Or.inr ⟨by kernel_rfl, rfl⟩) hHeld ?_
              try simp only [Act.put, List.setIfInBounds_toArray, List.set_cons_zero, List.set_cons_succ]
              refine takeL (i := 11) (v := undef) rfl (by kernel_rfl) (by kernel_rfl) (by kernel_rfl) (fun _ _ _ h => h) (Or.inr ⟨by kernel_rfl, rfl⟩) hHeld ?_
              try simp only [Act.put, List.setIfInBounds_toArray, List.set_cons_zero, List.set_cons_succ]
              refine takeL (i := 12) (v := undef) rfl (by kernel_rfl) (by kernel_rfl) (by kernel_rfl) (fun _ _ _ h => h) (Or.inr ⟨by kernel_rfl, rfl⟩) hHeld ?_
              try simp only [Act.put, List.setIfInBounds_toArray, List.set_cons_zero, List.set_cons_succ]
              refine takeL (i := 13) (v := undef) rfl (by kernel_rfl) (by kernel_rfl) (by kernel_rfl) (fun _ _ _ h => h) (Or.inr ⟨by kernel_rfl, rfl⟩) hHeld ?_
              try simp only [Act.put, List.setIfInBounds_toArray, List.set_cons_zero, List.set_cons_succ]
              refine takeL (i := 14) (v := undef) rfl (by kernel_rfl) (by kernel_rfl) (by kernel_rfl) (fun _ _ _ h => h) (Or.inr ⟨by kernel_rfl, rfl⟩) hHeld ?_
              try simp only [Act.put, List.setIfInBounds_toArray, List.set_cons_zero, List.set_cons_succ]
              refine takeL (i := 15) (v := undef) rfl (by kernel_rfl) (by kernel_rfl) (by kernel_rfl) (fun _ _ _ h => h) (Or.inr ⟨by kernel_rfl, rfl⟩) hHeld ?_
              try simp only [Act.put, List.setIfInBounds_toArray, List.set_cons_zero, List.set_cons_succ]
              refine takeL (i := 16) (v := undef) rfl (by kernel_rfl) (by kernel_rfl) (by kernel_rfl) (fun _ _ _ h => h) (Or.inr ⟨by kernel_rfl, rfl⟩) hHeld ?_
              try simp only [Act.put, List.setIfInBounds_toArray, List.set_cons_zero, List.set_cons_succ]
              refine takeL (i := 17) (v := undef) rfl (by kernel_rfl) (by kernel_rfl) (by kernel_rfl) (fun _ _ _ h => h) (Or.inr ⟨by kernel_rfl, rfl⟩) hHeld ?_
              try simp only [Act.put, List.setIfInBounds_toArray, List.set_cons_zero, List.set_cons_succ]
              refine takeL (i := 18) (v := undef) rfl (by kernel_rfl) (by kernel_rfl) (by kernel_rfl) (fun _ _ _ h => h) (Or.inr ⟨by kernel_rfl, rfl⟩) hHeld ?_
              try simp only [Act.put, List.setIfInBounds_toArray, List.set_cons_zero, List.set_cons_succ]
              refine takeL (i := 19) (v := undef) rfl (by kernel_rfl) (by kernel_rfl) (by kernel_rfl) (fun _ _ _ h => h) (Or.inr ⟨by kernel_rfl, rfl⟩) hHeld ?_
              try simp only [Act.put, List.setIfInBounds_toArray, List.set_cons_zero, List.set_cons_succ]
              refine takeL (i := 20) (v := undef) rfl (by kernel_rfl) (by kernel_rfl) (by kernel_rfl) (fun _ _ _ h => h) (Or.inr ⟨by kernel_rfl, rfl⟩) hHeld ?_
              try simp only [Act.put, List.setIfInBounds_toArray, List.set_cons_zero, List.set_cons_succ]
              refine takeL (i := 21) (v := undef) rfl (by kernel_rfl) (by kernel_rfl) (by kernel_rfl) (fun _ _ _ h => h) (Or.inr ⟨by kernel_rfl, rfl⟩) hHeld ?_
              try simp only [Act.put, List.setIfInBounds_toArray, List.set_cons_zero, List.set_cons_succ]
              refine takeL (i := 22) (v := undef) rfl (by kernel_rfl) (by kernel_rfl) (by kernel_rfl) (fun _ _ _ h => h) (Or.inr ⟨by kernel_rfl, rfl⟩) hHeld ?_
              try simp only [Act.put, List.setIfInBounds_toArray, List.set_cons_zero, List.set_cons_succ]
              refine takeL (i := 23) (v := undef) rfl (by kernel_rfl) (by kernel_rfl) (by kernel_rfl) (fun _ _ _ h => h) (Or.inr ⟨by kernel_rfl, rfl⟩) hHeld ?_
              try simp only [Act.put, List.setIfInBounds_toArray, List.set_cons_zero, List.set_cons_succ]
              refine takeL (i := 24) (v := undef) rfl (by kernel_rfl) (by kernel_rfl) (by kernel_rfl) (fun _ _ _ h => h) (Or.inr ⟨by kernel_rfl, rfl⟩) hHeld ?_
              try simp only [Act.put, List.setIfInBounds_toArray, List.set_cons_zero, List.set_cons_succ]
              refine takeL (i := 25) (v := undef) rfl (by kernel_rfl) (by kernel_rfl) (by kernel_rfl) (fun _ _ _ h => h) (Or.inr ⟨by kernel_rfl, rfl⟩) hHeld ?_
              try simp only [Act.put, List.setIfInBounds_toArray, List.set_cons_zero, List.set_cons_succ]
              refine takeL (i := 26) (v := undef) rfl (by kernel_rfl) (by kernel_rfl) (by kernel_rfl) (fun _ _ _ h => h) (Or.inr ⟨by kernel_rfl, rfl⟩) hHeld ?_
              try simp only [Act.put, List.setIfInBounds_toArray, List.set_cons_zero, List.set_cons_succ]
              refine takeL (i := 27) (v := undef) rfl (by kernel_rfl) (by kernel_rfl) (by kernel_rfl) (fun _ _ _ h => h) (Or.inr ⟨by kernel_rfl, rfl⟩) hHeld ?_
              try simp only [Act.put, List.setIfInBounds_toArray, List.set_cons_zero, List.set_cons_succ]
              refine takeL (i := 28) (v := undef) rfl (by kernel_rfl) (by kernel_rfl) (by kernel_rfl) (fun _ _ _ h => h) (Or.inr ⟨by kernel_rfl, rfl⟩) hHeld ?_
              try simp only [Act.put, List.setIfInBounds_toArray, List.set_cons_zero, List.set_cons_succ]
              refine takeL (i := 29) (v := undef) rfl (by kernel_rfl) (by kernel_rfl) (by kernel_rfl) (fun _ _ _ h => h) (Or.inr ⟨by kernel_rfl, rfl⟩) hHeld ?_
              try simp only [Act.put, List.setIfInBounds_toArray, List.set_cons_zero, List.set_cons_succ]
              refine takeL (i := 30) (v := .bool true) rfl (by kernel_rfl) (by kernel_rfl) (by kernel_rfl) (fun _ _ _ h => h) (Or.inl ⟨by rfl, ?_⟩) hHeld ?_
              · rintro w' _; go_simp; try rfl
              try simp only [Act.put, List.setIfInBounds_toArray, List.set_cons_zero, List.set_cons_succ]
              refine takeL (i := 31) (v := .bool true) rfl (by kernel_rfl) (by kernel_rfl) (by kernel_rfl) (fun _ _ _ h => h) (Or.inl ⟨by rfl, ?_⟩) hHeld ?_
              · rintro w' _; go_simp; try rfl
              try simp only [Act.put, List.setIfInBounds_toArray, List.set_cons_zero, List.set_cons_succ]
              refine wpAnyH_done (by kernel_rfl) ?_ _
              clear hHeld
              have hcc := HCX.out we HBE2.out.below
              have HED2 : Hid ((L ++ [(1, x)]) ++ ed (A.drop (i + 1)) (B.drop (k)) = E) := hid (by
                have h9 := HED.out
                rw [ed_next_end A B i k (by rw [HNX.out]; exact hin) (by rw [HNY.out]; omega), HXX.out] at h9
                rw [List.append_assoc]
                exact h9)
              go_wp2_with (first
                | refine wpList_bS rfl 49 1 _ rfl (.agg #[.int .i64 1, .string BX]) _ rfl (HD1.out _) ?_
                | (refine app_edK und29 Try.info52 HBE2.out hLl hl4 1 x 1 rfl BX HBX.out rfl _ _ rfl rfl rfl ?_; intro a' c' w' HB')
                | fail)
              go_roundg ((nx - (i + 1)) + (ny - (k)))
              case measure => omega
              case rel => exact ⟨i + 1, k, l + 1, L ++ [(1, x)], a', c', rfl, by go_num, by go_num, by simp [hLl], by omega, by omega, rfl, HB', HED2⟩
        · have hinI : ¬ (i : Int) < (nx : Int) := by omega
          have hw14 : (0 : Int) = 0 := rfl
          have hw16 : (0 : Int) = 0 := rfl
          have hw22 : (0 : Int) = 0 := rfl
          have hw24 : (0 : Int) = 0 := rfl
          have hw25 : (0 : Int) = 0 := rfl
          have hm1 : (0 : Int) = 0 := rfl
          have hm0 : (0 : Int) = 0 := rfl
          have htn1 : (0 : Int) = 0 := rfl
          have htn2 : (0 : Int) = 0 := rfl
          have hc01 : (0 : Int) = 0 := rfl
          have hc02 : (0 : Int) = 0 := rfl
          have hcS1 : (0 : Int) = 0 := rfl
          have hcS2 : (0 : Int) = 0 := rfl
          by_cases hkm : k < ny
          · have hkmI : (k : Int) < (ny : Int) := by omega
            have hkne : ((k : Int) == (ny : Int)) = false := by simp; omega
            obtain ⟨bb, ob, e1⟩ := HFB.out (by omega)
            cases e1
            obtain ⟨y, HYY⟩ : ∃ x, Hid (B.getD k [] = x) := ⟨_, rfl⟩
            obtain ⟨BY, HBY⟩ : ∃ X, Hid ((⟨y.toArray⟩ : ByteArray) = X) := ⟨_, rfl⟩
            have HCY : Hid (∀ W, Below R w4 W → W.cell? ⟨bb, ob + k, none⟩ = some (.string BY)) := fun W hW => by
              rw [← HBY.out, ← HYY.out]
              exact PS.str (HPB2.out W hW) k (by rw [HNY.out]; exact hkm)
            have HD2 : Hid (∀ W : World, (Instr.buildSlice 49 1 #[(0, .agg #[.int .i64 2, .string BY])]).run Try.prog W = .ok (.slice (some ⟨W.heap.size, 0, none⟩) 1 1) (W.alloc (.cells #[.int .i64 2, .string BY] 52))) := fun W => run_build29 2 (.string BY) ⟨_, rfl⟩ W
            as_aux_lemma =>
              go_wp2_with fail
              refine wp_region_held_drew (S := fun _ => True) (by kernel_rfl) trivial (fun hHeld => ?_)
              generalize wr.drew = wd at HBEd ⊢
              refine takeL (i := 0) (v := ?_) rfl (by kernel_rfl) (by kernel_rfl) (by kernel_rfl) (fun _ _ _ h => h) (Or.inl ⟨by rfl, ?_⟩) hHeld ?_
              rotate_left
              · rintro w' _; go_simp; try simp only [hwi, hw14, hw16, hw22, hw24, hw25, hm1, hm0, htn1, htn2, hc01, hc02, hcS1, hcS2, and_self, if_true]
                rfl
              try simp only [Act.put, List.setIfInBounds_toArray, List.set_cons_zero, List.set_cons_succ]
              refine takeL (i := 1) (v := ?_) rfl (by kernel_rfl) (by kernel_rfl) (by kernel_rfl) (fun _ _ _ h => h) (Or.inl ⟨by rfl, ?_⟩) hHeld ?_
              rotate_left
              · rintro w' _; go_simp; try simp only [hwi, hw14, hw16, hw22, hw24, hw25, hm1, hm0, htn1, htn2, hc01, hc02, hcS1, hcS2, and_self, if_true]
                rfl
              try simp only [Act.put, List.setIfInBounds_toArray, List.set_cons_zero, List.set_cons_succ]
              refine takeL (i := 2) (v := ?_) rfl (by kernel_rfl) (by kernel_rfl) (by kernel_rfl) (fun _ _ _ h => h) (Or.inl ⟨by rfl, ?_⟩) hHeld ?_
              rotate_left
              · rintro w' _; go_simp; try simp only [hwi, hw14, hw16, hw22, hw24, hw25, hm1, hm0, htn1, htn2, hc01, hc02, hcS1, hcS2, and_self, if_true]
                rfl
              try simp only [Act.put, List.setIfInBounds_toArray, List.set_cons_zero, List.set_cons_succ]
              refine takeL (i := 3) (v := .bool false) rfl (by kernel_rfl) (by kernel_rfl) (by kernel_rfl) (fun _ _ _ h => h) (Or.inl ⟨by rfl, ?_⟩) hHeld ?_
              · rintro w' _; go_simp; try rfl
              try simp only [Act.put, List.setIfInBounds_toArray, List.set_cons_zero, List.set_cons_succ]
              refine takeL (i := 4) (v := .bool false) rfl (by kernel_rfl) (by kernel_rfl) (by kernel_rfl) (fun _ _ _ h => h) (Or.inl ⟨by rfl, ?_⟩) hHeld ?_
              · rintro w' _; go_simp; try rfl
              try simp only [Act.put, List.setIfInBounds_toArray, List.set_cons_zero, List.set_cons_succ]
              refine takeL (i := 5) (v := undef) rfl (by kernel_rfl) (by kernel_rfl) (by kernel_rfl) (fun _ _ _ h => h) (Or.inr ⟨by kernel_rfl, rfl⟩) hHeld ?_
              try simp only [Act.put, List.setIfInBounds_toArray, List.set_cons_zero, List.set_cons_succ]
              refine takeL (i := 6) (v := undef) rfl (by kernel_rfl) (by kernel_rfl) (by kernel_rfl) (fun _ _ _ h => h) (Or.inr ⟨by kernel_rfl, rfl⟩) hHeld ?_
              try simp only [Act.put, List.setIfInBounds_toArray, List.set_cons_zero, List.set_cons_succ]
              refine takeL (i := 7) (v := undef) rfl (by kernel_rfl) (by kernel_rfl) (by kernel_rfl) (fun _ _ _ h => h) (Or.inr ⟨by kernel_rfl, rfl⟩) hHeld ?_
              try simp only [Act.put, List.setIfInBounds_toArray, List.set_cons_zero, List.set_cons_succ]
              refine takeL (i := 8) (v := undef) rfl (by kernel_rfl) (by kernel_rfl) (by kernel_rfl) (fun _ _ _ h => h) (Or.inr ⟨by kernel_rfl, rfl⟩) hHeld ?_
              try simp only [Act.put, List.setIfInBounds_toArray, List.set_cons_zero, List.set_cons_succ]
              refine takeL (i := 9) (v := .bool false) rfl (by kernel_rfl) (by kernel_rfl) (by kernel_rfl) (fun _ _ _ h => h) (Or.inl ⟨by rfl, ?_⟩) hHeld ?_
              · rintro w' _; go_simp; try rfl
              try simp only [Act.put, List.setIfInBounds_toArray, List.set_cons_zero, List.set_cons_succ]
              refine takeL (i := 10) (v := .bool false) rfl (by kernel_rfl) (by kernel_rfl) (by kernel_rfl) (fun _ _ _ h => h) (Or.inl ⟨by rfl, ?_⟩) hHeld ?_
              · rintro w' _; go_simp; try rfl
              try simp only [Act.put, List.setIfInBounds_toArray, List.set_cons_zero, List.set_cons_succ]
              refine takeL (i := 11) (v := undef) rfl (by kernel_rfl) (by kernel_rfl) (by kernel_rfl) (fun _ _ _ h => h) (Or.inr ⟨by kernel_rfl, rfl⟩) hHeld ?_
              try simp only [Act.put, List.setIfInBounds_toArray, List.set_cons_zero, List.set_cons_succ]
              refine takeL (i := 12) (v := undef) rfl (by kernel_rfl) (by kernel_rfl) (by kernel_rfl) (fun _ _ _ h => h) (Or.inr ⟨by kernel_rfl, rfl⟩) hHeld ?_
              try simp only [Act.put, List.setIfInBounds_toArray, List.set_cons_zero, List.set_cons_succ]
              refine takeL (i := 13) (v := undef) rfl (by kernel_rfl) (by kernel_rfl) (by kernel_rfl) (fun _ _ _ h => h) (Or.inr ⟨by kernel_rfl, rfl⟩) hHeld ?_
              try simp only [Act.put, List.setIfInBounds_toArray, List.set_cons_zero, List.set_cons_succ]
              refine takeL (i := 14) (v := undef) rfl (by kernel_rfl) (by kernel_rfl) (by kernel_rfl) (fun _ _ _ h => h) (Or.inr ⟨by kernel_rfl, rfl⟩) hHeld ?_
              try simp only [Act.put, List.setIfInBounds_toArray, List.set_cons_zero, List.set_cons_succ]
              refine takeL (i := 15) (v := undef) rfl (by kernel_rfl) (by kernel_rfl) (by kernel_rfl) (fun _ _ _ h => h) (Or.inr ⟨by kernel_rfl, rfl⟩) hHeld ?_
              try simp only [Act.put, List.setIfInBounds_toArray, List.set_cons_zero, List.set_cons_succ]
              refine takeL (i := 16) (v := undef) rfl (by kernel_rfl) (by kernel_rfl) (by kernel_rfl) (fun _ _ _ h => h) (Or.inr ⟨by kernel_rfl, rfl⟩) hHeld ?_
              try simp only [Act.put, List.setIfInBounds_toArray, List.set_cons_zero, List.set_cons_succ]
              refine takeL (i := 17) (v := undef) rfl (by kernel_rfl) (by kernel_rfl) (by kernel_rfl) (fun _ _ _ h => h) (Or.inr ⟨by kernel_rfl, rfl⟩) hHeld ?_
              try simp only [Act.put, List.setIfInBounds_toArray, List.set_cons_zero, List.set_cons_succ]
              refine takeL (i := 18) (v := undef) rfl (by kernel_rfl) (by kernel_rfl) (by kernel_rfl) (fun _ _ _ h => h) (Or.inr ⟨by kernel_rfl, rfl⟩) hHeld ?_
              try simp only [Act.put, List.setIfInBounds_toArray, List.set_cons_zero, List.set_cons_succ]
              refine takeL (i := 19) (v := undef) rfl (by kernel_rfl) (by kernel_rfl) (by kernel_rfl) (fun _ _ _ h => h) (Or.inr ⟨by kernel_rfl, rfl⟩) hHeld ?_
              try simp only [Act.put, List.setIfInBounds_toArray, List.set_cons_zero, List.set_cons_succ]
              refine takeL (i := 20) (v := .bool false) rfl (by kernel_rfl) (by kernel_rfl) (by kernel_rfl) (fun _ _ _ h => h) (Or.inl ⟨by rfl, ?_⟩) hHeld ?_
              · rintro w' _; go_simp; try rfl
              try simp only [Act.put, List.setIfInBounds_toArray, List.set_cons_zero, List.set_cons_succ]
              refine takeL (i := 21) (v := .bool false) rfl (by kernel_rfl) (by kernel_rfl) (by kernel_rfl) (fun _ _ _ h => h) (Or.inl ⟨by rfl, ?_⟩) hHeld ?_
              · rintro w' _; go_simp; try rfl
              try simp only [Act.put, List.setIfInBounds_toArray, List.set_cons_zero, List.set_cons_succ]
              refine wpAnyH_done (by kernel_rfl) ?_ _
              clear hHeld
              have hbd : Below wd.heap.size wd wd.drew := ⟨rfl, rfl, rfl, Nat.le_refl _, fun _ _ => rfl⟩
              have HBE2 : Hid (BE 52 w4 wd.drew R (.slice la l lc) L) := hid (HBEd.out.carry hbd)
              clear hbd
              go_wp2_with fail
              refine wp_region_held_drew (S := fun _ => True) (by kernel_rfl) trivial (fun hHeld => ?_)
              generalize wd.drew = we at HBE2 ⊢
              refine takeL (i := 0) (v := ?_) rfl (by kernel_rfl) (by kernel_rfl) (by kernel_rfl) (fun _ _ _ h => h) (Or.inl ⟨by rfl, ?_⟩) hHeld ?_
              rotate_left
              · rintro w' _; go_simp; try simp only [hwi, hw14, hw16, hw22, hw24, hw25, hm1, hm0, htn1, htn2, hc01, hc02, hcS1, hcS2, and_self, if_true]
                rfl
              try simp only [Act.put, List.setIfInBounds_toArray, List.set_cons_zero, List.set_cons_succ]
              refine takeL (i := 1) (v := ?_) rfl (by kernel_rfl) (by kernel_rfl) (by kernel_rfl) (fun _ _ _ h => h) (Or.inl ⟨by rfl, ?_⟩) hHeld ?_
              rotate_left
              · rintro w' _; go_simp; try simp only [hwi, hw14, hw16, hw22, hw24, hw25, hm1, hm0, htn1, htn2, hc01, hc02, hcS1, hcS2, and_self, if_true]
                rfl
              try simp only [Act.put, List.setIfInBounds_toArray, List.set_cons_zero, List.set_cons_succ]
              refine takeL (i := 2) (v := ?_) rfl (by kernel_rfl) (by kernel_rfl) (by kernel_rfl) (fun _ _ _ h => h) (Or.inl ⟨by rfl, ?_⟩) hHeld ?_
              rotate_left
              · rintro w' _; go_simp; try simp only [hwi, hw14, hw16, hw22, hw24, hw25, hm1, hm0, htn1, htn2, hc01, hc02, hcS1, hcS2, and_self, if_true]
                rfl
              try simp only [Act.put, List.setIfInBounds_toArray, List.set_cons_zero, List.set_cons_succ]
              refine takeL (i := 3) (v := .bool false) rfl (by kernel_rfl) (by kernel_rfl) (by kernel_rfl) (fun _ _ _ h => h) (Or.inl ⟨by rfl, ?_⟩) hHeld ?_
              · rintro w' _; go_simp; try rfl
              try simp only [Act.put, List.setIfInBounds_toArray, List.set_cons_zero, List.set_cons_succ]
              refine takeL (i := 4) (v := .bool false) rfl (by kernel_rfl) (by kernel_rfl) (by kernel_rfl) (fun _ _ _ h => h) (Or.inl ⟨by rfl, ?_⟩) hHeld ?_
              · rintro w' _; go_simp; try rfl
              try simp only [Act.put, List.setIfInBounds_toArray, List.set_cons_zero, List.set_cons_succ]
              refine takeL (i := 5) (v := ?_) rfl (by kernel_rfl) (by kernel_rfl) (by kernel_rfl) (fun _ _ _ h => h) (Or.inl ⟨by kernel_rfl, ?_⟩) hHeld ?_
              rotate_left
              · rintro w' _; go_simp; try simp only [hwi, hw14, hw16, hw22, hw24, hw25, hm1, hm0, htn1, htn2, hc01, hc02, hcS1, hcS2, and_self, if_true]
                rfl
              try simp only [Act.put, List.setIfInBounds_toArray, List.set_cons_zero, List.set_cons_succ]
              refine takeL (i := 6) (v := ?_) rfl (by kernel_rfl) (by kernel_rfl) (by kernel_rfl) (fun _ _ _ h => h) (Or.inl ⟨by kernel_rfl, ?_⟩) hHeld ?_
              rotate_left
              · rintro w' _; go_simp; try simp only [hwi, hw14, hw16, hw22, hw24, hw25, hm1, hm0, htn1, htn2, hc01, hc02, hcS1, hcS2, and_self, if_true]
                rfl
              try simp only [Act.put, List.setIfInBounds_toArray, List.set_cons_zero, List.set_cons_succ]
              refine takeL (i := 7) (v := ?_) rfl (by kernel_rfl) (by kernel_rfl) (by kernel_rfl) (fun _ _ _ h => h) (Or.inl ⟨by kernel_rfl, ?_⟩) hHeld ?_
              rotate_left
              · rintro w' _; go_simp; try simp only [hwi, hw14, hw16, hw22, hw24, hw25, hm1, hm0, htn1, htn2, hc01, hc02, hcS1, hcS2, and_self, if_true]
                rfl
              try simp only [Act.put, List.setIfInBounds_toArray, List.set_cons_zero, List.set_cons_succ]
              refine takeL (i := 8) (v := .bool false) rfl (by kernel_rfl) (by kernel_rfl) (by kernel_rfl) (fun _ _ _ h => h) (Or.inl ⟨by kernel_rfl, ?_⟩) hHeld ?_
              · rintro w' _; go_simp; try rfl
              try simp only [Act.put, List.setIfInBounds_toArray, List.set_cons_zero, List.set_cons_succ]
              refine takeL (i := 9) (v := .bool false) rfl (by kernel_rfl) (by kernel_rfl) (by kernel_rfl) (fun _ _ _ h => h) (Or.inl ⟨by kernel_rfl, ?_⟩) hHeld ?_
              · rintro w' _; go_simp; try rfl
              try simp only [Act.put, List.setIfInBounds_toArray, List.set_cons_zero, List.set_cons_succ]
              refine takeL (i := 10) (v := undef) rfl (by kernel_rfl) (by kernel_rfl) (by kernel_rfl) (fun _ _ _ h => h) (Or.inr ⟨by kernel_rfl, rfl⟩) hHeld ?_
              try simp only [Act.put, List.setIfInBounds_toArray, List.set_cons_zero, List.set_cons_succ]
              refine takeL (i := 11) (v := undef) rfl (by kernel_rfl) (by kernel_rfl) (by kernel_rfl) (fun _ _ _ h => h) (Or.inr ⟨by kernel_rfl, rfl⟩) hHeld ?_
              try simp only [Act.put, List.setIfInBounds_toArray, List.set_cons_zero, List.set_cons_succ]
              refine takeL (i := 12) (v := undef) rfl (by kernel_rfl) (by kernel_rfl) (by kernel_rfl) (fun _ _ _ h => h) (Or.inr ⟨by kernel_rfl, rfl⟩) hHeld ?_
              try simp only [Act.put, List.setIfInBounds_toArray, List.set_cons_zero, List.set_cons_succ]
              refine takeL (i := 13) (v := undef) rfl (by kernel_rfl) (by kernel_rfl) (by kernel_rfl) (fun _ _ _ h => h) (Or.inr ⟨by kernel_rfl, rfl⟩) hHeld ?_
              try simp only [Act.put, List.setIfInBounds_toArray, List.set_cons_zero, List.set_cons_succ]
              refine takeL (i := 14) (v := undef) rfl (by kernel_rfl) (by kernel_rfl) (by kernel_rfl) (fun _ _ _ h => h) (Or.inr ⟨by kernel_rfl, rfl⟩) hHeld ?_
              try simp only [Act.put, List.setIfInBounds_toArray, List.set_cons_zero, List.set_cons_succ]
              refine takeL (i := 15) (v := undef) rfl (by kernel_rfl) (by kernel_rfl) (by kernel_rfl) (fun _ _ _ h => h) (Or.inr ⟨by kernel_rfl, rfl⟩) hHeld ?_
              try simp only [Act.put, List.setIfInBounds_toArray, List.set_cons_zero, List.set_cons_succ]
              refine takeL (i := 16) (v := undef) rfl (by kernel_rfl) (by kernel_rfl) (by kernel_rfl) (fun _ _ _ h => h) (Or.inr ⟨by kernel_rfl, rfl⟩) hHeld ?_
              try simp only [Act.put, List.setIfInBounds_toArray, List.set_cons_zero, List.set_cons_succ]
              refine takeL (i := 17) (v := undef) rfl (by kernel_rfl) (by kernel_rfl) (by kernel_rfl) (fun _ _ _ h => h) (Or.inr ⟨by kernel_rfl, rfl⟩) hHeld ?_
              try simp only [Act.put, List.setIfInBounds_toArray, List.set_cons_zero, List.set_cons_succ]
              refine takeL (i := 18) (v := undef) rfl (by kernel_rfl) (by kernel_rfl) (by kernel_rfl) (fun _ _ _ h => h) (Or.inr ⟨by kernel_rfl, rfl⟩) hHeld ?_
              try simp only [Act.put, List.setIfInBounds_toArray, List.set_cons_zero, List.set_cons_succ]
              refine takeL (i := 19) (v := undef) rfl (by kernel_rfl) (by kernel_rfl) (by kernel_rfl) (fun _ _ _ h => h) (Or.inr ⟨by kernel_rfl, rfl⟩) hHeld ?_
              try simp only [Act.put, List.setIfInBounds_toArray, List.set_cons_zero, List.set_cons_succ]
              refine takeL (i := 20) (v := undef) rfl (by kernel_rfl) (by kernel_rfl) (by kernel_rfl) (fun _ _ _ h => h) (Or.inr ⟨by kernel_rfl, rfl⟩) hHeld ?_
              try simp only [Act.put, List.setIfInBounds_toArray, List.set_cons_zero, List.set_cons_succ]
              refine takeL (i := 21) (v := undef) rfl (by kernel_rfl) (by kernel_rfl) (by kernel_rfl) (fun _ _ _ h => h) (Or.inr ⟨by kernel_rfl, rfl⟩) hHeld ?_
              try simp only [Act.put, List.setIfInBounds_toArray, List.set_cons_zero, List.set_cons_succ]
              refine takeL (i := 22) (v := undef) rfl (by kernel_rfl) (by kernel_rfl) (by kernel_rfl) (fun _ _ _ h => h) (Or.inr ⟨by kernel_rfl, rfl⟩) hHeld ?_
              try simp only [Act.put, List.setIfInBounds_toArray, List.set_cons_zero, List.set_cons_succ]
              refine takeL (i := 23) (v := undef) rfl (by kernel_rfl) (by kernel_rfl) (by kernel_rfl) (fun _ _ _ h => h) (Or.inr ⟨by kernel_rfl, rfl⟩) hHeld ?_
              try simp only [Act.put, List.setIfInBounds_toArray, List.set_cons_zero, List.set_cons_succ]
              refine takeL (i := 24) (v := undef) rfl (by kernel_rfl) (by kernel_rfl) (by kernel_rfl) (fun _ _ _ h => h) (Or.inr ⟨by kernel_rfl, rfl⟩) hHeld ?_
              try simp only [Act.put, List.setIfInBounds_toArray, List.set_cons_zero, List.set_cons_succ]
              refine takeL (i := 25) (v := undef) rfl (by kernel_rfl) (by kernel_rfl) (by kernel_rfl) (fun _ _ _ h => h) (Or.inr ⟨by kernel_rfl, rfl⟩) hHeld ?_
              try simp only [Act.put, List.setIfInBounds_toArray, List.set_cons_zero, List.set_cons_succ]
              refine takeL (i := 26) (v := undef) rfl (by kernel_rfl) (by kernel_rfl) (by kernel_rfl) (fun _ _ _ h => h) (Or.inr ⟨by kernel_rfl, rfl⟩) hHeld ?_
              try simp only [Act.put, List.setIfInBounds_toArray, List.set_cons_zero, List.set_cons_succ]
              refine takeL (i := 27) (v := undef) rfl (by kernel_rfl) (by kernel_rfl) (by kernel_rfl) (fun _ _ _ h => h) (Or.inr ⟨by kernel_rfl, rfl⟩) hHeld ?_
              try simp only [Act.put, List.setIfInBounds_toArray, List.set_cons_zero, List.set_cons_succ]
              refine takeL (i := 28) (v := undef) rfl (by kernel_rfl) (by kernel_rfl) (by kernel_rfl) (fun _ _ _ h => h) (Or.inr ⟨by kernel_rfl, rfl⟩) hHeld ?_
              try simp only [Act.put, List.setIfInBounds_toArray, List.set_cons_zero, List.set_cons_succ]
              refine takeL (i := 29) (v := .bool false) rfl (by kernel_rfl) (by kernel_rfl) (by kernel_rfl) (fun _ _ _ h => h) (Or.inl ⟨by kernel_rfl, ?_⟩) hHeld ?_
              · rintro w' _; go_simp; try rfl
              try simp only [Act.put, List.setIfInBounds_toArray, List.set_cons_zero, List.set_cons_succ]
              refine takeL (i := 30) (v := .bool false) rfl (by kernel_rfl) (by kernel_rfl) (by kernel_rfl) (fun _ _ _ h => h) (Or.inl ⟨by rfl, ?_⟩) hHeld ?_
              · rintro w' _; go_simp; try rfl
              try simp only [Act.put, List.setIfInBounds_toArray, List.set_cons_zero, List.set_cons_succ]
              refine takeL (i := 31) (v := .bool false) rfl (by kernel_rfl) (by kernel_rfl) (by kernel_rfl) (fun _ _ _ h => h) (Or.inl ⟨by rfl, ?_⟩) hHeld ?_
              · rintro w' _; go_simp; try rfl
              try simp only [Act.put, List.setIfInBounds_toArray, List.set_cons_zero, List.set_cons_succ]
              refine wpAnyH_done (by kernel_rfl) ?_ _
              clear hHeld
              have hcc := HCY.out we HBE2.out.below
              have HED2 : Hid ((L ++ [(2, y)]) ++ ed (A.drop (i)) (B.drop (k + 1)) = E) := hid (by
                have h9 := HED.out
                rw [ed_next_start A B i k (by rw [HNX.out]; omega) (by rw [HNY.out]; exact hkm), HYY.out] at h9
                rw [List.append_assoc]
                exact h9)
              go_wp2_with (first
                | refine wpList_bS rfl 49 1 _ rfl (.agg #[.int .i64 2, .string BY]) _ rfl (HD2.out _) ?_
                | (refine app_edK und29 Try.info52 HBE2.out hLl hl4 2 y 2 rfl BY HBY.out rfl _ _ rfl rfl rfl ?_; intro a' c' w' HB')
                | fail)
              go_roundg ((nx - (i)) + (ny - (k + 1)))
              case measure => omega
              case rel => exact ⟨i, k + 1, l + 1, L ++ [(2, y)], a', c', rfl, by go_num, by go_num, by simp [hLl], by omega, by omega, rfl, HB', HED2⟩
          · have hkmI : ¬ (k : Int) < (ny : Int) := by omega
            have HLE : Hid (L = E) := hid (by
              have h9 := HED.out
              rw [List.drop_of_length_le (by rw [HNX.out]; omega), List.drop_of_length_le (by rw [HNY.out]; omega), ed_nil, List.append_nil] at h9
              exact h9)
            go_wp2
            go_ret
            refine ⟨_, rfl, ?_⟩
            rw [← HLE.out]
            have hbE := HBE.out
            have hbw := HB4.out.trans (hbE.below.mono hgR)
            exact ⟨by rw [HG.out]; exact hbw, base_mono hbE.own (by rw [HG.out]; exact hgR), hbw.size⟩
    | succ i =>
      rw [dn_succ]
      have hiI : (0 : Int) ≤ (i : Int) := by omega
      have HRT1 : Hid (Rg A B (i + 1) ny t) := HRT
      have hmd : (ny : Int) - 1 = dn ny := rfl
      have hid_ : (i : Int) - 1 = dn i := rfl
      obtain ⟨P0, HP0⟩ : ∃ P, Hid (i * q = P) := ⟨_, rfl⟩
      obtain ⟨P1, HP1⟩ : ∃ P, Hid ((i + 1) * q = P) := ⟨_, rfl⟩
      have hm0 : (i : Int) * (q : Int) = (P0 : Int) := by rw [← HP0.out, Int.natCast_mul]
      have hm1 : ((i : Int) + 1) * (q : Int) = (P1 : Int) := by rw [← HP1.out, Int.natCast_mul]; rfl
      have hP01 : P0 + q = P1 := by rw [← HP0.out, ← HP1.out, Nat.add_mul, Nat.one_mul]
      have hP1S : P1 + q ≤ S := by
        have h1 : (i + 1 + 1) * q ≤ p * q := Nat.mul_le_mul_right q (by have := HP.out; omega)
        rw [HS.out, Nat.add_mul, HP1.out, Nat.one_mul] at h1
        exact h1
      have HP01 : Hid (P0 + q = P1) := hP01
      clear hP01
      go_wp2_with fail
      go_loopg [15, 16] ny (fun gg kv bv wr => ∃ (r : Nat) (t : Nat → Nat → Nat) (bv' : Value), bv = bv' ∧ kv = .int .i64 (dn r) ∧ r ≤ ny ∧ gg = r ∧ Hid (Ct T p q w2 wr t) ∧ Hid (Rg A B (i + 1) r t))
      case atStart => exact ⟨ny, t, _, rfl, rfl, Nat.le_refl _, rfl, HCT, HRT1⟩
      case round =>
        obtain ⟨z, t, bv', rfl, rfl, hz, hkk2, HCT, HRT⟩ := hrel
        clear hmd HRT1
        cases z with
        | zero =>
          rw [dn_zero]
          have HRT2 : Hid (Rg A B i ny t) := hid (by have := HRT.out.row; rw [HNY.out] at this; exact this)
          go_wp2
          go_roundg i
          case measure => omega
          case rel => exact ⟨i, t, rfl, by omega, rfl, HCT, HRT2⟩
        | succ k =>
          rw [dn_succ]
          have hkI : (0 : Int) ≤ (k : Int) := by omega
          have hkd : (k : Int) - 1 = dn k := rfl
          have hin : (i : Int) < (nx : Int) := by omega
          have hkm : (k : Int) < (ny : Int) := by omega
          obtain ⟨bx, ox, e1⟩ := HFA.out (by omega)
          cases e1
          obtain ⟨by_, oy, e1⟩ := HFB.out (by omega)
          cases e1
          obtain ⟨x, HXX⟩ : ∃ x, Hid (A.getD i [] = x) := ⟨_, rfl⟩
          obtain ⟨y, HYY⟩ : ∃ x, Hid (B.getD k [] = x) := ⟨_, rfl⟩
          obtain ⟨BX, HBX⟩ : ∃ X, Hid ((⟨x.toArray⟩ : ByteArray) = X) := ⟨_, rfl⟩
          obtain ⟨BY, HBY⟩ : ∃ X, Hid ((⟨y.toArray⟩ : ByteArray) = X) := ⟨_, rfl⟩
          have hip : i < p := by have := HP.out; omega
          have hi1p : i + 1 < p := by have := HP.out; omega
          have hkq : k < q := by have := HQ.out; omega
          have hk1q : k + 1 < q := by have := HQ.out; omega
          obtain ⟨v, HV⟩ : ∃ v, Hid (t (i + 1) k = v) := ⟨_, rfl⟩
          obtain ⟨u, HU⟩ : ∃ v, Hid (t i (k + 1) = v) := ⟨_, rfl⟩
          obtain ⟨z, HZ⟩ : ∃ v, Hid (t (i + 1) (k + 1) = v) := ⟨_, rfl⟩
          have hlc := lcs_eq ([] : Str) A B i k (by rw [HNX.out]; omega) (by rw [HNY.out]; omega)
          rw [HXX.out, HYY.out] at hlc
          have hR := HRT.out
          have hv1 := hR.1 (i + 1) (k + 1) (Nat.le_refl _) (by rw [HNX.out]; omega) (by rw [HNY.out]; omega)
          have hv2 := hR.1 (i + 1) k (Nat.le_refl _) (by rw [HNX.out]; omega) (by rw [HNY.out]; omega)
          have hv3 := hR.2.1 (k + 1) (Nat.le_refl _) (by rw [HNY.out]; omega) (by omega)
          simp only [Nat.add_sub_cancel] at hv3
          have hz4 : z ≤ 2000 := by rw [← HZ.out, hv1]; have := lcs_le (A.drop (i + 1)) (B.drop (k + 1)); rw [List.length_drop, HNX.out] at this; omega
          have hb : ∃ be : Nat, (if x = y then z + 1 else max v u) = be := ⟨_, rfl⟩
          obtain ⟨be, hbe⟩ := hb
          have HBE_ : Hid ((if x = y then z + 1 else max v u) = be) := hbe
          have HRT2 : Hid (Rg A B (i + 1) k (updT t i k be)) := hid (hR.step (by rw [hlc, ← hbe, ← hv1, ← hv2, ← hv3, HV.out, HU.out, HZ.out]))
          clear hlc hR hv1 hv2 hv3 hbe
          have hc1 : wr.cell? ⟨T, P1 + k, none⟩ = some (.int .i64 (v : Int)) := by have h9 := (HCT.out.cell (i + 1) k hi1p hkq).1; rw [HP1.out, HV.out] at h9; exact h9
          have hc2 : wr.cell? ⟨T, P0 + k + 1, none⟩ = some (.int .i64 (u : Int)) := by have h9 := (HCT.out.cell i (k + 1) hip hk1q).1; rw [HP0.out, HU.out] at h9; exact h9
          have HCTd : Hid (Ct T p q w2 wr.drew t) := hid HCT.out.drew
          have HQQ : Hid (Q2 bx (ox + i) by_ (oy + k) BX BY wr.drew) := hid ⟨by rw [← HBX.out, ← HXX.out]; exact PS.str (HPA.out _ HCTd.out.below) i (by rw [HNX.out]; omega), by rw [← HBY.out, ← HYY.out]; exact PS.str (HPB.out _ HCTd.out.below) k (by rw [HNY.out]; omega)⟩
          have hP0S : P0 + q + q ≤ S := by have := HP01.out; omega
          by_cases hxy : x = y
          · have hXY : BX = BY := by rw [← HBX.out, ← HBY.out, hxy]
            subst hXY
            have heq : (BX.toList == BX.toList) = true := by simp
            have hbz : (z : Int) + 1 = (be : Int) := by have := HBE_.out; rw [if_pos hxy] at this; omega
            by_cases huv : v < u
            · have huvI : (v : Int) < (u : Int) := by omega
              as_aux_lemma =>
                go_wp2_with fail
                refine wp_region_held_drew (S := Q2 bx (ox + i) by_ (oy + k) BX BX) (by kernel_rfl) HQQ.out (fun hHeld => ?_)
                generalize wr.drew = wd at hHeld HCTd ⊢
                refine takeL (i := 0) (v := ?_) rfl (by kernel_rfl) (by kernel_rfl) (by kernel_rfl) (fun _ _ _ h => h) (Or.inl ⟨by rfl, ?_⟩) hHeld ?_
                rotate_left
                · rintro w' ⟨s0, s1⟩; go_simp; rfl
                try simp only [Act.put, List.setIfInBounds_toArray, List.set_cons_zero, List.set_cons_succ]
                refine takeL (i := 1) (v := ?_) rfl (by kernel_rfl) (by kernel_rfl) (by kernel_rfl) (fun _ _ _ h => h) (Or.inl ⟨by rfl, ?_⟩) hHeld ?_
                rotate_left
                · rintro w' ⟨s0, s1⟩; go_simp; rfl
                try simp only [Act.put, List.setIfInBounds_toArray, List.set_cons_zero, List.set_cons_succ]
                refine takeL (i := 2) (v := ?_) rfl (by kernel_rfl) (by kernel_rfl) (by kernel_rfl) (fun _ _ _ h => h) (Or.inl ⟨by rfl, ?_⟩) hHeld ?_
                rotate_left
                · rintro w' ⟨s0, s1⟩; go_simp; rfl
                try simp only [Act.put, List.setIfInBounds_toArray, List.set_cons_zero, List.set_cons_succ]
                refine takeL (i := 3) (v := ?_) rfl (by kernel_rfl) (by kernel_rfl) (by kernel_rfl) (fun _ _ _ h => h) (Or.inl ⟨by rfl, ?_⟩) hHeld ?_
                rotate_left
                · rintro w' ⟨s0, s1⟩; go_simp; rfl
                try simp only [Act.put, List.setIfInBounds_toArray, List.set_cons_zero, List.set_cons_succ]
                refine takeL (i := 4) (v := ?_) rfl (by kernel_rfl) (by kernel_rfl) (by kernel_rfl) (fun _ _ _ h => h) (Or.inl ⟨by rfl, ?_⟩) hHeld ?_
                rotate_left
                · rintro w' ⟨s0, s1⟩; go_simp; rfl
                try simp only [Act.put, List.setIfInBounds_toArray, List.set_cons_zero, List.set_cons_succ]
                refine takeL (i := 5) (v := ?_) rfl (by kernel_rfl) (by kernel_rfl) (by kernel_rfl) (fun _ _ _ h => h) (Or.inl ⟨by rfl, ?_⟩) hHeld ?_
                rotate_left
                · rintro w' ⟨s0, s1⟩; go_simp; rfl
                try simp only [Act.put, List.setIfInBounds_toArray, List.set_cons_zero, List.set_cons_succ]
                refine takeL (i := 6) (v := ?_) rfl (by kernel_rfl) (by kernel_rfl) (by kernel_rfl) (fun _ _ _ h => h) (Or.inl ⟨by rfl, ?_⟩) hHeld ?_
                rotate_left
                · rintro w' ⟨s0, s1⟩; go_simp; rfl
                try simp only [Act.put, List.setIfInBounds_toArray, List.set_cons_zero, List.set_cons_succ]
                refine takeL (i := 7) (v := ?_) rfl (by kernel_rfl) (by kernel_rfl) (by kernel_rfl) (fun _ _ _ h => h) (Or.inl ⟨by rfl, ?_⟩) hHeld ?_
                rotate_left
                · rintro w' ⟨s0, s1⟩; go_simp; rfl
                try simp only [Act.put, List.setIfInBounds_toArray, List.set_cons_zero, List.set_cons_succ]
                refine takeL (i := 8) (v := .bool true) rfl (by kernel_rfl) (by kernel_rfl) (by kernel_rfl) (fun _ _ _ h => h) (Or.inl ⟨by rfl, ?_⟩) hHeld ?_
                · rintro w' ⟨s0, s1⟩; go_simp; try rfl
                try simp only [Act.put, List.setIfInBounds_toArray, List.set_cons_zero, List.set_cons_succ]
                refine wpAnyH_done (by kernel_rfl) ?_ _
                clear hHeld HQQ hc1 hc2
                have hc3 : wd.cell? ⟨T, P1 + k + 1, none⟩ = some (.int .i64 (z : Int)) := by have h9 := (HCTd.out.cell (i + 1) (k + 1) hi1p hk1q).1; rw [HP1.out, HZ.out] at h9; exact h9
                obtain ⟨hk4, hf4⟩ := HCTd.out.cell i k hip hkq
                rw [HP0.out] at hk4 hf4
                have HCT3 : Hid (Ct T p q w2 (wd.setCell ⟨T, P0 + k, none⟩ (.int .i64 (be : Int))) (updT t i k be)) := hid (by have h9 := HCTd.out.set i k be hip hkq; rw [HP0.out] at h9; exact h9)
                go_wp2
                go_roundg k
                case measure => omega
                case rel => exact ⟨k, _, _, rfl, rfl, by omega, rfl, HCT3, HRT2⟩
            · have huvI : ¬ (v : Int) < (u : Int) := by omega
              as_aux_lemma =>
                go_wp2_with fail
                refine wp_region_held_drew (S := Q2 bx (ox + i) by_ (oy + k) BX BX) (by kernel_rfl) HQQ.out (fun hHeld => ?_)
                generalize wr.drew = wd at hHeld HCTd ⊢
                refine takeL (i := 0) (v := ?_) rfl (by kernel_rfl) (by kernel_rfl) (by kernel_rfl) (fun _ _ _ h => h) (Or.inl ⟨by rfl, ?_⟩) hHeld ?_
                rotate_left
                · rintro w' ⟨s0, s1⟩; go_simp; rfl
                try simp only [Act.put, List.setIfInBounds_toArray, List.set_cons_zero, List.set_cons_succ]
                refine takeL (i := 1) (v := ?_) rfl (by kernel_rfl) (by kernel_rfl) (by kernel_rfl) (fun _ _ _ h => h) (Or.inl ⟨by rfl, ?_⟩) hHeld ?_
                rotate_left
                · rintro w' ⟨s0, s1⟩; go_simp; rfl
                try simp only [Act.put, List.setIfInBounds_toArray, List.set_cons_zero, List.set_cons_succ]
                refine takeL (i := 2) (v := ?_) rfl (by kernel_rfl) (by kernel_rfl) (by kernel_rfl) (fun _ _ _ h => h) (Or.inl ⟨by rfl, ?_⟩) hHeld ?_
                rotate_left
                · rintro w' ⟨s0, s1⟩; go_simp; rfl
                try simp only [Act.put, List.setIfInBounds_toArray, List.set_cons_zero, List.set_cons_succ]
                refine takeL (i := 3) (v := ?_) rfl (by kernel_rfl) (by kernel_rfl) (by kernel_rfl) (fun _ _ _ h => h) (Or.inl ⟨by rfl, ?_⟩) hHeld ?_
                rotate_left
                · rintro w' ⟨s0, s1⟩; go_simp; rfl
                try simp only [Act.put, List.setIfInBounds_toArray, List.set_cons_zero, List.set_cons_succ]
                refine takeL (i := 4) (v := ?_) rfl (by kernel_rfl) (by kernel_rfl) (by kernel_rfl) (fun _ _ _ h => h) (Or.inl ⟨by rfl, ?_⟩) hHeld ?_
                rotate_left
                · rintro w' ⟨s0, s1⟩; go_simp; rfl
                try simp only [Act.put, List.setIfInBounds_toArray, List.set_cons_zero, List.set_cons_succ]
                refine takeL (i := 5) (v := ?_) rfl (by kernel_rfl) (by kernel_rfl) (by kernel_rfl) (fun _ _ _ h => h) (Or.inl ⟨by rfl, ?_⟩) hHeld ?_
                rotate_left
                · rintro w' ⟨s0, s1⟩; go_simp; rfl
                try simp only [Act.put, List.setIfInBounds_toArray, List.set_cons_zero, List.set_cons_succ]
                refine takeL (i := 6) (v := ?_) rfl (by kernel_rfl) (by kernel_rfl) (by kernel_rfl) (fun _ _ _ h => h) (Or.inl ⟨by rfl, ?_⟩) hHeld ?_
                rotate_left
                · rintro w' ⟨s0, s1⟩; go_simp; rfl
                try simp only [Act.put, List.setIfInBounds_toArray, List.set_cons_zero, List.set_cons_succ]
                refine takeL (i := 7) (v := ?_) rfl (by kernel_rfl) (by kernel_rfl) (by kernel_rfl) (fun _ _ _ h => h) (Or.inl ⟨by rfl, ?_⟩) hHeld ?_
                rotate_left
                · rintro w' ⟨s0, s1⟩; go_simp; rfl
                try simp only [Act.put, List.setIfInBounds_toArray, List.set_cons_zero, List.set_cons_succ]
                refine takeL (i := 8) (v := .bool true) rfl (by kernel_rfl) (by kernel_rfl) (by kernel_rfl) (fun _ _ _ h => h) (Or.inl ⟨by rfl, ?_⟩) hHeld ?_
                · rintro w' ⟨s0, s1⟩; go_simp; try rfl
                try simp only [Act.put, List.setIfInBounds_toArray, List.set_cons_zero, List.set_cons_succ]
                refine wpAnyH_done (by kernel_rfl) ?_ _
                clear hHeld HQQ hc1 hc2
                have hc3 : wd.cell? ⟨T, P1 + k + 1, none⟩ = some (.int .i64 (z : Int)) := by have h9 := (HCTd.out.cell (i + 1) (k + 1) hi1p hk1q).1; rw [HP1.out, HZ.out] at h9; exact h9
                obtain ⟨hk4, hf4⟩ := HCTd.out.cell i k hip hkq
                rw [HP0.out] at hk4 hf4
                have HCT3 : Hid (Ct T p q w2 (wd.setCell ⟨T, P0 + k, none⟩ (.int .i64 (be : Int))) (updT t i k be)) := hid (by have h9 := HCTd.out.set i k be hip hkq; rw [HP0.out] at h9; exact h9)
                go_wp2
                go_roundg k
                case measure => omega
                case rel => exact ⟨k, _, _, rfl, rfl, by omega, rfl, HCT3, HRT2⟩
          · have heq : (BX.toList == BY.toList) = false := bne_txt HBX.out HBY.out hxy
            by_cases huv : v < u
            · have huvI : (v : Int) < (u : Int) := by omega
              have hbu : u = be := by have := HBE_.out; rw [if_neg hxy] at this; omega
              subst hbu
              as_aux_lemma =>
                go_wp2_with fail
                refine wp_region_held_drew (S := Q2 bx (ox + i) by_ (oy + k) BX BY) (by kernel_rfl) HQQ.out (fun hHeld => ?_)
                generalize wr.drew = wd at hHeld HCTd ⊢
                refine takeL (i := 0) (v := ?_) rfl (by kernel_rfl) (by kernel_rfl) (by kernel_rfl) (fun _ _ _ h => h) (Or.inl ⟨by rfl, ?_⟩) hHeld ?_
                rotate_left
                · rintro w' ⟨s0, s1⟩; go_simp; rfl
                try simp only [Act.put, List.setIfInBounds_toArray, List.set_cons_zero, List.set_cons_succ]
                refine takeL (i := 1) (v := ?_) rfl (by kernel_rfl) (by kernel_rfl) (by kernel_rfl) (fun _ _ _ h => h) (Or.inl ⟨by rfl, ?_⟩) hHeld ?_
                rotate_left
                · rintro w' ⟨s0, s1⟩; go_simp; rfl
                try simp only [Act.put, List.setIfInBounds_toArray, List.set_cons_zero, List.set_cons_succ]
                refine takeL (i := 2) (v := ?_) rfl (by kernel_rfl) (by kernel_rfl) (by kernel_rfl) (fun _ _ _ h => h) (Or.inl ⟨by rfl, ?_⟩) hHeld ?_
                rotate_left
                · rintro w' ⟨s0, s1⟩; go_simp; rfl
                try simp only [Act.put, List.setIfInBounds_toArray, List.set_cons_zero, List.set_cons_succ]
                refine takeL (i := 3) (v := ?_) rfl (by kernel_rfl) (by kernel_rfl) (by kernel_rfl) (fun _ _ _ h => h) (Or.inl ⟨by rfl, ?_⟩) hHeld ?_
                rotate_left
                · rintro w' ⟨s0, s1⟩; go_simp; rfl
                try simp only [Act.put, List.setIfInBounds_toArray, List.set_cons_zero, List.set_cons_succ]
                refine takeL (i := 4) (v := ?_) rfl (by kernel_rfl) (by kernel_rfl) (by kernel_rfl) (fun _ _ _ h => h) (Or.inl ⟨by rfl, ?_⟩) hHeld ?_
                rotate_left
                · rintro w' ⟨s0, s1⟩; go_simp; rfl
                try simp only [Act.put, List.setIfInBounds_toArray, List.set_cons_zero, List.set_cons_succ]
                refine takeL (i := 5) (v := ?_) rfl (by kernel_rfl) (by kernel_rfl) (by kernel_rfl) (fun _ _ _ h => h) (Or.inl ⟨by rfl, ?_⟩) hHeld ?_
                rotate_left
                · rintro w' ⟨s0, s1⟩; go_simp; rfl
                try simp only [Act.put, List.setIfInBounds_toArray, List.set_cons_zero, List.set_cons_succ]
                refine takeL (i := 6) (v := ?_) rfl (by kernel_rfl) (by kernel_rfl) (by kernel_rfl) (fun _ _ _ h => h) (Or.inl ⟨by rfl, ?_⟩) hHeld ?_
                rotate_left
                · rintro w' ⟨s0, s1⟩; go_simp; rfl
                try simp only [Act.put, List.setIfInBounds_toArray, List.set_cons_zero, List.set_cons_succ]
                refine takeL (i := 7) (v := ?_) rfl (by kernel_rfl) (by kernel_rfl) (by kernel_rfl) (fun _ _ _ h => h) (Or.inl ⟨by rfl, ?_⟩) hHeld ?_
                rotate_left
                · rintro w' ⟨s0, s1⟩; go_simp; rfl
                try simp only [Act.put, List.setIfInBounds_toArray, List.set_cons_zero, List.set_cons_succ]
                refine takeL (i := 8) (v := .bool false) rfl (by kernel_rfl) (by kernel_rfl) (by kernel_rfl) (fun _ _ _ h => h) (Or.inl ⟨by rfl, ?_⟩) hHeld ?_
                · rintro w' ⟨s0, s1⟩; go_simp; try rfl
                try simp only [Act.put, List.setIfInBounds_toArray, List.set_cons_zero, List.set_cons_succ]
                refine wpAnyH_done (by kernel_rfl) ?_ _
                clear hHeld HQQ hc1 hc2
                have hc3 : wd.cell? ⟨T, P1 + k + 1, none⟩ = some (.int .i64 (z : Int)) := by have h9 := (HCTd.out.cell (i + 1) (k + 1) hi1p hk1q).1; rw [HP1.out, HZ.out] at h9; exact h9
                obtain ⟨hk4, hf4⟩ := HCTd.out.cell i k hip hkq
                rw [HP0.out] at hk4 hf4
                have HCT3 : Hid (Ct T p q w2 (wd.setCell ⟨T, P0 + k, none⟩ (.int .i64 (u : Int))) (updT t i k u)) := hid (by have h9 := HCTd.out.set i k u hip hkq; rw [HP0.out] at h9; exact h9)
                go_wp2
                go_roundg k
                case measure => omega
                case rel => exact ⟨k, _, _, rfl, rfl, by omega, rfl, HCT3, HRT2⟩
            · have huvI : ¬ (v : Int) < (u : Int) := by omega
              have hbv : v = be := by have := HBE_.out; rw [if_neg hxy] at this; omega
              subst hbv
              as_aux_lemma =>
                go_wp2_with fail
                refine wp_region_held_drew (S := Q2 bx (ox + i) by_ (oy + k) BX BY) (by kernel_rfl) HQQ.out (fun hHeld => ?_)
                generalize wr.drew = wd at hHeld HCTd ⊢
                refine takeL (i := 0) (v := ?_) rfl (by kernel_rfl) (by kernel_rfl) (by kernel_rfl) (fun _ _ _ h => h) (Or.inl ⟨by rfl, ?_⟩) hHeld ?_
                rotate_left
                · rintro w' ⟨s0, s1⟩; go_simp; rfl
                try simp only [Act.put, List.setIfInBounds_toArray, List.set_cons_zero, List.set_cons_succ]
                refine takeL (i := 1) (v := ?_) rfl (by kernel_rfl) (by kernel_rfl) (by kernel_rfl) (fun _ _ _ h => h) (Or.inl ⟨by rfl, ?_⟩) hHeld ?_
                rotate_left
                · rintro w' ⟨s0, s1⟩; go_simp; rfl
                try simp only [Act.put, List.setIfInBounds_toArray, List.set_cons_zero, List.set_cons_succ]
                refine takeL (i := 2) (v := ?_) rfl (by kernel_rfl) (by kernel_rfl) (by kernel_rfl) (fun _ _ _ h => h) (Or.inl ⟨by rfl, ?_⟩) hHeld ?_
                rotate_left
                · rintro w' ⟨s0, s1⟩; go_simp; rfl
                try simp only [Act.put, List.setIfInBounds_toArray, List.set_cons_zero, List.set_cons_succ]
                refine takeL (i := 3) (v := ?_) rfl (by kernel_rfl) (by kernel_rfl) (by kernel_rfl) (fun _ _ _ h => h) (Or.inl ⟨by rfl, ?_⟩) hHeld ?_
                rotate_left
                · rintro w' ⟨s0, s1⟩; go_simp; rfl
                try simp only [Act.put, List.setIfInBounds_toArray, List.set_cons_zero, List.set_cons_succ]
                refine takeL (i := 4) (v := ?_) rfl (by kernel_rfl) (by kernel_rfl) (by kernel_rfl) (fun _ _ _ h => h) (Or.inl ⟨by rfl, ?_⟩) hHeld ?_
                rotate_left
                · rintro w' ⟨s0, s1⟩; go_simp; rfl
                try simp only [Act.put, List.setIfInBounds_toArray, List.set_cons_zero, List.set_cons_succ]
                refine takeL (i := 5) (v := ?_) rfl (by kernel_rfl) (by kernel_rfl) (by kernel_rfl) (fun _ _ _ h => h) (Or.inl ⟨by rfl, ?_⟩) hHeld ?_
                rotate_left
                · rintro w' ⟨s0, s1⟩; go_simp; rfl
                try simp only [Act.put, List.setIfInBounds_toArray, List.set_cons_zero, List.set_cons_succ]
                refine takeL (i := 6) (v := ?_) rfl (by kernel_rfl) (by kernel_rfl) (by kernel_rfl) (fun _ _ _ h => h) (Or.inl ⟨by rfl, ?_⟩) hHeld ?_
                rotate_left
                · rintro w' ⟨s0, s1⟩; go_simp; rfl
                try simp only [Act.put, List.setIfInBounds_toArray, List.set_cons_zero, List.set_cons_succ]
                refine takeL (i := 7) (v := ?_) rfl (by kernel_rfl) (by kernel_rfl) (by kernel_rfl) (fun _ _ _ h => h) (Or.inl ⟨by rfl, ?_⟩) hHeld ?_
                rotate_left
                · rintro w' ⟨s0, s1⟩; go_simp; rfl
                try simp only [Act.put, List.setIfInBounds_toArray, List.set_cons_zero, List.set_cons_succ]
                refine takeL (i := 8) (v := .bool false) rfl (by kernel_rfl) (by kernel_rfl) (by kernel_rfl) (fun _ _ _ h => h) (Or.inl ⟨by rfl, ?_⟩) hHeld ?_
                · rintro w' ⟨s0, s1⟩; go_simp; try rfl
                try simp only [Act.put, List.setIfInBounds_toArray, List.set_cons_zero, List.set_cons_succ]
                refine wpAnyH_done (by kernel_rfl) ?_ _
                clear hHeld HQQ hc1 hc2
                have hc3 : wd.cell? ⟨T, P1 + k + 1, none⟩ = some (.int .i64 (z : Int)) := by have h9 := (HCTd.out.cell (i + 1) (k + 1) hi1p hk1q).1; rw [HP1.out, HZ.out] at h9; exact h9
                obtain ⟨hk4, hf4⟩ := HCTd.out.cell i k hip hkq
                rw [HP0.out] at hk4 hf4
                have HCT3 : Hid (Ct T p q w2 (wd.setCell ⟨T, P0 + k, none⟩ (.int .i64 (v : Int))) (updT t i k v)) := hid (by have h9 := HCTd.out.set i k v hip hkq; rw [HP0.out] at h9; exact h9)
                go_wp2
                go_roundg k
                case measure => omega
                case rel => exact ⟨k, _, _, rfl, rfl, by omega, rfl, HCT3, HRT2⟩
end Go.Proofs.Ytakddciegnkpdaa
