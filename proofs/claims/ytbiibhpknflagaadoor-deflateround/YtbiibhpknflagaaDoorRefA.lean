/- The document's own reader: its stream, and 'fail'. -/
import Derived.Test.YtbiibhpknflagaaDoorTail
import Derived.Test.YtbiibhpknflagaaDoorOutA
namespace Go.Proofs.YtbiibhpknflagaaDoor
open Go.RowKit Plain
set_option linter.unusedVariables false
set_option linter.unusedSimpArgs false

structure REnv where
  S : Nat
  ib : Nat
  io : Nat
  cap : Nat
  ao : Option Addr
  zs : List Int
  most : Int
/-- Its six cells: where it is (in bits), what came out, how far back, what went wrong. -/
structure RS (w : World) (E : REnv) (p : Nat) (v : Value) (far er : Int) : Prop where
  c0 : w.cell? ⟨E.S, 0, none⟩ = some (.slice E.ao E.zs.length E.cap)
  c1 : w.cell? ⟨E.S, 1, none⟩ = some (.int .i64 p)
  c2 : w.cell? ⟨E.S, 2, none⟩ = some v
  c3 : w.cell? ⟨E.S, 3, none⟩ = some (.int .i64 E.most)
  c4 : w.cell? ⟨E.S, 4, none⟩ = some (.int .i64 far)
  c5 : w.cell? ⟨E.S, 5, none⟩ = some (.int .i64 er)
  fz : ∀ i, w.frozen? ⟨E.S, i, none⟩ = false
  src : At w E.ib E.io E.zs
  some : E.zs ≠ [] → E.ao = some ⟨E.ib, E.io, none⟩
  ibS : E.ib ≠ E.S
  ibv : E.zs ≠ [] → Option.some E.ib ≠ v.ownBlock
  ibl : E.zs ≠ [] → E.ib < w.heap.size
  Sl : E.S < w.heap.size
  Sv : Option.some E.S ≠ v.ownBlock
theorem RS.drewN {w : World} {E : REnv} {p : Nat} {v : Value} {far er : Int} (h : RS w E p v far er) (q : Nat) : RS (w.drewN q) E p v far er :=
  ⟨h.c0, h.c1, h.c2, h.c3, h.c4, h.c5, h.fz, h.src, h.some, h.ibS, h.ibv, h.ibl, h.Sl, h.Sv⟩
theorem RS.set5 {w : World} {E : REnv} {p : Nat} {v : Value} {far er : Int} (h : RS w E p v far er) (e : Int) : RS (w.setCell ⟨E.S, 5, none⟩ (.int .i64 e)) E p v far e :=
  ⟨(cell_set_ne _ (by omega)).trans h.c0, (cell_set_ne _ (by omega)).trans h.c1, (cell_set_ne _ (by omega)).trans h.c2, (cell_set_ne _ (by omega)).trans h.c3, (cell_set_ne _ (by omega)).trans h.c4, World.cell?_setCell_same _ _ _ h.c5,
    (fun i => by rw [World.frozen?_setCell]; exact h.fz i), src_set h.src h.ibS _, h.some, h.ibS, h.ibv, (fun hn => by simp [World.setCell]; exact h.ibl hn), by simp [World.setCell]; exact h.Sl, h.Sv⟩
theorem RS.set1 {w : World} {E : REnv} {p : Nat} {v : Value} {far er : Int} (h : RS w E p v far er) {m : Int} (q : Nat) (hm : m = q) : RS (w.setCell ⟨E.S, 1, none⟩ (.int .i64 m)) E q v far er := by
  subst hm
  exact ⟨(cell_set_ne _ (by omega)).trans h.c0, World.cell?_setCell_same _ _ _ h.c1, (cell_set_ne _ (by omega)).trans h.c2, (cell_set_ne _ (by omega)).trans h.c3, (cell_set_ne _ (by omega)).trans h.c4, (cell_set_ne _ (by omega)).trans h.c5,
    (fun i => by rw [World.frozen?_setCell]; exact h.fz i), src_set h.src h.ibS _, h.some, h.ibS, h.ibv, (fun hn => by simp [World.setCell]; exact h.ibl hn), by simp [World.setCell]; exact h.Sl, h.Sv⟩

/-- The first error counts. -/
def first (er e : Int) : Int := if er = 0 then e else er
theorem fail_any (E : REnv) (p : Nat) (v : Value) (far er e : Int) (w : World) (h : RS w E p v far er) :
    Calls Tryd.prog 38 #[.pointer (some ⟨E.S, 0, none⟩), .int .i64 e] w fun ev w' => ev = .returned (.tuple #[]) ∧ RS w' E p v far (first er e) ∧ Kept E.S (.bool true) (.bool true) w w' := by
  have c5 := h.c5
  have f5 := h.fz 5
  have HH : Hid (RS w E p v far er) := h
  clear h
  go_enter Tryd.func38, Tryd.ntmps38
  by_cases h0 : er = 0
  · have hf : first er e = e := by unfold first; rw [if_pos h0]
    rw [hf]
    subst h0
    go_wp2
    go_end0
    exact ⟨rfl, HH.out.set5 e, (Kept.refl _ _ _).set 5 _⟩
  · have hf : first er e = er := by unfold first; rw [if_neg h0]
    rw [hf]
    go_wp2
    go_end0
    exact ⟨rfl, HH.out, Kept.refl _ _ _⟩
end Go.Proofs.YtbiibhpknflagaaDoor
/- The document's own reader: 'bits'. -/
namespace Go.Proofs.YtbiibhpknflagaaDoor
open Go.RowKit Plain
set_option linter.unusedVariables false
set_option linter.unusedSimpArgs false

theorem bit_at (zs : List Int) (hz : IsB zs) (p : Nat) (hp : p < 8 * zs.length) : (zs.getD (p / 8) 0).toNat / 2 ^ (p % 8) % 2 = getB zs p 1 := by
  have hi : p / 8 < zs.length := by omega
  have h1 := getB_byte zs (p / 8) hi hz
  have h2 := getB_div zs (8 * (p / 8)) 8 (p % 8) (by omega)
  have h3 := getB_mod zs p (8 - p % 8) 1 (by omega)
  rw [show 8 * (p / 8) + p % 8 = p by omega] at h2
  rw [List.getD_eq_getElem?_getD, List.getElem?_eq_getElem hi, Option.getD_some, ← h1, h2]
  exact h3
theorem and_one (a : Nat) (ha : a < 9223372036854775808) : bits .and .i64 (a : Int) 1 = ((a % 2 : Nat) : Int) := by
  have := i64_and_nat a 1 ha (by omega)
  rw [Nat.and_one_is_mod] at this
  exact this

theorem sum_in (a b j : Nat) (ha : a ≤ 65536) (hb : b ≤ 1) (hP : 2 ^ j ≤ 65536) : wrap64 ((a : Int) + wrap64 ((b : Int) * 2 ^ j)) = ((a + 2 ^ j * b : Nat) : Int) := by
  have e : ((2 : Int) ^ j) = ((2 ^ j : Nat) : Int) := by push_cast; rfl
  rw [e]
  generalize 2 ^ j = P at hP ⊢
  have hc : b = 0 ∨ b = 1 := by omega
  rcases hc with rfl | rfl
  · unfold wrap64; simp; omega
  · unfold wrap64; simp; omega
theorem bit_in (zs : List Int) (hz : IsB zs) (p j u x : Nat) (hx : x = (zs.getD ((p + j) / 8) 0).toNat) (hu : u = getB zs p j) (hp : p + j < 8 * zs.length) (hj : j < 16) (hx2 : x ≤ 255) (t : Nat) (ht : t = p + j) :
    wrap64 ((u : Int) + wrap64 (bits .and .i64 (wrap64 (x : Int) / 2 ^ (t % 8)) 1 * 2 ^ j)) = ((getB zs p (j + 1) : Nat) : Int) := by
  subst ht
  have h1 : wrap64 (x : Int) = x := by rw [wrap64_eq]; exact Plain.wrap_small x (by omega)
  have h2 : (x : Int) / 2 ^ ((p + j) % 8) = ((x / 2 ^ ((p + j) % 8) : Nat) : Int) := by push_cast; rfl
  have h3 : x / 2 ^ ((p + j) % 8) ≤ x := Nat.div_le_self _ _
  have h4 := bit_at zs hz (p + j) hp
  rw [← hx] at h4
  have hb := getB_lt zs (p + j) 1
  have hu2 := getB_lt zs p j
  have hp2 := pow_le_16 (n := j) (by omega)
  rw [h1, h2, and_one _ (by omega), h4, getB_add zs p j 1, hu]
  exact sum_in (getB zs p j) (getB zs (p + j) 1) j (by omega) (by omega) hp2
set_option maxRecDepth 20000 in
set_option maxHeartbeats 1000000 in
theorem bits_ok (E : REnv) (p n : Nat) (v : Value) (far er : Int) (w : World) (hz : IsB E.zs) (hl : E.zs.length ≤ 400000) (hn : n ≤ 16) (h : RS w E p v far er) (hpn : p + n ≤ 8 * E.zs.length) :
    Calls Tryd.prog 37 #[.pointer (some ⟨E.S, 0, none⟩), .int .i64 n] w fun e w' => e = .returned (.int .i64 (getB E.zs p n : Nat)) ∧ RS w' E (p + n) v far er ∧ Kept E.S (.bool true) (.bool true) w w' := by
  go_enter Tryd.func37, Tryd.ntmps37
  go_wp2
  go_loopg [5, 6] n (fun k s i wr => ∃ (j u : Nat), j ≤ n ∧ i = .int .i64 j ∧ s = .int .i64 u ∧ k = n - j ∧ Hid (u = getB E.zs p j) ∧ Hid (RS wr E (p + j) v far er) ∧ Hid (Kept E.S (.bool true) (.bool true) w wr))
  case atStart => exact ⟨0, 0, by omega, rfl, rfl, by omega, by show 0 = _; rw [getB_zero], h, Kept.refl _ _ _⟩
  case round =>
    clear h
    obtain ⟨j, u, hj, rfl, rfl, hk, HU, HS, HK⟩ := hrel
    obtain ⟨c0, c1, c2, c3, c4, c5, fz, src, som, ibS, ibv, ibl, Sl, Sv⟩ := HS.out
    by_cases hjn : j < n
    · have hne : E.zs ≠ [] := by intro e; rw [e] at hpn; simp at hpn; omega
      rw [som hne] at c0
      obtain ⟨t, HT⟩ : ∃ t, Hid (t = p + j) := ⟨_, rfl⟩
      rw [← HT.out] at c1
      have ht := HT.out
      obtain ⟨q, HQ⟩ : ∃ q, Hid (q = t / 8) := ⟨_, rfl⟩
      have hq := HQ.out
      have hql : q < E.zs.length := by omega
      obtain ⟨x, HX⟩ : ∃ x : Nat, Hid (x = (E.zs.getD q 0).toNat) := ⟨_, rfl⟩
      have hx0 := hz.get q
      have hcx : wr.cell? ⟨E.ib, E.io + q, none⟩ = some (.int .u8 (x : Int)) := by
        rw [src q hql, HX.out, List.getD_eq_getElem?_getD]
        rw [Int.toNat_of_nonneg hx0.1]
      have f1 := fz 1
      have hdv : (t : Int).tdiv 8 = (q : Int) := by rw [Int.tdiv_eq_ediv_of_nonneg (by omega)]; omega
      have hlt8 : ¬ (8 * (E.zs.length : Int) ≤ t) := by omega
      have hmd : (t : Int).tmod 8 = ((t % 8 : Nat) : Int) := by rw [Int.tmod_eq_emod_of_nonneg (by omega)]; omega
      have hwl : IntKind.i64.wrap (8 * (E.zs.length : Int)) = 8 * (E.zs.length : Int) := by rw [IntKind.wrap_i64]; omega
      clear ht hq som ibv ibl src
      go_wp2
      go_quiet (fail)
      go_wp2
      go_quiet (fail)
      go_wp2
      go_roundg (n - (j + 1))
      case measure => omega
      case rel =>
        refine ⟨j + 1, getB E.zs p (j + 1), by omega, by go_num, congrArg (Value.int .i64) ?_, rfl, (show getB E.zs p (j + 1) = _ from rfl), ?_, (HK.out.drewN _).set 1 _⟩
        · have hx255 : x ≤ 255 := by rw [HX.out, List.getD_eq_getElem?_getD]; omega
          exact bit_in E.zs hz p j u x (by rw [HX.out, HQ.out, HT.out]) HU.out (by omega) (by omega) hx255 t HT.out
        · have hS := HS.out
          rw [← HT.out] at hS
          rw [← Nat.add_assoc, ← HT.out]
          exact (hS.drewN _).set1 (t + 1) (by simp)
    · obtain rfl : j = n := by omega
      have HU2 := HU.out
      go_wp2
      go_ret
      exact ⟨ret_i64 (by rw [HU2]), HS.out, HK.out⟩
end Go.Proofs.YtbiibhpknflagaaDoor
/- The document's own reader: 'bits', too few of them. -/
namespace Go.Proofs.YtbiibhpknflagaaDoor
open Go.RowKit Plain
set_option linter.unusedVariables false
set_option linter.unusedSimpArgs false

theorem hid' {p : Prop} (h : p) : Hid p := h
set_option maxRecDepth 20000 in
set_option maxHeartbeats 1000000 in
theorem bits_bad (E : REnv) (p n : Nat) (v : Value) (far er : Int) (w : World) (hz : IsB E.zs) (hl : E.zs.length ≤ 400000) (hn : n ≤ 16) (h : RS w E p v far er) (hp0 : p ≤ 8 * E.zs.length) (hpn : 8 * E.zs.length < p + n) :
    Calls Tryd.prog 37 #[.pointer (some ⟨E.S, 0, none⟩), .int .i64 n] w fun e w' => e = .returned (.int .i64 0) ∧ RS w' E (8 * E.zs.length) v far (first er 10) ∧ Kept E.S (.bool true) (.bool true) w w' := by
  go_enter Tryd.func37, Tryd.ntmps37
  go_wp2
  go_loopg [5, 6] n (fun k s i wr => ∃ (j u : Nat), p + j ≤ 8 * E.zs.length ∧ i = .int .i64 j ∧ s = .int .i64 u ∧ k = n - j ∧ Hid (u = getB E.zs p j) ∧ Hid (RS wr E (p + j) v far er) ∧ Hid (Kept E.S (.bool true) (.bool true) w wr))
  case atStart => exact ⟨0, 0, by omega, rfl, rfl, by omega, by show 0 = _; rw [getB_zero], h, Kept.refl _ _ _⟩
  case round =>
    clear h
    obtain ⟨j, u, hj, rfl, rfl, hk, HU, HS, HK⟩ := hrel
    obtain ⟨c0, c1, c2, c3, c4, c5, fz, src, som, ibS, ibv, ibl, Sl, Sv⟩ := HS.out
    by_cases hjn : p + j < 8 * E.zs.length
    · have hne : E.zs ≠ [] := by intro e; rw [e] at hjn; simp at hjn
      have hjI : (j : Int) < n := by omega
      rw [som hne] at c0
      obtain ⟨t, HT⟩ : ∃ t, Hid (t = p + j) := ⟨_, rfl⟩
      rw [← HT.out] at c1
      have ht := HT.out
      obtain ⟨q, HQ⟩ : ∃ q, Hid (q = t / 8) := ⟨_, rfl⟩
      have hq := HQ.out
      have hql : q < E.zs.length := by omega
      obtain ⟨x, HX⟩ : ∃ x : Nat, Hid (x = (E.zs.getD q 0).toNat) := ⟨_, rfl⟩
      have hx0 := hz.get q
      have hcx : wr.cell? ⟨E.ib, E.io + q, none⟩ = some (.int .u8 (x : Int)) := by
        rw [src q hql, HX.out, List.getD_eq_getElem?_getD]
        rw [Int.toNat_of_nonneg hx0.1]
      have f1 := fz 1
      have hdv : (t : Int).tdiv 8 = (q : Int) := by rw [Int.tdiv_eq_ediv_of_nonneg (by omega)]; omega
      have hlt8 : ¬ (8 * (E.zs.length : Int) ≤ t) := by omega
      have hmd : (t : Int).tmod 8 = ((t % 8 : Nat) : Int) := by rw [Int.tmod_eq_emod_of_nonneg (by omega)]; omega
      have hwl : IntKind.i64.wrap (8 * (E.zs.length : Int)) = 8 * (E.zs.length : Int) := by rw [IntKind.wrap_i64]; omega
      clear ht hq som ibv ibl src
      go_wp2
      go_quiet (fail)
      go_wp2
      go_quiet (fail)
      go_wp2
      go_roundg (n - (j + 1))
      case measure => omega
      case rel =>
        refine ⟨j + 1, getB E.zs p (j + 1), by omega, by go_num, congrArg (Value.int .i64) ?_, rfl, (show getB E.zs p (j + 1) = _ from rfl), ?_, (HK.out.drewN _).set 1 _⟩
        · have hx255 : x ≤ 255 := by rw [HX.out, List.getD_eq_getElem?_getD]; omega
          exact bit_in E.zs hz p j u x (by rw [HX.out, HQ.out, HT.out]) HU.out (by omega) (by omega) hx255 t HT.out
        · have hS := HS.out
          rw [← HT.out] at hS
          rw [← Nat.add_assoc, ← HT.out]
          exact (hS.drewN _).set1 (t + 1) (by simp)
    · have hpe : p + j = 8 * E.zs.length := by omega
      rw [hpe] at c1
      have HS2 : Hid (RS wr E (8 * E.zs.length) v far er) := hid' (by have := HS.out; rwa [hpe] at this)
      have hjI : (j : Int) < n := by omega
      have hwl : IntKind.i64.wrap (8 * (E.zs.length : Int)) = 8 * (E.zs.length : Int) := by rw [IntKind.wrap_i64]; omega
      obtain ⟨L8, HL8⟩ : ∃ L8, Hid (L8 = 8 * E.zs.length) := ⟨_, rfl⟩
      rw [← HL8.out] at c1
      have hge : (8 * (E.zs.length : Int)) ≤ (L8 : Int) := by have := HL8.out; omega
      clear som ibv ibl src
      go_wp2
      go_quiet (fail)
      go_wp2_with (go_at_call 38; refine (fail_any E _ v far er 10 _ (HS2.out.drewN _)).mono ?_; rintro ev w' ⟨rfl, hR, hK⟩)
      go_ret
      exact ⟨rfl, hR, (HK.out.drewN _).trans hK⟩
end Go.Proofs.YtbiibhpknflagaaDoor
/- The document's own reader: 'put'. -/
namespace Go.Proofs.YtbiibhpknflagaaDoor
open Go.RowKit Plain
set_option linter.unusedVariables false
set_option linter.unusedSimpArgs false

/-- 'put' where something has gone wrong already: nothing. -/
theorem put_err (E : REnv) (p : Nat) (v : Value) (far er : Int) (b : Int) (w : World) (h : RS w E p v far er) (he : er ≠ 0) :
    Calls Tryd.prog 65 #[.pointer (some ⟨E.S, 0, none⟩), .int .u8 b] w fun ev w' => ev = .returned (.tuple #[]) ∧ w' = w := by
  have c5 := h.c5
  clear h
  go_enter Tryd.func65, Tryd.ntmps65
  go_wp2
  exact bodyPost_ret (results_none (by rfl) _ _ _) rfl ⟨rfl, rfl⟩
/-- 'put' where there is no room. -/
theorem put_long (E : REnv) (p : Nat) (a : Option Addr) (n cp : Nat) (far : Int) (b : Int) (w : World) (h : RS w E p (.slice a n cp) far 0) (hn : n ≤ 400000) (hm : E.most ≤ n) :
    Calls Tryd.prog 65 #[.pointer (some ⟨E.S, 0, none⟩), .int .u8 b] w fun ev w' => ev = .returned (.tuple #[]) ∧ RS w' E p (.slice a n cp) far 11 ∧ Kept E.S (.bool true) (.bool true) w w' := by
  have c2 := h.c2
  have c3 := h.c3
  have c5 := h.c5
  have f5 := h.fz 5
  have HH : Hid (RS w E p (.slice a n cp) far 0) := h
  clear h
  go_enter Tryd.func65, Tryd.ntmps65
  go_wp2
  go_quiet (fail)
  go_wp2
  exact bodyPost_ret (results_none (by rfl) _ _ _) rfl ⟨rfl, (HH.out.drewN _).set5 11, ((Kept.refl _ _ _).drewN _).set 5 _⟩
theorem rs_grow {w wx w3 : World} {E : REnv} {p : Nat} {v : Value} {far er : Int} (h : RS w E p v far er) (hx : w.grownBy wx none) (hg : wx.grownBy w3 v.ownBlock) (vn : Value) (gn : Nat) (hvn : vn.ownBlock = some gn)
    (hat : v.ownBlock = some gn ∨ gn = wx.heap.size) : RS (w3.setCell ⟨E.S, 2, none⟩ vn) E p vn far er ∧ Kept E.S v vn w (w3.setCell ⟨E.S, 2, none⟩ vn) := by
  have hs1 := hx.size
  have hs2 := hg.size
  have hS := h.Sl
  have blk : ∀ k, k < w.heap.size → some k ≠ v.ownBlock → w3.heap[k]? = w.heap[k]? := fun k hk hne =>
    (hg.block k (by omega) hne).trans (hx.block k hk (by simp))
  have cellS : ∀ i, w3.cell? ⟨E.S, i, none⟩ = w.cell? ⟨E.S, i, none⟩ := fun i => World.cell?_of_block (a := ⟨E.S, i, none⟩) (blk E.S hS h.Sv)
  have frS : ∀ i, w3.frozen? ⟨E.S, i, none⟩ = w.frozen? ⟨E.S, i, none⟩ := fun i => World.frozen?_of_block (a := ⟨E.S, i, none⟩) (blk E.S hS h.Sv)
  have offn : ∀ k, k < w.heap.size → some k ≠ v.ownBlock → some k ≠ vn.ownBlock := fun k hk hne e => by
    rw [hvn] at e
    rcases hat with e' | e'
    · exact hne (e.trans e'.symm)
    · simp only [Option.some.injEq] at e; omega
  have srcs : At w3 E.ib E.io E.zs := fun j hj => by
    have hne : E.zs ≠ [] := by intro e; rw [e] at hj; simp at hj
    rw [World.cell?_of_block (a := ⟨E.ib, E.io + j, none⟩) (blk E.ib (h.ibl hne) (h.ibv hne))]; exact h.src j hj
  refine ⟨⟨?_, ?_, ?_, ?_, ?_, ?_, ?_, src_set srcs h.ibS _, h.some, h.ibS, fun hne => offn _ (h.ibl hne) (h.ibv hne), fun hne => ?_, ?_, offn _ hS h.Sv⟩, ?_⟩
  · rw [cell_set_ne _ (by omega), cellS]; exact h.c0
  · rw [cell_set_ne _ (by omega), cellS]; exact h.c1
  · exact World.cell?_setCell_same _ _ _ ((cellS 2).trans h.c2)
  · rw [cell_set_ne _ (by omega), cellS]; exact h.c3
  · rw [cell_set_ne _ (by omega), cellS]; exact h.c4
  · rw [cell_set_ne _ (by omega), cellS]; exact h.c5
  · intro i; rw [World.frozen?_setCell, frS]; exact h.fz i
  · have := h.ibl hne; simp [World.setCell]; omega
  · simp [World.setCell]; omega
  · refine ⟨hg.os.trans hx.os, hg.tape.trans hx.tape, hg.output.trans hx.output, ?_, fun k h1 h2 h3 => (Below.heap_setCell w3 _ vn k h2).trans (blk k h1 h3), ?_⟩
    · simp [World.setCell]; omega
    · rcases hat with e | e
      · exact .inl (hvn.trans e.symm)
      · exact .inr fun k hk => by rw [hvn] at hk; simp only [Option.some.injEq] at hk; omega
set_option maxRecDepth 20000 in
set_option maxHeartbeats 1000000 in
theorem put_ok (E : REnv) (p B : Nat) (a : Option Addr) (cp : Nat) (far : Int) (b : Int) (out : List Int) (w : World) (h : RS w E p (.slice a (out.length : Nat) cp) far 0) (hown : w.ownsRow B 5 1 (.slice a (out.length : Nat) cp) out.length (out.map (Value.int .u8))) (hB : B ≤ w.heap.size) (hn : out.length ≤ 400000) (hm : (out.length : Int) < E.most) :
    Calls Tryd.prog 65 #[.pointer (some ⟨E.S, 0, none⟩), .int .u8 b] w fun ev w' => ev = .returned (.tuple #[]) ∧ ∃ g cp', RS w' E p (.slice (some ⟨g, 0, none⟩) (out.length + 1 : Nat) cp') far 0 ∧ w'.ownsRow B 5 1 (.slice (some ⟨g, 0, none⟩) (out.length + 1 : Nat) cp') (out.length + 1) ((out ++ [b]).map (Value.int .u8)) ∧ Kept E.S (.slice a (out.length : Nat) cp) (.slice (some ⟨g, 0, none⟩) (out.length + 1 : Nat) cp') w w' := by
  obtain ⟨i5, hi, hz0, hz1, hz2⟩ := info_parts Tryd.info5
  have c2 := h.c2
  have c3 := h.c3
  have c5 := h.c5
  have HH : Hid (RS w E p (.slice a (out.length : Nat) cp) far 0) := h
  obtain ⟨n, HN⟩ : ∃ n, Hid (n = out.length) := ⟨_, rfl⟩
  rw [← HN.out] at c2 hown hn hm HH ⊢
  clear h
  go_enter Tryd.func65, Tryd.ntmps65
  go_wp2
  go_quiet (fail)
  go_wp2_with (refine wpList_append_lies _ rfl _ _ _ rfl B 5 i5 (.int .u8 0) 1 1 Tryd.underlying22 hi hz0 hz1 hz2 rfl (by omega) (.slice a n cp) n (out.map (Value.int .u8)) rfl (by exact hown.alloc _) ⟨w.heap.size, 0, none⟩ 1 1 [.int .u8 b] rfl rfl (by intro j u hj; match j, hj with | 0, hj => simp at hj; subst hj; exact (World.cell?_alloc_at (w := w.drewN nq) _ _ _ 0 rfl).trans rfl) (by intro u hu; simp at hu; subst hu; rfl) (by omega) (by unfold maxLen; omega) (by omega) (by simp; omega) (w.heap.size + 1) (by simp) ?_; intro g2 cp2 w3 hown1 hgrow hat hlt2; have d2 := (hgrow.cell_far ⟨E.S, 2, none⟩ (by simp; have := HH.out.Sl; omega) HH.out.Sv).trans ((World.cell?_alloc_lt _ _ ⟨E.S, 2, none⟩ HH.out.Sl).trans c2); have e2 := (hgrow.frozen_far ⟨E.S, 2, none⟩ (by simp; have := HH.out.Sl; omega) HH.out.Sv).trans ((World.frozen?_alloc_old _ _ ⟨E.S, 2, none⟩ (Nat.ne_of_lt HH.out.Sl)).trans (HH.out.fz 2)))
  go_end0
  have hgx : w.grownBy ((w.drewN nq).alloc (.cells #[.int .u8 b] 5)) none := let h := World.grownBy_alloc (w.drewN nq) (.cells #[.int .u8 b] 5) none; ⟨h.os, h.tape, h.output, h.size, h.block⟩
  obtain ⟨r1, r2⟩ := rs_grow HH.out hgx hgrow (.slice (some ⟨g2, 0, none⟩) (n + 1 : Nat) cp2) g2 rfl (by simpa using hat)
  refine ⟨rfl, g2, cp2, r1, ?_, r2⟩
  have hkl : (out ++ [b]).map (Value.int .u8) = out.map (Value.int .u8) ++ [.int .u8 b] := by simp
  rw [hkl]
  exact owns_set hown1 E.S 2 _ r1.Sv
end Go.Proofs.YtbiibhpknflagaaDoor
/- The document's own reader: 'span'. -/
namespace Go.Proofs.YtbiibhpknflagaaDoor
open Go.RowKit Plain
set_option linter.unusedVariables false
set_option linter.unusedSimpArgs false

/-- Where a span begins, and how many bits it has, behind n rounds. -/
def spanN (first group : Nat) : Nat → Nat × Nat
  | 0 => (first, 0)
  | i + 1 => ((spanN first group i).1 + 2 ^ (spanN first group i).2, if 2 * group ≤ i + 1 ∧ (i + 1) % group = 0 then (spanN first group i).2 + 1 else (spanN first group i).2)
theorem spanN_len : ∀ i, i < 31 → (spanN 3 4 i).1 ≤ 65536 ∧ (spanN 3 4 i).2 ≤ 15 := by decide +kernel
theorem spanN_dist : ∀ i, i < 31 → (spanN 1 2 i).1 ≤ 65536 ∧ (spanN 1 2 i).2 ≤ 15 := by decide +kernel
theorem span_add (a b : Nat) (ha : a ≤ 65536) (hb : b ≤ 15) : wrap64 ((a : Int) + wrap64 (2 ^ b)) = ((a + 2 ^ b : Nat) : Int) := by
  have := sum_in a 1 b ha (by omega) (pow_le_16 (n := b) (by omega))
  simpa using this
theorem spanN_up {first group j a b : Nat} (ha : a = (spanN first group j).1) (hb : b = (spanN first group j).2) (h : 2 * group ≤ j + 1) (h2 : (j + 1) % group = 0) : a + 2 ^ b = (spanN first group (j + 1)).1 ∧ b + 1 = (spanN first group (j + 1)).2 := by
  subst ha hb; simp [spanN, h, h2]
theorem spanN_on {first group j a b : Nat} (ha : a = (spanN first group j).1) (hb : b = (spanN first group j).2) (h : ¬ (2 * group ≤ j + 1 ∧ (j + 1) % group = 0)) : a + 2 ^ b = (spanN first group (j + 1)).1 ∧ b = (spanN first group (j + 1)).2 := by
  subst ha hb; simp [spanN, if_neg h]
/-- The length symbol 285. -/
theorem span_top (w : World) : Calls Tryd.prog 68 #[.int .i64 285, .bool false] w fun e w' => e = .returned (.tuple #[.int .i64 258, .int .i64 0]) ∧ w' = w := by
  go_enter Tryd.func68, Tryd.ntmps68
  go_wp2
  go_ret2
  exact ⟨rfl, rfl⟩
set_option maxRecDepth 20000 in
set_option maxHeartbeats 1000000 in
theorem span_dist (n : Nat) (hn : n ≤ 30) (w : World) : Calls Tryd.prog 68 #[.int .i64 n, .bool true] w fun e w' => e = .returned (.tuple #[.int .i64 (spanN 1 2 n).1, .int .i64 (spanN 1 2 n).2]) ∧ w' = w := by
  go_enter Tryd.func68, Tryd.ntmps68
  go_wp2
  go_loopg [9, 10, 11] n (fun k s t i wr => ∃ (j a b : Nat), j ≤ n ∧ i = .int .i64 j ∧ s = .int .i64 a ∧ t = .int .i64 b ∧ k = n - j ∧ Hid (a = (spanN 1 2 j).1) ∧ Hid (b = (spanN 1 2 j).2) ∧ wr = w)
  case atStart => exact ⟨0, 1, 0, by omega, rfl, rfl, rfl, by omega, (show 1 = _ from rfl), (show 0 = _ from rfl), rfl⟩
  case round =>
    obtain ⟨j, a, b, hj, rfl, rfl, rfl, hk, HA, HB, rfl⟩ := hrel
    have hab := spanN_dist j (by omega)
    rw [← HA.out, ← HB.out] at hab
    obtain ⟨ha, hb⟩ := hab
    by_cases hjn : j < n
    · have hmd : ((j : Int) + 1).tmod 2 = (((j + 1) % 2 : Nat) : Int) := by rw [Int.tmod_eq_emod_of_nonneg (by omega)]; omega
      go_wp2
      all_goals go_roundg (n - (j + 1))
      case measure => omega
      case measure => omega
      case measure => omega
      all_goals rename_i h1
      · have h2 := h1
        simp only [beq_iff_eq] at h2
        obtain ⟨e1, e2⟩ := spanN_up (first := 1) (group := 2) HA.out HB.out (by omega) (by omega)
        exact ⟨j + 1, a + 2 ^ b, b + 1, by omega, by go_num, congrArg (Value.int .i64) (span_add a b ha hb), by go_num, rfl, e1, e2, rfl⟩
      · have h2 := h1
        simp only [beq_eq_false_iff_ne] at h2
        obtain ⟨e1, e2⟩ := spanN_on (first := 1) (group := 2) HA.out HB.out (by omega)
        exact ⟨j + 1, a + 2 ^ b, b, by omega, by go_num, congrArg (Value.int .i64) (span_add a b ha hb), rfl, rfl, e1, e2, rfl⟩
      · obtain ⟨e1, e2⟩ := spanN_on (first := 1) (group := 2) HA.out HB.out (by omega)
        exact ⟨j + 1, a + 2 ^ b, b, by omega, by go_num, congrArg (Value.int .i64) (span_add a b ha hb), rfl, rfl, e1, e2, rfl⟩
    · obtain rfl : j = n := by omega
      have HA2 := HA.out
      have HB2 := HB.out
      go_wp2
      go_ret2
      exact ⟨by rw [HA2, HB2]; rfl, rfl⟩
set_option maxRecDepth 20000 in
set_option maxHeartbeats 1000000 in
theorem span_len (n : Nat) (hn : n ≤ 27) (w : World) : Calls Tryd.prog 68 #[.int .i64 (257 + n : Nat), .bool false] w fun e w' => e = .returned (.tuple #[.int .i64 (spanN 3 4 n).1, .int .i64 (spanN 3 4 n).2]) ∧ w' = w := by
  have hne : ¬ (((257 + n : Nat) : Int) = 285) := by omega
  have hk0 : ((257 + n : Nat) : Int) - 257 = (n : Int) := by omega
  obtain ⟨y, HY⟩ : ∃ y : Nat, Hid (y = 257 + n) := ⟨_, rfl⟩
  rw [← HY.out] at hne hk0 ⊢
  have hy : y ≤ 300 := by have := HY.out; omega
  go_enter Tryd.func68, Tryd.ntmps68
  go_wp2
  have hbq : ((y : Int) == 285) = false := by simpa using hne
  simp only [hk0, hbq]
  go_loopg [9, 10, 11] n (fun k s t i wr => ∃ (j a b : Nat), j ≤ n ∧ i = .int .i64 j ∧ s = .int .i64 a ∧ t = .int .i64 b ∧ k = n - j ∧ Hid (a = (spanN 3 4 j).1) ∧ Hid (b = (spanN 3 4 j).2) ∧ wr = w)
  case atStart => exact ⟨0, 3, 0, by omega, rfl, rfl, rfl, by omega, (show 3 = _ from rfl), (show 0 = _ from rfl), rfl⟩
  case round =>
    obtain ⟨j, a, b, hj, rfl, rfl, rfl, hk, HA, HB, rfl⟩ := hrel
    have hab := spanN_len j (by omega)
    rw [← HA.out, ← HB.out] at hab
    obtain ⟨ha, hb⟩ := hab
    by_cases hjn : j < n
    · have hmd : ((j : Int) + 1).tmod 4 = (((j + 1) % 4 : Nat) : Int) := by rw [Int.tmod_eq_emod_of_nonneg (by omega)]; omega
      go_wp2
      all_goals go_roundg (n - (j + 1))
      case measure => omega
      case measure => omega
      case measure => omega
      all_goals rename_i h1
      · have h2 := h1
        simp only [beq_iff_eq] at h2
        obtain ⟨e1, e2⟩ := spanN_up (first := 3) (group := 4) HA.out HB.out (by omega) (by omega)
        exact ⟨j + 1, a + 2 ^ b, b + 1, by omega, by go_num, congrArg (Value.int .i64) (span_add a b ha hb), by go_num, rfl, e1, e2, rfl⟩
      · have h2 := h1
        simp only [beq_eq_false_iff_ne] at h2
        obtain ⟨e1, e2⟩ := spanN_on (first := 3) (group := 4) HA.out HB.out (by omega)
        exact ⟨j + 1, a + 2 ^ b, b, by omega, by go_num, congrArg (Value.int .i64) (span_add a b ha hb), rfl, rfl, e1, e2, rfl⟩
      · obtain ⟨e1, e2⟩ := spanN_on (first := 3) (group := 4) HA.out HB.out (by omega)
        exact ⟨j + 1, a + 2 ^ b, b, by omega, by go_num, congrArg (Value.int .i64) (span_add a b ha hb), rfl, rfl, e1, e2, rfl⟩
    · obtain rfl : j = n := by omega
      have HA2 := HA.out
      have HB2 := HB.out
      go_wp2
      go_ret2
      exact ⟨by rw [HA2, HB2]; rfl, rfl⟩
end Go.Proofs.YtbiibhpknflagaaDoor
/- The document's own reader: 'span' gives the tables. -/
namespace Go.Proofs.YtbiibhpknflagaaDoor
open Go.RowKit Plain
set_option linter.unusedVariables false

theorem spanN_lenTab : ∀ i, i < 28 → (spanN 3 4 i).1 = lenStart.getD i 0 ∧ (spanN 3 4 i).2 = lenBits.getD i 0 := by decide +kernel
theorem spanN_distTab : ∀ i, i < 30 → (spanN 1 2 i).1 = distStart.getD i 0 ∧ (spanN 1 2 i).2 = distBits.getD i 0 := by decide +kernel
/-- A length's span. -/
theorem span_length (n : Nat) (hn : n < 29) (w : World) : Calls Tryd.prog 68 #[.int .i64 (257 + n : Nat), .bool false] w fun e w' => e = .returned (.tuple #[.int .i64 (lenStart.getD n 0 : Nat), .int .i64 (lenBits.getD n 0 : Nat)]) ∧ w' = w := by
  by_cases h : n = 28
  · subst h; exact span_top w
  · obtain ⟨e1, e2⟩ := spanN_lenTab n (by omega)
    have := span_len n (by omega) w
    rw [e1, e2] at this
    exact this
/-- A distance's span. -/
theorem span_distance (n : Nat) (hn : n < 30) (w : World) : Calls Tryd.prog 68 #[.int .i64 n, .bool true] w fun e w' => e = .returned (.tuple #[.int .i64 (distStart.getD n 0 : Nat), .int .i64 (distBits.getD n 0 : Nat)]) ∧ w' = w := by
  obtain ⟨e1, e2⟩ := spanN_distTab n hn
  have := span_dist n (by omega) w
  rw [e1, e2] at this
  exact this
end Go.Proofs.YtbiibhpknflagaaDoor
/- The document's own reader: 'put' in any state, and a loop of them in 'stored'. -/
namespace Go.Proofs.YtbiibhpknflagaaDoor
open Go.RowKit Plain
set_option linter.unusedVariables false

/-- The reader's stream with what it has given out. -/
structure OutS (w : World) (E : REnv) (p B : Nat) (far er : Int) (v : Value) (out : List Int) : Prop where
  rs : RS w E p v far er
  row : ∃ a cp, v = .slice a (out.length : Nat) cp
  owns : w.ownsRow B 5 1 v out.length (out.map (Value.int .u8))
  hB : B ≤ w.heap.size
/-- What a byte more does. -/
def putOf (most : Int) (s : Int × List Int) (b : Int) : Int × List Int :=
  if s.1 ≠ 0 then s else if (s.2.length : Int) < most then (0, s.2 ++ [b]) else (11, s.2)
theorem OutS.kept {w w' : World} {E : REnv} {p p' B : Nat} {far far' er er' : Int} {v : Value} {out : List Int} (h : OutS w E p B far er v out) (k : Kept E.S (.bool true) (.bool true) w w') (h' : RS w' E p' v far' er') : OutS w' E p' B far' er' v out :=
  ⟨h', h.row, k.owns h.owns h.rs.Sv, Nat.le_trans h.hB k.size⟩
theorem put_any (E : REnv) (p B : Nat) (far er : Int) (v : Value) (b : Int) (out : List Int) (w : World) (h : OutS w E p B far er v out) (hn : out.length ≤ 400000) :
    Calls Tryd.prog 65 #[.pointer (some ⟨E.S, 0, none⟩), .int .u8 b] w fun ev w' => ev = .returned (.tuple #[]) ∧ ∃ v', OutS w' E p B far (putOf E.most (er, out) b).1 v' (putOf E.most (er, out) b).2 ∧ Kept E.S v v' w w' := by
  by_cases he : er = 0
  · subst he
    obtain ⟨a, cp, rfl⟩ := h.row
    by_cases hm : (out.length : Int) < E.most
    · refine (put_ok E p B a cp far b out w h.rs h.owns h.hB hn hm).mono ?_
      rintro ev w' ⟨h1, g, cp', h2, h3, h4⟩
      have e : putOf E.most (0, out) b = (0, out ++ [b]) := by simp [putOf, hm]
      have hl : (out ++ [b]).length = out.length + 1 := by simp
      rw [e]
      refine ⟨h1, _, ⟨h2, ⟨_, _, by rw [hl]⟩, ?_, Nat.le_trans h.hB h4.size⟩, h4⟩
      show w'.ownsRow B 5 1 _ (out ++ [b]).length _
      rw [hl]; exact h3
    · refine (put_long E p a out.length cp far b w h.rs hn (by omega)).mono ?_
      rintro ev w' ⟨h1, h2, h3⟩
      have e : putOf E.most (0, out) b = (11, out) := by simp [putOf, hm]
      rw [e]
      exact ⟨h1, _, h.kept h3 h2, h3.weak _⟩
  · refine (put_err E p v far er b w h.rs he).mono ?_
    rintro ev w' ⟨h1, rfl⟩
    have e : putOf E.most (er, out) b = (er, out) := by simp [putOf, he]
    rw [e]
    exact ⟨h1, _, h, Kept.refl _ _ _⟩
end Go.Proofs.YtbiibhpknflagaaDoor
/- The document's own reader: 'bits' in any state; the stored block. -/
namespace Go.Proofs.YtbiibhpknflagaaDoor
open Go.RowKit Plain
set_option linter.unusedVariables false

/-- What 'bits' gives: the number, where the stream then stands, the error. -/
def bitsOf (zs : List Int) (p n : Nat) (er : Int) : Nat × Nat × Int :=
  if p + n ≤ 8 * zs.length then (getB zs p n, p + n, er) else (0, 8 * zs.length, first er 10)
theorem bitsOf_le (zs : List Int) (p n : Nat) (er : Int) : (bitsOf zs p n er).2.1 ≤ 8 * zs.length := by
  unfold bitsOf; split <;> simp <;> omega
theorem bitsOf_lt (zs : List Int) (p n : Nat) (er : Int) : (bitsOf zs p n er).1 < 2 ^ n := by
  unfold bitsOf; split
  · exact getB_lt zs p n
  · exact Nat.two_pow_pos n
theorem bits_any (E : REnv) (p n : Nat) (v : Value) (far er : Int) (w : World) (hz : IsB E.zs) (hl : E.zs.length ≤ 400000) (hn : n ≤ 16) (h : RS w E p v far er) (hp : p ≤ 8 * E.zs.length) :
    Calls Tryd.prog 37 #[.pointer (some ⟨E.S, 0, none⟩), .int .i64 n] w fun e w' => e = .returned (.int .i64 ((bitsOf E.zs p n er).1 : Nat)) ∧ RS w' E (bitsOf E.zs p n er).2.1 v far (bitsOf E.zs p n er).2.2 ∧ Kept E.S (.bool true) (.bool true) w w' := by
  by_cases c : p + n ≤ 8 * E.zs.length
  · have e : bitsOf E.zs p n er = (getB E.zs p n, p + n, er) := if_pos c
    rw [e]
    exact bits_ok E p n v far er w hz hl hn h c
  · have e : bitsOf E.zs p n er = (0, 8 * E.zs.length, first er 10) := if_neg c
    rw [e]
    exact bits_bad E p n v far er w hz hl hn h hp (by omega)
end Go.Proofs.YtbiibhpknflagaaDoor
/- The document's own reader: the stored block. -/
namespace Go.Proofs.YtbiibhpknflagaaDoor
open Go.RowKit Plain
set_option linter.unusedVariables false
set_option linter.unusedSimpArgs false

/-- What a row of bytes more does. -/
def putsOf (most : Int) (out : List Int) (xs : List Int) : Int × List Int := xs.foldl (putOf most) (0, out)
theorem putOf_len (most : Int) (s : Int × List Int) (b : Int) (hm : most ≤ 400000) (hs : s.2.length ≤ 400000) : (putOf most s b).2.length ≤ 400000 := by
  unfold putOf
  split
  · exact hs
  · split
    · simp; omega
    · exact hs
theorem putsOf_len (most : Int) (xs : List Int) (hm : most ≤ 400000) : ∀ s : Int × List Int, s.2.length ≤ 400000 → (xs.foldl (putOf most) s).2.length ≤ 400000 := by
  induction xs with
  | nil => intro s hs; exact hs
  | cons x xs ih => intro s hs; exact ih _ (putOf_len most s x hm hs)
theorem take_up (zs : List Int) (t j : Nat) (h : t + j < zs.length) : (zs.drop t).take (j + 1) = (zs.drop t).take j ++ [zs.getD (t + j) 0] := by
  have hj : j < (zs.drop t).length := by simp; omega
  rw [List.take_succ_eq_append_getElem hj]
  simp [List.getD_eq_getElem?_getD, List.getElem?_eq_getElem h]
theorem putsOf_up (most : Int) (out zs : List Int) (t j : Nat) (h : t + j < zs.length) : putsOf most out ((zs.drop t).take (j + 1)) = putOf most (putsOf most out ((zs.drop t).take j)) (zs.getD (t + j) 0) := by
  unfold putsOf; rw [take_up zs t j h, List.foldl_append]; rfl
/-- What 'stored' leaves: where the stream stands, the error, what was given out. -/
def storedR (zs : List Int) (most : Int) (p : Nat) (out : List Int) : Nat × Int × List Int :=
  let x := bitsOf zs (8 * ((p + 7) / 8)) 16 0
  let y := bitsOf zs x.2.1 16 x.2.2
  if y.2.2 = 0 ∧ x.1 + y.1 = 65535 ∧ y.2.1 / 8 + x.1 ≤ zs.length then
    (y.2.1 + 8 * x.1, putsOf most out ((zs.drop (y.2.1 / 8)).take x.1))
  else (y.2.1, first y.2.2 10, out)
set_option maxRecDepth 20000 in
set_option maxHeartbeats 1000000 in
theorem stored_any (E : REnv) (p B : Nat) (far : Int) (v : Value) (out : List Int) (w : World) (hz : IsB E.zs) (hl : E.zs.length ≤ 400000) (hp : p ≤ 8 * E.zs.length) (h : OutS w E p B far 0 v out) (hn : out.length ≤ 400000) (hm : E.most ≤ 400000) :
    Calls Tryd.prog 39 #[.pointer (some ⟨E.S, 0, none⟩)] w fun ev w' => ev = .returned (.tuple #[]) ∧ ∃ v', OutS w' E (storedR E.zs E.most p out).1 B far (storedR E.zs E.most p out).2.1 v' (storedR E.zs E.most p out).2.2 ∧ Kept E.S v v' w w' := by
  have c1 := h.rs.c1
  have f1 := h.rs.fz 1
  have hp8 : p ≤ 3200000 := by omega
  have HH : Hid (OutS w E p B far 0 v out) := h
  clear h
  go_enter Tryd.func39, Tryd.ntmps39
  obtain ⟨q, HQ⟩ : ∃ q, Hid (q = (p + 7) / 8) := ⟨_, rfl⟩
  have hq8 : 8 * q ≤ 8 * E.zs.length := by have := HQ.out; omega
  have hq9 : q ≤ 400000 := by omega
  have hdv : ((p : Int) + 7).tdiv 8 = (q : Int) := by rw [Int.tdiv_eq_ediv_of_nonneg (by omega)]; have := HQ.out; omega
  obtain ⟨n1, p2, e2, H2⟩ : ∃ n1 p2 e2, Hid (bitsOf E.zs (8 * q) 16 0 = (n1, p2, e2)) := ⟨_, _, _, rfl⟩
  obtain ⟨n2, p3, e3, H3⟩ : ∃ n2 p3 e3, Hid (bitsOf E.zs p2 16 e2 = (n2, p3, e3)) := ⟨_, _, _, rfl⟩
  have hn1 : n1 < 65536 := by have := bitsOf_lt E.zs (8 * q) 16 0; rw [H2.out] at this; exact this
  have hn2 : n2 < 65536 := by have := bitsOf_lt E.zs p2 16 e2; rw [H3.out] at this; exact this
  have hp2 : p2 ≤ 8 * E.zs.length := by have := bitsOf_le E.zs (8 * q) 16 0; rw [H2.out] at this; exact this
  have hp3 : p3 ≤ 8 * E.zs.length := by have := bitsOf_le E.zs p2 16 e2; rw [H3.out] at this; exact this
  have C1 : ∀ w1, RS w1 E (8 * q) v far 0 → Calls Tryd.prog 37 #[.pointer (some ⟨E.S, 0, none⟩), .int .i64 16] w1 fun e w' => e = .returned (.int .i64 (n1 : Nat)) ∧ RS w' E p2 v far e2 ∧ Kept E.S (.bool true) (.bool true) w1 w' := fun w1 h1 => by
    have := bits_any E (8 * q) 16 v far 0 w1 hz hl (by omega) h1 hq8
    rw [H2.out] at this; exact this
  have C2 : ∀ w1, RS w1 E p2 v far e2 → Calls Tryd.prog 37 #[.pointer (some ⟨E.S, 0, none⟩), .int .i64 16] w1 fun e w' => e = .returned (.int .i64 (n2 : Nat)) ∧ RS w' E p3 v far e3 ∧ Kept E.S (.bool true) (.bool true) w1 w' := fun w1 h1 => by
    have := bits_any E p2 16 v far e2 w1 hz hl (by omega) h1 hp2
    rw [H3.out] at this; exact this
  have R0 : Hid (RS (w.setCell ⟨E.S, 1, none⟩ (.int .i64 ((q : Int) * 8))) E (8 * q) v far 0) := HH.out.rs.set1 (8 * q) (by push_cast; omega)
  have HSt : Hid (storedR E.zs E.most p out = if e3 = 0 ∧ n1 + n2 = 65535 ∧ p3 / 8 + n1 ≤ E.zs.length then (p3 + 8 * n1, putsOf E.most out ((E.zs.drop (p3 / 8)).take n1)) else (p3, first e3 10, out)) := by
    show storedR _ _ _ _ = _
    unfold storedR
    rw [← HQ.out, H2.out]
    simp only
    rw [H3.out]
  obtain ⟨t, HT⟩ : ∃ t, Hid (t = p3 / 8) := ⟨_, rfl⟩
  have hdt : (p3 : Int).tdiv 8 = (t : Int) := by rw [Int.tdiv_eq_ediv_of_nonneg (by omega)]; have := HT.out; omega
  have ht9 : t ≤ E.zs.length := by have := HT.out; omega
  rw [← HT.out] at HSt
  generalize storedR E.zs E.most p out = R at HSt ⊢
  go_wp2_with (first | (go_at_call 37; refine (C1 _ R0.out).mono ?_; clear C1; rintro ev w1 ⟨rfl, hR1, hK1⟩; have HR1 : Hid _ := hR1; have HK1 : Hid _ := hK1; clear hR1 hK1) | (go_at_call 37; refine (C2 _ HR1.out).mono ?_; clear C2; rintro ev w2 ⟨rfl, hR2, hK2⟩; have HR2 : Hid _ := hR2; have HK2 : Hid _ := hK2; have d0 := hR2.c0; have d1 := hR2.c1; have d5 := hR2.c5; have g1 := hR2.fz 1; clear hR2 hK2) | (go_at_call 38; refine (fail_any E p3 v far e3 10 _ HR2.out).mono ?_; rintro ev w3 ⟨rfl, hR3, hK3⟩; have HR3 : Hid _ := hR3; have HK3 : Hid _ := hK3; clear hR3 hK3))
  all_goals have K2 : Hid (Kept E.S (.bool true) (.bool true) w w2) := (((Kept.refl E.S (.bool true) w).set 1 _).trans HK1.out).trans HK2.out
  all_goals try (
    have hR : R = (p3, first e3 10, out) := HSt.out.trans (if_neg (by omega))
    subst hR
    exact bodyPost_ret (results_none (by rfl) _ _ _) rfl ⟨rfl, v, HH.out.kept (K2.out.trans HK3.out) HR3.out, (K2.out.trans HK3.out).weak v⟩)
  have he3 : e3 = 0 := by omega
  subst he3
  have hR : R = (p3 + 8 * n1, putsOf E.most out ((E.zs.drop t).take n1)) := HSt.out.trans (if_pos (by omega))
  subst hR
  have htn : t + n1 ≤ E.zs.length := by omega
  have hp39 : p3 ≤ 3200000 := by omega
  have HO2 : Hid (OutS w2 E p3 B far 0 v out) := HH.out.kept K2.out HR2.out
  clear HSt d0 d1 d5 g1 c1 f1 hdv hdt
  go_loopg [5] n1 (fun k i wr => ∃ (j : Nat) (v' : Value), j ≤ n1 ∧ i = .int .i64 j ∧ k = n1 - j ∧ Hid (OutS wr E p3 B far (putsOf E.most out ((E.zs.drop t).take j)).1 v' (putsOf E.most out ((E.zs.drop t).take j)).2) ∧ Hid (Kept E.S v v' w wr))
  case atStart => exact ⟨0, v, by omega, rfl, by omega, HO2.out, K2.out.weak v⟩
  case round =>
    obtain ⟨j, v', hj, rfl, hk, HO, HK⟩ := hrel
    obtain ⟨s, HS⟩ : ∃ s, Hid (s = putsOf E.most out ((E.zs.drop t).take j)) := ⟨_, rfl⟩
    rw [← HS.out] at HO
    have c0 := HO.out.rs.c0
    have c1 := HO.out.rs.c1
    have f1 := HO.out.rs.fz 1
    by_cases hjn : j < n1
    · have hne : E.zs ≠ [] := by intro e; rw [e] at htn; simp at htn; omega
      rw [HO.out.rs.some hne] at c0
      obtain ⟨x, HX⟩ : ∃ x : Int, Hid (x = E.zs.getD (t + j) 0) := ⟨_, rfl⟩
      have hcx : wr.cell? ⟨E.ib, E.io + (t + j), none⟩ = some (.int .u8 x) := by
        rw [HO.out.rs.src (t + j) (by omega), HX.out, List.getD_eq_getElem?_getD]
      have hlen : s.2.length ≤ 400000 := by rw [HS.out]; exact putsOf_len _ _ hm _ hn
      have htj : t + j < E.zs.length := by omega
      have P1 := put_any E p3 B far s.1 v' x s.2 wr HO.out hlen
      go_wp2_with (go_at_call 65; refine P1.mono ?_; clear P1; rintro ev w4 ⟨rfl, v4, hO4, hK4⟩; have HO4 : Hid _ := hO4; have HK4 : Hid _ := hK4; clear hO4 hK4)
      go_roundg (n1 - (j + 1))
      case measure => omega
      case rel =>
        refine ⟨j + 1, v4, by omega, by go_num, rfl, ?_, HK.out.trans HK4.out⟩
        rw [putsOf_up _ _ _ _ _ htj, ← HS.out, ← HX.out]
        exact HO4
    · obtain rfl : j = n1 := by omega
      go_wp2
      go_end0
      rw [← HS.out]
      exact ⟨rfl, v', HO.out.kept ((Kept.refl _ _ _).set 1 _) (HO.out.rs.set1 (p3 + 8 * j) (by push_cast; omega)), HK.out.set 1 _⟩
end Go.Proofs.YtbiibhpknflagaaDoor
/- The document's own reader: the next symbol by a code. -/
namespace Go.Proofs.YtbiibhpknflagaaDoor
open Go.RowKit Plain
set_option linter.unusedVariables false
set_option linter.unusedSimpArgs false

/-- A code as the reader keeps it: two rows of numbers, of one length. -/
structure RCode where
  ax : Option Addr
  ay : Option Addr
  cx : Nat
  cy : Nat
  gl : Nat
  ol : Nat
  gb : Nat
  lens : List Nat
  bts : List Nat
structure RC (w : World) (S : Nat) (C : RCode) : Prop where
  ls : ∀ i, i < C.lens.length → w.cell? ⟨C.gl, C.ol + i, none⟩ = some (.int .i64 (C.lens.getD i 0 : Nat))
  bs : ∀ i, i < C.lens.length → w.cell? ⟨C.gb, i, none⟩ = some (.int .i64 (C.bts.getD i 0 : Nat))
  ax : C.lens ≠ [] → C.ax = some ⟨C.gl, C.ol, none⟩
  ay : C.lens ≠ [] → C.ay = some ⟨C.gb, 0, none⟩
  lS : C.gl ≠ S
  bS : C.gb ≠ S
  lw : C.gl < w.heap.size
  bw : C.gb < w.heap.size
  len : C.lens.length ≤ 400
theorem RC.kept {w w' : World} {S : Nat} {C : RCode} (h : RC w S C) (k : Kept S (.bool true) (.bool true) w w') : RC w' S C :=
  ⟨fun i hi => (k.cell (p := ⟨C.gl, C.ol + i, none⟩) h.lw h.lS (by simp [Value.ownBlock])).trans (h.ls i hi), fun i hi => (k.cell (p := ⟨C.gb, i, none⟩) h.bw h.bS (by simp [Value.ownBlock])).trans (h.bs i hi), h.ax, h.ay, h.lS, h.bS, Nat.lt_of_lt_of_le h.lw k.size, Nat.lt_of_lt_of_le h.bw k.size, h.len⟩
theorem rs_alloc {w : World} {E : REnv} {p : Nat} {v : Value} {far er : Int} (h : RS w E p v far er) (o : Obj) : RS (w.alloc o) E p v far er := by
  have c : ∀ i, (w.alloc o).cell? ⟨E.S, i, none⟩ = w.cell? ⟨E.S, i, none⟩ := fun i => World.cell?_alloc_lt _ _ ⟨E.S, i, none⟩ h.Sl
  refine ⟨(c 0).trans h.c0, (c 1).trans h.c1, (c 2).trans h.c2, (c 3).trans h.c3, (c 4).trans h.c4, (c 5).trans h.c5, fun i => (World.frozen?_alloc_old _ _ ⟨E.S, i, none⟩ (Nat.ne_of_lt h.Sl)).trans (h.fz i), fun j hj => ?_, h.some, h.ibS, h.ibv, fun hn => ?_, ?_, h.Sv⟩
  · have hne : E.zs ≠ [] := by intro e; rw [e] at hj; simp at hj
    exact (World.cell?_alloc_lt _ _ ⟨E.ib, E.io + j, none⟩ (h.ibl hne)).trans (h.src j hj)
  · have := h.ibl hn; simp; omega
  · have := h.Sl; simp; omega
def hit (C : RCode) (n u i : Nat) : Bool := C.lens.getD i 0 == n && C.bts.getD i 0 == u
def symGo (zs : List Int) (C : RCode) : Nat → Nat → Nat → Int × Nat × Int
  | 0, p, u => (-1, p, 10)
  | k + 1, p, u => if 8 * zs.length < p + 1 then (-1, 8 * zs.length, 10) else
      match (List.range C.lens.length).find? (hit C (15 - k) (2 * u + getB zs p 1)) with
      | some i => (i, p + 1, 0)
      | none => symGo zs C k (p + 1) (2 * u + getB zs p 1)
theorem find_hit {n i : Nat} {f : Nat → Bool} (h : ∀ k, k < i → f k = false) (hi : i < n) (hf : f i = true) : (List.range n).find? f = some i := by
  rw [List.find?_range_eq_some]
  exact ⟨hf, List.mem_range.2 hi, fun k hk => by simp [h k hk]⟩
theorem find_miss {n : Nat} {f : Nat → Bool} (h : ∀ k, k < n → f k = false) : (List.range n).find? f = none := by
  rw [List.find?_eq_none]
  intro k hk
  simp [h k (List.mem_range.1 hk)]
theorem symGo_hit {zs : List Int} {C : RCode} {j p u b y i : Nat} (hj : j < 15) (hp : p + 1 ≤ 8 * zs.length) (hb : b = getB zs p 1) (hy : y = 2 * u + b) (h : ∀ k, k < i → hit C (j + 1) y k = false) (hi : i < C.lens.length) (hf : hit C (j + 1) y i = true) : symGo zs C (15 - j) p u = ((i : Int), p + 1, 0) := by
  rw [show 15 - j = (14 - j) + 1 by omega]
  simp only [symGo]
  rw [if_neg (by omega), show 15 - (14 - j) = j + 1 by omega, ← hb, ← hy, find_hit h hi hf]
theorem symGo_miss {zs : List Int} {C : RCode} {j p u b y : Nat} (hj : j < 15) (hp : p + 1 ≤ 8 * zs.length) (hb : b = getB zs p 1) (hy : y = 2 * u + b) (h : ∀ k, k < C.lens.length → hit C (j + 1) y k = false) : symGo zs C (15 - j) p u = symGo zs C (15 - (j + 1)) (p + 1) y := by
  rw [show 15 - j = (14 - j) + 1 by omega]
  simp only [symGo]
  rw [if_neg (by omega), show 15 - (14 - j) = j + 1 by omega, ← hb, ← hy, find_miss h, show 15 - (j + 1) = 14 - j by omega]
set_option maxRecDepth 20000 in
set_option maxHeartbeats 1000000 in
theorem symbol_any (E : REnv) (p : Nat) (far : Int) (v : Value) (C : RCode) (w : World) (hz : IsB E.zs) (hl : E.zs.length ≤ 400000) (hp : p ≤ 8 * E.zs.length) (h : RS w E p v far 0) (hC : RC w E.S C) :
    Calls Tryd.prog 67 #[.pointer (some ⟨E.S, 0, none⟩), .agg #[.slice C.ax C.lens.length C.cx, .slice C.ay C.lens.length C.cy]] w fun ev w' => ev = .returned (.int .i64 (symGo E.zs C 15 p 0).1) ∧ RS w' E (symGo E.zs C 15 p 0).2.1 v far (symGo E.zs C 15 p 0).2.2 ∧ Kept E.S (.bool true) (.bool true) w w' := by
  have HH : Hid (RS w E p v far 0) := h
  have HC : Hid (RC w E.S C) := hC
  clear h hC
  obtain ⟨R, HR0⟩ : ∃ R, Hid (R = symGo E.zs C 15 p 0) := ⟨_, rfl⟩
  rw [← HR0.out]
  go_enter Tryd.func67, Tryd.ntmps67
  go_wp2_with fail
  have HA : Hid (RS (w.alloc (.cells #[.slice C.ax C.lens.length C.cx, .slice C.ay C.lens.length C.cy] 72)) E p v far 0) := rs_alloc HH.out _
  have HKA : Hid (Kept E.S (.bool true) (.bool true) w (w.alloc (.cells #[.slice C.ax C.lens.length C.cx, .slice C.ay C.lens.length C.cy] 72))) := (Kept.refl _ _ _).alloc _
  have HCA := hid' (HC.out.kept HKA.out)
  have HD0 : Hid ((w.alloc (.cells #[.slice C.ax C.lens.length C.cx, .slice C.ay C.lens.length C.cy] 72)).cell? ⟨w.heap.size, 0, none⟩ = some (.slice C.ax C.lens.length C.cx)) := (World.cell?_alloc_at (w := w) _ _ _ 0 rfl).trans rfl
  have HD1 : Hid ((w.alloc (.cells #[.slice C.ax C.lens.length C.cx, .slice C.ay C.lens.length C.cy] 72)).cell? ⟨w.heap.size, 1, none⟩ = some (.slice C.ay C.lens.length C.cy)) := (World.cell?_alloc_at (w := w) _ _ _ 1 rfl).trans rfl
  have HSz : Hid (w.heap.size < (w.alloc (.cells #[.slice C.ax C.lens.length C.cx, .slice C.ay C.lens.length C.cy] 72)).heap.size) := by show _ < _; simp
  have hgS : w.heap.size ≠ E.S := Nat.ne_of_gt HH.out.Sl
  generalize w.alloc (.cells #[.slice C.ax C.lens.length C.cx, .slice C.ay C.lens.length C.cy] 72) = wa at HA HKA HCA HD0 HD1 HSz ⊢
  obtain ⟨hs, HS⟩ : ∃ hs, Hid (hs = w.heap.size) := ⟨_, rfl⟩
  rw [← HS.out] at HD0 HD1 HSz hgS ⊢
  have hlen := HC.out.len
  go_loopg [5, 6] 16 (fun k s n wr => ∃ (j u : Nat), j ≤ 15 ∧ n = .int .i64 (j + 1 : Nat) ∧ s = .int .i64 u ∧ k = 16 - j ∧ u ≤ 2 ^ j - 1 ∧ p + j ≤ 8 * E.zs.length ∧ Hid (R = symGo E.zs C (15 - j) (p + j) u) ∧ Hid (RS wr E (p + j) v far 0) ∧ Hid (Kept E.S (.bool true) (.bool true) wa wr))
  case atStart => exact ⟨0, 0, by omega, rfl, rfl, by omega, by omega, by omega, HR0.out, HA.out, Kept.refl _ _ _⟩
  case round =>
    obtain ⟨j, u, hj, rfl, rfl, hk, hu, hpj, HG, HR, HK⟩ := hrel
    have hu2 : u ≤ 65536 := by have := pow_le_16 (n := j) (by omega); omega
    have HK0 := hid' (HKA.out.trans HK.out)
    by_cases hj15 : j < 15
    · by_cases hen : p + j + 1 ≤ 8 * E.zs.length
      · obtain ⟨b, HB⟩ : ∃ b, Hid (b = getB E.zs (p + j) 1) := ⟨_, rfl⟩
        have hb : b ≤ 1 := by have := getB_lt E.zs (p + j) 1; have := HB.out; omega
        have B1 := bits_ok E (p + j) 1 v far 0 wr hz hl (by omega) HR.out hen
        rw [← HB.out] at B1
        go_wp2_with (go_at_call 37; refine B1.mono ?_; clear B1; rintro ev w1 ⟨rfl, hR1, hK1⟩; have d5 := hR1.c5; have HR1 : Hid _ := hR1; have HK1 : Hid _ := hK1; clear hR1 hK1)
        have HKa := hid' (HK.out.trans HK1.out)
        have d0 := (HKa.out.cell (p := ⟨hs, 0, none⟩) HSz.out hgS (by simp [Value.ownBlock])).trans HD0.out
        have d1 := (HKa.out.cell (p := ⟨hs, 1, none⟩) HSz.out hgS (by simp [Value.ownBlock])).trans HD1.out
        have HC1 := hid' (HCA.out.kept HKa.out)
        obtain ⟨y, HY⟩ : ∃ y, Hid (y = 2 * u + b) := ⟨_, rfl⟩
        have hy : (u : Int) * 2 + (b : Int) = (y : Int) := by have := HY.out; omega
        obtain ⟨m, HM⟩ : ∃ m, Hid (m = j + 1) := ⟨_, rfl⟩
        have hmj : (j : Int) + 1 = (m : Int) := by have := HM.out; omega
        have hy2 : y ≤ 200000 := by have := HY.out; omega
        have hm2 : m ≤ 15 := by have := HM.out; omega
        simp only [hy, hmj]
        clear hy hmj d5
        go_loopg [7] C.lens.length (fun k i wq => ∃ i0 : Nat, i0 ≤ C.lens.length ∧ i = .int .i64 i0 ∧ k = C.lens.length - i0 ∧ Hid (∀ k, k < i0 → hit C m y k = false) ∧ wq = w1)
        case atStart => exact ⟨0, by omega, rfl, by omega, (fun k hk => absurd hk (by omega)), rfl⟩
        case round =>
          obtain ⟨i0, hi0, rfl, hk0, HF, rfl⟩ := hrel
          by_cases hil : i0 < C.lens.length
          · have hne : C.lens ≠ [] := by intro e; rw [e] at hil; simp at hil
            have l0 := HC1.out.ls i0 hil
            have b0 := HC1.out.bs i0 hil
            rw [HC1.out.ax hne] at d0
            rw [HC1.out.ay hne] at d1
            obtain ⟨a, HAA⟩ : ∃ a, Hid (a = C.lens.getD i0 0) := ⟨_, rfl⟩
            obtain ⟨c, HCC⟩ : ∃ c, Hid (c = C.bts.getD i0 0) := ⟨_, rfl⟩
            rw [← HAA.out] at l0
            rw [← HCC.out] at b0
            by_cases ham : a = m
            · by_cases hcy : c = y
              · have ht : hit C m y i0 = true := by unfold hit; rw [← HAA.out, ← HCC.out, ham, hcy]; simp
                have HE : Hid (R = ((i0 : Int), p + j + 1, 0)) := HG.out.trans (symGo_hit hj15 hen HB.out HY.out (by rw [← HM.out]; exact HF.out) hil (by rw [← HM.out]; exact ht))
                subst ham hcy
                clear ht
                go_wp2
                go_ret
                rw [HE.out]
                exact ⟨rfl, HR1.out, HK0.out.trans HK1.out⟩
              · have ht : hit C m y i0 = false := by unfold hit; rw [← HAA.out, ← HCC.out]; simp [hcy]
                have hcy2 : ¬ ((c : Int) = (y : Int)) := by omega
                have HF2 : Hid (∀ k, k < i0 + 1 → hit C m y k = false) := fun k hk => by
                  by_cases e : k = i0
                  · rw [e]; exact ht
                  · exact HF.out k (by omega)
                subst ham
                clear ht
                go_wp2
                go_roundg (C.lens.length - (i0 + 1))
                case measure => omega
                case rel => exact ⟨i0 + 1, by omega, by go_num, rfl, HF2.out, rfl⟩
            · have ht : hit C m y i0 = false := by unfold hit; rw [← HAA.out, ← HCC.out]; simp [ham]
              have ham2 : ¬ ((a : Int) = (m : Int)) := by omega
              have HF2 : Hid (∀ k, k < i0 + 1 → hit C m y k = false) := fun k hk => by
                by_cases e : k = i0
                · rw [e]; exact ht
                · exact HF.out k (by omega)
              clear ht
              go_wp2
              go_roundg (C.lens.length - (i0 + 1))
              case measure => omega
              case rel => exact ⟨i0 + 1, by omega, by go_num, rfl, HF2.out, rfl⟩
          · have HE : Hid (R = symGo E.zs C (15 - (j + 1)) (p + (j + 1)) y) := HG.out.trans (symGo_miss hj15 hen HB.out HY.out (by rw [← HM.out]; exact fun k hk => HF.out k (by omega)))
            go_wp2
            go_roundg (16 - (j + 1))
            case measure => omega
            case rel =>
              have hpw : 2 ^ (j + 1) = 2 * 2 ^ j := by rw [Nat.pow_succ]; omega
              have hpp : 0 < 2 ^ j := Nat.two_pow_pos j
              have hY := HY.out
              have hM := HM.out
              refine ⟨j + 1, y, by omega, ?_, rfl, rfl, by omega, by omega, HE.out, HR1.out, HK.out.trans HK1.out⟩
              rw [hM]; go_num
      · have hg : symGo E.zs C (15 - j) (p + j) u = (-1, 8 * E.zs.length, 10) := by
          rw [show 15 - j = (14 - j) + 1 by omega]; simp only [symGo]; rw [if_pos (by omega)]
        have B1 := bits_bad E (p + j) 1 v far 0 wr hz hl (by omega) HR.out hpj (by omega)
        have e : R = _ := HG.out.trans hg
        have HE : Hid (R = (-1, 8 * E.zs.length, 10)) := e
        clear hg e
        go_wp2_with (go_at_call 37; refine B1.mono ?_; clear B1; rintro ev w1 ⟨rfl, hR1, hK1⟩; have d5 : w1.cell? ⟨E.S, 5, none⟩ = some (.int .i64 10) := hR1.c5; have HR1 : Hid _ := hR1; have HK1 : Hid _ := hK1; clear hR1 hK1)
        go_ret
        rw [HE.out]
        exact ⟨rfl, HR1.out, HK0.out.trans HK1.out⟩
    · obtain rfl : j = 15 := by omega
      have hg : symGo E.zs C (15 - 15) (p + 15) u = (-1, p + 15, 10) := rfl
      have e : R = _ := HG.out.trans hg
      have HE : Hid (R = (-1, p + 15, 10)) := e
      clear hg e
      go_wp2_with (go_at_call 38; refine (fail_any E (p + 15) v far 0 10 _ HR.out).mono ?_; rintro ev w3 ⟨rfl, hR3, hK3⟩; have HR3 : Hid _ := hR3; have HK3 : Hid _ := hK3; clear hR3 hK3)
      go_ret
      rw [HE.out]
      exact ⟨rfl, HR3.out, HK0.out.trans HK3.out⟩
end Go.Proofs.YtbiibhpknflagaaDoor
