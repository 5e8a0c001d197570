import Derived.Test.YtcicoeneemnbiaaGreatDoorMw08
import Derived.Laws.IdiomCopy
import Derived.Lib.LazyBuf
namespace Go.Proofs.YtcicoeneemnbiaaGreatDoor
open Go.RowKit
set_option linter.unusedVariables false
set_option linter.unusedSimpArgs false
def ov (l : Str) (k : Nat) (m : Str) : Str := l.take k ++ m ++ l.drop (k + m.length)
theorem ov_len (l m : Str) (k : Nat) (h : k + m.length ≤ l.length) : (ov l k m).length = l.length := by
  unfold ov
  simp only [List.length_append, List.length_take, List.length_drop]
  omega
theorem ov_nil (l : Str) (k : Nat) : ov l k [] = l := by simp [ov]
theorem ov_set (l m : Str) (k : Nat) (x : UInt8) (h : k + 1 + m.length ≤ l.length) : (ov l (k + 1) m).set k x = ov l k (x :: m) := by
  unfold ov
  have hk : k < l.length := by omega
  rw [← List.take_append_getElem hk, List.append_assoc, List.append_assoc, List.set_append_right _ _ (by rw [List.length_take]; omega)]
  rw [show k - (l.take k).length = 0 by rw [List.length_take]; omega]
  simp only [List.singleton_append, List.set_cons_zero, List.length_cons, List.append_assoc, List.cons_append, List.nil_append]
  rw [show k + 1 + m.length = k + (m.length + 1) by omega]
theorem ov_mid (a b c m : Str) (h : b.length = m.length) : ov (a ++ (b ++ c)) a.length m = a ++ (m ++ c) := by
  unfold ov
  rw [List.take_left, ← h, List.append_assoc]
  congr 2
  rw [← List.drop_drop, List.drop_left, List.drop_left]
structure Rw (w0 w : World) (g : Nat) (l : Str) : Prop where
  below : Below g w0 w
  lt : g < w.heap.size
  cell : ∀ i, i < l.length → w.cell? ⟨g, i, none⟩ = some (.int .u8 ((l.getD i 0).toNat : Int)) ∧ w.frozen? ⟨g, i, none⟩ = false
theorem Rw.set {w0 w : World} {g : Nat} {l : Str} (h : Rw w0 w g l) (k : Nat) (x : UInt8) (hk : k < l.length) : Rw w0 (w.setCell ⟨g, k, none⟩ (.int .u8 (x.toNat : Int))) g (l.set k x) :=
  ⟨h.below.setCell (Nat.le_refl _) _, by simp [World.setCell]; exact h.lt, fun i hi => by
    rw [List.length_set] at hi
    rw [World.frozen?_setCell]
    refine ⟨?_, (h.cell i hi).2⟩
    rw [List.getD_eq_getElem?_getD, List.getElem?_set]
    by_cases e : i = k
    · subst e
      rw [if_pos rfl, if_pos hi]
      exact World.cell?_setCell_same _ _ _ (h.cell i hi).1
    · rw [if_neg (fun h => e h.symm), ← List.getD_eq_getElem?_getD, World.cell?_setCell_other _ _ _ _ (by intro h; simp only [Addr.mk.injEq] at h; omega)]
      exact (h.cell i hi).1⟩
theorem Rw.pb {w0 w : World} {g : Nat} {l : Str} (h : Rw w0 w g l) : PB w (some ⟨g, 0, none⟩) l.length l :=
  ⟨Nat.le_refl _, fun _ => ⟨g, 0, rfl, h.lt, fun i hi j v hv => by
    have hj : j = 0 := by
      have := (List.getElem?_eq_some_iff.1 hv).1
      simp [encB] at this
      exact this
    subst hj
    simp only [encB, List.getElem?_cons_zero, Option.some.injEq] at hv
    rw [Nat.zero_add, Nat.mul_one, Nat.add_zero, ← hv]
    exact (h.cell i hi).1⟩, fun h => by cases h⟩
theorem put_step {w0 wr : World} {g off n : Nat} {l : Str} (i : Nat) (hi : i < 4) (H : Rw w0 wr g (ov l (off + (4 - i)) ((nb 4 n).drop (4 - i)))) (ho : off + 4 ≤ l.length) (V : Int) (hV : V = ((n / 256 ^ i % 256 : Nat) : Int)) :
    Rw w0 (wr.setCell ⟨g, off + (3 - i), none⟩ (.int .u8 V)) g (ov l (off + (4 - (i + 1))) ((nb 4 n).drop (4 - (i + 1)))) := by
  have hl : ((nb 4 n).drop (4 - i)).length = i := by rw [List.length_drop, nb_len]; omega
  have h1 := H.set (off + (3 - i)) (UInt8.ofNat (n / 256 ^ i)) (by rw [ov_len _ _ _ (by rw [hl]; omega)]; omega)
  have h2 : ((UInt8.ofNat (n / 256 ^ i)).toNat : Int) = V := by rw [hV]; simp
  rw [h2, show off + (4 - i) = off + (3 - i) + 1 by omega, ov_set _ _ _ _ (by rw [hl]; omega)] at h1
  have h3 : UInt8.ofNat (n / 256 ^ i) :: (nb 4 n).drop (4 - i) = (nb 4 n).drop (4 - (i + 1)) := by
    rcases (show i = 0 ∨ i = 1 ∨ i = 2 ∨ i = 3 by omega) with rfl | rfl | rfl | rfl <;> rfl
  rw [h3, show off + (3 - i) = off + (4 - (i + 1)) by omega] at h1
  rw [show off + (3 - i) = off + (4 - (i + 1)) by omega]
  exact h1
set_option maxRecDepth 20000 in
set_option maxHeartbeats 2000000 in
theorem put_any {w0 w : World} {g : Nat} {l : Str} (h : Rw w0 w g l) (off len cap : Nat) (hlen : 4 ≤ len) (ho : off + 4 ≤ l.length) (n : Nat) (hn : n < 4294967296) : Calls Tryz.prog 11 #[.slice (some ⟨g, off, none⟩) len cap, .int .i64 (n : Int)] w fun e w' => (∃ v, e = .returned v) ∧ Rw w0 w' g (ov l off (nb 4 n)) := by
  have H0 : Hid (Rw w0 w g l) := h
  have HO : Hid (off + 4 ≤ l.length) := ho
  have HN : Hid (nb 4 n = [UInt8.ofNat (n / 16777216), UInt8.ofNat (n / 65536), UInt8.ofNat (n / 256), UInt8.ofNat (n / 1)]) := hid rfl
  clear h ho
  go_enter Tryz.func11, Tryz.ntmps11
  go_wp2_with fail
  go_loopg [5] 4 (fun gg iv wr => ∃ i : Nat, iv = .int .i64 i ∧ i ≤ 4 ∧ gg = 4 - i ∧ Hid (Rw w0 wr g (ov l (off + (4 - i)) ((nb 4 n).drop (4 - i)))))
  case atStart => exact ⟨0, rfl, Nat.zero_le _, rfl, hid (by rw [List.drop_of_length_le (by rw [nb_len]; exact Nat.le_refl _), ov_nil]; exact H0.out)⟩
  case round =>
    obtain ⟨i, rfl, hi, hk, HR⟩ := hrel
    rcases (show i = 0 ∨ i = 1 ∨ i = 2 ∨ i = 3 ∨ i = 4 by omega) with rfl | rfl | rfl | rfl | rfl
    · have hc := (HR.out).cell (off + 3) (by rw [ov_len _ _ _ (by simp [nb_len]; have := HO.out; omega)]; have := HO.out; omega)
      go_wp2
      go_roundg 3
      case measure => omega
      case rel => exact ⟨1, by go_num, by omega, rfl, hid (put_step 0 (by omega) HR.out HO.out _ (by simp; try omega))⟩
    · have hc := (HR.out).cell (off + 2) (by rw [ov_len _ _ _ (by simp [nb_len]; have := HO.out; omega)]; have := HO.out; omega)
      go_wp2
      go_roundg 2
      case measure => omega
      case rel => exact ⟨2, by go_num, by omega, rfl, hid (put_step 1 (by omega) HR.out HO.out _ (by simp; try omega))⟩
    · have hc := (HR.out).cell (off + 1) (by rw [ov_len _ _ _ (by simp [nb_len]; have := HO.out; omega)]; have := HO.out; omega)
      go_wp2
      go_roundg 1
      case measure => omega
      case rel => exact ⟨3, by go_num, by omega, rfl, hid (put_step 2 (by omega) HR.out HO.out _ (by simp; try omega))⟩
    · have hc := (HR.out).cell off (by rw [ov_len _ _ _ (by simp [nb_len]; have := HO.out; omega)]; have := HO.out; omega)
      go_wp2
      go_roundg 0
      case measure => omega
      case rel => exact ⟨4, by go_num, by omega, rfl, hid (put_step 3 (by omega) HR.out HO.out _ (by simp; try omega))⟩
    · go_wp2
      exact bodyPost_end (results_none (by kernel_rfl) _ _ _) rfl ⟨⟨_, rfl⟩, HR.out⟩
end Go.Proofs.YtcicoeneemnbiaaGreatDoor
namespace Go.Proofs.YtcicoeneemnbiaaGreatDoor
open Go.RowKit
set_option linter.unusedVariables false
set_option linter.unusedSimpArgs false
def bn (s : Str) : Nat := s.foldl (fun n x => n * 256 + x.toNat) 0
theorem bn_snoc (s : Str) (x : UInt8) : bn (s ++ [x]) = bn s * 256 + x.toNat := by simp [bn]
theorem bn_lt : ∀ (s : Str) (a : Nat) (k : Nat), a < 256 ^ k → s.foldl (fun n x => n * 256 + x.toNat) a < 256 ^ (k + s.length)
  | [], a, k, h => by simpa using h
  | x :: s, a, k, h => by
    have := bn_lt s (a * 256 + x.toNat) (k + 1) (by have := x.toNat_lt; rw [Nat.pow_succ]; omega)
    rw [List.foldl_cons, List.length_cons, show k + (s.length + 1) = k + 1 + s.length by omega]
    exact this
theorem bn_lt' (s : Str) : bn s < 256 ^ s.length := by
  have := bn_lt s 0 0 (by simp)
  simpa [bn] using this
theorem i64_or_nat (a b : Nat) (ha : a < 9223372036854775808) (hb : b < 9223372036854775808) : bits .or .i64 (a : Int) (b : Int) = ((a ||| b : Nat) : Int) := by
  have hx : a ||| b < 2 ^ 63 := Nat.or_lt_two_pow (by omega) (by omega)
  show IntKind.i64.wrap ((BitVec.ofInt 64 (a : Int) ||| BitVec.ofInt 64 (b : Int)).toNat : Int) = _
  rw [BitVec.toNat_or, ofInt_u64 a (by omega), ofInt_u64 b (by omega)]
  rw [IntKind.wrap_i64]
  omega
theorem or_add64 (h l : Int) (h0 : 0 ≤ h) (l0 : 0 ≤ l) (hl : l < 256) (hs : h < 16777216) : bits .or .i64 (h * 256) l = h * 256 + l := by
  obtain ⟨a, rfl⟩ := Int.eq_ofNat_of_zero_le h0
  obtain ⟨b, rfl⟩ := Int.eq_ofNat_of_zero_le l0
  have hb : b < 2 ^ 8 := by omega
  have e : 2 ^ 8 * a + b = 2 ^ 8 * a ||| b := Nat.two_pow_add_eq_or_of_lt hb a
  have hp : ((a : Int) * 256) = ((2 ^ 8 * a : Nat) : Int) := by omega
  rw [hp, i64_or_nat _ _ (by omega) (by omega), ← e]
  omega
set_option maxRecDepth 20000 in
set_option maxHeartbeats 2000000 in
theorem num_any {w : World} (a : Option Addr) (cap : Nat) (s : Str) (hP : PB w a cap s) (h4 : 4 ≤ s.length) : Calls Tryz.prog 72 #[.slice a s.length cap] w fun e w' => e = .returned (.int .i64 ((bn (s.take 4) : Nat) : Int)) ∧ w' = w := by
  obtain ⟨b, off, rfl, _⟩ := hP.at_ (by omega)
  have hc := hP.capl
  obtain ⟨n, HN⟩ : ∃ n, Hid (s.length = n) := ⟨_, rfl⟩
  have HC : Hid (∀ i, i < n → w.cell? ⟨b, off + i, none⟩ = some (.int .u8 ((s.getD i 0).toNat : Int))) := hid (fun i hi => PB.cell hP i (by rw [HN.out]; exact hi))
  have h4' : 4 ≤ n := by rw [← HN.out]; exact h4
  have hc' : 4 ≤ cap := by omega
  rw [HN.out]
  clear hP h4 hc
  go_enter Tryz.func72, Tryz.ntmps72
  go_wp2
  go_loopg [3, 9] 4 (fun gg nv iv wr => ∃ i : Nat, iv = .int .i64 i ∧ nv = .int .i64 ((bn (s.take i) : Nat) : Int) ∧ i ≤ 4 ∧ gg = 4 - i ∧ wr = w)
  case atStart => exact ⟨0, rfl, rfl, Nat.zero_le _, rfl, rfl⟩
  case round =>
    obtain ⟨i, rfl, rfl, hi, hk, rfl⟩ := hrel
    by_cases hlt : i < 4
    · have hlti : (i : Int) < 4 := by omega
      obtain ⟨x, HX⟩ : ∃ x, Hid (s.getD i 0 = x) := ⟨_, rfl⟩
      have hc := HC.out i (by omega)
      rw [HX.out] at hc
      have hx := x.toNat_lt
      have HT : Hid (bn (s.take (i + 1)) = bn (s.take i) * 256 + x.toNat) := hid (by rw [take_snocG 0 s i (by rw [HN.out]; omega), bn_snoc, HX.out])
      have hb : bn (s.take i) < 16777216 := by
        have h1 := bn_lt' (s.take i)
        have h2 : (s.take i).length ≤ 3 := by rw [List.length_take]; omega
        have h3 : 256 ^ (s.take i).length ≤ 256 ^ 3 := Nat.pow_le_pow_right (by omega) h2
        omega
      obtain ⟨m, HM⟩ : ∃ m, Hid (bn (s.take i) = m) := ⟨_, rfl⟩
      rw [HM.out] at HT hb ⊢
      have hor := or_add64 m x.toNat (by omega) (by omega) (by omega) (by omega)
      go_wp2
      go_roundg (4 - (i + 1))
      case measure => omega
      case rel => exact ⟨i + 1, by go_num, by rw [HT.out]; congr 1, by omega, rfl, rfl⟩
    · have hi4 : i = 4 := by omega
      subst hi4
      go_wp2
      go_ret
      exact ⟨rfl, rfl⟩
end Go.Proofs.YtcicoeneemnbiaaGreatDoor
namespace Go.Proofs.YtcicoeneemnbiaaGreatDoor
open Go.RowKit
set_option linter.unusedVariables false
set_option linter.unusedSimpArgs false
theorem step_copy2 {P : Program} {ops : Array Oper} {o : Oper} {a : Act} {w : World} {K : Act → World → Prop} {Q : Exit → Act → World → Prop} {E : Prop} (hg : o.guard = none) (s x : Operand) (t t' : TypeId) (sv xv v : Value) (w2 : World)
    (ho : o.op = .call { callee := .builtin .copy, args := #[s, x], argTypes := #[t, t'] }) (hs : a.eval s = sv) (hx : a.eval x = xv) (hrun : (Builtin.copy_ #[t, t'] o.type #[sv, xv]).run P w = .ok v w2) (h : K (a.put o.dst v) w2) :
    if Region.wanted o (yielded ops a.tmps) = true then Oper.wp P o a w K Q else E := by
  have hw : Region.wanted o (yielded ops a.tmps) = true := by simp [Region.wanted, hg]
  rw [if_pos hw]
  unfold Oper.wp execOp
  simp only [ho, resolve, invoke, builtin, Sem.run_bind, Sem.run_pure, Result.andThen_ok, List.map_toArray, List.map_cons, List.map_nil, hs, hx, hrun]
  exact h
theorem Rw.over {w0 w : World} {g : Nat} {l : Str} (h : Rw w0 w g l) (k : Nat) (m : Str) (hk : k + m.length ≤ l.length) : Rw w0 (w.setCells g k (bv m)) g (ov l k m) := by
  have hin : ∀ j, j < (bv m).length → (w.cell? ⟨g, k + j, none⟩).isSome = true := fun j hj => by
    rw [bv_len] at hj
    rw [(h.cell (k + j) (by omega)).1]
    rfl
  have hgr := grown_cells w g k (bv m)
  refine ⟨h.below.trans ⟨hgr.os, hgr.tape, hgr.output, hgr.size, fun q hq => hgr.block q (Nat.lt_trans hq h.lt) (fun e => by cases e; omega)⟩, Nat.lt_of_lt_of_le h.lt hgr.size, fun i hi => ?_⟩
  rw [ov_len _ _ _ hk] at hi
  rw [World.frozen?_setCells]
  refine ⟨?_, (h.cell i hi).2⟩
  rw [List.getD_eq_getElem?_getD]
  unfold ov
  by_cases h1 : i < k
  · rw [World.cell?_setCells_out _ _ _ _ _ (fun _ _ => .inl h1), List.append_assoc, List.getElem?_append_left (by rw [List.length_take]; omega), List.getElem?_take, if_pos h1, ← List.getD_eq_getElem?_getD]
    exact (h.cell i hi).1
  · by_cases h2 : i < k + m.length
    · obtain ⟨j, rfl⟩ : ∃ j, i = k + j := ⟨i - k, by omega⟩
      have hj : j < m.length := by omega
      have hb : j < (bv m).length := by rw [bv_len]; exact hj
      rw [World.cell?_setCells_in _ _ _ _ hin j hb, List.append_assoc, List.getElem?_append_right (by rw [List.length_take]; omega), List.getElem?_append_left (by rw [List.length_take]; omega), List.length_take, show k + j - min k l.length = j by omega, List.getElem?_eq_getElem hj]
      simp [bv]
    · rw [World.cell?_setCells_out _ _ _ _ _ (fun _ _ => .inr (by show k + (bv m).length ≤ i; rw [bv_len]; omega)), List.getElem?_append_right (by rw [List.length_append, List.length_take]; omega), List.getElem?_drop, List.length_append, List.length_take, show k + m.length + (i - (min k l.length + m.length)) = i by omega, ← List.getD_eq_getElem?_getD]
      exact (h.cell i hi).1
theorem copy_rw {w0 w : World} {g : Nat} {l : Str} (h : Rw w0 w g l) (k n c : Nat) (b off n' c' : Nat) (m : Str) (hk : k + m.length ≤ l.length) (hn : m.length = Nat.min n' n) (hs : ∀ (j : Nat) (u : Value), (bv m)[j]? = some u → w.cell? ((⟨b, off, none⟩ : Addr).add j) = some u) (ty : TypeId) :
    (Builtin.copy_ #[23, 23] ty #[.slice (some ⟨g, k, none⟩) n c, .slice (some ⟨b, off, none⟩) n' c']).run Tryz.prog w = .ok (goInt m.length) (w.setCells g k (bv m)) := by
  have := run_copy_cells (P := Tryz.prog) w 23 23 ty 5 g k n c ⟨b, off, none⟩ n' c' (bv m) Tryz.underlying23 (by kernel_rfl) (by rw [bv_len]; exact hn) hs (fun j hj => by rw [bv_len] at hj; rw [(h.cell (k + j) (by omega)).1]; rfl) (fun j hj => by rw [bv_len] at hj; exact (h.cell (k + j) (by omega)).2) (bv_one m)
  rwa [bv_len] at this
theorem copy_str {w0 w : World} {g : Nat} {l : Str} (h : Rw w0 w g l) (k n c : Nat) (m : Str) (hk : k + m.length ≤ l.length) (hn : m.length ≤ n) (ty : TypeId) :
    (Builtin.copy_ #[23, 9] ty #[.slice (some ⟨g, k, none⟩) n c, .string ⟨m.toArray⟩]).run Tryz.prog w = .ok (goInt m.length) (w.setCells g k (bv m)) := by
  have hz : (⟨m.toArray⟩ : ByteArray).size = m.length := txt_len m
  have := Go.run_copy_string (P := Tryz.prog) w 23 9 ty 5 g k n c ⟨m.toArray⟩ Tryz.underlying23 (fun w => by kernel_rfl) (by rw [hz]; exact hn) (fun j hj => by rw [hz] at hj; rw [(h.cell (k + j) (by omega)).1]; rfl) (fun j hj => by rw [hz] at hj; exact (h.cell (k + j) (by omega)).2)
  rw [hz] at this
  exact this
theorem made_arr (z : Value) (n : Nat) : madeCells #[z] n = (List.replicate n z).toArray := by
  apply Array.ext'
  rw [toList_madeCells_one]
theorem mk_bytes (m : Nat) (hm : m ≤ 10000000) (w : World) : (Instr.makeSlice 23 (.int .i64 (m : Int)) (.int .i64 (m : Int))).run Tryz.prog w = .ok (.slice (some ⟨w.heap.size, 0, none⟩) m m) (w.alloc (.cells (List.replicate m (.int .u8 0)).toArray 5)) := by
  obtain ⟨i, hi, hz0, hz1, hz2⟩ := info_parts (show (Tryz.prog.info? 5).map (fun i => (i.zero, i.size, i.bytes)) = some (some (.int .u8 0), 1, 1) by kernel_rfl)
  have := run_make (P := Tryz.prog) w 23 5 i (.int .u8 0) Tryz.underlying23 hi hz0 .i64 .i64 m m (by omega) (by omega) (by rw [hz2]; omega) (by omega)
  rw [hz1, show (Value.int .u8 0).cells = #[.int .u8 0] from rfl, Nat.mul_one, Int.toNat_natCast, made_arr] at this
  exact this
theorem rw_made (m : Nat) (w : World) : Rw w (w.alloc (.cells (List.replicate m (.int .u8 0)).toArray 5)) w.heap.size (zs m) :=
  ⟨(Below.refl _ w).alloc (Nat.le_refl _) _, by simp, fun i hi => by
    have hnew : (w.alloc (.cells (List.replicate m (.int .u8 0)).toArray 5)).heap[w.heap.size]? = some (.cells (List.replicate m (.int .u8 0)).toArray 5 (0, 0)) := heap_alloc_new w _
    have hi' : i < m := by simpa [zs] using hi
    exact ⟨by rw [cell_of_row _ _ _ _ _ _ hnew]; simp [hi', zs], frozen_of_row _ _ _ _ _ hnew⟩⟩
theorem ov_at (a b c m : Str) (k : Nat) (hk : k = a.length) (h : b.length = m.length) : ov (a ++ (b ++ c)) k m = a ++ (m ++ c) := by subst hk; exact ov_mid a b c m h
theorem zs_add (a b : Nat) : zs (a + b) = zs a ++ zs b := by unfold zs; exact List.replicate_append_replicate.symm
theorem zs_len (a : Nat) : (zs a).length = a := by simp [zs]
theorem ent_over (A B I C P : Str) (r : Nat) (hA : A.length = 4) (hB : B.length = 4) (hI : I.length = 20) (hC : C.length = 2) :
    ov (ov (ov (ov (ov (zs (62 + P.length + r)) 24 A) 36 B) 40 I) 60 C) 62 P = zs 24 ++ A ++ zs 8 ++ B ++ I ++ C ++ P ++ zs r := by
  have e0 : zs (62 + P.length + r) = zs 24 ++ (zs 4 ++ (zs 8 ++ (zs 4 ++ (zs 20 ++ (zs 2 ++ (zs P.length ++ zs r)))))) := by
    rw [← zs_add, ← zs_add, ← zs_add, ← zs_add, ← zs_add, ← zs_add, ← zs_add]
    congr 1
    omega
  rw [e0, ov_at (zs 24) (zs 4) _ A 24 (by rw [zs_len]) (by rw [zs_len, hA])]
  rw [show zs 24 ++ (A ++ (zs 8 ++ (zs 4 ++ (zs 20 ++ (zs 2 ++ (zs P.length ++ zs r)))))) = (zs 24 ++ A ++ zs 8) ++ (zs 4 ++ (zs 20 ++ (zs 2 ++ (zs P.length ++ zs r)))) by simp only [List.append_assoc]]
  rw [ov_at _ (zs 4) _ B 36 (by simp only [List.length_append, zs_len, hA]) (by rw [zs_len, hB])]
  rw [show zs 24 ++ A ++ zs 8 ++ (B ++ (zs 20 ++ (zs 2 ++ (zs P.length ++ zs r)))) = (zs 24 ++ A ++ zs 8 ++ B) ++ (zs 20 ++ (zs 2 ++ (zs P.length ++ zs r))) by simp only [List.append_assoc]]
  rw [ov_at _ (zs 20) _ I 40 (by simp only [List.length_append, zs_len, hA, hB]) (by rw [zs_len, hI])]
  rw [show zs 24 ++ A ++ zs 8 ++ B ++ (I ++ (zs 2 ++ (zs P.length ++ zs r))) = (zs 24 ++ A ++ zs 8 ++ B ++ I) ++ (zs 2 ++ (zs P.length ++ zs r)) by simp only [List.append_assoc]]
  rw [ov_at _ (zs 2) _ C 60 (by simp only [List.length_append, zs_len, hA, hB, hI]) (by rw [zs_len, hC])]
  rw [show zs 24 ++ A ++ zs 8 ++ B ++ I ++ (C ++ (zs P.length ++ zs r)) = (zs 24 ++ A ++ zs 8 ++ B ++ I ++ C) ++ (zs P.length ++ zs r) by simp only [List.append_assoc]]
  rw [ov_at _ (zs P.length) _ P 62 (by simp only [List.length_append, zs_len, hA, hB, hI, hC]) (by rw [zs_len])]
  simp only [List.append_assoc]
theorem set_two (l : Str) (k : Nat) (x y : UInt8) (h : k + 2 ≤ l.length) : (l.set k x).set (k + 1) y = ov l k [x, y] := by
  rw [List.set_comm _ _ (by omega), ← ov_set l [y] k x (by simp; omega), ← ov_set l [] (k + 1) y (by simp; omega), ov_nil]
theorem enter11 (x y : Value) (w : World) : (callFunc 11 #[x, y]).run Tryz.prog w = .ok (.enter 11 #[x, y]) w := by kernel_rfl
structure QE (g : Nat) (e : Ey) (W : World) : Prop where
  row : W.rangeAt g 0 (encY e)
  c0 : W.cell? ⟨g, 0, none⟩ = some (.string ⟨e.path.toArray⟩)
  c1 : W.cell? ⟨g, 1, none⟩ = some (.int .i64 e.mode)
  c22 : W.cell? ⟨g, 22, none⟩ = some (.int .i64 e.size)
  c23 : W.cell? ⟨g, 23, none⟩ = some (.int .i64 e.stage)
theorem QE.below {g : Nat} {e : Ey} {w w' : World} (h : QE g e w) (hg : g < w.heap.size) (hb : Below w.heap.size w w') : QE g e w' :=
  ⟨fun j v hv => by rw [hb.cell (p := ⟨g, 0 + j, none⟩) hg]; exact h.row j v hv, by rw [hb.cell (p := ⟨g, 0, none⟩) hg]; exact h.c0, by rw [hb.cell (p := ⟨g, 1, none⟩) hg]; exact h.c1, by rw [hb.cell (p := ⟨g, 22, none⟩) hg]; exact h.c22, by rw [hb.cell (p := ⟨g, 23, none⟩) hg]; exact h.c23⟩
theorem QE.id {g : Nat} {e : Ey} {w : World} (h : QE g e w) : ∀ (j : Nat) (u : Value), (bv e.id)[j]? = some u → w.cell? ((⟨g, 2, none⟩ : Addr).add j) = some u := fun j u hj => by
  have hl := (List.getElem?_eq_some_iff.1 hj).1
  have := h.row (j + 2) u (by
    unfold encY
    rw [List.getElem?_cons_succ, List.getElem?_cons_succ, List.getElem?_append_left hl]
    exact hj)
  rw [addr_add, Nat.add_comm 2 j]
  rwa [Nat.zero_add] at this
set_option maxRecDepth 20000 in
set_option maxHeartbeats 2000000 in
theorem writeEntry_any (e : Ey) (h : e.id.length = 20) (hp : e.path.length ≤ 4000) (hm : 0 ≤ e.mode ∧ e.mode < 4294967296) (hs : 0 ≤ e.size ∧ e.size < 4294967296) (ht : 0 ≤ e.stage ∧ e.stage ≤ 3) (w : World) :
    Calls Tryz.prog 12 #[.agg (encY e).toArray] w fun ev w' => ∃ g, ev = .returned (.slice (some ⟨g, 0, none⟩) (entLen e.path.length) (entLen e.path.length)) ∧ w.heap.size ≤ g ∧ PB w' (some ⟨g, 0, none⟩) (entLen e.path.length) (entB e) ∧ Below w.heap.size w w' := by
  have hcy := cy e h
  obtain ⟨C, HC⟩ : ∃ C, Hid ((encY e).toArray = C) := ⟨_, rfl⟩
  have C31 : Hid (∀ W, Calls Tryz.prog 31 #[.agg (encY e).toArray] W fun ev w' => ev = .returned (.int .i64 ((entLen e.path.length : Nat) : Int)) ∧ Below W.heap.size W w') := fun W => entryBytes_any e h (by omega) W
  rw [HC.out] at hcy ⊢
  obtain ⟨W, HW⟩ : ∃ W, Hid (w.alloc (.cells C 32) = W) := ⟨_, rfl⟩
  have HQ : Hid (QE w.heap.size e W) := hid (by
    rw [← HW.out]
    exact ⟨fun j v hv => by rw [Nat.zero_add]; exact cellN (by rw [hcy.eq, List.getElem?_toArray]; exact hv), cellN hcy.c0, cellN hcy.c1, cellN hcy.c22, cellN hcy.c23⟩)
  have HB : Hid (Below w.heap.size w W) := hid (by rw [← HW.out]; exact (Below.refl _ w).alloc (Nat.le_refl _) _)
  have al : w.alloc (.cells C 32) = W := HW.out
  obtain ⟨n, HN⟩ : ∃ n, Hid (entLen e.path.length = n) := ⟨_, rfl⟩
  rw [HN.out] at C31
  rw [HN.out]
  clear hcy
  go_enter Tryz.func12, Tryz.ntmps12
  go_wp2_with (refine wpList_load_mid rfl 32 _ rfl w.heap.size 0 rfl (encY e) _ HQ.out.row Tryz.underlying32 rfl (by rw [encY_len e h]; exact info32) ?_)
  refine (C31.out W).mono ?_
  rintro ev w1 ⟨rfl, hb1⟩
  have HB1 : Hid (Below w.heap.size w w1) := hid (HB.out.trans (hb1.mono HB.out.size))
  have hgW : w.heap.size < W.heap.size := by rw [← HW.out]; simp
  have HQ1 : Hid (QE w.heap.size e w1) := hid (HQ.out.below hgW hb1)
  have hn1 : 62 + e.path.length < n := by rw [← HN.out]; unfold entLen; omega
  have hn2 : n ≤ 5000 := by rw [← HN.out]; unfold entLen; omega
  have hnlt : w.heap.size < w1.heap.size := Nat.lt_of_lt_of_le hgW hb1.size
  clear hb1
  obtain ⟨g, HG⟩ : ∃ g, Hid (w1.heap.size = g) := ⟨_, rfl⟩
  obtain ⟨W2, HW2⟩ : ∃ W2, Hid (w1.alloc (.cells (List.replicate n (.int .u8 0)).toArray 5) = W2) := ⟨_, rfl⟩
  have hmk : (Instr.makeSlice 23 (.int .i64 (n : Int)) (.int .i64 (n : Int))).run Tryz.prog w1 = .ok (.slice (some ⟨g, 0, none⟩) n n) W2 := by rw [← HG.out, ← HW2.out]; exact mk_bytes n (by omega) w1
  have HR0 : Hid (Rw w1 W2 g (zs n)) := hid (by rw [← HG.out, ← HW2.out]; exact rw_made n w1)
  have HQA : Hid (∀ X L, Rw w1 X g L → QE w.heap.size e X) := fun X L hX => HQ1.out.below hnlt (by rw [HG.out]; exact hX.below)
  have CP : Hid (∀ L k m X, Rw w1 X g L → L.length = n → 0 ≤ m → m < 4294967296 → k + 4 ≤ n → Calls Tryz.prog 11 #[.slice (some ⟨g, k, none⟩) (n - k) (n - k), .int .i64 m] X fun ev w' => (∃ v, ev = .returned v) ∧ Rw w1 w' g (ov L k (nb 4 m.toNat))) := fun L k m X hX hL h0 h1 hk => by
    have := put_any hX k (n - k) (n - k) (by omega) (by omega) m.toNat (by omega)
    rwa [Int.toNat_of_nonneg h0] at this
  clear al HW HW2
  go_wp2_with fail
  generalize HD : w.heap.size = D at *
  have HR0d : Hid (Rw w1 W2.drew g (zs n)) := hid ⟨HR0.out.below.trans ⟨rfl, rfl, rfl, Nat.le_refl _, fun _ _ => rfl⟩, HR0.out.lt, HR0.out.cell⟩
  refine wp_region_held_drew (S := QE D e) (by kernel_rfl) (HQA.out _ _ HR0d.out) (fun hHeld => ?_)
  generalize W2.drew = wd at hHeld HR0d ⊢
  refine takeL (i := 0) (v := ?_) rfl (by kernel_rfl) (by kernel_rfl) (by kernel_rfl) (fun _ _ _ h => h) (Or.inl ⟨by rfl, ?_⟩) hHeld ?_
  rotate_left
  · rintro w' ⟨sr, s0, s1, s22, s23⟩; go_simp; rfl
  try simp only [Act.put, List.setIfInBounds_toArray, List.set_cons_zero, List.set_cons_succ]
  refine takeL (i := 1) (v := .slice (some ⟨g, 24, none⟩) (n - 24 : Nat) (n - 24 : Nat)) rfl (by kernel_rfl) (by kernel_rfl) (by kernel_rfl) (fun _ _ _ h => h) (Or.inl ⟨by rfl, ?_⟩) hHeld ?_
  · rintro w' ⟨sr, s0, s1, s22, s23⟩; go_simp; rw [if_pos (by omega), if_neg (by omega)]
  try simp only [Act.put, List.setIfInBounds_toArray, List.set_cons_zero, List.set_cons_succ]
  refine takeL (i := 2) (v := ?_) rfl (by kernel_rfl) (by kernel_rfl) (by kernel_rfl) (fun _ _ _ h => h) (Or.inl ⟨by rfl, ?_⟩) hHeld ?_
  rotate_left
  · rintro w' ⟨sr, s0, s1, s22, s23⟩; go_simp; rfl
  try simp only [Act.put, List.setIfInBounds_toArray, List.set_cons_zero, List.set_cons_succ]
  refine takeL (i := 3) (v := ?_) rfl (by kernel_rfl) (by kernel_rfl) (by kernel_rfl) (fun _ _ _ h => h) (Or.inl ⟨by rfl, ?_⟩) hHeld ?_
  rotate_left
  · rintro w' ⟨sr, s0, s1, s22, s23⟩; go_simp; rfl
  try simp only [Act.put, List.setIfInBounds_toArray, List.set_cons_zero, List.set_cons_succ]
  refine wpAnyH_ready (rs := [4]) (by kernel_rfl) (by simp) ?_
  refine consL rfl (fun KK hKK => ?_) AllReadyH.nil
  refine step_callv (by rfl) 11 [.tmp 9, .tmp 11] _ [.slice (some ⟨g, 24, none⟩) (n - 24 : Nat) (n - 24 : Nat), .int .i64 e.mode] _ (by rfl) (by rfl) (enter11 _ _) (CP.out _ 24 e.mode _ HR0d.out (zs_len n) hm.1 hm.2 (by omega)) ?_
  rintro ev w3 ⟨⟨rv, rfl⟩, hr⟩
  refine ⟨_, rfl, ?_⟩
  refine hKK.out _ _ (HQA.out _ _ hr) (fun hHeld2 => ?_)
  clear hKK KK
  have HR1 := hid hr
  clear hr
  try simp only [Act.put, List.setIfInBounds_toArray, List.set_cons_zero, List.set_cons_succ]
  refine wpAnyH_done (by kernel_rfl) ?_ _
  clear hHeld hHeld2
  go_wp2_with fail
  have HR1d : Hid (Rw w1 w3.drew g (ov (zs n) 24 (nb 4 e.mode.toNat))) := hid ⟨HR1.out.below.trans ⟨rfl, rfl, rfl, Nat.le_refl _, fun _ _ => rfl⟩, HR1.out.lt, HR1.out.cell⟩
  refine wp_region_held_drew (S := QE D e) (by kernel_rfl) (HQA.out _ _ HR1d.out) (fun hHeld => ?_)
  generalize w3.drew = wd3 at hHeld HR1d ⊢
  refine takeL (i := 0) (v := ?_) rfl (by kernel_rfl) (by kernel_rfl) (by kernel_rfl) (fun _ _ _ h => h) (Or.inl ⟨by rfl, ?_⟩) hHeld ?_
  rotate_left
  · rintro w' ⟨sr, s0, s1, s22, s23⟩; go_simp; rfl
  try simp only [Act.put, List.setIfInBounds_toArray, List.set_cons_zero, List.set_cons_succ]
  refine takeL (i := 1) (v := .slice (some ⟨g, 36, none⟩) (n - 36 : Nat) (n - 36 : Nat)) rfl (by kernel_rfl) (by kernel_rfl) (by kernel_rfl) (fun _ _ _ h => h) (Or.inl ⟨by rfl, ?_⟩) hHeld ?_
  · rintro w' ⟨sr, s0, s1, s22, s23⟩; go_simp; rw [if_pos (by omega), if_neg (by omega)]
  try simp only [Act.put, List.setIfInBounds_toArray, List.set_cons_zero, List.set_cons_succ]
  refine takeL (i := 2) (v := ?_) rfl (by kernel_rfl) (by kernel_rfl) (by kernel_rfl) (fun _ _ _ h => h) (Or.inl ⟨by rfl, ?_⟩) hHeld ?_
  rotate_left
  · rintro w' ⟨sr, s0, s1, s22, s23⟩; go_simp; rfl
  try simp only [Act.put, List.setIfInBounds_toArray, List.set_cons_zero, List.set_cons_succ]
  refine takeL (i := 3) (v := ?_) rfl (by kernel_rfl) (by kernel_rfl) (by kernel_rfl) (fun _ _ _ h => h) (Or.inl ⟨by rfl, ?_⟩) hHeld ?_
  rotate_left
  · rintro w' ⟨sr, s0, s1, s22, s23⟩; go_simp; rfl
  try simp only [Act.put, List.setIfInBounds_toArray, List.set_cons_zero, List.set_cons_succ]
  refine wpAnyH_ready (rs := [4]) (by kernel_rfl) (by simp) ?_
  refine consL rfl (fun KK hKK => ?_) AllReadyH.nil
  refine step_callv (by rfl) 11 [.tmp 14, .tmp 16] _ [.slice (some ⟨g, 36, none⟩) (n - 36 : Nat) (n - 36 : Nat), .int .i64 e.size] _ (by rfl) (by rfl) (enter11 _ _) (CP.out _ 36 e.size _ HR1d.out (by rw [ov_len _ _ _ (by rw [nb_len, zs_len]; omega), zs_len]) hs.1 hs.2 (by omega)) ?_
  rintro ev w4 ⟨⟨rv, rfl⟩, hr⟩
  refine ⟨_, rfl, ?_⟩
  refine hKK.out _ _ (HQA.out _ _ hr) (fun hHeld2 => ?_)
  clear hKK KK
  have HR2 := hid hr
  clear hr
  try simp only [Act.put, List.setIfInBounds_toArray, List.set_cons_zero, List.set_cons_succ]
  refine wpAnyH_done (by kernel_rfl) ?_ _
  clear hHeld hHeld2
  go_wp2_with fail
  have HR2d : Hid (Rw w1 w4.drew g (ov (ov (zs n) 24 (nb 4 e.mode.toNat)) 36 (nb 4 e.size.toNat))) := hid ⟨HR2.out.below.trans ⟨rfl, rfl, rfl, Nat.le_refl _, fun _ _ => rfl⟩, HR2.out.lt, HR2.out.cell⟩
  refine wp_region_held_drew (S := QE D e) (by kernel_rfl) (HQA.out _ _ HR2d.out) (fun hHeld => ?_)
  generalize w4.drew = wd4 at hHeld HR2d ⊢
  refine takeL (i := 0) (v := ?_) rfl (by kernel_rfl) (by kernel_rfl) (by kernel_rfl) (fun _ _ _ h => h) (Or.inl ⟨by rfl, ?_⟩) hHeld ?_
  rotate_left
  · rintro w' ⟨sr, s0, s1, s22, s23⟩; go_simp; rfl
  try simp only [Act.put, List.setIfInBounds_toArray, List.set_cons_zero, List.set_cons_succ]
  refine takeL (i := 1) (v := .slice (some ⟨g, 40, none⟩) (n - 40 : Nat) (n - 40 : Nat)) rfl (by kernel_rfl) (by kernel_rfl) (by kernel_rfl) (fun _ _ _ h => h) (Or.inl ⟨by rfl, ?_⟩) hHeld ?_
  · rintro w' ⟨sr, s0, s1, s22, s23⟩; go_simp; rw [if_pos (by omega), if_neg (by omega)]
  try simp only [Act.put, List.setIfInBounds_toArray, List.set_cons_zero, List.set_cons_succ]
  refine takeL (i := 2) (v := ?_) rfl (by kernel_rfl) (by kernel_rfl) (by kernel_rfl) (fun _ _ _ h => h) (Or.inl ⟨by rfl, ?_⟩) hHeld ?_
  rotate_left
  · rintro w' ⟨sr, s0, s1, s22, s23⟩; go_simp; rfl
  try simp only [Act.put, List.setIfInBounds_toArray, List.set_cons_zero, List.set_cons_succ]
  refine takeL (i := 3) (v := .slice (some ⟨D, 2, none⟩) 20 20) rfl (by kernel_rfl) (by kernel_rfl) (by kernel_rfl) (fun _ _ _ h => h) (Or.inl ⟨by rfl, ?_⟩) hHeld ?_
  · rintro w' ⟨sr, s0, s1, s22, s23⟩; go_simp; try rfl
  try simp only [Act.put, List.setIfInBounds_toArray, List.set_cons_zero, List.set_cons_succ]
  have hl2 : (ov (ov (zs n) 24 (nb 4 e.mode.toNat)) 36 (nb 4 e.size.toNat)).length = n := by
    have k1 : (ov (zs n) 24 (nb 4 e.mode.toNat)).length = n := by rw [ov_len _ _ _ (by rw [nb_len, zs_len]; omega), zs_len]
    rw [ov_len _ _ _ (by rw [nb_len, k1]; omega), k1]
  refine wpAnyH_ready (rs := [4]) (by kernel_rfl) (by simp) ?_
  refine consL rfl (fun KK hKK => ?_) AllReadyH.nil
  refine step_copy2 (by rfl) (.tmp 19) (.tmp 21) 23 23 _ _ _ _ (by rfl) (by rfl) (by rfl) (copy_rw HR2d.out 40 (n - 40) (n - 40) D 2 20 20 e.id (by rw [h, hl2]; omega) (by rw [h]; show 20 = min 20 (n - 40); omega) hHeld.id _) ?_
  have HR3 := hid (HR2d.out.over 40 e.id (by rw [h, hl2]; omega))
  generalize wd4.setCells g 40 (bv e.id) = w5 at HR3 ⊢
  refine hKK.out _ _ (HQA.out _ _ HR3.out) (fun hHeld2 => ?_)
  clear hKK KK
  try simp only [Act.put, List.setIfInBounds_toArray, List.set_cons_zero, List.set_cons_succ]
  refine wpAnyH_done (by kernel_rfl) ?_ _
  clear hHeld
  have hl3 : (ov (ov (ov (zs n) 24 (nb 4 e.mode.toNat)) 36 (nb 4 e.size.toNat)) 40 e.id).length = n := by rw [ov_len _ _ _ (by rw [h, hl2]; omega), hl2]
  obtain ⟨L3, HL3⟩ : ∃ L, Hid (ov (ov (ov (zs n) 24 (nb 4 e.mode.toNat)) 36 (nb 4 e.size.toNat)) 40 e.id = L) := ⟨_, rfl⟩
  rw [HL3.out] at hl3 HR3
  obtain ⟨f1, f2⟩ := HR3.out.cell 60 (by omega)
  obtain ⟨f3, f4⟩ := HR3.out.cell 61 (by omega)
  obtain ⟨p, HP⟩ : ∃ p, Hid (e.path.length = p) := ⟨_, rfl⟩
  obtain ⟨P, HPP⟩ : ∃ P : ByteArray, Hid (⟨e.path.toArray⟩ = P) := ⟨_, rfl⟩
  have hP : P.size = p := by rw [← HPP.out, txt_len]; exact HP.out
  have c0 := hHeld2.c0
  have c23 := hHeld2.c23
  obtain ⟨t, HT⟩ : ∃ t : Nat, Hid (e.stage = (t : Int)) := ⟨e.stage.toNat, by show e.stage = _; omega⟩
  have ht3 : t ≤ 3 := by have := HT.out; omega
  rw [HT.out] at c23
  rw [HPP.out] at c0
  rw [HP.out] at hp hn1
  clear ht hHeld2 hm hs
  have HId : Hid (e.id.length = 20) := h
  clear h
  go_wp2_with fail
  have HR4 : Hid (Rw w1 ((w5.setCell ⟨g, 60, none⟩ (.int .u8 (((t : Int) * 4096 + (p : Int)) / 256))).setCell ⟨g, 61, none⟩ (.int .u8 (((t : Int) * 4096 + (p : Int)) % 256))) g (ov L3 60 (nb 2 (t * 4096 + p)))) := hid (by
    have k1 := HR3.out.set 60 (UInt8.ofNat ((t * 4096 + p) / 256 ^ 1)) (by omega)
    have k2 := k1.set 61 (UInt8.ofNat ((t * 4096 + p) / 256 ^ 0)) (by rw [List.length_set]; omega)
    rw [set_two _ 60 _ _ (by omega)] at k2
    have q1 : ((UInt8.ofNat ((t * 4096 + p) / 256 ^ 1)).toNat : Int) = ((t : Int) * 4096 + (p : Int)) / 256 := by simp; omega
    have q2 : ((UInt8.ofNat ((t * 4096 + p) / 256 ^ 0)).toNat : Int) = ((t : Int) * 4096 + (p : Int)) % 256 := by simp; omega
    rw [q1, q2] at k2
    exact k2)
  clear f1 f2 f3 f4 c0 c23
  generalize (w5.setCell ⟨g, 60, none⟩ (.int .u8 (((t : Int) * 4096 + (p : Int)) / 256))).setCell ⟨g, 61, none⟩ (.int .u8 (((t : Int) * 4096 + (p : Int)) % 256)) = w6 at HR4 ⊢
  have hl4 : (ov L3 60 (nb 2 (t * 4096 + p))).length = n := by rw [ov_len _ _ _ (by rw [nb_len]; omega), hl3]
  have HR4d : Hid (Rw w1 w6.drew g (ov L3 60 (nb 2 (t * 4096 + p)))) := hid ⟨HR4.out.below.trans ⟨rfl, rfl, rfl, Nat.le_refl _, fun _ _ => rfl⟩, HR4.out.lt, HR4.out.cell⟩
  refine wp_region_held_drew (S := QE D e) (by kernel_rfl) (HQA.out _ _ HR4d.out) (fun hHeld => ?_)
  generalize w6.drew = wd6 at hHeld HR4d ⊢
  refine takeL (i := 0) (v := ?_) rfl (by kernel_rfl) (by kernel_rfl) (by kernel_rfl) (fun _ _ _ h => h) (Or.inl ⟨by rfl, ?_⟩) hHeld ?_
  rotate_left
  · rintro w' ⟨sr, s0, s1, s22, s23⟩; go_simp; rfl
  try simp only [Act.put, List.setIfInBounds_toArray, List.set_cons_zero, List.set_cons_succ]
  refine takeL (i := 1) (v := .slice (some ⟨g, 62, none⟩) (n - 62 : Nat) (n - 62 : Nat)) rfl (by kernel_rfl) (by kernel_rfl) (by kernel_rfl) (fun _ _ _ h => h) (Or.inl ⟨by rfl, ?_⟩) hHeld ?_
  · rintro w' ⟨sr, s0, s1, s22, s23⟩; go_simp; rw [if_pos (by omega), if_neg (by omega)]
  try simp only [Act.put, List.setIfInBounds_toArray, List.set_cons_zero, List.set_cons_succ]
  refine takeL (i := 2) (v := ?_) rfl (by kernel_rfl) (by kernel_rfl) (by kernel_rfl) (fun _ _ _ h => h) (Or.inl ⟨by rfl, ?_⟩) hHeld ?_
  rotate_left
  · rintro w' ⟨sr, s0, s1, s22, s23⟩; go_simp; rfl
  try simp only [Act.put, List.setIfInBounds_toArray, List.set_cons_zero, List.set_cons_succ]
  refine takeL (i := 3) (v := ?_) rfl (by kernel_rfl) (by kernel_rfl) (by kernel_rfl) (fun _ _ _ h => h) (Or.inl ⟨by rfl, ?_⟩) hHeld ?_
  rotate_left
  · rintro w' ⟨sr, s0, s1, s22, s23⟩; go_simp; rfl
  try simp only [Act.put, List.setIfInBounds_toArray, List.set_cons_zero, List.set_cons_succ]
  refine wpAnyH_ready (rs := [4]) (by kernel_rfl) (by simp) ?_
  refine consL rfl (fun KK hKK => ?_) AllReadyH.nil
  refine step_copy2 (by rfl) (.tmp 40) (.tmp 42) 23 9 _ _ _ _ (by rfl) (by rfl) (by rfl) (copy_str HR4d.out 62 (n - 62) (n - 62) e.path (by rw [HP.out, hl4]; omega) (by rw [HP.out]; omega) _) ?_
  have HR5 := hid (HR4d.out.over 62 e.path (by rw [HP.out, hl4]; omega))
  generalize wd6.setCells g 62 (bv e.path) = w7 at HR5 ⊢
  refine hKK.out _ _ (HQA.out _ _ HR5.out) (fun hHeld2 => ?_)
  clear hKK KK
  try simp only [Act.put, List.setIfInBounds_toArray, List.set_cons_zero, List.set_cons_succ]
  refine wpAnyH_done (by kernel_rfl) ?_ _
  clear hHeld hHeld2
  go_wp2
  go_ret
  refine ⟨g, rfl, Nat.le_of_lt (by rw [← HG.out, HD]; exact hnlt), ?_, by rw [HD]; exact HB1.out.trans (HR5.out.below.mono (by rw [← HG.out]; exact Nat.le_of_lt hnlt))⟩
  have hf : ov (ov L3 60 (nb 2 (t * 4096 + p))) 62 e.path = entB e := by
    rw [← HL3.out]
    have hr : n = 62 + e.path.length + (entLen e.path.length - (62 + e.path.length)) := by rw [HN.out, HP.out]; omega
    rw [hr, ent_over _ _ _ _ _ _ (nb_len _ _) (nb_len _ _) HId.out (nb_len _ _)]
    unfold entB
    rw [show e.stage.toNat = t by have := HT.out; omega, HP.out]
  have := HR5.out.pb
  rw [hf, entB_len e HId.out, HN.out] at this
  exact this
end Go.Proofs.YtcicoeneemnbiaaGreatDoor
