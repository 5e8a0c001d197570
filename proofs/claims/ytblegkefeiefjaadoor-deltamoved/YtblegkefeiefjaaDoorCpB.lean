/- 'appendSize'. -/
import Derived.Test.YtblegkefeiefjaaDoorCpA
namespace Go.Proofs.YtblegkefeiefjaaDoor
open Go.RowKit Go.Maps Plain
set_option linter.unusedVariables false
set_option linter.unusedSimpArgs false

/-- A slice that has grown: nothing else has turned. -/
structure Mv (w w' : World) (v v' : Value) : Prop where
  os : w'.os = w.os
  tape : w'.tape = w.tape
  output : w'.output = w.output
  size : w.heap.size ≤ w'.heap.size
  blk : ∀ k, k < w.heap.size → some k ≠ v.ownBlock → w'.heap[k]? = w.heap[k]?
  at_ : v'.ownBlock = v.ownBlock ∨ ∀ k, v'.ownBlock = some k → w.heap.size ≤ k
theorem Mv.refl (w : World) (v : Value) : Mv w w v v := ⟨rfl, rfl, rfl, Nat.le_refl _, fun _ _ _ => rfl, .inl rfl⟩
theorem Mv.trans {a b c : World} {u v x : Value} (h : Mv a b u v) (k : Mv b c v x) : Mv a c u x := by
  have hs := h.size
  refine ⟨k.os.trans h.os, k.tape.trans h.tape, k.output.trans h.output, Nat.le_trans h.size k.size, fun i hi hn => ?_, ?_⟩
  · refine (k.blk i (by omega) (fun e => ?_)).trans (h.blk i hi hn)
    rcases h.at_ with g | g
    · exact hn (e.trans g)
    · have := g i e.symm; omega
  · rcases k.at_ with g | g
    · rcases h.at_ with g' | g'
      · exact .inl (g.trans g')
      · exact .inr fun i hi => g' i (g ▸ hi)
    · exact .inr fun i hi => by have := g i hi; omega
theorem Mv.app {w wx w1 : World} {v v' : Value} (h0 : w.grownBy wx none) (hg : wx.grownBy w1 v.ownBlock) (hl : v'.ownBlock = v.ownBlock ∨ v'.ownBlock = some wx.heap.size) : Mv w w1 v v' := by
  have hs := h0.size
  refine ⟨hg.os.trans h0.os, hg.tape.trans h0.tape, hg.output.trans h0.output, Nat.le_trans h0.size hg.size, fun k hk hn => (hg.block k (by omega) hn).trans (h0.block k hk (by simp)), ?_⟩
  rcases hl with h | h
  · exact .inl h
  · exact .inr fun k hk => by rw [h] at hk; simp at hk; omega
theorem Mv.below {w w' : World} {v v' : Value} (h : Mv w w' v v') {B : Nat} (hB : ∀ k, v.ownBlock = some k → B ≤ k) (hw : B ≤ w.heap.size) : Below B w w' :=
  ⟨h.os, h.tape, h.output, h.size, fun k hk => h.blk k (by omega) (fun e => by have := hB k e.symm; omega)⟩
theorem Mv.drew {w w' : World} {v v' : Value} (h : Mv w w' v v') (n : Nat) : Mv w (w'.drewN n) v v' := ⟨h.os, h.tape, h.output, h.size, h.blk, h.at_⟩
def PostO (w : World) (B : Nat) (v : Value) (l : List Int) (e : Ending) (w' : World) : Prop := ∃ v', e = .returned v' ∧ w'.ownsRow B 5 1 v' l.length (l.map (Value.int .u8)) ∧ Mv w w' v v'
theorem or128 : ∀ x, x < 256 → bits .or .u8 ((x : Nat) : Int) 128 = ((x % 128 + 128 : Nat) : Int) := by decide +kernel
theorem hg_alloc (w : World) (o : Obj) : w.grownBy (w.alloc o) none := World.grownBy_alloc w o none
set_option maxRecDepth 10000 in
set_option maxHeartbeats 1000000 in
theorem appendSize_any (B : Nat) (v : Value) (out : List Int) (n : Nat) (w : World) (hn : n < 34359738368) (ho : out.length ≤ 300000) (hB : B ≤ w.heap.size) (hown : w.ownsRow B 5 1 v out.length (out.map (Value.int .u8))) :
    Calls Tryd.prog 20 #[v, .int .i64 n] w (PostO w B v (out ++ szw n)) := by
  obtain ⟨i5, hi, hz0, hz1, hz2⟩ := info_parts Tryd.infoB
  have HO : Hid _ := hown
  have HLS : Hid ((out ++ szw n).length ≤ 300006) := by
    show _ ≤ _
    have := wsz_len 5 n (by omega)
    simp only [List.length_append, szw]; omega
  obtain ⟨R, HR⟩ : ∃ R, Hid (R = out ++ szw n) := ⟨_, rfl⟩
  rw [← HR.out] at HLS ⊢
  clear hown
  go_enter Tryd.func20, Tryd.ntmps20
  go_wp2_with fail
  go_loopg [0, 1] n (fun k u nn wr => ∃ (m f : Nat) (l : List Int), nn = .int .i64 m ∧ k = m ∧ m < 34359738368 ∧ Hid (m < 2 ^ (7 * f + 7)) ∧ Hid (l ++ wsz f m = R) ∧ Hid (wr.ownsRow B 5 1 u l.length (l.map (Value.int .u8))) ∧ Hid (Mv w wr v u))
  case atStart => exact ⟨n, 5, out, rfl, rfl, hn, by show n < 2 ^ 42; omega, HR.out.symm, HO.out, Mv.refl _ _⟩
  case round =>
    rename_i u
    obtain ⟨m, f, l, rfl, hk, hm, HF, HL, HOW, HMV⟩ := hrel
    have hll : l.length ≤ 300006 := by have := HLS.out; rw [← HL.out] at this; simp at this; omega
    have hBr : B ≤ wr.heap.size := Nat.le_trans hB HMV.out.size
    by_cases hm8 : m < 128
    · have hmI : ¬ (128 : Int) ≤ m := by omega
      have hmw : (m : Int) % 256 = m := by omega
      have HLE : Hid (R = l ++ [(m : Int)]) := by
        show _ = _
        rw [← HL.out]
        cases f with
        | zero => rfl
        | succ f => rw [wsz_succ, if_pos hm8]
      go_wp2_with (at_builtin; refine wpList_append_own_at _ rfl _ _ 22 rfl B 5 i5 (.int .u8 0) 1 1 Tryd.underlying22 hi hz0 hz1 hz2 rfl (by decide) _ l.length _ rfl (HOW.out.alloc _) ⟨wr.heap.size, 0, none⟩ 1 1 [.int .u8 m] rfl rfl (cell_one_new _ _ _) (ints_oneCell .u8 [(m : Int)]) (by unfold maxLen; omega) (by omega) (by simp; omega) ?_; intro v' w1 hown' hgrow hnil hloc; have HO1 : Hid _ := hown'; have HM1 : Hid _ := HMV.out.trans (Mv.app (hg_alloc wr _) hgrow hloc); clear hown' hgrow hnil hloc)
      go_ret
      refine ⟨_, rfl, ?_, HM1.out⟩
      rw [HLE.out, List.length_append, List.map_append]
      exact HO1.out
    · have hmI : (128 : Int) ≤ m := by omega
      obtain ⟨y, HY⟩ : ∃ y, Hid (y = m % 256) := ⟨_, rfl⟩
      have hyI : (m : Int) % 256 = (y : Int) := by rw [HY.out]; omega
      have hy : y < 256 := by rw [HY.out]; omega
      obtain ⟨z, HZ⟩ : ∃ z, Hid (z = m % 128 + 128) := ⟨_, rfl⟩
      have hor : bits .or .u8 (y : Int) 128 = (z : Int) := by rw [or128 y hy, HZ.out, HY.out]; congr 2; omega
      obtain ⟨q, HQ⟩ : ∃ q, Hid (q = m / 128) := ⟨_, rfl⟩
      have hq1 : (m : Int) / 128 = (q : Int) := by rw [HQ.out]; omega
      have hql : q < m := by rw [HQ.out]; omega
      obtain ⟨f', hf'⟩ : ∃ f', f = f' + 1 := by
        cases f with
        | zero => exfalso; have h1 : m < 2 ^ 7 := HF.out; omega
        | succ f => exact ⟨f, rfl⟩
      subst hf'
      have HF2 : Hid (q < 2 ^ (7 * f' + 7)) := by
        show _ < _
        rw [HQ.out, Nat.div_lt_iff_lt_mul (by omega)]
        have := HF.out
        rw [show 7 * (f' + 1) + 7 = (7 * f' + 7) + 7 by omega, Nat.pow_add] at this
        exact this
      have HL2 : Hid ((l ++ [(z : Int)]) ++ wsz f' q = R) := by
        show _ = _
        rw [← HL.out, wsz_succ, if_neg hm8, ← HZ.out, ← HQ.out]; simp
      go_wp2_with (at_builtin; refine wpList_append_own_at _ rfl _ _ 22 rfl B 5 i5 (.int .u8 0) 1 1 Tryd.underlying22 hi hz0 hz1 hz2 rfl (by decide) _ l.length _ rfl (HOW.out.alloc _) ⟨wr.heap.size, 0, none⟩ 1 1 [.int .u8 z] rfl rfl (cell_one_new _ _ _) (ints_oneCell .u8 [(z : Int)]) (by unfold maxLen; omega) (by omega) (by simp; omega) ?_; intro v' w1 hown' hgrow hnil hloc; have HO1 : Hid _ := hown'; have HM1 : Hid _ := HMV.out.trans (Mv.app (hg_alloc wr _) hgrow hloc); clear hown' hgrow hnil hloc)
      go_roundg q
      case measure => rw [hk]; exact hql
      case rel => exact ⟨q, f', l ++ [(z : Int)], rfl, rfl, by omega, HF2.out, HL2.out, by show World.ownsRow _ _ _ _ _ _ _; rw [List.length_append, List.map_append]; exact HO1.out, HM1.out⟩
end Go.Proofs.YtblegkefeiefjaaDoor
