/- What a round keeps that makes one variable's slice grow; 'slices.Chunk'. -/
import Derived.Test.YtblegkefeiefjaaDoorRgA
import Derived.Sort.LoopGhostIn
namespace Go.Proofs.YtblegkefeiefjaaDoor
open Go.RowKit Go.Shelf Plain
set_option linter.unusedVariables false
set_option linter.unusedSimpArgs false

/-- The row of the slice that variable X holds. -/
def Ob (X : Nat) (W : World) (k : Nat) : Prop := ∃ v, W.cell? ⟨X, 0, none⟩ = some v ∧ v.ownBlock = some k
structure Kx (X l : Nat) (A B : World) : Prop where
  os : B.os = A.os
  tape : B.tape = A.tape
  output : B.output = A.output
  size : A.heap.size ≤ B.heap.size
  at_ : ∀ k, Ob X B k → Ob X A k ∨ A.heap.size ≤ k
  blk : ∀ k, k < A.heap.size → k ≠ X → k ≠ l → ¬ Ob X A k → B.heap[k]? = A.heap[k]?
  bd : (∀ k, Ob X A k → k < A.heap.size) → ∀ k, Ob X B k → k < B.heap.size
theorem Kx.refl (X l : Nat) (A : World) : Kx X l A A := ⟨rfl, rfl, rfl, Nat.le_refl _, fun _ h => .inl h, fun _ _ _ _ _ => rfl, fun h => h⟩
theorem Kx.trans {X l : Nat} {A B C : World} (h : Kx X l A B) (k : Kx X l B C) : Kx X l A C := by
  have hs := h.size
  refine ⟨k.os.trans h.os, k.tape.trans h.tape, k.output.trans h.output, Nat.le_trans h.size k.size, fun i hi => ?_, fun i h1 h2 h3 h4 => ?_, fun hb => k.bd (h.bd hb)⟩
  · rcases k.at_ i hi with g | g
    · exact h.at_ i g
    · exact .inr (by omega)
  · refine (k.blk i (by omega) h2 h3 (fun ho => ?_)).trans (h.blk i h1 h2 h3 h4)
    rcases h.at_ i ho with g | g
    · exact h4 g
    · omega
theorem Kx.grow {X l : Nat} {A B : World} (hX : X < A.heap.size) (h : A.grownBy B none) : Kx X l A B :=
  ⟨h.os, h.tape, h.output, h.size, fun k ⟨v, h1, h2⟩ => .inl ⟨v, by rw [← h1]; exact (World.cell?_of_block (a := ⟨X, 0, none⟩) (h.block X hX (by simp))).symm, h2⟩, fun k h1 _ _ _ => h.block k h1 (by simp), fun hb k ⟨v, h1, h2⟩ => Nat.lt_of_lt_of_le (hb k ⟨v, by rw [← h1]; exact (World.cell?_of_block (a := ⟨X, 0, none⟩) (h.block X hX (by simp))).symm, h2⟩) h.size⟩
theorem Kx.loop {X l : Nat} {W : World} {r r' : Loop} (hX : X ≠ l) : Kx X l W (W.putObj l (.loop r')) :=
  ⟨rfl, rfl, rfl, by rw [World.putObj_size]; exact Nat.le_refl _, fun k ⟨v, h1, h2⟩ => .inl ⟨v, by rw [← h1]; exact (World.cell?_of_block (a := ⟨X, 0, none⟩) (World.putObj_heap_other hX)).symm, h2⟩, fun k h1 _ h3 _ => World.putObj_heap_other h3, fun hb k ⟨v, h1, h2⟩ => by rw [World.putObj_size]; exact hb k ⟨v, by rw [← h1]; exact (World.cell?_of_block (a := ⟨X, 0, none⟩) (World.putObj_heap_other hX)).symm, h2⟩⟩
/-- The variable's slice grows, and is stored. -/
theorem Kx.mv {X l : Nat} {W W1 : World} {v v1 : Value} (hb : Boxed W X 22 v) (h : Mv W W1 v v1) (hne : some X ≠ v.ownBlock) (hlt : ∀ k, v1.ownBlock = some k → k < W1.heap.size) : Kx X l W (W1.setCell ⟨X, 0, none⟩ v1) := by
  have hX := hb.lt
  have hs := h.size
  have hb1 : W1.heap[X]? = W.heap[X]? := h.blk X hX hne
  have hc : (W1.setCell ⟨X, 0, none⟩ v1).cell? ⟨X, 0, none⟩ = some v1 := World.cell?_setCell_same (u := v) _ _ _ ((World.cell?_of_block (a := ⟨X, 0, none⟩) hb1).trans hb.cell)
  refine ⟨h.os, h.tape, h.output, by simp [World.setCell]; exact hs, fun k ⟨u, h1, h2⟩ => ?_, fun k h1 h2 h3 h4 => ?_, fun _ k ⟨u, h1, h2⟩ => by rw [hc] at h1; cases h1; simp [World.setCell]; exact hlt k h2⟩
  · rw [hc] at h1
    cases h1
    rcases h.at_ with g | g
    · exact .inl ⟨v, hb.cell, by rw [← g]; exact h2⟩
    · exact .inr (g k h2)
  · rw [Below.heap_setCell _ _ _ k h2]
    exact h.blk k h1 (fun e => h4 ⟨v, hb.cell, e.symm⟩)
/-- What is kept: a block that is neither the variable's nor its row's nor the loop's. -/
theorem Kx.keep {X l k : Nat} {A B : World} (h : Kx X l A B) (h1 : k < A.heap.size) (h2 : k ≠ X) (h3 : k ≠ l) (h4 : ¬ Ob X A k) : B.heap[k]? = A.heap[k]? := h.blk k h1 h2 h3 h4
/-- Bytes that a slice has, in blocks that are kept. -/
structure Fre (X : Nat) (w : World) (k : Nat) : Prop where
  lt : k < w.heap.size
  ne : k ≠ X
  no : ¬ Ob X w k
theorem Fre.kx {X l k : Nat} {A B : World} (h : Fre X A k) (hk : Kx X l A B) : Fre X B k :=
  ⟨Nat.lt_of_lt_of_le h.lt hk.size, h.ne, fun ho => by rcases hk.at_ k ho with g | g; exact h.no g; have := h.lt; omega⟩
theorem Sl.kx {X l : Nat} {A B : World} {a : Option Addr} {cap : Nat} {c : List Int} (h : Sl A a cap c) (hk : Kx X l A B) (hf : ∀ p : Addr, a = some p → Fre X A p.block ∧ p.block ≠ l) : Sl B a cap c :=
  ⟨h.capl, fun h0 => by
    obtain ⟨b, off, e1, e2, e3⟩ := h.at_ h0
    obtain ⟨f1, f2⟩ := hf _ e1
    exact ⟨b, off, e1, Nat.lt_of_lt_of_le e2 hk.size, fun i hi => (World.cell?_of_block (a := ⟨b, off + i, none⟩) (hk.blk b f1.lt f1.ne f2 f1.no)).trans (e3 i hi)⟩, h.nil⟩
theorem boxed_kx {X l B t : Nat} {v : Value} {A W : World} (h : Boxed A B t v) (hk : Kx X l A W) (hf : Fre X A B) (hl : B ≠ l) : Boxed W B t v := (hk.blk B hf.lt hf.ne hl hf.no).trans h
theorem grown_drewN1 (w : World) : w.grownBy w.drew none := ⟨rfl, rfl, rfl, Nat.le_refl _, fun _ _ _ => rfl⟩
theorem take_min_len {α : Type} (l : List α) (n : Nat) : l.take (min n l.length) = l.take n := by
  rcases Nat.le_total n l.length with h | h
  · rw [Nat.min_eq_left h]
  · rw [Nat.min_eq_right h, List.take_of_length_le h, List.take_of_length_le (Nat.le_refl _)]
/-- A chunk. -/
structure Ch where
  ad : Option Addr
  cap : Nat
  c : List Int
def Ch.enc (x : Ch) : Array Value := #[.slice x.ad x.c.length x.cap]
def Ch.Fx (X : Nat) (x : Ch) (W : World) : Prop := Sl W x.ad x.cap x.c ∧ 0 < x.c.length ∧ x.c.length ≤ 127 ∧ ∀ p : Addr, x.ad = some p → Fre X W p.block
def eo (cs : List (List Int)) : List Int := cs.flatMap fun c => (c.length : Int) :: c
theorem eo_snoc (cs : List (List Int)) (c : List Int) : eo (cs ++ [c]) = eo cs ++ ((c.length : Int) :: c) := by simp [eo]
def SCh (s : List Int) (xs : List Ch) : Prop := eo (xs.map (·.c)) = own s
set_option maxRecDepth 100000 in
set_option maxHeartbeats 4000000 in
theorem chunk1_all (n : Nat) (hn : 1 ≤ n) (w : World) (X Bs Bn : Nat) (as_ : Option Addr) (cs : Nat) (s : List Int) (hS : Sl w as_ cs s) (hz : IsB s) (hl : s.length ≤ 400000) (hbs : Boxed w Bs 22 (.slice as_ s.length cs)) (hbn : Boxed w Bn 3 (.int .i64 127))
    (hX : X < w.heap.size) (fs : Fre X w Bs) (fn : Fre X w Bn) (fa : ∀ p : Addr, as_ = some p → Fre X w p.block) :
    SeqAll Fence.wide n Tryd.prog 41 #[.pointer (some ⟨Bs, 0, none⟩), .pointer (some ⟨Bn, 0, none⟩)] Ch.enc (Ch.Fx X) (Kx X) (SCh s) (s.length + 1) w := by
  intro l J W hW hwl hlW hJ hY h0
  have hXW : X < W.heap.size := Nat.lt_of_lt_of_le hX hW.size
  have K0 : Kx X l w W := ⟨hW.os, hW.tape, hW.output, hW.size, fun k ⟨v, h1, h2⟩ => .inl ⟨v, by rw [← h1]; exact (hW.cell (p := ⟨X, 0, none⟩) hX).symm, h2⟩, fun k h1 _ _ _ => hW.block k h1, fun hb k ⟨v, h1, h2⟩ => Nat.lt_of_lt_of_le (hb k ⟨v, by rw [← h1]; exact (hW.cell (p := ⟨X, 0, none⟩) hX).symm, h2⟩) hW.size⟩
  refine callsIn_of_wp Tryd.func41 rfl trivial ?_ rfl
  simp only [Tryd.ntmps41, List.size_toArray, List.length_cons, List.length_nil, Nat.reduceAdd, Nat.reduceSub, Array.replicate_succ, Array.replicate_zero, List.push_toArray, List.append_toArray, List.nil_append, List.cons_append]
  gi_wp2
  gi_loopg [4] s.length (fun k v wr => ∃ (i : Nat) (pre : List Ch), v = .int .i64 i ∧ k = s.length - i ∧ i ≤ s.length + 127 ∧ Hid (Kx X l w wr) ∧ Hid (J pre wr) ∧ Hid (eo (pre.map (·.c)) ++ own (s.drop i) = own s) ∧ Hid (pre.length ≤ i) ∧ Hid (pre.length ≤ s.length))
  case atStart => exact ⟨0, [], rfl, rfl, by omega, K0, h0, by show _ = _; rfl, by show _ ≤ _; simp, by show _ ≤ _; simp⟩
  case round =>
    obtain ⟨i, pre, rfl, hk, hi, HK, HJ, HE, HP, HPL⟩ := hrel
    have ks := (boxed_kx hbs HK.out fs (by have := fs.lt; omega)).cell
    have kn := (boxed_kx hbn HK.out fn (by have := fn.lt; omega)).cell
    obtain ⟨L, HL⟩ : ∃ L, Hid (L = s.length) := ⟨_, rfl⟩
    have hLl : L ≤ 400000 := by rw [HL.out]; exact hl
    rw [← HL.out] at ks hi hk
    by_cases hiL : i < L
    · have hiI : (i : Int) < L := by omega
      obtain ⟨b, off, rfl, hb, hat⟩ := hS.at_ (by rw [← HL.out]; omega)
      have hcs : L ≤ cs := by rw [HL.out]; exact hS.capl
      obtain ⟨ad, HAD⟩ : ∃ ad, Hid ((if cs = i then some (⟨b, off, none⟩ : Addr) else some ⟨b, off + i, none⟩) = ad) := ⟨_, rfl⟩
      have had := HAD.out
      have hiN : i ≤ L := by omega
      obtain ⟨D, HD⟩ : ∃ D, Hid (L - i = D) := ⟨_, rfl⟩
      have hD := HD.out
      obtain ⟨e, HE2⟩ : ∃ e, Hid (e = min 127 D) := ⟨_, rfl⟩
      have hmin : (if (D : Int) < 127 then (D : Int) else 127) = (e : Int) := by rw [HE2.out]; split <;> omega
      gi_wp2
      refine wpIn_wide.2 ?_
      refine wp_region_held_drew (S := fun w' => w'.cell? ⟨Bs, 0, none⟩ = some (.slice (some ⟨b, off, none⟩) L cs) ∧ w'.cell? ⟨Bn, 0, none⟩ = some (.int .i64 127)) (by kernel_rfl) ⟨ks, kn⟩ (fun hHeld => ?_)
      refine takeL (i := 0) (v := ?_) rfl (by kernel_rfl) (by kernel_rfl) (by kernel_rfl) (fun _ _ _ h => h) (Or.inl ⟨by rfl, ?_⟩) hHeld ?_
      rotate_left
      · rintro w' ⟨s0, s1⟩; go_simp; rfl
      try simp only [Act.put, List.setIfInBounds_toArray, List.set_cons_zero, List.set_cons_succ]
      refine takeL (i := 1) (v := ?_) rfl (by kernel_rfl) (by kernel_rfl) (by kernel_rfl) (fun _ _ _ h => h) (Or.inl ⟨by rfl, ?_⟩) hHeld ?_
      rotate_left
      · rintro w' ⟨s0, s1⟩; go_simp; rfl
      try simp only [Act.put, List.setIfInBounds_toArray, List.set_cons_zero, List.set_cons_succ]
      refine takeL (i := 2) (v := ?_) rfl (by kernel_rfl) (by kernel_rfl) (by kernel_rfl) (fun _ _ _ h => h) (Or.inl ⟨by rfl, ?_⟩) hHeld ?_
      rotate_left
      · rintro w' ⟨s0, s1⟩; go_simp; rfl
      try simp only [Act.put, List.setIfInBounds_toArray, List.set_cons_zero, List.set_cons_succ]
      refine takeL (i := 3) (v := ?_) rfl (by kernel_rfl) (by kernel_rfl) (by kernel_rfl) (fun _ _ _ h => h) (Or.inl ⟨by rfl, ?_⟩) hHeld ?_
      rotate_left
      · rintro w' ⟨s0, s1⟩; go_simp; rfl
      try simp only [Act.put, List.setIfInBounds_toArray, List.set_cons_zero, List.set_cons_succ]
      refine takeL (i := 4) (v := ?_) rfl (by kernel_rfl) (by kernel_rfl) (by kernel_rfl) (fun _ _ _ h => h) (Or.inl ⟨by rfl, ?_⟩) hHeld ?_
      rotate_left
      · rintro w' ⟨s0, s1⟩; go_simp; rfl
      try simp only [Act.put, List.setIfInBounds_toArray, List.set_cons_zero, List.set_cons_succ]
      refine takeL (i := 5) (v := ?_) rfl (by kernel_rfl) (by kernel_rfl) (by kernel_rfl) (fun _ _ _ h => h) (Or.inl ⟨by rfl, ?_⟩) hHeld ?_
      rotate_left
      · rintro w' ⟨s0, s1⟩; go_simp; rfl
      try simp only [Act.put, List.setIfInBounds_toArray, List.set_cons_zero, List.set_cons_succ]
      refine takeL (i := 6) (v := ?_) rfl (by kernel_rfl) (by kernel_rfl) (by kernel_rfl) (fun _ _ _ h => h) (Or.inl ⟨by rfl, ?_⟩) hHeld ?_
      rotate_left
      · rintro w' ⟨s0, s1⟩; go_simp; rfl
      try simp only [Act.put, List.setIfInBounds_toArray, List.set_cons_zero, List.set_cons_succ]
      refine wpAnyH_done (by kernel_rfl) ?_ _
      have hDp : 0 < D := by have := HD.out; omega
      have hep : 0 < e := by rw [HE2.out]; omega
      have he127 : e ≤ 127 := by rw [HE2.out]; omega
      have heD : e ≤ D := by rw [HE2.out]; omega
      have hcl : ((s.drop i).take e).length = e := by rw [List.length_take, List.length_drop, ← HL.out, HD.out]; omega
      have hgd : wr.grownBy wr.drew none := grown_drewN1 wr
      have hSx : Sl wr.drew (some ⟨b, off + i, none⟩) e ((s.drop i).take e) := by
        have hSr : Sl wr.drew (some ⟨b, off, none⟩) cs s := (hS.kx HK.out (fun p hp => ⟨fa p hp, by have := (fa p hp).lt; omega⟩)).below ⟨rfl, rfl, rfl, Nat.le_refl _, fun _ _ => rfl⟩
        refine ⟨by rw [hcl]; exact Nat.le_refl _, fun _ => ?_, fun h => by cases h⟩
        obtain ⟨b2, off2, e1, e2, e3⟩ := hSr.at_ (by rw [← HL.out]; omega)
        cases e1
        exact ⟨b, off + i, rfl, e2, at_sub e3 i e (by rw [← HL.out]; have := HD.out; omega)⟩
      have HPI : Hid (pre.length < s.length + 1) := by have := HPL.out; show _ < _; omega
      obtain ⟨x, Hx⟩ : ∃ x : Ch, Hid (x = ⟨some ⟨b, off + i, none⟩, e, (s.drop i).take e⟩) := ⟨_, rfl⟩
      have HXC : Hid (x.c = (s.drop i).take e) := by rw [Hx.out]; rfl
      have hxe : x.enc = #[.slice (some ⟨b, off + i, none⟩) e e] := by rw [Hx.out]; unfold Ch.enc; rw [hcl]
      have hfx : x.Fx X wr.drew := by rw [Hx.out]; exact ⟨hSx, by rw [hcl]; exact hep, by rw [hcl]; exact he127, fun p hp => by cases hp; exact (fa ⟨b, off, none⟩ rfl).kx (HK.out.trans (Kx.grow (l := l) (Nat.lt_of_lt_of_le hX HK.out.size) (grown_drewN1 wr)))⟩
      obtain ⟨fn_, tmps, assign, body, hy, hR⟩ := hY pre x wr.drew (hJ _ _ _ HJ.out hgd) hfx HPI.out
      rw [hxe] at hy
      have HCL : Hid (((s.drop i).take e).length = e) := hcl
      have hie : (i : Int) + e ≤ cs := by have := HD.out; omega

      clear hSx hgd hat hxe hfx hcl Hx
      gi_wp2
      refine hR.mono ?_
      rintro e1 W3 ⟨rfl, hJ3, hk3⟩
      have HK3 : Hid (Kx X l w W3) := (HK.out.trans (Kx.grow (Nat.lt_of_lt_of_le hX HK.out.size) (grown_drewN1 wr))).trans hk3
      have HJ3 : Hid _ := hJ3
      have kn3 := (boxed_kx hbn HK3.out fn (by have := fn.lt; omega)).cell
      clear hJ3 hk3
      gi_wp2
      gi_roundg (L - (i + 127))
      case measure => omega
      case rel =>
        refine ⟨i + 127, pre ++ [x], by go_num, by rw [← HL.out], by rw [← HL.out]; omega, HK3.out, HJ3.out, ?_, ?_, ?_⟩
        · show _ = _
          rw [← HE.out, List.map_append, List.map_singleton, eo_snoc, List.append_assoc, HXC.out]
          congr 1
          have hne : s.drop i ≠ [] := by intro h; have := congrArg List.length h; simp at this; have := HL.out; omega
          rw [own_eq (s.drop i) hne, HCL.out, List.drop_drop]
          have hd1 : min 127 (s.drop i).length = e := by rw [List.length_drop, ← HL.out, HD.out, HE2.out]
          rw [hd1]
          have hd2 : (s.drop i).take e = (s.drop i).take 127 := by rw [← hd1, take_min_len]
          rw [hd2]
        · show _ ≤ _
          have := HP.out
          simp; omega
        · show _ ≤ _
          have := HP.out
          have := HL.out
          simp; omega
    · have hiI : ¬ (i : Int) < L := by omega
      gi_wp2
      go_end0
      refine ⟨⟨_, rfl⟩, pre, ?_, HJ.out⟩
      have := HE.out
      rw [List.drop_of_length_le (by rw [← HL.out]; omega), own_nil, List.append_nil] at this
      exact this
end Go.Proofs.YtblegkefeiefjaaDoor
