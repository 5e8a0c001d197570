/- The law 'WireLines'. -/
import Derived.Test.YtbcbikdfidmecaaDoorWcF
namespace Go.Proofs.YtbcbikdfidmecaaDoor
open Go.RowKit
set_option linter.unusedVariables false
set_option linter.unusedSimpArgs false
def dR : Nat × Str := (0, [])
def hR (r : Nat × Str) : Hdr := (some ⟨r.1, 0, none⟩, r.2.length + 2, r.2)
theorem Room.blk {w w' : World} {g : Nat} {zs : List Int} (h : Room w g zs) (e : w'.heap[g]? = w.heap[g]?) (hs : w.heap.size ≤ w'.heap.size) : Room w' g zs :=
  ⟨Nat.lt_of_lt_of_le h.lt hs, fun i hi => (World.cell?_of_block (a := ⟨g, i, none⟩) e).trans (h.cell i hi), (World.cell?_of_block (a := ⟨g, zs.length, none⟩) e).trans h.c71, (World.cell?_of_block (a := ⟨g, zs.length + 1, none⟩) e).trans h.c72, fun i => by
    have := h.fz i
    simp only [World.frozen?] at this ⊢
    rw [e]; exact this⟩
/-- Copies with spare room, in a row of one's own. -/
structure RR (w W : World) (G : Nat) (v : Value) (rs : List (Nat × Str)) : Prop where
  bt : BT w W G v (rs.map hR)
  room : ∀ i, i < rs.length → Room W (rs.getD i dR).1 (nums (rs.getD i dR).2) ∧ G ≤ (rs.getD i dR).1 ∧ v.ownBlock ≠ some (rs.getD i dR).1
  dist : ∀ i j, i < j → j < rs.length → (rs.getD i dR).1 ≠ (rs.getD j dR).1
theorem rr_nil (w : World) (G : Nat) (h : G = w.heap.size) : RR w w G (.slice none 0 0) [] := ⟨bt_nil w G h, fun i hi => absurd hi (by simp), fun i j _ hj => absurd hj (by simp)⟩
theorem BT.more2 {w0 W : World} {B : Nat} {v : Value} {ts : List Hdr} (h : BT w0 W B v ts) (hn : ts.length ≤ 20000) (t : Hdr) (g : Nat) (hg : W.cell? ⟨g, 0, none⟩ = some (.slice t.1 t.2.2.length t.2.1)) (ty : TypeId) :
    ∃ v' W', (Builtin.append_ #[22, 22] ty #[v, .slice (some ⟨g, 0, none⟩) 1 1]).run Tryd.prog W = .ok v' W' ∧ BT w0 W' B v' (ts ++ [t]) ∧ W.grownBy W' v.ownBlock ∧ (v'.ownBlock = v.ownBlock ∨ v'.ownBlock = some W.heap.size) := by
  obtain ⟨i, hi, hz0, hz1, hz2⟩ := info_parts info23
  obtain ⟨v', W', hr, h1, h2, _, h4⟩ := run_append_own_at (P := Tryd.prog) W B 22 ty 23 i _ 1 24 Tryd.underlying22 hi hz0 hz1 hz2 rfl (by decide) v _ _ h.own ⟨g, 0, none⟩ 1 1 [.slice t.1 t.2.2.length t.2.1] rfl (fun j x hj => by
    cases j with
    | zero => cases hj; rw [addr_add]; exact hg
    | succ j => simp at hj) (fun x hx => by rw [List.mem_singleton.1 hx]; rfl) (by unfold maxLen; omega) (by omega) h.le
  refine ⟨v', W', hr, ⟨h.below.grown h2 h.le (fun k hk => (own_lt h.own k hk).1), ?_, Nat.le_trans h.le h2.size⟩, h2, h4⟩
  rw [List.length_append, List.flatMap_append]
  exact h1
theorem RR.more {w W W1 : World} {G : Nat} {v : Value} {rs : List (Nat × Str)} (h : RR w W G v rs) (hn : rs.length ≤ 20000) (hb : Below W.heap.size W W1) (g : Nat) (hgW : W.heap.size = g) (s : Str) (hr : Room W1 g (nums s)) (n : Nat) (hsn : s.length = n) :
    ∃ v' W', (Builtin.append_ #[22, 22] 22 #[v, .slice (some ⟨W1.heap.size, 0, none⟩) 1 1]).run Tryd.prog (W1.alloc (.cells #[.slice (some ⟨g, 0, none⟩) n (n + 2)] 23)) = .ok v' W' ∧ RR w W' G v' (rs ++ [(g, s)]) := by
  subst hsn
  have hb2 : Below W.heap.size W (W1.alloc (.cells #[.slice (some ⟨g, 0, none⟩) s.length (s.length + 2)] 23)) := hb.alloc hb.size _
  have hbt := h.bt.carry hb2
  obtain ⟨v', W', hr', h1, h2, h3⟩ := BT.more2 hbt (by rw [List.length_map]; exact hn) (hR (g, s)) W1.heap.size (by
    have := cell_of_row (W1.alloc (.cells #[.slice (some ⟨g, 0, none⟩) s.length (s.length + 2)] 23)) W1.heap.size 0 _ 23 (0, 0) (heap_alloc_new W1 _)
    rw [this]; rfl) 22
  have hG : G ≤ g := by rw [← hgW]; exact h.bt.le
  have hvg : v.ownBlock ≠ some g := fun e => by
    have := (own_lt h.bt.own g e).2
    omega
  have hsz : W1.heap.size < (W1.alloc (.cells #[.slice (some ⟨g, 0, none⟩) s.length (s.length + 2)] 23)).heap.size := by simp
  have hg1 := hr.lt
  have el : ∀ i, i < rs.length → (rs ++ [(g, s)]).getD i dR = rs.getD i dR := fun i hi => by
    rw [List.getD_eq_getElem?_getD, List.getD_eq_getElem?_getD, List.getElem?_append_left hi]
  have ev : (rs ++ [(g, s)]).getD rs.length dR = (g, s) := by
    rw [List.getD_eq_getElem?_getD, List.getElem?_append_right (Nat.le_refl _), Nat.sub_self]; rfl
  have hne : ∀ k, k < W1.heap.size → v.ownBlock ≠ some k → v'.ownBlock ≠ some k := fun k hk hv e => by
    rcases h3 with h3 | h3
    · exact hv (h3 ▸ e)
    · rw [h3] at e
      have := Option.some.inj e
      omega
  refine ⟨v', W', hr', by rw [List.map_append]; exact h1, fun i hi => ?_, fun i j hij hj => ?_⟩
  · rw [List.length_append, List.length_singleton] at hi
    by_cases e : i < rs.length
    · rw [el i e]
      obtain ⟨k1, k2, k3⟩ := h.room i e
      have k4 := k1.below hb2
      exact ⟨k4.blk (h2.block _ k4.lt (fun e => k3 e.symm)) h2.size, k2, hne _ (Nat.lt_of_lt_of_le k1.lt hb.size) k3⟩
    · obtain rfl : i = rs.length := by omega
      rw [ev]
      have k4 := hr.below ((Below.refl _ W1).alloc (Nat.le_refl _) (.cells #[.slice (some ⟨g, 0, none⟩) s.length (s.length + 2)] 23))
      exact ⟨k4.blk (h2.block _ k4.lt (fun e => hvg e.symm)) h2.size, hG, hne _ hg1 hvg⟩
  · rw [List.length_append, List.length_singleton] at hj
    rw [el i (by omega)]
    by_cases e : j < rs.length
    · rw [el j e]
      exact h.dist i j hij e
    · obtain rfl : j = rs.length := by omega
      rw [ev]
      have := (h.room i (by omega)).1.lt
      show (rs.getD i dR).1 ≠ g
      omega
/-- While the copies are spoilt, one by one. -/
structure P4 (G : Nat) (w5 W : World) (rs : List (Nat × Str)) (i : Nat) : Prop where
  bl : Below G w5 W
  size : w5.heap.size ≤ W.heap.size
  blk : ∀ k, k < w5.heap.size → (∀ j, j < i → j < rs.length → (rs.getD j dR).1 ≠ k) → W.heap[k]? = w5.heap[k]?
theorem P4.drew {G : Nat} {w5 W : World} {rs : List (Nat × Str)} {i : Nat} (h : P4 G w5 W rs i) : P4 G w5 W.drew rs i := ⟨Below.drewR h.bl, h.size, h.blk⟩
theorem P4.step {G : Nat} {w5 W W' : World} {rs : List (Nat × Str)} {i : Nat} (h : P4 G w5 W rs i) (hG5 : G ≤ w5.heap.size) (hi : i < rs.length) (hg : W.grownBy W' (some (rs.getD i dR).1)) (hG : G ≤ (rs.getD i dR).1) : P4 G w5 W' rs (i + 1) :=
  ⟨h.bl.grown hg (Nat.le_trans hG5 h.size) (fun k hk => by cases hk; exact hG), Nat.le_trans h.size hg.size, fun k hk hne => by
    rw [hg.block k (Nat.lt_of_lt_of_le hk h.size) (fun e => hne i (by omega) hi (by cases e; rfl))]
    exact h.blk k hk (fun j hj => hne j (by omega))⟩
theorem pktB_map (ts : List Hdr) : pktB ts = pktL (ts.map (·.2.2)) := by unfold pktB pktL; rw [List.flatMap_map]
theorem okLs_map (ts : List Hdr) : okLs ts ↔ okL (ts.map (·.2.2)) := by
  unfold okLs okL
  constructor
  · intro h x hx
    obtain ⟨t, h1, rfl⟩ := List.mem_map.1 hx
    exact h t h1
  · intro h t ht
    exact h _ (List.mem_map.2 ⟨t, ht, rfl⟩)
theorem hR_map (rs : List (Nat × Str)) : (rs.map hR).map (·.2.2) = rs.map (·.2) := by rw [List.map_map]; rfl
theorem enter6 (x y : Value) (w : World) : (callFunc 6 #[x, y]).run Tryd.prog w = .ok (.enter 6 #[x, y]) w := by kernel_rfl
set_option maxRecDepth 20000 in
theorem walkL_long (a b : Option Addr) (n cap m cb : Nat) (w : World) (h : 60 < n ∨ 6000 < m) : Calls Tryd.prog 3 #[.slice a n cap, .slice b m cb] w fun e w' => e = .returned (.bool true) ∧ Below w.heap.size w w' := by
  by_cases h1 : 60 < n
  · have h1i : (60 : Int) < (n : Int) := by omega
    clear h
    go_enter Tryd.func3, Tryd.ntmps3
    go_wp2
    go_ret
    exact ⟨rfl, Below.refl _ _⟩
  · have h1i : ¬ (60 : Int) < (n : Int) := by omega
    have h2i : (6000 : Int) < (m : Int) := by omega
    clear h
    go_enter Tryd.func3, Tryd.ntmps3
    go_wp2
    go_ret
    exact ⟨rfl, Below.refl _ _⟩
end Go.Proofs.YtbcbikdfidmecaaDoor
