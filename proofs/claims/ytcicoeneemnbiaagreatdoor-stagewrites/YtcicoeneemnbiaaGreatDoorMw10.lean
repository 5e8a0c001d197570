import Derived.Test.YtcicoeneemnbiaaGreatDoorMw09
namespace Go.Proofs.YtcicoeneemnbiaaGreatDoor
open Go.RowKit
set_option linter.unusedVariables false
set_option linter.unusedSimpArgs false
def bth (s : Str) : Nat := (s.getD 60 0).toNat * 256 + (s.getD 61 0).toNat
def endE (s : Str) : Nat := min (62 + bth s % 4096) s.length
def rdE (s : Str) : Ey := ⟨((s.drop 62).take (endE s - 62)), (bn ((s.drop 24).take 4) : Nat), (s.drop 40).take 20, (bn ((s.drop 36).take 4) : Nat), (bth s / 4096 : Nat)⟩
structure Q1 (b off : Nat) (x y : UInt8) (W : World) : Prop where
  c0 : W.cell? ⟨b, off + 60, none⟩ = some (.int .u8 (x.toNat : Int))
  c1 : W.cell? ⟨b, off + 61, none⟩ = some (.int .u8 (y.toNat : Int))
theorem Below.drewR {B : Nat} {w w' : World} (h : Below B w w') : Below B w w'.drew := h.trans ⟨rfl, rfl, rfl, Nat.le_refl _, fun _ _ => rfl⟩
theorem step_store_new {P : Program} {ops : Array Oper} {o : Oper} {a : Act} {w : World} {K : Act → World → Prop} {Q : Exit → Act → World → Prop} {E : Prop} (hg : o.guard = none) (ty : TypeId) (x y : Operand) (ho : o.op = .store ty x y) (c c' : Array Value)
    (hx : a.eval x = .pointer (some ⟨w.heap.size, 0, none⟩)) (hy : a.eval y = .agg c') (hi : (P.info? ty).map (·.size) = some c'.size) (hc : c.size = c'.size) (h1 : c'.all (·.oneCell') = true) (h : K (a.put o.dst undef) (w.alloc (.cells c' ty))) :
    if Region.wanted o (yielded ops a.tmps) = true then Oper.wp P o a (w.alloc (.cells c ty)) K Q else E := by
  refine step_skip hg ?_ h
  unfold execOp
  simp only [ho, hx, hy, Sem.run_bind, Sem.run_pure, Result.andThen_ok, run_storeAt_new w ty c c' hi hc h1]
theorem built32 (p : Str) (m z t : Int) : Tryz.prog.built 32 [(0, .string ⟨p.toArray⟩), (1, .int .i64 m), (3, .int .i64 z), (4, .int .i64 t)] = some (encY ⟨p, m, zs 20, z, t⟩).toArray := by kernel_rfl
theorem enter72 (x : Value) (w : World) : (callFunc 72 #[x]).run Tryz.prog w = .ok (.enter 72 #[x]) w := by kernel_rfl
theorem row_id {W : World} {g : Nat} {e : Ey} (m : Str) (hm : m.length = 20) (hi : e.id.length = 20) (h : ∀ (j : Nat) (v : Value), (encY e)[j]? = some v → W.cell? ⟨g, j, none⟩ = some v) : (W.setCells g 2 (bv m)).rangeAt g 0 (encY ⟨e.path, e.mode, m, e.size, e.stage⟩) := by
  have hsome : ∀ j, j < (bv m).length → (W.cell? ⟨g, 2 + j, none⟩).isSome = true := fun j hj => by
    rw [bv_len, hm] at hj
    have hl : 2 + j < (encY e).length := by rw [encY_len e hi]; omega
    rw [h (2 + j) _ (List.getElem?_eq_getElem hl)]
    rfl
  intro j v hv
  rw [Nat.zero_add]
  by_cases h1 : j < 2
  · rw [World.cell?_setCells_out _ _ _ _ _ (fun _ _ => .inl h1)]
    refine h j v ?_
    rcases (show j = 0 ∨ j = 1 by omega) with rfl | rfl
    · exact hv
    · exact hv
  · by_cases h2 : j < 22
    · obtain ⟨k, rfl⟩ : ∃ k, j = 2 + k := ⟨j - 2, by omega⟩
      have hk : k < (bv m).length := by rw [bv_len, hm]; omega
      rw [World.cell?_setCells_in _ _ _ _ hsome k hk, ← List.getElem?_eq_getElem hk]
      unfold encY at hv
      rw [Nat.add_comm 2 k, List.getElem?_cons_succ, List.getElem?_cons_succ, List.getElem?_append_left hk] at hv
      exact hv
    · obtain ⟨k, rfl⟩ : ∃ k, j = k + 2 := ⟨j - 2, by omega⟩
      rw [World.cell?_setCells_out _ _ _ _ _ (fun _ _ => .inr (by show 2 + (bv m).length ≤ k + 2; rw [bv_len, hm]; omega))]
      refine h (k + 2) v ?_
      unfold encY at hv ⊢
      rw [List.getElem?_cons_succ, List.getElem?_cons_succ, List.getElem?_append_right (by rw [bv_len]; show m.length ≤ k; omega), bv_len] at hv
      rw [List.getElem?_cons_succ, List.getElem?_cons_succ, List.getElem?_append_right (by rw [bv_len]; omega), bv_len, hi]
      simp only [hm] at hv
      exact hv
structure Q3 (ad : Option Addr) (cap m : Nat) (p : Str) (W : World) : Prop where
  cv : (convert 23 9 (.slice ad m (cap - 62 : Nat))).run Tryz.prog W = .ok (sV p) W
set_option maxRecDepth 20000 in
set_option maxHeartbeats 2000000 in
theorem readEntry_any {w : World} (a : Option Addr) (cap : Nat) (s : Str) (hP : PB w a cap s) (h62 : 62 ≤ s.length) (hl : s.length ≤ 1000000000) :
    Calls Tryz.prog 61 #[.slice a s.length cap] w fun ev w' => ev = .returned (.agg (encY (rdE s)).toArray) ∧ Below w.heap.size w w' := by
  obtain ⟨b, off, rfl, hbl, _⟩ := hP.at_ (by omega)
  have hcap := hP.capl
  obtain ⟨n, HN⟩ : ∃ n, Hid (s.length = n) := ⟨_, rfl⟩
  obtain ⟨G, HG⟩ : ∃ G, Hid (w.heap.size = G) := ⟨_, rfl⟩
  have HPW : Hid (∀ W, Below G w W → PB W (some ⟨b, off, none⟩) cap s) := fun W hW => hP.below (by rw [HG.out]; exact hW)
  rw [HN.out] at h62 hl hcap ⊢
  clear hP
  go_enter Tryz.func61, Tryz.ntmps61
  go_wp2_with fail
  obtain ⟨Z, HZ⟩ : ∃ Z : Array Value, Hid (Z = #[.string ⟨#[]⟩, .int .i64 0, .int .u8 0, .int .u8 0, .int .u8 0, .int .u8 0, .int .u8 0, .int .u8 0, .int .u8 0, .int .u8 0, .int .u8 0, .int .u8 0, .int .u8 0, .int .u8 0, .int .u8 0, .int .u8 0, .int .u8 0, .int .u8 0, .int .u8 0, .int .u8 0, .int .u8 0, .int .u8 0, .int .i64 0, .int .i64 0]) := ⟨_, rfl⟩
  rw [← HZ.out, HG.out]
  have HB0 : Hid (Below G w (w.alloc (.cells Z 32)).drew) := hid (by rw [← HG.out]; exact Below.drewR ((Below.refl _ w).alloc (Nat.le_refl _) _))
  have HZ0 : Hid ((w.alloc (.cells Z 32)).drew.heap[G]? = some (.cells Z 32 (0, 0))) := hid (by rw [← HG.out]; exact heap_alloc_new w _)
  obtain ⟨x, HX⟩ : ∃ x, Hid (s.getD 60 0 = x) := ⟨_, rfl⟩
  obtain ⟨y, HY⟩ : ∃ y, Hid (s.getD 61 0 = y) := ⟨_, rfl⟩
  have HQ : Hid (Q1 b off x y (w.alloc (.cells Z 32)).drew) := hid (by
    have hp := HPW.out _ HB0.out
    exact ⟨by rw [← HX.out]; exact PB.cell hp 60 (by rw [HN.out]; omega), by rw [← HY.out]; exact PB.cell hp 61 (by rw [HN.out]; omega)⟩)
  refine wp_region_held_drew (S := Q1 b off x y) (by kernel_rfl) HQ.out (fun hHeld => ?_)
  generalize (w.alloc (.cells Z 32)).drew = w1 at hHeld HB0 HZ0 HQ ⊢
  have h60 : (60 : Int) < (n : Int) := by omega
  have h61 : (61 : Int) < (n : Int) := by omega
  have hx := x.toNat_lt
  have hy := y.toNat_lt
  have hor := or_add64 x.toNat y.toNat (by omega) (by omega) (by omega) (by omega)
  refine takeL (i := 0) (v := ?_) rfl (by kernel_rfl) (by kernel_rfl) (by kernel_rfl) (fun _ _ _ h => h) (Or.inl ⟨by rfl, ?_⟩) hHeld ?_
  rotate_left
  · rintro w' ⟨s0, s1⟩; go_simp; rfl
  try simp only [Act.put, List.setIfInBounds_toArray, List.set_cons_zero, List.set_cons_succ]
  refine takeL (i := 1) (v := .pointer (some ⟨b, off + 60, none⟩)) rfl (by kernel_rfl) (by kernel_rfl) (by kernel_rfl) (fun _ _ _ h => h) (Or.inl ⟨by rfl, ?_⟩) hHeld ?_
  · rintro w' ⟨s0, s1⟩; go_simp; first | done | (rw [if_pos (by omega)]) | rfl
  try simp only [Act.put, List.setIfInBounds_toArray, List.set_cons_zero, List.set_cons_succ]
  refine takeL (i := 2) (v := ?_) rfl (by kernel_rfl) (by kernel_rfl) (by kernel_rfl) (fun _ _ _ h => h) (Or.inl ⟨by rfl, ?_⟩) hHeld ?_
  rotate_left
  · rintro w' ⟨s0, s1⟩; go_simp; rfl
  try simp only [Act.put, List.setIfInBounds_toArray, List.set_cons_zero, List.set_cons_succ]
  refine takeL (i := 3) (v := .int .i64 (x.toNat : Int)) rfl (by kernel_rfl) (by kernel_rfl) (by kernel_rfl) (fun _ _ _ h => h) (Or.inl ⟨by rfl, ?_⟩) hHeld ?_
  · rintro w' ⟨s0, s1⟩; go_simp; first | done | (rw [IntKind.wrap_i64]; omega) | (rw [hor]) | rfl
  try simp only [Act.put, List.setIfInBounds_toArray, List.set_cons_zero, List.set_cons_succ]
  refine takeL (i := 4) (v := .int .i64 ((x.toNat : Int) * 256)) rfl (by kernel_rfl) (by kernel_rfl) (by kernel_rfl) (fun _ _ _ h => h) (Or.inl ⟨by rfl, ?_⟩) hHeld ?_
  · rintro w' ⟨s0, s1⟩; go_simp; first | done | (rw [IntKind.wrap_i64]; omega) | (rw [hor]) | rfl
  try simp only [Act.put, List.setIfInBounds_toArray, List.set_cons_zero, List.set_cons_succ]
  refine takeL (i := 5) (v := ?_) rfl (by kernel_rfl) (by kernel_rfl) (by kernel_rfl) (fun _ _ _ h => h) (Or.inl ⟨by rfl, ?_⟩) hHeld ?_
  rotate_left
  · rintro w' ⟨s0, s1⟩; go_simp; rfl
  try simp only [Act.put, List.setIfInBounds_toArray, List.set_cons_zero, List.set_cons_succ]
  refine takeL (i := 6) (v := .pointer (some ⟨b, off + 61, none⟩)) rfl (by kernel_rfl) (by kernel_rfl) (by kernel_rfl) (fun _ _ _ h => h) (Or.inl ⟨by rfl, ?_⟩) hHeld ?_
  · rintro w' ⟨s0, s1⟩; go_simp; first | done | (rw [if_pos (by omega)]) | rfl
  try simp only [Act.put, List.setIfInBounds_toArray, List.set_cons_zero, List.set_cons_succ]
  refine takeL (i := 7) (v := ?_) rfl (by kernel_rfl) (by kernel_rfl) (by kernel_rfl) (fun _ _ _ h => h) (Or.inl ⟨by rfl, ?_⟩) hHeld ?_
  rotate_left
  · rintro w' ⟨s0, s1⟩; go_simp; rfl
  try simp only [Act.put, List.setIfInBounds_toArray, List.set_cons_zero, List.set_cons_succ]
  refine takeL (i := 8) (v := .int .i64 (y.toNat : Int)) rfl (by kernel_rfl) (by kernel_rfl) (by kernel_rfl) (fun _ _ _ h => h) (Or.inl ⟨by rfl, ?_⟩) hHeld ?_
  · rintro w' ⟨s0, s1⟩; go_simp; first | done | (rw [IntKind.wrap_i64]; omega) | (rw [hor]) | rfl
  try simp only [Act.put, List.setIfInBounds_toArray, List.set_cons_zero, List.set_cons_succ]
  refine takeL (i := 9) (v := .int .i64 ((x.toNat : Int) * 256 + y.toNat)) rfl (by kernel_rfl) (by kernel_rfl) (by kernel_rfl) (fun _ _ _ h => h) (Or.inl ⟨by rfl, ?_⟩) hHeld ?_
  · rintro w' ⟨s0, s1⟩; go_simp; first | done | (rw [hor]) | rfl
  try simp only [Act.put, List.setIfInBounds_toArray, List.set_cons_zero, List.set_cons_succ]
  refine takeL (i := 10) (v := ?_) rfl (by kernel_rfl) (by kernel_rfl) (by kernel_rfl) (fun _ _ _ h => h) (Or.inl ⟨by rfl, ?_⟩) hHeld ?_
  rotate_left
  · rintro w' ⟨s0, s1⟩; go_simp; rfl
  try simp only [Act.put, List.setIfInBounds_toArray, List.set_cons_zero, List.set_cons_succ]
  refine wpAnyH_done (by kernel_rfl) ?_ _
  clear hHeld
  obtain ⟨B, HBt⟩ : ∃ B : Nat, Hid (B = x.toNat * 256 + y.toNat) := ⟨_, rfl⟩
  have hBi : (x.toNat : Int) * 256 + (y.toNat : Int) = (B : Int) := by rw [HBt.out]; omega
  have hB : B < 65536 := by rw [HBt.out]; omega
  rw [hBi]
  clear hor hx hy hBi
  go_wp2_with fail
  obtain ⟨E, HE⟩ : ∃ E : Nat, Hid (E = min (62 + B % 4096) n) := ⟨_, rfl⟩
  have hEi : min (62 + (B : Int) % 4096) (n : Int) = (E : Int) := by rw [HE.out]; omega
  have hE1 : 62 ≤ E := by rw [HE.out]; omega
  have hE2 : E ≤ n := by rw [HE.out]; omega
  rw [hEi]
  clear hEi HQ
  have HB1 : Hid (Below G w w1.drew) := hid (Below.drewR HB0.out)
  have HZ1 : Hid (w1.drew.heap[G]? = some (.cells Z 32 (0, 0))) := HZ0
  obtain ⟨pp, HPP⟩ : ∃ pp : Str, Hid ((s.drop 62).take (E - 62) = pp) := ⟨_, rfl⟩
  obtain ⟨ad, HAD⟩ : ∃ ad, Hid (adX 1 (some ⟨b, off, none⟩) cap 62 = ad) := ⟨_, rfl⟩
  have HQ3 : Hid (∀ W, Below G w W → Q3 ad cap (E - 62) pp W) := fun W hW => ⟨by
    have hm := (HPW.out W hW).mid 62 E hE1 (by rw [HN.out]; exact hE2)
    rw [HAD.out, HPP.out] at hm
    have := conv_str hm
    rwa [show pp.length = E - 62 by rw [← HPP.out, List.length_take, List.length_drop, HN.out]; omega] at this⟩
  have C72 : Hid (∀ k W, k + 4 ≤ n → k < cap → Below G w W → Calls Tryz.prog 72 #[.slice (some ⟨b, off + k, none⟩) (n - k : Nat) (cap - k : Nat)] W fun ev w' => ev = .returned (.int .i64 ((bn ((s.drop k).take 4) : Nat) : Int)) ∧ w' = W) := fun k W hk hkc hW => by
    have hm := (HPW.out W hW).from k (by rw [HN.out]; omega)
    rw [show adX 1 (some ⟨b, off, none⟩) cap k = some ⟨b, off + k, none⟩ by unfold adX; rw [if_neg (by omega), Option.map_some, addr_add, Nat.mul_one]] at hm
    have := num_any _ _ _ hm (by rw [List.length_drop, HN.out]; omega)
    rwa [List.length_drop, HN.out] at this
  refine wp_region_held_drew (S := Q3 ad cap (E - 62) pp) (by kernel_rfl) (HQ3.out _ HB1.out) (fun hHeld => ?_)
  generalize w1.drew = w2 at hHeld HB1 HZ1 ⊢
  obtain ⟨md, HMD⟩ : ∃ m : Nat, Hid (bn ((s.drop 24).take 4) = m) := ⟨_, rfl⟩
  obtain ⟨sz, HSZ⟩ : ∃ m : Nat, Hid (bn ((s.drop 36).take 4) = m) := ⟨_, rfl⟩
  refine takeL (i := 0) (v := ?_) rfl (by kernel_rfl) (by kernel_rfl) (by kernel_rfl) (fun _ _ _ h => h) (Or.inl ⟨by rfl, ?_⟩) hHeld ?_
  rotate_left
  · rintro w' ⟨s0⟩; go_simp; rfl
  try simp only [Act.put, List.setIfInBounds_toArray, List.set_cons_zero, List.set_cons_succ]
  refine takeL (i := 1) (v := ?_) rfl (by kernel_rfl) (by kernel_rfl) (by kernel_rfl) (fun _ _ _ h => h) (Or.inl ⟨by rfl, ?_⟩) hHeld ?_
  rotate_left
  · rintro w' ⟨s0⟩; go_simp; rfl
  try simp only [Act.put, List.setIfInBounds_toArray, List.set_cons_zero, List.set_cons_succ]
  refine takeL (i := 2) (v := .slice ad (E - 62 : Nat) (cap - 62 : Nat)) rfl (by kernel_rfl) (by kernel_rfl) (by kernel_rfl) (fun _ _ _ h => h) (Or.inl ⟨by rfl, ?_⟩) hHeld ?_
  · rintro w' ⟨s0⟩; rw [← HAD.out]; unfold adX; go_simp; rw [if_pos (by omega), if_pos (by omega)]; try rfl
  try simp only [Act.put, List.setIfInBounds_toArray, List.set_cons_zero, List.set_cons_succ]
  refine takeL (i := 3) (v := .string ⟨pp.toArray⟩) rfl (by kernel_rfl) (by kernel_rfl) (by kernel_rfl) (fun _ _ _ h => h) (Or.inl ⟨by rfl, ?_⟩) hHeld ?_
  · rintro w' ⟨s0⟩; unfold sV at s0; go_simp; try rfl
  try simp only [Act.put, List.setIfInBounds_toArray, List.set_cons_zero, List.set_cons_succ]
  refine takeL (i := 4) (v := ?_) rfl (by kernel_rfl) (by kernel_rfl) (by kernel_rfl) (fun _ _ _ h => h) (Or.inl ⟨by rfl, ?_⟩) hHeld ?_
  rotate_left
  · rintro w' ⟨s0⟩; go_simp; rfl
  try simp only [Act.put, List.setIfInBounds_toArray, List.set_cons_zero, List.set_cons_succ]
  refine takeL (i := 5) (v := .slice (some ⟨b, off + 24, none⟩) (n - 24 : Nat) (cap - 24 : Nat)) rfl (by kernel_rfl) (by kernel_rfl) (by kernel_rfl) (fun _ _ _ h => h) (Or.inl ⟨by rfl, ?_⟩) hHeld ?_
  · rintro w' ⟨s0⟩; go_simp; rw [if_pos (by omega), if_neg (by omega)]
  try simp only [Act.put, List.setIfInBounds_toArray, List.set_cons_zero, List.set_cons_succ]
  refine takeL (i := 7) (v := ?_) rfl (by kernel_rfl) (by kernel_rfl) (by kernel_rfl) (fun _ _ _ h => h) (Or.inl ⟨by rfl, ?_⟩) hHeld ?_
  rotate_left
  · rintro w' ⟨s0⟩; go_simp; rfl
  try simp only [Act.put, List.setIfInBounds_toArray, List.set_cons_zero, List.set_cons_succ]
  refine takeL (i := 8) (v := .slice (some ⟨b, off + 36, none⟩) (n - 36 : Nat) (cap - 36 : Nat)) rfl (by kernel_rfl) (by kernel_rfl) (by kernel_rfl) (fun _ _ _ h => h) (Or.inl ⟨by rfl, ?_⟩) hHeld ?_
  · rintro w' ⟨s0⟩; go_simp; rw [if_pos (by omega), if_neg (by omega)]
  try simp only [Act.put, List.setIfInBounds_toArray, List.set_cons_zero, List.set_cons_succ]
  refine takeL (i := 10) (v := ?_) rfl (by kernel_rfl) (by kernel_rfl) (by kernel_rfl) (fun _ _ _ h => h) (Or.inl ⟨by rfl, ?_⟩) hHeld ?_
  rotate_left
  · rintro w' ⟨s0⟩; go_simp; rfl
  try simp only [Act.put, List.setIfInBounds_toArray, List.set_cons_zero, List.set_cons_succ]
  refine takeL (i := 11) (v := .int .i64 ((B / 4096 : Nat) : Int)) rfl (by kernel_rfl) (by kernel_rfl) (by kernel_rfl) (fun _ _ _ h => h) (Or.inl ⟨by rfl, ?_⟩) hHeld ?_
  · rintro w' ⟨s0⟩; go_simp; first | done | (rw [IntKind.wrap_i64]; omega) | rfl
  try simp only [Act.put, List.setIfInBounds_toArray, List.set_cons_zero, List.set_cons_succ]
  obtain ⟨e0, HE0⟩ : ∃ e0 : Ey, Hid (e0 = ⟨pp, md, zs 20, sz, (B / 4096 : Nat)⟩) := ⟨_, rfl⟩
  have HI0 : Hid (e0.id.length = 20) := hid (by rw [HE0.out]; rfl)
  have HBU : Hid (Tryz.prog.built 32 [(0, .string ⟨pp.toArray⟩), (1, .int .i64 (md : Int)), (3, .int .i64 (sz : Int)), (4, .int .i64 ((B / 4096 : Nat) : Int))] = some (encY e0).toArray) := hid (by rw [HE0.out]; exact built32 _ _ _ _)
  have HCY := hid (cy e0 HI0.out)
  obtain ⟨C0, HC0⟩ : ∃ C0, Hid ((encY e0).toArray = C0) := ⟨_, rfl⟩
  rw [HC0.out] at HBU HCY
  have hzs : Z.size = 24 := by rw [HZ.out]; rfl
  have HGle : Hid (G ≤ w2.heap.size) := hid (by rw [← HG.out]; exact HB1.out.size)
  have HB2 : Hid (Below G w (w2.alloc (.cells Z 32))) := hid (HB1.out.alloc HGle.out _)
  have HB3 : Hid (Below G w (w2.alloc (.cells C0 32))) := hid (HB1.out.alloc HGle.out _)
  obtain ⟨m20, HM⟩ : ∃ m, Hid ((s.drop 40).take 20 = m) := ⟨_, rfl⟩
  have hm20 : m20.length = 20 := by rw [← HM.out, List.length_take, List.length_drop, HN.out]; omega
  have HFin : Hid (rdE s = ⟨e0.path, e0.mode, m20, e0.size, e0.stage⟩) := hid (by
    have hbt : bth s = B := by unfold bth; rw [HX.out, HY.out, HBt.out]
    have hen : endE s = E := by unfold endE; rw [hbt, HN.out, HE.out]
    unfold rdE
    rw [hen, hbt, HPP.out, HMD.out, HSZ.out, HM.out, HE0.out])
  have HGlt : Hid (G < w2.heap.size) := hid (lt_of_some HZ1.out)
  obtain ⟨W3, HW3⟩ : ∃ W3, Hid ((w2.alloc (.cells C0 32)).drew = W3) := ⟨_, rfl⟩
  have HB3d : Hid (Below G w W3) := hid (by rw [← HW3.out]; exact Below.drewR HB3.out)
  have HR3 : Hid (W3.heap[w2.heap.size]? = some (.cells C0 32 (0, 0))) := hid (by rw [← HW3.out]; exact heap_alloc_new w2 _)
  have HCell : Hid (∀ (j : Nat) (v : Value), (encY e0)[j]? = some v → W3.cell? ⟨w2.heap.size, j, none⟩ = some v) := hid (fun j v hv => by
    rw [cell_of_row _ _ _ _ _ _ HR3.out, ← HC0.out, List.getElem?_toArray]
    exact hv)
  obtain ⟨W4, HW4⟩ : ∃ W4, Hid (W3.setCells w2.heap.size 2 (bv m20) = W4) := ⟨_, rfl⟩
  have HRow4 : Hid (W4.rangeAt w2.heap.size 0 (encY (rdE s))) := hid (by rw [← HW4.out, HFin.out]; exact row_id m20 hm20 HI0.out HCell.out)
  have HG4 := grown_cells W3 w2.heap.size 2 (bv m20)
  rw [HW4.out] at HG4
  have HB4 : Hid (Below G w W4) := hid (HB3d.out.trans ⟨HG4.os, HG4.tape, HG4.output, HG4.size, fun q hq => HG4.block q (Nat.lt_of_lt_of_le hq (by have := HB3d.out.size; rw [HG.out] at this; exact this)) (fun h => by cases h; have := HGlt.out; omega)⟩)
  have HZ4 : Hid (W4.heap[G]? = some (.cells Z 32 (0, 0))) := hid (by
    rw [HG4.block G (by have := lt_of_some HR3.out; have := HGlt.out; omega) (fun h => by cases h; have := HGlt.out; omega), ← HW3.out]
    exact heap_old w2 _ G _ HZ1.out)
  have HCp : Hid (∀ ty, (Builtin.copy_ #[23, 23] ty #[.slice (some ⟨w2.heap.size, 2, none⟩) 20 20, .slice (some ⟨b, off + 40, none⟩) (n - 40 : Nat) (cap - 40 : Nat)]).run Tryz.prog W3 = .ok (goInt m20.length) W4) := hid (fun ty => by
    have hpb := (HPW.out W3 HB3d.out).mid 40 60 (by omega) (by rw [HN.out]; omega)
    rw [show adX 1 (some ⟨b, off, none⟩) cap 40 = some ⟨b, off + 40, none⟩ by unfold adX; rw [if_neg (by omega), Option.map_some, addr_add, Nat.mul_one]] at hpb
    rw [show 60 - 40 = 20 from rfl, HM.out] at hpb
    have hr := run_copy_cells (P := Tryz.prog) W3 23 23 ty 5 w2.heap.size 2 20 20 ⟨b, off + 40, none⟩ (n - 40) (cap - 40) (bv m20) Tryz.underlying23 (by kernel_rfl) (by rw [bv_len, hm20]; show 20 = min (n - 40) 20; omega) (PB.at hpb) (fun j hj => by
      rw [bv_len, hm20] at hj
      have hl2 : 2 + j < (encY e0).length := by rw [encY_len e0 HI0.out]; omega
      rw [HCell.out (2 + j) _ (List.getElem?_eq_getElem hl2)]
      rfl) (fun j hj => frozen_of_row _ _ _ _ _ HR3.out) (bv_one m20)
    rw [bv_len, HW4.out] at hr
    exact hr)
  have HI4 : Hid ((rdE s).id.length = 20) := hid (by rw [HFin.out]; exact hm20)
  have HCY4 := hid (cy (rdE s) HI4.out)
  have HTh : Hid (W4.there G 0 (encY (rdE s)).toArray.size) := hid (fun j hj => by
    rw [HCY4.out.size] at hj
    refine ⟨?_, frozen_of_row _ _ _ _ _ HZ4.out⟩
    rw [Nat.zero_add, cell_of_row _ _ _ _ _ _ HZ4.out, Array.getElem?_eq_getElem (by omega)]
    rfl)
  clear HG4
  refine wpAnyH_ready (rs := [6, 13]) (by kernel_rfl) (by simp) ?_
  refine consL rfl (fun KK hKK => ?_) (consL rfl (fun KK hKK => ?_) AllReadyH.nil)
  · refine step_callv (by rfl) 72 [.tmp 27] _ [.slice (some ⟨b, off + 24, none⟩) (n - 24 : Nat) (cap - 24 : Nat)] _ (by rfl) (by rfl) (enter72 _) (C72.out 24 _ (by omega) (by omega) HB1.out) ?_
    rintro ev w' ⟨rfl, hw⟩
    rw [hw]
    clear hw w'
    refine ⟨_, rfl, ?_⟩
    refine hKK.out _ _ (HQ3.out _ HB1.out) (fun hHeld1 => ?_)
    clear hKK KK
    rw [HMD.out]
    try simp only [Act.put, List.setIfInBounds_toArray, List.set_cons_zero, List.set_cons_succ]
    refine wpAnyH_ready (rs := [9, 13]) (by kernel_rfl) (by simp) ?_
    refine consL rfl (fun KK hKK => ?_) (consL rfl (fun KK hKK => ?_) AllReadyH.nil)
    · refine step_callv (by rfl) 72 [.tmp 30] _ [.slice (some ⟨b, off + 36, none⟩) (n - 36 : Nat) (cap - 36 : Nat)] _ (by rfl) (by rfl) (enter72 _) (C72.out 36 _ (by omega) (by omega) HB1.out) ?_
      rintro ev w' ⟨rfl, hw⟩
      rw [hw]
      clear hw w'
      refine ⟨_, rfl, ?_⟩
      refine hKK.out _ _ (HQ3.out _ HB1.out) (fun hHeld2 => ?_)
      clear hKK KK
      rw [HSZ.out]
      try simp only [Act.put, List.setIfInBounds_toArray, List.set_cons_zero, List.set_cons_succ]
      refine takeL (i := 12) (v := .agg C0) rfl (by kernel_rfl) (by kernel_rfl) (by kernel_rfl) (fun _ _ _ h => h) (Or.inl ⟨by rfl, ?_⟩) hHeld2 ?_
      · rintro w' ⟨s0⟩; go_simp; rw [← HC0.out, HE0.out]; rfl
      try simp only [Act.put, List.setIfInBounds_toArray, List.set_cons_zero, List.set_cons_succ]
      refine wpAnyH_ready (rs := [13]) (by kernel_rfl) (by simp) ?_
      refine consL rfl (fun KK hKK => ?_) AllReadyH.nil
      refine step_exec (by rfl) (.pointer (some ⟨w2.heap.size, 0, none⟩)) (w' := w2.alloc (.cells Z 32)) (by rw [HZ.out]; kernel_rfl) ?_
      refine hKK.out _ _ (HQ3.out _ HB2.out) (fun hHeld3 => ?_)
      clear hKK KK
      try simp only [Act.put, List.setIfInBounds_toArray, List.set_cons_zero, List.set_cons_succ]
      refine wpAnyH_ready (rs := [14]) (by kernel_rfl) (by simp) ?_
      refine consL rfl (fun KK hKK => ?_) AllReadyH.nil
      refine step_store_new (by rfl) 32 (.tmp 5) (.tmp 34) (by rfl) Z C0 (by rfl) (by rfl) (by rw [HCY.out.size]; exact info32) (by rw [HCY.out.size]; exact hzs) HCY.out.one ?_
      refine hKK.out _ _ (HQ3.out _ HB3.out) (fun hHeld4 => ?_)
      clear hKK KK
      try simp only [Act.put, List.setIfInBounds_toArray, List.set_cons_zero, List.set_cons_succ]
      refine wpAnyH_done (by kernel_rfl) ?_ _
      clear hHeld
      go_wp2_with fail
      refine wp_region_held_drew (S := fun _ => True) (by kernel_rfl) trivial (fun hH => ?_)
      rw [HW3.out]
      refine takeL (i := 0) (v := .pointer (some ⟨w2.heap.size, 2, none⟩)) rfl (by kernel_rfl) (by kernel_rfl) (by kernel_rfl) (fun _ _ _ h => h) (Or.inl ⟨by rfl, ?_⟩) hH ?_
      · rintro w' _; go_simp; try rfl
      try simp only [Act.put, List.setIfInBounds_toArray, List.set_cons_zero, List.set_cons_succ]
      refine takeL (i := 1) (v := .slice (some ⟨w2.heap.size, 2, none⟩) 20 20) rfl (by kernel_rfl) (by kernel_rfl) (by kernel_rfl) (fun _ _ _ h => h) (Or.inl ⟨by rfl, ?_⟩) hH ?_
      · rintro w' _; go_simp; try rfl
      try simp only [Act.put, List.setIfInBounds_toArray, List.set_cons_zero, List.set_cons_succ]
      refine takeL (i := 2) (v := ?_) rfl (by kernel_rfl) (by kernel_rfl) (by kernel_rfl) (fun _ _ _ h => h) (Or.inl ⟨by rfl, ?_⟩) hH ?_
      rotate_left
      · rintro w' _; go_simp; rfl
      try simp only [Act.put, List.setIfInBounds_toArray, List.set_cons_zero, List.set_cons_succ]
      refine takeL (i := 3) (v := .slice (some ⟨b, off + 40, none⟩) (n - 40 : Nat) (cap - 40 : Nat)) rfl (by kernel_rfl) (by kernel_rfl) (by kernel_rfl) (fun _ _ _ h => h) (Or.inl ⟨by rfl, ?_⟩) hH ?_
      · rintro w' _; go_simp; rw [if_pos (by omega), if_neg (by omega)]
      try simp only [Act.put, List.setIfInBounds_toArray, List.set_cons_zero, List.set_cons_succ]
      refine wpAnyH_ready (rs := [4]) (by kernel_rfl) (by simp) ?_
      refine consL rfl (fun KK hKK => ?_) AllReadyH.nil
      refine step_copy2 (by rfl) (.tmp 36) (.tmp 38) 23 23 _ _ _ _ (by rfl) (by rfl) (by rfl) (HCp.out _) ?_
      refine hKK.out _ _ trivial (fun hH2 => ?_)
      clear hKK KK
      try simp only [Act.put, List.setIfInBounds_toArray, List.set_cons_zero, List.set_cons_succ]
      refine wpAnyH_done (by kernel_rfl) ?_ _
      go_wp2_with (first | (refine wpList_load_mid rfl 32 _ rfl w2.heap.size 0 rfl (encY (rdE s)) _ HRow4.out Tryz.underlying32 rfl (by rw [encY_len _ HI4.out]; exact info32) ?_) | (refine wpList_store_mid rfl 32 _ _ rfl G 0 (encY (rdE s)).toArray rfl rfl HTh.out (by rw [HCY4.out.size]; exact info32) HCY4.out.one ?_))
      refine bodyPost_ret (v := .agg (encY (rdE s)).toArray) (results_mid Tryz.results61 _ _ G (encY (rdE s)) _ rfl (World.rangeAt_setCells_same _ G 0 _ HTh.out) Tryz.underlying32 rfl (by rw [encY_len _ HI4.out]; exact info32)) rfl ⟨rfl, ?_⟩
      rw [HG.out]
      exact below_setCells (Nat.le_refl _) _ _ _ _ HB4.out
    · refine step_exec (by rfl) (.pointer (some ⟨w2.heap.size, 0, none⟩)) (w' := w2.alloc (.cells Z 32)) (by rw [HZ.out]; kernel_rfl) ?_
      refine hKK.out _ _ (HQ3.out _ HB2.out) (fun hHeld5 => ?_)
      clear hKK KK
      try simp only [Act.put, List.setIfInBounds_toArray, List.set_cons_zero, List.set_cons_succ]
      refine wpAnyH_ready (rs := [9]) (by kernel_rfl) (by simp) ?_
      refine consL rfl (fun KK hKK => ?_) AllReadyH.nil
      refine step_callv (by rfl) 72 [.tmp 30] _ [.slice (some ⟨b, off + 36, none⟩) (n - 36 : Nat) (cap - 36 : Nat)] _ (by rfl) (by rfl) (enter72 _) (C72.out 36 _ (by omega) (by omega) HB2.out) ?_
      rintro ev w' ⟨rfl, hw⟩
      rw [hw]
      clear hw w'
      refine ⟨_, rfl, ?_⟩
      refine hKK.out _ _ (HQ3.out _ HB2.out) (fun hHeld6 => ?_)
      clear hKK KK
      rw [HSZ.out]
      try simp only [Act.put, List.setIfInBounds_toArray, List.set_cons_zero, List.set_cons_succ]
      refine takeL (i := 12) (v := .agg C0) rfl (by kernel_rfl) (by kernel_rfl) (by kernel_rfl) (fun _ _ _ h => h) (Or.inl ⟨by rfl, ?_⟩) hHeld6 ?_
      · rintro w' ⟨s0⟩; go_simp; rw [← HC0.out, HE0.out]; rfl
      try simp only [Act.put, List.setIfInBounds_toArray, List.set_cons_zero, List.set_cons_succ]
      refine wpAnyH_ready (rs := [14]) (by kernel_rfl) (by simp) ?_
      refine consL rfl (fun KK hKK => ?_) AllReadyH.nil
      refine step_store_new (by rfl) 32 (.tmp 5) (.tmp 34) (by rfl) Z C0 (by rfl) (by rfl) (by rw [HCY.out.size]; exact info32) (by rw [HCY.out.size]; exact hzs) HCY.out.one ?_
      refine hKK.out _ _ (HQ3.out _ HB3.out) (fun hHeld7 => ?_)
      clear hKK KK
      try simp only [Act.put, List.setIfInBounds_toArray, List.set_cons_zero, List.set_cons_succ]
      refine wpAnyH_done (by kernel_rfl) ?_ _
      clear hHeld
      go_wp2_with fail
      refine wp_region_held_drew (S := fun _ => True) (by kernel_rfl) trivial (fun hH => ?_)
      rw [HW3.out]
      refine takeL (i := 0) (v := .pointer (some ⟨w2.heap.size, 2, none⟩)) rfl (by kernel_rfl) (by kernel_rfl) (by kernel_rfl) (fun _ _ _ h => h) (Or.inl ⟨by rfl, ?_⟩) hH ?_
      · rintro w' _; go_simp; try rfl
      try simp only [Act.put, List.setIfInBounds_toArray, List.set_cons_zero, List.set_cons_succ]
      refine takeL (i := 1) (v := .slice (some ⟨w2.heap.size, 2, none⟩) 20 20) rfl (by kernel_rfl) (by kernel_rfl) (by kernel_rfl) (fun _ _ _ h => h) (Or.inl ⟨by rfl, ?_⟩) hH ?_
      · rintro w' _; go_simp; try rfl
      try simp only [Act.put, List.setIfInBounds_toArray, List.set_cons_zero, List.set_cons_succ]
      refine takeL (i := 2) (v := ?_) rfl (by kernel_rfl) (by kernel_rfl) (by kernel_rfl) (fun _ _ _ h => h) (Or.inl ⟨by rfl, ?_⟩) hH ?_
      rotate_left
      · rintro w' _; go_simp; rfl
      try simp only [Act.put, List.setIfInBounds_toArray, List.set_cons_zero, List.set_cons_succ]
      refine takeL (i := 3) (v := .slice (some ⟨b, off + 40, none⟩) (n - 40 : Nat) (cap - 40 : Nat)) rfl (by kernel_rfl) (by kernel_rfl) (by kernel_rfl) (fun _ _ _ h => h) (Or.inl ⟨by rfl, ?_⟩) hH ?_
      · rintro w' _; go_simp; rw [if_pos (by omega), if_neg (by omega)]
      try simp only [Act.put, List.setIfInBounds_toArray, List.set_cons_zero, List.set_cons_succ]
      refine wpAnyH_ready (rs := [4]) (by kernel_rfl) (by simp) ?_
      refine consL rfl (fun KK hKK => ?_) AllReadyH.nil
      refine step_copy2 (by rfl) (.tmp 36) (.tmp 38) 23 23 _ _ _ _ (by rfl) (by rfl) (by rfl) (HCp.out _) ?_
      refine hKK.out _ _ trivial (fun hH2 => ?_)
      clear hKK KK
      try simp only [Act.put, List.setIfInBounds_toArray, List.set_cons_zero, List.set_cons_succ]
      refine wpAnyH_done (by kernel_rfl) ?_ _
      go_wp2_with (first | (refine wpList_load_mid rfl 32 _ rfl w2.heap.size 0 rfl (encY (rdE s)) _ HRow4.out Tryz.underlying32 rfl (by rw [encY_len _ HI4.out]; exact info32) ?_) | (refine wpList_store_mid rfl 32 _ _ rfl G 0 (encY (rdE s)).toArray rfl rfl HTh.out (by rw [HCY4.out.size]; exact info32) HCY4.out.one ?_))
      refine bodyPost_ret (v := .agg (encY (rdE s)).toArray) (results_mid Tryz.results61 _ _ G (encY (rdE s)) _ rfl (World.rangeAt_setCells_same _ G 0 _ HTh.out) Tryz.underlying32 rfl (by rw [encY_len _ HI4.out]; exact info32)) rfl ⟨rfl, ?_⟩
      rw [HG.out]
      exact below_setCells (Nat.le_refl _) _ _ _ _ HB4.out
  · refine step_exec (by rfl) (.pointer (some ⟨w2.heap.size, 0, none⟩)) (w' := w2.alloc (.cells Z 32)) (by rw [HZ.out]; kernel_rfl) ?_
    refine hKK.out _ _ (HQ3.out _ HB2.out) (fun hHeld8 => ?_)
    clear hKK KK
    try simp only [Act.put, List.setIfInBounds_toArray, List.set_cons_zero, List.set_cons_succ]
    refine wpAnyH_ready (rs := [6]) (by kernel_rfl) (by simp) ?_
    refine consL rfl (fun KK hKK => ?_) AllReadyH.nil
    refine step_callv (by rfl) 72 [.tmp 27] _ [.slice (some ⟨b, off + 24, none⟩) (n - 24 : Nat) (cap - 24 : Nat)] _ (by rfl) (by rfl) (enter72 _) (C72.out 24 _ (by omega) (by omega) HB2.out) ?_
    rintro ev w' ⟨rfl, hw⟩
    rw [hw]
    clear hw w'
    refine ⟨_, rfl, ?_⟩
    refine hKK.out _ _ (HQ3.out _ HB2.out) (fun hHeld9 => ?_)
    clear hKK KK
    rw [HMD.out]
    try simp only [Act.put, List.setIfInBounds_toArray, List.set_cons_zero, List.set_cons_succ]
    refine wpAnyH_ready (rs := [9]) (by kernel_rfl) (by simp) ?_
    refine consL rfl (fun KK hKK => ?_) AllReadyH.nil
    refine step_callv (by rfl) 72 [.tmp 30] _ [.slice (some ⟨b, off + 36, none⟩) (n - 36 : Nat) (cap - 36 : Nat)] _ (by rfl) (by rfl) (enter72 _) (C72.out 36 _ (by omega) (by omega) HB2.out) ?_
    rintro ev w' ⟨rfl, hw⟩
    rw [hw]
    clear hw w'
    refine ⟨_, rfl, ?_⟩
    refine hKK.out _ _ (HQ3.out _ HB2.out) (fun hHeld10 => ?_)
    clear hKK KK
    rw [HSZ.out]
    try simp only [Act.put, List.setIfInBounds_toArray, List.set_cons_zero, List.set_cons_succ]
    refine takeL (i := 12) (v := .agg C0) rfl (by kernel_rfl) (by kernel_rfl) (by kernel_rfl) (fun _ _ _ h => h) (Or.inl ⟨by rfl, ?_⟩) hHeld10 ?_
    · rintro w' ⟨s0⟩; go_simp; rw [← HC0.out, HE0.out]; rfl
    try simp only [Act.put, List.setIfInBounds_toArray, List.set_cons_zero, List.set_cons_succ]
    refine wpAnyH_ready (rs := [14]) (by kernel_rfl) (by simp) ?_
    refine consL rfl (fun KK hKK => ?_) AllReadyH.nil
    refine step_store_new (by rfl) 32 (.tmp 5) (.tmp 34) (by rfl) Z C0 (by rfl) (by rfl) (by rw [HCY.out.size]; exact info32) (by rw [HCY.out.size]; exact hzs) HCY.out.one ?_
    refine hKK.out _ _ (HQ3.out _ HB3.out) (fun hHeld11 => ?_)
    clear hKK KK
    try simp only [Act.put, List.setIfInBounds_toArray, List.set_cons_zero, List.set_cons_succ]
    refine wpAnyH_done (by kernel_rfl) ?_ _
    clear hHeld
    go_wp2_with fail
    refine wp_region_held_drew (S := fun _ => True) (by kernel_rfl) trivial (fun hH => ?_)
    rw [HW3.out]
    refine takeL (i := 0) (v := .pointer (some ⟨w2.heap.size, 2, none⟩)) rfl (by kernel_rfl) (by kernel_rfl) (by kernel_rfl) (fun _ _ _ h => h) (Or.inl ⟨by rfl, ?_⟩) hH ?_
    · rintro w' _; go_simp; try rfl
    try simp only [Act.put, List.setIfInBounds_toArray, List.set_cons_zero, List.set_cons_succ]
    refine takeL (i := 1) (v := .slice (some ⟨w2.heap.size, 2, none⟩) 20 20) rfl (by kernel_rfl) (by kernel_rfl) (by kernel_rfl) (fun _ _ _ h => h) (Or.inl ⟨by rfl, ?_⟩) hH ?_
    · rintro w' _; go_simp; try rfl
    try simp only [Act.put, List.setIfInBounds_toArray, List.set_cons_zero, List.set_cons_succ]
    refine takeL (i := 2) (v := ?_) rfl (by kernel_rfl) (by kernel_rfl) (by kernel_rfl) (fun _ _ _ h => h) (Or.inl ⟨by rfl, ?_⟩) hH ?_
    rotate_left
    · rintro w' _; go_simp; rfl
    try simp only [Act.put, List.setIfInBounds_toArray, List.set_cons_zero, List.set_cons_succ]
    refine takeL (i := 3) (v := .slice (some ⟨b, off + 40, none⟩) (n - 40 : Nat) (cap - 40 : Nat)) rfl (by kernel_rfl) (by kernel_rfl) (by kernel_rfl) (fun _ _ _ h => h) (Or.inl ⟨by rfl, ?_⟩) hH ?_
    · rintro w' _; go_simp; rw [if_pos (by omega), if_neg (by omega)]
    try simp only [Act.put, List.setIfInBounds_toArray, List.set_cons_zero, List.set_cons_succ]
    refine wpAnyH_ready (rs := [4]) (by kernel_rfl) (by simp) ?_
    refine consL rfl (fun KK hKK => ?_) AllReadyH.nil
    refine step_copy2 (by rfl) (.tmp 36) (.tmp 38) 23 23 _ _ _ _ (by rfl) (by rfl) (by rfl) (HCp.out _) ?_
    refine hKK.out _ _ trivial (fun hH2 => ?_)
    clear hKK KK
    try simp only [Act.put, List.setIfInBounds_toArray, List.set_cons_zero, List.set_cons_succ]
    refine wpAnyH_done (by kernel_rfl) ?_ _
    go_wp2_with (first | (refine wpList_load_mid rfl 32 _ rfl w2.heap.size 0 rfl (encY (rdE s)) _ HRow4.out Tryz.underlying32 rfl (by rw [encY_len _ HI4.out]; exact info32) ?_) | (refine wpList_store_mid rfl 32 _ _ rfl G 0 (encY (rdE s)).toArray rfl rfl HTh.out (by rw [HCY4.out.size]; exact info32) HCY4.out.one ?_))
    refine bodyPost_ret (v := .agg (encY (rdE s)).toArray) (results_mid Tryz.results61 _ _ G (encY (rdE s)) _ rfl (World.rangeAt_setCells_same _ G 0 _ HTh.out) Tryz.underlying32 rfl (by rw [encY_len _ HI4.out]; exact info32)) rfl ⟨rfl, ?_⟩
    rw [HG.out]
    exact below_setCells (Nat.le_refl _) _ _ _ _ HB4.out
end Go.Proofs.YtcicoeneemnbiaaGreatDoor
