import Derived.Test.YtijeogdnjeamaaaGreatDoorQs09
namespace Go.Proofs.YtijeogdnjeamaaaGreatDoor
open Go.RowKit
set_option linter.unusedVariables false
set_option linter.unusedSimpArgs false
def Tab (w : World) : Prop := Lib.TabIs Tryz.prog w "internal/strconv.uint64pow10" .u64 Lib.pow10Tab
theorem pow_at : Tryz.prog.globalNamed "internal/strconv.uint64pow10" = some 2 := by kernel_rfl
theorem Tab.below {w w' : World} (h : Tab w) (hb : Below w.heap.size w w') : Tab w' := by
  have hg := pow_at
  unfold Tab Lib.TabIs World.var? at h ⊢
  rw [hg] at h ⊢
  simp only [Option.bind_some] at h ⊢
  have hlt : 2 < w.heap.size := by
    rcases Nat.lt_or_ge 2 w.heap.size with h' | h'
    · exact h'
    · rw [Array.getElem?_eq_none h'] at h; cases h
  rw [hb.block 2 hlt]
  exact h
theorem itoa_any (n : Nat) (hn : n ≤ 999) (w : World) (ht : Tab w) : Calls Tryz.prog 85 #[.int .i64 (n : Int)] w fun e w' => e = .returned (.string ⟨(d3 n).toArray⟩) ∧ Below w.heap.size w w' := by
  refine (Any.strconv_Itoa Tryz.laysM171 n (by omega) (by omega) w ht).mono ?_
  rintro e w' ⟨rfl, k, os, rfl⟩
  rw [d3_itoa n hn]
  refine ⟨rfl, rfl, rfl, rfl, by show _ ≤ (w.heap ++ os).size; simp, fun k hk => ?_⟩
  show (w.heap ++ os)[k]? = _
  rw [Array.getElem?_append_left hk]
theorem enter85 (x : Value) (w : World) : (callFunc 85 #[x]).run Tryz.prog w = .ok (.enter 85 #[x]) w := by kernel_rfl
theorem enter50 (x : Value) (w : World) : (callFunc 50 #[x]).run Tryz.prog w = .ok (.enter 50 #[x]) w := by kernel_rfl
theorem enter78 (x y : Value) (w : World) : (callFunc 78 #[x, y]).run Tryz.prog w = .ok (.enter 78 #[x, y]) w := by kernel_rfl
abbrev stV (x : Sta) : Value := .agg #[.string ⟨x.1.toArray⟩, .int .i64 x.2]
set_option maxRecDepth 20000 in
set_option maxHeartbeats 1000000 in
theorem statusText_any (x : Sta) (h0 : 0 ≤ x.2) (h9 : x.2 ≤ 999) (hl : x.1.length ≤ 1000000000000000) (w : World) (ht : Tab w) : Calls Tryz.prog 50 #[stV x] w fun e w' => e = .returned (.string ⟨(stT x).toArray⟩) ∧ Below w.heap.size w w' := by
  obtain ⟨nm, er⟩ := x
  simp only at h0 h9 hl
  obtain ⟨n, HN⟩ : ∃ n : Nat, Hid ((n : Int) = er) := ⟨er.toNat, hid (by omega)⟩
  obtain ⟨X, HX⟩ : ∃ X : ByteArray, Hid (⟨nm.toArray⟩ = X) := ⟨_, hid rfl⟩
  obtain ⟨q, HQ⟩ : ∃ q, Hid (nm.length = q) := ⟨_, rfl⟩
  have hXs : X.size = q := by rw [← HX.out, txt_len]; exact HQ.out
  have hq : q ≤ 1000000000000000 := by rw [← HQ.out]; exact hl
  obtain ⟨G, HG⟩ : ∃ G, Hid (w.heap.size = G) := ⟨_, rfl⟩
  obtain ⟨w1, HW1⟩ : ∃ u, Hid (w.alloc (.cells #[.string X, .int .i64 (n : Int)] 57) = u) := ⟨_, rfl⟩
  have hn1 : w1.heap[G]? = some (.cells #[.string X, .int .i64 (n : Int)] 57 (0, 0)) := by rw [← HW1.out, ← HG.out]; exact heap_alloc_new _ _
  have hc0 : w1.cell? ⟨G, 0, none⟩ = some (.string X) := by rw [cell_of_row _ G 0 _ _ _ hn1]; rfl
  have hc1 : w1.cell? ⟨G, 1, none⟩ = some (.int .i64 (n : Int)) := by rw [cell_of_row _ G 1 _ _ _ hn1]; rfl
  have hb1 : Below G w w1 := by rw [← HW1.out, ← HG.out]; exact (Below.refl _ w).alloc (Nat.le_refl _) _
  have HB1 := hid hb1
  have al1 : w.alloc (.cells #[.string X, .int .i64 (n : Int)] 57) = w1 := HW1.out
  have hs0 : w.heap.size = G := HG.out
  have h3 : (⟨#[111, 107, 32]⟩ : ByteArray).size = 3 := rfl
  have h3' : (⟨#[110, 103, 32]⟩ : ByteArray).size = 3 := rfl
  have h1' : (⟨#[32]⟩ : ByteArray).size = 1 := rfl
  unfold stV
  simp only
  rw [HX.out, ← HN.out]
  by_cases hz : n = 0
  · subst hz
    obtain ⟨Z, HZ⟩ : ∃ Z : ByteArray, Hid ((⟨#[111, 107, 32]⟩ : ByteArray) ++ X = Z) := ⟨_, hid rfl⟩
    have hcat : (⟨#[111, 107, 32]⟩ : ByteArray) ++ X = Z := HZ.out
    have HT : Hid ((⟨(stT (nm, ((0 : Nat) : Int))).toArray⟩ : ByteArray) = Z) := hid (by
      rw [← HZ.out, ← HX.out, show (⟨#[111, 107, 32]⟩ : ByteArray) = ⟨okWo.toArray⟩ from rfl, str_app]
      rfl)
    rw [HT.out]
    have al0 : w.alloc (.cells #[.string X, .int .i64 0] 57) = w1 := al1
    have hc1z : w1.cell? ⟨G, 1, none⟩ = some (.int .i64 0) := hc1
    clear hb1 hn1 HT ht al1 hc1
    go_enter Tryz.func50, Tryz.ntmps50
    go_wp2
    go_ret
    exact ⟨rfl, by rw [HG.out]; exact HB1.out⟩
  · have hnz : ¬ (n : Int) = 0 := by omega
    have hnb : ((n : Int) == 0) = false := by simp [hz]
    obtain ⟨D, HD⟩ : ∃ Z : ByteArray, Hid (⟨(d3 n).toArray⟩ = Z) := ⟨_, hid rfl⟩
    have hDs : D.size ≤ 3 := by rw [← HD.out, txt_len]; exact d3_len n
    obtain ⟨Z1, HZ1⟩ : ∃ Z : ByteArray, Hid ((⟨#[110, 103, 32]⟩ : ByteArray) ++ X = Z) := ⟨_, hid rfl⟩
    obtain ⟨Z2, HZ2⟩ : ∃ Z : ByteArray, Hid (Z1 ++ (⟨#[32]⟩ : ByteArray) = Z) := ⟨_, hid rfl⟩
    obtain ⟨Z3, HZ3⟩ : ∃ Z : ByteArray, Hid (Z2 ++ D = Z) := ⟨_, hid rfl⟩
    have hZ1 : Z1.size = 3 + q := by rw [← HZ1.out, ByteArray.size_append, hXs]; rfl
    have hZ2 : Z2.size = 3 + q + 1 := by rw [← HZ2.out, ByteArray.size_append, hZ1]; rfl
    have HT : Hid ((⟨(stT (nm, (n : Int))).toArray⟩ : ByteArray) = Z3) := hid (by
      rw [← HZ3.out, ← HZ2.out, ← HZ1.out, ← HX.out, ← HD.out, show (⟨#[110, 103, 32]⟩ : ByteArray) = ⟨ngWo.toArray⟩ from rfl, show (⟨#[32]⟩ : ByteArray) = ⟨([32] : Str).toArray⟩ from rfl, str_app, str_app, str_app]
      unfold stT
      rw [if_neg hnz]
      simp)
    have hbd : Below G w w1.drew := hb1.trans ⟨rfl, rfl, rfl, Nat.le_refl _, fun _ _ => rfl⟩
    have HGW : Hid (G < w1.heap.size) := hid (lt_of_some hn1)
    have C85 : Hid (∀ W, Below w1.heap.size w1.drew W → Calls Tryz.prog 85 #[.int .i64 (n : Int)] W fun e w' => e = .returned (.string D) ∧ Below W.heap.size W w') := hid (fun W hW => by
      rw [← HD.out]
      exact itoa_any n (by have := HN.out; omega) W ((ht.below (by rw [HG.out]; exact hbd)).below hW))
    have HQS : Hid (∀ W, Below w1.heap.size w1.drew W → Qp G (.string X) (.int .i64 (n : Int)) W) := hid (fun W hW => ⟨(hW.cell (p := ⟨G, 0, none⟩) HGW.out).trans hc0, (hW.cell (p := ⟨G, 1, none⟩) HGW.out).trans hc1⟩)
    have HBD := hid hbd
    rw [HT.out]
    clear hb1 hn1 hbd HT ht
    go_enter Tryz.func50, Tryz.ntmps50
    go_wp2_with fail
    refine wp_region_held_drew (S := Qp G (.string X) (.int .i64 (n : Int))) (by kernel_rfl) (HQS.out _ (Below.refl _ _)) (fun hHeld => ?_)
    obtain ⟨B1, HBB⟩ : ∃ n, Hid (w1.heap.size = n) := ⟨_, rfl⟩
    rw [HBB.out] at C85 HQS HGW
    have HBU : Hid (w1.drew.heap.size = B1) := hid HBB.out
    generalize w1.drew = u0 at hHeld HQS C85 HBD HBU ⊢
    refine takeL (i := 0) (v := ?_) rfl (by kernel_rfl) (by kernel_rfl) (by kernel_rfl) (fun _ _ _ h => h) (Or.inl ⟨by rfl, ?_⟩) hHeld ?_
    rotate_left
    · rintro w' ⟨c0, c1⟩; go_simp; rfl
    try simp only [Act.put, List.setIfInBounds_toArray, List.set_cons_zero, List.set_cons_succ]
    refine takeL (i := 1) (v := ?_) rfl (by kernel_rfl) (by kernel_rfl) (by kernel_rfl) (fun _ _ _ h => h) (Or.inl ⟨by rfl, ?_⟩) hHeld ?_
    rotate_left
    · rintro w' ⟨c0, c1⟩; go_simp; rfl
    try simp only [Act.put, List.setIfInBounds_toArray, List.set_cons_zero, List.set_cons_succ]
    refine takeL (i := 2) (v := .string Z1) rfl (by kernel_rfl) (by kernel_rfl) (by kernel_rfl) (fun _ _ _ h => h) (Or.inl ⟨by rfl, ?_⟩) hHeld ?_
    · rintro w' ⟨c0, c1⟩; rw [← HZ1.out]; go_simp; first | done | omega | rfl
    try simp only [Act.put, List.setIfInBounds_toArray, List.set_cons_zero, List.set_cons_succ]
    refine takeL (i := 3) (v := .string Z2) rfl (by kernel_rfl) (by kernel_rfl) (by kernel_rfl) (fun _ _ _ h => h) (Or.inl ⟨by rfl, ?_⟩) hHeld ?_
    · rintro w' ⟨c0, c1⟩; rw [← HZ2.out]; go_simp; first | done | omega | rfl
    try simp only [Act.put, List.setIfInBounds_toArray, List.set_cons_zero, List.set_cons_succ]
    refine takeL (i := 4) (v := ?_) rfl (by kernel_rfl) (by kernel_rfl) (by kernel_rfl) (fun _ _ _ h => h) (Or.inl ⟨by rfl, ?_⟩) hHeld ?_
    rotate_left
    · rintro w' ⟨c0, c1⟩; go_simp; rfl
    try simp only [Act.put, List.setIfInBounds_toArray, List.set_cons_zero, List.set_cons_succ]
    refine takeL (i := 5) (v := ?_) rfl (by kernel_rfl) (by kernel_rfl) (by kernel_rfl) (fun _ _ _ h => h) (Or.inl ⟨by rfl, ?_⟩) hHeld ?_
    rotate_left
    · rintro w' ⟨c0, c1⟩; go_simp; rfl
    try simp only [Act.put, List.setIfInBounds_toArray, List.set_cons_zero, List.set_cons_succ]
    refine wpAnyH_ready (rs := [6]) (by kernel_rfl) (by simp) ?_
    refine consL rfl (fun KK hKK => ?_) AllReadyH.nil
    refine step_callv (by rfl) 85 [.tmp 14] _ [.int .i64 (n : Int)] _ (by rfl) (by rfl) (enter85 _) (C85.out _ (Below.refl _ _)) ?_
    rintro ev w2 ⟨rfl, hb⟩
    refine ⟨_, rfl, ?_⟩
    have HB2 : Hid (Below B1 u0 w2) := hid (hb.mono (by have := HBU.out; omega))
    refine hKK.out _ _ (HQS.out _ HB2.out) (fun hHeld2 => ?_)
    clear hKK KK hb
    try simp only [Act.put, List.setIfInBounds_toArray, List.set_cons_zero, List.set_cons_succ]
    refine takeL (i := 7) (v := .string Z3) rfl (by kernel_rfl) (by kernel_rfl) (by kernel_rfl) (fun _ _ _ h => h) (Or.inl ⟨by rfl, ?_⟩) hHeld2 ?_
    · rintro w' ⟨c0, c1⟩; rw [← HZ3.out]; go_simp; first | done | omega | rfl
    try simp only [Act.put, List.setIfInBounds_toArray, List.set_cons_zero, List.set_cons_succ]
    refine takeL (i := 8) (v := ?_) rfl (by kernel_rfl) (by kernel_rfl) (by kernel_rfl) (fun _ _ _ h => h) (Or.inl ⟨by rfl, ?_⟩) hHeld2 ?_
    rotate_left
    · rintro w' ⟨c0, c1⟩; go_simp; rfl
    try simp only [Act.put, List.setIfInBounds_toArray, List.set_cons_zero, List.set_cons_succ]
    refine wpAnyH_done (by kernel_rfl) ?_ _
    clear hHeld hHeld2
    go_wp2
    go_ret
    exact ⟨rfl, by rw [HG.out]; exact HBD.out.trans (HB2.out.mono (by have := HGW.out; omega))⟩
end Go.Proofs.YtijeogdnjeamaaaGreatDoor
namespace Go.Proofs.YtijeogdnjeamaaaGreatDoor
open Go.RowKit
set_option linter.unusedVariables false
set_option linter.unusedSimpArgs false
structure Q49 (G k c : Nat) (X : ByteArray) (er : Int) (W : World) : Prop where
  c0 : W.cell? ⟨G, 0, none⟩ = some (.string X)
  c2 : W.cell? ⟨k, 0, none⟩ = some (.func (.func 78) #[] #[.pointer (some ⟨c, 0, none⟩)])
  r : W.rangeAt G 0 [.string X, .int .i64 er]
def PostWs (x : Sta) (c p g n : Nat) (S : Str → Prop) (w : World) (e : Ending) (w' : World) : Prop :=
  w.grownBy w' (some g) ∧ ((¬ (okSt x ∧ ¬ S x.1) ∧ ∃ u, e = .returned (.tuple #[.string u, .iface 37 (.int .i64 111)])) ∨ ((okSt x ∧ ¬ S x.1) ∧ e = .returned (.tuple #[.string ⟨(stT x).toArray⟩, .nilIface]) ∧ OnS w' c p g (n + 1) (fun y => y = x.1 ∨ S y)))
theorem Tryz.results49 : Tryz.f49.results = #[.tmp 3, .tmp 4] := by kernel_rfl
theorem size57 : (Tryz.prog.info? 57).map (·.size) = some 2 := by kernel_rfl
theorem Mx_kept {w w' : World} {row : Option Nat} (h : Nm.Mx w) (hg : w.grownBy w' row) (hr : row ≠ some 1) : Nm.Mx w' := by
  obtain ⟨m, hm⟩ := h
  exact ⟨m, hg.cell hm (fun e => hr e.symm)⟩
theorem Tab_kept {w w' : World} {row : Option Nat} (h : Tab w) (hg : w.grownBy w' row) (hr : row ≠ some 2) : Tab w' := by
  have hp := pow_at
  unfold Tab Lib.TabIs World.var? at h ⊢
  rw [hp] at h ⊢
  simp only [Option.bind_some] at h ⊢
  have hlt : 2 < w.heap.size := by
    rcases Nat.lt_or_ge 2 w.heap.size with h' | h'
    · exact h'
    · rw [Array.getElem?_eq_none h'] at h; cases h
  rw [hg.block 2 hlt (fun e => hr e.symm)]
  exact h
set_option maxRecDepth 20000 in
set_option maxHeartbeats 1000000 in
theorem writeStF_any {w : World} {c p g n k : Nat} {S : Str → Prop} (h : OnS w c p g n S) (hn : n ≤ 100000) (hk : Boxed w k 92 (onmF c)) (hgk : g ≠ k) (hg2 : 2 < g) (x : Sta) (hl : x.1.length ≤ 1000000000000000) (hf : -9223372036854775808 ≤ x.2 ∧ x.2 ≤ 9223372036854775807) (hm : Nm.Mx w) (ht : Tab w) :
    Calls Tryz.prog 49 #[stV x, .pointer (some ⟨k, 0, none⟩)] w (PostWs x c p g n S w) := by
  obtain ⟨nm, er⟩ := x
  simp only at hl hf
  obtain ⟨X, HX⟩ : ∃ X : ByteArray, Hid (⟨nm.toArray⟩ = X) := ⟨_, hid rfl⟩
  obtain ⟨G, HG⟩ : ∃ G, Hid (w.heap.size = G) := ⟨_, rfl⟩
  obtain ⟨w1, HW1⟩ : ∃ u, Hid (w.alloc (.cells #[.string X, .int .i64 er] 57) = u) := ⟨_, rfl⟩
  have hn1 : w1.heap[G]? = some (.cells #[.string X, .int .i64 er] 57 (0, 0)) := by rw [← HW1.out, ← HG.out]; exact heap_alloc_new _ _
  have hc0 : w1.cell? ⟨G, 0, none⟩ = some (.string X) := by rw [cell_of_row _ G 0 _ _ _ hn1]; rfl
  have hc1 : w1.cell? ⟨G, 1, none⟩ = some (.int .i64 er) := by rw [cell_of_row _ G 1 _ _ _ hn1]; rfl
  have hg1 : w.grownBy w1 none := by rw [← HW1.out]; exact World.grownBy_alloc _ _ _
  have hgd : w.grownBy w1.drew none := ⟨hg1.os, hg1.tape, hg1.output, hg1.size, hg1.block⟩
  have HG1 := hid hg1
  have al1 : w.alloc (.cells #[.string X, .int .i64 er] 57) = w1 := HW1.out
  have hs0 : w.heap.size = G := HG.out
  have hgG : g < G := by rw [← HG.out]; exact h.ss.lt
  unfold stV
  simp only
  rw [HX.out]
  by_cases hrg : 0 ≤ er ∧ er ≤ 999
  · obtain ⟨h0, h9⟩ := hrg
    have h0i : ¬ er < 0 := by omega
    have h9i : ¬ (999 : Int) < er := by omega
    obtain ⟨Z, HZ⟩ : ∃ Z : ByteArray, Hid (⟨(stT (nm, er)).toArray⟩ = Z) := ⟨_, hid rfl⟩
    have HON : Hid (∀ W, w.grownBy W none → OnS W c p g n S) := hid (fun W hW => h.kept hW (by simp) (by simp) (by simp))
    have HQ0 : Hid (∀ W, w1.drew.grownBy W (some g) → Q49 G k c X er W) := hid (fun W hW => by
      have hd0 : w1.drew.cell? ⟨G, 0, none⟩ = some (.string X) := hc0
      have hrr : w1.drew.rangeAt G 0 [.string X, .int .i64 er] := range_row hn1
      exact ⟨hW.cell hd0 (fun e => by cases e; exact Nat.lt_irrefl _ hgG), hW.cell (hgd.cell hk.cell (by simp)) (fun e => hgk (by cases e; rfl)), fun j v hv => hW.cell (hrr j v hv) (fun e => by cases e; exact Nat.lt_irrefl _ hgG)⟩)
    have HGD := hid hgd
    have C50 : Hid (Calls Tryz.prog 50 #[.agg (([.string X, .int .i64 er] : List Value).toArray)] w1.drew fun e w' => e = .returned (.string Z) ∧ Below w1.drew.heap.size w1.drew w') := hid (by
      rw [← HZ.out, ← HX.out]
      exact statusText_any (nm, er) h0 h9 hl w1.drew (Tab_kept ht hgd (by simp)))
    have C78 : Hid (∀ W, w.grownBy W none → Calls Tryz.prog 78 #[.string X, .pointer (some ⟨c, 0, none⟩)] W (PostNm nm c p g n S W)) := hid (fun W hW => by
      rw [← HX.out]
      exact namedF_any (HON.out W hW) hn nm hl (Mx_kept hm hW (by simp)))
    have HOKS : Hid (okSt (nm, er) ↔ Nm.isN nm = true) := hid ⟨fun h => h.1, fun h => ⟨h, h0, h9⟩⟩
    unfold PostWs
    rw [HZ.out]
    clear h hk hgk hm ht hn1 hg1 hgd hgG
    go_enter Tryz.func49, Tryz.ntmps49
    go_wp2_with fail
    refine wp_region_held_drew (S := Q49 G k c X er) (by kernel_rfl) (HQ0.out _ (World.grownBy.refl _ _)) (fun hHeld => ?_)
    generalize w1.drew = u0 at hHeld HQ0 HGD C50 ⊢
    refine takeL (i := 0) (v := .agg (([.string X, .int .i64 er] : List Value).toArray)) rfl (by kernel_rfl) (by kernel_rfl) (by kernel_rfl) (fun _ _ _ h => h) (yieldsIf_load_mid (by kernel_rfl) 57 _ rfl G (0) (by rfl) [.string X, .int .i64 er] _ (fun w' h => h.r) Tryz.underlying57 rfl size57) hHeld ?_
    try simp only [Act.put, List.setIfInBounds_toArray, List.set_cons_zero, List.set_cons_succ]
    refine takeL (i := 2) (v := ?_) rfl (by kernel_rfl) (by kernel_rfl) (by kernel_rfl) (fun _ _ _ h => h) (Or.inl ⟨by rfl, ?_⟩) hHeld ?_
    rotate_left
    · rintro w' ⟨c0, c2, r⟩; go_simp; rfl
    try simp only [Act.put, List.setIfInBounds_toArray, List.set_cons_zero, List.set_cons_succ]
    refine takeL (i := 3) (v := ?_) rfl (by kernel_rfl) (by kernel_rfl) (by kernel_rfl) (fun _ _ _ h => h) (Or.inl ⟨by rfl, ?_⟩) hHeld ?_
    rotate_left
    · rintro w' ⟨c0, c2, r⟩; go_simp; rfl
    try simp only [Act.put, List.setIfInBounds_toArray, List.set_cons_zero, List.set_cons_succ]
    refine takeL (i := 4) (v := ?_) rfl (by kernel_rfl) (by kernel_rfl) (by kernel_rfl) (fun _ _ _ h => h) (Or.inl ⟨by rfl, ?_⟩) hHeld ?_
    rotate_left
    · rintro w' ⟨c0, c2, r⟩; go_simp; rfl
    try simp only [Act.put, List.setIfInBounds_toArray, List.set_cons_zero, List.set_cons_succ]
    refine wpAnyH_ready (rs := [1]) (by kernel_rfl) (by simp) ?_
    refine consL rfl (fun KK hKK => ?_) AllReadyH.nil
    refine step_callv (by rfl) 50 [.tmp 14] _ [.agg (([.string X, .int .i64 er] : List Value).toArray)] _ (by rfl) (by rfl) (enter50 _) C50.out ?_
    rintro ev w2 ⟨rfl, hb⟩
    refine ⟨_, rfl, ?_⟩
    have HG2 : Hid (w.grownBy w2 none) := hid (HGD.out.trans (grown_of_below hb _))
    have HU2 : Hid (u0.grownBy w2 none) := hid (grown_of_below hb _)
    refine hKK.out _ _ (HQ0.out _ (HU2.out.but _)) (fun hHeld2 => ?_)
    clear hKK KK hb
    try simp only [Act.put, List.setIfInBounds_toArray, List.set_cons_zero, List.set_cons_succ]
    refine wpAnyH_ready (rs := [5]) (by kernel_rfl) (by simp) ?_
    refine consL rfl (fun KK hKK => ?_) AllReadyH.nil
    refine step_callf (by rfl) (.tmp 16) 78 [.pointer (some ⟨c, 0, none⟩)] [.tmp 18] _ [.string X] _ (by rfl) (by rfl) (by rfl) (enter78 _ _) (C78.out _ HG2.out) ?_
    rintro ev w3 ⟨hg3, ⟨hs, rfl⟩ | ⟨hs, rfl, hon⟩⟩
    · refine ⟨_, rfl, ?_⟩
      have HG3 : Hid (w.grownBy w3 (some g)) := hid ((HG2.out.but _).trans hg3)
      have HSX : Hid (¬ (okSt (nm, er) ∧ ¬ S nm)) := hid (fun h => hs ⟨HOKS.out.1 h.1, h.2⟩)
      refine hKK.out _ _ (HQ0.out _ ((HU2.out.but _).trans hg3)) (fun hHeld3 => ?_)
      clear hKK KK hg3 hs
      try simp only [Act.put, List.setIfInBounds_toArray, List.set_cons_zero, List.set_cons_succ]
      refine takeL (i := 6) (v := ?_) rfl (by kernel_rfl) (by kernel_rfl) (by kernel_rfl) (fun _ _ _ h => h) (Or.inl ⟨by rfl, ?_⟩) hHeld3 ?_
      rotate_left
      · rintro w' ⟨s0, s1, s2⟩; go_simp; rfl
      try simp only [Act.put, List.setIfInBounds_toArray, List.set_cons_zero, List.set_cons_succ]
      refine takeL (i := 7) (v := ?_) rfl (by kernel_rfl) (by kernel_rfl) (by kernel_rfl) (fun _ _ _ h => h) (Or.inl ⟨by rfl, ?_⟩) hHeld3 ?_
      rotate_left
      · rintro w' ⟨s0, s1, s2⟩; go_simp; rfl
      try simp only [Act.put, List.setIfInBounds_toArray, List.set_cons_zero, List.set_cons_succ]
      refine wpAnyH_done (by kernel_rfl) ?_ _
      clear hHeld hHeld2 hHeld3
      go_wp2
      refine bodyPost_ret (results_tmp2 Tryz.results49 _ _ _) rfl ?_
      exact ⟨HG3.out, .inl ⟨HSX.out, _, rfl⟩⟩
    · refine ⟨_, rfl, ?_⟩
      have HG3 : Hid (w.grownBy w3 (some g)) := hid ((HG2.out.but _).trans hg3)
      have HSX : Hid (okSt (nm, er) ∧ ¬ S nm) := hid ⟨HOKS.out.2 hs.1, hs.2⟩
      have HO3 := hid hon
      refine hKK.out _ _ (HQ0.out _ ((HU2.out.but _).trans hg3)) (fun hHeld3 => ?_)
      clear hKK KK hg3 hs hon
      try simp only [Act.put, List.setIfInBounds_toArray, List.set_cons_zero, List.set_cons_succ]
      refine takeL (i := 6) (v := ?_) rfl (by kernel_rfl) (by kernel_rfl) (by kernel_rfl) (fun _ _ _ h => h) (Or.inl ⟨by rfl, ?_⟩) hHeld3 ?_
      rotate_left
      · rintro w' ⟨s0, s1, s2⟩; go_simp; rfl
      try simp only [Act.put, List.setIfInBounds_toArray, List.set_cons_zero, List.set_cons_succ]
      refine takeL (i := 7) (v := ?_) rfl (by kernel_rfl) (by kernel_rfl) (by kernel_rfl) (fun _ _ _ h => h) (Or.inl ⟨by rfl, ?_⟩) hHeld3 ?_
      rotate_left
      · rintro w' ⟨s0, s1, s2⟩; go_simp; rfl
      try simp only [Act.put, List.setIfInBounds_toArray, List.set_cons_zero, List.set_cons_succ]
      refine wpAnyH_done (by kernel_rfl) ?_ _
      clear hHeld hHeld2 hHeld3
      go_wp2
      refine bodyPost_ret (results_tmp2 Tryz.results49 _ _ _) rfl ?_
      exact ⟨HG3.out, .inr ⟨HSX.out, rfl, HO3.out⟩⟩
  · have HSX : Hid (¬ (okSt (nm, er) ∧ ¬ S nm)) := hid (fun h => hrg h.1.2)
    clear h hk hgk hm ht hn1 hg1 hgd hgG
    by_cases h0 : er < 0
    · go_enter Tryz.func49, Tryz.ntmps49
      go_wp2
      refine bodyPost_ret (results_tmp2 Tryz.results49 _ _ _) rfl ?_
      exact ⟨HG1.out.but _, .inl ⟨HSX.out, _, rfl⟩⟩
    · have h9 : (999 : Int) < er := by omega
      clear hrg
      go_enter Tryz.func49, Tryz.ntmps49
      go_wp2
      refine bodyPost_ret (results_tmp2 Tryz.results49 _ _ _) rfl ?_
      exact ⟨HG1.out.but _, .inl ⟨HSX.out, _, rfl⟩⟩
end Go.Proofs.YtijeogdnjeamaaaGreatDoor
namespace Go.Proofs.YtijeogdnjeamaaaGreatDoor
open Go.RowKit
set_option linter.unusedVariables false
set_option linter.unusedSimpArgs false
abbrev PSt (w : World) (a : Option Addr) (cap : Nat) (l : List Sta) : Prop := Px encSt 2 st0 w a cap l
abbrev BSt (e : TypeId) (w0 w : World) (B : Nat) (v : Value) (l : List Sta) : Prop := Bx encSt 2 e w0 w B v l
theorem encSt_len (l : List Sta) : ∀ x ∈ l, (encSt x).length = 2 := fun _ _ => rfl
theorem encSt_one : ∀ x : Sta, ∀ v ∈ encSt x, v.oneCell' = true := fun x v hv => by
  rcases List.mem_cons.1 hv with rfl | hv
  · rfl
  · rw [List.mem_singleton.1 hv]; rfl
def FitS (l : List Sta) : Prop := ∀ x ∈ l, x.1.length ≤ 1000000000000000 ∧ -9223372036854775808 ≤ x.2 ∧ x.2 ≤ 9223372036854775807
structure Wls (w0 wr : World) (B0 B1 : Nat) (v : Value) (ts : List Str) (k c p g n : Nat) (S : Str → Prop) : Prop where
  bl : Below B0 w0 wr
  own : wr.ownsRow B1 9 1 v ts.length (ts.flatMap encS)
  le : B1 ≤ wr.heap.size
  on : OnS wr c p g n S
  ck : Boxed wr k 92 (onmF c)
theorem Wls.below {w0 wr w' : World} {B0 B1 : Nat} {v : Value} {ts : List Str} {k c p g n : Nat} {S : Str → Prop} (h : Wls w0 wr B0 B1 v ts k c p g n S) (hB : B0 ≤ B1) (hb : Below wr.heap.size wr w') : Wls w0 w' B0 B1 v ts k c p g n S := by
  have hg := grown_of_below hb none
  have := h.le
  exact ⟨h.bl.trans (hb.mono (by omega)), own_keep h.own hg (fun j e => by cases e), Nat.le_trans h.le hb.size, h.on.kept hg (by simp) (by simp) (by simp), h.ck.kept hg (by simp)⟩
theorem Wls.turn {w0 wr w' : World} {B0 B1 : Nat} {v : Value} {ts : List Str} {k c p g n : Nat} {S : Str → Prop} (h : Wls w0 wr B0 B1 v ts k c p g n S) (hB : B0 ≤ B1) (hg : B0 ≤ g ∧ g < B1 ∧ g ≠ k) (hgr : wr.grownBy w' (some g)) {n' : Nat} {S' : Str → Prop} (hon : OnS w' c p g n' S') : Wls w0 w' B0 B1 v ts k c p g n' S' := by
  have := h.le
  exact ⟨h.bl.grown hgr (by omega) (fun k e => by cases e; exact hg.1), own_keep h.own hgr (fun j e => by cases e; exact hg.2.1), Nat.le_trans h.le hgr.size, hon, h.ck.kept hgr (fun e => hg.2.2 (by cases e; rfl))⟩
theorem Wls.more {w0 wr : World} {B0 B1 : Nat} {v : Value} {ts : List Str} {k c p g n : Nat} {S : Str → Prop} (h : Wls w0 wr B0 B1 v ts k c p g n S) (hB : B0 ≤ B1) (hg : g < B1 ∧ p < B1 ∧ c < B1 ∧ k < B1) (hn : ts.length ≤ 20000) (s : Str) (u : ByteArray) (hu : ⟨s.toArray⟩ = u) (ty : TypeId) :
    ∃ v' W', (Builtin.append_ #[63, 63] ty #[v, .slice (some ⟨wr.heap.size, 0, none⟩) 1 1]).run Tryz.prog (wr.alloc (.cells #[.string u] 9)) = .ok v' W' ∧ Wls w0 W' B0 B1 v' (ts ++ [s]) k c p g n S := by
  obtain ⟨v', W', hr, ho, hgr⟩ := own_more h.own h.le hn s u hu ty
  have h1 := h.below hB ((Below.refl _ wr).alloc (Nat.le_refl _) (.cells #[.string u] 9))
  have hk : ∀ j, v.ownBlock = some j → B1 ≤ j := fun j e => (own_lt h.own j e).1
  have := h1.le
  exact ⟨v', W', hr, h1.bl.grown hgr (by omega) (fun k e => by have := hk k e; omega), ho, Nat.le_trans h1.le hgr.size, h1.on.kept hgr (fun e => by have := hk _ e; omega) (fun e => by have := hk _ e; omega) (fun e => by have := hk _ e; omega), h1.ck.kept hgr (fun e => by have := hk _ e.symm; omega)⟩
def PostWLs (l : List Sta) (w0 : World) (B0 : Nat) (e : Ending) (w' : World) : Prop :=
  Below B0 w0 w' ∧ B0 ≤ w'.heap.size ∧ ((OkS l ∧ ∃ v, e = .returned (.tuple #[v, .nilIface]) ∧ w'.ownsRow B0 9 1 v (l.map stT).length ((l.map stT).flatMap encS)) ∨ (¬ OkS l ∧ e = .returned (.tuple #[.slice none 0 0, .iface 37 (.int .i64 111)])))
theorem Tryz.results48 : Tryz.f48.results = #[.tmp 6, .tmp 7] := by kernel_rfl
theorem nodup_snocS {l : List Str} {x : Str} (h : l.Nodup) (hx : x ∉ l) : (l ++ [x]).Nodup := by
  rw [List.nodup_append]
  refine ⟨h, by simp, ?_⟩
  intro a ha b hb e
  rw [List.mem_singleton.1 hb] at e
  exact hx (e ▸ ha)
theorem not_oks {l : List Sta} {i : Nat} {x : Sta} (hi : i < l.length) (he : l.getD i st0 = x) (hx : ¬ (okSt x ∧ ¬ x.1 ∈ (l.take i).map (·.1))) : ¬ OkS l := by
  intro h
  have hm : x ∈ l := by rw [← he]; exact getD_mem l i _ hi
  refine hx ⟨h.1 x hm, fun hin => ?_⟩
  have h1 : (l.take (i + 1)).map (·.1) = (l.take i).map (·.1) ++ [x.1] := by rw [take_snocG st0 l i hi, he]; simp
  have h2 : ((l.take (i + 1)).map (·.1)).Nodup := h.2.1.sublist (List.Sublist.map _ (List.take_sublist _ _))
  rw [h1, List.nodup_append] at h2
  exact h2.2.2 x.1 hin x.1 (by simp) rfl
theorem zero57 (w : World) : (zeroValue 57).run Tryz.prog w = .ok (.agg #[.string ⟨#[]⟩, .int .i64 0]) w := by kernel_rfl
set_option maxRecDepth 20000 in
set_option maxHeartbeats 4000000 in
theorem writeListS_any {w w0 : World} {B0 k c p g : Nat} (hb : Below B0 w0 w) (h0 : w0.heap.size = B0) (hon : OnS w c p g 0 (fun _ => False)) (hk : Boxed w k 92 (onmF c)) (hg0 : B0 ≤ g) (hgk : g ≠ k) (h2 : 2 < B0) (hm : Nm.Mx w0) (ht : Tab w0)
    (a : Option Addr) (cap : Nat) (l : List Sta) (hP : PSt w0 a cap l) (hl : FitS l) :
    Calls Tryz.prog 48 #[.slice a l.length cap, .int .i64 500, .func (.func 49) #[] #[.pointer (some ⟨k, 0, none⟩)]] w (PostWLs l w0 B0) := by
  obtain ⟨m, HM⟩ : ∃ n, Hid (l.length = n) := ⟨_, rfl⟩
  obtain ⟨B1, HB1⟩ : ∃ n, Hid (w.heap.size = n) := ⟨_, rfl⟩
  have HLT : Hid (B0 ≤ B1 ∧ g < B1 ∧ p < B1 ∧ c < B1 ∧ k < B1) := hid (by
    have h1 := hb.size
    have h2 := hon.ss.lt
    have h3 := hon.b2.lt
    have h4 := hon.b1.lt
    have h5 := hk.lt
    have h6 := HB1.out
    omega)
  have HGC : Hid (B0 ≤ g ∧ g ≠ k) := hid ⟨hg0, hgk⟩
  have HB0S := hid hb
  by_cases hbig : 500 < m
  · have hbi : (500 : Int) < (m : Int) := by omega
    have HNO : Hid (¬ OkS l) := hid (fun h => by have := h.2.2; have := HM.out; omega)
    have HSZ : Hid (B0 ≤ w.heap.size) := hid (by have := hb.size; omega)
    rw [HM.out]
    clear hb h0 hon hk hg0 hgk hP hl hm ht
    go_enter Tryz.func48, Tryz.ntmps48
    go_wp2
    refine bodyPost_ret (results_tmp2 Tryz.results48 _ _ _) rfl ?_
    exact ⟨HB0S.out, HSZ.out, .inr ⟨HNO.out, rfl⟩⟩
  · have hbi : ¬ (500 : Int) < (m : Int) := by omega
    have HPA : Hid (∀ W, Below B0 w0 W → PSt W a cap l) := hid (fun W hW => hP.below (by rw [h0]; exact hW))
    have HPL : Hid (0 < m → ∃ b off, a = some ⟨b, off, none⟩) := hid (fun h => by
      obtain ⟨b, off, e1, _⟩ := hP.at_ (by rw [HM.out]; exact h)
      exact ⟨b, off, e1⟩)
    have HMX : Hid (∀ W, Below B0 w0 W → Nm.Mx W ∧ Tab W) := hid (fun W hW => ⟨by
      obtain ⟨q, hq⟩ := hm
      exact ⟨q, (hW.cell (p := ⟨1, 0, none⟩) (show 1 < B0 by omega)).trans hq⟩, ht.below (by rw [h0]; exact hW)⟩)
    have HIL := hid hl
    have S0 : Hid (Wls w0 w B0 B1 (.slice none 0 0) ((l.take 0).map stT) k c p g 0 (fun y => y ∈ (l.take 0).map (·.1))) := hid ⟨hb, ⟨rfl, .inl ⟨rfl, rfl⟩⟩, by rw [HB1.out]; exact Nat.le_refl _, hon.congr (fun y => by simp), hk⟩
    obtain ⟨zr, HZR⟩ : ∃ z : Array Value, Hid (z = #[.string ⟨#[]⟩, .int .i64 0]) := ⟨_, hid rfl⟩
    have hz57 : ∀ w : World, (zeroValue 57).run Tryz.prog w = .ok (.agg zr) w := fun w => by rw [HZR.out]; exact zero57 w
    have CF : Hid (∀ (W : World) (x : Sta) (Y : List Value) (i : Nat) (S : Str → Prop), Hid (encSt x = Y) → (x.1.length ≤ 1000000000000000 ∧ -9223372036854775808 ≤ x.2 ∧ x.2 ≤ 9223372036854775807) → i ≤ 1000 → OnS W c p g i S → Boxed W k 92 (onmF c) → Below B0 w0 W → Calls Tryz.prog 49 #[.agg Y.toArray, .pointer (some ⟨k, 0, none⟩)] W (PostWs x c p g i S W)) := hid (fun W x Y i S hY hx hi ho hck hW => by
      rw [← hY.out]
      exact writeStF_any ho (by omega) hck HGC.out.2 (by have := HGC.out; omega) x hx.1 hx.2 (HMX.out W hW).1 (HMX.out W hW).2)
    rw [HM.out]
    clear hb h0 hon hk hg0 hgk hP hl hm ht
    go_enter Tryz.func48, Tryz.ntmps48
    go_wp2_with fail
    go_loopg [8, 20] m (fun gg tv iv wr => ∃ i : Nat, i ≤ m ∧ gg = m - i ∧ iv = .int .i64 i ∧ Hid (Wls w0 wr B0 B1 tv ((l.take i).map stT) k c p g i (fun y => y ∈ (l.take i).map (·.1))) ∧ Hid ((∀ x ∈ l.take i, okSt x) ∧ ((l.take i).map (·.1)).Nodup))
    case atStart => exact ⟨0, Nat.zero_le _, rfl, rfl, S0, hid (by simp)⟩
    case round =>
      obtain ⟨i, hi, hkk, rfl, HS, HND⟩ := hrel
      by_cases hlt : i < m
      · have hlti : (i : Int) < (m : Int) := by omega
        obtain ⟨b, off, rfl⟩ := HPL.out (by omega)
        have hil : i < l.length := by rw [HM.out]; exact hlt
        obtain ⟨x, HX⟩ : ∃ x, Hid (l.getD i st0 = x) := ⟨_, rfl⟩
        have HXF := hid (HIL.out x (by rw [← HX.out]; exact getD_mem l i _ hil))
        obtain ⟨Y, HY⟩ : ∃ R : List Value, Hid (encSt x = R) := ⟨_, rfl⟩
        have HYL : Hid (Y.length = 2) := hid (by rw [← HY.out]; rfl)
        have hiY : (Tryz.prog.info? 57).map (·.size) = some Y.length := by rw [HYL.out]; exact size57
        have RR : Hid (wr.rangeAt b (off + i * 2) Y) := hid (by
          obtain ⟨b', off', e1, _, e3⟩ := (HPA.out wr HS.out.bl).at_ (by rw [HM.out]; omega)
          cases e1
          have := e3 i hil
          rw [HX.out, HY.out] at this
          exact this)
        obtain ⟨P, HPP⟩ : ∃ P, Hid (wr.heap.size = P) := ⟨_, rfl⟩
        obtain ⟨w2, hw2, ht2, hb2, hr2⟩ := st_new wr 57 zr Y (by rw [HYL.out, HZR.out]; rfl)
        obtain ⟨wa, HWA⟩ : ∃ W, Hid (wr.alloc (.cells zr 57) = W) := ⟨_, rfl⟩
        rw [HWA.out, HPP.out] at hw2 ht2
        rw [HPP.out] at hr2
        have HW2 := hid hw2
        have T1 := hid ht2
        have T2 : Hid ((Tryz.prog.info? 57).map (·.size) = some Y.toArray.size) := hid (by rw [List.size_toArray]; exact hiY)
        have T3 : Hid (Y.toArray.all (·.oneCell') = true) := hid (by rw [← HY.out]; exact all_oneCell_toArray (encSt_one x))
        have R2 := hid hr2
        have S2 : Hid (Wls w0 w2 B0 B1 u8 ((l.take i).map stT) k c p g i (fun y => y ∈ (l.take i).map (·.1))) := hid (HS.out.below HLT.out.1 hb2)
        have al1 : wr.alloc (.cells zr 57) = wa := HWA.out
        have hsw : wr.heap.size = P := HPP.out
        have HCC := hid (CF.out w2 x Y i _ HY HXF.out (by omega) S2.out.on S2.out.ck S2.out.bl)
        have HTK : Hid ((l.take (i + 1)).map stT = (l.take i).map stT ++ [stT x]) := hid (by rw [take_snocG st0 l i hil, HX.out]; simp)
        have HTX : Hid (l.take (i + 1) = l.take i ++ [x]) := hid (by rw [take_snocG st0 l i hil, HX.out])
        have HNO : Hid (¬ (okSt x ∧ ¬ x.1 ∈ (l.take i).map (·.1)) → ¬ OkS l) := hid (fun h => not_oks hil HX.out h)
        clear hw2 ht2 hb2 hr2 hil
        go_wp2_with (first
          | (refine wpList_load_mid rfl 57 _ rfl b (off + i * 2) rfl Y _ RR.out Tryz.underlying57 rfl hiY ?_)
          | (refine wpList_load_mid rfl 57 _ rfl P 0 rfl Y _ R2.out Tryz.underlying57 rfl hiY ?_)
          | (refine wpList_store_mid rfl 57 _ _ rfl P 0 Y.toArray rfl rfl T1.out T2.out T3.out ?_; rw [HW2.out])
          | fail)
        clear al1 hsw
        refine HCC.out.mono ?_
        rintro e w3 ⟨hg3, ⟨hs, u, rfl⟩ | ⟨hs, rfl, ho3⟩⟩
        · have HF : Hid (Below B0 w0 w3) := hid (S2.out.bl.grown hg3 (by have := S2.out.le; have := HLT.out; omega) (fun k e => by cases e; exact HGC.out.1))
          have HFS : Hid (B0 ≤ w3.heap.size) := hid (by have := S2.out.le; have := HLT.out; have := hg3.size; omega)
          have HNN := hid (HNO.out hs)
          clear hg3 hs
          go_wp2
          refine bodyPost_ret (results_tmp2 Tryz.results48 _ _ _) rfl ?_
          exact ⟨HF.out, HFS.out, .inr ⟨HNN.out, rfl⟩⟩
        · have S3 : Hid (Wls w0 w3 B0 B1 u8 ((l.take i).map stT) k c p g (i + 1) (fun y => y ∈ (l.take (i + 1)).map (·.1))) := hid (S2.out.turn HLT.out.1 ⟨HGC.out.1, HLT.out.2.1, HGC.out.2⟩ hg3 (ho3.congr (fun y => by rw [HTX.out]; simp [or_comm])))
          have HN3 : Hid ((∀ x ∈ l.take (i + 1), okSt x) ∧ ((l.take (i + 1)).map (·.1)).Nodup) := hid (by
            rw [HTX.out]
            refine ⟨fun y hy => ?_, ?_⟩
            · rcases List.mem_append.1 hy with hy | hy
              · exact HND.out.1 y hy
              · rw [List.mem_singleton.1 hy]; exact hs.1
            · rw [List.map_append]
              exact nodup_snocS HND.out.2 hs.2)
          obtain ⟨Z, HZ⟩ : ∃ Z : ByteArray, Hid (⟨(stT x).toArray⟩ = Z) := ⟨_, hid rfl⟩
          rw [HZ.out]
          obtain ⟨v5, W5, hr5, hs5⟩ := S3.out.more HLT.out.1 ⟨HLT.out.2.1, HLT.out.2.2.1, HLT.out.2.2.2.1, HLT.out.2.2.2.2⟩ (by rw [List.length_map, List.length_take]; omega) (stT x) Z HZ.out 63
          have hbs := run_txt Z w3
          obtain ⟨W4, HW4⟩ : ∃ W, Hid (w3.alloc (.cells #[.string Z] 9) = W) := ⟨_, rfl⟩
          rw [HW4.out] at hr5 hbs
          have S5 : Hid (Wls w0 W5 B0 B1 v5 ((l.take (i + 1)).map stT) k c p g (i + 1) (fun y => y ∈ (l.take (i + 1)).map (·.1))) := hid (by rw [HTK.out]; exact hs5)
          clear hg3 hs ho3 hs5
          go_wp2_with (first | (refine wpList_bSY rfl 63 1 _ rfl (.string Z) _ rfl hbs ?_) | (at_builtin; refine wpList_app rfl _ _ 63 63 rfl 63 rfl _ _ rfl rfl hr5 ?_) | fail)
          go_roundg (m - (i + 1))
          case measure => omega
          case rel => exact ⟨i + 1, by omega, rfl, by go_num, S5, HN3⟩
      · have hlti : ¬ (i : Int) < (m : Int) := by omega
        have HTA : Hid (l.take i = l) := hid (List.take_of_length_le (by rw [HM.out]; omega))
        have HF : Hid (Wls w0 wr B0 B1 u8 (l.map stT) k c p g i (fun y => y ∈ l.map (·.1))) := hid (by have := HS.out; rw [HTA.out] at this; exact this)
        have HNF : Hid (OkS l) := hid (by have := HND.out; rw [HTA.out] at this; exact ⟨this.1, this.2, by have := HM.out; omega⟩)
        clear HS HND HTA
        go_wp2
        refine bodyPost_ret (results_tmp2 Tryz.results48 _ _ _) rfl ?_
        exact ⟨HF.out.bl, Nat.le_trans HLT.out.1 HF.out.le, .inl ⟨HNF.out, _, rfl, base_mono HF.out.own HLT.out.1⟩⟩
theorem wpList_bS2 {P : Program} {ops : Array Oper} {rest : List Oper} {o : Oper} {a : Act} {w w' : World} {Q : Exit → Act → World → Prop} (hg : o.guard = none) (t : Nat) (x0 x1 : Operand) (ho : o.op = .buildSlice t 2 #[(0, x0), (1, x1)]) (u0 u1 v : Value) (h0 : a.eval x0 = u0) (h1 : a.eval x1 = u1)
    (hr : (Instr.buildSlice t 2 #[(0, u0), (1, u1)]).run P w = .ok v w')
    (h : wpList P ops Q rest (a.put o.dst v) w') : wpList P ops Q (o :: rest) a w := by
  refine wpList_plain hg fun K hK => ?_
  unfold Oper.wp execOp
  simp [ho, h0, h1, hr, Result.andThen]
  exact hK _ _ h
theorem run_rows2 (a0 a1 : Option Addr) (n0 n1 c0 c1 : Nat) (w : World) : (Instr.buildSlice 115 2 #[(0, .slice a0 n0 c0), (1, .slice a1 n1 c1)]).run Tryz.prog w = .ok (.slice (some ⟨w.heap.size, 0, none⟩) 2 2) (w.alloc (.cells #[.slice a0 n0 c0, .slice a1 n1 c1] 63)) := by kernel_rfl
def PostWSt (l : List Sta) (w : World) (e : Ending) (w' : World) : Prop :=
  Below w.heap.size w w' ∧ ((OkS l ∧ ∃ v, e = .returned (.tuple #[v, .nilIface]) ∧ w'.ownsRow w.heap.size 5 1 v (stB l).length (bv (stB l))) ∨ (¬ OkS l ∧ e = .returned (.tuple #[.slice none 0 0, .iface 37 (.int .i64 111)])))
theorem Tryz.results23 : Tryz.f23.results = #[.tmp 2, .tmp 3] := by kernel_rfl
theorem stL_flat (l : List Sta) : [l.map stT, [[]]].flatten = stL l := by simp [stL]
set_option maxRecDepth 20000 in
set_option maxHeartbeats 1000000 in
theorem writeStatus_any {w : World} (a : Option Addr) (cap : Nat) (l : List Sta) (hP : PSt w a cap l) (hl : FitS l) (hm : Nm.Mx w) (ht : Tab w) (hd : Db w) :
    Calls Tryz.prog 23 #[.slice a l.length cap] w (PostWSt l w) := by
  obtain ⟨n, HN⟩ : ∃ n, Hid (l.length = n) := ⟨_, rfl⟩
  obtain ⟨G, HG⟩ : ∃ n, Hid (w.heap.size = n) := ⟨_, rfl⟩
  have h2G : 2 < G := by
    rw [← HG.out]
    have h := ht
    unfold Tab Lib.TabIs World.var? at h
    rw [pow_at] at h
    simp only [Option.bind_some] at h
    rcases Nat.lt_or_ge 2 w.heap.size with h' | h'
    · exact h'
    · rw [Array.getElem?_eq_none h'] at h; cases h
  have C43 := hid (onceNamed_any w)
  rw [HG.out] at C43
  have C48 : Hid (∀ (W : World) (k c p g : Nat), Below G w W → OnS W c p g 0 (fun _ => False) → Boxed W k 92 (onmF c) → G ≤ g → g ≠ k → Calls Tryz.prog 48 #[.slice a n cap, .int .i64 500, .func (.func 49) #[] #[.pointer (some ⟨k, 0, none⟩)]] W (PostWLs l w G)) := hid (fun W k c p g h1 h2 h3 h4 h5 => by
    rw [← HN.out]
    exact writeListS_any h1 HG.out h2 h3 h4 h5 h2G hm ht a cap l hP hl)
  have HD : Hid (∀ X, Below G w X → Db X) := hid (fun X hX => hd.below (by rw [HG.out]; exact hX))
  unfold PostWSt
  rw [HN.out, HG.out]
  clear hP hl hm ht hd
  go_enter Tryz.func23, Tryz.ntmps23
  go_wp2_with fail
  refine C43.out.mono ?_
  rintro e w1 ⟨hb1, c, p, g, hg, rfl, hon⟩
  obtain ⟨R, HR⟩ : ∃ n, Hid (w1.heap.size = n) := ⟨_, rfl⟩
  obtain ⟨w3, HW3⟩ : ∃ u, Hid (w1.alloc (.cells #[.nilFunc] 92) = u) := ⟨_, rfl⟩
  obtain ⟨w4, HW4⟩ : ∃ u, Hid (w3.setCell ⟨R, 0, none⟩ (onmF c) = u) := ⟨_, rfl⟩
  have hbx3 : Boxed w3 R 92 .nilFunc := by rw [← HW3.out, ← HR.out]; exact Boxed.new _ _ _
  have hbx4 : Boxed w4 R 92 (onmF c) := by rw [← HW4.out]; exact hbx3.set _
  have hc3 := hbx3.cell
  have hf3 := hbx3.frozen
  have hg3 : w1.grownBy w3 none := by rw [← HW3.out]; exact World.grownBy_alloc _ _ _
  have hg4 : w3.grownBy w4 (some R) := by rw [← HW4.out]; exact grownBy_setCell' _ _ _
  have e1 := hon.ss.lt
  have e2 := hon.b1.lt
  have e2' := hon.b2.lt
  have e3 := HR.out
  have e4 := hb1.size
  have e5 := HG.out
  have hst : (store ⟨R, 0, none⟩ (onmF c)).run Tryz.prog w3 = .ok () w4 := by
    rw [run_store _ _ _ _ _ rfl, hc3]
    simp [hf3, HW4.out]
  have hon4 : OnS w4 c p g 0 (fun _ => False) := (hon.kept hg3 (by simp) (by simp) (by simp)).kept hg4 (fun e => by cases e; omega) (fun e => by cases e; omega) (fun e => by cases e; omega)
  have hb4 : Below G w w4 := (hb1.grown hg3 (by omega) (fun k e => by cases e)).grown hg4 (by have := hg3.size; omega) (fun k e => by cases e; omega)
  have CC := hid (C48.out w4 R c p g hb4 hon4 hbx4 hg (by omega))
  have al3 : w1.alloc (.cells #[.nilFunc] 92) = w3 := HW3.out
  have al4 : w3.setCell ⟨R, 0, none⟩ (onmF c) = w4 := HW4.out
  have hsR : w1.heap.size = R := HR.out
  clear hbx3 hbx4 hg3 hg4 e1 e2 e2' e3 e4 e5 hb1 hon hon4 hb4 hg
  simp only [onmF] at al4 hst ⊢
  go_wp2_with fail
  refine CC.out.mono ?_
  rintro e w5 ⟨hb5, hs5, ⟨hok, v1, rfl, hown⟩ | ⟨hok, rfl⟩⟩
  · have hx1 : Bx encS 1 9 w w5 G v1 (l.map stT) := ⟨hb5, hown, hs5⟩
    obtain ⟨a1, c1, rfl, hp1, _⟩ := hx1.px (d := []) (encS_len _)
    have HOK := hid hok
    obtain ⟨K, HK⟩ : ∃ n, Hid (w5.heap.size = n) := ⟨_, rfl⟩
    obtain ⟨k1, HK1⟩ : ∃ n, Hid ((l.map stT).length = n) := ⟨_, rfl⟩
    obtain ⟨wa, HWA⟩ : ∃ u, Hid (w5.alloc (.cells #[.string ⟨#[]⟩] 9) = u) := ⟨_, rfl⟩
    have hsa : wa.heap.size = K + 1 := by rw [← HWA.out, ← HK.out]; exact size_alloc _ _
    obtain ⟨wc, HWC⟩ : ∃ u, Hid (wa.alloc (.cells #[.slice a1 k1 c1, .slice (some ⟨K, 0, none⟩) 1 1] 63) = u) := ⟨_, rfl⟩
    have r1 := run_txt ⟨#[]⟩ w5
    have r3 := run_rows2 a1 (some ⟨K, 0, none⟩) k1 1 c1 1 wa
    rw [HWA.out, HK.out] at r1
    rw [HWC.out, hsa] at r3
    have hba : Below w5.heap.size w5 wa := by rw [← HWA.out]; exact (Below.refl _ _).alloc (Nat.le_refl _) _
    have hbc : Below wa.heap.size wa wc := by rw [← HWC.out]; exact (Below.refl _ _).alloc (Nat.le_refl _) _
    have hp0 : PS wa (some ⟨K, 0, none⟩) 1 [[]] := by rw [← HWA.out, ← HK.out]; exact ps_one w5 [] _ rfl
    have hcell : ∀ i v, (#[.slice a1 k1 c1, .slice (some ⟨K, 0, none⟩) 1 1] : Array Value)[i]? = some v → wc.cell? ⟨K + 1, i, none⟩ = some v := fun i v hv => by
      rw [cell_of_row wc (K + 1) i _ 63 (0, 0) (by rw [← HWC.out, ← hsa]; exact heap_alloc_new _ _)]
      exact hv
    have hRw : Rws wc (K + 1) 2 (fun i => [a1, some ⟨K, 0, none⟩].getD i none) (fun i => [c1, 1].getD i 0) [l.map stT, [[]]] := {
      len := rfl
      lt := by rw [← HWC.out, size_alloc, hsa]; omega
      cell := fun i hi => by
        have e4 : i = 0 ∨ i = 1 := by omega
        rcases e4 with rfl | rfl
        · show _ = some (Value.slice a1 (l.map stT).length c1)
          rw [HK1.out]; exact hcell 0 _ rfl
        · exact hcell 1 _ rfl
      ps := fun i hi => by
        have e4 : i = 0 ∨ i = 1 := by omega
        rcases e4 with rfl | rfl
        · exact (hp1.below hba).below hbc
        · exact hp0.below hbc }
    have hGw : Below G w wc := by
      have h3 := HK.out
      exact (hb5.trans (hba.mono (by omega))).trans (hbc.mono (by omega))
    have CT : Hid (Calls Tryz.prog 31 #[.slice (some ⟨K + 1, 0, none⟩) 2 2] wc (PostNu wc.heap.size (stB l) wc)) := hid (by
      have := writeRows_any hRw (by omega) 2 (by rw [stL_flat]; unfold stL; simp; have := HOK.out.2.2; omega) (by rw [stL_flat]; exact fun s hs => Nat.le_trans (stL_len HOK.out.1 s hs) (by omega)) (HD.out wc hGw)
      rw [stL_flat] at this
      exact this)
    have HGW := hid hGw
    have HGS : Hid (G ≤ wc.heap.size) := hid (by have := HK.out; have := hbc.size; omega)
    have hkk : w5.heap.size = K := HK.out
    rw [HK1.out]
    clear hx1 hp0 hp1 hcell hRw hGw hba hbc hb5 hs5 hok hown
    go_wp2_with (first | (refine wpList_bSY rfl 63 1 _ rfl (.string ⟨#[]⟩) _ rfl r1 ?_) | (refine wpList_bS2 rfl 115 _ _ rfl (.slice a1 k1 c1) (.slice (some ⟨K, 0, none⟩) 1 1) _ rfl rfl r3 ?_) | fail)
    refine CT.out.mono ?_
    rintro e w6 ⟨v5, rfl, ho5, hb6, hs6⟩
    have HO5 : Hid (w6.ownsRow G 5 1 v5 (stB l).length (bv (stB l))) := hid (base_mono ho5 HGS.out)
    have HB5 : Hid (Below G w w6) := hid (HGW.out.trans (hb6.mono HGS.out))
    clear ho5 hb6 hs6
    go_wp2
    refine bodyPost_ret (results_tmp2 Tryz.results23 _ _ _) rfl ?_
    exact ⟨HB5.out, .inl ⟨HOK.out, _, rfl, HO5.out⟩⟩
  · have HB5 := hid hb5
    have HNO := hid hok
    clear hb5 hs5 hok
    go_wp2
    refine bodyPost_ret (results_tmp2 Tryz.results23 _ _ _) rfl ?_
    exact ⟨HB5.out, .inr ⟨HNO.out, rfl⟩⟩
end Go.Proofs.YtijeogdnjeamaaaGreatDoor
