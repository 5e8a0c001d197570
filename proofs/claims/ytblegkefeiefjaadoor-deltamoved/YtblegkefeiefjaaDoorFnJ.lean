/- 'newFinder'. -/
import Derived.Test.YtblegkefeiefjaaDoorFnI
import Derived.RangeFuncBox
namespace Go.Proofs.YtblegkefeiefjaaDoor
open Go.RowKit Go.Maps Sam Plain
set_option linter.unusedVariables false
set_option linter.unusedSimpArgs false

theorem run_map99 (z : Int) (w : World) : (Instr.makeMap 99 (some (.int .i64 z))).run Tryd.prog w = .ok (.map (some w.heap.size)) (w.alloc (.map #[] 0)) := by
  unfold Instr.makeMap
  simp [underlying, Tryd.underlying99, asInt, go_sem]
theorem made_get (z : Array Value) (n i : Nat) (hi : i < n) (h0 : 0 < z.size) : (madeCells z n)[i]? = some (z[i % z.size]!) := by
  simp [madeCells, hi]
theorem four (w : World) (o0 o1 o2 o3 : Obj) : ((((w.alloc o0).alloc o1).alloc o2).alloc o3).heap[w.heap.size]? = some o0 ∧ ((((w.alloc o0).alloc o1).alloc o2).alloc o3).heap[w.heap.size + 1]? = some o1 ∧
    ((((w.alloc o0).alloc o1).alloc o2).alloc o3).heap[w.heap.size + 2]? = some o2 ∧ ((((w.alloc o0).alloc o1).alloc o2).alloc o3).heap[w.heap.size + 3]? = some o3 ∧ Below w.heap.size w ((((w.alloc o0).alloc o1).alloc o2).alloc o3) := by
  have s1 : (w.alloc o0).heap.size = w.heap.size + 1 := World.size_alloc ..
  have s2 : ((w.alloc o0).alloc o1).heap.size = w.heap.size + 2 := by rw [World.size_alloc, s1]
  have s3 : (((w.alloc o0).alloc o1).alloc o2).heap.size = w.heap.size + 3 := by rw [World.size_alloc, s2]
  refine ⟨?_, ?_, ?_, ?_, ?_⟩
  · rw [Below.heap_alloc _ _ _ (by omega), Below.heap_alloc _ _ _ (by omega), Below.heap_alloc _ _ _ (by omega)]; exact World.alloc_heap_new w o0
  · rw [Below.heap_alloc _ _ _ (by omega), Below.heap_alloc _ _ _ (by omega)]; have := World.alloc_heap_new (w.alloc o0) o1; rwa [s1] at this
  · rw [Below.heap_alloc _ _ _ (by omega)]; have := World.alloc_heap_new ((w.alloc o0).alloc o1) o2; rwa [s2] at this
  · have := World.alloc_heap_new (((w.alloc o0).alloc o1).alloc o2) o3; rwa [s3] at this
  · exact ((((Below.refl _ w).alloc (Nat.le_refl _) _).alloc (by omega) _).alloc (by omega) _).alloc (by omega) _
/-- A finder that has been laid. -/
structure NF (w w' : World) (C1 C2 : Nat) (R1 R2 : Array Value) (g sb eb mb : Nat) : Prop where
  hs : w'.heap[sb]? = some (.cells R1 103)
  he : w'.heap[eb]? = some (.cells R2 107)
  hm : w'.heap[mb]? = some (.map #[] 0)
  hg : w'.heap[g]? = some (.cells #[.slice (some ⟨sb, 0, none⟩) 1 C1, .slice (some ⟨eb, 0, none⟩) 1 C2, .map (some mb), .int .i32 0] 101)
  ge : w.heap.size ≤ g ∧ w.heap.size ≤ sb ∧ w.heap.size ≤ eb ∧ w.heap.size ≤ mb
  bel : Below w.heap.size w w'
def F0 (C1 C2 g sb eb mb : Nat) : Fn := ⟨sb, eb, mb, C1, C2, 1, 1, 0, 0, fun _ => 0, fun _ => 0, fun _ => 0, fun _ => none, fun _ => 0, fun _ => 0, fun _ => 0, fun _ => 0, fun _ _ => 0⟩
theorem good0 (C1 C2 g sb eb mb : Nat) : Good [] (F0 C1 C2 g sb eb mb) (fun _ => []) := by
  refine ⟨?_, fun s _ => rfl, ⟨by simp [F0], fun s x h => absurd rfl h, fun e h0 h1 => ?_, fun e h0 h1 => ?_, fun s hs => ⟨by simp [F0], fun h => absurd rfl h, fun e' h1 h2 => ?_⟩, rfl⟩, by simp [F0]⟩
  · have e : delF (F0 C1 C2 g sb eb mb) = fun _ _ => none := by
      funext s b
      unfold delF
      rw [if_pos (.inr rfl)]
    rw [e]
    exact sam_nil
  · have : e < 1 := h1; omega
  · have : e < 1 := h1; omega
  · have : e' < 1 := h2
    have h3 : 0 < e' := h1
    omega
theorem NF.rep {w w' : World} {C1 C2 g sb eb mb : Nat} {R1 R2 : Array Value} (h : NF w w' C1 C2 R1 R2 g sb eb mb) (h1 : 1 ≤ C1) (h2 : 1 ≤ C2) (hc : C1 ≤ 300000) (hc2 : C2 ≤ 400000)
    (e1 : R1 = madeCells #[.int .i32 0, .int .i32 0, .int .i32 0, .int .i32 0] (C1 * 4)) (e2 : R2 = madeCells #[.int .i32 0, .int .i32 0, .int .u8 0] (C2 * 3)) :
    Rep w.heap.size (w'.setCell ⟨sb, 1, none⟩ (.int .i32 (-1))) g (F0 C1 C2 g sb eb mb) ∧ Below w.heap.size w (w'.setCell ⟨sb, 1, none⟩ (.int .i32 (-1))) ∧ w'.cell? ⟨g, 0, none⟩ = some (.slice (some ⟨sb, 0, none⟩) 1 C1) ∧ w'.cell? ⟨sb, 1, none⟩ = some (.int .i32 0) ∧ w'.frozen? ⟨sb, 1, none⟩ = false := by
  obtain ⟨g1, g2, g3, g4⟩ := h.ge
  have n1 : g ≠ sb := fun e => by have := h.hg; rw [e, h.hs] at this; simp at this
  have n2 : eb ≠ sb := fun e => by have := h.he; rw [e, h.hs] at this; simp at this
  have n3 : mb ≠ sb := fun e => by have := h.hm; rw [e, h.hs] at this; simp at this
  have f1 : ∀ k, k ≠ sb → (w'.setCell ⟨sb, 1, none⟩ (.int .i32 (-1))).heap[k]? = w'.heap[k]? := fun k hk => Below.heap_setCell w' _ _ k hk
  have m1 : ∀ i, i < 4 → R1[i]? = some (.int .i32 0) := fun i hi => by
    rw [e1, made_get _ _ _ (by omega) (by simp)]
    have hc4 : i = 0 ∨ i = 1 ∨ i = 2 ∨ i = 3 := by omega
    rcases hc4 with rfl | rfl | rfl | rfl <;> rfl
  have row : Row w' sb 103 4 1 C1 (fun _ _ => .int .i32 0) := ⟨R1, h.hs, by rw [e1, size_madeCells], h1, by unfold maxLen; omega, fun s k hs hk => by
    obtain rfl : s = 0 := by omega
    rw [Nat.zero_mul, Nat.zero_add]; exact m1 k hk⟩
  have row2 : Row w' eb 107 3 1 C2 (F0 C1 C2 g sb eb mb).edv := ⟨R2, h.he, by rw [e2, size_madeCells], h2, by unfold maxLen; omega, fun s k hs hk => by
    obtain rfl : s = 0 := by omega
    rw [Nat.zero_mul, Nat.zero_add, e2, made_get _ _ _ (by omega) (by simp)]
    have hc4 : k = 0 ∨ k = 1 ∨ k = 2 := by omega
    rcases hc4 with rfl | rfl | rfl <;> rfl⟩
  refine ⟨⟨(f1 g n1).trans h.hg, ?_, row2.kept (f1 eb n2), ⟨.map [], ?_, fun s x _ _ => rfl⟩, g1, g2, g3, g4, hc, Nat.zero_le _⟩, h.bel.setCell g2 _, by simp [World.cell?, h.hg], by simp [World.cell?, h.hs, m1 1 (by omega)], by simp [World.frozen?, h.hs]⟩
  · have := row.set (s := 0) (k := 1) (by omega) (by omega) (.int .i32 (-1))
    refine this.congr (fun s k hs hk => ?_)
    obtain rfl : s = 0 := by omega
    have hc4 : k = 0 ∨ k = 1 ∨ k = 2 ∨ k = 3 := by omega
    rcases hc4 with rfl | rfl | rfl | rfl <;> simp [Fn.stv, F0, shI]
  · have hh := f1 mb n3
    obtain ⟨D, hD⟩ : ∃ wm : World, wm.ownsMap (H := Unit) Tryd.prog 111 (plainElem Tryd.prog 21) wm.heap.size 0 (.map []) ∨ True := ⟨w, .inr trivial⟩
    have := World.ownsMap_made (H := Unit) w Tryd.prog 111 (plainElem Tryd.prog 21)
    obtain ⟨es, ck, a1, a2, a3, a4⟩ := this
    rw [World.alloc_heap_new] at a1
    simp only [Option.some.injEq, Obj.map.injEq] at a1
    obtain ⟨rfl, rfl⟩ := a1
    exact ⟨#[], 0, hh.trans h.hm, a2, a3, a4⟩
def PostN (base : List Int) (w : World) (e : Ending) (w' : World) : Prop := ∃ g F wd, e = .returned (.pointer (some ⟨g, 0, none⟩)) ∧ Rep w.heap.size w' g F ∧ Good base F wd ∧ Below w.heap.size w w'
set_option maxRecDepth 10000 in
set_option maxHeartbeats 4000000 in
theorem newFinder_any (ab : Option Addr) (cap : Nat) (base : List Int) (w : World) (hz : IsB base) (hbl : base.length ≤ 100000) (hS : Sl w ab cap base) :
    Calls Tryd.prog 31 #[.slice ab base.length cap] w (PostN base w) := by
  obtain ⟨i3, hi3, hz30, hz31, hz32⟩ := info_parts Tryd.info103
  obtain ⟨i7, hi7, hz70, hz71, hz72⟩ := info_parts Tryd.info107
  have HS : Hid _ := hS
  have HZ : Hid _ := hz
  obtain ⟨L, HL⟩ : ∃ L, Hid (L = base.length) := ⟨_, rfl⟩
  rw [← HL.out] at hbl ⊢
  obtain ⟨C1, HC1⟩ : ∃ C1, Hid (C1 = 2 * L + 1) := ⟨_, rfl⟩
  obtain ⟨C2, HC2⟩ : ∃ C2, Hid (C2 = 3 * L + 1) := ⟨_, rfl⟩
  have hc1 : (2 : Int) * (L : Int) + 1 = (C1 : Int) := by rw [HC1.out]; omega
  have hc2 : (3 : Int) * (L : Int) + 1 = (C2 : Int) := by rw [HC2.out]; omega
  have hw2 : IntKind.i64.wrap (2 * (L : Int)) = 2 * (L : Int) := by rw [IntKind.wrap_i64]; omega
  have hw3 : IntKind.i64.wrap (3 * (L : Int)) = 3 * (L : Int) := by rw [IntKind.wrap_i64]; omega
  have hC1 : C1 ≤ 300000 := by rw [HC1.out]; omega
  have hC2 : C2 ≤ 400000 := by rw [HC2.out]; omega
  have hwc1 : IntKind.i64.wrap (C1 : Int) = C1 := by rw [IntKind.wrap_i64]; omega
  have hwc2 : IntKind.i64.wrap (C2 : Int) = C2 := by rw [IntKind.wrap_i64]; omega
  obtain ⟨R1, HR1⟩ : ∃ R1, Hid (R1 = madeCells #[.int .i32 0, .int .i32 0, .int .i32 0, .int .i32 0] (C1 * 4)) := ⟨_, rfl⟩
  obtain ⟨R2, HR2⟩ : ∃ R2, Hid (R2 = madeCells #[.int .i32 0, .int .i32 0, .int .u8 0] (C2 * 3)) := ⟨_, rfl⟩
  have hmk1 : ∀ w : World, (Instr.makeSlice 97 (.int .i64 1) (.int .i64 C1)).run Tryd.prog w = .ok (.slice (some ⟨w.heap.size, 0, none⟩) 1 C1) (w.alloc (.cells R1 103)) := fun w => by
    have hr := run_make (P := Tryd.prog) w 97 103 i3 _ Tryd.underlying97 hi3 hz30 .i64 .i64 1 C1 (by omega) (by rw [HC1.out]; omega) (by rw [hz32]; omega) (by omega)
    rw [hz31] at hr
    rw [HR1.out]
    exact hr
  have hmk2 : ∀ w : World, (Instr.makeSlice 98 (.int .i64 1) (.int .i64 C2)).run Tryd.prog w = .ok (.slice (some ⟨w.heap.size, 0, none⟩) 1 C2) (w.alloc (.cells R2 107)) := fun w => by
    have hr := run_make (P := Tryd.prog) w 98 107 i7 _ Tryd.underlying98 hi7 hz70 .i64 .i64 1 C2 (by omega) (by rw [HC2.out]; omega) (by rw [hz72]; omega) (by omega)
    rw [hz71] at hr
    rw [HR2.out]
    exact hr
  have hmm : ∀ (z : Int) (w : World), (Instr.makeMap 99 (some (.int .i64 z))).run Tryd.prog w = .ok (.map (some w.heap.size)) (w.alloc (.map #[] 0)) := run_map99
  clear hS hz hi3 hz30 hz31 hz32 hi7 hz70 hz71 hz72
  go_enter Tryd.func31, Tryd.ntmps31
  go_wp2_with fail
  refine Code.wp_mono (Q := fun e a w' => match e with | .normal => ∃ g sb eb mb, a = { tmps := #[Value.slice ab L cap, undef, Value.pointer none, .pointer (some ⟨g, 0, none⟩), undef, undef, Value.slice ab L cap, .int .i64 L, .int .i64 (2 * (L : Int)), .int .i64 C1, .slice (some ⟨sb, 0, none⟩) 1 C1, Value.slice ab L cap, .int .i64 L, .int .i64 (3 * (L : Int)), .int .i64 C2, .slice (some ⟨eb, 0, none⟩) 1 C2, Value.slice ab L cap, .int .i64 L, .int .i64 (2 * (L : Int)), .map (some mb), .agg #[.slice (some ⟨sb, 0, none⟩) 1 C1, .slice (some ⟨eb, 0, none⟩) 1 C2, .map (some mb), .int .i32 0], .pointer (some ⟨g, 0, none⟩), undef, undef, undef, undef, undef, undef, undef, undef, undef, undef, undef, undef, undef, undef, undef, undef, undef], defers := [] } ∧ NF w w' C1 C2 R1 R2 g sb eb mb | _ => False) ?rest ?reg
  case reg =>
    refine wp_region_held_drew (S := fun w' => True) (by kernel_rfl) trivial (fun hHeld => ?_)
    refine takeL (i := 0) (v := ?_) rfl (by kernel_rfl) (by kernel_rfl) (by kernel_rfl) (fun _ _ _ h => h) (Or.inl ⟨by rfl, ?_⟩) trivial ?_
    rotate_left
    · rintro w' _; go_simp; rfl
    try simp only [Act.put, List.setIfInBounds_toArray, List.set_cons_zero, List.set_cons_succ]
    refine takeL (i := 1) (v := ?_) rfl (by kernel_rfl) (by kernel_rfl) (by kernel_rfl) (fun _ _ _ h => h) (Or.inl ⟨by rfl, ?_⟩) trivial ?_
    rotate_left
    · rintro w' _; go_simp; rfl
    try simp only [Act.put, List.setIfInBounds_toArray, List.set_cons_zero, List.set_cons_succ]
    refine takeL (i := 2) (v := ?_) rfl (by kernel_rfl) (by kernel_rfl) (by kernel_rfl) (fun _ _ _ h => h) (Or.inl ⟨by rfl, ?_⟩) trivial ?_
    rotate_left
    · rintro w' _; go_simp; rfl
    try simp only [Act.put, List.setIfInBounds_toArray, List.set_cons_zero, List.set_cons_succ]
    refine takeL (i := 3) (v := ?_) rfl (by kernel_rfl) (by kernel_rfl) (by kernel_rfl) (fun _ _ _ h => h) (Or.inl ⟨by rfl, ?_⟩) trivial ?_
    rotate_left
    · rintro w' _; go_simp; rfl
    try simp only [Act.put, List.setIfInBounds_toArray, List.set_cons_zero, List.set_cons_succ]
    refine takeL (i := 5) (v := ?_) rfl (by kernel_rfl) (by kernel_rfl) (by kernel_rfl) (fun _ _ _ h => h) (Or.inl ⟨by rfl, ?_⟩) trivial ?_
    rotate_left
    · rintro w' _; go_simp; rfl
    try simp only [Act.put, List.setIfInBounds_toArray, List.set_cons_zero, List.set_cons_succ]
    refine takeL (i := 6) (v := ?_) rfl (by kernel_rfl) (by kernel_rfl) (by kernel_rfl) (fun _ _ _ h => h) (Or.inl ⟨by rfl, ?_⟩) trivial ?_
    rotate_left
    · rintro w' _; go_simp; rfl
    try simp only [Act.put, List.setIfInBounds_toArray, List.set_cons_zero, List.set_cons_succ]
    refine takeL (i := 7) (v := ?_) rfl (by kernel_rfl) (by kernel_rfl) (by kernel_rfl) (fun _ _ _ h => h) (Or.inl ⟨by rfl, ?_⟩) trivial ?_
    rotate_left
    · rintro w' _; go_simp; rfl
    try simp only [Act.put, List.setIfInBounds_toArray, List.set_cons_zero, List.set_cons_succ]
    refine takeL (i := 8) (v := ?_) rfl (by kernel_rfl) (by kernel_rfl) (by kernel_rfl) (fun _ _ _ h => h) (Or.inl ⟨by rfl, ?_⟩) trivial ?_
    rotate_left
    · rintro w' _; go_simp; rfl
    try simp only [Act.put, List.setIfInBounds_toArray, List.set_cons_zero, List.set_cons_succ]
    refine takeL (i := 10) (v := ?_) rfl (by kernel_rfl) (by kernel_rfl) (by kernel_rfl) (fun _ _ _ h => h) (Or.inl ⟨by rfl, ?_⟩) trivial ?_
    rotate_left
    · rintro w' _; go_simp; rfl
    try simp only [Act.put, List.setIfInBounds_toArray, List.set_cons_zero, List.set_cons_succ]
    refine takeL (i := 11) (v := ?_) rfl (by kernel_rfl) (by kernel_rfl) (by kernel_rfl) (fun _ _ _ h => h) (Or.inl ⟨by rfl, ?_⟩) trivial ?_
    rotate_left
    · rintro w' _; go_simp; rfl
    try simp only [Act.put, List.setIfInBounds_toArray, List.set_cons_zero, List.set_cons_succ]
    refine takeL (i := 12) (v := ?_) rfl (by kernel_rfl) (by kernel_rfl) (by kernel_rfl) (fun _ _ _ h => h) (Or.inl ⟨by rfl, ?_⟩) trivial ?_
    rotate_left
    · rintro w' _; go_simp; rfl
    try simp only [Act.put, List.setIfInBounds_toArray, List.set_cons_zero, List.set_cons_succ]
    refine wpAnyH_ready (rs := [4, 9, 13]) (by kernel_rfl) (by simp) ?_
    refine consL rfl (fun KK hKK => ?_) (consL rfl (fun KK hKK => ?_) (consL rfl (fun KK hKK => ?_) AllReadyH.nil))
    · go_simp
      refine hKK.out _ _ trivial (fun _ => ?_)
      clear hKK KK
      try simp only [Act.put, List.setIfInBounds_toArray, List.set_cons_zero, List.set_cons_succ]
      refine wpAnyH_ready (rs := [9, 13]) (by kernel_rfl) (by simp) ?_
      refine consL rfl (fun KK hKK => ?_) (consL rfl (fun KK hKK => ?_) AllReadyH.nil)
      · go_simp
        refine hKK.out _ _ trivial (fun _ => ?_)
        clear hKK KK
        try simp only [Act.put, List.setIfInBounds_toArray, List.set_cons_zero, List.set_cons_succ]
        refine wpAnyH_ready (rs := [13]) (by kernel_rfl) (by simp) ?_
        refine consL rfl (fun KK hKK => ?_) AllReadyH.nil
        go_simp
        refine hKK.out _ _ trivial (fun _ => ?_)
        clear hKK KK
        try simp only [Act.put, List.setIfInBounds_toArray, List.set_cons_zero, List.set_cons_succ]
        refine takeL (i := 14) (v := ?_) rfl (by kernel_rfl) (by kernel_rfl) (by kernel_rfl) (fun _ _ _ h => h) (Or.inl ⟨by rfl, ?_⟩) trivial ?_
        rotate_left
        · rintro w' _; go_simp; rfl
        try simp only [Act.put, List.setIfInBounds_toArray, List.set_cons_zero, List.set_cons_succ]
        refine wpAnyH_ready (rs := [15]) (by kernel_rfl) (by simp) ?_
        refine consL rfl (fun KK hKK => ?_) AllReadyH.nil
        go_simp
        refine hKK.out _ _ trivial (fun _ => ?_)
        clear hKK KK
        try simp only [Act.put, List.setIfInBounds_toArray, List.set_cons_zero, List.set_cons_succ]
        refine takeL (i := 16) (v := ?_) rfl (by kernel_rfl) (by kernel_rfl) (by kernel_rfl) (fun _ _ _ h => h) (Or.inl ⟨by rfl, ?_⟩) trivial ?_
        rotate_left
        · rintro w' _; go_simp; rfl
        try simp only [Act.put, List.setIfInBounds_toArray, List.set_cons_zero, List.set_cons_succ]
        refine wpAnyH_done (by kernel_rfl) ?_ _
        have h4 := four w.drew (.cells R1 103) (.cells R2 107) (.map #[] 0) (.cells #[.slice (some ⟨w.heap.size, 0, none⟩) 1 C1, .slice (some ⟨w.heap.size + 1, 0, none⟩) 1 C2, .map (some (w.heap.size + 2)), .int .i32 0] 101)
        exact ⟨w.heap.size + 3, w.heap.size, w.heap.size + 1, w.heap.size + 2, rfl, ⟨h4.1, h4.2.1, h4.2.2.1, h4.2.2.2.1, ⟨by omega, by omega, by omega, by omega⟩, ⟨h4.2.2.2.2.os, h4.2.2.2.2.tape, h4.2.2.2.2.output, h4.2.2.2.2.size, h4.2.2.2.2.block⟩⟩⟩
      · go_simp
        refine hKK.out _ _ trivial (fun _ => ?_)
        clear hKK KK
        try simp only [Act.put, List.setIfInBounds_toArray, List.set_cons_zero, List.set_cons_succ]
        refine wpAnyH_ready (rs := [9]) (by kernel_rfl) (by simp) ?_
        refine consL rfl (fun KK hKK => ?_) AllReadyH.nil
        go_simp
        refine hKK.out _ _ trivial (fun _ => ?_)
        clear hKK KK
        try simp only [Act.put, List.setIfInBounds_toArray, List.set_cons_zero, List.set_cons_succ]
        refine takeL (i := 14) (v := ?_) rfl (by kernel_rfl) (by kernel_rfl) (by kernel_rfl) (fun _ _ _ h => h) (Or.inl ⟨by rfl, ?_⟩) trivial ?_
        rotate_left
        · rintro w' _; go_simp; rfl
        try simp only [Act.put, List.setIfInBounds_toArray, List.set_cons_zero, List.set_cons_succ]
        refine wpAnyH_ready (rs := [15]) (by kernel_rfl) (by simp) ?_
        refine consL rfl (fun KK hKK => ?_) AllReadyH.nil
        go_simp
        refine hKK.out _ _ trivial (fun _ => ?_)
        clear hKK KK
        try simp only [Act.put, List.setIfInBounds_toArray, List.set_cons_zero, List.set_cons_succ]
        refine takeL (i := 16) (v := ?_) rfl (by kernel_rfl) (by kernel_rfl) (by kernel_rfl) (fun _ _ _ h => h) (Or.inl ⟨by rfl, ?_⟩) trivial ?_
        rotate_left
        · rintro w' _; go_simp; rfl
        try simp only [Act.put, List.setIfInBounds_toArray, List.set_cons_zero, List.set_cons_succ]
        refine wpAnyH_done (by kernel_rfl) ?_ _
        have h4 := four w.drew (.cells R1 103) (.map #[] 0) (.cells R2 107) (.cells #[.slice (some ⟨w.heap.size, 0, none⟩) 1 C1, .slice (some ⟨w.heap.size + 2, 0, none⟩) 1 C2, .map (some (w.heap.size + 1)), .int .i32 0] 101)
        exact ⟨w.heap.size + 3, w.heap.size, w.heap.size + 2, w.heap.size + 1, rfl, ⟨h4.1, h4.2.2.1, h4.2.1, h4.2.2.2.1, ⟨by omega, by omega, by omega, by omega⟩, ⟨h4.2.2.2.2.os, h4.2.2.2.2.tape, h4.2.2.2.2.output, h4.2.2.2.2.size, h4.2.2.2.2.block⟩⟩⟩
    · go_simp
      refine hKK.out _ _ trivial (fun _ => ?_)
      clear hKK KK
      try simp only [Act.put, List.setIfInBounds_toArray, List.set_cons_zero, List.set_cons_succ]
      refine wpAnyH_ready (rs := [4, 13]) (by kernel_rfl) (by simp) ?_
      refine consL rfl (fun KK hKK => ?_) (consL rfl (fun KK hKK => ?_) AllReadyH.nil)
      · go_simp
        refine hKK.out _ _ trivial (fun _ => ?_)
        clear hKK KK
        try simp only [Act.put, List.setIfInBounds_toArray, List.set_cons_zero, List.set_cons_succ]
        refine wpAnyH_ready (rs := [13]) (by kernel_rfl) (by simp) ?_
        refine consL rfl (fun KK hKK => ?_) AllReadyH.nil
        go_simp
        refine hKK.out _ _ trivial (fun _ => ?_)
        clear hKK KK
        try simp only [Act.put, List.setIfInBounds_toArray, List.set_cons_zero, List.set_cons_succ]
        refine takeL (i := 14) (v := ?_) rfl (by kernel_rfl) (by kernel_rfl) (by kernel_rfl) (fun _ _ _ h => h) (Or.inl ⟨by rfl, ?_⟩) trivial ?_
        rotate_left
        · rintro w' _; go_simp; rfl
        try simp only [Act.put, List.setIfInBounds_toArray, List.set_cons_zero, List.set_cons_succ]
        refine wpAnyH_ready (rs := [15]) (by kernel_rfl) (by simp) ?_
        refine consL rfl (fun KK hKK => ?_) AllReadyH.nil
        go_simp
        refine hKK.out _ _ trivial (fun _ => ?_)
        clear hKK KK
        try simp only [Act.put, List.setIfInBounds_toArray, List.set_cons_zero, List.set_cons_succ]
        refine takeL (i := 16) (v := ?_) rfl (by kernel_rfl) (by kernel_rfl) (by kernel_rfl) (fun _ _ _ h => h) (Or.inl ⟨by rfl, ?_⟩) trivial ?_
        rotate_left
        · rintro w' _; go_simp; rfl
        try simp only [Act.put, List.setIfInBounds_toArray, List.set_cons_zero, List.set_cons_succ]
        refine wpAnyH_done (by kernel_rfl) ?_ _
        have h4 := four w.drew (.cells R2 107) (.cells R1 103) (.map #[] 0) (.cells #[.slice (some ⟨w.heap.size + 1, 0, none⟩) 1 C1, .slice (some ⟨w.heap.size, 0, none⟩) 1 C2, .map (some (w.heap.size + 2)), .int .i32 0] 101)
        exact ⟨w.heap.size + 3, w.heap.size + 1, w.heap.size, w.heap.size + 2, rfl, ⟨h4.2.1, h4.1, h4.2.2.1, h4.2.2.2.1, ⟨by omega, by omega, by omega, by omega⟩, ⟨h4.2.2.2.2.os, h4.2.2.2.2.tape, h4.2.2.2.2.output, h4.2.2.2.2.size, h4.2.2.2.2.block⟩⟩⟩
      · go_simp
        refine hKK.out _ _ trivial (fun _ => ?_)
        clear hKK KK
        try simp only [Act.put, List.setIfInBounds_toArray, List.set_cons_zero, List.set_cons_succ]
        refine wpAnyH_ready (rs := [4]) (by kernel_rfl) (by simp) ?_
        refine consL rfl (fun KK hKK => ?_) AllReadyH.nil
        go_simp
        refine hKK.out _ _ trivial (fun _ => ?_)
        clear hKK KK
        try simp only [Act.put, List.setIfInBounds_toArray, List.set_cons_zero, List.set_cons_succ]
        refine takeL (i := 14) (v := ?_) rfl (by kernel_rfl) (by kernel_rfl) (by kernel_rfl) (fun _ _ _ h => h) (Or.inl ⟨by rfl, ?_⟩) trivial ?_
        rotate_left
        · rintro w' _; go_simp; rfl
        try simp only [Act.put, List.setIfInBounds_toArray, List.set_cons_zero, List.set_cons_succ]
        refine wpAnyH_ready (rs := [15]) (by kernel_rfl) (by simp) ?_
        refine consL rfl (fun KK hKK => ?_) AllReadyH.nil
        go_simp
        refine hKK.out _ _ trivial (fun _ => ?_)
        clear hKK KK
        try simp only [Act.put, List.setIfInBounds_toArray, List.set_cons_zero, List.set_cons_succ]
        refine takeL (i := 16) (v := ?_) rfl (by kernel_rfl) (by kernel_rfl) (by kernel_rfl) (fun _ _ _ h => h) (Or.inl ⟨by rfl, ?_⟩) trivial ?_
        rotate_left
        · rintro w' _; go_simp; rfl
        try simp only [Act.put, List.setIfInBounds_toArray, List.set_cons_zero, List.set_cons_succ]
        refine wpAnyH_done (by kernel_rfl) ?_ _
        have h4 := four w.drew (.cells R2 107) (.map #[] 0) (.cells R1 103) (.cells #[.slice (some ⟨w.heap.size + 2, 0, none⟩) 1 C1, .slice (some ⟨w.heap.size, 0, none⟩) 1 C2, .map (some (w.heap.size + 1)), .int .i32 0] 101)
        exact ⟨w.heap.size + 3, w.heap.size + 2, w.heap.size, w.heap.size + 1, rfl, ⟨h4.2.2.1, h4.1, h4.2.1, h4.2.2.2.1, ⟨by omega, by omega, by omega, by omega⟩, ⟨h4.2.2.2.2.os, h4.2.2.2.2.tape, h4.2.2.2.2.output, h4.2.2.2.2.size, h4.2.2.2.2.block⟩⟩⟩
    · go_simp
      refine hKK.out _ _ trivial (fun _ => ?_)
      clear hKK KK
      try simp only [Act.put, List.setIfInBounds_toArray, List.set_cons_zero, List.set_cons_succ]
      refine wpAnyH_ready (rs := [4, 9]) (by kernel_rfl) (by simp) ?_
      refine consL rfl (fun KK hKK => ?_) (consL rfl (fun KK hKK => ?_) AllReadyH.nil)
      · go_simp
        refine hKK.out _ _ trivial (fun _ => ?_)
        clear hKK KK
        try simp only [Act.put, List.setIfInBounds_toArray, List.set_cons_zero, List.set_cons_succ]
        refine wpAnyH_ready (rs := [9]) (by kernel_rfl) (by simp) ?_
        refine consL rfl (fun KK hKK => ?_) AllReadyH.nil
        go_simp
        refine hKK.out _ _ trivial (fun _ => ?_)
        clear hKK KK
        try simp only [Act.put, List.setIfInBounds_toArray, List.set_cons_zero, List.set_cons_succ]
        refine takeL (i := 14) (v := ?_) rfl (by kernel_rfl) (by kernel_rfl) (by kernel_rfl) (fun _ _ _ h => h) (Or.inl ⟨by rfl, ?_⟩) trivial ?_
        rotate_left
        · rintro w' _; go_simp; rfl
        try simp only [Act.put, List.setIfInBounds_toArray, List.set_cons_zero, List.set_cons_succ]
        refine wpAnyH_ready (rs := [15]) (by kernel_rfl) (by simp) ?_
        refine consL rfl (fun KK hKK => ?_) AllReadyH.nil
        go_simp
        refine hKK.out _ _ trivial (fun _ => ?_)
        clear hKK KK
        try simp only [Act.put, List.setIfInBounds_toArray, List.set_cons_zero, List.set_cons_succ]
        refine takeL (i := 16) (v := ?_) rfl (by kernel_rfl) (by kernel_rfl) (by kernel_rfl) (fun _ _ _ h => h) (Or.inl ⟨by rfl, ?_⟩) trivial ?_
        rotate_left
        · rintro w' _; go_simp; rfl
        try simp only [Act.put, List.setIfInBounds_toArray, List.set_cons_zero, List.set_cons_succ]
        refine wpAnyH_done (by kernel_rfl) ?_ _
        have h4 := four w.drew (.map #[] 0) (.cells R1 103) (.cells R2 107) (.cells #[.slice (some ⟨w.heap.size + 1, 0, none⟩) 1 C1, .slice (some ⟨w.heap.size + 2, 0, none⟩) 1 C2, .map (some (w.heap.size)), .int .i32 0] 101)
        exact ⟨w.heap.size + 3, w.heap.size + 1, w.heap.size + 2, w.heap.size, rfl, ⟨h4.2.1, h4.2.2.1, h4.1, h4.2.2.2.1, ⟨by omega, by omega, by omega, by omega⟩, ⟨h4.2.2.2.2.os, h4.2.2.2.2.tape, h4.2.2.2.2.output, h4.2.2.2.2.size, h4.2.2.2.2.block⟩⟩⟩
      · go_simp
        refine hKK.out _ _ trivial (fun _ => ?_)
        clear hKK KK
        try simp only [Act.put, List.setIfInBounds_toArray, List.set_cons_zero, List.set_cons_succ]
        refine wpAnyH_ready (rs := [4]) (by kernel_rfl) (by simp) ?_
        refine consL rfl (fun KK hKK => ?_) AllReadyH.nil
        go_simp
        refine hKK.out _ _ trivial (fun _ => ?_)
        clear hKK KK
        try simp only [Act.put, List.setIfInBounds_toArray, List.set_cons_zero, List.set_cons_succ]
        refine takeL (i := 14) (v := ?_) rfl (by kernel_rfl) (by kernel_rfl) (by kernel_rfl) (fun _ _ _ h => h) (Or.inl ⟨by rfl, ?_⟩) trivial ?_
        rotate_left
        · rintro w' _; go_simp; rfl
        try simp only [Act.put, List.setIfInBounds_toArray, List.set_cons_zero, List.set_cons_succ]
        refine wpAnyH_ready (rs := [15]) (by kernel_rfl) (by simp) ?_
        refine consL rfl (fun KK hKK => ?_) AllReadyH.nil
        go_simp
        refine hKK.out _ _ trivial (fun _ => ?_)
        clear hKK KK
        try simp only [Act.put, List.setIfInBounds_toArray, List.set_cons_zero, List.set_cons_succ]
        refine takeL (i := 16) (v := ?_) rfl (by kernel_rfl) (by kernel_rfl) (by kernel_rfl) (fun _ _ _ h => h) (Or.inl ⟨by rfl, ?_⟩) trivial ?_
        rotate_left
        · rintro w' _; go_simp; rfl
        try simp only [Act.put, List.setIfInBounds_toArray, List.set_cons_zero, List.set_cons_succ]
        refine wpAnyH_done (by kernel_rfl) ?_ _
        have h4 := four w.drew (.map #[] 0) (.cells R2 107) (.cells R1 103) (.cells #[.slice (some ⟨w.heap.size + 2, 0, none⟩) 1 C1, .slice (some ⟨w.heap.size + 1, 0, none⟩) 1 C2, .map (some (w.heap.size)), .int .i32 0] 101)
        exact ⟨w.heap.size + 3, w.heap.size + 2, w.heap.size + 1, w.heap.size, rfl, ⟨h4.2.2.1, h4.2.1, h4.1, h4.2.2.2.1, ⟨by omega, by omega, by omega, by omega⟩, ⟨h4.2.2.2.2.os, h4.2.2.2.2.tape, h4.2.2.2.2.output, h4.2.2.2.2.size, h4.2.2.2.2.block⟩⟩⟩
  case rest =>
    intro e a w' hq
    cases e <;> first | exact hq.elim | skip
    obtain ⟨g, sb, eb, mb, rfl, nf⟩ := hq
    obtain ⟨hR, hB, c0, cs, fs⟩ := nf.rep (by rw [HC1.out]; omega) (by rw [HC2.out]; omega) hC1 hC2 HR1.out HR2.out
    have HR : Hid _ := hR
    have HB : Hid _ := hB
    clear hR hB nf hmk1 hmk2 hmm
    go_wp2_with fail
    obtain ⟨w3, HW3⟩ : ∃ w3, Hid (w'.setCell ⟨sb, 1, none⟩ (.int .i32 (-1)) = w3) := ⟨_, rfl⟩
    rw [HW3.out] at HR HB ⊢
    clear HW3 c0 cs fs hw2 hw3 hwc1 hwc2 hc1 hc2
    have HG0 : Hid (Good (base.take 0) (F0 C1 C2 g sb eb mb) (fun _ => [])) := good0 C1 C2 g sb eb mb
    go_loopg [30] L (fun k ix wr => ∃ (j : Nat) (F : Fn) (wd : Nat → List Int), ix = .int .i64 j ∧ k = L - j ∧ j ≤ L ∧ Hid (Rep w.heap.size wr g F) ∧ Hid (Good (base.take j) F wd) ∧ Hid (F.cs = C1) ∧ Hid (Below w.heap.size w wr))
    case atStart => exact ⟨0, F0 C1 C2 g sb eb mb, fun _ => [], rfl, rfl, by omega, HR.out, HG0.out, rfl, HB.out⟩
    case round =>
      obtain ⟨j, F, wd, rfl, hk, hj, HR4, HG4, HC4, HB4⟩ := hrel
      by_cases hjL : j < L
      · have hjI : (j : Int) < L := by omega
        have hjb : j < base.length := by rw [← HL.out]; exact hjL
        obtain ⟨bb, off, rfl, hbb, hat⟩ := HS.out.at_ (by omega)
        have hxb := HZ.out _ (List.getElem_mem hjb)
        obtain ⟨x, HX⟩ : ∃ x : Nat, Hid (base[j] = (x : Int)) := ⟨base[j].toNat, by show _ = _; omega⟩
        have hx : x < 256 := by have := HX.out; omega
        have cx : wr.cell? ⟨bb, off + j, none⟩ = some (.int .u8 x) := by
          have h1 := hat j hjb
          rw [List.getD_eq_getElem?_getD, List.getElem?_eq_getElem hjb, HX.out] at h1
          exact (HB4.out.cell (p := ⟨bb, off + j, none⟩) hbb).trans h1
        have htl : (base.take j).length = j := by rw [List.length_take]; omega
        have AD := add_any x hx wr HR4.out HG4.out (by omega) (by have := HG4.out.2.2.2; rw [htl] at this; rw [HC4.out, HC1.out]; omega)
        rw [show base.take j ++ [(x : Int)] = base.take (j + 1) by rw [← HX.out]; exact (List.take_succ_eq_append_getElem hjb).symm] at AD
        clear hat
        go_wp2_with (go_at_call 39; refine AD.mono ?_; clear AD; rintro ev w5 ⟨⟨v, rfl⟩, F5, wd5, hR5, hG5, hc5, hB5⟩; have HR5 : Hid _ := hR5; have HG5 : Hid _ := hG5; have HC5 : Hid _ := hc5; have HB5 : Hid _ := hB5; clear hR5 hG5 hc5 hB5)
        go_roundg (L - (j + 1))
        case measure => omega
        case rel => exact ⟨j + 1, F5, wd5, by go_num, rfl, by omega, HR5.out, HG5.out, by show _ = _; rw [HC5.out, HC4.out], HB4.out.trans HB5.out⟩
      · have hjI : ¬ (j : Int) < L := by omega
        have HGF : Hid (Good base F wd) := by have := HG4.out; rwa [List.take_of_length_le (by rw [← HL.out]; omega)] at this
        go_wp2_with fail
        go_ret
        exact ⟨g, F, wd, rfl, HR4.out, HGF.out, HB4.out⟩
end Go.Proofs.YtblegkefeiefjaaDoor
