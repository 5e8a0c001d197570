import Derived.Test.YtmpjapcijjjlbaaGreatDoorQd03
import Derived.Laws.CopyOwn
import Derived.Laws.IdiomCopy
import Derived.Deep.QuietTactic
import Derived.BigQuiet
import Derived.Shelf.SlSortCmp.NoneTotal
namespace Go.Proofs.YtmpjapcijjjlbaaGreatDoor
open Go.RowKit
set_option linter.unusedVariables false
set_option linter.unusedSimpArgs false
def encE (x : Ed) : List Value := [.int .i64 (x.1 : Int), sV x.2]
abbrev PE (w : World) (a : Option Addr) (cap : Nat) (l : List Ed) : Prop := Px encE 2 (0, []) w a cap l
abbrev BE (e : TypeId) (w0 w : World) (B : Nat) (v : Value) (l : List Ed) : Prop := Bx encE 2 e w0 w B v l
theorem encE_len (x : Ed) : (encE x).length = 2 := rfl
theorem encE_one (x : Ed) : ∀ v ∈ encE x, v.oneCell' = true := fun v hv => by
  rcases List.mem_cons.1 hv with rfl | hv
  · rfl
  · rw [List.mem_singleton.1 hv]; rfl
theorem Tryz.info43 : (Tryz.prog.info? 43).map (fun i => (i.zero, i.size, i.bytes)) = some (some (.agg #[.int .i64 0, .string ⟨#[]⟩]), 2, 24) := by kernel_rfl
theorem und26 : Tryz.prog.underlying 23 = some (.slice 43) := by kernel_rfl
theorem run_build26 (k : Nat) (T : Value) (hT : ∃ B, T = .string B) (w : World) : (Instr.buildSlice 23 1 #[(0, .agg #[.int .i64 (k : Int), T])]).run Tryz.prog w = .ok (.slice (some ⟨w.heap.size, 0, none⟩) 1 1) (w.alloc (.cells #[.int .i64 (k : Int), T] 43)) := by
  obtain ⟨B, rfl⟩ := hT
  obtain ⟨i, hq, hz, hs, _⟩ := info_parts Tryz.info43
  refine run_buildSlice w 23 43 1 _ #[.int .i64 (k : Int), .string B] i _ Tryz.underlying23 hq hz (by rw [hs]; decide) (by rw [hs]; decide) ?_
  rw [hs]
  kernel_rfl
theorem pe_one (x : Ed) (e : TypeId) (w : World) : PE (w.alloc (.cells (encE x).toArray e)) (some ⟨w.heap.size, 0, none⟩) 1 [x] :=
  ⟨by simp, fun _ => ⟨w.heap.size, 0, rfl, by simp, fun i hi => by
    obtain rfl : i = 0 := by simp at hi; omega
    have := range_row (cs := encE x) (heap_alloc_new w (.cells (encE x).toArray e))
    simpa using this⟩, fun h => by cases h⟩
theorem app_ed {e t : TypeId} (hu : Tryz.prog.underlying t = some (.slice e)) (hin : (Tryz.prog.info? e).map (fun i => (i.zero, i.size, i.bytes)) = some (some (.agg #[.int .i64 0, .string ⟨#[]⟩]), 2, 24)) {w0 wr : World} {G m lc : Nat} {la : Option Addr} {L : List Ed} (hB : BE e w0 wr G (.slice la m lc) L) (hLm : L.length = m) (hm : m ≤ 20000) (x : Ed) (T : Value) (hT : sV x.2 = T)
    {ops : Array Oper} {rest : List Oper} {o : Oper} {ac : Act} {Q : Exit → Act → World → Prop} (hg : o.guard = none) (s y : Operand) (ho : o.op = .call { callee := .builtin .append, args := #[s, y], argTypes := #[t, t] }) (hs : ac.eval s = .slice la m lc) (hy : ac.eval y = .slice (some ⟨wr.heap.size, 0, none⟩) 1 1)
    (hK : ∀ a' c' w', Hid (BE e w0 w' G (.slice a' (m + 1 : Nat) c') (L ++ [x])) → wpList Tryz.prog ops Q rest (ac.put o.dst (.slice a' (m + 1 : Nat) c')) w') : wpList Tryz.prog ops Q (o :: rest) ac (wr.alloc (.cells #[.int .i64 (x.1 : Int), T] e)) := by
  subst hT
  refine wpList_bx_sl hg s y t e hu hin rfl (by decide) (by decide) encE_one ho G (.slice la m lc) L hs (hB.alloc _) _ 1 [x] hy (pe_one x e wr) (fun x _ => encE_len x) (by rw [hLm]; simp; omega) ?_
  intro v' w' h1 h2
  obtain ⟨a', c', rfl⟩ := owns_shape h1.own
  rw [List.length_append, hLm] at h1 ⊢
  exact hK a' c' w' h1
structure Q2 (b o b' o' : Nat) (X Y : ByteArray) (W : World) : Prop where
  c0 : W.cell? ⟨b, o, none⟩ = some (.string X)
  c1 : W.cell? ⟨b', o', none⟩ = some (.string Y)
theorem PS.str {w : World} {b off cap : Nat} {s : List Str} (h : PS w (some ⟨b, off, none⟩) cap s) (i : Nat) (hi : i < s.length) : w.cell? ⟨b, off + i, none⟩ = some (.string ⟨(s.getD i []).toArray⟩) := PS.cell h i hi
theorem bne_txt {x y : Str} {X Y : ByteArray} (hX : (⟨x.toArray⟩ : ByteArray) = X) (hY : (⟨y.toArray⟩ : ByteArray) = Y) (h : x ≠ y) : (X.toList == Y.toList) = false := by
  rw [← hX, ← hY, Lib.toList_data, Lib.toList_data]
  simpa using h
set_option maxRecDepth 20000 in
set_option maxHeartbeats 2000000 in
theorem front_any {w : World} (a : Option Addr) (ca : Nat) (A : List Str) (hA : PS w a ca A) (b : Option Addr) (cb : Nat) (B : List Str) (hB : PS w b cb B) (hAl : A.length ≤ 4000) (hBl : B.length ≤ 4000) :
    Calls Tryz.prog 24 #[.slice a A.length ca, .slice b B.length cb] w fun e w' => e = .returned (.int .i64 (fr A B : Nat)) ∧ Below w.heap.size w w' := by
  obtain ⟨n, HN⟩ : ∃ n, Hid (A.length = n) := ⟨_, rfl⟩
  obtain ⟨m, HM⟩ : ∃ n, Hid (B.length = n) := ⟨_, rfl⟩
  obtain ⟨G, HG⟩ : ∃ G, Hid (w.heap.size = G) := ⟨_, rfl⟩
  obtain ⟨f, HF⟩ : ∃ f, Hid (fr A B = f) := ⟨_, rfl⟩
  obtain ⟨M, HMM⟩ : ∃ M, Hid (min n m = M) := ⟨_, rfl⟩
  have hmin : min (n : Int) (m : Int) = (M : Int) := by rw [← HMM.out]; omega
  have hMn : M ≤ n := by rw [← HMM.out]; omega
  have hMm : M ≤ m := by rw [← HMM.out]; omega
  have hMo : M = n ∨ M = m := by rw [← HMM.out]; omega
  have hn4 : n ≤ 4000 := by rw [← HN.out]; exact hAl
  have HPA : Hid (∀ W, Below G w W → PS W a ca A) := fun W hW => hA.below (by rw [HG.out]; exact hW)
  have HPB : Hid (∀ W, Below G w W → PS W b cb B) := fun W hW => hB.below (by rw [HG.out]; exact hW)
  have HFA : Hid (0 < n → ∃ b off, a = some ⟨b, off, none⟩) := fun h0 => by
    obtain ⟨b, off, e1, _⟩ := hA.at_ (by rw [HN.out]; exact h0)
    exact ⟨b, off, e1⟩
  have HFB : Hid (0 < m → ∃ c off, b = some ⟨c, off, none⟩) := fun h0 => by
    obtain ⟨b, off, e1, _⟩ := hB.at_ (by rw [HM.out]; exact h0)
    exact ⟨b, off, e1⟩
  rw [HN.out, HM.out, HF.out]
  clear hA hB hAl hBl
  go_enter Tryz.func24, Tryz.ntmps24
  go_wp2_with fail
  go_loopg [5] M (fun gg iv wr => ∃ i : Nat, iv = .int .i64 i ∧ i ≤ M ∧ gg = M - i ∧ Hid (Below G w wr) ∧ Hid (f = i + fr (A.drop i) (B.drop i)))
  case atStart => exact ⟨0, rfl, Nat.zero_le _, rfl, hid (Below.refl _ _), hid (by rw [← HF.out]; simp)⟩
  case round =>
    obtain ⟨i, rfl, hi, hk, HB, HI⟩ := hrel
    have HBD : Hid (Below G w wr.drew) := hid (HB.out.trans ⟨rfl, rfl, rfl, Nat.le_refl _, fun _ _ => rfl⟩)
    by_cases hlt : i < M
    · have hlti : (i : Int) < (M : Int) := by omega
      obtain ⟨ba, oa, e1⟩ := HFA.out (by omega)
      subst e1
      obtain ⟨bb, ob, e1⟩ := HFB.out (by omega)
      subst e1
      obtain ⟨x, HX⟩ : ∃ x, Hid (A.getD i [] = x) := ⟨_, rfl⟩
      obtain ⟨y, HY⟩ : ∃ x, Hid (B.getD i [] = x) := ⟨_, rfl⟩
      obtain ⟨BX, HBX⟩ : ∃ X, Hid ((⟨x.toArray⟩ : ByteArray) = X) := ⟨_, rfl⟩
      obtain ⟨BY, HBY⟩ : ∃ X, Hid ((⟨y.toArray⟩ : ByteArray) = X) := ⟨_, rfl⟩
      have HQ : Hid (Q2 ba (oa + i) bb (ob + i) BX BY wr.drew) := hid ⟨by rw [← HBX.out, ← HX.out]; exact PS.str (HPA.out _ HBD.out) i (by rw [HN.out]; omega), by rw [← HBY.out, ← HY.out]; exact PS.str (HPB.out _ HBD.out) i (by rw [HM.out]; omega)⟩
      have hin : (i : Int) < (n : Int) := by omega
      have him : (i : Int) < (m : Int) := by omega
      by_cases hxy : x = y
      · have hXY : BX = BY := by rw [← HBX.out, ← HBY.out, hxy]
        subst hXY
        have heq : (BX.toList == BX.toList) = true := by simp
        have HI2 : Hid (f = (i + 1) + fr (A.drop (i + 1)) (B.drop (i + 1))) := hid (by
          have h1 : fr A B = i + fr (A.drop i) (B.drop i) := by rw [HF.out]; exact HI.out
          rw [← HF.out]
          exact fr_step A B i (by rw [HN.out]; omega) (by rw [HM.out]; omega) h1 (by rw [HX.out, HY.out]; exact hxy))
        go_wp2_with fail
        refine wp_region_held_drew (S := Q2 ba (oa + i) bb (ob + i) BX BX) (by kernel_rfl) HQ.out (fun hHeld => ?_)
        generalize wr.drew = wd at hHeld HBD ⊢
        refine takeL (i := 0) (v := ?_) rfl (by kernel_rfl) (by kernel_rfl) (by kernel_rfl) (fun _ _ _ h => h) (Or.inl ⟨by rfl, ?_⟩) hHeld ?_
        rotate_left
        · rintro w' ⟨s0, s1⟩; go_simp; rfl
        try simp only [Act.put, List.setIfInBounds_toArray, List.set_cons_zero, List.set_cons_succ]
        refine takeL (i := 1) (v := ?_) rfl (by kernel_rfl) (by kernel_rfl) (by kernel_rfl) (fun _ _ _ h => h) (Or.inl ⟨by rfl, ?_⟩) hHeld ?_
        rotate_left
        · rintro w' ⟨s0, s1⟩; go_simp; rfl
        try simp only [Act.put, List.setIfInBounds_toArray, List.set_cons_zero, List.set_cons_succ]
        refine takeL (i := 2) (v := ?_) rfl (by kernel_rfl) (by kernel_rfl) (by kernel_rfl) (fun _ _ _ h => h) (Or.inl ⟨by rfl, ?_⟩) hHeld ?_
        rotate_left
        · rintro w' ⟨s0, s1⟩; go_simp; rfl
        try simp only [Act.put, List.setIfInBounds_toArray, List.set_cons_zero, List.set_cons_succ]
        refine takeL (i := 3) (v := ?_) rfl (by kernel_rfl) (by kernel_rfl) (by kernel_rfl) (fun _ _ _ h => h) (Or.inl ⟨by rfl, ?_⟩) hHeld ?_
        rotate_left
        · rintro w' ⟨s0, s1⟩; go_simp; rfl
        try simp only [Act.put, List.setIfInBounds_toArray, List.set_cons_zero, List.set_cons_succ]
        refine takeL (i := 4) (v := ?_) rfl (by kernel_rfl) (by kernel_rfl) (by kernel_rfl) (fun _ _ _ h => h) (Or.inl ⟨by rfl, ?_⟩) hHeld ?_
        rotate_left
        · rintro w' ⟨s0, s1⟩; go_simp; rfl
        try simp only [Act.put, List.setIfInBounds_toArray, List.set_cons_zero, List.set_cons_succ]
        refine takeL (i := 5) (v := .int .i64 (M : Int)) rfl (by kernel_rfl) (by kernel_rfl) (by kernel_rfl) (fun _ _ _ h => h) (Or.inl ⟨by rfl, ?_⟩) hHeld ?_
        · rintro w' ⟨s0, s1⟩; go_simp; try rfl
        try simp only [Act.put, List.setIfInBounds_toArray, List.set_cons_zero, List.set_cons_succ]
        refine takeL (i := 6) (v := .bool true) rfl (by kernel_rfl) (by kernel_rfl) (by kernel_rfl) (fun _ _ _ h => h) (Or.inl ⟨by rfl, ?_⟩) hHeld ?_
        · rintro w' ⟨s0, s1⟩; go_simp; try rfl
        try simp only [Act.put, List.setIfInBounds_toArray, List.set_cons_zero, List.set_cons_succ]
        refine takeL (i := 7) (v := .bool true) rfl (by kernel_rfl) (by kernel_rfl) (by kernel_rfl) (fun _ _ _ h => h) (Or.inl ⟨by rfl, ?_⟩) hHeld ?_
        · rintro w' ⟨s0, s1⟩; go_simp; try rfl
        try simp only [Act.put, List.setIfInBounds_toArray, List.set_cons_zero, List.set_cons_succ]
        refine takeL (i := 8) (v := ?_) rfl (by kernel_rfl) (by kernel_rfl) (by kernel_rfl) (fun _ _ _ h => h) (Or.inl ⟨by kernel_rfl, ?_⟩) hHeld ?_
        rotate_left
        · rintro w' ⟨s0, s1⟩; go_simp; rfl
        try simp only [Act.put, List.setIfInBounds_toArray, List.set_cons_zero, List.set_cons_succ]
        refine takeL (i := 9) (v := ?_) rfl (by kernel_rfl) (by kernel_rfl) (by kernel_rfl) (fun _ _ _ h => h) (Or.inl ⟨by kernel_rfl, ?_⟩) hHeld ?_
        rotate_left
        · rintro w' ⟨s0, s1⟩; go_simp; rfl
        try simp only [Act.put, List.setIfInBounds_toArray, List.set_cons_zero, List.set_cons_succ]
        refine takeL (i := 10) (v := ?_) rfl (by kernel_rfl) (by kernel_rfl) (by kernel_rfl) (fun _ _ _ h => h) (Or.inl ⟨by kernel_rfl, ?_⟩) hHeld ?_
        rotate_left
        · rintro w' ⟨s0, s1⟩; go_simp; rfl
        try simp only [Act.put, List.setIfInBounds_toArray, List.set_cons_zero, List.set_cons_succ]
        refine takeL (i := 11) (v := ?_) rfl (by kernel_rfl) (by kernel_rfl) (by kernel_rfl) (fun _ _ _ h => h) (Or.inl ⟨by kernel_rfl, ?_⟩) hHeld ?_
        rotate_left
        · rintro w' ⟨s0, s1⟩; go_simp; rfl
        try simp only [Act.put, List.setIfInBounds_toArray, List.set_cons_zero, List.set_cons_succ]
        refine takeL (i := 12) (v := ?_) rfl (by kernel_rfl) (by kernel_rfl) (by kernel_rfl) (fun _ _ _ h => h) (Or.inl ⟨by kernel_rfl, ?_⟩) hHeld ?_
        rotate_left
        · rintro w' ⟨s0, s1⟩; go_simp; rfl
        try simp only [Act.put, List.setIfInBounds_toArray, List.set_cons_zero, List.set_cons_succ]
        refine takeL (i := 13) (v := ?_) rfl (by kernel_rfl) (by kernel_rfl) (by kernel_rfl) (fun _ _ _ h => h) (Or.inl ⟨by kernel_rfl, ?_⟩) hHeld ?_
        rotate_left
        · rintro w' ⟨s0, s1⟩; go_simp; rfl
        try simp only [Act.put, List.setIfInBounds_toArray, List.set_cons_zero, List.set_cons_succ]
        refine takeL (i := 14) (v := ?_) rfl (by kernel_rfl) (by kernel_rfl) (by kernel_rfl) (fun _ _ _ h => h) (Or.inl ⟨by kernel_rfl, ?_⟩) hHeld ?_
        rotate_left
        · rintro w' ⟨s0, s1⟩; go_simp; rfl
        try simp only [Act.put, List.setIfInBounds_toArray, List.set_cons_zero, List.set_cons_succ]
        refine takeL (i := 15) (v := ?_) rfl (by kernel_rfl) (by kernel_rfl) (by kernel_rfl) (fun _ _ _ h => h) (Or.inl ⟨by kernel_rfl, ?_⟩) hHeld ?_
        rotate_left
        · rintro w' ⟨s0, s1⟩; go_simp; rfl
        try simp only [Act.put, List.setIfInBounds_toArray, List.set_cons_zero, List.set_cons_succ]
        refine takeL (i := 16) (v := .bool true) rfl (by kernel_rfl) (by kernel_rfl) (by kernel_rfl) (fun _ _ _ h => h) (Or.inl ⟨by kernel_rfl, ?_⟩) hHeld ?_
        · rintro w' ⟨s0, s1⟩; go_simp; try rfl
        try simp only [Act.put, List.setIfInBounds_toArray, List.set_cons_zero, List.set_cons_succ]
        refine takeL (i := 17) (v := .bool true) rfl (by kernel_rfl) (by kernel_rfl) (by kernel_rfl) (fun _ _ _ h => h) (Or.inl ⟨by rfl, ?_⟩) hHeld ?_
        · rintro w' ⟨s0, s1⟩; go_simp; try rfl
        try simp only [Act.put, List.setIfInBounds_toArray, List.set_cons_zero, List.set_cons_succ]
        refine wpAnyH_done (by kernel_rfl) ?_ _
        clear hHeld
        go_wp2
        go_roundg (M - (i + 1))
        case measure => omega
        case rel => exact ⟨i + 1, by go_num, by omega, rfl, HBD, HI2⟩
      · have heq : (BX.toList == BY.toList) = false := bne_txt HBX.out HBY.out hxy
        have HE : Hid (f = i) := hid (by
          have h1 : fr A B = i + fr (A.drop i) (B.drop i) := by rw [HF.out]; exact HI.out
          rw [← HF.out]
          exact fr_stop A B i (by rw [HN.out]; omega) (by rw [HM.out]; omega) h1 (by rw [HX.out, HY.out]; exact hxy))
        go_wp2_with fail
        refine wp_region_held_drew (S := Q2 ba (oa + i) bb (ob + i) BX BY) (by kernel_rfl) HQ.out (fun hHeld => ?_)
        generalize wr.drew = wd at hHeld HBD ⊢
        refine takeL (i := 0) (v := ?_) rfl (by kernel_rfl) (by kernel_rfl) (by kernel_rfl) (fun _ _ _ h => h) (Or.inl ⟨by rfl, ?_⟩) hHeld ?_
        rotate_left
        · rintro w' ⟨s0, s1⟩; go_simp; rfl
        try simp only [Act.put, List.setIfInBounds_toArray, List.set_cons_zero, List.set_cons_succ]
        refine takeL (i := 1) (v := ?_) rfl (by kernel_rfl) (by kernel_rfl) (by kernel_rfl) (fun _ _ _ h => h) (Or.inl ⟨by rfl, ?_⟩) hHeld ?_
        rotate_left
        · rintro w' ⟨s0, s1⟩; go_simp; rfl
        try simp only [Act.put, List.setIfInBounds_toArray, List.set_cons_zero, List.set_cons_succ]
        refine takeL (i := 2) (v := ?_) rfl (by kernel_rfl) (by kernel_rfl) (by kernel_rfl) (fun _ _ _ h => h) (Or.inl ⟨by rfl, ?_⟩) hHeld ?_
        rotate_left
        · rintro w' ⟨s0, s1⟩; go_simp; rfl
        try simp only [Act.put, List.setIfInBounds_toArray, List.set_cons_zero, List.set_cons_succ]
        refine takeL (i := 3) (v := ?_) rfl (by kernel_rfl) (by kernel_rfl) (by kernel_rfl) (fun _ _ _ h => h) (Or.inl ⟨by rfl, ?_⟩) hHeld ?_
        rotate_left
        · rintro w' ⟨s0, s1⟩; go_simp; rfl
        try simp only [Act.put, List.setIfInBounds_toArray, List.set_cons_zero, List.set_cons_succ]
        refine takeL (i := 4) (v := ?_) rfl (by kernel_rfl) (by kernel_rfl) (by kernel_rfl) (fun _ _ _ h => h) (Or.inl ⟨by rfl, ?_⟩) hHeld ?_
        rotate_left
        · rintro w' ⟨s0, s1⟩; go_simp; rfl
        try simp only [Act.put, List.setIfInBounds_toArray, List.set_cons_zero, List.set_cons_succ]
        refine takeL (i := 5) (v := .int .i64 (M : Int)) rfl (by kernel_rfl) (by kernel_rfl) (by kernel_rfl) (fun _ _ _ h => h) (Or.inl ⟨by rfl, ?_⟩) hHeld ?_
        · rintro w' ⟨s0, s1⟩; go_simp; try rfl
        try simp only [Act.put, List.setIfInBounds_toArray, List.set_cons_zero, List.set_cons_succ]
        refine takeL (i := 6) (v := .bool true) rfl (by kernel_rfl) (by kernel_rfl) (by kernel_rfl) (fun _ _ _ h => h) (Or.inl ⟨by rfl, ?_⟩) hHeld ?_
        · rintro w' ⟨s0, s1⟩; go_simp; try rfl
        try simp only [Act.put, List.setIfInBounds_toArray, List.set_cons_zero, List.set_cons_succ]
        refine takeL (i := 7) (v := .bool true) rfl (by kernel_rfl) (by kernel_rfl) (by kernel_rfl) (fun _ _ _ h => h) (Or.inl ⟨by rfl, ?_⟩) hHeld ?_
        · rintro w' ⟨s0, s1⟩; go_simp; try rfl
        try simp only [Act.put, List.setIfInBounds_toArray, List.set_cons_zero, List.set_cons_succ]
        refine takeL (i := 8) (v := ?_) rfl (by kernel_rfl) (by kernel_rfl) (by kernel_rfl) (fun _ _ _ h => h) (Or.inl ⟨by kernel_rfl, ?_⟩) hHeld ?_
        rotate_left
        · rintro w' ⟨s0, s1⟩; go_simp; rfl
        try simp only [Act.put, List.setIfInBounds_toArray, List.set_cons_zero, List.set_cons_succ]
        refine takeL (i := 9) (v := ?_) rfl (by kernel_rfl) (by kernel_rfl) (by kernel_rfl) (fun _ _ _ h => h) (Or.inl ⟨by kernel_rfl, ?_⟩) hHeld ?_
        rotate_left
        · rintro w' ⟨s0, s1⟩; go_simp; rfl
        try simp only [Act.put, List.setIfInBounds_toArray, List.set_cons_zero, List.set_cons_succ]
        refine takeL (i := 10) (v := ?_) rfl (by kernel_rfl) (by kernel_rfl) (by kernel_rfl) (fun _ _ _ h => h) (Or.inl ⟨by kernel_rfl, ?_⟩) hHeld ?_
        rotate_left
        · rintro w' ⟨s0, s1⟩; go_simp; rfl
        try simp only [Act.put, List.setIfInBounds_toArray, List.set_cons_zero, List.set_cons_succ]
        refine takeL (i := 11) (v := ?_) rfl (by kernel_rfl) (by kernel_rfl) (by kernel_rfl) (fun _ _ _ h => h) (Or.inl ⟨by kernel_rfl, ?_⟩) hHeld ?_
        rotate_left
        · rintro w' ⟨s0, s1⟩; go_simp; rfl
        try simp only [Act.put, List.setIfInBounds_toArray, List.set_cons_zero, List.set_cons_succ]
        refine takeL (i := 12) (v := ?_) rfl (by kernel_rfl) (by kernel_rfl) (by kernel_rfl) (fun _ _ _ h => h) (Or.inl ⟨by kernel_rfl, ?_⟩) hHeld ?_
        rotate_left
        · rintro w' ⟨s0, s1⟩; go_simp; rfl
        try simp only [Act.put, List.setIfInBounds_toArray, List.set_cons_zero, List.set_cons_succ]
        refine takeL (i := 13) (v := ?_) rfl (by kernel_rfl) (by kernel_rfl) (by kernel_rfl) (fun _ _ _ h => h) (Or.inl ⟨by kernel_rfl, ?_⟩) hHeld ?_
        rotate_left
        · rintro w' ⟨s0, s1⟩; go_simp; rfl
        try simp only [Act.put, List.setIfInBounds_toArray, List.set_cons_zero, List.set_cons_succ]
        refine takeL (i := 14) (v := ?_) rfl (by kernel_rfl) (by kernel_rfl) (by kernel_rfl) (fun _ _ _ h => h) (Or.inl ⟨by kernel_rfl, ?_⟩) hHeld ?_
        rotate_left
        · rintro w' ⟨s0, s1⟩; go_simp; rfl
        try simp only [Act.put, List.setIfInBounds_toArray, List.set_cons_zero, List.set_cons_succ]
        refine takeL (i := 15) (v := ?_) rfl (by kernel_rfl) (by kernel_rfl) (by kernel_rfl) (fun _ _ _ h => h) (Or.inl ⟨by kernel_rfl, ?_⟩) hHeld ?_
        rotate_left
        · rintro w' ⟨s0, s1⟩; go_simp; rfl
        try simp only [Act.put, List.setIfInBounds_toArray, List.set_cons_zero, List.set_cons_succ]
        refine takeL (i := 16) (v := .bool false) rfl (by kernel_rfl) (by kernel_rfl) (by kernel_rfl) (fun _ _ _ h => h) (Or.inl ⟨by kernel_rfl, ?_⟩) hHeld ?_
        · rintro w' ⟨s0, s1⟩; go_simp; try rfl
        try simp only [Act.put, List.setIfInBounds_toArray, List.set_cons_zero, List.set_cons_succ]
        refine takeL (i := 17) (v := .bool false) rfl (by kernel_rfl) (by kernel_rfl) (by kernel_rfl) (fun _ _ _ h => h) (Or.inl ⟨by rfl, ?_⟩) hHeld ?_
        · rintro w' ⟨s0, s1⟩; go_simp; try rfl
        try simp only [Act.put, List.setIfInBounds_toArray, List.set_cons_zero, List.set_cons_succ]
        refine wpAnyH_done (by kernel_rfl) ?_ _
        clear hHeld
        go_wp2
        go_ret
        exact ⟨by rw [HE.out]; rfl, by rw [HG.out]; exact HBD.out⟩
    · have hlti : ¬ (i : Int) < (M : Int) := by omega
      have HE : Hid (f = i) := hid (by
        have h1 : fr A B = i + fr (A.drop i) (B.drop i) := by rw [HF.out]; exact HI.out
        rw [← HF.out]
        exact fr_end A B i (by rw [HN.out, HM.out]; omega) h1)
      go_wp2_with fail
      refine wp_region_held_drew (S := fun _ => True) (by kernel_rfl) trivial (fun hHeld => ?_)
      generalize wr.drew = wd at HBD ⊢
      refine takeL (i := 0) (v := ?_) rfl (by kernel_rfl) (by kernel_rfl) (by kernel_rfl) (fun _ _ _ h => h) (Or.inl ⟨by rfl, ?_⟩) hHeld ?_
      rotate_left
      · rintro w' _; go_simp; rfl
      try simp only [Act.put, List.setIfInBounds_toArray, List.set_cons_zero, List.set_cons_succ]
      refine takeL (i := 1) (v := ?_) rfl (by kernel_rfl) (by kernel_rfl) (by kernel_rfl) (fun _ _ _ h => h) (Or.inl ⟨by rfl, ?_⟩) hHeld ?_
      rotate_left
      · rintro w' _; go_simp; rfl
      try simp only [Act.put, List.setIfInBounds_toArray, List.set_cons_zero, List.set_cons_succ]
      refine takeL (i := 2) (v := ?_) rfl (by kernel_rfl) (by kernel_rfl) (by kernel_rfl) (fun _ _ _ h => h) (Or.inl ⟨by rfl, ?_⟩) hHeld ?_
      rotate_left
      · rintro w' _; go_simp; rfl
      try simp only [Act.put, List.setIfInBounds_toArray, List.set_cons_zero, List.set_cons_succ]
      refine takeL (i := 3) (v := ?_) rfl (by kernel_rfl) (by kernel_rfl) (by kernel_rfl) (fun _ _ _ h => h) (Or.inl ⟨by rfl, ?_⟩) hHeld ?_
      rotate_left
      · rintro w' _; go_simp; rfl
      try simp only [Act.put, List.setIfInBounds_toArray, List.set_cons_zero, List.set_cons_succ]
      refine takeL (i := 4) (v := ?_) rfl (by kernel_rfl) (by kernel_rfl) (by kernel_rfl) (fun _ _ _ h => h) (Or.inl ⟨by rfl, ?_⟩) hHeld ?_
      rotate_left
      · rintro w' _; go_simp; rfl
      try simp only [Act.put, List.setIfInBounds_toArray, List.set_cons_zero, List.set_cons_succ]
      refine takeL (i := 5) (v := .int .i64 (M : Int)) rfl (by kernel_rfl) (by kernel_rfl) (by kernel_rfl) (fun _ _ _ h => h) (Or.inl ⟨by rfl, ?_⟩) hHeld ?_
      · rintro w' _; go_simp; try rfl
      try simp only [Act.put, List.setIfInBounds_toArray, List.set_cons_zero, List.set_cons_succ]
      refine takeL (i := 6) (v := .bool false) rfl (by kernel_rfl) (by kernel_rfl) (by kernel_rfl) (fun _ _ _ h => h) (Or.inl ⟨by rfl, ?_⟩) hHeld ?_
      · rintro w' _; go_simp; try rfl
      try simp only [Act.put, List.setIfInBounds_toArray, List.set_cons_zero, List.set_cons_succ]
      refine takeL (i := 7) (v := .bool false) rfl (by kernel_rfl) (by kernel_rfl) (by kernel_rfl) (fun _ _ _ h => h) (Or.inl ⟨by rfl, ?_⟩) hHeld ?_
      · rintro w' _; go_simp; try rfl
      try simp only [Act.put, List.setIfInBounds_toArray, List.set_cons_zero, List.set_cons_succ]
      refine takeL (i := 8) (v := undef) rfl (by kernel_rfl) (by kernel_rfl) (by kernel_rfl) (fun _ _ _ h => h) (Or.inr ⟨by kernel_rfl, rfl⟩) hHeld ?_
      try simp only [Act.put, List.setIfInBounds_toArray, List.set_cons_zero, List.set_cons_succ]
      refine takeL (i := 9) (v := undef) rfl (by kernel_rfl) (by kernel_rfl) (by kernel_rfl) (fun _ _ _ h => h) (Or.inr ⟨by kernel_rfl, rfl⟩) hHeld ?_
      try simp only [Act.put, List.setIfInBounds_toArray, List.set_cons_zero, List.set_cons_succ]
      refine takeL (i := 10) (v := undef) rfl (by kernel_rfl) (by kernel_rfl) (by kernel_rfl) (fun _ _ _ h => h) (Or.inr ⟨by kernel_rfl, rfl⟩) hHeld ?_
      try simp only [Act.put, List.setIfInBounds_toArray, List.set_cons_zero, List.set_cons_succ]
      refine takeL (i := 11) (v := undef) rfl (by kernel_rfl) (by kernel_rfl) (by kernel_rfl) (fun _ _ _ h => h) (Or.inr ⟨by kernel_rfl, rfl⟩) hHeld ?_
      try simp only [Act.put, List.setIfInBounds_toArray, List.set_cons_zero, List.set_cons_succ]
      refine takeL (i := 12) (v := undef) rfl (by kernel_rfl) (by kernel_rfl) (by kernel_rfl) (fun _ _ _ h => h) (Or.inr ⟨by kernel_rfl, rfl⟩) hHeld ?_
      try simp only [Act.put, List.setIfInBounds_toArray, List.set_cons_zero, List.set_cons_succ]
      refine takeL (i := 13) (v := undef) rfl (by kernel_rfl) (by kernel_rfl) (by kernel_rfl) (fun _ _ _ h => h) (Or.inr ⟨by kernel_rfl, rfl⟩) hHeld ?_
      try simp only [Act.put, List.setIfInBounds_toArray, List.set_cons_zero, List.set_cons_succ]
      refine takeL (i := 14) (v := undef) rfl (by kernel_rfl) (by kernel_rfl) (by kernel_rfl) (fun _ _ _ h => h) (Or.inr ⟨by kernel_rfl, rfl⟩) hHeld ?_
      try simp only [Act.put, List.setIfInBounds_toArray, List.set_cons_zero, List.set_cons_succ]
      refine takeL (i := 15) (v := undef) rfl (by kernel_rfl) (by kernel_rfl) (by kernel_rfl) (fun _ _ _ h => h) (Or.inr ⟨by kernel_rfl, rfl⟩) hHeld ?_
      try simp only [Act.put, List.setIfInBounds_toArray, List.set_cons_zero, List.set_cons_succ]
      refine takeL (i := 16) (v := undef) rfl (by kernel_rfl) (by kernel_rfl) (by kernel_rfl) (fun _ _ _ h => h) (Or.inr ⟨by kernel_rfl, rfl⟩) hHeld ?_
      try simp only [Act.put, List.setIfInBounds_toArray, List.set_cons_zero, List.set_cons_succ]
      refine takeL (i := 17) (v := .bool false) rfl (by kernel_rfl) (by kernel_rfl) (by kernel_rfl) (fun _ _ _ h => h) (Or.inl ⟨by rfl, ?_⟩) hHeld ?_
      · rintro w' _; go_simp; try rfl
      try simp only [Act.put, List.setIfInBounds_toArray, List.set_cons_zero, List.set_cons_succ]
      refine wpAnyH_done (by kernel_rfl) ?_ _
      clear hHeld
      go_wp2
      go_ret
      exact ⟨by rw [HE.out]; rfl, by rw [HG.out]; exact HBD.out⟩
end Go.Proofs.YtmpjapcijjjlbaaGreatDoor
namespace Go.Proofs.YtmpjapcijjjlbaaGreatDoor
set_option linter.unusedVariables false
set_option linter.unusedSimpArgs false
abbrev Sp := Nat × Nat
abbrev Ch (L : List Ed) (i : Nat) : Prop := (L.getD i (0, [])).1 ≠ 0
def spn (c n i : Nat) : Sp := (i - c, min (i + c + 1) n)
def addS (l : List Sp) (s : Sp) : List Sp := match l.getLast? with
  | none => [s]
  | some p => if s.1 ≤ p.2 then l.dropLast ++ [(p.1, s.2)] else l ++ [s]
def sps (L : List Ed) (c : Nat) : Nat → List Sp
  | 0 => []
  | i + 1 => if Ch L i then addS (sps L c i) (spn c L.length i) else sps L c i
end Go.Proofs.YtmpjapcijjjlbaaGreatDoor
