import Derived.Test.YtcicoeneemnbiaaGreatDoorMw20
import Derived.Test.YtcicoeneemnbiaaGreatDoorMw12
import Derived.Test.YtcicoeneemnbiaaGreatDoorMw05
import Derived.Defers
import Derived.Recover
import Derived.WalkKit
import Derived.LaidEql
import Derived.Stop.Asserts
import Derived.RowKitTokens
import Derived.Test.YtcicoeneemnbiaaGreatDoorMw19
namespace Go.Proofs.YtcicoeneemnbiaaGreatDoor
open Go.RowKit Go.Shelf
set_option linter.unusedVariables false
set_option linter.unusedSimpArgs false
attribute [local go_sem] Oper.semAt_some
structure PC (w : World) (n m : Nat) (S : Str → Prop) (ds : List Nat) (pre : List DPt) (W : World) : Prop where
  r0 : Boxed W w.heap.size 4 (.bool false)
  m0 : Boxed W (w.heap.size + 2) 102 (.map (some (w.heap.size + 1)))
  st : SS W (w.heap.size + 1) n S
  ma : Marks w.heap.size W ds
  no : ∀ x ∈ pre, ¬ S x.1.1.data.toList
  lt : w.heap.size + 2 < W.heap.size
  lm : m < W.heap.size
  b1 : Below w.heap.size w W
structure PCx (w : World) (S : Str → Prop) (ds : List Nat) (c : Code) (pre : List DPt) (W : World) : Prop where
  ret : c = .ret
  why : ∃ x ∈ pre, S x.1.1.data.toList
  r0 : Boxed W w.heap.size 4 (.bool true)
  ma : Marks w.heap.size W ds
  b1 : Below w.heap.size w W
theorem Marks.kept {s B : Nat} {X Y : World} {ds : List Nat} {row : Option Nat} (h : Marks s X ds) (hg : X.grownBy Y row) (hr : ∀ r, row = some r → B ≤ r ∧ ∃ o : Obj, X.heap[r]? = some o ∧ o.isCells = false) (hB : ∀ D ∈ ds, D < B) : Marks s Y ds :=
  ⟨h.nd, h.ge, fun D hD => (hg.block D (h.lt hD) (fun e => by have h1 := (hr D e.symm).1; have h2 := hB D hD; omega)).trans (h.hm D hD)⟩
theorem PC.own (w : World) (n m : Nat) (S : Str → Prop) (ds : List Nat) (B : Nat) (h1 : w.heap.size + 2 < B) (hB : ∀ D ∈ ds, D < B) : OwnFrom B (PC w n m S ds) := fun pre X Y row h hg hr =>
  ⟨boxed_kept h.r0 hg (fun r e => (hr r e).2), boxed_kept h.m0 hg (fun r e => (hr r e).2), h.st.kept hg (fun e => by have := (hr _ e.symm).1; omega), h.ma.kept hg hr hB, h.no, Nat.lt_of_lt_of_le h.lt hg.size, Nat.lt_of_lt_of_le h.lm hg.size, ownFrom_below (β := Unit) (Nat.le_refl _) (by omega) () X Y row h.b1 hg hr⟩
theorem PCx.own (w : World) (S : Str → Prop) (ds : List Nat) (B : Nat) (h1 : w.heap.size + 2 < B) (hB : ∀ D ∈ ds, D < B) (c : Code) : OwnFrom B (PCx w S ds c) := fun pre X Y row h hg hr =>
  ⟨h.ret, h.why, boxed_kept h.r0 hg (fun r e => (hr r e).2), h.ma.kept hg hr hB, ownFrom_below (β := Unit) (Nat.le_refl _) (by omega) () X Y row h.b1 hg hr⟩
theorem made102 (w : World) : (Instr.makeMap 102 none).run Tryz.prog w = .ok (.map (some w.heap.size)) (w.alloc (.map #[] 0)) := by kernel_rfl
theorem built103 : Tryz.prog.built 103 [] = some #[] := by kernel_rfl
theorem SS.congr {w : World} {g n : Nat} {S T : Str → Prop} (h : SS w g n S) (he : ∀ x, S x ↔ T x) : SS w g n T := by
  obtain ⟨D, h1, h2⟩ := h
  exact ⟨D, h1, fun x kl hk => (h2 x kl hk).trans (he x)⟩
set_option maxRecDepth 100000 in
set_option maxHeartbeats 4000000 in
theorem clash_any (w : World) (a : Option Addr) (ca : Nat) (l : List Ey) (hP : PY w a ca l) (hw : WY l) (hok : okPs l) (hl : l.length ≤ 1000) : Calls Tryz.prog 30 #[.slice a l.length ca] w fun e w' => BIs (¬ okDs l) e ∧ Below w.heap.size w w' := by
  obtain ⟨n, HN⟩ : ∃ n, Hid (l.length = n) := ⟨_, rfl⟩
  have hn : n ≤ 1000 := by rw [← HN.out]; exact hl
  have HPW : Hid (∀ W, Below w.heap.size w W → PY W a ca l) := fun W hW => hP.below hW
  have HFA : Hid (0 < n → ∃ b off, a = some ⟨b, off, none⟩) := fun h0 => by
    obtain ⟨b, off, e1, _⟩ := hP.at_ (by rw [HN.out]; exact h0)
    exact ⟨b, off, e1⟩
  have HWY : Hid (WY l) := hw
  have HOK : Hid (okPs l) := hok
  rw [HN.out]
  clear hP hw hl hok
  refine (callsIn_wide (n := 3)).1 ?_
  refine callsIn_of_wp_marks Tryz.func30 rfl trivial ?_ rfl
  simp only [Tryz.ntmps30, List.size_toArray, List.length_cons, List.length_nil, Nat.reduceAdd, Nat.reduceSub, Array.replicate_succ, Array.replicate_zero, List.push_toArray, List.append_toArray, List.nil_append, List.cons_append]
  refine wpIn_wide.2 ?_
  have hmk := made102 (w.alloc (.cells #[.bool false] 4))
  simp only [World.size_alloc] at hmk
  have hbu := built103
  obtain ⟨W1, HW1⟩ : ∃ W1, Hid ((w.alloc (.cells #[.bool false] 4)).alloc (.map #[] 0) = W1) := ⟨_, rfl⟩
  go_wp2_with fail
  go_loopg [14] n (fun gg iv wr => ∃ i : Nat, iv = .int .i64 i ∧ i ≤ n ∧ gg = n - i ∧ Hid (PC w i 0 (fun p => ∃ x ∈ l.take i, x.path = p) [] [] wr))
  case atStart =>
    refine ⟨0, rfl, Nat.zero_le _, rfl, ?_⟩
    have h1 := ((Boxed.new w 4 (.bool false)).alloc (.map #[] 0)).alloc (.cells #[.map (some (w.heap.size + 1))] 102)
    have h2 := Boxed.new ((w.alloc (.cells #[.bool false] 4)).alloc (.map #[] 0)) 102 (.map (some (w.heap.size + 1)))
    have h3 := (ss_made (w.alloc (.cells #[.bool false] 4))).below ((Below.refl _ ((w.alloc (.cells #[.bool false] 4)).alloc (.map #[] 0))).alloc (Nat.le_refl _) (.cells #[.map (some (w.heap.size + 1))] 102))
    simp only [World.size_alloc] at h2 h3
    exact hid ⟨h1, h2, h3.congr (fun x => by simp), Marks.nil _ _, (fun y h => absurd h (by simp)), (by simp), (by simp), (((Below.refl _ w).alloc (Nat.le_refl _) _).alloc (by simp) _).alloc (by simp; omega) _⟩
  case round =>
    obtain ⟨i, rfl, hi, hk, HI⟩ := hrel
    by_cases hlt : i < n
    · have hlti : (i : Int) < (n : Int) := by omega
      obtain ⟨b, off, hae⟩ := HFA.out (by omega)
      subst hae
      have hil : i < l.length := by rw [HN.out]; exact hlt
      obtain ⟨x, HX⟩ : ∃ x, Hid (l.getD i dY = x) := ⟨_, rfl⟩
      have HRow : Hid (wr.rangeAt b (off + i * 24) (encY x)) := hid (by rw [← HX.out]; exact (HPW.out wr HI.out.b1).row i hil)
      have HW : Hid (x.id.length = 20) := hid (by rw [← HX.out]; exact HWY.out _ (getD_mem l i dY hil))
      have HCY : Hid (CY x (encY x).toArray) := hid (cy x HW.out)
      have HT : Hid (l.take (i + 1) = l.take i ++ [x]) := hid (by rw [← HX.out]; exact take_snocG dY l i hil)
      have HM : Hid (x ∈ l) := hid (by rw [← HX.out]; exact getD_mem l i dY hil)
      obtain ⟨W, HWW⟩ : ∃ W, Hid (wr.alloc (.cells (encY x).toArray 32) = W) := ⟨_, rfl⟩
      obtain ⟨Q, HPP⟩ : ∃ Q : ByteArray, Hid (⟨x.path.toArray⟩ = Q) := ⟨_, rfl⟩
      have k1 : W.cell? ⟨wr.heap.size, 0, none⟩ = some (.string Q) := by rw [← HWW.out, ← HPP.out]; exact cellN HCY.out.c0
      have HBW : Hid (Below wr.heap.size wr W) := hid (by rw [← HWW.out]; exact (Below.refl _ wr).alloc (Nat.le_refl _) _)
      have al : wr.alloc (.cells (encY x).toArray 32) = W := HWW.out
      have k2 : W.cell? ⟨w.heap.size + 1 + 1, 0, none⟩ = some (.map (some (w.heap.size + 1))) := by
        have h1 : Boxed W (w.heap.size + 2) 102 (.map (some (w.heap.size + 1))) := (HBW.out.block _ HI.out.lt).trans HI.out.m0
        exact h1.cell
      obtain ⟨w6, hput, hss6, hg6⟩ := (HI.out.st.below HBW.out).put (x := x.path) (by omega) (by have := (HOK.out x HM.out).1; omega)
      have hput2 : (Instr.mapUpdate 102 (.map (some (w.heap.size + 1))) (.string Q) (.agg #[])).run Tryz.prog W = .ok () w6 := by rw [← HPP.out]; exact hput
      have HI6 : Hid (PC w (i + 1) 0 (fun p => ∃ x ∈ l.take (i + 1), x.path = p) [] [] w6) := hid (by
        have hW := HI.out
        have hsz : wr.heap.size ≤ W.heap.size := HBW.out.size
        have hr : ∀ r, some (w.heap.size + 1) = some r → ∃ o : Obj, W.heap[r]? = some o ∧ o.isCells = false := fun r e => by
          cases e
          obtain ⟨es, ck, h⟩ := (hW.st.below HBW.out).notCells
          exact ⟨_, h, rfl⟩
        refine ⟨boxed_kept ((HBW.out.block _ (by have := hW.lt; omega)).trans hW.r0) hg6 hr, boxed_kept ((HBW.out.block _ hW.lt).trans hW.m0) hg6 hr, hss6.congr (fun y => ?_), Marks.nil _ _, (fun y h => absurd h (by simp)), ?_, ?_, ?_⟩
        · rw [HT.out]
          constructor
          · rintro (rfl | ⟨z, hz, rfl⟩)
            · exact ⟨x, by simp, rfl⟩
            · exact ⟨z, by simp [hz], rfl⟩
          · rintro ⟨z, hz, rfl⟩
            rcases List.mem_append.1 hz with h | h
            · exact .inr ⟨z, h, rfl⟩
            · rw [List.mem_singleton.1 h]; exact .inl rfl
        · exact Nat.lt_of_lt_of_le (Nat.lt_of_lt_of_le hW.lt hsz) hg6.size
        · exact Nat.lt_of_lt_of_le (Nat.lt_of_lt_of_le (Nat.lt_of_le_of_lt (Nat.zero_le _) hW.lt) hsz) hg6.size
        · exact (hW.b1.trans (HBW.out.mono hW.b1.size)).grown hg6 (by have := hW.b1.size; omega) (fun k e => by cases e; omega))
      clear hput hss6 hg6 hil
      go_wp2_with (first | (refine wpList_load_mid rfl 32 _ rfl b (off + i * 24) rfl (encY x) _ HRow.out Tryz.underlying32 rfl (by rw [encY_len x HW.out]; exact info32) ?_) | (refine wpList_store_new rfl 32 _ _ rfl _ (encY x).toArray rfl rfl (by rw [HCY.out.size]; exact info32) (by rw [HCY.out.size]; rfl) HCY.out.one ?_))
      go_roundg (n - (i + 1))
      case measure => omega
      case rel => exact ⟨i + 1, by go_num, by omega, rfl, HI6⟩
    · have hlti : ¬ (i : Int) < (n : Int) := by omega
      have HI2 : Hid (PC w n 0 (fun p => ∃ x ∈ l, x.path = p) [] [] wr) := hid (by
        have h := HI.out
        rw [List.take_of_length_le (by rw [HN.out]; omega), show i = n by omega] at h
        exact h)
      go_wp2_with fail
      refine wp_loop_ghost_k (fun k A W => ∃ (i : Nat) (ds : List Nat), i ≤ n ∧ k = n - i ∧ Hid (PC w n 0 (fun p => ∃ x ∈ l, x.path = p) ds [] W) ∧ Hid (∀ y ∈ l.take i, ∀ d ∈ drs y.path y.path.length, ¬ ∃ x ∈ l, x.path = d.data.toList) ∧ ∃ (y1 y4 y5 y6 y7 y8 y9 y10 y11 y12 y13 y14 y15 y16 y17 y18 y19 y20 y21 y22 y26 y27 y28 y29 y30 y31 y32 y33 y34 y35 y36 y37 y38 y39 y40 y41 : Value), A = { tmps := #[.slice a n ca, y1, .pointer (some ⟨w.heap.size, 0, none⟩), .pointer (some ⟨w.heap.size + 2, 0, none⟩), y4, y5, y6, y7, y8, y9, y10, y11, y12, y13, y14, y15, y16, y17, y18, y19, y20, y21, y22, .slice a n ca, .int .i64 n, .int .i64 i, y26, y27, y28, y29, y30, y31, y32, y33, y34, y35, y36, y37, y38, y39, y40, y41], defers := ds.map mk1 }) n ⟨0, [], Nat.zero_le _, rfl, HI2, hid (fun y h => absurd h (by simp)), _, _, _, _, _, _, _, _, _, _, _, _, _, _, _, _, _, _, _, _, _, _, _, _, _, _, _, _, _, _, _, _, _, _, _, _, rfl⟩ ?_
      clear HI2 HI hk hlt hlti hi i u5 u16 u17 u18 u19 u20 u21 u22
      rintro gk _ wr ⟨i, ds, hi, hk, HI, HNO, y1, y4, y5, y6, y7, y8, y9, y10, y11, y12, y13, y14, y15, y16, y17, y18, y19, y20, y21, y22, y26, y27, y28, y29, y30, y31, y32, y33, y34, y35, y36, y37, y38, y39, y40, y41, rfl⟩ J K hJ hK
      by_cases hlt : i < n
      · have hlti : (i : Int) < (n : Int) := by omega
        obtain ⟨b, off, hae⟩ := HFA.out (by omega)
        subst hae
        have hil : i < l.length := by rw [HN.out]; exact hlt
        obtain ⟨x, HX⟩ : ∃ x, Hid (l.getD i dY = x) := ⟨_, rfl⟩
        have HRow : Hid (wr.rangeAt b (off + i * 24) (encY x)) := hid (by rw [← HX.out]; exact (HPW.out wr HI.out.b1).row i hil)
        have HW : Hid (x.id.length = 20) := hid (by rw [← HX.out]; exact HWY.out _ (getD_mem l i dY hil))
        have HCY : Hid (CY x (encY x).toArray) := hid (cy x HW.out)
        have HT : Hid (l.take (i + 1) = l.take i ++ [x]) := hid (by rw [← HX.out]; exact take_snocG dY l i hil)
        have HM : Hid (x ∈ l) := hid (by rw [← HX.out]; exact getD_mem l i dY hil)
        obtain ⟨W, HWW⟩ : ∃ W, Hid (wr.alloc (.cells (encY x).toArray 32) = W) := ⟨_, rfl⟩
        obtain ⟨Q, HPP⟩ : ∃ Q : ByteArray, Hid (⟨x.path.toArray⟩ = Q) := ⟨_, rfl⟩
        have k1 : W.cell? ⟨wr.heap.size, 0, none⟩ = some (.string Q) := by rw [← HWW.out, ← HPP.out]; exact cellN HCY.out.c0
        have HBW : Hid (Below wr.heap.size wr W) := hid (by rw [← HWW.out]; exact (Below.refl _ wr).alloc (Nat.le_refl _) _)
        have al : wr.alloc (.cells (encY x).toArray 32) = W := HWW.out
        have C44 : Hid (Calls Tryz.prog 44 #[.string Q] W fun e w' => e = .returned (.func (.func 62) #[] #[.pointer (some ⟨W.heap.size, 0, none⟩)]) ∧ w' = W.alloc (.cells #[.string Q] 9)) := hid (callsIn_wide.1 (parts_in 3 Q W))
        clear hil
        go_wp2_with (first | (refine wpList_load_mid rfl 32 _ rfl b (off + i * 24) rfl (encY x) _ HRow.out Tryz.underlying32 rfl (by rw [encY_len x HW.out]; exact info32) ?_) | (refine wpList_store_new rfl 32 _ _ rfl _ (encY x).toArray rfl rfl (by rw [HCY.out.size]; exact info32) (by rw [HCY.out.size]; rfl) HCY.out.one ?_))
        refine C44.out.mono ?_
        rintro e w1 ⟨rfl, hw1⟩
        rw [hw1]
        clear hw1
        go_wp2_with fail
        obtain ⟨WL, HWL⟩ : ∃ WL, Hid (W.alloc (.cells #[.string Q] 9) = WL) := ⟨_, rfl⟩
        have HBL : Hid (Below wr.heap.size wr WL) := hid (by rw [← HWL.out]; exact HBW.out.alloc HBW.out.size _)
        have hsL : WL.heap.size = W.heap.size + 1 := by rw [← HWL.out]; simp
        have hsW : wr.heap.size ≤ W.heap.size := HBW.out.size
        have hlt3 := HI.out.lt
        have HIL : Hid (PC w n W.heap.size (fun p => ∃ x ∈ l, x.path = p) ds [] WL) := hid (by
          have h := HI.out
          exact ⟨(HBL.out.block _ (by omega)).trans h.r0, (HBL.out.block _ h.lt).trans h.m0, h.st.below HBL.out, h.ma.below HBL.out, h.no, by omega, by omega, h.b1.trans (HBL.out.mono h.b1.size)⟩)
        have HDB : Hid (∀ D ∈ ds, D < WL.heap.size) := hid (fun D hD => HIL.out.ma.lt hD)
        have HCB : Hid (WL.cell? ⟨W.heap.size, 0, none⟩ = some (.string ⟨x.path.toArray⟩)) := hid (by rw [← HWL.out, HPP.out]; exact (Boxed.new W 9 (.string Q)).cell)
        have H100 : Hid (x.path.length ≤ 100) := hid (HOK.out x HM.out).1
        rw [HWL.out]
        refine (wpIn_wide (n := 3)).1 ?_
        refine wpIn_rangeFunc_ownG (F := Fence.wide) (n := 3) rfl (by omega) (gf := 62) (lb := #[.pointer (some ⟨W.heap.size, 0, none⟩)]) rfl trivial (enters_of Tryz.func62 (by kernel_rfl) rfl)
          (parts_stops3 2 (by omega) x.path H100.out WL W.heap.size (by omega) HCB.out)
          kc_t (kc_b (by omega)) (Below.refl _ _) (fun _ => rfl) (PC w n W.heap.size (fun p => ∃ x ∈ l, x.path = p) ds) (PCx w (fun p => ∃ x ∈ l, x.path = p) ds) (PC.own w n _ _ ds _ (by omega) HDB.out) (PCx.own w _ ds _ (by omega) HDB.out) HIL.out
          (fun z => { tmps := #[.slice (some ⟨b, off, none⟩) n ca, y1, .pointer (some ⟨w.heap.size, 0, none⟩), .pointer (some ⟨w.heap.size + 2, 0, none⟩), y4, y5, y6, .pointer (some ⟨wr.heap.size, 0, none⟩), .string z.1.1, y9, y10, y11, y12, y13, y14, y15, y16, y17, y18, y19, y20, y21, y22, .slice (some ⟨b, off, none⟩) n ca, .int .i64 n, .int .i64 i, .bool true, .pointer (some ⟨b, off + i * 24, none⟩), .agg (encY x).toArray, .pointer (some ⟨wr.heap.size, 0, none⟩), .string Q, .func (.func 62) #[] #[.pointer (some ⟨W.heap.size, 0, none⟩)], .string z.1.1, .string ⟨z.1.2.toArray⟩, y34, y35, y36, y37, y38, y39, y40, y41], defers := [] }) ?assign ?body ?done ?stop
        case assign =>
          intro l z W K hK
          dsimp only [encD, encP]
          gi_wp2
          exact hK
        case body =>
          rintro lp pre z W2 hI2 hlt2
          have HI2 : Hid (PC w n W.heap.size (fun p => ∃ x ∈ l, x.path = p) ds pre W2) := hI2
          obtain ⟨T, HT2⟩ : ∃ T : ByteArray, Hid (z.1.1 = T) := ⟨_, rfl⟩
          have hTl : T.data.toList.length ≤ 4000 := by
            have h := z.2
            rw [HT2.out] at h
            have h2 : T.data.toList.length = T.size := by rw [Array.length_toList]; rfl
            omega
          obtain ⟨bb, hbb, hlk⟩ := hI2.st.look hTl
          have hlk2 : (Instr.lookup 102 (.map (some (w.heap.size + 1))) (.string T) true).run Tryz.prog W2 = .ok (.tuple #[.agg #[], .bool bb]) W2 := hlk
          have HBB : Hid (bb = true ↔ ∃ x ∈ l, x.path = T.data.toList) := hbb
          have k2 := hI2.m0.cell
          have hz : ∀ w : World, (zeroValue 103).run Tryz.prog w = .ok (.agg #[]) w := zero103
          obtain ⟨W3, HW3⟩ : ∃ W3, Hid (W2.alloc (.cells #[] 103) = W3) := ⟨_, rfl⟩
          have HB3 : Hid (Below W2.heap.size W2 W3) := hid (by rw [← HW3.out]; exact (Below.refl _ W2).alloc (Nat.le_refl _) _)
          have al2 : W2.alloc (.cells #[] 103) = W3 := HW3.out
          have hl2 := hI2.lt
          have HR3 : Hid (Boxed W3 w.heap.size 4 (.bool false)) := (HB3.out.block _ (by omega)).trans hI2.r0
          have HKF : Hid (∀ B, KeepsFrom B W2 W3) := fun B => keeps_below HB3.out
          have HKC : Hid (∀ b, b < W2.heap.size → Kc b W2 W3) := fun b hb => HB3.out.block _ hb
          have k0 := HR3.out.cell
          have f0 := HR3.out.frozen
          have HZ : Hid (z.1.1 = T) := HT2
          rw [HT2.out]
          clear hI2 hlk hbb
          cases bb with
          | false =>
            have HNB : Hid (¬ ∃ x ∈ l, x.path = z.1.1.data.toList) := hid (by rw [HZ.out]; intro h; have := HBB.out.2 h; cases this)
            clear HBB
            gi_wp2
            have h := HI2.out
            refine ⟨HKF.out _, HKC.out _ ?_, HR3.out, (HB3.out.block _ h.lt).trans h.m0, h.st.below HB3.out, h.ma.below HB3.out, fun y hy => ?_, ?_, ?_, ?_⟩
            · exact h.lm
            · rcases List.mem_append.1 hy with h1 | h1
              · exact h.no y h1
              · rw [List.mem_singleton.1 h1]; exact HNB.out
            · exact Nat.lt_of_lt_of_le h.lt HB3.out.size
            · exact Nat.lt_of_lt_of_le h.lm HB3.out.size
            · exact h.b1.trans (HB3.out.mono h.b1.size)
          | true =>
            have HYB : Hid (∃ x ∈ l, x.path = z.1.1.data.toList) := hid (by rw [HZ.out]; exact HBB.out.1 rfl)
            clear HBB
            gi_wp2
            have h := HI2.out
            refine ⟨(HKF.out _).trans ((KeepsOthers.setCell _ _ _).from _), rfl, ⟨z, by simp, HYB.out⟩, HR3.out.set _, ?_, ?_⟩
            · have hm3 := h.ma.below HB3.out
              exact ⟨hm3.nd, hm3.ge, fun D hD => (KeepsOthers.setCell W3 ⟨w.heap.size, 0, none⟩ (.bool true)).same D _ (hm3.hm D hD) rfl⟩
            · exact (h.b1.trans (HB3.out.mono h.b1.size)).setCell (Nat.le_refl _) _
        case done =>
          rintro D xs W2 hD hS hI2 hK2
          have HI2 : Hid (PC w n 0 (fun p => ∃ x ∈ l, x.path = p) (D :: ds) [] W2) := hid ⟨hI2.r0, hI2.m0, hI2.st, ⟨List.nodup_cons.2 ⟨fun h => by have := HDB.out D h; omega, hI2.ma.nd⟩, fun E hE => (List.mem_cons.1 hE).elim (fun e => by rw [e]; omega) (hI2.ma.ge E), fun E hE => (List.mem_cons.1 hE).elim (fun e => by rw [e]; exact hK2) (hI2.ma.hm E)⟩, (fun y h => absurd h (by simp)), hI2.lt, Nat.lt_of_le_of_lt (Nat.zero_le _) hI2.lt, hI2.b1⟩
          have HNO2 : Hid (∀ y ∈ l.take (i + 1), ∀ d ∈ drs y.path y.path.length, ¬ ∃ x ∈ l, x.path = d.data.toList) := hid (by
            rw [HT.out]
            intro y hy d hd
            rcases List.mem_append.1 hy with h | h
            · exact HNO.out y h d hd
            · rw [List.mem_singleton.1 h, ← show _ = drs x.path x.path.length from hS] at hd
              obtain ⟨z, hz, rfl⟩ := List.mem_map.1 hd
              exact hI2.no z hz)
          clear hS hI2 hK2
          go_wp2
          exact Handed.intro (n - (i + 1)) (by omega) (hJ _ _ _ ⟨i + 1, D :: ds, by omega, rfl, HI2, HNO2, _, _, _, _, _, _, _, _, _, _, _, _, _, _, _, _, _, _, _, _, _, _, _, _, _, _, _, _, _, _, _, _, _, _, _, _, rfl⟩)
        case stop =>
          rintro D c pre W2 hD hS hX hK2
          have HE : Hid (¬ okDs l) := hid (by
            obtain ⟨z, hz, hS2⟩ := hX.why
            obtain ⟨r, hr⟩ := hS
            exact (clash_iff l HOK.out).1 ⟨x, HM.out, z.1.1, by rw [← hr]; exact List.mem_append_left _ (List.mem_map.2 ⟨z, hz, rfl⟩), hS2⟩)
          obtain ⟨rfl, _, hr0, hma, hb1⟩ := hX
          refine wpIn_wide.2 ?_
          go_wp2
          refine leave_all _ w (.bool true) rfl _ (fun W hW => ⟨bis_true HE.out, hW⟩) (D :: ds) W2 ?_ hr0 hb1
          exact ⟨List.nodup_cons.2 ⟨fun h => by have := HDB.out D h; omega, hma.nd⟩, fun E hE => (List.mem_cons.1 hE).elim (fun e => by rw [e]; omega) (hma.ge E), fun E hE => (List.mem_cons.1 hE).elim (fun e => by rw [e]; exact hK2) (hma.hm E)⟩
      · have hlti : ¬ (i : Int) < (n : Int) := by omega
        have HE : Hid (¬ ¬ okDs l) := hid (fun h => by
          obtain ⟨y, hy, d, hd, hx⟩ := (clash_iff l HOK.out).2 h
          exact HNO.out y (by rw [List.take_of_length_le (by rw [HN.out]; omega)]; exact hy) d hd hx)
        have k0 := HI.out.r0.cell
        have f0 := HI.out.r0.frozen
        go_wp2
        have h := HI.out
        refine leave_all _ w (.bool false) rfl _ (fun W hW => ⟨bis_false HE.out, hW⟩) ds _ ?_ (h.r0.set _) (h.b1.setCell (Nat.le_refl _) _)
        exact ⟨h.ma.nd, h.ma.ge, fun D hD => (KeepsOthers.setCell wr ⟨w.heap.size, 0, none⟩ (.bool false)).same D _ (h.ma.hm D hD) rfl⟩
end Go.Proofs.YtcicoeneemnbiaaGreatDoor
namespace Go.Proofs.YtcicoeneemnbiaaGreatDoor
open Go.RowKit Go.Extern.Stop Go.Stop Go.Extern
set_option linter.unusedVariables false
set_option linter.unusedSimpArgs false
theorem valueOf45 (t : Addr) (w : World) : (ReflectliteValue.unpack (.iface 54 (.pointer (some t)))).run Tryz.prog w
    = .ok (.agg #[.pointer (some ⟨2, 54, none⟩), .pointer (some ⟨w.heap.size, 0, none⟩), .int .u64 150]) (w.alloc (.cells #[.pointer (some t)] 54)) := by kernel_rfl
theorem type45 (a : Addr) (w : World) : (ReflectliteValue.methodAny (ReflectliteValue.valueError "reflectlite.Value.Type" 0) (fun t _ _ _ => ReflectliteType.toType t) #[.agg #[.pointer (some ⟨2, 54, none⟩), .pointer (some a), .int .u64 150]]).run Tryz.prog w
    = .ok (.iface 115 (.agg #[.pointer (some ⟨2, 54, none⟩)])) w := by kernel_rfl
theorem methodKind (h : Value) (w : World) : (Go.method 300 115 (.agg #[h]) "Kind").run Tryz.prog w = .ok (118, h) w := by kernel_rfl
theorem kind45 (w : World) : ((ReflectliteType.abiMethod fun t => (fun a : Nat => Value.int IntKind.u8 (a : Int)) <$> Rtype.kind t) #[.pointer (some ⟨2, 54, none⟩)]).run Tryz.prog w = .ok (.int .u8 22) w := by kernel_rfl
theorem kind32 (w : World) : ((ReflectliteType.abiMethod fun t => (fun a : Nat => Value.int IntKind.u8 (a : Int)) <$> Rtype.kind t) #[.pointer (some ⟨2, 38, none⟩)]).run Tryz.prog w = .ok (.int .u8 2) w := by kernel_rfl
theorem methodElem (h : Value) (w : World) : (Go.method 300 115 (.agg #[h]) "Elem").run Tryz.prog w = .ok (128, .agg #[h]) w := by kernel_rfl
theorem methodImplements (h : Value) (w : World) : (Go.method 300 115 (.agg #[h]) "Implements").run Tryz.prog w = .ok (129, .agg #[h]) w := by kernel_rfl
theorem methodAssignableTo (h : Value) (w : World) : (Go.method 300 115 (.agg #[h]) "AssignableTo").run Tryz.prog w = .ok (126, .agg #[h]) w := by kernel_rfl
theorem elem45 (w : World) : (ReflectliteType.method ReflectliteType.elem #[.agg #[.pointer (some ⟨2, 54, none⟩)]]).run Tryz.prog w = .ok (.iface 115 (.agg #[.pointer (some ⟨2, 38, none⟩)])) w := by kernel_rfl
theorem implements32 (w : World) : (ReflectliteType.relation "Implements" ReflectliteType.implements_ #[.agg #[.pointer (some ⟨2, 38, none⟩)], .iface 115 (.agg #[.pointer (some ⟨2, 25, none⟩)])]).run Tryz.prog w = .ok (.bool true) w := by kernel_rfl
theorem typeOf32 (v : Value) (w : World) : (ReflectliteType.typeOf #[.iface 38 v]).run Tryz.prog w = .ok (.iface 115 (.agg #[.pointer (some ⟨2, 38, none⟩)])) w := by kernel_rfl
theorem assignable32 (w : World) : (ReflectliteType.relation "AssignableTo" ReflectliteType.assignableTo #[.agg #[.pointer (some ⟨2, 38, none⟩)], .iface 115 (.agg #[.pointer (some ⟨2, 38, none⟩)])]).run Tryz.prog w = .ok (.bool true) w := by kernel_rfl
theorem valueOf32 (k : Int) (w : World) : (ReflectliteValue.unpack (.iface 38 (.int .i64 k))).run Tryz.prog w
    = .ok (.agg #[.pointer (some ⟨2, 38, none⟩), .pointer (some ⟨w.heap.size, 0, none⟩), .int .u64 130]) (w.alloc (.cells #[.int .i64 k] 38)) := by kernel_rfl
theorem elemOf45 (w : World) : (Rtype.elem? 54).run Tryz.prog w = .ok (some 38) w := by kernel_rfl
theorem mk32 (p : Addr) (w : World) : (ReflectliteValue.mk 38 p ReflectliteValue.flagAddr).run Tryz.prog w = .ok (.agg #[.pointer (some ⟨2, 38, none⟩), .pointer (some p), .int .u64 386]) w := by kernel_rfl
theorem direct32 (w : World) : (Rtype.directlyAssignable 38 38).run Tryz.prog w = .ok true w := by kernel_rfl
theorem isNil_at (a : Addr) (W : World) : (ReflectliteValue.method (ReflectliteValue.valueError "reflectlite.Value.IsNil" 0) ReflectliteValue.isNil #[.agg #[.pointer (some ⟨2, 54, none⟩), .pointer (some a), .int .u64 150]]).run Tryz.prog W = (ReflectliteValue.isNil 54 a 150 22).run Tryz.prog W := by kernel_rfl
theorem elem_at (a : Addr) (W : World) : (ReflectliteValue.method (ReflectliteValue.valueError "reflectlite.Value.Elem" 0) ReflectliteValue.elem #[.agg #[.pointer (some ⟨2, 54, none⟩), .pointer (some a), .int .u64 150]]).run Tryz.prog W = (ReflectliteValue.elem 54 a 150 22).run Tryz.prog W := by kernel_rfl
theorem set_at (ta b : Addr) (W : World) : (ReflectliteValue.set #[.agg #[.pointer (some ⟨2, 38, none⟩), .pointer (some ta), .int .u64 386], .agg #[.pointer (some ⟨2, 38, none⟩), .pointer (some b), .int .u64 130]]).run Tryz.prog W = (loadVar 38 b >>= fun val => storeVar 38 ta val >>= fun _ => pure (.tuple #[])).run Tryz.prog W := by kernel_rfl
theorem isNil45 (a p : Addr) (W : World) (ha : W.cell? a = some (.pointer (some p))) :
    (ReflectliteValue.method (ReflectliteValue.valueError "reflectlite.Value.IsNil" 0) ReflectliteValue.isNil #[.agg #[.pointer (some ⟨2, 54, none⟩), .pointer (some a), .int .u64 150]]).run Tryz.prog W = .ok (.bool false) W := by
  rw [isNil_at]
  simp [ReflectliteValue.isNil, loadVar, isAgg, underlying, Tryz.underlying54, ha, Result.andThen]
theorem elemV45 (a p : Addr) (W : World) (ha : W.cell? a = some (.pointer (some p))) :
    (ReflectliteValue.method (ReflectliteValue.valueError "reflectlite.Value.Elem" 0) ReflectliteValue.elem #[.agg #[.pointer (some ⟨2, 54, none⟩), .pointer (some a), .int .u64 150]]).run Tryz.prog W
      = .ok (.agg #[.pointer (some ⟨2, 38, none⟩), .pointer (some p), .int .u64 386]) W := by
  rw [elem_at]
  simp [ReflectliteValue.elem, loadVar, isAgg, underlying, Tryz.underlying54, ha, Result.andThen, elemOf45, mk32]
theorem set32 (ta b : Addr) (k : Int) (old : Value) (W : World) (hb : W.cell? b = some (.int .i64 k)) (ht : W.cell? ta = some old) (hf : W.frozen? ta = false) :
    (ReflectliteValue.set #[.agg #[.pointer (some ⟨2, 38, none⟩), .pointer (some ta), .int .u64 386], .agg #[.pointer (some ⟨2, 38, none⟩), .pointer (some b), .int .u64 130]]).run Tryz.prog W
      = .ok (.tuple #[]) (W.setCell ta (.int .i64 k)) := by
  rw [set_at]
  simp [loadVar, isAgg, underlying, Tryz.underlying38, hb, Result.andThen, direct32, storeVar, Value.cells, storeCells, Addr.add]
  rw [run_store Tryz.prog W ta _ _ (by rfl)]
  simp [ht, hf]
end Go.Proofs.YtcicoeneemnbiaaGreatDoor
namespace Go.Proofs.YtcicoeneemnbiaaGreatDoor
open Go.RowKit Go.Extern.Stop Go.Stop Go.Extern
set_option linter.unusedVariables false
set_option linter.unusedSimpArgs false
set_option maxHeartbeats 4000000 in
set_option maxRecDepth 100000 in
theorem as_hit (k : Int) (t : Addr) (old : Value) (w : World) (hg : w.cell? ⟨0, 0, none⟩ = some (.iface 115 (.agg #[.pointer (some ⟨2, 25, none⟩)]))) (ht0 : w.cell? t = some old) (hf0 : w.frozen? t = false) :
    Calls Tryz.prog 18 #[.iface 38 (.int .i64 k), .iface 54 (.pointer (some t))] w fun ev w' => ev = .returned (.bool true) ∧ w' = ((((w.alloc (.cells #[.pointer (some t)] 54)).alloc (.cells #[.pointer (some ⟨2, 54, none⟩), .pointer (some ⟨w.heap.size, 0, none⟩), .int .u64 150] 80)).alloc (.cells #[.pointer (some ⟨2, 54, none⟩), .pointer (some ⟨w.heap.size, 0, none⟩), .int .u64 150] 80)).alloc (.cells #[.int .i64 k] 38)).setCell t (.int .i64 k) := by
  have h33 := @run_callFunc_extern Tryz.prog 37 _ (fun args => ReflectliteValue.unpack (args.getD 0 (.tuple #[]))) Tryz.func37 (by kernel_rfl) (by kernel_rfl) (by kernel_rfl) (by kernel_rfl)
  have h34 := @run_callFunc_extern Tryz.prog 38 _ (ReflectliteValue.methodAny (ReflectliteValue.valueError "reflectlite.Value.Type" 0) (fun t _ _ _ => ReflectliteType.toType t)) Tryz.func38 (by kernel_rfl) (by kernel_rfl) (by kernel_rfl) (by kernel_rfl)
  have h35 := @run_callFunc_extern Tryz.prog 39 _ (ReflectliteValue.method (ReflectliteValue.valueError "reflectlite.Value.IsNil" 0) ReflectliteValue.isNil) Tryz.func39 (by kernel_rfl) (by kernel_rfl) (by kernel_rfl) (by kernel_rfl)
  have h97 := @run_callFunc_extern Tryz.prog 118 _ (ReflectliteType.abiMethod fun t => do pure (.int .u8 (← Rtype.kind t))) Tryz.func118 (by kernel_rfl) (by kernel_rfl) (by kernel_rfl) (by kernel_rfl)
  have h107 := @run_callFunc_extern Tryz.prog 128 _ (ReflectliteType.method ReflectliteType.elem) Tryz.func128 (by kernel_rfl) (by kernel_rfl) (by kernel_rfl) (by kernel_rfl)
  have h108 := @run_callFunc_extern Tryz.prog 129 _ (ReflectliteType.relation "Implements" ReflectliteType.implements_) Tryz.func129 (by kernel_rfl) (by kernel_rfl) (by kernel_rfl) (by kernel_rfl)
  have h62 := @run_callFunc_extern Tryz.prog 58 _ ReflectliteType.typeOf Tryz.func58 (by kernel_rfl) (by kernel_rfl) (by kernel_rfl) (by kernel_rfl)
  have h105 := @run_callFunc_extern Tryz.prog 126 _ (ReflectliteType.relation "AssignableTo" ReflectliteType.assignableTo) Tryz.func126 (by kernel_rfl) (by kernel_rfl) (by kernel_rfl) (by kernel_rfl)
  have h63 := @run_callFunc_extern Tryz.prog 59 _ (ReflectliteValue.method (ReflectliteValue.valueError "reflectlite.Value.Elem" 0) ReflectliteValue.elem) Tryz.func59 (by kernel_rfl) (by kernel_rfl) (by kernel_rfl) (by kernel_rfl)
  have h64 := @run_callFunc_extern Tryz.prog 60 _ ReflectliteValue.set Tryz.func60 (by kernel_rfl) (by kernel_rfl) (by kernel_rfl) (by kernel_rfl)
  have tO := typeOf32
  have mA := methodAssignableTo
  have a32 := assignable32
  have v32 := valueOf32
  have f6 := valueOf45
  have f7 := type45
  have mK := methodKind
  have mE := methodElem
  have mI := methodImplements
  have k45 := kind45
  have k32 := kind32
  have e45 := elem45
  have i32 := implements32
  have n8 := isNil45 ⟨w.heap.size, 0, none⟩ t ((w.alloc (.cells #[.pointer (some t)] 54)).alloc (.cells #[.pointer (some ⟨2, 54, none⟩), .pointer (some ⟨w.heap.size, 0, none⟩), .int .u64 150] 80)) (by simp)
  have hlt : 0 < w.heap.size := by
    rcases Nat.lt_or_ge 0 w.heap.size with h | h
    · exact h
    · simp [World.cell?, Array.getElem?_eq_none h] at hg
  have hg2 : ((w.alloc (.cells #[.pointer (some t)] 54)).alloc (.cells #[.pointer (some ⟨2, 54, none⟩), .pointer (some ⟨w.heap.size, 0, none⟩), .int .u64 150] 80)).cell? ⟨0, 0, none⟩ = some (.iface 115 (.agg #[.pointer (some ⟨2, 25, none⟩)])) := by
    rw [World.cell?_alloc_lt _ _ ⟨0, 0, none⟩ (by simp), World.cell?_alloc_lt _ _ ⟨0, 0, none⟩ hlt]; exact hg
  have htl : t.block < w.heap.size := by
    rcases Nat.lt_or_ge t.block w.heap.size with h | h
    · exact h
    · simp [World.cell?, Array.getElem?_eq_none h] at ht0
  have el := elemV45 ⟨w.heap.size, 0, none⟩ t (((w.alloc (.cells #[.pointer (some t)] 54)).alloc (.cells #[.pointer (some ⟨2, 54, none⟩), .pointer (some ⟨w.heap.size, 0, none⟩), .int .u64 150] 80)).alloc (.cells #[.pointer (some ⟨2, 54, none⟩), .pointer (some ⟨w.heap.size, 0, none⟩), .int .u64 150] 80)) (by rw [World.cell?_alloc_lt _ _ ⟨w.heap.size, 0, none⟩ (by simp; omega)]; simp)
  have st := set32 t ⟨w.heap.size + 1 + 1 + 1, 0, none⟩ k old ((((w.alloc (.cells #[.pointer (some t)] 54)).alloc (.cells #[.pointer (some ⟨2, 54, none⟩), .pointer (some ⟨w.heap.size, 0, none⟩), .int .u64 150] 80)).alloc (.cells #[.pointer (some ⟨2, 54, none⟩), .pointer (some ⟨w.heap.size, 0, none⟩), .int .u64 150] 80)).alloc (.cells #[.int .i64 k] 38))
    (by rw [World.cell?_alloc_at _ _ _ _ (by simp)]; rfl)
    (by rw [World.cell?_alloc_lt _ _ t (by simp; omega), World.cell?_alloc_lt _ _ t (by simp; omega), World.cell?_alloc_lt _ _ t (by simp; omega), World.cell?_alloc_lt _ _ t htl]; exact ht0)
    (by rw [World.frozen?_alloc_old _ _ t (by simp; omega), World.frozen?_alloc_old _ _ t (by simp; omega), World.frozen?_alloc_old _ _ t (by simp; omega), World.frozen?_alloc_old _ _ t (Nat.ne_of_lt htl)]; exact hf0)
  go_enter Tryz.func18, Tryz.ntmps18
  go_wp2
  refine wp_loop_rounds 1 ?_
  rw [rounds_succ]
  go_wp2
  go_ret
  exact ⟨rfl, rfl⟩
theorem tell_nil (w : World) : Calls Tryz.prog 8 #[.nilIface] w fun e w' => e = .returned (.int .i64 0) ∧ Below w.heap.size w w' := by
  have HB : Hid (Below w.heap.size w (w.alloc (.cells #[.int .i64 0] 38))) := (Below.refl _ w).alloc (Nat.le_refl _) _
  go_enter Tryz.func8, Tryz.ntmps8
  go_wp2
  go_ret
  exact ⟨rfl, HB.out⟩
theorem tell_errno (k : Int) (w : World) (hg : w.cell? ⟨0, 0, none⟩ = some (.iface 115 (.agg #[.pointer (some ⟨2, 25, none⟩)]))) :
    Calls Tryz.prog 8 #[.iface 38 (.int .i64 k)] w fun e w' => e = .returned (.int .i64 k) ∧ Below w.heap.size w w' := by
  have hlt : 0 < w.heap.size := by
    rcases Nat.lt_or_ge 0 w.heap.size with h | h
    · exact h
    · simp [World.cell?, Array.getElem?_eq_none h] at hg
  have hg2 : (w.alloc (.cells #[.int .i64 0] 38)).cell? ⟨0, 0, none⟩ = some (.iface 115 (.agg #[.pointer (some ⟨2, 25, none⟩)])) := by
    rw [World.cell?_alloc_lt _ _ ⟨0, 0, none⟩ hlt]; exact hg
  go_enter Tryz.func8, Tryz.ntmps8
  go_wp2_with (go_at_call 18; refine (as_hit k ⟨w.heap.size, 0, none⟩ (.int .i64 0) _ hg2 (by simp) (by simp [go_sem])).mono ?_; rintro e w' ⟨rfl, rfl⟩)
  go_ret
  exact ⟨rfl, (((((Below.refl _ w).alloc (Nat.le_refl _) _).alloc (by simp) _).alloc (by simp; omega) _).alloc (by simp; omega) _).alloc (by simp; omega) _⟩
end Go.Proofs.YtcicoeneemnbiaaGreatDoor
namespace Go.Proofs.YtcicoeneemnbiaaGreatDoor
open Go.RowKit
variable [Inhabited En]
set_option linter.unusedVariables false
set_option linter.unusedSectionVars false
set_option linter.unusedSimpArgs false
theorem clash_all : Clash := fun W a cap l hP hw hok hl => clash_any W a cap l hP hw hok hl
theorem at_pb {w : World} {b off cap : Nat} {s : Str} (hb : b < w.heap.size) (hc : s.length ≤ cap) (h : At w b off (nums s)) : PB w (some ⟨b, off, none⟩) cap s :=
  ⟨hc, fun _ => ⟨b, off, rfl, hb, fun i hi j v hv => by
    have hj : j = 0 := by
      have := (List.getElem?_eq_some_iff.1 hv).1
      simp [encB] at this
      exact this
    subst hj
    have h1 := h i (by rw [nums_len]; exact hi)
    rw [nums_at s i hi] at h1
    simp [encB] at hv
    rw [show off + i * 1 + 0 = off + i by omega, h1, ← hv]
    simp⟩, fun h => by cases h⟩
theorem Room.pb {w : World} {g : Nat} {s : Str} (h : Room w g (nums s)) : PB w (some ⟨g, 0, none⟩) (s.length + 2) s :=
  at_pb h.lt (by omega) (fun i hi => by rw [Nat.zero_add]; exact h.cell i hi)
theorem Room.below {w w' : World} {g : Nat} {zs : List Int} (h : Room w g zs) (hb : Below w.heap.size w w') : Room w' g zs :=
  have e : w'.heap[g]? = w.heap[g]? := hb.block g h.lt
  ⟨Nat.lt_of_lt_of_le h.lt hb.size, fun i hi => (World.cell?_of_block (a := ⟨g, i, none⟩) e).trans (h.cell i hi), (World.cell?_of_block (a := ⟨g, zs.length, none⟩) e).trans h.c71, (World.cell?_of_block (a := ⟨g, zs.length + 1, none⟩) e).trans h.c72, fun i => by
    have := h.fz i
    simp only [World.frozen?] at this ⊢
    rw [e]; exact this⟩
def Hg (w : World) : Prop := w.cell? ⟨0, 0, none⟩ = some (.iface 115 (.agg #[.pointer (some ⟨2, 25, none⟩)]))
theorem Hg.lt {w : World} (h : Hg w) : 0 < w.heap.size := by
  rcases Nat.lt_or_ge 0 w.heap.size with h1 | h1
  · exact h1
  · unfold Hg World.cell? at h
    rw [Array.getElem?_eq_none (by omega)] at h
    simp at h
theorem Hg.below {w w' : World} {B : Nat} (h : Hg w) (hb : Below B w w') (h0 : 0 < B) : Hg w' := (hb.cell (p := ⟨0, 0, none⟩) h0).trans h
set_option maxRecDepth 20000 in
set_option maxHeartbeats 4000000 in
theorem reads_any {w : World} (a : Option Addr) (cap : Nat) (s : Str) (hP : PB w a cap s) (hl : s.length ≤ 20000) (hg : Hg w) : Calls Tryz.prog 9 #[.slice a s.length cap] w fun e w' => e = .returned (.bool true) ∧ Below w.heap.size w w' := by
  obtain ⟨n, HN⟩ : ∃ n, Hid (s.length = n) := ⟨_, rfl⟩
  obtain ⟨G, HG⟩ : ∃ g, Hid (w.heap.size = g) := ⟨_, rfl⟩
  have hG0 : 0 < G := by rw [← HG.out]; exact hg.lt
  have HPW : Hid (∀ W, Below G w W → PB W a cap s) := fun W hW => hP.below (by rw [HG.out]; exact hW)
  have HGW : Hid (∀ W, Below G w W → Hg W) := fun W hW => hg.below hW hG0
  have HSB : Hid (0 < s.length → ∃ b off, a = some ⟨b, off, none⟩ ∧ b < G) := fun h0 => by
    obtain ⟨b, off, e1, e2, _⟩ := hP.at_ h0
    exact ⟨b, off, e1, by rw [← HG.out]; exact e2⟩
  have HL : Hid (s.length ≤ 20000) := hl
  have C19 : Hid (Calls Tryz.prog 19 #[.slice a n cap] w fun e w' => e = .returned (.slice (some ⟨G, 0, none⟩) n (n + 2)) ∧ Below G w w' ∧ Room w' G (nums s)) := hid (by
    have := roomy_any a cap (nums s) w (by rw [nums_len]; omega) (fun h0 => by
      rw [nums_len] at h0
      obtain ⟨b, off, e1, e2, _⟩ := hP.at_ h0
      subst e1
      exact ⟨b, off, rfl, e2, pb_at hP⟩)
    rw [nums_len, HN.out, HG.out] at this
    exact this)
  have C21 : Hid (∀ W, Below G w W → Room W G (nums s) → Calls Tryz.prog 21 #[.slice (some ⟨G, 0, none⟩) n (n + 2), .slice a n cap] W fun e w' => e = .returned (.bool true) ∧ W.grownBy w' (some G)) := hid (fun W hW hr => by
    have := still_keep a cap G (nums s) W (by rw [nums_len]; omega) (nums_b s) hr (fun h0 => by
      rw [nums_len] at h0
      obtain ⟨b, off, e1, e2⟩ := HSB.out h0
      subst e1
      exact ⟨b, off, rfl, e2, pb_at (HPW.out W hW)⟩)
    rw [nums_len, HN.out] at this
    exact this)
  have C20 : Hid (∀ W, Room W G (nums s) → Calls Tryz.prog 20 #[.slice (some ⟨G, 0, none⟩) n (n + 2)] W (PostRd s W)) := hid (fun W hr => by
    have := read_any clash_all (some ⟨G, 0, none⟩) (s.length + 2) s hr.pb HL.out
    rw [HN.out] at this
    exact this)
  have C22 : Hid (∀ W, Below G w W → Calls Tryz.prog 22 #[.slice a n cap] W (PostDr s W)) := hid (fun W hW => by
    have := refRead_any a cap s (HPW.out W hW) HL.out
    rw [HN.out] at this
    exact this)
  rw [HN.out, HG.out]
  clear hP hl hg
  go_enter Tryz.func9, Tryz.ntmps9
  go_wp2_with fail
  refine C19.out.mono ?_
  rintro e w1 ⟨rfl, hb1, hr1⟩
  have HB1 := hid hb1
  have HR1 := hid hr1
  have hG1 : G < w1.heap.size := hr1.lt
  clear hb1 hr1
  go_wp2_with fail
  refine (C20.out w1 HR1.out).mono ?_
  rintro e w2 ⟨hb2, ⟨hgd, a2, c2, rfl, hp2, hfr⟩ | ⟨hng, rfl⟩⟩
  · have HGD := hid hgd
    obtain ⟨L, HLL⟩ : ∃ L, Hid (readL s = L) := ⟨_, rfl⟩
    rw [HLL.out] at hp2 ⊢
    obtain ⟨k, HK⟩ : ∃ k, Hid (L.length = k) := ⟨_, rfl⟩
    have HB2 : Hid (Below G w w2) := hid (HB1.out.trans (hb2.mono (by omega)))
    have HR2 : Hid (Room w2 G (nums s)) := hid (HR1.out.below hb2)
    have HP2 := hid hp2
    have HFR : Hid (∀ p : Addr, a2 = some p → p.block ≠ G) := hid (fun p hp => by have := hfr p hp; omega)
    have HWY : Hid (WY L ∧ L.length ≤ 1000) := hid (by rw [← HLL.out]; exact readL_wf s HL.out)
    rw [HK.out]
    clear hgd hb2 hp2 hfr
    go_wp2_with fail
    refine (C21.out w2 HB2.out HR2.out).mono ?_
    rintro e w3 ⟨rfl, hg3⟩
    have HB3 : Hid (Below G w w3) := hid (HB2.out.grown hg3 (by rw [← HG.out]; exact HB2.out.size) (fun q hq => by cases hq; exact Nat.le_refl _))
    have HP3 : Hid (PY w3 a2 c2 L) := hid (HP2.out.grown HFR.out hg3)
    have hG3 : G ≤ w3.heap.size := by rw [← HG.out]; exact HB3.out.size
    clear hg3
    go_wp2_with fail
    refine (C22.out w3 HB3.out).mono ?_
    rintro e w4 ⟨hb4, ⟨l, h1, h2, a4, c4, rfl, hp4⟩ | ⟨hno, rfl⟩⟩
    · have hle := (doc_good s HL.out l h1 h2).2
      rw [HLL.out] at hle
      subst hle
      have HB4 : Hid (Below G w w4) := hid (HB3.out.trans (hb4.mono hG3))
      have HP4 := hid hp4
      have HP4b := hid (HP3.out.below hb4)
      have hG4 : G ≤ w4.heap.size := by rw [← HG.out]; exact HB4.out.size
      have C23 : Hid (Calls Tryz.prog 23 #[.slice a2 k c2, .slice a4 k c4] w4 fun e w' => e = .returned (.bool true) ∧ Below w4.heap.size w4 w') := hid (by
        have := sameE_any a2 c2 a4 c4 L HP4b.out HP4.out HWY.out.1 (by have := HWY.out.2; omega)
        rw [HK.out] at this
        exact this)
      rw [HK.out]
      clear hb4 hp4 h1 h2
      go_wp2_with fail
      refine C23.out.mono ?_
      rintro e w5 ⟨rfl, hb5⟩
      have HB5 : Hid (Below G w w5) := hid (HB4.out.trans (hb5.mono hG4))
      have hG5 : G ≤ w5.heap.size := by rw [← HG.out]; exact HB5.out.size
      clear hb5
      go_wp2_with fail
      refine (tell_nil w5).mono ?_
      rintro e w6 ⟨rfl, hb6⟩
      have HB6 : Hid (Below G w w6) := hid (HB5.out.trans (hb6.mono hG5))
      clear hb6
      go_wp2
      go_ret
      exact ⟨rfl, HB6.out⟩
    · exact absurd ⟨_, good_doc s HL.out HGD.out⟩ hno
  · have HNG := hid hng
    have HB2 : Hid (Below G w w2) := hid (HB1.out.trans (hb2.mono (by omega)))
    have HR2 : Hid (Room w2 G (nums s)) := hid (HR1.out.below hb2)
    clear hng hb2
    go_wp2_with fail
    refine (C21.out w2 HB2.out HR2.out).mono ?_
    rintro e w3 ⟨rfl, hg3⟩
    have HB3 : Hid (Below G w w3) := hid (HB2.out.grown hg3 (by rw [← HG.out]; exact HB2.out.size) (fun q hq => by cases hq; exact Nat.le_refl _))
    have hG3 : G ≤ w3.heap.size := by rw [← HG.out]; exact HB3.out.size
    clear hg3
    go_wp2_with fail
    refine (C22.out w3 HB3.out).mono ?_
    rintro e w4 ⟨hb4, ⟨l, h1, h2, a4, c4, rfl, hp4⟩ | ⟨hno, rfl⟩⟩
    · exact absurd (doc_good s HL.out l h1 h2).1 HNG.out
    · have HB4 : Hid (Below G w w4) := hid (HB3.out.trans (hb4.mono hG3))
      have hG4 : G ≤ w4.heap.size := by rw [← HG.out]; exact HB4.out.size
      clear hb4 hno
      go_wp2_with fail
      refine (tell_errno 70 w4 (HGW.out w4 HB4.out)).mono ?_
      rintro e w6 ⟨rfl, hb6⟩
      have HB6 : Hid (Below G w w6) := hid (HB4.out.trans (hb6.mono hG4))
      clear hb6
      go_wp2
      go_ret
      exact ⟨rfl, HB6.out⟩
end Go.Proofs.YtcicoeneemnbiaaGreatDoor
