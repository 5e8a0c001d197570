import Derived.Test.YtcicoeneemnbiaaGreatDoorMw06
import Derived.RangeFuncNested
import Derived.RangeFuncBound
import Derived.RangeFuncCalls
import Derived.RangeFuncLeaves
import Derived.RangeFuncBox
import Derived.Shelf.Abstract
import Derived.Shelf.RegionOpen
import Derived.WalkKit
import Derived.OwnWalkIn
import Derived.TacticsInMore
import Derived.LoopNIn
import Derived.LoopIn
import Derived.Sort.LoopGhostIn
import Derived.Test.YtcicoeneemnbiaaGreatDoorMw01
import Derived.Test.YtcicoeneemnbiaaGreatDoorMw05
import Derived.Great.BuildSlice
import Derived.Maps.OwnSet
import Derived.Maps.OwnOps
import Derived.DeepKeys4
namespace Go.Proofs.YtcicoeneemnbiaaGreatDoor
open Go.RowKit Go.Shelf
set_option linter.unusedVariables false
set_option linter.unusedSimpArgs false
attribute [local go_sem] Oper.semAt_some
def encP (x : ByteArray × List UInt8) : Array Value := #[.string x.1, .string ⟨x.2.toArray⟩]
def SAll (s : List UInt8) (xs : List (ByteArray × List UInt8)) : Prop := xs.map (·.2) = spl s
def SPart (s : List UInt8) (pre : List (ByteArray × List UInt8)) : Prop := ∃ r, pre.map (·.2) ++ r = spl s
def Kc (b : Nat) (A B : World) : Prop := B.heap[b]? = A.heap[b]?
set_option maxRecDepth 100000 in
set_option maxHeartbeats 4000000 in
theorem parts1_in (n : Nat) (hn : 1 ≤ n) (s : List UInt8) (hs : s.length ≤ 100) (l b : Nat) (J Jx : List (ByteArray × List UInt8) → World → Prop)
    (hY : ∀ pre (x : ByteArray × List UInt8) W, J pre W → pre.length < 101 → YieldAt Fence.wide (n - 1) Tryz.prog l (encP x) W fun e W' =>
      (e = .returned (.bool true) ∧ J (pre ++ [x]) W' ∧ Kc b W W') ∨ (e = .returned (.bool false) ∧ Jx (pre ++ [x]) W'))
    (W : World) (hb : W.cell? ⟨b, 0, none⟩ = some (.string ⟨s.toArray⟩)) (h0 : J [] W) :
    CallsIn Fence.wide n Tryz.prog 62 #[.func (.yield l) #[] #[], .pointer (some ⟨b, 0, none⟩)] W fun e W' => (∃ v, e = .returned v) ∧
      ((∃ xs, SAll s xs ∧ J xs W') ∨ (∃ pre, SPart s pre ∧ Jx pre W')) := by
  obtain ⟨S, HS⟩ : ∃ S : ByteArray, Hid (⟨s.toArray⟩ = S) := ⟨_, rfl⟩
  obtain ⟨N, HN⟩ : ∃ N, Hid (s.length = N) := ⟨_, rfl⟩
  have hsz : S.size = N := by rw [← HS.out, txt_len]; exact HN.out
  have hN : N ≤ 100 := by rw [← HN.out]; exact hs
  rw [HS.out] at hb
  clear hs
  refine callsIn_of_wp Tryz.func62 rfl trivial ?_ rfl
  simp only [Tryz.ntmps62, List.size_toArray, List.length_cons, List.length_nil, Nat.reduceAdd, Nat.reduceSub, Array.replicate_succ, Array.replicate_zero, List.push_toArray, List.append_toArray, List.nil_append, List.cons_append]
  gi_wp2
  gi_loopg [3, 4, 8] N (fun k vd vb vi wr => ∃ (D : ByteArray) (f i : Nat) (pre : List (ByteArray × List UInt8)), vd = .string D ∧ vb = .int .i64 f ∧ vi = .int .i64 i ∧ k = N - i ∧ i ≤ N ∧ f ≤ i ∧ Hid (Pth s f i (pre.map (·.2))) ∧ Hid (pre.length ≤ i) ∧ Hid (J pre wr) ∧ wr.cell? ⟨b, 0, none⟩ = some (.string S))
  case atStart => exact ⟨_, 0, 0, [], rfl, rfl, rfl, rfl, by omega, by omega, Pth.start s, Nat.le_refl _, h0, hb⟩
  case round =>
    obtain ⟨D, f, i, pre, rfl, rfl, rfl, hk, hi, hf, HP, HL, HJ, hcb⟩ := hrel
    by_cases hlt : i < N
    · have hltI : (i : Int) < (N : Int) := by omega
      obtain ⟨x, hx⟩ : ∃ x, s[i]? = some x := ⟨_, List.getElem?_eq_getElem (by rw [HN.out]; exact hlt)⟩
      obtain ⟨c, HC⟩ : ∃ c, Hid ((x.toNat : Int) = c) := ⟨_, rfl⟩
      have HX : Hid (s[i]? = some x) := hx
      have hix : ∀ w1 : World, (Instr.index 9 (.string S) (.int .i64 i)).run Tryz.prog w1 = .ok (.int .u8 c) w1 := fun w1 => by rw [← HS.out, ← HC.out]; exact idx_txt s i w1 x HX.out
      have H47 : Hid (c = 47 ↔ x = 47) := hid (by rw [← HC.out]; exact byte_num x 47 (by decide))
      clear hx
      by_cases hc : c = 47
      · subst hc
        have HX7 : Hid (s[i]? = some 47) := hid (by rw [← H47.out.1 rfl]; exact HX.out)
        have HP2 : Hid (Pth s (i + 1) (i + 1) ((pre ++ [(D, cur s f i)]).map (·.2))) := hid (by rw [List.map_append]; exact HP.out.sep HX7.out)
        have HSP : Hid (SPart s (pre ++ [(D, cur s f i)])) := hid ⟨_, (HP2.out.eq).symm⟩
        obtain ⟨T, HT⟩ : ∃ T : ByteArray, Hid (⟨(cur s f i).toArray⟩ = T) := ⟨_, rfl⟩
        obtain ⟨D2, HD2⟩ : ∃ T : ByteArray, Hid (⟨(s.take i).toArray⟩ = T) := ⟨_, rfl⟩
        have hsl : ∀ w1 : World, (Instr.slice 9 (.string S) (some (.int .i64 f)) (some (.int .i64 i)) none).run Tryz.prog w1 = .ok (.string T) w1 := fun w1 => by rw [← HS.out, ← HT.out]; exact slc_mid s f i hf (by rw [HN.out]; exact hi) w1
        have hst : ∀ w1 : World, (Instr.slice 9 (.string S) none (some (.int .i64 i)) none).run Tryz.prog w1 = .ok (.string D2) w1 := fun w1 => by rw [← HS.out, ← HD2.out]; exact slc_to s i (by rw [HN.out]; exact hi) w1
        obtain ⟨fn, tmps, assign, body, hy, hR⟩ := hY pre (D, cur s f i) wr HJ.out (by have := HL.out; omega)
        simp only [encP, HT.out] at hy
        gi_wp2
        refine hR.mono ?_
        rintro e1 W3 (⟨rfl, hJ3, hk3⟩ | ⟨rfl, hJx3⟩)
        · have hcb3 : W3.cell? ⟨b, 0, none⟩ = some (.string S) := (World.cell?_of_block (a := ⟨b, 0, none⟩) hk3).trans hcb
          have HJ3 : Hid _ := hJ3
          clear hcb hJ3 hk3
          gi_wp2
          gi_roundg (N - (i + 1))
          case measure => omega
          case rel => exact ⟨D2, i + 1, i + 1, _, rfl, by go_num, by go_num, rfl, by omega, by omega, HP2.out, by have := HL.out; show _ ≤ _; simp; omega, HJ3.out, hcb3⟩
        · gi_wp2
          refine bodyPost_ret (results_none rfl _ _ _) rfl ?_
          exact ⟨⟨_, rfl⟩, .inr ⟨_, HSP.out, hJx3⟩⟩
      · have hcb2 : (c != 47) = true := by simpa using hc
        have HP2 : Hid (Pth s f (i + 1) (pre.map (·.2))) := hid (HP.out.go HX.out (fun e => hc (H47.out.2 e)))
        gi_wp2
        gi_roundg (N - (i + 1))
        case measure => omega
        case rel => exact ⟨D, f, i + 1, pre, rfl, rfl, by go_num, rfl, by omega, by omega, HP2.out, Nat.le_succ_of_le HL.out, HJ.out, hcb⟩
    · have hltI : ¬ (i : Int) < (N : Int) := by omega
      obtain rfl : i = N := by omega
      have HEQ : Hid (SAll s (pre ++ [(D, s.drop f)])) := hid (by
        have h1 := HP.out.end_ HN.out.symm
        have h2 : cur s f i = s.drop f := by unfold cur; rw [List.take_of_length_le (by rw [List.length_drop, HN.out]; omega)]
        rw [h2] at h1
        unfold SAll
        rw [h1, List.map_append]
        rfl)
      obtain ⟨T, HT⟩ : ∃ T : ByteArray, Hid (⟨(s.drop f).toArray⟩ = T) := ⟨_, rfl⟩
      have hsl : ∀ w1 : World, (Instr.slice 9 (.string S) (some (.int .i64 f)) none none).run Tryz.prog w1 = .ok (.string T) w1 := fun w1 => by rw [← HS.out, ← HT.out]; exact slc_from s f (by rw [HN.out]; exact hf) w1
      obtain ⟨fn, tmps, assign, body, hy, hR⟩ := hY pre (D, s.drop f) wr HJ.out (by have := HL.out; omega)
      simp only [encP, HT.out] at hy
      gi_wp2
      refine hR.mono ?_
      rintro e1 W3 (⟨rfl, hJ3, hk3⟩ | ⟨rfl, hJx3⟩)
      · gi_wp2
        go_end0
        exact ⟨⟨_, rfl⟩, .inl ⟨_, HEQ.out, hJ3⟩⟩
      · gi_wp2
        go_end0
        exact ⟨⟨_, rfl⟩, .inr ⟨_, ⟨[], by rw [List.append_nil]; exact HEQ.out⟩, hJx3⟩⟩
theorem kc_t {b : Nat} {A B C : World} (h : Kc b A B) (k : Kc b B C) : Kc b A C := k.trans h
theorem kc_b {wL : World} {b : Nat} (h2 : b < wL.heap.size) (W : World) (l : Nat) (o o' : Obj) (hl : wL.heap.size ≤ l) (h : W.heap[l]? = some o) (hc : o.isCells = false) (hw : o.isWalk = false) : Kc b W (W.putObj l o') :=
  World.putObj_heap_other (by omega)
theorem keeps_below {B : Nat} {X Y : World} (h : Below X.heap.size X Y) : KeepsFrom B X Y := ⟨h.size, fun i o _ hi _ => (h.block i (Array.getElem?_eq_some_iff.1 hi).1).trans hi⟩
theorem boxed_kept {A B : World} {row : Option Nat} {k t : Nat} {v : Value} (h : Boxed A k t v) (hg : A.grownBy B row) (hr : ∀ r, row = some r → ∃ o : Obj, A.heap[r]? = some o ∧ o.isCells = false) : Boxed B k t v :=
  h.kept hg (fun e' => by obtain ⟨o, ho, hc⟩ := hr k e'.symm; rw [show A.heap[k]? = _ from h] at ho; cases ho; cases hc)
theorem parts_in (n : Nat) (S : ByteArray) (w : World) :
    CallsIn Fence.wide n Tryz.prog 44 #[.string S] w fun e w' => e = .returned (.func (.func 62) #[] #[.pointer (some ⟨w.heap.size, 0, none⟩)]) ∧ w' = w.alloc (.cells #[.string S] 9) := by
  refine callsIn_of_wp Tryz.func44 rfl trivial ?_ rfl
  simp only [Tryz.ntmps44, List.size_toArray, List.length_cons, List.length_nil, Nat.reduceAdd, Nat.reduceSub, Array.replicate_succ, Array.replicate_zero, List.push_toArray, List.append_toArray, List.nil_append, List.cons_append]
  gi_wp2
  go_ret
  exact ⟨rfl, rfl⟩
theorem parts_stops (n : Nat) (hn : 1 ≤ n) (s : List UInt8) (hs : s.length ≤ 100) (wL : World) (b : Nat) (hb1 : b < wL.heap.size) (hb : wL.cell? ⟨b, 0, none⟩ = some (.string ⟨s.toArray⟩)) :
    SeqStopsK Fence.wide n Tryz.prog 62 #[.pointer (some ⟨b, 0, none⟩)] encP (Kc b) (SAll s) (SPart s) 101 wL := fun l J Jx W hWL _ _ hY h0 =>
  parts1_in n hn s hs l b J Jx hY W ((hWL.cell (p := ⟨b, 0, none⟩) hb1).trans hb) h0
structure PI (w : World) (pre : List (ByteArray × List UInt8)) (W : World) : Prop where
  r0 : Boxed W w.heap.size 4 (.bool false)
  ok : ∀ x ∈ pre, okE x.2
  lt : w.heap.size + 1 < W.heap.size
  b1 : Below w.heap.size w W
structure PX (w : World) (c : Code) (pre : List (ByteArray × List UInt8)) (W : World) : Prop where
  ret : c = .ret
  why : ∃ x ∈ pre, ¬ okE x.2
  r0 : Boxed W w.heap.size 4 (.bool false)
  b1 : Below w.heap.size w W
theorem PI.own (w : World) (B : Nat) (h1 : w.heap.size ≤ B) : OwnFrom B (PI w) := fun pre X Y row h hg hr =>
  ⟨boxed_kept h.r0 hg (fun r e => (hr r e).2), h.ok, Nat.lt_of_lt_of_le h.lt hg.size, ownFrom_below (β := Unit) (Nat.le_refl _) h1 () X Y row h.b1 hg hr⟩
theorem PX.own (w : World) (B : Nat) (h1 : w.heap.size ≤ B) (c : Code) : OwnFrom B (PX w c) := fun pre X Y row h hg hr =>
  ⟨h.ret, h.why, boxed_kept h.r0 hg (fun r e => (hr r e).2), ownFrom_below (β := Unit) (Nat.le_refl _) h1 () X Y row h.b1 hg hr⟩
theorem Tryz.results24 : Tryz.f24.results = #[.cell 2 4] := by kernel_rfl
theorem results_c1 {fn : Func} {p : Tmp} (h : fn.results = #[.cell p 4]) (tmps : Array Value) (w : World) (b : Nat) (x : Value) (hp : tmps.getD p undef = .pointer (some ⟨b, 0, none⟩)) (hx : w.cell? ⟨b, 0, none⟩ = some x) :
    (results fn tmps).run Tryz.prog w = .ok x w := by
  have hp' : tmps[p]?.getD undef = .pointer (some ⟨b, 0, none⟩) := by simpa using hp
  simp [results, h, hp', asAddr, loadVar, isAgg, underlying, Tryz.underlying4, hx]
theorem ip_ret (tmps : Array Value) (W : World) (D s : Nat) (v0 : Value) (h2 : tmps.getD 2 undef = .pointer (some ⟨s, 0, none⟩)) (hr0 : Boxed W s 4 v0) (hK : W.heap[D]? = some (.deferred (some [])))
    (R : Ending → World → Prop) (hR : R (.returned v0) (W.putObj D (.deferred none))) : bodyPostM Fence.wide 3 Tryz.prog Tryz.f24 R .ret { tmps := tmps, defers := [{ target := .collected D, args := #[] }] } W := by
  refine ⟨by simp, .inl ⟨_, _, rfl, run_takeDeferred hK, ?_⟩⟩
  have hr : ∀ r, some D = some r → ∃ o : Obj, W.heap[r]? = some o ∧ o.isCells = false := fun r e => by cases e; exact ⟨_, hK, rfl⟩
  exact ⟨_, results_c1 Tryz.results24 _ _ s v0 h2 (boxed_kept hr0 (grownBy_putObj' _ D (.deferred none)) hr).cell, hR⟩
theorem PI.ended {w : World} {s : List UInt8} {xs : List (ByteArray × List UInt8)} {W : World} (h : PI w xs W) (hS : SAll s xs) (hs : s.length ≤ 100) : okP s := by
  refine ⟨hs, fun p hp => ?_⟩
  rw [← show _ = spl s from hS] at hp
  obtain ⟨x, hx, rfl⟩ := List.mem_map.1 hp
  exact h.ok x hx
theorem PX.ended {w : World} {s : List UInt8} {c : Code} {pre : List (ByteArray × List UInt8)} {W : World} (h : PX w c pre W) (hS : SPart s pre) : ¬ okP s := by
  obtain ⟨x, hx, hn⟩ := h.why
  obtain ⟨r, hr⟩ := hS
  exact fun hk => hn (hk.2 _ (by rw [← hr]; exact List.mem_append_left _ (List.mem_map.2 ⟨x, hx, rfl⟩)))
set_option maxRecDepth 100000 in
set_option maxHeartbeats 4000000 in
theorem isPath_any (hIs : ∀ (t : List UInt8) (W : World), Calls Tryz.prog 45 #[.string ⟨t.toArray⟩] W fun e W' => BIs (okE t) e ∧ Below W.heap.size W W')
    (s : List UInt8) (w : World) : Calls Tryz.prog 24 #[.string ⟨s.toArray⟩] w fun e w' => BIs (okP s) e ∧ Below w.heap.size w w' := by
  obtain ⟨S, HS⟩ : ∃ S : ByteArray, Hid (⟨s.toArray⟩ = S) := ⟨_, rfl⟩
  obtain ⟨N, HN⟩ : ∃ N, Hid (s.length = N) := ⟨_, rfl⟩
  have hsz : S.size = N := by rw [← HS.out, txt_len]; exact HN.out
  have HB0 : Hid (Below w.heap.size w (w.alloc (.cells #[.bool false] 4))) := (Below.refl _ w).alloc (Nat.le_refl _) _
  by_cases h100 : N ≤ 100
  rotate_left
  · have hi : (100 : Int) < (N : Int) := by omega
    have HO : Hid (¬ okP s) := fun h => h100 (by rw [← HN.out]; exact h.1)
    rw [HS.out]
    go_enter Tryz.func24, Tryz.ntmps24
    go_wp2
    refine bodyPost_ret (results_c1 Tryz.results24 _ _ w.heap.size (.bool false) rfl (by simp [go_sem])) rfl ⟨bis_false HO.out, ?_⟩
    first
      | exact HB0.out
      | exact HB0.out.setCell (Nat.le_refl _) _
  have hi : ¬ (100 : Int) < (N : Int) := by omega
  have HIS : Hid (∀ (t : List UInt8) (W : World), Calls Tryz.prog 45 #[.string ⟨t.toArray⟩] W fun e W' => BIs (okE t) e ∧ Below W.heap.size W W') := hIs
  have H100 : Hid (s.length ≤ 100) := hid (by rw [HN.out]; exact h100)
  rw [HS.out]
  refine (callsIn_wide (n := 3)).1 ?_
  refine callsIn_of_wp_marks Tryz.func24 rfl trivial ?_ rfl
  simp only [Tryz.ntmps24, List.size_toArray, List.length_cons, List.length_nil, Nat.reduceAdd, Nat.reduceSub, Array.replicate_succ, Array.replicate_zero, List.push_toArray, List.append_toArray, List.nil_append, List.cons_append]
  gi_wp2_with (refine ⟨trivial, ?_⟩; gi_at_call 44; refine (parts_in _ _ _).mono ?_; rintro ev w2 ⟨rfl, rfl⟩)
  have c0 := (Boxed.new w 4 (.bool false)).alloc (.cells #[.string S] 9)
  have c1 := Boxed.new (w.alloc (.cells #[.bool false] 4)) 9 (.string S)
  simp only [World.size_alloc] at c1 ⊢
  have hI0 : PI w [] ((w.alloc (.cells #[.bool false] 4)).alloc (.cells #[.string S] 9)) := ⟨c0, (fun x h => by cases h), (by simp), HB0.out.alloc (by simp) _⟩
  obtain ⟨WL, HWL⟩ : ∃ WL, Hid (((w.alloc (.cells #[.bool false] 4)).alloc (.cells #[.string S] 9)) = WL) := ⟨_, rfl⟩
  have hLs : WL.heap.size = w.heap.size + 2 := by rw [← HWL.out]; simp
  rw [HWL.out] at hI0 c1 ⊢
  refine wpIn_rangeFunc_ownG (F := Fence.wide) (n := 3) rfl (by omega) (gf := 62) (lb := #[.pointer (some ⟨w.heap.size + 1, 0, none⟩)]) rfl trivial (enters_of Tryz.func62 (by kernel_rfl) rfl)
    (parts_stops 2 (by omega) s H100.out WL (w.heap.size + 1) (by omega) (by rw [HS.out]; exact c1.cell))
    kc_t (kc_b (by omega)) (Below.refl _ _) (fun _ => rfl) (PI w) (PX w) (PI.own w _ (by omega)) (PX.own w _ (by omega)) hI0
    (fun x => { tmps := #[.string S, undef, .pointer (some ⟨w.heap.size, 0, none⟩), undef, .string ⟨x.2.toArray⟩, .string S, .int .i64 N, .bool false, .string S, .func (.func 62) #[] #[.pointer (some ⟨w.heap.size + 1, 0, none⟩)], .string x.1, .string ⟨x.2.toArray⟩, undef, undef, undef], defers := [] }) ?assign ?body ?done ?stop
  case assign =>
    intro l x W K hK
    dsimp only [encP]
    gi_wp2
    exact hK
  case body =>
    rintro l pre x W hI hlt
    have HI : Hid (PI w pre W) := hI
    obtain ⟨T, HT⟩ : ∃ T : ByteArray, Hid (⟨x.2.toArray⟩ = T) := ⟨_, rfl⟩
    have C7 : Hid (Calls Tryz.prog 45 #[.string T] W fun e W' => BIs (okE x.2) e ∧ Below W.heap.size W W') := hid (by rw [← HT.out]; exact HIS.out x.2 W)
    rw [HT.out]
    clear hI
    gi_wp2_with fail
    refine ⟨trivial, ?_⟩
    refine (CallsIn.inRound l (callsIn_wide.2 C7.out)).mono ?_
    rintro ev w1 ⟨hbi, hb1⟩
    have hlW := HI.out.lt
    have HB1 : Hid (Below w.heap.size w w1) := HI.out.b1.trans (hb1.mono (by omega))
    have HR1 : Hid (Boxed w1 w.heap.size 4 (.bool false)) := (hb1.block _ (by omega)).trans HI.out.r0
    have HKC : Hid (Kc (w.heap.size + 1) W w1) := hb1.block _ hlW
    have HKF : Hid (∀ B, KeepsFrom B W w1) := fun B => keeps_below hb1
    have hl1 : w.heap.size + 1 < w1.heap.size := Nat.lt_of_lt_of_le hlW hb1.size
    clear hb1
    rcases bis_or hbi with ⟨hy, rfl⟩ | ⟨hn, rfl⟩
    · have HY : Hid (okE x.2) := hy
      clear hy hbi
      gi_wp2
      exact ⟨HKF.out _, HKC.out, HR1.out, fun y hy => (List.mem_append.1 hy).elim (HI.out.ok y) (fun h1 => by simp at h1; rw [h1]; exact HY.out), hl1, HB1.out⟩
    · have HY : Hid (¬ okE x.2) := hn
      have k0 := HR1.out.cell
      have f0 := HR1.out.frozen
      clear hn hbi
      gi_wp2
      exact ⟨(HKF.out _).trans ((KeepsOthers.setCell _ _ _).from _), rfl, ⟨x, by simp, HY.out⟩, HR1.out.set _, HB1.out.setCell (Nat.le_refl _) _⟩
  case done =>
    rintro D xs W hD hS hI hK
    have HE : Hid (okP s) := hI.ended hS H100.out
    have k0 := hI.r0.cell
    have f0 := hI.r0.frozen
    have HK : Hid _ := hK
    have HI : Hid (PI w xs W) := hI
    clear hI hS
    gi_wp2
    have hK2 := (KeepsOthers.setCell W ⟨w.heap.size, 0, none⟩ (.bool true)).same D _ HK.out rfl
    refine ip_ret _ _ D w.heap.size _ rfl (HI.out.r0.set _) hK2 _ ?_
    exact ⟨bis_true HE.out, (HI.out.b1.setCell (Nat.le_refl _) _).trans (belowK_b (w := w) (Nat.le_refl _) _ D _ _ (by omega) hK2 rfl rfl)⟩
  case stop =>
    rintro D c pre W hD hS hX hK
    have HE : Hid (¬ okP s) := hX.ended hS
    obtain ⟨rfl, _, hr0, hb1⟩ := hX
    have HK : Hid _ := hK
    gi_wp2
    refine ip_ret _ _ D w.heap.size _ rfl hr0 HK.out _ ?_
    exact ⟨bis_false HE.out, hb1.trans (belowK_b (w := w) (Nat.le_refl _) _ D _ _ (by omega) HK.out rfl rfl)⟩
end Go.Proofs.YtcicoeneemnbiaaGreatDoor
namespace Go.Proofs.YtcicoeneemnbiaaGreatDoor
open Go.RowKit
set_option linter.unusedVariables false
set_option linter.unusedSimpArgs false
theorem isPath_all (s : List UInt8) (w : World) : Calls Tryz.prog 24 #[.string ⟨s.toArray⟩] w fun e w' => BIs (okP s) e ∧ Below w.heap.size w w' :=
  isPath_any (fun t W => isEntryName_any t W) s w
def Dp (s : List UInt8) (f i : Nat) : Prop := (∃ dn, Pth s f i dn ∧ ∀ p ∈ dn, okE p) ∨ (i = s.length + 1 ∧ ∀ p ∈ spl s, okE p)
theorem Dp.pth {s : List UInt8} {f i : Nat} (h : Dp s f i) (hi : i ≤ s.length) : ∃ dn, Pth s f i dn ∧ ∀ p ∈ dn, okE p := by
  rcases h with h | ⟨h, _⟩
  · exact h
  · omega
theorem Dp.all {s : List UInt8} {f i : Nat} (h : Dp s f i) (hi : ¬ i ≤ s.length) : ∀ p ∈ spl s, okE p := by
  rcases h with ⟨dn, h, _⟩ | ⟨_, h⟩
  · exact absurd h.len hi
  · exact h
theorem Dp.go {s : List UInt8} {f i : Nat} (h : Dp s f i) {x : UInt8} (hx : s[i]? = some x) (hn : x ≠ 47) : Dp s f (i + 1) := by
  obtain ⟨dn, h1, h2⟩ := h.pth (Nat.le_of_lt (List.getElem?_eq_some_iff.1 hx).1)
  exact .inl ⟨dn, h1.go hx hn, h2⟩
theorem Dp.sep {s : List UInt8} {f i : Nat} (h : Dp s f i) (hx : s[i]? = some 47) (hk : okE (cur s f i)) : Dp s (i + 1) (i + 1) := by
  obtain ⟨dn, h1, h2⟩ := h.pth (Nat.le_of_lt (List.getElem?_eq_some_iff.1 hx).1)
  refine .inl ⟨_, h1.sep hx, fun p hp => ?_⟩
  rcases List.mem_append.1 hp with hp | hp
  · exact h2 p hp
  · rw [List.mem_singleton.1 hp]; exact hk
theorem Dp.bad {s : List UInt8} {f i : Nat} (h : Dp s f i) (hx : s[i]? = some 47) (hk : ¬ okE (cur s f i)) : ¬ okP s := by
  obtain ⟨dn, h1, h2⟩ := h.pth (Nat.le_of_lt (List.getElem?_eq_some_iff.1 hx).1)
  exact fun h => hk (h.2 _ (h1.part hx))
theorem Dp.last {s : List UInt8} {f i : Nat} (h : Dp s f i) (hi : i = s.length) (hk : okE (cur s f i)) (g : Nat) : Dp s g (i + 1) := by
  obtain ⟨dn, h1, h2⟩ := h.pth (by omega)
  refine .inr ⟨by omega, fun p hp => ?_⟩
  rw [h1.end_ hi] at hp
  rcases List.mem_append.1 hp with hp | hp
  · exact h2 p hp
  · rw [List.mem_singleton.1 hp]; exact hk
theorem Dp.lastBad {s : List UInt8} {f i : Nat} (h : Dp s f i) (hi : i = s.length) (hk : ¬ okE (cur s f i)) : ¬ okP s := by
  obtain ⟨dn, h1, h2⟩ := h.pth (by omega)
  exact fun h => hk (h.2 _ (by rw [h1.end_ hi]; simp))
set_option maxRecDepth 100000 in
set_option maxHeartbeats 4000000 in
theorem refPath_any (s : List UInt8) (w : World) : Calls Tryz.prog 35 #[.string ⟨s.toArray⟩] w fun e w' => BIs (okP s) e ∧ w' = w := by
  obtain ⟨S, HS⟩ : ∃ S : ByteArray, Hid (⟨s.toArray⟩ = S) := ⟨_, rfl⟩
  obtain ⟨N, HN⟩ : ∃ N, Hid (s.length = N) := ⟨_, rfl⟩
  have hsz : S.size = N := by rw [← HS.out, txt_len]; exact HN.out
  by_cases h100 : N ≤ 100
  rotate_left
  · have hi : (100 : Int) < (N : Int) := by omega
    have HO : Hid (¬ okP s) := fun h => h100 (by rw [← HN.out]; exact h.1)
    rw [HS.out]
    go_enter Tryz.func35, Tryz.ntmps35
    go_wp2
    go_ret
    exact ⟨bis_false HO.out, rfl⟩
  have hi : ¬ (100 : Int) < (N : Int) := by omega
  have H100 : Hid (s.length ≤ 100) := hid (by rw [HN.out]; exact h100)
  rw [HS.out]
  go_enter Tryz.func35, Tryz.ntmps35
  go_wp2
  go_loopg [3, 4] (N + 1) (fun g vf vi wr => ∃ f i : Nat, g = N + 1 - i ∧ vf = .int .i64 f ∧ vi = .int .i64 i ∧ i ≤ N + 1 ∧ Hid (i ≤ N → f ≤ i) ∧ Hid (Dp s f i) ∧ Hid (wr = w))
  case atStart => exact ⟨0, 0, rfl, rfl, rfl, by omega, hid (fun _ => Nat.le_refl _), hid (.inl ⟨[], Pth.start s, fun p hp => by cases hp⟩), hid rfl⟩
  case round =>
    obtain ⟨f, i, hg, rfl, rfl, hiN, HF, HD, HW⟩ := hrel
    have hww := HW.out
    subst hww
    clear HW
    by_cases hin : i ≤ N
    rotate_left
    · have hini : ¬ (i : Int) ≤ (N : Int) := by omega
      have HO : Hid (okP s) := ⟨H100.out, HD.out.all (by rw [HN.out]; exact hin)⟩
      go_wp2
      go_ret
      exact ⟨bis_true HO.out, rfl⟩
    have hini : (i : Int) ≤ (N : Int) := by omega
    have hf : f ≤ i := HF.out hin
    obtain ⟨T, HT⟩ : ∃ T : ByteArray, Hid (⟨(cur s f i).toArray⟩ = T) := ⟨_, rfl⟩
    have hsl : ∀ w1 : World, (Instr.slice 9 (.string S) (some (.int .i64 f)) (some (.int .i64 i)) none).run Tryz.prog w1 = .ok (.string T) w1 := fun w1 => by rw [← HS.out, ← HT.out]; exact slc_mid s f i hf (by rw [HN.out]; exact hin) w1
    have C8 : Hid (∀ W, Calls Tryz.prog 55 #[.string T] W fun e W' => BIs (okE (cur s f i)) e ∧ W' = W) := fun W => by rw [← HT.out]; exact isName_any (cur s f i) W
    by_cases hlt : i < N
    · have hlti : (i : Int) < (N : Int) := by omega
      obtain ⟨x, hx⟩ : ∃ x, s[i]? = some x := ⟨_, List.getElem?_eq_getElem (by rw [HN.out]; exact hlt)⟩
      obtain ⟨c, HC⟩ : ∃ c, Hid ((x.toNat : Int) = c) := ⟨_, rfl⟩
      have HX : Hid (s[i]? = some x) := hx
      have hix : ∀ w1 : World, (Instr.index 9 (.string S) (.int .i64 i)).run Tryz.prog w1 = .ok (.int .u8 c) w1 := fun w1 => by rw [← HS.out, ← HC.out]; exact idx_txt s i w1 x HX.out
      have H47 : Hid (c = 47 ↔ x = 47) := hid (by rw [← HC.out]; exact byte_num x 47 (by decide))
      clear hx
      by_cases hc : c = 47
      · subst hc
        have HX7 : Hid (s[i]? = some 47) := hid (by rw [← H47.out.1 rfl]; exact HX.out)
        go_wp2_with fail
        refine (C8.out _).mono ?_
        rintro ev w1 ⟨hbi, rfl⟩
        rcases bis_or hbi with ⟨hy, rfl⟩ | ⟨hn, rfl⟩
        · have HD2 : Hid (Dp s (i + 1) (i + 1)) := HD.out.sep HX7.out hy
          clear hy hbi
          go_wp2
          go_roundg (N + 1 - (i + 1))
          case measure => omega
          case rel => exact ⟨i + 1, i + 1, rfl, by go_num, by go_num, by omega, hid (fun _ => Nat.le_refl _), HD2, hid rfl⟩
        · have HO : Hid (¬ okP s) := HD.out.bad HX7.out hn
          clear hn hbi
          go_wp2
          go_ret
          exact ⟨bis_false HO.out, rfl⟩
      · have hcb2 : (c != 47) = true := by simpa using hc
        have HD2 : Hid (Dp s f (i + 1)) := hid (HD.out.go HX.out (fun e => hc (H47.out.2 e)))
        go_wp2
        go_roundg (N + 1 - (i + 1))
        case measure => omega
        case rel => exact ⟨f, i + 1, rfl, rfl, by go_num, by omega, hid (fun _ => by omega), HD2, hid rfl⟩
    · have hlti : ¬ (i : Int) < (N : Int) := by omega
      have HIN : Hid (i = s.length) := hid (by rw [HN.out]; omega)
      go_wp2_with fail
      refine (C8.out _).mono ?_
      rintro ev w1 ⟨hbi, rfl⟩
      rcases bis_or hbi with ⟨hy, rfl⟩ | ⟨hn, rfl⟩
      · have HD2 : Hid (Dp s (i + 1) (i + 1)) := HD.out.last HIN.out hy _
        clear hy hbi
        go_wp2
        go_roundg (N + 1 - (i + 1))
        case measure => omega
        case rel => exact ⟨i + 1, i + 1, rfl, by go_num, by go_num, by omega, hid (fun _ => Nat.le_refl _), HD2, hid rfl⟩
      · have HO : Hid (¬ okP s) := HD.out.lastBad HIN.out hn
        clear hn hbi
        go_wp2
        go_ret
        exact ⟨bis_false HO.out, rfl⟩
end Go.Proofs.YtcicoeneemnbiaaGreatDoor
namespace Go.Proofs.YtcicoeneemnbiaaGreatDoor
open Go.RowKit
set_option linter.unusedVariables false
set_option linter.unusedSimpArgs false
theorem lt_of_some {w : World} {g : Nat} {o : Obj} (h : w.heap[g]? = some o) : g < w.heap.size := (Array.getElem?_eq_some_iff.1 h).1
theorem getD_mem {α : Type} (l : List α) (i : Nat) (d : α) (h : i < l.length) : l.getD i d ∈ l := by
  rw [List.getD_eq_getElem?_getD, List.getElem?_eq_getElem h]
  exact List.getElem_mem _
theorem take_snocG {α : Type} (d : α) (s : List α) (i : Nat) (h : i < s.length) : s.take (i + 1) = s.take i ++ [s.getD i d] := by
  rw [List.take_add_one, List.getD_eq_getElem?_getD, List.getElem?_eq_getElem h]; rfl
section
variable {α : Type} (enc : α → List Value) (k : Nat) (d : α)
structure Px (w : World) (a : Option Addr) (cap : Nat) (l : List α) : Prop where
  capl : l.length ≤ cap
  at_ : 0 < l.length → ∃ b off, a = some ⟨b, off, none⟩ ∧ b < w.heap.size ∧ ∀ i, i < l.length → w.rangeAt b (off + i * k) (enc (l.getD i d))
  nil : a = none → cap = 0
structure Bx (e : TypeId) (w0 w : World) (B : Nat) (v : Value) (l : List α) : Prop where
  below : Below B w0 w
  own : w.ownsRow B e k v l.length (l.flatMap enc)
  le : B ≤ w.heap.size
end
section
variable {α : Type} {enc : α → List Value} {k : Nat} {d : α}
theorem Px.below {w w' : World} {a : Option Addr} {cap : Nat} {l : List α} (h : Px enc k d w a cap l) (hb : Below w.heap.size w w') : Px enc k d w' a cap l :=
  ⟨h.capl, fun h0 => by
    obtain ⟨b, off, e1, e2, e3⟩ := h.at_ h0
    exact ⟨b, off, e1, Nat.lt_of_lt_of_le e2 hb.size, fun i hi j v hv => (hb.cell (p := ⟨b, off + i * k + j, none⟩) e2).trans (e3 i hi j v hv)⟩, h.nil⟩
theorem Px.grown {w w' : World} {a : Option Addr} {cap K : Nat} {l : List α} (h : Px enc k d w a cap l) (hK : ∀ p : Addr, a = some p → p.block ≠ K) (hg : w.grownBy w' (some K)) : Px enc k d w' a cap l :=
  ⟨h.capl, fun h0 => by
    obtain ⟨b, off, e1, e2, e3⟩ := h.at_ h0
    refine ⟨b, off, e1, Nat.lt_of_lt_of_le e2 hg.size, fun i hi j v hv => ?_⟩
    rw [World.cell?_of_block (a := ⟨b, off + i * k + j, none⟩) (hg.block b e2 (fun e => hK _ e1 (by cases e; rfl)))]
    exact e3 i hi j v hv, h.nil⟩
theorem Px.take {w : World} {a : Option Addr} {cap : Nat} {l : List α} (h : Px enc k d w a cap l) (j : Nat) : Px enc k d w a cap (l.take j) :=
  ⟨by rw [List.length_take]; have := h.capl; omega, fun h0 => by
    rw [List.length_take] at h0
    obtain ⟨b, off, e1, e2, e3⟩ := h.at_ (by omega)
    refine ⟨b, off, e1, e2, fun i hi => ?_⟩
    rw [List.length_take] at hi
    have := e3 i (by omega)
    rw [show (l.take j).getD i d = l.getD i d by rw [List.getD_eq_getElem?_getD, List.getD_eq_getElem?_getD, List.getElem?_take, if_pos (by omega)]]
    exact this, h.nil⟩
theorem fX_len (l : List α) (h : ∀ x ∈ l, (enc x).length = k) : (l.flatMap enc).length = l.length * k := by
  induction l with
  | nil => simp
  | cons x l ih =>
    have h1 := ih (fun y hy => h y (by simp [hy]))
    have h2 := h x (by simp)
    simp only [List.flatMap_cons, List.length_append, List.length_cons, Nat.add_mul] at h1 ⊢
    omega
theorem fX_one (l : List α) (h : ∀ x, ∀ v ∈ enc x, v.oneCell' = true) : ∀ v ∈ l.flatMap enc, v.oneCell' = true := by
  intro v hv
  obtain ⟨x, _, hx⟩ := List.mem_flatMap.1 hv
  exact h x v hx
theorem fX_at : ∀ (l : List α) (h : ∀ x ∈ l, (enc x).length = k) (i j : Nat), i < l.length → j < k → (l.flatMap enc)[i * k + j]? = (enc (l.getD i d))[j]?
  | [], h, i, j, hi, hj => by simp at hi
  | x :: r, h, 0, j, hi, hj => by
    have h2 := h x (by simp)
    simp only [List.flatMap_cons, Nat.zero_mul, Nat.zero_add]
    rw [List.getElem?_append_left (by omega)]
    rfl
  | x :: r, h, i + 1, j, hi, hj => by
    have h2 := h x (by simp)
    have := fX_at r (fun y hy => h y (by simp [hy])) i j (by simpa using hi) hj
    simp only [List.flatMap_cons]
    rw [List.getElem?_append_right (by rw [h2, Nat.add_mul]; omega), h2, show (i + 1) * k + j - k = i * k + j by rw [Nat.add_mul]; omega, this]
    rfl
theorem Px.cells {w : World} {b off cap : Nat} {l : List α} (hk : 0 < k) (h : Px enc k d w (some ⟨b, off, none⟩) cap l) (hw : ∀ x ∈ l, (enc x).length = k) : ∀ (j : Nat) (u : Value), (l.flatMap enc)[j]? = some u → w.cell? ((⟨b, off, none⟩ : Addr).add j) = some u := by
  intro j u hj
  have hlt := (List.getElem?_eq_some_iff.1 hj).1
  rw [fX_len l hw] at hlt
  have hd : j / k < l.length := Nat.div_lt_of_lt_mul (by rw [Nat.mul_comm]; exact hlt)
  have hm : j % k < k := Nat.mod_lt _ hk
  obtain ⟨b', off', e1, e2, e3⟩ := h.at_ (Nat.lt_of_le_of_lt (Nat.zero_le _) hd)
  cases e1
  have e : j / k * k + j % k = j := by rw [Nat.mul_comm]; exact Nat.div_add_mod j k
  have hf := fX_at (d := d) l hw (j / k) (j % k) hd hm
  rw [e, hj] at hf
  have := e3 (j / k) hd (j % k) u hf.symm
  rw [addr_add, ← this]
  congr 2
  omega
theorem Bx.alloc {e : TypeId} {w0 w : World} {B : Nat} {v : Value} {l : List α} (h : Bx enc k e w0 w B v l) (o : Obj) : Bx enc k e w0 (w.alloc o) B v l :=
  ⟨h.below.alloc h.le o, h.own.alloc o, Nat.le_trans h.le (by simp)⟩
theorem bx_nil (e : TypeId) (w : World) (B : Nat) (h : B ≤ w.heap.size) : Bx enc k e w w B (.slice none 0 0) [] := ⟨Below.refl _ _, ⟨by simp, .inl ⟨rfl, rfl⟩⟩, h⟩
theorem Bx.carry {e : TypeId} {w0 w w' : World} {B : Nat} {v : Value} {l : List α} (h : Bx enc k e w0 w B v l) (hb : Below w.heap.size w w') : Bx enc k e w0 w' B v l :=
  ⟨h.below.trans (hb.mono h.le), h.own.kept (row := none) ⟨hb.os, hb.tape, hb.output, hb.size, fun k hk _ => hb.block k hk⟩ (by cases h : v.ownBlock <;> simp), Nat.le_trans h.le hb.size⟩
theorem Bx.change {e : TypeId} {w0 w w' : World} {B K : Nat} {v : Value} {l : List α} (h : Bx enc k e w0 w B v l) (hv : ∀ k, v.ownBlock = some k → k ≠ K) (hB : B ≤ K) (hg : w.grownBy w' (some K)) : Bx enc k e w0 w' B v l :=
  ⟨h.below.grown hg h.le (fun k hk => by cases hk; exact hB), h.own.kept (row := some K) hg (by
    cases hb : v.ownBlock with
    | none => exact .inl rfl
    | some k => exact .inr (fun e => by cases e; exact hv _ hb rfl)), Nat.le_trans h.le hg.size⟩
theorem Bx.px {e : TypeId} {w0 w : World} {B : Nat} {v : Value} {l : List α} (h : Bx enc k e w0 w B v l) (hw : ∀ x ∈ l, (enc x).length = k) : ∃ a cap, v = .slice a l.length cap ∧ Px enc k d w a cap l ∧ (∀ p : Addr, a = some p → B ≤ p.block ∧ p.block < w.heap.size) ∧ (a = none ∨ ∃ b, a = some ⟨b, 0, none⟩) := by
  obtain ⟨hl, ⟨hv, h0⟩ | ⟨g, cap, cur, hv, hb, hh, hkc, hcm, hsz, htk⟩⟩ := h.own
  · refine ⟨none, 0, by rw [hv, h0], ⟨by omega, fun h => by omega, fun _ => rfl⟩, (fun p hp => by cases hp), .inl rfl⟩
  · refine ⟨_, cap, hv, ⟨hkc, fun _ => ⟨g, 0, rfl, lt_of_some hh, fun i hi j v hv => ?_⟩, fun e => by cases e⟩, (fun p hp => by cases hp; exact ⟨hb, lt_of_some hh⟩), .inr ⟨g, rfl⟩⟩
    have hj : j < k := by
      have := (List.getElem?_eq_some_iff.1 hv).1
      rw [hw _ (getD_mem l i d hi)] at this
      exact this
    have hf := fX_at (d := d) l hw i j hi hj
    rw [hv] at hf
    rw [Nat.zero_add, cell_of_row w g (i * k + j) _ _ _ hh]
    have hlt : i * k + j < l.length * k := by
      have := (List.getElem?_eq_some_iff.1 hf).1
      rw [fX_len l hw] at this
      exact this
    rw [← htk, List.getElem?_take_of_lt hlt] at hf
    simpa using hf
theorem wpList_bx_sl {w w0 : World} {ops : Array Oper} {rest : List Oper} {o : Oper} {a : Act} {Q : Exit → Act → World → Prop} (hgd : o.guard = none) (s x : Operand) (t e : TypeId) (hu : Tryz.prog.underlying t = some (.slice e)) {z : Value} {by_ : Nat} (hin : (Tryz.prog.info? e).map (fun i => (i.zero, i.size, i.bytes)) = some (some z, k, by_)) (hz : z.cells.size = k) (hk : 0 < k) (hby : by_ ≤ 100)
    (hone : ∀ x, ∀ v ∈ enc x, v.oneCell' = true)
    (ho : o.op = .call { callee := .builtin .append, args := #[s, x], argTypes := #[t, t] }) (B : Nat) (v : Value) (l : List α) (hs : a.eval s = v) (h : Bx enc k e w0 w B v l)
    (ax : Option Addr) (cx : Nat) (m : List α) (hx : a.eval x = .slice ax m.length cx) (hP : Px enc k d w ax cx m) (hw : ∀ x ∈ m, (enc x).length = k) (hl : l.length + m.length ≤ 30000)
    (hK : ∀ v' w', Bx enc k e w0 w' B v' (l ++ m) → w.grownBy w' v.ownBlock → wpList Tryz.prog ops Q rest (a.put o.dst v') w') : wpList Tryz.prog ops Q (o :: rest) a w := by
  obtain ⟨i, hi, hz0, hz1, hz2⟩ := info_parts hin
  cases ax with
  | none =>
    have hc : cx = 0 := hP.nil rfl
    have hcl := hP.capl
    obtain rfl : m = [] := List.length_eq_zero_iff.1 (by omega)
    subst hc
    refine wpList_plain hgd fun K hK' => ?_
    have hr := run_append_owned_none (P := Tryz.prog) w B t o.type e i k hu hi v _ _ h.own
    unfold Oper.wp execOp
    simp only [List.length_nil] at hx
    simp only [ho, resolve, invoke, builtin, Sem.run_bind, Sem.run_pure, Result.andThen_ok, List.map_toArray, List.map_cons, List.map_nil, hs, hx, hr]
    exact hK' _ _ (hK v w (by simpa using h) ⟨rfl, rfl, rfl, Nat.le_refl _, fun _ _ _ => rfl⟩)
  | some ad =>
    obtain ⟨bk, of, fr⟩ := ad
    by_cases h0 : m.length = 0
    · obtain rfl : m = [] := List.length_eq_zero_iff.1 h0
      refine wpList_append_own_at w hgd s x t ho B e i z k by_ hu hi hz0 hz1 hz2 hz hk v _ _ hs h.own ⟨bk, of, fr⟩ 0 cx [] hx (by simp) (fun j u hj => by cases hj) (fun u hu => by cases hu) (by unfold maxLen; omega) (by have h2 := Nat.mul_le_mul hl hby; exact Nat.le_trans h2 (by decide)) h.le ?_
      intro v' w' h1 h2 h3 h4
      refine hK v' w' ⟨h.below.grown h2 h.le (fun k hk => (own_lt h.own k hk).1), ?_, Nat.le_trans h.le h2.size⟩ h2
      simpa using h1
    · obtain ⟨b', off', e1, _⟩ := hP.at_ (by omega)
      cases e1
      refine wpList_append_own_at w hgd s x t ho B e i z k by_ hu hi hz0 hz1 hz2 hz hk v _ _ hs h.own ⟨bk, of, none⟩ m.length cx (m.flatMap enc) hx (fX_len m hw) (hP.cells hk hw) (fX_one m hone) (by unfold maxLen; omega) (by have h2 := Nat.mul_le_mul hl hby; exact Nat.le_trans h2 (by decide)) h.le ?_
      intro v' w' h1 h2 h3 h4
      refine hK v' w' ⟨h.below.grown h2 h.le (fun k hk => (own_lt h.own k hk).1), ?_, Nat.le_trans h.le h2.size⟩ h2
      rw [List.length_append, List.flatMap_append]
      exact h1
end
end Go.Proofs.YtcicoeneemnbiaaGreatDoor
