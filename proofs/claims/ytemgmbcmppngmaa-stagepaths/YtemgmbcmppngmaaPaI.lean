/- The program's 'parts' and 'IsPath'. -/
import Derived.Test.YtemgmbcmppngmaaPaP
import Derived.RangeFuncNested
import Derived.RangeFuncBound
import Derived.RangeFuncCalls
import Derived.RangeFuncLeaves
import Derived.RangeFuncBox
import Derived.Shelf.Abstract
import Derived.Shelf.RegionOpen
import Derived.WalkKit
import Derived.OwnWalkIn
import Derived.TacticsInMore
import Derived.LoopNIn
import Derived.LoopIn
import Derived.Sort.LoopGhostIn
namespace Go.Proofs.Ytemgmbcmppngmaa
open Go.RowKit Go.Shelf
set_option linter.unusedVariables false
set_option linter.unusedSimpArgs false
attribute [local go_sem] Oper.semAt_some
def encP (x : ByteArray × List UInt8) : Array Value := #[.string x.1, .string ⟨x.2.toArray⟩]
def SAll (s : List UInt8) (xs : List (ByteArray × List UInt8)) : Prop := xs.map (·.2) = spl s
def SPart (s : List UInt8) (pre : List (ByteArray × List UInt8)) : Prop := ∃ r, pre.map (·.2) ++ r = spl s
def Kc (b : Nat) (A B : World) : Prop := B.heap[b]? = A.heap[b]?
set_option maxRecDepth 100000 in
set_option maxHeartbeats 4000000 in
theorem parts1_in (n : Nat) (hn : 1 ≤ n) (s : List UInt8) (hs : s.length ≤ 100) (l b : Nat) (J Jx : List (ByteArray × List UInt8) → World → Prop)
    (hY : ∀ pre (x : ByteArray × List UInt8) W, J pre W → pre.length < 101 → YieldAt Fence.wide (n - 1) Try.prog l (encP x) W fun e W' =>
      (e = .returned (.bool true) ∧ J (pre ++ [x]) W' ∧ Kc b W W') ∨ (e = .returned (.bool false) ∧ Jx (pre ++ [x]) W'))
    (W : World) (hb : W.cell? ⟨b, 0, none⟩ = some (.string ⟨s.toArray⟩)) (h0 : J [] W) :
    CallsIn Fence.wide n Try.prog 9 #[.func (.yield l) #[] #[], .pointer (some ⟨b, 0, none⟩)] W fun e W' => (∃ v, e = .returned v) ∧
      ((∃ xs, SAll s xs ∧ J xs W') ∨ (∃ pre, SPart s pre ∧ Jx pre W')) := by
  obtain ⟨S, HS⟩ : ∃ S : ByteArray, Hid (⟨s.toArray⟩ = S) := ⟨_, rfl⟩
  obtain ⟨N, HN⟩ : ∃ N, Hid (s.length = N) := ⟨_, rfl⟩
  have hsz : S.size = N := by rw [← HS.out, txt_len]; exact HN.out
  have hN : N ≤ 100 := by rw [← HN.out]; exact hs
  rw [HS.out] at hb
  clear hs
  refine callsIn_of_wp Try.func9 rfl trivial ?_ rfl
  simp only [Try.ntmps9, List.size_toArray, List.length_cons, List.length_nil, Nat.reduceAdd, Nat.reduceSub, Array.replicate_succ, Array.replicate_zero, List.push_toArray, List.append_toArray, List.nil_append, List.cons_append]
  gi_wp2
  gi_loopg [3, 4, 8] N (fun k vd vb vi wr => ∃ (D : ByteArray) (f i : Nat) (pre : List (ByteArray × List UInt8)), vd = .string D ∧ vb = .int .i64 f ∧ vi = .int .i64 i ∧ k = N - i ∧ i ≤ N ∧ f ≤ i ∧ Hid (Pth s f i (pre.map (·.2))) ∧ Hid (pre.length ≤ i) ∧ Hid (J pre wr) ∧ wr.cell? ⟨b, 0, none⟩ = some (.string S))
  case atStart => exact ⟨_, 0, 0, [], rfl, rfl, rfl, rfl, by omega, by omega, Pth.start s, Nat.le_refl _, h0, hb⟩
  case round =>
    obtain ⟨D, f, i, pre, rfl, rfl, rfl, hk, hi, hf, HP, HL, HJ, hcb⟩ := hrel
    by_cases hlt : i < N
    · have hltI : (i : Int) < (N : Int) := by omega
      obtain ⟨x, hx⟩ : ∃ x, s[i]? = some x := ⟨_, List.getElem?_eq_getElem (by rw [HN.out]; exact hlt)⟩
      obtain ⟨c, HC⟩ : ∃ c, Hid ((x.toNat : Int) = c) := ⟨_, rfl⟩
      have HX : Hid (s[i]? = some x) := hx
      have hix : ∀ w1 : World, (Instr.index 9 (.string S) (.int .i64 i)).run Try.prog w1 = .ok (.int .u8 c) w1 := fun w1 => by rw [← HS.out, ← HC.out]; exact idx_txt s i w1 x HX.out
      have H47 : Hid (c = 47 ↔ x = 47) := hid (by rw [← HC.out]; exact byte_num x 47 (by decide))
      clear hx
      by_cases hc : c = 47
      · subst hc
        have HX7 : Hid (s[i]? = some 47) := hid (by rw [← H47.out.1 rfl]; exact HX.out)
        have HP2 : Hid (Pth s (i + 1) (i + 1) ((pre ++ [(D, cur s f i)]).map (·.2))) := hid (by rw [List.map_append]; exact HP.out.sep HX7.out)
        have HSP : Hid (SPart s (pre ++ [(D, cur s f i)])) := hid ⟨_, (HP2.out.eq).symm⟩
        obtain ⟨T, HT⟩ : ∃ T : ByteArray, Hid (⟨(cur s f i).toArray⟩ = T) := ⟨_, rfl⟩
        obtain ⟨D2, HD2⟩ : ∃ T : ByteArray, Hid (⟨(s.take i).toArray⟩ = T) := ⟨_, rfl⟩
        have hsl : ∀ w1 : World, (Instr.slice 9 (.string S) (some (.int .i64 f)) (some (.int .i64 i)) none).run Try.prog w1 = .ok (.string T) w1 := fun w1 => by rw [← HS.out, ← HT.out]; exact slc_mid s f i hf (by rw [HN.out]; exact hi) w1
        have hst : ∀ w1 : World, (Instr.slice 9 (.string S) none (some (.int .i64 i)) none).run Try.prog w1 = .ok (.string D2) w1 := fun w1 => by rw [← HS.out, ← HD2.out]; exact slc_to s i (by rw [HN.out]; exact hi) w1
        obtain ⟨fn, tmps, assign, body, hy, hR⟩ := hY pre (D, cur s f i) wr HJ.out (by have := HL.out; omega)
        simp only [encP, HT.out] at hy
        gi_wp2
        refine hR.mono ?_
        rintro e1 W3 (⟨rfl, hJ3, hk3⟩ | ⟨rfl, hJx3⟩)
        · have hcb3 : W3.cell? ⟨b, 0, none⟩ = some (.string S) := (World.cell?_of_block (a := ⟨b, 0, none⟩) hk3).trans hcb
          have HJ3 : Hid _ := hJ3
          clear hcb hJ3 hk3
          gi_wp2
          gi_roundg (N - (i + 1))
          case measure => omega
          case rel => exact ⟨D2, i + 1, i + 1, _, rfl, by go_num, by go_num, rfl, by omega, by omega, HP2.out, by have := HL.out; show _ ≤ _; simp; omega, HJ3.out, hcb3⟩
        · gi_wp2
          refine bodyPost_ret (results_none rfl _ _ _) rfl ?_
          exact ⟨⟨_, rfl⟩, .inr ⟨_, HSP.out, hJx3⟩⟩
      · have hcb2 : (c != 47) = true := by simpa using hc
        have HP2 : Hid (Pth s f (i + 1) (pre.map (·.2))) := hid (HP.out.go HX.out (fun e => hc (H47.out.2 e)))
        gi_wp2
        gi_roundg (N - (i + 1))
        case measure => omega
        case rel => exact ⟨D, f, i + 1, pre, rfl, rfl, by go_num, rfl, by omega, by omega, HP2.out, Nat.le_succ_of_le HL.out, HJ.out, hcb⟩
    · have hltI : ¬ (i : Int) < (N : Int) := by omega
      obtain rfl : i = N := by omega
      have HEQ : Hid (SAll s (pre ++ [(D, s.drop f)])) := hid (by
        have h1 := HP.out.end_ HN.out.symm
        have h2 : cur s f i = s.drop f := by unfold cur; rw [List.take_of_length_le (by rw [List.length_drop, HN.out]; omega)]
        rw [h2] at h1
        unfold SAll
        rw [h1, List.map_append]
        rfl)
      obtain ⟨T, HT⟩ : ∃ T : ByteArray, Hid (⟨(s.drop f).toArray⟩ = T) := ⟨_, rfl⟩
      have hsl : ∀ w1 : World, (Instr.slice 9 (.string S) (some (.int .i64 f)) none none).run Try.prog w1 = .ok (.string T) w1 := fun w1 => by rw [← HS.out, ← HT.out]; exact slc_from s f (by rw [HN.out]; exact hf) w1
      obtain ⟨fn, tmps, assign, body, hy, hR⟩ := hY pre (D, s.drop f) wr HJ.out (by have := HL.out; omega)
      simp only [encP, HT.out] at hy
      gi_wp2
      refine hR.mono ?_
      rintro e1 W3 (⟨rfl, hJ3, hk3⟩ | ⟨rfl, hJx3⟩)
      · gi_wp2
        go_end0
        exact ⟨⟨_, rfl⟩, .inl ⟨_, HEQ.out, hJ3⟩⟩
      · gi_wp2
        go_end0
        exact ⟨⟨_, rfl⟩, .inr ⟨_, ⟨[], by rw [List.append_nil]; exact HEQ.out⟩, hJx3⟩⟩
theorem kc_t {b : Nat} {A B C : World} (h : Kc b A B) (k : Kc b B C) : Kc b A C := k.trans h
theorem kc_b {wL : World} {b : Nat} (h2 : b < wL.heap.size) (W : World) (l : Nat) (o o' : Obj) (hl : wL.heap.size ≤ l) (h : W.heap[l]? = some o) (hc : o.isCells = false) (hw : o.isWalk = false) : Kc b W (W.putObj l o') :=
  World.putObj_heap_other (by omega)
theorem keeps_below {B : Nat} {X Y : World} (h : Below X.heap.size X Y) : KeepsFrom B X Y := ⟨h.size, fun i o _ hi _ => (h.block i (Array.getElem?_eq_some_iff.1 hi).1).trans hi⟩
theorem boxed_kept {A B : World} {row : Option Nat} {k t : Nat} {v : Value} (h : Boxed A k t v) (hg : A.grownBy B row) (hr : ∀ r, row = some r → ∃ o : Obj, A.heap[r]? = some o ∧ o.isCells = false) : Boxed B k t v :=
  h.kept hg (fun e' => by obtain ⟨o, ho, hc⟩ := hr k e'.symm; rw [show A.heap[k]? = _ from h] at ho; cases ho; cases hc)
theorem parts_in (n : Nat) (S : ByteArray) (w : World) :
    CallsIn Fence.wide n Try.prog 6 #[.string S] w fun e w' => e = .returned (.func (.func 9) #[] #[.pointer (some ⟨w.heap.size, 0, none⟩)]) ∧ w' = w.alloc (.cells #[.string S] 9) := by
  refine callsIn_of_wp Try.func6 rfl trivial ?_ rfl
  simp only [Try.ntmps6, List.size_toArray, List.length_cons, List.length_nil, Nat.reduceAdd, Nat.reduceSub, Array.replicate_succ, Array.replicate_zero, List.push_toArray, List.append_toArray, List.nil_append, List.cons_append]
  gi_wp2
  go_ret
  exact ⟨rfl, rfl⟩
theorem parts_stops (n : Nat) (hn : 1 ≤ n) (s : List UInt8) (hs : s.length ≤ 100) (wL : World) (b : Nat) (hb1 : b < wL.heap.size) (hb : wL.cell? ⟨b, 0, none⟩ = some (.string ⟨s.toArray⟩)) :
    SeqStopsK Fence.wide n Try.prog 9 #[.pointer (some ⟨b, 0, none⟩)] encP (Kc b) (SAll s) (SPart s) 101 wL := fun l J Jx W hWL _ _ hY h0 =>
  parts1_in n hn s hs l b J Jx hY W ((hWL.cell (p := ⟨b, 0, none⟩) hb1).trans hb) h0
structure PI (w : World) (pre : List (ByteArray × List UInt8)) (W : World) : Prop where
  r0 : Boxed W w.heap.size 4 (.bool false)
  ok : ∀ x ∈ pre, okE x.2
  lt : w.heap.size + 1 < W.heap.size
  b1 : Below w.heap.size w W
structure PX (w : World) (c : Code) (pre : List (ByteArray × List UInt8)) (W : World) : Prop where
  ret : c = .ret
  why : ∃ x ∈ pre, ¬ okE x.2
  r0 : Boxed W w.heap.size 4 (.bool false)
  b1 : Below w.heap.size w W
theorem PI.own (w : World) (B : Nat) (h1 : w.heap.size ≤ B) : OwnFrom B (PI w) := fun pre X Y row h hg hr =>
  ⟨boxed_kept h.r0 hg (fun r e => (hr r e).2), h.ok, Nat.lt_of_lt_of_le h.lt hg.size, ownFrom_below (β := Unit) (Nat.le_refl _) h1 () X Y row h.b1 hg hr⟩
theorem PX.own (w : World) (B : Nat) (h1 : w.heap.size ≤ B) (c : Code) : OwnFrom B (PX w c) := fun pre X Y row h hg hr =>
  ⟨h.ret, h.why, boxed_kept h.r0 hg (fun r e => (hr r e).2), ownFrom_below (β := Unit) (Nat.le_refl _) h1 () X Y row h.b1 hg hr⟩
theorem Try.results4 : Try.f4.results = #[.cell 2 4] := by kernel_rfl
theorem results_c1 {fn : Func} {p : Tmp} (h : fn.results = #[.cell p 4]) (tmps : Array Value) (w : World) (b : Nat) (x : Value) (hp : tmps.getD p undef = .pointer (some ⟨b, 0, none⟩)) (hx : w.cell? ⟨b, 0, none⟩ = some x) :
    (results fn tmps).run Try.prog w = .ok x w := by
  have hp' : tmps[p]?.getD undef = .pointer (some ⟨b, 0, none⟩) := by simpa using hp
  simp [results, h, hp', asAddr, loadVar, isAgg, underlying, Try.underlying4, hx]
theorem cell_kept {A B : World} {row : Option Nat} {k : Nat} {v : Value} (h : A.cell? ⟨k, 0, none⟩ = some v) (hg : A.grownBy B row) (hr : ∀ r, row = some r → ∃ o : Obj, A.heap[r]? = some o ∧ o.isCells = false) (hb : ∃ t, Boxed A k t v) : B.cell? ⟨k, 0, none⟩ = some v := by
  obtain ⟨t, hb⟩ := hb
  exact (boxed_kept hb hg hr).cell
theorem ip_ret (tmps : Array Value) (W : World) (D s : Nat) (v0 : Value) (h2 : tmps.getD 2 undef = .pointer (some ⟨s, 0, none⟩)) (hr0 : Boxed W s 4 v0) (hK : W.heap[D]? = some (.deferred (some [])))
    (R : Ending → World → Prop) (hR : R (.returned v0) (W.putObj D (.deferred none))) : bodyPostM Fence.wide 3 Try.prog Try.f4 R .ret { tmps := tmps, defers := [{ target := .collected D, args := #[] }] } W := by
  refine ⟨by simp, .inl ⟨_, _, rfl, run_takeDeferred hK, ?_⟩⟩
  have hr : ∀ r, some D = some r → ∃ o : Obj, W.heap[r]? = some o ∧ o.isCells = false := fun r e => by cases e; exact ⟨_, hK, rfl⟩
  exact ⟨_, results_c1 Try.results4 _ _ s v0 h2 (boxed_kept hr0 (grownBy_putObj' _ D (.deferred none)) hr).cell, hR⟩
theorem PI.ended {w : World} {s : List UInt8} {xs : List (ByteArray × List UInt8)} {W : World} (h : PI w xs W) (hS : SAll s xs) (hs : s.length ≤ 100) : okP s := by
  refine ⟨hs, fun p hp => ?_⟩
  rw [← show _ = spl s from hS] at hp
  obtain ⟨x, hx, rfl⟩ := List.mem_map.1 hp
  exact h.ok x hx
theorem PX.ended {w : World} {s : List UInt8} {c : Code} {pre : List (ByteArray × List UInt8)} {W : World} (h : PX w c pre W) (hS : SPart s pre) : ¬ okP s := by
  obtain ⟨x, hx, hn⟩ := h.why
  obtain ⟨r, hr⟩ := hS
  exact fun hk => hn (hk.2 _ (by rw [← hr]; exact List.mem_append_left _ (List.mem_map.2 ⟨x, hx, rfl⟩)))
set_option maxRecDepth 100000 in
set_option maxHeartbeats 4000000 in
theorem isPath_any (hIs : ∀ (t : List UInt8) (W : World), Calls Try.prog 7 #[.string ⟨t.toArray⟩] W fun e W' => BIs (okE t) e ∧ Below W.heap.size W W')
    (s : List UInt8) (w : World) : Calls Try.prog 4 #[.string ⟨s.toArray⟩] w fun e w' => BIs (okP s) e ∧ Below w.heap.size w w' := by
  obtain ⟨S, HS⟩ : ∃ S : ByteArray, Hid (⟨s.toArray⟩ = S) := ⟨_, rfl⟩
  obtain ⟨N, HN⟩ : ∃ N, Hid (s.length = N) := ⟨_, rfl⟩
  have hsz : S.size = N := by rw [← HS.out, txt_len]; exact HN.out
  have HB0 : Hid (Below w.heap.size w (w.alloc (.cells #[.bool false] 4))) := (Below.refl _ w).alloc (Nat.le_refl _) _
  by_cases h100 : N ≤ 100
  rotate_left
  · have hi : (100 : Int) < (N : Int) := by omega
    have HO : Hid (¬ okP s) := fun h => h100 (by rw [← HN.out]; exact h.1)
    rw [HS.out]
    go_enter Try.func4, Try.ntmps4
    go_wp2
    refine bodyPost_ret (results_c1 Try.results4 _ _ w.heap.size (.bool false) rfl (by simp [go_sem])) rfl ⟨bis_false HO.out, ?_⟩
    first
      | exact HB0.out
      | exact HB0.out.setCell (Nat.le_refl _) _
  have hi : ¬ (100 : Int) < (N : Int) := by omega
  have HIS : Hid (∀ (t : List UInt8) (W : World), Calls Try.prog 7 #[.string ⟨t.toArray⟩] W fun e W' => BIs (okE t) e ∧ Below W.heap.size W W') := hIs
  have H100 : Hid (s.length ≤ 100) := hid (by rw [HN.out]; exact h100)
  rw [HS.out]
  refine (callsIn_wide (n := 3)).1 ?_
  refine callsIn_of_wp_marks Try.func4 rfl trivial ?_ rfl
  simp only [Try.ntmps4, List.size_toArray, List.length_cons, List.length_nil, Nat.reduceAdd, Nat.reduceSub, Array.replicate_succ, Array.replicate_zero, List.push_toArray, List.append_toArray, List.nil_append, List.cons_append]
  gi_wp2_with (refine ⟨trivial, ?_⟩; gi_at_call 6; refine (parts_in _ _ _).mono ?_; rintro ev w2 ⟨rfl, rfl⟩)
  have c0 := (Boxed.new w 4 (.bool false)).alloc (.cells #[.string S] 9)
  have c1 := Boxed.new (w.alloc (.cells #[.bool false] 4)) 9 (.string S)
  simp only [World.size_alloc] at c1 ⊢
  have hI0 : PI w [] ((w.alloc (.cells #[.bool false] 4)).alloc (.cells #[.string S] 9)) := ⟨c0, (fun x h => by cases h), (by simp), HB0.out.alloc (by simp) _⟩
  obtain ⟨WL, HWL⟩ : ∃ WL, Hid (((w.alloc (.cells #[.bool false] 4)).alloc (.cells #[.string S] 9)) = WL) := ⟨_, rfl⟩
  have hLs : WL.heap.size = w.heap.size + 2 := by rw [← HWL.out]; simp
  rw [HWL.out] at hI0 c1 ⊢
  refine wpIn_rangeFunc_ownG (F := Fence.wide) (n := 3) rfl (by omega) (gf := 9) (lb := #[.pointer (some ⟨w.heap.size + 1, 0, none⟩)]) rfl trivial (enters_of Try.func9 (by kernel_rfl) rfl)
    (parts_stops 2 (by omega) s H100.out WL (w.heap.size + 1) (by omega) (by rw [HS.out]; exact c1.cell))
    kc_t (kc_b (by omega)) (Below.refl _ _) (fun _ => rfl) (PI w) (PX w) (PI.own w _ (by omega)) (PX.own w _ (by omega)) hI0
    (fun x => { tmps := #[.string S, undef, .pointer (some ⟨w.heap.size, 0, none⟩), undef, .string ⟨x.2.toArray⟩, .string S, .int .i64 N, .bool false, .string S, .func (.func 9) #[] #[.pointer (some ⟨w.heap.size + 1, 0, none⟩)], .string x.1, .string ⟨x.2.toArray⟩, undef, undef, undef], defers := [] }) ?assign ?body ?done ?stop
  case assign =>
    intro l x W K hK
    dsimp only [encP]
    gi_wp2
    exact hK
  case body =>
    rintro l pre x W hI hlt
    have HI : Hid (PI w pre W) := hI
    obtain ⟨T, HT⟩ : ∃ T : ByteArray, Hid (⟨x.2.toArray⟩ = T) := ⟨_, rfl⟩
    have C7 : Hid (Calls Try.prog 7 #[.string T] W fun e W' => BIs (okE x.2) e ∧ Below W.heap.size W W') := hid (by rw [← HT.out]; exact HIS.out x.2 W)
    rw [HT.out]
    clear hI
    gi_wp2_with fail
    refine ⟨trivial, ?_⟩
    refine (CallsIn.inRound l (callsIn_wide.2 C7.out)).mono ?_
    rintro ev w1 ⟨hbi, hb1⟩
    have hlW := HI.out.lt
    have HB1 : Hid (Below w.heap.size w w1) := HI.out.b1.trans (hb1.mono (by omega))
    have HR1 : Hid (Boxed w1 w.heap.size 4 (.bool false)) := (hb1.block _ (by omega)).trans HI.out.r0
    have HKC : Hid (Kc (w.heap.size + 1) W w1) := hb1.block _ hlW
    have HKF : Hid (∀ B, KeepsFrom B W w1) := fun B => keeps_below hb1
    have hl1 : w.heap.size + 1 < w1.heap.size := Nat.lt_of_lt_of_le hlW hb1.size
    clear hb1
    rcases bis_or hbi with ⟨hy, rfl⟩ | ⟨hn, rfl⟩
    · have HY : Hid (okE x.2) := hy
      clear hy hbi
      gi_wp2
      exact ⟨HKF.out _, HKC.out, HR1.out, fun y hy => (List.mem_append.1 hy).elim (HI.out.ok y) (fun h1 => by simp at h1; rw [h1]; exact HY.out), hl1, HB1.out⟩
    · have HY : Hid (¬ okE x.2) := hn
      have k0 := HR1.out.cell
      have f0 := HR1.out.frozen
      clear hn hbi
      gi_wp2
      exact ⟨(HKF.out _).trans ((KeepsOthers.setCell _ _ _).from _), rfl, ⟨x, by simp, HY.out⟩, HR1.out.set _, HB1.out.setCell (Nat.le_refl _) _⟩
  case done =>
    rintro D xs W hD hS hI hK
    have HE : Hid (okP s) := hI.ended hS H100.out
    have k0 := hI.r0.cell
    have f0 := hI.r0.frozen
    have HK : Hid _ := hK
    have HI : Hid (PI w xs W) := hI
    clear hI hS
    gi_wp2
    have hK2 := (KeepsOthers.setCell W ⟨w.heap.size, 0, none⟩ (.bool true)).same D _ HK.out rfl
    refine ip_ret _ _ D w.heap.size _ rfl (HI.out.r0.set _) hK2 _ ?_
    exact ⟨bis_true HE.out, (HI.out.b1.setCell (Nat.le_refl _) _).trans (belowK_b (w := w) (Nat.le_refl _) _ D _ _ (by omega) hK2 rfl rfl)⟩
  case stop =>
    rintro D c pre W hD hS hX hK
    have HE : Hid (¬ okP s) := hX.ended hS
    obtain ⟨rfl, _, hr0, hb1⟩ := hX
    have HK : Hid _ := hK
    gi_wp2
    refine ip_ret _ _ D w.heap.size _ rfl hr0 HK.out _ ?_
    exact ⟨bis_false HE.out, hb1.trans (belowK_b (w := w) (Nat.le_refl _) _ D _ _ (by omega) HK.out rfl rfl)⟩
end Go.Proofs.Ytemgmbcmppngmaa
