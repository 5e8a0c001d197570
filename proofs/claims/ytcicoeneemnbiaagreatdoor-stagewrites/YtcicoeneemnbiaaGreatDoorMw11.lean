import Derived.Test.YtcicoeneemnbiaaGreatDoorMw10
import Derived.Great.BuildSlice
namespace Go.Proofs.YtcicoeneemnbiaaGreatDoor
open Go.RowKit
set_option linter.unusedVariables false
set_option linter.unusedSimpArgs false
theorem list20Y (l : Str) (h : l.length = 20) : ∃ a0 a1 a2 a3 a4 a5 a6 a7 a8 a9 a10 a11 a12 a13 a14 a15 a16 a17 a18 a19, l = [a0, a1, a2, a3, a4, a5, a6, a7, a8, a9, a10, a11, a12, a13, a14, a15, a16, a17, a18, a19] := by
  match l, h with
  | [a0, a1, a2, a3, a4, a5, a6, a7, a8, a9, a10, a11, a12, a13, a14, a15, a16, a17, a18, a19], _ => exact ⟨_, _, _, _, _, _, _, _, _, _, _, _, _, _, _, _, _, _, _, _, rfl⟩
theorem info32z : (Tryz.prog.info? 32).map (fun i => (i.zero, i.size, i.bytes)) = some (some (.agg (encY dY).toArray), 24, 64) := by kernel_rfl
set_option maxRecDepth 20000 in
theorem run_buildY (x : Ey) (h : x.id.length = 20) (w : World) : (Instr.buildSlice 22 1 #[(0, .agg (encY x).toArray)]).run Tryz.prog w = .ok (.slice (some ⟨w.heap.size, 0, none⟩) 1 1) (w.alloc (.cells (encY x).toArray 32)) := by
  obtain ⟨i, hq, hz, hs, _⟩ := info_parts info32z
  refine run_buildSlice w 22 32 1 _ (encY x).toArray i _ Tryz.underlying22 hq hz (by rw [hs]; decide) (by rw [hs]; decide) ?_
  rw [hs]
  obtain ⟨p, m, id, z, t⟩ := x
  obtain ⟨a0, a1, a2, a3, a4, a5, a6, a7, a8, a9, a10, a11, a12, a13, a14, a15, a16, a17, a18, a19, rfl⟩ := list20Y id h
  kernel_rfl
theorem px_oneY (w : World) (x : Ey) : PY (w.alloc (.cells (encY x).toArray 32)) (some ⟨w.heap.size, 0, none⟩) 1 [x] :=
  ⟨Nat.le_refl _, fun _ => ⟨w.heap.size, 0, rfl, by simp, fun i hi j v hv => by
    obtain rfl : i = 0 := by simpa using hi
    have := range_row (heap_alloc_new w (.cells (encY x).toArray 32)) j v hv
    simpa using this⟩, fun h => by cases h⟩
theorem wpList_bSY {P : Program} {ops : Array Oper} {rest : List Oper} {o : Oper} {a : Act} {w w' : World} {Q : Exit → Act → World → Prop} (hg : o.guard = none) (t len : Nat) (x : Operand) (ho : o.op = .buildSlice t len #[(0, x)]) (u v : Value) (hx : a.eval x = u)
    (hr : (Instr.buildSlice t len #[(0, u)]).run P w = .ok v w')
    (h : wpList P ops Q rest (a.put o.dst v) w') : wpList P ops Q (o :: rest) a w := by
  refine wpList_plain hg fun K hK => ?_
  unfold Oper.wp execOp
  simp [ho, hx, hr, Result.andThen]
  exact hK _ _ h
def nxt (t : Str) : Str := t.drop (min (entLen (rdE t).path.length) t.length)
theorem nxt_lt (t : Str) (h : 62 ≤ t.length) : (nxt t).length + 62 ≤ t.length := by
  unfold nxt
  rw [List.length_drop]
  have : 64 ≤ entLen (rdE t).path.length := by unfold entLen; omega
  omega
def rdL : Nat → Str → List Ey
  | 0, _ => []
  | k + 1, t => if 62 ≤ t.length then rdE t :: rdL k (nxt t) else []
theorem rdL_short (k : Nat) (t : Str) (h : t.length < 62) : rdL k t = [] := by
  cases k with
  | zero => rfl
  | succ k => unfold rdL; rw [if_neg (by omega)]
theorem rdL_fuel : ∀ (k m : Nat) (t : Str), t.length ≤ k → t.length ≤ m → rdL k t = rdL m t
  | 0, m, t, h, _ => by rw [rdL_short _ _ (by omega), rdL_short _ _ (by omega)]
  | k + 1, 0, t, _, h => by rw [rdL_short _ _ (by omega), rdL_short _ _ (by omega)]
  | k + 1, m + 1, t, h1, h2 => by
    by_cases h : 62 ≤ t.length
    · have := nxt_lt t h
      unfold rdL
      rw [if_pos h, if_pos h, rdL_fuel k m (nxt t) (by omega) (by omega)]
    · rw [rdL_short _ _ (by omega), rdL_short _ _ (by omega)]
theorem rdL_step (t : Str) (h : 62 ≤ t.length) : rdL t.length t = rdE t :: rdL (nxt t).length (nxt t) := by
  have h1 := nxt_lt t h
  obtain ⟨k, hk⟩ : ∃ k, t.length = k + 1 := ⟨t.length - 1, by omega⟩
  rw [hk]
  rw [show rdL (k + 1) t = if 62 ≤ t.length then rdE t :: rdL k (nxt t) else [] from rfl, if_pos h, rdL_fuel k (nxt t).length (nxt t) (by omega) (Nat.le_refl _)]
def readL (s : Str) : List Ey := if s.length < 32 then [] else rdL s.length ((s.drop 12).take (s.length - 20 - 12))
theorem rdE_id (t : Str) (h : 62 ≤ t.length) : (rdE t).id.length = 20 := by
  unfold rdE
  simp only [List.length_take, List.length_drop]
  omega
theorem rdE_path (t : Str) : (rdE t).path.length ≤ 4095 := by
  unfold rdE endE
  simp only [List.length_take, List.length_drop]
  omega
def PostRE (l : List Ey) (w : World) (e : Ending) (w' : World) : Prop := ∃ v, e = .returned v ∧ BY 32 w w' w.heap.size v l
set_option maxRecDepth 20000 in
set_option maxHeartbeats 2000000 in
theorem readEntries_any {w : World} (a : Option Addr) (cap : Nat) (s : Str) (hP : PB w a cap s) (hl : s.length ≤ 20000) : Calls Tryz.prog 41 #[.slice a s.length cap] w (PostRE (readL s) w) := by
  obtain ⟨n, HN⟩ : ∃ n, Hid (s.length = n) := ⟨_, rfl⟩
  have hn : n ≤ 20000 := by rw [← HN.out]; exact hl
  obtain ⟨G, HG⟩ : ∃ G, Hid (w.heap.size = G) := ⟨_, rfl⟩
  by_cases h32 : n < 32
  · have h32i : (n : Int) < 32 := by omega
    have HR : Hid (readL s = []) := hid (by unfold readL; rw [HN.out, if_pos h32])
    rw [HN.out, HR.out]
    clear hP hl
    go_enter Tryz.func41, Tryz.ntmps41
    go_wp2
    go_ret
    exact ⟨_, rfl, bx_nil _ _ _ (Nat.le_refl _)⟩
  · have h32i : ¬ (n : Int) < 32 := by omega
    obtain ⟨t0, HT0⟩ : ∃ t, Hid ((s.drop 12).take (n - 20 - 12) = t) := ⟨_, rfl⟩
    have ht0 : t0.length = n - 20 - 12 := by rw [← HT0.out, List.length_take, List.length_drop, HN.out]; omega
    have HR : Hid (readL s = rdL t0.length t0) := hid (by
      unfold readL
      rw [HN.out, if_neg h32, HT0.out]
      exact rdL_fuel _ _ _ (by omega) (Nat.le_refl _))
    obtain ⟨a0, HA0⟩ : ∃ a0, Hid (adX 1 a cap 12 = a0) := ⟨_, rfl⟩
    have hcap : n ≤ cap := by rw [← HN.out]; exact hP.capl
    have HP0 : Hid (PB w a0 (cap - 12) t0) := hid (by
      have := hP.mid 12 (n - 20) (by omega) (by rw [HN.out]; omega)
      rw [HA0.out, HT0.out] at this
      exact this)
    have hsl : (Instr.slice 23 (.slice a n cap) (some (.int .i64 12)) (some (.int .i64 ((n : Int) - 20))) none).run Tryz.prog w = .ok (.slice a0 (n - 20 - 12 : Nat) (cap - 12 : Nat)) w := by
      rw [← HA0.out]
      exact sl22 a n cap 12 (n - 20) _ (by omega) (by omega) (by omega) w
    obtain ⟨RL, HRL⟩ : ∃ RL, Hid (rdL t0.length t0 = RL) := ⟨_, rfl⟩
    obtain ⟨m0, HM0⟩ : ∃ m, Hid (t0.length = m) := ⟨_, rfl⟩
    have hm0 : n - 20 - 12 = m0 := by rw [← HM0.out, ht0]
    rw [hm0] at hsl
    have hm0' : m0 ≤ 20000 := by omega
    rw [HN.out, HR.out, HRL.out]
    clear hP hl ht0 hm0
    go_enter Tryz.func41, Tryz.ntmps41
    go_wp2
    go_loopg [3, 4] m0 (fun gg lv rv wr => ∃ (t : Str) (m : Nat) (ar : Option Addr) (cr : Nat) (L : List Ey), rv = .slice ar m cr ∧ gg = m ∧ m ≤ m0 ∧ Hid (t.length = m) ∧ Hid (PB w ar cr t) ∧ Hid (BY 32 w wr G lv L) ∧ Hid (L ++ rdL t.length t = RL) ∧ Hid (L.length * 62 + m ≤ m0))
    case atStart => exact ⟨t0, m0, a0, cap - 12, [], rfl, rfl, Nat.le_refl _, HM0, HP0, hid (bx_nil _ _ _ (by rw [HG.out]; exact Nat.le_refl _)), hid (by rw [List.nil_append]; exact HRL.out), hid (by simp)⟩
    case round =>
      obtain ⟨t, m, ar, cr, L, rfl, hk, hmm, HTL, HPT, HBY, HLL, HLB⟩ := hrel
      by_cases h62 : 62 ≤ m
      · have h62i : (62 : Int) ≤ (m : Int) := by omega
        have h62t : 62 ≤ t.length := by rw [HTL.out]; exact h62
        obtain ⟨x, HX⟩ : ∃ x, Hid (rdE t = x) := ⟨_, rfl⟩
        have HI : Hid (x.id.length = 20) := hid (by rw [← HX.out]; exact rdE_id t h62t)
        have HCY := hid (cy x HI.out)
        have C61 : Hid (Calls Tryz.prog 61 #[.slice ar m cr] wr fun ev w' => ev = .returned (.agg (encY x).toArray) ∧ Below wr.heap.size wr w') := hid (by
          rw [← HTL.out, ← HX.out]
          exact readEntry_any ar cr t (HPT.out.below (by rw [HG.out]; exact HBY.out.below)) h62t (by rw [HTL.out]; omega))
        obtain ⟨K, HK⟩ : ∃ K : Nat, Hid (entLen x.path.length = K) := ⟨_, rfl⟩
        have C31 : Hid (∀ W, Calls Tryz.prog 31 #[.agg (encY x).toArray] W fun ev w' => ev = .returned (.int .i64 (K : Int)) ∧ Below W.heap.size W w') := hid (fun W => by
          rw [← HK.out]
          exact entryBytes_any x HI.out (by rw [← HX.out]; have := rdE_path t; omega) W)
        obtain ⟨j, HJ⟩ : ∃ j, Hid (min K m = j) := ⟨_, rfl⟩
        have hjm : j ≤ m := by rw [← HJ.out]; omega
        obtain ⟨a2, HA2⟩ : ∃ a2, Hid (adX 1 ar cr j = a2) := ⟨_, rfl⟩
        have hsl2 : ∀ W, (Instr.slice 23 (.slice ar m cr) (some (.int .i64 (min (K : Int) (m : Int)))) none none).run Tryz.prog W = .ok (.slice a2 (m - j : Nat) (cr - j : Nat)) W := fun W => by
          rw [← HA2.out, show min (K : Int) (m : Int) = (j : Int) by rw [← HJ.out]; omega]
          exact sl22l ar m cr j hjm W
        clear h62t
        go_wp2_with fail
        refine C61.out.mono ?_
        rintro ev w1 ⟨rfl, hb1⟩
        have HB1 := hid hb1
        clear hb1
        obtain ⟨W1, HW1⟩ : ∃ W1, Hid (w1.alloc (.cells (encY x).toArray 32) = W1) := ⟨_, rfl⟩
        obtain ⟨W2, HW2⟩ : ∃ W2, Hid (W1.alloc (.cells (encY x).toArray 32) = W2) := ⟨_, rfl⟩
        have HBW1 : Hid (Below wr.heap.size wr W1) := hid (by rw [← HW1.out]; exact HB1.out.alloc HB1.out.size _)
        have HBW2 : Hid (Below wr.heap.size wr W2) := hid (by rw [← HW2.out]; exact HBW1.out.alloc HBW1.out.size _)
        have HRow1 : Hid (W1.rangeAt w1.heap.size 0 (encY x)) := hid (by rw [← HW1.out]; exact range_row (heap_alloc_new w1 _))
        have HBS : Hid ((Instr.buildSlice 22 1 #[(0, .agg (encY x).toArray)]).run Tryz.prog W1 = .ok (.slice (some ⟨W1.heap.size, 0, none⟩) 1 1) W2) := hid (by rw [← HW2.out]; exact run_buildY x HI.out W1)
        have HP1 : Hid (PY W2 (some ⟨W1.heap.size, 0, none⟩) 1 [x]) := hid (by rw [← HW2.out]; exact px_oneY W1 x)
        have HBY2 := hid (HBY.out.carry HBW2.out)
        have HONE : Hid (∀ y ∈ [x], (encY y).length = 24) := hid (fun y hy => by rw [List.mem_singleton.1 hy]; exact encY_len x HI.out)
        have HSUM : Hid (L.length + [x].length ≤ 30000) := hid (by have := HLB.out; simp; omega)
        have hlt1 : w1.heap.size < W1.heap.size := by rw [← HW1.out]; simp
        have hlt2 : W1.heap.size < W2.heap.size := by rw [← HW2.out]; simp
        have HRW : Hid (∀ W8, W2.grownBy W8 u3.ownBlock → W8.rangeAt w1.heap.size 0 (encY x)) := hid (fun W8 hg q v hv => by
          have hblk : W8.heap[w1.heap.size]? = W2.heap[w1.heap.size]? := hg.block _ (by omega) (fun e => by
            have h1 := (own_lt HBY.out.own _ (by first | exact e | exact e.symm)).2
            have h2 := HB1.out.size
            omega)
          rw [World.cell?_of_block (a := ⟨w1.heap.size, 0 + q, none⟩) hblk, ← HW2.out, World.cell?_of_block (a := ⟨w1.heap.size, 0 + q, none⟩) (Below.heap_alloc W1 _ _ hlt1)]
          exact HRow1.out q v hv)
        have al : w1.alloc (.cells (encY x).toArray 32) = W1 := HW1.out
        go_wp2_with (first
          | (refine wpList_store_new rfl 32 _ _ rfl _ (encY x).toArray rfl rfl (by rw [HCY.out.size]; exact info32) (by rw [HCY.out.size]; rfl) HCY.out.one ?_)
          | (refine wpList_load_mid rfl 32 _ rfl w1.heap.size 0 rfl (encY x) _ HRow1.out Tryz.underlying32 rfl (by rw [encY_len x HI.out]; exact info32) ?_)
          | (refine wpList_load_mid rfl 32 _ rfl w1.heap.size 0 rfl (encY x) _ HRow8.out Tryz.underlying32 rfl (by rw [encY_len x HI.out]; exact info32) ?_)
          | (refine wpList_bSY rfl 22 1 _ rfl (.agg (encY x).toArray) _ rfl HBS.out ?_)
          | (refine wpList_bx_sl (d := dY) rfl _ _ 22 32 Tryz.underlying22 info32z (by kernel_rfl) (by decide) (by decide) encY_one rfl G u3 L rfl HBY2.out (some ⟨W1.heap.size, 0, none⟩) 1 [x] rfl HP1.out HONE.out HSUM.out ?_; intro v8 w8 hb8 hg8; have HRow8 := hid (HRW.out w8 hg8)))
        refine (C31.out w8).mono ?_
        rintro ev w9 ⟨rfl, hb9⟩
        have HBYn : Hid (BY 32 w w9 G v8 (L ++ [x])) := hid (hb8.carry hb9)
        have HPn : Hid (PB w a2 (cr - j) (nxt t)) := hid (by
          have k3 := HPT.out.from j (by rw [HTL.out]; exact hjm)
          rw [HA2.out] at k3
          unfold nxt
          rw [HX.out, HK.out, HTL.out, HJ.out]
          exact k3)
        have HLn : Hid ((nxt t).length = m - j) := hid (by unfold nxt; rw [List.length_drop, HX.out, HK.out, HTL.out, HJ.out])
        have hK64 : 64 ≤ K := by rw [← HK.out]; unfold entLen; omega
        have hj62 : 62 ≤ j := by rw [← HJ.out]; omega
        clear hb8 hg8 hb9
        go_wp2
        go_roundg (m - j)
        case measure => omega
        case rel => exact ⟨nxt t, m - j, a2, cr - j, L ++ [x], rfl, rfl, by omega, HLn, HPn, HBYn, hid (by
          have := HLL.out
          rw [rdL_step t (by rw [HTL.out]; exact h62), HX.out] at this
          rw [List.append_assoc]
          exact this), hid (by have := HLB.out; rw [List.length_append, List.length_singleton]; omega)⟩
      · have h62i : ¬ (62 : Int) ≤ (m : Int) := by omega
        have HE : Hid (L = RL) := hid (by
          have := HLL.out
          rw [rdL_short _ _ (by rw [HTL.out]; omega), List.append_nil] at this
          exact this)
        go_wp2
        go_ret
        exact ⟨_, rfl, by rw [HG.out, ← HE.out]; exact HBY.out⟩
end Go.Proofs.YtcicoeneemnbiaaGreatDoor
namespace Go.Proofs.YtcicoeneemnbiaaGreatDoor
open Go.RowKit
set_option linter.unusedVariables false
set_option linter.unusedSimpArgs false
set_option maxRecDepth 20000 in
set_option maxHeartbeats 2000000 in
theorem value_any {w : World} (a : Option Addr) (cap : Nat) (s : Str) (hP : PB w a cap s) (h4 : s.length ≤ 4) : Calls Tryz.prog 43 #[.slice a s.length cap] w fun e w' => e = .returned (.int .i64 ((bn s : Nat) : Int)) ∧ w' = w := by
  obtain ⟨n, HN⟩ : ∃ n, Hid (s.length = n) := ⟨_, rfl⟩
  have HC : Hid (∀ i, i < n → ∃ b off, a = some ⟨b, off, none⟩ ∧ w.cell? ⟨b, off + i, none⟩ = some (.int .u8 ((s.getD i 0).toNat : Int))) := hid (fun i hi => by
    obtain ⟨b, off, rfl, _⟩ := hP.at_ (by rw [HN.out]; omega)
    exact ⟨b, off, rfl, PB.cell hP i (by rw [HN.out]; exact hi)⟩)
  have h4' : n ≤ 4 := by rw [← HN.out]; exact h4
  rw [HN.out]
  clear hP h4
  go_enter Tryz.func43, Tryz.ntmps43
  go_wp2_with fail
  go_loopg [3, 4] n (fun gg nv iv wr => ∃ i : Nat, iv = .int .i64 i ∧ nv = .int .i64 ((bn (s.take i) : Nat) : Int) ∧ i ≤ n ∧ gg = n - i ∧ wr = w)
  case atStart => exact ⟨0, rfl, rfl, Nat.zero_le _, rfl, rfl⟩
  case round =>
    obtain ⟨i, rfl, rfl, hi, hk, rfl⟩ := hrel
    by_cases hlt : i < n
    · have hlti : (i : Int) < (n : Int) := by omega
      obtain ⟨b, off, rfl, hc⟩ := HC.out i hlt
      obtain ⟨x, HX⟩ : ∃ x, Hid (s.getD i 0 = x) := ⟨_, rfl⟩
      rw [HX.out] at hc
      have hx := x.toNat_lt
      have HT : Hid (bn (s.take (i + 1)) = bn (s.take i) * 256 + x.toNat) := hid (by rw [take_snocG 0 s i (by rw [HN.out]; omega), bn_snoc, HX.out])
      have hb : bn (s.take i) < 16777216 := by
        have h1 := bn_lt' (s.take i)
        have h2 : (s.take i).length ≤ 3 := by rw [List.length_take]; omega
        have h3 : 256 ^ (s.take i).length ≤ 256 ^ 3 := Nat.pow_le_pow_right (by omega) h2
        omega
      obtain ⟨m, HM⟩ : ∃ m, Hid (bn (s.take i) = m) := ⟨_, rfl⟩
      rw [HM.out] at HT hb ⊢
      go_wp2
      go_roundg (n - (i + 1))
      case measure => omega
      case rel => exact ⟨i + 1, by go_num, by rw [HT.out]; congr 1, by omega, rfl, rfl⟩
    · have hlti : ¬ (i : Int) < (n : Int) := by omega
      have HE : Hid (s.take i = s) := hid (List.take_of_length_le (by rw [HN.out]; omega))
      rw [HE.out]
      go_wp2
      go_ret
      exact ⟨rfl, rfl⟩
end Go.Proofs.YtcicoeneemnbiaaGreatDoor
namespace Go.Proofs.YtcicoeneemnbiaaGreatDoor
open Go.RowKit
set_option linter.unusedVariables false
set_option linter.unusedSimpArgs false
theorem run_byte (x : UInt8) (V : Int) (hV : V = (x.toNat : Int)) (w : World) : (Instr.buildSlice 23 1 #[(0, .int .u8 V)]).run Tryz.prog w = .ok (.slice (some ⟨w.heap.size, 0, none⟩) 1 1) (w.alloc (.cells #[.int .u8 (x.toNat : Int)] 5)) := by
  subst hV
  obtain ⟨i, hq, hz, hs, _⟩ := info_parts Tryz.info5
  refine run_buildSlice w 23 5 1 _ #[.int .u8 (x.toNat : Int)] i _ Tryz.underlying23 hq hz (by rw [hs]; decide) (by rw [hs]; decide) ?_
  rw [hs]
  kernel_rfl
theorem pb_byte (x : UInt8) (w : World) : PB (w.alloc (.cells #[.int .u8 (x.toNat : Int)] 5)) (some ⟨w.heap.size, 0, none⟩) 1 [x] :=
  ⟨by simp, fun _ => ⟨w.heap.size, 0, rfl, by simp, fun i hi => by
    obtain rfl : i = 0 := by simp at hi; omega
    have := range_row (cs := [.int .u8 (x.toNat : Int)]) (heap_alloc_new w (.cells #[.int .u8 (x.toNat : Int)] 5))
    simpa [encB] using this⟩, fun h => by cases h⟩
theorem nb_snoc (k n : Nat) (d : Nat) (hd : d < k) : (nb k n).take (d + 1) = (nb k n).take d ++ [UInt8.ofNat (n / 256 ^ (k - 1 - d))] := by
  induction k generalizing d with
  | zero => omega
  | succ k ih =>
    cases d with
    | zero => simp [nb]
    | succ d =>
      have := ih d (by omega)
      simp only [nb, List.take_succ_cons, List.cons_append]
      rw [this, show k + 1 - 1 - (d + 1) = k - 1 - d by omega]
def PostNu (B : Nat) (s : Str) (w : World) (e : Ending) (w' : World) : Prop := ∃ v, e = .returned v ∧ w'.ownsRow B 5 1 v s.length (bv s) ∧ Below B w w' ∧ B ≤ w'.heap.size
set_option maxRecDepth 20000 in
set_option maxHeartbeats 2000000 in
theorem number_any' {w : World} {B : Nat} {v : Value} {s : Str} (h : w.ownsRow B 5 1 v s.length (bv s)) (hB : B ≤ w.heap.size) (hs : s.length ≤ 1000000) (n k : Nat) (hn : n < 4294967296) (hk : 1 ≤ k) (hk4 : k ≤ 4) : Calls Tryz.prog 16 #[v, .int .i64 (n : Int), .int .i64 (k : Int)] w (PostNu B (s ++ nb k n) w) := by
  have H0 : Hid (w.ownsRow B 5 1 v s.length (bv s)) := h
  have HB : Hid (B ≤ w.heap.size) := hB
  have HS : Hid (s.length ≤ 1000000) := hs
  clear h hB hs
  go_enter Tryz.func16, Tryz.ntmps16
  go_wp2_with fail
  go_loopg [0, 7] k (fun gg lv iv wr => ∃ d : Nat, d ≤ k ∧ iv = .int .i64 ((k : Int) - 1 - d) ∧ gg = k - d ∧ Hid (wr.ownsRow B 5 1 lv (s ++ (nb k n).take d).length (bv (s ++ (nb k n).take d))) ∧ Hid (Below B w wr) ∧ Hid (B ≤ wr.heap.size))
  case atStart => exact ⟨0, Nat.zero_le _, by simp, rfl, hid (by simpa using H0.out), hid (Below.refl _ _), HB⟩
  case round =>
    obtain ⟨d, hd, rfl, hg, HO, HBW, HBs⟩ := hrel
    by_cases hlt : d < k
    · obtain ⟨i, HI⟩ : ∃ i : Nat, Hid (i = k - 1 - d) := ⟨_, rfl⟩
      have hie : (k : Int) - 1 - (d : Int) = (i : Int) := by rw [HI.out]; omega
      have hi3 : i ≤ 3 := by rw [HI.out]; omega
      have HSN : Hid (s ++ (nb k n).take (d + 1) = s ++ (nb k n).take d ++ [UInt8.ofNat (n / 256 ^ i)]) := hid (by rw [nb_snoc k n d hlt, ← HI.out, List.append_assoc])
      rw [hie]
      obtain ⟨S, HSS⟩ : ∃ S, Hid (s ++ (nb k n).take d = S) := ⟨_, rfl⟩
      rw [HSS.out] at HO HSN
      have HLen : Hid (S.length ≤ 1000004) := hid (by rw [← HSS.out, List.length_append, List.length_take]; have := HS.out; rw [nb_len]; omega)
      obtain ⟨y, HY⟩ : ∃ y, Hid (UInt8.ofNat (n / 256 ^ i) = y) := ⟨_, rfl⟩
      have hyv : ((y.toNat : Nat) : Int) = ((n / 256 ^ i % 256 : Nat) : Int) := by rw [← HY.out]; simp
      rw [HY.out] at HSN
      have HBL : Hid (∀ V : Int, V = ((n / 256 ^ i % 256 : Nat) : Int) → (Instr.buildSlice 23 1 #[(0, .int .u8 V)]).run Tryz.prog wr = .ok (.slice (some ⟨wr.heap.size, 0, none⟩) 1 1) (wr.alloc (.cells #[.int .u8 (y.toNat : Int)] 5))) := hid (fun V hV => run_byte y V (by rw [hV, hyv]) wr)
      have HP1 : Hid (PB (wr.alloc (.cells #[.int .u8 (y.toNat : Int)] 5)) (some ⟨wr.heap.size, 0, none⟩) 1 [y]) := hid (pb_byte y wr)
      have HO1 : Hid ((wr.alloc (.cells #[.int .u8 (y.toNat : Int)] 5)).ownsRow B 5 1 u0 S.length (bv S)) := hid (HO.out.alloc _)
      have hB1 : B ≤ (wr.alloc (.cells #[.int .u8 (y.toNat : Int)] 5)).heap.size := by rw [size_alloc]; have := HBs.out; omega
      have HBA : Hid (Below B w (wr.alloc (.cells #[.int .u8 (y.toNat : Int)] 5))) := hid (HBW.out.alloc HBs.out _)
      clear hyv
      rcases (show i = 0 ∨ i = 1 ∨ i = 2 ∨ i = 3 by omega) with rfl | rfl | rfl | rfl
      · have HBV : Hid ((Instr.buildSlice 23 1 #[(0, .int .u8 ((n : Int) % 256))]).run Tryz.prog wr = .ok (.slice (some ⟨wr.heap.size, 0, none⟩) 1 1) (wr.alloc (.cells #[.int .u8 (y.toNat : Int)] 5))) := hid (HBL.out _ (by simp; try omega))
        clear HBL
        go_wp2_with (first
          | (refine wpList_bSY rfl 23 1 _ rfl (.int .u8 ((n : Int) % 256)) _ rfl HBV.out ?_)
          | (refine wpList_own rfl _ _ rfl B u0 S rfl HO1.out hB1 (some ⟨wr.heap.size, 0, none⟩) 1 [y] rfl HP1.out (by have := HLen.out; simp; omega) ?_; intro v2 w2 ho2 hg2 hl2))
        have HOn : Hid (w2.ownsRow B 5 1 v2 (s ++ (nb k n).take (d + 1)).length (bv (s ++ (nb k n).take (d + 1)))) := hid (by rw [HSN.out]; exact ho2)
        have HBn : Hid (Below B w w2) := hid (HBA.out.grown hg2 hB1 (fun q hq => (own_lt HO1.out q hq).1))
        have HBz : Hid (B ≤ w2.heap.size) := hid (Nat.le_trans hB1 hg2.size)
        clear ho2 hg2 hl2
        go_wp2
        go_roundg (k - (d + 1))
        case measure => omega
        case rel => exact ⟨d + 1, by omega, by have := HI.out; first | (go_num; omega) | (congr 1; omega), rfl, HOn, HBn, HBz⟩
      · have HBV : Hid ((Instr.buildSlice 23 1 #[(0, .int .u8 ((n : Int) / 256 % 256))]).run Tryz.prog wr = .ok (.slice (some ⟨wr.heap.size, 0, none⟩) 1 1) (wr.alloc (.cells #[.int .u8 (y.toNat : Int)] 5))) := hid (HBL.out _ (by simp; try omega))
        clear HBL
        go_wp2_with (first
          | (refine wpList_bSY rfl 23 1 _ rfl (.int .u8 ((n : Int) / 256 % 256)) _ rfl HBV.out ?_)
          | (refine wpList_own rfl _ _ rfl B u0 S rfl HO1.out hB1 (some ⟨wr.heap.size, 0, none⟩) 1 [y] rfl HP1.out (by have := HLen.out; simp; omega) ?_; intro v2 w2 ho2 hg2 hl2))
        have HOn : Hid (w2.ownsRow B 5 1 v2 (s ++ (nb k n).take (d + 1)).length (bv (s ++ (nb k n).take (d + 1)))) := hid (by rw [HSN.out]; exact ho2)
        have HBn : Hid (Below B w w2) := hid (HBA.out.grown hg2 hB1 (fun q hq => (own_lt HO1.out q hq).1))
        have HBz : Hid (B ≤ w2.heap.size) := hid (Nat.le_trans hB1 hg2.size)
        clear ho2 hg2 hl2
        go_wp2
        go_roundg (k - (d + 1))
        case measure => omega
        case rel => exact ⟨d + 1, by omega, by have := HI.out; first | (go_num; omega) | (congr 1; omega), rfl, HOn, HBn, HBz⟩
      · have HBV : Hid ((Instr.buildSlice 23 1 #[(0, .int .u8 ((n : Int) / 65536 % 256))]).run Tryz.prog wr = .ok (.slice (some ⟨wr.heap.size, 0, none⟩) 1 1) (wr.alloc (.cells #[.int .u8 (y.toNat : Int)] 5))) := hid (HBL.out _ (by simp; try omega))
        clear HBL
        go_wp2_with (first
          | (refine wpList_bSY rfl 23 1 _ rfl (.int .u8 ((n : Int) / 65536 % 256)) _ rfl HBV.out ?_)
          | (refine wpList_own rfl _ _ rfl B u0 S rfl HO1.out hB1 (some ⟨wr.heap.size, 0, none⟩) 1 [y] rfl HP1.out (by have := HLen.out; simp; omega) ?_; intro v2 w2 ho2 hg2 hl2))
        have HOn : Hid (w2.ownsRow B 5 1 v2 (s ++ (nb k n).take (d + 1)).length (bv (s ++ (nb k n).take (d + 1)))) := hid (by rw [HSN.out]; exact ho2)
        have HBn : Hid (Below B w w2) := hid (HBA.out.grown hg2 hB1 (fun q hq => (own_lt HO1.out q hq).1))
        have HBz : Hid (B ≤ w2.heap.size) := hid (Nat.le_trans hB1 hg2.size)
        clear ho2 hg2 hl2
        go_wp2
        go_roundg (k - (d + 1))
        case measure => omega
        case rel => exact ⟨d + 1, by omega, by have := HI.out; first | (go_num; omega) | (congr 1; omega), rfl, HOn, HBn, HBz⟩
      · have HBV : Hid ((Instr.buildSlice 23 1 #[(0, .int .u8 ((n : Int) / 16777216))]).run Tryz.prog wr = .ok (.slice (some ⟨wr.heap.size, 0, none⟩) 1 1) (wr.alloc (.cells #[.int .u8 (y.toNat : Int)] 5))) := hid (HBL.out _ (by simp; try omega))
        clear HBL
        go_wp2_with (first
          | (refine wpList_bSY rfl 23 1 _ rfl (.int .u8 ((n : Int) / 16777216)) _ rfl HBV.out ?_)
          | (refine wpList_own rfl _ _ rfl B u0 S rfl HO1.out hB1 (some ⟨wr.heap.size, 0, none⟩) 1 [y] rfl HP1.out (by have := HLen.out; simp; omega) ?_; intro v2 w2 ho2 hg2 hl2))
        have HOn : Hid (w2.ownsRow B 5 1 v2 (s ++ (nb k n).take (d + 1)).length (bv (s ++ (nb k n).take (d + 1)))) := hid (by rw [HSN.out]; exact ho2)
        have HBn : Hid (Below B w w2) := hid (HBA.out.grown hg2 hB1 (fun q hq => (own_lt HO1.out q hq).1))
        have HBz : Hid (B ≤ w2.heap.size) := hid (Nat.le_trans hB1 hg2.size)
        clear ho2 hg2 hl2
        go_wp2
        go_roundg (k - (d + 1))
        case measure => omega
        case rel => exact ⟨d + 1, by omega, by have := HI.out; first | (go_num; omega) | (congr 1; omega), rfl, HOn, HBn, HBz⟩
    · have hdk : d = k := by omega
      subst hdk
      have HF : Hid ((nb d n).take d = nb d n) := hid (List.take_of_length_le (by rw [nb_len]; exact Nat.le_refl _))
      rw [HF.out] at HO
      go_wp2
      go_ret
      exact ⟨_, rfl, HO.out, HBW.out, HBs.out⟩
end Go.Proofs.YtcicoeneemnbiaaGreatDoor
namespace Go.Proofs.YtcicoeneemnbiaaGreatDoor
open Go.RowKit
set_option linter.unusedVariables false
set_option linter.unusedSimpArgs false
theorem info48z : (Tryz.prog.info? 48).map (fun i => (i.zero, i.size, i.bytes)) = some (some (.agg (encY dY).toArray), 24, 64) := by kernel_rfl
theorem und33 : Tryz.prog.underlying 33 = some (.slice 48) := by kernel_rfl
set_option maxRecDepth 20000 in
theorem run_build33 (x : Ey) (h : x.id.length = 20) (w : World) : (Instr.buildSlice 33 1 #[(0, .agg (encY x).toArray)]).run Tryz.prog w = .ok (.slice (some ⟨w.heap.size, 0, none⟩) 1 1) (w.alloc (.cells (encY x).toArray 48)) := by
  obtain ⟨i, hq, hz, hs, _⟩ := info_parts info48z
  refine run_buildSlice w 33 48 1 _ (encY x).toArray i _ und33 hq hz (by rw [hs]; decide) (by rw [hs]; decide) ?_
  rw [hs]
  obtain ⟨p, m, id, z, t⟩ := x
  obtain ⟨a0, a1, a2, a3, a4, a5, a6, a7, a8, a9, a10, a11, a12, a13, a14, a15, a16, a17, a18, a19, rfl⟩ := list20Y id h
  kernel_rfl
theorem px_oneT (w : World) (x : Ey) (t : TypeId) : PY (w.alloc (.cells (encY x).toArray t)) (some ⟨w.heap.size, 0, none⟩) 1 [x] :=
  ⟨Nat.le_refl _, fun _ => ⟨w.heap.size, 0, rfl, by simp, fun i hi j v hv => by
    obtain rfl : i = 0 := by simpa using hi
    have := range_row (heap_alloc_new w (.cells (encY x).toArray t)) j v hv
    simpa using this⟩, fun h => by cases h⟩
set_option maxRecDepth 20000 in
theorem built48 (x : Ey) (h : x.id.length = 20) : Tryz.prog.built 48 [(0, .string ⟨x.path.toArray⟩), (1, .int .i64 x.mode), (2, .agg (bv x.id).toArray), (3, .int .i64 x.size), (4, .int .i64 x.stage)] = some (encY x).toArray := by
  obtain ⟨p, m, id, z, t⟩ := x
  obtain ⟨a0, a1, a2, a3, a4, a5, a6, a7, a8, a9, a10, a11, a12, a13, a14, a15, a16, a17, a18, a19, rfl⟩ := list20Y id h
  kernel_rfl
theorem exec_built {P : Program} {o : Oper} {a : Act} {w : World} (t : TypeId) (parts : List (Nat × Operand)) (ho : o.op = .build t parts.toArray) (cells : Array Value) (hf : P.built t (parts.map fun (i, x) => (i, a.eval x)) = some cells) : (execOp a.eval o).run P w = .ok (.value (.agg cells)) w := by
  have hf' : P.built t (parts.toArray.map fun (i, x) => (i, a.eval x)).toList = some cells := by simpa using hf
  unfold execOp
  simp only [ho, Sem.run_bind, run_build w t _ cells hf', Result.andThen_ok]
  rfl
theorem exec_bS {P : Program} {o : Oper} {a : Act} {w w' : World} (t len : Nat) (x : Operand) (ho : o.op = .buildSlice t len #[(0, x)]) (u v : Value) (hx : a.eval x = u) (hr : (Instr.buildSlice t len #[(0, u)]).run P w = .ok v w') : (execOp a.eval o).run P w = .ok (.value v) w' := by
  unfold execOp
  simp [ho, hx, hr, Result.andThen]
theorem exec_one {w w0 : World} {o : Oper} {a : Act} (s x : Operand) (ho : o.op = .call { callee := .builtin .append, args := #[s, x], argTypes := #[33, 33] }) (B : Nat) (v : Value) (l : List Ey) (hs : a.eval s = v) (h : BY 48 w0 w B v l)
    (g : Nat) (y : Ey) (hx : a.eval x = .slice (some ⟨g, 0, none⟩) 1 1) (hP : PY w (some ⟨g, 0, none⟩) 1 [y]) (hy : y.id.length = 20) (hl : l.length + 1 ≤ 30000) :
    ∃ v' w', (execOp a.eval o).run Tryz.prog w = .ok (.value v') w' ∧ BY 48 w0 w' B v' (l ++ [y]) ∧ w.grownBy w' v.ownBlock := by
  obtain ⟨i, hi, hz0, hz1, hz2⟩ := info_parts info48z
  have hw : ∀ z ∈ [y], (encY z).length = 24 := fun z hz => by rw [List.mem_singleton.1 hz]; exact encY_len y hy
  obtain ⟨v', w', hr, h1, h2, _⟩ := run_append_own_at (P := Tryz.prog) w B 33 o.type 48 i _ 24 64 und33 hi hz0 hz1 hz2 rfl (by decide) v _ _ h.own ⟨g, 0, none⟩ 1 1 ([y].flatMap encY) (fX_len [y] hw) (hP.cells (by decide) hw) (fX_one [y] encY_one) (by unfold maxLen; omega) (by have h2 := Nat.mul_le_mul hl (Nat.le_refl 64); exact Nat.le_trans h2 (by decide)) h.le
  refine ⟨v', w', ?_, ⟨h.below.grown h2 h.le (fun k hk => (own_lt h.own k hk).1), ?_, Nat.le_trans h.le h2.size⟩, h2⟩
  · unfold execOp
    simp only [ho, resolve, invoke, builtin, Sem.run_bind, Sem.run_pure, Result.andThen_ok, List.map_toArray, List.map_cons, List.map_nil, hs, hx, hr]
  · rw [List.length_append, List.flatMap_append]
    exact h1
theorem step_one {w w0 : World} {ops : Array Oper} {o : Oper} {a : Act} {KK : Act → World → Prop} {Q : Exit → Act → World → Prop} {P : Prop} (hg : o.guard = none) (s x : Operand) (ho : o.op = .call { callee := .builtin .append, args := #[s, x], argTypes := #[33, 33] }) (B : Nat) (v : Value) (l : List Ey) (hs : a.eval s = v) (h : BY 48 w0 w B v l)
    (g : Nat) (y : Ey) (hx : a.eval x = .slice (some ⟨g, 0, none⟩) 1 1) (hP : PY w (some ⟨g, 0, none⟩) 1 [y]) (hy : y.id.length = 20) (hl : l.length + 1 ≤ 30000) (hK : ∀ v' w', BY 48 w0 w' B v' (l ++ [y]) → KK (a.put o.dst v') w') :
    if Region.wanted o (yielded ops a.tmps) = true then Oper.wp Tryz.prog o a w KK Q else P := by
  obtain ⟨v', w', hr, hb, _⟩ := exec_one s x ho B v l hs h g y hx hP hy hl
  exact step_exec hg v' hr (hK v' w' hb)
structure Q5 (b o : Nat) (x : Ey) (W : World) : Prop where
  c0 : W.cell? ⟨b, o, none⟩ = some (.string ⟨x.path.toArray⟩)
  c1 : W.cell? ⟨b, o + 1, none⟩ = some (.int .i64 x.mode)
  c22 : W.cell? ⟨b, o + 22, none⟩ = some (.int .i64 x.size)
  c23 : W.cell? ⟨b, o + 23, none⟩ = some (.int .i64 x.stage)
  id : W.rangeAt b (o + 2) (bv x.id)
theorem q5 {W : World} {b o : Nat} {x : Ey} (hx : x.id.length = 20) (h : W.rangeAt b o (encY x)) : Q5 b o x W := by
  obtain ⟨h0, h1, h2, h3⟩ := encY_at x hx
  refine ⟨h 0 _ h0, h 1 _ h1, h 22 _ h2, h 23 _ h3, fun j v hv => ?_⟩
  have hl := (List.getElem?_eq_some_iff.1 hv).1
  have := h (j + 2) v (by
    unfold encY
    rw [List.getElem?_cons_succ, List.getElem?_cons_succ, List.getElem?_append_left hl]
    exact hv)
  rw [show o + 2 + j = o + (j + 2) by omega]
  exact this
def PostTh (l : List Ey) (w : World) (e : Ending) (w' : World) : Prop := ∃ v, e = .returned v ∧ BY 48 w w' w.heap.size v l
set_option maxRecDepth 20000 in
set_option maxHeartbeats 4000000 in
theorem theirs_any {w : World} (a : Option Addr) (ca : Nat) (l : List Ey) (hP : PY w a ca l) (hw : WY l) (hl : l.length ≤ 10000) : Calls Tryz.prog 5 #[.slice a l.length ca] w (PostTh l w) := by
  obtain ⟨n, HN⟩ : ∃ n, Hid (l.length = n) := ⟨_, rfl⟩
  obtain ⟨g, HG⟩ : ∃ g, Hid (w.heap.size = g) := ⟨_, rfl⟩
  have hn : n ≤ 10000 := by rw [← HN.out]; exact hl
  have HPW : Hid (∀ W, Below g w W → PY W a ca l) := fun W hW => hP.below (by rw [HG.out]; exact hW)
  have HFA : Hid (0 < n → ∃ b off, a = some ⟨b, off, none⟩) := fun h0 => by
    obtain ⟨b, off, e1, _⟩ := hP.at_ (by rw [HN.out]; exact h0)
    exact ⟨b, off, e1⟩
  have HWY : Hid (WY l) := hw
  rw [HN.out]
  clear hP hw hl
  go_enter Tryz.func5, Tryz.ntmps5
  go_wp2_with fail
  go_loopg [3, 4] n (fun gg lv iv wr => ∃ i : Nat, iv = .int .i64 i ∧ i ≤ n ∧ gg = n - i ∧ Hid (BY 48 w wr g lv (l.take i)))
  case atStart => exact ⟨0, rfl, Nat.zero_le _, rfl, hid (bx_nil _ _ _ (by rw [HG.out]; exact Nat.le_refl _))⟩
  case round =>
    obtain ⟨i, rfl, hi, hk, HBY⟩ := hrel
    by_cases hlt : i < n
    · have hlti : (i : Int) < (n : Int) := by omega
      obtain ⟨b, off, hae⟩ := HFA.out (by omega)
      subst hae
      have hil : i < l.length := by rw [HN.out]; exact hlt
      obtain ⟨x, HX⟩ : ∃ x, Hid (l.getD i dY = x) := ⟨_, rfl⟩
      have HW : Hid (x.id.length = 20) := hid (by rw [← HX.out]; exact HWY.out _ (getD_mem l i dY hil))
      have HT : Hid (l.take (i + 1) = l.take i ++ [x]) := hid (by rw [← HX.out]; exact take_snocG dY l i hil)
      obtain ⟨o, HO⟩ : ∃ o, Hid (off + i * 24 = o) := ⟨_, rfl⟩
      have HQ : Hid (∀ W, Below g w W → Q5 b o x W) := hid (fun W hW => q5 HW.out (by rw [← HX.out, ← HO.out]; exact (HPW.out W hW).row i hil))
      have HBd : Hid (BY 48 w wr.drew g u3 (l.take i)) := hid (HBY.out.carry (Below.drewR (Below.refl _ _)))
      have HC := hid (built48 x HW.out)
      clear hil
      go_wp2_with fail
      refine wp_region_held_drew (S := Q5 b o x) (by kernel_rfl) (HQ.out _ HBd.out.below) (fun hHeld => ?_)
      generalize wr.drew = wd at hHeld HBd ⊢
      refine takeL (i := 0) (v := ?_) rfl (by kernel_rfl) (by kernel_rfl) (by kernel_rfl) (fun _ _ _ h => h) (Or.inl ⟨by rfl, ?_⟩) hHeld ?_
      rotate_left
      · rintro w' ⟨s0, s1, s2, s3, s4⟩; go_simp; rfl
      try simp only [Act.put, List.setIfInBounds_toArray, List.set_cons_zero, List.set_cons_succ]
      refine takeL (i := 1) (v := ?_) rfl (by kernel_rfl) (by kernel_rfl) (by kernel_rfl) (fun _ _ _ h => h) (Or.inl ⟨by rfl, ?_⟩) hHeld ?_
      rotate_left
      · rintro w' ⟨s0, s1, s2, s3, s4⟩; go_simp; rfl
      try simp only [Act.put, List.setIfInBounds_toArray, List.set_cons_zero, List.set_cons_succ]
      refine takeL (i := 2) (v := ?_) rfl (by kernel_rfl) (by kernel_rfl) (by kernel_rfl) (fun _ _ _ h => h) (Or.inl ⟨by rfl, ?_⟩) hHeld ?_
      rotate_left
      · rintro w' ⟨s0, s1, s2, s3, s4⟩; go_simp; rfl
      try simp only [Act.put, List.setIfInBounds_toArray, List.set_cons_zero, List.set_cons_succ]
      refine takeL (i := 3) (v := .pointer (some ⟨b, o, none⟩)) rfl (by kernel_rfl) (by kernel_rfl) (by kernel_rfl) (fun _ _ _ h => h) (Or.inl ⟨by rfl, ?_⟩) hHeld ?_
      · rintro w' ⟨s0, s1, s2, s3, s4⟩; rw [← HO.out]; go_simp; first | done | (rw [if_pos (by omega)]) | rfl
      try simp only [Act.put, List.setIfInBounds_toArray, List.set_cons_zero, List.set_cons_succ]
      refine takeL (i := 4) (v := .pointer (some ⟨b, o, none⟩)) rfl (by kernel_rfl) (by kernel_rfl) (by kernel_rfl) (fun _ _ _ h => h) (Or.inl ⟨by rfl, ?_⟩) hHeld ?_
      · rintro w' ⟨s0, s1, s2, s3, s4⟩; go_simp; try rfl
      try simp only [Act.put, List.setIfInBounds_toArray, List.set_cons_zero, List.set_cons_succ]
      refine takeL (i := 5) (v := ?_) rfl (by kernel_rfl) (by kernel_rfl) (by kernel_rfl) (fun _ _ _ h => h) (Or.inl ⟨by rfl, ?_⟩) hHeld ?_
      rotate_left
      · rintro w' ⟨s0, s1, s2, s3, s4⟩; go_simp; rfl
      try simp only [Act.put, List.setIfInBounds_toArray, List.set_cons_zero, List.set_cons_succ]
      refine takeL (i := 6) (v := ?_) rfl (by kernel_rfl) (by kernel_rfl) (by kernel_rfl) (fun _ _ _ h => h) (Or.inl ⟨by rfl, ?_⟩) hHeld ?_
      rotate_left
      · rintro w' ⟨s0, s1, s2, s3, s4⟩; go_simp; rfl
      try simp only [Act.put, List.setIfInBounds_toArray, List.set_cons_zero, List.set_cons_succ]
      refine takeL (i := 7) (v := ?_) rfl (by kernel_rfl) (by kernel_rfl) (by kernel_rfl) (fun _ _ _ h => h) (Or.inl ⟨by rfl, ?_⟩) hHeld ?_
      rotate_left
      · rintro w' ⟨s0, s1, s2, s3, s4⟩; go_simp; rfl
      try simp only [Act.put, List.setIfInBounds_toArray, List.set_cons_zero, List.set_cons_succ]
      refine takeL (i := 8) (v := .pointer (some ⟨b, o, none⟩)) rfl (by kernel_rfl) (by kernel_rfl) (by kernel_rfl) (fun _ _ _ h => h) (Or.inl ⟨by rfl, ?_⟩) hHeld ?_
      · rintro w' ⟨s0, s1, s2, s3, s4⟩; rw [← HO.out]; go_simp; first | done | (rw [if_pos (by omega)]) | rfl
      try simp only [Act.put, List.setIfInBounds_toArray, List.set_cons_zero, List.set_cons_succ]
      refine takeL (i := 9) (v := .pointer (some ⟨b, o + 1, none⟩)) rfl (by kernel_rfl) (by kernel_rfl) (by kernel_rfl) (fun _ _ _ h => h) (Or.inl ⟨by rfl, ?_⟩) hHeld ?_
      · rintro w' ⟨s0, s1, s2, s3, s4⟩; go_simp; try rfl
      try simp only [Act.put, List.setIfInBounds_toArray, List.set_cons_zero, List.set_cons_succ]
      refine takeL (i := 10) (v := ?_) rfl (by kernel_rfl) (by kernel_rfl) (by kernel_rfl) (fun _ _ _ h => h) (Or.inl ⟨by rfl, ?_⟩) hHeld ?_
      rotate_left
      · rintro w' ⟨s0, s1, s2, s3, s4⟩; go_simp; rfl
      try simp only [Act.put, List.setIfInBounds_toArray, List.set_cons_zero, List.set_cons_succ]
      refine takeL (i := 11) (v := ?_) rfl (by kernel_rfl) (by kernel_rfl) (by kernel_rfl) (fun _ _ _ h => h) (Or.inl ⟨by rfl, ?_⟩) hHeld ?_
      rotate_left
      · rintro w' ⟨s0, s1, s2, s3, s4⟩; go_simp; rfl
      try simp only [Act.put, List.setIfInBounds_toArray, List.set_cons_zero, List.set_cons_succ]
      refine takeL (i := 12) (v := ?_) rfl (by kernel_rfl) (by kernel_rfl) (by kernel_rfl) (fun _ _ _ h => h) (Or.inl ⟨by rfl, ?_⟩) hHeld ?_
      rotate_left
      · rintro w' ⟨s0, s1, s2, s3, s4⟩; go_simp; rfl
      try simp only [Act.put, List.setIfInBounds_toArray, List.set_cons_zero, List.set_cons_succ]
      refine takeL (i := 13) (v := .pointer (some ⟨b, o, none⟩)) rfl (by kernel_rfl) (by kernel_rfl) (by kernel_rfl) (fun _ _ _ h => h) (Or.inl ⟨by rfl, ?_⟩) hHeld ?_
      · rintro w' ⟨s0, s1, s2, s3, s4⟩; rw [← HO.out]; go_simp; first | done | (rw [if_pos (by omega)]) | rfl
      try simp only [Act.put, List.setIfInBounds_toArray, List.set_cons_zero, List.set_cons_succ]
      refine takeL (i := 14) (v := .pointer (some ⟨b, o + 2, none⟩)) rfl (by kernel_rfl) (by kernel_rfl) (by kernel_rfl) (fun _ _ _ h => h) (Or.inl ⟨by rfl, ?_⟩) hHeld ?_
      · rintro w' ⟨s0, s1, s2, s3, s4⟩; go_simp; try rfl
      try simp only [Act.put, List.setIfInBounds_toArray, List.set_cons_zero, List.set_cons_succ]
      refine takeL (i := 15) (v := .agg (bv x.id).toArray) rfl (by kernel_rfl) (by kernel_rfl) (by kernel_rfl) (fun _ _ _ h => h) (yieldsIf_load_mid (by rfl) 30 _ rfl b (o + 2) (by rfl) (bv x.id) _ (fun w' h => h.id) Tryz.underlying30 rfl (by rw [bv_len, HW.out]; kernel_rfl)) hHeld ?_
      try simp only [Act.put, List.setIfInBounds_toArray, List.set_cons_zero, List.set_cons_succ]
      refine takeL (i := 16) (v := ?_) rfl (by kernel_rfl) (by kernel_rfl) (by kernel_rfl) (fun _ _ _ h => h) (Or.inl ⟨by rfl, ?_⟩) hHeld ?_
      rotate_left
      · rintro w' ⟨s0, s1, s2, s3, s4⟩; go_simp; rfl
      try simp only [Act.put, List.setIfInBounds_toArray, List.set_cons_zero, List.set_cons_succ]
      refine takeL (i := 17) (v := ?_) rfl (by kernel_rfl) (by kernel_rfl) (by kernel_rfl) (fun _ _ _ h => h) (Or.inl ⟨by rfl, ?_⟩) hHeld ?_
      rotate_left
      · rintro w' ⟨s0, s1, s2, s3, s4⟩; go_simp; rfl
      try simp only [Act.put, List.setIfInBounds_toArray, List.set_cons_zero, List.set_cons_succ]
      refine takeL (i := 18) (v := .pointer (some ⟨b, o, none⟩)) rfl (by kernel_rfl) (by kernel_rfl) (by kernel_rfl) (fun _ _ _ h => h) (Or.inl ⟨by rfl, ?_⟩) hHeld ?_
      · rintro w' ⟨s0, s1, s2, s3, s4⟩; rw [← HO.out]; go_simp; first | done | (rw [if_pos (by omega)]) | rfl
      try simp only [Act.put, List.setIfInBounds_toArray, List.set_cons_zero, List.set_cons_succ]
      refine takeL (i := 19) (v := .pointer (some ⟨b, o + 22, none⟩)) rfl (by kernel_rfl) (by kernel_rfl) (by kernel_rfl) (fun _ _ _ h => h) (Or.inl ⟨by rfl, ?_⟩) hHeld ?_
      · rintro w' ⟨s0, s1, s2, s3, s4⟩; go_simp; try rfl
      try simp only [Act.put, List.setIfInBounds_toArray, List.set_cons_zero, List.set_cons_succ]
      refine takeL (i := 20) (v := ?_) rfl (by kernel_rfl) (by kernel_rfl) (by kernel_rfl) (fun _ _ _ h => h) (Or.inl ⟨by rfl, ?_⟩) hHeld ?_
      rotate_left
      · rintro w' ⟨s0, s1, s2, s3, s4⟩; go_simp; rfl
      try simp only [Act.put, List.setIfInBounds_toArray, List.set_cons_zero, List.set_cons_succ]
      refine takeL (i := 21) (v := ?_) rfl (by kernel_rfl) (by kernel_rfl) (by kernel_rfl) (fun _ _ _ h => h) (Or.inl ⟨by rfl, ?_⟩) hHeld ?_
      rotate_left
      · rintro w' ⟨s0, s1, s2, s3, s4⟩; go_simp; rfl
      try simp only [Act.put, List.setIfInBounds_toArray, List.set_cons_zero, List.set_cons_succ]
      refine takeL (i := 22) (v := ?_) rfl (by kernel_rfl) (by kernel_rfl) (by kernel_rfl) (fun _ _ _ h => h) (Or.inl ⟨by rfl, ?_⟩) hHeld ?_
      rotate_left
      · rintro w' ⟨s0, s1, s2, s3, s4⟩; go_simp; rfl
      try simp only [Act.put, List.setIfInBounds_toArray, List.set_cons_zero, List.set_cons_succ]
      refine takeL (i := 23) (v := .pointer (some ⟨b, o, none⟩)) rfl (by kernel_rfl) (by kernel_rfl) (by kernel_rfl) (fun _ _ _ h => h) (Or.inl ⟨by rfl, ?_⟩) hHeld ?_
      · rintro w' ⟨s0, s1, s2, s3, s4⟩; rw [← HO.out]; go_simp; first | done | (rw [if_pos (by omega)]) | rfl
      try simp only [Act.put, List.setIfInBounds_toArray, List.set_cons_zero, List.set_cons_succ]
      refine takeL (i := 24) (v := .pointer (some ⟨b, o + 23, none⟩)) rfl (by kernel_rfl) (by kernel_rfl) (by kernel_rfl) (fun _ _ _ h => h) (Or.inl ⟨by rfl, ?_⟩) hHeld ?_
      · rintro w' ⟨s0, s1, s2, s3, s4⟩; go_simp; try rfl
      try simp only [Act.put, List.setIfInBounds_toArray, List.set_cons_zero, List.set_cons_succ]
      refine takeL (i := 25) (v := ?_) rfl (by kernel_rfl) (by kernel_rfl) (by kernel_rfl) (fun _ _ _ h => h) (Or.inl ⟨by rfl, ?_⟩) hHeld ?_
      rotate_left
      · rintro w' ⟨s0, s1, s2, s3, s4⟩; go_simp; rfl
      try simp only [Act.put, List.setIfInBounds_toArray, List.set_cons_zero, List.set_cons_succ]
      refine takeL (i := 26) (v := .agg (encY x).toArray) rfl (by kernel_rfl) (by kernel_rfl) (by kernel_rfl) (fun _ _ _ h => h) (Or.inl ⟨by rfl, ?_⟩) hHeld ?_
      · rintro w' ⟨s0, s1, s2, s3, s4⟩; exact exec_built 48 [(0, .tmp 16), (1, .tmp 21), (2, .tmp 26), (3, .tmp 31), (4, .tmp 36)] rfl _ HC.out
      try simp only [Act.put, List.setIfInBounds_toArray, List.set_cons_zero, List.set_cons_succ]
      refine wpAnyH_ready (rs := [27]) (by kernel_rfl) (by simp) ?_
      refine consL rfl (fun KK hKK => ?_) AllReadyH.nil
      obtain ⟨W2, HW2⟩ : ∃ W2, Hid (wd.alloc (.cells (encY x).toArray 48) = W2) := ⟨_, rfl⟩
      have HBW : Hid (BY 48 w W2 g u3 (l.take i)) := hid (by rw [← HW2.out]; exact HBd.out.alloc _)
      have HP2 : Hid (PY W2 (some ⟨wd.heap.size, 0, none⟩) 1 [x]) := hid (by rw [← HW2.out]; exact px_oneT wd x 48)
      refine step_exec (by rfl) (.slice (some ⟨wd.heap.size, 0, none⟩) 1 1) (w' := W2) (exec_bS 33 1 (.tmp 37) (by rfl) (.agg (encY x).toArray) _ (by rfl) (by rw [← HW2.out]; exact run_build33 x HW.out wd)) ?_
      refine hKK.out _ _ (HQ.out _ HBW.out.below) (fun hHeld2 => ?_)
      clear hKK KK
      try simp only [Act.put, List.setIfInBounds_toArray, List.set_cons_zero, List.set_cons_succ]
      refine wpAnyH_ready (rs := [28]) (by kernel_rfl) (by simp) ?_
      refine consL rfl (fun KK hKK => ?_) AllReadyH.nil
      refine step_one (by rfl) (.tmp 11) (.tmp 38) (by rfl) g u3 (l.take i) (by rfl) HBW.out wd.heap.size x (by rfl) HP2.out HW.out (by rw [List.length_take]; omega) ?_
      intro v3 w3 hb3
      have HB3 := hid hb3
      refine hKK.out _ _ (HQ.out _ HB3.out.below) (fun hHeld3 => ?_)
      clear hKK KK hb3
      try simp only [Act.put, List.setIfInBounds_toArray, List.set_cons_zero, List.set_cons_succ]
      refine takeL (i := 29) (v := ?_) rfl (by kernel_rfl) (by kernel_rfl) (by kernel_rfl) (fun _ _ _ h => h) (Or.inl ⟨by rfl, ?_⟩) hHeld3 ?_
      rotate_left
      · rintro w' ⟨s0, s1, s2, s3, s4⟩; go_simp; rfl
      try simp only [Act.put, List.setIfInBounds_toArray, List.set_cons_zero, List.set_cons_succ]
      refine wpAnyH_done (by kernel_rfl) ?_ _
      clear hHeld hHeld2 hHeld3
      go_wp2
      go_roundg (n - (i + 1))
      case measure => omega
      case rel => exact ⟨i + 1, by go_num, by omega, rfl, hid (by rw [HT.out]; exact HB3.out)⟩
    · have hlti : ¬ (i : Int) < (n : Int) := by omega
      have HE : Hid (l.take i = l) := hid (List.take_of_length_le (by rw [HN.out]; omega))
      rw [HE.out] at HBY
      go_wp2
      go_ret
      exact ⟨_, rfl, by rw [HG.out]; exact HBY.out⟩
end Go.Proofs.YtcicoeneemnbiaaGreatDoor
