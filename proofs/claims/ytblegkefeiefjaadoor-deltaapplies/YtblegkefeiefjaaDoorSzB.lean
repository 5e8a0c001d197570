/- The program's 'readSizes', 'Sizes'. -/
import Derived.Test.YtblegkefeiefjaaDoorSzA
namespace Go.Proofs.YtblegkefeiefjaaDoor
open Go.RowKit Plain
set_option linter.unusedVariables false
set_option linter.unusedSimpArgs false

theorem szGo_tail : ∀ (f i n : Nat) (b : List Int) (n' : Nat) (r : List Int), szGo f i n b = some (n', r) → ∃ k, r = b.drop k
  | 0, _, _, _, _, _, h => by simp [szGo] at h
  | f + 1, _, _, [], _, _, h => by simp [szGo] at h
  | f + 1, i, n, x :: t, n', r, h => by
    rw [szGo] at h
    split at h
    · split at h
      · simp only [Option.some.injEq, Prod.mk.injEq] at h
        exact ⟨1, by rw [← h.2]; rfl⟩
      · cases h
    · obtain ⟨k, hk⟩ := szGo_tail f _ _ t _ _ h
      exact ⟨k + 1, by rw [hk]; rfl⟩
theorem isB_drop {l : List Int} (h : IsB l) (k : Nat) : IsB (l.drop k) := fun x hx => h x (List.mem_of_mem_drop hx)
theorem sz_isB {b : List Int} {n : Nat} {r : List Int} (h : sz b = some (n, r)) (hb : IsB b) : IsB r ∧ r.length ≤ b.length := by
  obtain ⟨k, rfl⟩ := szGo_tail _ _ _ _ _ _ h
  exact ⟨isB_drop hb k, by simp⟩
theorem Sl.drewN {w : World} {a : Option Addr} {cap : Nat} {l : List Int} (h : Sl w a cap l) (q : Nat) : Sl (w.drewN q) a cap l := ⟨h.capl, h.at_, h.nil⟩
set_option maxRecDepth 20000 in
set_option maxHeartbeats 1000000 in
theorem readSize_nil (a : Option Addr) (cap : Nat) (w : World) : Calls Tryd.prog 23 #[.slice a 0 cap] w (PostZ w none) := by
  cases a with
  | none =>
    go_enter Tryd.func23, Tryd.ntmps23
    go_wp2_with fail
    go_loop [13] (fun i => i = .int .i64 0) (fun _ => 0)
    case atStart => rfl
    case round =>
      obtain rfl := hrel
      go_wp2_with fail
      exact bodyPost_ret (results_3 Tryd.results23 _ _ _ _ _ rfl rfl rfl) rfl ⟨rfl, 0, rfl⟩
  | some ad =>
    go_enter Tryd.func23, Tryd.ntmps23
    go_wp2_with fail
    go_loop [13] (fun i => i = .int .i64 0) (fun _ => 0)
    case atStart => rfl
    case round =>
      obtain rfl := hrel
      go_wp2_with fail
      exact bodyPost_ret (results_3 Tryd.results23 _ _ _ _ _ rfl rfl rfl) rfl ⟨rfl, 0, rfl⟩
theorem readSize_any (a : Option Addr) (cap : Nat) (bs : List Int) (w : World) (hz : IsB bs) (hl : bs.length ≤ 400000) (h : Sl w a cap bs) : Calls Tryd.prog 23 #[.slice a bs.length cap] w (PostZ w (sz bs)) := by
  by_cases h0 : bs.length = 0
  · obtain rfl : bs = [] := List.eq_nil_of_length_eq_zero h0
    exact readSize_nil a cap w
  · obtain ⟨b, off, rfl, hb, hat⟩ := h.at_ (by omega)
    exact readSize_some b off cap bs w hz hl (by omega) hat hb h.capl
theorem results_4 {fn : Func} {p q r s : Tmp} (h : fn.results = #[.tmp p, .tmp q, .tmp r, .tmp s]) (tmps : Array Value) (w : World) (x y z u : Value) (hp : tmps.getD p undef = x) (hq : tmps.getD q undef = y) (hr : tmps.getD r undef = z) (hs : tmps.getD s undef = u) :
    (results fn tmps).run Tryd.prog w = .ok (.tuple #[x, y, z, u]) w := by
  have hp' : tmps[p]?.getD undef = x := by simpa using hp
  have hq' : tmps[q]?.getD undef = y := by simpa using hq
  have hr' : tmps[r]?.getD undef = z := by simpa using hr
  have hs' : tmps[s]?.getD undef = u := by simpa using hs
  simp [results, h, hp', hq', hr', hs']
theorem Tryd.results15 : Tryd.f15.results = #[.tmp 2, .tmp 3, .tmp 4, .tmp 5] := by kernel_rfl
theorem Tryd.results8 : Tryd.f8.results = #[.tmp 2, .tmp 3, .tmp 4] := by kernel_rfl
def PostZ2 (w : World) (r : Option (Nat × Nat × List Int)) (ev : Ending) (w' : World) : Prop :=
  match r with
  | none => ev = .returned (.tuple #[.int .i64 0, .int .i64 0, .slice none 0 0, .iface 35 (.int .i64 30)]) ∧ ∃ q, w' = w.drewN q
  | some (n, m, l) => ∃ a cap q, ev = .returned (.tuple #[.int .i64 n, .int .i64 m, .slice a l.length cap, .nilIface]) ∧ w' = w.drewN q ∧ Sl w' a cap l ∧ n < 34359738368 ∧ m < 34359738368
theorem drewN2 (w : World) (a b : Nat) : (w.drewN a).drewN b = w.drewN (a + b) := by simp [World.drewN, Nat.add_assoc]
set_option maxRecDepth 20000 in
set_option maxHeartbeats 1000000 in
theorem readSizes_any (a : Option Addr) (cap : Nat) (bs : List Int) (w : World) (hz : IsB bs) (hl : bs.length ≤ 400000) (h : Sl w a cap bs) : Calls Tryd.prog 15 #[.slice a bs.length cap] w (PostZ2 w (szs bs)) := by
  have R1 := readSize_any a cap bs w hz hl h
  cases e1 : sz bs with
  | none =>
    have HS : Hid (szs bs = none) := by show _ = _; unfold szs; rw [e1]
    rw [HS.out]
    rw [e1] at R1
    go_enter Tryd.func15, Tryd.ntmps15
    go_wp2_with (go_at_call 23; refine R1.mono ?_; clear R1; rintro ev w1 ⟨rfl, q, rfl⟩)
    exact bodyPost_ret (results_4 Tryd.results15 _ _ _ _ _ _ rfl rfl rfl rfl) rfl ⟨rfl, q, rfl⟩
  | some nr =>
    obtain ⟨n, r⟩ := nr
    rw [e1] at R1
    obtain ⟨hrB, hrl⟩ := sz_isB e1 hz
    cases e2 : sz r with
    | none =>
      have HS : Hid (szs bs = none) := by show _ = _; unfold szs; rw [e1]; simp only; rw [e2]
      rw [HS.out]
      go_enter Tryd.func15, Tryd.ntmps15
      go_wp2_with (first | (go_at_call 23; refine R1.mono ?_; clear R1; rintro ev w1 ⟨a1, cap1, q, rfl, rfl, hS1, hn1⟩; have R2 := readSize_any a1 cap1 r _ hrB (by omega) hS1; rw [e2] at R2) | (go_at_call 23; refine R2.mono ?_; clear R2; rintro ev w2 ⟨rfl, q2, rfl⟩))
      exact bodyPost_ret (results_4 Tryd.results15 _ _ _ _ _ _ rfl rfl rfl rfl) rfl ⟨rfl, q + q2, rfl⟩
    | some nr2 =>
      obtain ⟨m, r2⟩ := nr2
      have HS : Hid (szs bs = some (n, m, r2)) := by show _ = _; unfold szs; rw [e1]; simp only; rw [e2]
      rw [HS.out]
      go_enter Tryd.func15, Tryd.ntmps15
      go_wp2_with (first | (go_at_call 23; refine R1.mono ?_; clear R1; rintro ev w1 ⟨a1, cap1, q, rfl, rfl, hS1, hn1⟩; have R2 := readSize_any a1 cap1 r _ hrB (by omega) hS1; rw [e2] at R2) | (go_at_call 23; refine R2.mono ?_; clear R2; rintro ev w2 ⟨a2, cap2, q2, rfl, rfl, hS2, hn2⟩; have HS2 : Hid _ := hS2))
      exact bodyPost_ret (results_4 Tryd.results15 _ _ _ _ _ _ rfl rfl rfl rfl) rfl ⟨a2, cap2, q + q2, rfl, rfl, by rw [← drewN2]; exact HS2.out, hn1, hn2⟩
def PostZ3 (w : World) (r : Option (Nat × Nat × List Int)) (ev : Ending) (w' : World) : Prop :=
  (∃ q, w' = w.drewN q) ∧ match r with
  | none => ev = .returned (.tuple #[.int .i64 0, .int .i64 0, .iface 35 (.int .i64 30)])
  | some (n, m, l) => ev = .returned (.tuple #[.int .i64 n, .int .i64 m, .nilIface])
set_option maxRecDepth 20000 in
set_option maxHeartbeats 1000000 in
theorem sizes_any (a : Option Addr) (cap : Nat) (bs : List Int) (w : World) (hz : IsB bs) (hl : bs.length ≤ 400000) (h : Sl w a cap bs) : Calls Tryd.prog 8 #[.slice a bs.length cap] w (PostZ3 w (szs bs)) := by
  have R1 := readSizes_any a cap bs w hz hl h
  cases e1 : szs bs with
  | none =>
    rw [e1] at R1
    go_enter Tryd.func8, Tryd.ntmps8
    go_wp2_with (go_at_call 15; refine R1.mono ?_; clear R1; rintro ev w1 ⟨rfl, q, rfl⟩)
    exact bodyPost_ret (results_3 Tryd.results8 _ _ _ _ _ rfl rfl rfl) rfl ⟨⟨q, rfl⟩, rfl⟩
  | some nr =>
    obtain ⟨n, m, r⟩ := nr
    rw [e1] at R1
    go_enter Tryd.func8, Tryd.ntmps8
    go_wp2_with (go_at_call 15; refine R1.mono ?_; clear R1; rintro ev w1 ⟨a1, cap1, q, rfl, rfl, hS1, hn1, hn2⟩)
    exact bodyPost_ret (results_3 Tryd.results8 _ _ _ _ _ rfl rfl rfl) rfl ⟨⟨q, rfl⟩, rfl⟩
end Go.Proofs.YtblegkefeiefjaaDoor
