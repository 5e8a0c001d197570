/- THE LAW 'DigestParts': its row. -/
import Derived.Test.YtlkfanlodoiacaaPartsB
import Derived.Test.YtlkfanlodoiacaaRows
import Derived.WalkKit
import Derived.ProofKit
import Derived.OpenShut
import Derived.Below
import Derived.Deep.DeepHandedRow
import Derived.LaidLaws
namespace Go.Proofs.Ytlkfanlodoiacaa.PartsRow
open Go.ChangeShapes Go.WideShapes Go.ChangeAt Go.RowKit

theorem own : ownKnob Try.prog.godebug = none := by kernel_rfl
theorem laidOut : laidOutB Try.prog = true := by kernel_rfl
theorem cells22 : Try.prog.cellsOf 22 = 1 := by kernel_rfl
theorem bytes5 : Try.prog.bytesOf 5 = 1 := by kernel_rfl
theorem cell_lt {w : World} {a : Addr} {v : Value} (h : w.cell? a = some v) : a.block < w.heap.size := by
  rcases Nat.lt_or_ge a.block w.heap.size with h' | h'
  · exact h'
  · simp [World.cell?, Array.getElem?_eq_none h'] at h
theorem addr_add_zero (a : Addr) : a.add 0 = a := by unfold Addr.add; split <;> simp_all
theorem mem_all {H : Type} {P : Program} {e : TypeId} {d : DataW H} {n : Nat} : ∀ {l : List (DataW H)}, d ∈ l → n ∈ d.weights P e → n ∈ DataW.weightsAll P e l
  | x :: r, h, hn => by
    rw [DataW.weightsAll, List.mem_append]
    rcases List.mem_cons.1 h with rfl | h
    · exact .inl hn
    · exact .inr (mem_all h hn)
theorem lits_len {H : Type} (k : IntKind) (l : List Int) : (lits (H := H) k l).length = l.length := by simp [lits]

/-- What is known of part j. -/
def One (W : World) (v : Value) (t : Option Addr × Nat × List Int) : Prop :=
  v = .slice t.1 t.2.2.length t.2.1 ∧ IsB t.2.2 ∧ (0 < t.2.2.length → ∃ b off, t.1 = some ⟨b, off, none⟩ ∧ b < W.heap.size ∧ At W b off t.2.2 ∧ t.2.2.length ≤ t.2.1) ∧ (t.1 = none → t.2.1 = 0)
theorem open_one {H : Type} {enc : TypeId × Value → H} {W : World} {m : Nat} {v : Value} {y : DataW H × List MemPlace} (h : DataW.trod enc Try.prog W 0 (fun _ => true) true m 22 [v] = some y) :
    ∃ t, One W v t ∧ (t.2.2.length = 0 ∨ ∃ n, n ∈ y.1.weights Try.prog 22 ∧ t.2.2.length ≤ n) := by
  rcases open_ints Try.underlying22 Try.underlying5 (by kernel_rfl) h with ⟨hcs, _⟩ | ⟨x, l, c, zs, hcs, _, hl, hm, hz, hy, hcell, hwz⟩
  · simp only [List.cons.injEq, and_true] at hcs
    subst hcs
    exact ⟨(none, 0, []), ⟨rfl, (fun x hx => by cases hx), (fun h => absurd h (Nat.lt_irrefl 0)), fun _ => rfl⟩, .inl rfl⟩
  · simp only [List.cons.injEq, and_true] at hcs
    subst hcs
    simp only [if_true] at hz
    have hlen : (zs.take l).length = l := by rw [List.length_take]; omega
    refine ⟨(some x, c, zs.take l), ⟨by rw [hlen], ?_, ?_, fun h => by cases h⟩, .inr ⟨c, ?_, by rw [hlen]; exact hl⟩⟩
    · intro n hn
      have := bounds_u8 (hwz n (List.mem_of_mem_take hn))
      omega
    · intro hpos
      rw [hlen] at hpos
      obtain ⟨b, off, spot⟩ := x
      have hc := hcell 0 (by omega)
      have hspot : spot = none := by simpa [Addr.add] using World.cell?_spot hc
      subst hspot
      refine ⟨b, off, rfl, cell_lt hc, fun i hi => ?_, by rw [hlen]; exact hl⟩
      rw [hlen] at hi
      have := hcell i (by omega)
      rw [addr_add] at this
      rw [this]
      simp [hi]
    · rw [hy]
      simp only [DataW.weights, Try.underlying22, lits_len, bytes5, List.mem_cons]
      left
      rw [List.length_take, List.length_drop]; omega

set_option maxHeartbeats 400000 in
theorem walk_long (a : Option Addr) (len cap : Nat) (w : World) (h : 1000 < len) (hm : len ≤ maxLen) :
    Calls Try.prog 4 #[.slice a len cap] w fun e w' => e = .returned (.bool true) ∧ Below w.heap.size w w' := by
  unfold maxLen at hm
  go_enter Try.func4, Try.ntmps4
  go_wp2
  go_ret
  exact ⟨rfl, Below.refl _ _⟩

set_option maxRecDepth 100000 in
theorem contract (H : Type) (enc : TypeId × Value → H) (W : World) (base : Nat) (args : Array Value) (ds gs : List (DataW H)) (before : List MemPlace)
    (hval : ∀ (j : Nat) t v, Try.f4.params[j]? = some t → args[j]? = some v → Value.okWide Try.prog W .any base t v)
    (hW : DataW.Whole enc Try.prog Try.f4.params.toList Rows.digestPartsSpec.vars false W args.toList ds gs before)
    (hsz : (DataW.weightsEach Try.prog (Try.f4.params.toList ++ (OpenSpec.ofChange Rows.digestPartsSpec).bare.plain.varTypes Try.prog) (ds ++ gs)).all (· ≤ reachBytes) = true) :
    Calls Try.prog 4 args W fun e W' => ∃ v, e = .returned v ∧ Rows.digestPartsSpec.post enc Try.prog Try.f4 false true false false W args v W' := by
  have hW' := hW
  obtain ⟨p, q, hA0, hV, rfl, hfz, hnd⟩ := hW
  have hA : DataW.TrodAll enc Try.prog W 0 (fun _ => true) true Try.f4.params.toList args.toList ds p := hA0
  rw [Try.params4] at hA hval hsz
  obtain ⟨v0, vs0, d0, ds0, p0, q0, hargs, rfl, rfl, h0, r0⟩ := trodAll_cons hA
  obtain ⟨rfl, rfl, rfl⟩ := trodAll_nil r0
  obtain rfl : args = #[v0] := by cases args; simp_all
  obtain ⟨rfl, rfl⟩ := trodVars_none hV
  obtain ⟨a0, len0, cap0, rfl⟩ := okWide_slice Try.underlying30 (hval 0 30 v0 rfl rfl)
  have k0 := h0
  have lt0 : ∀ x ∈ p0, x.block < W.heap.size := by obtain ⟨m, hm⟩ := k0; exact DataW.trod_lt m _ _ _ hm
  clear hA0
  have walk : Calls Try.prog 4 #[.slice a0 len0 cap0] W fun e w' => e = .returned (.bool true) ∧ Below W.heap.size W w' := by
    obtain ⟨fuel, hf⟩ := h0
    rcases DataW.trod_slice Try.underlying30 hf with ⟨hcs, _⟩ | ⟨x, l, c, elems, rest, n, _, hcs, hx, hb, hl, hm, hlen, hel, _, _⟩
    · simp [Value.cells] at hcs
      obtain ⟨rfl, rfl, rfl⟩ := hcs
      exact walkP none 0 0 0 0 (fun _ => none) (fun _ => 0) (fun _ => []) W (by omega) ⟨fun j h => by omega, fun h => by omega, fun j h => by omega, fun j h => by omega, fun j h => by omega, fun j h => by omega⟩ (fun h => by omega)
    · simp [Value.cells] at hcs
      obtain ⟨rfl, rfl, rfl⟩ := hcs
      by_cases hlong : 1000 < len0
      · exact walk_long _ len0 cap0 W hlong (by omega)
      · have hd0 : d0 = .slice (elems.map (·.1)) (rest.map (·.1)) := congrArg Prod.fst hx
        have each : ∀ j, ∃ t : Option Addr × Nat × List Int, j < len0 → (W.cell? (x.add j) = some (.slice t.1 t.2.2.length t.2.1) ∧ One W (.slice t.1 t.2.2.length t.2.1) t ∧ t.2.2.length ≤ 140737488355328) := by
          intro j
          by_cases hj : j < len0
          · have h1 := hel j hj
            rw [cells22, Nat.mul_one] at h1
            have h2 : elems[j]? = some elems[j] := List.getElem?_eq_getElem (by omega)
            rw [h2, Option.bind_eq_some_iff] at h1
            obtain ⟨cs, hcs, htr⟩ := h1
            have hcs1 : ∃ v, cs = [v] ∧ W.cell? (x.add j) = some v := by
              simp only [World.cells?] at hcs
              split at hcs
              · cases hv : W.cell? (x.add j) with
                | none => simp [List.range_succ, addr_add_zero, hv] at hcs
                | some v =>
                  simp [List.range_succ, addr_add_zero, hv] at hcs
                  exact ⟨v, hcs.symm, rfl⟩
              · cases hcs
            obtain ⟨v, rfl, hv⟩ := hcs1
            obtain ⟨t, ht, hb⟩ := open_one htr
            have hvt := ht.1
            subst hvt
            refine ⟨t, fun _ => ⟨hv, ht, ?_⟩⟩
            rcases hb with h | ⟨m, hm1, hm2⟩
            · omega
            · have hmem : m ∈ DataW.weightsEach Try.prog ([30] ++ (OpenSpec.ofChange Rows.digestPartsSpec).bare.plain.varTypes Try.prog) ([d0] ++ []) := by
                rw [hd0]
                simp only [List.cons_append, List.nil_append, List.append_nil, DataW.weightsEach, List.mem_append]
                left
                simp only [DataW.weights, Try.underlying30, List.mem_cons, List.mem_append]
                right; left
                exact mem_all (d := elems[j].1) (List.mem_map.2 ⟨elems[j], List.getElem_mem _, rfl⟩) hm1
              have hle : m ≤ reachBytes := of_decide_eq_true (List.all_eq_true.1 hsz m hmem)
              unfold reachBytes at hle
              omega
          · exact ⟨(none, 0, []), fun h => absurd h hj⟩
        obtain ⟨f, hf'⟩ := Classical.axiomOfChoice each
        obtain ⟨pb, po, hx2⟩ : ∃ pb po, 0 < len0 → x = ⟨pb, po, none⟩ := by
          by_cases h : 0 < len0
          · obtain ⟨b, off, spot⟩ := x
            have hc := (hf' 0 h).1
            have hspot : spot = none := by simpa [Addr.add] using World.cell?_spot hc
            exact ⟨b, off, fun _ => by rw [hspot]⟩
          · exact ⟨0, 0, fun h' => absurd h' h⟩
        refine walkP (some x) pb po len0 cap0 (fun j => (f j).1) (fun j => (f j).2.1) (fun j => (f j).2.2) W (by omega) ⟨fun j h => ?_, fun h => ?_, fun j h => (hf' j h).2.1.2.1, fun j h => (hf' j h).2.1.2.2.1, fun j h => (hf' j h).2.1.2.2.2, fun j h => (hf' j h).2.2⟩ (fun h => by rw [hx2 h])
        · have := (hf' j h).1
          rw [hx2 (by omega), addr_add] at this
          exact this
        · have := (hf' 0 h).1
          rw [hx2 h] at this
          exact cell_lt this
  refine walk.mono fun e W' ⟨he, bel⟩ => ?_
  subst he
  exact ⟨_, rfl, _, _, _, [], _, [], hW', trodAll_mk1 (shut_bool Try.underlying4 _), (trodAll_cons_mk (Below.trod laidOut (by kernel_rfl) (of_decide_eq_true (by kernel_rfl)) k0 bel lt0) trodAll_mk0), rfl, bel.frame _, fun h => by cases h⟩

theorem laid_met (os : Os) : laidMetH Try.prog Rows.digestPartsRow.laid (((World.holding Try.prog os ⟨#[], #[], []⟩)).forCall (fun _ _ => 0) ⟨#[], #[.slice none 0 0], []⟩).memory := laidMet_nil _ _
theorem reads (os : Os) {H : Type} (enc : TypeId × Value → H) : ∃ places, DataW.whole enc Try.prog (((World.holding Try.prog os ⟨#[], #[], []⟩)).forCall (fun _ _ => 0) ⟨#[], #[.slice none 0 0], []⟩).memory Try.f4.params.toList Rows.digestPartsSpec.vars false #[Value.slice none 0 0].toList 8 = some ([.nil], [], places) :=
  ⟨[], by kernel_rfl⟩

set_option maxRecDepth 100000 in
theorem lifted (os : Os) (started : os.Started) (H : Type) (enc : TypeId × Value → H) (F : Stop.Interp) :
    ReturnsInHanded {} Try.checked os 4 .any ((OpenSpec.ofChange Rows.digestPartsSpec).preRow enc Try.prog Try.f4 Rows.digestPartsRow.domain false Rows.digestPartsRow.laid) (((OpenSpec.ofChange Rows.digestPartsSpec).at F).post enc Try.prog Try.f4 false true false false) := by
  obtain ⟨places, hx⟩ := reads os enc
  refine returnsInHanded_of_row (C := Try.checked) (s := OpenSpec.ofChange Rows.digestPartsSpec) own started (by kernel_rfl) Try.func4
    (witness_row_at (enc := enc) (C := Try.checked) false (World.holding Try.prog os ⟨#[], #[], []⟩) #[.slice none 0 0] rfl (by kernel_rfl) (by kernel_rfl) (by kernel_rfl)
      (OpenSpec.preRow_of_cond 8 hx (by kernel_rfl) (fun k hk => by cases hk) (by kernel_rfl) (laid_met os))) ?_
  intro W base args ds gs before hval hW _ _ hsz hL _ _
  exact contract H enc W base args ds gs before hval hW hsz
end Go.Proofs.Ytlkfanlodoiacaa.PartsRow
namespace Go.Proofs.Ytlkfanlodoiacaa
open Go.RowKit
theorem digestParts_holds : Rows.DigestPartsSaid :=
  OpenClaim.holds_of_cond 4 Try.f4 rfl rfl rfl rfl rfl rfl rfl ⟨rfl, rfl, rfl, rfl, rfl⟩ rfl rfl rfl rfl rfl (by kernel_rfl) Try.func4 (by kernel_rfl)
    (of_decide_eq_true (by kernel_rfl)) (by unfold Func.isWrapper; first | (rw [if_pos (by decide +kernel)]; kernel_rfl) | (rw [if_neg (by decide +kernel)]; exact ⟨rfl, rfl⟩))
    (fun os started H enc _ F => by rw [OpenClaim.pre_eq_preRow]; exact PartsRow.lifted os started H enc F)
#print axioms digestParts_holds
end Go.Proofs.Ytlkfanlodoiacaa
