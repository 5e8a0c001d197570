/- 'places'. -/
import Derived.Test.YtakddciegnkpdaaMgE
import Derived.Test.YtakddciegnkpdaaEdY
namespace Go.Proofs.Ytakddciegnkpdaa
open Go.RowKit
set_option linter.unusedVariables false
set_option linter.unusedSimpArgs false
def oI : Option Nat → Int
  | none => -1
  | some k => (k : Int)
def encO (o : Option Nat) : List Value := [.int .i64 (oI o)]
abbrev PO (w : World) (a : Option Addr) (cap : Nat) (l : List (Option Nat)) : Prop := Px encO 1 none w a cap l
abbrev BO (w0 w : World) (B : Nat) (v : Value) (l : List (Option Nat)) : Prop := Bx encO 1 3 w0 w B v l
theorem encO_len (o : Option Nat) : (encO o).length = 1 := rfl
theorem encO_one (o : Option Nat) : ∀ v ∈ encO o, v.oneCell' = true := fun v hv => by rw [List.mem_singleton.1 hv]; rfl
theorem und43 : Try.prog.underlying 43 = some (.slice 3) := by kernel_rfl
theorem PO.cell {w : World} {b off cap : Nat} {s : List (Option Nat)} (h : PO w (some ⟨b, off, none⟩) cap s) (i : Nat) (hi : i < s.length) : w.cell? ⟨b, off + i, none⟩ = some (.int .i64 (oI (s.getD i none))) := by
  obtain ⟨b', off', e1, _, e3⟩ := h.at_ (by omega)
  cases e1
  have := e3 i hi 0 _ rfl
  simpa using this
theorem po_one (o : Option Nat) (w : World) : PO (w.alloc (.cells #[.int .i64 (oI o)] 3)) (some ⟨w.heap.size, 0, none⟩) 1 [o] :=
  ⟨by simp, fun _ => ⟨w.heap.size, 0, rfl, by simp, fun i hi => by
    obtain rfl : i = 0 := by simp at hi; omega
    have := range_row (cs := [.int .i64 (oI o)]) (heap_alloc_new w (.cells #[.int .i64 (oI o)] 3))
    simpa [encO] using this⟩, fun h => by cases h⟩
/-- One place more. -/
theorem app_o {w0 wr : World} {G m lc : Nat} {la : Option Addr} {L : List (Option Nat)} (hB : BO w0 wr G (.slice la m lc) L) (hLm : L.length = m) (hm : m ≤ 20000) (x : Option Nat) (z : Int) (hz : oI x = z)
    {ops : Array Oper} {rest : List Oper} {o : Oper} {ac : Act} {Q : Exit → Act → World → Prop} (hg : o.guard = none) (s y : Operand) (ho : o.op = .call { callee := .builtin .append, args := #[s, y], argTypes := #[43, 43] }) (hs : ac.eval s = .slice la m lc) (X : Nat) (hX : X = wr.heap.size) (hy : ac.eval y = .slice (some ⟨X, 0, none⟩) 1 1)
    (hK : ∀ a' c' w', Hid (BO w0 w' G (.slice a' (m + 1 : Nat) c') (L ++ [x])) → Hid ((wr.alloc (.cells #[.int .i64 z] 3)).grownBy w' (Value.slice la m lc).ownBlock) → wpList Try.prog ops Q rest (ac.put o.dst (.slice a' (m + 1 : Nat) c')) w') : wpList Try.prog ops Q (o :: rest) ac (wr.alloc (.cells #[.int .i64 z] 3)) := by
  subst hz
  subst hX
  refine wpList_bx_sl hg s y 43 3 und43 Try.info3 rfl (by decide) (by decide) encO_one ho G (.slice la m lc) L hs (hB.alloc _) _ 1 [x] hy (po_one x wr) (fun x _ => encO_len x) (by rw [hLm]; simp; omega) ?_
  intro v' w' h1 h2
  obtain ⟨a', c', rfl⟩ := owns_shape h1.own
  rw [List.length_append, hLm] at h1 ⊢
  exact hK a' c' w' h1 h2
def PostP (l : List (Option Nat)) (w : World) (e : Ending) (w' : World) : Prop := ∃ v, e = .returned v ∧ BO w w' w.heap.size v l
theorem pl_step (E : List Ed) (j a : Nat) (hj : j < E.length) : plcs a (E.drop j) = if (E.getD j (0, [])).1 = 0 then some a :: plcs (a + (E.getD j (0, [])).2.length) (E.drop (j + 1)) else if (E.getD j (0, [])).1 = 1 then none :: plcs a (E.drop (j + 1)) else plcs (a + (E.getD j (0, [])).2.length) (E.drop (j + 1)) := by
  rw [getD_cons E (0, []) j hj, plcs]
set_option maxRecDepth 20000 in
set_option maxHeartbeats 2000000 in
theorem places_any {w : World} (a : Option Addr) (ca : Nat) (s : Str) (hA : PB w a ca s) (hs : s.length ≤ 4000) (b : Option Addr) (cb : Nat) (t : Str) (hB : PB w b cb t) (ht : t.length ≤ 4000) :
    Calls Try.prog 18 #[.slice a s.length ca, .slice b t.length cb] w (PostP (plcs 0 (edits (lns s) (lns t))) w) := by
  obtain ⟨E, HE⟩ : ∃ E, Hid (edits (lns s) (lns t) = E) := ⟨_, rfl⟩
  have HKD : Hid (∀ e ∈ E, e.1 ≤ 2) := hid (by rw [← HE.out]; exact edits_kind _ _)
  have hEl : E.length ≤ 8000 := by rw [← HE.out]; have h1 := edits_len (lns s) (lns t); have h2 := lns_few s; have h3 := lns_few t; omega
  have HLS : Hid (∀ e ∈ E, e.2.length ≤ 4000) := hid (fun e he => by
    rcases mem_sd E e he with h | h
    · rw [← HE.out, (edits_A _ _).1] at h
      exact Nat.le_trans (lns_short s _ h) hs
    · rw [← HE.out, (edits_A _ _).2] at h
      exact Nat.le_trans (lns_short t _ h) ht)
  obtain ⟨p, HP⟩ : ∃ n, Hid (s.length = n) := ⟨_, rfl⟩
  obtain ⟨q, HQ⟩ : ∃ n, Hid (t.length = n) := ⟨_, rfl⟩
  obtain ⟨g, HG⟩ : ∃ g, Hid (w.heap.size = g) := ⟨_, rfl⟩
  have C24 : Hid (Calls Try.prog 24 #[.slice a p ca, .slice b q cb] w (PostW E w)) := hid (by rw [← HP.out, ← HQ.out, ← HE.out]; exact edits_any a ca s hA hs b cb t hB ht)
  rw [HP.out, HQ.out, HE.out]
  clear hA hB hs ht
  go_enter Try.func18, Try.ntmps18
  go_wp2_with fail
  refine C24.out.mono ?_
  rintro e w1 ⟨v, rfl, hbe⟩
  obtain ⟨ea, ec, rfl, hpe, hea, _⟩ := hbe.px (d := (0, [])) (fun x _ => encE_len x)
  have HB1 : Hid (Below g w w1) := hid (by rw [← HG.out]; exact hbe.below)
  obtain ⟨g1, HG1⟩ : ∃ g, Hid (w1.heap.size = g) := ⟨_, rfl⟩
  have HFE : Hid (∀ W, Below g1 w1 W → PE W ea ec E) := fun W hW => hpe.below (by rw [HG1.out]; exact hW)
  have HFA : Hid (0 < E.length → ∃ b off, ea = some ⟨b, off, none⟩) := fun h0 => by
    obtain ⟨b, off, e1, _⟩ := hpe.at_ h0
    exact ⟨b, off, e1⟩
  have hgg : g ≤ g1 := by have := HB1.out.size; have := HG.out; have := HG1.out; omega
  clear hbe hpe hea
  obtain ⟨l, HL⟩ : ∃ l, Hid (E.length = l) := ⟨_, rfl⟩
  have hll : l ≤ 8000 := by rw [← HL.out]; exact hEl
  rw [HL.out]
  clear hEl
  go_wp2_with fail
  go_loopg [5, 6, 13] l (fun gg lv av iv wr => ∃ (j m k lc : Nat) (la : Option Addr) (L : List (Option Nat)), lv = .slice la m lc ∧ av = .int .i64 k ∧ iv = .int .i64 j ∧ j ≤ l ∧ gg = l - j ∧ L.length = m ∧ m ≤ j ∧ k ≤ 4000 * j ∧ Hid (BO w1 wr g1 (.slice la m lc) L) ∧ Hid (plcs 0 E = L ++ plcs k (E.drop j)))
  case atStart => exact ⟨0, 0, 0, 0, none, [], rfl, rfl, rfl, Nat.zero_le _, rfl, rfl, Nat.le_refl _, Nat.zero_le _, hid (bx_nil 3 w1 g1 (by rw [HG1.out]; exact Nat.le_refl _)), hid rfl⟩
  case round =>
    obtain ⟨j, m, k, lc, la, L, rfl, rfl, rfl, hj, hg', hLm, hmj, hkj, HBO, HPL⟩ := hrel
    by_cases hlt : j < l
    · have hlti : (j : Int) < (l : Int) := by omega
      obtain ⟨eb, eo, hae⟩ := HFA.out (by have := HL.out; omega)
      subst hae
      have hjE : j < E.length := by rw [HL.out]; exact hlt
      have hst := pl_step E j k hjE
      obtain ⟨x, HX⟩ : ∃ x, Hid (E.getD j (0, []) = x) := ⟨_, rfl⟩
      obtain ⟨hc0, hc1⟩ := (HFE.out wr HBO.out.below).kind j hjE
      have hkd := HKD.out (E.getD j (0, [])) (getD_mem E j _ hjE)
      have hls := HLS.out (E.getD j (0, [])) (getD_mem E j _ hjE)
      rw [HX.out] at hc0 hc1 hkd hls hst
      obtain ⟨kd, ln⟩ := x
      simp only [] at hc0 hc1 hkd hls hst
      unfold sV at hc1
      have HST := hid hst
      clear hst hjE
      by_cases h1 : kd = 1
      · subst h1
        have HP' : Hid (plcs 0 E = (L ++ [none]) ++ plcs k (E.drop (j + 1))) := hid (by rw [HPL.out, HST.out]; simp)
        have HBA : Hid (BO w1 (wr.alloc (.cells #[.int .i64 1, .string ⟨ln.toArray⟩] 58)) g1 (.slice la m lc) L) := hid (HBO.out.alloc _)
        have HLM : Hid (L.length = m) := hLm
        clear HST HPL hLm
        go_wp2_with (at_builtin; refine app_o HBA.out HLM.out (by omega) none (-1) rfl rfl _ _ rfl rfl _ (size_alloc wr _).symm rfl ?_; intro a' c' w' HB' _)
        go_roundg (l - (j + 1))
        case measure => omega
        case rel => exact ⟨j + 1, m + 1, k, _, _, L ++ [none], rfl, rfl, by go_num, by omega, rfl, by rw [List.length_append, HLM.out]; rfl, by omega, by omega, HB', HP'⟩
      · by_cases h0 : kd = 0
        · subst h0
          have HP' : Hid (plcs 0 E = (L ++ [some k]) ++ plcs (k + ln.length) (E.drop (j + 1))) := hid (by rw [HPL.out, HST.out]; simp)
          have HBA : Hid (BO w1 (wr.alloc (.cells #[.int .i64 0, .string ⟨ln.toArray⟩] 58)) g1 (.slice la m lc) L) := hid (HBO.out.alloc _)
          have HLM : Hid (L.length = m) := hLm
          clear HST HPL hLm
          have HCB : Hid (∀ w', ((wr.alloc (.cells #[.int .i64 0, .string ⟨ln.toArray⟩] 58)).alloc (.cells #[.int .i64 (k : Int)] 3)).grownBy w' (Value.slice la m lc).ownBlock → w'.cell? ⟨wr.heap.size, 1, none⟩ = some (.string ⟨ln.toArray⟩)) := fun w' hw' => by
            rw [World.cell?_of_block (a := ⟨wr.heap.size, 1, none⟩) (hw'.block wr.heap.size (by simp; omega) (fun e => by
              have := (own_lt HBO.out.own _ e.symm).2
              omega))]
            rw [cell_of_row _ wr.heap.size 1 _ 58 (0, 0) (heap_old _ _ _ _ (heap_alloc_new wr _))]
            rfl
          go_wp2_with (at_builtin; refine app_o HBA.out HLM.out (by omega) (some k) (k : Int) rfl rfl _ _ rfl rfl _ (size_alloc wr _).symm rfl ?_; intro a' c' w' HB' HGW; have hcell := HCB.out w' HGW.out)
          go_roundg (l - (j + 1))
          case measure => omega
          case rel => exact ⟨j + 1, m + 1, k + ln.length, _, _, L ++ [some k], rfl, by go_num, by go_num, by omega, rfl, by rw [List.length_append, HLM.out]; rfl, by omega, by omega, HB', HP'⟩
        · obtain rfl : kd = 2 := by omega
          have HP' : Hid (plcs 0 E = L ++ plcs (k + ln.length) (E.drop (j + 1))) := hid (by rw [HPL.out, HST.out]; simp)
          have HBA : Hid (BO w1 (wr.alloc (.cells #[.int .i64 2, .string ⟨ln.toArray⟩] 58)) g1 (.slice la m lc) L) := hid (HBO.out.alloc _)
          have HLM : Hid (L.length = m) := hLm
          clear HST HPL hLm
          go_wp2
          go_roundg (l - (j + 1))
          case measure => omega
          case rel => exact ⟨j + 1, m, k + ln.length, _, _, L, rfl, by go_num, by go_num, by omega, rfl, HLM.out, by omega, by omega, HBA, HP'⟩
    · have hlti : ¬ (j : Int) < (l : Int) := by omega
      have hE : E.drop j = [] := List.drop_of_length_le (by rw [HL.out]; omega)
      have HFIN : Hid (BO w wr w.heap.size (.slice la m lc) (plcs 0 E)) := hid (by
        have h := HPL.out
        rw [hE] at h
        simp only [plcs, List.append_nil] at h
        rw [h, HG.out]
        exact ⟨HB1.out.trans (HBO.out.below.mono hgg), base_mono HBO.out.own hgg, Nat.le_trans hgg HBO.out.le⟩)
      clear hE
      go_wp2
      go_ret
      exact ⟨_, rfl, HFIN.out⟩
end Go.Proofs.Ytakddciegnkpdaa
