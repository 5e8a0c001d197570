/- 'readTexts'. -/
import Derived.Test.YtijeogdnjeamaaaGreatDoorWdA
import Derived.Test.YtijeogdnjeamaaaGreatDoorWcD
namespace Go.Proofs.YtijeogdnjeamaaaGreatDoor
open Go.RowKit
set_option linter.unusedVariables false
set_option linter.unusedSimpArgs false
def encS (s : Str) : List Value := [sV s]
abbrev PS (w : World) (a : Option Addr) (cap : Nat) (l : List Str) : Prop := Px encS 1 ([] : Str) w a cap l
abbrev BS (w0 w : World) (B : Nat) (v : Value) (l : List Str) : Prop := Bx encS 1 9 w0 w B v l
theorem info9 : (Tryz.prog.info? 9).map (fun i => (i.zero, i.size, i.bytes)) = some (some (.string ⟨#[]⟩), 1, 16) := by kernel_rfl
theorem und63s : Tryz.prog.underlying 63 = some (.slice 9) := by kernel_rfl
theorem run_txt (u : ByteArray) (w : World) : (Instr.buildSlice 63 1 #[(0, .string u)]).run Tryz.prog w = .ok (.slice (some ⟨w.heap.size, 0, none⟩) 1 1) (w.alloc (.cells #[.string u] 9)) := by
  obtain ⟨i, hq, hz, hs, _⟩ := info_parts info9
  refine run_buildSlice w 63 9 1 _ #[.string u] i _ und63s hq hz (by rw [hs]; decide) (by rw [hs]; decide) ?_
  rw [hs]
  have hr : Array.range 1 = #[0] := rfl
  simp [Instr.fill, hr, Value.cells]
theorem BS.more {w0 W : World} {B : Nat} {v : Value} {l : List Str} (h : BS w0 W B v l) (hn : l.length ≤ 20000) (s : Str) (u : ByteArray) (hu : ⟨s.toArray⟩ = u) (ty : TypeId) :
    ∃ v' W', (Builtin.append_ #[63, 63] ty #[v, .slice (some ⟨W.heap.size, 0, none⟩) 1 1]).run Tryz.prog (W.alloc (.cells #[.string u] 9)) = .ok v' W' ∧ BS w0 W' B v' (l ++ [s]) := by
  obtain ⟨i, hi, hz0, hz1, hz2⟩ := info_parts info9
  have h' := h.alloc (.cells #[.string u] 9)
  obtain ⟨v', W', hr, h1, h2, _⟩ := run_append_own_at (P := Tryz.prog) (W.alloc (.cells #[.string u] 9)) B 63 ty 9 i _ 1 16 und63s hi hz0 hz1 hz2 rfl (by decide) v _ _ h'.own ⟨W.heap.size, 0, none⟩ 1 1 [sV s] rfl (fun j x hj => by
    cases j with
    | zero =>
      cases hj
      rw [addr_add]
      have := cell_of_row (W.alloc (.cells #[.string u] 9)) W.heap.size 0 _ 9 (0, 0) (heap_alloc_new W _)
      rw [Nat.zero_add, this, ← hu]
      rfl
    | succ j => simp at hj) (fun x hx => by rw [List.mem_singleton.1 hx]; rfl) (by unfold maxLen; omega) (by omega) h'.le
  refine ⟨v', W', hr, h'.below.grown h2 h'.le (fun k hk => (own_lt h'.own k hk).1), ?_, Nat.le_trans h'.le h2.size⟩
  rw [List.length_append, List.flatMap_append]
  exact h1
theorem bs_nil (w : World) (B : Nat) (h : B = w.heap.size) : BS w w B (.slice none 0 0) [] := ⟨Below.refl _ _, ⟨rfl, .inl ⟨rfl, rfl⟩⟩, by omega⟩
/-- A line without its end. -/
abbrev noEnd (s : Str) : Str := trS [10] s
theorem Tryz.results99 : Tryz.f99.results = #[.tmp 2, .tmp 3] := by kernel_rfl
def PostT (s : Str) (w : World) (e : Ending) (w' : World) : Prop :=
  Below w.heap.size w w' ∧ ((∃ ls, okL ls ∧ s = pktL ls ∧ ∃ v, e = .returned (.tuple #[v, .nilIface]) ∧ BS w w' w.heap.size v (ls.map noEnd)) ∨ ((¬ ∃ ls, okL ls ∧ s = pktL ls) ∧ e = .returned (.tuple #[.slice none 0 0, .iface 37 (.int .i64 110)])))
theorem pktL_cnt : ∀ ls : List Str, 4 * ls.length ≤ (pktL ls).length
  | [] => by simp
  | x :: ls => by
    have := pktL_cnt ls
    show 4 * (ls.length + 1) ≤ (pkt x ++ pktL ls).length
    rw [List.length_append, pkt_len]
    omega
set_option maxRecDepth 20000 in
set_option maxHeartbeats 4000000 in
theorem readTexts_any {w : World} (a : Option Addr) (cap : Nat) (s : Str) (hP : PB w a cap s) (hl : s.length ≤ 60000) (he : Ers w) (hd : Db w) : Calls Tryz.prog 99 #[.slice a s.length cap] w (PostT s w) := by
  obtain ⟨m, HM⟩ : ∃ m, Hid (s.length = m) := ⟨_, rfl⟩
  obtain ⟨G, HG⟩ : ∃ g, Hid (w.heap.size = g) := ⟨_, rfl⟩
  have C1 : Hid (Calls Tryz.prog 119 #[.slice a m cap] w (PostL s w)) := hid (by
    have := lines_any a cap s hP (by omega) he hd
    rw [HM.out] at this
    exact this)
  have HL := hid hl
  rw [HM.out]
  clear hP hl he hd
  go_enter Tryz.func99, Tryz.ntmps99
  go_wp2_with fail
  refine C1.out.mono ?_
  rintro e w1 ⟨hb1, ⟨ls, hok, hs, v, hs2, rfl, hll⟩ | ⟨hno, rfl⟩⟩
  · obtain ⟨al, cl, hvl, hrow⟩ := ll_row hll
    obtain ⟨k, HK⟩ : ∃ k, Hid (ls.length = k) := ⟨_, rfl⟩
    rw [HK.out] at hvl hrow
    subst hvl
    have HOK := hid hok
    have HS := hid hs
    have HB1 := hid hb1
    have hkb : k ≤ 15000 := by
      have h1 := pktL_cnt ls
      rw [← HS.out, HK.out] at h1
      have := HL.out
      omega
    obtain ⟨B, HBB⟩ : ∃ B, Hid (w1.heap.size = B) := ⟨_, rfl⟩
    have HAL : Hid (0 < k → ∃ g, al = some ⟨g, 0, none⟩ ∧ AP g hs2 ls w1) := hid (fun h0 => by
      obtain ⟨g, h1, h2, _⟩ := hrow h0
      exact ⟨g, h1, ap_mv hll (Nat.le_refl _) g h2 (by rw [HK.out]; exact h0) rfl (fun _ _ _ _ _ _ => rfl)⟩)
    have S0 : Hid (BS w1 w1 B (.slice none 0 0) ((ls.take 0).map noEnd)) := hid (bs_nil w1 B HBB.out.symm)
    clear hok hs hb1 hll hrow
    go_wp2_with fail
    go_loopg [6, 19] k (fun gg ov iv wr => ∃ i : Nat, iv = .int .i64 i ∧ i ≤ k ∧ gg = k - i ∧ Hid (BS w1 wr B ov ((ls.take i).map noEnd)))
    case atStart => exact ⟨0, rfl, Nat.zero_le _, rfl, S0⟩
    case round =>
      obtain ⟨i, rfl, hi, hk, HO⟩ := hrel
      by_cases hlt : i < k
      · have hlti : (i : Int) < (k : Int) := by omega
        obtain ⟨g, rfl, hA⟩ := HAL.out (by omega)
        have hil : i < ls.length := by rw [HK.out]; exact hlt
        have hA2 := hA.below (W' := wr) (by rw [HBB.out]; exact HO.out.below)
        obtain ⟨x, HX⟩ : ∃ x, Hid (ls.getD i [] = x) := ⟨_, rfl⟩
        obtain ⟨q, HQ⟩ : ∃ q, Hid (x.length = q) := ⟨_, rfl⟩
        obtain ⟨xa, xc, hx, hpx⟩ := hA2.each i hil
        rw [HX.out] at hx hpx
        rw [HQ.out] at hx
        have kc : wr.cell? ⟨g, i, none⟩ = some (.slice xa q xc) := by rw [hA2.row i hil, hx]
        obtain ⟨X, HXb⟩ : ∃ X : ByteArray, Hid (⟨x.toArray⟩ = X) := ⟨_, hid rfl⟩
        have hcv : (convert 25 9 (.slice xa q xc)).run Tryz.prog wr = .ok (.string X) wr := by
          have := conv_str hpx
          rw [HQ.out, sV_out, HXb.out] at this
          exact this
        have HXL : Hid (x.length ≤ 1000) := hid (by rw [← HX.out]; exact HOK.out _ (getD_mem ls i [] hil))
        obtain ⟨Y, HY⟩ : ∃ X : ByteArray, Hid (⟨(noEnd x).toArray⟩ = X) := ⟨_, hid rfl⟩
        have CT : Hid (Calls Tryz.prog 120 #[.string X, .string ⟨#[10]⟩] wr fun e w' => e = .returned (.string Y) ∧ w' = wr) := hid (by
          have := trimSuf x [10] (by have := HXL.out; omega) wr
          rw [sV_out, sV_out, sV_out, HXb.out] at this
          rw [← HY.out]
          exact this)
        have HTK : Hid ((ls.take (i + 1)).map noEnd = (ls.take i).map noEnd ++ [noEnd x]) := hid (by rw [← HX.out, take_snocG [] ls i hil, List.map_append]; rfl)
        have hbs := run_txt Y wr
        obtain ⟨v5, W5, hr5, hb5⟩ := HO.out.more (by rw [List.length_map, List.length_take]; omega) (noEnd x) Y HY.out 63
        obtain ⟨W3, HW3⟩ : ∃ W, Hid (wr.alloc (.cells #[.string Y] 9) = W) := ⟨_, rfl⟩
        rw [HW3.out] at hr5 hbs
        have al3 : wr.alloc (.cells #[.string Y] 9) = W3 := HW3.out
        have HB5 : Hid (BS w1 W5 B v5 ((ls.take (i + 1)).map noEnd)) := hid (by rw [HTK.out]; exact hb5)
        clear hil hA hA2 hx hpx hb5
        go_wp2_with fail
        refine CT.out.mono ?_
        rintro e w2 ⟨rfl, hw⟩
        rw [hw]
        clear hw
        go_wp2_with (first | (refine wpList_bSY rfl 63 1 _ rfl (.string Y) _ rfl hbs ?_) | (at_builtin; refine wpList_app rfl _ _ 63 63 rfl 63 rfl _ _ rfl rfl hr5 ?_) | fail)
        go_roundg (k - (i + 1))
        case measure => omega
        case rel => exact ⟨i + 1, by go_num, by omega, rfl, HB5⟩
      · have hlti : ¬ (i : Int) < (k : Int) := by omega
        have HF : Hid (BS w1 wr B u6 (ls.map noEnd)) := hid (by
          have := HO.out
          rw [List.take_of_length_le (by rw [HK.out]; omega)] at this
          exact this)
        have hGB : G ≤ B := by rw [← HG.out, ← HBB.out]; exact HB1.out.size
        go_wp2
        refine bodyPost_ret (results_tmp2 Tryz.results99 _ _ _) rfl ?_
        have hbw : Below w.heap.size w wr := HB1.out.trans (HF.out.below.mono (by rw [HG.out]; exact hGB))
        exact ⟨hbw, .inl ⟨ls, HOK.out, HS.out, _, rfl, hbw, base_mono HF.out.own (by rw [HG.out]; exact hGB), hbw.size⟩⟩
  · have HNO := hid hno
    have HB1 := hid hb1
    clear hno hb1
    go_wp2
    refine bodyPost_ret (results_tmp2 Tryz.results99 _ _ _) rfl ?_
    exact ⟨HB1.out, .inr ⟨HNO.out, rfl⟩⟩
end Go.Proofs.YtijeogdnjeamaaaGreatDoor
