/- 'repeat': bytes that stand some way back, put out again. -/
import Derived.Test.YtbiibhpknflagaaDoorOutB
namespace Go.Proofs.YtbiibhpknflagaaDoor
open Go.RowKit Plain

set_option maxRecDepth 20000 in
set_option maxHeartbeats 4000000 in
theorem repeat_ok (E : Env) (B p d n : Nat) (v : Value) (out : List Int) (w : World) (h : St w E B p v out) (hm : E.most ≤ 400000) (hd : d ≤ out.length) (hd1 : 1 ≤ d) (hn2 : n ≤ 258) (hw : (d : Int) ≤ E.win) (hw2 : E.win ≤ 40000) (hr : (n : Int) ≤ E.most - out.length) :
    Calls Tryd.prog 54 #[.pointer (some ⟨E.S, 0, none⟩), .int .i64 n, .int .i64 d] w fun e w' => e = .returned (.tuple #[]) ∧ ∃ v', St w' E B p v' (rep out d n) ∧ Kept E.S v v' w w' := by
  have hlen := h.len hm
  obtain ⟨m, hmo⟩ : ∃ m, out.length = m := ⟨_, rfl⟩
  obtain ⟨⟨nx, hold, held, hst, hp, hh, hnx, HG⟩, hown, hisB, hB, hle⟩ := h
  rw [hmo] at hown hr hle hd hlen
  obtain ⟨g, cp, rfl, -, -⟩ := hown.form (by omega)
  obtain ⟨i5, hi, hz0, hz1, hz2⟩ := info_parts Tryd.info5
  have HH : Hid (Str w E nx hold held (.slice (some ⟨g, 0, none⟩) m cp)) := hst
  obtain ⟨c0, c1, c2, c3, c4, c5, c6, fz, src, ibS, ibv, ibl, Sl, Sv⟩ := hst
  go_enter Tryd.func54, Tryd.ntmps54
  go_wp2_with (go_at_call 52; refine (needRoom_ok E nx hold held n m cp _ _ hm hlen (by omega) (by omega) HH.out hr).mono ?_; rintro e w1 ⟨rfl, q, rfl⟩)
  go_loopg [26] n (fun k i wr => ∃ (j g' cp' : Nat) (out' : List Int), j ≤ n ∧ i = .int .i64 j ∧ k = n - j ∧ out'.length = m + j ∧ IsB out' ∧ Hid (rep out' d (n - j) = rep out d n) ∧ Hid (Str wr E nx hold held (.slice (some ⟨g', 0, none⟩) (m + j) cp')) ∧
      wr.ownsRow B 5 1 (.slice (some ⟨g', 0, none⟩) (m + j) cp') (m + j) (out'.map (Value.int .u8)) ∧ B ≤ wr.heap.size ∧ Hid (Kept E.S (.slice (some ⟨g, 0, none⟩) m cp) (.slice (some ⟨g', 0, none⟩) (m + j) cp') w wr))
  case atStart => exact ⟨0, g, cp, out, by omega, rfl, by omega, by omega, hisB, rfl, HH.out.drewN _, hown, hB, (Kept.refl _ _ _).drewN _⟩
  case round =>
    clear c0 c1 c2 c3 c4 c5 c6 fz src ibS ibv ibl Sl Sv hown hB
    obtain ⟨j, g', cp', out', hj, rfl, hk, hl', hb', HRp, HS, hown, hB, HK⟩ := hrel
    by_cases hjn : j < n
    · obtain ⟨q, HQ⟩ : ∃ q, Hid (q = m + j - d) := ⟨_, rfl⟩
      have hq := HQ.out
      obtain ⟨x, HX⟩ : ∃ x, Hid (x = out'.getD q 0) := ⟨_, rfl⟩
      have hcx : wr.cell? ⟨g', q, none⟩ = some (.int .u8 x) := by rw [HX.out]; exact own_at hown hl' q (by omega)
      have hwr : IntKind.i64.wrap ((m : Int) + j - d) = (q : Int) := by rw [show (m : Int) + j - d = (q : Int) from by omega]; exact Plain.wrap_small q (by omega)
      have hq1 : (q : Int) < (m : Int) + j := by omega
      clear hq
      obtain ⟨c0, c1, c2, c3, c4, c5, c6, fz, src, ibS, ibv, ibl, Sl, Sv⟩ := HS.out
      have f4 := fz 4
      clear c0 c1 c2 c3 c5 c6 src
      go_wp2
      go_region_law ((refine step_append_lies _ (by rfl) _ _ _ (by rfl) B 5 i5 (.int .u8 0) 1 1 Tryd.underlying22 hi hz0 hz1 hz2 rfl (by omega) (.slice (some ⟨g', 0, none⟩) (m + j) cp') (m + j) (out'.map (Value.int .u8)) (by rfl) (by exact hown.alloc _) ⟨wr.heap.size, 0, none⟩ 1 1 [.int .u8 x] (by rfl) (by rfl) (by intro j u hj; match j, hj with | 0, hj => simp at hj; subst hj; simp [Addr.add]) (by intro u hu; simp at hu; subst hu; rfl) (by omega) (by unfold maxLen; omega) (by omega) (by simp; omega) (wr.heap.size + 1) (by simp) ?_; intro g2 cp2 w3 hown1 hgrow hat hlt; obtain ⟨d4, e4⟩ := HS.out.grow_cell (grownBy_allocD wr _ none) hgrow 4; rw [c4] at d4))
      all_goals
        have hkl : (out' ++ [x]).map (Value.int .u8) = out'.map (Value.int .u8) ++ [.int .u8 x] := by simp
        obtain ⟨hs2, hk2⟩ := HS.out.grow (grownBy_allocD wr _ none) hgrow (.slice (some ⟨g2, 0, none⟩) (m + j + 1) cp2) g2 rfl (by simpa using hat)
        have HS2 : Hid (_ ∧ Kept E.S _ _ wr _) := ⟨hs2, hk2⟩
        have HO : Hid (World.ownsRow _ B 5 1 _ _ _) := owns_set hown1 E.S 4 (.slice (some ⟨g2, 0, none⟩) (m + j + 1) cp2) hs2.Sv
        rw [← hkl] at HO
        clear hs2 hk2 hown1 hgrow hat
        go_wp2
        go_roundg (n - (j + 1))
        case measure => omega
        case rel =>
          refine ⟨j + 1, g2, cp2, out' ++ [x], by omega, by go_num, rfl, by simp; omega, ?_, ?_, HS2.out.1, HO.out, ?_, HK.out.trans HS2.out.2⟩
          · intro y hy
            rcases List.mem_append.1 hy with hy | hy
            · exact hb' y hy
            · simp only [List.mem_singleton] at hy; rw [hy, HX.out]; simpa using hb'.get q
          · show _ = _
            rw [← HRp.out, show n - j = (n - (j + 1)) + 1 from by omega, rep, hl', HX.out, HQ.out]
          · have := HS2.out.2.size; omega
    · obtain rfl : j = n := by omega
      obtain ⟨c0, c1, c2, c3, c4, c5, c6, fz, src, ibS, ibv, ibl, Sl, Sv⟩ := HS.out
      go_wp2
      go_end0
      have e : out' = rep out d j := by have := HRp.out; rwa [Nat.sub_self] at this
      rw [← e]
      exact ⟨rfl, _, ⟨⟨nx, hold, held, HS.out, hp, hh, hnx, HG⟩, by rw [hl']; exact hown, hb', hB, by omega⟩, HK.out⟩
end Go.Proofs.YtbiibhpknflagaaDoor
