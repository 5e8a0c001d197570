/- 'writeTexts', given what 'slices.Concat' gives. -/
import Derived.Test.YtijeogdnjeamaaaGreatDoorWdC
namespace Go.Proofs.YtijeogdnjeamaaaGreatDoor
open Go.RowKit
set_option linter.unusedVariables false
set_option linter.unusedSimpArgs false
/-- A text as a line. -/
def tx (s : Str) : Str := if s = [] then [] else s ++ [10]
set_option maxRecDepth 20000 in
set_option maxHeartbeats 4000000 in
theorem writeTexts_any {w : World} (v0 : Value) (l : List Str) (hC : Calls Tryz.prog 58 #[v0] w fun e w' => Below w.heap.size w w' ∧ ∃ a c, e = .returned (.slice a l.length c) ∧ PS w' a c l) (hn : l.length ≤ 900) (hlen : ∀ s ∈ l, s.length ≤ 990) (hd : Db w) : Calls Tryz.prog 31 #[v0] w (PostNu w.heap.size (pktL (l.map tx)) w) := by
  obtain ⟨k, HK⟩ : ∃ k, Hid (l.length = k) := ⟨_, rfl⟩
  have HC := hid hC
  rw [HK.out] at HC hn
  have HLN := hid hlen
  have HD := hid hd
  clear hC hlen hd
  go_enter Tryz.func31, Tryz.ntmps31
  go_wp2_with fail
  refine HC.out.mono ?_
  rintro e w1 ⟨hb1, a, c, rfl, hps⟩
  obtain ⟨B, HBB⟩ : ∃ B, Hid (w1.heap.size = B) := ⟨_, rfl⟩
  have HB1 := hid hb1
  have HPS : Hid (∀ W, Below B w1 W → PS W a c l) := hid (fun W hW => hps.below (by rw [HBB.out]; exact hW))
  have HDW : Hid (∀ W, Below B w1 W → Db W) := hid (fun W hW => (HD.out.below hb1).b hW HBB.out.symm)
  have HFA : Hid (0 < k → ∃ b off, a = some ⟨b, off, none⟩) := hid (fun h0 => by
    obtain ⟨b, off, e1, _⟩ := hps.at_ (by rw [HK.out]; exact h0)
    exact ⟨b, off, e1⟩)
  have S0 : Hid (Wst B w1 w1 (.slice none 0 0) (pktL ((l.take 0).map tx))) := hid ⟨⟨rfl, .inl ⟨rfl, rfl⟩⟩, Below.refl _ _, by rw [HBB.out]; exact Nat.le_refl _⟩
  clear hb1 hps
  go_wp2_with fail
  go_loopg [3, 9] k (fun gg bv0 iv wr => ∃ i : Nat, iv = .int .i64 i ∧ i ≤ k ∧ gg = k - i ∧ Hid (Wst B w1 wr bv0 (pktL ((l.take i).map tx))) ∧ Hid ((pktL ((l.take i).map tx)).length ≤ 1004 * i))
  case atStart => exact ⟨0, rfl, Nat.zero_le _, rfl, S0, hid (by simp [pktL])⟩
  case round =>
    obtain ⟨i, rfl, hi, hk, HS, HSL⟩ := hrel
    by_cases hlt : i < k
    · have hlti : (i : Int) < (k : Int) := by omega
      obtain ⟨b, off, rfl⟩ := HFA.out (by omega)
      have hil : i < l.length := by rw [HK.out]; exact hlt
      obtain ⟨x, HX⟩ : ∃ x, Hid (l.getD i [] = x) := ⟨_, rfl⟩
      obtain ⟨X, HXb⟩ : ∃ X : ByteArray, Hid (⟨x.toArray⟩ = X) := ⟨_, hid rfl⟩
      have HXL : Hid (x.length ≤ 990) := hid (by rw [← HX.out]; exact HLN.out _ (getD_mem l i [] hil))
      have kc : wr.cell? ⟨b, off + i, none⟩ = some (.string X) := by
        obtain ⟨b', off', e1, _, e3⟩ := (HPS.out wr HS.out.bl).at_ (by omega)
        cases e1
        have := e3 i hil 0 _ rfl
        rw [show off + i * 1 + 0 = off + i by omega, HX.out, sV_out, HXb.out] at this
        exact this
      have HTK : Hid (pktL ((l.take (i + 1)).map tx) = pktL ((l.take i).map tx) ++ pkt (tx x)) := hid (by
        rw [take_snocG [] l i hil, HX.out, List.map_append, pktL_app]
        simp [pktL])
      have HSL2 : Hid ((pktL ((l.take (i + 1)).map tx)).length ≤ 1004 * (i + 1)) := hid (by
        rw [HTK.out, List.length_append, pkt_len]
        have h1 := HSL.out
        have h2 : (tx x).length ≤ 1000 := by
          unfold tx
          have := HXL.out
          split
          · simp
          · rw [List.length_append]; simp; omega
        omega)
      by_cases hx0 : x = []
      · subst hx0
        obtain ⟨Y, HY⟩ : ∃ X : ByteArray, Hid (⟨(tx []).toArray⟩ = X) := ⟨_, hid rfl⟩
        have hXe : X = ⟨#[]⟩ := HXb.out.symm
        have hYe : Y = ⟨#[]⟩ := HY.out.symm
        have HTL : Hid ((tx []).length ≤ 1000) := hid (by simp [tx])
        rw [hXe] at kc
        obtain ⟨c2, w2, hr2, hp2, hb2⟩ := conv_bytes (tx []) wr
        rw [HY.out] at hr2
        obtain ⟨K, HK2⟩ : ∃ K, Hid ((tx []).length = K) := ⟨_, rfl⟩
        rw [HK2.out] at hr2
        have CL : Hid (Calls Tryz.prog 59 #[u3, .slice (some ⟨wr.heap.size, 0, none⟩) K c2] w2 fun e w' => ∃ v', e = .returned v' ∧ Wst B w1 w' v' (pktL ((l.take i).map tx) ++ pkt (tx []))) := hid (by
          have := appendLine2 (HS.out.below hb2) (by have := HSL.out; omega) (some ⟨wr.heap.size, 0, none⟩) c2 (tx []) hp2 (fun p hp e => by
            cases hp
            have := (own_lt HS.out.own _ e).2
            exact Nat.lt_irrefl _ this) HTL.out (HDW.out w2 (HS.out.bl.trans (hb2.mono HS.out.le)))
          rw [HK2.out] at this
          exact this)
        obtain ⟨P, HPP⟩ : ∃ P, Hid (wr.heap.size = P) := ⟨_, rfl⟩
        rw [HPP.out] at hr2 CL
        rw [hYe] at hr2
        clear hp2 hb2 hil
        go_wp2_with fail
        refine CL.out.mono ?_
        rintro e w3 ⟨v3, rfl, hs3⟩
        have HS3 : Hid (Wst B w1 w3 v3 (pktL ((l.take (i + 1)).map tx))) := hid (by rw [HTK.out]; exact hs3)
        clear hs3
        go_wp2
        go_roundg (k - (i + 1))
        case measure => omega
        case rel => exact ⟨i + 1, by go_num, by omega, rfl, HS3, HSL2⟩
      · obtain ⟨Y, HY⟩ : ∃ X : ByteArray, Hid (⟨(tx x).toArray⟩ = X) := ⟨_, hid rfl⟩
        have htx : tx x = x ++ [10] := by rw [tx, if_neg hx0]
        have hcat : X ++ ⟨#[10]⟩ = Y := by rw [← HXb.out, ← HY.out, htx]; exact str_app x [10]
        have hqe : (X.toList == []) = false := by rw [← HXb.out]; simp [hx0]
        have hqn : (X.toList != []) = true := by rw [bne, hqe]; rfl
        obtain ⟨q, HQ⟩ : ∃ q, Hid (x.length = q) := ⟨_, rfl⟩
        have hq990 : q ≤ 990 := by rw [← HQ.out]; exact HXL.out
        have hxz : X.size = q := by rw [← HXb.out, txt_len]; exact HQ.out
        have h10 : (⟨#[10]⟩ : ByteArray).size = 1 := rfl
        have HTL : Hid ((tx x).length ≤ 1000) := hid (by rw [htx, List.length_append]; have := HXL.out; simp; omega)
        obtain ⟨c2, w2, hr2, hp2, hb2⟩ := conv_bytes (tx x) wr
        rw [HY.out] at hr2
        obtain ⟨K, HK2⟩ : ∃ K, Hid ((tx x).length = K) := ⟨_, rfl⟩
        rw [HK2.out] at hr2
        have CL : Hid (Calls Tryz.prog 59 #[u3, .slice (some ⟨wr.heap.size, 0, none⟩) K c2] w2 fun e w' => ∃ v', e = .returned v' ∧ Wst B w1 w' v' (pktL ((l.take i).map tx) ++ pkt (tx x))) := hid (by
          have := appendLine2 (HS.out.below hb2) (by have := HSL.out; omega) (some ⟨wr.heap.size, 0, none⟩) c2 (tx x) hp2 (fun p hp e => by
            cases hp
            have := (own_lt HS.out.own _ e).2
            exact Nat.lt_irrefl _ this) HTL.out (HDW.out w2 (HS.out.bl.trans (hb2.mono HS.out.le)))
          rw [HK2.out] at this
          exact this)
        obtain ⟨P, HPP⟩ : ∃ P, Hid (wr.heap.size = P) := ⟨_, rfl⟩
        rw [HPP.out] at hr2 CL
        clear hp2 hb2 hil hx0 htx
        go_wp2_with fail
        refine CL.out.mono ?_
        rintro e w3 ⟨v3, rfl, hs3⟩
        have HS3 : Hid (Wst B w1 w3 v3 (pktL ((l.take (i + 1)).map tx))) := hid (by rw [HTK.out]; exact hs3)
        clear hs3
        go_wp2
        go_roundg (k - (i + 1))
        case measure => omega
        case rel => exact ⟨i + 1, by go_num, by omega, rfl, HS3, HSL2⟩
    · have hlti : ¬ (i : Int) < (k : Int) := by omega
      have HF : Hid (Wst B w1 wr u3 (pktL (l.map tx))) := hid (by
        have := HS.out
        rw [List.take_of_length_le (by rw [HK.out]; omega)] at this
        exact this)
      have hWB : w.heap.size ≤ B := by rw [← HBB.out]; exact HB1.out.size
      go_wp2
      go_ret
      have hbw : Below w.heap.size w wr := HB1.out.trans (HF.out.bl.mono hWB)
      exact ⟨_, rfl, base_mono HF.out.own hWB, hbw, hbw.size⟩
end Go.Proofs.YtijeogdnjeamaaaGreatDoor
