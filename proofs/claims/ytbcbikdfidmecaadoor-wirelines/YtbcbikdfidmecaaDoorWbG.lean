/- 'Pkt'. -/
import Derived.Test.YtbcbikdfidmecaaDoorWbF
namespace Go.Proofs.YtbcbikdfidmecaaDoor
open Go.RowKit
set_option linter.unusedVariables false
set_option linter.unusedSimpArgs false
/-- A slice of bytes as it lies in a row: where, its room, its bytes. -/
abbrev Hdr := Option Addr × Nat × Str
def encT (t : Hdr) : List Value := [.slice t.1 t.2.2.length t.2.1]
def dT : Hdr := (none, 0, [])
abbrev PT (w : World) (a : Option Addr) (cap : Nat) (ts : List Hdr) : Prop := Px encT 1 dT w a cap ts
def AT (w : World) (ts : List Hdr) : Prop := ∀ t ∈ ts, PB w t.1 t.2.1 t.2.2
theorem AT.below {w w' : World} {ts : List Hdr} (h : AT w ts) (hb : Below w.heap.size w w') : AT w' ts := fun t ht => (h t ht).below hb
theorem PT.cell {w : World} {b off cap : Nat} {ts : List Hdr} (h : PT w (some ⟨b, off, none⟩) cap ts) (i : Nat) (hi : i < ts.length) : w.cell? ⟨b, off + i, none⟩ = some (.slice (ts.getD i dT).1 (ts.getD i dT).2.2.length (ts.getD i dT).2.1) := by
  obtain ⟨b', off', e1, _, e3⟩ := h.at_ (by omega)
  cases e1
  have := e3 i hi 0 _ rfl
  rw [show off + i * 1 + 0 = off + i by omega] at this
  exact this
theorem pkt_len (s : Str) : (pkt s).length = 4 + s.length := by unfold pkt; rw [List.length_append, szT_len]
def pktB (ts : List Hdr) : Str := ts.flatMap fun t => pkt t.2.2
def okLs (ts : List Hdr) : Prop := ∀ t ∈ ts, t.2.2.length ≤ 1000
theorem Tryd.results5 : Tryd.f5.results = #[.tmp 2, .tmp 3] := by kernel_rfl
def PostP (ts : List Hdr) (w : World) (e : Ending) (w' : World) : Prop :=
  Below w.heap.size w w' ∧ ((okLs ts ∧ ∃ v, e = .returned (.tuple #[v, .nilIface]) ∧ w'.ownsRow w.heap.size 5 1 v (pktB ts).length (bv (pktB ts))) ∨ (¬ okLs ts ∧ e = .returned (.tuple #[.slice none 0 0, .iface 32 (.int .i64 110)])))
theorem Db.b {w w' : World} {B : Nat} (h : Db w) (hb : Below B w w') (hB : B = w.heap.size) : Db w' := by subst hB; exact h.below hb
set_option maxRecDepth 20000 in
set_option maxHeartbeats 2000000 in
theorem pkt_any {w : World} (a : Option Addr) (cap : Nat) (ts : List Hdr) (hP : PT w a cap ts) (hA : AT w ts) (hl : ts.length ≤ 900) (hd : Db w) : Calls Tryd.prog 5 #[.slice a ts.length cap] w (PostP ts w) := by
  obtain ⟨n, HN⟩ : ∃ n, Hid (ts.length = n) := ⟨_, rfl⟩
  obtain ⟨B, HB⟩ : ∃ B, Hid (w.heap.size = B) := ⟨_, rfl⟩
  have hn : n ≤ 900 := by rw [← HN.out]; exact hl
  have HPW : Hid (∀ W, Below B w W → PT W a cap ts) := fun W hW => hP.below (by rw [HB.out]; exact hW)
  have HAW : Hid (∀ W, Below B w W → AT W ts) := fun W hW => hA.below (by rw [HB.out]; exact hW)
  have HDW : Hid (∀ W, Below B w W → Db W) := fun W hW => hd.b hW HB.out.symm
  have HFA : Hid (0 < n → ∃ b off, a = some ⟨b, off, none⟩) := fun h0 => by
    obtain ⟨b, off, e1, _⟩ := hP.at_ (by rw [HN.out]; exact h0)
    exact ⟨b, off, e1⟩
  have HBL : Hid (∀ t ∈ ts, 0 < t.2.2.length → ∀ p : Addr, t.1 = some p → p.block < B) := hid (fun t ht h0 p hp => by
    obtain ⟨b, off, e1, e2, _⟩ := (hA t ht).at_ h0
    rw [hp] at e1
    cases e1
    rw [← HB.out]; exact e2)
  have S0 : Hid (Wst B w w (.slice none 0 0) []) := hid ⟨⟨by simp [bv], .inl ⟨rfl, rfl⟩⟩, Below.refl _ _, by rw [HB.out]; exact Nat.le_refl _⟩
  rw [HN.out]
  clear hP hA hl hd
  go_enter Tryd.func5, Tryd.ntmps5
  go_wp2_with fail
  go_loopg [4, 9] n (fun gg bvl iv wr => ∃ i : Nat, iv = .int .i64 i ∧ i ≤ n ∧ gg = n - i ∧ Hid (Wst B w wr bvl (pktB (ts.take i))) ∧ Hid ((pktB (ts.take i)).length ≤ i * 1004) ∧ Hid (okLs (ts.take i)))
  case atStart => exact ⟨0, rfl, Nat.zero_le _, rfl, hid (by simpa [pktB] using S0.out), hid (by simp [pktB]), hid (fun t ht => by simp at ht)⟩
  case round =>
    obtain ⟨i, rfl, hi, hk, HS, HSL, HOK⟩ := hrel
    by_cases hlt : i < n
    · have hlti : (i : Int) < (n : Int) := by omega
      obtain ⟨b, off, hae⟩ := HFA.out (by omega)
      subst hae
      have hil : i < ts.length := by rw [HN.out]; exact hlt
      obtain ⟨t, HT⟩ : ∃ t, Hid (ts.getD i dT = t) := ⟨_, rfl⟩
      have HTM : Hid (t ∈ ts) := hid (by rw [← HT.out]; exact getD_mem ts i dT hil)
      have HTK : Hid (ts.take (i + 1) = ts.take i ++ [t]) := hid (by rw [← HT.out]; exact take_snocG dT ts i hil)
      obtain ⟨ta, tc, s⟩ := t
      obtain ⟨q, HQ⟩ : ∃ q, Hid (s.length = q) := ⟨_, rfl⟩
      have kc : wr.cell? ⟨b, off + i, none⟩ = some (.slice ta q tc) := by
        have := (HPW.out wr HS.out.bl).cell i hil
        rw [HT.out, HQ.out] at this
        exact this
      by_cases hbig : 1000 < q
      · have hbi : (1000 : Int) < (q : Int) := by omega
        have HNO : Hid (¬ okLs ts) := hid (fun h => by have := h _ HTM.out; rw [HQ.out] at this; omega)
        have HBW : Hid (Below w.heap.size w wr) := hid (by rw [HB.out]; exact HS.out.bl)
        go_wp2
        refine bodyPost_ret (results_tmp2 Tryd.results5 _ _ _) rfl ?_
        exact ⟨HBW.out, .inr ⟨HNO.out, rfl⟩⟩
      · have hbi : ¬ (1000 : Int) < (q : Int) := by omega
        have C11 : Hid (Calls Tryd.prog 11 #[u4, .slice ta q tc] wr fun e w' => ∃ v', e = .returned v' ∧ Wst B w w' v' (pktB (ts.take i) ++ pkt s)) := hid (by
          have := appendLine_any HS.out (by have := HSL.out; omega) ta tc s ((HAW.out wr HS.out.bl) _ HTM.out) (HBL.out _ HTM.out) (by rw [HQ.out]; omega) (HDW.out wr HS.out.bl)
          rw [HQ.out] at this
          exact this)
        have HOK2 : Hid (okLs (ts.take (i + 1))) := hid (by
          rw [HTK.out]
          intro x hx
          rcases List.mem_append.1 hx with h | h
          · exact HOK.out x h
          · rw [List.mem_singleton.1 h, HQ.out]; omega)
        have HSL2 : Hid ((pktB (ts.take (i + 1))).length ≤ (i + 1) * 1004) := hid (by
          rw [HTK.out]
          unfold pktB
          rw [List.flatMap_append, List.length_append]
          have h1 := HSL.out
          unfold pktB at h1
          simp only [List.flatMap_cons, List.flatMap_nil, List.append_nil, pkt_len]
          rw [HQ.out]
          omega)
        have HE : Hid (pktB (ts.take i) ++ pkt s = pktB (ts.take (i + 1))) := hid (by
          rw [HTK.out]
          unfold pktB
          rw [List.flatMap_append]
          simp)
        rw [HE.out] at C11
        clear hil
        go_wp2_with fail
        refine C11.out.mono ?_
        rintro e w2 ⟨v2, rfl, hs2⟩
        have HS2 := hid hs2
        clear hs2
        go_wp2
        go_roundg (n - (i + 1))
        case measure => omega
        case rel => exact ⟨i + 1, by go_num, by omega, rfl, HS2, HSL2, HOK2⟩
    · have hlti : ¬ (i : Int) < (n : Int) := by omega
      have HF : Hid (Wst B w wr u4 (pktB ts) ∧ okLs ts) := hid (by
        have h1 := HS.out
        have h2 := HOK.out
        rw [List.take_of_length_le (by rw [HN.out]; omega)] at h1 h2
        exact ⟨h1, h2⟩)
      go_wp2
      refine bodyPost_ret (results_tmp2 Tryd.results5 _ _ _) rfl ?_
      exact ⟨by rw [HB.out]; exact HF.out.1.bl, .inl ⟨HF.out.2, _, rfl, by rw [HB.out]; exact HF.out.1.own⟩⟩
end Go.Proofs.YtbcbikdfidmecaaDoor
