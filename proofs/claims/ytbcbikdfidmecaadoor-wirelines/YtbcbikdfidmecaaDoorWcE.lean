/- 'Apart'. -/
import Derived.Test.YtbcbikdfidmecaaDoorWcD
namespace Go.Proofs.YtbcbikdfidmecaaDoor
open Go.RowKit
set_option linter.unusedVariables false
set_option linter.unusedSimpArgs false
theorem pad_alloc (w : World) : Own (w.alloc (.cells #[.int .u8 0, .int .u8 0, .int .u8 0, .int .u8 0, .int .u8 0, .int .u8 0, .int .u8 0, .int .u8 0, .int .u8 0, .int .u8 0, .int .u8 0, .int .u8 0, .int .u8 0, .int .u8 0, .int .u8 0, .int .u8 0, .int .u8 0, .int .u8 0, .int .u8 0, .int .u8 0, .int .u8 0, .int .u8 0, .int .u8 0, .int .u8 0, .int .u8 0, .int .u8 0, .int .u8 0, .int .u8 0, .int .u8 0, .int .u8 0, .int .u8 0, .int .u8 0, .int .u8 0, .int .u8 0, .int .u8 0, .int .u8 0, .int .u8 0, .int .u8 0, .int .u8 0, .int .u8 0, .int .u8 0, .int .u8 0, .int .u8 0, .int .u8 0, .int .u8 0, .int .u8 0, .int .u8 0, .int .u8 0, .int .u8 0, .int .u8 0, .int .u8 0, .int .u8 0, .int .u8 0, .int .u8 0, .int .u8 0, .int .u8 0, .int .u8 0, .int .u8 0, .int .u8 0, .int .u8 0, .int .u8 0, .int .u8 0, .int .u8 0, .int .u8 0] 63)) w.heap.size 64 ∧ (∀ i, (w.alloc (.cells #[.int .u8 0, .int .u8 0, .int .u8 0, .int .u8 0, .int .u8 0, .int .u8 0, .int .u8 0, .int .u8 0, .int .u8 0, .int .u8 0, .int .u8 0, .int .u8 0, .int .u8 0, .int .u8 0, .int .u8 0, .int .u8 0, .int .u8 0, .int .u8 0, .int .u8 0, .int .u8 0, .int .u8 0, .int .u8 0, .int .u8 0, .int .u8 0, .int .u8 0, .int .u8 0, .int .u8 0, .int .u8 0, .int .u8 0, .int .u8 0, .int .u8 0, .int .u8 0, .int .u8 0, .int .u8 0, .int .u8 0, .int .u8 0, .int .u8 0, .int .u8 0, .int .u8 0, .int .u8 0, .int .u8 0, .int .u8 0, .int .u8 0, .int .u8 0, .int .u8 0, .int .u8 0, .int .u8 0, .int .u8 0, .int .u8 0, .int .u8 0, .int .u8 0, .int .u8 0, .int .u8 0, .int .u8 0, .int .u8 0, .int .u8 0, .int .u8 0, .int .u8 0, .int .u8 0, .int .u8 0, .int .u8 0, .int .u8 0, .int .u8 0, .int .u8 0] 63)).frozen? ⟨w.heap.size, i, none⟩ = false) ∧ Below w.heap.size w (w.alloc (.cells #[.int .u8 0, .int .u8 0, .int .u8 0, .int .u8 0, .int .u8 0, .int .u8 0, .int .u8 0, .int .u8 0, .int .u8 0, .int .u8 0, .int .u8 0, .int .u8 0, .int .u8 0, .int .u8 0, .int .u8 0, .int .u8 0, .int .u8 0, .int .u8 0, .int .u8 0, .int .u8 0, .int .u8 0, .int .u8 0, .int .u8 0, .int .u8 0, .int .u8 0, .int .u8 0, .int .u8 0, .int .u8 0, .int .u8 0, .int .u8 0, .int .u8 0, .int .u8 0, .int .u8 0, .int .u8 0, .int .u8 0, .int .u8 0, .int .u8 0, .int .u8 0, .int .u8 0, .int .u8 0, .int .u8 0, .int .u8 0, .int .u8 0, .int .u8 0, .int .u8 0, .int .u8 0, .int .u8 0, .int .u8 0, .int .u8 0, .int .u8 0, .int .u8 0, .int .u8 0, .int .u8 0, .int .u8 0, .int .u8 0, .int .u8 0, .int .u8 0, .int .u8 0, .int .u8 0, .int .u8 0, .int .u8 0, .int .u8 0, .int .u8 0, .int .u8 0] 63)) ∧ w.heap.size < (w.alloc (.cells #[.int .u8 0, .int .u8 0, .int .u8 0, .int .u8 0, .int .u8 0, .int .u8 0, .int .u8 0, .int .u8 0, .int .u8 0, .int .u8 0, .int .u8 0, .int .u8 0, .int .u8 0, .int .u8 0, .int .u8 0, .int .u8 0, .int .u8 0, .int .u8 0, .int .u8 0, .int .u8 0, .int .u8 0, .int .u8 0, .int .u8 0, .int .u8 0, .int .u8 0, .int .u8 0, .int .u8 0, .int .u8 0, .int .u8 0, .int .u8 0, .int .u8 0, .int .u8 0, .int .u8 0, .int .u8 0, .int .u8 0, .int .u8 0, .int .u8 0, .int .u8 0, .int .u8 0, .int .u8 0, .int .u8 0, .int .u8 0, .int .u8 0, .int .u8 0, .int .u8 0, .int .u8 0, .int .u8 0, .int .u8 0, .int .u8 0, .int .u8 0, .int .u8 0, .int .u8 0, .int .u8 0, .int .u8 0, .int .u8 0, .int .u8 0, .int .u8 0, .int .u8 0, .int .u8 0, .int .u8 0, .int .u8 0, .int .u8 0, .int .u8 0, .int .u8 0] 63)).heap.size := by
  have hh := heap_alloc_new w (.cells #[.int .u8 0, .int .u8 0, .int .u8 0, .int .u8 0, .int .u8 0, .int .u8 0, .int .u8 0, .int .u8 0, .int .u8 0, .int .u8 0, .int .u8 0, .int .u8 0, .int .u8 0, .int .u8 0, .int .u8 0, .int .u8 0, .int .u8 0, .int .u8 0, .int .u8 0, .int .u8 0, .int .u8 0, .int .u8 0, .int .u8 0, .int .u8 0, .int .u8 0, .int .u8 0, .int .u8 0, .int .u8 0, .int .u8 0, .int .u8 0, .int .u8 0, .int .u8 0, .int .u8 0, .int .u8 0, .int .u8 0, .int .u8 0, .int .u8 0, .int .u8 0, .int .u8 0, .int .u8 0, .int .u8 0, .int .u8 0, .int .u8 0, .int .u8 0, .int .u8 0, .int .u8 0, .int .u8 0, .int .u8 0, .int .u8 0, .int .u8 0, .int .u8 0, .int .u8 0, .int .u8 0, .int .u8 0, .int .u8 0, .int .u8 0, .int .u8 0, .int .u8 0, .int .u8 0, .int .u8 0, .int .u8 0, .int .u8 0, .int .u8 0, .int .u8 0] 63)
  refine ⟨fun i hi => ⟨0, by omega, by omega, ?_⟩, fun i => frozen_of_row _ _ i _ _ hh, (Below.refl _ _).alloc (Nat.le_refl _) _, by simp⟩
  rw [cell_of_row _ _ i _ _ _ hh, show #[.int .u8 0, .int .u8 0, .int .u8 0, .int .u8 0, .int .u8 0, .int .u8 0, .int .u8 0, .int .u8 0, .int .u8 0, .int .u8 0, .int .u8 0, .int .u8 0, .int .u8 0, .int .u8 0, .int .u8 0, .int .u8 0, .int .u8 0, .int .u8 0, .int .u8 0, .int .u8 0, .int .u8 0, .int .u8 0, .int .u8 0, .int .u8 0, .int .u8 0, .int .u8 0, .int .u8 0, .int .u8 0, .int .u8 0, .int .u8 0, .int .u8 0, .int .u8 0, .int .u8 0, .int .u8 0, .int .u8 0, .int .u8 0, .int .u8 0, .int .u8 0, .int .u8 0, .int .u8 0, .int .u8 0, .int .u8 0, .int .u8 0, .int .u8 0, .int .u8 0, .int .u8 0, .int .u8 0, .int .u8 0, .int .u8 0, .int .u8 0, .int .u8 0, .int .u8 0, .int .u8 0, .int .u8 0, .int .u8 0, .int .u8 0, .int .u8 0, .int .u8 0, .int .u8 0, .int .u8 0, .int .u8 0, .int .u8 0, .int .u8 0, .int .u8 0] = Array.replicate 64 (Value.int .u8 0) from rfl, Array.getElem?_replicate, if_pos hi]
theorem pb_blk {w W : World} {P c : Nat} {s : Str} (h : PB w (some ⟨P, 0, none⟩) c s) (he : W.heap[P]? = w.heap[P]?) (hl : P < W.heap.size) : PB W (some ⟨P, 0, none⟩) c s :=
  ⟨h.capl, fun h0 => by
    obtain ⟨b, off, e1, e2, e3⟩ := h.at_ h0
    cases e1
    refine ⟨P, 0, rfl, hl, fun i hi j u hu => ?_⟩
    rw [World.cell?_of_block (a := ⟨P, 0 + i * 1 + j, none⟩) he]
    exact e3 i hi j u hu, h.nil⟩
theorem enter8 (x y : Value) (w : World) : (callFunc 8 #[x, y]).run Tryd.prog w = .ok (.enter 8 #[x, y]) w := by kernel_rfl
theorem tk_len {ls : List Str} {i n : Nat} (h : ls.length = n) (hi : i ≤ n) : (ls.take i).length = i := by rw [List.length_take]; omega
set_option maxRecDepth 40000 in
set_option maxHeartbeats 8000000 in
theorem apart_any {w0 w : World} {B : Nat} {v : Value} {hs : List Value} {ls : List Str} (hL : LL w0 w B v hs ls) (hok : okL ls) (hn : ls.length ≤ 20000) : Calls Tryd.prog 16 #[v] w fun e w' => e = .returned (.bool true) ∧ Below B w w' := by
  obtain ⟨a, cap, hv, hrow⟩ := ll_row hL
  obtain ⟨n, HN⟩ : ∃ n, Hid (ls.length = n) := ⟨_, rfl⟩
  obtain ⟨G, HG⟩ : ∃ G, Hid (w.heap.size = G) := ⟨_, rfl⟩
  rw [HN.out] at hv hrow hn
  subst hv
  have HLW : Hid (∀ W, Below G w W → LL w0 W B (.slice a n cap) hs ls) := hid (fun W hW => hL.below (by rw [HG.out]; exact hW))
  have HFA : Hid (0 < n → ∃ g, a = some ⟨g, 0, none⟩ ∧ B ≤ g ∧ g < G ∧ ∀ W, Below G w W → ∀ i, i < n → W.cell? ⟨g, i, none⟩ = some (hs.getD i undef)) := hid (fun h0 => by
    obtain ⟨g, h1, h2, h3, h4, h5⟩ := hrow h0
    rw [HG.out] at h4
    exact ⟨g, h1, h3, h4, fun W hW i hi => (hW.cell (p := ⟨g, i, none⟩) h4).trans (h5 i hi)⟩)
  have HOK := hid hok
  have HBG : Hid (B ≤ G) := hid (by rw [← HG.out]; exact hL.le)
  have S0 : Hid (LL w w G (.slice none 0 0) [] []) := hid (ll_nil w G HG.out.symm)
  have HOWN : Hid (∀ i, i < n → ∀ k, (hs.getD i undef).ownBlock = some k → B ≤ k ∧ k < G) := hid (fun i hi k hk => by
    have := own_lt (hL.each i (by rw [HN.out]; exact hi)) k hk
    rw [HG.out] at this
    exact this)
  clear hL hrow hok
  go_enter Tryd.func16, Tryd.ntmps16
  go_wp2_with fail
  go_loopg [3, 4] n (fun gg kv iv wr => ∃ (i : Nat) (ks : List Value), iv = .int .i64 i ∧ i ≤ n ∧ gg = n - i ∧ Hid (LL w wr G kv ks (ls.take i)))
  case atStart => exact ⟨0, [], rfl, Nat.zero_le _, rfl, S0⟩
  case round =>
    obtain ⟨i, ks, rfl, hi, hk, HK⟩ := hrel
    have hGr : G ≤ wr.heap.size := HK.out.le
    by_cases hlt : i < n
    · have hlti : (i : Int) < (n : Int) := by omega
      obtain ⟨g, rfl, _, hgG, hcell⟩ := HFA.out (by omega)
      have HLr := hid (HLW.out wr HK.out.bl)
      obtain ⟨s, HS⟩ : ∃ s, Hid (ls.getD i [] = s) := ⟨_, rfl⟩
      have hil : i < ls.length := by rw [HN.out]; exact hlt
      have HTK : Hid (ls.take (i + 1) = ls.take i ++ [s]) := hid (by rw [← HS.out]; exact take_snocG [] ls i hil)
      have HSL : Hid (s.length ≤ 1000) := hid (by rw [← HS.out]; exact HOK.out _ (getD_mem ls i [] hil))
      have own1 := HLr.out.each i hil
      rw [HS.out] at own1
      obtain ⟨ai, ci, hvi, hpi, _⟩ := own_pb own1
      obtain ⟨q, HQ⟩ : ∃ q, Hid (s.length = q) := ⟨_, rfl⟩
      rw [HQ.out] at hvi
      have kc : wr.cell? ⟨g, i, none⟩ = some (.slice ai q ci) := by rw [hcell wr HK.out.bl i hlt, hvi]
      have HPI := hid hpi
      have hOwn0 : Hid (wr.ownsRow wr.heap.size 5 1 (.slice none 0 0) ([] : Str).length (bv [])) := hid ⟨rfl, .inl ⟨rfl, rfl⟩⟩
      obtain ⟨M, HM⟩ : ∃ M, Hid (wr.heap.size = M) := ⟨_, rfl⟩
      rw [HM.out] at hOwn0
      have hMle : M ≤ wr.heap.size := by rw [HM.out]; exact Nat.le_refl _
      clear hil own1 hvi hpi hcell
      go_wp2_with (first | (at_builtin; refine wpList_own rfl _ _ rfl M _ [] rfl hOwn0.out hMle ai ci s (by rw [HQ.out]; rfl) HPI.out (by have := HSL.out; simp; omega) ?_; intro u w2 ho2 hg2 hl2; refine Hid.out ?_) | fail)
      refine hid ?_
      have hb2 : Below wr.heap.size wr w2 := ⟨hg2.os, hg2.tape, hg2.output, hg2.size, fun k hk => hg2.block k hk (fun e => by change some k = none at e; cases e)⟩
      have hu : w2.ownsRow M 5 1 u s.length (bv s) := by simpa using ho2
      have hll2 := HK.out.below hb2
      obtain ⟨ho1, ho3⟩ := own_hdr hu
      have hbs := run_hdr u ho1 ho3 w2
      have hdl : (ls.take i).length ≤ 20000 := by rw [tk_len HN.out hi]; omega
      obtain ⟨v5, W5, hr5, hl5⟩ := (hll2.below ((Below.refl _ w2).alloc (Nat.le_refl _) (.cells #[u] 23))).more hdl (hu.alloc (.cells #[u] 23)) (by rw [← HM.out]; exact HK.out.le) (fun i' hi' q hq => by
        have h1 := HK.out.each i' hi'
        rw [← HM.out]
        exact (own_lt h1 q hq).2) w2.heap.size (by
        have := cell_of_row (w2.alloc (.cells #[u] 23)) w2.heap.size 0 _ 23 (0, 0) (heap_alloc_new w2 _)
        rw [this]; rfl) 22
      obtain ⟨W3, HW3⟩ : ∃ W, Hid (w2.alloc (.cells #[u] 23) = W) := ⟨_, rfl⟩
      rw [HW3.out] at hr5 hbs
      have al3 : w2.alloc (.cells #[u] 23) = W3 := HW3.out
      have HL5 : Hid (LL w W5 G v5 (ks ++ [u]) (ls.take (i + 1))) := hid (by rw [HTK.out]; exact hl5)
      clear hu hb2 hll2 ho1 ho3 hl5 ho2 hg2 hl2
      go_wp2_with (first | (refine wpList_bSY rfl 22 1 _ rfl u _ rfl hbs ?_) | (at_builtin; refine wpList_app rfl _ _ 22 22 rfl 22 rfl _ _ rfl rfl hr5 ?_) | fail)
      go_roundg (n - (i + 1))
      case measure => omega
      case rel => exact ⟨i + 1, ks ++ [u], by go_num, by omega, rfl, HL5⟩
    · have hlti : ¬ (i : Int) < (n : Int) := by omega
      obtain ⟨w1, rfl⟩ : ∃ x, x = wr := ⟨_, rfl⟩
      have HKS : Hid (LL w w1 G u3 ks ls) := hid (by
        have := HK.out
        rw [List.take_of_length_le (by rw [HN.out]; omega)] at this
        exact this)
      obtain ⟨ka, kcap, hkv, hkrow⟩ := ll_row HKS.out
      rw [HN.out] at hkv hkrow
      subst hkv
      obtain ⟨hpo, hpf, hpb, hpl⟩ := pad_alloc w1
      obtain ⟨P, HP⟩ : ∃ P, Hid (w1.heap.size = P) := ⟨_, rfl⟩
      have HP0 : Hid (Own (w1.alloc (.cells #[.int .u8 0, .int .u8 0, .int .u8 0, .int .u8 0, .int .u8 0, .int .u8 0, .int .u8 0, .int .u8 0, .int .u8 0, .int .u8 0, .int .u8 0, .int .u8 0, .int .u8 0, .int .u8 0, .int .u8 0, .int .u8 0, .int .u8 0, .int .u8 0, .int .u8 0, .int .u8 0, .int .u8 0, .int .u8 0, .int .u8 0, .int .u8 0, .int .u8 0, .int .u8 0, .int .u8 0, .int .u8 0, .int .u8 0, .int .u8 0, .int .u8 0, .int .u8 0, .int .u8 0, .int .u8 0, .int .u8 0, .int .u8 0, .int .u8 0, .int .u8 0, .int .u8 0, .int .u8 0, .int .u8 0, .int .u8 0, .int .u8 0, .int .u8 0, .int .u8 0, .int .u8 0, .int .u8 0, .int .u8 0, .int .u8 0, .int .u8 0, .int .u8 0, .int .u8 0, .int .u8 0, .int .u8 0, .int .u8 0, .int .u8 0, .int .u8 0, .int .u8 0, .int .u8 0, .int .u8 0, .int .u8 0, .int .u8 0, .int .u8 0, .int .u8 0] 63)) P 64 ∧ (∀ i, (w1.alloc (.cells #[.int .u8 0, .int .u8 0, .int .u8 0, .int .u8 0, .int .u8 0, .int .u8 0, .int .u8 0, .int .u8 0, .int .u8 0, .int .u8 0, .int .u8 0, .int .u8 0, .int .u8 0, .int .u8 0, .int .u8 0, .int .u8 0, .int .u8 0, .int .u8 0, .int .u8 0, .int .u8 0, .int .u8 0, .int .u8 0, .int .u8 0, .int .u8 0, .int .u8 0, .int .u8 0, .int .u8 0, .int .u8 0, .int .u8 0, .int .u8 0, .int .u8 0, .int .u8 0, .int .u8 0, .int .u8 0, .int .u8 0, .int .u8 0, .int .u8 0, .int .u8 0, .int .u8 0, .int .u8 0, .int .u8 0, .int .u8 0, .int .u8 0, .int .u8 0, .int .u8 0, .int .u8 0, .int .u8 0, .int .u8 0, .int .u8 0, .int .u8 0, .int .u8 0, .int .u8 0, .int .u8 0, .int .u8 0, .int .u8 0, .int .u8 0, .int .u8 0, .int .u8 0, .int .u8 0, .int .u8 0, .int .u8 0, .int .u8 0, .int .u8 0, .int .u8 0] 63)).frozen? ⟨P, i, none⟩ = false) ∧ Below P w1 (w1.alloc (.cells #[.int .u8 0, .int .u8 0, .int .u8 0, .int .u8 0, .int .u8 0, .int .u8 0, .int .u8 0, .int .u8 0, .int .u8 0, .int .u8 0, .int .u8 0, .int .u8 0, .int .u8 0, .int .u8 0, .int .u8 0, .int .u8 0, .int .u8 0, .int .u8 0, .int .u8 0, .int .u8 0, .int .u8 0, .int .u8 0, .int .u8 0, .int .u8 0, .int .u8 0, .int .u8 0, .int .u8 0, .int .u8 0, .int .u8 0, .int .u8 0, .int .u8 0, .int .u8 0, .int .u8 0, .int .u8 0, .int .u8 0, .int .u8 0, .int .u8 0, .int .u8 0, .int .u8 0, .int .u8 0, .int .u8 0, .int .u8 0, .int .u8 0, .int .u8 0, .int .u8 0, .int .u8 0, .int .u8 0, .int .u8 0, .int .u8 0, .int .u8 0, .int .u8 0, .int .u8 0, .int .u8 0, .int .u8 0, .int .u8 0, .int .u8 0, .int .u8 0, .int .u8 0, .int .u8 0, .int .u8 0, .int .u8 0, .int .u8 0, .int .u8 0, .int .u8 0] 63)) ∧ P < (w1.alloc (.cells #[.int .u8 0, .int .u8 0, .int .u8 0, .int .u8 0, .int .u8 0, .int .u8 0, .int .u8 0, .int .u8 0, .int .u8 0, .int .u8 0, .int .u8 0, .int .u8 0, .int .u8 0, .int .u8 0, .int .u8 0, .int .u8 0, .int .u8 0, .int .u8 0, .int .u8 0, .int .u8 0, .int .u8 0, .int .u8 0, .int .u8 0, .int .u8 0, .int .u8 0, .int .u8 0, .int .u8 0, .int .u8 0, .int .u8 0, .int .u8 0, .int .u8 0, .int .u8 0, .int .u8 0, .int .u8 0, .int .u8 0, .int .u8 0, .int .u8 0, .int .u8 0, .int .u8 0, .int .u8 0, .int .u8 0, .int .u8 0, .int .u8 0, .int .u8 0, .int .u8 0, .int .u8 0, .int .u8 0, .int .u8 0, .int .u8 0, .int .u8 0, .int .u8 0, .int .u8 0, .int .u8 0, .int .u8 0, .int .u8 0, .int .u8 0, .int .u8 0, .int .u8 0, .int .u8 0, .int .u8 0, .int .u8 0, .int .u8 0, .int .u8 0, .int .u8 0] 63)).heap.size) := hid (by rw [← HP.out]; exact ⟨hpo, hpf, hpb, hpl⟩)
      have HKR := hid hkrow
      clear hpo hpf hpb hpl hkrow
      go_wp2_with fail
      rw [HP.out]
      go_loopg [7] 64 (fun gg jv w2 => ∃ j : Nat, jv = .int .i64 j ∧ j ≤ 64 ∧ gg = 64 - j ∧ Hid (Own w2 P 64 ∧ (∀ i, w2.frozen? ⟨P, i, none⟩ = false) ∧ Below P w1 w2 ∧ P < w2.heap.size))
      case atStart => exact ⟨0, rfl, Nat.zero_le _, rfl, HP0⟩
      case round =>
        obtain ⟨w2, rfl⟩ : ∃ x, x = wr := ⟨_, rfl⟩
        obtain ⟨j, rfl, hj, hk2, HO⟩ := hrel
        by_cases hlt2 : j < 64
        · have hlt2i : (j : Int) < 64 := by omega
          obtain ⟨ov, ho1, ho2, hcell⟩ := HO.out.1 j hlt2
          have hf := HO.out.2.1 j
          have hwu : IntKind.u8.wrap (161 + (j : Int)) = 161 + (j : Int) := by rw [IntKind.wrap_u8]; omega
          have hwi : IntKind.i64.wrap (161 + (j : Int)) = 161 + (j : Int) := by rw [IntKind.wrap_i64]; omega
          go_wp2
          go_roundg (64 - (j + 1))
          case measure => omega
          case rel => exact ⟨j + 1, by go_num, by omega, rfl, hid ⟨HO.out.1.set j _ (by omega) (by omega), fun i => by rw [World.frozen?_setCell]; exact HO.out.2.1 i, below_setCells (Nat.le_refl _) [_] j w1 w2 HO.out.2.2.1, by have := HO.out.2.2.2; rw [← size_setCells P [.int .u8 (161 + (j : Int))] j w2] at this; exact this⟩⟩
        · have hlt2i : ¬ (j : Int) < 64 := by omega
          have HB3 : Hid (Below G w w2) := hid (HKS.out.bl.trans (HO.out.2.2.1.mono (by rw [← HP.out]; exact HKS.out.le)))
          have HL3 := hid (HLW.out w2 HB3.out)
          have HK3 : Hid (LL w w2 G (.slice ka n kcap) ks ls) := hid (HKS.out.below (by rw [HP.out]; exact HO.out.2.2.1))
          obtain ⟨pad, hpl, hpp⟩ := own_pad HO.out.1 HO.out.2.2.2
          have HPP := hid hpp
          have HPL := hid hpl
          have HGP : Hid (G ≤ P) := hid (by rw [← HP.out]; exact HKS.out.le)
          have HPW : Hid (P < w2.heap.size) := hid HO.out.2.2.2
          have HROW : Hid (∀ g, a = some ⟨g, 0, none⟩ → ∀ W i', P3 B w2 W hs ls i' → 0 < n → W.heap[g]? = w2.heap[g]?) := hid (fun g hg W i' h3 h0 => by
            subst hg
            have hob : (Value.slice (some ⟨g, 0, none⟩) n cap).ownBlock = some g := rfl
            have hlt := (own_lt HL3.out.row g hob).2
            refine h3.blk g hlt (fun j _ hj e => ?_)
            have := own_ty (HL3.out.each j hj) HL3.out.row e hob
            cases this)
          have HPBW : Hid (∀ W i', P3 B w2 W hs ls i' → PB W (some ⟨P, 0, none⟩) 64 pad) := hid (fun W i' h3 => pb_blk HPP.out (h3.blk P HPW.out (fun j _ hj e => by
            have h1 := (HOWN.out j (by rw [← HN.out]; exact hj) P e).2
            have h2 := HGP.out
            omega)) (Nat.lt_of_lt_of_le HPW.out h3.size))
          have HP30 : Hid (P3 B w2 w2 hs ls 0) := hid ⟨Below.refl _ _, HL3.out.le, Nat.le_refl _, fun _ _ _ => rfl, fun _ _ _ _ _ _ => rfl⟩
          clear hpp hpl
          go_wp2_with fail
          go_loopg [8, 9] n (fun gg nv iv w3 => ∃ i3 q : Nat, nv = .int .i64 q ∧ iv = .int .i64 i3 ∧ i3 ≤ n ∧ gg = n - i3 ∧ Hid (64 * i3 ≤ q ∧ q ≤ 2000 * i3) ∧ Hid (P3 B w2 w3 hs ls i3))
          case atStart => exact ⟨0, 0, rfl, rfl, Nat.zero_le _, rfl, hid ⟨by omega, by omega⟩, HP30⟩
          case round =>
            obtain ⟨w3, rfl⟩ : ∃ x, x = wr := ⟨_, rfl⟩
            obtain ⟨i3, q, rfl, rfl, hi3, hk3, HQ, HP3⟩ := hrel
            by_cases hlt3 : i3 < n
            · have hlt3i : (i3 : Int) < (n : Int) := by omega
              obtain ⟨g, rfl, hBg, hgG, hcell⟩ := HFA.out (by omega)
              have hil : i3 < ls.length := by rw [HN.out]; exact hlt3
              obtain ⟨U, HU⟩ : ∃ U, Hid (hs.getD i3 undef = U) := ⟨_, rfl⟩
              obtain ⟨m, HM⟩ : ∃ m, Hid ((ls.getD i3 []).length + 64 = m) := ⟨_, rfl⟩
              have HS : Hid (∀ W i', P3 B w2 W hs ls i' → W.cell? ⟨g, i3, none⟩ = some U) := hid (fun W i' h3 => by
                rw [World.cell?_of_block (a := ⟨g, i3, none⟩) (HROW.out g rfl W i' h3 (by omega)), hcell w2 HB3.out i3 hlt3, HU.out])
              have HPd : Hid (P3 B w2 w3.drew hs ls i3) := hid HP3.out.drew
              have HSL : Hid ((ls.getD i3 []).length ≤ 1000) := hid (HOK.out _ (getD_mem ls i3 [] hil))
              have hqb : q ≤ 2000 * i3 := HQ.out.2
              have hmb : m ≤ 1064 := by rw [← HM.out]; have := HSL.out; omega
              have hm64 : 64 ≤ m := by rw [← HM.out]; omega
              clear hcell
              go_wp2_with fail
              refine wp_region_held_drew (S := fun W => W.cell? ⟨g, i3, none⟩ = some U) (by kernel_rfl) (HS.out _ _ HPd.out) (fun hHeld => ?_)
              generalize w3.drew = wd at hHeld HPd ⊢
              refine takeL (i := 0) (v := ?_) rfl (by kernel_rfl) (by kernel_rfl) (by kernel_rfl) (fun _ _ _ h => h) (Or.inl ⟨by rfl, ?_⟩) hHeld ?_
              rotate_left
              · rintro w' hc; go_simp; rfl
              try simp only [Act.put, List.setIfInBounds_toArray, List.set_cons_zero, List.set_cons_succ]
              refine takeL (i := 1) (v := ?_) rfl (by kernel_rfl) (by kernel_rfl) (by kernel_rfl) (fun _ _ _ h => h) (Or.inl ⟨by rfl, ?_⟩) hHeld ?_
              rotate_left
              · rintro w' hc; go_simp; rfl
              try simp only [Act.put, List.setIfInBounds_toArray, List.set_cons_zero, List.set_cons_succ]
              refine takeL (i := 2) (v := .pointer (some ⟨g, i3, none⟩)) rfl (by kernel_rfl) (by kernel_rfl) (by kernel_rfl) (fun _ _ _ h => h) (Or.inl ⟨by rfl, ?_⟩) hHeld ?_
              · rintro w' hc; go_simp; try rfl
              try simp only [Act.put, List.setIfInBounds_toArray, List.set_cons_zero, List.set_cons_succ]
              refine takeL (i := 3) (v := U) rfl (by kernel_rfl) (by kernel_rfl) (by kernel_rfl) (fun _ _ _ h => h) (Or.inl ⟨by rfl, ?_⟩) hHeld ?_
              · rintro w' hc; go_simp; try rfl
              try simp only [Act.put, List.setIfInBounds_toArray, List.set_cons_zero, List.set_cons_succ]
              refine takeL (i := 4) (v := .slice (some ⟨P, 0, none⟩) 64 64) rfl (by kernel_rfl) (by kernel_rfl) (by kernel_rfl) (fun _ _ _ h => h) (Or.inl ⟨by rfl, ?_⟩) hHeld ?_
              · rintro w' hc; go_simp; try rfl
              try simp only [Act.put, List.setIfInBounds_toArray, List.set_cons_zero, List.set_cons_succ]
              obtain ⟨a5, c5, W5, hr5, hp5, hg5⟩ := HPd.out.step HL3.out hil HSL.out (HPBW.out _ _ HPd.out) (by rw [HPL.out]; omega) (by rw [HPL.out]; omega)
              rw [HPL.out, HU.out, HM.out] at hr5
              refine wpAnyH_ready (rs := [5]) (by kernel_rfl) (by simp) ?_
              refine consL rfl (fun KK hKK => ?_) AllReadyH.nil
              refine step_exec (by rfl) (.slice a5 m c5) (w' := W5) (exec_app (.tmp 48) (.tmp 49) (by rfl) (by rfl) _ _ (by rfl) (by rfl) hr5) ?_
              refine hKK.out _ _ (HS.out _ _ hp5) (fun hHeld2 => ?_)
              have HP5 := hid hp5
              clear hKK KK hp5 hg5 hr5 hil
              try simp only [Act.put, List.setIfInBounds_toArray, List.set_cons_zero, List.set_cons_succ]
              refine takeL (i := 6) (v := ?_) rfl (by kernel_rfl) (by kernel_rfl) (by kernel_rfl) (fun _ _ _ h => h) (Or.inl ⟨by rfl, ?_⟩) hHeld2 ?_
              rotate_left
              · rintro w' hc; go_simp; rfl
              try simp only [Act.put, List.setIfInBounds_toArray, List.set_cons_zero, List.set_cons_succ]
              refine wpAnyH_done (by kernel_rfl) ?_ _
              clear hHeld hHeld2
              go_wp2
              go_roundg (n - (i3 + 1))
              case measure => omega
              case rel => exact ⟨i3 + 1, q + m, by go_num, by go_num, by omega, rfl, hid ⟨by have := HQ.out.1; omega, by omega⟩, HP5⟩
            · have hlt3i : ¬ (i3 : Int) < (n : Int) := by omega
              have hi3n : i3 = n := by omega
              subst hi3n
              have hge : 64 * (i3 : Int) ≤ (q : Int) := by have := HQ.out.1; omega
              have hqb : q ≤ 2000 * i3 := HQ.out.2
              have HA : Hid (0 < i3 → ∃ g gk, a = some ⟨g, 0, none⟩ ∧ ka = some ⟨gk, 0, none⟩ ∧ AP g hs ls w3 ∧ AP gk ks ls w3) := hid (fun h0 => by
                obtain ⟨g, hga, _⟩ := HFA.out h0
                obtain ⟨gk, hka, hob, hGg, hgl, _⟩ := HKR.out h0
                have hout : ∀ k, G ≤ k → ∀ j, j < i3 → j < ls.length → (hs.getD j undef).ownBlock ≠ some k := fun k hk j hj hjl e => by
                  have := (HOWN.out j (by rw [← HN.out]; exact hjl) k e).2
                  omega
                have hob3 := (own_lt HK3.out.row gk hob)
                refine ⟨g, gk, hga, hka, ap_mv HL3.out HP3.out.size g (by rw [hga]; rfl) (by rw [HN.out]; exact h0) (HROW.out g hga w3 _ HP3.out h0) HP3.out.pre, ap_mv HK3.out HP3.out.size gk hob (by rw [HN.out]; exact h0) (HP3.out.blk gk hob3.2 (hout gk hob3.1)) (fun j hj k hk q hq => ?_)⟩
                have h4 := own_lt (HK3.out.each j hj) k hk
                exact World.cell?_of_block (a := ⟨k, q, none⟩) (HP3.out.blk k h4.2 (hout k h4.1)))
              have HB4 : Hid (Below B w w3) := hid ((HB3.out.mono HBG.out).trans HP3.out.bl)
              have HZ := hid HP3.out.size
              go_wp2_with fail
              go_loopg [11, 12] i3 (fun gg okv iv w4 => ∃ i4 : Nat, okv = .bool true ∧ iv = .int .i64 i4 ∧ i4 ≤ i3 ∧ gg = i3 - i4 ∧ Hid (Below w3.heap.size w3 w4))
              case atStart => exact ⟨0, rfl, rfl, Nat.zero_le _, rfl, hid (Below.refl _ _)⟩
              case round =>
                obtain ⟨w4, rfl⟩ : ∃ x, x = wr := ⟨_, rfl⟩
                obtain ⟨i4, rfl, rfl, hi4, hk4, HB5⟩ := hrel
                by_cases hlt4 : i4 < i3
                · have hlt4i : (i4 : Int) < (i3 : Int) := by omega
                  obtain ⟨g, gq, rfl, rfl, hA, hK⟩ := HA.out (by omega)
                  have hil : i4 < ls.length := by rw [HN.out]; exact hlt4
                  obtain ⟨s, HS⟩ : ∃ s, Hid (ls.getD i4 [] = s) := ⟨_, rfl⟩
                  obtain ⟨m, HM⟩ : ∃ m, Hid (s.length = m) := ⟨_, rfl⟩
                  obtain ⟨xa, xc, hx, hpx⟩ := hA.each i4 hil
                  obtain ⟨ya, yc, hy, hpy⟩ := hK.each i4 hil
                  rw [HS.out] at hx hpx hy hpy
                  rw [HM.out] at hx hy
                  have HSS : Hid (∀ W, Below w3.heap.size w3 W → W.cell? ⟨g, i4, none⟩ = some (.slice xa m xc) ∧ W.cell? ⟨gq, i4, none⟩ = some (.slice ya m yc)) := hid (fun W hW => ⟨by rw [(hA.below hW).row i4 hil, hx], by rw [(hK.below hW).row i4 hil, hy]⟩)
                  have HSL : Hid (s.length ≤ 1000) := hid (by rw [← HS.out]; exact HOK.out _ (getD_mem ls i4 [] hil))
                  have C8 : Hid (∀ W, Below w3.heap.size w3 W → Calls Tryd.prog 8 #[.slice xa m xc, .slice ya m yc] W fun e w' => e = .returned (.bool true) ∧ Below W.heap.size W w') := hid (fun W hW => by
                    have := sameB xa ya xc yc s (hpx.below hW) (hpy.below hW) (by have := HSL.out; omega)
                    rw [HM.out] at this
                    exact this)
                  have HBd : Hid (Below w3.heap.size w3 w4.drew) := hid (Below.drewR HB5.out)
                  clear hx hpx hy hpy hA hK hil
                  go_wp2_with fail
                  refine wp_region_held_drew (S := fun W => W.cell? ⟨g, i4, none⟩ = some (.slice xa m xc) ∧ W.cell? ⟨gq, i4, none⟩ = some (.slice ya m yc)) (by kernel_rfl) (HSS.out _ HBd.out) (fun hHeld => ?_)
                  generalize w4.drew = wd at hHeld HBd ⊢
                  refine takeL (i := 0) (v := ?_) rfl (by kernel_rfl) (by kernel_rfl) (by kernel_rfl) (fun _ _ _ h => h) (Or.inl ⟨by rfl, ?_⟩) hHeld ?_
                  rotate_left
                  · rintro w' ⟨hc1, hc2⟩; go_simp; rfl
                  try simp only [Act.put, List.setIfInBounds_toArray, List.set_cons_zero, List.set_cons_succ]
                  refine takeL (i := 1) (v := ?_) rfl (by kernel_rfl) (by kernel_rfl) (by kernel_rfl) (fun _ _ _ h => h) (Or.inl ⟨by rfl, ?_⟩) hHeld ?_
                  rotate_left
                  · rintro w' ⟨hc1, hc2⟩; go_simp; rfl
                  try simp only [Act.put, List.setIfInBounds_toArray, List.set_cons_zero, List.set_cons_succ]
                  refine takeL (i := 2) (v := .pointer (some ⟨g, i4, none⟩)) rfl (by kernel_rfl) (by kernel_rfl) (by kernel_rfl) (fun _ _ _ h => h) (Or.inl ⟨by rfl, ?_⟩) hHeld ?_
                  · rintro w' ⟨hc1, hc2⟩; go_simp; try rfl
                  try simp only [Act.put, List.setIfInBounds_toArray, List.set_cons_zero, List.set_cons_succ]
                  refine takeL (i := 3) (v := .slice xa m xc) rfl (by kernel_rfl) (by kernel_rfl) (by kernel_rfl) (fun _ _ _ h => h) (Or.inl ⟨by rfl, ?_⟩) hHeld ?_
                  · rintro w' ⟨hc1, hc2⟩; go_simp; try rfl
                  try simp only [Act.put, List.setIfInBounds_toArray, List.set_cons_zero, List.set_cons_succ]
                  refine takeL (i := 4) (v := ?_) rfl (by kernel_rfl) (by kernel_rfl) (by kernel_rfl) (fun _ _ _ h => h) (Or.inl ⟨by rfl, ?_⟩) hHeld ?_
                  rotate_left
                  · rintro w' ⟨hc1, hc2⟩; go_simp; rfl
                  try simp only [Act.put, List.setIfInBounds_toArray, List.set_cons_zero, List.set_cons_succ]
                  refine takeL (i := 5) (v := ?_) rfl (by kernel_rfl) (by kernel_rfl) (by kernel_rfl) (fun _ _ _ h => h) (Or.inl ⟨by rfl, ?_⟩) hHeld ?_
                  rotate_left
                  · rintro w' ⟨hc1, hc2⟩; go_simp; rfl
                  try simp only [Act.put, List.setIfInBounds_toArray, List.set_cons_zero, List.set_cons_succ]
                  refine takeL (i := 6) (v := .pointer (some ⟨gq, i4, none⟩)) rfl (by kernel_rfl) (by kernel_rfl) (by kernel_rfl) (fun _ _ _ h => h) (Or.inl ⟨by rfl, ?_⟩) hHeld ?_
                  · rintro w' ⟨hc1, hc2⟩; go_simp; try rfl
                  try simp only [Act.put, List.setIfInBounds_toArray, List.set_cons_zero, List.set_cons_succ]
                  refine takeL (i := 7) (v := .slice ya m yc) rfl (by kernel_rfl) (by kernel_rfl) (by kernel_rfl) (fun _ _ _ h => h) (Or.inl ⟨by rfl, ?_⟩) hHeld ?_
                  · rintro w' ⟨hc1, hc2⟩; go_simp; try rfl
                  try simp only [Act.put, List.setIfInBounds_toArray, List.set_cons_zero, List.set_cons_succ]
                  refine wpAnyH_ready (rs := [8]) (by kernel_rfl) (by simp) ?_
                  refine consL rfl (fun KK hKK => ?_) AllReadyH.nil
                  refine step_callv (by rfl) 8 [.tmp 69, .tmp 73] _ [.slice xa m xc, .slice ya m yc] _ (by rfl) (by rfl) (enter8 _ _) (C8.out wd HBd.out) ?_
                  rintro e w5 ⟨rfl, hb5⟩
                  have HB6 : Hid (Below w3.heap.size w3 w5) := hid (HBd.out.trans (hb5.mono HBd.out.size))
                  clear hb5
                  refine ⟨_, rfl, ?_⟩
                  refine hKK.out _ _ (HSS.out _ HB6.out) (fun hHeld2 => ?_)
                  clear hKK KK
                  try simp only [Act.put, List.setIfInBounds_toArray, List.set_cons_zero, List.set_cons_succ]
                  refine takeL (i := 9) (v := ?_) rfl (by kernel_rfl) (by kernel_rfl) (by kernel_rfl) (fun _ _ _ h => h) (Or.inl ⟨by rfl, ?_⟩) hHeld2 ?_
                  rotate_left
                  · rintro w' ⟨hc1, hc2⟩; go_simp; rfl
                  try simp only [Act.put, List.setIfInBounds_toArray, List.set_cons_zero, List.set_cons_succ]
                  refine wpAnyH_done (by kernel_rfl) ?_ _
                  clear hHeld hHeld2
                  go_wp2
                  go_roundg (i3 - (i4 + 1))
                  case measure => omega
                  case rel => exact ⟨i4 + 1, rfl, by go_num, by omega, rfl, HB6⟩
                · have hlt4i : ¬ (i4 : Int) < (i3 : Int) := by omega
                  have HBF : Hid (Below B w w4) := hid (HB4.out.trans (HB5.out.mono (Nat.le_trans HP3.out.le HZ.out)))
                  go_wp2
                  go_ret
                  exact ⟨rfl, HBF.out⟩
end Go.Proofs.YtbcbikdfidmecaaDoor
