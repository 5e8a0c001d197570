/- The finder's 'lead'. -/
import Derived.Test.YtblegkefeiefjaaDoorFnD
namespace Go.Proofs.YtblegkefeiefjaaDoor
open Go.RowKit Go.Maps
set_option linter.unusedVariables false
set_option linter.unusedSimpArgs false

theorem Rep.retar {B g : Nat} {w : World} {F : Fn} (h : Rep B w g F) {e : Nat} (t : Nat) (he : e < F.K) : Rep B (w.setCell ⟨F.eb, e * 3, none⟩ (.int .i32 t)) g (F.retar e t) ∧ Below B w (w.setCell ⟨F.eb, e * 3, none⟩ (.int .i32 t)) := by
  obtain ⟨a1, a2, a3, a4, a5, a6⟩ := h.ap
  have f1 : ∀ k, k ≠ F.eb → (w.setCell ⟨F.eb, e * 3, none⟩ (.int .i32 t)).heap[k]? = w.heap[k]? := fun k hk => Below.heap_setCell w _ _ k hk
  have hr := h.ed.set he (show 0 < 3 by omega) (.int .i32 t)
  rw [Nat.add_zero] at hr
  refine ⟨⟨(f1 g a2).trans h.fin, h.st.kept (f1 _ a4), hr.congr (fun s' k' hs' hk' => ?_), h.mp.kept (f1 _ (Ne.symm a6)), h.Bg, h.Bs, h.Be, h.Bm, h.csl, h.mnl⟩, (Below.refl _ _).setCell h.Be _⟩
  by_cases hq : s' = e ∧ k' = 0
  · obtain ⟨rfl, rfl⟩ := hq
    simp [Fn.edv, Fn.retar, upd]
  · rw [if_neg hq]
    have hk : k' = 0 ∨ k' = 1 ∨ k' = 2 := by omega
    rcases hk with rfl | rfl | rfl
    · have hne : s' ≠ e := fun e => hq ⟨e, rfl⟩
      simp [Fn.edv, Fn.retar, upd, hne]
    · rfl
    · rfl
theorem SameF.trans' {F G H : Fn} (h : SameF F G) (k : SameF G H) : SameF F H := h.trans k
def mu (F : Fn) : Option Nat → Nat
  | none => 0
  | some q => F.lon q + 1
set_option maxRecDepth 10000 in
set_option maxHeartbeats 2000000 in
theorem lead_any {B g : Nat} {F : Fn} (o0 : Option Nat) (x fr to : Nat) (hx : x < 256) (w : World) (hR : Rep B w g F) (hG : Gr F) (hto : to < F.N) (hch : ∀ q p, q < F.N → F.sh q = some p → p < F.N ∧ F.lon p < F.lon q) (ho : ∀ q, o0 = some q → q < F.N) (hf0 : fr ≠ 0) (hfr : fr < 300000) :
    Calls Tryd.prog 45 #[.pointer (some ⟨g, 0, none⟩), .int .i32 (shI o0), .int .u8 x, .int .i32 fr, .int .i32 to] w fun e w' => (∃ v, e = .returned v) ∧ ∃ F', Lead x fr to o0 F F' ∧ Rep B w' g F' ∧ Below B w w' := by
  have HCH : Hid _ := hch
  have hNl := hR.st.le
  have hcl := hR.csl
  have hN : F.N ≤ 300000 := by omega
  clear hNl hcl hch
  go_enter Tryd.func45, Tryd.ntmps45
  go_wp2_with fail
  go_loopg [1] (mu F o0) (fun k v wr => ∃ (o : Option Nat) (Fc : Fn), v = .int .i32 (shI o) ∧ k = mu F o ∧ Hid (Rep B wr g Fc) ∧ Hid (Gr Fc) ∧ Hid (Below B w wr) ∧ Hid (SameF F Fc) ∧ Hid (∀ q, o = some q → q < F.N) ∧ Hid (∀ F', Lead x fr to o Fc F' → Lead x fr to o0 F F'))
  case atStart => exact ⟨o0, F, rfl, rfl, hR, hG, Below.refl _ _, SameF.refl _, ho, fun _ h => h⟩
  case round =>
    obtain ⟨o, Fc, rfl, hk, HR, HG, HB, HS, HO, HL⟩ := hrel
    cases o with
    | none =>
      simp only [shI]
      go_wp2_with fail
      go_end0
      exact ⟨⟨_, rfl⟩, Fc, HL.out _ (.none _), HR.out, HB.out⟩
    | some q =>
      have hq := HO.out q rfl
      have hqN : q < 300000 := by omega
      have hqI : ¬ (q : Int) = -1 := by omega
      have E := edge_any q x (by omega) hx wr HR.out
      obtain ⟨e, HE⟩ : ∃ e, Hid (e = Fc.m q x) := ⟨_, rfl⟩
      rw [← HE.out] at E
      have heK : e < Fc.K := by
        rw [HE.out]
        by_cases h0 : Fc.m q x = 0
        · rw [h0]; exact HG.out.K1
        · exact (HG.out.g1 _ _ h0).1
      have hKb : Fc.K ≤ 100000000 := by have := HG.out.bound; rw [HS.out.N] at this; omega
      have c1 := HR.out.c1
      have ce := HR.out.ed.cell heK (show 0 < 3 by omega)
      have fe := HR.out.ed.frozen (e * 3)
      rw [Nat.add_zero] at ce
      obtain ⟨te, HTE⟩ : ∃ te, Hid (te = Fc.to e) := ⟨_, rfl⟩
      have cev : Fc.edv e 0 = .int .i32 te := by rw [HTE.out]; rfl
      rw [cev] at ce
      clear cev
      obtain ⟨K, HK⟩ : ∃ K, Hid (K = Fc.K) := ⟨_, rfl⟩
      rw [← HK.out] at heK hKb c1
      simp only [shI]
      by_cases hte : te = fr
      · have HRT : Hid (∀ n, Rep B ((wr.drewN n).setCell ⟨Fc.eb, e * 3, none⟩ (.int .i32 to)) g (Fc.retar e to)) := fun n => ((HR.out.drewN n).retar to (e := e) (by rw [← HK.out]; exact heK)).1
        have hq2 : q < (Fc.retar e to).N := by show q < Fc.N; rw [HS.out.N]; exact hq
        obtain ⟨so, HSO⟩ : ∃ so, Hid (so = Fc.sh q) := ⟨_, rfl⟩
        have csv : (Fc.retar e to).stv q 1 = .int .i32 (shI so) := by rw [HSO.out]; rfl
        obtain ⟨N, HN⟩ : ∃ N, Hid (N = Fc.N) := ⟨_, rfl⟩
        have c0' : ∀ n, ((wr.drewN n).setCell ⟨Fc.eb, e * 3, none⟩ (.int .i32 to)).cell? ⟨g, 0, none⟩ = some (.slice (some ⟨Fc.sb, 0, none⟩) N Fc.cs) := fun n => by rw [HN.out]; exact (HRT.out n).c0
        have cs' : ∀ n, ((wr.drewN n).setCell ⟨Fc.eb, e * 3, none⟩ (.int .i32 to)).cell? ⟨Fc.sb, q * 4 + 1, none⟩ = some (.int .i32 (shI so)) := fun n => by rw [← csv]; exact (HRT.out n).st.cell hq2 (show 1 < 4 by omega)
        have hqN2 : q < N := by rw [HN.out, HS.out.N]; exact hq
        have hN3 : N ≤ 300000 := by rw [HN.out, HS.out.N]; exact hN
        have htI : (te : Int) = fr := by omega
        subst hte
        clear csv htI
        go_wp2_with (go_at_call 40; refine E.mono ?_; clear E; rintro ev w1 ⟨rfl, nq, rfl⟩)
        go_roundg (mu F so)
        case measure =>
          rw [hk]
          cases so with
          | none => simp [mu]
          | some p =>
            have := HCH.out q p hq (by rw [← HS.out.sh]; exact HSO.out.symm)
            simp [mu]; omega
        case rel =>
          refine ⟨so, Fc.retar e to, rfl, rfl, HRT.out nq, ?_, ?_, ?_, ?_, ?_⟩
          · refine HG.out.retar ?_ (by rw [HS.out.N]; exact hto)
            rcases Nat.eq_zero_or_pos e with h | h
            · exfalso
              rw [h, HG.out.g5] at HTE
              exact hf0 HTE.out
            · exact h
          · exact HB.out.trans (below_drewN (Below.refl _ _) nq) |>.trans ((HR.out.drewN nq).retar to (by rw [← HK.out]; exact heK)).2
          · exact HS.out.trans (SameF.retar _ _ _)
          · intro p hp
            exact (HCH.out q p hq (by rw [← HS.out.sh, ← HSO.out]; exact hp)).1
          · intro F' hF'
            refine HL.out F' (.go (by rw [← HE.out]; exact HTE.out.symm) ?_)
            rw [← HSO.out, ← HE.out]; exact hF'
      · have htI : ¬ (te : Int) = fr := by omega
        go_wp2_with (go_at_call 40; refine E.mono ?_; clear E; rintro ev w1 ⟨rfl, nq, rfl⟩)
        refine bodyPost_ret (results_none rfl _ _ _) rfl ?_
        exact ⟨⟨_, rfl⟩, Fc, HL.out _ (.stop _ _ (by rw [← HE.out, ← HTE.out]; exact hte)), HR.out.drewN nq, below_drewN HB.out nq⟩
end Go.Proofs.YtblegkefeiefjaaDoor
