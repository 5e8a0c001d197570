/- The finder's 'find'. -/
import Derived.Test.YtblegkefeiefjaaDoorFnH
namespace Go.Proofs.YtblegkefeiefjaaDoor
open Go.RowKit Go.Maps Sam Plain
set_option linter.unusedVariables false
set_option linter.unusedSimpArgs false

def PostF (t bl : List Int) (w : World) (e : Ending) (w' : World) : Prop := ∃ fr len q : Nat, e = .returned (.tuple #[.int .i64 fr, .int .i64 len]) ∧ w' = w.drewN q ∧ Plain.Fd t bl fr len
theorem Tryd.results32 : Tryd.f32.results = #[.tmp 4, .tmp 5] := by kernel_rfl
set_option maxRecDepth 10000 in
set_option maxHeartbeats 2000000 in
theorem find_any {B g : Nat} {t : List Int} {F : Fn} {wd : Nat → List Int} (ab : Option Addr) (cap : Nat) (bl : List Int) (w : World) (hR : Rep B w g F) (hg : Good t F wd) (ht : t.length ≤ 100000) (hz : IsB bl) (hbl : bl.length ≤ 100000) (hS : Sl w ab cap bl) :
    Calls Tryd.prog 32 #[.pointer (some ⟨g, 0, none⟩), .slice ab bl.length cap] w (PostF t bl w) := by
  have HR : Hid _ := hR
  have HG : Hid _ := hg
  have HS : Hid _ := hS
  have HZ : Hid _ := hz
  have hNl : F.N ≤ 300000 := by have := hR.st.le; have := hR.csl; omega
  have hKb : F.K ≤ 100000000 := by have := hg.2.2.1.bound; omega
  have HA : Hid (Sam t F.N wd F.sh F.en (delF F) F.last) := hg.1
  obtain ⟨L, HL⟩ : ∃ L, Hid (L = bl.length) := ⟨_, rfl⟩
  rw [← HL.out] at hbl ⊢
  clear hR hg hS hz
  go_enter Tryd.func32, Tryd.ntmps32
  go_wp2_with fail
  go_loopg [5, 6, 12] L (fun k ln at_ ix wr => ∃ j s q : Nat, j ≤ L ∧ ln = .int .i64 j ∧ at_ = .int .i32 s ∧ ix = .int .i64 j ∧ k = L - j ∧ wr = w.drewN q ∧ Hid (rd (delF F) (bl.take j) = some s))
  case atStart => exact ⟨0, 0, 0, by omega, rfl, rfl, rfl, rfl, rfl, rfl⟩
  case round =>
    obtain ⟨j, s, q, hj, rfl, rfl, rfl, hk, rfl, HRD⟩ := hrel
    have hsN := (HA.out.sound _ s HRD.out).1
    have c0 := (HR.out.drewN q).c0
    have cen := (HR.out.drewN q).st.cell hsN (show 2 < 4 by omega)
    rw [show F.stv s 2 = .int .i32 (F.en s) from rfl] at cen
    by_cases hjL : j < L
    · have hjI : (j : Int) < L := by omega
      have hjb : j < bl.length := by rw [← HL.out]; exact hjL
      obtain ⟨bb, off, rfl, hbb, hat⟩ := HS.out.at_ (by omega)
      have hxb := HZ.out _ (List.getElem_mem hjb)
      obtain ⟨x, HX⟩ : ∃ x : Nat, Hid (bl[j] = (x : Int)) := ⟨bl[j].toNat, by show _ = _; omega⟩
      have hx : x < 256 := by have := HX.out; omega
      have cx : (w.drewN q).cell? ⟨bb, off + j, none⟩ = some (.int .u8 x) := by
        have h1 := hat j hjb
        rw [List.getD_eq_getElem?_getD, List.getElem?_eq_getElem hjb, HX.out] at h1
        exact h1
      have E : Hid (∀ w', Rep B w' g F → _) := fun w' (h : Rep B w' g F) => edge_any s x (by omega) hx w' h
      obtain ⟨e, HE⟩ : ∃ e, Hid (e = F.m s x) := ⟨_, rfl⟩
      rw [← HE.out] at E
      have HDE : Hid (delF F s x = if e = 0 then none else some (F.to e)) := by rw [HE.out]; exact delF_nat F s x
      by_cases he : e = 0
      · subst he
        have HFD : Hid _ := fd_of HA.out bl j s (by rw [← HL.out]; exact hj) HRD.out (fun y hy => by rw [List.getElem?_eq_getElem hjb, HX.out] at hy; cases hy; rw [HDE.out, if_pos rfl])
        have hfr : j ≤ F.en s := HFD.out.1
        have hen : F.en s ≤ 100000 := Nat.le_trans (HA.out.ends s hsN).1 ht
        have d0 : ∀ n, ((w.drewN q).drewN n).cell? ⟨g, 0, none⟩ = some (.slice (some ⟨F.sb, 0, none⟩) F.N F.cs) := fun n => c0
        have den : ∀ n, ((w.drewN q).drewN n).cell? ⟨F.sb, s * 4 + 2, none⟩ = some (.int .i32 (F.en s)) := fun n => cen
        have d0' : ∀ n, (w.drewN n).cell? ⟨g, 0, none⟩ = some (.slice (some ⟨F.sb, 0, none⟩) F.N F.cs) := fun n => c0
        have den' : ∀ n, (w.drewN n).cell? ⟨F.sb, s * 4 + 2, none⟩ = some (.int .i32 (F.en s)) := fun n => cen
        clear c0 cen
        go_wp2_with (go_at_call 40; refine (E.out _ (HR.out.drewN q)).mono ?_; clear E; rintro ev w5 ⟨rfl, nq, rfl⟩)
        go_ret2
        exact ⟨F.en s - j, j, q + nq, by show Ending.returned (.tuple #[.int .i64 ((F.en s : Int) - j), .int .i64 j]) = _; rw [show ((F.en s : Int) - j) = ((F.en s - j : Nat) : Int) by omega], by simp [World.drewN], HFD.out.2⟩
      · have heN : ¬ e = 0 := he
        have heB : ((e : Int) == 0) = false := beq_eq_false_iff_ne.2 (by omega)
        have heI : ¬ (e : Int) = 0 := by omega
        have heK : e < F.K := by rw [HE.out] at he ⊢; exact (HG.out.2.2.1.g1 _ _ he).1
        have d1 : ∀ n, ((w.drewN q).drewN n).cell? ⟨g, 1, none⟩ = some (.slice (some ⟨F.eb, 0, none⟩) F.K F.ce) := fun n => HR.out.c1
        have dt : ∀ n, ((w.drewN q).drewN n).cell? ⟨F.eb, e * 3, none⟩ = some (.int .i32 (F.to e)) := fun n => by have := HR.out.ed.cell heK (show 0 < 3 by omega); rw [Nat.add_zero] at this; exact this
        have d1' : ∀ n, (w.drewN n).cell? ⟨g, 1, none⟩ = some (.slice (some ⟨F.eb, 0, none⟩) F.K F.ce) := fun n => HR.out.c1
        have dt' : ∀ n, (w.drewN n).cell? ⟨F.eb, e * 3, none⟩ = some (.int .i32 (F.to e)) := fun n => dt n
        have HRD2 : Hid (rd (delF F) (bl.take (j + 1)) = some (F.to e)) := by
          show _ = _
          rw [List.take_succ_eq_append_getElem hjb, rd_snoc, HRD.out, HX.out]
          show delF F s x = _
          rw [HDE.out, if_neg he]
        clear c0 cen
        go_wp2_with (go_at_call 40; refine (E.out _ (HR.out.drewN q)).mono ?_; clear E; rintro ev w5 ⟨rfl, nq, rfl⟩)
        go_roundg (L - (j + 1))
        case measure => omega
        case rel => exact ⟨j + 1, F.to e, q + nq, by omega, by go_num, rfl, by go_num, rfl, by simp [World.drewN], HRD2.out⟩
    · have hjI : ¬ (j : Int) < L := by omega
      have HJB : Hid (j = bl.length) := by show _ = _; rw [← HL.out]; omega
      have HFD : Hid _ := fd_of HA.out bl j s (by rw [HJB.out]; exact Nat.le_refl _) HRD.out (fun y hy => by rw [List.getElem?_eq_none (by rw [HJB.out]; exact Nat.le_refl _)] at hy; cases hy)
      have hfr : j ≤ F.en s := HFD.out.1
      have hen : F.en s ≤ 100000 := Nat.le_trans (HA.out.ends s hsN).1 ht
      go_wp2_with fail
      go_ret2
      exact ⟨F.en s - j, j, q, by show Ending.returned (.tuple #[.int .i64 ((F.en s : Int) - j), .int .i64 j]) = _; rw [show ((F.en s : Int) - j) = ((F.en s - j : Nat) : Int) by omega], rfl, HFD.out.2⟩
end Go.Proofs.YtblegkefeiefjaaDoor
