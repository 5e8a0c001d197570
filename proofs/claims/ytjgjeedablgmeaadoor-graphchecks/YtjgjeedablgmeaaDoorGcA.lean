/- The law 'GraphChecks', walked. -/
import Derived.Test.YtjgjeedablgmeaaDoorGrZ
namespace Go.Proofs.YtjgjeedablgmeaaDoor
open Go.RowKit
set_option linter.unusedVariables false
set_option linter.unusedSimpArgs false
set_option maxRecDepth 20000 in
set_option maxHeartbeats 2000000 in
theorem walkC (a : Option Addr) (cap : Nat) (l : List Nd) (W : World) (hP : Pn W a cap l) (hw : ∀ x ∈ l, NdW W x) (hg : W.cell? ⟨0, 0, none⟩ = some (.iface 112 (.agg #[.pointer (some ⟨2, 25, none⟩)]))) :
    Calls Tryd.prog 3 #[.slice a l.length cap] W fun e w' => e = .returned (.bool true) ∧ Below W.heap.size W w' := by
  have C7 : Hid (Calls Tryd.prog 7 #[.slice a l.length cap] W fun e w' => BI (Few l) e ∧ w' = W) := few_any a cap l hP (fun x hx => (hw x hx).id.1)
  have C8 : Hid (Few l → Calls Tryd.prog 8 #[.slice a l.length cap] W (PostCk l W)) := fun h => check_any a cap l hP hw h.1 h.2
  have C9 : Hid (Few l → ∀ w1, Below W.heap.size W w1 → Calls Tryd.prog 9 #[.slice a l.length cap] w1 (PostTh l w1)) := fun h w1 hb => theirs_any a cap l (hP.below hb) (fun x hx => (hw x hx).below hb) h.1 h.2
  obtain ⟨n, HN⟩ : ∃ n, Hid (l.length = n) := ⟨_, rfl⟩
  have HB0 : Hid (0 < W.heap.size) := hid (by
    rcases Nat.lt_or_ge 0 W.heap.size with h | h
    · exact h
    · simp [World.cell?, Array.getElem?_eq_none h] at hg)
  have HGD : Hid (∀ w', Below W.heap.size W w' → w'.cell? ⟨0, 0, none⟩ = some (.iface 112 (.agg #[.pointer (some ⟨2, 25, none⟩)]))) := fun w' hb => (hb.cell (p := ⟨0, 0, none⟩) HB0.out).trans hg
  rw [HN.out] at C7 C8 C9 ⊢
  clear hP hw hg
  go_enter Tryd.func3, Tryd.ntmps3
  go_wp2_with fail
  refine C7.out.mono ?_
  rintro ev w0 ⟨⟨b, hb, rfl⟩, rfl⟩
  have HFB : Hid (b = true ↔ Few l) := hb
  clear hb
  cases b with
  | false =>
    go_wp2
    go_ret
    exact ⟨rfl, Below.refl _ _⟩
  | true =>
    have HFW : Hid (Few l) := hid (HFB.out.1 rfl)
    have C8' : Hid (Calls Tryd.prog 8 #[.slice a n cap] w0 (PostCk l w0)) := hid (C8.out HFW.out)
    go_wp2_with fail
    refine C8'.out.mono ?_
    rintro ev w1 ⟨hb1, hck⟩
    have HB1 : Hid (Below w0.heap.size w0 w1) := hb1
    obtain ⟨ev1, HEV⟩ : ∃ v : Value, Hid (ev = .returned v ∧ ((OkG l ∧ v = .nilIface) ∨ (¬ OkG l ∧ v = .iface 30 (.int .i64 80)))) := by
      rcases hck with ⟨h1, h2⟩ | ⟨h1, h2⟩
      · exact ⟨_, h2, .inl ⟨h1, rfl⟩⟩
      · exact ⟨_, h2, .inr ⟨h1, rfl⟩⟩
    obtain ⟨rfl, hres⟩ := HEV.out
    have HRES : Hid ((OkG l ∧ ev1 = .nilIface) ∨ (¬ OkG l ∧ ev1 = .iface 30 (.int .i64 80))) := hres
    have C9' : Hid (Calls Tryd.prog 9 #[.slice a n cap] w1 (PostTh l w1)) := hid (C9.out HFW.out w1 hb1)
    clear hb1 hck hres HEV
    go_wp2_with fail
    refine C9'.out.mono ?_
    rintro ev w2 ⟨v', l', rfl, hbx, hkey, hnd⟩
    have HKEY : Hid (l'.map key = l.map key) := hkey
    have hll : l'.length = l.length := by have := congrArg List.length hkey; rwa [List.length_map, List.length_map] at this
    have hps' : ∀ x ∈ l', x.ps.length ≤ 40 := fun x hx => by
      have : key x ∈ l.map key := by rw [← hkey]; exact List.mem_map.2 ⟨x, hx, rfl⟩
      obtain ⟨z, hz, e⟩ := List.mem_map.1 this
      have e2 : z.ps = x.ps := congrArg (·.2.1) e
      rw [← e2]; exact HFW.out.2 z hz
    obtain ⟨a', cap', hve, hpn, _⟩ := hbx.px (d := nd0) (fun x hx => ndV_len x (hnd x hx).id.1)
    have HB2 : Hid (Below w0.heap.size w0 w2) := hid (HB1.out.trans (hbx.below.mono HB1.out.size))
    have C10 : Hid (Calls Tryd.prog 10 #[.slice a' n cap'] w2 (PostRk l' w2)) := hid (by
      have := rcheck_any a' cap' l' hpn hnd (by rw [hll]; exact HFW.out.1) hps'
      rw [hll, HN.out] at this
      exact this)
    rw [hll, HN.out] at hve
    subst hve
    clear hbx hkey hnd hll hps' hpn
    go_wp2_with fail
    refine C10.out.mono ?_
    rintro ev w3 ⟨hb3, hck⟩
    have HB3 : Hid (Below w0.heap.size w0 w3) := hid (HB2.out.trans (hb3.mono HB2.out.size))
    have HG3 : Hid (w3.cell? ⟨0, 0, none⟩ = some (.iface 112 (.agg #[.pointer (some ⟨2, 25, none⟩)]))) := hid (HGD.out w3 HB3.out)
    clear hb3
    rcases hck with ⟨ho, rfl⟩ | ⟨ho, rfl⟩
    · have hol := okg_key HKEY.out ho
      rcases HRES.out with ⟨_, h2⟩ | ⟨h1, _⟩
      · subst h2
        have C11 : Hid (Calls Tryd.prog 11 #[.nilIface] w3 fun e w' => e = .returned (.int .i64 0) ∧ Below w3.heap.size w3 w') := tell_nil w3
        clear ho hol
        go_wp2_with fail
        refine C11.out.mono ?_
        rintro ev w4 ⟨rfl, hb4⟩
        have HB4 : Hid (Below w0.heap.size w0 w4) := hid (HB3.out.trans (hb4.mono HB3.out.size))
        clear hb4
        go_wp2
        go_ret
        exact ⟨rfl, HB4.out⟩
      · exact absurd hol h1
    · rcases HRES.out with ⟨h1, _⟩ | ⟨_, h2⟩
      · exact absurd (okg_key HKEY.out.symm h1) ho
      · subst h2
        have C11 : Hid (Calls Tryd.prog 11 #[.iface 30 (.int .i64 80)] w3 fun e w' => e = .returned (.int .i64 80) ∧ Below w3.heap.size w3 w') := tell_errno 80 w3 HG3.out
        clear ho
        go_wp2_with fail
        refine C11.out.mono ?_
        rintro ev w4 ⟨rfl, hb4⟩
        have HB4 : Hid (Below w0.heap.size w0 w4) := hid (HB3.out.trans (hb4.mono HB3.out.size))
        clear hb4
        go_wp2
        go_ret
        exact ⟨rfl, HB4.out⟩
end Go.Proofs.YtjgjeedablgmeaaDoor
