import Derived.Test.YtijeogdnjeamaaaGreatDoorQp16
namespace Go.Proofs.YtijeogdnjeamaaaGreatDoor
open Go.RowKit
set_option linter.unusedVariables false
set_option linter.unusedSimpArgs false
set_option maxRecDepth 20000 in
theorem walkP_long (a0 a1 a2 : Option Addr) (n0 n1 n2 c0 c1 c2 : Nat) (w : World) (h : 60 < n0 ∨ 6000 < n1 ∨ 6000 < n2) : Calls Tryz.prog 5 #[.slice a0 n0 c0, .slice a1 n1 c1, .slice a2 n2 c2] w fun e w' => e = .returned (.bool true) ∧ Below w.heap.size w w' := by
  by_cases h0 : 60 < n0
  · have hi : (60 : Int) < (n0 : Int) := by omega
    go_enter Tryz.func5, Tryz.ntmps5
    go_wp2
    go_ret
    exact ⟨rfl, Below.refl _ _⟩
  · have hi : ¬ (60 : Int) < (n0 : Int) := by omega
    by_cases h1 : 6000 < n1
    · have hi1 : (6000 : Int) < (n1 : Int) := by omega
      go_enter Tryz.func5, Tryz.ntmps5
      go_wp2
      go_ret
      exact ⟨rfl, Below.refl _ _⟩
    · have hi1 : ¬ (6000 : Int) < (n1 : Int) := by omega
      have hi2 : (6000 : Int) < (n2 : Int) := by omega
      go_enter Tryz.func5, Tryz.ntmps5
      go_wp2
      go_ret
      exact ⟨rfl, Below.refl _ _⟩
set_option maxRecDepth 20000 in
set_option maxHeartbeats 4000000 in
theorem walkP {w : World} (a : Option Addr) (cap : Nat) (l : List Chg) (hP : PCh w a cap l) (hf : FitC l) (hn : l.length ≤ 60) (ap : Option Addr) (cp : Nat) (p : Str) (hA : PB w ap cp p) (hpl : p.length ≤ 6000) (ab : Option Addr) (cb : Nat) (s : Str) (hB : PB w ab cb s) (hl : s.length ≤ 6000) (hg : Hg w) (he : Ers w) (hd : Db w) (hm : Nm.Mx w) :
    Calls Tryz.prog 5 #[.slice a l.length cap, .slice ap p.length cp, .slice ab s.length cb] w fun e w' => e = .returned (.bool true) ∧ Below w.heap.size w w' := by
  obtain ⟨n, HN⟩ : ∃ n, Hid (l.length = n) := ⟨_, rfl⟩
  obtain ⟨np, HNP⟩ : ∃ n, Hid (p.length = n) := ⟨_, rfl⟩
  obtain ⟨k, HK⟩ : ∃ n, Hid (s.length = n) := ⟨_, rfl⟩
  obtain ⟨G, HG⟩ : ∃ n, Hid (w.heap.size = n) := ⟨_, rfl⟩
  have hG0 : 0 < G := by rw [← HG.out]; exact hg.lt
  have hn6 : n ≤ 60 := by rw [← HN.out]; exact hn
  have hni : ¬ (60 : Int) < (n : Int) := by omega
  have hpi : ¬ (6000 : Int) < (np : Int) := by have := HNP.out; omega
  have hki : ¬ (6000 : Int) < (k : Int) := by have := HK.out; omega
  have HGW : Hid (∀ X, Below G w X → Hg X) := hid (fun X hX => hg.below hX hG0)
  have HEW : Hid (∀ W, Below G w W → Ers W ∧ Db W ∧ Nm.Mx W) := hid (fun W hW => by
    have hbw : Below w.heap.size w W := by rw [HG.out]; exact hW
    exact ⟨he.below hbw, hd.b hW HG.out.symm, Mx_kept hm (grown_of_below hbw none) (by simp)⟩)
  have HGS : Hid (∀ X, Below G w X → G ≤ X.heap.size) := hid (fun X hX => by have := hX.size; have := HG.out; omega)
  have HPP : Hid (∀ X, Below G w X → PCh X a cap l) := hid (fun X hX => hP.below (by rw [HG.out]; exact hX))
  have HPA : Hid (∀ X, Below G w X → PB X ap cp p) := hid (fun X hX => hA.below (by rw [HG.out]; exact hX))
  have HPB : Hid (∀ X, Below G w X → PB X ab cb s) := hid (fun X hX => hB.below (by rw [HG.out]; exact hX))
  have HSB : Hid (0 < p.length → ∃ b off, ap = some ⟨b, off, none⟩ ∧ b < G) := hid (fun h0 => by
    obtain ⟨b, off, e1, e2, _⟩ := hA.at_ h0
    exact ⟨b, off, e1, by rw [← HG.out]; exact e2⟩)
  have HFI := hid hf
  have C17 : Hid (Calls Tryz.prog 17 #[.slice ap np cp] w fun e w' => e = .returned (.slice (some ⟨G, 0, none⟩) np (np + 2)) ∧ Below G w w' ∧ Room w' G (nums p)) := hid (by
    have := roomy_any ap cp (nums p) w (by rw [nums_len]; omega) (fun h0 => by
      rw [nums_len] at h0
      obtain ⟨b, off, e1, e2, _⟩ := hA.at_ h0
      subst e1
      exact ⟨b, off, rfl, e2, pb_at hA⟩)
    rw [nums_len, HNP.out, HG.out] at this
    exact this)
  have C19 : Hid (∀ W, Below G w W → Room W G (nums p) → Calls Tryz.prog 19 #[.slice (some ⟨G, 0, none⟩) np (np + 2), .slice ap np cp] W fun e w' => e = .returned (.bool true) ∧ W.grownBy w' (some G)) := hid (fun W hW hr => by
    have := still_keep ap cp G (nums p) W (by rw [nums_len]; omega) (nums_b p) hr (fun h0 => by
      rw [nums_len] at h0
      obtain ⟨b, off, e1, e2⟩ := HSB.out h0
      subst e1
      exact ⟨b, off, rfl, e2, pb_at (HPA.out W hW)⟩)
    rw [nums_len, HNP.out] at this
    exact this)
  have C18 : Hid (∀ W, Below G w W → Room W G (nums p) → Calls Tryz.prog 18 #[.slice a n cap, .slice (some ⟨G, 0, none⟩) np (np + 2)] W (PostWp l p W)) := hid (fun W hW hr => by
    obtain ⟨h1, h2, h3⟩ := HEW.out W hW
    have := writePush_any a cap l (HPP.out W hW) HFI.out h3 h2 (some ⟨G, 0, none⟩) (p.length + 2) p hr.pb (by omega)
    rw [HN.out, HNP.out] at this
    exact this)
  have C20 : Hid (∀ W, Below G w W → Calls Tryz.prog 20 #[.slice a n cap] W fun e w' => ∃ v, e = .returned v ∧ BCh 99 W w' W.heap.size v l) := hid (fun W hW => by
    rw [← HN.out]
    exact changes_any a cap l (HPP.out W hW) HFI.out (by omega))
  have C21 : Hid (∀ (X : World) (x : Option Addr) (cx : Nat), Below G w X → PCh X x cx l → Calls Tryz.prog 21 #[.slice x n cx, .slice ap np cp] X (PostWDc l p X X.heap.size)) := hid (fun X x cx hX h1 => by
    rw [← HN.out, ← HNP.out]
    exact refWritePush_any x cx l h1 HFI.out ap cp p (HPA.out X hX) (by omega))
  have C22 : Hid (∀ (X : World) (x : Option Addr) (cx : Nat) (u : Str) (q : Nat), Hid (u.length = q) → Below G w X → PB X x cx u → u.length ≤ 20000 → Calls Tryz.prog 22 #[.slice x q cx] X fun e w' => e = .returned (.bool true) ∧ Below X.heap.size X w') := hid (fun X x cx u q hq hX hp hu => by
    obtain ⟨h1, h2, h3⟩ := HEW.out X hX
    rw [← hq.out]
    exact pushes_any x cx u hp hu (HGW.out X hX) h1 h2 h3)
  have HSL : Hid (s.length ≤ 20000) := hid (by omega)
  have HBL : Hid (OkC l → (chB l ++ p).length ≤ 20000) := hid (fun h => by
    have h1 := chB_blen l h.1 HFI.out.ids
    rw [List.length_append]
    omega)
  rw [HN.out, HK.out, HNP.out, HG.out]
  clear hP hf hn hB hA hl hpl hg he hd hm
  go_enter Tryz.func5, Tryz.ntmps5
  go_wp2_with fail
  refine C17.out.mono ?_
  rintro e wa ⟨rfl, hba, hra⟩
  have HBA := hid hba
  have HRA := hid hra
  have hGa : G < wa.heap.size := hra.lt
  clear hba hra
  go_wp2_with fail
  refine (C18.out wa HBA.out HRA.out).mono ?_
  rintro e wb ⟨hbb, h18⟩
  have HBB : Hid (Below G w wb) := hid (HBA.out.trans (hbb.mono (by omega)))
  have HRB : Hid (Room wb G (nums p)) := hid (HRA.out.below hbb)
  clear hbb
  rcases h18 with ⟨hd1, v7, rfl, ho7⟩ | ⟨hnn, rfl⟩
  · obtain ⟨a7, c7, rfl, _⟩ := own_pb ho7
    have HO7 := hid ho7
    obtain ⟨q, HQ⟩ : ∃ n, Hid ((chB l ++ p).length = n) := ⟨_, rfl⟩
    have HD1 := hid hd1
    rw [HQ.out]
    clear hd1 ho7
    go_wp2_with fail
    refine (C19.out wb HBB.out HRB.out).mono ?_
    rintro e w0 ⟨rfl, hg0⟩
    have HB0 : Hid (Below G w w0) := hid (HBB.out.grown hg0 (HGS.out wb HBB.out) (fun q hq => by cases hq; exact Nat.le_refl _))
    have HP7 : Hid (∀ X, Below w0.heap.size w0 X → PB X a7 c7 (chB l ++ p)) := hid (fun X hX => by
      have hk := own_keep (own_keep HO7.out hg0 (fun j e => by cases e; omega)) (grown_of_below hX none) (fun j e => by cases e)
      obtain ⟨ax, cx, e1, hp, _⟩ := own_pb hk
      injection e1 with e2 e3 e4
      rw [e2, e4]
      exact hp)
    clear hg0
    go_wp2_with fail
    refine (C20.out w0 HB0.out).mono ?_
    rintro e w1 ⟨v5, rfl, hb1⟩
    have HB1 : Hid (Below G w w1) := hid (HB0.out.trans (hb1.below.mono (HGS.out w0 HB0.out)))
    have HB01 : Hid (Below w0.heap.size w0 w1) := hid hb1.below
    obtain ⟨a5, c5, rfl, hp5, _⟩ := hb1.px (d := ch0) (encCh_ln HFI.out.ids)
    have C21' := hid (C21.out w1 a5 c5 HB1.out hp5)
    rw [HN.out]
    clear hb1 hp5
    go_wp2_with fail
    refine C21'.out.mono ?_
    rintro e w4 ⟨hb4, h15⟩
    have HB4 : Hid (Below G w w4) := hid (HB1.out.trans (hb4.mono (HGS.out w1 HB1.out)))
    have HB14 : Hid (Below w0.heap.size w0 w4) := hid (HB01.out.trans (hb4.mono HB01.out.size))
    clear hb4
    rcases h15 with ⟨_, v11, rfl, ho11⟩ | ⟨hnn, _⟩
    rotate_left
    · exact absurd HD1.out hnn
    obtain ⟨a11, c11, rfl, hp11, _⟩ := own_pb ho11
    have C10 : Hid (Calls Tryz.prog 10 #[.slice a7 q c7, .slice a11 q c11] w4 fun e w' => e = .returned (.bool true) ∧ Below w4.heap.size w4 w') := hid (by
      rw [← HQ.out]
      exact sameB a7 a11 c7 c11 (chB l ++ p) (HP7.out w4 HB14.out) hp11 (by have := HBL.out HD1.out; omega))
    rw [HQ.out]
    clear ho11 hp11
    go_wp2_with fail
    refine C10.out.mono ?_
    rintro e w5 ⟨rfl, hb5⟩
    have HB5 : Hid (Below G w w5) := hid (HB4.out.trans (hb5.mono (HGS.out w4 HB4.out)))
    have HB15 : Hid (Below w0.heap.size w0 w5) := hid (HB14.out.trans (hb5.mono HB14.out.size))
    clear hb5
    have C11 : Hid (Calls Tryz.prog 11 #[.nilIface] w5 fun e w' => e = .returned (.int .i64 0) ∧ Below w5.heap.size w5 w') := hid (tell_nil w5)
    go_wp2_with fail
    refine C11.out.mono ?_
    rintro e w6 ⟨rfl, hb6⟩
    have HB6 : Hid (Below G w w6) := hid (HB5.out.trans (hb6.mono (HGS.out w5 HB5.out)))
    have HB16 : Hid (Below w0.heap.size w0 w6) := hid (HB15.out.trans (hb6.mono HB15.out.size))
    clear hb6
    have CA := hid (C22.out w6 ab cb s k HK HB6.out (HPB.out w6 HB6.out) HSL.out)
    go_wp2_with fail
    refine CA.out.mono ?_
    rintro e w7 ⟨rfl, hb7⟩
    have HB7 : Hid (Below G w w7) := hid (HB6.out.trans (hb7.mono (HGS.out w6 HB6.out)))
    have HB17 : Hid (Below w0.heap.size w0 w7) := hid (HB16.out.trans (hb7.mono HB16.out.size))
    clear hb7
    have CB := hid (C22.out w7 a7 c7 (chB l ++ p) q HQ HB7.out (HP7.out w7 HB17.out) (HBL.out HD1.out))
    go_wp2_with fail
    refine CB.out.mono ?_
    rintro e w8 ⟨rfl, hb8⟩
    have HB8 : Hid (Below G w w8) := hid (HB7.out.trans (hb8.mono (HGS.out w7 HB7.out)))
    clear hb8
    go_wp2
    go_ret
    exact ⟨rfl, HB8.out⟩
  · have HNN := hid hnn
    clear hnn
    go_wp2_with fail
    refine (C19.out wb HBB.out HRB.out).mono ?_
    rintro e w0 ⟨rfl, hg0⟩
    have HB0 : Hid (Below G w w0) := hid (HBB.out.grown hg0 (HGS.out wb HBB.out) (fun q hq => by cases hq; exact Nat.le_refl _))
    clear hg0
    go_wp2_with fail
    refine (C20.out w0 HB0.out).mono ?_
    rintro e w1 ⟨v5, rfl, hb1⟩
    have HB1 : Hid (Below G w w1) := hid (HB0.out.trans (hb1.below.mono (HGS.out w0 HB0.out)))
    have HB01 : Hid (Below w0.heap.size w0 w1) := hid hb1.below
    obtain ⟨a5, c5, rfl, hp5, _⟩ := hb1.px (d := ch0) (encCh_ln HFI.out.ids)
    have C21' := hid (C21.out w1 a5 c5 HB1.out hp5)
    rw [HN.out]
    clear hb1 hp5
    go_wp2_with fail
    refine C21'.out.mono ?_
    rintro e w4 ⟨hb4, h15⟩
    have HB4 : Hid (Below G w w4) := hid (HB1.out.trans (hb4.mono (HGS.out w1 HB1.out)))
    have HB14 : Hid (Below w0.heap.size w0 w4) := hid (HB01.out.trans (hb4.mono HB01.out.size))
    clear hb4
    rcases h15 with ⟨h1, _⟩ | ⟨_, rfl⟩
    · exact absurd h1 HNN.out
    have C10 : Hid (Calls Tryz.prog 10 #[.slice none 0 0, .slice none 0 0] w4 fun e w' => e = .returned (.bool true) ∧ Below w4.heap.size w4 w') := hid (sameB none none 0 0 [] (pb_none w4) (pb_none w4) (by simp))
    go_wp2_with fail
    refine C10.out.mono ?_
    rintro e w5 ⟨rfl, hb5⟩
    have HB5 : Hid (Below G w w5) := hid (HB4.out.trans (hb5.mono (HGS.out w4 HB4.out)))
    have HB15 : Hid (Below w0.heap.size w0 w5) := hid (HB14.out.trans (hb5.mono HB14.out.size))
    clear hb5
    have C11 : Hid (Calls Tryz.prog 11 #[.iface 37 (.int .i64 111)] w5 fun e w' => e = .returned (.int .i64 111) ∧ Below w5.heap.size w5 w') := hid (tell_errno 111 w5 (HGW.out w5 HB5.out))
    go_wp2_with fail
    refine C11.out.mono ?_
    rintro e w6 ⟨rfl, hb6⟩
    have HB6 : Hid (Below G w w6) := hid (HB5.out.trans (hb6.mono (HGS.out w5 HB5.out)))
    have HB16 : Hid (Below w0.heap.size w0 w6) := hid (HB15.out.trans (hb6.mono HB15.out.size))
    clear hb6
    have CA := hid (C22.out w6 ab cb s k HK HB6.out (HPB.out w6 HB6.out) HSL.out)
    go_wp2_with fail
    refine CA.out.mono ?_
    rintro e w7 ⟨rfl, hb7⟩
    have HB7 : Hid (Below G w w7) := hid (HB6.out.trans (hb7.mono (HGS.out w6 HB6.out)))
    have HB17 : Hid (Below w0.heap.size w0 w7) := hid (HB16.out.trans (hb7.mono HB16.out.size))
    clear hb7
    go_wp2
    go_ret
    exact ⟨rfl, HB7.out⟩
end Go.Proofs.YtijeogdnjeamaaaGreatDoor
