/- The law 'WireWants', walked. -/
import Derived.Test.YtijeogdnjeamaaaGreatDoorWgE
namespace Go.Proofs.YtijeogdnjeamaaaGreatDoor
open Go.RowKit
set_option linter.unusedVariables false
set_option linter.unusedSimpArgs false
set_option maxRecDepth 20000 in
theorem walkW_long (a0 a1 a2 : Option Addr) (n0 n1 n2 c0 c1 c2 : Nat) (w : World) (h : 60 < n0 ∨ 60 < n1 ∨ 6000 < n2) : Calls Tryz.prog 4 #[.slice a0 n0 c0, .slice a1 n1 c1, .slice a2 n2 c2] w fun e w' => e = .returned (.bool true) ∧ Below w.heap.size w w' := by
  by_cases h0 : 60 < n0
  · have hi : (60 : Int) < (n0 : Int) := by omega
    go_enter Tryz.func4, Tryz.ntmps4
    go_wp2
    go_ret
    exact ⟨rfl, Below.refl _ _⟩
  · have hi : ¬ (60 : Int) < (n0 : Int) := by omega
    by_cases h1 : 60 < n1
    · have hi1 : (60 : Int) < (n1 : Int) := by omega
      go_enter Tryz.func4, Tryz.ntmps4
      go_wp2
      go_ret
      exact ⟨rfl, Below.refl _ _⟩
    · have hi1 : ¬ (60 : Int) < (n1 : Int) := by omega
      have hi2 : (6000 : Int) < (n2 : Int) := by omega
      go_enter Tryz.func4, Tryz.ntmps4
      go_wp2
      go_ret
      exact ⟨rfl, Below.refl _ _⟩
set_option maxRecDepth 20000 in
set_option maxHeartbeats 4000000 in
theorem walkW {w : World} (a : Option Addr) (cap : Nat) (W : List (List Int)) (hP : Pa w a cap W) (hW : IdL W) (hn : W.length ≤ 60) (b : Option Addr) (cbp : Nat) (H : List (List Int)) (hQ : Pa w b cbp H) (hH : IdL H) (hm : H.length ≤ 60) (ab : Option Addr) (cb : Nat) (s : Str) (hB : PB w ab cb s) (hl : s.length ≤ 6000) (hg : Hg w) (he : Ers w) (hd : Db w) :
    Calls Tryz.prog 4 #[.slice a W.length cap, .slice b H.length cbp, .slice ab s.length cb] w fun e w' => e = .returned (.bool true) ∧ Below w.heap.size w w' := by
  obtain ⟨n, HN⟩ : ∃ n, Hid (W.length = n) := ⟨_, rfl⟩
  obtain ⟨m, HM⟩ : ∃ n, Hid (H.length = n) := ⟨_, rfl⟩
  obtain ⟨k, HK⟩ : ∃ n, Hid (s.length = n) := ⟨_, rfl⟩
  obtain ⟨G, HG⟩ : ∃ n, Hid (w.heap.size = n) := ⟨_, rfl⟩
  have hG0 : 0 < G := by rw [← HG.out]; exact hg.lt
  have hni : ¬ (60 : Int) < (n : Int) := by have := HN.out; omega
  have hmi : ¬ (60 : Int) < (m : Int) := by have := HM.out; omega
  have hki : ¬ (6000 : Int) < (k : Int) := by have := HK.out; omega
  have HGW : Hid (∀ X, Below G w X → Hg X) := hid (fun X hX => hg.below hX hG0)
  have HEW : Hid (∀ X, Below G w X → Ers X) := hid (fun X hX => he.below (by rw [HG.out]; exact hX))
  have HDW : Hid (∀ X, Below G w X → Db X) := hid (fun X hX => hd.b hX HG.out.symm)
  have HGS : Hid (∀ X, Below G w X → G ≤ X.heap.size) := hid (fun X hX => by have := hX.size; have := HG.out; omega)
  have C13 : Hid (Calls Tryz.prog 13 #[.slice a n cap, .slice b m cbp] w (PostWW W H w)) := hid (by
    rw [← HN.out, ← HM.out]
    exact writeWant_any a cap W hP hW (by omega) b cbp H hQ hH (by omega) hd)
  have C14a : Hid (∀ X, Below G w X → Calls Tryz.prog 14 #[.slice a n cap] X fun e w' => ∃ v, e = .returned v ∧ Bi 67 X w' X.heap.size v W) := hid (fun X hX => by
    rw [← HN.out]
    exact plain_any a cap W (hP.below (by rw [HG.out]; exact hX)) hW (by omega))
  have C14b : Hid (∀ X, Below G w X → Calls Tryz.prog 14 #[.slice b m cbp] X fun e w' => ∃ v, e = .returned v ∧ Bi 67 X w' X.heap.size v H) := hid (fun X hX => by
    rw [← HM.out]
    exact plain_any b cbp H (hQ.below (by rw [HG.out]; exact hX)) hH (by omega))
  have C15 : Hid (∀ (X : World) (x y : Option Addr) (cx cy : Nat), Pa X x cx W → Pa X y cy H → Calls Tryz.prog 15 #[.slice x n cx, .slice y m cy] X (PostWD W H X X.heap.size)) := hid (fun X x y cx cy h1 h2 => by
    rw [← HN.out, ← HM.out]
    exact refWriteWant_any x cx W h1 hW (by omega) y cy H h2 hH (by omega))
  have C16 : Hid (∀ (X : World) (x : Option Addr) (cx : Nat) (u : Str) (q : Nat), Hid (u.length = q) → Below G w X → PB X x cx u → u.length ≤ 8000 → Calls Tryz.prog 16 #[.slice x q cx] X fun e w' => e = .returned (.bool true) ∧ Below X.heap.size X w') := hid (fun X x cx u q hq hX hp hu => by
    rw [← hq.out]
    exact wants_any x cx u hp hu (HGW.out X hX) (HEW.out X hX) (HDW.out X hX))
  have HPB : Hid (∀ X, Below G w X → PB X ab cb s) := hid (fun X hX => hB.below (by rw [HG.out]; exact hX))
  have HSL : Hid (s.length ≤ 8000) := hid (by omega)
  have HBL : Hid ((wB W H).length ≤ 8000) := hid (by rw [wB_blen W H hW hH]; omega)
  have HIW := hid hW
  have HIH := hid hH
  rw [HN.out, HM.out, HK.out, HG.out]
  clear hP hW hn hQ hH hm hB hl hg he hd
  go_enter Tryz.func4, Tryz.ntmps4
  go_wp2_with fail
  refine C13.out.mono ?_
  rintro e w1 ⟨hb1, h13⟩
  rw [HG.out] at hb1 h13
  have HB1 := hid hb1
  have C14a' := hid (C14a.out w1 hb1)
  clear hb1
  rcases h13 with ⟨hd1, hd2, v7, rfl, ho7⟩ | ⟨hnn, rfl⟩
  · obtain ⟨a7, c7, rfl, hp7, _⟩ := own_pb ho7
    have HP7 : Hid (∀ X, Below w1.heap.size w1 X → PB X a7 c7 (wB W H)) := hid (fun X hX => hp7.below hX)
    obtain ⟨q, HQ⟩ : ∃ n, Hid ((wB W H).length = n) := ⟨_, rfl⟩
    have HD1 := hid hd1
    have HD2 := hid hd2
    rw [HQ.out]
    clear hd1 hd2 ho7 hp7
    go_wp2_with fail
    refine C14a'.out.mono ?_
    rintro e w2 ⟨v9, rfl, hb9⟩
    have HB2 : Hid (Below G w w2) := hid (HB1.out.trans (hb9.below.mono (HGS.out w1 HB1.out)))
    have HB12 : Hid (Below w1.heap.size w1 w2) := hid hb9.below
    obtain ⟨a9, c9, rfl, hp9, _⟩ := hb9.px (d := []) (idw_row HIW.out)
    have HP9 : Hid (∀ X, Below w2.heap.size w2 X → Pa X a9 c9 W) := hid (fun X hX => hp9.below hX)
    have C14b' := hid (C14b.out w2 HB2.out)
    rw [HN.out]
    clear hb9 hp9
    go_wp2_with fail
    refine C14b'.out.mono ?_
    rintro e w3 ⟨v10, rfl, hb10⟩
    have HB3 : Hid (Below G w w3) := hid (HB2.out.trans (hb10.below.mono (HGS.out w2 HB2.out)))
    have HB13 : Hid (Below w1.heap.size w1 w3) := hid (HB12.out.trans (hb10.below.mono HB12.out.size))
    obtain ⟨a10, c10, rfl, hp10, _⟩ := hb10.px (d := []) (idw_row HIH.out)
    have C15' := hid (C15.out w3 a9 a10 c9 c10 (HP9.out w3 hb10.below) hp10)
    rw [HM.out]
    clear hb10 hp10
    go_wp2_with fail
    refine C15'.out.mono ?_
    rintro e w4 ⟨hb4, h15⟩
    have HB4 : Hid (Below G w w4) := hid (HB3.out.trans (hb4.mono (HGS.out w3 HB3.out)))
    have HB14 : Hid (Below w1.heap.size w1 w4) := hid (HB13.out.trans (hb4.mono HB13.out.size))
    clear hb4
    rcases h15 with ⟨_, _, v11, rfl, ho11⟩ | ⟨hnn, _⟩
    rotate_left
    · exact absurd ⟨HD1.out, HD2.out⟩ hnn
    obtain ⟨a11, c11, rfl, hp11, _⟩ := own_pb ho11
    have C10 : Hid (Calls Tryz.prog 10 #[.slice a7 q c7, .slice a11 q c11] w4 fun e w' => e = .returned (.bool true) ∧ Below w4.heap.size w4 w') := hid (by
      rw [← HQ.out]
      exact sameB a7 a11 c7 c11 (wB W H) (HP7.out w4 HB14.out) hp11 (by have := HBL.out; omega))
    rw [HQ.out]
    clear ho11 hp11
    go_wp2_with fail
    refine C10.out.mono ?_
    rintro e w5 ⟨rfl, hb5⟩
    have HB5 : Hid (Below G w w5) := hid (HB4.out.trans (hb5.mono (HGS.out w4 HB4.out)))
    have HB15 : Hid (Below w1.heap.size w1 w5) := hid (HB14.out.trans (hb5.mono HB14.out.size))
    clear hb5
    have C11 : Hid (Calls Tryz.prog 11 #[.nilIface] w5 fun e w' => e = .returned (.int .i64 0) ∧ Below w5.heap.size w5 w') := hid (tell_nil w5)
    go_wp2_with fail
    refine C11.out.mono ?_
    rintro e w6 ⟨rfl, hb6⟩
    have HB6 : Hid (Below G w w6) := hid (HB5.out.trans (hb6.mono (HGS.out w5 HB5.out)))
    have HB16 : Hid (Below w1.heap.size w1 w6) := hid (HB15.out.trans (hb6.mono HB15.out.size))
    clear hb6
    have CA := hid (C16.out w6 ab cb s k HK HB6.out (HPB.out w6 HB6.out) HSL.out)
    go_wp2_with fail
    refine CA.out.mono ?_
    rintro e w7 ⟨rfl, hb7⟩
    have HB7 : Hid (Below G w w7) := hid (HB6.out.trans (hb7.mono (HGS.out w6 HB6.out)))
    have HB17 : Hid (Below w1.heap.size w1 w7) := hid (HB16.out.trans (hb7.mono HB16.out.size))
    clear hb7
    have CB := hid (C16.out w7 a7 c7 (wB W H) q HQ HB7.out (HP7.out w7 HB17.out) HBL.out)
    go_wp2_with fail
    refine CB.out.mono ?_
    rintro e w8 ⟨rfl, hb8⟩
    have HB8 : Hid (Below G w w8) := hid (HB7.out.trans (hb8.mono (HGS.out w7 HB7.out)))
    clear hb8
    go_wp2
    go_ret
    exact ⟨rfl, HB8.out⟩
  · have HNN := hid hnn
    clear hnn
    go_wp2_with fail
    refine C14a'.out.mono ?_
    rintro e w2 ⟨v9, rfl, hb9⟩
    have HB2 : Hid (Below G w w2) := hid (HB1.out.trans (hb9.below.mono (HGS.out w1 HB1.out)))
    have HB12 : Hid (Below w1.heap.size w1 w2) := hid hb9.below
    obtain ⟨a9, c9, rfl, hp9, _⟩ := hb9.px (d := []) (idw_row HIW.out)
    have HP9 : Hid (∀ X, Below w2.heap.size w2 X → Pa X a9 c9 W) := hid (fun X hX => hp9.below hX)
    have C14b' := hid (C14b.out w2 HB2.out)
    rw [HN.out]
    clear hb9 hp9
    go_wp2_with fail
    refine C14b'.out.mono ?_
    rintro e w3 ⟨v10, rfl, hb10⟩
    have HB3 : Hid (Below G w w3) := hid (HB2.out.trans (hb10.below.mono (HGS.out w2 HB2.out)))
    have HB13 : Hid (Below w1.heap.size w1 w3) := hid (HB12.out.trans (hb10.below.mono HB12.out.size))
    obtain ⟨a10, c10, rfl, hp10, _⟩ := hb10.px (d := []) (idw_row HIH.out)
    have C15' := hid (C15.out w3 a9 a10 c9 c10 (HP9.out w3 hb10.below) hp10)
    rw [HM.out]
    clear hb10 hp10
    go_wp2_with fail
    refine C15'.out.mono ?_
    rintro e w4 ⟨hb4, h15⟩
    have HB4 : Hid (Below G w w4) := hid (HB3.out.trans (hb4.mono (HGS.out w3 HB3.out)))
    have HB14 : Hid (Below w1.heap.size w1 w4) := hid (HB13.out.trans (hb4.mono HB13.out.size))
    clear hb4
    rcases h15 with ⟨h1, h2, _⟩ | ⟨_, rfl⟩
    · exact absurd ⟨h1, h2⟩ HNN.out
    have C10 : Hid (Calls Tryz.prog 10 #[.slice none 0 0, .slice none 0 0] w4 fun e w' => e = .returned (.bool true) ∧ Below w4.heap.size w4 w') := hid (sameB none none 0 0 [] (pb_none w4) (pb_none w4) (by simp))
    go_wp2_with fail
    refine C10.out.mono ?_
    rintro e w5 ⟨rfl, hb5⟩
    have HB5 : Hid (Below G w w5) := hid (HB4.out.trans (hb5.mono (HGS.out w4 HB4.out)))
    have HB15 : Hid (Below w1.heap.size w1 w5) := hid (HB14.out.trans (hb5.mono HB14.out.size))
    clear hb5
    have C11 : Hid (Calls Tryz.prog 11 #[.iface 37 (.int .i64 111)] w5 fun e w' => e = .returned (.int .i64 111) ∧ Below w5.heap.size w5 w') := hid (tell_errno 111 w5 (HGW.out w5 HB5.out))
    go_wp2_with fail
    refine C11.out.mono ?_
    rintro e w6 ⟨rfl, hb6⟩
    have HB6 : Hid (Below G w w6) := hid (HB5.out.trans (hb6.mono (HGS.out w5 HB5.out)))
    have HB16 : Hid (Below w1.heap.size w1 w6) := hid (HB15.out.trans (hb6.mono HB15.out.size))
    clear hb6
    have CA := hid (C16.out w6 ab cb s k HK HB6.out (HPB.out w6 HB6.out) HSL.out)
    go_wp2_with fail
    refine CA.out.mono ?_
    rintro e w7 ⟨rfl, hb7⟩
    have HB7 : Hid (Below G w w7) := hid (HB6.out.trans (hb7.mono (HGS.out w6 HB6.out)))
    have HB17 : Hid (Below w1.heap.size w1 w7) := hid (HB16.out.trans (hb7.mono HB16.out.size))
    clear hb7
    go_wp2
    go_ret
    exact ⟨rfl, HB7.out⟩
end Go.Proofs.YtijeogdnjeamaaaGreatDoor
