/- The law's 'wants'. -/
import Derived.Test.YtijeogdnjeamaaaGreatDoorWgD
namespace Go.Proofs.YtijeogdnjeamaaaGreatDoor
open Go.RowKit
set_option linter.unusedVariables false
set_option linter.unusedSimpArgs false
theorem nums_b (s : Str) : IsB (nums s) := by
  intro x hx
  obtain ⟨y, _, rfl⟩ := List.mem_map.1 hx
  have := y.toNat_lt
  omega
theorem own_pa {w : World} {B e : Nat} {v : Value} {l : List (List Int)} (h : w.ownsRow B e 20 v l.length (l.flatMap (row .u8))) (hw : ∀ x ∈ l, (row .u8 x).length = 20) : ∃ a cap, v = .slice a l.length cap ∧ Pa w a cap l ∧ True := by
  have h9 := h
  obtain ⟨hl, ⟨hv, h0⟩ | ⟨g, cap, cur, hv, hb, hh, hkc, hcm, hsz, htk⟩⟩ := h9
  · have : l = [] := List.length_eq_zero_iff.1 h0
    subst this
    exact ⟨none, 0, hv, ⟨Nat.le_refl _, fun h => by simp at h, fun _ => rfl⟩, trivial⟩
  · have hbx : Bx (row .u8) 20 e w w (min B w.heap.size) v l := ⟨Below.refl _ _, base_mono h (Nat.min_le_left _ _), Nat.min_le_right _ _⟩
    obtain ⟨a, c, e1, e2, _⟩ := hbx.px (d := []) hw
    exact ⟨a, c, e1, e2, trivial⟩
theorem pa_nil (w : World) : Pa w none 0 [] := ⟨Nat.le_refl _, fun h => by simp at h, fun _ => rfl⟩
theorem sameIds_yes {w : World} (xa : Option Addr) (xc : Nat) (X : List (List Int)) (hX : Pa w xa xc X) (hxi : IdL X) (ya : Option Addr) (yc : Nat) (hY : Pa w ya yc X) (hn : X.length ≤ 30000) (n : Nat) (hn2 : X.length = n) :
    Calls Tryz.prog 42 #[.slice xa n xc, .slice ya n yc] w fun e w' => e = .returned (.bool true) ∧ Below w.heap.size w w' := by
  subst hn2
  refine (sameIds_any xa xc X hX hxi ya yc X hY hxi hn hn).mono ?_
  rintro e w' ⟨⟨b, hb, rfl⟩, h⟩
  exact ⟨by rw [hb.2 rfl], h⟩
set_option maxRecDepth 20000 in
set_option maxHeartbeats 8000000 in
theorem wants_any {w : World} (a : Option Addr) (cap : Nat) (s : Str) (hP : PB w a cap s) (hl : s.length ≤ 8000) (hg : Hg w) (he : Ers w) (hd : Db w) : Calls Tryz.prog 16 #[.slice a s.length cap] w fun e w' => e = .returned (.bool true) ∧ Below w.heap.size w w' := by
  obtain ⟨n, HN⟩ : ∃ n, Hid (s.length = n) := ⟨_, rfl⟩
  obtain ⟨G, HG⟩ : ∃ g, Hid (w.heap.size = g) := ⟨_, rfl⟩
  have hG0 : 0 < G := by rw [← HG.out]; exact hg.lt
  have HPW : Hid (∀ W, Below G w W → PB W a cap s) := hid (fun W hW => hP.below (by rw [HG.out]; exact hW))
  have HGW : Hid (∀ W, Below G w W → Hg W) := hid (fun W hW => hg.below hW hG0)
  have HEW : Hid (∀ W, Below G w W → Ers W) := hid (fun W hW => he.below (by rw [HG.out]; exact hW))
  have HDW : Hid (∀ W, Below G w W → Db W) := hid (fun W hW => hd.b hW HG.out.symm)
  have HSB : Hid (0 < s.length → ∃ b off, a = some ⟨b, off, none⟩ ∧ b < G) := hid (fun h0 => by
    obtain ⟨b, off, e1, e2, _⟩ := hP.at_ h0
    exact ⟨b, off, e1, by rw [← HG.out]; exact e2⟩)
  have HL := hid hl
  have C17 : Hid (Calls Tryz.prog 17 #[.slice a n cap] w fun e w' => e = .returned (.slice (some ⟨G, 0, none⟩) n (n + 2)) ∧ Below G w w' ∧ Room w' G (nums s)) := hid (by
    have := roomy_any a cap (nums s) w (by rw [nums_len]; omega) (fun h0 => by
      rw [nums_len] at h0
      obtain ⟨b, off, e1, e2, _⟩ := hP.at_ h0
      subst e1
      exact ⟨b, off, rfl, e2, pb_at hP⟩)
    rw [nums_len, HN.out, HG.out] at this
    exact this)
  have C19 : Hid (∀ W, Below G w W → Room W G (nums s) → Calls Tryz.prog 19 #[.slice (some ⟨G, 0, none⟩) n (n + 2), .slice a n cap] W fun e w' => e = .returned (.bool true) ∧ W.grownBy w' (some G)) := hid (fun W hW hr => by
    have := still_keep a cap G (nums s) W (by rw [nums_len]; omega) (nums_b s) hr (fun h0 => by
      rw [nums_len] at h0
      obtain ⟨b, off, e1, e2⟩ := HSB.out h0
      subst e1
      exact ⟨b, off, rfl, e2, pb_at (HPW.out W hW)⟩)
    rw [nums_len, HN.out] at this
    exact this)
  have C40 : Hid (∀ W, Below G w W → Room W G (nums s) → Calls Tryz.prog 40 #[.slice (some ⟨G, 0, none⟩) n (n + 2)] W (PostRW s W W.heap.size)) := hid (fun W hW hr => by
    have := readWant_any (some ⟨G, 0, none⟩) (s.length + 2) s hr.pb HL.out (HEW.out W hW) (HDW.out W hW)
    rw [HN.out] at this
    exact this)
  have C41 : Hid (∀ W, Below G w W → Calls Tryz.prog 41 #[.slice a n cap] W (PostRD s W W.heap.size)) := hid (fun W hW => by
    have := refReadWant_any a cap s (HPW.out W hW) HL.out
    rw [HN.out] at this
    exact this)
  have HGS : Hid (∀ X, Below G w X → G ≤ X.heap.size) := hid (fun X hX => by have := hX.size; have := HG.out; omega)
  rw [HN.out, HG.out]
  clear hP hl hg he hd
  go_enter Tryz.func16, Tryz.ntmps16
  go_wp2_with fail
  refine C17.out.mono ?_
  rintro e w1 ⟨rfl, hb1, hr1⟩
  have HB1 := hid hb1
  have HR1 := hid hr1
  have hG1 : G < w1.heap.size := hr1.lt
  clear hb1 hr1
  go_wp2_with fail
  refine (C40.out w1 HB1.out HR1.out).mono ?_
  rintro e w2 ⟨hb2, h40⟩
  have HB2 : Hid (Below G w w2) := hid (HB1.out.trans (hb2.mono (by omega)))
  have HR2 : Hid (Room w2 G (nums s)) := hid (HR1.out.below hb2)
  clear hb2
  rcases h40 with ⟨W, H, v1, v2, hok, rfl, hbi1, hbi2⟩ | ⟨hno, hls, rfl⟩ | ⟨hno, rfl⟩
  · obtain ⟨a1, c1, rfl, _⟩ := hbi1.px (d := []) (idw_row hok.iw)
    obtain ⟨a2, c2, rfl, _⟩ := hbi2.px (d := []) (idw_row hok.ih)
    obtain ⟨n1, HN1⟩ : ∃ n, Hid (W.length = n) := ⟨_, rfl⟩
    obtain ⟨n2, HN2⟩ : ∃ n, Hid (H.length = n) := ⟨_, rfl⟩
    rw [HN1.out] at hbi1
    rw [HN2.out] at hbi2
    rw [HN1.out, HN2.out]
    have HBI1 := hid hbi1
    have HBI2 := hid hbi2
    have HOK := hid hok
    have hlen : W.length ≤ 200 ∧ H.length ≤ 200 := by
      have h1 := wB_blen W H hok.iw hok.ih
      rw [← hok.b] at h1
      have := HL.out
      omega
    have HLEN := hid hlen
    clear hok hbi1 hbi2 hlen
    go_wp2_with fail
    refine (C19.out w2 HB2.out HR2.out).mono ?_
    rintro e w3 ⟨rfl, hg3⟩
    have HB3 : Hid (Below G w w3) := hid (HB2.out.grown hg3 (HGS.out w2 HB2.out) (fun q hq => by cases hq; exact Nat.le_refl _))
    have HG3 := hid hg3
    clear hg3
    go_wp2_with fail
    refine (C41.out w3 HB3.out).mono ?_
    rintro e w4 ⟨hb4, h41⟩
    have HB4 : Hid (Below G w w4) := hid (HB3.out.trans (hb4.mono (HGS.out w3 HB3.out)))
    have HB34 := hid hb4
    clear hb4
    rcases h41 with ⟨W', H', y1, y2, hok', rfl, hci1, hci2⟩ | ⟨hno, _⟩ | ⟨hno, _⟩
    rotate_left
    · exact absurd ⟨W, H, HOK.out⟩ hno
    · exact absurd (wok_ls HOK.out) hno
    obtain ⟨eW, eH⟩ := wok_one hok' HOK.out
    subst eW eH
    obtain ⟨a3, c3, rfl, hp3, _⟩ := hci1.px (d := []) (idw_row hok'.iw)
    obtain ⟨a4, c4, rfl, hp4, _⟩ := hci2.px (d := []) (idw_row hok'.ih)
    have hk1 := own_keep (own_keep HBI1.out.own HG3.out (fun j e => by cases e; omega)) (grown_of_below HB34.out none) (fun j e => by cases e)
    have hk2 := own_keep (own_keep HBI2.out.own HG3.out (fun j e => by cases e; omega)) (grown_of_below HB34.out none) (fun j e => by cases e)
    have hp1 : Pa w4 a1 c1 W' := by
      obtain ⟨ax, cx, e1, hp, _⟩ := own_pa hk1 (idw_row hok'.iw)
      rw [← HN1.out] at e1
      injection e1 with e2 e3 e4
      rw [e2, e4]
      exact hp
    have hp2 : Pa w4 a2 c2 H' := by
      obtain ⟨ax, cx, e1, hp, _⟩ := own_pa hk2 (idw_row hok'.ih)
      rw [← HN2.out] at e1
      injection e1 with e2 e3 e4
      rw [e2, e4]
      exact hp
    have D1 : Hid (Calls Tryz.prog 42 #[.slice a1 n1 c1, .slice a3 n1 c3] w4 fun e w' => e = .returned (.bool true) ∧ Below w4.heap.size w4 w') := hid (sameIds_yes a1 c1 W' hp1 hok'.iw a3 c3 hp3 (by have := HLEN.out; omega) n1 HN1.out)
    have D2 : Hid (∀ X, Below w4.heap.size w4 X → Calls Tryz.prog 42 #[.slice a2 n2 c2, .slice a4 n2 c4] X fun e w' => e = .returned (.bool true) ∧ Below X.heap.size X w') := hid (fun X hX => sameIds_yes a2 c2 H' (hp2.below hX) hok'.ih a4 c4 (hp4.below hX) (by have := HLEN.out; omega) n2 HN2.out)
    rw [HN1.out, HN2.out]
    clear hok' hci1 hci2 hp1 hp2 hp3 hp4 hk1 hk2
    go_wp2_with fail
    refine D1.out.mono ?_
    rintro e w5 ⟨rfl, hb5⟩
    have HB5 : Hid (Below G w w5) := hid (HB4.out.trans (hb5.mono (HGS.out w4 HB4.out)))
    have D2' := hid (D2.out w5 hb5)
    clear hb5
    go_wp2_with fail
    refine D2'.out.mono ?_
    rintro e w6 ⟨rfl, hb6⟩
    have HB6 : Hid (Below G w w6) := hid (HB5.out.trans (hb6.mono (HGS.out w5 HB5.out)))
    clear hb6
    have DT : Hid (Calls Tryz.prog 11 #[.nilIface] w6 fun e w' => e = .returned (.int .i64 0) ∧ Below w6.heap.size w6 w') := hid (tell_nil w6)
    go_wp2_with fail
    refine DT.out.mono ?_
    rintro e w7 ⟨rfl, hb7⟩
    have HB7 : Hid (Below G w w7) := hid (HB6.out.trans (hb7.mono (HGS.out w6 HB6.out)))
    clear hb7
    go_wp2
    go_ret
    exact ⟨rfl, HB7.out⟩
  · have HNO := hid hno
    have HLS := hid hls
    clear hno hls
    go_wp2_with fail
    refine (C19.out w2 HB2.out HR2.out).mono ?_
    rintro e w3 ⟨rfl, hg3⟩
    have HB3 : Hid (Below G w w3) := hid (HB2.out.grown hg3 (HGS.out w2 HB2.out) (fun q hq => by cases hq; exact Nat.le_refl _))
    have HG3 := hid hg3
    clear hg3
    go_wp2_with fail
    refine (C41.out w3 HB3.out).mono ?_
    rintro e w4 ⟨hb4, h41⟩
    have HB4 : Hid (Below G w w4) := hid (HB3.out.trans (hb4.mono (HGS.out w3 HB3.out)))
    have HB34 := hid hb4
    clear hb4
    rcases h41 with ⟨W', H', y1, y2, hok', _⟩ | ⟨hno, _, rfl⟩ | ⟨hno, _⟩
    · exact absurd ⟨W', H', hok'⟩ HNO.out
    rotate_left
    · exact absurd HLS.out hno
    have D1 : Hid (Calls Tryz.prog 42 #[.slice none 0 0, .slice none 0 0] w4 fun e w' => e = .returned (.bool true) ∧ Below w4.heap.size w4 w') := hid (sameIds_yes none 0 [] (pa_nil w4) (fun x hx => by cases hx) none 0 (pa_nil w4) (by simp) 0 rfl)
    have D2 : Hid (∀ X, Below w4.heap.size w4 X → Calls Tryz.prog 42 #[.slice none 0 0, .slice none 0 0] X fun e w' => e = .returned (.bool true) ∧ Below X.heap.size X w') := hid (fun X hX => sameIds_yes none 0 [] (pa_nil X) (fun x hx => by cases hx) none 0 (pa_nil X) (by simp) 0 rfl)
    clear hno
    go_wp2_with fail
    refine D1.out.mono ?_
    rintro e w5 ⟨rfl, hb5⟩
    have HB5 : Hid (Below G w w5) := hid (HB4.out.trans (hb5.mono (HGS.out w4 HB4.out)))
    have D2' := hid (D2.out w5 hb5)
    clear hb5
    go_wp2_with fail
    refine D2'.out.mono ?_
    rintro e w6 ⟨rfl, hb6⟩
    have HB6 : Hid (Below G w w6) := hid (HB5.out.trans (hb6.mono (HGS.out w5 HB5.out)))
    clear hb6
    have DT : Hid (Calls Tryz.prog 11 #[.iface 37 (.int .i64 111)] w6 fun e w' => e = .returned (.int .i64 111) ∧ Below w6.heap.size w6 w') := hid (tell_errno 111 w6 (HGW.out w6 HB6.out))
    go_wp2_with fail
    refine DT.out.mono ?_
    rintro e w7 ⟨rfl, hb7⟩
    have HB7 : Hid (Below G w w7) := hid (HB6.out.trans (hb7.mono (HGS.out w6 HB6.out)))
    clear hb7
    go_wp2
    go_ret
    exact ⟨rfl, HB7.out⟩
  · have HNO := hid hno
    clear hno
    go_wp2_with fail
    refine (C19.out w2 HB2.out HR2.out).mono ?_
    rintro e w3 ⟨rfl, hg3⟩
    have HB3 : Hid (Below G w w3) := hid (HB2.out.grown hg3 (HGS.out w2 HB2.out) (fun q hq => by cases hq; exact Nat.le_refl _))
    have HG3 := hid hg3
    clear hg3
    go_wp2_with fail
    refine (C41.out w3 HB3.out).mono ?_
    rintro e w4 ⟨hb4, h41⟩
    have HB4 : Hid (Below G w w4) := hid (HB3.out.trans (hb4.mono (HGS.out w3 HB3.out)))
    have HB34 := hid hb4
    clear hb4
    rcases h41 with ⟨W', H', y1, y2, hok', _⟩ | ⟨hno, hls, _⟩ | ⟨hno, rfl⟩
    · exact absurd (wok_ls hok') HNO.out
    · exact absurd hls HNO.out
    have D1 : Hid (Calls Tryz.prog 42 #[.slice none 0 0, .slice none 0 0] w4 fun e w' => e = .returned (.bool true) ∧ Below w4.heap.size w4 w') := hid (sameIds_yes none 0 [] (pa_nil w4) (fun x hx => by cases hx) none 0 (pa_nil w4) (by simp) 0 rfl)
    have D2 : Hid (∀ X, Below w4.heap.size w4 X → Calls Tryz.prog 42 #[.slice none 0 0, .slice none 0 0] X fun e w' => e = .returned (.bool true) ∧ Below X.heap.size X w') := hid (fun X hX => sameIds_yes none 0 [] (pa_nil X) (fun x hx => by cases hx) none 0 (pa_nil X) (by simp) 0 rfl)
    clear hno
    go_wp2_with fail
    refine D1.out.mono ?_
    rintro e w5 ⟨rfl, hb5⟩
    have HB5 : Hid (Below G w w5) := hid (HB4.out.trans (hb5.mono (HGS.out w4 HB4.out)))
    have D2' := hid (D2.out w5 hb5)
    clear hb5
    go_wp2_with fail
    refine D2'.out.mono ?_
    rintro e w6 ⟨rfl, hb6⟩
    have HB6 : Hid (Below G w w6) := hid (HB5.out.trans (hb6.mono (HGS.out w5 HB5.out)))
    clear hb6
    have DT : Hid (Calls Tryz.prog 11 #[.iface 37 (.int .i64 110)] w6 fun e w' => e = .returned (.int .i64 110) ∧ Below w6.heap.size w6 w') := hid (tell_errno 110 w6 (HGW.out w6 HB6.out))
    go_wp2_with fail
    refine DT.out.mono ?_
    rintro e w7 ⟨rfl, hb7⟩
    have HB7 : Hid (Below G w w7) := hid (HB6.out.trans (hb7.mono (HGS.out w6 HB6.out)))
    clear hb7
    go_wp2
    go_ret
    exact ⟨rfl, HB7.out⟩
end Go.Proofs.YtijeogdnjeamaaaGreatDoor
