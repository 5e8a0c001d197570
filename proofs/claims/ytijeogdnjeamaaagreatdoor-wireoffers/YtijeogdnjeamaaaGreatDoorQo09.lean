import Derived.Test.YtijeogdnjeamaaaGreatDoorQo08
namespace Go.Proofs.YtijeogdnjeamaaaGreatDoor.Nm
open Go.RowKit
set_option linter.unusedVariables false
set_option linter.unusedSimpArgs false
def Mx (w : World) : Prop := ∃ m, w.cell? ⟨1, 0, none⟩ = some (.int .i64 m)
theorem cell_lt {w : World} {p : Addr} {v : Value} (h : w.cell? p = some v) : p.block < w.heap.size := by
  apply Classical.byContradiction
  intro hn
  rw [World.cell?, Array.getElem?_eq_none (by omega)] at h
  cases h
theorem Mx.below {w w' : World} (h : Mx w) (hb : Below w.heap.size w w') : Mx w' := by
  obtain ⟨m, hm⟩ := h
  exact ⟨m, (hb.cell (p := ⟨1, 0, none⟩) (cell_lt hm)).trans hm⟩
theorem txt_len (l : List UInt8) : (⟨l.toArray⟩ : ByteArray).size = l.length := by simp [ByteArray.size]
theorem Tryz.info9 : (Tryz.prog.info? 9).map (fun i => (i.zero, i.size, i.bytes)) = some (some (.string ByteArray.empty), 1, 16) := by kernel_rfl
def pV (p : List UInt8) : Value := .string ⟨p.toArray⟩
theorem split_any (s : List UInt8) (hs : s.length ≤ 100000) (w : World) (hm : Mx w) :
    Calls Tryz.prog 88 #[.string ⟨s.toArray⟩, .string ⟨#[47]⟩] w fun e w' => e = .returned (.slice (some ⟨w.heap.size, 0, none⟩) (spl s).length (spl s).length) ∧ w' = w.alloc (.cells ((spl s).map pV).toArray 9) := by
  obtain ⟨m, hm⟩ := hm
  refine (Any.strings_Split Tryz.lays146 Tryz.info9 ⟨s.toArray⟩ ⟨#[47]⟩ m w (by rw [txt_len]; omega) hm (by decide)).mono ?_
  rintro e w' ⟨rfl, rfl⟩
  have hc : Lib.countB ⟨s.toArray⟩ ⟨#[47]⟩ = Lib.count s [47] := rfl
  have hd := Lib.splitB_data ⟨#[47]⟩ 0 (Lib.count s [47]) ⟨s.toArray⟩
  have hd2 : (Lib.splitB ⟨#[47]⟩ 0 (Lib.count s [47]) ⟨s.toArray⟩).map (·.data.toList) = spl s := hd.trans (split_spl s)
  have hl : (spl s).length = Lib.count s [47] + 1 := count_spl (s.length + 1) s (Nat.le_refl _)
  have hv : (Lib.splitB ⟨#[47]⟩ 0 (Lib.count s [47]) ⟨s.toArray⟩).map Value.string = (spl s).map pV := by
    rw [← hd2, List.map_map]
    refine List.map_congr_left fun b _ => ?_
    simp [pV]
  rw [hc, hv, hl]
  exact ⟨rfl, rfl⟩
theorem hasPrefix_any (s p : List UInt8) (w : World) : Calls Tryz.prog 89 #[.string ⟨s.toArray⟩, .string ⟨p.toArray⟩] w fun e w' => e = .returned (.bool (Lib.hasPrefix s p)) ∧ w' = w :=
  Any.strings_HasPrefix Tryz.lays99 ⟨s.toArray⟩ ⟨p.toArray⟩ w
theorem hasSuffix_any (s p : List UInt8) (hs : s.length ≤ 100000) (w : World) : Calls Tryz.prog 57 #[.string ⟨s.toArray⟩, .string ⟨p.toArray⟩] w fun e w' => e = .returned (.bool (Lib.hasSuffix s p)) ∧ w' = w :=
  Any.strings_HasSuffix Tryz.lays100 ⟨s.toArray⟩ ⟨p.toArray⟩ w (by rw [txt_len]; omega)
theorem contains_any (s p : List UInt8) (hs : s.length ≤ 100000) (w : World) (hm : Mx w) : Calls Tryz.prog 56 #[.string ⟨s.toArray⟩, .string ⟨p.toArray⟩] w fun e w' => e = .returned (.bool (Lib.contains s p)) ∧ w' = w := by
  obtain ⟨m, hm⟩ := hm
  exact Any.strings_Contains Tryz.lays144 ⟨s.toArray⟩ ⟨p.toArray⟩ m w (by rw [txt_len]; omega) hm
theorem spl_len (s : List UInt8) : ∀ p ∈ spl s, p.length ≤ s.length := by
  induction s with
  | nil => intro p hp; simp [spl] at hp; subst hp; simp
  | cons c t ih =>
    intro p hp
    rw [spl] at hp
    split at hp
    · rcases List.mem_cons.1 hp with rfl | hp
      · simp
      · have := ih p hp; simp; omega
    · cases hq : spl t with
      | nil => exact absurd hq (spl_ne t)
      | cons q qs =>
        rw [hq] at hp ih
        rcases List.mem_cons.1 hp with rfl | hp
        · have := ih q (by simp); simp; omega
        · have := ih p (by simp [hp]); simp; omega
set_option maxRecDepth 100000 in
set_option maxHeartbeats 1000000 in
theorem hasParts_any (s : List UInt8) (hs : s.length ≤ 100000) (w : World) (hm : Mx w) :
    Calls Tryz.prog 54 #[.string ⟨s.toArray⟩] w fun e w' => e = .returned (.bool ((spl s).all partOk && ((spl s).headD [] == [114, 101, 102, 115]) && decide (1 < (spl s).length))) ∧ Below w.heap.size w w' := by
  obtain ⟨S, HS⟩ : ∃ S : ByteArray, Hid (⟨s.toArray⟩ = S) := ⟨_, rfl⟩
  obtain ⟨ps, HP⟩ : ∃ ps, Hid (spl s = ps) := ⟨_, rfl⟩
  obtain ⟨n, HN⟩ : ∃ n, Hid (ps.length = n) := ⟨_, rfl⟩
  have hn0 : 0 < n := by rw [← HN.out, ← HP.out]; exact List.length_pos_iff.2 (spl_ne s)
  have hnl : n ≤ 100001 := by
    rw [← HN.out, ← HP.out]
    have := count_spl (s.length + 1) s (Nat.le_refl _)
    have h2 : ∀ s : List UInt8, (spl s).length ≤ s.length + 1 := by
      intro s
      induction s with
      | nil => simp [spl]
      | cons c t ih =>
        rw [spl]
        split
        · simp; omega
        · cases hq : spl t with
          | nil => simp
          | cons q qs => rw [hq] at ih; simp at ih ⊢; omega
    have := h2 s
    omega
  have HLN : Hid (∀ p ∈ ps, p.length ≤ 100000) := hid (by rw [← HP.out]; intro p hp; have := spl_len s p hp; omega)
  obtain ⟨G, HG⟩ : ∃ G, Hid (w.heap.size = G) := ⟨_, rfl⟩
  obtain ⟨w1, HW1⟩ : ∃ w1, Hid (w.alloc (.cells (ps.map pV).toArray 9) = w1) := ⟨_, rfl⟩
  have C10 : Hid (Calls Tryz.prog 88 #[.string S, .string ⟨#[47]⟩] w fun e w' => e = .returned (.slice (some ⟨G, 0, none⟩) n n) ∧ w' = w1) := hid (by
    have := split_any s hs w hm
    rw [HS.out, HP.out, HN.out, HG.out, HW1.out] at this
    exact this)
  have HB : Hid (Below w.heap.size w w1) := hid (by rw [← HW1.out]; exact (Below.refl _ w).alloc (Nat.le_refl _) _)
  have HC : Hid (∀ k p, ps[k]? = some p → w1.cell? ⟨G, k, none⟩ = some (pV p)) := fun k p h => by
    rw [← HW1.out, ← HG.out]
    simp [List.getElem?_map, h]
  obtain ⟨r, HRR⟩ : ∃ r, Hid ((ps.all partOk && (ps.headD [] == [114, 101, 102, 115]) && decide (1 < ps.length)) = r) := ⟨_, rfl⟩
  rw [HS.out, HP.out, HRR.out]
  go_enter Tryz.func54, Tryz.ntmps54
  go_wp2_with fail
  refine C10.out.mono ?_
  rintro e w' ⟨rfl, hw⟩
  have hw' := hw.symm
  subst hw'
  clear hw
  go_wp2
  go_loopg [10] n (fun g i wr => ∃ k : Nat, k ≤ n ∧ g = n - k ∧ i = .int .i64 k ∧ Hid (∀ p ∈ ps.take k, partOk p = true) ∧ Hid (wr = w1))
  case atStart => exact ⟨0, Nat.zero_le _, rfl, rfl, hid (by simp), hid rfl⟩
  case round =>
    obtain ⟨k, hk, hg, rfl, HD, HW⟩ := hrel
    have hww := HW.out
    subst hww
    clear HW
    by_cases hlt : k < n
    · have hlti : (k : Int) < (n : Int) := by omega
      obtain ⟨p, hp⟩ : ∃ p, ps[k]? = some p := ⟨_, List.getElem?_eq_getElem (by rw [HN.out]; exact hlt)⟩
      have HPP : Hid (ps[k]? = some p) := hp
      obtain ⟨X, HX⟩ : ∃ X : ByteArray, Hid (⟨p.toArray⟩ = X) := ⟨_, rfl⟩
      have hcell : wr.cell? ⟨G, k, none⟩ = some (.string X) := by rw [← HX.out]; exact HC.out k p hp
      have HBAD : Hid (partOk p = false → (ps.all partOk && (ps.headD [] == [114, 101, 102, 115]) && decide (1 < ps.length)) = false) := fun hb => by
        have : ps.all partOk = false := by
          rw [Bool.eq_false_iff]
          intro h
          have := List.all_eq_true.1 h p (List.mem_of_getElem? HPP.out)
          rw [hb] at this
          cases this
        rw [this]; rfl
      obtain ⟨a, HA⟩ : ∃ a, Hid (Lib.hasPrefix p [46] = a) := ⟨_, rfl⟩
      obtain ⟨b, HBB⟩ : ∃ b, Hid (Lib.hasSuffix p [46, 108, 111, 99, 107] = b) := ⟨_, rfl⟩
      have C11 : Hid (∀ w, Calls Tryz.prog 89 #[.string X, .string ⟨#[46]⟩] w fun e w' => e = .returned (.bool a) ∧ w' = w) := fun w => by rw [← HX.out, ← HA.out]; exact hasPrefix_any p [46] w
      have C9 : Hid (∀ w, Calls Tryz.prog 57 #[.string X, .string ⟨#[46, 108, 111, 99, 107]⟩] w fun e w' => e = .returned (.bool b) ∧ w' = w) := fun w => by rw [← HX.out, ← HBB.out]; exact hasSuffix_any p [46, 108, 111, 99, 107] (HLN.out p (List.mem_of_getElem? HPP.out)) w
      have HXL : Hid (X.toList.isEmpty = p.isEmpty) := hid (by rw [← HX.out, Lib.toList_data])
      clear hp
      cases hpe : p.isEmpty with
      | true =>
        have he : X.toList.isEmpty = true := by rw [HXL.out]; exact hpe
        have HR := HBAD.out (by unfold partOk; rw [hpe]; rfl)
        go_wp2
        go_ret
        exact ⟨by rw [← HRR.out, HR]; rfl, HB.out⟩
      | false =>
        have he : X.toList.isEmpty = false := by rw [HXL.out]; exact hpe
        have HOK : Hid (partOk p = (!a && !b)) := hid (by unfold partOk; rw [hpe, HA.out, HBB.out]; rfl)
        cases a with
        | true =>
          have HR := HBAD.out HOK.out
          go_wp2_with (go_at_call 89; refine (C11.out _).mono ?_; rintro e w' ⟨rfl, rfl⟩)
          go_ret
          exact ⟨by rw [← HRR.out, HR]; rfl, HB.out⟩
        | false =>
          cases b with
          | true =>
            have HR := HBAD.out HOK.out
            go_wp2_with (first
              | (go_at_call 89; refine (C11.out _).mono ?_; rintro e w' ⟨rfl, rfl⟩)
              | (go_at_call 57; refine (C9.out _).mono ?_; rintro e w' ⟨rfl, rfl⟩))
            go_ret
            exact ⟨by rw [← HRR.out, HR]; rfl, HB.out⟩
          | false =>
            go_wp2_with (first
              | (go_at_call 89; refine (C11.out _).mono ?_; rintro e w' ⟨rfl, rfl⟩)
              | (go_at_call 57; refine (C9.out _).mono ?_; rintro e w' ⟨rfl, rfl⟩))
            go_roundg (n - (k + 1))
            case measure => omega
            case rel =>
              refine ⟨k + 1, by omega, rfl, by go_num, hid ?_, hid rfl⟩
              rw [List.take_add_one, HPP.out]
              intro y hy
              rcases List.mem_append.1 hy with hy | hy
              · exact HD.out y hy
              · have : y = p := by simpa using hy
                subst this
                exact HOK.out
    · have hlti : ¬ (k : Int) < (n : Int) := by omega
      have HALL : Hid (ps.all partOk = true) := hid (by
        have h := HD.out
        rw [List.take_of_length_le (by rw [HN.out]; omega)] at h
        exact List.all_eq_true.2 h)
      obtain ⟨p, hp⟩ : ∃ p, ps[0]? = some p := ⟨_, List.getElem?_eq_getElem (by rw [HN.out]; exact hn0)⟩
      have HH : Hid (ps.headD [] = p) := hid (by cases ps with | nil => cases hp | cons q qs => simpa using hp)
      obtain ⟨X, HX⟩ : ∃ X : ByteArray, Hid (⟨p.toArray⟩ = X) := ⟨_, rfl⟩
      have hcell : wr.cell? ⟨G, 0, none⟩ = some (.string X) := by rw [← HX.out]; exact HC.out 0 p hp
      have HXL : Hid (X.toList = p) := hid (by rw [← HX.out, Lib.toList_data])
      have hn0i : (0 : Int) < (n : Int) := by omega
      clear hp
      by_cases hr : p = [114, 101, 102, 115]
      · have he : (X.toList == [114, 101, 102, 115]) = true := by rw [HXL.out]; simpa using hr
        have he2 : (p == [114, 101, 102, 115]) = true := by simpa using hr
        by_cases h1 : 1 < n
        · have h1i : (1 : Int) < (n : Int) := by omega
          go_wp2
          go_ret
          exact ⟨by rw [← HRR.out, HALL.out, HH.out, HN.out, he2, decide_eq_true h1]; rfl, HB.out⟩
        · have h1i : ¬ (1 : Int) < (n : Int) := by omega
          go_wp2
          go_ret
          exact ⟨by rw [← HRR.out, HALL.out, HH.out, HN.out, he2, decide_eq_false h1]; rfl, HB.out⟩
      · have he : (X.toList == [114, 101, 102, 115]) = false := by rw [HXL.out]; simpa using hr
        have he2 : (p == [114, 101, 102, 115]) = false := by simpa using hr
        go_wp2
        go_ret
        exact ⟨by rw [← HRR.out, HALL.out, HH.out, HN.out, he2]; rfl, HB.out⟩
end Go.Proofs.YtijeogdnjeamaaaGreatDoor.Nm
namespace Go.Proofs.YtijeogdnjeamaaaGreatDoor.Nm
open Go.RowKit
set_option linter.unusedVariables false
set_option linter.unusedSimpArgs false
def isN (s : List UInt8) : Bool := (s == [72, 69, 65, 68]) || docOk s
theorem isN_not {s : List UInt8} (h : s ≠ [72, 69, 65, 68]) : isN s = prgOk s := by
  unfold isN
  rw [ok_same, show (s == [72, 69, 65, 68]) = false by simpa using h]
  rfl
set_option maxRecDepth 100000 in
set_option maxHeartbeats 2000000 in
theorem isName_any (s : List UInt8) (hs : s.length ≤ 100000) (w : World) (hm : Mx w) :
    Calls Tryz.prog 29 #[.string ⟨s.toArray⟩] w fun e w' => e = .returned (.bool (isN s)) ∧ Below w.heap.size w w' := by
  by_cases hh : s = [72, 69, 65, 68]
  · subst hh
    have HB : Hid (Below w.heap.size w w) := Below.refl _ _
    go_enter Tryz.func29, Tryz.ntmps29
    go_wp2
    go_ret
    exact ⟨rfl, HB.out⟩
  · obtain ⟨S, HS⟩ : ∃ S : ByteArray, Hid (⟨s.toArray⟩ = S) := ⟨_, rfl⟩
    obtain ⟨n, HN⟩ : ∃ n, Hid (s.length = n) := ⟨_, rfl⟩
    obtain ⟨G, HG⟩ : ∃ G, Hid (w.heap.size = G) := ⟨_, rfl⟩
    have hsz : S.size = n := by rw [← HS.out, txt_len]; exact HN.out
    have he : (S.toList == [72, 69, 65, 68]) = false := by rw [← HS.out, Lib.toList_data]; simpa using hh
    obtain ⟨b6, H6⟩ : ∃ b, Hid (((spl s).all partOk && ((spl s).headD [] == [114, 101, 102, 115]) && decide (1 < (spl s).length)) = b) := ⟨_, rfl⟩
    obtain ⟨b7, H7⟩ : ∃ b, Hid (s.all byteOk = b) := ⟨_, rfl⟩
    obtain ⟨b8, H8⟩ : ∃ b, Hid (Lib.contains s [46, 46] = b) := ⟨_, rfl⟩
    obtain ⟨b9, H9⟩ : ∃ b, Hid (Lib.contains s [64, 123] = b) := ⟨_, rfl⟩
    obtain ⟨b10, H10⟩ : ∃ b, Hid (Lib.hasSuffix s [46] = b) := ⟨_, rfl⟩
    have HR : Hid (isN s = (decide (n ≤ 60) && b6 && b7 && !b8 && !b9 && !b10)) := hid (by
      rw [isN_not hh, prgOk, H6.out, H7.out, H8.out, H9.out, H10.out, HN.out])
    have HM : Hid (∀ W, Below G w W → Mx W) := fun W hW => hm.below (by rw [HG.out]; exact hW)
    have C6 : Hid (Calls Tryz.prog 54 #[.string S] w fun e w' => e = .returned (.bool b6) ∧ Below G w w') := hid (by
      have := hasParts_any s hs w hm
      rw [HS.out, H6.out, HG.out] at this
      exact this)
    have C7 : Hid (∀ W, Calls Tryz.prog 55 #[.string S] W fun e w' => e = .returned (.bool b7) ∧ Below W.heap.size W w') := fun W => by
      rw [← HS.out, ← H7.out]; exact hasRunes_any s W
    have C8 : Hid (∀ W, Below G w W → Calls Tryz.prog 56 #[.string S, .string ⟨#[46, 46]⟩] W fun e w' => e = .returned (.bool b8) ∧ w' = W) := fun W hW => by
      rw [← HS.out, ← H8.out]; exact contains_any s [46, 46] hs W (HM.out W hW)
    have C9 : Hid (∀ W, Below G w W → Calls Tryz.prog 56 #[.string S, .string ⟨#[64, 123]⟩] W fun e w' => e = .returned (.bool b9) ∧ w' = W) := fun W hW => by
      rw [← HS.out, ← H9.out]; exact contains_any s [64, 123] hs W (HM.out W hW)
    have C10 : Hid (∀ W, Calls Tryz.prog 57 #[.string S, .string ⟨#[46]⟩] W fun e w' => e = .returned (.bool b10) ∧ w' = W) := fun W => by
      rw [← HS.out, ← H10.out]; exact hasSuffix_any s [46] hs W
    have HB0 : Hid (Below G w w) := Below.refl _ _
    have HGS : Hid (G ≤ w.heap.size) := hid (by rw [HG.out]; exact Nat.le_refl _)
    rw [HS.out, HR.out, HG.out]
    clear HR hm hh
    by_cases h60 : n ≤ 60
    · have h60i : (n : Int) ≤ 60 := by omega
      rw [decide_eq_true h60]
      cases b6 with
      | false =>
        go_enter Tryz.func29, Tryz.ntmps29
        go_wp2_with (first
          | (go_at_call 54; refine C6.out.mono ?_; rintro e w1 ⟨rfl, hb1⟩; have HB1 : Hid (Below G w w1) := hb1; clear hb1)
          | fail)
        go_ret
        exact ⟨rfl, HB1.out⟩
      | true =>
      cases b7 with
      | false =>
        go_enter Tryz.func29, Tryz.ntmps29
        go_wp2_with (first
          | (go_at_call 54; refine C6.out.mono ?_; rintro e w1 ⟨rfl, hb1⟩; have HB1 : Hid (Below G w w1) := hb1; clear hb1)
          | (go_at_call 55; refine (C7.out _).mono ?_; rintro e w2 ⟨rfl, hb2⟩; have HB2 : Hid (Below G w w2) := HB1.out.trans (hb2.mono (Nat.le_trans HGS.out HB1.out.size)); clear hb2)
          | fail)
        go_ret
        exact ⟨rfl, HB2.out⟩
      | true =>
      cases b8 with
      | true =>
        go_enter Tryz.func29, Tryz.ntmps29
        go_wp2_with (first
          | (go_at_call 54; refine C6.out.mono ?_; rintro e w1 ⟨rfl, hb1⟩; have HB1 : Hid (Below G w w1) := hb1; clear hb1)
          | (go_at_call 55; refine (C7.out _).mono ?_; rintro e w2 ⟨rfl, hb2⟩; have HB2 : Hid (Below G w w2) := HB1.out.trans (hb2.mono (Nat.le_trans HGS.out HB1.out.size)); clear hb2)
          | (go_at_call 56; refine (C8.out _ HB2.out).mono ?_; rintro e w3 ⟨rfl, rfl⟩)
          | fail)
        go_ret
        exact ⟨rfl, HB2.out⟩
      | false =>
      cases b9 with
      | true =>
        go_enter Tryz.func29, Tryz.ntmps29
        go_wp2_with (first
          | (go_at_call 54; refine C6.out.mono ?_; rintro e w1 ⟨rfl, hb1⟩; have HB1 : Hid (Below G w w1) := hb1; clear hb1)
          | (go_at_call 55; refine (C7.out _).mono ?_; rintro e w2 ⟨rfl, hb2⟩; have HB2 : Hid (Below G w w2) := HB1.out.trans (hb2.mono (Nat.le_trans HGS.out HB1.out.size)); clear hb2)
          | (go_at_call 56; refine (C8.out _ HB2.out).mono ?_; rintro e w3 ⟨rfl, rfl⟩)
          | (go_at_call 56; refine (C9.out _ HB2.out).mono ?_; rintro e w3 ⟨rfl, rfl⟩)
          | fail)
        go_ret
        exact ⟨rfl, HB2.out⟩
      | false =>
        go_enter Tryz.func29, Tryz.ntmps29
        go_wp2_with (first
          | (go_at_call 54; refine C6.out.mono ?_; rintro e w1 ⟨rfl, hb1⟩; have HB1 : Hid (Below G w w1) := hb1; clear hb1)
          | (go_at_call 55; refine (C7.out _).mono ?_; rintro e w2 ⟨rfl, hb2⟩; have HB2 : Hid (Below G w w2) := HB1.out.trans (hb2.mono (Nat.le_trans HGS.out HB1.out.size)); clear hb2)
          | (go_at_call 56; refine (C8.out _ HB2.out).mono ?_; rintro e w3 ⟨rfl, rfl⟩)
          | (go_at_call 56; refine (C9.out _ HB2.out).mono ?_; rintro e w3 ⟨rfl, rfl⟩)
          | (go_at_call 57; refine (C10.out _).mono ?_; rintro e w3 ⟨rfl, rfl⟩)
          | fail)
        go_ret
        exact ⟨by cases b10 <;> rfl, HB2.out⟩
    · have h60i : ¬ (n : Int) ≤ 60 := by omega
      rw [decide_eq_false h60]
      go_enter Tryz.func29, Tryz.ntmps29
      go_wp2
      go_ret
      exact ⟨rfl, HB0.out⟩
end Go.Proofs.YtijeogdnjeamaaaGreatDoor.Nm
namespace Go.Proofs.YtijeogdnjeamaaaGreatDoor.Nm
open Go.RowKit
set_option linter.unusedVariables false
set_option linter.unusedSimpArgs false
theorem idx_txt (s : List UInt8) (j : Nat) (w : World) (x : UInt8) (h : s[j]? = some x) : (Instr.index 9 (.string ⟨s.toArray⟩) (.int .i64 j)).run Tryz.prog w = .ok (.int .u8 (x.toNat : Int)) w := by
  obtain ⟨hj, hx⟩ := List.getElem?_eq_some_iff.1 h
  rw [run_index_string (P := Tryz.prog) w 9 ⟨s.toArray⟩ .i64 j Tryz.underlying9, dif_pos ⟨by omega, by rw [txt_len]; omega⟩]
  simp only [Int.toNat_natCast]
  rw [← hx]
  rfl
theorem ext_txt (s : List UInt8) (i j : Nat) : (⟨s.toArray⟩ : ByteArray).extract i j = ⟨((s.drop i).take (j - i)).toArray⟩ := by
  apply ByteArray.ext
  simp [ByteArray.data_extract, List.extract]
theorem slc_to (s : List UInt8) (j : Nat) (h : j ≤ s.length) (w : World) : (Instr.slice 9 (.string ⟨s.toArray⟩) none (some (.int .i64 j)) none).run Tryz.prog w = .ok (.string ⟨(s.take j).toArray⟩) w := by
  rw [run_slice_string_to_if w 9 _ .i64 j Tryz.underlying9, if_pos ⟨by omega, by rw [txt_len]; omega⟩, Int.toNat_natCast, ext_txt, List.drop_zero, Nat.sub_zero]
theorem slc_mid (s : List UInt8) (i j : Nat) (h1 : i ≤ j) (h2 : j ≤ s.length) (w : World) : (Instr.slice 9 (.string ⟨s.toArray⟩) (some (.int .i64 i)) (some (.int .i64 j)) none).run Tryz.prog w = .ok (.string ⟨((s.drop i).take (j - i)).toArray⟩) w := by
  rw [run_slice_string w 9 _ .i64 .i64 i j Tryz.underlying9 (by omega) (by omega) (by rw [txt_len]; omega), Int.toNat_natCast, Int.toNat_natCast, ext_txt]
def lockW : List UInt8 := [46, 108, 111, 99, 107]
theorem suf_iff (l p : List UInt8) : Lib.hasSuffix l p = (l.drop (l.length - p.length) == p) := by
  rw [Lib.hasSuffix, Bool.eq_iff_iff, List.isSuffixOf_iff_suffix, List.suffix_iff_eq_drop, beq_iff_eq]
  exact eq_comm
theorem suf_dot (s : List UInt8) (x : UInt8) (h : s[s.length - 1]? = some x) : Lib.hasSuffix s [46] = (x == 46) := by
  rw [suf_iff]
  obtain ⟨hj, hx⟩ := List.getElem?_eq_some_iff.1 h
  rw [show ([46] : List UInt8).length = 1 from rfl, List.drop_eq_getElem_cons hj, hx, List.drop_eq_nil_of_le (by omega)]
  simp
def cur (s : List UInt8) (f i : Nat) : List UInt8 := (s.drop f).take (i - f)
theorem cur_len (s : List UInt8) (f i : Nat) (h : f ≤ i) (hi : i ≤ s.length) : (cur s f i).length = i - f := by
  simp [cur]; omega
theorem part_none (s : List UInt8) (f : Nat) : partOk (cur s f f) = false := by simp [cur, partOk]
theorem part_dot (s : List UInt8) (f i : Nat) (hf : f < i) (x : UInt8) (hx : s[f]? = some x) : Lib.hasPrefix (cur s f i) [46] = (x == 46) := by
  obtain ⟨hj, hx⟩ := List.getElem?_eq_some_iff.1 hx
  rw [Lib.hasPrefix, cur, List.drop_eq_getElem_cons hj, hx, show i - f = (i - f - 1) + 1 by omega, List.take_succ_cons]
  simp [List.isPrefixOf]
  rw [Bool.eq_iff_iff]
  simp
  exact eq_comm
theorem part_lock (s : List UInt8) (f i : Nat) (hf : f + 5 ≤ i) (hi : i ≤ s.length) : Lib.hasSuffix (cur s f i) lockW = ((s.drop (i - 5)).take 5 == lockW) := by
  rw [suf_iff, cur_len s f i (by omega) hi, show lockW.length = 5 from rfl, cur, List.drop_take, List.drop_drop, show f + (i - f - 5) = i - 5 by omega, show i - f - (i - f - 5) = 5 by omega]
theorem part_short (s : List UInt8) (f i : Nat) (hf : f ≤ i) (h5 : i < f + 5) (hi : i ≤ s.length) : Lib.hasSuffix (cur s f i) lockW = false := by
  rw [suf_iff, Bool.eq_false_iff]
  intro h
  have := congrArg List.length (beq_iff_eq.1 h)
  rw [List.length_drop, cur_len s f i hf hi] at this
  simp [lockW] at this
  omega
theorem part_some (s : List UInt8) (f i : Nat) (hf : f < i) (hi : i ≤ s.length) (x : UInt8) (hx : s[f]? = some x) : partOk (cur s f i) = (!(x == 46) && !Lib.hasSuffix (cur s f i) lockW) := by
  unfold partOk
  rw [part_dot s f i hf x hx]
  have : (cur s f i).isEmpty = false := by
    have := cur_len s f i (by omega) hi
    cases h : cur s f i with
    | nil => rw [h] at this; simp at this; omega
    | cons a l => rfl
  rw [this]
  rfl
theorem cur_snoc (s : List UInt8) (f i : Nat) (hf : f ≤ i) (x : UInt8) (hx : s[i]? = some x) : cur s f (i + 1) = cur s f i ++ [x] := by
  unfold cur
  rw [show i + 1 - f = (i - f) + 1 by omega, List.take_add_one, List.getElem?_drop, show f + (i - f) = i by omega, hx]
  rfl
theorem bad_byte (x : UInt8) (c : Int) (hc : (x.toNat : Int) = c) (h : byteOk x = false) : c < 33 ∨ 126 < c ∨ c = 126 ∨ c = 94 ∨ c = 58 ∨ c = 63 ∨ c = 42 ∨ c = 91 ∨ c = 92 := by
  by_cases h1 : c < 33
  · exact .inl h1
  · by_cases h2 : 126 < c
    · exact .inr (.inl h2)
    · unfold byteOk at h
      rw [decide_eq_true (by omega), decide_eq_true (by omega)] at h
      simp at h
      have h' : x = 126 ∨ x = 94 ∨ x = 58 ∨ x = 63 ∨ x = 42 ∨ x = 91 ∨ x = 92 := by
        apply Classical.byContradiction
        intro hn
        simp only [not_or] at hn
        exact hn.2.2.2.2.2.2 (h hn.1 hn.2.1 hn.2.2.1 hn.2.2.2.1 hn.2.2.2.2.1 hn.2.2.2.2.2.1)
      rcases h' with rfl | rfl | rfl | rfl | rfl | rfl | rfl <;> subst hc <;> decide
theorem good_byte (x : UInt8) (c : Int) (hc : (x.toNat : Int) = c) (h : byteOk x = true) : 33 ≤ c ∧ c ≤ 126 ∧ c ≠ 126 ∧ c ≠ 94 ∧ c ≠ 58 ∧ c ≠ 63 ∧ c ≠ 42 ∧ c ≠ 91 ∧ c ≠ 92 := by
  unfold byteOk at h
  simp at h
  obtain ⟨⟨h1, h2⟩, h3⟩ := h
  have hn : ∀ n : Nat, n < 256 → x ≠ UInt8.ofNat n → c ≠ n := fun n hn hx e => hx (UInt8.toNat_inj.1 (by
    have : x.toNat = n := by omega
    rw [this]
    simp
    omega))
  refine ⟨by omega, by omega, hn 126 (by decide) h3.1, hn 94 (by decide) h3.2.1, hn 58 (by decide) h3.2.2.1, hn 63 (by decide) h3.2.2.2.1, hn 42 (by decide) h3.2.2.2.2.1, hn 91 (by decide) h3.2.2.2.2.2.1, hn 92 (by decide) h3.2.2.2.2.2.2⟩
theorem byte_num (x : UInt8) (n : Nat) (hn : n < 256) : ((x.toNat : Int) = (n : Int)) ↔ x = UInt8.ofNat n := by
  constructor
  · intro h
    exact UInt8.toNat_inj.1 (by
      have : x.toNat = n := by omega
      rw [this]
      simp
      omega)
  · intro h
    rw [h]
    simp
    omega
end Go.Proofs.YtijeogdnjeamaaaGreatDoor.Nm
namespace Go.Proofs.YtijeogdnjeamaaaGreatDoor.Nm
open Go.RowKit
set_option linter.unusedVariables false
set_option linter.unusedSimpArgs false
def pv (s : List UInt8) (i : Nat) : Option UInt8 := if i = 0 then none else s[i - 1]?
def Dw (s : List UInt8) (f i : Nat) : Prop := f ≤ i ∧ dgo [] none s = dgo (cur s f i) (pv s i) (s.drop i)
set_option maxRecDepth 100000 in
set_option maxHeartbeats 4000000 in
theorem refName_any (s : List UInt8) (hs : s.length ≤ 100000) (w : World) :
    Calls Tryz.prog 32 #[.string ⟨s.toArray⟩] w fun e w' => e = .returned (.bool (isN s)) ∧ Below w.heap.size w w' := by
  have HB : Hid (Below w.heap.size w w) := Below.refl _ _
  by_cases hh : s = [72, 69, 65, 68]
  · subst hh
    go_enter Tryz.func32, Tryz.ntmps32
    go_wp2
    go_ret
    exact ⟨rfl, HB.out⟩
  · obtain ⟨S, HS⟩ : ∃ S : ByteArray, Hid (⟨s.toArray⟩ = S) := ⟨_, rfl⟩
    obtain ⟨n, HN⟩ : ∃ n, Hid (s.length = n) := ⟨_, rfl⟩
    have hsz : S.size = n := by rw [← HS.out, txt_len]; exact HN.out
    have he : (S.toList == [72, 69, 65, 68]) = false := by rw [← HS.out, Lib.toList_data]; simpa using hh
    have HR : Hid (isN s = docOk s) := hid (by
      unfold isN
      rw [show (s == [72, 69, 65, 68]) = false by simpa using hh]
      rfl)
    rw [HS.out, HR.out]
    clear hh
    by_cases h60 : n ≤ 60
    rotate_left
    · have h60i : (60 : Int) < (n : Int) := by omega
      have HF : Hid (docOk s = false) := hid (by unfold docOk; rw [HN.out, decide_eq_false h60]; rfl)
      rw [HF.out]
      go_enter Tryz.func32, Tryz.ntmps32
      go_wp2
      go_ret
      exact ⟨rfl, HB.out⟩
    have h60i : ¬ (60 : Int) < (n : Int) := by omega
    by_cases h6 : 6 ≤ n
    rotate_left
    · have h6i : (n : Int) < 6 := by omega
      have HF : Hid (docOk s = false) := hid (by unfold docOk; rw [HN.out, decide_eq_false h6]; simp)
      rw [HF.out]
      go_enter Tryz.func32, Tryz.ntmps32
      go_wp2
      go_ret
      exact ⟨rfl, HB.out⟩
    have h6i : ¬ (n : Int) < 6 := by omega
    obtain ⟨T, HT⟩ : ∃ T : ByteArray, Hid (⟨(s.take 5).toArray⟩ = T) := ⟨_, rfl⟩
    have hsl : ∀ w : World, (Instr.slice 9 (.string S) none (some (.int .i64 5)) none).run Tryz.prog w = .ok (.string T) w := fun w => by
      rw [← HS.out, ← HT.out]; exact slc_to s 5 (by rw [HN.out]; omega) w
    have HTL : Hid (T.toList = s.take 5) := hid (by rw [← HT.out, Lib.toList_data])
    by_cases hr : s.take 5 = [114, 101, 102, 115, 47]
    rotate_left
    · have hrb : (T.toList == [114, 101, 102, 115, 47]) = false := by rw [HTL.out]; simpa using hr
      have HF : Hid (docOk s = false) := hid (by unfold docOk; rw [show (s.take 5 == [114, 101, 102, 115, 47]) = false by simpa using hr]; simp)
      rw [HF.out]
      clear hr
      go_enter Tryz.func32, Tryz.ntmps32
      go_wp2
      go_ret
      exact ⟨rfl, HB.out⟩
    have hrb : (T.toList == [114, 101, 102, 115, 47]) = true := by rw [HTL.out]; simpa using hr
    obtain ⟨z, hz⟩ : ∃ z, s[n - 1]? = some z := ⟨_, List.getElem?_eq_getElem (by rw [HN.out]; omega)⟩
    obtain ⟨zc, HZC⟩ : ∃ c : Int, Hid ((z.toNat : Int) = c) := ⟨_, rfl⟩
    have hixz : ∀ w : World, (Instr.index 9 (.string S) (.int .i64 ((n : Int) - 1))).run Tryz.prog w = .ok (.int .u8 zc) w := fun w => by
      rw [← HS.out, ← HZC.out, show ((n : Int) - 1) = ((n - 1 : Nat) : Int) by omega]; exact idx_txt s (n - 1) w z hz
    have HSF : Hid (Lib.hasSuffix s [46] = (z == 46)) := hid (suf_dot s z (by rw [HN.out]; exact hz))
    have HZ : Hid (zc = 46 ↔ z = 46) := hid (by rw [← HZC.out]; exact byte_num z 46 (by decide))
    by_cases hzd : zc = 46
    · have HF : Hid (docOk s = false) := hid (by unfold docOk; rw [HSF.out, HZ.out.1 hzd]; simp)
      rw [HF.out]
      subst hzd
      clear hr
      go_enter Tryz.func32, Tryz.ntmps32
      go_wp2
      go_ret
      exact ⟨rfl, HB.out⟩
    have hzb : (zc == 46) = false := by simpa using hzd
    obtain ⟨r, HRR⟩ : ∃ r, Hid (dgo [] none s = r) := ⟨_, rfl⟩
    have HF : Hid (docOk s = r) := hid (by
      unfold docOk
      rw [HN.out, decide_eq_true h60, decide_eq_true h6, hr, HSF.out, show (z == 46) = false by simpa using fun e => hzd (HZ.out.2 e), HRR.out]
      simp)
    rw [HF.out]
    have HD0 : Hid (Dw s 0 0) := ⟨Nat.le_refl _, by simp [cur, pv]⟩
    clear hr hz hzd
    go_enter Tryz.func32, Tryz.ntmps32
    go_wp2
    go_loopg [4, 5] (n + 1) (fun g vf vi wr => ∃ f i : Nat, g = n + 1 - i ∧ vf = .int .i64 f ∧ vi = .int .i64 i ∧ i ≤ n + 1 ∧ f ≤ i ∧ Hid (wr = w) ∧ Hid ((i ≤ n ∧ Dw s f i) ∨ (i = n + 1 ∧ r = true)))
    case atStart => exact ⟨0, 0, rfl, rfl, rfl, by omega, by omega, hid rfl, hid (.inl ⟨by omega, HD0.out⟩)⟩
    case round =>
      obtain ⟨f, i, hg, rfl, rfl, hi, hfi0, HW, HI⟩ := hrel
      have hww := HW.out
      subst hww
      clear HW
      by_cases hin : i ≤ n
      rotate_left
      · have hini : ¬ (i : Int) ≤ (n : Int) := by omega
        have HRT : Hid (r = true) := hid (by
          rcases HI.out with h | h
          · exact absurd h.1 hin
          · exact h.2)
        go_wp2
        go_ret
        exact ⟨by rw [HRT.out]; rfl, HB.out⟩
      have hini : (i : Int) ≤ (n : Int) := by omega
      have HDW : Hid (Dw s f i) := hid (by
        rcases HI.out with h | h
        · exact h.2
        · exact absurd h.1 (by omega))
      clear HI
      by_cases hie : i = n
      · subst hie
        have HRP : Hid (r = partOk (cur s f i)) := hid (by
          rw [← HRR.out, HDW.out.2, List.drop_eq_nil_of_le (by rw [HN.out]; omega)]
          rfl)
        have HPB : Hid (partOk (cur s f i) = false → r = false) := fun h => by rw [HRP.out, h]
        by_cases hfi : f = i
        · have HRF : Hid (r = false) := hid (HPB.out (by rw [hfi]; exact part_none s i))
          have k0 : ((i : Int) - (f : Int) == 0) = true := by rw [hfi]; simp
          go_wp2
          go_ret
          exact ⟨by rw [HRF.out]; rfl, HB.out⟩
        have hfl : f < i := by omega
        have k0 : ((i : Int) - (f : Int) == 0) = false := by simp; omega
        have k0' : ¬ ((i : Int) - (f : Int) = 0) := by omega
        obtain ⟨x, hx⟩ : ∃ x, s[f]? = some x := ⟨_, List.getElem?_eq_getElem (by rw [HN.out]; omega)⟩
        have HX : Hid (partOk (cur s f i) = (!(x == 46) && !Lib.hasSuffix (cur s f i) lockW)) := hid (part_some s f i hfl (by rw [HN.out]; omega) x hx)
        obtain ⟨xc, HXC⟩ : ∃ c : Int, Hid ((x.toNat : Int) = c) := ⟨_, rfl⟩
        have hixf : ∀ w : World, (Instr.index 9 (.string S) (.int .i64 f)).run Tryz.prog w = .ok (.int .u8 xc) w := fun w => by rw [← HS.out, ← HXC.out]; exact idx_txt s f w x hx
        have HXD : Hid (xc = 46 ↔ x = 46) := hid (by rw [← HXC.out]; exact byte_num x 46 (by decide))
        clear hx
        by_cases hxd : xc = 46
        · have HRF : Hid (r = false) := hid (HPB.out (by rw [HX.out, HXD.out.1 hxd]; rfl))
          subst hxd
          go_wp2
          go_ret
          exact ⟨by rw [HRF.out]; rfl, HB.out⟩
        have hxb : (xc == 46) = false := by simpa using hxd
        have HX2 : Hid (partOk (cur s f i) = !Lib.hasSuffix (cur s f i) lockW) := hid (by rw [HX.out, show (x == 46) = false by simpa using fun e => hxd (HXD.out.2 e)]; rfl)
        clear hxd
        by_cases hk5 : f + 5 ≤ i
        rotate_left
        · have k5 : ¬ (5 : Int) ≤ (i : Int) - (f : Int) := by omega
          have HPG : Hid (partOk (cur s f i) = true) := hid (by rw [HX2.out, part_short s f i (by omega) (by omega) (by rw [HN.out]; omega)]; rfl)
          go_wp2
          go_roundg (i + 1 - (i + 1))
          case measure => omega
          case rel => exact ⟨i + 1, i + 1, rfl, by go_num, by go_num, by omega, by omega, hid rfl, hid (.inr ⟨by omega, by rw [HRP.out, HPG.out]⟩)⟩
        have k5 : (5 : Int) ≤ (i : Int) - (f : Int) := by omega
        obtain ⟨T5, HT5⟩ : ∃ T : ByteArray, Hid (⟨((s.drop (i - 5)).take 5).toArray⟩ = T) := ⟨_, rfl⟩
        have hsl5 : ∀ w : World, (Instr.slice 9 (.string S) (some (.int .i64 ((i : Int) - 5))) (some (.int .i64 i)) none).run Tryz.prog w = .ok (.string T5) w := fun w => by
          have h := slc_mid s (i - 5) i (by omega) (by rw [HN.out]; omega) w
          rw [show i - (i - 5) = 5 by omega, HT5.out, HS.out, show (((i - 5 : Nat)) : Int) = (i : Int) - 5 by omega] at h
          exact h
        have HTL5 : Hid (T5.toList = (s.drop (i - 5)).take 5) := hid (by rw [← HT5.out, Lib.toList_data])
        have HX3 : Hid (partOk (cur s f i) = !((s.drop (i - 5)).take 5 == lockW)) := hid (by rw [HX2.out, part_lock s f i hk5 (by rw [HN.out]; omega)])
        by_cases hlk : (s.drop (i - 5)).take 5 = lockW
        · have htb : (T5.toList == [46, 108, 111, 99, 107]) = true := by rw [HTL5.out, hlk]; rfl
          have HRF : Hid (r = false) := hid (HPB.out (by rw [HX3.out, hlk]; rfl))
          clear hlk
          go_wp2
          go_ret
          exact ⟨by rw [HRF.out]; rfl, HB.out⟩
        · have htb : (T5.toList == [46, 108, 111, 99, 107]) = false := by rw [HTL5.out]; simpa [lockW] using hlk
          have HPG : Hid (partOk (cur s f i) = true) := hid (by rw [HX3.out, show ((s.drop (i - 5)).take 5 == lockW) = false by simpa using hlk]; rfl)
          clear hlk
          go_wp2
          go_roundg (i + 1 - (i + 1))
          case measure => omega
          case rel => exact ⟨i + 1, i + 1, rfl, by go_num, by go_num, by omega, by omega, hid rfl, hid (.inr ⟨by omega, by rw [HRP.out, HPG.out]⟩)⟩
      have hieb : ((i : Int) == (n : Int)) = false := by simp; omega
      have hlt : i < n := by omega
      obtain ⟨y, hy⟩ : ∃ y, s[i]? = some y := ⟨_, List.getElem?_eq_getElem (by rw [HN.out]; exact hlt)⟩
      have HY : Hid (s[i]? = some y) := hy
      obtain ⟨c, HC⟩ : ∃ c : Int, Hid ((y.toNat : Int) = c) := ⟨_, rfl⟩
      have hixi : ∀ w : World, (Instr.index 9 (.string S) (.int .i64 i)).run Tryz.prog w = .ok (.int .u8 c) w := fun w => by rw [← HS.out, ← HC.out]; exact idx_txt s i w y hy
      have HDR : Hid (s.drop i = y :: s.drop (i + 1)) := hid (by
        obtain ⟨h1, h2⟩ := List.getElem?_eq_some_iff.1 HY.out
        rw [List.drop_eq_getElem_cons h1, h2])
      have HC47 : Hid (c = 47 ↔ y = 47) := hid (by rw [← HC.out]; exact byte_num y 47 (by decide))
      have HPV : Hid (pv s (i + 1) = some y) := hid (by unfold pv; rw [if_neg (by omega), Nat.add_sub_cancel]; exact HY.out)
      clear hy
      by_cases h47 : c = 47
      · have hy47 := HC47.out.1 h47
        have HRP : Hid (r = (partOk (cur s f i) && dgo [] (some 47) (s.drop (i + 1)))) := hid (by
          rw [← HRR.out, HDW.out.2, HDR.out, hy47, dgo, if_pos rfl])
        have HPB : Hid (partOk (cur s f i) = false → r = false) := fun h => by rw [HRP.out, h]; rfl
        have HPV7 : Hid (pv s (i + 1) = some 47) := hid (by rw [HPV.out, hy47])
        subst h47
        clear hy47
        by_cases hfi : f = i
        · have HRF : Hid (r = false) := hid (HPB.out (by rw [hfi]; exact part_none s i))
          have k0 : ((i : Int) - (f : Int) == 0) = true := by rw [hfi]; simp
          go_wp2
          go_ret
          exact ⟨by rw [HRF.out]; rfl, HB.out⟩
        have hfl : f < i := by omega
        have k0 : ((i : Int) - (f : Int) == 0) = false := by simp; omega
        have k0' : ¬ ((i : Int) - (f : Int) = 0) := by omega
        obtain ⟨x, hx⟩ : ∃ x, s[f]? = some x := ⟨_, List.getElem?_eq_getElem (by rw [HN.out]; omega)⟩
        have HX : Hid (partOk (cur s f i) = (!(x == 46) && !Lib.hasSuffix (cur s f i) lockW)) := hid (part_some s f i hfl (by rw [HN.out]; omega) x hx)
        obtain ⟨xc, HXC⟩ : ∃ c : Int, Hid ((x.toNat : Int) = c) := ⟨_, rfl⟩
        have hixf : ∀ w : World, (Instr.index 9 (.string S) (.int .i64 f)).run Tryz.prog w = .ok (.int .u8 xc) w := fun w => by rw [← HS.out, ← HXC.out]; exact idx_txt s f w x hx
        have HXD : Hid (xc = 46 ↔ x = 46) := hid (by rw [← HXC.out]; exact byte_num x 46 (by decide))
        clear hx
        by_cases hxd : xc = 46
        · have HRF : Hid (r = false) := hid (HPB.out (by rw [HX.out, HXD.out.1 hxd]; rfl))
          subst hxd
          go_wp2
          go_ret
          exact ⟨by rw [HRF.out]; rfl, HB.out⟩
        have hxb : (xc == 46) = false := by simpa using hxd
        have HX2 : Hid (partOk (cur s f i) = !Lib.hasSuffix (cur s f i) lockW) := hid (by rw [HX.out, show (x == 46) = false by simpa using fun e => hxd (HXD.out.2 e)]; rfl)
        clear hxd
        by_cases hk5 : f + 5 ≤ i
        rotate_left
        · have k5 : ¬ (5 : Int) ≤ (i : Int) - (f : Int) := by omega
          have HPG : Hid (partOk (cur s f i) = true) := hid (by rw [HX2.out, part_short s f i (by omega) (by omega) (by rw [HN.out]; omega)]; rfl)
          go_wp2
          go_roundg (n + 1 - (i + 1))
          case measure => omega
          case rel => exact ⟨i + 1, i + 1, rfl, by go_num, by go_num, by omega, by omega, hid rfl, hid (.inl ⟨by omega, Nat.le_refl _, by rw [HRR.out, HRP.out, HPG.out, HPV7.out, show cur s (i + 1) (i + 1) = [] by simp [cur]]; rfl⟩)⟩
        have k5 : (5 : Int) ≤ (i : Int) - (f : Int) := by omega
        obtain ⟨T5, HT5⟩ : ∃ T : ByteArray, Hid (⟨((s.drop (i - 5)).take 5).toArray⟩ = T) := ⟨_, rfl⟩
        have hsl5 : ∀ w : World, (Instr.slice 9 (.string S) (some (.int .i64 ((i : Int) - 5))) (some (.int .i64 i)) none).run Tryz.prog w = .ok (.string T5) w := fun w => by
          have h := slc_mid s (i - 5) i (by omega) (by rw [HN.out]; omega) w
          rw [show i - (i - 5) = 5 by omega, HT5.out, HS.out, show (((i - 5 : Nat)) : Int) = (i : Int) - 5 by omega] at h
          exact h
        have HTL5 : Hid (T5.toList = (s.drop (i - 5)).take 5) := hid (by rw [← HT5.out, Lib.toList_data])
        have HX3 : Hid (partOk (cur s f i) = !((s.drop (i - 5)).take 5 == lockW)) := hid (by rw [HX2.out, part_lock s f i hk5 (by rw [HN.out]; omega)])
        by_cases hlk : (s.drop (i - 5)).take 5 = lockW
        · have htb : (T5.toList == [46, 108, 111, 99, 107]) = true := by rw [HTL5.out, hlk]; rfl
          have HRF : Hid (r = false) := hid (HPB.out (by rw [HX3.out, hlk]; rfl))
          clear hlk
          go_wp2
          go_ret
          exact ⟨by rw [HRF.out]; rfl, HB.out⟩
        · have htb : (T5.toList == [46, 108, 111, 99, 107]) = false := by rw [HTL5.out]; simpa [lockW] using hlk
          have HPG : Hid (partOk (cur s f i) = true) := hid (by rw [HX3.out, show ((s.drop (i - 5)).take 5 == lockW) = false by simpa using hlk]; rfl)
          clear hlk
          go_wp2
          go_roundg (n + 1 - (i + 1))
          case measure => omega
          case rel => exact ⟨i + 1, i + 1, rfl, by go_num, by go_num, by omega, by omega, hid rfl, hid (.inl ⟨by omega, Nat.le_refl _, by rw [HRR.out, HRP.out, HPG.out, HPV7.out, show cur s (i + 1) (i + 1) = [] by simp [cur]]; rfl⟩)⟩
      have h47b : (c == 47) = false := by simpa using h47
      have HRP : Hid (r = (byteOk y && !(y == 46 && pv s i == some 46) && !(y == 123 && pv s i == some 64) && dgo (cur s f (i + 1)) (pv s (i + 1)) (s.drop (i + 1)))) := hid (by
        rw [← HRR.out, HDW.out.2, HDR.out, dgo, if_neg (fun e => h47 (HC47.out.2 e)), cur_snoc s f i hfi0 y HY.out, HPV.out])
      clear h47
      by_cases hb : byteOk y = true
      rotate_left
      · have hb' : byteOk y = false := by simpa using hb
        have HRF : Hid (r = false) := hid (by rw [HRP.out, hb']; rfl)
        have hcs := bad_byte y c HC.out hb'
        clear hb hb'
        rcases hcs with h | h | rfl | rfl | rfl | rfl | rfl | rfl | rfl
        · go_wp2
          go_ret
          exact ⟨by rw [HRF.out]; rfl, HB.out⟩
        · have h33 : ¬ c < 33 := by omega
          go_wp2
          go_ret
          exact ⟨by rw [HRF.out]; rfl, HB.out⟩
        all_goals
          go_wp2
          go_ret
          exact ⟨by rw [HRF.out]; rfl, HB.out⟩
      obtain ⟨g1, g2, g3, g4, g5, g6, g7, g8, g9⟩ := good_byte y c HC.out hb
      have f1 : ¬ c < 33 := by omega
      have f2 : ¬ 126 < c := by omega
      have f3 : (c == 126) = false := by simpa using g3
      have f4 : (c == 94) = false := by simpa using g4
      have f5 : (c == 58) = false := by simpa using g5
      have f6 : (c == 63) = false := by simpa using g6
      have f7 : (c == 42) = false := by simpa using g7
      have f8 : (c == 91) = false := by simpa using g8
      have f9 : (c == 92) = false := by simpa using g9
      have HR2 : Hid (r = (!(y == 46 && pv s i == some 46) && !(y == 123 && pv s i == some 64) && dgo (cur s f (i + 1)) (pv s (i + 1)) (s.drop (i + 1)))) := hid (by rw [HRP.out, hb]; rfl)
      clear hb g3 g4 g5 g6 g7 g8 g9 HRP
      have HC46 : Hid (c = 46 ↔ y = 46) := hid (by rw [← HC.out]; exact byte_num y 46 (by decide))
      have HC123 : Hid (c = 123 ↔ y = 123) := hid (by rw [← HC.out]; exact byte_num y 123 (by decide))
      have HNX : Hid ((y == 46 && pv s i == some 46) = false → (y == 123 && pv s i == some 64) = false → Dw s f (i + 1)) := fun h1 h2 => ⟨by omega, by rw [HRR.out, HR2.out, h1, h2]; rfl⟩
      by_cases hi0 : i = 0
      · have hp0 : pv s i = none := by unfold pv; rw [if_pos hi0]
        have HGO : Hid (Dw s f (i + 1)) := hid (HNX.out (by rw [hp0]; simp) (by rw [hp0]; simp))
        have hf0 : f = 0 := by omega
        subst hf0
        subst hi0
        have hz0 : ((0 : Int) == (n : Int)) = false := by simp; omega
        have hix0 : ∀ w : World, (Instr.index 9 (.string S) (.int .i64 0)).run Tryz.prog w = .ok (.int .u8 c) w := hixi
        clear hp0 hixi hieb hini hfi0 hi hin
        go_wp2
        go_roundg (n + 1 - 1)
        case measure => omega
        case rel => exact ⟨0, 1, rfl, rfl, by go_num, by omega, by omega, hid rfl, hid (.inl ⟨by omega, HGO.out⟩)⟩
      have hi0i : (0 : Int) < (i : Int) := by omega
      obtain ⟨u, hu⟩ : ∃ u, s[i - 1]? = some u := ⟨_, List.getElem?_eq_getElem (by rw [HN.out]; omega)⟩
      have HPU : Hid (pv s i = some u) := hid (by unfold pv; rw [if_neg hi0]; exact hu)
      obtain ⟨uc, HUC⟩ : ∃ c : Int, Hid ((u.toNat : Int) = c) := ⟨_, rfl⟩
      have hixu : ∀ w : World, (Instr.index 9 (.string S) (.int .i64 ((i : Int) - 1))).run Tryz.prog w = .ok (.int .u8 uc) w := fun w => by
        rw [← HS.out, ← HUC.out, show ((i : Int) - 1) = ((i - 1 : Nat) : Int) by omega]; exact idx_txt s (i - 1) w u hu
      have HU46 : Hid (uc = 46 ↔ u = 46) := hid (by rw [← HUC.out]; exact byte_num u 46 (by decide))
      have HU64 : Hid (uc = 64 ↔ u = 64) := hid (by rw [← HUC.out]; exact byte_num u 64 (by decide))
      clear hu
      by_cases h46 : c = 46
      · by_cases hu46 : uc = 46
        · have HRF : Hid (r = false) := hid (by rw [HR2.out, HPU.out, HC46.out.1 h46, HU46.out.1 hu46]; rfl)
          subst h46
          subst hu46
          go_wp2
          go_ret
          exact ⟨by rw [HRF.out]; rfl, HB.out⟩
        · have HGO : Hid (Dw s f (i + 1)) := hid (HNX.out (by rw [HPU.out]; simp; exact fun _ e => hu46 (HU46.out.2 e)) (by rw [HC46.out.1 h46]; rfl))
          have hub : (uc == 46) = false := by simpa using hu46
          subst h46
          clear hu46
          go_wp2
          go_roundg (n + 1 - (i + 1))
          case measure => omega
          case rel => exact ⟨f, i + 1, rfl, rfl, by go_num, by omega, by omega, hid rfl, hid (.inl ⟨by omega, HGO.out⟩)⟩
      have h46b : (c == 46) = false := by simpa using h46
      by_cases h123 : c = 123
      · by_cases hu64 : uc = 64
        · have HRF : Hid (r = false) := hid (by rw [HR2.out, HPU.out, HC123.out.1 h123, HU64.out.1 hu64]; rfl)
          subst h123
          subst hu64
          clear h46
          go_wp2
          go_ret
          exact ⟨by rw [HRF.out]; rfl, HB.out⟩
        · have HGO : Hid (Dw s f (i + 1)) := hid (HNX.out (by rw [HC123.out.1 h123]; rfl) (by rw [HPU.out]; simp; exact fun _ e => hu64 (HU64.out.2 e)))
          have hub : (uc == 64) = false := by simpa using hu64
          subst h123
          clear hu64 h46
          go_wp2
          go_roundg (n + 1 - (i + 1))
          case measure => omega
          case rel => exact ⟨f, i + 1, rfl, rfl, by go_num, by omega, by omega, hid rfl, hid (.inl ⟨by omega, HGO.out⟩)⟩
      have h123b : (c == 123) = false := by simpa using h123
      have HGO : Hid (Dw s f (i + 1)) := hid (HNX.out (by simp; exact fun e => absurd (HC46.out.2 e) h46) (by simp; exact fun e => absurd (HC123.out.2 e) h123))
      clear h46 h123
      go_wp2
      go_roundg (n + 1 - (i + 1))
      case measure => omega
      case rel => exact ⟨f, i + 1, rfl, rfl, by go_num, by omega, by omega, hid rfl, hid (.inl ⟨by omega, HGO.out⟩)⟩
end Go.Proofs.YtijeogdnjeamaaaGreatDoor.Nm
