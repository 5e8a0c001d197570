/- Package refs: 'hasParts', 'IsName'. -/
import Derived.Test.YtcfgoiibmhkcnaaDoorNmA
namespace Go.Proofs.YtcfgoiibmhkcnaaDoor
open Go.RowKit
set_option linter.unusedVariables false
set_option linter.unusedSimpArgs false
/-- The library's own number: any. -/
def Mx (w : World) : Prop := ∃ m, w.cell? ⟨0, 0, none⟩ = some (.int .i64 m)
theorem cell_lt {w : World} {p : Addr} {v : Value} (h : w.cell? p = some v) : p.block < w.heap.size := by
  apply Classical.byContradiction
  intro hn
  rw [World.cell?, Array.getElem?_eq_none (by omega)] at h
  cases h
theorem Mx.below {w w' : World} (h : Mx w) (hb : Below w.heap.size w w') : Mx w' := by
  obtain ⟨m, hm⟩ := h
  exact ⟨m, (hb.cell (p := ⟨0, 0, none⟩) (cell_lt hm)).trans hm⟩
theorem txt_len (l : List UInt8) : (⟨l.toArray⟩ : ByteArray).size = l.length := by simp [ByteArray.size]
theorem Tryd.info9 : (Tryd.prog.info? 9).map (fun i => (i.zero, i.size, i.bytes)) = some (some (.string ByteArray.empty), 1, 16) := by kernel_rfl
/-- A part as a value. -/
def pV (p : List UInt8) : Value := .string ⟨p.toArray⟩
theorem split_any (s : List UInt8) (hs : s.length ≤ 100000) (w : World) (hm : Mx w) :
    Calls Tryd.prog 10 #[.string ⟨s.toArray⟩, .string ⟨#[47]⟩] w fun e w' => e = .returned (.slice (some ⟨w.heap.size, 0, none⟩) (spl s).length (spl s).length) ∧ w' = w.alloc (.cells ((spl s).map pV).toArray 9) := by
  obtain ⟨m, hm⟩ := hm
  refine (Any.strings_Split Tryd.lays146 Tryd.info9 ⟨s.toArray⟩ ⟨#[47]⟩ m w (by rw [txt_len]; omega) hm (by decide)).mono ?_
  rintro e w' ⟨rfl, rfl⟩
  have hc : Lib.countB ⟨s.toArray⟩ ⟨#[47]⟩ = Lib.count s [47] := rfl
  have hd := Lib.splitB_data ⟨#[47]⟩ 0 (Lib.count s [47]) ⟨s.toArray⟩
  have hd2 : (Lib.splitB ⟨#[47]⟩ 0 (Lib.count s [47]) ⟨s.toArray⟩).map (·.data.toList) = spl s := hd.trans (split_spl s)
  have hl : (spl s).length = Lib.count s [47] + 1 := count_spl (s.length + 1) s (Nat.le_refl _)
  have hv : (Lib.splitB ⟨#[47]⟩ 0 (Lib.count s [47]) ⟨s.toArray⟩).map Value.string = (spl s).map pV := by
    rw [← hd2, List.map_map]
    refine List.map_congr_left fun b _ => ?_
    simp [pV]
  rw [hc, hv, hl]
  exact ⟨rfl, rfl⟩
theorem hasPrefix_any (s p : List UInt8) (w : World) : Calls Tryd.prog 11 #[.string ⟨s.toArray⟩, .string ⟨p.toArray⟩] w fun e w' => e = .returned (.bool (Lib.hasPrefix s p)) ∧ w' = w :=
  Any.strings_HasPrefix Tryd.lays99 ⟨s.toArray⟩ ⟨p.toArray⟩ w
theorem hasSuffix_any (s p : List UInt8) (hs : s.length ≤ 100000) (w : World) : Calls Tryd.prog 9 #[.string ⟨s.toArray⟩, .string ⟨p.toArray⟩] w fun e w' => e = .returned (.bool (Lib.hasSuffix s p)) ∧ w' = w :=
  Any.strings_HasSuffix Tryd.lays100 ⟨s.toArray⟩ ⟨p.toArray⟩ w (by rw [txt_len]; omega)
theorem contains_any (s p : List UInt8) (hs : s.length ≤ 100000) (w : World) (hm : Mx w) : Calls Tryd.prog 8 #[.string ⟨s.toArray⟩, .string ⟨p.toArray⟩] w fun e w' => e = .returned (.bool (Lib.contains s p)) ∧ w' = w := by
  obtain ⟨m, hm⟩ := hm
  exact Any.strings_Contains Tryd.lays144 ⟨s.toArray⟩ ⟨p.toArray⟩ m w (by rw [txt_len]; omega) hm
theorem spl_len (s : List UInt8) : ∀ p ∈ spl s, p.length ≤ s.length := by
  induction s with
  | nil => intro p hp; simp [spl] at hp; subst hp; simp
  | cons c t ih =>
    intro p hp
    rw [spl] at hp
    split at hp
    · rcases List.mem_cons.1 hp with rfl | hp
      · simp
      · have := ih p hp; simp; omega
    · cases hq : spl t with
      | nil => exact absurd hq (spl_ne t)
      | cons q qs =>
        rw [hq] at hp ih
        rcases List.mem_cons.1 hp with rfl | hp
        · have := ih q (by simp); simp; omega
        · have := ih p (by simp [hp]); simp; omega
set_option maxRecDepth 100000 in
set_option maxHeartbeats 1000000 in
theorem hasParts_any (s : List UInt8) (hs : s.length ≤ 100000) (w : World) (hm : Mx w) :
    Calls Tryd.prog 6 #[.string ⟨s.toArray⟩] w fun e w' => e = .returned (.bool ((spl s).all partOk && ((spl s).headD [] == [114, 101, 102, 115]) && decide (1 < (spl s).length))) ∧ Below w.heap.size w w' := by
  obtain ⟨S, HS⟩ : ∃ S : ByteArray, Hid (⟨s.toArray⟩ = S) := ⟨_, rfl⟩
  obtain ⟨ps, HP⟩ : ∃ ps, Hid (spl s = ps) := ⟨_, rfl⟩
  obtain ⟨n, HN⟩ : ∃ n, Hid (ps.length = n) := ⟨_, rfl⟩
  have hn0 : 0 < n := by rw [← HN.out, ← HP.out]; exact List.length_pos_iff.2 (spl_ne s)
  have hnl : n ≤ 100001 := by
    rw [← HN.out, ← HP.out]
    have := count_spl (s.length + 1) s (Nat.le_refl _)
    have h2 : ∀ s : List UInt8, (spl s).length ≤ s.length + 1 := by
      intro s
      induction s with
      | nil => simp [spl]
      | cons c t ih =>
        rw [spl]
        split
        · simp; omega
        · cases hq : spl t with
          | nil => simp
          | cons q qs => rw [hq] at ih; simp at ih ⊢; omega
    have := h2 s
    omega
  have HLN : Hid (∀ p ∈ ps, p.length ≤ 100000) := hid (by rw [← HP.out]; intro p hp; have := spl_len s p hp; omega)
  obtain ⟨G, HG⟩ : ∃ G, Hid (w.heap.size = G) := ⟨_, rfl⟩
  obtain ⟨w1, HW1⟩ : ∃ w1, Hid (w.alloc (.cells (ps.map pV).toArray 9) = w1) := ⟨_, rfl⟩
  have C10 : Hid (Calls Tryd.prog 10 #[.string S, .string ⟨#[47]⟩] w fun e w' => e = .returned (.slice (some ⟨G, 0, none⟩) n n) ∧ w' = w1) := hid (by
    have := split_any s hs w hm
    rw [HS.out, HP.out, HN.out, HG.out, HW1.out] at this
    exact this)
  have HB : Hid (Below w.heap.size w w1) := hid (by rw [← HW1.out]; exact (Below.refl _ w).alloc (Nat.le_refl _) _)
  have HC : Hid (∀ k p, ps[k]? = some p → w1.cell? ⟨G, k, none⟩ = some (pV p)) := fun k p h => by
    rw [← HW1.out, ← HG.out]
    simp [List.getElem?_map, h]
  obtain ⟨r, HRR⟩ : ∃ r, Hid ((ps.all partOk && (ps.headD [] == [114, 101, 102, 115]) && decide (1 < ps.length)) = r) := ⟨_, rfl⟩
  rw [HS.out, HP.out, HRR.out]
  go_enter Tryd.func6, Tryd.ntmps6
  go_wp2_with fail
  refine C10.out.mono ?_
  rintro e w' ⟨rfl, hw⟩
  have hw' := hw.symm
  subst hw'
  clear hw
  go_wp2
  go_loopg [10] n (fun g i wr => ∃ k : Nat, k ≤ n ∧ g = n - k ∧ i = .int .i64 k ∧ Hid (∀ p ∈ ps.take k, partOk p = true) ∧ Hid (wr = w1))
  case atStart => exact ⟨0, Nat.zero_le _, rfl, rfl, hid (by simp), hid rfl⟩
  case round =>
    obtain ⟨k, hk, hg, rfl, HD, HW⟩ := hrel
    have hww := HW.out
    subst hww
    clear HW
    by_cases hlt : k < n
    · have hlti : (k : Int) < (n : Int) := by omega
      obtain ⟨p, hp⟩ : ∃ p, ps[k]? = some p := ⟨_, List.getElem?_eq_getElem (by rw [HN.out]; exact hlt)⟩
      have HPP : Hid (ps[k]? = some p) := hp
      obtain ⟨X, HX⟩ : ∃ X : ByteArray, Hid (⟨p.toArray⟩ = X) := ⟨_, rfl⟩
      have hcell : wr.cell? ⟨G, k, none⟩ = some (.string X) := by rw [← HX.out]; exact HC.out k p hp
      have HBAD : Hid (partOk p = false → (ps.all partOk && (ps.headD [] == [114, 101, 102, 115]) && decide (1 < ps.length)) = false) := fun hb => by
        have : ps.all partOk = false := by
          rw [Bool.eq_false_iff]
          intro h
          have := List.all_eq_true.1 h p (List.mem_of_getElem? HPP.out)
          rw [hb] at this
          cases this
        rw [this]; rfl
      obtain ⟨a, HA⟩ : ∃ a, Hid (Lib.hasPrefix p [46] = a) := ⟨_, rfl⟩
      obtain ⟨b, HBB⟩ : ∃ b, Hid (Lib.hasSuffix p [46, 108, 111, 99, 107] = b) := ⟨_, rfl⟩
      have C11 : Hid (∀ w, Calls Tryd.prog 11 #[.string X, .string ⟨#[46]⟩] w fun e w' => e = .returned (.bool a) ∧ w' = w) := fun w => by rw [← HX.out, ← HA.out]; exact hasPrefix_any p [46] w
      have C9 : Hid (∀ w, Calls Tryd.prog 9 #[.string X, .string ⟨#[46, 108, 111, 99, 107]⟩] w fun e w' => e = .returned (.bool b) ∧ w' = w) := fun w => by rw [← HX.out, ← HBB.out]; exact hasSuffix_any p [46, 108, 111, 99, 107] (HLN.out p (List.mem_of_getElem? HPP.out)) w
      have HXL : Hid (X.toList.isEmpty = p.isEmpty) := hid (by rw [← HX.out, Lib.toList_data])
      clear hp
      cases hpe : p.isEmpty with
      | true =>
        have he : X.toList.isEmpty = true := by rw [HXL.out]; exact hpe
        have HR := HBAD.out (by unfold partOk; rw [hpe]; rfl)
        go_wp2
        go_ret
        exact ⟨by rw [← HRR.out, HR]; rfl, HB.out⟩
      | false =>
        have he : X.toList.isEmpty = false := by rw [HXL.out]; exact hpe
        have HOK : Hid (partOk p = (!a && !b)) := hid (by unfold partOk; rw [hpe, HA.out, HBB.out]; rfl)
        cases a with
        | true =>
          have HR := HBAD.out HOK.out
          go_wp2_with (go_at_call 11; refine (C11.out _).mono ?_; rintro e w' ⟨rfl, rfl⟩)
          go_ret
          exact ⟨by rw [← HRR.out, HR]; rfl, HB.out⟩
        | false =>
          cases b with
          | true =>
            have HR := HBAD.out HOK.out
            go_wp2_with (first
              | (go_at_call 11; refine (C11.out _).mono ?_; rintro e w' ⟨rfl, rfl⟩)
              | (go_at_call 9; refine (C9.out _).mono ?_; rintro e w' ⟨rfl, rfl⟩))
            go_ret
            exact ⟨by rw [← HRR.out, HR]; rfl, HB.out⟩
          | false =>
            go_wp2_with (first
              | (go_at_call 11; refine (C11.out _).mono ?_; rintro e w' ⟨rfl, rfl⟩)
              | (go_at_call 9; refine (C9.out _).mono ?_; rintro e w' ⟨rfl, rfl⟩))
            go_roundg (n - (k + 1))
            case measure => omega
            case rel =>
              refine ⟨k + 1, by omega, rfl, by go_num, hid ?_, hid rfl⟩
              rw [List.take_add_one, HPP.out]
              intro y hy
              rcases List.mem_append.1 hy with hy | hy
              · exact HD.out y hy
              · have : y = p := by simpa using hy
                subst this
                exact HOK.out
    · have hlti : ¬ (k : Int) < (n : Int) := by omega
      have HALL : Hid (ps.all partOk = true) := hid (by
        have h := HD.out
        rw [List.take_of_length_le (by rw [HN.out]; omega)] at h
        exact List.all_eq_true.2 h)
      obtain ⟨p, hp⟩ : ∃ p, ps[0]? = some p := ⟨_, List.getElem?_eq_getElem (by rw [HN.out]; exact hn0)⟩
      have HH : Hid (ps.headD [] = p) := hid (by cases ps with | nil => cases hp | cons q qs => simpa using hp)
      obtain ⟨X, HX⟩ : ∃ X : ByteArray, Hid (⟨p.toArray⟩ = X) := ⟨_, rfl⟩
      have hcell : wr.cell? ⟨G, 0, none⟩ = some (.string X) := by rw [← HX.out]; exact HC.out 0 p hp
      have HXL : Hid (X.toList = p) := hid (by rw [← HX.out, Lib.toList_data])
      have hn0i : (0 : Int) < (n : Int) := by omega
      clear hp
      by_cases hr : p = [114, 101, 102, 115]
      · have he : (X.toList == [114, 101, 102, 115]) = true := by rw [HXL.out]; simpa using hr
        have he2 : (p == [114, 101, 102, 115]) = true := by simpa using hr
        by_cases h1 : 1 < n
        · have h1i : (1 : Int) < (n : Int) := by omega
          go_wp2
          go_ret
          exact ⟨by rw [← HRR.out, HALL.out, HH.out, HN.out, he2, decide_eq_true h1]; rfl, HB.out⟩
        · have h1i : ¬ (1 : Int) < (n : Int) := by omega
          go_wp2
          go_ret
          exact ⟨by rw [← HRR.out, HALL.out, HH.out, HN.out, he2, decide_eq_false h1]; rfl, HB.out⟩
      · have he : (X.toList == [114, 101, 102, 115]) = false := by rw [HXL.out]; simpa using hr
        have he2 : (p == [114, 101, 102, 115]) = false := by simpa using hr
        go_wp2
        go_ret
        exact ⟨by rw [← HRR.out, HALL.out, HH.out, HN.out, he2]; rfl, HB.out⟩
end Go.Proofs.YtcfgoiibmhkcnaaDoor
