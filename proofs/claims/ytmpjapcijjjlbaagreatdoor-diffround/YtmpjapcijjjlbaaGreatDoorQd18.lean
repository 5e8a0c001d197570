import Derived.Test.YtmpjapcijjjlbaaGreatDoorQd17
import Derived.Test.YtmpjapcijjjlbaaGreatDoorQd12
namespace Go.Proofs.YtmpjapcijjjlbaaGreatDoor
open Go.RowKit
set_option linter.unusedVariables false
set_option linter.unusedSimpArgs false
theorem inter_nil : ∀ M : List Str, ([] : Str).intercalate M = M.flatten
  | [] => rfl
  | [x] => by simp [List.intercalate]
  | x :: y :: r => by
    have h := inter_nil (y :: r)
    unfold List.intercalate at h ⊢
    simp only [List.intersperse, List.flatten_cons, List.nil_append] at h ⊢
    rw [h]
theorem flats_len : ∀ M : List Str, Sht M → M.flatten.length ≤ 1000000 * M.length
  | [], _ => by simp
  | x :: r, h => by
    have h1 := flats_len r (fun y hy => h y (List.mem_cons_of_mem _ hy))
    have h2 := h x (by simp)
    rw [List.flatten_cons, List.length_append, List.length_cons]
    omega
theorem join_any {w : World} (a : Option Addr) (cap : Nat) (M : List Str) (hP : PS w a cap M) (hn : M.length ≤ 10000000) (hl : Sht M) :
    Calls Tryz.prog 20 #[.slice a M.length cap, .string ⟨#[]⟩] w fun e w' => e = .returned (.string ⟨M.flatten.toArray⟩) ∧ Below w.heap.size w w' := by
  rcases Nat.eq_zero_or_pos M.length with h0 | h0
  · have hM : M = [] := List.length_eq_zero_iff.1 h0
    subst hM
    refine (show Calls Tryz.prog 20 #[.slice a 0 cap, .string ⟨#[]⟩] w fun e w' => e = .returned (.string ⟨#[]⟩) ∧ w' = w from Any.strings_Join_none Tryz.lays156 Tryz.Builder_Extra_156 a cap ⟨#[]⟩ w).mono ?_
    rintro e w' ⟨rfl, rfl⟩
    exact ⟨rfl, Below.refl _ _⟩
  · obtain ⟨b, off, rfl, e2, e3⟩ := hP.at_ h0
    have hmap : (M.map fun s => (⟨s.toArray⟩ : ByteArray)).map (·.data.toList) = M := by
      rw [List.map_map]
      have : ((fun x : ByteArray => x.data.toList) ∘ fun s : Str => (⟨s.toArray⟩ : ByteArray)) = id := funext fun s => by simp
      rw [this, List.map_id]
    have hj : Lib.join ((M.map fun s => (⟨s.toArray⟩ : ByteArray)).map (·.data.toList)) ((⟨#[]⟩ : ByteArray).data.toList) = M.flatten := by
      rw [hmap]
      exact inter_nil M
    have h := Any.strings_Join Tryz.lays156 Tryz.Builder_Extra_156 b off cap (M.map fun s => (⟨s.toArray⟩ : ByteArray)) ⟨#[]⟩ w (fun j x hx => by
      rw [List.getElem?_map] at hx
      cases hm : M[j]? with
      | none => rw [hm] at hx; cases hx
      | some s =>
        rw [hm] at hx
        cases hx
        have hjl : j < M.length := by
          rcases Nat.lt_or_ge j M.length with h | h
          · exact h
          · rw [List.getElem?_eq_none h] at hm; cases hm
        have := hP.str j hjl
        rw [List.getD_eq_getElem?_getD, hm] at this
        exact this) e2 (by rw [List.length_map]; omega) (by rw [List.length_map]; exact hP.capl) (by rw [hj]; have := flats_len M hl; omega)
    rw [hj, List.length_map] at h
    exact h
theorem ctG_le : ∀ l : List Gh, ctG l ≤ ctL (l.map ab)
  | [] => Nat.le_refl _
  | y :: r => by
    have := ctG_le r
    unfold ctG ctL at this ⊢
    simp only [List.map_cons, List.sum_cons]
    have e : (ab y).2.length = y.2.2.2.2.length := rfl
    omega
theorem ctG_stl : ∀ (l : List Gh) (g : Int), ctG (stl g l) = ctG l
  | [], g => rfl
  | y :: r, g => by
    rw [stl]
    have := fun g => ctG_stl r g
    unfold ctG at this ⊢
    rw [List.map_cons, List.map_cons, List.sum_cons, List.sum_cons, this]
    rfl
def Good (p : Str) (l : List Gh) : Prop := Rgt (stl 0 l) ∧ (stl 0 l).flatMap hkG = p
def PostAp (s p : Str) (w : World) (G : Nat) (e : Ending) (w' : World) : Prop :=
  Below G w w' ∧ ∃ l, Rd p l ∧ ((Good p l ∧ ∃ M, chP (lns s) (stl 0 l) = some M ∧ arL M ∧ ∃ y yc, e = .returned (.tuple #[.slice y M.flatten.length yc, .nilIface]) ∧ PB w' y yc M.flatten)
    ∨ (Good p l ∧ (∀ M, chP (lns s) (stl 0 l) = some M → ¬ arL M) ∧ e = .returned (.tuple #[.slice none 0 0, .iface 33 (.int .i64 91)]))
    ∨ (¬ Good p l ∧ e = .returned (.tuple #[.slice none 0 0, .iface 33 (.int .i64 90)])))
theorem Tryz.results8 : Tryz.f8.results = #[.tmp 4, .tmp 5] := by kernel_rfl
set_option maxRecDepth 20000 in
set_option maxHeartbeats 2000000 in
theorem apply_any {w : World} (a : Option Addr) (ca : Nat) (s : Str) (hA : PB w a ca s) (hs : s.length ≤ 1000000) (b : Option Addr) (cb : Nat) (p : Str) (hB : PB w b cb p) (hp : p.length ≤ 1000000) (he : Ers w) (hm : Mx w) (ht : Tab w) :
    Calls Tryz.prog 8 #[.slice a s.length ca, .slice b p.length cb] w (PostAp s p w w.heap.size) := by
  obtain ⟨n, HN⟩ : ∃ n, Hid (s.length = n) := ⟨_, rfl⟩
  obtain ⟨m, HM⟩ : ∃ n, Hid (p.length = n) := ⟨_, rfl⟩
  obtain ⟨G, HG⟩ : ∃ n, Hid (w.heap.size = n) := ⟨_, rfl⟩
  have C18 : Hid (Calls Tryz.prog 18 #[.slice b m cb] w (PostRp p w G)) := hid (by rw [← HM.out, ← HG.out]; exact readPatch_any b cb p hB hp he hm ht)
  have HPA : Hid (∀ W, Below G w W → PB W a ca s) := hid (fun W hW => hA.below (by rw [HG.out]; exact hW))
  have HSL := hid hs
  have HPL := hid hp
  rw [HN.out, HM.out, HG.out]
  clear hA hB hs hp he hm ht
  go_enter Tryz.func8, Tryz.ntmps8
  go_wp2_with fail
  refine C18.out.mono ?_
  rintro e w1 ⟨hb1, l, hrd, ⟨hg, ha, hc, rfl, hpg, hpe⟩ | ⟨hg, rfl⟩⟩
  · have HGD : Hid (Good p l) := hid hg
    have HRD := hid hrd
    have HB1 := hid hb1
    obtain ⟨k, HK⟩ : ∃ n, Hid (l.length = n) := ⟨_, rfl⟩
    obtain ⟨l2, HL2⟩ : ∃ q, Hid (stl 0 l = q) := ⟨_, rfl⟩
    have HLN : Hid (l2.length = k) := hid (by rw [← HL2.out, ← HK.out]; exact stl_len l 0)
    have HNK : Hid (NOk l2) := hid (by rw [← HL2.out]; exact rgt_nok (stl_iok hrd.2.1 hrd.2.2.1 hrd.2.2.2) hg.1)
    have HCT : Hid (ctG l2 ≤ 1000000) := hid (by
      rw [← HL2.out, ctG_stl]
      have h1 := ctG_le l
      rw [hrd.1] at h1
      have h2 := (rdH_wt p).2
      have := HPL.out
      omega)
    have HRG : Hid (Rgt l2) := hid (by rw [← HL2.out]; exact hg.1)
    rw [HL2.out] at hpg hpe
    have HPG : Hid (∀ W, Below w1.heap.size w1 W → PG W ha hc l2) := hid (fun W hW => hpg.below hW)
    have HPE : Hid (∀ W, Below w1.heap.size w1 W → ∀ y ∈ l2, PE W y.2.2.1 y.2.2.2.1 y.2.2.2.2) := hid (fun W hW y hy => (hpe y hy).below hW)
    have HKL : Hid (l2.length ≤ 1000000) := hid (by rw [HLN.out, ← HK.out]; exact hrd.2.2.2)
    have C15 : Hid (Calls Tryz.prog 15 #[.slice a n ca] w1 (PostS (lns s) w1)) := hid (by rw [← HN.out]; exact lines_any a ca s (HPA.out w1 hb1) HSL.out)
    rw [HK.out]
    clear hg hrd hb1 hpg hpe
    go_wp2_with fail
    refine C15.out.mono ?_
    rintro e w2 ⟨v, rfl, hbs⟩
    obtain ⟨X, HX⟩ : ∃ X, Hid (lns s = X) := ⟨_, rfl⟩
    rw [HX.out] at hbs
    obtain ⟨xa, xc, rfl, hps, _⟩ := hbs.px (d := []) (fun x _ => encS_len x)
    obtain ⟨q, HQ⟩ : ∃ q, Hid (X.length = q) := ⟨_, rfl⟩
    have HXN : Hid (X.length ≤ 1000000) := hid (by rw [← HX.out]; have := lns_few s; have := HSL.out; omega)
    have HXS : Hid (Sht X) := hid (fun x hx => by rw [← HX.out] at hx; have := lns_short s x hx; have := HSL.out; omega)
    have HB2 : Hid (Below G w w2) := hid (HB1.out.trans (hbs.below.mono (by have := HB1.out.size; rw [HG.out] at this; exact this)))
    have C19 : Hid (Calls Tryz.prog 19 #[.slice xa q xc, .slice ha k hc] w2 (PostCh X l2 w2 w2.heap.size)) := hid (by
      rw [← HQ.out, ← HLN.out]
      exact change_any xa xc X hps HXN.out HXS.out ha hc l2 (HPG.out w2 hbs.below) (HPE.out w2 hbs.below) HNK.out HRG.out HKL.out HCT.out)
    have HG2 : Hid (G ≤ w2.heap.size) := hid (by have := HB2.out.size; rw [HG.out] at this; exact this)
    rw [HQ.out]
    clear hbs hps
    go_wp2_with fail
    refine C19.out.mono ?_
    rintro e w3 ⟨hb3, ⟨M, v3, hch, har, hsh, hml, rfl, hbm⟩ | ⟨hno, rfl⟩⟩
    · obtain ⟨ma, mc, rfl, hpm, _⟩ := hbm.px (d := []) (fun x _ => encS_len x)
      have HB3 : Hid (Below G w w3) := hid (HB2.out.trans (hb3.mono HG2.out))
      have HG3 : Hid (G ≤ w3.heap.size) := hid (by have := HB3.out.size; rw [HG.out] at this; exact this)
      have HCH : Hid (chP (lns s) (stl 0 l) = some M) := hid (by rw [HX.out, HL2.out]; exact hch)
      have HAR := hid har
      obtain ⟨mn, HMN⟩ : ∃ q, Hid (M.length = q) := ⟨_, rfl⟩
      obtain ⟨F, HF⟩ : ∃ q, Hid (M.flatten = q) := ⟨_, rfl⟩
      have C20 : Hid (Calls Tryz.prog 20 #[.slice ma mn mc, .string ⟨#[]⟩] w3 fun e w' => e = .returned (.string ⟨F.toArray⟩) ∧ Below w3.heap.size w3 w') := hid (by
        rw [← HMN.out, ← HF.out]
        exact join_any ma mc M hpm hml hsh)
      rw [HMN.out]
      clear hbm hb3 hpm hch har hsh hml
      go_wp2_with fail
      refine C20.out.mono ?_
      rintro e w4 ⟨rfl, hb4⟩
      have HB4 : Hid (Below G w w4) := hid (HB3.out.trans (hb4.mono HG3.out))
      obtain ⟨yc, w5, hrun, hpb, hb5⟩ := conv_bytes F w4
      have HB5 : Hid (Below G w w5) := hid (HB4.out.trans (hb5.mono (by have := HB4.out.size; rw [HG.out] at this; exact this)))
      have HPB := hid hpb
      have HFL : Hid (Below G w w5) := HB5
      clear hb4 hb5 hpb
      go_wp2
      refine bodyPost_ret (results_tmp2 Tryz.results8 _ _ _) rfl ?_
      refine ⟨HFL.out, l, HRD.out, .inl ⟨HGD.out, M, HCH.out, HAR.out, ?_⟩⟩
      rw [HF.out]
      exact ⟨_, _, rfl, HPB.out⟩
    · have HB3 : Hid (Below G w w3) := hid (HB2.out.trans (hb3.mono HG2.out))
      have HNO : Hid (∀ M, chP (lns s) (stl 0 l) = some M → ¬ arL M) := hid (by rw [HX.out, HL2.out]; exact hno)
      clear hb3 hno
      go_wp2
      refine bodyPost_ret (results_tmp2 Tryz.results8 _ _ _) rfl ?_
      exact ⟨HB3.out, l, HRD.out, .inr (.inl ⟨HGD.out, HNO.out, rfl⟩)⟩
  · have HNG : Hid (¬ Good p l) := hid hg
    have HRD := hid hrd
    have HB1 : Hid (Below G w w1) := hid hb1
    clear hg hrd hb1
    go_wp2
    refine bodyPost_ret (results_tmp2 Tryz.results8 _ _ _) rfl ?_
    exact ⟨HB1.out, l, HRD.out, .inr (.inr ⟨HNG.out, rfl⟩)⟩
end Go.Proofs.YtmpjapcijjjlbaaGreatDoor
namespace Go.Proofs.YtmpjapcijjjlbaaGreatDoor
set_option linter.unusedVariables false
set_option linter.unusedSimpArgs false
def kA (L : List Ed) : List Str := (L.filter (fun e => e.1 != 2)).map (·.2)
def kB (L : List Ed) : List Str := (L.filter (fun e => e.1 != 1)).map (·.2)
theorem kA_app (a b : List Ed) : kA (a ++ b) = kA a ++ kA b := by simp [kA]
theorem kB_app (a b : List Ed) : kB (a ++ b) = kB a ++ kB b := by simp [kB]
theorem cA_app (a b : List Ed) : cA (a ++ b) = cA a + cA b := by simp [cA]
theorem cB_app (a b : List Ed) : cB (a ++ b) = cB a + cB b := by simp [cB]
theorem kA_len (L : List Ed) : (kA L).length = cA L := by simp [kA, cA]
theorem kB_len (L : List Ed) : (kB L).length = cB L := by simp [kB, cB]
theorem kA_mk (k : Nat) (l : List Str) : kA (mk k l) = if k = 2 then [] else l := by
  unfold kA mk
  by_cases h : k = 2
  · simp [h]
  · rw [if_neg h]
    rw [List.filter_map]
    simp [Function.comp_def, h]
theorem kB_mk (k : Nat) (l : List Str) : kB (mk k l) = if k = 1 then [] else l := by
  unfold kB mk
  by_cases h : k = 1
  · simp [h]
  · rw [if_neg h]
    rw [List.filter_map]
    simp [Function.comp_def, h]
theorem kA_cons (k : Nat) (x : Str) (L : List Ed) : kA ((k, x) :: L) = if k = 2 then kA L else x :: kA L := by
  unfold kA
  by_cases h : k = 2 <;> simp [h]
theorem kB_cons (k : Nat) (x : Str) (L : List Ed) : kB ((k, x) :: L) = if k = 1 then kB L else x :: kB L := by
  unfold kB
  by_cases h : k = 1 <;> simp [h]
theorem edF_sides : ∀ (k : Nat) (xs ys : List Str), xs.length + ys.length ≤ k → kA (edF k xs ys) = xs ∧ kB (edF k xs ys) = ys ∧ ∀ e ∈ edF k xs ys, e.1 ≤ 2
  | 0, [], [], _ => ⟨rfl, rfl, fun e he => by cases he⟩
  | 0, x :: xs, ys, h => by simp at h
  | 0, [], y :: ys, h => by simp at h
  | k + 1, [], [], _ => ⟨rfl, rfl, fun e he => by cases he⟩
  | k + 1, x :: xs, [], h => by
    obtain ⟨h1, h2, h3⟩ := edF_sides k xs [] (by simp at h ⊢; omega)
    rw [edF]
    refine ⟨by rw [kA_cons, h1]; rfl, by rw [kB_cons, h2]; rfl, fun e he => ?_⟩
    rcases List.mem_cons.1 he with rfl | he
    · simp
    · exact h3 e he
  | k + 1, [], y :: ys, h => by
    obtain ⟨h1, h2, h3⟩ := edF_sides k [] ys (by simp at h ⊢; omega)
    rw [edF]
    refine ⟨by rw [kA_cons, h1]; rfl, by rw [kB_cons, h2]; rfl, fun e he => ?_⟩
    rcases List.mem_cons.1 he with rfl | he
    · simp
    · exact h3 e he
  | k + 1, x :: xs, y :: ys, h => by
    simp only [List.length_cons] at h
    rw [edF]
    split
    · rename_i e0
      obtain ⟨h1, h2, h3⟩ := edF_sides k xs ys (by omega)
      refine ⟨by rw [kA_cons, h1]; rfl, by rw [kB_cons, h2, e0]; rfl, fun e he => ?_⟩
      rcases List.mem_cons.1 he with rfl | he
      · simp
      · exact h3 e he
    · split
      · obtain ⟨h1, h2, h3⟩ := edF_sides k xs (y :: ys) (by simp; omega)
        refine ⟨by rw [kA_cons, h1]; rfl, by rw [kB_cons, h2]; rfl, fun e he => ?_⟩
        rcases List.mem_cons.1 he with rfl | he
        · simp
        · exact h3 e he
      · obtain ⟨h1, h2, h3⟩ := edF_sides k (x :: xs) ys (by simp; omega)
        refine ⟨by rw [kA_cons, h1]; rfl, by rw [kB_cons, h2]; rfl, fun e he => ?_⟩
        rcases List.mem_cons.1 he with rfl | he
        · simp
        · exact h3 e he
theorem fr_take : ∀ xs ys : List Str, xs.take (fr xs ys) = ys.take (fr xs ys)
  | [], ys => by simp [fr]
  | x :: xs, [] => by simp [fr]
  | x :: xs, y :: ys => by
    rw [fr]
    split
    · rename_i e
      rw [List.take_succ_cons, List.take_succ_cons, fr_take xs ys, e]
    · rfl
theorem edits_sides (A B : List Str) : kA (edits A B) = A ∧ kB (edits A B) = B ∧ ∀ e ∈ edits A B, e.1 ≤ 2 := by
  unfold edits
  split
  · unfold edL
    refine ⟨?_, ?_, ?_⟩
    · rw [kA_app, kA_app, kA_mk, kA_mk, kA_mk]
      simp
    · rw [kB_app, kB_app, kB_mk, kB_mk, kB_mk, fr_take]
      simp
    · intro e he
      unfold mk at he
      simp only [List.mem_append, List.mem_map] at he
      rcases he with ⟨x, _, rfl⟩ | ⟨x, _, rfl⟩ | ⟨x, _, rfl⟩ <;> simp
  · exact edF_sides _ A B (Nat.le_refl _)
theorem edF_same : ∀ (k : Nat) (xs : List Str), ∀ e ∈ edF k xs xs, e.1 = 0
  | 0, xs, e, he => by cases he
  | k + 1, [], e, he => by cases he
  | k + 1, x :: xs, e, he => by
    rw [edF, if_pos rfl] at he
    rcases List.mem_cons.1 he with rfl | he
    · rfl
    · exact edF_same k xs e he
theorem fr_same : ∀ xs : List Str, fr xs xs = xs.length
  | [] => rfl
  | x :: xs => by rw [fr, if_pos rfl, fr_same xs]; rfl
theorem edits_same (A : List Str) : ∀ e ∈ edits A A, e.1 = 0 := by
  unfold edits
  split
  · unfold edL
    rw [fr_same]
    intro e he
    unfold mk at he
    simp at he
    obtain ⟨x, _, rfl⟩ := he
    rfl
  · exact edF_same _ A
theorem editsLen (A B : List Str) : (edits A B).length ≤ A.length + B.length := by
  unfold edits
  split
  · exact edL_len A B
  · exact ed_len A B
theorem lns_flat : ∀ s : Str, (lns s).flatten = s
  | [] => rfl
  | c :: r => by
    have ih := lns_flat r
    rw [lns]
    split
    · rw [List.flatten_cons, ih]; rfl
    · cases h : lns r with
      | nil => rw [h] at ih; simp only [List.flatten_nil] at ih; rw [← ih]; rfl
      | cons l t => rw [h] at ih; rw [List.flatten_cons] at ih; simp only [List.flatten_cons, List.cons_append]; rw [ih]
theorem lns_one : ∀ (s : Str), ∀ x ∈ lns s, (10 : UInt8) ∉ x.dropLast
  | [], x, hx => by cases hx
  | c :: r, x, hx => by
    have ih := lns_one r
    have hne := lns_ne r
    rw [lns] at hx
    split at hx
    · rcases List.mem_cons.1 hx with rfl | hx
      · simp
      · exact ih x hx
    · rename_i hc
      cases h : lns r with
      | nil => rw [h] at hx; simp at hx; subst hx; simp
      | cons l t =>
        rw [h] at hx ih hne
        rcases List.mem_cons.1 hx with rfl | hx
        · have h0 := hne l (by simp)
          rw [List.dropLast_cons_of_ne_nil (by intro e; rw [e] at h0; simp at h0)]
          intro hm
          rcases List.mem_cons.1 hm with e | hm
          · exact hc e.symm
          · exact ih l (by simp) hm
        · exact ih x (by simp [hx])
theorem lns_arl : ∀ (s : Str), arL (lns s)
  | [] => fun i hi => by simp [lns] at hi
  | c :: r => by
    have ih := lns_arl r
    rw [lns]
    split
    · rename_i hc
      intro i hi
      cases i with
      | zero => rw [hc]; rfl
      | succ i => exact ih i (by simpa using hi)
    · cases h : lns r with
      | nil => intro i hi; simp at hi
      | cons l t =>
        rw [h] at ih
        intro i hi
        cases i with
        | zero =>
          have h1 := ih 0 (by simpa using hi)
          simp only [List.getD_cons_zero] at h1 ⊢
          cases l with
          | nil => cases h1
          | cons a b => rw [List.getLast?_cons_cons]; exact h1
        | succ i => exact ih (i + 1) (by simpa using hi)
theorem kmem (L : List Ed) (hk : ∀ e ∈ L, e.1 ≤ 2) (e : Ed) (he : e ∈ L) : e.2 ∈ kA L ∨ e.2 ∈ kB L := by
  by_cases h : e.1 = 2
  · refine .inr (List.mem_map.2 ⟨e, List.mem_filter.2 ⟨he, by simp [h]⟩, rfl⟩)
  · exact .inl (List.mem_map.2 ⟨e, List.mem_filter.2 ⟨he, by simp [h]⟩, rfl⟩)
theorem edits_wf (s t : Str) : ∀ e ∈ edits (lns s) (lns t), WfE e ∧ (e.2.length ≤ s.length ∨ e.2.length ≤ t.length) := fun e he => by
  obtain ⟨h1, h2, h3⟩ := edits_sides (lns s) (lns t)
  have hx : e.2 ∈ lns s ∨ e.2 ∈ lns t := by
    rcases kmem _ h3 e he with h | h
    · rw [h1] at h; exact .inl h
    · rw [h2] at h; exact .inr h
  rcases hx with h | h
  · exact ⟨⟨h3 e he, fun e0 => by have := lns_ne s _ h; rw [e0] at this; simp at this, lns_one s _ h⟩, .inl (lns_short s _ h)⟩
  · exact ⟨⟨h3 e he, fun e0 => by have := lns_ne t _ h; rw [e0] at this; simp at this, lns_one t _ h⟩, .inr (lns_short t _ h)⟩
def Cov (L : List Ed) : Nat → List Sp → Nat → Prop
  | p, [], i => ∀ k, p ≤ k → k < i → ¬ Ch L k
  | p, s :: r, i => p ≤ s.1 ∧ s.1 < s.2 ∧ s.2 ≤ L.length ∧ (∀ k, p ≤ k → k < s.1 → ¬ Ch L k) ∧ (∃ k, s.1 ≤ k ∧ k < s.2 ∧ Ch L k) ∧ Cov L s.2 r i
theorem Cov.keep {L : List Ed} {i : Nat} (hi : ¬ Ch L i) : ∀ {S : List Sp} {p : Nat}, Cov L p S i → Cov L p S (i + 1)
  | [], p, h => fun k k1 k2 => by
    by_cases e : k = i
    · rw [e]; exact hi
    · exact h k k1 (by omega)
  | s :: r, p, ⟨h1, h2, h3, h4, h5, h6⟩ => ⟨h1, h2, h3, h4, h5, h6.keep hi⟩
theorem addS_cons (s s' : Sp) (r : List Sp) (x : Sp) : addS (s :: s' :: r) x = s :: addS (s' :: r) x := by
  unfold addS
  rw [List.getLast?_cons_cons]
  cases h : (s' :: r).getLast? with
  | none => simp at h
  | some p =>
    simp only
    split
    · rw [List.dropLast_cons_cons]; rfl
    · rfl
theorem Cov.more {L : List Ed} {c i : Nat} (hi : i < L.length) (hc : Ch L i) : ∀ {S : List Sp} {p : Nat}, Cov L p S i → (∀ s ∈ S, s.1 < i) → (S = [] → p ≤ i - c) → Cov L p (addS S (spn c L.length i)) (i + 1)
  | [], p, h, _, hp => by
    have := hp rfl
    exact ⟨this, by show i - c < min (i + c + 1) L.length; omega, by show min (i + c + 1) L.length ≤ _; omega, fun k k1 k2 => h k k1 (by have : k < i - c := k2; omega), ⟨i, by show i - c ≤ i; omega, by show i < min (i + c + 1) L.length; omega, hc⟩, fun k k1 k2 => by have : min (i + c + 1) L.length ≤ k := k1; omega⟩
  | [s], p, ⟨h1, h2, h3, h4, h5, h6⟩, hs, _ => by
    have hlt := hs s (by simp)
    have e : addS [s] (spn c L.length i) = if (spn c L.length i).1 ≤ s.2 then [(s.1, (spn c L.length i).2)] else [s, spn c L.length i] := rfl
    rw [e]
    split
    · exact ⟨h1, by show s.1 < min (i + c + 1) L.length; omega, by show min (i + c + 1) L.length ≤ _; omega, h4, ⟨i, by show s.1 ≤ i; omega, by show i < min (i + c + 1) L.length; omega, hc⟩, fun k k1 k2 => by have : min (i + c + 1) L.length ≤ k := k1; omega⟩
    · rename_i hf
      have hf2 : ¬ i - c ≤ s.2 := hf
      exact ⟨h1, h2, h3, h4, h5, ⟨by show s.2 ≤ i - c; omega, by show i - c < min (i + c + 1) L.length; omega, by show min (i + c + 1) L.length ≤ _; omega, fun k k1 k2 => h6 k k1 (by have : k < i - c := k2; omega), ⟨i, by show i - c ≤ i; omega, by show i < min (i + c + 1) L.length; omega, hc⟩, fun k k1 k2 => by have : min (i + c + 1) L.length ≤ k := k1; omega⟩⟩
  | s :: s' :: r, p, ⟨h1, h2, h3, h4, h5, h6⟩, hs, _ => by
    rw [addS_cons]
    exact ⟨h1, h2, h3, h4, h5, h6.more hi hc (fun x hx => hs x (List.mem_cons_of_mem _ hx)) (fun e => by cases e)⟩
theorem sps_cov (L : List Ed) (c : Nat) : ∀ i, i ≤ L.length → Cov L 0 (sps L c i) i
  | 0, _ => fun k k1 k2 => by omega
  | i + 1, h => by
    have ih := sps_cov L c i (by omega)
    rw [sps]
    split
    · rename_i hc
      exact ih.more (by omega) hc (fun s hs => (sps_ok L c i (by omega) s hs).2.2) (fun _ => Nat.zero_le _)
    · rename_i hc
      exact ih.keep hc
end Go.Proofs.YtmpjapcijjjlbaaGreatDoor
namespace Go.Proofs.YtmpjapcijjjlbaaGreatDoor
set_option linter.unusedVariables false
set_option linter.unusedSimpArgs false
theorem take_seg (L : List Ed) (p q : Nat) (h : p ≤ q) : L.take q = L.take p ++ seg L (p, q) := by
  unfold seg
  conv => lhs; rw [← List.take_append_drop p (L.take q)]
  rw [List.take_take, Nat.min_eq_left h]
theorem drop_seg (L : List Ed) (p q : Nat) (h : p ≤ q) : L.drop p = seg L (p, q) ++ L.drop q := by
  unfold seg
  have h1 : (L.take q).drop p = (L.drop p).take (q - p) := by rw [List.drop_take]
  have h2 : L.drop q = (L.drop p).drop (q - p) := by rw [List.drop_drop]; congr 1; omega
  show L.drop p = (L.take q).drop p ++ L.drop q
  rw [h1, h2, List.take_append_drop]
theorem seg_at (L : List Ed) (p q : Nat) (e : Ed) (he : e ∈ seg L (p, q)) : ∃ k, p ≤ k ∧ k < q ∧ L.getD k (0, []) = e := by
  obtain ⟨i, hi⟩ := List.mem_iff_getElem?.1 he
  unfold seg at hi
  rw [List.getElem?_drop, List.getElem?_take] at hi
  split at hi
  · rename_i h
    exact ⟨p + i, by omega, h, by rw [List.getD_eq_getElem?_getD, hi]; rfl⟩
  · cases hi
theorem seg_keep (L : List Ed) (p q : Nat) (h : ∀ k, p ≤ k → k < q → ¬ Ch L k) : ∀ e ∈ seg L (p, q), e.1 = 0 := fun e he => by
  obtain ⟨k, k1, k2, hk⟩ := seg_at L p q e he
  have := h k k1 k2
  unfold Ch at this
  rw [hk] at this
  exact Decidable.not_not.1 this
theorem seg_any (L : List Ed) (p q : Nat) (h : ∃ k, p ≤ k ∧ k < q ∧ Ch L k) : (seg L (p, q)).any chE = true := by
  obtain ⟨k, k1, k2, hk⟩ := h
  have hl : k < L.length := by
    rcases Nat.lt_or_ge k L.length with h | h
    · exact h
    · exfalso
      unfold Ch at hk
      rw [List.getD_eq_getElem?_getD, List.getElem?_eq_none h] at hk
      exact hk rfl
  rw [List.any_eq_true]
  refine ⟨L[k], List.mem_iff_getElem?.2 ⟨k - p, ?_⟩, ?_⟩
  · unfold seg
    rw [List.getElem?_drop, List.getElem?_take, show p + (k - p) = k by omega, if_pos k2, List.getElem?_eq_getElem hl]
  · unfold Ch at hk
    rw [List.getD_eq_getElem?_getD, List.getElem?_eq_getElem hl] at hk
    unfold chE
    exact decide_eq_true hk
theorem seg_sub (L : List Ed) (s : Sp) : ∀ e ∈ seg L s, e ∈ L := fun e he => List.mem_of_mem_take (List.mem_of_mem_drop he)
theorem keeps_k : ∀ M : List Ed, (∀ e ∈ M, e.1 = 0) → kA M = kB M ∧ cA M = cB M
  | [], _ => ⟨rfl, rfl⟩
  | (k, x) :: M, h => by
    obtain ⟨h1, h2⟩ := keeps_k M (fun e he => h e (List.mem_cons_of_mem _ he))
    have hk : k = 0 := h (k, x) (by simp)
    have h3 : kA ((k, x) :: M) = kB ((k, x) :: M) := by rw [kA_cons, kB_cons, hk, h1]; rfl
    exact ⟨h3, by rw [← kA_len, ← kB_len, h3]⟩
def prj (y : Gh) : Int × Int × List Ed := (y.1, y.2.1, y.2.2.2.2)
def spF (L : List Ed) (s : Sp) : Int × Int × List Ed := ((cA (L.take s.1) : Int), (cB (L.take s.1) : Int), seg L s)
theorem stl_hs (L : List Ed) : ∀ (S : List Sp) (p : Nat) (l : List Gh) (g : Int), Cov L p S L.length → l.map ab = S.map (fun s => (cA (L.take s.1) + min (cA (seg L s)) 1, seg L s)) → (∀ y ∈ l, 0 ≤ y.1) → g = (cB (L.take p) : Int) - (cA (L.take p) : Int) → (stl g l).map prj = S.map (spF L)
  | [], p, l, g, _, h, _, _ => by
    have : l = [] := by simpa using h
    rw [this]; rfl
  | s :: r, p, [], g, _, h, _, _ => by cases h
  | s :: r, p, y :: l, g, ⟨h1, h2, h3, h4, h5, h6⟩, h, hp, hg => by
    rw [List.map_cons, List.map_cons, List.cons.injEq] at h
    have hab := h.1
    have e1 : y.1.toNat = cA (L.take s.1) + min (cA (seg L s)) 1 := congrArg Prod.fst hab
    have e2 : y.2.2.2.2 = seg L s := congrArg Prod.snd hab
    have h0 := hp y (by simp)
    have t1 := take_seg L p s.1 h1
    have t2 := take_seg L s.1 s.2 (by omega)
    have kk := (keeps_k _ (seg_keep L p s.1 h4)).2
    have c1 : cA (L.take s.1) = cA (L.take p) + cA (seg L (p, s.1)) := by rw [t1, cA_app]
    have c2 : cB (L.take s.1) = cB (L.take p) + cB (seg L (p, s.1)) := by rw [t1, cB_app]
    have c3 : cA (L.take s.2) = cA (L.take s.1) + cA (seg L s) := by rw [t2, cA_app]
    have c4 : cB (L.take s.2) = cB (L.take s.1) + cB (seg L s) := by rw [t2, cB_app]
    rw [stl, List.map_cons, List.map_cons, stl_hs L r s.2 l _ h6 h.2 (fun z hz => hp z (by simp [hz])) (by unfold dfG; rw [e2, hg, c3, c4, c1, c2]; omega)]
    congr 1
    unfold prj stG spF
    simp only
    rw [e2]
    refine Prod.ext ?_ (Prod.ext ?_ rfl)
    · show y.1 - ((min (cA (seg L s)) 1 : Nat) : Int) = ((cA (L.take s.1) : Nat) : Int); omega
    · show y.1 - ((min (cA (seg L s)) 1 : Nat) : Int) + g = ((cB (L.take s.1) : Nat) : Int); omega
def okP (e : Int) (z : Int × Int × List Ed) : Prop := okG e (z.1, z.2.1, none, 0, z.2.2)
def RgR : Int → List (Int × Int × List Ed) → Prop
  | _, [] => True
  | e, z :: r => okP e z ∧ RgR (z.1 + ((cA z.2.2 : Nat) : Int)) r
theorem rgr : ∀ (l : List Gh) (e : Int), RgR e (l.map prj) → ∀ j, j < l.length → okG (if j = 0 then e else enA l j) (l.getD j g0)
  | [], e, _, j, hj => by cases hj
  | y :: r, e, h, 0, _ => h.1
  | y :: r, e, h, j + 1, hj => by
    have := rgr r _ h.2 j (by simpa using hj)
    cases j with
    | zero => exact this
    | succ j => exact this
theorem rgr_ok (l : List Gh) (h : RgR 0 (l.map prj)) : Rgt l := fun j hj => by
  have := rgr l 0 h j hj
  cases j with
  | zero => exact this
  | succ j => exact this
theorem cov_rgr (L : List Ed) (hl : L.length ≤ 100000) (hne : ∀ e ∈ L, e.2 ≠ []) : ∀ (S : List Sp) (p : Nat), Cov L p S L.length → RgR (cA (L.take p) : Int) (S.map (spF L))
  | [], p, _ => trivial
  | s :: r, p, ⟨h1, h2, h3, h4, h5, h6⟩ => by
    have t1 := take_seg L p s.1 h1
    have t2 := take_seg L s.1 s.2 (by omega)
    have c1 : cA (L.take s.1) = cA (L.take p) + cA (seg L (p, s.1)) := by rw [t1, cA_app]
    have c3 : cA (L.take s.2) = cA (L.take s.1) + cA (seg L s) := by rw [t2, cA_app]
    have hs : (seg L s).length ≤ L.length := by unfold seg; rw [List.length_drop, List.length_take]; omega
    have b1 := cA_le (L.take s.1)
    have b2 := cB_le (L.take s.1)
    have b3 := cA_le (seg L s)
    have b4 := cB_le (seg L s)
    have b5 : (L.take s.1).length ≤ L.length := by rw [List.length_take]; omega
    have ih := cov_rgr L hl hne r s.2 h6
    refine ⟨⟨?_, ⟨?_, ?_, ?_, ?_⟩, seg_any L s.1 s.2 h5, ?_⟩, ?_⟩
    · show ¬ ((cA (L.take s.1) : Nat) : Int) < _; omega
    · show ((cA (L.take s.1) : Nat) : Int) + ((min (cA (seg L s)) 1 : Nat) : Int) ≤ _; omega
    · show ((cA (seg L s) : Nat) : Int) ≤ _; omega
    · show ((cB (L.take s.1) : Nat) : Int) + ((min (cB (seg L s)) 1 : Nat) : Int) ≤ _; omega
    · show ((cB (seg L s) : Nat) : Int) ≤ _; omega
    · show (seg L s).any emE = false
      rw [List.any_eq_false]
      intro e he
      unfold emE
      simpa using hne e (seg_sub L s e he)
    · show RgR (((cA (L.take s.1) : Nat) : Int) + ((cA (seg L s) : Nat) : Int)) _
      rw [c3, Int.natCast_add] at ih
      exact ih
def hkP (z : Int × Int × List Ed) : Str := headT z.1.toNat (cA z.2.2) z.2.1.toNat (cB z.2.2) ++ z.2.2.flatMap lineT
theorem flat_prj (l : List Gh) : l.flatMap hkG = (l.map prj).flatMap hkP := by rw [List.flatMap_map]; rfl
theorem flat_sp (L : List Ed) (S : List Sp) : (S.map (spF L)).flatMap hkP = S.flatMap (hkT L) := by rw [List.flatMap_map]; rfl
theorem apE_ok (X : List Str) : ∀ (es : List Ed) (at_ : Nat) (m rest : List Str), (∀ e ∈ es, e.1 ≤ 2) → X.drop at_ = kA es ++ rest → apE X es (at_, m) = some (at_ + cA es, m ++ kB es)
  | [], at_, m, rest, _, _ => by simp [apE, cA, kB]
  | (k, x) :: es, at_, m, rest, hk, h => by
    have hk' : k ≤ 2 := hk (k, x) (by simp)
    have hr : ∀ e ∈ es, e.1 ≤ 2 := fun e he => hk e (by simp [he])
    rw [apE]
    have hc : cA ((k, x) :: es) = (if k = 2 then 0 else 1) + cA es := by
      rw [← kA_len, ← kA_len, kA_cons]
      split <;> simp; omega
    rcases (by omega : k = 2 ∨ k = 0 ∨ k = 1) with e | e
    · rw [kA_cons, if_pos e] at h
      rw [ap1_two (s := (at_, m)) e]
      simp only
      rw [apE_ok X es at_ (m ++ [x]) rest hr h, hc, if_pos e, kB_cons, if_neg (by omega)]
      simp
    · have hk2 : ¬ k = 2 := by omega
      rw [kA_cons, if_neg hk2, List.cons_append] at h
      have hlt : at_ < X.length := by
        rcases Nat.lt_or_ge at_ X.length with h' | h'
        · exact h'
        · rw [List.drop_of_length_le h'] at h; cases h
      rw [List.drop_eq_getElem_cons hlt, List.cons.injEq] at h
      have hx : X.getD at_ [] = x := by rw [List.getD_eq_getElem?_getD, List.getElem?_eq_getElem hlt]; exact h.1
      rcases e with e | e
      · rw [ap1_zero (s := (at_, m)) e hlt hx]
        simp only
        rw [apE_ok X es (at_ + 1) (m ++ [x]) rest hr h.2, hc, if_neg hk2, kB_cons, if_neg (by omega)]
        simp; omega
      · rw [ap1_one (s := (at_, m)) e hlt hx]
        simp only
        rw [apE_ok X es (at_ + 1) m rest hr h.2, hc, if_neg hk2, kB_cons, if_pos e]
        simp; omega
theorem kA_drop (L : List Ed) (p : Nat) : (kA L).drop (cA (L.take p)) = kA (L.drop p) := by
  conv => lhs; rw [← List.take_append_drop p L, kA_app]
  rw [List.take_append_drop, ← kA_len, List.drop_left]
theorem apL_cov (L : List Ed) (hk : ∀ e ∈ L, e.1 ≤ 2) : ∀ (S : List Sp) (p : Nat) (l : List Gh), Cov L p S L.length → l.map prj = S.map (spF L) → (apL (kA L) l (cA (L.take p), kB (L.take p))).map (fun s => s.2 ++ (kA L).drop s.1) = some (kB L)
  | [], p, l, h, e => by
    have : l = [] := by simpa using e
    rw [this, apL, Option.map_some]
    simp only
    have hq : L.drop p = seg L (p, L.length) := by rw [seg]; simp
    rw [kA_drop, hq, (keeps_k _ (seg_keep L p L.length h)).1, ← hq, ← kB_app, List.take_append_drop]
  | s :: r, p, [], _, e => by cases e
  | s :: r, p, y :: l, ⟨h1, h2, h3, h4, h5, h6⟩, e => by
    rw [List.map_cons, List.map_cons, List.cons.injEq] at e
    have e1 : y.1 = (cA (L.take s.1) : Int) := congrArg Prod.fst e.1
    have e2 : y.2.2.2.2 = seg L s := congrArg (fun z => z.2.2) e.1
    have t1 := take_seg L p s.1 h1
    have t2 := take_seg L s.1 s.2 (by omega)
    have c1 : cA (L.take s.1) = cA (L.take p) + cA (seg L (p, s.1)) := by rw [t1, cA_app]
    have c3 : cA (L.take s.2) = cA (L.take s.1) + cA (seg L s) := by rw [t2, cA_app]
    have k1 : kB (L.take s.1) = kB (L.take p) ++ kB (seg L (p, s.1)) := by rw [t1, kB_app]
    have k3 : kB (L.take s.2) = kB (L.take s.1) ++ kB (seg L s) := by rw [t2, kB_app]
    have hle : cA (L.take s.1) ≤ (kA L).length := by
      rw [kA_len]
      conv => rhs; rw [← List.take_append_drop s.1 L, cA_app]
      omega
    have hH : apH (kA L) (cA (L.take p), kB (L.take p)) y = some (cA (L.take s.2), kB (L.take s.2)) := by
      unfold apH
      rw [e1, e2, if_neg (by omega)]
      simp only [Int.toNat_natCast]
      rw [kA_drop, drop_seg L p s.1 h1, kA_app, show cA (L.take s.1) - cA (L.take p) = (kA (seg L (p, s.1))).length by rw [kA_len]; omega, List.take_left, (keeps_k _ (seg_keep L p s.1 h4)).1, ← k1]
      rw [apE_ok (kA L) (seg L s) (cA (L.take s.1)) (kB (L.take s.1)) (kA (L.drop s.2)) (fun e he => hk e (seg_sub L s e he)) (by rw [kA_drop, drop_seg L s.1 s.2 (by omega), kA_app]), c3, k3]
    rw [apL, hH]
    exact apL_cov L hk r s.2 l h6 e.2
theorem wtE_seg (L : List Ed) (p q : Nat) (h : p ≤ q) : wtE (L.drop p) = wtE (seg L (p, q)) + wtE (L.drop q) := by rw [drop_seg L p q h, wtE_app]
theorem cov_len (L : List Ed) (hl : L.length ≤ 100000) (hk : LOk L) : ∀ (S : List Sp) (p : Nat), p ≤ L.length → Cov L p S L.length → (S.flatMap (hkT L)).length ≤ 60 * (L.length - p) + wtE (L.drop p)
  | [], p, _, _ => by simp
  | s :: r, p, hp, ⟨h1, h2, h3, h4, h5, h6⟩ => by
    have ih := cov_len L hl hk r s.2 h3 h6
    have hs : (seg L s).length ≤ L.length := by unfold seg; rw [List.length_drop, List.length_take]; omega
    have b1 := cA_le (L.take s.1)
    have b2 := cB_le (L.take s.1)
    have b5 : (L.take s.1).length ≤ L.length := by rw [List.length_take]; omega
    have w1 := hkG_wt (y := ((cA (L.take s.1) : Int), (cB (L.take s.1) : Int), none, 0, seg L s)) ⟨⟨_, rfl, by omega⟩, ⟨_, rfl, by omega⟩, by show (seg L s).length ≤ _; omega, fun e he => hk e (seg_sub L s e he)⟩
    have w2 : (hkT L s).length ≤ 60 + wtE (seg L s) := w1
    have d1 := wtE_seg L p s.1 h1
    have d2 := wtE_seg L s.1 s.2 (by omega)
    have d3 : seg L (s.1, s.2) = seg L s := rfl
    rw [d3] at d2
    rw [List.flatMap_cons, List.length_append]
    omega
theorem wtE_le : ∀ L : List Ed, wtE L ≤ (kA L).flatten.length + (kB L).flatten.length + 31 * L.length
  | [] => Nat.le_refl _
  | (k, x) :: L => by
    have ih := wtE_le L
    have e : wtE ((k, x) :: L) = x.length + 31 + wtE L := by simp [wtE]
    rw [e, kA_cons, kB_cons, List.length_cons]
    split <;> split <;> (try simp only [List.flatten_cons, List.length_append]) <;> omega
theorem patch_round (s t : Str) (c : Nat) (hs : s.length ≤ 4000) (ht : t.length ≤ 4000) (l : List Gh) (hr : Rd (patchT (edits (lns s) (lns t)) c) l) :
    Good (patchT (edits (lns s) (lns t)) c) l ∧ chP (lns s) (stl 0 l) = some (lns t) := by
  obtain ⟨h1, h2, h3⟩ := edits_sides (lns s) (lns t)
  have hwf := edits_wf s t
  have hln := editsLen (lns s) (lns t)
  have f1 := lns_few s
  have f2 := lns_few t
  generalize edits (lns s) (lns t) = L at *
  have hl : L.length ≤ 100000 := by omega
  have hc := sps_cov L c L.length (Nat.le_refl _)
  have hpt : patchT L c = wHs ((sps L c L.length).map (fun s => (cA (L.take s.1), cB (L.take s.1), seg L s))) := by
    unfold patchT wHs
    rw [List.flatMap_map]
    rfl
  have hrd : l.map ab = (sps L c L.length).map (fun s => (cA (L.take s.1) + min (cA (seg L s)) 1, seg L s)) := by
    rw [hr.1, hpt]
    unfold rdH
    rw [rd_back _ [] (fun h hh => by
      obtain ⟨s, _, rfl⟩ := List.mem_map.1 hh
      have b1 := cA_le (L.take s.1)
      have b5 : (L.take s.1).length ≤ L.length := by rw [List.length_take]; omega
      exact ⟨by show cA (L.take s.1) + 1 < _; omega, fun e he => (hwf e (seg_sub L s e he)).1⟩), List.nil_append, List.map_map]
    rfl
  have hst := stl_hs L _ 0 l 0 hc hrd (fun y hy => (hr.2.1 y hy).1.1) (by simp [cA, cB])
  refine ⟨⟨rgr_ok _ ?_, ?_⟩, ?_⟩
  · rw [hst]
    exact cov_rgr L hl (fun e he => (hwf e he).1.ne) _ 0 hc
  · rw [flat_prj, hst, flat_sp]
    rfl
  · have := apL_cov L h3 _ 0 (stl 0 l) hc hst
    rw [h1, h2] at this
    exact this
theorem patch_len (s t : Str) (c : Nat) (hs : s.length ≤ 4000) (ht : t.length ≤ 4000) : (patchT (edits (lns s) (lns t)) c).length ≤ 1000000 := by
  obtain ⟨h1, h2, h3⟩ := edits_sides (lns s) (lns t)
  have hwf := edits_wf s t
  have hln := editsLen (lns s) (lns t)
  have f1 := lns_few s
  have f2 := lns_few t
  have g1 := lns_flat s
  have g2 := lns_flat t
  generalize edits (lns s) (lns t) = L at *
  have hc := sps_cov L c L.length (Nat.le_refl _)
  have := cov_len L (by omega) (fun e he => ⟨h3 e he, by rcases (hwf e he).2 with h | h <;> omega⟩) _ 0 (Nat.zero_le _) hc
  have w := wtE_le L
  rw [h1, h2, g1, g2] at w
  rw [List.drop_zero] at this
  unfold patchT
  omega
theorem patch_none (s t : Str) (c : Nat) : patchT (edits (lns s) (lns t)) c = [] ↔ s = t := by
  obtain ⟨h1, h2, h3⟩ := edits_sides (lns s) (lns t)
  have hc := sps_cov (edits (lns s) (lns t)) c _ (Nat.le_refl _)
  constructor
  · intro h
    unfold patchT at h
    cases hS : sps (edits (lns s) (lns t)) c (edits (lns s) (lns t)).length with
    | nil =>
      rw [hS] at hc
      have hk := (keeps_k (seg (edits (lns s) (lns t)) (0, (edits (lns s) (lns t)).length)) (seg_keep _ 0 _ hc)).1
      have e : seg (edits (lns s) (lns t)) (0, (edits (lns s) (lns t)).length) = edits (lns s) (lns t) := by simp [seg]
      rw [e, h1, h2] at hk
      rw [← lns_flat s, ← lns_flat t, hk]
    | cons x r =>
      rw [hS] at h
      simp [hkT, headT] at h
  · rintro rfl
    unfold patchT
    cases hS : sps (edits (lns s) (lns s)) c (edits (lns s) (lns s)).length with
    | nil => rfl
    | cons x r =>
      rw [hS] at hc
      obtain ⟨k, _, hk2, hk⟩ := hc.2.2.2.2.1
      have hkl : k < (edits (lns s) (lns s)).length := Nat.lt_of_lt_of_le hk2 hc.2.2.1
      exact absurd (edits_same (lns s) _ (getD_mem _ k (0, []) hkl)) hk
end Go.Proofs.YtmpjapcijjjlbaaGreatDoor
