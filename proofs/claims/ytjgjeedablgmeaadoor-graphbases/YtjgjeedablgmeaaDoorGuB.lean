/- The document's 'Reduce'. -/
import Derived.Test.YtjgjeedablgmeaaDoorGuA
import Derived.Test.YtjgjeedablgmeaaDoorGsE
namespace Go.Proofs.YtjgjeedablgmeaaDoor
open Go.RowKit
set_option linter.unusedVariables false
set_option linter.unusedSimpArgs false
/-- Those of S that no other one of them reaches. -/
def Tq (l : List Nd) (S : List Int → Prop) (y : List Int) : Prop := S y ∧ ∀ z, S z → z ≠ y → ¬ Rch l (· ∈ [z]) y
theorem tq_tp {l : List Nd} {S : List Int → Prop} (ha : Acy l) (y : List Int) : Tq l S y ↔ Tp l S y := by
  constructor
  · rintro ⟨h1, h2⟩
    refine ⟨h1, fun hr => ?_⟩
    obtain ⟨p, ⟨x, hx, hS, hp⟩, hpy⟩ := hr.from
    have hxy : Rch l (· ∈ [x.id]) y := ((Rch.self l x.id).step ⟨x, hx, rfl, hp⟩).one hpy
    by_cases e : x.id = y
    · exact ha x hx (by rw [e]; exact hpy.trans (fun u hu => by rw [List.mem_singleton.1 hu]; exact Rch.of hp))
    · exact h2 x.id hS e hxy
  · intro h
    exact ⟨h.1, fun z hz hne hr => h.no hz (fun e => hne e.symm) hr⟩
def BIf (b : Bool) (p : Prop) : Prop := b = true ↔ p
/-- What the document's 'Reduce' gives. -/
def PostRr (l : List Nd) (F : List (List Int)) (w : World) (e : Ending) (w' : World) : Prop := Below w.heap.size w w' ∧ (((OkG l ∧ ∀ y ∈ F, y ∈ ids l) ∧ ∃ a cap xs, e = .returned (.tuple #[.slice a xs.length cap, .int .i64 0]) ∧ Lst' (Tq l (· ∈ F)) xs ∧ Rs xs ∧ Pa w' a cap xs) ∨ (¬ (OkG l ∧ ∀ y ∈ F, y ∈ ids l) ∧ e = .returned (.tuple #[.slice none 0 0, .int .i64 80])))
theorem idx_nodup {X : List (List Int)} (h : X.Nodup) {i k : Nat} (hi : i < X.length) (hk : k < X.length) (e : X.getD i [] = X.getD k []) : i = k := by
  have h1 : X[i]? = some (X.getD i []) := by rw [List.getD_eq_getElem?_getD, List.getElem?_eq_getElem hi]; rfl
  have h2 : X[k]? = some (X.getD i []) := by rw [e, List.getD_eq_getElem?_getD, List.getElem?_eq_getElem hk]; rfl
  exact (List.getElem?_inj hi h).1 (h1.trans h2.symm)
set_option maxRecDepth 20000 in
set_option maxHeartbeats 2000000 in
theorem rreduce_any {w : World} (a : Option Addr) (cap : Nat) (l : List Nd) (hP : Pn w a cap l) (hw : ∀ x ∈ l, NdW w x) (hn : l.length ≤ 40) (hps : ∀ x ∈ l, x.ps.length ≤ 40)
    (fa : Option Addr) (fc : Nat) (F : List (List Int)) (hF : Pa w fa fc F) (hi : ∀ y ∈ F, IdW y) (hl : F.length ≤ 40) : Calls Tryd.prog 21 #[.slice a l.length cap, .slice fa F.length fc] w (PostRr l F w) := by
  obtain ⟨G, HG⟩ : ∃ G, Hid (w.heap.size = G) := ⟨_, rfl⟩
  obtain ⟨n, HNL⟩ : ∃ n, Hid (l.length = n) := ⟨_, rfl⟩
  obtain ⟨nF, HNF⟩ : ∃ n, Hid (F.length = n) := ⟨_, rfl⟩
  have HPN : Hid (∀ W, Below G w W → Pn W a cap l) := fun W hW => hP.below (by rw [HG.out]; exact hW)
  have HWF : Hid (∀ W, Below G w W → ∀ x ∈ l, NdW W x) := fun W hW x hx => (hw x hx).below (by rw [HG.out]; exact hW)
  have HPF : Hid (∀ W, Below G w W → Pa W fa fc F) := fun W hW => hF.below (by rw [HG.out]; exact hW)
  have HFI : Hid (∀ y ∈ F, IdW y) := hi
  have HFL : Hid (F.length ≤ 40) := hl
  have HL40 : Hid (l.length ≤ 40) := hn
  have HPS : Hid (∀ x ∈ l, x.ps.length ≤ 40) := hps
  have HW2 : Hid (∀ x ∈ l, x.id.length = 20) := fun x hx => (hw x hx).id.1
  have hn40 : n ≤ 40 := by rw [← HNL.out]; exact hn
  have C10 : Hid (Calls Tryd.prog 10 #[.slice a n cap] w (PostRk l w)) := hid (by
    have := rcheck_any a cap l hP hw hn hps
    rw [HNL.out] at this
    exact this)
  have HGS : Hid (∀ W, Below G w W → G ≤ W.heap.size) := fun W hW => by have := hW.size; have := HG.out; omega
  rw [HNL.out, HNF.out]
  clear hP hw hn hps hF hi hl
  go_enter Tryd.func21, Tryd.ntmps21
  go_wp2_with fail
  refine C10.out.mono ?_
  rintro ev w1 ⟨hb1, hck⟩
  have HB1 : Hid (Below G w w1) := hid (by rw [← HG.out]; exact hb1)
  have C30 : Hid (Calls Tryd.prog 30 #[.slice a n cap, .slice fa nF fc] w1 fun e w' => BI (∀ y ∈ F, y ∈ ids l) e ∧ Below w1.heap.size w1 w') := hid (by
    have := known_any a cap l (HPN.out _ HB1.out) HW2.out HL40.out fa fc F (HPF.out _ HB1.out) HFI.out (by have := HFL.out; omega)
    rw [HNL.out, HNF.out] at this
    exact this)
  obtain ⟨ec, hev, HEC⟩ : ∃ ec : Int, ev = .returned (.int .i64 ec) ∧ Hid ((OkG l ∧ ec = 0) ∨ (¬ OkG l ∧ ec = 80)) := by
    rcases hck with ⟨h1, h2⟩ | ⟨h1, h2⟩
    · exact ⟨0, h2, hid (.inl ⟨h1, rfl⟩)⟩
    · exact ⟨80, h2, hid (.inr ⟨h1, rfl⟩)⟩
  subst hev
  clear hb1 hck C10
  go_wp2_with fail
  refine C30.out.mono ?_
  rintro ev w2 ⟨⟨ba, hba, rfl⟩, hb2⟩
  have HB2 : Hid (Below G w w2) := hid (HB1.out.trans (hb2.mono (HGS.out _ HB1.out)))
  have HBA : Hid (ba = true ↔ ∀ y ∈ F, y ∈ ids l) := hba
  clear hb2 hba C30
  by_cases hall : ec = 0 ∧ ba = true
  · obtain ⟨rfl, rfl⟩ := hall
    have HOK : Hid (OkG l) := hid (by
      rcases HEC.out with ⟨h1, _⟩ | ⟨_, h1⟩
      · exact h1
      · cases h1)
    have HIF : Hid (∀ y ∈ F, y ∈ ids l) := hid (HBA.out.1 rfl)
    have C36 : Hid (Calls Tryd.prog 36 #[.slice fa nF fc] w2 (PostSd F w2)) := hid (by
      have := rsorted_any fa fc F HFI.out (by have := HFL.out; omega) w2 (HPF.out _ HB2.out)
      rw [HNF.out] at this
      exact this)
    clear HEC HBA
    go_wp2_with fail
    refine C36.out.mono ?_
    rintro ev w4 ⟨hb4, xa, xc, X, rfl, hls, hrs, hpa⟩
    have hB4 : Below G w w4 := HB2.out.trans (hb4.mono (HGS.out _ HB2.out))
    have HB4 : Hid (Below G w w4) := hB4
    have HLS : Hid (Lst' (· ∈ F) X) := hls
    have HRS : Hid (Rs X) := hrs
    have HXF : Hid (∀ z ∈ X, z ∈ F) := fun z hz => (hls.all z (hls.idw z hz)).1 hz
    obtain ⟨m, HM⟩ : ∃ m, Hid (X.length = m) := ⟨_, rfl⟩
    have hm40 : m ≤ 40 := by
      have h1 := nodup_sub X F hls.one HXF.out
      have := HFL.out
      rw [HM.out] at h1
      omega
    obtain ⟨G4, HG4⟩ : ∃ K, Hid (w4.heap.size = K) := ⟨_, rfl⟩
    have hGG4 : G ≤ G4 := by rw [← HG4.out]; exact HGS.out _ hB4
    have HBF : Hid (∀ V, Below G4 w4 V → Below G w V) := fun V hV => hB4.trans (hV.mono hGG4)
    have HXA : Hid (∀ V, Below G4 w4 V → Pa V xa xc X) := fun V hV => hpa.below (by rw [HG4.out]; exact hV)
    have HXPL : Hid (0 < m → ∃ b off, xa = some ⟨b, off, none⟩) := fun h0 => by
      obtain ⟨b, off, e1, _⟩ := hpa.at_ (by rw [HM.out]; exact h0)
      exact ⟨b, off, e1⟩
    obtain ⟨gB, HGB⟩ : ∃ gB : List Int → Bool, Hid (∀ y, gB y = true ↔ Tq l (· ∈ F) y) := by
      classical
      exact ⟨fun y => decide (Tq l (· ∈ F) y), fun y => by simp only [decide_eq_true_eq]⟩
    have HV0 : Hid (Bi 41 w4 w4 G4 (.slice none 0 0) ((X.take 0).filter gB)) := hid (bx_nil 41 w4 _ (by rw [HG4.out]; exact Nat.le_refl _))
    rw [HM.out]
    clear hb4 hls hrs hpa hB4 C36
    go_wp2_with fail
    go_loopg [8, 10] m (fun gg ov iv wr => ∃ (i : Nat) (v : Value), v = ov ∧ i ≤ m ∧ gg = m - i ∧ iv = .int .i64 i ∧ Hid (Bi 41 w4 wr G4 v ((X.take i).filter gB)))
    case atStart => exact ⟨0, _, rfl, Nat.zero_le _, rfl, rfl, HV0⟩
    case round =>
      clear HV0
      obtain ⟨i, v, hv, hi, hgi, rfl, HV⟩ := hrel
      subst hv
      by_cases hlt : i < m
      · have hlti : (i : Int) < (m : Int) := by omega
        obtain ⟨xb, xo, hxe⟩ := HXPL.out (by omega)
        subst hxe
        obtain ⟨y, HY⟩ : ∃ q, Hid (X.getD i [] = q) := ⟨_, rfl⟩
        have HYM : Hid (y ∈ X) := hid (by rw [← HY.out]; exact getD_mem _ i _ (by rw [HM.out]; exact hlt))
        have HYW : Hid (IdW y) := HLS.out.idw y HYM.out
        have HYI : Hid (y ∈ ids l) := HIF.out y (HXF.out y HYM.out)
        obtain ⟨RY, HRY⟩ : ∃ R : List Value, Hid (row .u8 y = R) := ⟨_, rfl⟩
        have hiY : (Tryd.prog.info? 41).map (·.size) = some RY.length := by rw [← HRY.out, row_len, HYW.out.1]; exact Tryd.size41
        have HRR : Hid (∀ V, Below G4 w4 V → V.rangeAt xb (xo + i * 20) RY) := fun V hV => by
          obtain ⟨b', off', e1, _, e3⟩ := (HXA.out V hV).at_ (by rw [HM.out]; omega)
          cases e1
          have := e3 i (by rw [HM.out]; exact hlt)
          rw [HY.out, HRY.out] at this
          exact this
        obtain ⟨t, ht, hty, hft⟩ := fnd_mem l y HYI.out
        have htn : t < n := by rw [← HNL.out]; exact ht
        have htni : (t : Int) < (n : Int) := by omega
        have HTY : Hid ((l.getD t nd0).id = y) := hty
        have HTL : Hid (t < l.length) := ht
        have HFT : Hid (fnd l y = (t : Int)) := hft
        have HBE0 : Hid (BIf true (∀ z ∈ X.take 0, z ≠ y → ¬ Rch l (· ∈ [z]) y)) := hid ⟨fun _ z hz => by simp at hz, fun _ => rfl⟩
        clear ht hty hft
        go_wp2_with fail
        go_loopg [11, 12] m (fun gg bv kv wr => ∃ (k : Nat) (be : Bool), k ≤ m ∧ gg = m - k ∧ kv = .int .i64 k ∧ bv = .bool be ∧ Hid (BIf be (∀ z ∈ X.take k, z ≠ y → ¬ Rch l (· ∈ [z]) y)) ∧ Hid (Bi 41 w4 wr G4 v ((X.take i).filter gB)))
        case atStart => exact ⟨0, true, Nat.zero_le _, rfl, rfl, rfl, HBE0, HV⟩
        case round =>
          clear HV HBE0
          obtain ⟨k, be, hk, hgk, rfl, rfl, HBE, HV⟩ := hrel
          by_cases hkm : k < m
          · have hkmi : (k : Int) < (m : Int) := by omega
            obtain ⟨z, HZ⟩ : ∃ q, Hid (X.getD k [] = q) := ⟨_, rfl⟩
            have HZM : Hid (z ∈ X) := hid (by rw [← HZ.out]; exact getD_mem _ k _ (by rw [HM.out]; exact hkm))
            have HZW : Hid (IdW z) := HLS.out.idw z HZM.out
            have HZI : Hid (z ∈ ids l) := HIF.out z (HXF.out z HZM.out)
            obtain ⟨RZ, HRZ⟩ : ∃ R : List Value, Hid (row .u8 z = R) := ⟨_, rfl⟩
            have hiZ : (Tryd.prog.info? 41).map (·.size) = some RZ.length := by rw [← HRZ.out, row_len, HZW.out.1]; exact Tryd.size41
            have HTK : Hid (X.take (k + 1) = X.take k ++ [z]) := hid (by rw [take_snocG [] X k (by rw [HM.out]; exact hkm), HZ.out])
            have RRZ : Hid (wr.rangeAt xb (xo + k * 20) RZ) := hid (by
              obtain ⟨b', off', e1, _, e3⟩ := (HXA.out wr HV.out.below).at_ (by rw [HM.out]; omega)
              cases e1
              have := e3 k (by rw [HM.out]; exact hkm)
              rw [HZ.out, HRZ.out] at this
              exact this)
            obtain ⟨K5, HK5⟩ : ∃ K, Hid (wr.heap.size = K) := ⟨_, rfl⟩
            obtain ⟨w5, HW5⟩ : ∃ u, Hid (wr.alloc (.cells RZ.toArray 41) = u) := ⟨_, rfl⟩
            have HBLD : Hid ((Instr.buildSlice 35 1 #[(0, .agg RZ.toArray)]).run Tryd.prog wr = .ok (.slice (some ⟨K5, 0, none⟩) 1 1) w5) := hid (by rw [← HW5.out, ← HK5.out, ← HRZ.out]; exact run_build35 z HZW.out.1 wr)
            have hb5 : Below wr.heap.size wr w5 := by rw [← HW5.out]; exact (Below.refl _ wr).alloc (Nat.le_refl _) _
            have HV5 : Hid (Bi 41 w4 w5 G4 v ((X.take i).filter gB)) := hid (HV.out.carry hb5)
            have HPA5 : Hid (Pa w5 (some ⟨K5, 0, none⟩) 1 [z]) := hid (by rw [← HW5.out, ← HK5.out, ← HRZ.out]; exact pa_one wr z 41)
            have C24 : Hid (Calls Tryd.prog 24 #[.slice a n cap, .slice (some ⟨K5, 0, none⟩) 1 1] w5 (PostRc l [z] w5.heap.size n w5)) := hid (by
              have hB := HBF.out _ HV5.out.below
              have := reach_any a cap l (HPN.out _ hB) (HWF.out _ hB) HL40.out HPS.out HOK.out.one HOK.out.par (some ⟨K5, 0, none⟩) 1 [z] HPA5.out (fun u hu => by rw [List.mem_singleton.1 hu]; exact HZW.out) (by simp) (fun u hu => by rw [List.mem_singleton.1 hu]; exact HZI.out)
              rw [HNL.out] at this
              exact this)
            clear hb5
            go_wp2_with (first
              | refine wpList_load_mid rfl 41 _ rfl xb (xo + k * 20) rfl RZ _ RRZ.out Tryd.underlying41 rfl hiZ ?_
              | refine wpList_bS rfl 35 1 _ rfl (.agg RZ.toArray) _ rfl HBLD.out ?_
              | fail)
            refine C24.out.mono ?_
            rintro ev w6 ⟨mm, rfl, hmk, hr⟩
            obtain ⟨K6, HK6⟩ : ∃ K, Hid (w5.heap.size = K) := ⟨_, rfl⟩
            rw [HK6.out] at hmk ⊢
            have HV6 : Hid (Bi 41 w4 w6 G4 v ((X.take i).filter gB)) := hid (HV5.out.carry (by rw [HK6.out]; exact hmk.below))
            have HLM : Hid (LM K6 n w6 mm) := hid hmk.lm
            have HRM : Hid (mm.getD t false = true ↔ Rch l (· ∈ [z]) y) := hid (by have := hr t HTL.out; rw [HTY.out] at this; exact this)
            clear hmk hr C24
            by_cases hki : k = i
            · subst hki
              have HBE2 : Hid (BIf be (∀ z ∈ X.take (k + 1), z ≠ y → ¬ Rch l (· ∈ [z]) y)) := hid (by
                have h1 : be = true ↔ _ := HBE.out
                unfold BIf
                rw [h1, HTK.out]
                constructor
                · intro h u hu hne
                  rcases List.mem_append.1 hu with h2 | h2
                  · exact h u h2 hne
                  · rw [List.mem_singleton.1 h2, ← HZ.out, HY.out] at hne; exact absurd rfl hne
                · intro h u hu hne
                  exact h u (by simp [hu]) hne)
              go_wp2
              go_roundg (m - (k + 1))
              case measure => omega
              case rel => exact ⟨k + 1, be, by omega, rfl, by go_num, rfl, HBE2, HV6⟩
            · have hkii : ¬ (k : Int) = (i : Int) := by omega
              have hkib : ((k : Int) == (i : Int)) = false := by rw [beq_eq_false_iff_ne]; exact hkii
              have HZY : Hid (z ≠ y) := hid (fun e => hki (idx_nodup HLS.out.one (by rw [HM.out]; exact hkm) (by rw [HM.out]; exact hlt) (by rw [HZ.out, HY.out]; exact e)))
              have RRY : Hid (w6.rangeAt xb (xo + i * 20) RY) := hid (HRR.out _ HV6.out.below)
              have C23 : Hid (Calls Tryd.prog 23 #[.slice a n cap, .agg RY.toArray] w6 fun e w' => e = .returned (.int .i64 t) ∧ Below w6.heap.size w6 w') := hid (by
                have := find_any a cap l (HPN.out _ (HBF.out _ HV6.out.below)) HW2.out HL40.out y HYW.out.1
                unfold idV at this
                rw [HNL.out, HRY.out, HFT.out] at this
                exact this)
              go_wp2_with (first
                | refine wpList_load_mid rfl 41 _ rfl xb (xo + i * 20) rfl RY _ RRY.out Tryd.underlying41 rfl hiY ?_
                | (refine BigFrame.wpList_want (by first | rfl | (simp [Region.wanted, yielded, hkib, hkii]; done) | (go_simp; done)) (fun KK hKK => ?_); refine wp_load_mid 41 _ rfl xb (xo + i * 20) rfl RY _ RRY.out Tryd.underlying41 rfl hiY ?_; refine hKK _ _ ?_; clear hKK KK)
                | fail)
              refine C23.out.mono ?_
              rintro ev w7 ⟨rfl, hb7⟩
              have HV7 : Hid (Bi 41 w4 w7 G4 v ((X.take i).filter gB)) := hid (HV6.out.carry hb7)
              obtain ⟨hcell, _⟩ := (HLM.out.below hb7).cell t htn
              obtain ⟨bt, HBT⟩ : ∃ q, Hid (mm.getD t false = q) := ⟨_, rfl⟩
              rw [HBT.out] at hcell
              have HBR : Hid (BIf bt (Rch l (· ∈ [z]) y)) := hid (by have := HRM.out; rw [HBT.out] at this; exact this)
              clear hb7 C23
              cases bt with
              | true =>
                have HBE2 : Hid (BIf false (∀ z ∈ X.take (k + 1), z ≠ y → ¬ Rch l (· ∈ [z]) y)) := hid ⟨fun h => (by cases h), fun h => absurd (HBR.out.1 rfl) (h z (by rw [HTK.out]; simp) HZY.out)⟩
                go_wp2
                go_roundg (m - (k + 1))
                case measure => omega
                case rel => exact ⟨k + 1, false, by omega, rfl, by go_num, rfl, HBE2, HV7⟩
              | false =>
                have HBE2 : Hid (BIf be (∀ z ∈ X.take (k + 1), z ≠ y → ¬ Rch l (· ∈ [z]) y)) := hid (by
                  have h1 : be = true ↔ _ := HBE.out
                  unfold BIf
                  rw [h1, HTK.out]
                  constructor
                  · intro h u hu hne
                    rcases List.mem_append.1 hu with h2 | h2
                    · exact h u h2 hne
                    · rw [List.mem_singleton.1 h2]; exact fun h3 => by have := HBR.out.2 h3; cases this
                  · intro h u hu hne
                    exact h u (by simp [hu]) hne)
                go_wp2
                go_roundg (m - (k + 1))
                case measure => omega
                case rel => exact ⟨k + 1, be, by omega, rfl, by go_num, rfl, HBE2, HV7⟩
          · have hkmi : ¬ (k : Int) < (m : Int) := by omega
            have HTQ : Hid (BIf be (Tq l (· ∈ F) y)) := hid (by
              have h1 : be = true ↔ _ := HBE.out
              unfold BIf Tq
              rw [h1, List.take_of_length_le (by rw [HM.out]; omega)]
              exact ⟨fun h => ⟨HXF.out y HYM.out, fun z hz => h z ((HLS.out.all z (HFI.out z hz)).2 hz)⟩, fun h z hz => h.2 z (HXF.out z hz)⟩)
            have HTK2 : Hid ((X.take (i + 1)).filter gB = (X.take i).filter gB ++ [y].filter gB) := hid (by rw [take_snocG [] X i (by rw [HM.out]; exact hlt), HY.out, List.filter_append])
            cases be with
            | false =>
              have HNO : Hid ([y].filter gB = []) := hid (by
                have : gB y = false := by
                  cases h : gB y with
                  | false => rfl
                  | true => have := HTQ.out.2 ((HGB.out y).1 h); cases this
                simp [this])
              have HV9 : Hid (Bi 41 w4 wr G4 v ((X.take (i + 1)).filter gB)) := hid (by rw [HTK2.out, HNO.out, List.append_nil]; exact HV.out)
              go_wp2
              go_roundg (m - (i + 1))
              case measure => omega
              case rel => exact ⟨i + 1, v, rfl, by omega, rfl, by go_num, HV9⟩
            | true =>
              have HYES : Hid ([y].filter gB = [y]) := hid (by
                have : gB y = true := (HGB.out y).2 (HTQ.out.1 rfl)
                simp [this])
              have RRY : Hid (wr.rangeAt xb (xo + i * 20) RY) := hid (HRR.out _ HV.out.below)
              obtain ⟨K7, HK7⟩ : ∃ K, Hid (wr.heap.size = K) := ⟨_, rfl⟩
              have HBLD : Hid ((Instr.buildSlice 35 1 #[(0, .agg RY.toArray)]).run Tryd.prog wr = .ok (.slice (some ⟨K7, 0, none⟩) 1 1) (wr.alloc (.cells RY.toArray 41))) := hid (by rw [← HK7.out, ← HRY.out]; exact run_build35 y HYW.out.1 wr)
              have HV7 : Hid (Bi 41 w4 (wr.alloc (.cells RY.toArray 41)) G4 v ((X.take i).filter gB)) := hid (HV.out.alloc _)
              have HP8 : Hid (Pa (wr.alloc (.cells RY.toArray 41)) (some ⟨K7, 0, none⟩) 1 [y]) := hid (by rw [← HK7.out, ← HRY.out]; exact pa_one wr y 41)
              have HSUM : Hid (((X.take i).filter gB).length + [y].length ≤ 30000) := hid (by
                have h1 := List.length_filter_le gB (X.take i)
                rw [List.length_take, HM.out] at h1
                simp only [List.length_cons, List.length_nil]
                omega)
              have HONE1 : Hid (∀ z ∈ [y], (row .u8 z).length = 20) := fun z hz => by rw [List.mem_singleton.1 hz, row_len]; exact HYW.out.1
              go_wp2_with (first
                | refine wpList_load_mid rfl 41 _ rfl xb (xo + i * 20) rfl RY _ RRY.out Tryd.underlying41 rfl hiY ?_
                | refine wpList_bS rfl 35 1 _ rfl (.agg RY.toArray) _ rfl HBLD.out ?_
                | (refine wpList_bx_sl (d := []) rfl _ _ 35 41 Tryd.underlying35 Tryd.info41 rfl (by decide) (by decide) (fun z => row_one _ z) rfl G4 v _ rfl HV7.out (some ⟨K7, 0, none⟩) 1 [y] rfl HP8.out HONE1.out HSUM.out ?_; intro v8 w8 hb8 hg8)
                | fail)
              have HV9 : Hid (Bi 41 w4 w8 G4 v8 ((X.take (i + 1)).filter gB)) := hid (by rw [HTK2.out, HYES.out]; exact hb8)
              clear hb8 hg8
              go_roundg (m - (i + 1))
              case measure => omega
              case rel => exact ⟨i + 1, v8, rfl, by omega, rfl, by go_num, HV9⟩
      · have hlti : ¬ (i : Int) < (m : Int) := by omega
        obtain ⟨O, HO⟩ : ∃ O, Hid (X.filter gB = O) := ⟨_, rfl⟩
        have hVZ : Bi 41 w4 wr G4 v O := by
          have := HV.out
          rw [List.take_of_length_le (by rw [HM.out]; omega), HO.out] at this
          exact this
        have HLO : Hid (Lst' (Tq l (· ∈ F)) O) := hid (by
          rw [← HO.out]
          refine ⟨HLS.out.one.sublist List.filter_sublist, fun y hy => HLS.out.idw y (List.mem_filter.1 hy).1, fun y hy => ?_⟩
          rw [List.mem_filter, HGB.out y]
          exact ⟨fun h => h.2, fun h => ⟨(HLS.out.all y hy).2 h.1, h⟩⟩)
        have HRO : Hid (Rs O) := hid (by rw [← HO.out]; exact List.Pairwise.sublist List.filter_sublist HRS.out)
        obtain ⟨oa, oc, hve, hvp, _, _⟩ := hVZ.px (d := []) (fun z hz => by rw [row_len]; exact (HLO.out.idw z hz).1)
        subst hve
        have HVP : Hid (Pa wr oa oc O) := hvp
        have HBZ : Hid (Below G w wr) := hid (HBF.out _ hVZ.below)
        clear hVZ hvp
        go_wp2
        go_ret2
        exact ⟨by rw [HG.out]; exact HBZ.out, .inl ⟨⟨HOK.out, HIF.out⟩, oa, oc, O, rfl, HLO.out, HRO.out, HVP.out⟩⟩
  · have HNO : Hid (¬ (OkG l ∧ ∀ y ∈ F, y ∈ ids l)) := fun h => hall ⟨by
        rcases HEC.out with ⟨_, h1⟩ | ⟨h1, _⟩
        · exact h1
        · exact absurd h.1 h1, HBA.out.2 h.2⟩
    have hcase : ec = 80 ∨ (ec = 0 ∧ ba = false) := by
      rcases HEC.out with ⟨_, h1⟩ | ⟨_, h1⟩
      · subst h1
        cases ba with
        | false => exact .inr ⟨rfl, rfl⟩
        | true => exact absurd ⟨rfl, rfl⟩ hall
      · exact .inl h1
    clear hall HEC HBA
    rcases hcase with rfl | ⟨rfl, rfl⟩
    all_goals
      go_wp2
      go_ret2
      exact ⟨by rw [HG.out]; exact HB2.out, .inr ⟨HNO.out, rfl⟩⟩
end Go.Proofs.YtjgjeedablgmeaaDoor
