import Derived.Test.YtikmbjfambjmaaaGreatDoorMf21
import Derived.Test.YtikmbjfambjmaaaGreatDoorMf04
namespace Go.Proofs.YtikmbjfambjmaaaGreatDoor.Gr
open Go.RowKit
set_option linter.unusedVariables false
set_option linter.unusedSimpArgs false
structure Qc (H H2 b oi ok : Nat) (X Y : List Value) (ki kk : Int) (ai : Option Addr) (ni ci : Nat) (ak : Option Addr) (nk ck : Nat) (Si Sk : ByteArray) (W : World) : Prop where
  rx : W.rangeAt H 0 X
  ry : W.rangeAt H2 0 Y
  i0 : W.cell? ⟨b, oi, none⟩ = some (.int .i64 ki)
  i1 : W.cell? ⟨b, oi + 1, none⟩ = some (.slice ai ni ci)
  k0 : W.cell? ⟨b, ok, none⟩ = some (.int .i64 kk)
  k1 : W.cell? ⟨b, ok + 1, none⟩ = some (.slice ak nk ck)
  si : (convert 26 9 (.slice ai ni ci)).run Tryz.prog W = .ok (.string Si) W
  sk : (convert 26 9 (.slice ak nk ck)).run Tryz.prog W = .ok (.string Sk) W
def PostC5 (os : List Oj) (w : World) (e : Ending) (w' : World) : Prop := ∃ b, e = .returned (.bool b) ∧ Below w.heap.size w w' ∧ (b = false → NoC os)
def Pr (o p : Oj) : Prop := oer o = 0 → oer p = 0 → oid o = oid p → o.k = p.k ∧ Lib.bytesOf o.zs = Lib.bytesOf p.zs
theorem noC_of {os : List Oj} (h : ∀ i, i < os.length → ∀ k, k < i → Pr (os.getD i dO) (os.getD k dO)) : NoC os := fun i j hi hj e1 e2 e3 => by
  rcases Nat.lt_trichotomy i j with h' | h' | h'
  · have := h j hj i h' e2 e1 e3.symm
    exact ⟨this.1.symm, this.2.symm⟩
  · rw [h']; exact ⟨rfl, rfl⟩
  · exact h i hi j h' e1 e2 e3
set_option maxRecDepth 20000 in
set_option maxHeartbeats 8000000 in
theorem clash_any (a : Option Addr) (cap : Nat) (os : List Oj) (w : World) (hO : Ot w a cap os) :
    Calls Tryz.prog 5 #[.slice a os.length cap] w (PostC5 os w) := by
  obtain ⟨n, HN⟩ : ∃ n, Hid (os.length = n) := ⟨_, rfl⟩
  have hnn : n ≤ 60 := by rw [← HN.out]; exact hO.few
  obtain ⟨K2, HK2⟩ : ∃ K, Hid (w.heap.size = K) := ⟨_, rfl⟩
  have HOW : Hid (Ow K2 w a cap os) := hid (by rw [← HK2.out]; exact ow_of hO)
  obtain ⟨zr, HZ⟩ : ∃ zr : Array Value, Hid ((row .u8 z20).toArray = zr) := ⟨_, rfl⟩
  have hz23 : ∀ w : World, (zeroValue 23).run Tryz.prog w = .ok (.agg zr) w := fun w => by rw [← HZ.out]; kernel_rfl
  rw [HN.out]
  clear hO
  go_enter Tryz.func5, Tryz.ntmps5
  go_wp2_with fail
  go_loopg [3] n (fun g iv W => ∃ i : Nat, iv = .int .i64 i ∧ g = n - i ∧ i ≤ n ∧ Hid (Below K2 w W) ∧ Hid (∀ i', i' < i → ∀ k, k < i' → Pr (os.getD i' dO) (os.getD k dO)))
  case atStart => exact ⟨0, rfl, rfl, Nat.zero_le _, hid (Below.refl _ _), hid (fun i' h => by omega)⟩
  case round =>
    obtain ⟨i, rfl, hg2, hin2, HB, HPR⟩ := hrel
    by_cases hlt2 : i < n
    · have hlti2 : (i : Int) < (n : Int) := by omega
      obtain ⟨b, off, ha, hr, hom⟩ := HOW.out.at HB.out (i := i) (by rw [HN.out]; exact hlt2)
      subst ha
      obtain ⟨o, HOi⟩ : ∃ o, Hid (os.getD i dO = o) := ⟨_, rfl⟩
      rw [HOi.out] at hr hom
      have HOM : Hid (o ∈ os) := hom
      obtain ⟨RO, HRO⟩ : ∃ S : List Value, Hid (encO o = S) := ⟨_, rfl⟩
      have RR : Hid (wr.rangeAt b (off + i * 2) RO) := hid (by rw [← HRO.out]; exact hr)
      have hi35 : (Tryz.prog.info? 35).map (·.size) = some RO.length := by rw [← HRO.out]; exact info35
      obtain ⟨er, HER⟩ : ∃ er, Hid (oer o = er) := ⟨_, rfl⟩
      obtain ⟨FR, HFR⟩ := rw_ (oid_w o).1
      have hiF := HFR.out.i31
      have E31 : Hid (zr.size = FR.toArray.size) := hid (by rw [← HZ.out]; exact HFR.out.z)
      have CID : Hid (Calls Tryz.prog 6 #[.agg RO.toArray] wr fun e w' => e = .returned (.tuple #[.agg FR.toArray, .int .i64 er]) ∧ Below wr.heap.size wr w') :=
        refID_o o wr ((HOW.out.all wr HB.out).len o hom) ((HOW.out.all wr HB.out).isb o hom) ((HOW.out.all wr HB.out).sl o hom) HFR.out HRO.out HER.out
      have hKr : K2 ≤ wr.heap.size := by rw [← HK2.out]; exact HB.out.size
      clear hr hom
      go_wp2_with (first
        | refine wpList_load_mid rfl 35 _ rfl b (off + i * 2) rfl RO _ RR.out Tryz.underlying35 rfl hi35 ?_
        | fail)
      refine CID.out.mono ?_
      rintro ev w3 ⟨rfl, hb3⟩
      obtain ⟨H, w4, HN4⟩ := nw 23 zr w3 FR
      have hb4 : Below wr.heap.size wr w4 := hb3.trans (HN4.out.below.mono (by rw [← HN4.out.h]; exact hb3.size))
      have HB4 : Hid (Below K2 w w4) := hid (HB.out.trans (hb4.mono hKr))
      have HX4 : Hid (w4.heap[H]? = some (.cells FR.toArray 23 (0, 0))) := hid HN4.out.box
      clear hb3 hb4
      go_wp2_with (first
        | (refine wpList_store_row rfl 23 _ _ rfl w3.heap.size FR.toArray rfl rfl 23 zr HN4.out.d HFR.out.j31 E31.out HFR.out.o ?_; rw [HN4.out.w, HN4.out.h])
        | fail)
      go_loopg [6] i (fun g kv W => ∃ k : Nat, kv = .int .i64 k ∧ g = i - k ∧ k ≤ i ∧ Hid (Below K2 w W) ∧ Hid (W.heap[H]? = some (.cells FR.toArray 23 (0, 0))) ∧ Hid (∀ k', k' < k → Pr o (os.getD k' dO)))
      case atStart => exact ⟨0, rfl, rfl, Nat.zero_le _, HB4, HX4, hid (fun k' h => by omega)⟩
      case round =>
        obtain ⟨k, rfl, hg3, hki, HBk, HXk, HPk⟩ := hrel
        have HNXT : Hid ((∀ k', k' < i → Pr o (os.getD k' dO)) → ∀ i', i' < i + 1 → ∀ k, k < i' → Pr (os.getD i' dO) (os.getD k dO)) := fun h i' hi' k hk => by
          rcases Nat.lt_or_ge i' i with h' | h'
          · exact HPR.out i' h' k hk
          · have e : i' = i := by omega
            rw [e, HOi.out]
            exact h k (by omega)
        by_cases hlt3 : k < i
        · have hlti3 : (k : Int) < (i : Int) := by omega
          by_cases her : er = 0
          · subst her
            have hkn : k < n := by omega
            have hkni : (k : Int) < (n : Int) := by omega
            obtain ⟨b', off', ha', hr', hom'⟩ := HOW.out.at HBk.out (i := k) (by rw [HN.out]; exact hkn)
            cases ha'
            obtain ⟨p, HPi⟩ : ∃ o, Hid (os.getD k dO = o) := ⟨_, rfl⟩
            rw [HPi.out] at hr' hom'
            have HPM : Hid (p ∈ os) := hom'
            have HSTEP : Hid (Pr o p → ∀ k', k' < k + 1 → Pr o (os.getD k' dO)) := fun h k' hk' => by
              rcases Nat.lt_or_ge k' k with h' | h'
              · exact HPk.out k' h'
              · have e : k' = k := by omega
                rw [e, HPi.out]
                exact h
            obtain ⟨RP, HRP⟩ : ∃ S : List Value, Hid (encO p = S) := ⟨_, rfl⟩
            have RRk : Hid (wr.rangeAt b (off + k * 2) RP) := hid (by rw [← HRP.out]; exact hr')
            have hi35k : (Tryz.prog.info? 35).map (·.size) = some RP.length := by rw [← HRP.out]; exact info35
            obtain ⟨fer, HFE⟩ : ∃ er, Hid (oer p = er) := ⟨_, rfl⟩
            obtain ⟨FP, HFP⟩ := rw_ (oid_w p).1
            have hiP := HFP.out.i31
            have E31k : Hid (zr.size = FP.toArray.size) := hid (by rw [← HZ.out]; exact HFP.out.z)
            have CIDk : Hid (Calls Tryz.prog 6 #[.agg RP.toArray] wr fun e w' => e = .returned (.tuple #[.agg FP.toArray, .int .i64 fer]) ∧ Below wr.heap.size wr w') :=
              refID_o p wr ((HOW.out.all wr HBk.out).len p hom') ((HOW.out.all wr HBk.out).isb p hom') ((HOW.out.all wr HBk.out).sl p hom') HFP.out HRP.out HFE.out
            have hKr2 : K2 ≤ wr.heap.size := by rw [← HK2.out]; exact HBk.out.size
            have hHr : H < wr.heap.size := lt_of_some HXk.out
            clear hr' hom'
            go_wp2_with (first
              | refine wpList_load_mid rfl 35 _ rfl b (off + k * 2) rfl RP _ RRk.out Tryz.underlying35 rfl hi35k ?_
              | fail)
            refine CIDk.out.mono ?_
            rintro ev w5 ⟨rfl, hb5⟩
            obtain ⟨H2, w6, HN6⟩ := nw 23 zr w5 FP
            have hb6 : Below wr.heap.size wr w6 := hb5.trans (HN6.out.below.mono (by rw [← HN6.out.h]; exact hb5.size))
            have HB6 : Hid (Below K2 w w6.drew) := hid (below_drewH (HBk.out.trans (hb6.mono hKr2)) 1)
            have HX6 : Hid (w6.drew.heap[H]? = some (.cells FR.toArray 23 (0, 0))) := hid ((hb6.block H hHr).trans HXk.out)
            have HY6 : Hid (w6.drew.heap[H2]? = some (.cells FP.toArray 23 (0, 0))) := hid HN6.out.box
            obtain ⟨ni, HNI⟩ : ∃ n, Hid (o.zs.length = n) := ⟨_, rfl⟩
            obtain ⟨nk, HNK⟩ : ∃ n, Hid (p.zs.length = n) := ⟨_, rfl⟩
            obtain ⟨ki, HKI⟩ : ∃ n, Hid (o.k = n) := ⟨_, rfl⟩
            obtain ⟨kk, HKK⟩ : ∃ n, Hid (p.k = n) := ⟨_, rfl⟩
            obtain ⟨Si, HSi⟩ : ∃ S : ByteArray, Hid ((⟨(Lib.bytesOf o.zs).toArray⟩ : ByteArray) = S) := ⟨_, rfl⟩
            obtain ⟨Sk, HSk⟩ : ∃ S : ByteArray, Hid ((⟨(Lib.bytesOf p.zs).toArray⟩ : ByteArray) = S) := ⟨_, rfl⟩
            have HSE : Hid (Si = Sk → Lib.bytesOf o.zs = Lib.bytesOf p.zs) := fun h => by
              rw [← HSi.out, ← HSk.out] at h
              have := congrArg (fun b : ByteArray => b.data.toList) h
              simpa using this
            have hSd : Qc H H2 b (off + i * 2) (off + k * 2) FR FP ki kk o.a ni o.cap p.a nk p.cap Si Sk w6.drew := by
              obtain ⟨b1, o1, e1, h1, _⟩ := HOW.out.at HB6.out (i := i) (by rw [HN.out]; exact hlt2)
              cases e1
              obtain ⟨b2, o2, e2, h2, _⟩ := HOW.out.at HB6.out (i := k) (by rw [HN.out]; exact hkn)
              cases e2
              rw [HOi.out] at h1
              rw [HPi.out] at h2
              have q1 := cells_O h1
              have q2 := cells_O h2
              have s1 := YtikmbjfambjmaaaGreatDoor.conv_str ((HOW.out.all _ HB6.out).sl o HOM.out)
              have s2 := YtikmbjfambjmaaaGreatDoor.conv_str ((HOW.out.all _ HB6.out).sl p HPM.out)
              rw [HNI.out, HKI.out] at q1
              rw [HNK.out, HKK.out] at q2
              rw [HNI.out, HSi.out] at s1
              rw [HNK.out, HSk.out] at s2
              exact ⟨range_row HX6.out, range_row HY6.out, q1.1, q1.2, q2.1, q2.2, s1, s2⟩
            have HEQ : Hid (∀ V : World, (Op.equalIn 10000 23 (.agg FR.toArray) (.agg FP.toArray)).run Tryz.prog V = .ok (decide (oid o = oid p)) V) := fun V => by rw [← HFR.out.e, ← HFP.out.e]; exact eq41 _ _ (oid_w o).1 (oid_w p).1 V
            clear hb5 hb6
            go_wp2_with (first
              | (refine wpList_store_row rfl 23 _ _ rfl w5.heap.size FP.toArray rfl rfl 23 zr HN6.out.d HFP.out.j31 E31k.out HFP.out.o ?_; rw [HN6.out.w, HN6.out.h])
              | fail)
            refine wp_region_held_drew (S := Qc H H2 b (off + i * 2) (off + k * 2) FR FP ki kk o.a ni o.cap p.a nk p.cap Si Sk) (by kernel_rfl) hSd (fun hHeld => ?_)
            clear hSd
            generalize w6.drew = u0 at hHeld HB6 HX6 HY6 ⊢
            by_cases hfe : fer = 0
            · subst hfe
              by_cases hxy : oid o = oid p
              · have heq : ∀ V : World, (Op.equalIn 10000 23 (.agg FR.toArray) (.agg FP.toArray)).run Tryz.prog V = .ok true V := fun V => by rw [HEQ.out V, decide_eq_true hxy]
                by_cases hkd : ki = kk
                · subst hkd
                  by_cases hsd : Si = Sk
                  · have HPP : Hid (Pr o p) := hid (fun _ _ _ => ⟨by rw [HKI.out, HKK.out], HSE.out hsd⟩)
                    subst hsd
                    refine takeY (i := 0) (v := ?_) hHeld ?_ ?_
                    rotate_left
                    · rintro w' ⟨rx, ry, i0, i1, k0, k1, si, sk⟩; go_simp; rfl
                    try simp only [Act.put, sL]
                    refine takeY (i := 1) (v := .bool true) hHeld ?_ ?_
                    · rintro w' ⟨rx, ry, i0, i1, k0, k1, si, sk⟩; go_simp; try rfl
                    try simp only [Act.put, sL]
                    refine takeY (i := 2) (v := ?_) hHeld ?_ ?_
                    rotate_left
                    · rintro w' ⟨rx, ry, i0, i1, k0, k1, si, sk⟩; go_simp; rfl
                    try simp only [Act.put, sL]
                    refine takeL (i := 3) (v := .agg FR.toArray) rfl (by kernel_rfl) (by kernel_rfl) (by kernel_rfl) (fun _ _ _ h => h) (yieldsIf_load_mid (by kernel_rfl) 23 _ rfl H 0 (by rfl) FR _ (fun w' h => h.rx) Tryz.underlying23 rfl hiF) hHeld ?_
                    try simp only [Act.put, sL]
                    refine takeL (i := 4) (v := .agg FP.toArray) rfl (by kernel_rfl) (by kernel_rfl) (by kernel_rfl) (fun _ _ _ h => h) (yieldsIf_load_mid (by kernel_rfl) 23 _ rfl H2 0 (by rfl) FP _ (fun w' h => h.ry) Tryz.underlying23 rfl hiP) hHeld ?_
                    try simp only [Act.put, sL]
                    refine takeG (i := 5) (v := .bool true) hHeld ?_ ?_
                    · rintro w' ⟨rx, ry, i0, i1, k0, k1, si, sk⟩; go_simp; try rfl
                    try simp only [Act.put, sL]
                    refine takeY (i := 6) (v := ?_) hHeld ?_ ?_
                    rotate_left
                    · rintro w' ⟨rx, ry, i0, i1, k0, k1, si, sk⟩; go_simp; rfl
                    try simp only [Act.put, sL]
                    refine takeY (i := 7) (v := ?_) hHeld ?_ ?_
                    rotate_left
                    · rintro w' ⟨rx, ry, i0, i1, k0, k1, si, sk⟩; go_simp; rfl
                    try simp only [Act.put, sL]
                    refine takeG (i := 8) (v := ?_) hHeld ?_ ?_
                    rotate_left
                    · rintro w' ⟨rx, ry, i0, i1, k0, k1, si, sk⟩; go_simp; rfl
                    try simp only [Act.put, sL]
                    refine takeG (i := 9) (v := ?_) hHeld ?_ ?_
                    rotate_left
                    · rintro w' ⟨rx, ry, i0, i1, k0, k1, si, sk⟩; go_simp; rfl
                    try simp only [Act.put, sL]
                    refine takeG (i := 10) (v := ?_) hHeld ?_ ?_
                    rotate_left
                    · rintro w' ⟨rx, ry, i0, i1, k0, k1, si, sk⟩; go_simp; rfl
                    try simp only [Act.put, sL]
                    refine takeG (i := 11) (v := ?_) hHeld ?_ ?_
                    rotate_left
                    · rintro w' ⟨rx, ry, i0, i1, k0, k1, si, sk⟩; go_simp; rfl
                    try simp only [Act.put, sL]
                    refine takeG (i := 12) (v := ?_) hHeld ?_ ?_
                    rotate_left
                    · rintro w' ⟨rx, ry, i0, i1, k0, k1, si, sk⟩; go_simp; rfl
                    try simp only [Act.put, sL]
                    refine takeG (i := 13) (v := ?_) hHeld ?_ ?_
                    rotate_left
                    · rintro w' ⟨rx, ry, i0, i1, k0, k1, si, sk⟩; go_simp; rfl
                    try simp only [Act.put, sL]
                    refine takeG (i := 14) (v := ?_) hHeld ?_ ?_
                    rotate_left
                    · rintro w' ⟨rx, ry, i0, i1, k0, k1, si, sk⟩; go_simp; rfl
                    try simp only [Act.put, sL]
                    refine takeG (i := 15) (v := ?_) hHeld ?_ ?_
                    rotate_left
                    · rintro w' ⟨rx, ry, i0, i1, k0, k1, si, sk⟩; go_simp; rfl
                    try simp only [Act.put, sL]
                    refine takeG (i := 16) (v := ?_) hHeld ?_ ?_
                    rotate_left
                    · rintro w' ⟨rx, ry, i0, i1, k0, k1, si, sk⟩; go_simp; rfl
                    try simp only [Act.put, sL]
                    refine takeG (i := 17) (v := ?_) hHeld ?_ ?_
                    rotate_left
                    · rintro w' ⟨rx, ry, i0, i1, k0, k1, si, sk⟩; go_simp; rfl
                    try simp only [Act.put, sL]
                    refine takeG (i := 18) (v := .bool false) hHeld ?_ ?_
                    · rintro w' ⟨rx, ry, i0, i1, k0, k1, si, sk⟩; go_simp; try rfl
                    try simp only [Act.put, sL]
                    refine takeG (i := 19) (v := ?_) hHeld ?_ ?_
                    rotate_left
                    · rintro w' ⟨rx, ry, i0, i1, k0, k1, si, sk⟩; go_simp; rfl
                    try simp only [Act.put, sL]
                    refine takeG (i := 20) (v := ?_) hHeld ?_ ?_
                    rotate_left
                    · rintro w' ⟨rx, ry, i0, i1, k0, k1, si, sk⟩; go_simp; rfl
                    try simp only [Act.put, sL]
                    refine takeG (i := 21) (v := ?_) hHeld ?_ ?_
                    rotate_left
                    · rintro w' ⟨rx, ry, i0, i1, k0, k1, si, sk⟩; go_simp; rfl
                    try simp only [Act.put, sL]
                    refine takeG (i := 22) (v := ?_) hHeld ?_ ?_
                    rotate_left
                    · rintro w' ⟨rx, ry, i0, i1, k0, k1, si, sk⟩; go_simp; rfl
                    try simp only [Act.put, sL]
                    refine takeG (i := 23) (v := ?_) hHeld ?_ ?_
                    rotate_left
                    · rintro w' ⟨rx, ry, i0, i1, k0, k1, si, sk⟩; go_simp; rfl
                    try simp only [Act.put, sL]
                    refine takeG (i := 24) (v := ?_) hHeld ?_ ?_
                    rotate_left
                    · rintro w' ⟨rx, ry, i0, i1, k0, k1, si, sk⟩; go_simp; rfl
                    try simp only [Act.put, sL]
                    refine takeL (i := 25) (v := .string Si) rfl (by kernel_rfl) (by kernel_rfl) (by kernel_rfl) (fun _ _ _ h => h) (Or.inl ⟨by kernel_rfl, fun w' h => exec_conv rfl rfl h.si⟩) hHeld ?_
                    try simp only [Act.put, sL]
                    refine takeG (i := 26) (v := ?_) hHeld ?_ ?_
                    rotate_left
                    · rintro w' ⟨rx, ry, i0, i1, k0, k1, si, sk⟩; go_simp; rfl
                    try simp only [Act.put, sL]
                    refine takeG (i := 27) (v := ?_) hHeld ?_ ?_
                    rotate_left
                    · rintro w' ⟨rx, ry, i0, i1, k0, k1, si, sk⟩; go_simp; rfl
                    try simp only [Act.put, sL]
                    refine takeG (i := 28) (v := ?_) hHeld ?_ ?_
                    rotate_left
                    · rintro w' ⟨rx, ry, i0, i1, k0, k1, si, sk⟩; go_simp; rfl
                    try simp only [Act.put, sL]
                    refine takeG (i := 29) (v := ?_) hHeld ?_ ?_
                    rotate_left
                    · rintro w' ⟨rx, ry, i0, i1, k0, k1, si, sk⟩; go_simp; rfl
                    try simp only [Act.put, sL]
                    refine takeG (i := 30) (v := ?_) hHeld ?_ ?_
                    rotate_left
                    · rintro w' ⟨rx, ry, i0, i1, k0, k1, si, sk⟩; go_simp; rfl
                    try simp only [Act.put, sL]
                    refine takeL (i := 31) (v := .string Si) rfl (by kernel_rfl) (by kernel_rfl) (by kernel_rfl) (fun _ _ _ h => h) (Or.inl ⟨by kernel_rfl, fun w' h => exec_conv rfl rfl h.sk⟩) hHeld ?_
                    try simp only [Act.put, sL]
                    refine takeG (i := 32) (v := .bool false) hHeld ?_ ?_
                    · rintro w' ⟨rx, ry, i0, i1, k0, k1, si, sk⟩; go_simp; try rfl
                    try simp only [Act.put, sL]
                    refine takeG (i := 33) (v := ?_) hHeld ?_ ?_
                    rotate_left
                    · rintro w' ⟨rx, ry, i0, i1, k0, k1, si, sk⟩; go_simp; rfl
                    try simp only [Act.put, sL]
                    refine takeY (i := 34) (v := ?_) hHeld ?_ ?_
                    rotate_left
                    · rintro w' ⟨rx, ry, i0, i1, k0, k1, si, sk⟩; go_simp; rfl
                    try simp only [Act.put, sL]
                    refine wpAnyH_done (by kernel_rfl) ?_ _
                    clear hHeld
                    go_wp2
                    go_roundg (i - (k + 1))
                    case measure => omega
                    case rel => exact ⟨k + 1, by go_num, rfl, by omega, HB6, HX6, hid (HSTEP.out HPP.out)⟩
                  · have hsb : (Si.toList == Sk.toList) = false := by
                      rw [beq_eq_false_iff_ne]
                      intro e
                      exact hsd (ba_ext e)
                    refine takeY (i := 0) (v := ?_) hHeld ?_ ?_
                    rotate_left
                    · rintro w' ⟨rx, ry, i0, i1, k0, k1, si, sk⟩; go_simp; rfl
                    try simp only [Act.put, sL]
                    refine takeY (i := 1) (v := .bool true) hHeld ?_ ?_
                    · rintro w' ⟨rx, ry, i0, i1, k0, k1, si, sk⟩; go_simp; try rfl
                    try simp only [Act.put, sL]
                    refine takeY (i := 2) (v := ?_) hHeld ?_ ?_
                    rotate_left
                    · rintro w' ⟨rx, ry, i0, i1, k0, k1, si, sk⟩; go_simp; rfl
                    try simp only [Act.put, sL]
                    refine takeL (i := 3) (v := .agg FR.toArray) rfl (by kernel_rfl) (by kernel_rfl) (by kernel_rfl) (fun _ _ _ h => h) (yieldsIf_load_mid (by kernel_rfl) 23 _ rfl H 0 (by rfl) FR _ (fun w' h => h.rx) Tryz.underlying23 rfl hiF) hHeld ?_
                    try simp only [Act.put, sL]
                    refine takeL (i := 4) (v := .agg FP.toArray) rfl (by kernel_rfl) (by kernel_rfl) (by kernel_rfl) (fun _ _ _ h => h) (yieldsIf_load_mid (by kernel_rfl) 23 _ rfl H2 0 (by rfl) FP _ (fun w' h => h.ry) Tryz.underlying23 rfl hiP) hHeld ?_
                    try simp only [Act.put, sL]
                    refine takeG (i := 5) (v := .bool true) hHeld ?_ ?_
                    · rintro w' ⟨rx, ry, i0, i1, k0, k1, si, sk⟩; go_simp; try rfl
                    try simp only [Act.put, sL]
                    refine takeY (i := 6) (v := ?_) hHeld ?_ ?_
                    rotate_left
                    · rintro w' ⟨rx, ry, i0, i1, k0, k1, si, sk⟩; go_simp; rfl
                    try simp only [Act.put, sL]
                    refine takeY (i := 7) (v := ?_) hHeld ?_ ?_
                    rotate_left
                    · rintro w' ⟨rx, ry, i0, i1, k0, k1, si, sk⟩; go_simp; rfl
                    try simp only [Act.put, sL]
                    refine takeG (i := 8) (v := ?_) hHeld ?_ ?_
                    rotate_left
                    · rintro w' ⟨rx, ry, i0, i1, k0, k1, si, sk⟩; go_simp; rfl
                    try simp only [Act.put, sL]
                    refine takeG (i := 9) (v := ?_) hHeld ?_ ?_
                    rotate_left
                    · rintro w' ⟨rx, ry, i0, i1, k0, k1, si, sk⟩; go_simp; rfl
                    try simp only [Act.put, sL]
                    refine takeG (i := 10) (v := ?_) hHeld ?_ ?_
                    rotate_left
                    · rintro w' ⟨rx, ry, i0, i1, k0, k1, si, sk⟩; go_simp; rfl
                    try simp only [Act.put, sL]
                    refine takeG (i := 11) (v := ?_) hHeld ?_ ?_
                    rotate_left
                    · rintro w' ⟨rx, ry, i0, i1, k0, k1, si, sk⟩; go_simp; rfl
                    try simp only [Act.put, sL]
                    refine takeG (i := 12) (v := ?_) hHeld ?_ ?_
                    rotate_left
                    · rintro w' ⟨rx, ry, i0, i1, k0, k1, si, sk⟩; go_simp; rfl
                    try simp only [Act.put, sL]
                    refine takeG (i := 13) (v := ?_) hHeld ?_ ?_
                    rotate_left
                    · rintro w' ⟨rx, ry, i0, i1, k0, k1, si, sk⟩; go_simp; rfl
                    try simp only [Act.put, sL]
                    refine takeG (i := 14) (v := ?_) hHeld ?_ ?_
                    rotate_left
                    · rintro w' ⟨rx, ry, i0, i1, k0, k1, si, sk⟩; go_simp; rfl
                    try simp only [Act.put, sL]
                    refine takeG (i := 15) (v := ?_) hHeld ?_ ?_
                    rotate_left
                    · rintro w' ⟨rx, ry, i0, i1, k0, k1, si, sk⟩; go_simp; rfl
                    try simp only [Act.put, sL]
                    refine takeG (i := 16) (v := ?_) hHeld ?_ ?_
                    rotate_left
                    · rintro w' ⟨rx, ry, i0, i1, k0, k1, si, sk⟩; go_simp; rfl
                    try simp only [Act.put, sL]
                    refine takeG (i := 17) (v := ?_) hHeld ?_ ?_
                    rotate_left
                    · rintro w' ⟨rx, ry, i0, i1, k0, k1, si, sk⟩; go_simp; rfl
                    try simp only [Act.put, sL]
                    refine takeG (i := 18) (v := .bool false) hHeld ?_ ?_
                    · rintro w' ⟨rx, ry, i0, i1, k0, k1, si, sk⟩; go_simp; try rfl
                    try simp only [Act.put, sL]
                    refine takeG (i := 19) (v := ?_) hHeld ?_ ?_
                    rotate_left
                    · rintro w' ⟨rx, ry, i0, i1, k0, k1, si, sk⟩; go_simp; rfl
                    try simp only [Act.put, sL]
                    refine takeG (i := 20) (v := ?_) hHeld ?_ ?_
                    rotate_left
                    · rintro w' ⟨rx, ry, i0, i1, k0, k1, si, sk⟩; go_simp; rfl
                    try simp only [Act.put, sL]
                    refine takeG (i := 21) (v := ?_) hHeld ?_ ?_
                    rotate_left
                    · rintro w' ⟨rx, ry, i0, i1, k0, k1, si, sk⟩; go_simp; rfl
                    try simp only [Act.put, sL]
                    refine takeG (i := 22) (v := ?_) hHeld ?_ ?_
                    rotate_left
                    · rintro w' ⟨rx, ry, i0, i1, k0, k1, si, sk⟩; go_simp; rfl
                    try simp only [Act.put, sL]
                    refine takeG (i := 23) (v := ?_) hHeld ?_ ?_
                    rotate_left
                    · rintro w' ⟨rx, ry, i0, i1, k0, k1, si, sk⟩; go_simp; rfl
                    try simp only [Act.put, sL]
                    refine takeG (i := 24) (v := ?_) hHeld ?_ ?_
                    rotate_left
                    · rintro w' ⟨rx, ry, i0, i1, k0, k1, si, sk⟩; go_simp; rfl
                    try simp only [Act.put, sL]
                    refine takeL (i := 25) (v := .string Si) rfl (by kernel_rfl) (by kernel_rfl) (by kernel_rfl) (fun _ _ _ h => h) (Or.inl ⟨by kernel_rfl, fun w' h => exec_conv rfl rfl h.si⟩) hHeld ?_
                    try simp only [Act.put, sL]
                    refine takeG (i := 26) (v := ?_) hHeld ?_ ?_
                    rotate_left
                    · rintro w' ⟨rx, ry, i0, i1, k0, k1, si, sk⟩; go_simp; rfl
                    try simp only [Act.put, sL]
                    refine takeG (i := 27) (v := ?_) hHeld ?_ ?_
                    rotate_left
                    · rintro w' ⟨rx, ry, i0, i1, k0, k1, si, sk⟩; go_simp; rfl
                    try simp only [Act.put, sL]
                    refine takeG (i := 28) (v := ?_) hHeld ?_ ?_
                    rotate_left
                    · rintro w' ⟨rx, ry, i0, i1, k0, k1, si, sk⟩; go_simp; rfl
                    try simp only [Act.put, sL]
                    refine takeG (i := 29) (v := ?_) hHeld ?_ ?_
                    rotate_left
                    · rintro w' ⟨rx, ry, i0, i1, k0, k1, si, sk⟩; go_simp; rfl
                    try simp only [Act.put, sL]
                    refine takeG (i := 30) (v := ?_) hHeld ?_ ?_
                    rotate_left
                    · rintro w' ⟨rx, ry, i0, i1, k0, k1, si, sk⟩; go_simp; rfl
                    try simp only [Act.put, sL]
                    refine takeL (i := 31) (v := .string Sk) rfl (by kernel_rfl) (by kernel_rfl) (by kernel_rfl) (fun _ _ _ h => h) (Or.inl ⟨by kernel_rfl, fun w' h => exec_conv rfl rfl h.sk⟩) hHeld ?_
                    try simp only [Act.put, sL]
                    refine takeG (i := 32) (v := .bool true) hHeld ?_ ?_
                    · rintro w' ⟨rx, ry, i0, i1, k0, k1, si, sk⟩; go_simp; try rfl
                    try simp only [Act.put, sL]
                    refine takeG (i := 33) (v := ?_) hHeld ?_ ?_
                    rotate_left
                    · rintro w' ⟨rx, ry, i0, i1, k0, k1, si, sk⟩; go_simp; rfl
                    try simp only [Act.put, sL]
                    refine takeY (i := 34) (v := ?_) hHeld ?_ ?_
                    rotate_left
                    · rintro w' ⟨rx, ry, i0, i1, k0, k1, si, sk⟩; go_simp; rfl
                    try simp only [Act.put, sL]
                    refine wpAnyH_done (by kernel_rfl) ?_ _
                    clear hHeld
                    go_wp2
                    go_ret
                    exact ⟨true, rfl, by rw [HK2.out]; exact HB6.out, fun h => by cases h⟩
                · have hkb : (ki == kk) = false := by rw [beq_eq_false_iff_ne]; exact hkd
                  refine takeY (i := 0) (v := ?_) hHeld ?_ ?_
                  rotate_left
                  · rintro w' ⟨rx, ry, i0, i1, k0, k1, si, sk⟩; go_simp; rfl
                  try simp only [Act.put, sL]
                  refine takeY (i := 1) (v := .bool true) hHeld ?_ ?_
                  · rintro w' ⟨rx, ry, i0, i1, k0, k1, si, sk⟩; go_simp; try rfl
                  try simp only [Act.put, sL]
                  refine takeY (i := 2) (v := ?_) hHeld ?_ ?_
                  rotate_left
                  · rintro w' ⟨rx, ry, i0, i1, k0, k1, si, sk⟩; go_simp; rfl
                  try simp only [Act.put, sL]
                  refine takeL (i := 3) (v := .agg FR.toArray) rfl (by kernel_rfl) (by kernel_rfl) (by kernel_rfl) (fun _ _ _ h => h) (yieldsIf_load_mid (by kernel_rfl) 23 _ rfl H 0 (by rfl) FR _ (fun w' h => h.rx) Tryz.underlying23 rfl hiF) hHeld ?_
                  try simp only [Act.put, sL]
                  refine takeL (i := 4) (v := .agg FP.toArray) rfl (by kernel_rfl) (by kernel_rfl) (by kernel_rfl) (fun _ _ _ h => h) (yieldsIf_load_mid (by kernel_rfl) 23 _ rfl H2 0 (by rfl) FP _ (fun w' h => h.ry) Tryz.underlying23 rfl hiP) hHeld ?_
                  try simp only [Act.put, sL]
                  refine takeG (i := 5) (v := .bool true) hHeld ?_ ?_
                  · rintro w' ⟨rx, ry, i0, i1, k0, k1, si, sk⟩; go_simp; try rfl
                  try simp only [Act.put, sL]
                  refine takeY (i := 6) (v := ?_) hHeld ?_ ?_
                  rotate_left
                  · rintro w' ⟨rx, ry, i0, i1, k0, k1, si, sk⟩; go_simp; rfl
                  try simp only [Act.put, sL]
                  refine takeY (i := 7) (v := ?_) hHeld ?_ ?_
                  rotate_left
                  · rintro w' ⟨rx, ry, i0, i1, k0, k1, si, sk⟩; go_simp; rfl
                  try simp only [Act.put, sL]
                  refine takeG (i := 8) (v := ?_) hHeld ?_ ?_
                  rotate_left
                  · rintro w' ⟨rx, ry, i0, i1, k0, k1, si, sk⟩; go_simp; rfl
                  try simp only [Act.put, sL]
                  refine takeG (i := 9) (v := ?_) hHeld ?_ ?_
                  rotate_left
                  · rintro w' ⟨rx, ry, i0, i1, k0, k1, si, sk⟩; go_simp; rfl
                  try simp only [Act.put, sL]
                  refine takeG (i := 10) (v := ?_) hHeld ?_ ?_
                  rotate_left
                  · rintro w' ⟨rx, ry, i0, i1, k0, k1, si, sk⟩; go_simp; rfl
                  try simp only [Act.put, sL]
                  refine takeG (i := 11) (v := ?_) hHeld ?_ ?_
                  rotate_left
                  · rintro w' ⟨rx, ry, i0, i1, k0, k1, si, sk⟩; go_simp; rfl
                  try simp only [Act.put, sL]
                  refine takeG (i := 12) (v := ?_) hHeld ?_ ?_
                  rotate_left
                  · rintro w' ⟨rx, ry, i0, i1, k0, k1, si, sk⟩; go_simp; rfl
                  try simp only [Act.put, sL]
                  refine takeG (i := 13) (v := ?_) hHeld ?_ ?_
                  rotate_left
                  · rintro w' ⟨rx, ry, i0, i1, k0, k1, si, sk⟩; go_simp; rfl
                  try simp only [Act.put, sL]
                  refine takeG (i := 14) (v := ?_) hHeld ?_ ?_
                  rotate_left
                  · rintro w' ⟨rx, ry, i0, i1, k0, k1, si, sk⟩; go_simp; rfl
                  try simp only [Act.put, sL]
                  refine takeG (i := 15) (v := ?_) hHeld ?_ ?_
                  rotate_left
                  · rintro w' ⟨rx, ry, i0, i1, k0, k1, si, sk⟩; go_simp; rfl
                  try simp only [Act.put, sL]
                  refine takeG (i := 16) (v := ?_) hHeld ?_ ?_
                  rotate_left
                  · rintro w' ⟨rx, ry, i0, i1, k0, k1, si, sk⟩; go_simp; rfl
                  try simp only [Act.put, sL]
                  refine takeG (i := 17) (v := ?_) hHeld ?_ ?_
                  rotate_left
                  · rintro w' ⟨rx, ry, i0, i1, k0, k1, si, sk⟩; go_simp; rfl
                  try simp only [Act.put, sL]
                  refine takeG (i := 18) (v := .bool true) hHeld ?_ ?_
                  · rintro w' ⟨rx, ry, i0, i1, k0, k1, si, sk⟩; go_simp; try rfl
                  try simp only [Act.put, sL]
                  refine takeG (i := 19) (v := ?_) hHeld ?_ ?_
                  rotate_left
                  · rintro w' ⟨rx, ry, i0, i1, k0, k1, si, sk⟩; go_simp; rfl
                  try simp only [Act.put, sL]
                  refine takeN (i := 20) hHeld ?_
                  try simp only [Act.put, sL]
                  refine takeN (i := 21) hHeld ?_
                  try simp only [Act.put, sL]
                  refine takeN (i := 22) hHeld ?_
                  try simp only [Act.put, sL]
                  refine takeN (i := 23) hHeld ?_
                  try simp only [Act.put, sL]
                  refine takeN (i := 24) hHeld ?_
                  try simp only [Act.put, sL]
                  refine takeN (i := 25) hHeld ?_
                  try simp only [Act.put, sL]
                  refine takeN (i := 26) hHeld ?_
                  try simp only [Act.put, sL]
                  refine takeN (i := 27) hHeld ?_
                  try simp only [Act.put, sL]
                  refine takeN (i := 28) hHeld ?_
                  try simp only [Act.put, sL]
                  refine takeN (i := 29) hHeld ?_
                  try simp only [Act.put, sL]
                  refine takeN (i := 30) hHeld ?_
                  try simp only [Act.put, sL]
                  refine takeN (i := 31) hHeld ?_
                  try simp only [Act.put, sL]
                  refine takeN (i := 32) hHeld ?_
                  try simp only [Act.put, sL]
                  refine takeG (i := 33) (v := ?_) hHeld ?_ ?_
                  rotate_left
                  · rintro w' ⟨rx, ry, i0, i1, k0, k1, si, sk⟩; go_simp; rfl
                  try simp only [Act.put, sL]
                  refine takeY (i := 34) (v := ?_) hHeld ?_ ?_
                  rotate_left
                  · rintro w' ⟨rx, ry, i0, i1, k0, k1, si, sk⟩; go_simp; rfl
                  try simp only [Act.put, sL]
                  refine wpAnyH_done (by kernel_rfl) ?_ _
                  clear hHeld
                  go_wp2
                  go_ret
                  exact ⟨true, rfl, by rw [HK2.out]; exact HB6.out, fun h => by cases h⟩
              · have heq : ∀ V : World, (Op.equalIn 10000 23 (.agg FR.toArray) (.agg FP.toArray)).run Tryz.prog V = .ok false V := fun V => by rw [HEQ.out V, decide_eq_false hxy]
                have HPP : Hid (Pr o p) := hid (fun _ _ h => absurd h hxy)
                clear hxy
                refine takeY (i := 0) (v := ?_) hHeld ?_ ?_
                rotate_left
                · rintro w' ⟨rx, ry, i0, i1, k0, k1, si, sk⟩; go_simp; rfl
                try simp only [Act.put, sL]
                refine takeY (i := 1) (v := .bool true) hHeld ?_ ?_
                · rintro w' ⟨rx, ry, i0, i1, k0, k1, si, sk⟩; go_simp; try rfl
                try simp only [Act.put, sL]
                refine takeY (i := 2) (v := ?_) hHeld ?_ ?_
                rotate_left
                · rintro w' ⟨rx, ry, i0, i1, k0, k1, si, sk⟩; go_simp; rfl
                try simp only [Act.put, sL]
                refine takeL (i := 3) (v := .agg FR.toArray) rfl (by kernel_rfl) (by kernel_rfl) (by kernel_rfl) (fun _ _ _ h => h) (yieldsIf_load_mid (by kernel_rfl) 23 _ rfl H 0 (by rfl) FR _ (fun w' h => h.rx) Tryz.underlying23 rfl hiF) hHeld ?_
                try simp only [Act.put, sL]
                refine takeL (i := 4) (v := .agg FP.toArray) rfl (by kernel_rfl) (by kernel_rfl) (by kernel_rfl) (fun _ _ _ h => h) (yieldsIf_load_mid (by kernel_rfl) 23 _ rfl H2 0 (by rfl) FP _ (fun w' h => h.ry) Tryz.underlying23 rfl hiP) hHeld ?_
                try simp only [Act.put, sL]
                refine takeG (i := 5) (v := .bool false) hHeld ?_ ?_
                · rintro w' ⟨rx, ry, i0, i1, k0, k1, si, sk⟩; go_simp; try rfl
                try simp only [Act.put, sL]
                refine takeY (i := 6) (v := ?_) hHeld ?_ ?_
                rotate_left
                · rintro w' ⟨rx, ry, i0, i1, k0, k1, si, sk⟩; go_simp; rfl
                try simp only [Act.put, sL]
                refine takeY (i := 7) (v := ?_) hHeld ?_ ?_
                rotate_left
                · rintro w' ⟨rx, ry, i0, i1, k0, k1, si, sk⟩; go_simp; rfl
                try simp only [Act.put, sL]
                refine takeN (i := 8) hHeld ?_
                try simp only [Act.put, sL]
                refine takeN (i := 9) hHeld ?_
                try simp only [Act.put, sL]
                refine takeN (i := 10) hHeld ?_
                try simp only [Act.put, sL]
                refine takeN (i := 11) hHeld ?_
                try simp only [Act.put, sL]
                refine takeN (i := 12) hHeld ?_
                try simp only [Act.put, sL]
                refine takeN (i := 13) hHeld ?_
                try simp only [Act.put, sL]
                refine takeN (i := 14) hHeld ?_
                try simp only [Act.put, sL]
                refine takeN (i := 15) hHeld ?_
                try simp only [Act.put, sL]
                refine takeN (i := 16) hHeld ?_
                try simp only [Act.put, sL]
                refine takeN (i := 17) hHeld ?_
                try simp only [Act.put, sL]
                refine takeN (i := 18) hHeld ?_
                try simp only [Act.put, sL]
                refine takeN (i := 19) hHeld ?_
                try simp only [Act.put, sL]
                refine takeN (i := 20) hHeld ?_
                try simp only [Act.put, sL]
                refine takeN (i := 21) hHeld ?_
                try simp only [Act.put, sL]
                refine takeN (i := 22) hHeld ?_
                try simp only [Act.put, sL]
                refine takeN (i := 23) hHeld ?_
                try simp only [Act.put, sL]
                refine takeN (i := 24) hHeld ?_
                try simp only [Act.put, sL]
                refine takeN (i := 25) hHeld ?_
                try simp only [Act.put, sL]
                refine takeN (i := 26) hHeld ?_
                try simp only [Act.put, sL]
                refine takeN (i := 27) hHeld ?_
                try simp only [Act.put, sL]
                refine takeN (i := 28) hHeld ?_
                try simp only [Act.put, sL]
                refine takeN (i := 29) hHeld ?_
                try simp only [Act.put, sL]
                refine takeN (i := 30) hHeld ?_
                try simp only [Act.put, sL]
                refine takeN (i := 31) hHeld ?_
                try simp only [Act.put, sL]
                refine takeN (i := 32) hHeld ?_
                try simp only [Act.put, sL]
                refine takeN (i := 33) hHeld ?_
                try simp only [Act.put, sL]
                refine takeY (i := 34) (v := ?_) hHeld ?_ ?_
                rotate_left
                · rintro w' ⟨rx, ry, i0, i1, k0, k1, si, sk⟩; go_simp; rfl
                try simp only [Act.put, sL]
                refine wpAnyH_done (by kernel_rfl) ?_ _
                clear hHeld
                go_wp2
                go_roundg (i - (k + 1))
                case measure => omega
                case rel => exact ⟨k + 1, by go_num, rfl, by omega, HB6, HX6, hid (HSTEP.out HPP.out)⟩
            · have hfb : (fer == 0) = false := by rw [beq_eq_false_iff_ne]; exact hfe
              have HPP : Hid (Pr o p) := hid (fun _ h _ => absurd (by rw [← HFE.out]; exact h) hfe)
              refine takeY (i := 0) (v := ?_) hHeld ?_ ?_
              rotate_left
              · rintro w' ⟨rx, ry, i0, i1, k0, k1, si, sk⟩; go_simp; rfl
              try simp only [Act.put, sL]
              refine takeY (i := 1) (v := .bool false) hHeld ?_ ?_
              · rintro w' ⟨rx, ry, i0, i1, k0, k1, si, sk⟩; go_simp; try rfl
              try simp only [Act.put, sL]
              refine takeY (i := 2) (v := ?_) hHeld ?_ ?_
              rotate_left
              · rintro w' ⟨rx, ry, i0, i1, k0, k1, si, sk⟩; go_simp; rfl
              try simp only [Act.put, sL]
              refine takeN (i := 3) hHeld ?_
              try simp only [Act.put, sL]
              refine takeN (i := 4) hHeld ?_
              try simp only [Act.put, sL]
              refine takeN (i := 5) hHeld ?_
              try simp only [Act.put, sL]
              refine takeY (i := 6) (v := ?_) hHeld ?_ ?_
              rotate_left
              · rintro w' ⟨rx, ry, i0, i1, k0, k1, si, sk⟩; go_simp; rfl
              try simp only [Act.put, sL]
              refine takeY (i := 7) (v := ?_) hHeld ?_ ?_
              rotate_left
              · rintro w' ⟨rx, ry, i0, i1, k0, k1, si, sk⟩; go_simp; rfl
              try simp only [Act.put, sL]
              refine takeN (i := 8) hHeld ?_
              try simp only [Act.put, sL]
              refine takeN (i := 9) hHeld ?_
              try simp only [Act.put, sL]
              refine takeN (i := 10) hHeld ?_
              try simp only [Act.put, sL]
              refine takeN (i := 11) hHeld ?_
              try simp only [Act.put, sL]
              refine takeN (i := 12) hHeld ?_
              try simp only [Act.put, sL]
              refine takeN (i := 13) hHeld ?_
              try simp only [Act.put, sL]
              refine takeN (i := 14) hHeld ?_
              try simp only [Act.put, sL]
              refine takeN (i := 15) hHeld ?_
              try simp only [Act.put, sL]
              refine takeN (i := 16) hHeld ?_
              try simp only [Act.put, sL]
              refine takeN (i := 17) hHeld ?_
              try simp only [Act.put, sL]
              refine takeN (i := 18) hHeld ?_
              try simp only [Act.put, sL]
              refine takeN (i := 19) hHeld ?_
              try simp only [Act.put, sL]
              refine takeN (i := 20) hHeld ?_
              try simp only [Act.put, sL]
              refine takeN (i := 21) hHeld ?_
              try simp only [Act.put, sL]
              refine takeN (i := 22) hHeld ?_
              try simp only [Act.put, sL]
              refine takeN (i := 23) hHeld ?_
              try simp only [Act.put, sL]
              refine takeN (i := 24) hHeld ?_
              try simp only [Act.put, sL]
              refine takeN (i := 25) hHeld ?_
              try simp only [Act.put, sL]
              refine takeN (i := 26) hHeld ?_
              try simp only [Act.put, sL]
              refine takeN (i := 27) hHeld ?_
              try simp only [Act.put, sL]
              refine takeN (i := 28) hHeld ?_
              try simp only [Act.put, sL]
              refine takeN (i := 29) hHeld ?_
              try simp only [Act.put, sL]
              refine takeN (i := 30) hHeld ?_
              try simp only [Act.put, sL]
              refine takeN (i := 31) hHeld ?_
              try simp only [Act.put, sL]
              refine takeN (i := 32) hHeld ?_
              try simp only [Act.put, sL]
              refine takeN (i := 33) hHeld ?_
              try simp only [Act.put, sL]
              refine takeY (i := 34) (v := ?_) hHeld ?_ ?_
              rotate_left
              · rintro w' ⟨rx, ry, i0, i1, k0, k1, si, sk⟩; go_simp; rfl
              try simp only [Act.put, sL]
              refine wpAnyH_done (by kernel_rfl) ?_ _
              clear hHeld
              go_wp2
              go_roundg (i - (k + 1))
              case measure => omega
              case rel => exact ⟨k + 1, by go_num, rfl, by omega, HB6, HX6, hid (HSTEP.out HPP.out)⟩
          · have hfb : (er == 0) = false := by rw [beq_eq_false_iff_ne]; exact her
            have HNX2 : Hid (∀ i', i' < i + 1 → ∀ k, k < i' → Pr (os.getD i' dO) (os.getD k dO)) := hid (HNXT.out (fun k' _ h _ _ => absurd (by rw [← HER.out]; exact h) her))
            clear HNXT
            go_wp2
            go_roundg (n - (i + 1))
            case measure => omega
            case rel => exact ⟨i + 1, by go_num, rfl, by omega, HBk, HNX2⟩
        · have hlti3 : ¬ (k : Int) < (i : Int) := by omega
          have HNX2 : Hid (∀ i', i' < i + 1 → ∀ k, k < i' → Pr (os.getD i' dO) (os.getD k dO)) := hid (HNXT.out (fun k' h => HPk.out k' (by omega)))
          clear HNXT
          go_wp2
          go_roundg (n - (i + 1))
          case measure => omega
          case rel => exact ⟨i + 1, by go_num, rfl, by omega, HBk, HNX2⟩
    · have hlti2 : ¬ (i : Int) < (n : Int) := by omega
      have HNC : Hid (NoC os) := hid (noC_of (fun i' hi' k hk => HPR.out i' (by rw [HN.out] at hi'; omega) k hk))
      go_wp2
      go_ret
      exact ⟨false, rfl, by rw [HK2.out]; exact HB.out, fun _ => HNC.out⟩
end Go.Proofs.YtikmbjfambjmaaaGreatDoor.Gr
