import Derived.Test.YtcicoeneemnbiaaGreatDoorMw14
import Derived.Test.YtcicoeneemnbiaaGreatDoorMw15
import Derived.Test.YtcicoeneemnbiaaGreatDoorMw17
namespace Go.Proofs.YtcicoeneemnbiaaGreatDoor
open Go.RowKit
variable [Inhabited En]
set_option linter.unusedSectionVars false
set_option linter.unusedVariables false
set_option linter.unusedSimpArgs false
structure Wst (B : Nat) (w0 W : World) (v : Value) (S : Str) : Prop where
  own : W.ownsRow B 5 1 v S.length (bv S)
  bl : Below B w0 W
  le : B ≤ W.heap.size
theorem Wst.grown {B : Nat} {w0 W W' : World} {v v' : Value} {S S' : Str} (h : Wst B w0 W v S) (ho : W'.ownsRow B 5 1 v' S'.length (bv S')) (hg : W.grownBy W' v.ownBlock) : Wst B w0 W' v' S' :=
  ⟨ho, h.bl.grown hg h.le (fun k hk => (own_lt h.own k hk).1), Nat.le_trans h.le hg.size⟩
theorem Wst.z {B : Nat} {w0 W : World} {v : Value} {S : Str} (h : Wst B w0 W v S) (h0 : 0 < S.length) (m : Nat) (hm : 0 < m) (hl : S.length + m ≤ 100000000) (ty : TypeId) :
    ∃ v' W', (Builtin.append_ #[23, 3] ty #[v, .int .i64 (m : Int)]).run Tryz.prog W = .ok v' W' ∧ Wst B w0 W' v' (S ++ zs m) := by
  obtain ⟨v', W', hr, ho, hg⟩ := own_z h.own h.le h0 m hm hl ty
  exact ⟨v', W', hr, h.grown ho hg⟩
theorem Wst.str {B : Nat} {w0 W : World} {v : Value} {S : Str} (h : Wst B w0 W v S) (t : Str) (hl : S.length + t.length ≤ 100000000) (ty : TypeId) :
    ∃ v' W', (Builtin.append_ #[23, 9] ty #[v, .string ⟨t.toArray⟩]).run Tryz.prog W = .ok v' W' ∧ Wst B w0 W' v' (S ++ t) := by
  obtain ⟨v', W', hr, ho, hg⟩ := own_str h.own h.le t hl ty
  exact ⟨v', W', hr, h.grown ho hg⟩
theorem Wst.num {B : Nat} {w0 W : World} {v : Value} {S : Str} (h : Wst B w0 W v S) (hs : S.length ≤ 1000000) (n k : Nat) (hn : n < 4294967296) (hk : 1 ≤ k) (hk4 : k ≤ 4) :
    Calls Tryz.prog 16 #[v, .int .i64 (n : Int), .int .i64 (k : Int)] W fun e W' => ∃ v', e = .returned v' ∧ Wst B w0 W' v' (S ++ nb k n) :=
  (number_any' h.own h.le hs n k hn hk hk4).mono (by
    rintro e W' ⟨v', rfl, h1, h2, h3⟩
    exact ⟨v', rfl, h1, h.bl.trans h2, h3⟩)
theorem Wst.shape {B : Nat} {w0 W : World} {v : Value} {S : Str} (h : Wst B w0 W v S) : ∃ a cap, v = .slice a S.length cap := owns_shape h.own
theorem Wst.alloc {B : Nat} {w0 W : World} {v : Value} {S : Str} (h : Wst B w0 W v S) (o : Obj) : Wst B w0 (W.alloc o) v S := ⟨h.own.alloc o, h.bl.alloc h.le o, by rw [size_alloc]; have := h.le; omega⟩
theorem Wst.drew {B : Nat} {w0 W : World} {v : Value} {S : Str} (h : Wst B w0 W v S) : Wst B w0 W.drew v S :=
  ⟨h.own.kept (row := none) ⟨rfl, rfl, rfl, Nat.le_refl _, fun _ _ _ => rfl⟩ (by cases h : v.ownBlock <;> simp), Below.drewR h.bl, h.le⟩
theorem Wst.below {B : Nat} {w0 W W' : World} {v : Value} {S : Str} (h : Wst B w0 W v S) (hb : Below W.heap.size W W') : Wst B w0 W' v S :=
  ⟨h.own.kept (row := none) (grown_of_below hb _) (by cases h : v.ownBlock <;> simp), h.bl.trans (hb.mono h.le), Nat.le_trans h.le hb.size⟩
theorem Wst.sl {B : Nat} {w0 W : World} {v : Value} {S : Str} (h : Wst B w0 W v S) (b off cx : Nat) (m : Str) (hP : PB W (some ⟨b, off, none⟩) cx m) (hl : S.length + m.length ≤ 100000000) (ty : TypeId) :
    ∃ v' W', (Builtin.append_ #[23, 23] ty #[v, .slice (some ⟨b, off, none⟩) m.length cx]).run Tryz.prog W = .ok v' W' ∧ Wst B w0 W' v' (S ++ m) := by
  obtain ⟨i, hi, hz0, hz1, hz2⟩ := info_parts Tryz.info5
  obtain ⟨v', W', hr, h1, h2, _⟩ := run_append_own_at (P := Tryz.prog) W B 23 ty 5 i _ 1 1 Tryz.underlying23 hi hz0 hz1 hz2 rfl (by decide) v _ _ h.own ⟨b, off, none⟩ m.length cx (bv m) (by rw [bv_len, Nat.mul_one]) hP.at (bv_one m) (by unfold maxLen; omega) (by omega) h.le
  exact ⟨v', W', hr, h.grown (by rw [List.length_append, bv_app]; exact h1) h2⟩
theorem conv_dirc (w : World) : (convert 23 23 (.slice (some ⟨w.heap.size, 0, none⟩) 4 4)).run Tryz.prog (w.alloc (.cells #[.int .u8 68, .int .u8 73, .int .u8 82, .int .u8 67] 5)) = .ok (.slice (some ⟨w.heap.size, 0, none⟩) 4 4) (w.alloc (.cells #[.int .u8 68, .int .u8 73, .int .u8 82, .int .u8 67] 5 (4, 5))) :=
  Lib.run_convert_bytes_const w 23 5 _ 4 4 Tryz.underlying23 Tryz.underlying5
theorem fl_dirc (w : World) : Fl (w.alloc (.cells #[.int .u8 68, .int .u8 73, .int .u8 82, .int .u8 67] 5 (4, 5))) (.slice (some ⟨w.heap.size, 0, none⟩) 4 4) [68, 73, 82, 67] :=
  ⟨w.heap.size, rfl, by rw [size_alloc]; omega, fun j u hj => by
    rw [World.cell?_alloc_mark]
    show (bv [68, 73, 82, 67]).toArray[j]? = some u
    rw [List.getElem?_toArray]
    exact hj⟩
theorem pb_row {W : World} {b o : Nat} {s : Str} (hb : b < W.heap.size) (h : W.rangeAt b o (bv s)) : PB W (some ⟨b, o, none⟩) s.length s :=
  ⟨Nat.le_refl _, fun _ => ⟨b, o, rfl, hb, fun i hi j v hv => by
    have hj : j = 0 := by
      have := (List.getElem?_eq_some_iff.1 hv).1
      simp [encB] at this
      exact this
    subst hj
    have hb : (bv s)[i]? = some v := by
      unfold bv
      rw [List.getElem?_map, List.getElem?_eq_getElem hi, ← hv, List.getD_eq_getElem?_getD, List.getElem?_eq_getElem hi]
      rfl
    have := h i v hb
    simpa using this⟩, fun h => by cases h⟩
theorem enter16 (x y z : Value) (w : World) : (callFunc 16 #[x, y, z]).run Tryz.prog w = .ok (.enter 16 #[x, y, z]) w := by kernel_rfl
structure Qm (b o : Nat) (X : ByteArray) (sx : Int) (W : World) : Prop where
  d0 : W.cell? ⟨b, o, none⟩ = some (.string X)
  d23 : W.cell? ⟨b, o + 23, none⟩ = some (.int .i64 sx)
def PostWr (l : List Ey) (w : World) (e : Ending) (w' : World) : Prop :=
  Below w.heap.size w w' ∧ ((codeY l ≠ 0 ∧ e = .returned (.tuple #[.slice none 0 0, .int .i64 (codeY l)])) ∨ (codeY l = 0 ∧ ∃ a' cap' S, e = .returned (.tuple #[.slice a' S.length cap', .int .i64 0]) ∧ PB w' a' cap' S ∧ ∃ sm, nums sm = sha (nums (idxS (srtY l))) ∧ S = idxS (srtY l) ++ sm))
theorem Tryz.results6 : Tryz.f6.results = #[.tmp 2, .tmp 3] := by kernel_rfl
theorem code_ck {l : List Ey} {w w' : World} {e : Ending} (h : PostCk l w e w') : Below w.heap.size w w' ∧ e = .returned (.int .i64 (codeY l)) := by
  refine ⟨h.1, ?_⟩
  rcases h.2 with ⟨h1, rfl⟩ | ⟨h1, h2, rfl⟩ | ⟨h1, h2, h3, h4, rfl⟩ | ⟨h1, h2, h3, h4, rfl⟩
  · rw [code_71 h1]
  · unfold codeY; rw [if_pos h1, if_neg h2]
  · rw [code_71d h1 h2 h3 h4]
  · rw [code_0 h1 h2 h3 h4]
theorem pad_end (n k : Nat) (h1 : 1 ≤ k) (hk : (62 + n + k) % 8 = 0) (hk2 : 62 + n + k ≤ entLen n) : 62 + n + k = entLen n := by unfold entLen at *; omega
theorem pad_more (n k : Nat) (h1 : 1 ≤ k) (hk : (62 + n + k) % 8 ≠ 0) (hk2 : 62 + n + k ≤ entLen n) : 62 + n + (k + 1) ≤ entLen n := by unfold entLen at *; omega
theorem entLen_le (n : Nat) : entLen n ≤ 70 + n := by unfold entLen; omega
theorem entLen_ge (n : Nat) : 63 + n ≤ entLen n := by unfold entLen; omega
set_option maxRecDepth 20000 in
set_option maxHeartbeats 8000000 in
theorem refWrite_any {w : World} (a : Option Addr) (ca : Nat) (l : List Ey) (hP : PY w a ca l) (hw : WY l) (hl : l.length ≤ 1000) : Calls Tryz.prog 6 #[.slice a l.length ca] w (PostWr l w) := by
  obtain ⟨n, HN⟩ : ∃ n, Hid (l.length = n) := ⟨_, rfl⟩
  have hn : n ≤ 1000 := by rw [← HN.out]; exact hl
  have HWY : Hid (WY l) := hw
  have HP : Hid (PY w a ca l) := hP
  have C14 : Hid (Calls Tryz.prog 14 #[.slice a n ca] w fun e w' => Below w.heap.size w w' ∧ e = .returned (.int .i64 (codeY l))) := hid (by rw [← HN.out]; exact (refCheck_any a ca l hP hw (by omega)).mono (fun e w' h => code_ck h))
  rw [HN.out]
  clear hP hw hl
  go_enter Tryz.func6, Tryz.ntmps6
  go_wp2_with fail
  refine C14.out.mono ?_
  rintro e w1 ⟨hb1, rfl⟩
  have HB1 := hid hb1
  by_cases hc : codeY l = 0
  rotate_left
  · obtain ⟨c, HC⟩ : ∃ c, Hid (codeY l = c) := ⟨_, rfl⟩
    have hcb : (c != 0) = true := by rw [← HC.out]; simpa using hc
    have HCN : Hid (codeY l ≠ 0) := hc
    rw [HC.out]
    clear hc hb1
    go_wp2
    refine bodyPost_ret (results_tmp2 Tryz.results6 _ _ _) rfl ?_
    exact ⟨HB1.out, .inl ⟨HCN.out, by rw [HC.out]; rfl⟩⟩
  have HC : Hid (codeY l = 0) := hc
  have HOK : Hid (okY l) := hid (code_ok hc)
  rw [hc]
  obtain ⟨L, HL⟩ : ∃ L, Hid (srtY l = L) := ⟨_, rfl⟩
  have HLm : Hid (∀ x ∈ L, x ∈ l) := hid (by rw [← HL.out]; exact fun x hx => (srtY_perm l).mem_iff.1 hx)
  have HLn : Hid (L.length = n) := hid (by rw [← HL.out, (srtY_perm l).length_eq]; exact HN.out)
  have HLW : Hid (WY L) := hid (fun x hx => HWY.out x (HLm.out x hx))
  have C15 : Hid (Calls Tryz.prog 15 #[.slice a n ca] w1 fun e w' => ∃ v, e = .returned v ∧ BY 48 w1 w' w1.heap.size v L) := hid (by rw [← HN.out, ← HL.out]; exact sorted_any a ca l HWY.out (by rw [HN.out]; omega) w1 (HP.out.below hb1))
  clear hc hb1
  go_wp2_with fail
  refine C15.out.mono ?_
  rintro e w2 ⟨v, rfl, hby⟩
  obtain ⟨va, vc, rfl, hpy, hblk, _⟩ := hby.px (d := dY) (fun y hy => encY_len y (HLW.out y hy))
  rw [HLn.out]
  obtain ⟨B, HB⟩ : ∃ B, Hid (w2.heap.size = B) := ⟨_, rfl⟩
  have HPV : Hid (∀ W, Below B w2 W → PY W va vc L) := hid (fun W hW => hpy.below (by rw [HB.out]; exact hW))
  have HVA : Hid (0 < n → ∃ b off, va = some ⟨b, off, none⟩ ∧ b < B) := hid (fun h0 => by
    obtain ⟨b, off, e1, e2, _⟩ := hpy.at_ (by rw [HLn.out]; exact h0)
    exact ⟨b, off, e1, by rw [← HB.out]; exact e2⟩)
  have HBw : Hid (∀ W, Below B w2 W → Below w.heap.size w W) := hid (fun W hW => (HB1.out.trans (hby.below.mono HB1.out.size)).trans (hW.mono (by rw [← HB.out]; exact Nat.le_trans HB1.out.size hby.le)))
  have hbd := run_dirc w2
  have hcv := conv_dirc w2
  obtain ⟨W0, HW0⟩ : ∃ W, Hid (w2.alloc (.cells #[.int .u8 68, .int .u8 73, .int .u8 82, .int .u8 67] 5 (4, 5)) = W) := ⟨_, rfl⟩
  have HF0 : Hid (Fl W0 (.slice (some ⟨w2.heap.size, 0, none⟩) 4 4) [68, 73, 82, 67]) := hid (by rw [← HW0.out]; exact fl_dirc w2)
  have HBl0 : Hid (Below B w2 W0) := hid (by rw [← HW0.out, ← HB.out]; exact (Below.refl _ _).alloc (Nat.le_refl _) _)
  have HBs0 : Hid (B ≤ W0.heap.size) := hid (by rw [← HW0.out, ← HB.out]; simp)
  rw [HW0.out] at hcv
  have C16a : Hid (Calls Tryz.prog 16 #[.slice (some ⟨w2.heap.size, 0, none⟩) 4 4, .int .i64 2, .int .i64 4] W0 fun e W' => ∃ v', e = .returned v' ∧ Wst B w2 W' v' ([68, 73, 82, 67] ++ nb 4 2)) := hid ((number_bz (.inr HF0.out) HBs0.out (by decide) 2 4 (by decide) (by decide) (by decide)).mono (by
    rintro e W' ⟨v', rfl, h1, h2, h3⟩
    exact ⟨v', rfl, h1, HBl0.out.trans h2, h3⟩))
  clear hpy hblk hby
  go_wp2_with fail
  refine C16a.out.mono ?_
  rintro e W1 ⟨v1, rfl, hs1⟩
  have S1 := hid hs1
  have C16b : Hid (Calls Tryz.prog 16 #[v1, .int .i64 (n : Int), .int .i64 4] W1 fun e W' => ∃ v', e = .returned v' ∧ Wst B w2 W' v' (([68, 73, 82, 67] ++ nb 4 2) ++ nb 4 n)) := hid (S1.out.num (by decide) n 4 (by omega) (by decide) (by decide))
  clear hs1
  go_wp2_with fail
  refine C16b.out.mono ?_
  rintro e W2 ⟨v2, rfl, hs2⟩
  obtain ⟨HD, HHD⟩ : ∃ s : Str, Hid (([68, 73, 82, 67] ++ nb 4 2) ++ nb 4 n = s) := ⟨_, hid rfl⟩
  have HHL : Hid (HD.length = 12) := hid (by rw [← HHD.out]; simp [nb_len])
  have HHE : Hid (HD = hdB n) := hid (by rw [← HHD.out]; rfl)
  rw [HHD.out] at hs2
  have S2 := hid hs2
  clear hs2
  go_wp2_with fail
  go_loopg [6, 7] n (fun gg bvl iv wr => ∃ i : Nat, iv = .int .i64 i ∧ i ≤ n ∧ gg = n - i ∧ Hid (Wst B w2 wr bvl (HD ++ (L.take i).flatMap entB)) ∧ Hid ((HD ++ (L.take i).flatMap entB).length ≤ 12 + i * 170))
  case atStart => exact ⟨0, rfl, Nat.zero_le _, rfl, hid (by simpa using S2.out), hid (by rw [List.length_append, HHL.out]; simp)⟩
  case round =>
    clear S1 S2 hbd hcv HF0 HBl0 HBs0
    obtain ⟨i, rfl, hi, hk, SS0, HSL⟩ := hrel
    by_cases hlt : i < n
    · have hlti : (i : Int) < (n : Int) := by omega
      obtain ⟨b, off, hae, hbB⟩ := HVA.out (by omega)
      subst hae
      have hil : i < L.length := by rw [HLn.out]; exact hlt
      obtain ⟨x, HX⟩ : ∃ x, Hid (L.getD i dY = x) := ⟨_, rfl⟩
      have HM : Hid (x ∈ l) := hid (by rw [← HX.out]; exact HLm.out _ (getD_mem L i dY hil))
      have HX20 : Hid (x.id.length = 20) := hid (HWY.out x HM.out)
      have HT : Hid (L.take (i + 1) = L.take i ++ [x]) := hid (by rw [← HX.out]; exact take_snocG dY L i hil)
      have HXP : Hid (x.path.length ≤ 100) := hid (HOK.out.1 x HM.out).1
      obtain ⟨p, HPp⟩ : ∃ p, Hid (x.path.length = p) := ⟨_, rfl⟩
      have hp : p ≤ 100 := by rw [← HPp.out]; exact HXP.out
      have hf := HOK.out.2.1.1 x HM.out
      obtain ⟨md, HMD⟩ : ∃ m : Nat, Hid (x.mode = (m : Int) ∧ m < 4294967296 ∧ x.mode.toNat = m) := by
        rcases hf.1 with h | h | h
        · exact ⟨33188, hid ⟨h, by decide, by rw [h]; rfl⟩⟩
        · exact ⟨33261, hid ⟨h, by decide, by rw [h]; rfl⟩⟩
        · exact ⟨40960, hid ⟨h, by decide, by rw [h]; rfl⟩⟩
      obtain ⟨sz, HSZ⟩ : ∃ m : Nat, Hid (x.size = (m : Int) ∧ m < 4294967296 ∧ x.size.toNat = m) := ⟨x.size.toNat, hid ⟨by have := hf.2.1; omega, by have := hf.2.2.1; omega, rfl⟩⟩
      obtain ⟨st, HST⟩ : ∃ m : Nat, Hid (x.stage = (m : Int) ∧ m ≤ 3 ∧ x.stage.toNat = m) := ⟨x.stage.toNat, hid ⟨by have := hf.2.2.2.1; omega, by have := hf.2.2.2.2; omega, rfl⟩⟩
      have hst3 : st ≤ 3 := HST.out.2.1
      obtain ⟨X, HXX⟩ : ∃ S : ByteArray, Hid (⟨x.path.toArray⟩ = S) := ⟨_, rfl⟩
      have hXs : X.size = p := by rw [← HXX.out, txt_len]; exact HPp.out
      have HQ : Hid (∀ W, Below B w2 W → Q5 b (off + i * 24) x W) := hid (fun W hW => q5 HX20.out (by rw [← HX.out]; exact (HPV.out W hW).row i hil))
      obtain ⟨Z, HZ⟩ : ∃ s, Hid (HD ++ (L.take i).flatMap entB = s) := ⟨_, rfl⟩
      rw [HZ.out] at SS0 HSL
      have hzl : Z.length ≤ 170012 := by have := HSL.out; omega
      have hz0 : 0 < Z.length := by rw [← HZ.out, List.length_append, HHL.out]; omega
      obtain ⟨zl, HZL⟩ : ∃ k, Hid (Z.length = k) := ⟨_, rfl⟩
      have hzl2 : zl ≤ 170012 := by rw [← HZL.out]; exact hzl
      obtain ⟨va0, vc0, hv0⟩ := SS0.out.shape
      subst hv0
      clear hf hil
      rw [HZL.out] at SS0 ⊢
      have hz0' : 0 < Z.length := hz0
      -- zeros
      obtain ⟨v1, W1, hr1, hs1⟩ := SS0.out.z hz0 24 (by decide) (by omega) 23
      have S1 := hid hs1
      have k1 : W1.cell? ⟨b, off + i * 24 + 1, none⟩ = some (.int .i64 (md : Int)) := by rw [← HMD.out.1]; exact (HQ.out W1 hs1.bl).c1
      obtain ⟨Z1, HZ1⟩ : ∃ s, Hid (Z ++ zs 24 = s) := ⟨_, rfl⟩
      rw [HZ1.out] at S1
      have hl1 : Z1.length = zl + 24 := by rw [← HZ1.out, List.length_append, HZL.out]; simp [zs]
      have C1 : Hid (Calls Tryz.prog 16 #[v1, .int .i64 (md : Int), .int .i64 4] W1 fun e W' => ∃ v', e = .returned v' ∧ Wst B w2 W' v' (Z1 ++ nb 4 md)) := hid (S1.out.num (by omega) md 4 HMD.out.2.1 (by decide) (by decide))
      clear hs1
      go_wp2_with (first | (at_builtin; refine wpList_app rfl _ _ 23 3 rfl 23 rfl _ _ rfl rfl hr1 ?_) | fail)
      refine C1.out.mono ?_
      rintro e W2a ⟨v2a, rfl, hs2⟩
      obtain ⟨Z2, HZ2⟩ : ∃ s, Hid (Z1 ++ nb 4 md = s) := ⟨_, rfl⟩
      rw [HZ2.out] at hs2
      have hl2 : Z2.length = zl + 28 := by rw [← HZ2.out, List.length_append, hl1, nb_len]
      obtain ⟨v3, W3, hr3, hs3⟩ := hs2.z (by omega) 8 (by decide) (by omega) 23
      have S3 := hid hs3
      have k3 : W3.cell? ⟨b, off + i * 24 + 22, none⟩ = some (.int .i64 (sz : Int)) := by rw [← HSZ.out.1]; exact (HQ.out W3 hs3.bl).c22
      obtain ⟨Z3, HZ3⟩ : ∃ s, Hid (Z2 ++ zs 8 = s) := ⟨_, rfl⟩
      rw [HZ3.out] at S3
      have hl3 : Z3.length = zl + 36 := by rw [← HZ3.out, List.length_append, hl2]; simp [zs]
      have C3 : Hid (Calls Tryz.prog 16 #[v3, .int .i64 (sz : Int), .int .i64 4] W3 fun e W' => ∃ v', e = .returned v' ∧ Wst B w2 W' v' (Z3 ++ nb 4 sz)) := hid (S3.out.num (by omega) sz 4 HSZ.out.2.1 (by decide) (by decide))
      clear hs3 hs2 C1 k1 hr1 S1
      go_wp2_with (first | (at_builtin; refine wpList_app rfl _ _ 23 3 rfl 23 rfl _ _ rfl rfl hr3 ?_) | fail)
      refine C3.out.mono ?_
      rintro e W4 ⟨v4, rfl, hs4⟩
      obtain ⟨Z4, HZ4⟩ : ∃ s, Hid (Z3 ++ nb 4 sz = s) := ⟨_, rfl⟩
      rw [HZ4.out] at hs4
      have hl4 : Z4.length = zl + 40 := by rw [← HZ4.out, List.length_append, hl3, nb_len]
      obtain ⟨v5, W5, hr5, hs5⟩ := hs4.sl b (off + i * 24 + 2) x.id.length x.id (pb_row (Nat.lt_of_lt_of_le hbB hs4.le) (HQ.out W4 hs4.bl).id) (by rw [HX20.out]; omega) 23
      rw [HX20.out] at hr5
      obtain ⟨Z5, HZ5⟩ : ∃ s, Hid (Z4 ++ x.id = s) := ⟨_, rfl⟩
      rw [HZ5.out] at hs5
      have hl5 : Z5.length = zl + 60 := by rw [← HZ5.out, List.length_append, hl4, HX20.out]
      have S5 := hid hs5
      clear hs4 hs5 C3 k3 hr3 S3
      go_wp2_with (first | (at_builtin; refine wpList_app rfl _ _ 23 23 rfl 23 rfl _ _ rfl rfl hr5 ?_) | fail)
      obtain ⟨m6, HM6⟩ : ∃ m, Hid (st * 4096 = m) := ⟨_, rfl⟩
      obtain ⟨m13, HM13⟩ : ∃ m, Hid (m6 + p = m) := ⟨_, rfl⟩
      have hm6 : m6 ≤ 12288 := by rw [← HM6.out]; omega
      have hm13 : m13 ≤ 12388 := by rw [← HM13.out]; omega
      have h6 : IntKind.i64.wrap ((st : Int) * 4096) = (m6 : Int) := by rw [IntKind.wrap_i64, ← HM6.out]; omega
      have h13 : IntKind.i64.wrap ((m6 : Int) + (p : Int)) = (m13 : Int) := by rw [IntKind.wrap_i64, ← HM13.out]; omega
      have hHeld0 : Qm b (off + i * 24) X (st : Int) W5.drew := ⟨by rw [← HXX.out]; exact (HQ.out W5 S5.out.bl).c0, by rw [← HST.out.1]; exact (HQ.out W5 S5.out.bl).c23⟩
      have S5d : Hid (Wst B w2 W5.drew v5 Z5) := hid S5.out.drew
      refine wp_region_held_drew (S := Qm b (off + i * 24) X (st : Int)) (by kernel_rfl) hHeld0 (fun hHeld => ?_)
      generalize W5.drew = wd at S5d hHeld ⊢
      clear S5 hHeld0 hr5
      have C5 : Hid (Calls Tryz.prog 16 #[v5, .int .i64 (m13 : Int), .int .i64 2] wd fun e W' => ∃ v', e = .returned v' ∧ Wst B w2 W' v' (Z5 ++ nb 2 m13)) := hid (S5d.out.num (by omega) m13 2 (by omega) (by decide) (by decide))
      refine takeL (i := 0) (v := ?_) rfl (by kernel_rfl) (by kernel_rfl) (by kernel_rfl) (fun _ _ _ h => h) (Or.inl ⟨by rfl, ?_⟩) hHeld ?_
      rotate_left
      · rintro w' ⟨d0, d23⟩; go_simp; rfl
      try simp only [Act.put, List.setIfInBounds_toArray, List.set_cons_zero, List.set_cons_succ]
      refine takeL (i := 1) (v := ?_) rfl (by kernel_rfl) (by kernel_rfl) (by kernel_rfl) (fun _ _ _ h => h) (Or.inl ⟨by rfl, ?_⟩) hHeld ?_
      rotate_left
      · rintro w' ⟨d0, d23⟩; go_simp; rfl
      try simp only [Act.put, List.setIfInBounds_toArray, List.set_cons_zero, List.set_cons_succ]
      refine takeL (i := 2) (v := ?_) rfl (by kernel_rfl) (by kernel_rfl) (by kernel_rfl) (fun _ _ _ h => h) (Or.inl ⟨by rfl, ?_⟩) hHeld ?_
      rotate_left
      · rintro w' ⟨d0, d23⟩; go_simp; rfl
      try simp only [Act.put, List.setIfInBounds_toArray, List.set_cons_zero, List.set_cons_succ]
      refine takeL (i := 3) (v := ?_) rfl (by kernel_rfl) (by kernel_rfl) (by kernel_rfl) (fun _ _ _ h => h) (Or.inl ⟨by rfl, ?_⟩) hHeld ?_
      rotate_left
      · rintro w' ⟨d0, d23⟩; go_simp; rfl
      try simp only [Act.put, List.setIfInBounds_toArray, List.set_cons_zero, List.set_cons_succ]
      refine takeL (i := 4) (v := ?_) rfl (by kernel_rfl) (by kernel_rfl) (by kernel_rfl) (fun _ _ _ h => h) (Or.inl ⟨by rfl, ?_⟩) hHeld ?_
      rotate_left
      · rintro w' ⟨d0, d23⟩; go_simp; rfl
      try simp only [Act.put, List.setIfInBounds_toArray, List.set_cons_zero, List.set_cons_succ]
      refine takeL (i := 5) (v := ?_) rfl (by kernel_rfl) (by kernel_rfl) (by kernel_rfl) (fun _ _ _ h => h) (Or.inl ⟨by rfl, ?_⟩) hHeld ?_
      rotate_left
      · rintro w' ⟨d0, d23⟩; go_simp; rfl
      try simp only [Act.put, List.setIfInBounds_toArray, List.set_cons_zero, List.set_cons_succ]
      refine takeL (i := 6) (v := .int .i64 (m6 : Int)) rfl (by kernel_rfl) (by kernel_rfl) (by kernel_rfl) (fun _ _ _ h => h) (Or.inl ⟨by rfl, ?_⟩) hHeld ?_
      · rintro w' ⟨d0, d23⟩; go_simp; try rfl
      try simp only [Act.put, List.setIfInBounds_toArray, List.set_cons_zero, List.set_cons_succ]
      refine takeL (i := 7) (v := ?_) rfl (by kernel_rfl) (by kernel_rfl) (by kernel_rfl) (fun _ _ _ h => h) (Or.inl ⟨by rfl, ?_⟩) hHeld ?_
      rotate_left
      · rintro w' ⟨d0, d23⟩; go_simp; rfl
      try simp only [Act.put, List.setIfInBounds_toArray, List.set_cons_zero, List.set_cons_succ]
      refine takeL (i := 8) (v := ?_) rfl (by kernel_rfl) (by kernel_rfl) (by kernel_rfl) (fun _ _ _ h => h) (Or.inl ⟨by rfl, ?_⟩) hHeld ?_
      rotate_left
      · rintro w' ⟨d0, d23⟩; go_simp; rfl
      try simp only [Act.put, List.setIfInBounds_toArray, List.set_cons_zero, List.set_cons_succ]
      refine takeL (i := 9) (v := ?_) rfl (by kernel_rfl) (by kernel_rfl) (by kernel_rfl) (fun _ _ _ h => h) (Or.inl ⟨by rfl, ?_⟩) hHeld ?_
      rotate_left
      · rintro w' ⟨d0, d23⟩; go_simp; rfl
      try simp only [Act.put, List.setIfInBounds_toArray, List.set_cons_zero, List.set_cons_succ]
      refine takeL (i := 10) (v := ?_) rfl (by kernel_rfl) (by kernel_rfl) (by kernel_rfl) (fun _ _ _ h => h) (Or.inl ⟨by rfl, ?_⟩) hHeld ?_
      rotate_left
      · rintro w' ⟨d0, d23⟩; go_simp; rfl
      try simp only [Act.put, List.setIfInBounds_toArray, List.set_cons_zero, List.set_cons_succ]
      refine takeL (i := 11) (v := ?_) rfl (by kernel_rfl) (by kernel_rfl) (by kernel_rfl) (fun _ _ _ h => h) (Or.inl ⟨by rfl, ?_⟩) hHeld ?_
      rotate_left
      · rintro w' ⟨d0, d23⟩; go_simp; rfl
      try simp only [Act.put, List.setIfInBounds_toArray, List.set_cons_zero, List.set_cons_succ]
      refine takeL (i := 12) (v := ?_) rfl (by kernel_rfl) (by kernel_rfl) (by kernel_rfl) (fun _ _ _ h => h) (Or.inl ⟨by rfl, ?_⟩) hHeld ?_
      rotate_left
      · rintro w' ⟨d0, d23⟩; go_simp; rfl
      try simp only [Act.put, List.setIfInBounds_toArray, List.set_cons_zero, List.set_cons_succ]
      refine takeL (i := 13) (v := .int .i64 (m13 : Int)) rfl (by kernel_rfl) (by kernel_rfl) (by kernel_rfl) (fun _ _ _ h => h) (Or.inl ⟨by rfl, ?_⟩) hHeld ?_
      · rintro w' ⟨d0, d23⟩; go_simp; try rfl
      try simp only [Act.put, List.setIfInBounds_toArray, List.set_cons_zero, List.set_cons_succ]
      refine wpAnyH_ready (rs := [14]) (by kernel_rfl) (by simp) ?_
      refine consL rfl (fun KK hKK => ?_) AllReadyH.nil
      refine step_callv (by rfl) 16 [.tmp 58, .tmp 71, .const (.int .i64 2)] _ [v5, .int .i64 (m13 : Int), .int .i64 2] _ (by rfl) (by rfl) (enter16 _ _ _) C5.out ?_
      rintro e W6 ⟨v6, rfl, hs6⟩
      refine ⟨_, rfl, ?_⟩
      have hH6 : Qm b (off + i * 24) X (st : Int) W6 := ⟨by rw [← HXX.out]; exact (HQ.out W6 hs6.bl).c0, by rw [← HST.out.1]; exact (HQ.out W6 hs6.bl).c23⟩
      refine hKK.out _ _ hH6 (fun hHeldN => ?_)
      clear hKK KK hHeldN hHeld
      have hHeld := hH6
      clear hH6
      try simp only [Act.put, List.setIfInBounds_toArray, List.set_cons_zero, List.set_cons_succ]
      refine takeL (i := 15) (v := ?_) rfl (by kernel_rfl) (by kernel_rfl) (by kernel_rfl) (fun _ _ _ h => h) (Or.inl ⟨by rfl, ?_⟩) hHeld ?_
      rotate_left
      · rintro w' ⟨d0, d23⟩; go_simp; rfl
      try simp only [Act.put, List.setIfInBounds_toArray, List.set_cons_zero, List.set_cons_succ]
      refine wpAnyH_done (by kernel_rfl) ?_ _
      obtain ⟨Z6, HZ6⟩ : ∃ s, Hid (Z5 ++ nb 2 m13 = s) := ⟨_, rfl⟩
      rw [HZ6.out] at hs6
      have hl6 : Z6.length = zl + 62 := by rw [← HZ6.out, List.length_append, hl5, nb_len]
      have k6 : W6.cell? ⟨b, off + i * 24, none⟩ = some (.string X) := hHeld.d0
      obtain ⟨v7, W7, hr7, hs7⟩ := hs6.str x.path (by rw [HPp.out]; omega) 23
      rw [HXX.out] at hr7
      obtain ⟨Z7, HZ7⟩ : ∃ s, Hid (Z6 ++ x.path = s) := ⟨_, rfl⟩
      rw [HZ7.out] at hs7
      have hl7 : Z7.length = zl + 62 + p := by rw [← HZ7.out, List.length_append, hl6, HPp.out]
      have HBV : Hid ((Instr.buildSlice 23 1 #[(0, .int .u8 0)]).run Tryz.prog W7 = .ok (.slice (some ⟨W7.heap.size, 0, none⟩) 1 1) (W7.alloc (.cells #[.int .u8 (((0 : UInt8).toNat : Nat) : Int)] 5))) := hid (run_byte 0 0 rfl W7)
      obtain ⟨v8, W8, hr8, hs8⟩ := (hs7.alloc (.cells #[.int .u8 (((0 : UInt8).toNat : Nat) : Int)] 5)).sl W7.heap.size 0 1 [0] (pb_byte 0 W7) (by rw [hl7]; simp; omega) 23
      have S8 : Hid (Wst B w2 W8 v8 (Z7 ++ zs 1)) := hid hs8
      clear hHeld hs6 hs7 hs8 C5 S5d
      go_wp2_with (first | (at_builtin; refine wpList_app rfl _ _ 23 9 rfl 23 rfl _ _ rfl rfl hr7 ?_) | (refine wpList_bSY rfl 23 1 _ rfl (.int .u8 0) _ rfl HBV.out ?_) | (at_builtin; refine wpList_app rfl _ _ 23 23 rfl 23 rfl _ _ rfl rfl hr8 ?_) | fail)
      go_loopg [6] (entLen p - 1) (fun gg bvl wr => ∃ k : Nat, 1 ≤ k ∧ 62 + p + k ≤ entLen p ∧ gg = entLen p - k ∧ Hid (Wst B w2 wr bvl (Z7 ++ zs k)))
      case atStart => exact ⟨1, Nat.le_refl _, by have := entLen_ge p; omega, rfl, S8⟩
      case round =>
        clear hr7 hr8 k6 HBV S8
        obtain ⟨k, hk1, hke, hkg, SK⟩ := hrel
        obtain ⟨q, HQq⟩ : ∃ q, Hid ((Z7 ++ zs k).length = q) := ⟨_, rfl⟩
        have hqe0 : q = zl + 62 + p + k := by rw [← HQq.out, List.length_append, hl7]; simp [zs]
        obtain ⟨vk, ck, hvk⟩ := SK.out.shape
        subst hvk
        rw [HQq.out] at SK ⊢
        have hel : entLen p ≤ 170 := by have := entLen_le p; omega
        obtain ⟨m, HMm⟩ : ∃ m, Hid (62 + p + k = m) := ⟨_, rfl⟩
        have hqz : (q : Int) - (zl : Int) = (m : Int) := by rw [← HMm.out]; omega
        have hq2 : q ≤ 170300 := by omega
        have hqe := hid hqe0
        clear hqe0
        have hmb : m ≤ 170 := by rw [← HMm.out]; omega
        by_cases hm8 : m % 8 = 0
        · have ht : ((m : Int).tmod 8 != 0) = false := by
            have : (m : Int).tmod 8 = 0 := by rw [Int.tmod_eq_emod_of_nonneg (by omega)]; omega
            rw [this]; rfl
          have hte : ((m : Int) % 8 != 0) = false := by
            have : (m : Int) % 8 = 0 := by omega
            rw [this]; rfl
          have SK2 : Hid (Wst B w2 wr (.slice vk q ck) (HD ++ (L.take (i + 1)).flatMap entB)) := hid (by
            have he : Z7 ++ zs k = HD ++ (L.take (i + 1)).flatMap entB := by
              rw [HT.out, List.flatMap_append, ← List.append_assoc, HZ.out]
              have hke2 : k = entLen p - (62 + p) := by
                have := pad_end p k hk1 (by rw [HMm.out]; exact hm8) hke
                omega
              rw [← HZ7.out, ← HZ6.out, ← HZ5.out, ← HZ4.out, ← HZ3.out, ← HZ2.out, ← HZ1.out, hke2]
              simp only [List.flatMap_cons, List.flatMap_nil, List.append_nil, entB]
              rw [HMD.out.2.2, HSZ.out.2.2, HST.out.2.2, HPp.out, ← HM13.out, ← HM6.out]
              simp only [List.append_assoc]
            rw [← he]; exact SK.out)
          have HSL2 : Hid ((HD ++ (L.take (i + 1)).flatMap entB).length ≤ 12 + (i + 1) * 170) := hid (by
            rw [HT.out, List.flatMap_append, ← List.append_assoc, HZ.out, List.length_append]
            have h1 := HSL.out
            have h2 := entB_len x HX20.out
            rw [HPp.out] at h2
            simp only [List.flatMap_cons, List.flatMap_nil, List.append_nil]
            have := entLen_le p
            omega)
          clear hm8
          go_wp2
          go_roundg (n - (i + 1))
          case measure => omega
          case rel => exact ⟨i + 1, by go_num, by omega, rfl, SK2, HSL2⟩
        · have ht : ((m : Int).tmod 8 != 0) = true := by
            have : (m : Int).tmod 8 ≠ 0 := by rw [Int.tmod_eq_emod_of_nonneg (by omega)]; omega
            simpa using this
          have hte : ((m : Int) % 8 != 0) = true := by
            have : (m : Int) % 8 ≠ 0 := by omega
            simpa using this
          have hke3 := pad_more p k hk1 (by rw [HMm.out]; exact hm8) hke
          have HBV : Hid ((Instr.buildSlice 23 1 #[(0, .int .u8 0)]).run Tryz.prog wr = .ok (.slice (some ⟨wr.heap.size, 0, none⟩) 1 1) (wr.alloc (.cells #[.int .u8 (((0 : UInt8).toNat : Nat) : Int)] 5))) := hid (run_byte 0 0 rfl wr)
          have SKa := SK.out.alloc (.cells #[.int .u8 (((0 : UInt8).toNat : Nat) : Int)] 5)
          obtain ⟨v8, W8, hr8, hs8⟩ := SKa.sl wr.heap.size 0 1 [0] (pb_byte 0 wr) (by rw [HQq.out]; simp; omega) 23
          have S8 : Hid (Wst B w2 W8 v8 (Z7 ++ zs (k + 1))) := hid (by
            have he : Z7 ++ zs (k + 1) = (Z7 ++ zs k) ++ [0] := by
              rw [List.append_assoc]
              congr 1
              exact List.replicate_succ'
            rw [he]; exact hs8)
          clear SKa hs8 hm8
          go_wp2_with (first | (refine wpList_bSY rfl 23 1 _ rfl (.int .u8 0) _ rfl HBV.out ?_) | (at_builtin; refine wpList_app rfl _ _ 23 23 rfl 23 rfl _ _ rfl rfl hr8 ?_) | fail)
          go_roundg (entLen p - (k + 1))
          case measure => omega
          case rel => exact ⟨k + 1, by omega, by omega, rfl, S8⟩
    · have hlti : ¬ (i : Int) < (n : Int) := by omega
      obtain ⟨S, HS⟩ : ∃ S, Hid (idxS (srtY l) = S) := ⟨_, rfl⟩
      have SS : Hid (Wst B w2 wr u6 S) := hid (by
        have h := SS0.out
        rw [List.take_of_length_le (by rw [HLn.out]; omega)] at h
        rw [← HS.out]
        unfold idxS
        rw [HL.out, HLn.out, ← HHE.out]
        exact h)
      have hSl : S.length ≤ 170012 := by
        have h := HSL.out
        rw [List.take_of_length_le (by rw [HLn.out]; omega)] at h
        rw [← HS.out]
        unfold idxS
        rw [HL.out, HLn.out, ← HHE.out]
        omega
      have hSp : 0 < S.length := by
        rw [← HS.out]
        unfold idxS hdB
        simp
      obtain ⟨va0, vc0, hv0⟩ := SS.out.shape
      subst hv0
      obtain ⟨m, HMl⟩ : ∃ m, Hid (S.length = m) := ⟨_, rfl⟩
      obtain ⟨sm, hsm, hsml, hsmr⟩ := sum_bytes (nums S)
      obtain ⟨a0, c0, hae, hpb, _⟩ := own_pb SS.out.own
      cases hae
      obtain ⟨b, off, e1, e2, _⟩ := hpb.at_ hSp
      subst e1
      have C17 : Hid (Calls Tryz.prog 17 #[.slice (some ⟨b, off, none⟩) m vc0] wr fun e w' => e = .returned (.agg (bv sm).toArray) ∧ Below wr.heap.size wr w') := hid (by
        have h := ref_any (some ⟨b, off, none⟩) vc0 (nums S) wr (by rw [nums_len]; omega) (nums_b S) (fun _ => ⟨b, off, rfl, e2, pb_at hpb⟩)
        rw [nums_len, HMl.out, hsmr] at h
        exact h)
      rw [HMl.out] at SS ⊢
      have HSM : Hid (nums sm = sha (nums (idxS (srtY l)))) := hid (by rw [HS.out]; exact hsm)
      have HSML := hid hsml
      clear hpb hsmr hsm hsml
      go_wp2_with fail
      refine C17.out.mono ?_
      rintro e W1 ⟨rfl, hb1⟩
      obtain ⟨W9, HW9⟩ : ∃ W, Hid (W1.alloc (.cells (bv sm).toArray 29) = W) := ⟨_, rfl⟩
      obtain ⟨v9, W10, hr9, hs9⟩ := ((SS.out.below hb1).alloc (.cells (bv sm).toArray 29)).sl W1.heap.size 0 sm.length sm (pb_new sm W1 29) (by rw [HSML.out]; omega) 23
      rw [HSML.out, HW9.out] at hr9
      have al : W1.alloc (.cells (bv sm).toArray 29) = W9 := HW9.out
      have HI29 : Hid ((Tryz.prog.info? 29).map (·.size) = some (bv sm).toArray.size) := hid (by rw [List.size_toArray, bv_len, HSML.out]; kernel_rfl)
      have HZ29 : Hid (20 = (bv sm).toArray.size) := hid (by rw [List.size_toArray, bv_len, HSML.out])
      have HO29 : Hid ((bv sm).toArray.all (·.oneCell') = true) := hid (all_oneCell_toArray (bv_one sm))
      have S9 := hid hs9
      clear hb1 hs9
      go_wp2_with (first | (refine wpList_store_new rfl 29 _ _ rfl _ (bv sm).toArray rfl rfl HI29.out HZ29.out HO29.out ?_) | (at_builtin; refine wpList_app rfl _ _ 23 23 rfl 23 rfl _ _ rfl rfl hr9 ?_) | fail)
      refine bodyPost_ret (results_tmp2 Tryz.results6 _ _ _) rfl ?_
      obtain ⟨a9, c9, hv9, hpb9, _⟩ := own_pb S9.out.own
      subst hv9
      exact ⟨HBw.out _ S9.out.bl, .inr ⟨HC.out, a9, c9, _, rfl, hpb9, sm, HSM.out, by rw [HS.out]⟩⟩
end Go.Proofs.YtcicoeneemnbiaaGreatDoor
namespace Go.Proofs.YtcicoeneemnbiaaGreatDoor
open Go.RowKit
variable [Inhabited En]
set_option linter.unusedVariables false
set_option linter.unusedSectionVars false
set_option linter.unusedSimpArgs false
theorem rdL_wf : ∀ (k : Nat) (t : Str), WY (rdL k t) ∧ (rdL k t).length * 62 ≤ t.length
  | 0, t => ⟨fun e he => (by cases he), by simp [rdL]⟩
  | k + 1, t => by
    by_cases h : 62 ≤ t.length
    · have h1 := nxt_lt t h
      have h2 := rdL_wf k (nxt t)
      rw [rdL, if_pos h]
      refine ⟨fun e he => ?_, by rw [List.length_cons]; omega⟩
      rcases List.mem_cons.1 he with rfl | he
      · exact rdE_id t h
      · exact h2.1 e he
    · rw [rdL, if_neg h]
      exact ⟨fun e he => (by cases he), by simp⟩
theorem readL_wf (s : Str) (h : s.length ≤ 20000) : WY (readL s) ∧ (readL s).length ≤ 1000 := by
  unfold readL
  by_cases h1 : s.length < 32
  · rw [if_pos h1]
    exact ⟨fun e he => (by cases he), by simp⟩
  · rw [if_neg h1]
    have := rdL_wf s.length ((s.drop 12).take (s.length - 20 - 12))
    refine ⟨this.1, ?_⟩
    have h2 := this.2
    rw [List.length_take, List.length_drop] at h2
    omega
def Good (s : Str) : Prop := codeY (readL s) = 0 ∧ ∃ sm, nums sm = sha (nums (idxS (srtY (readL s)))) ∧ s = idxS (srtY (readL s)) ++ sm
theorem nums_inj {x y : Str} (h : nums x = nums y) : x = y := by
  induction x generalizing y with
  | nil => cases y with
    | nil => rfl
    | cons b y => simp [nums] at h
  | cons a x ih => cases y with
    | nil => simp [nums] at h
    | cons b y =>
      simp only [nums, List.map_cons, List.cons.injEq] at h
      rw [ih h.2, show a = b from UInt8.toNat_inj.1 (by omega)]
def PostRd (s : Str) (w : World) (e : Ending) (w' : World) : Prop :=
  Below w.heap.size w w' ∧ ((Good s ∧ ∃ a cap, e = .returned (.tuple #[.slice a (readL s).length cap, .nilIface]) ∧ PY w' a cap (readL s) ∧ ∀ p : Addr, a = some p → w.heap.size ≤ p.block) ∨ (¬ Good s ∧ e = .returned (.tuple #[.slice none 0 0, .iface 38 (.int .i64 70)])))
theorem Tryz.results20 : Tryz.f20.results = #[.tmp 2, .tmp 3] := by kernel_rfl
set_option maxRecDepth 20000 in
set_option maxHeartbeats 4000000 in
theorem read_any (hCl : Clash) {w : World} (a : Option Addr) (cap : Nat) (s : Str) (hP : PB w a cap s) (hl : s.length ≤ 20000) : Calls Tryz.prog 20 #[.slice a s.length cap] w (PostRd s w) := by
  obtain ⟨hwy, hlen⟩ := readL_wf s hl
  have C41 : Hid (Calls Tryz.prog 41 #[.slice a s.length cap] w (PostRE (readL s) w)) := hid (readEntries_any a cap s hP hl)
  obtain ⟨n, HN⟩ : ∃ n, Hid (s.length = n) := ⟨_, rfl⟩
  obtain ⟨L, HL⟩ : ∃ L, Hid (readL s = L) := ⟨_, rfl⟩
  obtain ⟨q, HQ⟩ : ∃ q, Hid (L.length = q) := ⟨_, rfl⟩
  have HPB := hid hP
  have HCL : Hid Clash := hCl
  rw [HL.out] at hwy hlen C41
  have HWY := hid hwy
  have HLE := hid hlen
  rw [HN.out] at C41 ⊢
  clear hP hl hwy hlen hCl
  go_enter Tryz.func20, Tryz.ntmps20
  go_wp2_with fail
  refine C41.out.mono ?_
  rintro e w1 ⟨v, rfl, hbx⟩
  obtain ⟨a1, c1, rfl, hp1, hpl, _⟩ := hbx.px (d := dY) (fun x hx => encY_len x (HWY.out x hx))
  have HB1 := hid hbx.below
  have HP1 : Hid (PY w1 a1 c1 L) := hp1
  rw [HQ.out]
  have HPL : Hid (∀ p : Addr, a1 = some p → w.heap.size ≤ p.block) := hid (fun p hp => (hpl p hp).1)
  clear hbx hp1 hpl
  have C4 := hid (write_any a1 c1 L (inOrder_any HCL.out a1 c1 L HP1.out HWY.out HLE.out) HLE.out HWY.out)
  rw [HQ.out] at C4
  go_wp2_with fail
  refine C4.out.mono ?_
  rintro e w2 ⟨hb2, ⟨h0, rfl⟩ | ⟨h0, a2, c2, S, rfl, hp2, sm, hsm, hS⟩⟩
  · have HB2 : Hid (Below w.heap.size w w2) := hid (HB1.out.trans (hb2.mono HB1.out.size))
    have HNG : Hid (¬ Good s) := hid (fun h => h0 (by rw [← HL.out]; exact h.1))
    clear h0 hb2
    go_wp2
    refine bodyPost_ret (results_tmp2 Tryz.results20 _ _ _) rfl ?_
    exact ⟨HB2.out, .inr ⟨HNG.out, rfl⟩⟩
  · have HB2 : Hid (Below w.heap.size w w2) := hid (HB1.out.trans (hb2.mono HB1.out.size))
    obtain ⟨k, HK⟩ : ∃ k, Hid (S.length = k) := ⟨_, rfl⟩
    have C42 : Hid (Calls Tryz.prog 42 #[.slice a2 k c2, .slice a n cap] w2 fun e w' => e = .returned (.bool (S == s)) ∧ w' = w2) := hid (by
      rw [← HK.out, ← HN.out]
      exact equal_any a2 c2 S hp2 a cap s (HPB.out.below HB2.out))
    have HP2 := hid (HP1.out.below hb2)
    have HG : Hid (S = s ↔ Good s) := hid (by
      unfold Good
      rw [HL.out]
      constructor
      · intro h
        exact ⟨h0, sm, hsm, by rw [← h]; exact hS⟩
      · rintro ⟨_, sm', h1, h2⟩
        rw [hS, h2, nums_inj (hsm.trans h1.symm)])
    rw [HK.out]
    clear h0 hb2 hp2 hsm hS
    go_wp2_with fail
    refine C42.out.mono ?_
    rintro e w3 ⟨rfl, hw3⟩
    rw [hw3]
    clear hw3 w3
    by_cases hSs : S = s
    · have hbb : (S == s) = true := beq_t hSs
      have HGD : Hid (Good s) := hid (HG.out.1 hSs)
      rw [hbb]
      clear hbb hSs
      go_wp2
      refine bodyPost_ret (results_tmp2 Tryz.results20 _ _ _) rfl ?_
      exact ⟨HB2.out, .inl ⟨HGD.out, a1, c1, by rw [HL.out, HQ.out]; rfl, by rw [HL.out]; exact HP2.out, HPL.out⟩⟩
    · have hbb : (S == s) = false := beq_f hSs
      have HGD : Hid (¬ Good s) := hid (fun h => hSs (HG.out.2 h))
      rw [hbb]
      clear hbb hSs
      go_wp2
      refine bodyPost_ret (results_tmp2 Tryz.results20 _ _ _) rfl ?_
      exact ⟨HB2.out, .inr ⟨HGD.out, rfl⟩⟩
end Go.Proofs.YtcicoeneemnbiaaGreatDoor
