import Derived.Test.YtikmbjfambjmaaaGreatDoorMf10
import Derived.Test.YtikmbjfambjmaaaGreatDoorMf11
import Derived.Test.YtikmbjfambjmaaaGreatDoorMf03
import Derived.BigQuiet
import Derived.Test.YtikmbjfambjmaaaGreatDoorMf06
import Derived.Test.YtikmbjfambjmaaaGreatDoorMf05
import Derived.StillTail
namespace Go.Proofs.YtikmbjfambjmaaaGreatDoor
open Go.RowKit
variable [Inhabited Er] [Inhabited En]
set_option linter.unusedVariables false
set_option linter.unusedSectionVars false
set_option linter.unusedSimpArgs false
def PostW (es : List Er) (w : World) (e : Ending) (w' : World) : Prop := Below w.heap.size w w' ∧
  ((okL es ∧ ∃ a cap, e = .returned (.tuple #[.slice a (treeB (srtE es)).length cap, .nilIface]) ∧ Sl w' a cap (nums (treeB (srtE es)))) ∨ (¬ okL es ∧ e = .returned (.tuple #[.slice none 0 0, .iface 45 (.int .i64 21)])))
theorem Bd.sl {w0 w : World} {B : Nat} {v : Value} {out : List Int} (h : Bd w0 w B v out) : ∃ a cap, v = .slice a out.length cap ∧ Sl w a cap out := by
  by_cases h0 : 0 < out.length
  · obtain ⟨g, cap, rfl, h1, h2, h3, h4⟩ := bd_form h h0
    exact ⟨_, cap, rfl, ⟨h4, fun _ => ⟨g, 0, rfl, h2, h3⟩, fun h => by cases h⟩⟩
  · have hz : out.length = 0 := by omega
    obtain ⟨_, ⟨rfl, _⟩ | ⟨g, cap, cur, rfl, _, hh, hnc, _⟩⟩ := h.own
    · exact ⟨none, 0, by rw [hz], ⟨by omega, fun h => absurd h h0, fun _ => rfl⟩⟩
    · exact ⟨some ⟨g, 0, none⟩, cap, rfl, ⟨hnc, fun h => absurd h h0, fun h => by cases h⟩⟩
theorem Bd.str {w0 w : World} {B : Nat} {v : Value} {out : List Int} (h : Bd w0 w B v out) (l : List UInt8) (hl : out.length + l.length ≤ 1000000) :
    ∃ v' w', (Builtin.append_ #[26, 9] 26 #[v, .string ⟨l.toArray⟩]).run Tryz.prog w = .ok v' w' ∧ Bd w0 w' B v' (out ++ nums l) ∧ w.grownBy w' v.ownBlock := by
  obtain ⟨i5, hi, hz0, hz1, hz2⟩ := info_parts Tryz.info5
  have hsz : (⟨l.toArray⟩ : ByteArray).size = l.length := by simp [ByteArray.size]
  obtain ⟨v', w', hr, h1, h2, _⟩ := Lib.run_append_own_string (P := Tryz.prog) w B 26 9 26 5 i5 Tryz.underlying26 Tryz.underlying9 hi hz0 hz1 hz2 v out.length _ h.own ⟨l.toArray⟩ (by rw [hsz]; unfold maxLen; omega) (by rw [hsz]; omega) h.le
  refine ⟨v', w', hr, ⟨h.below.grown h2 h.le (fun k hk => (own_lt h.own k hk).1), ?_, Nat.le_trans h.le h2.size⟩, h2⟩
  rw [List.length_append, nums_len, List.map_append, ← strCells_nums]
  rw [hsz] at h1
  exact h1
structure QW (K : Nat) (m : Int) (N : ByteArray) (W : World) : Prop where
  c0 : W.cell? ⟨K, 0, none⟩ = some (.int .i64 m)
  c1 : W.cell? ⟨K, 1, none⟩ = some (.string N)
theorem QW.below {K : Nat} {m : Int} {N : ByteArray} {W W' : World} (h : QW K m N W) (hb : Below W.heap.size W W') (hK : K < W.heap.size) : QW K m N W' :=
  ⟨(hb.cell (p := ⟨K, 0, none⟩) hK).trans h.c0, (hb.cell (p := ⟨K, 1, none⟩) hK).trans h.c1⟩
theorem QW.grown {K : Nat} {m : Int} {N : ByteArray} {W W' : World} {r : Option Nat} (h : QW K m N W) (hg : W.grownBy W' r) (hK : K < W.heap.size) (hne : r ≠ some K) : QW K m N W' :=
  ⟨(World.cell?_of_block (a := ⟨K, 0, none⟩) (hg.block K hK (fun e => hne e.symm))).trans h.c0, (World.cell?_of_block (a := ⟨K, 1, none⟩) (hg.block K hK (fun e => hne e.symm))).trans h.c1⟩
theorem enter47 (v : Value) (w : World) : (callFunc 57 [v].toArray).run Tryz.prog w = .ok (.enter 57 [v].toArray) w := by kernel_rfl
theorem enter46' (v : Value) (w : World) : (callFunc 56 [v].toArray).run Tryz.prog w = .ok (.enter 56 [v].toArray) w := by kernel_rfl
theorem words_two (x y : List UInt8) (w1 w2 : World) (hx : x.length + y.length ≤ 100000) (h : w2 = w1.alloc (.cells #[.string ⟨x.toArray⟩, .string ⟨y.toArray⟩] 9)) :
    Calls Tryz.prog 56 #[.slice (some ⟨w1.heap.size, 0, none⟩) 2 2] w2 fun e w' => e = .returned (.string ⟨(x ++ 32 :: y).toArray⟩) ∧ Below w2.heap.size w2 w' := by
  subst h
  have hj : (Lib.join ([(⟨x.toArray⟩ : ByteArray), ⟨y.toArray⟩].map (·.data.toList)) [32]) = x ++ 32 :: y := by
    simp only [List.map_cons, List.map_nil, join_two]
  refine (words_any w1.heap.size 0 2 [⟨x.toArray⟩, ⟨y.toArray⟩] _ ?_ ?_ (by simp) (by simp) (by rw [hj]; simp; omega)).mono ?_
  · intro i z hz
    rcases i with _ | _ | i
    · simp at hz; subst hz; simp
    · simp at hz; subst hz; simp
    · simp at hz
  · simp
  · rintro e w' ⟨rfl, hb⟩
    rw [hj]
    exact ⟨rfl, hb⟩
theorem wpList_bd_slG {w w0 : World} {ops : Array Oper} {rest : List Oper} {o : Oper} {a : Act} {Q : Exit → Act → World → Prop} (hgd : o.guard = none) (s x : Operand) (ho : o.op = .call { callee := .builtin .append, args := #[s, x], argTypes := #[26, 26] }) (B : Nat) (v : Value) (out : List Int) (hs : a.eval s = v) (h : Bd w0 w B v out)
    (ax : Option Addr) (cx : Nat) (l : List Int) (hx : a.eval x = .slice ax l.length cx) (hS : Sl w ax cx l) (hl : out.length + l.length ≤ 1000000)
    (hK : ∀ v' w', Bd w0 w' B v' (out ++ l) → w.grownBy w' v.ownBlock → wpList Tryz.prog ops Q rest (a.put o.dst v') w') : wpList Tryz.prog ops Q (o :: rest) a w := by
  obtain ⟨i5, hi, hz0, hz1, hz2⟩ := info_parts Tryz.info5
  cases ax with
  | none =>
    have hc : cx = 0 := hS.nil rfl
    have hcl := hS.capl
    obtain rfl : l = [] := List.length_eq_zero_iff.1 (by omega)
    subst hc
    refine wpList_plain hgd fun K hK' => ?_
    have hr := run_append_owned_none (P := Tryz.prog) w B 26 o.type 5 i5 1 Tryz.underlying26 hi v _ _ h.own
    unfold Oper.wp execOp
    simp only [List.length_nil] at hx
    simp only [ho, resolve, invoke, builtin, Sem.run_bind, Sem.run_pure, Result.andThen_ok, List.map_toArray, List.map_cons, List.map_nil, hs, hx, hr]
    exact hK' _ _ (hK v w (by simpa using h) ⟨rfl, rfl, rfl, Nat.le_refl _, fun _ _ _ => rfl⟩)
  | some ad =>
    refine wpList_append_own_at w hgd s x 26 ho B 5 i5 (.int .u8 0) 1 1 Tryz.underlying26 hi hz0 hz1 hz2 rfl (by decide) v _ _ hs h.own ad l.length cx (l.map (Value.int .u8)) hx (by simp) ?_ (ints_oneCell .u8 l) (by unfold maxLen; omega) (by omega) h.le ?_
    · intro j z hj
      rw [List.getElem?_map] at hj
      cases hc : l[j]? with
      | none => rw [hc] at hj; cases hj
      | some y =>
        rw [hc] at hj; cases hj
        have hlt := (List.getElem?_eq_some_iff.1 hc).1
        obtain ⟨b, off, e1, e2, e3⟩ := hS.at_ (by omega)
        cases e1
        have := e3 j hlt
        rw [addr_add]
        simpa [List.getD_eq_getElem?_getD, hc] using this
    · intro v' w' h1 h2 h3 h4
      refine hK v' w' ⟨h.below.grown h2 h.le (fun k hk => (own_lt h.own k hk).1), ?_, Nat.le_trans h.le h2.size⟩ h2
      rw [List.length_append, List.map_append]
      exact h1
theorem Bd.ne {w0 w : World} {B K t : Nat} {v : Value} {out : List Int} {R : Array Value} (h : Bd w0 w B v out) (hb : w.heap[K]? = some (.cells R t (0, 0))) (ht : t ≠ 5) : v.ownBlock ≠ some K := by
  intro hk
  obtain ⟨_, ⟨rfl, _⟩ | ⟨g, cap, cur, rfl, _, h2, _⟩⟩ := h.own
  · cases hk
  · simp [Value.ownBlock] at hk
    subst hk
    rw [h2] at hb
    simp at hb
    exact ht hb.2.symm
theorem Bd.keep {w0 w w' : World} {B K t : Nat} {v : Value} {out : List Int} {R : Array Value} (h : Bd w0 w B v out) (hg : w.grownBy w' v.ownBlock) (hb : w.heap[K]? = some (.cells R t (0, 0))) (ht : t ≠ 5) : w'.heap[K]? = some (.cells R t (0, 0)) :=
  (hg.block K (lt_of_some hb) (fun e => h.ne hb ht e.symm)).trans hb
theorem id_sl {w : World} {K t : Nat} {x : Er} {R : List Value} (hR : erV x = R) (hb : w.heap[K]? = some (.cells R.toArray t (0, 0))) (hx : x.id.length = 20) : Sl w (some ⟨K, 2, none⟩) 20 x.id :=
  ⟨by omega, fun _ => ⟨K, 2, rfl, lt_of_some hb, fun j hj => by
    have hr := range_row hb
    rw [← hR] at hr
    have := hr (2 + j) (.int .u8 (x.id.getD j 0)) (by
      rw [Nat.add_comm 2 j]
      exact row_at .u8 x.id j hj)
    simpa using this⟩, fun h => by cases h⟩
theorem er_out (out : List Int) (x : Er) (h : ∀ n ∈ x.id, 0 ≤ n ∧ n < 256) : ((out ++ nums (octB x.mode ++ 32 :: x.name)) ++ [0]) ++ x.id = out ++ nums (erB x) := by
  have e1 : nums (erB x) = nums (octB x.mode ++ 32 :: x.name) ++ (0 :: x.id) := by
    unfold erB
    rw [show octB x.mode ++ 32 :: (x.name ++ 0 :: Lib.bytesOf x.id) = (octB x.mode ++ 32 :: x.name) ++ (0 :: Lib.bytesOf x.id) by simp, nums_app (octB x.mode ++ 32 :: x.name)]
    congr 1
    show 0 :: nums (Lib.bytesOf x.id) = _
    rw [nums_bytes x.id h]
  rw [e1]
  simp
set_option maxRecDepth 20000 in
set_option maxHeartbeats 4000000 in
theorem writeTree_any (a : Option Addr) (cap : Nat) (es : List Er) (hwf : WfE es) (hn : es.length ≤ 1000) (w : World) (hP : Pe w a cap es) (hd : Db w) :
    Calls Tryz.prog 37 #[.slice a es.length cap] w (PostW es w) := by
  obtain ⟨n, HN⟩ : ∃ n, Hid (es.length = n) := ⟨_, rfl⟩
  obtain ⟨G, HG⟩ : ∃ G, Hid (w.heap.size = G) := ⟨_, rfl⟩
  have hnn : n ≤ 1000 := by rw [← HN.out]; exact hn
  obtain ⟨zr, HZ⟩ : ∃ zr : Array Value, Hid (zr = (erV ⟨0, [], z20⟩).toArray) := ⟨_, rfl⟩
  have hz51 : ∀ w : World, (zeroValue 84).run Tryz.prog w = .ok (.agg zr) w := fun w => by rw [HZ.out]; exact zero51 w
  have HD : Hid (∀ W, Below G w W → Db W) := fun W hW => hd.below (by rw [HG.out]; exact hW)
  have HWF : Hid (WfE es) := hwf
  have C42 : Hid (Calls Tryz.prog 52 #[.slice a n cap] w fun e w' => BIs (okL es) e ∧ Below w.heap.size w w') := hid (by rw [← HN.out]; exact isTree_any a cap es hwf hn w hP)
  have HPA : Hid (∀ W, Below G w W → Pe W a cap es) := fun W hW => hP.below (by rw [HG.out]; exact hW)
  have HGS : Hid (G ≤ w.heap.size) := hid (by rw [HG.out]; exact Nat.le_refl _)
  rw [HN.out]
  clear hP hd hwf
  go_enter Tryz.func37, Tryz.ntmps37
  go_wp2_with fail
  refine C42.out.mono ?_
  rintro ev w1 ⟨hbi, hb1⟩
  rw [HG.out] at hb1
  have HB1 : Hid (Below G w w1) := hb1
  clear hb1
  rcases bis_or hbi with ⟨hok, rfl⟩ | ⟨hno, rfl⟩
  rotate_left
  · have HNO : Hid (¬ okL es) := hno
    clear hno hbi
    go_wp2
    go_ret2
    exact ⟨by rw [HG.out]; exact HB1.out, .inr ⟨HNO.out, rfl⟩⟩
  have HOK : Hid (okL es) := hok
  have HWN : Hid (WfN es) := fun x hx => ⟨(hok.1 x hx).2.2.1, (HWF.out x hx).1⟩
  clear hok hbi
  have hG1 : G ≤ w1.heap.size := Nat.le_trans HGS.out HB1.out.size
  obtain ⟨wv, HWV⟩ : ∃ wv, Hid (w1.alloc (.cells #[.slice a n cap] 72) = wv) := ⟨_, rfl⟩
  obtain ⟨Bs, HBs⟩ : ∃ B, Hid (w1.heap.size = B) := ⟨_, rfl⟩
  have HBV : Hid (Below G w wv) := hid (by rw [← HWV.out]; exact HB1.out.alloc hG1 _)
  have HBX : Hid (Boxed wv Bs 72 (.slice a n cap)) := hid (by rw [← HWV.out, ← HBs.out]; exact heap_alloc_new w1 _)
  have C44 : Hid (Calls Tryz.prog 54 #[.slice a n cap] w1 fun e w' => e = .returned (.func (.func 73) #[] #[.pointer (some ⟨Bs, 0, none⟩)]) ∧ w' = wv) := hid (by
    have := values_call a n cap w1
    rw [HWV.out, HBs.out] at this
    exact this)
  have C43 : Hid (Calls Tryz.prog 53 #[.func (.func 73) #[] #[.pointer (some ⟨Bs, 0, none⟩)], .func (.func 55) #[] #[]] wv (PostS wv es)) := hid
    (sortedFunc_any Bs a cap es wv HWF.out HWN.out (HPA.out _ HBV.out) hn (by rw [HN.out]; exact HBX.out))
  have hGv : G ≤ wv.heap.size := Nat.le_trans HGS.out HBV.out.size
  go_wp2_with (first
    | (go_at_call 54; refine C44.out.mono ?_; rintro ev w' ⟨rfl, hw'⟩; have hw'' := hw'.symm; subst hw''; clear hw')
    | (go_at_call 53; refine C43.out.mono ?_; rintro ev w2 ⟨a1, cap1, es', rfl, hpm, hsr, hpe, hb2⟩; rw [HN.out]; have hes := srtE_one es es' (okL_keys HOK.out) hpm hsr; subst hes; have HPM : Hid ((srtE es).Perm es) := hpm; have HPE2 : Hid (Pe w2 a1 cap1 (srtE es)) := hpe; have HB2 : Hid (Below G w w2) := HBV.out.trans (hb2.mono hGv); clear hpm hsr hpe hb2))
  obtain ⟨L, HL⟩ : ∃ L, Hid (srtE es = L) := ⟨_, rfl⟩
  obtain ⟨H, HH⟩ : ∃ H, Hid (w2.heap.size = H) := ⟨_, rfl⟩
  have HLN : Hid (L.length = n) := hid (by rw [← HL.out, HPM.out.length_eq]; exact HN.out)
  have HLX : Hid (∀ x ∈ L, okM x.mode ∧ okE x.name ∧ x.id.length = 20 ∧ ∀ k ∈ x.id, 0 ≤ k ∧ k < 256) := hid (by
    rw [← HL.out]
    intro x hx
    have hx' := HPM.out.subset hx
    exact ⟨(HOK.out.1 x hx').1, (HOK.out.1 x hx').2, HWF.out x hx'⟩)
  have HPL : Hid (∀ W, Below H w2 W → Pe W a1 cap1 L) := fun W hW => by
    rw [← HL.out]
    exact HPE2.out.below (by rw [HH.out]; exact hW)
  have HPB : Hid (0 < n → ∃ b off, a1 = some ⟨b, off, none⟩ ∧ b < H) := fun h0 => by
    obtain ⟨b, off, e1, e2, _⟩ := HPE2.out.at_ (by rw [HL.out, HLN.out]; exact h0)
    exact ⟨b, off, e1, by rw [← HH.out]; exact e2⟩
  have HD2 : Hid (∀ W, Below H w2 W → Db W) := fun W hW => HD.out W (HB2.out.trans (hW.mono (by rw [← HH.out]; exact Nat.le_trans HGS.out HB2.out.size)))
  have HGH : Hid (G ≤ H) := hid (by rw [← HH.out]; exact Nat.le_trans HGS.out HB2.out.size)
  have HTL : Hid (∀ i, (treeB (L.take i)).length ≤ 78000) := fun i => by
    have h1 := treeB_len (L.take i) (fun x hx => by
      have := HLX.out x (List.mem_of_mem_take hx)
      exact ⟨this.2.1.2.1, this.2.2.1⟩)
    have h2 : (L.take i).length ≤ 1000 := by rw [List.length_take, HLN.out]; omega
    omega
  go_wp2_with fail
  go_loopg [4, 15] n (fun g u iv wr => ∃ (i : Nat) (v : Value), v = u ∧ i ≤ n ∧ g = n - i ∧ iv = .int .i64 i ∧ Hid (Bd w2 wr H v (nums (treeB (L.take i)))))
  case atStart => exact ⟨0, _, rfl, Nat.zero_le _, rfl, rfl, hid (bd_nil w2 H (by rw [HH.out]; exact Nat.le_refl _))⟩
  case round =>
    obtain ⟨i, v, hv, hi, hk, rfl, HBD⟩ := hrel
    subst hv
    by_cases hlt : i < n
    · have hlti : (i : Int) < (n : Int) := by omega
      obtain ⟨b, off, hae, hbG⟩ := HPB.out (by omega)
      subst hae
      obtain ⟨b', off', e1, e2, e3⟩ := (HPL.out wr HBD.out.below).at_ (by rw [HLN.out]; omega)
      cases e1
      obtain ⟨x, HX⟩ : ∃ x, Hid (L.getD i default = x) := ⟨_, rfl⟩
      have hxm : x ∈ L := by
        rw [← HX.out, List.getD_eq_getElem?_getD, List.getElem?_eq_getElem (by rw [HLN.out]; exact hlt)]
        exact List.getElem_mem _
      have HXO : Hid (okM x.mode ∧ okE x.name ∧ x.id.length = 20 ∧ ∀ k ∈ x.id, 0 ≤ k ∧ k < 256) := hid (HLX.out x hxm)
      have hx20 := HXO.out.2.2.1
      obtain ⟨R, HR⟩ : ∃ R : List Value, Hid (erV x = R) := ⟨_, rfl⟩
      obtain ⟨S, HS⟩ : ∃ S : ByteArray, Hid ((⟨x.name.toArray⟩ : ByteArray) = S) := ⟨_, rfl⟩
      obtain ⟨m, HM⟩ : ∃ m, Hid (x.mode = m) := ⟨_, rfl⟩
      obtain ⟨O, HO⟩ : ∃ S : ByteArray, Hid ((⟨(octB m).toArray⟩ : ByteArray) = S) := ⟨_, rfl⟩
      have RR : Hid (wr.rangeAt b (off + i * 22) R) := hid (by rw [← HR.out, ← HX.out]; exact e3 i (by rw [HLN.out]; exact hlt))
      have HFN : Hid (R.length = 22) := hid (by rw [← HR.out]; exact erV_len x hx20)
      have hi51 : (Tryz.prog.info? 84).map (·.size) = some R.length := by rw [HFN.out]; exact size51
      have I51 : Hid ((Tryz.prog.info? 84).map (·.size) = some R.toArray.size) := hid (by rw [List.size_toArray]; exact hi51)
      have E51 : Hid (zr.size = R.toArray.size) := hid (by rw [HZ.out, List.size_toArray, List.size_toArray, HFN.out]; rfl)
      have O51 : Hid (R.toArray.all (·.oneCell') = true) := hid (by rw [← HR.out]; exact all_oneCell_toArray (erV_one _))
      have D0 : Hid ((wr.alloc (.cells zr 84)).heap[wr.heap.size]? = some (.cells zr 84 (0, 0))) := heap_alloc_new wr _
      obtain ⟨w3, HW3⟩ : ∃ w3, Hid ((wr.alloc (.cells zr 84)).setRow wr.heap.size R.toArray = w3) := ⟨_, rfl⟩
      obtain ⟨K, HK⟩ : ∃ K, Hid (wr.heap.size = K) := ⟨_, rfl⟩
      have hHK : H ≤ K := by rw [← HK.out]; exact HBD.out.le
      have hb3 : Below wr.heap.size wr w3 := by rw [← HW3.out]; exact below_setRow ((Below.refl _ wr).alloc (Nat.le_refl _) _) (Nat.le_refl _) _
      have B3 : Hid (w3.heap[K]? = some (.cells R.toArray 84 (0, 0))) := hid (by rw [← HW3.out, ← HK.out]; exact setRow_heap _ _ _ R.toArray _ _ D0.out)
      have hK3 : K < w3.heap.size := lt_of_some B3.out
      have HBD3 : Hid (Bd w2 w3.drew H v (nums (treeB (L.take i)))) := hid (HBD.out.carry (below_drewH hb3 1))
      have HQ3 : Hid (QW K m S w3.drew) := hid (by
        have hr := range_row B3.out
        rw [← HR.out] at hr
        exact ⟨by rw [← HM.out]; simpa using hr 0 _ rfl, by rw [← HS.out]; simpa using hr 1 _ rfl⟩)
      have HVB : Hid (∀ k, v.ownBlock = some k → k < K) := fun k hk => by rw [← HK.out]; exact (own_lt HBD.out.own k hk).2
      clear hb3 hxm e2 e3
      go_wp2_with (first
        | refine wpList_load_mid rfl 84 _ rfl b (off + i * 22) rfl R _ RR.out Tryz.underlying84 rfl hi51 ?_
        | (refine wpList_store_row rfl 84 _ _ rfl wr.heap.size R.toArray rfl rfl 84 zr D0.out I51.out E51.out O51.out ?_; rw [HW3.out, HK.out])
        | fail)
      refine wp_region_held_drew (S := QW K m S) (by kernel_rfl) (by exact HQ3.out) (fun hHeld => ?_)
      refine takeL (i := 0) (v := ?_) rfl (by kernel_rfl) (by kernel_rfl) (by kernel_rfl) (fun _ _ _ h => h) (Or.inl ⟨by rfl, ?_⟩) hHeld ?_
      rotate_left
      · rintro w' ⟨c0, c1⟩; go_simp; rfl
      try simp only [Act.put, List.setIfInBounds_toArray, List.set_cons_zero, List.set_cons_succ]
      refine takeL (i := 1) (v := ?_) rfl (by kernel_rfl) (by kernel_rfl) (by kernel_rfl) (fun _ _ _ h => h) (Or.inl ⟨by rfl, ?_⟩) hHeld ?_
      rotate_left
      · rintro w' ⟨c0, c1⟩; go_simp; rfl
      try simp only [Act.put, List.setIfInBounds_toArray, List.set_cons_zero, List.set_cons_succ]
      refine takeL (i := 2) (v := ?_) rfl (by kernel_rfl) (by kernel_rfl) (by kernel_rfl) (fun _ _ _ h => h) (Or.inl ⟨by rfl, ?_⟩) hHeld ?_
      rotate_left
      · rintro w' ⟨c0, c1⟩; go_simp; rfl
      try simp only [Act.put, List.setIfInBounds_toArray, List.set_cons_zero, List.set_cons_succ]
      refine takeL (i := 4) (v := ?_) rfl (by kernel_rfl) (by kernel_rfl) (by kernel_rfl) (fun _ _ _ h => h) (Or.inl ⟨by rfl, ?_⟩) hHeld ?_
      rotate_left
      · rintro w' ⟨c0, c1⟩; go_simp; rfl
      try simp only [Act.put, List.setIfInBounds_toArray, List.set_cons_zero, List.set_cons_succ]
      refine takeL (i := 5) (v := ?_) rfl (by kernel_rfl) (by kernel_rfl) (by kernel_rfl) (fun _ _ _ h => h) (Or.inl ⟨by rfl, ?_⟩) hHeld ?_
      rotate_left
      · rintro w' ⟨c0, c1⟩; go_simp; rfl
      try simp only [Act.put, List.setIfInBounds_toArray, List.set_cons_zero, List.set_cons_succ]
      have CM : Hid (Calls Tryz.prog 57 #[.int .i64 m] w3.drew fun e w' => e = .returned (.string O) ∧ Below w3.heap.size w3.drew w') := hid (by
        rw [← HO.out]
        exact modeText_any m (by rw [← HM.out]; exact HXO.out.1) w3.drew (HD2.out _ HBD3.out.below))
      refine wpAnyH_ready (rs := [3]) (by kernel_rfl) (by simp) ?_
      refine consL rfl (fun KK hKK => ?_) AllReadyH.nil
      refine step_callv (by rfl) 57 [.tmp 21] _ [.int .i64 m] _ (by rfl) (by rfl) (enter47 _) CM.out ?_
      rintro e w4 ⟨rfl, hb4⟩
      refine ⟨_, rfl, ?_⟩
      have HBD4 : Hid (Bd w2 w4 H v (nums (treeB (L.take i)))) := hid (HBD3.out.carry hb4)
      have HQ4 : Hid (QW K m S w4) := hid (HQ3.out.below hb4 hK3)
      have B4 : Hid (w4.heap[K]? = some (.cells R.toArray 84 (0, 0))) := hid ((hb4.block K hK3).trans B3.out)
      have hK4 : K < w4.heap.size := Nat.lt_of_lt_of_le hK3 hb4.size
      refine hKK.out _ _ HQ4.out (fun hHeld => ?_)
      clear hKK KK hb4
      try simp only [Act.put, List.setIfInBounds_toArray, List.set_cons_zero, List.set_cons_succ]
      obtain ⟨w5, HW5⟩ : ∃ w5, Hid (w4.alloc (.cells #[.string O, .string S] 9) = w5) := ⟨_, rfl⟩
      obtain ⟨q, HQB⟩ : ∃ q, Hid (w4.heap.size = q) := ⟨_, rfl⟩
      have hb5 : Below w4.heap.size w4 w5 := by rw [← HW5.out]; exact (Below.refl _ _).alloc (Nat.le_refl _) _
      have HBD5 : Hid (Bd w2 w5 H v (nums (treeB (L.take i)))) := hid (HBD4.out.carry hb5)
      have HQ5 : Hid (QW K m S w5) := hid (HQ4.out.below hb5 hK4)
      have B5 : Hid (w5.heap[K]? = some (.cells R.toArray 84 (0, 0))) := hid ((hb5.block K hK4).trans B4.out)
      have hK5 : K < w5.heap.size := Nat.lt_of_lt_of_le hK4 hb5.size
      clear hb5
      refine wpAnyH_ready (rs := [6]) (by kernel_rfl) (by simp) ?_
      refine consL rfl (fun KK hKK => ?_) AllReadyH.nil
      refine step_exec (by rfl) (.slice (some ⟨q, 0, none⟩) 2 2) (w' := w5) (by rw [← HW5.out, ← HQB.out]; go_simp) ?_
      refine hKK.out _ _ HQ5.out (fun hHeld => ?_)
      clear hKK KK
      try simp only [Act.put, List.setIfInBounds_toArray, List.set_cons_zero, List.set_cons_succ]
      have CW : Hid (Calls Tryz.prog 56 #[.slice (some ⟨q, 0, none⟩) 2 2] w5 fun e w' => e = .returned (.string ⟨(octB m ++ 32 :: x.name).toArray⟩) ∧ Below w5.heap.size w5 w') := hid (by
        rw [← HQB.out]
        exact words_two (octB m) x.name w4 w5 (by have := octB_len m; have := HXO.out.2.1.2.1; omega) (by rw [HO.out, HS.out, HW5.out]))
      refine wpAnyH_ready (rs := [7]) (by kernel_rfl) (by simp) ?_
      refine consL rfl (fun KK hKK => ?_) AllReadyH.nil
      refine step_callv (by rfl) 56 [.tmp 25] _ [.slice (some ⟨q, 0, none⟩) 2 2] _ (by rfl) (by rfl) (enter46' _) CW.out ?_
      rintro e w6 ⟨rfl, hb6⟩
      refine ⟨_, rfl, ?_⟩
      have HBD6 : Hid (Bd w2 w6 H v (nums (treeB (L.take i)))) := hid (HBD5.out.carry hb6)
      have HQ6 : Hid (QW K m S w6) := hid (HQ5.out.below hb6 hK5)
      have hK6 : K < w6.heap.size := Nat.lt_of_lt_of_le hK5 hb6.size
      have B6 : Hid (w6.heap[K]? = some (.cells R.toArray 84 (0, 0))) := hid ((hb6.block K hK5).trans B5.out)
      refine hKK.out _ _ HQ6.out (fun hHeld => ?_)
      clear hKK KK hb6
      try simp only [Act.put, List.setIfInBounds_toArray, List.set_cons_zero, List.set_cons_succ]
      obtain ⟨v7, w7, hr7, hbd7, hg7⟩ := HBD6.out.str (octB m ++ 32 :: x.name) (by have h1 := HTL.out i; have h2 := octB_len m; have h3 := HXO.out.2.1.2.1; rw [nums_len]; simp only [List.length_append, List.length_cons]; omega)
      have B7 : Hid (w7.heap[K]? = some (.cells R.toArray 84 (0, 0))) := hid (HBD6.out.keep hg7 B6.out (by decide))
      have HQ7 : Hid (QW K m S w7) := hid (HQ6.out.grown hg7 hK6 (HBD6.out.ne B6.out (by decide)))
      have HBD7 : Hid (Bd w2 w7 H v7 (nums (treeB (L.take i)) ++ nums (octB m ++ 32 :: x.name))) := hbd7
      refine wpAnyH_ready (rs := [8]) (by kernel_rfl) (by simp) ?_
      refine consL rfl (fun KK hKK => ?_) AllReadyH.nil
      refine step_exec (by rfl) v7 (w' := w7) (by unfold execOp; simp only [resolve, invoke, builtin, Sem.run_bind, Sem.run_pure, Result.andThen_ok, List.map_toArray, List.map_cons, List.map_nil]; exact (congrArg (fun r => Result.andThen r _) hr7).trans rfl) ?_
      refine hKK.out _ _ HQ7.out (fun hHeld => ?_)
      clear hKK KK hr7 hbd7 hg7
      try simp only [Act.put, List.setIfInBounds_toArray, List.set_cons_zero, List.set_cons_succ]
      refine takeL (i := 9) (v := ?_) rfl (by kernel_rfl) (by kernel_rfl) (by kernel_rfl) (fun _ _ _ h => h) (Or.inl ⟨by rfl, ?_⟩) hHeld ?_
      rotate_left
      · rintro w' ⟨c0, c1⟩; go_simp; rfl
      try simp only [Act.put, List.setIfInBounds_toArray, List.set_cons_zero, List.set_cons_succ]
      refine wpAnyH_done (by kernel_rfl) ?_ _
      have hl7 : (nums (treeB (L.take i)) ++ nums (octB m ++ 32 :: x.name)).length + 1 ≤ 1000000 := by have h1 := HTL.out i; have h2 := octB_len m; have h3 := HXO.out.2.1.2.1; rw [List.length_append, nums_len, nums_len]; simp only [List.length_append, List.length_cons]; omega
      have hl8 : ((nums (treeB (L.take i)) ++ nums (octB m ++ 32 :: x.name)) ++ [0]).length + x.id.length ≤ 1000000 := by have h1 := HTL.out i; have h2 := octB_len m; have h3 := HXO.out.2.1.2.1; rw [List.length_append, List.length_append, nums_len, nums_len]; simp only [List.length_append, List.length_cons, List.length_nil]; omega
      clear hHeld
      go_wp2_with (first
        | (at_builtin; refine wpList_bd_slG rfl _ _ rfl H _ _ rfl (HBD7.out.alloc _) _ _ [0] rfl (sl_one _ _) hl7 ?_; intro v8 w8 hbd8 hg8; have B8 : Hid (w8.heap[K]? = some (.cells R.toArray 84 (0, 0))) := hid ((HBD7.out.alloc _).keep hg8 ((((Below.refl w7.heap.size w7).alloc (Nat.le_refl _) _).block K (lt_of_some B7.out)).trans B7.out) (by decide)); have HBD8 : Hid (Bd w2 w8 H v8 ((nums (treeB (L.take i)) ++ nums (octB m ++ 32 :: x.name)) ++ [0])) := hbd8; clear hbd8 hg8)
        | (at_builtin; refine wpList_bd_slG rfl _ _ rfl H _ _ rfl HBD8.out (some ⟨K, 2, none⟩) 20 x.id (by rw [hx20]; rfl) (id_sl HR.out B8.out hx20) hl8 ?_; intro v9 w9 hbd9 hg9; have HBD9 : Hid (Bd w2 w9 H v9 (((nums (treeB (L.take i)) ++ nums (octB m ++ 32 :: x.name)) ++ [0]) ++ x.id)) := hbd9; clear hbd9 hg9)
        | fail)
      go_roundg (n - (i + 1))
      case measure => omega
      case rel =>
        refine ⟨i + 1, _, rfl, by omega, rfl, by go_num, hid ?_⟩
        have h9 := HBD9.out
        rw [← HM.out, er_out _ x HXO.out.2.2.2, ← nums_app, ← treeB_snoc, ← HX.out, ← take_snocE L i (by rw [HLN.out]; exact hlt)] at h9
        exact h9
    · have hlti : ¬ (i : Int) < (n : Int) := by omega
      have htk : L.take i = L := List.take_of_length_le (by rw [HLN.out]; omega)
      have HBE : Hid (Bd w2 wr H v (nums (treeB L))) := hid (by have := HBD.out; rw [htk] at this; exact this)
      obtain ⟨a9, c9, rfl, hsl⟩ := HBE.out.sl
      have HSL : Hid (Sl wr a9 c9 (nums (treeB L))) := hsl
      have HBZ : Hid (Below G w wr) := hid (HB2.out.trans (HBE.out.below.mono HGH.out))
      clear htk hsl
      go_wp2
      go_ret2
      refine ⟨by rw [HG.out]; exact HBZ.out, .inl ⟨HOK.out, a9, c9, ?_, ?_⟩⟩
      · rw [HL.out, ← nums_len (treeB L)]; rfl
      · rw [HL.out]; exact HSL.out
end Go.Proofs.YtikmbjfambjmaaaGreatDoor
namespace Go.Proofs.YtikmbjfambjmaaaGreatDoor
open Go.RowKit
set_option linter.unusedVariables false
set_option linter.unusedSimpArgs false
theorem ext_txt (s : List UInt8) (i j : Nat) : (⟨s.toArray⟩ : ByteArray).extract i j = ⟨((s.drop i).take (j - i)).toArray⟩ := by
  apply ByteArray.ext
  simp [ByteArray.data_extract, List.extract]
theorem txt_len (s : List UInt8) : (⟨s.toArray⟩ : ByteArray).size = s.length := by simp [ByteArray.size]
theorem slice_from (s : List UInt8) (i : Nat) (h : i ≤ s.length) (w : World) : (Instr.slice 9 (.string ⟨s.toArray⟩) (some (.int .i64 i)) none none).run Tryz.prog w = .ok (.string ⟨(s.drop i).toArray⟩) w := by
  rw [run_slice_string_from_if w 9 _ .i64 i Tryz.underlying9, if_pos ⟨by omega, by rw [txt_len]; omega⟩, Int.toNat_natCast, ext_txt, txt_len, List.take_of_length_le (by rw [List.length_drop]; omega)]
end Go.Proofs.YtikmbjfambjmaaaGreatDoor
namespace Go.Proofs.YtikmbjfambjmaaaGreatDoor
open Go.RowKit Go.Shelf
set_option linter.unusedVariables false
set_option linter.unusedSimpArgs false
def oct8 : Nat → List UInt8 → Option Nat
  | acc, [] => some acc
  | acc, c :: t => if 48 ≤ c.toNat ∧ c.toNat ≤ 55 ∧ acc * 8 + (c.toNat - 48) ≤ 4294967295 then oct8 (acc * 8 + (c.toNat - 48)) t else none
def PU (l : List UInt8) (e : Ending) : Prop := ∃ (v : Int) (ev : Value), e = .returned (.tuple #[.int .u64 v, ev]) ∧ 0 ≤ v ∧ v ≤ 4294967295 ∧ (ev = .nilIface ∨ ev = .iface 194 (.int .i64 1) ∨ ev = .iface 194 (.int .i64 2)) ∧ (∀ r, l ≠ [] → oct8 0 l = some r → v = r ∧ ev = .nilIface)
theorem PU.bad1 {l : List UInt8} (h : l = [] ∨ oct8 0 l = none) (v : Int) (h0 : 0 ≤ v) (h1 : v ≤ 4294967295) : PU l (.returned (.tuple #[.int .u64 v, .iface 194 (.int .i64 1)])) :=
  ⟨v, _, rfl, h0, h1, .inr (.inl rfl), fun r hn hr => by
    rcases h with h | h
    · exact absurd h hn
    · rw [h] at hr; cases hr⟩
theorem PU.bad2 {l : List UInt8} (h : l = [] ∨ oct8 0 l = none) : PU l (.returned (.tuple #[.int .u64 0, .iface 194 (.int .i64 2)])) :=
  ⟨0, _, rfl, by decide, by decide, .inr (.inr rfl), fun r hn hr => by
    rcases h with h | h
    · exact absurd h hn
    · rw [h] at hr; cases hr⟩
theorem lower_any (c : Int) (w : World) : Calls Tryz.prog 132 #[.int .u8 c] w fun e w' => e = .returned (.int .u8 (bits .or .u8 c 32)) ∧ w' = w := by
  go_enter Tryz.func132, Tryz.ntmps132
  go_wp2
  go_ret
  exact ⟨rfl, rfl⟩
set_option maxHeartbeats 8000000 in
set_option maxRecDepth 100000 in
theorem parseUint8 (l : List UInt8) (hl : l.length ≤ 1000000) (w : World) :
    Calls Tryz.prog 104 #[.string ⟨l.toArray⟩, .int .i64 8, .int .i64 32] w fun e w' => PU l e ∧ Below w.heap.size w w' := by
  by_cases hne : l = []
  · subst hne
    have HB : Hid (Below w.heap.size w w) := Below.refl _ _
    go_enter Tryz.func104, Tryz.ntmps104
    go_wp2
    go_ret2
    exact ⟨PU.bad2 (.inl rfl), HB.out⟩
  · obtain ⟨S, HS⟩ : ∃ S : ByteArray, Hid (S = ⟨l.toArray⟩) := ⟨_, rfl⟩
    obtain ⟨n, HN⟩ : ∃ n, Hid (l.length = n) := ⟨_, rfl⟩
    have hn : n ≤ 1000000 := by rw [← HN.out]; exact hl
    have hemp : S.toList.isEmpty = false := by
      rw [HS.out, Lib.toList_data]
      simpa using hne
    obtain ⟨cap, w1, hcv, hmk, hb1, _⟩ := conv_mk l w
    rw [← HS.out, HN.out] at hcv
    have HB1 : Hid (Below w.heap.size w w1) := hb1
    have HM : Hid (Mk w1 w.heap.size cap (nums l)) := hmk
    have hmv : IntKind.u64.wrap (IntKind.u64.wrap 4294967296 - 1) = 4294967295 := by
      rw [IntKind.wrap_u64, IntKind.wrap_u64]
      decide
    rw [← HS.out]
    clear hmk hb1
    go_enter Tryz.func104, Tryz.ntmps104
    go_wp2
    go_loop [12, 13, 101] (fun vu vn vi => ∃ (k acc : Nat) (a : Int), vu = .bool false ∧ vn = .int .u64 a ∧ vi = .int .i64 k ∧ k ≤ n ∧ Hid (a = (acc : Int) ∧ acc ≤ 4294967295 ∧ oct8 0 l = oct8 acc (l.drop k)))
      (fun _ _ vi => n - (intOf vi).toNat)
    case atStart => exact ⟨0, 0, 0, rfl, rfl, rfl, by omega, rfl, by omega, rfl⟩
    case round =>
      obtain ⟨k, acc, a, rfl, rfl, rfl, hk, hh⟩ := hrel
      obtain ⟨ha, hacc, hdec⟩ := hh.out
      clear hh
      have a0 : 0 ≤ a := by omega
      have a1 : a ≤ 4294967295 := by omega
      by_cases hkn : k < n
      · have hkl : k < l.length := by rw [HN.out]; exact hkn
        have hdrop : l.drop k = l[k]'hkl :: l.drop (k + 1) := List.drop_eq_getElem_cons hkl
        have hc : w1.cell? ⟨w.heap.size, k, none⟩ = some (.int .u8 ((l[k]'hkl).toNat : Int)) := by
          have := HM.out.at_ k (by rw [nums_len]; exact hkl)
          rw [Nat.zero_add] at this
          rw [this]
          simp [nums, List.getD_eq_getElem?_getD, List.getElem?_eq_getElem hkl]
        rw [hdrop] at hdec
        generalize l[k]'hkl = c at hc hdec
        have hc256 : c.toNat < 256 := c.toNat_lt
        clear hdrop
        by_cases hdig : 48 ≤ c.toNat ∧ c.toNat ≤ 55
        · obtain ⟨hd0, hd1⟩ := hdig
          by_cases hov : 4294967295 < acc * 8 + (c.toNat - 48)
          · have hF : oct8 0 l = none := by rw [hdec]; simp only [oct8]; rw [if_neg (by omega)]
            have HP : Hid (PU l (.returned (.tuple #[.int .u64 4294967295, .iface 194 (.int .i64 1)]))) := hid (PU.bad1 (.inr hF) _ (by decide) (by decide))
            have iov : 4294967295 < a * 8 + ((c.toNat : Int) - 48) := by omega
            clear hacc hF hov ha hdec
            go_wp2
            go_ret2
            exact ⟨HP.out, HB1.out⟩
          · have HN2 : Hid (a * 8 + ((c.toNat : Int) - 48) = ((acc * 8 + (c.toNat - 48) : Nat) : Int) ∧ acc * 8 + (c.toNat - 48) ≤ 4294967295 ∧ oct8 0 l = oct8 (acc * 8 + (c.toNat - 48)) (l.drop (k + 1))) := hid ⟨by omega, by omega, by
              rw [hdec]; simp only [oct8]; rw [if_pos (by omega)]⟩
            have iov : a * 8 + ((c.toNat : Int) - 48) ≤ 4294967295 := by omega
            clear hacc hov hdec ha
            go_wp2
            refine ⟨⟨k + 1, acc * 8 + (c.toNat - 48), a * 8 + ((c.toNat : Int) - 48), rfl, (by first | rfl | (congr 1; omega)), (by first | rfl | (congr 1; omega)), by omega, HN2⟩, by simp [intOf]; omega⟩
        · have hF : oct8 0 l = none := by rw [hdec]; simp only [oct8]; rw [if_neg (by omega)]
          have HP : Hid (PU l (.returned (.tuple #[.int .u64 0, .iface 194 (.int .i64 2)]))) := hid (PU.bad2 (.inr hF))
          clear hacc hF ha hdec
          have hv0 := bits_lo_u8 .or (c.toNat : Int) 32
          have hv1 := bits_hi_u8 .or (c.toNat : Int) 32
          have hu0 := bits_lo_u8 .or 95 32
          have hu1 := bits_hi_u8 .or 95 32
          go_wp2_with (go_at_call 132; refine (lower_any _ _).mono ?_; rintro e w' ⟨rfl, rfl⟩)
          all_goals go_ret2
          all_goals exact ⟨HP.out, HB1.out⟩
      · have hkk : k = n := by omega
        subst hkk
        have hF : oct8 0 l = some acc := by rw [hdec, List.drop_eq_nil_of_le (by rw [HN.out]; exact Nat.le_refl _)]; rfl
        have HP : Hid (PU l (.returned (.tuple #[.int .u64 a, .nilIface]))) := hid ⟨a, _, rfl, a0, a1, .inl rfl, fun r _ hr => by
          rw [hF] at hr
          cases hr
          exact ⟨ha, rfl⟩⟩
        clear hacc hF hdec ha
        go_wp2
        go_ret2
        exact ⟨HP.out, HB1.out⟩
end Go.Proofs.YtikmbjfambjmaaaGreatDoor
namespace Go.Proofs.YtikmbjfambjmaaaGreatDoor
open Go.RowKit Go.Shelf
set_option linter.unusedVariables false
set_option linter.unusedSimpArgs false
def PI (l : List UInt8) (e : Ending) : Prop := ∃ (v : Int) (ev : Value), e = .returned (.tuple #[.int .i64 v, ev]) ∧ (ev = .nilIface ∨ ev = .iface 194 (.int .i64 1) ∨ ev = .iface 194 (.int .i64 2)) ∧ (∀ m, okM m → l = octB m → v = m ∧ ev = .nilIface)
theorem oct_read (m : Int) (h : okM m) : octB m ≠ [] ∧ oct8 0 (octB m) = some m.toNat ∧ 0 ≤ m ∧ m < 65536 ∧ ∀ c t, octB m = c :: t → c ≠ 43 ∧ c ≠ 45 := by
  rcases h with rfl | rfl | rfl | rfl
  all_goals
    refine ⟨by decide, by decide, by decide, by decide, ?_⟩
    intro c t h
    rw [show octB _ = _ from rfl] at h
    revert h
    simp only [octB]
    simp
    rintro rfl _
    decide
theorem neq_range (w : World) : (binOp .neq 38 (.iface 194 (.int .i64 1)) (.iface 194 (.int .i64 1))).run Tryz.prog w = .ok (.bool false) w := by kernel_rfl
theorem neq_syntax (w : World) : (binOp .neq 38 (.iface 194 (.int .i64 2)) (.iface 194 (.int .i64 1))).run Tryz.prog w = .ok (.bool true) w := by kernel_rfl
set_option maxHeartbeats 4000000 in
set_option maxRecDepth 100000 in
theorem parseInt8 (l : List UInt8) (hl : l.length ≤ 1000000) (w : World) :
    Calls Tryz.prog 86 #[.string ⟨l.toArray⟩, .int .i64 8, .int .i64 32] w fun e w' => PI l e ∧ Below w.heap.size w w' := by
  match l, hl with
  | [], _ =>
    have HB : Hid (Below w.heap.size w w) := Below.refl _ _
    have HP : Hid (PI [] (.returned (.tuple #[.int .i64 0, .iface 194 (.int .i64 2)]))) := ⟨0, _, rfl, .inr (.inr rfl), fun m hm h => absurd h.symm (oct_read m hm).1⟩
    go_enter Tryz.func86, Tryz.ntmps86
    go_wp2
    go_ret2
    exact ⟨HP.out, HB.out⟩
  | c :: t, hl =>
    obtain ⟨l, HL⟩ : ∃ l, Hid (c :: t = l) := ⟨_, rfl⟩
    have hemp : (⟨l.toArray⟩ : ByteArray).toList.isEmpty = false := by rw [Lib.toList_data, ← HL.out]; rfl
    have hix0 : ∀ w1 : World, (Instr.index 9 (.string ⟨l.toArray⟩) (.int .i64 0)).run Tryz.prog w1 = .ok (.int .u8 (c.toNat : Int)) w1 := fun w1 => by
      rw [← HL.out]
      exact index_txt (c :: t) 0 w1 c rfl
    have hsl : ∀ w1 : World, (Instr.slice 9 (.string ⟨l.toArray⟩) (some (.int .i64 1)) none none).run Tryz.prog w1 = .ok (.string ⟨t.toArray⟩) w1 := fun w1 => by
      rw [← HL.out]
      exact slice_from (c :: t) 1 (by simp) w1
    obtain ⟨S, HS⟩ : ∃ S : ByteArray, Hid (⟨l.toArray⟩ = S) := ⟨_, rfl⟩
    obtain ⟨T, HT⟩ : ∃ T : ByteArray, Hid (⟨t.toArray⟩ = T) := ⟨_, rfl⟩
    have CS : Hid (∀ w, Calls Tryz.prog 104 #[.string S, .int .i64 8, .int .i64 32] w fun e w' => PU l e ∧ Below w.heap.size w w') := fun w => by
      rw [← HS.out]; exact parseUint8 l (by rw [← HL.out]; exact hl) w
    have CT : Hid (∀ w, Calls Tryz.prog 104 #[.string T, .int .i64 8, .int .i64 32] w fun e w' => PU t e ∧ Below w.heap.size w w') := fun w => by
      rw [← HT.out]; exact parseUint8 t (by simp at hl; omega) w
    obtain ⟨x, HX⟩ : ∃ x : Int, Hid ((c.toNat : Int) = x) := ⟨_, rfl⟩
    have hx : 0 ≤ x ∧ x < 256 := by rw [← HX.out]; have := c.toNat_lt; omega
    have HM : Hid (∀ m, okM m → l = octB m → x ≠ 43 ∧ x ≠ 45) := fun m hm h => by
      rw [← HL.out] at h
      have h2 := (oct_read m hm).2.2.2.2 c t h.symm
      rw [← HX.out]
      exact ⟨fun e => h2.1 (UInt8.toNat_inj.1 (by show c.toNat = 43; omega)), fun e => h2.2 (UInt8.toNat_inj.1 (by show c.toNat = 45; omega))⟩
    have hcut : IntKind.u64.wrap (IntKind.u64.wrap 2147483648 - 1) = 2147483647 := by
      rw [IntKind.wrap_u64, IntKind.wrap_u64]
      decide
    have hq1 := neq_range
    have hq2 := neq_syntax
    rw [HL.out]
    rw [HS.out, HX.out] at hix0
    rw [HS.out, HT.out] at hsl
    rw [HS.out] at hemp
    rw [HS.out]
    by_cases h43 : x = 43
    · subst h43
      have HNO : Hid (∀ m, okM m → l ≠ octB m) := fun m hm h => (HM.out m hm h).1 rfl
      clear hx
      go_enter Tryz.func86, Tryz.ntmps86
      go_wp2_with fail
      refine (CT.out w).mono ?_
      rintro ev w1 ⟨⟨v, er, rfl, h0, h1, hor, _⟩, hb⟩
      have HB : Hid (Below w.heap.size w w1) := hb
      have HP : Hid (∀ (v : Int) (ev : Value), (ev = .nilIface ∨ ev = .iface 194 (.int .i64 1) ∨ ev = .iface 194 (.int .i64 2)) → PI l (.returned (.tuple #[.int .i64 v, ev]))) := fun v ev h => ⟨v, ev, rfl, h, fun m hm e => absurd e (HNO.out m hm)⟩
      clear hb
      by_cases hv : v < 2147483648
      · have hv2 : ¬ 2147483648 ≤ v := by omega
        rcases hor with rfl | rfl | rfl
        all_goals
          go_wp2
          go_ret2
          exact ⟨HP.out _ _ (by simp), HB.out⟩
      · have hv2 : 2147483648 ≤ v := by omega
        rcases hor with rfl | rfl | rfl
        all_goals
          go_wp2
          go_ret2
          exact ⟨HP.out _ _ (by simp), HB.out⟩
    · by_cases h45 : x = 45
      · subst h45
        have HNO : Hid (∀ m, okM m → l ≠ octB m) := fun m hm h => (HM.out m hm h).2 rfl
        clear hx
        go_enter Tryz.func86, Tryz.ntmps86
        go_wp2_with fail
        refine (CT.out w).mono ?_
        rintro ev w1 ⟨⟨v, er, rfl, h0, h1, hor, _⟩, hb⟩
        have HB : Hid (Below w.heap.size w w1) := hb
        have HP : Hid (∀ (v : Int) (ev : Value), (ev = .nilIface ∨ ev = .iface 194 (.int .i64 1) ∨ ev = .iface 194 (.int .i64 2)) → PI l (.returned (.tuple #[.int .i64 v, ev]))) := fun v ev h => ⟨v, ev, rfl, h, fun m hm e => absurd e (HNO.out m hm)⟩
        clear hb
        by_cases hv : v ≤ 2147483648
        · have hv2 : ¬ 2147483648 < v := by omega
          rcases hor with rfl | rfl | rfl
          all_goals
            go_wp2
            go_ret2
            exact ⟨HP.out _ _ (by simp), HB.out⟩
        · have hv2 : 2147483648 < v := by omega
          rcases hor with rfl | rfl | rfl
          all_goals
            go_wp2
            go_ret2
            exact ⟨HP.out _ _ (by simp), HB.out⟩
      · have b1 : (x == 43) = false := by simpa using h43
        have b2 : (x == 45) = false := by simpa using h45
        go_enter Tryz.func86, Tryz.ntmps86
        go_wp2_with fail
        refine (CS.out w).mono ?_
        rintro ev w1 ⟨⟨v, er, rfl, h0, h1, hor, hrd⟩, hb⟩
        have HB : Hid (Below w.heap.size w w1) := hb
        have HRD : Hid (∀ m, okM m → l = octB m → v = m ∧ v < 65536 ∧ er = .nilIface) := fun m hm e => by
          have h2 := oct_read m hm
          have h3 := hrd m.toNat (by rw [e]; exact h2.1) (by rw [e]; exact h2.2.1)
          rw [Int.toNat_of_nonneg h2.2.2.1] at h3
          exact ⟨h3.1, by rw [h3.1]; exact h2.2.2.2.1, h3.2⟩
        clear hb hrd
        by_cases hv : v < 2147483648
        · have hv2 : ¬ 2147483648 ≤ v := by omega
          rcases hor with rfl | rfl | rfl
          · have HP : Hid (PI l (.returned (.tuple #[.int .i64 v, .nilIface]))) := ⟨v, _, rfl, .inl rfl, fun m hm e => ⟨(HRD.out m hm e).1, rfl⟩⟩
            go_wp2
            go_ret2
            exact ⟨HP.out, HB.out⟩
          all_goals
            have HP : Hid (∀ (v : Int) (ev : Value), (ev = .nilIface ∨ ev = .iface 194 (.int .i64 1) ∨ ev = .iface 194 (.int .i64 2)) → PI l (.returned (.tuple #[.int .i64 v, ev]))) := fun v ev h => ⟨v, ev, rfl, h, fun m hm e => by have := (HRD.out m hm e).2.2; cases this⟩
            go_wp2
            go_ret2
            exact ⟨HP.out _ _ (by simp), HB.out⟩
        · have hv2 : 2147483648 ≤ v := by omega
          have HP : Hid (∀ (v : Int) (ev : Value), (ev = .nilIface ∨ ev = .iface 194 (.int .i64 1) ∨ ev = .iface 194 (.int .i64 2)) → PI l (.returned (.tuple #[.int .i64 v, ev]))) := fun v ev h => ⟨v, ev, rfl, h, fun m hm e => by have := (HRD.out m hm e).2.1; omega⟩
          rcases hor with rfl | rfl | rfl
          all_goals
            go_wp2
            go_ret2
            exact ⟨HP.out _ _ (by simp), HB.out⟩
def PMo (l : List UInt8) (e : Ending) : Prop := ∃ v : Int, e = .returned (.int .i64 v) ∧ ∀ m, okM m → l = octB m → v = m
set_option maxHeartbeats 4000000 in
set_option maxRecDepth 100000 in
theorem parseIntP8 (l : List UInt8) (hl : l.length ≤ 1000000) (w : World) (he : Ers w) :
    Calls Tryz.prog 68 #[.string ⟨l.toArray⟩, .int .i64 8, .int .i64 32] w fun e w' => Below w.heap.size w w' ∧ ∃ (v : Int) (ev : Value), e = .returned (.tuple #[.int .i64 v, ev]) ∧ (ev = .nilIface ∨ ∃ N, ev = .iface 197 (.pointer (some ⟨N, 0, none⟩))) ∧ (∀ m, okM m → l = octB m → v = m ∧ ev = .nilIface) := by
  have HI : Hid (Calls Tryz.prog 86 #[.string ⟨l.toArray⟩, .int .i64 8, .int .i64 32] w fun e w' => PI l e ∧ Below w.heap.size w w') := parseInt8 l hl w
  obtain ⟨S, HS⟩ : ∃ S : ByteArray, Hid (⟨l.toArray⟩ = S) := ⟨_, rfl⟩
  have hsz : S.size ≤ 281474976710656 := by rw [← HS.out, txt_len]; omega
  have HE : Hid (Ers w) := he
  rw [HS.out] at HI
  rw [HS.out]
  clear he
  go_enter Tryz.func68, Tryz.ntmps68
  go_wp2_with fail
  refine HI.out.mono ?_
  rintro ev w1 ⟨⟨v, er, rfl, hor, hrd⟩, hb⟩
  have HB : Hid (Below w.heap.size w w1) := hb
  have HRD : Hid (∀ m, okM m → l = octB m → v = m ∧ er = .nilIface) := hrd
  obtain ⟨⟨e1, hv1, hev1⟩, ⟨e2, hv2, hev2⟩⟩ := HE.out.below hb
  clear hb hrd
  rcases hor with rfl | rfl | rfl
  · clear hv1 hv2 hev1 hev2
    go_wp2
    go_ret2
    exact ⟨HB.out, v, _, rfl, .inl rfl, fun m hm e => ⟨(HRD.out m hm e).1, rfl⟩⟩
  · have C : Hid (Calls Tryz.prog 87 #[.string ⟨#[80, 97, 114, 115, 101, 73, 110, 116]⟩, .string S, .int .i64 8, .int .i64 32, .iface 194 (.int .i64 1)] w1 fun e w' => ∃ N, e = .returned (.iface 197 (.pointer (some ⟨N, 0, none⟩))) ∧ Below w1.heap.size w1 w') := hid (by
      refine (Any.strconv_toError_range (ρ := Tryz.laysC174_ren) { Tryz.laysC174 with } ⟨#[80, 97, 114, 115, 101, 73, 110, 116]⟩ S 8 32 e2 w1 hsz hv2 hev2).mono ?_
      rintro e w2 ⟨N, rfl, h1, h2, h3⟩
      exact ⟨N, rfl, h3⟩)
    clear hv1 hv2 hev1 hev2
    go_wp2_with fail
    refine C.out.mono ?_
    rintro e w2 ⟨N, rfl, hb⟩
    have HB2 : Hid (Below w.heap.size w w2) := HB.out.trans (hb.mono HB.out.size)
    clear hb
    go_wp2
    go_ret2
    exact ⟨HB2.out, v, _, rfl, .inr ⟨N, rfl⟩, fun m hm e => by have := (HRD.out m hm e).2; cases this⟩
  · have C : Hid (Calls Tryz.prog 87 #[.string ⟨#[80, 97, 114, 115, 101, 73, 110, 116]⟩, .string S, .int .i64 8, .int .i64 32, .iface 194 (.int .i64 2)] w1 fun e w' => ∃ N, e = .returned (.iface 197 (.pointer (some ⟨N, 0, none⟩))) ∧ Below w1.heap.size w1 w') := hid (by
      refine (Any.strconv_toError_syntax (ρ := Tryz.laysC174_ren) { Tryz.laysC174 with } ⟨#[80, 97, 114, 115, 101, 73, 110, 116]⟩ S 8 32 e1 w1 hsz hv1 hev1).mono ?_
      rintro e w2 ⟨N, rfl, h1, h2, h3⟩
      exact ⟨N, rfl, h3⟩)
    clear hv1 hv2 hev1 hev2
    go_wp2_with fail
    refine C.out.mono ?_
    rintro e w2 ⟨N, rfl, hb⟩
    have HB2 : Hid (Below w.heap.size w w2) := HB.out.trans (hb.mono HB.out.size)
    clear hb
    go_wp2
    go_ret2
    exact ⟨HB2.out, v, _, rfl, .inr ⟨N, rfl⟩, fun m hm e => by have := (HRD.out m hm e).2; cases this⟩
set_option maxRecDepth 100000 in
theorem modeOf_any (l : List UInt8) (hl : l.length ≤ 1000000) (w : World) (he : Ers w) :
    Calls Tryz.prog 51 #[.string ⟨l.toArray⟩] w fun e w' => Below w.heap.size w w' ∧ PMo l e := by
  have HI : Hid (Calls Tryz.prog 68 #[.string ⟨l.toArray⟩, .int .i64 8, .int .i64 32] w fun e w' => Below w.heap.size w w' ∧ ∃ (v : Int) (ev : Value), e = .returned (.tuple #[.int .i64 v, ev]) ∧ (ev = .nilIface ∨ ∃ N, ev = .iface 197 (.pointer (some ⟨N, 0, none⟩))) ∧ (∀ m, okM m → l = octB m → v = m ∧ ev = .nilIface)) := parseIntP8 l hl w he
  obtain ⟨S, HS⟩ : ∃ S : ByteArray, Hid (⟨l.toArray⟩ = S) := ⟨_, rfl⟩
  rw [HS.out] at HI
  rw [HS.out]
  clear he
  go_enter Tryz.func51, Tryz.ntmps51
  go_wp2_with fail
  refine HI.out.mono ?_
  rintro ev w1 ⟨hb, v, er, rfl, hor, hrd⟩
  have HB : Hid (Below w.heap.size w w1) := hb
  have HRD : Hid (∀ m, okM m → l = octB m → v = m ∧ er = .nilIface) := hrd
  clear hb hrd
  rcases hor with rfl | ⟨N, rfl⟩
  · go_wp2
    go_ret
    exact ⟨HB.out, v, rfl, fun m hm e => (HRD.out m hm e).1⟩
  · go_wp2
    go_ret
    exact ⟨HB.out, 0, rfl, fun m hm e => by have := (HRD.out m hm e).2; cases this⟩
end Go.Proofs.YtikmbjfambjmaaaGreatDoor
namespace Go.Proofs.YtikmbjfambjmaaaGreatDoor
open Go.RowKit
variable [Inhabited Er] [Inhabited En]
set_option linter.unusedVariables false
set_option linter.unusedSectionVars false
set_option linter.unusedSimpArgs false
theorem bl_lt : ∀ x y : List UInt8, Op.bytesLess x y = decide (x < y)
  | [], [] => by simp [Op.bytesLess]
  | [], b :: y => by simp [Op.bytesLess]
  | a :: x, [] => by simp [Op.bytesLess]
  | a :: x, b :: y => by
    rw [Op.bytesLess, bl_lt x y]
    rw [Bool.eq_iff_iff]
    simp [List.cons_lt_cons_iff]
theorem leq_iff (x y : List UInt8) : (Op.bytesLess x y || x == y) = decide (¬ y < x) := by
  rw [bl_lt, Bool.eq_iff_iff]
  simp only [Bool.or_eq_true, decide_eq_true_eq, beq_iff_eq]
  constructor
  · rintro (h | h)
    · exact fun h2 => lex_irrefl _ (lex_trans _ _ _ h h2)
    · rw [h]; exact lex_irrefl _
  · intro h
    by_cases h2 : x < y
    · exact .inl h2
    · exact .inr (lex_total _ _ h2 h)
theorem ins_at (x : Er) : ∀ (l : List Er) (p : Nat), p ≤ l.length → (∀ j, j < p → ¬ keyB x < keyB (l.getD j default)) → (p = l.length ∨ keyB x < keyB (l.getD p default)) → ins x l = l.take p ++ x :: l.drop p
  | [], p, hp, _, _ => by
    have : p = 0 := by simpa using hp
    subst this
    simp [ins]
  | y :: t, 0, _, _, h => by
    rw [ins, if_pos]
    · simp
    · rcases h with h | h
      · simp at h
      · simpa using h
  | y :: t, p + 1, hp, hn, h => by
    rw [ins, if_neg (by simpa using hn 0 (by omega)), ins_at x t p (by simpa using hp) (fun j hj => by simpa using hn (j + 1) (by omega)) (by simpa using h)]
    simp
theorem srtE_snoc (l : List Er) (x : Er) : srtE (l ++ [x]) = ins x (srtE l) := by simp [srtE]
theorem Tryz.info90 : (Tryz.prog.info? 90).map (fun i => (i.zero, i.size, i.bytes)) = some (some (.agg (erV ⟨0, [], z20⟩).toArray), 22, 48) := by kernel_rfl
theorem size103 : (Tryz.prog.info? 90).map (·.size) = some 22 := by kernel_rfl
theorem zero103 (w : World) : (zeroValue 90).run Tryz.prog w = .ok (.agg (erV ⟨0, [], z20⟩).toArray) w := by kernel_rfl
structure Be (w0 w : World) (B : Nat) (v : Value) (es : List Er) : Prop where
  below : Below B w0 w
  own : w.ownsRow B 90 22 v es.length (fE es)
  le : B ≤ w.heap.size
theorem Be.alloc {w0 w : World} {B : Nat} {v : Value} {es : List Er} (h : Be w0 w B v es) (o : Obj) : Be w0 (w.alloc o) B v es :=
  ⟨h.below.alloc h.le o, h.own.alloc o, Nat.le_trans h.le (by simp)⟩
theorem be_nil (w : World) (B : Nat) (h : B ≤ w.heap.size) : Be w w B (.slice none 0 0) [] := ⟨Below.refl _ _, ⟨rfl, .inl ⟨rfl, rfl⟩⟩, h⟩
theorem Be.carry {w0 w w' : World} {B : Nat} {v : Value} {es : List Er} (h : Be w0 w B v es) (hb : Below w.heap.size w w') : Be w0 w' B v es :=
  ⟨h.below.trans (hb.mono h.le), h.own.kept (row := none) ⟨hb.os, hb.tape, hb.output, hb.size, fun k hk _ => hb.block k hk⟩ (by cases h : v.ownBlock <;> simp), Nat.le_trans h.le hb.size⟩
theorem fE_len (es : List Er) (h : ∀ x ∈ es, x.id.length = 20) : (fE es).length = es.length * 22 := by
  induction es with
  | nil => rfl
  | cons x es ih =>
    have h1 := ih (fun y hy => h y (by simp [hy]))
    have h2 : (erV x).length = 22 := erV_len x (h x (by simp))
    simp only [fE, List.flatMap_cons, List.length_append, List.length_cons] at h1 ⊢
    omega
theorem fE_app (x y : List Er) : fE (x ++ y) = fE x ++ fE y := by simp [fE]
theorem fE_one (es : List Er) : ∀ v ∈ fE es, v.oneCell' = true := by
  intro v hv
  obtain ⟨x, _, h⟩ := List.mem_flatMap.1 hv
  exact erV_one x v h
theorem Pe.cells {w : World} {b off cap : Nat} {es : List Er} (h : Pe w (some ⟨b, off, none⟩) cap es) (hw : ∀ x ∈ es, x.id.length = 20) : ∀ (j : Nat) (u : Value), (fE es)[j]? = some u → w.cell? ((⟨b, off, none⟩ : Addr).add j) = some u := by
  intro j u hj
  have hlt := (List.getElem?_eq_some_iff.1 hj).1
  rw [fE_len es hw] at hlt
  have hd : j / 22 < es.length := Nat.div_lt_of_lt_mul (by omega)
  have hm : j % 22 < 22 := Nat.mod_lt _ (by omega)
  obtain ⟨b', off', e1, e2, e3⟩ := h.at_ (by omega)
  cases e1
  have e : j / 22 * 22 + j % 22 = j := by omega
  have hf := fE_at es hw (j / 22) (j % 22) hd hm
  rw [e, hj] at hf
  have := e3 (j / 22) hd (j % 22) u hf.symm
  rw [addr_add, ← this]
  congr 2
  omega
theorem wpList_be_sl {w w0 : World} {ops : Array Oper} {rest : List Oper} {o : Oper} {a : Act} {Q : Exit → Act → World → Prop} (hgd : o.guard = none) (s x : Operand) (ho : o.op = .call { callee := .builtin .append, args := #[s, x], argTypes := #[86, 86] }) (B : Nat) (v : Value) (es : List Er) (hs : a.eval s = v) (h : Be w0 w B v es)
    (ax : Option Addr) (cx : Nat) (l : List Er) (hx : a.eval x = .slice ax l.length cx) (hP : Pe w ax cx l) (hw : ∀ x ∈ l, x.id.length = 20) (hl : es.length + l.length ≤ 3000)
    (hK : ∀ v' w', Be w0 w' B v' (es ++ l) → w.grownBy w' v.ownBlock → wpList Tryz.prog ops Q rest (a.put o.dst v') w') : wpList Tryz.prog ops Q (o :: rest) a w := by
  obtain ⟨i, hi, hz0, hz1, hz2⟩ := info_parts Tryz.info90
  cases ax with
  | none =>
    have hc : cx = 0 := hP.nil rfl
    have hcl := hP.capl
    obtain rfl : l = [] := List.length_eq_zero_iff.1 (by omega)
    subst hc
    refine wpList_plain hgd fun K hK' => ?_
    have hr := run_append_owned_none (P := Tryz.prog) w B 86 o.type 90 i 22 Tryz.underlying86 hi v _ _ h.own
    unfold Oper.wp execOp
    simp only [List.length_nil] at hx
    simp only [ho, resolve, invoke, builtin, Sem.run_bind, Sem.run_pure, Result.andThen_ok, List.map_toArray, List.map_cons, List.map_nil, hs, hx, hr]
    exact hK' _ _ (hK v w (by simpa using h) ⟨rfl, rfl, rfl, Nat.le_refl _, fun _ _ _ => rfl⟩)
  | some ad =>
    obtain ⟨bk, of, fr⟩ := ad
    by_cases h0 : l.length = 0
    · obtain rfl : l = [] := List.length_eq_zero_iff.1 h0
      refine wpList_append_own_at w hgd s x 86 ho B 90 i (.agg (erV ⟨0, [], z20⟩).toArray) 22 48 Tryz.underlying86 hi hz0 hz1 hz2 rfl (by decide) v _ _ hs h.own ⟨bk, of, fr⟩ 0 cx [] hx rfl (fun j u hj => by cases hj) (fun u hu => by cases hu) (by unfold maxLen; omega) (by omega) h.le ?_
      intro v' w' h1 h2 h3 h4
      refine hK v' w' ⟨h.below.grown h2 h.le (fun k hk => (own_lt h.own k hk).1), ?_, Nat.le_trans h.le h2.size⟩ h2
      simpa using h1
    · obtain ⟨b', off', e1, _⟩ := hP.at_ (by omega)
      cases e1
      refine wpList_append_own_at w hgd s x 86 ho B 90 i (.agg (erV ⟨0, [], z20⟩).toArray) 22 48 Tryz.underlying86 hi hz0 hz1 hz2 rfl (by decide) v _ _ hs h.own ⟨bk, of, none⟩ l.length cx (fE l) hx (fE_len l hw) (hP.cells hw) (fE_one l) (by unfold maxLen; omega) (by omega) h.le ?_
      intro v' w' h1 h2 h3 h4
      refine hK v' w' ⟨h.below.grown h2 h.le (fun k hk => (own_lt h.own k hk).1), ?_, Nat.le_trans h.le h2.size⟩ h2
      rw [List.length_append, fE_app]
      exact h1
end Go.Proofs.YtikmbjfambjmaaaGreatDoor
namespace Go.Proofs.YtikmbjfambjmaaaGreatDoor
set_option linter.unusedVariables false
set_option linter.unusedSimpArgs false
def zs (q : Per) : UInt8 := if q.zone < 0 then 45 else 43
end Go.Proofs.YtikmbjfambjmaaaGreatDoor
namespace Go.Proofs.YtikmbjfambjmaaaGreatDoor
set_option linter.unusedVariables false
set_option linter.unusedSimpArgs false
theorem cut_at (a b sep : List UInt8) (h1 : Lib.occAt (a ++ (sep ++ b)) sep a.length = true) (h2 : ∀ j, j < a.length → Lib.occAt (a ++ (sep ++ b)) sep j = false) : Lib.cut (a ++ (sep ++ b)) sep = (a, b, true) := by
  have hi : Lib.index (a ++ (sep ++ b)) sep = (a.length : Nat) := Lib.index_first (by simp) h1 h2
  unfold Lib.cut
  rw [hi, if_pos (by omega)]
  simp
theorem occ_here (a b sep : List UInt8) : Lib.occAt (a ++ (sep ++ b)) sep a.length = true := by
  simp [Lib.occAt]
theorem occ_not (s sep : List UInt8) (j k : Nat) (c : UInt8) (hc : sep[k]? = some c) (hn : s[j + k]? ≠ some c) : Lib.occAt s sep j = false := by
  cases h : Lib.occAt s sep j with
  | false => rfl
  | true =>
    refine absurd ?_ hn
    unfold Lib.occAt at h
    obtain ⟨t, ht⟩ := List.isPrefixOf_iff_prefix.1 h
    obtain ⟨hk, _⟩ := List.getElem?_eq_some_iff.1 hc
    rw [← List.getElem?_drop, ← ht, List.getElem?_append_left hk]
    exact hc
theorem cut_one (a b : List UInt8) (c : UInt8) (h : c ∉ a) : Lib.cut (a ++ c :: b) [c] = (a, b, true) := by
  refine cut_at a b [c] (occ_here a b [c]) (fun j hj => occ_not _ _ j 0 c rfl ?_)
  rw [Nat.add_zero, List.getElem?_append_left hj]
  exact fun e => h (List.mem_of_getElem? e)
end Go.Proofs.YtikmbjfambjmaaaGreatDoor
namespace Go.Proofs.YtikmbjfambjmaaaGreatDoor
open Go.RowKit
set_option linter.unusedVariables false
set_option linter.unusedSimpArgs false
def setAt : List Value → Nat → List Value → List Value
  | l, _, [] => l
  | l, o, v :: vs => setAt (l.set o v) (o + 1) vs
theorem heap_setCells_same (g : Nat) (t : TypeId) : ∀ (vs : List Value) (o : Nat) (w : World) (l : List Value), w.heap[g]? = some (.cells l.toArray t (0, 0)) → (w.setCells g o vs).heap[g]? = some (.cells (setAt l o vs).toArray t (0, 0))
  | [], _, _, _, h => h
  | v :: vs, o, w, l, h => by
    show ((w.setCell ⟨g, o, none⟩ v).setCells g (o + 1) vs).heap[g]? = _
    refine heap_setCells_same g t vs (o + 1) _ (l.set o v) ?_
    rw [heap_setCell_same w g o _ t v h, List.setIfInBounds_toArray]
theorem setAt_mid : ∀ (new old pre rest : List Value), new.length = old.length → setAt (pre ++ (old ++ rest)) pre.length new = pre ++ (new ++ rest)
  | [], [], pre, rest, _ => rfl
  | v :: new, x :: old, pre, rest, h => by
    show setAt ((pre ++ (x :: (old ++ rest))).set pre.length v) (pre.length + 1) new = _
    rw [List.set_append_right _ _ (Nat.le_refl _), Nat.sub_self, List.set_cons_zero]
    have := setAt_mid new old (pre ++ [v]) rest (by simpa using h)
    simpa using this
end Go.Proofs.YtikmbjfambjmaaaGreatDoor
