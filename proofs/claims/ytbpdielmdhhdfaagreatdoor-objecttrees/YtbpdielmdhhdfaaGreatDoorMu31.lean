import Derived.Test.YtbpdielmdhhdfaaGreatDoorMu22
import Derived.Test.YtbpdielmdhhdfaaGreatDoorMu23
import Derived.Test.YtbpdielmdhhdfaaGreatDoorMu30
import Derived.Test.YtbpdielmdhhdfaaGreatDoorMu09
import Derived.Test.YtbpdielmdhhdfaaGreatDoorMu29
import Derived.Test.YtbpdielmdhhdfaaGreatDoorMu15
import Derived.Test.YtbpdielmdhhdfaaGreatDoorMu24
/- Package object: WriteTree. -/
namespace Go.Proofs.YtbpdielmdhhdfaaGreatDoor
open Go.RowKit
variable [Inhabited Er] [Inhabited En]
set_option linter.unusedVariables false
set_option linter.unusedSectionVars false
set_option linter.unusedSimpArgs false
/-- What 'WriteTree' gives. -/
def PostW (es : List Er) (w : World) (e : Ending) (w' : World) : Prop := Below w.heap.size w w' ∧
  ((okL es ∧ ∃ a cap, e = .returned (.tuple #[.slice a (treeB (srtE es)).length cap, .nilIface]) ∧ Sl w' a cap (nums (treeB (srtE es)))) ∨ (¬ okL es ∧ e = .returned (.tuple #[.slice none 0 0, .iface 35 (.int .i64 21)])))
theorem Bd.sl {w0 w : World} {B : Nat} {v : Value} {out : List Int} (h : Bd w0 w B v out) : ∃ a cap, v = .slice a out.length cap ∧ Sl w a cap out := by
  by_cases h0 : 0 < out.length
  · obtain ⟨g, cap, rfl, h1, h2, h3, h4⟩ := bd_form h h0
    exact ⟨_, cap, rfl, ⟨h4, fun _ => ⟨g, 0, rfl, h2, h3⟩, fun h => by cases h⟩⟩
  · have hz : out.length = 0 := by omega
    obtain ⟨_, ⟨rfl, _⟩ | ⟨g, cap, cur, rfl, _, hh, hnc, _⟩⟩ := h.own
    · exact ⟨none, 0, by rw [hz], ⟨by omega, fun h => absurd h h0, fun _ => rfl⟩⟩
    · exact ⟨some ⟨g, 0, none⟩, cap, rfl, ⟨hnc, fun h => absurd h h0, fun h => by cases h⟩⟩
theorem Bd.str {w0 w : World} {B : Nat} {v : Value} {out : List Int} (h : Bd w0 w B v out) (l : List UInt8) (hl : out.length + l.length ≤ 1000000) :
    ∃ v' w', (Builtin.append_ #[23, 9] 23 #[v, .string ⟨l.toArray⟩]).run Tryz.prog w = .ok v' w' ∧ Bd w0 w' B v' (out ++ nums l) ∧ w.grownBy w' v.ownBlock := by
  obtain ⟨i5, hi, hz0, hz1, hz2⟩ := info_parts Tryz.info5
  have hsz : (⟨l.toArray⟩ : ByteArray).size = l.length := by simp [ByteArray.size]
  obtain ⟨v', w', hr, h1, h2, _⟩ := Lib.run_append_own_string (P := Tryz.prog) w B 23 9 23 5 i5 Tryz.underlying23 Tryz.underlying9 hi hz0 hz1 hz2 v out.length _ h.own ⟨l.toArray⟩ (by rw [hsz]; unfold maxLen; omega) (by rw [hsz]; omega) h.le
  refine ⟨v', w', hr, ⟨h.below.grown h2 h.le (fun k hk => (own_lt h.own k hk).1), ?_, Nat.le_trans h.le h2.size⟩, h2⟩
  rw [List.length_append, nums_len, List.map_append, ← strCells_nums]
  rw [hsz] at h1
  exact h1
/-- What the drawn region reads of an entry. -/
structure QW (K : Nat) (m : Int) (N : ByteArray) (W : World) : Prop where
  c0 : W.cell? ⟨K, 0, none⟩ = some (.int .i64 m)
  c1 : W.cell? ⟨K, 1, none⟩ = some (.string N)
theorem QW.below {K : Nat} {m : Int} {N : ByteArray} {W W' : World} (h : QW K m N W) (hb : Below W.heap.size W W') (hK : K < W.heap.size) : QW K m N W' :=
  ⟨(hb.cell (p := ⟨K, 0, none⟩) hK).trans h.c0, (hb.cell (p := ⟨K, 1, none⟩) hK).trans h.c1⟩
theorem QW.grown {K : Nat} {m : Int} {N : ByteArray} {W W' : World} {r : Option Nat} (h : QW K m N W) (hg : W.grownBy W' r) (hK : K < W.heap.size) (hne : r ≠ some K) : QW K m N W' :=
  ⟨(World.cell?_of_block (a := ⟨K, 0, none⟩) (hg.block K hK (fun e => hne e.symm))).trans h.c0, (World.cell?_of_block (a := ⟨K, 1, none⟩) (hg.block K hK (fun e => hne e.symm))).trans h.c1⟩
theorem enter47 (v : Value) (w : World) : (callFunc 47 [v].toArray).run Tryz.prog w = .ok (.enter 47 [v].toArray) w := by kernel_rfl
theorem enter46' (v : Value) (w : World) : (callFunc 46 [v].toArray).run Tryz.prog w = .ok (.enter 46 [v].toArray) w := by kernel_rfl
theorem words_two (x y : List UInt8) (w1 w2 : World) (hx : x.length + y.length ≤ 100000) (h : w2 = w1.alloc (.cells #[.string ⟨x.toArray⟩, .string ⟨y.toArray⟩] 9)) :
    Calls Tryz.prog 46 #[.slice (some ⟨w1.heap.size, 0, none⟩) 2 2] w2 fun e w' => e = .returned (.string ⟨(x ++ 32 :: y).toArray⟩) ∧ Below w2.heap.size w2 w' := by
  subst h
  have hj : (Lib.join ([(⟨x.toArray⟩ : ByteArray), ⟨y.toArray⟩].map (·.data.toList)) [32]) = x ++ 32 :: y := by
    simp only [List.map_cons, List.map_nil, join_two]
  refine (words_any w1.heap.size 0 2 [⟨x.toArray⟩, ⟨y.toArray⟩] _ ?_ ?_ (by simp) (by simp) (by rw [hj]; simp; omega)).mono ?_
  · intro i z hz
    rcases i with _ | _ | i
    · simp at hz; subst hz; simp
    · simp at hz; subst hz; simp
    · simp at hz
  · simp
  · rintro e w' ⟨rfl, hb⟩
    rw [hj]
    exact ⟨rfl, hb⟩
theorem wpList_bd_slG {w w0 : World} {ops : Array Oper} {rest : List Oper} {o : Oper} {a : Act} {Q : Exit → Act → World → Prop} (hgd : o.guard = none) (s x : Operand) (ho : o.op = .call { callee := .builtin .append, args := #[s, x], argTypes := #[23, 23] }) (B : Nat) (v : Value) (out : List Int) (hs : a.eval s = v) (h : Bd w0 w B v out)
    (ax : Option Addr) (cx : Nat) (l : List Int) (hx : a.eval x = .slice ax l.length cx) (hS : Sl w ax cx l) (hl : out.length + l.length ≤ 1000000)
    (hK : ∀ v' w', Bd w0 w' B v' (out ++ l) → w.grownBy w' v.ownBlock → wpList Tryz.prog ops Q rest (a.put o.dst v') w') : wpList Tryz.prog ops Q (o :: rest) a w := by
  obtain ⟨i5, hi, hz0, hz1, hz2⟩ := info_parts Tryz.info5
  cases ax with
  | none =>
    have hc : cx = 0 := hS.nil rfl
    have hcl := hS.capl
    obtain rfl : l = [] := List.length_eq_zero_iff.1 (by omega)
    subst hc
    refine wpList_plain hgd fun K hK' => ?_
    have hr := run_append_owned_none (P := Tryz.prog) w B 23 o.type 5 i5 1 Tryz.underlying23 hi v _ _ h.own
    unfold Oper.wp execOp
    simp only [List.length_nil] at hx
    simp only [ho, resolve, invoke, builtin, Sem.run_bind, Sem.run_pure, Result.andThen_ok, List.map_toArray, List.map_cons, List.map_nil, hs, hx, hr]
    exact hK' _ _ (hK v w (by simpa using h) ⟨rfl, rfl, rfl, Nat.le_refl _, fun _ _ _ => rfl⟩)
  | some ad =>
    refine wpList_append_own_at w hgd s x 23 ho B 5 i5 (.int .u8 0) 1 1 Tryz.underlying23 hi hz0 hz1 hz2 rfl (by decide) v _ _ hs h.own ad l.length cx (l.map (Value.int .u8)) hx (by simp) ?_ (ints_oneCell .u8 l) (by unfold maxLen; omega) (by omega) h.le ?_
    · intro j z hj
      rw [List.getElem?_map] at hj
      cases hc : l[j]? with
      | none => rw [hc] at hj; cases hj
      | some y =>
        rw [hc] at hj; cases hj
        have hlt := (List.getElem?_eq_some_iff.1 hc).1
        obtain ⟨b, off, e1, e2, e3⟩ := hS.at_ (by omega)
        cases e1
        have := e3 j hlt
        rw [addr_add]
        simpa [List.getD_eq_getElem?_getD, hc] using this
    · intro v' w' h1 h2 h3 h4
      refine hK v' w' ⟨h.below.grown h2 h.le (fun k hk => (own_lt h.own k hk).1), ?_, Nat.le_trans h.le h2.size⟩ h2
      rw [List.length_append, List.map_append]
      exact h1
theorem Bd.ne {w0 w : World} {B K t : Nat} {v : Value} {out : List Int} {R : Array Value} (h : Bd w0 w B v out) (hb : w.heap[K]? = some (.cells R t (0, 0))) (ht : t ≠ 5) : v.ownBlock ≠ some K := by
  intro hk
  obtain ⟨_, ⟨rfl, _⟩ | ⟨g, cap, cur, rfl, _, h2, _⟩⟩ := h.own
  · cases hk
  · simp [Value.ownBlock] at hk
    subst hk
    rw [h2] at hb
    simp at hb
    exact ht hb.2.symm
theorem Bd.keep {w0 w w' : World} {B K t : Nat} {v : Value} {out : List Int} {R : Array Value} (h : Bd w0 w B v out) (hg : w.grownBy w' v.ownBlock) (hb : w.heap[K]? = some (.cells R t (0, 0))) (ht : t ≠ 5) : w'.heap[K]? = some (.cells R t (0, 0)) :=
  (hg.block K (lt_of_some hb) (fun e => h.ne hb ht e.symm)).trans hb
theorem id_sl {w : World} {K t : Nat} {x : Er} {R : List Value} (hR : erV x = R) (hb : w.heap[K]? = some (.cells R.toArray t (0, 0))) (hx : x.id.length = 20) : Sl w (some ⟨K, 2, none⟩) 20 x.id :=
  ⟨by omega, fun _ => ⟨K, 2, rfl, lt_of_some hb, fun j hj => by
    have hr := range_row hb
    rw [← hR] at hr
    have := hr (2 + j) (.int .u8 (x.id.getD j 0)) (by
      rw [Nat.add_comm 2 j]
      exact row_at .u8 x.id j hj)
    simpa using this⟩, fun h => by cases h⟩
theorem er_out (out : List Int) (x : Er) (h : ∀ n ∈ x.id, 0 ≤ n ∧ n < 256) : ((out ++ nums (octB x.mode ++ 32 :: x.name)) ++ [0]) ++ x.id = out ++ nums (erB x) := by
  have e1 : nums (erB x) = nums (octB x.mode ++ 32 :: x.name) ++ (0 :: x.id) := by
    unfold erB
    rw [show octB x.mode ++ 32 :: (x.name ++ 0 :: Lib.bytesOf x.id) = (octB x.mode ++ 32 :: x.name) ++ (0 :: Lib.bytesOf x.id) by simp, nums_app (octB x.mode ++ 32 :: x.name)]
    congr 1
    show 0 :: nums (Lib.bytesOf x.id) = _
    rw [nums_bytes x.id h]
  rw [e1]
  simp
set_option maxRecDepth 20000 in
set_option maxHeartbeats 4000000 in
theorem writeTree_any (a : Option Addr) (cap : Nat) (es : List Er) (hwf : WfE es) (hn : es.length ≤ 1000) (w : World) (hP : Pe w a cap es) (hd : Db w) :
    Calls Tryz.prog 18 #[.slice a es.length cap] w (PostW es w) := by
  obtain ⟨n, HN⟩ : ∃ n, Hid (es.length = n) := ⟨_, rfl⟩
  obtain ⟨G, HG⟩ : ∃ G, Hid (w.heap.size = G) := ⟨_, rfl⟩
  have hnn : n ≤ 1000 := by rw [← HN.out]; exact hn
  obtain ⟨zr, HZ⟩ : ∃ zr : Array Value, Hid (zr = (erV ⟨0, [], z20⟩).toArray) := ⟨_, rfl⟩
  have hz51 : ∀ w : World, (zeroValue 51).run Tryz.prog w = .ok (.agg zr) w := fun w => by rw [HZ.out]; exact zero51 w
  have HD : Hid (∀ W, Below G w W → Db W) := fun W hW => hd.below (by rw [HG.out]; exact hW)
  have HWF : Hid (WfE es) := hwf
  have C42 : Hid (Calls Tryz.prog 42 #[.slice a n cap] w fun e w' => BIs (okL es) e ∧ Below w.heap.size w w') := hid (by rw [← HN.out]; exact isTree_any a cap es hwf hn w hP)
  have HPA : Hid (∀ W, Below G w W → Pe W a cap es) := fun W hW => hP.below (by rw [HG.out]; exact hW)
  have HGS : Hid (G ≤ w.heap.size) := hid (by rw [HG.out]; exact Nat.le_refl _)
  rw [HN.out]
  clear hP hd hwf
  go_enter Tryz.func18, Tryz.ntmps18
  go_wp2_with fail
  refine C42.out.mono ?_
  rintro ev w1 ⟨hbi, hb1⟩
  rw [HG.out] at hb1
  have HB1 : Hid (Below G w w1) := hb1
  clear hb1
  rcases bis_or hbi with ⟨hok, rfl⟩ | ⟨hno, rfl⟩
  rotate_left
  · have HNO : Hid (¬ okL es) := hno
    clear hno hbi
    go_wp2
    go_ret2
    exact ⟨by rw [HG.out]; exact HB1.out, .inr ⟨HNO.out, rfl⟩⟩
  have HOK : Hid (okL es) := hok
  have HWN : Hid (WfN es) := fun x hx => ⟨(hok.1 x hx).2.2.1, (HWF.out x hx).1⟩
  clear hok hbi
  have hG1 : G ≤ w1.heap.size := Nat.le_trans HGS.out HB1.out.size
  obtain ⟨wv, HWV⟩ : ∃ wv, Hid (w1.alloc (.cells #[.slice a n cap] 47) = wv) := ⟨_, rfl⟩
  obtain ⟨Bs, HBs⟩ : ∃ B, Hid (w1.heap.size = B) := ⟨_, rfl⟩
  have HBV : Hid (Below G w wv) := hid (by rw [← HWV.out]; exact HB1.out.alloc hG1 _)
  have HBX : Hid (Boxed wv Bs 47 (.slice a n cap)) := hid (by rw [← HWV.out, ← HBs.out]; exact heap_alloc_new w1 _)
  have C44 : Hid (Calls Tryz.prog 44 #[.slice a n cap] w1 fun e w' => e = .returned (.func (.func 91) #[] #[.pointer (some ⟨Bs, 0, none⟩)]) ∧ w' = wv) := hid (by
    have := values_call a n cap w1
    rw [HWV.out, HBs.out] at this
    exact this)
  have C43 : Hid (Calls Tryz.prog 43 #[.func (.func 91) #[] #[.pointer (some ⟨Bs, 0, none⟩)], .func (.func 45) #[] #[]] wv (PostS wv es)) := hid
    (sortedFunc_any Bs a cap es wv HWF.out HWN.out (HPA.out _ HBV.out) hn (by rw [HN.out]; exact HBX.out))
  have hGv : G ≤ wv.heap.size := Nat.le_trans HGS.out HBV.out.size
  go_wp2_with (first
    | (go_at_call 44; refine C44.out.mono ?_; rintro ev w' ⟨rfl, hw'⟩; have hw'' := hw'.symm; subst hw''; clear hw')
    | (go_at_call 43; refine C43.out.mono ?_; rintro ev w2 ⟨a1, cap1, es', rfl, hpm, hsr, hpe, hb2⟩; rw [HN.out]; have hes := srtE_one es es' (okL_keys HOK.out) hpm hsr; subst hes; have HPM : Hid ((srtE es).Perm es) := hpm; have HPE2 : Hid (Pe w2 a1 cap1 (srtE es)) := hpe; have HB2 : Hid (Below G w w2) := HBV.out.trans (hb2.mono hGv); clear hpm hsr hpe hb2))
  obtain ⟨L, HL⟩ : ∃ L, Hid (srtE es = L) := ⟨_, rfl⟩
  obtain ⟨H, HH⟩ : ∃ H, Hid (w2.heap.size = H) := ⟨_, rfl⟩
  have HLN : Hid (L.length = n) := hid (by rw [← HL.out, HPM.out.length_eq]; exact HN.out)
  have HLX : Hid (∀ x ∈ L, okM x.mode ∧ okE x.name ∧ x.id.length = 20 ∧ ∀ k ∈ x.id, 0 ≤ k ∧ k < 256) := hid (by
    rw [← HL.out]
    intro x hx
    have hx' := HPM.out.subset hx
    exact ⟨(HOK.out.1 x hx').1, (HOK.out.1 x hx').2, HWF.out x hx'⟩)
  have HPL : Hid (∀ W, Below H w2 W → Pe W a1 cap1 L) := fun W hW => by
    rw [← HL.out]
    exact HPE2.out.below (by rw [HH.out]; exact hW)
  have HPB : Hid (0 < n → ∃ b off, a1 = some ⟨b, off, none⟩ ∧ b < H) := fun h0 => by
    obtain ⟨b, off, e1, e2, _⟩ := HPE2.out.at_ (by rw [HL.out, HLN.out]; exact h0)
    exact ⟨b, off, e1, by rw [← HH.out]; exact e2⟩
  have HD2 : Hid (∀ W, Below H w2 W → Db W) := fun W hW => HD.out W (HB2.out.trans (hW.mono (by rw [← HH.out]; exact Nat.le_trans HGS.out HB2.out.size)))
  have HGH : Hid (G ≤ H) := hid (by rw [← HH.out]; exact Nat.le_trans HGS.out HB2.out.size)
  have HTL : Hid (∀ i, (treeB (L.take i)).length ≤ 78000) := fun i => by
    have h1 := treeB_len (L.take i) (fun x hx => by
      have := HLX.out x (List.mem_of_mem_take hx)
      exact ⟨this.2.1.2.1, this.2.2.1⟩)
    have h2 : (L.take i).length ≤ 1000 := by rw [List.length_take, HLN.out]; omega
    omega
  go_wp2_with fail
  go_loopg [4, 15] n (fun g u iv wr => ∃ (i : Nat) (v : Value), v = u ∧ i ≤ n ∧ g = n - i ∧ iv = .int .i64 i ∧ Hid (Bd w2 wr H v (nums (treeB (L.take i)))))
  case atStart => exact ⟨0, _, rfl, Nat.zero_le _, rfl, rfl, hid (bd_nil w2 H (by rw [HH.out]; exact Nat.le_refl _))⟩
  case round =>
    obtain ⟨i, v, hv, hi, hk, rfl, HBD⟩ := hrel
    subst hv
    by_cases hlt : i < n
    · have hlti : (i : Int) < (n : Int) := by omega
      obtain ⟨b, off, hae, hbG⟩ := HPB.out (by omega)
      subst hae
      obtain ⟨b', off', e1, e2, e3⟩ := (HPL.out wr HBD.out.below).at_ (by rw [HLN.out]; omega)
      cases e1
      obtain ⟨x, HX⟩ : ∃ x, Hid (L.getD i default = x) := ⟨_, rfl⟩
      have hxm : x ∈ L := by
        rw [← HX.out, List.getD_eq_getElem?_getD, List.getElem?_eq_getElem (by rw [HLN.out]; exact hlt)]
        exact List.getElem_mem _
      have HXO : Hid (okM x.mode ∧ okE x.name ∧ x.id.length = 20 ∧ ∀ k ∈ x.id, 0 ≤ k ∧ k < 256) := hid (HLX.out x hxm)
      have hx20 := HXO.out.2.2.1
      obtain ⟨R, HR⟩ : ∃ R : List Value, Hid (erV x = R) := ⟨_, rfl⟩
      obtain ⟨S, HS⟩ : ∃ S : ByteArray, Hid ((⟨x.name.toArray⟩ : ByteArray) = S) := ⟨_, rfl⟩
      obtain ⟨m, HM⟩ : ∃ m, Hid (x.mode = m) := ⟨_, rfl⟩
      obtain ⟨O, HO⟩ : ∃ S : ByteArray, Hid ((⟨(octB m).toArray⟩ : ByteArray) = S) := ⟨_, rfl⟩
      have RR : Hid (wr.rangeAt b (off + i * 22) R) := hid (by rw [← HR.out, ← HX.out]; exact e3 i (by rw [HLN.out]; exact hlt))
      have HFN : Hid (R.length = 22) := hid (by rw [← HR.out]; exact erV_len x hx20)
      have hi51 : (Tryz.prog.info? 51).map (·.size) = some R.length := by rw [HFN.out]; exact size51
      have I51 : Hid ((Tryz.prog.info? 51).map (·.size) = some R.toArray.size) := hid (by rw [List.size_toArray]; exact hi51)
      have E51 : Hid (zr.size = R.toArray.size) := hid (by rw [HZ.out, List.size_toArray, List.size_toArray, HFN.out]; rfl)
      have O51 : Hid (R.toArray.all (·.oneCell') = true) := hid (by rw [← HR.out]; exact all_oneCell_toArray (erV_one _))
      have D0 : Hid ((wr.alloc (.cells zr 51)).heap[wr.heap.size]? = some (.cells zr 51 (0, 0))) := heap_alloc_new wr _
      obtain ⟨w3, HW3⟩ : ∃ w3, Hid ((wr.alloc (.cells zr 51)).setRow wr.heap.size R.toArray = w3) := ⟨_, rfl⟩
      obtain ⟨K, HK⟩ : ∃ K, Hid (wr.heap.size = K) := ⟨_, rfl⟩
      have hHK : H ≤ K := by rw [← HK.out]; exact HBD.out.le
      have hb3 : Below wr.heap.size wr w3 := by rw [← HW3.out]; exact below_setRow ((Below.refl _ wr).alloc (Nat.le_refl _) _) (Nat.le_refl _) _
      have B3 : Hid (w3.heap[K]? = some (.cells R.toArray 51 (0, 0))) := hid (by rw [← HW3.out, ← HK.out]; exact setRow_heap _ _ _ R.toArray _ _ D0.out)
      have hK3 : K < w3.heap.size := lt_of_some B3.out
      have HBD3 : Hid (Bd w2 w3.drew H v (nums (treeB (L.take i)))) := hid (HBD.out.carry (below_drewH hb3 1))
      have HQ3 : Hid (QW K m S w3.drew) := hid (by
        have hr := range_row B3.out
        rw [← HR.out] at hr
        exact ⟨by rw [← HM.out]; simpa using hr 0 _ rfl, by rw [← HS.out]; simpa using hr 1 _ rfl⟩)
      have HVB : Hid (∀ k, v.ownBlock = some k → k < K) := fun k hk => by rw [← HK.out]; exact (own_lt HBD.out.own k hk).2
      clear hb3 hxm e2 e3
      go_wp2_with (first
        | refine wpList_load_mid rfl 51 _ rfl b (off + i * 22) rfl R _ RR.out Tryz.underlying51 rfl hi51 ?_
        | (refine wpList_store_row rfl 51 _ _ rfl wr.heap.size R.toArray rfl rfl 51 zr D0.out I51.out E51.out O51.out ?_; rw [HW3.out, HK.out])
        | fail)
      refine wp_region_held_drew (S := QW K m S) (by kernel_rfl) (by exact HQ3.out) (fun hHeld => ?_)
      refine takeL (i := 0) (v := ?_) rfl (by kernel_rfl) (by kernel_rfl) (by kernel_rfl) (fun _ _ _ h => h) (Or.inl ⟨by rfl, ?_⟩) hHeld ?_
      rotate_left
      · rintro w' ⟨c0, c1⟩; go_simp; rfl
      try simp only [Act.put, List.setIfInBounds_toArray, List.set_cons_zero, List.set_cons_succ]
      refine takeL (i := 1) (v := ?_) rfl (by kernel_rfl) (by kernel_rfl) (by kernel_rfl) (fun _ _ _ h => h) (Or.inl ⟨by rfl, ?_⟩) hHeld ?_
      rotate_left
      · rintro w' ⟨c0, c1⟩; go_simp; rfl
      try simp only [Act.put, List.setIfInBounds_toArray, List.set_cons_zero, List.set_cons_succ]
      refine takeL (i := 2) (v := ?_) rfl (by kernel_rfl) (by kernel_rfl) (by kernel_rfl) (fun _ _ _ h => h) (Or.inl ⟨by rfl, ?_⟩) hHeld ?_
      rotate_left
      · rintro w' ⟨c0, c1⟩; go_simp; rfl
      try simp only [Act.put, List.setIfInBounds_toArray, List.set_cons_zero, List.set_cons_succ]
      refine takeL (i := 4) (v := ?_) rfl (by kernel_rfl) (by kernel_rfl) (by kernel_rfl) (fun _ _ _ h => h) (Or.inl ⟨by rfl, ?_⟩) hHeld ?_
      rotate_left
      · rintro w' ⟨c0, c1⟩; go_simp; rfl
      try simp only [Act.put, List.setIfInBounds_toArray, List.set_cons_zero, List.set_cons_succ]
      refine takeL (i := 5) (v := ?_) rfl (by kernel_rfl) (by kernel_rfl) (by kernel_rfl) (fun _ _ _ h => h) (Or.inl ⟨by rfl, ?_⟩) hHeld ?_
      rotate_left
      · rintro w' ⟨c0, c1⟩; go_simp; rfl
      try simp only [Act.put, List.setIfInBounds_toArray, List.set_cons_zero, List.set_cons_succ]
      have CM : Hid (Calls Tryz.prog 47 #[.int .i64 m] w3.drew fun e w' => e = .returned (.string O) ∧ Below w3.heap.size w3.drew w') := hid (by
        rw [← HO.out]
        exact modeText_any m (by rw [← HM.out]; exact HXO.out.1) w3.drew (HD2.out _ HBD3.out.below))
      refine wpAnyH_ready (rs := [3]) (by kernel_rfl) (by simp) ?_
      refine consL rfl (fun KK hKK => ?_) AllReadyH.nil
      refine step_callv (by rfl) 47 [.tmp 21] _ [.int .i64 m] _ (by rfl) (by rfl) (enter47 _) CM.out ?_
      rintro e w4 ⟨rfl, hb4⟩
      refine ⟨_, rfl, ?_⟩
      have HBD4 : Hid (Bd w2 w4 H v (nums (treeB (L.take i)))) := hid (HBD3.out.carry hb4)
      have HQ4 : Hid (QW K m S w4) := hid (HQ3.out.below hb4 hK3)
      have B4 : Hid (w4.heap[K]? = some (.cells R.toArray 51 (0, 0))) := hid ((hb4.block K hK3).trans B3.out)
      have hK4 : K < w4.heap.size := Nat.lt_of_lt_of_le hK3 hb4.size
      refine hKK.out _ _ HQ4.out (fun hHeld => ?_)
      clear hKK KK hb4
      try simp only [Act.put, List.setIfInBounds_toArray, List.set_cons_zero, List.set_cons_succ]
      obtain ⟨w5, HW5⟩ : ∃ w5, Hid (w4.alloc (.cells #[.string O, .string S] 9) = w5) := ⟨_, rfl⟩
      obtain ⟨q, HQB⟩ : ∃ q, Hid (w4.heap.size = q) := ⟨_, rfl⟩
      have hb5 : Below w4.heap.size w4 w5 := by rw [← HW5.out]; exact (Below.refl _ _).alloc (Nat.le_refl _) _
      have HBD5 : Hid (Bd w2 w5 H v (nums (treeB (L.take i)))) := hid (HBD4.out.carry hb5)
      have HQ5 : Hid (QW K m S w5) := hid (HQ4.out.below hb5 hK4)
      have B5 : Hid (w5.heap[K]? = some (.cells R.toArray 51 (0, 0))) := hid ((hb5.block K hK4).trans B4.out)
      have hK5 : K < w5.heap.size := Nat.lt_of_lt_of_le hK4 hb5.size
      clear hb5
      refine wpAnyH_ready (rs := [6]) (by kernel_rfl) (by simp) ?_
      refine consL rfl (fun KK hKK => ?_) AllReadyH.nil
      refine step_exec (by rfl) (.slice (some ⟨q, 0, none⟩) 2 2) (w' := w5) (by rw [← HW5.out, ← HQB.out]; go_simp) ?_
      refine hKK.out _ _ HQ5.out (fun hHeld => ?_)
      clear hKK KK
      try simp only [Act.put, List.setIfInBounds_toArray, List.set_cons_zero, List.set_cons_succ]
      have CW : Hid (Calls Tryz.prog 46 #[.slice (some ⟨q, 0, none⟩) 2 2] w5 fun e w' => e = .returned (.string ⟨(octB m ++ 32 :: x.name).toArray⟩) ∧ Below w5.heap.size w5 w') := hid (by
        rw [← HQB.out]
        exact words_two (octB m) x.name w4 w5 (by have := octB_len m; have := HXO.out.2.1.2.1; omega) (by rw [HO.out, HS.out, HW5.out]))
      refine wpAnyH_ready (rs := [7]) (by kernel_rfl) (by simp) ?_
      refine consL rfl (fun KK hKK => ?_) AllReadyH.nil
      refine step_callv (by rfl) 46 [.tmp 25] _ [.slice (some ⟨q, 0, none⟩) 2 2] _ (by rfl) (by rfl) (enter46' _) CW.out ?_
      rintro e w6 ⟨rfl, hb6⟩
      refine ⟨_, rfl, ?_⟩
      have HBD6 : Hid (Bd w2 w6 H v (nums (treeB (L.take i)))) := hid (HBD5.out.carry hb6)
      have HQ6 : Hid (QW K m S w6) := hid (HQ5.out.below hb6 hK5)
      have hK6 : K < w6.heap.size := Nat.lt_of_lt_of_le hK5 hb6.size
      have B6 : Hid (w6.heap[K]? = some (.cells R.toArray 51 (0, 0))) := hid ((hb6.block K hK5).trans B5.out)
      refine hKK.out _ _ HQ6.out (fun hHeld => ?_)
      clear hKK KK hb6
      try simp only [Act.put, List.setIfInBounds_toArray, List.set_cons_zero, List.set_cons_succ]
      obtain ⟨v7, w7, hr7, hbd7, hg7⟩ := HBD6.out.str (octB m ++ 32 :: x.name) (by have h1 := HTL.out i; have h2 := octB_len m; have h3 := HXO.out.2.1.2.1; rw [nums_len]; simp only [List.length_append, List.length_cons]; omega)
      have B7 : Hid (w7.heap[K]? = some (.cells R.toArray 51 (0, 0))) := hid (HBD6.out.keep hg7 B6.out (by decide))
      have HQ7 : Hid (QW K m S w7) := hid (HQ6.out.grown hg7 hK6 (HBD6.out.ne B6.out (by decide)))
      have HBD7 : Hid (Bd w2 w7 H v7 (nums (treeB (L.take i)) ++ nums (octB m ++ 32 :: x.name))) := hbd7
      refine wpAnyH_ready (rs := [8]) (by kernel_rfl) (by simp) ?_
      refine consL rfl (fun KK hKK => ?_) AllReadyH.nil
      refine step_exec (by rfl) v7 (w' := w7) (by unfold execOp; simp only [resolve, invoke, builtin, Sem.run_bind, Sem.run_pure, Result.andThen_ok, List.map_toArray, List.map_cons, List.map_nil]; exact (congrArg (fun r => Result.andThen r _) hr7).trans rfl) ?_
      refine hKK.out _ _ HQ7.out (fun hHeld => ?_)
      clear hKK KK hr7 hbd7 hg7
      try simp only [Act.put, List.setIfInBounds_toArray, List.set_cons_zero, List.set_cons_succ]
      refine takeL (i := 9) (v := ?_) rfl (by kernel_rfl) (by kernel_rfl) (by kernel_rfl) (fun _ _ _ h => h) (Or.inl ⟨by rfl, ?_⟩) hHeld ?_
      rotate_left
      · rintro w' ⟨c0, c1⟩; go_simp; rfl
      try simp only [Act.put, List.setIfInBounds_toArray, List.set_cons_zero, List.set_cons_succ]
      refine wpAnyH_done (by kernel_rfl) ?_ _
      have hl7 : (nums (treeB (L.take i)) ++ nums (octB m ++ 32 :: x.name)).length + 1 ≤ 1000000 := by have h1 := HTL.out i; have h2 := octB_len m; have h3 := HXO.out.2.1.2.1; rw [List.length_append, nums_len, nums_len]; simp only [List.length_append, List.length_cons]; omega
      have hl8 : ((nums (treeB (L.take i)) ++ nums (octB m ++ 32 :: x.name)) ++ [0]).length + x.id.length ≤ 1000000 := by have h1 := HTL.out i; have h2 := octB_len m; have h3 := HXO.out.2.1.2.1; rw [List.length_append, List.length_append, nums_len, nums_len]; simp only [List.length_append, List.length_cons, List.length_nil]; omega
      clear hHeld
      go_wp2_with (first
        | (at_builtin; refine wpList_bd_slG rfl _ _ rfl H _ _ rfl (HBD7.out.alloc _) _ _ [0] rfl (sl_one _ _) hl7 ?_; intro v8 w8 hbd8 hg8; have B8 : Hid (w8.heap[K]? = some (.cells R.toArray 51 (0, 0))) := hid ((HBD7.out.alloc _).keep hg8 ((((Below.refl w7.heap.size w7).alloc (Nat.le_refl _) _).block K (lt_of_some B7.out)).trans B7.out) (by decide)); have HBD8 : Hid (Bd w2 w8 H v8 ((nums (treeB (L.take i)) ++ nums (octB m ++ 32 :: x.name)) ++ [0])) := hbd8; clear hbd8 hg8)
        | (at_builtin; refine wpList_bd_slG rfl _ _ rfl H _ _ rfl HBD8.out (some ⟨K, 2, none⟩) 20 x.id (by rw [hx20]; rfl) (id_sl HR.out B8.out hx20) hl8 ?_; intro v9 w9 hbd9 hg9; have HBD9 : Hid (Bd w2 w9 H v9 (((nums (treeB (L.take i)) ++ nums (octB m ++ 32 :: x.name)) ++ [0]) ++ x.id)) := hbd9; clear hbd9 hg9)
        | fail)
      go_roundg (n - (i + 1))
      case measure => omega
      case rel =>
        refine ⟨i + 1, _, rfl, by omega, rfl, by go_num, hid ?_⟩
        have h9 := HBD9.out
        rw [← HM.out, er_out _ x HXO.out.2.2.2, ← nums_app, ← treeB_snoc, ← HX.out, ← take_snocE L i (by rw [HLN.out]; exact hlt)] at h9
        exact h9
    · have hlti : ¬ (i : Int) < (n : Int) := by omega
      have htk : L.take i = L := List.take_of_length_le (by rw [HLN.out]; omega)
      have HBE : Hid (Bd w2 wr H v (nums (treeB L))) := hid (by have := HBD.out; rw [htk] at this; exact this)
      obtain ⟨a9, c9, rfl, hsl⟩ := HBE.out.sl
      have HSL : Hid (Sl wr a9 c9 (nums (treeB L))) := hsl
      have HBZ : Hid (Below G w wr) := hid (HB2.out.trans (HBE.out.below.mono HGH.out))
      clear htk hsl
      go_wp2
      go_ret2
      refine ⟨by rw [HG.out]; exact HBZ.out, .inl ⟨HOK.out, a9, c9, ?_, ?_⟩⟩
      · rw [HL.out, ← nums_len (treeB L)]; rfl
      · rw [HL.out]; exact HSL.out
end Go.Proofs.YtbpdielmdhhdfaaGreatDoor
/- The document's 'WriteTree'. -/
namespace Go.Proofs.YtbpdielmdhhdfaaGreatDoor
open Go.RowKit
variable [Inhabited Er] [Inhabited En]
set_option linter.unusedVariables false
set_option linter.unusedSectionVars false
set_option linter.unusedSimpArgs false
/-- What the document's 'WriteTree' gives. -/
def PostWR (es : List Er) (w : World) (e : Ending) (w' : World) : Prop := Below w.heap.size w w' ∧
  ((okL es ∧ ∃ a cap, e = .returned (.tuple #[.slice a (treeB (srtE es)).length cap, .int .i64 0]) ∧ Sl w' a cap (nums (treeB (srtE es)))) ∨ (¬ okL es ∧ e = .returned (.tuple #[.slice none 0 0, .int .i64 21])))
theorem id_sl2 {w : World} {b o : Nat} {x : Er} (hr : w.rangeAt b o (erV x)) (hb : b < w.heap.size) (hx : x.id.length = 20) : Sl w (some ⟨b, o + 2, none⟩) 20 x.id :=
  ⟨by omega, fun _ => ⟨b, o + 2, rfl, hb, fun j hj => by
    have := hr (2 + j) (.int .u8 (x.id.getD j 0)) (by
      rw [Nat.add_comm 2 j]
      exact row_at .u8 x.id j hj)
    rw [← this]
    congr 2
    omega⟩, fun h => by cases h⟩
theorem er_outR (out : List Int) (x : Er) (h : ∀ n ∈ x.id, 0 ≤ n ∧ n < 256) : ((((out ++ nums (octB x.mode)) ++ [32]) ++ nums x.name) ++ [0]) ++ x.id = out ++ nums (erB x) := by
  rw [← er_out out x h, nums_app]
  have : nums (32 :: x.name) = 32 :: nums x.name := rfl
  rw [this]
  simp
theorem okL_snoc {es : List Er} {i : Nat} {x : Er} (h : okL (es.take i)) (hx : es.take (i + 1) = es.take i ++ [x]) (hm : okM x.mode) (he : okE x.name) (hd : ∀ y ∈ es.take i, y.name ≠ x.name) : okL (es.take (i + 1)) := by
  rw [hx]
  refine ⟨fun y hy => ?_, ?_⟩
  · rcases List.mem_append.1 hy with hy | hy
    · exact h.1 y hy
    · have : y = x := by simpa using hy
      subst this
      exact ⟨hm, he⟩
  · rw [List.map_append, List.nodup_append]
    refine ⟨h.2, by simp, fun a ha b hb => ?_⟩
    obtain ⟨y, hy, rfl⟩ := List.mem_map.1 ha
    have : b = x.name := by simpa using hb
    subst this
    exact hd y hy
theorem take_getD {es : List Er} {i : Nat} {y : Er} (h : y ∈ es.take i) : ∃ q, q < i ∧ es.getD q default = y := by
  obtain ⟨q, hq, rfl⟩ := List.mem_iff_getElem.1 h
  rw [List.length_take] at hq
  refine ⟨q, by omega, ?_⟩
  rw [List.getD_eq_getElem?_getD, List.getElem?_eq_getElem (by omega)]
  simp
theorem not_nodup {es : List Er} {k i : Nat} (hki : k < i) (hi : i < es.length) (he : (es.getD k default).name = (es.getD i default).name) : ¬ okL es := fun h => by
  have := List.pairwise_iff_getElem.1 h.2 k i (by rw [List.length_map]; omega) (by rw [List.length_map]; exact hi) hki
  rw [List.getD_eq_getElem?_getD, List.getD_eq_getElem?_getD, List.getElem?_eq_getElem (by omega), List.getElem?_eq_getElem hi] at he
  exact this (by simpa using he)
set_option maxRecDepth 20000 in
set_option maxHeartbeats 8000000 in
theorem writeTreeR_any (a : Option Addr) (cap : Nat) (es : List Er) (hwf : WfE es) (hn : es.length ≤ 1000) (w : World) (hP : Pe w a cap es) :
    Calls Tryz.prog 20 #[.slice a es.length cap] w (PostWR es w) := by
  obtain ⟨n, HN⟩ : ∃ n, Hid (es.length = n) := ⟨_, rfl⟩
  obtain ⟨G, HG⟩ : ∃ G, Hid (w.heap.size = G) := ⟨_, rfl⟩
  have hnn : n ≤ 1000 := by rw [← HN.out]; exact hn
  have hnI : ¬ (2000 : Int) < (n : Int) := by omega
  have HPA : Hid (∀ W, Below G w W → Pe W a cap es) := fun W hW => hP.below (by rw [HG.out]; exact hW)
  have HPL : Hid (0 < n → ∃ b off, a = some ⟨b, off, none⟩ ∧ b < G) := fun h0 => by
    obtain ⟨b, off, e1, e2, _⟩ := hP.at_ (by rw [HN.out]; exact h0)
    exact ⟨b, off, e1, by rw [← HG.out]; exact e2⟩
  have HCE : Hid (∀ b off, a = some ⟨b, off, none⟩ → ∀ W, Below G w W → ∀ i, i < n → W.cell? ⟨b, off + i * 22, none⟩ = some (.int .i64 (es.getD i default).mode) ∧ W.cell? ⟨b, off + i * 22 + 1, none⟩ = some (.string ⟨(es.getD i default).name.toArray⟩)) := fun b off hae W hW i hi => by
    obtain ⟨b', off', e1, e2, e3⟩ := (HPA.out W hW).at_ (by rw [HN.out]; omega)
    rw [hae] at e1
    cases e1
    have hr := e3 i (by rw [HN.out]; exact hi)
    exact ⟨by simpa using hr 0 _ rfl, by simpa using hr 1 _ rfl⟩
  have HWF : Hid (WfE es) := hwf
  have C50 : Hid (okL es → ∀ W, Below G w W → Calls Tryz.prog 50 #[.slice a n cap] W fun e w' => Below W.heap.size W w' ∧ ∃ a' cap', e = .returned (.slice a' n cap') ∧ Pe w' a' cap' (srtE es)) := fun hok W hW => by
    have := sorted_any a cap es (fun x hx => (hwf x hx).1) (fun x hx => by have := (hok.1 x hx).2.2.1; omega) hn W (HPA.out W hW)
    rw [HN.out] at this
    exact this
  have HB0 : Hid (Below G w w) := Below.refl _ _
  have HGS : Hid (G ≤ w.heap.size) := hid (by rw [HG.out]; exact Nat.le_refl _)
  have BAD : Hid (¬ okL es → ∀ W, Below G w W → PostWR es w (.returned (.tuple #[.slice none 0 0, .int .i64 21])) W) := fun h W hW => ⟨by rw [HG.out]; exact hW, .inr ⟨h, rfl⟩⟩
  rw [HN.out]
  clear hP hwf
  go_enter Tryz.func20, Tryz.ntmps20
  go_wp2_with fail
  go_loopg [4] n (fun g iv wr => ∃ i : Nat, i ≤ n ∧ g = n - i ∧ iv = .int .i64 i ∧ Hid (Below G w wr) ∧ Hid (okL (es.take i)))
  case atStart => exact ⟨0, Nat.zero_le _, rfl, rfl, HB0, hid ⟨by simp, by simp⟩⟩
  case round =>
    obtain ⟨i, hi, hk, rfl, HB, HOI⟩ := hrel
    by_cases hlt : i < n
    · have hlti : (i : Int) < (n : Int) := by omega
      obtain ⟨b, off, hae, hbG⟩ := HPL.out (by omega)
      obtain ⟨x, HX⟩ : ∃ x, Hid (es.getD i default = x) := ⟨_, rfl⟩
      have hxm : x ∈ es := by
        rw [← HX.out, List.getD_eq_getElem?_getD, List.getElem?_eq_getElem (by rw [HN.out]; exact hlt)]
        exact List.getElem_mem _
      have HXM : Hid (x ∈ es) := hxm
      obtain ⟨S, HS⟩ : ∃ S : ByteArray, Hid ((⟨x.name.toArray⟩ : ByteArray) = S) := ⟨_, rfl⟩
      obtain ⟨m, HM⟩ : ∃ m, Hid (x.mode = m) := ⟨_, rfl⟩
      obtain ⟨O, HO⟩ : ∃ S : ByteArray, Hid ((⟨(octB m).toArray⟩ : ByteArray) = S) := ⟨_, rfl⟩
      have HC : Hid (∀ W, Below G w W → W.cell? ⟨b, off + i * 22, none⟩ = some (.int .i64 m) ∧ W.cell? ⟨b, off + i * 22 + 1, none⟩ = some (.string S)) := fun W hW => by
        have := HCE.out b off hae W hW i hlt
        rw [HX.out, HM.out, HS.out] at this
        exact this
      have HCK : Hid (∀ W, Below G w W → ∀ k, k < n → W.cell? ⟨b, off + k * 22 + 1, none⟩ = some (.string ⟨(es.getD k default).name.toArray⟩)) := fun W hW k hk => (HCE.out b off hae W hW k hk).2
      subst hae
      have c0 := (HC.out wr HB.out).1
      have c1 := (HC.out wr HB.out).2
      have HTS : Hid (es.take (i + 1) = es.take i ++ [x]) := hid (by rw [take_snocE es i (by rw [HN.out]; exact hlt), HX.out])
      have C49 : Hid (∀ W, Calls Tryz.prog 49 #[.int .i64 m] W fun e w' => e = .returned (.string O) ∧ w' = W) := fun W => by rw [← HO.out]; exact octal_any m W
      have HOE : Hid (O.toList.isEmpty = (octB m).isEmpty) := hid (by rw [← HO.out, Lib.toList_data])
      clear hxm
      by_cases he : okE x.name
      · have C48 : Hid (∀ W, Calls Tryz.prog 48 #[.string S] W fun e w' => e = .returned (.bool true) ∧ w' = W) := fun W => by
          rw [← HS.out]
          refine (isName_any x.name W).mono ?_
          rintro e w' ⟨hb, h2⟩
          rcases bis_or hb with ⟨_, rfl⟩ | ⟨h, _⟩
          · exact ⟨rfl, h2⟩
          · exact absurd he h
        have HE : Hid (okE x.name) := he
        clear he
        by_cases hm : okM m
        · have hoe : O.toList.isEmpty = false := by
            rw [HOE.out]
            cases h : octB m with
            | nil => exact absurd hm ((octB_nil m).1 h)
            | cons p q => rfl
          have HMM : Hid (okM x.mode) := hid (by rw [HM.out]; exact hm)
          clear hm
          go_wp2_with (first
            | (go_at_call 48; refine (C48.out _).mono ?_; rintro ev w3 ⟨rfl, rfl⟩)
            | (go_at_call 49; refine (C49.out _).mono ?_; rintro ev w3 ⟨rfl, rfl⟩)
            | fail)
          go_loopg [6] i (fun g kv wq => ∃ k : Nat, k ≤ i ∧ g = i - k ∧ kv = .int .i64 k ∧ Hid (Below G w wq) ∧ Hid (∀ q, q < k → (es.getD q default).name ≠ x.name))
          case atStart => exact ⟨0, Nat.zero_le _, rfl, rfl, HB, hid (fun q hq => absurd hq (Nat.not_lt_zero _))⟩
          case round =>
            obtain ⟨k, hki, hkg, rfl, HBk, HNE⟩ := hrel
            by_cases hkl : k < i
            · have hkli : (k : Int) < (i : Int) := by omega
              have hkn : (k : Int) < (n : Int) := by omega
              obtain ⟨SY, HSY⟩ : ∃ S : ByteArray, Hid ((⟨(es.getD k default).name.toArray⟩ : ByteArray) = S) := ⟨_, rfl⟩
              have d1 : wr.cell? ⟨b, off + i * 22 + 1, none⟩ = some (.string S) := (HC.out wr HBk.out).2
              have d2 : wr.cell? ⟨b, off + k * 22 + 1, none⟩ = some (.string SY) := by rw [← HSY.out]; exact HCK.out wr HBk.out k (by omega)
              obtain ⟨bq, HBQ⟩ : ∃ bq : Bool, (SY.toList == S.toList) = bq := ⟨_, rfl⟩
              have HEQ : Hid (bq = true ↔ (es.getD k default).name = x.name) := hid (by
                rw [← HBQ, ← HSY.out, ← HS.out, Lib.toList_data, Lib.toList_data]
                simp)
              clear c0 c1
              go_wp2_with fail
              go_quiet (fail)
              have HBd : Hid (Below G w (wr.drewN nq)) := hid (below_drewH HBk.out nq)
              generalize wr.drewN nq = WQ at HBd ⊢
              cases bq with
              | true =>
                have HNO : Hid (¬ okL es) := hid (not_nodup hkl (by rw [HN.out]; exact hlt) (by rw [HX.out]; exact HEQ.out.1 rfl))
                go_wp2
                go_ret2
                exact BAD.out HNO.out _ HBd.out
              | false =>
                go_wp2
                go_roundg (i - (k + 1))
                case measure => omega
                case rel =>
                  refine ⟨k + 1, by omega, rfl, by go_num, HBd, hid (fun q hq => ?_)⟩
                  by_cases hqk : q < k
                  · exact HNE.out q hqk
                  · have : q = k := by omega
                    subst this
                    intro h
                    have := HEQ.out.2 h
                    cases this
            · have hkli : ¬ (k : Int) < (i : Int) := by omega
              have HOK1 : Hid (okL (es.take (i + 1))) := hid (okL_snoc HOI.out HTS.out HMM.out HE.out (fun y hy => by
                obtain ⟨q, hq, rfl⟩ := take_getD hy
                exact HNE.out q (by omega)))
              clear c0 c1
              go_wp2
              go_roundg (n - (i + 1))
              case measure => omega
              case rel => exact ⟨i + 1, by omega, rfl, by go_num, HBk, HOK1⟩
        · have hoe : O.toList.isEmpty = true := by rw [HOE.out, (octB_nil m).2 hm]; rfl
          have HNO : Hid (¬ okL es) := fun h => hm (by rw [← HM.out]; exact (h.1 x HXM.out).1)
          clear hm
          go_wp2_with (first
            | (go_at_call 48; refine (C48.out _).mono ?_; rintro ev w3 ⟨rfl, rfl⟩)
            | (go_at_call 49; refine (C49.out _).mono ?_; rintro ev w3 ⟨rfl, rfl⟩)
            | fail)
          go_ret2
          exact BAD.out HNO.out _ HB.out
      · have C48 : Hid (∀ W, Calls Tryz.prog 48 #[.string S] W fun e w' => e = .returned (.bool false) ∧ w' = W) := fun W => by
          rw [← HS.out]
          refine (isName_any x.name W).mono ?_
          rintro e w' ⟨hb, h2⟩
          rcases bis_or hb with ⟨h, _⟩ | ⟨_, rfl⟩
          · exact absurd h he
          · exact ⟨rfl, h2⟩
        have HNO : Hid (¬ okL es) := fun h => he (h.1 x HXM.out).2
        clear he
        go_wp2_with (first
          | (go_at_call 48; refine (C48.out _).mono ?_; rintro ev w3 ⟨rfl, rfl⟩)
          | fail)
        go_ret2
        exact BAD.out HNO.out _ HB.out
    · have hlti : ¬ (i : Int) < (n : Int) := by omega
      have HOK : Hid (okL es) := hid (by
        have := HOI.out
        rw [List.take_of_length_le (by rw [HN.out]; omega)] at this
        exact this)
      clear HOI
      go_wp2_with fail
      refine (C50.out HOK.out wr HB.out).mono ?_
      rintro ev w2 ⟨hb2, a1, cap1, rfl, hpe⟩
      have HPE2 : Hid (Pe w2 a1 cap1 (srtE es)) := hpe
      have HB2 : Hid (Below G w w2) := HB.out.trans (hb2.mono (Nat.le_trans HGS.out HB.out.size))
      clear hpe hb2
      obtain ⟨L, HL⟩ : ∃ L, Hid (srtE es = L) := ⟨_, rfl⟩
      obtain ⟨H, HH⟩ : ∃ H, Hid (w2.heap.size = H) := ⟨_, rfl⟩
      have HPM : Hid (L.Perm es) := hid (by rw [← HL.out]; exact srtE_perm es)
      have HLN : Hid (L.length = n) := hid (by rw [HPM.out.length_eq]; exact HN.out)
      have HLX : Hid (∀ x ∈ L, okM x.mode ∧ okE x.name ∧ x.id.length = 20 ∧ ∀ k ∈ x.id, 0 ≤ k ∧ k < 256) := fun x hx => by
        have hx' := HPM.out.subset hx
        exact ⟨(HOK.out.1 x hx').1, (HOK.out.1 x hx').2, HWF.out x hx'⟩
      have HPB : Hid (0 < n → ∃ b off, a1 = some ⟨b, off, none⟩ ∧ b < H) := fun h0 => by
        obtain ⟨b, off, e1, e2, _⟩ := HPE2.out.at_ (by rw [HL.out, HLN.out]; exact h0)
        exact ⟨b, off, e1, by rw [← HH.out]; exact e2⟩
      have HRL : Hid (∀ b off, a1 = some ⟨b, off, none⟩ → ∀ W, Below H w2 W → ∀ i, i < n → W.rangeAt b (off + i * 22) (erV (L.getD i default)) ∧ b < W.heap.size) := fun b off hae W hW i hi => by
        obtain ⟨b', off', e1, e2, e3⟩ := (HPE2.out.below (by rw [HH.out]; exact hW)).at_ (by rw [HL.out, HLN.out]; omega)
        rw [hae] at e1
        cases e1
        rw [HL.out] at e3
        exact ⟨e3 i (by rw [HLN.out]; exact hi), e2⟩
      have HGH : Hid (G ≤ H) := hid (by rw [← HH.out]; exact Nat.le_trans HGS.out HB2.out.size)
      have HTL : Hid (∀ i, (treeB (L.take i)).length ≤ 78000) := fun i => by
        have h1 := treeB_len (L.take i) (fun x hx => by
          have := HLX.out x (List.mem_of_mem_take hx)
          exact ⟨this.2.1.2.1, this.2.2.1⟩)
        have h2 : (L.take i).length ≤ 1000 := by rw [List.length_take, HLN.out]; omega
        omega
      go_wp2_with fail
      go_loopg [7, 9] n (fun g u iv wq => ∃ (i : Nat) (v : Value), v = u ∧ i ≤ n ∧ g = n - i ∧ iv = .int .i64 i ∧ Hid (Bd w2 wq H v (nums (treeB (L.take i)))))
      case atStart => exact ⟨0, _, rfl, Nat.zero_le _, rfl, rfl, hid (bd_nil w2 H (by rw [HH.out]; exact Nat.le_refl _))⟩
      case round =>
        obtain ⟨p, v, hv, hp, hkp, rfl, HBD⟩ := hrel
        subst hv
        by_cases hplt : p < n
        · have hplti : (p : Int) < (n : Int) := by omega
          obtain ⟨b2, off2, hae, hbH⟩ := HPB.out (by omega)
          obtain ⟨x, HX⟩ : ∃ x, Hid (L.getD p default = x) := ⟨_, rfl⟩
          have hxm : x ∈ L := by
            rw [← HX.out, List.getD_eq_getElem?_getD, List.getElem?_eq_getElem (by rw [HLN.out]; exact hplt)]
            exact List.getElem_mem _
          have HXO : Hid (okM x.mode ∧ okE x.name ∧ x.id.length = 20 ∧ ∀ k ∈ x.id, 0 ≤ k ∧ k < 256) := hid (HLX.out x hxm)
          have hx20 := HXO.out.2.2.1
          obtain ⟨S, HS⟩ : ∃ S : ByteArray, Hid ((⟨x.name.toArray⟩ : ByteArray) = S) := ⟨_, rfl⟩
          obtain ⟨m, HM⟩ : ∃ m, Hid (x.mode = m) := ⟨_, rfl⟩
          obtain ⟨nm, HNM2⟩ : ∃ l, Hid (x.name = l) := ⟨_, rfl⟩
          obtain ⟨oc, HOC⟩ : ∃ l, Hid (octB m = l) := ⟨_, rfl⟩
          have HR : Hid (∀ W, Below H w2 W → W.rangeAt b2 (off2 + p * 22) (erV x) ∧ b2 < W.heap.size) := fun W hW => by
            rw [← HX.out]; exact HRL.out b2 off2 hae W hW p hplt
          have HCM : Hid (∀ W, Below H w2 W → W.cell? ⟨b2, off2 + p * 22, none⟩ = some (.int .i64 m)) := fun W hW => by
            rw [← HM.out]; simpa using (HR.out W hW).1 0 _ rfl
          have HCN : Hid (∀ W, Below H w2 W → W.cell? ⟨b2, off2 + p * 22 + 1, none⟩ = some (.string ⟨nm.toArray⟩)) := fun W hW => by
            rw [← HNM2.out]; simpa using (HR.out W hW).1 1 _ rfl
          have C49 : Hid (∀ W, Calls Tryz.prog 49 #[.int .i64 m] W fun e w' => e = .returned (.string ⟨oc.toArray⟩) ∧ w' = W) := fun W => by rw [← HOC.out]; exact octal_any m W
          have e0 := HCM.out _ HBD.out.below
          obtain ⟨o0, HO0⟩ : ∃ o, Hid (nums (treeB (L.take p)) = o) := ⟨_, rfl⟩
          have hl0 : o0.length ≤ 78000 := by rw [← HO0.out, nums_len]; exact HTL.out p
          have hl1 : oc.length ≤ 6 := by rw [← HOC.out]; exact octB_len m
          have hl2 : nm.length ≤ 50 := by rw [← HNM2.out]; exact HXO.out.2.1.2.1
          rw [HO0.out] at HBD
          have hq1 : o0.length + oc.length ≤ 1000000 := by omega
          have hq2 : (o0 ++ nums oc).length + [(32 : Int)].length ≤ 1000000 := by rw [List.length_append, nums_len]; simp; omega
          have hq3 : ((o0 ++ nums oc) ++ [32]).length + nm.length ≤ 1000000 := by rw [List.length_append, List.length_append, nums_len]; simp; omega
          have hq4 : (((o0 ++ nums oc) ++ [32]) ++ nums nm).length + [(0 : Int)].length ≤ 1000000 := by rw [List.length_append, List.length_append, List.length_append, nums_len, nums_len]; simp; omega
          have hq5 : ((((o0 ++ nums oc) ++ [32]) ++ nums nm) ++ [0]).length + x.id.length ≤ 1000000 := by rw [List.length_append, List.length_append, List.length_append, List.length_append, nums_len, nums_len]; simp; omega
          subst hae
          clear hxm
          go_wp2_with (first
            | (go_at_call 49; refine (C49.out _).mono ?_; rintro ev w3 ⟨rfl, rfl⟩)
            | (at_builtin; refine wpList_bd_str rfl _ _ rfl H _ _ rfl HBD.out oc rfl hq1 ?_; intro v1 w1 hbd1; have HBD1 : Hid (Bd w2 w1 H v1 (o0 ++ nums oc)) := hbd1; clear hbd1)
            | (at_builtin; refine wpList_bd_sl rfl _ _ rfl H _ _ rfl (HBD1.out.alloc _) _ _ [32] rfl (sl_one _ _) hq2 ?_; intro v3 w3 hbd3; have HBD3 : Hid (Bd w2 w3 H v3 ((o0 ++ nums oc) ++ [32])) := hbd3; clear hbd3; have e3 := HCN.out _ HBD3.out.below)
            | (at_builtin; refine wpList_bd_str rfl _ _ rfl H _ _ rfl HBD3.out nm rfl hq3 ?_; intro v4 w4 hbd4; have HBD4 : Hid (Bd w2 w4 H v4 (((o0 ++ nums oc) ++ [32]) ++ nums nm)) := hbd4; clear hbd4 e3)
            | (at_builtin; refine wpList_bd_sl rfl _ _ rfl H _ _ rfl (HBD4.out.alloc _) _ _ [0] rfl (sl_one _ _) hq4 ?_; intro v5 w5 hbd5; have HBD5 : Hid (Bd w2 w5 H v5 ((((o0 ++ nums oc) ++ [32]) ++ nums nm) ++ [0])) := hbd5; clear hbd5)
            | (at_builtin; refine wpList_bd_sl rfl _ _ rfl H _ _ rfl HBD5.out (some ⟨b2, off2 + p * 22 + 2, none⟩) 20 x.id (by rw [hx20]; rfl) (id_sl2 (HR.out _ HBD5.out.below).1 (HR.out _ HBD5.out.below).2 hx20) hq5 ?_; intro v6 w6 hbd6; have HBD6 : Hid (Bd w2 w6 H v6 (((((o0 ++ nums oc) ++ [32]) ++ nums nm) ++ [0]) ++ x.id)) := hbd6; clear hbd6)
            | fail)
          go_roundg (n - (p + 1))
          case measure => omega
          case rel =>
            refine ⟨p + 1, _, rfl, by omega, rfl, by go_num, hid ?_⟩
            have h6 := HBD6.out
            rw [← HOC.out, ← HNM2.out, ← HM.out, er_outR o0 x HXO.out.2.2.2, ← HO0.out, ← nums_app, ← treeB_snoc, ← HX.out, ← take_snocE L p (by rw [HLN.out]; exact hplt)] at h6
            exact h6
        · have hplti : ¬ (p : Int) < (n : Int) := by omega
          have htk : L.take p = L := List.take_of_length_le (by rw [HLN.out]; omega)
          have HBE : Hid (Bd w2 wr H v (nums (treeB L))) := hid (by have := HBD.out; rw [htk] at this; exact this)
          obtain ⟨a9, c9, rfl, hsl⟩ := HBE.out.sl
          have HSL : Hid (Sl wr a9 c9 (nums (treeB L))) := hsl
          have HBZ : Hid (Below G w wr) := hid (HB2.out.trans (HBE.out.below.mono HGH.out))
          clear htk hsl
          go_wp2
          go_ret2
          refine ⟨by rw [HG.out]; exact HBZ.out, .inl ⟨HOK.out, a9, c9, ?_, ?_⟩⟩
          · rw [HL.out, ← nums_len (treeB L)]; rfl
          · rw [HL.out]; exact HSL.out
end Go.Proofs.YtbpdielmdhhdfaaGreatDoor
/- 'strconv.ParseInt' at base 8, 32 bits; package object: 'modeOf'. -/
namespace Go.Proofs.YtbpdielmdhhdfaaGreatDoor
open Go.RowKit Go.Shelf
set_option linter.unusedVariables false
set_option linter.unusedSimpArgs false
/-- Octal digits, as far as they are a number of 32 bits. -/
def oct8 : Nat → List UInt8 → Option Nat
  | acc, [] => some acc
  | acc, c :: t => if 48 ≤ c.toNat ∧ c.toNat ≤ 55 ∧ acc * 8 + (c.toNat - 48) ≤ 4294967295 then oct8 (acc * 8 + (c.toNat - 48)) t else none
/-- What is asked of them. -/
def PU (l : List UInt8) (e : Ending) : Prop := ∃ (v : Int) (ev : Value), e = .returned (.tuple #[.int .u64 v, ev]) ∧ 0 ≤ v ∧ v ≤ 4294967295 ∧ (ev = .nilIface ∨ ev = .iface 289 (.int .i64 1) ∨ ev = .iface 289 (.int .i64 2)) ∧ (∀ r, l ≠ [] → oct8 0 l = some r → v = r ∧ ev = .nilIface)
theorem PU.bad1 {l : List UInt8} (h : l = [] ∨ oct8 0 l = none) (v : Int) (h0 : 0 ≤ v) (h1 : v ≤ 4294967295) : PU l (.returned (.tuple #[.int .u64 v, .iface 289 (.int .i64 1)])) :=
  ⟨v, _, rfl, h0, h1, .inr (.inl rfl), fun r hn hr => by
    rcases h with h | h
    · exact absurd h hn
    · rw [h] at hr; cases hr⟩
theorem PU.bad2 {l : List UInt8} (h : l = [] ∨ oct8 0 l = none) : PU l (.returned (.tuple #[.int .u64 0, .iface 289 (.int .i64 2)])) :=
  ⟨0, _, rfl, by decide, by decide, .inr (.inr rfl), fun r hn hr => by
    rcases h with h | h
    · exact absurd h hn
    · rw [h] at hr; cases hr⟩
theorem lower_any (c : Int) (w : World) : Calls Tryz.prog 230 #[.int .u8 c] w fun e w' => e = .returned (.int .u8 (bits .or .u8 c 32)) ∧ w' = w := by
  go_enter Tryz.func230, Tryz.ntmps230
  go_wp2
  go_ret
  exact ⟨rfl, rfl⟩
set_option maxHeartbeats 8000000 in
set_option maxRecDepth 100000 in
theorem parseUint8 (l : List UInt8) (hl : l.length ≤ 1000000) (w : World) :
    Calls Tryz.prog 222 #[.string ⟨l.toArray⟩, .int .i64 8, .int .i64 32] w fun e w' => PU l e ∧ Below w.heap.size w w' := by
  by_cases hne : l = []
  · subst hne
    have HB : Hid (Below w.heap.size w w) := Below.refl _ _
    go_enter Tryz.func222, Tryz.ntmps222
    go_wp2
    go_ret2
    exact ⟨PU.bad2 (.inl rfl), HB.out⟩
  · obtain ⟨S, HS⟩ : ∃ S : ByteArray, Hid (S = ⟨l.toArray⟩) := ⟨_, rfl⟩
    obtain ⟨n, HN⟩ : ∃ n, Hid (l.length = n) := ⟨_, rfl⟩
    have hn : n ≤ 1000000 := by rw [← HN.out]; exact hl
    have hemp : S.toList.isEmpty = false := by
      rw [HS.out, Lib.toList_data]
      simpa using hne
    obtain ⟨cap, w1, hcv, hmk, hb1, _⟩ := conv_mk l w
    rw [← HS.out, HN.out] at hcv
    have HB1 : Hid (Below w.heap.size w w1) := hb1
    have HM : Hid (Mk w1 w.heap.size cap (nums l)) := hmk
    have hmv : IntKind.u64.wrap (IntKind.u64.wrap 4294967296 - 1) = 4294967295 := by
      rw [IntKind.wrap_u64, IntKind.wrap_u64]
      decide
    rw [← HS.out]
    clear hmk hb1
    go_enter Tryz.func222, Tryz.ntmps222
    go_wp2
    go_loop [12, 13, 101] (fun vu vn vi => ∃ (k acc : Nat) (a : Int), vu = .bool false ∧ vn = .int .u64 a ∧ vi = .int .i64 k ∧ k ≤ n ∧ Hid (a = (acc : Int) ∧ acc ≤ 4294967295 ∧ oct8 0 l = oct8 acc (l.drop k)))
      (fun _ _ vi => n - (intOf vi).toNat)
    case atStart => exact ⟨0, 0, 0, rfl, rfl, rfl, by omega, rfl, by omega, rfl⟩
    case round =>
      obtain ⟨k, acc, a, rfl, rfl, rfl, hk, hh⟩ := hrel
      obtain ⟨ha, hacc, hdec⟩ := hh.out
      clear hh
      have a0 : 0 ≤ a := by omega
      have a1 : a ≤ 4294967295 := by omega
      by_cases hkn : k < n
      · have hkl : k < l.length := by rw [HN.out]; exact hkn
        have hdrop : l.drop k = l[k]'hkl :: l.drop (k + 1) := List.drop_eq_getElem_cons hkl
        have hc : w1.cell? ⟨w.heap.size, k, none⟩ = some (.int .u8 ((l[k]'hkl).toNat : Int)) := by
          have := HM.out.at_ k (by rw [nums_len]; exact hkl)
          rw [Nat.zero_add] at this
          rw [this]
          simp [nums, List.getD_eq_getElem?_getD, List.getElem?_eq_getElem hkl]
        rw [hdrop] at hdec
        generalize l[k]'hkl = c at hc hdec
        have hc256 : c.toNat < 256 := c.toNat_lt
        clear hdrop
        by_cases hdig : 48 ≤ c.toNat ∧ c.toNat ≤ 55
        · obtain ⟨hd0, hd1⟩ := hdig
          by_cases hov : 4294967295 < acc * 8 + (c.toNat - 48)
          · have hF : oct8 0 l = none := by rw [hdec]; simp only [oct8]; rw [if_neg (by omega)]
            have HP : Hid (PU l (.returned (.tuple #[.int .u64 4294967295, .iface 289 (.int .i64 1)]))) := hid (PU.bad1 (.inr hF) _ (by decide) (by decide))
            have iov : 4294967295 < a * 8 + ((c.toNat : Int) - 48) := by omega
            clear hacc hF hov ha hdec
            go_wp2
            go_ret2
            exact ⟨HP.out, HB1.out⟩
          · have HN2 : Hid (a * 8 + ((c.toNat : Int) - 48) = ((acc * 8 + (c.toNat - 48) : Nat) : Int) ∧ acc * 8 + (c.toNat - 48) ≤ 4294967295 ∧ oct8 0 l = oct8 (acc * 8 + (c.toNat - 48)) (l.drop (k + 1))) := hid ⟨by omega, by omega, by
              rw [hdec]; simp only [oct8]; rw [if_pos (by omega)]⟩
            have iov : a * 8 + ((c.toNat : Int) - 48) ≤ 4294967295 := by omega
            clear hacc hov hdec ha
            go_wp2
            refine ⟨⟨k + 1, acc * 8 + (c.toNat - 48), a * 8 + ((c.toNat : Int) - 48), rfl, (by first | rfl | (congr 1; omega)), (by first | rfl | (congr 1; omega)), by omega, HN2⟩, by simp [intOf]; omega⟩
        · have hF : oct8 0 l = none := by rw [hdec]; simp only [oct8]; rw [if_neg (by omega)]
          have HP : Hid (PU l (.returned (.tuple #[.int .u64 0, .iface 289 (.int .i64 2)]))) := hid (PU.bad2 (.inr hF))
          clear hacc hF ha hdec
          have hv0 := bits_lo_u8 .or (c.toNat : Int) 32
          have hv1 := bits_hi_u8 .or (c.toNat : Int) 32
          have hu0 := bits_lo_u8 .or 95 32
          have hu1 := bits_hi_u8 .or 95 32
          go_wp2_with (go_at_call 230; refine (lower_any _ _).mono ?_; rintro e w' ⟨rfl, rfl⟩)
          all_goals go_ret2
          all_goals exact ⟨HP.out, HB1.out⟩
      · have hkk : k = n := by omega
        subst hkk
        have hF : oct8 0 l = some acc := by rw [hdec, List.drop_eq_nil_of_le (by rw [HN.out]; exact Nat.le_refl _)]; rfl
        have HP : Hid (PU l (.returned (.tuple #[.int .u64 a, .nilIface]))) := hid ⟨a, _, rfl, a0, a1, .inl rfl, fun r _ hr => by
          rw [hF] at hr
          cases hr
          exact ⟨ha, rfl⟩⟩
        clear hacc hF hdec ha
        go_wp2
        go_ret2
        exact ⟨HP.out, HB1.out⟩
end Go.Proofs.YtbpdielmdhhdfaaGreatDoor
