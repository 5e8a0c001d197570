import Derived.Test.YtbpdielmdhhdfaaGreatDoorMu22
import Derived.Test.YtbpdielmdhhdfaaGreatDoorMu09
import Derived.Test.YtbpdielmdhhdfaaGreatDoorMu15
import Derived.Test.YtbpdielmdhhdfaaGreatDoorMu13
/- 'slices.Values', 'slices.Collect' and 'slices.SortedFunc' of entries. -/
namespace Go.Proofs.YtbpdielmdhhdfaaGreatDoor
open Go.RowKit Go.Shelf
variable [Inhabited Er] [Inhabited En]
set_option linter.unusedVariables false
set_option linter.unusedSectionVars false
set_option linter.unusedSimpArgs false
theorem values_call (a : Option Addr) (n cap : Nat) (w : World) : Calls Tryz.prog 44 #[.slice a n cap] w fun e w' => e = .returned (.func (.func 91) #[] #[.pointer (some ⟨w.heap.size, 0, none⟩)]) ∧ w' = w.alloc (.cells #[.slice a n cap] 47) := by
  go_enter Tryz.func44, Tryz.ntmps44
  go_wp2
  go_ret
  exact ⟨rfl, rfl⟩
theorem collect_any (Bs : Nat) (a : Option Addr) (cap : Nat) (es : List Er) (w : World) (hwf : WfE es) (hP : Pe w a cap es) (hl : es.length ≤ 1000) (hbs : Boxed w Bs 47 (.slice a es.length cap)) :
    Calls Tryz.prog 89 #[.func (.func 91) #[] #[.pointer (some ⟨Bs, 0, none⟩)]] w (PostK w es) := by
  have HC : Hid (Calls Tryz.prog 126 #[.slice none 0 0, .func (.func 91) #[] #[.pointer (some ⟨Bs, 0, none⟩)]] w (PostK w es)) := appendSeq_any Bs a cap es w hwf hP hl hbs
  clear hwf hP hbs
  go_enter Tryz.func89, Tryz.ntmps89
  go_wp2_with fail
  refine HC.out.mono ?_
  rintro e w1 ⟨v, rfl, ho, hb⟩
  have HO : Hid (w1.ownsRow w.heap.size 51 22 v es.length (fE es)) := ho
  have HB : Hid (Below w.heap.size w w1) := hb
  clear ho hb
  go_wp2
  go_ret
  exact ⟨v, rfl, HO.out, HB.out⟩
/-- Entries of which each is some, and has no long name. -/
def WfN (es : List Er) : Prop := ∀ x ∈ es, x.name.length ≤ 50 ∧ x.id.length = 20
theorem WfN.tail {x : Er} {es : List Er} (h : WfN (x :: es)) : WfN es := fun y hy => h y (by simp [hy])
def toN : (es : List Er) → WfN es → List En
  | [], _ => []
  | x :: es, h => ⟨x, h x (by simp)⟩ :: toN es h.tail
theorem toN_val : ∀ (es : List Er) (h : WfN es), (toN es h).map (·.1) = es
  | [], _ => rfl
  | x :: es, h => congrArg (x :: ·) (toN_val es h.tail)
theorem toN_len (es : List Er) (h : WfN es) : (toN es h).length = es.length := by
  have := congrArg List.length (toN_val es h)
  rwa [List.length_map] at this
theorem toN_at (es : List Er) (h : WfN es) (i : Nat) (hi : i < es.length) : ((toN es h).toArray[i]!).1 = es.getD i default := by
  have hi' : i < (toN es h).length := by rw [toN_len]; exact hi
  have h1 : (toN es h).toArray[i]! = (toN es h)[i] := by simp [hi']
  rw [h1]
  have h2 : ((toN es h).map (·.1))[i]? = some ((toN es h)[i]).1 := by simp [hi']
  rw [toN_val] at h2
  rw [List.getD_eq_getElem?_getD, h2]
  rfl
theorem holds_own {w : World} {B g n cap : Nat} {es : List Er} (hw : WfN es) (hn : es.length = n) (h : w.ownsRow B 51 22 (.slice (some ⟨g, 0, none⟩) n cap) n (fE es)) : Sort.HoldsK encN 22 w g 0 (toN es hw).toArray := by
  intro j hj
  rw [Sort.size_flatK, List.size_toArray, toN_len, hn] at hj
  rw [Sort.get_flatK _ _ _ _ (by rw [List.size_toArray, toN_len, hn]; exact hj), Nat.zero_add]
  refine ⟨?_, h.frozenAt j⟩
  rw [h.cellAt j hj]
  have hd : j / 22 < es.length := by rw [hn]; exact Nat.div_lt_of_lt_mul (by omega)
  have hm : j % 22 < 22 := Nat.mod_lt _ (by omega)
  have e : j / 22 * 22 + j % 22 = j := by omega
  have := fE_at es (fun x hx => (hw x hx).2) (j / 22) (j % 22) hd hm
  rw [e] at this
  rw [this]
  show _ = some ((erV ((toN es hw).toArray[j / 22]!).1)[j % 22]!)
  rw [toN_at es hw _ hd]
  have hmem : es.getD (j / 22) default ∈ es := by
    rw [List.getD_eq_getElem?_getD, List.getElem?_eq_getElem hd]
    exact List.getElem_mem _
  have hl : (erV (es.getD (j / 22) default)).length = 22 := erV_len _ (hw _ hmem).2
  rw [List.getElem?_eq_getElem (by omega), getElem!_pos _ _ (by omega)]
theorem sortW_block (w : World) (g m : Nat) (d : Array En) (os : Array Obj) (k : Nat) (hk : k < w.heap.size) (hg : k ≠ g) : (sortWorldK encN 22 w g 0 m d os).heap[k]? = w.heap[k]? := by
  show ((w.heap.modify g _) ++ os)[k]? = _
  rw [Array.getElem?_append_left (by simpa using hk)]
  simp [Array.getElem?_modify, Ne.symm hg]
theorem sortW_below {B : Nat} {w0 w : World} (hb : Below B w0 w) (hB : B ≤ w0.heap.size) (g m : Nat) (d : Array En) (os : Array Obj) (hg : B ≤ g) : Below B w0 (sortWorldK encN 22 w g 0 m d os) :=
  hb.trans ⟨rfl, rfl, rfl, by show _ ≤ ((w.heap.modify g _) ++ os).size; simp, fun k hk => sortW_block w g m d os k (by have := hb.size; omega) (by omega)⟩
/-- What is sorted. -/
def PostS (w : World) (es : List Er) (e : Ending) (w' : World) : Prop := ∃ a cap es', e = .returned (.slice a es.length cap) ∧ es'.Perm es ∧ es'.Pairwise (fun x y => ¬ keyB y < keyB x) ∧ Pe w' a cap es' ∧ Below w.heap.size w w'
theorem sorted_post {B g n cap : Nat} {w0 w : World} {es : List Er} (hw : WfN es) (hn : es.length = n) (h : w.ownsRow B 51 22 (.slice (some ⟨g, 0, none⟩) n cap) n (fE es)) (d' : Array En) (m : Nat) (os : Array Obj)
    (hp : Sort.PermIn 0 (toN es hw).toArray.size (toN es hw).toArray d') (hs : Sort.SortedIn (ltOf cfN) 0 (toN es hw).toArray.size d') :
    ((d'.toList.map (·.1)).Perm es) ∧ (d'.toList.map (·.1)).Pairwise (fun x y => ¬ keyB y < keyB x) ∧ Pe (sortWorldK encN 22 w g 0 m d' os) (some ⟨g, 0, none⟩) cap (d'.toList.map (·.1)) := by
  have hsz : d'.size = (toN es hw).toArray.size := hp.1
  have hln : d'.size = n := by rw [hsz, List.size_toArray, toN_len, hn]
  have hH := holds_own hw hn h
  have hg : g < w.heap.size := (h.lt g rfl).2
  have hcap : n ≤ cap := by
    obtain ⟨_, ⟨h1, _⟩ | ⟨g', cap', cur, h1, _, _, h4, _⟩⟩ := h
    · cases h1
    · cases h1; exact h4
  refine ⟨?_, ?_, ⟨by simp [hln, hcap], fun h0 => ⟨g, 0, rfl, ?_, fun i hi j v hv => ?_⟩, fun h => by cases h⟩⟩
  · have := hp.2.2
    rw [← hsz, Array.extract_size, hsz, Array.extract_size] at this
    have := this.map (·.1)
    rwa [show ((toN es hw).toArray.toList).map (·.1) = es from toN_val es hw] at this
  · rw [List.pairwise_iff_getElem]
    intro i j hi hj hij
    simp only [List.length_map, Array.length_toList] at hi hj
    have := hs i j (Nat.zero_le _) hij (by rw [← hsz]; exact hj)
    rw [ltN, getElem!_pos d' j hj, getElem!_pos d' i hi] at this
    simpa using of_decide_eq_false this
  · show g < ((w.heap.modify g _) ++ os).size
    simp; omega
  · have hi' : i < d'.size := by simpa using hi
    have hK : Sort.HoldsK encN 22 (sortWorldK encN 22 w g 0 m d' os) g 0 d' :=
      Sort.holdsK_grow encN 22 _ os g 0 d' (by show g < (w.heap.modify g _).size; simpa using hg) (Sort.holdsK_putRowK encN 22 _ g 0 (toN es hw).toArray d' (Sort.holdsK_ahead encN 22 w m g 0 _ hH) hsz)
    have he : (d'.toList.map (·.1)).getD i default = (d'[i]!).1 := by
      rw [getElem!_pos d' i hi', List.getD_eq_getElem?_getD]
      simp [hi']
    rw [he] at hv
    have hl : (encN d'[i]!).length = 22 := erV_len _ (d'[i]!).2.2
    have hj : j < 22 := by
      obtain ⟨h1, _⟩ := List.getElem?_eq_some_iff.1 hv
      have : (erV (d'[i]!).1).length = 22 := hl
      omega
    have := (Sort.HoldsK.cell hK hi' hj).1
    rw [this]
    have hv' : (encN d'[i]!)[j]? = some v := hv
    rw [List.getElem?_eq_getElem (by omega)] at hv'
    rw [getElem!_pos _ _ (by omega)]
    exact hv'
theorem WfN.wf {es : List Er} (h : WfN es) : ∀ x ∈ es, x.id.length = 20 := fun x hx => (h x hx).2
set_option maxRecDepth 20000 in
theorem sortedFunc_any (Bs : Nat) (a : Option Addr) (cap : Nat) (es : List Er) (w : World) (hwf : WfE es) (hw : WfN es) (hP : Pe w a cap es) (hl : es.length ≤ 1000) (hbs : Boxed w Bs 47 (.slice a es.length cap)) :
    Calls Tryz.prog 43 #[.func (.func 91) #[] #[.pointer (some ⟨Bs, 0, none⟩)], .func (.func 45) #[] #[]] w (PostS w es) := by
  have HC : Hid (Calls Tryz.prog 89 #[.func (.func 91) #[] #[.pointer (some ⟨Bs, 0, none⟩)]] w (PostK w es)) := collect_any Bs a cap es w hwf hP hl hbs
  have HW : Hid (WfN es) := hw
  clear hwf hP hbs hw
  obtain ⟨n, HN⟩ : ∃ n, Hid (es.length = n) := ⟨_, rfl⟩
  have hn : n ≤ 1000 := by rw [← HN.out]; exact hl
  go_enter Tryz.func43, Tryz.ntmps43
  go_wp2_with fail
  refine HC.out.mono ?_
  rintro e w1 ⟨v, rfl, ho, hb⟩
  rw [HN.out] at ho
  obtain ⟨a1, c1, rfl⟩ := owns_shape ho
  have HO : Hid (w1.ownsRow w.heap.size 51 22 (.slice a1 n c1) n (fE es)) := ho
  have HB : Hid (Below w.heap.size w w1) := hb
  clear ho hb
  have C90 : Hid (Calls Tryz.prog 90 #[.slice a1 n c1, .func (.func 45) #[] #[]] w1 fun e w' => e = .returned (.tuple #[]) ∧ PostS w es (.returned (.slice a1 n c1)) w') := hid (by
    by_cases h0 : n = 0
    · have hes : es = [] := List.length_eq_zero_iff.1 (by rw [HN.out]; exact h0)
      have HO' := HO.out
      subst h0
      refine (sort_none a1 c1 _ w1).mono ?_
      rintro e w' ⟨rfl, rfl⟩
      refine ⟨rfl, a1, c1, [], by rw [HN.out], by rw [hes], List.Pairwise.nil, ⟨Nat.zero_le _, fun h => absurd h (by simp), fun h => ?_⟩, HB.out⟩
      obtain ⟨_, ⟨h1, _⟩ | ⟨g, cap', cur, h1, _⟩⟩ := HO'
      · cases h1; rfl
      · cases h1; cases h
    · obtain ⟨g, rfl⟩ : ∃ g, a1 = some ⟨g, 0, none⟩ := by
        obtain ⟨_, ⟨h1, h2⟩ | ⟨g, cap', cur, h1, _⟩⟩ := HO.out
        · exact absurd h2 h0
        · cases h1; exact ⟨g, rfl⟩
      have hg := HO.out.lt g rfl
      have hsz : (toN es HW.out).toArray.size = n := by rw [List.size_toArray, toN_len, HN.out]
      have := sort_any g 0 c1 (toN es HW.out).toArray w1 (holds_own HW.out HN.out HO.out) hg.2 (by rw [hsz]; exact hn)
      rw [hsz] at this
      refine this.mono ?_
      rintro e w' ⟨rfl, d', m, os, hp, hs, rfl⟩
      rw [← hsz] at hp hs
      obtain ⟨q1, q2, q3⟩ := sorted_post (w0 := w) HW.out HN.out HO.out d' m os hp hs
      exact ⟨rfl, _, c1, _, by rw [HN.out], q1, q2, q3, sortW_below HB.out (Nat.le_refl _) g m d' os hg.1⟩)
  go_wp2_with fail
  refine C90.out.mono ?_
  rintro e w2 ⟨rfl, hps⟩
  have HPS : Hid (PostS w es (.returned (.slice a1 n c1)) w2) := hps
  clear hps
  go_wp2
  go_ret
  exact HPS.out
end Go.Proofs.YtbpdielmdhhdfaaGreatDoor
/- The document's tree: rows of entries of one's own. -/
namespace Go.Proofs.YtbpdielmdhhdfaaGreatDoor
open Go.RowKit
variable [Inhabited Er] [Inhabited En]
set_option linter.unusedVariables false
set_option linter.unusedSectionVars false
set_option linter.unusedSimpArgs false
theorem bl_lt : ∀ x y : List UInt8, Op.bytesLess x y = decide (x < y)
  | [], [] => by simp [Op.bytesLess]
  | [], b :: y => by simp [Op.bytesLess]
  | a :: x, [] => by simp [Op.bytesLess]
  | a :: x, b :: y => by
    rw [Op.bytesLess, bl_lt x y]
    rw [Bool.eq_iff_iff]
    simp [List.cons_lt_cons_iff]
theorem leq_iff (x y : List UInt8) : (Op.bytesLess x y || x == y) = decide (¬ y < x) := by
  rw [bl_lt, Bool.eq_iff_iff]
  simp only [Bool.or_eq_true, decide_eq_true_eq, beq_iff_eq]
  constructor
  · rintro (h | h)
    · exact fun h2 => lex_irrefl _ (lex_trans _ _ _ h h2)
    · rw [h]; exact lex_irrefl _
  · intro h
    by_cases h2 : x < y
    · exact .inl h2
    · exact .inr (lex_total _ _ h2 h)
theorem ins_at (x : Er) : ∀ (l : List Er) (p : Nat), p ≤ l.length → (∀ j, j < p → ¬ keyB x < keyB (l.getD j default)) → (p = l.length ∨ keyB x < keyB (l.getD p default)) → ins x l = l.take p ++ x :: l.drop p
  | [], p, hp, _, _ => by
    have : p = 0 := by simpa using hp
    subst this
    simp [ins]
  | y :: t, 0, _, _, h => by
    rw [ins, if_pos]
    · simp
    · rcases h with h | h
      · simp at h
      · simpa using h
  | y :: t, p + 1, hp, hn, h => by
    rw [ins, if_neg (by simpa using hn 0 (by omega)), ins_at x t p (by simpa using hp) (fun j hj => by simpa using hn (j + 1) (by omega)) (by simpa using h)]
    simp
theorem srtE_snoc (l : List Er) (x : Er) : srtE (l ++ [x]) = ins x (srtE l) := by simp [srtE]
theorem Tryz.info103 : (Tryz.prog.info? 103).map (fun i => (i.zero, i.size, i.bytes)) = some (some (.agg (erV ⟨0, [], z20⟩).toArray), 22, 48) := by kernel_rfl
theorem size103 : (Tryz.prog.info? 103).map (·.size) = some 22 := by kernel_rfl
theorem zero103 (w : World) : (zeroValue 103).run Tryz.prog w = .ok (.agg (erV ⟨0, [], z20⟩).toArray) w := by kernel_rfl
/-- Entries of one's own, made since. -/
structure Be (w0 w : World) (B : Nat) (v : Value) (es : List Er) : Prop where
  below : Below B w0 w
  own : w.ownsRow B 103 22 v es.length (fE es)
  le : B ≤ w.heap.size
theorem Be.alloc {w0 w : World} {B : Nat} {v : Value} {es : List Er} (h : Be w0 w B v es) (o : Obj) : Be w0 (w.alloc o) B v es :=
  ⟨h.below.alloc h.le o, h.own.alloc o, Nat.le_trans h.le (by simp)⟩
theorem be_nil (w : World) (B : Nat) (h : B ≤ w.heap.size) : Be w w B (.slice none 0 0) [] := ⟨Below.refl _ _, ⟨rfl, .inl ⟨rfl, rfl⟩⟩, h⟩
theorem Be.carry {w0 w w' : World} {B : Nat} {v : Value} {es : List Er} (h : Be w0 w B v es) (hb : Below w.heap.size w w') : Be w0 w' B v es :=
  ⟨h.below.trans (hb.mono h.le), h.own.kept (row := none) ⟨hb.os, hb.tape, hb.output, hb.size, fun k hk _ => hb.block k hk⟩ (by cases h : v.ownBlock <;> simp), Nat.le_trans h.le hb.size⟩
theorem fE_len (es : List Er) (h : ∀ x ∈ es, x.id.length = 20) : (fE es).length = es.length * 22 := by
  induction es with
  | nil => rfl
  | cons x es ih =>
    have h1 := ih (fun y hy => h y (by simp [hy]))
    have h2 : (erV x).length = 22 := erV_len x (h x (by simp))
    simp only [fE, List.flatMap_cons, List.length_append, List.length_cons] at h1 ⊢
    omega
theorem fE_app (x y : List Er) : fE (x ++ y) = fE x ++ fE y := by simp [fE]
theorem fE_one (es : List Er) : ∀ v ∈ fE es, v.oneCell' = true := by
  intro v hv
  obtain ⟨x, _, h⟩ := List.mem_flatMap.1 hv
  exact erV_one x v h
theorem Pe.cells {w : World} {b off cap : Nat} {es : List Er} (h : Pe w (some ⟨b, off, none⟩) cap es) (hw : ∀ x ∈ es, x.id.length = 20) : ∀ (j : Nat) (u : Value), (fE es)[j]? = some u → w.cell? ((⟨b, off, none⟩ : Addr).add j) = some u := by
  intro j u hj
  have hlt := (List.getElem?_eq_some_iff.1 hj).1
  rw [fE_len es hw] at hlt
  have hd : j / 22 < es.length := Nat.div_lt_of_lt_mul (by omega)
  have hm : j % 22 < 22 := Nat.mod_lt _ (by omega)
  obtain ⟨b', off', e1, e2, e3⟩ := h.at_ (by omega)
  cases e1
  have e : j / 22 * 22 + j % 22 = j := by omega
  have hf := fE_at es hw (j / 22) (j % 22) hd hm
  rw [e, hj] at hf
  have := e3 (j / 22) hd (j % 22) u hf.symm
  rw [addr_add, ← this]
  congr 2
  omega
theorem wpList_be_sl {w w0 : World} {ops : Array Oper} {rest : List Oper} {o : Oper} {a : Act} {Q : Exit → Act → World → Prop} (hgd : o.guard = none) (s x : Operand) (ho : o.op = .call { callee := .builtin .append, args := #[s, x], argTypes := #[52, 52] }) (B : Nat) (v : Value) (es : List Er) (hs : a.eval s = v) (h : Be w0 w B v es)
    (ax : Option Addr) (cx : Nat) (l : List Er) (hx : a.eval x = .slice ax l.length cx) (hP : Pe w ax cx l) (hw : ∀ x ∈ l, x.id.length = 20) (hl : es.length + l.length ≤ 3000)
    (hK : ∀ v' w', Be w0 w' B v' (es ++ l) → w.grownBy w' v.ownBlock → wpList Tryz.prog ops Q rest (a.put o.dst v') w') : wpList Tryz.prog ops Q (o :: rest) a w := by
  obtain ⟨i, hi, hz0, hz1, hz2⟩ := info_parts Tryz.info103
  cases ax with
  | none =>
    have hc : cx = 0 := hP.nil rfl
    have hcl := hP.capl
    obtain rfl : l = [] := List.length_eq_zero_iff.1 (by omega)
    subst hc
    refine wpList_plain hgd fun K hK' => ?_
    have hr := run_append_owned_none (P := Tryz.prog) w B 52 o.type 103 i 22 Tryz.underlying52 hi v _ _ h.own
    unfold Oper.wp execOp
    simp only [List.length_nil] at hx
    simp only [ho, resolve, invoke, builtin, Sem.run_bind, Sem.run_pure, Result.andThen_ok, List.map_toArray, List.map_cons, List.map_nil, hs, hx, hr]
    exact hK' _ _ (hK v w (by simpa using h) ⟨rfl, rfl, rfl, Nat.le_refl _, fun _ _ _ => rfl⟩)
  | some ad =>
    obtain ⟨bk, of, fr⟩ := ad
    by_cases h0 : l.length = 0
    · obtain rfl : l = [] := List.length_eq_zero_iff.1 h0
      refine wpList_append_own_at w hgd s x 52 ho B 103 i (.agg (erV ⟨0, [], z20⟩).toArray) 22 48 Tryz.underlying52 hi hz0 hz1 hz2 rfl (by decide) v _ _ hs h.own ⟨bk, of, fr⟩ 0 cx [] hx rfl (fun j u hj => by cases hj) (fun u hu => by cases hu) (by unfold maxLen; omega) (by omega) h.le ?_
      intro v' w' h1 h2 h3 h4
      refine hK v' w' ⟨h.below.grown h2 h.le (fun k hk => (own_lt h.own k hk).1), ?_, Nat.le_trans h.le h2.size⟩ h2
      simpa using h1
    · obtain ⟨b', off', e1, _⟩ := hP.at_ (by omega)
      cases e1
      refine wpList_append_own_at w hgd s x 52 ho B 103 i (.agg (erV ⟨0, [], z20⟩).toArray) 22 48 Tryz.underlying52 hi hz0 hz1 hz2 rfl (by decide) v _ _ hs h.own ⟨bk, of, none⟩ l.length cx (fE l) hx (fE_len l hw) (hP.cells hw) (fE_one l) (by unfold maxLen; omega) (by omega) h.le ?_
      intro v' w' h1 h2 h3 h4
      refine hK v' w' ⟨h.below.grown h2 h.le (fun k hk => (own_lt h.own k hk).1), ?_, Nat.le_trans h.le h2.size⟩ h2
      rw [List.length_append, fE_app]
      exact h1
end Go.Proofs.YtbpdielmdhhdfaaGreatDoor
/- The document's side of chapter 3: which texts may be written. -/
namespace Go.Proofs.YtbpdielmdhhdfaaGreatDoor
open Go.RowKit
set_option linter.unusedVariables false
set_option linter.unusedSimpArgs false
theorem index_txt (s : List UInt8) (j : Nat) (w : World) (x : UInt8) (h : s[j]? = some x) : (Instr.index 9 (.string ⟨s.toArray⟩) (.int .i64 j)).run Tryz.prog w = .ok (.int .u8 (x.toNat : Int)) w := by
  obtain ⟨hj, hx⟩ := List.getElem?_eq_some_iff.1 h
  have hsz : (⟨s.toArray⟩ : ByteArray).size = s.length := by simp [ByteArray.size]
  rw [run_index_string (P := Tryz.prog) w 9 ⟨s.toArray⟩ .i64 j Tryz.underlying9, dif_pos ⟨by omega, by rw [hsz]; omega⟩]
  simp only [Int.toNat_natCast]
  rw [← hx]
  rfl
theorem take_snoc8 (s : List UInt8) (j : Nat) (x : UInt8) (h : s[j]? = some x) : s.take (j + 1) = s.take j ++ [x] := by
  rw [List.take_add_one, h]
  rfl
theorem u8_ne {x : UInt8} {n : Nat} (hn : n < 256) : (x.toNat : Int) = (n : Int) ↔ x = UInt8.ofNat n := by
  constructor
  · intro h
    apply UInt8.toNat_inj.1
    rw [UInt8.toNat_ofNat']
    omega
  · rintro rfl
    rw [UInt8.toNat_ofNat']
    omega
theorem dropWhile_self {p : UInt8 → Bool} : ∀ {l : List UInt8}, l.dropWhile p = l ↔ ∀ b, l[0]? = some b → p b = false
  | [] => by simp
  | b :: l => by
    rw [List.dropWhile_cons]
    by_cases hb : p b = true
    · rw [if_pos hb]
      constructor
      · intro h
        have h2 := congrArg List.length h
        have h3 := (List.dropWhile_sublist p (l := l)).length_le
        simp at h2
        omega
      · intro h
        have := h b (by simp)
        rw [hb] at this
        cases this
    · rw [if_neg hb]
      simp [hb]
theorem trim_self (s : List UInt8) : Lib.trimS s [32] = s ↔ ∀ b, (s[0]? = some b ∨ s[s.length - 1]? = some b) → b ≠ 32 := by
  have key : Lib.trimS s [32] = s ↔ s.reverse.dropWhile ([32].contains ·) = s.reverse ∧ s.dropWhile ([32].contains ·) = s := by
    unfold Lib.trimS Lib.trimLeftS Lib.trimRightS
    constructor
    · intro h
      have h1 := (List.dropWhile_sublist ([32].contains ·) (l := s.reverse))
      have h2 := (List.dropWhile_sublist ([32].contains ·) (l := (s.reverse.dropWhile ([32].contains ·)).reverse)).length_le
      rw [h] at h2
      have h3 := h1.length_le
      simp only [List.length_reverse] at h2 h3
      have h4 := h1.eq_of_length (by simp only [List.length_reverse]; omega)
      refine ⟨h4, ?_⟩
      rw [h4, List.reverse_reverse] at h
      exact h
    · rintro ⟨h1, h2⟩
      rw [h1, List.reverse_reverse, h2]
  rw [key, dropWhile_self, dropWhile_self]
  have hc : ∀ b : UInt8, ([32].contains b = false) ↔ b ≠ 32 := fun b => by simp
  simp only [hc]
  by_cases h0 : s = []
  · subst h0
    simp
  · have hl : 0 < s.length := List.length_pos_iff.2 h0
    rw [List.getElem?_reverse hl]
    constructor
    · rintro ⟨h1, h2⟩ b (h | h)
      · exact h2 b h
      · exact h1 b (by simpa using h)
    · intro h
      exact ⟨fun b hb => h b (.inr (by simpa using hb)), fun b hb => h b (.inl hb)⟩
set_option maxRecDepth 20000 in
theorem message_any (s : List UInt8) (w : World) : Calls Tryz.prog 59 #[.string ⟨s.toArray⟩] w fun e w' => e = .returned (.bool (isMsg s)) ∧ w' = w := by
  obtain ⟨S, HS⟩ : ∃ S : ByteArray, Hid (S = ⟨s.toArray⟩) := ⟨_, rfl⟩
  obtain ⟨n, HN⟩ : ∃ n, Hid (s.length = n) := ⟨_, rfl⟩
  have hsz : S.size = n := by rw [HS.out, ← HN.out]; simp [ByteArray.size]
  rw [← HS.out]
  by_cases h : n ≤ 2000
  · have hi : ¬ (2000 : Int) < (n : Int) := by omega
    go_enter Tryz.func59, Tryz.ntmps59
    go_wp2
    go_loopg [3] n (fun g i wr => ∃ j : Nat, j ≤ n ∧ g = n - j ∧ i = .int .i64 j ∧ Hid (∀ x ∈ s.take j, x ≠ 0) ∧ Hid (wr = w))
    case atStart => exact ⟨0, by omega, rfl, rfl, hid (by simp), hid rfl⟩
    case round =>
      obtain ⟨j, hj, hk, rfl, HT, HW⟩ := hrel
      by_cases hlt : j < n
      · have hlti : (j : Int) < (n : Int) := by omega
        obtain ⟨x, hx⟩ : ∃ x, s[j]? = some x := ⟨_, List.getElem?_eq_getElem (by rw [HN.out]; exact hlt)⟩
        obtain ⟨c, HC⟩ : ∃ c, Hid ((x.toNat : Int) = c) := ⟨_, rfl⟩
        have HX : Hid (s[j]? = some x) := hx
        have hix : ∀ w1 : World, (Instr.index 9 (.string S) (.int .i64 j)).run Tryz.prog w1 = .ok (.int .u8 c) w1 := fun w1 => by rw [HS.out, ← HC.out]; exact index_txt s j w1 x HX.out
        clear hx
        by_cases hc : c = 0
        · have HM : Hid (isMsg s = false) := hid (by
            unfold isMsg
            have hx0 : x = 0 := (u8_ne (n := 0) (by decide)).1 (HC.out.trans hc)
            have : (0 : UInt8) ∈ s := hx0 ▸ List.mem_of_getElem? HX.out
            simp [this])
          have HC0 : Hid _ := HC
          clear HC HC0
          subst hc
          go_wp2
          go_ret
          exact ⟨by rw [HM.out]; rfl, HW.out⟩
        · have hcb : (c == 0) = false := by simpa using hc
          go_wp2
          go_roundg (n - (j + 1))
          case measure => omega
          case rel =>
            refine ⟨j + 1, by omega, rfl, by go_num, hid ?_, HW⟩
            rw [take_snoc8 s j x HX.out]
            intro y hy
            rcases List.mem_append.1 hy with hy | hy
            · exact HT.out y hy
            · have : y = x := by simpa using hy
              subst this
              rintro rfl
              exact hc (HC.out.symm.trans rfl)
      · have hlti : ¬ (j : Int) < (n : Int) := by omega
        obtain rfl : j = n := by omega
        have HM : Hid (isMsg s = true) := hid (by
          unfold isMsg
          have h1 := HT.out
          rw [List.take_of_length_le (by rw [HN.out]; omega)] at h1
          have h2 : (0 : UInt8) ∉ s := fun h => h1 0 h rfl
          have h3 : s.length ≤ 2000 := by rw [HN.out]; exact h
          simp [h2, h3])
        go_wp2
        go_ret
        exact ⟨by rw [HM.out]; rfl, HW.out⟩
  · have hi : (2000 : Int) < (n : Int) := by omega
    have HM : Hid (isMsg s = false) := hid (by
      unfold isMsg
      have h3 : ¬ s.length ≤ 2000 := by rw [HN.out]; exact h
      simp [h3])
    go_enter Tryz.func59, Tryz.ntmps59
    go_wp2
    go_ret
    exact ⟨by rw [HM.out]; rfl, rfl⟩
/-- 3.3: a sign that no name has. -/
def badS (c : Int) : Prop := c = 60 ∨ c = 62 ∨ c = 10 ∨ c = 0
theorem badS_iff (x : UInt8) : ¬ badS (x.toNat : Int) ↔ x ≠ 60 ∧ x ≠ 62 ∧ x ≠ 10 ∧ x ≠ 0 := by
  unfold badS
  rw [show ((x.toNat : Int) = 60) ↔ x = 60 from u8_ne (n := 60) (by decide), show ((x.toNat : Int) = 62) ↔ x = 62 from u8_ne (n := 62) (by decide), show ((x.toNat : Int) = 10) ↔ x = 10 from u8_ne (n := 10) (by decide), show ((x.toNat : Int) = 0) ↔ x = 0 from u8_ne (n := 0) (by decide)]
  constructor
  · intro h
    exact ⟨fun e => h (.inl e), fun e => h (.inr (.inl e)), fun e => h (.inr (.inr (.inl e))), fun e => h (.inr (.inr (.inr e)))⟩
  · rintro ⟨a, b, c, d⟩ (h | h | h | h)
    · exact a h
    · exact b h
    · exact c h
    · exact d h
set_option maxRecDepth 20000 in
theorem plain_any (s : List UInt8) (w : World) : Calls Tryz.prog 103 #[.string ⟨s.toArray⟩] w fun e w' => BIs (okT s) e ∧ w' = w := by
  obtain ⟨S, HS⟩ : ∃ S : ByteArray, Hid (S = ⟨s.toArray⟩) := ⟨_, rfl⟩
  obtain ⟨n, HN⟩ : ∃ n, Hid (s.length = n) := ⟨_, rfl⟩
  have hsz : S.size = n := by rw [HS.out, ← HN.out]; simp [ByteArray.size]
  rw [← HS.out]
  by_cases h : n ≤ 60
  · have hi : ¬ (60 : Int) < (n : Int) := by omega
    go_enter Tryz.func103, Tryz.ntmps103
    go_wp2
    go_loopg [3] n (fun g i wr => ∃ j : Nat, j ≤ n ∧ g = n - j ∧ i = .int .i64 j ∧ Hid (∀ x ∈ s.take j, ¬ badS (x.toNat : Int)) ∧ Hid (wr = w))
    case atStart => exact ⟨0, by omega, rfl, rfl, hid (by simp), hid rfl⟩
    case round =>
      obtain ⟨j, hj, hk, rfl, HT, HW⟩ := hrel
      by_cases hlt : j < n
      · have hlti : (j : Int) < (n : Int) := by omega
        obtain ⟨x, hx⟩ : ∃ x, s[j]? = some x := ⟨_, List.getElem?_eq_getElem (by rw [HN.out]; exact hlt)⟩
        obtain ⟨c, HC⟩ : ∃ c, Hid ((x.toNat : Int) = c) := ⟨_, rfl⟩
        have HX : Hid (s[j]? = some x) := hx
        have hix : ∀ w1 : World, (Instr.index 9 (.string S) (.int .i64 j)).run Tryz.prog w1 = .ok (.int .u8 c) w1 := fun w1 => by rw [HS.out, ← HC.out]; exact index_txt s j w1 x HX.out
        clear hx
        by_cases hc : badS c
        · have HM : Hid (¬ okT s) := fun ht => (badS_iff x).2 (ht.2.1 x (List.mem_of_getElem? HX.out)) (by rw [HC.out]; exact hc)
          clear HC
          rcases hc with rfl | rfl | rfl | rfl
          all_goals
            go_wp2
            go_ret
            exact ⟨bis_false HM.out, HW.out⟩
        · have HBD : Hid (¬ badS c) := hc
          have b1 : (c == 60) = false := by simp; exact fun e => hc (.inl e)
          have b2 : (c == 62) = false := by simp; exact fun e => hc (.inr (.inl e))
          have b3 : (c == 10) = false := by simp; exact fun e => hc (.inr (.inr (.inl e)))
          have b4 : (c == 0) = false := by simp; exact fun e => hc (.inr (.inr (.inr e)))
          clear hc
          go_wp2
          go_roundg (n - (j + 1))
          case measure => omega
          case rel =>
            refine ⟨j + 1, by omega, rfl, by go_num, hid ?_, HW⟩
            rw [take_snoc8 s j x HX.out]
            intro y hy
            rcases List.mem_append.1 hy with hy | hy
            · exact HT.out y hy
            · have : y = x := by simpa using hy
              subst this
              rw [HC.out]
              exact HBD.out
      · have hlti : ¬ (j : Int) < (n : Int) := by omega
        have hjn : j = n := by omega
        have HT2 : Hid (∀ x ∈ s, x ≠ 60 ∧ x ≠ 62 ∧ x ≠ 10 ∧ x ≠ 0) := hid (by
          have h1 := HT.out
          rw [List.take_of_length_le (by rw [HN.out]; omega)] at h1
          exact fun x hx => (badS_iff x).1 (h1 x hx))
        have H60 : Hid (s.length ≤ 60) := hid (by rw [HN.out]; exact h)
        have HOK : Hid (okT s ↔ ∀ b, (s[0]? = some b ∨ s[s.length - 1]? = some b) → b ≠ 32) := hid (by
          unfold okT
          rw [trim_self]
          exact ⟨fun h => h.2.2, fun h => ⟨H60.out, HT2.out, h⟩⟩)
        clear hjn
        by_cases h0 : n = 0
        · have HY : Hid (okT s) := hid (by
            rw [HOK.out]
            have : s = [] := List.length_eq_zero_iff.1 (HN.out.trans h0)
            subst this
            simp)
          have hb0 : ((n : Int) == 0) = true := by simp; omega
          go_wp2
          go_ret
          exact ⟨bis_true HY.out, HW.out⟩
        · have hb0 : ((n : Int) == 0) = false := by simp; omega
          obtain ⟨x0, hx0⟩ : ∃ x, s[0]? = some x := ⟨_, List.getElem?_eq_getElem (by rw [HN.out]; omega)⟩
          obtain ⟨x1, hx1⟩ : ∃ x, s[s.length - 1]? = some x := ⟨_, List.getElem?_eq_getElem (by rw [HN.out]; omega)⟩
          obtain ⟨c0, HC0⟩ : ∃ c, Hid ((x0.toNat : Int) = c) := ⟨_, rfl⟩
          obtain ⟨c1, HC1⟩ : ∃ c, Hid ((x1.toNat : Int) = c) := ⟨_, rfl⟩
          have HX0 : Hid (s[0]? = some x0) := hx0
          have HX1 : Hid (s[s.length - 1]? = some x1) := hx1
          have hi0 : ∀ w1 : World, (Instr.index 9 (.string S) (.int .i64 0)).run Tryz.prog w1 = .ok (.int .u8 c0) w1 := fun w1 => by rw [HS.out, ← HC0.out]; exact index_txt s 0 w1 x0 HX0.out
          have hi1 : ∀ w1 : World, (Instr.index 9 (.string S) (.int .i64 ((n : Int) - 1))).run Tryz.prog w1 = .ok (.int .u8 c1) w1 := fun w1 => by
            rw [HS.out, ← HC1.out, show ((n : Int) - 1) = ((s.length - 1 : Nat) : Int) from by rw [HN.out]; omega]
            exact index_txt s _ w1 x1 HX1.out
          have hn1 : 1 ≤ n := by omega
          clear hx0 hx1
          have HQ : Hid (okT s ↔ c0 ≠ 32 ∧ c1 ≠ 32) := hid (by
            rw [HOK.out, ← HC0.out, ← HC1.out]
            have e0 : ((x0.toNat : Int) = 32) ↔ x0 = 32 := u8_ne (n := 32) (by decide)
            have e1 : ((x1.toNat : Int) = 32) ↔ x1 = 32 := u8_ne (n := 32) (by decide)
            rw [Ne, Ne, e0, e1]
            constructor
            · intro h
              exact ⟨h x0 (.inl HX0.out), h x1 (.inr HX1.out)⟩
            · rintro ⟨h1, h2⟩ b (h | h)
              · rw [HX0.out] at h; cases h; exact h1
              · rw [HX1.out] at h; cases h; exact h2)
          by_cases q0 : c0 = 32
          · have HNO : Hid (¬ okT s) := fun h => (HQ.out.1 h).1 q0
            clear HQ HC0
            subst q0
            go_wp2
            go_ret
            exact ⟨bis_false HNO.out, HW.out⟩
          · have q0b : (c0 != 32) = true := by simpa using q0
            by_cases q1 : c1 = 32
            · have HNO : Hid (¬ okT s) := fun h => (HQ.out.1 h).2 q1
              clear HQ HC1
              subst q1
              go_wp2
              go_ret
              exact ⟨bis_false HNO.out, HW.out⟩
            · have q1b : (c1 != 32) = true := by simpa using q1
              have HY : Hid (okT s) := HQ.out.2 ⟨q0, q1⟩
              clear HQ
              go_wp2
              go_ret
              exact ⟨bis_true HY.out, HW.out⟩
  · have hi : (60 : Int) < (n : Int) := by omega
    have HNO : Hid (¬ okT s) := fun ht => h (by rw [← HN.out]; exact ht.1)
    go_enter Tryz.func103, Tryz.ntmps103
    go_wp2
    go_ret
    exact ⟨bis_false HNO.out, rfl⟩
end Go.Proofs.YtbpdielmdhhdfaaGreatDoor
