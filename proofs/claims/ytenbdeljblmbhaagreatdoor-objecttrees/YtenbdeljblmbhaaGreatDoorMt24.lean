import Derived.Test.YtenbdeljblmbhaaGreatDoorMt22
import Derived.Test.YtenbdeljblmbhaaGreatDoorMt23
import Derived.Test.YtenbdeljblmbhaaGreatDoorMt17
import Derived.Shelf.SlSortCmp.NoneTotal
/- A tree in bytes: plainly. -/
namespace Go.Proofs.YtenbdeljblmbhaaGreatDoor
open Go.RowKit
set_option linter.unusedVariables false
set_option linter.unusedSimpArgs false
/-- 3.2: an entry's bytes. -/
def erB (x : Er) : List UInt8 := octB x.mode ++ 32 :: (x.name ++ 0 :: Lib.bytesOf x.id)
/-- 3.2: a tree's. -/
def treeB (es : List Er) : List UInt8 := es.flatMap erB
theorem treeB_cons (x : Er) (es : List Er) : treeB (x :: es) = erB x ++ treeB es := by simp [treeB]
theorem treeB_snoc (es : List Er) (x : Er) : treeB (es ++ [x]) = treeB es ++ erB x := by simp [treeB]
/-- Entries of which each can be one. -/
def okTr (u : List Er) : Prop := WfE u ∧ ∀ x ∈ u, okM x.mode ∧ okE x.name
theorem okTr_tail {x : Er} {u : List Er} (h : okTr (x :: u)) : okTr u := ⟨fun y hy => h.1 y (by simp [hy]), fun y hy => h.2 y (by simp [hy])⟩
theorem octB_len (m : Int) : (octB m).length ≤ 6 := by
  unfold octB
  repeat' split
  all_goals decide
theorem octB_ne (m : Int) : ∀ b ∈ octB m, b ≠ 32 ∧ b ≠ 0 := by
  unfold octB
  repeat' split
  all_goals decide
theorem octB_inj (m m' : Int) (h : okM m) (h' : okM m') (e : octB m = octB m') : m = m' := by
  rcases h with rfl | rfl | rfl | rfl <;> rcases h' with rfl | rfl | rfl | rfl <;> first | rfl | (exfalso; revert e; decide)
theorem erB_len (x : Er) : (erB x).length = (octB x.mode).length + x.name.length + x.id.length + 2 := by
  simp [erB, Lib.bytesOf_length]; omega
theorem treeB_len (es : List Er) (h : ∀ x ∈ es, x.name.length ≤ 50 ∧ x.id.length = 20) : (treeB es).length ≤ es.length * 78 := by
  induction es with
  | nil => simp [treeB]
  | cons x es ih =>
    rw [treeB_cons, List.length_append, erB_len, List.length_cons]
    have h1 := h x (by simp)
    have h2 := ih (fun y hy => h y (by simp [hy]))
    have h3 := octB_len x.mode
    omega
theorem nums_bytes (l : List Int) (h : ∀ n ∈ l, 0 ≤ n ∧ n < 256) : nums (Lib.bytesOf l) = l := nums_bytesOf l (fun x hx => h x hx)
/-- Where the text goes on when these have been read. -/
def Rb (l : List UInt8) (pre : List Er) (t : List UInt8) : Prop := ∀ u, okTr u → treeB u = l → ∃ u2, u = pre ++ u2 ∧ okTr u2 ∧ treeB u2 = t
theorem Rb.start (l : List UInt8) : Rb l [] l := fun u h e => ⟨u, rfl, h, e⟩
/-- What is known of an entry that was read of the front of a text. -/
def Rf (t : List UInt8) (x : Er) (r : List UInt8) : Prop := ∀ y r', okM y.mode → okE y.name → y.id.length = 20 → (∀ n ∈ y.id, 0 ≤ n ∧ n < 256) → t = erB y ++ r' → x = y ∧ r = r'
theorem Rb.step {l : List UInt8} {pre : List Er} {t : List UInt8} (h : Rb l pre t) (hne : t ≠ []) (x : Er) (r : List UInt8) (hx : Rf t x r) : Rb l (pre ++ [x]) r := by
  intro u hu e
  obtain ⟨u2, h1, h2, h3⟩ := h u hu e
  match u2, h1, h2, h3 with
  | [], _, _, h3 => exact absurd h3.symm (by simpa [treeB] using hne)
  | y :: u3, h1, h2, h3 =>
    rw [treeB_cons] at h3
    have hy := h2.1 y (by simp)
    have hy2 := h2.2 y (by simp)
    obtain ⟨rfl, rfl⟩ := hx y (treeB u3) hy2.1 hy2.2 hy.1 hy.2 h3.symm
    exact ⟨u3, by rw [h1]; simp, okTr_tail h2, rfl⟩
theorem Rb.done {l : List UInt8} {es : List Er} (h : Rb l es []) (u : List Er) (hu : okTr u) (e : treeB u = l) : es = u := by
  obtain ⟨u2, h1, h2, h3⟩ := h u hu e
  match u2, h1, h3 with
  | [], h1, _ => rw [h1]; simp
  | y :: u3, _, h3 =>
    rw [treeB_cons] at h3
    have := congrArg List.length h3
    rw [List.length_append, erB_len] at this
    simp at this
theorem okL_perm {x y : List Er} (h : x.Perm y) (ho : okL x) : okL y := ⟨fun a ha => ho.1 a (h.symm.subset ha), ((h.map (·.name)).nodup_iff).1 ho.2⟩
theorem okL_keys {es : List Er} (h : okL es) : (es.map keyB).Nodup := key_nodup es (fun x hx b hb => ((h.1 x hx).2.2.2.2.2.2 b hb).1) h.2
theorem srtE_srtE {es : List Er} (h : okL es) : srtE (srtE es) = srtE es :=
  (srtE_one (srtE es) (srtE es) (((srtE_perm es).map keyB).nodup_iff.2 (okL_keys h)) (List.Perm.refl _) (srtE_asc es)).symm
theorem wfE_perm {x y : List Er} (h : x.Perm y) (ho : WfE x) : WfE y := fun a ha => ho a (h.symm.subset ha)
theorem okTr_srt {es : List Er} (hw : WfE es) (h : okL es) : okTr (srtE es) := ⟨wfE_perm (srtE_perm es).symm hw, (okL_perm (srtE_perm es).symm h).1⟩
/-- What both readers say of bytes is one. -/
theorem read_good {l : List UInt8} {es ed : List Er} {b : Bool} (hw : WfE es) (hp : ∀ u, okTr u → treeB u = l → es = u) (ho : okL es) (he : treeB (srtE es) = l) (hd : ∀ u, okTr u → okL u → srtE u = u → treeB u = l → b = true ∧ ed = u) : b = true ∧ ed = es := by
  have h1 := hp (srtE es) (okTr_srt hw ho) he
  have h2 := hd (srtE es) (okTr_srt hw ho) (okL_perm (srtE_perm es).symm ho) (srtE_srtE ho) he
  exact ⟨h2.1, h2.2.trans h1.symm⟩
theorem read_bad {l : List UInt8} {es ed : List Er} (hp : ∀ u, okTr u → treeB u = l → es = u) (hno : ¬ (okL es ∧ treeB (srtE es) = l)) (hw : WfE ed) : ¬ (okL ed ∧ treeB (srtE ed) = l) := by
  rintro ⟨ho, he⟩
  have h1 := hp (srtE ed) (okTr_srt hw ho) he
  refine hno ⟨?_, ?_⟩
  · rw [h1]; exact okL_perm (srtE_perm ed).symm ho
  · rw [h1, srtE_srtE ho]; exact he
end Go.Proofs.YtenbdeljblmbhaaGreatDoor
/- 'slices.SortedFunc' of entries. -/
namespace Go.Proofs.YtenbdeljblmbhaaGreatDoor
open Go.RowKit Go.Shelf
set_option linter.unusedVariables false
set_option linter.unusedSimpArgs false
/-- An entry whose name is not long. -/
abbrev En := { e : Er // e.name.length ≤ 50 ∧ e.id.length = 20 }
instance : Inhabited En := ⟨⟨⟨0, [], z20⟩, by decide, by decide⟩⟩
def encN (x : En) : List Value := erV x.1
def cfN (x y : En) : Int := cmpE x.1 y.1
theorem ltN (x y : En) : ltOf cfN x y = decide (keyB x.1 < keyB y.1) := by
  unfold ltOf cfN cmpE
  exact decide_eq_decide.2 (cb_iff _ _)
theorem swoN : Sort.SWO (ltOf cfN) where
  irrefl x := by rw [ltN]; exact decide_eq_false (lex_irrefl _)
  trans x y z h1 h2 := by
    rw [ltN] at *
    exact decide_eq_true (lex_trans _ _ _ (of_decide_eq_true h1) (of_decide_eq_true h2))
  ntrans x y z h1 h2 := by
    rw [ltN] at *
    exact decide_eq_false (lex_ntrans _ _ _ (of_decide_eq_false h1) (of_decide_eq_false h2))
theorem cmpLays45 (blk off size : Nat) (w : World) : CmpLays Tryz.prog 45 #[] encN 22 cfN blk off size w := fun m os dk _ x y => by
  have := byOrder_any x.1 y.1 (by have := x.2.1; omega) (by have := y.2.1; omega) x.2.2 y.2.2 (sortWorldK encN 22 w blk off m dk os)
  exact this
theorem enters45 : ∀ args w, (callFunc 45 args).run Tryz.prog w = .ok (.enter 45 args) w := enters_of Tryz.func45 (by kernel_rfl) rfl
theorem sort_any (blk off cap : Nat) (d : Array En) (w : World) (hH : Sort.HoldsK encN 22 w blk off d) (hblk : blk < w.heap.size) (hsz : d.size ≤ 1000) :
    Calls Tryz.prog 90 #[.slice (some ⟨blk, off, none⟩) d.size cap, .func (.func 45) #[] #[]] w fun e w' => e = .returned (.tuple #[]) ∧ ∃ d' n os, Sort.PermIn 0 d.size d d' ∧ Sort.SortedIn (ltOf cfN) 0 d.size d' ∧ w' = sortWorldK encN 22 w blk off n d' os :=
  AnyQ.slices_SortFunc Tryz.sortE 22 Tryz.isAgg51 Tryz.sizeOf51 encN (fun x => erV_len x.1 x.2.2) (fun x => erV_one x.1) cfN swoN 45 #[] blk off cap d w enters45 (cmpLays45 blk off d.size w) hH hblk (by omega)
theorem sort_none (p : Option Addr) (cap : Nat) (fv : Value) (w : World) : Calls Tryz.prog 90 #[.slice p 0 cap, fv] w fun e w' => e = .returned (.tuple #[]) ∧ w' = w :=
  AnyF.slices_SortFunc_none Tryz.sortE p cap fv w
/-- One cell of a row of entries. -/
theorem fE_at : ∀ (es : List Er) (h : ∀ x ∈ es, x.id.length = 20) (i j : Nat), i < es.length → j < 22 → (fE es)[i * 22 + j]? = (erV (es.getD i default))[j]?
  | [], _, i, j, h, _ => by simp at h
  | x :: es, h, 0, j, _, hj => by
    have hl : (erV x).length = 22 := erV_len x (h x (by simp))
    show (erV x ++ fE es)[0 * 22 + j]? = _
    rw [List.getElem?_append_left (by omega)]
    simp
  | x :: es, h, i + 1, j, hi, hj => by
    have hl : (erV x).length = 22 := erV_len x (h x (by simp))
    show (erV x ++ fE es)[(i + 1) * 22 + j]? = _
    rw [List.getElem?_append_right (by omega), hl, show (i + 1) * 22 + j - 22 = i * 22 + j by omega, fE_at es (fun y hy => h y (by simp [hy])) i j (by simpa using hi) hj]
    simp
end Go.Proofs.YtenbdeljblmbhaaGreatDoor
/- 'slices.Values', 'slices.Collect' and 'slices.SortedFunc' of entries. -/
namespace Go.Proofs.YtenbdeljblmbhaaGreatDoor
open Go.RowKit Go.Shelf
set_option linter.unusedVariables false
set_option linter.unusedSimpArgs false
theorem values_call (a : Option Addr) (n cap : Nat) (w : World) : Calls Tryz.prog 44 #[.slice a n cap] w fun e w' => e = .returned (.func (.func 91) #[] #[.pointer (some ⟨w.heap.size, 0, none⟩)]) ∧ w' = w.alloc (.cells #[.slice a n cap] 47) := by
  go_enter Tryz.func44, Tryz.ntmps44
  go_wp2
  go_ret
  exact ⟨rfl, rfl⟩
theorem collect_any (Bs : Nat) (a : Option Addr) (cap : Nat) (es : List Er) (w : World) (hwf : WfE es) (hP : Pe w a cap es) (hl : es.length ≤ 1000) (hbs : Boxed w Bs 47 (.slice a es.length cap)) :
    Calls Tryz.prog 89 #[.func (.func 91) #[] #[.pointer (some ⟨Bs, 0, none⟩)]] w (PostK w es) := by
  have HC : Hid (Calls Tryz.prog 126 #[.slice none 0 0, .func (.func 91) #[] #[.pointer (some ⟨Bs, 0, none⟩)]] w (PostK w es)) := appendSeq_any Bs a cap es w hwf hP hl hbs
  clear hwf hP hbs
  go_enter Tryz.func89, Tryz.ntmps89
  go_wp2_with fail
  refine HC.out.mono ?_
  rintro e w1 ⟨v, rfl, ho, hb⟩
  have HO : Hid (w1.ownsRow w.heap.size 51 22 v es.length (fE es)) := ho
  have HB : Hid (Below w.heap.size w w1) := hb
  clear ho hb
  go_wp2
  go_ret
  exact ⟨v, rfl, HO.out, HB.out⟩
/-- Entries of which each is some, and has no long name. -/
def WfN (es : List Er) : Prop := ∀ x ∈ es, x.name.length ≤ 50 ∧ x.id.length = 20
theorem WfN.tail {x : Er} {es : List Er} (h : WfN (x :: es)) : WfN es := fun y hy => h y (by simp [hy])
def toN : (es : List Er) → WfN es → List En
  | [], _ => []
  | x :: es, h => ⟨x, h x (by simp)⟩ :: toN es h.tail
theorem toN_val : ∀ (es : List Er) (h : WfN es), (toN es h).map (·.1) = es
  | [], _ => rfl
  | x :: es, h => congrArg (x :: ·) (toN_val es h.tail)
theorem toN_len (es : List Er) (h : WfN es) : (toN es h).length = es.length := by
  have := congrArg List.length (toN_val es h)
  rwa [List.length_map] at this
theorem toN_at (es : List Er) (h : WfN es) (i : Nat) (hi : i < es.length) : ((toN es h).toArray[i]!).1 = es.getD i default := by
  have hi' : i < (toN es h).length := by rw [toN_len]; exact hi
  have h1 : (toN es h).toArray[i]! = (toN es h)[i] := by simp [hi']
  rw [h1]
  have h2 : ((toN es h).map (·.1))[i]? = some ((toN es h)[i]).1 := by simp [hi']
  rw [toN_val] at h2
  rw [List.getD_eq_getElem?_getD, h2]
  rfl
theorem holds_own {w : World} {B g n cap : Nat} {es : List Er} (hw : WfN es) (hn : es.length = n) (h : w.ownsRow B 51 22 (.slice (some ⟨g, 0, none⟩) n cap) n (fE es)) : Sort.HoldsK encN 22 w g 0 (toN es hw).toArray := by
  intro j hj
  rw [Sort.size_flatK, List.size_toArray, toN_len, hn] at hj
  rw [Sort.get_flatK _ _ _ _ (by rw [List.size_toArray, toN_len, hn]; exact hj), Nat.zero_add]
  refine ⟨?_, h.frozenAt j⟩
  rw [h.cellAt j hj]
  have hd : j / 22 < es.length := by rw [hn]; exact Nat.div_lt_of_lt_mul (by omega)
  have hm : j % 22 < 22 := Nat.mod_lt _ (by omega)
  have e : j / 22 * 22 + j % 22 = j := by omega
  have := fE_at es (fun x hx => (hw x hx).2) (j / 22) (j % 22) hd hm
  rw [e] at this
  rw [this]
  show _ = some ((erV ((toN es hw).toArray[j / 22]!).1)[j % 22]!)
  rw [toN_at es hw _ hd]
  have hmem : es.getD (j / 22) default ∈ es := by
    rw [List.getD_eq_getElem?_getD, List.getElem?_eq_getElem hd]
    exact List.getElem_mem _
  have hl : (erV (es.getD (j / 22) default)).length = 22 := erV_len _ (hw _ hmem).2
  rw [List.getElem?_eq_getElem (by omega), getElem!_pos _ _ (by omega)]
theorem sortW_block (w : World) (g m : Nat) (d : Array En) (os : Array Obj) (k : Nat) (hk : k < w.heap.size) (hg : k ≠ g) : (sortWorldK encN 22 w g 0 m d os).heap[k]? = w.heap[k]? := by
  show ((w.heap.modify g _) ++ os)[k]? = _
  rw [Array.getElem?_append_left (by simpa using hk)]
  simp [Array.getElem?_modify, Ne.symm hg]
theorem sortW_below {B : Nat} {w0 w : World} (hb : Below B w0 w) (hB : B ≤ w0.heap.size) (g m : Nat) (d : Array En) (os : Array Obj) (hg : B ≤ g) : Below B w0 (sortWorldK encN 22 w g 0 m d os) :=
  hb.trans ⟨rfl, rfl, rfl, by show _ ≤ ((w.heap.modify g _) ++ os).size; simp, fun k hk => sortW_block w g m d os k (by have := hb.size; omega) (by omega)⟩
/-- What is sorted. -/
def PostS (w : World) (es : List Er) (e : Ending) (w' : World) : Prop := ∃ a cap es', e = .returned (.slice a es.length cap) ∧ es'.Perm es ∧ es'.Pairwise (fun x y => ¬ keyB y < keyB x) ∧ Pe w' a cap es' ∧ Below w.heap.size w w'
theorem sorted_post {B g n cap : Nat} {w0 w : World} {es : List Er} (hw : WfN es) (hn : es.length = n) (h : w.ownsRow B 51 22 (.slice (some ⟨g, 0, none⟩) n cap) n (fE es)) (d' : Array En) (m : Nat) (os : Array Obj)
    (hp : Sort.PermIn 0 (toN es hw).toArray.size (toN es hw).toArray d') (hs : Sort.SortedIn (ltOf cfN) 0 (toN es hw).toArray.size d') :
    ((d'.toList.map (·.1)).Perm es) ∧ (d'.toList.map (·.1)).Pairwise (fun x y => ¬ keyB y < keyB x) ∧ Pe (sortWorldK encN 22 w g 0 m d' os) (some ⟨g, 0, none⟩) cap (d'.toList.map (·.1)) := by
  have hsz : d'.size = (toN es hw).toArray.size := hp.1
  have hln : d'.size = n := by rw [hsz, List.size_toArray, toN_len, hn]
  have hH := holds_own hw hn h
  have hg : g < w.heap.size := (h.lt g rfl).2
  have hcap : n ≤ cap := by
    obtain ⟨_, ⟨h1, _⟩ | ⟨g', cap', cur, h1, _, _, h4, _⟩⟩ := h
    · cases h1
    · cases h1; exact h4
  refine ⟨?_, ?_, ⟨by simp [hln, hcap], fun h0 => ⟨g, 0, rfl, ?_, fun i hi j v hv => ?_⟩, fun h => by cases h⟩⟩
  · have := hp.2.2
    rw [← hsz, Array.extract_size, hsz, Array.extract_size] at this
    have := this.map (·.1)
    rwa [show ((toN es hw).toArray.toList).map (·.1) = es from toN_val es hw] at this
  · rw [List.pairwise_iff_getElem]
    intro i j hi hj hij
    simp only [List.length_map, Array.length_toList] at hi hj
    have := hs i j (Nat.zero_le _) hij (by rw [← hsz]; exact hj)
    rw [ltN, getElem!_pos d' j hj, getElem!_pos d' i hi] at this
    simpa using of_decide_eq_false this
  · show g < ((w.heap.modify g _) ++ os).size
    simp; omega
  · have hi' : i < d'.size := by simpa using hi
    have hK : Sort.HoldsK encN 22 (sortWorldK encN 22 w g 0 m d' os) g 0 d' :=
      Sort.holdsK_grow encN 22 _ os g 0 d' (by show g < (w.heap.modify g _).size; simpa using hg) (Sort.holdsK_putRowK encN 22 _ g 0 (toN es hw).toArray d' (Sort.holdsK_ahead encN 22 w m g 0 _ hH) hsz)
    have he : (d'.toList.map (·.1)).getD i default = (d'[i]!).1 := by
      rw [getElem!_pos d' i hi', List.getD_eq_getElem?_getD]
      simp [hi']
    rw [he] at hv
    have hl : (encN d'[i]!).length = 22 := erV_len _ (d'[i]!).2.2
    have hj : j < 22 := by
      obtain ⟨h1, _⟩ := List.getElem?_eq_some_iff.1 hv
      have : (erV (d'[i]!).1).length = 22 := hl
      omega
    have := (Sort.HoldsK.cell hK hi' hj).1
    rw [this]
    have hv' : (encN d'[i]!)[j]? = some v := hv
    rw [List.getElem?_eq_getElem (by omega)] at hv'
    rw [getElem!_pos _ _ (by omega)]
    exact hv'
theorem WfN.wf {es : List Er} (h : WfN es) : ∀ x ∈ es, x.id.length = 20 := fun x hx => (h x hx).2
set_option maxRecDepth 20000 in
theorem sortedFunc_any (Bs : Nat) (a : Option Addr) (cap : Nat) (es : List Er) (w : World) (hwf : WfE es) (hw : WfN es) (hP : Pe w a cap es) (hl : es.length ≤ 1000) (hbs : Boxed w Bs 47 (.slice a es.length cap)) :
    Calls Tryz.prog 43 #[.func (.func 91) #[] #[.pointer (some ⟨Bs, 0, none⟩)], .func (.func 45) #[] #[]] w (PostS w es) := by
  have HC : Hid (Calls Tryz.prog 89 #[.func (.func 91) #[] #[.pointer (some ⟨Bs, 0, none⟩)]] w (PostK w es)) := collect_any Bs a cap es w hwf hP hl hbs
  have HW : Hid (WfN es) := hw
  clear hwf hP hbs hw
  obtain ⟨n, HN⟩ : ∃ n, Hid (es.length = n) := ⟨_, rfl⟩
  have hn : n ≤ 1000 := by rw [← HN.out]; exact hl
  go_enter Tryz.func43, Tryz.ntmps43
  go_wp2_with fail
  refine HC.out.mono ?_
  rintro e w1 ⟨v, rfl, ho, hb⟩
  rw [HN.out] at ho
  obtain ⟨a1, c1, rfl⟩ := owns_shape ho
  have HO : Hid (w1.ownsRow w.heap.size 51 22 (.slice a1 n c1) n (fE es)) := ho
  have HB : Hid (Below w.heap.size w w1) := hb
  clear ho hb
  have C90 : Hid (Calls Tryz.prog 90 #[.slice a1 n c1, .func (.func 45) #[] #[]] w1 fun e w' => e = .returned (.tuple #[]) ∧ PostS w es (.returned (.slice a1 n c1)) w') := hid (by
    by_cases h0 : n = 0
    · have hes : es = [] := List.length_eq_zero_iff.1 (by rw [HN.out]; exact h0)
      have HO' := HO.out
      subst h0
      refine (sort_none a1 c1 _ w1).mono ?_
      rintro e w' ⟨rfl, rfl⟩
      refine ⟨rfl, a1, c1, [], by rw [HN.out], by rw [hes], List.Pairwise.nil, ⟨Nat.zero_le _, fun h => absurd h (by simp), fun h => ?_⟩, HB.out⟩
      obtain ⟨_, ⟨h1, _⟩ | ⟨g, cap', cur, h1, _⟩⟩ := HO'
      · cases h1; rfl
      · cases h1; cases h
    · obtain ⟨g, rfl⟩ : ∃ g, a1 = some ⟨g, 0, none⟩ := by
        obtain ⟨_, ⟨h1, h2⟩ | ⟨g, cap', cur, h1, _⟩⟩ := HO.out
        · exact absurd h2 h0
        · cases h1; exact ⟨g, rfl⟩
      have hg := HO.out.lt g rfl
      have hsz : (toN es HW.out).toArray.size = n := by rw [List.size_toArray, toN_len, HN.out]
      have := sort_any g 0 c1 (toN es HW.out).toArray w1 (holds_own HW.out HN.out HO.out) hg.2 (by rw [hsz]; exact hn)
      rw [hsz] at this
      refine this.mono ?_
      rintro e w' ⟨rfl, d', m, os, hp, hs, rfl⟩
      rw [← hsz] at hp hs
      obtain ⟨q1, q2, q3⟩ := sorted_post (w0 := w) HW.out HN.out HO.out d' m os hp hs
      exact ⟨rfl, _, c1, _, by rw [HN.out], q1, q2, q3, sortW_below HB.out (Nat.le_refl _) g m d' os hg.1⟩)
  go_wp2_with fail
  refine C90.out.mono ?_
  rintro e w2 ⟨rfl, hps⟩
  have HPS : Hid (PostS w es (.returned (.slice a1 n c1)) w2) := hps
  clear hps
  go_wp2
  go_ret
  exact HPS.out
end Go.Proofs.YtenbdeljblmbhaaGreatDoor
