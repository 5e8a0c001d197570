/- The places' sort: 'sortPlaces', 'slices.Clone'. -/
import Derived.Test.YtdfihfmmfmoabaaDoorPkD
namespace Go.Proofs.YtdfihfmmfmoabaaDoor
open Go.RowKit Go.Shelf
set_option linter.unusedVariables false
set_option linter.unusedSimpArgs false
theorem Tryd.size24' : (Tryd.prog.info? 24).map (·.size) = some 20 := by kernel_rfl
theorem pl_id {W : World} {b o : Nat} {x : Pl} (h : W.rangeAt b o (plV x)) : W.rangeAt b o (row .u8 x.id) := fun j v hv => h j v (by
  unfold plV
  rw [List.getElem?_append_left (List.getElem?_eq_some_iff.1 hv).1]
  exact hv)
theorem pl_off {W : World} {b o : Nat} {x : Pl} (h : W.rangeAt b o (plV x)) (hx : x.id.length = 20) : W.cell? ⟨b, o + 20, none⟩ = some (.int .i64 x.off) := h 20 _ (by
  unfold plV
  rw [List.getElem?_append_right (by rw [row_len]; omega), row_len, hx]
  rfl)
theorem pl_crc {W : World} {b o : Nat} {x : Pl} (h : W.rangeAt b o (plV x)) (hx : x.id.length = 20) : W.cell? ⟨b, o + 21, none⟩ = some (.int .u32 x.crc) := h 21 _ (by
  unfold plV
  rw [List.getElem?_append_right (by rw [row_len]; omega), row_len, hx]
  rfl)
set_option maxRecDepth 20000 in
set_option maxHeartbeats 1000000 in
theorem cmp26_any (x y : Pl) (hx : x.id.length = 20) (hy : y.id.length = 20) (w : World) : Calls Tryd.prog 26 #[.agg (plV x).toArray, .agg (plV y).toArray] w fun e w' => e = .returned (.int .i64 (cmpI x.id y.id)) ∧ Grew w w' := by
  obtain ⟨g, HG⟩ : ∃ g, Hid (g = w.heap.size) := ⟨_, rfl⟩
  obtain ⟨X, HX⟩ : ∃ X : List Value, Hid (plV x = X) := ⟨_, rfl⟩
  obtain ⟨Y, HY⟩ : ∃ Y : List Value, Hid (plV y = Y) := ⟨_, rfl⟩
  obtain ⟨I, HI⟩ : ∃ X : List Value, Hid (row .u8 x.id = X) := ⟨_, rfl⟩
  obtain ⟨J, HJ⟩ : ∃ Y : List Value, Hid (row .u8 y.id = Y) := ⟨_, rfl⟩
  obtain ⟨w0, HW0⟩ : ∃ w0, Hid (w0 = (w.alloc (Obj.cells X.toArray 32)).alloc (Obj.cells Y.toArray 32)) := ⟨_, rfl⟩
  have HGW : Hid (Grew w w0) := hid (by rw [HW0.out]; exact (Grew.alloc w _).trans (Grew.alloc _ _))
  have HT : Two g (g + 1) X Y 32 w0 := by
    rw [HW0.out, HG.out]
    constructor
    · show ((w.heap.push _).push _)[w.heap.size]? = _
      rw [Array.getElem?_push, if_neg (by simp), Array.getElem?_push, if_pos rfl]
    · show ((w.heap.push _).push _)[w.heap.size + 1]? = _
      rw [Array.getElem?_push, if_pos (by simp)]
  have RX : Hid (w0.rangeAt g 0 I) := hid (by have := range_row HT.x; rw [← HX.out] at this; rw [← HI.out]; exact pl_id this)
  have RY : Hid (w0.rangeAt (g + 1) 0 J) := hid (by have := range_row HT.y; rw [← HY.out] at this; rw [← HJ.out]; exact pl_id this)
  have hiI : (Tryd.prog.info? 24).map (·.size) = some I.length := by rw [← HI.out, row_len, hx]; exact Tryd.size24'
  have hiJ : (Tryd.prog.info? 24).map (·.size) = some J.length := by rw [← HJ.out, row_len, hy]; exact Tryd.size24'
  obtain ⟨r, HR⟩ : ∃ r, Hid (cmpI x.id y.id = r) := ⟨_, rfl⟩
  have HC : Hid (Calls Tryd.prog 27 #[.agg I.toArray, .agg J.toArray] w0 fun e w' => e = .returned (.int .i64 r) ∧ Grew w0 w') := hid (by
    rw [← HI.out, ← HJ.out, ← HR.out]
    exact compareIDs_any x.id y.id hx hy w0)
  rw [HX.out, HY.out, HR.out]
  clear hx hy HT
  go_enter Tryd.func26, Tryd.ntmps26
  go_wp2_with (first
    | (rw [← HG.out, ← HW0.out]; refine wpList_load_mid rfl 24 _ rfl g 0 rfl I _ RX.out Tryd.underlying24 rfl hiI ?_)
    | refine wpList_load_mid rfl 24 _ rfl g 0 rfl I _ RX.out Tryd.underlying24 rfl hiI ?_
    | refine wpList_load_mid rfl 24 _ rfl (g + 1) 0 rfl J _ RY.out Tryd.underlying24 rfl hiJ ?_
    | fail)
  refine HC.out.mono ?_
  rintro e w1 ⟨rfl, hg1⟩
  have HG1 : Hid (Grew w w1) := HGW.out.trans hg1
  clear hg1
  go_wp2
  go_ret
  exact ⟨rfl, HG1.out⟩
/-- A place whose id is one. -/
abbrev Pn := { p : Pl // p.id.length = 20 }
variable [Inhabited Pn]
set_option linter.unusedSectionVars false
def encP (x : Pn) : List Value := plV x.1
def cfP (x y : Pn) : Int := cmpI x.1.id y.1.id
theorem ltP (x y : Pn) : ltOf cfP x y = decide (Lib.bytesOf x.1.id < Lib.bytesOf y.1.id) := by
  unfold ltOf cfP cmpI
  exact decide_eq_decide.2 (cb_iff _ _)
theorem swoP : Sort.SWO (ltOf cfP) where
  irrefl x := by rw [ltP]; exact decide_eq_false (lex_irrefl _)
  trans x y z h1 h2 := by
    rw [ltP] at *
    exact decide_eq_true (lex_trans _ _ _ (of_decide_eq_true h1) (of_decide_eq_true h2))
  ntrans x y z h1 h2 := by
    rw [ltP] at *
    exact decide_eq_false (lex_ntrans _ _ _ (of_decide_eq_false h1) (of_decide_eq_false h2))
theorem cmpLays26 (blk off size : Nat) (w : World) : CmpLays Tryd.prog 26 #[] encP 22 cfP blk off size w := fun m os dk _ x y => cmp26_any x.1 y.1 x.2 y.2 (sortWorldK encP 22 w blk off m dk os)
theorem enters26 : ∀ args w, (callFunc 26 args).run Tryd.prog w = .ok (.enter 26 args) w := enters_of Tryd.func26 (by kernel_rfl) rfl
theorem sort_any (blk off cap : Nat) (d : Array Pn) (w : World) (hH : Sort.HoldsK encP 22 w blk off d) (hblk : blk < w.heap.size) (hsz : d.size ≤ 6000) :
    Calls Tryd.prog 25 #[.slice (some ⟨blk, off, none⟩) d.size cap, .func (.func 26) #[] #[]] w fun e w' => e = .returned (.tuple #[]) ∧ ∃ d' n os, Sort.PermIn 0 d.size d d' ∧ Sort.SortedIn (ltOf cfP) 0 d.size d' ∧ w' = sortWorldK encP 22 w blk off n d' os :=
  AnyQ.slices_SortFunc Tryd.sortP 22 Tryd.isAgg32 Tryd.sizeOf32 encP (fun x => plV_len x.1 x.2) (fun x => plV_one x.1) cfP swoP 26 #[] blk off cap d w enters26 (cmpLays26 blk off d.size w) hH hblk (by omega)
theorem sort_none (p : Option Addr) (cap : Nat) (fv : Value) (w : World) : Calls Tryd.prog 25 #[.slice p 0 cap, fv] w fun e w' => e = .returned (.tuple #[]) ∧ w' = w :=
  AnyF.slices_SortFunc_none Tryd.sortP p cap fv w
/-- Places of which each has an id. -/
def WfQ (es : List Pl) : Prop := ∀ x ∈ es, x.id.length = 20
theorem WfQ.tail {x : Pl} {es : List Pl} (h : WfQ (x :: es)) : WfQ es := fun y hy => h y (by simp [hy])
def toP : (es : List Pl) → WfQ es → List Pn
  | [], _ => []
  | x :: es, h => ⟨x, h x (by simp)⟩ :: toP es h.tail
theorem toP_val : ∀ (es : List Pl) (h : WfQ es), (toP es h).map (·.1) = es
  | [], _ => rfl
  | x :: es, h => congrArg (x :: ·) (toP_val es h.tail)
theorem toP_len (es : List Pl) (h : WfQ es) : (toP es h).length = es.length := by
  have := congrArg List.length (toP_val es h)
  rwa [List.length_map] at this
theorem toP_at (es : List Pl) (h : WfQ es) (i : Nat) (hi : i < es.length) : ((toP es h).toArray[i]!).1 = es.getD i p0 := by
  have hi' : i < (toP es h).length := by rw [toP_len]; exact hi
  have h1 : (toP es h).toArray[i]! = (toP es h)[i] := by simp [hi']
  rw [h1]
  have h2 : ((toP es h).map (·.1))[i]? = some ((toP es h)[i]).1 := by simp [hi']
  rw [toP_val] at h2
  rw [List.getD_eq_getElem?_getD, h2]
  rfl
theorem holds_own {w : World} {B g n cap : Nat} {es : List Pl} (hw : WfQ es) (hn : es.length = n) (h : w.ownsRow B 32 22 (.slice (some ⟨g, 0, none⟩) n cap) n (es.flatMap plV)) : Sort.HoldsK encP 22 w g 0 (toP es hw).toArray := by
  intro j hj
  rw [Sort.size_flatK, List.size_toArray, toP_len, hn] at hj
  rw [Sort.get_flatK _ _ _ _ (by rw [List.size_toArray, toP_len, hn]; exact hj), Nat.zero_add]
  refine ⟨?_, h.frozenAt j⟩
  rw [h.cellAt j hj]
  have hd : j / 22 < es.length := by rw [hn]; exact Nat.div_lt_of_lt_mul (by omega)
  have hm : j % 22 < 22 := Nat.mod_lt _ (by omega)
  have e : j / 22 * 22 + j % 22 = j := by omega
  have := fP_at es (fun x hx => hw x hx) (j / 22) (j % 22) hd hm
  rw [e] at this
  rw [this]
  show _ = some ((plV ((toP es hw).toArray[j / 22]!).1)[j % 22]!)
  rw [toP_at es hw _ hd]
  have hmem : es.getD (j / 22) p0 ∈ es := by
    rw [List.getD_eq_getElem?_getD, List.getElem?_eq_getElem hd]
    exact List.getElem_mem _
  have hl : (plV (es.getD (j / 22) p0)).length = 22 := plV_len _ (hw _ hmem)
  rw [List.getElem?_eq_getElem (by omega), getElem!_pos _ _ (by omega)]
theorem sortW_block (w : World) (g m : Nat) (d : Array Pn) (os : Array Obj) (k : Nat) (hk : k < w.heap.size) (hg : k ≠ g) : (sortWorldK encP 22 w g 0 m d os).heap[k]? = w.heap[k]? := by
  show ((w.heap.modify g _) ++ os)[k]? = _
  rw [Array.getElem?_append_left (by simpa using hk)]
  simp [Array.getElem?_modify, Ne.symm hg]
theorem sortW_below {B : Nat} {w0 w : World} (hb : Below B w0 w) (hB : B ≤ w0.heap.size) (g m : Nat) (d : Array Pn) (os : Array Obj) (hg : B ≤ g) : Below B w0 (sortWorldK encP 22 w g 0 m d os) :=
  hb.trans ⟨rfl, rfl, rfl, by show _ ≤ ((w.heap.modify g _) ++ os).size; simp, fun k hk => sortW_block w g m d os k (by have := hb.size; omega) (by omega)⟩
theorem sorted_post {B g n cap : Nat} {w0 w : World} {es : List Pl} (hw : WfQ es) (hn : es.length = n) (h : w.ownsRow B 32 22 (.slice (some ⟨g, 0, none⟩) n cap) n (es.flatMap plV)) (d' : Array Pn) (m : Nat) (os : Array Obj)
    (hp : Sort.PermIn 0 (toP es hw).toArray.size (toP es hw).toArray d') (hs : Sort.SortedIn (ltOf cfP) 0 (toP es hw).toArray.size d') :
    ((d'.toList.map (·.1)).Perm es) ∧ (d'.toList.map (·.1)).Pairwise (fun x y => ¬ Lib.bytesOf y.id < Lib.bytesOf x.id) ∧ Pp (sortWorldK encP 22 w g 0 m d' os) (some ⟨g, 0, none⟩) cap (d'.toList.map (·.1)) := by
  have hsz : d'.size = (toP es hw).toArray.size := hp.1
  have hln : d'.size = n := by rw [hsz, List.size_toArray, toP_len, hn]
  have hH := holds_own hw hn h
  have hg : g < w.heap.size := (h.lt g rfl).2
  have hcap : n ≤ cap := by
    obtain ⟨_, ⟨h1, _⟩ | ⟨g', cap', cur, h1, _, _, h4, _⟩⟩ := h
    · cases h1
    · cases h1; exact h4
  refine ⟨?_, ?_, ⟨by simp [hln, hcap], fun h0 => ⟨g, 0, rfl, ?_, fun i hi j v hv => ?_⟩, fun h => by cases h⟩⟩
  · have := hp.2.2
    rw [← hsz, Array.extract_size, hsz, Array.extract_size] at this
    have := this.map (·.1)
    rwa [show ((toP es hw).toArray.toList).map (·.1) = es from toP_val es hw] at this
  · rw [List.pairwise_iff_getElem]
    intro i j hi hj hij
    simp only [List.length_map, Array.length_toList] at hi hj
    have := hs i j (Nat.zero_le _) hij (by rw [← hsz]; exact hj)
    rw [ltP, getElem!_pos d' j hj, getElem!_pos d' i hi] at this
    simpa using of_decide_eq_false this
  · show g < ((w.heap.modify g _) ++ os).size
    simp; omega
  · have hi' : i < d'.size := by simpa using hi
    have hK : Sort.HoldsK encP 22 (sortWorldK encP 22 w g 0 m d' os) g 0 d' :=
      Sort.holdsK_grow encP 22 _ os g 0 d' (by show g < (w.heap.modify g _).size; simpa using hg) (Sort.holdsK_putRowK encP 22 _ g 0 (toP es hw).toArray d' (Sort.holdsK_ahead encP 22 w m g 0 _ hH) hsz)
    have he : (d'.toList.map (·.1)).getD i p0 = (d'[i]!).1 := by
      rw [getElem!_pos d' i hi', List.getD_eq_getElem?_getD]
      simp [hi']
    rw [he] at hv
    have hl : (encP d'[i]!).length = 22 := plV_len _ (d'[i]!).2
    have hj : j < 22 := by
      obtain ⟨h1, _⟩ := List.getElem?_eq_some_iff.1 hv
      have : (plV (d'[i]!).1).length = 22 := hl
      omega
    have := (Sort.HoldsK.cell hK hi' hj).1
    rw [this]
    have hv' : (encP d'[i]!)[j]? = some v := hv
    rw [List.getElem?_eq_getElem (by omega)] at hv'
    rw [getElem!_pos _ _ (by omega)]
    exact hv'
end Go.Proofs.YtdfihfmmfmoabaaDoor
