/- Ids of a set, sorted: 'idorder.Sorted'. -/
import Derived.Test.YtjgjeedablgmeaaDoorGtC
import Derived.Test.YtjgjeedablgmeaaDoorShS
import Derived.Shelf.SlSortCmp.NoneTotal
namespace Go.Proofs.YtjgjeedablgmeaaDoor
open Go.RowKit Go.Shelf
set_option linter.unusedVariables false
set_option linter.unusedSectionVars false
set_option linter.unusedSimpArgs false
def Grew (w w' : World) : Prop := ∃ q os, w' = Sort.grow (w.drewN q) os
theorem Grew.two (w : World) (a b : Obj) : Grew w ((w.alloc a).alloc b).drew := ⟨1, #[a, b], by
  rw [Sort.alloc_eq_grow, Sort.alloc_eq_grow]
  unfold Sort.grow World.drew World.drewN
  simp
  apply Array.ext'
  simp⟩
set_option maxRecDepth 20000 in
set_option maxHeartbeats 1000000 in
theorem compareIDs_grew (x y : List Int) (hx : x.length = 20) (hy : y.length = 20) (w : World) :
    Calls Tryd.prog 60 #[.agg (row .u8 x).toArray, .agg (row .u8 y).toArray] w fun e w' => e = .returned (.int .i64 (cmpI x y)) ∧ Grew w w' := by
  obtain ⟨g, HG⟩ : ∃ g, Hid (g = w.heap.size) := ⟨_, rfl⟩
  obtain ⟨X, HX⟩ : ∃ X : List Value, Hid (row .u8 x = X) := ⟨_, rfl⟩
  obtain ⟨Y, HY⟩ : ∃ Y : List Value, Hid (row .u8 y = Y) := ⟨_, rfl⟩
  obtain ⟨w0, HW0⟩ : ∃ w0, Hid (w0 = (w.alloc (Obj.cells X.toArray 42)).alloc (Obj.cells Y.toArray 42)) := ⟨_, rfl⟩
  have HGW : Hid (Grew w w0.drew) := hid (by rw [HW0.out]; exact Grew.two w _ _)
  have HT : Hid (Two g (g + 1) X Y 42 w0.drew) := hid (by
    rw [HW0.out, HG.out]
    constructor
    · show ((w.heap.push _).push _)[w.heap.size]? = _
      rw [Array.getElem?_push, if_neg (by simp), Array.getElem?_push, if_pos rfl]
    · show ((w.heap.push _).push _)[w.heap.size + 1]? = _
      rw [Array.getElem?_push, if_pos (by simp)])
  obtain ⟨r, HR⟩ : ∃ r, Hid (cmpI x y = r) := ⟨_, rfl⟩
  have HC : Hid (∀ W, Two g (g + 1) X Y 42 W → Calls Tryd.prog 65 #[.slice (some ⟨g, 0, none⟩) 20 20, .slice (some ⟨g + 1, 0, none⟩) 20 20] W fun e w' => e = .returned (.int .i64 r) ∧ w' = W) := fun W hW => by
    have := compare_any (some ⟨g, 0, none⟩) (some ⟨g + 1, 0, none⟩) 20 20 x y W (id_sl (by rw [HX.out]; exact hW.x) hx) (id_sl (by rw [HY.out]; exact hW.y) hy)
    rw [hx, hy] at this
    rw [← HR.out]
    exact this
  rw [HX.out, HY.out, HR.out]
  clear hx hy
  go_enter Tryd.func60, Tryd.ntmps60
  go_wp2_with fail
  rw [← HG.out, ← HW0.out]
  refine wp_region_held_drew (S := Two g (g + 1) X Y 42) (by kernel_rfl) (by exact HT.out) (fun hHeld => ?_)
  generalize w0.drew = wd at hHeld HGW HT ⊢
  refine takeL (i := 0) (v := ?_) rfl (by kernel_rfl) (by kernel_rfl) (by kernel_rfl) (fun _ _ _ h => h) (Or.inl ⟨by rfl, ?_⟩) hHeld ?_
  rotate_left
  · rintro w' ⟨k1, k2⟩; go_simp; rfl
  try simp only [Act.put, List.setIfInBounds_toArray, List.set_cons_zero, List.set_cons_succ]
  refine takeL (i := 1) (v := ?_) rfl (by kernel_rfl) (by kernel_rfl) (by kernel_rfl) (fun _ _ _ h => h) (Or.inl ⟨by rfl, ?_⟩) hHeld ?_
  rotate_left
  · rintro w' ⟨k1, k2⟩; go_simp; rfl
  try simp only [Act.put, List.setIfInBounds_toArray, List.set_cons_zero, List.set_cons_succ]
  refine wpAnyH_ready (rs := [2]) (by kernel_rfl) (by simp) ?_
  refine consL rfl (fun KK hKK => ?_) AllReadyH.nil
  refine step_callv (by rfl) 65 [.tmp 5, .tmp 6] _ [.slice (some ⟨g, 0, none⟩) 20 20, .slice (some ⟨g + 1, 0, none⟩) 20 20] _ (by rfl) (by rfl) (enter65 _ _) (HC.out _ hHeld) ?_
  rintro e w1 ⟨rfl, rfl⟩
  refine ⟨_, rfl, ?_⟩
  refine hKK.out _ _ hHeld (fun hHeld2 => ?_)
  clear hKK KK
  try simp only [Act.put, List.setIfInBounds_toArray, List.set_cons_zero, List.set_cons_succ]
  refine takeL (i := 3) (v := ?_) rfl (by kernel_rfl) (by kernel_rfl) (by kernel_rfl) (fun _ _ _ h => h) (Or.inl ⟨by rfl, ?_⟩) hHeld ?_
  rotate_left
  · rintro w' ⟨k1, k2⟩; go_simp; rfl
  try simp only [Act.put, List.setIfInBounds_toArray, List.set_cons_zero, List.set_cons_succ]
  refine wpAnyH_done (by kernel_rfl) ?_ _
  go_wp2
  go_ret
  exact ⟨rfl, HGW.out⟩
/-- An id. -/
abbrev In := { x : List Int // IdW x }
variable [Inhabited In]
def encN (x : In) : List Value := row .u8 x.1
def cfN (x y : In) : Int := cmpI x.1 y.1
theorem ltN (x y : In) : ltOf cfN x y = decide (Lib.bytesOf x.1 < Lib.bytesOf y.1) := by
  unfold ltOf cfN cmpI
  exact decide_eq_decide.2 (cb_iff _ _)
theorem swoN : Sort.SWO (ltOf cfN) where
  irrefl x := by rw [ltN]; exact decide_eq_false (lex_irrefl _)
  trans x y z h1 h2 := by
    rw [ltN] at *
    exact decide_eq_true (lex_trans _ _ _ (of_decide_eq_true h1) (of_decide_eq_true h2))
  ntrans x y z h1 h2 := by
    rw [ltN] at *
    exact decide_eq_false (lex_ntrans _ _ _ (of_decide_eq_false h1) (of_decide_eq_false h2))
theorem cmpLays60 (blk off size : Nat) (w : World) : CmpLays Tryd.prog 60 #[] encN 20 cfN blk off size w := fun m os dk _ x y => by
  have := compareIDs_grew x.1 y.1 x.2.1 y.2.1 (sortWorldK encN 20 w blk off m dk os)
  exact this
theorem enters60 : ∀ args w, (callFunc 60 args).run Tryd.prog w = .ok (.enter 60 args) w := enters_of Tryd.func60 (by kernel_rfl) rfl
theorem encN_len (x : In) : (encN x).length = 20 := by unfold encN; rw [row_len]; exact x.2.1
theorem sort_any (blk off cap : Nat) (d : Array In) (w : World) (hH : Sort.HoldsK encN 20 w blk off d) (hblk : blk < w.heap.size) (hsz : d.size ≤ 1000) :
    Calls Tryd.prog 63 #[.slice (some ⟨blk, off, none⟩) d.size cap, .func (.func 60) #[] #[]] w fun e w' => e = .returned (.tuple #[]) ∧ ∃ d' n os, Sort.PermIn 0 d.size d d' ∧ Sort.SortedIn (ltOf cfN) 0 d.size d' ∧ w' = sortWorldK encN 20 w blk off n d' os :=
  AnyQ.slices_SortFunc Tryd.sortI 20 Tryd.isAgg42 Tryd.sizeOf42 encN encN_len (fun x => row_one _ x.1) cfN swoN 60 #[] blk off cap d w enters60 (cmpLays60 blk off d.size w) hH hblk (by omega)
theorem sort_none (p : Option Addr) (cap : Nat) (fv : Value) (w : World) : Calls Tryd.prog 63 #[.slice p 0 cap, fv] w fun e w' => e = .returned (.tuple #[]) ∧ w' = w :=
  AnyF.slices_SortFunc_none Tryd.sortI p cap fv w
def WfN (es : List (List Int)) : Prop := ∀ x ∈ es, IdW x
theorem WfN.tail {x : List Int} {es : List (List Int)} (h : WfN (x :: es)) : WfN es := fun y hy => h y (by simp [hy])
def toN : (es : List (List Int)) → WfN es → List In
  | [], _ => []
  | x :: es, h => ⟨x, h x (by simp)⟩ :: toN es h.tail
theorem toN_val : ∀ (es : List (List Int)) (h : WfN es), (toN es h).map (·.1) = es
  | [], _ => rfl
  | x :: es, h => congrArg (x :: ·) (toN_val es h.tail)
theorem toN_len (es : List (List Int)) (h : WfN es) : (toN es h).length = es.length := by
  have := congrArg List.length (toN_val es h)
  rwa [List.length_map] at this
theorem toN_at (es : List (List Int)) (h : WfN es) (i : Nat) (hi : i < es.length) : ((toN es h).toArray[i]!).1 = es.getD i [] := by
  have hi' : i < (toN es h).length := by rw [toN_len]; exact hi
  have h1 : (toN es h).toArray[i]! = (toN es h)[i] := by simp [hi']
  rw [h1]
  have h2 : ((toN es h).map (·.1))[i]? = some ((toN es h)[i]).1 := by simp [hi']
  rw [toN_val] at h2
  rw [List.getD_eq_getElem?_getD, h2]
  rfl
theorem holds_own {w : World} {B g n cap : Nat} {es : List (List Int)} (hw : WfN es) (hn : es.length = n) (h : w.ownsRow B 42 20 (.slice (some ⟨g, 0, none⟩) n cap) n (fI es)) : Sort.HoldsK encN 20 w g 0 (toN es hw).toArray := by
  intro j hj
  rw [Sort.size_flatK, List.size_toArray, toN_len, hn] at hj
  rw [Sort.get_flatK _ _ _ _ (by rw [List.size_toArray, toN_len, hn]; exact hj), Nat.zero_add]
  refine ⟨?_, h.frozenAt j⟩
  rw [h.cellAt j hj]
  have hd : j / 20 < es.length := by rw [hn]; exact Nat.div_lt_of_lt_mul (by omega)
  have hm : j % 20 < 20 := Nat.mod_lt _ (by omega)
  have e : j / 20 * 20 + j % 20 = j := by omega
  have := fX_at (enc := row .u8) (k := 20) (d := []) es (fun x hx => by rw [row_len]; exact (hw x hx).1) (j / 20) (j % 20) hd hm
  rw [e] at this
  unfold fI
  rw [this]
  show _ = some ((row .u8 ((toN es hw).toArray[j / 20]!).1)[j % 20]!)
  rw [toN_at es hw _ hd]
  have hmem : es.getD (j / 20) [] ∈ es := getD_mem es _ _ hd
  have hl : (row .u8 (es.getD (j / 20) [])).length = 20 := by rw [row_len]; exact (hw _ hmem).1
  rw [List.getElem?_eq_getElem (by omega), getElem!_pos _ _ (by omega)]
theorem sortW_block (w : World) (g m : Nat) (d : Array In) (os : Array Obj) (k : Nat) (hk : k < w.heap.size) (hg : k ≠ g) : (sortWorldK encN 20 w g 0 m d os).heap[k]? = w.heap[k]? := by
  show ((w.heap.modify g _) ++ os)[k]? = _
  rw [Array.getElem?_append_left (by simpa using hk)]
  simp [Array.getElem?_modify, Ne.symm hg]
theorem sortW_below {B : Nat} {w0 w : World} (hb : Below B w0 w) (hB : B ≤ w0.heap.size) (g m : Nat) (d : Array In) (os : Array Obj) (hg : B ≤ g) : Below B w0 (sortWorldK encN 20 w g 0 m d os) :=
  hb.trans ⟨rfl, rfl, rfl, by show _ ≤ ((w.heap.modify g _) ++ os).size; simp, fun k hk => sortW_block w g m d os k (by have := hb.size; omega) (by omega)⟩
theorem sorted_post {B g n cap : Nat} {w0 w : World} {es : List (List Int)} (hw : WfN es) (hn : es.length = n) (h : w.ownsRow B 42 20 (.slice (some ⟨g, 0, none⟩) n cap) n (fI es)) (d' : Array In) (m : Nat) (os : Array Obj)
    (hp : Sort.PermIn 0 (toN es hw).toArray.size (toN es hw).toArray d') (hs : Sort.SortedIn (ltOf cfN) 0 (toN es hw).toArray.size d') :
    ((d'.toList.map (·.1)).Perm es) ∧ (d'.toList.map (·.1)).Pairwise (fun x y => ¬ Lib.bytesOf y < Lib.bytesOf x) ∧ Pa (sortWorldK encN 20 w g 0 m d' os) (some ⟨g, 0, none⟩) cap (d'.toList.map (·.1)) := by
  have hsz : d'.size = (toN es hw).toArray.size := hp.1
  have hln : d'.size = n := by rw [hsz, List.size_toArray, toN_len, hn]
  have hH := holds_own hw hn h
  have hg : g < w.heap.size := (h.lt g rfl).2
  have hcap : n ≤ cap := by
    obtain ⟨_, ⟨h1, _⟩ | ⟨g', cap', cur, h1, _, _, h4, _⟩⟩ := h
    · cases h1
    · cases h1; exact h4
  refine ⟨?_, ?_, ⟨by simp [hln, hcap], fun h0 => ⟨g, 0, rfl, ?_, fun i hi j v hv => ?_⟩, fun h => by cases h⟩⟩
  · have := hp.2.2
    rw [← hsz, Array.extract_size, hsz, Array.extract_size] at this
    have := this.map (·.1)
    rwa [show ((toN es hw).toArray.toList).map (·.1) = es from toN_val es hw] at this
  · rw [List.pairwise_iff_getElem]
    intro i j hi hj hij
    simp only [List.length_map, Array.length_toList] at hi hj
    have := hs i j (Nat.zero_le _) hij (by rw [← hsz]; exact hj)
    rw [ltN, getElem!_pos d' j hj, getElem!_pos d' i hi] at this
    simpa using of_decide_eq_false this
  · show g < ((w.heap.modify g _) ++ os).size
    simp; omega
  · have hi' : i < d'.size := by simpa using hi
    have hK : Sort.HoldsK encN 20 (sortWorldK encN 20 w g 0 m d' os) g 0 d' :=
      Sort.holdsK_grow encN 20 _ os g 0 d' (by show g < (w.heap.modify g _).size; simpa using hg) (Sort.holdsK_putRowK encN 20 _ g 0 (toN es hw).toArray d' (Sort.holdsK_ahead encN 20 w m g 0 _ hH) hsz)
    have he : (d'.toList.map (·.1)).getD i [] = (d'[i]!).1 := by
      rw [getElem!_pos d' i hi', List.getD_eq_getElem?_getD]
      simp [hi']
    rw [he] at hv
    have hl : (encN d'[i]!).length = 20 := encN_len _
    have hj : j < 20 := by
      obtain ⟨h1, _⟩ := List.getElem?_eq_some_iff.1 hv
      have : (row .u8 (d'[i]!).1).length = 20 := hl
      omega
    have := (Sort.HoldsK.cell hK hi' hj).1
    rw [this]
    have hv' : (encN d'[i]!)[j]? = some v := hv
    rw [List.getElem?_eq_getElem (by omega)] at hv'
    rw [getElem!_pos _ _ (by omega)]
    exact hv'
theorem Lst'.perm {S : List Int → Prop} {xs ys : List (List Int)} (h : Lst' S xs) (hp : ys.Perm xs) : Lst' S ys := ⟨hp.nodup_iff.2 h.one, fun y hy => h.idw y (hp.mem_iff.1 hy), fun y hy => by rw [hp.mem_iff]; exact h.all y hy⟩
set_option maxRecDepth 20000 in
theorem sortedFunc_any (Bs g ns : Nat) (S : List Int → Prop) (w : World) (hS : SI w g ns S) (hl : ns ≤ 1000) (hbs : Boxed w Bs 67 (.map (some g))) (hfew : ∀ xs, Lst' S xs → xs.length ≤ 1000) :
    Calls Tryd.prog 58 #[.func (.func 64) #[] #[.pointer (some ⟨Bs, 0, none⟩)], .func (.func 60) #[] #[]] w (PostSo S w) := by
  have HC : Hid (Calls Tryd.prog 62 #[.func (.func 64) #[] #[.pointer (some ⟨Bs, 0, none⟩)]] w (PostK S w)) := collect_any Bs g ns S w hS hl hbs
  have HFW : Hid (∀ xs, Lst' S xs → xs.length ≤ 1000) := hfew
  clear hS hbs hfew
  go_enter Tryd.func58, Tryd.ntmps58
  go_wp2_with fail
  refine HC.out.mono ?_
  rintro e w1 ⟨v, es, rfl, hx, ho, hb⟩
  obtain ⟨n, HN⟩ : ∃ n, Hid (es.length = n) := ⟨_, rfl⟩
  have hn : n ≤ 1000 := by rw [← HN.out]; exact HFW.out es hx
  have HX : Hid (Lst' S es) := hx
  have HW : Hid (WfN es) := hx.idw
  rw [HN.out] at ho
  obtain ⟨a1, c1, rfl⟩ := owns_shape ho
  have HO : Hid (w1.ownsRow w.heap.size 42 20 (.slice a1 n c1) n (fI es)) := ho
  have HB : Hid (Below w.heap.size w w1) := hb
  clear ho hb hx
  have C63 : Hid (Calls Tryd.prog 63 #[.slice a1 n c1, .func (.func 60) #[] #[]] w1 fun e w' => e = .returned (.tuple #[]) ∧ PostSo S w (.returned (.slice a1 n c1)) w') := hid (by
    by_cases h0 : n = 0
    · have hes : es = [] := List.length_eq_zero_iff.1 (by rw [HN.out]; exact h0)
      have HO' := HO.out
      subst h0
      refine (sort_none a1 c1 _ w1).mono ?_
      rintro e w' ⟨rfl, rfl⟩
      refine ⟨rfl, a1, c1, [], rfl, by have := HX.out; rwa [hes] at this, List.Pairwise.nil, ⟨Nat.zero_le _, fun h => absurd h (by simp), fun h => ?_⟩, HB.out⟩
      obtain ⟨_, ⟨h1, _⟩ | ⟨g, cap', cur, h1, _⟩⟩ := HO'
      · cases h1; rfl
      · cases h1; cases h
    · obtain ⟨g, rfl⟩ : ∃ g, a1 = some ⟨g, 0, none⟩ := by
        obtain ⟨_, ⟨h1, h2⟩ | ⟨g, cap', cur, h1, _⟩⟩ := HO.out
        · exact absurd h2 h0
        · cases h1; exact ⟨g, rfl⟩
      have hg := HO.out.lt g rfl
      have hsz : (toN es HW.out).toArray.size = n := by rw [List.size_toArray, toN_len, HN.out]
      have := sort_any g 0 c1 (toN es HW.out).toArray w1 (holds_own HW.out HN.out HO.out) hg.2 (by rw [hsz]; exact hn)
      rw [hsz] at this
      refine this.mono ?_
      rintro e w' ⟨rfl, d', m, os, hp, hs, rfl⟩
      rw [← hsz] at hp hs
      obtain ⟨q1, q2, q3⟩ := sorted_post (w0 := w) HW.out HN.out HO.out d' m os hp hs
      exact ⟨rfl, _, c1, _, by rw [q1.length_eq, HN.out], HX.out.perm q1, q2, q3, sortW_below HB.out (Nat.le_refl _) g m d' os hg.1⟩)
  go_wp2_with fail
  refine C63.out.mono ?_
  rintro e w2 ⟨rfl, hps⟩
  have HPS : Hid (PostSo S w (.returned (.slice a1 n c1)) w2) := hps
  clear hps
  go_wp2
  go_ret
  exact HPS.out
set_option maxRecDepth 20000 in
/-- 'idorder.Sorted'. -/
theorem idsorted_any (g ns : Nat) (S : List Int → Prop) (w : World) (hS : SI w g ns S) (hl : ns ≤ 1000) (hfew : ∀ xs, Lst' S xs → xs.length ≤ 1000) : Calls Tryd.prog 51 #[.map (some g)] w (PostSo S w) := by
  have C59 : Hid (Calls Tryd.prog 59 #[.map (some g)] w fun e w' => e = .returned (.func (.func 64) #[] #[.pointer (some ⟨w.heap.size, 0, none⟩)]) ∧ w' = w.alloc (.cells #[.map (some g)] 67)) := keys_call g w
  obtain ⟨w1, HW1⟩ : ∃ u, Hid (w.alloc (.cells #[.map (some g)] 67) = u) := ⟨_, rfl⟩
  have hb1 : Below w.heap.size w w1 := by rw [← HW1.out]; exact (Below.refl _ w).alloc (Nat.le_refl _) _
  have HB1 : Hid (Below w.heap.size w w1) := hb1
  have C58 : Hid (Calls Tryd.prog 58 #[.func (.func 64) #[] #[.pointer (some ⟨w.heap.size, 0, none⟩)], .func (.func 60) #[] #[]] w1 (PostSo S w1)) := hid (sortedFunc_any w.heap.size g ns S w1 (hS.below hb1) hl (by rw [← HW1.out]; exact heap_alloc_new w _) hfew)
  rw [HW1.out] at C59
  clear hS hb1 hfew
  go_enter Tryd.func51, Tryd.ntmps51
  go_wp2_with fail
  refine C59.out.mono ?_
  rintro e w2 ⟨rfl, rfl⟩
  go_wp2_with fail
  refine C58.out.mono ?_
  rintro e w3 ⟨a, cap, xs, rfl, h1, h2, h3, h4⟩
  have H1 : Hid (Lst' S xs) := h1
  have H2 : Hid (xs.Pairwise (fun x y => ¬ Lib.bytesOf y < Lib.bytesOf x)) := h2
  have H3 : Hid (Pa w3 a cap xs) := h3
  have H4 : Hid (Below w.heap.size w w3) := hid (HB1.out.trans (h4.mono HB1.out.size))
  clear h1 h2 h3 h4
  go_wp2
  go_ret
  exact ⟨a, cap, xs, rfl, H1.out, H2.out, H3.out, H4.out⟩
end Go.Proofs.YtjgjeedablgmeaaDoor
