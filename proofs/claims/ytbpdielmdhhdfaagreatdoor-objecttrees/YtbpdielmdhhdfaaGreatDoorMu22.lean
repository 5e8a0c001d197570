import Derived.Test.YtbpdielmdhhdfaaGreatDoorMu18
import Derived.Test.YtbpdielmdhhdfaaGreatDoorMu21
import Derived.Test.YtbpdielmdhhdfaaGreatDoorMu17
import Derived.Shelf.SlSortCmp.NoneTotal
/- The document's tree: modes in digits, places. -/
namespace Go.Proofs.YtbpdielmdhhdfaaGreatDoor
open Go.RowKit
set_option linter.unusedVariables false
set_option linter.unusedSimpArgs false
/-- 3.2: a mode's digits. -/
def octB (m : Int) : List UInt8 := if m = 16384 then [52, 48, 48, 48, 48] else if m = 33188 then [49, 48, 48, 54, 52, 52] else if m = 33261 then [49, 48, 48, 55, 53, 53] else if m = 40960 then [49, 50, 48, 48, 48, 48] else []
theorem octB_nil (m : Int) : octB m = [] ↔ ¬ okM m := by
  unfold octB okM
  by_cases h1 : m = 16384
  · simp [h1]
  · by_cases h2 : m = 33188
    · simp [h2]
    · by_cases h3 : m = 33261
      · simp [h3]
      · by_cases h4 : m = 40960
        · simp [h4]
        · simp [h1, h2, h3, h4]
set_option maxRecDepth 20000 in
theorem octal_any (m : Int) (w : World) : Calls Tryz.prog 49 #[.int .i64 m] w fun e w' => e = .returned (.string ⟨(octB m).toArray⟩) ∧ w' = w := by
  by_cases h : okM m
  · rcases h with rfl | rfl | rfl | rfl
    all_goals
      go_enter Tryz.func49, Tryz.ntmps49
      go_wp2
      go_ret
      exact ⟨rfl, rfl⟩
  · have HM : Hid (octB m = []) := (octB_nil m).2 h
    have h1 : ¬ m = 16384 := fun e => h (Or.inl e)
    have h2 : ¬ m = 33188 := fun e => h (Or.inr (Or.inl e))
    have h3 : ¬ m = 33261 := fun e => h (Or.inr (Or.inr (Or.inl e)))
    have h4 : ¬ m = 40960 := fun e => h (Or.inr (Or.inr (Or.inr e)))
    rw [HM.out]
    clear h
    go_enter Tryz.func49, Tryz.ntmps49
    go_wp2
    go_ret
    exact ⟨rfl, rfl⟩
set_option maxRecDepth 20000 in
theorem key_any (e : Er) (hn : e.name.length ≤ 1000000) (hl : e.id.length = 20) (w : World) : Calls Tryz.prog 96 #[.agg (erV e).toArray] w fun r w' => r = .returned (.string ⟨(keyB e).toArray⟩) ∧ Grew w w' := by
  obtain ⟨S, HS⟩ : ∃ S : ByteArray, Hid (S = ⟨e.name.toArray⟩) := ⟨_, rfl⟩
  obtain ⟨m, HM⟩ : ∃ m, Hid (e.mode = m) := ⟨_, rfl⟩
  have hsz : S.size = e.name.length := by rw [HS.out]; simp [ByteArray.size]
  have hS1 : ¬ 9223372036854775807 < S.size + 1 := by omega
  have hS2 : ¬ 9223372036854775807 ≤ S.size := by omega
  have h47 : (⟨#[47]⟩ : ByteArray).size = 1 := rfl
  have HE : Hid (S ++ ⟨#[47]⟩ = ⟨(e.name ++ [47]).toArray⟩) := hid (by
    rw [HS.out, show (⟨#[47]⟩ : ByteArray) = ⟨[47].toArray⟩ from rfl]
    exact str_app _ _)
  have HG : Hid (∀ o, Grew w (w.alloc o)) := fun o => Grew.alloc w o
  obtain ⟨a0, a1, a2, a3, a4, a5, a6, a7, a8, a9, a10, a11, a12, a13, a14, a15, a16, a17, a18, a19, el⟩ := list20 e.id hl
  have HV : Hid ((erV e).toArray = (Value.int .i64 m :: Value.string S :: row .u8 [a0, a1, a2, a3, a4, a5, a6, a7, a8, a9, a10, a11, a12, a13, a14, a15, a16, a17, a18, a19]).toArray) := hid (by unfold erV; rw [HM.out, HS.out, el])
  rw [HV.out]
  clear el hl hn
  simp only [row, List.map_cons, List.map_nil]
  by_cases h : m = 16384
  · have HK : Hid (⟨(keyB e).toArray⟩ = S ++ ⟨#[47]⟩) := hid (by rw [HE.out]; unfold keyB; rw [HM.out, if_pos h])
    rw [HK.out]
    subst h
    go_enter Tryz.func96, Tryz.ntmps96
    go_wp2
    go_ret
    exact ⟨rfl, HG.out _⟩
  · have HK : Hid (⟨(keyB e).toArray⟩ = S) := hid (by rw [HS.out]; unfold keyB; rw [HM.out, if_neg h])
    rw [HK.out]
    go_enter Tryz.func96, Tryz.ntmps96
    go_wp2
    go_ret
    exact ⟨rfl, HG.out _⟩
end Go.Proofs.YtbpdielmdhhdfaaGreatDoor
/- A tree in bytes: plainly. -/
namespace Go.Proofs.YtbpdielmdhhdfaaGreatDoor
open Go.RowKit
set_option linter.unusedVariables false
set_option linter.unusedSimpArgs false
/-- 3.2: an entry's bytes. -/
def erB (x : Er) : List UInt8 := octB x.mode ++ 32 :: (x.name ++ 0 :: Lib.bytesOf x.id)
/-- 3.2: a tree's. -/
def treeB (es : List Er) : List UInt8 := es.flatMap erB
theorem treeB_cons (x : Er) (es : List Er) : treeB (x :: es) = erB x ++ treeB es := by simp [treeB]
theorem treeB_snoc (es : List Er) (x : Er) : treeB (es ++ [x]) = treeB es ++ erB x := by simp [treeB]
/-- Entries of which each can be one. -/
def okTr (u : List Er) : Prop := WfE u ∧ ∀ x ∈ u, okM x.mode ∧ okE x.name
theorem okTr_tail {x : Er} {u : List Er} (h : okTr (x :: u)) : okTr u := ⟨fun y hy => h.1 y (by simp [hy]), fun y hy => h.2 y (by simp [hy])⟩
theorem octB_len (m : Int) : (octB m).length ≤ 6 := by
  unfold octB
  repeat' split
  all_goals decide
theorem octB_ne (m : Int) : ∀ b ∈ octB m, b ≠ 32 ∧ b ≠ 0 := by
  unfold octB
  repeat' split
  all_goals decide
theorem octB_inj (m m' : Int) (h : okM m) (h' : okM m') (e : octB m = octB m') : m = m' := by
  rcases h with rfl | rfl | rfl | rfl <;> rcases h' with rfl | rfl | rfl | rfl <;> first | rfl | (exfalso; revert e; decide)
theorem erB_len (x : Er) : (erB x).length = (octB x.mode).length + x.name.length + x.id.length + 2 := by
  simp [erB, Lib.bytesOf_length]; omega
theorem treeB_len (es : List Er) (h : ∀ x ∈ es, x.name.length ≤ 50 ∧ x.id.length = 20) : (treeB es).length ≤ es.length * 78 := by
  induction es with
  | nil => simp [treeB]
  | cons x es ih =>
    rw [treeB_cons, List.length_append, erB_len, List.length_cons]
    have h1 := h x (by simp)
    have h2 := ih (fun y hy => h y (by simp [hy]))
    have h3 := octB_len x.mode
    omega
theorem nums_bytes (l : List Int) (h : ∀ n ∈ l, 0 ≤ n ∧ n < 256) : nums (Lib.bytesOf l) = l := nums_bytesOf l (fun x hx => h x hx)
/-- Where the text goes on when these have been read. -/
def Rb (l : List UInt8) (pre : List Er) (t : List UInt8) : Prop := ∀ u, okTr u → treeB u = l → ∃ u2, u = pre ++ u2 ∧ okTr u2 ∧ treeB u2 = t
theorem Rb.start (l : List UInt8) : Rb l [] l := fun u h e => ⟨u, rfl, h, e⟩
/-- What is known of an entry that was read of the front of a text. -/
def Rf (t : List UInt8) (x : Er) (r : List UInt8) : Prop := ∀ y r', okM y.mode → okE y.name → y.id.length = 20 → (∀ n ∈ y.id, 0 ≤ n ∧ n < 256) → t = erB y ++ r' → x = y ∧ r = r'
theorem Rb.step {l : List UInt8} {pre : List Er} {t : List UInt8} (h : Rb l pre t) (hne : t ≠ []) (x : Er) (r : List UInt8) (hx : Rf t x r) : Rb l (pre ++ [x]) r := by
  intro u hu e
  obtain ⟨u2, h1, h2, h3⟩ := h u hu e
  match u2, h1, h2, h3 with
  | [], _, _, h3 => exact absurd h3.symm (by simpa [treeB] using hne)
  | y :: u3, h1, h2, h3 =>
    rw [treeB_cons] at h3
    have hy := h2.1 y (by simp)
    have hy2 := h2.2 y (by simp)
    obtain ⟨rfl, rfl⟩ := hx y (treeB u3) hy2.1 hy2.2 hy.1 hy.2 h3.symm
    exact ⟨u3, by rw [h1]; simp, okTr_tail h2, rfl⟩
theorem Rb.done {l : List UInt8} {es : List Er} (h : Rb l es []) (u : List Er) (hu : okTr u) (e : treeB u = l) : es = u := by
  obtain ⟨u2, h1, h2, h3⟩ := h u hu e
  match u2, h1, h3 with
  | [], h1, _ => rw [h1]; simp
  | y :: u3, _, h3 =>
    rw [treeB_cons] at h3
    have := congrArg List.length h3
    rw [List.length_append, erB_len] at this
    simp at this
theorem okL_perm {x y : List Er} (h : x.Perm y) (ho : okL x) : okL y := ⟨fun a ha => ho.1 a (h.symm.subset ha), ((h.map (·.name)).nodup_iff).1 ho.2⟩
theorem okL_keys {es : List Er} (h : okL es) : (es.map keyB).Nodup := key_nodup es (fun x hx b hb => ((h.1 x hx).2.2.2.2.2.2 b hb).1) h.2
theorem srtE_srtE {es : List Er} (h : okL es) : srtE (srtE es) = srtE es :=
  (srtE_one (srtE es) (srtE es) (((srtE_perm es).map keyB).nodup_iff.2 (okL_keys h)) (List.Perm.refl _) (srtE_asc es)).symm
theorem wfE_perm {x y : List Er} (h : x.Perm y) (ho : WfE x) : WfE y := fun a ha => ho a (h.symm.subset ha)
theorem okTr_srt {es : List Er} (hw : WfE es) (h : okL es) : okTr (srtE es) := ⟨wfE_perm (srtE_perm es).symm hw, (okL_perm (srtE_perm es).symm h).1⟩
/-- What both readers say of bytes is one. -/
theorem read_good {l : List UInt8} {es ed : List Er} {b : Bool} (hw : WfE es) (hp : ∀ u, okTr u → treeB u = l → es = u) (ho : okL es) (he : treeB (srtE es) = l) (hd : ∀ u, okTr u → okL u → srtE u = u → treeB u = l → b = true ∧ ed = u) : b = true ∧ ed = es := by
  have h1 := hp (srtE es) (okTr_srt hw ho) he
  have h2 := hd (srtE es) (okTr_srt hw ho) (okL_perm (srtE_perm es).symm ho) (srtE_srtE ho) he
  exact ⟨h2.1, h2.2.trans h1.symm⟩
theorem read_bad {l : List UInt8} {es ed : List Er} (hp : ∀ u, okTr u → treeB u = l → es = u) (hno : ¬ (okL es ∧ treeB (srtE es) = l)) (hw : WfE ed) : ¬ (okL ed ∧ treeB (srtE ed) = l) := by
  rintro ⟨ho, he⟩
  have h1 := hp (srtE ed) (okTr_srt hw ho) he
  refine hno ⟨?_, ?_⟩
  · rw [h1]; exact okL_perm (srtE_perm ed).symm ho
  · rw [h1, srtE_srtE ho]; exact he
end Go.Proofs.YtbpdielmdhhdfaaGreatDoor
/- 'slices.SortedFunc' of entries. -/
namespace Go.Proofs.YtbpdielmdhhdfaaGreatDoor
open Go.RowKit Go.Shelf
variable [Inhabited Er]
set_option linter.unusedVariables false
set_option linter.unusedSectionVars false
set_option linter.unusedSimpArgs false
/-- An entry whose name is not long. -/
abbrev En := { e : Er // e.name.length ≤ 50 ∧ e.id.length = 20 }
variable [Inhabited En]
def encN (x : En) : List Value := erV x.1
def cfN (x y : En) : Int := cmpE x.1 y.1
theorem ltN (x y : En) : ltOf cfN x y = decide (keyB x.1 < keyB y.1) := by
  unfold ltOf cfN cmpE
  exact decide_eq_decide.2 (cb_iff _ _)
theorem swoN : Sort.SWO (ltOf cfN) where
  irrefl x := by rw [ltN]; exact decide_eq_false (lex_irrefl _)
  trans x y z h1 h2 := by
    rw [ltN] at *
    exact decide_eq_true (lex_trans _ _ _ (of_decide_eq_true h1) (of_decide_eq_true h2))
  ntrans x y z h1 h2 := by
    rw [ltN] at *
    exact decide_eq_false (lex_ntrans _ _ _ (of_decide_eq_false h1) (of_decide_eq_false h2))
theorem cmpLays45 (blk off size : Nat) (w : World) : CmpLays Tryz.prog 45 #[] encN 22 cfN blk off size w := fun m os dk _ x y => by
  have := byOrder_any x.1 y.1 (by have := x.2.1; omega) (by have := y.2.1; omega) x.2.2 y.2.2 (sortWorldK encN 22 w blk off m dk os)
  exact this
theorem enters45 : ∀ args w, (callFunc 45 args).run Tryz.prog w = .ok (.enter 45 args) w := enters_of Tryz.func45 (by kernel_rfl) rfl
theorem sort_any (blk off cap : Nat) (d : Array En) (w : World) (hH : Sort.HoldsK encN 22 w blk off d) (hblk : blk < w.heap.size) (hsz : d.size ≤ 1000) :
    Calls Tryz.prog 90 #[.slice (some ⟨blk, off, none⟩) d.size cap, .func (.func 45) #[] #[]] w fun e w' => e = .returned (.tuple #[]) ∧ ∃ d' n os, Sort.PermIn 0 d.size d d' ∧ Sort.SortedIn (ltOf cfN) 0 d.size d' ∧ w' = sortWorldK encN 22 w blk off n d' os :=
  AnyQ.slices_SortFunc Tryz.sortE 22 Tryz.isAgg51 Tryz.sizeOf51 encN (fun x => erV_len x.1 x.2.2) (fun x => erV_one x.1) cfN swoN 45 #[] blk off cap d w enters45 (cmpLays45 blk off d.size w) hH hblk (by omega)
theorem sort_none (p : Option Addr) (cap : Nat) (fv : Value) (w : World) : Calls Tryz.prog 90 #[.slice p 0 cap, fv] w fun e w' => e = .returned (.tuple #[]) ∧ w' = w :=
  AnyF.slices_SortFunc_none Tryz.sortE p cap fv w
/-- One cell of a row of entries. -/
theorem fE_at : ∀ (es : List Er) (h : ∀ x ∈ es, x.id.length = 20) (i j : Nat), i < es.length → j < 22 → (fE es)[i * 22 + j]? = (erV (es.getD i default))[j]?
  | [], _, i, j, h, _ => by simp at h
  | x :: es, h, 0, j, _, hj => by
    have hl : (erV x).length = 22 := erV_len x (h x (by simp))
    show (erV x ++ fE es)[0 * 22 + j]? = _
    rw [List.getElem?_append_left (by omega)]
    simp
  | x :: es, h, i + 1, j, hi, hj => by
    have hl : (erV x).length = 22 := erV_len x (h x (by simp))
    show (erV x ++ fE es)[(i + 1) * 22 + j]? = _
    rw [List.getElem?_append_right (by omega), hl, show (i + 1) * 22 + j - 22 = i * 22 + j by omega, fE_at es (fun y hy => h y (by simp [hy])) i j (by simpa using hi) hj]
    simp
end Go.Proofs.YtbpdielmdhhdfaaGreatDoor
