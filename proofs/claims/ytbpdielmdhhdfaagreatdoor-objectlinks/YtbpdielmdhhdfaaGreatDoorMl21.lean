import Derived.Test.YtbpdielmdhhdfaaGreatDoorMl19
import Derived.Test.YtbpdielmdhhdfaaGreatDoorMl20
import Derived.Test.YtbpdielmdhhdfaaGreatDoorMl08
import Derived.Test.YtbpdielmdhhdfaaGreatDoorMl18
import Derived.Test.YtbpdielmdhhdfaaGreatDoorMl01
import Derived.Deep.Onto
import Derived.Test.YtbpdielmdhhdfaaGreatDoorMl11
import Derived.Lib.AppendStr
import Derived.Maps.AppendAt
import Derived.Test.YtbpdielmdhhdfaaGreatDoorMl04
import Derived.Test.YtbpdielmdhhdfaaGreatDoorMl13
import Derived.Test.YtbpdielmdhhdfaaGreatDoorMl09
import Derived.Test.YtbpdielmdhhdfaaGreatDoorMl17
namespace Go.Proofs.YtbpdielmdhhdfaaGreatDoor
open Go.RowKit
set_option linter.unusedVariables false
set_option linter.unusedSimpArgs false
def octB (m : Int) : List UInt8 := if m = 16384 then [52, 48, 48, 48, 48] else if m = 33188 then [49, 48, 48, 54, 52, 52] else if m = 33261 then [49, 48, 48, 55, 53, 53] else if m = 40960 then [49, 50, 48, 48, 48, 48] else []
theorem octB_nil (m : Int) : octB m = [] ↔ ¬ okM m := by
  unfold octB okM
  by_cases h1 : m = 16384
  · simp [h1]
  · by_cases h2 : m = 33188
    · simp [h2]
    · by_cases h3 : m = 33261
      · simp [h3]
      · by_cases h4 : m = 40960
        · simp [h4]
        · simp [h1, h2, h3, h4]
set_option maxRecDepth 20000 in
theorem octal_any (m : Int) (w : World) : Calls Tryz.prog 49 #[.int .i64 m] w fun e w' => e = .returned (.string ⟨(octB m).toArray⟩) ∧ w' = w := by
  by_cases h : okM m
  · rcases h with rfl | rfl | rfl | rfl
    all_goals
      go_enter Tryz.func49, Tryz.ntmps49
      go_wp2
      go_ret
      exact ⟨rfl, rfl⟩
  · have HM : Hid (octB m = []) := (octB_nil m).2 h
    have h1 : ¬ m = 16384 := fun e => h (Or.inl e)
    have h2 : ¬ m = 33188 := fun e => h (Or.inr (Or.inl e))
    have h3 : ¬ m = 33261 := fun e => h (Or.inr (Or.inr (Or.inl e)))
    have h4 : ¬ m = 40960 := fun e => h (Or.inr (Or.inr (Or.inr e)))
    rw [HM.out]
    clear h
    go_enter Tryz.func49, Tryz.ntmps49
    go_wp2
    go_ret
    exact ⟨rfl, rfl⟩
set_option maxRecDepth 20000 in
theorem key_any (e : Er) (hn : e.name.length ≤ 1000000) (hl : e.id.length = 20) (w : World) : Calls Tryz.prog 96 #[.agg (erV e).toArray] w fun r w' => r = .returned (.string ⟨(keyB e).toArray⟩) ∧ Grew w w' := by
  obtain ⟨S, HS⟩ : ∃ S : ByteArray, Hid (S = ⟨e.name.toArray⟩) := ⟨_, rfl⟩
  obtain ⟨m, HM⟩ : ∃ m, Hid (e.mode = m) := ⟨_, rfl⟩
  have hsz : S.size = e.name.length := by rw [HS.out]; simp [ByteArray.size]
  have hS1 : ¬ 9223372036854775807 < S.size + 1 := by omega
  have hS2 : ¬ 9223372036854775807 ≤ S.size := by omega
  have h47 : (⟨#[47]⟩ : ByteArray).size = 1 := rfl
  have HE : Hid (S ++ ⟨#[47]⟩ = ⟨(e.name ++ [47]).toArray⟩) := hid (by
    rw [HS.out, show (⟨#[47]⟩ : ByteArray) = ⟨[47].toArray⟩ from rfl]
    exact str_app _ _)
  have HG : Hid (∀ o, Grew w (w.alloc o)) := fun o => Grew.alloc w o
  obtain ⟨a0, a1, a2, a3, a4, a5, a6, a7, a8, a9, a10, a11, a12, a13, a14, a15, a16, a17, a18, a19, el⟩ := list20 e.id hl
  have HV : Hid ((erV e).toArray = (Value.int .i64 m :: Value.string S :: row .u8 [a0, a1, a2, a3, a4, a5, a6, a7, a8, a9, a10, a11, a12, a13, a14, a15, a16, a17, a18, a19]).toArray) := hid (by unfold erV; rw [HM.out, HS.out, el])
  rw [HV.out]
  clear el hl hn
  simp only [row, List.map_cons, List.map_nil]
  by_cases h : m = 16384
  · have HK : Hid (⟨(keyB e).toArray⟩ = S ++ ⟨#[47]⟩) := hid (by rw [HE.out]; unfold keyB; rw [HM.out, if_pos h])
    rw [HK.out]
    subst h
    go_enter Tryz.func96, Tryz.ntmps96
    go_wp2
    go_ret
    exact ⟨rfl, HG.out _⟩
  · have HK : Hid (⟨(keyB e).toArray⟩ = S) := hid (by rw [HS.out]; unfold keyB; rw [HM.out, if_neg h])
    rw [HK.out]
    go_enter Tryz.func96, Tryz.ntmps96
    go_wp2
    go_ret
    exact ⟨rfl, HG.out _⟩
end Go.Proofs.YtbpdielmdhhdfaaGreatDoor
namespace Go.Proofs.YtbpdielmdhhdfaaGreatDoor
open Go.RowKit
set_option linter.unusedVariables false
set_option linter.unusedSimpArgs false
def erB (x : Er) : List UInt8 := octB x.mode ++ 32 :: (x.name ++ 0 :: Lib.bytesOf x.id)
def treeB (es : List Er) : List UInt8 := es.flatMap erB
theorem treeB_cons (x : Er) (es : List Er) : treeB (x :: es) = erB x ++ treeB es := by simp [treeB]
theorem treeB_snoc (es : List Er) (x : Er) : treeB (es ++ [x]) = treeB es ++ erB x := by simp [treeB]
def okTr (u : List Er) : Prop := WfE u ∧ ∀ x ∈ u, okM x.mode ∧ okE x.name
theorem okTr_tail {x : Er} {u : List Er} (h : okTr (x :: u)) : okTr u := ⟨fun y hy => h.1 y (by simp [hy]), fun y hy => h.2 y (by simp [hy])⟩
theorem octB_len (m : Int) : (octB m).length ≤ 6 := by
  unfold octB
  repeat' split
  all_goals decide
theorem octB_ne (m : Int) : ∀ b ∈ octB m, b ≠ 32 ∧ b ≠ 0 := by
  unfold octB
  repeat' split
  all_goals decide
theorem erB_len (x : Er) : (erB x).length = (octB x.mode).length + x.name.length + x.id.length + 2 := by
  simp [erB, Lib.bytesOf_length]; omega
theorem treeB_len (es : List Er) (h : ∀ x ∈ es, x.name.length ≤ 50 ∧ x.id.length = 20) : (treeB es).length ≤ es.length * 78 := by
  induction es with
  | nil => simp [treeB]
  | cons x es ih =>
    rw [treeB_cons, List.length_append, erB_len, List.length_cons]
    have h1 := h x (by simp)
    have h2 := ih (fun y hy => h y (by simp [hy]))
    have h3 := octB_len x.mode
    omega
theorem nums_bytes (l : List Int) (h : ∀ n ∈ l, 0 ≤ n ∧ n < 256) : nums (Lib.bytesOf l) = l := nums_bytesOf l (fun x hx => h x hx)
def Rb (l : List UInt8) (pre : List Er) (t : List UInt8) : Prop := ∀ u, okTr u → treeB u = l → ∃ u2, u = pre ++ u2 ∧ okTr u2 ∧ treeB u2 = t
theorem Rb.start (l : List UInt8) : Rb l [] l := fun u h e => ⟨u, rfl, h, e⟩
def Rf (t : List UInt8) (x : Er) (r : List UInt8) : Prop := ∀ y r', okM y.mode → okE y.name → y.id.length = 20 → (∀ n ∈ y.id, 0 ≤ n ∧ n < 256) → t = erB y ++ r' → x = y ∧ r = r'
theorem Rb.step {l : List UInt8} {pre : List Er} {t : List UInt8} (h : Rb l pre t) (hne : t ≠ []) (x : Er) (r : List UInt8) (hx : Rf t x r) : Rb l (pre ++ [x]) r := by
  intro u hu e
  obtain ⟨u2, h1, h2, h3⟩ := h u hu e
  match u2, h1, h2, h3 with
  | [], _, _, h3 => exact absurd h3.symm (by simpa [treeB] using hne)
  | y :: u3, h1, h2, h3 =>
    rw [treeB_cons] at h3
    have hy := h2.1 y (by simp)
    have hy2 := h2.2 y (by simp)
    obtain ⟨rfl, rfl⟩ := hx y (treeB u3) hy2.1 hy2.2 hy.1 hy.2 h3.symm
    exact ⟨u3, by rw [h1]; simp, okTr_tail h2, rfl⟩
theorem Rb.done {l : List UInt8} {es : List Er} (h : Rb l es []) (u : List Er) (hu : okTr u) (e : treeB u = l) : es = u := by
  obtain ⟨u2, h1, h2, h3⟩ := h u hu e
  match u2, h1, h3 with
  | [], h1, _ => rw [h1]; simp
  | y :: u3, _, h3 =>
    rw [treeB_cons] at h3
    have := congrArg List.length h3
    rw [List.length_append, erB_len] at this
    simp at this
theorem okL_perm {x y : List Er} (h : x.Perm y) (ho : okL x) : okL y := ⟨fun a ha => ho.1 a (h.symm.subset ha), ((h.map (·.name)).nodup_iff).1 ho.2⟩
theorem okL_keys {es : List Er} (h : okL es) : (es.map keyB).Nodup := key_nodup es (fun x hx b hb => ((h.1 x hx).2.2.2.2.2.2 b hb).1) h.2
theorem srtE_srtE {es : List Er} (h : okL es) : srtE (srtE es) = srtE es :=
  (srtE_one (srtE es) (srtE es) (((srtE_perm es).map keyB).nodup_iff.2 (okL_keys h)) (List.Perm.refl _) (srtE_asc es)).symm
theorem wfE_perm {x y : List Er} (h : x.Perm y) (ho : WfE x) : WfE y := fun a ha => ho a (h.symm.subset ha)
theorem okTr_srt {es : List Er} (hw : WfE es) (h : okL es) : okTr (srtE es) := ⟨wfE_perm (srtE_perm es).symm hw, (okL_perm (srtE_perm es).symm h).1⟩
theorem read_good {l : List UInt8} {es ed : List Er} {b : Bool} (hw : WfE es) (hp : ∀ u, okTr u → treeB u = l → es = u) (ho : okL es) (he : treeB (srtE es) = l) (hd : ∀ u, okTr u → okL u → srtE u = u → treeB u = l → b = true ∧ ed = u) : b = true ∧ ed = es := by
  have h1 := hp (srtE es) (okTr_srt hw ho) he
  have h2 := hd (srtE es) (okTr_srt hw ho) (okL_perm (srtE_perm es).symm ho) (srtE_srtE ho) he
  exact ⟨h2.1, h2.2.trans h1.symm⟩
theorem read_bad {l : List UInt8} {es ed : List Er} (hp : ∀ u, okTr u → treeB u = l → es = u) (hno : ¬ (okL es ∧ treeB (srtE es) = l)) (hw : WfE ed) : ¬ (okL ed ∧ treeB (srtE ed) = l) := by
  rintro ⟨ho, he⟩
  have h1 := hp (srtE ed) (okTr_srt hw ho) he
  refine hno ⟨?_, ?_⟩
  · rw [h1]; exact okL_perm (srtE_perm ed).symm ho
  · rw [h1, srtE_srtE ho]; exact he
end Go.Proofs.YtbpdielmdhhdfaaGreatDoor
namespace Go.Proofs.YtbpdielmdhhdfaaGreatDoor
open Go.RowKit
set_option linter.unusedVariables false
set_option linter.unusedSimpArgs false
def LPt (l : List UInt8) (er : Int) (ids : List (List Int)) : Prop := ∃ es : List Er, WfE es ∧ (∀ u, okTr u → treeB u = l → es = u) ∧ (((okL es ∧ treeB (srtE es) = l) ∧ er = 0 ∧ ids = es.map (·.id)) ∨ (¬ (okL es ∧ treeB (srtE es) = l) ∧ er = 21 ∧ ids = []))
def LPc (l : List UInt8) (er : Int) (ids : List (List Int)) : Prop := ∃ T, TC l T ∧ (((okC T ∧ cmB T = l) ∧ er = 0 ∧ ids = T.tree :: T.ids) ∨ (¬ (okC T ∧ cmB T = l) ∧ er = 22 ∧ ids = []))
def LPg (l : List UInt8) (er : Int) (ids : List (List Int)) : Prop := ∃ T, TG l T ∧ (((okG T ∧ tagB T = l) ∧ er = 0 ∧ ids = [T.id]) ∨ (¬ (okG T ∧ tagB T = l) ∧ er = 23 ∧ ids = []))
def LDt (l : List UInt8) (er : Int) (ids : List (List Int)) : Prop := ∃ (ed : List Er) (b : Bool), (b = true → WfE ed ∧ okL ed ∧ treeB (srtE ed) = l) ∧ (∀ u, okTr u → okL u → srtE u = u → treeB u = l → b = true ∧ ed = u) ∧ ((b = true ∧ er = 0 ∧ ids = ed.map (·.id)) ∨ (b = false ∧ er = 21 ∧ ids = []))
def LDc (l : List UInt8) (er : Int) (ids : List (List Int)) : Prop := ∃ (t : Cm) (b : Bool), WfC t ∧ (b = true → okC t ∧ cmB t = l) ∧ (∀ u : Cm, WfC u → okC u → cmB u = l → b = true) ∧ ((b = true ∧ er = 0 ∧ ids = t.tree :: t.ids) ∨ (b = false ∧ er = 22 ∧ ids = []))
def LDg (l : List UInt8) (er : Int) (ids : List (List Int)) : Prop := ∃ (t : Tg) (b : Bool), Wf t ∧ (b = true → okG t ∧ tagB t = l) ∧ (∀ u : Tg, Wf u → okG u → tagB u = l → b = true) ∧ ((b = true ∧ er = 0 ∧ ids = [t.id]) ∨ (b = false ∧ er = 23 ∧ ids = []))
theorem same_t {l : List UInt8} {er er' : Int} {ids ids' : List (List Int)} (h : LPt l er ids) (h' : LDt l er' ids') : er' = er ∧ ids' = ids := by
  obtain ⟨es, h1, h2, h3⟩ := h
  obtain ⟨ed, b, k1, k2, k3⟩ := h'
  rcases h3 with ⟨⟨ho, he⟩, rfl, rfl⟩ | ⟨hno, rfl, rfl⟩
  · obtain ⟨rfl, rfl⟩ := read_good h1 h2 ho he k2
    rcases k3 with ⟨_, rfl, rfl⟩ | ⟨hb, _⟩
    · exact ⟨rfl, rfl⟩
    · cases hb
  · rcases k3 with ⟨hb, _⟩ | ⟨_, rfl, rfl⟩
    · obtain ⟨g1, g2, g3⟩ := k1 hb
      exact absurd ⟨g2, g3⟩ (read_bad h2 hno g1)
    · exact ⟨rfl, rfl⟩
theorem tc_wf {l : List UInt8} {T : Cm} (h : TC l T) : WfC T := by obtain ⟨h1, r, h2, _⟩ := h; exact ⟨⟨h1.1, h1.2.1⟩, h2.wf⟩
theorem tg_wf {l : List UInt8} {T : Tg} (h : TG l T) : Wf T := ⟨h.1.1, h.1.2.1⟩
theorem same_c {l : List UInt8} {er er' : Int} {ids ids' : List (List Int)} (h : LPc l er ids) (h' : LDc l er' ids') : er' = er ∧ ids' = ids := by
  obtain ⟨T, h1, h3⟩ := h
  obtain ⟨t, b, k0, k1, k2, k3⟩ := h'
  rcases h3 with ⟨⟨ho, he⟩, rfl, rfl⟩ | ⟨hno, rfl, rfl⟩
  · have hb := k2 T (tc_wf h1) ho he
    subst hb
    obtain ⟨g1, g2⟩ := k1 rfl
    have htT := cm_back t T k0 g1 (by rw [g2]; exact h1)
    rcases k3 with ⟨_, rfl, rfl⟩ | ⟨hb, _⟩
    · exact ⟨rfl, by rw [htT]⟩
    · cases hb
  · rcases k3 with ⟨hb, _⟩ | ⟨_, rfl, rfl⟩
    · obtain ⟨g1, g2⟩ := k1 hb
      have htT := cm_back t T k0 g1 (by rw [g2]; exact h1)
      rw [htT] at hno
      exact absurd ⟨g1, g2⟩ hno
    · exact ⟨rfl, rfl⟩
theorem same_g {l : List UInt8} {er er' : Int} {ids ids' : List (List Int)} (h : LPg l er ids) (h' : LDg l er' ids') : er' = er ∧ ids' = ids := by
  obtain ⟨T, h1, h3⟩ := h
  obtain ⟨t, b, k0, k1, k2, k3⟩ := h'
  rcases h3 with ⟨⟨ho, he⟩, rfl, rfl⟩ | ⟨hno, rfl, rfl⟩
  · have hb := k2 T (tg_wf h1) ho he
    subst hb
    obtain ⟨g1, g2⟩ := k1 rfl
    have htT := tg_back t T k0.1 k0.2 g1 (by rw [g2]; exact h1)
    rcases k3 with ⟨_, rfl, rfl⟩ | ⟨hb, _⟩
    · exact ⟨rfl, by rw [htT]⟩
    · cases hb
  · rcases k3 with ⟨hb, _⟩ | ⟨_, rfl, rfl⟩
    · obtain ⟨g1, g2⟩ := k1 hb
      have htT := tg_back t T k0.1 k0.2 g1 (by rw [g2]; exact h1)
      rw [htT] at hno
      exact absurd ⟨g1, g2⟩ hno
    · exact ⟨rfl, rfl⟩
def LP (k : Int) (n : Nat) (l : List UInt8) (er : Int) (ids : List (List Int)) : Prop :=
  (errE k n ≠ 0 ∧ er = errE k n ∧ ids = []) ∨ (errE k n = 0 ∧ ((k = 3 ∧ er = 0 ∧ ids = []) ∨ (k = 2 ∧ LPt l er ids) ∨ (k = 1 ∧ LPc l er ids) ∨ (k = 4 ∧ LPg l er ids)))
def LD (k : Int) (n : Nat) (l : List UInt8) (er : Int) (ids : List (List Int)) : Prop :=
  (errE k n ≠ 0 ∧ er = errE k n ∧ ids = []) ∨ (errE k n = 0 ∧ ((k = 3 ∧ er = 0 ∧ ids = []) ∨ (k = 2 ∧ LDt l er ids) ∨ (k = 1 ∧ LDc l er ids) ∨ (k = 4 ∧ LDg l er ids)))
theorem same_lk {k : Int} {n : Nat} {l : List UInt8} {er er' : Int} {ids ids' : List (List Int)} (h : LP k n l er ids) (h' : LD k n l er' ids') : er' = er ∧ ids' = ids := by
  rcases h with ⟨h0, rfl, rfl⟩ | ⟨h0, h⟩
  · rcases h' with ⟨_, rfl, rfl⟩ | ⟨h1, _⟩
    · exact ⟨rfl, rfl⟩
    · exact absurd h1 h0
  · rcases h' with ⟨h1, _⟩ | ⟨_, h'⟩
    · exact absurd h0 h1
    · rcases h with ⟨rfl, rfl, rfl⟩ | ⟨rfl, h⟩ | ⟨rfl, h⟩ | ⟨rfl, h⟩ <;> rcases h' with ⟨h2, h3, h4⟩ | ⟨h2, h3⟩ | ⟨h2, h3⟩ | ⟨h2, h3⟩ <;> first
        | exact ⟨h3, h4⟩
        | exact same_t h h3
        | exact same_c h h3
        | exact same_g h h3
        | (exfalso; omega)
theorem kind_of {k : Int} {n : Nat} (h : errE k n = 0) : k = 1 ∨ k = 2 ∨ k = 3 ∨ k = 4 := by
  by_cases h1 : k = 1
  · exact .inl h1
  by_cases h2 : k = 2
  · exact .inr (.inl h2)
  by_cases h3 : k = 3
  · exact .inr (.inr (.inl h3))
  by_cases h4 : k = 4
  · exact .inr (.inr (.inr h4))
  exfalso
  have e : kN k = ⟨#[]⟩ := by
    unfold kN
    rw [if_neg (by simpa using h1), if_neg (by simpa using h2), if_neg (by simpa using h3), if_neg (by simpa using h4)]
  unfold errE at h
  rw [e, if_pos (by rw [Lib.toList_data]; rfl)] at h
  exact absurd h (by decide)
end Go.Proofs.YtbpdielmdhhdfaaGreatDoor
namespace Go.Proofs.YtbpdielmdhhdfaaGreatDoor
open Go.RowKit
set_option linter.unusedVariables false
set_option linter.unusedSimpArgs false
theorem Sl.from {w : World} {a : Option Addr} {cap : Nat} {l : List Int} (h : Sl w a cap l) (j : Nat) (hj : j ≤ l.length) (h0 : 0 < l.length) : Sl w (if cap = j then a else a.map (fun x => x.add j)) (cap - j) (l.drop j) := by
  obtain ⟨b, off, rfl, e2, e3⟩ := h.at_ h0
  have hc := h.capl
  refine ⟨by rw [List.length_drop]; omega, fun h1 => ?_, fun e => by split at e <;> cases e⟩
  rw [List.length_drop] at h1
  rw [if_neg (by omega)]
  refine ⟨b, off + j, by rw [Option.map_some, addr_add], e2, fun i hi => ?_⟩
  rw [List.length_drop] at hi
  rw [Nat.add_assoc, e3 (j + i) (by omega)]
  simp [List.getD_eq_getElem?_getD, List.getElem?_drop]
end Go.Proofs.YtbpdielmdhhdfaaGreatDoor
namespace Go.Proofs.YtbpdielmdhhdfaaGreatDoor
open Go.RowKit
set_option linter.unusedVariables false
set_option linter.unusedSimpArgs false
structure Bd (w0 w : World) (B : Nat) (v : Value) (out : List Int) : Prop where
  below : Below B w0 w
  own : w.ownsRow B 5 1 v out.length (out.map (Value.int .u8))
  le : B ≤ w.heap.size
theorem Bd.alloc {w0 w : World} {B : Nat} {v : Value} {out : List Int} (h : Bd w0 w B v out) (o : Obj) : Bd w0 (w.alloc o) B v out :=
  ⟨h.below.alloc h.le o, h.own.alloc o, Nat.le_trans h.le (by simp)⟩
theorem bd_nil (w : World) (B : Nat) (h : B ≤ w.heap.size) : Bd w w B (.slice none 0 0) [] := ⟨Below.refl _ _, ⟨rfl, .inl ⟨rfl, rfl⟩⟩, h⟩
theorem sl_one (w : World) (c : Int) : Sl (w.alloc (.cells #[.int .u8 c] 5)) (some ⟨w.heap.size, 0, none⟩) 1 [c] :=
  ⟨by simp, fun _ => ⟨w.heap.size, 0, rfl, by simp, fun i hi => by
    have : i = 0 := by simpa using hi
    subst this
    simp⟩, fun h => by cases h⟩
theorem strCells_nums (l : List UInt8) : Lib.strCells ⟨l.toArray⟩ = (nums l).map (Value.int .u8) := by simp [Lib.strCells, nums]
section
variable {w w0 : World} {ops : Array Oper} {rest : List Oper} {o : Oper} {a : Act} {Q : Exit → Act → World → Prop}
theorem wpList_bd_str (hgd : o.guard = none) (s x : Operand) (ho : o.op = .call { callee := .builtin .append, args := #[s, x], argTypes := #[23, 9] }) (B : Nat) (v : Value) (out : List Int) (hs : a.eval s = v) (h : Bd w0 w B v out)
    (l : List UInt8) (hx : a.eval x = .string ⟨l.toArray⟩) (hl : out.length + l.length ≤ 1000000)
    (hK : ∀ v' w', Bd w0 w' B v' (out ++ nums l) → wpList Tryz.prog ops Q rest (a.put o.dst v') w') : wpList Tryz.prog ops Q (o :: rest) a w := by
  obtain ⟨i5, hi, hz0, hz1, hz2⟩ := info_parts Tryz.info5
  have hsz : (⟨l.toArray⟩ : ByteArray).size = l.length := by simp [ByteArray.size]
  refine Lib.wpList_append_own_string w hgd s x 23 9 ho B 5 i5 Tryz.underlying23 Tryz.underlying9 hi hz0 hz1 hz2 v out.length _ hs h.own ⟨l.toArray⟩ hx (by rw [hsz]; unfold maxLen; omega) (by rw [hsz]; omega) h.le ?_
  intro v' w' h1 h2 h3
  refine hK v' w' ⟨h.below.grown h2 h.le (fun k hk => (own_lt h.own k hk).1), ?_, Nat.le_trans h.le h2.size⟩
  rw [List.length_append, nums_len, List.map_append, ← strCells_nums]
  rw [hsz] at h1
  exact h1
theorem wpList_bd_sl (hgd : o.guard = none) (s x : Operand) (ho : o.op = .call { callee := .builtin .append, args := #[s, x], argTypes := #[23, 23] }) (B : Nat) (v : Value) (out : List Int) (hs : a.eval s = v) (h : Bd w0 w B v out)
    (ax : Option Addr) (cx : Nat) (l : List Int) (hx : a.eval x = .slice ax l.length cx) (hS : Sl w ax cx l) (hl : out.length + l.length ≤ 1000000)
    (hK : ∀ v' w', Bd w0 w' B v' (out ++ l) → wpList Tryz.prog ops Q rest (a.put o.dst v') w') : wpList Tryz.prog ops Q (o :: rest) a w := by
  obtain ⟨i5, hi, hz0, hz1, hz2⟩ := info_parts Tryz.info5
  cases ax with
  | none =>
    have hc : cx = 0 := hS.nil rfl
    have hcl := hS.capl
    obtain rfl : l = [] := List.length_eq_zero_iff.1 (by omega)
    subst hc
    refine wpList_plain hgd fun K hK' => ?_
    have hr := run_append_owned_none (P := Tryz.prog) w B 23 o.type 5 i5 1 Tryz.underlying23 hi v _ _ h.own
    unfold Oper.wp execOp
    simp only [List.length_nil] at hx
    simp only [ho, resolve, invoke, builtin, Sem.run_bind, Sem.run_pure, Result.andThen_ok, List.map_toArray, List.map_cons, List.map_nil, hs, hx, hr]
    exact hK' _ _ (hK v w (by simpa using h))
  | some ad =>
    refine wpList_append_own_at w hgd s x 23 ho B 5 i5 (.int .u8 0) 1 1 Tryz.underlying23 hi hz0 hz1 hz2 rfl (by decide) v _ _ hs h.own ad l.length cx (l.map (Value.int .u8)) hx (by simp) ?_ (ints_oneCell .u8 l) (by unfold maxLen; omega) (by omega) h.le ?_
    · intro j z hj
      rw [List.getElem?_map] at hj
      cases hc : l[j]? with
      | none => rw [hc] at hj; cases hj
      | some y =>
        rw [hc] at hj; cases hj
        have hlt := (List.getElem?_eq_some_iff.1 hc).1
        obtain ⟨b, off, e1, e2, e3⟩ := hS.at_ (by omega)
        cases e1
        have := e3 j hlt
        rw [addr_add]
        simpa [List.getD_eq_getElem?_getD, hc] using this
    · intro v' w' h1 h2 h3 h4
      refine hK v' w' ⟨h.below.grown h2 h.le (fun k hk => (own_lt h.own k hk).1), ?_, Nat.le_trans h.le h2.size⟩
      rw [List.length_append, List.map_append]
      exact h1
end
end Go.Proofs.YtbpdielmdhhdfaaGreatDoor
namespace Go.Proofs.YtbpdielmdhhdfaaGreatDoor
open Go.RowKit
set_option linter.unusedVariables false
set_option linter.unusedSimpArgs false
def PostR (k : Int) (zs : List Int) (w : World) (e : Ending) (w' : World) : Prop :=
  Below w.heap.size w w' ∧ ((errE k zs.length ≠ 0 ∧ e = .returned (.tuple #[.slice none 0 0, .int .i64 (errE k zs.length)])) ∨
    (errE k zs.length = 0 ∧ ∃ g cap' : Nat, e = .returned (.tuple #[.slice (some ⟨g, 0, none⟩) (encZ k zs).length cap', .int .i64 0]) ∧ w.heap.size ≤ g ∧ g < w'.heap.size ∧ At w' g 0 (encZ k zs) ∧ (encZ k zs).length ≤ cap'))
theorem Bd.carry {w0 w w' : World} {B : Nat} {v : Value} {out : List Int} (h : Bd w0 w B v out) (hb : Below w.heap.size w w') : Bd w0 w' B v out :=
  ⟨h.below.trans (hb.mono h.le), h.own.kept (row := none) ⟨hb.os, hb.tape, hb.output, hb.size, fun k hk _ => hb.block k hk⟩ (by cases h : v.ownBlock <;> simp), Nat.le_trans h.le hb.size⟩
theorem bd_form {w0 w : World} {B : Nat} {v : Value} {out : List Int} (h : Bd w0 w B v out) (h0 : 0 < out.length) : ∃ g cap, v = .slice (some ⟨g, 0, none⟩) out.length cap ∧ B ≤ g ∧ g < w.heap.size ∧ At w g 0 out ∧ out.length ≤ cap := by
  obtain ⟨g, cap, rfl, h1, h2⟩ := h.own.form h0
  refine ⟨g, cap, rfl, h1, h2, ?_, ?_⟩
  · intro i hi
    rw [Nat.zero_add, h.own.cellAt i (by simpa using hi), List.getElem?_map, List.getElem?_eq_getElem hi]
    simp [List.getD_eq_getElem?_getD, List.getElem?_eq_getElem hi]
  · obtain ⟨_, ⟨hv, _⟩ | ⟨g2, cap2, cur, hv, _, _, hnc, _⟩⟩ := h.own
    · cases hv
    · simp only [Value.slice.injEq] at hv
      omega
theorem errE_20 (k : Int) (n : Nat) (h : (kN k).toList.isEmpty = true) : errE k n = 20 := by unfold errE; rw [if_pos h]
theorem errE_11 (k : Int) (n : Nat) (h : ¬ (kN k).toList.isEmpty = true) (h2 : 100000 < n) : errE k n = 11 := by unfold errE; rw [if_neg h, if_pos h2]
theorem errE_0 (k : Int) (n : Nat) (h : ¬ (kN k).toList.isEmpty = true) (h2 : ¬ 100000 < n) : errE k n = 0 := by unfold errE; rw [if_neg h, if_neg h2]
set_option maxRecDepth 20000 in
set_option maxHeartbeats 2000000 in
theorem refEncode_any (k : Int) (a : Option Addr) (cap : Nat) (zs : List Int) (w : World) (hl : zs.length ≤ 300000) (hS : Sl w a cap zs) :
    Calls Tryz.prog 14 #[.agg #[.int .i64 k, .slice a zs.length cap]] w (PostR k zs w) := by
  obtain ⟨n, HN⟩ : ∃ n, Hid (zs.length = n) := ⟨_, rfl⟩
  obtain ⟨S, HSS⟩ : ∃ S : ByteArray, Hid (kN k = S) := ⟨_, rfl⟩
  have HK : Hid (∀ w, Calls Tryz.prog 37 #[.int .i64 k] w fun e w' => e = .returned (.string S) ∧ w' = w) := fun w => by rw [← HSS.out]; exact name_any k w
  have hln : n ≤ 300000 := by rw [← HN.out]; exact hl
  obtain ⟨G, HG⟩ : ∃ G, Hid (w.heap.size = G) := ⟨_, rfl⟩
  obtain ⟨w0, HW0⟩ : ∃ w0, Hid (w.alloc (.cells #[.int .i64 k, .slice a n cap] 39) = w0) := ⟨_, rfl⟩
  have HB0 : Hid (Below G w w0) := hid (by rw [← HW0.out, ← HG.out]; exact (Below.refl _ w).alloc (Nat.le_refl _) _)
  have hs0 : w0.heap.size = G + 1 := by rw [← HW0.out, ← HG.out]; simp
  have hc0 : w0.cell? ⟨G, 0, none⟩ = some (.int .i64 k) := by rw [← HW0.out, ← HG.out]; simp
  have hc1 : w0.cell? ⟨G, 1, none⟩ = some (.slice a n cap) := by rw [← HW0.out, ← HG.out]; simp
  rw [HN.out]
  by_cases he : S.toList.isEmpty = true
  · have hE : errE k zs.length = 20 := errE_20 k _ (by rw [HSS.out]; exact he)
    go_enter Tryz.func14, Tryz.ntmps14
    go_wp2_with fail
    rw [HG.out, HW0.out]
    refine (HK.out _).mono ?_
    rintro ev w' ⟨rfl, rfl⟩
    go_wp2
    go_ret2
    refine ⟨by rw [HG.out]; exact HB0.out, .inl ⟨by rw [hE]; decide, ?_⟩⟩
    rw [hE]
    rfl
  · by_cases h2 : 100000 < n
    · have hE : errE k zs.length = 11 := errE_11 k _ (by rw [HSS.out]; exact he) (by rw [HN.out]; exact h2)
      have h2i : (100000 : Int) < n := by omega
      go_enter Tryz.func14, Tryz.ntmps14
      go_wp2_with fail
      rw [HG.out, HW0.out]
      refine (HK.out _).mono ?_
      rintro ev w' ⟨rfl, rfl⟩
      go_wp2
      go_ret2
      refine ⟨by rw [HG.out]; exact HB0.out, .inl ⟨by rw [hE]; decide, ?_⟩⟩
      rw [hE]
      rfl
    · have hE : errE k zs.length = 0 := errE_0 k _ (by rw [HSS.out]; exact he) (by rw [HN.out]; exact h2)
      have h2i : ¬ (100000 : Int) < n := by omega
      obtain ⟨L1, HL1⟩ : ∃ L1 : List UInt8, Hid (L1 = (kN k).data.toList) := ⟨_, rfl⟩
      have hL1 : L1.length ≤ 6 := by rw [HL1.out]; exact kN_len k
      have hSL : S = ⟨L1.toArray⟩ := by rw [HL1.out, ← HSS.out]
      have hL1e : L1.isEmpty = false := by
        have h := he
        rw [hSL, Lib.toList_data] at h
        simpa using h
      obtain ⟨L2, HL2⟩ : ∃ L2 : List UInt8, Hid (L2 = Lib.decDigits n) := ⟨_, rfl⟩
      have hL2 : L2.length ≤ 6 := by rw [HL2.out]; exact dig_len 5 n (by omega)
      have HD : Hid (∀ w, Calls Tryz.prog 38 #[.int .i64 n] w fun e w' => e = .returned (.string ⟨L2.toArray⟩) ∧ Below w.heap.size w w') := fun w => by rw [HL2.out]; exact decimal_any n (by omega) w
      have HSl : Hid (∀ W, Below G w W → Sl W a cap zs) := fun W hW => hS.below (by rw [HG.out]; exact hW)
      clear hS
      go_enter Tryz.func14, Tryz.ntmps14
      go_wp2_with fail
      rw [HG.out, HW0.out]
      refine (HK.out _).mono ?_
      rintro ev w' ⟨rfl, rfl⟩
      have hbd0 : Bd w' w' (G + 1) (.slice none 0 0) [] := bd_nil w' (G + 1) (by omega)
      have HC : Hid (∀ W, Below (G + 1) w' W → W.cell? ⟨G, 1, none⟩ = some (.slice a n cap)) := fun W hW => (hW.cell (p := ⟨G, 1, none⟩) (show G < G + 1 by omega)).trans hc1
      go_wp2_with (first
        | (at_builtin; refine wpList_bd_str rfl _ _ rfl (G + 1) _ _ rfl hbd0 L1 rfl (by simp; omega) ?_; intro v1 w1 hbd1; clear hbd0)
        | (at_builtin; refine wpList_bd_sl rfl _ _ rfl (G + 1) _ _ rfl (hbd1.alloc _) _ _ [32] rfl (sl_one _ _) (by simp [nums_len]; omega) ?_; intro v2 w2 hbd2; clear hbd1; have hcw2 := HC.out w2 hbd2.below)
        | (go_at_call 38; refine (HD.out _).mono ?_; rintro ev w3 ⟨rfl, hb3⟩; have hbd3 := hbd2.carry hb3; clear hbd2 hb3 hcw2)
        | (at_builtin; refine wpList_bd_str rfl _ _ rfl (G + 1) _ _ rfl hbd3 L2 rfl (by simp [nums_len]; omega) ?_; intro v4 w4 hbd4; clear hbd3)
        | (at_builtin; refine wpList_bd_sl rfl _ _ rfl (G + 1) _ _ rfl (hbd4.alloc _) _ _ [0] rfl (sl_one _ _) (by simp [nums_len]; omega) ?_; intro v5 w5 hbd5; clear hbd4; have hcw5 := HC.out w5 hbd5.below)
        | (at_builtin; refine wpList_bd_sl rfl _ _ rfl (G + 1) _ _ rfl hbd5 a cap zs (by rw [HN.out]; rfl) (HSl.out _ (HB0.out.trans (hbd5.below.mono (by omega)))) (by simp [nums_len]; omega) ?_; intro v6 w6 hbd6; clear hbd5 hcw5))
      go_ret2
      have hout : [] ++ nums L1 ++ [32] ++ nums L2 ++ [0] ++ zs = encZ k zs := by
        unfold encZ hd h0
        rw [HN.out, ← HL1.out, ← HL2.out]
        simp [nums]
      rw [hout] at hbd6
      obtain ⟨g, c6, rfl, h1, h3, h4, h5⟩ := bd_form hbd6 (by rw [← hout]; simp; omega)
      exact ⟨by rw [HG.out]; exact HB0.out.trans (hbd6.below.mono (by omega)), .inr ⟨hE, g, c6, rfl, by rw [HG.out]; omega, h3, h4, h5⟩⟩
end Go.Proofs.YtbpdielmdhhdfaaGreatDoor
namespace Go.Proofs.YtbpdielmdhhdfaaGreatDoor
open Go.RowKit
set_option linter.unusedVariables false
set_option linter.unusedSimpArgs false
theorem Sl.grown {w w' : World} {a : Option Addr} {cap : Nat} {l : List Int} {r : Option Nat} (h : Sl w a cap l) (hg : w.grownBy w' r) (hne : ∀ b off, a = some ⟨b, off, none⟩ → some b ≠ r) : Sl w' a cap l :=
  ⟨h.capl, fun h0 => by
    obtain ⟨b, off, e1, e2, e3⟩ := h.at_ h0
    exact ⟨b, off, e1, Nat.lt_of_lt_of_le e2 hg.size, fun i hi => (World.cell?_of_block (a := ⟨b, off + i, none⟩) (hg.block b e2 (hne b off e1))).trans (e3 i hi)⟩, h.nil⟩
structure Lw (w : World) : Prop where
  tab : Tab w
  mx : Mx w
  hand : w.cell? ⟨0, 0, none⟩ = some (.iface 188 (.agg #[.pointer (some ⟨9, 28, none⟩)]))
theorem cell_lt0 {w : World} {a : Addr} {v : Value} (h : w.cell? a = some v) : a.block < w.heap.size := by
  rcases Nat.lt_or_ge a.block w.heap.size with h' | h'
  · exact h'
  · simp [World.cell?, Array.getElem?_eq_none h'] at h
theorem Lw.below {w w' : World} (h : Lw w) (hb : Below w.heap.size w w') : Lw w' :=
  ⟨h.tab.below hb, h.mx.below hb, (hb.cell (p := ⟨0, 0, none⟩) (cell_lt0 h.hand)).trans h.hand⟩
end Go.Proofs.YtbpdielmdhhdfaaGreatDoor
namespace Go.Proofs.YtbpdielmdhhdfaaGreatDoor
open Go.RowKit
set_option linter.unusedVariables false
set_option linter.unusedSimpArgs false
theorem Tryz.results13 : Tryz.f13.results = #[.cell 2 39] := by kernel_rfl
theorem Tryz.size39 : (Tryz.prog.info? 39).map (·.size) = some 2 := by kernel_rfl
theorem zero31 (w : World) : (zeroValue 31).run Tryz.prog w = .ok (.agg (row .u8 z20).toArray) w := by kernel_rfl
set_option maxRecDepth 20000 in
theorem theirs_any (k : Int) (a : Option Addr) (n cap : Nat) (w : World) : Calls Tryz.prog 13 #[.agg #[.int .i64 k, .slice a n cap]] w fun e w' => e = .returned (.agg #[.int .i64 k, .slice a n cap]) ∧ Below w.heap.size w w' := by
  have HB : Hid (∀ o1 o2, Below w.heap.size w ((w.alloc o1).alloc o2)) := fun o1 o2 => ((Below.refl _ w).alloc (Nat.le_refl _) _).alloc (by simp) _
  go_enter Tryz.func13, Tryz.ntmps13
  go_wp2
  have hr : World.rangeAt ((w.alloc (.cells #[.int .i64 k, .slice a n cap] 25)).alloc (.cells #[.int .i64 k, .slice a n cap] 39)) (w.heap.size + 1) 0 [.int .i64 k, .slice a n cap] := by
    have := heap_alloc_new (w.alloc (.cells #[.int .i64 k, .slice a n cap] 25)) (.cells #[.int .i64 k, .slice a n cap] 39)
    simp only [World.size_alloc] at this
    exact range_row this
  exact bodyPost_ret (v := .agg #[.int .i64 k, .slice a n cap]) (results_mid Tryz.results13 _ _ (w.heap.size + 1) _ _ rfl hr Tryz.underlying39 rfl Tryz.size39) rfl ⟨rfl, HB.out _ _⟩
end Go.Proofs.YtbpdielmdhhdfaaGreatDoor
namespace Go.Proofs.YtbpdielmdhhdfaaGreatDoor
open Go.RowKit
set_option linter.unusedVariables false
set_option linter.unusedSimpArgs false
theorem tell_any (er : Int) (w : World) (hw : Lw w) : Calls Tryz.prog 11 #[errV er] w fun e w' => e = .returned (.int .i64 er) ∧ Below w.heap.size w w' := by
  unfold errV
  by_cases h : er = 0
  · rw [if_pos h, h]; exact tell_nil w
  · rw [if_neg h]; exact tell_errno er w hw.hand
structure Fx (w : World) (k : Int) (a : Option Addr) (n cap : Nat) (W : World) : Prop where
  below : Below w.heap.size w W
  c0 : W.cell? ⟨w.heap.size, 0, none⟩ = some (.int .i64 k)
  c1 : W.cell? ⟨w.heap.size, 1, none⟩ = some (.slice a n cap)
  lt : w.heap.size < W.heap.size
theorem Fx.step {w W W' : World} {k : Int} {a : Option Addr} {n cap r : Nat} (h : Fx w k a n cap W) (hg : W.grownBy W' (some r)) (hr : w.heap.size < r) : Fx w k a n cap W' :=
  ⟨h.below.grown hg (Nat.le_of_lt h.lt) (fun q hq => by cases hq; omega), (World.cell?_of_block (a := ⟨w.heap.size, 0, none⟩) (hg.block _ h.lt (by simp; omega))).trans h.c0,
    (World.cell?_of_block (a := ⟨w.heap.size, 1, none⟩) (hg.block _ h.lt (by simp; omega))).trans h.c1, Nat.lt_of_lt_of_le h.lt hg.size⟩
theorem Fx.on {w W W' : World} {k : Int} {a : Option Addr} {n cap : Nat} (h : Fx w k a n cap W) (hb : Below W.heap.size W W') : Fx w k a n cap W' := h.step (r := w.heap.size + 1) (grown_of_below hb _) (by omega)
theorem range_step {W W' : World} {g r : Nat} {cs : List Value} (h : W.rangeAt g 0 cs) (hg : W.grownBy W' (some r)) (hlt : g < W.heap.size) (hne : g ≠ r) : W'.rangeAt g 0 cs := fun j v hv =>
  (World.cell?_of_block (a := ⟨g, 0 + j, none⟩) (hg.block g hlt (by simp; exact hne))).trans (h j v hv)
end Go.Proofs.YtbpdielmdhhdfaaGreatDoor
namespace Go.Proofs.YtbpdielmdhhdfaaGreatDoor
open Go.RowKit
set_option linter.unusedVariables false
set_option linter.unusedSimpArgs false
set_option maxRecDepth 20000 in
theorem run_build32 (x : List Int) (h : x.length = 20) (w : World) : (Instr.buildSlice 56 1 #[(0, .agg (row .u8 x).toArray)]).run Tryz.prog w = .ok (.slice (some ⟨w.heap.size, 0, none⟩) 1 1) (w.alloc (.cells (row .u8 x).toArray 32)) := by
  obtain ⟨i, hq, hz, hs, _⟩ := info_parts Tryz.info32'
  refine run_buildSlice w 56 32 1 _ (row .u8 x).toArray i _ Tryz.underlying56 hq hz (by rw [hs]; decide) (by rw [hs]; decide) ?_
  rw [hs]
  obtain ⟨a0, a1, a2, a3, a4, a5, a6, a7, a8, a9, a10, a11, a12, a13, a14, a15, a16, a17, a18, a19, e⟩ := list20 x h
  rw [e]
  kernel_rfl
set_option maxRecDepth 20000 in
theorem run_build31 (x : List Int) (h : x.length = 20) (w : World) : (Instr.buildSlice 62 1 #[(0, .agg (row .u8 x).toArray)]).run Tryz.prog w = .ok (.slice (some ⟨w.heap.size, 0, none⟩) 1 1) (w.alloc (.cells (row .u8 x).toArray 31)) := by
  obtain ⟨i, hq, hz, hs, _⟩ := info_parts Tryz.info31'
  refine run_buildSlice w 62 31 1 _ (row .u8 x).toArray i _ Tryz.underlying62 hq hz (by rw [hs]; decide) (by rw [hs]; decide) ?_
  rw [hs]
  obtain ⟨a0, a1, a2, a3, a4, a5, a6, a7, a8, a9, a10, a11, a12, a13, a14, a15, a16, a17, a18, a19, e⟩ := list20 x h
  rw [e]
  kernel_rfl
def pr2 (x : List Int) (ids : List (List Int)) (i : Nat) : List (List Int) := if i = 0 then [] else if i = 1 then [x] else x :: ids
set_option maxRecDepth 20000 in
set_option maxHeartbeats 4000000 in
theorem concat_any (H g1 pc : Nat) (pa : Option Addr) (x : List Int) (ids : List (List Int)) (w : World) (h0 : w.cell? ⟨H, 0, none⟩ = some (.slice (some ⟨g1, 0, none⟩) 1 1)) (h1 : w.cell? ⟨H, 1, none⟩ = some (.slice pa ids.length pc)) (hH : H < w.heap.size)
    (hx : Pa w (some ⟨g1, 0, none⟩) 1 [x]) (hp : Pa w pa pc ids) (hw : ∀ y ∈ x :: ids, y.length = 20) (hn : ids.length ≤ 8) :
    Calls Tryz.prog 113 #[.slice (some ⟨H, 0, none⟩) 2 2] w fun e w' => ∃ v, e = .returned v ∧ Bi 32 w w' w.heap.size v (x :: ids) := by
  obtain ⟨n, HN⟩ : ∃ n, Hid (ids.length = n) := ⟨_, rfl⟩
  obtain ⟨G, HG⟩ : ∃ G, Hid (w.heap.size = G) := ⟨_, rfl⟩
  have hn8 : n ≤ 8 := by rw [← HN.out]; exact hn
  have HC0 : Hid (∀ W, Below G w W → W.cell? ⟨H, 0, none⟩ = some (.slice (some ⟨g1, 0, none⟩) 1 1)) := fun W hW => (hW.cell (p := ⟨H, 0, none⟩) (by rw [← HG.out]; exact hH)).trans h0
  have HC1 : Hid (∀ W, Below G w W → W.cell? ⟨H, 1, none⟩ = some (.slice pa n pc)) := fun W hW => by rw [← HN.out]; exact (hW.cell (p := ⟨H, 1, none⟩) (by rw [← HG.out]; exact hH)).trans h1
  have HPX : Hid (∀ W, Below G w W → Pa W (some ⟨g1, 0, none⟩) 1 [x]) := fun W hW => hx.below (by rw [HG.out]; exact hW)
  have HPI : Hid (∀ W, Below G w W → Pa W pa pc ids) := fun W hW => hp.below (by rw [HG.out]; exact hW)
  have HW0 : Hid (∀ y ∈ [x], y.length = 20) := fun y hy => hw y (by simp at hy; simp [hy])
  have HW1 : Hid (∀ y ∈ ids, y.length = 20) := fun y hy => hw y (by simp [hy])
  have CG : Hid (∀ W, Calls Tryz.prog 145 #[.slice none 0 0, .int .i64 (1 + n : Nat)] W fun e w' => ∃ v, e = .returned v ∧ Bi 32 W w' W.heap.size v []) := fun W => grow_any (1 + n) (by omega) (by omega) W
  rw [HG.out]
  clear h0 h1 hx hp hw hn
  go_enter Tryz.func113, Tryz.ntmps113
  go_wp2_with fail
  go_loopg [3, 11] 2 (fun g sv iv wr => ∃ i : Nat, i ≤ 2 ∧ g = 2 - i ∧ iv = .int .i64 i ∧ sv = .int .i64 (pr2 x ids i).length ∧ Hid (wr = w))
  case atStart => exact ⟨0, by omega, rfl, rfl, rfl, hid rfl⟩
  case round =>
    obtain ⟨i, hi, hk, rfl, rfl, HW⟩ := hrel
    have hww := HW.out.symm
    subst hww
    clear HW
    have e3 : i = 0 ∨ i = 1 ∨ i = 2 := by omega
    have c0 := HC0.out w (Below.refl _ _)
    have c1 := HC1.out w (Below.refl _ _)
    rcases e3 with rfl | rfl | rfl
    · have el : (pr2 x ids 0).length = 0 := rfl
      rw [el]
      go_wp2
      go_roundg 1
      case measure => omega
      case rel => exact ⟨1, by omega, rfl, rfl, rfl, hid rfl⟩
    · have el : (pr2 x ids 1).length = 1 := rfl
      rw [el]
      have hs1 : IntKind.i64.wrap ((1 : Int) + (n : Int)) = ((1 + n : Nat) : Int) := by
        rw [show ((1 : Int) + (n : Int)) = ((1 + n : Nat) : Int) by omega]
        exact wrap_i64 (1 + n) (by omega)
      have hs2 : ¬ ((1 + n : Nat) : Int) < 0 := by omega
      obtain ⟨M, HM⟩ : ∃ M : Int, Hid (((1 + n : Nat) : Int) = M) := ⟨_, rfl⟩
      rw [HM.out] at hs1 hs2
      go_wp2
      go_roundg 0
      case measure => omega
      case rel => exact ⟨2, by omega, rfl, rfl, by rw [show (pr2 x ids 2).length = 1 + n by simp [pr2, HN.out]; omega, HM.out], hid rfl⟩
    · have el : (pr2 x ids 2).length = 1 + n := by simp [pr2, HN.out]; omega
      rw [el]
      go_wp2_with fail
      refine (CG.out _).mono ?_
      rintro ev w1 ⟨v1, rfl, hb1⟩
      have HB1 : Hid (Bi 32 w w1 G v1 (pr2 x ids 0)) := hid (by rw [← HG.out]; exact hb1)
      clear hb1
      go_wp2_with fail
      clear c0 c1
      go_loopg [6, 27] 2 (fun g nv jv wq => ∃ (j : Nat) (v : Value), v = nv ∧ j ≤ 2 ∧ g = 2 - j ∧ jv = .int .i64 j ∧ Hid (Bi 32 w wq G v (pr2 x ids j)))
      case atStart => exact ⟨0, _, rfl, by omega, rfl, rfl, HB1⟩
      case round =>
        obtain ⟨j, v, hv, hj, hk2, rfl, HBI⟩ := hrel
        subst hv
        have e4 : j = 0 ∨ j = 1 ∨ j = 2 := by omega
        have c0 := HC0.out wr HBI.out.below
        have c1 := HC1.out wr HBI.out.below
        rcases e4 with rfl | rfl | rfl
        · have hPx := HPX.out wr HBI.out.below
          go_wp2_with (first
            | (at_builtin; refine wpList_bi_sl rfl _ _ 56 32 Tryz.underlying56 Tryz.info32' rfl G _ _ rfl HBI.out (some ⟨g1, 0, none⟩) 1 [x] rfl hPx HW0.out (by simp [pr2]) ?_; intro v2 w2 hb2 hg2; have HB2 : Hid (Bi 32 w w2 G v2 (pr2 x ids 1)) := hb2; clear hb2 hg2)
            | fail)
          go_roundg 1
          case measure => omega
          case rel => exact ⟨1, _, rfl, by omega, rfl, rfl, HB2⟩
        · have hPi := HPI.out wr HBI.out.below
          go_wp2_with (first
            | (at_builtin; refine wpList_bi_sl rfl _ _ 56 32 Tryz.underlying56 Tryz.info32' rfl G _ _ rfl HBI.out pa pc ids (by rw [HN.out]; rfl) hPi HW1.out (by simp [pr2, HN.out]; omega) ?_; intro v2 w2 hb2 hg2; have HB2 : Hid (Bi 32 w w2 G v2 (pr2 x ids 2)) := hb2; clear hb2 hg2)
            | fail)
          go_roundg 0
          case measure => omega
          case rel => exact ⟨2, _, rfl, by omega, rfl, rfl, HB2⟩
        · go_wp2
          go_ret
          exact ⟨_, rfl, HBI.out⟩
end Go.Proofs.YtbpdielmdhhdfaaGreatDoor
