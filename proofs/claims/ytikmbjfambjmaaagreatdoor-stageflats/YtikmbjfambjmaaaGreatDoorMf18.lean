import Derived.Test.YtikmbjfambjmaaaGreatDoorMf15
import Derived.Test.YtikmbjfambjmaaaGreatDoorMf16
import Derived.Test.YtikmbjfambjmaaaGreatDoorMf17
import Derived.Test.YtikmbjfambjmaaaGreatDoorProg
import Derived.RangeFuncNested
import Derived.RangeFuncBound
import Derived.RangeFuncLeaves
import Derived.WalkKit
namespace Go.Proofs.YtikmbjfambjmaaaGreatDoor.Gr
open Go.RowKit
set_option linter.unusedVariables false
structure Fe where
  path : List UInt8
  mode : Int
  id : List Int
abbrev It := Int × Fe
abbrev f0 : Fe := ⟨[], 0, z20⟩
abbrev Lks := List Int → Option (List Er)
def itE (go : List Int → List UInt8 → List It) (front : List UInt8) (e : Er) : List It :=
  if 100 < (front ++ e.name).length then [(71, f0)] else if e.mode = 16384 then go e.id (front ++ e.name ++ [47]) else [(0, ⟨front ++ e.name, e.mode, e.id⟩)]
def itm (lk : Lks) : Nat → List Int → List UInt8 → List It
  | 0, _, _ => []
  | d + 1, id, front => match lk id with
    | none => [(50, f0)]
    | some es => if (es.isEmpty && !front.isEmpty) = true then [(21, f0)] else es.flatMap (itE (itm lk d) front)
def sc : List It → List Fe → Int × List Fe
  | [], acc => (0, acc)
  | x :: r, acc => if x.1 = 0 then (if 2000 ≤ acc.length then (70, []) else sc r (acc ++ [x.2])) else (x.1, [])
theorem sc_ok : ∀ (l : List It) (acc : List Fe), (sc l acc).1 = 0 → (sc l acc).2 = acc ++ l.map (·.2) ∧ (∀ x ∈ l, x.1 = 0) ∧ (acc.length ≤ 2000 → acc.length + l.length ≤ 2000)
  | [], acc, _ => ⟨by simp [sc], (fun x hx => by cases hx), fun h => by simpa using h⟩
  | x :: l, acc, h => by
    rw [sc] at h ⊢
    by_cases h1 : x.1 = 0
    · rw [if_pos h1] at h ⊢
      by_cases h2 : 2000 ≤ acc.length
      · rw [if_pos h2] at h; cases h
      · rw [if_neg h2] at h ⊢
        obtain ⟨k1, k2, k3⟩ := sc_ok l _ h
        refine ⟨by rw [k1]; simp, fun y hy => ?_, fun h4 => ?_⟩
        · rcases List.mem_cons.1 hy with rfl | hy
          · exact h1
          · exact k2 y hy
        · have := k3 (by rw [List.length_append]; simp; omega)
          rw [List.length_append] at this
          simp only [List.length_cons, List.length_nil] at this ⊢
          omega
    · rw [if_neg h1] at h; exact absurd h h1
theorem spl_name : ∀ (n : List UInt8), (∀ x ∈ n, x ≠ 47) → Ip.spl n = [n] ∧ ∀ t, Ip.spl (n ++ 47 :: t) = n :: Ip.spl t
  | [], _ => ⟨rfl, fun t => by simp [Ip.spl]⟩
  | c :: n, h => by
    obtain ⟨h1, h2⟩ := spl_name n (fun x hx => h x (by simp [hx]))
    have hc : c ≠ 47 := h c (by simp)
    refine ⟨by rw [Ip.spl, if_neg hc, h1], fun t => ?_⟩
    rw [List.cons_append, Ip.spl, if_neg hc, h2]
def Gf (front : List UInt8) : Prop := ∃ ps, (∀ p ∈ ps, Ip.okE p) ∧ ∀ t, Ip.spl (front ++ t) = ps ++ Ip.spl t
theorem gf_nil : Gf [] := ⟨[], (fun p hp => by cases hp), fun t => rfl⟩
theorem Gf.step {front n : List UInt8} (h : Gf front) (hn : okE n) : Gf (front ++ n ++ [47]) := by
  obtain ⟨ps, h1, h2⟩ := h
  refine ⟨ps ++ [n], fun p hp => ?_, fun t => ?_⟩
  · rcases List.mem_append.1 hp with hp | hp
    · exact h1 p hp
    · have : p = n := by simpa using hp
      rw [this]; exact hn
  · rw [List.append_assoc, List.append_assoc, h2, List.singleton_append, (spl_name n (fun x hx => (hn.2.2.2.2.2 x hx).1)).2 t, List.append_assoc]
    rfl
theorem Gf.path {front n : List UInt8} (h : Gf front) (hn : okE n) : Ip.okP (front ++ n) ↔ (front ++ n).length ≤ 100 := by
  obtain ⟨ps, h1, h2⟩ := h
  unfold Ip.okP
  rw [h2, (spl_name n (fun x hx => (hn.2.2.2.2.2 x hx).1)).1]
  refine ⟨fun h => h.1, fun h => ⟨h, fun p hp => ?_⟩⟩
  rcases List.mem_append.1 hp with hp | hp
  · exact h1 p hp
  · have : p = n := by simpa using hp
    rw [this]; exact hn
structure Fo (lk : Lks) : Prop where
  wf : ∀ id es, lk id = some es → WfE es
  ok : ∀ id es, lk id = some es → okL es
  asc : ∀ id es, lk id = some es → es.Pairwise (fun a b => ¬ keyB b < keyB a)
theorem lt_app : ∀ (k1 k2 r1 r2 : List UInt8), k1 < k2 → (¬ ∃ t, k2 = k1 ++ t) → k1 ++ r1 < k2 ++ r2
  | [], k2, r1, r2, _, h => absurd ⟨k2, rfl⟩ h
  | x :: k1, [], r1, r2, h, _ => absurd h (List.not_lt_nil _)
  | x :: k1, y :: k2, r1, r2, h, hn => by
    rw [List.cons_append, List.cons_append, List.cons_lt_cons_iff]
    rcases List.cons_lt_cons_iff.1 h with h' | ⟨rfl, h'⟩
    · exact .inl h'
    · exact .inr ⟨rfl, lt_app k1 k2 r1 r2 h' (fun ⟨t, ht⟩ => hn ⟨t, by rw [ht]; rfl⟩)⟩
theorem lt_more : ∀ (k t : List UInt8), t ≠ [] → k < k ++ t
  | [], t, h => by
    cases t with
    | nil => exact absurd rfl h
    | cons x t => exact List.nil_lt_cons _ _
  | x :: k, t, h => by
    rw [List.cons_append, List.cons_lt_cons_iff]
    exact .inr ⟨rfl, lt_more k t h⟩
theorem lt_front : ∀ (f a b : List UInt8), a < b → f ++ a < f ++ b
  | [], a, b, h => h
  | x :: f, a, b, h => by
    rw [List.cons_append, List.cons_append, List.cons_lt_cons_iff]
    exact .inr ⟨rfl, lt_front f a b h⟩
theorem slash_pre {n m : List UInt8} (hn : ∀ x ∈ n, x ≠ 47) (hm : ∀ x ∈ m, x ≠ 47) (s t : List UInt8) (hs : s = [] ∨ s = [47]) (h : m ++ s = n ++ 47 :: t) : n = m := by
  induction n generalizing m with
  | nil =>
    cases m with
    | nil => rfl
    | cons y m =>
      rw [List.cons_append, List.nil_append] at h
      have := (List.cons.inj h).1
      exact absurd this (hm y (by simp))
  | cons x n ih =>
    cases m with
    | nil =>
      rw [List.nil_append, List.cons_append] at h
      rcases hs with rfl | rfl
      · cases h
      · have := (List.cons.inj h).1
        exact absurd this.symm (hn x (by simp))
    | cons y m =>
      rw [List.cons_append, List.cons_append] at h
      obtain ⟨e1, e2⟩ := List.cons.inj h
      rw [e1, ih (fun z hz => hn z (by simp [hz])) (fun z hz => hm z (by simp [hz])) e2]
theorem keyB_def (e : Er) : keyB e = e.name ++ (if e.mode = 16384 then [47] else []) := by
  unfold keyB
  split <;> simp
theorem key_paths {a b : Er} (ha : okE a.name) (hb : okE b.name) (hne : a.name ≠ b.name) (hk : ¬ keyB b < keyB a) (r1 r2 : List UInt8) (h1 : a.mode ≠ 16384 → r1 = []) : keyB a ++ r1 < keyB b ++ r2 := by
  have an : ∀ x ∈ a.name, x ≠ 47 := fun x hx => (ha.2.2.2.2.2 x hx).1
  have bn : ∀ x ∈ b.name, x ≠ 47 := fun x hx => (hb.2.2.2.2.2 x hx).1
  have hkne : keyB a ≠ keyB b := fun e => by
    rw [keyB_def, keyB_def] at e
    by_cases ma : a.mode = 16384
    · rw [if_pos ma] at e
      exact hne (slash_pre an bn (if b.mode = 16384 then [47] else []) [] (by split <;> simp) e.symm)
    · rw [if_neg ma, List.append_nil] at e
      by_cases mb : b.mode = 16384
      · rw [if_pos mb] at e
        have : (47 : UInt8) ∈ a.name := by rw [e]; simp
        exact an 47 this rfl
      · rw [if_neg mb, List.append_nil] at e
        exact hne e
  have hlt : keyB a < keyB b := by
    rcases List.le_iff_lt_or_eq.1 (List.not_lt.1 hk) with h | h
    · exact h
    · exact absurd h hkne
  by_cases hp : ∃ t, keyB b = keyB a ++ t
  · obtain ⟨t, ht⟩ := hp
    by_cases ma : a.mode = 16384
    · exfalso
      rw [keyB_def, keyB_def, if_pos ma, List.append_assoc] at ht
      exact hne (slash_pre an bn (if b.mode = 16384 then [47] else []) t (by split <;> simp) ht)
    · rw [h1 ma, List.append_nil, ht, List.append_assoc]
      exact lt_more _ _ (fun e => hkne (by rw [ht, (List.append_eq_nil_iff.1 e).1, List.append_nil]))
  · exact lt_app _ _ _ _ hlt hp
abbrev Lt2 (x y : It) : Prop := x.1 = 0 → y.1 = 0 → x.2.path < y.2.path
theorem itE_path {lk : Lks} {d : Nat} {front : List UInt8} {a : Er} (ih : ∀ id fr, ∀ x ∈ itm lk d id fr, x.1 = 0 → ∃ t, x.2.path = fr ++ t) {x : It} (hx : x ∈ itE (itm lk d) front a) (h0 : x.1 = 0) : ∃ r, x.2.path = front ++ (keyB a ++ r) ∧ (a.mode ≠ 16384 → r = []) := by
  unfold itE at hx
  split at hx
  · have e : x = (71, f0) := by simpa using hx
    rw [e] at h0; cases h0
  · split at hx
    · rename_i hm
      obtain ⟨t, ht⟩ := ih _ _ x hx h0
      exact ⟨t, by rw [ht, keyB_def, if_pos hm]; simp, fun h => absurd hm h⟩
    · rename_i hm
      have e : x = (0, ⟨front ++ a.name, a.mode, a.id⟩) := by simpa using hx
      exact ⟨[], by rw [e, keyB_def, if_neg hm]; simp, fun _ => rfl⟩
theorem itm_front {lk : Lks} : ∀ (d : Nat) (id : List Int) (front : List UInt8), ∀ x ∈ itm lk d id front, x.1 = 0 → ∃ t, x.2.path = front ++ t
  | 0, id, front, x, hx, _ => by cases hx
  | d + 1, id, front, x, hx, h0 => by
    rw [itm] at hx
    cases h : lk id with
    | none =>
      rw [h] at hx
      have e : x = (50, f0) := by simpa using hx
      rw [e] at h0; cases h0
    | some es =>
      rw [h] at hx
      simp only at hx
      split at hx
      · have e : x = (21, f0) := by simpa using hx
        rw [e] at h0; cases h0
      · obtain ⟨a, ha, hxa⟩ := List.mem_flatMap.1 hx
        obtain ⟨r, hr, _⟩ := itE_path (itm_front d) hxa h0
        exact ⟨_, hr⟩
theorem itm_asc {lk : Lks} (hf : Fo lk) : ∀ (d : Nat) (id : List Int) (front : List UInt8), (itm lk d id front).Pairwise Lt2
  | 0, id, front => List.Pairwise.nil
  | d + 1, id, front => by
    rw [itm]
    cases h : lk id with
    | none => exact List.pairwise_singleton _ _
    | some es =>
      simp only
      split
      · exact List.pairwise_singleton _ _
      · rw [List.pairwise_flatMap]
        refine ⟨fun a ha => ?_, ?_⟩
        · unfold itE
          split
          · exact List.pairwise_singleton _ _
          · split
            · exact itm_asc hf d _ _
            · exact List.pairwise_singleton _ _
        · have hok := hf.ok id es h
          have hnd : es.Pairwise (fun a b => a.name ≠ b.name) := by
            have := hok.2
            rw [List.Nodup, List.pairwise_map] at this
            exact this
          refine List.Pairwise.imp_of_mem ?_ (hnd.and (hf.asc id es h))
          intro a b ha hb hab x hx y hy hx0 hy0
          obtain ⟨r1, e1, k1⟩ := itE_path (itm_front d) hx hx0
          obtain ⟨r2, e2, _⟩ := itE_path (itm_front d) hy hy0
          rw [e1, e2]
          exact lt_front _ _ _ (key_paths (hok.1 a ha).2 (hok.1 b hb).2 hab.1 hab.2 r1 r2 k1)
end Go.Proofs.YtikmbjfambjmaaaGreatDoor.Gr
namespace Go.Proofs.YtikmbjfambjmaaaGreatDoor.Gr
open Go.RowKit
set_option linter.unusedVariables false
def Vt (l : List UInt8) (es : List Er) : Prop := okTr es ∧ okL es ∧ srtE es = es ∧ treeB es = l
def Rt (l : List UInt8) (r : Option (List Er)) : Prop := (∀ es, r = some es → Vt l es) ∧ (∀ es, Vt l es → r = some es)
theorem Rt.one {l : List UInt8} {r r' : Option (List Er)} (h : Rt l r) (h' : Rt l r') : r = r' := by
  cases r with
  | some es => exact (h'.2 es (h.1 es rfl)).symm
  | none =>
    cases r' with
    | none => rfl
    | some es => exact h.2 es (h'.1 es rfl)
theorem rt_doc {l : List UInt8} {ed : List Er} {b : Bool} (h1 : b = true → WfE ed ∧ okL ed ∧ treeB (srtE ed) = l) (h2 : ∀ u, okTr u → okL u → srtE u = u → treeB u = l → b = true ∧ ed = u) : Rt l (if b = true then some ed else none) := by
  refine ⟨fun es he => ?_, fun es hv => ?_⟩
  · by_cases hb : b = true
    · rw [if_pos hb] at he
      cases he
      obtain ⟨w, o, t⟩ := h1 hb
      have e := (h2 (srtE ed) (okTr_srt w o) (okL_perm (srtE_perm ed).symm o) (srtE_srtE o) t).2
      exact ⟨by rw [e]; exact okTr_srt w o, o, e.symm, by rw [e]; exact t⟩
    · rw [if_neg hb] at he; cases he
  · obtain ⟨k1, k2, k3, k4⟩ := hv
    obtain ⟨e1, e2⟩ := h2 es k1 k2 k3 k4
    rw [if_pos e1, e2]
theorem rt_prog {l : List UInt8} {es : List Er} (hw : WfE es) (hu : ∀ u, okTr u → treeB u = l → es = u) : ((okL es ∧ treeB (srtE es) = l) → Rt l (some es)) ∧ (¬ (okL es ∧ treeB (srtE es) = l) → Rt l none) := by
  refine ⟨fun ⟨o, t⟩ => ?_, fun hn => ⟨(fun _ h => by cases h), fun u hv => ?_⟩⟩
  · have e := hu (srtE es) (okTr_srt hw o) t
    refine ⟨fun x hx => ?_, fun u hv => ?_⟩
    · cases hx
      exact ⟨by rw [e]; exact okTr_srt hw o, o, e.symm, by rw [e]; exact t⟩
    · rw [hu u hv.1 hv.2.2.2]
  · exfalso
    have e := hu u hv.1 hv.2.2.2
    exact hn ⟨by rw [e]; exact hv.2.1, by rw [e, hv.2.2.1]; exact hv.2.2.2⟩
structure Rx (os : List Oj) (R : Nat → Option (List Er)) : Prop where
  rt : ∀ i, i < os.length → (os.getD i dO).k = 2 → Rt (Lib.bytesOf (os.getD i dO).zs) (R i)
  few : ∀ i es, R i = some es → es.length ≤ 1000
def HitT (os : List Oj) (R : Nat → Option (List Er)) (x : List Int) (i : Nat) : Prop := (os.getD i dO).k = 2 ∧ oer (os.getD i dO) = 0 ∧ oid (os.getD i dO) = x ∧ R i ≠ none
structure Lk (os : List Oj) (R : Nat → Option (List Er)) (lk : Lks) : Prop where
  of : ∀ x i, i < os.length → HitT os R x i → lk x = R i
  no : ∀ x, (∀ i, i < os.length → ¬ HitT os R x i) → lk x = none
def NoC (os : List Oj) : Prop := ∀ i j, i < os.length → j < os.length → oer (os.getD i dO) = 0 → oer (os.getD j dO) = 0 → oid (os.getD i dO) = oid (os.getD j dO) → (os.getD i dO).k = (os.getD j dO).k ∧ Lib.bytesOf (os.getD i dO).zs = Lib.bytesOf (os.getD j dO).zs
theorem lk_of {os : List Oj} {R : Nat → Option (List Er)} (hR : Rx os R) (hn : NoC os) : ∃ lk, Lk os R lk := by
  have h : ∀ x, ∃ r : Option (List Er), (∀ i, i < os.length → HitT os R x i → r = R i) ∧ ((∀ i, i < os.length → ¬ HitT os R x i) → r = none) := fun x => by
    by_cases hx : ∃ i, i < os.length ∧ HitT os R x i
    · obtain ⟨i, hi, h1⟩ := hx
      refine ⟨R i, fun j hj h2 => ?_, fun h => absurd h1 (h i hi)⟩
      have e := hn i j hi hj h1.2.1 h2.2.1 (h1.2.2.1.trans h2.2.2.1.symm)
      have r1 := hR.rt i hi h1.1
      have r2 := hR.rt j hj h2.1
      rw [e.2] at r1
      exact r1.one r2
    · exact ⟨none, fun i hi h => absurd ⟨i, hi, h⟩ hx, fun _ => rfl⟩
  obtain ⟨lk, hlk⟩ := Classical.axiomOfChoice h
  exact ⟨lk, fun x i hi h => (hlk x).1 i hi h, fun x h => (hlk x).2 h⟩
theorem Lk.fo {os : List Oj} {R : Nat → Option (List Er)} {lk : Lks} (h : Lk os R lk) (hR : Rx os R) : Fo lk := by
  have key : ∀ x es, lk x = some es → ∃ l, Vt l es := fun x es he => by
    by_cases hx : ∃ i, i < os.length ∧ HitT os R x i
    · obtain ⟨i, hi, h1⟩ := hx
      rw [h.of x i hi h1] at he
      exact ⟨_, (hR.rt i hi h1.1).1 es he⟩
    · rw [h.no x (fun i hi h1 => hx ⟨i, hi, h1⟩)] at he
      cases he
  exact ⟨fun x es he => by obtain ⟨l, v⟩ := key x es he; exact v.1.1, fun x es he => by obtain ⟨l, v⟩ := key x es he; exact v.2.1, fun x es he => by obtain ⟨l, v⟩ := key x es he; rw [← v.2.2.1]; exact srtE_asc es⟩
end Go.Proofs.YtikmbjfambjmaaaGreatDoor.Gr
namespace Go.Proofs.YtikmbjfambjmaaaGreatDoor.Gr
open Go.RowKit
set_option linter.unusedVariables false
set_option linter.unusedSimpArgs false
section
variable {α : Type} {enc : α → List Value} {k : Nat} {d : α}
theorem exec_bx_slM {w w0 : World} {o : Oper} {a : Act} (s x : Operand) (t e : TypeId) (hu : Tryz.prog.underlying t = some (.slice e)) {z : Value} {by_ : Nat} (hin : (Tryz.prog.info? e).map (fun i => (i.zero, i.size, i.bytes)) = some (some z, k, by_)) (hz : z.cells.size = k) (hk : 0 < k) (hby : by_ ≤ 100)
    (hone : ∀ x, ∀ v ∈ enc x, v.oneCell' = true)
    (ho : o.op = .call { callee := .builtin .append, args := #[s, x], argTypes := #[t, t] }) (B : Nat) (v : Value) (l : List α) (hs : a.eval s = v) (h : Bx enc k e w0 w B v l)
    (ax : Option Addr) (cx : Nat) (m : List α) (hx : a.eval x = .slice ax m.length cx) (hP : Px enc k d w ax cx m) (hw : ∀ x ∈ m, (enc x).length = k) (hl : l.length + m.length ≤ 100000) :
    ∃ v' w', (execOp a.eval o).run Tryz.prog w = .ok (.value v') w' ∧ Bx enc k e w0 w' B v' (l ++ m) ∧ Mv w w' v v' := by
  obtain ⟨i, hi, hz0, hz1, hz2⟩ := info_parts hin
  have key : ∀ v' w', (Builtin.append_ #[t, t] o.type #[v, .slice ax m.length cx]).run Tryz.prog w = .ok v' w' → (execOp a.eval o).run Tryz.prog w = .ok (.value v') w' := fun v' w' hr => by
    unfold execOp
    simp only [ho, resolve, invoke, builtin, Sem.run_bind, Sem.run_pure, Result.andThen_ok, List.map_toArray, List.map_cons, List.map_nil, hs, hx, hr]
  cases ax with
  | none =>
    have hc : cx = 0 := hP.nil rfl
    have hcl := hP.capl
    obtain rfl : m = [] := List.length_eq_zero_iff.1 (by omega)
    subst hc
    exact ⟨v, w, key _ _ (run_append_owned_none (P := Tryz.prog) w B t o.type e i k hu hi v _ _ h.own), by simpa using h, Mv.refl _ _⟩
  | some ad =>
    obtain ⟨bk, of, fr⟩ := ad
    by_cases h0 : m.length = 0
    · obtain rfl : m = [] := List.length_eq_zero_iff.1 h0
      obtain ⟨v', w', hr, h1, h2, _, h5⟩ := run_append_own_at (P := Tryz.prog) w B t o.type e i z k by_ hu hi hz0 hz1 hz2 hz hk v _ _ h.own ⟨bk, of, fr⟩ 0 cx [] (by simp) (fun j u hj => by cases hj) (fun u hu => by cases hu) (by unfold maxLen; omega) (by have h2 := Nat.mul_le_mul hl hby; exact Nat.le_trans h2 (by decide)) h.le
      refine ⟨v', w', key _ _ hr, ⟨h.below.grown h2 h.le (fun k hk => (own_lt h.own k hk).1), ?_, Nat.le_trans h.le h2.size⟩, Mv.app ⟨rfl, rfl, rfl, Nat.le_refl _, fun _ _ _ => rfl⟩ h2 h5⟩
      simpa using h1
    · obtain ⟨b', off', e1, _⟩ := hP.at_ (by omega)
      cases e1
      obtain ⟨v', w', hr, h1, h2, _, h5⟩ := run_append_own_at (P := Tryz.prog) w B t o.type e i z k by_ hu hi hz0 hz1 hz2 hz hk v _ _ h.own ⟨bk, of, none⟩ m.length cx (m.flatMap enc) (fX_len m hw) (hP.cells hk hw) (fX_one m hone) (by unfold maxLen; omega) (by have h2 := Nat.mul_le_mul hl hby; exact Nat.le_trans h2 (by decide)) h.le
      refine ⟨v', w', key _ _ hr, ⟨h.below.grown h2 h.le (fun k hk => (own_lt h.own k hk).1), ?_, Nat.le_trans h.le h2.size⟩, Mv.app ⟨rfl, rfl, rfl, Nat.le_refl _, fun _ _ _ => rfl⟩ h2 h5⟩
      rw [List.length_append, List.flatMap_append]
      exact h1
end
def encF (f : Fe) : List Value := .string ⟨f.path.toArray⟩ :: .int .i64 f.mode :: (row .u8 f.id ++ [.int .i64 0, .int .i64 0])
theorem encF_len {f : Fe} (h : f.id.length = 20) : (encF f).length = 24 := by unfold encF; simp [row_len, h]
theorem encF_one (f : Fe) : ∀ v ∈ encF f, v.oneCell' = true := fun v hv => by
  unfold encF at hv
  simp only [List.mem_cons, List.mem_append, List.not_mem_nil, or_false] at hv
  rcases hv with rfl | rfl | hv | rfl | rfl
  · rfl
  · rfl
  · exact row_one .u8 f.id v hv
  · rfl
  · rfl
set_option maxRecDepth 20000 in
theorem info64 : (Tryz.prog.info? 64).map (fun i => (i.zero, i.size, i.bytes)) = some (some (.agg (encF ⟨[], 0, z20⟩).toArray), 24, 64) := by kernel_rfl
set_option maxRecDepth 20000 in
theorem run_build64 (p : ByteArray) (m : Int) (x : List Int) (h : x.length = 20) (w : World) : (Instr.build 64 #[(0, .string p), (1, .int .i64 m), (2, .agg (row .u8 x).toArray)]).run Tryz.prog w = .ok (.agg (.string p :: .int .i64 m :: (row .u8 x ++ [.int .i64 0, .int .i64 0])).toArray) w := by
  obtain ⟨a0, a1, a2, a3, a4, a5, a6, a7, a8, a9, a10, a11, a12, a13, a14, a15, a16, a17, a18, a19, rfl⟩ := list20 x h
  kernel_rfl
set_option maxRecDepth 20000 in
theorem run_bs41 (f : Fe) (h : f.id.length = 20) (w : World) : (Instr.buildSlice 41 1 #[(0, .agg (encF f).toArray)]).run Tryz.prog w = .ok (.slice (some ⟨w.heap.size, 0, none⟩) 1 1) (w.alloc (.cells (encF f).toArray 64)) := by
  obtain ⟨i, hq, hz, hs, _⟩ := info_parts info64
  refine run_buildSlice w 41 64 1 _ (encF f).toArray i _ Tryz.underlying41 hq hz (by rw [hs]; decide) (by rw [hs]; decide) ?_
  rw [hs]
  obtain ⟨p, m, x⟩ := f
  obtain ⟨a0, a1, a2, a3, a4, a5, a6, a7, a8, a9, a10, a11, a12, a13, a14, a15, a16, a17, a18, a19, rfl⟩ := list20 x h
  unfold encF
  simp only
  generalize (⟨p.toArray⟩ : ByteArray) = P
  kernel_rfl
theorem px_oneF (w : World) (f : Fe) : Px encF 24 f0 (w.alloc (.cells (encF f).toArray 64)) (some ⟨w.heap.size, 0, none⟩) 1 [f] :=
  ⟨Nat.le_refl _, fun _ => ⟨w.heap.size, 0, rfl, by simp, fun i hi j v hv => by
    obtain rfl : i = 0 := by simpa using hi
    exact range_row (heap_alloc_new w (.cells (encF f).toArray 64)) j v (by simpa using hv)⟩, fun h => by cases h⟩
def IdF (l : List Fe) : Prop := ∀ f ∈ l, IdW f.id
theorem IdF.len {l : List Fe} (h : IdF l) : ∀ f ∈ l, (encF f).length = 24 := fun f hf => encF_len (h f hf).1
theorem step_app41 {w w0 : World} {ops : Array Oper} {o : Oper} {a : Act} {KK : Act → World → Prop} {Q : Exit → Act → World → Prop} {E : Prop} (hg : o.guard = none) (s x : Operand) (ho : o.op = .call { callee := .builtin .append, args := #[s, x], argTypes := #[41, 41] }) (B : Nat) (v : Value) (l : List Fe) (hs : a.eval s = v) (h : Bx encF 24 64 w0 w B v l)
    (ax : Option Addr) (cx : Nat) (m : List Fe) (hm : IdF m) (hx : a.eval x = .slice ax m.length cx) (hP : Px encF 24 f0 w ax cx m) (hl : l.length + m.length ≤ 100000) (hK : ∀ v' w', Bx encF 24 64 w0 w' B v' (l ++ m) → Mv w w' v v' → KK (a.put o.dst v') w') :
    if Region.wanted o (yielded ops a.tmps) = true then Oper.wp Tryz.prog o a w KK Q else E := by
  obtain ⟨v', w', hr, hb, hm'⟩ := exec_bx_slM (enc := encF) (k := 24) (d := f0) s x 41 64 Tryz.underlying41 info64 rfl (by decide) (by decide) encF_one ho B v l hs h ax cx m hx hP hm.len hl
  exact step_exec hg v' hr (hK v' w' hb hm')
theorem refTree_o (os : List Oj) (R : Nat → Option (List Er)) (hR : Rx os R) (i : Nat) (hi : i < os.length) (o : Oj) (ho : os.getD i dO = o) (h2 : o.k = 2) (w : World) (hl : o.zs.length ≤ 20000) (hz : IsB o.zs) (hS : Sl w o.a o.cap o.zs) :
    Calls Tryz.prog 26 #[.slice o.a o.zs.length o.cap] w fun e w' => Below w.heap.size w w' ∧ ∃ a' c' ed b, e = .returned (.tuple #[.slice a' ed.length c', .bool b]) ∧ (b = false → R i = none) ∧ (b = true → R i = some ed ∧ (∀ p : Addr, a' = some p → w.heap.size ≤ p.block) ∧ Px erV 22 ⟨0, [], []⟩ w' a' c' ed ∧ WfE ed) := by
  letI i1 : Inhabited Er := ⟨⟨0, [], []⟩⟩
  haveI i2 : Inhabited En := ⟨⟨⟨0, [], z20⟩, by decide, by decide⟩⟩
  refine Calls.mono (readTreeR_any o.a o.cap o.zs hl hz w hS) ?_
  rintro e w' ⟨hb, a', c', ed, b, rfl, k1, k2⟩
  have hr := hR.rt i hi (by rw [ho]; exact h2)
  rw [ho] at hr
  have e1 := hr.one (rt_doc (fun h => (k1 h).2.2) k2)
  refine ⟨hb, a', c', ed, b, rfl, fun h => ?_, fun h => ?_⟩
  · rw [e1, h]; rfl
  · obtain ⟨m1, m2, m3, _⟩ := k1 h
    exact ⟨by rw [e1, h]; rfl, m1, ⟨m2.capl, m2.at_, m2.nil⟩, m3⟩
end Go.Proofs.YtikmbjfambjmaaaGreatDoor.Gr
namespace Go.Proofs.YtikmbjfambjmaaaGreatDoor.Gr
open Go.RowKit
set_option linter.unusedVariables false
set_option linter.unusedSimpArgs false
def PostW15 (w0 : World) (B : Nat) (its : List It) (acc : List Fe) (w : World) (v : Value) (e : Ending) (w' : World) : Prop :=
  ∃ er v' acc', e = .returned (.tuple #[v', .int .i64 er]) ∧ Bx encF 24 64 w0 w' B v' acc' ∧ Mv w w' v v' ∧ IdF acc' ∧ acc'.length ≤ 2000 ∧ (er = 0 → ∀ r, sc (its ++ r) acc = sc r acc') ∧ (er ≠ 0 → ∀ r, sc (its ++ r) acc = (er, []))
theorem post15_err {w0 : World} {B : Nat} {its : List It} {acc : List Fe} {w : World} {v : Value} {w' : World} {er : Int} (h0 : er ≠ 0) (hb : Below B w0 w') (hB : B ≤ w'.heap.size) (hm : ∃ u, Mv w w' v u) (he : ∀ r, sc (its ++ r) acc = (er, [])) : PostW15 w0 B its acc w v (.returned (.tuple #[.slice none 0 0, .int .i64 er])) w' := by
  obtain ⟨u, hm⟩ := hm
  exact ⟨er, _, [], rfl, ⟨hb, ⟨rfl, .inl ⟨rfl, rfl⟩⟩, hB⟩, ⟨hm.os, hm.tape, hm.output, hm.size, hm.blk, .inr fun k hk => by cases hk⟩, (fun f hf => by cases hf), Nat.zero_le _, fun h => absurd h h0, fun _ => he⟩
theorem info35 : (Tryz.prog.info? 35).map (·.size) = some 2 := by kernel_rfl
theorem cells_O {W : World} {b o : Nat} {x : Oj} (h : W.rangeAt b o (encO x)) : W.cell? ⟨b, o, none⟩ = some (.int .i64 x.k) ∧ W.cell? ⟨b, o + 1, none⟩ = some (.slice x.a x.zs.length x.cap) := ⟨h 0 _ rfl, h 1 _ rfl⟩
theorem cells_E {W : World} {b o : Nat} {x : Er} (h : W.rangeAt b o (erV x)) : W.cell? ⟨b, o, none⟩ = some (.int .i64 x.mode) ∧ W.cell? ⟨b, o + 1, none⟩ = some (.string ⟨x.name.toArray⟩) ∧ W.rangeAt b (o + 2) (row .u8 x.id) := ⟨h 0 _ rfl, h 1 _ rfl, fun j v hv => by
  have := h (j + 2) v (by show (erV x)[j + 2]? = some v; unfold erV; simpa using hv)
  rw [show o + (j + 2) = o + 2 + j by omega] at this
  exact this⟩
theorem sc_entry {lk : Lks} {d : Nat} {front : List UInt8} {es : List Er} {k : Nat} {e : Er} (hk : k < es.length) (he : es.getD k ⟨0, [], []⟩ = e) (r : List It) (acc : List Fe) : sc ((es.drop k).flatMap (itE (itm lk d) front) ++ r) acc = sc (itE (itm lk d) front e ++ ((es.drop (k + 1)).flatMap (itE (itm lk d) front) ++ r)) acc := by
  rw [List.drop_eq_getElem_cons hk, List.flatMap_cons, List.append_assoc]
  rw [List.getD_eq_getElem?_getD, List.getElem?_eq_getElem hk] at he
  simp only [Option.getD_some] at he
  rw [he]
end Go.Proofs.YtikmbjfambjmaaaGreatDoor.Gr
namespace Go.Proofs.YtikmbjfambjmaaaGreatDoor.Gr
open Go.RowKit
set_option linter.unusedVariables false
set_option linter.unusedSimpArgs false
theorem roundIn_any {n m : Nat} {P : Program} {l : Nat} {f : FuncId} {tmps : Array Value} {assign body : Code} {w : World} {R : Ending → World → Prop} (h : RoundIn Fence.wide n P l f tmps assign body w R) : RoundIn Fence.wide m P l f tmps assign body w R :=
  ⟨h.1, fun c cs _ => h.2 c cs (room_wide _)⟩
theorem callsIn_any {n m : Nat} {P : Program} {f : FuncId} {args : Array Value} {w : World} {R : Ending → World → Prop} (h : CallsIn Fence.wide n P f args w R) : CallsIn Fence.wide m P f args w R := callsIn_wide.2 (callsIn_wide.1 h)
abbrev Rr (B : Nat) (A : World) (row : Option Nat) : Prop := ∀ r, row = some r → B ≤ r ∧ ∃ o : Obj, A.heap[r]? = some o ∧ o.isCells = false
theorem rr_none (B : Nat) (A : World) : Rr B A none := fun r e => by cases e
theorem ownFrom_mono {β : Type} {B B' : Nat} {I : β → World → Prop} (h : OwnFrom B I) (hB : B ≤ B') : OwnFrom B' I := fun s W W' row hs hg hr => h s W W' row hs hg (fun r e => ⟨Nat.le_trans hB (hr r e).1, (hr r e).2⟩)
def Kt (b : Nat) (Fr : World → Nat → Prop) (A W : World) : Prop := A.heap.size ≤ W.heap.size ∧ ∀ k, b ≤ k → Fr A k → Fr W k ∧ W.heap[k]? = A.heap[k]?
structure Cal {α : Type} (P : Program) (l : Nat) (encs : α → Array Value) (Fx : α → World → Prop) (J Jx : List α → World → Prop) (Fr : World → Nat → Prop) (Bs B : Nat) : Prop where
  le : Bs ≤ B
  own : OwnFrom B J
  ownx : OwnFrom B Jx
  lt : ∀ W k, Fr W k → k < W.heap.size
  new : ∀ pre A C k, J pre A → A.grownBy C none → A.heap.size ≤ k → k < C.heap.size → Fr C k
  stay : ∀ A C row k, A.grownBy C row → Rr B A row → Fr A k → Fr C k
  yld : ∀ pre x W1, J pre W1 → Fx x W1 → YieldAt Fence.wide 3 P l (encs x) W1 fun e W' => (e = .returned (.bool true) ∧ J (pre ++ [x]) W' ∧ Kt 0 Fr W1 W') ∨ (e = .returned (.bool false) ∧ Jx (pre ++ [x]) W' ∧ Kt Bs Fr W1 W')
def SeqF {α β : Type} (P : Program) (g : Nat) (lb : Array Value) (encs : α → Array Value) (Fx : α → World → Prop) (pr : α → β) (its : List β) (Nd : Nat → Prop) (wf : World) : Prop :=
  ∀ (l : Nat) (J Jx : List α → World → Prop) (Fr : World → Nat → Prop) (Bs : Nat) (W : World), Below wf.heap.size wf W → Cal P l encs Fx J Jx Fr Bs W.heap.size → (∀ k, Nd k → Fr W k) → J [] W →
    CallsIn Fence.wide 3 P g (#[.func (.yield l) #[] #[]] ++ lb) W fun e W' => (∃ v, e = .returned v) ∧ ((∃ xs, xs.map pr = its ∧ J xs W') ∨ (∃ pre, (∃ r, pre.map pr ++ r = its) ∧ Jx pre W'))
theorem Kt.refl (b : Nat) (Fr : World → Nat → Prop) (A : World) : Kt b Fr A A := ⟨Nat.le_refl _, fun k _ h => ⟨h, rfl⟩⟩
theorem Kt.weak {b b' : Nat} {Fr : World → Nat → Prop} {A B : World} (h : Kt b Fr A B) (hb : b ≤ b') : Kt b' Fr A B := ⟨h.1, fun k hk => h.2 k (Nat.le_trans hb hk)⟩
theorem Kt.trans {b : Nat} {Fr : World → Nat → Prop} {A B C : World} (h : Kt b Fr A B) (h' : Kt b Fr B C) : Kt b Fr A C := ⟨Nat.le_trans h.1 h'.1, fun k hb hk => ⟨(h'.2 k hb (h.2 k hb hk).1).1, (h'.2 k hb (h.2 k hb hk).1).2.trans (h.2 k hb hk).2⟩⟩
theorem Kt.own {β : Type} {b : Nat} {Fr : World → Nat → Prop} {B : Nat} {A : World} (hA : A.heap.size ≤ B) (lt : ∀ W k, Fr W k → k < W.heap.size) (stay : ∀ A C row k, A.grownBy C row → Rr B A row → Fr A k → Fr C k) : OwnFrom B (fun (_ : β) W => Kt b Fr A W) :=
  fun _ X Y row hs hg hr => ⟨Nat.le_trans hs.1 hg.size, fun k hb hk => ⟨stay X Y row k hg hr (hs.2 k hb hk).1, (hg.block k (lt _ _ (hs.2 k hb hk).1) (fun e => by
    have h1 := (hr k e.symm).1
    have h2 := lt A k hk
    omega)).trans (hs.2 k hb hk).2⟩⟩
theorem hg_alloc (w : World) (o : Obj) : w.grownBy (w.alloc o) none := World.grownBy_alloc w o none
theorem gt_none {a b c : World} (h : a.grownBy b none) (k : b.grownBy c none) : a.grownBy c none := ⟨k.os.trans h.os, k.tape.trans h.tape, k.output.trans h.output, Nat.le_trans h.size k.size, fun i hi hn => (k.block i (Nat.lt_of_lt_of_le hi h.size) hn).trans (h.block i hi hn)⟩
theorem range_F {α β : Type} {P : Program} {g : Operand} {ps : Array Tmp} {assign body : Code} {Q : Exit → Act → World → Prop} {a : Act} {w : World}
    {gf : Nat} {lb : Array Value} (hg : a.eval g = .func (.func gf) #[] lb) (eg : ∀ args w, (callFunc gf args).run P w = .ok (.enter gf args) w)
    {encs : α → Array Value} {Fx : α → World → Prop} {pr : α → β} {its : List β} {Nd : Nat → Prop} {wf : World} (hwf : Below wf.heap.size wf w) (hseq : SeqF P gf lb encs Fx pr its Nd wf) (hps : ∀ x, (encs x).size = ps.size)
    (hFx : ∀ x A C row, A.grownBy C row → Rr w.heap.size A row → Fx x A → Fx x C)
    (I Ix : List α → World → Prop) (Fr : World → Nat → Prop) (Bs : Nat) (hBs : Bs ≤ w.heap.size) (hI : OwnFrom w.heap.size I) (hIx : OwnFrom w.heap.size Ix) (hlt : ∀ W k, Fr W k → k < W.heap.size)
    (hnew : ∀ pre A C k, I pre A → A.grownBy C none → A.heap.size ≤ k → k < C.heap.size → Fr C k) (hstay : ∀ A C row k, A.grownBy C row → Rr w.heap.size A row → Fr A k → Fr C k) (hNd : ∀ k, Nd k → Fr w k) (h0 : I [] w)
    (ax : α → World → Act) (aw : α → World → World) (hag : ∀ (x : α) (W : World), W.grownBy (aw x W) none)
    (hassign : ∀ (l : Nat) (x : α) (W : World) (K : Act → World → Prop), Fx x W → K (ax x W) (aw x W) → assign.wpIn (Fence.wide.inRound l) 3 P (Exit.then K (fun _ _ _ => False)) { tmps := (ps.zip (encs x)).foldl (fun t (p, v) => t.setIfInBounds p v) a.tmps, defers := [] } W)
    (hbody : ∀ (l : Nat) (pre : List α) (x : α) (W0 W : World), w.heap.size ≤ l → l < W0.heap.size → (∀ k, k ≠ l → W.heap[k]? = (aw x W0).heap[k]?) → W.heap.size = (aw x W0).heap.size → I pre W → Fx x W → body.wpIn (Fence.wide.inRound l) 3 P (fun e _ W' => (e = .normal ∧ I (pre ++ [x]) W' ∧ Kt 0 Fr W W') ∨ (e = .ret ∧ Ix (pre ++ [x]) W' ∧ Kt Bs Fr W W')) (ax x W0) W)
    (hdone : ∀ (D : Nat) (xs : List α) (W : World), w.heap.size ≤ D → xs.map pr = its → I xs W → Fr W D → W.heap[D]? = some (.deferred (some [])) → Q .normal { a with defers := { target := .collected D, args := #[] } :: a.defers } W)
    (hstop : ∀ (D : Nat) (pre : List α) (W : World), w.heap.size ≤ D → (∃ r, pre.map pr ++ r = its) → Ix pre W → Fr W D → W.heap[D]? = some (.deferred (some [])) → Code.ret.wpIn Fence.wide 3 P Q { a with defers := { target := .collected D, args := #[] } :: a.defers } W) :
    (Code.rangeFunc g ps assign body).wpIn Fence.wide 3 P Q a w := by
  refine wpIn_rangeFunc ?_
  intro fn hfn
  obtain ⟨rc, hrc⟩ : ∃ rc : LoopState → Option Code → Loop, rc = fun st pe => { state := st, pending := pe, fn, tmps := a.tmps, params := ps, assign, body, defers := w.heap.size } := ⟨_, rfl⟩
  obtain ⟨D, hD⟩ : ∃ D, w.heap.size = D := ⟨_, rfl⟩
  obtain ⟨l, hl⟩ : ∃ l, D + 1 = l := ⟨_, rfl⟩
  obtain ⟨W1, hW1⟩ : ∃ W1, (w.alloc (.deferred (some []))).alloc (.loop (rc .ready none)) = W1 := ⟨_, rfl⟩
  have hg1 : w.grownBy W1 none := by rw [← hW1]; exact gt_none (hg_alloc w _) (hg_alloc _ _)
  have hs1 : W1.heap.size = D + 2 := by rw [← hW1]; simp [hD]
  have hL1 : W1.heap[l]? = some (.loop (rc .ready none)) := by
    rw [← hW1, ← hl, ← hD]; have := World.alloc_heap_new (w.alloc (.deferred (some []))) (.loop (rc .ready none)); rwa [World.size_alloc] at this
  have hD1 : W1.heap[D]? = some (.deferred (some [])) := by
    rw [← hW1, ← hD]; exact (Below.heap_alloc _ _ _ (by simp)).trans (World.alloc_heap_new w _)
  have hb1 : Below wf.heap.size wf W1 := hwf.trans ⟨hg1.os, hg1.tape, hg1.output, hg1.size, fun k hk => hg1.block k (Nat.lt_of_lt_of_le hk hwf.size) (by simp)⟩
  have hFl : Fr W1 l := hnew [] w W1 l h0 hg1 (by omega) (by omega)
  have hFD : Fr W1 D := hnew [] w W1 D h0 hg1 (by omega) (by omega)
  rw [hD] at hFx hI hIx hstay hbody hdone hstop
  have far : ∀ {A B : World} {row : Option Nat} {k : Nat} {o : Obj}, A.grownBy B row → Rr W1.heap.size A row → k < D + 2 → A.heap[k]? = some o → B.heap[k]? = some o := fun hg' hr hk ho => (hg'.block _ (Array.getElem?_eq_some_iff.1 ho).1 (fun e => by have := (hr _ e.symm).1; omega)).trans ho
  refine ⟨l, [{ target := .collected D, args := #[] }], W1, { target := .fn (.func gf) lb, args := #[.func (.yield l) #[] #[]] }, W1, gf, #[.func (.yield l) #[] #[]] ++ lb, W1, ?_, ?_, ?_, ?_, fun _ => by omega, ?_⟩
  · rw [← hl, ← hD, ← hW1, hrc]; exact run_enterLoop_outer _ _ _ _ _
  · simp only [resolve, hg]
    simp [go_sem]
  · intro f' hf'; exact trivial
  · simp [invoke, go_sem, eg]
  · refine callsIn_any (n := 3) ?_
    refine (hseq l (fun xs W => I xs W ∧ W.heap[l]? = some (.loop (rc .ready none)) ∧ W.heap[D]? = some (.deferred (some [])) ∧ Fr W l ∧ Fr W D)
      (fun xs W => Ix xs W ∧ W.heap[l]? = some (.loop (rc .done (some .ret))) ∧ W.heap[D]? = some (.deferred (some [])) ∧ Fr W D) (fun W k => Fr W k ∧ k ≠ l) Bs W1 hb1 ?_ ?_ ⟨hI _ _ _ _ h0 hg1 (rr_none _ _), hL1, hD1, hFl, hFD⟩).mono ?_
    · have hmono : ∀ {A : World} {row : Option Nat}, Rr W1.heap.size A row → Rr D A row := fun h r e => ⟨by have := (h r e).1; omega, (h r e).2⟩
      refine ⟨by omega, fun s A C row hs hg' hr => ⟨hI s A C row hs.1 hg' (hmono hr), far hg' hr (by omega) hs.2.1, far hg' hr (by omega) hs.2.2.1, hstay A C row l hg' (hmono hr) hs.2.2.2.1, hstay A C row D hg' (hmono hr) hs.2.2.2.2⟩,
        fun s A C row hs hg' hr => ⟨hIx s A C row hs.1 hg' (hmono hr), far hg' hr (by omega) hs.2.1, far hg' hr (by omega) hs.2.2.1, hstay A C row D hg' (hmono hr) hs.2.2.2⟩,
        fun W k h => hlt W k h.1,
        fun pre A C k hA hg' h1 h2 => ⟨hnew pre A C k hA.1 hg' h1 h2, fun e => by have := (Array.getElem?_eq_some_iff.1 hA.2.1).1; omega⟩,
        fun A C row k hg' hr hk => ⟨hstay A C row k hg' (hmono hr) hk.1, hk.2⟩, ?_⟩
      rintro pre x W0 ⟨hi0, hl0, hd0, hfl0, hfd0⟩ hfx0
      have hlt0 : l < W0.heap.size := (Array.getElem?_eq_some_iff.1 hl0).1
      have hy := run_yield (P := P) (args := encs x) hl0 (by rw [hrc]; exact hps x)
      rw [hrc] at hy
      have hga := hag x W0
      have hi := hI _ _ _ _ hi0 hga (rr_none _ _)
      have hlr := far hga (rr_none _ _) (by omega) hl0
      have hdr := far hga (rr_none _ _) (by omega) hd0
      have hfx := hFx x _ _ _ hga (rr_none _ _) hfx0
      have hfl := hstay _ _ _ l hga (rr_none _ _) hfl0
      have hfd := hstay _ _ _ D hga (rr_none _ _) hfd0
      have hkt0 : Kt 0 (fun W k => Fr W k ∧ k ≠ l) W0 (aw x W0) := ⟨hga.size, fun k _ hk => ⟨⟨hstay _ _ _ k hga (rr_none _ _) hk.1, hk.2⟩, hga.block k (hlt _ _ hk.1) (by simp)⟩⟩
      refine ⟨fn, _, assign, body, hy, roundIn_of_wpIn hfn (hassign _ x W0 _ hfx0 ?_)⟩
      have hbody0 := hbody l pre x W0
      have hsz0 := hga.size
      generalize hWW : aw x W0 = W at hi hlr hdr hfx hfl hfd hkt0 hbody0 hsz0 ⊢
      have hltW : l < W.heap.size := (Array.getElem?_eq_some_iff.1 hlr).1
      have hrow : ∀ {X : World} {r : Loop}, X.heap[l]? = some (.loop r) → Rr D X (some l) := fun h r e => by cases e; exact ⟨by omega, _, h, rfl⟩
      refine ⟨_, run_beginRound hlr (by rw [hrc]), ?_⟩
      obtain ⟨W2, hW2⟩ : ∃ W2, W.putObj l (.loop { rc .ready none with state := .busy }) = W2 := ⟨_, rfl⟩
      have hg2 : W.grownBy W2 (some l) := by rw [← hW2]; exact grownBy_putObj' W l _
      have hl2 : W2.heap[l]? = some (.loop { rc .ready none with state := .busy }) := by rw [← hW2]; exact World.putObj_heap_same hltW
      have hd2 : W2.heap[D]? = some (.deferred (some [])) := by rw [← hW2]; exact (World.putObj_heap_other (by omega)).trans hdr
      have hi2 := hI _ _ _ _ hi hg2 (hrow hlr)
      have hfx2 := hFx x _ _ _ hg2 (hrow hlr) hfx
      have hfl2 := hstay _ _ _ l hg2 (hrow hlr) hfl
      have hfd2 := hstay _ _ _ D hg2 (hrow hlr) hfd
      have hkt2 : Kt 0 (fun W k => Fr W k ∧ k ≠ l) W W2 := ⟨hg2.size, fun k _ hk => ⟨⟨hstay _ _ _ k hg2 (hrow hlr) hk.1, hk.2⟩, hg2.block k (hlt _ _ hk.1) (fun e => hk.2 (by cases e; rfl))⟩⟩
      have hsz2 : W2.heap.size = W.heap.size := by rw [← hW2]; exact World.putObj_size
      rw [hW2]
      refine wpIn_mono (hbody0 W2 (by omega) hlt0 (fun k hk => by rw [← hW2]; exact World.putObj_heap_other hk) hsz2 hi2 hfx2) ?_
      rintro e a3 W3 hres
      have hkB : Kt Bs Fr W2 W3 := by
        rcases hres with ⟨_, _, h⟩ | ⟨_, _, h⟩
        · exact h.weak (Nat.zero_le _)
        · exact h
      have hl3 : W3.heap[l]? = some (.loop { rc .ready none with state := .busy }) := (hkB.2 l (by omega) hfl2).2.trans hl2
      have hd3 : W3.heap[D]? = some (.deferred (some [])) := (hkB.2 D (by omega) hfd2).2.trans hd2
      have hfl3 := (hkB.2 l (by omega) hfl2).1
      have hfd3 := (hkB.2 D (by omega) hfd2).1
      have lift : ∀ b, Kt b Fr W2 W3 → Kt b (fun W k => Fr W k ∧ k ≠ l) W2 W3 := fun b h => ⟨h.1, fun k hb hk => ⟨⟨(h.2 k hb hk.1).1, hk.2⟩, (h.2 k hb hk.1).2⟩⟩
      have hlt3 : l < W3.heap.size := (Array.getElem?_eq_some_iff.1 hl3).1
      have last : ∀ r' : Loop, Kt 0 (fun W k => Fr W k ∧ k ≠ l) W3 (W3.putObj l (.loop r')) := fun r' => ⟨(grownBy_putObj' W3 l _).size, fun k _ hk => ⟨⟨hstay _ _ _ k (grownBy_putObj' W3 l _) (hrow hl3) hk.1, hk.2⟩, World.putObj_heap_other hk.2⟩⟩
      rcases hres with ⟨rfl, hi3, hkt3⟩ | ⟨rfl, hi3, hkt3⟩
      · have hr := run_endRound (P := P) none hl3
        refine ⟨_, _, hr, .inl ⟨rfl, ⟨hI _ _ _ _ hi3 (grownBy_putObj' W3 l _) (hrow hl3), ?_, (World.putObj_heap_other (by omega)).trans hd3, hstay _ _ _ l (grownBy_putObj' W3 l _) (hrow hl3) hfl3, hstay _ _ _ D (grownBy_putObj' W3 l _) (hrow hl3) hfd3⟩, ((hkt0.trans hkt2).trans (lift 0 hkt3)).trans (last _)⟩⟩
        rw [World.putObj_heap_same hlt3, hrc]
        rfl
      · have hr := run_endRound (P := P) (some .ret) hl3
        refine ⟨_, _, hr, .inr ⟨rfl, ⟨hIx _ _ _ _ hi3 (grownBy_putObj' W3 l _) (hrow hl3), ?_, (World.putObj_heap_other (by omega)).trans hd3, hstay _ _ _ D (grownBy_putObj' W3 l _) (hrow hl3) hfd3⟩, (((hkt0.trans hkt2).weak (Nat.zero_le _)).trans (lift Bs hkt3)).trans ((last _).weak (Nat.zero_le _))⟩⟩
        rw [World.putObj_heap_same hlt3, hrc]
        rfl
    · intro k hk
      have h1 := hNd k hk
      have h2 := hlt _ _ h1
      exact ⟨hstay _ _ _ k hg1 (rr_none _ _) h1, by omega⟩
    · have hrow : ∀ {X : World} {r : Loop}, X.heap[l]? = some (.loop r) → Rr D X (some l) := fun h r e => by cases e; exact ⟨by omega, _, h, rfl⟩
      rintro e W2 ⟨⟨v, rfl⟩, ⟨xs, hS, hi, hl2, hd2, _, hfd2⟩ | ⟨pre, hS, hi, hl2, hd2, hfd2⟩⟩
      · refine ⟨none, _, by have := run_endLoop (P := P) hl2 (by rw [hrc]; simp); rw [hrc] at this; exact this, ?_⟩
        exact hdone D xs _ (Nat.le_refl _) hS (hI _ _ _ _ hi (grownBy_putObj' W2 l _) (hrow hl2)) (hstay _ _ _ D (grownBy_putObj' W2 l _) (hrow hl2) hfd2) ((World.putObj_heap_other (by omega)).trans hd2)
      · refine ⟨some .ret, _, by have := run_endLoop (P := P) hl2 (by rw [hrc]; simp); rw [hrc] at this; exact this, ?_⟩
        exact hstop D pre _ (Nat.le_refl _) hS (hIx _ _ _ _ hi (grownBy_putObj' W2 l _) (hrow hl2)) (hstay _ _ _ D (grownBy_putObj' W2 l _) (hrow hl2) hfd2) ((World.putObj_heap_other (by omega)).trans hd2)
end Go.Proofs.YtikmbjfambjmaaaGreatDoor.Gr
namespace Go.Proofs.YtikmbjfambjmaaaGreatDoor.Gr
open Go.RowKit
set_option linter.unusedVariables false
set_option linter.unusedSimpArgs false
attribute [local go_sem] Oper.semAt_some
theorem loadIn_mid {F : Fence} {nF : Nat} {P : Program} {ops : Array Oper} {rest : List Oper} {op : Oper} {a : Act} {w : World} {Q : Exit → Act → World → Prop} (hgd : op.guard = none) (ty : TypeId) (x : Operand) (ho : op.op = .load ty x)
    (b o : Nat) (hx : a.eval x = .pointer (some ⟨b, o, none⟩)) (cs : List Value) (d : TypeDesc) (hc : w.rangeAt b o cs)
    (hu : P.underlying ty = some d) (hd : d.isRow = true) (hi : (P.info? ty).map (·.size) = some cs.length)
    (h : wpListIn F nF P ops Q rest (a.put op.dst (.agg cs.toArray)) w) : wpListIn F nF P ops Q (op :: rest) a w := by
  refine wpListIn_plain hgd fun K hK => ?_
  unfold Oper.wpIn
  refine ⟨by simp [Oper.about, ho], ?_⟩
  rw [Oper.semAt_plain F _ _ (by rw [ho]; intro c hc'; cases hc')]
  unfold execOp
  simp only [ho, hx, Instr.loadAt, Instr.sureAddr, Sem.run_bind, Sem.run_pure, Result.andThen_ok, run_loadVar_mid w b o ty cs d hc hu hd hi]
  exact hK _ _ h
theorem storeIn_row {F : Fence} {nF : Nat} {P : Program} {ops : Array Oper} {rest : List Oper} {o : Oper} {a : Act} {w : World} {Q : Exit → Act → World → Prop} (hgd : o.guard = none) (ty : TypeId) (x y : Operand) (ho : o.op = .store ty x y)
    (g : Nat) (cells : Array Value) (hx : a.eval x = .pointer (some ⟨g, 0, none⟩)) (hy : a.eval y = .agg cells)
    (t : TypeId) (old : Array Value) (hg : w.heap[g]? = some (.cells old t (0, 0))) (hi : (P.info? ty).map (·.size) = some cells.size)
    (hold : old.size = cells.size) (h1 : cells.all (·.oneCell') = true)
    (h : wpListIn F nF P ops Q rest (a.put o.dst undef) (w.setRow g cells)) : wpListIn F nF P ops Q (o :: rest) a w := by
  refine wpListIn_plain hgd fun K hK => ?_
  unfold Oper.wpIn
  refine ⟨by simp [Oper.about, ho], ?_⟩
  rw [Oper.semAt_plain F _ _ (by rw [ho]; intro c hc'; cases hc')]
  unfold execOp
  simp only [ho, hx, hy, Instr.storeAt, Instr.sureAddr, Sem.run_bind, Sem.run_pure, Result.andThen_ok, run_storeVar_row w g t ty old cells hg hi hold h1]
  exact hK _ _ h
structure Xt where
  it : It
  ev : Value
def encX (x : Xt) : Array Value := #[.agg (encF x.it.2).toArray, x.ev]
def EvIs (w : World) (er : Int) (ev : Value) : Prop := ev = .iface 45 (.int .i64 er) ∨ ∃ g, ev = .iface 79 (.pointer (some ⟨g, 0, none⟩)) ∧ w.cell? ⟨g, 20, none⟩ = some (.int .i64 er)
def Fx (x : Xt) (w : World) : Prop := IdW x.it.2.id ∧ ((x.it.1 = 0 ∧ x.ev = .nilIface) ∨ (x.it.1 ≠ 0 ∧ EvIs w x.it.1 x.ev))
theorem cell_cells {A : World} {p : Addr} {v : Value} (h : A.cell? p = some v) : ∃ o : Obj, A.heap[p.block]? = some o ∧ o.isCells = true := by
  unfold World.cell? at h
  cases ho : A.heap[p.block]? with
  | none => simp [ho] at h
  | some o => exact ⟨o, rfl, by cases o <;> simp_all [Obj.isCells]⟩
theorem cell_stay {A C : World} {B : Nat} {row : Option Nat} (hg : A.grownBy C row) (hr : Rr B A row) {p : Addr} {v : Value} (h : A.cell? p = some v) : C.cell? p = some v := by
  obtain ⟨o, ho, hc⟩ := cell_cells h
  refine (World.cell?_of_block (a := p) (hg.block p.block (Array.getElem?_eq_some_iff.1 ho).1 (fun e => ?_))).trans h
  obtain ⟨_, o', ho', hc'⟩ := hr p.block e.symm
  rw [ho] at ho'
  cases ho'
  rw [hc] at hc'
  cases hc'
theorem EvIs.stay {A C : World} {B : Nat} {row : Option Nat} {er : Int} {ev : Value} (hg : A.grownBy C row) (hr : Rr B A row) (h : EvIs A er ev) : EvIs C er ev := by
  rcases h with h | ⟨g, h, hc⟩
  · exact .inl h
  · exact .inr ⟨g, h, cell_stay hg hr hc⟩
theorem Fx.stay {x : Xt} {A C : World} {B : Nat} {row : Option Nat} (hg : A.grownBy C row) (hr : Rr B A row) (h : Fx x A) : Fx x C := by
  refine ⟨h.1, ?_⟩
  rcases h.2 with h2 | ⟨h2, h3⟩
  · exact .inl h2
  · exact .inr ⟨h2, h3.stay hg hr⟩
theorem gb_below {A C : World} (h : Below A.heap.size A C) : A.grownBy C none := ⟨h.os, h.tape, h.output, h.size, fun k hk _ => h.block k hk⟩
theorem Fx.below {x : Xt} {A C : World} (hb : Below A.heap.size A C) (h : Fx x A) : Fx x C := h.stay (B := 0) (gb_below hb) (rr_none _ _)
theorem Fx.one {x : Xt} {A : World} (h : Fx x A) : x.ev.oneCell' = true ∧ x.ev.cells = #[x.ev] := by
  rcases h.2 with ⟨_, h⟩ | ⟨_, h | ⟨g, h, _⟩⟩ <;> rw [h] <;> exact ⟨rfl, rfl⟩
set_option maxRecDepth 20000 in
theorem info60 : (Tryz.prog.info? 60).map (fun i => (i.zero, i.size, i.bytes)) = some (some (.agg (encF f0).toArray), 24, 64) := by kernel_rfl
theorem size60 : (Tryz.prog.info? 60).map (·.size) = some 24 := by kernel_rfl
set_option maxRecDepth 20000 in
theorem zero60 (w : World) : (zeroValue 60).run Tryz.prog w = .ok (.agg (encF f0).toArray) w := by kernel_rfl
theorem SeqF.mono {α β : Type} {P : Program} {g : Nat} {lb : Array Value} {encs : α → Array Value} {Fx : α → World → Prop} {pr : α → β} {its : List β} {Nd Nd' : Nat → Prop} {wf : World} (h : SeqF P g lb encs Fx pr its Nd wf) (hn : ∀ k, Nd k → Nd' k) : SeqF P g lb encs Fx pr its Nd' wf :=
  fun l J Jx Fr Bs W hW hC hN h0 => h l J Jx Fr Bs W hW hC (fun k hk => hN k (hn k hk)) h0
def PostF (G : Nat) (w : World) (its : List It) (e : Ending) (w' : World) : Prop := Below w.heap.size w w' ∧ ∃ gf lb, e = .returned (.func (.func gf) #[] lb) ∧ (gf = 24 ∨ gf = 38) ∧ SeqF Tryz.prog gf lb encX Fx (·.it) its (fun k => k < G ∨ (w.heap.size ≤ k ∧ k < w'.heap.size)) w'
set_option maxRecDepth 20000 in
theorem only_seq (x : Xt) (w : World) (hF : Fx x w) (b c : Nat) (hb : w.heap[b]? = some (.cells (encF x.it.2).toArray 60 (0, 0))) (hc : w.heap[c]? = some (.cells #[x.ev] 38 (0, 0))) (Nd : Nat → Prop) :
    SeqF Tryz.prog 38 #[.pointer (some ⟨b, 0, none⟩), .pointer (some ⟨c, 0, none⟩)] encX Fx (·.it) [x.it] Nd w := by
  intro l J Jx Fr Bs W hW hC hN h0
  have hbl := (Array.getElem?_eq_some_iff.1 hb).1
  have hcl := (Array.getElem?_eq_some_iff.1 hc).1
  have hbW : W.heap[b]? = some (.cells (encF x.it.2).toArray 60 (0, 0)) := (hW.block b hbl).trans hb
  have hcW : W.cell? ⟨c, 0, none⟩ = some x.ev := by
    have h1 : W.heap[c]? = some (.cells #[x.ev] 38 (0, 0)) := (hW.block c hcl).trans hc
    simp [World.cell?, h1]
  have hFW : Fx x W := hF.stay (B := 0) (C := W) (row := none) ⟨hW.os, hW.tape, hW.output, hW.size, fun k hk _ => hW.block k hk⟩ (rr_none _ _)
  obtain ⟨fn, tmps, assign, body, hy, hR⟩ := hC.yld [] x W h0 hFW
  have HR : Hid (RoundIn Fence.wide 2 Tryz.prog l fn tmps assign body W fun e W' => (e = .returned (.bool true) ∧ J ([] ++ [x]) W' ∧ Kt 0 Fr W W') ∨ (e = .returned (.bool false) ∧ Jx ([] ++ [x]) W' ∧ Kt Bs Fr W W')) := hid (roundIn_any hR)
  obtain ⟨RF, HRF⟩ : ∃ R, Hid (encF x.it.2 = R) := ⟨_, rfl⟩
  have hi60 : (Tryz.prog.info? 60).map (·.size) = some RF.length := by rw [← HRF.out, encF_len hFW.1.1]; exact size60
  have RB : Hid (W.rangeAt b 0 RF) := hid (by rw [← HRF.out]; exact range_row hbW)
  obtain ⟨ev, HEV⟩ : ∃ v, Hid (x.ev = v) := ⟨_, rfl⟩
  unfold encX at hy
  rw [HRF.out, HEV.out] at hy
  rw [HEV.out] at hcW
  clear hR hb hc hbW hF hFW
  refine callsIn_of_wp Tryz.func38 rfl trivial ?_ rfl
  simp only [Tryz.ntmps38, List.size_toArray, List.length_cons, List.length_nil, Nat.reduceAdd, Nat.reduceSub, Array.replicate_succ, Array.replicate_zero, List.push_toArray, List.append_toArray, List.nil_append, List.cons_append]
  gi_wp2_with (refine loadIn_mid rfl 60 _ rfl b 0 rfl RF _ RB.out Tryz.underlying60 rfl hi60 ?_)
  refine HR.out.mono ?_
  rintro e1 W3 (⟨rfl, hJ3, hk3⟩ | ⟨rfl, hJ3, hk3⟩)
  · gi_wp2
    go_end0
    exact ⟨⟨_, rfl⟩, .inl ⟨[x], rfl, hJ3⟩⟩
  · gi_wp2
    go_end0
    exact ⟨⟨_, rfl⟩, .inr ⟨[x], ⟨[], rfl⟩, hJ3⟩⟩
set_option maxRecDepth 20000 in
theorem only_any (G : Nat) (x : Xt) (w : World) (hF : Fx x w) {RF : List Value} (hRF : encF x.it.2 = RF) {ev : Value} (hev : x.ev = ev) : Calls Tryz.prog 23 #[.agg RF.toArray, ev] w (PostF G w [x.it]) := by
  obtain ⟨w1, HW1⟩ : ∃ u, Hid (w.alloc (.cells RF.toArray 60) = u) := ⟨_, rfl⟩
  obtain ⟨w2, HW2⟩ : ∃ u, Hid (w1.alloc (.cells #[ev] 38) = u) := ⟨_, rfl⟩
  obtain ⟨K, HK⟩ : ∃ K, Hid (w.heap.size = K) := ⟨_, rfl⟩
  have hs1 : w1.heap.size = K + 1 := by rw [← HW1.out, ← HK.out]; simp
  have HB1 : Hid (Below w.heap.size w w1) := hid (by rw [← HW1.out]; exact (Below.refl _ w).alloc (Nat.le_refl _) _)
  have HB2 : Hid (Below w.heap.size w w2) := hid (by rw [← HW2.out]; exact HB1.out.alloc HB1.out.size _)
  have hb2 : w2.heap[K]? = some (.cells RF.toArray 60 (0, 0)) := by
    rw [← HW2.out, ← HK.out, Below.heap_alloc _ _ _ (by rw [hs1, ← HK.out]; omega), ← HW1.out]; exact heap_alloc_new w _
  have hc2 : w2.heap[K + 1]? = some (.cells #[ev] 38 (0, 0)) := by rw [← HW2.out, ← hs1]; exact heap_alloc_new w1 _
  have HP : Hid (PostF G w [x.it] (.returned (.func (.func 38) #[] #[.pointer (some ⟨K, 0, none⟩), .pointer (some ⟨K + 1, 0, none⟩)])) w2) := hid ⟨HB2.out, 38, _, rfl, .inr rfl, only_seq x w2 (hF.below HB2.out) K (K + 1) (by rw [hRF]; exact hb2) (by rw [hev]; exact hc2) _⟩
  have key : ev = .nilIface ∨ (∃ k, ev = .iface 45 (.int .i64 k)) ∨ ∃ g, ev = .iface 79 (.pointer (some ⟨g, 0, none⟩)) := by
    rw [← hev]
    rcases hF.2 with ⟨_, h⟩ | ⟨_, h | ⟨g, h, _⟩⟩
    · exact .inl h
    · exact .inr (.inl ⟨_, h⟩)
    · exact .inr (.inr ⟨g, h⟩)
  clear hb2 hc2 hRF hev hF
  rcases key with rfl | ⟨k, rfl⟩ | ⟨g, rfl⟩
  all_goals
    go_enter Tryz.func23, Tryz.ntmps23
    go_wp2_with fail
    go_ret
    rw [HW1.out, HW2.out, HK.out]
    exact HP.out
end Go.Proofs.YtikmbjfambjmaaaGreatDoor.Gr
