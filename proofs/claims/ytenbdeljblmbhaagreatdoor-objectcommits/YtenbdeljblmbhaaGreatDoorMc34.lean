import Derived.Test.YtenbdeljblmbhaaGreatDoorMc13
import Derived.Test.YtenbdeljblmbhaaGreatDoorMc27
/- A region that draws its order: something holds till one operation comes up, the last to write; what waits for it may be taken first. -/
namespace Go.Proofs.YtenbdeljblmbhaaGreatDoor
open Go.RowKit
set_option linter.unusedVariables false

section
variable {P : Program} {md : Region.Mode} {ops : Array Oper} {Q : Exit → Act → World → Prop} {S : World → Prop} {n : Nat}
def anyU (P : Program) (md : Region.Mode) (ops : Array Oper) (Q : Exit → Act → World → Prop) (S : World → Prop) (n : Nat) : Nat → Array Bool → Act → World → Prop
  | 0, listed, a, w => Region.ready md ops listed = [] ∧ Q .normal a w
  | fuel + 1, listed, a, w =>
    (Region.ready md ops listed = [] → Q .normal a w) ∧
    ∀ i ∈ Region.ready md ops listed, wpOp P ops Q i (fun a' w' => (i = n ∨ S w') ∧ anyU P md ops Q S n fuel (listed.setIfInBounds i true) a' w') a w
theorem any_of_U : ∀ (fuel : Nat) (listed : Array Bool) (a : Act) (w : World), anyU P md ops Q S n fuel listed a w → wpAny P md ops Q fuel listed a w
  | 0, _, _, _, h => h
  | fuel + 1, _, _, _, h => ⟨h.1, fun i hi => wpOp_mono (fun a' w' h' => any_of_U fuel _ a' w' h'.2) (h.2 i hi)⟩
/-- Operation n waits for operation i. -/
def waits (md : Region.Mode) (ops : Array Oper) (n i : Nat) : Bool := match ops[n]? with
  | some o => o.after.any fun e => Region.binds md e && e.on == i
  | none => true
theorem U_first {i : Nat} {oi : Oper} {v : Value} (hi : ops[i]? = some oi) (hsel : ∀ (j : Nat) (o : Oper) cs b, ops[j]? = some o → o.op ≠ .select cs b) (hn : waits md ops n i = true)
    (hQ : ∀ c a w, Q (.panic c) (a.put oi.dst v) w → Q (.panic c) a w) :
    ∀ (fuel : Nat) (listed : Array Bool) (a : Act) (w : World),
      (∀ j oj, ops[j]? = some oj → j ≠ i → listed.getD j true = false → (∀ e ∈ oj.after, Region.binds md e = true → e.on ≠ i) → oi.apart ops oj = true) →
      i ∈ Region.ready md ops listed → YieldsIf P ops S oi v a → S w →
      anyU P md ops Q S n fuel (listed.setIfInBounds i true) (a.put oi.dst v) w → anyU P md ops Q S n (fuel + 1) listed a w := by
  intro fuel
  induction fuel with
  | zero =>
    intro listed a w _ hr hy hS H
    refine ⟨fun h => (by rw [h] at hr; cases hr), fun j hj => ?_⟩
    by_cases hji : j = i
    · subst hji; exact hy.wpOp hi hS ⟨.inr hS, H⟩
    · have := ready_mono hj hji
      rw [H.1] at this
      cases this
  | succ fuel ih =>
    intro listed a w hfree hr hy hS H
    refine ⟨fun h => (by rw [h] at hr; cases hr), fun j hj => ?_⟩
    by_cases hji : j = i
    · subst hji; exact hy.wpOp hi hS ⟨.inr hS, H⟩
    · have h1 := H.2 j (ready_mono hj hji)
      obtain ⟨hjun, oj, hoj, hall⟩ := mem_ready.1 hj
      have hnot : ∀ e ∈ oj.after, Region.binds md e = true → e.on ≠ i := fun e he hb heq => by
        have g1 := hall e he hb
        have g0 := (mem_ready.1 hr).1
        rw [heq] at g1
        rcases Nat.lt_or_ge i listed.size with h' | h'
        · simp [h'] at g0 g1; rw [g0] at g1; cases g1
        · simp [Array.getElem?_eq_none h'] at g1
      have hjn : j ≠ n := fun e => by
        subst e
        unfold waits at hn
        rw [hoj] at hn
        simp only [Array.any_eq_true] at hn
        obtain ⟨k, hk, hk2⟩ := hn
        simp only [Bool.and_eq_true, beq_iff_eq] at hk2
        exact hnot _ (Array.getElem_mem hk) hk2.1 hk2.2
      have h2 := wpOp_putIf hoj (hfree j oj hoj hji hjun hnot) (fun cs b => hsel i oi cs b hi) (fun cs b => hsel j oj cs b hoj) hQ hy h1
      have hfree' : ∀ k ok, ops[k]? = some ok → k ≠ i → (listed.setIfInBounds j true).getD k true = false →
          (∀ e ∈ ok.after, Region.binds md e = true → e.on ≠ i) → oi.apart ops ok = true := fun k ok hk hki hun hno => by
        refine hfree k ok hk hki ?_ hno
        by_cases hjk : j = k
        · subst hjk; exact hjun
        · rw [getD_set_ne true hjk] at hun; exact hun
      refine wpOp_mono (fun a' w' h3 => ⟨h3.2.1, ?_⟩) h2
      have hS' : S w' := h3.2.1.resolve_left hjn
      refine ih (listed.setIfInBounds j true) a' w' hfree' (ready_mono hr (Ne.symm hji)) h3.1 hS' ?_
      rw [Array.setIfInBounds_comm _ _ hji]
      exact h3.2.2
end
theorem takeU {P : Program} {md : Region.Mode} {Q : Exit → Act → World → Prop} {S : World → Prop} {n : Nat} {l : List Oper} {i : Nat} {oi : Oper} {v : Value} {fuel : Nat} {listed : Array Bool} {a : Act} {w : World} (hi : l[i]? = some oi)
    (hs : Region.noSelect l.toArray = true) (hf : Region.free md l.toArray listed i = true) (hr : (Region.ready md l.toArray listed).contains i = true) (hn : waits md l.toArray n i = true)
    (hQ : ∀ c a w, Q (.panic c) (a.put oi.dst v) w → Q (.panic c) a w) (hy : YieldsIf P l.toArray S oi v a) (hS : S w)
    (h : anyU P md l.toArray Q S n fuel (listed.setIfInBounds i true) (a.put oi.dst v) w) : anyU P md l.toArray Q S n (fuel + 1) listed a w := by
  have hi' : l.toArray[i]? = some oi := by rw [List.getElem?_toArray]; exact hi
  exact U_first hi' (Region.noSelect_spec hs) hn hQ fuel listed a w (Region.free_spec hi' hf) (by simpa using hr) hy hS h
/-- One operation that may come up. -/
def oneU (P : Program) (md : Region.Mode) (ops : Array Oper) (Q : Exit → Act → World → Prop) (S : World → Prop) (n fuel : Nat) (listed : Array Bool) (a : Act) (w : World) (i : Nat) : Prop :=
  wpOp P ops Q i (fun a' w' => (i = n ∨ S w') ∧ anyU P md ops Q S n fuel (listed.setIfInBounds i true) a' w') a w
theorem readyU1 {P : Program} {md : Region.Mode} {Q : Exit → Act → World → Prop} {S : World → Prop} {n i fuel : Nat} {ops : Array Oper} {listed : Array Bool} {a : Act} {w : World} (hr : Region.ready md ops listed = [i])
    (h : oneU P md ops Q S n fuel listed a w i) : anyU P md ops Q S n (fuel + 1) listed a w :=
  ⟨fun h0 => (by rw [hr] at h0; cases h0), fun j hj => by rw [hr] at hj; obtain rfl := List.mem_singleton.1 hj; exact h⟩
theorem readyU2 {P : Program} {md : Region.Mode} {Q : Exit → Act → World → Prop} {S : World → Prop} {n i i' fuel : Nat} {ops : Array Oper} {listed : Array Bool} {a : Act} {w : World} (hr : Region.ready md ops listed = [i, i'])
    (h : oneU P md ops Q S n fuel listed a w i) (h' : oneU P md ops Q S n fuel listed a w i') : anyU P md ops Q S n (fuel + 1) listed a w :=
  ⟨fun h0 => (by rw [hr] at h0; cases h0), fun j hj => by
    rw [hr] at hj
    rcases List.mem_cons.1 hj with rfl | hj
    · exact h
    · obtain rfl := List.mem_singleton.1 hj; exact h'⟩
theorem readyU3 {P : Program} {md : Region.Mode} {Q : Exit → Act → World → Prop} {S : World → Prop} {n i i' i'' fuel : Nat} {ops : Array Oper} {listed : Array Bool} {a : Act} {w : World} (hr : Region.ready md ops listed = [i, i', i''])
    (h : oneU P md ops Q S n fuel listed a w i) (h' : oneU P md ops Q S n fuel listed a w i') (h'' : oneU P md ops Q S n fuel listed a w i'') : anyU P md ops Q S n (fuel + 1) listed a w :=
  ⟨fun h0 => (by rw [hr] at h0; cases h0), fun j hj => by
    rw [hr] at hj
    rcases List.mem_cons.1 hj with rfl | hj
    · exact h
    · rcases List.mem_cons.1 hj with rfl | hj
      · exact h'
      · obtain rfl := List.mem_singleton.1 hj; exact h''⟩
theorem consU {P : Program} {md : Region.Mode} {Q : Exit → Act → World → Prop} {S : World → Prop} {n : Nat} {l : List Oper} {fuel : Nat} {listed : Array Bool} {a : Act} {w : World} {i : Nat} {o : Oper} (ho : l[i]? = some o)
    (h : ∀ K' : Act → World → Prop, Shut (∀ a w, (i = n ∨ S w) → anyU P md l.toArray Q S n fuel (listed.setIfInBounds i true) a w → K' a w) → if Region.wanted o (yielded l.toArray a.tmps) = true then Oper.wp P o a w K' Q else K' (a.put o.dst undef) w) :
    oneU P md l.toArray Q S n fuel listed a w i := by
  have ho' : l.toArray[i]? = some o := by rw [List.getElem?_toArray]; exact ho
  exact wpOp_step ho' (fun K' hK => h K' (fun a w hS hW => hK a w ⟨hS, hW⟩))
theorem doneU {P : Program} {md : Region.Mode} {Q : Exit → Act → World → Prop} {S : World → Prop} {n : Nat} {ops : Array Oper} {listed : Array Bool} {a : Act} {w : World} (hr : Region.ready md ops listed = []) (h : Q .normal a w) :
    ∀ fuel, anyU P md ops Q S n fuel listed a w
  | 0 => ⟨hr, h⟩
  | _ + 1 => ⟨fun _ => h, by rw [hr]; simp⟩
theorem region_U {P : Program} {Q : Exit → Act → World → Prop} {id : Nat} {a : Act} {w : World} {ops : Array Oper} (S : World → Prop) (n : Nat) (hm : P.follows .mixedOrders = true)
    (h : anyU P .any ops Q S n ops.size (Array.replicate ops.size false) a w.drew) : (Code.region id ops true).wp P Q a w :=
  wp_region_any hm (any_of_U _ _ _ _ h)
end Go.Proofs.YtenbdeljblmbhaaGreatDoor
/- Package object: a commit, read: what is used on the way. -/
namespace Go.Proofs.YtenbdeljblmbhaaGreatDoor
open Go.RowKit
set_option linter.unusedVariables false
set_option linter.unusedSimpArgs false
def wTree : List UInt8 := [116, 114, 101, 101]
def wParent : List UInt8 := [112, 97, 114, 101, 110, 116]
def wAuthor : List UInt8 := [97, 117, 116, 104, 111, 114]
def wCommitter : List UInt8 := [99, 111, 109, 109, 105, 116, 116, 101, 114]
/-- Does a text begin with the word of a parent? -/
def hasP (s : List UInt8) : Bool := Lib.hasPrefix s (wParent ++ [32])
/-- Parents, taken one by one off a text's front. -/
inductive PQs (s : List UInt8) : List (List Int) → List UInt8 → Prop
  | zero : PQs s [] s
  | step {ids : List (List Int)} {r : List UInt8} {fr : List Int} : PQs s ids r → hasP r = true → PId (fld r wParent) fr → PQs s (ids ++ [fr]) (rst r)
theorem PQs.le {s : List UInt8} {ids : List (List Int)} {r : List UInt8} (h : PQs s ids r) : r.length + ids.length ≤ s.length := by
  induction h with
  | zero => simp
  | @step ids r fr h1 h2 h3 ih =>
    have h4 : (rst r).length + 1 ≤ r.length := by
      have h5 : 0 < r.length := by
        rcases r with _ | ⟨x, r⟩
        · exact absurd h2 (by decide)
        · simp
      unfold rst Lib.cut
      split
      · rename_i i hi
        simp only [List.length_drop, List.length_cons, List.length_nil]
        omega
      · simp only [List.length_nil]; omega
    simp only [List.length_append, List.length_cons, List.length_nil]
    omega
theorem PQs.wf {s : List UInt8} {ids : List (List Int)} {r : List UInt8} (h : PQs s ids r) : WfI ids := by
  induction h with
  | zero => intro x hx; cases hx
  | @step ids r fr h1 h2 h3 ih =>
    intro x hx
    rcases List.mem_append.1 hx with hx | hx
    · exact ih x hx
    · have : x = fr := by simpa using hx
      subst this
      exact ⟨h3.1, h3.2.1⟩
/-- What 'commitOf' reads. -/
def TC (s : List UInt8) (C : Cm) : Prop := PId (fld s wTree) C.tree ∧ ∃ r, PQs (rst s) C.ids r ∧ hasP r = false ∧ PP (fld r wAuthor) C.au ∧ PP (fld (rst r) wCommitter) C.co ∧ C.msg = rst (rst (rst r))
set_option maxRecDepth 20000 in
theorem has_any (s : List UInt8) (g : Nat) (w : World) (hg : w.heap[g]? = some (.cells #[.string ⟨s.toArray⟩] 220 (0, 0))) :
    Calls Tryz.prog 139 #[.pointer (some ⟨g, 0, none⟩), .string ⟨wParent.toArray⟩] w fun e w' => e = .returned (.bool (hasP s)) ∧ w' = w := by
  obtain ⟨S, HS⟩ : ∃ S : ByteArray, Hid (⟨s.toArray⟩ = S) := ⟨_, rfl⟩
  obtain ⟨b, HB⟩ : ∃ b, Hid (hasP s = b) := ⟨_, rfl⟩
  obtain ⟨Wd, HW⟩ : ∃ S : ByteArray, Hid (⟨wParent.toArray⟩ = S) := ⟨_, rfl⟩
  obtain ⟨W2, HW2⟩ : ∃ S : ByteArray, Wd ++ ⟨#[32]⟩ = S := ⟨_, rfl⟩
  have HP : Hid (∀ w, Calls Tryz.prog 175 #[.string S, .string W2] w fun e w' => e = .returned (.bool b) ∧ w' = w) := fun w => by
    have h2 : W2 = ⟨(wParent ++ [32]).toArray⟩ := by rw [← HW2, ← HW.out, show (⟨#[32]⟩ : ByteArray) = ⟨[32].toArray⟩ from rfl]; exact str_app _ _
    rw [h2, ← HS.out, ← HB.out]
    exact Any.strings_HasPrefix Tryz.lays99 ⟨s.toArray⟩ ⟨(wParent ++ [32]).toArray⟩ w
  have hWs : Wd.size ≤ 100 := by rw [← HW.out]; decide
  have g1 : ¬ 9223372036854775807 < Wd.size + 1 := by omega
  have g2 : ¬ 9223372036854775807 ≤ Wd.size := by omega
  have l3 : (⟨#[32]⟩ : ByteArray).size = 1 := rfl
  rw [HS.out] at hg
  have hc : w.cell? ⟨g, 0, none⟩ = some (.string S) := by rw [cell_of_row w g 0 _ _ _ hg]; rfl
  rw [HB.out, HW.out]
  clear hg
  go_enter Tryz.func139, Tryz.ntmps139
  go_wp2_with fail
  refine (HP.out w).mono ?_
  rintro ev w' ⟨rfl, rfl⟩
  go_wp2
  go_ret
  exact ⟨rfl, rfl⟩
/-- A commit of nothing but a tree. -/
def cm0 (fr : List Int) : Cm := ⟨fr, [], ⟨[], [], 0, 0⟩, ⟨[], [], 0, 0⟩, []⟩
set_option maxRecDepth 20000 in
theorem zero60 (w : World) : (zeroValue 60).run Tryz.prog w = .ok (.agg (cmV (cm0 z20) none 0).toArray) w := by kernel_rfl
set_option maxRecDepth 20000 in
theorem built60 (fr : List Int) (h : fr.length = 20) : Tryz.prog.built 60 [(0, .agg (row .u8 fr).toArray)] = some (cmV (cm0 fr) none 0).toArray := by
  obtain ⟨a0, a1, a2, a3, a4, a5, a6, a7, a8, a9, a10, a11, a12, a13, a14, a15, a16, a17, a18, a19, rfl⟩ := list20 fr h
  kernel_rfl
set_option maxRecDepth 20000 in
theorem fold60 (fr : List Int) (h : fr.length = 20) : List.foldl (fun (cs : Array Value) (x : Value × Nat) => cs.setIfInBounds x.snd x.fst) (cmV (cm0 z20) none 0).toArray (row .u8 fr).zipIdx = (cmV (cm0 fr) none 0).toArray := by
  obtain ⟨a0, a1, a2, a3, a4, a5, a6, a7, a8, a9, a10, a11, a12, a13, a14, a15, a16, a17, a18, a19, rfl⟩ := list20 fr h
  kernel_rfl
theorem cmV_set (c : Cm) (a : Option Addr) (cap : Nat) (h : c.tree.length = 20) (i : Nat) (v : Value) : (cmV c a cap).set (20 + i) v = row .u8 c.tree ++ (cmT c a cap).set i v := by
  have hl : (row .u8 c.tree).length = 20 := by rw [row_len]; exact h
  unfold cmV
  rw [List.set_append_right _ _ (by omega), hl, Nat.add_sub_cancel_left]
/-- While a commit is read: the reader, the commit, the answer's place. -/
structure CS (G G4 : Nat) (zr : Array Value) (r : ByteArray) (C : Cm) (a : Option Addr) (cap : Nat) (w W : World) : Prop where
  below : Below G w W
  box : W.heap[G + 1]? = some (.cells #[.string r] 220 (0, 0))
  com : W.heap[G4]? = some (.cells (cmV C a cap).toArray 60 (0, 0))
  res : W.heap[G]? = some (.cells zr 60 (0, 0))
section
variable {G G4 : Nat} {zr : Array Value} {r r' : ByteArray} {C C' : Cm} {a a' : Option Addr} {cap cap' : Nat} {w W W' : World}
theorem CS.rd (h : CS G G4 zr r C a cap w W) (h4 : G + 1 < G4) (hr : Rd (G + 1) r' W W') : CS G G4 zr r' C a cap w W' :=
  ⟨hr.below h.below (by omega) (lt_of_some h.box), hr.box, (hr.block G4 (lt_of_some h.com) (by omega)).trans h.com, (hr.block G (lt_of_some h.res) (by omega)).trans h.res⟩
theorem CS.grow (h : CS G G4 zr r C a cap w W) (hb : Below W.heap.size W W') : CS G G4 zr r C a cap w W' :=
  ⟨h.below.trans (hb.mono (Nat.le_of_lt (lt_of_some h.res))), (hb.block _ (lt_of_some h.box)).trans h.box, (hb.block _ (lt_of_some h.com)).trans h.com, (hb.block _ (lt_of_some h.res)).trans h.res⟩
theorem CS.grown (h : CS G G4 zr r C a cap w W) (h4 : G + 1 < G4) {q : Option Nat} (hg : W.grownBy W' q) (hq : ∀ k, q = some k → G4 < k) : CS G G4 zr r C a cap w W' := by
  have hne : ∀ b, b ≤ G4 → some b ≠ q := fun b hb e => by have := hq b e.symm; omega
  exact ⟨h.below.grown hg (Nat.le_of_lt (lt_of_some h.res)) (fun k hk => by have := hq k hk; omega), (hg.block _ (lt_of_some h.box) (hne _ (by omega))).trans h.box, (hg.block _ (lt_of_some h.com) (hne _ (Nat.le_refl _))).trans h.com, (hg.block _ (lt_of_some h.res) (hne _ (by omega))).trans h.res⟩
theorem CS.set (h : CS G G4 zr r C a cap w W) (h4 : G + 1 < G4) (hl : C.tree.length = 20) (i : Nat) (v : Value) (he : row .u8 C.tree ++ (cmT C a cap).set i v = cmV C' a' cap') : CS G G4 zr r C' a' cap' w (W.setCell ⟨G4, 20 + i, none⟩ v) :=
  ⟨h.below.setCell (by show G ≤ G4; omega) _, (heap_setCell_other W ⟨G4, 20 + i, none⟩ (G + 1) v (by show G + 1 ≠ G4; omega)).trans h.box, by rw [heap_setCell_same W G4 (20 + i) _ 60 v h.com, List.setIfInBounds_toArray, cmV_set C a cap hl, he], (heap_setCell_other W ⟨G4, 20 + i, none⟩ G v (by show G ≠ G4; omega)).trans h.res⟩
theorem CS.cell (h : CS G G4 zr r C a cap w W) (hl : C.tree.length = 20) (i : Nat) (v : Value) (hv : (cmT C a cap)[i]? = some v) : W.cell? ⟨G4, 20 + i, none⟩ = some v ∧ W.frozen? ⟨G4, 20 + i, none⟩ = false :=
  ⟨(cell_of_row W G4 (20 + i) _ _ _ h.com).trans (by rw [List.getElem?_toArray, cmV_at C a cap hl]; exact hv), frozen_of_row W G4 (20 + i) _ _ h.com⟩
theorem CS.au (h : CS G G4 zr r C a cap w W) (h4 : G + 1 < G4) (hl : C.tree.length = 20) (p : Per) : CS G G4 zr r { C with au := p } a cap w (W.setCells G4 21 (perV p).toList) := by
  have h1 := h.set (C' := { C with au := { C.au with name := p.name } }) (a' := a) (cap' := cap) h4 hl 1 (.string ⟨p.name.toArray⟩) rfl
  have h2 := h1.set (C' := { C with au := { C.au with name := p.name, mail := p.mail } }) (a' := a) (cap' := cap) h4 hl 2 (.string ⟨p.mail.toArray⟩) rfl
  have h3 := h2.set (C' := { C with au := { C.au with name := p.name, mail := p.mail, time := p.time } }) (a' := a) (cap' := cap) h4 hl 3 (.int .i64 p.time) rfl
  exact h3.set (C' := { C with au := p }) (a' := a) (cap' := cap) h4 hl 4 (.int .i64 p.zone) rfl
theorem CS.co (h : CS G G4 zr r C a cap w W) (h4 : G + 1 < G4) (hl : C.tree.length = 20) (p : Per) : CS G G4 zr r { C with co := p } a cap w (W.setCells G4 25 (perV p).toList) := by
  have h1 := h.set (C' := { C with co := { C.co with name := p.name } }) (a' := a) (cap' := cap) h4 hl 5 (.string ⟨p.name.toArray⟩) rfl
  have h2 := h1.set (C' := { C with co := { C.co with name := p.name, mail := p.mail } }) (a' := a) (cap' := cap) h4 hl 6 (.string ⟨p.mail.toArray⟩) rfl
  have h3 := h2.set (C' := { C with co := { C.co with name := p.name, mail := p.mail, time := p.time } }) (a' := a) (cap' := cap) h4 hl 7 (.int .i64 p.time) rfl
  exact h3.set (C' := { C with co := p }) (a' := a) (cap' := cap) h4 hl 8 (.int .i64 p.zone) rfl
end
/-- Ids in a row of their own. -/
def OI (B : Nat) (a : Option Addr) (cap : Nat) (ids : List (List Int)) (W : World) : Prop := W.ownsRow B 32 20 (.slice a ids.length cap) ids.length (ids.flatMap (row .u8))
theorem OI.keep {B : Nat} {a : Option Addr} {cap : Nat} {ids : List (List Int)} {W W' : World} (h : OI B a cap ids W) (hb : Below W.heap.size W W') : OI B a cap ids W' := World.ownsRow.kept h (grown_of_below hb none) (by
  cases a with
  | none => left; rfl
  | some x => right; simp [Value.ownBlock])
theorem OI.rd {B g : Nat} {r : ByteArray} {a : Option Addr} {cap : Nat} {ids : List (List Int)} {W W' : World} (h : OI B a cap ids W) (hr : Rd g r W W') (hg : g < B) : OI B a cap ids W' := by
  have hgr : W.grownBy W' (some g) := ⟨hr.os, hr.tape, hr.output, hr.size, fun k hk hne => hr.block k hk (fun e => hne (by rw [e]))⟩
  refine World.ownsRow.kept h hgr ?_
  obtain ⟨_, ⟨hv, _⟩ | ⟨g2, cap2, cur, hv, hb, _⟩⟩ := h
  · rw [hv]; left; rfl
  · rw [hv]; right
    simp [Value.ownBlock]
    omega
theorem flat_at (ids : List (List Int)) (h : WfI ids) : ∀ (i j : Nat) (v : Value), i < ids.length → (row .u8 (ids.getD i []))[j]? = some v → (ids.flatMap (row .u8))[i * 20 + j]? = some v := by
  induction ids with
  | nil => intro i j v hi; simp at hi
  | cons x t ih =>
    intro i j v hi hv
    have hx : (row .u8 x).length = 20 := by rw [row_len]; exact (h x (by simp)).1
    rw [List.flatMap_cons]
    cases i with
    | zero =>
      have hj : j < (row .u8 x).length := (List.getElem?_eq_some_iff.1 (by simpa using hv)).1
      rw [Nat.zero_mul, Nat.zero_add, List.getElem?_append_left hj]
      simpa using hv
    | succ i =>
      rw [List.getElem?_append_right (by rw [hx, Nat.succ_mul]; omega), hx, show (i + 1) * 20 + j - 20 = i * 20 + j by omega]
      exact ih (fun y hy => h y (by simp [hy])) i j v (by simpa using hi) (by simpa using hv)
theorem OI.pa {B : Nat} {a : Option Addr} {cap : Nat} {ids : List (List Int)} {W : World} (h : OI B a cap ids W) (hw : WfI ids) : Pa W a cap ids := by
  obtain ⟨hl, ⟨hv, h0⟩ | ⟨g, cap2, cur, hv, hb, hh, hkc, hcm, hsz, htk⟩⟩ := h
  · simp only [Value.slice.injEq] at hv
    obtain ⟨rfl, _, rfl⟩ := hv
    exact ⟨by omega, fun h => by omega, fun _ => rfl⟩
  · simp only [Value.slice.injEq] at hv
    obtain ⟨rfl, _, rfl⟩ := hv
    refine ⟨hkc, fun _ => ⟨g, 0, rfl, (Array.getElem?_eq_some_iff.1 hh).1, fun i hi j v hv => ?_⟩, fun e => by cases e⟩
    have h1 := flat_at ids hw i j v hi hv
    rw [← htk] at h1
    rw [Nat.zero_add, cell_of_row W g (i * 20 + j) _ _ _ hh]
    have hlt : i * 20 + j < ids.length * 20 := by
      have h2 := (List.getElem?_eq_some_iff.1 h1).1
      rw [List.length_take] at h2
      omega
    rw [List.getElem?_take_of_lt hlt] at h1
    simpa using h1
end Go.Proofs.YtenbdeljblmbhaaGreatDoor
