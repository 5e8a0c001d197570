import Derived.Test.YtmpjapcijjjlbaaGreatDoorChecked
import Derived.RowKit
import Derived.Below
import Derived.WalkKit
import Derived.WalkSpells
import Derived.WalkLawsBesides
import Derived.Deep.AppendLies
import Derived.Deep.LoopGhost
import Derived.Deep.RegionWith
import Derived.Deep.QuietTactic
import Derived.BigQuiet
import Derived.Laws.BitsAllLaws
import Derived.Laws.CopyOwn
import Derived.Laws.IdiomCopy
import Derived.Deep.RegionHeld3
import Derived.Deep.RegionLaw
import Derived.Deep.DrawnRows
import Derived.Deep.MidRow
import Derived.Maps.AppendAt
import Derived.Deep.RegionHeld
import Derived.OrdersHeld
import Derived.Great.BuildSlice
import Derived.Maps.OwnSet
import Derived.Maps.OwnOps
import Derived.DeepKeys4
import Derived.Lib.Bytealg
import Derived.Lib.IndexLaws
import Derived.Laws.IdiomStrings
import Derived.Laws.BytesArg
namespace Go.Proofs.YtmpjapcijjjlbaaGreatDoor
open Go.RowKit
set_option linter.unusedVariables false
theorem hid {p : Prop} (h : p) : Hid p := h
theorem ret_int {k : IntKind} {a b : Int} (h : a = b) : Ending.returned (.int k a) = .returned (.int k b) := by rw [h]
theorem info_parts {o : Option TypeInfo} {z : Value} {a b : Nat} (h : o.map (fun i => (i.zero, i.size, i.bytes)) = some (some z, a, b)) : ∃ i, o = some i ∧ i.zero = some z ∧ i.size = a ∧ i.bytes = b := by
  cases o with
  | none => simp at h
  | some i => simp at h; exact ⟨i, rfl, h.1, h.2.1, h.2.2⟩
theorem Tryz.info5 : (Tryz.prog.info? 5).map (fun i => (i.zero, i.size, i.bytes)) = some (some (.int .u8 0), 1, 1) := by kernel_rfl
theorem Tryz.size5 : (Tryz.prog.info? 5).map (·.size) = some 1 := by kernel_rfl
def row (k : IntKind) (zs : List Int) : List Value := zs.map (Value.int k)
theorem range_row {w : World} {g : Nat} {cs : List Value} {t : TypeId} {fr : Nat × Nat} (h : w.heap[g]? = some (.cells cs.toArray t fr)) : w.rangeAt g 0 cs := fun j v hv => by
  rw [Nat.zero_add, cell_of_row w g j _ t fr h]; simpa using hv
theorem results_mid {P : Program} {fn : Func} {p : Tmp} {ty : TypeId} (h : fn.results = #[.cell p ty]) (tmps : Array Value) (w : World) (g : Nat) (cs : List Value) (d : TypeDesc)
    (hp : tmps.getD p undef = .pointer (some ⟨g, 0, none⟩)) (hc : w.rangeAt g 0 cs) (hu : P.underlying ty = some d) (hd : d.isRow = true) (hi : (P.info? ty).map (·.size) = some cs.length) :
    (results fn tmps).run P w = .ok (.agg cs.toArray) w := by
  have hp' : tmps[p]?.getD undef = .pointer (some ⟨g, 0, none⟩) := by simpa using hp
  simp [results, h, hp', asAddr, run_loadVar_mid w g 0 ty cs d hc hu hd hi]
theorem below_setCells {B g : Nat} (hB : B ≤ g) : ∀ (vs : List Value) (o : Nat) (w0 w : World), Below B w0 w → Below B w0 (w.setCells g o vs)
  | [], _, _, _, h => h
  | v :: r, o, w0, _, h => below_setCells hB r (o + 1) w0 _ (h.setCell (p := ⟨g, o, none⟩) hB v)
theorem size_setCells (g : Nat) : ∀ (vs : List Value) (o : Nat) (w : World), (w.setCells g o vs).heap.size = w.heap.size
  | [], _, _ => rfl
  | _ :: r, o, _ => (size_setCells g r (o + 1) _).trans (by simp [World.setCell])
theorem own_lt {w : World} {B : Nat} {e : TypeId} {s : Nat} {v : Value} {n : Nat} {xs : List Value} (h : w.ownsRow B e s v n xs) (k : Nat) (hk : v.ownBlock = some k) : B ≤ k ∧ k < w.heap.size := h.lt k hk
theorem below_step {B : Nat} {w0 w wx w3 : World} {r : Option Nat} (h : Below B w0 w) (hB : B ≤ w0.heap.size) (hx : w.grownBy wx none) (hg : wx.grownBy w3 r) (hr : ∀ k, r = some k → B ≤ k) : Below B w0 w3 :=
  (h.grown hx (Nat.le_trans hB h.size) (fun k h => by cases h)).grown hg (Nat.le_trans (Nat.le_trans hB h.size) hx.size) hr
def IsB (l : List Int) : Prop := ∀ x ∈ l, 0 ≤ x ∧ x < 256
theorem IsB.at {l : List Int} (h : IsB l) (i : Nat) : 0 ≤ l.getD i 0 ∧ l.getD i 0 < 256 := by
  by_cases hi : i < l.length
  · exact h _ (by rw [List.getD_eq_getElem?_getD, List.getElem?_eq_getElem hi]; exact List.getElem_mem _)
  · rw [List.getD_eq_getElem?_getD, List.getElem?_eq_none (by omega)]; simp
end Go.Proofs.YtmpjapcijjjlbaaGreatDoor
namespace Go.Proofs.YtmpjapcijjjlbaaGreatDoor
open Go.RowKit
set_option linter.unusedVariables false
set_option linter.unusedSimpArgs false
theorem step_callv {P : Program} {ops : Array Oper} {o : Oper} {a : Act} {w : World} {K : Act → World → Prop} {Q : Exit → Act → World → Prop} {E : Prop} (hg : o.guard = none) (f : FuncId) (args : List Operand) (ts : Array TypeId) (vs : List Value) (R : Ending → World → Prop)
    (ho : o.op = .call { callee := .value (.func f), args := args.toArray, argTypes := ts }) (hx : args.map a.eval = vs) (hent : ∀ w : World, (callFunc f vs.toArray).run P w = .ok (.enter f vs.toArray) w)
    (hc : Calls P f vs.toArray w R) (h : ∀ e w', R e w' → ∃ r, e = .returned r ∧ K (a.put o.dst r) w') :
    if Region.wanted o (yielded ops a.tmps) = true then Oper.wp P o a w K Q else E := by
  have hw : Region.wanted o (yielded ops a.tmps) = true := by simp [Region.wanted, hg]
  rw [if_pos hw]
  unfold Oper.wp
  simp only [execOp, ho, resolve, invoke, go_sem, List.map_toArray, hx, hent]
  simp [go_sem, hent, Oper.upon_enter]
  refine hc.mono ?_
  intro e w' hr
  obtain ⟨r, rfl, hk⟩ := h e w' hr
  exact hk
theorem step_exec {P : Program} {ops : Array Oper} {o : Oper} {a : Act} {w w' : World} {K : Act → World → Prop} {Q : Exit → Act → World → Prop} {E : Prop} (hg : o.guard = none) (v : Value) (hr : (execOp a.eval o).run P w = .ok (.value v) w') (h : K (a.put o.dst v) w') :
    if Region.wanted o (yielded ops a.tmps) = true then Oper.wp P o a w K Q else E := by
  have hw : Region.wanted o (yielded ops a.tmps) = true := by simp [Region.wanted, hg]
  rw [if_pos hw]
  unfold Oper.wp
  rw [hr]
  exact h
theorem takeL {P : Program} {md : Region.Mode} {Q : Exit → Act → World → Prop} {S : World → Prop} {l : List Oper} {i : Nat} {oi : Oper} {v : Value} {fuel : Nat} {listed : Array Bool} {a : Act} {w : World} (hi : l[i]? = some oi)
    (hs : Region.noSelect l.toArray = true) (hf : Region.free md l.toArray listed i = true) (hr : (Region.ready md l.toArray listed).contains i = true)
    (hQ : ∀ c a w, Q (.panic c) (a.put oi.dst v) w → Q (.panic c) a w) (hy : YieldsIf P l.toArray S oi v a) (hS : S w)
    (h : wpAnyH P md l.toArray Q S fuel (listed.setIfInBounds i true) (a.put oi.dst v) w) : wpAnyH P md l.toArray Q S (fuel + 1) listed a w :=
  wpAnyH_take (by rw [List.getElem?_toArray]; exact hi) hs hf hr hQ hy hS h
theorem consL {P : Program} {md : Region.Mode} {Q : Exit → Act → World → Prop} {S : World → Prop} {l : List Oper} {fuel : Nat} {listed : Array Bool} {a : Act} {w : World} {i : Nat} {o : Oper} {rs : List Nat} (ho : l[i]? = some o)
    (h : ∀ K' : Act → World → Prop, Shut (∀ a w, S w → (S w → wpAnyH P md l.toArray Q S fuel (listed.setIfInBounds i true) a w) → K' a w) → if Region.wanted o (yielded l.toArray a.tmps) = true then Oper.wp P o a w K' Q else K' (a.put o.dst undef) w)
    (hs : AllReadyH P md l.toArray Q S fuel listed a w rs) : AllReadyH P md l.toArray Q S fuel listed a w (i :: rs) := AllReadyH.cons (by rw [List.getElem?_toArray]; exact ho) h hs
end Go.Proofs.YtmpjapcijjjlbaaGreatDoor
namespace Go.Proofs.YtmpjapcijjjlbaaGreatDoor
open Go.RowKit
set_option linter.unusedVariables false
section
variable {P : Program} {md : Region.Mode} {ops : Array Oper} {Q : Exit → Act → World → Prop} {S : World → Prop} {n : Nat}
def anyU (P : Program) (md : Region.Mode) (ops : Array Oper) (Q : Exit → Act → World → Prop) (S : World → Prop) (n : Nat) : Nat → Array Bool → Act → World → Prop
  | 0, listed, a, w => Region.ready md ops listed = [] ∧ Q .normal a w
  | fuel + 1, listed, a, w =>
    (Region.ready md ops listed = [] → Q .normal a w) ∧
    ∀ i ∈ Region.ready md ops listed, wpOp P ops Q i (fun a' w' => (i = n ∨ S w') ∧ anyU P md ops Q S n fuel (listed.setIfInBounds i true) a' w') a w
theorem any_of_U : ∀ (fuel : Nat) (listed : Array Bool) (a : Act) (w : World), anyU P md ops Q S n fuel listed a w → wpAny P md ops Q fuel listed a w
  | 0, _, _, _, h => h
  | fuel + 1, _, _, _, h => ⟨h.1, fun i hi => wpOp_mono (fun a' w' h' => any_of_U fuel _ a' w' h'.2) (h.2 i hi)⟩
def waits (md : Region.Mode) (ops : Array Oper) (n i : Nat) : Bool := match ops[n]? with
  | some o => o.after.any fun e => Region.binds md e && e.on == i
  | none => true
theorem U_first {i : Nat} {oi : Oper} {v : Value} (hi : ops[i]? = some oi) (hsel : ∀ (j : Nat) (o : Oper) cs b, ops[j]? = some o → o.op ≠ .select cs b) (hn : waits md ops n i = true)
    (hQ : ∀ c a w, Q (.panic c) (a.put oi.dst v) w → Q (.panic c) a w) :
    ∀ (fuel : Nat) (listed : Array Bool) (a : Act) (w : World),
      (∀ j oj, ops[j]? = some oj → j ≠ i → listed.getD j true = false → (∀ e ∈ oj.after, Region.binds md e = true → e.on ≠ i) → oi.apart ops oj = true) →
      i ∈ Region.ready md ops listed → YieldsIf P ops S oi v a → S w →
      anyU P md ops Q S n fuel (listed.setIfInBounds i true) (a.put oi.dst v) w → anyU P md ops Q S n (fuel + 1) listed a w := by
  intro fuel
  induction fuel with
  | zero =>
    intro listed a w _ hr hy hS H
    refine ⟨fun h => (by rw [h] at hr; cases hr), fun j hj => ?_⟩
    by_cases hji : j = i
    · subst hji; exact hy.wpOp hi hS ⟨.inr hS, H⟩
    · have := ready_mono hj hji
      rw [H.1] at this
      cases this
  | succ fuel ih =>
    intro listed a w hfree hr hy hS H
    refine ⟨fun h => (by rw [h] at hr; cases hr), fun j hj => ?_⟩
    by_cases hji : j = i
    · subst hji; exact hy.wpOp hi hS ⟨.inr hS, H⟩
    · have h1 := H.2 j (ready_mono hj hji)
      obtain ⟨hjun, oj, hoj, hall⟩ := mem_ready.1 hj
      have hnot : ∀ e ∈ oj.after, Region.binds md e = true → e.on ≠ i := fun e he hb heq => by
        have g1 := hall e he hb
        have g0 := (mem_ready.1 hr).1
        rw [heq] at g1
        rcases Nat.lt_or_ge i listed.size with h' | h'
        · simp [h'] at g0 g1; rw [g0] at g1; cases g1
        · simp [Array.getElem?_eq_none h'] at g1
      have hjn : j ≠ n := fun e => by
        subst e
        unfold waits at hn
        rw [hoj] at hn
        simp only [Array.any_eq_true] at hn
        obtain ⟨k, hk, hk2⟩ := hn
        simp only [Bool.and_eq_true, beq_iff_eq] at hk2
        exact hnot _ (Array.getElem_mem hk) hk2.1 hk2.2
      have h2 := wpOp_putIf hoj (hfree j oj hoj hji hjun hnot) (fun cs b => hsel i oi cs b hi) (fun cs b => hsel j oj cs b hoj) hQ hy h1
      have hfree' : ∀ k ok, ops[k]? = some ok → k ≠ i → (listed.setIfInBounds j true).getD k true = false →
          (∀ e ∈ ok.after, Region.binds md e = true → e.on ≠ i) → oi.apart ops ok = true := fun k ok hk hki hun hno => by
        refine hfree k ok hk hki ?_ hno
        by_cases hjk : j = k
        · subst hjk; exact hjun
        · rw [getD_set_ne true hjk] at hun; exact hun
      refine wpOp_mono (fun a' w' h3 => ⟨h3.2.1, ?_⟩) h2
      have hS' : S w' := h3.2.1.resolve_left hjn
      refine ih (listed.setIfInBounds j true) a' w' hfree' (ready_mono hr (Ne.symm hji)) h3.1 hS' ?_
      rw [Array.setIfInBounds_comm _ _ hji]
      exact h3.2.2
end
theorem takeU {P : Program} {md : Region.Mode} {Q : Exit → Act → World → Prop} {S : World → Prop} {n : Nat} {l : List Oper} {i : Nat} {oi : Oper} {v : Value} {fuel : Nat} {listed : Array Bool} {a : Act} {w : World} (hi : l[i]? = some oi)
    (hs : Region.noSelect l.toArray = true) (hf : Region.free md l.toArray listed i = true) (hr : (Region.ready md l.toArray listed).contains i = true) (hn : waits md l.toArray n i = true)
    (hQ : ∀ c a w, Q (.panic c) (a.put oi.dst v) w → Q (.panic c) a w) (hy : YieldsIf P l.toArray S oi v a) (hS : S w)
    (h : anyU P md l.toArray Q S n fuel (listed.setIfInBounds i true) (a.put oi.dst v) w) : anyU P md l.toArray Q S n (fuel + 1) listed a w := by
  have hi' : l.toArray[i]? = some oi := by rw [List.getElem?_toArray]; exact hi
  exact U_first hi' (Region.noSelect_spec hs) hn hQ fuel listed a w (Region.free_spec hi' hf) (by simpa using hr) hy hS h
def oneU (P : Program) (md : Region.Mode) (ops : Array Oper) (Q : Exit → Act → World → Prop) (S : World → Prop) (n fuel : Nat) (listed : Array Bool) (a : Act) (w : World) (i : Nat) : Prop :=
  wpOp P ops Q i (fun a' w' => (i = n ∨ S w') ∧ anyU P md ops Q S n fuel (listed.setIfInBounds i true) a' w') a w
theorem readyU1 {P : Program} {md : Region.Mode} {Q : Exit → Act → World → Prop} {S : World → Prop} {n i fuel : Nat} {ops : Array Oper} {listed : Array Bool} {a : Act} {w : World} (hr : Region.ready md ops listed = [i])
    (h : oneU P md ops Q S n fuel listed a w i) : anyU P md ops Q S n (fuel + 1) listed a w :=
  ⟨fun h0 => (by rw [hr] at h0; cases h0), fun j hj => by rw [hr] at hj; obtain rfl := List.mem_singleton.1 hj; exact h⟩
theorem consU {P : Program} {md : Region.Mode} {Q : Exit → Act → World → Prop} {S : World → Prop} {n : Nat} {l : List Oper} {fuel : Nat} {listed : Array Bool} {a : Act} {w : World} {i : Nat} {o : Oper} (ho : l[i]? = some o)
    (h : ∀ K' : Act → World → Prop, Shut (∀ a w, (i = n ∨ S w) → anyU P md l.toArray Q S n fuel (listed.setIfInBounds i true) a w → K' a w) → if Region.wanted o (yielded l.toArray a.tmps) = true then Oper.wp P o a w K' Q else K' (a.put o.dst undef) w) :
    oneU P md l.toArray Q S n fuel listed a w i := by
  have ho' : l.toArray[i]? = some o := by rw [List.getElem?_toArray]; exact ho
  exact wpOp_step ho' (fun K' hK => h K' (fun a w hS hW => hK a w ⟨hS, hW⟩))
theorem doneU {P : Program} {md : Region.Mode} {Q : Exit → Act → World → Prop} {S : World → Prop} {n : Nat} {ops : Array Oper} {listed : Array Bool} {a : Act} {w : World} (hr : Region.ready md ops listed = []) (h : Q .normal a w) :
    ∀ fuel, anyU P md ops Q S n fuel listed a w
  | 0 => ⟨hr, h⟩
  | _ + 1 => ⟨fun _ => h, by rw [hr]; simp⟩
theorem region_U {P : Program} {Q : Exit → Act → World → Prop} {id : Nat} {a : Act} {w : World} {ops : Array Oper} (S : World → Prop) (n : Nat) (hm : P.follows .mixedOrders = true)
    (h : anyU P .any ops Q S n ops.size (Array.replicate ops.size false) a w.drew) : (Code.region id ops true).wp P Q a w :=
  wp_region_any hm (any_of_U _ _ _ _ h)
end Go.Proofs.YtmpjapcijjjlbaaGreatDoor
namespace Go.Proofs.YtmpjapcijjjlbaaGreatDoor
open Go.RowKit
set_option linter.unusedVariables false
set_option linter.unusedSimpArgs false
theorem addr_add (b off j : Nat) : (⟨b, off, none⟩ : Addr).add j = ⟨b, off + j, none⟩ := by unfold Addr.add; split <;> simp_all
theorem owns_shape {w : World} {B : Nat} {e : TypeId} {s : Nat} {v : Value} {n : Nat} {xs : List Value} (h : w.ownsRow B e s v n xs) : ∃ a cp, v = .slice a n cp := by
  obtain ⟨_, ⟨rfl, rfl⟩ | ⟨g, cap, cur, rfl, _⟩⟩ := h
  · exact ⟨none, 0, rfl⟩
  · exact ⟨_, cap, rfl⟩
theorem lt_of_some {w : World} {g : Nat} {o : Obj} (h : w.heap[g]? = some o) : g < w.heap.size := (Array.getElem?_eq_some_iff.1 h).1
theorem grown_of_below {w w' : World} (h : Below w.heap.size w w') (row : Option Nat) : w.grownBy w' row := ⟨h.os, h.tape, h.output, h.size, fun k hk _ => h.block k hk⟩
theorem below_drewH {B : Nat} {w0 w : World} (h : Below B w0 w) (n : Nat) : Below B w0 (w.drewN n) := h.trans ⟨rfl, rfl, rfl, Nat.le_refl _, fun _ _ => rfl⟩
theorem getD_mem {α : Type} (l : List α) (i : Nat) (d : α) (h : i < l.length) : l.getD i d ∈ l := by
  rw [List.getD_eq_getElem?_getD, List.getElem?_eq_getElem h]
  exact List.getElem_mem _
theorem take_snocG {α : Type} (d : α) (s : List α) (i : Nat) (h : i < s.length) : s.take (i + 1) = s.take i ++ [s.getD i d] := by
  rw [List.take_add_one, List.getD_eq_getElem?_getD, List.getElem?_eq_getElem h]; rfl
section
variable {α : Type} (enc : α → List Value) (k : Nat) (d : α)
structure Px (w : World) (a : Option Addr) (cap : Nat) (l : List α) : Prop where
  capl : l.length ≤ cap
  at_ : 0 < l.length → ∃ b off, a = some ⟨b, off, none⟩ ∧ b < w.heap.size ∧ ∀ i, i < l.length → w.rangeAt b (off + i * k) (enc (l.getD i d))
  nil : a = none → cap = 0
structure Bx (e : TypeId) (w0 w : World) (B : Nat) (v : Value) (l : List α) : Prop where
  below : Below B w0 w
  own : w.ownsRow B e k v l.length (l.flatMap enc)
  le : B ≤ w.heap.size
end
section
variable {α : Type} {enc : α → List Value} {k : Nat} {d : α}
theorem Px.below {w w' : World} {a : Option Addr} {cap : Nat} {l : List α} (h : Px enc k d w a cap l) (hb : Below w.heap.size w w') : Px enc k d w' a cap l :=
  ⟨h.capl, fun h0 => by
    obtain ⟨b, off, e1, e2, e3⟩ := h.at_ h0
    exact ⟨b, off, e1, Nat.lt_of_lt_of_le e2 hb.size, fun i hi j v hv => (hb.cell (p := ⟨b, off + i * k + j, none⟩) e2).trans (e3 i hi j v hv)⟩, h.nil⟩
theorem Px.grown {w w' : World} {a : Option Addr} {cap K : Nat} {l : List α} (h : Px enc k d w a cap l) (hK : ∀ p : Addr, a = some p → p.block ≠ K) (hg : w.grownBy w' (some K)) : Px enc k d w' a cap l :=
  ⟨h.capl, fun h0 => by
    obtain ⟨b, off, e1, e2, e3⟩ := h.at_ h0
    refine ⟨b, off, e1, Nat.lt_of_lt_of_le e2 hg.size, fun i hi j v hv => ?_⟩
    rw [World.cell?_of_block (a := ⟨b, off + i * k + j, none⟩) (hg.block b e2 (fun e => hK _ e1 (by cases e; rfl)))]
    exact e3 i hi j v hv, h.nil⟩
theorem Px.take {w : World} {a : Option Addr} {cap : Nat} {l : List α} (h : Px enc k d w a cap l) (j : Nat) : Px enc k d w a cap (l.take j) :=
  ⟨by rw [List.length_take]; have := h.capl; omega, fun h0 => by
    rw [List.length_take] at h0
    obtain ⟨b, off, e1, e2, e3⟩ := h.at_ (by omega)
    refine ⟨b, off, e1, e2, fun i hi => ?_⟩
    rw [List.length_take] at hi
    have := e3 i (by omega)
    rw [show (l.take j).getD i d = l.getD i d by rw [List.getD_eq_getElem?_getD, List.getD_eq_getElem?_getD, List.getElem?_take, if_pos (by omega)]]
    exact this, h.nil⟩
theorem fX_len (l : List α) (h : ∀ x ∈ l, (enc x).length = k) : (l.flatMap enc).length = l.length * k := by
  induction l with
  | nil => simp
  | cons x l ih =>
    have h1 := ih (fun y hy => h y (by simp [hy]))
    have h2 := h x (by simp)
    simp only [List.flatMap_cons, List.length_append, List.length_cons, Nat.add_mul] at h1 ⊢
    omega
theorem fX_one (l : List α) (h : ∀ x, ∀ v ∈ enc x, v.oneCell' = true) : ∀ v ∈ l.flatMap enc, v.oneCell' = true := by
  intro v hv
  obtain ⟨x, _, hx⟩ := List.mem_flatMap.1 hv
  exact h x v hx
theorem fX_at : ∀ (l : List α) (h : ∀ x ∈ l, (enc x).length = k) (i j : Nat), i < l.length → j < k → (l.flatMap enc)[i * k + j]? = (enc (l.getD i d))[j]?
  | [], h, i, j, hi, hj => by simp at hi
  | x :: r, h, 0, j, hi, hj => by
    have h2 := h x (by simp)
    simp only [List.flatMap_cons, Nat.zero_mul, Nat.zero_add]
    rw [List.getElem?_append_left (by omega)]
    rfl
  | x :: r, h, i + 1, j, hi, hj => by
    have h2 := h x (by simp)
    have := fX_at r (fun y hy => h y (by simp [hy])) i j (by simpa using hi) hj
    simp only [List.flatMap_cons]
    rw [List.getElem?_append_right (by rw [h2, Nat.add_mul]; omega), h2, show (i + 1) * k + j - k = i * k + j by rw [Nat.add_mul]; omega, this]
    rfl
theorem Px.cells {w : World} {b off cap : Nat} {l : List α} (hk : 0 < k) (h : Px enc k d w (some ⟨b, off, none⟩) cap l) (hw : ∀ x ∈ l, (enc x).length = k) : ∀ (j : Nat) (u : Value), (l.flatMap enc)[j]? = some u → w.cell? ((⟨b, off, none⟩ : Addr).add j) = some u := by
  intro j u hj
  have hlt := (List.getElem?_eq_some_iff.1 hj).1
  rw [fX_len l hw] at hlt
  have hd : j / k < l.length := Nat.div_lt_of_lt_mul (by rw [Nat.mul_comm]; exact hlt)
  have hm : j % k < k := Nat.mod_lt _ hk
  obtain ⟨b', off', e1, e2, e3⟩ := h.at_ (Nat.lt_of_le_of_lt (Nat.zero_le _) hd)
  cases e1
  have e : j / k * k + j % k = j := by rw [Nat.mul_comm]; exact Nat.div_add_mod j k
  have hf := fX_at (d := d) l hw (j / k) (j % k) hd hm
  rw [e, hj] at hf
  have := e3 (j / k) hd (j % k) u hf.symm
  rw [addr_add, ← this]
  congr 2
  omega
theorem Bx.alloc {e : TypeId} {w0 w : World} {B : Nat} {v : Value} {l : List α} (h : Bx enc k e w0 w B v l) (o : Obj) : Bx enc k e w0 (w.alloc o) B v l :=
  ⟨h.below.alloc h.le o, h.own.alloc o, Nat.le_trans h.le (by simp)⟩
theorem bx_nil (e : TypeId) (w : World) (B : Nat) (h : B ≤ w.heap.size) : Bx enc k e w w B (.slice none 0 0) [] := ⟨Below.refl _ _, ⟨by simp, .inl ⟨rfl, rfl⟩⟩, h⟩
theorem Bx.carry {e : TypeId} {w0 w w' : World} {B : Nat} {v : Value} {l : List α} (h : Bx enc k e w0 w B v l) (hb : Below w.heap.size w w') : Bx enc k e w0 w' B v l :=
  ⟨h.below.trans (hb.mono h.le), h.own.kept (row := none) ⟨hb.os, hb.tape, hb.output, hb.size, fun k hk _ => hb.block k hk⟩ (by cases h : v.ownBlock <;> simp), Nat.le_trans h.le hb.size⟩
theorem Bx.change {e : TypeId} {w0 w w' : World} {B K : Nat} {v : Value} {l : List α} (h : Bx enc k e w0 w B v l) (hv : ∀ k, v.ownBlock = some k → k ≠ K) (hB : B ≤ K) (hg : w.grownBy w' (some K)) : Bx enc k e w0 w' B v l :=
  ⟨h.below.grown hg h.le (fun k hk => by cases hk; exact hB), h.own.kept (row := some K) hg (by
    cases hb : v.ownBlock with
    | none => exact .inl rfl
    | some k => exact .inr (fun e => by cases e; exact hv _ hb rfl)), Nat.le_trans h.le hg.size⟩
theorem Bx.px {e : TypeId} {w0 w : World} {B : Nat} {v : Value} {l : List α} (h : Bx enc k e w0 w B v l) (hw : ∀ x ∈ l, (enc x).length = k) : ∃ a cap, v = .slice a l.length cap ∧ Px enc k d w a cap l ∧ (∀ p : Addr, a = some p → B ≤ p.block ∧ p.block < w.heap.size) ∧ (a = none ∨ ∃ b, a = some ⟨b, 0, none⟩) := by
  obtain ⟨hl, ⟨hv, h0⟩ | ⟨g, cap, cur, hv, hb, hh, hkc, hcm, hsz, htk⟩⟩ := h.own
  · refine ⟨none, 0, by rw [hv, h0], ⟨by omega, fun h => by omega, fun _ => rfl⟩, (fun p hp => by cases hp), .inl rfl⟩
  · refine ⟨_, cap, hv, ⟨hkc, fun _ => ⟨g, 0, rfl, lt_of_some hh, fun i hi j v hv => ?_⟩, fun e => by cases e⟩, (fun p hp => by cases hp; exact ⟨hb, lt_of_some hh⟩), .inr ⟨g, rfl⟩⟩
    have hj : j < k := by
      have := (List.getElem?_eq_some_iff.1 hv).1
      rw [hw _ (getD_mem l i d hi)] at this
      exact this
    have hf := fX_at (d := d) l hw i j hi hj
    rw [hv] at hf
    rw [Nat.zero_add, cell_of_row w g (i * k + j) _ _ _ hh]
    have hlt : i * k + j < l.length * k := by
      have := (List.getElem?_eq_some_iff.1 hf).1
      rw [fX_len l hw] at this
      exact this
    rw [← htk, List.getElem?_take_of_lt hlt] at hf
    simpa using hf
theorem wpList_bx_sl {w w0 : World} {ops : Array Oper} {rest : List Oper} {o : Oper} {a : Act} {Q : Exit → Act → World → Prop} (hgd : o.guard = none) (s x : Operand) (t e : TypeId) (hu : Tryz.prog.underlying t = some (.slice e)) {z : Value} {by_ : Nat} (hin : (Tryz.prog.info? e).map (fun i => (i.zero, i.size, i.bytes)) = some (some z, k, by_)) (hz : z.cells.size = k) (hk : 0 < k) (hby : by_ ≤ 100)
    (hone : ∀ x, ∀ v ∈ enc x, v.oneCell' = true)
    (ho : o.op = .call { callee := .builtin .append, args := #[s, x], argTypes := #[t, t] }) (B : Nat) (v : Value) (l : List α) (hs : a.eval s = v) (h : Bx enc k e w0 w B v l)
    (ax : Option Addr) (cx : Nat) (m : List α) (hx : a.eval x = .slice ax m.length cx) (hP : Px enc k d w ax cx m) (hw : ∀ x ∈ m, (enc x).length = k) (hl : l.length + m.length ≤ 10000000)
    (hK : ∀ v' w', Bx enc k e w0 w' B v' (l ++ m) → w.grownBy w' v.ownBlock → wpList Tryz.prog ops Q rest (a.put o.dst v') w') : wpList Tryz.prog ops Q (o :: rest) a w := by
  obtain ⟨i, hi, hz0, hz1, hz2⟩ := info_parts hin
  cases ax with
  | none =>
    have hc : cx = 0 := hP.nil rfl
    have hcl := hP.capl
    obtain rfl : m = [] := List.length_eq_zero_iff.1 (by omega)
    subst hc
    refine wpList_plain hgd fun K hK' => ?_
    have hr := run_append_owned_none (P := Tryz.prog) w B t o.type e i k hu hi v _ _ h.own
    unfold Oper.wp execOp
    simp only [List.length_nil] at hx
    simp only [ho, resolve, invoke, builtin, Sem.run_bind, Sem.run_pure, Result.andThen_ok, List.map_toArray, List.map_cons, List.map_nil, hs, hx, hr]
    exact hK' _ _ (hK v w (by simpa using h) ⟨rfl, rfl, rfl, Nat.le_refl _, fun _ _ _ => rfl⟩)
  | some ad =>
    obtain ⟨bk, of, fr⟩ := ad
    by_cases h0 : m.length = 0
    · obtain rfl : m = [] := List.length_eq_zero_iff.1 h0
      refine wpList_append_own_at w hgd s x t ho B e i z k by_ hu hi hz0 hz1 hz2 hz hk v _ _ hs h.own ⟨bk, of, fr⟩ 0 cx [] hx (by simp) (fun j u hj => by cases hj) (fun u hu => by cases hu) (by unfold maxLen; omega) (by have h2 := Nat.mul_le_mul hl hby; exact Nat.le_trans h2 (by decide)) h.le ?_
      intro v' w' h1 h2 h3 h4
      refine hK v' w' ⟨h.below.grown h2 h.le (fun k hk => (own_lt h.own k hk).1), ?_, Nat.le_trans h.le h2.size⟩ h2
      simpa using h1
    · obtain ⟨b', off', e1, _⟩ := hP.at_ (by omega)
      cases e1
      refine wpList_append_own_at w hgd s x t ho B e i z k by_ hu hi hz0 hz1 hz2 hz hk v _ _ hs h.own ⟨bk, of, none⟩ m.length cx (m.flatMap enc) hx (fX_len m hw) (hP.cells hk hw) (fX_one m hone) (by unfold maxLen; omega) (by have h2 := Nat.mul_le_mul hl hby; exact Nat.le_trans h2 (by decide)) h.le ?_
      intro v' w' h1 h2 h3 h4
      refine hK v' w' ⟨h.below.grown h2 h.le (fun k hk => (own_lt h.own k hk).1), ?_, Nat.le_trans h.le h2.size⟩ h2
      rw [List.length_append, List.flatMap_append]
      exact h1
end
end Go.Proofs.YtmpjapcijjjlbaaGreatDoor
namespace Go.Proofs.YtmpjapcijjjlbaaGreatDoor
set_option linter.unusedVariables false
set_option linter.unusedSimpArgs false
abbrev Str := List UInt8
def lns : Str → List Str
  | [] => []
  | c :: r => if c = 10 then [c] :: lns r else match lns r with
    | [] => [[c]]
    | l :: t => (c :: l) :: t
theorem lns_nil : lns [] = [] := rfl
theorem lns_nl : ∀ (p r : Str), (10 : UInt8) ∉ p → lns (p ++ 10 :: r) = (p ++ [10]) :: lns r
  | [], r, h => by simp [lns]
  | c :: p, r, h => by
    have hc : c ≠ 10 := fun e => h (by simp [e])
    have ih := lns_nl p r (fun e => h (by simp [e]))
    simp only [List.cons_append, lns, hc, if_false, ih]
theorem lns_last : ∀ (p : Str), p ≠ [] → (10 : UInt8) ∉ p → lns p = [p]
  | [], h, _ => absurd rfl h
  | [c], _, h => by
    have hc : c ≠ 10 := fun e => h (by simp [e])
    simp [lns, hc]
  | c :: d :: p, _, h => by
    have hc : c ≠ 10 := fun e => h (by simp [e])
    have ih := lns_last (d :: p) (by simp) (fun e => h (List.mem_cons_of_mem _ e))
    rw [lns, if_neg hc, ih]
theorem lns_len : ∀ s : Str, ((lns s).map List.length).sum = s.length
  | [] => rfl
  | c :: r => by
    have ih := lns_len r
    rw [lns]
    split
    · simp only [List.map_cons, List.sum_cons, ih, List.length_cons, List.length_nil]; omega
    · cases hr : lns r with
      | nil => rw [hr] at ih; simp only [List.map_nil, List.sum_nil, List.map_cons, List.sum_cons, List.length_cons, List.length_nil] at ih ⊢; omega
      | cons l t => rw [hr] at ih; simp only [List.map_cons, List.sum_cons, List.length_cons] at ih ⊢; omega
theorem lns_ne : ∀ (s : Str), ∀ l ∈ lns s, 0 < l.length
  | [], l, h => by simp [lns] at h
  | c :: r, l, h => by
    have ih := lns_ne r
    rw [lns] at h
    split at h
    · rcases List.mem_cons.1 h with rfl | h
      · simp
      · exact ih l h
    · cases hr : lns r with
      | nil => rw [hr] at h; simp at h; simp [h]
      | cons m t =>
        rw [hr] at h ih
        rcases List.mem_cons.1 h with rfl | h
        · simp
        · exact ih l (List.mem_cons_of_mem _ h)
theorem sum_few : ∀ (l : List Nat), (∀ x ∈ l, 0 < x) → l.length ≤ l.sum
  | [], _ => Nat.le_refl _
  | x :: l, h => by
    have ih := sum_few l (fun y hy => h y (List.mem_cons_of_mem _ hy))
    have := h x (by simp)
    simp only [List.length_cons, List.sum_cons]; omega
theorem lns_few (s : Str) : (lns s).length ≤ s.length := by
  have := sum_few ((lns s).map List.length) (by intro x hx; obtain ⟨l, hl, rfl⟩ := List.mem_map.1 hx; exact lns_ne s l hl)
  rw [lns_len] at this
  simpa using this
theorem mem_sum : ∀ (l : List Nat) (x : Nat), x ∈ l → x ≤ l.sum
  | y :: l, x, h => by
    rcases List.mem_cons.1 h with rfl | h
    · simp only [List.sum_cons]; omega
    · have := mem_sum l x h
      simp only [List.sum_cons]; omega
theorem lns_short (s l : Str) (h : l ∈ lns s) : l.length ≤ s.length := by
  have := mem_sum _ _ (List.mem_map_of_mem (f := List.length) h)
  rwa [lns_len] at this
theorem lns_some (s : Str) (i : Nat) (h : Lib.indexByte s 10 = (i : Int)) : i < s.length ∧ lns s = s.take (i + 1) :: lns (s.drop (i + 1)) := by
  obtain ⟨h1, h2⟩ := Lib.indexByte_some h
  have hl := (List.getElem?_eq_some_iff.1 h1).1
  have hi := (List.getElem?_eq_some_iff.1 h1).2
  refine ⟨hl, ?_⟩
  have e : s = s.take i ++ 10 :: s.drop (i + 1) := by
    rw [← hi, List.getElem_cons_drop, List.take_append_drop]
  have hp : (10 : UInt8) ∉ s.take i := by
    intro hm
    obtain ⟨k, hk⟩ := List.mem_iff_getElem?.1 hm
    rw [List.getElem?_take] at hk
    split at hk
    · exact h2 k (by assumption) hk
    · cases hk
  have := lns_nl _ (s.drop (i + 1)) hp
  rw [← e] at this
  rw [this]
  congr 1
  rw [List.take_add_one, h1]; rfl
theorem lns_none (s : Str) (h : Lib.indexByte s 10 = -1) (h0 : s ≠ []) : lns s = [s] := by
  refine lns_last s h0 ?_
  intro hm
  obtain ⟨k, hk⟩ := List.mem_iff_getElem?.1 hm
  exact Lib.indexByte_none h k hk
section
variable {α : Type} [DecidableEq α] (wt : α → Nat)
end
end Go.Proofs.YtmpjapcijjjlbaaGreatDoor
namespace Go.Proofs.YtmpjapcijjjlbaaGreatDoor
open Go.RowKit
set_option linter.unusedVariables false
set_option linter.unusedSimpArgs false
theorem wpList_run {P : Program} {ops : Array Oper} {rest : List Oper} {o : Oper} {a : Act} {w w' : World} {Q : Exit → Act → World → Prop} (hg : o.guard = none) (v : Value) (hr : (execOp a.eval o).run P w = .ok (.value v) w') (h : wpList P ops Q rest (a.put o.dst v) w') : wpList P ops Q (o :: rest) a w := by
  refine wpList_plain hg fun K hK => ?_
  unfold Oper.wp
  rw [hr]
  exact hK _ _ h
theorem wpList_bS {P : Program} {ops : Array Oper} {rest : List Oper} {o : Oper} {a : Act} {w w' : World} {Q : Exit → Act → World → Prop} (hg : o.guard = none) (t len : Nat) (x : Operand) (ho : o.op = .buildSlice t len #[(0, x)]) (u v : Value) (hx : a.eval x = u)
    (hr : (Instr.buildSlice t len #[(0, u)]).run P w = .ok v w') (h : wpList P ops Q rest (a.put o.dst v) w') : wpList P ops Q (o :: rest) a w := by
  refine wpList_run hg v ?_ h
  unfold execOp
  simp [ho, hx, hr, Result.andThen]
def adX (k : Nat) (a : Option Addr) (cap j : Nat) : Option Addr := if cap = j then a else a.map (·.add (j * k))
section
variable {α : Type} {enc : α → List Value} {k : Nat} {d : α}
theorem Px.mid {w : World} {a : Option Addr} {cap : Nat} {l : List α} (h : Px enc k d w a cap l) (i j : Nat) (hij : i ≤ j) (hj : j ≤ l.length) : Px enc k d w (adX k a cap i) (cap - i) ((l.drop i).take (j - i)) :=
  ⟨by rw [List.length_take, List.length_drop]; have := h.capl; omega, fun h0 => by
    rw [List.length_take, List.length_drop] at h0
    obtain ⟨b, off, e1, e2, e3⟩ := h.at_ (by omega)
    subst e1
    have hc := h.capl
    refine ⟨b, off + i * k, by unfold adX; rw [if_neg (by omega), Option.map_some, addr_add], e2, fun q hq => ?_⟩
    rw [List.length_take, List.length_drop] at hq
    have := e3 (i + q) (by omega)
    rw [show off + i * k + q * k = off + (i + q) * k by rw [Nat.add_mul]; omega]
    rw [show ((l.drop i).take (j - i)).getD q d = l.getD (i + q) d by rw [List.getD_eq_getElem?_getD, List.getD_eq_getElem?_getD, List.getElem?_take, if_pos (by omega), List.getElem?_drop]]
    exact this, fun h2 => by
    have : a = none := by
      unfold adX at h2
      split at h2
      · exact h2
      · cases a with
        | none => rfl
        | some p => cases h2
    have := h.nil this
    omega⟩
theorem Px.from {w : World} {a : Option Addr} {cap : Nat} {l : List α} (h : Px enc k d w a cap l) (i : Nat) (hi : i ≤ l.length) : Px enc k d w (adX k a cap i) (cap - i) (l.drop i) := by
  have := h.mid i l.length hi (Nat.le_refl _)
  rwa [List.take_of_length_le (by rw [List.length_drop]; omega)] at this
end
def encB (x : UInt8) : List Value := [.int .u8 (x.toNat : Int)]
abbrev PB (w : World) (a : Option Addr) (cap : Nat) (s : Str) : Prop := Px encB 1 0 w a cap s
def sV (s : Str) : Value := .string ⟨s.toArray⟩
def encS (s : Str) : List Value := [sV s]
abbrev PS (w : World) (a : Option Addr) (cap : Nat) (l : List Str) : Prop := Px encS 1 [] w a cap l
abbrev BS (w0 w : World) (B : Nat) (v : Value) (l : List Str) : Prop := Bx encS 1 9 w0 w B v l
theorem encS_len (s : Str) : (encS s).length = 1 := rfl
theorem encS_one (s : Str) : ∀ v ∈ encS s, v.oneCell' = true := fun v hv => by rw [List.mem_singleton.1 hv]; rfl
theorem Tryz.info9 : (Tryz.prog.info? 9).map (fun i => (i.zero, i.size, i.bytes)) = some (some (.string ⟨#[]⟩), 1, 16) := by kernel_rfl
theorem und24 : Tryz.prog.underlying 40 = some (.slice 9) := by kernel_rfl
theorem txt_len (l : Str) : (⟨l.toArray⟩ : ByteArray).size = l.length := by simp [ByteArray.size]
theorem ext_txt (s : Str) (i j : Nat) : (⟨s.toArray⟩ : ByteArray).extract i j = ⟨((s.drop i).take (j - i)).toArray⟩ := by
  apply ByteArray.ext
  simp [ByteArray.data_extract, List.extract]
theorem PB.cell {w : World} {b off cap : Nat} {s : Str} (h : PB w (some ⟨b, off, none⟩) cap s) (i : Nat) (hi : i < s.length) : w.cell? ⟨b, off + i, none⟩ = some (.int .u8 ((s.getD i 0).toNat : Int)) := by
  obtain ⟨b', off', e1, _, e3⟩ := h.at_ (by omega)
  cases e1
  have := e3 i hi 0 _ rfl
  simpa using this
theorem PS.cell {w : World} {b off cap : Nat} {s : List Str} (h : PS w (some ⟨b, off, none⟩) cap s) (i : Nat) (hi : i < s.length) : w.cell? ⟨b, off + i, none⟩ = some (sV (s.getD i [])) := by
  obtain ⟨b', off', e1, _, e3⟩ := h.at_ (by omega)
  cases e1
  have := e3 i hi 0 _ rfl
  simpa using this
theorem conv_str {w : World} {a : Option Addr} {cap : Nat} {s : Str} (h : PB w a cap s) : (convert 22 9 (.slice a s.length cap)).run Tryz.prog w = .ok (sV s) w := by
  cases a with
  | none =>
    have h0 : s = [] := List.length_eq_zero_iff.1 (by have := h.nil rfl; have := h.capl; omega)
    subst h0
    rw [run_convert_bytes_string w 22 9 5 none _ cap Tryz.underlying22 Tryz.underlying5 Tryz.underlying9]
    rfl
  | some p =>
    by_cases h0 : s.length = 0
    · obtain rfl : s = [] := List.length_eq_zero_iff.1 h0
      exact run_convert_bytes_back w 22 9 5 p cap [] Tryz.underlying22 Tryz.underlying5 Tryz.underlying9 (fun j hj => absurd hj (by simp))
    · obtain ⟨b, off, e1, _⟩ := h.at_ (by omega)
      cases e1
      refine run_convert_bytes_back w 22 9 5 _ cap s Tryz.underlying22 Tryz.underlying5 Tryz.underlying9 (fun j hj => ?_)
      rw [addr_add, PB.cell h j hj, List.getD_eq_getElem?_getD, List.getElem?_eq_getElem hj]
      rfl
theorem run_build24 (s : Str) (w : World) : (Instr.buildSlice 40 1 #[(0, sV s)]).run Tryz.prog w = .ok (.slice (some ⟨w.heap.size, 0, none⟩) 1 1) (w.alloc (.cells #[sV s] 9)) := by
  obtain ⟨i, hq, hz, hs, _⟩ := info_parts Tryz.info9
  refine run_buildSlice w 40 9 1 _ #[sV s] i _ Tryz.underlying40 hq hz (by rw [hs]; decide) (by rw [hs]; decide) ?_
  rw [hs]
  kernel_rfl
theorem ps_one (s : Str) (w : World) : PS (w.alloc (.cells #[sV s] 9)) (some ⟨w.heap.size, 0, none⟩) 1 [s] :=
  ⟨by simp, fun _ => ⟨w.heap.size, 0, rfl, by simp, fun i hi => by
    obtain rfl : i = 0 := by simp at hi; omega
    have := range_row (cs := [sV s]) (heap_alloc_new w (.cells #[sV s] 9))
    simpa [encS] using this⟩, fun h => by cases h⟩
def PostS (l : List Str) (w : World) (e : Ending) (w' : World) : Prop := ∃ v, e = .returned v ∧ BS w w' w.heap.size v l
theorem lns_step (s : Str) (f i : Nat) (L : List Str) (h : lns s = L ++ lns (s.drop f)) (hfi : f ≤ i) (hi : i < s.length) (hno : (10 : UInt8) ∉ (s.drop f).take (i - f)) (he : s.getD i 0 = 10 ∨ i + 1 = s.length) :
    lns s = (L ++ [(s.drop f).take (i + 1 - f)]) ++ lns (s.drop (i + 1)) := by
  have hgi : s[i]? = some (s.getD i 0) := by rw [List.getD_eq_getElem?_getD, List.getElem?_eq_getElem hi]; rfl
  have hdi : (s.drop f)[i - f]? = some (s.getD i 0) := by rw [List.getElem?_drop, show f + (i - f) = i by omega]; exact hgi
  have ht : (s.drop f).take (i + 1 - f) = (s.drop f).take (i - f) ++ [s.getD i 0] := by
    rw [show i + 1 - f = (i - f) + 1 by omega, List.take_add_one, hdi]; rfl
  have hd : (s.drop f).drop (i + 1 - f) = s.drop (i + 1) := by rw [List.drop_drop, show f + (i + 1 - f) = i + 1 by omega]
  by_cases h10 : s.getD i 0 = 10
  · have e : s.drop f = (s.drop f).take (i - f) ++ 10 :: s.drop (i + 1) := by
      have := List.take_append_drop (i + 1 - f) (s.drop f)
      rw [ht, hd, h10, List.append_assoc] at this
      exact this.symm
    have := lns_nl _ (s.drop (i + 1)) hno
    rw [← e] at this
    rw [h, this, ht, h10, List.append_assoc]
    rfl
  · have hl := he.resolve_left h10
    have e0 : s.drop (i + 1) = [] := List.drop_of_length_le (by omega)
    have e1 : (s.drop f).take (i + 1 - f) = s.drop f := List.take_of_length_le (by rw [List.length_drop]; omega)
    have hn : (10 : UInt8) ∉ s.drop f := by
      rw [← e1, ht]
      intro hm
      rcases List.mem_append.1 hm with hm | hm
      · exact hno hm
      · exact h10 (List.mem_singleton.1 hm).symm
    have hne : s.drop f ≠ [] := by intro h2; have := congrArg List.length h2; rw [List.length_drop] at this; simp at this; omega
    rw [h, lns_last _ hne hn, e1, e0, lns_nil, List.append_nil]
theorem lns_go (s : Str) (f i : Nat) (hfi : f ≤ i) (hi : i < s.length) (hno : (10 : UInt8) ∉ (s.drop f).take (i - f)) (h10 : s.getD i 0 ≠ 10) : (10 : UInt8) ∉ (s.drop f).take (i + 1 - f) := by
  have hdi : (s.drop f)[i - f]? = some (s.getD i 0) := by rw [List.getElem?_drop, show f + (i - f) = i by omega, List.getD_eq_getElem?_getD, List.getElem?_eq_getElem hi]; rfl
  rw [show i + 1 - f = (i - f) + 1 by omega, List.take_add_one, hdi]
  intro hm
  rcases List.mem_append.1 hm with hm | hm
  · exact hno hm
  · exact h10 (by have : (10 : UInt8) = s.getD i 0 := by simpa using hm
                  exact this.symm)
end Go.Proofs.YtmpjapcijjjlbaaGreatDoor
namespace Go.Proofs.YtmpjapcijjjlbaaGreatDoor
open Go.RowKit
set_option linter.unusedVariables false
set_option linter.unusedSimpArgs false
theorem u8_ten {c : UInt8} (h : (c.toNat : Int) = 10) : c = 10 := by
  apply UInt8.toNat_inj.1
  have : c.toNat = 10 := by omega
  rw [this]; rfl
set_option maxRecDepth 20000 in
set_option maxHeartbeats 1000000 in
theorem refLines_any {w : World} (a : Option Addr) (cap : Nat) (s : Str) (hP : PB w a cap s) (hn : s.length ≤ 4000) :
    Calls Tryz.prog 23 #[.slice a s.length cap] w (PostS (lns s) w) := by
  obtain ⟨n, HN⟩ : ∃ n, Hid (s.length = n) := ⟨_, rfl⟩
  obtain ⟨G, HG⟩ : ∃ G, Hid (w.heap.size = G) := ⟨_, rfl⟩
  have hn4 : n ≤ 4000 := by rw [← HN.out]; exact hn
  have HPB : Hid (∀ W, Below G w W → PB W a cap s) := fun W hW => hP.below (by rw [HG.out]; exact hW)
  have HPF : Hid (0 < n → ∃ b off, a = some ⟨b, off, none⟩) := fun h0 => by
    obtain ⟨b, off, e1, _⟩ := hP.at_ (by rw [HN.out]; exact h0)
    exact ⟨b, off, e1⟩
  have hcn : n ≤ cap := by rw [← HN.out]; exact hP.capl
  rw [HN.out]
  clear hP hn
  go_enter Tryz.func23, Tryz.ntmps23
  go_wp2_with fail
  go_loopg [3, 4, 5] n (fun gg lv fv iv wr => ∃ (i f m : Nat) (L : List Str) (la : Option Addr) (lc : Nat), lv = .slice la m lc ∧ L.length = m ∧ i ≤ n ∧ f ≤ i ∧ gg = n - i ∧ fv = .int .i64 f ∧ iv = .int .i64 i ∧ m ≤ f ∧ (i = n → f = n) ∧ Hid (BS w wr G (.slice la m lc) L) ∧ Hid (lns s = L ++ lns (s.drop f)) ∧ Hid ((10 : UInt8) ∉ (s.drop f).take (i - f)))
  case atStart => exact ⟨0, 0, 0, [], none, 0, rfl, rfl, Nat.zero_le _, Nat.le_refl _, rfl, rfl, rfl, Nat.le_refl _, fun h => h, hid (bx_nil 9 w G (by rw [HG.out]; exact Nat.le_refl _)), hid rfl, hid (by simp)⟩
  case round =>
    obtain ⟨i, f, m, L, la, lc, rfl, hLm, hi, hfi, hk, rfl, rfl, hLf, hend, HB, HL, HNO⟩ := hrel
    by_cases hlt : i < n
    · have hlti : (i : Int) < (n : Int) := by omega
      obtain ⟨b, off, hae⟩ := HPF.out (by omega)
      subst hae
      obtain ⟨c, HC⟩ : ∃ c, Hid (s.getD i 0 = c) := ⟨_, rfl⟩
      have hc0 : wr.cell? ⟨b, off + i, none⟩ = some (.int .u8 (c.toNat : Int)) := by rw [← HC.out]; exact PB.cell (HPB.out wr HB.out.below) i (by rw [HN.out]; exact hlt)
      have hc1 : wr.cell? ⟨b, off + i * 1, none⟩ = some (.int .u8 (c.toNat : Int)) := by rw [Nat.mul_one]; exact hc0
      by_cases hE : c = 10 ∨ i + 1 = n
      · obtain ⟨t, HT⟩ : ∃ t, Hid ((s.drop f).take (i + 1 - f) = t) := ⟨_, rfl⟩
        have htl : t.length = i + 1 - f := by rw [← HT.out, List.length_take, List.length_drop, HN.out]; omega
        have hcv : (convert 22 9 (.slice (some ⟨b, off + f, none⟩) (i + 1 - f : Nat) (cap - f : Nat))).run Tryz.prog wr = .ok (sV t) wr := by
          have h := (HPB.out wr HB.out.below).mid f (i + 1) (by omega) (by rw [HN.out]; omega)
          rw [HT.out] at h
          have h2 := conv_str h
          rw [htl] at h2
          rw [show adX 1 (some ⟨b, off, none⟩) cap f = some ⟨b, off + f, none⟩ by unfold adX; rw [if_neg (by omega), Option.map_some, addr_add, Nat.mul_one]] at h2
          exact h2
        have HL2 : Hid (lns s = (L ++ [t]) ++ lns (s.drop (i + 1))) := hid (by
          rw [← HT.out]
          exact lns_step s f i L HL.out hfi (by rw [HN.out]; exact hlt) HNO.out (by rw [HC.out, HN.out]; exact hE))
        have HBu : Hid (∀ W : World, (Instr.buildSlice 40 1 #[(0, sV t)]).run Tryz.prog W = .ok (.slice (some ⟨W.heap.size, 0, none⟩) 1 1) (W.alloc (.cells #[sV t] 9))) := fun W => run_build24 t W
        have HAP : Hid (∀ (ops : Array Oper) (rest : List Oper) (o : Oper) (ac : Act) (Q : Exit → Act → World → Prop), o.guard = none → ∀ (x y : Operand), o.op = .call { callee := .builtin .append, args := #[x, y], argTypes := #[40, 40] } → ac.eval x = .slice la m lc → ac.eval y = .slice (some ⟨wr.heap.size, 0, none⟩) 1 1 → (∀ a' c' w', Hid (BS w w' G (.slice a' (m + 1 : Nat) c') (L ++ [t])) → wpList Tryz.prog ops Q rest (ac.put o.dst (.slice a' (m + 1 : Nat) c')) w') → wpList Tryz.prog ops Q (o :: rest) ac (wr.alloc (.cells #[sV t] 9))) := fun ops rest o ac Q hg x y ho hx hy hK => by
          refine wpList_bx_sl hg x y 40 9 und24 Tryz.info9 rfl (by decide) (by decide) encS_one ho G (.slice la m lc) L hx (HB.out.alloc _) _ 1 [t] hy (ps_one t wr) (fun x _ => encS_len x) (by rw [hLm]; simp; omega) ?_
          intro v' w' h1 h2
          obtain ⟨a', c', rfl⟩ := owns_shape h1.own
          rw [List.length_append, hLm] at h1 ⊢
          exact hK a' c' w' h1
        generalize sV t = T at hcv HBu HAP
        have HCE : Hid (c = 10 ∨ i + 1 = n) := hE
        by_cases hc10 : c = 10
        · have hcI : (c.toNat : Int) = 10 := by rw [hc10]; rfl
          rw [hcI] at hc0 hc1
          clear HC hE
          go_wp2_with (first
            | refine wpList_bS rfl 40 1 _ rfl T _ rfl (HBu.out _) ?_
            | (refine HAP.out _ _ _ _ _ rfl _ _ rfl rfl rfl ?_; intro a' c' w' HB')
            | fail)
          go_roundg (n - (i + 1))
          case measure => omega
          case rel => exact ⟨i + 1, i + 1, m + 1, L ++ [t], a', c', rfl, by simp [hLm], by omega, by omega, rfl, by go_num, by go_num, by omega, fun h => by omega, HB', HL2, hid (by simp)⟩
        · have hcI : ¬ (c.toNat : Int) = 10 := fun h => hc10 (u8_ten h)
          have hin : i + 1 = n := hE.resolve_left hc10
          have hinI : (i : Int) + 1 = (n : Int) := by omega
          rw [show i + 1 - f = n - f by omega] at hcv
          clear HC hE
          go_wp2_with (first
            | refine wpList_bS rfl 40 1 _ rfl T _ rfl (HBu.out _) ?_
            | (refine HAP.out _ _ _ _ _ rfl _ _ rfl rfl rfl ?_; intro a' c' w' HB')
            | fail)
          go_roundg (n - (i + 1))
          case measure => omega
          case rel => exact ⟨i + 1, i + 1, m + 1, L ++ [t], a', c', rfl, by simp [hLm], by omega, by omega, rfl, by go_num, by go_num, by omega, fun h => by omega, HB', HL2, hid (by simp)⟩
      · have hc10 : ¬ c = 10 := fun h => hE (.inl h)
        have hcI : ¬ (c.toNat : Int) = 10 := fun h => hc10 (u8_ten h)
        have hin : ¬ i + 1 = n := fun h => hE (.inr h)
        have hinI : ¬ (i : Int) + 1 = (n : Int) := by omega
        have hb1 : ((c.toNat : Int) == 10) = false := by simp [hcI]
        have hb2 : ((i : Int) + 1 == (n : Int)) = false := by simp [hinI]
        have HNO2 : Hid ((10 : UInt8) ∉ (s.drop f).take (i + 1 - f)) := hid (lns_go s f i hfi (by rw [HN.out]; exact hlt) HNO.out (by rw [HC.out]; exact hc10))
        clear HC hE
        go_wp2
        go_roundg (n - (i + 1))
        case measure => omega
        case rel => exact ⟨i + 1, f, m, L, la, lc, rfl, hLm, by omega, by omega, rfl, rfl, by go_num, hLf, fun h => by omega, HB, HL, HNO2⟩
    · have hlti : ¬ (i : Int) < (n : Int) := by omega
      have HLZ : Hid (lns s = L) := hid (by
        have := HL.out
        rw [List.drop_of_length_le (by rw [HN.out, hend (by omega)]; exact Nat.le_refl _), lns_nil, List.append_nil] at this
        exact this)
      go_wp2
      go_ret
      refine ⟨_, rfl, ?_⟩
      rw [HLZ.out, HG.out]
      exact HB.out
end Go.Proofs.YtmpjapcijjjlbaaGreatDoor
