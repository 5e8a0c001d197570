/- Places: plainly, in memory, of one's own. -/
import Derived.Test.YtdfihfmmfmoabaaDoorPkC
namespace Go.Proofs.YtdfihfmmfmoabaaDoor
open Go.RowKit Go.Shelf
set_option linter.unusedVariables false
set_option linter.unusedSimpArgs false
/-- A place. -/
structure Pl where
  id : List Int
  off : Int
  crc : Int
def p0 : Pl := ⟨z20, 0, 0⟩
/-- As cells. -/
def plV (p : Pl) : List Value := row .u8 p.id ++ [.int .i64 p.off, .int .u32 p.crc]
theorem plV_len (p : Pl) (h : p.id.length = 20) : (plV p).length = 22 := by simp [plV, row_len, h]
theorem plV_one (p : Pl) : ∀ v ∈ plV p, v.oneCell' = true := by
  intro v hv
  rcases List.mem_append.1 hv with hv | hv
  · exact row_one _ _ v hv
  · simp only [List.mem_cons, List.not_mem_nil, or_false] at hv
    rcases hv with rfl | rfl <;> rfl
/-- Places that are some. -/
def Wp (l : List Pl) : Prop := ∀ p ∈ l, p.id.length = 20 ∧ (∀ n ∈ p.id, 0 ≤ n ∧ n < 256) ∧ 0 ≤ p.crc ∧ p.crc < 4294967296
/-- In memory, twenty-two cells each. -/
structure Pp (w : World) (a : Option Addr) (cap : Nat) (l : List Pl) : Prop where
  capl : l.length ≤ cap
  at_ : 0 < l.length → ∃ b off, a = some ⟨b, off, none⟩ ∧ b < w.heap.size ∧ ∀ i, i < l.length → w.rangeAt b (off + i * 22) (plV (l.getD i p0))
  nil : a = none → cap = 0
theorem Pp.below {w w' : World} {a : Option Addr} {cap : Nat} {l : List Pl} (h : Pp w a cap l) (hb : Below w.heap.size w w') : Pp w' a cap l :=
  ⟨h.capl, fun h0 => by
    obtain ⟨b, off, e1, e2, e3⟩ := h.at_ h0
    exact ⟨b, off, e1, Nat.lt_of_lt_of_le e2 hb.size, fun i hi j v hv => (hb.cell (p := ⟨b, off + i * 22 + j, none⟩) e2).trans (e3 i hi j v hv)⟩, h.nil⟩
theorem fP_len (l : List Pl) (h : ∀ x ∈ l, x.id.length = 20) : (l.flatMap plV).length = l.length * 22 := by
  induction l with
  | nil => rfl
  | cons x l ih =>
    have h1 := ih (fun y hy => h y (by simp [hy]))
    have h2 : (plV x).length = 22 := plV_len x (h x (by simp))
    simp only [List.flatMap_cons, List.length_append, List.length_cons] at h1 ⊢
    omega
theorem fP_one (l : List Pl) : ∀ v ∈ l.flatMap plV, v.oneCell' = true := by
  intro v hv
  obtain ⟨x, _, h⟩ := List.mem_flatMap.1 hv
  exact plV_one x v h
theorem fP_at : ∀ (l : List Pl) (h : ∀ x ∈ l, x.id.length = 20) (i j : Nat), i < l.length → j < 22 → (l.flatMap plV)[i * 22 + j]? = (plV (l.getD i p0))[j]?
  | [], h, i, j, hi, hj => by simp at hi
  | x :: r, h, 0, j, hi, hj => by
    have h2 : (plV x).length = 22 := plV_len x (h x (by simp))
    simp only [List.flatMap_cons, Nat.zero_mul, Nat.zero_add]
    rw [List.getElem?_append_left (by omega)]
    rfl
  | x :: r, h, i + 1, j, hi, hj => by
    have h2 : (plV x).length = 22 := plV_len x (h x (by simp))
    have := fP_at r (fun y hy => h y (by simp [hy])) i j (by simpa using hi) hj
    simp only [List.flatMap_cons]
    rw [List.getElem?_append_right (by omega), h2, show (i + 1) * 22 + j - 22 = i * 22 + j by omega, this]
    rfl
theorem Pp.cells {w : World} {b off cap : Nat} {l : List Pl} (h : Pp w (some ⟨b, off, none⟩) cap l) (hw : ∀ x ∈ l, x.id.length = 20) : ∀ (j : Nat) (u : Value), (l.flatMap plV)[j]? = some u → w.cell? ⟨b, off + j, none⟩ = some u := by
  intro j u hj
  have hlt := (List.getElem?_eq_some_iff.1 hj).1
  rw [fP_len l hw] at hlt
  have hd : j / 22 < l.length := Nat.div_lt_of_lt_mul (by omega)
  have hm : j % 22 < 22 := Nat.mod_lt _ (by omega)
  obtain ⟨b', off', e1, e2, e3⟩ := h.at_ (by omega)
  cases e1
  have e : j / 22 * 22 + j % 22 = j := by omega
  have hf := fP_at l hw (j / 22) (j % 22) hd hm
  rw [e, hj] at hf
  have := e3 (j / 22) hd (j % 22) u hf.symm
  rw [← this]
  congr 2
  omega
/-- Places of one's own, made since. -/
structure Bp (e : TypeId) (w0 w : World) (B : Nat) (v : Value) (l : List Pl) : Prop where
  below : Below B w0 w
  own : w.ownsRow B e 22 v l.length (l.flatMap plV)
  le : B ≤ w.heap.size
theorem Bp.alloc {e : TypeId} {w0 w : World} {B : Nat} {v : Value} {l : List Pl} (h : Bp e w0 w B v l) (o : Obj) : Bp e w0 (w.alloc o) B v l :=
  ⟨h.below.alloc h.le o, h.own.alloc o, Nat.le_trans h.le (by simp)⟩
theorem bp_nil (e : TypeId) (w : World) (B : Nat) (h : B ≤ w.heap.size) : Bp e w w B (.slice none 0 0) [] := ⟨Below.refl _ _, ⟨rfl, .inl ⟨rfl, rfl⟩⟩, h⟩
theorem Bp.carry {e : TypeId} {w0 w w' : World} {B : Nat} {v : Value} {l : List Pl} (h : Bp e w0 w B v l) (hb : Below w.heap.size w w') : Bp e w0 w' B v l :=
  ⟨h.below.trans (hb.mono h.le), h.own.kept (row := none) ⟨hb.os, hb.tape, hb.output, hb.size, fun k hk _ => hb.block k hk⟩ (by cases h : v.ownBlock <;> simp), Nat.le_trans h.le hb.size⟩
theorem own_pp {e : TypeId} {w : World} {B : Nat} {v : Value} {l : List Pl} (h : w.ownsRow B e 22 v l.length (l.flatMap plV)) (hw : ∀ x ∈ l, x.id.length = 20) : ∃ a cap, v = .slice a l.length cap ∧ Pp w a cap l ∧ ∀ p : Addr, a = some p → B ≤ p.block := by
  have h1 := h
  obtain ⟨hl, ⟨hv, h0⟩ | ⟨g, cap, cur, hv, hb, hh, hkc, hcm, hsz, htk⟩⟩ := h
  · refine ⟨none, 0, by rw [hv, h0], ⟨by omega, fun h => by omega, fun _ => rfl⟩, fun p hp => by cases hp⟩
  · refine ⟨_, cap, hv, ⟨hkc, fun _ => ⟨g, 0, rfl, (Array.getElem?_eq_some_iff.1 hh).1, fun i hi j v hv => ?_⟩, fun e => by cases e⟩, fun p hp => by cases hp; exact hb⟩
    have hj : j < 22 := by
      have := (List.getElem?_eq_some_iff.1 hv).1
      have hm : l.getD i p0 ∈ l := by
        rw [List.getD_eq_getElem?_getD, List.getElem?_eq_getElem hi]
        exact List.getElem_mem _
      rw [plV_len _ (hw _ hm)] at this
      exact this
    have hf := fP_at l hw i j hi hj
    rw [hv] at hf
    rw [Nat.zero_add, cell_of_row w g (i * 22 + j) _ _ _ hh]
    have hlt : i * 22 + j < l.length * 22 := by omega
    rw [← htk, List.getElem?_take_of_lt hlt] at hf
    simpa using hf
theorem Tryd.info32p : (Tryd.prog.info? 32).map (fun i => (i.zero, i.size, i.bytes)) = some (some (.agg (plV p0).toArray), 22, 40) := by kernel_rfl
theorem Tryd.size32 : (Tryd.prog.info? 32).map (·.size) = some 22 := by kernel_rfl
theorem zero32 (w : World) : (zeroValue 32).run Tryd.prog w = .ok (.agg (plV p0).toArray) w := by kernel_rfl
/-- A slice of places behind places of one's own. -/
theorem wpList_bp_sl {w w0 : World} {ops : Array Oper} {rest : List Oper} {o : Oper} {a : Act} {Q : Exit → Act → World → Prop} (hgd : o.guard = none) (s x : Operand) (t e : TypeId) (hu : Tryd.prog.underlying t = some (.slice e)) (hin : (Tryd.prog.info? e).map (fun i => (i.zero, i.size, i.bytes)) = some (some (.agg (plV p0).toArray), 22, 40))
    (ho : o.op = .call { callee := .builtin .append, args := #[s, x], argTypes := #[t, t] }) (B : Nat) (v : Value) (ids : List Pl) (hs : a.eval s = v) (h : Bp e w0 w B v ids)
    (ax : Option Addr) (cx : Nat) (l : List Pl) (hx : a.eval x = .slice ax l.length cx) (hP : Pp w ax cx l) (hw : ∀ x ∈ l, x.id.length = 20) (hl : ids.length + l.length ≤ 30000)
    (hK : ∀ v' w', Bp e w0 w' B v' (ids ++ l) → w.grownBy w' v.ownBlock → wpList Tryd.prog ops Q rest (a.put o.dst v') w') : wpList Tryd.prog ops Q (o :: rest) a w := by
  obtain ⟨i, hi, hz0, hz1, hz2⟩ := info_parts hin
  cases ax with
  | none =>
    have hc : cx = 0 := hP.nil rfl
    have hcl := hP.capl
    obtain rfl : l = [] := List.length_eq_zero_iff.1 (by omega)
    subst hc
    refine wpList_plain hgd fun K hK' => ?_
    have hr := run_append_owned_none (P := Tryd.prog) w B t o.type e i 22 hu hi v _ _ h.own
    unfold Oper.wp execOp
    simp only [List.length_nil] at hx
    simp only [ho, resolve, invoke, builtin, Sem.run_bind, Sem.run_pure, Result.andThen_ok, List.map_toArray, List.map_cons, List.map_nil, hs, hx, hr]
    exact hK' _ _ (hK v w (by simpa using h) ⟨rfl, rfl, rfl, Nat.le_refl _, fun _ _ _ => rfl⟩)
  | some ad =>
    obtain ⟨bk, of, fr⟩ := ad
    by_cases h0 : l.length = 0
    · obtain rfl : l = [] := List.length_eq_zero_iff.1 h0
      refine wpList_append_own_at w hgd s x t ho B e i (.agg (plV p0).toArray) 22 40 hu hi hz0 hz1 hz2 rfl (by decide) v _ _ hs h.own ⟨bk, of, fr⟩ 0 cx [] hx rfl (fun j u hj => by cases hj) (fun u hu => by cases hu) (by unfold maxLen; omega) (by omega) h.le ?_
      intro v' w' h1 h2 h3 h4
      refine hK v' w' ⟨h.below.grown h2 h.le (fun k hk => (own_lt h.own k hk).1), ?_, Nat.le_trans h.le h2.size⟩ h2
      simpa using h1
    · obtain ⟨b', off', e1, _⟩ := hP.at_ (by omega)
      cases e1
      refine wpList_append_own_at w hgd s x t ho B e i (.agg (plV p0).toArray) 22 40 hu hi hz0 hz1 hz2 rfl (by decide) v _ _ hs h.own ⟨bk, of, none⟩ l.length cx (l.flatMap plV) hx (fP_len l hw) (fun j u hj => by rw [addr_add]; exact hP.cells hw j u hj) (fP_one l) (by unfold maxLen; omega) (by omega) h.le ?_
      intro v' w' h1 h2 h3 h4
      refine hK v' w' ⟨h.below.grown h2 h.le (fun k hk => (own_lt h.own k hk).1), ?_, Nat.le_trans h.le h2.size⟩ h2
      rw [List.length_append, List.flatMap_append]
      exact h1
end Go.Proofs.YtdfihfmmfmoabaaDoor
