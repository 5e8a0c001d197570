/- The law 'DeltaMoved': what its walk wants. -/
import Derived.Test.YtblegkefeiefjaaDoorMvP
import Derived.Test.YtblegkefeiefjaaDoorDrA
namespace Go.Proofs.YtblegkefeiefjaaDoor
open Go.RowKit Plain Go.Shelf Go.Maps
set_option linter.unusedVariables false
set_option linter.unusedSimpArgs false
section
variable {P : Program} {w : World}
theorem wpList_append_nil {ops : Array Oper} {rest : List Oper} {o : Oper} {a : Act} {Q : Exit → Act → World → Prop} (hgd : o.guard = none) (s x : Operand) (t : TypeId)
    (ho : o.op = .call { callee := .builtin .append, args := #[s, x], argTypes := #[t, t] })
    (base : Nat) (e : TypeId) (i : TypeInfo) (size : Nat) (ht : P.underlying t = some (.slice e)) (hi : P.info? e = some i)
    (v : Value) (n : Nat) (xs : List Value) (hs : a.eval s = v) (hown : w.ownsRow base e size v n xs) (hx : a.eval x = .slice none 0 0)
    (h : wpList P ops Q rest (a.put o.dst v) w) :
    wpList P ops Q (o :: rest) a w := by
  refine wpList_plain hgd fun K hK => ?_
  have hr := run_append_owned_none (P := P) w base t o.type e i size ht hi v n xs hown
  unfold Oper.wp execOp
  simp only [ho, resolve, invoke, builtin, Sem.run_bind, Sem.run_pure, Result.andThen_ok, List.map_toArray, List.map_cons, List.map_nil, hs, hx, hr]
  exact hK _ _ h
end
/-- 'append' of the bytes of a slice, to bytes of one's own. -/
theorem wpList_append_sl {w : World} {ops : Array Oper} {rest : List Oper} {o : Oper} {a : Act} {Q : Exit → Act → World → Prop} (hgd : o.guard = none) (s x : Operand)
    (ho : o.op = .call { callee := .builtin .append, args := #[s, x], argTypes := #[22, 22] })
    (B : Nat) (v : Value) (out : List Int) (hs : a.eval s = v) (hown : w.ownsRow B 5 1 v out.length (out.map (Value.int .u8)))
    (ax : Option Addr) (cx : Nat) (l : List Int) (hx : a.eval x = .slice ax l.length cx) (hS : Sl w ax cx l) (hl : out.length + l.length ≤ 1000000000) (hB : B ≤ w.heap.size)
    (h : ∀ v' w', w'.ownsRow B 5 1 v' (out ++ l).length ((out ++ l).map (Value.int .u8)) → Mv w w' v v' → wpList Tryd.prog ops Q rest (a.put o.dst v') w') :
    wpList Tryd.prog ops Q (o :: rest) a w := by
  obtain ⟨i5, hi, hz0, hz1, hz2⟩ := info_parts Tryd.infoB
  cases ax with
  | none =>
    have hc : cx = 0 := hS.nil rfl
    have hcl := hS.capl
    obtain rfl : l = [] := List.length_eq_zero_iff.1 (by omega)
    subst hc
    refine wpList_append_nil hgd s x 22 ho B 5 i5 1 Tryd.underlying22 hi v _ _ hs hown hx ?_
    exact h v w (by simpa using hown) (Mv.refl _ _)
  | some ad =>
    refine wpList_append_own_at w hgd s x 22 ho B 5 i5 (.int .u8 0) 1 1 Tryd.underlying22 hi hz0 hz1 hz2 rfl (by decide) v _ _ hs hown ad l.length cx (l.map (Value.int .u8)) hx (by simp) ?_ (ints_oneCell .u8 l) (by unfold maxLen; omega) (by omega) hB ?_
    · intro j z hj
      rw [List.getElem?_map] at hj
      cases hc : l[j]? with
      | none => rw [hc] at hj; cases hj
      | some y =>
        rw [hc] at hj; cases hj
        have hlt := (List.getElem?_eq_some_iff.1 hc).1
        obtain ⟨b, off, e1, e2, e3⟩ := hS.at_ (by omega)
        cases e1
        have := e3 j hlt
        rw [addr_add]
        simpa [List.getD_eq_getElem?_getD, hc] using this
    · intro v' w' h1 h2 h3 h4
      refine h v' w' ?_ (Mv.app (grown_refl _) h2 h4)
      rw [List.length_append, List.map_append]
      exact h1
/-- The pieces, as they lie. -/
def Pcs (W : World) (pa : Option Addr) (n : Nat) : Prop :=
  ∀ i, i < n → ∃ (b off : Nat) (F L : Int) (a : Option Addr) (cap : Nat) (m : List Int), pa = some ⟨b, off, none⟩ ∧ b < W.heap.size ∧ W.cell? ⟨b, off + i * 3, none⟩ = some (.int .i64 F) ∧ W.cell? ⟨b, off + i * 3 + 1, none⟩ = some (.int .i64 L) ∧ W.cell? ⟨b, off + i * 3 + 2, none⟩ = some (.slice a m.length cap) ∧ IsB m ∧ Sl W a cap m
theorem sl_part {w : World} {b off cap : Nat} {l : List Int} (h : Sl w (some ⟨b, off, none⟩) cap l) (j n : Nat) (hj : j + n ≤ l.length) (ad : Option Addr) (c : Nat) (hn : 0 < n) (hc : n ≤ c) (had : ad = some ⟨b, off + j, none⟩) : Sl w ad c ((l.drop j).take n) := by
  have hlen : ((l.drop j).take n).length = n := by simp; omega
  refine ⟨by omega, fun _ => ?_, fun e => by rw [had] at e; cases e⟩
  obtain ⟨b', off', e1, e2, e3⟩ := h.at_ (by omega)
  cases e1
  exact ⟨b, off + j, had, e2, at_sub e3 j n hj⟩
end Go.Proofs.YtblegkefeiefjaaDoor
