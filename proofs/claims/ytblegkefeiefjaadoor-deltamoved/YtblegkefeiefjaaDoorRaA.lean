/- The document's 'Apply'. -/
import Derived.Test.YtblegkefeiefjaaDoorRpA
namespace Go.Proofs.YtblegkefeiefjaaDoor
open Go.RowKit Plain
set_option linter.unusedVariables false
set_option linter.unusedSimpArgs false
theorem Tryd.results10 : Tryd.f10.results = #[.tmp 4, .tmp 5] := by kernel_rfl
theorem Tryd.info5r : (Tryd.prog.info? 5).map (fun i => (i.zero, i.size, i.bytes)) = some (some (.int .u8 0), 1, 1) := by kernel_rfl
/-- What the document's 'Apply' leaves. -/
def PostB (w : World) (r : Option (List Int)) (ev : Ending) (w' : World) : Prop :=
  Below w.heap.size w w' ∧ match r with
  | none => ∃ a k cap, ev = .returned (.tuple #[.slice a k cap, .bool false])
  | some out => ∃ a cap, ev = .returned (.tuple #[.slice a out.length cap, .bool true]) ∧ w'.ownsRow w.heap.size 5 1 (.slice a out.length cap) out.length (out.map (Value.int .u8))
theorem stp_own (base : List Int) {x : Nat} {t : List Int} (h0 : 0 < x) (h8 : x < 128) : stp base ((x : Int) :: t) = if x ≤ t.length then some (t.take x, t.drop x) else none := by
  rw [stp, if_neg (by omega), if_pos (by omega), Int.toNat_natCast]
theorem stp_copy (base : List Int) {x : Nat} {t : List Int} (h8 : 128 ≤ x) : stp base ((x : Int) :: t) = match prt 4 x 0 0 0 t with
      | none => none
      | some (at_, r1) => match prt 3 x 4 0 0 r1 with
        | none => none
        | some (c, r2) => if at_ + cnt c ≤ base.length then some ((base.drop at_).take (cnt c), r2) else none := by
  rw [stp, if_neg (by omega), if_neg (by omega), Int.toNat_natCast]
  rfl
theorem stp_zero (base t : List Int) : stp base ((0 : Int) :: t) = none := by rw [stp, if_pos rfl]
theorem prt_tail : ∀ (c op k j n : Nat) (b : List Int) (n' : Nat) (r : List Int), prt c op k j n b = some (n', r) → ∃ q, r = b.drop q
  | 0, op, k, j, n, b, n', r, h => by simp [prt] at h; exact ⟨0, by rw [h.2]; rfl⟩
  | c + 1, op, k, j, n, b, n', r, h => by
    rw [prt] at h
    split at h
    · exact prt_tail c _ _ _ _ _ _ _ h
    · split at h
      · cases h
      · obtain ⟨q, hq⟩ := prt_tail c _ _ _ _ _ _ _ h
        exact ⟨1 + q, by rw [hq, List.drop_drop]⟩
theorem Sl.back' {w w' : World} {a a0 : Option Addr} {cap : Nat} {l : List Int} (h : Sl w' a cap l) (hb : Below w.heap.size w w') (hs : SameB a0 a) (hp : ∀ p : Addr, a0 = some p → p.block < w.heap.size) : Sl w a cap l :=
  ⟨h.capl, fun h0 => by
    obtain ⟨b, off, e1, e2, e3⟩ := h.at_ h0
    obtain ⟨p0, g1, g2⟩ := hs _ e1
    have : b < w.heap.size := by have := hp _ g1; rw [← g2] at this; exact this
    exact ⟨b, off, e1, this, fun i hi => (hb.cell (p := ⟨b, off + i, none⟩) this).symm.trans (e3 i hi)⟩, h.nil⟩
/-- A part of some bytes, as cells of a later world. -/
theorem cells_sub {w wr : World} {b off : Nat} {l : List Int} (hat : At w b off l) (hb : b < w.heap.size) (hB : Below w.heap.size w wr) (p n : Nat) (hpn : p + n ≤ l.length) :
    ∀ j u, (((l.drop p).take n).map (Value.int .u8))[j]? = some u → wr.cell? ((⟨b, off + p, none⟩ : Addr).add j) = some u := fun j u hu => by
  have hA := at_sub hat p n hpn
  rw [List.getElem?_map] at hu
  cases hj : ((l.drop p).take n)[j]? with
  | none => rw [hj] at hu; cases hu
  | some z =>
    rw [hj] at hu
    cases hu
    have hjl := (List.getElem?_eq_some_iff.1 hj).1
    have h1 := (hB.cell (p := ⟨b, off + p + j, none⟩) hb).trans (hA j hjl)
    simp only [List.getD_eq_getElem?_getD, hj, Option.getD_some] at h1
    by_cases h0 : j = 0
    · subst h0; simpa [Addr.add] using h1
    · simpa [Addr.add, h0] using h1
theorem grown_below {w wr w1 : World} {v : Value} {k : Nat} {xs : List Value} (h : Below w.heap.size w wr) (hown : wr.ownsRow w.heap.size 5 1 v k xs) (hg : wr.grownBy w1 v.ownBlock) : Below w.heap.size w w1 := by
  refine h.grown hg h.size fun j ej => ?_
  rcases hown.2 with ⟨rfl, _⟩ | ⟨g, cap, cur, rfl, hb, _, _⟩
  · simp [Value.ownBlock] at ej
  · obtain rfl : g = j := by simpa [Value.ownBlock] using ej
    exact hb
theorem results_2 {fn : Func} {p q : Tmp} (h : fn.results = #[.tmp p, .tmp q]) (tmps : Array Value) (w : World) (x y : Value) (hp : tmps.getD p undef = x) (hq : tmps.getD q undef = y) :
    (results fn tmps).run Tryd.prog w = .ok (.tuple #[x, y]) w := by
  have hp' : tmps[p]?.getD undef = x := by simpa using hp
  have hq' : tmps[q]?.getD undef = y := by simpa using hq
  simp [results, h, hp', hq']
/-- What the loop keeps. -/
structure RaI (w : World) (base : List Int) (m : Nat) (R : Option (List Int)) (bv ov : Value) (r out : List Int) (a oa : Option Addr) (cap oc : Nat) (wr : World) : Prop where
  bv : bv = .slice a r.length cap
  ov : ov = .slice oa out.length oc
  sl : Sl w a cap r
  isB : IsB r
  len : r.length ≤ 400000
  le : out.length ≤ m
  own : wr.ownsRow w.heap.size 5 1 (.slice oa out.length oc) out.length (out.map (Value.int .u8))
  b1 : Below w.heap.size w wr
  eq : appS base m r out = R
/-- A chunk more. -/
theorem RaI.more {w : World} {base : List Int} {m : Nat} {R : Option (List Int)} {bv ov : Value} {r out : List Int} {a oa : Option Addr} {cap oc : Nat} {wr w1 : World} (h : RaI w base m R bv ov r out a oa cap oc wr)
    {c r' : List Int} {a' : Option Addr} {cap' g oc' : Nat} (hne : r ≠ []) (hst : stp base r = some (c, r')) (hl : out.length + c.length ≤ m) (hsl : Sl w a' cap' r') (hB : IsB r')
    (ho : w1.ownsRow w.heap.size 5 1 (.slice (some ⟨g, 0, none⟩) (out.length + c.length) oc') (out.length + c.length) (out.map (Value.int .u8) ++ c.map (Value.int .u8))) (hg : wr.grownBy w1 (Value.slice oa out.length oc).ownBlock) :
    RaI w base m R (.slice a' r'.length cap') (.slice (some ⟨g, 0, none⟩) (out ++ c).length oc') r' (out ++ c) a' (some ⟨g, 0, none⟩) cap' oc' w1 := by
  have e1 : out.length + c.length = (out ++ c).length := by simp
  have e2 : out.map (Value.int .u8) ++ c.map (Value.int .u8) = (out ++ c).map (Value.int .u8) := by simp
  rw [e1, e2] at ho
  refine ⟨rfl, rfl, hsl, hB, ?_, by omega, ho, grown_below h.b1 h.own hg, ?_⟩
  · have := stp_len hst; have := h.len; omega
  · rw [← h.eq, appS_eq base m r out, if_neg hne, hst]
    simp only
    rw [if_pos hl]
end Go.Proofs.YtblegkefeiefjaaDoor
