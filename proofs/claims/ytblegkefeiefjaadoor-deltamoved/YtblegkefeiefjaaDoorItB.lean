/- The program's 'putOut': its iterator. -/
import Derived.Test.YtblegkefeiefjaaDoorItA
import Derived.RangeFuncNested
import Derived.RangeFuncBound
import Derived.RangeFuncCalls
import Derived.RangeFuncLeaves
import Derived.RangeFuncBox
import Derived.Shelf.Abstract
import Derived.Shelf.RegionOpen
import Derived.WalkKit
import Derived.OwnWalkIn
import Derived.TacticsInMore
import Derived.LoopNIn
import Derived.LoopIn
namespace Go.Proofs.YtblegkefeiefjaaDoor
open Go.RowKit Go.Shelf Plain
set_option linter.unusedVariables false
set_option linter.unusedSimpArgs false
attribute [local go_sem] Oper.semAt_some

def slen : Value → Nat
  | .slice _ n _ => n
  | _ => 0
theorem Sl.below {w w' : World} {a : Option Addr} {cap : Nat} {l : List Int} (h : Sl w a cap l) (hb : Below w.heap.size w w') : Sl w' a cap l :=
  ⟨h.capl, fun h0 => by obtain ⟨b, off, e1, e2, e3⟩ := h.at_ h0; exact ⟨b, off, e1, Nat.lt_of_lt_of_le e2 hb.size, fun i hi => (hb.cell (p := ⟨b, off + i, none⟩) e2).trans (e3 i hi)⟩, h.nil⟩
/-- What a chunk is in a later world it was in the first one. -/
theorem Sl.back {w w' : World} {a : Option Addr} {cap : Nat} {l : List Int} (h : Sl w' a cap l) (hb : Below w.heap.size w w') (hp : ∀ p : Addr, a = some p → p.block < w.heap.size) : Sl w a cap l :=
  ⟨h.capl, fun h0 => by obtain ⟨b, off, e1, e2, e3⟩ := h.at_ h0; have := hp _ e1; exact ⟨b, off, e1, this, fun i hi => (hb.cell (p := ⟨b, off + i, none⟩) this).symm.trans (e3 i hi)⟩, h.nil⟩
/-- What a round that goes on keeps. -/
def Kp (w : World) (Bba : Nat) (A B : World) : Prop := Below w.heap.size A B ∧ B.heap[Bba]? = A.heap[Bba]?
def SAll (w : World) (base bs : List Int) (xs : List (Itm w)) : Prop := Steps w base bs xs [] ∨ ∃ p r, Steps w base bs p r ∧ r ≠ [] ∧ stp base r = none ∧ xs = p ++ [Itm.bad w]
def SPart (w : World) (base bs : List Int) (pre : List (Itm w)) : Prop := (∃ p x r r', Steps w base bs p r ∧ r ≠ [] ∧ stp base r = some (x.c, r') ∧ x.ok = true ∧ pre = p ++ [x]) ∨ ∃ p r, Steps w base bs p r ∧ r ≠ [] ∧ stp base r = none ∧ pre = p ++ [Itm.bad w]

set_option maxRecDepth 100000 in
set_option maxHeartbeats 4000000 in
theorem out1_in (n : Nat) (hn : 1 ≤ n) (w : World) (l Bst Bba : Nat) (a0 as_ : Option Addr) (cap0 cs : Nat) (base bs : List Int) (hSb : Sl w a0 cap0 base) (hSs : Sl w as_ cs bs) (hz : IsB bs) (hlb : base.length ≤ 400000) (hls : bs.length ≤ 400000) (J Jx : List (Itm w) → World → Prop)
    (hY : ∀ pre (x : Itm w) W, J pre W → pre.length < bs.length + 1 → YieldAt Fence.wide (n - 1) Tryd.prog l x.enc W fun e W' =>
      (e = .returned (.bool true) ∧ J (pre ++ [x]) W' ∧ Kp w Bba W W') ∨ (e = .returned (.bool false) ∧ Jx (pre ++ [x]) W'))
    (W : World) (hW : Below w.heap.size w W) (hst : W.cell? ⟨Bst, 0, none⟩ = some (.slice as_ bs.length cs)) (hba : W.cell? ⟨Bba, 0, none⟩ = some (.slice a0 base.length cap0)) (h0 : J [] W) :
    CallsIn Fence.wide n Tryd.prog 24 #[.func (.yield l) #[] #[], .pointer (some ⟨Bst, 0, none⟩), .pointer (some ⟨Bba, 0, none⟩)] W fun e W' => (∃ v, e = .returned v) ∧
      ((∃ xs, SAll w base bs xs ∧ J xs W') ∨ (∃ pre, SPart w base bs pre ∧ Jx pre W')) := by
  refine callsIn_of_wp Tryd.func24 rfl trivial ?_ rfl
  simp only [Tryd.ntmps24, List.size_toArray, List.length_cons, List.length_nil, Nat.reduceAdd, Nat.reduceSub, Array.replicate_succ, Array.replicate_zero, List.push_toArray, List.append_toArray, List.nil_append, List.cons_append]
  gi_wp2
  gi_loopw [4] (fun v wr => ∃ (pre : List (Itm w)) (r : List Int) (ar : Option Addr) (cr : Nat), v = .slice ar r.length cr ∧ Sl w ar cr r ∧ Steps w base bs pre r ∧ J pre wr ∧ Below w.heap.size w wr ∧ wr.cell? ⟨Bba, 0, none⟩ = some (.slice a0 base.length cap0))
    (fun v _ => slen v)
  case atStart => exact ⟨[], bs, as_, cs, rfl, hSs, Steps.nil bs, h0, hW, hba⟩
  case round =>
    obtain ⟨pre, r, ar, cr, rfl, hSr, hSt, hJs, hBw, hcb⟩ := hrel
    have hlen := hSt.len
    by_cases hr0 : r = []
    · subst hr0
      gi_wp2
      go_end0
      exact ⟨⟨_, rfl⟩, .inl ⟨pre, .inl hSt, hJs⟩⟩
    · have hrl : 0 < r.length := List.length_pos_iff.2 hr0
      obtain ⟨b, off, rfl, hb, hat⟩ := hSr.at_ hrl
      obtain ⟨k, hk⟩ := hSt.isB hz
      have hrB : IsB r := by rw [hk]; exact isB_drop hz k
      have RS := readStep_any a0 cap0 b off cr base r wr hrB (by omega) hlb (hSb.below hBw) hrl (fun i hi => (hBw.cell (p := ⟨b, off + i, none⟩) hb).trans (hat i hi)) (Nat.lt_of_lt_of_le hb hBw.size) hSr.capl
      have HSR : Hid _ := hSr
      have HST : Hid _ := hSt
      have HBW : Hid _ := hBw
      have HR0 : Hid _ := hr0
      obtain ⟨L, HL⟩ : ∃ L, Hid (L = r.length) := ⟨_, rfl⟩
      rw [← HL.out] at RS hrl ⊢
      have hLZ : (0 : Int) < L := by omega
      cases e : stp base r with
      | none =>
        rw [e] at RS
        obtain ⟨fn, tmps, assign, body, hy, hR⟩ := hY pre (Itm.bad w) wr hJs (by omega)
        dsimp only [Itm.enc, Itm.bad, List.length_nil] at hy
        clear hSr hSt hBw hat hr0
        gi_wp2_with (refine ⟨trivial, ?_⟩; gi_at_call 25; refine (callsIn_wide.2 RS).mono ?_; clear RS; rintro e1 w1 ⟨rfl, rfl⟩)
        refine hR.mono ?_
        rintro e1 W3 (⟨rfl, hJ3, hk3⟩ | ⟨rfl, hJx3⟩)
        · gi_wp2
          refine bodyPost_ret (results_none rfl _ _ _) rfl ?_
          exact ⟨⟨_, rfl⟩, .inl ⟨_, .inr ⟨pre, r, HST.out, HR0.out, e, rfl⟩, hJ3⟩⟩
        · gi_wp2
          refine bodyPost_ret (results_none rfl _ _ _) rfl ?_
          exact ⟨⟨_, rfl⟩, .inr ⟨_, .inr ⟨pre, r, HST.out, HR0.out, e, rfl⟩, hJx3⟩⟩
      | some cr' =>
        obtain ⟨c, r'⟩ := cr'
        rw [e] at RS
        clear hSr hSt hBw hr0
        gi_wp2_with (refine ⟨trivial, ?_⟩; gi_at_call 25; refine (callsIn_wide.2 RS).mono ?_; clear RS; rintro e1 w1 ⟨rfl, aa, cap1, u, ad, rfl, hru, hu1, hu2, hSc, hpp⟩)
        have hpl : ∀ p : Addr, ad = some p → p.block < w.heap.size := fun p hp => by
          rcases hpp p hp with h | ⟨p0, h1, h2, h3⟩
          · omega
          · obtain ⟨b1, off1, g1, g2, _⟩ := hSb.at_ h3
            rw [h1] at g1; cases g1; rw [h2]; exact g2
        obtain ⟨x, HX⟩ : ∃ x : Itm w, Hid (x = ⟨ad, cap1, c, true, hSc.back HBW.out hpl, fun _ => stp_pos hrB e⟩) := ⟨_, rfl⟩
        have hxc : x.c = c := by rw [HX.out]
        have hxo : x.ok = true := by rw [HX.out]
        obtain ⟨fn, tmps, assign, body, hy, hR⟩ := hY pre x w1 hJs (by omega)
        have hxe : x.enc = #[.slice ad c.length cap1, .bool true] := by rw [HX.out]; rfl
        rw [hxe] at hy
        obtain ⟨ad2, HAD⟩ : ∃ ad2, Hid ((if cr = u then some (⟨b, off, none⟩ : Addr) else some ⟨b, off + u, none⟩) = ad2) := ⟨_, rfl⟩
        have had := HAD.out
        have hcr : L ≤ cr := by rw [HL.out]; exact HSR.out.capl
        rw [← HL.out] at hu2
        have hlr : r'.length = L - u := by rw [hru, List.length_drop, ← HL.out]
        have HSL : Hid (Sl w ad2 (cr - u) r') := ⟨by rw [hlr]; omega, fun h => by
            rw [hlr] at h
            rw [← HAD.out, if_neg (by omega), hru]
            exact ⟨b, off + u, rfl, hb, at_drop hat u (by rw [← HL.out]; exact hu2)⟩, fun h => by rw [← HAD.out] at h; split at h <;> cases h⟩
        have HS2 : Hid (Steps w base bs (pre ++ [x]) r') := Steps.snoc x HST.out HR0.out (by rw [hxc]; exact e) hxo
        clear hxe HX hpl hpp hSc
        rw [hy]
        gi_wp2
        refine hR.mono ?_
        rintro e1 W3 (⟨rfl, hJ3, hk3⟩ | ⟨rfl, hJx3⟩)
        · have hcb3 : W3.cell? ⟨Bba, 0, none⟩ = some (.slice a0 base.length cap0) := (World.cell?_of_block (a := ⟨Bba, 0, none⟩) hk3.2).trans hcb
          have HB3 : Hid (Below w.heap.size w W3) := HBW.out.trans hk3.1
          gi_wp2
          go_roundw
          case rel => exact ⟨pre ++ [x], r', ad2, cr - u, by rw [hlr], HSL.out, HS2.out, hJ3, HB3.out, hcb3⟩
          case measure => simp [slen]; omega
        · gi_wp2
          refine bodyPost_ret (results_none rfl _ _ _) rfl ?_
          exact ⟨⟨_, rfl⟩, .inr ⟨_, .inl ⟨pre, x, r, r', HST.out, HR0.out, by rw [hxc]; exact e, hxo, rfl⟩, hJx3⟩⟩
end Go.Proofs.YtblegkefeiefjaaDoor
