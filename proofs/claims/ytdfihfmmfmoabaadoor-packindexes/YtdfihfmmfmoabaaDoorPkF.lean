/- 'slices.Clone' and 'sortPlaces' of places. -/
import Derived.Test.YtdfihfmmfmoabaaDoorPkE
namespace Go.Proofs.YtdfihfmmfmoabaaDoor
open Go.RowKit Go.Shelf
variable [Inhabited Pn]
set_option linter.unusedVariables false
set_option linter.unusedSectionVars false
set_option linter.unusedSimpArgs false
/-- Where a slice may lie. -/
def Plain0 (a : Option Addr) : Prop := a = none ∨ ∃ b off, a = some ⟨b, off, none⟩
theorem sizeOf32' (w : World) : (Go.sizeOf 32).run Tryd.prog w = .ok 22 w := by kernel_rfl
theorem clone_any (a : Option Addr) (cap : Nat) (l : List Pl) (w : World) (hq : WfQ l) (hl : l.length ≤ 6000) (hP : Pp w a cap l) (ha : Plain0 a) :
    Calls Tryd.prog 10 #[.slice a l.length cap] w fun e w' => ∃ v, e = .returned v ∧ Bp 32 w w' w.heap.size v l := by
  obtain ⟨i, hi, hz0, hz1, hz2⟩ := info_parts Tryd.info32p
  rcases ha with rfl | ⟨b, off, rfl⟩
  · have h1 := hP.nil rfl
    have h2 := hP.capl
    obtain rfl : l = [] := List.length_eq_zero_iff.1 (by omega)
    subst h1
    refine (AnyE.slices_Clone_nil Tryd.cloneP 0 0 w).mono ?_
    rintro e w' ⟨rfl, rfl⟩
    exact ⟨_, rfl, bp_nil 32 _ _ (Nat.le_refl _)⟩
  · refine (AnyE.slices_Clone Tryd.cloneP i (.agg (plV p0).toArray) 22 40 hi hz0 hz1 hz2 rfl (by decide) sizeOf32' b off l.length cap (l.flatMap plV) w (fP_len l hq) (by unfold maxLen; omega) (by omega) (hP.cells hq) (fP_one l)).mono ?_
    rintro e w' ⟨v', rfl, h1, h2, h3⟩
    exact ⟨v', rfl, ⟨h3, h1, h3.size⟩⟩
/-- What sorting leaves. -/
def PostS (B : Nat) (w0 : World) (v : Value) (l : List Pl) (w' : World) : Prop := ∃ a cap l', v = .slice a l.length cap ∧ l'.Perm l ∧ l'.Pairwise (fun x y => ¬ Lib.bytesOf y.id < Lib.bytesOf x.id) ∧ Pp w' a cap l' ∧ Below B w0 w'
theorem sortFunc_any (w0 w : World) (B : Nat) (v : Value) (l : List Pl) (hB : B ≤ w0.heap.size) (hq : WfQ l) (hl : l.length ≤ 6000) (hb : Bp 32 w0 w B v l) :
    Calls Tryd.prog 25 #[v, .func (.func 26) #[] #[]] w fun e w' => e = .returned (.tuple #[]) ∧ PostS B w0 v l w' := by
  obtain ⟨a, cap, rfl, hpp, hge⟩ := own_pp hb.own hq
  by_cases h0 : l.length = 0
  · obtain rfl : l = [] := List.length_eq_zero_iff.1 h0
    refine (sort_none a cap _ w).mono ?_
    rintro e w' ⟨rfl, rfl⟩
    exact ⟨rfl, a, cap, [], rfl, List.Perm.refl _, List.Pairwise.nil, hpp, hb.below⟩
  · obtain ⟨b, off, rfl, hlt, _⟩ := hpp.at_ (by omega)
    have hown := hb.own
    obtain ⟨_, ⟨hv, _⟩ | ⟨g, cap2, cur, hv, _⟩⟩ := hb.own
    · cases hv
    · cases hv
      have hH := holds_own hq rfl hown
      have := sort_any b 0 cap (toP l hq).toArray w hH hlt (by rw [List.size_toArray, toP_len]; exact hl)
      rw [List.size_toArray, toP_len] at this
      refine this.mono ?_
      rintro e w' ⟨rfl, d', n, os, h1, h2, rfl⟩
      have hsz : (toP l hq).toArray.size = l.length := by rw [List.size_toArray, toP_len]
      obtain ⟨k1, k2, k3⟩ := sorted_post (w0 := w0) hq rfl hown d' n os (by rw [hsz]; exact h1) (by rw [hsz]; exact h2)
      exact ⟨rfl, _, cap, _, rfl, k1, k2, k3, sortW_below hb.below hB b n d' os (hge _ rfl)⟩
set_option maxRecDepth 20000 in
theorem sortPlaces_any (w0 w : World) (B : Nat) (v : Value) (l : List Pl) (hB : B ≤ w0.heap.size) (hq : WfQ l) (hl : l.length ≤ 6000) (hb : Bp 32 w0 w B v l) :
    Calls Tryd.prog 11 #[v] w fun e w' => e = .returned (.tuple #[]) ∧ PostS B w0 v l w' := by
  have HC : Hid (Calls Tryd.prog 25 #[v, .func (.func 26) #[] #[]] w fun e w' => e = .returned (.tuple #[]) ∧ PostS B w0 v l w') := sortFunc_any w0 w B v l hB hq hl hb
  clear hb
  go_enter Tryd.func11, Tryd.ntmps11
  go_wp2_with fail
  refine HC.out.mono ?_
  rintro e w1 ⟨rfl, hp⟩
  have HP : Hid (PostS B w0 v l w1) := hp
  clear hp
  go_wp2
  go_end0
  exact ⟨rfl, HP.out⟩
end Go.Proofs.YtdfihfmmfmoabaaDoor
