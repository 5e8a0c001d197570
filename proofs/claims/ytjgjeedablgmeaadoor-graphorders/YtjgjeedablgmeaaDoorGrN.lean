/- 'bytes.Compare', 'idorder.Compare'. -/
import Derived.Test.YtjgjeedablgmeaaDoorGrM
import Derived.Lib.Bytealg
import Derived.Lib.Bytes
import Derived.Sort.Statements
import Derived.Lib.Strings
namespace Go.Proofs.YtjgjeedablgmeaaDoor
open Go.RowKit Go.Shelf
set_option linter.unusedVariables false
set_option linter.unusedSimpArgs false
def At (w : World) (b off : Nat) (zs : List Int) : Prop := ∀ i, i < zs.length → w.cell? ⟨b, off + i, none⟩ = some (.int .u8 (zs.getD i 0))
structure Sl (w : World) (a : Option Addr) (cap : Nat) (l : List Int) : Prop where
  capl : l.length ≤ cap
  at_ : 0 < l.length → ∃ b off, a = some ⟨b, off, none⟩ ∧ b < w.heap.size ∧ At w b off l
  nil : a = none → cap = 0
theorem run_loadBytes (b : Nat) (w : World) : ∀ (zs : List Int) (off : Nat) (acc : ByteArray), (∀ i, i < zs.length → w.cell? ⟨b, off + i, none⟩ = some (.int .u8 (zs.getD i 0))) →
    (Extern.Bytes.loadBytes ⟨b, off, none⟩ zs.length acc).run Tryd.prog w = .ok ⟨acc.data ++ (Lib.bytesOf zs).toArray⟩ w
  | [], off, acc, _ => by
    show (pure acc : Sem ByteArray).run Tryd.prog w = _
    simp [Lib.bytesOf]
  | z :: zs, off, acc, h => by
    have h0 := h 0 (by simp)
    simp only [Nat.add_zero, List.getD_cons_zero] at h0
    have ih := run_loadBytes b w zs (off + 1) (acc.push z.toNat.toUInt8) (fun i hi => by
      have := h (i + 1) (by simpa using hi)
      rw [show off + 1 + i = off + (i + 1) by omega, this]
      simp)
    have hl : (load (⟨b, off, none⟩ : Addr)).run Tryd.prog w = .ok (.int .u8 z) w := by simp [go_sem, h0]
    show (Extern.Bytes.loadBytes ⟨b, off, none⟩ (zs.length + 1) acc).run Tryd.prog w = _
    unfold Extern.Bytes.loadBytes
    rw [Sem.run_bind, hl]
    simp only [Result.andThen_ok]
    rw [addr_add, ih]
    congr 2
    simp [Lib.bytesOf, ByteArray.push]
theorem run_bytesOf {w : World} {a : Option Addr} {cap : Nat} {zs : List Int} (h : Sl w a cap zs) : (Extern.Bytes.bytesOf (.slice a zs.length cap)).run Tryd.prog w = .ok ⟨(Lib.bytesOf zs).toArray⟩ w := by
  cases a with
  | none =>
    have := h.nil rfl
    have := h.capl
    obtain rfl : zs = [] := List.length_eq_zero_iff.1 (by omega)
    show (pure ByteArray.empty : Sem ByteArray).run Tryd.prog w = _
    simp [Lib.bytesOf]
    rfl
  | some ad =>
    by_cases h0 : zs.length = 0
    · obtain rfl : zs = [] := List.length_eq_zero_iff.1 h0
      show (Extern.Bytes.loadBytes ad 0 .empty).run Tryd.prog w = _
      show (pure ByteArray.empty : Sem ByteArray).run Tryd.prog w = _
      simp [Lib.bytesOf]
      rfl
    · obtain ⟨b, off, e, _, hc⟩ := h.at_ (by omega)
      cases e
      show (Extern.Bytes.loadBytes ⟨b, off, none⟩ zs.length .empty).run Tryd.prog w = _
      rw [run_loadBytes b w zs off .empty hc]
      simp
set_option maxRecDepth 20000 in
set_option maxHeartbeats 1000000 in
/-- 'bytes.Compare'. -/
theorem compare_any (a a' : Option Addr) (c c' : Nat) (x y : List Int) (w : World) (hx : Sl w a c x) (hy : Sl w a' c' y) :
    Calls Tryd.prog 65 #[.slice a x.length c, .slice a' y.length c'] w fun e w' => e = .returned (.int .i64 (Lib.compareBytes (Lib.bytesOf x) (Lib.bytesOf y))) ∧ w' = w := by
  have HR : Hid ((Extern.BytealgCompare.compare #[.slice a x.length c, .slice a' y.length c']).run Tryd.prog w = .ok (.int .i64 (Lib.compareBytes (Lib.bytesOf x) (Lib.bytesOf y))) w) := hid (by
    change Sem.run Tryd.prog (do pure (goInt (Extern.BytealgCompare.cmp (← Extern.Bytes.bytesOf (.slice a x.length c)) (← Extern.Bytes.bytesOf (.slice a' y.length c'))))) w = _
    simp only [Sem.run_bind, run_bytesOf hx, run_bytesOf hy, Sem.run_pure, Result.andThen_ok]
    rw [Lib.cmp_eq]
    rfl)
  have h69 := @run_callFunc_extern Tryd.prog 69 _ Extern.BytealgCompare.compare Tryd.func69 (by kernel_rfl) (by kernel_rfl) (by kernel_rfl) (by kernel_rfl)
  obtain ⟨n, HN⟩ : ∃ n, Hid (x.length = n) := ⟨_, rfl⟩
  obtain ⟨m, HM⟩ : ∃ m, Hid (y.length = m) := ⟨_, rfl⟩
  obtain ⟨r, HRR⟩ : ∃ r, Hid (Lib.compareBytes (Lib.bytesOf x) (Lib.bytesOf y) = r) := ⟨_, rfl⟩
  rw [HN.out, HM.out, HRR.out] at HR
  rw [HN.out, HM.out, HRR.out]
  clear hx hy
  go_enter Tryd.func65, Tryd.ntmps65
  go_wp2_with fail
  rw [HR.out]
  simp only [Result.andThen]
  rw [Oper.upon_value]
  go_wp2
  go_ret
  exact ⟨rfl, rfl⟩
theorem cb_iff : ∀ a b : List UInt8, Lib.compareBytes a b < 0 ↔ a < b
  | [], [] => by simp [Lib.compareBytes]
  | [], b :: bs => by simp [Lib.compareBytes]
  | a :: xs, [] => by simp [Lib.compareBytes]
  | a :: xs, b :: bs => by
    rw [Lib.compareBytes, List.cons_lt_cons_iff, ← cb_iff xs bs]
    by_cases h1 : a < b
    · simp [h1]
    · rw [if_neg h1]
      by_cases h2 : b < a
      · rw [if_pos h2]
        have hne : a ≠ b := fun e => by rw [e] at h2; exact absurd h2 (by rw [UInt8.lt_iff_toNat_lt]; omega)
        simp [h1, hne]
      · rw [if_neg h2]
        have he : a = b := by
          rw [UInt8.lt_iff_toNat_lt] at h1 h2
          exact UInt8.toNat_inj.1 (by omega)
        simp [h1, he]
theorem lex_total (a b : List UInt8) (h1 : ¬ a < b) (h2 : ¬ b < a) : a = b := List.le_antisymm (List.not_lt.1 h2) (List.not_lt.1 h1)
theorem lex_trans (a b c : List UInt8) (h1 : a < b) (h2 : b < c) : a < c := List.lt_trans h1 h2
theorem lex_ntrans (a b c : List UInt8) (h1 : ¬ a < b) (h2 : ¬ b < c) : ¬ a < c := List.not_lt.2 (List.le_trans (List.not_lt.1 h2) (List.not_lt.1 h1))
theorem lex_irrefl (a : List UInt8) : ¬ a < a := List.lt_irrefl a
theorem id_sl {w : World} {g : Nat} {x : List Int} {t : TypeId} (h : w.heap[g]? = some (.cells (row .u8 x).toArray t (0, 0))) (hl : x.length = 20) : Sl w (some ⟨g, 0, none⟩) 20 x :=
  ⟨by omega, fun _ => ⟨g, 0, rfl, lt_of_some h, fun i hi => by
    rw [Nat.zero_add]
    exact row_cell h i hi⟩, fun e => by cases e⟩
/-- Two ids in their boxes. -/
structure Two (g h : Nat) (X Y : List Value) (t : TypeId) (W : World) : Prop where
  x : W.heap[g]? = some (.cells X.toArray t (0, 0))
  y : W.heap[h]? = some (.cells Y.toArray t (0, 0))
theorem enter65 (v1 v2 : Value) (w : World) : (callFunc 65 #[v1, v2]).run Tryd.prog w = .ok (.enter 65 #[v1, v2]) w := by kernel_rfl
/-- How two ids compare. -/
def cmpI (x y : List Int) : Int := Lib.compareBytes (Lib.bytesOf x) (Lib.bytesOf y)
set_option maxRecDepth 20000 in
set_option maxHeartbeats 1000000 in
theorem compareIDs_any (x y : List Int) (hx : x.length = 20) (hy : y.length = 20) (w : World) :
    Calls Tryd.prog 60 #[.agg (row .u8 x).toArray, .agg (row .u8 y).toArray] w fun e w' => e = .returned (.int .i64 (cmpI x y)) ∧ Below w.heap.size w w' := by
  obtain ⟨g, HG⟩ : ∃ g, Hid (g = w.heap.size) := ⟨_, rfl⟩
  obtain ⟨X, HX⟩ : ∃ X : List Value, Hid (row .u8 x = X) := ⟨_, rfl⟩
  obtain ⟨Y, HY⟩ : ∃ Y : List Value, Hid (row .u8 y = Y) := ⟨_, rfl⟩
  obtain ⟨w0, HW0⟩ : ∃ w0, Hid (w0 = (w.alloc (Obj.cells X.toArray 42)).alloc (Obj.cells Y.toArray 42)) := ⟨_, rfl⟩
  have HGW : Hid (Below w.heap.size w w0.drew) := hid (by rw [HW0.out]; exact below_drewH (((Below.refl _ w).alloc (Nat.le_refl _) _).alloc (by simp) _) 1)
  have HT : Hid (Two g (g + 1) X Y 42 w0.drew) := hid (by
    rw [HW0.out, HG.out]
    constructor
    · show ((w.heap.push _).push _)[w.heap.size]? = _
      rw [Array.getElem?_push, if_neg (by simp), Array.getElem?_push, if_pos rfl]
    · show ((w.heap.push _).push _)[w.heap.size + 1]? = _
      rw [Array.getElem?_push, if_pos (by simp)])
  obtain ⟨r, HR⟩ : ∃ r, Hid (cmpI x y = r) := ⟨_, rfl⟩
  have HC : Hid (∀ W, Two g (g + 1) X Y 42 W → Calls Tryd.prog 65 #[.slice (some ⟨g, 0, none⟩) 20 20, .slice (some ⟨g + 1, 0, none⟩) 20 20] W fun e w' => e = .returned (.int .i64 r) ∧ w' = W) := fun W hW => by
    have := compare_any (some ⟨g, 0, none⟩) (some ⟨g + 1, 0, none⟩) 20 20 x y W (id_sl (by rw [HX.out]; exact hW.x) hx) (id_sl (by rw [HY.out]; exact hW.y) hy)
    rw [hx, hy] at this
    rw [← HR.out]
    exact this
  rw [HX.out, HY.out, HR.out]
  clear hx hy
  go_enter Tryd.func60, Tryd.ntmps60
  go_wp2_with fail
  rw [← HG.out, ← HW0.out]
  refine wp_region_held_drew (S := Two g (g + 1) X Y 42) (by kernel_rfl) (by exact HT.out) (fun hHeld => ?_)
  generalize w0.drew = wd at hHeld HGW HT ⊢
  refine takeL (i := 0) (v := ?_) rfl (by kernel_rfl) (by kernel_rfl) (by kernel_rfl) (fun _ _ _ h => h) (Or.inl ⟨by rfl, ?_⟩) hHeld ?_
  rotate_left
  · rintro w' ⟨k1, k2⟩; go_simp; rfl
  try simp only [Act.put, List.setIfInBounds_toArray, List.set_cons_zero, List.set_cons_succ]
  refine takeL (i := 1) (v := ?_) rfl (by kernel_rfl) (by kernel_rfl) (by kernel_rfl) (fun _ _ _ h => h) (Or.inl ⟨by rfl, ?_⟩) hHeld ?_
  rotate_left
  · rintro w' ⟨k1, k2⟩; go_simp; rfl
  try simp only [Act.put, List.setIfInBounds_toArray, List.set_cons_zero, List.set_cons_succ]
  refine wpAnyH_ready (rs := [2]) (by kernel_rfl) (by simp) ?_
  refine consL rfl (fun KK hKK => ?_) AllReadyH.nil
  refine step_callv (by rfl) 65 [.tmp 5, .tmp 6] _ [.slice (some ⟨g, 0, none⟩) 20 20, .slice (some ⟨g + 1, 0, none⟩) 20 20] _ (by rfl) (by rfl) (enter65 _ _) (HC.out _ hHeld) ?_
  rintro e w1 ⟨rfl, rfl⟩
  refine ⟨_, rfl, ?_⟩
  refine hKK.out _ _ hHeld (fun hHeld2 => ?_)
  clear hKK KK
  try simp only [Act.put, List.setIfInBounds_toArray, List.set_cons_zero, List.set_cons_succ]
  refine takeL (i := 3) (v := ?_) rfl (by kernel_rfl) (by kernel_rfl) (by kernel_rfl) (fun _ _ _ h => h) (Or.inl ⟨by rfl, ?_⟩) hHeld ?_
  rotate_left
  · rintro w' ⟨k1, k2⟩; go_simp; rfl
  try simp only [Act.put, List.setIfInBounds_toArray, List.set_cons_zero, List.set_cons_succ]
  refine wpAnyH_done (by kernel_rfl) ?_ _
  go_wp2
  go_ret
  exact ⟨rfl, HGW.out⟩
end Go.Proofs.YtjgjeedablgmeaaDoor
