import Derived.Test.YtcicoeneemnbiaaGreatDoorChecked
import Derived.RowKit
import Derived.Below
import Derived.WalkKit
import Derived.WalkSpells
import Derived.WalkLawsBesides
import Derived.Deep.AppendLies
import Derived.Deep.LoopGhost
import Derived.Deep.RegionWith
import Derived.Deep.QuietTactic
import Derived.BigQuiet
import Derived.Laws.BitsAllLaws
import Derived.Laws.CopyOwn
import Derived.Laws.IdiomCopy
import Derived.Deep.RegionHeld3
import Derived.Deep.RegionLaw
import Derived.Deep.DrawnRows
import Derived.Deep.MidRow
import Derived.Maps.AppendAt
import Derived.Deep.RegionHeld
import Derived.OrdersHeld
namespace Go.Proofs.YtcicoeneemnbiaaGreatDoor
open Go.RowKit
set_option linter.unusedVariables false
theorem hid {p : Prop} (h : p) : Hid p := h
theorem ret_int {k : IntKind} {a b : Int} (h : a = b) : Ending.returned (.int k a) = .returned (.int k b) := by rw [h]
theorem info_parts {o : Option TypeInfo} {z : Value} {a b : Nat} (h : o.map (fun i => (i.zero, i.size, i.bytes)) = some (some z, a, b)) : ∃ i, o = some i ∧ i.zero = some z ∧ i.size = a ∧ i.bytes = b := by
  cases o with
  | none => simp at h
  | some i => simp at h; exact ⟨i, rfl, h.1, h.2.1, h.2.2⟩
theorem Tryz.info5 : (Tryz.prog.info? 5).map (fun i => (i.zero, i.size, i.bytes)) = some (some (.int .u8 0), 1, 1) := by kernel_rfl
theorem Tryz.size5 : (Tryz.prog.info? 5).map (·.size) = some 1 := by kernel_rfl
theorem Tryz.size74 : (Tryz.prog.info? 74).map (·.size) = some 1 := by kernel_rfl
theorem Tryz.size29 : (Tryz.prog.info? 29).map (·.size) = some 20 := by kernel_rfl
theorem Tryz.size30 : (Tryz.prog.info? 30).map (·.size) = some 20 := by kernel_rfl
theorem Tryz.size75 : (Tryz.prog.info? 75).map (·.size) = some 5 := by kernel_rfl
theorem Tryz.size105 : (Tryz.prog.info? 105).map (·.size) = some 5 := by kernel_rfl
theorem Tryz.size106 : (Tryz.prog.info? 106).map (·.size) = some 64 := by kernel_rfl
theorem Tryz.size108 : (Tryz.prog.info? 108).map (·.size) = some 70 := by kernel_rfl
theorem Tryz.size111 : (Tryz.prog.info? 111).map (·.size) = some 80 := by kernel_rfl
theorem Tryz.size138 : (Tryz.prog.info? 138).map (·.size) = some 2 := by kernel_rfl
theorem Tryz.size139 : (Tryz.prog.info? 139).map (·.size) = some 8 := by kernel_rfl
def row (k : IntKind) (zs : List Int) : List Value := zs.map (Value.int k)
theorem row_len (k : IntKind) (zs : List Int) : (row k zs).length = zs.length := by simp [row]
theorem row_at (k : IntKind) (zs : List Int) (i : Nat) (h : i < zs.length) : (row k zs)[i]? = some (.int k (zs.getD i 0)) := by simp [row, h]
theorem row_one (k : IntKind) (zs : List Int) : ∀ v ∈ row k zs, v.oneCell' = true := by
  intro v hv; simp only [row, List.mem_map] at hv; obtain ⟨c, _, rfl⟩ := hv; rfl
theorem row_set (k : IntKind) (zs : List Int) (n : Nat) (c : Int) : (row k zs).toArray.setIfInBounds n (.int k c) = (row k (zs.set n c)).toArray := by
  simp [row, List.map_set]
theorem row_size (k : IntKind) (zs : List Int) : (row k zs).toArray.size = zs.length := by rw [List.size_toArray, row_len]
theorem row_cell {w : World} {g : Nat} {k : IntKind} {zs : List Int} {t : TypeId} {fr : Nat × Nat} (h : w.heap[g]? = some (.cells (row k zs).toArray t fr)) (i : Nat) (hi : i < zs.length) : w.cell? ⟨g, i, none⟩ = some (.int k (zs.getD i 0)) := by
  rw [cell_of_row w g i _ t fr h]; simpa using row_at k zs i hi
theorem range_row {w : World} {g : Nat} {cs : List Value} {t : TypeId} {fr : Nat × Nat} (h : w.heap[g]? = some (.cells cs.toArray t fr)) : w.rangeAt g 0 cs := fun j v hv => by
  rw [Nat.zero_add, cell_of_row w g j _ t fr h]; simpa using hv
theorem there_row {w : World} {g n : Nat} {k : IntKind} {zs : List Int} {t : TypeId} (h : w.heap[g]? = some (.cells (row k zs).toArray t (0, 0))) (hn : zs.length = n) : w.there g 0 n := fun j hj => by
  rw [Nat.zero_add]
  exact ⟨by rw [row_cell h j (by omega)]; rfl, frozen_of_row w g j _ t h⟩
theorem index_row {P : Program} (t e : TypeId) (n : Nat) (cs : Array Value) (k : IntKind) (i : Nat) (v : Value) (w : World) (h : P.underlying t = some (.array n e)) (he : (P.info? e).map (·.size) = some 1) (d : TypeDesc) (hu : P.underlying e = some d) (hd : d.isRow = false) (hi : i < n) (hv : cs[i]? = some v) :
    (Instr.index t (.agg cs) (.int k i)).run P w = .ok v w := by
  cases hq : P.info? e with
  | none => simp [hq] at he
  | some inf =>
    have hs : inf.size = 1 := by simpa [hq] using he
    have hagg : (isAgg e).run P w = .ok false w := by
      unfold isAgg
      rw [Sem.run_bind, run_underlying hu w]
      cases d <;> simp_all
    simp [Instr.index, asIntOf, run_underlying h, hi, part, sizeOf, typeInfo, hq, hs, hagg, hv]
theorem results_mid {P : Program} {fn : Func} {p : Tmp} {ty : TypeId} (h : fn.results = #[.cell p ty]) (tmps : Array Value) (w : World) (g : Nat) (cs : List Value) (d : TypeDesc)
    (hp : tmps.getD p undef = .pointer (some ⟨g, 0, none⟩)) (hc : w.rangeAt g 0 cs) (hu : P.underlying ty = some d) (hd : d.isRow = true) (hi : (P.info? ty).map (·.size) = some cs.length) :
    (results fn tmps).run P w = .ok (.agg cs.toArray) w := by
  have hp' : tmps[p]?.getD undef = .pointer (some ⟨g, 0, none⟩) := by simpa using hp
  simp [results, h, hp', asAddr, run_loadVar_mid w g 0 ty cs d hc hu hd hi]
theorem below_setCells {B g : Nat} (hB : B ≤ g) : ∀ (vs : List Value) (o : Nat) (w0 w : World), Below B w0 w → Below B w0 (w.setCells g o vs)
  | [], _, _, _, h => h
  | v :: r, o, w0, _, h => below_setCells hB r (o + 1) w0 _ (h.setCell (p := ⟨g, o, none⟩) hB v)
theorem size_setCells (g : Nat) : ∀ (vs : List Value) (o : Nat) (w : World), (w.setCells g o vs).heap.size = w.heap.size
  | [], _, _ => rfl
  | _ :: r, o, _ => (size_setCells g r (o + 1) _).trans (by simp [World.setCell])
theorem own_lt {w : World} {B : Nat} {e : TypeId} {s : Nat} {v : Value} {n : Nat} {xs : List Value} (h : w.ownsRow B e s v n xs) (k : Nat) (hk : v.ownBlock = some k) : B ≤ k ∧ k < w.heap.size := h.lt k hk
theorem below_step {B : Nat} {w0 w wx w3 : World} {r : Option Nat} (h : Below B w0 w) (hB : B ≤ w0.heap.size) (hx : w.grownBy wx none) (hg : wx.grownBy w3 r) (hr : ∀ k, r = some k → B ≤ k) : Below B w0 w3 :=
  (h.grown hx (Nat.le_trans hB h.size) (fun k h => by cases h)).grown hg (Nat.le_trans (Nat.le_trans hB h.size) hx.size) hr
def IsB (l : List Int) : Prop := ∀ x ∈ l, 0 ≤ x ∧ x < 256
theorem IsB.at {l : List Int} (h : IsB l) (i : Nat) : 0 ≤ l.getD i 0 ∧ l.getD i 0 < 256 := by
  by_cases hi : i < l.length
  · exact h _ (by rw [List.getD_eq_getElem?_getD, List.getElem?_eq_getElem hi]; exact List.getElem_mem _)
  · rw [List.getD_eq_getElem?_getD, List.getElem?_eq_none (by omega)]; simp
def IsW (l : List Int) : Prop := ∀ x ∈ l, 0 ≤ x ∧ x < 4294967296
theorem IsW.at {l : List Int} (h : IsW l) (i : Nat) : 0 ≤ l.getD i 0 ∧ l.getD i 0 < 4294967296 := by
  by_cases hi : i < l.length
  · exact h _ (by rw [List.getD_eq_getElem?_getD, List.getElem?_eq_getElem hi]; exact List.getElem_mem _)
  · rw [List.getD_eq_getElem?_getD, List.getElem?_eq_none (by omega)]; simp
theorem IsW.set {l : List Int} (h : IsW l) (i : Nat) (v : Int) (hv : 0 ≤ v ∧ v < 4294967296) : IsW (l.set i v) := by
  intro x hx
  rcases List.mem_or_eq_of_mem_set hx with h' | h'
  · exact h x h'
  · rw [h']; exact hv
theorem bits_bd (o : BinOp) (a b : Int) (ho : o = .and ∨ o = .or ∨ o = .xor) : 0 ≤ bits o .u32 a b ∧ bits o .u32 a b < 4294967296 := by
  rcases ho with rfl | rfl | rfl
  all_goals
    show 0 ≤ IntKind.u32.wrap _ ∧ IntKind.u32.wrap _ < _
    rw [IntKind.wrap_u32']
    omega
end Go.Proofs.YtcicoeneemnbiaaGreatDoor
namespace Go.Proofs.YtcicoeneemnbiaaGreatDoor
open Go.RowKit
set_option linter.unusedVariables false
set_option linter.unusedSimpArgs false
theorem step_callv {P : Program} {ops : Array Oper} {o : Oper} {a : Act} {w : World} {K : Act → World → Prop} {Q : Exit → Act → World → Prop} {E : Prop} (hg : o.guard = none) (f : FuncId) (args : List Operand) (ts : Array TypeId) (vs : List Value) (R : Ending → World → Prop)
    (ho : o.op = .call { callee := .value (.func f), args := args.toArray, argTypes := ts }) (hx : args.map a.eval = vs) (hent : ∀ w : World, (callFunc f vs.toArray).run P w = .ok (.enter f vs.toArray) w)
    (hc : Calls P f vs.toArray w R) (h : ∀ e w', R e w' → ∃ r, e = .returned r ∧ K (a.put o.dst r) w') :
    if Region.wanted o (yielded ops a.tmps) = true then Oper.wp P o a w K Q else E := by
  have hw : Region.wanted o (yielded ops a.tmps) = true := by simp [Region.wanted, hg]
  rw [if_pos hw]
  unfold Oper.wp
  simp only [execOp, ho, resolve, invoke, go_sem, List.map_toArray, hx, hent]
  simp [go_sem, hent, Oper.upon_enter]
  refine hc.mono ?_
  intro e w' hr
  obtain ⟨r, rfl, hk⟩ := h e w' hr
  exact hk
theorem step_exec {P : Program} {ops : Array Oper} {o : Oper} {a : Act} {w w' : World} {K : Act → World → Prop} {Q : Exit → Act → World → Prop} {E : Prop} (hg : o.guard = none) (v : Value) (hr : (execOp a.eval o).run P w = .ok (.value v) w') (h : K (a.put o.dst v) w') :
    if Region.wanted o (yielded ops a.tmps) = true then Oper.wp P o a w K Q else E := by
  have hw : Region.wanted o (yielded ops a.tmps) = true := by simp [Region.wanted, hg]
  rw [if_pos hw]
  unfold Oper.wp
  rw [hr]
  exact h
theorem takeL {P : Program} {md : Region.Mode} {Q : Exit → Act → World → Prop} {S : World → Prop} {l : List Oper} {i : Nat} {oi : Oper} {v : Value} {fuel : Nat} {listed : Array Bool} {a : Act} {w : World} (hi : l[i]? = some oi)
    (hs : Region.noSelect l.toArray = true) (hf : Region.free md l.toArray listed i = true) (hr : (Region.ready md l.toArray listed).contains i = true)
    (hQ : ∀ c a w, Q (.panic c) (a.put oi.dst v) w → Q (.panic c) a w) (hy : YieldsIf P l.toArray S oi v a) (hS : S w)
    (h : wpAnyH P md l.toArray Q S fuel (listed.setIfInBounds i true) (a.put oi.dst v) w) : wpAnyH P md l.toArray Q S (fuel + 1) listed a w :=
  wpAnyH_take (by rw [List.getElem?_toArray]; exact hi) hs hf hr hQ hy hS h
theorem consL {P : Program} {md : Region.Mode} {Q : Exit → Act → World → Prop} {S : World → Prop} {l : List Oper} {fuel : Nat} {listed : Array Bool} {a : Act} {w : World} {i : Nat} {o : Oper} {rs : List Nat} (ho : l[i]? = some o)
    (h : ∀ K' : Act → World → Prop, Shut (∀ a w, S w → (S w → wpAnyH P md l.toArray Q S fuel (listed.setIfInBounds i true) a w) → K' a w) → if Region.wanted o (yielded l.toArray a.tmps) = true then Oper.wp P o a w K' Q else K' (a.put o.dst undef) w)
    (hs : AllReadyH P md l.toArray Q S fuel listed a w rs) : AllReadyH P md l.toArray Q S fuel listed a w (i :: rs) := AllReadyH.cons (by rw [List.getElem?_toArray]; exact ho) h hs
end Go.Proofs.YtcicoeneemnbiaaGreatDoor
namespace Go.Proofs.YtcicoeneemnbiaaGreatDoor
open Go.RowKit
set_option linter.unusedVariables false
set_option linter.unusedSimpArgs false
def turn1 (x : Int) : Int := bits .or .u32 (x * 2 % 4294967296) (x / 2147483648)
def turn5 (x : Int) : Int := bits .or .u32 (x * 32 % 4294967296) (x / 134217728)
def turn30 (x : Int) : Int := bits .or .u32 (x * 1073741824 % 4294967296) (x / 4)
def ch (b c d : Int) : Int := bits .or .u32 (bits .and .u32 b c) (bits .and .u32 (bits .xor .u32 4294967295 b) d)
def par (b c d : Int) : Int := bits .xor .u32 (bits .xor .u32 b c) d
def maj (b c d : Int) : Int := bits .or .u32 (bits .or .u32 (bits .and .u32 b c) (bits .and .u32 b d)) (bits .and .u32 c d)
def U (x : Int) : Prop := 0 ≤ x ∧ x < 4294967296
theorem turn1_bd (x : Int) : U (turn1 x) := bits_bd _ _ _ (by simp)
theorem turn5_bd (x : Int) : U (turn5 x) := bits_bd _ _ _ (by simp)
theorem turn30_bd (x : Int) : U (turn30 x) := bits_bd _ _ _ (by simp)
theorem ch_bd (a b c : Int) : U (ch a b c) := bits_bd _ _ _ (by simp)
theorem par_bd (a b c : Int) : U (par a b c) := bits_bd _ _ _ (by simp)
theorem maj_bd (a b c : Int) : U (maj a b c) := bits_bd _ _ _ (by simp)
theorem and31_1 : bits .and .u64 1 31 = 1 := by decide +kernel
theorem and31_5 : bits .and .u64 5 31 = 5 := by decide +kernel
theorem and31_30 : bits .and .u64 30 31 = 30 := by decide +kernel
theorem rot1 (x : Int) (w : World) (hx : U x) : Calls Tryz.prog 71 #[.int .u32 x, .int .i64 1] w fun e w' => e = .returned (.int .u32 (turn1 x)) ∧ w = w' := by
  obtain ⟨hx0, hx1⟩ := hx
  have h1 := and31_1
  go_enter Tryz.func71, Tryz.ntmps71
  go_wp2
  go_ret
  exact ⟨rfl, rfl⟩
theorem rot5 (x : Int) (w : World) (hx : U x) : Calls Tryz.prog 71 #[.int .u32 x, .int .i64 5] w fun e w' => e = .returned (.int .u32 (turn5 x)) ∧ w = w' := by
  obtain ⟨hx0, hx1⟩ := hx
  have h1 := and31_5
  go_enter Tryz.func71, Tryz.ntmps71
  go_wp2
  go_ret
  exact ⟨rfl, rfl⟩
theorem rot30 (x : Int) (w : World) (hx : U x) : Calls Tryz.prog 71 #[.int .u32 x, .int .i64 30] w fun e w' => e = .returned (.int .u32 (turn30 x)) ∧ w = w' := by
  obtain ⟨hx0, hx1⟩ := hx
  have h1 := and31_30
  go_enter Tryz.func71, Tryz.ntmps71
  go_wp2
  go_ret
  exact ⟨rfl, rfl⟩
theorem tn1 (x : Int) (w : World) (hx : U x) : Calls Tryz.prog 57 #[.int .u32 x, .int .i64 1] w fun e w' => e = .returned (.int .u32 (turn1 x)) ∧ ∃ n, w' = w.drewN n := by
  obtain ⟨hx0, hx1⟩ := hx
  go_enter Tryz.func57, Tryz.ntmps57
  go_wp2
  go_quiet (fail)
  go_wp2
  go_ret
  exact ⟨rfl, _, rfl⟩
theorem tn5 (x : Int) (w : World) (hx : U x) : Calls Tryz.prog 57 #[.int .u32 x, .int .i64 5] w fun e w' => e = .returned (.int .u32 (turn5 x)) ∧ ∃ n, w' = w.drewN n := by
  obtain ⟨hx0, hx1⟩ := hx
  go_enter Tryz.func57, Tryz.ntmps57
  go_wp2
  go_quiet (fail)
  go_wp2
  go_ret
  exact ⟨rfl, _, rfl⟩
theorem tn30 (x : Int) (w : World) (hx : U x) : Calls Tryz.prog 57 #[.int .u32 x, .int .i64 30] w fun e w' => e = .returned (.int .u32 (turn30 x)) ∧ ∃ n, w' = w.drewN n := by
  obtain ⟨hx0, hx1⟩ := hx
  go_enter Tryz.func57, Tryz.ntmps57
  go_wp2
  go_quiet (fail)
  go_wp2
  go_ret
  exact ⟨rfl, _, rfl⟩
theorem choice_any (b c d : Int) (w : World) (hb : U b) (hc : U c) (hd : U d) : Calls Tryz.prog 85 #[.int .u32 b, .int .u32 c, .int .u32 d] w fun e w' => e = .returned (.int .u32 (ch b c d)) ∧ w = w' := by
  obtain ⟨hb0, hb1⟩ := hb
  obtain ⟨hc0, hc1⟩ := hc
  obtain ⟨hd0, hd1⟩ := hd
  have hsg : IntKind.u32.signed = false := rfl
  have hmx : IntKind.u32.max = 4294967295 := rfl
  go_enter Tryz.func85, Tryz.ntmps85
  go_wp2
  go_ret
  exact ⟨rfl, rfl⟩
theorem parity_any (b c d : Int) (w : World) (hb : U b) (hc : U c) (hd : U d) : Calls Tryz.prog 86 #[.int .u32 b, .int .u32 c, .int .u32 d] w fun e w' => e = .returned (.int .u32 (par b c d)) ∧ w = w' := by
  obtain ⟨hb0, hb1⟩ := hb
  obtain ⟨hc0, hc1⟩ := hc
  obtain ⟨hd0, hd1⟩ := hd
  go_enter Tryz.func86, Tryz.ntmps86
  go_wp2
  go_ret
  exact ⟨rfl, rfl⟩
theorem majority_any (b c d : Int) (w : World) (hb : U b) (hc : U c) (hd : U d) : Calls Tryz.prog 87 #[.int .u32 b, .int .u32 c, .int .u32 d] w fun e w' => e = .returned (.int .u32 (maj b c d)) ∧ w = w' := by
  obtain ⟨hb0, hb1⟩ := hb
  obtain ⟨hc0, hc1⟩ := hc
  obtain ⟨hd0, hd1⟩ := hd
  go_enter Tryz.func87, Tryz.ntmps87
  go_wp2
  go_ret
  exact ⟨rfl, rfl⟩
theorem or_add (n : Nat) (h l : Int) (h0 : 0 ≤ h) (l0 : 0 ≤ l) (hl : l < 2 ^ n) (hs : h * 2 ^ n + l < 4294967296) : bits .or .u32 (h * 2 ^ n) l = h * 2 ^ n + l := by
  obtain ⟨a, rfl⟩ := Int.eq_ofNat_of_zero_le h0
  obtain ⟨b, rfl⟩ := Int.eq_ofNat_of_zero_le l0
  obtain ⟨q, hq⟩ : ∃ q, q = 2 ^ n := ⟨_, rfl⟩
  have hb : b < 2 ^ n := by exact_mod_cast hl
  have e : 2 ^ n * a + b = 2 ^ n * a ||| b := Nat.two_pow_add_eq_or_of_lt hb a
  have hp : ((a : Int) * 2 ^ n) = ((2 ^ n * a : Nat) : Int) := by push_cast; rw [Int.mul_comm]
  rw [hp] at hs ⊢
  rw [u32_or_nat _ _ (by omega) (by omega), ← e]
  push_cast; rfl
def num4 (a b c d : Int) : Int := a * 16777216 + b * 65536 + c * 256 + d
theorem num4_or (a b c d : Int) (ha : 0 ≤ a ∧ a < 256) (hb : 0 ≤ b ∧ b < 256) (hc : 0 ≤ c ∧ c < 256) (hd : 0 ≤ d ∧ d < 256) : bits .or .u32 (bits .or .u32 (bits .or .u32 (a * 16777216) (b * 65536)) (c * 256)) d = num4 a b c d := by
  have h1 := or_add 24 a (b * 65536) (by omega) (by omega) (by omega) (by omega)
  have h2 := or_add 16 (a * 256 + b) (c * 256) (by omega) (by omega) (by omega) (by omega)
  have h3 := or_add 8 (a * 65536 + b * 256 + c) d (by omega) (by omega) (by omega) (by omega)
  rw [show (2 : Int) ^ 24 = 16777216 from by decide] at h1
  rw [show (2 : Int) ^ 16 = 65536 from by decide] at h2
  rw [show (2 : Int) ^ 8 = 256 from by decide] at h3
  rw [h1, show a * 16777216 + b * 65536 = (a * 256 + b) * 65536 from by omega, h2, show (a * 256 + b) * 65536 + c * 256 = (a * 65536 + b * 256 + c) * 256 from by omega, h3]
  unfold num4; omega
theorem or8 (v x : Int) (hv : 0 ≤ v ∧ v < 16777216) (hx : 0 ≤ x ∧ x < 256) : bits .or .u32 (v * 256 % 4294967296) x = v * 256 + x := by
  rw [show v * 256 % 4294967296 = v * 2 ^ 8 from by omega, or_add 8 v x hv.1 hx.1 (by omega) (by omega)]; rfl
def At (w : World) (b off : Nat) (zs : List Int) : Prop := ∀ i, i < zs.length → w.cell? ⟨b, off + i, none⟩ = some (.int .u8 (zs.getD i 0))
theorem number_any (b off cap i : Nat) (zs : List Int) (w : World) (hl : zs.length = 64) (hz : IsB zs) (hi : i < 16) (hat : At w b off zs) :
    Calls Tryz.prog 56 #[.slice (some ⟨b, off, none⟩) 64 cap, .int .i64 (4 * i)] w fun e w' => e = .returned (.int .u32 (num4 (zs.getD (4 * i) 0) (zs.getD (4 * i + 1) 0) (zs.getD (4 * i + 2) 0) (zs.getD (4 * i + 3) 0))) ∧ ∃ n, w' = w.drewN n := by
  obtain ⟨x0, H0⟩ : ∃ x, Hid (x = zs.getD (4 * i) 0) := ⟨_, rfl⟩
  obtain ⟨x1, H1⟩ : ∃ x, Hid (x = zs.getD (4 * i + 1) 0) := ⟨_, rfl⟩
  obtain ⟨x2, H2⟩ : ∃ x, Hid (x = zs.getD (4 * i + 2) 0) := ⟨_, rfl⟩
  obtain ⟨x3, H3⟩ : ∃ x, Hid (x = zs.getD (4 * i + 3) 0) := ⟨_, rfl⟩
  have c0 : w.cell? ⟨b, off + 4 * i, none⟩ = some (.int .u8 x0) := by rw [H0.out]; exact hat _ (by omega)
  have c1 : w.cell? ⟨b, off + (4 * i + 1), none⟩ = some (.int .u8 x1) := by rw [H1.out]; exact hat _ (by omega)
  have c2 : w.cell? ⟨b, off + (4 * i + 2), none⟩ = some (.int .u8 x2) := by rw [H2.out]; exact hat _ (by omega)
  have c3 : w.cell? ⟨b, off + (4 * i + 3), none⟩ = some (.int .u8 x3) := by rw [H3.out]; exact hat _ (by omega)
  have b0 : 0 ≤ x0 ∧ x0 < 256 := by rw [H0.out]; exact hz.at _
  have b1 : 0 ≤ x1 ∧ x1 < 256 := by rw [H1.out]; exact hz.at _
  have b2 : 0 ≤ x2 ∧ x2 < 256 := by rw [H2.out]; exact hz.at _
  have b3 : 0 ≤ x3 ∧ x3 < 256 := by rw [H3.out]; exact hz.at _
  rw [← H0.out, ← H1.out, ← H2.out, ← H3.out]
  obtain ⟨j, HJ⟩ : ∃ j, Hid (j = 4 * i) := ⟨_, rfl⟩
  rw [show (4 * (i : Int)) = (j : Int) from by have := HJ.out; omega]
  rw [← HJ.out] at c0 c1 c2 c3
  have hj : j ≤ 60 := by have := HJ.out; omega
  go_enter Tryz.func56, Tryz.ntmps56
  go_wp2
  go_quiet (fail)
  go_wp2
  go_ret
  rw [← num4_or x0 x1 x2 x3 b0 b1 b2 b3]
  exact ⟨rfl, _, rfl⟩
end Go.Proofs.YtcicoeneemnbiaaGreatDoor
namespace Go.Proofs.YtcicoeneemnbiaaGreatDoor
open Go.RowKit
set_option linter.unusedVariables false
def val (zs : List Int) (j : Nat) : Nat → Int
  | 0 => 0
  | m + 1 => val zs j m * 256 + zs.getD (4 * j + m) 0
theorem val_bd (zs : List Int) (hz : IsB zs) (j : Nat) : ∀ m, 0 ≤ val zs j m ∧ val zs j m < 256 ^ m
  | 0 => by simp [val]
  | m + 1 => by
    have h := val_bd zs hz j m
    have hb := hz.at (4 * j + m)
    simp only [val, Int.pow_succ]
    generalize (256 : Int) ^ m = q at h ⊢
    omega
theorem val4 (zs : List Int) (j : Nat) : val zs j 4 = num4 (zs.getD (4 * j) 0) (zs.getD (4 * j + 1) 0) (zs.getD (4 * j + 2) 0) (zs.getD (4 * j + 3) 0) := by
  simp only [val, num4, Nat.add_zero]; omega
def wAt (zs : List Int) (k : Nat) : List Int := (List.range 80).map fun j => val zs j (min (k - 4 * j) 4)
theorem wAt_len (zs : List Int) (k : Nat) : (wAt zs k).length = 80 := by simp [wAt]
theorem wAt_get (zs : List Int) (k j : Nat) (h : j < 80) : (wAt zs k).getD j 0 = val zs j (min (k - 4 * j) 4) := by simp [wAt, h]
theorem wAt_zero (zs : List Int) : wAt zs 0 = List.replicate 80 0 := by
  apply List.ext_getElem (by rw [wAt_len, List.length_replicate])
  intro j h1 h2
  rw [List.getElem_replicate]
  simp only [wAt, List.getElem_map, List.getElem_range]
  rw [show min (0 - 4 * j) 4 = 0 from by omega]; rfl
theorem wAt_step (zs : List Int) (k : Nat) (h : k < 64) : wAt zs (k + 1) = (wAt zs k).set (k / 4) ((wAt zs k).getD (k / 4) 0 * 256 + zs.getD k 0) := by
  rw [wAt_get zs k (k / 4) (by omega)]
  apply List.ext_getElem (by simp [wAt])
  intro j h1 h2
  have hj : j < 80 := by rw [wAt_len] at h1; exact h1
  rw [List.getElem_set]
  by_cases e : k / 4 = j
  · rw [if_pos e]
    subst e
    simp only [wAt, List.getElem_map, List.getElem_range]
    rw [show min (k + 1 - 4 * (k / 4)) 4 = min (k - 4 * (k / 4)) 4 + 1 from by omega, val, show 4 * (k / 4) + min (k - 4 * (k / 4)) 4 = k from by omega]
  · rw [if_neg e]
    simp only [wAt, List.getElem_map, List.getElem_range]
    rw [show min (k + 1 - 4 * j) 4 = min (k - 4 * j) 4 from by omega]
theorem wAt_small (zs : List Int) (hz : IsB zs) (k : Nat) (h : k < 64) : 0 ≤ (wAt zs k).getD (k / 4) 0 ∧ (wAt zs k).getD (k / 4) 0 < 16777216 := by
  rw [wAt_get zs k _ (by omega)]
  have hb := val_bd zs hz (k / 4) (min (k - 4 * (k / 4)) 4)
  have h3 : min (k - 4 * (k / 4)) 4 ≤ 3 := by omega
  refine ⟨hb.1, Int.lt_of_lt_of_le hb.2 ?_⟩
  generalize min (k - 4 * (k / 4)) 4 = m at h3
  match m, h3 with
  | 0, _ => decide
  | 1, _ => decide
  | 2, _ => decide
  | 3, _ => decide
theorem wAt_isW (zs : List Int) (hz : IsB zs) (k : Nat) : IsW (wAt zs k) := by
  intro x hx
  simp only [wAt, List.mem_map, List.mem_range] at hx
  obtain ⟨j, -, rfl⟩ := hx
  have hb := val_bd zs hz j (min (k - 4 * j) 4)
  have h3 : min (k - 4 * j) 4 ≤ 4 := by omega
  refine ⟨hb.1, Int.lt_of_lt_of_le hb.2 ?_⟩
  generalize min (k - 4 * j) 4 = m at h3
  match m, h3 with
  | 0, _ => decide
  | 1, _ => decide
  | 2, _ => decide
  | 3, _ => decide
  | 4, _ => decide
def rAt (zs : List Int) (i : Nat) : List Int := (List.range 80).map fun j => if j < i then val zs j 4 else 0
theorem rAt_len (zs : List Int) (k : Nat) : (rAt zs k).length = 80 := by simp [rAt]
theorem rAt_zero (zs : List Int) : rAt zs 0 = List.replicate 80 0 := by
  apply List.ext_getElem (by rw [rAt_len, List.length_replicate])
  intro j h1 h2
  rw [List.getElem_replicate]
  simp only [rAt, List.getElem_map, List.getElem_range]
  rw [if_neg (by omega)]
theorem rAt_step (zs : List Int) (i : Nat) (h : i < 16) : rAt zs (i + 1) = (rAt zs i).set i (val zs i 4) := by
  apply List.ext_getElem (by simp [rAt])
  intro j h1 h2
  rw [List.getElem_set]
  simp only [rAt, List.getElem_map, List.getElem_range]
  by_cases e : i = j
  · subst e; rw [if_pos rfl, if_pos (by omega)]
  · rw [if_neg e]
    by_cases h : j < i
    · rw [if_pos (by omega), if_pos h]
    · rw [if_neg (by omega), if_neg h]
theorem rAt_16 (zs : List Int) : rAt zs 16 = wAt zs 64 := by
  apply List.ext_getElem (by simp [rAt, wAt])
  intro j h1 h2
  simp only [rAt, wAt, List.getElem_map, List.getElem_range]
  by_cases h : j < 16
  · rw [if_pos h, show min (64 - 4 * j) 4 = 4 from by omega]
  · rw [if_neg h, show min (64 - 4 * j) 4 = 0 from by omega]; rfl
def nx (v : List Int) (i : Nat) : Int := bits .xor .u32 (bits .xor .u32 (bits .xor .u32 (v.getD (i - 3) 0) (v.getD (i - 8) 0)) (v.getD (i - 14) 0)) (v.getD (i - 16) 0)
def spAt (ws : List Int) : Nat → List Int
  | 0 => ws
  | j + 1 => (spAt ws j).set (16 + j) (turn1 (nx (spAt ws j) (16 + j)))
theorem spAt_len (ws : List Int) : ∀ j, (spAt ws j).length = ws.length
  | 0 => rfl
  | j + 1 => by rw [spAt, List.length_set, spAt_len ws j]
theorem spAt_isW (ws : List Int) (h : IsW ws) : ∀ j, IsW (spAt ws j)
  | 0 => h
  | j + 1 => (spAt_isW ws h j).set _ _ (turn1_bd _)
theorem nx_bd (v : List Int) (i : Nat) : U (nx v i) := bits_bd _ _ _ (by simp)
def spread (zs : List Int) : List Int := spAt (wAt zs 64) 64
theorem spread_len (zs : List Int) : (spread zs).length = 80 := by rw [spread, spAt_len, wAt_len]
theorem spread_isW (zs : List Int) (hz : IsB zs) : IsW (spread zs) := spAt_isW _ (wAt_isW zs hz 64) _
end Go.Proofs.YtcicoeneemnbiaaGreatDoor
namespace Go.Proofs.YtcicoeneemnbiaaGreatDoor
open Go.RowKit
set_option linter.unusedVariables false
theorem wrap_i64 (n : Nat) (h : n < 9223372036854775808) : IntKind.i64.wrap (n : Int) = n := by
  rw [IntKind.wrap_i64]; omega
theorem heap_drew (w : World) : w.drew.heap = w.heap := rfl
def z80 : List Int := List.replicate 80 0
theorem zero47 (w : World) : (zeroValue 111).run Tryz.prog w = .ok (.agg (row .u32 z80).toArray) w := by kernel_rfl
theorem heap_alloc3 (w : World) (a b c : Obj) : ((((w.alloc a).alloc b).alloc c).heap[w.heap.size]? = some a ∧ (((w.alloc a).alloc b).alloc c).heap[w.heap.size + 1]? = some b) ∧ (((w.alloc a).alloc b).alloc c).heap[w.heap.size + 1 + 1]? = some c := by
  refine ⟨⟨?_, ?_⟩, ?_⟩
  · rw [Below.heap_alloc _ _ _ (by simp; omega)]; exact heap_alloc2_old w a b
  · rw [Below.heap_alloc _ _ _ (by simp)]; exact heap_alloc2_new w a b
  · have := heap_alloc_new ((w.alloc a).alloc b) c
    simpa using this
set_option maxRecDepth 20000 in
set_option maxHeartbeats 1000000 in
theorem spread_any (zs : List Int) (w : World) (hl : zs.length = 64) (hz : IsB zs) :
    Calls Tryz.prog 69 #[.agg (row .u8 zs).toArray] w fun e w' => e = .returned (.agg (row .u32 (spread zs)).toArray) ∧ Below w.heap.size w w' := by
  have hi47 : ∀ l : List Int, l.length = 80 → (Tryz.prog.info? 111).map (·.size) = some (row .u32 l).length := fun l h => by rw [row_len, h]; exact Tryz.size111
  have hi41 : (Tryz.prog.info? 106).map (·.size) = some (row .u8 zs).length := by rw [row_len, hl]; exact Tryz.size106
  obtain ⟨arr, HA⟩ : ∃ arr, Hid (arr = row .u8 zs) := ⟨_, rfl⟩
  rw [← HA.out]
  have hasz : arr.toArray.size = 64 := by rw [HA.out, row_size]; exact hl
  rw [← HA.out] at hi41
  have HX : Hid (∀ i, i < 64 → arr.toArray[i]? = some (.int .u8 (zs.getD i 0))) := fun i hi => by rw [HA.out]; simpa using row_at .u8 zs i (by omega)
  obtain ⟨zr, HZ⟩ : ∃ zr : Array Value, Hid (zr = (row .u32 z80).toArray) := ⟨_, rfl⟩
  have hzv := zero47
  rw [← HZ.out] at hzv
  have H3 : Hid (_ ∧ _) := heap_alloc3 w (.cells arr.toArray 106) (.cells zr 111) (.cells zr 111)
  have HB0 : Hid (Below w.heap.size w (((w.alloc (.cells arr.toArray 106)).alloc (.cells zr 111)).alloc (.cells zr 111))) := (((Below.refl _ w).alloc (Nat.le_refl _) _).alloc (by simp) _).alloc (by simp; omega) _
  go_enter Tryz.func69, Tryz.ntmps69
  go_wp2_with (refine wpList_load_mid rfl 106 _ rfl w.heap.size 0 rfl arr _ (range_row H3.out.1.1) Tryz.underlying106 rfl hi41 ?_)
  go_loopg [8] 64 (fun k i wr => ∃ j : Nat, j ≤ 64 ∧ k = 64 - j ∧ i = .int .i64 j ∧ Hid (wr.heap[w.heap.size + 1 + 1]? = some (.cells (row .u32 (wAt zs j)).toArray 111 (0, 0))) ∧ Hid (wr.heap[w.heap.size + 1]? = some (.cells (row .u32 z80).toArray 111 (0, 0))) ∧ Hid (Below w.heap.size w wr))
  case atStart =>
    refine ⟨0, by omega, rfl, rfl, hid ?_, hid ?_, HB0⟩
    · rw [wAt_zero, H3.out.2, HZ.out]; rfl
    · rw [H3.out.1.2, HZ.out]
  case round =>
    obtain ⟨j, hj, hk, rfl, H1, H0, HB⟩ := hrel
    by_cases hlt : j < 64
    · have hix : ∀ w1 : World, (Instr.index 106 (.agg arr.toArray) (.int .i64 j)).run Tryz.prog w1 = .ok (.int .u8 (zs.getD j 0)) w1 := fun w1 => index_row 106 5 64 _ _ j _ w1 Tryz.underlying106 Tryz.size5 _ Tryz.underlying5 rfl hlt (HX.out j hlt)
      obtain ⟨x, HXX⟩ : ∃ x, Hid (x = zs.getD j 0) := ⟨_, rfl⟩
      rw [← HXX.out] at hix
      have hxb : 0 ≤ x ∧ x < 256 := by rw [HXX.out]; exact hz.at j
      obtain ⟨m, HM⟩ : ∃ m, Hid (m = j / 4) := ⟨_, rfl⟩
      have hm : j / 4 = m := HM.out.symm
      have hm2 : m < 80 := by omega
      obtain ⟨v, HV⟩ : ∃ v, Hid (v = (wAt zs j).getD (j / 4) 0) := ⟨_, rfl⟩
      have hv : 0 ≤ v ∧ v < 16777216 := by rw [HV.out]; exact wAt_small zs hz j hlt
      have hc : wr.cell? ⟨w.heap.size + 1 + 1, m, none⟩ = some (.int .u32 v) := by rw [HV.out, hm]; exact row_cell H1.out m (by rw [wAt_len]; exact hm2)
      have hfz := frozen_of_row wr (w.heap.size + 1 + 1) m _ 111 H1.out
      obtain ⟨y, HY⟩ : ∃ y, Hid (y = v * 256 + x) := ⟨_, rfl⟩
      have hor := or8 v x hv hxb
      rw [← HY.out] at hor
      have hor2 : bits .or .u32 (v * 256) x = y := by rw [← hor]; congr 1; omega
      go_wp2
      go_roundg (64 - (j + 1))
      case measure => omega
      case rel =>
        refine ⟨j + 1, by omega, rfl, by go_num, hid ?_, hid ?_, HB.out.setCell (by simp <;> omega) _⟩
        · rw [heap_setCell_same wr _ _ _ _ _ H1.out, wAt_step zs j hlt, ← HV.out, ← HXX.out, ← HY.out, hm, row_set, ← hor2]
        · rw [heap_setCell_other wr _ _ _ (by simp)]; exact H0.out
    · obtain rfl : j = 64 := by omega
      go_wp2
      go_loopg [6] 64 (fun k i wr => ∃ j : Nat, j ≤ 64 ∧ k = 64 - j ∧ i = .int .i64 (16 + j : Nat) ∧ Hid (wr.heap[w.heap.size + 1 + 1]? = some (.cells (row .u32 (spAt (wAt zs 64) j)).toArray 111 (0, 0))) ∧ Hid (wr.heap[w.heap.size + 1]? = some (.cells (row .u32 z80).toArray 111 (0, 0))) ∧ Hid (Below w.heap.size w wr))
      case atStart => exact ⟨0, by omega, rfl, rfl, H1, H0, HB⟩
      case round =>
        clear H1 H0 HB
        obtain ⟨j, hj, hk, rfl, H1, H0, HB⟩ := hrel
        obtain ⟨v, HV⟩ : ∃ v, Hid (v = spAt (wAt zs 64) j) := ⟨_, rfl⟩
        rw [← HV.out] at H1
        have hvl : v.length = 80 := by rw [HV.out, spAt_len, wAt_len]
        have hvw : IsW v := by rw [HV.out]; exact spAt_isW _ (wAt_isW zs hz 64) _
        obtain ⟨q, HQ⟩ : ∃ q, Hid (q = 16 + j) := ⟨_, rfl⟩
        rw [← HQ.out]
        have hq : 16 ≤ q ∧ q ≤ 80 := by have := HQ.out; omega
        by_cases hlt : q < 80
        · obtain ⟨x1, G1⟩ : ∃ x, Hid (x = v.getD (q - 3) 0) := ⟨_, rfl⟩
          obtain ⟨x2, G2⟩ : ∃ x, Hid (x = v.getD (q - 8) 0) := ⟨_, rfl⟩
          obtain ⟨x3, G3⟩ : ∃ x, Hid (x = v.getD (q - 14) 0) := ⟨_, rfl⟩
          obtain ⟨x4, G4⟩ : ∃ x, Hid (x = v.getD (q - 16) 0) := ⟨_, rfl⟩
          obtain ⟨q1, Q1⟩ : ∃ r, Hid (r = q - 3) := ⟨_, rfl⟩
          have e1 : IntKind.i64.wrap ((q : Int) - 3) = (q1 : Int) := by rw [show (q : Int) - 3 = (q1 : Int) from by have := Q1.out; omega]; exact wrap_i64 _ (by have := Q1.out; omega)
          have b1 : q1 < 80 := by have := Q1.out; omega
          have bi1 : (q1 : Int) < 80 := by omega
          have bz1 : (0 : Int) ≤ q1 := by omega
          have c1 : wr.cell? ⟨w.heap.size + 1 + 1, q1, none⟩ = some (.int .u32 x1) := by rw [G1.out, Q1.out]; exact row_cell H1.out _ (by omega)
          obtain ⟨q2, Q2⟩ : ∃ r, Hid (r = q - 8) := ⟨_, rfl⟩
          have e2 : IntKind.i64.wrap ((q : Int) - 8) = (q2 : Int) := by rw [show (q : Int) - 8 = (q2 : Int) from by have := Q2.out; omega]; exact wrap_i64 _ (by have := Q2.out; omega)
          have b2 : q2 < 80 := by have := Q2.out; omega
          have bi2 : (q2 : Int) < 80 := by omega
          have bz2 : (0 : Int) ≤ q2 := by omega
          have c2 : wr.cell? ⟨w.heap.size + 1 + 1, q2, none⟩ = some (.int .u32 x2) := by rw [G2.out, Q2.out]; exact row_cell H1.out _ (by omega)
          obtain ⟨q3, Q3⟩ : ∃ r, Hid (r = q - 14) := ⟨_, rfl⟩
          have e3 : IntKind.i64.wrap ((q : Int) - 14) = (q3 : Int) := by rw [show (q : Int) - 14 = (q3 : Int) from by have := Q3.out; omega]; exact wrap_i64 _ (by have := Q3.out; omega)
          have b3 : q3 < 80 := by have := Q3.out; omega
          have bi3 : (q3 : Int) < 80 := by omega
          have bz3 : (0 : Int) ≤ q3 := by omega
          have c3 : wr.cell? ⟨w.heap.size + 1 + 1, q3, none⟩ = some (.int .u32 x3) := by rw [G3.out, Q3.out]; exact row_cell H1.out _ (by omega)
          obtain ⟨q4, Q4⟩ : ∃ r, Hid (r = q - 16) := ⟨_, rfl⟩
          have e4 : IntKind.i64.wrap ((q : Int) - 16) = (q4 : Int) := by rw [show (q : Int) - 16 = (q4 : Int) from by have := Q4.out; omega]; exact wrap_i64 _ (by have := Q4.out; omega)
          have b4 : q4 < 80 := by have := Q4.out; omega
          have bi4 : (q4 : Int) < 80 := by omega
          have bz4 : (0 : Int) ≤ q4 := by omega
          have c4 : wr.cell? ⟨w.heap.size + 1 + 1, q4, none⟩ = some (.int .u32 x4) := by rw [G4.out, Q4.out]; exact row_cell H1.out _ (by omega)
          have c5 : wr.cell? ⟨w.heap.size + 1 + 1, q, none⟩ = some (.int .u32 (v.getD q 0)) := row_cell H1.out _ (by omega)
          have bi5 : (q : Int) < 80 := by omega
          have bz5 : (0 : Int) ≤ q := by omega
          have f5 := frozen_of_row wr (w.heap.size + 1 + 1) q _ 111 H1.out
          obtain ⟨n, HN⟩ : ∃ n, Hid (n = nx v q) := ⟨_, rfl⟩
          have hn : bits .xor .u32 (bits .xor .u32 (bits .xor .u32 x1 x2) x3) x4 = n := by rw [HN.out, G1.out, G2.out, G3.out, G4.out]; rfl
          have hnb : U n := by rw [HN.out]; exact nx_bd v q
          have k1 : ∀ (W : World) (u : Value), (W.setCell ⟨w.heap.size + 1 + 1, q, none⟩ u).cell? ⟨w.heap.size + 1 + 1, q1, none⟩ = W.cell? ⟨w.heap.size + 1 + 1, q1, none⟩ := fun W u => World.cell?_setCell_other _ _ _ _ (by intro h; simp only [Addr.mk.injEq] at h; have := Q1.out; omega)
          have k2 : ∀ (W : World) (u : Value), (W.setCell ⟨w.heap.size + 1 + 1, q, none⟩ u).cell? ⟨w.heap.size + 1 + 1, q2, none⟩ = W.cell? ⟨w.heap.size + 1 + 1, q2, none⟩ := fun W u => World.cell?_setCell_other _ _ _ _ (by intro h; simp only [Addr.mk.injEq] at h; have := Q2.out; omega)
          have k3 : ∀ (W : World) (u : Value), (W.setCell ⟨w.heap.size + 1 + 1, q, none⟩ u).cell? ⟨w.heap.size + 1 + 1, q3, none⟩ = W.cell? ⟨w.heap.size + 1 + 1, q3, none⟩ := fun W u => World.cell?_setCell_other _ _ _ _ (by intro h; simp only [Addr.mk.injEq] at h; have := Q3.out; omega)
          have k4 : ∀ (W : World) (u : Value), (W.setCell ⟨w.heap.size + 1 + 1, q, none⟩ u).cell? ⟨w.heap.size + 1 + 1, q4, none⟩ = W.cell? ⟨w.heap.size + 1 + 1, q4, none⟩ := fun W u => World.cell?_setCell_other _ _ _ _ (by intro h; simp only [Addr.mk.injEq] at h; have := Q4.out; omega)
          go_wp2
          go_region_held3 (fun w' => w'.cell? ⟨w.heap.size + 1 + 1, q1, none⟩ = some (.int .u32 x1) ∧ w'.cell? ⟨w.heap.size + 1 + 1, q2, none⟩ = some (.int .u32 x2) ∧ w'.cell? ⟨w.heap.size + 1 + 1, q3, none⟩ = some (.int .u32 x3) ∧ w'.cell? ⟨w.heap.size + 1 + 1, q4, none⟩ = some (.int .u32 x4)) (go_keep) ((go_at_call 71; refine (rot1 n _ hnb).mono ?_; rintro e w1 ⟨rfl, rfl⟩))
          go_wp2
          go_roundg (64 - (j + 1))
          case measure => have := HQ.out; omega
          case rel =>
            refine ⟨j + 1, by have := HQ.out; omega, rfl, by have := HQ.out; go_num, hid ?_, hid ?_, (HB.out.setCell (by simp <;> omega) _).drew⟩
            · rw [heap_drew, heap_setCell_same wr _ _ _ _ _ H1.out, spAt, ← HV.out, ← HQ.out, ← HN.out, row_set]
            · rw [heap_drew, heap_setCell_other wr _ _ _ (by simp)]; exact H0.out
        · obtain rfl : q = 80 := by omega
          have hj64 : j = 64 := by have := HQ.out; omega
          subst hj64
          have T1 : Hid (wr.there (w.heap.size + 1) 0 (row .u32 v).toArray.size) := hid (by rw [row_size, hvl]; exact there_row H0.out (by simp [z80]))
          have T2 : Hid ((Tryz.prog.info? 111).map (·.size) = some (row .u32 v).toArray.size) := hid (by rw [row_size, hvl]; exact Tryz.size111)
          have T3 : Hid ((row .u32 v).toArray.all (·.oneCell') = true) := all_oneCell_toArray (row_one _ _)
          have HVS : Hid (v = spread zs) := HV.out
          go_wp2_with (first | refine wpList_load_mid rfl 111 _ rfl (w.heap.size + 1 + 1) 0 rfl (row .u32 v) _ (range_row H1.out) Tryz.underlying111 rfl (hi47 _ hvl) ?_ | refine wpList_store_mid rfl 111 _ _ rfl (w.heap.size + 1) 0 (row .u32 v).toArray rfl rfl T1.out T2.out T3.out ?_)
          · rw [← HVS.out]
            refine bodyPost_ret (v := .agg (row .u32 v).toArray) (results_mid Tryz.results69 _ _ (w.heap.size + 1) _ _ rfl (World.rangeAt_setCells_same wr (w.heap.size + 1) 0 _ ?_) Tryz.underlying111 rfl (hi47 _ hvl)) rfl ⟨rfl, below_setCells (by omega) _ _ _ _ HB.out⟩
            rw [row_len, hvl]; exact there_row H0.out (by simp [z80])
end Go.Proofs.YtcicoeneemnbiaaGreatDoor
namespace Go.Proofs.YtcicoeneemnbiaaGreatDoor
open Go.RowKit
set_option linter.unusedVariables false
structure S5 where
  a : Int
  b : Int
  c : Int
  d : Int
  e : Int
def S5.ok (s : S5) : Prop := U s.a ∧ U s.b ∧ U s.c ∧ U s.d ∧ U s.e
def S5.l (s : S5) : List Int := [s.a, s.b, s.c, s.d, s.e]
def fi (i : Nat) (b c d : Int) : Int := if i < 20 then ch b c d else if i < 40 then par b c d else if i < 60 then maj b c d else par b c d
def ki (i : Nat) : Int := if i < 20 then 1518500249 else if i < 40 then 1859775393 else if i < 60 then 2400959708 else 3395469782
def rd (W : List Int) (i : Nat) (s : S5) : S5 := ⟨(turn5 s.a + fi i s.b s.c s.d + s.e + ki i + W.getD i 0) % 4294967296, s.a, turn30 s.b, s.c, s.d⟩
def rds (W : List Int) (s : S5) : Nat → S5
  | 0 => s
  | n + 1 => rd W n (rds W s n)
theorem rds_ok (W : List Int) (s : S5) (h : s.ok) : ∀ n, (rds W s n).ok
  | 0 => h
  | n + 1 => by
    obtain ⟨h1, h2, h3, h4, h5⟩ := rds_ok W s h n
    exact ⟨⟨by simp only [rds, rd]; omega, by simp only [rds, rd]; omega⟩, h1, turn30_bd _, h3, h4⟩
theorem fi_bd (i : Nat) (b c d : Int) : U (fi i b c d) := by
  unfold fi
  split
  · exact ch_bd _ _ _
  · split
    · exact par_bd _ _ _
    · split
      · exact maj_bd _ _ _
      · exact par_bd _ _ _
def plus (s t : S5) : S5 := ⟨(s.a + t.a) % 4294967296, (s.b + t.b) % 4294967296, (s.c + t.c) % 4294967296, (s.d + t.d) % 4294967296, (s.e + t.e) % 4294967296⟩
def comp (s : S5) (zs : List Int) : S5 := plus s (rds (spread zs) s 80)
theorem plus_ok (s t : S5) : (plus s t).ok := by
  refine ⟨⟨?_, ?_⟩, ⟨?_, ?_⟩, ⟨?_, ?_⟩, ⟨?_, ?_⟩, ?_, ?_⟩ <;> simp only [plus] <;> omega
theorem comp_ok (s : S5) (zs : List Int) : (comp s zs).ok := plus_ok _ _
theorem there_cells {w : World} {g n : Nat} {cs : Array Value} {t : TypeId} (h : w.heap[g]? = some (.cells cs t (0, 0))) (hn : cs.size = n) : w.there g 0 n := fun j hj => by
  rw [Nat.zero_add]
  refine ⟨?_, frozen_of_row w g j _ t h⟩
  rw [cell_of_row w g j _ t _ h]
  simp [hn, hj]
def kindsV : Array Value := #[.func (.func 85) #[] #[], .int .u32 1518500249, .func (.func 86) #[] #[], .int .u32 1859775393, .func (.func 87) #[] #[], .int .u32 2400959708, .func (.func 86) #[] #[], .int .u32 3395469782]
set_option maxRecDepth 20000 in
set_option maxHeartbeats 1000000 in
theorem kinds_any (w : World) : Calls Tryz.prog 70 #[] w fun e w' => e = .returned (.agg kindsV) ∧ Below w.heap.size w w' := by
  have H0 : Hid ((w.alloc (.cells #[.nilFunc, .int .u32 0, .nilFunc, .int .u32 0, .nilFunc, .int .u32 0, .nilFunc, .int .u32 0] 139)).there w.heap.size 0 8) := there_cells (heap_alloc_new w _) rfl
  have HB : Hid (Below w.heap.size w (w.alloc (.cells #[.nilFunc, .int .u32 0, .nilFunc, .int .u32 0, .nilFunc, .int .u32 0, .nilFunc, .int .u32 0] 139))) := (Below.refl _ w).alloc (Nat.le_refl _) _
  go_enter Tryz.func70, Tryz.ntmps70
  go_wp2_with (refine wpList_store_mid rfl 139 _ _ rfl w.heap.size 0 kindsV rfl rfl H0.out Tryz.size139 (by kernel_rfl) ?_)
  exact bodyPost_ret (v := .agg kindsV) (results_mid Tryz.results70 _ _ w.heap.size kindsV.toList _ rfl (World.rangeAt_setCells_same _ w.heap.size 0 _ H0.out) Tryz.underlying139 rfl Tryz.size139) rfl ⟨rfl, below_setCells (Nat.le_refl _) _ _ _ _ HB.out⟩
theorem kind0 (w : World) : (Instr.index 139 (.agg kindsV) (.int .i64 (0 : Nat))).run Tryz.prog w = .ok (.agg #[.func (.func 85) #[] #[], .int .u32 1518500249]) w := by kernel_rfl
theorem kind1 (w : World) : (Instr.index 139 (.agg kindsV) (.int .i64 (1 : Nat))).run Tryz.prog w = .ok (.agg #[.func (.func 86) #[] #[], .int .u32 1859775393]) w := by kernel_rfl
theorem kind2 (w : World) : (Instr.index 139 (.agg kindsV) (.int .i64 (2 : Nat))).run Tryz.prog w = .ok (.agg #[.func (.func 87) #[] #[], .int .u32 2400959708]) w := by kernel_rfl
theorem kind3 (w : World) : (Instr.index 139 (.agg kindsV) (.int .i64 (3 : Nat))).run Tryz.prog w = .ok (.agg #[.func (.func 86) #[] #[], .int .u32 3395469782]) w := by kernel_rfl
theorem addr_add (b off j : Nat) : (⟨b, off, none⟩ : Addr).add j = ⟨b, off + j, none⟩ := by unfold Addr.add; split <;> simp_all
theorem size37r (w : World) : (sizeOf (Tryz.prog.elem 111)).run Tryz.prog w = .ok 1 w := by kernel_rfl
theorem size5r (w : World) : (sizeOf (Tryz.prog.elem 106)).run Tryz.prog w = .ok 1 w := by kernel_rfl
theorem len47 : Tryz.prog.arrayLen 111 = 80 := by kernel_rfl
theorem len41 : Tryz.prog.arrayLen 106 = 64 := by kernel_rfl
theorem und47 : Tryz.prog.underlying 111 = some (.array (Tryz.prog.arrayLen 111) (Tryz.prog.elem 111)) := by kernel_rfl
theorem und41 : Tryz.prog.underlying 106 = some (.array (Tryz.prog.arrayLen 106) (Tryz.prog.elem 106)) := by kernel_rfl
theorem slice47 (g m : Nat) (w : World) (h : m ≤ 60) : (Instr.sliceAt 111 (.pointer (some ⟨g, 0, none⟩)) (some (.int .i64 m)) (some (.int .i64 ((m : Int) + 20))) none).run Tryz.prog w = .ok (.slice (some ⟨g, m, none⟩) 20 (80 - m : Nat)) w := by
  rw [run_sliceAt_array_lh w 111 _ und47 .i64 .i64 m (m + 20) (by omega) (by omega) (by rw [len47]; omega), size37r, len47]
  simp only [Result.andThen_ok, slicedAt]
  rw [if_neg (by omega), addr_add, show ((m : Int) + 20).toNat - (m : Int).toNat = 20 from by omega]
  simp
theorem slice41 (g o m : Nat) (w : World) (h : m < 64) : (Instr.sliceAt 106 (.pointer (some ⟨g, o, none⟩)) (some (.int .u64 m)) none none).run Tryz.prog w = .ok (.slice (some ⟨g, o + m, none⟩) (64 - m : Nat) (64 - m : Nat)) w := by
  rw [run_sliceAt_array_l w 106 _ und41 .u64 m (by omega) (by rw [len41]; omega), size5r, len41]
  simp only [Result.andThen_ok, slicedAt]
  rw [if_neg (by omega), addr_add]
  simp
theorem ki_same (j n : Nat) (h : n < 20) : ki (20 * j + n) = ki (20 * j) := by
  unfold ki
  repeat' split
  all_goals first | rfl | omega
theorem ki_bd (i : Nat) : U (ki i) := by
  unfold ki U
  split
  · omega
  · split
    · omega
    · split <;> omega
end Go.Proofs.YtcicoeneemnbiaaGreatDoor
