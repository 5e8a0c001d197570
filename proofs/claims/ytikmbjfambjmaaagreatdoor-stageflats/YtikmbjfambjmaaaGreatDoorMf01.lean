import Derived.Shelf.Strings.Cut
import Derived.Shelf.Bytes.SlSmallAll
import Derived.Test.YtikmbjfambjmaaaGreatDoorProg
import Derived.Test.YtikmbjfambjmaaaGreatDoorChecked
import Derived.RowKit
import Derived.Below
import Derived.WalkKit
import Derived.WalkSpells
import Derived.WalkLawsBesides
import Derived.Deep.AppendLies
import Derived.Deep.LoopGhost
import Derived.Deep.RegionWith
import Derived.Deep.QuietTactic
import Derived.BigQuiet
import Derived.Laws.BitsAllLaws
import Derived.Laws.CopyOwn
import Derived.Laws.IdiomCopy
import Derived.Deep.RegionHeld3
import Derived.Deep.RegionLaw
import Derived.Deep.DrawnRows
import Derived.Deep.MidRow
import Derived.Maps.AppendAt
import Derived.Lib.IndexMore
import Derived.Lib.Strings
import Derived.Lib.ItoaNum
import Derived.Shelf.Strings.OnBuilder
import Derived.Shelf.LaysM
import Derived.Shelf.Strconv.Itoa3
namespace Go.Proofs
open Go.Shelf
def Tryz.lays145_ren : Go.Shelf.Ren := ⟨fun | 145 => 50 | 220 => 67 | 219 => 85 | 217 => 100 | 225 => 101 | 224 => 102 | 267 => 103 | 266 => 130 | 314 => 131 | n => n, fun | 9 => 9 | 4 => 4 | 59 => 137 | 3 => 3 | 5 => 5 | 46 => 129 | 146 => 222 | 51 => 69 | n => n, fun | 1 => 1 | n => n⟩
theorem Tryz.lays145 : Go.Proofs.Lays.n145 Tryz.prog Tryz.lays145_ren := {
  mixed := by kernel_rfl
  f145 := Tryz.func50.trans (congrArg some (by kernel_rfl))
  f217 := Tryz.func100.trans (congrArg some (by kernel_rfl))
  f219 := Tryz.func85.trans (congrArg some (by kernel_rfl))
  f220 := Tryz.func67.trans (congrArg some (by kernel_rfl))
  f224 := Tryz.func102.trans (congrArg some (by kernel_rfl))
  f225 := Tryz.func101.trans (congrArg some (by kernel_rfl))
  f266 := Tryz.func130.trans (congrArg some (by kernel_rfl))
  f267 := Tryz.func103.trans (congrArg some (by kernel_rfl))
  f314 := Tryz.func131.trans (congrArg some (by kernel_rfl))
  t3 := Tryz.underlying3
  a3 := Tryz.isAgg3
  z3 := Tryz.sizeOf3
  v3 := Tryz.zeroValue3
  t4 := Tryz.underlying4
  a4 := Tryz.isAgg4
  z4 := Tryz.sizeOf4
  v4 := Tryz.zeroValue4
  t5 := Tryz.underlying5
  a5 := Tryz.isAgg5
  z5 := Tryz.sizeOf5
  v5 := Tryz.zeroValue5
  t9 := Tryz.underlying9
  a9 := Tryz.isAgg9
  z9 := Tryz.sizeOf9
  v9 := Tryz.zeroValue9
  t46 := Tryz.underlying129
  a46 := Tryz.isAgg129
  z46 := Tryz.sizeOf129
  v46 := Tryz.zeroValue129
  t51 := Tryz.underlying69
  a51 := Tryz.isAgg69
  z51 := Tryz.sizeOf69
  v51 := Tryz.zeroValue69
  t59 := Tryz.underlying137
  a59 := Tryz.isAgg137
  z59 := Tryz.sizeOf137
  v59 := Tryz.zeroValue137
  t146 := Tryz.underlying222
  a146 := Tryz.isAgg222
  z146 := Tryz.sizeOf222
  v146 := Tryz.zeroValue222
  g1 := by kernel_rfl }
end Go.Proofs
namespace Go.Proofs.YtikmbjfambjmaaaGreatDoor
open Go.RowKit
set_option linter.unusedVariables false
theorem hid {p : Prop} (h : p) : Hid p := h
theorem info_parts {o : Option TypeInfo} {z : Value} {a b : Nat} (h : o.map (fun i => (i.zero, i.size, i.bytes)) = some (some z, a, b)) : ∃ i, o = some i ∧ i.zero = some z ∧ i.size = a ∧ i.bytes = b := by
  cases o with
  | none => simp at h
  | some i => simp at h; exact ⟨i, rfl, h.1, h.2.1, h.2.2⟩
theorem Tryz.info5 : (Tryz.prog.info? 5).map (fun i => (i.zero, i.size, i.bytes)) = some (some (.int .u8 0), 1, 1) := by kernel_rfl
theorem Tryz.size5 : (Tryz.prog.info? 5).map (·.size) = some 1 := by kernel_rfl
theorem Tryz.size69 : (Tryz.prog.info? 69).map (·.size) = some 1 := by kernel_rfl
theorem Tryz.size23 : (Tryz.prog.info? 23).map (·.size) = some 20 := by kernel_rfl
theorem Tryz.size24 : (Tryz.prog.info? 24).map (·.size) = some 20 := by kernel_rfl
theorem Tryz.size70 : (Tryz.prog.info? 70).map (·.size) = some 5 := by kernel_rfl
theorem Tryz.size153 : (Tryz.prog.info? 153).map (·.size) = some 5 := by kernel_rfl
theorem Tryz.size154 : (Tryz.prog.info? 154).map (·.size) = some 64 := by kernel_rfl
theorem Tryz.size156 : (Tryz.prog.info? 156).map (·.size) = some 70 := by kernel_rfl
theorem Tryz.size104 : (Tryz.prog.info? 104).map (·.size) = some 80 := by kernel_rfl
theorem Tryz.size176 : (Tryz.prog.info? 176).map (·.size) = some 2 := by kernel_rfl
theorem Tryz.size177 : (Tryz.prog.info? 177).map (·.size) = some 8 := by kernel_rfl
def row (k : IntKind) (zs : List Int) : List Value := zs.map (Value.int k)
theorem row_len (k : IntKind) (zs : List Int) : (row k zs).length = zs.length := by simp [row]
theorem row_at (k : IntKind) (zs : List Int) (i : Nat) (h : i < zs.length) : (row k zs)[i]? = some (.int k (zs.getD i 0)) := by simp [row, h]
theorem row_one (k : IntKind) (zs : List Int) : ∀ v ∈ row k zs, v.oneCell' = true := by
  intro v hv; simp only [row, List.mem_map] at hv; obtain ⟨c, _, rfl⟩ := hv; rfl
theorem row_set (k : IntKind) (zs : List Int) (n : Nat) (c : Int) : (row k zs).toArray.setIfInBounds n (.int k c) = (row k (zs.set n c)).toArray := by
  simp [row, List.map_set]
theorem row_size (k : IntKind) (zs : List Int) : (row k zs).toArray.size = zs.length := by rw [List.size_toArray, row_len]
theorem row_cell {w : World} {g : Nat} {k : IntKind} {zs : List Int} {t : TypeId} {fr : Nat × Nat} (h : w.heap[g]? = some (.cells (row k zs).toArray t fr)) (i : Nat) (hi : i < zs.length) : w.cell? ⟨g, i, none⟩ = some (.int k (zs.getD i 0)) := by
  rw [cell_of_row w g i _ t fr h]; simpa using row_at k zs i hi
theorem range_row {w : World} {g : Nat} {cs : List Value} {t : TypeId} {fr : Nat × Nat} (h : w.heap[g]? = some (.cells cs.toArray t fr)) : w.rangeAt g 0 cs := fun j v hv => by
  rw [Nat.zero_add, cell_of_row w g j _ t fr h]; simpa using hv
theorem there_row {w : World} {g n : Nat} {k : IntKind} {zs : List Int} {t : TypeId} (h : w.heap[g]? = some (.cells (row k zs).toArray t (0, 0))) (hn : zs.length = n) : w.there g 0 n := fun j hj => by
  rw [Nat.zero_add]
  exact ⟨by rw [row_cell h j (by omega)]; rfl, frozen_of_row w g j _ t h⟩
theorem index_row {P : Program} (t e : TypeId) (n : Nat) (cs : Array Value) (k : IntKind) (i : Nat) (v : Value) (w : World) (h : P.underlying t = some (.array n e)) (he : (P.info? e).map (·.size) = some 1) (d : TypeDesc) (hu : P.underlying e = some d) (hd : d.isRow = false) (hi : i < n) (hv : cs[i]? = some v) :
    (Instr.index t (.agg cs) (.int k i)).run P w = .ok v w := by
  cases hq : P.info? e with
  | none => simp [hq] at he
  | some inf =>
    have hs : inf.size = 1 := by simpa [hq] using he
    have hagg : (isAgg e).run P w = .ok false w := by
      unfold isAgg
      rw [Sem.run_bind, run_underlying hu w]
      cases d <;> simp_all
    simp [Instr.index, asIntOf, run_underlying h, hi, part, sizeOf, typeInfo, hq, hs, hagg, hv]
theorem results_mid {P : Program} {fn : Func} {p : Tmp} {ty : TypeId} (h : fn.results = #[.cell p ty]) (tmps : Array Value) (w : World) (g : Nat) (cs : List Value) (d : TypeDesc)
    (hp : tmps.getD p undef = .pointer (some ⟨g, 0, none⟩)) (hc : w.rangeAt g 0 cs) (hu : P.underlying ty = some d) (hd : d.isRow = true) (hi : (P.info? ty).map (·.size) = some cs.length) :
    (results fn tmps).run P w = .ok (.agg cs.toArray) w := by
  have hp' : tmps[p]?.getD undef = .pointer (some ⟨g, 0, none⟩) := by simpa using hp
  simp [results, h, hp', asAddr, run_loadVar_mid w g 0 ty cs d hc hu hd hi]
theorem below_setCells {B g : Nat} (hB : B ≤ g) : ∀ (vs : List Value) (o : Nat) (w0 w : World), Below B w0 w → Below B w0 (w.setCells g o vs)
  | [], _, _, _, h => h
  | v :: r, o, w0, _, h => below_setCells hB r (o + 1) w0 _ (h.setCell (p := ⟨g, o, none⟩) hB v)
theorem size_setCells (g : Nat) : ∀ (vs : List Value) (o : Nat) (w : World), (w.setCells g o vs).heap.size = w.heap.size
  | [], _, _ => rfl
  | _ :: r, o, _ => (size_setCells g r (o + 1) _).trans (by simp [World.setCell])
theorem own_lt {w : World} {B : Nat} {e : TypeId} {s : Nat} {v : Value} {n : Nat} {xs : List Value} (h : w.ownsRow B e s v n xs) (k : Nat) (hk : v.ownBlock = some k) : B ≤ k ∧ k < w.heap.size := h.lt k hk
theorem below_step {B : Nat} {w0 w wx w3 : World} {r : Option Nat} (h : Below B w0 w) (hB : B ≤ w0.heap.size) (hx : w.grownBy wx none) (hg : wx.grownBy w3 r) (hr : ∀ k, r = some k → B ≤ k) : Below B w0 w3 :=
  (h.grown hx (Nat.le_trans hB h.size) (fun k h => by cases h)).grown hg (Nat.le_trans (Nat.le_trans hB h.size) hx.size) hr
def IsB (l : List Int) : Prop := ∀ x ∈ l, 0 ≤ x ∧ x < 256
theorem IsB.at {l : List Int} (h : IsB l) (i : Nat) : 0 ≤ l.getD i 0 ∧ l.getD i 0 < 256 := by
  by_cases hi : i < l.length
  · exact h _ (by rw [List.getD_eq_getElem?_getD, List.getElem?_eq_getElem hi]; exact List.getElem_mem _)
  · rw [List.getD_eq_getElem?_getD, List.getElem?_eq_none (by omega)]; simp
def IsW (l : List Int) : Prop := ∀ x ∈ l, 0 ≤ x ∧ x < 4294967296
theorem IsW.at {l : List Int} (h : IsW l) (i : Nat) : 0 ≤ l.getD i 0 ∧ l.getD i 0 < 4294967296 := by
  by_cases hi : i < l.length
  · exact h _ (by rw [List.getD_eq_getElem?_getD, List.getElem?_eq_getElem hi]; exact List.getElem_mem _)
  · rw [List.getD_eq_getElem?_getD, List.getElem?_eq_none (by omega)]; simp
theorem IsW.set {l : List Int} (h : IsW l) (i : Nat) (v : Int) (hv : 0 ≤ v ∧ v < 4294967296) : IsW (l.set i v) := by
  intro x hx
  rcases List.mem_or_eq_of_mem_set hx with h' | h'
  · exact h x h'
  · rw [h']; exact hv
theorem bits_bd (o : BinOp) (a b : Int) (ho : o = .and ∨ o = .or ∨ o = .xor) : 0 ≤ bits o .u32 a b ∧ bits o .u32 a b < 4294967296 := by
  rcases ho with rfl | rfl | rfl
  all_goals
    show 0 ≤ IntKind.u32.wrap _ ∧ IntKind.u32.wrap _ < _
    rw [IntKind.wrap_u32']
    omega
end Go.Proofs.YtikmbjfambjmaaaGreatDoor
namespace Go.Proofs.YtikmbjfambjmaaaGreatDoor
open Go.RowKit
set_option linter.unusedVariables false
set_option linter.unusedSimpArgs false
def kN (k : Int) : ByteArray := if k == 1 then ⟨#[99, 111, 109, 109, 105, 116]⟩ else if k == 2 then ⟨#[116, 114, 101, 101]⟩ else if k == 3 then ⟨#[98, 108, 111, 98]⟩ else if k == 4 then ⟨#[116, 97, 103]⟩ else ⟨#[]⟩
set_option maxRecDepth 20000 in
theorem kindName_any (k : Int) (w : World) : Calls Tryz.prog 63 #[.int .i64 k] w fun e w' => e = .returned (.string (kN k)) ∧ w' = w := by
  go_enter Tryz.func63, Tryz.ntmps63
  go_wp2
  all_goals (go_ret; refine ⟨?_, rfl⟩; unfold kN; simp [*])
set_option maxRecDepth 20000 in
theorem name_any (k : Int) (w : World) : Calls Tryz.prog 18 #[.int .i64 k] w fun e w' => e = .returned (.string (kN k)) ∧ w' = w := by
  go_enter Tryz.func18, Tryz.ntmps18
  go_wp2
  all_goals (go_ret; refine ⟨?_, rfl⟩; unfold kN; simp [*])
def fitsV (k : Int) (n : Nat) : Value := if (kN k).toList.isEmpty = true then .iface 45 (.int .i64 20) else if (100000 : Int) < n then .iface 45 (.int .i64 11) else .nilIface
set_option maxRecDepth 20000 in
theorem fits_any (k : Int) (a : Option Addr) (n cap : Nat) (w : World) : Calls Tryz.prog 44 #[.agg #[.int .i64 k, .slice a n cap]] w fun e w' => e = .returned (fitsV k n) ∧ w' = w.alloc (.cells #[.int .i64 k, .slice a n cap] 28) := by
  go_enter Tryz.func44, Tryz.ntmps44
  go_wp2_with (go_at_call 63; refine (kindName_any _ _).mono ?_; rintro ev w1 ⟨rfl, rfl⟩)
  all_goals (go_ret; refine ⟨?_, rfl⟩; unfold fitsV; simp [*])
end Go.Proofs.YtikmbjfambjmaaaGreatDoor
namespace Go.Proofs.YtikmbjfambjmaaaGreatDoor
open Go.RowKit
set_option linter.unusedVariables false
set_option linter.unusedSimpArgs false
def h0 (k : Int) (n : Nat) : List UInt8 := (kN k).data.toList ++ 32 :: Lib.decDigits n
def hd (k : Int) (n : Nat) : List UInt8 := h0 k n ++ [0]
theorem kN_list (k : Int) : (kN k).data.toList = if k == 1 then [99, 111, 109, 109, 105, 116] else if k == 2 then [116, 114, 101, 101] else if k == 3 then [98, 108, 111, 98] else if k == 4 then [116, 97, 103] else [] := by
  unfold kN
  split
  · rfl
  · split
    · rfl
    · split
      · rfl
      · split
        · rfl
        · rfl
end Go.Proofs.YtikmbjfambjmaaaGreatDoor
namespace Go.Proofs
open Go.Shelf
def Tryz.lays156_ren : Go.Shelf.Ren := ⟨fun | 156 => 76 | 165 => 92 | 166 => 93 | 169 => 94 | 240 => 120 | 241 => 121 | 276 => 141 | 277 => 142 | n => n, fun | 31 => 161 | 9 => 9 | 3 => 3 | 4 => 4 | 0 => 0 | 20 => 20 | 72 => 187 | 76 => 189 | 70 => 185 | 37 => 26 | 75 => 38 | 127 => 210 | 164 => 91 | 5 => 5 | 80 => 191 | n => n, fun | n => n⟩
theorem Tryz.lays156 : Go.Proofs.Lays.n156 Tryz.prog Tryz.lays156_ren := {
  mixed := by kernel_rfl
  f156 := Tryz.func76.trans (congrArg some (by kernel_rfl))
  f165 := Tryz.func92.trans (congrArg some (by kernel_rfl))
  f166 := Tryz.func93.trans (congrArg some (by kernel_rfl))
  f169 := Tryz.func94.trans (congrArg some (by kernel_rfl))
  f240 := Tryz.func120.trans (congrArg some (by kernel_rfl))
  f241 := Tryz.func121.trans (congrArg some (by kernel_rfl))
  f276 := Tryz.func141.trans (congrArg some (by kernel_rfl))
  f277 := Tryz.func142.trans (congrArg some (by kernel_rfl))
  t0 := Tryz.underlying0
  a0 := Tryz.isAgg0
  z0 := Tryz.sizeOf0
  v0 := Tryz.zeroValue0
  t3 := Tryz.underlying3
  a3 := Tryz.isAgg3
  z3 := Tryz.sizeOf3
  v3 := Tryz.zeroValue3
  t4 := Tryz.underlying4
  a4 := Tryz.isAgg4
  z4 := Tryz.sizeOf4
  v4 := Tryz.zeroValue4
  t9 := Tryz.underlying9
  a9 := Tryz.isAgg9
  z9 := Tryz.sizeOf9
  v9 := Tryz.zeroValue9
  t20 := Tryz.underlying20
  a20 := Tryz.isAgg20
  z20 := Tryz.sizeOf20
  v20 := Tryz.zeroValue20
  t31 := Tryz.underlying161
  a31 := Tryz.isAgg161
  z31 := Tryz.sizeOf161
  v31 := Tryz.zeroValue161
  t37 := Tryz.underlying26
  a37 := Tryz.isAgg26
  z37 := Tryz.sizeOf26
  v37 := Tryz.zeroValue26
  t70 := Tryz.underlying185
  a70 := Tryz.isAgg185
  z70 := Tryz.sizeOf185
  v70 := Tryz.zeroValue185
  t72 := Tryz.underlying187
  a72 := Tryz.isAgg187
  z72 := Tryz.sizeOf187
  v72 := Tryz.zeroValue187
  t75 := Tryz.underlying38
  a75 := Tryz.isAgg38
  z75 := Tryz.sizeOf38
  v75 := Tryz.zeroValue38
  t76 := Tryz.underlying189
  a76 := Tryz.isAgg189
  z76 := Tryz.sizeOf189
  v76 := Tryz.zeroValue189
  t127 := Tryz.underlying210
  a127 := Tryz.isAgg210
  z127 := Tryz.sizeOf210
  v127 := Tryz.zeroValue210
  t164 := Tryz.underlying91
  a164 := Tryz.isAgg91
  z164 := Tryz.sizeOf91
  v164 := Tryz.zeroValue91 }
theorem Tryz.Builder_Extra_156 : Builder.Extra Tryz.prog Tryz.lays156_ren := {
  sizeBuilder := by kernel_rfl
  liesBuilder := by kernel_rfl
  t5 := Tryz.underlying5
  a5 := Tryz.isAgg5
  z5 := Tryz.sizeOf5
  v5 := Tryz.zeroValue5
  infoByte := by kernel_rfl
  cellsByte := by kernel_rfl
  sizeByte := by kernel_rfl
  neB5 := by decide }
open Go.RowKit in
theorem Tryz.strings_Join (bk o c : Nat) (xs : List ByteArray) (sep : ByteArray) (w : World) (hcells : ∀ (j : Nat) x, xs[j]? = some x → w.cell? ⟨bk, o + j, none⟩ = some (.string x)) (hbk : bk < w.heap.size) (hN : xs.length ≤ 140737488355328) (hcap : xs.length ≤ c) (hlen : (Lib.join (xs.map (·.data.toList)) sep.data.toList).length ≤ 140737488355328) :
    Calls Tryz.prog 76 #[.slice (some ⟨bk, o, none⟩) xs.length c, .string sep] w fun e w' => e = .returned (.string ⟨(Lib.join (xs.map (·.data.toList)) sep.data.toList).toArray⟩) ∧ Below w.heap.size w w' := Any.strings_Join Tryz.lays156 Tryz.Builder_Extra_156 bk o c xs sep w hcells hbk hN hcap hlen
def Tryz.laysM171_ren : Go.Shelf.Ren := ⟨fun | 171 => 64 | 243 => 81 | 246 => 95 | 283 => 122 | 284 => 123 | 285 => 124 | 286 => 125 | 129 => 118 | 317 => 143 | 318 => 144 | 319 => 145 | 320 => 146 | 337 => 150 | 338 => 151 | n => n, fun | 3 => 3 | 9 => 9 | 2 => 2 | 4 => 4 | 171 => 211 | 0 => 0 | 53 => 68 | 37 => 26 | 5 => 5 | 173 => 213 | 212 => 238 | 51 => 69 | 20 => 20 | 213 => 239 | 46 => 129 | 232 => 248 | 233 => 154 | n => n, fun | 17 => 4 | 18 => 5 | 19 => 6 | n => n⟩
theorem Tryz.laysM171 : Go.Proofs.LaysM.n171 Tryz.prog Tryz.laysM171_ren := {
  mixed := by kernel_rfl
  f129 := Tryz.func118.trans (congrArg some (by kernel_rfl))
  f171 := Tryz.func64.trans (congrArg some (by kernel_rfl))
  f243 := Tryz.func81.trans (congrArg some (by kernel_rfl))
  f246 := Tryz.func95.trans (congrArg some (by kernel_rfl))
  f283 := Tryz.func122.trans (congrArg some (by kernel_rfl))
  f284 := Tryz.func123.trans (congrArg some (by kernel_rfl))
  f285 := Tryz.func124.trans (congrArg some (by kernel_rfl))
  f286 := Tryz.func125.trans (congrArg some (by kernel_rfl))
  f317 := Tryz.func143.trans (congrArg some (by kernel_rfl))
  f318 := Tryz.func144.trans (congrArg some (by kernel_rfl))
  f319 := Tryz.func145.trans (congrArg some (by kernel_rfl))
  f320 := Tryz.func146.trans (congrArg some (by kernel_rfl))
  f337 := Tryz.func150.trans (congrArg some (by kernel_rfl))
  f338 := Tryz.func151.trans (congrArg some (by kernel_rfl))
  t0 := Tryz.underlying0
  a0 := Tryz.isAgg0
  z0 := Tryz.sizeOf0
  v0 := Tryz.zeroValue0
  t2 := Tryz.underlying2
  a2 := Tryz.isAgg2
  z2 := Tryz.sizeOf2
  v2 := Tryz.zeroValue2
  t3 := Tryz.underlying3
  a3 := Tryz.isAgg3
  z3 := Tryz.sizeOf3
  v3 := Tryz.zeroValue3
  t4 := Tryz.underlying4
  a4 := Tryz.isAgg4
  z4 := Tryz.sizeOf4
  v4 := Tryz.zeroValue4
  t5 := Tryz.underlying5
  a5 := Tryz.isAgg5
  z5 := Tryz.sizeOf5
  v5 := Tryz.zeroValue5
  t9 := Tryz.underlying9
  a9 := Tryz.isAgg9
  z9 := Tryz.sizeOf9
  v9 := Tryz.zeroValue9
  t20 := Tryz.underlying20
  a20 := Tryz.isAgg20
  z20 := Tryz.sizeOf20
  v20 := Tryz.zeroValue20
  t37 := Tryz.underlying26
  a37 := Tryz.isAgg26
  z37 := Tryz.sizeOf26
  v37 := Tryz.zeroValue26
  t46 := Tryz.underlying129
  a46 := Tryz.isAgg129
  z46 := Tryz.sizeOf129
  v46 := Tryz.zeroValue129
  t51 := Tryz.underlying69
  a51 := Tryz.isAgg69
  z51 := Tryz.sizeOf69
  v51 := Tryz.zeroValue69
  t53 := Tryz.underlying68
  a53 := Tryz.isAgg68
  z53 := Tryz.sizeOf68
  v53 := Tryz.zeroValue68
  t171 := Tryz.underlying211
  a171 := Tryz.isAgg211
  z171 := Tryz.sizeOf211
  v171 := Tryz.zeroValue211
  t173 := Tryz.underlying213
  a173 := Tryz.isAgg213
  z173 := Tryz.sizeOf213
  v173 := Tryz.zeroValue213
  t212 := Tryz.underlying238
  a212 := Tryz.isAgg238
  z212 := Tryz.sizeOf238
  v212 := Tryz.zeroValue238
  t213 := Tryz.underlying239
  a213 := Tryz.isAgg239
  z213 := Tryz.sizeOf239
  t232 := Tryz.underlying248
  a232 := Tryz.isAgg248
  z232 := Tryz.sizeOf248
  v232 := Tryz.zeroValue248
  t233 := Tryz.underlying154
  a233 := Tryz.isAgg154
  z233 := Tryz.sizeOf154
  v233 := Tryz.zeroValue154
  g17 := by kernel_rfl
  g18 := by kernel_rfl
  g19 := by kernel_rfl
  i0 := by kernel_rfl
  i2 := by kernel_rfl
  i3 := by kernel_rfl
  i4 := by kernel_rfl
  i5 := by kernel_rfl
  i9 := by kernel_rfl
  i20 := by kernel_rfl
  i37 := by kernel_rfl
  i46 := by kernel_rfl
  i51 := by kernel_rfl
  i53 := by kernel_rfl
  i171 := by kernel_rfl
  i173 := by kernel_rfl
  i212 := by kernel_rfl
  i232 := by kernel_rfl
  i233 := by kernel_rfl
  m17 := by kernel_rfl
  m18 := by kernel_rfl
  m19 := by kernel_rfl }
open Go.RowKit Go.Sort Go.Lib in
theorem Tryz.strconv_Itoa (n : Int) (h0 : -9223372036854775808 ≤ n) (h1 : n ≤ 9223372036854775807) (w : World) (htab : Lib.TabIs Tryz.prog w "internal/strconv.uint64pow10" .u64 Lib.pow10Tab) :
    Calls Tryz.prog 64 #[.int .i64 n] w fun e w' => e = .returned (.string ⟨(Lib.itoa n).toArray⟩) ∧ ∃ k os, w' = grow (w.drewN k) os := Any.strconv_Itoa Tryz.laysM171 n h0 h1 w htab
end Go.Proofs
namespace Go.Proofs.YtikmbjfambjmaaaGreatDoor
open Go.RowKit
set_option linter.unusedVariables false
set_option linter.unusedSimpArgs false
def Tab (w : World) : Prop := Lib.TabIs Tryz.prog w "internal/strconv.uint64pow10" .u64 Lib.pow10Tab
theorem pow_at : Tryz.prog.globalNamed "internal/strconv.uint64pow10" = some 4 := by kernel_rfl
theorem Tab.below {w w' : World} (h : Tab w) (hb : Below w.heap.size w w') : Tab w' := by
  have hg := pow_at
  unfold Tab Lib.TabIs World.var? at h ⊢
  rw [hg] at h ⊢
  simp only [Option.bind_some] at h ⊢
  have hlt : 4 < w.heap.size := by
    rcases Nat.lt_or_ge 4 w.heap.size with h' | h'
    · exact h'
    · rw [Array.getElem?_eq_none h'] at h; cases h
  rw [hb.block 4 hlt]
  exact h
theorem itoa_any (n : Nat) (hn : n ≤ 400000) (w : World) (ht : Tab w) : Calls Tryz.prog 64 #[.int .i64 n] w fun e w' => e = .returned (.string ⟨(Lib.decDigits n).toArray⟩) ∧ Below w.heap.size w w' := by
  refine (Tryz.strconv_Itoa n (by omega) (by omega) w ht).mono ?_
  rintro e w' ⟨rfl, k, os, rfl⟩
  refine ⟨?_, rfl, rfl, rfl, by simp [Sort.grow], fun j hj => ?_⟩
  · rw [Lib.itoa_nonneg]
  · show (w.heap ++ os)[j]? = _
    rw [Array.getElem?_append_left hj]
set_option maxRecDepth 20000 in
theorem words_any (bk o c : Nat) (xs : List ByteArray) (w : World) (hcells : ∀ (j : Nat) x, xs[j]? = some x → w.cell? ⟨bk, o + j, none⟩ = some (.string x)) (hbk : bk < w.heap.size) (hN : xs.length ≤ 1000) (hcap : xs.length ≤ c)
    (hlen : (Lib.join (xs.map (·.data.toList)) [32]).length ≤ 1000000) :
    Calls Tryz.prog 56 #[.slice (some ⟨bk, o, none⟩) xs.length c] w fun e w' => e = .returned (.string ⟨(Lib.join (xs.map (·.data.toList)) [32]).toArray⟩) ∧ Below w.heap.size w w' := by
  have HJ : Hid (Calls Tryz.prog 76 #[.slice (some ⟨bk, o, none⟩) xs.length c, .string ⟨#[32]⟩] w fun e w' => e = .returned (.string ⟨(Lib.join (xs.map (·.data.toList)) [32]).toArray⟩) ∧ Below w.heap.size w w') :=
    Tryz.strings_Join bk o c xs ⟨#[32]⟩ w hcells hbk (by omega) hcap (Nat.le_trans hlen (by decide))
  clear hcells hlen
  go_enter Tryz.func56, Tryz.ntmps56
  go_wp2_with fail
  refine HJ.out.mono ?_
  rintro e w' ⟨rfl, hb⟩
  go_wp2
  go_ret
  exact ⟨rfl, hb⟩
end Go.Proofs.YtikmbjfambjmaaaGreatDoor
namespace Go.Proofs.YtikmbjfambjmaaaGreatDoor
open Go.RowKit
set_option linter.unusedVariables false
set_option linter.unusedSimpArgs false
def turn1 (x : Int) : Int := bits .or .u32 (x * 2 % 4294967296) (x / 2147483648)
def turn5 (x : Int) : Int := bits .or .u32 (x * 32 % 4294967296) (x / 134217728)
def turn30 (x : Int) : Int := bits .or .u32 (x * 1073741824 % 4294967296) (x / 4)
def ch (b c d : Int) : Int := bits .or .u32 (bits .and .u32 b c) (bits .and .u32 (bits .xor .u32 4294967295 b) d)
def par (b c d : Int) : Int := bits .xor .u32 (bits .xor .u32 b c) d
def maj (b c d : Int) : Int := bits .or .u32 (bits .or .u32 (bits .and .u32 b c) (bits .and .u32 b d)) (bits .and .u32 c d)
def U (x : Int) : Prop := 0 ≤ x ∧ x < 4294967296
theorem turn1_bd (x : Int) : U (turn1 x) := bits_bd _ _ _ (by simp)
theorem turn5_bd (x : Int) : U (turn5 x) := bits_bd _ _ _ (by simp)
theorem turn30_bd (x : Int) : U (turn30 x) := bits_bd _ _ _ (by simp)
theorem ch_bd (a b c : Int) : U (ch a b c) := bits_bd _ _ _ (by simp)
theorem par_bd (a b c : Int) : U (par a b c) := bits_bd _ _ _ (by simp)
theorem maj_bd (a b c : Int) : U (maj a b c) := bits_bd _ _ _ (by simp)
theorem and31_1 : bits .and .u64 1 31 = 1 := by decide +kernel
theorem and31_5 : bits .and .u64 5 31 = 5 := by decide +kernel
theorem and31_30 : bits .and .u64 30 31 = 30 := by decide +kernel
theorem rot1 (x : Int) (w : World) (hx : U x) : Calls Tryz.prog 84 #[.int .u32 x, .int .i64 1] w fun e w' => e = .returned (.int .u32 (turn1 x)) ∧ w = w' := by
  obtain ⟨hx0, hx1⟩ := hx
  have h1 := and31_1
  go_enter Tryz.func84, Tryz.ntmps84
  go_wp2
  go_ret
  exact ⟨rfl, rfl⟩
theorem rot5 (x : Int) (w : World) (hx : U x) : Calls Tryz.prog 84 #[.int .u32 x, .int .i64 5] w fun e w' => e = .returned (.int .u32 (turn5 x)) ∧ w = w' := by
  obtain ⟨hx0, hx1⟩ := hx
  have h1 := and31_5
  go_enter Tryz.func84, Tryz.ntmps84
  go_wp2
  go_ret
  exact ⟨rfl, rfl⟩
theorem rot30 (x : Int) (w : World) (hx : U x) : Calls Tryz.prog 84 #[.int .u32 x, .int .i64 30] w fun e w' => e = .returned (.int .u32 (turn30 x)) ∧ w = w' := by
  obtain ⟨hx0, hx1⟩ := hx
  have h1 := and31_30
  go_enter Tryz.func84, Tryz.ntmps84
  go_wp2
  go_ret
  exact ⟨rfl, rfl⟩
theorem tn1 (x : Int) (w : World) (hx : U x) : Calls Tryz.prog 32 #[.int .u32 x, .int .i64 1] w fun e w' => e = .returned (.int .u32 (turn1 x)) ∧ ∃ n, w' = w.drewN n := by
  obtain ⟨hx0, hx1⟩ := hx
  go_enter Tryz.func32, Tryz.ntmps32
  go_wp2
  go_quiet (fail)
  go_wp2
  go_ret
  exact ⟨rfl, _, rfl⟩
theorem tn5 (x : Int) (w : World) (hx : U x) : Calls Tryz.prog 32 #[.int .u32 x, .int .i64 5] w fun e w' => e = .returned (.int .u32 (turn5 x)) ∧ ∃ n, w' = w.drewN n := by
  obtain ⟨hx0, hx1⟩ := hx
  go_enter Tryz.func32, Tryz.ntmps32
  go_wp2
  go_quiet (fail)
  go_wp2
  go_ret
  exact ⟨rfl, _, rfl⟩
theorem tn30 (x : Int) (w : World) (hx : U x) : Calls Tryz.prog 32 #[.int .u32 x, .int .i64 30] w fun e w' => e = .returned (.int .u32 (turn30 x)) ∧ ∃ n, w' = w.drewN n := by
  obtain ⟨hx0, hx1⟩ := hx
  go_enter Tryz.func32, Tryz.ntmps32
  go_wp2
  go_quiet (fail)
  go_wp2
  go_ret
  exact ⟨rfl, _, rfl⟩
theorem choice_any (b c d : Int) (w : World) (hb : U b) (hc : U c) (hd : U d) : Calls Tryz.prog 97 #[.int .u32 b, .int .u32 c, .int .u32 d] w fun e w' => e = .returned (.int .u32 (ch b c d)) ∧ w = w' := by
  obtain ⟨hb0, hb1⟩ := hb
  obtain ⟨hc0, hc1⟩ := hc
  obtain ⟨hd0, hd1⟩ := hd
  have hsg : IntKind.u32.signed = false := rfl
  have hmx : IntKind.u32.max = 4294967295 := rfl
  go_enter Tryz.func97, Tryz.ntmps97
  go_wp2
  go_ret
  exact ⟨rfl, rfl⟩
theorem parity_any (b c d : Int) (w : World) (hb : U b) (hc : U c) (hd : U d) : Calls Tryz.prog 98 #[.int .u32 b, .int .u32 c, .int .u32 d] w fun e w' => e = .returned (.int .u32 (par b c d)) ∧ w = w' := by
  obtain ⟨hb0, hb1⟩ := hb
  obtain ⟨hc0, hc1⟩ := hc
  obtain ⟨hd0, hd1⟩ := hd
  go_enter Tryz.func98, Tryz.ntmps98
  go_wp2
  go_ret
  exact ⟨rfl, rfl⟩
theorem majority_any (b c d : Int) (w : World) (hb : U b) (hc : U c) (hd : U d) : Calls Tryz.prog 99 #[.int .u32 b, .int .u32 c, .int .u32 d] w fun e w' => e = .returned (.int .u32 (maj b c d)) ∧ w = w' := by
  obtain ⟨hb0, hb1⟩ := hb
  obtain ⟨hc0, hc1⟩ := hc
  obtain ⟨hd0, hd1⟩ := hd
  go_enter Tryz.func99, Tryz.ntmps99
  go_wp2
  go_ret
  exact ⟨rfl, rfl⟩
theorem or_add (n : Nat) (h l : Int) (h0 : 0 ≤ h) (l0 : 0 ≤ l) (hl : l < 2 ^ n) (hs : h * 2 ^ n + l < 4294967296) : bits .or .u32 (h * 2 ^ n) l = h * 2 ^ n + l := by
  obtain ⟨a, rfl⟩ := Int.eq_ofNat_of_zero_le h0
  obtain ⟨b, rfl⟩ := Int.eq_ofNat_of_zero_le l0
  obtain ⟨q, hq⟩ : ∃ q, q = 2 ^ n := ⟨_, rfl⟩
  have hb : b < 2 ^ n := by exact_mod_cast hl
  have e : 2 ^ n * a + b = 2 ^ n * a ||| b := Nat.two_pow_add_eq_or_of_lt hb a
  have hp : ((a : Int) * 2 ^ n) = ((2 ^ n * a : Nat) : Int) := by push_cast; rw [Int.mul_comm]
  rw [hp] at hs ⊢
  rw [u32_or_nat _ _ (by omega) (by omega), ← e]
  push_cast; rfl
def num4 (a b c d : Int) : Int := a * 16777216 + b * 65536 + c * 256 + d
theorem num4_or (a b c d : Int) (ha : 0 ≤ a ∧ a < 256) (hb : 0 ≤ b ∧ b < 256) (hc : 0 ≤ c ∧ c < 256) (hd : 0 ≤ d ∧ d < 256) : bits .or .u32 (bits .or .u32 (bits .or .u32 (a * 16777216) (b * 65536)) (c * 256)) d = num4 a b c d := by
  have h1 := or_add 24 a (b * 65536) (by omega) (by omega) (by omega) (by omega)
  have h2 := or_add 16 (a * 256 + b) (c * 256) (by omega) (by omega) (by omega) (by omega)
  have h3 := or_add 8 (a * 65536 + b * 256 + c) d (by omega) (by omega) (by omega) (by omega)
  rw [show (2 : Int) ^ 24 = 16777216 from by decide] at h1
  rw [show (2 : Int) ^ 16 = 65536 from by decide] at h2
  rw [show (2 : Int) ^ 8 = 256 from by decide] at h3
  rw [h1, show a * 16777216 + b * 65536 = (a * 256 + b) * 65536 from by omega, h2, show (a * 256 + b) * 65536 + c * 256 = (a * 65536 + b * 256 + c) * 256 from by omega, h3]
  unfold num4; omega
theorem or8 (v x : Int) (hv : 0 ≤ v ∧ v < 16777216) (hx : 0 ≤ x ∧ x < 256) : bits .or .u32 (v * 256 % 4294967296) x = v * 256 + x := by
  rw [show v * 256 % 4294967296 = v * 2 ^ 8 from by omega, or_add 8 v x hv.1 hx.1 (by omega) (by omega)]; rfl
def At (w : World) (b off : Nat) (zs : List Int) : Prop := ∀ i, i < zs.length → w.cell? ⟨b, off + i, none⟩ = some (.int .u8 (zs.getD i 0))
theorem number_any (b off cap i : Nat) (zs : List Int) (w : World) (hl : zs.length = 64) (hz : IsB zs) (hi : i < 16) (hat : At w b off zs) :
    Calls Tryz.prog 31 #[.slice (some ⟨b, off, none⟩) 64 cap, .int .i64 (4 * i)] w fun e w' => e = .returned (.int .u32 (num4 (zs.getD (4 * i) 0) (zs.getD (4 * i + 1) 0) (zs.getD (4 * i + 2) 0) (zs.getD (4 * i + 3) 0))) ∧ ∃ n, w' = w.drewN n := by
  obtain ⟨x0, H0⟩ : ∃ x, Hid (x = zs.getD (4 * i) 0) := ⟨_, rfl⟩
  obtain ⟨x1, H1⟩ : ∃ x, Hid (x = zs.getD (4 * i + 1) 0) := ⟨_, rfl⟩
  obtain ⟨x2, H2⟩ : ∃ x, Hid (x = zs.getD (4 * i + 2) 0) := ⟨_, rfl⟩
  obtain ⟨x3, H3⟩ : ∃ x, Hid (x = zs.getD (4 * i + 3) 0) := ⟨_, rfl⟩
  have c0 : w.cell? ⟨b, off + 4 * i, none⟩ = some (.int .u8 x0) := by rw [H0.out]; exact hat _ (by omega)
  have c1 : w.cell? ⟨b, off + (4 * i + 1), none⟩ = some (.int .u8 x1) := by rw [H1.out]; exact hat _ (by omega)
  have c2 : w.cell? ⟨b, off + (4 * i + 2), none⟩ = some (.int .u8 x2) := by rw [H2.out]; exact hat _ (by omega)
  have c3 : w.cell? ⟨b, off + (4 * i + 3), none⟩ = some (.int .u8 x3) := by rw [H3.out]; exact hat _ (by omega)
  have b0 : 0 ≤ x0 ∧ x0 < 256 := by rw [H0.out]; exact hz.at _
  have b1 : 0 ≤ x1 ∧ x1 < 256 := by rw [H1.out]; exact hz.at _
  have b2 : 0 ≤ x2 ∧ x2 < 256 := by rw [H2.out]; exact hz.at _
  have b3 : 0 ≤ x3 ∧ x3 < 256 := by rw [H3.out]; exact hz.at _
  rw [← H0.out, ← H1.out, ← H2.out, ← H3.out]
  obtain ⟨j, HJ⟩ : ∃ j, Hid (j = 4 * i) := ⟨_, rfl⟩
  rw [show (4 * (i : Int)) = (j : Int) from by have := HJ.out; omega]
  rw [← HJ.out] at c0 c1 c2 c3
  have hj : j ≤ 60 := by have := HJ.out; omega
  go_enter Tryz.func31, Tryz.ntmps31
  go_wp2
  go_quiet (fail)
  go_wp2
  go_ret
  rw [← num4_or x0 x1 x2 x3 b0 b1 b2 b3]
  exact ⟨rfl, _, rfl⟩
end Go.Proofs.YtikmbjfambjmaaaGreatDoor
namespace Go.Proofs.YtikmbjfambjmaaaGreatDoor
open Go.RowKit
set_option linter.unusedVariables false
def val (zs : List Int) (j : Nat) : Nat → Int
  | 0 => 0
  | m + 1 => val zs j m * 256 + zs.getD (4 * j + m) 0
theorem val_bd (zs : List Int) (hz : IsB zs) (j : Nat) : ∀ m, 0 ≤ val zs j m ∧ val zs j m < 256 ^ m
  | 0 => by simp [val]
  | m + 1 => by
    have h := val_bd zs hz j m
    have hb := hz.at (4 * j + m)
    simp only [val, Int.pow_succ]
    generalize (256 : Int) ^ m = q at h ⊢
    omega
theorem val4 (zs : List Int) (j : Nat) : val zs j 4 = num4 (zs.getD (4 * j) 0) (zs.getD (4 * j + 1) 0) (zs.getD (4 * j + 2) 0) (zs.getD (4 * j + 3) 0) := by
  simp only [val, num4, Nat.add_zero]; omega
def wAt (zs : List Int) (k : Nat) : List Int := (List.range 80).map fun j => val zs j (min (k - 4 * j) 4)
theorem wAt_len (zs : List Int) (k : Nat) : (wAt zs k).length = 80 := by simp [wAt]
theorem wAt_get (zs : List Int) (k j : Nat) (h : j < 80) : (wAt zs k).getD j 0 = val zs j (min (k - 4 * j) 4) := by simp [wAt, h]
theorem wAt_zero (zs : List Int) : wAt zs 0 = List.replicate 80 0 := by
  apply List.ext_getElem (by rw [wAt_len, List.length_replicate])
  intro j h1 h2
  rw [List.getElem_replicate]
  simp only [wAt, List.getElem_map, List.getElem_range]
  rw [show min (0 - 4 * j) 4 = 0 from by omega]; rfl
theorem wAt_step (zs : List Int) (k : Nat) (h : k < 64) : wAt zs (k + 1) = (wAt zs k).set (k / 4) ((wAt zs k).getD (k / 4) 0 * 256 + zs.getD k 0) := by
  rw [wAt_get zs k (k / 4) (by omega)]
  apply List.ext_getElem (by simp [wAt])
  intro j h1 h2
  have hj : j < 80 := by rw [wAt_len] at h1; exact h1
  rw [List.getElem_set]
  by_cases e : k / 4 = j
  · rw [if_pos e]
    subst e
    simp only [wAt, List.getElem_map, List.getElem_range]
    rw [show min (k + 1 - 4 * (k / 4)) 4 = min (k - 4 * (k / 4)) 4 + 1 from by omega, val, show 4 * (k / 4) + min (k - 4 * (k / 4)) 4 = k from by omega]
  · rw [if_neg e]
    simp only [wAt, List.getElem_map, List.getElem_range]
    rw [show min (k + 1 - 4 * j) 4 = min (k - 4 * j) 4 from by omega]
theorem wAt_small (zs : List Int) (hz : IsB zs) (k : Nat) (h : k < 64) : 0 ≤ (wAt zs k).getD (k / 4) 0 ∧ (wAt zs k).getD (k / 4) 0 < 16777216 := by
  rw [wAt_get zs k _ (by omega)]
  have hb := val_bd zs hz (k / 4) (min (k - 4 * (k / 4)) 4)
  have h3 : min (k - 4 * (k / 4)) 4 ≤ 3 := by omega
  refine ⟨hb.1, Int.lt_of_lt_of_le hb.2 ?_⟩
  generalize min (k - 4 * (k / 4)) 4 = m at h3
  match m, h3 with
  | 0, _ => decide
  | 1, _ => decide
  | 2, _ => decide
  | 3, _ => decide
theorem wAt_isW (zs : List Int) (hz : IsB zs) (k : Nat) : IsW (wAt zs k) := by
  intro x hx
  simp only [wAt, List.mem_map, List.mem_range] at hx
  obtain ⟨j, -, rfl⟩ := hx
  have hb := val_bd zs hz j (min (k - 4 * j) 4)
  have h3 : min (k - 4 * j) 4 ≤ 4 := by omega
  refine ⟨hb.1, Int.lt_of_lt_of_le hb.2 ?_⟩
  generalize min (k - 4 * j) 4 = m at h3
  match m, h3 with
  | 0, _ => decide
  | 1, _ => decide
  | 2, _ => decide
  | 3, _ => decide
  | 4, _ => decide
def rAt (zs : List Int) (i : Nat) : List Int := (List.range 80).map fun j => if j < i then val zs j 4 else 0
theorem rAt_len (zs : List Int) (k : Nat) : (rAt zs k).length = 80 := by simp [rAt]
theorem rAt_zero (zs : List Int) : rAt zs 0 = List.replicate 80 0 := by
  apply List.ext_getElem (by rw [rAt_len, List.length_replicate])
  intro j h1 h2
  rw [List.getElem_replicate]
  simp only [rAt, List.getElem_map, List.getElem_range]
  rw [if_neg (by omega)]
theorem rAt_step (zs : List Int) (i : Nat) (h : i < 16) : rAt zs (i + 1) = (rAt zs i).set i (val zs i 4) := by
  apply List.ext_getElem (by simp [rAt])
  intro j h1 h2
  rw [List.getElem_set]
  simp only [rAt, List.getElem_map, List.getElem_range]
  by_cases e : i = j
  · subst e; rw [if_pos rfl, if_pos (by omega)]
  · rw [if_neg e]
    by_cases h : j < i
    · rw [if_pos (by omega), if_pos h]
    · rw [if_neg (by omega), if_neg h]
theorem rAt_16 (zs : List Int) : rAt zs 16 = wAt zs 64 := by
  apply List.ext_getElem (by simp [rAt, wAt])
  intro j h1 h2
  simp only [rAt, wAt, List.getElem_map, List.getElem_range]
  by_cases h : j < 16
  · rw [if_pos h, show min (64 - 4 * j) 4 = 4 from by omega]
  · rw [if_neg h, show min (64 - 4 * j) 4 = 0 from by omega]; rfl
def nx (v : List Int) (i : Nat) : Int := bits .xor .u32 (bits .xor .u32 (bits .xor .u32 (v.getD (i - 3) 0) (v.getD (i - 8) 0)) (v.getD (i - 14) 0)) (v.getD (i - 16) 0)
def spAt (ws : List Int) : Nat → List Int
  | 0 => ws
  | j + 1 => (spAt ws j).set (16 + j) (turn1 (nx (spAt ws j) (16 + j)))
theorem spAt_len (ws : List Int) : ∀ j, (spAt ws j).length = ws.length
  | 0 => rfl
  | j + 1 => by rw [spAt, List.length_set, spAt_len ws j]
theorem spAt_isW (ws : List Int) (h : IsW ws) : ∀ j, IsW (spAt ws j)
  | 0 => h
  | j + 1 => (spAt_isW ws h j).set _ _ (turn1_bd _)
theorem nx_bd (v : List Int) (i : Nat) : U (nx v i) := bits_bd _ _ _ (by simp)
def spread (zs : List Int) : List Int := spAt (wAt zs 64) 64
theorem spread_len (zs : List Int) : (spread zs).length = 80 := by rw [spread, spAt_len, wAt_len]
theorem spread_isW (zs : List Int) (hz : IsB zs) : IsW (spread zs) := spAt_isW _ (wAt_isW zs hz 64) _
end Go.Proofs.YtikmbjfambjmaaaGreatDoor
namespace Go.Proofs.YtikmbjfambjmaaaGreatDoor
open Go.RowKit
set_option linter.unusedVariables false
theorem wrap_i64 (n : Nat) (h : n < 9223372036854775808) : IntKind.i64.wrap (n : Int) = n := by
  rw [IntKind.wrap_i64]; omega
theorem heap_drew (w : World) : w.drew.heap = w.heap := rfl
def z80 : List Int := List.replicate 80 0
theorem zero47 (w : World) : (zeroValue 104).run Tryz.prog w = .ok (.agg (row .u32 z80).toArray) w := by kernel_rfl
theorem heap_alloc3 (w : World) (a b c : Obj) : ((((w.alloc a).alloc b).alloc c).heap[w.heap.size]? = some a ∧ (((w.alloc a).alloc b).alloc c).heap[w.heap.size + 1]? = some b) ∧ (((w.alloc a).alloc b).alloc c).heap[w.heap.size + 1 + 1]? = some c := by
  refine ⟨⟨?_, ?_⟩, ?_⟩
  · rw [Below.heap_alloc _ _ _ (by simp; omega)]; exact heap_alloc2_old w a b
  · rw [Below.heap_alloc _ _ _ (by simp)]; exact heap_alloc2_new w a b
  · have := heap_alloc_new ((w.alloc a).alloc b) c
    simpa using this
set_option maxRecDepth 20000 in
set_option maxHeartbeats 1000000 in
theorem spread_any (zs : List Int) (w : World) (hl : zs.length = 64) (hz : IsB zs) :
    Calls Tryz.prog 82 #[.agg (row .u8 zs).toArray] w fun e w' => e = .returned (.agg (row .u32 (spread zs)).toArray) ∧ Below w.heap.size w w' := by
  have hi47 : ∀ l : List Int, l.length = 80 → (Tryz.prog.info? 104).map (·.size) = some (row .u32 l).length := fun l h => by rw [row_len, h]; exact Tryz.size104
  have hi41 : (Tryz.prog.info? 154).map (·.size) = some (row .u8 zs).length := by rw [row_len, hl]; exact Tryz.size154
  obtain ⟨arr, HA⟩ : ∃ arr, Hid (arr = row .u8 zs) := ⟨_, rfl⟩
  rw [← HA.out]
  have hasz : arr.toArray.size = 64 := by rw [HA.out, row_size]; exact hl
  rw [← HA.out] at hi41
  have HX : Hid (∀ i, i < 64 → arr.toArray[i]? = some (.int .u8 (zs.getD i 0))) := fun i hi => by rw [HA.out]; simpa using row_at .u8 zs i (by omega)
  obtain ⟨zr, HZ⟩ : ∃ zr : Array Value, Hid (zr = (row .u32 z80).toArray) := ⟨_, rfl⟩
  have hzv := zero47
  rw [← HZ.out] at hzv
  have H3 : Hid (_ ∧ _) := heap_alloc3 w (.cells arr.toArray 154) (.cells zr 104) (.cells zr 104)
  have HB0 : Hid (Below w.heap.size w (((w.alloc (.cells arr.toArray 154)).alloc (.cells zr 104)).alloc (.cells zr 104))) := (((Below.refl _ w).alloc (Nat.le_refl _) _).alloc (by simp) _).alloc (by simp; omega) _
  go_enter Tryz.func82, Tryz.ntmps82
  go_wp2_with (refine wpList_load_mid rfl 154 _ rfl w.heap.size 0 rfl arr _ (range_row H3.out.1.1) Tryz.underlying154 rfl hi41 ?_)
  go_loopg [8] 64 (fun k i wr => ∃ j : Nat, j ≤ 64 ∧ k = 64 - j ∧ i = .int .i64 j ∧ Hid (wr.heap[w.heap.size + 1 + 1]? = some (.cells (row .u32 (wAt zs j)).toArray 104 (0, 0))) ∧ Hid (wr.heap[w.heap.size + 1]? = some (.cells (row .u32 z80).toArray 104 (0, 0))) ∧ Hid (Below w.heap.size w wr))
  case atStart =>
    refine ⟨0, by omega, rfl, rfl, hid ?_, hid ?_, HB0⟩
    · rw [wAt_zero, H3.out.2, HZ.out]; rfl
    · rw [H3.out.1.2, HZ.out]
  case round =>
    obtain ⟨j, hj, hk, rfl, H1, H0, HB⟩ := hrel
    by_cases hlt : j < 64
    · have hix : ∀ w1 : World, (Instr.index 154 (.agg arr.toArray) (.int .i64 j)).run Tryz.prog w1 = .ok (.int .u8 (zs.getD j 0)) w1 := fun w1 => index_row 154 5 64 _ _ j _ w1 Tryz.underlying154 Tryz.size5 _ Tryz.underlying5 rfl hlt (HX.out j hlt)
      obtain ⟨x, HXX⟩ : ∃ x, Hid (x = zs.getD j 0) := ⟨_, rfl⟩
      rw [← HXX.out] at hix
      have hxb : 0 ≤ x ∧ x < 256 := by rw [HXX.out]; exact hz.at j
      obtain ⟨m, HM⟩ : ∃ m, Hid (m = j / 4) := ⟨_, rfl⟩
      have hm : j / 4 = m := HM.out.symm
      have hm2 : m < 80 := by omega
      obtain ⟨v, HV⟩ : ∃ v, Hid (v = (wAt zs j).getD (j / 4) 0) := ⟨_, rfl⟩
      have hv : 0 ≤ v ∧ v < 16777216 := by rw [HV.out]; exact wAt_small zs hz j hlt
      have hc : wr.cell? ⟨w.heap.size + 1 + 1, m, none⟩ = some (.int .u32 v) := by rw [HV.out, hm]; exact row_cell H1.out m (by rw [wAt_len]; exact hm2)
      have hfz := frozen_of_row wr (w.heap.size + 1 + 1) m _ 104 H1.out
      obtain ⟨y, HY⟩ : ∃ y, Hid (y = v * 256 + x) := ⟨_, rfl⟩
      have hor := or8 v x hv hxb
      rw [← HY.out] at hor
      have hor2 : bits .or .u32 (v * 256) x = y := by rw [← hor]; congr 1; omega
      go_wp2
      go_roundg (64 - (j + 1))
      case measure => omega
      case rel =>
        refine ⟨j + 1, by omega, rfl, by go_num, hid ?_, hid ?_, HB.out.setCell (by simp <;> omega) _⟩
        · rw [heap_setCell_same wr _ _ _ _ _ H1.out, wAt_step zs j hlt, ← HV.out, ← HXX.out, ← HY.out, hm, row_set, ← hor2]
        · rw [heap_setCell_other wr _ _ _ (by simp)]; exact H0.out
    · obtain rfl : j = 64 := by omega
      go_wp2
      go_loopg [6] 64 (fun k i wr => ∃ j : Nat, j ≤ 64 ∧ k = 64 - j ∧ i = .int .i64 (16 + j : Nat) ∧ Hid (wr.heap[w.heap.size + 1 + 1]? = some (.cells (row .u32 (spAt (wAt zs 64) j)).toArray 104 (0, 0))) ∧ Hid (wr.heap[w.heap.size + 1]? = some (.cells (row .u32 z80).toArray 104 (0, 0))) ∧ Hid (Below w.heap.size w wr))
      case atStart => exact ⟨0, by omega, rfl, rfl, H1, H0, HB⟩
      case round =>
        clear H1 H0 HB
        obtain ⟨j, hj, hk, rfl, H1, H0, HB⟩ := hrel
        obtain ⟨v, HV⟩ : ∃ v, Hid (v = spAt (wAt zs 64) j) := ⟨_, rfl⟩
        rw [← HV.out] at H1
        have hvl : v.length = 80 := by rw [HV.out, spAt_len, wAt_len]
        have hvw : IsW v := by rw [HV.out]; exact spAt_isW _ (wAt_isW zs hz 64) _
        obtain ⟨q, HQ⟩ : ∃ q, Hid (q = 16 + j) := ⟨_, rfl⟩
        rw [← HQ.out]
        have hq : 16 ≤ q ∧ q ≤ 80 := by have := HQ.out; omega
        by_cases hlt : q < 80
        · obtain ⟨x1, G1⟩ : ∃ x, Hid (x = v.getD (q - 3) 0) := ⟨_, rfl⟩
          obtain ⟨x2, G2⟩ : ∃ x, Hid (x = v.getD (q - 8) 0) := ⟨_, rfl⟩
          obtain ⟨x3, G3⟩ : ∃ x, Hid (x = v.getD (q - 14) 0) := ⟨_, rfl⟩
          obtain ⟨x4, G4⟩ : ∃ x, Hid (x = v.getD (q - 16) 0) := ⟨_, rfl⟩
          obtain ⟨q1, Q1⟩ : ∃ r, Hid (r = q - 3) := ⟨_, rfl⟩
          have e1 : IntKind.i64.wrap ((q : Int) - 3) = (q1 : Int) := by rw [show (q : Int) - 3 = (q1 : Int) from by have := Q1.out; omega]; exact wrap_i64 _ (by have := Q1.out; omega)
          have b1 : q1 < 80 := by have := Q1.out; omega
          have bi1 : (q1 : Int) < 80 := by omega
          have bz1 : (0 : Int) ≤ q1 := by omega
          have c1 : wr.cell? ⟨w.heap.size + 1 + 1, q1, none⟩ = some (.int .u32 x1) := by rw [G1.out, Q1.out]; exact row_cell H1.out _ (by omega)
          obtain ⟨q2, Q2⟩ : ∃ r, Hid (r = q - 8) := ⟨_, rfl⟩
          have e2 : IntKind.i64.wrap ((q : Int) - 8) = (q2 : Int) := by rw [show (q : Int) - 8 = (q2 : Int) from by have := Q2.out; omega]; exact wrap_i64 _ (by have := Q2.out; omega)
          have b2 : q2 < 80 := by have := Q2.out; omega
          have bi2 : (q2 : Int) < 80 := by omega
          have bz2 : (0 : Int) ≤ q2 := by omega
          have c2 : wr.cell? ⟨w.heap.size + 1 + 1, q2, none⟩ = some (.int .u32 x2) := by rw [G2.out, Q2.out]; exact row_cell H1.out _ (by omega)
          obtain ⟨q3, Q3⟩ : ∃ r, Hid (r = q - 14) := ⟨_, rfl⟩
          have e3 : IntKind.i64.wrap ((q : Int) - 14) = (q3 : Int) := by rw [show (q : Int) - 14 = (q3 : Int) from by have := Q3.out; omega]; exact wrap_i64 _ (by have := Q3.out; omega)
          have b3 : q3 < 80 := by have := Q3.out; omega
          have bi3 : (q3 : Int) < 80 := by omega
          have bz3 : (0 : Int) ≤ q3 := by omega
          have c3 : wr.cell? ⟨w.heap.size + 1 + 1, q3, none⟩ = some (.int .u32 x3) := by rw [G3.out, Q3.out]; exact row_cell H1.out _ (by omega)
          obtain ⟨q4, Q4⟩ : ∃ r, Hid (r = q - 16) := ⟨_, rfl⟩
          have e4 : IntKind.i64.wrap ((q : Int) - 16) = (q4 : Int) := by rw [show (q : Int) - 16 = (q4 : Int) from by have := Q4.out; omega]; exact wrap_i64 _ (by have := Q4.out; omega)
          have b4 : q4 < 80 := by have := Q4.out; omega
          have bi4 : (q4 : Int) < 80 := by omega
          have bz4 : (0 : Int) ≤ q4 := by omega
          have c4 : wr.cell? ⟨w.heap.size + 1 + 1, q4, none⟩ = some (.int .u32 x4) := by rw [G4.out, Q4.out]; exact row_cell H1.out _ (by omega)
          have c5 : wr.cell? ⟨w.heap.size + 1 + 1, q, none⟩ = some (.int .u32 (v.getD q 0)) := row_cell H1.out _ (by omega)
          have bi5 : (q : Int) < 80 := by omega
          have bz5 : (0 : Int) ≤ q := by omega
          have f5 := frozen_of_row wr (w.heap.size + 1 + 1) q _ 104 H1.out
          obtain ⟨n, HN⟩ : ∃ n, Hid (n = nx v q) := ⟨_, rfl⟩
          have hn : bits .xor .u32 (bits .xor .u32 (bits .xor .u32 x1 x2) x3) x4 = n := by rw [HN.out, G1.out, G2.out, G3.out, G4.out]; rfl
          have hnb : U n := by rw [HN.out]; exact nx_bd v q
          have k1 : ∀ (W : World) (u : Value), (W.setCell ⟨w.heap.size + 1 + 1, q, none⟩ u).cell? ⟨w.heap.size + 1 + 1, q1, none⟩ = W.cell? ⟨w.heap.size + 1 + 1, q1, none⟩ := fun W u => World.cell?_setCell_other _ _ _ _ (by intro h; simp only [Addr.mk.injEq] at h; have := Q1.out; omega)
          have k2 : ∀ (W : World) (u : Value), (W.setCell ⟨w.heap.size + 1 + 1, q, none⟩ u).cell? ⟨w.heap.size + 1 + 1, q2, none⟩ = W.cell? ⟨w.heap.size + 1 + 1, q2, none⟩ := fun W u => World.cell?_setCell_other _ _ _ _ (by intro h; simp only [Addr.mk.injEq] at h; have := Q2.out; omega)
          have k3 : ∀ (W : World) (u : Value), (W.setCell ⟨w.heap.size + 1 + 1, q, none⟩ u).cell? ⟨w.heap.size + 1 + 1, q3, none⟩ = W.cell? ⟨w.heap.size + 1 + 1, q3, none⟩ := fun W u => World.cell?_setCell_other _ _ _ _ (by intro h; simp only [Addr.mk.injEq] at h; have := Q3.out; omega)
          have k4 : ∀ (W : World) (u : Value), (W.setCell ⟨w.heap.size + 1 + 1, q, none⟩ u).cell? ⟨w.heap.size + 1 + 1, q4, none⟩ = W.cell? ⟨w.heap.size + 1 + 1, q4, none⟩ := fun W u => World.cell?_setCell_other _ _ _ _ (by intro h; simp only [Addr.mk.injEq] at h; have := Q4.out; omega)
          go_wp2
          go_region_held3 (fun w' => w'.cell? ⟨w.heap.size + 1 + 1, q1, none⟩ = some (.int .u32 x1) ∧ w'.cell? ⟨w.heap.size + 1 + 1, q2, none⟩ = some (.int .u32 x2) ∧ w'.cell? ⟨w.heap.size + 1 + 1, q3, none⟩ = some (.int .u32 x3) ∧ w'.cell? ⟨w.heap.size + 1 + 1, q4, none⟩ = some (.int .u32 x4)) (go_keep) ((go_at_call 84; refine (rot1 n _ hnb).mono ?_; rintro e w1 ⟨rfl, rfl⟩))
          go_wp2
          go_roundg (64 - (j + 1))
          case measure => have := HQ.out; omega
          case rel =>
            refine ⟨j + 1, by have := HQ.out; omega, rfl, by have := HQ.out; go_num, hid ?_, hid ?_, (HB.out.setCell (by simp <;> omega) _).drew⟩
            · rw [heap_drew, heap_setCell_same wr _ _ _ _ _ H1.out, spAt, ← HV.out, ← HQ.out, ← HN.out, row_set]
            · rw [heap_drew, heap_setCell_other wr _ _ _ (by simp)]; exact H0.out
        · obtain rfl : q = 80 := by omega
          have hj64 : j = 64 := by have := HQ.out; omega
          subst hj64
          have T1 : Hid (wr.there (w.heap.size + 1) 0 (row .u32 v).toArray.size) := hid (by rw [row_size, hvl]; exact there_row H0.out (by simp [z80]))
          have T2 : Hid ((Tryz.prog.info? 104).map (·.size) = some (row .u32 v).toArray.size) := hid (by rw [row_size, hvl]; exact Tryz.size104)
          have T3 : Hid ((row .u32 v).toArray.all (·.oneCell') = true) := all_oneCell_toArray (row_one _ _)
          have HVS : Hid (v = spread zs) := HV.out
          go_wp2_with (first | refine wpList_load_mid rfl 104 _ rfl (w.heap.size + 1 + 1) 0 rfl (row .u32 v) _ (range_row H1.out) Tryz.underlying104 rfl (hi47 _ hvl) ?_ | refine wpList_store_mid rfl 104 _ _ rfl (w.heap.size + 1) 0 (row .u32 v).toArray rfl rfl T1.out T2.out T3.out ?_)
          · rw [← HVS.out]
            refine bodyPost_ret (v := .agg (row .u32 v).toArray) (results_mid Tryz.results82 _ _ (w.heap.size + 1) _ _ rfl (World.rangeAt_setCells_same wr (w.heap.size + 1) 0 _ ?_) Tryz.underlying104 rfl (hi47 _ hvl)) rfl ⟨rfl, below_setCells (by omega) _ _ _ _ HB.out⟩
            rw [row_len, hvl]; exact there_row H0.out (by simp [z80])
end Go.Proofs.YtikmbjfambjmaaaGreatDoor
namespace Go.Proofs.YtikmbjfambjmaaaGreatDoor
open Go.RowKit
set_option linter.unusedVariables false
structure S5 where
  a : Int
  b : Int
  c : Int
  d : Int
  e : Int
def S5.ok (s : S5) : Prop := U s.a ∧ U s.b ∧ U s.c ∧ U s.d ∧ U s.e
def S5.l (s : S5) : List Int := [s.a, s.b, s.c, s.d, s.e]
def fi (i : Nat) (b c d : Int) : Int := if i < 20 then ch b c d else if i < 40 then par b c d else if i < 60 then maj b c d else par b c d
def ki (i : Nat) : Int := if i < 20 then 1518500249 else if i < 40 then 1859775393 else if i < 60 then 2400959708 else 3395469782
def rd (W : List Int) (i : Nat) (s : S5) : S5 := ⟨(turn5 s.a + fi i s.b s.c s.d + s.e + ki i + W.getD i 0) % 4294967296, s.a, turn30 s.b, s.c, s.d⟩
def rds (W : List Int) (s : S5) : Nat → S5
  | 0 => s
  | n + 1 => rd W n (rds W s n)
theorem rds_ok (W : List Int) (s : S5) (h : s.ok) : ∀ n, (rds W s n).ok
  | 0 => h
  | n + 1 => by
    obtain ⟨h1, h2, h3, h4, h5⟩ := rds_ok W s h n
    exact ⟨⟨by simp only [rds, rd]; omega, by simp only [rds, rd]; omega⟩, h1, turn30_bd _, h3, h4⟩
theorem fi_bd (i : Nat) (b c d : Int) : U (fi i b c d) := by
  unfold fi
  split
  · exact ch_bd _ _ _
  · split
    · exact par_bd _ _ _
    · split
      · exact maj_bd _ _ _
      · exact par_bd _ _ _
def plus (s t : S5) : S5 := ⟨(s.a + t.a) % 4294967296, (s.b + t.b) % 4294967296, (s.c + t.c) % 4294967296, (s.d + t.d) % 4294967296, (s.e + t.e) % 4294967296⟩
def comp (s : S5) (zs : List Int) : S5 := plus s (rds (spread zs) s 80)
theorem plus_ok (s t : S5) : (plus s t).ok := by
  refine ⟨⟨?_, ?_⟩, ⟨?_, ?_⟩, ⟨?_, ?_⟩, ⟨?_, ?_⟩, ?_, ?_⟩ <;> simp only [plus] <;> omega
theorem comp_ok (s : S5) (zs : List Int) : (comp s zs).ok := plus_ok _ _
theorem there_cells {w : World} {g n : Nat} {cs : Array Value} {t : TypeId} (h : w.heap[g]? = some (.cells cs t (0, 0))) (hn : cs.size = n) : w.there g 0 n := fun j hj => by
  rw [Nat.zero_add]
  refine ⟨?_, frozen_of_row w g j _ t h⟩
  rw [cell_of_row w g j _ t _ h]
  simp [hn, hj]
def kindsV : Array Value := #[.func (.func 97) #[] #[], .int .u32 1518500249, .func (.func 98) #[] #[], .int .u32 1859775393, .func (.func 99) #[] #[], .int .u32 2400959708, .func (.func 98) #[] #[], .int .u32 3395469782]
set_option maxRecDepth 20000 in
set_option maxHeartbeats 1000000 in
theorem kinds_any (w : World) : Calls Tryz.prog 83 #[] w fun e w' => e = .returned (.agg kindsV) ∧ Below w.heap.size w w' := by
  have H0 : Hid ((w.alloc (.cells #[.nilFunc, .int .u32 0, .nilFunc, .int .u32 0, .nilFunc, .int .u32 0, .nilFunc, .int .u32 0] 177)).there w.heap.size 0 8) := there_cells (heap_alloc_new w _) rfl
  have HB : Hid (Below w.heap.size w (w.alloc (.cells #[.nilFunc, .int .u32 0, .nilFunc, .int .u32 0, .nilFunc, .int .u32 0, .nilFunc, .int .u32 0] 177))) := (Below.refl _ w).alloc (Nat.le_refl _) _
  go_enter Tryz.func83, Tryz.ntmps83
  go_wp2_with (refine wpList_store_mid rfl 177 _ _ rfl w.heap.size 0 kindsV rfl rfl H0.out Tryz.size177 (by kernel_rfl) ?_)
  exact bodyPost_ret (v := .agg kindsV) (results_mid Tryz.results83 _ _ w.heap.size kindsV.toList _ rfl (World.rangeAt_setCells_same _ w.heap.size 0 _ H0.out) Tryz.underlying177 rfl Tryz.size177) rfl ⟨rfl, below_setCells (Nat.le_refl _) _ _ _ _ HB.out⟩
theorem kind0 (w : World) : (Instr.index 177 (.agg kindsV) (.int .i64 (0 : Nat))).run Tryz.prog w = .ok (.agg #[.func (.func 97) #[] #[], .int .u32 1518500249]) w := by kernel_rfl
theorem kind1 (w : World) : (Instr.index 177 (.agg kindsV) (.int .i64 (1 : Nat))).run Tryz.prog w = .ok (.agg #[.func (.func 98) #[] #[], .int .u32 1859775393]) w := by kernel_rfl
theorem kind2 (w : World) : (Instr.index 177 (.agg kindsV) (.int .i64 (2 : Nat))).run Tryz.prog w = .ok (.agg #[.func (.func 99) #[] #[], .int .u32 2400959708]) w := by kernel_rfl
theorem kind3 (w : World) : (Instr.index 177 (.agg kindsV) (.int .i64 (3 : Nat))).run Tryz.prog w = .ok (.agg #[.func (.func 98) #[] #[], .int .u32 3395469782]) w := by kernel_rfl
theorem addr_add (b off j : Nat) : (⟨b, off, none⟩ : Addr).add j = ⟨b, off + j, none⟩ := by unfold Addr.add; split <;> simp_all
theorem size37r (w : World) : (sizeOf (Tryz.prog.elem 104)).run Tryz.prog w = .ok 1 w := by kernel_rfl
theorem size5r (w : World) : (sizeOf (Tryz.prog.elem 154)).run Tryz.prog w = .ok 1 w := by kernel_rfl
theorem len47 : Tryz.prog.arrayLen 104 = 80 := by kernel_rfl
theorem len41 : Tryz.prog.arrayLen 154 = 64 := by kernel_rfl
theorem und47 : Tryz.prog.underlying 104 = some (.array (Tryz.prog.arrayLen 104) (Tryz.prog.elem 104)) := by kernel_rfl
theorem und41 : Tryz.prog.underlying 154 = some (.array (Tryz.prog.arrayLen 154) (Tryz.prog.elem 154)) := by kernel_rfl
theorem slice47 (g m : Nat) (w : World) (h : m ≤ 60) : (Instr.sliceAt 104 (.pointer (some ⟨g, 0, none⟩)) (some (.int .i64 m)) (some (.int .i64 ((m : Int) + 20))) none).run Tryz.prog w = .ok (.slice (some ⟨g, m, none⟩) 20 (80 - m : Nat)) w := by
  rw [run_sliceAt_array_lh w 104 _ und47 .i64 .i64 m (m + 20) (by omega) (by omega) (by rw [len47]; omega), size37r, len47]
  simp only [Result.andThen_ok, slicedAt]
  rw [if_neg (by omega), addr_add, show ((m : Int) + 20).toNat - (m : Int).toNat = 20 from by omega]
  simp
theorem slice41 (g o m : Nat) (w : World) (h : m < 64) : (Instr.sliceAt 154 (.pointer (some ⟨g, o, none⟩)) (some (.int .u64 m)) none none).run Tryz.prog w = .ok (.slice (some ⟨g, o + m, none⟩) (64 - m : Nat) (64 - m : Nat)) w := by
  rw [run_sliceAt_array_l w 154 _ und41 .u64 m (by omega) (by rw [len41]; omega), size5r, len41]
  simp only [Result.andThen_ok, slicedAt]
  rw [if_neg (by omega), addr_add]
  simp
theorem ki_same (j n : Nat) (h : n < 20) : ki (20 * j + n) = ki (20 * j) := by
  unfold ki
  repeat' split
  all_goals first | rfl | omega
theorem ki_bd (i : Nat) : U (ki i) := by
  unfold ki U
  split
  · omega
  · split
    · omega
    · split <;> omega
end Go.Proofs.YtikmbjfambjmaaaGreatDoor
namespace Go.Proofs.YtikmbjfambjmaaaGreatDoor
open Go.RowKit
theorem below_drewH {B : Nat} {w0 w : World} (h : Below B w0 w) (n : Nat) : Below B w0 (w.drewN n) := h.trans ⟨rfl, rfl, rfl, Nat.le_refl _, fun _ _ => rfl⟩
end Go.Proofs.YtikmbjfambjmaaaGreatDoor
namespace Go.Proofs.YtikmbjfambjmaaaGreatDoor
open Go.RowKit
set_option linter.unusedVariables false
set_option linter.unusedSimpArgs false
theorem join_two (x y : List UInt8) : Lib.join [x, y] [32] = x ++ 32 :: y := by simp [Lib.join, List.intercalate]
theorem kN_len (k : Int) : (kN k).data.toList.length ≤ 6 := by
  rw [kN_list]
  split
  · decide
  · split
    · decide
    · split
      · decide
      · split <;> decide
theorem dig_len : ∀ (n m : Nat), m < 10 ^ (n + 1) → (Lib.decDigits m).length ≤ n + 1
  | 0, m, h => by rw [Lib.decDigits, dif_pos (by simpa using h)]; simp
  | n + 1, m, h => by
    rw [Lib.decDigits]
    split
    · simp
    · have := dig_len n (m / 10) (by rw [Nat.pow_succ] at h; omega)
      simp
      omega
theorem h0_len (k : Int) (n : Nat) (hn : n ≤ 400000) : (h0 k n).length ≤ 13 := by
  have h1 := kN_len k
  have h2 := dig_len 5 n (by omega)
  unfold h0
  simp only [List.length_append, List.length_cons]
  omega
theorem str_app (x y : List UInt8) : (⟨x.toArray⟩ : ByteArray) ++ ⟨y.toArray⟩ = ⟨(x ++ y).toArray⟩ := by
  rw [ByteArray.mk_append_mk]
set_option maxRecDepth 20000 in
set_option maxHeartbeats 1000000 in
theorem header_any (k : Int) (a : Option Addr) (n cap : Nat) (hn : n ≤ 400000) (w : World) (ht : Tab w) :
    Calls Tryz.prog 45 #[.agg #[.int .i64 k, .slice a n cap]] w fun e w' => e = .returned (.string ⟨(hd k n).toArray⟩) ∧ Below w.heap.size w w' := by
  obtain ⟨w0, HW0⟩ : ∃ w0, Hid (w.alloc (.cells #[.int .i64 k, .slice a n cap] 28) = w0) := ⟨_, rfl⟩
  obtain ⟨g, HG⟩ : ∃ g, Hid (w.heap.size = g) := ⟨_, rfl⟩
  have HB0 : Hid (Below g w w0) := by rw [← HW0.out, ← HG.out]; exact (Below.refl _ w).alloc (Nat.le_refl _) _
  have hg0 : g < w0.heap.size := by rw [← HW0.out, ← HG.out]; simp
  have hc0 : w0.cell? ⟨g, 0, none⟩ = some (.int .i64 k) := by rw [← HW0.out, ← HG.out]; simp
  have hc1 : w0.cell? ⟨g, 1, none⟩ = some (.slice a n cap) := by rw [← HW0.out, ← HG.out]; simp
  have HT0 : Hid (Tab w0) := ht.below (by rw [HG.out]; exact HB0.out)
  have HI : Hid (∀ j, Calls Tryz.prog 64 #[.int .i64 n] (w0.drewN j) fun e w' => e = .returned (.string ⟨(Lib.decDigits n).toArray⟩) ∧ Below w0.heap.size w0 w') := fun j => by
    refine (itoa_any n hn (w0.drewN j) (HT0.out.below (below_drewH (Below.refl _ _) _))).mono ?_
    rintro e w' ⟨rfl, hb⟩
    exact ⟨rfl, (below_drewH (Below.refl _ _) j).trans hb⟩
  have HWd : Hid (∀ (w1 : World), Calls Tryz.prog 56 #[.slice (some ⟨w1.heap.size, 0, none⟩) 2 2] (w1.alloc (.cells #[.string (kN k), .string ⟨(Lib.decDigits n).toArray⟩] 9)) fun e w' => e = .returned (.string ⟨(h0 k n).toArray⟩) ∧ Below w1.heap.size w1 w') := fun w1 => by
    have hj : (Lib.join ([kN k, ⟨(Lib.decDigits n).toArray⟩].map (·.data.toList)) [32]) = h0 k n := by
      simp only [List.map_cons, List.map_nil, join_two]; rfl
    refine (words_any w1.heap.size 0 2 [kN k, ⟨(Lib.decDigits n).toArray⟩] _ ?_ ?_ (by simp) (by simp) (by rw [hj]; have := h0_len k n hn; omega)).mono ?_
    · intro i x hx
      rcases i with _ | _ | i
      · simp at hx; subst hx; simp
      · simp at hx; subst hx; simp
      · simp at hx
    · simp
    · rintro e w' ⟨rfl, hb⟩
      rw [hj]
      refine ⟨rfl, Below.trans ((Below.refl _ w1).alloc (Nat.le_refl _) _) (hb.mono ?_)⟩
      simp
  obtain ⟨S, HS⟩ : ∃ S : ByteArray, Hid (S = ⟨(h0 k n).toArray⟩) := ⟨_, rfl⟩
  have hS : S.size ≤ 13 := by rw [HS.out]; simpa [ByteArray.size] using h0_len k n hn
  have hS1 : ¬ 9223372036854775807 < S.size + 1 := by omega
  have hS2 : ¬ 9223372036854775807 ≤ S.size := by omega
  have HE : Hid (S ++ ⟨#[0]⟩ = ⟨(hd k n).toArray⟩) := by
    rw [HS.out, show (⟨#[0]⟩ : ByteArray) = ⟨[0].toArray⟩ from rfl]
    exact str_app _ _
  rw [← HS.out] at HWd
  obtain ⟨Dg, HDg⟩ : ∃ D : ByteArray, Hid (D = ⟨(Lib.decDigits n).toArray⟩) := ⟨_, rfl⟩
  obtain ⟨Kn, HKn⟩ : ∃ D : ByteArray, Hid (D = kN k) := ⟨_, rfl⟩
  have HK : Hid (∀ w, Calls Tryz.prog 63 #[.int .i64 k] w fun e w' => e = .returned (.string (kN k)) ∧ w' = w) := fun w => kindName_any k w
  rw [← HDg.out] at HI HWd
  rw [← HKn.out] at HWd HK
  go_enter Tryz.func45, Tryz.ntmps45
  rw [HG.out]
  go_wp2_with fail
  rw [HW0.out, HG.out]
  clear ht
  go_region_with (first
    | (go_at_call 63; refine (HK.out _).mono ?_; rintro ev wk ⟨rfl, rfl⟩)
    | (go_at_call 64; refine (HI.out _).mono ?_; rintro ev w1 ⟨rfl, hb1⟩; have HB1 : Hid (Below w0.heap.size w0 w1) := hb1; clear hb1 HI)
    | (go_at_call 56; refine (HWd.out _).mono ?_; rintro ev w2 ⟨rfl, hb2⟩; have HB2 : Hid (Below w1.heap.size w1 w2) := hb2; clear hb2 HWd))
  all_goals
    go_wp2
    go_ret
    exact ⟨(show _ = Ending.returned (.string (S ++ ⟨#[0]⟩)) from rfl).trans (by rw [HE.out]), HB0.out.trans ((HB1.out.mono (Nat.le_of_lt hg0)).trans (HB2.out.mono (Nat.le_trans (Nat.le_of_lt hg0) HB1.out.size)))⟩
end Go.Proofs.YtikmbjfambjmaaaGreatDoor
