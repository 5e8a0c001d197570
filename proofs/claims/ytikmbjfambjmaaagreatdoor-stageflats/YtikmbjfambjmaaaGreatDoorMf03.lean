import Derived.Shelf.LaysM
import Derived.Shelf.LaysC
import Derived.Shelf.Strconv.Itoa3
import Derived.Shelf.Strconv.Itoa4
import Derived.Shelf.Strings.Search3
import Derived.Shelf.Strings.SlTrimAscii
import Derived.Shelf.Strings.IndexAnyAll
import Derived.Shelf.Strings.Prefix
import Derived.Shelf.Bytes.SlEqualAll
import Derived.Shelf.Strconv.ErrVarParseInt
import Derived.Shelf.Strconv.ErrVarAll
import Derived.Test.YtikmbjfambjmaaaGreatDoorProg
import Derived.Shelf.Small.Utf8
import Derived.Shelf.Small.Strs
import Derived.Test.YtikmbjfambjmaaaGreatDoorMf01
import Derived.Deep.RegionHeld
import Derived.OrdersHeld
import Derived.Laws.RangeAny
import Derived.Laws.Runes
import Derived.WalkMore
import Derived.Lib.SlBytesRow
import Derived.Lib.OthersKept
import Derived.Lib.TrimUEq
import Derived.Lib.SpaceUEq
import Derived.Lib.QuoteLoop
namespace Go.Proofs
open Go.Shelf
def Tryz.lays153_ren : Go.Shelf.Ren := ⟨fun | 153 => 96 | 152 => 126 | 226 => 127 | 227 => 128 | 228 => 129 | 137 => 147 | 119 => 148 | 224 => 102 | 225 => 101 | 217 => 100 | 266 => 130 | n => n, fun | 9 => 9 | 3 => 3 | 4 => 4 | 5 => 5 | 21 => 21 | 117 => 219 | 116 => 218 | 0 => 0 | 46 => 129 | 124 => 241 | n => n, fun | n => n⟩
theorem Tryz.lays153 : Go.Proofs.Lays.n153 Tryz.prog Tryz.lays153_ren := {
  mixed := by kernel_rfl
  f119 := Tryz.func148.trans (congrArg some (by kernel_rfl))
  f137 := Tryz.func147.trans (congrArg some (by kernel_rfl))
  f152 := Tryz.func126.trans (congrArg some (by kernel_rfl))
  f153 := Tryz.func96.trans (congrArg some (by kernel_rfl))
  f217 := Tryz.func100.trans (congrArg some (by kernel_rfl))
  f224 := Tryz.func102.trans (congrArg some (by kernel_rfl))
  f225 := Tryz.func101.trans (congrArg some (by kernel_rfl))
  f226 := Tryz.func127.trans (congrArg some (by kernel_rfl))
  f227 := Tryz.func128.trans (congrArg some (by kernel_rfl))
  f228 := Tryz.func129.trans (congrArg some (by kernel_rfl))
  f266 := Tryz.func130.trans (congrArg some (by kernel_rfl))
  t0 := Tryz.underlying0
  a0 := Tryz.isAgg0
  z0 := Tryz.sizeOf0
  v0 := Tryz.zeroValue0
  t3 := Tryz.underlying3
  a3 := Tryz.isAgg3
  z3 := Tryz.sizeOf3
  v3 := Tryz.zeroValue3
  t4 := Tryz.underlying4
  a4 := Tryz.isAgg4
  z4 := Tryz.sizeOf4
  v4 := Tryz.zeroValue4
  t5 := Tryz.underlying5
  a5 := Tryz.isAgg5
  z5 := Tryz.sizeOf5
  v5 := Tryz.zeroValue5
  t9 := Tryz.underlying9
  a9 := Tryz.isAgg9
  z9 := Tryz.sizeOf9
  v9 := Tryz.zeroValue9
  t21 := Tryz.underlying21
  a21 := Tryz.isAgg21
  z21 := Tryz.sizeOf21
  v21 := Tryz.zeroValue21
  t46 := Tryz.underlying129
  a46 := Tryz.isAgg129
  z46 := Tryz.sizeOf129
  v46 := Tryz.zeroValue129
  t116 := Tryz.underlying218
  a116 := Tryz.isAgg218
  z116 := Tryz.sizeOf218
  t117 := Tryz.underlying219
  a117 := Tryz.isAgg219
  z117 := Tryz.sizeOf219
  v117 := Tryz.zeroValue219
  t124 := Tryz.underlying241
  a124 := Tryz.isAgg241
  z124 := Tryz.sizeOf241
  v124 := Tryz.zeroValue241 }
def Tryz.lays152_ren : Go.Shelf.Ren := ⟨fun | 152 => 126 | 137 => 147 | 119 => 148 | 224 => 102 | 225 => 101 | 217 => 100 | 266 => 130 | n => n, fun | 9 => 9 | 21 => 21 | 3 => 3 | 4 => 4 | 5 => 5 | 0 => 0 | 46 => 129 | n => n, fun | n => n⟩
theorem Tryz.lays152 : Go.Proofs.Lays.n152 Tryz.prog Tryz.lays152_ren := {
  mixed := by kernel_rfl
  f119 := Tryz.func148.trans (congrArg some (by kernel_rfl))
  f137 := Tryz.func147.trans (congrArg some (by kernel_rfl))
  f152 := Tryz.func126.trans (congrArg some (by kernel_rfl))
  f217 := Tryz.func100.trans (congrArg some (by kernel_rfl))
  f224 := Tryz.func102.trans (congrArg some (by kernel_rfl))
  f225 := Tryz.func101.trans (congrArg some (by kernel_rfl))
  f266 := Tryz.func130.trans (congrArg some (by kernel_rfl))
  t0 := Tryz.underlying0
  a0 := Tryz.isAgg0
  z0 := Tryz.sizeOf0
  v0 := Tryz.zeroValue0
  t3 := Tryz.underlying3
  a3 := Tryz.isAgg3
  z3 := Tryz.sizeOf3
  v3 := Tryz.zeroValue3
  t4 := Tryz.underlying4
  a4 := Tryz.isAgg4
  z4 := Tryz.sizeOf4
  v4 := Tryz.zeroValue4
  t5 := Tryz.underlying5
  a5 := Tryz.isAgg5
  z5 := Tryz.sizeOf5
  v5 := Tryz.zeroValue5
  t9 := Tryz.underlying9
  a9 := Tryz.isAgg9
  z9 := Tryz.sizeOf9
  v9 := Tryz.zeroValue9
  t21 := Tryz.underlying21
  a21 := Tryz.isAgg21
  z21 := Tryz.sizeOf21
  v21 := Tryz.zeroValue21
  t46 := Tryz.underlying129
  a46 := Tryz.isAgg129
  z46 := Tryz.sizeOf129
  v46 := Tryz.zeroValue129 }
def Tryz.laysb115_ren : Go.Shelf.Ren := ⟨fun | 115 => 49 | n => n, fun | 37 => 26 | 4 => 4 | 9 => 9 | 5 => 5 | n => n, fun | n => n⟩
theorem Tryz.laysb115 : Go.Proofs.Lays.nb115 Tryz.prog Tryz.laysb115_ren := {
  mixed := by kernel_rfl
  f115 := Tryz.func49.trans (congrArg some (by kernel_rfl))
  t4 := Tryz.underlying4
  a4 := Tryz.isAgg4
  z4 := Tryz.sizeOf4
  v4 := Tryz.zeroValue4
  t9 := Tryz.underlying9
  a9 := Tryz.isAgg9
  z9 := Tryz.sizeOf9
  v9 := Tryz.zeroValue9
  t37 := Tryz.underlying26
  a37 := Tryz.isAgg26
  z37 := Tryz.sizeOf26
  v37 := Tryz.zeroValue26
  t5 := Tryz.underlying5
  a5 := Tryz.isAgg5
  z5 := Tryz.sizeOf5
  v5 := Tryz.zeroValue5 }
def Tryz.laysC174_ren : Go.Shelf.Ren := ⟨fun | 174 => 68 | 247 => 86 | 245 => 87 | 287 => 104 | 279 => 105 | 280 => 106 | 281 => 107 | 282 => 108 | 321 => 132 | 322 => 133 | 316 => 134 | 171 => 64 | 205 => 135 | 243 => 81 | 246 => 95 | 283 => 122 | 284 => 123 | 285 => 124 | 286 => 125 | 129 => 118 | 317 => 143 | 318 => 144 | 319 => 145 | 320 => 146 | 337 => 150 | 338 => 151 | n => n, fun | 9 => 9 | 3 => 3 | 2 => 2 | 75 => 38 | 85 => 159 | 4 => 4 | 167 => 194 | 5 => 5 | 53 => 68 | 175 => 195 | 46 => 129 | 168 => 197 | 37 => 26 | 0 => 0 | 210 => 227 | 21 => 21 | 127 => 210 | 145 => 244 | 143 => 242 | 171 => 211 | 173 => 213 | 212 => 238 | 51 => 69 | 20 => 20 | 213 => 239 | 232 => 248 | 233 => 154 | 80 => 191 | n => n, fun | 15 => 2 | 16 => 3 | 17 => 4 | 18 => 5 | 19 => 6 | n => n⟩
theorem Tryz.laysC174 : Go.Proofs.LaysC.n174 Tryz.prog Tryz.laysC174_ren := {
  mixed := by kernel_rfl
  f129 := Tryz.func118.trans (congrArg some (by kernel_rfl))
  f171 := Tryz.func64.trans (congrArg some (by kernel_rfl))
  f174 := Tryz.func68.trans (congrArg some (by kernel_rfl))
  f205 := Tryz.func135.trans (congrArg some (by kernel_rfl))
  f243 := Tryz.func81.trans (congrArg some (by kernel_rfl))
  f245 := Tryz.func87.trans (congrArg some (by kernel_rfl))
  f246 := Tryz.func95.trans (congrArg some (by kernel_rfl))
  f247 := Tryz.func86.trans (congrArg some (by kernel_rfl))
  f279 := Tryz.func105.trans (congrArg some (by kernel_rfl))
  f280 := Tryz.func106.trans (congrArg some (by kernel_rfl))
  f281 := Tryz.func107.trans (congrArg some (by kernel_rfl))
  f282 := Tryz.func108.trans (congrArg some (by kernel_rfl))
  f283 := Tryz.func122.trans (congrArg some (by kernel_rfl))
  f284 := Tryz.func123.trans (congrArg some (by kernel_rfl))
  f285 := Tryz.func124.trans (congrArg some (by kernel_rfl))
  f286 := Tryz.func125.trans (congrArg some (by kernel_rfl))
  f287 := Tryz.func104.trans (congrArg some (by kernel_rfl))
  f316 := Tryz.func134.trans (congrArg some (by kernel_rfl))
  f317 := Tryz.func143.trans (congrArg some (by kernel_rfl))
  f318 := Tryz.func144.trans (congrArg some (by kernel_rfl))
  f319 := Tryz.func145.trans (congrArg some (by kernel_rfl))
  f320 := Tryz.func146.trans (congrArg some (by kernel_rfl))
  f321 := Tryz.func132.trans (congrArg some (by kernel_rfl))
  f322 := Tryz.func133.trans (congrArg some (by kernel_rfl))
  f337 := Tryz.func150.trans (congrArg some (by kernel_rfl))
  f338 := Tryz.func151.trans (congrArg some (by kernel_rfl))
  t0 := Tryz.underlying0
  a0 := Tryz.isAgg0
  z0 := Tryz.sizeOf0
  v0 := Tryz.zeroValue0
  t2 := Tryz.underlying2
  a2 := Tryz.isAgg2
  z2 := Tryz.sizeOf2
  v2 := Tryz.zeroValue2
  t3 := Tryz.underlying3
  a3 := Tryz.isAgg3
  z3 := Tryz.sizeOf3
  v3 := Tryz.zeroValue3
  t4 := Tryz.underlying4
  a4 := Tryz.isAgg4
  z4 := Tryz.sizeOf4
  v4 := Tryz.zeroValue4
  t5 := Tryz.underlying5
  a5 := Tryz.isAgg5
  z5 := Tryz.sizeOf5
  v5 := Tryz.zeroValue5
  t9 := Tryz.underlying9
  a9 := Tryz.isAgg9
  z9 := Tryz.sizeOf9
  v9 := Tryz.zeroValue9
  t20 := Tryz.underlying20
  a20 := Tryz.isAgg20
  z20 := Tryz.sizeOf20
  v20 := Tryz.zeroValue20
  t21 := Tryz.underlying21
  a21 := Tryz.isAgg21
  z21 := Tryz.sizeOf21
  v21 := Tryz.zeroValue21
  t37 := Tryz.underlying26
  a37 := Tryz.isAgg26
  z37 := Tryz.sizeOf26
  v37 := Tryz.zeroValue26
  t46 := Tryz.underlying129
  a46 := Tryz.isAgg129
  z46 := Tryz.sizeOf129
  v46 := Tryz.zeroValue129
  t51 := Tryz.underlying69
  a51 := Tryz.isAgg69
  z51 := Tryz.sizeOf69
  v51 := Tryz.zeroValue69
  t53 := Tryz.underlying68
  a53 := Tryz.isAgg68
  z53 := Tryz.sizeOf68
  v53 := Tryz.zeroValue68
  t75 := Tryz.underlying38
  a75 := Tryz.isAgg38
  z75 := Tryz.sizeOf38
  v75 := Tryz.zeroValue38
  t85 := Tryz.underlying159
  a85 := Tryz.isAgg159
  z85 := Tryz.sizeOf159
  v85 := Tryz.zeroValue159
  t127 := Tryz.underlying210
  a127 := Tryz.isAgg210
  z127 := Tryz.sizeOf210
  v127 := Tryz.zeroValue210
  t143 := Tryz.underlying242
  a143 := Tryz.isAgg242
  z143 := Tryz.sizeOf242
  v143 := Tryz.zeroValue242
  t145 := Tryz.underlying244
  a145 := Tryz.isAgg244
  z145 := Tryz.sizeOf244
  v145 := Tryz.zeroValue244
  t167 := Tryz.underlying194
  a167 := Tryz.isAgg194
  z167 := Tryz.sizeOf194
  v167 := Tryz.zeroValue194
  t168 := Tryz.underlying197
  a168 := Tryz.isAgg197
  z168 := Tryz.sizeOf197
  v168 := Tryz.zeroValue197
  t171 := Tryz.underlying211
  a171 := Tryz.isAgg211
  z171 := Tryz.sizeOf211
  v171 := Tryz.zeroValue211
  t173 := Tryz.underlying213
  a173 := Tryz.isAgg213
  z173 := Tryz.sizeOf213
  v173 := Tryz.zeroValue213
  t175 := Tryz.underlying195
  a175 := Tryz.isAgg195
  z175 := Tryz.sizeOf195
  v175 := Tryz.zeroValue195
  t210 := Tryz.underlying227
  a210 := Tryz.isAgg227
  z210 := Tryz.sizeOf227
  v210 := Tryz.zeroValue227
  t212 := Tryz.underlying238
  a212 := Tryz.isAgg238
  z212 := Tryz.sizeOf238
  v212 := Tryz.zeroValue238
  t213 := Tryz.underlying239
  a213 := Tryz.isAgg239
  z213 := Tryz.sizeOf239
  t232 := Tryz.underlying248
  a232 := Tryz.isAgg248
  z232 := Tryz.sizeOf248
  v232 := Tryz.zeroValue248
  t233 := Tryz.underlying154
  a233 := Tryz.isAgg154
  z233 := Tryz.sizeOf154
  v233 := Tryz.zeroValue154
  g15 := by kernel_rfl
  g16 := by kernel_rfl
  g17 := by kernel_rfl
  g18 := by kernel_rfl
  g19 := by kernel_rfl
  t80 := Tryz.underlying191
  a80 := Tryz.isAgg191
  z80 := Tryz.sizeOf191
  v80 := Tryz.zeroValue191
  i0 := by kernel_rfl
  i2 := by kernel_rfl
  i3 := by kernel_rfl
  i4 := by kernel_rfl
  i5 := by kernel_rfl
  i9 := by kernel_rfl
  i20 := by kernel_rfl
  i21 := by kernel_rfl
  i37 := by kernel_rfl
  i46 := by kernel_rfl
  i51 := by kernel_rfl
  i53 := by kernel_rfl
  i75 := by kernel_rfl
  i80 := by kernel_rfl
  i85 := by kernel_rfl
  i127 := by kernel_rfl
  i143 := by kernel_rfl
  i145 := by kernel_rfl
  i167 := by kernel_rfl
  i168 := by kernel_rfl
  i171 := by kernel_rfl
  i173 := by kernel_rfl
  i175 := by kernel_rfl
  i210 := by kernel_rfl
  i212 := by kernel_rfl
  i232 := by kernel_rfl
  i233 := by kernel_rfl
  m15 := by kernel_rfl
  m16 := by kernel_rfl
  m17 := by kernel_rfl
  m18 := by kernel_rfl
  m19 := by kernel_rfl
  c0 := by kernel_rfl
  c2 := by kernel_rfl
  c3 := by kernel_rfl
  c4 := by kernel_rfl
  c5 := by kernel_rfl
  c9 := by kernel_rfl
  c20 := by kernel_rfl
  c21 := by kernel_rfl
  c37 := by kernel_rfl
  c46 := by kernel_rfl
  c51 := by kernel_rfl
  c53 := by kernel_rfl
  c75 := by kernel_rfl
  c80 := by kernel_rfl
  c85 := by kernel_rfl
  c127 := by kernel_rfl
  c143 := by kernel_rfl
  c145 := by kernel_rfl
  c167 := by kernel_rfl
  c168 := by kernel_rfl
  c171 := by kernel_rfl
  c173 := by kernel_rfl
  c175 := by kernel_rfl
  c210 := by kernel_rfl
  c212 := by kernel_rfl
  c213 := by kernel_rfl
  c232 := by kernel_rfl
  c233 := by kernel_rfl }
end Go.Proofs
namespace Go.Proofs
open Go.Shelf
def Tryz.lays119_ren : Go.Shelf.Ren := ⟨fun | 119 => 148 | n => n, fun | 21 => 21 | 4 => 4 | n => n, fun | n => n⟩
theorem Tryz.lays119 : Go.Proofs.Lays.n119 Tryz.prog Tryz.lays119_ren := {
  mixed := by kernel_rfl
  f119 := Tryz.func148.trans (congrArg some (by kernel_rfl))
  t4 := Tryz.underlying4
  a4 := Tryz.isAgg4
  z4 := Tryz.sizeOf4
  v4 := Tryz.zeroValue4
  t21 := Tryz.underlying21
  a21 := Tryz.isAgg21
  z21 := Tryz.sizeOf21
  v21 := Tryz.zeroValue21 }
def Tryz.lays137_ren : Go.Shelf.Ren := ⟨fun | 137 => 147 | 217 => 100 | 266 => 130 | n => n, fun | 9 => 9 | 5 => 5 | 3 => 3 | n => n, fun | n => n⟩
theorem Tryz.lays137 : Go.Proofs.Lays.n137 Tryz.prog Tryz.lays137_ren := {
  mixed := by kernel_rfl
  f137 := Tryz.func147.trans (congrArg some (by kernel_rfl))
  f217 := Tryz.func100.trans (congrArg some (by kernel_rfl))
  f266 := Tryz.func130.trans (congrArg some (by kernel_rfl))
  t3 := Tryz.underlying3
  a3 := Tryz.isAgg3
  z3 := Tryz.sizeOf3
  v3 := Tryz.zeroValue3
  t5 := Tryz.underlying5
  a5 := Tryz.isAgg5
  z5 := Tryz.sizeOf5
  v5 := Tryz.zeroValue5
  t9 := Tryz.underlying9
  a9 := Tryz.isAgg9
  z9 := Tryz.sizeOf9
  v9 := Tryz.zeroValue9 }
end Go.Proofs
namespace Go.Proofs.YtikmbjfambjmaaaGreatDoor
open Go.RowKit
set_option linter.unusedVariables false
set_option linter.unusedSimpArgs false
theorem step_callv {P : Program} {ops : Array Oper} {o : Oper} {a : Act} {w : World} {K : Act → World → Prop} {Q : Exit → Act → World → Prop} {E : Prop} (hg : o.guard = none) (f : FuncId) (args : List Operand) (ts : Array TypeId) (vs : List Value) (R : Ending → World → Prop)
    (ho : o.op = .call { callee := .value (.func f), args := args.toArray, argTypes := ts }) (hx : args.map a.eval = vs) (hent : ∀ w : World, (callFunc f vs.toArray).run P w = .ok (.enter f vs.toArray) w)
    (hc : Calls P f vs.toArray w R) (h : ∀ e w', R e w' → ∃ r, e = .returned r ∧ K (a.put o.dst r) w') :
    if Region.wanted o (yielded ops a.tmps) = true then Oper.wp P o a w K Q else E := by
  have hw : Region.wanted o (yielded ops a.tmps) = true := by simp [Region.wanted, hg]
  rw [if_pos hw]
  unfold Oper.wp
  simp only [execOp, ho, resolve, invoke, go_sem, List.map_toArray, hx, hent]
  simp [go_sem, hent, Oper.upon_enter]
  refine hc.mono ?_
  intro e w' hr
  obtain ⟨r, rfl, hk⟩ := h e w' hr
  exact hk
theorem step_exec {P : Program} {ops : Array Oper} {o : Oper} {a : Act} {w w' : World} {K : Act → World → Prop} {Q : Exit → Act → World → Prop} {E : Prop} (hg : o.guard = none) (v : Value) (hr : (execOp a.eval o).run P w = .ok (.value v) w') (h : K (a.put o.dst v) w') :
    if Region.wanted o (yielded ops a.tmps) = true then Oper.wp P o a w K Q else E := by
  have hw : Region.wanted o (yielded ops a.tmps) = true := by simp [Region.wanted, hg]
  rw [if_pos hw]
  unfold Oper.wp
  rw [hr]
  exact h
theorem takeL {P : Program} {md : Region.Mode} {Q : Exit → Act → World → Prop} {S : World → Prop} {l : List Oper} {i : Nat} {oi : Oper} {v : Value} {fuel : Nat} {listed : Array Bool} {a : Act} {w : World} (hi : l[i]? = some oi)
    (hs : Region.noSelect l.toArray = true) (hf : Region.free md l.toArray listed i = true) (hr : (Region.ready md l.toArray listed).contains i = true)
    (hQ : ∀ c a w, Q (.panic c) (a.put oi.dst v) w → Q (.panic c) a w) (hy : YieldsIf P l.toArray S oi v a) (hS : S w)
    (h : wpAnyH P md l.toArray Q S fuel (listed.setIfInBounds i true) (a.put oi.dst v) w) : wpAnyH P md l.toArray Q S (fuel + 1) listed a w :=
  wpAnyH_take (by rw [List.getElem?_toArray]; exact hi) hs hf hr hQ hy hS h
theorem consL {P : Program} {md : Region.Mode} {Q : Exit → Act → World → Prop} {S : World → Prop} {l : List Oper} {fuel : Nat} {listed : Array Bool} {a : Act} {w : World} {i : Nat} {o : Oper} {rs : List Nat} (ho : l[i]? = some o)
    (h : ∀ K' : Act → World → Prop, Shut (∀ a w, S w → (S w → wpAnyH P md l.toArray Q S fuel (listed.setIfInBounds i true) a w) → K' a w) → if Region.wanted o (yielded l.toArray a.tmps) = true then Oper.wp P o a w K' Q else K' (a.put o.dst undef) w)
    (hs : AllReadyH P md l.toArray Q S fuel listed a w rs) : AllReadyH P md l.toArray Q S fuel listed a w (i :: rs) := AllReadyH.cons (by rw [List.getElem?_toArray]; exact ho) h hs
end Go.Proofs.YtikmbjfambjmaaaGreatDoor
namespace Go.Proofs.YtikmbjfambjmaaaGreatDoor
open Go.RowKit
set_option linter.unusedVariables false
set_option linter.unusedSimpArgs false
theorem iter_below (w : World) (s : ByteArray) (i : Nat) : Below w.heap.size w (w.iter s i) := (Below.refl _ w).alloc (Nat.le_refl _) _
def Asc (s : ByteArray) : Prop := ∀ j (h : j < s.size), (s[j]'h).toNat < 128
set_option maxRecDepth 20000 in
set_option maxHeartbeats 1000000 in
theorem indexRune_err (s : ByteArray) (hs : Asc s) (h8 : s.size ≤ 100) (w : World) : Calls Tryz.prog 126 #[.string s, .int .i32 65533] w fun e w' => e = .returned (.int .i64 (-1)) ∧ Below w.heap.size w w' := by
  have HS : Hid (Asc s) := hs
  clear hs
  go_enter Tryz.func126, Tryz.ntmps126
  go_wp2_with fail
  go_loopg [5, 6] s.size (fun g _ _ wx => ∃ i : Nat, i + g = s.size ∧ wx = w.iter s i)
  case atStart => exact ⟨0, by omega, rfl⟩
  case round =>
    obtain ⟨i, hig, rfl⟩ := hrel
    cases gk with
    | zero =>
      obtain rfl : i = s.size := by omega
      have hnx := fun ty => run_next_end (P := Tryz.prog) w s s.size ty (Nat.lt_irrefl _)
      go_wp2
      go_ret
      exact ⟨rfl, iter_below _ _ _⟩
    | succ g =>
      have hi : i < s.size := by omega
      obtain ⟨x, hx⟩ : ∃ x : UInt8, s[i]'hi = x := ⟨_, rfl⟩
      have hx128 : x.toNat < 128 := by rw [← hx]; exact HS.out i hi
      have hnx := fun ty => run_next_ascii (P := Tryz.prog) w s i ty hi (by rw [hx]; exact hx128)
      rw [hx] at hnx
      have hne : ¬ (x.toNat : Int) = 65533 := by omega
      have hne2 : ((x.toNat : Int) == 65533) = false := by simpa using hne
      go_wp2
      go_roundg g
      case measure => omega
      case rel => exact ⟨i + 1, by omega, rfl⟩
theorem enter209 (v1 v2 : Value) (w : World) : (callFunc 147 #[v1, v2]).run Tryz.prog w = .ok (.enter 147 #[v1, v2]) w := by kernel_rfl
theorem noByte (l : List UInt8) (c : UInt8) (h : ∀ x ∈ l, x.toNat < 128) (hc : 128 ≤ c.toNat) : Lib.indexByte l c = -1 := by
  induction l with
  | nil => rfl
  | cons b l ih =>
    have hb := h b (by simp)
    have hbc : (b == c) = false := beq_eq_false_iff_ne.2 (fun e => by rw [e] at hb; omega)
    unfold Lib.indexByte
    rw [hbc, ih (fun x hx => h x (by simp [hx]))]
    rfl
set_option maxRecDepth 1000000 in
set_option maxHeartbeats 1000000 in
theorem indexRune_high (s : ByteArray) (hs : Asc s) (h8 : s.size ≤ 100) (r : Nat) (h1 : 128 ≤ r) (hv : Utf8.valid (r : Int) = true) (hne : r ≠ 65533) (w : World) : Calls Tryz.prog 126 #[.string s, .int .i32 r] w fun e w' => e = .returned (.int .i64 (-1)) ∧ Below w.heap.size w w' := by
  have HS : Hid (Asc s) := hs
  clear hs
  have a1 : ¬ (r : Int) < 128 := by omega
  have a2 : ¬ (r : Int) = 65533 := by omega
  have a3 : ((r : Int) == 65533) = false := by simpa using a2
  have hvr : Lib.validRune (r : Int) = true := by
    unfold Utf8.valid at hv
    unfold Lib.validRune
    simp at hv ⊢
    omega
  obtain ⟨e1, e2, e3⟩ := encode_facts (r : Int) hv (by omega)
  obtain ⟨S, HS2⟩ : ∃ S : ByteArray, Utf8.encode (r : Int) = S := ⟨_, rfl⟩
  have hl3 : S.size - 1 < S.size := by rw [HS2] at e1; omega
  obtain ⟨y, hy⟩ : ∃ y : UInt8, S[S.size - 1]'hl3 = y := ⟨_, rfl⟩
  have HY : Hid (128 ≤ y.toNat) := hid (by
    rw [← hy]
    have := e3 (by rw [HS2]; exact hl3)
    subst HS2
    exact this)
  rw [HS2] at e1 e2
  clear e3
  go_enter Tryz.func126, Tryz.ntmps126
  go_wp2_with (go_at_call 148; refine (Any.utf8_ValidRune Tryz.lays119 _ _).mono ?_; rintro ev w' ⟨rfl, rfl⟩; rw [hvr])
  obtain ⟨L, HL⟩ : ∃ L : Nat, Hid (S.size - 1 = L) := ⟨_, rfl⟩
  have hLi : (S.size : Int) - 1 = (L : Int) := by have := HL.out; omega
  have hL : 1 ≤ L ∧ L ≤ 3 := by have := HL.out; omega
  go_step3
  go_wp2_with fail
  go_loopg [9, 10] 1 (fun g v u wr => g = 1 ∧ v = .int .i64 L ∧ u = .int .i64 0 ∧ wr = w')
  case atStart => exact ⟨rfl, rfl, rfl, rfl⟩
  case round =>
    obtain ⟨rfl, rfl, rfl, hwr⟩ := hrel
    have hwr' := hwr.symm
    subst hwr'
    by_cases hlt : L < s.size
    · have hlti : (L : Int) < s.size := by omega
      obtain ⟨x, hx⟩ : ∃ x : UInt8, s[L]'hlt = x := ⟨_, rfl⟩
      have hx128 : x.toNat < 128 := by rw [← hx]; exact HS.out L hlt
      have hLS : L < S.size := by have := HL.out; omega
      have hyL : S[L]'hLS = y := by have e := HL.out; subst e; exact hy
      have hxy : ¬ (x.toNat : Int) = (y.toNat : Int) := by have := HY.out; omega
      have HIB : Hid (∀ (t : ByteArray) (W : World), t = s.extract (L + 1) s.size → Calls Tryz.prog 147 #[.string t, .int .u8 (y.toNat : Int)] W fun e w' => e = .returned (.int .i64 (-1)) ∧ w' = W) := fun t W ht => by
        refine (Any.strings_IndexByte Tryz.lays137 t (y.toNat : Int) W).mono ?_
        rintro e w'' ⟨rfl, hw''⟩
        refine ⟨?_, hw''⟩
        rw [noByte]
        · intro z hz
          rw [ht] at hz
          have hz' : z ∈ s.data.toList := by
            rw [Lib.extract_data] at hz
            exact List.mem_of_mem_drop (List.mem_of_mem_take hz)
          obtain ⟨q, hq, rfl⟩ := List.getElem_of_mem hz'
          exact HS.out q (by rw [Lib.size_eq]; exact hq)
        · have := HY.out
          simpa using this
      have hxy2 : ((x.toNat : Int) != (y.toNat : Int)) = true := by simpa using hxy
      obtain ⟨T, HT⟩ : ∃ T : ByteArray, Hid (s.extract (L + 1) s.size = T) := ⟨_, rfl⟩
      obtain ⟨M, HM⟩ : ∃ M : Nat, Hid (L + 1 = M) := ⟨_, rfl⟩
      have hwr : IntKind.i64.wrap ((L : Int) + 1) = (M : Int) := by
        rw [← HM.out, show ((L : Int) + 1) = ((L + 1 : Nat) : Int) by omega]
        exact wrap_i64 (L + 1) (by omega)
      have hMi : (M : Int) ≤ s.size := by have := HM.out; omega
      have hME : s.extract M s.size = T := by rw [← HM.out]; exact HT.out
      have hL3 : L ≤ 3 := hL.2
      go_wp2
      go_step3
      go_wp2
      refine wp_region_held_drew (S := fun _ => True) (by kernel_rfl) trivial (fun hHeld => ?_)
      refine takeL (i := 0) (v := ?_) rfl (by kernel_rfl) (by kernel_rfl) (by kernel_rfl) (fun _ _ _ h => h) (Or.inl ⟨by rfl, ?_⟩) hHeld ?_
      rotate_left
      · rintro w' s0; go_simp; rfl
      try simp only [Act.put, List.setIfInBounds_toArray, List.set_cons_zero, List.set_cons_succ]
      refine takeL (i := 1) (v := ?_) rfl (by kernel_rfl) (by kernel_rfl) (by kernel_rfl) (fun _ _ _ h => h) (Or.inl ⟨by rfl, ?_⟩) hHeld ?_
      rotate_left
      · rintro w' s0; go_simp; rfl
      try simp only [Act.put, List.setIfInBounds_toArray, List.set_cons_zero, List.set_cons_succ]
      refine takeL (i := 2) (v := ?_) rfl (by kernel_rfl) (by kernel_rfl) (by kernel_rfl) (fun _ _ _ h => h) (Or.inl ⟨by rfl, ?_⟩) hHeld ?_
      rotate_left
      · rintro w' s0; go_simp; rfl
      try simp only [Act.put, List.setIfInBounds_toArray, List.set_cons_zero, List.set_cons_succ]
      refine takeL (i := 3) (v := ?_) rfl (by kernel_rfl) (by kernel_rfl) (by kernel_rfl) (fun _ _ _ h => h) (Or.inl ⟨by rfl, ?_⟩) hHeld ?_
      rotate_left
      · rintro w' s0; go_simp; rfl
      try simp only [Act.put, List.setIfInBounds_toArray, List.set_cons_zero, List.set_cons_succ]
      refine takeL (i := 4) (v := ?_) rfl (by kernel_rfl) (by kernel_rfl) (by kernel_rfl) (fun _ _ _ h => h) (Or.inl ⟨by rfl, ?_⟩) hHeld ?_
      rotate_left
      · rintro w' s0; go_simp; rfl
      try simp only [Act.put, List.setIfInBounds_toArray, List.set_cons_zero, List.set_cons_succ]
      refine takeL (i := 5) (v := ?_) rfl (by kernel_rfl) (by kernel_rfl) (by kernel_rfl) (fun _ _ _ h => h) (Or.inl ⟨by rfl, ?_⟩) hHeld ?_
      rotate_left
      · rintro w' s0; go_simp; rfl
      try simp only [Act.put, List.setIfInBounds_toArray, List.set_cons_zero, List.set_cons_succ]
      refine takeL (i := 6) (v := ?_) rfl (by kernel_rfl) (by kernel_rfl) (by kernel_rfl) (fun _ _ _ h => h) (Or.inl ⟨by rfl, ?_⟩) hHeld ?_
      rotate_left
      · rintro w' s0; go_simp; rfl
      try simp only [Act.put, List.setIfInBounds_toArray, List.set_cons_zero, List.set_cons_succ]
      refine wpAnyH_done (by kernel_rfl) ?_ _
      go_wp2
      clear hHeld
      refine wp_region_held_drew (S := fun _ => True) (by kernel_rfl) trivial (fun hHeld => ?_)
      refine takeL (i := 0) (v := ?_) rfl (by kernel_rfl) (by kernel_rfl) (by kernel_rfl) (fun _ _ _ h => h) (Or.inl ⟨by rfl, ?_⟩) hHeld ?_
      rotate_left
      · rintro w' s0; go_simp; rfl
      try simp only [Act.put, List.setIfInBounds_toArray, List.set_cons_zero, List.set_cons_succ]
      refine takeL (i := 1) (v := ?_) rfl (by kernel_rfl) (by kernel_rfl) (by kernel_rfl) (fun _ _ _ h => h) (Or.inl ⟨by rfl, ?_⟩) hHeld ?_
      rotate_left
      · rintro w' s0; go_simp; rfl
      try simp only [Act.put, List.setIfInBounds_toArray, List.set_cons_zero, List.set_cons_succ]
      refine takeL (i := 2) (v := ?_) rfl (by kernel_rfl) (by kernel_rfl) (by kernel_rfl) (fun _ _ _ h => h) (Or.inl ⟨by rfl, ?_⟩) hHeld ?_
      rotate_left
      · rintro w' s0; go_simp; rfl
      try simp only [Act.put, List.setIfInBounds_toArray, List.set_cons_zero, List.set_cons_succ]
      refine takeL (i := 3) (v := ?_) rfl (by kernel_rfl) (by kernel_rfl) (by kernel_rfl) (fun _ _ _ h => h) (Or.inl ⟨by rfl, ?_⟩) hHeld ?_
      rotate_left
      · rintro w' s0; go_simp; rfl
      try simp only [Act.put, List.setIfInBounds_toArray, List.set_cons_zero, List.set_cons_succ]
      refine takeL (i := 4) (v := ?_) rfl (by kernel_rfl) (by kernel_rfl) (by kernel_rfl) (fun _ _ _ h => h) (Or.inl ⟨by rfl, ?_⟩) hHeld ?_
      rotate_left
      · rintro w' s0; go_simp; rfl
      try simp only [Act.put, List.setIfInBounds_toArray, List.set_cons_zero, List.set_cons_succ]
      refine takeL (i := 5) (v := ?_) rfl (by kernel_rfl) (by kernel_rfl) (by kernel_rfl) (fun _ _ _ h => h) (Or.inl ⟨by rfl, ?_⟩) hHeld ?_
      rotate_left
      · rintro w' s0; go_simp; rfl
      try simp only [Act.put, List.setIfInBounds_toArray, List.set_cons_zero, List.set_cons_succ]
      refine takeL (i := 6) (v := ?_) rfl (by kernel_rfl) (by kernel_rfl) (by kernel_rfl) (fun _ _ _ h => h) (Or.inl ⟨by rfl, ?_⟩) hHeld ?_
      rotate_left
      · rintro w' s0; go_simp; rfl
      try simp only [Act.put, List.setIfInBounds_toArray, List.set_cons_zero, List.set_cons_succ]
      refine wpAnyH_ready (rs := [7]) (by kernel_rfl) (by simp) ?_
      refine consL rfl (fun KK hKK => ?_) AllReadyH.nil
      refine step_callv (by rfl) 147 [.tmp 37, .tmp 40] _ [.string T, .int .u8 (y.toNat : Int)] _ (by rfl) (by rfl) (enter209 _ _) (HIB.out _ _ HT.out.symm) ?_
      rintro e w1 ⟨rfl, rfl⟩
      refine ⟨_, rfl, ?_⟩
      refine hKK.out _ _ hHeld (fun hHeld2 => ?_)
      clear hKK KK
      try simp only [Act.put, List.setIfInBounds_toArray, List.set_cons_zero, List.set_cons_succ]
      refine takeL (i := 8) (v := ?_) rfl (by kernel_rfl) (by kernel_rfl) (by kernel_rfl) (fun _ _ _ h => h) (Or.inl ⟨by rfl, ?_⟩) hHeld ?_
      rotate_left
      · rintro w' s0; go_simp; rfl
      try simp only [Act.put, List.setIfInBounds_toArray, List.set_cons_zero, List.set_cons_succ]
      refine wpAnyH_done (by kernel_rfl) ?_ _
      go_wp2
      simp only [Exit.inBlock, Exit.then, Exit.noGoto_ret]
      go_ret
      exact ⟨rfl, ⟨rfl, rfl, rfl, Nat.le_refl _, fun _ _ => rfl⟩⟩
    · have hlti : ¬ (L : Int) < s.size := by omega
      go_wp2
      go_ret
      exact ⟨rfl, Below.refl _ _⟩
end Go.Proofs.YtikmbjfambjmaaaGreatDoor
namespace Go.Proofs.YtikmbjfambjmaaaGreatDoor
open Go.RowKit
set_option linter.unusedVariables false
set_option linter.unusedSimpArgs false
theorem byte_getD (s : ByteArray) (q : Nat) (h : q < s.size) : s.data.toList.getD q 0 = s[q]'h := by
  rw [List.getD_eq_getElem?_getD, Lib.data_getElem? s q h]
  rfl
theorem high_step (s : ByteArray) (pos : Nat) (h : pos < s.size) (ha : 128 ≤ (s[pos]'h).toNat) :
    128 ≤ (Utf8.decode s pos).1 ∧ Utf8.valid ((Utf8.decode s pos).1 : Int) = true ∧ 1 ≤ (Utf8.decode s pos).2 ∧ pos + (Utf8.decode s pos).2 ≤ s.size ∧ ∀ q, pos ≤ q → q < pos + (Utf8.decode s pos).2 → 128 ≤ (s.data.toList.getD q 0).toNat := by
  obtain ⟨h1, h2⟩ := decode_high s pos h ha
  have hN := Lib.decode_N s pos
  have hsz := Lib.size_eq s
  have hb0 : 128 ≤ (s.data.toList.getD pos 0).toNat := by rw [byte_getD s pos h]; exact ha
  have hv := Lib.decodeN_valid (s.data.toList.length - pos) (s.data.toList.getD pos 0).toNat (s.data.toList.getD (pos + 1) 0).toNat (s.data.toList.getD (pos + 2) 0).toNat (s.data.toList.getD (pos + 3) 0).toNat (UInt8.toNat_lt _)
  have hw := Lib.decodeN_width_le (s.data.toList.length - pos) (s.data.toList.getD pos 0).toNat (s.data.toList.getD (pos + 1) 0).toNat (s.data.toList.getD (pos + 2) 0).toNat (s.data.toList.getD (pos + 3) 0).toNat (by omega)
  have hc := Lib.decodeN_conts (s.data.toList.length - pos) (s.data.toList.getD pos 0).toNat (s.data.toList.getD (pos + 1) 0).toNat (s.data.toList.getD (pos + 2) 0).toNat (s.data.toList.getD (pos + 3) 0).toNat
  rw [← hN] at hv hw hc
  obtain ⟨c1, c2, c3, c4⟩ := hc
  refine ⟨h1, ?_, h2, by omega, fun q hq1 hq2 => ?_⟩
  · unfold Utf8.valid
    simp
    omega
  · have e : q = pos ∨ q = pos + 1 ∨ q = pos + 2 ∨ q = pos + 3 := by omega
    rcases e with rfl | rfl | rfl | rfl
    · exact hb0
    · have := c1 (by omega); omega
    · have := c2 (by omega); omega
    · have := c3 (by omega); omega
def No (s ch : ByteArray) (i : Nat) : Prop := ∀ q, q < i → s.data.toList.getD q 0 ∉ ch.data.toList
theorem Asc.mem {ch : ByteArray} (h : Asc ch) {x : UInt8} (hx : x ∈ ch.data.toList) : x.toNat < 128 := by
  obtain ⟨q, hq, rfl⟩ := List.getElem_of_mem hx
  exact h q (by rw [Lib.size_eq]; exact hq)
theorem iterAt_below {B : Nat} {w0 w : World} {k : Nat} {s : ByteArray} {p : Nat} (h : Below B w0 w) (hk : B ≤ k) : Below B w0 (w.iterAt k s p) :=
  ⟨h.os, h.tape, h.output, by simp [World.iterAt]; exact h.size, fun j hj => by
    show (w.heap.setIfInBounds k _)[j]? = _
    rw [Array.getElem?_setIfInBounds_ne (by omega)]
    exact h.block j hj⟩
theorem indexByte_low (l : List UInt8) (c : UInt8) : -1 ≤ Lib.indexByte l c := by
  induction l with
  | nil => simp [Lib.indexByte]
  | cons b l ih =>
    unfold Lib.indexByte
    split
    · decide
    · split
      · exact Int.le_refl _
      · omega
theorem indexByte_mem (l : List UInt8) (c : UInt8) : (0 ≤ Lib.indexByte l c) ↔ c ∈ l := by
  induction l with
  | nil => simp [Lib.indexByte]
  | cons b l ih =>
    unfold Lib.indexByte
    by_cases hb : b = c
    · subst hb; simp
    · have hbc : (b == c) = false := beq_eq_false_iff_ne.2 hb
      rw [hbc]
      simp only [Bool.false_eq_true, if_false, List.mem_cons, Ne.symm hb, false_or]
      rw [← ih]
      by_cases h1 : Lib.indexByte l c = -1
      · simp [h1]
      · have h2 : (Lib.indexByte l c == -1) = false := beq_eq_false_iff_ne.2 h1
        rw [h2]
        simp only [Bool.false_eq_true, if_false]
        have := indexByte_low l c
        omega
def hasAny (s ch : ByteArray) : Prop := ∃ x ∈ s.data.toList, x ∈ ch.data.toList
theorem no_all {s ch : ByteArray} (h : No s ch s.size) : ¬ hasAny s ch := by
  rintro ⟨x, hx, hc⟩
  obtain ⟨q, hq, rfl⟩ := List.getElem_of_mem hx
  refine h q (by rw [Lib.size_eq]; exact hq) ?_
  rw [List.getD_eq_getElem?_getD, List.getElem?_eq_getElem hq]
  exact hc
set_option maxRecDepth 20000 in
set_option maxHeartbeats 1000000 in
theorem indexAny_short (s ch : ByteArray) (h2 : 2 ≤ ch.size) (h100 : ch.size ≤ 100) (hch : Asc ch) (h8 : s.size ≤ 8) (w : World) :
    Calls Tryz.prog 96 #[.string s, .string ch] w fun e w' => (∃ i : Int, e = .returned (.int .i64 i) ∧ (0 ≤ i ↔ hasAny s ch)) ∧ Below w.heap.size w w' := by
  have HCH : Hid (Asc ch) := hch
  clear hch
  have hemp : ch.toList.isEmpty = false := by
    rw [Lib.toList_data]
    cases h : ch.data.toList with
    | nil => have := Lib.size_eq ch; rw [h, List.length_nil] at this; omega
    | cons _ _ => rfl
  have hn1 : ((ch.size : Int) == 1) = false := beq_eq_false_iff_ne.2 (by omega)
  have hn1' : ¬ (ch.size : Int) = 1 := by omega
  have h8i : ¬ (8 : Int) < (s.size : Int) := by omega
  obtain ⟨G, HG⟩ : ∃ G, Hid (w.heap.size = G) := ⟨_, rfl⟩
  go_enter Tryz.func96, Tryz.ntmps96
  go_wp2
  rw [HG.out]
  have hit0 : (w.iter s 0).heap[G]? = some (.stringIter s 0) := by rw [← HG.out]; exact World.iter_heap w s 0
  have HB0 : Hid (Below G w (w.iter s 0)) := hid (by rw [← HG.out]; exact iter_below w s 0)
  go_loopg [9, 10] s.size (fun g _ _ wx => ∃ i : Nat, i ≤ s.size ∧ g = s.size - i ∧ wx.heap[G]? = some (.stringIter s i) ∧ Hid (Below G w wx) ∧ Hid (No s ch i))
  case atStart => exact ⟨0, Nat.zero_le _, rfl, hit0, HB0, fun q hq => by omega⟩
  case round =>
    obtain ⟨i, hi, hg, hit, HB, HNo⟩ := hrel
    clear hit0
    have hGs : G < wr.heap.size := by
      rcases Nat.lt_or_ge G wr.heap.size with h | h
      · exact h
      · rw [Array.getElem?_eq_none h] at hit; cases hit
    by_cases hlt : i < s.size
    · obtain ⟨x, hx⟩ : ∃ x : UInt8, s[i]'hlt = x := ⟨_, rfl⟩
      have hxg : s.data.toList.getD i 0 = x := by rw [byte_getD s i hlt, hx]
      by_cases hx128 : x.toNat < 128
      · have hnx := fun ty => Lib.run_next_ascii_at (P := Tryz.prog) wr G s i ty hit hlt (by rw [hx]; exact hx128)
        rw [hx] at hnx
        obtain ⟨w1, HW1⟩ : ∃ w1, Hid (wr.iterAt G s (i + 1) = w1) := ⟨_, rfl⟩
        have hit1 : w1.heap[G]? = some (.stringIter s (i + 1)) := by rw [← HW1.out]; exact Lib.iterAt_heap wr G s i (i + 1) hit
        have HB1 : Hid (Below G w w1) := hid (by rw [← HW1.out]; exact iterAt_below HB.out (Nat.le_refl _))
        rw [HW1.out] at hnx
        have hback : ((x.toNat : Int)).toNat.toUInt8 = x := by simp
        have HIR : Hid (∀ W, Calls Tryz.prog 126 #[.string ch, .int .i32 (x.toNat : Int)] W fun e w' => e = .returned (.int .i64 (Lib.indexByte ch.data.toList x)) ∧ w' = W) := fun W => by
          have := Any.strings_IndexRune_ascii Tryz.lays152 ch (x.toNat : Int) W (by omega) (by omega)
          rw [hback] at this
          exact this
        obtain ⟨j, HJ⟩ : ∃ j, Hid (Lib.indexByte ch.data.toList x = j) := ⟨_, rfl⟩
        rw [HJ.out] at HIR
        have hmem : Hid (0 ≤ j ↔ x ∈ ch.data.toList) := hid (by rw [← HJ.out]; exact indexByte_mem _ _)
        clear hit hx
        by_cases hj : 0 ≤ j
        · go_wp2_with (go_at_call 126; refine (HIR.out _).mono ?_; rintro ev w' ⟨rfl, rfl⟩)
          go_ret
          refine ⟨⟨(i : Int), rfl, ⟨fun _ => ⟨x, ?_, hmem.out.1 hj⟩, fun _ => by omega⟩⟩, by rw [HG.out]; exact HB1.out⟩
          rw [← hxg, List.getD_eq_getElem?_getD, List.getElem?_eq_getElem (by rw [← Lib.size_eq]; exact hlt)]
          exact List.getElem_mem _
        · have HNo1 : Hid (No s ch (i + 1)) := fun q hq => by
            rcases Nat.lt_or_ge q i with h | h
            · exact HNo.out q h
            · obtain rfl : q = i := by omega
              rw [hxg]
              exact fun hm => hj (hmem.out.2 hm)
          go_wp2_with (go_at_call 126; refine (HIR.out _).mono ?_; rintro ev w' ⟨rfl, rfl⟩)
          go_roundg (s.size - (i + 1))
          case measure => omega
          case rel => exact ⟨i + 1, by omega, rfl, hit1, HB1, HNo1⟩
      · obtain ⟨e1, e2, e3, e4, e5⟩ := high_step s i hlt (by rw [hx]; omega)
        have hnx := fun ty => Lib.run_next_any_at (P := Tryz.prog) wr G s i ty hit hlt
        obtain ⟨rn, HRN⟩ : ∃ rn, Hid ((Utf8.decode s i).1 = rn) := ⟨_, rfl⟩
        obtain ⟨wd, HWD⟩ : ∃ wd, Hid ((Utf8.decode s i).2 = wd) := ⟨_, rfl⟩
        rw [HRN.out] at e1 e2
        rw [HWD.out] at e3 e4 e5
        rw [HRN.out, HWD.out] at hnx
        obtain ⟨w1, HW1⟩ : ∃ w1, Hid (wr.iterAt G s (i + wd) = w1) := ⟨_, rfl⟩
        have hit1 : w1.heap[G]? = some (.stringIter s (i + wd)) := by rw [← HW1.out]; exact Lib.iterAt_heap wr G s i (i + wd) hit
        have HB1 : Hid (Below G w w1) := hid (by rw [← HW1.out]; exact iterAt_below HB.out (Nat.le_refl _))
        rw [HW1.out] at hnx
        have HIR : Hid (∀ W, Calls Tryz.prog 126 #[.string ch, .int .i32 (rn : Int)] W fun e w' => e = .returned (.int .i64 (-1)) ∧ Below W.heap.size W w') := fun W => by
          by_cases h65 : rn = 65533
          · rw [h65]; exact indexRune_err ch HCH.out h100 W
          · exact indexRune_high ch HCH.out h100 rn e1 e2 h65 W
        have HNo1 : Hid (No s ch (i + wd)) := fun q hq => by
          rcases Nat.lt_or_ge q i with h | h
          · exact HNo.out q h
          · intro hm
            have := HCH.out.mem hm
            have := e5 q h hq
            omega
        have hG1 : G < w1.heap.size := by
          rcases Nat.lt_or_ge G w1.heap.size with h | h
          · exact h
          · rw [Array.getElem?_eq_none h] at hit1; cases hit1
        clear hit hx hxg e5 e2
        go_wp2_with (go_at_call 126; refine (HIR.out _).mono ?_; rintro ev w2 ⟨rfl, hb2⟩)
        have hit2 : w2.heap[G]? = some (.stringIter s (i + wd)) := (hb2.block G hG1).trans hit1
        have HB2 : Hid (Below G w w2) := HB1.out.trans (hb2.mono (Nat.le_of_lt hG1))
        go_roundg (s.size - (i + wd))
        case measure => omega
        case rel => exact ⟨i + wd, e4, rfl, hit2, HB2, HNo1⟩
    · have hnx := fun ty => Lib.run_next_end_at (P := Tryz.prog) wr G s i ty hit hlt
      obtain rfl : i = s.size := by omega
      go_wp2
      go_ret
      exact ⟨⟨-1, rfl, ⟨fun h => absurd h (by decide), fun h => absurd h (no_all HNo.out)⟩⟩, by rw [HG.out]; exact HB.out⟩
theorem info258 : (Tryz.prog.info? 218).map (fun i => (i.zero, i.size)) = some (some (.agg (Array.replicate 256 (.bool false))), 256) := by kernel_rfl
theorem indexAny_iff (s ch : List UInt8) : 0 ≤ Lib.indexAny s ch ↔ ∃ x ∈ s, x ∈ ch := by
  induction s with
  | nil => simp [Lib.indexAny]
  | cons b l ih =>
    unfold Lib.indexAny
    by_cases hb : b ∈ ch
    · rw [if_pos (by simpa using hb)]
      simp [hb]
    · rw [if_neg (by simpa using hb)]
      have hge := Lib.indexAny_ge ch l
      simp only [List.mem_cons, exists_eq_or_imp, hb, false_or]
      rw [← ih]
      by_cases h1 : Lib.indexAny l ch = -1
      · simp [h1]
      · have h2 : (Lib.indexAny l ch == -1) = false := beq_eq_false_iff_ne.2 h1
        rw [h2]
        simp only [Bool.false_eq_true, if_false]
        omega
theorem indexAny_any (s ch : ByteArray) (h2 : 2 ≤ ch.size) (h100 : ch.size ≤ 100) (hch : Asc ch) (hs : s.size ≤ 1000000) (w : World) :
    Calls Tryz.prog 96 #[.string s, .string ch] w fun e w' => (∃ i : Int, e = .returned (.int .i64 i) ∧ (0 ≤ i ↔ hasAny s ch)) ∧ Below w.heap.size w w' := by
  by_cases h8 : s.size ≤ 8
  · exact indexAny_short s ch h2 h100 hch h8 w
  · refine (Any.strings_IndexAny_long Tryz.lays153 (zero_of_info info258).1 (zero_of_info info258).2 s ch w h2 (by omega) (by omega) (by omega) (fun j b hb => hch.mem (List.mem_of_getElem? hb))).mono ?_
    rintro e w' ⟨rfl, rfl⟩
    exact ⟨⟨_, rfl, indexAny_iff _ _⟩, ((Below.refl _ w).alloc (Nat.le_refl _) _).alloc (by simp) _⟩
open Classical in
set_option maxRecDepth 20000 in
theorem containsAny_any (s ch : ByteArray) (h2 : 2 ≤ ch.size) (h100 : ch.size ≤ 100) (hch : Asc ch) (hs : s.size ≤ 1000000) (w : World) :
    Calls Tryz.prog 79 #[.string s, .string ch] w fun e w' => (∃ b : Bool, e = .returned (.bool b) ∧ (b = true ↔ hasAny s ch)) ∧ Below w.heap.size w w' := by
  have HI : Hid (Calls Tryz.prog 96 #[.string s, .string ch] w fun e w' => (∃ i : Int, e = .returned (.int .i64 i) ∧ (0 ≤ i ↔ hasAny s ch)) ∧ Below w.heap.size w w') := indexAny_any s ch h2 h100 hch hs w
  go_enter Tryz.func79, Tryz.ntmps79
  go_wp2_with fail
  refine HI.out.mono ?_
  rintro ev w1 ⟨⟨i, rfl, hi⟩, hb⟩
  have HII : Hid _ := hi
  clear hi
  go_wp2
  go_ret
  exact ⟨⟨_, rfl, by rw [← HII.out]; simp⟩, hb⟩
end Go.Proofs.YtikmbjfambjmaaaGreatDoor
