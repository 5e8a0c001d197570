import Derived.Shelf.Small.Utf8
import Derived.Shelf.Small.Strs
import Derived.Test.YtdnphaganajejaaGreatDoorProg
import Derived.Test.YtdnphaganajejaaGreatDoorChecked
import Derived.RowKit
import Derived.Below
import Derived.WalkKit
import Derived.WalkSpells
import Derived.WalkLawsBesides
import Derived.Deep.AppendLies
import Derived.Deep.LoopGhost
import Derived.Deep.RegionWith
import Derived.Deep.QuietTactic
import Derived.BigQuiet
import Derived.Laws.BitsAllLaws
import Derived.Laws.CopyOwn
import Derived.Laws.IdiomCopy
import Derived.Deep.RegionHeld3
import Derived.Deep.RegionLaw
import Derived.Deep.MidRow
import Derived.Maps.AppendAt
import Derived.Deep.RegionHeld
import Derived.OrdersHeld
import Derived.Lib.Split
import Derived.Lib.Strings
import Derived.Lib.IndexMore
import Derived.Shelf.Strings.Split
import Derived.Shelf.Strings.Search3
import Derived.Shelf.Strings.Prefix
import Derived.Shelf.Strings.Runes
import Derived.ArgAppend
import Derived.ChangeKeysEq
import Derived.Deep.Onto
import Derived.DeepKeys4
import Derived.Defers
import Derived.Great.BuildSlice
import Derived.LaidEql
import Derived.Laws.BytesArg
import Derived.Laws.Externs
import Derived.Laws.IdiomStrings
import Derived.Laws.RangeAny
import Derived.Laws.Runes
import Derived.Laws.StructEq
import Derived.Lib.AppendStr
import Derived.Lib.AppendZeros
import Derived.Lib.Bytealg
import Derived.Lib.Bytes
import Derived.Lib.ItoaNum
import Derived.Lib.OthersKept
import Derived.Lib.QuoteLoop
import Derived.Lib.SlBytesRow
import Derived.Lib.SpaceUEq
import Derived.Lib.TrimUEq
import Derived.Maps.OwnIn
import Derived.Maps.OwnOps
import Derived.Maps.OwnSet
import Derived.Maps.Range
import Derived.Maps.RangeWalk
import Derived.OwnWalk
import Derived.OwnWalkIn
import Derived.RangeFuncBound
import Derived.RangeFuncBox
import Derived.RangeFuncCalls
import Derived.RangeFuncLeaves
import Derived.RangeFuncNested
import Derived.Recover
import Derived.RowKitTokens
import Derived.Shelf.Abstract
import Derived.Shelf.Bytes.SlEqualAll
import Derived.Shelf.Bytes.SlSmallAll
import Derived.Shelf.LaysC
import Derived.Shelf.LaysM
import Derived.Shelf.RegionOpen
import Derived.Shelf.SlicesE.Clone
import Derived.Shelf.Strconv.AtoiAll
import Derived.Shelf.Strconv.ErrVarAll
import Derived.Shelf.Strconv.ErrVarParseInt
import Derived.Shelf.Strconv.Itoa3
import Derived.Shelf.Strconv.Itoa4
import Derived.Shelf.Strings.Cut
import Derived.Shelf.Strings.IndexAnyAll
import Derived.Shelf.Strings.OnBuilder
import Derived.Shelf.Strings.SlTrimAscii
import Derived.Sort.LoopGhostIn
import Derived.Sort.Statements
import Derived.StillTail
import Derived.Stop.Asserts
import Derived.TacticsInMore
import Derived.WalkMore
import Derived.WideKeyEntry
import Derived.Sort.KeysCollected
import Derived.Laws.OwnMore
import Derived.Laws.RangeString
import Derived.Lib.IndexAny
import Derived.Shelf.SlIter.Nil
import Derived.Shelf.SortM.Plain
import Derived.Shelf.SortM.SortNone
import Derived.Shelf.SlicesE.IndexFunc
import Derived.Ground.GgzProg
import Derived.Ground.SlgmProg
import Derived.Shelf.Bytes.SlCut
import Derived.Shelf.Bytes.SlClone
import Derived.ProofKit
import Derived.OpenShut
import Derived.Deep.DeepHandedRow
import Derived.Lib.LaidTab
import Derived.LaidLaws
import Derived.LaidHandle
import Derived.ChangeSame
import Derived.Shelf.Strings.Repeat
import Derived.Lib.SlBytesConst
import Derived.Shelf.Bytes.SlIndexAt
import Derived.Deep.Slices
import Derived.ChangeMade
import Derived.WideShapes
import Derived.Deep.DrawnRows
set_option linter.unusedSimpArgs false
set_option linter.unusedVariables false
set_option maxRecDepth 20000
set_option maxHeartbeats 4000000
open Int renaming eq_ofNat_of_zero_le->Wz0,lt_of_lt_of_le->Wz1
open List renaming ext_getElem->Wz2,getElem_map->Wz3,getElem_mem->Wz4,getElem_range->Wz5,mem_map->Wz6,replicate->Wz7
open Nat renaming le_refl->Wz8,le_trans->Wz9,zero_add->Wzz
namespace Go.Proofs
open Go.Proofs.Tryz
open Go.Shelf
def lays119_ren:Go.Shelf.Ren:=⟨fun | 119=>185 | n=>n,fun | 21=>21 | 4=>4 | n=>n,fun | n=>n⟩
theorem lays119:Go.Proofs.Lays.n119 prog lays119_ren:={
 mixed:=by kernel_rfl
 f119:=func185.trans (congrArg some (by kernel_rfl))
 t4:=underlying4
 a4:=isAgg4
 z4:=sizeOf4
 v4:=zeroValue4
 t21:=underlying21
 a21:=isAgg21
 z21:=sizeOf21
 v21:=zeroValue21 }
def lays137_ren:Go.Shelf.Ren:=⟨fun | 137=>184 | 217=>201 | 266=>227 | n=>n,fun | 9=>9 | 5=>5 | 3=>3 | n=>n,fun | n=>n⟩
theorem lays137:Go.Proofs.Lays.n137 prog lays137_ren:={
 mixed:=by kernel_rfl
 f137:=func184.trans (congrArg some (by kernel_rfl))
 f217:=func201.trans (congrArg some (by kernel_rfl))
 f266:=func227.trans (congrArg some (by kernel_rfl))
 t3:=underlying3
 a3:=isAgg3
 z3:=sizeOf3
 v3:=zeroValue3
 t5:=underlying5
 a5:=isAgg5
 z5:=sizeOf5
 v5:=zeroValue5
 t9:=underlying9
 a9:=isAgg9
 z9:=sizeOf9
 v9:=zeroValue9 }
end Go.Proofs
namespace Go.Proofs.YtdnphaganajejaaGreatDoor
open Go.Proofs.Tryz
open Go.RowKit
theorem sL {α:Type} : (∀ (l:List α) (i:Nat) (v:α),l.toArray.setIfInBounds i v=(l.set i v).toArray)/\(∀ (l:List α) (a b:α),(a :: l).set 0 b=b :: l)/\(∀ (l:List α) (n:Nat) (a b:α),(a :: l).set (n+1) b=a :: l.set n b):=⟨fun l i v=>List.setIfInBounds_toArray ..,fun _ _ _=>rfl,fun _ _ _ _=>rfl⟩
theorem nm_ {α:Sort _} (a:α):∃ x,Hid (a=x):=⟨_,rfl⟩
theorem nn_ {α:Sort _} (a:α):∃ x,Hid (x=a):=⟨_,rfl⟩
theorem hid {p:Prop} (h:p):Hid p:=h
theorem qQ {o:Option TypeInfo} {z:Value} {a b:Nat} (h:o.map (fun i=>(i.zero,i.size,i.bytes))=some (some z,a,b)):∃ i,o=some i/\i.zero=some z/\i.size=a/\i.bytes=b:=by
 cases o with
 | none=>simp at h
 | some i=>simp at h;exact⟨i,rfl,h.1,h.2.1,h.2.2⟩
theorem info5:(prog.info? 5).map (fun i=>(i.zero,i.size,i.bytes))=some (some (.int .u8 0),1,1):=by kernel_rfl
theorem size5:(prog.info? 5).map (·.size)=some 1:=by kernel_rfl
theorem size235:(prog.info? 235).map (·.size)=some 1:=by kernel_rfl
theorem size116:(prog.info? 116).map (·.size)=some 20:=by kernel_rfl
theorem size298:(prog.info? 298).map (·.size)=some 5:=by kernel_rfl
theorem size299:(prog.info? 299).map (·.size)=some 64:=by kernel_rfl
theorem size301:(prog.info? 301).map (·.size)=some 70:=by kernel_rfl
theorem size322:(prog.info? 322).map (·.size)=some 80:=by kernel_rfl
theorem size326:(prog.info? 326).map (·.size)=some 2:=by kernel_rfl
theorem size327:(prog.info? 327).map (·.size)=some 8:=by kernel_rfl
def row (k:IntKind) (zs:List Int):List Value:=zs.map (Value.int k)
theorem zv (k:IntKind) (zs:List Int):(row k zs).length=zs.length:=by simp[row]
theorem uW (k:IntKind) (zs:List Int) (i:Nat) (h:i<zs.length):(row k zs)[i]? = some (.int k (zs.getD i 0)):=by simp[row,h]
theorem yK (k:IntKind) (zs:List Int):∀ v ∈ row k zs,v.oneCell'=true:=by
 intro v hv;simp only[row,Wz6] at hv;obtain⟨c,_,rfl⟩:=hv;rfl
theorem jZ (k:IntKind) (zs:List Int) (n:Nat) (c:Int):(row k zs).toArray.setIfInBounds n (.int k c)=(row k (zs.set n c)).toArray:=by
 simp[row,List.map_set]
theorem vJ (k:IntKind) (zs:List Int):(row k zs).toArray.size=zs.length:=by rw[List.size_toArray,zv]
theorem xQ {w:World} {g:Nat} {k:IntKind} {zs:List Int} {t:TypeId} {fr:Nat × Nat} (h:w.heap[g]? = some (.cells (row k zs).toArray t fr)) (i:Nat) (hi:i<zs.length):w.cell? ⟨g,i,none⟩=some (.int k (zs.getD i 0)):=by
 rw[cell_of_row w g i _ t fr h];simpa using uW k zs i hi
theorem zw {w:World} {g:Nat} {cs:List Value} {t:TypeId} {fr:Nat × Nat} (h:w.heap[g]? = some (.cells cs.toArray t fr)):w.rangeAt g 0 cs:=fun j v hv=>by
 rw[Wzz,cell_of_row w g j _ t fr h];simpa using hv
theorem yW {w:World} {g n:Nat} {k:IntKind} {zs:List Int} {t:TypeId} (h:w.heap[g]? = some (.cells (row k zs).toArray t (0,0))) (D:zs.length=n):w.there g 0 n:=fun j A=>by
 rw[Wzz];exact⟨by rw[xQ h j (by omega)];rfl,frozen_of_row w g j _ t h⟩
theorem YZ {P:Program} (t e:TypeId) (n:Nat) (cs:Array Value) (k:IntKind) (i:Nat) (v:Value) (w:World) (h:P.underlying t=some (.array n e)) (D:(P.info? e).map (·.size)=some 1) (d:TypeDesc) (G:P.underlying e=some d) (hd:d.isRow=false) (hi:i<n) (hv:cs[i]? = some v) :
  (Instr.index t (.agg cs) (.int k i)).run P w=.ok v w:=by
 cases A:P.info? e with
 | none=>simp[A] at D
 | some inf =>
  have hs:inf.size=1:=by simpa [A] using D
  have j:(isAgg e).run P w=.ok false w:=by
   unfold isAgg;rw[Sem.run_bind,run_underlying G w];cases d <;> simp_all
  simp[Instr.index,asIntOf,run_underlying h,hi,part,sizeOf,typeInfo,A,hs,j,hv]
theorem yq {P:Program} {fn:Func} {p:Tmp} {ty:TypeId} (h:fn.results=#[.cell p ty]) (tmps:Array Value) (w:World) (g:Nat) (cs:List Value) (d:TypeDesc)
  (A:tmps.getD p undef=.pointer (some ⟨g,0,none⟩)) (hc:w.rangeAt g 0 cs) (D:P.underlying ty=some d) (hd:d.isRow=true) (hi:(P.info? ty).map (·.size)=some cs.length) :
  (results fn tmps).run P w=.ok (.agg cs.toArray) w:=by
 have j:tmps[p]?.getD undef=.pointer (some ⟨g,0,none⟩):=by simpa using A
 simp[results,h,j,asAddr,run_loadVar_mid w g 0 ty cs d hc D hd hi]
theorem zW {B g:Nat} (hB:B<=g):∀ (vs:List Value) (o:Nat) (w0 w:World),Below B w0 w->Below B w0 (w.setCells g o vs)
 | [],_,_,_,h=>h
 | v :: r,o,w0,_,h=>zW hB r (o+1) w0 _ (h.setCell (p:=⟨g,o,none⟩) hB v)
theorem vK (g:Nat):∀ (vs:List Value) (o:Nat) (w:World),(w.setCells g o vs).heap.size=w.heap.size
 | [],_,_=>rfl
 | _ :: r,o,_=>(vK g r (o+1) _).trans (by simp[World.setCell])
theorem QK (w:World) (o:Obj) (row:Option Nat):w.grownBy (w.alloc o).drew row:=let h:=World.grownBy_alloc w o row;⟨h.os,h.tape,h.output,h.size,h.block⟩
theorem yu {w:World} {B:Nat} {e:TypeId} {s:Nat} {v:Value} {n:Nat} {xs:List Value} (h:w.ownsRow B e s v n xs) (k:Nat) (j:v.ownBlock=some k):B<=k/\k<w.heap.size:=h.lt k j
theorem ZW {B:Nat} {w0 w j w3:World} {r:Option Nat} (h:Below B w0 w) (hB:B<=w0.heap.size) (hx:w.grownBy j none) (A:j.grownBy w3 r) (hr:∀ k,r=some k->B<=k):Below B w0 w3 :=
 (h.grown hx (Wz9 hB h.size) (fun k h=>by cases h)).grown A (Wz9 (Wz9 hB h.size) hx.size) hr
theorem GQ (zs:List Int) (k:Nat) (h:k<zs.length):zs.take (k+1)=zs.take k++[zs.getD k 0]:=by
 rw[List.take_succ_eq_append_getElem h];simp[h]
def IsB (l:List Int):Prop := ∀ x ∈ l,0<=x/\x<256
theorem IsB.at {l:List Int} (h:IsB l) (i:Nat):0<=l.getD i 0/\l.getD i 0<256:=by
 by_cases hi:i<l.length
 ·exact h _ (by rw[List.getD_eq_getElem?_getD,List.getElem?_eq_getElem hi];exact Wz4 _)
 rw[List.getD_eq_getElem?_getD,List.getElem?_eq_none (by omega)];simp
def IsW (l:List Int):Prop := ∀ x ∈ l,0<=x/\x<4294967296
theorem IsW.at {l:List Int} (h:IsW l) (i:Nat):0<=l.getD i 0/\l.getD i 0<4294967296:=by
 by_cases hi:i<l.length
 ·exact h _ (by rw[List.getD_eq_getElem?_getD,List.getElem?_eq_getElem hi];exact Wz4 _)
 rw[List.getD_eq_getElem?_getD,List.getElem?_eq_none (by omega)];simp
theorem IsW.set {l:List Int} (h:IsW l) (i:Nat) (v:Int) (hv:0<=v/\v<4294967296):IsW (l.set i v):=by
 intro x hx;rcases List.mem_or_eq_of_mem_set hx with j | j
 ·exact h x j
 rw[j];exact hv
theorem Lw (l:List Int) (i j:Nat) (v:Int) (hi:i<l.length):(l.set i v).getD j 0=if i=j then v else l.getD j 0:=by
 rw[List.getD_eq_getElem?_getD,List.getElem?_set];by_cases h:i=j
 ·subst h;simp[hi]
 simp[h]
theorem ZY (o:BinOp) (a b:Int) (h:o=.and ∨ o=.or ∨ o=.xor):0<=bits o .u32 a b/\bits o .u32 a b<4294967296:=by
 rcases h with rfl | rfl | rfl;all_goals
  show 0<=IntKind.u32.wrap _/\IntKind.u32.wrap _<_;rw[IntKind.wrap_u32'];omega
def zq9 (x:Int):Int:=bits .or .u32 (x*2 % 4294967296) (x / 2147483648)
def E9 (x:Int):Int:=bits .or .u32 (x*32 % 4294967296) (x / 134217728)
def Dv (x:Int):Int:=bits .or .u32 (x*1073741824 % 4294967296) (x / 4)
def ch (b c d:Int):Int:=bits .or .u32 (bits .and .u32 b c) (bits .and .u32 (bits .xor .u32 4294967295 b) d)
def par (b c d:Int):Int:=bits .xor .u32 (bits .xor .u32 b c) d
def maj (b c d:Int):Int:=bits .or .u32 (bits .or .u32 (bits .and .u32 b c) (bits .and .u32 b d)) (bits .and .u32 c d)
def U (x:Int):Prop:=0<=x/\x<4294967296
theorem zqz (x:Int):U (zq9 x):=ZY _ _ _ (by simp)
theorem zqq (x:Int):U (E9 x):=ZY _ _ _ (by simp)
theorem O8 (x:Int):U (Dv x):=ZY _ _ _ (by simp)
theorem ch_bd (a b c:Int):U (ch a b c):=ZY _ _ _ (by simp)
theorem zqx (a b c:Int):U (par a b c):=ZY _ _ _ (by simp)
theorem qv6 (a b c:Int):U (maj a b c):=ZY _ _ _ (by simp)
theorem zkq:bits .and .u64 1 31=1:=by decide +kernel
theorem zkx:bits .and .u64 5 31=5:=by decide +kernel
theorem zqj:bits .and .u64 30 31=30:=by decide +kernel
theorem rot1 (x:Int) (w:World) (hx:U x):Calls prog 223 #[.int .u32 x,.int .i64 1] w fun e w'=>e=.returned (.int .u32 (zq9 x))/\w=w':=by
 obtain⟨h,hx1⟩:=hx;have j:=zkq;go_enter func223,ntmps223;go_wp2;go_ret;exact⟨rfl,rfl⟩
theorem rot5 (x:Int) (w:World) (hx:U x):Calls prog 223 #[.int .u32 x,.int .i64 5] w fun e w'=>e=.returned (.int .u32 (E9 x))/\w=w':=by
 obtain⟨h,hx1⟩:=hx;have j:=zkx;go_enter func223,ntmps223;go_wp2;go_ret;exact⟨rfl,rfl⟩
theorem rot30 (x:Int) (w:World) (hx:U x):Calls prog 223 #[.int .u32 x,.int .i64 30] w fun e w'=>e=.returned (.int .u32 (Dv x))/\w=w':=by
 obtain⟨h,hx1⟩:=hx;have j:=zqj;go_enter func223,ntmps223;go_wp2;go_ret;exact⟨rfl,rfl⟩
theorem Dy (b c d:Int) (w:World) (hb:U b) (hc:U c) (hd:U d):Calls prog 238 #[.int .u32 b,.int .u32 c,.int .u32 d] w fun e w'=>e=.returned (.int .u32 (ch b c d))/\w=w':=by
 obtain⟨h,j⟩:=hb;obtain⟨A,D⟩:=hc;obtain⟨G,I⟩:=hd;have K:IntKind.u32.signed=false:=rfl;have J:IntKind.u32.max=4294967295:=rfl;go_enter func238,ntmps238;go_wp2;go_ret;exact⟨rfl,rfl⟩
theorem J6 (b c d:Int) (w:World) (hb:U b) (hc:U c) (hd:U d):Calls prog 239 #[.int .u32 b,.int .u32 c,.int .u32 d] w fun e w'=>e=.returned (.int .u32 (par b c d))/\w=w':=by
 obtain⟨h,j⟩:=hb;obtain⟨A,D⟩:=hc;obtain⟨G,I⟩:=hd;go_enter func239,ntmps239;go_wp2;go_ret;exact⟨rfl,rfl⟩
theorem NJ (b c d:Int) (w:World) (hb:U b) (hc:U c) (hd:U d):Calls prog 240 #[.int .u32 b,.int .u32 c,.int .u32 d] w fun e w'=>e=.returned (.int .u32 (maj b c d))/\w=w':=by
 obtain⟨h,j⟩:=hb;obtain⟨A,D⟩:=hc;obtain⟨G,I⟩:=hd;go_enter func240,ntmps240;go_wp2;go_ret;exact⟨rfl,rfl⟩
theorem qv7 (n:Nat) (h l:Int) (h0:0<=h) (l0:0<=l) (j:l<2 ^ n) (hs:h*2 ^ n+l<4294967296):bits .or .u32 (h*2 ^ n) l=h*2 ^ n+l:=by
 obtain⟨a,rfl⟩:=Wz0 h0;obtain⟨b,rfl⟩:=Wz0 l0;obtain⟨q,D⟩:∃ q,q=2 ^ n:=⟨_,rfl⟩;have hb:b<2 ^ n:=by exact_mod_cast j
 have e:2 ^ n*a+b=2 ^ n*a ||| b:=Nat.two_pow_add_eq_or_of_lt hb a
 have A:((a:Int)*2 ^ n)=((2 ^ n*a:Nat):Int):=by push_cast;rw[Int.mul_comm]
 rw[A] at hs ⊢;rw[u32_or_nat _ _ (by omega) (by omega),<-e];push_cast;rfl
theorem or8 (v x:Int) (hv:0<=v/\v<16777216) (hx:0<=x/\x<256):bits .or .u32 (v*256 % 4294967296) x=v*256+x:=by
 rw[show v*256 % 4294967296=v*2 ^ 8 from by omega,qv7 8 v x hv.1 hx.1 (by omega) (by omega)];rfl
def At (w:World) (b off:Nat) (zs:List Int):Prop := ∀ i,i<zs.length->w.cell? ⟨b,off+i,none⟩=some (.int .u8 (zs.getD i 0))
def val (zs:List Int) (j:Nat):Nat->Int
 | 0=>0
 | m+1=>val zs j m*256+zs.getD (4*j+m) 0
theorem Du (zs:List Int) (A:IsB zs) (j:Nat):∀ m,0<=val zs j m/\val zs j m<256 ^ m
 | 0=>by simp[val]
 | m+1=>by
  have h:=Du zs A j m;have hb:=A.at (4*j+m);simp only[val,Int.pow_succ];generalize (256:Int) ^ m=q at h ⊢;omega
def wAt (zs:List Int) (k:Nat):List Int:=(List.range 80).map fun j=>val zs j (min (k-4*j) 4)
theorem XW (zs:List Int) (k:Nat):(wAt zs k).length=80:=by simp[wAt]
theorem Ez (zs:List Int) (k j:Nat) (h:j<80):(wAt zs k).getD j 0=val zs j (min (k-4*j) 4):=by simp[wAt,h]
theorem zqk (zs:List Int):wAt zs 0=Wz7 80 0:=by
 apply Wz2 (by rw[XW,List.length_replicate]);intro j h A;rw[List.getElem_replicate];simp only[wAt,Wz3,Wz5];rw[show min (0-4*j) 4=0 from by omega];rfl
theorem zqv (zs:List Int) (k:Nat) (h:k<64):wAt zs (k+1)=(wAt zs k).set (k / 4) ((wAt zs k).getD (k / 4) 0*256+zs.getD k 0):=by
 rw[Ez zs k (k / 4) (by omega)];apply Wz2 (by simp[wAt]);intro j A D;have G:j<80:=by rw[XW] at A;exact A
 rw[List.getElem_set];by_cases e:k / 4=j
 ·rw[if_pos e];subst e;simp only[wAt,Wz3,Wz5];rw[show min (k+1-4*(k / 4)) 4=min (k-4*(k / 4)) 4+1 from by omega,val,show 4*(k / 4)+min (k-4*(k / 4)) 4=k from by omega]
 rw[if_neg e];simp only[wAt,Wz3,Wz5];rw[show min (k+1-4*j) 4=min (k-4*j) 4 from by omega]
theorem O9 (zs:List Int) (A:IsB zs) (k:Nat) (h:k<64):0<=(wAt zs k).getD (k / 4) 0/\(wAt zs k).getD (k / 4) 0<16777216:=by
 rw[Ez zs k _ (by omega)];have hb:=Du zs A (k / 4) (min (k-4*(k / 4)) 4);have j:min (k-4*(k / 4)) 4<=3:=by omega
 refine⟨hb.1,Wz1 hb.2 ?_⟩;generalize min (k-4*(k / 4)) 4=m at j;match m,j with
 | 0,_=>decide
 | 1,_=>decide
 | 2,_=>decide
 | 3,_=>decide
theorem Eq (zs:List Int) (A:IsB zs) (k:Nat):IsW (wAt zs k):=by
 intro x hx;simp only[wAt,Wz6,List.mem_range] at hx;obtain⟨j,-,rfl⟩:=hx;have hb:=Du zs A j (min (k-4*j) 4);have h:min (k-4*j) 4<=4:=by omega
 refine⟨hb.1,Wz1 hb.2 ?_⟩;generalize min (k-4*j) 4=m at h;match m,h with
 | 0,_=>decide
 | 1,_=>decide
 | 2,_=>decide
 | 3,_=>decide
 | 4,_=>decide
def nx (v:List Int) (i:Nat):Int:=bits .xor .u32 (bits .xor .u32 (bits .xor .u32 (v.getD (i-3) 0) (v.getD (i-8) 0)) (v.getD (i-14) 0)) (v.getD (i-16) 0)
def NV (ws:List Int):Nat->List Int
 | 0=>ws
 | j+1=>(NV ws j).set (16+j) (zq9 (nx (NV ws j) (16+j)))
theorem J7 (ws:List Int):∀ j,(NV ws j).length=ws.length
 | 0=>rfl
 | j+1=>by rw[NV,List.length_set,J7 ws j]
theorem J8 (ws:List Int) (h:IsW ws):∀ j,IsW (NV ws j)
 | 0=>h
 | j+1=>(J8 ws h j).set _ _ (zqz _)
theorem nx_bd (v:List Int) (i:Nat):U (nx v i):=ZY _ _ _ (by simp)
def Xj (zs:List Int):List Int:=NV (wAt zs 64) 64
theorem DZ (zs:List Int):(Xj zs).length=80:=by rw[Xj,J7,XW]
theorem DQ (zs:List Int) (h:IsB zs):IsW (Xj zs):=J8 _ (Eq zs h 64) _
theorem wrap_i64 (n:Nat) (h:n<9223372036854775808):IntKind.i64.wrap (n:Int)=n:=by
 rw[IntKind.wrap_i64];omega
theorem GX (w:World):w.drew.heap=w.heap:=rfl
def z80:List Int:=Wz7 80 0
theorem zqw (w:World):(zeroValue 322).run prog w=.ok (.agg (row .u32 z80).toArray) w:=by kernel_rfl
theorem U9 (w:World) (a b c:Obj):((((w.alloc a).alloc b).alloc c).heap[w.heap.size]? = some a/\(((w.alloc a).alloc b).alloc c).heap[w.heap.size+1]? = some b)/\(((w.alloc a).alloc b).alloc c).heap[w.heap.size+1+1]? = some c:=by
 refine⟨⟨?_,?_⟩,?_⟩
 ·rw[Below.heap_alloc _ _ _ (by simp;omega)];exact heap_alloc2_old w a b
 ·rw[Below.heap_alloc _ _ _ (by simp)];exact heap_alloc2_new w a b
 have:=heap_alloc_new ((w.alloc a).alloc b) c;simpa using this
theorem DX (zs:List Int) (w:World) (hl:zs.length=64) (hz:IsB zs) :
  Calls prog 221 #[.agg (row .u8 zs).toArray] w fun e w'=>e=.returned (.agg (row .u32 (Xj zs)).toArray)/\Below w.heap.size w w':=by
 have M:∀ l:List Int,l.length=80->(prog.info? 322).map (·.size)=some (row .u32 l).length:=fun l h=>by rw[zv,h];exact size322
 have L:(prog.info? 299).map (·.size)=some (row .u8 zs).length:=by rw[zv,hl];exact size299
 obtain⟨arr,HA⟩:=nn_ (row .u8 zs);rw[<-HA.out];have aj:arr.toArray.size=64:=by rw[HA.out,vJ];exact hl
 rw[<-HA.out] at L;have HX:Hid (∀ i,i<64->arr.toArray[i]? = some (.int .u8 (zs.getD i 0))):=fun i hi=>by rw[HA.out];simpa using uW .u8 zs i (by omega)
 obtain⟨zr,HZ⟩:=nn_ ((row .u32 z80).toArray);have ai:=zqw;rw[<-HZ.out] at ai;have H3:Hid (_/\_):=U9 w (.cells arr.toArray 299) (.cells zr 322) (.cells zr 322);have a8:Hid (Below w.heap.size w (((w.alloc (.cells arr.toArray 299)).alloc (.cells zr 322)).alloc (.cells zr 322))):=(((Below.refl _ w).alloc (Wz8 _) _).alloc (by simp) _).alloc (by simp;omega) _
 go_enter func221,ntmps221;go_wp2_with (refine wpList_load_mid rfl 299 _ rfl w.heap.size 0 rfl arr _ (zw H3.out.1.1) underlying299 rfl L ?_)
 go_loopg [8] 64 (fun k i wr=>∃ j:Nat,j<=64/\k=64-j/\i=.int .i64 j/\Hid (wr.heap[w.heap.size+1+1]? = some (.cells (row .u32 (wAt zs j)).toArray 322 (0,0)))/\Hid (wr.heap[w.heap.size+1]? = some (.cells (row .u32 z80).toArray 322 (0,0)))/\Hid (Below w.heap.size w wr));case atStart =>
  refine⟨0,by omega,rfl,rfl,hid ?_,hid ?_,a8⟩
  ·rw[zqk,H3.out.2,HZ.out];rfl
  rw[H3.out.1.2,HZ.out]
 obtain⟨j,hj,hk,rfl,H1,H0,V⟩:=hrel;by_cases A:j<64
 ·have ad:∀ w1:World,(Instr.index 299 (.agg arr.toArray) (.int .i64 j)).run prog w1=.ok (.int .u8 (zs.getD j 0)) w1:=fun w1=>YZ 299 5 64 _ _ j _ w1 underlying299 size5 _ underlying5 rfl A (HX.out j A);obtain⟨x,Q⟩:=nn_ (zs.getD j 0);rw[<-Q.out] at ad;have ah:0<=x/\x<256:=by rw[Q.out];exact hz.at j
  obtain⟨m,HM⟩:=nn_ (j / 4);have hm:j / 4=m:=HM.out.symm;have ae:m<80:=by omega
  obtain⟨v,G⟩:=nn_ ((wAt zs j).getD (j / 4) 0);have hv:0<=v/\v<16777216:=by rw[G.out];exact O9 zs hz j A
  have hc:wr.cell? ⟨w.heap.size+1+1,m,none⟩=some (.int .u32 v):=by rw[G.out,hm];exact xQ H1.out m (by rw[XW];exact ae)
  have az:=frozen_of_row wr (w.heap.size+1+1) m _ 322 H1.out;obtain⟨y,HY⟩:=nn_ (v*256+x);have a6:=or8 v x hv ah;rw[<-HY.out] at a6;have a7:bits .or .u32 (v*256) x=y:=by rw[<-a6];congr 1;omega
  go_wp2;go_roundg (64-(j+1));case measure=>omega
  refine⟨j+1,by omega,rfl,by go_num,hid ?_,hid ?_,V.out.setCell (by simp <;> omega) _⟩
  ·rw[heap_setCell_same wr _ _ _ _ _ H1.out,zqv zs j A,<-G.out,<-Q.out,<-HY.out,hm,jZ,<-a7]
  rw[heap_setCell_other wr _ _ _ (by simp)];exact H0.out
 obtain rfl:j=64:=by omega
 go_wp2;go_loopg [6] 64 (fun k i wr=>∃ j:Nat,j<=64/\k=64-j/\i=.int .i64 (16+j:Nat)/\Hid (wr.heap[w.heap.size+1+1]? = some (.cells (row .u32 (NV (wAt zs 64) j)).toArray 322 (0,0)))/\Hid (wr.heap[w.heap.size+1]? = some (.cells (row .u32 z80).toArray 322 (0,0)))/\Hid (Below w.heap.size w wr));case atStart=>exact⟨0,by omega,rfl,rfl,H1,H0,V⟩
 case round =>
 clear H1 H0 V;obtain⟨j,hj,hk,rfl,H1,H0,V⟩:=hrel;obtain⟨v,G⟩:=nn_ (NV (wAt zs 64) j);rw[<-G.out] at H1;have D:v.length=80:=by rw[G.out,J7,XW]
 have aA:IsW v:=by rw[G.out];exact J8 _ (Eq zs hz 64) _
 obtain⟨q,O⟩:=nn_ (16+j);rw[<-O.out];have hq:16<=q/\q<=80:=by have:=O.out;omega
 by_cases A:q<80;rotate_left
 ·obtain rfl:q=80:=by omega
  have Z:j=64:=by have:=O.out;omega
  subst Z;have T1:Hid (wr.there (w.heap.size+1) 0 (row .u32 v).toArray.size):=hid (by rw[vJ,D];exact yW H0.out (by simp[z80]));have T2:Hid ((prog.info? 322).map (·.size)=some (row .u32 v).toArray.size):=hid (by rw[vJ,D];exact size322);have T3:Hid ((row .u32 v).toArray.all (·.oneCell')=true):=all_oneCell_toArray (yK _ _)
  have ac:Hid (v=Xj zs):=G.out;go_wp2_with (first | refine wpList_load_mid rfl 322 _ rfl (w.heap.size+1+1) 0 rfl (row .u32 v) _ (zw H1.out) underlying322 rfl (M _ D) ?_ | refine wpList_store_mid rfl 322 _ _ rfl (w.heap.size+1) 0 (row .u32 v).toArray rfl rfl T1.out T2.out T3.out ?_)
  rw[<-ac.out];refine bodyPost_ret (v:=.agg (row .u32 v).toArray) (yq Tryz.results221 _ _ (w.heap.size+1) _ _ rfl (World.rangeAt_setCells_same wr (w.heap.size+1) 0 _ ?_) underlying322 rfl (M _ D)) rfl ⟨rfl,zW (by omega) _ _ _ _ V.out⟩;rw[zv,D];exact yW H0.out (by simp[z80])
 obtain⟨x1,G1⟩:=nn_ (v.getD (q-3) 0);obtain⟨x2,G2⟩:=nn_ (v.getD (q-8) 0);obtain⟨x3,G3⟩:=nn_ (v.getD (q-14) 0);obtain⟨x4,G4⟩:=nn_ (v.getD (q-16) 0);obtain⟨q1,Q1⟩:=nn_ (q-3);have e1:IntKind.i64.wrap ((q:Int)-3)=(q1:Int):=by rw[show (q:Int)-3=(q1:Int) from by have:=Q1.out;omega];exact wrap_i64 _ (by have:=Q1.out;omega)
 have b1:q1<80:=by have:=Q1.out;omega
 have ak:(q1:Int)<80:=by omega
 have au:(0:Int)<=q1:=by omega
 have c1:wr.cell? ⟨w.heap.size+1+1,q1,none⟩=some (.int .u32 x1):=by rw[G1.out,Q1.out];exact xQ H1.out _ (by omega)
 obtain⟨I,Q2⟩:=nn_ (q-8);have e2:IntKind.i64.wrap ((q:Int)-8)=(I:Int):=by rw[show (q:Int)-8=(I:Int) from by have:=Q2.out;omega];exact wrap_i64 _ (by have:=Q2.out;omega)
 have b2:I<80:=by have:=Q2.out;omega
 have am:(I:Int)<80:=by omega
 have av:(0:Int)<=I:=by omega
 have c2:wr.cell? ⟨w.heap.size+1+1,I,none⟩=some (.int .u32 x2):=by rw[G2.out,Q2.out];exact xQ H1.out _ (by omega)
 obtain⟨J,Q3⟩:=nn_ (q-14);have e3:IntKind.i64.wrap ((q:Int)-14)=(J:Int):=by rw[show (q:Int)-14=(J:Int) from by have:=Q3.out;omega];exact wrap_i64 _ (by have:=Q3.out;omega)
 have b3:J<80:=by have:=Q3.out;omega
 have ao:(J:Int)<80:=by omega
 have aw:(0:Int)<=J:=by omega
 have c3:wr.cell? ⟨w.heap.size+1+1,J,none⟩=some (.int .u32 x3):=by rw[G3.out,Q3.out];exact xQ H1.out _ (by omega)
 obtain⟨K,Y⟩:=nn_ (q-16);have e4:IntKind.i64.wrap ((q:Int)-16)=(K:Int):=by rw[show (q:Int)-16=(K:Int) from by have:=Y.out;omega];exact wrap_i64 _ (by have:=Y.out;omega)
 have b4:K<80:=by have:=Y.out;omega
 have ap:(K:Int)<80:=by omega
 have ax:(0:Int)<=K:=by omega
 have c4:wr.cell? ⟨w.heap.size+1+1,K,none⟩=some (.int .u32 x4):=by rw[G4.out,Y.out];exact xQ H1.out _ (by omega)
 have c5:wr.cell? ⟨w.heap.size+1+1,q,none⟩=some (.int .u32 (v.getD q 0)):=xQ H1.out _ (by omega);have ar:(q:Int)<80:=by omega
 have ay:(0:Int)<=q:=by omega
 have f5:=frozen_of_row wr (w.heap.size+1+1) q _ 322 H1.out;obtain⟨n,HN⟩:=nn_ (nx v q);have hn:bits .xor .u32 (bits .xor .u32 (bits .xor .u32 x1 x2) x3) x4=n:=by rw[HN.out,G1.out,G2.out,G3.out,G4.out];rfl
 have ag:U n:=by rw[HN.out];exact nx_bd v q
 have k1:∀ (W:World) (u:Value),(W.setCell ⟨w.heap.size+1+1,q,none⟩ u).cell? ⟨w.heap.size+1+1,q1,none⟩=W.cell? ⟨w.heap.size+1+1,q1,none⟩:=fun W u=>World.cell?_setCell_other _ _ _ _ (by intro h;simp only[Addr.mk.injEq] at h;have:=Q1.out;omega)
 have k2:∀ (W:World) (u:Value),(W.setCell ⟨w.heap.size+1+1,q,none⟩ u).cell? ⟨w.heap.size+1+1,I,none⟩=W.cell? ⟨w.heap.size+1+1,I,none⟩:=fun W u=>World.cell?_setCell_other _ _ _ _ (by intro h;simp only[Addr.mk.injEq] at h;have:=Q2.out;omega)
 have k3:∀ (W:World) (u:Value),(W.setCell ⟨w.heap.size+1+1,q,none⟩ u).cell? ⟨w.heap.size+1+1,J,none⟩=W.cell? ⟨w.heap.size+1+1,J,none⟩:=fun W u=>World.cell?_setCell_other _ _ _ _ (by intro h;simp only[Addr.mk.injEq] at h;have:=Q3.out;omega)
 have k4:∀ (W:World) (u:Value),(W.setCell ⟨w.heap.size+1+1,q,none⟩ u).cell? ⟨w.heap.size+1+1,K,none⟩=W.cell? ⟨w.heap.size+1+1,K,none⟩:=fun W u=>World.cell?_setCell_other _ _ _ _ (by intro h;simp only[Addr.mk.injEq] at h;have:=Y.out;omega);go_wp2
 go_region_held3 (fun w'=>w'.cell? ⟨w.heap.size+1+1,q1,none⟩=some (.int .u32 x1)/\w'.cell? ⟨w.heap.size+1+1,I,none⟩=some (.int .u32 x2)/\w'.cell? ⟨w.heap.size+1+1,J,none⟩=some (.int .u32 x3)/\w'.cell? ⟨w.heap.size+1+1,K,none⟩=some (.int .u32 x4)) (go_keep) ((go_at_call 223;refine(rot1 n _ ag).mono ?_;rintro e w1 ⟨rfl,rfl⟩));go_wp2;go_roundg (64-(j+1))
 case measure=>have:=O.out;omega
 case rel =>
 refine⟨j+1,by have:=O.out;omega,rfl,by have:=O.out;go_num,hid ?_,hid ?_,(V.out.setCell (by simp <;> omega) _).drew⟩
 ·rw[GX,heap_setCell_same wr _ _ _ _ _ H1.out,NV,<-G.out,<-O.out,<-HN.out,jZ]
 rw[GX,heap_setCell_other wr _ _ _ (by simp)];exact H0.out
structure S5 where
 a:Int
 b:Int
 c:Int
 d:Int
 e:Int
def S5.ok (s:S5):Prop:=U s.a/\U s.b/\U s.c/\U s.d/\U s.e
def S5.l (s:S5):List Int:=[s.a,s.b,s.c,s.d,s.e]
def fi (i:Nat) (b c d:Int):Int:=if i<20 then ch b c d else if i<40 then par b c d else if i<60 then maj b c d else par b c d
def ki (i:Nat):Int:=if i<20 then 1518500249 else if i<40 then 1859775393 else if i<60 then 2400959708 else 3395469782
def rd (W:List Int) (i:Nat) (s:S5):S5:=⟨(E9 s.a+fi i s.b s.c s.d+s.e+ki i+W.getD i 0) % 4294967296,s.a,Dv s.b,s.c,s.d⟩
def rds (W:List Int) (s:S5):Nat->S5
 | 0=>s
 | n+1=>rd W n (rds W s n)
theorem DJ (W:List Int) (s:S5) (h:s.ok):∀ n,(rds W s n).ok
 | 0=>h
 | n+1=>by
  obtain⟨j,G,A,D,I⟩:=DJ W s h n;exact⟨⟨by simp only[rds,rd];omega,by simp only[rds,rd];omega⟩,j,O8 _,A,D⟩
theorem fi_bd (i:Nat) (b c d:Int):U (fi i b c d):=by
 unfold fi;split
 ·exact ch_bd _ _ _
 split
 ·exact zqx _ _ _
 split
 ·exact qv6 _ _ _
 exact zqx _ _ _
def plus (s t:S5):S5:=⟨(s.a+t.a) % 4294967296,(s.b+t.b) % 4294967296,(s.c+t.c) % 4294967296,(s.d+t.d) % 4294967296,(s.e+t.e) % 4294967296⟩
def comp (s:S5) (zs:List Int):S5:=plus s (rds (Xj zs) s 80)
theorem zkj (s t:S5):(plus s t).ok:=by
 refine⟨⟨?_,?_⟩,⟨?_,?_⟩,⟨?_,?_⟩,⟨?_,?_⟩,?_,?_⟩ <;> simp only[plus] <;> omega
theorem zkk (s:S5) (zs:List Int):(comp s zs).ok:=zkj _ _
theorem kZ {w:World} {g n:Nat} {cs:Array Value} {t:TypeId} (h:w.heap[g]? = some (.cells cs t (0,0))) (D:cs.size=n):w.there g 0 n:=fun j A=>by
 rw[Wzz];refine⟨?_,frozen_of_row w g j _ t h⟩;rw[cell_of_row w g j _ t _ h];simp[D,A]
def Z8:Array Value:=#[.func (.func 238) #[] #[],.int .u32 1518500249,.func (.func 239) #[] #[],.int .u32 1859775393,.func (.func 240) #[] #[],.int .u32 2400959708,.func (.func 239) #[] #[],.int .u32 3395469782]
theorem Oz (w:World):Calls prog 222 #[] w fun e w'=>e=.returned (.agg Z8)/\Below w.heap.size w w':=by
 have H0:Hid ((w.alloc (.cells #[.nilFunc,.int .u32 0,.nilFunc,.int .u32 0,.nilFunc,.int .u32 0,.nilFunc,.int .u32 0] 327)).there w.heap.size 0 8):=kZ (heap_alloc_new w _) rfl;have h:Hid (Below w.heap.size w (w.alloc (.cells #[.nilFunc,.int .u32 0,.nilFunc,.int .u32 0,.nilFunc,.int .u32 0,.nilFunc,.int .u32 0] 327))):=(Below.refl _ w).alloc (Wz8 _) _
 go_enter func222,ntmps222;go_wp2_with (refine wpList_store_mid rfl 327 _ _ rfl w.heap.size 0 Z8 rfl rfl H0.out size327 (by kernel_rfl) ?_)
 exact bodyPost_ret (v:=.agg Z8) (yq Tryz.results222 _ _ w.heap.size Z8.toList _ rfl (World.rangeAt_setCells_same _ w.heap.size 0 _ H0.out) underlying327 rfl size327) rfl ⟨rfl,zW (Wz8 _) _ _ _ _ h.out⟩
theorem kind0 (w:World):(Instr.index 327 (.agg Z8) (.int .i64 (0:Nat))).run prog w=.ok (.agg #[.func (.func 238) #[] #[],.int .u32 1518500249]) w:=by kernel_rfl
theorem kind1 (w:World):(Instr.index 327 (.agg Z8) (.int .i64 (1:Nat))).run prog w=.ok (.agg #[.func (.func 239) #[] #[],.int .u32 1859775393]) w:=by kernel_rfl
theorem kind2 (w:World):(Instr.index 327 (.agg Z8) (.int .i64 (2:Nat))).run prog w=.ok (.agg #[.func (.func 240) #[] #[],.int .u32 2400959708]) w:=by kernel_rfl
theorem kind3 (w:World):(Instr.index 327 (.agg Z8) (.int .i64 (3:Nat))).run prog w=.ok (.agg #[.func (.func 239) #[] #[],.int .u32 3395469782]) w:=by kernel_rfl
theorem x7 (b off j:Nat):(⟨b,off,none⟩:Addr).add j=⟨b,off+j,none⟩:=by unfold Addr.add;split <;> simp_all
theorem zkv (w:World):(sizeOf (prog.elem 322)).run prog w=.ok 1 w:=by kernel_rfl
theorem qv9 (w:World):(sizeOf (prog.elem 299)).run prog w=.ok 1 w:=by kernel_rfl
theorem qx2:prog.arrayLen 322=80:=by kernel_rfl
theorem qx3:prog.arrayLen 299=64:=by kernel_rfl
theorem und47:prog.underlying 322=some (.array (prog.arrayLen 322) (prog.elem 322)):=by kernel_rfl
theorem und41:prog.underlying 299=some (.array (prog.arrayLen 299) (prog.elem 299)):=by kernel_rfl
theorem zkw (g m:Nat) (w:World) (h:m<=60):(Instr.sliceAt 322 (.pointer (some ⟨g,0,none⟩)) (some (.int .i64 m)) (some (.int .i64 ((m:Int)+20))) none).run prog w=.ok (.slice (some ⟨g,m,none⟩) 20 (80-m:Nat)) w:=by
 rw[run_sliceAt_array_lh w 322 _ und47 .i64 .i64 m (m+20) (by omega) (by omega) (by rw[qx2];omega),zkv,qx2];simp only[Result.andThen_ok,slicedAt];rw[if_neg (by omega),x7,show ((m:Int)+20).toNat-(m:Int).toNat=20 from by omega];simp
theorem zky (g o m:Nat) (w:World) (h:m<64):(Instr.sliceAt 299 (.pointer (some ⟨g,o,none⟩)) (some (.int .u64 m)) none none).run prog w=.ok (.slice (some ⟨g,o+m,none⟩) (64-m:Nat) (64-m:Nat)) w:=by
 rw[run_sliceAt_array_l w 299 _ und41 .u64 m (by omega) (by rw[qx3];omega),qv9,qx3];simp only[Result.andThen_ok,slicedAt];rw[if_neg (by omega),x7];simp
theorem zku (j n:Nat) (h:n<20):ki (20*j+n)=ki (20*j):=by
 unfold ki;repeat' split
 all_goals first | rfl | omega
theorem ki_bd (i:Nat):U (ki i):=by
 unfold ki U;split
 ·omega
 split
 ·omega
 split <;> omega
theorem qY {P:Program} {A:Array Oper} {o:Oper} {a:Act} {w:World} {K:Act->World->Prop} {Q:Exit->Act->World->Prop} {E:Prop} (D:o.guard=none) (f:FuncId) (args:List Operand) (ts:Array TypeId) (vs:List Value) (R:Ending->World->Prop)
  (I:o.op=.call { callee:=.value (.func f),args:=args.toArray,argTypes:=ts }) (hx:args.map a.eval=vs) (j:∀ w:World,(callFunc f vs.toArray).run P w=.ok (.enter f vs.toArray) w)
  (hc:Calls P f vs.toArray w R) (h:∀ e w',R e w'->∃ r,e=.returned r/\K (a.put o.dst r) w') :
  if Region.wanted o (yielded A a.tmps)=true then Oper.wp P o a w K Q else E:=by
 have J:Region.wanted o (yielded A a.tmps)=true:=by simp[Region.wanted,D]
 rw[if_pos J];unfold Oper.wp;simp only[execOp,I,resolve,invoke,go_sem,List.map_toArray,hx,j];simp[go_sem,j,Oper.upon_enter];refine hc.mono ?_;intro e w' hr;obtain⟨r,rfl,G⟩:=h e w' hr;exact G
theorem j8 {P:Program} {j:Region.Mode} {Q:Exit->Act->World->Prop} {S:World->Prop} {l:List Oper} {i:Nat} {A:Oper} {v:Value} {fuel:Nat} {listed:Array Bool} {a:Act} {w:World} (hi:l[i]? = some A)
  (hs:Region.noSelect l.toArray=true) (G:Region.free j l.toArray listed i=true) (hr:(Region.ready j l.toArray listed).contains i=true)
  (hQ:∀ c a w,Q (.panic c) (a.put A.dst v) w->Q (.panic c) a w) (hy:YieldsIf P l.toArray S A v a) (D:S w)
  (h:wpAnyH P j l.toArray Q S fuel (listed.setIfInBounds i true) (a.put A.dst v) w):wpAnyH P j l.toArray Q S (fuel+1) listed a w :=
 wpAnyH_take (by rw[List.getElem?_toArray];exact hi) hs G hr hQ hy D h
theorem xw {P:Program} {A:Region.Mode} {Q:Exit->Act->World->Prop} {S:World->Prop} {l:List Oper} {fuel:Nat} {listed:Array Bool} {a:Act} {w:World} {i:Nat} {o:Oper} {rs:List Nat} (D:l[i]? = some o)
  (h:∀ j:Act->World->Prop,Shut (∀ a w,S w->(S w->wpAnyH P A l.toArray Q S fuel (listed.setIfInBounds i true) a w)->j a w)->if Region.wanted o (yielded l.toArray a.tmps)=true then Oper.wp P o a w j Q else j (a.put o.dst undef) w)
  (hs:AllReadyH P A l.toArray Q S fuel listed a w rs):AllReadyH P A l.toArray Q S fuel listed a w (i :: rs):=AllReadyH.cons (by rw[List.getElem?_toArray];exact D) h hs
theorem tZ {P:Program} {A:Region.Mode} {Q:Exit->Act->World->Prop} {S:World->Prop} {l:List Oper} {i:Nat} {j:Oper} {v:Value} {fuel:Nat} {listed:Array Bool} {a:Act} {w:World} (D:S w) (h:wpAnyH P A l.toArray Q S fuel (listed.setIfInBounds i true) (a.put j.dst v) w) (hi:l[i]? = some j:=by rfl) (hs:Region.noSelect l.toArray=true:=by kernel_rfl) (G:Region.free A l.toArray listed i=true:=by kernel_rfl) (hr:(Region.ready A l.toArray listed).contains i=true:=by kernel_rfl) (hQ:∀ c a w,Q (.panic c) (a.put j.dst v) w->Q (.panic c) a w:=by exact fun _ _ _ h=>h) (I:Region.wanted j (yielded l.toArray a.tmps)=true:=by rfl) (hy:∀ w',S w'->(execOp a.eval j).run P w'=.ok (.value v) w':=by intro w' h;cases h;first | (go_simp;done) | (go_simp;rfl)):wpAnyH P A l.toArray Q S (fuel+1) listed a w:=j8 hi hs G hr hQ (Or.inl ⟨I,hy⟩) D h
theorem tV {P:Program} {A:Region.Mode} {Q:Exit->Act->World->Prop} {S:World->Prop} {l:List Oper} {i:Nat} {j:Oper} {v:Value} {fuel:Nat} {listed:Array Bool} {a:Act} {w:World} (D:S w) (h:wpAnyH P A l.toArray Q S fuel (listed.setIfInBounds i true) (a.put j.dst v) w) (hi:l[i]? = some j:=by rfl) (hs:Region.noSelect l.toArray=true:=by kernel_rfl) (G:Region.free A l.toArray listed i=true:=by kernel_rfl) (hr:(Region.ready A l.toArray listed).contains i=true:=by kernel_rfl) (hQ:∀ c a w,Q (.panic c) (a.put j.dst v) w->Q (.panic c) a w:=by exact fun _ _ _ h=>h) (I:Region.wanted j (yielded l.toArray a.tmps)=true:=by rfl) (hy:∀ w',S w'->(execOp a.eval j).run P w'=.ok (.value v) w':=by intro w' h;first | (go_simp;done) | (go_simp;rfl)):wpAnyH P A l.toArray Q S (fuel+1) listed a w:=j8 hi hs G hr hQ (Or.inl ⟨I,hy⟩) D h
theorem tG {P:Program} {A:Region.Mode} {Q:Exit->Act->World->Prop} {S:World->Prop} {l:List Oper} {i:Nat} {j:Oper} {v:Value} {fuel:Nat} {listed:Array Bool} {a:Act} {w:World} (D:S w) (h:wpAnyH P A l.toArray Q S fuel (listed.setIfInBounds i true) (a.put j.dst v) w) (hi:l[i]? = some j:=by rfl) (hs:Region.noSelect l.toArray=true:=by kernel_rfl) (G:Region.free A l.toArray listed i=true:=by kernel_rfl) (hr:(Region.ready A l.toArray listed).contains i=true:=by kernel_rfl) (hQ:∀ c a w,Q (.panic c) (a.put j.dst v) w->Q (.panic c) a w:=by exact fun _ _ _ h=>h) (I:Region.wanted j (yielded l.toArray a.tmps)=true:=by kernel_rfl) (hy:∀ w',S w'->(execOp a.eval j).run P w'=.ok (.value v) w':=by intro w' h;cases h;first | (go_simp;done) | (go_simp;rfl)):wpAnyH P A l.toArray Q S (fuel+1) listed a w:=j8 hi hs G hr hQ (Or.inl ⟨I,hy⟩) D h
theorem tN {P:Program} {j:Region.Mode} {Q:Exit->Act->World->Prop} {S:World->Prop} {l:List Oper} {i:Nat} {A:Oper} {fuel:Nat} {listed:Array Bool} {a:Act} {w:World} (D:S w) (h:wpAnyH P j l.toArray Q S fuel (listed.setIfInBounds i true) (a.put A.dst undef) w) (hi:l[i]? = some A:=by rfl) (hs:Region.noSelect l.toArray=true:=by kernel_rfl) (G:Region.free j l.toArray listed i=true:=by kernel_rfl) (hr:(Region.ready j l.toArray listed).contains i=true:=by kernel_rfl) (hQ:∀ c a w,Q (.panic c) (a.put A.dst undef) w->Q (.panic c) a w:=by exact fun _ _ _ h=>h) (I:Region.wanted A (yielded l.toArray a.tmps)=false:=by kernel_rfl):wpAnyH P j l.toArray Q S (fuel+1) listed a w:=j8 hi hs G hr hQ (Or.inr ⟨I,rfl⟩) D h
theorem tW {P:Program} {j:Region.Mode} {Q:Exit->Act->World->Prop} {S:World->Prop} {l:List Oper} {i:Nat} {A:Oper} {v:Value} {fuel:Nat} {listed:Array Bool} {a:Act} {w:World} (D:S w) (hi:l[i]? = some A) (hy:YieldsIf P l.toArray S A v a) (h:wpAnyH P j l.toArray Q S fuel (listed.setIfInBounds i true) (a.put A.dst v) w) (hs:Region.noSelect l.toArray=true:=by kernel_rfl) (G:Region.free j l.toArray listed i=true:=by kernel_rfl) (hr:(Region.ready j l.toArray listed).contains i=true:=by kernel_rfl) (hQ:∀ c a w,Q (.panic c) (a.put A.dst v) w->Q (.panic c) a w:=by exact fun _ _ _ h=>h):wpAnyH P j l.toArray Q S (fuel+1) listed a w:=j8 hi hs G hr hQ hy D h
end Go.Proofs.YtdnphaganajejaaGreatDoor
