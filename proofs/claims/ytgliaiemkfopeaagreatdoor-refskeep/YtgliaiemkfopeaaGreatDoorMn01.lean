import Derived.Shelf.Small.Utf8
import Derived.Shelf.Small.Strs
import Derived.Test.YtgliaiemkfopeaaGreatDoorProg
import Derived.Test.YtgliaiemkfopeaaGreatDoorChecked
import Derived.RowKit
import Derived.Below
import Derived.WalkKit
import Derived.WalkSpells
import Derived.WalkLawsBesides
import Derived.Deep.AppendLies
import Derived.Deep.LoopGhost
import Derived.Deep.RegionWith
import Derived.Deep.QuietTactic
import Derived.BigQuiet
import Derived.Laws.BitsAllLaws
import Derived.Laws.CopyOwn
import Derived.Laws.IdiomCopy
import Derived.Deep.RegionHeld3
import Derived.Deep.RegionLaw
import Derived.Deep.DrawnRows
import Derived.Deep.MidRow
import Derived.Maps.AppendAt
import Derived.Deep.RegionHeld
import Derived.OrdersHeld
import Derived.ArgAppend
import Derived.ChangeKeysEq
import Derived.Deep.Onto
import Derived.DeepKeys4
import Derived.Defers
import Derived.Great.BuildSlice
import Derived.LaidEql
import Derived.Laws.BytesArg
import Derived.Laws.Externs
import Derived.Laws.IdiomStrings
import Derived.Laws.RangeAny
import Derived.Laws.Runes
import Derived.Laws.StructEq
import Derived.Lib.AppendStr
import Derived.Lib.AppendZeros
import Derived.Lib.Bytealg
import Derived.Lib.Bytes
import Derived.Lib.IndexMore
import Derived.Lib.ItoaNum
import Derived.Lib.OthersKept
import Derived.Lib.QuoteLoop
import Derived.Lib.SlBytesRow
import Derived.Lib.SpaceUEq
import Derived.Lib.Strings
import Derived.Lib.TrimUEq
import Derived.Maps.OwnIn
import Derived.Maps.OwnOps
import Derived.Maps.OwnSet
import Derived.Maps.Range
import Derived.Maps.RangeWalk
import Derived.OwnWalk
import Derived.OwnWalkIn
import Derived.RangeFuncBound
import Derived.RangeFuncBox
import Derived.RangeFuncCalls
import Derived.RangeFuncLeaves
import Derived.RangeFuncNested
import Derived.Recover
import Derived.RowKitTokens
import Derived.Shelf.Abstract
import Derived.Shelf.Bytes.SlEqualAll
import Derived.Shelf.Bytes.SlSmallAll
import Derived.Shelf.LaysC
import Derived.Shelf.LaysM
import Derived.Shelf.RegionOpen
import Derived.Shelf.SlicesE.Clone
import Derived.Shelf.Strconv.AtoiAll
import Derived.Shelf.Strconv.ErrVarAll
import Derived.Shelf.Strconv.ErrVarParseInt
import Derived.Shelf.Strconv.Itoa3
import Derived.Shelf.Strconv.Itoa4
import Derived.Shelf.Strings.Cut
import Derived.Shelf.Strings.IndexAnyAll
import Derived.Shelf.Strings.OnBuilder
import Derived.Shelf.Strings.Prefix
import Derived.Shelf.Strings.Search3
import Derived.Shelf.Strings.SlTrimAscii
import Derived.Sort.LoopGhostIn
import Derived.Sort.Statements
import Derived.StillTail
import Derived.Stop.Asserts
import Derived.TacticsInMore
import Derived.WalkMore
import Derived.WideKeyEntry
set_option linter.unusedSimpArgs false
set_option linter.unusedVariables false
set_option maxRecDepth 20000
set_option maxHeartbeats 4000000
namespace Go.Proofs
open Go.Shelf
def Tryz.lays119_ren:Go.Shelf.Ren:=⟨fun | 119=>178 | n=>n,fun | 21=>21 | 4=>4 | n=>n,fun | n=>n⟩
theorem Tryz.lays119:Go.Proofs.Lays.n119 Tryz.prog Tryz.lays119_ren:={
 mixed:=by kernel_rfl
 f119:=Tryz.func178.trans (congrArg some (by kernel_rfl))
 t4:=Tryz.underlying4
 a4:=Tryz.isAgg4
 z4:=Tryz.sizeOf4
 v4:=Tryz.zeroValue4
 t21:=Tryz.underlying21
 a21:=Tryz.isAgg21
 z21:=Tryz.sizeOf21
 v21:=Tryz.zeroValue21 }
def Tryz.lays137_ren:Go.Shelf.Ren:=⟨fun | 137=>177 | 217=>194 | 266=>218 | n=>n,fun | 9=>9 | 5=>5 | 3=>3 | n=>n,fun | n=>n⟩
theorem Tryz.lays137:Go.Proofs.Lays.n137 Tryz.prog Tryz.lays137_ren:={
 mixed:=by kernel_rfl
 f137:=Tryz.func177.trans (congrArg some (by kernel_rfl))
 f217:=Tryz.func194.trans (congrArg some (by kernel_rfl))
 f266:=Tryz.func218.trans (congrArg some (by kernel_rfl))
 t3:=Tryz.underlying3
 a3:=Tryz.isAgg3
 z3:=Tryz.sizeOf3
 v3:=Tryz.zeroValue3
 t5:=Tryz.underlying5
 a5:=Tryz.isAgg5
 z5:=Tryz.sizeOf5
 v5:=Tryz.zeroValue5
 t9:=Tryz.underlying9
 a9:=Tryz.isAgg9
 z9:=Tryz.sizeOf9
 v9:=Tryz.zeroValue9 }
end Go.Proofs
namespace Go.Proofs.YtgliaiemkfopeaaGreatDoor
open Go.RowKit
theorem sL {α:Type} : (∀ (l:List α) (i:Nat) (v:α),l.toArray.setIfInBounds i v=(l.set i v).toArray)/\(∀ (l:List α) (a b:α),(a :: l).set 0 b=b :: l)/\(∀ (l:List α) (n:Nat) (a b:α),(a :: l).set (n+1) b=a :: l.set n b):=⟨fun l i v=>List.setIfInBounds_toArray ..,fun _ _ _=>rfl,fun _ _ _ _=>rfl⟩
theorem nm_ {α:Sort _} (a:α):∃ x,Hid (a=x):=⟨_,rfl⟩
theorem nn_ {α:Sort _} (a:α):∃ x,Hid (x=a):=⟨_,rfl⟩
theorem hid {p:Prop} (h:p):Hid p:=h
theorem qu {o:Option TypeInfo} {z:Value} {a b:Nat} (h:o.map (fun i=>(i.zero,i.size,i.bytes))=some (some z,a,b)):∃ i,o=some i/\i.zero=some z/\i.size=a/\i.bytes=b:=by
 cases o with
 | none=>simp at h
 | some i=>simp at h;exact⟨i,rfl,h.1,h.2.1,h.2.2⟩
theorem Tryz.info5:(Tryz.prog.info? 5).map (fun i=>(i.zero,i.size,i.bytes))=some (some (.int .u8 0),1,1):=by kernel_rfl
theorem Tryz.size5:(Tryz.prog.info? 5).map (·.size)=some 1:=by kernel_rfl
theorem Tryz.size218:(Tryz.prog.info? 218).map (·.size)=some 1:=by kernel_rfl
theorem Tryz.size89:(Tryz.prog.info? 89).map (·.size)=some 20:=by kernel_rfl
theorem Tryz.size293:(Tryz.prog.info? 293).map (·.size)=some 5:=by kernel_rfl
theorem Tryz.size294:(Tryz.prog.info? 294).map (·.size)=some 64:=by kernel_rfl
theorem Tryz.size296:(Tryz.prog.info? 296).map (·.size)=some 70:=by kernel_rfl
theorem Tryz.size314:(Tryz.prog.info? 314).map (·.size)=some 80:=by kernel_rfl
theorem Tryz.size318:(Tryz.prog.info? 318).map (·.size)=some 2:=by kernel_rfl
theorem Tryz.size319:(Tryz.prog.info? 319).map (·.size)=some 8:=by kernel_rfl
def row (k:IntKind) (zs:List Int):List Value:=zs.map (Value.int k)
theorem zw (k:IntKind) (zs:List Int):(row k zs).length=zs.length:=by simp[row]
theorem uK (k:IntKind) (zs:List Int) (i:Nat) (h:i<zs.length):(row k zs)[i]? = some (.int k (zs.getD i 0)):=by simp[row,h]
theorem yQ (k:IntKind) (zs:List Int):∀ v ∈ row k zs,v.oneCell'=true:=by
 intro v hv;simp only[row,List.mem_map] at hv;obtain⟨c,_,rfl⟩:=hv;rfl
theorem jk (k:IntKind) (zs:List Int) (n:Nat) (c:Int):(row k zs).toArray.setIfInBounds n (.int k c)=(row k (zs.set n c)).toArray:=by
 simp[row,List.map_set]
theorem vw (k:IntKind) (zs:List Int):(row k zs).toArray.size=zs.length:=by rw[List.size_toArray,zw]
theorem xy {w:World} {g:Nat} {k:IntKind} {zs:List Int} {t:TypeId} {fr:Nat × Nat} (h:w.heap[g]? = some (.cells (row k zs).toArray t fr)) (i:Nat) (hi:i<zs.length):w.cell? ⟨g,i,none⟩=some (.int k (zs.getD i 0)):=by
 rw[cell_of_row w g i _ t fr h];simpa using uK k zs i hi
theorem zy {w:World} {g:Nat} {cs:List Value} {t:TypeId} {fr:Nat × Nat} (h:w.heap[g]? = some (.cells cs.toArray t fr)):w.rangeAt g 0 cs:=fun j v hv=>by
 rw[Nat.zero_add,cell_of_row w g j _ t fr h];simpa using hv
theorem yJ {w:World} {g n:Nat} {k:IntKind} {zs:List Int} {t:TypeId} (h:w.heap[g]? = some (.cells (row k zs).toArray t (0,0))) (hn:zs.length=n):w.there g 0 n:=fun j hj=>by
 rw[Nat.zero_add]
 exact⟨by rw[xy h j (by omega)];rfl,frozen_of_row w g j _ t h⟩
theorem QW {P:Program} (t e:TypeId) (n:Nat) (cs:Array Value) (k:IntKind) (i:Nat) (v:Value) (w:World) (h:P.underlying t=some (.array n e)) (he:(P.info? e).map (·.size)=some 1) (d:TypeDesc) (hu:P.underlying e=some d) (hd:d.isRow=false) (hi:i<n) (hv:cs[i]? = some v) :
  (Instr.index t (.agg cs) (.int k i)).run P w=.ok v w:=by
 cases hq:P.info? e with
 | none=>simp[hq] at he
 | some inf =>
  have hs:inf.size=1:=by simpa [hq] using he
  have hagg:(isAgg e).run P w=.ok false w:=by
   unfold isAgg
   rw[Sem.run_bind,run_underlying hu w]
   cases d <;> simp_all
  simp[Instr.index,asIntOf,run_underlying h,hi,part,sizeOf,typeInfo,hq,hs,hagg,hv]
theorem qW {P:Program} {fn:Func} {p:Tmp} {ty:TypeId} (h:fn.results=#[.cell p ty]) (tmps:Array Value) (w:World) (g:Nat) (cs:List Value) (d:TypeDesc)
  (hp:tmps.getD p undef=.pointer (some ⟨g,0,none⟩)) (hc:w.rangeAt g 0 cs) (hu:P.underlying ty=some d) (hd:d.isRow=true) (hi:(P.info? ty).map (·.size)=some cs.length) :
  (results fn tmps).run P w=.ok (.agg cs.toArray) w:=by
 have hp':tmps[p]?.getD undef=.pointer (some ⟨g,0,none⟩):=by simpa using hp
 simp[results,h,hp',asAddr,run_loadVar_mid w g 0 ty cs d hc hu hd hi]
theorem zW {B g:Nat} (hB:B<=g):∀ (vs:List Value) (o:Nat) (w0 w:World),Below B w0 w->Below B w0 (w.setCells g o vs)
 | [],_,_,_,h=>h
 | v :: r,o,w0,_,h=>zW hB r (o+1) w0 _ (h.setCell (p:=⟨g,o,none⟩) hB v)
theorem vy (g:Nat):∀ (vs:List Value) (o:Nat) (w:World),(w.setCells g o vs).heap.size=w.heap.size
 | [],_,_=>rfl
 | _ :: r,o,_=>(vy g r (o+1) _).trans (by simp[World.setCell])
theorem ZV (w:World) (o:Obj) (row:Option Nat):w.grownBy (w.alloc o).drew row:=let h:=World.grownBy_alloc w o row;⟨h.os,h.tape,h.output,h.size,h.block⟩
theorem yq {w:World} {B:Nat} {e:TypeId} {s:Nat} {v:Value} {n:Nat} {xs:List Value} (h:w.ownsRow B e s v n xs) (k:Nat) (hk:v.ownBlock=some k):B<=k/\k<w.heap.size:=h.lt k hk
theorem Zx {B:Nat} {w0 w wx w3:World} {r:Option Nat} (h:Below B w0 w) (hB:B<=w0.heap.size) (hx:w.grownBy wx none) (hg:wx.grownBy w3 r) (hr:∀ k,r=some k->B<=k):Below B w0 w3 :=
 (h.grown hx (Nat.le_trans hB h.size) (fun k h=>by cases h)).grown hg (Nat.le_trans (Nat.le_trans hB h.size) hx.size) hr
theorem take_snoc (zs:List Int) (k:Nat) (h:k<zs.length):zs.take (k+1)=zs.take k++[zs.getD k 0]:=by
 rw[List.take_succ_eq_append_getElem h];simp[h]
def IsB (l:List Int):Prop := ∀ x ∈ l,0<=x/\x<256
theorem IsB.at {l:List Int} (h:IsB l) (i:Nat):0<=l.getD i 0/\l.getD i 0<256:=by
 by_cases hi:i<l.length
 ·exact h _ (by rw[List.getD_eq_getElem?_getD,List.getElem?_eq_getElem hi];exact List.getElem_mem _)
 ·rw[List.getD_eq_getElem?_getD,List.getElem?_eq_none (by omega)];simp
def IsW (l:List Int):Prop := ∀ x ∈ l,0<=x/\x<4294967296
theorem IsW.at {l:List Int} (h:IsW l) (i:Nat):0<=l.getD i 0/\l.getD i 0<4294967296:=by
 by_cases hi:i<l.length
 ·exact h _ (by rw[List.getD_eq_getElem?_getD,List.getElem?_eq_getElem hi];exact List.getElem_mem _)
 ·rw[List.getD_eq_getElem?_getD,List.getElem?_eq_none (by omega)];simp
theorem IsW.set {l:List Int} (h:IsW l) (i:Nat) (v:Int) (hv:0<=v/\v<4294967296):IsW (l.set i v):=by
 intro x hx
 rcases List.mem_or_eq_of_mem_set hx with h' | h'
 ·exact h x h'
 ·rw[h'];exact hv
theorem getD_set (l:List Int) (i j:Nat) (v:Int) (hi:i<l.length):(l.set i v).getD j 0=if i=j then v else l.getD j 0:=by
 rw[List.getD_eq_getElem?_getD,List.getElem?_set]
 by_cases h:i=j
 ·subst h;simp[hi]
 ·simp[h]
theorem Zj (o:BinOp) (a b:Int) (ho:o=.and ∨ o=.or ∨ o=.xor):0<=bits o .u32 a b/\bits o .u32 a b<4294967296:=by
 rcases ho with rfl | rfl | rfl
 all_goals
  show 0<=IntKind.u32.wrap _/\IntKind.u32.wrap _<_
  rw[IntKind.wrap_u32']
  omega
def turn1 (x:Int):Int:=bits .or .u32 (x*2 % 4294967296) (x / 2147483648)
def turn5 (x:Int):Int:=bits .or .u32 (x*32 % 4294967296) (x / 134217728)
def turn30 (x:Int):Int:=bits .or .u32 (x*1073741824 % 4294967296) (x / 4)
def ch (b c d:Int):Int:=bits .or .u32 (bits .and .u32 b c) (bits .and .u32 (bits .xor .u32 4294967295 b) d)
def par (b c d:Int):Int:=bits .xor .u32 (bits .xor .u32 b c) d
def maj (b c d:Int):Int:=bits .or .u32 (bits .or .u32 (bits .and .u32 b c) (bits .and .u32 b d)) (bits .and .u32 c d)
def U (x:Int):Prop:=0<=x/\x<4294967296
theorem turn1_bd (x:Int):U (turn1 x):=Zj _ _ _ (by simp)
theorem turn5_bd (x:Int):U (turn5 x):=Zj _ _ _ (by simp)
theorem turn30_bd (x:Int):U (turn30 x):=Zj _ _ _ (by simp)
theorem ch_bd (a b c:Int):U (ch a b c):=Zj _ _ _ (by simp)
theorem par_bd (a b c:Int):U (par a b c):=Zj _ _ _ (by simp)
theorem maj_bd (a b c:Int):U (maj a b c):=Zj _ _ _ (by simp)
theorem and31_1:bits .and .u64 1 31=1:=by decide +kernel
theorem and31_5:bits .and .u64 5 31=5:=by decide +kernel
theorem and31_30:bits .and .u64 30 31=30:=by decide +kernel
theorem rot1 (x:Int) (w:World) (hx:U x):Calls Tryz.prog 214 #[.int .u32 x,.int .i64 1] w fun e w'=>e=.returned (.int .u32 (turn1 x))/\w=w':=by
 obtain⟨hx0,hx1⟩:=hx
 have h1:=and31_1
 go_enter Tryz.func214,Tryz.ntmps214
 go_wp2
 go_ret
 exact⟨rfl,rfl⟩
theorem rot5 (x:Int) (w:World) (hx:U x):Calls Tryz.prog 214 #[.int .u32 x,.int .i64 5] w fun e w'=>e=.returned (.int .u32 (turn5 x))/\w=w':=by
 obtain⟨hx0,hx1⟩:=hx
 have h1:=and31_5
 go_enter Tryz.func214,Tryz.ntmps214
 go_wp2
 go_ret
 exact⟨rfl,rfl⟩
theorem rot30 (x:Int) (w:World) (hx:U x):Calls Tryz.prog 214 #[.int .u32 x,.int .i64 30] w fun e w'=>e=.returned (.int .u32 (turn30 x))/\w=w':=by
 obtain⟨hx0,hx1⟩:=hx
 have h1:=and31_30
 go_enter Tryz.func214,Tryz.ntmps214
 go_wp2
 go_ret
 exact⟨rfl,rfl⟩
theorem choice_any (b c d:Int) (w:World) (hb:U b) (hc:U c) (hd:U d):Calls Tryz.prog 233 #[.int .u32 b,.int .u32 c,.int .u32 d] w fun e w'=>e=.returned (.int .u32 (ch b c d))/\w=w':=by
 obtain⟨hb0,hb1⟩:=hb
 obtain⟨hc0,hc1⟩:=hc
 obtain⟨hd0,hd1⟩:=hd
 have hsg:IntKind.u32.signed=false:=rfl
 have hmx:IntKind.u32.max=4294967295:=rfl
 go_enter Tryz.func233,Tryz.ntmps233
 go_wp2
 go_ret
 exact⟨rfl,rfl⟩
theorem parity_any (b c d:Int) (w:World) (hb:U b) (hc:U c) (hd:U d):Calls Tryz.prog 234 #[.int .u32 b,.int .u32 c,.int .u32 d] w fun e w'=>e=.returned (.int .u32 (par b c d))/\w=w':=by
 obtain⟨hb0,hb1⟩:=hb
 obtain⟨hc0,hc1⟩:=hc
 obtain⟨hd0,hd1⟩:=hd
 go_enter Tryz.func234,Tryz.ntmps234
 go_wp2
 go_ret
 exact⟨rfl,rfl⟩
theorem majority_any (b c d:Int) (w:World) (hb:U b) (hc:U c) (hd:U d):Calls Tryz.prog 235 #[.int .u32 b,.int .u32 c,.int .u32 d] w fun e w'=>e=.returned (.int .u32 (maj b c d))/\w=w':=by
 obtain⟨hb0,hb1⟩:=hb
 obtain⟨hc0,hc1⟩:=hc
 obtain⟨hd0,hd1⟩:=hd
 go_enter Tryz.func235,Tryz.ntmps235
 go_wp2
 go_ret
 exact⟨rfl,rfl⟩
theorem or_add (n:Nat) (h l:Int) (h0:0<=h) (l0:0<=l) (hl:l<2 ^ n) (hs:h*2 ^ n+l<4294967296):bits .or .u32 (h*2 ^ n) l=h*2 ^ n+l:=by
 obtain⟨a,rfl⟩:=Int.eq_ofNat_of_zero_le h0
 obtain⟨b,rfl⟩:=Int.eq_ofNat_of_zero_le l0
 obtain⟨q,hq⟩:∃ q,q=2 ^ n:=⟨_,rfl⟩
 have hb:b<2 ^ n:=by exact_mod_cast hl
 have e:2 ^ n*a+b=2 ^ n*a ||| b:=Nat.two_pow_add_eq_or_of_lt hb a
 have hp:((a:Int)*2 ^ n)=((2 ^ n*a:Nat):Int):=by push_cast;rw[Int.mul_comm]
 rw[hp] at hs ⊢
 rw[u32_or_nat _ _ (by omega) (by omega),<-e]
 push_cast;rfl
theorem or8 (v x:Int) (hv:0<=v/\v<16777216) (hx:0<=x/\x<256):bits .or .u32 (v*256 % 4294967296) x=v*256+x:=by
 rw[show v*256 % 4294967296=v*2 ^ 8 from by omega,or_add 8 v x hv.1 hx.1 (by omega) (by omega)];rfl
def At (w:World) (b off:Nat) (zs:List Int):Prop := ∀ i,i<zs.length->w.cell? ⟨b,off+i,none⟩=some (.int .u8 (zs.getD i 0))
def val (zs:List Int) (j:Nat):Nat->Int
 | 0=>0
 | m+1=>val zs j m*256+zs.getD (4*j+m) 0
theorem val_bd (zs:List Int) (hz:IsB zs) (j:Nat):∀ m,0<=val zs j m/\val zs j m<256 ^ m
 | 0=>by simp[val]
 | m+1=>by
  have h:=val_bd zs hz j m
  have hb:=hz.at (4*j+m)
  simp only[val,Int.pow_succ]
  generalize (256:Int) ^ m=q at h ⊢
  omega
def wAt (zs:List Int) (k:Nat):List Int:=(List.range 80).map fun j=>val zs j (min (k-4*j) 4)
theorem YK (zs:List Int) (k:Nat):(wAt zs k).length=80:=by simp[wAt]
theorem wAt_get (zs:List Int) (k j:Nat) (h:j<80):(wAt zs k).getD j 0=val zs j (min (k-4*j) 4):=by simp[wAt,h]
theorem wAt_zero (zs:List Int):wAt zs 0=List.replicate 80 0:=by
 apply List.ext_getElem (by rw[YK,List.length_replicate])
 intro j h1 h2
 rw[List.getElem_replicate]
 simp only[wAt,List.getElem_map,List.getElem_range]
 rw[show min (0-4*j) 4=0 from by omega];rfl
theorem wAt_step (zs:List Int) (k:Nat) (h:k<64):wAt zs (k+1)=(wAt zs k).set (k / 4) ((wAt zs k).getD (k / 4) 0*256+zs.getD k 0):=by
 rw[wAt_get zs k (k / 4) (by omega)]
 apply List.ext_getElem (by simp[wAt])
 intro j h1 h2
 have hj:j<80:=by rw[YK] at h1;exact h1
 rw[List.getElem_set]
 by_cases e:k / 4=j
 ·rw[if_pos e]
  subst e
  simp only[wAt,List.getElem_map,List.getElem_range]
  rw[show min (k+1-4*(k / 4)) 4=min (k-4*(k / 4)) 4+1 from by omega,val,show 4*(k / 4)+min (k-4*(k / 4)) 4=k from by omega]
 ·rw[if_neg e]
  simp only[wAt,List.getElem_map,List.getElem_range]
  rw[show min (k+1-4*j) 4=min (k-4*j) 4 from by omega]
theorem wAt_small (zs:List Int) (hz:IsB zs) (k:Nat) (h:k<64):0<=(wAt zs k).getD (k / 4) 0/\(wAt zs k).getD (k / 4) 0<16777216:=by
 rw[wAt_get zs k _ (by omega)]
 have hb:=val_bd zs hz (k / 4) (min (k-4*(k / 4)) 4)
 have h3:min (k-4*(k / 4)) 4<=3:=by omega
 refine⟨hb.1,Int.lt_of_lt_of_le hb.2 ?_⟩
 generalize min (k-4*(k / 4)) 4=m at h3
 match m,h3 with
 | 0,_=>decide
 | 1,_=>decide
 | 2,_=>decide
 | 3,_=>decide
theorem wAt_isW (zs:List Int) (hz:IsB zs) (k:Nat):IsW (wAt zs k):=by
 intro x hx
 simp only[wAt,List.mem_map,List.mem_range] at hx
 obtain⟨j,-,rfl⟩:=hx
 have hb:=val_bd zs hz j (min (k-4*j) 4)
 have h3:min (k-4*j) 4<=4:=by omega
 refine⟨hb.1,Int.lt_of_lt_of_le hb.2 ?_⟩
 generalize min (k-4*j) 4=m at h3
 match m,h3 with
 | 0,_=>decide
 | 1,_=>decide
 | 2,_=>decide
 | 3,_=>decide
 | 4,_=>decide
def nx (v:List Int) (i:Nat):Int:=bits .xor .u32 (bits .xor .u32 (bits .xor .u32 (v.getD (i-3) 0) (v.getD (i-8) 0)) (v.getD (i-14) 0)) (v.getD (i-16) 0)
def spAt (ws:List Int):Nat->List Int
 | 0=>ws
 | j+1=>(spAt ws j).set (16+j) (turn1 (nx (spAt ws j) (16+j)))
theorem spAt_len (ws:List Int):∀ j,(spAt ws j).length=ws.length
 | 0=>rfl
 | j+1=>by rw[spAt,List.length_set,spAt_len ws j]
theorem spAt_isW (ws:List Int) (h:IsW ws):∀ j,IsW (spAt ws j)
 | 0=>h
 | j+1=>(spAt_isW ws h j).set _ _ (turn1_bd _)
theorem nx_bd (v:List Int) (i:Nat):U (nx v i):=Zj _ _ _ (by simp)
def Yk (zs:List Int):List Int:=spAt (wAt zs 64) 64
theorem spread_len (zs:List Int):(Yk zs).length=80:=by rw[Yk,spAt_len,YK]
theorem spread_isW (zs:List Int) (hz:IsB zs):IsW (Yk zs):=spAt_isW _ (wAt_isW zs hz 64) _
theorem wrap_i64 (n:Nat) (h:n<9223372036854775808):IntKind.i64.wrap (n:Int)=n:=by
 rw[IntKind.wrap_i64];omega
theorem heap_drew (w:World):w.drew.heap=w.heap:=rfl
def z80:List Int:=List.replicate 80 0
theorem zero47 (w:World):(zeroValue 314).run Tryz.prog w=.ok (.agg (row .u32 z80).toArray) w:=by kernel_rfl
theorem heap_alloc3 (w:World) (a b c:Obj):((((w.alloc a).alloc b).alloc c).heap[w.heap.size]? = some a/\(((w.alloc a).alloc b).alloc c).heap[w.heap.size+1]? = some b)/\(((w.alloc a).alloc b).alloc c).heap[w.heap.size+1+1]? = some c:=by
 refine⟨⟨?_,?_⟩,?_⟩
 ·rw[Below.heap_alloc _ _ _ (by simp;omega)];exact heap_alloc2_old w a b
 ·rw[Below.heap_alloc _ _ _ (by simp)];exact heap_alloc2_new w a b
 ·have:=heap_alloc_new ((w.alloc a).alloc b) c
  simpa using this
set_option maxHeartbeats 1000000 in
theorem spread_any (zs:List Int) (w:World) (hl:zs.length=64) (hz:IsB zs) :
  Calls Tryz.prog 212 #[.agg (row .u8 zs).toArray] w fun e w'=>e=.returned (.agg (row .u32 (Yk zs)).toArray)/\Below w.heap.size w w':=by
 have hi47:∀ l:List Int,l.length=80->(Tryz.prog.info? 314).map (·.size)=some (row .u32 l).length:=fun l h=>by rw[zw,h];exact Tryz.size314
 have hi41:(Tryz.prog.info? 294).map (·.size)=some (row .u8 zs).length:=by rw[zw,hl];exact Tryz.size294
 obtain⟨arr,HA⟩:=nn_ (row .u8 zs)
 rw[<-HA.out]
 have hasz:arr.toArray.size=64:=by rw[HA.out,vw];exact hl
 rw[<-HA.out] at hi41
 have HX:Hid (∀ i,i<64->arr.toArray[i]? = some (.int .u8 (zs.getD i 0))):=fun i hi=>by rw[HA.out];simpa using uK .u8 zs i (by omega)
 obtain⟨zr,HZ⟩:=nn_ ((row .u32 z80).toArray)
 have hzv:=zero47
 rw[<-HZ.out] at hzv
 have H3:Hid (_/\_):=heap_alloc3 w (.cells arr.toArray 294) (.cells zr 314) (.cells zr 314)
 have HB0:Hid (Below w.heap.size w (((w.alloc (.cells arr.toArray 294)).alloc (.cells zr 314)).alloc (.cells zr 314))):=(((Below.refl _ w).alloc (Nat.le_refl _) _).alloc (by simp) _).alloc (by simp;omega) _
 go_enter Tryz.func212,Tryz.ntmps212
 go_wp2_with (refine wpList_load_mid rfl 294 _ rfl w.heap.size 0 rfl arr _ (zy H3.out.1.1) Tryz.underlying294 rfl hi41 ?_)
 go_loopg [8] 64 (fun k i wr=>∃ j:Nat,j<=64/\k=64-j/\i=.int .i64 j/\Hid (wr.heap[w.heap.size+1+1]? = some (.cells (row .u32 (wAt zs j)).toArray 314 (0,0)))/\Hid (wr.heap[w.heap.size+1]? = some (.cells (row .u32 z80).toArray 314 (0,0)))/\Hid (Below w.heap.size w wr))
 case atStart =>
  refine⟨0,by omega,rfl,rfl,hid ?_,hid ?_,HB0⟩
  ·rw[wAt_zero,H3.out.2,HZ.out];rfl
  ·rw[H3.out.1.2,HZ.out]
 case round =>
  obtain⟨j,hj,hk,rfl,H1,H0,HB⟩:=hrel
  by_cases hlt:j<64
  ·have hix:∀ w1:World,(Instr.index 294 (.agg arr.toArray) (.int .i64 j)).run Tryz.prog w1=.ok (.int .u8 (zs.getD j 0)) w1:=fun w1=>QW 294 5 64 _ _ j _ w1 Tryz.underlying294 Tryz.size5 _ Tryz.underlying5 rfl hlt (HX.out j hlt)
   obtain⟨x,HXX⟩:=nn_ (zs.getD j 0)
   rw[<-HXX.out] at hix
   have hxb:0<=x/\x<256:=by rw[HXX.out];exact hz.at j
   obtain⟨m,HM⟩:=nn_ (j / 4)
   have hm:j / 4=m:=HM.out.symm
   have hm2:m<80:=by omega
   obtain⟨v,HV⟩:=nn_ ((wAt zs j).getD (j / 4) 0)
   have hv:0<=v/\v<16777216:=by rw[HV.out];exact wAt_small zs hz j hlt
   have hc:wr.cell? ⟨w.heap.size+1+1,m,none⟩=some (.int .u32 v):=by rw[HV.out,hm];exact xy H1.out m (by rw[YK];exact hm2)
   have hfz:=frozen_of_row wr (w.heap.size+1+1) m _ 314 H1.out
   obtain⟨y,HY⟩:=nn_ (v*256+x)
   have hor:=or8 v x hv hxb
   rw[<-HY.out] at hor
   have hor2:bits .or .u32 (v*256) x=y:=by rw[<-hor];congr 1;omega
   go_wp2
   go_roundg (64-(j+1))
   case measure=>omega
   case rel =>
    refine⟨j+1,by omega,rfl,by go_num,hid ?_,hid ?_,HB.out.setCell (by simp <;> omega) _⟩
    ·rw[heap_setCell_same wr _ _ _ _ _ H1.out,wAt_step zs j hlt,<-HV.out,<-HXX.out,<-HY.out,hm,jk,<-hor2]
    ·rw[heap_setCell_other wr _ _ _ (by simp)];exact H0.out
  ·obtain rfl:j=64:=by omega
   go_wp2
   go_loopg [6] 64 (fun k i wr=>∃ j:Nat,j<=64/\k=64-j/\i=.int .i64 (16+j:Nat)/\Hid (wr.heap[w.heap.size+1+1]? = some (.cells (row .u32 (spAt (wAt zs 64) j)).toArray 314 (0,0)))/\Hid (wr.heap[w.heap.size+1]? = some (.cells (row .u32 z80).toArray 314 (0,0)))/\Hid (Below w.heap.size w wr))
   case atStart=>exact⟨0,by omega,rfl,rfl,H1,H0,HB⟩
   case round =>
    clear H1 H0 HB
    obtain⟨j,hj,hk,rfl,H1,H0,HB⟩:=hrel
    obtain⟨v,HV⟩:=nn_ (spAt (wAt zs 64) j)
    rw[<-HV.out] at H1
    have hvl:v.length=80:=by rw[HV.out,spAt_len,YK]
    have hvw:IsW v:=by rw[HV.out];exact spAt_isW _ (wAt_isW zs hz 64) _
    obtain⟨q,HQ⟩:=nn_ (16+j)
    rw[<-HQ.out]
    have hq:16<=q/\q<=80:=by have:=HQ.out;omega
    by_cases hlt:q<80
    ·obtain⟨x1,G1⟩:=nn_ (v.getD (q-3) 0)
     obtain⟨x2,G2⟩:=nn_ (v.getD (q-8) 0)
     obtain⟨x3,G3⟩:=nn_ (v.getD (q-14) 0)
     obtain⟨x4,G4⟩:=nn_ (v.getD (q-16) 0)
     obtain⟨q1,Q1⟩:=nn_ (q-3)
     have e1:IntKind.i64.wrap ((q:Int)-3)=(q1:Int):=by rw[show (q:Int)-3=(q1:Int) from by have:=Q1.out;omega];exact wrap_i64 _ (by have:=Q1.out;omega)
     have b1:q1<80:=by have:=Q1.out;omega
     have bi1:(q1:Int)<80:=by omega
     have bz1:(0:Int)<=q1:=by omega
     have c1:wr.cell? ⟨w.heap.size+1+1,q1,none⟩=some (.int .u32 x1):=by rw[G1.out,Q1.out];exact xy H1.out _ (by omega)
     obtain⟨q2,Q2⟩:=nn_ (q-8)
     have e2:IntKind.i64.wrap ((q:Int)-8)=(q2:Int):=by rw[show (q:Int)-8=(q2:Int) from by have:=Q2.out;omega];exact wrap_i64 _ (by have:=Q2.out;omega)
     have b2:q2<80:=by have:=Q2.out;omega
     have bi2:(q2:Int)<80:=by omega
     have bz2:(0:Int)<=q2:=by omega
     have c2:wr.cell? ⟨w.heap.size+1+1,q2,none⟩=some (.int .u32 x2):=by rw[G2.out,Q2.out];exact xy H1.out _ (by omega)
     obtain⟨q3,Q3⟩:=nn_ (q-14)
     have e3:IntKind.i64.wrap ((q:Int)-14)=(q3:Int):=by rw[show (q:Int)-14=(q3:Int) from by have:=Q3.out;omega];exact wrap_i64 _ (by have:=Q3.out;omega)
     have b3:q3<80:=by have:=Q3.out;omega
     have bi3:(q3:Int)<80:=by omega
     have bz3:(0:Int)<=q3:=by omega
     have c3:wr.cell? ⟨w.heap.size+1+1,q3,none⟩=some (.int .u32 x3):=by rw[G3.out,Q3.out];exact xy H1.out _ (by omega)
     obtain⟨q4,Q4⟩:=nn_ (q-16)
     have e4:IntKind.i64.wrap ((q:Int)-16)=(q4:Int):=by rw[show (q:Int)-16=(q4:Int) from by have:=Q4.out;omega];exact wrap_i64 _ (by have:=Q4.out;omega)
     have b4:q4<80:=by have:=Q4.out;omega
     have bi4:(q4:Int)<80:=by omega
     have bz4:(0:Int)<=q4:=by omega
     have c4:wr.cell? ⟨w.heap.size+1+1,q4,none⟩=some (.int .u32 x4):=by rw[G4.out,Q4.out];exact xy H1.out _ (by omega)
     have c5:wr.cell? ⟨w.heap.size+1+1,q,none⟩=some (.int .u32 (v.getD q 0)):=xy H1.out _ (by omega)
     have bi5:(q:Int)<80:=by omega
     have bz5:(0:Int)<=q:=by omega
     have f5:=frozen_of_row wr (w.heap.size+1+1) q _ 314 H1.out
     obtain⟨n,HN⟩:=nn_ (nx v q)
     have hn:bits .xor .u32 (bits .xor .u32 (bits .xor .u32 x1 x2) x3) x4=n:=by rw[HN.out,G1.out,G2.out,G3.out,G4.out];rfl
     have hnb:U n:=by rw[HN.out];exact nx_bd v q
     have k1:∀ (W:World) (u:Value),(W.setCell ⟨w.heap.size+1+1,q,none⟩ u).cell? ⟨w.heap.size+1+1,q1,none⟩=W.cell? ⟨w.heap.size+1+1,q1,none⟩:=fun W u=>World.cell?_setCell_other _ _ _ _ (by intro h;simp only[Addr.mk.injEq] at h;have:=Q1.out;omega)
     have k2:∀ (W:World) (u:Value),(W.setCell ⟨w.heap.size+1+1,q,none⟩ u).cell? ⟨w.heap.size+1+1,q2,none⟩=W.cell? ⟨w.heap.size+1+1,q2,none⟩:=fun W u=>World.cell?_setCell_other _ _ _ _ (by intro h;simp only[Addr.mk.injEq] at h;have:=Q2.out;omega)
     have k3:∀ (W:World) (u:Value),(W.setCell ⟨w.heap.size+1+1,q,none⟩ u).cell? ⟨w.heap.size+1+1,q3,none⟩=W.cell? ⟨w.heap.size+1+1,q3,none⟩:=fun W u=>World.cell?_setCell_other _ _ _ _ (by intro h;simp only[Addr.mk.injEq] at h;have:=Q3.out;omega)
     have k4:∀ (W:World) (u:Value),(W.setCell ⟨w.heap.size+1+1,q,none⟩ u).cell? ⟨w.heap.size+1+1,q4,none⟩=W.cell? ⟨w.heap.size+1+1,q4,none⟩:=fun W u=>World.cell?_setCell_other _ _ _ _ (by intro h;simp only[Addr.mk.injEq] at h;have:=Q4.out;omega)
     go_wp2
     go_region_held3 (fun w'=>w'.cell? ⟨w.heap.size+1+1,q1,none⟩=some (.int .u32 x1)/\w'.cell? ⟨w.heap.size+1+1,q2,none⟩=some (.int .u32 x2)/\w'.cell? ⟨w.heap.size+1+1,q3,none⟩=some (.int .u32 x3)/\w'.cell? ⟨w.heap.size+1+1,q4,none⟩=some (.int .u32 x4)) (go_keep) ((go_at_call 214;refine(rot1 n _ hnb).mono ?_;rintro e w1 ⟨rfl,rfl⟩))
     go_wp2
     go_roundg (64-(j+1))
     case measure=>have:=HQ.out;omega
     case rel =>
      refine⟨j+1,by have:=HQ.out;omega,rfl,by have:=HQ.out;go_num,hid ?_,hid ?_,(HB.out.setCell (by simp <;> omega) _).drew⟩
      ·rw[heap_drew,heap_setCell_same wr _ _ _ _ _ H1.out,spAt,<-HV.out,<-HQ.out,<-HN.out,jk]
      ·rw[heap_drew,heap_setCell_other wr _ _ _ (by simp)];exact H0.out
    ·obtain rfl:q=80:=by omega
     have hj64:j=64:=by have:=HQ.out;omega
     subst hj64
     have T1:Hid (wr.there (w.heap.size+1) 0 (row .u32 v).toArray.size):=hid (by rw[vw,hvl];exact yJ H0.out (by simp[z80]))
     have T2:Hid ((Tryz.prog.info? 314).map (·.size)=some (row .u32 v).toArray.size):=hid (by rw[vw,hvl];exact Tryz.size314)
     have T3:Hid ((row .u32 v).toArray.all (·.oneCell')=true):=all_oneCell_toArray (yQ _ _)
     have HVS:Hid (v=Yk zs):=HV.out
     go_wp2_with (first | refine wpList_load_mid rfl 314 _ rfl (w.heap.size+1+1) 0 rfl (row .u32 v) _ (zy H1.out) Tryz.underlying314 rfl (hi47 _ hvl) ?_ | refine wpList_store_mid rfl 314 _ _ rfl (w.heap.size+1) 0 (row .u32 v).toArray rfl rfl T1.out T2.out T3.out ?_)
     ·rw[<-HVS.out]
      refine bodyPost_ret (v:=.agg (row .u32 v).toArray) (qW Tryz.results212 _ _ (w.heap.size+1) _ _ rfl (World.rangeAt_setCells_same wr (w.heap.size+1) 0 _ ?_) Tryz.underlying314 rfl (hi47 _ hvl)) rfl ⟨rfl,zW (by omega) _ _ _ _ HB.out⟩
      rw[zw,hvl];exact yJ H0.out (by simp[z80])
structure S5 where
 a:Int
 b:Int
 c:Int
 d:Int
 e:Int
def S5.ok (s:S5):Prop:=U s.a/\U s.b/\U s.c/\U s.d/\U s.e
def S5.l (s:S5):List Int:=[s.a,s.b,s.c,s.d,s.e]
def fi (i:Nat) (b c d:Int):Int:=if i<20 then ch b c d else if i<40 then par b c d else if i<60 then maj b c d else par b c d
def ki (i:Nat):Int:=if i<20 then 1518500249 else if i<40 then 1859775393 else if i<60 then 2400959708 else 3395469782
def rd (W:List Int) (i:Nat) (s:S5):S5:=⟨(turn5 s.a+fi i s.b s.c s.d+s.e+ki i+W.getD i 0) % 4294967296,s.a,turn30 s.b,s.c,s.d⟩
def rds (W:List Int) (s:S5):Nat->S5
 | 0=>s
 | n+1=>rd W n (rds W s n)
theorem rds_ok (W:List Int) (s:S5) (h:s.ok):∀ n,(rds W s n).ok
 | 0=>h
 | n+1=>by
  obtain⟨h1,h2,h3,h4,h5⟩:=rds_ok W s h n
  exact⟨⟨by simp only[rds,rd];omega,by simp only[rds,rd];omega⟩,h1,turn30_bd _,h3,h4⟩
theorem fi_bd (i:Nat) (b c d:Int):U (fi i b c d):=by
 unfold fi
 split
 ·exact ch_bd _ _ _
 ·split
  ·exact par_bd _ _ _
  ·split
   ·exact maj_bd _ _ _
   ·exact par_bd _ _ _
def plus (s t:S5):S5:=⟨(s.a+t.a) % 4294967296,(s.b+t.b) % 4294967296,(s.c+t.c) % 4294967296,(s.d+t.d) % 4294967296,(s.e+t.e) % 4294967296⟩
def comp (s:S5) (zs:List Int):S5:=plus s (rds (Yk zs) s 80)
theorem plus_ok (s t:S5):(plus s t).ok:=by
 refine⟨⟨?_,?_⟩,⟨?_,?_⟩,⟨?_,?_⟩,⟨?_,?_⟩,?_,?_⟩ <;> simp only[plus] <;> omega
theorem comp_ok (s:S5) (zs:List Int):(comp s zs).ok:=plus_ok _ _
theorem jW {w:World} {g n:Nat} {cs:Array Value} {t:TypeId} (h:w.heap[g]? = some (.cells cs t (0,0))) (hn:cs.size=n):w.there g 0 n:=fun j hj=>by
 rw[Nat.zero_add]
 refine⟨?_,frozen_of_row w g j _ t h⟩
 rw[cell_of_row w g j _ t _ h]
 simp[hn,hj]
def kQ:Array Value:=#[.func (.func 233) #[] #[],.int .u32 1518500249,.func (.func 234) #[] #[],.int .u32 1859775393,.func (.func 235) #[] #[],.int .u32 2400959708,.func (.func 234) #[] #[],.int .u32 3395469782]
set_option maxHeartbeats 1000000 in
theorem kinds_any (w:World):Calls Tryz.prog 213 #[] w fun e w'=>e=.returned (.agg kQ)/\Below w.heap.size w w':=by
 have H0:Hid ((w.alloc (.cells #[.nilFunc,.int .u32 0,.nilFunc,.int .u32 0,.nilFunc,.int .u32 0,.nilFunc,.int .u32 0] 319)).there w.heap.size 0 8):=jW (heap_alloc_new w _) rfl
 have HB:Hid (Below w.heap.size w (w.alloc (.cells #[.nilFunc,.int .u32 0,.nilFunc,.int .u32 0,.nilFunc,.int .u32 0,.nilFunc,.int .u32 0] 319))):=(Below.refl _ w).alloc (Nat.le_refl _) _
 go_enter Tryz.func213,Tryz.ntmps213
 go_wp2_with (refine wpList_store_mid rfl 319 _ _ rfl w.heap.size 0 kQ rfl rfl H0.out Tryz.size319 (by kernel_rfl) ?_)
 exact bodyPost_ret (v:=.agg kQ) (qW Tryz.results213 _ _ w.heap.size kQ.toList _ rfl (World.rangeAt_setCells_same _ w.heap.size 0 _ H0.out) Tryz.underlying319 rfl Tryz.size319) rfl ⟨rfl,zW (Nat.le_refl _) _ _ _ _ HB.out⟩
theorem kind0 (w:World):(Instr.index 319 (.agg kQ) (.int .i64 (0:Nat))).run Tryz.prog w=.ok (.agg #[.func (.func 233) #[] #[],.int .u32 1518500249]) w:=by kernel_rfl
theorem kind1 (w:World):(Instr.index 319 (.agg kQ) (.int .i64 (1:Nat))).run Tryz.prog w=.ok (.agg #[.func (.func 234) #[] #[],.int .u32 1859775393]) w:=by kernel_rfl
theorem kind2 (w:World):(Instr.index 319 (.agg kQ) (.int .i64 (2:Nat))).run Tryz.prog w=.ok (.agg #[.func (.func 235) #[] #[],.int .u32 2400959708]) w:=by kernel_rfl
theorem kind3 (w:World):(Instr.index 319 (.agg kQ) (.int .i64 (3:Nat))).run Tryz.prog w=.ok (.agg #[.func (.func 234) #[] #[],.int .u32 3395469782]) w:=by kernel_rfl
theorem yV (b off j:Nat):(⟨b,off,none⟩:Addr).add j=⟨b,off+j,none⟩:=by unfold Addr.add;split <;> simp_all
theorem size37r (w:World):(sizeOf (Tryz.prog.elem 314)).run Tryz.prog w=.ok 1 w:=by kernel_rfl
theorem size5r (w:World):(sizeOf (Tryz.prog.elem 294)).run Tryz.prog w=.ok 1 w:=by kernel_rfl
theorem len47:Tryz.prog.arrayLen 314=80:=by kernel_rfl
theorem len41:Tryz.prog.arrayLen 294=64:=by kernel_rfl
theorem und47:Tryz.prog.underlying 314=some (.array (Tryz.prog.arrayLen 314) (Tryz.prog.elem 314)):=by kernel_rfl
theorem und41:Tryz.prog.underlying 294=some (.array (Tryz.prog.arrayLen 294) (Tryz.prog.elem 294)):=by kernel_rfl
theorem slice47 (g m:Nat) (w:World) (h:m<=60):(Instr.sliceAt 314 (.pointer (some ⟨g,0,none⟩)) (some (.int .i64 m)) (some (.int .i64 ((m:Int)+20))) none).run Tryz.prog w=.ok (.slice (some ⟨g,m,none⟩) 20 (80-m:Nat)) w:=by
 rw[run_sliceAt_array_lh w 314 _ und47 .i64 .i64 m (m+20) (by omega) (by omega) (by rw[len47];omega),size37r,len47]
 simp only[Result.andThen_ok,slicedAt]
 rw[if_neg (by omega),yV,show ((m:Int)+20).toNat-(m:Int).toNat=20 from by omega]
 simp
theorem slice41 (g o m:Nat) (w:World) (h:m<64):(Instr.sliceAt 294 (.pointer (some ⟨g,o,none⟩)) (some (.int .u64 m)) none none).run Tryz.prog w=.ok (.slice (some ⟨g,o+m,none⟩) (64-m:Nat) (64-m:Nat)) w:=by
 rw[run_sliceAt_array_l w 294 _ und41 .u64 m (by omega) (by rw[len41];omega),size5r,len41]
 simp only[Result.andThen_ok,slicedAt]
 rw[if_neg (by omega),yV]
 simp
theorem ki_same (j n:Nat) (h:n<20):ki (20*j+n)=ki (20*j):=by
 unfold ki
 repeat' split
 all_goals first | rfl | omega
theorem ki_bd (i:Nat):U (ki i):=by
 unfold ki U
 split
 ·omega
 ·split
  ·omega
  ·split <;> omega
theorem qJ {P:Program} {ops:Array Oper} {o:Oper} {a:Act} {w:World} {K:Act->World->Prop} {Q:Exit->Act->World->Prop} {E:Prop} (hg:o.guard=none) (f:FuncId) (args:List Operand) (ts:Array TypeId) (vs:List Value) (R:Ending->World->Prop)
  (ho:o.op=.call { callee:=.value (.func f),args:=args.toArray,argTypes:=ts }) (hx:args.map a.eval=vs) (hent:∀ w:World,(callFunc f vs.toArray).run P w=.ok (.enter f vs.toArray) w)
  (hc:Calls P f vs.toArray w R) (h:∀ e w',R e w'->∃ r,e=.returned r/\K (a.put o.dst r) w') :
  if Region.wanted o (yielded ops a.tmps)=true then Oper.wp P o a w K Q else E:=by
 have hw:Region.wanted o (yielded ops a.tmps)=true:=by simp[Region.wanted,hg]
 rw[if_pos hw]
 unfold Oper.wp
 simp only[execOp,ho,resolve,invoke,go_sem,List.map_toArray,hx,hent]
 simp[go_sem,hent,Oper.upon_enter]
 refine hc.mono ?_
 intro e w' hr
 obtain⟨r,rfl,hk⟩:=h e w' hr
 exact hk
theorem kV {P:Program} {md:Region.Mode} {Q:Exit->Act->World->Prop} {S:World->Prop} {l:List Oper} {i:Nat} {oi:Oper} {v:Value} {fuel:Nat} {listed:Array Bool} {a:Act} {w:World} (hi:l[i]? = some oi)
  (hs:Region.noSelect l.toArray=true) (hf:Region.free md l.toArray listed i=true) (hr:(Region.ready md l.toArray listed).contains i=true)
  (hQ:∀ c a w,Q (.panic c) (a.put oi.dst v) w->Q (.panic c) a w) (hy:YieldsIf P l.toArray S oi v a) (hS:S w)
  (h:wpAnyH P md l.toArray Q S fuel (listed.setIfInBounds i true) (a.put oi.dst v) w):wpAnyH P md l.toArray Q S (fuel+1) listed a w :=
 wpAnyH_take (by rw[List.getElem?_toArray];exact hi) hs hf hr hQ hy hS h
theorem xj {P:Program} {md:Region.Mode} {Q:Exit->Act->World->Prop} {S:World->Prop} {l:List Oper} {fuel:Nat} {listed:Array Bool} {a:Act} {w:World} {i:Nat} {o:Oper} {rs:List Nat} (ho:l[i]? = some o)
  (h:∀ K':Act->World->Prop,Shut (∀ a w,S w->(S w->wpAnyH P md l.toArray Q S fuel (listed.setIfInBounds i true) a w)->K' a w)->if Region.wanted o (yielded l.toArray a.tmps)=true then Oper.wp P o a w K' Q else K' (a.put o.dst undef) w)
  (hs:AllReadyH P md l.toArray Q S fuel listed a w rs):AllReadyH P md l.toArray Q S fuel listed a w (i :: rs):=AllReadyH.cons (by rw[List.getElem?_toArray];exact ho) h hs
theorem tZ {P:Program} {md:Region.Mode} {Q:Exit->Act->World->Prop} {S:World->Prop} {l:List Oper} {i:Nat} {oi:Oper} {v:Value} {fuel:Nat} {listed:Array Bool} {a:Act} {w:World} (hS:S w) (h:wpAnyH P md l.toArray Q S fuel (listed.setIfInBounds i true) (a.put oi.dst v) w) (hi:l[i]? = some oi:=by rfl) (hs:Region.noSelect l.toArray=true:=by kernel_rfl) (hf:Region.free md l.toArray listed i=true:=by kernel_rfl) (hr:(Region.ready md l.toArray listed).contains i=true:=by kernel_rfl) (hQ:∀ c a w,Q (.panic c) (a.put oi.dst v) w->Q (.panic c) a w:=by exact fun _ _ _ h=>h) (hg:Region.wanted oi (yielded l.toArray a.tmps)=true:=by rfl) (hy:∀ w',S w'->(execOp a.eval oi).run P w'=.ok (.value v) w':=by intro w' h;cases h;first | (go_simp;done) | (go_simp;rfl)):wpAnyH P md l.toArray Q S (fuel+1) listed a w:=kV hi hs hf hr hQ (Or.inl ⟨hg,hy⟩) hS h
theorem tV {P:Program} {md:Region.Mode} {Q:Exit->Act->World->Prop} {S:World->Prop} {l:List Oper} {i:Nat} {oi:Oper} {v:Value} {fuel:Nat} {listed:Array Bool} {a:Act} {w:World} (hS:S w) (h:wpAnyH P md l.toArray Q S fuel (listed.setIfInBounds i true) (a.put oi.dst v) w) (hi:l[i]? = some oi:=by rfl) (hs:Region.noSelect l.toArray=true:=by kernel_rfl) (hf:Region.free md l.toArray listed i=true:=by kernel_rfl) (hr:(Region.ready md l.toArray listed).contains i=true:=by kernel_rfl) (hQ:∀ c a w,Q (.panic c) (a.put oi.dst v) w->Q (.panic c) a w:=by exact fun _ _ _ h=>h) (hg:Region.wanted oi (yielded l.toArray a.tmps)=true:=by rfl) (hy:∀ w',S w'->(execOp a.eval oi).run P w'=.ok (.value v) w':=by intro w' h;first | (go_simp;done) | (go_simp;rfl)):wpAnyH P md l.toArray Q S (fuel+1) listed a w:=kV hi hs hf hr hQ (Or.inl ⟨hg,hy⟩) hS h
theorem tG {P:Program} {md:Region.Mode} {Q:Exit->Act->World->Prop} {S:World->Prop} {l:List Oper} {i:Nat} {oi:Oper} {v:Value} {fuel:Nat} {listed:Array Bool} {a:Act} {w:World} (hS:S w) (h:wpAnyH P md l.toArray Q S fuel (listed.setIfInBounds i true) (a.put oi.dst v) w) (hi:l[i]? = some oi:=by rfl) (hs:Region.noSelect l.toArray=true:=by kernel_rfl) (hf:Region.free md l.toArray listed i=true:=by kernel_rfl) (hr:(Region.ready md l.toArray listed).contains i=true:=by kernel_rfl) (hQ:∀ c a w,Q (.panic c) (a.put oi.dst v) w->Q (.panic c) a w:=by exact fun _ _ _ h=>h) (hg:Region.wanted oi (yielded l.toArray a.tmps)=true:=by kernel_rfl) (hy:∀ w',S w'->(execOp a.eval oi).run P w'=.ok (.value v) w':=by intro w' h;cases h;first | (go_simp;done) | (go_simp;rfl)):wpAnyH P md l.toArray Q S (fuel+1) listed a w:=kV hi hs hf hr hQ (Or.inl ⟨hg,hy⟩) hS h
theorem tN {P:Program} {md:Region.Mode} {Q:Exit->Act->World->Prop} {S:World->Prop} {l:List Oper} {i:Nat} {oi:Oper} {fuel:Nat} {listed:Array Bool} {a:Act} {w:World} (hS:S w) (h:wpAnyH P md l.toArray Q S fuel (listed.setIfInBounds i true) (a.put oi.dst undef) w) (hi:l[i]? = some oi:=by rfl) (hs:Region.noSelect l.toArray=true:=by kernel_rfl) (hf:Region.free md l.toArray listed i=true:=by kernel_rfl) (hr:(Region.ready md l.toArray listed).contains i=true:=by kernel_rfl) (hQ:∀ c a w,Q (.panic c) (a.put oi.dst undef) w->Q (.panic c) a w:=by exact fun _ _ _ h=>h) (hg:Region.wanted oi (yielded l.toArray a.tmps)=false:=by kernel_rfl):wpAnyH P md l.toArray Q S (fuel+1) listed a w:=kV hi hs hf hr hQ (Or.inr ⟨hg,rfl⟩) hS h
theorem tW {P:Program} {md:Region.Mode} {Q:Exit->Act->World->Prop} {S:World->Prop} {l:List Oper} {i:Nat} {oi:Oper} {v:Value} {fuel:Nat} {listed:Array Bool} {a:Act} {w:World} (hS:S w) (hi:l[i]? = some oi) (hy:YieldsIf P l.toArray S oi v a) (h:wpAnyH P md l.toArray Q S fuel (listed.setIfInBounds i true) (a.put oi.dst v) w) (hs:Region.noSelect l.toArray=true:=by kernel_rfl) (hf:Region.free md l.toArray listed i=true:=by kernel_rfl) (hr:(Region.ready md l.toArray listed).contains i=true:=by kernel_rfl) (hQ:∀ c a w,Q (.panic c) (a.put oi.dst v) w->Q (.panic c) a w:=by exact fun _ _ _ h=>h):wpAnyH P md l.toArray Q S (fuel+1) listed a w:=kV hi hs hf hr hQ hy hS h
end Go.Proofs.YtgliaiemkfopeaaGreatDoor
namespace Go.Proofs.YtgliaiemkfopeaaGreatDoor.K
open Go.RowKit
abbrev Str:=List UInt8
def sV (s:Str):Value:=.string ⟨s.toArray⟩
theorem txt_inj {x y:Str} (h:sV x=sV y):x=y:=by
 unfold sV at h
 have h1:=congrArg ByteArray.data (Value.string.inj h)
 simpa using h1
theorem vY:Maps.Keyed Tryz.prog 9:=Maps.string_keyed Tryz.underlying9
theorem Zk (x:Str) (h:x.length<=4000):keyOf Tryz.prog 9 (sV x)=some (.string x):=by
 have h2:(⟨x.toArray⟩:ByteArray).size<=maxLen:=by simp[ByteArray.size,maxLen];omega
 unfold keyOf sV
 rw[Tryz.underlying9]
 simp[mapKey,Tryz.underlying9,h2]
theorem key_eqs {x y:Str} {kl:Lit} (h1:keyOf Tryz.prog 9 (sV x)=some kl) (h2:keyOf Tryz.prog 9 (sV y)=some kl):x=y:=txt_inj (vY.inj h1 h2)
abbrev RV (v:Value):Option (DataW Value × List MemPlace):=some (.held v,[])
def TM (z:Value) (w:World) (g n:Nat) (M:Str->Option Value):Prop := ∃ D,w.ownsMap (H:=Value) Tryz.prog 9 RV g n D/\∀ x kl,keyOf Tryz.prog 9 (sV x)=some kl->Maps.has D kl=(M x).isSome/\D.atKey kl (.held z)=.held ((M x).getD z)
theorem YV (z:Value) (w:World):TM z (w.alloc (.map #[] 0)) w.heap.size 0 (fun _=>none):=⟨_,World.ownsMap_made _ _ _ _,fun x kl _=>by simp[Maps.has,DataW.atKey]⟩
theorem TM.sm {z:Value} {w W:World} {g n:Nat} {M:Str->Option Value} (h:TM z w g n M) (hg:W.heap[g]? = w.heap[g]?):TM z W g n M:=by
 obtain⟨D,⟨es,ck,hb,hr⟩,h2⟩:=h
 exact⟨D,⟨es,ck,hg.trans hb,hr⟩,h2⟩
theorem TM.lt {z:Value} {w:World} {g n:Nat} {M:Str->Option Value} (h:TM z w g n M):g<w.heap.size:=by obtain⟨D,h1,_⟩:=h;exact h1.lt
theorem TM.look {z:Value} {w:World} {g n:Nat} {M:Str->Option Value} (h:TM z w g n M) {t e:TypeId} (ht:Tryz.prog.underlying t=some (.map 9 e)) (hz:(zeroValue e).run Tryz.prog w=.ok z w) {x:Str} (hx:x.length<=4000):(Instr.lookup t (.map (some g)) (sV x) true).run Tryz.prog w=.ok (.tuple #[(M x).getD z,.bool (M x).isSome]) w:=by
 obtain⟨D,h1,h2⟩:=h
 have hkl:=Zk x hx
 obtain⟨v,ps,hrun,hv⟩:=h1.look_ok vY ht hz (zd:=.held z) (zp:=[]) rfl hkl
 obtain⟨e1,e2⟩:=h2 x _ hkl
 rw[e2] at hv
 have:v=(M x).getD z:=by
  have:=congrArg (fun o=>o.map (·.1)) hv
  simp only[RV,Option.map_some] at this
  exact DataW.held.inj (Option.some.inj this)
 rw[hrun,this,e1]
theorem TM.put {z:Value} {w:World} {g n:Nat} {M:Str->Option Value} (h:TM z w g n M) (hn:n<=100000) {t e:TypeId} (ht:Tryz.prog.underlying t=some (.map 9 e)) {x:Str} (hx:x.length<=4000) (v:Value):∃ w',(Instr.mapUpdate t (.map (some g)) (sV x) v).run Tryz.prog w=.ok () w'/\TM z w' g (n+1) (fun y=>if y=x then some v else M y)/\w.grownBy w' (some g):=by
 obtain⟨D,h1,h2⟩:=h
 have hkl:=Zk x hx
 obtain⟨w',hrun,h3,h4⟩:=h1.update vY ht (by unfold maxLen;omega) hkl (val:=v) (d:=.held v) (ps:=[]) rfl
 refine⟨w',hrun,⟨_,h3,fun y ky hky=>?_⟩,h4⟩
 simp only
 by_cases e:ky=.string x
 ·subst e
  rw[Maps.has_put_same h1.isMap (vY.key hkl),Maps.atKey_put_same h1.isMap (vY.key hkl),if_pos (key_eqs hky hkl)]
  exact⟨rfl,rfl⟩
 ·rw[Maps.has_put_other e,Maps.atKey_put_other e,if_neg (fun h=>by subst h;rw[hkl] at hky;exact e (Option.some.inj hky).symm)]
  exact h2 y ky hky
theorem kW:Tryz.prog.underlying 50=some (.map 9 59):=by kernel_rfl
theorem xu:Tryz.prog.underlying 105=some (.map 9 125):=by kernel_rfl
theorem zero59 (w:World):(zeroValue 59).run Tryz.prog w=.ok (.pointer none) w:=by kernel_rfl
end Go.Proofs.YtgliaiemkfopeaaGreatDoor.K
