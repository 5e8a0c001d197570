import Derived.Shelf.Strings.Cut
import Derived.Shelf.Bytes.SlSmallAll
import Derived.Test.YtiaaekdpfpaigaaGreatDoorChecked
import Derived.RowKit
import Derived.Deep.AppendLies
import Derived.Deep.LoopGhost
import Derived.Deep.RegionWith
import Derived.Deep.RegionHeld3
import Derived.Deep.RegionLaw
import Derived.Deep.MidRow
import Derived.Maps.AppendAt
import Derived.Lib.IndexMore
import Derived.Lib.Strings
import Derived.Lib.ItoaNum
import Derived.Shelf.Strings.OnBuilder
import Derived.Shelf.LaysM
import Derived.Shelf.Strconv.Itoa3
import Derived.Deep.DrawnRows
import Derived.Test.YtiaaekdpfpaigaaGreatDoorMn01
set_option linter.unusedSimpArgs false
set_option linter.unusedVariables false
set_option maxRecDepth 20000
set_option maxHeartbeats 4000000
open Int renaming eq_ofNat_of_zero_le->Wx5,lt_of_lt_of_le->Wx6
open List renaming ext_getElem->Wy0,getElem_map->Wy1,getElem_mem->Wz5,getElem_range->Wy2,getElem_replicate->Wx7,getElem_set->Wx8,length_replicate->Wy3,mem_map->Wx9,replicate->WqV
open Nat renaming le_of_lt->Wxz,le_refl->WzV,le_trans->Wqx,zero_add->Wq7
namespace Go.Proofs.YtiaaekdpfpaigaaGreatDoor.Id
open Go.Proofs.Tryz
open Go.RowKit
theorem hid {p:Prop} (h:p):Hid p:=h
theorem info_parts {o:Option TypeInfo} {z:Value} {a b:Nat} (h:o.map (fun i=>(i.zero,i.size,i.bytes))=some (some z,a,b)):∃ i,o=some i/\i.zero=some z/\i.size=a/\i.bytes=b:=by
 cases o with
 | none=>simp at h
 | some i=>simp at h;exact⟨i,rfl,h.1,h.2.1,h.2.2⟩
theorem info5:(prog.info? 5).map (fun i=>(i.zero,i.size,i.bytes))=some (some (.int .u8 0),1,1):=by kernel_rfl
theorem size5:(prog.info? 5).map (·.size)=some 1:=by kernel_rfl
theorem size50:(prog.info? 50).map (·.size)=some 1:=by kernel_rfl
theorem size47:(prog.info? 47).map (·.size)=some 20:=by kernel_rfl
theorem size68:(prog.info? 68).map (·.size)=some 20:=by kernel_rfl
theorem size124:(prog.info? 124).map (·.size)=some 5:=by kernel_rfl
theorem size181:(prog.info? 181).map (·.size)=some 5:=by kernel_rfl
theorem size108:(prog.info? 108).map (·.size)=some 64:=by kernel_rfl
theorem size183:(prog.info? 183).map (·.size)=some 70:=by kernel_rfl
theorem size165:(prog.info? 165).map (·.size)=some 80:=by kernel_rfl
theorem size207:(prog.info? 207).map (·.size)=some 2:=by kernel_rfl
theorem size208:(prog.info? 208).map (·.size)=some 8:=by kernel_rfl
def row (k:IntKind) (zs:List Int):List Value:=zs.map (Value.int k)
theorem zu (k:IntKind) (zs:List Int):(row k zs).length=zs.length:=by simp[row]
theorem vz (k:IntKind) (zs:List Int) (i:Nat) (h:i<zs.length):(row k zs)[i]? = some (.int k (zs.getD i 0)):=by simp[row,h]
theorem row_one (k:IntKind) (zs:List Int):∀ v ∈ row k zs,v.oneCell'=true:=by
 intro v hv;simp only[row,Wx9] at hv;obtain⟨c,_,rfl⟩:=hv;rfl
theorem uv (k:IntKind) (zs:List Int) (n:Nat) (c:Int):(row k zs).toArray.setIfInBounds n (.int k c)=(row k (zs.set n c)).toArray:=by
 simp[row,List.map_set]
theorem qK (k:IntKind) (zs:List Int):(row k zs).toArray.size=zs.length:=by rw[List.size_toArray,zu]
theorem zy {w:World} {g:Nat} {k:IntKind} {zs:List Int} {t:TypeId} {fr:Nat × Nat} (h:w.heap[g]? = some (.cells (row k zs).toArray t fr)) (i:Nat) (hi:i<zs.length):w.cell? ⟨g,i,none⟩=some (.int k (zs.getD i 0)):=by
 rw[cell_of_row w g i _ t fr h];simpa using vz k zs i hi
theorem zx {w:World} {g:Nat} {cs:List Value} {t:TypeId} {fr:Nat × Nat} (h:w.heap[g]? = some (.cells cs.toArray t fr)):w.rangeAt g 0 cs:=fun j v hv=>by
 rw[Wq7,cell_of_row w g j _ t fr h];simpa using hv
theorem qq {w:World} {g n:Nat} {k:IntKind} {zs:List Int} {t:TypeId} (h:w.heap[g]? = some (.cells (row k zs).toArray t (0,0))) (hn:zs.length=n):w.there g 0 n:=fun j hj=>by
 rw[Wq7];exact⟨by rw[zy h j (by omega)];rfl,frozen_of_row w g j _ t h⟩
theorem U8 {P:Program} (t e:TypeId) (n:Nat) (cs:Array Value) (k:IntKind) (i:Nat) (v:Value) (w:World) (h:P.underlying t=some (.array n e)) (he:(P.info? e).map (·.size)=some 1) (d:TypeDesc) (hu:P.underlying e=some d) (hd:d.isRow=false) (hi:i<n) (hv:cs[i]? = some v) :
  (Instr.index t (.agg cs) (.int k i)).run P w=.ok v w:=by
 cases hq:P.info? e with
 | none=>simp[hq] at he
 | some inf =>
  have hs:inf.size=1:=by simpa [hq] using he
  have hagg:(isAgg e).run P w=.ok false w:=by
   unfold isAgg;rw[Sem.run_bind,run_underlying hu w];cases d <;> simp_all
  simp[Instr.index,asIntOf,run_underlying h,hi,part,sizeOf,typeInfo,hq,hs,hagg,hv]
theorem y6 {P:Program} {fn:Func} {p:Tmp} {ty:TypeId} (h:fn.results=#[.cell p ty]) (tmps:Array Value) (w:World) (g:Nat) (cs:List Value) (d:TypeDesc)
  (hp:tmps.getD p undef=.pointer (some ⟨g,0,none⟩)) (hc:w.rangeAt g 0 cs) (hu:P.underlying ty=some d) (hd:d.isRow=true) (hi:(P.info? ty).map (·.size)=some cs.length) :
  (results fn tmps).run P w=.ok (.agg cs.toArray) w:=by
 have hp':tmps[p]?.getD undef=.pointer (some ⟨g,0,none⟩):=by simpa using hp
 simp[results,h,hp',asAddr,run_loadVar_mid w g 0 ty cs d hc hu hd hi]
theorem below_setCells {B g:Nat} (hB:B<=g):∀ (vs:List Value) (o:Nat) (w0 w:World),Below B w0 w->Below B w0 (w.setCells g o vs)
 | [],_,_,_,h=>h
 | v :: r,o,w0,_,h=>below_setCells hB r (o+1) w0 _ (h.setCell (p:=⟨g,o,none⟩) hB v)
theorem size_setCells (g:Nat):∀ (vs:List Value) (o:Nat) (w:World),(w.setCells g o vs).heap.size=w.heap.size
 | [],_,_=>rfl
 | _ :: r,o,_=>(size_setCells g r (o+1) _).trans (by simp[World.setCell])
theorem zJ {w:World} {B:Nat} {e:TypeId} {s:Nat} {v:Value} {n:Nat} {xs:List Value} (h:w.ownsRow B e s v n xs) (k:Nat) (hk:v.ownBlock=some k):B<=k/\k<w.heap.size:=h.lt k hk
theorem uW {B:Nat} {w0 w wx w3:World} {r:Option Nat} (h:Below B w0 w) (hB:B<=w0.heap.size) (hx:w.grownBy wx none) (hg:wx.grownBy w3 r) (hr:∀ k,r=some k->B<=k):Below B w0 w3 :=
 (h.grown hx (Wqx hB h.size) (fun k h=>by cases h)).grown hg (Wqx (Wqx hB h.size) hx.size) hr
def IsB (l:List Int):Prop := ∀ x ∈ l,0<=x/\x<256
theorem IsB.at {l:List Int} (h:IsB l) (i:Nat):0<=l.getD i 0/\l.getD i 0<256:=by
 by_cases hi:i<l.length
 ·exact h _ (by rw[List.getD_eq_getElem?_getD,List.getElem?_eq_getElem hi];exact Wz5 _)
 rw[List.getD_eq_getElem?_getD,List.getElem?_eq_none (by omega)];simp
def IsW (l:List Int):Prop := ∀ x ∈ l,0<=x/\x<4294967296
theorem IsW.at {l:List Int} (h:IsW l) (i:Nat):0<=l.getD i 0/\l.getD i 0<4294967296:=by
 by_cases hi:i<l.length
 ·exact h _ (by rw[List.getD_eq_getElem?_getD,List.getElem?_eq_getElem hi];exact Wz5 _)
 rw[List.getD_eq_getElem?_getD,List.getElem?_eq_none (by omega)];simp
theorem IsW.set {l:List Int} (h:IsW l) (i:Nat) (v:Int) (hv:0<=v/\v<4294967296):IsW (l.set i v):=by
 intro x hx;rcases List.mem_or_eq_of_mem_set hx with h' | h'
 ·exact h x h'
 rw[h'];exact hv
theorem Q6 (o:BinOp) (a b:Int) (ho:o=.and ∨ o=.or ∨ o=.xor):0<=bits o .u32 a b/\bits o .u32 a b<4294967296:=by
 rcases ho with rfl | rfl | rfl;all_goals
  show 0<=IntKind.u32.wrap _/\IntKind.u32.wrap _<_;rw[IntKind.wrap_u32'];omega
def kN (k:Int):ByteArray:=if k == 1 then ⟨#[99,111,109,109,105,116]⟩ else if k == 2 then ⟨#[116,114,101,101]⟩ else if k == 3 then ⟨#[98,108,111,98]⟩ else if k == 4 then ⟨#[116,97,103]⟩ else ⟨#[]⟩
theorem Vq (k:Int) (w:World):Calls prog 98 #[.int .i64 k] w fun e w'=>e=.returned (.string (kN k))/\w'=w:=by
 go_enter func98,ntmps98;go_wp2;all_goals (go_ret;refine⟨?_,rfl⟩;unfold kN;simp[*])
theorem zyW (k:Int) (w:World):Calls prog 50 #[.int .i64 k] w fun e w'=>e=.returned (.string (kN k))/\w'=w:=by
 go_enter func50,ntmps50;go_wp2;all_goals (go_ret;refine⟨?_,rfl⟩;unfold kN;simp[*])
def WZ (k:Int) (n:Nat):Value:=if (kN k).toList.isEmpty=true then .iface 42 (.int .i64 20) else if (100000:Int)<n then .iface 42 (.int .i64 11) else .nilIface
theorem WQ (k:Int) (a:Option Addr) (n cap:Nat) (w:World):Calls prog 83 #[.agg #[.int .i64 k,.slice a n cap]] w fun e w'=>e=.returned (WZ k n)/\w'=w.alloc (.cells #[.int .i64 k,.slice a n cap] 27):=by
 go_enter func83,ntmps83;go_wp2_with (go_at_call 98;refine(Vq _ _).mono ?_;rintro ev w1 ⟨rfl,rfl⟩)
 all_goals (go_ret;refine⟨?_,rfl⟩;unfold WZ;simp[*])
def h0 (k:Int) (n:Nat):List UInt8:=(kN k).data.toList++32 :: Lib.decDigits n
def hd (k:Int) (n:Nat):List UInt8:=h0 k n++[0]
theorem zk3 (k:Int):(kN k).data.toList=if k == 1 then [99,111,109,109,105,116] else if k == 2 then [116,114,101,101] else if k == 3 then [98,108,111,98] else if k == 4 then [116,97,103] else []:=by
 unfold kN;split
 ·rfl
 split
 ·rfl
 split
 ·rfl
 split
 ·rfl
 rfl
end Go.Proofs.YtiaaekdpfpaigaaGreatDoor.Id
namespace Go.Proofs
open Go.Proofs.Tryz
open Go.Shelf
def lays156_ren:Go.Shelf.Ren:=⟨fun | 156=>111 | 165=>130 | 166=>131 | 169=>132 | 240=>142 | 241=>143 | 276=>158 | 277=>159 | n=>n,fun | 31=>219 | 9=>9 | 3=>3 | 4=>4 | 0=>0 | 20=>20 | 72=>235 | 76=>236 | 70=>233 | 37=>22 | 75=>35 | 127=>247 | 164=>109 | 5=>5 | 80=>238 | n=>n,fun | n=>n⟩
theorem lays156:Go.Proofs.Lays.n156 prog lays156_ren:={
 mixed:=by kernel_rfl
 f156:=func111.trans (congrArg some (by kernel_rfl))
 f165:=func130.trans (congrArg some (by kernel_rfl))
 f166:=func131.trans (congrArg some (by kernel_rfl))
 f169:=func132.trans (congrArg some (by kernel_rfl))
 f240:=func142.trans (congrArg some (by kernel_rfl))
 f241:=func143.trans (congrArg some (by kernel_rfl))
 f276:=func158.trans (congrArg some (by kernel_rfl))
 f277:=func159.trans (congrArg some (by kernel_rfl))
 t0:=underlying0
 a0:=isAgg0
 z0:=sizeOf0
 v0:=zeroValue0
 t3:=underlying3
 a3:=isAgg3
 z3:=sizeOf3
 v3:=zeroValue3
 t4:=underlying4
 a4:=isAgg4
 z4:=sizeOf4
 v4:=zeroValue4
 t9:=underlying9
 a9:=isAgg9
 z9:=sizeOf9
 v9:=zeroValue9
 t20:=underlying20
 a20:=isAgg20
 z20:=sizeOf20
 v20:=zeroValue20
 t31:=underlying219
 a31:=isAgg219
 z31:=sizeOf219
 v31:=zeroValue219
 t37:=underlying22
 a37:=isAgg22
 z37:=sizeOf22
 v37:=zeroValue22
 t70:=underlying233
 a70:=isAgg233
 z70:=sizeOf233
 v70:=zeroValue233
 t72:=underlying235
 a72:=isAgg235
 z72:=sizeOf235
 v72:=zeroValue235
 t75:=underlying35
 a75:=isAgg35
 z75:=sizeOf35
 v75:=zeroValue35
 t76:=underlying236
 a76:=isAgg236
 z76:=sizeOf236
 v76:=zeroValue236
 t127:=underlying247
 a127:=isAgg247
 z127:=sizeOf247
 v127:=zeroValue247
 t164:=underlying109
 a164:=isAgg109
 z164:=sizeOf109
 v164:=zeroValue109 }
theorem Builder_Extra_156:Builder.Extra prog lays156_ren:={
 sizeBuilder:=by kernel_rfl
 liesBuilder:=by kernel_rfl
 t5:=underlying5
 a5:=isAgg5
 z5:=sizeOf5
 v5:=zeroValue5
 infoByte:=by kernel_rfl
 cellsByte:=by kernel_rfl
 sizeByte:=by kernel_rfl
 neB5:=by decide }
open Go.RowKit in
theorem strings_Join (bk o c:Nat) (xs:List ByteArray) (sep:ByteArray) (w:World) (hcells:∀ (j:Nat) x,xs[j]? = some x->w.cell? ⟨bk,o+j,none⟩=some (.string x)) (hbk:bk<w.heap.size) (hN:xs.length<=140737488355328) (hcap:xs.length<=c) (hlen:(Lib.join (xs.map (·.data.toList)) sep.data.toList).length<=140737488355328) :
  Calls prog 111 #[.slice (some ⟨bk,o,none⟩) xs.length c,.string sep] w fun e w'=>e=.returned (.string ⟨(Lib.join (xs.map (·.data.toList)) sep.data.toList).toArray⟩)/\Below w.heap.size w w':=Any.strings_Join lays156 Builder_Extra_156 bk o c xs sep w hcells hbk hN hcap hlen
def laysM171_ren:Go.Shelf.Ren:=⟨fun | 171=>100 | 243=>112 | 246=>133 | 283=>144 | 284=>145 | 285=>146 | 286=>147 | 129=>161 | 317=>160 | 318=>162 | 319=>163 | 320=>164 | 337=>172 | 338=>173 | n=>n,fun | 3=>3 | 9=>9 | 2=>2 | 4=>4 | 171=>248 | 0=>0 | 53=>123 | 37=>22 | 5=>5 | 173=>251 | 212=>260 | 51=>50 | 20=>20 | 213=>261 | 46=>25 | 232=>278 | 233=>108 | n=>n,fun | 17=>5 | 18=>8 | 19=>9 | n=>n⟩
theorem laysM171:Go.Proofs.LaysM.n171 prog laysM171_ren:={
 mixed:=by kernel_rfl
 f129:=func161.trans (congrArg some (by kernel_rfl))
 f171:=func100.trans (congrArg some (by kernel_rfl))
 f243:=func112.trans (congrArg some (by kernel_rfl))
 f246:=func133.trans (congrArg some (by kernel_rfl))
 f283:=func144.trans (congrArg some (by kernel_rfl))
 f284:=func145.trans (congrArg some (by kernel_rfl))
 f285:=func146.trans (congrArg some (by kernel_rfl))
 f286:=func147.trans (congrArg some (by kernel_rfl))
 f317:=func160.trans (congrArg some (by kernel_rfl))
 f318:=func162.trans (congrArg some (by kernel_rfl))
 f319:=func163.trans (congrArg some (by kernel_rfl))
 f320:=func164.trans (congrArg some (by kernel_rfl))
 f337:=func172.trans (congrArg some (by kernel_rfl))
 f338:=func173.trans (congrArg some (by kernel_rfl))
 t0:=underlying0
 a0:=isAgg0
 z0:=sizeOf0
 v0:=zeroValue0
 t2:=underlying2
 a2:=isAgg2
 z2:=sizeOf2
 v2:=zeroValue2
 t3:=underlying3
 a3:=isAgg3
 z3:=sizeOf3
 v3:=zeroValue3
 t4:=underlying4
 a4:=isAgg4
 z4:=sizeOf4
 v4:=zeroValue4
 t5:=underlying5
 a5:=isAgg5
 z5:=sizeOf5
 v5:=zeroValue5
 t9:=underlying9
 a9:=isAgg9
 z9:=sizeOf9
 v9:=zeroValue9
 t20:=underlying20
 a20:=isAgg20
 z20:=sizeOf20
 v20:=zeroValue20
 t37:=underlying22
 a37:=isAgg22
 z37:=sizeOf22
 v37:=zeroValue22
 t46:=underlying25
 a46:=isAgg25
 z46:=sizeOf25
 v46:=zeroValue25
 t51:=underlying50
 a51:=isAgg50
 z51:=sizeOf50
 v51:=zeroValue50
 t53:=underlying123
 a53:=isAgg123
 z53:=sizeOf123
 v53:=zeroValue123
 t171:=underlying248
 a171:=isAgg248
 z171:=sizeOf248
 v171:=zeroValue248
 t173:=underlying251
 a173:=isAgg251
 z173:=sizeOf251
 v173:=zeroValue251
 t212:=underlying260
 a212:=isAgg260
 z212:=sizeOf260
 v212:=zeroValue260
 t213:=underlying261
 a213:=isAgg261
 z213:=sizeOf261
 t232:=underlying278
 a232:=isAgg278
 z232:=sizeOf278
 v232:=zeroValue278
 t233:=underlying108
 a233:=isAgg108
 z233:=sizeOf108
 v233:=zeroValue108
 g17:=by kernel_rfl
 g18:=by kernel_rfl
 g19:=by kernel_rfl
 i0:=by kernel_rfl
 i2:=by kernel_rfl
 i3:=by kernel_rfl
 i4:=by kernel_rfl
 i5:=by kernel_rfl
 i9:=by kernel_rfl
 i20:=by kernel_rfl
 i37:=by kernel_rfl
 i46:=by kernel_rfl
 i51:=by kernel_rfl
 i53:=by kernel_rfl
 i171:=by kernel_rfl
 i173:=by kernel_rfl
 i212:=by kernel_rfl
 i232:=by kernel_rfl
 i233:=by kernel_rfl
 m17:=by kernel_rfl
 m18:=by kernel_rfl
 m19:=by kernel_rfl }
open Go.RowKit Go.Sort Go.Lib in
theorem strconv_Itoa (n:Int) (h0 : -9223372036854775808<=n) (h1:n<=9223372036854775807) (w:World) (htab:Lib.TabIs prog w "internal/strconv.uint64pow10" .u64 Lib.pow10Tab) :
  Calls prog 100 #[.int .i64 n] w fun e w'=>e=.returned (.string ⟨(Lib.itoa n).toArray⟩)/\∃ k os,w'=grow (w.drewN k) os:=Any.strconv_Itoa laysM171 n h0 h1 w htab
end Go.Proofs
namespace Go.Proofs.YtiaaekdpfpaigaaGreatDoor.Id
open Go.Proofs.Tryz
open Go.RowKit
def Tab (w:World):Prop:=Lib.TabIs prog w "internal/strconv.uint64pow10" .u64 Lib.pow10Tab
theorem qyJ:prog.globalNamed "internal/strconv.uint64pow10" = some 5:=by kernel_rfl
theorem Tab.below {w w':World} (h:Tab w) (hb:Below w.heap.size w w'):Tab w':=by
 have hg:=qyJ
 unfold Tab Lib.TabIs World.var? at h ⊢;rw[hg] at h ⊢;simp only[Option.bind_some] at h ⊢;have hlt:5<w.heap.size:=by
  rcases Nat.lt_or_ge 5 w.heap.size with h' | h'
  ·exact h'
  rw[Array.getElem?_eq_none h'] at h;cases h
 rw[hb.block 5 hlt];exact h
theorem zyY (n:Nat) (hn:n<=400000) (w:World) (ht:Tab w):Calls prog 100 #[.int .i64 n] w fun e w'=>e=.returned (.string ⟨(Lib.decDigits n).toArray⟩)/\Below w.heap.size w w':=by
 refine(strconv_Itoa n (by omega) (by omega) w ht).mono ?_;rintro e w' ⟨rfl,k,os,rfl⟩;refine⟨?_,rfl,rfl,rfl,by simp[Sort.grow],fun j hj=>?_⟩
 ·rw[Lib.itoa_nonneg]
 show (w.heap++os)[j]? = _;rw[Array.getElem?_append_left hj]
theorem zz0 (bk o c:Nat) (xs:List ByteArray) (w:World) (hcells:∀ (j:Nat) x,xs[j]? = some x->w.cell? ⟨bk,o+j,none⟩=some (.string x)) (hbk:bk<w.heap.size) (hN:xs.length<=1000) (hcap:xs.length<=c)
  (hlen:(Lib.join (xs.map (·.data.toList)) [32]).length<=1000000) :
  Calls prog 99 #[.slice (some ⟨bk,o,none⟩) xs.length c] w fun e w'=>e=.returned (.string ⟨(Lib.join (xs.map (·.data.toList)) [32]).toArray⟩)/\Below w.heap.size w w':=by
 have HJ:Hid (Calls prog 111 #[.slice (some ⟨bk,o,none⟩) xs.length c,.string ⟨#[32]⟩] w fun e w'=>e=.returned (.string ⟨(Lib.join (xs.map (·.data.toList)) [32]).toArray⟩)/\Below w.heap.size w w') :=
  strings_Join bk o c xs ⟨#[32]⟩ w hcells hbk (by omega) hcap (Wqx hlen (by decide))
 clear hcells hlen;go_enter func99,ntmps99;go_wp2_with fail
 refine HJ.out.mono ?_;rintro e w' ⟨rfl,hb⟩;go_wp2;go_ret;exact⟨rfl,hb⟩
def FQ (x:Int):Int:=bits .or .u32 (x*2 % 4294967296) (x / 2147483648)
def Xy (x:Int):Int:=bits .or .u32 (x*32 % 4294967296) (x / 134217728)
def Yw (x:Int):Int:=bits .or .u32 (x*1073741824 % 4294967296) (x / 4)
def ch (b c d:Int):Int:=bits .or .u32 (bits .and .u32 b c) (bits .and .u32 (bits .xor .u32 4294967295 b) d)
def par (b c d:Int):Int:=bits .xor .u32 (bits .xor .u32 b c) d
def maj (b c d:Int):Int:=bits .or .u32 (bits .or .u32 (bits .and .u32 b c) (bits .and .u32 b d)) (bits .and .u32 c d)
def U (x:Int):Prop:=0<=x/\x<4294967296
theorem zx0 (x:Int):U (FQ x):=Q6 _ _ _ (by simp)
theorem D6 (x:Int):U (Xy x):=Q6 _ _ _ (by simp)
theorem zz1 (x:Int):U (Yw x):=Q6 _ _ _ (by simp)
theorem ch_bd (a b c:Int):U (ch a b c):=Q6 _ _ _ (by simp)
theorem zx1 (a b c:Int):U (par a b c):=Q6 _ _ _ (by simp)
theorem qyK (a b c:Int):U (maj a b c):=Q6 _ _ _ (by simp)
theorem zk4:bits .and .u64 1 31=1:=by decide +kernel
theorem zk5:bits .and .u64 5 31=5:=by decide +kernel
theorem zx2:bits .and .u64 30 31=30:=by decide +kernel
theorem rot1 (x:Int) (w:World) (hx:U x):Calls prog 106 #[.int .u32 x,.int .i64 1] w fun e w'=>e=.returned (.int .u32 (FQ x))/\w=w':=by
 obtain⟨hx0,hx1⟩:=hx;have h1:=zk4;go_enter func106,ntmps106;go_wp2;go_ret;exact⟨rfl,rfl⟩
theorem rot5 (x:Int) (w:World) (hx:U x):Calls prog 106 #[.int .u32 x,.int .i64 5] w fun e w'=>e=.returned (.int .u32 (Xy x))/\w=w':=by
 obtain⟨hx0,hx1⟩:=hx;have h1:=zk5;go_enter func106,ntmps106;go_wp2;go_ret;exact⟨rfl,rfl⟩
theorem rot30 (x:Int) (w:World) (hx:U x):Calls prog 106 #[.int .u32 x,.int .i64 30] w fun e w'=>e=.returned (.int .u32 (Yw x))/\w=w':=by
 obtain⟨hx0,hx1⟩:=hx;have h1:=zx2;go_enter func106,ntmps106;go_wp2;go_ret;exact⟨rfl,rfl⟩
theorem tn1 (x:Int) (w:World) (hx:U x):Calls prog 81 #[.int .u32 x,.int .i64 1] w fun e w'=>e=.returned (.int .u32 (FQ x))/\∃ n,w'=w.drewN n:=by
 obtain⟨hx0,hx1⟩:=hx;go_enter func81,ntmps81;go_wp2;go_quiet (fail);go_wp2;go_ret;exact⟨rfl,_,rfl⟩
theorem tn5 (x:Int) (w:World) (hx:U x):Calls prog 81 #[.int .u32 x,.int .i64 5] w fun e w'=>e=.returned (.int .u32 (Xy x))/\∃ n,w'=w.drewN n:=by
 obtain⟨hx0,hx1⟩:=hx;go_enter func81,ntmps81;go_wp2;go_quiet (fail);go_wp2;go_ret;exact⟨rfl,_,rfl⟩
theorem tn30 (x:Int) (w:World) (hx:U x):Calls prog 81 #[.int .u32 x,.int .i64 30] w fun e w'=>e=.returned (.int .u32 (Yw x))/\∃ n,w'=w.drewN n:=by
 obtain⟨hx0,hx1⟩:=hx;go_enter func81,ntmps81;go_wp2;go_quiet (fail);go_wp2;go_ret;exact⟨rfl,_,rfl⟩
theorem BW (b c d:Int) (w:World) (hb:U b) (hc:U c) (hd:U d):Calls prog 116 #[.int .u32 b,.int .u32 c,.int .u32 d] w fun e w'=>e=.returned (.int .u32 (ch b c d))/\w=w':=by
 obtain⟨hb0,hb1⟩:=hb;obtain⟨hc0,hc1⟩:=hc;obtain⟨hd0,hd1⟩:=hd;have hsg:IntKind.u32.signed=false:=rfl;have hmx:IntKind.u32.max=4294967295:=rfl;go_enter func116,ntmps116;go_wp2;go_ret;exact⟨rfl,rfl⟩
theorem WX (b c d:Int) (w:World) (hb:U b) (hc:U c) (hd:U d):Calls prog 117 #[.int .u32 b,.int .u32 c,.int .u32 d] w fun e w'=>e=.returned (.int .u32 (par b c d))/\w=w':=by
 obtain⟨hb0,hb1⟩:=hb;obtain⟨hc0,hc1⟩:=hc;obtain⟨hd0,hd1⟩:=hd;go_enter func117,ntmps117;go_wp2;go_ret;exact⟨rfl,rfl⟩
theorem L4 (b c d:Int) (w:World) (hb:U b) (hc:U c) (hd:U d):Calls prog 118 #[.int .u32 b,.int .u32 c,.int .u32 d] w fun e w'=>e=.returned (.int .u32 (maj b c d))/\w=w':=by
 obtain⟨hb0,hb1⟩:=hb;obtain⟨hc0,hc1⟩:=hc;obtain⟨hd0,hd1⟩:=hd;go_enter func118,ntmps118;go_wp2;go_ret;exact⟨rfl,rfl⟩
theorem L8 (n:Nat) (h l:Int) (h0:0<=h) (l0:0<=l) (hl:l<2 ^ n) (hs:h*2 ^ n+l<4294967296):bits .or .u32 (h*2 ^ n) l=h*2 ^ n+l:=by
 obtain⟨a,rfl⟩:=Wx5 h0;obtain⟨b,rfl⟩:=Wx5 l0;obtain⟨q,hq⟩:∃ q,q=2 ^ n:=⟨_,rfl⟩;have hb:b<2 ^ n:=by exact_mod_cast hl
 have e:2 ^ n*a+b=2 ^ n*a ||| b:=Nat.two_pow_add_eq_or_of_lt hb a
 have hp:((a:Int)*2 ^ n)=((2 ^ n*a:Nat):Int):=by push_cast;rw[Int.mul_comm]
 rw[hp] at hs ⊢;rw[u32_or_nat _ _ (by omega) (by omega),<-e];push_cast;rfl
def D7 (a b c d:Int):Int:=a*16777216+b*65536+c*256+d
theorem FX (a b c d:Int) (ha:0<=a/\a<256) (hb:0<=b/\b<256) (hc:0<=c/\c<256) (hd:0<=d/\d<256):bits .or .u32 (bits .or .u32 (bits .or .u32 (a*16777216) (b*65536)) (c*256)) d=D7 a b c d:=by
 have h1:=L8 24 a (b*65536) (by omega) (by omega) (by omega) (by omega);have h2:=L8 16 (a*256+b) (c*256) (by omega) (by omega) (by omega) (by omega);have h3:=L8 8 (a*65536+b*256+c) d (by omega) (by omega) (by omega) (by omega);rw[show (2:Int) ^ 24=16777216 from by decide] at h1;rw[show (2:Int) ^ 16=65536 from by decide] at h2
 rw[show (2:Int) ^ 8=256 from by decide] at h3;rw[h1,show a*16777216+b*65536=(a*256+b)*65536 from by omega,h2,show (a*256+b)*65536+c*256=(a*65536+b*256+c)*256 from by omega,h3];unfold D7;omega
theorem or8 (v x:Int) (hv:0<=v/\v<16777216) (hx:0<=x/\x<256):bits .or .u32 (v*256 % 4294967296) x=v*256+x:=by
 rw[show v*256 % 4294967296=v*2 ^ 8 from by omega,L8 8 v x hv.1 hx.1 (by omega) (by omega)];rfl
def At (w:World) (b off:Nat) (zs:List Int):Prop := ∀ i,i<zs.length->w.cell? ⟨b,off+i,none⟩=some (.int .u8 (zs.getD i 0))
theorem BY (b off cap i:Nat) (zs:List Int) (w:World) (hl:zs.length=64) (hz:IsB zs) (hi:i<16) (hat:At w b off zs) :
  Calls prog 80 #[.slice (some ⟨b,off,none⟩) 64 cap,.int .i64 (4*i)] w fun e w'=>e=.returned (.int .u32 (D7 (zs.getD (4*i) 0) (zs.getD (4*i+1) 0) (zs.getD (4*i+2) 0) (zs.getD (4*i+3) 0)))/\∃ n,w'=w.drewN n:=by
 obtain⟨x0,H0⟩:=nn_ (zs.getD (4*i) 0);obtain⟨x1,H1⟩:=nn_ (zs.getD (4*i+1) 0);obtain⟨x2,H2⟩:=nn_ (zs.getD (4*i+2) 0);obtain⟨x3,H3⟩:=nn_ (zs.getD (4*i+3) 0);have c0:w.cell? ⟨b,off+4*i,none⟩=some (.int .u8 x0):=by rw[H0.out];exact hat _ (by omega)
 have c1:w.cell? ⟨b,off+(4*i+1),none⟩=some (.int .u8 x1):=by rw[H1.out];exact hat _ (by omega)
 have c2:w.cell? ⟨b,off+(4*i+2),none⟩=some (.int .u8 x2):=by rw[H2.out];exact hat _ (by omega)
 have c3:w.cell? ⟨b,off+(4*i+3),none⟩=some (.int .u8 x3):=by rw[H3.out];exact hat _ (by omega)
 have b0:0<=x0/\x0<256:=by rw[H0.out];exact hz.at _
 have b1:0<=x1/\x1<256:=by rw[H1.out];exact hz.at _
 have b2:0<=x2/\x2<256:=by rw[H2.out];exact hz.at _
 have b3:0<=x3/\x3<256:=by rw[H3.out];exact hz.at _
 rw[<-H0.out,<-H1.out,<-H2.out,<-H3.out];obtain⟨j,HJ⟩:=nn_ (4*i);rw[show (4*(i:Int))=(j:Int) from by have:=HJ.out;omega];rw[<-HJ.out] at c0 c1 c2 c3;have hj:j<=60:=by have:=HJ.out;omega
 go_enter func80,ntmps80;go_wp2;go_quiet (fail);go_wp2;go_ret;rw[<-FX x0 x1 x2 x3 b0 b1 b2 b3];exact⟨rfl,_,rfl⟩
def val (zs:List Int) (j:Nat):Nat->Int
 | 0=>0
 | m+1=>val zs j m*256+zs.getD (4*j+m) 0
theorem A0 (zs:List Int) (hz:IsB zs) (j:Nat):∀ m,0<=val zs j m/\val zs j m<256 ^ m
 | 0=>by simp[val]
 | m+1=>by
  have h:=A0 zs hz j m;have hb:=hz.at (4*j+m);simp only[val,Int.pow_succ];generalize (256:Int) ^ m=q at h ⊢;omega
theorem val4 (zs:List Int) (j:Nat):val zs j 4=D7 (zs.getD (4*j) 0) (zs.getD (4*j+1) 0) (zs.getD (4*j+2) 0) (zs.getD (4*j+3) 0):=by
 simp only[val,D7,Nat.add_zero];omega
def wAt (zs:List Int) (k:Nat):List Int:=(List.range 80).map fun j=>val zs j (min (k-4*j) 4)
theorem X5 (zs:List Int) (k:Nat):(wAt zs k).length=80:=by simp[wAt]
theorem FJ (zs:List Int) (k j:Nat) (h:j<80):(wAt zs k).getD j 0=val zs j (min (k-4*j) 4):=by simp[wAt,h]
theorem zx3 (zs:List Int):wAt zs 0=WqV 80 0:=by
 apply Wy0 (by rw[X5,Wy3]);intro j h1 h2;rw[Wx7];simp only[wAt,Wy1,Wy2];rw[show min (0-4*j) 4=0 from by omega];rfl
theorem zx4 (zs:List Int) (k:Nat) (h:k<64):wAt zs (k+1)=(wAt zs k).set (k / 4) ((wAt zs k).getD (k / 4) 0*256+zs.getD k 0):=by
 rw[FJ zs k (k / 4) (by omega)];apply Wy0 (by simp[wAt]);intro j h1 h2;have hj:j<80:=by rw[X5] at h1;exact h1
 rw[Wx8];by_cases e:k / 4=j
 ·rw[if_pos e];subst e;simp only[wAt,Wy1,Wy2];rw[show min (k+1-4*(k / 4)) 4=min (k-4*(k / 4)) 4+1 from by omega,val,show 4*(k / 4)+min (k-4*(k / 4)) 4=k from by omega]
 rw[if_neg e];simp only[wAt,Wy1,Wy2];rw[show min (k+1-4*j) 4=min (k-4*j) 4 from by omega]
theorem zz2 (zs:List Int) (hz:IsB zs) (k:Nat) (h:k<64):0<=(wAt zs k).getD (k / 4) 0/\(wAt zs k).getD (k / 4) 0<16777216:=by
 rw[FJ zs k _ (by omega)];have hb:=A0 zs hz (k / 4) (min (k-4*(k / 4)) 4);have h3:min (k-4*(k / 4)) 4<=3:=by omega
 refine⟨hb.1,Wx6 hb.2 ?_⟩;generalize min (k-4*(k / 4)) 4=m at h3;match m,h3 with
 | 0,_=>decide
 | 1,_=>decide
 | 2,_=>decide
 | 3,_=>decide
theorem L9 (zs:List Int) (hz:IsB zs) (k:Nat):IsW (wAt zs k):=by
 intro x hx;simp only[wAt,Wx9,List.mem_range] at hx;obtain⟨j,-,rfl⟩:=hx;have hb:=A0 zs hz j (min (k-4*j) 4);have h3:min (k-4*j) 4<=4:=by omega
 refine⟨hb.1,Wx6 hb.2 ?_⟩;generalize min (k-4*j) 4=m at h3;match m,h3 with
 | 0,_=>decide
 | 1,_=>decide
 | 2,_=>decide
 | 3,_=>decide
 | 4,_=>decide
def rAt (zs:List Int) (i:Nat):List Int:=(List.range 80).map fun j=>if j<i then val zs j 4 else 0
theorem FK (zs:List Int) (k:Nat):(rAt zs k).length=80:=by simp[rAt]
theorem zx5 (zs:List Int):rAt zs 0=WqV 80 0:=by
 apply Wy0 (by rw[FK,Wy3]);intro j h1 h2;rw[Wx7];simp only[rAt,Wy1,Wy2];rw[if_neg (by omega)]
theorem zx6 (zs:List Int) (i:Nat) (h:i<16):rAt zs (i+1)=(rAt zs i).set i (val zs i 4):=by
 apply Wy0 (by simp[rAt]);intro j h1 h2;rw[Wx8];simp only[rAt,Wy1,Wy2];by_cases e:i=j
 ·subst e;rw[if_pos rfl,if_pos (by omega)]
 rw[if_neg e];by_cases h:j<i
 ·rw[if_pos (by omega),if_pos h]
 rw[if_neg (by omega),if_neg h]
theorem qyV (zs:List Int):rAt zs 16=wAt zs 64:=by
 apply Wy0 (by simp[rAt,wAt]);intro j h1 h2;simp only[rAt,wAt,Wy1,Wy2];by_cases h:j<16
 ·rw[if_pos h,show min (64-4*j) 4=4 from by omega]
 rw[if_neg h,show min (64-4*j) 4=0 from by omega];rfl
def nx (v:List Int) (i:Nat):Int:=bits .xor .u32 (bits .xor .u32 (bits .xor .u32 (v.getD (i-3) 0) (v.getD (i-8) 0)) (v.getD (i-14) 0)) (v.getD (i-16) 0)
def Jk (ws:List Int):Nat->List Int
 | 0=>ws
 | j+1=>(Jk ws j).set (16+j) (FQ (nx (Jk ws j) (16+j)))
theorem Vx (ws:List Int):∀ j,(Jk ws j).length=ws.length
 | 0=>rfl
 | j+1=>by rw[Jk,List.length_set,Vx ws j]
theorem Vj (ws:List Int) (h:IsW ws):∀ j,IsW (Jk ws j)
 | 0=>h
 | j+1=>(Vj ws h j).set _ _ (zx0 _)
theorem qqx (v:List Int) (i:Nat):U (nx v i):=Q6 _ _ _ (by simp)
def spread (zs:List Int):List Int:=Jk (wAt zs 64) 64
theorem A2 (zs:List Int):(spread zs).length=80:=by rw[spread,Vx,X5]
theorem A3 (zs:List Int) (hz:IsB zs):IsW (spread zs):=Vj _ (L9 zs hz 64) _
theorem wrap_i64 (n:Nat) (h:n<9223372036854775808):IntKind.i64.wrap (n:Int)=n:=by
 rw[IntKind.wrap_i64];omega
theorem heap_drew (w:World):w.drew.heap=w.heap:=rfl
def z80:List Int:=WqV 80 0
theorem A4 (w:World):(zeroValue 165).run prog w=.ok (.agg (row .u32 z80).toArray) w:=by kernel_rfl
theorem Yu (w:World) (a b c:Obj):((((w.alloc a).alloc b).alloc c).heap[w.heap.size]? = some a/\(((w.alloc a).alloc b).alloc c).heap[w.heap.size+1]? = some b)/\(((w.alloc a).alloc b).alloc c).heap[w.heap.size+1+1]? = some c:=by
 refine⟨⟨?_,?_⟩,?_⟩
 ·rw[Below.heap_alloc _ _ _ (by simp;omega)];exact heap_alloc2_old w a b
 ·rw[Below.heap_alloc _ _ _ (by simp)];exact heap_alloc2_new w a b
 have:=heap_alloc_new ((w.alloc a).alloc b) c;simpa using this
theorem A5 (zs:List Int) (w:World) (hl:zs.length=64) (hz:IsB zs) :
  Calls prog 104 #[.agg (row .u8 zs).toArray] w fun e w'=>e=.returned (.agg (row .u32 (spread zs)).toArray)/\Below w.heap.size w w':=by
 have hi47:∀ l:List Int,l.length=80->(prog.info? 165).map (·.size)=some (row .u32 l).length:=fun l h=>by rw[zu,h];exact size165
 have hi41:(prog.info? 108).map (·.size)=some (row .u8 zs).length:=by rw[zu,hl];exact size108
 obtain⟨arr,HA⟩:=nn_ (row .u8 zs);rw[<-HA.out];have hasz:arr.toArray.size=64:=by rw[HA.out,qK];exact hl
 rw[<-HA.out] at hi41;have HX:Hid (∀ i,i<64->arr.toArray[i]? = some (.int .u8 (zs.getD i 0))):=fun i hi=>by rw[HA.out];simpa using vz .u8 zs i (by omega)
 obtain⟨zr,HZ⟩:=nn_ ((row .u32 z80).toArray);have hzv:=A4;rw[<-HZ.out] at hzv;have H3:Hid (_/\_):=Yu w (.cells arr.toArray 108) (.cells zr 165) (.cells zr 165);have HB0:Hid (Below w.heap.size w (((w.alloc (.cells arr.toArray 108)).alloc (.cells zr 165)).alloc (.cells zr 165))):=(((Below.refl _ w).alloc (WzV _) _).alloc (by simp) _).alloc (by simp;omega) _
 go_enter func104,ntmps104;go_wp2_with (refine wpList_load_mid rfl 108 _ rfl w.heap.size 0 rfl arr _ (zx H3.out.1.1) underlying108 rfl hi41 ?_)
 go_loopg [8] 64 (fun k i wr=>∃ j:Nat,j<=64/\k=64-j/\i=.int .i64 j/\Hid (wr.heap[w.heap.size+1+1]? = some (.cells (row .u32 (wAt zs j)).toArray 165 (0,0)))/\Hid (wr.heap[w.heap.size+1]? = some (.cells (row .u32 z80).toArray 165 (0,0)))/\Hid (Below w.heap.size w wr));case atStart =>
  refine⟨0,by omega,rfl,rfl,hid ?_,hid ?_,HB0⟩
  ·rw[zx3,H3.out.2,HZ.out];rfl
  rw[H3.out.1.2,HZ.out]
 obtain⟨j,hj,hk,rfl,H1,H0,HB⟩:=hrel;by_cases hlt:j<64
 ·have hix:∀ w1:World,(Instr.index 108 (.agg arr.toArray) (.int .i64 j)).run prog w1=.ok (.int .u8 (zs.getD j 0)) w1:=fun w1=>U8 108 5 64 _ _ j _ w1 underlying108 size5 _ underlying5 rfl hlt (HX.out j hlt);obtain⟨x,HXX⟩:=nn_ (zs.getD j 0);rw[<-HXX.out] at hix;have hxb:0<=x/\x<256:=by rw[HXX.out];exact hz.at j
  obtain⟨m,HM⟩:=nn_ (j / 4);have hm:j / 4=m:=HM.out.symm;have hm2:m<80:=by omega
  obtain⟨v,HV⟩:=nn_ ((wAt zs j).getD (j / 4) 0);have hv:0<=v/\v<16777216:=by rw[HV.out];exact zz2 zs hz j hlt
  have hc:wr.cell? ⟨w.heap.size+1+1,m,none⟩=some (.int .u32 v):=by rw[HV.out,hm];exact zy H1.out m (by rw[X5];exact hm2)
  have hfz:=frozen_of_row wr (w.heap.size+1+1) m _ 165 H1.out;obtain⟨y,HY⟩:=nn_ (v*256+x);have hor:=or8 v x hv hxb;rw[<-HY.out] at hor;have hor2:bits .or .u32 (v*256) x=y:=by rw[<-hor];congr 1;omega
  go_wp2;go_roundg (64-(j+1));case measure=>omega
  refine⟨j+1,by omega,rfl,by go_num,hid ?_,hid ?_,HB.out.setCell (by simp <;> omega) _⟩
  ·rw[heap_setCell_same wr _ _ _ _ _ H1.out,zx4 zs j hlt,<-HV.out,<-HXX.out,<-HY.out,hm,uv,<-hor2]
  rw[heap_setCell_other wr _ _ _ (by simp)];exact H0.out
 obtain rfl:j=64:=by omega
 go_wp2;go_loopg [6] 64 (fun k i wr=>∃ j:Nat,j<=64/\k=64-j/\i=.int .i64 (16+j:Nat)/\Hid (wr.heap[w.heap.size+1+1]? = some (.cells (row .u32 (Jk (wAt zs 64) j)).toArray 165 (0,0)))/\Hid (wr.heap[w.heap.size+1]? = some (.cells (row .u32 z80).toArray 165 (0,0)))/\Hid (Below w.heap.size w wr));case atStart=>exact⟨0,by omega,rfl,rfl,H1,H0,HB⟩
 case round =>
 clear H1 H0 HB;obtain⟨j,hj,hk,rfl,H1,H0,HB⟩:=hrel;obtain⟨v,HV⟩:=nn_ (Jk (wAt zs 64) j);rw[<-HV.out] at H1;have hvl:v.length=80:=by rw[HV.out,Vx,X5]
 have hvw:IsW v:=by rw[HV.out];exact Vj _ (L9 zs hz 64) _
 obtain⟨q,HQ⟩:=nn_ (16+j);rw[<-HQ.out];have hq:16<=q/\q<=80:=by have:=HQ.out;omega
 by_cases hlt:q<80;rotate_left
 ·obtain rfl:q=80:=by omega
  have hj64:j=64:=by have:=HQ.out;omega
  subst hj64;have T1:Hid (wr.there (w.heap.size+1) 0 (row .u32 v).toArray.size):=hid (by rw[qK,hvl];exact qq H0.out (by simp[z80]));have T2:Hid ((prog.info? 165).map (·.size)=some (row .u32 v).toArray.size):=hid (by rw[qK,hvl];exact size165);have T3:Hid ((row .u32 v).toArray.all (·.oneCell')=true):=all_oneCell_toArray (row_one _ _)
  have HVS:Hid (v=spread zs):=HV.out;go_wp2_with (first | refine wpList_load_mid rfl 165 _ rfl (w.heap.size+1+1) 0 rfl (row .u32 v) _ (zx H1.out) underlying165 rfl (hi47 _ hvl) ?_ | refine wpList_store_mid rfl 165 _ _ rfl (w.heap.size+1) 0 (row .u32 v).toArray rfl rfl T1.out T2.out T3.out ?_)
  rw[<-HVS.out];refine bodyPost_ret (v:=.agg (row .u32 v).toArray) (y6 Tryz.results104 _ _ (w.heap.size+1) _ _ rfl (World.rangeAt_setCells_same wr (w.heap.size+1) 0 _ ?_) underlying165 rfl (hi47 _ hvl)) rfl ⟨rfl,below_setCells (by omega) _ _ _ _ HB.out⟩;rw[zu,hvl];exact qq H0.out (by simp[z80])
 obtain⟨x1,G1⟩:=nn_ (v.getD (q-3) 0);obtain⟨x2,G2⟩:=nn_ (v.getD (q-8) 0);obtain⟨x3,G3⟩:=nn_ (v.getD (q-14) 0);obtain⟨x4,G4⟩:=nn_ (v.getD (q-16) 0);obtain⟨q1,Q1⟩:=nn_ (q-3);have e1:IntKind.i64.wrap ((q:Int)-3)=(q1:Int):=by rw[show (q:Int)-3=(q1:Int) from by have:=Q1.out;omega];exact wrap_i64 _ (by have:=Q1.out;omega)
 have b1:q1<80:=by have:=Q1.out;omega
 have bi1:(q1:Int)<80:=by omega
 have bz1:(0:Int)<=q1:=by omega
 have c1:wr.cell? ⟨w.heap.size+1+1,q1,none⟩=some (.int .u32 x1):=by rw[G1.out,Q1.out];exact zy H1.out _ (by omega)
 obtain⟨q2,Q2⟩:=nn_ (q-8);have e2:IntKind.i64.wrap ((q:Int)-8)=(q2:Int):=by rw[show (q:Int)-8=(q2:Int) from by have:=Q2.out;omega];exact wrap_i64 _ (by have:=Q2.out;omega)
 have b2:q2<80:=by have:=Q2.out;omega
 have bi2:(q2:Int)<80:=by omega
 have bz2:(0:Int)<=q2:=by omega
 have c2:wr.cell? ⟨w.heap.size+1+1,q2,none⟩=some (.int .u32 x2):=by rw[G2.out,Q2.out];exact zy H1.out _ (by omega)
 obtain⟨q3,Q3⟩:=nn_ (q-14);have e3:IntKind.i64.wrap ((q:Int)-14)=(q3:Int):=by rw[show (q:Int)-14=(q3:Int) from by have:=Q3.out;omega];exact wrap_i64 _ (by have:=Q3.out;omega)
 have b3:q3<80:=by have:=Q3.out;omega
 have bi3:(q3:Int)<80:=by omega
 have bz3:(0:Int)<=q3:=by omega
 have c3:wr.cell? ⟨w.heap.size+1+1,q3,none⟩=some (.int .u32 x3):=by rw[G3.out,Q3.out];exact zy H1.out _ (by omega)
 obtain⟨q4,Q4⟩:=nn_ (q-16);have e4:IntKind.i64.wrap ((q:Int)-16)=(q4:Int):=by rw[show (q:Int)-16=(q4:Int) from by have:=Q4.out;omega];exact wrap_i64 _ (by have:=Q4.out;omega)
 have b4:q4<80:=by have:=Q4.out;omega
 have bi4:(q4:Int)<80:=by omega
 have bz4:(0:Int)<=q4:=by omega
 have c4:wr.cell? ⟨w.heap.size+1+1,q4,none⟩=some (.int .u32 x4):=by rw[G4.out,Q4.out];exact zy H1.out _ (by omega)
 have c5:wr.cell? ⟨w.heap.size+1+1,q,none⟩=some (.int .u32 (v.getD q 0)):=zy H1.out _ (by omega);have bi5:(q:Int)<80:=by omega
 have bz5:(0:Int)<=q:=by omega
 have f5:=frozen_of_row wr (w.heap.size+1+1) q _ 165 H1.out;obtain⟨n,HN⟩:=nn_ (nx v q);have hn:bits .xor .u32 (bits .xor .u32 (bits .xor .u32 x1 x2) x3) x4=n:=by rw[HN.out,G1.out,G2.out,G3.out,G4.out];rfl
 have hnb:U n:=by rw[HN.out];exact qqx v q
 have k1:∀ (W:World) (u:Value),(W.setCell ⟨w.heap.size+1+1,q,none⟩ u).cell? ⟨w.heap.size+1+1,q1,none⟩=W.cell? ⟨w.heap.size+1+1,q1,none⟩:=fun W u=>World.cell?_setCell_other _ _ _ _ (by intro h;simp only[Addr.mk.injEq] at h;have:=Q1.out;omega)
 have k2:∀ (W:World) (u:Value),(W.setCell ⟨w.heap.size+1+1,q,none⟩ u).cell? ⟨w.heap.size+1+1,q2,none⟩=W.cell? ⟨w.heap.size+1+1,q2,none⟩:=fun W u=>World.cell?_setCell_other _ _ _ _ (by intro h;simp only[Addr.mk.injEq] at h;have:=Q2.out;omega)
 have k3:∀ (W:World) (u:Value),(W.setCell ⟨w.heap.size+1+1,q,none⟩ u).cell? ⟨w.heap.size+1+1,q3,none⟩=W.cell? ⟨w.heap.size+1+1,q3,none⟩:=fun W u=>World.cell?_setCell_other _ _ _ _ (by intro h;simp only[Addr.mk.injEq] at h;have:=Q3.out;omega)
 have k4:∀ (W:World) (u:Value),(W.setCell ⟨w.heap.size+1+1,q,none⟩ u).cell? ⟨w.heap.size+1+1,q4,none⟩=W.cell? ⟨w.heap.size+1+1,q4,none⟩:=fun W u=>World.cell?_setCell_other _ _ _ _ (by intro h;simp only[Addr.mk.injEq] at h;have:=Q4.out;omega);go_wp2
 go_region_held3 (fun w'=>w'.cell? ⟨w.heap.size+1+1,q1,none⟩=some (.int .u32 x1)/\w'.cell? ⟨w.heap.size+1+1,q2,none⟩=some (.int .u32 x2)/\w'.cell? ⟨w.heap.size+1+1,q3,none⟩=some (.int .u32 x3)/\w'.cell? ⟨w.heap.size+1+1,q4,none⟩=some (.int .u32 x4)) (go_keep) ((go_at_call 106;refine(rot1 n _ hnb).mono ?_;rintro e w1 ⟨rfl,rfl⟩));go_wp2;go_roundg (64-(j+1))
 case measure=>have:=HQ.out;omega
 case rel =>
 refine⟨j+1,by have:=HQ.out;omega,rfl,by have:=HQ.out;go_num,hid ?_,hid ?_,(HB.out.setCell (by simp <;> omega) _).drew⟩
 ·rw[heap_drew,heap_setCell_same wr _ _ _ _ _ H1.out,Jk,<-HV.out,<-HQ.out,<-HN.out,uv]
 rw[heap_drew,heap_setCell_other wr _ _ _ (by simp)];exact H0.out
structure S5 where
 a:Int
 b:Int
 c:Int
 d:Int
 e:Int
def S5.ok (s:S5):Prop:=U s.a/\U s.b/\U s.c/\U s.d/\U s.e
def S5.l (s:S5):List Int:=[s.a,s.b,s.c,s.d,s.e]
def fi (i:Nat) (b c d:Int):Int:=if i<20 then ch b c d else if i<40 then par b c d else if i<60 then maj b c d else par b c d
def ki (i:Nat):Int:=if i<20 then 1518500249 else if i<40 then 1859775393 else if i<60 then 2400959708 else 3395469782
def rd (W:List Int) (i:Nat) (s:S5):S5:=⟨(Xy s.a+fi i s.b s.c s.d+s.e+ki i+W.getD i 0) % 4294967296,s.a,Yw s.b,s.c,s.d⟩
def rds (W:List Int) (s:S5):Nat->S5
 | 0=>s
 | n+1=>rd W n (rds W s n)
theorem WJ (W:List Int) (s:S5) (h:s.ok):∀ n,(rds W s n).ok
 | 0=>h
 | n+1=>by
  obtain⟨h1,h2,h3,h4,h5⟩:=WJ W s h n;exact⟨⟨by simp only[rds,rd];omega,by simp only[rds,rd];omega⟩,h1,zz1 _,h3,h4⟩
theorem D8 (i:Nat) (b c d:Int):U (fi i b c d):=by
 unfold fi;split
 ·exact ch_bd _ _ _
 split
 ·exact zx1 _ _ _
 split
 ·exact qyK _ _ _
 exact zx1 _ _ _
def plus (s t:S5):S5:=⟨(s.a+t.a) % 4294967296,(s.b+t.b) % 4294967296,(s.c+t.c) % 4294967296,(s.d+t.d) % 4294967296,(s.e+t.e) % 4294967296⟩
def U9 (s:S5) (zs:List Int):S5:=plus s (rds (spread zs) s 80)
theorem zk6 (s t:S5):(plus s t).ok:=by
 refine⟨⟨?_,?_⟩,⟨?_,?_⟩,⟨?_,?_⟩,⟨?_,?_⟩,?_,?_⟩ <;> simp only[plus] <;> omega
theorem zk7 (s:S5) (zs:List Int):(U9 s zs).ok:=zk6 _ _
theorem x9 {w:World} {g n:Nat} {cs:Array Value} {t:TypeId} (h:w.heap[g]? = some (.cells cs t (0,0))) (hn:cs.size=n):w.there g 0 n:=fun j hj=>by
 rw[Wq7];refine⟨?_,frozen_of_row w g j _ t h⟩;rw[cell_of_row w g j _ t _ h];simp[hn,hj]
def Z2:Array Value:=#[.func (.func 116) #[] #[],.int .u32 1518500249,.func (.func 117) #[] #[],.int .u32 1859775393,.func (.func 118) #[] #[],.int .u32 2400959708,.func (.func 117) #[] #[],.int .u32 3395469782]
theorem zz3 (w:World):Calls prog 105 #[] w fun e w'=>e=.returned (.agg Z2)/\Below w.heap.size w w':=by
 have H0:Hid ((w.alloc (.cells #[.nilFunc,.int .u32 0,.nilFunc,.int .u32 0,.nilFunc,.int .u32 0,.nilFunc,.int .u32 0] 208)).there w.heap.size 0 8):=x9 (heap_alloc_new w _) rfl;have HB:Hid (Below w.heap.size w (w.alloc (.cells #[.nilFunc,.int .u32 0,.nilFunc,.int .u32 0,.nilFunc,.int .u32 0,.nilFunc,.int .u32 0] 208))):=(Below.refl _ w).alloc (WzV _) _
 go_enter func105,ntmps105;go_wp2_with (refine wpList_store_mid rfl 208 _ _ rfl w.heap.size 0 Z2 rfl rfl H0.out size208 (by kernel_rfl) ?_)
 exact bodyPost_ret (v:=.agg Z2) (y6 Tryz.results105 _ _ w.heap.size Z2.toList _ rfl (World.rangeAt_setCells_same _ w.heap.size 0 _ H0.out) underlying208 rfl size208) rfl ⟨rfl,below_setCells (WzV _) _ _ _ _ HB.out⟩
theorem kind0 (w:World):(Instr.index 208 (.agg Z2) (.int .i64 (0:Nat))).run prog w=.ok (.agg #[.func (.func 116) #[] #[],.int .u32 1518500249]) w:=by kernel_rfl
theorem kind1 (w:World):(Instr.index 208 (.agg Z2) (.int .i64 (1:Nat))).run prog w=.ok (.agg #[.func (.func 117) #[] #[],.int .u32 1859775393]) w:=by kernel_rfl
theorem kind2 (w:World):(Instr.index 208 (.agg Z2) (.int .i64 (2:Nat))).run prog w=.ok (.agg #[.func (.func 118) #[] #[],.int .u32 2400959708]) w:=by kernel_rfl
theorem kind3 (w:World):(Instr.index 208 (.agg Z2) (.int .i64 (3:Nat))).run prog w=.ok (.agg #[.func (.func 117) #[] #[],.int .u32 3395469782]) w:=by kernel_rfl
theorem addr_add (b off j:Nat):(⟨b,off,none⟩:Addr).add j=⟨b,off+j,none⟩:=by unfold Addr.add;split <;> simp_all
theorem zk8 (w:World):(sizeOf (prog.elem 165)).run prog w=.ok 1 w:=by kernel_rfl
theorem qyW (w:World):(sizeOf (prog.elem 108)).run prog w=.ok 1 w:=by kernel_rfl
theorem qqj:prog.arrayLen 165=80:=by kernel_rfl
theorem qqk:prog.arrayLen 108=64:=by kernel_rfl
theorem und47:prog.underlying 165=some (.array (prog.arrayLen 165) (prog.elem 165)):=by kernel_rfl
theorem und41:prog.underlying 108=some (.array (prog.arrayLen 108) (prog.elem 108)):=by kernel_rfl
theorem zk9 (g m:Nat) (w:World) (h:m<=60):(Instr.sliceAt 165 (.pointer (some ⟨g,0,none⟩)) (some (.int .i64 m)) (some (.int .i64 ((m:Int)+20))) none).run prog w=.ok (.slice (some ⟨g,m,none⟩) 20 (80-m:Nat)) w:=by
 rw[run_sliceAt_array_lh w 165 _ und47 .i64 .i64 m (m+20) (by omega) (by omega) (by rw[qqj];omega),zk8,qqj];simp only[Result.andThen_ok,slicedAt];rw[if_neg (by omega),addr_add,show ((m:Int)+20).toNat-(m:Int).toNat=20 from by omega];simp
theorem zkz (g o m:Nat) (w:World) (h:m<64):(Instr.sliceAt 108 (.pointer (some ⟨g,o,none⟩)) (some (.int .u64 m)) none none).run prog w=.ok (.slice (some ⟨g,o+m,none⟩) (64-m:Nat) (64-m:Nat)) w:=by
 rw[run_sliceAt_array_l w 108 _ und41 .u64 m (by omega) (by rw[qqk];omega),qyW,qqk];simp only[Result.andThen_ok,slicedAt];rw[if_neg (by omega),addr_add];simp
theorem zkq (j n:Nat) (h:n<20):ki (20*j+n)=ki (20*j):=by
 unfold ki;repeat' split
 all_goals first | rfl | omega
theorem ki_bd (i:Nat):U (ki i):=by
 unfold ki U;split
 ·omega
 split
 ·omega
 split <;> omega
theorem zk {B:Nat} {w0 w:World} (h:Below B w0 w) (n:Nat):Below B w0 (w.drewN n):=h.trans ⟨rfl,rfl,rfl,WzV _,fun _ _=>rfl⟩
theorem zx8 (x y:List UInt8):Lib.join [x,y] [32]=x++32 :: y:=by simp[Lib.join,List.intercalate]
theorem zx9 (k:Int):(kN k).data.toList.length<=6:=by
 rw[zk3];split
 ·decide
 split
 ·decide
 split
 ·decide
 split <;> decide
theorem Lz:∀ (n m:Nat),m<10 ^ (n+1)->(Lib.decDigits m).length<=n+1
 | 0,m,h=>by rw[Lib.decDigits,dif_pos (by simpa using h)];simp
 | n+1,m,h=>by
  rw[Lib.decDigits];split
  ·simp
  have:=Lz n (m / 10) (by rw[Nat.pow_succ] at h;omega);simp;omega
theorem Lq (k:Int) (n:Nat) (hn:n<=400000):(h0 k n).length<=13:=by
 have h1:=zx9 k;have h2:=Lz 5 n (by omega);unfold h0;simp only[List.length_append,List.length_cons];omega
theorem zkx (x y:List UInt8):(⟨x.toArray⟩:ByteArray) ++ ⟨y.toArray⟩=⟨(x++y).toArray⟩:=by
 rw[ByteArray.mk_append_mk]
theorem A6 (k:Int) (a:Option Addr) (n cap:Nat) (hn:n<=400000) (w:World) (ht:Tab w) :
  Calls prog 84 #[.agg #[.int .i64 k,.slice a n cap]] w fun e w'=>e=.returned (.string ⟨(hd k n).toArray⟩)/\Below w.heap.size w w':=by
 obtain⟨w0,HW0⟩:=nm_ (w.alloc (.cells #[.int .i64 k,.slice a n cap] 27));obtain⟨g,HG⟩:=nm_ w.heap.size;have HB0:Hid (Below g w w0):=by rw[<-HW0.out,<-HG.out];exact(Below.refl _ w).alloc (WzV _) _
 have hg0:g<w0.heap.size:=by rw[<-HW0.out,<-HG.out];simp
 have hc0:w0.cell? ⟨g,0,none⟩=some (.int .i64 k):=by rw[<-HW0.out,<-HG.out];simp
 have hc1:w0.cell? ⟨g,1,none⟩=some (.slice a n cap):=by rw[<-HW0.out,<-HG.out];simp
 have HT0:Hid (Tab w0):=ht.below (by rw[HG.out];exact HB0.out);have HI:Hid (∀ j,Calls prog 100 #[.int .i64 n] (w0.drewN j) fun e w'=>e=.returned (.string ⟨(Lib.decDigits n).toArray⟩)/\Below w0.heap.size w0 w'):=fun j=>by
  refine(zyY n hn (w0.drewN j) (HT0.out.below (zk (Below.refl _ _) _))).mono ?_;rintro e w' ⟨rfl,hb⟩;exact⟨rfl,(zk (Below.refl _ _) j).trans hb⟩
 have HWd:Hid (∀ (w1:World),Calls prog 99 #[.slice (some ⟨w1.heap.size,0,none⟩) 2 2] (w1.alloc (.cells #[.string (kN k),.string ⟨(Lib.decDigits n).toArray⟩] 9)) fun e w'=>e=.returned (.string ⟨(h0 k n).toArray⟩)/\Below w1.heap.size w1 w'):=fun w1=>by
  have hj:(Lib.join ([kN k,⟨(Lib.decDigits n).toArray⟩].map (·.data.toList)) [32])=h0 k n:=by
   simp only[List.map_cons,List.map_nil,zx8];rfl
  refine(zz0 w1.heap.size 0 2 [kN k,⟨(Lib.decDigits n).toArray⟩] _ ?_ ?_ (by simp) (by simp) (by rw[hj];have:=Lq k n hn;omega)).mono ?_
  ·intro i x hx;rcases i with _ | _ | i
   ·simp at hx;subst hx;simp
   ·simp at hx;subst hx;simp
   simp at hx
  ·simp
  rintro e w' ⟨rfl,hb⟩;rw[hj];refine⟨rfl,Below.trans ((Below.refl _ w1).alloc (WzV _) _) (hb.mono ?_)⟩;simp
 obtain⟨S,HS⟩:=nn_ (⟨(h0 k n).toArray⟩:ByteArray);have hS:S.size<=13:=by rw[HS.out];simpa [ByteArray.size] using Lq k n hn
 have hS1:¬ 9223372036854775807<S.size+1:=by omega
 have hS2:¬ 9223372036854775807<=S.size:=by omega
 have HE:Hid (S ++ ⟨#[0]⟩=⟨(hd k n).toArray⟩):=by
  rw[HS.out,show (⟨#[0]⟩:ByteArray)=⟨[0].toArray⟩ from rfl];exact zkx _ _
 rw[<-HS.out] at HWd;obtain⟨Dg,HDg⟩:=nn_ (⟨(Lib.decDigits n).toArray⟩:ByteArray);obtain⟨Kn,HKn⟩:=nn_ (kN k);have HK:Hid (∀ w,Calls prog 98 #[.int .i64 k] w fun e w'=>e=.returned (.string (kN k))/\w'=w):=fun w=>Vq k w;rw[<-HDg.out] at HI HWd;rw[<-HKn.out] at HWd HK;go_enter func84,ntmps84;rw[HG.out];go_wp2_with fail
 rw[HW0.out,HG.out];clear ht;go_region_with (first
  | (go_at_call 98;refine(HK.out _).mono ?_;rintro ev wk ⟨rfl,rfl⟩)
  | (go_at_call 100;refine(HI.out _).mono ?_;rintro ev w1 ⟨rfl,hb1⟩;have HB1:Hid (Below w0.heap.size w0 w1):=hb1;clear hb1 HI)
  | (go_at_call 99;refine(HWd.out _).mono ?_;rintro ev w2 ⟨rfl,hb2⟩;have HB2:Hid (Below w1.heap.size w1 w2):=hb2;clear hb2 HWd))
 all_goals
  go_wp2;go_ret;exact⟨(show _=Ending.returned (.string (S ++ ⟨#[0]⟩)) from rfl).trans (by rw[HE.out]),HB0.out.trans ((HB1.out.mono (Wxz hg0)).trans (HB2.out.mono (Wqx (Wxz hg0) HB1.out.size)))⟩
end Go.Proofs.YtiaaekdpfpaigaaGreatDoor.Id
