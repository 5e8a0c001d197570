import Derived.Shelf.Strings.Cut
import Derived.Shelf.Bytes.SlSmallAll
import Derived.Test.YticgindfipobiaaGreatDoorProg
import Derived.Test.YticgindfipobiaaGreatDoorChecked
import Derived.RowKit
import Derived.Below
import Derived.WalkKit
import Derived.WalkSpells
import Derived.WalkLawsBesides
import Derived.Deep.AppendLies
import Derived.Deep.LoopGhost
import Derived.Deep.RegionWith
import Derived.Deep.QuietTactic
import Derived.BigQuiet
import Derived.Laws.BitsAllLaws
import Derived.Laws.CopyOwn
import Derived.Laws.IdiomCopy
import Derived.Deep.RegionHeld3
import Derived.Deep.RegionLaw
import Derived.Deep.DrawnRows
import Derived.Deep.MidRow
import Derived.Maps.AppendAt
import Derived.Lib.IndexMore
import Derived.Lib.Strings
import Derived.Lib.ItoaNum
import Derived.Shelf.Strings.OnBuilder
import Derived.Shelf.LaysM
import Derived.Shelf.Strconv.Itoa3
set_option linter.unusedSimpArgs false
set_option linter.unusedVariables false
set_option maxRecDepth 20000
set_option maxHeartbeats 4000000
namespace Go.Proofs
open Go.Shelf
def Tryz.lays145_ren:Go.Shelf.Ren:=⟨fun | 145=>111 | 220=>145 | 219=>172 | 217=>193 | 225=>194 | 224=>195 | 267=>196 | 266=>223 | 314=>224 | n=>n,fun | 9=>9 | 4=>4 | 59=>170 | 3=>3 | 5=>5 | 46=>142 | 146=>309 | 51=>63 | n=>n,fun | 1=>1 | n=>n⟩
theorem Tryz.lays145:Go.Proofs.Lays.n145 Tryz.prog Tryz.lays145_ren:={
 mixed:=by kernel_rfl
 f145:=Tryz.func111.trans (congrArg some (by kernel_rfl))
 f217:=Tryz.func193.trans (congrArg some (by kernel_rfl))
 f219:=Tryz.func172.trans (congrArg some (by kernel_rfl))
 f220:=Tryz.func145.trans (congrArg some (by kernel_rfl))
 f224:=Tryz.func195.trans (congrArg some (by kernel_rfl))
 f225:=Tryz.func194.trans (congrArg some (by kernel_rfl))
 f266:=Tryz.func223.trans (congrArg some (by kernel_rfl))
 f267:=Tryz.func196.trans (congrArg some (by kernel_rfl))
 f314:=Tryz.func224.trans (congrArg some (by kernel_rfl))
 t3:=Tryz.underlying3
 a3:=Tryz.isAgg3
 z3:=Tryz.sizeOf3
 v3:=Tryz.zeroValue3
 t4:=Tryz.underlying4
 a4:=Tryz.isAgg4
 z4:=Tryz.sizeOf4
 v4:=Tryz.zeroValue4
 t5:=Tryz.underlying5
 a5:=Tryz.isAgg5
 z5:=Tryz.sizeOf5
 v5:=Tryz.zeroValue5
 t9:=Tryz.underlying9
 a9:=Tryz.isAgg9
 z9:=Tryz.sizeOf9
 v9:=Tryz.zeroValue9
 t46:=Tryz.underlying142
 a46:=Tryz.isAgg142
 z46:=Tryz.sizeOf142
 v46:=Tryz.zeroValue142
 t51:=Tryz.underlying63
 a51:=Tryz.isAgg63
 z51:=Tryz.sizeOf63
 v51:=Tryz.zeroValue63
 t59:=Tryz.underlying170
 a59:=Tryz.isAgg170
 z59:=Tryz.sizeOf170
 v59:=Tryz.zeroValue170
 t146:=Tryz.underlying309
 a146:=Tryz.isAgg309
 z146:=Tryz.sizeOf309
 v146:=Tryz.zeroValue309
 g1:=by kernel_rfl }
end Go.Proofs
namespace Go.Proofs.YticgindfipobiaaGreatDoor
open Go.RowKit
theorem sL {α:Type} : (∀ (l:List α) (i:Nat) (v:α),l.toArray.setIfInBounds i v=(l.set i v).toArray)/\(∀ (l:List α) (a b:α),(a :: l).set 0 b=b :: l)/\(∀ (l:List α) (n:Nat) (a b:α),(a :: l).set (n+1) b=a :: l.set n b):=⟨fun l i v=>List.setIfInBounds_toArray ..,fun _ _ _=>rfl,fun _ _ _ _=>rfl⟩
theorem nm_ {α:Sort _} (a:α):∃ x,Hid (a=x):=⟨_,rfl⟩
theorem nn_ {α:Sort _} (a:α):∃ x,Hid (x=a):=⟨_,rfl⟩
theorem hid {p:Prop} (h:p):Hid p:=h
theorem ret_int {k:IntKind} {a b:Int} (h:a=b):Ending.returned (.int k a)=.returned (.int k b):=by rw[h]
theorem zQ {o:Option TypeInfo} {z:Value} {a b:Nat} (h:o.map (fun i=>(i.zero,i.size,i.bytes))=some (some z,a,b)):∃ i,o=some i/\i.zero=some z/\i.size=a/\i.bytes=b:=by
 cases o with
 | none=>simp at h
 | some i=>simp at h;exact⟨i,rfl,h.1,h.2.1,h.2.2⟩
theorem Tryz.info5:(Tryz.prog.info? 5).map (fun i=>(i.zero,i.size,i.bytes))=some (some (.int .u8 0),1,1):=by kernel_rfl
theorem Tryz.size5:(Tryz.prog.info? 5).map (·.size)=some 1:=by kernel_rfl
theorem Tryz.size63:(Tryz.prog.info? 63).map (·.size)=some 1:=by kernel_rfl
theorem Tryz.size31:(Tryz.prog.info? 31).map (·.size)=some 20:=by kernel_rfl
theorem Tryz.size56:(Tryz.prog.info? 56).map (·.size)=some 20:=by kernel_rfl
theorem Tryz.size64:(Tryz.prog.info? 64).map (·.size)=some 5:=by kernel_rfl
theorem Tryz.size179:(Tryz.prog.info? 179).map (·.size)=some 5:=by kernel_rfl
theorem Tryz.size180:(Tryz.prog.info? 180).map (·.size)=some 64:=by kernel_rfl
theorem Tryz.size182:(Tryz.prog.info? 182).map (·.size)=some 70:=by kernel_rfl
theorem Tryz.size99:(Tryz.prog.info? 99).map (·.size)=some 80:=by kernel_rfl
theorem Tryz.size216:(Tryz.prog.info? 216).map (·.size)=some 2:=by kernel_rfl
theorem Tryz.size217:(Tryz.prog.info? 217).map (·.size)=some 8:=by kernel_rfl
def row (k:IntKind) (zs:List Int):List Value:=zs.map (Value.int k)
theorem zq (k:IntKind) (zs:List Int):(row k zs).length=zs.length:=by simp[row]
theorem vq (k:IntKind) (zs:List Int) (i:Nat) (h:i<zs.length):(row k zs)[i]? = some (.int k (zs.getD i 0)):=by simp[row,h]
theorem zV (k:IntKind) (zs:List Int):∀ v ∈ row k zs,v.oneCell'=true:=by
 intro v hv;simp only[row,List.mem_map] at hv;obtain⟨c,_,rfl⟩:=hv;rfl
theorem xu (k:IntKind) (zs:List Int) (n:Nat) (c:Int):(row k zs).toArray.setIfInBounds n (.int k c)=(row k (zs.set n c)).toArray:=by
 simp[row,List.map_set]
theorem qZ (k:IntKind) (zs:List Int):(row k zs).toArray.size=zs.length:=by rw[List.size_toArray,zq]
theorem qx {w:World} {g:Nat} {k:IntKind} {zs:List Int} {t:TypeId} {fr:Nat × Nat} (h:w.heap[g]? = some (.cells (row k zs).toArray t fr)) (i:Nat) (hi:i<zs.length):w.cell? ⟨g,i,none⟩=some (.int k (zs.getD i 0)):=by
 rw[cell_of_row w g i _ t fr h];simpa using vq k zs i hi
theorem zx {w:World} {g:Nat} {cs:List Value} {t:TypeId} {fr:Nat × Nat} (h:w.heap[g]? = some (.cells cs.toArray t fr)):w.rangeAt g 0 cs:=fun j v hv=>by
 rw[Nat.zero_add,cell_of_row w g j _ t fr h];simpa using hv
theorem zW {w:World} {g n:Nat} {k:IntKind} {zs:List Int} {t:TypeId} (h:w.heap[g]? = some (.cells (row k zs).toArray t (0,0))) (hn:zs.length=n):w.there g 0 n:=fun j hj=>by
 rw[Nat.zero_add]
 exact⟨by rw[qx h j (by omega)];rfl,frozen_of_row w g j _ t h⟩
theorem Yj {P:Program} (t e:TypeId) (n:Nat) (cs:Array Value) (k:IntKind) (i:Nat) (v:Value) (w:World) (h:P.underlying t=some (.array n e)) (he:(P.info? e).map (·.size)=some 1) (d:TypeDesc) (hu:P.underlying e=some d) (hd:d.isRow=false) (hi:i<n) (hv:cs[i]? = some v) :
  (Instr.index t (.agg cs) (.int k i)).run P w=.ok v w:=by
 cases hq:P.info? e with
 | none=>simp[hq] at he
 | some inf =>
  have hs:inf.size=1:=by simpa [hq] using he
  have hagg:(isAgg e).run P w=.ok false w:=by
   unfold isAgg
   rw[Sem.run_bind,run_underlying hu w]
   cases d <;> simp_all
  simp[Instr.index,asIntOf,run_underlying h,hi,part,sizeOf,typeInfo,hq,hs,hagg,hv]
theorem yq {P:Program} {fn:Func} {p:Tmp} {ty:TypeId} (h:fn.results=#[.cell p ty]) (tmps:Array Value) (w:World) (g:Nat) (cs:List Value) (d:TypeDesc)
  (hp:tmps.getD p undef=.pointer (some ⟨g,0,none⟩)) (hc:w.rangeAt g 0 cs) (hu:P.underlying ty=some d) (hd:d.isRow=true) (hi:(P.info? ty).map (·.size)=some cs.length) :
  (results fn tmps).run P w=.ok (.agg cs.toArray) w:=by
 have hp':tmps[p]?.getD undef=.pointer (some ⟨g,0,none⟩):=by simpa using hp
 simp[results,h,hp',asAddr,run_loadVar_mid w g 0 ty cs d hc hu hd hi]
theorem z7 {B g:Nat} (hB:B<=g):∀ (vs:List Value) (o:Nat) (w0 w:World),Below B w0 w->Below B w0 (w.setCells g o vs)
 | [],_,_,_,h=>h
 | v :: r,o,w0,_,h=>z7 hB r (o+1) w0 _ (h.setCell (p:=⟨g,o,none⟩) hB v)
theorem xY (g:Nat):∀ (vs:List Value) (o:Nat) (w:World),(w.setCells g o vs).heap.size=w.heap.size
 | [],_,_=>rfl
 | _ :: r,o,_=>(xY g r (o+1) _).trans (by simp[World.setCell])
theorem jy (w:World) (o:Obj) (row:Option Nat):w.grownBy (w.alloc o).drew row:=let h:=World.grownBy_alloc w o row;⟨h.os,h.tape,h.output,h.size,h.block⟩
theorem qW {w:World} {B:Nat} {e:TypeId} {s:Nat} {v:Value} {n:Nat} {xs:List Value} (h:w.ownsRow B e s v n xs) (k:Nat) (hk:v.ownBlock=some k):B<=k/\k<w.heap.size:=h.lt k hk
theorem vj {B:Nat} {w0 w wx w3:World} {r:Option Nat} (h:Below B w0 w) (hB:B<=w0.heap.size) (hx:w.grownBy wx none) (hg:wx.grownBy w3 r) (hr:∀ k,r=some k->B<=k):Below B w0 w3 :=
 (h.grown hx (Nat.le_trans hB h.size) (fun k h=>by cases h)).grown hg (Nat.le_trans (Nat.le_trans hB h.size) hx.size) hr
theorem below_alloc {w w':World} {o:Obj} (h:Below (w.heap.size+1) (w.alloc o) w'):Below w.heap.size w w' :=
 ((Below.refl _ w).alloc (Nat.le_refl _) o).trans (h.mono (Nat.le_succ _))
theorem take_snoc (zs:List Int) (k:Nat) (h:k<zs.length):zs.take (k+1)=zs.take k++[zs.getD k 0]:=by
 rw[List.take_succ_eq_append_getElem h];simp[h]
def IsB (l:List Int):Prop := ∀ x ∈ l,0<=x/\x<256
theorem IsB.at {l:List Int} (h:IsB l) (i:Nat):0<=l.getD i 0/\l.getD i 0<256:=by
 by_cases hi:i<l.length
 ·exact h _ (by rw[List.getD_eq_getElem?_getD,List.getElem?_eq_getElem hi];exact List.getElem_mem _)
 ·rw[List.getD_eq_getElem?_getD,List.getElem?_eq_none (by omega)];simp
def IsW (l:List Int):Prop := ∀ x ∈ l,0<=x/\x<4294967296
theorem IsW.at {l:List Int} (h:IsW l) (i:Nat):0<=l.getD i 0/\l.getD i 0<4294967296:=by
 by_cases hi:i<l.length
 ·exact h _ (by rw[List.getD_eq_getElem?_getD,List.getElem?_eq_getElem hi];exact List.getElem_mem _)
 ·rw[List.getD_eq_getElem?_getD,List.getElem?_eq_none (by omega)];simp
theorem IsW.set {l:List Int} (h:IsW l) (i:Nat) (v:Int) (hv:0<=v/\v<4294967296):IsW (l.set i v):=by
 intro x hx
 rcases List.mem_or_eq_of_mem_set hx with h' | h'
 ·exact h x h'
 ·rw[h'];exact hv
theorem getD_set (l:List Int) (i j:Nat) (v:Int) (hi:i<l.length):(l.set i v).getD j 0=if i=j then v else l.getD j 0:=by
 rw[List.getD_eq_getElem?_getD,List.getElem?_set]
 by_cases h:i=j
 ·subst h;simp[hi]
 ·simp[h]
theorem ZZ (o:BinOp) (a b:Int) (ho:o=.and ∨ o=.or ∨ o=.xor):0<=bits o .u32 a b/\bits o .u32 a b<4294967296:=by
 rcases ho with rfl | rfl | rfl
 all_goals
  show 0<=IntKind.u32.wrap _/\IntKind.u32.wrap _<_
  rw[IntKind.wrap_u32']
  omega
def kN (k:Int):ByteArray:=if k == 1 then ⟨#[99,111,109,109,105,116]⟩ else if k == 2 then ⟨#[116,114,101,101]⟩ else if k == 3 then ⟨#[98,108,111,98]⟩ else if k == 4 then ⟨#[116,97,103]⟩ else ⟨#[]⟩
theorem vv (k:Int) (w:World):Calls Tryz.prog 58 #[.int .i64 k] w fun e w'=>e=.returned (.string (kN k))/\w'=w:=by
 go_enter Tryz.func58,Tryz.ntmps58
 go_wp2
 all_goals (go_ret;refine⟨?_,rfl⟩;unfold kN;simp[*])
theorem name_any (k:Int) (w:World):Calls Tryz.prog 19 #[.int .i64 k] w fun e w'=>e=.returned (.string (kN k))/\w'=w:=by
 go_enter Tryz.func19,Tryz.ntmps19
 go_wp2
 all_goals (go_ret;refine⟨?_,rfl⟩;unfold kN;simp[*])
def fitsV (k:Int) (n:Nat):Value:=if (kN k).toList.isEmpty=true then .iface 43 (.int .i64 20) else if (100000:Int)<n then .iface 43 (.int .i64 11) else .nilIface
theorem fits_any (k:Int) (a:Option Addr) (n cap:Nat) (w:World):Calls Tryz.prog 40 #[.agg #[.int .i64 k,.slice a n cap]] w fun e w'=>e=.returned (fitsV k n)/\w'=w.alloc (.cells #[.int .i64 k,.slice a n cap] 28):=by
 go_enter Tryz.func40,Tryz.ntmps40
 go_wp2_with (go_at_call 58;refine(vv _ _).mono ?_;rintro ev w1 ⟨rfl,rfl⟩)
 all_goals (go_ret;refine⟨?_,rfl⟩;unfold fitsV;simp[*])
def h0 (k:Int) (n:Nat):List UInt8:=(kN k).data.toList++32 :: Lib.decDigits n
def hd (k:Int) (n:Nat):List UInt8:=h0 k n++[0]
theorem kN_list (k:Int):(kN k).data.toList=if k == 1 then [99,111,109,109,105,116] else if k == 2 then [116,114,101,101] else if k == 3 then [98,108,111,98] else if k == 4 then [116,97,103] else []:=by
 unfold kN
 split
 ·rfl
 ·split
  ·rfl
  ·split
   ·rfl
   ·split
    ·rfl
    ·rfl
end Go.Proofs.YticgindfipobiaaGreatDoor
namespace Go.Proofs
open Go.Shelf
def Tryz.lays156_ren:Go.Shelf.Ren:=⟨fun | 156=>105 | 165=>138 | 166=>139 | 169=>140 | 240=>166 | 241=>167 | 276=>187 | 277=>188 | n=>n,fun | 31=>211 | 9=>9 | 3=>3 | 4=>4 | 0=>0 | 20=>20 | 72=>251 | 76=>253 | 70=>249 | 37=>26 | 75=>35 | 127=>274 | 164=>86 | 5=>5 | 80=>234 | n=>n,fun | n=>n⟩
theorem Tryz.lays156:Go.Proofs.Lays.n156 Tryz.prog Tryz.lays156_ren:={
 mixed:=by kernel_rfl
 f156:=Tryz.func105.trans (congrArg some (by kernel_rfl))
 f165:=Tryz.func138.trans (congrArg some (by kernel_rfl))
 f166:=Tryz.func139.trans (congrArg some (by kernel_rfl))
 f169:=Tryz.func140.trans (congrArg some (by kernel_rfl))
 f240:=Tryz.func166.trans (congrArg some (by kernel_rfl))
 f241:=Tryz.func167.trans (congrArg some (by kernel_rfl))
 f276:=Tryz.func187.trans (congrArg some (by kernel_rfl))
 f277:=Tryz.func188.trans (congrArg some (by kernel_rfl))
 t0:=Tryz.underlying0
 a0:=Tryz.isAgg0
 z0:=Tryz.sizeOf0
 v0:=Tryz.zeroValue0
 t3:=Tryz.underlying3
 a3:=Tryz.isAgg3
 z3:=Tryz.sizeOf3
 v3:=Tryz.zeroValue3
 t4:=Tryz.underlying4
 a4:=Tryz.isAgg4
 z4:=Tryz.sizeOf4
 v4:=Tryz.zeroValue4
 t9:=Tryz.underlying9
 a9:=Tryz.isAgg9
 z9:=Tryz.sizeOf9
 v9:=Tryz.zeroValue9
 t20:=Tryz.underlying20
 a20:=Tryz.isAgg20
 z20:=Tryz.sizeOf20
 v20:=Tryz.zeroValue20
 t31:=Tryz.underlying211
 a31:=Tryz.isAgg211
 z31:=Tryz.sizeOf211
 v31:=Tryz.zeroValue211
 t37:=Tryz.underlying26
 a37:=Tryz.isAgg26
 z37:=Tryz.sizeOf26
 v37:=Tryz.zeroValue26
 t70:=Tryz.underlying249
 a70:=Tryz.isAgg249
 z70:=Tryz.sizeOf249
 v70:=Tryz.zeroValue249
 t72:=Tryz.underlying251
 a72:=Tryz.isAgg251
 z72:=Tryz.sizeOf251
 v72:=Tryz.zeroValue251
 t75:=Tryz.underlying35
 a75:=Tryz.isAgg35
 z75:=Tryz.sizeOf35
 v75:=Tryz.zeroValue35
 t76:=Tryz.underlying253
 a76:=Tryz.isAgg253
 z76:=Tryz.sizeOf253
 v76:=Tryz.zeroValue253
 t127:=Tryz.underlying274
 a127:=Tryz.isAgg274
 z127:=Tryz.sizeOf274
 v127:=Tryz.zeroValue274
 t164:=Tryz.underlying86
 a164:=Tryz.isAgg86
 z164:=Tryz.sizeOf86
 v164:=Tryz.zeroValue86 }
theorem Tryz.Builder_Extra_156:Builder.Extra Tryz.prog Tryz.lays156_ren:={
 sizeBuilder:=by kernel_rfl
 liesBuilder:=by kernel_rfl
 t5:=Tryz.underlying5
 a5:=Tryz.isAgg5
 z5:=Tryz.sizeOf5
 v5:=Tryz.zeroValue5
 infoByte:=by kernel_rfl
 cellsByte:=by kernel_rfl
 sizeByte:=by kernel_rfl
 neB5:=by decide }
open Go.RowKit in
theorem Tryz.strings_Join_none (a:Option Addr) (c:Nat) (sep:ByteArray) (w:World) :
  Calls Tryz.prog 105 #[.slice a 0 c,.string sep] w fun e w'=>e=.returned (.string ⟨#[]⟩)/\w'=w:=Any.strings_Join_none Tryz.lays156 Tryz.Builder_Extra_156 a c sep w
open Go.RowKit in
theorem Tryz.strings_Join (bk o c:Nat) (xs:List ByteArray) (sep:ByteArray) (w:World) (hcells:∀ (j:Nat) x,xs[j]? = some x->w.cell? ⟨bk,o+j,none⟩=some (.string x)) (hbk:bk<w.heap.size) (hN:xs.length<=140737488355328) (hcap:xs.length<=c) (hlen:(Lib.join (xs.map (·.data.toList)) sep.data.toList).length<=140737488355328) :
  Calls Tryz.prog 105 #[.slice (some ⟨bk,o,none⟩) xs.length c,.string sep] w fun e w'=>e=.returned (.string ⟨(Lib.join (xs.map (·.data.toList)) sep.data.toList).toArray⟩)/\Below w.heap.size w w':=Any.strings_Join Tryz.lays156 Tryz.Builder_Extra_156 bk o c xs sep w hcells hbk hN hcap hlen
def Tryz.laysM171_ren:Go.Shelf.Ren:=⟨fun | 171=>74 | 243=>106 | 246=>141 | 283=>168 | 284=>169 | 285=>170 | 286=>171 | 129=>96 | 317=>189 | 318=>190 | 319=>191 | 320=>192 | 337=>221 | 338=>222 | n=>n,fun | 3=>3 | 9=>9 | 2=>2 | 4=>4 | 171=>275 | 0=>0 | 53=>62 | 37=>26 | 5=>5 | 173=>277 | 212=>288 | 51=>63 | 20=>20 | 213=>289 | 46=>142 | 232=>321 | 233=>180 | n=>n,fun | 17=>2 | 18=>5 | 19=>6 | n=>n⟩
theorem Tryz.laysM171:Go.Proofs.LaysM.n171 Tryz.prog Tryz.laysM171_ren:={
 mixed:=by kernel_rfl
 f129:=Tryz.func96.trans (congrArg some (by kernel_rfl))
 f171:=Tryz.func74.trans (congrArg some (by kernel_rfl))
 f243:=Tryz.func106.trans (congrArg some (by kernel_rfl))
 f246:=Tryz.func141.trans (congrArg some (by kernel_rfl))
 f283:=Tryz.func168.trans (congrArg some (by kernel_rfl))
 f284:=Tryz.func169.trans (congrArg some (by kernel_rfl))
 f285:=Tryz.func170.trans (congrArg some (by kernel_rfl))
 f286:=Tryz.func171.trans (congrArg some (by kernel_rfl))
 f317:=Tryz.func189.trans (congrArg some (by kernel_rfl))
 f318:=Tryz.func190.trans (congrArg some (by kernel_rfl))
 f319:=Tryz.func191.trans (congrArg some (by kernel_rfl))
 f320:=Tryz.func192.trans (congrArg some (by kernel_rfl))
 f337:=Tryz.func221.trans (congrArg some (by kernel_rfl))
 f338:=Tryz.func222.trans (congrArg some (by kernel_rfl))
 t0:=Tryz.underlying0
 a0:=Tryz.isAgg0
 z0:=Tryz.sizeOf0
 v0:=Tryz.zeroValue0
 t2:=Tryz.underlying2
 a2:=Tryz.isAgg2
 z2:=Tryz.sizeOf2
 v2:=Tryz.zeroValue2
 t3:=Tryz.underlying3
 a3:=Tryz.isAgg3
 z3:=Tryz.sizeOf3
 v3:=Tryz.zeroValue3
 t4:=Tryz.underlying4
 a4:=Tryz.isAgg4
 z4:=Tryz.sizeOf4
 v4:=Tryz.zeroValue4
 t5:=Tryz.underlying5
 a5:=Tryz.isAgg5
 z5:=Tryz.sizeOf5
 v5:=Tryz.zeroValue5
 t9:=Tryz.underlying9
 a9:=Tryz.isAgg9
 z9:=Tryz.sizeOf9
 v9:=Tryz.zeroValue9
 t20:=Tryz.underlying20
 a20:=Tryz.isAgg20
 z20:=Tryz.sizeOf20
 v20:=Tryz.zeroValue20
 t37:=Tryz.underlying26
 a37:=Tryz.isAgg26
 z37:=Tryz.sizeOf26
 v37:=Tryz.zeroValue26
 t46:=Tryz.underlying142
 a46:=Tryz.isAgg142
 z46:=Tryz.sizeOf142
 v46:=Tryz.zeroValue142
 t51:=Tryz.underlying63
 a51:=Tryz.isAgg63
 z51:=Tryz.sizeOf63
 v51:=Tryz.zeroValue63
 t53:=Tryz.underlying62
 a53:=Tryz.isAgg62
 z53:=Tryz.sizeOf62
 v53:=Tryz.zeroValue62
 t171:=Tryz.underlying275
 a171:=Tryz.isAgg275
 z171:=Tryz.sizeOf275
 v171:=Tryz.zeroValue275
 t173:=Tryz.underlying277
 a173:=Tryz.isAgg277
 z173:=Tryz.sizeOf277
 v173:=Tryz.zeroValue277
 t212:=Tryz.underlying288
 a212:=Tryz.isAgg288
 z212:=Tryz.sizeOf288
 v212:=Tryz.zeroValue288
 t213:=Tryz.underlying289
 a213:=Tryz.isAgg289
 z213:=Tryz.sizeOf289
 t232:=Tryz.underlying321
 a232:=Tryz.isAgg321
 z232:=Tryz.sizeOf321
 v232:=Tryz.zeroValue321
 t233:=Tryz.underlying180
 a233:=Tryz.isAgg180
 z233:=Tryz.sizeOf180
 v233:=Tryz.zeroValue180
 g17:=by kernel_rfl
 g18:=by kernel_rfl
 g19:=by kernel_rfl
 i0:=by kernel_rfl
 i2:=by kernel_rfl
 i3:=by kernel_rfl
 i4:=by kernel_rfl
 i5:=by kernel_rfl
 i9:=by kernel_rfl
 i20:=by kernel_rfl
 i37:=by kernel_rfl
 i46:=by kernel_rfl
 i51:=by kernel_rfl
 i53:=by kernel_rfl
 i171:=by kernel_rfl
 i173:=by kernel_rfl
 i212:=by kernel_rfl
 i232:=by kernel_rfl
 i233:=by kernel_rfl
 m17:=by kernel_rfl
 m18:=by kernel_rfl
 m19:=by kernel_rfl }
open Go.RowKit Go.Sort Go.Lib in
theorem Tryz.strconv_Itoa (n:Int) (h0 : -9223372036854775808<=n) (h1:n<=9223372036854775807) (w:World) (htab:Lib.TabIs Tryz.prog w "internal/strconv.uint64pow10" .u64 Lib.pow10Tab) :
  Calls Tryz.prog 74 #[.int .i64 n] w fun e w'=>e=.returned (.string ⟨(Lib.itoa n).toArray⟩)/\∃ k os,w'=grow (w.drewN k) os:=Any.strconv_Itoa Tryz.laysM171 n h0 h1 w htab
end Go.Proofs
namespace Go.Proofs.YticgindfipobiaaGreatDoor
open Go.RowKit
def Tab (w:World):Prop:=Lib.TabIs Tryz.prog w "internal/strconv.uint64pow10" .u64 Lib.pow10Tab
theorem pow_at:Tryz.prog.globalNamed "internal/strconv.uint64pow10" = some 2:=by kernel_rfl
theorem Tab.below {w w':World} (h:Tab w) (hb:Below w.heap.size w w'):Tab w':=by
 have hg:=pow_at
 unfold Tab Lib.TabIs World.var? at h ⊢
 rw[hg] at h ⊢
 simp only[Option.bind_some] at h ⊢
 have hlt:2<w.heap.size:=by
  rcases Nat.lt_or_ge 2 w.heap.size with h' | h'
  ·exact h'
  ·rw[Array.getElem?_eq_none h'] at h;cases h
 rw[hb.block 2 hlt]
 exact h
theorem itoa_any (n:Nat) (hn:n<=400000) (w:World) (ht:Tab w):Calls Tryz.prog 74 #[.int .i64 n] w fun e w'=>e=.returned (.string ⟨(Lib.decDigits n).toArray⟩)/\Below w.heap.size w w':=by
 refine(Tryz.strconv_Itoa n (by omega) (by omega) w ht).mono ?_
 rintro e w' ⟨rfl,k,os,rfl⟩
 refine⟨?_,rfl,rfl,rfl,by simp[Sort.grow],fun j hj=>?_⟩
 ·rw[Lib.itoa_nonneg]
 ·show (w.heap++os)[j]? = _
  rw[Array.getElem?_append_left hj]
theorem words_any (bk o c:Nat) (xs:List ByteArray) (w:World) (hcells:∀ (j:Nat) x,xs[j]? = some x->w.cell? ⟨bk,o+j,none⟩=some (.string x)) (hbk:bk<w.heap.size) (hN:xs.length<=1000) (hcap:xs.length<=c)
  (hlen:(Lib.join (xs.map (·.data.toList)) [32]).length<=1000000) :
  Calls Tryz.prog 73 #[.slice (some ⟨bk,o,none⟩) xs.length c] w fun e w'=>e=.returned (.string ⟨(Lib.join (xs.map (·.data.toList)) [32]).toArray⟩)/\Below w.heap.size w w':=by
 have HJ:Hid (Calls Tryz.prog 105 #[.slice (some ⟨bk,o,none⟩) xs.length c,.string ⟨#[32]⟩] w fun e w'=>e=.returned (.string ⟨(Lib.join (xs.map (·.data.toList)) [32]).toArray⟩)/\Below w.heap.size w w') :=
  Tryz.strings_Join bk o c xs ⟨#[32]⟩ w hcells hbk (by omega) hcap (Nat.le_trans hlen (by decide))
 clear hcells hlen
 go_enter Tryz.func73,Tryz.ntmps73
 go_wp2_with fail
 refine HJ.out.mono ?_
 rintro e w' ⟨rfl,hb⟩
 go_wp2
 go_ret
 exact⟨rfl,hb⟩
def turn1 (x:Int):Int:=bits .or .u32 (x*2 % 4294967296) (x / 2147483648)
def YY (x:Int):Int:=bits .or .u32 (x*32 % 4294967296) (x / 134217728)
def QZ (x:Int):Int:=bits .or .u32 (x*1073741824 % 4294967296) (x / 4)
def ch (b c d:Int):Int:=bits .or .u32 (bits .and .u32 b c) (bits .and .u32 (bits .xor .u32 4294967295 b) d)
def par (b c d:Int):Int:=bits .xor .u32 (bits .xor .u32 b c) d
def maj (b c d:Int):Int:=bits .or .u32 (bits .or .u32 (bits .and .u32 b c) (bits .and .u32 b d)) (bits .and .u32 c d)
def U (x:Int):Prop:=0<=x/\x<4294967296
theorem turn1_bd (x:Int):U (turn1 x):=ZZ _ _ _ (by simp)
theorem turn5_bd (x:Int):U (YY x):=ZZ _ _ _ (by simp)
theorem turn30_bd (x:Int):U (QZ x):=ZZ _ _ _ (by simp)
theorem ch_bd (a b c:Int):U (ch a b c):=ZZ _ _ _ (by simp)
theorem par_bd (a b c:Int):U (par a b c):=ZZ _ _ _ (by simp)
theorem maj_bd (a b c:Int):U (maj a b c):=ZZ _ _ _ (by simp)
theorem and31_1:bits .and .u64 1 31=1:=by decide +kernel
theorem and31_5:bits .and .u64 5 31=5:=by decide +kernel
theorem and31_30:bits .and .u64 30 31=30:=by decide +kernel
theorem rot1 (x:Int) (w:World) (hx:U x):Calls Tryz.prog 109 #[.int .u32 x,.int .i64 1] w fun e w'=>e=.returned (.int .u32 (turn1 x))/\w=w':=by
 obtain⟨hx0,hx1⟩:=hx
 have h1:=and31_1
 go_enter Tryz.func109,Tryz.ntmps109
 go_wp2
 go_ret
 exact⟨rfl,rfl⟩
theorem rot5 (x:Int) (w:World) (hx:U x):Calls Tryz.prog 109 #[.int .u32 x,.int .i64 5] w fun e w'=>e=.returned (.int .u32 (YY x))/\w=w':=by
 obtain⟨hx0,hx1⟩:=hx
 have h1:=and31_5
 go_enter Tryz.func109,Tryz.ntmps109
 go_wp2
 go_ret
 exact⟨rfl,rfl⟩
theorem rot30 (x:Int) (w:World) (hx:U x):Calls Tryz.prog 109 #[.int .u32 x,.int .i64 30] w fun e w'=>e=.returned (.int .u32 (QZ x))/\w=w':=by
 obtain⟨hx0,hx1⟩:=hx
 have h1:=and31_30
 go_enter Tryz.func109,Tryz.ntmps109
 go_wp2
 go_ret
 exact⟨rfl,rfl⟩
theorem tn1 (x:Int) (w:World) (hx:U x):Calls Tryz.prog 35 #[.int .u32 x,.int .i64 1] w fun e w'=>e=.returned (.int .u32 (turn1 x))/\∃ n,w'=w.drewN n:=by
 obtain⟨hx0,hx1⟩:=hx
 go_enter Tryz.func35,Tryz.ntmps35
 go_wp2
 go_quiet (fail)
 go_wp2
 go_ret
 exact⟨rfl,_,rfl⟩
theorem tn5 (x:Int) (w:World) (hx:U x):Calls Tryz.prog 35 #[.int .u32 x,.int .i64 5] w fun e w'=>e=.returned (.int .u32 (YY x))/\∃ n,w'=w.drewN n:=by
 obtain⟨hx0,hx1⟩:=hx
 go_enter Tryz.func35,Tryz.ntmps35
 go_wp2
 go_quiet (fail)
 go_wp2
 go_ret
 exact⟨rfl,_,rfl⟩
theorem tn30 (x:Int) (w:World) (hx:U x):Calls Tryz.prog 35 #[.int .u32 x,.int .i64 30] w fun e w'=>e=.returned (.int .u32 (QZ x))/\∃ n,w'=w.drewN n:=by
 obtain⟨hx0,hx1⟩:=hx
 go_enter Tryz.func35,Tryz.ntmps35
 go_wp2
 go_quiet (fail)
 go_wp2
 go_ret
 exact⟨rfl,_,rfl⟩
theorem choice_any (b c d:Int) (w:World) (hb:U b) (hc:U c) (hd:U d):Calls Tryz.prog 142 #[.int .u32 b,.int .u32 c,.int .u32 d] w fun e w'=>e=.returned (.int .u32 (ch b c d))/\w=w':=by
 obtain⟨hb0,hb1⟩:=hb
 obtain⟨hc0,hc1⟩:=hc
 obtain⟨hd0,hd1⟩:=hd
 have hsg:IntKind.u32.signed=false:=rfl
 have hmx:IntKind.u32.max=4294967295:=rfl
 go_enter Tryz.func142,Tryz.ntmps142
 go_wp2
 go_ret
 exact⟨rfl,rfl⟩
theorem parity_any (b c d:Int) (w:World) (hb:U b) (hc:U c) (hd:U d):Calls Tryz.prog 143 #[.int .u32 b,.int .u32 c,.int .u32 d] w fun e w'=>e=.returned (.int .u32 (par b c d))/\w=w':=by
 obtain⟨hb0,hb1⟩:=hb
 obtain⟨hc0,hc1⟩:=hc
 obtain⟨hd0,hd1⟩:=hd
 go_enter Tryz.func143,Tryz.ntmps143
 go_wp2
 go_ret
 exact⟨rfl,rfl⟩
theorem majority_any (b c d:Int) (w:World) (hb:U b) (hc:U c) (hd:U d):Calls Tryz.prog 144 #[.int .u32 b,.int .u32 c,.int .u32 d] w fun e w'=>e=.returned (.int .u32 (maj b c d))/\w=w':=by
 obtain⟨hb0,hb1⟩:=hb
 obtain⟨hc0,hc1⟩:=hc
 obtain⟨hd0,hd1⟩:=hd
 go_enter Tryz.func144,Tryz.ntmps144
 go_wp2
 go_ret
 exact⟨rfl,rfl⟩
theorem or_add (n:Nat) (h l:Int) (h0:0<=h) (l0:0<=l) (hl:l<2 ^ n) (hs:h*2 ^ n+l<4294967296):bits .or .u32 (h*2 ^ n) l=h*2 ^ n+l:=by
 obtain⟨a,rfl⟩:=Int.eq_ofNat_of_zero_le h0
 obtain⟨b,rfl⟩:=Int.eq_ofNat_of_zero_le l0
 obtain⟨q,hq⟩:∃ q,q=2 ^ n:=⟨_,rfl⟩
 have hb:b<2 ^ n:=by exact_mod_cast hl
 have e:2 ^ n*a+b=2 ^ n*a ||| b:=Nat.two_pow_add_eq_or_of_lt hb a
 have hp:((a:Int)*2 ^ n)=((2 ^ n*a:Nat):Int):=by push_cast;rw[Int.mul_comm]
 rw[hp] at hs ⊢
 rw[u32_or_nat _ _ (by omega) (by omega),<-e]
 push_cast;rfl
def num4 (a b c d:Int):Int:=a*16777216+b*65536+c*256+d
theorem num4_or (a b c d:Int) (ha:0<=a/\a<256) (hb:0<=b/\b<256) (hc:0<=c/\c<256) (hd:0<=d/\d<256):bits .or .u32 (bits .or .u32 (bits .or .u32 (a*16777216) (b*65536)) (c*256)) d=num4 a b c d:=by
 have h1:=or_add 24 a (b*65536) (by omega) (by omega) (by omega) (by omega)
 have h2:=or_add 16 (a*256+b) (c*256) (by omega) (by omega) (by omega) (by omega)
 have h3:=or_add 8 (a*65536+b*256+c) d (by omega) (by omega) (by omega) (by omega)
 rw[show (2:Int) ^ 24=16777216 from by decide] at h1
 rw[show (2:Int) ^ 16=65536 from by decide] at h2
 rw[show (2:Int) ^ 8=256 from by decide] at h3
 rw[h1,show a*16777216+b*65536=(a*256+b)*65536 from by omega,h2,show (a*256+b)*65536+c*256=(a*65536+b*256+c)*256 from by omega,h3]
 unfold num4;omega
theorem or8 (v x:Int) (hv:0<=v/\v<16777216) (hx:0<=x/\x<256):bits .or .u32 (v*256 % 4294967296) x=v*256+x:=by
 rw[show v*256 % 4294967296=v*2 ^ 8 from by omega,or_add 8 v x hv.1 hx.1 (by omega) (by omega)];rfl
def At (w:World) (b off:Nat) (zs:List Int):Prop := ∀ i,i<zs.length->w.cell? ⟨b,off+i,none⟩=some (.int .u8 (zs.getD i 0))
theorem number_any (b off cap i:Nat) (zs:List Int) (w:World) (hl:zs.length=64) (hz:IsB zs) (hi:i<16) (hat:At w b off zs) :
  Calls Tryz.prog 34 #[.slice (some ⟨b,off,none⟩) 64 cap,.int .i64 (4*i)] w fun e w'=>e=.returned (.int .u32 (num4 (zs.getD (4*i) 0) (zs.getD (4*i+1) 0) (zs.getD (4*i+2) 0) (zs.getD (4*i+3) 0)))/\∃ n,w'=w.drewN n:=by
 obtain⟨x0,H0⟩:=nn_ (zs.getD (4*i) 0)
 obtain⟨x1,H1⟩:=nn_ (zs.getD (4*i+1) 0)
 obtain⟨x2,H2⟩:=nn_ (zs.getD (4*i+2) 0)
 obtain⟨x3,H3⟩:=nn_ (zs.getD (4*i+3) 0)
 have c0:w.cell? ⟨b,off+4*i,none⟩=some (.int .u8 x0):=by rw[H0.out];exact hat _ (by omega)
 have c1:w.cell? ⟨b,off+(4*i+1),none⟩=some (.int .u8 x1):=by rw[H1.out];exact hat _ (by omega)
 have c2:w.cell? ⟨b,off+(4*i+2),none⟩=some (.int .u8 x2):=by rw[H2.out];exact hat _ (by omega)
 have c3:w.cell? ⟨b,off+(4*i+3),none⟩=some (.int .u8 x3):=by rw[H3.out];exact hat _ (by omega)
 have b0:0<=x0/\x0<256:=by rw[H0.out];exact hz.at _
 have b1:0<=x1/\x1<256:=by rw[H1.out];exact hz.at _
 have b2:0<=x2/\x2<256:=by rw[H2.out];exact hz.at _
 have b3:0<=x3/\x3<256:=by rw[H3.out];exact hz.at _
 rw[<-H0.out,<-H1.out,<-H2.out,<-H3.out]
 obtain⟨j,HJ⟩:=nn_ (4*i)
 rw[show (4*(i:Int))=(j:Int) from by have:=HJ.out;omega]
 rw[<-HJ.out] at c0 c1 c2 c3
 have hj:j<=60:=by have:=HJ.out;omega
 go_enter Tryz.func34,Tryz.ntmps34
 go_wp2
 go_quiet (fail)
 go_wp2
 go_ret
 rw[<-num4_or x0 x1 x2 x3 b0 b1 b2 b3]
 exact⟨rfl,_,rfl⟩
def val (zs:List Int) (j:Nat):Nat->Int
 | 0=>0
 | m+1=>val zs j m*256+zs.getD (4*j+m) 0
theorem val_bd (zs:List Int) (hz:IsB zs) (j:Nat):∀ m,0<=val zs j m/\val zs j m<256 ^ m
 | 0=>by simp[val]
 | m+1=>by
  have h:=val_bd zs hz j m
  have hb:=hz.at (4*j+m)
  simp only[val,Int.pow_succ]
  generalize (256:Int) ^ m=q at h ⊢
  omega
theorem val4 (zs:List Int) (j:Nat):val zs j 4=num4 (zs.getD (4*j) 0) (zs.getD (4*j+1) 0) (zs.getD (4*j+2) 0) (zs.getD (4*j+3) 0):=by
 simp only[val,num4,Nat.add_zero];omega
def wAt (zs:List Int) (k:Nat):List Int:=(List.range 80).map fun j=>val zs j (min (k-4*j) 4)
theorem Yk (zs:List Int) (k:Nat):(wAt zs k).length=80:=by simp[wAt]
theorem wAt_get (zs:List Int) (k j:Nat) (h:j<80):(wAt zs k).getD j 0=val zs j (min (k-4*j) 4):=by simp[wAt,h]
theorem wAt_zero (zs:List Int):wAt zs 0=List.replicate 80 0:=by
 apply List.ext_getElem (by rw[Yk,List.length_replicate])
 intro j h1 h2
 rw[List.getElem_replicate]
 simp only[wAt,List.getElem_map,List.getElem_range]
 rw[show min (0-4*j) 4=0 from by omega];rfl
theorem wAt_step (zs:List Int) (k:Nat) (h:k<64):wAt zs (k+1)=(wAt zs k).set (k / 4) ((wAt zs k).getD (k / 4) 0*256+zs.getD k 0):=by
 rw[wAt_get zs k (k / 4) (by omega)]
 apply List.ext_getElem (by simp[wAt])
 intro j h1 h2
 have hj:j<80:=by rw[Yk] at h1;exact h1
 rw[List.getElem_set]
 by_cases e:k / 4=j
 ·rw[if_pos e]
  subst e
  simp only[wAt,List.getElem_map,List.getElem_range]
  rw[show min (k+1-4*(k / 4)) 4=min (k-4*(k / 4)) 4+1 from by omega,val,show 4*(k / 4)+min (k-4*(k / 4)) 4=k from by omega]
 ·rw[if_neg e]
  simp only[wAt,List.getElem_map,List.getElem_range]
  rw[show min (k+1-4*j) 4=min (k-4*j) 4 from by omega]
theorem wAt_small (zs:List Int) (hz:IsB zs) (k:Nat) (h:k<64):0<=(wAt zs k).getD (k / 4) 0/\(wAt zs k).getD (k / 4) 0<16777216:=by
 rw[wAt_get zs k _ (by omega)]
 have hb:=val_bd zs hz (k / 4) (min (k-4*(k / 4)) 4)
 have h3:min (k-4*(k / 4)) 4<=3:=by omega
 refine⟨hb.1,Int.lt_of_lt_of_le hb.2 ?_⟩
 generalize min (k-4*(k / 4)) 4=m at h3
 match m,h3 with
 | 0,_=>decide
 | 1,_=>decide
 | 2,_=>decide
 | 3,_=>decide
theorem wAt_isW (zs:List Int) (hz:IsB zs) (k:Nat):IsW (wAt zs k):=by
 intro x hx
 simp only[wAt,List.mem_map,List.mem_range] at hx
 obtain⟨j,-,rfl⟩:=hx
 have hb:=val_bd zs hz j (min (k-4*j) 4)
 have h3:min (k-4*j) 4<=4:=by omega
 refine⟨hb.1,Int.lt_of_lt_of_le hb.2 ?_⟩
 generalize min (k-4*j) 4=m at h3
 match m,h3 with
 | 0,_=>decide
 | 1,_=>decide
 | 2,_=>decide
 | 3,_=>decide
 | 4,_=>decide
def rAt (zs:List Int) (i:Nat):List Int:=(List.range 80).map fun j=>if j<i then val zs j 4 else 0
theorem rAt_len (zs:List Int) (k:Nat):(rAt zs k).length=80:=by simp[rAt]
theorem rAt_zero (zs:List Int):rAt zs 0=List.replicate 80 0:=by
 apply List.ext_getElem (by rw[rAt_len,List.length_replicate])
 intro j h1 h2
 rw[List.getElem_replicate]
 simp only[rAt,List.getElem_map,List.getElem_range]
 rw[if_neg (by omega)]
theorem rAt_step (zs:List Int) (i:Nat) (h:i<16):rAt zs (i+1)=(rAt zs i).set i (val zs i 4):=by
 apply List.ext_getElem (by simp[rAt])
 intro j h1 h2
 rw[List.getElem_set]
 simp only[rAt,List.getElem_map,List.getElem_range]
 by_cases e:i=j
 ·subst e;rw[if_pos rfl,if_pos (by omega)]
 ·rw[if_neg e]
  by_cases h:j<i
  ·rw[if_pos (by omega),if_pos h]
  ·rw[if_neg (by omega),if_neg h]
theorem rAt_16 (zs:List Int):rAt zs 16=wAt zs 64:=by
 apply List.ext_getElem (by simp[rAt,wAt])
 intro j h1 h2
 simp only[rAt,wAt,List.getElem_map,List.getElem_range]
 by_cases h:j<16
 ·rw[if_pos h,show min (64-4*j) 4=4 from by omega]
 ·rw[if_neg h,show min (64-4*j) 4=0 from by omega];rfl
def nx (v:List Int) (i:Nat):Int:=bits .xor .u32 (bits .xor .u32 (bits .xor .u32 (v.getD (i-3) 0) (v.getD (i-8) 0)) (v.getD (i-14) 0)) (v.getD (i-16) 0)
def spAt (ws:List Int):Nat->List Int
 | 0=>ws
 | j+1=>(spAt ws j).set (16+j) (turn1 (nx (spAt ws j) (16+j)))
theorem XW (ws:List Int):∀ j,(spAt ws j).length=ws.length
 | 0=>rfl
 | j+1=>by rw[spAt,List.length_set,XW ws j]
theorem XY (ws:List Int) (h:IsW ws):∀ j,IsW (spAt ws j)
 | 0=>h
 | j+1=>(XY ws h j).set _ _ (turn1_bd _)
theorem nx_bd (v:List Int) (i:Nat):U (nx v i):=ZZ _ _ _ (by simp)
def QQ (zs:List Int):List Int:=spAt (wAt zs 64) 64
theorem spread_len (zs:List Int):(QQ zs).length=80:=by rw[QQ,XW,Yk]
theorem spread_isW (zs:List Int) (hz:IsB zs):IsW (QQ zs):=XY _ (wAt_isW zs hz 64) _
end Go.Proofs.YticgindfipobiaaGreatDoor
