import Derived.Shelf.LaysC
import Derived.Shelf.Strconv.Itoa4
import Derived.Shelf.Strings.Search3
import Derived.Shelf.Strings.SlTrimAscii
import Derived.Shelf.Strings.IndexAnyAll
import Derived.Shelf.Strings.Prefix
import Derived.Shelf.Bytes.SlEqualAll
import Derived.Shelf.Strconv.ErrVarParseInt
import Derived.Shelf.Strconv.ErrVarAll
import Derived.Shelf.Small.Utf8
import Derived.Shelf.Small.Strs
import Derived.Deep.RegionHeld
import Derived.OrdersHeld
import Derived.Laws.RangeAny
import Derived.Laws.Runes
import Derived.WalkMore
import Derived.Lib.SlBytesRow
import Derived.Lib.OthersKept
import Derived.Lib.TrimUEq
import Derived.Lib.SpaceUEq
import Derived.Lib.QuoteLoop
import Derived.Defers
import Derived.Recover
import Derived.LaidEql
import Derived.Stop.Asserts
import Derived.RowKitTokens
import Derived.Laws.BytesArg
import Derived.Laws.Externs
import Derived.Shelf.Strconv.AtoiAll
import Derived.Test.YtiaaekdpfpaigaaGreatDoorMn18
import Derived.Test.YtiaaekdpfpaigaaGreatDoorMn01
set_option linter.unusedSimpArgs false
set_option linter.unusedVariables false
set_option maxRecDepth 20000
set_option maxHeartbeats 4000000
open List renaming length_append->Wz6,mem_map->Wx9,replicate->WqV,size_toArray->WqW
open Nat renaming le_refl->WzV,le_trans->Wqx,lt_or_ge->WzW,zero_add->Wq7
namespace Go.Proofs.YtiaaekdpfpaigaaGreatDoor.Id
open Go.Proofs.Tryz
open Go.RowKit Go.Extern.Stop Go.Stop Go.Extern
theorem zxy (w:World):Calls prog 12 #[.nilIface] w fun e w'=>e=.returned (.int .i64 0)/\Below w.heap.size w w':=by
 have HB:Hid (Below w.heap.size w (w.alloc (.cells #[.int .i64 0] 42))):=(Below.refl _ w).alloc (WzV _) _;go_enter func12,ntmps12;go_wp2;go_ret;exact⟨rfl,HB.out⟩
end Go.Proofs.YtiaaekdpfpaigaaGreatDoor.Id
namespace Go.Proofs.YtiaaekdpfpaigaaGreatDoor.Id.Hx
open Go.Proofs.Tryz
open Go.RowKit
theorem info5:(prog.info? 5).map (fun i=>(i.zero,i.size,i.bytes))=some (some (.int .u8 0),1,1):=by kernel_rfl
theorem info_parts {o:Option TypeInfo} {z:Value} {a b:Nat} (h:o.map (fun i=>(i.zero,i.size,i.bytes))=some (some z,a,b)):∃ i,o=some i/\i.zero=some z/\i.size=a/\i.bytes=b:=by
 cases o with
 | none=>simp at h
 | some i=>simp at h;exact⟨i,rfl,h.1,h.2.1,h.2.2⟩
def row (zs:List Int):List Value:=zs.map (Value.int .u8)
theorem zu (zs:List Int):(row zs).length=zs.length:=by simp[row]
theorem vz (zs:List Int) (i:Nat) (h:i<zs.length):(row zs)[i]? = some (.int .u8 (zs.getD i 0)):=by simp[row,h]
theorem row_one (zs:List Int):∀ v ∈ row zs,v.oneCell'=true:=by
 intro v hv;simp only[row,Wx9] at hv;obtain⟨c,_,rfl⟩:=hv;rfl
theorem uv (zs:List Int) (n:Nat) (c:Int):(row zs).toArray.setIfInBounds n (.int .u8 c)=(row (zs.set n c)).toArray:=by
 simp[row,List.map_set]
theorem zy {w:World} {g:Nat} {zs:List Int} {t:TypeId} {fr:Nat × Nat} (h:w.heap[g]? = some (.cells (row zs).toArray t fr)) (i:Nat) (hi:i<zs.length):w.cell? ⟨g,i,none⟩=some (.int .u8 (zs.getD i 0)):=by
 rw[cell_of_row w g i _ t fr h];simpa using vz zs i hi
theorem zx {w:World} {g:Nat} {cs:List Value} {t:TypeId} {fr:Nat × Nat} (h:w.heap[g]? = some (.cells cs.toArray t fr)):w.rangeAt g 0 cs:=fun j v hv=>by
 rw[Wq7,cell_of_row w g j _ t fr h];simpa using hv
theorem qq {w:World} {g n:Nat} {zs:List Int} {t:TypeId} (h:w.heap[g]? = some (.cells (row zs).toArray t (0,0))) (hn:zs.length=n):w.there g 0 n:=fun j hj=>by
 rw[Wq7];exact⟨by rw[zy h j (by omega)];rfl,frozen_of_row w g j _ t h⟩
theorem U8 {P:Program} (t e:TypeId) (n:Nat) (cs:Array Value) (k:IntKind) (i:Nat) (v:Value) (w:World) (h:P.underlying t=some (.array n e)) (he:(P.info? e).map (·.size)=some 1) (d:TypeDesc) (hu:P.underlying e=some d) (hd:d.isRow=false) (hi:i<n) (hv:cs[i]? = some v) :
  (Instr.index t (.agg cs) (.int k i)).run P w=.ok v w:=by
 cases hq:P.info? e with
 | none=>simp[hq] at he
 | some inf =>
  have hs:inf.size=1:=by simpa [hq] using he
  have hagg:(isAgg e).run P w=.ok false w:=by
   unfold isAgg;rw[Sem.run_bind,run_underlying hu w];cases d <;> simp_all
  simp[Instr.index,asIntOf,run_underlying h,hi,part,sizeOf,typeInfo,hq,hs,hagg,hv]
theorem size5:(prog.info? 5).map (·.size)=some 1:=by kernel_rfl
theorem zJ {w:World} {B:Nat} {e:TypeId} {s:Nat} {v:Value} {n:Nat} {xs:List Value} (h:w.ownsRow B e s v n xs) (k:Nat) (hk:v.ownBlock=some k):B<=k/\k<w.heap.size:=h.lt k hk
theorem uW {B:Nat} {w0 w wx w3:World} {r:Option Nat} (h:Below B w0 w) (hB:B<=w0.heap.size) (hx:w.grownBy wx none) (hg:wx.grownBy w3 r) (hr:∀ k,r=some k->B<=k):Below B w0 w3 :=
 (h.grown hx (Wqx hB h.size) (fun k h=>by cases h)).grown hg (Wqx (Wqx hB h.size) hx.size) hr
def hv (c:Int):Int:=if 48<=c/\c<=57 then c-48 else if 97<=c/\c<=102 then c-87 else -1
theorem uw {P:Program} {fn:Func} {p q:Tmp} {ty:TypeId} {t2:TypeId} (h:fn.results=#[.cell p ty,.tmp q]) (tmps:Array Value) (w:World) (g:Nat) (cs:List Value) (d:TypeDesc) (v:Value)
  (hp:tmps.getD p undef=.pointer (some ⟨g,0,none⟩)) (hq:tmps.getD q undef=v) (hc:w.rangeAt g 0 cs) (hu:P.underlying ty=some d) (hd:d.isRow=true) (hi:(P.info? ty).map (·.size)=some cs.length) :
  (results fn tmps).run P w=.ok (.tuple #[.agg cs.toArray,v]) w:=by
 have hp':tmps[p]?.getD undef=.pointer (some ⟨g,0,none⟩):=by simpa using hp
 have hq':tmps[q]?.getD undef=v:=by simpa using hq
 simp[results,h,hp',hq',asAddr,run_loadVar_mid w g 0 ty cs d hc hu hd hi]
theorem below_setCells {B g:Nat} (hB:B<=g):∀ (vs:List Value) (o:Nat) (w0 w:World),Below B w0 w->Below B w0 (w.setCells g o vs)
 | [],_,_,_,h=>h
 | v :: r,o,w0,_,h=>below_setCells hB r (o+1) w0 _ (h.setCell (p:=⟨g,o,none⟩) hB v)
end Go.Proofs.YtiaaekdpfpaigaaGreatDoor.Id.Hx
namespace Go.Proofs.YtiaaekdpfpaigaaGreatDoor.Id
open Go.Proofs.Tryz
open Go.RowKit
theorem YZ (k:IntKind) (l:List Int) (x:Int):row k (l++[x])=row k l++[.int k x]:=by simp[row]
theorem FY (n j:Nat) (h:j<=vq n):((n+(1+j)+8) % 64=0) ↔ j=vq n:=by unfold vq at *;omega
theorem zku (n:Nat) (w:World) (hn:n<=700000) :
  Calls prog 93 #[.int .u64 n] w fun e w'=>∃ g cp,e=.returned (.slice (some ⟨g,0,none⟩) (jk n).length cp)/\Below w.heap.size w w'/\w.heap.size<=g/\g<w'.heap.size/\At w' g 0 (jk n)/\(jk n).length<=cp:=by
 obtain⟨i5,hi,hz0,hz1,hz2⟩:=info_parts info5;have HB0:Hid (Below w.heap.size w (w.alloc (.cells #[.int .u8 128] 5))):=(Below.refl _ w).alloc (WzV _) _;have hp63:=Lx n;go_enter func93,ntmps93;go_wp2
 go_loopg [3] (vq n) (fun g s wr=>∃ (j gb cp:Nat) (ls:List Int),j<=vq n/\g=vq n-j/\s=.slice (some ⟨gb,0,none⟩) (1+j:Nat) cp/\Hid (ls=128 :: WqV j 0)/\wr.ownsRow w.heap.size 5 1 (.slice (some ⟨gb,0,none⟩) (1+j:Nat) cp) (1+j) (row .u8 ls)/\Hid (Below w.heap.size w wr))
 case atStart=>exact⟨0,w.heap.size,1,_,by omega,rfl,rfl,rfl,World.ownsRow_lit w #[.int .u8 128] 1 (WzV _) (by unfold maxLen;omega) rfl,HB0⟩
 obtain⟨j,gb,cp,ls,hj,hk,rfl,HLs,hown,HB⟩:=hrel;by_cases hlt:j<vq n
 ·have hc:((n:Int)+(1+j)+8) % 64 ≠ 0:=by have:=FY n j hj;omega
  go_wp2_with (refine wpList_append_lies _ rfl _ _ _ rfl w.heap.size 5 i5 (.int .u8 0) 1 1 underlying22 hi hz0 hz1 hz2 rfl (by omega) (.slice (some ⟨gb,0,none⟩) (1+j:Nat) cp) (1+j) (row .u8 ls) rfl (by exact hown.alloc _) ⟨wr.heap.size,0,none⟩ 1 1 [.int .u8 0] rfl rfl (by intro j u hj;match j,hj with | 0,hj=>simp at hj;subst hj;simp[Addr.add]) (by intro u hu;simp at hu;subst hu;rfl) (by omega) (by unfold maxLen;omega) (by omega) (by have:=HB.out.size;simp;omega) (wr.heap.size+1) (by simp) ?_;intro g2 cp2 w3 hown1 hgrow hat hlt2)
  have HB2:Hid (Below w.heap.size w w3):=uW HB.out (WzV _) (World.grownBy_alloc wr _ none) hgrow (fun k hk=>(zJ hown k hk).1);have HO:Hid (w3.ownsRow w.heap.size 5 1 (.slice (some ⟨g2,0,none⟩) (1+j+1:Nat) cp2) (1+j+1) (row .u8 (ls++[0]))):=hid (by rw[YZ];exact hown1);clear hown1 hgrow hat hown;go_wp2;go_roundg (vq n-(j+1));case measure=>omega
  case rel=>exact⟨j+1,g2,cp2,ls++[0],by omega,rfl,rfl,hid (by rw[HLs.out,List.replicate_succ',List.cons_append]),HO.out,HB2⟩
 obtain rfl:j=vq n:=by omega
 have hc:((n:Int)+(1+(vq n:Nat))+8) % 64=0:=by have:=FY n (vq n) (WzV _);omega
 obtain⟨q,HQ⟩:=nn_ (1+vq n);have hq64:q<=64:=by have:=HQ.out;omega
 rw[<-HQ.out] at hown;have hc2:((n:Int)+q+8) % 64=0:=by have:=HQ.out;omega
 rw[<-HQ.out];have HLq:Hid (ls=128 :: WqV (vq n) 0):=HLs.out;clear hc hlt hj hk;go_wp2;clear hc2
 go_loopg [3,20] 8 (fun g s i wr=>∃ (j gb cp:Nat) (ls:List Int),j<=8/\g=8-j/\i=.int .i64 j/\s=.slice (some ⟨gb,0,none⟩) (q+j:Nat) cp/\Hid (ls=128 :: WqV (vq n) 0++(List.range j).map (be8 (8*n)))/\wr.ownsRow w.heap.size 5 1 (.slice (some ⟨gb,0,none⟩) (q+j:Nat) cp) (q+j) (row .u8 ls)/\Hid (Below w.heap.size w wr))
 case atStart=>exact⟨0,gb,cp,ls,by omega,rfl,rfl,rfl,hid (by rw[HLq.out];simp),hown,HB⟩
 case round =>
 clear hown HB;obtain⟨j,gb,cp,ls,hj,hk,rfl,rfl,HLs,hown,HB⟩:=hrel;by_cases hlt:j<8
 ·obtain⟨x,HX⟩:=nn_ (be8 (8*n) j);have hx:8*(n:Int) / 2 ^ (8*(7-j)) % 256=x:=by rw[HX.out];unfold be8;rw[Int.natCast_emod,Int.natCast_ediv,Int.natCast_mul,Int.natCast_pow];rfl
  go_wp2_with (refine wpList_append_lies _ rfl _ _ _ rfl w.heap.size 5 i5 (.int .u8 0) 1 1 underlying22 hi hz0 hz1 hz2 rfl (by omega) (.slice (some ⟨gb,0,none⟩) (q+j:Nat) cp) (q+j) (row .u8 ls) rfl (by exact hown.alloc _) ⟨wr.heap.size,0,none⟩ 1 1 [.int .u8 x] rfl rfl (by intro j u hj;match j,hj with | 0,hj=>simp at hj;subst hj;simp[Addr.add]) (by intro u hu;simp at hu;subst hu;rfl) (by omega) (by unfold maxLen;omega) (by omega) (by have:=HB.out.size;simp;omega) (wr.heap.size+1) (by simp) ?_;intro g2 cp2 w3 hown1 hgrow hat hlt2)
  have HB2:Hid (Below w.heap.size w w3):=uW HB.out (WzV _) (World.grownBy_alloc wr _ none) hgrow (fun k hk=>(zJ hown k hk).1);have HO:Hid (w3.ownsRow w.heap.size 5 1 (.slice (some ⟨g2,0,none⟩) (q+j+1:Nat) cp2) (q+j+1) (row .u8 (ls++[x]))):=hid (by rw[YZ];exact hown1);clear hown1 hgrow hat hown hx;go_wp2;go_roundg (8-(j+1));case measure=>omega
  case rel=>exact⟨j+1,g2,cp2,ls++[x],by omega,rfl,by go_num,rfl,hid (by rw[HLs.out,HX.out,List.range_succ,List.map_append,List.append_assoc];rfl),HO.out,HB2⟩
 obtain rfl:j=8:=by omega
 have HE:Hid (ls=jk n):=hid (by rw[HLs.out];rfl);have hel:(jk n).length=q+8:=by rw[X6];have:=HQ.out;omega
 obtain⟨g0,cp0,hform,hg0,hcp0⟩:=hown.form (by omega);have hlt3:=(zJ hown gb rfl);have HAt:Hid (At wr gb 0 (jk n)):=fun i hi=>by
  rw[Wq7,hown.cellAt i (by omega),HE.out,vz .u8 (jk n) i hi]
 have hcp:q+8<=cp:=by
  rcases hown.2 with ⟨_,h0⟩ | ⟨g,cap,cur,hv,_,_,h1,_⟩
  ·omega
  simp only[Value.slice.injEq] at hv;omega
 go_wp2;go_ret;exact⟨gb,cp,by rw[hel];rfl,HB.out,hlt3.1,hlt3.2,HAt.out,by rw[hel];exact hcp⟩
def uy (w:World) (D:Nat):List Value:=(List.range 70).map fun i=>(w.cell? ⟨D,i,none⟩).getD undef
theorem Vy (w:World) (D:Nat):(uy w D).length=70:=by simp[uy]
theorem H5 {w:World} {D:Nat} {l:List Int} (h:Dig w D l) (i:Nat) (hi:i<70):∃ v,w.cell? ⟨D,i,none⟩=some v/\v.oneCell'=true:=by
 by_cases h5:i<5
 ·exact⟨_,h.sum i h5,rfl⟩
 by_cases h69:i=69
 ·subst h69;exact⟨_,h.size,rfl⟩
 obtain⟨rs,-,-,hc,-⟩:=h.rest;have:=hc (i-5) (by omega);rw[show 5+(i-5)=i from by omega] at this;exact⟨_,this,rfl⟩
theorem UW {w:World} {D:Nat} {l:List Int} (h:Dig w D l) (i:Nat) (hi:i<70):(uy w D)[i]? = w.cell? ⟨D,i,none⟩:=by
 obtain⟨v,hv,-⟩:=H5 h i hi;simp[uy,hi,hv]
theorem Hz {w:World} {D:Nat} {l:List Int} (h:Dig w D l):w.rangeAt D 0 (uy w D):=fun j v hv=>by
 have hj:j<70:=by rcases WzW j 70 with h | h;exact h;rw[List.getElem?_eq_none (by rw[Vy];exact h)] at hv;cases hv
 rw[Wq7,<-UW h j hj];exact hv
theorem Ly {w:World} {D:Nat} {l:List Int} (h:Dig w D l):∀ v ∈ uy w D,v.oneCell'=true:=by
 intro v hv;simp only[uy,Wx9,List.mem_range] at hv;obtain⟨i,hi,rfl⟩:=hv;obtain⟨v,hv,h1⟩:=H5 h i hi;rw[hv];exact h1
theorem zxu {w W:World} {D L:Nat} {l:List Int} (h:Dig w D l) (hr:W.rangeAt L 0 (uy w D)) (hl:L<W.heap.size) (hf:∀ i,W.frozen? ⟨L,i,none⟩=false):Dig W L l:=by
 have c:∀ i,i<70->W.cell? ⟨L,i,none⟩=w.cell? ⟨D,i,none⟩:=fun i hi=>by
  obtain⟨v,hv,-⟩:=H5 h i hi;have:=hr i v (by rw[UW h i hi];exact hv);rw[Wq7] at this;rw[this,hv]
 obtain⟨rs,h1,h2,h3,h4⟩:=h.rest;exact⟨hl,fun i hi=>(c i (by omega)).trans (h.sum i hi),⟨rs,h1,h2,fun i hi=>(c _ (by omega)).trans (h3 i hi),h4⟩,(c _ (by omega)).trans h.size,hf⟩
theorem out4 (s:S5) (i:Nat) (hi:i<5):xV s (4*(i+1))=((((xV s (4*i)).set (4*i) (s.l.getD i 0 / 16777216 % 256)).set (4*i+1) (s.l.getD i 0 / 65536 % 256)).set (4*i+2) (s.l.getD i 0 / 256 % 256)).set (4*i+3) (s.l.getD i 0 % 256):=by
 rw[show 4*(i+1)=4*i+3+1 from by omega,jY s _ (by omega),jY s _ (by omega),jY s _ (by omega),jY s _ (by omega)]
 rw[show 4*i / 4=i from by omega,show (4*i+1) / 4=i from by omega,show (4*i+2) / 4=i from by omega,show (4*i+3) / 4=i from by omega,show 4*i % 4=0 from by omega,show (4*i+1) % 4=1 from by omega,show (4*i+2) % 4=2 from by omega,show (4*i+3) % 4=3 from by omega];rw[show s.l.getD i 0 / 2 ^ (24-8*3) % 256=s.l.getD i 0 % 256 from by simp];rfl
theorem zxZ (s:S5) (h:s.ok):IsW s.l:=by
 obtain⟨h1,h2,h3,h4,h5⟩:=h;intro x hx;simp only[S5.l,List.mem_cons,List.not_mem_nil,or_false] at hx;rcases hx with rfl | rfl | rfl | rfl | rfl <;> assumption
theorem set4 {w:World} {g m:Nat} {t:TypeId} {zs:List Int} (a b c d:Int) (h:w.heap[g]? = some (.cells (row .u8 zs).toArray t (0,0))) :
  ((((w.setCell ⟨g,m,none⟩ (.int .u8 a)).setCell ⟨g,m+1,none⟩ (.int .u8 b)).setCell ⟨g,m+2,none⟩ (.int .u8 c)).setCell ⟨g,m+3,none⟩ (.int .u8 d)).heap[g]? = some (.cells (row .u8 ((((zs.set m a).set (m+1) b).set (m+2) c).set (m+3) d)).toArray t (0,0)):=by
 have h1:=heap_setCell_same w g m _ _ (.int .u8 a) h;rw[uv] at h1;have h2:=heap_setCell_same _ g (m+1) _ _ (.int .u8 b) h1;rw[uv] at h2;have h3:=heap_setCell_same _ g (m+2) _ _ (.int .u8 c) h2;rw[uv] at h3;have h4:=heap_setCell_same _ g (m+3) _ _ (.int .u8 d) h3;rw[uv] at h4;exact h4
theorem Aj {w:World} {g m k:Nat} (a b c d:Value) (h:k ≠ g):((((w.setCell ⟨g,m,none⟩ a).setCell ⟨g,m+1,none⟩ b).setCell ⟨g,m+2,none⟩ c).setCell ⟨g,m+3,none⟩ d).heap[k]? = w.heap[k]? := by
 rw[Below.heap_setCell _ _ _ _ h,Below.heap_setCell _ _ _ _ h,Below.heap_setCell _ _ _ _ h,Below.heap_setCell _ _ _ _ h]
theorem Ak {B:Nat} {w0 w:World} {g m:Nat} (a b c d:Value) (hg:B<=g) (h:Below B w0 w):Below B w0 ((((w.setCell ⟨g,m,none⟩ a).setCell ⟨g,m+1,none⟩ b).setCell ⟨g,m+2,none⟩ c).setCell ⟨g,m+3,none⟩ d) :=
 (((h.setCell (p:=⟨g,m,none⟩) hg a).setCell (p:=⟨g,m+1,none⟩) hg b).setCell (p:=⟨g,m+2,none⟩) hg c).setCell (p:=⟨g,m+3,none⟩) hg d
def Z43:Array Value:=(row .u32 [0,0,0,0,0]++row .u8 (WqV 64 0)++([.int .u64 0] : List Value)).toArray
theorem zxQ (w:World):(zeroValue 183).run prog w=.ok (.agg Z43) w:=by kernel_rfl
theorem XK (w:World):(zeroValue 68).run prog w=.ok (.agg (row .u8 z20).toArray) w:=by kernel_rfl
theorem qx1 (w:World):(zeroValue 47).run prog w=.ok (.agg (row .u8 z20).toArray) w:=by kernel_rfl
theorem zkZ (D:Nat) (l:List Int) (w:World) (hD:Dig w D l) (hl:l.length<=600000) (hlb:IsB l) :
  Calls prog 66 #[.pointer (some ⟨D,0,none⟩)] w fun e w'=>e=.returned (.agg (row .u8 (sha l)).toArray)/\Below w.heap.size w w':=by
 have HD:Hid (Dig w D l):=hD;clear hD;obtain⟨zr,HZ⟩:=nn_ ((row .u8 z20).toArray);have hz25:=XK;rw[<-HZ.out] at hz25;obtain⟨z43,HZ43⟩:=nn_ Z43;have hz43:=zxQ;rw[<-HZ43.out] at hz43;obtain⟨cs,HCS⟩:=nn_ (uy w D);have hcs:cs.length=70:=by rw[HCS.out];exact Vy _ _
 have hi43:(prog.info? 183).map (·.size)=some cs.length:=by rw[hcs];exact size183
 have hDl:D<w.heap.size:=HD.out.lt;have he70:cs.toArray.size=70:=by rw[WqW,hcs]
 have H1:Hid ((w.alloc (.cells zr 68)).rangeAt D 0 cs):=hid (by rw[HCS.out];exact fun j v hv=>(World.cell?_alloc_lt w _ ⟨D,0+j,none⟩ hDl).trans (Hz HD.out j v hv));have T1:Hid (((w.alloc (.cells zr 68)).alloc (.cells z43 183)).there (w.heap.size+1) 0 cs.toArray.size):=hid (by rw[he70,HZ43.out];exact x9 (heap_alloc2_new w _ _) rfl)
 have T2:Hid ((prog.info? 183).map (·.size)=some cs.toArray.size):=hid (by rw[WqW];exact hi43);have T3:Hid (cs.toArray.all (·.oneCell')=true):=hid (all_oneCell_toArray (by rw[HCS.out];exact Ly HD.out));obtain⟨w1,HW1⟩:=nn_ (((w.alloc (.cells zr 68)).alloc (.cells z43 183)).setCells (w.heap.size+1) 0 cs.toArray.toList)
 have hs1:w1.heap.size=w.heap.size+1+1:=by rw[HW1.out,size_setCells];simp
 have HDL:Hid (Dig w1 (w.heap.size+1) l):=hid (by
  refine zxu HD.out ?_ (by omega) ?_
  ·rw[HW1.out,<-HCS.out];exact World.rangeAt_setCells_same _ (w.heap.size+1) 0 _ (by have:=T1.out;simpa using this)
  intro i;rw[HW1.out,World.frozen?_setCells];exact frozen_of_row _ _ _ _ 183 (heap_alloc2_new w _ _))
 have HB1:Hid (Below w.heap.size w w1):=hid (by rw[HW1.out];exact below_setCells (by omega) _ _ _ _ (((Below.refl _ w).alloc (WzV _) _).alloc (by simp) _));have HR1:Hid (w1.heap[w.heap.size]? = some (.cells zr 68 (0,0))):=hid (by
  have hg:∀ (vs:List Value) (o:Nat) (W:World),(W.setCells (w.heap.size+1) o vs).heap[w.heap.size]? = W.heap[w.heap.size]? := by
   intro vs;induction vs with
   | nil=>intro o W;rfl
   | cons v r ih=>intro o W;rw[World.setCells,ih];exact Below.heap_setCell W ⟨w.heap.size+1,o,none⟩ v _ (by simp)
  rw[HW1.out,hg];exact heap_alloc2_old w _ _)
 replace hs1:=hid hs1;have c69:w1.cell? ⟨D,69,none⟩=some (.int .u64 l.length):=(HB1.out.cell (p:=⟨D,69,none⟩) hDl).trans HD.out.size;go_enter func66,ntmps66
 go_wp2_with (first | refine wpList_load_mid rfl 183 _ rfl D 0 rfl cs _ H1.out underlying183 rfl hi43 ?_ | (refine wpList_store_mid rfl 183 _ _ rfl (w.heap.size+1) 0 cs.toArray rfl rfl T1.out T2.out T3.out ?_;rw[<-HW1.out]))
 clear c69;obtain⟨n,HN⟩:=nn_ l.length;rw[<-HN.out];refine(zku n w1 (by rw[HN.out];omega)).mono ?_;rintro e w2 ⟨g,cp,rfl,hb2,hg1,hg2,hat2,hcp2⟩;have HG2:Hid (w1.heap.size<=g):=hg1;have HD2:Dig w2 (w.heap.size+1) l:=HDL.out.keep (yZ hb2 none) (by simp);have HX2:Hid (Below w1.heap.size w1 w2):=hb2;obtain⟨en,HEN⟩:=nn_ (jk n);rw[<-HEN.out] at hat2 hcp2 ⊢
 have henl:en.length<=100:=by rw[HEN.out,X6];have:=Lx n;omega
 have henb:IsB en:=by rw[HEN.out];exact T7 n
 go_wp2_with fail
 refine(JX (w.heap.size+1) l _ cp en w2 HD2 (by omega) hlb henb (fun _=>⟨g,0,rfl,hg2,by have:=HG2.out;have:=hs1.out;omega,hat2,hcp2⟩)).mono ?_;rintro e w3 ⟨rfl,hD3,hgr3⟩;have hsz2:=HX2.out.size;have hsz3:=hgr3.size
 have HB3:Hid (Below w.heap.size w w3):=(HB1.out.trans (HX2.out.mono (by have:=hs1.out;omega))).grown hgr3 (by have:=hs1.out;omega) (fun k hk=>by simp at hk;omega);have HR3:Hid (w3.heap[w.heap.size]? = some (.cells zr 68 (0,0))):=(hgr3.block _ (by have:=hs1.out;omega) (by simp)).trans ((HX2.out.block _ (by have:=hs1.out;omega)).trans HR1.out)
 have hz3:w.heap.size+1<w3.heap.size:=by have:=hs1.out;omega
 obtain⟨s5,HS5⟩:=nn_ (ab (l++en) ((l++en).length / 64));have hs5:s5.ok:=by rw[HS5.out];exact FV _ _
 have HSH:Hid (sha l=xV s5 20):=hid (by unfold sha;rw[HS5.out,HEN.out,HN.out]);have hsum:=hD3.sum;rw[<-HS5.out] at hsum;replace hD3:=hid hD3;clear hgr3 HX2 hat2 hcp2 HD2 hb2 hg1 hg2 hsz2 hsz3;obtain⟨sl,HSL⟩:=nn_ s5.l;rw[<-HSL.out] at hsum;have hsll:sl.length=5:=by rw[HSL.out];rfl
 have hslw:IsW sl:=by rw[HSL.out];exact zxZ s5 hs5
 have hi40:(prog.info? 181).map (·.size)=some (row .u32 sl).length:=by rw[zu,hsll];exact size181
 have HRL:Hid ((w3.alloc (.cells zr 68)).rangeAt (w.heap.size+1) 0 (row .u32 sl)):=hid (Dz 0 (fun i hi=>by rw[Wq7,World.cell?_alloc_lt w3 _ ⟨w.heap.size+1,i,none⟩ hz3];exact hsum i (by omega)))
 have HI3:Hid ((w3.alloc (.cells zr 68)).heap[w3.heap.size]? = some (.cells (row .u8 (xV s5 (4*0))).toArray 68 (0,0))):=hid (by rw[WV,<-HZ.out];exact heap_alloc_new w3 _);have HR4:Hid ((w3.alloc (.cells zr 68)).heap[w.heap.size]? = some (.cells (row .u8 z20).toArray 68 (0,0))):=hid (by rw[Below.heap_alloc _ _ _ (by omega),HR3.out,HZ.out])
 have HB4:Hid (Below w.heap.size w (w3.alloc (.cells zr 68))):=HB3.out.alloc (by omega) _;clear hsum;obtain⟨sa,HSA⟩:=nn_ ((row .u32 sl).toArray);have HSX:Hid (∀ i,i<5->sa[i]? = some (.int .u32 (sl.getD i 0))):=fun i hi=>by rw[HSA.out];simpa using vz .u32 sl i (by omega)
 go_wp2_with (refine wpList_load_mid rfl 181 _ rfl (w.heap.size+1) 0 rfl (row .u32 sl) _ HRL.out underlying181 rfl hi40 ?_;rw[<-HSA.out])
 go_loopg [18] 5 (fun k i wr=>∃ j:Nat,j<=5/\k=5-j/\i=.int .i64 j/\Hid (wr.heap[w3.heap.size]? = some (.cells (row .u8 (xV s5 (4*j))).toArray 68 (0,0)))/\Hid (wr.heap[w.heap.size]? = some (.cells (row .u8 z20).toArray 68 (0,0)))/\Hid (Below w.heap.size w wr));case atStart=>exact⟨0,by omega,rfl,rfl,HI3,HR4,HB4⟩
 clear HI3 HR4 HB4 HRL;obtain⟨j,hj,hk,rfl,HI,HR,HB⟩:=hrel;by_cases hlt:j<5;rotate_left
 ·obtain rfl:j=5:=by omega
  obtain⟨fr,HFR⟩:=nn_ (xV s5 (4*5));rw[<-HFR.out] at HI;have hfl:fr.length=20:=by rw[HFR.out];exact Zv _ _
  have HE:Hid (fr=sha l):=hid (by rw[HFR.out,HSH.out]);have hi25:(prog.info? 68).map (·.size)=some (row .u8 fr).length:=by rw[zu,hfl];exact size68
  have T1:Hid (wr.there w.heap.size 0 (row .u8 fr).toArray.size):=hid (by rw[qK,hfl];exact qq HR.out rfl);have T2:Hid ((prog.info? 68).map (·.size)=some (row .u8 fr).toArray.size):=hid (by rw[qK,hfl];exact size68);have T3:Hid ((row .u8 fr).toArray.all (·.oneCell')=true):=all_oneCell_toArray (row_one _ _)
  have T4:Hid (wr.there w.heap.size 0 (row .u8 fr).length):=hid (by rw[zu,hfl];exact qq HR.out rfl);go_wp2_with (first | refine wpList_load_mid rfl 68 _ rfl w3.heap.size 0 rfl (row .u8 fr) _ (zx HI.out) underlying68 rfl hi25 ?_ | refine wpList_store_mid rfl 68 _ _ rfl w.heap.size 0 (row .u8 fr).toArray rfl rfl T1.out T2.out T3.out ?_)
  refine bodyPost_ret (v:=.agg (row .u8 fr).toArray) (y6 Tryz.results66 _ _ w.heap.size _ _ rfl (World.rangeAt_setCells_same wr w.heap.size 0 _ T4.out) underlying68 rfl hi25) rfl ⟨?_,below_setCells (WzV _) _ _ _ _ HB.out⟩;rw[HE.out]
 obtain⟨x,HX⟩:=nn_ (sl.getD j 0);have hix:∀ w1:World,(Instr.index 181 (.agg sa) (.int .i64 j)).run prog w1=.ok (.int .u32 x) w1:=fun w1=>by rw[HX.out];exact U8 181 50 5 _ _ j _ w1 underlying181 size50 _ underlying50 rfl hlt (HSX.out j hlt)
 have hx:U x:=by rw[HX.out];exact hslw.at j
 obtain⟨hx1,hx2⟩:=hx;obtain⟨m,HM⟩:=nn_ (4*j);have hm:(4:Int)*j=(m:Int):=by have:=HM.out;omega
 have hm16:m+3<20:=by have:=HM.out;omega
 rw[<-HM.out] at HI;have cc:∀ i,i<20->wr.cell? ⟨w3.heap.size,i,none⟩=some (.int .u8 ((xV s5 m).getD i 0)):=fun i hi=>zy HI.out i (by rw[Zv];exact hi);have d0:=cc m (by omega);have d1:=cc (m+1) (by omega);have d2:=cc (m+2) (by omega);have d3:=cc (m+3) (by omega);have f0:=frozen_of_row wr w3.heap.size m _ 68 HI.out
 have f1:=frozen_of_row wr w3.heap.size (m+1) _ 68 HI.out;have f2:=frozen_of_row wr w3.heap.size (m+2) _ 68 HI.out;have f3:=frozen_of_row wr w3.heap.size (m+3) _ 68 HI.out;clear cc;go_wp2;go_roundg (5-(j+1));case measure=>omega
 case rel =>
 refine⟨j+1,by omega,rfl,by go_num,hid ?_,hid ?_,Ak _ _ _ _ (by omega) HB.out⟩
 ·have e16:x / 16777216=x / 16777216 % 256:=by omega
  rw[out4 s5 j hlt,<-HM.out,<-HSL.out,<-HX.out,<-e16];exact set4 _ _ _ _ HI.out
 rw[Aj _ _ _ _ (by omega)];exact HR.out
def N43:Array Value:=(row .u32 WK.l++row .u8 (WqV 64 0)++([.int .u64 0] : List Value)).toArray
theorem zkQ {w:World} {g:Nat} (h:w.heap[g]? = some (.cells N43 183 (0,0))):Dig w g []:=by
 have hlt:g<w.heap.size:=by
  rcases WzW g w.heap.size with h' | h'
  ·exact h'
  rw[Array.getElem?_eq_none h'] at h;cases h
 have c:∀ i,w.cell? ⟨g,i,none⟩=N43[i]? := fun i=>cell_of_row w g i _ 183 _ h;refine⟨hlt,fun i hi=>?_,⟨WqV 64 0,by simp,?_,fun i hi=>?_,fun i hi=>by simp at hi⟩,by rw[c];rfl,fun i=>frozen_of_row w g i _ 183 h⟩
 ·rw[c];match i,hi with
  | 0,_=>rfl
  | 1,_=>rfl
  | 2,_=>rfl
  | 3,_=>rfl
  | 4,_=>rfl
 ·intro x hx;rw[List.mem_replicate] at hx;omega
 rw[c];have e:N43[5+i]? = (row .u8 (WqV 64 0))[i]? := by
  simp only[N43,List.getElem?_toArray];rw[List.getElem?_append_left (by rw[Wz6,zu,zu];simp[S5.l,WK];omega),List.getElem?_append_right (by rw[zu];simp[S5.l,WK])];congr 1;rw[zu];simp[S5.l,WK]
 rw[e,vz .u8 _ i (by simpa using hi)]
theorem zkX (w:World):Calls prog 64 #[] w fun e w'=>e=.returned (.pointer (some ⟨w.heap.size,0,none⟩))/\w'=w.alloc (.cells N43 183):=by
 obtain⟨z43,HZ43⟩:=nn_ Z43;have hz43:=zxQ;rw[<-HZ43.out] at hz43;have hsz:z43.size=70:=by rw[HZ43.out];rfl
 have HE:Hid (((((z43.setIfInBounds 0 (.int .u32 1732584193)).setIfInBounds 1 (.int .u32 4023233417)).setIfInBounds 2 (.int .u32 2562383102)).setIfInBounds 3 (.int .u32 271733878)).setIfInBounds 4 (.int .u32 3285377520)=N43):=hid (by rw[HZ43.out];rfl);go_enter func64,ntmps64;go_wp2;go_ret;refine⟨rfl,?_⟩;rw[<-HE.out]
theorem sum6 (a:Option Addr) (cap:Nat) (zs:List Int) (w:World) (hl:zs.length<=300000) (hz:IsB zs) (hc:0<zs.length->∃ b off,a=some ⟨b,off,none⟩/\b<w.heap.size/\At w b off zs/\zs.length<=cap) :
  Calls prog 40 #[.slice a zs.length cap] w fun e w'=>e=.returned (.agg (row .u8 (sha zs)).toArray)/\Below w.heap.size w w':=by
 obtain⟨zr,HZ⟩:=nn_ ((row .u8 z20).toArray);have hz25:=XK;rw[<-HZ.out] at hz25;obtain⟨fr,HE⟩:=nn_ (sha zs);have hfl:fr.length=20:=by rw[HE.out];exact kV _
 have hi25:(prog.info? 68).map (·.size)=some (row .u8 fr).length:=by rw[zu,hfl];exact size68
 have T2:Hid ((prog.info? 68).map (·.size)=some (row .u8 fr).toArray.size):=hid (by rw[qK,hfl];exact size68);have T3:Hid ((row .u8 fr).toArray.all (·.oneCell')=true):=all_oneCell_toArray (row_one _ _);obtain⟨w0,HW0⟩:=nn_ (w.alloc (.cells zr 68));have hs0:w0.heap.size=w.heap.size+1:=by rw[HW0.out];simp
 have HR0:Hid (w0.heap[w.heap.size]? = some (.cells (row .u8 z20).toArray 68 (0,0))):=hid (by rw[HW0.out,HZ.out];exact heap_alloc_new w _);have HB0:Hid (Below w.heap.size w w0):=hid (by rw[HW0.out];exact(Below.refl _ w).alloc (WzV _) _);replace hs0:=hid hs0;go_enter func40,ntmps40;go_wp2_with fail
 rw[<-HW0.out];refine(zkX w0).mono ?_;rintro e w1 ⟨rfl,hw1⟩;have HD1:Dig w1 w0.heap.size []:=zkQ (by rw[hw1];exact heap_alloc_new w0 _);have HX1:Hid (Below w0.heap.size w0 w1):=hid (by rw[hw1];exact(Below.refl _ w0).alloc (WzV _) _);clear hw1;rw[hs0.out] at HD1;have HX1':Hid (Below (w.heap.size+1) w0 w1):=hid (by rw[<-hs0.out];exact HX1.out);rw[hs0.out]
 go_wp2_with fail
 refine(JX (w.heap.size+1) [] a cap zs w1 HD1 (by simp;omega) (fun x hx=>by cases hx) hz (fun h=>by
  obtain⟨b,off,h1,h2,h3,h4⟩:=hc h;exact⟨b,off,h1,by have:=HX1'.out.size;have:=hs0.out;omega,by omega,fun i hi=>(HX1'.out.cell (p:=⟨b,off+i,none⟩) (by show b<_;omega)).trans ((HB0.out.cell (p:=⟨b,off+i,none⟩) h2).trans (h3 i hi)),h4⟩)).mono ?_
 rintro e w2 ⟨rfl,hD2,hg2⟩;rw[List.nil_append] at hD2;have hsz1:=HX1'.out.size;have hsz2:=hg2.size;have HB2:Hid (Below w.heap.size w w2):=(HB0.out.trans (HX1'.out.mono (by omega))).grown hg2 (by have:=hs0.out;omega) (fun k hk=>by simp at hk;omega)
 have HR2:Hid (w2.heap[w.heap.size]? = some (.cells (row .u8 z20).toArray 68 (0,0))):=(hg2.block _ (by have:=hs0.out;omega) (by simp)).trans ((HX1'.out.block _ (by omega)).trans HR0.out);have hw2:w.heap.size<w2.heap.size:=by have:=hs0.out;omega
 replace hg2:=hid hg2;replace hD2:=hid hD2;go_wp2_with fail
 refine(zkZ (w.heap.size+1) zs w2 hD2.out (by omega) hz).mono ?_;rintro e w3 ⟨rfl,hb3⟩;have HB3:Hid (Below w.heap.size w w3):=HB2.out.trans (hb3.mono (by omega));have HR3:Hid (w3.heap[w.heap.size]? = some (.cells (row .u8 z20).toArray 68 (0,0))):=(hb3.block _ hw2).trans HR2.out
 have T1:Hid (w3.there w.heap.size 0 (row .u8 fr).toArray.size):=hid (by rw[qK,hfl];exact qq HR3.out rfl);have T4:Hid (w3.there w.heap.size 0 (row .u8 fr).length):=hid (by rw[zu,hfl];exact qq HR3.out rfl);rw[<-HE.out];go_wp2_with (refine wpList_store_mid rfl 68 _ _ rfl w.heap.size 0 (row .u8 fr).toArray rfl rfl T1.out T2.out T3.out ?_)
 exact bodyPost_ret (v:=.agg (row .u8 fr).toArray) (y6 Tryz.results40 _ _ w.heap.size _ _ rfl (World.rangeAt_setCells_same w3 w.heap.size 0 _ T4.out) underlying68 rfl hi25) rfl ⟨by rw[HE.out],below_setCells (WzV _) _ _ _ _ HB3.out⟩
structure L2 (b:Nat) (x y:ByteArray) (W:World):Prop where
 lt:b<W.heap.size
 c0:W.cell? ⟨b,0,none⟩=some (.string x)
 c1:W.cell? ⟨b,1,none⟩=some (.string y)
theorem L2.below {b:Nat} {x y:ByteArray} {W W':World} (h:L2 b x y W) (hb:Below W.heap.size W W'):L2 b x y W' :=
 ⟨Nat.lt_of_lt_of_le h.lt hb.size,(hb.cell (p:=⟨b,0,none⟩) h.lt).trans h.c0,(hb.cell (p:=⟨b,1,none⟩) h.lt).trans h.c1⟩
theorem uw {P:Program} {fn:Func} {p q:Tmp} {ty:TypeId} (h:fn.results=#[.cell p ty,.tmp q]) (tmps:Array Value) (w:World) (g:Nat) (cs:List Value) (d:TypeDesc)
  (hp:tmps.getD p undef=.pointer (some ⟨g,0,none⟩)) (hc:w.rangeAt g 0 cs) (hu:P.underlying ty=some d) (hd:d.isRow=true) (hi:(P.info? ty).map (·.size)=some cs.length) :
  (results fn tmps).run P w=.ok (.tuple #[.agg cs.toArray,tmps.getD q undef]) w:=by
 have hp':tmps[p]?.getD undef=.pointer (some ⟨g,0,none⟩):=by simpa using hp
 simp[results,h,hp',asAddr,run_loadVar_mid w g 0 ty cs d hc hu hd hi]
theorem results34:f34.results=#[.cell 2 68,.tmp 3]:=by kernel_rfl
def idZ (k:Int) (zs:List Int):List Int:=if vw k zs.length=0 then sha (encZ k zs) else z20
theorem X7 (k:Int) (zs:List Int):(idZ k zs).length=20:=by
 unfold idZ;split
 ·exact kV _
 rfl
def zxX (n:Int):Value:=if n=0 then .nilIface else .iface 42 (.int .i64 n)
theorem Dq (k:Int) (zs:List Int) (hl:zs.length<=300000):(encZ k zs).length<=zs.length+14:=by
 have:=Lq k zs.length (by omega);unfold encZ hd;rw[Wz6,xk,Wz6,List.length_singleton];omega
theorem Dx (k:Int) (zs:List Int) (h:IsB zs):IsB (encZ k zs):=by
 intro x hx;rcases List.mem_append.1 hx with hx | hx
 ·exact zxv _ x hx
 exact h x hx
theorem qx3 (k:Int) (a:Option Addr) (cap:Nat) (zs:List Int) (w:World) (ht:Tab w) (hl:zs.length<=300000) (hz:IsB zs) (hS:Sl w a cap zs) :
  Calls prog 34 #[.agg #[.int .i64 k,.slice a zs.length cap]] w fun e w'=>e=.returned (.tuple #[.agg (row .u8 (idZ k zs)).toArray,zxX (vw k zs.length)])/\Below w.heap.size w w':=by
 obtain⟨zr,HZ⟩:=nn_ ((row .u8 z20).toArray);have hz25:=XK;rw[<-HZ.out] at hz25;obtain⟨n,HN⟩:=nm_ zs.length;obtain⟨fr,HE⟩:=nn_ (idZ k zs);have hfl:fr.length=20:=by rw[HE.out];exact X7 _ _
 have hi25:(prog.info? 68).map (·.size)=some (row .u8 fr).length:=by rw[zu,hfl];exact size68
 have T2:Hid ((prog.info? 68).map (·.size)=some (row .u8 fr).toArray.size):=hid (by rw[qK,hfl];exact size68);have T3:Hid ((row .u8 fr).toArray.all (·.oneCell')=true):=all_oneCell_toArray (row_one _ _);obtain⟨G,HG⟩:=nm_ w.heap.size;obtain⟨w0,HW0⟩:=nm_ ((w.alloc (.cells #[.int .i64 k,.slice a n cap] 27)).alloc (.cells zr 68))
 have hs0:w0.heap.size=G+2:=by rw[<-HW0.out,<-HG.out];simp
 have hc0:w0.cell? ⟨G,0,none⟩=some (.int .i64 k):=by rw[<-HW0.out,<-HG.out];simp
 have hc1:w0.cell? ⟨G,1,none⟩=some (.slice a n cap):=by rw[<-HW0.out,<-HG.out];simp
 have HR0:Hid (w0.heap[G+1]? = some (.cells (row .u8 z20).toArray 68 (0,0))):=hid (by
  have:=heap_alloc_new (w.alloc (.cells #[.int .i64 k,.slice a n cap] 27)) (.cells zr 68);rw[HW0.out,HZ.out] at this;rw[<-HG.out];simpa using this)
 have HB0:Hid (Below G w w0):=hid (by rw[<-HW0.out,<-HG.out];exact((Below.refl _ w).alloc (WzV _) _).alloc (by simp) _);have HEN:Hid (Calls prog 57 #[.agg #[.int .i64 k,.slice a n cap]] w0 (qqw k zs w0)):=by
  rw[<-HN.out];exact Az k a cap zs w0 (ht.below (by rw[HG.out];exact HB0.out)) hl (hS.below (by rw[HG.out];exact HB0.out))
 replace hs0:=hid hs0;rw[HN.out];go_enter func34,ntmps34;go_wp2_with fail
 rw[HG.out,HW0.out];clear ht hS;have hl':Hid (zs.length<=300000):=hl;clear hl;refine HEN.out.mono ?_;rintro ev w1 ⟨hb1,⟨he,rfl⟩ | ⟨he,g,c1,rfl,h1,h2,h3,h4⟩⟩
 ·have hb1s:=hb1.size;rw[hs0.out] at hb1 hb1s;have HR1:Hid (w1.heap[G+1]? = some (.cells (row .u8 z20).toArray 68 (0,0))):=(hb1.block _ (by omega)).trans HR0.out;have HB1:Hid (Below G w w1):=HB0.out.trans (hb1.mono (by omega));obtain⟨er,HER⟩:=nn_ (vw k zs.length);have HV:Hid (zxX (vw k n)=.iface 42 (.int .i64 er)):=hid (by rw[<-HN.out,HER.out];unfold zxX;rw[if_neg he])
  rw[<-HER.out];have hfr:fr=z20:=by rw[HE.out];unfold idZ;rw[if_neg he]
  have T1:Hid (w1.there (G+1) 0 (row .u8 fr).toArray.size):=hid (by rw[qK,hfl];exact qq HR1.out rfl);have T4:Hid (w1.there (G+1) 0 (row .u8 fr).length):=hid (by rw[zu,hfl];exact qq HR1.out rfl);obtain rfl:zr=(row .u8 fr).toArray:=by rw[HZ.out,hfr]
  clear hb1 hfr he hc0 hc1;go_wp2_with (refine wpList_store_mid rfl 68 _ _ rfl (G+1) 0 (row .u8 fr).toArray rfl rfl T1.out T2.out T3.out ?_)
  exact bodyPost_ret (v:=.tuple #[.agg (row .u8 fr).toArray,.iface 42 (.int .i64 er)]) (uw results34 _ _ (G+1) _ _ rfl (World.rangeAt_setCells_same w1 (G+1) 0 _ T4.out) underlying68 rfl hi25) rfl ⟨by rw[HV.out,HE.out],by rw[HG.out];exact below_setCells (by omega) _ _ _ _ HB1.out⟩
 have hb1s:=hb1.size;rw[hs0.out] at hb1 hb1s h1;have HR1:Hid (w1.heap[G+1]? = some (.cells (row .u8 z20).toArray 68 (0,0))):=(hb1.block _ (by omega)).trans HR0.out;have HB1:Hid (Below G w w1):=HB0.out.trans (hb1.mono (by omega));have HV:Hid (zxX (vw k n)=.nilIface):=hid (by rw[<-HN.out];unfold zxX;rw[if_pos he])
 have hfr:Hid (fr=sha (encZ k zs)):=hid (by rw[HE.out];unfold idZ;rw[if_pos he]);have HSU:Hid (Calls prog 40 #[.slice (some ⟨g,0,none⟩) (encZ k zs).length c1] w1 fun e w'=>e=.returned (.agg (row .u8 (sha (encZ k zs))).toArray)/\Below w1.heap.size w1 w') :=
  sum6 (some ⟨g,0,none⟩) c1 (encZ k zs) w1 (by
   have:=Dq k zs hl'.out
   have:=(Lv k _ he).2
   omega) (Dx k zs hz) (fun _=>⟨g,0,rfl,h2,h3,h4⟩)
 obtain⟨L,HL⟩:=nn_ ((encZ k zs).length);rw[<-HL.out,<-hfr.out] at HSU;rw[<-HL.out];clear hb1 he hc0 hc1 h3 h4;go_wp2_with fail
 refine HSU.out.mono ?_;rintro ev w2 ⟨rfl,hb2⟩;have HR2:Hid (w2.heap[G+1]? = some (.cells (row .u8 z20).toArray 68 (0,0))):=(hb2.block _ (by omega)).trans HR1.out;have HB2:Hid (Below G w w2):=HB1.out.trans (hb2.mono (by omega));have T1:Hid (w2.there (G+1) 0 (row .u8 fr).toArray.size):=hid (by rw[qK,hfl];exact qq HR2.out rfl)
 have T4:Hid (w2.there (G+1) 0 (row .u8 fr).length):=hid (by rw[zu,hfl];exact qq HR2.out rfl);clear hb2;go_wp2_with (refine wpList_store_mid rfl 68 _ _ rfl (G+1) 0 (row .u8 fr).toArray rfl rfl T1.out T2.out T3.out ?_)
 exact bodyPost_ret (v:=.tuple #[.agg (row .u8 fr).toArray,.nilIface]) (uw results34 _ _ (G+1) _ _ rfl (World.rangeAt_setCells_same w2 (G+1) 0 _ T4.out) underlying68 rfl hi25) rfl ⟨by rw[HV.out,HE.out],by rw[HG.out];exact below_setCells (by omega) _ _ _ _ HB2.out⟩
end Go.Proofs.YtiaaekdpfpaigaaGreatDoor.Id
