import Derived.DeepKeys4
import Derived.RangeFuncNested
import Derived.RangeFuncBound
import Derived.RangeFuncCalls
import Derived.RangeFuncLeaves
import Derived.Shelf.Abstract
import Derived.Shelf.RegionOpen
import Derived.OwnWalkIn
import Derived.TacticsInMore
import Derived.Sort.LoopGhostIn
import Derived.Maps.OwnIn
import Derived.Great.BuildSlice
import Derived.Sort.Statements
import Derived.Lib.AppendStr
import Derived.Test.YtiaaekdpfpaigaaGreatDoorMn19
import Derived.Test.YtiaaekdpfpaigaaGreatDoorMn15
set_option linter.unusedSimpArgs false
set_option linter.unusedVariables false
set_option maxRecDepth 20000
set_option maxHeartbeats 4000000
open List renaming append_assoc->Wz1,length_append->Wz6,map_append->Wy4,map_cons->Wxj,map_nil->Wxk,map_toArray->Wxy,nil_append->Wzx,replicate->WqV
open Nat renaming le_refl->WzV,le_trans->Wqx,lt_of_lt_of_le->Wqj,lt_or_ge->WzW,zero_add->Wq7
open UInt8 renaming ofNat->Wxu
namespace Go.Proofs.YtiaaekdpfpaigaaGreatDoor.Id
open Go.Proofs.Tryz
open Go.RowKit
theorem zW {w:World} {B:Nat} {e:TypeId} {s:Nat} {v:Value} {n:Nat} {xs:List Value} (h:w.ownsRow B e s v n xs):∃ a cp,v=.slice a n cp:=by
 obtain⟨_,⟨rfl,rfl⟩ | ⟨g,cap,cur,rfl,_⟩⟩:=h
 ·exact⟨none,0,rfl⟩
 exact⟨_,cap,rfl⟩
theorem wpList_append_run {P:Program} {w:World} {ops:Array Oper} {rest:List Oper} {o:Oper} {a:Act} {Q:Exit->Act->World->Prop} (hgd:o.guard=none) (s x:Operand) (t:TypeId)
  (ho:o.op=.call { callee:=.builtin .append,args:=#[s,x],argTypes:=#[t,t] }) (sv xv v:Value) (w2:World) (hs:a.eval s=sv) (hx:a.eval x=xv) (hrun:(Builtin.append_ #[t,t] o.type #[sv,xv]).run P w=.ok v w2) (h:wpList P ops Q rest (a.put o.dst v) w2) :
  wpList P ops Q (o :: rest) a w :=
 wpList_plain hgd fun K hK=>by
 unfold Oper.wp execOp;simp only[ho,resolve,invoke,builtin,Sem.run_bind,Sem.run_pure,Result.andThen_ok,Wxy,Wxj,Wxk,hs,hx,hrun];exact hK _ _ h
theorem append_nil (cap:Nat) (w:World):(Builtin.append_ #[22,22] 22 #[.slice none 0 0,.slice none 0 cap]).run prog w=.ok (.slice none 0 0) w:=by kernel_rfl
theorem Lu (a:Option Addr) (cap:Nat) (zs:List Int) (w:World) (B:Nat) (hB:B<=w.heap.size) (hl:zs.length<=300000) (hc:0<zs.length->∃ b off,a=some ⟨b,off,none⟩/\At w b off zs) :
  ∃ w1 ao cp,(Builtin.append_ #[22,22] 22 #[.slice none 0 0,.slice a zs.length cap]).run prog w=.ok (.slice ao zs.length cp) w1/\w1.ownsRow B 5 1 (.slice ao zs.length cp) zs.length (row .u8 zs)/\w.grownBy w1 none:=by
 obtain⟨i5,hi,hz0,hz1,hz2⟩:=info_parts info5;cases a with
 | none =>
  have h0:zs.length=0:=by
   rcases Nat.eq_zero_or_pos zs.length with h | h
   ·exact h
   obtain⟨b,off,h1,-⟩:=hc h;cases h1
  obtain rfl:zs=[]:=List.eq_nil_of_length_eq_zero h0;exact⟨w,none,0,append_nil cap w,World.ownsRow_nil w B 5 1,World.grownBy.refl _ _⟩
 | some ad =>
  obtain⟨v',w',hr,h2,h3,-,-⟩:=run_append_own_at (P:=prog) w B 22 22 5 i5 (.int .u8 0) 1 1 underlying22 hi hz0 hz1 hz2 rfl (by omega) (.slice none 0 0) 0 [] (World.ownsRow_nil w B 5 1) ad zs.length cap (row .u8 zs) (by rw[zu];omega)
   (fun j u hj=>by
    have hjm:j<zs.length:=by rcases WzW j zs.length with h | h;exact h;rw[List.getElem?_eq_none (by rw[zu];exact h)] at hj;cases hj
    obtain⟨b,off,h1,hat⟩:=hc (by omega)
    cases h1
    rw[vz .u8 zs j hjm] at hj
    cases hj
    rw[addr_add];exact hat j hjm) (row_one _ _) (by unfold maxLen;omega) (by omega) hB
  rw[Wq7,Wzx] at h2;obtain⟨ao,cp,rfl⟩:=zW h2;exact⟨w',ao,cp,hr,h2,h3⟩
theorem zz9 (b L cp m:Nat) (w:World) (h1:m+64<=L) (h2:L<=cp):(Instr.slice 22 (.slice (some ⟨b,0,none⟩) L cp) (some (.int .i64 m)) (some (.int .i64 ((m:Int)+64))) none).run prog w=.ok (.slice (some ⟨b,m,none⟩) 64 (cp-m:Nat)) w:=by
 rw[run_slice_lh w 22 _ L cp qqv .i64 .i64 m ((m:Int)+64) (by omega) (by omega) (by omega),FW];simp only[Result.andThen_ok,sliced];rw[if_neg (by omega)];simp[addr_add];omega
theorem Dj (n j:Nat) (h:j<=vq n):((n+1+j) % 64=56) ↔ j=vq n:=by unfold vq at *;omega
theorem zkJ (a:Option Addr) (cap:Nat) (zs:List Int) (w:World) (hl:zs.length<=300000) (hz:IsB zs) (hc:0<zs.length->∃ b off,a=some ⟨b,off,none⟩/\b<w.heap.size/\At w b off zs) :
  Calls prog 25 #[.slice a zs.length cap] w fun e w'=>e=.returned (.agg (row .u8 (sha zs)).toArray)/\Below w.heap.size w w':=by
 obtain⟨i5,hi,hz0,hz1,hz2⟩:=info_parts info5;obtain⟨zr,HZ⟩:=nn_ ((row .u8 z20).toArray);have hz24:=qx1;rw[<-HZ.out] at hz24;obtain⟨wA,HWA⟩:=nn_ (w.alloc (.cells zr 47));have hsA:wA.heap.size=w.heap.size+1:=by rw[HWA.out];simp
 have HRA:Hid (wA.heap[w.heap.size]? = some (.cells (row .u8 z20).toArray 47 (0,0))):=hid (by rw[HWA.out,HZ.out];exact heap_alloc_new w _);have HBA:Hid (Below w.heap.size w wA):=hid (by rw[HWA.out];exact(Below.refl _ w).alloc (WzV _) _)
 obtain⟨w1,ao,cp,hrun,hown,hgrow⟩:=Lu a cap zs wA (w.heap.size+1) (by omega) hl (fun h=>by obtain⟨b,off,h1,h2,h3⟩:=hc h;exact⟨b,off,h1,fun i hi=>(HBA.out.cell (p:=⟨b,off+i,none⟩) h2).trans (h3 i hi)⟩);obtain⟨n,HN⟩:=nn_ zs.length;rw[<-HN.out] at hrun hown hl ⊢;have hg1:=hgrow.size
 have HR1:Hid (w1.heap[w.heap.size]? = some (.cells (row .u8 z20).toArray 47 (0,0))):=(hgrow.block _ (by omega) (by simp)).trans HRA.out;have HB1:Hid (Below w.heap.size w w1):=HBA.out.grown hgrow (by omega) (fun k hk=>by cases hk);have hz1s:w.heap.size+1<=w1.heap.size:=by omega
 rw[HWA.out] at hrun;clear hgrow hg1 HRA HBA hsA HWA;go_enter func25,ntmps25;go_wp2_with (first
  | refine wpList_append_run rfl _ _ 22 rfl (.slice none 0 0) (.slice a n cap) _ _ rfl rfl hrun ?_
  | (refine wpList_append_lies _ rfl _ _ _ rfl (w.heap.size+1) 5 i5 (.int .u8 0) 1 1 underlying22 hi hz0 hz1 hz2 rfl (by omega) (.slice ao n cp) n (row .u8 zs) rfl (by exact hown.alloc _) ⟨w1.heap.size,0,none⟩ 1 1 [.int .u8 128] rfl rfl (by intro j u hj;match j,hj with | 0,hj=>simp at hj;subst hj;simp[Addr.add]) (by intro u hu;simp at hu;subst hu;rfl) (by omega) (by unfold maxLen;omega) (by omega) (by simp;omega) (w1.heap.size+1) (by simp) ?_;intro g2 cp2 w2 hown2 hgrow2 hat2 hlt2))
 have HX2:Hid (Below (w.heap.size+1) w1 w2):=uW (Below.refl _ _) hz1s (World.grownBy_alloc w1 _ none) hgrow2 (fun k hk=>(zJ hown k hk).1);have HO2:Hid (w2.ownsRow (w.heap.size+1) 5 1 (.slice (some ⟨g2,0,none⟩) (n+1+0:Nat) cp2) (n+1+0) (row .u8 (zs++[128]))):=hid (by rw[YZ];exact hown2);clear hown2 hgrow2 hat2 hown hrun;have hp63:=Lx n
 go_loopg [3] (vq n) (fun g s wr=>∃ (j gb cp:Nat) (ls:List Int),j<=vq n/\g=vq n-j/\s=.slice (some ⟨gb,0,none⟩) (n+1+j:Nat) cp/\Hid (ls=zs++128 :: WqV j 0)/\wr.ownsRow (w.heap.size+1) 5 1 (.slice (some ⟨gb,0,none⟩) (n+1+j:Nat) cp) (n+1+j) (row .u8 ls)/\Hid (Below (w.heap.size+1) w1 wr));case atStart=>exact⟨0,g2,cp2,zs++[128],by omega,rfl,rfl,rfl,HO2.out,HX2⟩
 clear HO2 HX2 hlt2;obtain⟨j,gb,cp,ls,hj,hk,rfl,HLs,hown,HB⟩:=hrel;by_cases hlt:j<vq n
 ·have hc:((n:Int)+1+j) % 64 ≠ 56:=by have:=Dj n j hj;omega
  go_wp2_with (refine wpList_append_lies _ rfl _ _ _ rfl (w.heap.size+1) 5 i5 (.int .u8 0) 1 1 underlying22 hi hz0 hz1 hz2 rfl (by omega) (.slice (some ⟨gb,0,none⟩) (n+1+j:Nat) cp) (n+1+j) (row .u8 ls) rfl (by exact hown.alloc _) ⟨wr.heap.size,0,none⟩ 1 1 [.int .u8 0] rfl rfl (by intro j u hj;match j,hj with | 0,hj=>simp at hj;subst hj;simp[Addr.add]) (by intro u hu;simp at hu;subst hu;rfl) (by omega) (by unfold maxLen;omega) (by omega) (by have:=HB.out.size;simp;omega) (wr.heap.size+1) (by simp) ?_;intro g2 cp2 w3 hown1 hgrow hat hlt2)
  have HB2:Hid (Below (w.heap.size+1) w1 w3):=uW HB.out hz1s (World.grownBy_alloc wr _ none) hgrow (fun k hk=>(zJ hown k hk).1);have HO:Hid (w3.ownsRow (w.heap.size+1) 5 1 (.slice (some ⟨g2,0,none⟩) (n+1+j+1:Nat) cp2) (n+1+j+1) (row .u8 (ls++[0]))):=hid (by rw[YZ];exact hown1);clear hown1 hgrow hat hown hlt2;go_wp2;go_roundg (vq n-(j+1));case measure=>omega
  case rel=>exact⟨j+1,g2,cp2,ls++[0],by omega,rfl,rfl,hid (by rw[HLs.out,List.replicate_succ',Wz1,List.cons_append]),HO.out,HB2⟩
 obtain rfl:j=vq n:=by omega
 have hc0:(n+1+vq n) % 64=56:=(Dj n (vq n) (WzV _)).2 rfl;obtain⟨q,HQ⟩:=nn_ (n+1+vq n);have hq64:q<=n+64:=by have:=HQ.out;omega
 rw[<-HQ.out] at hown;have hc2:(q:Int) % 64=56:=by have:=HQ.out;omega
 rw[<-HQ.out];have HLq:Hid (ls=zs++128 :: WqV (vq n) 0):=HLs.out;clear hlt hj hk hc0;go_wp2;clear hc2
 go_loopg [3,5] 8 (fun g s i wr=>∃ (j gb cp:Nat) (ls:List Int),j<=8/\g=8-j/\i=.int .i64 (7-(j:Int))/\s=.slice (some ⟨gb,0,none⟩) (q+j:Nat) cp/\Hid (ls=zs++(128 :: WqV (vq n) 0++(List.range j).map (be8 (8*n))))/\wr.ownsRow (w.heap.size+1) 5 1 (.slice (some ⟨gb,0,none⟩) (q+j:Nat) cp) (q+j) (row .u8 ls)/\Hid (Below (w.heap.size+1) w1 wr))
 case atStart=>exact⟨0,gb,cp,ls,by omega,rfl,rfl,rfl,hid (by rw[HLq.out];simp),hown,HB⟩
 case round =>
 clear hown HB;obtain⟨j,gb,cp,ls,hj,hk,rfl,rfl,HLs,hown,HB⟩:=hrel;by_cases hlt:j<8
 ·obtain⟨x,HX⟩:=nn_ (be8 (8*n) j);obtain⟨k,HK⟩:=nn_ (7-j:Nat);have hk7:(7:Int)-j=(k:Int):=by have:=HK.out;omega
  have hk8:k<=7:=by have:=HK.out;omega
  rw[hk7];have hx:(n:Int)*8 / 2 ^ (8*k) % 256=x:=by rw[HX.out,HK.out];unfold be8;rw[Int.natCast_emod,Int.natCast_ediv,Int.natCast_mul,Int.natCast_pow,Int.mul_comm];rfl
  go_wp2_with (refine wpList_append_lies _ rfl _ _ _ rfl (w.heap.size+1) 5 i5 (.int .u8 0) 1 1 underlying22 hi hz0 hz1 hz2 rfl (by omega) (.slice (some ⟨gb,0,none⟩) (q+j:Nat) cp) (q+j) (row .u8 ls) rfl (by exact hown.alloc _) ⟨wr.heap.size,0,none⟩ 1 1 [.int .u8 x] rfl rfl (by intro j u hj;match j,hj with | 0,hj=>simp at hj;subst hj;simp[Addr.add]) (by intro u hu;simp at hu;subst hu;rfl) (by omega) (by unfold maxLen;omega) (by omega) (by have:=HB.out.size;simp;omega) (wr.heap.size+1) (by simp) ?_;intro g2 cp2 w3 hown1 hgrow hat hlt2)
  have HB2:Hid (Below (w.heap.size+1) w1 w3):=uW HB.out hz1s (World.grownBy_alloc wr _ none) hgrow (fun k hk=>(zJ hown k hk).1);have HO:Hid (w3.ownsRow (w.heap.size+1) 5 1 (.slice (some ⟨g2,0,none⟩) (q+j+1:Nat) cp2) (q+j+1) (row .u8 (ls++[x]))):=hid (by rw[YZ];exact hown1);clear hown1 hgrow hat hown hx hlt2;go_wp2;go_roundg (8-(j+1));case measure=>omega
  case rel=>exact⟨j+1,g2,cp2,ls++[x],by omega,rfl,by have:=HK.out;go_num,rfl,hid (by rw[HLs.out,HX.out,List.range_succ,Wy4,Wz1,Wz1];rfl),HO.out,HB2⟩
 obtain rfl:j=8:=by omega
 have HE:Hid (ls=zs++jk n):=hid (by rw[HLs.out];rfl);obtain⟨T,HT⟩:=nn_ (q+8);have hTl:ls.length=T:=by rw[HE.out,Wz6,X6,<-HN.out];have:=HT.out;have:=HQ.out;omega
 have hT64:T % 64=0:=by have:=zkk n;rw[<-hTl,HE.out,Wz6,<-HN.out];exact this
 have hTb:T<=300200:=by have:=HT.out;omega
 have hlsb:IsB ls:=by rw[HE.out];exact hz.app (T7 n)
 rw[<-HT.out] at hown;rw[<-HT.out];have hcpT:T<=cp:=by
  rcases hown.2 with ⟨_,h0⟩ | ⟨g,cap,cur,hv,_,_,h1,_⟩
  ·have:=HT.out;omega
  simp only[Value.slice.injEq] at hv;omega
 have hgbl:=zJ hown gb rfl;have HAt:Hid (∀ i,i<T->wr.cell? ⟨gb,i,none⟩=some (.int .u8 (ls.getD i 0))):=fun i hi=>by rw[hown.cellAt i (by omega),vz .u8 ls i (by omega)]
 have HRB:Hid (wr.heap[w.heap.size]? = some (.cells (row .u8 z20).toArray 47 (0,0))):=(HB.out.block _ (by omega)).trans HR1.out;have HBB:Hid (Below w.heap.size w wr):=HB1.out.trans (HB.out.mono (by omega));obtain⟨wB,rfl⟩:∃ wB,wB=wr:=⟨_,rfl⟩;have hzB:w.heap.size+1<=wB.heap.size:=by have:=HB.out.size;omega
 have HTh:Hid ((wB.alloc (.cells #[.int .u32 0,.int .u32 0,.int .u32 0,.int .u32 0,.int .u32 0] 124)).there wB.heap.size 0 5):=x9 (heap_alloc_new wB _) rfl
 obtain⟨w5,HW5⟩:=nn_ ((wB.alloc (.cells #[.int .u32 0,.int .u32 0,.int .u32 0,.int .u32 0,.int .u32 0] 124)).setCells wB.heap.size 0 (#[.int .u32 1732584193,.int .u32 4023233417,.int .u32 2562383102,.int .u32 271733878,.int .u32 3285377520] : Array Value).toList)
 have H9:Hid (w5.heap[wB.heap.size]? = some (.cells #[.int .u32 1732584193,.int .u32 4023233417,.int .u32 2562383102,.int .u32 271733878,.int .u32 3285377520] 124 (0,0))):=hid (by rw[HW5.out];exact Uz _ _ _ _ _ _ _ _ _ _ _ _ _ (heap_alloc_new wB _))
 have HX5:Hid (Below wB.heap.size wB w5):=hid (by rw[HW5.out];exact below_setCells (WzV _) _ _ _ _ ((Below.refl _ _).alloc (WzV _) _));have hz5:wB.heap.size<w5.heap.size:=by rw[HW5.out,size_setCells];simp
 replace hown:=hid hown;replace hTl:=hid hTl;obtain⟨NB,HNB⟩:=nn_ (T / 64);have hNB:Hid (T=64*NB):=hid (by have:=HNB.out;omega);clear hj hk hlt;go_wp2_with (refine wpList_store_mid rfl 124 _ _ rfl wB.heap.size 0 _ rfl rfl HTh.out size124 (by simp[Value.oneCell']) ?_;rw[<-HW5.out])
 go_loopg [7] NB (fun g i wr=>∃ (k:Nat) (s:S5),k<=NB/\g=NB-k/\i=.int .i64 (64*k:Nat)/\Hid (s=ab ls k)/\Hid (wr.heap[wB.heap.size]? = some (.cells #[.int .u32 s.a,.int .u32 s.b,.int .u32 s.c,.int .u32 s.d,.int .u32 s.e] 124 (0,0)))/\Hid (Below wB.heap.size wB wr)/\wB.heap.size<wr.heap.size);case atStart=>exact⟨0,WK,by omega,rfl,rfl,rfl,H9,HX5,hz5⟩
 case round =>
 clear H9 HX5 hz5;obtain⟨k,⟨a0,b0,c0,d0,e0⟩,hk,hg,rfl,HSt,HR,HBr,hzr⟩:=hrel;obtain⟨p,HP⟩:=nn_ (64*k);rw[<-HP.out];by_cases hlt:k<NB
 ·have hpT:(p:Int)<T:=by have:=HP.out;have:=hNB.out;omega
  have hp64:p+64<=T:=by have:=HP.out;have:=hNB.out;omega
  obtain⟨q0,q1,q2,q3,q4⟩:=Vw HR.out;obtain⟨ck,HCK⟩:=nn_ ((ls.drop (64*k)).take 64);have hckl:ck.length=64:=by rw[HCK.out,List.length_take,List.length_drop,hTl.out];have:=HP.out;omega
  have hckb:IsB ck:=by rw[HCK.out];exact(hlsb.drop _).take _
  have hat:At wr gb p ck:=fun i hi=>by
   have e:ck.getD i 0=ls.getD (p+i) 0:=(by rw[HCK.out,List.getD_eq_getElem?_getD,List.getElem?_take,if_pos (by omega),List.getElem?_drop,<-List.getD_eq_getElem?_getD,HP.out]);rw[e];exact(HBr.out.cell (p:=⟨gb,p+i,none⟩) hgbl.2).trans (HAt.out _ (by omega))
  have hwp:IntKind.i64.wrap ((p:Int)+64)=(p:Int)+64:=by rw[IntKind.wrap_i64];omega
  have hsl:=fun w=>zz9 gb T cp p w hp64 hcpT;obtain⟨cpx,HCX⟩:=nn_ (cp-p);rw[<-HCX.out] at hsl;obtain⟨s1,HS1⟩:=nn_ (U9 ⟨a0,b0,c0,d0,e0⟩ ck);have hblk:=fun w1 (h:At w1 gb p ck) (h2:gb<w1.heap.size)=>zz8 ⟨a0,b0,c0,d0,e0⟩ gb p cpx ck w1 (by rw[HSt.out];exact FV _ _) hckl hckb h h2;rw[<-HS1.out] at hblk;obtain⟨x0,x1,x2,x3,x4⟩:=s1
  have hblk':∀ w1,At w1 gb p ck->gb<w1.heap.size->Calls prog 52 #[.agg #[.int .u32 a0,.int .u32 b0,.int .u32 c0,.int .u32 d0,.int .u32 e0],.slice (some ⟨gb,p,none⟩) 64 cpx] w1 fun e w'=>e=.returned (.agg #[.int .u32 x0,.int .u32 x1,.int .u32 x2,.int .u32 x3,.int .u32 x4])/\Below w1.heap.size w1 w':=hblk;clear hblk;have hgz:gb<wr.heap.size:=by omega
  replace hckl:=hid hckl;go_wp2
  go_region_with (go_at_call 52;refine(hblk' _ (by exact hat) (by exact hgz)).mono ?_;rintro e w6 ⟨rfl,hb6⟩;have H6:=hid ((hb6.block wB.heap.size hzr).trans HR.out);obtain⟨y0,y1,y2,y3,y4⟩:=Vw H6.out;have g0:=frozen_of_row w6 wB.heap.size 0 _ 124 H6.out;have g1:=frozen_of_row w6 wB.heap.size 1 _ 124 H6.out;have g2:=frozen_of_row w6 wB.heap.size 2 _ 124 H6.out;have g3:=frozen_of_row w6 wB.heap.size 3 _ 124 H6.out;have g4:=frozen_of_row w6 wB.heap.size 4 _ 124 H6.out;replace hb6:=hid hb6)
  have HF6:Hid ((((((w6.setCell ⟨wB.heap.size,0,none⟩ (.int .u32 x0)).setCell ⟨wB.heap.size,1,none⟩ (.int .u32 x1)).setCell ⟨wB.heap.size,2,none⟩ (.int .u32 x2)).setCell ⟨wB.heap.size,3,none⟩ (.int .u32 x3)).setCell ⟨wB.heap.size,4,none⟩ (.int .u32 x4)).heap[wB.heap.size]? = some (.cells #[.int .u32 x0,.int .u32 x1,.int .u32 x2,.int .u32 x3,.int .u32 x4] 124 (0,0))):=Uz w6 wB.heap.size 124 _ _ _ _ _ _ _ _ _ _ H6.out
  have HG6:Hid (Below wB.heap.size wB (((((w6.setCell ⟨wB.heap.size,0,none⟩ (.int .u32 x0)).setCell ⟨wB.heap.size,1,none⟩ (.int .u32 x1)).setCell ⟨wB.heap.size,2,none⟩ (.int .u32 x2)).setCell ⟨wB.heap.size,3,none⟩ (.int .u32 x3)).setCell ⟨wB.heap.size,4,none⟩ (.int .u32 x4))):=below_setCells (WzV _) [.int .u32 x0,.int .u32 x1,.int .u32 x2,.int .u32 x3,.int .u32 x4] 0 _ _ (HBr.out.trans (Below.mono (show Below wr.heap.size wr w6 from ⟨hb6.out.os,hb6.out.tape,hb6.out.output,hb6.out.size,hb6.out.block⟩) (by omega)))
  have hz6:wB.heap.size<w6.heap.size:=Wqj hzr hb6.out.size;clear y0 y1 y2 y3 y4 g0 g1 g2 g3 g4 q0 q1 q2 q3 q4 hsl hwp hblk' hat
  go_wp2;go_roundg (NB-(k+1));case measure=>omega
  case rel=>exact⟨k+1,⟨x0,x1,x2,x3,x4⟩,by omega,rfl,by have:=HP.out;go_num,hid (by rw[HS1.out,HSt.out,HCK.out];rfl),HF6,HG6,by simpa [World.setCell] using hz6⟩
 obtain rfl:k=NB:=by omega
 have hpT:p=T:=by have:=HP.out;have:=hNB.out;omega
 subst hpT;obtain⟨s5,HS5⟩:=nn_ (⟨a0,b0,c0,d0,e0⟩:S5);have HSH:Hid (sha zs=xV s5 20):=hid (by unfold sha;rw[HS5.out,HSt.out,<-HN.out,<-HE.out,hTl.out,<-HNB.out]);have hok:S5.ok s5:=by rw[HS5.out,HSt.out];exact FV _ _
 obtain⟨sl,HSL⟩:=nn_ s5.l;have hsll:sl.length=5:=by rw[HSL.out];rfl
 have hslw:IsW sl:=by rw[HSL.out];exact zxZ s5 hok
 have HH:Hid (wr.heap[wB.heap.size]? = some (.cells (row .u32 sl).toArray 124 (0,0))):=hid (by rw[HSL.out,HS5.out];exact HR.out);have HRr:Hid (wr.heap[w.heap.size]? = some (.cells (row .u8 z20).toArray 47 (0,0))):=(HBr.out.block _ (by omega)).trans HRB.out;have HBw:Hid (Below w.heap.size w wr):=HBB.out.trans (HBr.out.mono (by omega));obtain⟨wC,rfl⟩:∃ wC,wC=wr:=⟨_,rfl⟩
 have HI3:Hid ((wC.alloc (.cells zr 47)).heap[wC.heap.size]? = some (.cells (row .u8 (xV s5 (4*0))).toArray 47 (0,0))):=hid (by rw[WV,<-HZ.out];exact heap_alloc_new wC _);have HR4:Hid ((wC.alloc (.cells zr 47)).heap[w.heap.size]? = some (.cells (row .u8 z20).toArray 47 (0,0))):=hid (by rw[Below.heap_alloc _ _ _ (by omega)];exact HRr.out)
 have HH4:Hid ((wC.alloc (.cells zr 47)).heap[wB.heap.size]? = some (.cells (row .u32 sl).toArray 124 (0,0))):=hid (by rw[Below.heap_alloc _ _ _ (by omega)];exact HH.out);have HB4:Hid (Below w.heap.size w (wC.alloc (.cells zr 47))):=HBw.out.alloc (by omega) _;have hwC:w.heap.size<wB.heap.size:=by omega
 clear HR HRr HH HBw;go_wp2;go_loopg [9] 5 (fun g i wr=>∃ j:Nat,j<=5/\g=5-j/\i=.int .i64 j/\Hid (wr.heap[wC.heap.size]? = some (.cells (row .u8 (xV s5 (4*j))).toArray 47 (0,0)))/\Hid (wr.heap[w.heap.size]? = some (.cells (row .u8 z20).toArray 47 (0,0)))/\Hid (wr.heap[wB.heap.size]? = some (.cells (row .u32 sl).toArray 124 (0,0)))/\Hid (Below w.heap.size w wr))
 case atStart=>exact⟨0,by omega,rfl,rfl,HI3,HR4,HH4,HB4⟩
 case round =>
 clear HI3 HR4 HH4 HB4;obtain⟨j,hj,hg2,rfl,HI,HR,HH,HBx⟩:=hrel;by_cases hlt2:j<5;rotate_left
 ·obtain rfl:j=5:=by omega
  obtain⟨fr,HFR⟩:=nn_ (xV s5 (4*5));rw[<-HFR.out] at HI;have hfl:fr.length=20:=by rw[HFR.out];exact Zv _ _
  have HEf:Hid (fr=sha zs):=hid (by rw[HFR.out,HSH.out]);have hi24:(prog.info? 47).map (·.size)=some (row .u8 fr).length:=by rw[zu,hfl];exact size47
  have T1:Hid (wr.there w.heap.size 0 (row .u8 fr).toArray.size):=hid (by rw[qK,hfl];exact qq HR.out rfl);have T2:Hid ((prog.info? 47).map (·.size)=some (row .u8 fr).toArray.size):=hid (by rw[qK,hfl];exact size47);have T3:Hid ((row .u8 fr).toArray.all (·.oneCell')=true):=all_oneCell_toArray (row_one _ _)
  have T4:Hid (wr.there w.heap.size 0 (row .u8 fr).length):=hid (by rw[zu,hfl];exact qq HR.out rfl);go_wp2_with (first | refine wpList_load_mid rfl 47 _ rfl wC.heap.size 0 rfl (row .u8 fr) _ (zx HI.out) underlying47 rfl hi24 ?_ | refine wpList_store_mid rfl 47 _ _ rfl w.heap.size 0 (row .u8 fr).toArray rfl rfl T1.out T2.out T3.out ?_)
  exact bodyPost_ret (v:=.agg (row .u8 fr).toArray) (y6 Tryz.results25 _ _ w.heap.size _ _ rfl (World.rangeAt_setCells_same wr w.heap.size 0 _ T4.out) underlying47 rfl hi24) rfl ⟨by rw[HEf.out],below_setCells (WzV _) _ _ _ _ HBx.out⟩
 obtain⟨x,HX⟩:=nn_ (sl.getD j 0);have hx:U x:=by rw[HX.out];exact hslw.at j
 obtain⟨hx1,hx2⟩:=hx;obtain⟨m,HM⟩:=nn_ (4*j);have hm:(4:Int)*j=(m:Int):=by have:=HM.out;omega
 have hm16:m<=16:=by have:=HM.out;omega
 rw[<-HM.out] at HI;go_wp2;go_loopg [10] 4 (fun g i wr=>∃ c:Nat,c<=4/\g=4-c/\i=.int .i64 c/\Hid (wr.heap[wC.heap.size]? = some (.cells (row .u8 (xV s5 (m+c))).toArray 47 (0,0)))/\Hid (wr.heap[w.heap.size]? = some (.cells (row .u8 z20).toArray 47 (0,0)))/\Hid (wr.heap[wB.heap.size]? = some (.cells (row .u32 sl).toArray 124 (0,0)))/\Hid (Below w.heap.size w wr))
 case atStart=>exact⟨0,by omega,rfl,rfl,HI,HR,HH,HBx⟩
 case round =>
 clear HI HR HH HBx;obtain⟨c,hc4,hg3,rfl,HI,HR,HH,HBx⟩:=hrel;by_cases hlt3:c<4
 ·have cx:wr.cell? ⟨wB.heap.size,j,none⟩=some (.int .u32 x):=by rw[HX.out];exact zy HH.out j (by omega)
  have d0:=zy HI.out (m+c) (by rw[Zv];omega);have f0:=frozen_of_row wr wC.heap.size (m+c) _ 47 HI.out;obtain⟨sh,HSHF⟩:=nn_ (24-8*c:Nat);have hsh:(24:Int)-8*c=(sh:Int):=by have:=HSHF.out;omega
  have hsh2:sh<=24:=by have:=HSHF.out;omega
  have bi:(j:Int)<5:=by omega
  go_wp2;go_roundg (4-(c+1));case measure=>omega
  refine⟨c+1,by omega,rfl,by go_num,hid ?_,hid ?_,hid ?_,HBx.out.setCell (by show w.heap.size<=wC.heap.size;omega) _⟩
  ·rw[heap_setCell_same wr _ _ _ _ _ HI.out,uv,<-Nat.add_assoc,jY s5 (m+c) (by omega),show (m+c) / 4=j from by have:=HM.out;omega,show (m+c) % 4=c from by have:=HM.out;omega,<-HSHF.out,<-HSL.out,<-HX.out]
  ·rw[Below.heap_setCell wr ⟨wC.heap.size,m+c,none⟩ _ w.heap.size (by show w.heap.size ≠ wC.heap.size;omega)];exact HR.out
  rw[Below.heap_setCell wr ⟨wC.heap.size,m+c,none⟩ _ wB.heap.size (by show wB.heap.size ≠ wC.heap.size;omega)];exact HH.out
 obtain rfl:c=4:=by omega
 go_wp2;go_roundg (5-(j+1));case measure=>omega
 case rel=>exact⟨j+1,by omega,rfl,by go_num,hid (by rw[show 4*(j+1)=m+4 from by have:=HM.out;omega];exact HI.out),HR,HH,HBx⟩
theorem zkK (x y:List UInt8):(⟨x.toArray⟩:ByteArray) ++ ⟨y.toArray⟩=⟨(x++y).toArray⟩:=by
 rw[ByteArray.mk_append_mk]
def Dl (n m:Nat) (s:List UInt8):Prop:=if m=0 then s=Lib.decDigits n else Lib.decDigits n=Lib.decDigits m++s
theorem Dl.next {n m:Nat} {s:List UInt8} (h:Dl n m s) (hm:0<m):Dl n (m / 10) (Wxu (48+m % 10) :: s):=by
 unfold Dl at h ⊢;rw[if_neg (by omega)] at h;by_cases h10:m<10
 ·rw[if_pos (by omega),h,Lib.decDigits,dif_pos h10,Nat.mod_eq_of_lt h10];rfl
 rw[if_neg (by omega),h];conv=>lhs;rw[Lib.decDigits,dif_neg h10]
 simp
theorem Dk (n:Nat) (hn:n<=400000) (w:World):Calls prog 51 #[.int .i64 n] w fun e w'=>e=.returned (.string ⟨(Lib.decDigits n).toArray⟩)/\Below w.heap.size w w':=by
 by_cases h0:n=0
 ·subst h0;go_enter func51,ntmps51;go_wp2;go_ret;exact⟨by rw[Lib.decDigits];rfl,Below.refl _ _⟩
 have h0i:¬ ((n:Int) == 0)=true:=by simp;omega
 go_enter func51,ntmps51;go_wp2_with fail
 go_loopg [0,3] n (fun g v u wr=>∃ (m:Nat) (s:List UInt8) (S:ByteArray),v=.int .i64 m/\u=.string S/\g=m/\m<=400000/\S.size<=6/\Hid (m*10 ^ S.size<=n)/\Hid (S=⟨s.toArray⟩)/\Hid (Dl n m s)/\Hid (Below w.heap.size w wr));case atStart=>exact⟨n,[],⟨#[]⟩,rfl,rfl,rfl,hn,by decide,hid (by show n*10 ^ 0<=n;omega),rfl,hid (by unfold Dl;rw[if_neg h0];simp),hid (Below.refl _ _)⟩
 case round =>
 obtain⟨m,s,S,rfl,rfl,hk,hm4,hS,HM,HS,HD,HB⟩:=hrel;by_cases hm:0<m;rotate_left
 ·have hmi:¬ (0:Int)<m:=by omega
  go_wp2;go_ret;refine⟨?_,HB.out⟩;have:=HD.out;unfold Dl at this;rw[if_pos (by omega)] at this;rw[<-this,<-HS.out];rfl
 have hmi:(0:Int)<m:=by omega
 obtain⟨x,HX⟩:=nn_ (Wxu (48+m % 10));have hx:(48:Int)+(m:Int) % 10=(x.toNat:Int):=by
  rw[HX.out,UInt8.toNat_ofNat'];omega
 have hcv:∀ W:World,W.cell? ⟨wr.heap.size,0,none⟩=some (.int .u8 (x.toNat:Int))->Sem.run prog (convert 22 9 (.slice (some ⟨wr.heap.size,0,none⟩) 1 1)) W=.ok (.string ⟨#[x]⟩) W:=fun W hW=>by
  refine run_convert_bytes_back W 22 9 5 ⟨wr.heap.size,0,none⟩ 1 [x] underlying22 underlying5 underlying9 ?_;intro j hj;have:j=0:=by simpa using hj
  subst this;simpa [Addr.add] using hW
 have hcv1:=hcv (wr.alloc (.cells #[.int .u8 (x.toNat:Int)] 5)) (by simp);have hSs:¬ 9223372036854775807<1+S.size:=by omega
 have h1:(⟨#[x]⟩:ByteArray).size=1:=rfl;go_wp2;have hS5:S.size<=5:=by
  rcases WzW S.size 6 with h | h
  ·omega
  have e:S.size=6:=by omega
  have:=HM.out;rw[e] at this;omega
 have hsz:((⟨#[x]⟩:ByteArray)++S).size=S.size+1:=by rw[ByteArray.size_append,h1];omega
 go_roundg (m / 10);case measure=>omega
 case rel =>
 refine⟨m / 10,x :: s,⟨#[x]⟩ ++ S,by go_num,rfl,rfl,by omega,by omega,hid ?_,hid ?_,hid ?_,hid (HB.out.alloc HB.out.size _)⟩
 ·rw[hsz,Nat.pow_succ];have:=HM.out;have h2:m / 10*(10 ^ S.size*10)=m / 10*10*10 ^ S.size:=by rw[Nat.mul_assoc (m / 10),Nat.mul_comm 10]
  rw[h2];exact Wqx (Nat.mul_le_mul_right _ (by omega)) this
 ·rw[HS.out,show (⟨#[x]⟩:ByteArray)=⟨[x].toArray⟩ from rfl];exact zkK _ _
 rw[HX.out];exact HD.out.next hm
structure Bd (w0 w:World) (B:Nat) (v:Value) (out:List Int):Prop where
 below:Below B w0 w
 own:w.ownsRow B 5 1 v out.length (out.map (Value.int .u8))
 le:B<=w.heap.size
theorem Bd.alloc {w0 w:World} {B:Nat} {v:Value} {out:List Int} (h:Bd w0 w B v out) (o:Obj):Bd w0 (w.alloc o) B v out :=
 ⟨h.below.alloc h.le o,h.own.alloc o,Wqx h.le (by simp)⟩
theorem zxJ (w:World) (B:Nat) (h:B<=w.heap.size):Bd w w B (.slice none 0 0) []:=⟨Below.refl _ _,⟨rfl,.inl ⟨rfl,rfl⟩⟩,h⟩
theorem zxK (w:World) (c:Int):Sl (w.alloc (.cells #[.int .u8 c] 5)) (some ⟨w.heap.size,0,none⟩) 1 [c] :=
 ⟨by simp,fun _=>⟨w.heap.size,0,rfl,by simp,fun i hi=>by
  have:i=0:=by simpa using hi
  subst this
  simp⟩,fun h=>by cases h⟩
theorem GJ (l:List UInt8):Lib.strCells ⟨l.toArray⟩=(nums l).map (Value.int .u8):=by simp[Lib.strCells,nums]
section
variable {w w0 : World} {ops : Array Oper} {rest : List Oper} {o : Oper} {a : Act} {Q : Exit → Act → World → Prop}
theorem Xu (hgd:o.guard=none) (s x:Operand) (ho:o.op=.call { callee:=.builtin .append,args:=#[s,x],argTypes:=#[22,9] }) (B:Nat) (v:Value) (out:List Int) (hs:a.eval s=v) (h:Bd w0 w B v out)
    (l:List UInt8) (hx:a.eval x=.string ⟨l.toArray⟩) (hl:out.length+l.length<=1000000)
    (hK:∀ v' w',Bd w0 w' B v' (out++nums l)->wpList prog ops Q rest (a.put o.dst v') w'):wpList prog ops Q (o :: rest) a w:=by
  obtain⟨i5,hi,hz0,hz1,hz2⟩:=info_parts info5
  have hsz:(⟨l.toArray⟩:ByteArray).size=l.length:=by simp[ByteArray.size]
  refine Lib.wpList_append_own_string w hgd s x 22 9 ho B 5 i5 underlying22 underlying9 hi hz0 hz1 hz2 v out.length _ hs h.own ⟨l.toArray⟩ hx (by rw[hsz];unfold maxLen;omega) (by rw[hsz];omega) h.le ?_
  intro v' w' h1 h2 h3
  refine hK v' w' ⟨h.below.grown h2 h.le (fun k hk=>(zJ h.own k hk).1),?_,Wqx h.le h2.size⟩
  rw[Wz6,xk,Wy4,<-GJ]
  rw[hsz] at h1
  exact h1
theorem jX (hgd:o.guard=none) (s x:Operand) (ho:o.op=.call { callee:=.builtin .append,args:=#[s,x],argTypes:=#[22,22] }) (B:Nat) (v:Value) (out:List Int) (hs:a.eval s=v) (h:Bd w0 w B v out)
    (ax:Option Addr) (cx:Nat) (l:List Int) (hx:a.eval x=.slice ax l.length cx) (hS:Sl w ax cx l) (hl:out.length+l.length<=1000000)
    (hK:∀ v' w',Bd w0 w' B v' (out++l)->wpList prog ops Q rest (a.put o.dst v') w'):wpList prog ops Q (o :: rest) a w:=by
  obtain⟨i5,hi,hz0,hz1,hz2⟩:=info_parts info5
  cases ax with
  | none =>
    have hc:cx=0:=hS.nil rfl
    have hcl:=hS.capl
    obtain rfl:l=[]:=List.length_eq_zero_iff.1 (by omega)
    subst hc
    refine wpList_plain hgd fun K hK'=>?_
    have hr:=run_append_owned_none (P:=prog) w B 22 o.type 5 i5 1 underlying22 hi v _ _ h.own
    unfold Oper.wp execOp
    simp only[List.length_nil] at hx
    simp only[ho,resolve,invoke,builtin,Sem.run_bind,Sem.run_pure,Result.andThen_ok,Wxy,Wxj,Wxk,hs,hx,hr]
    exact hK' _ _ (hK v w (by simpa using h))
  | some ad =>
    refine wpList_append_own_at w hgd s x 22 ho B 5 i5 (.int .u8 0) 1 1 underlying22 hi hz0 hz1 hz2 rfl (by decide) v _ _ hs h.own ad l.length cx (l.map (Value.int .u8)) hx (by simp) ?_ (ints_oneCell .u8 l) (by unfold maxLen;omega) (by omega) h.le ?_
    · intro j z hj
      rw[List.getElem?_map] at hj
      cases hc:l[j]? with
      | none=>rw[hc] at hj;cases hj
      | some y =>
        rw[hc] at hj;cases hj
        have hlt:=(List.getElem?_eq_some_iff.1 hc).1
        obtain⟨b,off,e1,e2,e3⟩:=hS.at_ (by omega)
        cases e1
        have:=e3 j hlt
        rw[addr_add]
        simpa [List.getD_eq_getElem?_getD,hc] using this
    · intro v' w' h1 h2 h3 h4
      refine hK v' w' ⟨h.below.grown h2 h.le (fun k hk=>(zJ h.own k hk).1),?_,Wqx h.le h2.size⟩
      rw[Wz6,Wy4]
      exact h1
end
def qqu (k:Int) (zs:List Int) (w:World) (e:Ending) (w':World):Prop :=
 Below w.heap.size w w'/\((vw k zs.length ≠ 0/\e=.returned (.tuple #[.slice none 0 0,.int .i64 (vw k zs.length)])) ∨
  (vw k zs.length=0/\∃ g cap':Nat,e=.returned (.tuple #[.slice (some ⟨g,0,none⟩) (encZ k zs).length cap',.int .i64 0])/\w.heap.size<=g/\g<w'.heap.size/\At w' g 0 (encZ k zs)/\(encZ k zs).length<=cap'))
theorem Bd.carry {w0 w w':World} {B:Nat} {v:Value} {out:List Int} (h:Bd w0 w B v out) (hb:Below w.heap.size w w'):Bd w0 w' B v out :=
 ⟨h.below.trans (hb.mono h.le),h.own.kept (row:=none) ⟨hb.os,hb.tape,hb.output,hb.size,fun k hk _=>hb.block k hk⟩ (by cases h:v.ownBlock <;> simp),Wqx h.le hb.size⟩
theorem LZ {w0 w:World} {B:Nat} {v:Value} {out:List Int} (h:Bd w0 w B v out) (h0:0<out.length):∃ g cap,v=.slice (some ⟨g,0,none⟩) out.length cap/\B<=g/\g<w.heap.size/\At w g 0 out/\out.length<=cap:=by
 obtain⟨g,cap,rfl,h1,h2⟩:=h.own.form h0;refine⟨g,cap,rfl,h1,h2,?_,?_⟩
 ·intro i hi;rw[Wq7,h.own.cellAt i (by simpa using hi),List.getElem?_map,List.getElem?_eq_getElem hi];simp[List.getD_eq_getElem?_getD,List.getElem?_eq_getElem hi]
 obtain⟨_,⟨hv,_⟩ | ⟨g2,cap2,cur,hv,_,_,hnc,_⟩⟩:=h.own
 ·cases hv
 simp only[Value.slice.injEq] at hv;omega
theorem zkV (k:Int) (n:Nat) (h:(kN k).toList.isEmpty=true):vw k n=20:=by unfold vw;rw[if_pos h]
theorem zkW (k:Int) (n:Nat) (h:¬ (kN k).toList.isEmpty=true) (h2:100000<n):vw k n=11:=by unfold vw;rw[if_neg h,if_pos h2]
theorem zxV (k:Int) (n:Nat) (h:¬ (kN k).toList.isEmpty=true) (h2:¬ 100000<n):vw k n=0:=by unfold vw;rw[if_neg h,if_neg h2]
theorem GK (k:Int) (a:Option Addr) (cap:Nat) (zs:List Int) (w:World) (hl:zs.length<=300000) (hS:Sl w a cap zs) :
  Calls prog 24 #[.agg #[.int .i64 k,.slice a zs.length cap]] w (qqu k zs w):=by
 obtain⟨n,HN⟩:=nm_ zs.length;obtain⟨S,HSS⟩:=nm_ (kN k);have HK:Hid (∀ w,Calls prog 50 #[.int .i64 k] w fun e w'=>e=.returned (.string S)/\w'=w):=fun w=>by rw[<-HSS.out];exact zyW k w
 have hln:n<=300000:=by rw[<-HN.out];exact hl
 obtain⟨G,HG⟩:=nm_ w.heap.size;obtain⟨w0,HW0⟩:=nm_ (w.alloc (.cells #[.int .i64 k,.slice a n cap] 46));have HB0:Hid (Below G w w0):=hid (by rw[<-HW0.out,<-HG.out];exact(Below.refl _ w).alloc (WzV _) _);have hs0:w0.heap.size=G+1:=by rw[<-HW0.out,<-HG.out];simp
 have hc0:w0.cell? ⟨G,0,none⟩=some (.int .i64 k):=by rw[<-HW0.out,<-HG.out];simp
 have hc1:w0.cell? ⟨G,1,none⟩=some (.slice a n cap):=by rw[<-HW0.out,<-HG.out];simp
 rw[HN.out];by_cases he:S.toList.isEmpty=true
 ·have hE:vw k zs.length=20:=zkV k _ (by rw[HSS.out];exact he);go_enter func24,ntmps24;go_wp2_with fail
  rw[HG.out,HW0.out];refine(HK.out _).mono ?_;rintro ev w' ⟨rfl,rfl⟩;go_wp2;go_ret2;refine⟨by rw[HG.out];exact HB0.out,.inl ⟨by rw[hE];decide,?_⟩⟩;rw[hE];rfl
 by_cases h2:100000<n
 ·have hE:vw k zs.length=11:=zkW k _ (by rw[HSS.out];exact he) (by rw[HN.out];exact h2);have h2i:(100000:Int)<n:=by omega
  go_enter func24,ntmps24;go_wp2_with fail
  rw[HG.out,HW0.out];refine(HK.out _).mono ?_;rintro ev w' ⟨rfl,rfl⟩;go_wp2;go_ret2;refine⟨by rw[HG.out];exact HB0.out,.inl ⟨by rw[hE];decide,?_⟩⟩;rw[hE];rfl
 have hE:vw k zs.length=0:=zxV k _ (by rw[HSS.out];exact he) (by rw[HN.out];exact h2);have h2i:¬ (100000:Int)<n:=by omega
 obtain⟨L1,HL1⟩:=nn_ ((kN k).data.toList);have hL1:L1.length<=6:=by rw[HL1.out];exact zx9 k
 have hSL:S=⟨L1.toArray⟩:=by rw[HL1.out,<-HSS.out]
 have hL1e:L1.isEmpty=false:=by
  have h:=he;rw[hSL,Lib.toList_data] at h;simpa using h
 obtain⟨L2,HL2⟩:=nn_ (Lib.decDigits n);have hL2:L2.length<=6:=by rw[HL2.out];exact Lz 5 n (by omega)
 have HD:Hid (∀ w,Calls prog 51 #[.int .i64 n] w fun e w'=>e=.returned (.string ⟨L2.toArray⟩)/\Below w.heap.size w w'):=fun w=>by rw[HL2.out];exact Dk n (by omega) w
 have HSl:Hid (∀ W,Below G w W->Sl W a cap zs):=fun W hW=>hS.below (by rw[HG.out];exact hW);clear hS;go_enter func24,ntmps24;go_wp2_with fail
 rw[HG.out,HW0.out];refine(HK.out _).mono ?_;rintro ev w' ⟨rfl,rfl⟩;have hbd0:Bd w' w' (G+1) (.slice none 0 0) []:=zxJ w' (G+1) (by omega);have HC:Hid (∀ W,Below (G+1) w' W->W.cell? ⟨G,1,none⟩=some (.slice a n cap)):=fun W hW=>(hW.cell (p:=⟨G,1,none⟩) (show G<G+1 by omega)).trans hc1;go_wp2_with (first
  | (at_builtin;refine Xu rfl _ _ rfl (G+1) _ _ rfl hbd0 L1 rfl (by simp;omega) ?_;intro v1 w1 hbd1;clear hbd0)
  | (at_builtin;refine jX rfl _ _ rfl (G+1) _ _ rfl (hbd1.alloc _) _ _ [32] rfl (zxK _ _) (by simp[xk];omega) ?_;intro v2 w2 hbd2;clear hbd1;have hcw2:=HC.out w2 hbd2.below)
  | (go_at_call 51;refine(HD.out _).mono ?_;rintro ev w3 ⟨rfl,hb3⟩;have hbd3:=hbd2.carry hb3;clear hbd2 hb3 hcw2)
  | (at_builtin;refine Xu rfl _ _ rfl (G+1) _ _ rfl hbd3 L2 rfl (by simp[xk];omega) ?_;intro v4 w4 hbd4;clear hbd3)
  | (at_builtin;refine jX rfl _ _ rfl (G+1) _ _ rfl (hbd4.alloc _) _ _ [0] rfl (zxK _ _) (by simp[xk];omega) ?_;intro v5 w5 hbd5;clear hbd4;have hcw5:=HC.out w5 hbd5.below)
  | (at_builtin;refine jX rfl _ _ rfl (G+1) _ _ rfl hbd5 a cap zs (by rw[HN.out];rfl) (HSl.out _ (HB0.out.trans (hbd5.below.mono (by omega)))) (by simp[xk];omega) ?_;intro v6 w6 hbd6;clear hbd5 hcw5))
 go_ret2;have hout:[]++nums L1++[32]++nums L2++[0]++zs=encZ k zs:=by
  unfold encZ hd h0;rw[HN.out,<-HL1.out,<-HL2.out];simp[nums]
 rw[hout] at hbd6;obtain⟨g,c6,rfl,h1,h3,h4,h5⟩:=LZ hbd6 (by rw[<-hout];simp;omega);exact⟨by rw[HG.out];exact HB0.out.trans (hbd6.below.mono (by omega)),.inr ⟨hE,g,c6,rfl,by rw[HG.out];omega,h3,h4,h5⟩⟩
theorem results13:f13.results=#[.cell 2 47,.tmp 3]:=by kernel_rfl
theorem zxW (w:World):(zeroValue 47).run prog w=.ok (.agg (row .u8 z20).toArray) w:=by kernel_rfl
theorem zzz (k:Int) (a:Option Addr) (cap:Nat) (zs:List Int) (w:World) (hl:zs.length<=300000) (hz:IsB zs) (hS:Sl w a cap zs) :
  Calls prog 13 #[.agg #[.int .i64 k,.slice a zs.length cap]] w fun e w'=>e=.returned (.tuple #[.agg (row .u8 (idZ k zs)).toArray,.int .i64 (vw k zs.length)])/\Below w.heap.size w w':=by
 obtain⟨zr,HZ⟩:=nn_ ((row .u8 z20).toArray);have hz25:=zxW;rw[<-HZ.out] at hz25;obtain⟨n,HN⟩:=nm_ zs.length;obtain⟨fr,HE⟩:=nn_ (idZ k zs);have hfl:fr.length=20:=by rw[HE.out];exact X7 _ _
 have hi25:(prog.info? 47).map (·.size)=some (row .u8 fr).length:=by rw[zu,hfl];exact size47
 have T2:Hid ((prog.info? 47).map (·.size)=some (row .u8 fr).toArray.size):=hid (by rw[qK,hfl];exact size47);have T3:Hid ((row .u8 fr).toArray.all (·.oneCell')=true):=all_oneCell_toArray (row_one _ _);obtain⟨G,HG⟩:=nm_ w.heap.size;obtain⟨w0,HW0⟩:=nm_ ((w.alloc (.cells #[.int .i64 k,.slice a n cap] 46)).alloc (.cells zr 47))
 have hs0:w0.heap.size=G+2:=by rw[<-HW0.out,<-HG.out];simp
 have hc0:w0.cell? ⟨G,0,none⟩=some (.int .i64 k):=by rw[<-HW0.out,<-HG.out];simp
 have hc1:w0.cell? ⟨G,1,none⟩=some (.slice a n cap):=by rw[<-HW0.out,<-HG.out];simp
 have HR0:Hid (w0.heap[G+1]? = some (.cells (row .u8 z20).toArray 47 (0,0))):=hid (by
  have:=heap_alloc_new (w.alloc (.cells #[.int .i64 k,.slice a n cap] 46)) (.cells zr 47);rw[HW0.out,HZ.out] at this;rw[<-HG.out];simpa using this)
 have HB0:Hid (Below G w w0):=hid (by rw[<-HW0.out,<-HG.out];exact((Below.refl _ w).alloc (WzV _) _).alloc (by simp) _);have HEN:Hid (Calls prog 24 #[.agg #[.int .i64 k,.slice a n cap]] w0 (qqu k zs w0)):=by
  rw[<-HN.out];exact GK k a cap zs w0 hl (hS.below (by rw[HG.out];exact HB0.out))
 replace hs0:=hid hs0;rw[HN.out];go_enter func13,ntmps13;go_wp2_with fail
 rw[HG.out,HW0.out];clear hS;have hl':Hid (zs.length<=300000):=hl;clear hl;refine HEN.out.mono ?_;rintro ev w1 ⟨hb1,⟨he,rfl⟩ | ⟨he,g,c1,rfl,h1,h2,h3,h4⟩⟩
 ·have hb1s:=hb1.size;rw[hs0.out] at hb1 hb1s;have HR1:Hid (w1.heap[G+1]? = some (.cells (row .u8 z20).toArray 47 (0,0))):=(hb1.block _ (by omega)).trans HR0.out;have HB1:Hid (Below G w w1):=HB0.out.trans (hb1.mono (by omega));obtain⟨er,HER⟩:=nn_ (vw k zs.length);have HV:Hid (vw k n=er):=hid (by rw[<-HN.out,HER.out]);rw[<-HER.out]
  have hfr:fr=z20:=by rw[HE.out];unfold idZ;rw[if_neg he]
  have T1:Hid (w1.there (G+1) 0 (row .u8 fr).toArray.size):=hid (by rw[qK,hfl];exact qq HR1.out rfl);have T4:Hid (w1.there (G+1) 0 (row .u8 fr).length):=hid (by rw[zu,hfl];exact qq HR1.out rfl);obtain rfl:zr=(row .u8 fr).toArray:=by rw[HZ.out,hfr]
  have her:¬ er=0:=by rw[HER.out];exact he
  have her2:(er == 0)=false:=by simpa using her
  clear hb1 hfr he hc0 hc1;go_wp2_with (refine wpList_store_mid rfl 47 _ _ rfl (G+1) 0 (row .u8 fr).toArray rfl rfl T1.out T2.out T3.out ?_)
  exact bodyPost_ret (v:=.tuple #[.agg (row .u8 fr).toArray,.int .i64 er]) (uw results13 _ _ (G+1) _ _ rfl (World.rangeAt_setCells_same w1 (G+1) 0 _ T4.out) underlying47 rfl hi25) rfl ⟨by rw[HV.out,HE.out],by rw[HG.out];exact below_setCells (by omega) _ _ _ _ HB1.out⟩
 have hb1s:=hb1.size;rw[hs0.out] at hb1 hb1s h1;have HR1:Hid (w1.heap[G+1]? = some (.cells (row .u8 z20).toArray 47 (0,0))):=(hb1.block _ (by omega)).trans HR0.out;have HB1:Hid (Below G w w1):=HB0.out.trans (hb1.mono (by omega));have HV:Hid (vw k n=0):=hid (by rw[<-HN.out];exact he);have hfr:Hid (fr=sha (encZ k zs)):=hid (by rw[HE.out];unfold idZ;rw[if_pos he])
 have HSU:Hid (Calls prog 25 #[.slice (some ⟨g,0,none⟩) (encZ k zs).length c1] w1 fun e w'=>e=.returned (.agg (row .u8 (sha (encZ k zs))).toArray)/\Below w1.heap.size w1 w') :=
  zkJ (some ⟨g,0,none⟩) c1 (encZ k zs) w1 (by
   have:=Dq k zs hl'.out
   have:=(Lv k _ he).2
   omega) (Dx k zs hz) (fun _=>⟨g,0,rfl,h2,h3⟩)
 obtain⟨L,HL⟩:=nn_ ((encZ k zs).length);rw[<-HL.out,<-hfr.out] at HSU;rw[<-HL.out];clear hb1 he hc0 hc1 h3 h4;go_wp2_with fail
 refine HSU.out.mono ?_;rintro ev w2 ⟨rfl,hb2⟩;have HR2:Hid (w2.heap[G+1]? = some (.cells (row .u8 z20).toArray 47 (0,0))):=(hb2.block _ (by omega)).trans HR1.out;have HB2:Hid (Below G w w2):=HB1.out.trans (hb2.mono (by omega));have T1:Hid (w2.there (G+1) 0 (row .u8 fr).toArray.size):=hid (by rw[qK,hfl];exact qq HR2.out rfl)
 have T4:Hid (w2.there (G+1) 0 (row .u8 fr).length):=hid (by rw[zu,hfl];exact qq HR2.out rfl);clear hb2;go_wp2_with (refine wpList_store_mid rfl 47 _ _ rfl (G+1) 0 (row .u8 fr).toArray rfl rfl T1.out T2.out T3.out ?_)
 exact bodyPost_ret (v:=.tuple #[.agg (row .u8 fr).toArray,.int .i64 0]) (uw results13 _ _ (G+1) _ _ rfl (World.rangeAt_setCells_same w2 (G+1) 0 _ T4.out) underlying47 rfl hi25) rfl ⟨by rw[HV.out,HE.out],by rw[HG.out];exact below_setCells (by omega) _ _ _ _ HB2.out⟩
end Go.Proofs.YtiaaekdpfpaigaaGreatDoor.Id
namespace Go.Proofs.YtiaaekdpfpaigaaGreatDoor.Pk
open Go.Proofs.Tryz
open Go.RowKit Go.Maps Go.Proofs.YtiaaekdpfpaigaaGreatDoor.Id
def hdV (k n d:Nat) (id:List Int):List Value:=.int .i64 k :: .int .i64 n :: .int .i64 d :: row .u8 id
def hdb (k n d:Nat) (id:List Int):List Int:=kd k n++(if k=6 then ds 3 d 0 else if k=7 then id else [])
theorem xy (k n d:Nat) (id:List Int):(hdV k n d id).length=id.length+3:=by simp[hdV,zu]
theorem qqZ {w w':World} {B:Nat} {v v':Value} {l:List Int} (hB:B<=w.heap.size) (hv:∀ k,v.ownBlock=some k->B<=k) (ho:w'.ownsRow B 5 1 v' l.length (l.map (Value.int .u8))) (hm:Dl.Mv w w' v v'):Bd w w' B v' l :=
 ⟨hm.below hv hB,ho,Wqx hB hm.size⟩
theorem und68:prog.underlying 68=some (.array (prog.arrayLen 68) (prog.elem 68)):=by kernel_rfl
theorem len68:prog.arrayLen 68=20:=by kernel_rfl
theorem I0 (g o:Nat) (w:World):(Instr.sliceAt 68 (.pointer (some ⟨g,o,none⟩)) none none none).run prog w=.ok (.slice (some ⟨g,o,none⟩) 20 20) w:=by
 rw[run_sliceAt_array_all w 68 _ und68,len68];kernel_rfl
set_option maxRecDepth 10000 in
theorem zzq (k n d:Nat) (id:List Int) (w:World) (hk:k<8) (hn:n<262144) (hd:d<2113664) (hi:id.length=20) (hz:IsB id) :
  Calls prog 58 #[.agg (hdV k n d id).toArray] w fun e w'=>∃ v,e=.returned v/\Bd w w' w.heap.size v (hdb k n d id):=by
 obtain⟨G,HG⟩:=nm_ w.heap.size;obtain⟨A,HA⟩:=nm_ ((hdV k n d id).toArray);obtain⟨w0,HW0⟩:=nm_ (w.alloc (.cells A 70));have HR0:Hid (w0.heap[G]? = some (.cells A 70 (0,0))):=hid (by rw[<-HW0.out,<-HG.out];exact heap_alloc_new _ _);have hs0:w0.heap.size=G+1:=by rw[<-HW0.out,<-HG.out];simp
 have HB0:Hid (Below G w w0):=hid (by rw[<-HW0.out,<-HG.out];exact(Below.refl _ w).alloc (WzV _) _);have hc0:(w.alloc (.cells A 70)).cell? ⟨w.heap.size,0,none⟩=some (.int .i64 k):=by rw[HW0.out,HG.out,cell_of_row _ _ 0 _ _ _ HR0.out,<-HA.out];rfl
 have hc1:(w.alloc (.cells A 70)).cell? ⟨w.heap.size,1,none⟩=some (.int .i64 n):=by rw[HW0.out,HG.out,cell_of_row _ _ 1 _ _ _ HR0.out,<-HA.out];rfl
 have HK:=hid (Wu G (.slice none 0 0) [] k n w0 hk hn (by simp) (by omega) (World.ownsRow_nil _ _ _ _));replace hs0:=hid hs0;rw[HA.out];go_enter func58,ntmps58;go_wp2_with fail
 rw[HG.out,HW0.out];clear hc0 hc1;refine HK.out.mono ?_;rintro e w1 ⟨v1,rfl,ho1,hm1⟩;rw[Wzx] at ho1;have hs1:=hm1.size;rw[hs0.out] at hs1;have HR1:Hid (w1.heap[G]? = some (.cells A 70 (0,0))):=hid ((hm1.blk G (by rw[hs0.out];omega) (by simp[Value.ownBlock])).trans HR0.out)
 have HBD1:Hid (Bd w0 w1 G v1 (kd k n)):=hid (qqZ (by rw[hs0.out];omega) (fun k hk=>by simp[Value.ownBlock] at hk) ho1 hm1);have hv1:∀ j,v1.ownBlock=some j->G+1<=j:=fun j hj=>by
  rcases hm1.at_ with e | e
  ·rw[e] at hj;simp[Value.ownBlock] at hj
  have:=e j hj;rw[hs0.out] at this;exact this
 have HV1:=hid hv1;have e0:w1.cell? ⟨G,0,none⟩=some (.int .i64 k):=by rw[cell_of_row _ _ 0 _ _ _ HR1.out,<-HA.out];rfl
 have e2:w1.cell? ⟨G,2,none⟩=some (.int .i64 d):=by rw[cell_of_row _ _ 2 _ _ _ HR1.out,<-HA.out];rfl
 have HO1:Hid (w1.ownsRow G 5 1 v1 (kd k n).length ((kd k n).map (Value.int .u8))):=ho1;have hl1:(kd k n).length<=3:=Ww k n hn;clear ho1 hm1 HK hv1;by_cases h6:k=6
 ·have hI:(k:Int)=6:=by omega
  have HC:=hid (jW 3 G v1 (kd k n) d 0 w1 (WzV _) (.inl rfl) (Wqj hd FZ) (by omega) (by omega) HO1.out);have HH:Hid (hdb k n d id=kd k n++ds 3 d 0):=hid (by unfold hdb;rw[if_pos h6])
  go_wp2_with (go_at_call 86;refine HC.out.mono ?_;rintro e w2 ⟨v2,rfl,ho2,hm2⟩;have HB2:Hid (Bd w1 w2 G v2 (kd k n++ds 3 d 0)):=hid (qqZ (by omega) (fun j hj=>by have:=HV1.out j hj;omega) ho2 hm2);clear ho2 hm2)
  go_ret;refine⟨_,rfl,?_⟩;rw[HG.out,HH.out];exact⟨HB0.out.trans (HBD1.out.below.trans HB2.out.below),HB2.out.own,HB2.out.le⟩
 have hI:¬ (k:Int)=6:=by omega
 by_cases h7:k=7
 ·have hI7:(k:Int)=7:=by omega
  have HH:Hid (hdb k n d id=kd k n++id):=hid (by unfold hdb;rw[if_neg h6,if_pos h7]);have HS:Hid (Sl w1 (some ⟨G,3,none⟩) 20 id):=hid ⟨by omega,fun _=>⟨G,3,rfl,by omega,fun i hj=>by
   rw[cell_of_row _ _ (3+i) _ _ _ HR1.out,<-HA.out];rw[Nat.add_comm 3 i];simp[hdV,row,hj]⟩,fun h=>by cases h⟩
  have hsl:=I0 G 3 w1;go_wp2_with (at_builtin;refine jX rfl (.tmp 19) (.tmp 21) rfl G v1 (kd k n) rfl HBD1.out (some ⟨G,3,none⟩) 20 id (by rw[hi];rfl) HS.out (by omega) ?_;intro v2 w2 hb2;have HB2:=hid hb2;clear hb2)
  go_ret;refine⟨_,rfl,?_⟩;rw[HG.out,HH.out];exact⟨HB0.out.trans HB2.out.below,HB2.out.own,HB2.out.le⟩
 have hI7:¬ (k:Int)=7:=by omega
 have HH:Hid (hdb k n d id=kd k n):=hid (by unfold hdb;rw[if_neg h6,if_neg h7];simp);go_wp2_with fail
 go_ret;refine⟨_,rfl,?_⟩;rw[HG.out,HH.out];exact⟨HB0.out.trans HBD1.out.below,HBD1.out.own,HBD1.out.le⟩
end Go.Proofs.YtiaaekdpfpaigaaGreatDoor.Pk
