import Derived.Maps.Range
import Derived.ArgAppend
import Derived.Laws.IdiomStrings
import Derived.Test.YtiaaekdpfpaigaaGreatDoorMn16
import Derived.Test.YtiaaekdpfpaigaaGreatDoorMn01
set_option linter.unusedSimpArgs false
set_option linter.unusedVariables false
set_option maxRecDepth 20000
set_option maxHeartbeats 4000000
open ByteArray renaming size->Wxq
open Int renaming tmod_eq_emod_of_nonneg->Wyu
open List renaming append_assoc->Wz1,ext_getElem->Wy0,length_append->Wz6,length_drop->Wz8,length_map->Wxx,length_take->Wzz,map_cons->Wxj,map_nil->Wxk,mem_append->WqX,mem_map->Wx9,range->WqK,replicate->WqV,take_add->Wxv
open Nat renaming add_assoc->WzQ,le_refl->WzV,lt_of_lt_of_le->Wqj,lt_or_ge->WzW,mul_one->Wxw,zero_add->Wq7
namespace Go.Proofs.YtiaaekdpfpaigaaGreatDoor.Id
open Go.Proofs.Tryz
open Go.RowKit
theorem qyY (i:Nat) (hi:i<4):∃ f:FuncId,(∀ w,(Instr.index 208 (.agg Z2) (.int .i64 i)).run prog w=.ok (.agg #[.func (.func f) #[] #[],.int .u32 (ki (20*i))]) w)/\
  (∀ (j:Nat) (b c d:Int) (w:World),j<20->U b->U c->U d->Calls prog f #[.int .u32 b,.int .u32 c,.int .u32 d] w fun e w'=>e=.returned (.int .u32 (fi (20*i+j) b c d))/\w=w')/\(f=116 ∨ f=117 ∨ f=118):=by
 match i,hi with
 | 0,_=>exact⟨116,kind0,fun j b c d w hj h1 h2 h3=>by rw[fi,if_pos (by omega)];exact BW b c d w h1 h2 h3,.inl rfl⟩
 | 1,_=>exact⟨117,kind1,fun j b c d w hj h1 h2 h3=>by rw[fi,if_neg (by omega),if_pos (by omega)];exact WX b c d w h1 h2 h3,.inr (.inl rfl)⟩
 | 2,_=>exact⟨118,kind2,fun j b c d w hj h1 h2 h3=>by rw[fi,if_neg (by omega),if_neg (by omega),if_pos (by omega)];exact L4 b c d w h1 h2 h3,.inr (.inr rfl)⟩
 | 3,_=>exact⟨117,kind3,fun j b c d w hj h1 h2 h3=>by rw[fi,if_neg (by omega),if_neg (by omega),if_neg (by omega)];exact WX b c d w h1 h2 h3,.inr (.inl rfl)⟩
theorem below_drewN (B:Nat) (w:World) (n:Nat):Below B w (w.drewN n):=⟨rfl,rfl,rfl,WzV _,fun _ _=>rfl⟩
theorem same {P:Program} {f:FuncId} {args:Array Value} {w:World} {v:Value} (h:Calls P f args w fun e w'=>e=.returned v/\w=w'):Calls P f args w fun e w'=>e=.returned v/\w'=w:=h.mono fun _ _ h=>⟨h.1,h.2.symm⟩
theorem zxz (s:S5) (zs:List Int) (w:World) (hs:s.ok) (hl:zs.length=64) (hz:IsB zs) :
  Calls prog 92 #[.agg (row .u32 s.l).toArray,.agg (row .u8 zs).toArray] w fun e w'=>e=.returned (.agg (row .u32 (U9 s zs).l).toArray)/\Below w.heap.size w w':=by
 have hi41:(prog.info? 108).map (·.size)=some (row .u8 zs).length:=by rw[zu,hl];exact size108
 obtain⟨arr,HA⟩:=nn_ (row .u8 zs);rw[<-HA.out];rw[<-HA.out] at hi41;have hasz:arr.toArray.size=64:=by rw[HA.out,qK];exact hl
 obtain⟨kv,HK⟩:=nn_ Z2;obtain⟨W,HW⟩:=nn_ (spread zs);have hWl:W.length=80:=by rw[HW.out];exact A2 zs
 have hWw:IsW W:=by rw[HW.out];exact A3 zs hz
 obtain⟨a0,b0,c0,d0,e0⟩:=s;obtain⟨ha0,hb0,hc0,hd0,he0⟩:=hs;have HS:Hid (S5.ok ⟨a0,b0,c0,d0,e0⟩):=⟨ha0,hb0,hc0,hd0,he0⟩;simp only[S5.l,row,Wxj,Wxk];have H3:Hid (_/\_):=Yu w (.cells #[.int .u32 a0,.int .u32 b0,.int .u32 c0,.int .u32 d0,.int .u32 e0] 181) (.cells arr.toArray 108) (.cells #[.int .u32 0,.int .u32 0,.int .u32 0,.int .u32 0,.int .u32 0] 181)
 have HB0:Hid (Below w.heap.size w (((w.alloc (.cells #[.int .u32 a0,.int .u32 b0,.int .u32 c0,.int .u32 d0,.int .u32 e0] 181)).alloc (.cells arr.toArray 108)).alloc (.cells #[.int .u32 0,.int .u32 0,.int .u32 0,.int .u32 0,.int .u32 0] 181))):=(((Below.refl _ w).alloc (WzV _) _).alloc (by simp) _).alloc (by simp;omega) _;obtain⟨zr,HZ⟩:=nn_ ((row .u32 z80).toArray)
 have hzv:=A4;rw[<-HZ.out] at hzv;go_enter func92,ntmps92;go_wp2_with (refine wpList_load_mid rfl 108 _ rfl (w.heap.size+1) 0 rfl arr _ (zx H3.out.1.2) underlying108 rfl hi41 ?_)
 rw[HA.out];refine(A5 zs _ hl hz).mono ?_;rintro e w1 ⟨rfl,hb⟩;rw[<-HA.out,<-HW.out];rw[<-HA.out] at hb;have hb':Below (w.heap.size+1+1+1) (((w.alloc (.cells #[.int .u32 a0,.int .u32 b0,.int .u32 c0,.int .u32 d0,.int .u32 e0] 181)).alloc (.cells arr.toArray 108)).alloc (.cells #[.int .u32 0,.int .u32 0,.int .u32 0,.int .u32 0,.int .u32 0] 181)) w1:=by simpa using hb
 have hz1:w.heap.size+1+1+1<=w1.heap.size:=by simpa using hb'.size
 have F0:Hid (w1.heap[w.heap.size]? = some (.cells #[.int .u32 a0,.int .u32 b0,.int .u32 c0,.int .u32 d0,.int .u32 e0] 181 (0,0))):=(hb'.block _ (by omega)).trans H3.out.1.1;have F2:Hid (w1.heap[w.heap.size+1+1]? = some (.cells #[.int .u32 0,.int .u32 0,.int .u32 0,.int .u32 0,.int .u32 0] 181 (0,0))):=(hb'.block _ (by omega)).trans H3.out.2
 have HB1:Hid (Below w.heap.size w w1):=HB0.out.trans (hb'.mono (by omega));clear hb hb' H3 HB0;have HT:Hid ((w1.alloc (.cells zr 165)).there w1.heap.size 0 (row .u32 W).toArray.size):=hid (by rw[qK,hWl,HZ.out];exact qq (heap_alloc_new w1 _) (by simp[z80]))
 have T2:Hid ((prog.info? 165).map (·.size)=some (row .u32 W).toArray.size):=hid (by rw[qK,hWl];exact size165);have T3:Hid ((row .u32 W).toArray.all (·.oneCell')=true):=all_oneCell_toArray (row_one _ _);obtain⟨w2,HW2⟩:=nn_ ((w1.alloc (.cells zr 165)).setCells w1.heap.size 0 (row .u32 W).toArray.toList)
 have HS2:Hid (w2.rangeAt w1.heap.size 0 (row .u32 W)):=hid (by rw[HW2.out];exact World.rangeAt_setCells_same _ w1.heap.size 0 _ (by have:=HT.out;simpa using this));have HX2:Hid (Below w1.heap.size w1 w2):=hid (by rw[HW2.out];exact below_setCells (WzV _) _ _ _ _ ((Below.refl _ _).alloc (WzV _) _))
 have hz2:w2.heap.size=w1.heap.size+1:=by rw[HW2.out,size_setCells];simp
 have HZ2:Hid (w1.heap.size<w2.heap.size):=hid (by omega);clear hz2;have G0:Hid (w2.heap[w.heap.size]? = some (.cells #[.int .u32 a0,.int .u32 b0,.int .u32 c0,.int .u32 d0,.int .u32 e0] 181 (0,0))):=(HX2.out.block _ (by omega)).trans F0.out
 have G2:Hid (w2.heap[w.heap.size+1+1]? = some (.cells #[.int .u32 0,.int .u32 0,.int .u32 0,.int .u32 0,.int .u32 0] 181 (0,0))):=(HX2.out.block _ (by omega)).trans F2.out;have r0:w2.cell? ⟨w.heap.size,0,none⟩=some (.int .u32 a0):=by rw[cell_of_row w2 w.heap.size 0 _ 181 _ G0.out];rfl
 have r1:w2.cell? ⟨w.heap.size,1,none⟩=some (.int .u32 b0):=by rw[cell_of_row w2 w.heap.size 1 _ 181 _ G0.out];rfl
 have r2:w2.cell? ⟨w.heap.size,2,none⟩=some (.int .u32 c0):=by rw[cell_of_row w2 w.heap.size 2 _ 181 _ G0.out];rfl
 have r3:w2.cell? ⟨w.heap.size,3,none⟩=some (.int .u32 d0):=by rw[cell_of_row w2 w.heap.size 3 _ 181 _ G0.out];rfl
 have r4:w2.cell? ⟨w.heap.size,4,none⟩=some (.int .u32 e0):=by rw[cell_of_row w2 w.heap.size 4 _ 181 _ G0.out];rfl
 go_wp2_with (refine wpList_store_mid rfl 165 _ _ rfl w1.heap.size 0 (row .u32 W).toArray rfl rfl HT.out T2.out T3.out ?_;rw[<-HW2.out])
 go_quiet (fail);go_wp2_with fail
 refine(zz3 _).mono ?_;rintro e w3 ⟨rfl,hb⟩;have HX3:Hid (Below w2.heap.size w2 w3):=(below_drewN _ w2 nq).trans hb;clear hb r0 r1 r2 r3 r4;have hz3:w2.heap.size<=w3.heap.size:=HX3.out.size;have HS3:Hid (w3.rangeAt w1.heap.size 0 (row .u32 W)):=fun j v hv=>(HX3.out.cell (p:=⟨w1.heap.size,0+j,none⟩) HZ2.out).trans (HS2.out j v hv)
 have HZ3:Hid (w1.heap.size<w3.heap.size):=Wqj HZ2.out hz3;have HB3:Hid (Below w.heap.size w w3):=(HB1.out.trans (HX2.out.mono (by omega))).trans (HX3.out.mono (by have:=HX2.out.size;omega))
 have G0:Hid (w3.heap[w.heap.size]? = some (.cells #[.int .u32 a0,.int .u32 b0,.int .u32 c0,.int .u32 d0,.int .u32 e0] 181 (0,0))):=(HX3.out.block _ (by have:=HZ2.out;omega)).trans G0.out;have G2:Hid (w3.heap[w.heap.size+1+1]? = some (.cells #[.int .u32 0,.int .u32 0,.int .u32 0,.int .u32 0,.int .u32 0] 181 (0,0))):=(HX3.out.block _ (by have:=HZ2.out;omega)).trans G2.out
 have hw13:w.heap.size+1+1<w3.heap.size:=by have:=HZ3.out;omega
 clear HX3 HX2 HW2 HB1 F0 F2 HT HS2 HZ2 hz3 hz1;rw[<-HK.out];go_wp2;go_loopg [6,7,8,9,10,29] 4 (fun k a b c d e i wr=>∃ (j:Nat) (s:S5),j<=4/\k=4-j/\i=.int .i64 j/\a=.int .u32 s.a/\b=.int .u32 s.b/\c=.int .u32 s.c/\d=.int .u32 s.d/\e=.int .u32 s.e/\Hid (s=rds W ⟨a0,b0,c0,d0,e0⟩ (20*j))/\Hid (Below w3.heap.size w3 wr))
 case atStart=>exact⟨0,⟨a0,b0,c0,d0,e0⟩,by omega,rfl,rfl,rfl,rfl,rfl,rfl,rfl,rfl,Below.refl _ _⟩
 obtain⟨wo,rfl⟩:∃ wo,wo=wr:=⟨_,rfl⟩;obtain⟨j,⟨a,b,c,d,e⟩,hj,hk,rfl,rfl,rfl,rfl,rfl,rfl,HSt,HB⟩:=hrel;by_cases hlt:j<4;rotate_left
 ·obtain rfl:j=4:=by omega
  have hwz:w3.heap.size<=wo.heap.size:=HB.out.size;have K0:Hid (wo.heap[w.heap.size]? = some (.cells #[.int .u32 a0,.int .u32 b0,.int .u32 c0,.int .u32 d0,.int .u32 e0] 181 (0,0))):=(HB.out.block _ (by omega)).trans G0.out;have K2:Hid (wo.there (w.heap.size+1+1) 0 5):=x9 ((HB.out.block _ (by omega)).trans G2.out) rfl
  have r0:wo.cell? ⟨w.heap.size,0,none⟩=some (.int .u32 a0):=by rw[cell_of_row wo w.heap.size 0 _ 181 _ K0.out];rfl
  have r1:wo.cell? ⟨w.heap.size,1,none⟩=some (.int .u32 b0):=by rw[cell_of_row wo w.heap.size 1 _ 181 _ K0.out];rfl
  have r2:wo.cell? ⟨w.heap.size,2,none⟩=some (.int .u32 c0):=by rw[cell_of_row wo w.heap.size 2 _ 181 _ K0.out];rfl
  have r3:wo.cell? ⟨w.heap.size,3,none⟩=some (.int .u32 d0):=by rw[cell_of_row wo w.heap.size 3 _ 181 _ K0.out];rfl
  have r4:wo.cell? ⟨w.heap.size,4,none⟩=some (.int .u32 e0):=by rw[cell_of_row wo w.heap.size 4 _ 181 _ K0.out];rfl
  have HF:Hid (U9 ⟨a0,b0,c0,d0,e0⟩ zs=⟨(a0+a) % 4294967296,(b0+b) % 4294967296,(c0+c) % 4294967296,(d0+d) % 4294967296,(e0+e) % 4294967296⟩):=hid (by unfold U9;rw[<-HW.out,<-HSt.out];rfl);have HBF:Hid (Below w.heap.size w wo):=HB3.out.trans (HB.out.mono (by omega));obtain⟨ha,hb,hc,hd,he⟩:S5.ok ⟨a,b,c,d,e⟩:=by rw[HSt.out];exact WJ W _ HS.out _
  obtain⟨ha1,ha2⟩:=ha;obtain⟨hb1,hb2⟩:=hb;obtain⟨hc1,hc2⟩:=hc;obtain⟨hd1,hd2⟩:=hd;obtain⟨he1,he2⟩:=he;obtain⟨ia1,ia2⟩:=ha0;obtain⟨ib1,ib2⟩:=hb0;obtain⟨ic1,ic2⟩:=hc0;obtain⟨id1,id2⟩:=hd0;obtain⟨ie1,ie2⟩:=he0;go_wp2_with (refine wpList_store_mid rfl 181 _ _ rfl (w.heap.size+1+1) 0 _ rfl rfl K2.out size181 (by simp[Value.oneCell']) ?_)
  refine bodyPost_ret (y6 Tryz.results92 _ _ (w.heap.size+1+1) _ _ rfl (World.rangeAt_setCells_same wo (w.heap.size+1+1) 0 _ K2.out) underlying181 rfl size181) rfl ⟨?_,below_setCells (by omega) _ _ _ _ HBF.out⟩;rw[HF.out]
 obtain⟨f,hidx,hcall,hf⟩:=qyY j hlt;rw[<-HK.out] at hidx;obtain⟨kq,HKQ⟩:=nn_ (ki (20*j));rw[<-HKQ.out] at hidx;have hwz:w3.heap.size<=wo.heap.size:=HB.out.size;obtain⟨m,HM⟩:=nn_ (20*j);have hm60:m<=60:=by have:=HM.out;omega
 have hjm:(j:Int)*20=(m:Int):=by have:=HM.out;omega
 have hjm2:((j:Int)+1)*20=((m+20:Nat):Int):=by have:=HM.out;omega
 have HT:Hid ((wo.alloc (.cells #[.nilFunc,.int .u32 0] 207)).there wo.heap.size 0 2):=x9 (heap_alloc_new wo _) rfl;obtain⟨w4,HW4⟩:=nn_ ((wo.alloc (.cells #[.nilFunc,.int .u32 0] 207)).setCells wo.heap.size 0 (#[.func (.func f) #[] #[],.int .u32 kq] : Array Value).toList)
 have HR4:Hid (w4.rangeAt wo.heap.size 0 [.func (.func f) #[] #[],.int .u32 kq]):=hid (by rw[HW4.out];exact World.rangeAt_setCells_same _ wo.heap.size 0 _ HT.out);have k0:w4.cell? ⟨wo.heap.size,0,none⟩=some (.func (.func f) #[] #[]):=HR4.out 0 _ rfl;have k1:w4.cell? ⟨wo.heap.size,1,none⟩=some (.int .u32 kq):=HR4.out 1 _ rfl
 have HX4:Hid (Below wo.heap.size wo w4):=hid (by rw[HW4.out];exact below_setCells (WzV _) _ _ _ _ ((Below.refl _ _).alloc (WzV _) _));have HB4:Hid (Below w3.heap.size w3 w4):=HB.out.trans (HX4.out.mono hwz)
 have HC4:Hid (∀ i,i<80->w4.cell? ⟨w1.heap.size,i,none⟩=some (.int .u32 (W.getD i 0))):=fun i hi=>(HB4.out.cell (p:=⟨w1.heap.size,i,none⟩) HZ3.out).trans (by have:=HS3.out i _ (vz .u32 W i (by omega));rwa [Wq7] at this);clear HX4 HB;have hsl:=fun w=>zk9 w1.heap.size m w hm60;obtain⟨cp,HCP⟩:=nn_ (80-m:Nat);rw[<-HCP.out] at hsl;rcases hf with rfl | rfl | rfl
 all_goals
  go_wp2_with (refine wpList_store_mid rfl 207 _ _ rfl wo.heap.size 0 _ rfl rfl HT.out size207 (by simp[Value.oneCell']) ?_;rw[<-HW4.out])
  go_loopg [6,7,8,9,10,40] 20 (fun k a b c d e i wr=>∃ (n:Nat) (s:S5),n<=20/\k=20-n/\i=.int .i64 n/\a=.int .u32 s.a/\b=.int .u32 s.b/\c=.int .u32 s.c/\d=.int .u32 s.d/\e=.int .u32 s.e/\Hid (s=rds W ⟨a0,b0,c0,d0,e0⟩ (m+n))/\Hid (∃ q,wr=w4.drewN q));case atStart=>exact⟨0,⟨a,b,c,d,e⟩,by omega,rfl,rfl,rfl,rfl,rfl,rfl,rfl,hid (by rw[Nat.add_zero,HM.out];exact HSt.out),⟨0,rfl⟩⟩
  case round =>
   clear HSt;obtain⟨n,⟨a,b,c,d,e⟩,hn,hk2,rfl,rfl,rfl,rfl,rfl,rfl,HSt,HQ⟩:=hrel;by_cases hn20:n<20;rotate_left
   ·obtain rfl:n=20:=(by omega);go_wp2;go_roundg (4-(j+1));case measure=>omega
    obtain⟨q,hq⟩:=HQ.out;exact⟨j+1,⟨a,b,c,d,e⟩,by omega,rfl,by go_num,rfl,rfl,rfl,rfl,rfl,hid (by rw[HSt.out,HM.out];rfl),hid (by rw[hq];exact HB4.out.trans (below_drewN _ _ _))⟩
   obtain⟨ha,hb,hc,hd,he⟩:S5.ok ⟨a,b,c,d,e⟩:=(by rw[HSt.out];exact WJ W _ HS.out _);obtain⟨x,HX⟩:=nn_ (W.getD (m+n) 0);have hx:U x:=(by rw[HX.out];exact hWw.at _);have hcl:wr.cell? ⟨w1.heap.size,m+n,none⟩=some (.int .u32 x):=(by obtain⟨q,hq⟩:=HQ.out;rw[hq,HX.out];exact HC4.out _ (by omega))
   have k0':wr.cell? ⟨wo.heap.size,0,none⟩=w4.cell? ⟨wo.heap.size,0,none⟩:=(by obtain⟨q,hq⟩:=HQ.out;rw[hq];rfl);have k1':wr.cell? ⟨wo.heap.size,1,none⟩=some (.int .u32 kq):=(by obtain⟨q,hq⟩:=HQ.out;rw[hq];exact k1);rw[k0] at k0';have hcn:=fun w=>same (hcall n b c d w hn20 hb hc hd);rw[<-HM.out] at hcn;obtain⟨fv,HF⟩:=nn_ (fi (m+n) b c d)
   have hfv:U fv:=(by rw[HF.out];exact D8 _ _ _ _);rw[<-HF.out] at hcn;obtain⟨t5,HT5⟩:=nn_ (Xy a);have ht5:U t5:=(by rw[HT5.out];exact D6 a);have hr5:=fun w=>same (rot5 a w ha);rw[<-HT5.out] at hr5;have hr30:=fun w=>rot30 b w hb;have hkq:U kq:=(by rw[HKQ.out];exact ki_bd _);obtain⟨ha1,ha2⟩:=ha;obtain⟨he1,he2⟩:=he;obtain⟨hx1,hx2⟩:=hx;obtain⟨hf1,hf2⟩:=hfv
   obtain⟨ht1,ht2⟩:=ht5;obtain⟨hq1,hq2⟩:=hkq;go_wp2;go_quiet (first | (go_at_call 106;exact Calls.quiet_of_same (hr5 _)) | (go_at_call 116;exact Calls.quiet_of_same (hcn _)) | (go_at_call 117;exact Calls.quiet_of_same (hcn _)) | (go_at_call 118;exact Calls.quiet_of_same (hcn _)));go_wp2_with (go_at_call 106;refine(hr30 _).mono ?_;rintro e w' ⟨rfl,rfl⟩)
   go_roundg (20-(n+1));case measure=>omega
   case rel =>
   refine⟨n+1,rd W (m+n) ⟨a,b,c,d,e⟩,by omega,rfl,by go_num,?_,rfl,rfl,rfl,rfl,hid ?_,?_⟩
   ·simp only[rd];rw[<-HT5.out,<-HF.out,<-HX.out,HM.out,zkq j n hn20,<-HKQ.out]
   ·rw[HSt.out];rfl
   obtain⟨q,hq⟩:=HQ.out;exact⟨q+nq,by rw[hq,World.drewN_drewN]⟩
theorem zz4 {P:Program} {ops:Array Oper} {o:Oper} {a:Act} {w:World} {K:Act->World->Prop} {Q:Exit->Act->World->Prop} {E:Prop} (hg:o.guard=none) (s x:Operand) (t:TypeId) (sv xv v:Value) (w2:World)
  (ho:o.op=.call { callee:=.builtin .copy,args:=#[s,x],argTypes:=#[t,t] }) (hs:a.eval s=sv) (hx:a.eval x=xv) (hrun:(Builtin.copy_ #[t,t] o.type #[sv,xv]).run P w=.ok v w2) (h:K (a.put o.dst v) w2) :
  if Region.wanted o (yielded ops a.tmps)=true then Oper.wp P o a w K Q else E:=by
 have hw:Region.wanted o (yielded ops a.tmps)=true:=by simp[Region.wanted,hg]
 rw[if_pos hw];unfold Oper.wp execOp;simp only[ho,resolve,invoke,builtin,Sem.run_bind,Sem.run_pure,Result.andThen_ok,List.map_toArray,Wxj,Wxk,hs,hx,hrun];exact h
def WK:S5:=⟨1732584193,4023233417,2562383102,271733878,3285377520⟩
theorem zkj:WK.ok:=by refine⟨⟨?_,?_⟩,⟨?_,?_⟩,⟨?_,?_⟩,⟨?_,?_⟩,?_,?_⟩ <;> decide
def ab (l:List Int):Nat->S5
 | 0=>WK
 | k+1=>U9 (ab l k) ((l.drop (64*k)).take 64)
theorem FV (l:List Int):∀ k,(ab l k).ok
 | 0=>zkj
 | k+1=>zk7 _ _
theorem A7 (l m:List Int):∀ k,64*k<=l.length->ab (l++m) k=ab l k
 | 0,_=>rfl
 | k+1,h=>by
  rw[ab,ab,A7 l m k (by omega),List.drop_append_of_le_length (by omega),List.take_append_of_le_length (by rw[Wz8];omega)]
def be8 (n:Nat) (j:Nat):Int:=((n / 2 ^ (8*(7-j)) % 256:Nat):Int)
def vq (n:Nat):Nat:=(64-(n+9) % 64) % 64
def jk (n:Nat):List Int:=128 :: WqV (vq n) 0++(WqK 8).map (be8 (8*n))
theorem X6 (n:Nat):(jk n).length=9+vq n:=by simp[jk];omega
theorem Lx (n:Nat):vq n<=63:=by unfold vq;omega
theorem zkk (n:Nat):(n+(jk n).length) % 64=0:=by rw[X6];unfold vq;omega
theorem T7 (n:Nat):IsB (jk n):=by
 intro x hx;simp only[jk,List.cons_append,List.mem_cons,WqX,List.mem_replicate,Wx9] at hx;rcases hx with rfl | ⟨-,rfl⟩ | ⟨j,-,rfl⟩
 ·omega
 ·omega
 unfold be8;have:8*n / 2 ^ (8*(7-j)) % 256<256:=Nat.mod_lt _ (by omega);omega
def xV (s:S5) (j:Nat):List Int:=(WqK 20).map fun i=>if i<j then s.l.getD (i / 4) 0 / 2 ^ (24-8*(i % 4)) % 256 else 0
theorem Zv (s:S5) (j:Nat):(xV s j).length=20:=by simp[xV]
theorem jY (s:S5) (j:Nat) (h:j<20):xV s (j+1)=(xV s j).set j (s.l.getD (j / 4) 0 / 2 ^ (24-8*(j % 4)) % 256):=by
 apply Wy0 (by simp[xV]);intro i h1 h2;rw[List.getElem_set];simp only[xV,List.getElem_map,List.getElem_range];by_cases e:j=i
 ·subst e;rw[if_pos (by omega),if_pos rfl]
 rw[if_neg e];by_cases h:i<j
 ·rw[if_pos (by omega),if_pos h]
 rw[if_neg (by omega),if_neg h]
def z20:List Int:=WqV 20 0
theorem WV (s:S5):xV s 0=z20:=rfl
def sha (l:List Int):List Int:=xV (ab (l++jk l.length) ((l++jk l.length).length / 64)) 20
theorem kV (l:List Int):(sha l).length=20:=Zv _ _
theorem IsB.app {l m:List Int} (h:IsB l) (k:IsB m):IsB (l++m):=fun x hx=>(WqX.1 hx).elim (h x) (k x)
theorem IsB.take {l:List Int} (h:IsB l) (n:Nat):IsB (l.take n):=fun x hx=>h x (List.mem_of_mem_take hx)
theorem IsB.drop {l:List Int} (h:IsB l) (n:Nat):IsB (l.drop n):=fun x hx=>h x (List.mem_of_mem_drop hx)
structure Dig (w:World) (D:Nat) (l:List Int):Prop where
 lt:D<w.heap.size
 sum:∀ i,i<5->w.cell? ⟨D,i,none⟩=some (.int .u32 ((ab l (l.length / 64)).l.getD i 0))
 rest:∃ rs:List Int,rs.length=64/\IsB rs/\(∀ i,i<64->w.cell? ⟨D,5+i,none⟩=some (.int .u8 (rs.getD i 0)))/\∀ i,i<l.length % 64->rs.getD i 0=l.getD (64*(l.length / 64)+i) 0
 size:w.cell? ⟨D,69,none⟩=some (.int .u64 l.length)
 fz:∀ i,w.frozen? ⟨D,i,none⟩=false
theorem Dig.keep {w w':World} {D:Nat} {l:List Int} {row:Option Nat} (h:Dig w D l) (hg:w.grownBy w' row) (hr:some D ≠ row):Dig w' D l:=by
 have c:∀ i,w'.cell? ⟨D,i,none⟩=w.cell? ⟨D,i,none⟩:=fun i=>hg.cell_far ⟨D,i,none⟩ h.lt hr;have f:∀ i,w'.frozen? ⟨D,i,none⟩=w.frozen? ⟨D,i,none⟩:=fun i=>hg.frozen_far ⟨D,i,none⟩ h.lt hr;obtain⟨rs,h1,h2,h3,h4⟩:=h.rest
 exact⟨Wqj h.lt hg.size,fun i hi=>(c i).trans (h.sum i hi),⟨rs,h1,h2,fun i hi=>(c _).trans (h3 i hi),h4⟩,(c _).trans h.size,fun i=>(f i).trans (h.fz i)⟩
theorem yZ {w w':World} (h:Below w.heap.size w w') (row:Option Nat):w.grownBy w' row:=⟨h.os,h.tape,h.output,h.size,fun k hk _=>h.block k hk⟩
theorem x8 (g:Nat):∀ (vs:List Value) (o:Nat) (w0 w:World),w0.grownBy w (some g)->w0.grownBy (w.setCells g o vs) (some g)
 | [],_,_,_,h=>h
 | v :: r,o,w0,w,h=>x8 g r (o+1) w0 _ ⟨h.os,h.tape,h.output,by simpa [World.setCell] using h.size,fun k hk hne=>(Below.heap_setCell w ⟨g,o,none⟩ v k (fun e=>hne (by rw[e]))).trans (h.block k hk hne)⟩
theorem GX {w0 w:World} {g i:Nat} (v:Value) (h:w0.grownBy w (some g)):w0.grownBy (w.setCell ⟨g,i,none⟩ v) (some g):=x8 g [v] i w0 w h
theorem A8 {w0 w:World} {r:Option Nat} (h:w0.grownBy w r):w0.grownBy w.drew r:=⟨h.os,h.tape,h.output,h.size,h.block⟩
theorem D9 (l m:List Int) (i:Nat):(l++m).getD i 0=if i<l.length then l.getD i 0 else m.getD (i-l.length) 0:=by
 rw[List.getD_eq_getElem?_getD,List.getElem?_append];split <;> simp
theorem wrap_u64 (n:Nat) (h:n<18446744073709551616):IntKind.u64.wrap (n:Int)=n:=by
 rw[IntKind.wrap_u64];omega
theorem qqv:prog.underlying 22=some (.slice (prog.elem 22)):=by kernel_rfl
theorem FW (w:World):(sizeOf (prog.elem 22)).run prog w=.ok 1 w:=by kernel_rfl
theorem zkv (b o L cp m:Nat) (w:World) (h1:m<=L) (h2:L<=cp):(Instr.slice 22 (.slice (some ⟨b,o,none⟩) L cp) (some (.int .i64 m)) none none).run prog w=.ok (.slice (if cp=m then some ⟨b,o,none⟩ else some ⟨b,o+m,none⟩) (L-m:Nat) (cp-m:Nat)) w:=by
 rw[run_slice_l w 22 _ L cp qqv .i64 m (by omega) (by omega),FW];simp only[Result.andThen_ok,sliced];by_cases h:cp=m
 ·simp[h]
 simp[h,addr_add]
def upd (rs:List Int) (r:Nat) (ck:List Int):List Int:=(WqK 64).map fun i=>if i<r then rs.getD i 0 else if i<r+ck.length then ck.getD (i-r) 0 else rs.getD i 0
theorem Vk (rs:List Int) (r:Nat) (ck:List Int):(upd rs r ck).length=64:=by simp[upd]
theorem Lj (rs:List Int) (r:Nat) (ck:List Int) (i:Nat) (h:i<64):(upd rs r ck).getD i 0=if i<r then rs.getD i 0 else if i<r+ck.length then ck.getD (i-r) 0 else rs.getD i 0:=by simp[upd,h]
theorem Lk (rs:List Int) (r:Nat) (ck:List Int) (h1:IsB rs) (h2:IsB ck):IsB (upd rs r ck):=by
 intro x hx;simp only[upd,Wx9,List.mem_range] at hx;obtain⟨i,-,rfl⟩:=hx;split
 ·exact h1.at _
 split
 ·exact h2.at _
 exact h1.at _
theorem zz5 {w:World} {D r:Nat} {rs ck:List Int} (hc:∀ i,i<64->w.cell? ⟨D,5+i,none⟩=some (.int .u8 (rs.getD i 0))) (hm:r+ck.length<=64) :
  ∀ i,i<64->(w.setCells D (5+r) (row .u8 ck)).cell? ⟨D,5+i,none⟩=some (.int .u8 ((upd rs r ck).getD i 0)):=by
 intro i hi;rw[Lj rs r ck i hi];by_cases h1:i<r
 ·rw[if_pos h1,World.cell?_setCells_out D _ _ w _ (fun _ _=>Or.inl (by simp;omega))];exact hc i hi
 rw[if_neg h1];by_cases h2:i<r+ck.length
 ·rw[if_pos h2];have:=World.cell?_setCells_in D (row .u8 ck) (5+r) w (fun j hj=>by rw[zu] at hj;rw[WzQ,hc (r+j) (by omega)];rfl) (i-r) (by rw[zu];omega);rw[show 5+r+(i-r)=5+i from by omega] at this;rw[this];have h3:i-r<ck.length:=by omega
  simp[row,h3]
 rw[if_neg h2,World.cell?_setCells_out D _ _ w _ (fun _ _=>Or.inr (by rw[zu];simp;omega))];exact hc i hi
theorem zxq {l m:List Int} (h:l.length=m.length) (hg:∀ i,i<l.length->l.getD i 0=m.getD i 0):l=m:=by
 apply Wy0 h;intro i h1 h2;have:=hg i h1;rw[List.getD_eq_getElem?_getD,List.getD_eq_getElem?_getD,List.getElem?_eq_getElem h1,List.getElem?_eq_getElem h2] at this;exact this
theorem zxx (l0 rs ck:List Int) (r:Nat) (hr:r=l0.length % 64) (hm:r+ck.length=64) (hre:∀ i,i<r->rs.getD i 0=l0.getD (64*(l0.length / 64)+i) 0) :
  upd rs r ck=((l0++ck).drop (64*(l0.length / 64))).take 64:=by
 apply zxq
 ·rw[Vk,Wzz,Wz8,Wz6];omega
 intro i h1;have hi:i<64:=by rw[Vk] at h1;exact h1
 have e2:(((l0++ck).drop (64*(l0.length / 64))).take 64).getD i 0=(l0++ck).getD (64*(l0.length / 64)+i) 0:=by
  rw[List.getD_eq_getElem?_getD,List.getElem?_take,if_pos hi,List.getElem?_drop,<-List.getD_eq_getElem?_getD]
 rw[e2,Lj rs r ck i hi,D9];by_cases h:i<r
 ·rw[if_pos h,if_pos (by omega)];exact hre i h
 rw[if_neg h,if_pos (by omega),if_neg (by omega)];congr 1;omega
theorem Dz {w:World} {D:Nat} {k:IntKind} {l:List Int} (o:Nat) (h:∀ i,i<l.length->w.cell? ⟨D,o+i,none⟩=some (.int k (l.getD i 0))):w.rangeAt D o (row k l):=fun j v hv=>by
 have hj:j<l.length:=by rcases WzW j l.length with h | h;exact h;rw[List.getElem?_eq_none (by rw[zu];exact h)] at hv;cases hv
 rw[vz k l j hj] at hv;cases hv
 exact h j hj
theorem WW {wr:World} {D r p:Nat} {l0 rs ck:List Int} (hD:Dig wr D l0) (hrc:∀ i,i<64->wr.cell? ⟨D,5+i,none⟩=some (.int .u8 (rs.getD i 0))) (hm:r+ck.length<=64) (W:World) (hW:W=(wr.drew.setCells D (5+r) (row .u8 ck)).setCell ⟨D,69,none⟩ (.int .u64 p)) :
  D<W.heap.size/\(∀ i,i<5->W.cell? ⟨D,i,none⟩=some (.int .u32 ((ab l0 (l0.length / 64)).l.getD i 0)))/\(∀ i,i<64->W.cell? ⟨D,5+i,none⟩=some (.int .u8 ((upd rs r ck).getD i 0)))/\W.cell? ⟨D,69,none⟩=some (.int .u64 p)/\∀ i,W.frozen? ⟨D,i,none⟩=false:=by
 have c69:(wr.drew.setCells D (5+r) (row .u8 ck)).cell? ⟨D,69,none⟩=some (.int .u64 l0.length):=by rw[World.cell?_setCells_out D _ _ _ _ (fun _ _=>Or.inr (by rw[zu];simp;omega))];exact hD.size
 subst hW;refine⟨?_,fun i hi=>?_,fun i hi=>?_,World.cell?_setCell_same _ _ _ c69,fun i=>?_⟩
 ·have:=hD.lt;simp only[World.setCell];simp[size_setCells];exact this
 ·rw[World.cell?_setCell_other _ _ _ _ (by intro h;simp only[Addr.mk.injEq] at h;omega),World.cell?_setCells_out D _ _ _ _ (fun _ _=>Or.inl (by simp;omega))];exact hD.sum i hi
 ·rw[World.cell?_setCell_other _ _ _ _ (by intro h;simp only[Addr.mk.injEq] at h;omega)];exact zz5 (w:=wr.drew) hrc hm i hi
 rw[World.frozen?_setCell,World.frozen?_setCells];exact hD.fz i
theorem WY {w wr:World} {D r p:Nat} {ck:List Int} (h:w.grownBy wr (some D)):w.grownBy ((wr.drew.setCells D (5+r) (row .u8 ck)).setCell ⟨D,69,none⟩ (.int .u64 p)) (some D):=GX _ (x8 D _ _ _ _ (A8 h))
theorem zxj {W:World} {D r p:Nat} {l0 rs ck:List Int} (h:D<W.heap.size/\(∀ i,i<5->W.cell? ⟨D,i,none⟩=some (.int .u32 ((ab l0 (l0.length / 64)).l.getD i 0)))/\(∀ i,i<64->W.cell? ⟨D,5+i,none⟩=some (.int .u8 ((upd rs r ck).getD i 0)))/\W.cell? ⟨D,69,none⟩=some (.int .u64 p)/\∀ i,W.frozen? ⟨D,i,none⟩=false)
  (hr:r=l0.length % 64) (hm:r+ck.length<64) (hp:p=l0.length+ck.length) (hrb:IsB rs) (hckb:IsB ck) (hre:∀ i,i<l0.length % 64->rs.getD i 0=l0.getD (64*(l0.length / 64)+i) 0):Dig W D (l0++ck):=by
 obtain⟨h1,h2,h3,h4,h5⟩:=h;have hl:(l0++ck).length=l0.length+ck.length:=Wz6;have hdiv:(l0++ck).length / 64=l0.length / 64:=by rw[hl];omega
 refine⟨h1,fun i hi=>?_,⟨upd rs r ck,Vk _ _ _,Lk _ _ _ hrb hckb,h3,fun i hi=>?_⟩,by rw[h4,hp,hl],h5⟩
 ·rw[hdiv,A7 _ _ _ (by omega)];exact h2 i hi
 rw[hdiv,Lj _ _ _ _ (by omega),D9];rw[hl] at hi;by_cases h:i<r
 ·rw[if_pos h,if_pos (by omega)];exact hre i (by omega)
 rw[if_neg h,if_pos (by omega),if_neg (by omega)];congr 1;omega
theorem zxk {W:World} {D r p:Nat} {l0 rs ck:List Int} {z:List Int} (h1:D<W.heap.size) (h2:∀ i,i<5->(W.cell? ⟨D,i,none⟩).isSome=true) (h3:∀ i,i<64->W.cell? ⟨D,5+i,none⟩=some (.int .u8 ((upd rs r ck).getD i 0))) (h4:W.cell? ⟨D,69,none⟩=some (.int .u64 p)) (h5:∀ i,W.frozen? ⟨D,i,none⟩=false)
  (hr:r=l0.length % 64) (hm:r+ck.length=64) (hp:p=l0.length+ck.length) (hrb:IsB rs) (hckb:IsB ck) (hre:∀ i,i<l0.length % 64->rs.getD i 0=l0.getD (64*(l0.length / 64)+i) 0) (hz:z=(U9 (ab l0 (l0.length / 64)) (upd rs r ck)).l):Dig (W.setCells D 0 (row .u32 z)) D (l0++ck):=by
 have hl:(l0++ck).length=l0.length+ck.length:=Wz6;have hdiv:(l0++ck).length / 64=l0.length / 64+1:=by rw[hl];omega
 have hzl:z.length=5:=by rw[hz];rfl
 have hab:ab (l0++ck) ((l0++ck).length / 64)=U9 (ab l0 (l0.length / 64)) (upd rs r ck):=by
  rw[hdiv,ab,A7 _ _ _ (by omega),zxx l0 rs ck r hr hm (fun i hi=>hre i (by omega))]
 have hin:=World.cell?_setCells_in D (row .u32 z) 0 W (fun j hj=>by rw[zu,hzl] at hj;rw[Wq7];exact h2 j hj);refine⟨by rw[size_setCells];exact h1,fun i hi=>?_,⟨upd rs r ck,Vk _ _ _,Lk _ _ _ hrb hckb,fun i hi=>?_,fun i hi=>?_⟩,?_,fun i=>by rw[World.frozen?_setCells];exact h5 i⟩
 ·have:=hin i (by rw[zu,hzl];exact hi);rw[Wq7] at this;rw[this,hab,<-hz];have h3:i<z.length:=by omega
  simp[row,h3]
 ·rw[World.cell?_setCells_out D _ _ _ _ (fun _ _=>Or.inr (by rw[zu,hzl];simp))];exact h3 i hi
 ·rw[hl] at hi;omega
 rw[World.cell?_setCells_out D _ _ _ _ (fun _ _=>Or.inr (by rw[zu,hzl];simp)),h4,hp,hl]
set_option maxHeartbeats 8000000 in
theorem JX (D:Nat) (l:List Int) (a:Option Addr) (cap:Nat) (zs:List Int) (w:World) (hD:Dig w D l) (hl:l.length+zs.length<=700000) (hlb:IsB l) (hz:IsB zs) (hc:0<zs.length->∃ b off,a=some ⟨b,off,none⟩/\b<w.heap.size/\b ≠ D/\At w b off zs/\zs.length<=cap) :
  Calls prog 65 #[.pointer (some ⟨D,0,none⟩),.slice a zs.length cap] w fun e w'=>e=.returned (.tuple #[])/\Dig w' D (l++zs)/\w.grownBy w' (some D):=by
 obtain⟨b,off,HC⟩:∃ b off,Hid (0<zs.length->a=some ⟨b,off,none⟩/\b<w.heap.size/\b ≠ D/\At w b off zs/\zs.length<=cap):=by
  by_cases h:0<zs.length
  ·obtain⟨b,off,h1,h2⟩:=hc h;exact⟨b,off,fun _=>⟨h1,h2⟩⟩
  exact⟨0,0,fun h'=>absurd h' h⟩
 clear hc;have HD:Hid (Dig w D l):=hD;clear hD;go_enter func65,ntmps65;go_wp2;go_loopg [1] zs.length (fun g s wr=>∃ (k:Nat) (ao:Option Addr) (cp:Nat),k<=zs.length/\g=zs.length-k/\s=.slice ao (zs.length-k:Nat) cp/\Hid (k<zs.length->ao=some ⟨b,off+k,none⟩/\zs.length-k<=cp)/\Hid (Dig wr D (l++zs.take k))/\Hid (w.grownBy wr (some D)))
 case atStart=>exact⟨0,a,cap,by omega,rfl,rfl,fun h=>⟨(HC.out h).1,(HC.out h).2.2.2.2⟩,hid (by simpa using HD.out),World.grownBy.refl _ _⟩
 obtain⟨k,ao,cp,hk,hg,rfl,HA,HDw,HG⟩:=hrel;obtain⟨L,HL⟩:=nn_ (zs.length-k);rw[<-HL.out];by_cases hlt:k<zs.length;rotate_left
 ·have hkz:k=zs.length:=by omega
  have hL0:L=0:=by have:=HL.out;omega
  subst hL0;subst hkz;go_wp2;go_end0;exact⟨rfl,by have:=HDw.out;rwa [List.take_length] at this,HG.out⟩
 obtain⟨rfl,hcp⟩:=HA.out hlt;rw[<-HL.out] at hcp;obtain⟨n,HN⟩:=nn_ (l.length+k);have hlen:(l++zs.take k).length=n:=by rw[HN.out,Wz6,Wzz];omega
 have hn7:n<700000:=by have:=HN.out;omega
 obtain⟨r,HR⟩:=nn_ (n % 64);have hr64:r<64:=by have:=HR.out;omega
 have hL0:0<L:=by have:=HL.out;omega
 have hrr:(n:Int).tmod 64=(r:Int):=by rw[Wyu (by omega)];have:=HR.out;omega
 obtain⟨rs,hrl,hrb,hrc,hre⟩:=HDw.out.rest;rw[hlen] at hre;have hsz:=HDw.out.size;rw[hlen] at hsz;have hfz:=HDw.out.fz;obtain⟨q,HQ⟩:=nn_ (64-r:Nat);obtain⟨m,HM⟩:=nn_ (min L q);have hm1:0<m:=by have:=HM.out;have:=HQ.out;omega
 have hmL:m<=L:=by have:=HM.out;omega
 have hmq:r+m<=64:=by have:=HM.out;have:=HQ.out;omega
 obtain⟨ck,HCK⟩:=nn_ ((zs.drop k).take m);have hckl:ck.length=m:=by rw[HCK.out,Wzz,Wz8];have:=HL.out;omega
 have hckb:IsB ck:=by rw[HCK.out];exact(hz.drop k).take m
 obtain⟨-,hbw,hbD,hat,-⟩:=HC.out (by omega);have hsl:=fun w=>zkz D 5 r w hr64;rw[<-HQ.out] at hsl;have hcp2:(Builtin.copy_ #[22,22] 3 #[.slice (some ⟨D,5+r,none⟩) q q,.slice (some ⟨b,off+k,none⟩) L cp]).run prog wr.drew=.ok (.int .i64 m) (wr.drew.setCells D (5+r) (row .u8 ck)):=by
  have:=run_copy_cells (P:=prog) wr.drew 22 22 3 5 D (5+r) q q ⟨b,off+k,none⟩ L cp (row .u8 ck) underlying22 size5 (by rw[zu,hckl];exact HM.out)
   (fun j v hj=>by
    have hjm:j<ck.length:=by rcases WzW j ck.length with h | h;exact h;rw[List.getElem?_eq_none (by rw[zu];exact h)] at hj;cases hj
    rw[vz .u8 ck j hjm] at hj
    cases hj
    rw[addr_add]
    have hkj:k+j<zs.length:=by have:=HL.out;omega
    have h1:wr.cell? ⟨b,off+k+j,none⟩=some (.int .u8 (zs.getD (k+j) 0)):=by
     rw[WzQ]
     exact(HG.out.cell_far ⟨b,off+(k+j),none⟩ hbw (by simpa using hbD)).trans (hat _ hkj)
    have h2:ck.getD j 0=zs.getD (k+j) 0:=by
     rw[HCK.out,List.getD_eq_getElem?_getD,List.getElem?_take,if_pos (by omega),List.getElem?_drop,List.getD_eq_getElem?_getD]
    rw[h2];exact h1)
   (fun j hj=>by rw[zu,hckl] at hj;rw[WzQ];show (wr.cell? ⟨D,5+(r+j),none⟩).isSome=true;rw[hrc (r+j) (by omega)];rfl)
   (fun j _=>hfz _) (row_one _ _)
  rw[this,zu,hckl];rfl
 obtain⟨w2,HW2⟩:=nn_ (wr.drew.setCells D (5+r) (row .u8 ck));rw[<-HW2.out] at hcp2;replace hrc:=hid hrc;go_wp2;go_region_law (refine zz4 (by rfl) _ _ 22 _ _ _ _ (by rfl) (by rfl) (by rfl) hcp2 ?_);all_goals
  have c69:w2.cell? ⟨D,69,none⟩=some (.int .u64 n):=by rw[HW2.out,World.cell?_setCells_out D _ _ _ _ (fun _ _=>Or.inr (by rw[zu,hckl];simp;omega))];exact hsz
  have f69:w2.frozen? ⟨D,69,none⟩=false:=by rw[HW2.out,World.frozen?_setCells];exact hfz 69
  obtain⟨p,HP⟩:=nn_ (n+m);have hwm:IntKind.u64.wrap (m:Int)=m:=wrap_u64 m (by have:=HL.out;have:=HN.out;omega);have hwn:IntKind.u64.wrap ((n:Int)+m)=(p:Int):=by rw[show (n:Int)+m=(p:Int) from by have:=HP.out;omega];exact wrap_u64 p (by have:=HP.out;have:=HL.out;have:=HN.out;omega)
  obtain⟨ao2,HA2⟩:∃ ao2:Option Addr,Hid (ao2=if cp=m then some ⟨b,off+k,none⟩ else some ⟨b,off+k+m,none⟩):=⟨_,rfl⟩;have hsl2:=fun w=>zkv b (off+k) L cp m w hmL hcp;rw[<-HA2.out] at hsl2;obtain⟨L2,HL2⟩:=nn_ (L-m);obtain⟨cp2,HC2⟩:=nn_ (cp-m);rw[<-HL2.out,<-HC2.out] at hsl2;clear hcp2 hsl hrr;replace hlen:=hid hlen;replace hckl:=hid hckl;replace hre:=hid hre;replace hrl:=hid hrl
  replace hrb:=hid hrb;replace hat:=hid hat
  replace hfz:=hid hfz;replace hsz:=hid hsz;replace hmq:=hid hmq;replace hckb:=hid hckb;by_cases hfull:r+m=64
  ·replace hfull:=hid hfull;have htm:(p:Int).tmod 64=0:=(by rw[Wyu (by omega)];have:=HR.out;have:=hfull.out;have:=HP.out;omega);have htm2:((p:Int) % 64 == 0)=true:=(by rw[Wyu (by omega)] at htm;simpa using htm);go_wp2;obtain⟨w3,HW3⟩:=nn_ (w2.setCell ⟨D,69,none⟩ (.int .u64 p));rw[<-HW3.out]
   have e1:Hid (l++zs.take (k+m)=(l++zs.take k)++ck):=hid (by rw[HCK.out,Wz1,Wxv]);have N:=WW HDw.out hrc.out (by rw[hckl.out];exact hmq.out) w3 (by rw[HW3.out,HW2.out]);have NG:Hid (w.grownBy w3 (some D)):=hid (by rw[HW3.out,HW2.out];exact WY HG.out);rw[hlen.out] at N;obtain⟨us,HUS⟩:=nn_ (upd rs r ck)
   obtain⟨s0,HS0⟩:=nn_ (ab (l++zs.take k) (n / 64));rw[<-HUS.out,<-HS0.out] at N;have hs0:s0.ok:=(by rw[HS0.out];exact FV _ _);have husl:us.length=64:=(by rw[HUS.out];exact Vk _ _ _);have husb:IsB us:=(by rw[HUS.out];exact Lk _ _ _ hrb.out hckb.out);obtain⟨s1,HS1⟩:=nn_ (U9 s0 us);have hwith:=fun w=>zxz s0 us w hs0 husl husb;rw[<-HS1.out] at hwith
   obtain⟨a0,b0,c0,d0,e0⟩:=s0;obtain⟨x0,x1,x2,x3,x4⟩:=s1;have hwith':∀ w1:World,Calls prog 92 #[.agg #[.int .u32 a0,.int .u32 b0,.int .u32 c0,.int .u32 d0,.int .u32 e0],.agg (row .u8 us).toArray] w1 fun e w'=>e=.returned (.agg #[.int .u32 x0,.int .u32 x1,.int .u32 x2,.int .u32 x3,.int .u32 x4])/\Below w1.heap.size w1 w':=hwith
   clear hwith
   have q0:w3.cell? ⟨D,0,none⟩=some (.int .u32 a0):=N.2.1 0 (by omega);have q1:w3.cell? ⟨D,1,none⟩=some (.int .u32 b0):=N.2.1 1 (by omega);have q2:w3.cell? ⟨D,2,none⟩=some (.int .u32 c0):=N.2.1 2 (by omega);have q3:w3.cell? ⟨D,3,none⟩=some (.int .u32 d0):=N.2.1 3 (by omega);have q4:w3.cell? ⟨D,4,none⟩=some (.int .u32 e0):=N.2.1 4 (by omega)
   have hi41:(prog.info? 108).map (·.size)=some (row .u8 us).length:=(by rw[zu,husl];exact size108);have hu41:=underlying108;have hul:(row .u8 us).length=64:=(by rw[zu,husl]);have h1c:=row_one .u8 us;have N1:w3.rangeAt D 5 (row .u8 us):=Dz 5 (fun i hi=>N.2.2.1 i (by omega))
   have NC:∀ w4,Below w3.drew.heap.size w3.drew w4->(∀ i,w4.cell? ⟨D,i,none⟩=w3.cell? ⟨D,i,none⟩)/\(∀ i,w4.frozen? ⟨D,i,none⟩=false):=fun w4 hb4=>⟨fun i=>hb4.cell (p:=⟨D,i,none⟩) N.1,fun i=>(hb4.frozen (p:=⟨D,i,none⟩) N.1).trans (N.2.2.2.2 i)⟩;have NK:Hid (∀ w4,Below w3.drew.heap.size w3.drew w4->w4.rangeAt D 5 (row .u8 us)):=fun w4 hb4 j v hv=>((NC w4 hb4).1 _).trans (N1 j v hv)
   have NS:Hid (∀ (W:World) (v0 v1 v2 v3 v4:Value),W.rangeAt D 5 (row .u8 us)->(((((W.setCell ⟨D,0,none⟩ v0).setCell ⟨D,1,none⟩ v1).setCell ⟨D,2,none⟩ v2).setCell ⟨D,3,none⟩ v3).setCell ⟨D,4,none⟩ v4).rangeAt D 5 (row .u8 us)):=fun W v0 v1 v2 v3 v4 h j v hv=>by
    rw[World.cell?_setCell_other _ _ _ _ (by intro h;simp only[Addr.mk.injEq] at h;omega),World.cell?_setCell_other _ _ _ _ (by intro h;simp only[Addr.mk.injEq] at h;omega),World.cell?_setCell_other _ _ _ _ (by intro h;simp only[Addr.mk.injEq] at h;omega),World.cell?_setCell_other _ _ _ _ (by intro h;simp only[Addr.mk.injEq] at h;omega),World.cell?_setCell_other _ _ _ _ (by intro h;simp only[Addr.mk.injEq] at h;omega)]
    exact h j v hv
   have NF:Hid (∀ w4,Below w3.drew.heap.size w3.drew w4->Dig (((((w4.setCell ⟨D,0,none⟩ (.int .u32 x0)).setCell ⟨D,1,none⟩ (.int .u32 x1)).setCell ⟨D,2,none⟩ (.int .u32 x2)).setCell ⟨D,3,none⟩ (.int .u32 x3)).setCell ⟨D,4,none⟩ (.int .u32 x4)) D ((l++zs.take k)++ck)/\w.grownBy (((((w4.setCell ⟨D,0,none⟩ (.int .u32 x0)).setCell ⟨D,1,none⟩ (.int .u32 x1)).setCell ⟨D,2,none⟩ (.int .u32 x2)).setCell ⟨D,3,none⟩ (.int .u32 x3)).setCell ⟨D,4,none⟩ (.int .u32 x4)) (some D)):=hid (by
    intro w4 hb4;obtain⟨c4,f4⟩:=NC w4 hb4;refine⟨?_,?_⟩
    ·have:=zxk (W:=w4) (z:=[x0,x1,x2,x3,x4]) (r:=r) (p:=p) (rs:=rs) (l0:=l++zs.take k) (ck:=ck) (Wqj N.1 hb4.size) (fun i hi=>by rw[c4,N.2.1 i hi];rfl) (fun i hi=>by rw[c4,<-HUS.out];exact N.2.2.1 i hi) ((c4 _).trans N.2.2.2.1) f4 (by rw[hlen.out];exact HR.out) (by rw[hckl.out];exact hfull.out) (by rw[hlen.out,hckl.out];exact HP.out) hrb.out hckb.out (by rw[hlen.out];exact hre.out) (by rw[hlen.out,<-HUS.out,<-HS0.out,<-HS1.out];rfl)
     exact this
    exact x8 D [.int .u32 x0,.int .u32 x1,.int .u32 x2,.int .u32 x3,.int .u32 x4] 0 _ _ (NG.out.trans (yZ (w:=w3) ⟨hb4.os,hb4.tape,hb4.output,hb4.size,hb4.block⟩ _)))
   replace N:=hid N;replace NC:=hid NC;clear c69 f69;have N1d:w3.drew.rangeAt D 5 (row .u8 us):=N1;clear N1 h1c hul hu41 hwm hwn hsl2 htm htm2;refine wp_region_held_drew (S:=fun w'=>w'.rangeAt D 5 (row .u8 us)) (by kernel_rfl) N1d (fun hHeld=>?_);refine wpAnyH_take (i:=0) (v:=?_) rfl (by kernel_rfl) (by kernel_rfl) (by kernel_rfl) (fun _ _ _ h=>h) (Or.inl ⟨by rfl,?_⟩) hHeld ?_
   rotate_left
   ·intro w hSw;go_simp;rfl
   (try simp only[Act.put,sL]);refine wpAnyH_take (i:=1) (v:=?_) rfl (by kernel_rfl) (by kernel_rfl) (by kernel_rfl) (fun _ _ _ h=>h) (Or.inl ⟨by rfl,?_⟩) hHeld ?_;rotate_left
   ·intro w hSw;go_simp;rfl
   (try simp only[Act.put,sL]);refine wpAnyH_take (i:=2) (v:=?_) rfl (by kernel_rfl) (by kernel_rfl) (by kernel_rfl) (fun _ _ _ h=>h) (Or.inl ⟨by rfl,?_⟩) hHeld ?_;rotate_left
   ·intro w hSw;go_simp;rfl
   (try simp only[Act.put,sL]);refine wpAnyH_take (i:=3) (v:=?_) rfl (by kernel_rfl) (by kernel_rfl) (by kernel_rfl) (fun _ _ _ h=>h) (Or.inl ⟨by rfl,?_⟩) hHeld ?_;rotate_left
   ·intro w hSw;go_simp;rfl
   (try simp only[Act.put,sL]);refine wpAnyH_take (i:=5) (v:=?_) rfl (by kernel_rfl) (by kernel_rfl) (by kernel_rfl) (fun _ _ _ h=>h) (Or.inl ⟨by rfl,?_⟩) hHeld ?_;rotate_left
   ·intro w hSw;go_simp;rfl
   (try simp only[Act.put,sL]);refine wpAnyH_take (i:=6) (v:=?_) rfl (by kernel_rfl) (by kernel_rfl) (by kernel_rfl) (fun _ _ _ h=>h) (Or.inl ⟨by rfl,?_⟩) hHeld ?_;rotate_left
   ·intro w hSw;go_simp;rfl
   (try simp only[Act.put,sL]);refine wpAnyH_take (i:=7) (v:=?_) rfl (by kernel_rfl) (by kernel_rfl) (by kernel_rfl) (fun _ _ _ h=>h) (Or.inl ⟨by rfl,?_⟩) hHeld ?_;rotate_left
   ·intro w hSw;go_simp;rfl
   (try simp only[Act.put,sL]);refine wpAnyH_take (i:=8) rfl (by kernel_rfl) (by kernel_rfl) (by kernel_rfl) (fun _ _ _ h=>h) (yieldsIf_load_mid (by rfl) _ _ rfl D 5 rfl (row .u8 us) _ (fun w h=>h) underlying108 rfl hi41) hHeld ?_;(try simp only[Act.put,sL]);refine wpAnyH_ready (rs:=[4]) (by kernel_rfl) (by simp) ?_;refine AllReadyH.cons rfl (fun K hK=>?_) AllReadyH.nil
   go_simp;refine hK.out _ _ N1d (fun hHeld=>?_);clear hK K;(try simp only[Act.put,sL]);refine wpAnyH_ready (rs:=[9]) (by kernel_rfl) (by simp) ?_;refine AllReadyH.cons rfl (fun K hK=>?_) AllReadyH.nil;go_simp;refine(hwith' _).mono ?_;rintro e w4 ⟨rfl,hb4⟩;refine hK.out _ _ (NK.out _ hb4) (fun hHeld=>?_);clear hK K;obtain⟨c4,f4⟩:=NC.out w4 hb4;have y0:=(c4 0).trans q0
   have y1:=(c4 1).trans q1;have y2:=(c4 2).trans q2;have y3:=(c4 3).trans q3;have y4:=(c4 4).trans q4;have g0:=f4 0;have g1:=f4 1;have g2:=f4 2;have g3:=f4 3;have g4:=f4 4;clear c4 f4 q0 q1 q2 q3 q4 hwith';have NF4:=hid (NF.out w4 hb4);(try simp only[Act.put,sL])
   refine wpAnyH_take (i:=10) (v:=?_) rfl (by kernel_rfl) (by kernel_rfl) (by kernel_rfl) (fun _ _ _ h=>h) (Or.inl ⟨by rfl,?_⟩) hHeld ?_;rotate_left
   ·intro w hSw;go_simp;rfl
   (try simp only[Act.put,sL]);refine wpAnyH_take (i:=11) (v:=?_) rfl (by kernel_rfl) (by kernel_rfl) (by kernel_rfl) (fun _ _ _ h=>h) (Or.inl ⟨by rfl,?_⟩) hHeld ?_;rotate_left
   ·intro w hSw;go_simp;rfl
   (try simp only[Act.put,sL]);refine wpAnyH_ready (rs:=[12]) (by kernel_rfl) (by simp) ?_;refine AllReadyH.cons rfl (fun K hK=>?_) AllReadyH.nil;go_simp;refine hK.out _ _ (NS.out _ _ _ _ _ _ (NK.out _ hb4)) (fun hHeld=>?_);clear hK K;(try simp only[Act.put,sL]);refine wpAnyH_done (by kernel_rfl) ?_ _;clear hHeld y0 y1 y2 y3 y4 g0 g1 g2 g3 g4;go_wp2;go_roundg (zs.length-(k+m))
   case measure=>have:=HL.out;omega
   refine⟨k+m,ao2,cp2,by have:=HL.out;omega,rfl,by rw[HL2.out,HL.out];congr 1;omega,?_,hid ?_,hid NF4.out.2⟩
   ·intro h;rw[HA2.out,if_neg (by have:=HL.out;omega),HC2.out];exact⟨by rw[WzQ],by have:=HL.out;omega⟩
   rw[e1.out];exact NF4.out.1
  ·have htm:(p:Int).tmod 64 ≠ 0:=(by rw[Wyu (by omega)];have:=HR.out;have:=hmq.out;have:=HP.out;omega);have htm2:((p:Int) % 64 == 0)=false:=(by rw[Wyu (by omega)] at htm;simpa using htm);go_wp2;go_roundg (zs.length-(k+m));case measure=>have:=HL.out;omega
   have e1:l++zs.take (k+m)=(l++zs.take k)++ck:=(by rw[HCK.out,Wz1,Wxv]);refine⟨k+m,ao2,cp2,by have:=HL.out;omega,rfl,by rw[HL2.out,HL.out];congr 1;omega,?_,hid ?_,hid (by rw[HW2.out];exact WY HG.out)⟩
   ·intro h;rw[HA2.out,if_neg (by have:=HL.out;omega),HC2.out];exact⟨by rw[WzQ],by have:=HL.out;omega⟩
   rw[e1];exact zxj (WW HDw.out hrc.out (by rw[hckl.out];exact hmq.out) _ (by rw[HW2.out])) (by rw[hlen.out];exact HR.out) (by rw[hckl.out];have:=hmq.out;omega) (by rw[hlen.out,hckl.out];exact HP.out) hrb.out hckb.out (by rw[hlen.out];exact hre.out)
def nums (l:List UInt8):List Int:=l.map fun b=>(b.toNat:Int)
theorem xk (l:List UInt8):(nums l).length=l.length:=by simp[nums]
theorem zxv (l:List UInt8):IsB (nums l):=by
 intro x hx;obtain⟨b,_,rfl⟩:=Wx9.1 hx;have:=b.toNat_lt;omega
structure Mk (w:World) (g cap:Nat) (xs:List Int):Prop where
 lt:g<w.heap.size
 capl:xs.length<=cap
 at_:At w g 0 xs
 spare:∀ i,xs.length<=i->i<cap->(w.cell? ⟨g,i,none⟩).isSome=true/\w.frozen? ⟨g,i,none⟩=false
structure Sl (w:World) (a:Option Addr) (cap:Nat) (l:List Int):Prop where
 capl:l.length<=cap
 at_:0<l.length->∃ b off,a=some ⟨b,off,none⟩/\b<w.heap.size/\At w b off l
 nil:a=none->cap=0
theorem Sl.below {w w':World} {a:Option Addr} {cap:Nat} {l:List Int} (h:Sl w a cap l) (hb:Below w.heap.size w w'):Sl w' a cap l :=
 ⟨h.capl,fun h0=>by
  obtain⟨b,off,e1,e2,e3⟩:=h.at_ h0
  exact⟨b,off,e1,Wqj e2 hb.size,fun i hi=>(hb.cell (p:=⟨b,off+i,none⟩) e2).trans (e3 i hi)⟩,h.nil⟩
theorem zkw (l:List UInt8) (w:World):∃ cap w',(convert 9 22 (.string ⟨l.toArray⟩)).run prog w=.ok (.slice (some ⟨w.heap.size,0,none⟩) l.length cap) w'/\Mk w' w.heap.size cap (nums l)/\Below w.heap.size w w'/\w'.heap.size=w.heap.size+1:=by
 have hr:=run_bytes_of_string (P:=prog) w 9 22 5 ⟨l.toArray⟩ underlying9 underlying22 underlying5;have hsz:(⟨l.toArray⟩:ByteArray).size=l.length:=by simp[Wxq]
 rw[hsz] at hr;have hge:=grownCap_ge w l.length 0 5;generalize grownCap w l.length 0 5=cap at hr hge;have hrs:(bytesRow ⟨l.toArray⟩ cap).size=cap:=by simp[bytesRow,Wxq];omega
 rw[hrs] at hr;have h1:∀ i,i<l.length->(bytesRow ⟨l.toArray⟩ cap)[i]? = some (.int .u8 ((nums l).getD i 0)):=fun i hi=>by
  simp[bytesRow,nums,hi,Array.getElem?_append]
 generalize bytesRow ⟨l.toArray⟩ cap=R at hr hrs h1;have hh:(w.drew.alloc (.cells R 5 (cap,cap+1))).heap[w.heap.size]? = some (.cells R 5 (cap,cap+1)):=by
  show (w.heap.push _)[w.heap.size]? = _;simp
 refine⟨cap,_,hr,⟨by simp,by rw[xk];exact hge,?_,?_⟩,?_,by simp⟩
 ·intro i hi;rw[xk] at hi;rw[Wq7,World.cell?,hh];exact h1 i hi
 ·intro i g1 g2;constructor
  ·rw[World.cell?,hh];show (R[i]?).isSome=true;rw[Array.getElem?_eq_getElem (by omega)];rfl
  rw[World.frozen?,hh];simp;omega
 exact⟨rfl,rfl,rfl,by simp,fun k hk=>by
  show (w.heap.push _)[k]? = _;rw[Array.getElem?_push,if_neg (by omega)]⟩
theorem qx0 (w:World) (g cap:Nat) (xs l:List Int) (a:Option Addr) (c:Nat) (hm:Mk w g cap xs) (hS:Sl w a c l) (hl:xs.length+l.length<=1000000) :
  ∃ g' cap' w',(Builtin.append_ #[22,22] 22 #[.slice (some ⟨g,0,none⟩) xs.length cap,.slice a l.length c]).run prog w=.ok (.slice (some ⟨g',0,none⟩) (xs.length+l.length:Nat) cap') w'/\
   At w' g' 0 (xs++l)/\xs.length+l.length<=cap'/\g'<w'.heap.size/\(g'=g ∨ w.heap.size<=g')/\w.grownBy w' (some g):=by
 obtain⟨i5,hi,hz0,hz1,hz2⟩:=info_parts info5;by_cases h0:l.length=0
 ·have hl0:l=[]:=List.length_eq_zero_iff.1 h0;subst hl0;refine⟨g,cap,w,?_,by simpa using hm.at_,by simpa using hm.capl,hm.lt,.inl rfl,⟨rfl,rfl,rfl,WzV _,fun _ _ _=>rfl⟩⟩;have hc:=hm.capl;cases a with
  | none=>simp[Builtin.append_,run_underlying underlying22,sizeOf,typeInfo,hi,Builtin.lenOf,Builtin.firstCells,hc,storeCells]
  | some ad=>simp[Builtin.append_,run_underlying underlying22,sizeOf,typeInfo,hi,Builtin.lenOf,Builtin.firstCells,hc,storeCells,loadCells,loadCellsFrom]
 obtain⟨b,off,rfl,hb,hat⟩:=hS.at_ (by omega);have hnews:∀ j u,(l.map (Value.int .u8))[j]? = some u->w.cell? ((⟨b,off,none⟩:Addr).add j)=some u:=fun j z hj=>by
  rw[List.getElem?_map] at hj;cases hc:l[j]? with
  | none=>rw[hc] at hj;cases hj
  | some y =>
   rw[hc] at hj;cases hj
   have hlt:=(List.getElem?_eq_some_iff.1 hc).1;have:=hat j hlt;rw[addr_add];simpa [List.getD_eq_getElem?_getD,hc] using this
 have h1c:∀ u ∈ l.map (Value.int .u8),u.oneCell'=true:=ints_oneCell .u8 l;by_cases hroom:xs.length+l.length<=cap
 ·have hsp:∀ j,j<(l.map (Value.int .u8)).length->(w.cell? ⟨g,0+xs.length*i5.size+j,none⟩).isSome=true:=fun j hj=>by
   rw[hz1,Wq7,Wxw];rw[Wxx] at hj;exact(hm.spare (xs.length+j) (by omega) (by omega)).1
  have hr:=run_append_room_cells (P:=prog) w 22 22 5 i5 underlying22 hi g 0 xs.length cap ⟨b,off,none⟩ l.length c (l.map (Value.int .u8)) (by rw[hz1];simp) hnews h1c hroom hsp
   (fun j hj=>by
    rw[hz1,Wq7,Wxw]
    rw[Wxx] at hj
    exact(hm.spare (xs.length+j) (by omega) (by omega)).2)
  rw[hz1,Wq7,Wxw] at hr;refine⟨g,cap,_,hr,?_,hroom,?_,.inl rfl,x8 g _ _ _ _ ⟨rfl,rfl,rfl,WzV _,fun _ _ _=>rfl⟩⟩
  ·intro i hi';rw[Wq7];by_cases hlt:i<xs.length
   ·rw[World.cell?_setCells_out _ _ _ _ _ (fun _ _=>.inl hlt)];have:=hm.at_ i hlt;rw[Wq7] at this;rw[this];simp[List.getD_eq_getElem?_getD,List.getElem?_append,hlt]
   obtain⟨j,rfl⟩:∃ j,i=xs.length+j:=⟨i-xs.length,by omega⟩;rw[Wz6] at hi';have hj:j<(l.map (Value.int .u8)).length:=(by rw[Wxx];omega);rw[World.cell?_setCells_in _ _ _ _ (fun j hj=>by have:=hsp j hj;rwa [hz1,Wq7,Wxw] at this) j hj];simp[List.getD_eq_getElem?_getD,List.getElem?_append,show j<l.length by omega]
  have:w.heap.size<=(w.setCells g xs.length (l.map (Value.int .u8))).heap.size:=(x8 g (l.map (Value.int .u8)) xs.length w w ⟨rfl,rfl,rfl,WzV _,fun _ _ _=>rfl⟩).size;exact Wqj hm.lt this
 obtain⟨v',w',hr,hown,hg⟩:=run_append_arg_grows (P:=prog) w 22 22 5 i5 (.int .u8 0) 1 1 underlying22 hi hz0 hz1 hz2 rfl (by omega) ⟨g,0,none⟩ xs.length cap (xs.map (Value.int .u8)) (by simp)
  (fun j u hj=>by
   rw[List.getElem?_map] at hj
   cases hc:xs[j]? with
   | none=>rw[hc] at hj;cases hj
   | some y =>
    rw[hc] at hj;cases hj
    have hlt:=(List.getElem?_eq_some_iff.1 hc).1
    have:=hm.at_ j hlt
    rw[addr_add]
    simpa [List.getD_eq_getElem?_getD,hc] using this)
  ⟨b,off,none⟩ l.length c (l.map (Value.int .u8)) (by simp) hnews (by omega) (by unfold maxLen;omega) (by omega)
 obtain⟨g',cap',rfl,h1,h2⟩:=hown.form (by omega);refine⟨g',cap',w',hr,?_,?_,h2,.inr h1,⟨hg.os,hg.tape,hg.output,hg.size,fun k hk _=>hg.block k hk (by simp)⟩⟩
 ·intro i hi';rw[Wq7,hown.cellAt i (by simpa using hi'),<-List.map_append,List.getElem?_map,List.getElem?_eq_getElem hi'];simp[List.getD_eq_getElem?_getD,List.getElem?_eq_getElem hi']
 obtain⟨_,⟨hv,_⟩ | ⟨g2,cap2,cur,hv,_,_,hnc,_⟩⟩:=hown
 ·cases hv
 simp only[Value.slice.injEq] at hv;omega
end Go.Proofs.YtiaaekdpfpaigaaGreatDoor.Id
