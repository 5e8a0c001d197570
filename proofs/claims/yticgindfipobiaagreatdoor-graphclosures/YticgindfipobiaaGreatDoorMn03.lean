import Derived.Test.YticgindfipobiaaGreatDoorMn02
set_option linter.unusedSimpArgs false
set_option linter.unusedVariables false
set_option maxRecDepth 20000
set_option maxHeartbeats 4000000
namespace Go.Proofs.YticgindfipobiaaGreatDoor
open Go.RowKit
theorem kindAt (i:Nat) (hi:i<4):∃ f:FuncId,(∀ w,(Instr.index 217 (.agg kJ) (.int .i64 i)).run Tryz.prog w=.ok (.agg #[.func (.func f) #[] #[],.int .u32 (ki (20*i))]) w)/\
  (∀ (j:Nat) (b c d:Int) (w:World),j<20->U b->U c->U d->Calls Tryz.prog f #[.int .u32 b,.int .u32 c,.int .u32 d] w fun e w'=>e=.returned (.int .u32 (fi (20*i+j) b c d))/\w=w')/\(f=142 ∨ f=143 ∨ f=144):=by
 match i,hi with
 | 0,_=>exact⟨142,kind0,fun j b c d w hj h1 h2 h3=>by rw[fi,if_pos (by omega)];exact choice_any b c d w h1 h2 h3,.inl rfl⟩
 | 1,_=>exact⟨143,kind1,fun j b c d w hj h1 h2 h3=>by rw[fi,if_neg (by omega),if_pos (by omega)];exact parity_any b c d w h1 h2 h3,.inr (.inl rfl)⟩
 | 2,_=>exact⟨144,kind2,fun j b c d w hj h1 h2 h3=>by rw[fi,if_neg (by omega),if_neg (by omega),if_pos (by omega)];exact majority_any b c d w h1 h2 h3,.inr (.inr rfl)⟩
 | 3,_=>exact⟨143,kind3,fun j b c d w hj h1 h2 h3=>by rw[fi,if_neg (by omega),if_neg (by omega),if_neg (by omega)];exact parity_any b c d w h1 h2 h3,.inr (.inl rfl)⟩
theorem below_drewN (B:Nat) (w:World) (n:Nat):Below B w (w.drewN n):=⟨rfl,rfl,rfl,Nat.le_refl _,fun _ _=>rfl⟩
theorem same {P:Program} {f:FuncId} {args:Array Value} {w:World} {v:Value} (h:Calls P f args w fun e w'=>e=.returned v/\w=w'):Calls P f args w fun e w'=>e=.returned v/\w'=w:=h.mono fun _ _ h=>⟨h.1,h.2.symm⟩
set_option maxHeartbeats 2000000 in
theorem with_any (s:S5) (zs:List Int) (w:World) (hs:s.ok) (hl:zs.length=64) (hz:IsB zs) :
  Calls Tryz.prog 75 #[.agg (row .u32 s.l).toArray,.agg (row .u8 zs).toArray] w fun e w'=>e=.returned (.agg (row .u32 (comp s zs).l).toArray)/\Below w.heap.size w w':=by
 have hi41:(Tryz.prog.info? 180).map (·.size)=some (row .u8 zs).length:=by rw[zq,hl];exact Tryz.size180
 obtain⟨arr,HA⟩:=nn_ (row .u8 zs)
 rw[<-HA.out]
 rw[<-HA.out] at hi41
 have hasz:arr.toArray.size=64:=by rw[HA.out,qZ];exact hl
 obtain⟨kv,HK⟩:=nn_ kJ
 obtain⟨W,HW⟩:=nn_ (QQ zs)
 have hWl:W.length=80:=by rw[HW.out];exact spread_len zs
 have hWw:IsW W:=by rw[HW.out];exact spread_isW zs hz
 obtain⟨a0,b0,c0,d0,e0⟩:=s
 obtain⟨ha0,hb0,hc0,hd0,he0⟩:=hs
 have HS:Hid (S5.ok ⟨a0,b0,c0,d0,e0⟩):=⟨ha0,hb0,hc0,hd0,he0⟩
 simp only[S5.l,row,List.map_cons,List.map_nil]
 have H3:Hid (_/\_):=QX w (.cells #[.int .u32 a0,.int .u32 b0,.int .u32 c0,.int .u32 d0,.int .u32 e0] 179) (.cells arr.toArray 180) (.cells #[.int .u32 0,.int .u32 0,.int .u32 0,.int .u32 0,.int .u32 0] 179)
 have HB0:Hid (Below w.heap.size w (((w.alloc (.cells #[.int .u32 a0,.int .u32 b0,.int .u32 c0,.int .u32 d0,.int .u32 e0] 179)).alloc (.cells arr.toArray 180)).alloc (.cells #[.int .u32 0,.int .u32 0,.int .u32 0,.int .u32 0,.int .u32 0] 179))):=(((Below.refl _ w).alloc (Nat.le_refl _) _).alloc (by simp) _).alloc (by simp;omega) _
 obtain⟨zr,HZ⟩:=nn_ ((row .u32 z80).toArray)
 have hzv:=zero47
 rw[<-HZ.out] at hzv
 go_enter Tryz.func75,Tryz.ntmps75
 go_wp2_with (refine wpList_load_mid rfl 180 _ rfl (w.heap.size+1) 0 rfl arr _ (zx H3.out.1.2) Tryz.underlying180 rfl hi41 ?_)
 rw[HA.out]
 refine(spread_any zs _ hl hz).mono ?_
 rintro e w1 ⟨rfl,hb⟩
 rw[<-HA.out,<-HW.out]
 rw[<-HA.out] at hb
 have hb':Below (w.heap.size+1+1+1) (((w.alloc (.cells #[.int .u32 a0,.int .u32 b0,.int .u32 c0,.int .u32 d0,.int .u32 e0] 179)).alloc (.cells arr.toArray 180)).alloc (.cells #[.int .u32 0,.int .u32 0,.int .u32 0,.int .u32 0,.int .u32 0] 179)) w1:=by simpa using hb
 have hz1:w.heap.size+1+1+1<=w1.heap.size:=by simpa using hb'.size
 have F0:Hid (w1.heap[w.heap.size]? = some (.cells #[.int .u32 a0,.int .u32 b0,.int .u32 c0,.int .u32 d0,.int .u32 e0] 179 (0,0))):=(hb'.block _ (by omega)).trans H3.out.1.1
 have F2:Hid (w1.heap[w.heap.size+1+1]? = some (.cells #[.int .u32 0,.int .u32 0,.int .u32 0,.int .u32 0,.int .u32 0] 179 (0,0))):=(hb'.block _ (by omega)).trans H3.out.2
 have HB1:Hid (Below w.heap.size w w1):=HB0.out.trans (hb'.mono (by omega))
 clear hb hb' H3 HB0
 have HT:Hid ((w1.alloc (.cells zr 99)).there w1.heap.size 0 (row .u32 W).toArray.size):=hid (by rw[qZ,hWl,HZ.out];exact zW (heap_alloc_new w1 _) (by simp[z80]))
 have T2:Hid ((Tryz.prog.info? 99).map (·.size)=some (row .u32 W).toArray.size):=hid (by rw[qZ,hWl];exact Tryz.size99)
 have T3:Hid ((row .u32 W).toArray.all (·.oneCell')=true):=all_oneCell_toArray (zV _ _)
 obtain⟨w2,HW2⟩:=nn_ ((w1.alloc (.cells zr 99)).setCells w1.heap.size 0 (row .u32 W).toArray.toList)
 have HS2:Hid (w2.rangeAt w1.heap.size 0 (row .u32 W)):=hid (by rw[HW2.out];exact World.rangeAt_setCells_same _ w1.heap.size 0 _ (by have:=HT.out;simpa using this))
 have HX2:Hid (Below w1.heap.size w1 w2):=hid (by rw[HW2.out];exact z7 (Nat.le_refl _) _ _ _ _ ((Below.refl _ _).alloc (Nat.le_refl _) _))
 have hz2:w2.heap.size=w1.heap.size+1:=by rw[HW2.out,xY];simp
 have HZ2:Hid (w1.heap.size<w2.heap.size):=hid (by omega)
 clear hz2
 have G0:Hid (w2.heap[w.heap.size]? = some (.cells #[.int .u32 a0,.int .u32 b0,.int .u32 c0,.int .u32 d0,.int .u32 e0] 179 (0,0))):=(HX2.out.block _ (by omega)).trans F0.out
 have G2:Hid (w2.heap[w.heap.size+1+1]? = some (.cells #[.int .u32 0,.int .u32 0,.int .u32 0,.int .u32 0,.int .u32 0] 179 (0,0))):=(HX2.out.block _ (by omega)).trans F2.out
 have r0:w2.cell? ⟨w.heap.size,0,none⟩=some (.int .u32 a0):=by rw[cell_of_row w2 w.heap.size 0 _ 179 _ G0.out];rfl
 have r1:w2.cell? ⟨w.heap.size,1,none⟩=some (.int .u32 b0):=by rw[cell_of_row w2 w.heap.size 1 _ 179 _ G0.out];rfl
 have r2:w2.cell? ⟨w.heap.size,2,none⟩=some (.int .u32 c0):=by rw[cell_of_row w2 w.heap.size 2 _ 179 _ G0.out];rfl
 have r3:w2.cell? ⟨w.heap.size,3,none⟩=some (.int .u32 d0):=by rw[cell_of_row w2 w.heap.size 3 _ 179 _ G0.out];rfl
 have r4:w2.cell? ⟨w.heap.size,4,none⟩=some (.int .u32 e0):=by rw[cell_of_row w2 w.heap.size 4 _ 179 _ G0.out];rfl
 go_wp2_with (refine wpList_store_mid rfl 99 _ _ rfl w1.heap.size 0 (row .u32 W).toArray rfl rfl HT.out T2.out T3.out ?_;rw[<-HW2.out])
 go_quiet (fail)
 go_wp2_with fail
 refine(kinds_any _).mono ?_
 rintro e w3 ⟨rfl,hb⟩
 have HX3:Hid (Below w2.heap.size w2 w3):=(below_drewN _ w2 nq).trans hb
 clear hb r0 r1 r2 r3 r4
 have hz3:w2.heap.size<=w3.heap.size:=HX3.out.size
 have HS3:Hid (w3.rangeAt w1.heap.size 0 (row .u32 W)):=fun j v hv=>(HX3.out.cell (p:=⟨w1.heap.size,0+j,none⟩) HZ2.out).trans (HS2.out j v hv)
 have HZ3:Hid (w1.heap.size<w3.heap.size):=Nat.lt_of_lt_of_le HZ2.out hz3
 have HB3:Hid (Below w.heap.size w w3):=(HB1.out.trans (HX2.out.mono (by omega))).trans (HX3.out.mono (by have:=HX2.out.size;omega))
 have G0:Hid (w3.heap[w.heap.size]? = some (.cells #[.int .u32 a0,.int .u32 b0,.int .u32 c0,.int .u32 d0,.int .u32 e0] 179 (0,0))):=(HX3.out.block _ (by have:=HZ2.out;omega)).trans G0.out
 have G2:Hid (w3.heap[w.heap.size+1+1]? = some (.cells #[.int .u32 0,.int .u32 0,.int .u32 0,.int .u32 0,.int .u32 0] 179 (0,0))):=(HX3.out.block _ (by have:=HZ2.out;omega)).trans G2.out
 have hw13:w.heap.size+1+1<w3.heap.size:=by have:=HZ3.out;omega
 clear HX3 HX2 HW2 HB1 F0 F2 HT HS2 HZ2 hz3 hz1
 rw[<-HK.out]
 go_wp2
 go_loopg [6,7,8,9,10,29] 4 (fun k a b c d e i wr=>∃ (j:Nat) (s:S5),j<=4/\k=4-j/\i=.int .i64 j/\a=.int .u32 s.a/\b=.int .u32 s.b/\c=.int .u32 s.c/\d=.int .u32 s.d/\e=.int .u32 s.e/\Hid (s=rds W ⟨a0,b0,c0,d0,e0⟩ (20*j))/\Hid (Below w3.heap.size w3 wr))
 case atStart=>exact⟨0,⟨a0,b0,c0,d0,e0⟩,by omega,rfl,rfl,rfl,rfl,rfl,rfl,rfl,rfl,Below.refl _ _⟩
 case round =>
  obtain⟨wo,rfl⟩:∃ wo,wo=wr:=⟨_,rfl⟩
  obtain⟨j,⟨a,b,c,d,e⟩,hj,hk,rfl,rfl,rfl,rfl,rfl,rfl,HSt,HB⟩:=hrel
  by_cases hlt:j<4
  ·obtain⟨f,hidx,hcall,hf⟩:=kindAt j hlt
   rw[<-HK.out] at hidx
   obtain⟨kq,HKQ⟩:=nn_ (ki (20*j))
   rw[<-HKQ.out] at hidx
   have hwz:w3.heap.size<=wo.heap.size:=HB.out.size
   obtain⟨m,HM⟩:=nn_ (20*j)
   have hm60:m<=60:=by have:=HM.out;omega
   have hjm:(j:Int)*20=(m:Int):=by have:=HM.out;omega
   have hjm2:((j:Int)+1)*20=((m+20:Nat):Int):=by have:=HM.out;omega
   have HT:Hid ((wo.alloc (.cells #[.nilFunc,.int .u32 0] 216)).there wo.heap.size 0 2):=xy (heap_alloc_new wo _) rfl
   obtain⟨w4,HW4⟩:=nn_ ((wo.alloc (.cells #[.nilFunc,.int .u32 0] 216)).setCells wo.heap.size 0 (#[.func (.func f) #[] #[],.int .u32 kq] : Array Value).toList)
   have HR4:Hid (w4.rangeAt wo.heap.size 0 [.func (.func f) #[] #[],.int .u32 kq]):=hid (by rw[HW4.out];exact World.rangeAt_setCells_same _ wo.heap.size 0 _ HT.out)
   have k0:w4.cell? ⟨wo.heap.size,0,none⟩=some (.func (.func f) #[] #[]):=HR4.out 0 _ rfl
   have k1:w4.cell? ⟨wo.heap.size,1,none⟩=some (.int .u32 kq):=HR4.out 1 _ rfl
   have HX4:Hid (Below wo.heap.size wo w4):=hid (by rw[HW4.out];exact z7 (Nat.le_refl _) _ _ _ _ ((Below.refl _ _).alloc (Nat.le_refl _) _))
   have HB4:Hid (Below w3.heap.size w3 w4):=HB.out.trans (HX4.out.mono hwz)
   have HC4:Hid (∀ i,i<80->w4.cell? ⟨w1.heap.size,i,none⟩=some (.int .u32 (W.getD i 0))):=fun i hi=>(HB4.out.cell (p:=⟨w1.heap.size,i,none⟩) HZ3.out).trans (by have:=HS3.out i _ (vq .u32 W i (by omega));rwa [Nat.zero_add] at this)
   clear HX4 HB
   have hsl:=fun w=>slice47 w1.heap.size m w hm60
   obtain⟨cp,HCP⟩:=nn_ (80-m:Nat)
   rw[<-HCP.out] at hsl
   rcases hf with rfl | rfl | rfl
   all_goals
    go_wp2_with (refine wpList_store_mid rfl 216 _ _ rfl wo.heap.size 0 _ rfl rfl HT.out Tryz.size216 (by simp[Value.oneCell']) ?_;rw[<-HW4.out])
    go_loopg [6,7,8,9,10,40] 20 (fun k a b c d e i wr=>∃ (n:Nat) (s:S5),n<=20/\k=20-n/\i=.int .i64 n/\a=.int .u32 s.a/\b=.int .u32 s.b/\c=.int .u32 s.c/\d=.int .u32 s.d/\e=.int .u32 s.e/\Hid (s=rds W ⟨a0,b0,c0,d0,e0⟩ (m+n))/\Hid (∃ q,wr=w4.drewN q))
    case atStart=>exact⟨0,⟨a,b,c,d,e⟩,by omega,rfl,rfl,rfl,rfl,rfl,rfl,rfl,hid (by rw[Nat.add_zero,HM.out];exact HSt.out),⟨0,rfl⟩⟩
    case round =>
     clear HSt
     obtain⟨n,⟨a,b,c,d,e⟩,hn,hk2,rfl,rfl,rfl,rfl,rfl,rfl,HSt,HQ⟩:=hrel
     by_cases hn20:n<20
     ·obtain⟨ha,hb,hc,hd,he⟩:S5.ok ⟨a,b,c,d,e⟩:=by rw[HSt.out];exact rds_ok W _ HS.out _
      obtain⟨x,HX⟩:=nn_ (W.getD (m+n) 0)
      have hx:U x:=by rw[HX.out];exact hWw.at _
      have hcl:wr.cell? ⟨w1.heap.size,m+n,none⟩=some (.int .u32 x):=by obtain⟨q,hq⟩:=HQ.out;rw[hq,HX.out];exact HC4.out _ (by omega)
      have k0':wr.cell? ⟨wo.heap.size,0,none⟩=w4.cell? ⟨wo.heap.size,0,none⟩:=by obtain⟨q,hq⟩:=HQ.out;rw[hq];rfl
      have k1':wr.cell? ⟨wo.heap.size,1,none⟩=some (.int .u32 kq):=by obtain⟨q,hq⟩:=HQ.out;rw[hq];exact k1
      rw[k0] at k0'
      have hcn:=fun w=>same (hcall n b c d w hn20 hb hc hd)
      rw[<-HM.out] at hcn
      obtain⟨fv,HF⟩:=nn_ (fi (m+n) b c d)
      have hfv:U fv:=by rw[HF.out];exact fi_bd _ _ _ _
      rw[<-HF.out] at hcn
      obtain⟨t5,HT5⟩:=nn_ (YY a)
      have ht5:U t5:=by rw[HT5.out];exact turn5_bd a
      have hr5:=fun w=>same (rot5 a w ha)
      rw[<-HT5.out] at hr5
      have hr30:=fun w=>rot30 b w hb
      have hkq:U kq:=by rw[HKQ.out];exact ki_bd _
      obtain⟨ha1,ha2⟩:=ha
      obtain⟨he1,he2⟩:=he
      obtain⟨hx1,hx2⟩:=hx
      obtain⟨hf1,hf2⟩:=hfv
      obtain⟨ht1,ht2⟩:=ht5
      obtain⟨hq1,hq2⟩:=hkq
      go_wp2
      go_quiet (first | (go_at_call 109;exact Calls.quiet_of_same (hr5 _)) | (go_at_call 142;exact Calls.quiet_of_same (hcn _)) | (go_at_call 143;exact Calls.quiet_of_same (hcn _)) | (go_at_call 144;exact Calls.quiet_of_same (hcn _)))
      go_wp2_with (go_at_call 109;refine(hr30 _).mono ?_;rintro e w' ⟨rfl,rfl⟩)
      go_roundg (20-(n+1))
      case measure=>omega
      case rel =>
       refine⟨n+1,rd W (m+n) ⟨a,b,c,d,e⟩,by omega,rfl,by go_num,?_,rfl,rfl,rfl,rfl,hid ?_,?_⟩
       ·simp only[rd]
        rw[<-HT5.out,<-HF.out,<-HX.out,HM.out,ki_same j n hn20,<-HKQ.out]
       ·rw[HSt.out];rfl
       ·obtain⟨q,hq⟩:=HQ.out
        exact⟨q+nq,by rw[hq,World.drewN_drewN]⟩
     ·obtain rfl:n=20:=by omega
      go_wp2
      go_roundg (4-(j+1))
      case measure=>omega
      case rel =>
       obtain⟨q,hq⟩:=HQ.out
       exact⟨j+1,⟨a,b,c,d,e⟩,by omega,rfl,by go_num,rfl,rfl,rfl,rfl,rfl,hid (by rw[HSt.out,HM.out];rfl),hid (by rw[hq];exact HB4.out.trans (below_drewN _ _ _))⟩
  ·obtain rfl:j=4:=by omega
   have hwz:w3.heap.size<=wo.heap.size:=HB.out.size
   have K0:Hid (wo.heap[w.heap.size]? = some (.cells #[.int .u32 a0,.int .u32 b0,.int .u32 c0,.int .u32 d0,.int .u32 e0] 179 (0,0))):=(HB.out.block _ (by omega)).trans G0.out
   have K2:Hid (wo.there (w.heap.size+1+1) 0 5):=xy ((HB.out.block _ (by omega)).trans G2.out) rfl
   have r0:wo.cell? ⟨w.heap.size,0,none⟩=some (.int .u32 a0):=by rw[cell_of_row wo w.heap.size 0 _ 179 _ K0.out];rfl
   have r1:wo.cell? ⟨w.heap.size,1,none⟩=some (.int .u32 b0):=by rw[cell_of_row wo w.heap.size 1 _ 179 _ K0.out];rfl
   have r2:wo.cell? ⟨w.heap.size,2,none⟩=some (.int .u32 c0):=by rw[cell_of_row wo w.heap.size 2 _ 179 _ K0.out];rfl
   have r3:wo.cell? ⟨w.heap.size,3,none⟩=some (.int .u32 d0):=by rw[cell_of_row wo w.heap.size 3 _ 179 _ K0.out];rfl
   have r4:wo.cell? ⟨w.heap.size,4,none⟩=some (.int .u32 e0):=by rw[cell_of_row wo w.heap.size 4 _ 179 _ K0.out];rfl
   have HF:Hid (comp ⟨a0,b0,c0,d0,e0⟩ zs=⟨(a0+a) % 4294967296,(b0+b) % 4294967296,(c0+c) % 4294967296,(d0+d) % 4294967296,(e0+e) % 4294967296⟩):=hid (by unfold comp;rw[<-HW.out,<-HSt.out];rfl)
   have HBF:Hid (Below w.heap.size w wo):=HB3.out.trans (HB.out.mono (by omega))
   obtain⟨ha,hb,hc,hd,he⟩:S5.ok ⟨a,b,c,d,e⟩:=by rw[HSt.out];exact rds_ok W _ HS.out _
   obtain⟨ha1,ha2⟩:=ha
   obtain⟨hb1,hb2⟩:=hb
   obtain⟨hc1,hc2⟩:=hc
   obtain⟨hd1,hd2⟩:=hd
   obtain⟨he1,he2⟩:=he
   obtain⟨ia1,ia2⟩:=ha0
   obtain⟨ib1,ib2⟩:=hb0
   obtain⟨ic1,ic2⟩:=hc0
   obtain⟨id1,id2⟩:=hd0
   obtain⟨ie1,ie2⟩:=he0
   go_wp2_with (refine wpList_store_mid rfl 179 _ _ rfl (w.heap.size+1+1) 0 _ rfl rfl K2.out Tryz.size179 (by simp[Value.oneCell']) ?_)
   refine bodyPost_ret (yq Tryz.results75 _ _ (w.heap.size+1+1) _ _ rfl (World.rangeAt_setCells_same wo (w.heap.size+1+1) 0 _ K2.out) Tryz.underlying179 rfl Tryz.size179) rfl ⟨?_,z7 (by omega) _ _ _ _ HBF.out⟩
   rw[HF.out]
theorem step_copy {P:Program} {ops:Array Oper} {o:Oper} {a:Act} {w:World} {K:Act->World->Prop} {Q:Exit->Act->World->Prop} {E:Prop} (hg:o.guard=none) (s x:Operand) (t:TypeId) (sv xv v:Value) (w2:World)
  (ho:o.op=.call { callee:=.builtin .copy,args:=#[s,x],argTypes:=#[t,t] }) (hs:a.eval s=sv) (hx:a.eval x=xv) (hrun:(Builtin.copy_ #[t,t] o.type #[sv,xv]).run P w=.ok v w2) (h:K (a.put o.dst v) w2) :
  if Region.wanted o (yielded ops a.tmps)=true then Oper.wp P o a w K Q else E:=by
 have hw:Region.wanted o (yielded ops a.tmps)=true:=by simp[Region.wanted,hg]
 rw[if_pos hw]
 unfold Oper.wp execOp
 simp only[ho,resolve,invoke,builtin,Sem.run_bind,Sem.run_pure,Result.andThen_ok,List.map_toArray,List.map_cons,List.map_nil,hs,hx,hrun]
 exact h
theorem xZ {P:Program} {ops:Array Oper} {o:Oper} {a:Act} {w:World} {K:Act->World->Prop} {Q:Exit->Act->World->Prop} {E:Prop} (hg:o.guard=none) (ty:TypeId) (x y:Operand) (ho:o.op=.store ty x y) (b of:Nat) (cells:Array Value) (hx:a.eval x=.pointer (some ⟨b,of,none⟩)) (hy:a.eval y=.agg cells)
  (ht:w.there b of cells.size) (hi:(P.info? ty).map (·.size)=some cells.size) (h1:cells.all (·.oneCell')=true) (h:K (a.put o.dst undef) (w.setCells b of cells.toList)) :
  if Region.wanted o (yielded ops a.tmps)=true then Oper.wp P o a w K Q else E:=by
 have hw:Region.wanted o (yielded ops a.tmps)=true:=by simp[Region.wanted,hg]
 rw[if_pos hw]
 exact wp_store_mid ty x y ho b of cells hx hy ht hi h1 h
def init5:S5:=⟨1732584193,4023233417,2562383102,271733878,3285377520⟩
theorem init_ok:init5.ok:=by refine⟨⟨?_,?_⟩,⟨?_,?_⟩,⟨?_,?_⟩,⟨?_,?_⟩,?_,?_⟩ <;> decide
def ab (l:List Int):Nat->S5
 | 0=>init5
 | k+1=>comp (ab l k) ((l.drop (64*k)).take 64)
theorem ab_ok (l:List Int):∀ k,(ab l k).ok
 | 0=>init_ok
 | k+1=>comp_ok _ _
theorem ab_app (l m:List Int):∀ k,64*k<=l.length->ab (l++m) k=ab l k
 | 0,_=>rfl
 | k+1,h=>by
  rw[ab,ab,ab_app l m k (by omega),List.drop_append_of_le_length (by omega),List.take_append_of_le_length (by rw[List.length_drop];omega)]
def be8 (n:Nat) (j:Nat):Int:=((n / 2 ^ (8*(7-j)) % 256:Nat):Int)
def vJ (n:Nat):Nat:=(64-(n+9) % 64) % 64
def jz (n:Nat):List Int:=128 :: List.replicate (vJ n) 0++(List.range 8).map (be8 (8*n))
theorem Yv (n:Nat):(jz n).length=9+vJ n:=by simp[jz];omega
theorem pads_le (n:Nat):vJ n<=63:=by unfold vJ;omega
theorem end_mod (n:Nat):(n+(jz n).length) % 64=0:=by rw[Yv];unfold vJ;omega
theorem endOf_isB (n:Nat):IsB (jz n):=by
 intro x hx
 simp only[jz,List.cons_append,List.mem_cons,List.mem_append,List.mem_replicate,List.mem_map] at hx
 rcases hx with rfl | ⟨-,rfl⟩ | ⟨j,-,rfl⟩
 ·omega
 ·omega
 ·unfold be8
  have:8*n / 2 ^ (8*(7-j)) % 256<256:=Nat.mod_lt _ (by omega)
  omega
def vY (s:S5) (j:Nat):List Int:=(List.range 20).map fun i=>if i<j then s.l.getD (i / 4) 0 / 2 ^ (24-8*(i % 4)) % 256 else 0
theorem Z8 (s:S5) (j:Nat):(vY s j).length=20:=by simp[vY]
theorem ju (s:S5) (j:Nat) (h:j<20):vY s (j+1)=(vY s j).set j (s.l.getD (j / 4) 0 / 2 ^ (24-8*(j % 4)) % 256):=by
 apply List.ext_getElem (by simp[vY])
 intro i h1 h2
 rw[List.getElem_set]
 simp only[vY,List.getElem_map,List.getElem_range]
 by_cases e:j=i
 ·subst e;rw[if_pos (by omega),if_pos rfl]
 ·rw[if_neg e]
  by_cases h:i<j
  ·rw[if_pos (by omega),if_pos h]
  ·rw[if_neg (by omega),if_neg h]
def z20:List Int:=List.replicate 20 0
theorem outAt_zero (s:S5):vY s 0=z20:=rfl
def sha (l:List Int):List Int:=vY (ab (l++jz l.length) ((l++jz l.length).length / 64)) 20
theorem sha_len (l:List Int):(sha l).length=20:=Z8 _ _
theorem IsB.app {l m:List Int} (h:IsB l) (k:IsB m):IsB (l++m):=fun x hx=>(List.mem_append.1 hx).elim (h x) (k x)
theorem IsB.take {l:List Int} (h:IsB l) (n:Nat):IsB (l.take n):=fun x hx=>h x (List.mem_of_mem_take hx)
theorem IsB.drop {l:List Int} (h:IsB l) (n:Nat):IsB (l.drop n):=fun x hx=>h x (List.mem_of_mem_drop hx)
end Go.Proofs.YticgindfipobiaaGreatDoor
