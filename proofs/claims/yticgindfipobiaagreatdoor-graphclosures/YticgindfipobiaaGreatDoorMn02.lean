import Derived.Test.YticgindfipobiaaGreatDoorMn01
import Derived.Laws.CopyOwn
import Derived.Deep.QuietTactic
import Derived.BigQuiet
import Derived.Laws.IdiomCopy
set_option linter.unusedSimpArgs false
set_option linter.unusedVariables false
set_option maxRecDepth 20000
set_option maxHeartbeats 4000000
namespace Go.Proofs.YticgindfipobiaaGreatDoor
open Go.RowKit
theorem wrap_i64 (n:Nat) (h:n<9223372036854775808):IntKind.i64.wrap (n:Int)=n:=by
 rw[IntKind.wrap_i64];omega
theorem Z7 (w:World):w.drew.heap=w.heap:=rfl
def z80:List Int:=List.replicate 80 0
theorem zero47 (w:World):(zeroValue 99).run Tryz.prog w=.ok (.agg (row .u32 z80).toArray) w:=by kernel_rfl
theorem QX (w:World) (a b c:Obj):((((w.alloc a).alloc b).alloc c).heap[w.heap.size]? = some a/\(((w.alloc a).alloc b).alloc c).heap[w.heap.size+1]? = some b)/\(((w.alloc a).alloc b).alloc c).heap[w.heap.size+1+1]? = some c:=by
 refine⟨⟨?_,?_⟩,?_⟩
 ·rw[Below.heap_alloc _ _ _ (by simp;omega)];exact heap_alloc2_old w a b
 ·rw[Below.heap_alloc _ _ _ (by simp)];exact heap_alloc2_new w a b
 ·have:=heap_alloc_new ((w.alloc a).alloc b) c
  simpa using this
set_option maxHeartbeats 1000000 in
theorem spread_any (zs:List Int) (w:World) (hl:zs.length=64) (hz:IsB zs) :
  Calls Tryz.prog 107 #[.agg (row .u8 zs).toArray] w fun e w'=>e=.returned (.agg (row .u32 (QQ zs)).toArray)/\Below w.heap.size w w':=by
 have hi47:∀ l:List Int,l.length=80->(Tryz.prog.info? 99).map (·.size)=some (row .u32 l).length:=fun l h=>by rw[zq,h];exact Tryz.size99
 have hi41:(Tryz.prog.info? 180).map (·.size)=some (row .u8 zs).length:=by rw[zq,hl];exact Tryz.size180
 obtain⟨arr,HA⟩:=nn_ (row .u8 zs)
 rw[<-HA.out]
 have hasz:arr.toArray.size=64:=by rw[HA.out,qZ];exact hl
 rw[<-HA.out] at hi41
 have HX:Hid (∀ i,i<64->arr.toArray[i]? = some (.int .u8 (zs.getD i 0))):=fun i hi=>by rw[HA.out];simpa using vq .u8 zs i (by omega)
 obtain⟨zr,HZ⟩:=nn_ ((row .u32 z80).toArray)
 have hzv:=zero47
 rw[<-HZ.out] at hzv
 have H3:Hid (_/\_):=QX w (.cells arr.toArray 180) (.cells zr 99) (.cells zr 99)
 have HB0:Hid (Below w.heap.size w (((w.alloc (.cells arr.toArray 180)).alloc (.cells zr 99)).alloc (.cells zr 99))):=(((Below.refl _ w).alloc (Nat.le_refl _) _).alloc (by simp) _).alloc (by simp;omega) _
 go_enter Tryz.func107,Tryz.ntmps107
 go_wp2_with (refine wpList_load_mid rfl 180 _ rfl w.heap.size 0 rfl arr _ (zx H3.out.1.1) Tryz.underlying180 rfl hi41 ?_)
 go_loopg [8] 64 (fun k i wr=>∃ j:Nat,j<=64/\k=64-j/\i=.int .i64 j/\Hid (wr.heap[w.heap.size+1+1]? = some (.cells (row .u32 (wAt zs j)).toArray 99 (0,0)))/\Hid (wr.heap[w.heap.size+1]? = some (.cells (row .u32 z80).toArray 99 (0,0)))/\Hid (Below w.heap.size w wr))
 case atStart =>
  refine⟨0,by omega,rfl,rfl,hid ?_,hid ?_,HB0⟩
  ·rw[wAt_zero,H3.out.2,HZ.out];rfl
  ·rw[H3.out.1.2,HZ.out]
 case round =>
  obtain⟨j,hj,hk,rfl,H1,H0,HB⟩:=hrel
  by_cases hlt:j<64
  ·have hix:∀ w1:World,(Instr.index 180 (.agg arr.toArray) (.int .i64 j)).run Tryz.prog w1=.ok (.int .u8 (zs.getD j 0)) w1:=fun w1=>Yj 180 5 64 _ _ j _ w1 Tryz.underlying180 Tryz.size5 _ Tryz.underlying5 rfl hlt (HX.out j hlt)
   obtain⟨x,HXX⟩:=nn_ (zs.getD j 0)
   rw[<-HXX.out] at hix
   have hxb:0<=x/\x<256:=by rw[HXX.out];exact hz.at j
   obtain⟨m,HM⟩:=nn_ (j / 4)
   have hm:j / 4=m:=HM.out.symm
   have hm2:m<80:=by omega
   obtain⟨v,HV⟩:=nn_ ((wAt zs j).getD (j / 4) 0)
   have hv:0<=v/\v<16777216:=by rw[HV.out];exact wAt_small zs hz j hlt
   have hc:wr.cell? ⟨w.heap.size+1+1,m,none⟩=some (.int .u32 v):=by rw[HV.out,hm];exact qx H1.out m (by rw[Yk];exact hm2)
   have hfz:=frozen_of_row wr (w.heap.size+1+1) m _ 99 H1.out
   obtain⟨y,HY⟩:=nn_ (v*256+x)
   have hor:=or8 v x hv hxb
   rw[<-HY.out] at hor
   have hor2:bits .or .u32 (v*256) x=y:=by rw[<-hor];congr 1;omega
   go_wp2
   go_roundg (64-(j+1))
   case measure=>omega
   case rel =>
    refine⟨j+1,by omega,rfl,by go_num,hid ?_,hid ?_,HB.out.setCell (by simp <;> omega) _⟩
    ·rw[heap_setCell_same wr _ _ _ _ _ H1.out,wAt_step zs j hlt,<-HV.out,<-HXX.out,<-HY.out,hm,xu,<-hor2]
    ·rw[heap_setCell_other wr _ _ _ (by simp)];exact H0.out
  ·obtain rfl:j=64:=by omega
   go_wp2
   go_loopg [6] 64 (fun k i wr=>∃ j:Nat,j<=64/\k=64-j/\i=.int .i64 (16+j:Nat)/\Hid (wr.heap[w.heap.size+1+1]? = some (.cells (row .u32 (spAt (wAt zs 64) j)).toArray 99 (0,0)))/\Hid (wr.heap[w.heap.size+1]? = some (.cells (row .u32 z80).toArray 99 (0,0)))/\Hid (Below w.heap.size w wr))
   case atStart=>exact⟨0,by omega,rfl,rfl,H1,H0,HB⟩
   case round =>
    clear H1 H0 HB
    obtain⟨j,hj,hk,rfl,H1,H0,HB⟩:=hrel
    obtain⟨v,HV⟩:=nn_ (spAt (wAt zs 64) j)
    rw[<-HV.out] at H1
    have hvl:v.length=80:=by rw[HV.out,XW,Yk]
    have hvw:IsW v:=by rw[HV.out];exact XY _ (wAt_isW zs hz 64) _
    obtain⟨q,HQ⟩:=nn_ (16+j)
    rw[<-HQ.out]
    have hq:16<=q/\q<=80:=by have:=HQ.out;omega
    by_cases hlt:q<80
    ·obtain⟨x1,G1⟩:=nn_ (v.getD (q-3) 0)
     obtain⟨x2,G2⟩:=nn_ (v.getD (q-8) 0)
     obtain⟨x3,G3⟩:=nn_ (v.getD (q-14) 0)
     obtain⟨x4,G4⟩:=nn_ (v.getD (q-16) 0)
     obtain⟨q1,Q1⟩:=nn_ (q-3)
     have e1:IntKind.i64.wrap ((q:Int)-3)=(q1:Int):=by rw[show (q:Int)-3=(q1:Int) from by have:=Q1.out;omega];exact wrap_i64 _ (by have:=Q1.out;omega)
     have b1:q1<80:=by have:=Q1.out;omega
     have bi1:(q1:Int)<80:=by omega
     have bz1:(0:Int)<=q1:=by omega
     have c1:wr.cell? ⟨w.heap.size+1+1,q1,none⟩=some (.int .u32 x1):=by rw[G1.out,Q1.out];exact qx H1.out _ (by omega)
     obtain⟨q2,Q2⟩:=nn_ (q-8)
     have e2:IntKind.i64.wrap ((q:Int)-8)=(q2:Int):=by rw[show (q:Int)-8=(q2:Int) from by have:=Q2.out;omega];exact wrap_i64 _ (by have:=Q2.out;omega)
     have b2:q2<80:=by have:=Q2.out;omega
     have bi2:(q2:Int)<80:=by omega
     have bz2:(0:Int)<=q2:=by omega
     have c2:wr.cell? ⟨w.heap.size+1+1,q2,none⟩=some (.int .u32 x2):=by rw[G2.out,Q2.out];exact qx H1.out _ (by omega)
     obtain⟨q3,Q3⟩:=nn_ (q-14)
     have e3:IntKind.i64.wrap ((q:Int)-14)=(q3:Int):=by rw[show (q:Int)-14=(q3:Int) from by have:=Q3.out;omega];exact wrap_i64 _ (by have:=Q3.out;omega)
     have b3:q3<80:=by have:=Q3.out;omega
     have bi3:(q3:Int)<80:=by omega
     have bz3:(0:Int)<=q3:=by omega
     have c3:wr.cell? ⟨w.heap.size+1+1,q3,none⟩=some (.int .u32 x3):=by rw[G3.out,Q3.out];exact qx H1.out _ (by omega)
     obtain⟨q4,Q4⟩:=nn_ (q-16)
     have e4:IntKind.i64.wrap ((q:Int)-16)=(q4:Int):=by rw[show (q:Int)-16=(q4:Int) from by have:=Q4.out;omega];exact wrap_i64 _ (by have:=Q4.out;omega)
     have b4:q4<80:=by have:=Q4.out;omega
     have bi4:(q4:Int)<80:=by omega
     have bz4:(0:Int)<=q4:=by omega
     have c4:wr.cell? ⟨w.heap.size+1+1,q4,none⟩=some (.int .u32 x4):=by rw[G4.out,Q4.out];exact qx H1.out _ (by omega)
     have c5:wr.cell? ⟨w.heap.size+1+1,q,none⟩=some (.int .u32 (v.getD q 0)):=qx H1.out _ (by omega)
     have bi5:(q:Int)<80:=by omega
     have bz5:(0:Int)<=q:=by omega
     have f5:=frozen_of_row wr (w.heap.size+1+1) q _ 99 H1.out
     obtain⟨n,HN⟩:=nn_ (nx v q)
     have hn:bits .xor .u32 (bits .xor .u32 (bits .xor .u32 x1 x2) x3) x4=n:=by rw[HN.out,G1.out,G2.out,G3.out,G4.out];rfl
     have hnb:U n:=by rw[HN.out];exact nx_bd v q
     have k1:∀ (W:World) (u:Value),(W.setCell ⟨w.heap.size+1+1,q,none⟩ u).cell? ⟨w.heap.size+1+1,q1,none⟩=W.cell? ⟨w.heap.size+1+1,q1,none⟩:=fun W u=>World.cell?_setCell_other _ _ _ _ (by intro h;simp only[Addr.mk.injEq] at h;have:=Q1.out;omega)
     have k2:∀ (W:World) (u:Value),(W.setCell ⟨w.heap.size+1+1,q,none⟩ u).cell? ⟨w.heap.size+1+1,q2,none⟩=W.cell? ⟨w.heap.size+1+1,q2,none⟩:=fun W u=>World.cell?_setCell_other _ _ _ _ (by intro h;simp only[Addr.mk.injEq] at h;have:=Q2.out;omega)
     have k3:∀ (W:World) (u:Value),(W.setCell ⟨w.heap.size+1+1,q,none⟩ u).cell? ⟨w.heap.size+1+1,q3,none⟩=W.cell? ⟨w.heap.size+1+1,q3,none⟩:=fun W u=>World.cell?_setCell_other _ _ _ _ (by intro h;simp only[Addr.mk.injEq] at h;have:=Q3.out;omega)
     have k4:∀ (W:World) (u:Value),(W.setCell ⟨w.heap.size+1+1,q,none⟩ u).cell? ⟨w.heap.size+1+1,q4,none⟩=W.cell? ⟨w.heap.size+1+1,q4,none⟩:=fun W u=>World.cell?_setCell_other _ _ _ _ (by intro h;simp only[Addr.mk.injEq] at h;have:=Q4.out;omega)
     go_wp2
     go_region_held3 (fun w'=>w'.cell? ⟨w.heap.size+1+1,q1,none⟩=some (.int .u32 x1)/\w'.cell? ⟨w.heap.size+1+1,q2,none⟩=some (.int .u32 x2)/\w'.cell? ⟨w.heap.size+1+1,q3,none⟩=some (.int .u32 x3)/\w'.cell? ⟨w.heap.size+1+1,q4,none⟩=some (.int .u32 x4)) (go_keep) ((go_at_call 109;refine(rot1 n _ hnb).mono ?_;rintro e w1 ⟨rfl,rfl⟩))
     go_wp2
     go_roundg (64-(j+1))
     case measure=>have:=HQ.out;omega
     case rel =>
      refine⟨j+1,by have:=HQ.out;omega,rfl,by have:=HQ.out;go_num,hid ?_,hid ?_,(HB.out.setCell (by simp <;> omega) _).drew⟩
      ·rw[Z7,heap_setCell_same wr _ _ _ _ _ H1.out,spAt,<-HV.out,<-HQ.out,<-HN.out,xu]
      ·rw[Z7,heap_setCell_other wr _ _ _ (by simp)];exact H0.out
    ·obtain rfl:q=80:=by omega
     have hj64:j=64:=by have:=HQ.out;omega
     subst hj64
     have T1:Hid (wr.there (w.heap.size+1) 0 (row .u32 v).toArray.size):=hid (by rw[qZ,hvl];exact zW H0.out (by simp[z80]))
     have T2:Hid ((Tryz.prog.info? 99).map (·.size)=some (row .u32 v).toArray.size):=hid (by rw[qZ,hvl];exact Tryz.size99)
     have T3:Hid ((row .u32 v).toArray.all (·.oneCell')=true):=all_oneCell_toArray (zV _ _)
     have HVS:Hid (v=QQ zs):=HV.out
     go_wp2_with (first | refine wpList_load_mid rfl 99 _ rfl (w.heap.size+1+1) 0 rfl (row .u32 v) _ (zx H1.out) Tryz.underlying99 rfl (hi47 _ hvl) ?_ | refine wpList_store_mid rfl 99 _ _ rfl (w.heap.size+1) 0 (row .u32 v).toArray rfl rfl T1.out T2.out T3.out ?_)
     ·rw[<-HVS.out]
      refine bodyPost_ret (v:=.agg (row .u32 v).toArray) (yq Tryz.results107 _ _ (w.heap.size+1) _ _ rfl (World.rangeAt_setCells_same wr (w.heap.size+1) 0 _ ?_) Tryz.underlying99 rfl (hi47 _ hvl)) rfl ⟨rfl,z7 (by omega) _ _ _ _ HB.out⟩
      rw[zq,hvl];exact zW H0.out (by simp[z80])
structure S5 where
 a:Int
 b:Int
 c:Int
 d:Int
 e:Int
def S5.ok (s:S5):Prop:=U s.a/\U s.b/\U s.c/\U s.d/\U s.e
def S5.l (s:S5):List Int:=[s.a,s.b,s.c,s.d,s.e]
def fi (i:Nat) (b c d:Int):Int:=if i<20 then ch b c d else if i<40 then par b c d else if i<60 then maj b c d else par b c d
def ki (i:Nat):Int:=if i<20 then 1518500249 else if i<40 then 1859775393 else if i<60 then 2400959708 else 3395469782
def rd (W:List Int) (i:Nat) (s:S5):S5:=⟨(YY s.a+fi i s.b s.c s.d+s.e+ki i+W.getD i 0) % 4294967296,s.a,QZ s.b,s.c,s.d⟩
def rds (W:List Int) (s:S5):Nat->S5
 | 0=>s
 | n+1=>rd W n (rds W s n)
theorem rds_ok (W:List Int) (s:S5) (h:s.ok):∀ n,(rds W s n).ok
 | 0=>h
 | n+1=>by
  obtain⟨h1,h2,h3,h4,h5⟩:=rds_ok W s h n
  exact⟨⟨by simp only[rds,rd];omega,by simp only[rds,rd];omega⟩,h1,turn30_bd _,h3,h4⟩
theorem fi_bd (i:Nat) (b c d:Int):U (fi i b c d):=by
 unfold fi
 split
 ·exact ch_bd _ _ _
 ·split
  ·exact par_bd _ _ _
  ·split
   ·exact maj_bd _ _ _
   ·exact par_bd _ _ _
def plus (s t:S5):S5:=⟨(s.a+t.a) % 4294967296,(s.b+t.b) % 4294967296,(s.c+t.c) % 4294967296,(s.d+t.d) % 4294967296,(s.e+t.e) % 4294967296⟩
def comp (s:S5) (zs:List Int):S5:=plus s (rds (QQ zs) s 80)
theorem plus_ok (s t:S5):(plus s t).ok:=by
 refine⟨⟨?_,?_⟩,⟨?_,?_⟩,⟨?_,?_⟩,⟨?_,?_⟩,?_,?_⟩ <;> simp only[plus] <;> omega
theorem comp_ok (s:S5) (zs:List Int):(comp s zs).ok:=plus_ok _ _
theorem xy {w:World} {g n:Nat} {cs:Array Value} {t:TypeId} (h:w.heap[g]? = some (.cells cs t (0,0))) (hn:cs.size=n):w.there g 0 n:=fun j hj=>by
 rw[Nat.zero_add]
 refine⟨?_,frozen_of_row w g j _ t h⟩
 rw[cell_of_row w g j _ t _ h]
 simp[hn,hj]
def kJ:Array Value:=#[.func (.func 142) #[] #[],.int .u32 1518500249,.func (.func 143) #[] #[],.int .u32 1859775393,.func (.func 144) #[] #[],.int .u32 2400959708,.func (.func 143) #[] #[],.int .u32 3395469782]
set_option maxHeartbeats 1000000 in
theorem kinds_any (w:World):Calls Tryz.prog 108 #[] w fun e w'=>e=.returned (.agg kJ)/\Below w.heap.size w w':=by
 have H0:Hid ((w.alloc (.cells #[.nilFunc,.int .u32 0,.nilFunc,.int .u32 0,.nilFunc,.int .u32 0,.nilFunc,.int .u32 0] 217)).there w.heap.size 0 8):=xy (heap_alloc_new w _) rfl
 have HB:Hid (Below w.heap.size w (w.alloc (.cells #[.nilFunc,.int .u32 0,.nilFunc,.int .u32 0,.nilFunc,.int .u32 0,.nilFunc,.int .u32 0] 217))):=(Below.refl _ w).alloc (Nat.le_refl _) _
 go_enter Tryz.func108,Tryz.ntmps108
 go_wp2_with (refine wpList_store_mid rfl 217 _ _ rfl w.heap.size 0 kJ rfl rfl H0.out Tryz.size217 (by kernel_rfl) ?_)
 exact bodyPost_ret (v:=.agg kJ) (yq Tryz.results108 _ _ w.heap.size kJ.toList _ rfl (World.rangeAt_setCells_same _ w.heap.size 0 _ H0.out) Tryz.underlying217 rfl Tryz.size217) rfl ⟨rfl,z7 (Nat.le_refl _) _ _ _ _ HB.out⟩
theorem kind0 (w:World):(Instr.index 217 (.agg kJ) (.int .i64 (0:Nat))).run Tryz.prog w=.ok (.agg #[.func (.func 142) #[] #[],.int .u32 1518500249]) w:=by kernel_rfl
theorem kind1 (w:World):(Instr.index 217 (.agg kJ) (.int .i64 (1:Nat))).run Tryz.prog w=.ok (.agg #[.func (.func 143) #[] #[],.int .u32 1859775393]) w:=by kernel_rfl
theorem kind2 (w:World):(Instr.index 217 (.agg kJ) (.int .i64 (2:Nat))).run Tryz.prog w=.ok (.agg #[.func (.func 144) #[] #[],.int .u32 2400959708]) w:=by kernel_rfl
theorem kind3 (w:World):(Instr.index 217 (.agg kJ) (.int .i64 (3:Nat))).run Tryz.prog w=.ok (.agg #[.func (.func 143) #[] #[],.int .u32 3395469782]) w:=by kernel_rfl
theorem qz (b off j:Nat):(⟨b,off,none⟩:Addr).add j=⟨b,off+j,none⟩:=by unfold Addr.add;split <;> simp_all
theorem size37r (w:World):(sizeOf (Tryz.prog.elem 99)).run Tryz.prog w=.ok 1 w:=by kernel_rfl
theorem size5r (w:World):(sizeOf (Tryz.prog.elem 180)).run Tryz.prog w=.ok 1 w:=by kernel_rfl
theorem len47:Tryz.prog.arrayLen 99=80:=by kernel_rfl
theorem len41:Tryz.prog.arrayLen 180=64:=by kernel_rfl
theorem und47:Tryz.prog.underlying 99=some (.array (Tryz.prog.arrayLen 99) (Tryz.prog.elem 99)):=by kernel_rfl
theorem und41:Tryz.prog.underlying 180=some (.array (Tryz.prog.arrayLen 180) (Tryz.prog.elem 180)):=by kernel_rfl
theorem slice47 (g m:Nat) (w:World) (h:m<=60):(Instr.sliceAt 99 (.pointer (some ⟨g,0,none⟩)) (some (.int .i64 m)) (some (.int .i64 ((m:Int)+20))) none).run Tryz.prog w=.ok (.slice (some ⟨g,m,none⟩) 20 (80-m:Nat)) w:=by
 rw[run_sliceAt_array_lh w 99 _ und47 .i64 .i64 m (m+20) (by omega) (by omega) (by rw[len47];omega),size37r,len47]
 simp only[Result.andThen_ok,slicedAt]
 rw[if_neg (by omega),qz,show ((m:Int)+20).toNat-(m:Int).toNat=20 from by omega]
 simp
theorem slice41 (g o m:Nat) (w:World) (h:m<64):(Instr.sliceAt 180 (.pointer (some ⟨g,o,none⟩)) (some (.int .u64 m)) none none).run Tryz.prog w=.ok (.slice (some ⟨g,o+m,none⟩) (64-m:Nat) (64-m:Nat)) w:=by
 rw[run_sliceAt_array_l w 180 _ und41 .u64 m (by omega) (by rw[len41];omega),size5r,len41]
 simp only[Result.andThen_ok,slicedAt]
 rw[if_neg (by omega),qz]
 simp
theorem ki_same (j n:Nat) (h:n<20):ki (20*j+n)=ki (20*j):=by
 unfold ki
 repeat' split
 all_goals first | rfl | omega
theorem ki_bd (i:Nat):U (ki i):=by
 unfold ki U
 split
 ·omega
 ·split
  ·omega
  ·split <;> omega
theorem zJ {B:Nat} {w0 w:World} (h:Below B w0 w) (n:Nat):Below B w0 (w.drewN n):=h.trans ⟨rfl,rfl,rfl,Nat.le_refl _,fun _ _=>rfl⟩
theorem join_two (x y:List UInt8):Lib.join [x,y] [32]=x++32 :: y:=by simp[Lib.join,List.intercalate]
theorem kN_len (k:Int):(kN k).data.toList.length<=6:=by
 rw[kN_list]
 split
 ·decide
 ·split
  ·decide
  ·split
   ·decide
   ·split <;> decide
theorem dig_len:∀ (n m:Nat),m<10 ^ (n+1)->(Lib.decDigits m).length<=n+1
 | 0,m,h=>by rw[Lib.decDigits,dif_pos (by simpa using h)];simp
 | n+1,m,h=>by
  rw[Lib.decDigits]
  split
  ·simp
  ·have:=dig_len n (m / 10) (by rw[Nat.pow_succ] at h;omega)
   simp
   omega
theorem h0_len (k:Int) (n:Nat) (hn:n<=400000):(h0 k n).length<=13:=by
 have h1:=kN_len k
 have h2:=dig_len 5 n (by omega)
 unfold h0
 simp only[List.length_append,List.length_cons]
 omega
theorem yw (x y:List UInt8):(⟨x.toArray⟩:ByteArray) ++ ⟨y.toArray⟩=⟨(x++y).toArray⟩:=by
 rw[ByteArray.mk_append_mk]
set_option maxHeartbeats 1000000 in
theorem header_any (k:Int) (a:Option Addr) (n cap:Nat) (hn:n<=400000) (w:World) (ht:Tab w) :
  Calls Tryz.prog 54 #[.agg #[.int .i64 k,.slice a n cap]] w fun e w'=>e=.returned (.string ⟨(hd k n).toArray⟩)/\Below w.heap.size w w':=by
 obtain⟨w0,HW0⟩:=nm_ (w.alloc (.cells #[.int .i64 k,.slice a n cap] 28))
 obtain⟨g,HG⟩:=nm_ w.heap.size
 have HB0:Hid (Below g w w0):=by rw[<-HW0.out,<-HG.out];exact(Below.refl _ w).alloc (Nat.le_refl _) _
 have hg0:g<w0.heap.size:=by rw[<-HW0.out,<-HG.out];simp
 have hc0:w0.cell? ⟨g,0,none⟩=some (.int .i64 k):=by rw[<-HW0.out,<-HG.out];simp
 have hc1:w0.cell? ⟨g,1,none⟩=some (.slice a n cap):=by rw[<-HW0.out,<-HG.out];simp
 have HT0:Hid (Tab w0):=ht.below (by rw[HG.out];exact HB0.out)
 have HI:Hid (∀ j,Calls Tryz.prog 74 #[.int .i64 n] (w0.drewN j) fun e w'=>e=.returned (.string ⟨(Lib.decDigits n).toArray⟩)/\Below w0.heap.size w0 w'):=fun j=>by
  refine(itoa_any n hn (w0.drewN j) (HT0.out.below (zJ (Below.refl _ _) _))).mono ?_
  rintro e w' ⟨rfl,hb⟩
  exact⟨rfl,(zJ (Below.refl _ _) j).trans hb⟩
 have HWd:Hid (∀ (w1:World),Calls Tryz.prog 73 #[.slice (some ⟨w1.heap.size,0,none⟩) 2 2] (w1.alloc (.cells #[.string (kN k),.string ⟨(Lib.decDigits n).toArray⟩] 9)) fun e w'=>e=.returned (.string ⟨(h0 k n).toArray⟩)/\Below w1.heap.size w1 w'):=fun w1=>by
  have hj:(Lib.join ([kN k,⟨(Lib.decDigits n).toArray⟩].map (·.data.toList)) [32])=h0 k n:=by
   simp only[List.map_cons,List.map_nil,join_two];rfl
  refine(words_any w1.heap.size 0 2 [kN k,⟨(Lib.decDigits n).toArray⟩] _ ?_ ?_ (by simp) (by simp) (by rw[hj];have:=h0_len k n hn;omega)).mono ?_
  ·intro i x hx
   rcases i with _ | _ | i
   ·simp at hx;subst hx;simp
   ·simp at hx;subst hx;simp
   ·simp at hx
  ·simp
  ·rintro e w' ⟨rfl,hb⟩
   rw[hj]
   refine⟨rfl,Below.trans ((Below.refl _ w1).alloc (Nat.le_refl _) _) (hb.mono ?_)⟩
   simp
 obtain⟨S,HS⟩:=nn_ (⟨(h0 k n).toArray⟩:ByteArray)
 have hS:S.size<=13:=by rw[HS.out];simpa [ByteArray.size] using h0_len k n hn
 have hS1:¬ 9223372036854775807<S.size+1:=by omega
 have hS2:¬ 9223372036854775807<=S.size:=by omega
 have HE:Hid (S ++ ⟨#[0]⟩=⟨(hd k n).toArray⟩):=by
  rw[HS.out,show (⟨#[0]⟩:ByteArray)=⟨[0].toArray⟩ from rfl]
  exact yw _ _
 rw[<-HS.out] at HWd
 obtain⟨Dg,HDg⟩:=nn_ (⟨(Lib.decDigits n).toArray⟩:ByteArray)
 obtain⟨Kn,HKn⟩:=nn_ (kN k)
 have HK:Hid (∀ w,Calls Tryz.prog 58 #[.int .i64 k] w fun e w'=>e=.returned (.string (kN k))/\w'=w):=fun w=>vv k w
 rw[<-HDg.out] at HI HWd
 rw[<-HKn.out] at HWd HK
 go_enter Tryz.func54,Tryz.ntmps54
 rw[HG.out]
 go_wp2_with fail
 rw[HW0.out,HG.out]
 clear ht
 go_region_with (first
  | (go_at_call 58;refine(HK.out _).mono ?_;rintro ev wk ⟨rfl,rfl⟩)
  | (go_at_call 74;refine(HI.out _).mono ?_;rintro ev w1 ⟨rfl,hb1⟩;have HB1:Hid (Below w0.heap.size w0 w1):=hb1;clear hb1 HI)
  | (go_at_call 73;refine(HWd.out _).mono ?_;rintro ev w2 ⟨rfl,hb2⟩;have HB2:Hid (Below w1.heap.size w1 w2):=hb2;clear hb2 HWd))
 all_goals
  go_wp2
  go_ret
  exact⟨(show _=Ending.returned (.string (S ++ ⟨#[0]⟩)) from rfl).trans (by rw[HE.out]),HB0.out.trans ((HB1.out.mono (Nat.le_of_lt hg0)).trans (HB2.out.mono (Nat.le_trans (Nat.le_of_lt hg0) HB1.out.size)))⟩
end Go.Proofs.YticgindfipobiaaGreatDoor
