import Derived.Test.YticgindfipobiaaGreatDoorMn02
set_option linter.unusedVariables false
set_option maxRecDepth 20000
set_option maxHeartbeats 4000000
namespace Go.Proofs.YticgindfipobiaaGreatDoor
open Go.RowKit
theorem V4 {w:World} {g:Nat} {a b c d e:Int} {t:TypeId} {fr:Nat × Nat} (h:w.heap[g]? = some (.cells #[.int .u32 a,.int .u32 b,.int .u32 c,.int .u32 d,.int .u32 e] t fr)) :
  w.cell? ⟨g,0,none⟩=some (.int .u32 a)/\w.cell? ⟨g,1,none⟩=some (.int .u32 b)/\w.cell? ⟨g,2,none⟩=some (.int .u32 c)/\w.cell? ⟨g,3,none⟩=some (.int .u32 d)/\w.cell? ⟨g,4,none⟩=some (.int .u32 e):=by
 refine⟨?_,?_,?_,?_,?_⟩ <;> (rw[cell_of_row w g _ _ t fr h];rfl)
theorem yy (B:Nat) {w0 w:World} (n:Nat) (h:Below B w0 w):Below B w0 (w.drewN n):=h.trans ⟨rfl,rfl,rfl,Nat.le_refl _,fun _ _=>rfl⟩
theorem heap_drewN (w:World) (n:Nat):(w.drewN n).heap=w.heap:=rfl
theorem setCells5 (w:World) (g:Nat) (t:TypeId) (z0 z1 z2 z3 z4 v0 v1 v2 v3 v4:Value) (h:w.heap[g]? = some (.cells #[z0,z1,z2,z3,z4] t (0,0))) :
  (w.setCells g 0 [v0,v1,v2,v3,v4]).heap[g]? = some (.cells #[v0,v1,v2,v3,v4] t (0,0)):=by
 have h1:=heap_setCell_same w g 0 _ _ v0 h
 have h2:=heap_setCell_same _ g 1 _ _ v1 h1
 have h3:=heap_setCell_same _ g 2 _ _ v2 h2
 have h4:=heap_setCell_same _ g 3 _ _ v3 h3
 exact heap_setCell_same _ g 4 _ _ v4 h4
theorem shift5 (w:World) (g nq nn:Nat) (t:TypeId) (a b c d e y z:Value) (h:w.heap[g]? = some (.cells #[a,b,c,d,e] t (0,0))) :
  ((((((((w.drewN nq).setCell ⟨g,4,none⟩ d).setCell ⟨g,3,none⟩ c).drewN nn).setCell ⟨g,2,none⟩ z).setCell ⟨g,1,none⟩ a).setCell ⟨g,0,none⟩ y)).heap[g]? = some (.cells #[y,a,z,c,d] t (0,0)):=by
 have h1:=heap_setCell_same (w.drewN nq) g 4 _ _ d h
 have h2:=heap_setCell_same _ g 3 _ _ c h1
 have h3:=heap_setCell_same (((((w.drewN nq).setCell ⟨g,4,none⟩ d).setCell ⟨g,3,none⟩ c).drewN nn)) g 2 _ _ z h2
 have h4:=heap_setCell_same _ g 1 _ _ a h3
 exact heap_setCell_same _ g 0 _ _ y h4
theorem jx {B:Nat} {w0 w:World} (g nq nn:Nat) (a c d y z:Value) (hg:B<=g) (h:Below B w0 w) :
  Below B w0 ((((((((w.drewN nq).setCell ⟨g,4,none⟩ d).setCell ⟨g,3,none⟩ c).drewN nn).setCell ⟨g,2,none⟩ z).setCell ⟨g,1,none⟩ a).setCell ⟨g,0,none⟩ y)):=by
 have h1:=yy B nq h
 have h2:=h1.setCell (p:=⟨g,4,none⟩) hg d
 have h3:=h2.setCell (p:=⟨g,3,none⟩) hg c
 have h4:=yy B nn h3
 have h5:=h4.setCell (p:=⟨g,2,none⟩) hg z
 have h6:=h5.setCell (p:=⟨g,1,none⟩) hg a
 exact h6.setCell (p:=⟨g,0,none⟩) hg y
def Qj (l m:List Int) (j:Nat):List Int:=(List.range 5).map fun i=>if i<j then (l.getD i 0+m.getD i 0) % 4294967296 else l.getD i 0
theorem addAt_len (l m:List Int) (j:Nat):(Qj l m j).length=5:=by simp[Qj]
theorem addAt_step (l m:List Int) (j:Nat) (h:j<5):Qj l m (j+1)=(Qj l m j).set j ((l.getD j 0+m.getD j 0) % 4294967296):=by
 apply List.ext_getElem (by simp[Qj])
 intro i h1 h2
 rw[List.getElem_set]
 simp only[Qj,List.getElem_map,List.getElem_range]
 by_cases e:j=i
 ·subst e;rw[if_pos (by omega),if_pos rfl]
 ·rw[if_neg e]
  by_cases h:i<j
  ·rw[if_pos (by omega),if_pos h]
  ·rw[if_neg (by omega),if_neg h]
theorem addAt_get (l m:List Int) (j:Nat) (h:j<5):(Qj l m j).getD j 0=l.getD j 0:=by simp[Qj,h]
theorem addAt_five (s t:S5):Qj s.l t.l 5=(plus s t).l:=rfl
theorem l_isW (s:S5) (h:s.ok):IsW s.l:=by
 obtain⟨h1,h2,h3,h4,h5⟩:=h
 intro x hx
 simp only[S5.l,List.mem_cons,List.not_mem_nil,or_false] at hx
 rcases hx with rfl | rfl | rfl | rfl | rfl <;> assumption
set_option maxHeartbeats 2000000 in
theorem block_any (s:S5) (b off cap:Nat) (zs:List Int) (w:World) (hs:s.ok) (hl:zs.length=64) (hz:IsB zs) (hat:At w b off zs) (hbw:b<w.heap.size) :
  Calls Tryz.prog 21 #[.agg (row .u32 s.l).toArray,.slice (some ⟨b,off,none⟩) 64 cap] w fun e w'=>e=.returned (.agg (row .u32 (comp s zs).l).toArray)/\Below w.heap.size w w':=by
 obtain⟨a0,b0,c0,d0,e0⟩:=s
 have HS:Hid (S5.ok ⟨a0,b0,c0,d0,e0⟩):=hs
 clear hs
 simp only[S5.l,row,List.map_cons,List.map_nil]
 obtain⟨zr,HZ⟩:=nn_ ((row .u32 z80).toArray)
 have hzv:=zero47
 rw[<-HZ.out] at hzv
 have H3:Hid (_/\_):=QX w (.cells #[.int .u32 a0,.int .u32 b0,.int .u32 c0,.int .u32 d0,.int .u32 e0] 64) (.cells #[.int .u32 0,.int .u32 0,.int .u32 0,.int .u32 0,.int .u32 0] 64) (.cells zr 99)
 have HB0:Hid (Below w.heap.size w (((w.alloc (.cells #[.int .u32 a0,.int .u32 b0,.int .u32 c0,.int .u32 d0,.int .u32 e0] 64)).alloc (.cells #[.int .u32 0,.int .u32 0,.int .u32 0,.int .u32 0,.int .u32 0] 64)).alloc (.cells zr 99))):=(((Below.refl _ w).alloc (Nat.le_refl _) _).alloc (by simp) _).alloc (by simp;omega) _
 go_enter Tryz.func21,Tryz.ntmps21
 go_wp2
 go_loopg [6] 16 (fun k i wr=>∃ j:Nat,j<=16/\k=16-j/\i=.int .i64 j/\Hid (wr.heap[w.heap.size+1+1]? = some (.cells (row .u32 (rAt zs j)).toArray 99 (0,0)))/\Hid (wr.heap[w.heap.size+1]? = some (.cells #[.int .u32 0,.int .u32 0,.int .u32 0,.int .u32 0,.int .u32 0] 64 (0,0)))/\Hid (wr.heap[w.heap.size]? = some (.cells #[.int .u32 a0,.int .u32 b0,.int .u32 c0,.int .u32 d0,.int .u32 e0] 64 (0,0)))/\Hid (Below w.heap.size w wr)/\Hid (w.heap.size+1+1<wr.heap.size))
 case atStart=>exact⟨0,by omega,rfl,rfl,hid (by rw[rAt_zero,H3.out.2,HZ.out];rfl),H3.out.1.2,H3.out.1.1,HB0,hid (by simp)⟩
 case round =>
  obtain⟨j,hj,hk,rfl,H2,H1,H0,HB,HZ1⟩:=hrel
  by_cases hlt:j<16
  ·have hat':At wr b off zs:=fun i hi=>(HB.out.cell (p:=⟨b,off+i,none⟩) hbw).trans (hat i hi)
   have hnum:=fun w1 (h:At w1 b off zs)=>number_any b off cap j zs w1 hl hz hlt h
   rw[<-val4] at hnum
   have hc:wr.cell? ⟨w.heap.size+1+1,j,none⟩=some (.int .u32 ((rAt zs j).getD j 0)):=qx H2.out j (by rw[rAt_len];omega)
   have hfz:=frozen_of_row wr (w.heap.size+1+1) j _ 99 H2.out
   go_wp2_with (go_at_call 34;refine(hnum _ hat').mono ?_;rintro e w' ⟨rfl,nn,rfl⟩)
   go_roundg (16-(j+1))
   case measure=>omega
   case rel =>
    refine⟨j+1,by omega,rfl,by go_num,hid ?_,hid ?_,hid ?_,(yy _ _ HB.out).setCell (by simp <;> omega) _,hid (by have:=HZ1.out;simpa [World.setCell] using this)⟩
    ·rw[heap_setCell_same (wr.drewN nn) _ _ _ _ _ H2.out,rAt_step zs j hlt,xu]
    ·rw[heap_setCell_other (wr.drewN nn) _ _ _ (by simp)];exact H1.out
    ·rw[heap_setCell_other (wr.drewN nn) _ _ _ (by simp <;> omega)];exact H0.out
  ·obtain rfl:j=16:=by omega
   rw[rAt_16] at H2
   go_wp2
   go_loopg [7] 64 (fun k i wr=>∃ j:Nat,j<=64/\k=64-j/\i=.int .i64 (16+j:Nat)/\Hid (wr.heap[w.heap.size+1+1]? = some (.cells (row .u32 (spAt (wAt zs 64) j)).toArray 99 (0,0)))/\Hid (wr.heap[w.heap.size+1]? = some (.cells #[.int .u32 0,.int .u32 0,.int .u32 0,.int .u32 0,.int .u32 0] 64 (0,0)))/\Hid (wr.heap[w.heap.size]? = some (.cells #[.int .u32 a0,.int .u32 b0,.int .u32 c0,.int .u32 d0,.int .u32 e0] 64 (0,0)))/\Hid (Below w.heap.size w wr)/\Hid (w.heap.size+1+1<wr.heap.size))
   case atStart=>exact⟨0,by omega,rfl,rfl,H2,H1,H0,HB,HZ1⟩
   case round =>
    clear H2 H1 H0 HB HZ1
    obtain⟨j,hj,hk,rfl,H2,H1,H0,HB,HZ1⟩:=hrel
    obtain⟨v,HV⟩:=nn_ (spAt (wAt zs 64) j)
    rw[<-HV.out] at H2
    have hvl:v.length=80:=by rw[HV.out,XW,Yk]
    have hvw:IsW v:=by rw[HV.out];exact XY _ (wAt_isW zs hz 64) _
    obtain⟨q,HQ⟩:=nn_ (16+j)
    rw[<-HQ.out]
    have hq:16<=q/\q<=80:=by have:=HQ.out;omega
    by_cases hlt:q<80
    ·obtain⟨x1,G1⟩:=nn_ (v.getD (q-3) 0)
     obtain⟨x2,G2⟩:=nn_ (v.getD (q-8) 0)
     obtain⟨x3,G3⟩:=nn_ (v.getD (q-14) 0)
     obtain⟨x4,G4⟩:=nn_ (v.getD (q-16) 0)
     obtain⟨q1,Q1⟩:=nn_ (q-3)
     have e1:IntKind.i64.wrap ((q:Int)-3)=(q1:Int):=by rw[show (q:Int)-3=(q1:Int) from by have:=Q1.out;omega];exact wrap_i64 _ (by have:=Q1.out;omega)
     have b1:q1<80:=by have:=Q1.out;omega
     have bi1:(q1:Int)<80:=by omega
     have bz1:(0:Int)<=q1:=by omega
     have c1:wr.cell? ⟨w.heap.size+1+1,q1,none⟩=some (.int .u32 x1):=by rw[G1.out,Q1.out];exact qx H2.out _ (by omega)
     obtain⟨q2,Q2⟩:=nn_ (q-8)
     have e2:IntKind.i64.wrap ((q:Int)-8)=(q2:Int):=by rw[show (q:Int)-8=(q2:Int) from by have:=Q2.out;omega];exact wrap_i64 _ (by have:=Q2.out;omega)
     have b2:q2<80:=by have:=Q2.out;omega
     have bi2:(q2:Int)<80:=by omega
     have bz2:(0:Int)<=q2:=by omega
     have c2:wr.cell? ⟨w.heap.size+1+1,q2,none⟩=some (.int .u32 x2):=by rw[G2.out,Q2.out];exact qx H2.out _ (by omega)
     obtain⟨q3,Q3⟩:=nn_ (q-14)
     have e3:IntKind.i64.wrap ((q:Int)-14)=(q3:Int):=by rw[show (q:Int)-14=(q3:Int) from by have:=Q3.out;omega];exact wrap_i64 _ (by have:=Q3.out;omega)
     have b3:q3<80:=by have:=Q3.out;omega
     have bi3:(q3:Int)<80:=by omega
     have bz3:(0:Int)<=q3:=by omega
     have c3:wr.cell? ⟨w.heap.size+1+1,q3,none⟩=some (.int .u32 x3):=by rw[G3.out,Q3.out];exact qx H2.out _ (by omega)
     obtain⟨q4,Q4⟩:=nn_ (q-16)
     have e4:IntKind.i64.wrap ((q:Int)-16)=(q4:Int):=by rw[show (q:Int)-16=(q4:Int) from by have:=Q4.out;omega];exact wrap_i64 _ (by have:=Q4.out;omega)
     have b4:q4<80:=by have:=Q4.out;omega
     have bi4:(q4:Int)<80:=by omega
     have bz4:(0:Int)<=q4:=by omega
     have c4:wr.cell? ⟨w.heap.size+1+1,q4,none⟩=some (.int .u32 x4):=by rw[G4.out,Q4.out];exact qx H2.out _ (by omega)
     have c5:wr.cell? ⟨w.heap.size+1+1,q,none⟩=some (.int .u32 (v.getD q 0)):=qx H2.out _ (by omega)
     have bi5:(q:Int)<80:=by omega
     have bz5:(0:Int)<=q:=by omega
     have f5:=frozen_of_row wr (w.heap.size+1+1) q _ 99 H2.out
     obtain⟨n,HN⟩:=nn_ (nx v q)
     have hn:bits .xor .u32 (bits .xor .u32 (bits .xor .u32 x1 x2) x3) x4=n:=by rw[HN.out,G1.out,G2.out,G3.out,G4.out];rfl
     have hnb:U n:=by rw[HN.out];exact nx_bd v q
     go_wp2
     go_quiet (fail)
     go_wp2_with (go_at_call 35;refine(tn1 n _ hnb).mono ?_;rintro e w' ⟨rfl,nn,rfl⟩)
     go_roundg (64-(j+1))
     case measure=>have:=HQ.out;omega
     case rel =>
      refine⟨j+1,by have:=HQ.out;omega,rfl,by have:=HQ.out;go_num,hid ?_,hid ?_,hid ?_,(yy _ _ HB.out).setCell (by simp <;> omega) _,hid (by have:=HZ1.out;simpa [World.setCell] using this)⟩
      ·rw[heap_setCell_same (wr.drewN (nq+nn)) _ _ _ _ _ H2.out,spAt,<-HV.out,<-HQ.out,<-HN.out,xu]
      ·rw[heap_setCell_other (wr.drewN (nq+nn)) _ _ _ (by simp)];exact H1.out
      ·rw[heap_setCell_other (wr.drewN (nq+nn)) _ _ _ (by simp <;> omega)];exact H0.out
    ·obtain rfl:q=80:=by omega
     have hj64:j=64:=by have:=HQ.out;omega
     subst hj64
     have HVS:Hid (v=QQ zs):=HV.out
     obtain⟨wb,rfl⟩:∃ wb,wb=wr:=⟨_,rfl⟩
     obtain⟨r0,r1,r2,r3,r4⟩:=V4 H0.out
     have hzb:w.heap.size+1+1<wb.heap.size:=HZ1.out
     have HT:Hid ((wb.alloc (.cells #[.int .u32 0,.int .u32 0,.int .u32 0,.int .u32 0,.int .u32 0] 64)).there wb.heap.size 0 5):=xy (heap_alloc_new wb _) rfl
     obtain⟨w5,HW5⟩:=nn_ ((wb.alloc (.cells #[.int .u32 0,.int .u32 0,.int .u32 0,.int .u32 0,.int .u32 0] 64)).setCells wb.heap.size 0 (#[.int .u32 a0,.int .u32 b0,.int .u32 c0,.int .u32 d0,.int .u32 e0] : Array Value).toList)
     have H9:Hid (w5.heap[wb.heap.size]? = some (.cells #[.int .u32 a0,.int .u32 b0,.int .u32 c0,.int .u32 d0,.int .u32 e0] 64 (0,0))):=hid (by rw[HW5.out];exact setCells5 _ _ _ _ _ _ _ _ _ _ _ _ _ (heap_alloc_new wb _))
     have HX5:Hid (Below wb.heap.size wb w5):=hid (by rw[HW5.out];exact z7 (Nat.le_refl _) _ _ _ _ ((Below.refl _ _).alloc (Nat.le_refl _) _))
     have J2:Hid (w5.heap[w.heap.size+1+1]? = some (.cells (row .u32 v).toArray 99 (0,0))):=(HX5.out.block _ (by omega)).trans H2.out
     have J1:Hid (w5.heap[w.heap.size+1]? = some (.cells #[.int .u32 0,.int .u32 0,.int .u32 0,.int .u32 0,.int .u32 0] 64 (0,0))):=(HX5.out.block _ (by omega)).trans H1.out
     have J0:Hid (w5.heap[w.heap.size]? = some (.cells #[.int .u32 a0,.int .u32 b0,.int .u32 c0,.int .u32 d0,.int .u32 e0] 64 (0,0))):=(HX5.out.block _ (by omega)).trans H0.out
     have HB5:Hid (Below w.heap.size w w5):=HB.out.trans (HX5.out.mono (by omega))
     go_wp2_with (refine wpList_store_mid rfl 64 _ _ rfl wb.heap.size 0 _ rfl rfl HT.out Tryz.size64 (by simp[Value.oneCell']) ?_;rw[<-HW5.out])
     clear r0 r1 r2 r3 r4
     go_loopg [10] 80 (fun k i wr=>∃ (n:Nat) (s:S5),n<=80/\k=80-n/\i=.int .i64 n/\Hid (s=rds v ⟨a0,b0,c0,d0,e0⟩ n)/\Hid (wr.heap[wb.heap.size]? = some (.cells #[.int .u32 s.a,.int .u32 s.b,.int .u32 s.c,.int .u32 s.d,.int .u32 s.e] 64 (0,0)))/\Hid (Below wb.heap.size w5 wr))
     case atStart=>exact⟨0,⟨a0,b0,c0,d0,e0⟩,by omega,rfl,rfl,rfl,H9,Below.refl _ _⟩
     case round =>
      obtain⟨n,⟨a,b,c,d,e⟩,hn,hk2,rfl,HSt,HR,HBr⟩:=hrel
      obtain⟨ha,hb,hc,hd,he⟩:S5.ok ⟨a,b,c,d,e⟩:=by rw[HSt.out];exact rds_ok v _ HS.out _
      obtain⟨r0,r1,r2,r3,r4⟩:=V4 HR.out
      have f0:=frozen_of_row wr wb.heap.size 0 _ 64 HR.out
      have f1:=frozen_of_row wr wb.heap.size 1 _ 64 HR.out
      have f2:=frozen_of_row wr wb.heap.size 2 _ 64 HR.out
      have f3:=frozen_of_row wr wb.heap.size 3 _ 64 HR.out
      have f4:=frozen_of_row wr wb.heap.size 4 _ 64 HR.out
      by_cases hn80:n<80
      ·obtain⟨x,HX⟩:=nn_ (v.getD n 0)
       have hx:U x:=by rw[HX.out];exact hvw.at _
       have hcl:wr.cell? ⟨w.heap.size+1+1,n,none⟩=some (.int .u32 x):=by
        rw[HX.out];exact(HBr.out.cell (p:=⟨w.heap.size+1+1,n,none⟩) (by omega)).trans (qx J2.out n (by omega))
       obtain⟨fv,HF⟩:=nn_ (fi n b c d)
       obtain⟨kq,HKQ⟩:=nn_ (ki n)
       obtain⟨t5,HT5⟩:=nn_ (YY a)
       have ht5:U t5:=by rw[HT5.out];exact turn5_bd a
       have hr5:=fun w=>tn5 a w ha
       rw[<-HT5.out] at hr5
       have hr30:=fun w=>tn30 b w hb
       obtain⟨ha1,ha2⟩:=ha
       obtain⟨hb1,hb2⟩:=hb
       obtain⟨hc1,hc2⟩:=hc
       obtain⟨hd1,hd2⟩:=hd
       obtain⟨he1,he2⟩:=he
       obtain⟨hx1,hx2⟩:=hx
       obtain⟨ht1,ht2⟩:=ht5
       have hsg:IntKind.u32.signed=false:=rfl
       have hmx:IntKind.u32.max=4294967295:=rfl
       rcases(by omega:n<20 ∨ (20<=n/\n<40) ∨ (40<=n/\n<60) ∨ 60<=n) with hc' | ⟨hc',hc''⟩ | ⟨hc',hc''⟩ | hc'
       ·have hfv:bits .or .u32 (bits .and .u32 b c) (bits .and .u32 (bits .xor .u32 4294967295 b) d)=fv:=by rw[HF.out,fi,if_pos (by omega)];rfl
        have hkq:kq=1518500249:=by rw[HKQ.out,ki,if_pos (by omega)]
        have hfb:U fv:=by rw[HF.out];exact fi_bd _ _ _ _
        obtain⟨hf1,hf2⟩:=hfb
        go_wp2
        go_quiet ((go_at_call 35;exact Calls.quiet_of (hr5 _)))
        go_wp2_with (go_at_call 35;refine(hr30 _).mono ?_;rintro e w' ⟨rfl,nn,rfl⟩)
        go_roundg (80-(n+1))
        case measure=>omega
        case rel =>
         refine⟨n+1,rd v n ⟨a,b,c,d,e⟩,by omega,rfl,by go_num,hid (by rw[HSt.out];rfl),hid ?_,jx _ _ _ _ _ _ _ _ (Nat.le_refl _) HBr.out⟩
         show _=some (Obj.cells #[Value.int .u32 ((YY a+fi n b c d+e+ki n+v.getD n 0) % 4294967296),.int .u32 a,.int .u32 (QZ b),.int .u32 c,.int .u32 d] 64 (0,0))
         rw[<-HT5.out,<-HF.out,<-HX.out,<-HKQ.out,hkq]
         exact shift5 wr wb.heap.size nq nn 64 _ _ _ _ _ _ _ HR.out
       ·have hfv:bits .xor .u32 (bits .xor .u32 b c) d=fv:=by rw[HF.out,fi,if_neg (by omega),if_pos (by omega)];rfl
        have hkq:kq=1859775393:=by rw[HKQ.out,ki,if_neg (by omega),if_pos (by omega)]
        have hfb:U fv:=by rw[HF.out];exact fi_bd _ _ _ _
        obtain⟨hf1,hf2⟩:=hfb
        go_wp2
        go_quiet ((go_at_call 35;exact Calls.quiet_of (hr5 _)))
        go_wp2_with (go_at_call 35;refine(hr30 _).mono ?_;rintro e w' ⟨rfl,nn,rfl⟩)
        go_roundg (80-(n+1))
        case measure=>omega
        case rel =>
         refine⟨n+1,rd v n ⟨a,b,c,d,e⟩,by omega,rfl,by go_num,hid (by rw[HSt.out];rfl),hid ?_,jx _ _ _ _ _ _ _ _ (Nat.le_refl _) HBr.out⟩
         show _=some (Obj.cells #[Value.int .u32 ((YY a+fi n b c d+e+ki n+v.getD n 0) % 4294967296),.int .u32 a,.int .u32 (QZ b),.int .u32 c,.int .u32 d] 64 (0,0))
         rw[<-HT5.out,<-HF.out,<-HX.out,<-HKQ.out,hkq]
         exact shift5 wr wb.heap.size nq nn 64 _ _ _ _ _ _ _ HR.out
       ·have hfv:bits .or .u32 (bits .or .u32 (bits .and .u32 b c) (bits .and .u32 b d)) (bits .and .u32 c d)=fv:=by rw[HF.out,fi,if_neg (by omega),if_neg (by omega),if_pos (by omega)];rfl
        have hkq:kq=2400959708:=by rw[HKQ.out,ki,if_neg (by omega),if_neg (by omega),if_pos (by omega)]
        have hfb:U fv:=by rw[HF.out];exact fi_bd _ _ _ _
        obtain⟨hf1,hf2⟩:=hfb
        go_wp2
        go_quiet ((go_at_call 35;exact Calls.quiet_of (hr5 _)))
        go_wp2_with (go_at_call 35;refine(hr30 _).mono ?_;rintro e w' ⟨rfl,nn,rfl⟩)
        go_roundg (80-(n+1))
        case measure=>omega
        case rel =>
         refine⟨n+1,rd v n ⟨a,b,c,d,e⟩,by omega,rfl,by go_num,hid (by rw[HSt.out];rfl),hid ?_,jx _ _ _ _ _ _ _ _ (Nat.le_refl _) HBr.out⟩
         show _=some (Obj.cells #[Value.int .u32 ((YY a+fi n b c d+e+ki n+v.getD n 0) % 4294967296),.int .u32 a,.int .u32 (QZ b),.int .u32 c,.int .u32 d] 64 (0,0))
         rw[<-HT5.out,<-HF.out,<-HX.out,<-HKQ.out,hkq]
         exact shift5 wr wb.heap.size nq nn 64 _ _ _ _ _ _ _ HR.out
       ·have hfv:bits .xor .u32 (bits .xor .u32 b c) d=fv:=by rw[HF.out,fi,if_neg (by omega),if_neg (by omega),if_neg (by omega)];rfl
        have hkq:kq=3395469782:=by rw[HKQ.out,ki,if_neg (by omega),if_neg (by omega),if_neg (by omega)]
        have hfb:U fv:=by rw[HF.out];exact fi_bd _ _ _ _
        obtain⟨hf1,hf2⟩:=hfb
        go_wp2
        go_quiet ((go_at_call 35;exact Calls.quiet_of (hr5 _)))
        go_wp2_with (go_at_call 35;refine(hr30 _).mono ?_;rintro e w' ⟨rfl,nn,rfl⟩)
        go_roundg (80-(n+1))
        case measure=>omega
        case rel =>
         refine⟨n+1,rd v n ⟨a,b,c,d,e⟩,by omega,rfl,by go_num,hid (by rw[HSt.out];rfl),hid ?_,jx _ _ _ _ _ _ _ _ (Nat.le_refl _) HBr.out⟩
         show _=some (Obj.cells #[Value.int .u32 ((YY a+fi n b c d+e+ki n+v.getD n 0) % 4294967296),.int .u32 a,.int .u32 (QZ b),.int .u32 c,.int .u32 d] 64 (0,0))
         rw[<-HT5.out,<-HF.out,<-HX.out,<-HKQ.out,hkq]
         exact shift5 wr wb.heap.size nq nn 64 _ _ _ _ _ _ _ HR.out
      ·obtain rfl:n=80:=by omega
       have HFin:Hid (comp ⟨a0,b0,c0,d0,e0⟩ zs=plus ⟨a0,b0,c0,d0,e0⟩ ⟨a,b,c,d,e⟩):=hid (by unfold comp;rw[<-HVS.out,<-HSt.out])
       have M0:Hid (wr.heap[w.heap.size]? = some (.cells (row .u32 (Qj (S5.l ⟨a0,b0,c0,d0,e0⟩) (S5.l ⟨a,b,c,d,e⟩) 0)).toArray 64 (0,0))):=(HBr.out.block _ (by omega)).trans J0.out
       have M1:Hid (wr.heap[w.heap.size+1]? = some (.cells #[.int .u32 0,.int .u32 0,.int .u32 0,.int .u32 0,.int .u32 0] 64 (0,0))):=(HBr.out.block _ (by omega)).trans J1.out
       have M2:Hid (wr.heap[wb.heap.size]? = some (.cells (row .u32 (S5.l ⟨a,b,c,d,e⟩)).toArray 64 (0,0))):=HR.out
       have MB:Hid (Below w.heap.size w wr):=HB5.out.trans (HBr.out.mono (by omega))
       have hlw:IsW (S5.l ⟨a0,b0,c0,d0,e0⟩):=l_isW _ HS.out
       have hmw:IsW (S5.l ⟨a,b,c,d,e⟩):=l_isW _ (by rw[HSt.out];exact rds_ok v _ HS.out _)
       obtain⟨hl5,HL5⟩:∃ l,Hid (l=S5.l ⟨a0,b0,c0,d0,e0⟩):=⟨_,rfl⟩
       obtain⟨vl5,VL5⟩:∃ l,Hid (l=S5.l ⟨a,b,c,d,e⟩):=⟨_,rfl⟩
       rw[<-HL5.out] at M0 hlw
       rw[<-VL5.out] at M0 M2 hmw
       have hvl5:vl5.length=5:=by rw[VL5.out];rfl
       clear r0 r1 r2 r3 r4 f0 f1 f2 f3 f4
       go_wp2
       go_loopg [14] 5 (fun k i wr=>∃ j:Nat,j<=5/\k=5-j/\i=.int .i64 j/\Hid (wr.heap[w.heap.size]? = some (.cells (row .u32 (Qj hl5 vl5 j)).toArray 64 (0,0)))/\Hid (wr.heap[w.heap.size+1]? = some (.cells #[.int .u32 0,.int .u32 0,.int .u32 0,.int .u32 0,.int .u32 0] 64 (0,0)))/\Hid (wr.heap[wb.heap.size]? = some (.cells (row .u32 vl5).toArray 64 (0,0)))/\Hid (Below w.heap.size w wr))
       case atStart=>exact⟨0,by omega,rfl,rfl,M0,M1,M2,MB⟩
       case round =>
        clear M0 M1 M2 MB
        obtain⟨j,hj,hk,rfl,M0,M1,M2,MB⟩:=hrel
        by_cases hj5:j<5
        ·obtain⟨x,HX⟩:=nn_ (hl5.getD j 0)
         obtain⟨y,HY⟩:=nn_ (vl5.getD j 0)
         have c1:wr.cell? ⟨w.heap.size,j,none⟩=some (.int .u32 x):=by rw[HX.out,<-addAt_get hl5 vl5 j hj5];exact qx M0.out j (by rw[addAt_len];exact hj5)
         have c2:wr.cell? ⟨wb.heap.size,j,none⟩=some (.int .u32 y):=by rw[HY.out];exact qx M2.out j (by omega)
         have f1:=frozen_of_row wr w.heap.size j _ 64 M0.out
         have hx:U x:=by rw[HX.out];exact hlw.at j
         have hy:U y:=by rw[HY.out];exact hmw.at j
         obtain⟨hx1,hx2⟩:=hx
         obtain⟨hy1,hy2⟩:=hy
         have bi:(j:Int)<5:=by omega
         have bz:(0:Int)<=j:=by omega
         go_wp2
         go_region
         all_goals
          go_wp2
          go_roundg (5-(j+1))
          case measure=>omega
          case rel =>
           refine⟨j+1,by omega,rfl,by go_num,hid ?_,hid ?_,hid ?_,(MB.out.setCell (by simp) _).drew⟩
           ·rw[Z7,heap_setCell_same wr _ _ _ _ _ M0.out,addAt_step hl5 vl5 j hj5,<-HX.out,<-HY.out,xu]
           ·rw[Z7,heap_setCell_other wr _ _ _ (by simp)];exact M1.out
           ·rw[Z7,heap_setCell_other wr _ _ _ (by simp;omega)];exact M2.out
        ·obtain rfl:j=5:=by omega
         obtain⟨fr,HFR⟩:=nn_ (Qj hl5 vl5 5)
         rw[<-HFR.out] at M0
         have hfl:fr.length=5:=by rw[HFR.out];exact addAt_len _ _ _
         have HE:Hid (fr=(comp ⟨a0,b0,c0,d0,e0⟩ zs).l):=hid (by rw[HFR.out,HL5.out,VL5.out,addAt_five,HFin.out])
         have hi38:(Tryz.prog.info? 64).map (·.size)=some (row .u32 fr).length:=by rw[zq,hfl];exact Tryz.size64
         have T1:Hid (wr.there (w.heap.size+1) 0 (row .u32 fr).toArray.size):=hid (by rw[qZ,hfl];exact xy M1.out rfl)
         have T2:Hid ((Tryz.prog.info? 64).map (·.size)=some (row .u32 fr).toArray.size):=hid (by rw[qZ,hfl];exact Tryz.size64)
         have T3:Hid ((row .u32 fr).toArray.all (·.oneCell')=true):=all_oneCell_toArray (zV _ _)
         have T4:Hid (wr.there (w.heap.size+1) 0 (row .u32 fr).length):=hid (by rw[zq,hfl];exact xy M1.out rfl)
         go_wp2_with (first | refine wpList_load_mid rfl 64 _ rfl w.heap.size 0 rfl (row .u32 fr) _ (zx M0.out) Tryz.underlying64 rfl hi38 ?_ | refine wpList_store_mid rfl 64 _ _ rfl (w.heap.size+1) 0 (row .u32 fr).toArray rfl rfl T1.out T2.out T3.out ?_)
         refine bodyPost_ret (v:=.agg (row .u32 fr).toArray) (yq Tryz.results21 _ _ (w.heap.size+1) _ _ rfl (World.rangeAt_setCells_same wr (w.heap.size+1) 0 _ T4.out) Tryz.underlying64 rfl hi38) rfl ⟨?_,z7 (by omega) _ _ _ _ MB.out⟩
         rw[HE.out];rfl
end Go.Proofs.YticgindfipobiaaGreatDoor
