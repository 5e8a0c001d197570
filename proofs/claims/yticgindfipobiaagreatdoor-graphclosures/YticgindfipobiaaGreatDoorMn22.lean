import Derived.Test.YticgindfipobiaaGreatDoorMn21
import Derived.Test.YticgindfipobiaaGreatDoorMn19
import Derived.Test.YticgindfipobiaaGreatDoorMn14
set_option linter.unusedSimpArgs false
set_option linter.unusedVariables false
set_option maxRecDepth 20000
set_option maxHeartbeats 4000000
namespace Go.Proofs.YticgindfipobiaaGreatDoor
open Go.RowKit
structure PB (G:Nat) (A B:ByteArray) (T Z:Int) (w W:World):Prop where
 below:Below G w W
 box:W.heap[G+1]? = some (.cells #[.string A,.string B,.int .i64 T,.int .i64 Z] 119 (0,0))
 res:W.heap[G]? = some (.cells #[.string ⟨#[]⟩,.string ⟨#[]⟩,.int .i64 0,.int .i64 0] 119 (0,0))
theorem PB.step {G:Nat} {A B A' B':ByteArray} {T Z T' Z':Int} {w W:World} (h:PB G A B T Z w W) (i:Nat) (v:Value) (he:(#[.string A,.string B,.int .i64 T,.int .i64 Z] : Array Value).setIfInBounds i v=#[.string A',.string B',.int .i64 T',.int .i64 Z']):PB G A' B' T' Z' w (W.setCell ⟨G+1,i,none⟩ v) :=
 ⟨h.below.setCell (by show G<=G+1;omega) _,by rw[heap_setCell_same W (G+1) i _ 119 v h.box,he],(heap_setCell_other W ⟨G+1,i,none⟩ G v (by show G ≠ G+1;omega)).trans h.res⟩
theorem PB.grow {G:Nat} {A B:ByteArray} {T Z:Int} {w W W':World} (h:PB G A B T Z w W) (hb:Below W.heap.size W W'):PB G A B T Z w W' :=
 ⟨h.below.trans (hb.mono (Nat.le_of_lt (z6 h.res))),(hb.block _ (z6 h.box)).trans h.box,(hb.block _ (z6 h.res)).trans h.res⟩
theorem PB.cells {G:Nat} {A B:ByteArray} {T Z:Int} {w W:World} (h:PB G A B T Z w W):W.cell? ⟨G+1,0,none⟩=some (.string A)/\W.cell? ⟨G+1,1,none⟩=some (.string B)/\W.cell? ⟨G+1,2,none⟩=some (.int .i64 T)/\W.cell? ⟨G+1,3,none⟩=some (.int .i64 Z)/\∀ i,W.frozen? ⟨G+1,i,none⟩=false :=
 ⟨(cell_of_row W (G+1) 0 _ _ _ h.box).trans rfl,(cell_of_row W (G+1) 1 _ _ _ h.box).trans rfl,(cell_of_row W (G+1) 2 _ _ _ h.box).trans rfl,(cell_of_row W (G+1) 3 _ _ _ h.box).trans rfl,fun i=>frozen_of_row W (G+1) i _ _ h.box⟩
theorem Tryz.results70:Tryz.f70.results=#[.cell 2 119,.tmp 3]:=by kernel_rfl
theorem Tryz.size119:(Tryz.prog.info? 119).map (·.size)=some 4:=by kernel_rfl
def kV (s:List UInt8) (e:Ending):Prop := ∃ p b,e=.returned (.tuple #[.agg (qK p),.bool b])/\(b=true->okP p/\qq p=s)/\∀ q,okP q->qq q=s->b=true
set_option maxHeartbeats 2000000 in
theorem jW (s:List UInt8) (hs:s.length<=1000000) (w:World):Calls Tryz.prog 70 #[.string ⟨s.toArray⟩] w fun e w'=>Below w.heap.size w w'/\kV s e:=by
 obtain⟨S,HS⟩:=nm_ (⟨s.toArray⟩:ByteArray)
 obtain⟨n,HN⟩:=nm_ s.length
 have hsz:S.size=n:=by rw[<-HS.out,xX];exact HN.out
 have hn:n<=1000000:=by rw[<-HN.out];exact hs
 obtain⟨G,HG⟩:=nm_ w.heap.size
 obtain⟨w1,HW1⟩:=nm_ ((w.alloc (.cells #[.string ⟨#[]⟩,.string ⟨#[]⟩,.int .i64 0,.int .i64 0] 119)).alloc (.cells #[.string ⟨#[]⟩,.string ⟨#[]⟩,.int .i64 0,.int .i64 0] 119))
 have PB1:Hid (PB G ⟨#[]⟩ ⟨#[]⟩ 0 0 w w1):=hid (by
  rw[<-HW1.out,<-HG.out]
  refine⟨((Below.refl _ w).alloc (Nat.le_refl _) _).alloc (by simp) _,?_,?_⟩
  ·have:=heap_alloc_new (w.alloc (.cells #[.string ⟨#[]⟩,.string ⟨#[]⟩,.int .i64 0,.int .i64 0] 119)) (.cells #[.string ⟨#[]⟩,.string ⟨#[]⟩,.int .i64 0,.int .i64 0] 119)
   simpa using this
  ·have h1:=heap_alloc_new w (.cells #[.string ⟨#[]⟩,.string ⟨#[]⟩,.int .i64 0,.int .i64 0] 119)
   have h2:=((Below.refl (w.alloc (.cells #[.string ⟨#[]⟩,.string ⟨#[]⟩,.int .i64 0,.int .i64 0] 119)).heap.size (w.alloc (.cells #[.string ⟨#[]⟩,.string ⟨#[]⟩,.int .i64 0,.int .i64 0] 119))).alloc (Nat.le_refl _) (.cells #[.string ⟨#[]⟩,.string ⟨#[]⟩,.int .i64 0,.int .i64 0] 119)).block w.heap.size (by simp)
   exact h2.trans h1)
 have NOP:Hid ((∀ q,okP q->qq q ≠ s)->kV s (.returned (.tuple #[.agg #[.string ⟨#[]⟩,.string ⟨#[]⟩,.int .i64 0,.int .i64 0],.bool false]))):=fun h=>⟨⟨[],[],0,0⟩,false,rfl,(fun h=>by cases h),fun q h1 h2=>absurd h2 (h q h1)⟩
 rw[HS.out]
 clear hs
 go_enter Tryz.func70,Tryz.ntmps70
 go_wp2
 rw[HG.out,HW1.out]
 go_loopg [5] n (fun g i wr=>∃ o:Nat,o<=n/\g=n-o/\i=.int .i64 o/\Hid (∀ x ∈ s.take o,x ≠ 60)/\Hid (wr=w1))
 case atStart=>exact⟨0,by omega,rfl,rfl,hid (by simp),hid rfl⟩
 case round =>
  obtain⟨o,ho,hk,rfl,HT,HWR⟩:=hrel
  have h2:w1=wr:=HWR.out.symm
  subst h2
  clear HWR
  by_cases hlt:o<n
  ·have hlti:(o:Int)<(n:Int):=by omega
   obtain⟨x,hx⟩:∃ x,s[o]? = some x:=⟨_,List.getElem?_eq_getElem (by rw[HN.out];exact hlt)⟩
   obtain⟨c,HC⟩:=nm_ (x.toNat:Int)
   have HX:Hid (s[o]? = some x):=hx
   have hix:∀ w1:World,(Instr.index 9 (.string S) (.int .i64 o)).run Tryz.prog w1=.ok (.int .u8 c) w1:=fun w1=>by rw[<-HS.out,<-HC.out];exact yk s o w1 x HX.out
   clear hx
   by_cases hc:c=60
   ·have HO2:Hid (s[o]? = some 60):=hid (by rw[HX.out,(Qv (n:=60) (by decide)).1 (HC.out.trans hc)];rfl)
    clear HC
    subst hc
    go_wp2
    go_loopg [6] (n-o) (fun g i wr=>∃ sh:Nat,o<=sh/\sh<=n/\g=n-sh/\i=.int .i64 sh/\Hid (∀ x ∈ (s.take sh).drop o,x ≠ 62)/\Hid (wr=w1))
    case atStart=>exact⟨o,by omega,by omega,rfl,rfl,hid (by simp),hid rfl⟩
    case round =>
     obtain⟨sh,hsh1,hsh,hk2,rfl,HT2,HWR⟩:=hrel
     have h2:w1=wr:=HWR.out.symm
     subst h2
     clear HWR
     by_cases hlt2:sh<n
     ·have hlti2:(sh:Int)<(n:Int):=by omega
      obtain⟨y,hy⟩:∃ x,s[sh]? = some x:=⟨_,List.getElem?_eq_getElem (by rw[HN.out];exact hlt2)⟩
      obtain⟨d,HD⟩:=nm_ (y.toNat:Int)
      have HY:Hid (s[sh]? = some y):=hy
      have hiy:∀ w1:World,(Instr.index 9 (.string S) (.int .i64 sh)).run Tryz.prog w1=.ok (.int .u8 d) w1:=fun w1=>by rw[<-HS.out,<-HD.out];exact yk s sh w1 y HY.out
      clear hy
      by_cases hd:d=62
      ·have HS2:Hid (s[sh]? = some 62):=hid (by rw[HY.out,(Qv (n:=62) (by decide)).1 (HD.out.trans hd)];rfl)
       clear HD
       subst hd
       have hge2:¬ (n:Int)<=(sh:Int):=by omega
       have HPT:Hid (∀ q,okP q->qq q=s->o=q.name.length+1/\sh=q.name.length+2+q.mail.length/\s.length=sh+8+(Lib.decDigits q.time.toNat).length/\s.take (o-1)=q.name/\(s.drop (o+1)).take (sh-(o+1))=q.mail/\
         (s.drop (sh+2)).take (s.length-6-(sh+2))=Lib.decDigits q.time.toNat/\(s.drop (s.length-4)).take 2=two (zh q)/\s.drop (s.length-2)=two (zm q)/\s[s.length-5]? = some (zs q)):=fun q h1 h2=>per_parts q h1 s h2 o sh HT.out (.inr HO2.out) hsh1 HT2.out (.inr HS2.out)
       by_cases ho1:(o:Int)<1
       ·have HNO:Hid (∀ q,okP q->qq q ≠ s):=fun q h1 h2=>by have:=(HPT.out q h1 h2).1;omega
        obtain⟨c0,c1,c2,c3,cf⟩:=PB1.out.cells
        have E1:Hid (w1.there G 0 (#[.string ⟨#[]⟩,.string ⟨#[]⟩,.int .i64 0,.int .i64 0] : Array Value).size):=hid (zy PB1.out.res 0 (Nat.le_refl _))
        have E2:Hid ((Tryz.prog.info? 119).map (·.size)=some (#[.string ⟨#[]⟩,.string ⟨#[]⟩,.int .i64 0,.int .i64 0] : Array Value).size):=Tryz.size119
        have E3:Hid ((#[.string ⟨#[]⟩,.string ⟨#[]⟩,.int .i64 0,.int .i64 0] : Array Value).all (·.oneCell')=true):=hid (all_oneCell_toArray (fun v hv=>by simp only[List.mem_cons,List.not_mem_nil,or_false] at hv;rcases hv with rfl | rfl | rfl | rfl <;> rfl))
        go_wp2_with (refine wpList_store_mid rfl 119 _ _ rfl G 0 #[.string ⟨#[]⟩,.string ⟨#[]⟩,.int .i64 0,.int .i64 0] rfl rfl E1.out E2.out E3.out ?_)
        refine bodyPost_ret (v:=.tuple #[.agg #[.string ⟨#[]⟩,.string ⟨#[]⟩,.int .i64 0,.int .i64 0],.bool false]) (zj Tryz.results70 _ _ G (#[.string ⟨#[]⟩,.string ⟨#[]⟩,.int .i64 0,.int .i64 0] : Array Value).toList _ rfl (World.rangeAt_setCells_same w1 G 0 _ E1.out) Tryz.underlying119 rfl Tryz.size119) rfl ⟨?_,?_⟩
        ·rw[HG.out];exact z7 (Nat.le_refl _) _ _ _ _ PB1.out.below
        ·exact NOP.out HNO.out
       by_cases h9:(n:Int)<(sh:Int)+9
       ·have HNO:Hid (∀ q,okP q->qq q ≠ s):=fun q h1 h2=>by
         have h3:=(HPT.out q h1 h2).2.2.1
         have h4:=(Vx q.time.toNat).2.2.1
         rw[HN.out] at h3
         omega
        obtain⟨c0,c1,c2,c3,cf⟩:=PB1.out.cells
        have E1:Hid (w1.there G 0 (#[.string ⟨#[]⟩,.string ⟨#[]⟩,.int .i64 0,.int .i64 0] : Array Value).size):=hid (zy PB1.out.res 0 (Nat.le_refl _))
        have E2:Hid ((Tryz.prog.info? 119).map (·.size)=some (#[.string ⟨#[]⟩,.string ⟨#[]⟩,.int .i64 0,.int .i64 0] : Array Value).size):=Tryz.size119
        have E3:Hid ((#[.string ⟨#[]⟩,.string ⟨#[]⟩,.int .i64 0,.int .i64 0] : Array Value).all (·.oneCell')=true):=hid (all_oneCell_toArray (fun v hv=>by simp only[List.mem_cons,List.not_mem_nil,or_false] at hv;rcases hv with rfl | rfl | rfl | rfl <;> rfl))
        go_wp2_with (refine wpList_store_mid rfl 119 _ _ rfl G 0 #[.string ⟨#[]⟩,.string ⟨#[]⟩,.int .i64 0,.int .i64 0] rfl rfl E1.out E2.out E3.out ?_)
        refine bodyPost_ret (v:=.tuple #[.agg #[.string ⟨#[]⟩,.string ⟨#[]⟩,.int .i64 0,.int .i64 0],.bool false]) (zj Tryz.results70 _ _ G (#[.string ⟨#[]⟩,.string ⟨#[]⟩,.int .i64 0,.int .i64 0] : Array Value).toList _ rfl (World.rangeAt_setCells_same w1 G 0 _ E1.out) Tryz.underlying119 rfl Tryz.size119) rfl ⟨?_,?_⟩
        ·rw[HG.out];exact z7 (Nat.le_refl _) _ _ _ _ PB1.out.below
        ·exact NOP.out HNO.out
       have hso:o+1<=sh:=by
        rcases Nat.lt_or_ge o sh with h | h
        ·exact h
        ·have e2:sh=o:=by omega
         have h3:=HS2.out
         rw[e2,HO2.out] at h3
         simp at h3
       have h9n:sh+9<=n:=by omega
       have ho1n:1<=o:=by omega
       obtain⟨a1,Q1⟩:=nm_ (s.take (o-1))
       obtain⟨A1,R1⟩:=nm_ (⟨a1.toArray⟩:ByteArray)
       obtain⟨a2,Q2⟩:=nm_ ((s.drop (o+1)).take (sh-(o+1)))
       obtain⟨A2,R2⟩:=nm_ (⟨a2.toArray⟩:ByteArray)
       obtain⟨a3,Q3⟩:=nm_ ((s.drop (sh+2)).take (n-6-(sh+2)))
       obtain⟨A3,R3⟩:=nm_ (⟨a3.toArray⟩:ByteArray)
       obtain⟨a4,Q4⟩:=nm_ ((s.drop (n-4)).take 2)
       obtain⟨A4,R4⟩:=nm_ (⟨a4.toArray⟩:ByteArray)
       obtain⟨a5,Q5⟩:=nm_ (s.drop (n-2))
       obtain⟨A5,R5⟩:=nm_ (⟨a5.toArray⟩:ByteArray)
       have q4:Hid (a4.length=2):=hid (by rw[<-Q4.out,List.length_take,List.length_drop,HN.out];omega)
       have q5:Hid (a5.length=2):=hid (by rw[<-Q5.out,List.length_drop,HN.out];omega)
       have z4:A4.size=2:=by rw[<-R4.out,xX];exact q4.out
       have z5:A5.size=2:=by rw[<-R5.out,xX];exact q5.out
       have l49:(⟨#[49]⟩:ByteArray).size=1:=rfl
       obtain⟨B4,HB4⟩:∃ A:ByteArray,⟨#[49]⟩ ++ A4=A:=⟨_,rfl⟩
       obtain⟨B5,HB5⟩:∃ A:ByteArray,⟨#[49]⟩ ++ A5=A:=⟨_,rfl⟩
       have T4:Hid (⟨(49 :: a4).toArray⟩=B4):=hid (by rw[<-HB4,<-R4.out,show (⟨#[49]⟩:ByteArray)=⟨[49].toArray⟩ from rfl,Yu];rfl)
       have T5:Hid (⟨(49 :: a5).toArray⟩=B5):=hid (by rw[<-HB5,<-R5.out,show (⟨#[49]⟩:ByteArray)=⟨[49].toArray⟩ from rfl,Yu];rfl)
       have hs0:∀ W,(Instr.slice 9 (.string S) none (some (.int .i64 ((o:Int)-1))) none).run Tryz.prog W=.ok (.string A1) W:=fun W=>by
        rw[<-HS.out,<-R1.out,<-Q1.out,show ((o:Int)-1)=((o-1:Nat):Int) from by omega];exact slice_to s (o-1) (by rw[HN.out];omega) W
       have hs1:∀ W,(Instr.slice 9 (.string S) (some (.int .i64 ((o:Int)+1))) (some (.int .i64 sh)) none).run Tryz.prog W=.ok (.string A2) W:=fun W=>by
        rw[<-HS.out,<-R2.out,<-Q2.out];exact YZ s (o+1) sh hso (by rw[HN.out];omega) W
       have hs2:∀ W,(Instr.slice 9 (.string S) (some (.int .i64 ((sh:Int)+2))) (some (.int .i64 ((n:Int)-6))) none).run Tryz.prog W=.ok (.string A3) W:=fun W=>by
        rw[<-HS.out,<-R3.out,<-Q3.out,show ((n:Int)-6)=((n-6:Nat):Int) from by omega];exact YZ s (sh+2) (n-6) (by omega) (by rw[HN.out];omega) W
       have hs3:∀ W,(Instr.slice 9 (.string S) (some (.int .i64 ((n:Int)-4))) (some (.int .i64 ((n:Int)-2))) none).run Tryz.prog W=.ok (.string A4) W:=fun W=>by
        rw[<-HS.out,<-R4.out,<-Q4.out,show ((n:Int)-4)=((n-4:Nat):Int) from by omega,show ((n:Int)-2)=((n-2:Nat):Int) from by omega]
        have h:=YZ s (n-4) (n-2) (by omega) (by rw[HN.out];omega) W
        rw[show n-2-(n-4)=2 from by omega] at h
        exact h
       have hs4:∀ W,(Instr.slice 9 (.string S) (some (.int .i64 ((n:Int)-2))) none none).run Tryz.prog W=.ok (.string A5) W:=fun W=>by
        rw[<-HS.out,<-R5.out,<-Q5.out,show ((n:Int)-2)=((n-2:Nat):Int) from by omega];exact uX s (n-2) (by rw[HN.out];omega) W
       have N3:Hid (∀ W,Calls Tryz.prog 100 #[.string A3] W fun e w'=>w'=W/\PostN a3 e):=fun W=>by rw[<-R3.out];exact Y5 a3 W
       have N4:Hid (∀ W,Calls Tryz.prog 100 #[.string B4] W fun e w'=>w'=W/\PostN (49 :: a4) e):=fun W=>by rw[<-T4.out];exact Y5 _ W
       have N5:Hid (∀ W,Calls Tryz.prog 100 #[.string B5] W fun e w'=>w'=W/\PostN (49 :: a5) e):=fun W=>by rw[<-T5.out];exact Y5 _ W
       obtain⟨y5,hy5⟩:∃ x,s[n-5]? = some x:=⟨_,List.getElem?_eq_getElem (by rw[HN.out];omega)⟩
       obtain⟨d5,HD5⟩:=nm_ (y5.toNat:Int)
       have HY5:Hid (s[n-5]? = some y5):=hy5
       have hi5:∀ w1:World,(Instr.index 9 (.string S) (.int .i64 ((n:Int)-5))).run Tryz.prog w1=.ok (.int .u8 d5) w1:=fun w1=>by rw[<-HS.out,<-HD5.out,show ((n:Int)-5)=((n-5:Nat):Int) from by omega];exact yk s (n-5) w1 y5 HY5.out
       clear hy5
       obtain⟨c0,c1,c2,c3,cf⟩:=PB1.out.cells
       go_wp2_with fail
       have PB2:Hid (PB G A1 A2 0 0 w ((w1.setCell ⟨G+1,0,none⟩ (.string A1)).setCell ⟨G+1,1,none⟩ (.string A2))):=(PB1.out.step (A':=A1) (B':=⟨#[]⟩) (T':=0) (Z':=0) 0 _ rfl).step 1 _ rfl
       generalize (w1.setCell ⟨G+1,0,none⟩ (.string A1)).setCell ⟨G+1,1,none⟩ (.string A2)=w2 at PB2 ⊢
       clear c0 c1 c2 c3 cf hs0 hs1 hs2
       refine(N3.out w2).mono ?_
       rintro ev w2' ⟨hw2,v,rfl,hv⟩
       have hw2':=hw2.symm
       subst hw2'
       clear hw2
       have HV:Hid (NuP a3 v):=hv
       clear hv
       obtain⟨c0,c1,c2,c3,cf⟩:=PB2.out.cells
       go_wp2_with fail
       have PB3:Hid (PB G A1 A2 v 0 w (w2.setCell ⟨G+1,2,none⟩ (.int .i64 v))):=PB2.out.step 2 _ rfl
       generalize w2.setCell ⟨G+1,2,none⟩ (.int .i64 v)=w3 at PB3 ⊢
       clear c0 c1 c2 c3 cf hs3
       refine(N4.out w3).mono ?_
       rintro ev w3' ⟨hw3,h,rfl,hh⟩
       have hw3':=hw3.symm
       subst hw3'
       clear hw3
       have HH:Hid (NuP (49 :: a4) h):=hh
       clear hh
       go_wp2_with fail
       refine(N5.out w3).mono ?_
       rintro ev w3' ⟨hw3,m,rfl,hm⟩
       have hw3':=hw3.symm
       subst hw3'
       clear hw3 hs4
       have HM:Hid (NuP (49 :: a5) m):=hm
       clear hm
       obtain⟨c0,c1,c2,c3,cf⟩:=PB3.out.cells
       have HQV:Hid (∀ q,okP q->qq q=s->a1=q.name/\a2=q.mail/\v=(q.time.toNat:Int)/\h=100+(zh q:Int)/\m=100+(zm q:Int)/\y5=zs q):=fun q g1 g2=>by
        obtain⟨-,-,-,t1,t2,t3,t4,t5,t6⟩:=HPT.out q g1 g2
        rw[HN.out] at t3 t4 t5 t6
        rw[Q1.out] at t1
        rw[Q2.out] at t2
        rw[Q3.out] at t3
        rw[Q4.out] at t4
        rw[Q5.out] at t5
        have u1:=HV.out
        have u2:=HH.out
        have u3:=HM.out
        rw[t3] at u1
        rw[t4] at u2
        rw[t5] at u3
        have b1:=g1.2.2.1
        have b2:=g1.2.2.2
        have k1:zh q<100:=by unfold zh;omega
        have k2:zm q<100:=by unfold zm;omega
        refine⟨t1,t2,num_dig (by omega) u1,num_two k1 u2,num_two k2 u3,?_⟩
        rw[HY5.out] at t6
        exact Option.some.inj t6
       have HPV:Hid (∀ z,qK ⟨a1,a2,v,z⟩=#[.string A1,.string A2,.int .i64 v,.int .i64 z]):=fun z=>by unfold qK;rw[<-R1.out,<-R2.out]
       have NO2:Hid ((∀ q,okP q->qq q ≠ s)->kV s (.returned (.tuple #[.agg #[.string A1,.string A2,.int .i64 v,.int .i64 0],.bool false]))):=fun h=>⟨⟨a1,a2,v,0⟩,false,by rw[HPV.out],(fun h=>by cases h),fun q h1 h2=>absurd h2 (h q h1)⟩
       by_cases hh0:h<0
       ·have HNO:Hid (∀ q,okP q->qq q ≠ s):=fun q g1 g2=>by have:=(HQV.out q g1 g2).2.2.2.1;omega
        have E1:Hid (w3.there G 0 (#[.string A1,.string A2,.int .i64 v,.int .i64 0] : Array Value).size):=hid (zy PB3.out.res 0 (Nat.le_refl _))
        have E2:Hid ((Tryz.prog.info? 119).map (·.size)=some (#[.string A1,.string A2,.int .i64 v,.int .i64 0] : Array Value).size):=Tryz.size119
        have E3:Hid ((#[.string A1,.string A2,.int .i64 v,.int .i64 0] : Array Value).all (·.oneCell')=true):=hid (all_oneCell_toArray (fun v hv=>by simp only[List.mem_cons,List.not_mem_nil,or_false] at hv;rcases hv with rfl | rfl | rfl | rfl <;> rfl))
        go_wp2_with (refine wpList_store_mid rfl 119 _ _ rfl G 0 #[.string A1,.string A2,.int .i64 v,.int .i64 0] rfl rfl E1.out E2.out E3.out ?_)
        refine bodyPost_ret (v:=.tuple #[.agg #[.string A1,.string A2,.int .i64 v,.int .i64 0],.bool false]) (zj Tryz.results70 _ _ G (#[.string A1,.string A2,.int .i64 v,.int .i64 0] : Array Value).toList _ rfl (World.rangeAt_setCells_same w3 G 0 _ E1.out) Tryz.underlying119 rfl Tryz.size119) rfl ⟨?_,?_⟩
        ·rw[HG.out];exact z7 (Nat.le_refl _) _ _ _ _ PB3.out.below
        ·exact NO2.out HNO.out
       by_cases hm0:m<0
       ·have HNO:Hid (∀ q,okP q->qq q ≠ s):=fun q g1 g2=>by have:=(HQV.out q g1 g2).2.2.2.2.1;omega
        have E1:Hid (w3.there G 0 (#[.string A1,.string A2,.int .i64 v,.int .i64 0] : Array Value).size):=hid (zy PB3.out.res 0 (Nat.le_refl _))
        have E2:Hid ((Tryz.prog.info? 119).map (·.size)=some (#[.string A1,.string A2,.int .i64 v,.int .i64 0] : Array Value).size):=Tryz.size119
        have E3:Hid ((#[.string A1,.string A2,.int .i64 v,.int .i64 0] : Array Value).all (·.oneCell')=true):=hid (all_oneCell_toArray (fun v hv=>by simp only[List.mem_cons,List.not_mem_nil,or_false] at hv;rcases hv with rfl | rfl | rfl | rfl <;> rfl))
        go_wp2_with (refine wpList_store_mid rfl 119 _ _ rfl G 0 #[.string A1,.string A2,.int .i64 v,.int .i64 0] rfl rfl E1.out E2.out E3.out ?_)
        refine bodyPost_ret (v:=.tuple #[.agg #[.string A1,.string A2,.int .i64 v,.int .i64 0],.bool false]) (zj Tryz.results70 _ _ G (#[.string A1,.string A2,.int .i64 v,.int .i64 0] : Array Value).toList _ rfl (World.rangeAt_setCells_same w3 G 0 _ E1.out) Tryz.underlying119 rfl Tryz.size119) rfl ⟨?_,?_⟩
        ·rw[HG.out];exact z7 (Nat.le_refl _) _ _ _ _ PB3.out.below
        ·exact NO2.out HNO.out
       have hb1:0<=h/\h<1000:=by
        rcases num_three (by simp[q4.out]) HH.out with h | h
        ·omega
        ·exact h
       have hb2:0<=m/\m<1000:=by
        rcases num_three (by simp[q5.out]) HM.out with h | h
        ·omega
        ·exact h
       obtain⟨hb1,hb1'⟩:=hb1
       obtain⟨hb2,hb2'⟩:=hb2
       obtain⟨z,HZ⟩:=nn_ ((h-100)*60+m-100)
       have hzz:(h-100)*60+m-100=z:=HZ.out.symm
       have hz1 : -10000<=z:=by rw[HZ.out];omega
       have hz2:z<=100000:=by rw[HZ.out];omega
       by_cases h45:d5=45
       ·have HSG:Hid (y5=45):=hid ((Qv (n:=45) (by decide)).1 (HD5.out.trans h45))
        clear HD5
        subst h45
        have HPQ:Hid (∀ q,okP q->qq q=s->(⟨a1,a2,v,(-z)⟩:Per)=q):=fun q g1 g2=>by
         obtain⟨t1,t2,t3,t4,t5,t6⟩:=HQV.out q g1 g2
         refine per_back q g1 z (by rw[HZ.out,t4,t5]) _ t1 t2 t3 (fun g=>?_) (fun g=>?_)
         ·rfl
         ·exact absurd (t6.symm.trans HSG.out) g
        have CX:Hid (∀ W,Calls Tryz.prog 101 #[.agg #[.string A1,.string A2,.int .i64 v,.int .i64 (-z)]] W (PostX ⟨a1,a2,v,(-z)⟩ W)):=fun W=>by rw[<-HPV.out];exact Y4 _ W
        go_wp2_with fail
        have PB4:Hid (PB G A1 A2 v (-z) w ((w3.setCell ⟨G+1,3,none⟩ (.int .i64 z)).setCell ⟨G+1,3,none⟩ (.int .i64 (-z)))):=(PB3.out.step (A':=A1) (B':=A2) (T':=v) (Z':=z) 3 _ rfl).step 3 _ rfl
        generalize (w3.setCell ⟨G+1,3,none⟩ (.int .i64 z)).setCell ⟨G+1,3,none⟩ (.int .i64 (-z))=w4 at PB4 ⊢
        clear c0 c1 c2 c3 cf
        refine(CX.out w4).mono ?_
        rintro ev w5 ⟨hb5,hor⟩
        have PB5:Hid (PB G A1 A2 v (-z) w w5):=PB4.out.grow hb5
        clear hb5
        obtain⟨c0,c1,c2,c3,cf⟩:=PB5.out.cells
        rcases hor with ⟨hok,rfl⟩ | ⟨hno,rfl⟩
        ·have HOK:Hid (okP ⟨a1,a2,v,(-z)⟩):=hok
         clear hok
         obtain⟨TX,HTX⟩:=nm_ (⟨(qq ⟨a1,a2,v,(-z)⟩).toArray⟩:ByteArray)
         rw[HTX.out]
         obtain⟨bq,heq⟩:∃ b:Bool,(TX.toList == S.toList)=b:=⟨_,rfl⟩
         have HEI:Hid (bq=true ↔ qq ⟨a1,a2,v,(-z)⟩=s):=hid (by
          rw[<-heq,<-HTX.out,<-HS.out,Lib.toList_data,Lib.toList_data]
          simp)
         have FIN:Hid (kV s (.returned (.tuple #[.agg #[.string A1,.string A2,.int .i64 v,.int .i64 (-z)],.bool bq]))):=⟨⟨a1,a2,v,(-z)⟩,bq,by rw[HPV.out],fun h=>⟨HOK.out,HEI.out.1 h⟩,fun q g1 g2=>HEI.out.2 (by rw[HPQ.out q g1 g2];exact g2)⟩
         clear HEI
         have E1:Hid (w5.there G 0 (#[.string A1,.string A2,.int .i64 v,.int .i64 (-z)] : Array Value).size):=hid (zy PB5.out.res 0 (Nat.le_refl _))
         have E2:Hid ((Tryz.prog.info? 119).map (·.size)=some (#[.string A1,.string A2,.int .i64 v,.int .i64 (-z)] : Array Value).size):=Tryz.size119
         have E3:Hid ((#[.string A1,.string A2,.int .i64 v,.int .i64 (-z)] : Array Value).all (·.oneCell')=true):=hid (all_oneCell_toArray (fun v hv=>by simp only[List.mem_cons,List.not_mem_nil,or_false] at hv;rcases hv with rfl | rfl | rfl | rfl <;> rfl))
         go_wp2_with (refine wpList_store_mid rfl 119 _ _ rfl G 0 #[.string A1,.string A2,.int .i64 v,.int .i64 (-z)] rfl rfl E1.out E2.out E3.out ?_)
         refine bodyPost_ret (v:=.tuple #[.agg #[.string A1,.string A2,.int .i64 v,.int .i64 (-z)],.bool bq]) (zj Tryz.results70 _ _ G (#[.string A1,.string A2,.int .i64 v,.int .i64 (-z)] : Array Value).toList _ rfl (World.rangeAt_setCells_same w5 G 0 _ E1.out) Tryz.underlying119 rfl Tryz.size119) rfl ⟨?_,?_⟩
         ·rw[HG.out];exact z7 (Nat.le_refl _) _ _ _ _ PB5.out.below
         ·exact FIN.out
        ·have HNK:Hid (¬ okP ⟨a1,a2,v,(-z)⟩):=hno
         clear hno
         have FIN:Hid (kV s (.returned (.tuple #[.agg #[.string A1,.string A2,.int .i64 v,.int .i64 (-z)],.bool false]))):=⟨⟨a1,a2,v,(-z)⟩,false,by rw[HPV.out],(fun h=>by cases h),fun q g1 g2=>absurd (by rw[HPQ.out q g1 g2];exact g1) HNK.out⟩
         have E1:Hid (w5.there G 0 (#[.string A1,.string A2,.int .i64 v,.int .i64 (-z)] : Array Value).size):=hid (zy PB5.out.res 0 (Nat.le_refl _))
         have E2:Hid ((Tryz.prog.info? 119).map (·.size)=some (#[.string A1,.string A2,.int .i64 v,.int .i64 (-z)] : Array Value).size):=Tryz.size119
         have E3:Hid ((#[.string A1,.string A2,.int .i64 v,.int .i64 (-z)] : Array Value).all (·.oneCell')=true):=hid (all_oneCell_toArray (fun v hv=>by simp only[List.mem_cons,List.not_mem_nil,or_false] at hv;rcases hv with rfl | rfl | rfl | rfl <;> rfl))
         go_wp2_with (refine wpList_store_mid rfl 119 _ _ rfl G 0 #[.string A1,.string A2,.int .i64 v,.int .i64 (-z)] rfl rfl E1.out E2.out E3.out ?_)
         refine bodyPost_ret (v:=.tuple #[.agg #[.string A1,.string A2,.int .i64 v,.int .i64 (-z)],.bool false]) (zj Tryz.results70 _ _ G (#[.string A1,.string A2,.int .i64 v,.int .i64 (-z)] : Array Value).toList _ rfl (World.rangeAt_setCells_same w5 G 0 _ E1.out) Tryz.underlying119 rfl Tryz.size119) rfl ⟨?_,?_⟩
         ·rw[HG.out];exact z7 (Nat.le_refl _) _ _ _ _ PB5.out.below
         ·exact FIN.out
       ·have HSG:Hid (y5 ≠ 45):=fun e=>h45 (HD5.out.symm.trans (by rw[e];rfl))
        have h45b:(d5 == 45)=false:=by simpa using h45
        have HPQ:Hid (∀ q,okP q->qq q=s->(⟨a1,a2,v,z⟩:Per)=q):=fun q g1 g2=>by
         obtain⟨t1,t2,t3,t4,t5,t6⟩:=HQV.out q g1 g2
         refine per_back q g1 z (by rw[HZ.out,t4,t5]) _ t1 t2 t3 (fun g=>?_) (fun g=>?_)
         ·exact absurd (t6.trans g) HSG.out
         ·rfl
        have CX:Hid (∀ W,Calls Tryz.prog 101 #[.agg #[.string A1,.string A2,.int .i64 v,.int .i64 z]] W (PostX ⟨a1,a2,v,z⟩ W)):=fun W=>by rw[<-HPV.out];exact Y4 _ W
        go_wp2_with fail
        have PB4:Hid (PB G A1 A2 v z w (w3.setCell ⟨G+1,3,none⟩ (.int .i64 z))):=PB3.out.step 3 _ rfl
        generalize w3.setCell ⟨G+1,3,none⟩ (.int .i64 z)=w4 at PB4 ⊢
        clear c0 c1 c2 c3 cf
        refine(CX.out w4).mono ?_
        rintro ev w5 ⟨hb5,hor⟩
        have PB5:Hid (PB G A1 A2 v z w w5):=PB4.out.grow hb5
        clear hb5
        obtain⟨c0,c1,c2,c3,cf⟩:=PB5.out.cells
        rcases hor with ⟨hok,rfl⟩ | ⟨hno,rfl⟩
        ·have HOK:Hid (okP ⟨a1,a2,v,z⟩):=hok
         clear hok
         obtain⟨TX,HTX⟩:=nm_ (⟨(qq ⟨a1,a2,v,z⟩).toArray⟩:ByteArray)
         rw[HTX.out]
         obtain⟨bq,heq⟩:∃ b:Bool,(TX.toList == S.toList)=b:=⟨_,rfl⟩
         have HEI:Hid (bq=true ↔ qq ⟨a1,a2,v,z⟩=s):=hid (by
          rw[<-heq,<-HTX.out,<-HS.out,Lib.toList_data,Lib.toList_data]
          simp)
         have FIN:Hid (kV s (.returned (.tuple #[.agg #[.string A1,.string A2,.int .i64 v,.int .i64 z],.bool bq]))):=⟨⟨a1,a2,v,z⟩,bq,by rw[HPV.out],fun h=>⟨HOK.out,HEI.out.1 h⟩,fun q g1 g2=>HEI.out.2 (by rw[HPQ.out q g1 g2];exact g2)⟩
         clear HEI
         have E1:Hid (w5.there G 0 (#[.string A1,.string A2,.int .i64 v,.int .i64 z] : Array Value).size):=hid (zy PB5.out.res 0 (Nat.le_refl _))
         have E2:Hid ((Tryz.prog.info? 119).map (·.size)=some (#[.string A1,.string A2,.int .i64 v,.int .i64 z] : Array Value).size):=Tryz.size119
         have E3:Hid ((#[.string A1,.string A2,.int .i64 v,.int .i64 z] : Array Value).all (·.oneCell')=true):=hid (all_oneCell_toArray (fun v hv=>by simp only[List.mem_cons,List.not_mem_nil,or_false] at hv;rcases hv with rfl | rfl | rfl | rfl <;> rfl))
         go_wp2_with (refine wpList_store_mid rfl 119 _ _ rfl G 0 #[.string A1,.string A2,.int .i64 v,.int .i64 z] rfl rfl E1.out E2.out E3.out ?_)
         refine bodyPost_ret (v:=.tuple #[.agg #[.string A1,.string A2,.int .i64 v,.int .i64 z],.bool bq]) (zj Tryz.results70 _ _ G (#[.string A1,.string A2,.int .i64 v,.int .i64 z] : Array Value).toList _ rfl (World.rangeAt_setCells_same w5 G 0 _ E1.out) Tryz.underlying119 rfl Tryz.size119) rfl ⟨?_,?_⟩
         ·rw[HG.out];exact z7 (Nat.le_refl _) _ _ _ _ PB5.out.below
         ·exact FIN.out
        ·have HNK:Hid (¬ okP ⟨a1,a2,v,z⟩):=hno
         clear hno
         have FIN:Hid (kV s (.returned (.tuple #[.agg #[.string A1,.string A2,.int .i64 v,.int .i64 z],.bool false]))):=⟨⟨a1,a2,v,z⟩,false,by rw[HPV.out],(fun h=>by cases h),fun q g1 g2=>absurd (by rw[HPQ.out q g1 g2];exact g1) HNK.out⟩
         have E1:Hid (w5.there G 0 (#[.string A1,.string A2,.int .i64 v,.int .i64 z] : Array Value).size):=hid (zy PB5.out.res 0 (Nat.le_refl _))
         have E2:Hid ((Tryz.prog.info? 119).map (·.size)=some (#[.string A1,.string A2,.int .i64 v,.int .i64 z] : Array Value).size):=Tryz.size119
         have E3:Hid ((#[.string A1,.string A2,.int .i64 v,.int .i64 z] : Array Value).all (·.oneCell')=true):=hid (all_oneCell_toArray (fun v hv=>by simp only[List.mem_cons,List.not_mem_nil,or_false] at hv;rcases hv with rfl | rfl | rfl | rfl <;> rfl))
         go_wp2_with (refine wpList_store_mid rfl 119 _ _ rfl G 0 #[.string A1,.string A2,.int .i64 v,.int .i64 z] rfl rfl E1.out E2.out E3.out ?_)
         refine bodyPost_ret (v:=.tuple #[.agg #[.string A1,.string A2,.int .i64 v,.int .i64 z],.bool false]) (zj Tryz.results70 _ _ G (#[.string A1,.string A2,.int .i64 v,.int .i64 z] : Array Value).toList _ rfl (World.rangeAt_setCells_same w5 G 0 _ E1.out) Tryz.underlying119 rfl Tryz.size119) rfl ⟨?_,?_⟩
         ·rw[HG.out];exact z7 (Nat.le_refl _) _ _ _ _ PB5.out.below
         ·exact FIN.out
      ·have hdb:(d != 62)=true:=by simpa using hd
       go_wp2
       go_roundg (n-(sh+1))
       case measure=>omega
       case rel =>
        refine⟨sh+1,by omega,by omega,rfl,by go_num,hid ?_,hid rfl⟩
        rw[xz s sh y HY.out,List.drop_append_of_le_length (by rw[List.length_take,HN.out];omega)]
        intro u hu
        rcases List.mem_append.1 hu with hu | hu
        ·exact HT2.out u hu
        ·have:u=y:=by simpa using hu
         subst this
         rintro rfl
         exact hd (HD.out.symm.trans rfl)
     ·have hlti2:¬ (sh:Int)<(n:Int):=by omega
      have hge2:(n:Int)<=(sh:Int):=by omega
      have HNO:Hid (∀ q,okP q->qq q ≠ s):=fun q h1 h2=>by
       have h3:=per_parts q h1 s h2 o sh HT.out (.inr HO2.out) hsh1 HT2.out (.inl (by rw[HN.out];omega))
       have h4:=h3.2.2.1
       rw[HN.out] at h4
       omega
      obtain⟨c0,c1,c2,c3,cf⟩:=PB1.out.cells
      by_cases ho1:(o:Int)<1
      ·have E1:Hid (w1.there G 0 (#[.string ⟨#[]⟩,.string ⟨#[]⟩,.int .i64 0,.int .i64 0] : Array Value).size):=hid (zy PB1.out.res 0 (Nat.le_refl _))
       have E2:Hid ((Tryz.prog.info? 119).map (·.size)=some (#[.string ⟨#[]⟩,.string ⟨#[]⟩,.int .i64 0,.int .i64 0] : Array Value).size):=Tryz.size119
       have E3:Hid ((#[.string ⟨#[]⟩,.string ⟨#[]⟩,.int .i64 0,.int .i64 0] : Array Value).all (·.oneCell')=true):=hid (all_oneCell_toArray (fun v hv=>by simp only[List.mem_cons,List.not_mem_nil,or_false] at hv;rcases hv with rfl | rfl | rfl | rfl <;> rfl))
       go_wp2_with (refine wpList_store_mid rfl 119 _ _ rfl G 0 #[.string ⟨#[]⟩,.string ⟨#[]⟩,.int .i64 0,.int .i64 0] rfl rfl E1.out E2.out E3.out ?_)
       refine bodyPost_ret (v:=.tuple #[.agg #[.string ⟨#[]⟩,.string ⟨#[]⟩,.int .i64 0,.int .i64 0],.bool false]) (zj Tryz.results70 _ _ G (#[.string ⟨#[]⟩,.string ⟨#[]⟩,.int .i64 0,.int .i64 0] : Array Value).toList _ rfl (World.rangeAt_setCells_same w1 G 0 _ E1.out) Tryz.underlying119 rfl Tryz.size119) rfl ⟨?_,?_⟩
       ·rw[HG.out];exact z7 (Nat.le_refl _) _ _ _ _ PB1.out.below
       ·exact NOP.out HNO.out
      ·have E1:Hid (w1.there G 0 (#[.string ⟨#[]⟩,.string ⟨#[]⟩,.int .i64 0,.int .i64 0] : Array Value).size):=hid (zy PB1.out.res 0 (Nat.le_refl _))
       have E2:Hid ((Tryz.prog.info? 119).map (·.size)=some (#[.string ⟨#[]⟩,.string ⟨#[]⟩,.int .i64 0,.int .i64 0] : Array Value).size):=Tryz.size119
       have E3:Hid ((#[.string ⟨#[]⟩,.string ⟨#[]⟩,.int .i64 0,.int .i64 0] : Array Value).all (·.oneCell')=true):=hid (all_oneCell_toArray (fun v hv=>by simp only[List.mem_cons,List.not_mem_nil,or_false] at hv;rcases hv with rfl | rfl | rfl | rfl <;> rfl))
       go_wp2_with (refine wpList_store_mid rfl 119 _ _ rfl G 0 #[.string ⟨#[]⟩,.string ⟨#[]⟩,.int .i64 0,.int .i64 0] rfl rfl E1.out E2.out E3.out ?_)
       refine bodyPost_ret (v:=.tuple #[.agg #[.string ⟨#[]⟩,.string ⟨#[]⟩,.int .i64 0,.int .i64 0],.bool false]) (zj Tryz.results70 _ _ G (#[.string ⟨#[]⟩,.string ⟨#[]⟩,.int .i64 0,.int .i64 0] : Array Value).toList _ rfl (World.rangeAt_setCells_same w1 G 0 _ E1.out) Tryz.underlying119 rfl Tryz.size119) rfl ⟨?_,?_⟩
       ·rw[HG.out];exact z7 (Nat.le_refl _) _ _ _ _ PB1.out.below
       ·exact NOP.out HNO.out
   ·have hcb:(c != 60)=true:=by simpa using hc
    go_wp2
    go_roundg (n-(o+1))
    case measure=>omega
    case rel =>
     refine⟨o+1,by omega,rfl,by go_num,hid ?_,hid rfl⟩
     rw[xz s o x HX.out]
     intro u hu
     rcases List.mem_append.1 hu with hu | hu
     ·exact HT.out u hu
     ·have:u=x:=by simpa using hu
      subst this
      rintro rfl
      exact hc (HC.out.symm.trans rfl)
  ·have hlti:¬ (o:Int)<(n:Int):=by omega
   go_wp2
   go_loopg [6] (n-o) (fun g i wr=>∃ sh:Nat,o<=sh/\sh<=n/\g=n-sh/\i=.int .i64 sh/\Hid (∀ x ∈ (s.take sh).drop o,x ≠ 62)/\Hid (wr=w1))
   case atStart=>exact⟨o,by omega,by omega,rfl,rfl,hid (by simp),hid rfl⟩
   case round =>
    obtain⟨sh,hsh1,hsh,hk2,rfl,HT2,HWR⟩:=hrel
    have h2:w1=wr:=HWR.out.symm
    subst h2
    clear HWR
    have hlti2:¬ (sh:Int)<(n:Int):=by omega
    have hge2:(n:Int)<=(sh:Int):=by omega
    have HNO:Hid (∀ q,okP q->qq q ≠ s):=fun q h1 h2=>by
     have h3:=per_parts q h1 s h2 o sh HT.out (.inl (by rw[HN.out];omega)) hsh1 HT2.out (.inl (by rw[HN.out];omega))
     have h4:=h3.2.2.1
     rw[HN.out] at h4
     omega
    obtain⟨c0,c1,c2,c3,cf⟩:=PB1.out.cells
    by_cases ho1:(o:Int)<1
    ·have E1:Hid (w1.there G 0 (#[.string ⟨#[]⟩,.string ⟨#[]⟩,.int .i64 0,.int .i64 0] : Array Value).size):=hid (zy PB1.out.res 0 (Nat.le_refl _))
     have E2:Hid ((Tryz.prog.info? 119).map (·.size)=some (#[.string ⟨#[]⟩,.string ⟨#[]⟩,.int .i64 0,.int .i64 0] : Array Value).size):=Tryz.size119
     have E3:Hid ((#[.string ⟨#[]⟩,.string ⟨#[]⟩,.int .i64 0,.int .i64 0] : Array Value).all (·.oneCell')=true):=hid (all_oneCell_toArray (fun v hv=>by simp only[List.mem_cons,List.not_mem_nil,or_false] at hv;rcases hv with rfl | rfl | rfl | rfl <;> rfl))
     go_wp2_with (refine wpList_store_mid rfl 119 _ _ rfl G 0 #[.string ⟨#[]⟩,.string ⟨#[]⟩,.int .i64 0,.int .i64 0] rfl rfl E1.out E2.out E3.out ?_)
     refine bodyPost_ret (v:=.tuple #[.agg #[.string ⟨#[]⟩,.string ⟨#[]⟩,.int .i64 0,.int .i64 0],.bool false]) (zj Tryz.results70 _ _ G (#[.string ⟨#[]⟩,.string ⟨#[]⟩,.int .i64 0,.int .i64 0] : Array Value).toList _ rfl (World.rangeAt_setCells_same w1 G 0 _ E1.out) Tryz.underlying119 rfl Tryz.size119) rfl ⟨?_,?_⟩
     ·rw[HG.out];exact z7 (Nat.le_refl _) _ _ _ _ PB1.out.below
     ·exact NOP.out HNO.out
    ·have E1:Hid (w1.there G 0 (#[.string ⟨#[]⟩,.string ⟨#[]⟩,.int .i64 0,.int .i64 0] : Array Value).size):=hid (zy PB1.out.res 0 (Nat.le_refl _))
     have E2:Hid ((Tryz.prog.info? 119).map (·.size)=some (#[.string ⟨#[]⟩,.string ⟨#[]⟩,.int .i64 0,.int .i64 0] : Array Value).size):=Tryz.size119
     have E3:Hid ((#[.string ⟨#[]⟩,.string ⟨#[]⟩,.int .i64 0,.int .i64 0] : Array Value).all (·.oneCell')=true):=hid (all_oneCell_toArray (fun v hv=>by simp only[List.mem_cons,List.not_mem_nil,or_false] at hv;rcases hv with rfl | rfl | rfl | rfl <;> rfl))
     go_wp2_with (refine wpList_store_mid rfl 119 _ _ rfl G 0 #[.string ⟨#[]⟩,.string ⟨#[]⟩,.int .i64 0,.int .i64 0] rfl rfl E1.out E2.out E3.out ?_)
     refine bodyPost_ret (v:=.tuple #[.agg #[.string ⟨#[]⟩,.string ⟨#[]⟩,.int .i64 0,.int .i64 0],.bool false]) (zj Tryz.results70 _ _ G (#[.string ⟨#[]⟩,.string ⟨#[]⟩,.int .i64 0,.int .i64 0] : Array Value).toList _ rfl (World.rangeAt_setCells_same w1 G 0 _ E1.out) Tryz.underlying119 rfl Tryz.size119) rfl ⟨?_,?_⟩
     ·rw[HG.out];exact z7 (Nat.le_refl _) _ _ _ _ PB1.out.below
     ·exact NOP.out HNO.out
end Go.Proofs.YticgindfipobiaaGreatDoor
