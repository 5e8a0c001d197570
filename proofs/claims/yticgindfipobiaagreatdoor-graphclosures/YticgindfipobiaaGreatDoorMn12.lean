import Derived.Test.YticgindfipobiaaGreatDoorMn10
import Derived.Test.YticgindfipobiaaGreatDoorMn09
import Derived.Shelf.Strconv.AtoiAll
set_option linter.unusedSimpArgs false
set_option linter.unusedVariables false
set_option maxRecDepth 20000
set_option maxHeartbeats 4000000
namespace Go.Proofs.YticgindfipobiaaGreatDoor
open Go.RowKit
def Ers (w:World):Prop:=(∃ ev,w.cell? ⟨3,0,none⟩=some ev/\(ev=.nilIface ∨ ∃ te pe,ev=.iface te pe))/\(∃ ev,w.cell? ⟨4,0,none⟩=some ev/\(ev=.nilIface ∨ ∃ te pe,ev=.iface te pe))
theorem ZX {w:World} {p:Addr} {v:Value} (h:w.cell? p=some v):p.block<w.heap.size:=by
 rcases Nat.lt_or_ge p.block w.heap.size with h' | h'
 ·exact h'
 ·simp[World.cell?,Array.getElem?_eq_none h'] at h
theorem Ers.below {w w':World} (h:Ers w) (hb:Below w.heap.size w w'):Ers w':=by
 obtain⟨⟨e1,h1,k1⟩,⟨e2,h2,k2⟩⟩:=h
 exact⟨⟨e1,(hb.cell (ZX h1)).trans h1,k1⟩,⟨e2,(hb.cell (ZX h2)).trans h2,k2⟩⟩
theorem below_bw (w:World) (e:TypeId) (s:ByteArray):Below w.heap.size w (Lib.bytesWorld w e s):=⟨rfl,rfl,rfl,by rw[Lib.bytesWorld_size];omega,fun k hk=>Lib.bytesWorld_at_old w e s k hk⟩
def PA (r:Lib.NumEnd Int) (e:Ending):Prop := ∃ x ev,e=.returned (.tuple #[.int .i64 x,ev])/\((ev=.nilIface/\r=.ok x) ∨ ((∃ N,ev=.iface 294 (.pointer (some ⟨N,0,none⟩)))/\∀ v,r ≠ .ok v))
theorem atoi_short (l:List UInt8) (hl:l.length<=1000000) (w:World) (he:Ers w):Calls Tryz.prog 181 #[.string ⟨l.toArray⟩] w fun e w'=>Below w.heap.size w w'/\PA (Lib.atoiAll l) e:=by
 have hsz:(⟨l.toArray⟩:ByteArray).size=l.length:=by simp[ByteArray.size]
 obtain⟨⟨e1,h1,k1⟩,⟨e2,h2,k2⟩⟩:=he
 cases hr:Lib.atoiAll l with
 | ok v =>
  refine(Any.strconv_Atoi_ok Tryz.laysC172 ⟨l.toArray⟩ (by rw[hsz];omega) v hr w).mono ?_
  rintro e w' ⟨rfl,h⟩
  refine⟨?_,_,_,rfl,.inl ⟨rfl,rfl⟩⟩
  rcases h with rfl | ⟨t,rfl⟩
  ·exact Below.refl _ _
  ·exact below_bw _ _ _
 | «syntax» =>
  refine(Any.strconv_Atoi_syntax Tryz.laysC172 ⟨l.toArray⟩ (by rw[hsz];omega) hr e1 w h1 k1).mono ?_
  rintro e w' ⟨N,rfl,-,-,h⟩
  exact⟨h,_,_,rfl,.inr ⟨⟨N,rfl⟩,fun v hv=>by cases hv⟩⟩
 | range =>
  refine(Any.strconv_Atoi_range Tryz.laysC172 ⟨l.toArray⟩ (by rw[hsz];omega) hr e2 w h2 k2).mono ?_
  rintro e w' ⟨N,rfl,-,-,h⟩
  exact⟨h,_,_,rfl,.inr ⟨⟨N,rfl⟩,fun v hv=>by cases hv⟩⟩
theorem parseInt_short (l:List UInt8) (hl:l.length<=1000000) (w:World) (he:Ers w):Calls Tryz.prog 146 #[.string ⟨l.toArray⟩,.int .i64 10,.int .i64 64] w fun e w'=>Below w.heap.size w w'/\PA (Lib.parseIntB 64 l) e:=by
 have hsz:(⟨l.toArray⟩:ByteArray).size=l.length:=by simp[ByteArray.size]
 obtain⟨⟨e1,h1,k1⟩,⟨e2,h2,k2⟩⟩:=he
 cases hr:Lib.parseIntB 64 l with
 | ok v =>
  refine(Any.strconv_ParseInt_10_at64_ok Tryz.laysC174 ⟨l.toArray⟩ (by rw[hsz];omega) v hr w).mono ?_
  rintro e w' ⟨rfl,h⟩
  refine⟨?_,_,_,rfl,.inl ⟨rfl,rfl⟩⟩
  rcases h with rfl | ⟨t,rfl⟩
  ·exact Below.refl _ _
  ·exact below_bw _ _ _
 | «syntax» =>
  refine(Any.strconv_ParseInt_10_at64_syntax Tryz.laysC174 ⟨l.toArray⟩ (by rw[hsz];omega) hr e1 w h1 k1).mono ?_
  rintro e w' ⟨N,rfl,-,-,h⟩
  exact⟨h,_,_,rfl,.inr ⟨⟨N,rfl⟩,fun v hv=>by cases hv⟩⟩
 | range =>
  refine(Any.strconv_ParseInt_10_at64_range Tryz.laysC174 ⟨l.toArray⟩ (by rw[hsz];omega) hr e2 w h2 k2).mono ?_
  rintro e w' ⟨N,rfl,-,-,h⟩
  exact⟨h,_,_,rfl,.inr ⟨⟨N,rfl⟩,fun v hv=>by cases hv⟩⟩
def PZ (l:List UInt8) (z:Int):Prop := ∀ v,Lib.atoiAll l=.ok v->-10000<=v->v<=10000->z=v.tdiv 100*60+v.tmod 100
def PostZ (l:List UInt8) (e:Ending):Prop := ∃ z,e=.returned (.int .i64 z)/\PZ l z
theorem zoneOf_any (l:List UInt8) (hl:l.length<=1000000) (w:World) (he:Ers w):Calls Tryz.prog 158 #[.string ⟨l.toArray⟩] w fun e w'=>Below w.heap.size w w'/\PostZ l e:=by
 obtain⟨S,HS⟩:=nm_ (⟨l.toArray⟩:ByteArray)
 have HA:Hid (Calls Tryz.prog 181 #[.string S] w fun e w'=>Below w.heap.size w w'/\PA (Lib.atoiAll l) e):=hid (by rw[<-HS.out];exact atoi_short l hl w he)
 rw[HS.out]
 clear he
 go_enter Tryz.func158,Tryz.ntmps158
 go_wp2_with fail
 refine HA.out.mono ?_
 rintro e w1 ⟨hb,x,ev,rfl,hx⟩
 have HB:Hid (Below w.heap.size w w1):=hb
 have HX:Hid ((ev=.nilIface/\Lib.atoiAll l=.ok x) ∨ ((∃ N,ev=.iface 294 (.pointer (some ⟨N,0,none⟩)))/\∀ v,Lib.atoiAll l ≠ .ok v)):=hx
 clear hb hx
 rcases HX.out with ⟨rfl,hok⟩ | ⟨⟨N,rfl⟩,hno⟩
 ·have HOK:Hid (Lib.atoiAll l=.ok x):=hok
  clear hok HX
  by_cases hr : -10000<=x/\x<=10000
  ·obtain⟨r1,r2⟩:=hr
   obtain⟨q,HQ⟩:=nm_ (x.tdiv 100)
   obtain⟨m,HM⟩:=nm_ (x.tmod 100)
   have hq:x.tdiv 100=q:=HQ.out
   have hm:x.tmod 100=m:=HM.out
   have q1 : -100<=q/\q<=100:=by
    have h1:=Int.mul_tdiv_add_tmod x 100
    have h2:m.natAbs<100:=by rw[<-hm];have:=Int.natAbs_tmod x 100;rw[this];exact Nat.mod_lt _ (by decide)
    rw[hq,hm] at h1
    omega
   have m1 : -100<=m/\m<=100:=by
    have h2:m.natAbs<100:=by rw[<-hm];have:=Int.natAbs_tmod x 100;rw[this];exact Nat.mod_lt _ (by decide)
    omega
   obtain⟨q1,q2⟩:=q1
   obtain⟨m1,m2⟩:=m1
   go_wp2
   go_ret
   refine⟨HB.out,_,rfl,?_⟩
   intro v hv _ _
   rw[HOK.out] at hv
   cases hv
   rw[HQ.out,HM.out]
  ·have HR:Hid (¬ (-10000<=x/\x<=10000)):=hr
   clear hr
   go_wp2
   go_ret
   refine⟨HB.out,_,rfl,?_⟩
   intro v hv h1 h2
   rw[HOK.out] at hv
   cases hv
   exact absurd ⟨h1,h2⟩ HR.out
 ·have HNO:Hid (∀ v,Lib.atoiAll l ≠ .ok v):=hno
  clear hno HX
  go_wp2
  go_ret
  exact⟨HB.out,_,rfl,fun v hv=>absurd hv (HNO.out v)⟩
def p1 (l:List UInt8):List UInt8:=(Lib.cut l [32,60]).1
def p2 (l:List UInt8):List UInt8:=(Lib.cut (Lib.cut l [32,60]).2.1 [62,32]).1
def p3 (l:List UInt8):List UInt8:=(Lib.cut (Lib.cut (Lib.cut l [32,60]).2.1 [62,32]).2.1 [32]).1
def p4 (l:List UInt8):List UInt8:=(Lib.cut (Lib.cut (Lib.cut l [32,60]).2.1 [62,32]).2.1 [32]).2.1
theorem Yw (s sep:List UInt8):(Lib.cut s sep).1.length<=s.length:=by
 unfold Lib.cut
 split
 ·simp only[List.length_take];omega
 ·exact Nat.le_refl _
theorem V9 (s sep:List UInt8):(Lib.cut s sep).2.1.length<=s.length:=by
 unfold Lib.cut
 split
 ·simp only[List.length_drop];omega
 ·simp
def PP (l:List UInt8) (p:Per):Prop:=p.name.length<=l.length/\p.mail.length<=l.length/\∀ v,Lib.parseIntB 64 (p3 l)=.ok v->p.name=p1 l/\p.mail=p2 l/\p.time=v/\PZ (p4 l) p.zone
def PostQ (l:List UInt8) (e:Ending):Prop := ∃ p,e=.returned (.agg (qK p))/\PP l p
theorem Tryz.results120:Tryz.f120.results=#[.cell 2 156]:=by kernel_rfl
theorem Tryz.size156:(Tryz.prog.info? 156).map (·.size)=some 4:=by kernel_rfl
set_option maxHeartbeats 1000000 in
theorem ZJ (l:List UInt8) (hl:l.length<=1000000) (w:World) (he:Ers w) (hm:Mx w):Calls Tryz.prog 120 #[.string ⟨l.toArray⟩] w fun e w'=>Below w.heap.size w w'/\PostQ l e:=by
 obtain⟨S,HS⟩:=nm_ (⟨l.toArray⟩:ByteArray)
 obtain⟨A1,H1⟩:=nm_ (⟨(p1 l).toArray⟩:ByteArray)
 obtain⟨A2,H2⟩:=nm_ (⟨(p2 l).toArray⟩:ByteArray)
 obtain⟨A3,H3⟩:=nm_ (⟨(p3 l).toArray⟩:ByteArray)
 obtain⟨A4,H4⟩:=nm_ (⟨(p4 l).toArray⟩:ByteArray)
 obtain⟨r1,K1⟩:=nm_ ((Lib.cut l [32,60]).2.1)
 obtain⟨r2,K2⟩:=nm_ ((Lib.cut r1 [62,32]).2.1)
 obtain⟨R1,L1⟩:=nm_ (⟨r1.toArray⟩:ByteArray)
 obtain⟨R2,L2⟩:=nm_ (⟨r2.toArray⟩:ByteArray)
 obtain⟨f1,F1⟩:=nm_ ((Lib.cut l [32,60]).2.2)
 obtain⟨f2,F2⟩:=nm_ ((Lib.cut r1 [62,32]).2.2)
 obtain⟨f3,F3⟩:=nm_ ((Lib.cut r2 [32]).2.2)
 have q1:Hid (r1.length<=l.length):=hid (by rw[<-K1.out];exact V9 _ _)
 have q2:Hid (r2.length<=l.length):=hid (by rw[<-K2.out];exact Nat.le_trans (V9 _ _) q1.out)
 have q3:Hid ((p3 l).length<=l.length):=hid (by unfold p3;rw[K1.out,K2.out];exact Nat.le_trans (Yw _ _) q2.out)
 have q4:Hid ((p4 l).length<=l.length):=hid (by unfold p4;rw[K1.out,K2.out];exact Nat.le_trans (V9 _ _) q2.out)
 have q5:Hid ((p1 l).length<=l.length):=hid (Yw _ _)
 have q6:Hid ((p2 l).length<=l.length):=hid (by unfold p2;rw[K1.out];exact Nat.le_trans (Yw _ _) q1.out)
 obtain⟨G,HG⟩:=nm_ w.heap.size
 obtain⟨w0,HW0⟩:=nm_ (w.alloc (.cells #[.string ⟨#[]⟩,.string ⟨#[]⟩,.int .i64 0,.int .i64 0] 156))
 have HB0:Hid (Below G w w0):=hid (by rw[<-HW0.out,<-HG.out];exact(Below.refl _ w).alloc (Nat.le_refl _) _)
 have HS0:Hid (G<w0.heap.size):=hid (by rw[<-HW0.out,<-HG.out];simp)
 have HR0:Hid (w0.heap[G]? = some (.cells #[.string ⟨#[]⟩,.string ⟨#[]⟩,.int .i64 0,.int .i64 0] 156 (0,0))):=hid (by rw[<-HW0.out,<-HG.out];exact heap_alloc_new w _)
 have HE:Hid (∀ W,Below G w W->Ers W):=fun W hW=>he.below (by rw[HG.out];exact hW)
 have HM:Hid (∀ W,Below G w W->Mx W):=fun W hW=>hm.below (by rw[HG.out];exact hW)
 have C1:Hid (∀ W,Below G w W->Calls Tryz.prog 111 #[.string S,.string ⟨#[32,60]⟩] W fun e w'=>e=.returned (.tuple #[.string A1,.string R1,.bool f1])/\∃ q,w'=W.drewN q):=fun W hW=>by
  rw[<-HS.out,<-H1.out,<-L1.out,<-K1.out,<-F1.out]
  exact Z9 l [32,60] W hl (HM.out W hW)
 have C2:Hid (∀ W,Below G w W->Calls Tryz.prog 111 #[.string R1,.string ⟨#[62,32]⟩] W fun e w'=>e=.returned (.tuple #[.string A2,.string R2,.bool f2])/\∃ q,w'=W.drewN q):=fun W hW=>by
  rw[<-L1.out,<-H2.out,<-L2.out,<-K2.out,<-F2.out]
  unfold p2
  rw[K1.out]
  exact Z9 r1 [62,32] W (Nat.le_trans q1.out hl) (HM.out W hW)
 have C3:Hid (∀ W,Below G w W->Calls Tryz.prog 111 #[.string R2,.string ⟨#[32]⟩] W fun e w'=>e=.returned (.tuple #[.string A3,.string A4,.bool f3])/\∃ q,w'=W.drewN q):=fun W hW=>by
  rw[<-L2.out,<-H3.out,<-H4.out,<-F3.out]
  unfold p3 p4
  rw[K1.out,K2.out]
  exact Z9 r2 [32] W (Nat.le_trans q2.out hl) (HM.out W hW)
 have C4:Hid (∀ W,Below G w W->Calls Tryz.prog 146 #[.string A3,.int .i64 10,.int .i64 64] W fun e w'=>Below W.heap.size W w'/\PA (Lib.parseIntB 64 (p3 l)) e):=fun W hW=>by
  rw[<-H3.out];exact parseInt_short _ (Nat.le_trans q3.out hl) W (HE.out W hW)
 have C5:Hid (∀ W,Below G w W->Calls Tryz.prog 158 #[.string A4] W fun e w'=>Below W.heap.size W w'/\PostZ (p4 l) e):=fun W hW=>by
  rw[<-H4.out];exact zoneOf_any _ (Nat.le_trans q4.out hl) W (HE.out W hW)
 have RET:Hid (∀ (p:Per) W1,Below G w W1->Below w0.heap.size w0 W1->PP l p->W1.there G 0 4->(Below w.heap.size w (W1.setCells G 0 (qK p).toList)/\PostQ l (.returned (.agg (qK p))))):=fun p W1 a b c d=>⟨by rw[HG.out];exact z7 (Nat.le_refl _) _ _ _ _ a,p,rfl,c⟩
 have HTH:Hid (∀ W1,Below w0.heap.size w0 W1->W1.there G 0 4):=fun W1 h j hj=>by
  have hh:=(h.block G HS0.out).trans HR0.out
  refine⟨?_,frozen_of_row W1 G (0+j) _ _ hh⟩
  rw[cell_of_row W1 G (0+j) _ _ _ hh]
  have:j=0 ∨ j=1 ∨ j=2 ∨ j=3:=by omega
  rcases this with rfl | rfl | rfl | rfl <;> rfl
 rw[HS.out]
 clear he hm
 go_enter Tryz.func120,Tryz.ntmps120
 go_wp2_with fail
 rw[HG.out,HW0.out]
 refine(C1.out w0 HB0.out).mono ?_
 rintro ev w' ⟨rfl,n1,rfl⟩
 have HB1:Hid (Below G w (w0.drewN n1)):=yy _ _ HB0.out
 have HY1:Hid (Below w0.heap.size w0 (w0.drewN n1)):=⟨rfl,rfl,rfl,Nat.le_refl _,fun _ _=>rfl⟩
 generalize w0.drewN n1=w1 at HB1 HY1 ⊢
 go_wp2_with fail
 refine(C2.out _ HB1.out).mono ?_
 rintro ev w' ⟨rfl,n2,rfl⟩
 have HB2:Hid (Below G w (w1.drewN n2)):=yy _ _ HB1.out
 have HY2:Hid (Below w0.heap.size w0 (w1.drewN n2)):=yy _ _ HY1.out
 generalize w1.drewN n2=w2 at HB2 HY2 ⊢
 go_wp2_with fail
 refine(C3.out _ HB2.out).mono ?_
 rintro ev w' ⟨rfl,n3,rfl⟩
 have HB3:Hid (Below G w (w2.drewN n3)):=yy _ _ HB2.out
 have HY3:Hid (Below w0.heap.size w0 (w2.drewN n3)):=yy _ _ HY2.out
 generalize w2.drewN n3=w3 at HB3 HY3 ⊢
 go_wp2_with fail
 refine(C4.out _ HB3.out).mono ?_
 rintro ev w4 ⟨hb4,x,ev2,rfl,hx⟩
 have HB4:Hid (Below G w w4):=HB3.out.trans (hb4.mono (by have:=HY3.out.size;have:=HS0.out;omega))
 have HY4:Hid (Below w0.heap.size w0 w4):=HY3.out.trans (hb4.mono HY3.out.size)
 have HX:Hid ((ev2=.nilIface/\Lib.parseIntB 64 (p3 l)=.ok x) ∨ ((∃ N,ev2=.iface 294 (.pointer (some ⟨N,0,none⟩)))/\∀ v,Lib.parseIntB 64 (p3 l) ≠ .ok v)):=hx
 clear hb4 hx
 rcases HX.out with ⟨rfl,hok⟩ | ⟨⟨N,rfl⟩,hno⟩
 ·have HOK:Hid (Lib.parseIntB 64 (p3 l)=.ok x):=hok
  clear hok HX
  go_wp2_with fail
  refine(C5.out _ HB4.out).mono ?_
  rintro ev w5 ⟨hb5,z,rfl,hz⟩
  have HB5:Hid (Below G w w5):=HB4.out.trans (hb5.mono (by have:=HY4.out.size;have:=HS0.out;omega))
  have HY5:Hid (Below w0.heap.size w0 w5):=HY4.out.trans (hb5.mono HY4.out.size)
  have HPP:Hid (PP l ⟨p1 l,p2 l,x,z⟩):=⟨q5.out,q6.out,fun v hv=>by
   rw[HOK.out] at hv
   cases hv
   exact⟨rfl,rfl,rfl,hz⟩⟩
  clear hb5 hz
  have HPV:Hid (qK ⟨p1 l,p2 l,x,z⟩=#[.string A1,.string A2,.int .i64 x,.int .i64 z]):=hid (by unfold qK;rw[<-H1.out,<-H2.out])
  have T1:Hid (w5.there G 0 (#[.string A1,.string A2,.int .i64 x,.int .i64 z] : Array Value).size):=HTH.out w5 HY5.out
  have T2:Hid ((Tryz.prog.info? 156).map (·.size)=some (#[.string A1,.string A2,.int .i64 x,.int .i64 z] : Array Value).size):=Tryz.size156
  have T3:Hid ((#[.string A1,.string A2,.int .i64 x,.int .i64 z] : Array Value).all (·.oneCell')=true):=hid (all_oneCell_toArray (fun v hv=>by simp only[List.mem_cons,List.not_mem_nil,or_false] at hv;rcases hv with rfl | rfl | rfl | rfl <;> rfl))
  go_wp2_with (refine wpList_store_mid rfl 156 _ _ rfl G 0 #[.string A1,.string A2,.int .i64 x,.int .i64 z] rfl rfl T1.out T2.out T3.out ?_)
  have hret:=RET.out ⟨p1 l,p2 l,x,z⟩ w5 HB5.out HY5.out HPP.out (HTH.out w5 HY5.out)
  rw[HPV.out] at hret
  refine bodyPost_ret (v:=.agg #[.string A1,.string A2,.int .i64 x,.int .i64 z]) (yq Tryz.results120 _ _ G [.string A1,.string A2,.int .i64 x,.int .i64 z] _ rfl (World.rangeAt_setCells_same w5 G 0 _ T1.out) Tryz.underlying156 rfl Tryz.size156) rfl ?_
  exact hret
 ·have HPP:Hid (PP l ⟨[],[],0,0⟩):=⟨(by simp),(by simp),fun v hv=>absurd hv (hno v)⟩
  clear hno HX
  have T1:Hid (w4.there G 0 (#[.string ⟨#[]⟩,.string ⟨#[]⟩,.int .i64 0,.int .i64 0] : Array Value).size):=HTH.out w4 HY4.out
  have T2:Hid ((Tryz.prog.info? 156).map (·.size)=some (#[.string ⟨#[]⟩,.string ⟨#[]⟩,.int .i64 0,.int .i64 0] : Array Value).size):=Tryz.size156
  have T3:Hid ((#[.string ⟨#[]⟩,.string ⟨#[]⟩,.int .i64 0,.int .i64 0] : Array Value).all (·.oneCell')=true):=hid (all_oneCell_toArray (fun v hv=>by simp only[List.mem_cons,List.not_mem_nil,or_false] at hv;rcases hv with rfl | rfl | rfl | rfl <;> rfl))
  go_wp2_with (refine wpList_store_mid rfl 156 _ _ rfl G 0 #[.string ⟨#[]⟩,.string ⟨#[]⟩,.int .i64 0,.int .i64 0] rfl rfl T1.out T2.out T3.out ?_)
  have hret:=RET.out ⟨[],[],0,0⟩ w4 HB4.out HY4.out HPP.out (HTH.out w4 HY4.out)
  refine bodyPost_ret (v:=.agg #[.string ⟨#[]⟩,.string ⟨#[]⟩,.int .i64 0,.int .i64 0]) (yq Tryz.results120 _ _ G [.string ⟨#[]⟩,.string ⟨#[]⟩,.int .i64 0,.int .i64 0] _ rfl (World.rangeAt_setCells_same w4 G 0 _ T1.out) Tryz.underlying156 rfl Tryz.size156) rfl ?_
  exact hret
def signs:List UInt8:=[97,98,99,100,101,102,103,104,105,106,107,108,109,110,111,112,113,114,115,116,117,118,119,120,121,122,65,66,67,68,69,70,71,72,73,74,75,76,77,78,79,80,81,82,83,84,85,86,87,88,89,90,48,49,50,51,52,53,54,55,56,57,46,95,45,47]
def okN (s:List UInt8):Prop:=1<=s.length/\s.length<=60/\∀ x ∈ s,x ∈ signs
theorem X8 {p:UInt8->Bool} : ∀ {l:List UInt8},l.dropWhile p=[] ↔ ∀ x ∈ l,p x=true
 | []=>by simp
 | b :: l=>by
  rw[List.dropWhile_cons]
  by_cases hb:p b=true
  ·rw[if_pos hb,X8]
   simp[hb]
  ·rw[if_neg hb]
   simp[hb]
theorem mem_dropWhile {p:UInt8->Bool} {x:UInt8} {l:List UInt8} (h:x ∈ l.dropWhile p):x ∈ l:=(List.dropWhile_sublist p).subset h
theorem QV {p:UInt8->Bool} {x:UInt8} : ∀ {l:List UInt8},x ∈ l->p x=false->x ∈ l.dropWhile p
 | b :: l,h,hp=>by
  rw[List.dropWhile_cons]
  by_cases hb:p b=true
  ·rw[if_pos hb]
   have hne:x ≠ b:=fun e=>by rw[e,hb] at hp;cases hp
   rcases List.mem_cons.1 h with h | h
   ·exact absurd h hne
   ·exact QV h hp
  ·rw[if_neg hb]
   exact h
theorem trim_nil (s cs:List UInt8):Lib.trimS s cs=[] ↔ ∀ x ∈ s,x ∈ cs:=by
 unfold Lib.trimS Lib.trimLeftS Lib.trimRightS
 rw[X8]
 constructor
 ·intro h x hx
  by_cases hc:x ∈ cs
  ·exact hc
  ·have h2:x ∈ s.reverse.dropWhile (cs.contains ·):=by
    exact QV (by simpa using hx) (by simpa using hc)
   have:=h x (by simpa using h2)
   simpa using this
 ·intro h x hx
  have hx':x ∈ s:=by
   have:=mem_dropWhile (List.mem_reverse.1 hx)
   simpa using this
  simpa using h x hx'
theorem signs_small:∀ x ∈ signs,x.toNat<128:=by decide
theorem isTagName_any (s:List UInt8) (hs:s.length<=1000000) (w:World):Calls Tryz.prog 164 #[.string ⟨s.toArray⟩] w fun e w'=>BIs (okN s) e/\Below w.heap.size w w':=by
 obtain⟨S,HS⟩:=nn_ (⟨s.toArray⟩:ByteArray)
 have hsz:S.size=s.length:=by rw[HS.out];simp[ByteArray.size]
 obtain⟨T,HT⟩:=nn_ (⟨(Lib.trimS s signs).toArray⟩:ByteArray)
 have HTR:Hid (∀ w,Calls Tryz.prog 186 #[.string S,.string ⟨signs.toArray⟩] w fun e w'=>e=.returned (.string T)/\Below w.heap.size w w'):=fun w=>by
  rw[HT.out,HS.out]
  exact Any.strings_Trim_laid Tryz.lays160 info258 ⟨s.toArray⟩ ⟨signs.toArray⟩ w (by simp[ByteArray.size];omega) (by decide) (fun j b hb=>signs_small b (List.mem_of_getElem? (by simpa using hb)))
 have HEQ:Hid (T.toList.isEmpty=true ↔ ∀ x ∈ s,x ∈ signs):=hid (by
  rw[HT.out,Lib.toList_data,<-trim_nil]
  simp)
 have hemp:S.toList.isEmpty=decide (s.length=0):=by
  rw[HS.out,Lib.toList_data]
  cases s <;> simp
 rw[<-HS.out]
 by_cases h0:s.length=0
 ·have HOK:Hid (¬ okN s):=fun h=>by have:=h.1;omega
  rw[decide_eq_true h0] at hemp
  go_enter Tryz.func164,Tryz.ntmps164
  go_wp2
  go_ret
  exact⟨zX HOK.out,Below.refl _ _⟩
 ·rw[decide_eq_false h0] at hemp
  by_cases h:s.length<=60
  ·have hi:¬ (60:Int)<(S.size:Int):=by omega
   have h60:Hid (s.length<=60):=h
   have h1:Hid (1<=s.length):=hid (by omega)
   rw[hsz] at hi
   go_enter Tryz.func164,Tryz.ntmps164
   go_wp2_with (go_at_call 186;refine(HTR.out _).mono ?_;rintro ev w1 ⟨rfl,hb1⟩)
   go_ret
   refine⟨⟨T.toList.isEmpty,rfl,?_⟩,hb1⟩
   rw[HEQ.out]
   exact⟨fun h3=>⟨h1.out,h60.out,h3⟩,fun h3=>h3.2.2⟩
  ·have hi:(60:Int)<(S.size:Int):=by omega
   have HOK:Hid (¬ okN s):=fun h2=>h h2.2.1
   rw[hsz] at hi
   go_enter Tryz.func164,Tryz.ntmps164
   go_wp2
   go_ret
   exact⟨zX HOK.out,Below.refl _ _⟩
structure Tg where
 id:List Int
 kind:Int
 name:List UInt8
 per:Per
 msg:List UInt8
def tgV (t:Tg):List Value:=row .u8 t.id++[.int .i64 t.kind,.string ⟨t.name.toArray⟩,.string ⟨t.per.name.toArray⟩,.string ⟨t.per.mail.toArray⟩,.int .i64 t.per.time,.int .i64 t.per.zone,.string ⟨t.msg.toArray⟩]
def okG (t:Tg):Prop := ¬ (kN t.kind).toList.isEmpty=true/\okN t.name/\okP t.per/\uz t.msg=true
structure BoxG (G:Nat) (t:Tg) (W:World):Prop where
 id:W.rangeAt G 0 (row .u8 t.id)
 c20:W.cell? ⟨G,20,none⟩=some (.int .i64 t.kind)
 c21:W.cell? ⟨G,21,none⟩=some (.string ⟨t.name.toArray⟩)
 c22:W.cell? ⟨G,22,none⟩=some (.string ⟨t.per.name.toArray⟩)
 c23:W.cell? ⟨G,23,none⟩=some (.string ⟨t.per.mail.toArray⟩)
 c24:W.cell? ⟨G,24,none⟩=some (.int .i64 t.per.time)
 c25:W.cell? ⟨G,25,none⟩=some (.int .i64 t.per.zone)
 c26:W.cell? ⟨G,26,none⟩=some (.string ⟨t.msg.toArray⟩)
theorem BoxG.below {G:Nat} {t:Tg} {W W':World} (h:BoxG G t W) (hG:G<W.heap.size) (hb:Below W.heap.size W W'):BoxG G t W' :=
 ⟨fun j v hv=>(hb.cell (p:=⟨G,0+j,none⟩) hG).trans (h.id j v hv),(hb.cell (p:=⟨G,20,none⟩) hG).trans h.c20,(hb.cell (p:=⟨G,21,none⟩) hG).trans h.c21,(hb.cell (p:=⟨G,22,none⟩) hG).trans h.c22,(hb.cell (p:=⟨G,23,none⟩) hG).trans h.c23,(hb.cell (p:=⟨G,24,none⟩) hG).trans h.c24,(hb.cell (p:=⟨G,25,none⟩) hG).trans h.c25,(hb.cell (p:=⟨G,26,none⟩) hG).trans h.c26⟩
theorem y9 (t:Tg) (h:t.id.length=20):(tgV t).length=27:=by simp[tgV,zq,h]
theorem box_alloc (t:Tg) (h:t.id.length=20) (w:World) (ty:TypeId):BoxG w.heap.size t (w.alloc (.cells (tgV t).toArray ty)):=by
 have hr:=zx (heap_alloc_new w (.cells (tgV t).toArray ty))
 have hl:(row .u8 t.id).length=20:=by rw[zq];exact h
 have g:∀ (i:Nat) (v:Value),(tgV t)[i]? = some v->(w.alloc (.cells (tgV t).toArray ty)).cell? ⟨w.heap.size,i,none⟩=some v:=fun i v hv=>by
  have:=hr i v hv
  rwa [Nat.zero_add] at this
 refine⟨fun j v hv=>?_,g 20 _ ?_,g 21 _ ?_,g 22 _ ?_,g 23 _ ?_,g 24 _ ?_,g 25 _ ?_,g 26 _ ?_⟩
 ·refine hr j v ?_
  unfold tgV
  rw[List.getElem?_append_left (List.getElem?_eq_some_iff.1 hv).1]
  exact hv
 all_goals
  unfold tgV
  rw[List.getElem?_append_right (by omega),hl]
  rfl
set_option maxHeartbeats 1000000 in
theorem isTag_any (t:Tg) (hid20:t.id.length=20) (h1:t.name.length<=1000000) (h4:t.msg.length<=1000000) (w:World) :
  Calls Tryz.prog 129 #[.agg (tgV t).toArray] w fun e w'=>BIs (okG t) e/\Below w.heap.size w w':=by
 obtain⟨A,HA⟩:=nm_ ((tgV t).toArray)
 have hsz:A.size=27:=by rw[<-HA.out,List.size_toArray];exact y9 t hid20
 obtain⟨G,HG⟩:=nm_ w.heap.size
 obtain⟨w0,HW0⟩:=nm_ (w.alloc (.cells A 163))
 have HX0:Hid (BoxG G t w0):=hid (by rw[<-HW0.out,<-HG.out,<-HA.out];exact box_alloc t hid20 w 163)
 have HB0:Hid (Below G w w0):=hid (by rw[<-HW0.out,<-HG.out];exact(Below.refl _ w).alloc (Nat.le_refl _) _)
 have hs0:G<w0.heap.size:=by rw[<-HW0.out,<-HG.out];simp
 obtain⟨K,HK⟩:=nm_ (kN t.kind)
 have HKN:Hid (∀ w,Calls Tryz.prog 58 #[.int .i64 t.kind] w fun e w'=>e=.returned (.string K)/\w'=w):=fun w=>by rw[<-HK.out];exact vv t.kind w
 obtain⟨kd,HKD⟩:=nm_ t.kind
 obtain⟨N,HNN⟩:=nm_ (⟨t.name.toArray⟩:ByteArray)
 obtain⟨M,HMM⟩:=nm_ (⟨t.msg.toArray⟩:ByteArray)
 obtain⟨P1,HP1⟩:=nm_ (⟨t.per.name.toArray⟩:ByteArray)
 obtain⟨P2,HP2⟩:=nm_ (⟨t.per.mail.toArray⟩:ByteArray)
 obtain⟨tm,HTM⟩:=nm_ t.per.time
 obtain⟨zn,HZN⟩:=nm_ t.per.zone
 have HTN:Hid (∀ w,Calls Tryz.prog 164 #[.string N] w fun e w'=>BIs (okN t.name) e/\Below w.heap.size w w'):=fun w=>by rw[<-HNN.out];exact isTagName_any t.name h1 w
 have HPE:Hid (∀ w,Calls Tryz.prog 161 #[.agg #[.string P1,.string P2,.int .i64 tm,.int .i64 zn]] w fun e w'=>BIs (okP t.per) e/\Below w.heap.size w w'):=fun w=>by
  rw[<-HP1.out,<-HP2.out,<-HTM.out,<-HZN.out];exact ZQ t.per w
 have HMS:Hid (∀ w,Calls Tryz.prog 162 #[.string M] w fun e w'=>e=.returned (.bool (uz t.msg))/\w'=w):=fun w=>by rw[<-HMM.out];exact X0 t.msg w h4
 have HC:Hid (∀ W,Below w0.heap.size w0 W->W.cell? ⟨G,20,none⟩=some (.int .i64 kd)/\W.cell? ⟨G,21,none⟩=some (.string N)/\W.cell? ⟨G,22,none⟩=some (.string P1)/\W.cell? ⟨G,23,none⟩=some (.string P2)/\W.cell? ⟨G,24,none⟩=some (.int .i64 tm)/\W.cell? ⟨G,25,none⟩=some (.int .i64 zn)/\W.cell? ⟨G,26,none⟩=some (.string M)):=fun W hW=>by
  have hx:=HX0.out.below hs0 hW
  rw[<-HKD.out,<-HNN.out,<-HP1.out,<-HP2.out,<-HTM.out,<-HZN.out,<-HMM.out]
  exact⟨hx.c20,hx.c21,hx.c22,hx.c23,hx.c24,hx.c25,hx.c26⟩
 rw[HKD.out] at HKN
 have HBE:Hid (∀ W,Below w0.heap.size w0 W->Below w.heap.size w W):=fun W hW=>by rw[HG.out];exact HB0.out.trans (hW.mono (Nat.le_of_lt hs0))
 obtain⟨ms,HMSB⟩:=nm_ (uz t.msg)
 rw[HMSB.out] at HMS
 have hA20:A[20]'(by omega)=.int .i64 kd:=by
  have hr:=cell_of_row w0 G 20 A 163 (0,0) (by rw[<-HW0.out,<-HG.out];exact heap_alloc_new w _)
  rw[(HC.out w0 (Below.refl _ _)).1,Array.getElem?_eq_getElem (by omega)] at hr
  exact(Option.some.inj hr).symm
 rw[HA.out]
 obtain⟨c20,c21,c22,c23,c24,c25,c26⟩:=HC.out w0 (Below.refl _ _)
 by_cases hk:K.toList.isEmpty=true
 ·have HOK:Hid (¬ okG t):=fun h=>h.1 (by rw[HK.out];exact hk)
  go_enter Tryz.func129,Tryz.ntmps129
  go_wp2_with fail
  rw[HG.out,HW0.out]
  refine(HKN.out w0).mono ?_
  rintro ev w' ⟨rfl,rfl⟩
  go_wp2
  go_ret
  exact⟨zX HOK.out,HBE.out _ (Below.refl _ _)⟩
 ·have HKO:Hid (¬ (kN t.kind).toList.isEmpty=true):=hid (by rw[HK.out];exact hk)
  have hk2:K.toList.isEmpty=false:=by simpa using hk
  go_enter Tryz.func129,Tryz.ntmps129
  go_wp2_with fail
  rw[HG.out,HW0.out]
  refine(HKN.out w0).mono ?_
  rintro ev w0' ⟨rfl,hw0⟩
  have hw0':=hw0.symm
  subst hw0'
  go_wp2_with fail
  refine(HTN.out w0).mono ?_
  rintro ev w1 ⟨hb,hb1⟩
  have HB1:Hid _:=hb1
  clear hb1 c20 c21 c22 c23 c24 c25 c26
  obtain⟨c20,c21,c22,c23,c24,c25,c26⟩:=HC.out w1 HB1.out
  rcases x8 hb with ⟨hy1,rfl⟩ | ⟨hn1,rfl⟩
  ·have HY1:Hid (okN t.name):=hy1
   clear hy1 hb
   go_wp2_with fail
   refine(HPE.out w1).mono ?_
   rintro ev w2 ⟨hb,hb2⟩
   have HB2:Hid (Below w0.heap.size w0 w2):=HB1.out.trans (hb2.mono HB1.out.size)
   clear hb2 c20 c21 c22 c23 c24 c25 c26
   obtain⟨c20,c21,c22,c23,c24,c25,c26⟩:=HC.out w2 HB2.out
   rcases x8 hb with ⟨hy2,rfl⟩ | ⟨hn2,rfl⟩
   ·have HY2:Hid (okP t.per):=hy2
    clear hy2 hb
    go_wp2_with fail
    refine(HMS.out w2).mono ?_
    rintro ev w' ⟨rfl,rfl⟩
    go_wp2
    go_ret
    refine⟨⟨ms,rfl,?_⟩,HBE.out _ HB2.out⟩
    rw[<-HMSB.out]
    exact⟨fun h=>⟨HKO.out,HY1.out,HY2.out,h⟩,fun h=>h.2.2.2⟩
   ·have HOK:Hid (¬ okG t):=fun h=>hn2 h.2.2.1
    clear hn2 hb
    go_wp2
    go_ret
    exact⟨zX HOK.out,HBE.out _ HB2.out⟩
  ·have HOK:Hid (¬ okG t):=fun h=>hn1 h.2.1
   clear hn1 hb
   go_wp2
   go_ret
   exact⟨zX HOK.out,HBE.out _ HB1.out⟩
end Go.Proofs.YticgindfipobiaaGreatDoor
