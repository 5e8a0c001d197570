import Derived.Test.YtgliaiemkfopeaaGreatDoorMn24
import Derived.Test.YtgliaiemkfopeaaGreatDoorMn25
set_option linter.unusedSimpArgs false
set_option linter.unusedVariables false
set_option maxRecDepth 20000
set_option maxHeartbeats 4000000
namespace Go.Proofs.YtgliaiemkfopeaaGreatDoor.K
open Go.RowKit
theorem Tryz.results20:Tryz.f20.results=#[.tmp 8]:=by kernel_rfl
def j8 (p:Per) (tx:Str) (m:Mv1):Le:=⟨m.old,m.new,p,tx⟩
def stU (p:Per) (tx:Str) (ys:List (List Str × Mv1)):List Sp:=ys.flatMap fun y=>chg y.1 (j8 p tx y.2)
def idT (T:Ts) (x:Str):List Int:=((T x).map (·.id)).getD zQ
def UpX (S XE:Nat->Prop) (N D R:Nat) (f:Option Str) (n:Nat) (T:Ts) (ms:List Mv1) (p:Per) (tx:Str) (ls:List (List Str)) (w:World) (e:Ending) (w':World):Prop :=
 (∃ i,i<ms.length/\(∀ j,j<i->idT T (enW (ls.getD j []))=(ms.getD j dMv).old)/\idT T (enW (ls.getD i [])) ≠ (ms.getD i dMv).old/\Told 62 w e w') ∨
 ((∀ j,j<ms.length->idT T (enW (ls.getD j []))=(ms.getD j dMv).old)/\((clA (fun z=>(stF (aT T) (stU p tx (ls.zip ms)) z).isSome)/\Told 63 w e w') ∨ (¬ clA (fun z=>(stF (aT T) (stU p tx (ls.zip ms)) z).isSome)/\((¬ okG p tx/\Told 125 w e w') ∨ (okG p tx/\Qy S XE N D R (n+(stU p tx (ls.zip ms)).length) (FsA f (stU p tx (ls.zip ms))) (stF (aT T) (stU p tx (ls.zip ms))) w e w')))))
def jK (S XE:Nat->Prop) (N D R:Nat) (f:Option Str) (n:Nat) (T:Ts) (ms:List Mv1) (p:Per) (tx:Str) (w:World) (e:Ending) (w':World):Prop:=WaysX (wyT T 8) (ms.map (·.name)) (fun k=>Told k w e w') (fun ls=>UpX S XE N D R f n T ms p tx ls w e w')
theorem post20_ret {S XE:Nat->Prop} {N D R:Nat} {f:Option Str} {n:Nat} {T:Ts} {ms:List Mv1} {p:Per} {tx:Str} {w:World} {e:Ending} {w':World} (h:jK S XE N D R f n T ms p tx w e w'):∃ v,e=.returned v:=by
 rcases h with ⟨_,_,_,⟨_,h,_⟩ | ⟨_,_,h,_⟩⟩ | ⟨_,_,⟨_,h,_⟩ | ⟨_,⟨_,_,_,_,h,_⟩ | ⟨_,⟨_,h,_⟩ | ⟨_,⟨_,h,_⟩ | ⟨_,_,_,_,_,h,_⟩⟩⟩⟩⟩ <;> exact⟨_,h⟩
theorem stg_ok:∀ (l:List Sp) (m:Rk.Tb Str Kp Le),StG m l->∀ s ∈ l,vk s
 | [],_,_,s,hs=>by cases hs
 | x :: l,m,h,s,hs=>by
  rcases List.mem_cons.1 hs with rfl | hs
  ·exact h.1
  ·exact stg_ok l _ h.2.2 s hs
structure UpOk (T:Ts) (ms:List Mv1) (p:Per) (tx:Str) (ls:List (List Str)):Prop where
 few:okG p tx->∀ T',aT T'=stF (aT T) (stU p tx (ls.zip ms))->Few T'
 g:StG (aT T) (stU p tx (ls.zip ms))
 lo:∀ z,(stF (aT T) (stU p tx (ls.zip ms)) z).isSome=true->∀ b ∈ z,b<128
 st:okG p tx->(∀ s ∈ stU p tx (ls.zip ms),StL s)/\(wrL (stU p tx (ls.zip ms))).length<=280000000
theorem chg_len (l:List Str) (e:Le):(chg l e).length<=l.length+1:=by
 unfold chg
 split <;> simp
theorem chg_ok (l:List Str) (e:Le) (he:uy e) (hl:∀ x ∈ l,x.length<=60) (h0:0<l.length):∀ s ∈ chg l e,vk s:=fun s hs=>by
 have hz:=hl _ (uu l h0)
 unfold chg at hs
 split at hs
 ·rcases List.mem_cons.1 hs with rfl | hs
  ·exact⟨qK.1,qK,hz,by simp⟩
  ·obtain⟨x,hx,rfl⟩:=List.mem_map.1 hs
   exact Qk (hl x (List.dropLast_subset _ hx)) he
 ·rcases List.mem_cons.1 hs with rfl | hs
  ·exact⟨he.2,qK,hz,by simp⟩
  ·obtain⟨x,hx,rfl⟩:=List.mem_map.1 hs
   exact Qk (hl x hx) he
structure Qu (R t wb wo K:Nat) (va:Option Addr) (vn vc:Nat) (O Nw:List Value) (W:World):Prop where
 c0:W.cell? ⟨R,1,none⟩=some (.map (some t))
 c1:W.cell? ⟨wb,wo,none⟩=some (.slice va vn vc)
 r1:W.rangeAt K 1 O
 r21:W.rangeAt K 21 Nw
structure Qv (R t wb wo K:Nat) (va:Option Addr) (vn vc:Nat) (O Nw:List Value) (Z:ByteArray) (A:Array Value) (W:World):Prop extends Qu R t wb wo K va vn vc O Nw W where
 lk:(Instr.lookup 105 (.map (some t)) (.string Z) false).run Tryz.prog W=.ok (.agg A) W
structure Qw (wb wo K r:Nat) (va:Option Addr) (vn vc:Nat) (O Nw PV:List Value) (W:World):Prop where
 c1:W.cell? ⟨wb,wo,none⟩=some (.slice va vn vc)
 r1:W.rangeAt K 1 O
 r21:W.rangeAt K 21 Nw
 rp:W.rangeAt r 0 PV
theorem look_id {S:Nat->Prop} {w:World} {t n:Nat} {T:Ts} (h:Tt S w t n T) {x:Str} (hx:x.length<=4000):∃ A I,(.agg (row .u8 (idT T x)).toArray:Value)=.agg I/\(idT T x).length=20/\(∀ W:World,(Instr.field 125 (.agg A) 0).run Tryz.prog W=.ok (.agg I) W)/\(∀ W,Below w.heap.size w W->(Instr.lookup 105 (.map (some t)) (sV x) false).run Tryz.prog W=.ok (.agg A) W):=by
 have hl:=fun W (hW:Below w.heap.size w W)=>(h.below hW).tm.look1 xu (j0 W) hx
 obtain⟨q,hq,hqi,hv⟩:∃ q:Lr,idT T x=q.id/\q.id.length=20/\(vT T x).getD (rV r0)=rV q:=by
  cases hT:T x with
  | none=>exact⟨r0,by simp[idT,hT,r0],rfl,by simp[vT,hT]⟩
  | some q=>exact⟨q,by simp[idT,hT],(h.at_ x q hT).id.1,by simp[vT,hT]⟩
 obtain⟨A,HA⟩:=ra q hqi
 exact⟨A,(row .u8 q.id).toArray,by rw[hq],by rw[hq];exact hqi,fun W=>by rw[<-HA.out.e];exact(field125 q hqi W).1,fun W hW=>by rw[hl W hW,hv,HA.out.e]⟩
theorem update_any (S XE:Nat->Prop) (N D R:Nat) (w:World) (f:Option Str) (t n:Nat) (T:Ts) (a:Option Addr) (c:Nat) (ms:List Mv1) (p:Per) (tx:Str) (h:Pw S XE N D R w f t n T) (hP:Px qz 41 dMv w a c ms) (hok:∀ m ∈ ms,xw m) (hms:ms.length<=20) (htx:tx.length<=1000000) (hN:N<=70000) (hn:n<=70000) (hfl:∀ f0,f=some f0->f0.length<=200000000)
  (hU:∀ ls,Wl (wyT T 8) (ms.map (·.name)) ls->(ls.map enW).Nodup->UpOk T ms p tx ls) (ht:Tab w) (hdb:Db w) (hmx:Mx w) :
  Calls Tryz.prog 20 #[.pointer (some ⟨R,0,none⟩),.slice a ms.length c,.agg (xq p),sV tx] w (jK S XE N D R f n T ms p tx w):=by
 obtain⟨r,HR⟩:=nm_ w.heap.size
 obtain⟨L,HL⟩:=nm_ ms.length
 have hL9:L<=20:=by rw[<-HL.out];exact hms
 obtain⟨PV,HPV⟩:=nm_ (xq p)
 have hpv4:PV.size=4:=by rw[<-HPV.out];rfl
 obtain⟨W1,HW1⟩:=nm_ (w.alloc (.cells PV 38))
 have hb1:Below r w W1:=by rw[<-HW1.out,<-HR.out];exact(Below.refl _ w).alloc (Nat.le_refl _) _
 have hs1:W1.heap.size=r+1:=by rw[<-HW1.out,<-HR.out];simp
 have hr0:W1.heap[r]? = some (.cells PV 38):=by rw[<-HW1.out,<-HR.out];exact heap_alloc_new _ _
 have hbw1:Below w.heap.size w W1:=by rw[HR.out];exact hb1
 have h1:=h.below hbw1
 have hc1:=h1.rf.c.2.1
 rw[<-HW1.out] at hc1
 have hc0:=h.rf.c.2.1
 have HI4:Hid ((Tryz.prog.info? 38).map (·.size)=some PV.size):=hid (by rw[hpv4];kernel_rfl)
 obtain⟨X,HX⟩:=nm_ (⟨tx.toArray⟩:ByteArray)
 have C44:Calls Tryz.prog 44 #[.map (some t),.slice a L c] W1 fun e w2=>∃ va vn vc er,e=.returned (.tuple #[.slice va vn vc,er])/\((∃ k,er=eI k/\jK S XE N D R f n T ms p tx w (.returned er) w2) ∨ (er=.nilIface/\∃ ls xs,Wl (wyT T 8) (ms.map (·.name)) ls/\(ls.map enW).Nodup/\Wz W1 w2 (r+1) (.slice va vn vc) xs/\xs.map (·.l)=ls)):=by
  have:=ways_any (SrE S R XE) t n T a c ms W1 h1.tt (hP.below hbw1) hok (by omega) (hmx.below hbw1)
  rw[HL.out] at this
  refine this.mono ?_
  rintro e w2 (⟨i,q1,q2,q3⟩ | ⟨ls,q1,⟨q2,rfl,q3⟩ | ⟨q2,v,xs,rfl,q3,q4⟩⟩)
  ·rcases q3 with ⟨q4,rfl,q5⟩ | ⟨q4,q6,rfl,q5⟩
   ·exact⟨_,_,_,_,rfl,.inl ⟨60,rfl,.inl ⟨i,q1,q2,.inl ⟨q4,rfl,hbw1.trans (q5.mono hbw1.size)⟩⟩⟩⟩
   ·exact⟨_,_,_,_,rfl,.inl ⟨64,rfl,.inl ⟨i,q1,q2,.inr ⟨q4,q6,rfl,hbw1.trans (q5.mono hbw1.size)⟩⟩⟩⟩
  ·exact⟨_,_,_,_,rfl,.inl ⟨60,rfl,.inr ⟨ls,q1,.inl ⟨q2,rfl,hbw1.trans (q3.mono hbw1.size)⟩⟩⟩⟩
  ·obtain⟨va,vc,rfl⟩:=zZ q3.bx.own
   rw[hs1] at q3
   exact⟨va,_,vc,_,rfl,.inr ⟨rfl,ls,xs,q1,q2,q3,q4⟩⟩
 have HH:=hid h
 have HPX:=hid hP
 have HOK:=hid hok
 have HU:=hid hU
 have HTAB:=hid ht
 have HDB:=hid hdb
 have HMX:=hid hmx
 have HFL:=hid hfl
 have HXT:=hid htx
 have HR0:=hid hr0
 have HB1:=hid hb1
 rw[HL.out,HPV.out]
 unfold sV
 rw[HX.out]
 clear h hP hok hU ht hdb hmx hfl hbw1 h1 htx hr0 hb1
 go_enter Tryz.func20,Tryz.ntmps20
 go_wp2_with (first
  | (go_at_call 44;rw[HW1.out];refine C44.mono ?_;rintro e w2 ⟨va,vn,vc,er,rfl,hX⟩;have HXX:=hid hX;clear hX;refine Hid.out ?_))
 refine hid ?_
 rcases HXX.out with ⟨k,rfl,hbad⟩ | ⟨rfl,ls,xs,q1,q2,q3,q4⟩
 ·have HBAD:=hid hbad
  clear hbad
  go_wp2
  exact bodyPost_ret (results_tmp Tryz.results20 _ _ _) rfl HBAD.out
 ·obtain⟨r2,HR2⟩:=nm_ w2.heap.size
  have hbw2:Below r w w2:=HB1.out.trans (q3.bx.below.mono (by omega))
  have hr2:r+1<=r2:=by have:=q3.bx.le;have:=HR2.out;omega
  have HLS:Hid (ls.length=L):=hid (by rw[q1.1];simp[HL.out])
  have HXS:Hid (xs.length=L):=hid (by rw[<-HLS.out,<-q4];simp)
  have hvn:vn=L:=by
   obtain⟨_,_,e⟩:=zZ q3.bx.own
   injection e with _ e _
   rw[e,HXS.out]
  subst hvn
  have HUP:=hid (HU.out ls q1 q2)
  have HGOOD:Hid (∀ e W,UpX S XE N D R f n T ms p tx ls w e W->jK S XE N D R f n T ms p tx w e W):=fun e W hx=>.inr ⟨ls,q1,.inr ⟨q2,hx⟩⟩
  have HWZ:Hid (∀ W,Below r2 w2 W->Wz W1 W (r+1) (.slice va vn vc) xs):=fun W hW=>q3.carry (by rw[HR2.out];exact hW)
  have HWW:Hid (∀ W,Below r2 w2 W->Below r w W):=fun W hW=>hbw2.trans (hW.mono (by omega))
  have HPW:Hid (∀ W,Below r w W->Pw S XE N D R W f t n T/\Px qz 41 dMv W a c ms/\Tab W/\Db W/\Mx W):=fun W hW=>by
   have hW':Below w.heap.size w W:=by rw[HR.out];exact hW
   exact⟨HH.out.below hW',HPX.out.below hW',HTAB.out.below hW',HDB.out.below hW',HMX.out.below hW'⟩
  have HPR:Hid (∀ W,Below r2 w2 W->W.heap[r]? = some (.cells PV 38)):=fun W hW=>(hW.block r (by omega)).trans ((q3.bx.below.block r (by omega)).trans HR0.out)
  have HLJ:Hid (∀ j,j<vn->(xs.getD j dW).l=ls.getD j []/\0<(ls.getD j []).length/\(ls.getD j []).length<=9/\(∀ y ∈ ls.getD j [],y.length<=60)):=fun j hj=>by
   have hjx:j<xs.length:=by rw[HXS.out];exact hj
   have e1:(xs.getD j dW).l=ls.getD j []:=by rw[<-q4];simp[List.getD_eq_getElem?_getD,List.getElem?_eq_getElem hjx]
   have h5:=q1.2 j (by simp[HL.out];exact hj)
   obtain⟨g1,g2,g3⟩:=Qz (T:=T) (fun x q hx=>(HH.out.tt.at_ x q hx).tg) 8 _ _ (qZ h5.1) h5.2
   exact⟨e1,g1,g2,g3⟩
  have HBX0:Hid (Bx zX 68 143 w2 w2 r2 (.slice none 0 0) []):=hid (uz 143 w2 r2 (by rw[HR2.out];exact Nat.le_refl _))
  clear q1 q2 q3 q4 hbw2
  go_wp2
  rw[HR.out]
  go_loopg [11,29] vn (fun q ov iv wr=>∃ (i:Nat) (u:Value) (ss:List Sp),iv=.int .i64 i/\u=ov/\q=vn-i/\i<=vn/\ss.length<=10*i/\Hid (Bx zX 68 143 w2 wr r2 u ss)/\Hid (ss=stU p tx ((ls.zip ms).take i))/\Hid (∀ j,j<i->idT T (enW (ls.getD j []))=(ms.getD j dMv).old))
  case atStart=>exact⟨0,_,[],rfl,rfl,rfl,Nat.zero_le _,by simp,HBX0,hid (by simp[stU]),hid (fun j hj=>by omega)⟩
  case round =>
   obtain⟨i,u,ss,rfl,hu,hq,hin,hsl,HB,HSS,HID⟩:=hrel
   subst hu
   obtain⟨ua,uc,hus⟩:=zZ HB.out.own
   obtain⟨un,hun⟩:∃ n,ss.length=n:=⟨_,rfl⟩
   rw[hun] at hus
   subst hus
   have hbr:=HB.out.below
   by_cases hlt:i<vn
   ·have hlti:(i:Int)<(vn:Int):=by omega
    obtain⟨p1,px1,_⟩:=HPW.out wr (HWW.out wr hbr)
    obtain⟨b,off,hae,_,_⟩:=px1.at_ (by rw[HL.out];omega)
    subst hae
    obtain⟨wb,wo,wc,hve,_,_⟩:=(HWZ.out wr hbr).at (i:=i) (by rw[HXS.out];exact hlt)
    injection hve with e1 e3 e2
    clear e3
    subst e1
    subst e2
    have hmo:xw (ms.getD i dMv):=HOK.out _ (zK ms i dMv (by rw[HL.out];exact hlt))
    obtain⟨hxl,hl0,hl9,hl60⟩:=HLJ.out i hlt
    obtain⟨l,hl⟩:∃ l,ls.getD i []=l:=⟨_,rfl⟩
    rw[hl] at hxl hl0 hl9 hl60
    obtain⟨xa,xc,hxe⟩:∃ xa xc,xs.getD i dW=⟨xa,xc,l⟩:=⟨(xs.getD i dW).a,(xs.getD i dW).c,by rw[<-hxl]⟩
    obtain⟨m,hm⟩:∃ m,ms.getD i dMv=m:=⟨_,rfl⟩
    rw[hm] at hmo
    obtain⟨z,hz⟩:∃ z,enW l=z:=⟨_,rfl⟩
    have hz60:z.length<=60:=by rw[<-hz];exact hl60 _ (uu l hl0)
    obtain⟨EL,hEL⟩:∃ EL,qz m=EL:=⟨_,rfl⟩
    have hE41:EL.length=41:=by rw[<-hEL];exact uW hmo
    have HIE:Hid ((Tryz.prog.info? 117).map (·.size)=some EL.length):=hid (by rw[hE41];kernel_rfl)
    have HIA:Hid ((Tryz.prog.info? 117).map (·.size)=some EL.toArray.size):=hid (by rw[List.size_toArray,hE41];kernel_rfl)
    have HRG:Hid (wr.rangeAt b (off+i*41) EL):=hid (by
     obtain⟨_,_,e1,_,e3⟩:=px1.at_ (by rw[HL.out];omega)
     cases e1
     rw[<-hEL,<-hm]
     exact e3 i (by rw[HL.out];exact hlt))
    have HONE:Hid (EL.toArray.all (·.oneCell')=true):=hid (by rw[<-hEL];exact all_oneCell_toArray (yY _))
    have HZS:Hid ((41:Nat)=EL.toArray.size):=hid (by rw[List.size_toArray,hE41])
    obtain⟨V,HV⟩:=nm_ (wr.alloc (.cells EL.toArray 117))
    obtain⟨K,HK⟩:=nm_ wr.heap.size
    have hKr2:r2<=K:=by have:=hbr.size;have:=HR2.out;have:=HK.out;omega
    have hbV:Below K wr V:=by rw[<-HV.out,<-HK.out];exact(Below.refl _ wr).alloc (Nat.le_refl _) _
    have hsV:V.heap.size=K+1:=by rw[<-HV.out,<-HK.out];simp
    have hkV:V.heap[K]? = some (.cells EL.toArray 117):=by rw[<-HV.out,<-HK.out];exact heap_alloc_new _ _
    obtain⟨O,hO⟩:∃ O,row .u8 m.old=O:=⟨_,rfl⟩
    obtain⟨Nw,hNw⟩:∃ O,row .u8 m.new=O:=⟨_,rfl⟩
    have hO20:O.length=20:=by rw[<-hO,zw];exact hmo.2.1.1
    have hN20:Nw.length=20:=by rw[<-hNw,zw];exact hmo.2.2.1
    have HIO:Hid ((Tryz.prog.info? 89).map (·.size)=some O.length):=hid (by rw[hO20];kernel_rfl)
    have HIN:Hid ((Tryz.prog.info? 89).map (·.size)=some Nw.length):=hid (by rw[hN20];kernel_rfl)
    obtain⟨ln,hln⟩:∃ n,l.length=n:=⟨_,rfl⟩
    have HVW:Hid (∀ W,Below (K+1) V W->Below r2 w2 W/\Below wr.heap.size wr W):=fun W hW=>by
     have:Below K wr W:=hbV.trans (hW.mono (by omega))
     exact⟨hbr.trans (this.mono hKr2),by rw[HK.out];exact this⟩
    have HQU:Hid (∀ W,Below (K+1) V W->Qu R t wb (wo+i) K xa ln xc O Nw W):=fun W hW=>by
     obtain⟨g1,g2⟩:=HVW.out W hW
     obtain⟨_,_,_,hve,hcc,_⟩:=(HWZ.out W g1).at (i:=i) (by rw[HXS.out];exact hlt)
     injection hve with e1 _ _
     injection e1 with e1
     injection e1 with e1 e2 _
     subst e1
     subst e2
     rw[hxe] at hcc
     have hkW:=(hW.block K (by omega)).trans hkV
     refine⟨(HPW.out W (HWW.out W g1)).1.rf.c.2.1,by rw[<-hln];exact hcc,fun j v hv=>?_,fun j v hv=>?_⟩
     ·have h2:=zy hkW (1+j) v (by
       rw[<-hEL]
       unfold qz
       rw[show 1+j=j+1 by omega,List.getElem?_cons_succ,List.getElem?_append_left (by rw[hO];exact(List.getElem?_eq_some_iff.1 hv).1),hO]
       exact hv)
      rw[Nat.zero_add] at h2
      exact h2
     ·have h2:=zy hkW (21+j) v (by
       rw[<-hEL]
       unfold qz
       rw[show 21+j=(20+j)+1 by omega,List.getElem?_cons_succ,List.getElem?_append_right (by rw[hO,hO20];omega),hO,hO20,show 20+j-20=j by omega,hNw]
       exact hv)
      rw[Nat.zero_add] at h2
      exact h2
    obtain⟨ZB,HZB⟩:=nm_ (⟨z.toArray⟩:ByteArray)
    obtain⟨A,I,hI,hI20,hfd,hlk⟩:=look_id p1.tt (x:=z) (by omega)
    unfold sV at hlk
    rw[HZB.out] at hlk
    have HQV:Hid (∀ W,Below (K+1) V W->Qv R t wb (wo+i) K xa ln xc O Nw ZB A W):=fun W hW=>⟨HQU.out W hW,hlk W (HVW.out W hW).2⟩
    have heq:∀ W:World,(Op.equalIn 10000 89 (.agg I) (.agg O.toArray)).run Tryz.prog W=.ok (decide (idT T z=m.old)) W:=fun W=>by rw[<-hI,<-hO];exact eqId 89 Qx _ _ hI20 hmo.2.1.1 W
    clear hI hI20
    have HPL:Hid (∀ W,Below (K+1) V W->Px eT 1 [] W xa xc l):=fun W hW=>by
     obtain⟨_,_,_,_,_,hpp⟩:=(HWZ.out W (HVW.out W hW).1).at (i:=i) (by rw[HXS.out];exact hlt)
     rw[hxe] at hpp
     exact hpp
    have C45:Hid (∀ W,Below (K+1) V W->Calls Tryz.prog 45 #[.slice xa ln xc] W fun e w'=>e=.returned (.string ZB)/\w'=W):=fun W hW=>by
     have h45:=last_any xa xc l W (HPL.out W hW) hl0 (by omega)
     have:l.getD (l.length-1) []=z:=hz
     rw[this,hln] at h45
     unfold sV at h45
     rw[HZB.out] at h45
     exact h45
    have HEL:=hid hEL
    have HKV:=hid hkV
    clear p1 px1 hkV hbV hEL
    go_wp2_with (first
     | (refine wpList_load_mid rfl 117 (.tmp 32) rfl _ _ rfl EL _ HRG.out Tryz.underlying117 rfl HIE.out ?_;go_frame)
     | (refine zq rfl 117 (.tmp 13) (.tmp 33) rfl _ EL.toArray rfl rfl HIA.out HZS.out HONE.out ?_;rw[HV.out,HK.out];go_frame))
    have hd0:Below (K+1) V V.drew:=by rw[<-hsV];exact zv _ _ 1
    have hS0:=HQV.out _ hd0
    refine wp_region_held_drew (S:=Qv R t wb (wo+i) K xa ln xc O Nw ZB A) (by kernel_rfl) hS0 (fun hHeld=>?_)
    have hdz:V.drew.heap.size=V.heap.size:=rfl
    generalize V.drew=u0 at hHeld hd0 hS0 hdz ⊢
    iterate 8
     refine qq (v:=?_) hHeld ?_ ?_
     rotate_left
     ·rintro w' ⟨⟨c0,c1,_,_⟩,_⟩;go_simp;rfl
     try simp only[Act.put,sL]
    refine takeY (i:=11) (v:=.pointer (some ⟨K,1,none⟩)) hHeld ?_ ?_
    ·intro w' hw';go_simp
    try simp only[Act.put,sL]
    refine takeY (i:=12) (v:=.agg O.toArray) hHeld (fun w' hw'=>qx 89 (.tmp 45) rfl K 1 rfl O _ hw'.r1 Tryz.underlying89 rfl HIO.out) ?_
    try simp only[Act.put,sL]
    refine vv 8 45 [.tmp 41] [.slice xa ln xc] (C45.out u0 hd0) ?_
    rintro e u1 ⟨rfl,hu1⟩
    have hu1':=hu1.symm
    subst hu1'
    refine⟨_,rfl,hS0,fun hHeld=>?_⟩
    try simp only[Act.put,sL]
    refine takeY (i:=9) (v:=.agg A) hHeld (fun w' hw'=>jY (mv:=.map (some t)) (kv:=.string ZB) rfl rfl rfl hw'.lk) ?_
    try simp only[Act.put,sL]
    refine takeY (i:=10) (v:=.agg I) hHeld ?_ ?_
    ·intro w' hw';have hfd':=hfd w';go_simp
    try simp only[Act.put,sL]
    refine takeY (i:=13) (v:=.bool (!decide (idT T z=m.old))) hHeld ?_ ?_
    ·intro w' hw';have heq':=heq w';go_simp
    try simp only[Act.put,sL]
    refine wpAnyH_done (by kernel_rfl) ?_ _
    have hu0s:u0.heap.size=K+1:=by rw[hdz,hsV]
    have hZI:idT T (enW (ls.getD i []))=idT T z:=by rw[hl,hz]
    by_cases hid2:idT T z=m.old
    ·rw[decide_eq_true hid2]
     obtain⟨le,hle⟩:∃ e,j8 p tx m=e:=⟨_,rfl⟩
     have hleok:uy le:=by rw[<-hle];exact⟨hmo.2.1,hmo.2.2⟩
     obtain⟨E,hE⟩:∃ E,qv le=E:=⟨_,rfl⟩
     have HBD:Hid (∀ W:World,(Instr.build 129 #[(0,.agg O.toArray),(1,.agg Nw.toArray),(2,.agg PV),(3,.string X)]).run Tryz.prog W=.ok (.agg E.toArray) W):=fun W=>by
      rw[<-hO,<-hNw,<-HPV.out,<-hE,<-hle,<-HX.out]
      exact bd129 m.old m.new hmo.2.1.1 hmo.2.2.1 p ⟨tx.toArray⟩ W
     have HQH:Hid (∀ W:World,W.heap[K]? = some (.cells EL.toArray 117)->W.heap[r]? = some (.cells PV 38)->Wz W1 W (r+1) (.slice (some ⟨wb,wo,none⟩) vn vc) xs->Qw wb (wo+i) K r xa ln xc O Nw PV.toList W):=fun W hk hp hw=>by
      obtain⟨_,_,_,hve,hcc,_⟩:=hw.at (i:=i) (by rw[HXS.out];exact hlt)
      injection hve with e1 _ _
      injection e1 with e1
      injection e1 with e1 e2 _
      subst e1
      subst e2
      rw[hxe] at hcc
      refine⟨by rw[<-hln];exact hcc,fun j v hv=>?_,fun j v hv=>?_,zy (by simpa using hp)⟩
      ·have h2:=zy hk (1+j) v (by
        rw[<-HEL.out]
        unfold qz
        rw[show 1+j=j+1 by omega,List.getElem?_cons_succ,List.getElem?_append_left (by rw[hO];exact(List.getElem?_eq_some_iff.1 hv).1),hO]
        exact hv)
       rw[Nat.zero_add] at h2
       exact h2
      ·have h2:=zy hk (21+j) v (by
        rw[<-HEL.out]
        unfold qz
        rw[show 21+j=(20+j)+1 by omega,List.getElem?_cons_succ,List.getElem?_append_right (by rw[hO,hO20];omega),hO,hO20,show 20+j-20=j by omega,hNw]
        exact hv)
       rw[Nat.zero_add] at h2
       exact h2
     have HKW:Hid (∀ W,Below (K+1) V W->W.heap[K]? = some (.cells EL.toArray 117)/\W.heap[r]? = some (.cells PV 38)/\Wz W1 W (r+1) (.slice (some ⟨wb,wo,none⟩) vn vc) xs):=fun W hW=>⟨(hW.block K (by omega)).trans HKV.out,HPR.out W (HVW.out W hW).1,HWZ.out W (HVW.out W hW).1⟩
     have HQ2:Hid (∀ W,Below (K+1) V W->Qw wb (wo+i) K r xa ln xc O Nw PV.toList W):=fun W hW=>HQH.out W (HKW.out W hW).1 (HKW.out W hW).2.1 (HKW.out W hW).2.2
     have C46:Hid (∀ W,Below (K+1) V W->Calls Tryz.prog 46 #[.slice xa ln xc,.agg E.toArray] W fun e W'=>∃ v3,e=.returned v3/\Bx zX 68 143 W W' W.heap.size v3 (chg l le)):=fun W hW=>by
      have:=change_any xa xc l le W (HPL.out W hW) hl0 (by omega) hl60 hleok
      rw[hln,hE] at this
      exact this
     have HCO:Hid (∀ s ∈ chg l le,vk s):=hid (chg_ok l le hleok hl60 hl0)
     have HCL:Hid ((chg l le).length<=10):=hid (by have:=chg_len l le;omega)
     have HIP:Hid ((Tryz.prog.info? 38).map (·.size)=some PV.toList.length):=hid (by simpa using HI4.out)
     have HBU:Hid (∀ W,Below (K+1) V W->Bx zX 68 143 w2 W r2 (.slice ua un uc) ss):=fun W hW=>HB.out.carry (HVW.out W hW).2
     have HSN:Hid (stU p tx ((ls.zip ms).take (i+1))=stU p tx ((ls.zip ms).take i)++chg l le):=hid (by
      have hzl:i<(ls.zip ms).length:=by rw[List.length_zip,HLS.out,HL.out];omega
      have hze:(ls.zip ms).getD i ([],dMv)=(l,m):=by
       have g1:i<ls.length:=by rw[HLS.out];exact hlt
       have g2:i<ms.length:=by rw[HL.out];exact hlt
       rw[List.getD_eq_getElem?_getD,List.getElem?_eq_getElem hzl,Option.getD_some,List.getElem_zip,<-hl,<-hm,List.getD_eq_getElem?_getD,List.getElem?_eq_getElem g1,List.getD_eq_getElem?_getD,List.getElem?_eq_getElem g2]
       rfl
      rw[qj ([],dMv) _ i hzl,hze]
      unfold stU
      rw[List.flatMap_append,List.flatMap_cons,List.flatMap_nil,List.append_nil,hle])
     have HIDN:Hid (∀ j,j<i+1->idT T (enW (ls.getD j []))=(ms.getD j dMv).old):=fun j hj=>by
      by_cases e:j=i
      ·subst e;rw[hZI,hid2,hm]
      ·exact HID.out j (by omega)
     clear hHeld hS0 heq hfd hlk
     go_wp2
     have hd1:Below (K+1) V u0.drew:=hd0.trans (by rw[<-hu0s];exact zv _ _ 1)
     have hS1:=HQ2.out _ hd1
     refine wp_region_held_drew (S:=Qw wb (wo+i) K r xa ln xc O Nw PV.toList) (by kernel_rfl) hS1 (fun hHeld=>?_)
     have hdz1:u0.drew.heap.size=u0.heap.size:=rfl
     generalize u0.drew=u1 at hHeld hd1 hS1 hdz1 ⊢
     iterate 6
      refine qq (v:=?_) hHeld ?_ ?_
      rotate_left
      ·rintro w' ⟨c1,_,_,_⟩;go_simp;rfl
      try simp only[Act.put,sL]
     refine takeY (i:=6) (v:=.agg O.toArray) hHeld (fun w' hw'=>qx 89 (.tmp 54) rfl K 1 rfl O _ hw'.r1 Tryz.underlying89 rfl HIO.out) ?_
     try simp only[Act.put,sL]
     refine qq (v:=?_) hHeld ?_ ?_
     rotate_left
     ·rintro w' ⟨c1,_,_,_⟩;go_simp;rfl
     try simp only[Act.put,sL]
     refine takeY (i:=8) (v:=.agg Nw.toArray) hHeld (fun w' hw'=>qx 89 (.tmp 56) rfl K 21 rfl Nw _ hw'.r21 Tryz.underlying89 rfl HIN.out) ?_
     try simp only[Act.put,sL]
     refine takeY (i:=9) (v:=.agg PV.toList.toArray) hHeld (fun w' hw'=>qx 38 (.tmp 6) rfl r 0 rfl PV.toList _ hw'.rp Tryz.underlying38 rfl HIP.out) ?_
     simp only[Array.toArray_toList]
     try simp only[Act.put,sL]
     refine qq (v:=?_) hHeld ?_ ?_
     rotate_left
     ·rintro w' ⟨c1,_,_,_⟩;go_simp;rfl
     try simp only[Act.put,sL]
     refine takeY (i:=11) (v:=.agg E.toArray) hHeld (fun w' hw'=>Xv 129 0 1 2 3 (.tmp 55) (.tmp 57) (.tmp 58) (.tmp 59) rfl (.agg O.toArray) (.agg Nw.toArray) (.agg PV) (.string X) _ rfl rfl rfl rfl (HBD.out _)) ?_
     try simp only[Act.put,sL]
     refine vv 12 46 [.tmp 53,.tmp 60] [.slice xa ln xc,.agg E.toArray] (C46.out u1 hd1) ?_
     rintro e u2 ⟨v3,rfl,hbx3⟩
     obtain⟨a3,c3,hv3,hP3,_,_⟩:=hbx3.px (d:=dS) (fun s hs=>zJ (HCO.out s hs))
     subst hv3
     have hd2:Below (K+1) V u2:=hd1.trans (hbx3.below.mono (by omega))
     refine⟨_,rfl,HQ2.out _ hd2,fun hHeld=>?_⟩
     try simp only[Act.put,sL]
     refine wpAnyH_ready (rs:=[13]) (by kernel_rfl) (by simp) ?_
     refine xj rfl (fun KK hKK=>?_) AllReadyH.nil
     refine step_bx (enc:=zX) (k:=68) (d:=dS) (.tmp 49) (.tmp 61) 123 143 Zu j4 z143 (by decide) (by decide) qV r2 (.slice ua un uc) ss rfl (HBU.out u2 hd2) a3 c3 (chg l le) rfl hP3 (fun s hs=>zJ (HCO.out s hs)) (by have:=HCL.out;omega) ?_
     intro v4 u4 hb4 hm4
     have ht4:Tf 143 u2 u4:=Tf.mv hm4 (fun k hk=>by
      obtain⟨_,⟨hv,h0⟩ | ⟨g,cap,cur,hv,hb,hh,_⟩⟩:=(HBU.out u2 hd2).own
      ·rw[hv] at hk;cases hk
      ·rw[hv] at hk
       simp only[Value.ownBlock,Option.some.injEq] at hk
       subst hk
       exact⟨_,_,hh⟩)
     have hS4:Qw wb (wo+i) K r xa ln xc O Nw PV.toList u4:=by
      obtain⟨g1,g2,g3⟩:=HKW.out u2 hd2
      exact HQH.out u4 (ht4.of (by decide) g1) (ht4.of (by decide) g2) (HWZ.out u4 hb4.below)
     refine hKK.out _ _ hS4 (fun hHeld=>?_)
     clear hKK KK
     try simp only[Act.put,sL]
     refine qq (v:=?_) hHeld ?_ ?_
     rotate_left
     ·rintro w' ⟨c1,_,_,_⟩;go_simp;rfl
     try simp only[Act.put,sL]
     refine wpAnyH_done (by kernel_rfl) ?_ _
     have HB4:=hid hb4
     clear hHeld hS4 hS1 hb4 hm4 ht4 hbx3 hP3
     go_wp2
     go_roundg (vn-(i+1))
     case measure=>omega
     case rel=>exact⟨i+1,_,ss++chg l le,by go_num,rfl,rfl,by omega,by have:=HCL.out;simp;omega,HB4,hid (by rw[HSN.out,<-HSS.out]),HIDN⟩
    ·rw[decide_eq_false hid2]
     have HE:Hid (jK S XE N D R f n T ms p tx w (.returned (.iface 44 (.int .i64 62))) u0):=hid (HGOOD.out _ _ (.inl ⟨i,by rw[HL.out];exact hlt,HID.out,by rw[hZI,hm];exact hid2,rfl,by rw[HR.out];exact HWW.out _ (HVW.out _ hd0).1⟩))
     clear hHeld hS0 heq hfd hlk
     go_wp2
     exact bodyPost_ret (results_tmp Tryz.results20 _ _ _) rfl HE.out
   ·have hlti:¬ (i:Int)<(vn:Int):=by omega
    obtain rfl:i=vn:=by omega
    obtain⟨SF,hSF⟩:∃ q,stU p tx (ls.zip ms)=q:=⟨_,rfl⟩
    have hss:ss=SF:=by rw[HSS.out,List.take_of_length_le (by rw[List.length_zip,HLS.out,HL.out];omega),hSF]
    have hrw:=HWW.out wr hbr
    have hrw':Below w.heap.size w wr:=by rw[HR.out];exact hrw
    obtain⟨p1,_,t1,d1,m1⟩:=HPW.out wr hrw
    have hcR:=p1.rf.c.2.1
    have hup:=HUP.out
    have hsok:∀ s ∈ ss,vk s:=fun s hs=>by
     rw[hss] at hs
     exact stg_ok SF _ (by rw[<-hSF];exact hup.g) s hs
    obtain⟨a5,c5,he5,hP5,_,_⟩:=HB.out.px (d:=dS) (fun s hs=>zJ (hsok s hs))
    rw[hun] at he5
    injection he5 with e1 _ e2
    subst e1
    subst e2
    have HEND:Hid (Calls Tryz.prog 47 #[.map (some t),.slice ua un uc] wr fun e w3=>∃ t',e=.returned (.map (some t'))/\Calls Tryz.prog 48 #[.map (some t')] w3 fun e4 w4=>∃ b:Bool,e4=.returned (.bool b)/\w4.heap[r]? = some (.cells PV 38)/\(b=true->jK S XE N D R f n T ms p tx w (.returned (.iface 44 (.int .i64 63))) w4)/\(b=false->Calls Tryz.prog 49 #[.agg PV,.string X] w4 fun e5 w5=>∃ b5:Bool,e5=.returned (.bool b5)/\(b5=false->jK S XE N D R f n T ms p tx w (.returned (.iface 44 (.int .i64 125))) w5)/\(b5=true->Calls Tryz.prog 50 #[.pointer (some ⟨R,0,none⟩),.slice ua un uc,.map (some t')] w5 (jK S XE N D R f n T ms p tx w)))):=hid (by
     have h47:=YZ (SrE S R XE) t n T ua uc ss wr p1.tt p1.lim hP5 (by rw[hss,<-hSF];exact hup.g) (by omega)
     rw[hun] at h47
     refine h47.mono ?_
     rintro e w3 ⟨t',T',rfl,hTo,hA,hb3⟩
     refine⟨t',rfl,?_⟩
     rw[hss] at hA
     have hb3':Below w.heap.size w w3:=hrw'.trans (hb3.mono hrw'.size)
     refine(Qq (SrE S R XE) t' _ T' w3 hTo.tt (fun z q hq=>hup.lo z (by rw[hSF,<-hA];unfold aT;rw[hq];rfl))).mono ?_
     rintro e4 w4 ⟨b,rfl,hbi,hb4⟩
     have hb4':Below w.heap.size w w4:=hb3'.trans (hb4.mono hb3'.size)
     rw[dT_aT,hA] at hbi
     have hk4:w4.heap[r]? = some (.cells PV 38):=by
      have h5:=HPR.out wr hbr
      have h6:=(hb3.block r (z7 h5)).trans h5
      exact(hb4.block r (z7 h6)).trans h6
     refine⟨b,rfl,hk4,fun hb1=>HGOOD.out _ _ (.inr ⟨by rw[HL.out];exact HID.out,.inl ⟨by rw[hSF];exact hbi.1 hb1,rfl,hb4'⟩⟩),fun hb0=>?_⟩
     have hncl:¬ clA (fun z=>(stF (aT T) (stU p tx (ls.zip ms)) z).isSome):=fun hcl=>by rw[hSF] at hcl;rw[hbi.2 hcl] at hb0;cases hb0
     have h49:=canLog_any p tx HXT.out w4
     unfold sV at h49
     rw[HPV.out,HX.out] at h49
     refine h49.mono ?_
     rintro e5 w5 ⟨hB5,hb5⟩
     have hb5':Below w.heap.size w w5:=hb4'.trans (hb5.mono hb4'.size)
     rcases kJ hB5 with ⟨hk,he⟩ | ⟨hk,he⟩
     ·refine⟨true,he,fun h=>(by cases h),fun _=>?_⟩
      obtain⟨g1,g2⟩:=hup.st hk
      rw[hSF] at g1 g2
      have h50:=X7 S XE N D R w w5 f t n t' _ T T' ua uc ss HH.out hb5' (hTo.tt.below (hb4.trans (hb5.mono hb4.size))) hN (by omega) HFL.out (fun _=>hup.few hk T' (by rw[hSF];exact hA)) ((hP5.below hb3).below (hb4.trans (hb5.mono hb4.size))) (by rw[hss];exact g1) (by rw[hss];exact g2) (by omega) (HTAB.out.below hb5') (HDB.out.below hb5')
      rw[hun] at h50
      refine h50.mono ?_
      intro e6 w6 h6
      refine HGOOD.out _ _ (.inr ⟨by rw[HL.out];exact HID.out,.inr ⟨hncl,.inr ⟨hk,?_⟩⟩⟩)
      rw[hSF,<-hss,hun]
      rw[hA,<-hss] at h6
      exact h6
     ·exact⟨false,he,fun _=>HGOOD.out _ _ (.inr ⟨by rw[HL.out];exact HID.out,.inr ⟨hncl,.inl ⟨hk,rfl,hb5'⟩⟩⟩),fun h=>(by cases h)⟩)
    clear p1 t1 d1 m1 hup hP5 hss
    go_wp2_with (first
     | (go_at_call 47;refine HEND.out.mono ?_;rintro e w3 ⟨t',rfl,c48⟩;have C48:=hid c48;clear c48)
     | (go_at_call 48;refine C48.out.mono ?_;rintro e w4 ⟨b4,rfl,hk4,k1,k2⟩;have HK4:=hid hk4;have K1:=hid k1;have K2:=hid k2;clear hk4 k1 k2;refine Hid.out ?_))
    refine hid ?_
    cases b4 with
    | true =>
     go_wp2
     exact bodyPost_ret (results_tmp Tryz.results20 _ _ _) rfl (K1.out (by simp))
    | false =>
     have c49:=K2.out (by simp)
     go_wp2_with (first
      | (refine zu rfl 38 (.tmp 6) rfl r PV 38 (0,0) _ rfl HK4.out Tryz.underlying38 rfl HI4.out ?_;go_frame)
      | (go_at_call 49;refine c49.mono ?_;rintro e w5 ⟨b5,rfl,k1,k2⟩;have K51:=hid k1;have K52:=hid k2;clear k1 k2;refine Hid.out ?_))
     refine hid ?_
     cases b5 with
     | false =>
      go_wp2
      exact bodyPost_ret (results_tmp Tryz.results20 _ _ _) rfl (K51.out (by simp))
     | true =>
      have c50:=K52.out (by simp)
      go_wp2_with (go_at_call 50;refine c50.mono ?_;rintro e w6 k6;obtain⟨v6,hv6⟩:∃ v,e=.returned v:=post20_ret k6;subst hv6;have K6:=hid k6;clear k6)
      exact bodyPost_ret (results_tmp Tryz.results20 _ _ _) rfl K6.out
def exP (rs:List Rx) (ls:List Ex) (x:Str) (k:Int):List Ex:=match lgD rs ls x with
 | .ok l=>Rk.exL x (l.length-k.toNat) ls
 | .error _=>ls
theorem exL_hit (x:Str) (n:Nat) (e:Ex) (l:List Ex) (h:e.1=x):Rk.exL x (n+1) (e :: l)=Rk.exL x n l:=by simp[Rk.exL,h]
theorem exL_keep (x:Str) (e:Ex) (l:List Ex) (h:e.1=x):Rk.exL x 0 (e :: l)=e :: Rk.exL x 0 l:=by simp[Rk.exL,h]
theorem exL_other (x:Str) (n:Nat) (e:Ex) (l:List Ex) (h:e.1 ≠ x):Rk.exL x n (e :: l)=e :: Rk.exL x n l:=by cases n <;> simp[Rk.exL,h]
theorem exL_mem (x:Str):∀ (l:List Ex) (n:Nat) (e:Ex),e ∈ Rk.exL x n l->e ∈ l:=fun l n e h=>Rk.mem_exL x l n e h
theorem exL_len (x:Str):∀ (l:List Ex) (n:Nat),(Rk.exL x n l).length<=l.length
 | [],n=>by cases n <;> simp[Rk.exL]
 | e :: l,n=>by
  by_cases h:e.1=x
  ·cases n with
   | zero=>rw[exL_keep x e l h];have:=exL_len x l 0;simp;omega
   | succ n=>rw[exL_hit x n e l h];have:=exL_len x l n;simp;omega
  ·rw[exL_other x n e l h];have:=exL_len x l n;simp;omega
set_option maxHeartbeats 2000000 in
theorem expireD_any {G Q:Nat} {v1 v2:Value} {rs:List Rx} {ls:List Ex} (x:Str) (k:Int) (hk1 : -9223372036854775808<=k) (hk2:k<=9223372036854775807) (w:World) (h:Dq G w Q v1 v2 rs ls) (hG:G<=w.heap.size) :
  Calls Tryz.prog 27 #[.pointer (some ⟨Q,0,none⟩),sV x,.int .i64 k] w fun e w'=>e=.returned (.int .i64 (oN (lgD rs ls x)))/\Post57 G Q v1 rs (exP rs ls x k) w e w':=by
 have hlg:=logD_any x w h
 obtain⟨r,HR⟩:=nm_ w.heap.size
 have hQr:Q<r:=by rw[<-HR.out];exact z7 h.box
 obtain⟨a,c,e2,hP,hpa,hc1⟩:=h.px2
 subst e2
 obtain⟨N,HN⟩:=nm_ ls.length
 have hN9:N<=1000000:=by rw[<-HN.out];exact h.few.2
 have HST:Hid (∀ W,Below r w W->Dq G W Q v1 (.slice a ls.length c) rs ls/\Px yz 46 dE W a c ls/\W.cell? ⟨Q,1,none⟩=some (.slice a N c)):=fun W hW=>⟨h.below (by rw[HR.out];exact hW),hP.below (by rw[HR.out];exact hW),by rw[<-HN.out];exact(hW.cell (p:=⟨Q,1,none⟩) hQr).trans hc1⟩
 have HB0:Hid (∀ W,Below r w W->Bx yz 46 141 w W r (.slice none 0 0) []):=fun W hW=>(uz 141 w r (by rw[HR.out];exact Nat.le_refl _)).carry (by rw[HR.out];exact hW)
 have HOK:=hid h.ok2
 have HH:=hid h
 have HGR:Hid (G<=r):=hid (by rw[<-HR.out];exact hG)
 have HFIN:Hid (∀ (W:World) (v:Value) (l:List Ex),Bx yz 46 141 w W r v l->l=(exP rs ls x k)->(∀ x ∈ l,ExOk x)->l.length<=1000000->W.frozen? ⟨Q,1,none⟩=false/\Post57 G Q v1 rs (exP rs ls x k) w (.returned (.int .i64 (oN (lgD rs ls x)))) (W.setCell ⟨Q,1,none⟩ v)):=fun W v l hB hl hlo hlen=>by
  obtain⟨q1,q2,q3⟩:=HST.out W hB.below
  have ht:Tf 31 W (W.setCell ⟨Q,1,none⟩ v):=Tf.set (p:=⟨Q,1,none⟩) q1.box v
  have hr:=HGR.out
  have:=qk (zV hB.own ht (by decide)) (B':=G) hr
  subst hl
  exact⟨by simp[World.frozen?,q1.box],⟨v,by rw[qy q1.box];rfl,zV q1.r1 ht (by decide),this,q1.ok1,hlo,q1.few.1,hlen⟩,(Al.below (by rw[HR.out];exact hB.below)).trans (Al.of_set (S:=fun i=>i=Q) (p:=⟨Q,1,none⟩) rfl _) (fun i h=>.inl h)⟩
 clear h hP hpa hc1 hG
 have HE0:Hid (∀ kk W,lgD rs ls x=.error kk->Below r w W->Post57 G Q v1 rs (exP rs ls x k) w (.returned (.int .i64 kk)) W):=fun kk W he hW=>by
  have:exP rs ls x k=ls:=by unfold exP;rw[he]
  rw[this]
  exact⟨⟨_,(HST.out W hW).1⟩,Al.below (by rw[HR.out];exact hW)⟩
 cases hL:lgD rs ls x with
 | error kk =>
  have hlg2:Calls Tryz.prog 36 #[.pointer (some ⟨Q,0,none⟩),sV x] w fun e w'=>(∃ v,e=.returned (.tuple #[v,.int .i64 kk]))/\Below r w w':=hlg.mono fun e w' ⟨v,h1,h2,h3⟩=>⟨⟨v,by rw[h1,hL];rfl⟩,by rw[<-HR.out];exact h3⟩
  have hkn:kk ≠ 0:=by
   unfold lgD at hL
   split at hL
   ·split at hL
    ·cases hL
    ·cases hL;decide
   ·cases hL;decide
  have HL:=hid hL
  simp only[oN]
  unfold sV at hlg2 ⊢
  clear hlg HFIN hL
  go_enter Tryz.func27,Tryz.ntmps27
  go_wp2_with (go_at_call 36;refine hlg2.mono ?_;rintro e w1 ⟨⟨v,rfl⟩,hb⟩;have B1:=hid hb;clear hb)
  exact bodyPost_ret (results_tmp Tryz.results27 _ _ _) rfl ⟨rfl,HE0.out _ _ HL.out B1.out⟩
 | ok l =>
  have hll:l.length<=N:=by
   unfold lgD at hL
   split at hL
   ·split at hL
    ·cases hL;rw[<-HN.out];exact List.length_filter_le _ _
    ·cases hL
   ·cases hL
  obtain⟨L,hLn⟩:∃ L,l.length=L:=⟨_,rfl⟩
  have hlg2:Calls Tryz.prog 36 #[.pointer (some ⟨Q,0,none⟩),sV x] w fun e w'=>(∃ va vc,e=.returned (.tuple #[.slice va L vc,.int .i64 0]))/\Below r w w':=hlg.mono fun e w' ⟨v,h1,h2,h3⟩=>⟨by
   rw[hL] at h1 h2
   obtain⟨va,vc,rfl⟩:=zZ h2
   exact⟨va,vc,by rw[h1,<-hLn];rfl⟩,by rw[<-HR.out];exact h3⟩
  have HEX:Hid (exP rs ls x k=Rk.exL x (L-k.toNat) ls):=hid (by unfold exP;rw[hL];show Rk.exL x (l.length-k.toNat) ls=_;rw[hLn])
  rw[hL] at HFIN
  simp only[oN] at HFIN ⊢
  rw[HEX.out] at HFIN ⊢
  rw[hLn] at hll
  have hL9:L<=1000000:=by omega
  unfold sV at hlg2 ⊢
  clear hlg hL hLn HE0
  have key:∀ (K:Int),0<=K->K<=9223372036854775807->K.toNat=k.toNat->Hid (((L:Int)-K).toNat=L-k.toNat):=fun K h1 h2 h3=>hid (by omega)
  by_cases hneg:k<0
  ·have HKY:=key 0 (by omega) (by omega) (by omega)
   go_enter Tryz.func27,Tryz.ntmps27
   go_wp2_with (go_at_call 36;refine hlg2.mono ?_;rintro e w1 ⟨⟨va,vc,rfl⟩,hb⟩;have B1:=hid hb;clear hb)
   go_loopg [9,10,11] N (fun q dv ov iv wr=>∃ (i:Nat) (u:Value) (out:List Ex) (d:Int),iv=.int .i64 i/\u=ov/\dv=.int .i64 d/\q=N-i/\i<=N/\out.length<=i/\d<=1000000/\-9223372036854775807<=d/\Hid (Bx yz 46 141 w wr r u out)/\Hid (out++Rk.exL x d.toNat (ls.drop i)=Rk.exL x (L-k.toNat) ls))
   case atStart=>exact⟨0,_,[],(L:Int),rfl,rfl,by first | rfl | simp,rfl,Nat.zero_le _,by simp,by omega,by omega,hid (HB0.out _ B1.out),hid (by
    have hh:=HKY.out
    simp only[List.nil_append,List.drop_zero]
    first
     | exact congrArg (fun n=>Rk.exL x n ls) hh
     | (simp only[Int.sub_zero] at hh;exact congrArg (fun n=>Rk.exL x n ls) hh))⟩
   case round =>
    obtain⟨i,u,out,d,rfl,hu,rfl,hq,hin,hol,hd1,hd2,HB,HO⟩:=hrel
    subst hu
    obtain⟨k1,k2,k3⟩:=HST.out wr HB.out.below
    obtain⟨ua,uc,hus⟩:=zZ HB.out.own
    obtain⟨un,hun⟩:∃ n,out.length=n:=⟨_,rfl⟩
    rw[hun] at hus
    subst hus
    by_cases hlt:i<N
    ·have hlti:(i:Int)<(N:Int):=by omega
     obtain⟨b,off,hae,_,_⟩:=k2.at_ (by rw[HN.out];omega)
     subst hae
     obtain⟨y,hy⟩:∃ y,(ls.getD i dE).1=y:=⟨_,rfl⟩
     obtain⟨EL,hEL⟩:∃ EL,yz (ls.getD i dE)=EL:=⟨_,rfl⟩
     have HRE:Hid (ExOk (ls.getD i dE)):=hid (HOK.out _ (zK ls i dE (by rw[HN.out];exact hlt)))
     have HIE:Hid ((Tryz.prog.info? 141).map (·.size)=some EL.length):=hid (by rw[<-hEL,yy HRE.out];kernel_rfl)
     have HBSE:Hid (∀ W:World,(Instr.buildSlice 29 1 #[(0,.agg EL.toArray)]).run Tryz.prog W=.ok (.slice (some ⟨W.heap.size,0,none⟩) 1 1) (W.alloc (.cells EL.toArray 141))):=fun W=>by rw[<-hEL];exact QJ _ HRE.out W
     have HPOE:Hid (∀ W:World,Px yz 46 dE (W.alloc (.cells EL.toArray 141)) (some ⟨W.heap.size,0,none⟩) 1 [ls.getD i dE]):=fun W=>by
      have:=yu (enc:=yz) (d:=dE) W (ls.getD i dE) 141
      rw[yy HRE.out,hEL] at this
      exact this
     have HRG:Hid (wr.rangeAt b (off+i*46) EL):=hid (by
      obtain⟨_,_,e1,_,e3⟩:=k2.at_ (by rw[HN.out];omega)
      cases e1
      rw[<-hEL]
      exact e3 i (by rw[HN.out];exact hlt))
     have k7:wr.cell? ⟨b,off+i*46,none⟩=some (sV y):=HRG.out 0 (sV y) (by rw[<-hEL,<-hy];rfl)
     have HDR:Hid (ls.drop i=ls.getD i dE :: ls.drop (i+1)):=hid (by
      rw[List.drop_eq_getElem_cons (by rw[HN.out];exact hlt),List.getD_eq_getElem?_getD,List.getElem?_eq_getElem (by rw[HN.out];exact hlt)]
      rfl)
     have HTK:Hid (ls.take (i+1)=ls.take i++[ls.getD i dE]):=hid (qj dE ls i (by rw[HN.out];exact hlt))
     have HY1:Hid ((ls.getD i dE).1=y):=hid hy
     have HLL:Hid (out.length + [ls.getD i dE].length<=1000000000):=hid (by simp;omega)
     have HB10:Hid (Bx yz 46 141 w (wr.alloc (.cells EL.toArray 141)) r (.slice ua un uc) out):=hid (HB.out.alloc _)
     unfold sV at k7
     clear hy hEL k2 hun
     by_cases hyx:y=x
     ·subst hyx
      by_cases hd:0<d
      ·go_wp2
       go_roundg (N-(i+1))
       case measure=>omega
       case rel=>exact⟨i+1,_,out,d-1,by go_num,rfl,by first | rfl | go_num,rfl,by omega,by omega,by omega,by omega,HB,hid (by
        rw[<-HO.out,HDR.out,show d.toNat=(d-1).toNat+1 by omega,exL_hit _ _ _ _ HY1.out])⟩
      ·have hd0:¬ d > 0:=hd
       have HDZ:Hid (d.toNat=0):=hid (by omega)
       go_wp2_with (first
        | (refine wpList_load_mid rfl 141 (.tmp 58) rfl _ _ rfl EL _ HRG.out Tryz.underlying141 rfl HIE.out ?_;go_frame)
        | (refine z8 rfl _ (zY 29 (.tmp 59) rfl (.agg EL.toArray) _ rfl (HBSE.out _)) ?_;go_frame)
        | (at_builtin;refine zj (enc:=yz) (k:=46) (d:=dE) rfl _ _ 29 141 XJ jv z141 (by decide) (by decide) j6 rfl r (.slice ua un uc) out rfl HB10.out (some ⟨wr.heap.size,0,none⟩) 1 [ls.getD i dE] rfl (HPOE.out wr) (fun z hz=>by rw[List.mem_singleton.1 hz];exact yy HRE.out) HLL.out ?_;intro v3 w3 hb3 hg3 hm3;have HB3:=hid hb3;clear hb3 hg3 hm3))
       go_roundg (N-(i+1))
       case measure=>omega
       case rel=>exact⟨i+1,_,out++[ls.getD i dE],d,by go_num,rfl,rfl,rfl,by omega,by simp;omega,hd1,hd2,HB3,hid (by
        rw[<-HO.out,HDR.out,HDZ.out,exL_keep _ _ _ HY1.out]
        simp)⟩
     ·have hne:(y == x)=false:=by simpa using hyx
      go_wp2_with (first
       | (refine wpList_load_mid rfl 141 (.tmp 58) rfl _ _ rfl EL _ HRG.out Tryz.underlying141 rfl HIE.out ?_;go_frame)
       | (refine z8 rfl _ (zY 29 (.tmp 59) rfl (.agg EL.toArray) _ rfl (HBSE.out _)) ?_;go_frame)
       | (at_builtin;refine zj (enc:=yz) (k:=46) (d:=dE) rfl _ _ 29 141 XJ jv z141 (by decide) (by decide) j6 rfl r (.slice ua un uc) out rfl HB10.out (some ⟨wr.heap.size,0,none⟩) 1 [ls.getD i dE] rfl (HPOE.out wr) (fun z hz=>by rw[List.mem_singleton.1 hz];exact yy HRE.out) HLL.out ?_;intro v3 w3 hb3 hg3 hm3;have HB3:=hid hb3;clear hb3 hg3 hm3))
      go_roundg (N-(i+1))
      case measure=>omega
      case rel=>exact⟨i+1,_,out++[ls.getD i dE],d,by go_num,rfl,rfl,rfl,by omega,by simp;omega,hd1,hd2,HB3,hid (by
       rw[<-HO.out,HDR.out,exL_other _ _ _ _ (by rw[HY1.out];exact hyx)]
       simp)⟩
    ·have hlti:¬ (i:Int)<(N:Int):=by omega
     obtain rfl:i=N:=by omega
     have hlE:out=Rk.exL x (L-k.toNat) ls:=by
      have:=HO.out
      rw[List.drop_of_length_le (by rw[HN.out];exact Nat.le_refl _)] at this
      rw[<-this]
      cases d.toNat <;> simp[Rk.exL]
     obtain⟨f1,f3⟩:=HFIN.out wr _ out HB.out hlE (fun z hz=>HOK.out z (by rw[hlE] at hz;exact exL_mem x ls _ z hz)) (by omega)
     have F3:=hid f3
     clear f3 hlE k1 k2 hun
     go_wp2
     exact bodyPost_ret (results_tmp Tryz.results27 _ _ _) rfl ⟨rfl,F3.out⟩
  ·have hnn:0<=k:=by omega
   have hwr:IntKind.i64.wrap ((L:Int)-k)=(L:Int)-k:=by rw[IntKind.wrap_i64];omega
   have HKY:=key k hnn hk2 rfl
   go_enter Tryz.func27,Tryz.ntmps27
   go_wp2_with (go_at_call 36;refine hlg2.mono ?_;rintro e w1 ⟨⟨va,vc,rfl⟩,hb⟩;have B1:=hid hb;clear hb)
   go_loopg [9,10,11] N (fun q dv ov iv wr=>∃ (i:Nat) (u:Value) (out:List Ex) (d:Int),iv=.int .i64 i/\u=ov/\dv=.int .i64 d/\q=N-i/\i<=N/\out.length<=i/\d<=1000000/\-9223372036854775807<=d/\Hid (Bx yz 46 141 w wr r u out)/\Hid (out++Rk.exL x d.toNat (ls.drop i)=Rk.exL x (L-k.toNat) ls))
   case atStart=>exact⟨0,_,[],((L:Int)-k),rfl,rfl,by first | rfl | simp,rfl,Nat.zero_le _,by simp,by omega,by omega,hid (HB0.out _ B1.out),hid (by
    have hh:=HKY.out
    simp only[List.nil_append,List.drop_zero]
    first
     | exact congrArg (fun n=>Rk.exL x n ls) hh
     | (simp only[Int.sub_zero] at hh;exact congrArg (fun n=>Rk.exL x n ls) hh))⟩
   case round =>
    obtain⟨i,u,out,d,rfl,hu,rfl,hq,hin,hol,hd1,hd2,HB,HO⟩:=hrel
    subst hu
    obtain⟨k1,k2,k3⟩:=HST.out wr HB.out.below
    obtain⟨ua,uc,hus⟩:=zZ HB.out.own
    obtain⟨un,hun⟩:∃ n,out.length=n:=⟨_,rfl⟩
    rw[hun] at hus
    subst hus
    by_cases hlt:i<N
    ·have hlti:(i:Int)<(N:Int):=by omega
     obtain⟨b,off,hae,_,_⟩:=k2.at_ (by rw[HN.out];omega)
     subst hae
     obtain⟨y,hy⟩:∃ y,(ls.getD i dE).1=y:=⟨_,rfl⟩
     obtain⟨EL,hEL⟩:∃ EL,yz (ls.getD i dE)=EL:=⟨_,rfl⟩
     have HRE:Hid (ExOk (ls.getD i dE)):=hid (HOK.out _ (zK ls i dE (by rw[HN.out];exact hlt)))
     have HIE:Hid ((Tryz.prog.info? 141).map (·.size)=some EL.length):=hid (by rw[<-hEL,yy HRE.out];kernel_rfl)
     have HBSE:Hid (∀ W:World,(Instr.buildSlice 29 1 #[(0,.agg EL.toArray)]).run Tryz.prog W=.ok (.slice (some ⟨W.heap.size,0,none⟩) 1 1) (W.alloc (.cells EL.toArray 141))):=fun W=>by rw[<-hEL];exact QJ _ HRE.out W
     have HPOE:Hid (∀ W:World,Px yz 46 dE (W.alloc (.cells EL.toArray 141)) (some ⟨W.heap.size,0,none⟩) 1 [ls.getD i dE]):=fun W=>by
      have:=yu (enc:=yz) (d:=dE) W (ls.getD i dE) 141
      rw[yy HRE.out,hEL] at this
      exact this
     have HRG:Hid (wr.rangeAt b (off+i*46) EL):=hid (by
      obtain⟨_,_,e1,_,e3⟩:=k2.at_ (by rw[HN.out];omega)
      cases e1
      rw[<-hEL]
      exact e3 i (by rw[HN.out];exact hlt))
     have k7:wr.cell? ⟨b,off+i*46,none⟩=some (sV y):=HRG.out 0 (sV y) (by rw[<-hEL,<-hy];rfl)
     have HDR:Hid (ls.drop i=ls.getD i dE :: ls.drop (i+1)):=hid (by
      rw[List.drop_eq_getElem_cons (by rw[HN.out];exact hlt),List.getD_eq_getElem?_getD,List.getElem?_eq_getElem (by rw[HN.out];exact hlt)]
      rfl)
     have HTK:Hid (ls.take (i+1)=ls.take i++[ls.getD i dE]):=hid (qj dE ls i (by rw[HN.out];exact hlt))
     have HY1:Hid ((ls.getD i dE).1=y):=hid hy
     have HLL:Hid (out.length + [ls.getD i dE].length<=1000000000):=hid (by simp;omega)
     have HB10:Hid (Bx yz 46 141 w (wr.alloc (.cells EL.toArray 141)) r (.slice ua un uc) out):=hid (HB.out.alloc _)
     unfold sV at k7
     clear hy hEL k2 hun
     by_cases hyx:y=x
     ·subst hyx
      by_cases hd:0<d
      ·go_wp2
       go_roundg (N-(i+1))
       case measure=>omega
       case rel=>exact⟨i+1,_,out,d-1,by go_num,rfl,by first | rfl | go_num,rfl,by omega,by omega,by omega,by omega,HB,hid (by
        rw[<-HO.out,HDR.out,show d.toNat=(d-1).toNat+1 by omega,exL_hit _ _ _ _ HY1.out])⟩
      ·have hd0:¬ d > 0:=hd
       have HDZ:Hid (d.toNat=0):=hid (by omega)
       go_wp2_with (first
        | (refine wpList_load_mid rfl 141 (.tmp 58) rfl _ _ rfl EL _ HRG.out Tryz.underlying141 rfl HIE.out ?_;go_frame)
        | (refine z8 rfl _ (zY 29 (.tmp 59) rfl (.agg EL.toArray) _ rfl (HBSE.out _)) ?_;go_frame)
        | (at_builtin;refine zj (enc:=yz) (k:=46) (d:=dE) rfl _ _ 29 141 XJ jv z141 (by decide) (by decide) j6 rfl r (.slice ua un uc) out rfl HB10.out (some ⟨wr.heap.size,0,none⟩) 1 [ls.getD i dE] rfl (HPOE.out wr) (fun z hz=>by rw[List.mem_singleton.1 hz];exact yy HRE.out) HLL.out ?_;intro v3 w3 hb3 hg3 hm3;have HB3:=hid hb3;clear hb3 hg3 hm3))
       go_roundg (N-(i+1))
       case measure=>omega
       case rel=>exact⟨i+1,_,out++[ls.getD i dE],d,by go_num,rfl,rfl,rfl,by omega,by simp;omega,hd1,hd2,HB3,hid (by
        rw[<-HO.out,HDR.out,HDZ.out,exL_keep _ _ _ HY1.out]
        simp)⟩
     ·have hne:(y == x)=false:=by simpa using hyx
      go_wp2_with (first
       | (refine wpList_load_mid rfl 141 (.tmp 58) rfl _ _ rfl EL _ HRG.out Tryz.underlying141 rfl HIE.out ?_;go_frame)
       | (refine z8 rfl _ (zY 29 (.tmp 59) rfl (.agg EL.toArray) _ rfl (HBSE.out _)) ?_;go_frame)
       | (at_builtin;refine zj (enc:=yz) (k:=46) (d:=dE) rfl _ _ 29 141 XJ jv z141 (by decide) (by decide) j6 rfl r (.slice ua un uc) out rfl HB10.out (some ⟨wr.heap.size,0,none⟩) 1 [ls.getD i dE] rfl (HPOE.out wr) (fun z hz=>by rw[List.mem_singleton.1 hz];exact yy HRE.out) HLL.out ?_;intro v3 w3 hb3 hg3 hm3;have HB3:=hid hb3;clear hb3 hg3 hm3))
      go_roundg (N-(i+1))
      case measure=>omega
      case rel=>exact⟨i+1,_,out++[ls.getD i dE],d,by go_num,rfl,rfl,rfl,by omega,by simp;omega,hd1,hd2,HB3,hid (by
       rw[<-HO.out,HDR.out,exL_other _ _ _ _ (by rw[HY1.out];exact hyx)]
       simp)⟩
    ·have hlti:¬ (i:Int)<(N:Int):=by omega
     obtain rfl:i=N:=by omega
     have hlE:out=Rk.exL x (L-k.toNat) ls:=by
      have:=HO.out
      rw[List.drop_of_length_le (by rw[HN.out];exact Nat.le_refl _)] at this
      rw[<-this]
      cases d.toNat <;> simp[Rk.exL]
     obtain⟨f1,f3⟩:=HFIN.out wr _ out HB.out hlE (fun z hz=>HOK.out z (by rw[hlE] at hz;exact exL_mem x ls _ z hz)) (by omega)
     have F3:=hid f3
     clear f3 hlE k1 k2 hun
     go_wp2
     exact bodyPost_ret (results_tmp Tryz.results27 _ _ _) rfl ⟨rfl,F3.out⟩
end Go.Proofs.YtgliaiemkfopeaaGreatDoor.K
namespace Go.Proofs.YtgliaiemkfopeaaGreatDoor.Rk
def clP (ns:List (List UInt8)):Prop := ∃ b ∈ ns,∃ i,b[i]? = some 47/\b.take i ∈ ns
def clD (ns:List (List UInt8)):Prop := ∃ a ∈ ns,∃ b ∈ ns,(a++[47]).length<b.length/\b.take (a++[47]).length=a++[47]
theorem cl_iff (ns:List (List UInt8)) (h:∀ b ∈ ns,b.getLast? ≠ some 47):clP ns ↔ clD ns:=by
 constructor
 ·rintro⟨b,hb,i,hi,ha⟩
  have hlt:i<b.length:=by
   rw[List.getElem?_eq_some_iff] at hi
   exact hi.1
  have hne:i+1 ≠ b.length:=by
   intro hh
   apply h b hb
   rw[List.getLast?_eq_getElem?,<-hh]
   exact hi
  have hlen:(b.take i).length=i:=by rw[List.length_take];omega
  refine⟨b.take i,ha,b,hb,?_,?_⟩
  ·rw[List.length_append,hlen]
   simp only[List.length_cons,List.length_nil]
   omega
  ·rw[List.length_append,hlen]
   simp only[List.length_cons,List.length_nil,Nat.zero_add]
   rw[List.take_add_one,hi]
   rfl
 ·rintro⟨a,ha,b,hb,hl,ht⟩
  refine⟨b,hb,a.length,?_,?_⟩
  ·have h1:(b.take (a++[47]).length)[a.length]? = some 47:=by rw[ht];simp
   rw[List.getElem?_take] at h1
   simpa using h1
  ·have h2:(b.take (a++[47]).length).take a.length=a:=by rw[ht];simp
   rw[List.take_take,List.length_append] at h2
   rw[show min a.length (a.length+([47] : List UInt8).length)=a.length by omega] at h2
   rw[h2]
   exact ha
def blk (hd:List UInt8->List UInt8) (l:List UInt8):List UInt8:=hd l++l
def rdF {τ:Type} (cut:List UInt8->Option (List UInt8 × List UInt8)) (go:τ->List UInt8->Option τ):Nat->τ->List UInt8->Option τ
 | 0,t,b=>if b=[] then some t else none
 | n+1,t,b=>if b=[] then some t else (cut b).bind fun x=>(go t x.1).bind fun t'=>rdF cut go n t' x.2
end Go.Proofs.YtgliaiemkfopeaaGreatDoor.Rk
