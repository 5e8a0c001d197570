import Derived.Test.YtdnphaganajejaaGreatDoorMz45
import Derived.Test.YtdnphaganajejaaGreatDoorMz31
set_option linter.unusedSimpArgs false
set_option linter.unusedVariables false
set_option maxRecDepth 20000
set_option maxHeartbeats 4000000
open List renaming length_zip->Wv2,mem_cons->Wqj,mem_map->Wz6,size_toArray->Wyu
open Nat renaming le_refl->Wz8,zero_add->Wzz
namespace Go.Proofs.YtdnphaganajejaaGreatDoor.K
open Go.Proofs.Tryz
open Go.RowKit
theorem results19:f19.results=#[.tmp 8]:=by kernel_rfl
def j6 (p:Per) (tx:Str) (m:Mv1):Le:=⟨m.old,m.new,p,tx⟩
def stU (p:Per) (tx:Str) (ys:List (List Str × Mv1)):List Sp:=ys.flatMap fun y=>chg y.1 (j6 p tx y.2)
def idT (T:Ts) (x:Str):List Int:=((T x).map (·.id)).getD zZ
def UpX (S XE:Nat->Prop) (N D R:Nat) (f:Fq) (n:Nat) (T:Ts) (ms:List Mv1) (p:Per) (tx:Str) (ls:List (List Str)) (w:World) (e:Ending) (w':World):Prop :=
 (∃ i,i<ms.length/\(∀ j,j<i->idT T (enW (ls.getD j []))=(ms.getD j dMv).old)/\idT T (enW (ls.getD i [])) ≠ (ms.getD i dMv).old/\Gu 62 w e w') ∨
 ((∀ j,j<ms.length->idT T (enW (ls.getD j []))=(ms.getD j dMv).old)/\((clA (fun z=>(stF (aT T) (stU p tx (ls.zip ms)) z).isSome)/\Gu 63 w e w') ∨ (¬ clA (fun z=>(stF (aT T) (stU p tx (ls.zip ms)) z).isSome)/\((¬ okG p tx/\Gu 125 w e w') ∨ (okG p tx/\kY S XE N D R f n T (n+(stU p tx (ls.zip ms)).length) (FsA f (stU p tx (ls.zip ms))) (stF (aT T) (stU p tx (ls.zip ms))) w e w')))))
def kw (S XE:Nat->Prop) (N D R:Nat) (f:Fq) (n:Nat) (T:Ts) (ms:List Mv1) (p:Per) (tx:Str) (w:World) (e:Ending) (w':World):Prop:=M7 (wyT T 8) (ms.map (·.name)) (fun k=>Gu k w e w') (fun ls=>UpX S XE N D R f n T ms p tx ls w e w')
theorem WW {S XE:Nat->Prop} {N D R:Nat} {f:Fq} {n:Nat} {T:Ts} {ms:List Mv1} {p:Per} {tx:Str} {w:World} {e:Ending} {w':World} (h:kw S XE N D R f n T ms p tx w e w'):∃ v,e=.returned v:=by
 rcases h with ⟨_,_,_,⟨_,h,_⟩ | ⟨_,_,h,_⟩⟩ | ⟨_,_,⟨_,h,_⟩ | ⟨_,⟨_,_,_,_,h,_⟩ | ⟨_,⟨_,h,_⟩ | ⟨_,⟨_,h,_⟩ | ⟨_,h⟩⟩⟩⟩⟩ <;> first | exact⟨_,h⟩ | exact h.ret
theorem zuZ:∀ (l:List Sp) (m:Rk.Tb Str Kp Le),StG m l->∀ s ∈ l,vV s
 | [],_,_,s,hs=>by cases hs
 | x :: l,m,h,s,hs=>by
  rcases Wqj.1 hs with rfl | hs
  ·exact h.1
  exact zuZ l _ h.2.2 s hs
structure UpOk (T:Ts) (ms:List Mv1) (p:Per) (tx:Str) (ls:List (List Str)):Prop where
 few:okG p tx->∀ T',aT T'=stF (aT T) (stU p tx (ls.zip ms))->Few T'
 g:StG (aT T) (stU p tx (ls.zip ms))
 lo:∀ z,(stF (aT T) (stU p tx (ls.zip ms)) z).isSome=true->∀ b ∈ z,b<128
 st:okG p tx->(∀ s ∈ stU p tx (ls.zip ms),StL s)/\(wrL (stU p tx (ls.zip ms))).length<=280000000
theorem Ik (l:List Str) (e:Le):(chg l e).length<=l.length+1:=by
 unfold chg;split <;> simp
theorem qj3 (l:List Str) (e:Le) (h:vY e) (j:∀ x ∈ l,x.length<=60) (h0:0<l.length):∀ s ∈ chg l e,vV s:=fun s hs=>by
 have A:=j _ (uQ l h0);unfold chg at hs;split at hs
 ·rcases Wqj.1 hs with rfl | hs
  ·exact⟨yz.1,yz,A,by simp⟩
  obtain⟨x,hx,rfl⟩:=Wz6.1 hs;exact Xu (j x (List.dropLast_subset _ hx)) h
 rcases Wqj.1 hs with rfl | hs
 ·exact⟨h.2,yz,A,by simp⟩
 obtain⟨x,hx,rfl⟩:=Wz6.1 hs;exact Xu (j x hx) h
structure Qu (R t wb wo K:Nat) (va:Option Addr) (vn vc:Nat) (O Nw:List Value) (W:World):Prop where
 c0:W.cell? ⟨R,1,none⟩=some (.map (some t))
 c1:W.cell? ⟨wb,wo,none⟩=some (.slice va vn vc)
 r1:W.rangeAt K 1 O
 r21:W.rangeAt K 21 Nw
structure Qv (R t wb wo K:Nat) (va:Option Addr) (vn vc:Nat) (O Nw:List Value) (Z:ByteArray) (A:Array Value) (W:World):Prop extends Qu R t wb wo K va vn vc O Nw W where
 lk:(Instr.lookup 56 (.map (some t)) (.string Z) false).run prog W=.ok (.agg A) W
structure Qw (wb wo K r:Nat) (va:Option Addr) (vn vc:Nat) (O Nw PV:List Value) (W:World):Prop where
 c1:W.cell? ⟨wb,wo,none⟩=some (.slice va vn vc)
 r1:W.rangeAt K 1 O
 r21:W.rangeAt K 21 Nw
 rp:W.rangeAt r 0 PV
theorem qqY {S:Nat->Prop} {w:World} {t n:Nat} {T:Ts} (h:Tt S w t n T) {x:Str} (hx:x.length<=4000):∃ A I,(.agg (row .u8 (idT T x)).toArray:Value)=.agg I/\(idT T x).length=20/\(∀ W:World,(Instr.field 129 (.agg A) 0).run prog W=.ok (.agg I) W)/\(∀ W,Below w.heap.size w W->(Instr.lookup 56 (.map (some t)) (sV x) false).run prog W=.ok (.agg A) W):=by
 have L:=fun W (G:Below w.heap.size w W)=>(h.below G).tm.look1 xX (j7 W) hx;obtain⟨q,K,j,hv⟩:∃ q:Lr,idT T x=q.id/\q.id.length=20/\(vT T x).getD (rV r0)=rV q:=by
  cases D:T x with
  | none=>exact⟨r0,by simp[idT,D,r0],rfl,by simp[vT,D]⟩
  | some q=>exact⟨q,by simp[idT,D],(h.at_ x q D).id.1,by simp[vT,D]⟩
 obtain⟨A,J⟩:=ra q j;exact⟨A,(row .u8 q.id).toArray,by rw[K],by rw[K];exact j,fun W=>by rw[<-J.out.e];exact(Kv q j W).1,fun W G=>by rw[L W G,hv,J.out.e]⟩
theorem Au (S XE:Nat->Prop) (N D R:Nat) (w:World) (f:Fq) (t n:Nat) (T:Ts) (a:Option Addr) (c:Nat) (ms:List Mv1) (p:Per) (tx:Str) (h:Pw S XE N D R w f t n T) (hP:Px qj 41 dMv w a c ms) (bn:∀ m ∈ ms,xu m) (dj:ms.length<=20) (cp:tx.length<=1000000) (hN:N<=70000) (hn:n<=70000)
  (hU:∀ ls,Wl (wyT T 8) (ms.map (·.name)) ls->(ls.map enW).Nodup->UpOk T ms p tx ls) (ht:Tab w) (c6:Db w) (bm:Mx w) :
  Calls prog 19 #[.pointer (some ⟨R,0,none⟩),.slice a ms.length c,.agg (x8 p),sV tx] w (kw S XE N D R f n T ms p tx w):=by
 obtain⟨r,HR⟩:=nm_ w.heap.size;obtain⟨L,HL⟩:=nm_ ms.length;have dz:L<=20:=by rw[<-HL.out];exact dj
 obtain⟨PV,aK⟩:=nm_ (x8 p);have ci:PV.size=4:=by rw[<-aK.out];rfl
 obtain⟨W1,ar⟩:=nm_ (w.alloc (.cells PV 45));have ay:Below r w W1:=by rw[<-ar.out,<-HR.out];exact(Below.refl _ w).alloc (Wz8 _) _
 have dl:W1.heap.size=r+1:=by rw[<-ar.out,<-HR.out];simp
 have hr0:W1.heap[r]? = some (.cells PV 45):=by rw[<-ar.out,<-HR.out];exact heap_alloc_new _ _
 have J:Below w.heap.size w W1:=by rw[HR.out];exact ay
 have h1:=h.below J;have de:=h1.rf.c.2.1;rw[<-ar.out] at de;have dC:=h.rf.c.2.1;have bD:Hid ((prog.info? 45).map (·.size)=some PV.size):=hid (by rw[ci];kernel_rfl);obtain⟨X,HX⟩:=nm_ (⟨tx.toArray⟩:ByteArray)
 have cz:Calls prog 46 #[.map (some t),.slice a L c] W1 fun e w2=>∃ va vn vc er,e=.returned (.tuple #[.slice va vn vc,er])/\((∃ k,er=eI k/\kw S XE N D R f n T ms p tx w (.returned er) w2) ∨ (er=.nilIface/\∃ ls xs,Wl (wyT T 8) (ms.map (·.name)) ls/\(ls.map enW).Nodup/\Wz W1 w2 (r+1) (.slice va vn vc) xs/\xs.map (·.l)=ls)):=by
  have:=zu8 (SrE S R XE) t n T a c ms W1 h1.tt (hP.below J) bn (by omega) (bm.below J);rw[HL.out] at this;refine this.mono ?_;rintro e w2 (⟨i,q1,q2,q3⟩ | ⟨ls,q1,⟨q2,rfl,q3⟩ | ⟨q2,v,xs,rfl,q3,q4⟩⟩)
  ·rcases q3 with ⟨q4,rfl,q5⟩ | ⟨q4,q6,rfl,q5⟩
   ·exact⟨_,_,_,_,rfl,.inl ⟨60,rfl,.inl ⟨i,q1,q2,.inl ⟨q4,rfl,J.trans (q5.mono J.size)⟩⟩⟩⟩
   exact⟨_,_,_,_,rfl,.inl ⟨64,rfl,.inl ⟨i,q1,q2,.inr ⟨q4,q6,rfl,J.trans (q5.mono J.size)⟩⟩⟩⟩
  ·exact⟨_,_,_,_,rfl,.inl ⟨60,rfl,.inr ⟨ls,q1,.inl ⟨q2,rfl,J.trans (q3.mono J.size)⟩⟩⟩⟩
  obtain⟨va,vc,rfl⟩:=zu q3.bx.own;rw[dl] at q3;exact⟨va,_,vc,_,rfl,.inr ⟨rfl,ls,xs,q1,q2,q3,q4⟩⟩
 have HH:=hid h;have cP:=hid hP;have cO:=hid bn;have HU:=hid hU;have aU:=hid ht;have bA:=hid c6;have cN:=hid bm;have cX:=hid cp;have cS:=hid hr0;have cD:=hid ay;rw[HL.out,aK.out];unfold sV;rw[HX.out];clear h hP bn hU ht c6 bm J h1 cp hr0 ay;go_enter func19,ntmps19;go_wp2_with (first
  | (go_at_call 46;rw[ar.out];refine cz.mono ?_;rintro e w2 ⟨va,vn,vc,er,rfl,hX⟩;have cY:=hid hX;clear hX;refine Hid.out ?_))
 refine hid ?_;rcases cY.out with ⟨k,rfl,aX⟩ | ⟨rfl,ls,xs,q1,q2,q3,q4⟩
 ·have bq:=hid aX;clear aX;go_wp2;exact bodyPost_ret (results_tmp results19 _ _ _) rfl bq.out
 obtain⟨r2,aL⟩:=nm_ w2.heap.size;have aY:Below r w w2:=cD.out.trans (q3.bx.below.mono (by omega));have dG:r+1<=r2:=by have:=q3.bx.le;have:=aL.out;omega
 have aJ:Hid (ls.length=L):=hid (by rw[q1.1];simp[HL.out]);have ak:Hid (xs.length=L):=hid (by rw[<-aJ.out,<-q4];simp);have dt:vn=L:=by
  obtain⟨_,_,e⟩:=zu q3.bx.own;injection e with _ e _;rw[e,ak.out]
 subst dt;have cV:=hid (HU.out ls q1 q2);have a6:Hid (∀ e W,UpX S XE N D R f n T ms p tx ls w e W->kw S XE N D R f n T ms p tx w e W):=fun e W hx=>.inr ⟨ls,q1,.inr ⟨q2,hx⟩⟩;have au:Hid (∀ W,Below r2 w2 W->Wz W1 W (r+1) (.slice va vn vc) xs):=fun W M=>q3.carry (by rw[aL.out];exact M)
 have aM:Hid (∀ W,Below r2 w2 W->Below r w W):=fun W M=>aY.trans (M.mono (by omega));have b6:Hid (∀ W,Below r w W->Pw S XE N D R W f t n T/\Px qj 41 dMv W a c ms/\Tab W/\Db W/\Mx W):=fun W M=>by
  have ax:Below w.heap.size w W:=by rw[HR.out];exact M
  exact⟨HH.out.below ax,cP.out.below ax,aU.out.below ax,bA.out.below ax,cN.out.below ax⟩
 have bI:Hid (∀ W,Below r2 w2 W->W.heap[r]? = some (.cells PV 45)):=fun W M=>(M.block r (by omega)).trans ((q3.bx.below.block r (by omega)).trans cS.out);have cM:Hid (∀ j,j<vn->(xs.getD j dW).l=ls.getD j []/\0<(ls.getD j []).length/\(ls.getD j []).length<=9/\(∀ y ∈ ls.getD j [],y.length<=60)):=fun j hj=>by
  have df:j<xs.length:=by rw[ak.out];exact hj
  have e1:(xs.getD j dW).l=ls.getD j []:=by rw[<-q4];simp[List.getD_eq_getElem?_getD,List.getElem?_eq_getElem df]
  have h5:=q1.2 j (by simp[HL.out];exact hj);obtain⟨g1,g2,g3⟩:=Y7 (T:=T) (fun x q hx=>(HH.out.tt.at_ x q hx).tg) 8 _ _ (qX h5.1) h5.2;exact⟨e1,g1,g2,g3⟩
 have bu:Hid (Bx zJ 68 146 w2 w2 r2 (.slice none 0 0) []):=hid (uk 146 w2 r2 (by rw[aL.out];exact Wz8 _));clear q1 q2 q3 q4 aY;go_wp2;rw[HR.out]
 go_loopg [11,29] vn (fun q ov iv wr=>∃ (i:Nat) (u:Value) (ss:List Sp),iv=.int .i64 i/\u=ov/\q=vn-i/\i<=vn/\ss.length<=10*i/\Hid (Bx zJ 68 146 w2 wr r2 u ss)/\Hid (ss=stU p tx ((ls.zip ms).take i))/\Hid (∀ j,j<i->idT T (enW (ls.getD j []))=(ms.getD j dMv).old));case atStart=>exact⟨0,_,[],rfl,rfl,rfl,Nat.zero_le _,by simp,bu,hid (by simp[stU]),hid (fun j hj=>by omega)⟩
 case round =>
 obtain⟨i,u,ss,rfl,hu,hq,dF,dH,HB,bL,ap⟩:=hrel;subst hu;obtain⟨ua,uc,cv⟩:=zu HB.out.own;obtain⟨un,aG⟩:∃ n,ss.length=n:=⟨_,rfl⟩;rw[aG] at cv;subst cv;have am:=HB.out.below;by_cases Z:i<vn;rotate_left
 ·have ce:¬ (i:Int)<(vn:Int):=by omega
  obtain rfl:i=vn:=by omega
  obtain⟨SF,a7⟩:∃ q,stU p tx (ls.zip ms)=q:=⟨_,rfl⟩;have ad:ss=SF:=by rw[bL.out,List.take_of_length_le (by rw[Wv2,aJ.out,HL.out];omega),a7]
  have cj:=aM.out wr am;have b2:Below w.heap.size w wr:=by rw[HR.out];exact cj
  obtain⟨p1,_,t1,d1,m1⟩:=b6.out wr cj;have dD:=p1.rf.c.2.1;have ao:=cV.out;have cn:∀ s ∈ ss,vV s:=fun s hs=>by
   rw[ad] at hs;exact zuZ SF _ (by rw[<-a7];exact ao.g) s hs
  obtain⟨a5,c5,cb,b8,_,_⟩:=HB.out.px (d:=dS) (fun s hs=>qx (cn s hs));rw[aG] at cb;injection cb with e1 _ e2;subst e1;subst e2
  have bC:Hid (Calls prog 49 #[.map (some t),.slice ua un uc] wr fun e w3=>∃ t',e=.returned (.map (some t'))/\Calls prog 50 #[.map (some t')] w3 fun e4 w4=>∃ b:Bool,e4=.returned (.bool b)/\w4.heap[r]? = some (.cells PV 45)/\(b=true->kw S XE N D R f n T ms p tx w (.returned (.iface 32 (.int .i64 63))) w4)/\(b=false->Calls prog 51 #[.agg PV,.string X] w4 fun e5 w5=>∃ b5:Bool,e5=.returned (.bool b5)/\(b5=false->kw S XE N D R f n T ms p tx w (.returned (.iface 32 (.int .i64 125))) w5)/\(b5=true->Calls prog 52 #[.pointer (some ⟨R,0,none⟩),.slice ua un uc,.map (some t')] w5 (kw S XE N D R f n T ms p tx w)))):=hid (by
   have bO:=Xw (SrE S R XE) t n T ua uc ss wr p1.tt p1.lim b8 (by rw[ad,<-a7];exact ao.g) (by omega);rw[aG] at bO;refine bO.mono ?_;rintro e w3 ⟨t',T',rfl,bV,hA,be⟩;refine⟨t',rfl,?_⟩;rw[ad] at hA;have aW:Below w.heap.size w w3:=b2.trans (be.mono b2.size)
   refine(Yz (SrE S R XE) t' _ T' w3 bV.tt (fun z q hq=>ao.lo z (by rw[a7,<-hA];unfold aT;rw[hq];rfl))).mono ?_;rintro e4 w4 ⟨b,rfl,bg,Y⟩;have az:Below w.heap.size w w4:=aW.trans (Y.mono aW.size);rw[qxZ,hA] at bg;have aR:w4.heap[r]? = some (.cells PV 45):=by
    have h5:=bI.out wr am;have h6:=(be.block r (z7 h5)).trans h5;exact(Y.block r (z7 h6)).trans h6
   refine⟨b,rfl,aR,fun ay=>a6.out _ _ (.inr ⟨by rw[HL.out];exact ap.out,.inl ⟨by rw[a7];exact bg.1 ay,rfl,az⟩⟩),fun bX=>?_⟩;have aZ:¬ clA (fun z=>(stF (aT T) (stU p tx (ls.zip ms)) z).isSome):=fun bZ=>by rw[a7] at bZ;rw[bg.2 bZ] at bX;cases bX
   have b7:=KY p tx cX.out w4;unfold sV at b7;rw[aK.out,HX.out] at b7;refine b7.mono ?_;rintro e5 w5 ⟨dc,bf⟩;have ah:Below w.heap.size w w5:=az.trans (bf.mono az.size);rcases Zq dc with ⟨hk,he⟩ | ⟨hk,he⟩
   ·refine⟨true,he,fun h=>(by cases h),fun _=>?_⟩;obtain⟨g1,g2⟩:=ao.st hk;rw[a7] at g1 g2
    have bP:=V7 S XE N D R w w5 f t n t' _ T T' ua uc ss HH.out ah (bV.tt.below (Y.trans (bf.mono Y.size))) hN (by omega) (ao.few hk T' (by rw[a7];exact hA)) ((b8.below be).below (Y.trans (bf.mono Y.size))) (by rw[ad];exact g1) (by rw[ad];exact g2) (by omega) (aU.out.below ah) (bA.out.below ah);rw[aG] at bP;refine bP.mono ?_;intro e6 w6 h6
    refine a6.out _ _ (.inr ⟨by rw[HL.out];exact ap.out,.inr ⟨aZ,.inr ⟨hk,?_⟩⟩⟩);rw[a7,<-ad,aG];rw[hA,<-ad] at h6;exact h6
   exact⟨false,he,fun _=>a6.out _ _ (.inr ⟨by rw[HL.out];exact ap.out,.inr ⟨aZ,.inl ⟨hk,rfl,ah⟩⟩⟩),fun h=>(by cases h)⟩)
  clear p1 t1 d1 m1 ao b8 ad;go_wp2_with (first
   | (go_at_call 49;refine bC.out.mono ?_;rintro e w3 ⟨t',rfl,bN⟩;have cC:=hid bN;clear bN)
   | (go_at_call 50;refine cC.out.mono ?_;rintro e w4 ⟨b4,rfl,aR,k1,k2⟩;have cK:=hid aR;have K1:=hid k1;have K2:=hid k2;clear aR k1 k2;refine Hid.out ?_))
  refine hid ?_;cases b4 with
  | true =>
   go_wp2;exact bodyPost_ret (results_tmp results19 _ _ _) rfl (K1.out (by simp))
  | false =>
   have d6:=K2.out (by simp);go_wp2_with (first
    | (refine zX rfl 45 (.tmp 6) rfl r PV 45 (0,0) _ rfl cK.out underlying45 rfl bD.out ?_;go_frame)
    | (go_at_call 51;refine d6.mono ?_;rintro e w5 ⟨b5,rfl,k1,k2⟩;have d0:=hid k1;have d5:=hid k2;clear k1 k2;refine Hid.out ?_))
   refine hid ?_;cases b5 with
   | false =>
    go_wp2;exact bodyPost_ret (results_tmp results19 _ _ _) rfl (d0.out (by simp))
   | true =>
    have da:=d5.out (by simp);go_wp2_with (go_at_call 52;refine da.mono ?_;rintro e w6 k6;obtain⟨v6,dr⟩:∃ v,e=.returned v:=WW k6;subst dr;have K6:=hid k6;clear k6)
    exact bodyPost_ret (results_tmp results19 _ _ _) rfl K6.out
 have ce:(i:Int)<(vn:Int):=by omega
 obtain⟨p1,px1,_⟩:=b6.out wr (aM.out wr am);obtain⟨b,off,dd,_,_⟩:=px1.at_ (by rw[HL.out];omega);subst dd;obtain⟨wb,wo,wc,aH,_,_⟩:=(au.out wr am).at (i:=i) (by rw[ak.out];exact Z);injection aH with e1 e3 e2;clear e3;subst e1;subst e2;have a8:xu (ms.getD i dMv):=cO.out _ (zQ ms i dMv (by rw[HL.out];exact Z));obtain⟨cw,aD,dh,aj⟩:=cM.out i Z
 obtain⟨l,hl⟩:∃ l,ls.getD i []=l:=⟨_,rfl⟩;rw[hl] at cw aD dh aj;obtain⟨xa,xc,bp⟩:∃ xa xc,xs.getD i dW=⟨xa,xc,l⟩:=⟨(xs.getD i dW).a,(xs.getD i dW).c,by rw[<-cw]⟩;obtain⟨m,hm⟩:∃ m,ms.getD i dMv=m:=⟨_,rfl⟩;rw[hm] at a8;obtain⟨z,hz⟩:∃ z,enW l=z:=⟨_,rfl⟩;have dy:z.length<=60:=by rw[<-hz];exact aj _ (uQ l aD)
 obtain⟨EL,ag⟩:∃ EL,qj m=EL:=⟨_,rfl⟩;have av:EL.length=41:=by rw[<-ag];exact j5 a8
 have cH:Hid ((prog.info? 118).map (·.size)=some EL.length):=hid (by rw[av];kernel_rfl);have cG:Hid ((prog.info? 118).map (·.size)=some EL.toArray.size):=hid (by rw[Wyu,av];kernel_rfl);have cT:Hid (wr.rangeAt b (off+i*41) EL):=hid (by
  obtain⟨_,_,e1,_,e3⟩:=px1.at_ (by rw[HL.out];omega);cases e1
  rw[<-ag,<-hm];exact e3 i (by rw[HL.out];exact Z))
 have bG:Hid (EL.toArray.all (·.oneCell')=true):=hid (by rw[<-ag];exact all_oneCell_toArray (ZX _));have cZ:Hid ((41:Nat)=EL.toArray.size):=hid (by rw[Wyu,av]);obtain⟨V,HV⟩:=nm_ (wr.alloc (.cells EL.toArray 118));obtain⟨K,HK⟩:=nm_ wr.heap.size;have bR:r2<=K:=by have:=am.size;have:=aL.out;have:=HK.out;omega
 have bY:Below K wr V:=by rw[<-HV.out,<-HK.out];exact(Below.refl _ wr).alloc (Wz8 _) _
 have cm:V.heap.size=K+1:=by rw[<-HV.out,<-HK.out];simp
 have bj:V.heap[K]? = some (.cells EL.toArray 118):=by rw[<-HV.out,<-HK.out];exact heap_alloc_new _ _
 obtain⟨O,hO⟩:∃ O,row .u8 m.old=O:=⟨_,rfl⟩;obtain⟨Nw,aO⟩:∃ O,row .u8 m.new=O:=⟨_,rfl⟩;have ac:O.length=20:=by rw[<-hO,zv];exact a8.2.1.1
 have bS:Nw.length=20:=by rw[<-aO,zv];exact a8.2.2.1
 have bF:Hid ((prog.info? 116).map (·.size)=some O.length):=hid (by rw[ac];kernel_rfl);have cI:Hid ((prog.info? 116).map (·.size)=some Nw.length):=hid (by rw[bS];kernel_rfl);obtain⟨ln,aS⟩:∃ n,l.length=n:=⟨_,rfl⟩;have ae:Hid (∀ W,Below (K+1) V W->Below r2 w2 W/\Below wr.heap.size wr W):=fun W M=>by
  have:Below K wr W:=bY.trans (M.mono (by omega));exact⟨am.trans (this.mono bR),by rw[HK.out];exact this⟩
 have cQ:Hid (∀ W,Below (K+1) V W->Qu R t wb (wo+i) K xa ln xc O Nw W):=fun W M=>by
  obtain⟨g1,g2⟩:=ae.out W M;obtain⟨_,_,_,aH,aB,_⟩:=(au.out W g1).at (i:=i) (by rw[ak.out];exact Z);injection aH with e1 _ _;injection e1 with e1;injection e1 with e1 e2 _;subst e1;subst e2;rw[bp] at aB;have cc:=(M.block K (by omega)).trans bj;refine⟨(b6.out W (aM.out W g1)).1.rf.c.2.1,by rw[<-aS];exact aB,fun j v hv=>?_,fun j v hv=>?_⟩
  ·have h2:=zw cc (1+j) v (by
    rw[<-ag];unfold qj;rw[show 1+j=j+1 by omega,List.getElem?_cons_succ,List.getElem?_append_left (by rw[hO];exact(List.getElem?_eq_some_iff.1 hv).1),hO];exact hv)
   rw[Wzz] at h2;exact h2
  have h2:=zw cc (21+j) v (by
   rw[<-ag];unfold qj;rw[show 21+j=(20+j)+1 by omega,List.getElem?_cons_succ,List.getElem?_append_right (by rw[hO,ac];omega),hO,ac,show 20+j-20=j by omega,aO];exact hv)
  rw[Wzz] at h2;exact h2
 obtain⟨ZB,bM⟩:=nm_ (⟨z.toArray⟩:ByteArray);obtain⟨A,I,hI,aV,bi,aF⟩:=qqY p1.tt (x:=z) (by omega);unfold sV at aF;rw[bM.out] at aF;have cR:Hid (∀ W,Below (K+1) V W->Qv R t wb (wo+i) K xa ln xc O Nw ZB A W):=fun W M=>⟨cQ.out W M,aF W (ae.out W M).2⟩
 have bh:∀ W:World,(Op.equalIn 10000 116 (.agg I) (.agg O.toArray)).run prog W=.ok (decide (idT T z=m.old)) W:=fun W=>by rw[<-hI,<-hO];exact KZ 116 Y8 _ _ aV a8.2.1.1 W
 clear hI aV;have bH:Hid (∀ W,Below (K+1) V W->Px eT 1 [] W xa xc l):=fun W M=>by
  obtain⟨_,_,_,_,_,cg⟩:=(au.out W (ae.out W M).1).at (i:=i) (by rw[ak.out];exact Z);rw[bp] at cg;exact cg
 have cA:Hid (∀ W,Below (K+1) V W->Calls prog 47 #[.slice xa ln xc] W fun e w'=>e=.returned (.string ZB)/\w'=W):=fun W M=>by
  have aN:=Kw xa xc l W (bH.out W M) aD (by omega);have:l.getD (l.length-1) []=z:=hz;rw[this,aS] at aN;unfold sV at aN;rw[bM.out] at aN;exact aN
 have bB:=hid ag;have cL:=hid bj;clear p1 px1 bj bY ag;go_wp2_with (first
  | (refine wpList_load_mid rfl 118 (.tmp 32) rfl _ _ rfl EL _ cT.out underlying118 rfl cH.out ?_;go_frame)
  | (refine zq rfl 118 (.tmp 13) (.tmp 33) rfl _ EL.toArray rfl rfl cG.out cZ.out bG.out ?_;rw[HV.out,HK.out];go_frame))
 have aC:Below (K+1) V V.drew:=by rw[<-cm];exact zj _ _ 1
 have aw:=cR.out _ aC;refine wp_region_held_drew (S:=Qv R t wb (wo+i) K xa ln xc O Nw ZB A) (by kernel_rfl) aw (fun G=>?_);have c8:V.drew.heap.size=V.heap.size:=rfl;generalize V.drew=u0 at G aC aw c8 ⊢;iterate 8
  refine qy (v:=?_) G ?_ ?_;rotate_left
  ·rintro w' ⟨⟨c0,c1,_,_⟩,_⟩;go_simp;rfl
  try simp only[Act.put,sL]
 refine qZ (i:=11) (v:=.pointer (some ⟨K,1,none⟩)) G ?_ ?_
 ·intro w' Q;go_simp
 try simp only[Act.put,sL]
 refine qZ (i:=12) (v:=.agg O.toArray) G (fun w' Q=>zY 116 (.tmp 45) rfl K 1 rfl O _ Q.r1 underlying116 rfl bF.out) ?_;try simp only[Act.put,sL]
 refine vk 8 47 [.tmp 41] [.slice xa ln xc] (cA.out u0 aC) ?_;rintro e u1 ⟨rfl,dn⟩;have cu:=dn.symm;subst cu;refine⟨_,rfl,aw,fun G=>?_⟩;try simp only[Act.put,sL]
 refine qZ (i:=9) (v:=.agg A) G (fun w' Q=>QV (mv:=.map (some t)) (kv:=.string ZB) rfl rfl rfl Q.lk) ?_;try simp only[Act.put,sL]
 refine qZ (i:=10) (v:=.agg I) G ?_ ?_
 ·intro w' Q;have dx:=bi w';go_simp
 try simp only[Act.put,sL]
 refine qZ (i:=13) (v:=.bool (!decide (idT T z=m.old))) G ?_ ?_
 ·intro w' Q;have dw:=bh w';go_simp
 try simp only[Act.put,sL]
 refine wpAnyH_done (by kernel_rfl) ?_ _;have cq:u0.heap.size=K+1:=by rw[c8,cm]
 have bW:idT T (enW (ls.getD i []))=idT T z:=by rw[hl,hz]
 by_cases ai:idT T z=m.old;rotate_left
 ·rw[decide_eq_false ai];have HE:Hid (kw S XE N D R f n T ms p tx w (.returned (.iface 32 (.int .i64 62))) u0):=hid (a6.out _ _ (.inl ⟨i,by rw[HL.out];exact Z,ap.out,by rw[bW,hm];exact ai,rfl,by rw[HR.out];exact aM.out _ (ae.out _ aC).1⟩));clear G aw bh bi aF;go_wp2;exact bodyPost_ret (results_tmp results19 _ _ _) rfl HE.out
 rw[decide_eq_true ai];obtain⟨le,bk⟩:∃ e,j6 p tx m=e:=⟨_,rfl⟩;have aE:vY le:=by rw[<-bk];exact⟨a8.2.1,a8.2.2⟩
 obtain⟨E,hE⟩:∃ E,qw le=E:=⟨_,rfl⟩;have cF:Hid (∀ W:World,(Instr.build 133 #[(0,.agg O.toArray),(1,.agg Nw.toArray),(2,.agg PV),(3,.string X)]).run prog W=.ok (.agg E.toArray) W):=fun W=>by
  rw[<-hO,<-aO,<-aK.out,<-hE,<-bk,<-HX.out];exact qxy m.old m.new a8.2.1.1 a8.2.2.1 p ⟨tx.toArray⟩ W
 have bK:Hid (∀ W:World,W.heap[K]? = some (.cells EL.toArray 118)->W.heap[r]? = some (.cells PV 45)->Wz W1 W (r+1) (.slice (some ⟨wb,wo,none⟩) vn vc) xs->Qw wb (wo+i) K r xa ln xc O Nw PV.toList W):=fun W hk hp hw=>by
  obtain⟨_,_,_,aH,aB,_⟩:=hw.at (i:=i) (by rw[ak.out];exact Z);injection aH with e1 _ _;injection e1 with e1;injection e1 with e1 e2 _;subst e1;subst e2;rw[bp] at aB;refine⟨by rw[<-aS];exact aB,fun j v hv=>?_,fun j v hv=>?_,zw (by simpa using hp)⟩
  ·have h2:=zw hk (1+j) v (by
    rw[<-bB.out];unfold qj;rw[show 1+j=j+1 by omega,List.getElem?_cons_succ,List.getElem?_append_left (by rw[hO];exact(List.getElem?_eq_some_iff.1 hv).1),hO];exact hv)
   rw[Wzz] at h2;exact h2
  have h2:=zw hk (21+j) v (by
   rw[<-bB.out];unfold qj;rw[show 21+j=(20+j)+1 by omega,List.getElem?_cons_succ,List.getElem?_append_right (by rw[hO,ac];omega),hO,ac,show 20+j-20=j by omega,aO];exact hv)
  rw[Wzz] at h2;exact h2
 have aI:Hid (∀ W,Below (K+1) V W->W.heap[K]? = some (.cells EL.toArray 118)/\W.heap[r]? = some (.cells PV 45)/\Wz W1 W (r+1) (.slice (some ⟨wb,wo,none⟩) vn vc) xs):=fun W M=>⟨(M.block K (by omega)).trans cL.out,bI.out W (ae.out W M).1,au.out W (ae.out W M).1⟩
 have bJ:Hid (∀ W,Below (K+1) V W->Qw wb (wo+i) K r xa ln xc O Nw PV.toList W):=fun W M=>bK.out W (aI.out W M).1 (aI.out W M).2.1 (aI.out W M).2.2;have cB:Hid (∀ W,Below (K+1) V W->Calls prog 48 #[.slice xa ln xc,.agg E.toArray] W fun e W'=>∃ v3,e=.returned v3/\Bx zJ 68 146 W W' W.heap.size v3 (chg l le)):=fun W M=>by
  have:=A8 xa xc l le W (bH.out W M) aD (by omega) aj aE;rw[aS,hE] at this;exact this
 have bz:Hid (∀ s ∈ chg l le,vV s):=hid (qj3 l le aE aj aD);have bw:Hid ((chg l le).length<=10):=hid (by have:=Ik l le;omega);have cJ:Hid ((prog.info? 45).map (·.size)=some PV.toList.length):=hid (by simpa using bD.out);have br:Hid (∀ W,Below (K+1) V W->Bx zJ 68 146 w2 W r2 (.slice ua un uc) ss):=fun W M=>HB.out.carry (ae.out W M).2
 have cU:Hid (stU p tx ((ls.zip ms).take (i+1))=stU p tx ((ls.zip ms).take i)++chg l le):=hid (by
  have cy:i<(ls.zip ms).length:=by rw[Wv2,aJ.out,HL.out];omega
  have du:(ls.zip ms).getD i ([],dMv)=(l,m):=by
   have g1:i<ls.length:=(by rw[aJ.out];exact Z);have g2:i<ms.length:=(by rw[HL.out];exact Z);rw[List.getD_eq_getElem?_getD,List.getElem?_eq_getElem cy,Option.getD_some,List.getElem_zip,<-hl,<-hm,List.getD_eq_getElem?_getD,List.getElem?_eq_getElem g1,List.getD_eq_getElem?_getD,List.getElem?_eq_getElem g2];rfl
  rw[qk ([],dMv) _ i cy,du];unfold stU;rw[List.flatMap_append,List.flatMap_cons,List.flatMap_nil,List.append_nil,bk])
 have bE:Hid (∀ j,j<i+1->idT T (enW (ls.getD j []))=(ms.getD j dMv).old):=fun j hj=>by
  by_cases e:j=i
  ·subst e;rw[bW,ai,hm]
  exact ap.out j (by omega)
 clear G aw bh bi aF;go_wp2;have aP:Below (K+1) V u0.drew:=aC.trans (by rw[<-cq];exact zj _ _ 1);have b9:=bJ.out _ aP;refine wp_region_held_drew (S:=Qw wb (wo+i) K r xa ln xc O Nw PV.toList) (by kernel_rfl) b9 (fun G=>?_);have ca:u0.drew.heap.size=u0.heap.size:=rfl;generalize u0.drew=u1 at G aP b9 ca ⊢;iterate 6
  refine qy (v:=?_) G ?_ ?_;rotate_left
  ·rintro w' ⟨c1,_,_,_⟩;go_simp;rfl
  try simp only[Act.put,sL]
 refine qZ (i:=6) (v:=.agg O.toArray) G (fun w' Q=>zY 116 (.tmp 54) rfl K 1 rfl O _ Q.r1 underlying116 rfl bF.out) ?_;try simp only[Act.put,sL]
 refine qy (v:=?_) G ?_ ?_;rotate_left
 ·rintro w' ⟨c1,_,_,_⟩;go_simp;rfl
 try simp only[Act.put,sL]
 refine qZ (i:=8) (v:=.agg Nw.toArray) G (fun w' Q=>zY 116 (.tmp 56) rfl K 21 rfl Nw _ Q.r21 underlying116 rfl cI.out) ?_;try simp only[Act.put,sL]
 refine qZ (i:=9) (v:=.agg PV.toList.toArray) G (fun w' Q=>zY 45 (.tmp 6) rfl r 0 rfl PV.toList _ Q.rp underlying45 rfl cJ.out) ?_;simp only[Array.toArray_toList];try simp only[Act.put,sL]
 refine qy (v:=?_) G ?_ ?_;rotate_left
 ·rintro w' ⟨c1,_,_,_⟩;go_simp;rfl
 try simp only[Act.put,sL]
 refine qZ (i:=11) (v:=.agg E.toArray) G (fun w' Q=>KX 133 0 1 2 3 (.tmp 55) (.tmp 57) (.tmp 58) (.tmp 59) rfl (.agg O.toArray) (.agg Nw.toArray) (.agg PV) (.string X) _ rfl rfl rfl rfl (cF.out _)) ?_;try simp only[Act.put,sL]
 refine vk 12 48 [.tmp 53,.tmp 60] [.slice xa ln xc,.agg E.toArray] (cB.out u1 aP) ?_;rintro e u2 ⟨v3,rfl,aA⟩;obtain⟨a3,c3,dp,bT,_,_⟩:=aA.px (d:=dS) (fun s hs=>qx (bz.out s hs));subst dp;have aQ:Below (K+1) V u2:=aP.trans (aA.below.mono (by omega));refine⟨_,rfl,bJ.out _ aQ,fun G=>?_⟩;try simp only[Act.put,sL]
 refine wpAnyH_ready (rs:=[13]) (by kernel_rfl) (by simp) ?_;refine xw rfl (fun KK bQ=>?_) AllReadyH.nil;refine UQ (enc:=zJ) (k:=68) (d:=dS) (.tmp 49) (.tmp 61) 126 146 Xy kK z143 (by decide) (by decide) yk r2 (.slice ua un uc) ss rfl (br.out u2 aQ) a3 c3 (chg l le) rfl bT (fun s hs=>qx (bz.out s hs)) (by have:=bw.out;omega) ?_
 intro v4 u4 Y cf;have bo:Tf 146 u2 u4:=Tf.mv cf (fun k hk=>by
  obtain⟨_,⟨hv,h0⟩ | ⟨g,cap,cur,hv,hb,hh,_⟩⟩:=(br.out u2 aQ).own
  ·rw[hv] at hk;cases hk
  rw[hv] at hk;simp only[Value.ownBlock,Option.some.injEq] at hk;subst hk;exact⟨_,_,hh⟩)
 have bU:Qw wb (wo+i) K r xa ln xc O Nw PV.toList u4:=by
  obtain⟨g1,g2,g3⟩:=aI.out u2 aQ;exact bK.out u4 (bo.of (by decide) g1) (bo.of (by decide) g2) (au.out u4 Y.below)
 refine bQ.out _ _ bU (fun G=>?_);clear bQ KK;try simp only[Act.put,sL]
 refine qy (v:=?_) G ?_ ?_;rotate_left
 ·rintro w' ⟨c1,_,_,_⟩;go_simp;rfl
 try simp only[Act.put,sL]
 refine wpAnyH_done (by kernel_rfl) ?_ _;have cE:=hid Y;clear G bU b9 Y cf bo aA bT;go_wp2;go_roundg (vn-(i+1));case measure=>omega
 case rel=>exact⟨i+1,_,ss++chg l le,by go_num,rfl,rfl,by omega,by have:=bw.out;simp;omega,cE,hid (by rw[cU.out,<-bL.out]),bE⟩
end Go.Proofs.YtdnphaganajejaaGreatDoor.K
