import Derived.Test.YtdnphaganajejaaGreatDoorMz41
import Derived.Test.YtdnphaganajejaaGreatDoorMz42
set_option linter.unusedSimpArgs false
set_option linter.unusedVariables false
set_option maxRecDepth 20000
set_option maxHeartbeats 4000000
open List renaming foldl_cons->WqW,foldl_nil->Wvu,setIfInBounds_toArray->WvZ,set_cons_succ->WvQ,set_cons_zero->WvX,size_toArray->Wyu
open Nat renaming le_refl->Wz8
namespace Go.Proofs.YtdnphaganajejaaGreatDoor.K
open Go.Proofs.Tryz
open Go.RowKit
attribute [local instance low] Classical.propDecidable
abbrev pV (a:Nat):Value:=.pointer (some ⟨a,0,none⟩)
def Inv (w0:World)(X k:Nat)(W:World):Prop := ∃ S XE N D R t n T F go Q rs ls,Gs w0.heap.size k true S XE N D R t n T F go Q rs ls W/\Wx W X D R Q/\XE X/\Below w0.heap.size w0 W/\w0.heap.size<=X
theorem Inv.below {w0:World}{X k:Nat}{W j:World}(h:Inv w0 X k W)(hb:Below W.heap.size W j):Inv w0 X k j:=by
 obtain⟨S,XE,N,D,R,t,n,T,F,go,Q,rs,ls,A,hx,G,I,J⟩:=h;exact⟨S,XE,N,D,R,t,n,T,F,go,Q,rs,ls,A.below hb,(hb.block X (z7 hx)).trans hx,G,I.trans (hb.mono A.sz),J⟩
structure Xc (X R A:Nat) (W:World):Prop where
 c1:W.cell? ⟨X,1,none⟩=some (pV R)
 c2:W.cell? ⟨X,2,none⟩=some (pV A)
theorem IY {X R A:Nat}{v:Value}{W:World}(h:W.heap[X]? = some (.cells #[v,pV R,pV A] 41 (0,0))):Xc X R A W:=⟨by simp[World.cell?,h],by simp[World.cell?,h]⟩
def Q3 (w0:World)(X k A:Nat)(W:World):Prop := ∃ D,W.cell? ⟨X,0,none⟩=some (pV D)/\Calls prog 12 #[pV D] W fun e w1=>∃ D4,e=.returned (pV D4)/\w1.cell? ⟨X,0,none⟩=some (pV D)/\w1.frozen? ⟨X,0,none⟩=false/\Calls prog 8 #[pV X] (w1.setCell ⟨X,0,none⟩ (pV D4)) fun e w2=>e=.returned (.bool true)/\∃ R4,Xc X R4 A w2.drew/\Calls prog 13 #[pV R4,pV A] w2.drew fun e w3=>e=.returned (.bool true)/\Xc X R4 A w3/\Inv w0 X (k+1) w3
def Q2 (crash:Bool)(w0:World)(X k A:Nat)(W:World):Prop:=(crash=true->Q3 w0 X k A W)/\(crash=false->∃ R,Xc X R A W.drew/\Calls prog 13 #[pV R,pV A] W.drew fun e w1=>e=.returned (.bool true)/\Xc X R A w1/\Q3 w0 X k A w1)
def Q1 (crash:Bool)(w0:World)(X k A B:Nat)(W:World):Prop := ∃ D,W.cell? ⟨X,0,none⟩=some (pV D)/\Calls prog 12 #[pV D] W fun e w1=>∃ D3,e=.returned (pV D3)/\∃ W2,w1.alloc (.cells #[pV D3,.pointer none,.pointer none] 41)=W2/\Calls prog 8 #[pV w1.heap.size] W2 fun e w3=>e=.returned (.bool true)/\w3.frozen? ⟨X,2,none⟩=false/\(∃ Z,w3.cell? ⟨X,2,none⟩=some Z)/\∃ R3 W4,w3.setCell ⟨X,2,none⟩ (pV A)=W4/\w3.cell? ⟨w1.heap.size,1,none⟩=some (pV R3)/\Calls prog 13 #[pV R3,pV A] W4 fun e w5=>∃ b,e=.returned (.bool b)/\(b=true->Q2 crash w0 X k A w5)/\(b=false->w5.frozen? ⟨X,2,none⟩=false/\w5.cell? ⟨X,2,none⟩=some (pV A)/\∃ W6,w5.setCell ⟨X,2,none⟩ (pV B)=W6/\w5.cell? ⟨w1.heap.size,1,none⟩=some (pV R3)/\Calls prog 13 #[pV R3,pV B] W6 fun e w7=>e=.returned (.bool true)/\Q2 crash w0 X k B w7)
structure En (w0:World) (X k:Nat) (crash:Bool) (D A B:Nat) (mA mB mm:Rk.Tb Str Kp Le) (ra:List Rx) (la:List Ex) (rb:List Rx) (lb:List Ex) (F:Option Str) (go:Bool) (v2:Value) (w:World):Prop where
 dk:∃ S N a,Dm S N w D true a/\N<=90000/\Ra.ct a pr=F.map nm/\∀ i,S i->w0.heap.size<=i
 fl:FlG (k+1) mm F go
 two:mm=mA ∨ mm=mB
 ivA:Iv (k+1) mA ra la
 ivB:Iv (k+1) mB rb lb
 kl:Kl mB mA
 dA:∃ v1 v2,Dq 0 w A v1 v2 ra la
 dB:∃ v1 v2,Dq 0 w B v1 v2 rb lb
 box:∃ R,w.heap[X]? = some (.cells #[pV D,pV R,v2] 41 (0,0))/\(crash=false->∃ S XE N q o z g un t n T,Pv S XE N D R w q o z g un t n T/\aT T=mm/\n<=201*(k+1)/\XE X)
 b0:Below w0.heap.size w0 w
 lo:w0.heap.size<=X/\w0.heap.size<=A/\w0.heap.size<=B
theorem En.below {w0:World}{X k:Nat}{crash:Bool}{D A B:Nat}{G I mm:Rk.Tb Str Kp Le}{ra:List Rx}{la:List Ex}{J:List Rx}{lb:List Ex}{F:Option Str}{go:Bool}{v2:Value}{w W:World}(h:En w0 X k crash D A B G I mm ra la J lb F go v2 w)(hb:Below w.heap.size w W):En w0 X k crash D A B G I mm ra la J lb F go v2 W:=by
 obtain⟨S,N,a,K,L⟩:=h.dk;obtain⟨x1,M,hA⟩:=h.dA;obtain⟨O,Q,hB⟩:=h.dB;obtain⟨R,hx,j⟩:=h.box;refine⟨⟨S,N,a,K.below hb,L⟩,h.fl,h.two,h.ivA,h.ivB,h.kl,⟨x1,M,hA.below hb⟩,⟨O,Q,hB.below hb⟩,⟨R,(hb.block X (z7 hx)).trans hx,fun hc=>?_⟩,h.b0.trans (hb.mono h.b0.size),h.lo⟩;obtain⟨S,XE,N,q,o,z,g,un,t,n,T,j,hr⟩:=j hc;exact⟨S,XE,N,q,o,z,g,un,t,n,T,j.below hb,hr⟩
theorem En.set2 {w0:World}{X k:Nat}{crash:Bool}{D A B:Nat}{M O mm:Rk.Tb Str Kp Le}{ra:List Rx}{la:List Ex}{V:List Rx}{lb:List Ex}{F:Option Str}{go:Bool}{v2:Value}{w:World}(h:En w0 X k crash D A B M O mm ra la V lb F go v2 w)(v:Value):En w0 X k crash D A B M O mm ra la V lb F go v (w.setCell ⟨X,2,none⟩ v):=by
 obtain⟨S,N,a,Y,Z⟩:=h.dk;obtain⟨x1,x2,hA⟩:=h.dA;obtain⟨y1,y2,hB⟩:=h.dB;obtain⟨R,hx,J⟩:=h.box;have j:Al (fun i=>i=X) w (w.setCell ⟨X,2,none⟩ v):=Al.of_set (S:=fun i=>i=X) (p:=⟨X,2,none⟩) rfl v;have G:∀ {Q:Nat} {v1 v2:Value} {rs:List Rx} {ls:List Ex},Dq 0 w Q v1 v2 rs ls->Q ≠ X:=fun hq e=>by
  have:=hq.box;rw[e,hx] at this;cases this
 refine⟨⟨S,N,a,Y.tf (Tf.set (p:=⟨X,2,none⟩) hx v) (by simp[World.setCell]) (by decide),Z⟩,h.fl,h.two,h.ivA,h.ivB,h.kl,⟨x1,x2,hA.alB j hx (by decide) (G hA)⟩,⟨y1,y2,hB.alB j hx (by decide) (G hB)⟩,⟨R,by rw[zV hx];rfl,fun hc=>?_⟩,h.b0.trans (vQ j (fun i hi=>by rw[hi];exact h.lo.1) h.b0.size),h.lo⟩;obtain⟨S,XE,N,q,o,z,g,un,t,n,T,J,K,L,I⟩:=J hc
 exact⟨S,XE,N,q,o,z,g,un,t,n,T,J.set34 hx I (fun e=>by
  have:=J.rf.box;rw[e,hx] at this;cases this) 2 v,K,L,I⟩
theorem MW {k:Nat}{m:Rk.Tb Str Kp Le}{rs:List Rx}{ls:List Ex}(h:Iv k m rs ls)(j:k<=100):ls.length<=1000000:=by have:=h.n2;omega
theorem zjV {w0 W:World}{X Xc k:Nat}{a:Ds}{m:Rk.Tb Str Kp Le}{F:Option Str}{go:Bool}{v1 v2:Value}{K:Ds}{J:Nat}{w1:World}
  (ae:Gb w0) (j:Below w0.heap.size w0 W) (Z:Ra.ct a pr=F.map nm) (hf:FlG (k+1) m F go) (hc:Can m) (hk:k<100) (D:Below W.heap.size W w1) (a8:Dm (fun i=>W.heap.size<=i/\i<w1.heap.size) 2 w1 J true K) (ad:Vq K) (a6:∀ y,y.length<=4000->Ra.ct K y=Ra.ct a y)
  {I:World} (A:Al (fun i=>i=Xc ∨ w1.heap.size<=i) w1 I) (a7:Dm (fun i=>W.heap.size<=i/\i<w1.heap.size) 2 I J true K) (hX:I.heap[Xc]? = some (.cells #[pV J,v1,v2] 41 (0,0))) (L:w0.heap.size<=Xc) (aj:Xc<W.heap.size ∨ w1.heap.size<=Xc) (ai:X<W.heap.size) :
  Calls prog 8 #[pV Xc] I fun e w2=>e=.returned (.bool true)/\Al (fun i=>i=Xc) W w2/\Below w0.heap.size w0 w2/\∃ S2 R2 t2 n2 T2,Pw S2 (fun i=>i=Xc ∨ i=X) 2 J R2 w2 ⟨true,F,go⟩ t2 n2 T2/\aT T2=m/\n2<=201*(k+1)/\(∀ i,S2 i->W.heap.size<=i)/\W.heap.size<=R2/\w2.heap[Xc]? = some (.cells #[pV J,pV R2,v2] 41 (0,0)):=by
 have ag:Ra.Wf K:=by obtain⟨G,hG⟩:=a8;exact hG.wf
 have ak:=D.size;have am:=A.size;have V:Below w0.heap.size w0 I:=(j.trans (D.mono j.size)).trans (vQ A (fun i hi=>by have:=j.size;omega) (by have:=j.size;omega));have gb:=ae.below V;obtain⟨n,hn,c8⟩:=MV (XE:=fun i=>i=Xc ∨ i=X) I a7 (zjX ad ag (a6 pr (by decide)) Z) hf hc (by omega) (by omega) (fun i hi=>by omega) (fun i hi=>by
  have:=z7 hX;omega) gb.tab gb.ers gb.mx gb.db gb.ec hX (fun hh=>by omega) (.inl rfl)
 refine c8.mono ?_;rintro e w2 ⟨rfl,R2,t2,T2,S2,ah,hp,hA,Y,O,_,Q⟩;have M:Al (fun i=>i=Xc) W w2:=by
  refine((Al.below D).trans A (S:=fun i=>i=Xc) (fun i hi=>?_)).trans O (fun i hi=>?_)
  ·rcases hi with hi | hi
   ·exact .inl hi
   exact .inr (by omega)
  rcases hi with hi | hi
  ·exact .inr hi.1
  exact .inl hi
 refine⟨rfl,M,j.trans (vQ M (fun i hi=>by rw[hi];exact L) j.size),S2,R2,t2,n,T2,hp,hA,hn,fun i hi=>?_,by omega,Y⟩;rcases Q i hi with h | h
 ·exact h.1
 omega
theorem qv3 {w0:World}{X k:Nat}{crash:Bool}{D A:Nat}{mm:Rk.Tb Str Kp Le}{ra:List Rx}{la:List Ex}{F:Option Str}{go:Bool}{W:World}(h:En w0 X k crash D A A mm mm mm ra la ra la F go (pV A) W)(a8:Gb w0)(hk:k<100):Q3 w0 X k A W:=by
 obtain⟨S,N,a,h1,hN,ai,au⟩:=h.dk;obtain⟨R,hx,_⟩:=h.box;obtain⟨v1,v2,a7⟩:=h.dA;have ad:A ≠ X:=fun e=>by
  have:=a7.box;rw[e,hx] at this;cases this
 refine⟨D,by simp[World.cell?,hx],(Sv S N D true a W h1 hN).mono ?_⟩;rintro e w1 ⟨L,rfl,Y,ap,ac,a6,am,aj⟩;have hx1:=(Y.block X (z7 hx)).trans hx;refine⟨L,rfl,by simp[World.cell?,hx1],by simp[World.frozen?,hx1],?_⟩;obtain⟨M,G⟩:∃ M,w1.setCell ⟨X,0,none⟩ (pV L)=M:=⟨_,rfl⟩
 have ag:M.heap[X]? = some (.cells #[pV L,pV R,pV A] 41 (0,0)):=by rw[<-G,zV hx1];rfl
 have V:Al (fun i=>i=X ∨ w1.heap.size<=i) w1 M:=by rw[<-G];exact(Al.of_set (S:=fun i=>i=X) (p:=⟨X,0,none⟩) rfl _).mono (fun i hi=>.inl hi)
 have ak:Dm (fun i=>W.heap.size<=i/\i<w1.heap.size) 2 M L true ac:=by rw[<-G];exact a6.tf (Tf.set (p:=⟨X,0,none⟩) hx1 _) (by simp[World.setCell]) (by decide)
 have Q:=z7 hx;rw[G];refine(zjV (X:=X) a8 h.b0 ai h.fl h.ivA.can hk Y a6 am aj V ak ag h.lo.1 (.inl Q) Q).mono ?_;rintro e w2 ⟨rfl,ah,I,S2,R2,t2,n2,T2,hp,hA,hn,ae,ar,K⟩;have J:=a7.alB ah hx (by decide) ad;have hdr:=zj w2.heap.size w2 1;have O:=a8.below (I.trans (hdr.mono I.size))
 have j:=(hdr.block X (z7 K)).trans K;refine⟨rfl,R2,IY j,?_⟩;refine(ZK w2.drew (hp.below hdr).v (J.below hdr) (by rw[hA];exact h.ivA.toIb) J.ok1 J.ok2 (MW h.ivA (by omega)) (by omega) (by omega) O.mx O.c0).mono ?_;rintro e w3 ⟨rfl,Z⟩;have hsz:=h.b0.size
 have ao:Inv w0 X (k+1) w2:=⟨S2,_,2,L,R2,t2,n2,T2,F,go,A,ra,la,⟨hp,⟨v1,v2,J⟩,by rw[hA];exact h.ivA,by rw[hA];exact h.fl,hn,by omega,⟨fun i hi=>by have:=ae i hi;omega,by omega,h.lo.2.1⟩,I.size⟩,K,.inl rfl,I,h.lo.1⟩;exact⟨by rw[decide_eq_true (Ta.self ra la)],IY ((Z.block X (z7 j)).trans j),ao.below (hdr.trans (Z.mono hdr.size))⟩
theorem qv4 {w0:World}{X k:Nat}{crash:Bool}{D A:Nat}{mm:Rk.Tb Str Kp Le}{ra:List Rx}{la:List Ex}{F:Option Str}{go:Bool}{G:World}(h0:En w0 X k crash D A A mm mm mm ra la ra la F go (pV A) G)(j:Gb w0)(J:k<100):Q2 crash w0 X k A G:=by
 refine⟨fun _=>qv3 h0 j J,fun hc=>?_⟩;have h:En w0 X k crash D A A mm mm mm ra la ra la F go (pV A) G.drew:=h0.below (zj G.heap.size G 1);generalize G.drew=W at h ⊢;obtain⟨R,hx,I⟩:=h.box;obtain⟨S,XE,N,q,o,z,g,un,t,n,T,I,hA,K,_⟩:=I hc;obtain⟨L,v2,hd⟩:=h.dA;have gb:=j.below h.b0;refine⟨R,IY hx,?_⟩
 refine(ZK W I hd (by rw[hA];exact h.ivA.toIb) hd.ok1 hd.ok2 (MW h.ivA (by omega)) (by omega) (by omega) gb.mx gb.c0).mono ?_;rintro e w1 ⟨rfl,hb⟩;exact⟨by rw[decide_eq_true (Ta.self ra la)],IY ((hb.block X (z7 hx)).trans hx),qv3 (h.below hb) j J⟩
theorem qv5 {w0:World}{X k:Nat}{crash:Bool}{D A B:Nat}{mA mB mm:Rk.Tb Str Kp Le}{ra:List Rx}{la:List Ex}{rb:List Rx}{lb:List Ex}{F:Option Str}{go:Bool}{v2:Value}{W:World}(h:En w0 X k crash D A B mA mB mm ra la rb lb F go v2 W)(L:Gb w0)(hk:k<100):Q1 crash w0 X k A B W:=by
 obtain⟨S,N,a,h1,hN,ax,aF⟩:=h.dk;obtain⟨R,hx,_⟩:=h.box;have ai:Can mm:=by
  rcases h.two with e | e
  ·rw[e];exact h.ivA.can
  rw[e];exact h.ivB.can
 refine⟨D,by simp[World.cell?,hx],(Sv S N D true a W h1 hN).mono ?_⟩;rintro e w1 ⟨Y,rfl,ad,aB,ac,aj,az,ay⟩;refine⟨Y,rfl,_,rfl,?_⟩;obtain⟨W',Z⟩:∃ W',w1.alloc (.cells #[pV Y,.pointer none,.pointer none] 41)=W':=⟨_,rfl⟩;have ae:Below w1.heap.size w1 W':=by rw[<-Z];exact(Below.refl _ _).alloc (Wz8 _) _
 have ao:W'.heap[w1.heap.size]? = some (.cells #[pV Y,.pointer none,.pointer none] 41 (0,0)):=by rw[<-Z];exact heap_alloc_new _ _
 have ap:=z7 hx;have aG:=ad.size;have hsz:=h.b0.size;rw[Z];refine(zjV (X:=X) L h.b0 ax h.fl ai hk ad aj az ay (Al.below ae) (aj.below ae) ao (by omega) (.inr (Wz8 _)) ap).mono ?_;rintro e w3 ⟨rfl,ar,aE,S2,R2,t2,n2,T2,hp,hA,hn,aD,aC,ag⟩;have av:Below W.heap.size W w3:=vQ ar (fun i hi=>by omega) (Wz8 _)
 have h3:=h.below av;obtain⟨R',a6,_⟩:=h3.box;have aw:w1.heap.size ≠ X:=by omega
 have st:∀ (w:World) (v:Value),w.heap[w1.heap.size]? = some (.cells #[pV Y,pV R2,.pointer none] 41 (0,0))->(w.setCell ⟨X,2,none⟩ v).heap[w1.heap.size]? = some (.cells #[pV Y,pV R2,.pointer none] 41 (0,0)):=fun w v hw=>by
  rw[Below.heap_setCell _ _ _ _ aw];exact hw
 have h4:=h3.set2 (pV A);have Q:Pv S2 (fun i=>i=w1.heap.size ∨ i=X) 2 Y R2 (w3.setCell ⟨X,2,none⟩ (pV A)) true F F go false t2 n2 T2:=hp.v.set34 a6 (.inr rfl) (by omega) 2 _;have J:=st w3 (pV A) ag;refine⟨rfl,by simp[World.frozen?,a6],⟨_,by simp[World.cell?,a6];rfl⟩,R2,_,rfl,by simp[World.cell?,ag],?_⟩;generalize w3.setCell ⟨X,2,none⟩ (pV A)=W4 at h4 Q J ⊢
 have M:=L.below h4.b0;obtain⟨a1,a2,O⟩:=h4.dA;obtain⟨b1,b2,ak⟩:=h4.dB;by_cases hm:mm=mA
 ·subst hm;refine(ZK W4 Q O (by rw[hA];exact h.ivA.toIb) O.ok1 O.ok2 (MW h.ivA (by omega)) (by omega) (by omega) M.mx M.c0).mono ?_;rintro e w5 ⟨rfl,I⟩;have j:=h4.below I;exact⟨_,rfl,fun _=>qv4 ⟨j.dk,j.fl,.inl rfl,j.ivA,j.ivA,Kl.refl _,j.dA,j.dA,j.box,j.b0,j.lo.1,j.lo.2.1,j.lo.2.1⟩ L hk,fun hb=>by
   rw[decide_eq_true (Ta.self ra la)] at hb;cases hb⟩
 have aA:mm=mB:=by rcases h.two with e | e;exact absurd e hm;exact e
 subst aA;refine(ZK W4 Q O (by rw[hA];exact h.ivB.toIb) ak.ok1 ak.ok2 (MW h.ivB (by omega)) (by omega) (by omega) M.mx M.c0).mono ?_;rintro e w5 ⟨rfl,I⟩;refine⟨_,rfl,fun hb=>absurd (ta_eq h.ivB.toIb h.ivA.toIb h.kl (of_decide_eq_true hb)) hm,fun _=>?_⟩;have j:=h4.below I;obtain⟨R5,a7,_⟩:=j.box;have V:=(I.block _ (z7 J)).trans J
 have h6:=j.set2 (pV B);have am:Pv S2 (fun i=>i=w1.heap.size ∨ i=X) 2 Y R2 (w5.setCell ⟨X,2,none⟩ (pV B)) true F F go false t2 n2 T2:=(Q.below I).set34 a7 (.inr rfl) (by omega) 2 _;have ah:=st w5 (pV B) V;refine⟨by simp[World.frozen?,a7],by simp[World.cell?,a7],_,rfl,by simp[World.cell?,V],?_⟩;generalize w5.setCell ⟨X,2,none⟩ (pV B)=W6 at h6 am ah ⊢
 have a8:=L.below h6.b0;obtain⟨c1,c2,K⟩:=h6.dB;refine(ZK W6 am K (by rw[hA];exact h.ivB.toIb) K.ok1 K.ok2 (MW h.ivB (by omega)) (by omega) (by omega) a8.mx a8.c0).mono ?_;rintro e w7 ⟨rfl,au⟩;have G:=h6.below au
 exact⟨by rw[decide_eq_true (Ta.self rb lb)],qv4 ⟨G.dk,G.fl,.inl rfl,G.ivB,G.ivB,Kl.refl _,G.dB,G.dB,G.box,G.b0,G.lo.1,G.lo.2.2,G.lo.2.2⟩ L hk⟩
end Go.Proofs.YtdnphaganajejaaGreatDoor.K
namespace Go.Proofs.YtdnphaganajejaaGreatDoor.K
open Go.Proofs.Tryz
open Go.RowKit
attribute [local instance low] Classical.propDecidable
theorem Pv.typed {S XE:Nat->Prop}{N D R:Nat}{w:World}{q:Bool}{o z:Option Str}{go un:Bool}{t n:Nat}{T:Ts}(h:Pv S XE N D R w q o z go un t n T):Pv (Sn S w) XE N D R w q o z go un t n T:=by
 obtain⟨a,j,A⟩:=h.dm;exact⟨⟨a,j.typed,A⟩,h.rf,fun G=>h.nS G.1,fun i hi=>h.lim i (by rcases hi with (hi | hi) | hi;exact .inl (.inl hi.1);exact .inl (.inr hi);exact .inr hi),h.tt.to (fun i hi=>.inl (by rcases hi with (hi | hi) | hi;exact .inl (.inl hi.1);exact .inl (.inr hi);exact .inr hi))⟩
theorem Pv.well {S XE:Nat->Prop}{N D R:Nat}{w w':World}{q A:Bool}{o z:Option Str}{go un:Bool}{t n:Nat}{T:Ts}(h:Pv S XE N D R w q o z go un t n T){a:Ds}(I:Ra.Hs pr (o.map nm) (z.map nm) a)(G:Dm S N w' D A a)(j:Al S w w'):Pv S XE N D R w' A o z go un t n T :=
 ⟨⟨a,G,I⟩,⟨(j.blk R (z7 h.rf.box) h.nS).trans h.rf.box⟩,h.nS,fun i hi=>Nat.lt_of_lt_of_le (h.lim i hi) j.size,h.tt.al (j.mono (fun i hi=>.inl (.inl hi)))⟩
theorem X0 {S:Nat->Prop}{w w':World}(h:Al (Sn S w) w w'){i:Nat}{c:Array Value}{T:TypeId}(hi:w.heap[i]? = some (.cells c T (0,0)))(j:T=41 ∨ T=47):w'.heap[i]? = some (.cells c T (0,0)) :=
 (h.blk i (z7 hi) (fun A=>by
  have:=A.2.t _ _ _ hi
  rcases j with rfl | rfl
  ·exact this.2.2.2.1 rfl
  ·exact this.2.2.2.2 rfl)).trans hi
theorem qyQ {w0:World}{X k:Nat}{q:Bool}{S XE:Nat->Prop}{N D R t n:Nat}{T:Ts}{F:Option Str}{go:Bool}{Q:Nat}{rs:List Rx}{ls:List Ex}{w:World}(ka ti:Int)(I:ka<=9223372036854775807)(K:ti<=9223372036854775807)(G:Below w0.heap.size w0 w)(j:Gs w0.heap.size k q S XE N D R t n T F go Q rs ls w)(hx:Wx w X D R Q) :
  Calls prog 9 #[pV D,.int .i64 ka,.int .i64 ti] w fun e w'=>e=.returned (.tuple #[])/\Below w0.heap.size w0 w'/\(∃ Y S',Gs w0.heap.size k Y S' XE N D R t n T F go Q rs ls w')/\Wx w' X D R Q/\∀ (i:Nat) (c:Array Value) (T:TypeId),w.heap[i]? = some (.cells c T (0,0))->T=41 ∨ T=47->w'.heap[i]? = some (.cells c T (0,0)):=by
 have J:=j.pw.typed;obtain⟨a,O,L⟩:=J.dm;obtain⟨Z,v2,hd⟩:=j.dq;refine(SZ _ N D _ a ka ti I K w O).mono ?_;rintro e w' ⟨rfl,M,h⟩;have A:=J.v.well L.hs M h;have hb:Below w0.heap.size w0 w':=G.trans (vQ h (fun i hi=>j.lo.1 i hi.1) j.sz);unfold Wx at hx ⊢
 exact⟨rfl,hb,⟨_,Sn S w,⟨⟨a,M,L⟩,A.rf,A.nS,A.lim,A.tt,J.gf⟩,⟨Z,v2,hd.alT h (fun i hi=>hi.2.t)⟩,j.iv,j.fl,j.n1,j.n2,⟨fun i hi=>j.lo.1 i hi.1,j.lo.2⟩,hb.size⟩,X0 h hx (.inl rfl),fun i c T hi V=>X0 h hi V⟩
def pA (ke kk:Int)(C Q:Nat):Nat:=if ke=0 then C else if ke=kk then Q else C
def pB (ke:Int)(C Q:Nat):Nat:=if ke=0 then C else Q
theorem UZ.below {w0:World}{X k D R Q C:Nat}{K:Rk.Tb Str Kp Le}{rs:List Rx}{ls:List Ex}{ke J:Int}{w w5 W:World}(h:UZ w0 X k D R Q C K rs ls ke J w w5)(hb:Below w5.heap.size w5 W):UZ w0 X k D R Q C K rs ls ke J w W:=by
 obtain⟨S,XE,N,q,o,z,go,un,t,n,T,G,A,V,O,M,j,⟨c1,c2,L⟩,hr⟩:=h.ex;obtain⟨q1,Y,hQ⟩:=h.dq;exact⟨⟨S,XE,N,q,o,z,go,un,t,n,T,G,A,V.below hb,O,M,j,⟨c1,c2,L.below hb⟩,hr⟩,⟨q1,Y,hQ.below hb⟩,fun i c T hi I=>(hb.block i (z7 (h.keep i c T hi I))).trans (h.keep i c T hi I),h.b0.trans (hb.mono h.b0.size),h.lo⟩
structure Xd (X D r:Nat) (TA:Array Value) (W:World):Prop where
 c0:W.cell? ⟨X,0,none⟩=some (pV D)
 hr:W.heap[r]? = some (.cells TA 47 (0,0))
def EndC (w0:World)(X k r:Nat)(TA:Array Value)(crash:Bool)(di ta:Nat)(ke kk:Int)(C Q:Nat)(W:World):Prop:=(ke=kk ∨ ke=1 ∨ ke=2)/\∃ D,Xd X D r TA W/\(crash=true->Xd X D r TA W.drew/\Calls prog 11 #[pV D,.int .u64 di,.int .u64 ta] W.drew fun e w6=>e=.returned (.tuple #[])/\Xd X D r TA w6/\Q1 true w0 X k (pA ke kk C Q) (pB ke C Q) w6)/\(crash=false->Calls prog 9 #[pV D,.int .i64 0,.int .i64 0] W fun e w6=>e=.returned (.tuple #[])/\Q1 false w0 X k (pA ke kk C Q) (pB ke C Q) w6)
theorem UX {w0:World}{X k r D R Q C:Nat}{TA:Array Value}{m0:Rk.Tb Str Kp Le}{rs:List Rx}{ls:List Ex}{ke Y:Int}{w w5:World}(di ta:Nat)(au:di<18446744073709551616)(av:ta<18446744073709551616)(h:UZ w0 X k D R Q C m0 rs ls ke Y w w5)(hr:w.heap[r]? = some (.cells TA 47 (0,0)))(a8:Iv k m0 rs ls)(hx:Wx w X D R Q)(V:w0.heap.size<=X)(O:w0.heap.size<=Q)(ag:Gb w0)(hk:k<100):(ke=Y ∨ ke=1 ∨ ke=2)/\Xd X D r TA w5/\(Calls prog 11 #[pV D,.int .u64 di,.int .u64 ta] w5 fun e w6=>e=.returned (.tuple #[])/\Xd X D r TA w6/\Q1 true w0 X k (pA ke Y C Q) (pB ke C Q) w6)/\(Calls prog 9 #[pV D,.int .i64 0,.int .i64 0] w5 fun e w6=>e=.returned (.tuple #[])/\Q1 false w0 X k (pA ke Y C Q) (pB ke C Q) w6):=by
 obtain⟨S,XE,N,q,o,z,go,un,t,n,T,L,K,hp,hn,hN,a7,ar,ao,I,ad⟩:=h.ex;unfold Wx at hx;have J:=h.keep X _ _ hx (.inl rfl);have aj:=h.keep r _ _ hr (.inr rfl);have ai:=hp.typed;obtain⟨a,M,Z⟩:=ai.dm;have aw:Ra.Wf a:=by obtain⟨G,hG⟩:=M;exact hG.wf
 obtain⟨c1,c2,hC⟩:=ar;obtain⟨q1,q2,hQ⟩:=h.dq;have ak:∃ mA mB ra la rb lb,(∀ w',Al (Sn S w5) w5 w'->(∃ v1 v2,Dq 0 w' (pA ke Y C Q) v1 v2 ra la)/\∃ v1 v2,Dq 0 w' (pB ke C Q) v1 v2 rb lb)/\Iv (k+1) mA ra la/\Iv (k+1) mB rb lb/\Kl mB mA/\(aT T=mA ∨ aT T=mB)/\CrO (k+1) mB mA o z:=by
  have sC:∀ w',Al (Sn S w5) w5 w'->∃ v1 v2,Dq 0 w' C v1 v2 L K:=fun w' j=>⟨c1,c2,hC.alT j (fun i hi=>hi.2.t)⟩;have sQ:∀ w',Al (Sn S w5) w5 w'->∃ v1 v2,Dq 0 w' Q v1 v2 rs ls:=fun w' j=>⟨q1,q2,hQ.alT j (fun i hi=>hi.2.t)⟩;rcases ad with ⟨rfl,rfl,_,M,Z⟩ | ⟨rfl,ah,m',M,Z,h3,h4⟩
  ·by_cases h0:ke=0
   ·refine⟨aT T,aT T,L,K,L,K,?_,M,M,Kl.refl _,.inl rfl,CrO.same a7⟩;unfold pA pB;rw[if_pos h0,if_pos h0];exact fun w' j=>⟨sC w' j,sC w' j⟩
   have:=Z h0;refine⟨aT T,aT T,rs,ls,rs,ls,?_,by rw[this];exact a8.up,by rw[this];exact a8.up,Kl.refl _,.inl rfl,CrO.same a7⟩;unfold pA pB;rw[if_neg h0,if_neg h0,if_pos rfl];exact fun w' j=>⟨sQ w' j,sQ w' j⟩
  have h0:¬ ke=0:=by omega
  refine⟨m',m0,L,K,rs,ls,?_,M,a8.up,Z,h3,h4⟩;unfold pA pB;rw[if_neg h0,if_neg h0,if_neg h0];exact fun w' j=>⟨sC w' j,sQ w' j⟩
 have A:w0.heap.size<=pA ke Y C Q/\w0.heap.size<=pB ke C Q:=by
  have:=h.lo;unfold pA pB;constructor
  ·split
   ·exact this
   split
   ·exact O
   exact this
  split
  ·exact this
  exact O
 have ah:ke=Y ∨ ke=1 ∨ ke=2:=by
  rcases ad with ⟨h,_⟩ | ⟨_,h,_⟩
  ·exact .inl h
  exact .inr h
 obtain⟨mA,mB,ra,la,rb,lb,ae,ivA,ivB,kl,two,am⟩:=ak;refine⟨ah,⟨by simp[World.cell?,J],aj⟩,?_,?_⟩
 ·refine(zz0 _ N D q a di ta au av w5 M (by omega)).mono ?_;rintro e w6 ⟨rfl,⟨kc,a',ap,h3⟩,j⟩;obtain⟨c',g',e1,e2⟩:=zjQ aw Z am kc ta (fun B=>Classical.propDecidable _);rw[<-ap] at e1;have a6:Below w0.heap.size w0 w6:=h.b0.trans (vQ j (fun i hi=>I i hi.1) h.b0.size);obtain⟨dA,dB⟩:=ae w6 j
  have key:∀ mm,FlG (k+1) mm c' g'->(mm=mA ∨ mm=mB)->Q1 true w0 X k (pA ke Y C Q) (pB ke C Q) w6:=fun mm hf ht =>
   qv5 (mm:=mm) ⟨⟨_,N+2,a',h3,by omega,e1,fun i hi=>by
    rcases hi with hi | hi
    ·exact I i hi.1
    ·have:=h.b0.size;omega⟩,hf,ht,ivA,ivB,kl,dA,dB,⟨R,X0 j J (.inl rfl),fun hh=>by cases hh⟩,a6,V,A⟩ ag hk
  have ax:=X0 j J (.inl rfl);refine⟨rfl,⟨by simp[World.cell?,ax],X0 j aj (.inr rfl)⟩,?_⟩;rcases e2 with e2 | e2
  ·exact key mB e2 (.inr rfl)
  exact key mA e2 (.inl rfl)
 refine(SZ _ N D q a 0 0 (by omega) (by omega) w5 M).mono ?_;rintro e w6 ⟨rfl,h3,j⟩;have ac:Dm (Sn S w5) N w6 D true a:=by
  have:decide ((0:Int)<=0/\(0:Int)<=0)=true:=by decide
  rw[this] at h3;exact h3
 have a6:Below w0.heap.size w0 w6:=h.b0.trans (vQ j (fun i hi=>I i hi.1) h.b0.size);obtain⟨dA,dB⟩:=ae w6 j;exact⟨rfl,qv5 ⟨⟨_,N,a,ac,by omega,Z.now,fun i hi=>I i hi.1⟩,a7,two,ivA,ivB,kl,dA,dB,⟨R,X0 j J (.inl rfl),fun _=>⟨_,XE,N,true,o,z,go,un,t,n,T,ai.well Z ac j,rfl,hn,ao⟩⟩,a6,V,A⟩ ag hk⟩
structure LsOk (w0:World) (s:Ls):Prop where
 px:Px qj 41 dMv w0 s.a s.c s.ms
 ok:∀ m ∈ s.ms,xu m
 sm:smL s
 nb : -9223372036854775808<=s.n/\s.n<=9223372036854775807
theorem qjj {w0:World}{X k:Nat}{q:Bool}{S XE:Nat->Prop}{N D R t n:Nat}{T:Ts}{F:Option Str}{go:Bool}{Q:Nat}{rs:List Rx}{ls:List Ex}(s:Ls)(w:World)(I:k<100)(j:Below w0.heap.size w0 w)(A:Gb w0)(G:Gs w0.heap.size k q S XE N D R t n T F go Q rs ls w)(hx:Wx w X D R Q)(h:XE X)(hs:LsOk w0 s) :
  Calls prog 10 #[pV X,.agg (uK s).toArray] w (U8 w0 X k D R Q (aT T) rs ls w):=by
 by_cases J:s.k=1
 ·exact qyZ s w I j A G hx h J hs.px hs.ok hs.sm
 by_cases K:s.k=2
 ·exact qyw s w I j A G hx h K
 by_cases L:s.k=3
 ·exact qyy s w I j A G hx h L
 by_cases M:s.k=4
 ·exact qyu s w I j A G hx h M hs.nb
 exact qyv s w I j A G hx h J K L M
def DoC (w0:World)(X k r:Nat)(TA:Array Value)(crash:Bool)(di ta:Nat)(Q:Nat)(W:World):Prop:=Calls prog 10 #[pV X,.agg TA] W fun e w5=>∃ ke kk C,e=.returned (.tuple #[.int .i64 ke,pV C,.int .i64 kk])/\EndC w0 X k r TA crash di ta ke kk C Q w5
theorem MY {w0:World}{X k r:Nat}{q:Bool}{S XE:Nat->Prop}{N D R t n:Nat}{T:Ts}{F:Option Str}{go:Bool}{Q:Nat}{rs:List Rx}{ls:List Ex}(crash:Bool)(di ta:Nat)(A:di<18446744073709551616)(I:ta<18446744073709551616)(s:Ls)(W:World)(L:k<100)(K:Below w0.heap.size w0 W)(j:Gb w0)(G:Gs w0.heap.size k q S XE N D R t n T F go Q rs ls W)(hx:Wx W X D R Q)(J:XE X)(h:w0.heap.size<=X)(hs:LsOk w0 s)(hr:W.heap[r]? = some (.cells (uK s).toArray 47 (0,0))):DoC w0 X k r (uK s).toArray crash di ta Q W:=by
 refine(qjj s W L K j G hx J hs).mono ?_;rintro e w5 ⟨ke,kk,C,rfl,hd⟩;obtain⟨M,O,_,V⟩:=UX di ta A I hd hr G.iv hx h G.lo.2.2 j L;obtain⟨_,Y,Z,_⟩:=UX di ta A I (hd.below (zj _ w5 1)) hr G.iv hx h G.lo.2.2 j L;exact⟨ke,kk,C,rfl,M,D,O,fun _=>⟨Y,Z⟩,fun _=>V⟩
theorem zjW {w0:World}{X k r:Nat}{W:World}(crash:Bool)(di ta:Nat)(G:di<18446744073709551616)(L:ta<18446744073709551616)(s:Ls)(hs:LsOk w0 s)(I:Gb w0)(hk:k<100)(h:Inv w0 X k W)(hr:W.heap[r]? = some (.cells (uK s).toArray 47 (0,0))) :
  ∃ D Q,Xd X D r (uK s).toArray W.drew/\W.cell? ⟨X,2,none⟩=some (pV Q)/\DoC w0 X k r (uK s).toArray crash di ta Q W/\∀ ka ti:Int,ka<=9223372036854775807->ti<=9223372036854775807->Calls prog 9 #[pV D,.int .i64 ka,.int .i64 ti] W.drew fun e w1=>e=.returned (.tuple #[])/\Xd X D r (uK s).toArray w1/\DoC w0 X k r (uK s).toArray crash di ta Q w1:=by
 obtain⟨S,XE,N,D,R,t,n,T,F,go,Q,rs,ls,V,hx,h1,h2,h3⟩:=h;have hdr:Below W.heap.size W W.drew:=zj W.heap.size W 1;have j:=hx;unfold Wx at j;have O:=(hdr.block X (z7 j)).trans j;have K:=(hdr.block r (z7 hr)).trans hr
 refine⟨D,Q,⟨by simp[World.cell?,O],K⟩,by simp[World.cell?,j],MY crash di ta G L s W hk h2 I V hx h1 h3 hs hr,fun ka ti Z a6=>(qyQ ka ti Z a6 (h2.trans (hdr.mono V.sz)) (V.below hdr) O).mono ?_⟩;rintro e w1 ⟨rfl,hb,⟨q',S',Y⟩,M,A⟩;have J:=A r _ _ K (.inr rfl);have hx1:=M;unfold Wx at hx1
 exact⟨rfl,⟨by simp[World.cell?,hx1],J⟩,MY crash di ta G L s w1 hk hb I Y M h1 h3 hs J⟩
end Go.Proofs.YtdnphaganajejaaGreatDoor.K
namespace Go.Proofs.YtdnphaganajejaaGreatDoor.K
open Go.Proofs.Tryz
open Go.RowKit
theorem results3:f3.results=#[.tmp 4]:=by kernel_rfl
theorem bd41a (a b:Addr)(w:World):(Instr.build 41 #[(0,.pointer (some a)),(2,.pointer (some b))]).run prog w=.ok (.agg #[.pointer (some a),.pointer none,.pointer (some b)]) w:=by kernel_rfl
theorem bd41b (a:Addr)(w:World):(Instr.build 41 #[(0,.pointer (some a))]).run prog w=.ok (.agg #[.pointer (some a),.pointer none,.pointer none]) w:=by kernel_rfl
theorem qyJ (w:World):(Instr.build 39 #[]).run prog w=.ok (.agg #[.slice none 0 0,.slice none 0 0]) w:=by kernel_rfl
theorem zjY {P:Program}{o:Oper}{a:Act}{w w':World}(t:TypeId)(i:Nat)(x:Operand)(A:o.op=.build t #[(i,x)])(h v:Value)(j:a.eval x=h)(hr:(Instr.build t #[(i,h)]).run P w=.ok v w'):(execOp a.eval o).run P w=.ok (.value v) w':=by
 unfold execOp;simp[A,j,hr,Result.andThen]
theorem O0 (w:World)(e:TypeId)(k:Nat):w.ownsRow 0 e k (.slice none 0 0) 0 []:=⟨by simp,.inl ⟨rfl,rfl⟩⟩
theorem old0:Ra.Old pr nw ((none:Option Str).map nm) ds0:=by
 have:=NQ zx2 wf0;exact this
theorem fl0:FlG 0 noT none false:=.inl ⟨rfl,rfl,rfl⟩
theorem iv0:Iv 0 noT [] []:=⟨⟨⟨fun a k h=>(by cases h),fun a _=>rfl,fun e A=>(by cases A)⟩,List.Pairwise.nil,fun x hx=>(by cases hx),fun x hx=>(by cases hx),by simp,by simp⟩,fun hc=>by
    obtain⟨a,j,_⟩:=hc
    cases j⟩
theorem zq5 (w:World)(a6:Gb w)(rm:Int)(h0:0<=rm)(h1:rm<=100000) :
  Calls prog 6 #[.int .i64 rm] w fun e w1=>∃ D0,e=.returned (pV D0)/\Calls prog 5 #[pV D0] w1 fun e w2=>∃ R0,e=.returned (.tuple #[pV R0,.nilIface])/\Calls prog 7 #[.nilIface] w2 fun e w3=>e=.returned (.int .i64 0)/\Calls prog 6 #[.int .i64 rm] w3 fun e w4=>∃ D,e=.returned (pV D)/\∃ j,(w4.alloc (.cells #[.slice none 0 0,.slice none 0 0] 39)).alloc (.cells #[pV D,.pointer none,pV w4.heap.size] 41)=j/\Calls prog 8 #[pV (w4.heap.size+1)] j fun e w6=>e=.returned (.bool true)/\Inv w (w4.heap.size+1) 0 w6:=by
 refine(Y0 rm h0 h1 w).mono ?_;rintro e w1 ⟨D0,rfl,am,⟨G0,a8,_⟩,M⟩;have A:=a6.below M;obtain⟨n0,_,c5⟩:=IV (E:=fun _=>False) w1 ⟨G0,a8⟩ old0 fl0 iv0.can (by omega) (by omega) (fun i hi=>hi.2) (fun i hi=>hi.elim) A.tab A.ers A.mx A.db A.ec;refine⟨D0,rfl,c5.mono ?_⟩;rintro e w2 ⟨R0,t0,T0,S0,rfl,_,_,_,ag,_,_⟩
 have Q:Below w.heap.size w w2:=M.trans (vQ ag (fun i hi=>hi.1) M.size);refine⟨R0,rfl,(V5 w2).mono ?_⟩;rintro e w3 ⟨rfl,ah⟩;have L:Below w.heap.size w w3:=Q.trans (ah.mono Q.size);refine⟨rfl,(Y0 rm h0 h1 w3).mono ?_⟩;rintro e w4 ⟨D,rfl,hD,⟨G,hG,_⟩,V⟩;refine⟨D,rfl,_,rfl,?_⟩
 obtain⟨j,J⟩:∃ j,(w4.alloc (.cells #[.slice none 0 0,.slice none 0 0] 39)).alloc (.cells #[pV D,.pointer none,pV w4.heap.size] 41)=j:=⟨_,rfl⟩;rw[J];have Y:Below w4.heap.size w4 j:=by rw[<-J];exact((Below.refl _ w4).alloc (Wz8 _) _).alloc (by simp) _
 have ap:j.heap.size=w4.heap.size+2:=by rw[<-J];simp
 have ac:j.heap[w4.heap.size]? = some (.cells #[.slice none 0 0,.slice none 0 0] 39 (0,0)):=by rw[<-J,heap_alloc_old _ _ (by simp)];exact heap_alloc_new _ _
 have ae:j.heap[w4.heap.size+1]? = some (.cells #[pV D,.pointer none,pV w4.heap.size] 41 (0,0)):=by
  have:=heap_alloc_new (w4.alloc (.cells #[.slice none 0 0,.slice none 0 0] 39)) (.cells #[pV D,.pointer none,pV w4.heap.size] 41);rw[J] at this;simpa using this
 have ak:=L.size;have ao:=V.size;have O:Below w.heap.size w j:=(L.trans (V.mono ak)).trans (Y.mono (by omega));have I:=a6.below O;have aj:Dm (fun i=>w3.heap.size<=i/\i<w4.heap.size) 0 j D true ds0:=(show Dm _ 0 w4 D true ds0 from ⟨G,hG⟩).below Y
 obtain⟨n,hn,c8⟩:=MV (XE:=fun i=>i=w4.heap.size+1) j aj old0 fl0 iv0.can (by omega) (by omega) (fun i hi=>by omega) (fun i hi=>by omega) I.tab I.ers I.mx I.db I.ec ae (fun hh=>by omega) rfl;refine c8.mono ?_;rintro e w6 ⟨rfl,R,t,T,S',hR,hp,hA,ai,K,_,a7⟩
 have ad:w6.heap[w4.heap.size]? = some (.cells #[.slice none 0 0,.slice none 0 0] 39 (0,0)):=(K.blk _ (by omega) (fun hi=>by omega)).trans ac;have Z:Below w.heap.size w w6:=O.trans (vQ K (fun i hi=>by omega) O.size)
 refine⟨rfl,S',_,0,D,R,t,n,T,none,false,w4.heap.size,[],[],⟨hp,⟨_,_,ad,O0 _ _ _,O0 _ _ _,fun x hx=>(by cases hx),fun x hx=>(by cases hx),by simp,by simp⟩,by rw[hA];exact iv0,by rw[hA];exact fl0,hn,by omega,⟨fun i hi=>?_,by omega,by omega⟩,Z.size⟩,ai,rfl,Z,by omega⟩;rcases a7 i hi with h | h
 ·omega
 omega
theorem qjk {P:Program}{I:Region.Mode}{Q:Exit->Act->World->Prop}{S:World->Prop}{l:List Oper}{A:Oper}{fuel:Nat}{listed:Array Bool}{a:Act}{w:World}(i:Nat)(f:FuncId)(args:List Operand)(vs:List Value){ts:Array TypeId}{R:Ending->World->Prop}(hc:Calls P f vs.toArray w R)
  (h:∀ e w',R e w'->∃ r,e=.returned r/\S w'/\(S w'->wpAnyH P I l.toArray Q S fuel (listed.setIfInBounds i true) (a.put A.dst r) w'))
  (hi:l[i]? = some A:=by rfl) (hr:Region.ready I l.toArray listed=[i]:=by kernel_rfl) (M:Region.wanted A (yielded l.toArray a.tmps)=true:=by rfl) (L:A.op=.call { callee:=.value (.func f),args:=args.toArray,argTypes:=ts }:=by rfl) (hx:args.map a.eval=vs:=by rfl) (j:∀ w:World,(callFunc f vs.toArray).run P w=.ok (.enter f vs.toArray) w:=by intro w;kernel_rfl) :
  wpAnyH P I l.toArray Q S (fuel+1) listed a w:=by
 refine wpAnyH_ready (rs:=[i]) hr (by simp) ?_;refine xw hi (fun KK D=>?_) AllReadyH.nil;rw[if_pos M];unfold Oper.wp;simp only[execOp,L,resolve,invoke,go_sem,List.map_toArray,hx,j];simp[go_sem,j,Oper.upon_enter];refine hc.mono ?_;intro e w' G;obtain⟨r,rfl,J,K⟩:=h e w' G;exact D.out _ _ J K
theorem VQ {n:Int}(h0:0<=n)(h:n<9223372036854775808):wrap64 n=n:=by unfold wrap64;omega
theorem Inv.b0 {w0:World}{X k:Nat}{W:World}(h:Inv w0 X k W):Below w0.heap.size w0 W:=by
 obtain⟨_,_,_,_,_,_,_,_,_,_,_,_,_,_,_,_,h,_⟩:=h;exact h
theorem qyK (rm:Int):0<=wrap64 (3000+wrap64 ((IntKind.u64.wrap rm).tmod 20000))/\wrap64 (3000+wrap64 ((IntKind.u64.wrap rm).tmod 20000))<=100000:=by
 have h0:0<=IntKind.u64.wrap rm:=by simp[IntKind.wrap,IntKind.signed,IntKind.bits];omega
 obtain⟨x,hx⟩:∃ x,IntKind.u64.wrap rm=x:=⟨_,rfl⟩;rw[hx] at h0 ⊢;have j:=Int.tmod_nonneg 20000 h0;have A:=Int.tmod_lt_of_pos x (show (0:Int)<20000 by decide);generalize x.tmod 20000=y at j A;have e1:wrap64 y=y:=VQ (by omega) (by omega);have h:wrap64 (3000+y)=3000+y:=VQ (by omega) (by omega);rw[e1,h];omega
structure R1 (w0:World) (X k r:Nat) (TA:Array Value) (cr:Bool) (di ta Q:Nat) (W:World):Prop where
 hr:W.heap[r]? = some (.cells TA 47 (0,0))
 doc:DoC w0 X k r TA cr di ta Q W
structure R2 (A B:Nat) (u v:Value) (W5 W:World):Prop where
 w:W=W5
 a:u=pV A
 b:v=pV B
structure R4 (cr:Bool) (w0:World) (X k:Nat) (u:Value) (W:World):Prop where
 t:u=.bool true
 q:∃ A,Q2 cr w0 X k A W
structure R5 (w0:World) (X k:Nat) (u:Value) (W:World):Prop where
 t:u=.bool true
 q:∃ A,Q3 w0 X k A W
structure StK (w:World) (s:Ls):Prop where
 px:Px qj 41 dMv w s.a s.c s.ms
 ok:∀ m ∈ s.ms,xu m
 n : -9223372036854775808<=s.n/\s.n<=9223372036854775807
 af:s.af<=9223372036854775807
 ti:s.ti<=9223372036854775807
 di:0<=s.di/\s.di<18446744073709551616
 ta:0<=s.ta/\s.ta<18446744073709551616
theorem qyV (a:Option Addr)(c:Nat)(l:List Ls)(rm:Int)(w:World)(hP:Px uK 15 dT0 w a c l)(hs:∀ s ∈ l,StK w s)(ax:Gb w) :
  Calls prog 3 #[.slice a l.length c,.int .i64 rm] w fun e w'=>e=.returned (.bool true)/\Below w.heap.size w w':=by
 have C4:=zzK a c l w hP;unfold Mq at C4;obtain⟨N,HN⟩:=nm_ l.length;have aE:=hid (zq5 w ax);have bh:=hid ax;have bn:=hid hs;have bj:=hid hP;rw[HN.out] at C4;rw[HN.out];clear hP hs ax;go_enter func3,ntmps3
 go_wp2_with (go_at_call 4;refine C4.mono ?_;rintro e w' ⟨b,rfl,hw,hb⟩;have bI:=hw.symm;subst bI;have HB:=hid hb;clear hw hb C4;refine Hid.out ?_)
 refine hid ?_;cases b with
 | false =>
  go_wp2;exact bodyPost_ret (results_tmp results3 _ _ _) rfl ⟨rfl,Below.refl _ _⟩
 | true =>
  obtain⟨bL,b2⟩:=HB.out.1 rfl;have bm:=hid b2;clear b2;obtain⟨aA,aB⟩:=qyK rm;obtain⟨sz,hsz⟩:∃ sz,wrap64 (3000+wrap64 ((IntKind.u64.wrap rm).tmod 20000))=sz:=⟨_,rfl⟩;rw[hsz] at aA aB;have aV:=aE.out sz aA aB;have aD:=hid aV;have bo:=hid hsz;clear aE aV aA aB hsz HB;go_wp2_with (first
   | (go_at_call 6;rw[bo.out];refine aD.out.mono ?_;rintro e w1 ⟨D0,rfl,c5⟩;have C5:=hid c5;clear c5 aD)
   | (go_at_call 5;refine C5.out.mono ?_;rintro e w2 ⟨R0,rfl,c7⟩;have C7:=hid c7;clear c7 C5)
   | (go_at_call 7;refine C7.out.mono ?_;rintro e w3 ⟨rfl,c6⟩;have C6:=hid c6;clear c6 C7;refine Hid.out ?_))
  refine hid ?_;go_wp2_with (first
   | (go_at_call 6;refine C6.out.mono ?_;rintro e w4 ⟨D,rfl,W5,ah,c8⟩;obtain⟨X,hX⟩:∃ X,w4.heap.size+1=X:=⟨_,rfl⟩;rw[hX] at c8;have HX:=hid hX;have br:=hid ah;have C8:=hid c8;clear ah c8 hX C6)
   | (refine z8 rfl (.agg #[.slice none 0 0,.slice none 0 0]) (yy 39 rfl (qyJ _)) ?_;go_frame)
   | (refine z8 rfl (.agg #[.pointer (some ⟨D,0,none⟩),.pointer none,.pointer (some ⟨w4.heap.size,0,none⟩)]) (vz 41 0 2 (.tmp 40) (.tmp 42) rfl (.pointer (some ⟨D,0,none⟩)) (.pointer (some ⟨w4.heap.size,0,none⟩)) _ rfl rfl (bd41a ⟨D,0,none⟩ ⟨w4.heap.size,0,none⟩ _)) ?_;go_frame)
   | (go_at_call 8;rw[br.out,HX.out];refine C8.out.mono ?_;rintro e w6 ⟨rfl,hI⟩;have HI:=hid hI;clear hI C8))
  try rw[HX.out]
  go_loopg [10,11] N (fun q bJ iv wr=>∃ i:Nat,bJ=.bool true/\iv=.int .i64 i/\q=N-i/\i<=N/\Hid (Inv w X i wr));case atStart=>exact⟨0,rfl,rfl,rfl,Nat.zero_le _,HI⟩
  obtain⟨i,rfl,rfl,hq,bR,ao⟩:=hrel;clear HI;by_cases aY:i<N;rotate_left
  ·have aZ:¬ (i:Int)<(N:Int):=(by omega);have bg:=hid ao.out.b0;go_wp2;exact bodyPost_ret (results_tmp results3 _ _ _) rfl ⟨rfl,bg.out⟩
  have aZ:(i:Int)<(N:Int):=by omega
  have aW:=ao.out.b0;have p1:=bj.out.below aW;obtain⟨b,off,bE,_,_⟩:=p1.at_ (by rw[HN.out];omega);subst bE;obtain⟨s,hs⟩:∃ s,l.getD i dT0=s:=⟨_,rfl⟩;have ae:s ∈ l:=by rw[<-hs];exact zQ l i dT0 (by rw[HN.out];exact aY)
  have hk:=bn.out s ae;have aL:Hid (LsOk w s):=hid ⟨hk.px,hk.ok,bm.out s ae,hk.n⟩;obtain⟨J,M⟩:∃ J,uK s=J:=⟨_,rfl⟩;have a7:J.length=15:=by rw[<-M];rfl
  have bi:Hid ((prog.info? 47).map (·.size)=some J.length):=hid (by rw[a7];kernel_rfl);have aG:Hid ((prog.info? 47).map (·.size)=some J.toArray.size):=hid (by rw[Wyu,a7];kernel_rfl);have bk:Hid (wr.rangeAt b (off+i*15) J):=hid (by
   obtain⟨_,_,e1,_,e3⟩:=p1.at_ (by rw[HN.out];omega);cases e1
   rw[<-M,<-hs];exact e3 i (by rw[HN.out];exact aY))
  have aK:Hid (J.toArray.all (·.oneCell')=true):=hid (by rw[<-M];exact all_oneCell_toArray (fun v hv=>by simp[uK] at hv;rcases hv with rfl | rfl | rfl | rfl | rfl | rfl | rfl | rfl | rfl | rfl | rfl | rfl | rfl | rfl | rfl <;> rfl));have bz:Hid ((15:Nat)=J.toArray.size):=hid (by rw[Wyu,a7]);obtain⟨V,HV⟩:=nm_ (wr.alloc (.cells J.toArray 47))
  obtain⟨r,HK⟩:=nm_ wr.heap.size;have aU:Below wr.heap.size wr V:=by rw[<-HV.out];exact(Below.refl _ wr).alloc (Wz8 _) _
  have ai:V.heap[r]? = some (.cells J.toArray 47 (0,0)):=by rw[<-HV.out,<-HK.out];exact heap_alloc_new _ _
  have aP:Inv w X i V:=ao.out.below aU;obtain⟨di,aX⟩:∃ n:Nat,s.di=n:=⟨s.di.toNat,by have:=hk.di.1;omega⟩;obtain⟨ta,b6⟩:∃ n:Nat,s.ta=n:=⟨s.ta.toNat,by have:=hk.ta.1;omega⟩
  have Y:Hid (∀ W:World,W.heap[r]? = some (.cells J.toArray 47 (0,0))->W.cell? ⟨r,11,none⟩=some (.int .i64 s.af)/\W.cell? ⟨r,12,none⟩=some (.int .i64 s.ti)/\W.cell? ⟨r,13,none⟩=some (.int .u64 di)/\W.cell? ⟨r,14,none⟩=some (.int .u64 ta)):=fun W I=>by
   rw[<-M] at I;exact⟨by rw[cell_of_row _ _ 11 _ _ _ I];rfl,by rw[cell_of_row _ _ 12 _ _ _ I];rfl,by rw[cell_of_row _ _ 13 _ _ _ I,<-aX];rfl,by rw[cell_of_row _ _ 14 _ _ _ I,<-b6];rfl⟩
  obtain⟨cr,ac⟩:∃ c,decide (s.ti<=0)=c:=⟨_,rfl⟩;obtain⟨D,Q,L,bH,doc,ar⟩:=zjW (r:=r) (W:=V) cr di ta (by have:=hk.di.2;omega) (by have:=hk.ta.2;omega) s aL.out bh.out (by omega) aP (by rw[M];exact ai);rw[M] at L doc ar;obtain⟨af,au⟩:∃ k,s.af=k:=⟨_,rfl⟩;obtain⟨ti,ay⟩:∃ k,s.ti=k:=⟨_,rfl⟩;have a8:=hk.af;have b7:=hk.ti;rw[au] at a8;rw[ay] at b7 ac
  rw[au,ay] at Y;have aJ:=hid ai;have XD:=hid L;have aC:=hid doc;have am:=hid ar;have aF:=hid ac;obtain⟨b8,b9,_⟩:=Y.out V ai;clear p1 hs M ai aU aP aW ae L doc ar ac aX b6 au ay hk aL;go_wp2_with (first
   | (refine wpList_load_mid rfl 47 (.tmp 58) rfl _ _ rfl J _ bk.out underlying47 rfl bi.out ?_;go_frame)
   | (refine zq rfl 47 (.tmp 12) (.tmp 59) rfl _ J.toArray rfl rfl aG.out bz.out aK.out ?_;rw[HV.out,HK.out];go_frame;refine Hid.out ?_))
  refine hid ?_;have ac:=aF.out;repeat (first | (refine Qq 16 ?_) | go_skip | go_guarded | go_step | go_upon)
  refine⟨Qz [15,67,68,69,70,71,72,73,74,75,76,77,78,79,80,81,82,83] (fun _ W=>R1 w X i r J.toArray cr di ta Q W) ?_ (fun y W I=>?_)⟩
  ·have bK:Hid (∀ u,Below V.heap.size V u->True):=hid (fun _ _=>trivial);by_cases h0:0<=af;rotate_left
   ·go_wp2_with (fail)
    exact⟨rfl,by kernel_rfl,aJ.out,aC.out⟩
   have bC:∀ tm:Int,tm<=9223372036854775807->True:=fun _ _=>trivial;cases cr with
   | true =>
    have hc:=am.out af 1099511627776 a8 (by omega);go_wp2_with (fail)
    have G:=XD.out;refine wp_region_held_drew (S:=Xd X D r J.toArray) (by kernel_rfl) G (fun j=>?_);generalize V.drew=u0 at j G hc ⊢;iterate 7
     refine qy (v:=?_) j ?_ ?_ (hQ:=fun _ _ _ h=>(Mg.no h).elim);rotate_left
     ·rintro w' ⟨c0,hr⟩;obtain⟨bD,_⟩:=Y.out w' hr;go_simp;rfl
     try simp only[Act.put,sL]
    refine vk 7 9 [.tmp 79,.tmp 81,.tmp 82] [.pointer (some ⟨D,0,none⟩),.int .i64 af,.int .i64 1099511627776] hc ?_;rintro e u1 ⟨rfl,L,doc⟩;refine⟨_,rfl,L,fun j=>?_⟩;(try simp only[Act.put,sL]);refine wpAnyH_done (by kernel_rfl) ?_ _;go_wp2_with (fail)
    exact⟨rfl,by kernel_rfl,L.hr,doc⟩
   | false =>
    have bM:0<ti:=(by have:=aF.out;simp at this;omega);have hc:=am.out af (1+ti % 4) a8 (by omega);go_wp2_with (fail)
    have G:=XD.out;refine wp_region_held_drew (S:=Xd X D r J.toArray) (by kernel_rfl) G (fun j=>?_);generalize V.drew=u0 at j G hc ⊢;iterate 7
     refine qy (v:=?_) j ?_ ?_ (hQ:=fun _ _ _ h=>(Mg.no h).elim);rotate_left
     ·rintro w' ⟨c0,hr⟩;obtain⟨bD,_⟩:=Y.out w' hr;go_simp;rfl
     try simp only[Act.put,sL]
    refine vk 7 9 [.tmp 79,.tmp 81,.tmp 82] [.pointer (some ⟨D,0,none⟩),.int .i64 af,.int .i64 (1+ti % 4)] hc ?_;rintro e u1 ⟨rfl,L,doc⟩;refine⟨_,rfl,L,fun j=>?_⟩;(try simp only[Act.put,sL]);refine wpAnyH_done (by kernel_rfl) ?_ _;go_wp2_with (fail)
    exact⟨rfl,by kernel_rfl,L.hr,doc⟩
  simp only[Jj,WqW,Wvu,Act.put,WvZ,WvX,WvQ];have aI:=hid I.hr;have ad:=I.doc;unfold DoC at ad;have C10:=hid ad;clear I ad aJ XD aC am b8 b9 bH ac;go_wp2_with (first
   | (refine zX rfl 47 (.tmp 12) rfl r J.toArray 47 (0,0) _ rfl aI.out underlying47 rfl aG.out ?_;go_frame)
   | (go_at_call 10;refine C10.out.mono ?_;rintro e w5 ⟨ke,kk,C,rfl,he⟩;have HE:=hid he;clear he C10 aI;refine Stp.out ?_))
  refine⟨?_⟩;repeat (first | (refine Qq 22 ?_) | go_skip | go_guarded | go_step | go_upon)
  have aH:=hid HE.out.1;obtain⟨D5,bf,aN,aO⟩:=HE.out.2;have aM:=hid bf;have aj:=hid aN;have ak:=hid aO;clear HE bf aN aO;obtain⟨A,HA⟩:=nm_ (pA ke kk C Q);obtain⟨B,HB⟩:=nm_ (pB ke C Q);rw[HA.out,HB.out] at aj ak;refine⟨Qz [91,92,93,94,95,96,97,98,99,100,101] (fun _ W=>W=w5) ?_ (fun y1 W I=>?_)⟩
  ·by_cases k1:ke=1
   ·subst k1;go_wp2_with (fail)
    all_goals exact⟨rfl,by kernel_rfl,rfl⟩
   by_cases k2:ke=2
   ·subst k2;go_wp2_with (fail)
    exact⟨rfl,by kernel_rfl,rfl⟩
   have bG:ke=kk:=(by have:=aH.out;omega);subst bG;have g1:(ke == 1)=false:=(by simpa using k1);have g2:(ke == 2)=false:=(by simpa using k2);clear k1 k2;go_wp2_with (fail)
   all_goals exact⟨rfl,by kernel_rfl,rfl⟩
  simp only[Jj,WqW,Wvu,Act.put,WvZ,WvX,WvQ];have I:=I.symm;subst I;repeat (first | (refine Qq 24 ?_) | go_skip | go_guarded | go_step | go_upon)
  refine⟨Qz [13,17,102,103,104,105,106,107,108] (fun y W=>R2 A B (y 17) (y 13) w5 W) ?_ (fun y2 W I=>?_)⟩
  ·by_cases k0:ke=0
   ·have e1:A=C:=(by rw[<-HA.out];unfold pA;rw[if_pos k0]);have e2:B=C:=(by rw[<-HB.out];unfold pB;rw[if_pos k0]);clear HA HB;subst k0 e1 e2;go_wp2_with (fail)
    exact⟨rfl,by kernel_rfl,rfl,rfl,rfl⟩
   have e2:B=Q:=(by rw[<-HB.out];unfold pB;rw[if_neg k0]);have g0:(ke == 0)=false:=(by simpa using k0);by_cases ag:ke=kk
   ·have e1:A=Q:=(by rw[<-HA.out];unfold pA;rw[if_neg k0,if_pos ag]);clear HA HB k0;subst ag e1 e2;go_wp2_with (fail)
    all_goals exact⟨rfl,by kernel_rfl,rfl,rfl,rfl⟩
   have e1:A=C:=(by rw[<-HA.out];unfold pA;rw[if_neg k0,if_neg ag]);have g1:(ke == kk)=false:=(by simpa using ag);clear HA HB k0 ag;subst e1 e2;go_wp2_with (fail)
   all_goals exact⟨rfl,by kernel_rfl,rfl,rfl,rfl⟩
  simp only[Jj,WqW,Wvu,Act.put,WvZ,WvX,WvQ];have hA:=I.a;have hB:=I.b;have ah:=I.w.symm;subst ah;rw[hA,hB];clear I hA hB HA HB aH;repeat (first | (refine Qq 28 ?_) | go_skip | go_guarded | go_step | go_upon)
  refine⟨Qz [109,110,111,112,113,114,115,116,117,118,119,120,121,122,123] (fun _ W=>Q1 cr w X i A B W) ?_ (fun y3 W I=>?_)⟩
  ·cases cr with
   | true =>
    have hc:=aj.out rfl;go_wp2_with (fail)
    have G:=hc.1;refine wp_region_held_drew (S:=Xd X D5 r J.toArray) (by kernel_rfl) G (fun j=>?_);have hc:=hc.2;generalize w5.drew=u0 at j G hc ⊢;iterate 8
     refine qy (v:=?_) j ?_ ?_ (hQ:=fun _ _ _ h=>(Mg.no h).elim);rotate_left
     ·rintro w' ⟨c0,hr⟩;obtain⟨_,_,bN,bO⟩:=Y.out w' hr;go_simp;rfl
     try simp only[Act.put,sL]
    refine vk 8 11 [.tmp 113,.tmp 115,.tmp 117] [.pointer (some ⟨D5,0,none⟩),.int .u64 di,.int .u64 ta] hc ?_;rintro e u1 ⟨rfl,L,q1⟩;refine⟨_,rfl,L,fun j=>?_⟩;(try simp only[Act.put,sL]);refine wpAnyH_done (by kernel_rfl) ?_ _;go_wp2_with (fail)
    exact⟨rfl,by kernel_rfl,q1⟩
   | false =>
    have hc:=ak.out rfl;have h0:=aM.out.c0;go_wp2_with (go_at_call 9;refine hc.mono ?_;rintro e u1 ⟨rfl,q1⟩;have bA:=hid q1;clear q1 hc)
    exact⟨rfl,by kernel_rfl,bA.out⟩
  simp only[Jj,WqW,Wvu,Act.put,WvZ,WvX,WvQ];obtain⟨D6,bP,a6⟩:=I;have O:=hid a6;clear a6 aj ak aM;go_wp2_with (first
   | (go_at_call 12;refine O.out.mono ?_;rintro e w7 ⟨D3,rfl,W2,aQ,c8⟩;obtain⟨xc,az⟩:∃ x,w7.heap.size=x:=⟨_,rfl⟩;rw[az] at c8;have bw:=hid az;have bp:=hid aQ;have C8:=hid c8;clear aQ c8 az O)
   | (refine z8 rfl (.agg #[.pointer (some ⟨D3,0,none⟩),.pointer none,.pointer none]) (zjY 41 0 (.tmp 128) rfl (.pointer (some ⟨D3,0,none⟩)) _ rfl (bd41b ⟨D3,0,none⟩ _)) ?_;go_frame)
   | (go_at_call 8;rw[bp.out,bw.out];refine C8.out.mono ?_;rintro e w8 ⟨rfl,aw,⟨Z,hz⟩,R3,W4,aR,av,K⟩;have bq:=hid aR;have C13:=hid K;clear aR K C8)
   | (go_at_call 13;rw[bq.out];refine C13.out.mono ?_;rintro e w9 ⟨b,rfl,ht,hf⟩;have HT:=hid ht;have HF:=hid hf;clear ht hf C13 aw hz av;refine Stp.out ?_))
  refine⟨?_⟩;repeat (first | (refine Qq 37 ?_) | go_skip | go_guarded | go_step | go_upon)
  refine⟨Qz [10,145,146,147,148,149,150,151,152,153,154,155,156] (fun y W=>R4 cr w X i (y 10) W) ?_ (fun y4 W I=>?_)⟩
  ·cases b with
   | true =>
    go_wp2_with (fail)
    exact⟨rfl,by kernel_rfl,rfl,A,HT.out (by first | rfl | trivial)⟩
   | false =>
    obtain⟨aw,bF,W6,aS,av,K⟩:=HF.out (by first | rfl | trivial);have bu:=hid aS;have C13:=hid K;clear aS K;go_wp2_with (go_at_call 13;rw[bu.out];refine C13.out.mono ?_;rintro e u1 ⟨rfl,q2⟩;have bB:=hid q2;clear q2 C13 aw bF av)
    exact⟨rfl,by kernel_rfl,rfl,B,bB.out⟩
  simp only[Jj,WqW,Wvu,Act.put,WvZ,WvX,WvQ];rw[I.t];obtain⟨P,q2⟩:=I.q;have ap:=hid q2;clear I q2 HT HF;repeat (first | (refine Qq 40 ?_) | go_skip | go_guarded | go_step | go_upon)
  refine⟨Qz [10,157,158,159,160,161,162,163,164,165,166,167,168,169,170] (fun y W=>R5 w X i (y 10) W) ?_ (fun y5 W' I=>?_)⟩
  ·cases cr with
   | true =>
    go_wp2_with (fail)
    exact⟨rfl,by kernel_rfl,rfl,P,ap.out.1 (by first | rfl | trivial)⟩
   | false =>
    obtain⟨R,G,hc⟩:=ap.out.2 (by first | rfl | trivial);go_wp2_with (fail)
    refine wp_region_held_drew (S:=Xc X R P) (by kernel_rfl) G (fun j=>?_);generalize W.drew=u0 at j G hc ⊢;iterate 8
     refine qy (v:=?_) j ?_ ?_ (hQ:=fun _ _ _ h=>(Mg.no h).elim);rotate_left
     ·rintro w' ⟨c1,c2⟩;go_simp;rfl
     try simp only[Act.put,sL]
    refine vk 8 13 [.tmp 165,.tmp 169] [.pointer (some ⟨R,0,none⟩),.pointer (some ⟨P,0,none⟩)] hc ?_;rintro e u1 ⟨rfl,L,q3⟩;refine⟨_,rfl,L,fun j=>?_⟩;(try simp only[Act.put,sL]);iterate 1
     refine qy (v:=?_) j ?_ ?_ (hQ:=fun _ _ _ h=>(Mg.no h).elim);rotate_left
     ·rintro w' ⟨c1,c2⟩;go_simp;rfl
     try simp only[Act.put,sL]
    refine wpAnyH_done (by kernel_rfl) ?_ _;go_wp2_with (fail)
    exact⟨rfl,by kernel_rfl,rfl,P,q3⟩
  simp only[Jj,WqW,Wvu,Act.put,WvZ,WvX,WvQ];rw[I.t];obtain⟨P3,D7,bQ,a6⟩:=I.q;have O:=hid a6;clear I a6 ap;go_wp2_with (first
   | (go_at_call 12;refine O.out.mono ?_;rintro e v1 ⟨D4,rfl,hc,hf,c8⟩;have C8:=hid c8;clear c8 O)
   | (go_at_call 8;refine C8.out.mono ?_;rintro e v2 ⟨rfl,R4,be,K⟩;have XC:=hid be;have C13:=hid K;clear K be C8))
  have G:=XC.out;refine wp_region_held_drew (S:=Xc X R4 P3) (by kernel_rfl) G (fun j=>?_);generalize v2.drew=u0 at j G C13 ⊢;iterate 13
   refine qy (v:=?_) j ?_ ?_;rotate_left
   ·rintro w' ⟨c1,c2⟩;go_simp;rfl
   try simp only[Act.put,sL]
  refine qjk 13 13 [.tmp 189,.tmp 193] [.pointer (some ⟨R4,0,none⟩),.pointer (some ⟨P3,0,none⟩)] C13.out ?_;rintro e u1 ⟨rfl,L,hI⟩;refine⟨_,rfl,L,fun j=>?_⟩;have HI:=hid hI;try simp only[Act.put,sL]
  iterate 2
   refine qy (v:=?_) j ?_ ?_;rotate_left
   ·rintro w' ⟨c1,c2⟩;go_simp;rfl
   try simp only[Act.put,sL]
  refine wpAnyH_done (by kernel_rfl) ?_ _;clear j L hI G C13 XC;go_wp2_with (fail)
  go_roundg (N-(i+1));case measure=>omega
  case rel=>exact⟨i+1,rfl,by go_num,rfl,by omega,HI⟩
end Go.Proofs.YtdnphaganajejaaGreatDoor.K
