import Derived.Test.YtdnphaganajejaaGreatDoorMz12
set_option linter.unusedSimpArgs false
set_option linter.unusedVariables false
set_option maxRecDepth 20000
set_option maxHeartbeats 4000000
open List renaming length_append->Wzy,length_cons->Wzu,length_nil->WzQ,length_take->WzJ,take_take->WyY
open Nat renaming le_refl->Wz8,min_eq_left->Wq3,zero_le->Wqw
open Option renaming bind_some->WyW,getD_some->Wx0,some->Wq8
namespace Go.Proofs.YtdnphaganajejaaGreatDoor.K
open Go.Proofs.Tryz
open Go.RowKit
theorem results12:f12.results=#[.tmp 2]:=by kernel_rfl
structure Qa (C gc gsc kB:Nat) (ka:Option Addr) (kn kc:Nat) (W:World):Prop where
 c0:W.cell? ⟨C,0,none⟩=some (.map (some gc))
 c1:W.cell? ⟨C,1,none⟩=some (.map (some gsc))
 c2:W.cell? ⟨kB,0,none⟩=some (.slice ka kn kc)
structure Qb (C gc gsc:Nat) (x:Str) (p:Value) (W:World):Prop where
 c0:W.cell? ⟨C,0,none⟩=some (.map (some gc))
 c1:W.cell? ⟨C,1,none⟩=some (.map (some gsc))
 lk:(Instr.lookup 60 (.map (some gc)) (.string ⟨x.toArray⟩) false).run prog W=.ok p W
theorem kX {w:World} {B e k n:Nat} {v:Value} {xs:List Value} (h:w.ownsRow B e k v n xs):w.ownsRow 0 e k v n xs:=by
 obtain⟨j,A | ⟨g,cap,cur,hv,_,r⟩⟩:=h
 ·exact⟨j,.inl A⟩
 exact⟨j,.inr ⟨g,cap,cur,hv,Wqw _,r⟩⟩
theorem TR.it {z:Value} {w:World} {g r n c:Nat} {M:Str->Option Value} {L:Str->Bool} (h:TR z w g r n M L c):∃ a b d e,w.heap[r]? = some (.mapIter a b d e):=by
 obtain⟨D,lf,⟨es,ck,A,j,c0,hb,_,_,_,hr,_⟩,_⟩:=h;exact⟨_,_,_,_,hr⟩
theorem Tb {w w':World} (h:w.grownBy w' none):Below w.heap.size w w':=⟨h.os,h.tape,h.output,h.size,fun k j=>h.block k j (by simp)⟩
def cnt (f:Nm):Nat:=(if f pr=none then 0 else 1)+(if f nw=none then 0 else 1)
theorem CK (f:Nm):cnt f<=2:=by unfold cnt;split <;> split <;> omega
theorem UK {f f':Nm} {y:Str} {B:Nat} (h:∀ z,f' z=if z=y then some B else f z) (j:f y=none) (hy:y=pr ∨ y=nw):cnt f'=cnt f+1:=by
 unfold cnt;rw[h pr,h nw];rcases hy with rfl | rfl
 ·rw[if_pos rfl,if_neg X9,j];simp;omega
 rw[if_neg (Ne.symm X9),if_pos rfl,j];simp
theorem Dm0.cop {S:Nat->Prop} {N N' C:Nat} {w u:World} {M:Ds} {G:Dg} (h:Dm0 S N w C true M G) (hf:Vq M) (y:Str) (hy:y=pr ∨ y=nw) (au:M.now y=none) (B:Nat) (zs:List Int) (v:Value) (hk:∀ (i:Nat) (o:Obj),w.heap[i]? = some o->(∀ e k,o ≠ .map e k)->u.heap[i]? = some o) (hsz:w.heap.size<=u.heap.size) (hB:w.heap.size<=B) (a8:u.heap[B]? = some (.cells #[v,.int .i64 zs.length] 84 (0,0))) (hv:u.ownsRow 0 5 1 v zs.length (row .u8 zs)) (ad:∀ k,v.ownBlock=some k->w.heap.size<=k/\k<u.heap.size)
  (aj:TM (.pointer none) u G.g (G.n+1) (fun z=>if z=y then some (.pointer (some ⟨B,0,none⟩)) else pt M.now z)) (Z:TM (.pointer none) u G.gs (G.ns+1) (fun z=>if z=y then some (.pointer (some ⟨B,0,none⟩)) else pt M.saf z)) (ao:(zs.length:Int)<=G.rm) (hN:G.n+1<=N'/\G.ns+1<=N') :
  ∃ a6 G',Dm0 (fun i=>S i ∨ (w.heap.size<=i/\i<u.heap.size)) N' u C true a6 G'/\Vq a6/\G'.rm=G.rm/\G'.n=G.n+1/\G'.ns=G.ns+1/\(∀ z,Ra.ct a6 z=if z=y then some zs else Ra.ct M z)/\∀ z,a6.now z=if z=y then some B else M.now z:=by
 have ap:M.nd B=none:=by
  cases e:M.nd B with
  | none=>rfl
  | some c=>have:=h.nd_lt e;omega
 obtain⟨b1,b2,hb,hc⟩:=h.box;have ah:G.ls=[]:=by have:=h.ml;rw[hf.mvs] at this;exact List.map_eq_nil_iff.1 this
 have J:∀ z B',M.now z=some B'->B' ≠ B:=fun z B' A e=>by
  obtain⟨c,hc⟩:=h.dom_now A;rw[e,ap] at hc;cases hc
 obtain⟨O,V⟩:∃ O:Nm,O=fun z=>if z=y then some B else M.now z:=⟨_,rfl⟩;obtain⟨dd,L⟩:∃ dd:Nat->Option (List Int × Nat),dd=fun i=>if i=B then some (zs,zs.length) else M.nd i:=⟨_,rfl⟩;have ak:pt O=fun z=>if z=y then some (.pointer (some ⟨B,0,none⟩)) else pt M.now z:=by
  funext z;rw[V];simp only[pt];by_cases e:z=y <;> simp[e]
 have a7:∀ k,Ra.As.at_ (⟨O,O,[],dd⟩:Ds) k=O:=fun k=>by
  show Ra.nmS O (([] : List (List Mo)).take k)=O;rw[List.take_nil];rfl
 have ae:∀ z B',O z=some B'->∃ c,dd B'=some c:=fun z B' A=>by
  rw[V] at A;simp only at A;by_cases e:z=y
  ·rw[if_pos e] at A;cases A;exact⟨(zs,zs.length),by rw[L];simp⟩
  rw[if_neg e] at A;obtain⟨c,hc⟩:=h.dom_now A;exact⟨c,by rw[L];simp only;rw[if_neg (J z B' A)];exact hc⟩
 refine⟨⟨O,O,[],dd⟩,{ G with vs:=fun i=>if i=B then v else G.vs i,n:=G.n+1,ns:=G.ns+1 },⟨⟨b1,b2,hk _ _ hb (fun _ _ e=>by cases e),hc⟩,?_,?_,h.ne,fun D zd sd I=>?_,fun D E d e I hE ai=>?_,h.mv.to (fun i hi=>.inl hi) hsz (fun i cs T f _ hi=>hk _ _ hi (fun _ _ e=>by cases e)),?_,?_,⟨.inl h.own.1,.inl h.own.2.1,.inl h.own.2.2⟩,⟨a7 _,fun k z B' A=>?_,fun k z z' B' A K=>?_,fun D zd sd I=>?_⟩,fun k z A=>?_,fun D zd sd I=>?_,h.rmb⟩,⟨rfl,rfl,fun D zd sd I=>?_⟩,rfl,rfl,rfl,fun z=>?_,fun z=>by rw[V]⟩
 ·show TM _ u G.g (G.n+1) (pt O);rw[ak];exact aj
 ·show TM _ u G.gs (G.ns+1) (pt O);rw[ak];rw[hf.sf] at Z;exact Z
 ·rw[L] at I;simp only at I;by_cases e:D=B
  ·rw[if_pos e] at I;cases Wq8.inj I
   subst e;simp only[if_true];exact⟨⟨a8,hv⟩,.inr ⟨hB,z7 a8⟩,fun k Y=>.inr (ad k Y)⟩
  rw[if_neg e] at I;simp only[e,if_false];obtain⟨n1,n2,n3⟩:=h.nds D zd sd I;refine⟨⟨hk _ _ n1.box (fun _ _ e=>by cases e),?_⟩,.inl n2,fun k Y=>.inl (n3 k Y)⟩;obtain⟨ag,h1 | ⟨g,cap,cur,ar,am,hh,r⟩⟩:=n1.own
  ·exact⟨ag,.inl h1⟩
  exact⟨ag,.inr ⟨g,cap,cur,ar,am,hk _ _ hh (fun _ _ e=>by cases e),r⟩⟩
 ·have hold:∀ D d,M.nd D=some d->∀ k,(G.vs D).ownBlock=some k->k<w.heap.size:=fun D d I k Y=>by
   obtain⟨zd,sd⟩:=d;obtain⟨c',f',hc⟩:=yY (h.nds D zd sd I).1.own k Y;exact z7 hc
  rw[L] at I hE;simp only at I hE;by_cases e1:D=B
  ·by_cases e2:E=B
   ·exact absurd (e1.trans e2.symm) ai
   rw[if_neg e2] at hE;simp only[e1,e2,if_true,if_false];cases e5:v.ownBlock with
   | none=>exact .inl rfl
   | some k =>
    refine .inr fun e6=>?_;have h1:=hold E e hE k e6.symm;have h2:=(ad k e5).1;omega
  rw[if_neg e1] at I;by_cases e2:E=B
  ·simp only[e1,e2,if_true,if_false];cases e5:(G.vs D).ownBlock with
   | none=>exact .inl rfl
   | some k =>
    refine .inr fun e6=>?_;have h1:=hold D d I k e5;have h2:=(ad k e6.symm).1;omega
  rw[if_neg e2] at hE;simp only[e1,e2,if_false];exact h.sep D E d e I hE ai
 ·show G.ls.map _=[];rw[ah];rfl
 ·have:=hN;show G.n+1<=N'/\G.ns+1+2*G.ls.length<=N';rw[ah];simp only[WzQ];omega
 ·rw[a7] at A;exact ae z B' A
 ·rw[a7] at A K;rw[V] at A K;simp only at A K;by_cases e:z=y
  ·by_cases e':z'=y
   ·rw[e,e']
   rw[if_pos e] at A;cases A
   rw[if_neg e'] at K;exact absurd rfl (J z' B K)
  rw[if_neg e] at A;by_cases e':z'=y
  ·rw[if_pos e'] at K;cases K
   exact absurd rfl (J z B A)
  rw[if_neg e'] at K;exact h.inj_now A K
 ·have j:dd D=some (zd,sd):=I;rw[L] at j;simp only at j;by_cases e:D=B
  ·rw[if_pos e] at j;cases Wq8.inj j;exact Wz8 _
  rw[if_neg e] at j;exact h.wf.le D zd sd j
 ·rw[a7] at A;rw[V] at A;simp only at A;by_cases e:z=y
  ·rw[e];exact hy
  rw[if_neg e] at A;exact h.two_now A
 ·have j:dd D=some (zd,sd):=I;rw[L] at j;simp only at j;by_cases e:D=B
  ·rw[if_pos e] at j;cases Wq8.inj j;exact ao
  rw[if_neg e] at j;exact h.ln D zd sd j
 ·have j:dd D=some (zd,sd):=I;rw[L] at j;simp only at j;by_cases e:D=B
  ·rw[if_pos e] at j;cases Wq8.inj j;rfl
  rw[if_neg e] at j;exact hf.all D zd sd j
 show (O z).bind (fun B=>(dd B).map (·.1))=_;rw[V,L];simp only;by_cases e:z=y
 ·rw[if_pos e,if_pos e];simp
 rw[if_neg e,if_neg e];unfold Ra.ct;cases e2:M.now z with
 | none=>rfl
 | some B'=>simp[J z B' e2]
def Cp (r:Nat) (a:Ds) (rm:Int) (C:Nat) (L:Str->Bool) (wr:World):Prop := ∃ ac G,Dm0 (fun i=>r<=i/\i<wr.heap.size) 2 wr C true ac G/\Vq ac/\G.rm=rm/\G.n<=cnt ac.now/\G.ns<=cnt ac.now/\∀ y,y.length<=4000->Ra.ct ac y=if L y then none else Ra.ct a y
theorem Sv (S:Nat->Prop) (N D:Nat) (q:Bool) (a:Ds) (w:World) (h:Dm S N w D q a) (hN:N<=90000) :
  Calls prog 12 #[.pointer (some ⟨D,0,none⟩)] w fun e w'=>∃ C,e=.returned (.pointer (some ⟨C,0,none⟩))/\Below w.heap.size w w'/\w.heap.size<=C/\∃ ac,Dm (fun i=>w.heap.size<=i/\i<w'.heap.size) 2 w' C true ac/\Vq ac/\∀ y,y.length<=4000->Ra.ct ac y=Ra.ct a y:=by
 obtain⟨G,h⟩:=h;obtain⟨h0,_,_,h3,_⟩:=h.c0;have aH:=Y0 G.rm h.rmb.1 h.rmb.2 w;have H:Hid (Dm0 S N w D q a G):=h;obtain⟨g,ap⟩:∃ g,Hid (G.g=g):=⟨_,rfl⟩;rw[ap.out] at h0;obtain⟨r,HR⟩:=nm_ w.heap.size;rw[HR.out] at aH ⊢;have ai:Hid (∀ W,Below r w W->Dm0 S N W D q a G):=fun W hW=>H.out.below (by rw[HR.out];exact hW);clear h;go_enter func12,ntmps12
 go_wp2_with (first
  | (go_at_call 6;refine aH.mono ?_;rintro e w1 ⟨C,rfl,hC,⟨G0,bm,aJ⟩,ax⟩;have bX:=((ai.out _ ax).c0).1;rw[ap.out] at bX;have aM:=hid bm;have bg:=hid aJ;have aL:=hid ax;obtain⟨w2,c0,bE,hT,bq,bH⟩:=(ai.out _ ax).now.range Zj;rw[ap.out] at bE hT;have HT:=hid hT;have bf:=hid bq;have bL:=hid bH;clear bm ax hT bq bH aJ)
  | (at_range;refine z8 rfl _ (vv rfl rfl bE) ?_))
 go_frame;go_loopg [4] c0 (fun q _ wr=>∃ (c:Nat) (L:Str->Bool),q=c/\Hid (TR (.pointer none) wr g w1.heap.size G.n (pt a.now) L c)/\Hid (Below r w wr)/\Hid (Cp r a G.rm C L wr))
 case atStart=>exact⟨c0,_,rfl,HT,hid (aL.out.trans ((Tb (bf.out)).mono (by have:=aL.out.size;have:=HR.out;omega))),hid ⟨ds0,G0,((aM.out.below (Tb bf.out)).mono (fun i hi=>⟨hi.1,by have:=bL.out;omega⟩) (Wqw _)),zx2,bg.out,by have:=aM.out.few;omega,by have:=aM.out.few;omega,fun y hy=>by cases e:a.now y <;> simp[pt,e,ds0,Ra.ct]⟩⟩
 obtain⟨c,L,hq,bi,HW,b9⟩:=hrel;rcases bi.out.next 0 with ⟨rfl,aE,hr⟩ | ⟨y,v,w2,c',hL,hM,hr,aQ,hc,aY,cq,bV⟩
 ·have b8:=hid aE;clear aE;go_wp2_with (at_next;refine z8 rfl _ (qW rfl rfl hr) ?_;go_frame)
  refine bodyPost_ret (results_tmp results12 _ _ _) rfl ⟨C,rfl,HW.out,hC,?_⟩;obtain⟨ac,Gc,h1,h2,h3,h4,h5,h6⟩:=b9.out;refine⟨ac,⟨Gc,h1⟩,h2,fun y hy=>?_⟩;rw[h6 y hy,b8.out y hy];simp
 obtain⟨kB,hk,rfl⟩:=UJ hM;obtain⟨ac,Gc,hd,bp,aK,bA,bB,aW⟩:=b9.out;obtain⟨gc,ag⟩:∃ g,Hid (Gc.g=g):=⟨_,rfl⟩;obtain⟨M,O⟩:=nm_ Gc.gs;have tI:Tf 0 wr w2:=bi.out.tf aY 0;have ay:Dm0 (fun i=>r<=i/\i<w2.heap.size) 2 w2 C true ac Gc:=(hd.tf tI (by omega) (by decide)).mono (fun i hi=>⟨hi.1,by have:=hi.2;omega⟩) (Wz8 _)
 have c8:r<=w1.heap.size:=by have:=aL.out.size;have:=HR.out;omega
 have cp:w1.heap.size<w2.heap.size:=by have:=aQ.lt.1;omega
 have aR:Below r w w2:=HW.out.grown aY (by omega) (fun k hk=>by cases hk;exact c8);have V:=ai.out _ aR;obtain⟨⟨kz,ks⟩,aA⟩:=V.dom_now hk;obtain⟨aB,-⟩:=V.nds kB kz ks aA;have b7:=V.two_now (x:=y) (by rw[hk];simp);have ao:y.length<=4000:=by rcases b7 with rfl | rfl <;> decide
 have aF:Ra.ct a y=some kz:=by unfold Ra.ct;rw[hk,WyW,aA];rfl
 have au:Hid (ac.now y=none):=hid (by
  have h1:=aW y ao;rw[hL] at h1;cases e:ac.now y with
  | none=>rfl
  | some B' =>
   obtain⟨c',bU⟩:=ay.dom_now e;unfold Ra.ct at h1;rw[e,WyW,bU] at h1;cases h1)
 obtain⟨ka,kc,b2⟩:=zu aB.own;obtain⟨kn,ar⟩:=nm_ kz.length;have bz:=V.ln kB kz ks aA;have bF:=V.rmb;have bY:kz.length<=500000000:=by omega
 have bK:=hid bz;have be:=hid aF;have bJ:=hid bp;have bI:=hid aW;have aN:=hid (And.intro bA bB);have aC:=hid aK;have aw:=hid b7;have bM:Hid (∀ W,Below w2.heap.size w2 W->Sl W ka kc kz):=fun W hW=>by
  have:=aB.own;rw[b2] at this;exact(Kk this).below hW
 have HQ:Hid (∀ W,Below w2.heap.size w2 W->Qa C gc M kB ka kn kc W):=fun W hW=>by
  have h1:=(ay.below hW).c0;have h2:W.heap[kB]? = some (.cells #[G.vs kB,.int .i64 ks] 84 (0,0)):=(aB.tf (T:=0) (.below hW) (by decide) (by decide)).box;have bw:G.vs kB=.slice ka kn kc:=by rw[<-ar.out];exact b2
  rw[bw] at h2;rw[ag.out,O.out] at h1;exact⟨h1.1,h1.2.1,by simp[World.cell?,h2]⟩
 have a6:=hid ay;have aj:=hid aR;have bh:=hid aQ;unfold sV at hr bV;clear hd ay aR aQ tI aB aY b2 hM V aA bz bF aF bp aW bA bB aK b7;go_wp2_with (at_next;refine z8 rfl _ (qW rfl rfl hr) ?_;go_frame)
 have bn:Qa C gc M kB ka kn kc w2.drew:=HQ.out _ (zj _ _ 1);refine wp_region_held_drew (S:=Qa C gc M kB ka kn kc) (by kernel_rfl) bn (fun j=>?_);clear bn;have aS:Below w2.heap.size w2 w2.drew:=zj _ _ 1;have cf:w2.drew.heap.size=w2.heap.size:=rfl;generalize w2.drew=u0 at j aS cf ⊢;iterate 9
  refine qy (v:=?_) j ?_ ?_;rotate_left
  ·rintro w' ⟨c0,c1,c2⟩;go_simp;rfl
  try simp only[Act.put,sL]
 refine tZ (i:=10) j ?_;try simp only[Act.put,sL]
 refine tZ (i:=11) j ?_;try simp only[Act.put,sL]
 refine tZ (i:=12) j ?_;try simp only[Act.put,sL]
 refine tZ (i:=13) j ?_;try simp only[Act.put,sL]
 refine tZ (i:=14) j ?_;try simp only[Act.put,sL]
 have bo:=Uj ka kc kz u0 (bM.out _ aS) bY;rw[ar.out] at bo;refine wpAnyH_ready (rs:=[9]) (by kernel_rfl) (by simp) ?_;refine xw rfl (fun KK K=>?_) AllReadyH.nil;refine qY (by rfl) 28 [.tmp 29] #[82] [.slice ka kn kc] _ (by rfl) (by rfl) (fun w=>by kernel_rfl) bo ?_;rintro e Z ⟨cv,rfl,aX,bT⟩
 have ad:Below w2.heap.size w2 Z:=aS.trans (bT.mono (by omega));refine⟨_,rfl,K.out _ _ (HQ.out _ ad) (fun A=>?_)⟩;clear K KK j;have j:=A;clear A;obtain⟨va,vn,vc,rfl⟩:=DY aX;try simp only[Act.put,sL]
 refine tZ (i:=15) j ?_;try simp only[Act.put,sL]
 obtain⟨u2,av⟩:=nm_ (Z.alloc (.cells #[.slice va vn vc,.int .i64 kn] 84));have ak:Below Z.heap.size Z u2:=by rw[<-av.out];exact(Below.refl _ _).alloc (Wz8 _) _
 have I:Below w2.heap.size w2 u2:=ad.trans (ak.mono ad.size);refine wpAnyH_ready (rs:=[16]) (by kernel_rfl) (by simp) ?_;refine xw rfl (fun KK K=>?_) AllReadyH.nil;refine jX (by rfl) (.pointer (some ⟨Z.heap.size,0,none⟩)) (w':=u2) (by rw[<-av.out];go_simp) ?_;refine K.out _ _ (HQ.out _ I) (fun A=>?_);clear K KK j;have j:=A
 clear A;try simp only[Act.put,sL]
 obtain⟨cA,cn,am,-⟩:=(a6.out.below I).box;rw[ag.out,O.out] at am;have J:TM (.pointer none) u2 M Gc.ns (pt ac.saf):=by have:=(a6.out.below I).safe;rw[O.out] at this;exact this
 have a7:TM (.pointer none) u2 gc Gc.n (pt ac.now):=by have:=(a6.out.below I).now;rw[ag.out] at this;exact this
 have aZ:gc ≠ M:=by rw[<-ag.out,<-O.out];exact a6.out.ne
 have bW:=a6.out.few;obtain⟨u3,bD,a8,ah⟩:=a7.put (by omega) Zj ao (.pointer (some ⟨Z.heap.size,0,none⟩));unfold sV at bD;refine wpAnyH_ready (rs:=[17]) (by kernel_rfl) (by simp) ?_;refine xw rfl (fun KK K=>?_) AllReadyH.nil;refine GJ (by rfl) (xq rfl rfl rfl rfl bD) ?_
 have aO:∀ (i:Nat) (c:Array Value) (T:TypeId) (f:Nat × Nat),u2.heap[i]? = some (.cells c T f)->u3.heap[i]? = some (.cells c T f):=fun i c T f hi=>by
  obtain⟨es,ck,az⟩:=a7.box;exact Tf.grown az ah hi
 have aV:=aO _ _ _ _ am;have b6:Qa C gc M kB ka kn kc u3:=by
  obtain⟨⟨ci,cg⟩,bC⟩:=(ai.out _ (aj.out.trans (I.mono (by omega)))).dom_now hk;have h5:=((ai.out _ (aj.out.trans (I.mono (by omega)))).nds kB ci cg bC).1.box;have h6:=aO _ _ _ _ h5;obtain⟨a1,a2,a3⟩:=HQ.out _ I;unfold dB at aV;refine⟨by simp[World.cell?,aV],by simp[World.cell?,aV],?_⟩;rw[<-a3];exact World.cell?_of_block (a:=⟨kB,0,none⟩) (h6.trans h5.symm)
 refine K.out _ _ b6 (fun A=>?_);clear K KK j A;try simp only[Act.put,sL]
 refine wpAnyH_done (by kernel_rfl) ?_ _;go_wp2_with fail
 have bZ:(Instr.lookup 60 (.map (some gc)) (.string ⟨y.toArray⟩) false).run prog u3.drew=.ok (.pointer (some ⟨Z.heap.size,0,none⟩)) u3.drew:=by
  have:=(a8.sm (W:=u3.drew) rfl).look1 Zj (T6 _) ao;simp only[if_true,Wx0] at this;exact this
 have bQ:∀ W:World,W.heap[gc]? = u3.heap[gc]?->(Instr.lookup 60 (.map (some gc)) (.string ⟨y.toArray⟩) false).run prog W=.ok (.pointer (some ⟨Z.heap.size,0,none⟩)) W:=fun W hW=>by
  have:=(a8.sm (W:=W) hW).look1 Zj (T6 _) ao;simp only[if_true,Wx0] at this;exact this
 obtain⟨u5,aI,aD,Y⟩:=((J.sm (W:=u3) (ah.block _ J.lt (fun e=>aZ (Wq8.inj e).symm))).sm (W:=u3.drew) rfl).put (by omega) Zj ao (.pointer (some ⟨Z.heap.size,0,none⟩));unfold sV at aI;refine wp_region_held_drew (S:=Qb C gc M y (.pointer (some ⟨Z.heap.size,0,none⟩))) (by kernel_rfl) ⟨b6.c0,b6.c1,bZ⟩ (fun j=>?_);iterate 10
  refine qy (v:=?_) j ?_ ?_;rotate_left
  ·rintro w' ⟨c0,c1,lk⟩;go_simp;rfl
  try simp only[Act.put,sL]
 refine qZ (i:=10) (v:=.pointer (some ⟨Z.heap.size,0,none⟩)) j (fun w' cc=>QV (mv:=.map (some gc)) (kv:=.string ⟨y.toArray⟩) rfl rfl rfl cc.lk) ?_;try simp only[Act.put,sL]
 refine wpAnyH_ready (rs:=[11]) (by kernel_rfl) (by simp) ?_;refine xw rfl (fun KK K=>?_) AllReadyH.nil;refine GJ (by rfl) (xq (mv:=.map (some M)) (kv:=.string ⟨y.toArray⟩) (v:=.pointer (some ⟨Z.heap.size,0,none⟩)) rfl rfl rfl rfl aI) ?_
 have aP:∀ (i:Nat) (c:Array Value) (T:TypeId) (f:Nat × Nat),u2.heap[i]? = some (.cells c T f)->u5.heap[i]? = some (.cells c T f):=fun i c T f hi=>by
  obtain⟨es,ck,az⟩:=aD.box;have h7:=aO i c T f hi;refine(Y.block i (z7 h7) fun e=>?_).trans h7;cases e
  obtain⟨bP,bO,ae⟩:=(J.sm (W:=u3) (ah.block _ J.lt (fun e=>aZ (Wq8.inj e).symm))).box;rw[h7] at ae;cases ae
 have aG:u5.heap[gc]? = u3.heap[gc]? := Y.block _ a8.lt (fun e=>aZ (Wq8.inj e));have aU:=aP _ _ _ _ am;have c6:Qb C gc M y (.pointer (some ⟨Z.heap.size,0,none⟩)) u5:=by
  unfold dB at aU;exact⟨by simp[World.cell?,aU],by simp[World.cell?,aU],bQ u5 aG⟩
 refine K.out _ _ c6 (fun A=>?_);clear K KK j A;try simp only[Act.put,sL]
 refine wpAnyH_done (by kernel_rfl) ?_ _;go_wp2_with fail
 go_roundg c';case measure=>omega
 case rel =>
 have hS:=a6.out.own;have cw:=I.size;have cj:=ak.size;have cy:=ah.size;have cz:u3.heap.size<=u5.heap.size:=Y.size;have cu:w2.heap.size<=Z.heap.size:=ad.size;have cm:u2.heap.size=Z.heap.size+1:=by rw[<-av.out];simp
 have bG:r<=w2.heap.size:=by have:=aj.out.size;have:=HR.out;omega
 have br:g<r:=by rw[<-HR.out,<-ap.out];exact H.out.now.lt
 have bR:r<=gc:=by rw[<-ag.out];exact hS.2.1.1
 have bS:r<=M:=by rw[<-O.out];exact hS.2.2.1
 have bk:Below r w u5:=((aj.out.trans (I.mono bG)).grown ah (by omega) (fun q hq=>by cases hq;exact bR)).trans ((Below.refl r u3).grown ⟨Y.os,Y.tape,Y.output,Y.size,Y.block⟩ (by omega) (fun q hq=>by cases hq;exact bS));obtain⟨m1,m2,m3,m4,hit⟩:=bh.out.it
 have bu:∀ (i:Nat) (o:Obj),w2.heap[i]? = some o->(∀ e k,o ≠ .map e k)->u5.heap[i]? = some o:=fun i o hi ho=>by
  have h2:u2.heap[i]? = some o:=(I.block i (z7 hi)).trans hi;obtain⟨es,ck,az⟩:=a7.box;obtain⟨bP,bO,ae⟩:=J.box;have bj:u3.heap[i]? = some o:=(ah.block i (z7 h2) (fun e=>by cases e;rw[az] at h2;cases h2;exact ho _ _ rfl)).trans h2;exact(Y.block i (z7 bj) (fun e=>by cases e;rw[ae] at h2;cases h2;exact ho _ _ rfl)).trans bj
 have ca:u5.ownsRow 0 5 1 (.slice va vn vc) kz.length (row .u8 kz):=by
  rw[ar.out];obtain⟨hl,h1 | ⟨q,cap,cur,hv,_,hh,rr⟩⟩:=aX
  ·exact⟨hl,.inl h1⟩
  exact⟨hl,.inr ⟨q,cap,cur,hv,Wqw _,aP _ _ _ _ ((ak.block q (z7 hh)).trans hh),rr⟩⟩
 have cb:∀ q,(Value.slice va vn vc).ownBlock=some q->w2.heap.size<=q/\q<u5.heap.size:=fun q hq=>by
  have:=yu aX q hq;exact⟨by omega,by omega⟩
 obtain⟨bN,G',p1,p2,p3,p4,p5,p6,p7⟩:=a6.out.cop (N':=2) bJ.out y aw.out au.out Z.heap.size kz (.slice va vn vc) bu (by omega) (by omega) (by rw[ar.out];exact aP _ _ _ _ (by rw[<-av.out];exact heap_alloc_new _ _)) ca cb (by rw[ag.out];exact a8.sm aG) (by rw[O.out];exact aD) (by rw[aC.out];exact bK.out) (by have:=aN.out;have h9:=UK (B:=Z.heap.size) (f':=fun z=>if z=y then some Z.heap.size else ac.now z) (fun _=>rfl) au.out aw.out;have:=CK (fun z=>if z=y then some Z.heap.size else ac.now z);omega)
 refine⟨c',_,rfl,hid (bh.out.kept ?_ ((bu _ _ hit (fun _ _ e=>by cases e)).trans hit.symm)),hid bk,hid ⟨bN,G',p1.mono (fun i hi=>by rcases hi with hi | hi;exact⟨hi.1,by have:=hi.2;omega⟩;exact⟨by omega,hi.2⟩) (Wz8 _),p2,p3.trans aC.out,by have:=aN.out;have:=UK p7 au.out aw.out;omega,by have:=aN.out;have:=UK p7 au.out aw.out;omega,fun y0 ce=>?_⟩⟩
 ·exact(bk.block g br).trans (aj.out.block g br).symm
 rw[p6 y0];by_cases e:y0=y
 ·subst e;simp[be.out]
 rw[if_neg e,bI.out y0 ce];simp[e]
section
variable {P : Program} {md : Region.Mode} {ops : Array Oper} {Q : Exit → Act → World → Prop} {S : World → Prop} {n : Nat}
def U0 (P:Program) (md:Region.Mode) (ops:Array Oper) (Q:Exit->Act->World->Prop) (S:World->Prop) (n:Nat):Nat->Array Bool->Act->World->Prop
 | 0,listed,a,w=>Region.ready md ops listed=[]/\Q .normal a w
 | fuel+1,listed,a,w =>
  (Region.ready md ops listed=[]->Q .normal a w)/\
  ∀ i ∈ Region.ready md ops listed,wpOp P ops Q i (fun a' w'=>(i=n ∨ S w')/\U0 P md ops Q S n fuel (listed.setIfInBounds i true) a' w') a w
theorem Sw:∀ (fuel:Nat) (listed:Array Bool) (a:Act) (w:World),U0 P md ops Q S n fuel listed a w->wpAny P md ops Q fuel listed a w
 | 0,_,_,_,h=>h
 | fuel+1,_,_,_,h=>⟨h.1,fun i hi=>wpOp_mono (fun j w' A=>Sw fuel _ j w' A.2) (h.2 i hi)⟩
def F9 (md:Region.Mode) (ops:Array Oper) (n i:Nat):Bool:=match ops[n]? with
 | some o=>o.after.any fun e=>Region.binds md e && e.on == i
 | none=>true
theorem qz9 {i:Nat} {O:Oper} {v:Value} (hi:ops[i]? = some O) (L:∀ (j:Nat) (o:Oper) cs b,ops[j]? = some o->o.op ≠ .select cs b) (hn:F9 md ops n i=true)
  (hQ:∀ c a w,Q (.panic c) (a.put O.dst v) w->Q (.panic c) a w) :
  ∀ (fuel:Nat) (listed:Array Bool) (a:Act) (w:World),
   (∀ j V,ops[j]? = some V->j ≠ i->listed.getD j true=false->(∀ e ∈ V.after,Region.binds md e=true->e.on ≠ i)->O.apart ops V=true) →
   i ∈ Region.ready md ops listed->YieldsIf P ops S O v a->S w →
   U0 P md ops Q S n fuel (listed.setIfInBounds i true) (a.put O.dst v) w->U0 P md ops Q S n (fuel+1) listed a w:=by
 intro fuel;induction fuel with
 | zero =>
  intro listed a w _ hr hy Y H;refine⟨fun h=>(by rw[h] at hr;cases hr),fun j hj=>?_⟩;by_cases A:j=i
  ·subst A;exact hy.wpOp hi Y ⟨.inr Y,H⟩
  have:=ready_mono hj A;rw[H.1] at this;cases this
 | succ fuel ih =>
  intro listed a w D hr hy Y H;refine⟨fun h=>(by rw[h] at hr;cases hr),fun j hj=>?_⟩;by_cases A:j=i
  ·subst A;exact hy.wpOp hi Y ⟨.inr Y,H⟩
  have h1:=H.2 j (ready_mono hj A);obtain⟨J,V,I,Z⟩:=mem_ready.1 hj;have K:∀ e ∈ V.after,Region.binds md e=true->e.on ≠ i:=fun e he hb ac=>by
   have g1:=Z e he hb;have g0:=(mem_ready.1 hr).1;rw[ac] at g1;rcases Nat.lt_or_ge i listed.size with h' | h'
   ·simp[h'] at g0 g1;rw[g0] at g1;cases g1
   simp[Array.getElem?_eq_none h'] at g1
  have ad:j ≠ n:=fun e=>by
   subst e;unfold F9 at hn;rw[I] at hn;simp only[Array.any_eq_true] at hn;obtain⟨k,hk,M⟩:=hn;simp only[Bool.and_eq_true,beq_iff_eq] at M;exact K _ (Array.getElem_mem hk) M.1 M.2
  have h2:=wpOp_putIf I (D j V I A J K) (fun cs b=>L i O cs b hi) (fun cs b=>L j V cs b I) hQ hy h1;have G:∀ k ok,ops[k]? = some ok->k ≠ i->(listed.setIfInBounds j true).getD k true=false →
    (∀ e ∈ ok.after,Region.binds md e=true->e.on ≠ i)->O.apart ops ok=true:=fun k ok hk ae a7 ag=>by
   refine D k ok hk ae ?_ ag
   by_cases a6:j=k
   ·subst a6;exact J
   ·rw[getD_set_ne true a6] at a7;exact a7
  refine wpOp_mono (fun a' w' h3=>⟨h3.2.1,?_⟩) h2;have a8:S w':=h3.2.1.resolve_left ad;refine ih (listed.setIfInBounds j true) a' w' G (ready_mono hr (Ne.symm A)) h3.1 a8 ?_;rw[Array.setIfInBounds_comm _ _ A];exact h3.2.2
end
theorem takeU {P:Program} {md:Region.Mode} {Q:Exit->Act->World->Prop} {S:World->Prop} {n:Nat} {l:List Oper} {i:Nat} {A:Oper} {v:Value} {fuel:Nat} {listed:Array Bool} {a:Act} {w:World} (hi:l[i]? = some A)
  (hs:Region.noSelect l.toArray=true) (G:Region.free md l.toArray listed i=true) (hr:(Region.ready md l.toArray listed).contains i=true) (I:F9 md l.toArray n i=true)
  (hQ:∀ c a w,Q (.panic c) (a.put A.dst v) w->Q (.panic c) a w) (hy:YieldsIf P l.toArray S A v a) (D:S w)
  (h:U0 P md l.toArray Q S n fuel (listed.setIfInBounds i true) (a.put A.dst v) w):U0 P md l.toArray Q S n (fuel+1) listed a w:=by
 have j:l.toArray[i]? = some A:=by rw[List.getElem?_toArray];exact hi
 exact qz9 j (Region.noSelect_spec hs) I hQ fuel listed a w (Region.free_spec j G) (by simpa using hr) hy D h
def oneU (P:Program) (md:Region.Mode) (ops:Array Oper) (Q:Exit->Act->World->Prop) (S:World->Prop) (n fuel:Nat) (listed:Array Bool) (a:Act) (w:World) (i:Nat):Prop :=
 wpOp P ops Q i (fun a' w'=>(i=n ∨ S w')/\U0 P md ops Q S n fuel (listed.setIfInBounds i true) a' w') a w
theorem xZ {P:Program} {md:Region.Mode} {Q:Exit->Act->World->Prop} {S:World->Prop} {n i fuel:Nat} {ops:Array Oper} {listed:Array Bool} {a:Act} {w:World} (hr:Region.ready md ops listed=[i])
  (h:oneU P md ops Q S n fuel listed a w i):U0 P md ops Q S n (fuel+1) listed a w :=
 ⟨fun h0=>(by rw[hr] at h0;cases h0),fun j A=>by rw[hr] at A;obtain rfl:=List.mem_singleton.1 A;exact h⟩
theorem ju {P:Program} {md:Region.Mode} {Q:Exit->Act->World->Prop} {S:World->Prop} {n:Nat} {l:List Oper} {fuel:Nat} {listed:Array Bool} {a:Act} {w:World} {i:Nat} {o:Oper} (J:l[i]? = some o)
  (h:∀ j:Act->World->Prop,Shut (∀ a w,(i=n ∨ S w)->U0 P md l.toArray Q S n fuel (listed.setIfInBounds i true) a w->j a w)->if Region.wanted o (yielded l.toArray a.tmps)=true then Oper.wp P o a w j Q else j (a.put o.dst undef) w) :
  oneU P md l.toArray Q S n fuel listed a w i:=by
 have A:l.toArray[i]? = some o:=by rw[List.getElem?_toArray];exact J
 exact wpOp_step A (fun j D=>h j (fun a w G I=>D a w ⟨G,I⟩))
theorem Su {P:Program} {md:Region.Mode} {Q:Exit->Act->World->Prop} {S:World->Prop} {n:Nat} {ops:Array Oper} {listed:Array Bool} {a:Act} {w:World} (hr:Region.ready md ops listed=[]) (h:Q .normal a w) :
  ∀ fuel,U0 P md ops Q S n fuel listed a w
 | 0=>⟨hr,h⟩
 | _+1=>⟨fun _=>h,by rw[hr];simp⟩
theorem Y5 {P:Program} {Q:Exit->Act->World->Prop} {id:Nat} {a:Act} {w:World} {ops:Array Oper} (S:World->Prop) (n:Nat) (j:P.follows .mixedOrders=true)
  (h:U0 P .any ops Q S n ops.size (Array.replicate ops.size false) a w.drew):(Code.region id ops true).wp P Q a w :=
 wp_region_any j (Sw _ _ _ _ h)
theorem QZ {P:Program} {md:Region.Mode} {Q:Exit->Act->World->Prop} {S:World->Prop} {n:Nat} {l:List Oper} {i:Nat} {j:Oper} {v:Value} {fuel:Nat} {listed:Array Bool} {a:Act} {w:World} (A:S w)
  (hy:∀ w',S w'->(execOp a.eval j).run P w'=.ok (.value v) w')
  (h:U0 P md l.toArray Q S n fuel (listed.setIfInBounds i true) (a.put j.dst v) w) (hx:listed.toList.findIdx? (fun b => !b)=some i:=by rfl) (hi:l[i]? = some j:=by rfl)
  (hs:Region.noSelect l.toArray=true:=by kernel_rfl) (D:Region.free md l.toArray listed i=true:=by kernel_rfl) (hr:(Region.ready md l.toArray listed).contains i=true:=by kernel_rfl) (I:F9 md l.toArray n i=true:=by kernel_rfl) (hQ:∀ c a w,Q (.panic c) (a.put j.dst v) w->Q (.panic c) a w:=by exact fun _ _ _ h=>h) (G:Region.wanted j (yielded l.toArray a.tmps)=true:=by rfl) :
  U0 P md l.toArray Q S n (fuel+1) listed a w:=takeU hi hs D hr I hQ (Or.inl ⟨G,hy⟩) A h
theorem results9:f9.results=#[]:=by kernel_rfl
theorem results11:f11.results=#[]:=by kernel_rfl
theorem SZ (S:Nat->Prop) (N D:Nat) (q:Bool) (a:Ds) (ka ti:Int) (K:ka<=9223372036854775807) (L:ti<=9223372036854775807) (w:World) (h:Dm S N w D q a) :
  Calls prog 9 #[.pointer (some ⟨D,0,none⟩),.int .i64 ka,.int .i64 ti] w fun e w'=>e=.returned (.tuple #[])/\Dm S N w' D (decide (ka<=0/\ti<=0)) a/\Al S w w':=by
 obtain⟨G,h⟩:=h;obtain⟨wt,bd,hb,hc⟩:=h.box;obtain⟨x,hx⟩:∃ x,max ka 0=x:=⟨_,rfl⟩;obtain⟨y,hy⟩:∃ x,max ti 0=x:=⟨_,rfl⟩;have M:w.cell? ⟨D,4,none⟩=some (.int .i64 wt):=by unfold dB at hb;simp[World.cell?,hb]
 have O:w.cell? ⟨D,5,none⟩=some (.int .i64 bd):=by unfold dB at hb;simp[World.cell?,hb]
 have I:=h.c0.2.2.2.2 4;have J:=h.c0.2.2.2.2 5;have A:Hid (Dm S N ((w.setCell ⟨D,4,none⟩ (.int .i64 x)).setCell ⟨D,5,none⟩ (.int .i64 y)) D (decide (ka<=0/\ti<=0)) a/\Al S w ((w.setCell ⟨D,4,none⟩ (.int .i64 x)).setCell ⟨D,5,none⟩ (.int .i64 y))):=hid (by
  have j:(w.setCell ⟨D,4,none⟩ (.int .i64 x)).heap[D]? = some (dB G.g G.gs G.mv G.rm x bd):=by unfold dB at hb;rw[zV hb];rfl
  refine⟨⟨G,h.ctr (by simp[World.setCell]) (fun i hi=>(Below.heap_setCell _ _ _ _ hi).trans (Below.heap_setCell _ _ _ _ hi)) (wt:=x) (bd:=y) (by unfold dB at j;rw[zV j];rfl) ⟨by omega,by omega,by omega,by omega,fun e=>by simp only[decide_eq_true_eq] at e;omega⟩⟩,(Al.of_set (S:=S) (p:=⟨D,4,none⟩) h.own.1 _).trans (Al.of_set (S:=S) (p:=⟨D,5,none⟩) h.own.1 _) (fun i hi=>.inl hi)⟩)
 clear h hb hc;go_enter func9,ntmps9;go_wp2_with fail
 exact bodyPost_end (results_none results9 _ _ _) rfl ⟨rfl,A.out⟩
structure Cw (S:Nat->Prop) (w:World) (D:Nat) (G:Dg) (vs:Nat->Value) (sf:Nm) (nd:Nat->Option (List Int × Nat)) (now:Nm) (n:Nat):Prop where
 box:w.heap[D]? = some (dB G.g G.gs (.slice none 0 0) G.rm 0 0)
 now:TM (.pointer none) w G.g n (pt now)
 safe:TM (.pointer none) w G.gs G.ns (pt sf)
 ne:G.g ≠ G.gs
 nds:∀ B zs s,nd B=some (zs,s)->Nd w ⟨B,vs B,(s:Int),zs⟩/\S B/\∀ k,(vs B).ownBlock=some k->S k
 sep:∀ B C c d,nd B=some c->nd C=some d->B ≠ C->(vs B).ownBlock=none ∨ (vs B).ownBlock ≠ (vs C).ownBlock
 own:S D/\S G.g/\S G.gs
 ln:∀ B zs s,nd B=some (zs,s)->(zs.length:Int)<=G.rm
theorem qzz {w:World} {B e n:Nat} {a:Option Addr} {c:Nat} {zs:List Int} (h:w.ownsRow B e 1 (.slice a n c) n (row .u8 zs)) (M:zs.length=n) (j:Nat) (J:j<=n):w.ownsRow B e 1 (.slice a j c) j (row .u8 (zs.take j)):=by
 obtain⟨L,⟨hv,h0⟩ | ⟨g,cap,cur,hv,hb,I,K,D,G,A⟩⟩:=h
 ·cases hv
  obtain rfl:j=0:=by omega
  refine⟨by simp[row],.inl ⟨rfl,rfl⟩⟩
 cases hv
 refine⟨by rw[zv,WzJ,Wq3 (by omega),Nat.mul_one],.inr ⟨g,c,cur,rfl,hb,I,by omega,D,G,?_⟩⟩;rw[Nat.mul_one] at A ⊢;have:row .u8 (zs.take j)=(row .u8 zs).take j:=by unfold row;rw[List.map_take]
 rw[this,<-A,WyY,Wq3 J]
abbrev isN (x:Str):Bool:=Nm.isN x
theorem qX {x:Str} (h:isN x=true):x.length<=60:=by
 unfold isN Nm.isN at h;rw[Bool.or_eq_true] at h;rcases h with h | h
 ·rw[beq_iff_eq] at h;subst h;decide
 unfold Nm.docOk at h;simp only[Bool.and_eq_true,decide_eq_true_eq] at h;exact h.1.1.1.1
theorem results60:f60.results=#[.tmp 2]:=by kernel_rfl
theorem results53:f53.results=#[.tmp 2]:=by kernel_rfl
theorem x6 (s:Str) (w:World) (j:Nm.Mx w):Calls prog 60 #[sV s] w fun e w'=>e=.returned (.bool (isN s))/\Below w.heap.size w w':=by
 by_cases hs:s.length<=100000
 ·exact Nm.isName_any s hs w j
 have h:isN s=false:=by
  cases e:isN s with
  | false=>rfl
  | true=>have:=qX e;omega
 rw[h];have A:(s == [72,69,65,68])=false:=by
  rw[beq_eq_false_iff_ne];rintro rfl;simp at hs
 have D:¬ ((s.length:Int)<=60):=by omega
 unfold sV;go_enter func60,ntmps60;go_wp2_with fail
 exact bodyPost_ret (results_tmp results60 _ _ _) rfl ⟨rfl,Below.refl _ _⟩
theorem uq (s:Str) (w:World):Calls prog 53 #[sV s] w fun e w'=>e=.returned (.bool (isN s))/\Below w.heap.size w w':=by
 by_cases hs:s.length<=100000
 ·exact Nm.refName_any s hs w
 have h:isN s=false:=by
  cases e:isN s with
  | false=>rfl
  | true=>have:=qX e;omega
 rw[h];have j:(s == [72,69,65,68])=false:=by
  rw[beq_eq_false_iff_ne];rintro rfl;simp at hs
 have A:(60:Int)<(s.length:Int):=by omega
 unfold sV;go_enter func53,ntmps53;go_wp2_with fail
 exact bodyPost_ret (results_tmp results53 _ _ _) rfl ⟨rfl,Below.refl _ _⟩
end Go.Proofs.YtdnphaganajejaaGreatDoor.K
namespace Go.Proofs.YtdnphaganajejaaGreatDoor.Rk
open Go.Proofs.Tryz
def clP (ns:List (List UInt8)):Prop := ∃ b ∈ ns,∃ i,b[i]? = some 47/\b.take i ∈ ns
def clD (ns:List (List UInt8)):Prop := ∃ a ∈ ns,∃ b ∈ ns,(a++[47]).length<b.length/\b.take (a++[47]).length=a++[47]
theorem cl_iff (ns:List (List UInt8)) (h:∀ b ∈ ns,b.getLast? ≠ some 47):clP ns ↔ clD ns:=by
 constructor
 ·rintro⟨b,hb,i,hi,A⟩;have J:i<b.length:=by
   rw[List.getElem?_eq_some_iff] at hi;exact hi.1
  have K:i+1 ≠ b.length:=by
   intro I;apply h b hb;rw[List.getLast?_eq_getElem?,<-I];exact hi
  have hlen:(b.take i).length=i:=by rw[WzJ];omega
  refine⟨b.take i,A,b,hb,?_,?_⟩
  ·rw[Wzy,hlen];simp only[Wzu,WzQ];omega
  rw[Wzy,hlen];simp only[Wzu,WzQ,Nat.zero_add];rw[List.take_add_one,hi];rfl
 rintro⟨a,A,b,hb,L,G⟩;refine⟨b,hb,a.length,?_,?_⟩
 ·have D:(b.take (a++[47]).length)[a.length]? = some 47:=by rw[G];simp
  rw[List.getElem?_take] at D;simpa using D
 have j:(b.take (a++[47]).length).take a.length=a:=by rw[G];simp
 rw[WyY,Wzy] at j;rw[show min a.length (a.length+([47] : List UInt8).length)=a.length by omega] at j;rw[j];exact A
def blk (hd:List UInt8->List UInt8) (l:List UInt8):List UInt8:=hd l++l
def rdF {τ:Type} (cut:List UInt8->Option (List UInt8 × List UInt8)) (go:τ->List UInt8->Option τ):Nat->τ->List UInt8->Option τ
 | 0,t,b=>if b=[] then some t else none
 | n+1,t,b=>if b=[] then some t else (cut b).bind fun x=>(go t x.1).bind fun t'=>rdF cut go n t' x.2
end Go.Proofs.YtdnphaganajejaaGreatDoor.Rk
