import Derived.Test.YtdnphaganajejaaGreatDoorMz11
import Derived.Test.YtdnphaganajejaaGreatDoorMz05
set_option linter.unusedSimpArgs false
set_option linter.unusedVariables false
set_option maxRecDepth 20000
set_option maxHeartbeats 4000000
open List renaming flatMap_cons->Wzk,length_append->Wzy,length_eq_zero_iff->WzZ,length_nil->WzQ,length_singleton->WyV,mem_singleton->Wqk
open Nat renaming le_refl->Wz8,le_trans->Wz9,zero_le->Wqw
open Option renaming bind_some->WyW,some->Wq8
namespace Go.Proofs.YtdnphaganajejaaGreatDoor.K
open Go.Proofs.Tryz
open Go.RowKit
def eB (n:Int):List Value:=[.int .u8 n]
theorem VY (l:List Int):l.flatMap eB=row .u8 l:=by
 induction l with
 | nil=>rfl
 | cons x l h=>simp only[Wzk,h];rfl
theorem Sj {w:World} {a:Option Addr} {c:Nat} {l:List Int} (h:Sl w a c l):Px eB 1 0 w a c l :=
 ⟨h.capl,fun h0=>by
  obtain⟨b,off,e1,A,D⟩:=h.at_ h0
  refine⟨b,off,e1,A,fun i hi j v hv=>?_⟩
  have G:j=0:=by
   have:=(List.getElem?_eq_some_iff.1 hv).1
   simp only[eB,List.length_cons,WzQ] at this
   omega
  subst G
  simp only[eB,List.getElem?_cons_zero,Wq8.injEq] at hv
  subst hv
  have:=D i hi
  rw[Nat.mul_one]
  exact this,h.nil⟩
theorem Xk:(prog.info? 5).map (fun i=>(i.zero,i.size,i.bytes))=some (some (.int .u8 0),1,1):=by kernel_rfl
theorem uy:prog.underlying 82=some (.slice 5):=by kernel_rfl
theorem results90:f90.results=#[.tmp 6]:=by kernel_rfl
def fl (a:Ds) (x:Str):Nat:=((Ra.ct a x).map (·.length)).getD 0
theorem UJ {f:Nm} {x:Str} {v:Value} (h:pt f x=some v):∃ B,f x=some B/\v=.pointer (some ⟨B,0,none⟩):=by
 unfold pt at h;cases j:f x with
 | none=>rw[j] at h;cases h
 | some f=>rw[j] at h;exact⟨f,rfl,(Wq8.inj h).symm⟩
theorem qx9 {S:Nat->Prop} {w w':World} {a:Option Addr} {c:Nat} {l:List Int} (h:Sl w a c l) (G:∀ p:Addr,a=some p->¬ S p.block) (A:Al S w w'):Sl w' a c l :=
 ⟨h.capl,fun h0=>by
  obtain⟨b,off,e1,j,D⟩:=h.at_ h0
  refine⟨b,off,e1,Nat.lt_of_lt_of_le j A.size,fun i hi=>?_⟩
  rw[World.cell?_of_block (a:=⟨b,off+i,none⟩) (show w'.heap[b]? = w.heap[b]? from A.blk b j (G _ e1))]
  exact D i hi,h.nil⟩
def R9 (S:Nat->Prop) (N D:Nat) (q:Bool) (a:Ds) (x:Str) (bs:List Int) (w:World) (e:Ending) (w':World):Prop := ∃ v a',e=.returned v/\((a'=a/\Bad q w w' v (fun k=>(k=3/\a.now x=none) ∨ k=2)) ∨ (v=.nilIface/\∃ B zs s,a.now x=some B/\a.nd B=some (zs,s)/\a'=a.put B (zs++bs,s)))/\Dm (Sx S w w') N w' D q a'/\Al S w w'
theorem Kj (S:Nat->Prop) (N D:Nat) (q:Bool) (a:Ds) (x z:Str) (ab:Option Addr) (cb:Nat) (bs:List Int) (w:World) (h:Dm S N w D q a) (ap:x.length<=4000) (aF:z.length<=4000) (aE:x ≠ z) (ho:∀ y,a.now y ≠ none->y=x ∨ y=z) (hb:Sl w ab cb bs) (ay:∀ p:Addr,ab=some p->¬ S p.block) (aR:bs.length<=500000000) :
  Calls prog 90 #[.pointer (some ⟨D,0,none⟩),sV x,.slice ab bs.length cb] w (R9 S N D q a x bs w):=by
 obtain⟨G,h⟩:=h;have hf:=Zk S N D q a G x w h ap;obtain⟨lb,O⟩:=nm_ bs.length;have aG:Hid (∀ w1,Al S w w1->Sl w1 ab cb bs):=fun w1 j=>qx9 hb ay j;have HO:=hid ho;have ag:Hid (x ≠ z/\x.length<=4000/\z.length<=4000):=⟨aE,ap,aF⟩;rw[O.out] at aR ⊢;clear h ho aE ap aF hb ay;unfold sV at hf ⊢;go_enter func90,ntmps90
 go_wp2_with (go_at_call 81;refine hf.mono ?_;rintro e w1 ⟨v1,v2,rfl,z1,z2,z3,z4⟩;clear z4;have Z1:=hid z1;have Z2:=hid z2;have Z3:=hid z3;clear z1 z2 z3 hf;refine Hid.out ?_)
 refine hid ?_;rcases Z1.out with ⟨b,k,rfl,rfl,k1,k2,k3⟩ | ⟨B,k1,rfl,rfl⟩
 ·have HX:Hid (R9 S N D q a x bs w (.returned (eV b)) w1):=hid ⟨_,a,rfl,.inl ⟨rfl,b,k,rfl,k1,k2,k3.imp id .inl⟩,⟨G,Z2.out.mono (fun i hi=>.inl hi) (Wz8 _)⟩,Z3.out⟩;clear k1 k2 k3 Z1;go_wp2;exact bodyPost_ret (results_tmp results90 _ _ _) rfl HX.out
 have h:=Z2.out;obtain⟨⟨zs,s⟩,a6⟩:=h.dom_now k1;obtain⟨r,HR⟩:=nm_ w1.heap.size;obtain⟨lx,Q⟩:=nm_ zs.length;obtain⟨lz,ae⟩:=nm_ (fl a z);obtain⟨rm,A⟩:=nm_ G.rm;obtain⟨va,vc,hv⟩:=zu (h.nds B zs s a6).1.own;have HV:Hid (G.vs B=.slice va lx vc):=hid (by rw[<-Q.out];exact hv);have ah:Hid (0<=rm/\rm<=100000):=hid (by rw[<-A.out];exact h.rmb)
 have be:(lx:Int)<=100000:=by have:=h.ln B zs s a6;rw[Q.out,A.out] at this;have:=ah.out;omega
 have bf:(lz:Int)<=100000:=by
  have:=ah.out;rw[<-ae.out];unfold fl Ra.ct;cases e1:a.now z with
  | none=>simp
  | some C =>
   obtain⟨⟨zc,sc⟩,hc⟩:=h.dom_now e1;rw[WyW,hc];have:=h.ln C zc sc hc;rw[A.out] at this;simp only[Option.map_some,Option.getD_some];omega
 have aI:Hid (∀ C zc sc,a.now z=some C->a.nd C=some (zc,sc)->zc.length=lz):=fun C zc sc j h2=>by
  rw[<-ae.out];unfold fl Ra.ct;rw[j,WyW,h2];rfl
 obtain⟨w2,c0,ao,hT,J,aZ⟩:=h.now.range Zj;have ar:Hid (Below w1.heap.size w1 w2):=hid ⟨J.os,J.tape,J.output,J.size,fun k M=>J.block k M (by simp)⟩;obtain⟨g,aJ⟩:∃ g,Hid (G.g=g):=⟨_,rfl⟩;have aS:=h.c0.1;rw[aJ.out] at aS ao hT;rw[HR.out] at ao hT ar;have HT:Hid (TR (.pointer none) w2 g r G.n (pt a.now) (fun y=>(pt a.now y).isSome) c0):=hT
 have au:Hid (∀ W,Below r w1 W->Dm0 S N W D q a G):=fun W hW=>h.below (by rw[HR.out];exact hW);have aM:Hid (∀ W,Below r w1 W->Px eB 1 0 W ab cb bs):=fun W hW=>(Sj (aG.out w1 Z3.out)).below (by rw[HR.out];exact hW);have ac:=hid k1;have av:=hid a6;clear h hT J aZ k1 a6 hv Z1;go_wp2_with (at_range;refine z8 rfl _ (vv rfl rfl ao) ?_)
 go_frame;go_loopg [9] c0 (fun qq uv wr=>∃ (u c:Nat) (L:Str->Bool),uv=.int .i64 u/\qq=c/\u<=1000000000/\Hid (u=(if L x then 0 else lx)+(if L z then 0 else lz))/\Hid (TR (.pointer none) wr g r G.n (pt a.now) L c)/\Hid (Below r w1 wr));case atStart =>
  refine⟨0,c0,_,rfl,rfl,by omega,hid ?_,HT,ar⟩;have e1:(pt a.now x).isSome=true:=by simp[pt,ac.out]
  rw[e1];cases e2:(pt a.now z).isSome with
  | true=>rfl
  | false =>
   have:lz=0:=by
    rw[<-ae.out];unfold fl Ra.ct;cases e3:a.now z with
    | none=>rfl
    | some k=>simp[pt,e3] at e2
   simp[this]
 case round =>
 obtain⟨u,c,L,rfl,hq,hu,HU,aO,HW⟩:=hrel;have hD:=au.out _ HW.out;obtain⟨_,_,_,aU,_⟩:=hD.c0;rw[A.out] at aU;rcases aO.out.next 0 with ⟨rfl,K,hr⟩ | ⟨y,v,w3,c',hL,hM,hr,ax,hc,Z,b2,aV⟩
 ·have aD:u=lx+lz:=by have:=HU.out;rw[K x ag.out.2.1,K z ag.out.2.2] at this;simpa using this
  have aY:=ah.out;by_cases aX:rm-(u:Int)<(lb:Int)
  ·have HX:Hid (R9 S N D q a x bs w (.returned (eV wr.heap.size)) (wr.alloc (.cells #[sV x,.int .i64 2] 177))):=hid ⟨_,a,rfl,.inl ⟨rfl,_,2,rfl,by have:=HW.out.size;have:=HR.out;have:=Z3.out.size;omega,Tq _ _ _,.inr (.inr rfl)⟩,⟨G,(hD.below (qK _ _)).mono (fun i hi=>.inl hi) (Wz8 _)⟩,(Z3.out.trans (Al.below (S:=S) (by rw[HR.out];exact HW.out)) (fun i hi=>.inl hi)).trans (Al.below (S:=S) (qK _ _)) (fun i hi=>.inl hi)⟩
   unfold sV at HX;clear hD K aD;go_wp2_with (at_next;refine z8 rfl _ (qW rfl rfl hr) ?_;go_frame)
   exact bodyPost_ret (results_tmp results90 _ _ _) rfl HX.out
  have aL:Hid ((zs++bs).length<=rm):=hid (by rw[Wzy,Q.out,O.out];push_cast;omega);clear aD;have V:=av.out;obtain⟨hn,aw,am⟩:=hD.nds B zs s V;have ak:wr.heap[B]? = some (.cells #[.slice va lx vc,.int .i64 s] 84 (0,0)):=by have:=hn.box;rw[HV.out] at this;exact this
  have aQ:wr.cell? ⟨B,0,none⟩=some (.slice va lx vc):=by simp[World.cell?,ak]
  have az:Bx eB 1 5 wr wr 0 (.slice va lx vc) zs:=⟨Below.refl _ _,by rw[VY,<-HV.out];exact hn.own,Wqw _⟩;have aH:=hid az
  have HE:Hid (∀ v2 w2,Bx eB 1 5 wr w2 0 v2 (zs++bs)->Mv wr w2 (.slice va lx vc) v2->w2.frozen? ⟨B,0,none⟩=false/\w2.cell? ⟨B,0,none⟩=some (.slice va lx vc)/\R9 S N D q a x bs w (.returned .nilIface) (w2.setCell ⟨B,0,none⟩ v2)):=fun v2 w2 j h2=>by
   have aW:=hn.own;have t1:Tf 5 wr w2:=Tf.mv h2 (by rw[<-HV.out];exact yY aW);have I:=t1.of (by decide) ak;have t2:Tf 84 w2 (w2.setCell ⟨B,0,none⟩ v2):=Tf.set (p:=⟨B,0,none⟩) I v2;have hsz:(w2.setCell ⟨B,0,none⟩ v2).heap.size=w2.heap.size:=(by simp[World.setCell]);have bh:=h2.size;have bg:=HW.out.size;have b8:=Z3.out.size;have aY:=HR.out
   have b6:∀ k,v2.ownBlock=some k->Sx S w (w2.setCell ⟨B,0,none⟩ v2) k/\((G.vs B).ownBlock=some k ∨ wr.heap.size<=k):=fun k M=>by
    rcases h2.at_ with e1 | e1
    ·have e2:(G.vs B).ownBlock=some k:=(by rw[HV.out];exact e1 ▸ M);exact⟨.inl (am k e2),.inl e2⟩
    have h3:=e1 k M;have h4:=(yu j.own k M).2;exact⟨.inr ⟨by omega,by omega⟩,.inr h3⟩
   refine⟨by simp[World.frozen?,I],by simp[World.cell?,I],_,_,rfl,.inr ⟨rfl,B,zs,s,ac.out,V,rfl⟩,⟨_,hD.put (S':=Sx S w (w2.setCell ⟨B,0,none⟩ v2)) B zs (zs++bs) s s v2 V (by have:=hD.wf.le B zs s V;rw[Wzy];omega) (by rw[A.out];exact aL.out) (fun i o hi a7 aC=>?_) (by omega) (fun i hi=>.inl hi) ⟨by rw[zV I];rfl,?_⟩ b6⟩,?_⟩
   ·refine(Below.heap_setCell _ _ _ _ a7).trans ((h2.blk i (z7 hi) ?_).trans hi);rw[HV.out] at aC;exact aC
   ·have:=j.own;rw[VY] at this;exact zK this t2 (by decide)
   refine((Z3.out.trans (Al.below (S:=S) (by rw[HR.out];exact HW.out)) (fun i hi=>.inl hi)).trans (Al.of_mv (S:=S) h2 (fun k M=>?_)) (fun i hi=>.inl hi)).trans (Al.of_set (S:=S) (p:=⟨B,0,none⟩) aw v2) (fun i hi=>.inl hi);exact am k (by rw[HV.out];exact M)
  have aK:Hid (zs.length+bs.length<=1000000000):=hid (by rw[Q.out,O.out];omega);have b7:Hid (bs.length=lb):=O;clear hD hn ak V az K aw am;go_wp2_with (first
   | (at_next;refine z8 rfl _ (qW rfl rfl hr) ?_;go_frame)
   | (at_builtin;refine zy (enc:=eB) (k:=1) (d:=0) rfl _ _ 82 5 uy Xk rfl (by decide) (by decide) (fun x v hv=>by simp only[eB,Wqk] at hv;subst hv;rfl) rfl 0 _ zs rfl aH.out ab cb bs (by rw[O.out];rfl) (aM.out _ HW.out) (fun x _=>rfl) aK.out ?_;intro v2 w2 I J aB;obtain⟨q1,q0,q2⟩:=HE.out v2 w2 I aB;have Q2:=hid q2;obtain⟨xa,xn,xc,rfl⟩:=DY I.own;clear q2 J I aB))
  exact bodyPost_ret (results_tmp results90 _ _ _) rfl Q2.out
 obtain⟨C,M,rfl⟩:=UJ hM;obtain⟨⟨zc,sc⟩,Y⟩:=hD.dom_now M;obtain⟨hn,-⟩:=hD.nds C zc sc Y;obtain⟨ka,kc,aA⟩:=zu hn.own;obtain⟨kn,ad⟩:=nm_ zc.length;have a8:G.vs C=.slice ka kn kc:=by rw[<-ad.out];exact aA
 have aj:Below r w1 w3:=by
  have j:=HW.out;exact⟨Z.os.trans j.os,Z.tape.trans j.tape,Z.output.trans j.output,by have:=j.size;omega,fun i hi=>(Z.block i (by have:=j.size;have:=HR.out;omega) (by intro e;cases e;omega)).trans (j.block i hi)⟩
 have aQ:w3.cell? ⟨C,0,none⟩=some (.slice ka kn kc):=by
  have h5:w3.heap[C]? = some (.cells #[G.vs C,.int .i64 sc] 84 (0,0)):=((au.out _ aj).nds C zc sc Y).1.box;rw[a8] at h5;simp[World.cell?,h5]
 have ai:Hid (u+kn=(if (L x && decide (x ≠ y)) then 0 else lx)+(if (L z && decide (z ≠ y)) then 0 else lz)/\u+kn<=1000000000):=hid (by
  have j:=HU.out;have a7:=ag.out.1;rcases HO.out y (by rw[M];simp) with rfl | rfl
  ·have e0:=ac.out;rw[M] at e0;cases e0
   have e0:=av.out;rw[Y] at e0;cases Wq8.inj e0
   have e1:lx=kn:=(by rw[<-Q.out,<-ad.out]);simp only[hL,if_true] at j;have e2:decide (z ≠ y)=true:=decide_eq_true (fun e=>a7 e.symm);rw[e2];simp only[ne_eq,not_true_eq_false,decide_false,Bool.and_false,Bool.false_eq_true,if_false,Bool.and_true];constructor
   ·omega
   split at j <;> omega
  have h2:lz=kn:=by rw[<-aI.out C zc sc M Y];exact ad.out
  simp only[hL,if_true] at j;have e2:decide (x ≠ y)=true:=decide_eq_true a7;rw[e2];simp only[ne_eq,not_true_eq_false,decide_false,Bool.and_false,Bool.false_eq_true,if_false,Bool.and_true];constructor
  ·omega
  split at j <;> omega)
 have aN:=hid ax;have aP:=hid aj;unfold sV at hr aV;clear hD hn hM ax aj Z b2 M aA a8 Y;have b9:u+kn<=1000000000:=ai.out.2;go_wp2_with (at_next;refine z8 rfl _ (qW rfl rfl hr) ?_;go_frame)
 go_roundg c';case measure=>omega
 case rel=>exact⟨u+kn,c',_,by go_num,rfl,ai.out.2,hid ai.out.1,aN,aP⟩
theorem results28:f28.results=#[.tmp 2]:=by kernel_rfl
theorem results73:f73.results=#[.tmp 8,.tmp 9]:=by kernel_rfl
theorem results33:f33.results=#[.tmp 4,.tmp 5]:=by kernel_rfl
theorem results6:f6.results=#[.tmp 2]:=by kernel_rfl
theorem Kk {w:World} {B:Nat} {a:Option Addr} {n c:Nat} {zs:List Int} (h:w.ownsRow B 5 1 (.slice a n c) zs.length (row .u8 zs)):Sl w a c zs:=by
 have hB:Bx eB 1 5 w w 0 (.slice a n c) zs:=⟨Below.refl _ _,by
  rw[VY];obtain⟨A,j | ⟨g,cap,cur,hv,_,r⟩⟩:=h
  ·exact⟨A,.inl j⟩
  exact⟨A,.inr ⟨g,cap,cur,hv,Wqw _,r⟩⟩,Wqw _⟩
 obtain⟨I,J,e,j,-⟩:=hB.px (d:=0) (fun _ _=>rfl);cases e
 refine⟨j.capl,fun h0=>?_,j.nil⟩;obtain⟨b,off,e1,D,G⟩:=j.at_ h0;refine⟨b,off,e1,D,fun i hi=>?_⟩;have:=G i hi 0 (.int .u8 (zs.getD i 0)) rfl;simpa using this
theorem Uj (a:Option Addr) (c:Nat) (zs:List Int) (w:World) (h:Sl w a c zs) (O:zs.length<=500000000) :
  Calls prog 28 #[.slice a zs.length c] w fun e w'=>∃ v,e=.returned v/\w'.ownsRow w.heap.size 5 1 v zs.length (row .u8 zs)/\Below w.heap.size w w':=by
 obtain⟨L,D⟩:=nm_ zs.length;have Q:∀ (w:World) (a:Option Addr) (n c K G:Nat),(binOp .eql 82 (.slice a n c) (.slice none K G)).run prog w=.ok (.bool a.isNone) w:=fun w a n c K G=>Lib.run_eql_slice_nil w _ _ a n c K G uy;rw[D.out];cases a with
 | none =>
  have h0:zs=[]:=WzZ.1 (by have:=h.capl;have:=h.nil rfl;omega);subst h0;have:L=0:=D.out.symm;subst this;go_enter func28,ntmps28;go_wp2_with fail
  exact bodyPost_ret (results_tmp results28 _ _ _) rfl ⟨_,rfl,World.ownsRow_nil _ _ _ _,Below.refl _ _⟩
 | some p =>
  have M:Hid (Bx eB 1 5 w (w.alloc (.cells #[] 5)) w.heap.size (.slice (some ⟨w.heap.size,0,none⟩) 0 0) []):=hid ⟨(Below.refl _ w).alloc (Wz8 _) _,World.ownsRow_made w #[] 0 (Wz8 _) (Wqw _) (by simp),by simp⟩;have HP:Hid (Px eB 1 0 (w.alloc (.cells #[] 5)) (some p) c zs):=hid ((Sj h).below ((Below.refl _ w).alloc (Wz8 _) _))
  go_enter func28,ntmps28
  go_wp2_with (at_builtin;refine zy (enc:=eB) (k:=1) (d:=0) rfl _ _ 82 5 uy Xk rfl (by decide) (by decide) (fun x v hv=>by simp only[eB,Wqk] at hv;subst hv;rfl) rfl _ _ [] rfl M.out (some p) c zs (by rw[D.out];rfl) HP.out (fun x _=>rfl) (by simpa using Wz9 O (by decide)) ?_;intro v2 w2 A I J;have j:=hid A;clear A I J)
  refine bodyPost_ret (results_tmp results28 _ _ _) rfl ⟨_,rfl,?_,j.out.below⟩;have:=j.out.own;rw[List.nil_append,VY,D.out] at this;exact this
theorem OW (a:Option Addr) (n c:Nat) (h:n<=c) (j:a=none->c=0) (w:World):(Instr.slice 82 (.slice a n c) (some (.int .i64 0)) (some (.int .i64 n)) none).run prog w=.ok (.slice a n c) w:=by
 cases a with
 | none =>
  have:=j rfl;subst this;obtain rfl:n=0:=by omega
  go_simp
 | some p=>go_simp
theorem CJ (S:Nat->Prop) (N D:Nat) (a:Ds) (x:Str) (zs:List Int) (w:World) (h:Dm S N w D true a) (ad:x.length<=4000) (O:Ra.ct a x=some zs) :
  Calls prog 73 #[.pointer (some ⟨D,0,none⟩),sV x,.int .i64 0,.int .i64 9223372036854775807] w fun e w'=>∃ v,e=.returned (.tuple #[v,.nilIface])/\w'.ownsRow w.heap.size 5 1 v zs.length (row .u8 zs)/\Below w.heap.size w w':=by
 obtain⟨G,h⟩:=h;have hf:=Zk S N D true a G x w h ad;obtain⟨B,hB⟩:∃ B,a.now x=some B:=by
  unfold Ra.ct at O;cases e:a.now x with
  | none=>rw[e] at O;cases O
  | some B=>exact⟨B,rfl⟩
 obtain⟨⟨K,s⟩,A⟩:=h.dom_now hB;have ae:K=zs:=by
  unfold Ra.ct at O;rw[hB,WyW,A] at O;exact Wq8.inj O
 subst ae;have hl:K.length<=500000000:=by have:=h.ln B K s A;have:=h.rmb;omega
 have ah:max (9223372036854775807:Int) 0=9223372036854775807:=by decide
 clear O;obtain⟨I,L⟩:=nm_ K.length;have m1:min (0:Int) (I:Int)=0:=by omega
 have m3:min (9223372036854775807:Int) (I:Int)=(I:Int):=by rw[L.out] at hl;omega
 have ac:=hid A;have V:=hid hB;have a8:=hid hl;rw[L.out] at hl ⊢;clear h A hB;unfold sV at hf ⊢;go_enter func73,ntmps73;go_wp2_with (go_at_call 81;refine hf.mono ?_;rintro e w1 ⟨v1,v2,rfl,z1,z2,z3,z4⟩;have Z1:=hid z1;have Z2:=hid z2;have Z4:=hid (z4 rfl);clear z1 z2 z3 z4 hf;refine Hid.out ?_)
 refine hid ?_;rcases Z1.out with ⟨b,k,rfl,rfl,k1,k2,⟨_,k3⟩ | ⟨_,k3⟩⟩ | ⟨C,k1,rfl,rfl⟩
 ·cases k3
 ·rw[V.out] at k3;cases k3
 obtain rfl:C=B:=by rw[V.out] at k1;exact(Wq8.inj k1).symm
 have h:=Z2.out;obtain⟨hn,-⟩:=h.nds C K s ac.out;obtain⟨Q,J,hv⟩:=zu hn.own;have j:=hn.own;rw[hv] at j;have Y:=Uj Q J K w1 (Kk j) a8.out;have a6:K.length<=J:=(Kk j).capl;have a7:Q=none->J=0:=(Kk j).nil
 have M:w1.heap[C]? = some (.cells #[.slice Q K.length J,.int .i64 s] 84 (0,0)):=by have:=hn.box;rw[hv] at this;exact this
 rw[L.out] at M Y a6;have ag:w1.cell? ⟨C,0,none⟩=some (.slice Q I J):=by simp[World.cell?,M]
 have ai:(Instr.slice 82 (.slice Q I J) (some (.int .i64 0)) (some (.int .i64 I)) none).run prog w1=.ok (.slice Q I J) w1:=OW Q I J a6 a7 w1;clear h j M hn hv k1 Z1 a7;go_wp2_with (go_at_call 28;refine Y.mono ?_;rintro e w' ⟨v,rfl,k1,k2⟩;have K1:=hid k1;have K2:=hid k2;clear k1 k2)
 refine bodyPost_ret (results_tmp2 results73 _ _ _) rfl ⟨v,rfl,?_,Z4.out.trans (K2.out.mono Z4.out.size)⟩;obtain⟨Z,h1 | ⟨g,cap,cur,hv,hg,r⟩⟩:=K1.out
 ·exact⟨Z,.inl h1⟩
 exact⟨Z,.inr ⟨g,cap,cur,hv,Wz9 Z4.out.size hg,r⟩⟩
theorem Sk (S:Nat->Prop) (N D:Nat) (a:Ds) (x:Str) (k n:Int) (w:World) (h:Dm S N w D true a) (A:x.length<=4000) (O:a.now x=none) :
  Calls prog 73 #[.pointer (some ⟨D,0,none⟩),sV x,.int .i64 k,.int .i64 n] w fun e w'=>∃ b,e=.returned (.tuple #[.slice none 0 0,eV b])/\Er b 3 w'/\Below w.heap.size w w':=by
 obtain⟨G,h⟩:=h;have j:=Zk S N D true a G x w h A;clear h;unfold sV at j ⊢;go_enter func73,ntmps73;go_wp2_with (go_at_call 81;refine j.mono ?_;rintro e w1 ⟨Q,v2,rfl,z1,z2,z3,z4⟩;have J:=hid z1;have M:=hid (z4 rfl);clear z1 z2 z3 z4 j;refine Hid.out ?_)
 refine hid ?_;rcases J.out with ⟨b,k,rfl,rfl,k1,K,⟨_,I⟩ | ⟨rfl,I⟩⟩ | ⟨C,k1,rfl,rfl⟩
 ·cases I
 ·have L:=hid K;clear k1 K I J;go_wp2;exact bodyPost_ret (results_tmp2 results73 _ _ _) rfl ⟨b,rfl,L.out,M.out⟩
 rw[O] at k1;cases k1
theorem zx1 (S:Nat->Prop) (N D:Nat) (a:Ds) (x:Str) (zs:List Int) (w:World) (h:Dm S N w D true a) (j:x.length<=4000) (A:Ra.ct a x=some zs) :
  Calls prog 33 #[.pointer (some ⟨D,0,none⟩),sV x] w fun e w'=>∃ v,e=.returned (.tuple #[v,.nilIface])/\w'.ownsRow w.heap.size 5 1 v zs.length (row .u8 zs)/\Below w.heap.size w w':=by
 have hr:=CJ S N D a x zs w h j A;unfold sV at hr ⊢;go_enter func33,ntmps33;go_wp2_with (go_at_call 73;refine hr.mono ?_;rintro e w' ⟨v,rfl,k1,G⟩)
 exact bodyPost_ret (results_tmp2 results33 _ _ _) rfl ⟨v,rfl,k1,G⟩
theorem OY (S:Nat->Prop) (N D:Nat) (a:Ds) (x:Str) (w:World) (h:Dm S N w D true a) (j:x.length<=4000) (A:a.now x=none) :
  Calls prog 33 #[.pointer (some ⟨D,0,none⟩),sV x] w fun e w'=>∃ b,e=.returned (.tuple #[.slice none 0 0,eV b])/\Er b 3 w'/\Below w.heap.size w w':=by
 have hr:=Sk S N D a x 0 9223372036854775807 w h j A;unfold sV at hr ⊢;go_enter func33,ntmps33;go_wp2_with (go_at_call 73;refine hr.mono ?_;rintro e w' ⟨b,rfl,k1,G⟩)
 exact bodyPost_ret (results_tmp2 results33 _ _ _) rfl ⟨b,rfl,k1,G⟩
theorem mk50 (w:World):(Instr.makeMap 60 none).run prog w=.ok (.map (some w.heap.size)) (w.alloc (.map #[] 0)):=by kernel_rfl
structure Vq (a:Ds):Prop where
 sf:a.saf=a.now
 mvs:a.mvs=[]
 all:∀ B zs s,a.nd B=some (zs,s)->s=zs.length
def ds0:Ds:=⟨fun _=>none,fun _=>none,[],fun _=>none⟩
theorem zx2:Vq ds0:=⟨rfl,rfl,fun B zs s h=>by cases h⟩
theorem wf0:Ra.Wf ds0:=⟨rfl,fun k x B h=>by simp[Ra.As.at_,ds0,Ra.nmS] at h,fun k x y B h=>by simp[Ra.As.at_,ds0,Ra.nmS] at h,fun B z s h=>by cases h⟩
theorem Y0 (rm:Int) (hr0:0<=rm) (A:rm<=100000) (w:World):Calls prog 6 #[.int .i64 rm] w fun e w'=>∃ D,e=.returned (.pointer (some ⟨D,0,none⟩))/\w.heap.size<=D/\(∃ G,Dm0 (fun i=>w.heap.size<=i/\i<w'.heap.size) 0 w' D true ds0 G/\G.rm=rm)/\Below w.heap.size w w':=by
 obtain⟨o,K⟩:=nn_ (dB w.heap.size (w.heap.size+1) (.slice none 0 0) rm 0 0);have I:(w.alloc (.map #[] 0)).heap.size=w.heap.size+1:=by simp
 have J:((w.alloc (.map #[] 0)).alloc (.map #[] 0)).heap.size=w.heap.size+2:=by simp
 have Q:(((w.alloc (.map #[] 0)).alloc (.map #[] 0)).alloc o).heap.size=w.heap.size+3:=by simp
 have j:Hid ((∃ G,Dm0 (fun i=>w.heap.size<=i/\i<(((w.alloc (.map #[] 0)).alloc (.map #[] 0)).alloc o).heap.size) 0 (((w.alloc (.map #[] 0)).alloc (.map #[] 0)).alloc o) (w.heap.size+2) true ds0 G/\G.rm=rm)/\Below w.heap.size w (((w.alloc (.map #[] 0)).alloc (.map #[] 0)).alloc o)):=hid ⟨⟨⟨fun _=>.nilIface,w.heap.size,w.heap.size+1,.slice none 0 0,0,0,[],rm⟩,⟨⟨0,0,by have:=heap_alloc_new ((w.alloc (.map #[] 0)).alloc (.map #[] 0)) o;rw[J] at this;rw[this,K.out],⟨by omega,by omega,by omega,by omega,fun _=>⟨rfl,rfl⟩⟩⟩,((YX _ w).alloc _).alloc _,by have:=(YX (.pointer none) (w.alloc (.map #[] 0))).alloc o;rw[I] at this;exact this,by show w.heap.size ≠ w.heap.size+1;omega,fun B zs s h=>(by cases h),fun B C c d h=>(by cases h),⟨World.ownsRow_nil _ _ _ _,fun p O=>by simp at O,fun k L=>by cases L⟩,rfl,⟨Wz8 _,by simp⟩,⟨⟨by omega,by omega⟩,⟨Wz8 _,by show w.heap.size<_;omega⟩,⟨by show w.heap.size<=w.heap.size+1;omega,by show w.heap.size+1<_;omega⟩⟩,wf0,fun k x h=>by simp[Ra.As.at_,ds0,Ra.nmS] at h,fun B zs s h=>(by cases h),hr0,A⟩,rfl⟩,(((Below.refl _ w).alloc (Wz8 _) _).alloc (by omega) _).alloc (by omega) _⟩
 rw[K.out] at j;unfold dB at j;go_enter func6,ntmps6;have M:=mk50;go_wp2_with fail
 exact bodyPost_ret (results_tmp results6 _ _ _) rfl ⟨_,rfl,by omega,j.out⟩
abbrev srt (ss:List Str):List Str:=ss.mergeSort fun x y=>decide (x<=y)
theorem zx3 (B:Nat) (v:Value) (ss:List Str) (w:World) (h:w.ownsRow B 9 1 v ss.length (ss.map sV)) (J:ss.length<=1000000) :
  Calls prog 77 #[v] w fun e w'=>e=.returned (.tuple #[])/\w'.ownsRow B 9 1 v ss.length ((srt ss).map sV)/\w.grownBy w' v.ownBlock:=by
 obtain⟨hx,⟨rfl,h0⟩ | ⟨g,cap,cur,rfl,hb,j,D,G,I,A⟩⟩:=h
 ·refine(AnyM.slices_Sort_string_none sortT none 0 w).mono ?_;rintro e w' ⟨rfl,rfl⟩;have:ss=[]:=WzZ.1 h0;subst this;exact⟨rfl,by simp only[srt,List.mergeSort_nil,List.map_nil,WzQ];exact World.ownsRow_nil _ _ _ _,⟨rfl,rfl,rfl,Wz8 _,fun _ _ _=>rfl⟩⟩
 refine(AnyM.slices_Sort_string sortT g 0 cap ss w (holds_of_block j (by rw[Nat.mul_one] at A;exact A)) (z7 j) (by omega)).mono ?_;rintro e w' ⟨rfl,n,os,rfl⟩;exact⟨rfl,ownsRow_sorted (by simp) hb j D G I,grownBy_sorted _⟩
theorem uu (ss:List Str):(srt ss).Perm ss:=List.mergeSort_perm _ _
theorem results36:f36.results=#[.tmp 2]:=by kernel_rfl
def eT (x:Str):List Value:=[sV x]
theorem jV (l:List Str):l.flatMap eT=l.map sV:=by
 induction l with
 | nil=>rfl
 | cons x l h=>simp only[Wzk,h];rfl
theorem info9:(prog.info? 9).map (fun i=>(i.zero,i.size,i.bytes))=some (some (.string ⟨#[]⟩),1,16):=by kernel_rfl
theorem zx4:prog.underlying 98=some (.slice 9):=by kernel_rfl
theorem TR.own {z:Value} {w:World} {g r n c:Nat} {M:Str->Option Value} {L:Str->Bool} (h:TR z w g r n M L c) {B e k m:Nat} {v:Value} {xs:List Value} (j:w.ownsRow B e k v m xs):v.ownBlock ≠ some r/\v.ownBlock ≠ some g:=by
 obtain⟨D,lf,⟨es,ck,G,A,c0,hb,_,_,_,hr,_⟩,_⟩:=h;refine⟨fun e=>?_,fun e=>?_⟩
 ·obtain⟨c,f,hc⟩:=yY j _ e;rw[hr] at hc;cases hc
 obtain⟨c,f,hc⟩:=yY j _ e;rw[hb] at hc;cases hc
theorem zx5 (S:Nat->Prop) (N D:Nat) (q:Bool) (a:Ds) (w:World) (h:Dm S N w D q a) (hN:N<=90000) :
  Calls prog 36 #[.pointer (some ⟨D,0,none⟩)] w fun e w'=>∃ (v:Value) (ss:List Str),e=.returned v/\ss.Nodup/\(∀ y,y ∈ ss ↔ a.now y ≠ none)/\w'.ownsRow w.heap.size 9 1 v ss.length (ss.map sV)/\Below w.heap.size w w':=by
 obtain⟨G,h⟩:=h;obtain⟨g,ak⟩:∃ g,G.g=g:=⟨_,rfl⟩;obtain⟨n,a6⟩:∃ n,G.n=n:=⟨_,rfl⟩;obtain⟨h0,_⟩:=h.c0;obtain⟨w1,c0,Y,hT,j,aA⟩:=h.now.range Zj;rw[ak] at h0 Y hT;rw[a6] at hT;have hn:=h.few;rw[a6] at hn;have O:Hid (Below w.heap.size w w1):=hid ⟨j.os,j.tape,j.output,j.size,fun k M=>j.block k M (by simp)⟩
 have HT:Hid (TR (.pointer none) w1 g w.heap.size n (pt a.now) (fun y=>(pt a.now y).isSome) c0):=hT;have HS:Hid (∀ y,a.now y ≠ none->y.length<=4000):=fun y hy=>by
  cases e:a.now y with
  | none=>exact absurd e hy
  | some f=>rcases h.two_now (x:=y) (by rw[e];simp) with rfl | rfl <;> decide
 have aj:Hid (c0<=90000):=hid (by
  obtain⟨Dd,lf,h1,h2,h3⟩:=hT;have:=h1.owns.size_le;obtain⟨es,ck,si,se,q0,hb,F0,hs,hD,hr,hold,aD,rest⟩:=h1;have:(leftOf es se).size<=es.size:=by unfold leftOf;exact Array.size_filter_le
  omega)
 obtain⟨r,HR⟩:=nm_ w.heap.size;rw[HR.out] at Y HT O ⊢;clear h hT j aA;go_enter func36,ntmps36;go_wp2_with (at_range;refine z8 rfl _ (vv rfl rfl Y) ?_)
 go_frame;go_loopg [3] c0 (fun q uv wr=>∃ (c:Nat) (L:Str->Bool) (ss:List Str) (v:Value),v=uv/\q=c/\Hid (ss.length+c<=90000)/\Hid (ss.Nodup/\∀ y,y ∈ ss ↔ (a.now y ≠ none/\L y=false))/\Hid (TR (.pointer none) wr g r n (pt a.now) L c)/\Hid (Bx eT 1 9 w wr r v ss));case atStart =>
  refine⟨c0,_,[],_,rfl,rfl,hid (by simpa using aj.out),hid ⟨List.nodup_nil,fun y=>?_⟩,HT,hid ⟨O.out,World.ownsRow_nil _ _ _ _,by have:=O.out.size;have:=HR.out;omega⟩⟩;cases e:a.now y <;> simp[pt,e]
 obtain⟨c,L,ss,v,aC,hq,HL,Q,a7,A⟩:=hrel;subst aC;rcases a7.out.next 0 with ⟨rfl,J,hr⟩ | ⟨y,v2,w2,c',hL,hM,hr,a8,hc,I,ag,aw⟩
 ·have aB:=zx3 r v ss wr (by have:=A.out.own;rw[jV] at this;exact this) (by have:=HL.out;omega);have Z:=hid J;clear J;go_wp2_with (first
   | (at_next;refine z8 rfl _ (qW rfl rfl hr) ?_;go_frame)
   | (go_at_call 77;refine aB.mono ?_;rintro e w3 ⟨rfl,k1,k2⟩))
  refine bodyPost_ret (results_tmp results36 _ _ _) rfl ⟨_,srt ss,rfl,(uu ss).nodup_iff.2 Q.out.1,fun y=>?_,?_,?_⟩
  ·rw[(uu ss).mem_iff,Q.out.2 y];constructor
   ·exact fun h=>h.1
   exact fun h=>⟨h,Z.out y (HS.out y h)⟩
  ·rw[show (srt ss).length=ss.length from (uu ss).length_eq];exact k1
  exact A.out.below.grown k2 A.out.le (fun k M=>(yu A.out.own k M).1)
 obtain⟨k,M,rfl⟩:=UJ hM;have K:Below r w w2:=A.out.below.grown I A.out.le (fun k M=>by cases M;exact Wz8 _);obtain⟨V,az⟩:=a7.out.own A.out.own;have ad:Bx eT 1 9 w (w2.alloc (.cells #[sV y] 9)) r v ss:=Bx.alloc ⟨K,A.out.own.kept I (.inr V),by rw[ag];exact A.out.le⟩ _;have ai:=hid ad
 have ar:Hid ((ss++[y]).Nodup/\∀ q,q ∈ ss++[y] ↔ (a.now q ≠ none/\(L q && decide (q ≠ y))=false)):=hid (by
  obtain⟨h1,h2⟩:=Q.out;have ay:y ∉ ss:=fun h=>by have:=((h2 y).1 h).2;rw[hL] at this;cases this
  refine⟨List.nodup_append.2 ⟨h1,by simp,fun a ha b hb=>by simp only[Wqk] at hb;subst hb;exact fun e=>ay (e ▸ ha)⟩,fun q=>?_⟩;rw[List.mem_append,h2 q,Wqk];by_cases e:q=y
  ·subst e;simp[M]
  simp[e])
 have au:Hid (w2.ownsRow r 9 1 v ss.length (ss.flatMap eT)):=hid (A.out.own.kept I (.inr V));have av:=hid a8;have ao:Hid ((ss++[y]).length+c'<=90000):=hid (by have:=HL.out;rw[Wzy,WyV];omega);have am:Hid (ss.length + [y].length<=1000000000):=hid (by have:=HL.out;simp only[WyV];omega);unfold sV at hr aw
 clear K ad a8 hM M I ag V az hL;go_wp2_with (first
  | (at_next;refine z8 rfl _ (qW rfl rfl hr) ?_;go_frame)
  | (at_builtin;refine zy (enc:=eT) (k:=1) (d:=[]) rfl _ _ 98 9 zx4 info9 rfl (by decide) (by decide) (fun x v hv=>by simp only[eT,Wqk] at hv;subst hv;rfl) rfl r v ss rfl ai.out (some ⟨w2.heap.size,0,none⟩) 1 [y] rfl (x5 (enc:=eT) w2 y 9) (fun x _=>rfl) am.out ?_;intro v3 w3 ac ax ae;have ah:=hid ac;have ap:=hid ae;clear ac ax ae))
 go_roundg c';case measure=>omega
 case rel =>
 have ht:=av.out;obtain⟨q1,q2⟩:=ht.own au.out;have hsz:=ht.lt.1;have e1:∀ i,i<w2.heap.size->some i ≠ v.ownBlock->w3.heap[i]? = w2.heap[i]? := fun i hi hn=>(ap.out.blk i (by simp;omega) hn).trans (Below.heap_alloc _ _ _ hi);exact⟨c',_,ss++[y],_,rfl,rfl,ao,ar,hid (ht.kept (e1 _ ht.tm.lt (fun e=>q2 e.symm)) (e1 _ hsz (fun e=>q1 e.symm))),ah⟩
end Go.Proofs.YtdnphaganajejaaGreatDoor.K
