import Derived.Test.YtdnphaganajejaaGreatDoorMz34
import Derived.Test.YtdnphaganajejaaGreatDoorMz36
set_option linter.unusedSimpArgs false
set_option linter.unusedVariables false
set_option maxRecDepth 20000
set_option maxHeartbeats 4000000
open List renaming length_append->Wzy,length_map->Wx7,length_singleton->WyV,length_take->WzJ,size_toArray->Wyu
open Nat renaming le_refl->Wz8,lt_of_lt_of_le->Wq2,lt_or_ge->Wy4,zero_add->Wzz
open Option renaming some->Wq8
namespace Go.Proofs.YtdnphaganajejaaGreatDoor.K
open Go.Proofs.Tryz
open Go.RowKit
attribute [local instance low] Classical.propDecidable
theorem results72:f72.results=#[.tmp 4]:=by kernel_rfl
theorem QJ.below {A:Option Addr} {ty:TypeId} {w wr W:World} {q:Nat} (h:QJ A ty w wr q) (hb:Below wr.heap.size wr W):QJ A ty w W q:=fun g cur e hc=>by
 obtain⟨c,j,D⟩:=h g cur e hc;exact⟨c,(hb.block g (z7 j)).trans j,D⟩
theorem eqPer (p:Per) (W:World):(Op.equalIn 10000 72 (.agg (x8 p)) (.agg (x8 p))).run prog W=.ok true W:=by
 obtain⟨j,h,pt,A⟩:=p;unfold x8;simp only;generalize (⟨j.toArray⟩:ByteArray)=P1;generalize (⟨h.toArray⟩:ByteArray)=P2;go_simp
theorem qj6 (p:Per) (W:World):(binOp .neq 72 (.agg (x8 p)) (.agg (x8 p))).run prog W=.ok (.bool false) W:=by
 rw[run_neq_struct,eqPer p W];rfl
theorem zzW {P:Program} {o:Oper} {a:Act} {w:World} (t t2:TypeId) (x y:Operand) (j:o.op=.binOp .neq t x y t2) (u v:Value) (hx:a.eval x=u) (hy:a.eval y=v) {b:Bool} (h:(eqGuard .neq t x y u v).run P w=.ok () w) (hr:(binOp .neq t u v).run P w=.ok (.bool b) w):(execOp a.eval o).run P w=.ok (.value (.bool b)) w:=by
 unfold execOp;simp[j,hx,hy,h,hr,Result.andThen]
theorem qy2 (p q:Per) (h:p ≠ q) (W:World):(Op.equalIn 10000 72 (.agg (x8 p)) (.agg (x8 q))).run prog W=.ok false W:=by
 obtain⟨A,j,pt,Y⟩:=p;obtain⟨G,D,qt,Z⟩:=q;have h':¬ (A=G/\j=D/\pt=qt/\Y=Z):=fun e=>h (by simp[e]);unfold x8;simp only;obtain⟨I,M⟩:∃ P:ByteArray,⟨A.toArray⟩=P:=⟨_,rfl⟩;obtain⟨J,O⟩:∃ P:ByteArray,⟨j.toArray⟩=P:=⟨_,rfl⟩;obtain⟨Q1,Q⟩:∃ P:ByteArray,⟨G.toArray⟩=P:=⟨_,rfl⟩;obtain⟨Q2,V⟩:∃ P:ByteArray,⟨D.toArray⟩=P:=⟨_,rfl⟩
 have e1:I.toList=A:=by rw[<-M,Lib.toList_data]
 have e2:J.toList=j:=by rw[<-O,Lib.toList_data]
 have e3:Q1.toList=G:=by rw[<-Q,Lib.toList_data]
 have e4:Q2.toList=D:=by rw[<-V,Lib.toList_data]
 rw[M,O,Q,V];by_cases a1:A=G
 ·have K:I=Q1:=by rw[<-M,<-Q,a1]
  subst K;by_cases a2:j=D
  ·have L:J=Q2:=(by rw[<-O,<-V,a2]);subst L;by_cases a3:pt=qt
   ·subst a3;have a4:¬ Y=Z:=fun e=>h' ⟨a1,a2,rfl,e⟩;go_simp
   go_simp
  have a5:¬ J.toList=Q2.toList:=by rw[e2,e4];exact a2
  go_simp
 have a5:¬ I.toList=Q1.toList:=by rw[e1,e3];exact a1
 go_simp
theorem qy3 (p q:Per) (b:Bool) (h:decide (p ≠ q)=b) (W:World):(binOp .neq 72 (.agg (x8 p)) (.agg (x8 q))).run prog W=.ok (.bool b) W:=by
 by_cases e:p=q
 ·subst e;rw[qj6 p W,<-h];simp
 rw[run_neq_struct,qy2 p q e W,<-h];simp[e,Result.andThen]
structure Qp (gb g0 mb m0 K:Nat) (A A2:ByteArray) (O Nw PL O2 Nw2 PL2:List Value) (W:World):Prop where
 c1:W.cell? ⟨gb,g0+44,none⟩=some (.string A)
 c2:W.cell? ⟨mb,m0+45,none⟩=some (.string A2)
 o1:W.rangeAt gb g0 O
 n1:W.rangeAt gb (g0+20) Nw
 o2:W.rangeAt mb (m0+1) O2
 n2:W.rangeAt mb (m0+21) Nw2
 p2:W.rangeAt mb (m0+41) PL2
 p1:W.rangeAt K 0 PL
theorem xJ {w:World} {b o:Nat} {pre mid post:List Value} (h:w.rangeAt b o (pre++(mid++post))):w.rangeAt b (o+pre.length) mid:=fun j v hv=>by
 have:=h (pre.length+j) v (by
  rw[List.getElem?_append_right (by omega),Nat.add_sub_cancel_left,List.getElem?_append_left (List.getElem?_eq_some_iff.1 hv).1];exact hv)
 rw[<-this];congr 2;omega
def U6 (p:Per):List Value:=[.string ⟨p.name.toArray⟩,.string ⟨p.mail.toArray⟩,.int .i64 p.time,.int .i64 p.zone]
theorem XK (e:Le):qw e=[]++(row .u8 e.old++(row .u8 e.new++(U6 e.who++[sV e.text]))):=by unfold qw U6;simp
theorem ex_le {ms:List Ex} {i:Nat} (h:i<ms.length):(ms.map (·.2)).getD i dL=(ms.getD i dE).2:=by
 simp[List.getD_eq_getElem?_getD,List.getElem?_eq_getElem h]
set_option maxHeartbeats 8000000 in
theorem Mw (B:Nat) (v:Value) (V:List Le) (ms:List Ex) (a2:Option Addr) (c2:Nat) (w:World) (hB:w.ownsRow B 133 45 v V.length (V.flatMap qw)) (hP:Px yj 46 dE w a2 c2 ms) (aK:∀ p:Addr,a2=some p->v.ownBlock ≠ some p.block/\p.block<w.heap.size) (ar:∀ y ∈ V,vY y) (aL:∀ x ∈ ms,X7 x) (hn:ms.length<=1000000) (bH:V.length<=1000000) :
  Calls prog 72 #[v,.slice a2 ms.length c2] w fun e w'=>e=.returned (.bool (decide (V=ms.map (·.2))))/\Al (fun i=>v.ownBlock=some i) w w':=by
 obtain⟨va,vc,hv⟩:=zu hB;subst hv;by_cases hlen:V.length=ms.length;case neg =>
  have bj:decide (V=ms.map (·.2))=false:=decide_eq_false fun e=>hlen (by rw[e];simp);rw[bj];obtain⟨N,hN⟩:∃ N,V.length=N:=⟨_,rfl⟩;obtain⟨M,hM⟩:∃ N,ms.length=N:=⟨_,rfl⟩;rw[hN,hM] at hlen;rw[hN,hM];have bM:¬ ((N:Int)=(M:Int)):=by omega
  clear hB hP aK ar aL bj;go_enter func72,ntmps72;go_wp2;exact bodyPost_ret (results_tmp results72 _ _ _) rfl ⟨rfl,Al.refl _ _⟩
 obtain⟨N,HN⟩:=nm_ ms.length;have Y:Hid (V.length=N):=hid (by rw[hlen];exact HN.out);have bO:N<=1000000:=by rw[<-HN.out];exact hn
 rw[HN.out,Y.out];have HP:=hid hP;have HB:Hid (w.ownsRow B 133 45 (.slice va N vc) V.length (V.flatMap qw)):=hid (by rw[<-Y.out];exact hB);have br:=hid aL;have ay:=hid ar;have aV:Hid (∀ p:Addr,a2=some p->(Value.slice va N vc).ownBlock ≠ some p.block/\p.block<w.heap.size):=hid (by rw[<-Y.out];exact aK)
 have aQ:Hid ((∀ i,i<N->V.getD i dL=(ms.getD i dE).2)->V=ms.map (·.2)):=hid fun h=>by
  refine List.ext_getElem (by rw[Wx7,HN.out,Y.out]) fun i h1 h2=>?_;have h3:i<ms.length:=by simpa using h2
  have:=h i (by rw[<-Y.out];exact h1);rw[List.getD_eq_getElem?_getD,List.getElem?_eq_getElem h1,List.getD_eq_getElem?_getD,List.getElem?_eq_getElem h3] at this;simpa using this
 have ai:Hid (∀ i,i<N->V.getD i dL ≠ (ms.getD i dE).2->decide (V=ms.map (·.2))=false):=hid fun i hi h=>decide_eq_false fun e=>h (by
  rw[e,ex_le (by rw[HN.out];exact hi)])
 obtain⟨bb,aI⟩:∃ b,decide (V=ms.map (·.2))=b:=⟨_,rfl⟩;rw[aI] at ai ⊢;have bn:=hid aI;clear hP hB aL aK hn ar hlen bH aI;go_enter func72,ntmps72;go_wp2;go_loopg [5] N (fun q iv wr=>∃ i:Nat,iv=.int .i64 i/\q=N-i/\i<=N/\Hid (∀ j,j<i->V.getD j dL=(ms.getD j dE).2)/\Hid (Al (fun i=>(Value.slice va N vc).ownBlock=some i) w wr)/\Hid (QJ va 133 w wr (i*45)))
 case atStart=>exact⟨0,rfl,rfl,Nat.zero_le _,hid (fun j hj=>absurd hj (Nat.not_lt_zero j)),hid (Al.refl _ _),hid (fun g cur _ h=>⟨cur,h,fun _ _=>rfl⟩)⟩
 obtain⟨i,rfl,hq,bS,az,ag,bC⟩:=hrel;by_cases ap:i<N;rotate_left
 ·have bi:¬ (i:Int)<(N:Int):=by omega
  obtain rfl:i=N:=by omega
  have bE:bb=true:=by rw[<-bn.out];exact decide_eq_true (aQ.out az.out)
  subst bE;go_wp2;exact bodyPost_ret (results_tmp results72 _ _ _) rfl ⟨rfl,ag.out⟩
 have bi:(i:Int)<(N:Int):=by omega
 obtain⟨gb,cap,cur,hv,ae⟩:=Ij HB.out (by rw[Y.out];omega);injection hv with bK bI bJ;clear bI bJ;subst bK;obtain⟨x,hx⟩:∃ x,ms.getD i dE=x:=⟨_,rfl⟩;obtain⟨y,hy⟩:∃ y,V.getD i dL=y:=⟨_,rfl⟩;have aw:X7 x:=by rw[<-hx];exact br.out _ (zQ ms i dE (by rw[HN.out];exact ap))
 have ax:vY y:=by rw[<-hy];exact ay.out _ (zQ V i dL (by rw[Y.out];exact ap))
 obtain⟨mb,mo,bF,bG,_⟩:=HP.out.at_ (by rw[HN.out];omega);subst bF;have bL:mb<wr.heap.size:=Wq2 bG ag.out.size;have bR:gb<wr.heap.size:=Wq2 (z7 ae) ag.out.size;have bf:Px yj 46 dE wr (some ⟨mb,mo,none⟩) c2 ms:=HP.out.tf (fun q hq=>ag.out.blk _ (aV.out q hq).2 (fun e=>(aV.out q hq).1 (by rw[<-e]))) ag.out.size
 obtain⟨A,HA⟩:=nm_ (⟨y.text.toArray⟩:ByteArray);obtain⟨A2,aC⟩:=nm_ (⟨x.2.text.toArray⟩:ByteArray);obtain⟨O,hO⟩:∃ L,row .u8 y.old=L:=⟨_,rfl⟩;obtain⟨Nw,ak⟩:∃ L,row .u8 y.new=L:=⟨_,rfl⟩;obtain⟨J,a7⟩:∃ L,U6 y.who=L:=⟨_,rfl⟩;obtain⟨O2,av⟩:∃ L,row .u8 x.2.old=L:=⟨_,rfl⟩;obtain⟨G,a8⟩:∃ L,row .u8 x.2.new=L:=⟨_,rfl⟩;obtain⟨I,ad⟩:∃ L,U6 x.2.who=L:=⟨_,rfl⟩
 have ac:O.length=20:=by rw[<-hO,zv];exact ax.1.1
 have aj:Nw.length=20:=by rw[<-ak,zv];exact ax.2.1
 have am:J.length=4:=by rw[<-a7];rfl
 have Z:O2.length=20:=by rw[<-av,zv];exact aw.2.1.1
 have a6:G.length=20:=by rw[<-a8,zv];exact aw.2.2.1
 have aA:I.length=4:=by rw[<-ad];rfl
 have aY:Hid ((prog.info? 116).map (·.size)=some O.length):=hid (by rw[ac];kernel_rfl);have aX:Hid ((prog.info? 91).map (·.size)=some O2.length):=hid (by rw[Z];kernel_rfl);have aU:Hid ((prog.info? 116).map (·.size)=some Nw.length):=hid (by rw[aj];kernel_rfl)
 have aS:Hid ((prog.info? 91).map (·.size)=some G.length):=hid (by rw[a6];kernel_rfl);have b6:Hid ((prog.info? 72).map (·.size)=some J.length):=hid (by rw[am];kernel_rfl);have aF:Hid ((prog.info? 72).map (·.size)=some I.length):=hid (by rw[aA];kernel_rfl)
 have aG:Hid ((prog.info? 72).map (·.size)=some J.toArray.size):=hid (by rw[Wyu,am];kernel_rfl);have aZ:Hid ((prog.info? 45).map (·.size)=some J.length):=hid (by rw[am];kernel_rfl);have bA:Hid ((4:Nat)=J.toArray.size):=hid (by rw[Wyu,am])
 have bw:Hid (J.toArray.all (·.oneCell')=true):=hid (by rw[<-a7];exact all_oneCell_toArray (fun v hv=>by simp[U6] at hv;rcases hv with rfl | rfl | rfl | rfl <;> rfl));have aE:Hid (∀ W:World,(Op.equalIn 10000 116 (.agg O.toArray) (.agg O2.toArray)).run prog W=.ok (decide (y.old=x.2.old)) W):=fun W=>by rw[<-hO,<-av];exact KZ 116 Y8 _ _ ax.1.1 aw.2.1.1 W
 have aD:Hid (∀ W:World,(Op.equalIn 10000 116 (.agg Nw.toArray) (.agg G.toArray)).run prog W=.ok (decide (y.new=x.2.new)) W):=fun W=>by rw[<-ak,<-a8];exact KZ 116 Y8 _ _ ax.2.1 aw.2.2.1 W
 obtain⟨bp,aJ⟩:∃ b,decide (y.who ≠ x.2.who)=b:=⟨_,rfl⟩;have bq:Hid (∀ W:World,(binOp .neq 72 (.agg J.toArray) (.agg I.toArray)).run prog W=.ok (.bool bp) W):=fun W=>by rw[<-a7,<-ad];exact qy3 y.who x.2.who bp aJ W
 have bo:=hid aJ;have aB:w.rangeAt gb (i*45) (qw y):=by
  obtain⟨a',c',e',bD,_⟩:=uX (enc:=qw) (k:=45) (d:=dL) HB.out (fun z hz=>yQ (ay.out z hz));injection e' with e1 _ _;obtain⟨b,off,e2,_,e3⟩:=bD.at_ (by rw[Y.out];omega);rw[<-e1] at e2;injection e2 with e2;injection e2 with e2 e4 _;have:=e3 i (by rw[Y.out];exact ap);rw[<-e2,<-e4,Wzz,hy] at this;exact this
 have au:Hid (∀ W,Below wr.heap.size wr W->W.rangeAt gb (i*45) (qw y)/\W.rangeAt mb (mo+i*46) (yj x)/\QJ (some ⟨gb,0,none⟩) 133 w W (i*45)/\Al (fun i=>(Value.slice (some ⟨gb,0,none⟩) N vc).ownBlock=some i) w W/\W.frozen? ⟨gb,i*45+44,none⟩=false):=fun W hW=>by
  have aM:=bC.out.below hW;refine⟨aM.range rfl ae (Wz8 _) aB,?_,aM,ag.out.trans (Al.below (S:=fun _=>False) hW) (fun i h=>h.elim),?_⟩
  ·obtain⟨_,_,e1,e2,e3⟩:=(bf.below hW).at_ (by rw[HN.out];omega);cases e1
   have e4:=e3 i (by rw[HN.out];exact ap);rw[hx] at e4;exact e4
  obtain⟨c3,h1,_⟩:=aM gb cur rfl ae;simp[World.frozen?,h1]
 have bz:Hid (∀ W,Below wr.heap.size wr W->W.rangeAt gb (i*45+40) J):=fun W hW=>by
  have h1:=(au.out W hW).1;rw[XK,List.nil_append,<-List.append_assoc,a7] at h1;have:=xJ h1;rw[Wzy,hO,ak,ac,aj] at this;exact this
 have bB:Hid (∀ W K,Below wr.heap.size wr W->W.heap[K]? = some (.cells J.toArray 72)->Qp gb (i*45) mb (mo+i*46) K A A2 O Nw J O2 G I W):=fun W K hW hK=>by
  obtain⟨h1,h2,_⟩:=au.out W hW;rw[XK,hO,ak,a7] at h1;unfold yj at h2;rw[XK,av,a8,ad] at h2;have a1:=xJ h1;have a2:=xJ (pre:=O) (mid:=Nw) (post:=J++[sV y.text]) (by simpa using h1);have a3:=xJ (pre:=O++(Nw++J)) (mid:=[sV y.text]) (post:=[]) (by simpa using h1)
  have b1:=xJ (pre:=[sV x.1]) (mid:=O2) (post:=G++(I++[sV x.2.text])) (by simpa using h2);have b2:=xJ (pre:=[sV x.1]++O2) (mid:=G) (post:=I++[sV x.2.text]) (by simpa using h2);have b3:=xJ (pre:=[sV x.1]++(O2++G)) (mid:=I) (post:=[sV x.2.text]) (by simpa using h2)
  have b4:=xJ (pre:=[sV x.1]++(O2++(G++I))) (mid:=[sV x.2.text]) (post:=[]) (by simpa using h2);have l1:(O++(Nw++J)).length=44:=by simp[ac,aj,am]
  have l2:([sV x.1]++O2).length=21:=by simp[Z]
  have l3:([sV x.1]++(O2++G)).length=41:=by simp[Z,a6]
  have l4:([sV x.1]++(O2++(G++I))).length=45:=by simp[Z,a6,aA]
  rw[ac] at a2;rw[l1] at a3;rw[l2] at b2;rw[l3] at b3;rw[l4] at b4;exact⟨by rw[<-HA.out];exact a3 0 _ rfl,by rw[<-aC.out];exact b4 0 _ rfl,a1,a2,b1,b2,b3,zw hK⟩
 have aN:Calls prog 20 #[.agg J.toArray] wr fun e w'=>e=.returned (.agg J.toArray)/\Below wr.heap.size wr w':=by
  have:=Kq y.who wr;rw[<-a7];exact this
 have bk:=bz.out wr (Below.refl _ _);have b7:=hid bk;have aW:Hid (y ≠ x.2->bb=false):=hid fun h=>ai.out i ap (by rw[hy,hx];exact h);have b9:Hid (V.getD i dL=y/\ms.getD i dE=x):=hid ⟨hy,hx⟩;clear bk bf aB ae hx hO ak a7 av a8 ad hy HP HB ai aJ;go_wp2_with (first
  | (refine wpList_load_mid rfl 45 (.tmp 21) rfl _ _ rfl J _ b7.out underlying45 rfl aZ.out ?_;go_frame)
  | (go_at_call 20;refine aN.mono ?_;rintro e w1 ⟨rfl,hb⟩;have aR:=hid hb;clear hb aN)
  | (refine zq rfl 72 (.tmp 6) (.tmp 23) rfl _ J.toArray rfl rfl aG.out bA.out bw.out ?_;go_frame))
 obtain⟨K,hK⟩:∃ K,w1.heap.size=K:=⟨_,rfl⟩;have bg:Below wr.heap.size wr (w1.alloc (.cells J.toArray 72)):=aR.out.alloc aR.out.size _;have bh:(w1.alloc (.cells J.toArray 72)).heap[K]? = some (.cells J.toArray 72):=by rw[<-hK];exact heap_alloc_new _ _
 rw[hK];generalize w1.alloc (.cells J.toArray 72)=w2 at bg bh ⊢;have ah:Below wr.heap.size wr w2.drew:=bg.trans (zj _ _ 1);have ao:=bB.out w2.drew K ah bh;refine wp_region_held_drew (S:=Qp gb (i*45) mb (mo+i*46) K A A2 O Nw J O2 G I) (by kernel_rfl) ao (fun D=>?_);generalize w2.drew=u0 at D ao ah ⊢
 have aP:Hid (Al (fun i=>(Value.slice (some ⟨gb,0,none⟩) N vc).ownBlock=some i) w u0):=hid (au.out u0 ah).2.2.2.1
 have ways:∃ e0 e1:Bool,(∀ W:World,(Op.equalIn 10000 116 (.agg O.toArray) (.agg O2.toArray)).run prog W=.ok e0 W)/\(∀ W:World,(Op.equalIn 10000 116 (.agg Nw.toArray) (.agg G.toArray)).run prog W=.ok e1 W)/\((e0=false/\bb=false) ∨ (e0=true/\e1=false/\bb=false) ∨ (e0=true/\e1=true/\bp=true/\bb=false) ∨ (e0=true/\e1=true/\bp=false/\¬ A.toList=A2.toList/\bb=false) ∨ (e0=true/\e1=true/\bp=false/\A2=A/\∀ j,j<i+1->V.getD j dL=(ms.getD j dE).2)):=by
  refine⟨_,_,aE.out,aD.out,?_⟩;have no:∀ {p:Prop},(y=x.2->p)->¬ p->bb=false:=fun h1 h2=>aW.out fun e=>h2 (h1 e);rw[<-bo.out];simp only[decide_eq_true_eq,decide_eq_false_iff_not,Classical.not_not];by_cases d0:y.old=x.2.old;case neg=>exact .inl ⟨d0,no (fun e=>by rw[e]) d0⟩
  by_cases d1:y.new=x.2.new;case neg=>exact .inr (.inl ⟨d0,d1,no (fun e=>by rw[e]) d1⟩)
  by_cases d2:y.who=x.2.who;case neg=>exact .inr (.inr (.inl ⟨d0,d1,d2,no (fun e=>by rw[e]) d2⟩))
  by_cases d3:y.text=x.2.text;case neg=>exact .inr (.inr (.inr (.inl ⟨d0,d1,d2,by rw[<-HA.out,<-aC.out,Lib.toList_data,Lib.toList_data];exact d3,no (fun e=>by rw[e]) d3⟩)))
  refine .inr (.inr (.inr (.inr ⟨d0,d1,d2,by rw[<-HA.out,<-aC.out,d3],fun j hj=>?_⟩)));by_cases e:j=i
  ·subst e;rw[b9.out.1,b9.out.2];rcases y with ⟨y1,y2,y3,y4⟩;obtain⟨x0,x1,x2,x3,x4⟩:=x;simp only at d0 d1 d2 d3;rw[d0,d1,d2,d3]
  exact az.out j (by omega)
 clear aE aD;obtain⟨e0,e1,aE,aD,hw⟩:=ways;rcases hw with ⟨rfl,rfl⟩ | ⟨rfl,rfl,rfl⟩ | ⟨rfl,rfl,rfl,rfl⟩ | ⟨rfl,rfl,rfl,bN,rfl⟩ | ⟨rfl,rfl,rfl,rfl,bu⟩;all_goals
  iterate 4
   refine xx D ?_;try simp only[Act.put,sL]
  refine qy (i:=4) (v:=.agg O.toArray) D (fun w' Q=>zY 116 (.tmp 27) rfl gb (i*45) rfl O _ Q.o1 underlying116 rfl aY.out) ?_;try simp only[Act.put,sL]
  iterate 4
   refine xx D ?_;try simp only[Act.put,sL]
  refine qy (i:=9) (v:=.agg O2.toArray) D (fun w' Q=>zY 91 (.tmp 32) rfl mb (mo+i*46+1) rfl O2 _ Q.o2 underlying91 rfl aX.out) ?_;try simp only[Act.put,sL]
  iterate 6
   first | refine xx D ?_ | refine ZJ D ?_
   try simp only[Act.put,sL]
  first | (refine qy (i:=16) (v:=.agg Nw.toArray) D (fun w' Q=>zY 116 (.tmp 39) rfl gb (i*45+20) rfl Nw _ Q.n1 underlying116 rfl aU.out) ?_) | refine ZJ D ?_
  try simp only[Act.put,sL]
  iterate 4
   first | refine xx D ?_ | refine ZJ D ?_
   try simp only[Act.put,sL]
  first | (refine qy (i:=21) (v:=.agg G.toArray) D (fun w' Q=>zY 91 (.tmp 44) rfl mb (mo+i*46+21) rfl G _ Q.n2 underlying91 rfl aS.out) ?_) | refine ZJ D ?_
  try simp only[Act.put,sL]
  iterate 3
   first | refine xx D ?_ | refine ZJ D ?_
   try simp only[Act.put,sL]
  first | (refine qy (i:=25) (v:=.agg J.toArray) D (fun w' Q=>zY 72 (.tmp 6) rfl K 0 rfl J _ Q.p1 underlying72 rfl b6.out) ?_) | refine ZJ D ?_
  try simp only[Act.put,sL]
  iterate 4
   first | refine xx D ?_ | refine ZJ D ?_
   try simp only[Act.put,sL]
  first | (refine qy (i:=30) (v:=.agg I.toArray) D (fun w' Q=>zY 72 (.tmp 53) rfl mb (mo+i*46+41) rfl I _ Q.p2 underlying72 rfl aF.out) ?_) | refine ZJ D ?_
  try simp only[Act.put,sL]
  first | (refine qy (i:=31) (v:=.bool _) D (fun w' Q=>zzW 72 72 (.tmp 49) (.tmp 54) rfl (.agg J.toArray) (.agg I.toArray) rfl rfl (by kernel_rfl) (bq.out w')) ?_) | refine ZJ D ?_
  try simp only[Act.put,sL]
  iterate 12
   first | refine xx D ?_ | refine ZJ D ?_
   try simp only[Act.put,sL]
  first | (refine qy (i:=44) (v:=.bool true) D ?_ ?_;· (rintro w' ⟨c1,c2,_,_,_,_,_,_⟩;go_simp;done)) | refine xx D ?_ | refine ZJ D ?_
  try simp only[Act.put,sL]
  first | refine xx D ?_ | refine ZJ D ?_
  try simp only[Act.put,sL]
  refine wpAnyH_done (by kernel_rfl) ?_ _
 iterate 4
  ·clear D ao ah;go_wp2;exact bodyPost_ret (results_tmp results72 _ _ _) rfl ⟨rfl,aP.out⟩
 have aH:=hid bu;have bP:=ao.c1;obtain⟨_,_,bm,be,bQ⟩:=au.out u0 ah;have aO:Hid (∀ v,Al (fun i=>(Value.slice (some ⟨gb,0,none⟩) N vc).ownBlock=some i) w (u0.setCell ⟨gb,i*45+44,none⟩ v)):=fun v=>be.trans (Al.of_set (S:=fun i=>(Value.slice (some ⟨gb,0,none⟩) N vc).ownBlock=some i) (p:=⟨gb,i*45+44,none⟩) rfl v) (fun i h=>.inl h)
 have b8:Hid (∀ v,QJ (some ⟨gb,0,none⟩) 133 w (u0.setCell ⟨gb,i*45+44,none⟩ v) ((i+1)*45)):=fun v=>bm.set rfl (by omega) (by omega) v;clear D ao ah bm be;go_wp2;go_roundg (N-(i+1));case measure=>omega
 case rel=>exact⟨i+1,by go_num,rfl,by omega,aH,hid (aO.out _),hid (b8.out _)⟩
end Go.Proofs.YtdnphaganajejaaGreatDoor.K
namespace Go.Proofs.YtdnphaganajejaaGreatDoor.K
open Go.Proofs.Tryz
open Go.RowKit
theorem results32:f32.results=#[.tmp 6]:=by kernel_rfl
def C00 (w:World):Prop:=w.cell? ⟨0,0,none⟩=some (.iface 179 (.agg #[.pointer (some ⟨10,27,none⟩)]))
theorem C00.below {w W:World} (h:C00 w) (hb:Below w.heap.size w W):C00 W:=(hb.cell (p:=⟨0,0,none⟩) (Nm.cell_lt h)).trans h
theorem AQ {α:Type} (o:Except Int α) (w:World) (h:C00 w):Calls prog 7 #[oE o] w fun e w'=>e=.returned (.int .i64 (oN o))/\Below w.heap.size w w':=by
 cases o with
 | ok x=>exact V5 w
 | error k=>exact JZ k w h
theorem My {rs:List Rx} (h:∀ x ∈ rs,jW x) (x:Str):IdW (oI (rdD rs x)):=by
 cases e:rdD rs x with
 | ok id=>exact zuw h e
 | error k=>exact yz.1
theorem results18:f18.results=#[.tmp 4,.tmp 5]:=by kernel_rfl
theorem Iw:(prog.info? 118).map (fun i=>(i.zero,i.size,i.bytes))=some (some (.agg (sV [] :: (row .u8 zZ++row .u8 zZ)).toArray),41,56):=by kernel_rfl
theorem Iy:(prog.info? 122).map (fun i=>(i.zero,i.size,i.bytes))=some (some (.agg (sV [] :: (row .u8 zZ++row .u8 zZ)).toArray),41,56):=by kernel_rfl
theorem zMv:(Value.agg (sV [] :: (row .u8 zZ++row .u8 zZ)).toArray).cells.size=41:=by kernel_rfl
theorem qxV:prog.underlying 43=some (.slice 118):=by kernel_rfl
theorem qxW:prog.underlying 67=some (.slice 122):=by kernel_rfl
theorem zuY (x:Mv1) (h:xu x) (w:World):(Instr.buildSlice 43 1 #[(0,.agg (qj x).toArray)]).run prog w=.ok (.slice (some ⟨w.heap.size,0,none⟩) 1 1) (w.alloc (.cells (qj x).toArray 118)):=by
 obtain⟨i,hq,hz,hs,_⟩:=qQ Iw;refine run_buildSlice w 43 118 1 _ (qj x).toArray i _ qxV hq hz (by rw[hs];decide) (by rw[hs];decide) ?_;rw[hs];obtain⟨j,x,y⟩:=x;obtain⟨a0,a1,a2,a3,a4,a5,a6,a7,a8,a9,A,D,G,I,J,K,L,M,O,Q,rfl⟩:=yJ x h.2.1.1;obtain⟨b0,b1,b2,b3,b4,b5,b6,b7,b8,b9,V,Y,Z,ac,ad,ae,ag,ah,ai,aj,rfl⟩:=yJ y h.2.2.1
 unfold qj sV;simp only;generalize (⟨j.toArray⟩:ByteArray)=P4;show _=_;kernel_rfl
theorem zj0 (x:Mv1) (h:xu x) (w:World):(Instr.buildSlice 67 1 #[(0,.agg (qj x).toArray)]).run prog w=.ok (.slice (some ⟨w.heap.size,0,none⟩) 1 1) (w.alloc (.cells (qj x).toArray 122)):=by
 obtain⟨i,hq,hz,hs,_⟩:=qQ Iy;refine run_buildSlice w 67 122 1 _ (qj x).toArray i _ qxW hq hz (by rw[hs];decide) (by rw[hs];decide) ?_;rw[hs];obtain⟨j,x,y⟩:=x;obtain⟨a0,a1,a2,a3,a4,a5,a6,a7,a8,a9,A,D,G,I,J,K,L,M,O,Q,rfl⟩:=yJ x h.2.1.1;obtain⟨b0,b1,b2,b3,b4,b5,b6,b7,b8,b9,V,Y,Z,ac,ad,ae,ag,ah,ai,aj,rfl⟩:=yJ y h.2.2.1
 unfold qj sV;simp only;generalize (⟨j.toArray⟩:ByteArray)=P4;show _=_;kernel_rfl
theorem bd119 (N:ByteArray) (x y:List Int) (hx:x.length=20) (hy:y.length=20) (w:World):(Instr.build 122 #[(0,.string N),(1,.agg (row .u8 x).toArray),(2,.agg (row .u8 y).toArray)]).run prog w=.ok (.agg (Value.string N :: (row .u8 x++row .u8 y)).toArray) w:=by
 obtain⟨a0,a1,a2,a3,a4,a5,a6,a7,a8,a9,h,j,A,D,G,I,J,K,L,M,rfl⟩:=yJ x hx;obtain⟨b0,b1,b2,b3,b4,b5,b6,b7,b8,b9,O,Q,V,Y,Z,ac,ad,ae,ag,ah,rfl⟩:=yJ y hy;kernel_rfl
theorem Mu {K:Nat} {t:TypeId} (post:List Value):∀ (new old pre:List Value) (w:World),w.heap[K]? = some (.cells (pre++(old++post)).toArray t (0,0))->new.length=old.length->(w.setCells K pre.length new).heap[K]? = some (.cells (pre++(new++post)).toArray t (0,0))
 | [],[],pre,w,h,_=>h
 | [],_ :: _,pre,w,h,hl=>by simp at hl
 | _ :: _,[],pre,w,h,hl=>by simp at hl
 | v :: new,o :: old,pre,w,h,hl=>by
  have j:(w.setCell ⟨K,pre.length,none⟩ v).heap[K]? = some (.cells ((pre++[v])++(old++post)).toArray t (0,0)):=by
   rw[zV h];congr 2;simp
  have:=Mu post new old (pre++[v]) _ j (by simpa using hl);rw[Wzy,WyV] at this;show ((w.setCell ⟨K,pre.length,none⟩ v).setCells K (pre.length+1) new).heap[K]? = _;rw[this];simp
def chM (rs:List Rx) (rot:Bool) (m:Mv1):Mv1:=if rot then m else ⟨m.name,oI (rdD rs m.name),m.new⟩
theorem AX {rs:List Rx} (h:∀ x ∈ rs,jW x) (rot:Bool) {m:Mv1} (j:xu m):xu (chM rs rot m):=by
 cases rot with
 | true=>exact j
 | false=>exact⟨trivial,My h m.name,j.2.2⟩
theorem qy4 {rs:List Rx} {x:Str} {k:Int} (h:rdD rs x=.error k):k ≠ 0:=by
 unfold rdD rdF at h;split at h
 ·split at h
  ·cases h;decide
  split at h
  ·cases h;decide
  cases h
 cases h;decide
def AJ (rs:List Rx) (s:Ls) (w:World) (e:Ending) (w':World):Prop := ∃ va vc vb vd,e=.returned (.tuple #[.slice va s.ms.length vc,.slice vb s.ms.length vd])/\Px qj 41 dMv w' va vc (s.ms.map (chM rs s.rot))/\Px qj 41 dMv w' vb vd (s.ms.map (chM rs s.rot))/\Below w.heap.size w w'/\∀ p:Addr,vb=some p->w.heap.size<=p.block/\p.block<w'.heap.size
structure Q8r (X K Q:Nat) (Y:ByteArray) (W:World):Prop where
 c0:W.cell? ⟨X,2,none⟩=some (.pointer (some ⟨Q,0,none⟩))
 c1:W.cell? ⟨K,0,none⟩=some (.string Y)
theorem MZ {G Q:Nat} {v1 v2:Value} {rs:List Rx} {ls:List Ex} (X:Nat) (s:Ls) (w:World) (hX:w.cell? ⟨X,2,none⟩=some (.pointer (some ⟨Q,0,none⟩))) (hD:Dq G w Q v1 v2 rs ls) (hP:Px qj 41 dMv w s.a s.c s.ms) (cj:∀ m ∈ s.ms,xu m) (hn:s.ms.length<=20) :
  Calls prog 18 #[.pointer (some ⟨X,0,none⟩),.agg (uK s).toArray] w (AJ rs s w):=by
 obtain⟨r,HR⟩:=nm_ w.heap.size;obtain⟨N,HN⟩:=nm_ s.ms.length;have dd:N<=20:=by rw[<-HN.out];exact hn
 obtain⟨TA,bq⟩:=nm_ ((uK s).toArray);obtain⟨W1,aY⟩:=nm_ (w.alloc (.cells TA 47));have b6:Below r w W1:=by rw[<-aY.out,<-HR.out];exact(Below.refl _ w).alloc (Wz8 _) _
 have dh:W1.heap.size=r+1:=by rw[<-aY.out,<-HR.out];simp
 have hr0:W1.heap[r]? = some (.cells TA 47):=by rw[<-aY.out,<-HR.out];exact heap_alloc_new _ _
 obtain⟨rot,aV⟩:∃ b,s.rot=b:=⟨_,rfl⟩;obtain⟨sa,cn⟩:∃ b,s.a=b:=⟨_,rfl⟩;obtain⟨sc,cp⟩:∃ b,s.c=b:=⟨_,rfl⟩;rw[cn,cp] at hP;have aF:Hid (∀ W,Below (r+1) W1 W->Below r w W/\Dq G W Q v1 v2 rs ls/\Px qj 41 dMv W sa sc s.ms/\W.cell? ⟨X,2,none⟩=some (.pointer (some ⟨Q,0,none⟩))/\W.cell? ⟨r,1,none⟩=some (.slice sa N sc)/\W.cell? ⟨r,2,none⟩=some (.bool rot)):=fun W hW=>by
  have hb:Below r w W:=b6.trans (hW.mono (by omega));have bC:Below w.heap.size w W:=by rw[HR.out];exact hb
  have hk:=(hW.block r (by omega)).trans hr0;refine⟨hb,hD.below bC,hP.below bC,(bC.cell (p:=⟨X,2,none⟩) (Nm.cell_lt hX)).trans hX,?_,?_⟩
  ·rw[cell_of_row _ _ 1 _ _ _ hk,<-bq.out,<-HN.out,<-cn,<-cp];rfl
  rw[cell_of_row _ _ 2 _ _ _ hk,<-bq.out,<-aV];rfl
 have bP:=hid cj;have bT:=hid hD.ok1;obtain⟨M,aH⟩:=nm_ (s.ms.map (chM rs rot));have bz:Hid (M.length=N):=hid (by rw[<-aH.out,Wx7,HN.out]);have bU:Hid (∀ y ∈ M,(qj y).length=41):=fun y hy=>by
  rw[<-aH.out] at hy;obtain⟨m,hm,rfl⟩:=List.mem_map.1 hy;exact j5 (AX bT.out rot (bP.out m hm))
 have cw:Hid (Bx qj 41 118 W1 W1 (r+1) (.slice none 0 0) (M.take 0)):=hid (uk 118 W1 (r+1) (by omega));have cy:Hid (Bx qj 41 122 W1 W1 (r+1) (.slice none 0 0) (M.take 0)):=hid (uk 122 W1 (r+1) (by omega))
 have bN:Hid (∀ va vc vb vd W,Px qj 41 dMv W va vc M->Px qj 41 dMv W vb vd M->Below r w W->(∀ p:Addr,vb=some p->r+1<=p.block/\p.block<W.heap.size)->AJ rs s w (.returned (.tuple #[.slice va N vc,.slice vb N vd])) W):=fun va vc vb vd W h1 h2 h3 h4=>⟨va,vc,vb,vd,by rw[HN.out],by rw[aV,aH.out];exact h1,by rw[aV,aH.out];exact h2,by rw[HR.out];exact h3,fun p hp=>by have:=h4 p hp;have:=HR.out;omega⟩
 rw[bq.out];clear hD hP cj b6 hr0 hX hn;go_enter func18,ntmps18;go_wp2;rw[aY.out,HR.out];go_loopg [6,7,8] N (fun q xv yv iv wr=>∃ (i:Nat) (u u':Value),iv=.int .i64 i/\u=xv/\u'=yv/\q=N-i/\i<=N/\Hid (Bx qj 41 118 W1 wr (r+1) u (M.take i))/\Hid (Bx qj 41 122 W1 wr (r+1) u' (M.take i)));case atStart=>exact⟨0,_,_,rfl,rfl,rfl,rfl,Nat.zero_le _,cw,cy⟩
 obtain⟨i,u,u',rfl,hu,dc,hq,df,az,bn⟩:=hrel;subst hu;subst dc;obtain⟨ua,uc,cu⟩:=zu az.out.own;obtain⟨ub,ud,cv⟩:=zu bn.out.own;have cq:(M.take i).length=i:=by rw[WzJ,bz.out];omega
 rw[cq] at cu cv;subst cu;subst cv;clear cq;have bD:=az.out.below;obtain⟨_,_,p1,_,de,_⟩:=aF.out wr bD;by_cases b7:i<N;rotate_left
 ·have cg:¬ (i:Int)<(N:Int):=by omega
  have cU:N=i:=by omega
  subst cU;have HF:Hid (AJ rs s w (.returned (.tuple #[.slice ua N uc,.slice ub N ud])) wr):=hid (by
   have da:M.take N=M:=List.take_of_length_le (by rw[bz.out];exact Wz8 _);have ha:=az.out;have hb:=bn.out;rw[da] at ha hb;obtain⟨a1,c1,e1,cN,_⟩:=ha.px (d:=dMv) bU.out;obtain⟨a2,c2,e2,cO,cY,_⟩:=hb.px (d:=dMv) bU.out;injection e1 with e1 _ e3;injection e2 with e2 _ e4;subst e1;subst e2;subst e3;subst e4;exact bN.out _ _ _ _ _ cN cO (aF.out wr bD).1 cY)
  clear p1;go_wp2;exact bodyPost_ret (results_tmp2 results18 _ _ _) rfl HF.out
 have cg:(i:Int)<(N:Int):=by omega
 obtain⟨b,off,cP,_,_⟩:=p1.at_ (by rw[HN.out];omega);subst cP;obtain⟨m,hm⟩:∃ m,s.ms.getD i dMv=m:=⟨_,rfl⟩;have bG:xu m:=by rw[<-hm];exact bP.out _ (zQ s.ms i dMv (by rw[HN.out];exact b7))
 obtain⟨EL,ak⟩:∃ EL,qj m=EL:=⟨_,rfl⟩;have aJ:EL.length=41:=by rw[<-ak];exact j5 bG
 have cB:Hid ((prog.info? 118).map (·.size)=some EL.length):=hid (by rw[aJ];kernel_rfl);have cA:Hid ((prog.info? 118).map (·.size)=some EL.toArray.size):=hid (by rw[Wyu,aJ];kernel_rfl);have cG:Hid (wr.rangeAt b (off+i*41) EL):=hid (by
  obtain⟨_,_,e1,_,e3⟩:=p1.at_ (by rw[HN.out];omega);cases e1
  rw[<-ak,<-hm];exact e3 i (by rw[HN.out];exact b7))
 have bQ:Hid (EL.toArray.all (·.oneCell')=true):=hid (by rw[<-ak];exact all_oneCell_toArray (ZX _));have cK:Hid ((41:Nat)=EL.toArray.size):=hid (by rw[Wyu,aJ]);obtain⟨V,HV⟩:=nm_ (wr.alloc (.cells EL.toArray 118));obtain⟨K,HK⟩:=nm_ wr.heap.size;have cM:r+1<=K:=by have:=az.out.le;have:=HK.out;omega
 have aC:Below K wr V:=by rw[<-HV.out,<-HK.out];exact(Below.refl _ wr).alloc (Wz8 _) _
 have d0:V.heap.size=K+1:=by rw[<-HV.out,<-HK.out];simp
 have aR:V.heap[K]? = some (.cells EL.toArray 118):=by rw[<-HV.out,<-HK.out];exact heap_alloc_new _ _
 have bu:Hid (∀ W,Below K wr W->Below (r+1) W1 W):=fun W hW=>bD.trans (hW.mono cM);obtain⟨P,ad⟩:∃ P,chM rs rot m=P:=⟨_,rfl⟩;have ao:xu P:=by rw[<-ad];exact AX bT.out rot bG
 have cJ:Hid (M.take (i+1)=M.take i++[P]):=hid (by
  rw[qk dMv M i (by rw[bz.out];exact b7),<-ad,<-hm,<-aH.out];have cT:i<s.ms.length:=by rw[HN.out];exact b7
  simp[List.getD_eq_getElem?_getD,List.getElem?_eq_getElem cT])
 obtain⟨I,ac⟩:∃ EL,qj P=EL:=⟨_,rfl⟩;have aK:I.length=41:=by rw[<-ac];exact j5 ao
 have cE:Hid ((prog.info? 118).map (·.size)=some I.toArray.size):=hid (by rw[Wyu,aK];kernel_rfl);obtain⟨y,hy⟩:∃ y,m.name=y:=⟨_,rfl⟩;have aZ:P.name=y:=by rw[<-ad,<-hy];cases rot <;> rfl
 have b2:P.new=m.new:=by rw[<-ad];cases rot <;> rfl
 obtain⟨Y,HY⟩:=nm_ (⟨y.toArray⟩:ByteArray);obtain⟨O,hO⟩:∃ O,row .u8 P.old=O:=⟨_,rfl⟩;obtain⟨Nw,am⟩:∃ O,row .u8 P.new=O:=⟨_,rfl⟩;have L:O.length=20:=by rw[<-hO,zv];exact ao.2.1.1
 have bj:Nw.length=20:=by rw[<-am,zv];exact ao.2.2.1
 have cD:Hid ((prog.info? 116).map (·.size)=some O.length):=hid (by rw[L];kernel_rfl);have cC:Hid ((prog.info? 116).map (·.size)=some Nw.length):=hid (by rw[bj];kernel_rfl);have a6:I=[.string Y]++(O++(Nw++[])):=by rw[<-ac,<-hO,<-am,<-HY.out,<-aZ];unfold qj;simp[sV]
 have bK:Hid (∀ W:World,(Instr.buildSlice 43 1 #[(0,.agg I.toArray)]).run prog W=.ok (.slice (some ⟨W.heap.size,0,none⟩) 1 1) (W.alloc (.cells I.toArray 118))):=fun W=>by rw[<-ac];exact zuY P ao W
 have bL:Hid (∀ W:World,(Instr.buildSlice 67 1 #[(0,.agg I.toArray)]).run prog W=.ok (.slice (some ⟨W.heap.size,0,none⟩) 1 1) (W.alloc (.cells I.toArray 122))):=fun W=>by rw[<-ac];exact zj0 P ao W
 have cz:Hid (∀ W:World,(Instr.build 122 #[(0,.string Y),(1,.agg O.toArray),(2,.agg Nw.toArray)]).run prog W=.ok (.agg I.toArray) W):=fun W=>by
  rw[<-hO,<-am,a6,<-hO,<-am,List.append_nil];exact bd119 Y P.old P.new ao.2.1.1 ao.2.2.1 W
 have bM:Hid (∀ z ∈ [P],(qj z).length=41):=fun z hz=>by rw[List.mem_singleton.1 hz];exact j5 ao
 have bO:Hid ((M.take i).length + [P].length<=1000000000):=hid (by rw[WzJ];simp;omega)
 have br:Hid (∀ W,Below K wr W->W.heap[K]? = some (.cells I.toArray 118)->∃ X4,W.alloc (.cells I.toArray 118)=X4/\Px qj 41 dMv X4 (some ⟨W.heap.size,0,none⟩) 1 [P]/\Bx qj 41 118 W1 X4 (r+1) (.slice ua i uc) (M.take i)/\∀ v5 w5,Bx qj 41 118 W1 w5 (r+1) v5 (M.take i++[P])->Mv X4 w5 (.slice ua i uc) v5->w5.cell? ⟨K,0,none⟩=some (.string Y)/\w5.rangeAt K 1 O/\w5.rangeAt K 21 Nw/\∃ X6,w5.alloc (.cells I.toArray 122)=X6/\Px qj 41 dMv X6 (some ⟨w5.heap.size,0,none⟩) 1 [P]/\Bx qj 41 122 W1 X6 (r+1) (.slice ub i ud) (M.take i)/\∀ v7 w7,Bx qj 41 122 W1 w7 (r+1) v7 (M.take i++[P])->Mv X6 w7 (.slice ub i ud) v7->Bx qj 41 118 W1 w7 (r+1) v5 (M.take (i+1))/\Bx qj 41 122 W1 w7 (r+1) v7 (M.take (i+1))):=fun W hW cf=>by
  have cc:Below K wr (W.alloc (.cells I.toArray 118)):=hW.alloc (by have:=hW.size;have:=HK.out;omega) _;have aO:Below wr.heap.size wr (W.alloc (.cells I.toArray 118)):=by rw[HK.out];exact cc
  have bW:=az.out.carry aO;have cL:=bn.out.carry aO;have po:∀ (w:World) (t:TypeId),Px qj 41 dMv (w.alloc (.cells I.toArray t)) (some ⟨w.heap.size,0,none⟩) 1 [P]:=fun w t=>by
   have:=x5 (enc:=qj) (d:=dMv) w P t;rw[ac,aK] at this;exact this
  have ce:(W.alloc (.cells I.toArray 118)).heap[K]? = some (.cells I.toArray 118):=by rw[heap_alloc_old _ _ (z7 cf)];exact cf
  refine⟨_,rfl,po W 118,bW,fun v5 w5 aA aU=>?_⟩;have d5:Tf 118 (W.alloc (.cells I.toArray 118)) w5:=Tf.mv aU (fun k hk=>by
   obtain⟨_,⟨hv,h0⟩ | ⟨g,cap,cur,hv,hb,hh,_⟩⟩:=bW.own
   ·rw[hv] at hk;cases hk
   rw[hv] at hk;simp only[Value.ownBlock,Wq8.injEq] at hk;subst hk;exact⟨_,_,hh⟩)
  have cV:w5.heap[K]? = some (.cells I.toArray 118):=(aU.blk K (z7 ce) (fun e=>by
   have:=(yu az.out.own K e.symm).2;have:=HK.out;omega)).trans ce
  have b9:=zw cV;rw[a6] at b9;have cZ:=xJ (pre:=[.string Y]) (mid:=O) (post:=Nw++[]) b9;have ci:=xJ (pre:=[.string Y]++O) (mid:=Nw) (post:=[]) (by simpa using b9);rw[Wzz,Wzy,WyV,L] at ci
  have bX:Bx qj 41 122 W1 w5 (r+1) (.slice ub i ud) (M.take i):=⟨aA.below,zK cL.own d5 (by decide),aA.le⟩;refine⟨b9 0 _ rfl,cZ,ci,_,rfl,po w5 122,bX.alloc _,fun v7 w7 aB b8=>?_⟩;have d6:Tf 122 (w5.alloc (.cells I.toArray 122)) w7:=Tf.mv b8 (fun k hk=>by
   obtain⟨_,⟨hv,h0⟩ | ⟨g,cap,cur,hv,hb,hh,_⟩⟩:=(bX.alloc (.cells I.toArray 122)).own
   ·rw[hv] at hk;cases hk
   rw[hv] at hk;simp only[Value.ownBlock,Wq8.injEq] at hk;subst hk;exact⟨_,_,hh⟩)
  rw[cJ.out];exact⟨⟨aB.below,zK (aA.alloc (.cells I.toArray 122)).own d6 (by decide),aB.le⟩,aB⟩
 have cQ:=(aF.out V (bu.out V aC)).2.2.2.2.2;clear p1;go_wp2_with (first
  | (refine wpList_load_mid rfl 118 (.tmp 22) rfl _ _ rfl EL _ cG.out underlying118 rfl cB.out ?_;go_frame)
  | (refine zq rfl 118 (.tmp 9) (.tmp 23) rfl _ EL.toArray rfl rfl cA.out cK.out bQ.out ?_;rw[HV.out,HK.out];go_frame;refine Stp.out ?_))
 refine⟨?_⟩;repeat (first | (refine Qq 7 ?_) | go_skip | go_guarded | go_step | go_upon)
 refine⟨Qz [10,11,24,25,26,27,28,29,30,31,32,33,34,35,36,37,38,39,40,41,42] (fun _ W=>Below K wr W/\W.heap[K]? = some (.cells I.toArray 118)) ?_ (fun y0 W hW=>?_)⟩
 ·cases rot with
  | true =>
   have cm:I=EL:=(by rw[<-ac,<-ak,<-ad];rfl);have bk:V.heap[K]? = some (.cells I.toArray 118):=(by rw[cm];exact aR);have HF:=hid (show _/\_ from ⟨aC,bk⟩);clear aC aR bk cm ak ac a6 hO am ad hm aZ b2 hy;go_wp2_with (fail)
   exact⟨rfl,by kernel_rfl,HF.out⟩
  | false =>
   have bZ:P.old=oI (rdD rs y):=(by rw[<-ad,<-hy];rfl);have bR:Hid (O.toArray=(row .u8 (oI (rdD rs y))).toArray):=hid (by rw[<-hO,bZ]);have a7:Hid ((prog.info? 91).map (·.size)=some O.toArray.size):=hid (by rw[Wyu,L];kernel_rfl);have a8:Hid ((prog.info? 116).map (·.size)=some O.toArray.size):=hid (by rw[Wyu,L];kernel_rfl)
   have aj:Hid (O.toArray.all (·.oneCell')=true):=hid (by rw[<-hO];exact all_oneCell_toArray (yK _ _));have bS:Hid ((20:Nat)=O.toArray.size):=hid (by rw[Wyu,L]);obtain⟨kk,aD⟩:∃ k,oN (rdD rs y)=k:=⟨_,rfl⟩
   have bI:Hid (∀ W,Below K wr W->Calls prog 45 #[.pointer (some ⟨Q,0,none⟩),.string Y] W fun e W'=>e=.returned (.tuple #[.agg O.toArray,.int .i64 kk])/\Below W.heap.size W W'):=fun W hW=>by
    have:=U5 y W (aF.out W (bu.out W hW)).2.1;unfold sV at this;rw[HY.out,<-bR.out,aD] at this;exact this
   have bi:EL=[.string Y]++(row .u8 m.old++(Nw++[])):=(by rw[<-ak,<-am,b2,<-HY.out,<-hy];unfold qj;simp[sV]);have ax:Hid (∀ (W:World) (A:List Value),A.length=20->W.heap[K]? = some (.cells ([Value.string Y]++(A++(Nw++[]))).toArray 118 (0,0))->W.there K 1 O.toArray.size/\(W.setCells K 1 O.toArray.toList).heap[K]? = some (.cells I.toArray 118)):=fun W A hA hk=>by
    refine⟨YV hk 1 _ (by rw[Wyu,L];simp[hA,bj]),?_⟩;rw[List.toList_toArray,a6];exact Mu (Nw++[]) O A [.string Y] W hk (by rw[L,hA])
   have be:Hid (I=[.string Y]++(O++(Nw++[]))):=hid a6;have bh:Hid (O.length=20):=hid L;have bJ:Hid (∀ W:World,(∃ k,rdD rs y=.error k)->(Instr.build 116 #[]).run prog W=.ok (.agg O.toArray) W):=fun W hk=>by
    obtain⟨k,hk⟩:=hk;rw[bR.out,hk];exact UV W
   have bf:Hid ((kk=0) ∨ (kk ≠ 0/\∃ k,rdD rs y=.error k)):=hid (by
    cases e:rdD rs y with
    | ok id=>rw[e] at aD;exact .inl aD.symm
    | error k=>rw[e] at aD;exact .inr ⟨by rw[<-aD];exact qy4 e,k,rfl⟩)
   have Z:Hid (∀ W,Below (K+1) V W->Q8r X K Q Y W/\Below K wr W/\W.heap[K]? = some (.cells ([Value.string Y]++(row .u8 m.old++(Nw++[]))).toArray 118 (0,0))):=fun W hW=>by
    have h1:Below K wr W:=aC.trans (hW.mono (by omega));have h2:W.heap[K]? = some (.cells EL.toArray 118):=(hW.block K (by omega)).trans aR;rw[bi] at h2;exact⟨⟨(aF.out W (bu.out W h1)).2.2.2.1,by rw[cell_of_row _ _ 0 _ _ _ h2];rfl⟩,h1,h2⟩
   have bg:Hid ((row .u8 m.old).length=20):=hid (by rw[zv];exact bG.2.1.1);have ay:Hid (∀ W A,Below K wr W->Below K wr (W.setCells K 1 A)):=fun W A hW=>zW (Wz8 _) _ _ _ _ hW;have aP:Below (K+1) V V.drew:=zj _ _ 1;have c6:=(Z.out _ aP).1;have bE:V.drew.heap.size=K+1:=d0;clear ak aR aC ac a6 hO am ad hm aZ b2 hy bZ bi aD
   go_wp2_with (fail)
   refine wp_region_held_drew (S:=Q8r X K Q Y) (by kernel_rfl) c6 (fun j=>?_);generalize V.drew=u0 at j aP c6 bE ⊢;have bo:=hid bE;clear bE;iterate 6
    refine qy (v:=?_) j ?_ ?_ (hQ:=fun _ _ _ h=>by simp only[Exit.then] at h;exact(Mg.no h).elim);rotate_left
    ·rintro w' ⟨c0,c1⟩;go_simp;rfl
    try simp only[Act.put,sL]
   refine wpAnyH_ready (rs:=[6,10]) (by kernel_rfl) (by simp) ?_;refine xw rfl (fun KK D=>?_) (xw rfl (fun KK D=>?_) AllReadyH.nil)
   ·refine qY rfl 45 [.tmp 31,.tmp 33] #[35,9] [.pointer (some ⟨Q,0,none⟩),.string Y] _ rfl rfl (by intro w;kernel_rfl) (bI.out u0 (Z.out _ aP).2.1) ?_;rintro e u1 ⟨rfl,b6⟩;have ai:Below (K+1) V u1:=aP.trans (b6.mono (by have:=bo.out;omega));refine⟨_,rfl,D.out _ _ (Z.out _ ai).1 (fun j=>?_)⟩;clear D KK;(try simp only[Act.put,sL]);iterate 3
     refine qy (v:=?_) j ?_ ?_ (hQ:=fun _ _ _ h=>by simp only[Exit.then] at h;exact(Mg.no h).elim);rotate_left
     ·intro w' bH;go_simp;rfl
     try simp only[Act.put,sL]
    refine wpAnyH_ready (rs:=[10]) (by kernel_rfl) (by simp) ?_;refine xw rfl (fun KK D=>?_) AllReadyH.nil;go_simp;obtain⟨KB,aL⟩:∃ x,u1.heap.size=x:=⟨_,rfl⟩;have aQ:∀ A,Below (K+1) V (u1.alloc (.cells A 91)):=fun A=>ai.alloc (by have:=ai.size;omega) _;refine D.out _ _ (Z.out _ (aQ _)).1 (fun j=>?_);clear D KK;(try simp only[Act.put,sL])
    refine wpAnyH_ready (rs:=[11]) (by kernel_rfl) (by simp) ?_;refine xw rfl (fun KK D=>?_) AllReadyH.nil;rw[if_pos (by rfl)];refine wp_store_row 91 (.tmp 10) (.tmp 35) rfl u1.heap.size O.toArray rfl rfl 91 _ (heap_alloc_new u1 _) a7.out (by rw[<-bS.out];rfl) aj.out ?_;rw[World.setRow_alloc_new];have ar:=aQ O.toArray
    have aw:(u1.alloc (.cells O.toArray 91)).heap[KB]? = some (.cells O.toArray 91):=(by rw[<-aL];exact heap_alloc_new _ _);refine D.out _ _ (Z.out _ ar).1 (fun j=>?_);clear D KK;(try simp only[Act.put,sL]);rw[aL];generalize u1.alloc (.cells O.toArray 91)=Wf at ar aw j ⊢
    refine qZ (i:=12) (v:=.int .i64 kk) j ?_ ?_ (hQ:=fun _ _ _ h=>by simp only[Exit.then] at h;exact(Mg.no h).elim)
    ·intro w' bH;go_simp
    (try simp only[Act.put,sL]);refine wpAnyH_done (by kernel_rfl) ?_ _;obtain⟨_,aM,aS⟩:=Z.out Wf ar;obtain⟨aW,J⟩:=ax.out Wf _ bg.out aS;have aI:=hid aW;have aE:=hid aw;obtain⟨Wg,ae⟩:∃ x,Wf.setCells K 1 O.toArray.toList=x:=⟨_,rfl⟩;rw[ae] at J;have ah:Below K wr Wg:=(by rw[<-ae];exact ay.out Wf _ aM);have aG:=hid ae;clear ae aW aS aw aM j
    rcases bf.out with au | ⟨au,ap⟩
    ·subst au;have HF:=hid (show _/\_ from ⟨ah,J⟩);clear ah J;go_wp2_with (first
      | (refine zX rfl 91 (.tmp 10) rfl KB O.toArray 91 (0,0) _ rfl aE.out underlying91 rfl a7.out ?_;go_frame)
      | (refine wpList_store_mid rfl 116 (.tmp 38) (.tmp 37) rfl K 1 O.toArray rfl rfl aI.out a8.out aj.out ?_;rw[aG.out];go_frame))
     exact⟨rfl,by kernel_rfl,HF.out⟩
    have cX:(kk == 0)=false:=(by simpa using au);rw[be.out] at J;obtain⟨aX,av⟩:=ax.out Wg _ bh.out J;have bA:=hid aX;obtain⟨Wh,ag⟩:∃ x,Wg.setCells K 1 O.toArray.toList=x:=⟨_,rfl⟩;rw[ag] at av;have aN:Below K wr Wh:=(by rw[<-ag];exact ay.out Wg _ ah);have bw:=hid ag;have bp:=hid ap;have HF:=hid (show _/\_ from ⟨aN,av⟩)
    clear ah J aN av ag aX ap;go_wp2_with (first
     | (refine zX rfl 91 (.tmp 10) rfl KB O.toArray 91 (0,0) _ rfl aE.out underlying91 rfl a7.out ?_;go_frame)
     | (refine wpList_store_mid rfl 116 (.tmp 38) (.tmp 37) rfl K 1 O.toArray rfl rfl aI.out a8.out aj.out ?_;rw[aG.out];go_frame)
     | (refine z8 rfl _ (yy 116 rfl (bJ.out _ bp.out)) ?_;go_frame)
     | (refine wpList_store_mid rfl 116 (.tmp 42) (.tmp 41) rfl K 1 O.toArray rfl rfl bA.out a8.out aj.out ?_;rw[bw.out];go_frame))
    exact⟨rfl,by kernel_rfl,HF.out⟩
   go_simp;obtain⟨KB,aL⟩:∃ x,u0.heap.size=x:=⟨_,rfl⟩;obtain⟨Z0,bB⟩:∃ A:Array Value,#[.int .u8 0,.int .u8 0,.int .u8 0,.int .u8 0,.int .u8 0,.int .u8 0,.int .u8 0,.int .u8 0,.int .u8 0,.int .u8 0,.int .u8 0,.int .u8 0,.int .u8 0,.int .u8 0,.int .u8 0,.int .u8 0,.int .u8 0,.int .u8 0,.int .u8 0,.int .u8 0]=A:=⟨_,rfl⟩;rw[bB];have bV:Hid (Z0.size=20):=hid (by rw[<-bB];rfl)
   have ai:Below (K+1) V (u0.alloc (.cells Z0 91)):=aP.alloc (by have:=bo.out;omega) _;have bF:(u0.alloc (.cells Z0 91)).heap[KB]? = some (.cells Z0 91):=(by rw[<-aL];exact heap_alloc_new _ _);refine D.out _ _ (Z.out _ ai).1 (fun j=>?_);clear D KK bB;(try simp only[Act.put,sL]);rw[aL];have bY:K+1<=KB:=(by have:=bo.out;omega)
   generalize u0.alloc (.cells Z0 91)=u1 at ai bF j ⊢;refine wpAnyH_ready (rs:=[6]) (by kernel_rfl) (by simp) ?_;refine xw rfl (fun KK D=>?_) AllReadyH.nil;refine qY rfl 45 [.tmp 31,.tmp 33] #[35,9] [.pointer (some ⟨Q,0,none⟩),.string Y] _ rfl rfl (by intro w;kernel_rfl) (bI.out u1 (Z.out _ ai).2.1) ?_;rintro e u2 ⟨rfl,cb⟩
   have aQ:Below (K+1) V u2:=ai.trans (cb.mono (by have:=ai.size;omega));have bm:u2.heap[KB]? = some (.cells Z0 91):=(cb.block KB (z7 bF)).trans bF;refine⟨_,rfl,D.out _ _ (Z.out _ aQ).1 (fun j=>?_)⟩;clear D KK;(try simp only[Act.put,sL]);iterate 3
    refine qy (v:=?_) j ?_ ?_ (hQ:=fun _ _ _ h=>by simp only[Exit.then] at h;exact(Mg.no h).elim);rotate_left
    ·intro w' bH;go_simp;rfl
    try simp only[Act.put,sL]
   refine wpAnyH_ready (rs:=[11]) (by kernel_rfl) (by simp) ?_;refine xw rfl (fun KK D=>?_) AllReadyH.nil;rw[if_pos (by rfl)];refine wp_store_row 91 (.tmp 10) (.tmp 35) rfl KB O.toArray rfl rfl 91 _ bm a7.out (by rw[bV.out];exact bS.out) aj.out ?_;have ar:Below (K+1) V (u2.setRow KB O.toArray):=below_setRow aQ bY _
   have aw:(u2.setRow KB O.toArray).heap[KB]? = some (.cells O.toArray 91):=setRow_heap _ _ _ _ _ _ bm;refine D.out _ _ (Z.out _ ar).1 (fun j=>?_);clear D KK;(try simp only[Act.put,sL]);generalize u2.setRow KB O.toArray=Wf at ar aw j ⊢;refine qZ (i:=12) (v:=.int .i64 kk) j ?_ ?_ (hQ:=fun _ _ _ h=>by simp only[Exit.then] at h;exact(Mg.no h).elim)
   ·intro w' bH;go_simp
   (try simp only[Act.put,sL]);refine wpAnyH_done (by kernel_rfl) ?_ _;obtain⟨_,aM,aS⟩:=Z.out Wf ar;obtain⟨aW,J⟩:=ax.out Wf _ bg.out aS;have aI:=hid aW;have aE:=hid aw;obtain⟨Wg,ae⟩:∃ x,Wf.setCells K 1 O.toArray.toList=x:=⟨_,rfl⟩;rw[ae] at J;have ah:Below K wr Wg:=(by rw[<-ae];exact ay.out Wf _ aM);have aG:=hid ae;clear ae aW aS aw aM j
   rcases bf.out with au | ⟨au,ap⟩
   ·subst au;have HF:=hid (show _/\_ from ⟨ah,J⟩);clear ah J;go_wp2_with (first
     | (refine zX rfl 91 (.tmp 10) rfl KB O.toArray 91 (0,0) _ rfl aE.out underlying91 rfl a7.out ?_;go_frame)
     | (refine wpList_store_mid rfl 116 (.tmp 38) (.tmp 37) rfl K 1 O.toArray rfl rfl aI.out a8.out aj.out ?_;rw[aG.out];go_frame))
    exact⟨rfl,by kernel_rfl,HF.out⟩
   have cX:(kk == 0)=false:=(by simpa using au);rw[be.out] at J;obtain⟨aX,av⟩:=ax.out Wg _ bh.out J;have bA:=hid aX;obtain⟨Wh,ag⟩:∃ x,Wg.setCells K 1 O.toArray.toList=x:=⟨_,rfl⟩;rw[ag] at av;have aN:Below K wr Wh:=(by rw[<-ag];exact ay.out Wg _ ah);have bw:=hid ag;have bp:=hid ap;have HF:=hid (show _/\_ from ⟨aN,av⟩)
   clear ah J aN av ag aX ap;go_wp2_with (first
    | (refine zX rfl 91 (.tmp 10) rfl KB O.toArray 91 (0,0) _ rfl aE.out underlying91 rfl a7.out ?_;go_frame)
    | (refine wpList_store_mid rfl 116 (.tmp 38) (.tmp 37) rfl K 1 O.toArray rfl rfl aI.out a8.out aj.out ?_;rw[aG.out];go_frame)
    | (refine z8 rfl _ (yy 116 rfl (bJ.out _ bp.out)) ?_;go_frame)
    | (refine wpList_store_mid rfl 116 (.tmp 42) (.tmp 41) rfl K 1 O.toArray rfl rfl bA.out a8.out aj.out ?_;rw[bw.out];go_frame))
   exact⟨rfl,by kernel_rfl,HF.out⟩
 simp only[Jj,List.foldl_cons,List.foldl_nil,Act.put,List.setIfInBounds_toArray,List.set_cons_zero,List.set_cons_succ];obtain⟨X4,c8,q1,q2,q3⟩:=br.out W hW.1 hW.2;have cF:=hid hW.2;have cH:=hid c8;have Q1:=hid q1;have Q2:=hid q2;have Q3:=hid q3;clear ak aR aC ac a6 hO am q1 q2 q3 c8 ad hm aZ b2 hy hW cQ;go_wp2_with (first
  | (refine zX rfl 118 (.tmp 9) rfl K I.toArray 118 (0,0) _ rfl cF.out underlying118 rfl cE.out ?_;go_frame)
  | (refine z8 rfl _ (qJ 43 (.tmp 44) rfl (.agg I.toArray) _ rfl (bK.out _)) ?_;rw[cH.out];go_frame)
  | (at_builtin;refine zy (enc:=qj) (k:=41) (d:=dMv) rfl _ _ 43 118 qxV Iw zMv (by decide) (by decide) ZX rfl (r+1) (.slice ua i uc) (M.take i) rfl Q2.out (some ⟨W.heap.size,0,none⟩) 1 [P] rfl Q1.out bM.out bO.out ?_;intro v5 w5 aA cR aU;obtain⟨s1,s2,s3,X6,ca,s4,s5,s6⟩:=Q3.out v5 w5 aA aU;have S2:=hid s2;have S3:=hid s3;have cI:=hid ca;have S4:=hid s4;have S5:=hid s5;have S6:=hid s6;clear aA cR aU s2 s3 s4 s5 s6 ca)
  | (refine wpList_load_mid rfl 116 (.tmp 50) rfl _ _ rfl O _ S2.out underlying116 rfl cD.out ?_;go_frame)
  | (refine wpList_load_mid rfl 116 (.tmp 52) rfl _ _ rfl Nw _ S3.out underlying116 rfl cC.out ?_;go_frame)
  | (refine z8 rfl _ (Zu 122 0 1 2 (.tmp 49) (.tmp 51) (.tmp 53) rfl (.string Y) (.agg O.toArray) (.agg Nw.toArray) _ rfl rfl rfl (cz.out _)) ?_;go_frame)
  | (refine z8 rfl _ (qJ 67 (.tmp 54) rfl (.agg I.toArray) _ rfl (bL.out _)) ?_;rw[cI.out];go_frame)
  | (at_builtin;refine zy (enc:=qj) (k:=41) (d:=dMv) rfl _ _ 67 122 qxW Iy zMv (by decide) (by decide) ZX rfl (r+1) (.slice ub i ud) (M.take i) rfl S5.out (some ⟨w5.heap.size,0,none⟩) 1 [P] rfl S4.out bM.out bO.out ?_;intro v7 w7 aB cS b8;obtain⟨t1,t2⟩:=S6.out v7 w7 aB b8;have T1:=hid t1;have T2:=hid t2;clear aB cS b8 t1 t2))
 go_roundg (N-(i+1));case measure=>omega
 case rel=>exact⟨i+1,_,_,by go_num,rfl,rfl,rfl,by omega,T1,T2⟩
def L7 (S E:Nat->Prop) (N D:Nat) (f:Option Str) (go:Bool) (m:Rk.Tb Str Kp Le) (k:Nat) (w:World) (e:Ending) (w':World):Prop := ∃ R t T S',e=.returned (.tuple #[.pointer (some ⟨R,0,none⟩),.nilIface])/\w.heap.size<=R/\Pw S' E N D R w' ⟨true,f,go⟩ t k T/\aT T=m/\Al S w w'/\(∀ i,S i->S' i)/\∀ i,S' i->S i ∨ w.heap.size<=i
theorem Iu (S E:Nat->Prop) (N D:Nat) (a:Ds) (f:Option Str) (go:Bool) (m:Rk.Tb Str Kp Le) (k:Nat) (w:World) (ha:Ra.Hs pr (f.map nm) (f.map nm) a) (Q:go=true->f ≠ none) (hN:N<=90000) (hS:∀ i,S i->i<w.heap.size) (hE:∀ i,E i->i<w.heap.size)
  (hf:∀ W R,Below w.heap.size w W->Rp W R D->w.heap.size<=R->Calls prog 14 #[.pointer (some ⟨R,0,none⟩)] W fun e w'=>e=.returned .nilIface/\Opn S E N D R a go m k W w') :
  Calls prog 5 #[.pointer (some ⟨D,0,none⟩)] w (L7 S E N D f go m k w):=by
 obtain⟨r,HR⟩:=nm_ w.heap.size;obtain⟨I,h⟩:=nm_ (w.alloc (.cells #[.pointer (some ⟨D,0,none⟩),.map none,.bool false,.bool false] 58));have A:Below w.heap.size w I:=by rw[<-h.out];exact(Below.refl _ w).alloc (Wz8 _) _
 have Y:I.heap.size=w.heap.size+1:=by rw[<-h.out];simp
 have L:Rp I w.heap.size D:=⟨by rw[<-h.out];exact heap_alloc_new _ _⟩;have j:=hf I _ A L (Wz8 _);have G:Hid (∀ W,Opn S E N D r a go m k I W->Calls prog 15 #[.pointer (some ⟨r,0,none⟩)] W fun e w'=>e=.returned .nilIface/\L7 S E N D f go m k w (.returned (.tuple #[.pointer (some ⟨r,0,none⟩),.nilIface])) w'):=fun W hO=>by
  obtain⟨h1,t,T,h2,h3,h4,Z⟩:=hO;have V:¬ S r:=fun hs=>by have:=hS _ hs;have:=HR.out;omega
  have a7:=Z.size;have K:∀ i,S i->i<W.heap.size:=fun i hi=>by have:=hS i hi;omega
  refine(XQ S N W W D r t go false true (f.map nm) (f.map nm) a (Rb.refl h1 h2 V K) ha hN).mono ?_;rintro e w' ⟨v,a',un,rfl,k0,kb⟩;rcases k0 with ⟨_,_,_,hq,_⟩ | ⟨rfl,rfl,k1,M⟩
  ·cases hq
  have a6:=kb.al.size;have O:Al S w w':=by
   refine(Al.below (S:=S) A).trans (Z.trans kb.al (fun i hi=>.inl hi)) ?_;rintro i (hi | hi)
   ·exact .inl hi
   exact .inr (by have:=HR.out;omega)
  have ac:w.heap.size=r:=HR.out;have a8:r<W.heap.size:=by omega
  refine⟨rfl,r,t,T,Sx S W w',rfl,by omega,⟨⟨a',kb.dm,⟨kb.dm.wf,k1,M⟩⟩,kb.rf,kb.nx,?_,?_,Q⟩,h4,O,fun i hi=>.inl hi,fun i hi=>?_⟩
  ·rintro i (((hi | hi) | hi) | hi)
   ·have:=K i hi;omega
   ·exact hi.2
   ·omega
   have:=hE i hi;omega
  ·refine(h3.to (S':=SrE (Sx S W w') r E) ?_).al (kb.al.mono ?_)
   ·rintro i (((hi | hi) | hi) | hi)
    ·exact .inl (.inl (.inl hi))
    ·exact .inr hi.1
    ·exact .inl (.inl (.inr hi))
    exact .inl (.inr hi)
   rintro i (hi | hi)
   ·exact .inl (.inl (.inl hi))
   exact .inl (.inr hi)
  rcases hi with hi | hi
  ·exact .inl hi
  exact .inr (by omega)
 rw[HR.out] at j;clear hf A L Y;go_enter func5,ntmps5;go_wp2_with (first
  | (go_at_call 14;rw[h.out,HR.out];refine j.mono ?_;rintro e w2 ⟨rfl,M⟩;have J:=G.out w2 M;clear M G j)
  | (go_at_call 15;refine J.mono ?_;rintro e w3 ⟨rfl,k3⟩;have K3:=hid k3;clear k3 J))
 exact bodyPost_ret (results_tmp2 results5 _ _ _) rfl K3.out
end Go.Proofs.YtdnphaganajejaaGreatDoor.K
namespace Go.Proofs.YtdnphaganajejaaGreatDoor
open Go.Proofs.Tryz
open Go.RowKit Go.Extern.Stop Go.Stop Go.Extern
theorem zzY (v:Value) (w:World):(ReflectliteType.typeOf #[.iface 175 v]).run prog w=.ok (.iface 179 (.agg #[.pointer (some ⟨10,175,none⟩)])) w:=by kernel_rfl
theorem GZ (w:World):(ReflectliteType.relation "AssignableTo" ReflectliteType.assignableTo #[.agg #[.pointer (some ⟨10,175,none⟩)],.iface 179 (.agg #[.pointer (some ⟨10,32,none⟩)])]).run prog w=.ok (.bool false) w:=by kernel_rfl
theorem no183 (v:Value) (h:TypeId) (w:World):(Instr.typeAssert (.iface 175 v) h 183 true).run prog w=.ok (.tuple #[.nilIface,.bool false]) w:=run_typeAssert_lacksB underlying183 (by kernel_rfl) (by kernel_rfl) v h w
set_option maxRecDepth 100000 in
theorem qy5 (b:Nat) (k:Int) (t:Addr) (old:Value) (w:World) (Q:w.cell? ⟨0,0,none⟩=some (.iface 179 (.agg #[.pointer (some ⟨10,27,none⟩)]))) (j:w.cell? t=some old) (G:w.frozen? t=false) (hc:w.cell? ⟨b,1,none⟩=some (.int .i64 k)) :
  Calls prog 16 #[.iface 175 (.pointer (some ⟨b,0,none⟩)),.iface 65 (.pointer (some t))] w fun ev w'=>ev=.returned (.bool true)/\w'=((((w.alloc (.cells #[.pointer (some t)] 65)).alloc (.cells #[.pointer (some ⟨10,65,none⟩),.pointer (some ⟨w.heap.size,0,none⟩),.int .u64 150] 107)).alloc (.cells #[.pointer (some ⟨10,65,none⟩),.pointer (some ⟨w.heap.size,0,none⟩),.int .u64 150] 107)).alloc (.cells #[.int .i64 k] 32)).setCell t (.int .i64 k):=by
 have a6:=@run_callFunc_extern prog 41 _ (fun args=>ReflectliteValue.unpack (args.getD 0 (.tuple #[]))) func41 (by kernel_rfl) (by kernel_rfl) (by kernel_rfl) (by kernel_rfl)
 have a7:=@run_callFunc_extern prog 42 _ (ReflectliteValue.methodAny (ReflectliteValue.valueError "reflectlite.Value.Type" 0) (fun t _ _ _=>ReflectliteType.toType t)) func42 (by kernel_rfl) (by kernel_rfl) (by kernel_rfl) (by kernel_rfl)
 have a8:=@run_callFunc_extern prog 43 _ (ReflectliteValue.method (ReflectliteValue.valueError "reflectlite.Value.IsNil" 0) ReflectliteValue.isNil) func43 (by kernel_rfl) (by kernel_rfl) (by kernel_rfl) (by kernel_rfl)
 have ag:=@run_callFunc_extern prog 258 _ (ReflectliteType.abiMethod fun t=>do pure (.int .u8 (<-Rtype.kind t))) func258 (by kernel_rfl) (by kernel_rfl) (by kernel_rfl) (by kernel_rfl);have M:=@run_callFunc_extern prog 271 _ (ReflectliteType.method ReflectliteType.elem) func271 (by kernel_rfl) (by kernel_rfl) (by kernel_rfl) (by kernel_rfl)
 have O:=@run_callFunc_extern prog 272 _ (ReflectliteType.relation "Implements" ReflectliteType.implements_) func272 (by kernel_rfl) (by kernel_rfl) (by kernel_rfl) (by kernel_rfl);have ac:=@run_callFunc_extern prog 74 _ ReflectliteType.typeOf func74 (by kernel_rfl) (by kernel_rfl) (by kernel_rfl) (by kernel_rfl)
 have L:=@run_callFunc_extern prog 269 _ (ReflectliteType.relation "AssignableTo" ReflectliteType.assignableTo) func269 (by kernel_rfl) (by kernel_rfl) (by kernel_rfl) (by kernel_rfl)
 have ad:=@run_callFunc_extern prog 83 _ (ReflectliteValue.method (ReflectliteValue.valueError "reflectlite.Value.Elem" 0) ReflectliteValue.elem) func83 (by kernel_rfl) (by kernel_rfl) (by kernel_rfl) (by kernel_rfl);have ae:=@run_callFunc_extern prog 84 _ ReflectliteValue.set func84 (by kernel_rfl) (by kernel_rfl) (by kernel_rfl) (by kernel_rfl)
 have tO:=V3;have ak:=zzY;have a75:=GZ;have n134:=no183;have V:=K.is205;have mU:=K.methodUnwrap;have I:b<w.heap.size:=by
  rcases Wy4 b w.heap.size with h | h
  ·exact h
  simp[World.cell?,Array.getElem?_eq_none h] at hc
 have D:(((w.alloc (.cells #[.pointer (some t)] 65)).alloc (.cells #[.pointer (some ⟨10,65,none⟩),.pointer (some ⟨w.heap.size,0,none⟩),.int .u64 150] 107)).alloc (.cells #[.pointer (some ⟨10,65,none⟩),.pointer (some ⟨w.heap.size,0,none⟩),.int .u64 150] 107)).cell? ⟨b,1,none⟩=some (.int .i64 k):=by
  rw[World.cell?_alloc_lt _ _ ⟨b,1,none⟩ (by simp;omega),World.cell?_alloc_lt _ _ ⟨b,1,none⟩ (by simp;omega),World.cell?_alloc_lt _ _ ⟨b,1,none⟩ I];exact hc
 have Y:=K.unwrap_any b k _ D;have mA:=jK;have a32:=V4;have v32:=N3;have f6:=N0;have f7:=zy3;have mK:=Jy;have mE:=Ju;have mI:=Zv;have aj:=zy4;have ai:=zy5;have Z:=zy6;have i32:=V2
 have n8:=EJ ⟨w.heap.size,0,none⟩ t ((w.alloc (.cells #[.pointer (some t)] 65)).alloc (.cells #[.pointer (some ⟨10,65,none⟩),.pointer (some ⟨w.heap.size,0,none⟩),.int .u64 150] 107)) (by simp);have J:0<w.heap.size:=by
  rcases Wy4 0 w.heap.size with h | h
  ·exact h
  simp[World.cell?,Array.getElem?_eq_none h] at Q
 have ah:((w.alloc (.cells #[.pointer (some t)] 65)).alloc (.cells #[.pointer (some ⟨10,65,none⟩),.pointer (some ⟨w.heap.size,0,none⟩),.int .u64 150] 107)).cell? ⟨0,0,none⟩=some (.iface 179 (.agg #[.pointer (some ⟨10,27,none⟩)])):=by
  rw[World.cell?_alloc_lt _ _ ⟨0,0,none⟩ (by simp),World.cell?_alloc_lt _ _ ⟨0,0,none⟩ J];exact Q
 have A:t.block<w.heap.size:=by
  rcases Wy4 t.block w.heap.size with h | h
  ·exact h
  simp[World.cell?,Array.getElem?_eq_none h] at j
 have el:=EK ⟨w.heap.size,0,none⟩ t (((w.alloc (.cells #[.pointer (some t)] 65)).alloc (.cells #[.pointer (some ⟨10,65,none⟩),.pointer (some ⟨w.heap.size,0,none⟩),.int .u64 150] 107)).alloc (.cells #[.pointer (some ⟨10,65,none⟩),.pointer (some ⟨w.heap.size,0,none⟩),.int .u64 150] 107)) (by rw[World.cell?_alloc_lt _ _ ⟨w.heap.size,0,none⟩ (by simp;omega)];simp)
 have st:=qx4 t ⟨w.heap.size+1+1+1,0,none⟩ k old ((((w.alloc (.cells #[.pointer (some t)] 65)).alloc (.cells #[.pointer (some ⟨10,65,none⟩),.pointer (some ⟨w.heap.size,0,none⟩),.int .u64 150] 107)).alloc (.cells #[.pointer (some ⟨10,65,none⟩),.pointer (some ⟨w.heap.size,0,none⟩),.int .u64 150] 107)).alloc (.cells #[.int .i64 k] 32))
  (by rw[World.cell?_alloc_at _ _ _ _ (by simp)];rfl)
  (by rw[World.cell?_alloc_lt _ _ t (by simp;omega),World.cell?_alloc_lt _ _ t (by simp;omega),World.cell?_alloc_lt _ _ t (by simp;omega),World.cell?_alloc_lt _ _ t A];exact j)
  (by rw[World.frozen?_alloc_old _ _ t (by simp;omega),World.frozen?_alloc_old _ _ t (by simp;omega),World.frozen?_alloc_old _ _ t (by simp;omega),World.frozen?_alloc_old _ _ t (Nat.ne_of_lt A)];exact G)
 go_enter func16,ntmps16;go_wp2;refine wp_loop_rounds 2 ?_;rw[rounds_succ];go_wp2_with (go_at_call 267;refine Y.mono ?_;rintro e w' ⟨rfl,rfl⟩)
 rw[rounds_succ];go_wp2;go_ret;exact⟨rfl,rfl⟩
theorem zq0 (b:Nat) (k:Int) (w:World) (I:w.cell? ⟨0,0,none⟩=some (.iface 179 (.agg #[.pointer (some ⟨10,27,none⟩)]))) (hc:w.cell? ⟨b,1,none⟩=some (.int .i64 k)) :
  Calls prog 7 #[.iface 175 (.pointer (some ⟨b,0,none⟩))] w fun e w'=>e=.returned (.int .i64 k)/\Below w.heap.size w w':=by
 have G:0<w.heap.size:=by
  rcases Wy4 0 w.heap.size with h | h
  ·exact h
  simp[World.cell?,Array.getElem?_eq_none h] at I
 have A:(w.alloc (.cells #[.int .i64 0] 32)).cell? ⟨0,0,none⟩=some (.iface 179 (.agg #[.pointer (some ⟨10,27,none⟩)])):=by
  rw[World.cell?_alloc_lt _ _ ⟨0,0,none⟩ G];exact I
 have D:b<w.heap.size:=by
  rcases Wy4 b w.heap.size with h | h
  ·exact h
  simp[World.cell?,Array.getElem?_eq_none h] at hc
 have j:(w.alloc (.cells #[.int .i64 0] 32)).cell? ⟨b,1,none⟩=some (.int .i64 k):=by
  rw[World.cell?_alloc_lt _ _ ⟨b,1,none⟩ D];exact hc
 go_enter func7,ntmps7;go_wp2_with (go_at_call 16;refine(qy5 b k ⟨w.heap.size,0,none⟩ (.int .i64 0) _ A (by simp) (by simp[go_sem]) j).mono ?_;rintro e w' ⟨rfl,rfl⟩)
 go_ret;exact⟨rfl,(((((Below.refl _ w).alloc (Wz8 _) _).alloc (by simp) _).alloc (by simp;omega) _).alloc (by simp;omega) _).alloc (by simp;omega) _⟩
end Go.Proofs.YtdnphaganajejaaGreatDoor
namespace Go.Proofs.YtdnphaganajejaaGreatDoor.K
open Go.Proofs.Tryz
open Go.RowKit
theorem zj1 (S XE:Nat->Prop) (N D R:Nat) (w:World) (f:Fq) (t n:Nat) (T:Ts) (x y:Str) (h:Pw S XE N D R w f t n T) (hN:N<=70000) (hn:n<=70000) (O:isN x=true->isN y=true->x ≠ y->∀ T',aT T'=stF (aT T) [lkS x y]->Few T') (Q:∀ z,(aT T z).isSome=true->∀ b ∈ z,b<128) (ht:Tab w) (Y:Db w) (K:Mx w) :
  Calls prog 22 #[.pointer (some ⟨R,0,none⟩),sV x,sV y] w (jv S XE N D R f n T x y w):=by
 obtain⟨r,HR⟩:=nm_ w.heap.size;have j:=x6 x w K;have A:=fun W (J:Below r w W)=>x6 y W (K.below (by rw[HR.out];exact J));rw[HR.out] at j;by_cases hx:isN x=true;rotate_left
 ·have a6:isN x=false:=by simpa using hx
  rw[a6] at j;have L:Hid (∀ W,Below r w W->jv S XE N D R f n T x y w (.returned (.iface 32 (.int .i64 60))) W):=fun W J=>.inl ⟨fun Z=>hx Z.1,rfl,by rw[HR.out];exact J⟩;unfold sV at j ⊢;clear h O Q A;go_enter func22,ntmps22;go_wp2_with (go_at_call 60;refine j.mono ?_;rintro e w1 ⟨rfl,hb⟩;have I:=hid hb;clear hb j)
  exact bodyPost_ret (results_tmp results22 _ _ _) rfl (L.out _ I.out)
 rw[hx] at j;by_cases hy:isN y=true
 ·rw[hy] at A;by_cases M:x=y
  ·subst M;have L:Hid (∀ W,Below r w W->jv S XE N D R f n T x x w (.returned (.iface 32 (.int .i64 64))) W):=fun W J=>.inr ⟨⟨hx,hx⟩,.inl ⟨rfl,rfl,by rw[HR.out];exact J⟩⟩;unfold sV at j A ⊢;clear h O Q;go_enter func22,ntmps22;go_wp2_with (first
    | (go_at_call 60;refine j.mono ?_;rintro e w1 ⟨rfl,hb⟩;have I:=hid hb;have G:=A w1 hb;clear hb j A)
    | (go_at_call 60;refine G.mono ?_;rintro e w2 ⟨rfl,hb⟩;have V:Hid (Below r w w2):=hid (I.out.trans (hb.mono (by have:=I.out.size;have:=HR.out;omega)));clear hb G))
   exact bodyPost_ret (results_tmp results22 _ _ _) rfl (L.out _ V.out)
  exact zu3 S XE N D R w f t n T x y h hN hn (O hx hy M) Q ht Y K
 have a7:isN y=false:=by simpa using hy
 rw[a7] at A;have L:Hid (∀ W,Below r w W->jv S XE N D R f n T x y w (.returned (.iface 32 (.int .i64 60))) W):=fun W J=>.inl ⟨fun Z=>hy Z.2,rfl,by rw[HR.out];exact J⟩;unfold sV at j A ⊢;clear h O Q;go_enter func22,ntmps22;go_wp2_with (first
  | (go_at_call 60;refine j.mono ?_;rintro e w1 ⟨rfl,hb⟩;have I:=hid hb;have G:=A w1 hb;clear hb j A)
  | (go_at_call 60;refine G.mono ?_;rintro e w2 ⟨rfl,hb⟩;have V:Hid (Below r w w2):=hid (I.out.trans (hb.mono (by have:=I.out.size;have:=HR.out;omega)));clear hb G))
 exact bodyPost_ret (results_tmp results22 _ _ _) rfl (L.out _ V.out)
end Go.Proofs.YtdnphaganajejaaGreatDoor.K
