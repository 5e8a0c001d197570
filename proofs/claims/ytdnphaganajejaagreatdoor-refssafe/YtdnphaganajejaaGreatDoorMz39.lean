import Derived.Test.YtdnphaganajejaaGreatDoorMz36
import Derived.Test.YtdnphaganajejaaGreatDoorMz34
set_option linter.unusedSimpArgs false
set_option linter.unusedVariables false
set_option maxRecDepth 20000
set_option maxHeartbeats 4000000
open List renaming append_assoc->Wy8,foldl_cons->WqW,length_append->Wzy,length_map->Wx7,length_take->WzJ,length_zip->Wv2,map_append->Wxu,mem_append->Wqx,mem_singleton->Wqk,take_of_length_le->Wq0
open Nat renaming le_refl->Wz8,zero_le->Wqw
open Option renaming getD_some->Wx0
namespace Go.Proofs.YtdnphaganajejaaGreatDoor.K
open Go.Proofs.Tryz
open Go.RowKit
theorem results21:f21.results=#[.tmp 8]:=by kernel_rfl
def ku (G Q:Nat) (rs:List Rx) (ls:List Ex) (ms:List Mv1) (p:Per) (tx:Str) (w:World) (e:Ending) (w':World):Prop := ∃ k rs' ls',UdP rs ls ms p tx k rs' ls'/\e=.returned (.int .i64 k)/\(∃ v1 v2,Dq G w' Q v1 v2 rs' ls')/\Al (fun i=>i=Q) w w'
structure We (wb wo i:Nat) (l:List Str) (xb xo n xc:Nat) (W:World):Prop where
 c:W.cell? ⟨wb,wo+i,none⟩=some (.slice (some ⟨xb,xo,none⟩) (n+1) xc)
 at_:∀ j,j<=n->W.cell? ⟨xb,xo+j,none⟩=some (sV (l.getD j []))
theorem Wz.we {w0 w:World} {B:Nat} {I:Option Addr} {O M:Nat} {xs:List Wy} (h:Wz w0 w B (.slice I O M) xs) {i:Nat} (hi:i<xs.length) (h0:0<(xs.getD i dW).l.length):∃ J K D G n,I=some ⟨J,K,none⟩/\(xs.getD i dW).a=some ⟨D,G,none⟩/\(xs.getD i dW).l.length=n+1/\We J K i (xs.getD i dW).l D G n (xs.getD i dW).c w:=by
 obtain⟨b,off,c,hv,hc,L⟩:=h.at hi;injection hv with e1 Q V;obtain⟨D,G,A,_,hx⟩:=L.at_ h0;refine⟨b,off,D,G,(xs.getD i dW).l.length-1,e1,A,by omega,?_,fun j Y=>?_⟩
 ·rw[hc,A];congr 2;omega
 have:=hx j (by omega) 0 _ rfl;simpa using this
structure QeW (wb wi xb xi n1 xc wk yb yi n2 yc:Nat) (A B:ByteArray) (xo yo:Nat) (W:World):Prop where
 c1:W.cell? ⟨wb,wi,none⟩=some (.slice (some ⟨xb,xo,none⟩) (n1+1) xc)
 c2:W.cell? ⟨xb,xi,none⟩=some (.string A)
 c3:W.cell? ⟨wb,wk,none⟩=some (.slice (some ⟨yb,yo,none⟩) (n2+1) yc)
 c4:W.cell? ⟨yb,yi,none⟩=some (.string B)
structure Qf (wb wi xb xo xi n1 xc:Nat) (A:ByteArray) (W:World):Prop where
 c1:W.cell? ⟨wb,wi,none⟩=some (.slice (some ⟨xb,xo,none⟩) (n1+1) xc)
 c2:W.cell? ⟨xb,xi,none⟩=some (.string A)
structure Qg (mb mo mn z:Nat) (O Nw Z:List Value) (W:World):Prop where
 ro:W.rangeAt mb mo O
 rn:W.rangeAt mb mn Nw
 rz:W.rangeAt z 0 Z
structure Qi (mb mo mn z Q qb qo qi NR qc:Nat) (O Nw Z I:List Value) (W:World):Prop extends Qg mb mo mn z O Nw Z W where
 c0:W.cell? ⟨Q,0,none⟩=some (.slice (some ⟨qb,qo,none⟩) NR qc)
 ri:W.rangeAt qb qi I
structure Ql (wb wi xb xo xi n1 xc mb mo mn z C r:Nat) (A:ByteArray) (O Nw Z PV:List Value) (u:Value) (W:World):Prop extends Qg mb mo mn z O Nw Z W where
 c1:W.cell? ⟨wb,wi,none⟩=some (.slice (some ⟨xb,xo,none⟩) (n1+1) xc)
 c2:W.cell? ⟨xb,xi,none⟩=some (.string A)
 c3:W.cell? ⟨C,1,none⟩=some u
 rp:W.rangeAt r 0 PV
theorem bd141 (N:ByteArray) (x y:List Int) (hx:x.length=20) (hy:y.length=20) (p:Per) (t:ByteArray) (w:World):(Instr.build 144 #[(0,.string N),(1,.agg (row .u8 x).toArray),(2,.agg (row .u8 y).toArray),(3,.agg (x8 p)),(4,.string t)]).run prog w=.ok (.agg (Value.string N :: (row .u8 x++(row .u8 y++[Value.string ⟨p.name.toArray⟩,Value.string ⟨p.mail.toArray⟩,Value.int .i64 p.time,Value.int .i64 p.zone,Value.string t]))).toArray) w:=by
 obtain⟨pn,pm,pt,pz⟩:=p;obtain⟨a0,a1,a2,a3,a4,a5,a6,a7,a8,a9,h,j,A,D,G,I,J,K,L,M,rfl⟩:=yJ x hx;obtain⟨b0,b1,b2,b3,b4,b5,b6,b7,b8,b9,O,Q,V,Y,Z,ac,ad,ae,ag,ah,rfl⟩:=yJ y hy;unfold x8;simp only;generalize (⟨pn.toArray⟩:ByteArray)=P1;generalize (⟨pm.toArray⟩:ByteArray)=P2;show _=_;kernel_rfl
theorem zjv {P:Program} {o:Oper} {a:Act} {w w':World} (t:TypeId) (i j k l n:Nat) (x y z q s:Operand) (Q:o.op=.build t #[(i,x),(j,y),(k,z),(l,q),(n,s)]) (h A D G I v:Value) (J:a.eval x=h) (K:a.eval y=A) (L:a.eval z=D) (M:a.eval q=G) (O:a.eval s=I) (hr:(Instr.build t #[(i,h),(j,A),(k,D),(l,G),(n,I)]).run P w=.ok v w'):(execOp a.eval o).run P w=.ok (.value v) w':=by
 unfold execOp;simp[Q,J,K,L,M,O,hr,Result.andThen]
theorem IK:∀ (h:List (List Str × Mv1)) (rs:List Rx),(rsU rs h).length<=rs.length+h.length
 | [],rs=>by simp[rsU]
 | y :: h,rs=>by
  have j:=IK h (Rk.setL geS (enW y.1) (some (y.2.new,[])) rs (decide (y.2.new=zZ)));have A:=Yx geS (enW y.1) (y.2.new,[]) rs (decide (y.2.new=zZ));have D:(if decide (y.2.new=zZ)=true then 0 else 1)<=1:=by split <;> omega
  unfold rsU at j ⊢;rw[WqW,List.length_cons];omega
theorem zjw {f:Nat->Str} : ∀ n:Nat,(∀ i,i<n->∀ k,k<i->f i ≠ f k)->((List.range n).map f).Nodup:=fun n h=>by
 rw[List.Nodup,List.pairwise_map];refine List.Pairwise.imp_of_mem ?_ List.pairwise_lt_range;intro a b A hb j e;exact h b (List.mem_range.1 hb) a j e.symm
theorem AW {ls:List (List Str)} (h:∀ i,i<ls.length->∀ k,k<i->enW (ls.getD i []) ≠ enW (ls.getD k [])):(ls.map enW).Nodup:=by
 have:ls.map enW=(List.range ls.length).map fun i=>enW (ls.getD i []):=by
  refine List.ext_getElem (by simp) fun j A D=>?_;simp only[Wx7] at A;simp[List.getD_eq_getElem?_getD,List.getElem?_eq_getElem A]
 rw[this];exact zjw _ h
theorem zjy {ls:List (List Str)} {i k:Nat} (hi:i<ls.length) (G:k<i) (h:enW (ls.getD i [])=enW (ls.getD k [])):¬ (ls.map enW).Nodup:=fun D=>by
 have j:i<(ls.map enW).length:=by simpa using hi
 have A:k<(ls.map enW).length:=by simp;omega
 have:=(List.getElem_inj (h₀:=j) (h₁:=A) D).1 (by
  simp only[List.getElem_map];rw[List.getD_eq_getElem?_getD,List.getElem?_eq_getElem hi,List.getD_eq_getElem?_getD,List.getElem?_eq_getElem (show k<ls.length by omega)] at h;exact h)
 omega
set_option maxHeartbeats 8000000 in
theorem MX {G Q:Nat} {v1 v2:Value} {rs:List Rx} {ls:List Ex} (a:Option Addr) (c:Nat) (ms:List Mv1) (p:Per) (tx:Str) (w:World) (h:Dq G w Q v1 v2 rs ls) (hG:G<=w.heap.size) (hP:Px qj 41 dMv w a c ms) (eJ:∀ m ∈ ms,xu m) (gd:ms.length<=20) (eO:tx.length<=1000000) (eN:rs.length+20<=100000) (eF:ls.length+180<=1000000) :
  Calls prog 21 #[.pointer (some ⟨Q,0,none⟩),.slice a ms.length c,.agg (x8 p),sV tx] w (ku G Q rs ls ms p tx w):=by
 obtain⟨r,HR⟩:=nm_ w.heap.size;obtain⟨N,HN⟩:=nm_ ms.length;have ha:N<=20:=by rw[<-HN.out];exact gd
 obtain⟨PV,bN⟩:=nm_ (x8 p);have eK:PV.size=4:=by rw[<-bN.out];rfl
 have dQ:Hid ((prog.info? 72).map (·.size)=some PV.size):=hid (by rw[eK];kernel_rfl);obtain⟨Z,HZ⟩:=ri zZ rfl;have fK:Hid (Z=z89):=hid (by rw[<-HZ.out.e];rfl);obtain⟨W2,bh⟩:=nm_ ((w.alloc (.cells PV 72)).alloc (.cells Z 91));have aH:Below r w W2:=by rw[<-bh.out,<-HR.out];exact((Below.refl _ w).alloc (Wz8 _) _).alloc (by simp) _
 have gm:W2.heap.size=r+2:=by rw[<-bh.out,<-HR.out];simp
 have hr0:W2.heap[r]? = some (.cells PV 72):=by rw[<-bh.out,<-HR.out,heap_alloc_old _ _ (by simp)];exact heap_alloc_new _ _
 have eM:W2.heap[r+1]? = some (.cells Z 91):=by
  have:=heap_alloc_new (w.alloc (.cells PV 72)) (.cells Z 91);rw[bh.out] at this;simpa [HR.out] using this
 have hf:Q<r:=by rw[<-HR.out];exact z7 h.box
 have fh:Hid (G<=r):=hid (by rw[<-HR.out];exact hG);have av:Hid (∀ W,Below r w W->Dq G W Q v1 v2 rs ls/\Px qj 41 dMv W a c ms):=fun W K=>⟨h.below (by rw[HR.out];exact K),hP.below (by rw[HR.out];exact K)⟩
 have am:Hid (∀ k W,UdP rs ls ms p tx k rs ls->Below r w W->ku G Q rs ls ms p tx w (.returned (.int .i64 k)) W):=fun k W hu K=>⟨k,rs,ls,hu,rfl,⟨v1,v2,(av.out W K).1⟩,Al.below (by rw[HR.out];exact K)⟩;have cN:=hid eJ;have dH:=hid h;have fu:Hid (∀ i,i<N->(ms.map (·.name)).getD i []=(ms.getD i dMv).name):=fun i hi=>by
  rw[<-HN.out] at hi;simp[List.getD_eq_getElem?_getD,List.getElem?_eq_getElem hi]
 have bm:Hid ((ms.map (·.name)).length=N):=hid (by simp[HN.out]);have fM:Hid (Wz W2 W2 (r+2) (.slice none 0 0) []):=hid (Wz.nil W2 (r+2) (by rw[gm];exact Wz8 _))
 have dD:Hid (∀ W,Below (r+2) W2 W->Below r w W/\W.heap[r]? = some (.cells PV 72)/\W.heap[r+1]? = some (.cells Z 91)):=fun W K=>⟨aH.trans (K.mono (by omega)),(K.block r (by omega)).trans hr0,(K.block (r+1) (by omega)).trans eM⟩;obtain⟨X,HX⟩:=nm_ (⟨tx.toArray⟩:ByteArray);have cS:=bh;rw[fK.out] at cS;unfold z89 at cS;have fD:=hid eN;have dU:=hid eF
 have h8:=hid eO;rw[HN.out,bN.out];unfold sV;rw[HX.out];clear h hP eJ aH hr0 eM hG eN eF eO;go_enter func21,ntmps21;go_wp2;rw[cS.out,HR.out];go_loopg [10,11] N (fun q ov iv wr=>∃ (i:Nat) (u:Value) (xs:List Wy),iv=.int .i64 i/\u=ov/\q=N-i/\i<=N/\xs.length=i/\Hid (Wz W2 wr (r+2) u xs)/\Hid (Wl (wyF (Rk.fd rs) 8) ((ms.map (·.name)).take i) (xs.map (·.l))))
 case atStart=>exact⟨0,_,[],rfl,rfl,rfl,Wqw _,rfl,fM,hid ⟨by simp,fun j hj=>by simp at hj⟩⟩
 obtain⟨i,u,xs,rfl,hu,hq,df,ci,aC,bR⟩:=hrel;subst hu;obtain⟨ua,uc,eP⟩:=zu aC.out.bx.own;rw[ci] at eP;subst eP;have bA:=(dD.out wr aC.out.bx.below).1;by_cases a8:i<N
 ·as_aux_lemma =>
  have au:(i:Int)<(N:Int):=by omega
  obtain⟨d1,p1⟩:=av.out wr bA;obtain⟨b,off,fR,_,_⟩:=p1.at_ (by rw[HN.out];omega);subst fR;have dp:xu (ms.getD i dMv):=cN.out _ (zQ ms i dMv (by rw[HN.out];exact a8));obtain⟨y,hy⟩:∃ y,(ms.getD i dMv).name=y:=⟨_,rfl⟩;have cU:Hid ((ms.map (·.name)).getD i []=y):=hid (by rw[fu.out i a8];exact hy)
  have cp:Hid (∀ W,Below r w W->W.cell? ⟨b,off+i*41,none⟩=some (sV y)):=fun W K=>by
   obtain⟨_,_,e1,_,e3⟩:=(av.out W K).2.at_ (by rw[HN.out];omega);cases e1
   rw[<-hy];exact e3 i (by rw[HN.out];exact a8) 0 _ rfl
  have aU:=cp.out wr bA;have a7:=uq y wr;have aX:Hid (∀ W,Below wr.heap.size wr W->Below r w W):=fun W K=>bA.trans (K.mono (by have:=bA.size;have:=HR.out;omega));have cj:Hid (∀ k W,Below r w W->((isN y=false/\k=60) ∨ (isN y=true/\wyF (Rk.fd rs) 8 y=none/\k=64))->ku G Q rs ls ms p tx w (.returned (.int .i64 k)) W):=fun k W K hk=>by
   refine am.out k W (.inl ⟨i,by rw[bm.out];exact a8,⟨_,bR.out⟩,?_⟩) K;rw[cU.out];rcases hk with ⟨h1,rfl⟩ | ⟨h1,h2,rfl⟩
   ·exact .inl ⟨h1,rfl,rfl,rfl⟩
   exact .inr ⟨h1,h2,rfl,rfl,rfl⟩
  obtain⟨Y,HY⟩:=nm_ (⟨y.toArray⟩:ByteArray);cases hi:isN y with
  | false =>
   rw[hi] at a7;have HE:Hid (∀ W,Below wr.heap.size wr W->ku G Q rs ls ms p tx w (.returned (.int .i64 60)) W):=fun W K=>cj.out 60 W (aX.out W K) (.inl ⟨hi,rfl⟩);unfold sV at aU a7;rw[HY.out] at aU a7;clear d1 p1 dp hy;go_wp2_with (go_at_call 53;refine a7.mono ?_;rintro e w2 ⟨rfl,hb⟩;have E2:=hid (HE.out w2 hb);clear hb a7)
   exact bodyPost_ret (results_tmp results21 _ _ _) rfl E2.out
  | true =>
   rw[hi] at a7;have eU:=qX hi;have aB:Hid (∀ W,Below wr.heap.size wr W->Calls prog 54 #[.pointer (some ⟨Q,0,none⟩),sV y] W fun e w'=>Qk rs y W.heap.size e w'/\Below W.heap.size W w'):=fun W K=>M8 y W (av.out W (aX.out W K)).1 eU
   have dG:Hid (∀ W,Below wr.heap.size wr W->W.cell? ⟨b,off+i*41,none⟩=some (.string Y)):=fun W K=>by rw[<-HY.out];exact cp.out W (aX.out W K)
   cases K:wyF (Rk.fd rs) 8 y with
   | none =>
    unfold Qk at aB;rw[K] at aB;have HE:Hid (∀ W W',Below wr.heap.size wr W->Below W.heap.size W W'->ku G Q rs ls ms p tx w (.returned (.int .i64 64)) W'):=fun W W' h1 h2=>cj.out 64 W' ((aX.out W h1).trans (h2.mono (by have:=(aX.out W h1).size;have:=HR.out;omega))) (.inr ⟨hi,K,rfl⟩);unfold sV at aU a7 aB;rw[HY.out] at aU a7 aB;clear d1 p1 dp hy K
    go_wp2_with (first
     | (go_at_call 53;refine a7.mono ?_;rintro e w2 ⟨rfl,hb⟩;have c8:=dG.out w2 hb;have bo:=aB.out w2 hb;have B2:=hid hb;clear hb a7)
     | (go_at_call 54;refine bo.mono ?_;rintro e w3 ⟨rfl,hb⟩;have E3:=hid (HE.out w2 w3 B2.out hb);clear hb bo))
    exact bodyPost_ret (results_tmp results21 _ _ _) rfl E3.out
   | some l =>
    unfold Qk at aB;rw[K] at aB;obtain⟨ln,bM⟩:=nm_ l.length
    have ed:Hid (∀ W,Below wr.heap.size wr W->Calls prog 54 #[.pointer (some ⟨Q,0,none⟩),.string Y] W fun e w3=>∃ va vc,e=.returned (.tuple #[.slice va ln vc,.int .i64 0])/\∃ X4,w3.alloc (.cells #[.slice va ln vc] 98)=X4/\Wz W2 X4 (r+2) (.slice ua i uc) xs/\Px Vu 1 dW X4 (some ⟨w3.heap.size,0,none⟩) 1 [⟨va,vc,l⟩]/\(∀ v' w5,Bx Vu 1 98 W2 w5 (r+2) v' (xs++[⟨va,vc,l⟩])->Mv X4 w5 (.slice ua i uc) v'->Wz W2 w5 (r+2) v' (xs++[⟨va,vc,l⟩]))):=fun W bY=>by
     have bB:=aB.out W bY;unfold sV at bB;rw[HY.out] at bB;refine bB.mono ?_;rintro e w3 ⟨⟨v,rfl,bE⟩,bZ⟩;obtain⟨va,vc,hv⟩:=zu bE;subst hv;rw[bM.out] at bE;refine⟨va,vc,by rw[bM.out],_,rfl,?_⟩;have ey:Below wr.heap.size wr w3:=bY.trans (bZ.mono bY.size);have aE:Below wr.heap.size wr (w3.alloc (.cells #[.slice va ln vc] 98)):=ey.alloc ey.size _
     have fP:r+2<=W.heap.size:=(by have:=aC.out.bx.le;have:=bY.size;omega);have gh:(w3.alloc (.cells #[.slice va ln vc] 98)).ownsRow (r+2) 9 1 (.slice va ln vc) ln (l.map sV):=qv (vj bE ((Below.refl _ w3).alloc (Wz8 _) _)) fP;have eu:=aC.out.carry aE;refine⟨eu,?_,fun v' w5 c6 cg=>?_⟩
     ·have:=x5 (enc:=Vu) (d:=dW) w3 ⟨va,vc,l⟩ 98;simp only[Vu,bM.out] at this;exact this
     have gx:(w3.alloc (.cells #[.slice va ln vc] 98)).ownsRow (r+2) 9 1 (.slice va (⟨va,vc,l⟩:Wy).l.length vc) (⟨va,vc,l⟩:Wy).l.length (l.map sV):=by show World.ownsRow _ _ _ _ (.slice va l.length vc) l.length _;rw[bM.out];exact gh
     exact eu.more (x:=⟨va,vc,l⟩) gx c6 cg
    have bk:Hid (∀ va vc,Wl (wyF (Rk.fd rs) 8) ((ms.map (·.name)).take (i+1)) ((xs++[(⟨va,vc,l⟩:Wy)]).map (·.l))):=fun va vc=>by
     rw[Wxu];exact bR.out.snoc (by rw[bm.out];exact a8) (by rw[cU.out];exact hi) (by rw[cU.out];exact K)
    have f3:Hid (∀ (va:Option Addr) (vc:Nat) (W:World),(Instr.buildSlice 123 1 #[(0,.slice va ln vc)]).run prog W=.ok (.slice (some ⟨W.heap.size,0,none⟩) 1 1) (W.alloc (.cells #[.slice va ln vc] 98))):=fun va vc W=>Nu va ln vc W;have fJ:Hid (∀ x:Wy,xs.length + [x].length<=1000000000):=fun x=>by simp;omega
    unfold sV at aU a7;rw[HY.out] at aU a7;clear d1 p1 dp hy K aB;go_wp2_with (first
     | (go_at_call 53;refine a7.mono ?_;rintro e w2 ⟨rfl,hb⟩;have c8:=dG.out w2 hb;have bo:=ed.out w2 hb;clear hb a7)
     | (go_at_call 54;refine bo.mono ?_;rintro e w3 ⟨va,vc,rfl,X4,er,q1,q3,q4⟩;have fH:=hid er;have Q1:=hid q1;have Q3:=hid q3;have Q4:=hid q4;clear bo q1 q3 q4 er)
     | (refine z8 rfl _ (qJ 123 (.tmp 55) rfl (.slice va ln vc) _ rfl (f3.out va vc _)) ?_;rw[fH.out];go_frame)
     | (at_builtin;refine zy (enc:=Vu) (k:=1) (d:=dW) rfl _ _ 123 98 zu5 zu4 z64 (by decide) (by decide) M4 rfl (r+2) (.slice ua i uc) xs rfl Q1.out.bx (some ⟨w3.heap.size,0,none⟩) 1 [⟨va,vc,l⟩] rfl Q3.out (fun _ _=>rfl) (fJ.out _) ?_;intro v5 w5 c6 g7 cg;have Z5:=hid (Q4.out v5 w5 c6 cg);clear c6 g7 cg))
    go_roundg (N-(i+1));case measure=>omega
    case rel=>exact⟨i+1,_,xs++[⟨va,vc,l⟩],by go_num,rfl,rfl,by omega,by simp[ci],Z5,hid (bk.out va vc)⟩
 have au:¬ (i:Int)<(N:Int):=by omega
 as_aux_lemma =>
 have aM:N=i:=by omega
 subst aM;obtain⟨w2,gu⟩:∃ x,x=wr:=⟨_,rfl⟩;subst gu;have bj:Hid (Wl (wyF (Rk.fd rs) 8) (ms.map (·.name)) (xs.map (·.l))):=hid (by
  have:=bR.out;rw[Wq0 (by rw[bm.out];exact Wz8 _)] at this;exact this)
 obtain⟨ws,bk⟩:=nm_ (xs.map (·.l));rw[bk.out] at bj;have bS:Hid (ws.length=N):=hid (by rw[bj.out.1,bm.out]);obtain⟨r2,cQ⟩:=nm_ w2.heap.size;have gk:r+2<=r2:=by have:=aC.out.bx.le;have:=cQ.out;omega
 have ah:Hid (∀ W,Below r2 w2 W->Below r w W/\W.heap[r]? = some (.cells PV 72)/\W.heap[r+1]? = some (.cells Z 91)):=fun W K=>dD.out W (aC.out.bx.below.trans (K.mono gk));have bi:Hid (∀ i,i<N->∃ wb wo xb xo n xc,ua=some ⟨wb,wo,none⟩/\(ws.getD i []).length=n+1/\n<=8/\(∀ y ∈ ws.getD i [],y.length<=60)/\∀ W,Below r2 w2 W->We wb wo i (ws.getD i []) xb xo n xc W):=fun i hi=>by
  have ce:i<xs.length:=by rw[ci];exact hi
  have e1:(xs.getD i dW).l=ws.getD i []:=by rw[<-bk.out];simp[List.getD_eq_getElem?_getD,List.getElem?_eq_getElem ce]
  have h5:=bj.out.2 i (by rw[bm.out];exact hi);obtain⟨g1,g2,g3⟩:=YY (fun x q hx=>(zuz dH.out.ok1 hx).2) 8 _ _ (qX h5.1) h5.2;obtain⟨wb,wo,xb,xo,n,q1,q2,q3,q4⟩:=aC.out.we ce (by rw[e1];exact g1);rw[e1] at q3 q4;refine⟨wb,wo,xb,xo,n,(xs.getD i dW).c,q1,q3,by omega,g3,fun W K=>?_⟩
  obtain⟨gB,gC,hN,hR,n',t1,t2,t3,t4⟩:=(aC.out.carry (W:=W) (by rw[cQ.out];exact K)).we ce (by rw[e1];exact g1);rw[q1] at t1;injection t1 with t1;injection t1 with ta tb _;rw[q2] at t2;injection t2 with t2;injection t2 with tc td _;rw[e1] at t3 t4;have tn:n=n':=by omega
  rw[<-ta,<-tb,<-tc,<-td,<-tn] at t4;exact t4
 have cL:Hid ((ws.map enW).Nodup->∀ k aj ai,UdG rs ls ms p tx k aj ai ws->UdP rs ls ms p tx k aj ai):=fun hn k aj ai hg=>.inr ⟨ws,bj.out,.inr ⟨hn,hg⟩⟩;have dM:Hid (¬ (ws.map enW).Nodup->∀ W,Below r w W->ku G Q rs ls ms p tx w (.returned (.int .i64 60)) W):=fun hn W K=>am.out 60 W (.inr ⟨ws,bj.out,.inl ⟨hn,rfl,rfl,rfl⟩⟩) K;clear bA aC bR bk ci;go_wp2
 go_loopg [15] N (fun q iv wr=>∃ i:Nat,iv=.int .i64 i/\q=N-i/\i<=N/\Hid (Below r2 w2 wr)/\Hid (∀ j,j<i->∀ k,k<j->enW (ws.getD j []) ≠ enW (ws.getD k [])));case atStart=>exact⟨0,rfl,rfl,Wqw _,hid (Below.refl _ _),hid (fun j hj=>by omega)⟩
 obtain⟨i,rfl,hq,df,bJ,dV⟩:=hrel;by_cases a8:i<N
 ·as_aux_lemma =>
  have au:(i:Int)<(N:Int):=by omega
  go_wp2;go_loopg [16] i (fun q kv wr=>∃ k:Nat,kv=.int .i64 k/\q=i-k/\k<=i/\Hid (Below r2 w2 wr)/\Hid (∀ k',k'<k->enW (ws.getD i []) ≠ enW (ws.getD k' [])));case atStart=>exact⟨0,rfl,rfl,Wqw _,bJ,hid (fun j hj=>by omega)⟩
  obtain⟨k,rfl,gi,g9,aP,dY⟩:=hrel;by_cases cf:k<i;rotate_left
  ·have bD:¬ (k:Int)<(i:Int):=(by omega);have dX:Hid (∀ j,j<i+1->∀ k,k<j->enW (ws.getD j []) ≠ enW (ws.getD k [])):=fun j hj k' eD=>by
    by_cases e:j=i
    ·subst e;exact dY.out k' (by omega)
    exact dV.out j (by omega) k' eD
   go_wp2;go_roundg (N-(i+1));case measure=>omega
   case rel=>exact⟨i+1,by go_num,rfl,by omega,aP,dX⟩
  have bD:(k:Int)<(i:Int):=by omega
  have gY:(k:Int)<(N:Int):=by omega
  obtain⟨wb,wo,xb,xo,n1,xc,aV,aJ,dj,aN,ak⟩:=bi.out i a8;obtain⟨gB,gC,yb,yo,n2,yc,cH,gg,hJ,gA,d5⟩:=bi.out k (by omega);rw[aV] at cH;injection cH with e1;injection e1 with e1 e2 _;subst e1;subst e2;subst aV;obtain⟨zi,dw⟩:∃ z,enW (ws.getD i [])=z:=⟨_,rfl⟩;obtain⟨zk,dx⟩:∃ z,enW (ws.getD k [])=z:=⟨_,rfl⟩;obtain⟨A,HA⟩:=nm_ (⟨zi.toArray⟩:ByteArray)
  obtain⟨B,HB⟩:=nm_ (⟨zk.toArray⟩:ByteArray);have fy:Hid (∀ W,Below r2 w2 W->QeW wb (wo+i) xb (xo+n1) n1 xc (wo+k) yb (yo+n2) n2 yc A B xo yo W):=fun W K=>by
   have g1:=(ak W K).at_ n1 (Wz8 _);have g2:=(d5 W K).at_ n2 (Wz8 _);have q1:(ws.getD i []).getD n1 []=zi:=(by rw[<-dw];unfold enW;rw[aJ];rfl);have q2:(ws.getD k []).getD n2 []=zk:=(by rw[<-dx];unfold enW;rw[gg];rfl);rw[q1] at g1;rw[q2] at g2;exact⟨(ak W K).c,by rw[<-HA.out];exact g1,(d5 W K).c,by rw[<-HB.out];exact g2⟩
  have ad:Below r2 w2 wr.drew:=aP.out.trans (zj _ _ 1);have ac:=fy.out _ ad;have ef:=hid dw;have eg:=hid dx;have eR:IntKind.i64.wrap (n1:Int)=(n1:Int):=by rw[IntKind.wrap_i64];omega
  have h4:IntKind.i64.wrap (n2:Int)=(n2:Int):=by rw[IntKind.wrap_i64];omega
  have eG:(n1:Int)<(n1:Int)+1:=by omega
  have gZ:(n2:Int)<(n2:Int)+1:=by omega
  clear ak d5 dw dx aN gA;by_cases he:zi=zk
  ·have fQ:A=B:=(by rw[<-HA.out,<-HB.out,he]);subst fQ;have HE:Hid (∀ W,Below r2 w2 W->ku G Q rs ls ms p tx w (.returned (.int .i64 60)) W):=fun W K=>dM.out (zjy (by rw[bS.out];exact a8) cf (by rw[ef.out,eg.out,he])) W (ah.out W K).1;go_wp2
   refine wp_region_held_drew (S:=QeW wb (wo+i) xb (xo+n1) n1 xc (wo+k) yb (yo+n2) n2 yc A A xo yo) (by kernel_rfl) ac (fun D=>?_);generalize wr.drew=u0 at D ad ac ⊢;iterate 25 (refine xx D ?_;try simp only[Act.put,sL])
   refine wpAnyH_done (by kernel_rfl) ?_ _;have E0:=hid (HE.out u0 ad);clear D ac;go_wp2;exact bodyPost_ret (results_tmp results21 _ _ _) rfl E0.out
  have g0:(A.toList == B.toList)=false:=by rw[<-HA.out,<-HB.out,Lib.toList_data,Lib.toList_data];simpa using he
  have gP:(A == B)=false:=by rw[beq_toListBytes];exact g0
  have dZ:Hid (∀ k',k'<k+1->enW (ws.getD i []) ≠ enW (ws.getD k' [])):=fun k' eD=>by
   by_cases e:k'=k
   ·rw[e,ef.out,eg.out];exact he
   exact dY.out k' (by omega)
  go_wp2;refine wp_region_held_drew (S:=QeW wb (wo+i) xb (xo+n1) n1 xc (wo+k) yb (yo+n2) n2 yc A B xo yo) (by kernel_rfl) ac (fun D=>?_);generalize wr.drew=u0 at D ad ac ⊢;iterate 25 (refine xx D ?_;try simp only[Act.put,sL])
  refine wpAnyH_done (by kernel_rfl) ?_ _;have eY:=hid ad;clear D ac ad;go_wp2;go_roundg (i-(k+1));case measure=>omega
  case rel=>exact⟨k+1,by go_num,rfl,by omega,eY,dZ⟩
 have au:¬ (i:Int)<(N:Int):=by omega
 have aM:N=i:=by omega
 subst aM;as_aux_lemma =>
 have ft:Hid ((ws.map enW).Nodup):=hid (AW (by rw[bS.out];exact dV.out));have eb:Hid (∀ k aj ai,UdG rs ls ms p tx k aj ai ws->UdP rs ls ms p tx k aj ai):=hid (cL.out ft.out);obtain⟨wA,gv⟩:∃ x,x=wr:=⟨_,rfl⟩;subst gv;obtain⟨r3,bP⟩:=nm_ wA.heap.size;have gl:r2<=r3:=by have:=bJ.out.size;have:=bP.out;have:=cQ.out;omega
 have M:Hid (∀ W,Below r3 wA W->Below r2 w2 W):=fun W K=>bJ.out.trans (K.mono gl);have bH:=U2 wA (av.out wA (ah.out wA bJ.out).1).1;unfold Rw at bH;rw[bP.out] at bH
 go_wp2_with (go_at_call 17;refine bH.mono ?_;rintro e w3 ⟨C,V,u2,rfl,hC,ek,bZ⟩;have f4:Hid (∃ V,Dq r3 w3 C V u2 (rsU rs ((ws.zip ms).take 0)) ls):=hid ⟨_,ek⟩;have eZ:=hid bZ;clear ek bZ bH)
 have dC:Hid (∀ W W',Below r3 wA W->Al (fun i=>i=C) W W'->Below r3 wA W'):=fun W W' h1 h2=>⟨h2.os.trans h1.os,h2.tape.trans h1.tape,h2.output.trans h1.output,Nat.le_trans h1.size h2.size,fun i hi=>(h2.blk i (by have:=h1.size;have:=bP.out;omega) (by omega)).trans (h1.block i hi)⟩;have bf:Hid (∀ W,Below r3 wA W->r3<=W.heap.size):=fun W K=>by have:=K.size;have:=bP.out;omega
 have h7:Hid (w3.heap.size=w3.heap.size):=hid rfl;have cX:Hid (∀ j,j<N->(ws.zip ms).getD j ([],dMv)=(ws.getD j [],ms.getD j dMv)):=fun j hj=>by
  have g1:j<ws.length:=by rw[bS.out];exact hj
  have g2:j<ms.length:=by rw[HN.out];exact hj
  have g3:j<(ws.zip ms).length:=by rw[Wv2];omega
  rw[List.getD_eq_getElem?_getD,List.getElem?_eq_getElem g3,Wx0,List.getElem_zip,List.getD_eq_getElem?_getD,List.getElem?_eq_getElem g1,List.getD_eq_getElem?_getD,List.getElem?_eq_getElem g2];rfl
 have bn:Hid ((ws.zip ms).length=N):=hid (by rw[Wv2,bS.out,HN.out];omega);obtain⟨ZL,eh⟩:=nm_ Z.toList;have cV:Hid (ZL=row .u8 zZ):=hid (by rw[<-eh.out,<-HZ.out.e]);have dy:ZL.length=20:=by rw[cV.out];rfl
 have b9:Hid ((prog.info? 91).map (·.size)=some ZL.length):=hid (by rw[dy];kernel_rfl);have ea:Hid (∀ W,Below r2 w2 W->W.rangeAt (r+1) 0 ZL):=fun W K=>by rw[<-eh.out];exact zw (by simpa using (ah.out W K).2.2)
 have bO:Hid (∀ W,Below r2 w2 W->Px qj 41 dMv W a c ms):=fun W K=>(av.out W (ah.out W K).1).2;go_loopg [18] N (fun q iv wr=>∃ i:Nat,iv=.int .i64 i/\q=N-i/\i<=N/\Hid (Below r3 wA wr)/\Hid (∃ V,Dq r3 wr C V u2 (rsU rs ((ws.zip ms).take i)) ls)/\Hid (∀ j,j<i->okO rs (enW (ws.getD j [])) (ms.getD j dMv).old))
 case atStart=>exact⟨0,rfl,rfl,Wqw _,eZ,f4,hid (fun j hj=>by omega)⟩
 obtain⟨i,rfl,hq,df,ay,aZ,cO⟩:=hrel;by_cases a8:i<N
 ·as_aux_lemma =>
  have au:(i:Int)<(N:Int):=by omega
  obtain⟨wb,wo,xb,xo,n1,xc,aV,aJ,dj,aN,ak⟩:=bi.out i a8;subst aV;obtain⟨mb,mo,dl,_,_⟩:=(bO.out wr (M.out wr ay.out)).at_ (by rw[HN.out];omega);subst dl;have a6:xu (ms.getD i dMv):=cN.out _ (zQ ms i dMv (by rw[HN.out];exact a8));obtain⟨m,hm⟩:∃ m,ms.getD i dMv=m:=⟨_,rfl⟩;rw[hm] at a6;obtain⟨z,hz⟩:∃ z,enW (ws.getD i [])=z:=⟨_,rfl⟩
  have eW:z.length<=60:=by rw[<-hz];exact aN _ (uQ _ (by omega))
  obtain⟨A,HA⟩:=nm_ (⟨z.toArray⟩:ByteArray);obtain⟨O,hO⟩:∃ O,row .u8 m.old=O:=⟨_,rfl⟩;obtain⟨Nw,aw⟩:∃ O,row .u8 m.new=O:=⟨_,rfl⟩;have ao:O.length=20:=by rw[<-hO,zv];exact a6.2.1.1
  have bw:Nw.length=20:=by rw[<-aw,zv];exact a6.2.2.1
  have aR:Hid ((prog.info? 91).map (·.size)=some O.length):=hid (by rw[ao];kernel_rfl);have aQ:Hid ((prog.info? 91).map (·.size)=some Nw.length):=hid (by rw[bw];kernel_rfl);have fA:Hid (∀ W,Below r2 w2 W->Qf wb (wo+i) xb xo (xo+n1) n1 xc A W):=fun W K=>by
   have g1:=(ak W K).at_ n1 (Wz8 _);have q1:(ws.getD i []).getD n1 []=z:=(by rw[<-hz];unfold enW;rw[aJ];rfl);rw[q1] at g1;exact⟨(ak W K).c,by rw[<-HA.out];exact g1⟩
  have aG:Hid (∀ W,Below r2 w2 W->Qg mb (mo+i*41+1) (mo+i*41+21) (r+1) O Nw ZL W):=fun W K=>by
   obtain⟨_,_,e1,_,e3⟩:=(bO.out W K).at_ (by rw[HN.out];omega);cases e1
   have e4:=e3 i (by rw[HN.out];exact a8);rw[hm] at e4;refine⟨fun j v hv=>?_,fun j v hv=>?_,ea.out W K⟩
   ·have h2:=e4 (1+j) v (by
     unfold qj;rw[show 1+j=j+1 by omega,List.getElem?_cons_succ,List.getElem?_append_left (by rw[hO];exact(List.getElem?_eq_some_iff.1 hv).1),hO];exact hv)
    rw[<-h2];congr 2;omega
   have h2:=e4 (21+j) v (by
    unfold qj;rw[show 21+j=(20+j)+1 by omega,List.getElem?_cons_succ,List.getElem?_append_right (by rw[hO,ao];omega),hO,ao,show 20+j-20=j by omega,aw];exact hv)
   rw[<-h2];congr 2;omega
  have cF:∀ W:World,(Op.equalIn 10000 91 (.agg O.toArray) (.agg ZL.toArray)).run prog W=.ok (decide (m.old=zZ)) W:=fun W=>by rw[<-hO,cV.out];exact KZ 91 Bj _ _ a6.2.1.1 rfl W
  have cE:∀ W:World,(Op.equalIn 10000 91 (.agg Nw.toArray) (.agg ZL.toArray)).run prog W=.ok (decide (m.new=zZ)) W:=fun W=>by rw[<-aw,cV.out];exact KZ 91 Bj _ _ a6.2.2.1 rfl W
  have b8:=hid cF;have b7:=hid cE;clear cF cE;have gy:jW (z,(m.new,[])):=⟨eW,a6.2.2,by simp⟩;obtain⟨E,hE⟩:∃ E,yx (z,(m.new,[]))=E:=⟨_,rfl⟩;have bI:Hid (∀ W:World,(Instr.build 93 #[(0,.string A),(1,.agg Nw.toArray)]).run prog W=.ok (.agg E.toArray) W):=fun W=>by rw[<-hE,<-HA.out,<-aw];exact qxX _ m.new a6.2.2.1 W
  obtain⟨gn,de⟩:∃ b,decide (m.new=zZ)=b:=⟨_,rfl⟩;rw[de] at b7;have fF:Hid (rsU rs ((ws.zip ms).take (i+1))=Rk.setL geS z (some (m.new,[])) (rsU rs ((ws.zip ms).take i)) gn):=hid (by
   rw[qk ([],dMv) _ i (by rw[bn.out];exact a8),cX.out i a8,hm];unfold rsU;rw[List.foldl_append,WqW,List.foldl_nil,hz,de])
  have dz:Hid (∀ W,Below r3 wA W->(∃ V,Dq r3 W C V u2 (rsU rs ((ws.zip ms).take i)) ls)->Calls prog 56 #[.pointer (some ⟨C,0,none⟩),.agg E.toArray,.bool gn] W fun e W'=>e=.returned (.tuple #[])/\Below r3 wA W'/\∃ V,Dq r3 W' C V u2 (rsU rs ((ws.zip ms).take (i+1))) ls):=fun W K hD=>by
   obtain⟨V,hD⟩:=hD;rw[<-hE];have hl:=IK ((ws.zip ms).take i) rs;have hH:((ws.zip ms).take i).length<=i:=(by rw[WzJ];omega);refine(FX (z,(m.new,[])) gy gn W hD (bf.out W K) (by have:=fD.out;omega)).mono ?_;rintro e W' ⟨rfl,⟨v,bU⟩,d6⟩;exact⟨rfl,dC.out W W' K d6,v,by rw[fF.out];exact bU⟩
  have aA:Hid (¬ okO rs z m.old->∀ W,Below r2 w2 W->ku G Q rs ls ms p tx w (.returned (.int .i64 62)) W):=fun hn W K=>am.out 62 W (eb.out _ _ _ (.inl ⟨i,by rw[HN.out];exact a8,cO.out,by rw[hz,hm];exact hn,rfl,rfl,rfl⟩)) (ah.out W K).1;have cy:Hid (okO rs z m.old->∀ j,j<i+1->okO rs (enW (ws.getD j [])) (ms.getD j dMv).old):=fun ho j hj=>by
   by_cases e:j=i
   ·subst e;rw[hz,hm];exact ho
   exact cO.out j (by omega)
  have fS:=ay.out;have ad:Below r3 wA wr.drew:=fS.trans (zj _ _ 1);have eA:wr.drew.heap=wr.heap:=rfl;have ej:∃ V,Dq r3 wr.drew C V u2 (rsU rs ((ws.zip ms).take i)) ls:=by
   obtain⟨V,hD⟩:=aZ.out;exact⟨V,hD.below (zj _ _ 1)⟩
  have ac:=fA.out _ (M.out _ ad);have aO:=hid ej;have HO:=hid hO;have eR:IntKind.i64.wrap (n1:Int)=(n1:Int):=by rw[IntKind.wrap_i64];omega
  have eG:(n1:Int)<(n1:Int)+1:=by omega
  clear ak hm hz hO aw hE de ej;go_wp2;refine wp_region_held_drew (S:=Qf wb (wo+i) xb xo (xo+n1) n1 xc A) (by kernel_rfl) ac (fun D=>?_);generalize wr.drew=u0 at D ad ac aO eA ⊢;iterate 13 (refine xx D ?_;try simp only[Act.put,sL])
  refine wpAnyH_done (by kernel_rfl) ?_ _;have ax:=YK z u0 (av.out u0 (ah.out u0 (M.out u0 ad)).1).1;unfold sV at ax;rw[HA.out] at ax;have cq:=hid ad;have cM:Hid (∀ W,W=u0.drew->okO rs z m.old->Below r3 wA W/\(∃ V,Dq r3 W C V u2 (rsU rs ((ws.zip ms).take i)) ls)):=fun W e _=>by
   subst e;obtain⟨V,hD⟩:=aO.out;exact⟨cq.out.trans (zj _ _ 1),V,hD.below (zj _ _ 1)⟩
  have ap:Below r3 wA u0.drew:=ad.trans (zj _ _ 1);have bK:Hid (∃ V,Dq r3 u0.drew C V u2 (rsU rs ((ws.zip ms).take i)) ls):=hid (by
   obtain⟨V,hD⟩:=aO.out;exact⟨V,hD.below (zj _ _ 1)⟩)
  clear D ac ad eA aO cM;cases hI:fI rs z with
  | none =>
   rw[hI] at ax;simp only[iV] at ax;have aS:Hid (okO rs z m.old ↔ m.old=zZ):=hid (by unfold okO;rw[(jY rs z).2 hI]);clear hI;go_wp2_with (go_at_call 55;refine ax.mono ?_;rintro e w' ⟨rfl,hw⟩;have J:=hw.symm;subst J;clear hw ax)
   have ag:=aG.out _ (M.out _ ap);refine wp_region_held_drew (S:=Qg mb (mo+i*41+1) (mo+i*41+21) (r+1) O Nw ZL) (by kernel_rfl) ag (fun D=>?_);generalize u0.drew=V at D ap ag bK ⊢;by_cases ho:m.old=zZ;rotate_left
   ·as_aux_lemma =>
    iterate 7 (refine xx D ?_;try simp only[Act.put,sL])
    refine qZ (i:=7) (v:=.agg O.toArray) D (fun w' J=>zY 91 (.tmp 123) rfl mb (mo+i*41+1) rfl O _ J.ro underlying91 rfl aR.out) ?_;(try simp only[Act.put,sL]);refine qZ (i:=8) (v:=.agg ZL.toArray) D (fun w' J=>zY 91 (.tmp 9) rfl (r+1) 0 rfl ZL _ J.rz underlying91 rfl b9.out) ?_;(try simp only[Act.put,sL])
    refine qZ (i:=9) (v:=.bool true) D ?_ ?_
    ·intro w' J;have ar:=b8.out w';rw[decide_eq_false ho] at ar;go_simp
    (try simp only[Act.put,sL]);iterate 2 (refine xx D ?_;try simp only[Act.put,sL])
    iterate 27 (refine I0 D ?_;try simp only[Act.put,sL])
    iterate 1 (refine xx D ?_;try simp only[Act.put,sL])
    refine wpAnyH_done (by kernel_rfl) ?_ _;have HE:=hid (aA.out (fun hh=>ho (aS.out.1 hh)) V (M.out _ ap));clear D ag;go_wp2;exact bodyPost_ret (results_tmp results21 _ _ _) rfl HE.out
   as_aux_lemma =>
   iterate 7 (refine xx D ?_;try simp only[Act.put,sL])
   refine qZ (i:=7) (v:=.agg O.toArray) D (fun w' J=>zY 91 (.tmp 123) rfl mb (mo+i*41+1) rfl O _ J.ro underlying91 rfl aR.out) ?_;(try simp only[Act.put,sL]);refine qZ (i:=8) (v:=.agg ZL.toArray) D (fun w' J=>zY 91 (.tmp 9) rfl (r+1) 0 rfl ZL _ J.rz underlying91 rfl b9.out) ?_;(try simp only[Act.put,sL])
   refine qZ (i:=9) (v:=.bool false) D ?_ ?_
   ·intro w' J;have ar:=b8.out w';rw[decide_eq_true ho] at ar;go_simp
   (try simp only[Act.put,sL]);iterate 5 (refine xx D ?_;try simp only[Act.put,sL])
   iterate 23 (refine I0 D ?_;try simp only[Act.put,sL])
   iterate 2 (refine xx D ?_;try simp only[Act.put,sL])
   refine wpAnyH_done (by kernel_rfl) ?_ _;have be:=hid (cy.out (aS.out.2 ho));have dI:=hid ap;clear D ag;go_wp2;have aF:Below r3 wA V.drew:=ap.trans (zj _ _ 1);have aL:=aG.out _ (M.out _ aF);have aY:Hid (∃ v,Dq r3 V.drew C v u2 (rsU rs ((ws.zip ms).take i)) ls):=hid (by
    obtain⟨v,hD⟩:=bK.out;exact⟨v,hD.below (zj _ _ 1)⟩)
   refine wp_region_held_drew (S:=Qg mb (mo+i*41+1) (mo+i*41+21) (r+1) O Nw ZL) (by kernel_rfl) aL (fun D=>?_);generalize V.drew=u3 at D aF aL aY ⊢;iterate 6 (refine xx D ?_;try simp only[Act.put,sL])
   refine qZ (i:=6) (v:=.agg Nw.toArray) D (fun w' J=>zY 91 (.tmp 162) rfl mb (mo+i*41+21) rfl Nw _ J.rn underlying91 rfl aQ.out) ?_;(try simp only[Act.put,sL]);refine qZ (i:=7) (v:=.agg E.toArray) D (fun w' J=>vz 93 0 1 (.tmp 158) (.tmp 163) rfl (.string A) (.agg Nw.toArray) _ rfl rfl (bI.out _)) ?_;(try simp only[Act.put,sL])
   iterate 4 (refine xx D ?_;try simp only[Act.put,sL])
   refine qZ (i:=12) (v:=.agg Nw.toArray) D (fun w' J=>zY 91 (.tmp 168) rfl mb (mo+i*41+21) rfl Nw _ J.rn underlying91 rfl aQ.out) ?_;(try simp only[Act.put,sL]);refine qZ (i:=13) (v:=.agg ZL.toArray) D (fun w' J=>zY 91 (.tmp 9) rfl (r+1) 0 rfl ZL _ J.rz underlying91 rfl b9.out) ?_;(try simp only[Act.put,sL])
   refine qZ (i:=14) (v:=.bool gn) D ?_ ?_
   ·intro w' J;have ar:=b7.out w';go_simp
   (try simp only[Act.put,sL]);refine vk 15 56 [.tmp 157,.tmp 164,.tmp 171] [.pointer (some ⟨C,0,none⟩),.agg E.toArray,.bool gn] (dz.out u3 aF aY.out) ?_;rintro e u4 ⟨rfl,aE,br⟩;refine⟨_,rfl,aG.out _ (M.out _ aE),fun D=>?_⟩;(try simp only[Act.put,sL]);refine wpAnyH_done (by kernel_rfl) ?_ _;have cJ:=hid aE;have cK:=hid br;clear D aL aE br aF;go_wp2
   go_roundg (N-(i+1));case measure=>omega
   case rel=>exact⟨i+1,by go_num,rfl,by omega,cJ,cK,be⟩
  | some k0 =>
   rw[hI] at ax;simp only[iV] at ax;obtain⟨dh,g8,eE⟩:=(jY rs z).1 k0 hI;have dr:=dH.out.ok1 _ (zQ rs k0 dR dh);obtain⟨id,az⟩:∃ x,(rs.getD k0 dR).2.1=x:=⟨_,rfl⟩;have aS:Hid (okO rs z m.old ↔ id=m.old/\m.old ≠ zZ):=hid (by unfold okO;rw[eE];simp only;rw[az]);obtain⟨I,bu⟩:∃ L,row .u8 id=L:=⟨_,rfl⟩
   have em:I.length=20:=(by rw[<-bu,zv,<-az];exact dr.2.1.1);have fm:Hid ((prog.info? 91).map (·.size)=some I.length):=hid (by rw[em];kernel_rfl);have cD:∀ W:World,(Op.equalIn 10000 91 (.agg I.toArray) (.agg O.toArray)).run prog W=.ok (decide (id=m.old)) W:=fun W=>by rw[<-bu,<-HO.out];exact KZ 91 Bj _ _ (by rw[<-az];exact dr.2.1.1) a6.2.1.1 W
   have dO:=hid cD;clear cD;obtain⟨qa,qc,bG,ep,_,fY⟩:=(av.out u0 (ah.out u0 (M.out u0 cq.out)).1).1.px1;obtain⟨qb,qo,gj,_,_⟩:=ep.at_ (by omega);subst gj;obtain⟨NR,en⟩:∃ n,rs.length=n:=⟨_,rfl⟩;have fC:Hid (∀ W,Below r2 w2 W->Qi mb (mo+i*41+1) (mo+i*41+21) (r+1) Q qb qo (qo+k0*22+1) NR qc O Nw ZL I W):=fun W K=>by
    obtain⟨hK,hL,e1,eo,_,ez⟩:=(av.out W (ah.out W K).1).1.px1;rw[bG] at e1;injection e1 with e2 _ e3;rw[<-e2,<-e3,en] at ez;rw[<-e2] at eo;obtain⟨_,_,e4,_,e5⟩:=eo.at_ (by omega);cases e4
    have e6:=e5 k0 dh;refine⟨aG.out W K,ez,fun j v hv=>?_⟩;have:=e6 (1+j) v (by
     unfold yx;rw[Nat.add_comm 1 j,List.getElem?_cons_succ,List.getElem?_append_left (by rw[az,bu];exact(List.getElem?_eq_some_iff.1 hv).1),az,bu];exact hv)
    rw[<-this];congr 2;omega
   have gV:(k0:Int)<(NR:Int):=(by omega);have gQ:¬ ((k0:Int)<0):=(by omega);have gU:(0:Int)<=(k0:Int):=(by omega);have gI:=hid bG;clear hI dh g8 eE dr az bu ep fY en bG;go_wp2_with (go_at_call 55;refine ax.mono ?_;rintro e w' ⟨rfl,hw⟩;have J:=hw.symm;subst J;clear hw ax)
   have ag:=fC.out _ (M.out _ ap);refine wp_region_held_drew (S:=Qi mb (mo+i*41+1) (mo+i*41+21) (r+1) Q qb qo (qo+k0*22+1) NR qc O Nw ZL I) (by kernel_rfl) ag (fun D=>?_);generalize u0.drew=V at D ap ag bK ⊢;iterate 3 (refine xx D ?_;try simp only[Act.put,sL])
   iterate 7 (refine I0 D ?_;try simp only[Act.put,sL])
   iterate 5 (refine xx D ?_;try simp only[Act.put,sL])
   iterate 7 (refine xx D ?_;try simp only[Act.put,sL])
   refine qZ (i:=22) (v:=.agg I.toArray) D (fun w' J=>zY 91 (.tmp 138) rfl qb (qo+k0*22+1) rfl I _ J.ri underlying91 rfl fm.out) ?_;(try simp only[Act.put,sL]);iterate 4 (refine xx D ?_;try simp only[Act.put,sL])
   refine qZ (i:=27) (v:=.agg O.toArray) D (fun w' J=>zY 91 (.tmp 143) rfl mb (mo+i*41+1) rfl O _ J.ro underlying91 rfl aR.out) ?_;(try simp only[Act.put,sL]);refine qZ (i:=28) (v:=.bool (!decide (id=m.old))) D ?_ ?_
   ·intro w' J;have ar:=dO.out w';go_simp
   (try simp only[Act.put,sL]);by_cases cb:id=m.old;rotate_left
   ·rw[decide_eq_false cb];as_aux_lemma =>
    iterate 1 (refine xx D ?_;try simp only[Act.put,sL])
    iterate 7 (refine I0 D ?_;try simp only[Act.put,sL])
    iterate 3 (refine xx D ?_;try simp only[Act.put,sL])
    refine wpAnyH_done (by kernel_rfl) ?_ _;have HE:=hid (aA.out (fun hh=>cb (aS.out.1 hh).1) V (M.out _ ap));clear D ag;go_wp2;exact bodyPost_ret (results_tmp results21 _ _ _) rfl HE.out
   rw[decide_eq_true cb];as_aux_lemma =>
   iterate 5 (refine xx D ?_;try simp only[Act.put,sL])
   refine qZ (i:=34) (v:=.agg O.toArray) D (fun w' J=>zY 91 (.tmp 150) rfl mb (mo+i*41+1) rfl O _ J.ro underlying91 rfl aR.out) ?_;(try simp only[Act.put,sL]);refine qZ (i:=35) (v:=.agg ZL.toArray) D (fun w' J=>zY 91 (.tmp 9) rfl (r+1) 0 rfl ZL _ J.rz underlying91 rfl b9.out) ?_;(try simp only[Act.put,sL])
   refine qZ (i:=36) (v:=.bool (decide (m.old=zZ))) D ?_ ?_
   ·intro w' J;have ar:=b8.out w';go_simp
   (try simp only[Act.put,sL]);by_cases ho:m.old=zZ
   ·rw[decide_eq_true ho];as_aux_lemma =>
    iterate 3 (refine xx D ?_;try simp only[Act.put,sL])
    refine wpAnyH_done (by kernel_rfl) ?_ _;have HE:=hid (aA.out (fun hh=>(aS.out.1 hh).2 ho) V (M.out _ ap));clear D ag;go_wp2;exact bodyPost_ret (results_tmp results21 _ _ _) rfl HE.out
   rw[decide_eq_false ho];as_aux_lemma =>
   iterate 3 (refine xx D ?_;try simp only[Act.put,sL])
   refine wpAnyH_done (by kernel_rfl) ?_ _;have be:=hid (cy.out (aS.out.2 ⟨cb,ho⟩));have dI:=hid ap;clear D ag;go_wp2;have aF:Below r3 wA V.drew:=ap.trans (zj _ _ 1);have aL:=aG.out _ (M.out _ aF);have aY:Hid (∃ v,Dq r3 V.drew C v u2 (rsU rs ((ws.zip ms).take i)) ls):=hid (by
    obtain⟨v,hD⟩:=bK.out;exact⟨v,hD.below (zj _ _ 1)⟩)
   refine wp_region_held_drew (S:=Qg mb (mo+i*41+1) (mo+i*41+21) (r+1) O Nw ZL) (by kernel_rfl) aL (fun D=>?_);generalize V.drew=u3 at D aF aL aY ⊢;iterate 6 (refine xx D ?_;try simp only[Act.put,sL])
   refine qZ (i:=6) (v:=.agg Nw.toArray) D (fun w' J=>zY 91 (.tmp 162) rfl mb (mo+i*41+21) rfl Nw _ J.rn underlying91 rfl aQ.out) ?_;(try simp only[Act.put,sL]);refine qZ (i:=7) (v:=.agg E.toArray) D (fun w' J=>vz 93 0 1 (.tmp 158) (.tmp 163) rfl (.string A) (.agg Nw.toArray) _ rfl rfl (bI.out _)) ?_;(try simp only[Act.put,sL])
   iterate 4 (refine xx D ?_;try simp only[Act.put,sL])
   refine qZ (i:=12) (v:=.agg Nw.toArray) D (fun w' J=>zY 91 (.tmp 168) rfl mb (mo+i*41+21) rfl Nw _ J.rn underlying91 rfl aQ.out) ?_;(try simp only[Act.put,sL]);refine qZ (i:=13) (v:=.agg ZL.toArray) D (fun w' J=>zY 91 (.tmp 9) rfl (r+1) 0 rfl ZL _ J.rz underlying91 rfl b9.out) ?_;(try simp only[Act.put,sL])
   refine qZ (i:=14) (v:=.bool gn) D ?_ ?_
   ·intro w' J;have ar:=b7.out w';go_simp
   (try simp only[Act.put,sL]);refine vk 15 56 [.tmp 157,.tmp 164,.tmp 171] [.pointer (some ⟨C,0,none⟩),.agg E.toArray,.bool gn] (dz.out u3 aF aY.out) ?_;rintro e u4 ⟨rfl,aE,br⟩;refine⟨_,rfl,aG.out _ (M.out _ aE),fun D=>?_⟩;(try simp only[Act.put,sL]);refine wpAnyH_done (by kernel_rfl) ?_ _;have cJ:=hid aE;have cK:=hid br;clear D aL aE br aF;go_wp2
   go_roundg (N-(i+1));case measure=>omega
   case rel=>exact⟨i+1,by go_num,rfl,by omega,cJ,cK,be⟩
 have au:¬ (i:Int)<(N:Int):=by omega
 have aM:N=i:=by omega
 subst aM;as_aux_lemma =>
 obtain⟨rF,e8⟩:=nm_ (rsU rs (ws.zip ms));have e9:Hid (rsU rs ((ws.zip ms).take N)=rF):=hid (by rw[Wq0 (by rw[bn.out];exact Wz8 _)];exact e8.out);rw[e9.out] at aZ
 have cR:Hid (∀ k aj ai,((Rk.clD (rF.map (·.1))/\k=63/\aj=rs/\ai=ls) ∨ (¬ Rk.clD (rF.map (·.1))/\((¬ okG p tx/\k=125/\aj=rs/\ai=ls) ∨ (okG p tx/\k=0/\aj=rF/\ai=Rk.prn rF (ls++enU p tx (ws.zip ms))))))->UdP rs ls ms p tx k aj ai):=fun k aj ai hh=>eb.out k aj ai (.inr ⟨by rw[HN.out];exact cO.out,by rw[e8.out];exact hh⟩)
 have cI:Calls prog 57 #[.pointer (some ⟨C,0,none⟩)] wr (A9 rF wr):=by
  obtain⟨V,hD⟩:=aZ.out;exact Ny wr hD
 have gG:Hid (rF.length<=100000):=hid (by
  obtain⟨V,hD⟩:=aZ.out;exact hD.few.1)
 have eX:Hid (Calls prog 58 #[.agg PV] wr fun e w'=>∃ (s:ByteArray) (b:Bool),e=.returned (.tuple #[.string s,.bool b])/\(b=true->okP p)/\(b=false->¬ okP p)/\Below r3 wA w'/\(∃ V,Dq r3 w' C V u2 rF ls)):=hid (by
  rw[<-bN.out];refine(zyu p wr).mono ?_;rintro e w' ⟨hb,hx⟩;have ev:Below r3 wA w':=ay.out.trans (hb.mono (bf.out wr ay.out));have bU:∃ V,Dq r3 w' C V u2 rF ls:=by
   obtain⟨V,hD⟩:=aZ.out;exact⟨V,hD.below hb⟩
  rcases hx with ⟨h1,rfl⟩ | ⟨h1,rfl⟩
  ·exact⟨_,true,rfl,fun _=>h1,fun h=>(by cases h),ev,bU⟩
  exact⟨_,false,rfl,fun h=>(by cases h),fun _=>h1,ev,bU⟩)
 have cG:=(ah.out wr (M.out wr ay.out)).2.1;have e7:=hid cG;clear cG;unfold A9 at cI;go_wp2_with (go_at_call 57;refine cI.mono ?_;rintro e w' ⟨b5,rfl,ew,hw⟩;have J:=hw.symm;subst J;have cm:=hid ew;clear hw ew cI;refine Hid.out ?_)
 refine hid ?_;cases b5 with
 | true =>
  have HE:Hid (ku G Q rs ls ms p tx w (.returned (.int .i64 63)) wr):=hid (am.out 63 wr (cR.out _ _ _ (.inl ⟨cm.out.1 rfl,rfl,rfl,rfl⟩)) (ah.out wr (M.out wr ay.out)).1);go_wp2;exact bodyPost_ret (results_tmp results21 _ _ _) rfl HE.out
 | false =>
  have cw:Hid (¬ Rk.clD (rF.map (·.1))):=hid (fun hc=>by have:=cm.out.2 hc;cases this);have bQ:Hid (∀ W,Below r3 wA W->¬ okG p tx->ku G Q rs ls ms p tx w (.returned (.int .i64 125)) W):=fun W K hg=>am.out 125 W (cR.out _ _ _ (.inr ⟨cw.out,.inl ⟨hg,rfl,rfl,rfl⟩⟩)) (ah.out W (M.out W K)).1;go_wp2_with (first
   | (refine zX rfl 72 (.tmp 6) rfl r PV 72 (0,0) _ rfl e7.out underlying72 rfl dQ.out ?_;go_frame)
   | (go_at_call 58;refine eX.out.mono ?_;rintro e w5 ⟨s5,b6,rfl,k1,k2,k3,k4⟩;have K1:=hid k1;have K2:=hid k2;have K3:=hid k3;have K4:=hid k4;clear k1 k2 k3 k4;refine Hid.out ?_))
  refine hid ?_;obtain⟨n,bg⟩:=nm_ tx.length;have hsz:X.size=n:=by rw[<-HX.out,<-bg.out];simp[ByteArray.size]
  cases b6 with
  | false =>
   have HE:=hid (bQ.out w5 K3.out (fun hg=>K2.out rfl hg.1));go_wp2;exact bodyPost_ret (results_tmp results21 _ _ _) rfl HE.out
  | true =>
   have fx:=hid (K1.out rfl);by_cases ei:n<=2000;rotate_left
   ·have fN:(2000:Int)<(n:Int):=(by omega);have HE:=hid (bQ.out w5 K3.out (fun hg=>ei (by rw[<-bg.out];exact hg.2.1)));go_wp2;exact bodyPost_ret (results_tmp results21 _ _ _) rfl HE.out
   have fN:¬ (2000:Int)<(n:Int):=(by omega);go_wp2;go_loopg [24] n (fun g iv wr=>∃ j:Nat,j<=n/\g=n-j/\iv=.int .i64 j/\Hid (∀ x ∈ tx.take j,x ≠ 10/\x ≠ 0)/\wr=w5);case atStart=>exact⟨0,by omega,rfl,rfl,hid (by simp),rfl⟩
   case round =>
   obtain⟨j,hj,hk,rfl,HT,gw⟩:=hrel;subst gw;by_cases ga:j<n
   ·as_aux_lemma =>
    have gW:(j:Int)<(n:Int):=(by omega);obtain⟨x,hx⟩:∃ x,tx[j]? = some x:=⟨_,List.getElem?_eq_getElem (by rw[bg.out];exact ga)⟩;obtain⟨cc,HC⟩:=nm_ (x.toNat:Int);have bT:Hid (tx[j]? = some x):=hx;have ce:∀ w1:World,(Instr.index 9 (.string X) (.int .i64 j)).run prog w1=.ok (.int .u8 cc) w1:=fun w1=>by rw[<-HX.out,<-HC.out];exact Zy tx j w1 x bT.out
    clear hx;have cu:Hid (∀ y:UInt8,(x.toNat:Int)=(y.toNat:Int)->x=y):=fun y e=>UInt8.toNat_inj.1 (by omega);by_cases bq:cc=10
    ·have HE:=hid (bQ.out wr K3.out (fun hg=>(hg.2.2 x (List.mem_of_getElem? bT.out)).1 (cu.out 10 (by rw[HC.out,bq];rfl))));subst bq;go_wp2;exact bodyPost_ret (results_tmp results21 _ _ _) rfl HE.out
    by_cases bp:cc=0
    ·have HE:=hid (bQ.out wr K3.out (fun hg=>(hg.2.2 x (List.mem_of_getElem? bT.out)).2 (cu.out 0 (by rw[HC.out,bp];rfl))));subst bp;go_wp2;exact bodyPost_ret (results_tmp results21 _ _ _) rfl HE.out
    have b1:(cc == 10)=false:=(by simpa using bq);have b2:(cc == 0)=false:=(by simpa using bp);have fG:Hid (∀ x ∈ tx.take (j+1),x ≠ 10/\x ≠ 0):=hid (by
     rw[JW tx j x bT.out];intro y hy;rcases Wqx.1 hy with hy | hy
     ·exact HT.out y hy
     have:y=x:=(by simpa using hy);subst this;exact⟨fun e=>bq (by rw[<-HC.out,e];rfl),fun e=>bp (by rw[<-HC.out,e];rfl)⟩)
    clear bq bp;go_wp2;go_roundg (n-(j+1));case measure=>omega
    case rel=>exact⟨j+1,by omega,rfl,by go_num,fG,rfl⟩
   have gX:¬ (j:Int)<(n:Int):=(by omega);have fw:Hid (okG p tx):=hid ⟨fx.out,by rw[bg.out];exact ei,by
    have h1:=HT.out;rw[Wq0 (by rw[bg.out];omega)] at h1;exact h1⟩
   as_aux_lemma =>
   have f5:Hid (∃ V u2,Dq r3 wr C V u2 rF (ls++enU p tx ((ws.zip ms).take 0))):=hid (by
    obtain⟨V,hD⟩:=K4.out;exact⟨V,u2,by simpa [enU] using hD⟩)
   have ff:Hid (∀ j,(enU p tx ((ws.zip ms).take j)).length<=9*j):=fun j=>by
    have h1:=L6 p tx ((ws.zip ms).take j) (fun y hy=>by
     obtain⟨q,hq,eq⟩:=List.getElem_of_mem (List.mem_of_mem_take hy);have eL:q<N:=(by rw[<-bn.out];exact hq);have e1:=cX.out q eL;rw[List.getD_eq_getElem?_getD,List.getElem?_eq_getElem hq,Wx0,eq] at e1;obtain⟨_,_,_,_,n1,_,_,aJ,dj,_⟩:=bi.out q eL;rw[e1];simp only;omega)
    have h2:((ws.zip ms).take j).length<=j:=(by rw[WzJ];omega);omega
   have fp:Hid ((prog.info? 72).map (·.size)=some PV.toList.length):=hid (by simpa using dQ.out);have fE:Hid (∀ W,Below r2 w2 W->W.rangeAt r 0 PV.toList):=fun W K=>zw (by simpa using (ah.out W K).2.1);go_wp2
   go_loopg [25] N (fun q iv wr=>∃ i:Nat,iv=.int .i64 i/\q=N-i/\i<=N/\Hid (Below r3 wA wr)/\Hid (∃ V u2,Dq r3 wr C V u2 rF (ls++enU p tx ((ws.zip ms).take i))));case atStart=>exact⟨0,rfl,rfl,Wqw _,K3,f5⟩
   obtain⟨i,rfl,hq,df,aW,dK⟩:=hrel;by_cases a8:i<N;rotate_left
   ·have au:¬ (i:Int)<(N:Int):=(by omega);have aM:N=i:=(by omega);subst aM;as_aux_lemma =>
    have dP:Hid (Calls prog 59 #[.pointer (some ⟨C,0,none⟩)] wr fun e w8=>e=.returned (.tuple #[])/\∃ ca cn cc da dn dc d0 d1,w8.cell? ⟨C,0,none⟩=some (.slice ca cn cc)/\w8.cell? ⟨C,1,none⟩=some (.slice da dn dc)/\w8.cell? ⟨Q,0,none⟩=some d0/\w8.cell? ⟨Q,1,none⟩=some d1/\w8.frozen? ⟨Q,0,none⟩=false/\w8.frozen? ⟨Q,1,none⟩=false/\Q ≠ C/\ku G Q rs ls ms p tx w (.returned (.int .i64 0)) ((w8.setCell ⟨Q,0,none⟩ (.slice ca cn cc)).setCell ⟨Q,1,none⟩ (.slice da dn dc))):=hid (by
     obtain⟨V,u2,hD⟩:=dK.out;rw[Wq0 (by rw[bn.out];exact Wz8 _)] at hD;refine(zzZ wr hD (bf.out wr aW.out)).mono ?_;rintro e w8 ⟨rfl,⟨v8,aK⟩,d6⟩;have fU:=dC.out wr w8 aW.out d6;have cA:=(ah.out w8 (M.out w8 fU)).1;have hq:=(av.out w8 cA).1;obtain⟨ca,cc,fX,_,_,fV⟩:=aK.px1;obtain⟨da,dc,fZ,_,_,fW⟩:=aK.px2;subst fX;subst fZ
     refine⟨rfl,ca,_,cc,da,_,dc,v1,v2,fV,fW,by simp[World.cell?,hq.box],by simp[World.cell?,hq.box],by simp[World.frozen?,hq.box],by simp[World.frozen?,hq.box],by omega,?_⟩;have cB:(w8.setCell ⟨Q,0,none⟩ (.slice ca rF.length cc)).heap[Q]? = some (.cells #[.slice ca rF.length cc,v2] 39 (0,0)):=(by rw[zV hq.box];rfl)
     have t1:Tf 39 w8 (w8.setCell ⟨Q,0,none⟩ (.slice ca rF.length cc)):=Tf.set (p:=⟨Q,0,none⟩) hq.box _;have t2:Tf 39 (w8.setCell ⟨Q,0,none⟩ (.slice ca rF.length cc)) ((w8.setCell ⟨Q,0,none⟩ (.slice ca rF.length cc)).setCell ⟨Q,1,none⟩ (.slice da (Rk.prn rF (ls++enU p tx (ws.zip ms))).length dc)):=Tf.set (p:=⟨Q,1,none⟩) cB _;have hF:=fh.out
     refine⟨0,rF,Rk.prn rF (ls++enU p tx (ws.zip ms)),cR.out _ _ _ (.inr ⟨cw.out,.inr ⟨fw.out,rfl,rfl,rfl⟩⟩),rfl,⟨.slice ca rF.length cc,.slice da (Rk.prn rF (ls++enU p tx (ws.zip ms))).length dc,by rw[zV cB];rfl,qv (zK (zK aK.r1 t1 (by decide)) t2 (by decide)) (by omega),qv (zK (zK aK.r2 t1 (by decide)) t2 (by decide)) (by omega),aK.ok1,aK.ok2,aK.few⟩,?_⟩
     exact((Al.below (by rw[HR.out];exact cA)).trans (Al.of_set (S:=fun i=>i=Q) (p:=⟨Q,0,none⟩) rfl _) (fun i h=>.inl h)).trans (Al.of_set (S:=fun i=>i=Q) (p:=⟨Q,1,none⟩) rfl _) (fun i h=>.inl h))
    go_wp2_with (go_at_call 59;refine dP.out.mono ?_;rintro e w8 ⟨rfl,ca,cn,cc,da,dn,dc,d0,d1,q1,q2,q3,q4,q5,q6,q7,q8⟩;have Q8:=hid q8;clear q8)
    exact bodyPost_ret (results_tmp results21 _ _ _) rfl Q8.out
   as_aux_lemma =>
   have au:(i:Int)<(N:Int):=(by omega);obtain⟨wb,wo,xb,xo,n1,xc,aV,aJ,dj,aN,ak⟩:=bi.out i a8;subst aV;obtain⟨mb,mo,dl,_,_⟩:=(bO.out wr (M.out wr aW.out)).at_ (by rw[HN.out];omega);subst dl;have a6:xu (ms.getD i dMv):=cN.out _ (zQ ms i dMv (by rw[HN.out];exact a8));obtain⟨m,hm⟩:∃ m,ms.getD i dMv=m:=⟨_,rfl⟩;rw[hm] at a6
   obtain⟨l,hl⟩:∃ l,ws.getD i []=l:=⟨_,rfl⟩;rw[hl] at aJ aN ak;obtain⟨O,hO⟩:∃ O,row .u8 m.old=O:=⟨_,rfl⟩;obtain⟨Nw,aw⟩:∃ O,row .u8 m.new=O:=⟨_,rfl⟩;have ao:O.length=20:=(by rw[<-hO,zv];exact a6.2.1.1);have bw:Nw.length=20:=(by rw[<-aw,zv];exact a6.2.2.1);have aR:Hid ((prog.info? 91).map (·.size)=some O.length):=hid (by rw[ao];kernel_rfl)
   have aQ:Hid ((prog.info? 91).map (·.size)=some Nw.length):=hid (by rw[bw];kernel_rfl);have aG:Hid (∀ W,Below r2 w2 W->Qg mb (mo+i*41+1) (mo+i*41+21) (r+1) O Nw ZL W):=fun W K=>by
    obtain⟨_,_,e1,_,e3⟩:=(bO.out W K).at_ (by rw[HN.out];omega);cases e1
    have e4:=e3 i (by rw[HN.out];exact a8);rw[hm] at e4;refine⟨fun j v hv=>?_,fun j v hv=>?_,ea.out W K⟩
    ·have h2:=e4 (1+j) v (by
      unfold qj;rw[show 1+j=j+1 by omega,List.getElem?_cons_succ,List.getElem?_append_left (by rw[hO];exact(List.getElem?_eq_some_iff.1 hv).1),hO];exact hv)
     rw[<-h2];congr 2;omega
    have h2:=e4 (21+j) v (by
     unfold qj;rw[show 21+j=(20+j)+1 by omega,List.getElem?_cons_succ,List.getElem?_append_right (by rw[hO,ao];omega),hO,ao,show 20+j-20=j by omega,aw];exact hv)
    rw[<-h2];congr 2;omega
   have fg:Hid (enU p tx ((ws.zip ms).take (i+1))=enU p tx ((ws.zip ms).take i)++l.map (fun a=>(a,j6 p tx m))):=hid (by
    rw[qk ([],dMv) _ i (by rw[bn.out];exact a8),cX.out i a8,hm,hl];unfold enU;rw[List.flatMap_append,List.flatMap_cons,List.flatMap_nil,List.append_nil])
   have cT:=hid ak;have fk:=hid hO;have fj:=hid aw;have bL:=hid aJ;have ee:=hid aN;have gK:=(ak wr (M.out wr aW.out)).c;have fa:Hid (∃ V u2,Dq r3 wr C V u2 rF (ls++enU p tx ((ws.zip ms).take i)++(l.take 0).map (fun a=>(a,j6 p tx m)))):=hid (by
    obtain⟨V,u2,hD⟩:=dK.out;exact⟨V,u2,by simpa using hD⟩)
   clear ak hO aw hm hl aN aJ;go_wp2;go_loopg [26] (n1+1) (fun q kv wr=>∃ k:Nat,kv=.int .i64 k/\q=n1+1-k/\k<=n1+1/\Hid (Below r3 wA wr)/\Hid (∃ V u2,Dq r3 wr C V u2 rF (ls++enU p tx ((ws.zip ms).take i)++(l.take k).map (fun a=>(a,j6 p tx m)))));case atStart=>exact⟨0,rfl,rfl,by omega,aW,fa⟩
   obtain⟨k,rfl,gi,g9,aP,dJ⟩:=hrel;have hp:=(cT.out wr (M.out wr aP.out)).c;by_cases cf:k<n1+1;rotate_left
   ·have bD:¬ (k:Int)<(n1:Int)+1:=(by omega);have fb:Hid (∃ V u2,Dq r3 wr C V u2 rF (ls++enU p tx ((ws.zip ms).take (i+1)))):=hid (by
     obtain⟨V,u2,hD⟩:=dJ.out;have gp:l.take k=l:=Wq0 (by rw[bL.out];omega);rw[gp,Wy8,<-fg.out] at hD;exact⟨V,u2,hD⟩)
    go_wp2;go_roundg (N-(i+1));case measure=>omega
    case rel=>exact⟨i+1,by go_num,rfl,by omega,aP,fb⟩
   have bD:(k:Int)<(n1:Int)+1:=(by omega);as_aux_lemma =>
   obtain⟨V,hM,hD⟩:=dJ.out;obtain⟨x,hx⟩:∃ x,l.getD k []=x:=⟨_,rfl⟩;have eS:x.length<=60:=(by rw[<-hx];exact ee.out _ (zQ l k [] (by rw[bL.out];exact cf)));obtain⟨A,HA⟩:=nm_ (⟨x.toArray⟩:ByteArray);obtain⟨LS,bW⟩:∃ L,ls++enU p tx ((ws.zip ms).take i)++(l.take k).map (fun a=>(a,j6 p tx m))=L:=⟨_,rfl⟩;rw[bW] at hD
   have fq:Hid (ls++enU p tx ((ws.zip ms).take i)++(l.take (k+1)).map (fun a=>(a,j6 p tx m))=LS++[(x,j6 p tx m)]):=hid (by
    rw[qk [] l k (by rw[bL.out];exact cf),hx,Wxu,<-Wy8,bW];rfl)
   have cv:Hid (LS.length+1<=1000000):=hid (by
    rw[<-bW,Wzy,Wzy,Wx7,WzJ];have h1:=ff.out i;have h2:=dU.out;have h3:=bL.out;omega)
   have du:X7 (x,j6 p tx m):=⟨eS,a6.2.1,a6.2.2⟩;obtain⟨va,vc,gq,fO,_,c8⟩:=hD.px2;subst gq;obtain⟨un,bF⟩:∃ n,LS.length=n:=⟨_,rfl⟩;rw[bF] at c8;obtain⟨E,hE⟩:∃ E,yj (x,j6 p tx m)=E:=⟨_,rfl⟩;have cz:E.length=46:=(by rw[<-hE];exact yX du)
   have bI:Hid (∀ W:World,(Instr.build 144 #[(0,.string A),(1,.agg O.toArray),(2,.agg Nw.toArray),(3,.agg PV),(4,.string X)]).run prog W=.ok (.agg E.toArray) W):=fun W=>by
    rw[<-fk.out,<-fj.out,<-bN.out,<-hE,<-HX.out,<-HA.out];exact bd141 _ m.old m.new a6.2.1.1 a6.2.2.1 p ⟨tx.toArray⟩ W
   have dF:Hid (∀ W:World,(Instr.buildSlice 37 1 #[(0,.agg E.toArray)]).run prog W=.ok (.slice (some ⟨W.heap.size,0,none⟩) 1 1) (W.alloc (.cells E.toArray 144))):=fun W=>by rw[<-hE];exact Yj _ du W
   have e0:Hid (∀ W:World,Px yj 46 dE (W.alloc (.cells E.toArray 144)) (some ⟨W.heap.size,0,none⟩) 1 [(x,j6 p tx m)]):=fun W=>by
    have:=x5 (enc:=yj) (d:=dE) W (x,j6 p tx m) 144;rw[hE,cz] at this;exact this
   have fe:Hid ((yj (x,j6 p tx m)).length=46):=hid (by rw[hE];exact cz);have cP:Hid (∀ W,Below r2 w2 W->W.cell? ⟨C,1,none⟩=some (.slice va un vc)->Ql wb (wo+i) xb xo (xo+k) n1 xc mb (mo+i*41+1) (mo+i*41+21) (r+1) C r A O Nw ZL PV.toList (.slice va un vc) W):=fun W K hc=>by
    have g1:=(cT.out W K).at_ k (by omega);rw[hx] at g1;exact⟨aG.out W K,(cT.out W K).c,by rw[<-HA.out];exact g1,hc,fE.out W K⟩
   have ad:Below r3 wA wr.drew:=aP.out.trans (zj _ _ 1);have bV:Dq r3 wr.drew C V (.slice va LS.length vc) rF LS:=hD.below (zj _ _ 1);have dd:wr.drew.cell? ⟨C,1,none⟩=some (.slice va un vc):=(by rw[<-bF];simp[World.cell?,bV.box]);have ac:=cP.out _ (M.out _ ad) dd;have h6:=hid hE;clear hE hD fO c8 hx bW;go_wp2
   refine Y5 (Ql wb (wo+i) xb xo (xo+k) n1 xc mb (mo+i*41+1) (mo+i*41+21) (r+1) C r A O Nw ZL PV.toList (.slice va un vc)) 29 (by kernel_rfl) ?_;generalize wr.drew=u0 at ac ad bV dd ⊢;iterate 16
    refine QZ (v:=?_) ac ?_ ?_;rotate_left
    ·rintro w' ⟨_,c1,c2,c3,_⟩;go_simp;rfl
    try simp only[Act.put,sL]
   refine QZ (v:=.agg O.toArray) ac (fun w' J=>zY 91 (.tmp 234) rfl mb (mo+i*41+1) rfl O _ J.ro underlying91 rfl aR.out) ?_;(try simp only[Act.put,sL]);iterate 4
    refine QZ (v:=?_) ac ?_ ?_;rotate_left
    ·rintro w' ⟨_,c1,c2,c3,_⟩;go_simp;rfl
    try simp only[Act.put,sL]
   refine QZ (v:=.agg Nw.toArray) ac (fun w' J=>zY 91 (.tmp 239) rfl mb (mo+i*41+21) rfl Nw _ J.rn underlying91 rfl aQ.out) ?_;(try simp only[Act.put,sL]);refine QZ (v:=.agg PV.toList.toArray) ac (fun w' J=>zY 72 (.tmp 6) rfl r 0 rfl PV.toList _ J.rp underlying72 rfl fp.out) ?_;(try simp only[Act.put,sL]);simp only[Array.toArray_toList]
   iterate 1
    refine QZ (v:=?_) ac ?_ ?_;rotate_left
    ·rintro w' ⟨_,c1,c2,c3,_⟩;go_simp;rfl
    try simp only[Act.put,sL]
   refine QZ (v:=.agg E.toArray) ac (fun w' J=>zjv 144 0 1 2 3 4 (.tmp 230) (.tmp 235) (.tmp 240) (.tmp 241) (.tmp 242) rfl (.string A) (.agg O.toArray) (.agg Nw.toArray) (.agg PV) (.string X) _ rfl rfl rfl rfl rfl (bI.out _)) ?_;(try simp only[Act.put,sL]);refine xZ (i:=25) (by kernel_rfl) (ju rfl (fun KK ae=>?_))
   have aH:Below r3 wA (u0.alloc (.cells E.toArray 144)):=ad.alloc (bf.out _ ad) _;have aD:Dq r3 (u0.alloc (.cells E.toArray 144)) C V (.slice va LS.length vc) rF LS:=bV.below ((Below.refl _ u0).alloc (Wz8 _) _);have bC:(u0.alloc (.cells E.toArray 144)).cell? ⟨C,1,none⟩=some (.slice va un vc):=(by rw[<-bF];simp only[World.cell?,aD.box];rfl)
   have ag:=cP.out _ (M.out _ aH) bC;refine jX rfl _ (qJ 37 (.tmp 243) rfl (.agg E.toArray) _ rfl (dF.out u0)) (ae.out _ _ (.inr ag) ?_);clear ae KK ac;(try simp only[Act.put,sL]);have cZ:=e0.out u0;obtain⟨h9,gJ⟩:∃ x,u0.heap.size=x:=⟨_,rfl⟩;generalize u0.alloc (.cells E.toArray 144)=u4 at aH aD bC ag cZ ⊢
   have cY:Bx yj 46 144 wA u4 r3 (.slice va un vc) LS:=⟨aH,by rw[<-bF];exact aD.r2,bf.out _ aH⟩;refine xZ (i:=26) (by kernel_rfl) (ju rfl (fun KK ae=>?_))
   refine UQ (enc:=yj) (k:=46) (d:=dE) (.tmp 223) (.tmp 244) 37 144 Vj jQ SY (by decide) (by decide) jz r3 (.slice va un vc) LS rfl cY (some ⟨u0.heap.size,0,none⟩) 1 [(x,j6 p tx m)] rfl cZ (fun y hy=>by rw[Wqk.1 hy];exact fe.out) (by have:=cv.out;simp;omega) ?_;intro v7 u7 bz eH;obtain⟨ya,yc,eQ⟩:=zu bz.own
   obtain⟨yn,gz⟩:∃ n,(LS++[(x,j6 p tx m)]).length=n:=⟨_,rfl⟩;rw[gz] at eQ;have dt:Tf 144 u4 u7:=Tf.mv eH (fun q hq=>by
    obtain⟨_,⟨hv,h0⟩ | ⟨g,cap,cur,hv,hb,hh,_⟩⟩:=cY.own
    ·rw[hv] at hq;cases hq
    rw[hv] at hq;simp only[Value.ownBlock,Option.some.injEq] at hq;subst hq;exact⟨_,_,hh⟩)
   have aI:u7.heap[C]? = some (.cells #[V,.slice va LS.length vc] 39 (0,0)):=dt.of (by decide) aD.box;have cC:u7.cell? ⟨C,1,none⟩=some (.slice va un vc):=(by rw[<-bF];simp[World.cell?,aI]);have eC:u7.frozen? ⟨C,1,none⟩=false:=(by simp[World.frozen?,aI]);have bX:=cP.out _ (M.out _ bz.below) cC;subst eQ;refine ae.out _ _ (.inr bX) ?_;clear ae KK ag
   (try simp only[Act.put,sL]);refine xZ (i:=27) (by kernel_rfl) (ju rfl (fun KK ae=>?_));go_simp;refine ae.out _ _ (.inr bX) ?_;clear ae KK;(try simp only[Act.put,sL]);refine xZ (i:=28) (by kernel_rfl) (ju rfl (fun KK ae=>?_));go_simp;refine ae.out _ _ (.inr bX) ?_;clear ae KK;(try simp only[Act.put,sL])
   refine xZ (i:=29) (by kernel_rfl) (ju rfl (fun KK ae=>?_));go_simp;refine ae.out _ _ (.inl rfl) ?_;clear ae KK;(try simp only[Act.put,sL]);refine Su (by kernel_rfl) ?_ _;have f0:Hid (Below r3 wA (u7.setCell ⟨C,1,none⟩ (.slice ya yn yc))):=hid (NZ bz.below (by show r3<=C;exact hC) _)
   have fc:Hid (∃ V u2,Dq r3 (u7.setCell ⟨C,1,none⟩ (.slice ya yn yc)) C V u2 rF (ls++enU p tx ((ws.zip ms).take i)++(l.take (k+1)).map (fun a=>(a,j6 p tx m)))):=hid (by
    rw[fq.out];have ht:Tf 39 u7 (u7.setCell ⟨C,1,none⟩ (.slice ya yn yc)):=Tf.set (p:=⟨C,1,none⟩) aI _;refine⟨V,.slice ya yn yc,by rw[zV aI];rfl,zK (zK aD.r1 dt (by decide)) ht (by decide),zK bz.own ht (by decide),aD.ok1,fun y hy=>?_,aD.few.1,by have:=cv.out;simp;omega⟩;rcases Wqx.1 hy with hy | hy
    ·exact aD.ok2 y hy
    rw[Wqk.1 hy];exact du)
   clear bX cC eC aI dt bz eH cY cZ bC aD aH bV dd ad;go_wp2;go_roundg (n1+1-(k+1));case measure=>omega
   case rel=>exact⟨k+1,by go_num,rfl,by omega,f0,fc⟩
end Go.Proofs.YtdnphaganajejaaGreatDoor.K
