import Derived.Test.YtdnphaganajejaaGreatDoorMz13
set_option linter.unusedSimpArgs false
set_option linter.unusedVariables false
set_option maxRecDepth 20000
set_option maxHeartbeats 4000000
open List renaming length_append->Wzy,length_nil->WzQ,length_singleton->WyV,length_take->WzJ,mem_append->Wqx,mem_cons->Wqj,not_mem_nil->WyJ
open Nat renaming add_zero->WyK,le_refl->Wz8,le_trans->Wz9,mod_lt->Wx1,zero_le->Wqw
open Option renaming getD_none->Wx2,getD_some->Wx0,map_none->Wx3,map_some->Wq7,some->Wq8
namespace Go.Proofs.YtdnphaganajejaaGreatDoor.K
open Go.Proofs.Tryz
open Go.RowKit
theorem Cw.cut {S:Nat->Prop} {w:World} {D:Nat} {G:Dg} {vs:Nat->Value} {sf now:Nm} {nd:Nat->Option (List Int × Nat)} {n:Nat} (h:Cw S w D G vs sf nd now n) {B:Nat} {zs:List Int} {s:Nat} (hB:nd B=some (zs,s)) {I:Option Addr} {J:Nat} (hv:vs B=.slice I zs.length J) {j:Nat} (hj:j<=zs.length) :
  Cw S ((w.setCell ⟨B,0,none⟩ (.slice I j J)).setCell ⟨B,1,none⟩ (.int .i64 j)) D G (fun i=>if i=B then .slice I j J else vs i) sf (fun i=>if i=B then some (zs.take j,j) else nd i) now n:=by
 obtain⟨hn,Z,hk⟩:=h.nds B zs s hB;have Q:w.heap[B]? = some (.cells #[.slice I zs.length J,.int .i64 s] 84 (0,0)):=by have:=hn.box;rw[hv] at this;exact this
 have h1:(w.setCell ⟨B,0,none⟩ (.slice I j J)).heap[B]? = some (.cells #[.slice I j J,.int .i64 s] 84 (0,0)):=by rw[zV Q];rfl
 have h2:((w.setCell ⟨B,0,none⟩ (.slice I j J)).setCell ⟨B,1,none⟩ (.int .i64 j)).heap[B]? = some (.cells #[.slice I j J,.int .i64 j] 84 (0,0)):=by rw[zV h1];rfl
 have Y:Tf 84 w ((w.setCell ⟨B,0,none⟩ (.slice I j J)).setCell ⟨B,1,none⟩ (.int .i64 j)):=(Tf.set (p:=⟨B,0,none⟩) Q _).trans (Tf.set (p:=⟨B,1,none⟩) h1 _);have K:=hn.own;rw[hv] at K;have hlen:(zs.take j).length=j:=by rw[WzJ];omega
 have L:(Value.slice I j J).ownBlock=(vs B).ownBlock:=by rw[hv];cases I <;> rfl
 refine⟨Y.of (by decide) h.box,h.now.tf Y,h.safe.tf Y,h.ne,fun C zc sc A=>?_,fun C E c e A O V=>?_,h.own,fun C zc sc A=>?_⟩
 ·by_cases e:C=B
  ·subst e;simp only[if_true] at A ⊢;cases Wq8.inj A
   refine⟨⟨h2,?_⟩,Z,fun k a6=>hk k (L ▸ a6)⟩;show World.ownsRow _ 0 5 1 (.slice I j J) (zs.take j).length _;rw[hlen];exact zK (qzz K rfl j hj) Y (by decide)
  simp only[e,if_false] at A ⊢;obtain⟨n1,n2,n3⟩:=h.nds C zc sc A;exact⟨⟨((Below.heap_setCell _ _ _ _ e).trans (Below.heap_setCell _ _ _ _ e)).trans n1.box,zK n1.own Y (by decide)⟩,n2,n3⟩
 ·by_cases e1:C=B
  ·by_cases M:E=B
   ·exact absurd (e1.trans M.symm) V
   simp only[e1,M,if_true,if_false] at A O ⊢;rw[L];exact h.sep B E _ e hB O (fun e=>M e.symm)
  simp only[e1,if_false] at A ⊢;by_cases M:E=B
  ·simp only[M,if_true] at O ⊢;rw[L];exact h.sep C B c _ A hB e1
  simp only[M,if_false] at O ⊢;exact h.sep C E c e A O V
 by_cases e:C=B
 ·simp only[e,if_true] at A;cases Wq8.inj A
  have:=h.ln B zs s hB;rw[hlen];omega
 simp only[e,if_false] at A;exact h.ln C zc sc A
theorem Cw.tf {S:Nat->Prop} {w W:World} {D:Nat} {G:Dg} {vs:Nat->Value} {sf now:Nm} {nd:Nat->Option (List Int × Nat)} {n:Nat} (h:Cw S w D G vs sf nd now n) {T:TypeId} (j:Tf T w W) (A:T ≠ 63/\T ≠ 84/\T ≠ 5):Cw S W D G vs sf nd now n :=
 ⟨j.of A.1 h.box,h.now.tf j,h.safe.tf j,h.ne,fun B zs s hB=>by obtain⟨a,b⟩:=h.nds B zs s hB;exact⟨a.tf j A.2.1 A.2.2,b⟩,h.sep,h.own,h.ln⟩
theorem Cw.mono {S S':Nat->Prop} {w:World} {D:Nat} {G:Dg} {vs:Nat->Value} {sf now:Nm} {nd:Nat->Option (List Int × Nat)} {n:Nat} (h:Cw S w D G vs sf nd now n) (j:∀ i,S i->S' i):Cw S' w D G vs sf nd now n :=
 ⟨h.box,h.now,h.safe,h.ne,fun B zs s hB=>by obtain⟨a,b,c⟩:=h.nds B zs s hB;exact⟨a,j _ b,fun k A=>j _ (c k A)⟩,h.sep,⟨j _ h.own.1,j _ h.own.2.1,j _ h.own.2.2⟩,h.ln⟩
theorem Cw.put {S:Nat->Prop} {w u:World} {D:Nat} {G:Dg} {vs:Nat->Value} {sf now:Nm} {nd:Nat->Option (List Int × Nat)} {n B:Nat} {y:Str} (h:Cw S w D G vs sf nd now n) (A:w.grownBy u (some G.g)) (J:TM (.pointer none) u G.g (n+1) (fun z=>if z=y then some (.pointer (some ⟨B,0,none⟩)) else pt now z)):Cw S u D G vs sf nd (fun z=>if z=y then some B else now z) (n+1):=by
 obtain⟨es,ck,j⟩:=h.now.box;refine⟨Tf.grown j A h.box,?_,h.safe.sm (A.block _ h.safe.lt (fun e=>h.ne (Wq8.inj e).symm)),h.ne,fun C zs s I=>?_,h.sep,h.own,h.ln⟩
 ·have:pt (fun z=>if z=y then some B else now z)=fun z=>if z=y then some (.pointer (some ⟨B,0,none⟩)) else pt now z:=by
   funext z;simp only[pt];by_cases e:z=y <;> simp[e]
  rw[this];exact J
 obtain⟨K,L⟩:=h.nds C zs s I;exact⟨K.gr j A,L⟩
structure Qd (B:Nat) (va:Option Addr) (n c:Nat) (s:Int) (W:World):Prop where
 c0:W.cell? ⟨B,0,none⟩=some (.slice va n c)
 c1:W.cell? ⟨B,1,none⟩=some (.int .i64 s)
theorem Cw.qd {S:Nat->Prop} {w:World} {D:Nat} {G:Dg} {vs:Nat->Value} {sf now:Nm} {nd:Nat->Option (List Int × Nat)} {n:Nat} (h:Cw S w D G vs sf nd now n) {B:Nat} {zs:List Int} {s:Nat} (hB:nd B=some (zs,s)) {A:Option Addr} {I:Nat} (hv:vs B=.slice A zs.length I):Qd B A zs.length I s w/\(∀ i,w.frozen? ⟨B,i,none⟩=false):=by
 obtain⟨J,-⟩:=h.nds B zs s hB;have j:w.heap[B]? = some (.cells #[.slice A zs.length I,.int .i64 s] 84 (0,0)):=by have:=J.box;rw[hv] at this;exact this
 exact⟨⟨by simp[World.cell?,j],by simp[World.cell?,j]⟩,fun i=>by simp[World.frozen?,j]⟩
structure Cs (a:Ds) (sf:Nm) (t:Nat) (L:Str->Bool) (nd:Nat->Option (List Int × Nat)) (now:Nm):Prop where
 now:∀ y,now y=if L y then none else sf y
 cut:∀ B zs s,a.nd B=some (zs,s)->(∃ y,sf y=some B/\L y=false)->nd B=some (zs.take (s+t % (zs.length-s+1)),(zs.take (s+t % (zs.length-s+1))).length)
 old:∀ B,¬ (∃ y,sf y=some B/\L y=false)->nd B=a.nd B
 no:∀ B,a.nd B=none->nd B=none
theorem qzq (a:Ds) (k:Nat) (m:Nat->Nat) (dec:∀ B,Decidable (∃ x,a.at_ k x=some B)) (B:Nat) (h:∃ x,a.at_ k x=some B):(a.crash k m dec).nd B=(a.nd B).map fun c=>(c.1.take (c.2+m (c.1.length-c.2)),(c.1.take (c.2+m (c.1.length-c.2))).length):=by
 unfold Ra.As.crash;dsimp only;split
 ·rfl
 rename_i j _;exact absurd h j
theorem qzx (a:Ds) (k:Nat) (m:Nat->Nat) (dec:∀ B,Decidable (∃ x,a.at_ k x=some B)) (B:Nat) (h:¬ ∃ x,a.at_ k x=some B):(a.crash k m dec).nd B=a.nd B:=by
 unfold Ra.As.crash;dsimp only;split
 ·rename_i j _;exact absurd j h
 rfl
theorem CV (a:Option Addr) (n c j:Nat) (h:n<=c) (A:j<=n) (G:a=none->c=0) (w:World):(Instr.slice 61 (.slice a n c) none (some (.int .i64 j)) none).run prog w=.ok (.slice a j c) w:=by
 have D:j<=c:=Wz9 A h;cases a with
 | none =>
  have:=G rfl;subst this;obtain rfl:n=0:=by omega
  obtain rfl:j=0:=by omega
  go_simp
 | some p=>go_simp
theorem CW (a:Option Addr) (n c j:Nat) (h:n<=c) (A:j<=n) (G:a=none->c=0) (w:World):(Instr.slice 82 (.slice a n c) none (some (.int .i64 j)) none).run prog w=.ok (.slice a j c) w:=by
 have D:j<=c:=Wz9 A h;cases a with
 | none =>
  have:=G rfl;subst this;obtain rfl:n=0:=by omega
  obtain rfl:j=0:=by omega
  go_simp
 | some p=>go_simp
theorem zz0 (S:Nat->Prop) (N D:Nat) (q:Bool) (a:Ds) (dir t:Nat) (hd:dir<18446744073709551616) (ht:t<18446744073709551616) (w:World) (h:Dm S N w D q a) (hN:N<=90000) :
  Calls prog 11 #[.pointer (some ⟨D,0,none⟩),.int .u64 dir,.int .u64 t] w fun e w'=>e=.returned (.tuple #[])/\(∃ kk,∃ a',a'=a.crash kk (fun n=>t % (n+1)) (fun B=>Classical.propDecidable _)/\Dm (Sx S w w') (N+2) w' D true a')/\Al S w w':=by
 obtain⟨G,h⟩:=h;obtain⟨_,h1,h2,_,au⟩:=h.c0;obtain⟨es,ck,av⟩:=h.safe.box;obtain⟨wt,bd,aF,bL⟩:=h.box;have hB:Bx e1 1 79 w w 0 G.mv G.ls:=⟨Below.refl _ _,h.mv.row,Wqw _⟩;obtain⟨V,c,aI,hP,_⟩:=hB.px (d:=(none,0,[])) (fun _ _=>rfl);obtain⟨L,HL⟩:=nm_ G.ls.length;obtain⟨ls,aj⟩:∃ ls,Hid (G.ls=ls):=⟨_,rfl⟩;obtain⟨gs,ai⟩:=nm_ G.gs;obtain⟨ns,bC⟩:=nm_ G.ns;rw[HL.out] at aI
 rw[aI] at h2 aF;rw[ai.out] at h1 av aF;have bh:ls.length=L:=by rw[<-aj.out];exact HL.out
 have aX:=hid bh;have dh:ns+2*L<=N:=by have:=h.few_le;rw[HL.out,bC.out] at this;omega
 obtain⟨kk,cM⟩:∃ k,dir % (L+1)=k:=⟨_,rfl⟩;have cL:kk<=L:=by have:=Wx1 dir (show 0<L+1 by omega);omega
 have bW:(dir:Int) % ((L:Int)+1)=(kk:Int):=by rw[<-cM];push_cast;rfl
 have cp:Hid (∀ i,i<L->(a.mvs.getD i [])=(ls.getD i (none,0,[])).2.2):=fun i hi=>by
  rw[<-h.ml,aj.out];simp[List.getD_eq_getElem?_getD,List.getElem?_map,List.getElem?_eq_getElem (show i<ls.length by omega)]
 have cq:Hid (a.mvs.length=L):=hid (by rw[<-h.ml,aj.out,List.length_map,bh]);have cw:Hid (0<L->∃ b off,V=some ⟨b,off,none⟩):=fun h0=>by
  obtain⟨b,off,e1,_⟩:=hP.at_ (by rw[HL.out];exact h0);exact⟨b,off,e1⟩
 have HP:Hid (∀ W,w.grownBy W (some gs)->Px e1 1 (none,0,[]) W V c ls):=fun W hW=>by
  have aW:=h.mv.row;rw[aI,aj.out] at aW;have hB:Bx e1 1 79 W W 0 (.slice V L c) ls:=⟨Below.refl _ _,vw aW av hW,Wqw _⟩;obtain⟨a',c',e,h,_⟩:=hB.px (d:=(none,0,[])) (fun _ _=>rfl);cases e
  exact h
 have HC:Hid (∀ W,w.grownBy W (some gs)->W.heap[D]? = some (dB G.g gs (.slice V L c) G.rm wt bd)):=fun W hW=>Tf.grown av hW aF;have HM:Hid (∀ W,w.grownBy W (some gs)->∀ p ∈ ls,LZ S W p):=fun W hW p hp=>(h.mv.at_ p (by rw[aj.out];exact hp)).to (fun _ h=>h) hW.size fun i cs f hi=>Tf.grown av hW hi
 have cy:Hid (TM (.pointer none) w gs ns (pt a.saf)):=hid (by have:=h.safe;rw[ai.out,bC.out] at this;exact this);have Y:=hid h;have dp:(Instr.slice 61 (.slice V L c) none (some (.int .i64 kk)) none).run prog w=.ok (.slice V kk c) w:=CV V L c kk (by have:=hP.capl;rw[HL.out] at this;exact this) cL (fun e=>hP.nil e) w;clear hB hP h bL aF aI bh au
 go_enter func11,ntmps11;go_wp2_with fail
 try simp only[bW]
 clear bW;go_loopg [29] kk (fun q iv wr=>∃ (i k:Nat),iv=.int .i64 i/\q=kk-i/\i<=kk/\k<=ns+2*i/\Hid (TM (.pointer none) wr gs k (pt (Ra.nmS a.saf (a.mvs.take i))))/\Hid (w.grownBy wr (some gs)));case atStart=>exact⟨0,ns,rfl,rfl,Wqw _,Wz8 _,cy,hid ⟨rfl,rfl,rfl,Wz8 _,fun _ _ _=>rfl⟩⟩
 obtain⟨i,k,rfl,hq,dy,hk,HT,HW⟩:=hrel;have I:=HC.out _ HW.out;unfold dB at I;have dr:wr.cell? ⟨D,1,none⟩=some (.map (some gs)):=by simp[World.cell?,I]
 have aE:∀ i,wr.frozen? ⟨D,i,none⟩=false:=fun i=>by simp[World.frozen?,I]
 by_cases cN:i<kk
 ·have bR:(i:Int)<(kk:Int):=by omega
  obtain⟨b,off,cE⟩:=cw.out (by omega);subst cE;obtain⟨p,hp⟩:∃ p,ls.getD i (none,0,[])=p:=⟨_,rfl⟩;have bT:p ∈ ls:=by rw[<-hp];exact zQ ls i _ (by rw[aX.out];omega)
  obtain⟨_,_,e1,_,e3⟩:=(HP.out wr HW.out).at_ (by rw[aX.out];omega);cases e1
  have e4:=e3 i (by rw[aX.out];omega);rw[hp] at e4;have aw:=cp.out i (by omega);rw[hp] at aw;obtain⟨pa,pc,pl⟩:=p;have hm:=HM.out wr HW.out _ bT;have bf:=e4 0 _ rfl;simp only[Nat.mul_one,WyK] at bf;have a8:=Tz gs k pa pc pl _ wr HT.out hm.px (by have:=hm.few;simp only at this;omega) hm.nm;have bN:pl.length<=2:=hm.few;rw[DW] at a8
  have c6:Ra.nmL (Ra.nmS a.saf (a.mvs.take i)) pl=Ra.nmS a.saf (a.mvs.take (i+1)):=by rw[LJ _ _ _ (by rw[cq.out];omega),aw]
  rw[c6] at a8;obtain⟨n2,cO⟩:∃ n,pl.length=n:=⟨_,rfl⟩;rw[cO] at a8 bf bN;clear hm e3 e4 hp bT aw c6;go_wp2_with (go_at_call 27;refine a8.mono ?_;rintro e w2 ⟨rfl,ao,ag⟩;have ad:=hid ao;have cA:Hid (w.grownBy w2 (some gs)):=hid (LX HW.out ag);clear ao ag)
  go_roundg (kk-(i+1));case measure=>omega
  case rel=>exact⟨i+1,k+n2,by go_num,rfl,by omega,by omega,ad,cA⟩
 have bR:¬ (i:Int)<(kk:Int):=by omega
 obtain rfl:i=kk:=by omega
 have bM:=aE 0;have dt:=aE 2;have du:=aE 4;have dw:=aE 5;have bf:wr.cell? ⟨D,0,none⟩=some (.map (some G.g)):=by simp[World.cell?,I]
 have dj:wr.cell? ⟨D,2,none⟩=some (.slice V L c):=by simp[World.cell?,I]
 have dl:wr.cell? ⟨D,4,none⟩=some (.int .i64 wt):=by simp[World.cell?,I]
 have dn:wr.cell? ⟨D,5,none⟩=some (.int .i64 bd):=by simp[World.cell?,I]
 have df:D<wr.heap.size:=z7 I;have dz:=mk50 wr;clear I;obtain⟨sf,aL⟩:=nm_ (Ra.nmS a.saf (a.mvs.take i));rw[aL.out] at HT;have az:sf=a.at_ i:=aL.out.symm;obtain⟨W5,ae⟩:∃ W,((((wr.setCell ⟨D,0,none⟩ (.map (some wr.heap.size))).setCell ⟨D,2,none⟩ (.slice none 0 0)).setCell ⟨D,4,none⟩ (.int .i64 0)).setCell ⟨D,5,none⟩ (.int .i64 0))=W:=⟨_,rfl⟩
 have bj:W5.heap.size=wr.heap.size:=by rw[<-ae];simp[World.setCell]
 have I:=HC.out _ HW.out;have b9:W5.heap[D]? = some (dB wr.heap.size gs (.slice none 0 0) G.rm 0 0):=by
  unfold dB at I;have e1:(wr.setCell ⟨D,0,none⟩ (.map (some wr.heap.size))).heap[D]? = _:=zV I 0 _;have e2:=zV e1 2 (.slice none 0 0);have e3:=zV e2 4 (.int .i64 0);have e4:=zV e3 5 (.int .i64 0);rw[<-ae,e4];rfl
 have t5:Tf 63 wr W5:=fun i o h1 h2 _=>by
  have aH:i ≠ D:=fun e=>by
   unfold dB at I;rw[e,I] at h1;cases h1;exact h2 _ _ rfl
  rw[<-ae,Below.heap_setCell _ _ _ _ aH,Below.heap_setCell _ _ _ _ aH,Below.heap_setCell _ _ _ _ aH,Below.heap_setCell _ _ _ _ aH];exact h1
 have bI:Al S w W5:=by
  have h0:=Al.of_grown (S:=S) HW.out (fun q hq=>by cases hq;rw[<-ai.out];exact Y.out.own.2.2);rw[<-ae];have st:∀ (W:World) (j:Nat) (v:Value),Al S w W->Al S w (W.setCell ⟨D,j,none⟩ v):=fun W j v hh=>hh.trans (Al.of_set (S:=S) (p:=⟨D,j,none⟩) Y.out.own.1 v) (fun i hi=>.inl hi);exact st _ _ _ (st _ _ _ (st _ _ _ (st _ _ _ h0)))
 obtain⟨W6,ap⟩:∃ W,W5.alloc (.map #[] 0)=W:=⟨_,rfl⟩;have cQ:W6.heap.size=wr.heap.size+1:=by rw[<-ap];simp[bj]
 have ci:w.heap.size<=wr.heap.size:=HW.out.size;have b6:Below W5.heap.size W5 W6:=by rw[<-ap];exact qK _ _
 have cJ:gs<w.heap.size:=by have:=Y.out.safe.lt;rw[ai.out] at this;exact this
 have A:Cw (fun i=>S i ∨ (w.heap.size<=i/\i<W6.heap.size)) W6 D { G with g:=wr.heap.size,gs:=gs,ns:=k } G.vs sf a.nd (fun _=>none) 0:=by
  refine⟨(b6.block D (z7 b9)).trans b9,?_,(HT.out.tf t5).tf (.below (T:=0) b6),?_,fun B zs s hB=>?_,Y.out.sep,⟨.inl Y.out.own.1,.inr ⟨ci,by show wr.heap.size<_;omega⟩,.inl (by show S gs;rw[<-ai.out];exact Y.out.own.2.2)⟩,Y.out.ln⟩
  ·have:=YX (.pointer none) W5;rw[bj,ap] at this;exact this
  ·show wr.heap.size ≠ gs;omega
  obtain⟨m1,m2,m3⟩:=Y.out.nds B zs s hB;exact⟨((m1.gr av HW.out).tf t5 (by decide) (by decide)).tf (.below (T:=0) b6) (by decide) (by decide),.inl m2,fun i hi=>.inl (m3 i hi)⟩
 obtain⟨w7,c7,bi,aD,bO,cR⟩:=A.safe.range Zj;have bJ:Al S w W6:=bI.trans (Al.below (S:=S) b6) (fun i hi=>.inl hi);have be:Below W6.heap.size W6 w7:=Tb bO
 have bw:Hid (Cw (fun i=>S i ∨ (w.heap.size<=i/\i<w7.heap.size)) w7 D { G with g:=wr.heap.size,gs:=gs,ns:=k } G.vs sf a.nd (fun _=>none) 0):=hid ((A.tf (.below (T:=0) be) (by decide)).mono (fun i hi=>hi.imp id (fun h=>⟨h.1,by omega⟩)));have cj:Hid (Al S w w7):=hid (bJ.trans (Al.below (S:=S) be) (fun i hi=>.inl hi));have Z:Hid (sf=a.at_ i):=hid az
 obtain⟨r7,aY⟩:=nm_ W6.heap.size;have bD:Hid (w.heap.size<=r7):=hid (by have:=aY.out;omega);have bP:({ G with g:=wr.heap.size,gs:=gs,ns:=k } : Dg).gs=gs:=rfl;rw[bP] at bi aD;rw[aY.out] at bi aD;have cz:=hid aD;have cV:W6.cell? ⟨D,1,none⟩=some (.map (some gs)):=by
  have:=A.box;unfold dB at this;simp[World.cell?,this]
 have bG:=hid ap;have bF:=hid ae;obtain⟨g6,aC⟩:=nm_ wr.heap.size;have bA:Hid (w.heap.size<=g6):=hid (by rw[<-aC.out];exact ci);have bB:Hid (g6 ≠ gs):=hid (by rw[<-aC.out];omega);have cn:Hid (g6 ≠ r7):=hid (by rw[<-aC.out,<-aY.out];omega);clear A aD bO cR be bI bJ b6 t5 b9 I az bj cQ ae ap cJ HT
 go_wp2_with (at_range;rw[bF.out,bG.out];refine z8 rfl _ (vv rfl rfl bi) ?_)
 obtain⟨mt,d6⟩:=nn_ (fun n=>t % (n+1));go_loopg [9] c7 (fun q _ wr=>∃ (c:Nat) (L:Str->Bool),q=c/\Hid (TR (.pointer none) wr gs r7 k (pt sf) L c)/\Hid (Al S w wr)/\Hid (∃ vs nd now n,Cw (fun i=>S i ∨ (w.heap.size<=i/\i<wr.heap.size)) wr D { G with g:=g6,gs:=gs,ns:=k } vs sf nd now n/\Cs a sf t L nd now/\n<=cnt now))
 case atStart=>exact⟨c7,_,rfl,cz,cj,hid ⟨G.vs,a.nd,_,0,by rw[<-aC.out];exact bw.out,⟨fun y=>by cases e:sf y <;> simp[pt,e],fun B zs s hB ⟨y,h1,h2⟩=>by simp[pt,h1] at h2,fun B _=>rfl,fun B h=>h⟩,by omega⟩⟩
 case round =>
 obtain⟨c,L,hq,bE,bo,br⟩:=hrel;rcases bE.out.next 0 with ⟨rfl,aN,hr⟩ | ⟨y,v,w3,c',hL,hM,hr,ao,hc,ag,bY,cH⟩
 ·have bp:=hid aN;clear aN;go_wp2_with (at_next;refine z8 rfl _ (qW rfl rfl hr) ?_;go_frame)
  obtain⟨vs,nd,now,n,A,K,aJ⟩:=br.out;have bQ:∀ y B,sf y=some B->L y=false:=fun y B hy=>bp.out y (by
   rcases Y.out.two i y (by rw[<-Z.out,hy];simp) with rfl | rfl <;> decide)
  have bS:now=sf:=by
   funext y;rw[K.now y];cases e:sf y with
   | none=>simp
   | some B=>rw[bQ y B e];simp
  rw[bS] at A aJ;have aK:nd=(a.crash i (fun n=>t % (n+1)) (fun B=>Classical.propDecidable _)).nd:=by
   funext B;by_cases hx:∃ x,a.at_ i x=some B
   ·rw[qzq _ _ _ _ _ hx];obtain⟨x,hx⟩:=hx;rw[<-Z.out] at hx;cases e:a.nd B with
    | none=>rw[K.no B e];rfl
    | some c =>
     obtain⟨zs,s⟩:=c;rw[K.cut B zs s e ⟨x,hx,bQ x B hx⟩];rfl
   rw[qzx _ _ _ _ _ hx];exact K.old B (fun ⟨x,h1,_⟩=>hx ⟨x,by rw[<-Z.out];exact h1⟩)
  obtain⟨a',ar⟩:∃ a',a.crash i (fun n=>t % (n+1)) (fun B=>Classical.propDecidable _)=a':=⟨_,rfl⟩;have bK:=(Ra.cr_crash (p:=pr) Y.out.wf i (fun n=>t % (n+1)) (fun B=>Classical.propDecidable _) (fun n=>by have:=Wx1 t (show 0<n+1 by omega);omega)).1;rw[ar] at aK bK;have en:a'.now=sf:=by rw[<-ar,Z.out];rfl
  have es:a'.saf=sf:=by rw[<-ar,Z.out];rfl
  have em:a'.mvs=[]:=by rw[<-ar];rfl
  have cF:∀ j,a'.at_ j=sf:=fun j=>by
   unfold Ra.As.at_;rw[em,es,List.take_nil];rfl
  refine bodyPost_end (results_none results11 _ _ _) rfl ⟨rfl,⟨i,a',ar.symm,{ G with vs:=vs,g:=g6,gs:=gs,mv:=.slice none 0 0,n:=n,ns:=k,ls:=[] },⟨0,0,A.box,⟨by omega,by omega,by omega,by omega,fun _=>⟨rfl,rfl⟩⟩⟩,by rw[en];exact A.now,by rw[es];exact A.safe,A.ne,?_,?_,⟨World.ownsRow_nil _ _ _ _,fun p hp=>by simp at hp,fun q hq=>by cases hq⟩,em.symm,?_,A.own,bK,fun j x hx=>?_,?_,Y.out.rmb⟩,bo.out⟩
  ·rw[<-aK];exact A.nds
  ·rw[<-aK];exact A.sep
  ·have:=CK sf;exact⟨by show n<=N+2;omega,by show k+2*([] : List Ml).length<=N+2;simp only[WzQ];omega⟩
  ·rw[cF,Z.out] at hx;exact Y.out.two i x hx
  rw[<-aK];exact A.ln
 obtain⟨B,ah,rfl⟩:=UJ hM;obtain⟨vs,nd,now,n,A,K,aJ⟩:=br.out;have t3:Tf 0 wr w3:=bE.out.tf ag 0;have J:Cw (fun i=>S i ∨ (w.heap.size<=i/\i<w3.heap.size)) w3 D { G with g:=g6,gs:=gs,ns:=k } vs sf nd now n:=(A.tf t3 (by decide)).mono (fun i hi=>hi.imp id (fun h=>⟨h.1,by omega⟩));have a7:a.at_ i y=some B:=by rw[<-Z.out];exact ah
 obtain⟨⟨zs,s⟩,O⟩:=Y.out.wf.dom i y B a7;have bn:=Y.out.two i y (by rw[a7];simp);have cT:y.length<=4000:=by rcases bn with rfl | rfl <;> decide
 have a6:nd B=some (zs,s):=by
  rw[K.old B (fun ⟨y',e1,e2⟩=>?_)]
  ·exact O
  have:y'=y:=Y.out.wf.inj i y' y B (by rw[<-Z.out];exact e1) a7;rw[this,hL] at e2;cases e2
 have bZ:=Y.out.wf.le B zs s O;have aS:=Y.out.ln B zs s O;have bX:=Y.out.rmb;obtain⟨V,vc,hv⟩:=zu (J.nds B zs s a6).1.own;have bm:vs B=.slice V zs.length vc:=hv;have aB:=Kk (B:=0) (by have:=(J.nds B zs s a6).1.own;rw[hv] at this;exact this);obtain⟨Q,ac⟩:=nm_ zs.length;obtain⟨m,hm⟩:∃ m,t % (Q-s+1)=m:=⟨_,rfl⟩
 have cY:s<=Q:=by rw[<-ac.out];exact bZ
 have dC:m<=Q-s:=by have:=Wx1 t (show 0<Q-s+1 by omega);omega
 have aw:(t:Int) % ((Q:Int)-(s:Int)+1)=(m:Int):=by rw[<-hm];push_cast;rw[show ((Q-s:Nat):Int)=(Q:Int)-(s:Int) by omega]
 have bg:s+m<=zs.length:=by rw[ac.out];omega
 have cX:Q<=100000:=by rw[ac.out] at aS;omega
 have aA:∀ W:World,(Instr.slice 82 (.slice V Q vc) none (some (.int .i64 ((s:Int)+(m:Int)))) none).run prog W=.ok (.slice V (s+m) vc) W:=fun W=>by
  have:=CW V Q vc (s+m) (by rw[<-ac.out];exact aB.capl) (by omega) (fun e=>aB.nil e) W;rw[show ((s+m:Nat):Int)=(s:Int)+(m:Int) by push_cast;rfl] at this;exact this
 obtain⟨j,hj⟩:∃ j,s+m=j:=⟨_,rfl⟩;rw[hj] at aA bg
 have aP:∀ W,Below w3.heap.size w3 W->Cw (fun i=>S i ∨ (w.heap.size<=i/\i<w3.heap.size)) ((W.setCell ⟨B,0,none⟩ (.slice V j vc)).setCell ⟨B,1,none⟩ (.int .i64 j)) D { G with g:=g6,gs:=gs,ns:=k } (fun i=>if i=B then .slice V j vc else vs i) sf (fun i=>if i=B then some (zs.take j,j) else nd i) now n:=fun W hW=>(J.tf (.below (T:=0) hW) (by decide)).cut a6 bm bg
 have aO:Cs a sf t (fun z=>L z && decide (z ≠ y)) (fun i=>if i=B then some (zs.take j,j) else nd i) (fun z=>if z=y then some B else now z):=by
  have cK:s+t % (zs.length-s+1)=j:=by rw[ac.out,hm];exact hj
  refine⟨fun z=>?_,fun C zc sc hC hex=>?_,fun C hex=>?_,fun C hC=>?_⟩
  ·by_cases e:z=y
   ·subst e;simp[ah]
   simp only[e,if_false,ne_eq,not_false_eq_true,decide_true,Bool.and_true];exact K.now z
  ·by_cases e:C=B
   ·subst e;rw[O] at hC;cases Wq8.inj hC
    simp only[if_true,cK];rw[WzJ,Nat.min_eq_left bg]
   simp only[e,if_false];refine K.cut C zc sc hC ?_;obtain⟨y',e1,e2⟩:=hex;refine⟨y',e1,?_⟩;by_cases e3:y'=y
   ·rw[e3,ah] at e1;exact absurd (Wq8.inj e1).symm e
   simpa [e3] using e2
  ·have e:C ≠ B:=fun e=>hex ⟨y,by rw[e];exact ah,by simp⟩;simp only[e,if_false];exact K.old C (fun ⟨y',e1,e2⟩=>hex ⟨y',e1,by simp[e2]⟩)
  have e:C ≠ B:=fun e=>by rw[e,O] at hC;cases hC
  simp only[e,if_false];exact K.no C hC
 have aU:n+1<=cnt (fun z=>if z=y then some B else now z):=by
  rw[UK (f:=now) (y:=y) (B:=B) (fun _=>rfl) (by rw[K.now y,hL];rfl) bn];omega
 obtain⟨ay,au⟩:=J.qd a6 bm;rw[ac.out] at ay;have bq:=hid aP;have cm:=hid aO;have cv:=hid aU;have cu:Hid (n<=2):=hid (Wz9 aJ (CK _));have cC:=hid cT;have ad:=hid ao;have cB:Hid (Al S w w3):=hid (bo.out.trans (Al.of_grown (S:=fun i=>i=r7) ag (fun q hq=>by cases hq;rfl)) (fun i hi=>.inr (by rw[hi];exact bD.out)))
 have dc:Hid (wr.heap.size=w3.heap.size):=hid bY.symm;have d5:=hid ah;have da:=hid O;have aQ:=au 0;have aR:=au 1;have cN:r7<w3.heap.size:=by have:=ad.out.lt.1;omega
 unfold sV at hr cH;clear aP K aJ aO aU ao ag bY A J t3 ah hM a7 bn a6 aB hv bm O au aS bX bZ;go_wp2_with (at_next;refine z8 rfl _ (qW rfl rfl hr) ?_;go_frame)
 have bH:Qd B V Q vc s w3.drew:=⟨ay.c0,ay.c1⟩;refine wp_region_held_drew (S:=Qd B V Q vc s) (by kernel_rfl) bH (fun b7=>?_);clear bH;have ca:IntKind.i64.wrap ((Q:Int)-(s:Int))=(Q:Int)-(s:Int):=by simp[IntKind.wrap,IntKind.bits,IntKind.signed];omega
 have cb:IntKind.i64.wrap ((Q:Int)-(s:Int)+1)=(Q:Int)-(s:Int)+1:=by simp[IntKind.wrap,IntKind.bits,IntKind.signed];omega
 have cc:IntKind.u64.wrap ((Q:Int)-(s:Int)+1)=(Q:Int)-(s:Int)+1:=by simp[IntKind.wrap,IntKind.bits,IntKind.signed];omega
 have ce:((t:Int)).tmod ((Q:Int)-(s:Int)+1)=(m:Int):=by rw[Int.tmod_eq_emod_of_nonneg (by omega)];exact aw
 have cf:IntKind.i64.wrap (m:Int)=(m:Int):=by simp[IntKind.wrap,IntKind.bits,IntKind.signed];omega
 have ax:((Q:Int)-(s:Int)+1=0)=False:=by apply eq_false;omega
 iterate 16
  refine qy (v:=?_) b7 ?_ ?_;rotate_left
  ·rintro w' ⟨c0,c1⟩;go_simp;try simp only[ca,cb,cc,ax,if_false,ce,cf,Result.andThen_ok]
   rfl
  try simp only[Act.put,sL]
 refine wpAnyH_done (by kernel_rfl) ?_ _;clear ca cb cc ce cf ax;go_wp2_with fail
 have b8:Below w3.heap.size w3 w3.drew.drew:=(zj _ _ 1).trans ((zj _ w3.drew 1).mono (Wz8 _));have cg:w3.drew.drew.heap=w3.heap:=rfl;have am:Qd B V Q vc s w3.drew.drew:=⟨ay.c0,ay.c1⟩;have bM:w3.drew.drew.frozen? ⟨B,0,none⟩=false:=aQ;have cI:w3.drew.drew.frozen? ⟨B,1,none⟩=false:=aR;refine Y5 (Qd B V Q vc s) 14 (by kernel_rfl) ?_
 clear aQ aR;generalize w3.drew.drew=u0 at b8 cg am bM cI ⊢;have cS:IntKind.i64.wrap ((s:Int)+(m:Int))=(s:Int)+(m:Int):=by simp[IntKind.wrap,IntKind.bits,IntKind.signed];omega
 iterate 12
  refine QZ (v:=?_) am ?_ ?_;rotate_left
  ·rintro w' ⟨c0,c1⟩;go_simp;first | rfl | (simp only[cS,aA,Result.andThen_ok];rfl)
  try simp only[Act.put,sL]
 refine xZ (i:=12) (by kernel_rfl) (ju rfl (fun KK ak=>?_));go_simp;refine ak.out _ _ (.inr am) ?_;clear ak KK;try simp only[Act.put,sL]
 refine QZ (v:=?_) am ?_ ?_;rotate_left
 ·rintro w' ⟨c0,c1⟩;go_simp;rfl
 try simp only[Act.put,sL]
 obtain⟨bV,dD⟩:=am;refine xZ (i:=14) (by kernel_rfl) (ju rfl (fun KK ak=>?_));go_simp;refine ak.out _ _ (.inl rfl) ?_;clear ak KK;try simp only[Act.put,sL]
 refine Su (by kernel_rfl) ?_ _;have M:=bq.out u0 b8;obtain⟨u2,bk⟩:∃ u2,(u0.setCell ⟨B,0,none⟩ (.slice V j vc)).setCell ⟨B,1,none⟩ (.int .i64 j)=u2:=⟨_,rfl⟩;rw[bk] at M;obtain⟨u3,bU,aM,aG⟩:=M.now.put (by have:=cu.out;omega) Zj cC.out (.pointer (some ⟨B,0,none⟩));have J:=M.put aG aM;have cU:u2.cell? ⟨D,0,none⟩=some (.map (some g6)):=by
  have:=M.box;unfold dB at this;simp[World.cell?,this]
 have dF:u2.heap.size=u0.heap.size:=by rw[<-bk];simp[World.setCell]
 have dG:=aG.size;have cD:S B ∨ (w.heap.size<=B/\B<w3.heap.size):=(M.nds B (zs.take j) j (by simp)).2.1;have aZ:=hid bk;have bu:=hid J;have bz:=hid aG;have b2:=hid cg;have aV:=bU;unfold sV at aV;have cZ:u2.cell? ⟨B,0,none⟩=some (.slice V j vc):=by
  have:=(M.nds B (zs.take j) j (by simp)).1.box;simp only[if_true] at this;simp[World.cell?,this]
 clear M aM aG J bU;go_wp2_with (at_mapUpdate;rw[aZ.out];refine xK rfl (xq rfl rfl rfl rfl aV) ?_)
 go_roundg c';case measure=>omega
 case rel =>
 have d0:u0.heap.size=w3.heap.size:=by rw[b2.out]
 have cP:∀ i o,w3.heap[i]? = some o->(∀ c T f,o ≠ Obj.cells c T f)->B ≠ i:=fun i o hi ho e=>by
  have h5:u0.heap[B]? = some o:=by rw[b2.out,e];exact hi
  simp only[World.cell?,h5] at bV;cases o with
  | cells c T f=>exact ho _ _ _ rfl
  | _=>simp at bV
 have c8:∀ i o,w3.heap[i]? = some o->(∀ c T f,o ≠ Obj.cells c T f)->i ≠ g6->u3.heap[i]? = w3.heap[i]? := fun i o hi ho hg=>by
  have ax:=cP i o hi ho;have dx:=z7 hi;rw[bz.out.block i (by omega) (fun e=>hg (Wq8.inj e)),<-aZ.out,Below.heap_setCell _ _ _ _ (Ne.symm ax),Below.heap_setCell _ _ _ _ (Ne.symm ax),b2.out]
 obtain⟨de,dd,cG⟩:=ad.out.tm.box;obtain⟨m1,m2,m3,m4,hit⟩:=ad.out.it;refine⟨c',_,rfl,hid (ad.out.kept (c8 _ _ cG (fun _ _ _ e=>by cases e) (Ne.symm bB.out)) (c8 _ _ hit (fun _ _ _ e=>by cases e) (Ne.symm cn.out))),hid ?_,hid ⟨_,_,_,n+1,bu.out.mono (fun i hi=>?_),cm.out,cv.out⟩⟩
 ·have h1:Al S w u0:=cB.out.trans (Al.below (S:=S) b8) (fun i hi=>.inl hi);have st:∀ (W:World) (j:Nat) (v:Value),Al S w W->Al S w (W.setCell ⟨B,j,none⟩ v):=fun W j v hh=>hh.trans (Al.of_set (S:=fun i=>i=B) (p:=⟨B,j,none⟩) rfl v) (fun i hi=>by rw[hi];exact cD.imp id (fun h=>h.1));have h2:Al S w u2:=by rw[<-aZ.out];exact st _ _ _ (st _ _ _ h1)
  exact h2.trans (Al.of_grown (S:=fun i=>i=g6) bz.out (fun q hq=>by cases hq;rfl)) (fun i hi=>.inr (by rw[hi];exact bA.out))
 rcases hi with hi | hi
 ·exact .inl hi
 exact .inr ⟨hi.1,by have:=hi.2;omega⟩
theorem CY {S:Nat->Prop} {w w':World} (h:∀ i,S i->i<w.heap.size) (hs:w.heap.size<=w'.heap.size):∀ i,Sx S w w' i->i<w'.heap.size:=fun i hi=>by rcases hi with hi | hi;have:=h i hi;omega;exact hi.2
theorem zx6 {S:Nat->Prop} {a b c:World} (h:a.heap.size<=b.heap.size) (j:b.heap.size<=c.heap.size):∀ i,Sx (Sx S a b) b c i->Sx S a c i:=fun i hi=>by
 rcases hi with (hi | hi) | hi
 ·exact .inl hi
 ·exact .inr ⟨hi.1,by omega⟩
 exact .inr ⟨by omega,hi.2⟩
theorem Al.sx {S:Nat->Prop} {a b c:World} (h:Al S a b) (k:Al (Sx S a b) b c):Al S a c:=h.trans k fun i hi=>by rcases hi with hi | hi;exact .inl hi;exact .inr hi.1
structure Rf (w:World) (R D t:Nat) (go un:Bool):Prop where
 box:w.heap[R]? = some (.cells #[.pointer (some ⟨D,0,none⟩),.map (some t),.bool go,.bool un] 58 (0,0))
theorem Rf.c {w:World} {R D t:Nat} {go un:Bool} (h:Rf w R D t go un):w.cell? ⟨R,0,none⟩=some (.pointer (some ⟨D,0,none⟩))/\w.cell? ⟨R,1,none⟩=some (.map (some t))/\w.cell? ⟨R,2,none⟩=some (.bool go)/\w.cell? ⟨R,3,none⟩=some (.bool un)/\(∀ i,w.frozen? ⟨R,i,none⟩=false):=by
 have hb:=h.box;exact⟨by simp[World.cell?,hb],by simp[World.cell?,hb],by simp[World.cell?,hb],by simp[World.cell?,hb],fun i=>by simp[World.frozen?,hb]⟩
abbrev Sr (S:Nat->Prop) (R:Nat):Nat->Prop:=fun i=>S i ∨ i=R
theorem Al.mono {S S':Nat->Prop} {w w':World} (h:Al S w w') (j:∀ i,S i->S' i):Al S' w w':=⟨h.os,h.tape,h.output,h.size,fun i hi A=>h.blk i hi (fun hs=>A (j i hs))⟩
theorem Rf.al {S:Nat->Prop} {w w':World} {R D t:Nat} {go un:Bool} (h:Rf w R D t go un) (j:Al S w w') (A:¬ S R):Rf w' R D t go un:=⟨(j.blk R (z7 h.box) A).trans h.box⟩
theorem Rf.set {w:World} {R D t:Nat} {go un:Bool} (h:Rf w R D t go un) (b:Bool):Rf (w.setCell ⟨R,3,none⟩ (.bool b)) R D t go b:=⟨by rw[zV h.box];rfl⟩
end Go.Proofs.YtdnphaganajejaaGreatDoor.K
namespace Go.Proofs.YtdnphaganajejaaGreatDoor.K
open Go.Proofs.Tryz
open Go.RowKit Go.Maps Go.Sort Go.Shelf
structure Le where
 old:List Int
 new:List Int
 who:Per
 text:Str
def IdW (x:List Int):Prop:=x.length=20/\IsB x
def qw (e:Le):List Value:=row .u8 e.old++(row .u8 e.new++[.string ⟨e.who.name.toArray⟩,.string ⟨e.who.mail.toArray⟩,.int .i64 e.who.time,.int .i64 e.who.zone,sV e.text])
abbrev dL:Le:=⟨[],[],⟨[],[],0,0⟩,[]⟩
structure Lr where
 id:List Int
 tg:Str
 a:Option Addr
 c:Nat
 log:List Le
def rV (r:Lr):Value:=.agg (row .u8 r.id++[sV r.tg,.slice r.a r.log.length r.c]).toArray
abbrev zZ:List Int:=List.replicate 20 0
def r0:Lr:=⟨zZ,[],none,0,[]⟩
def vY (e:Le):Prop:=IdW e.old/\IdW e.new
theorem yQ {e:Le} (h:vY e):(qw e).length=45:=by simp[qw,zv,h.1.1,h.2.1]
theorem uZ (e:Le):∀ v ∈ qw e,v.oneCell'=true:=fun v hv=>by
 unfold qw at hv;simp only[Wqx,Wqj,WyJ,or_false] at hv;rcases hv with hv | hv | rfl | rfl | rfl | rfl | rfl
 ·exact yK .u8 e.old v hv
 ·exact yK .u8 e.new v hv
 all_goals rfl
structure Xv (S:Nat->Prop) (w:World) (x:Str) (r:Lr):Prop where
 nm:x.length<=60
 id:IdW r.id
 tg:r.tg.length<=60
 px:Px qw 45 dL w r.a r.c r.log
 few:r.log.length<=100000
 ok:∀ e ∈ r.log,vY e
 out:∀ p:Addr,r.a=some p->¬ S p.block/\p.block<w.heap.size
abbrev Ts:=Str->Option Lr
def vT (T:Ts):Str->Option Value:=fun x=>(T x).map rV
structure Tt (S:Nat->Prop) (w:World) (t n:Nat) (T:Ts):Prop where
 tm:TM (rV r0) w t n (vT T)
 at_:∀ x r,T x=some r->Xv S w x r
 out:¬ S t
theorem Xv.al {S:Nat->Prop} {w w':World} {x:Str} {r:Lr} (h:Xv S w x r) (j:Al S w w'):Xv S w' x r :=
 ⟨h.nm,h.id,h.tg,h.px.tf (fun q D=>j.blk _ (h.out q D).2 (h.out q D).1) j.size,h.few,h.ok,fun p A=>⟨(h.out p A).1,Nat.lt_of_lt_of_le (h.out p A).2 j.size⟩⟩
theorem Xv.to {S S':Nat->Prop} {w:World} {x:Str} {r:Lr} (h:Xv S w x r) (A:∀ i,S' i->S i ∨ w.heap.size<=i):Xv S' w x r :=
 ⟨h.nm,h.id,h.tg,h.px,h.few,h.ok,fun p j=>⟨fun hs=>by rcases A _ hs with k | k;exact(h.out p j).1 k;have:=(h.out p j).2;omega,(h.out p j).2⟩⟩
theorem Tt.al {S:Nat->Prop} {w w':World} {t n:Nat} {T:Ts} (h:Tt S w t n T) (j:Al S w w'):Tt S w' t n T :=
 ⟨h.tm.sm (j.blk t h.tm.lt h.out),fun x r hr=>(h.at_ x r hr).al j,h.out⟩
theorem Tt.to {S S':Nat->Prop} {w:World} {t n:Nat} {T:Ts} (h:Tt S w t n T) (j:∀ i,S' i->S i ∨ w.heap.size<=i):Tt S' w t n T :=
 ⟨h.tm,fun x r hr=>(h.at_ x r hr).to j,fun hs=>by rcases j _ hs with k | k;exact h.out k;have:=h.tm.lt;omega⟩
theorem Tt.below {S:Nat->Prop} {w w':World} {t n:Nat} {T:Ts} (h:Tt S w t n T) (hb:Below w.heap.size w w'):Tt S w' t n T:=h.al (Al.below hb)
theorem Rz {T:Ts} {x:Str} {v:Value} (h:vT T x=some v):∃ r,T x=some r/\v=rV r:=by
 unfold vT at h;cases j:T x with
 | none=>rw[j] at h;cases h
 | some f=>rw[j] at h;exact⟨f,rfl,(Wq8.inj h).symm⟩
theorem kJ {H:Type} {P:Program} {k:TypeId} {R:Value->Option (DataW H × List MemPlace)} {w:World} {b n:Nat} {D:DataW H} (h:w.ownsMap P k R b n D) (I:P.underlying k=some .string) (x:Str):x ∈ strKeys D ↔ Maps.has D (.string x)=true:=by
 obtain⟨es,rfl,A⟩:=h.keysOf;simp only[strKeys,List.mem_map,Maps.has,List.any_eq_true];constructor
 ·rintro⟨p,G,rfl⟩;refine⟨p,G,?_⟩;obtain⟨key,j⟩:=A p G;obtain⟨y,_,e,_⟩:=Maps.keyOf_str I j;rw[e];simp[strOf,Lit.sameKey]
 rintro⟨p,G,hs⟩;refine⟨p,G,?_⟩;obtain⟨key,j⟩:=A p G;obtain⟨y,_,e,_⟩:=Maps.keyOf_str I j;rw[e] at hs ⊢;simpa [strOf,Lit.sameKey] using hs
theorem Fz (x:Str) (h:x.length<=maxLen):keyOf prog 9 (sV x)=some (.string x):=by
 have j:(⟨x.toArray⟩:ByteArray).size<=maxLen:=by simpa [ByteArray.size] using h
 unfold keyOf sV;rw[underlying9];simp[mapKey,underlying9,j]
theorem qu2 (m:Nat):AnyZ.SortsIn prog sortedT_ren Fence.wide m :=
  ⟨fun blk off cap ss W j h hsz=>callsIn_wide.2 (AnyM.slices_Sort_string sortT blk off cap ss W j h hsz),
   fun p cap W=>callsIn_wide.2 (AnyM.slices_Sort_string_none sortT p cap W)⟩
theorem Nz (S:Nat->Prop) (t n:Nat) (T:Ts) (w:World) (h:Tt S w t n T) (hn:n<=100000) :
  Calls prog 65 #[.map (some t)] w fun e w'=>∃ (v:Value) (ss:List Str),e=.returned v/\(∀ x,x ∈ ss ↔ T x ≠ none)/\ss.Pairwise (fun x y=>decide (x<=y)=true)/\ss.Nodup/\w'.ownsRow w.heap.size 9 1 v ss.length (ss.map sV)/\Below w.heap.size w w':=by
 obtain⟨D0,j,hv⟩:=h.tm;have hsz:Maps.size D0<=100000:=Wz9 j.size_le hn;have K:Maps.size D0<=maxLen:=by unfold maxLen;omega
 have A:Maps.size D0*16<=140737488355328:=by omega
 have HM:Hid (∀ ss:List Str,ss.Perm (strKeys D0)->(∀ x,x ∈ srt ss ↔ T x ≠ none)/\(srt ss).Nodup):=fun ss Q=>by
  refine⟨fun x=>?_,?_⟩
  ·rw[(uu ss).mem_iff,Q.mem_iff,kJ j underlying9];have hT:∀ y,T y ≠ none ↔ (vT T y).isSome=true:=fun y=>by cases e:T y <;> simp[vT,e]
   constructor
   ·intro hx;have Z:=strKeys_le j underlying9 x ((kJ j underlying9 x).2 hx);rw[(hv x _ (Fz x Z)).1] at hx;exact(hT x).2 hx
   intro hx;have Z:x.length<=4000:=by
    cases e:T x with
    | none=>exact absurd e hx
    | some r=>have:=(h.at_ x r e).nm;omega
   rw[(hv x _ (Q0 x Z)).1];exact(hT x).1 hx
  rw[(uu ss).nodup_iff,Q.nodup_iff];obtain⟨es,rfl,I⟩:=j.keysOf;obtain⟨ac,e,a6,_⟩:=j.entries uj;cases e
  simp only[strKeys];refine(List.pairwise_map.2 (a6.imp_of_mem fun {p q} Q hq L G=>?_));obtain⟨key,J⟩:=I p Q;obtain⟨a8,D⟩:=I q hq;obtain⟨y,_,e1,_⟩:=Maps.keyOf_str underlying9 J;obtain⟨y',_,e2,_⟩:=Maps.keyOf_str underlying9 D;rw[e1,e2] at G L;simp only[strOf] at G;exact L (by rw[G])
 refine(callsIn_wide (n:=6)).1 ?_;have Y:=j.lt;have O:SeqGives Fence.wide 2 prog 126 #[.pointer (some ⟨w.heap.size,0,none⟩)] encStr (fun ss=>ss.Perm (strKeys D0)) (Maps.size D0) (w.alloc (.cells #[.map (some t)] 56)) :=
  AnyZ.keys_gives (ρ:=keysT_ren) { keysT with } Fence.wide _ trivial rfl (by omega) w.heap.size t n D0 _ (by simp) (by simp) (by
   obtain⟨es,clock,hb,Ft,hs,hD⟩:=j
   exact⟨es,clock,(Below.heap_alloc _ _ t Y).trans hb,Ft,hs,hD⟩)
 have cK:∀ V W,CallsIn Fence.wide 5 prog 104 #[.map V] W fun e w'=>e=.returned (.func (.func 126) #[] #[.pointer (some ⟨W.heap.size,0,none⟩)])/\w'=W.alloc (.cells #[.map V] 56):=fun V W=>AnyZ.keys_in keysT Fence.wide 5 trivial rfl V W
 have cS:=AnyZ.sorted_in sortedT Fence.wide 5 trivial trivial trivial trivial rfl (by omega) (qu2 _) (enters_of func77 (by kernel_rfl) rfl) 126 #[.pointer (some ⟨w.heap.size,0,none⟩)] trivial (enters_of func126 (by kernel_rfl) rfl) _ _ K A _ O;change CallsIn _ _ prog 103 _ _ _ at cS;have ad:Fence.wide.fn 104:=trivial
 have ae:Fence.wide.fn 103:=trivial;refine callsIn_of_wp func65 rfl trivial ?_ rfl;simp only[ntmps65,List.size_toArray,List.length_cons,WzQ,Nat.reduceAdd,Nat.reduceSub,Array.replicate_succ,Array.replicate_zero,List.push_toArray,List.append_toArray,List.nil_append,List.cons_append];gi_wp2_with (first
  | (gi_at_call 104;refine(cK _ _).mono ?_;rintro e w' ⟨rfl,rfl⟩)
  | (gi_at_call 103;refine cS.mono ?_;rintro e w' ⟨v,ss,rfl,hS,M,a7,hb⟩))
 go_ret;refine⟨v,srt ss,rfl,(HM.out ss hS).1,?_,(HM.out ss hS).2,?_,((Below.refl _ w).alloc (Wz8 _) _).trans (hb.mono (by simp))⟩
 ·exact List.pairwise_mergeSort (fun a b c h1 h2=>by simp only[decide_eq_true_eq] at *;exact List.le_trans h1 h2) (fun a b=>by simp only[Bool.or_eq_true,decide_eq_true_eq];exact List.le_total a b) ss
 rw[show (srt ss).length=ss.length from (uu ss).length_eq];exact ownsRow_base_a M (by simp)
end Go.Proofs.YtdnphaganajejaaGreatDoor.K
namespace Go.Proofs.YtdnphaganajejaaGreatDoor.K
open Go.Proofs.Tryz
open Go.RowKit
theorem yJ:∀ (fr:List Int),fr.length=20->∃ a0 a1 a2 a3 a4 a5 O Q V a9 h j A D G I J K L M,fr=[a0,a1,a2,a3,a4,a5,O,Q,V,a9,h,j,A,D,G,I,J,K,L,M]
 | [a0,a1,a2,a3,a4,a5,O,Q,V,a9,h,j,A,D,G,I,J,K,L,M],_=>⟨a0,a1,a2,a3,a4,a5,O,Q,V,a9,h,j,A,D,G,I,J,K,L,M,rfl⟩
theorem j7 (w:World):(zeroValue 129).run prog w=.ok (rV r0) w:=by kernel_rfl
theorem zx7 (w:World):(Instr.build 129 #[]).run prog w=.ok (rV r0) w:=by kernel_rfl
abbrev eI (k:Int):Value:=.iface 32 (.int .i64 k)
def gt (T:Ts) (x:Str):Except Int Lr:=if isN x then (match T x with | some r=>.ok r | none=>.error 61) else .error 60
def SQ (T:Ts) (x:Str) (e:Ending):Prop:=match gt T x with
 | .ok r=>e=.returned (.tuple #[rV r,.nilIface])
 | .error k=>e=.returned (.tuple #[rV r0,eI k])
abbrev zA:Array Value:=#[.int .u8 0,.int .u8 0,.int .u8 0,.int .u8 0,.int .u8 0,.int .u8 0,.int .u8 0,.int .u8 0,.int .u8 0,.int .u8 0,.int .u8 0,.int .u8 0,.int .u8 0,.int .u8 0,.int .u8 0,.int .u8 0,.int .u8 0,.int .u8 0,.int .u8 0,.int .u8 0,.string ⟨#[]⟩,.slice none 0 0]
def zz1:Obj:=.cells zA 129
theorem zq {P:Program} {j:Array Oper} {rest:List Oper} {o:Oper} {a:Act} {W:World} {Q:Exit->Act->World->Prop} (D:o.guard=none) (ty:TypeId) (x y:Operand) (I:o.op=.store ty x y) (z A:Array Value) (hx:a.eval x=.pointer (some ⟨W.heap.size,0,none⟩)) (hy:a.eval y=.agg A)
  (hi:(P.info? ty).map (·.size)=some A.size) (J:z.size=A.size) (G:A.all (·.oneCell')=true) (h:wpList P j Q rest (a.put o.dst undef) (W.alloc (.cells A ty))):wpList P j Q (o :: rest) a (W.alloc (.cells z ty)):=by
 refine wpList_store_row D ty x y I W.heap.size A hx hy ty z (heap_alloc_new W _) hi J G ?_;rw[World.setRow_alloc_new];exact h
theorem zX {P:Program} {j:Array Oper} {rest:List Oper} {o:Oper} {a:Act} {w:World} {Q:Exit->Act->World->Prop} (D:o.guard=none) (ty:TypeId) (x:Operand) (I:o.op=.load ty x) (g:Nat) (A:Array Value) (t:TypeId) (f:Nat × Nat) (d:TypeDesc) (hx:a.eval x=.pointer (some ⟨g,0,none⟩)) (G:w.heap[g]? = some (.cells A t f))
  (J:P.underlying ty=some d) (hd:d.isRow=true) (hi:(P.info? ty).map (·.size)=some A.size) (h:wpList P j Q rest (a.put o.dst (.agg A)) w):wpList P j Q (o :: rest) a w:=by
 refine wpList_load_mid D ty x I g 0 hx A.toList d (zw (by simpa using G)) J hd (by simpa using hi) ?_;simpa using h
theorem yy {P:Program} {o:Oper} {a:Act} {w w':World} (t:TypeId) (h:o.op=.build t #[]) {v:Value} (hr:(Instr.build t #[]).run P w=.ok v w'):(execOp a.eval o).run P w=.ok (.value v) w':=by
 unfold execOp;simp[h,hr,Result.andThen]
structure Ra (r:Lr) (A:Array Value):Prop where
 e:rV r=.agg A
 i:(prog.info? 129).map (·.size)=some A.size
 z:zA.size=A.size
 o:A.all (·.oneCell')=true
theorem ra (r:Lr) (h:r.id.length=20):∃ A,Hid (Ra r A):=by
 have hs:(row .u8 r.id++[sV r.tg,.slice r.a r.log.length r.c]).toArray.size=22:=by simp[zv,h]
 exact⟨_,hid ⟨rfl,by rw[hs];kernel_rfl,by rw[hs];rfl,all_oneCell_toArray (fun v hv=>by
  rcases Wqx.1 hv with hv | hv
  ·exact yK _ _ v hv
  simp only[Wqj,WyJ,or_false] at hv;rcases hv with rfl | rfl <;> rfl)⟩⟩
theorem qu {P:Program} {fn:Func} {p q:Tmp} {ty:TypeId} (h:fn.results=#[.cell p ty,.tmp q]) (tmps:Array Value) (w:World) (g:Nat) (cs:List Value) (d:TypeDesc) (v:Value)
  (D:tmps.getD p undef=.pointer (some ⟨g,0,none⟩)) (G:tmps.getD q undef=v) (hc:w.rangeAt g 0 cs) (I:P.underlying ty=some d) (hd:d.isRow=true) (hi:(P.info? ty).map (·.size)=some cs.length) :
  (results fn tmps).run P w=.ok (.tuple #[.agg cs.toArray,v]) w:=by
 have j:tmps[p]?.getD undef=.pointer (some ⟨g,0,none⟩):=by simpa using D
 have A:tmps[q]?.getD undef=v:=by simpa using G
 simp[results,h,j,A,asAddr,run_loadVar_mid w g 0 ty cs d hc I hd hi]
theorem results62:f62.results=#[.cell 4 129,.tmp 5]:=by kernel_rfl
theorem Rq (S:Nat->Prop) (t n:Nat) (T:Ts) (x:Str) (w:World) (h:Tt S w t n T) (hm:Nm.Mx w) :
  Calls prog 62 #[.map (some t),sV x] w fun e w'=>SQ T x e/\Below w.heap.size w w':=by
 have Z:Hid (Below w.heap.size w (w.alloc zz1)):=hid ((Below.refl _ w).alloc (Wz8 _) _);have D:=x6 x (w.alloc zz1) (hm.below Z.out);have HK:Hid (∀ w1,Below (w.alloc zz1).heap.size (w.alloc zz1) w1->Below w.heap.size w w1/\w1.heap[w.heap.size]? = some zz1):=fun w1 h1=>⟨Z.out.trans (h1.mono (by simp)),(h1.block _ (by simp)).trans (heap_alloc_new _ _)⟩
 have L:=fun W (hW:Below w.heap.size w W) (hx:x.length<=4000)=>(h.below hW).tm.look xX (j7 W) hx;have a8:=hid h.at_;unfold zz1 at HK D;clear h hm
 have HE:Hid (∀ (w1 w2:World) (A:Array Value),Below w.heap.size w w1->Below w1.heap.size w1 w2->w1.heap[w.heap.size]? = some (.cells zA 129)->w2.heap[w.heap.size]? = some (.cells zA 129)/\(w2.setRow w.heap.size A).heap[w.heap.size]? = some (.cells A 129)/\Below w.heap.size w (w2.setRow w.heap.size A)):=fun w1 w2 A b1 b2 h1=>by
  have h2:=(b2.block _ (z7 h1)).trans h1;exact⟨h2,setRow_heap _ _ _ _ _ _ h2,below_setRow (b1.trans (b2.mono b1.size)) (Wz8 _) _⟩
 unfold SQ gt;obtain⟨K,j⟩:=ra r0 rfl;have J:rV r0=.agg K:=j.out.e;have a6:Hid (∀ W:World,(Instr.build 129 #[]).run prog W=.ok (.agg K) W):=fun W=>by rw[<-J];exact zx7 W
 cases hi:isN x with
 | false =>
  rw[hi] at D;simp only[Bool.false_eq_true,if_false];rw[J];clear J;unfold sV at D ⊢;clear L;go_enter func62,ntmps62;go_wp2_with (first
   | (go_at_call 60;refine D.mono ?_;rintro e w1 ⟨rfl,I⟩;obtain⟨q1,O⟩:=HK.out w1 I;obtain⟨Q,V,Y⟩:=HE.out w1 w1 K q1 (Below.refl _ _) O;have Q3:=hid Q;have Q4:=hid V;have Q5:=hid Y;clear I q1 O Q V Y)
   | (refine z8 rfl (.agg K) (yy 129 rfl (a6.out _)) ?_)
    | (refine wpList_store_row rfl 129 (.tmp 4) (.tmp 11) rfl w.heap.size K rfl rfl 129 _ Q3.out j.out.i j.out.z j.out.o ?_)
    | (refine zq rfl 129 (.tmp 6) (.tmp 17) rfl _ K rfl rfl j.out.i j.out.z j.out.o ?_))
  exact bodyPost_ret (qu results62 _ _ w.heap.size K.toList _ _ rfl rfl (zw (by simpa using Q4.out)) underlying129 rfl (by simpa using j.out.i)) rfl ⟨by simp,Q5.out⟩
 | true =>
  have hx:x.length<=4000:=by have:=qX hi;omega
  rw[hi] at D;simp only[if_true];cases hT:T x with
  | none =>
   have G:=fun W hW=>L W hW hx;simp only[vT,hT,Wx3,Wx2,Option.isSome_none,J] at G;simp only[];rw[J];clear J;unfold sV at D G ⊢;clear L;go_enter func62,ntmps62;go_wp2_with (first
    | (go_at_call 60;refine D.mono ?_;rintro e w1 ⟨rfl,I⟩;obtain⟨q1,O⟩:=HK.out w1 I;obtain⟨Q,V,Y⟩:=HE.out w1 (w1.alloc (.cells K 129)) K q1 ((Below.refl _ _).alloc (Wz8 _) _) O;have a7:=G w1 q1;have Q3:=hid Q;have Q4:=hid V;have Q5:=hid Y;clear I q1 O Q V Y G)
    | (refine z8 rfl (.agg K) (yy 129 rfl (a6.out _)) ?_)
    | (refine wpList_store_row rfl 129 (.tmp 4) (.tmp 21) rfl w.heap.size K rfl rfl 129 _ Q3.out j.out.i j.out.z j.out.o ?_)
    | (refine zq rfl 129 (.tmp 6) (.tmp 17) rfl _ K rfl rfl j.out.i j.out.z j.out.o ?_))
   exact bodyPost_ret (qu results62 _ _ w.heap.size K.toList _ _ rfl rfl (zw (by simpa using Q4.out)) underlying129 rfl (by simpa using j.out.i)) rfl ⟨by simp,Q5.out⟩
  | some r =>
   obtain⟨A,M⟩:=ra r (a8.out x r hT).id.1;have G:=fun W hW=>L W hW hx;simp only[vT,hT,Wq7,Wx0,Option.isSome_some,M.out.e] at G;simp only[];rw[M.out.e];clear J;unfold sV at D G ⊢;clear L;go_enter func62,ntmps62;go_wp2_with (first
    | (go_at_call 60;refine D.mono ?_;rintro e w1 ⟨rfl,I⟩;obtain⟨q1,O⟩:=HK.out w1 I;obtain⟨Q,V,Y⟩:=HE.out w1 (w1.alloc (.cells A 129)) A q1 ((Below.refl _ _).alloc (Wz8 _) _) O;have a7:=G w1 q1;have Q3:=hid Q;have Q4:=hid V;have Q5:=hid Y;clear I q1 O Q V Y G)
    | (refine zq rfl 129 (.tmp 6) (.tmp 17) rfl _ A rfl rfl M.out.i M.out.z M.out.o ?_)
    | (refine zX rfl 129 (.tmp 6) rfl w1.heap.size A 129 (0,0) _ rfl (heap_alloc_new w1 _) underlying129 rfl M.out.i ?_)
    | (refine wpList_store_row rfl 129 (.tmp 4) (.tmp 23) rfl w.heap.size A rfl rfl 129 _ Q3.out M.out.i M.out.z M.out.o ?_))
   refine bodyPost_ret (qu results62 _ _ w.heap.size A.toList _ _ rfl rfl (zw (by simpa using Q4.out)) underlying129 rfl (by simpa using M.out.i)) rfl ⟨by simp,Q5.out⟩
abbrev Kp:=List Int × Str
def tgK (k:Kp):Option Str:=if k.2=[] then none else some k.2
def kT (T:Ts):Str->Option Kp:=fun x=>(T x).map fun r=>(r.id,r.tg)
abbrev wyT (T:Ts) (n:Nat) (x:Str):Option (List Str):=Rk.wy tgK (kT T) n x
theorem Kv (r:Lr) (h:r.id.length=20) (w:World):(Instr.field 129 (rV r) 0).run prog w=.ok (.agg (row .u8 r.id).toArray) w/\(Instr.field 129 (rV r) 1).run prog w=.ok (sV r.tg) w/\(Instr.field 129 (rV r) 2).run prog w=.ok (.slice r.a r.log.length r.c) w:=by
 obtain⟨id,tg,a,c,log⟩:=r;obtain⟨a0,a1,a2,a3,a4,a5,Q,V,Y,a9,j,A,D,G,I,J,K,L,M,O,rfl⟩:=yJ id h;unfold rV;simp only;generalize log.length=n;generalize sV tg=v;refine⟨?_,?_,?_⟩ <;> kernel_rfl
theorem results47:f47.results=#[.tmp 2]:=by kernel_rfl
theorem results85:f85.results=#[.tmp 4,.tmp 5]:=by kernel_rfl
theorem Kw (a:Option Addr) (c:Nat) (l:List Str) (w:World) (h:Px eT 1 [] w a c l) (h0:0<l.length) (A:l.length<=1000000) :
  Calls prog 47 #[.slice a l.length c] w fun e w'=>e=.returned (sV (l.getD (l.length-1) []))/\w'=w:=by
 obtain⟨b,off,e1,_,j⟩:=h.at_ h0;subst e1;have hc:=j (l.length-1) (by omega) 0 _ rfl;obtain⟨x,hx⟩:∃ x,l.getD (l.length-1) []=x:=⟨_,rfl⟩;rw[hx] at hc ⊢;obtain⟨n,D⟩:∃ n,l.length=n+1:=⟨l.length-1,by omega⟩;rw[D] at hc A ⊢;simp only[Nat.add_sub_cancel,Nat.mul_one,WyK] at hc;unfold sV at hc ⊢;go_enter func47,ntmps47;go_wp2_with fail
 exact bodyPost_ret (results_tmp results47 _ _ _) rfl ⟨rfl,rfl⟩
def Y6 (T:Ts) (x:Str):Str:=((T x).map (·.tg)).getD []
theorem zx8 (T:Ts) (x:Str):(kT T x).bind tgK=if Y6 T x=[] then none else some (Y6 T x):=by
 unfold kT Y6 tgK;cases T x <;> simp
theorem Fj {T:Ts} {n:Nat} {x:Str} (h:Y6 T x=[]):wyT T n x=some [x]:=by
 unfold wyT Rk.wy;rw[zx8,if_pos h]
theorem Fk {T:Ts} {x:Str} (h:Y6 T x ≠ []):wyT T 0 x=none:=by
 unfold wyT Rk.wy;rw[zx8,if_neg h]
theorem qxz {T:Ts} {n:Nat} {x:Str} (h:Y6 T x ≠ []):wyT T (n+1) x=(wyT T n (Y6 T x)).map (x :: ·):=by
 conv=>lhs;unfold wyT Rk.wy
 rw[zx8,if_neg h]
theorem qzj {S:Nat->Prop} {w:World} {t n:Nat} {T:Ts} (h:Tt S w t n T) {x:Str} (hx:x.length<=4000):∃ A,(∀ W:World,(Instr.field 129 (.agg A) 1).run prog W=.ok (sV (Y6 T x)) W)/\(∀ W,Below w.heap.size w W->(Instr.lookup 56 (.map (some t)) (sV x) false).run prog W=.ok (.agg A) W)/\(Y6 T x).length<=60/\(vT T x).getD (rV r0)=.agg A:=by
 have G:=fun W (D:Below w.heap.size w W)=>(h.below D).tm.look1 xX (j7 W) hx;cases j:T x with
 | none =>
  refine⟨_,fun W=>?_,fun W D=>(G W D).trans ?_,by simp[Y6,j],by simp only[vT,j,Wx3,Wx2];rfl⟩
  ·have:=(Kv r0 rfl W).2.1;unfold Y6;rw[j];exact this
  simp only[vT,j,Wx3,Wx2];rfl
 | some r =>
  have hr:=h.at_ x r j;refine⟨_,fun W=>?_,fun W D=>(G W D).trans ?_,by simp only[Y6,j,Wq7,Wx0];exact hr.tg,by simp only[vT,j,Wq7,Wx0];rfl⟩
  ·have:=(Kv r hr.id.1 W).2.1;unfold Y6;rw[j];exact this
  simp only[vT,j,Wq7,Wx0];rfl
def Xq (T:Ts) (x:Str) (B:Nat) (e:Ending) (w':World):Prop:=match wyT T 8 x with
 | some l=>∃ v,e=.returned (.tuple #[v,.nilIface])/\w'.ownsRow B 9 1 v l.length (l.map sV)
 | none=>e=.returned (.tuple #[.slice none 0 0,eI 64])
theorem Fv (S:Nat->Prop) (t n:Nat) (T:Ts) (x:Str) (w:World) (h:Tt S w t n T) (hx:x.length<=60) :
  Calls prog 85 #[.map (some t),sV x] w fun e w'=>Xq T x w.heap.size e w'/\Below w.heap.size w w':=by
 have H:=hid h;obtain⟨r,HR⟩:=nm_ w.heap.size
 have Z:Hid (Bx eT 1 9 w (w.alloc (.cells #[.string ⟨x.toArray⟩] 9)) r (.slice (some ⟨r,0,none⟩) 1 1) ([]++[x])):=hid ⟨(Below.refl _ w).alloc (by rw[HR.out];exact Wz8 _) _,⟨rfl,.inr ⟨r,1,#[.string ⟨x.toArray⟩],rfl,Wz8 _,by rw[<-HR.out];exact heap_alloc_new _ _,by simp,by unfold maxLen;omega,by simp,rfl⟩⟩,by rw[<-HR.out];simp⟩;clear h;rw[HR.out];unfold sV
 go_enter func85,ntmps85;go_wp2_with fail
 rw[HR.out];go_loopg [1,6] 9 (fun q nv sv wr=>∃ (l:List Str) (cur:Str) (v:Value),nv=.string ⟨cur.toArray⟩/\v=sv/\q=9-l.length/\l.length<=8/\cur.length<=60/\Hid (wyT T 8 x=(wyT T (8-l.length) cur).map (l ++ ·))/\Hid (Bx eT 1 9 w wr r v (l++[cur])));case atStart=>exact⟨[],x,_,rfl,rfl,rfl,by simp,hx,hid (by simp),Z⟩
 obtain⟨l,cur,v,rfl,hv,hq,ae,ai,HW,G⟩:=hrel;subst hv;obtain⟨A,K,V,Y,_⟩:=qzj (H.out) (x:=cur) (by omega);have D:=V wr (by rw[HR.out];exact G.out.below);obtain⟨tg,M⟩:∃ s,Y6 T cur=s:=⟨_,rfl⟩;rw[M] at K Y;have J:=hid M;clear M V;by_cases h0:tg=[]
 ·subst h0;have O:Hid (wyT T 8 x=some (l++[cur])):=hid (by rw[HW.out,Fj J.out];rfl);unfold sV at K D;go_wp2_with fail
  refine bodyPost_ret (results_tmp2 results85 _ _ _) rfl ⟨?_,G.out.below⟩;unfold Xq;rw[O.out];refine⟨_,rfl,?_⟩;have:=G.out.own;rw[jV] at this;exact this
 have aj:(tg == [])=false:=by simpa using h0
 by_cases h8:l.length=8
 ·have O:Hid (wyT T 8 x=none):=hid (by rw[HW.out,h8,Fk (by rw[J.out];exact h0)];rfl);obtain⟨va,vc,j⟩:=zu G.out.own;rw[Wzy,WyV,h8] at j;subst j;have a8:=hid G.out.below;unfold sV at K D;clear G;go_wp2_with fail
  refine bodyPost_ret (results_tmp2 results85 _ _ _) rfl ⟨?_,a8.out⟩;unfold Xq;rw[O.out];rfl
 obtain⟨va,vc,j⟩:=zu G.out.own;rw[Wzy,WyV] at j;obtain⟨ln,L⟩:∃ n,l.length=n:=⟨_,rfl⟩;rw[L] at h8 ae hq j;subst j;have I:=hid L;have ah:ln<8:=by omega
 have ak:¬ ((ln:Int)+1 > 8):=by omega
 have O:Hid (wyT T 8 x=(wyT T (8-(l++[cur]).length) tg).map (l++[cur] ++ ·)):=hid (by
  rw[HW.out,I.out,Wzy,WyV,I.out,show 8-ln=(8-(ln+1))+1 by omega,qxz (by rw[J.out];exact h0),J.out];cases wyT T (8-(ln+1)) tg <;> simp)
 have a6:Hid (Bx eT 1 9 w (wr.alloc (.cells #[.string ⟨tg.toArray⟩] 9)) r (.slice va (ln+1) vc) (l++[cur])):=hid (G.out.alloc _);have ac:Hid ((l++[cur]).length + [tg].length<=1000000000):=hid (by simp;omega);unfold sV at K D;clear L G
 go_wp2_with (at_builtin;refine zy (enc:=eT) (k:=1) (d:=[]) rfl _ _ 98 9 zx4 info9 rfl (by decide) (by decide) (fun x v hv=>by simp only[eT,List.mem_singleton] at hv;subst hv;rfl) rfl r _ (l++[cur]) rfl a6.out (some ⟨wr.heap.size,0,none⟩) 1 [tg] rfl (x5 (enc:=eT) wr tg 9) (fun x _=>rfl) ac.out ?_;intro v3 w3 Q ad ag;have a7:=hid Q;clear Q ad ag)
 go_roundg (9-(ln+1));case measure=>omega
 case rel=>exact⟨l++[cur],tg,_,rfl,rfl,by rw[Wzy,WyV,I.out],by rw[Wzy,WyV,I.out];omega,Y,O,a7⟩
end Go.Proofs.YtdnphaganajejaaGreatDoor.K
