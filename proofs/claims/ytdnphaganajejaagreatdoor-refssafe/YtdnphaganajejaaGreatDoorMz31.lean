import Derived.Test.YtdnphaganajejaaGreatDoorMz29
import Derived.Test.YtdnphaganajejaaGreatDoorMz30
set_option linter.unusedSimpArgs false
set_option linter.unusedVariables false
set_option maxRecDepth 20000
set_option maxHeartbeats 4000000
open List renaming length_take->WzJ,map_append->Wxu,map_cons->WzK,map_nil->WzV,mem_append->Wqx,mem_cons->Wqj,mem_singleton->Wqk,nodup_cons->WxQ,size_toArray->Wyu
open Nat renaming le_refl->Wz8,le_trans->Wz9,lt_of_lt_of_le->Wq2
open Option renaming some->Wq8
namespace Go.Proofs.YtdnphaganajejaaGreatDoor.K
open Go.Proofs.Tryz
open Go.RowKit
theorem results37:f37.results=#[.tmp 2]:=by kernel_rfl
theorem results76:f76.results=#[.tmp 4]:=by kernel_rfl
theorem results35:f35.results=#[.tmp 4]:=by kernel_rfl
theorem results14:f14.results=#[.tmp 2]:=by kernel_rfl
theorem results5:f5.results=#[.tmp 2,.tmp 3]:=by kernel_rfl
theorem Az (w:World):Calls prog 37 #[sV pr] w fun e w'=>e=.returned (.bool false)/\w'=w:=by
 have A:=Nm.hasSuffix_any pr [46,110,101,119] (by decide) w;have D:=Nm.hasPrefix_any pr [114,101,102,115,47] w;have G:=Nm.hasPrefix_any pr [108,111,103,115,47] w;rw[show Lib.hasSuffix pr [46,110,101,119]=false by decide] at A;rw[show Lib.hasPrefix pr [114,101,102,115,47]=false by decide] at D;rw[show Lib.hasPrefix pr [108,111,103,115,47]=false by decide] at G;unfold sV
 unfold pr at A D G ⊢;go_enter func37,ntmps37;go_wp2_with (first
  | (go_at_call 78;refine A.mono ?_;rintro e w' ⟨rfl,j⟩;have h:=j.symm;subst h;clear j A)
  | (go_at_call 66;refine D.mono ?_;rintro e w' ⟨rfl,j⟩;have h:=j.symm;subst h;clear j D)
  | (go_at_call 66;refine G.mono ?_;rintro e w' ⟨rfl,j⟩;have h:=j.symm;subst h;clear j G))
 exact bodyPost_ret (results_tmp results37 _ _ _) rfl ⟨rfl,rfl⟩
theorem Aq (w:World):Calls prog 37 #[sV nw] w fun e w'=>e=.returned (.bool false)/\w'=w:=by
 have h:=Nm.hasSuffix_any nw [46,110,101,119] (by decide) w;rw[show Lib.hasSuffix nw [46,110,101,119]=true by decide] at h;unfold sV;unfold nw pr at h ⊢;go_enter func37,ntmps37;go_wp2_with (go_at_call 78;refine h.mono ?_;rintro e w' ⟨rfl,A⟩;have j:=A.symm;subst j;clear A h)
 exact bodyPost_ret (results_tmp results37 _ _ _) rfl ⟨rfl,rfl⟩
theorem M2 (x:Str) (hx:x=pr ∨ x=nw) (w:World):Calls prog 37 #[sV x] w fun e w'=>e=.returned (.bool false)/\w'=w:=by
 rcases hx with rfl | rfl
 ·exact Az w
 exact Aq w
theorem zvY (a:Option Addr) (c:Nat) (l:List Str) (w:World) (O:Px eT 1 [] w a c l) (Q:∀ y ∈ l,y=pr ∨ y=nw) (M:l.length<=1000) :
  Calls prog 76 #[.slice a l.length c,.func (.func 37) #[] #[]] w fun e w'=>e=.returned (.int .i64 (-1))/\w'=w:=by
 obtain⟨N,h⟩:=nm_ l.length;have hf:=fun x (hx:x=pr ∨ x=nw)=>M2 x hx w;have HP:=hid O;have Y:=hid Q;have Z:N<=1000:=by rw[<-h.out];exact M
 rw[h.out];clear O Q M;go_enter func76,ntmps76;go_wp2;go_loopg [8] N (fun q iv wr=>∃ i:Nat,iv=.int .i64 i/\q=N-i/\i<=N/\wr=w);case atStart=>exact⟨0,rfl,rfl,Nat.zero_le _,rfl⟩
 obtain⟨i,rfl,hq,a6,K⟩:=hrel;have G:=K.symm;subst G;by_cases A:i<N
 ·have D:(i:Int)<(N:Int):=by omega
  obtain⟨b,off,e1,_,L⟩:=HP.out.at_ (by rw[h.out];omega);subst e1;obtain⟨x,hx⟩:∃ x,l.getD i []=x:=⟨_,rfl⟩;have I:w.cell? ⟨b,off+i,none⟩=some (sV x):=by
   have:=L i (by rw[h.out];exact A) 0 _ rfl;rw[hx] at this;simpa using this
  have j:=hf x (by rw[<-hx];exact Y.out _ (zQ l i [] (by rw[h.out];exact A)));unfold sV at I j;clear hx;clear L;go_wp2_with (go_at_call 37;refine j.mono ?_;rintro e w' ⟨rfl,V⟩;have J:=V.symm;subst J;clear V)
  go_roundg (N-(i+1));case measure=>omega
  case rel=>exact⟨i+1,by go_num,rfl,by omega,rfl⟩
 have D:¬ (i:Int)<(N:Int):=by omega
 go_wp2;exact bodyPost_ret (results_tmp results76 _ _ _) rfl ⟨rfl,rfl⟩
theorem M3 (a:Option Addr) (c:Nat) (l:List Str) (w:World) (D:Px eT 1 [] w a c l) (G:∀ y ∈ l,y=pr ∨ y=nw) (A:l.length<=1000) :
  Calls prog 35 #[.slice a l.length c,.func (.func 37) #[] #[]] w fun e w'=>e=.returned (.bool false)/\w'=w:=by
 have h:=zvY a c l w D G A;obtain⟨N,J⟩:=nm_ l.length;rw[J.out] at h ⊢;clear D G A;go_enter func35,ntmps35;go_wp2_with (go_at_call 76;refine h.mono ?_;rintro e w' ⟨rfl,I⟩;have j:=I.symm;subst j;clear I)
 exact bodyPost_ret (results_tmp results35 _ _ _) rfl ⟨rfl,rfl⟩
theorem Iz (S:Nat->Prop) (N D:Nat) (q:Bool) (a:Ds) (w:World) (h:Dm S N w D q a) (M:N<=90000) :
  Calls prog 36 #[.pointer (some ⟨D,0,none⟩)] w fun e w'=>∃ (a:Option Addr) (n c:Nat),e=.returned (.slice a n c)/\Below w.heap.size w w'/\Calls prog 35 #[.slice a n c,.func (.func 37) #[] #[]] w' fun I w2=>I=.returned (.bool false)/\w2=w':=by
 obtain⟨G,L⟩:=id h;refine(zx5 S N D q a w h M).mono ?_;rintro e w' ⟨v,ss,rfl,A,Q,J,hb⟩;have j:∀ y ∈ ss,y=pr ∨ y=nw:=fun y hy=>L.two_now ((Q y).1 hy);have hlen:ss.length<=2:=by
  match ss,A,j with
  | [],_,_=>simp
  | [x],_,_=>simp
  | [x,y],_,_=>simp
  | x :: y :: z :: r,A,j =>
   exfalso;simp only[WxQ,Wqj,not_or] at A;obtain⟨⟨V,Y,_⟩,⟨Z,_⟩,_⟩:=A;rcases j x (by simp) with e1 | e1 <;> rcases j y (by simp) with I | I <;> rcases j z (by simp) with K | K <;> simp_all
 rw[<-jV] at J;obtain⟨a,c,rfl,O,_⟩:=uX (enc:=eT) (d:=[]) J (fun _ _=>rfl);exact⟨a,_,c,rfl,hb,M3 a c ss w' O j (by omega)⟩
theorem qqJ (S:Nat->Prop) (N D:Nat) (a:Ds) (f:Str) (w:World) (h:Dm S N w D true a) (G:Ra.ct a pr=some (nm f)) :
  Calls prog 33 #[.pointer (some ⟨D,0,none⟩),sV pr] w fun e w'=>∃ a c,e=.returned (.tuple #[.slice a f.length c,.nilIface])/\PB w' a c f/\(∀ p:Addr,a=some p->p.block<w'.heap.size)/\Below w.heap.size w w':=by
 refine(zx1 S N D a pr (nm f) w h Wq G).mono ?_;rintro e w' ⟨v,rfl,I,hb⟩;have hB:Bb w w' w.heap.size v f:=⟨hb,by rw[VY];exact I,hb.size⟩;obtain⟨a,c,rfl,A,J⟩:=zvx hB;exact⟨a,c,rfl,A,fun p j=>(J p j).2,hb⟩
theorem zu0 (S:Nat->Prop) (N D:Nat) (a:Ds) (w:World) (h:Dm S N w D true a) (j:Ra.ct a pr=none) :
  Calls prog 33 #[.pointer (some ⟨D,0,none⟩),sV pr] w fun e w'=>∃ b,e=.returned (.tuple #[.slice none 0 0,.iface 175 (.pointer (some ⟨b,0,none⟩))])/\w'.cell? ⟨b,1,none⟩=some (.int .i64 3)/\Below w.heap.size w w':=by
 have G:a.now pr=none:=by
  cases hB:a.now pr with
  | none=>rfl
  | some B =>
   have hd:=h.wf.dom a.mvs.length pr B (by rw[h.wf.full];exact hB);obtain⟨c,hc⟩:=hd;unfold Ra.ct at j;rw[hB] at j;simp[hc] at j
 refine(OY S N D a pr w h Wq G).mono ?_;rintro e w' ⟨b,rfl,A,hb⟩;exact⟨b,rfl,A.c1,hb⟩
structure Rp (w:World) (R D:Nat):Prop where
 box:w.heap[R]? = some (.cells #[.pointer (some ⟨D,0,none⟩),.map none,.bool false,.bool false] 58 (0,0))
theorem Rp.c {w:World} {R D:Nat} (h:Rp w R D):w.cell? ⟨R,0,none⟩=some (.pointer (some ⟨D,0,none⟩))/\w.cell? ⟨R,1,none⟩=some (.map none)/\w.cell? ⟨R,2,none⟩=some (.bool false)/\(∀ i,w.frozen? ⟨R,i,none⟩=false):=by
 have hb:=h.box;exact⟨by simp[World.cell?,hb],by simp[World.cell?,hb],by simp[World.cell?,hb],fun i=>by simp[World.frozen?,hb]⟩
theorem Rp.put {w:World} {R D:Nat} (h:Rp w R D) (t:Nat):Rf (w.setCell ⟨R,1,none⟩ (.map (some t))) R D t false false:=⟨by rw[zV h.box];rfl⟩
abbrev SrE (S:Nat->Prop) (R:Nat) (E:Nat->Prop):Nat->Prop:=fun i=>Sr S R i ∨ E i
def Opn (S E:Nat->Prop) (N D R:Nat) (a:Ds) (go:Bool) (m:Rk.Tb Str Kp Le) (k:Nat) (w w':World):Prop:=Dm S N w' D true a/\∃ t T,Rf w' R D t go false/\Tt (SrE S R E) w' t k T/\aT T=m/\Al (Sr S R) w w'
theorem J3 (S E:Nat->Prop) (N D R:Nat) (a:Ds) (w W:World) (h:Dm S N w D true a) (Q:Rp w R D) (hb:Below w.heap.size w W) :
  Rp W R D/\∀ t k T,Tt (SrE S R E) W t k T->Opn S E N D R a false (aT T) k w (W.setCell ⟨R,1,none⟩ (.map (some t)))/\(W.setCell ⟨R,1,none⟩ (.map (some t))).frozen? ⟨R,2,none⟩=false/\(W.setCell ⟨R,1,none⟩ (.map (some t))).cell? ⟨R,2,none⟩=some (.bool false)/\∀ b,Opn S E N D R a b (aT T) k w ((W.setCell ⟨R,1,none⟩ (.map (some t))).setCell ⟨R,2,none⟩ (.bool b)):=by
 have G:Rp W R D:=⟨(hb.block R (z7 Q.box)).trans Q.box⟩;refine⟨G,fun t k T O=>?_⟩;obtain⟨A,j⟩:∃ A,W.setCell ⟨R,1,none⟩ (.map (some t))=A:=⟨_,rfl⟩;have I:Rf A R D t false false:=by rw[<-j];exact G.put t
 have K:Dm S N A D true a:=by rw[<-j];exact(h.below hb).tf (Tf.set (p:=⟨R,1,none⟩) G.box _) (by simp[World.setCell]) (by decide)
 have J:Al (Sr S R) W A:=by rw[<-j];exact Al.of_set (S:=Sr S R) (p:=⟨R,1,none⟩) (.inr rfl) _
 have L:Al (Sr S R) w A:=(Al.below hb).trans J (fun i hi=>.inl hi);rw[j];refine⟨⟨K,t,T,I,O.al (J.mono fun i hi=>.inl hi),rfl,L⟩,I.c.2.2.2.2 2,I.c.2.2.1,fun b=>?_⟩;have M:Al (Sr S R) A (A.setCell ⟨R,2,none⟩ (.bool b)):=Al.of_set (S:=Sr S R) (p:=⟨R,2,none⟩) (.inr rfl) _
 exact⟨K.tf (Tf.set (p:=⟨R,2,none⟩) I.box _) (by simp[World.setCell]) (by decide),t,T,I.set2 b,(O.al (J.mono fun i hi=>.inl hi)).al (M.mono fun i hi=>.inl hi),rfl,L.trans M (fun i hi=>.inl hi)⟩
theorem Ax (S E:Nat->Prop) (N D R:Nat) (a:Ds) (w:World) (h:Dm S N w D true a) (hz:Ra.ct a pr=none) (hp:Rp w R D) (hS:∀ i,SrE S R E i->i<w.heap.size) (hN:N<=90000) :
  Calls prog 14 #[.pointer (some ⟨R,0,none⟩)] w fun e w'=>e=.returned .nilIface/\Opn S E N D R a false noT 0 w w':=by
 obtain⟨r,HR⟩:=nm_ w.heap.size;have J:=zu0 S N D a w h hz;have HO:Hid (∀ W,Below r w W->Rp W R D/\Dm S N W D true a/\(W.alloc (.map #[] 0)).frozen? ⟨R,1,none⟩=false/\(W.alloc (.map #[] 0)).cell? ⟨R,1,none⟩=some (.map none)/\Opn S E N D R a false noT 0 w ((W.alloc (.map #[] 0)).setCell ⟨R,1,none⟩ (.map (some W.heap.size)))):=fun W hW=>by
  have j:Below w.heap.size w W:=by rw[HR.out];exact hW
  have ha:Below w.heap.size w (W.alloc (.map #[] 0)):=j.trans ((Below.refl _ W).alloc j.size _);obtain⟨q1,q2⟩:=J3 S E N D R a w _ h hp ha;have hT:=(To.none (S:=SrE S R E) (w:=W) (fun i hi=>Wq2 (hS i hi) j.size)).tt;exact⟨(J3 S E N D R a w W h hp j).1,h.below j,q1.c.2.2.2 1,q1.c.2.1,(q2 _ _ _ hT).1⟩
 have Y:∀ W:World,(Instr.makeMap 56 none).run prog W=.ok (.map (some W.heap.size)) (W.alloc (.map #[] 0)):=fun W=>by kernel_rfl
 have h0:=hp.c.1;unfold sV pr at J;clear h hp hS;go_enter func14,ntmps14;go_wp2_with (first
  | (go_at_call 33;refine J.mono ?_;rintro e w1 ⟨b,rfl,kb,A⟩;rw[HR.out] at A;obtain⟨p1,f1,_⟩:=HO.out w1 A;have a7:=p1.c.1;have Q:=Fu b w1 kb;have V:=Iz S N D true a w1 f1 hN;have L:=hid A;clear kb J p1 f1 A)
  | (go_at_call 34;refine Q.mono ?_;rintro e w' ⟨rfl,Z⟩;have K:=Z.symm;subst K;clear Z Q)
  | (go_at_call 36;refine V.mono ?_;rintro e w2 ⟨a,n,c,rfl,M,O⟩;have G:Below r w w2:=L.out.trans (M.mono (by have:=L.out.size;have:=HR.out;omega));obtain⟨_,_,z1,z2,z3⟩:=HO.out w2 G;have Z3:=hid z3;have I:=Y w2;have a6:=hid (And.intro z1 z2);generalize w2.alloc (.map #[] 0)=w3 at I z1 z2 z3 Z3 a6;generalize w2.heap.size=g3 at I Z3 z3;clear z3 V M G Y)
  | (go_at_call 35;refine O.mono ?_;rintro e w' ⟨rfl,Z⟩;have K:=Z.symm;subst K;clear Z O)
  | (refine z8 rfl _ (WQ rfl I) ?_;go_frame))
 exact bodyPost_ret (results_tmp results14 _ _ _) rfl ⟨rfl,Z3.out⟩
theorem Aj (S E:Nat->Prop) (N D R:Nat) (a0:Ds) (bs:List (List Sp)) (A:Str) (w:World) (h:Dm S N w D true a0) (hz:Ra.ct a0 pr=some (nm (fB bs++A))) (ai:zvK A) (V:Rp w R D) (hS:∀ i,SrE S R E i->i<w.heap.size) (hN:N<=90000) (am:bs ≠ []) (ag:∀ ss ∈ bs,∀ s ∈ ss,StC s) (hg:StG noT (bs.flatten.map cnS)) (hn:bs.flatten.length<=70000) (hl:(fB bs).length<=250000000) (M:Can (stF noT (bs.flatten.map cnS))) (ht:Tab w) (ac:Ers w) (ae:Mx w) (a7:Db w) (a8:Ec w) :
  Calls prog 14 #[.pointer (some ⟨R,0,none⟩)] w fun e w'=>e=.returned .nilIface/\Opn S E N D R a0 (decide (A=[])) (stF noT (bs.flatten.map cnS)) bs.flatten.length w w':=by
 obtain⟨r,HR⟩:=nm_ w.heap.size;have J:=qqJ S N D a0 (fB bs++A) w h hz;have HO:Hid (∀ W,Below r w W->Rp W R D/\Dm S N W D true a0):=fun W hW=>by
  have j:Below w.heap.size w W:=by rw[HR.out];exact hW
  exact⟨(J3 S E N D R a0 w W h V j).1,h.below j⟩
 have O:Hid (∀ W a c,Below r w W->PB W a c (fB bs++A)->(∀ p:Addr,a=some p->p.block<W.heap.size)->Calls prog 38 #[.slice a (fB bs++A).length c] W fun e w'=>∃ t,e=.returned (.tuple #[.map (some t),.bool (decide (A=[])),.nilIface])/\w'.frozen? ⟨R,1,none⟩=false/\w'.cell? ⟨R,1,none⟩=some (.map none)/\(w'.setCell ⟨R,1,none⟩ (.map (some t))).frozen? ⟨R,2,none⟩=false/\(w'.setCell ⟨R,1,none⟩ (.map (some t))).cell? ⟨R,2,none⟩=some (.bool false)/\Opn S E N D R a0 (decide (A=[])) (stF noT (bs.flatten.map cnS)) bs.flatten.length w ((w'.setCell ⟨R,1,none⟩ (.map (some t))).setCell ⟨R,2,none⟩ (.bool (decide (A=[]))))):=fun W a c hW hP ao=>by
  have j:Below w.heap.size w W:=by rw[HR.out];exact hW
  refine(WX (SrE S R E) a c bs A W (fun i hi=>Wq2 (hS i hi) j.size) ai hP ao am ag hg hn hl M (ht.below j) (ac.below j) (ae.below j) (a7.below j) (a8.below j)).mono ?_;rintro e w' ⟨t,T,rfl,aj,hA,hb⟩;obtain⟨q1,q2⟩:=J3 S E N D R a0 w w' h V (j.trans (hb.mono j.size));obtain⟨_,q4,q5,q6⟩:=q2 _ _ _ aj.tt
  have q7:=q6 (decide (A=[]));rw[hA] at q7;exact⟨t,rfl,q1.c.2.2.2 1,q1.c.2.1,q4,q5,q7⟩
 have h0:=V.c.1;obtain⟨L,hL⟩:∃ L,(fB bs++A).length=L:=⟨_,rfl⟩;unfold sV pr at J;obtain⟨bt,Z⟩:∃ b,decide (A=[])=b:=⟨_,rfl⟩;rw[hL] at J O;rw[Z] at O ⊢;have ak:=fun W=>Rj 32 (.int .i64 3) W;clear h V hS ag hg M ht ac ae a7 a8 hL hl hz ai Z;go_enter func14,ntmps14;go_wp2_with (first
  | (go_at_call 33;refine J.mono ?_;rintro e w1 ⟨a,c,rfl,kP,kp,I⟩;rw[HR.out] at I;obtain⟨p1,f1⟩:=HO.out w1 I;have ap:=p1.c.1;have ad:=Iz S N D true a0 w1 f1 hN;have Y:=hid I;have KP:=hid kP;have Kp:=hid kp;clear J p1 f1 I kP kp)
  | (go_at_call 34;refine(ak _).mono ?_;rintro e w' ⟨rfl,hw⟩;have Q:=hw.symm;subst Q;clear hw)
  | (go_at_call 36;refine ad.mono ?_;rintro e w2 ⟨a',n',c',rfl,G,a6⟩;have K:Below r w w2:=Y.out.trans (G.mono (by have:=Y.out.size;have:=HR.out;omega));have ah:=O.out w2 a c K (KP.out.tf (fun q hq=>G.block _ (Kp.out q hq)) G.size) (fun p V=>Wq2 (Kp.out p V) G.size);clear ad G K)
  | (go_at_call 35;refine a6.mono ?_;rintro e w' ⟨rfl,hw⟩;have Q:=hw.symm;subst Q;clear hw a6)
  | (go_at_call 38;refine ah.mono ?_;rintro e w3 ⟨t,rfl,z1,z2,z3,z4,z5⟩;have Z5:=hid z5;clear z5 ah))
 exact bodyPost_ret (results_tmp results14 _ _ _) rfl ⟨rfl,Z5.out⟩
theorem results22:f22.results=#[.tmp 6]:=by kernel_rfl
theorem results24:f24.results=#[.tmp 2]:=by kernel_rfl
theorem results25:f25.results=#[.tmp 6]:=by kernel_rfl
structure Fq where
 q:Bool
 f:Option Str
 go:Bool
structure Pw (S XE:Nat->Prop) (N D R:Nat) (w:World) (f:Fq) (t n:Nat) (T:Ts):Prop where
 dm:∃ a,Dm S N w D f.q a/\Ra.Old pr nw (f.f.map nm) a
 rf:Rf w R D t f.go false
 nS:¬ S R
 lim:∀ i,SrE S R XE i->i<w.heap.size
 tt:Tt (SrE S R XE) w t n T
 gf:f.go=true->f.f ≠ none
theorem Pw.below {S XE:Nat->Prop} {N D R:Nat} {w W:World} {f:Fq} {t n:Nat} {T:Ts} (h:Pw S XE N D R w f t n T) (hb:Below w.heap.size w W):Pw S XE N D R W f t n T :=
 ⟨by obtain⟨a,j,A⟩:=h.dm;exact⟨a,j.below hb,A⟩,⟨(hb.block R (z7 h.rf.box)).trans h.rf.box⟩,h.nS,fun i hi=>Wq2 (h.lim i hi) hb.size,h.tt.below hb,h.gf⟩
structure Pv (S XE:Nat->Prop) (N D R:Nat) (w:World) (q:Bool) (o z:Option Str) (go un:Bool) (t n:Nat) (T:Ts):Prop where
 dm:∃ a,Dm S N w D q a/\Ra.Hs pr (o.map nm) (z.map nm) a
 rf:Rf w R D t go un
 nS:¬ S R
 lim:∀ i,SrE S R XE i->i<w.heap.size
 tt:Tt (SrE S R XE) w t n T
theorem Pv.below {S XE:Nat->Prop} {N D R:Nat} {w W:World} {q:Bool} {o z:Option Str} {go un:Bool} {t n:Nat} {T:Ts} (h:Pv S XE N D R w q o z go un t n T) (hb:Below w.heap.size w W):Pv S XE N D R W q o z go un t n T :=
 ⟨by obtain⟨a,j,A⟩:=h.dm;exact⟨a,j.below hb,A⟩,⟨(hb.block R (z7 h.rf.box)).trans h.rf.box⟩,h.nS,fun i hi=>Wq2 (h.lim i hi) hb.size,h.tt.below hb⟩
theorem Pw.v {S XE:Nat->Prop} {N D R:Nat} {w:World} {f:Fq} {t n:Nat} {T:Ts} (h:Pw S XE N D R w f t n T):Pv S XE N D R w f.q f.f f.f f.go false t n T :=
 ⟨by obtain⟨a,j,A⟩:=h.dm;exact⟨a,j,A.hs⟩,h.rf,h.nS,h.lim,h.tt⟩
theorem Pv.more {S XE:Nat->Prop} {N N' D R:Nat} {w:World} {q:Bool} {o z:Option Str} {go un:Bool} {t n:Nat} {T:Ts} (h:Pv S XE N D R w q o z go un t n T) (G:N<=N'):Pv S XE N' D R w q o z go un t n T :=
 ⟨by obtain⟨a,j,A⟩:=h.dm;exact⟨a,j.mono (fun i hi=>hi) G,A⟩,h.rf,h.nS,h.lim,h.tt⟩
structure Gr (S S':Nat->Prop) (R:Nat) (w w':World):Prop where
 up:∀ i,S i->S' i
 new:∀ i,S' i->S i ∨ w.heap.size<=i
 al:Al (Sr S R) w w'
def NewT (n:Nat) (fs:Ts->Str->Prop) (m:Rk.Tb Str Kp Le) (z:Option Str) (go:Bool) (n':Nat) (T':Ts):Prop := ∃ f,z=some f/\fs T' f/\go=true/\n'=n/\aT T'=m
def kY (S XE:Nat->Prop) (N D R:Nat) (f:Fq) (n0:Nat) (T0:Ts) (n:Nat) (fs:Ts->Str->Prop) (m:Rk.Tb Str Kp Le) (w:World) (e:Ending) (w':World):Prop := ∃ v S' o z go un t' n' T',e=.returned v/\Pv S' XE (N+14) D R w' f.q o z go un t' n' T'/\Gr S S' R w w'/\
 ((v=.nilIface/\o=z/\un=false/\NewT n fs m z go n' T') ∨ ((∃ b k,v=eV b/\Er b k w'/\((k=1/\f.q=false) ∨ k=2))/\o=f.f/\(NewT n fs m z go n' T' ∨ (z=f.f/\go=f.go/\un=false/\n'=n0/\aT T'=aT T0))))
theorem kY.ret {S XE:Nat->Prop} {N D R n0 n:Nat} {f:Fq} {j:Ts} {fs:Ts->Str->Prop} {m:Rk.Tb Str Kp Le} {w w':World} {e:Ending} (h:kY S XE N D R f n0 j n fs m w e w'):∃ v,e=.returned v:=by
 obtain⟨v,_,_,_,_,_,_,_,_,h,_⟩:=h;exact⟨v,h⟩
theorem zu1 {S XE:Nat->Prop} {N D R t n:Nat} {w w1 w':World} {o z:Option Str} {go un q:Bool} {a:Ds} {T:Ts} (j:∀ i,SrE S R XE i->i<w.heap.size) (hb:Below w.heap.size w w1) (A:Tt (SrE S R XE) w1 t n T) (h:Rb S N w1 w' D R t go un q a) (G:Ra.Hs pr (o.map nm) (z.map nm) a):Pv (Sx S w1 w') XE N D R w' q o z go un t n T/\Gr S (Sx S w1 w') R w w':=by
 have I:=hb.size;have J:=h.al.size;refine⟨⟨⟨a,h.dm,G⟩,h.rf,h.nx,?_,?_⟩,fun i hi=>.inl hi,fun i hi=>?_,(Al.below hb).trans h.al (fun i hi=>.inl hi)⟩
 ·rintro i (((hi | hi) | hi) | hi)
  ·have:=j i (.inl (.inl hi));omega
  ·exact hi.2
  ·have:=h.lt;omega
  have:=j i (.inr hi);omega
 ·refine(A.to (S':=SrE (Sx S w1 w') R XE) ?_).al (h.al.mono ?_)
  ·rintro i (((hi | hi) | hi) | hi)
   ·exact .inl (.inl (.inl hi))
   ·exact .inr hi.1
   ·exact .inl (.inl (.inr hi))
   exact .inl (.inr hi)
  rintro i (hi | hi)
  ·exact .inl (.inl (.inl hi))
  exact .inl (.inr hi)
 rcases hi with hi | hi
 ·exact .inl hi
 exact .inr (by omega)
theorem Yv {S XE:Nat->Prop} {N D R t n M L:Nat} {f:Fq} {fs:Ts->Str->Prop} {T G:Ts} {w w1:World} {e:Ending} {w':World} (h0:Pw S XE N D R w f t n T) (hb:Below w.heap.size w w1) (K:Tt (SrE S R XE) w1 M L G) (h:jx S (N+14) w1 D R t M f.go f.q (f.f.map nm) (fs G) e w'):kY S XE N D R f n T L fs (aT G) w e w':=by
 obtain⟨v,V,rfl,h⟩:=h;rcases h with ⟨b,un,g,rfl,I,Q,J,j,hr⟩ | ⟨b,k,rfl,I,O,j,hr⟩ | ⟨g,rfl,J,j,hr⟩
 ·obtain⟨k1,A⟩:=zu1 (o:=f.f) (z:=some g) h0.lim hb K hr j;exact⟨_,_,_,_,_,_,_,_,_,rfl,k1,A,.inr ⟨⟨b,1,rfl,I,.inl ⟨rfl,Q⟩⟩,rfl,.inl ⟨g,rfl,J,rfl,rfl,rfl⟩⟩⟩
 ·obtain⟨k1,A⟩:=zu1 (o:=f.f) (z:=f.f) h0.lim hb (h0.tt.below hb) hr j;exact⟨_,_,_,_,_,_,_,_,_,rfl,k1,A,.inr ⟨⟨b,k,rfl,I,O⟩,rfl,.inr ⟨rfl,rfl,rfl,rfl,rfl⟩⟩⟩
 obtain⟨k1,A⟩:=zu1 (o:=some g) (z:=some g) h0.lim hb K hr j;exact⟨_,_,_,_,_,_,_,_,_,rfl,k1,A,.inl ⟨rfl,rfl,rfl,g,rfl,J,rfl,rfl,rfl⟩⟩
structure Few (T:Ts):Prop where
 ok:∀ ss,Nms T ss->(∀ s ∈ stN T ss,StL s)/\(wrL (stN T ss)).length<=280000000/\(stN T ss).length<=1000000
def FsA (f:Fq) (ss:List Sp) (T:Ts) (f':Str):Prop:=if f.go=true then ∃ f0,f.f=some f0/\f'=f0++bkS (wrL ss) else Yk T f'
theorem V7 (S XE:Nat->Prop) (N D R:Nat) (w w1:World) (f:Fq) (t n K J:Nat) (T A:Ts) (a:Option Addr) (c:Nat) (ss:List Sp) (h:Pw S XE N D R w f t n T) (hb:Below w.heap.size w w1) (L:Tt (SrE S R XE) w1 K J A) (Y:N<=70000) (hn:J<=100000) (hF:Few A)
  (hP:Px zJ 68 dS w1 a c ss) (O:∀ s ∈ ss,StL s) (hl:(wrL ss).length<=280000000) (M:ss.length<=1000000) (Z:Tab w1) (G:Db w1) :
  Calls prog 52 #[.pointer (some ⟨R,0,none⟩),.slice a ss.length c,.map (some K)] w1 (kY S XE N D R f n T J (FsA f ss) (aT A) w):=by
 have j:=h.below hb;have I:∀ i,S i->i<w1.heap.size:=fun i hi=>j.lim i (.inl (.inl hi));obtain⟨a0,d1,d2⟩:=j.dm;obtain⟨q,V,go⟩:=f;cases go with
 | false =>
  refine(qqX S N D R t K J q _ a0 A _ w1 d1 d2 j.rf j.nS I Y (L.to fun i hi=>.inl (.inl hi)) hn hF.ok Z G).mono fun e w' Q=>?_;exact Yv (fs:=FsA ⟨q,V,false⟩ ss) h hb L (by unfold FsA;simpa using Q)
 | true =>
  cases V with
  | none=>exact absurd rfl (h.gf rfl)
  | some f0 =>
   refine(zvW S N D R t K q f0 a0 a c ss w1 d1 d2 j.rf j.nS I Y hP O hl M Z G).mono fun e w' Q=>?_;refine Yv (fs:=FsA ⟨q,some f0,true⟩ ss) h hb L ?_;have:FsA ⟨q,some f0,true⟩ ss A=fun f'=>f'=f0++bkS (wrL ss):=by
    funext f';unfold FsA;simp
   rw[this];exact Q
theorem Iq (S XE:Nat->Prop) (N D R:Nat) (w w1:World) (f:Fq) (t n J G:Nat) (T j:Ts) (h:Pw S XE N D R w f t n T) (hb:Below w.heap.size w w1) (K:Tt (SrE S R XE) w1 J G j) (M:N<=70000) (O:G<=100000) (L:Few j) (Q:Tab w1) (I:Db w1) :
  Calls prog 61 #[.pointer (some ⟨R,0,none⟩),.map (some J)] w1 (kY S XE N D R f n T G Yk (aT j) w):=by
 have A:=h.below hb;obtain⟨a0,d1,d2⟩:=A.dm;exact(M1 S N D R t J G f.go f.q _ a0 j w1 d1 d2 A.rf A.nS (fun i hi=>A.lim i (.inl (.inl hi))) M (K.to fun i hi=>.inl (.inl hi)) O L.ok Q I).mono fun e w' V=>Yv h hb K V
theorem zu2 (S XE:Nat->Prop) (N D R:Nat) (w:World) (f:Fq) (t n:Nat) (T:Ts) (h:Pw S XE N D R w f t n T) (G:N<=70000) (J:n<=100000) (A:Few T) (L:Tab w) (j:Db w) :
  Calls prog 24 #[.pointer (some ⟨R,0,none⟩)] w (kY S XE N D R f n T n Yk (aT T) w):=by
 have I:=Iq S XE N D R w w f t n t n T T h (Below.refl _ _) h.tt G J A L j;have M:=h.rf.c.2.1;clear h A;go_enter func24,ntmps24;go_wp2_with (go_at_call 61;refine I.mono ?_;rintro e w1 k;obtain⟨v,rfl⟩:=k.ret;have K:=hid k;clear k)
 exact bodyPost_ret (results_tmp results24 _ _ _) rfl K.out
def Gu (k:Int) (w:World) (e:Ending) (w':World):Prop:=e=.returned (.iface 32 (.int .i64 k))/\Below w.heap.size w w'
theorem bdL3 (X T:ByteArray) (w:World):(Instr.build 146 #[(0,.string ⟨#[108,105,110,107]⟩),(1,.string X),(3,.string T)]).run prog w=.ok (.agg (.string ⟨#[108,105,110,107]⟩ :: .string X :: (row .u8 zZ++(.string T :: qw zL))).toArray) w:=by kernel_rfl
def lkS (x y:Str):Sp:=⟨wL,x,zZ,y,zL⟩
def jv (S XE:Nat->Prop) (N D R:Nat) (f:Fq) (n:Nat) (T:Ts) (x y:Str) (w:World) (e:Ending) (w':World):Prop :=
 (¬ (isN x=true/\isN y=true)/\Gu 60 w e w') ∨ ((isN x=true/\isN y=true)/\((x=y/\Gu 64 w e w') ∨ (x ≠ y/\((clA (fun z=>(stF (aT T) [lkS x y] z).isSome)/\Gu 63 w e w') ∨ (¬ clA (fun z=>(stF (aT T) [lkS x y] z).isSome)/\kY S XE N D R f n T (n+1) (FsA f [lkS x y]) (stF (aT T) [lkS x y]) w e w')))))
theorem Ak {x:Str} (h:isN x=true):∀ b ∈ x,b<128:=fun b hb=>by
 have:=(jJ h b hb).2;rw[UInt8.lt_iff_toNat_lt];show b.toNat<128;omega
theorem tk_ne (m:Rk.Tb Str Kp Le) (s:Rk.St Str Kp Le) (z:Str) (h:z ≠ s.1):Rk.tk m s z=m z:=by
 obtain⟨x,k | ⟨_⟩ | e⟩:=s
 ·simp only at h;simp[Rk.tk,Rk.putT,h]
 ·simp only at h;simp[Rk.tk,Rk.delT,h]
 simp only at h;simp[Rk.tk,Rk.logT,h]
theorem qxZ (T:Ts):dT T=fun z=>(aT T z).isSome:=by funext x;unfold aT dT;cases T x <;> rfl
theorem zu3 (S XE:Nat->Prop) (N D R:Nat) (w:World) (f:Fq) (t n:Nat) (T:Ts) (x y:Str) (h:Pw S XE N D R w f t n T) (hN:N<=70000) (hn:n<=70000) (hF:∀ T',aT T'=stF (aT T) [lkS x y]->Few T') (ha:∀ z,(aT T z).isSome=true->∀ b ∈ z,b<128) (ht:Tab w) (ay:Db w) (ai:Mx w) :
  Calls prog 22 #[.pointer (some ⟨R,0,none⟩),sV x,sV y] w (jv S XE N D R f n T x y w):=by
 obtain⟨r,HR⟩:=nm_ w.heap.size;have j:=x6 x w ai;have A:=fun W (O:Below r w W)=>x6 y W (ai.below (by rw[HR.out];exact O));rw[HR.out] at j;by_cases hx:isN x=true;rotate_left
 ·have aE:isN x=false:=by simpa using hx
  rw[aE] at j;have HE:Hid (∀ W,Below r w W->jv S XE N D R f n T x y w (.returned (.iface 32 (.int .i64 60))) W):=fun W O=>.inl ⟨fun hh=>hx hh.1,rfl,by rw[HR.out];exact O⟩;unfold sV at j ⊢;clear h hF ha A;go_enter func22,ntmps22;go_wp2_with (go_at_call 60;refine j.mono ?_;rintro e w1 ⟨rfl,hb⟩;have M:=hid hb;clear hb j)
  exact bodyPost_ret (results_tmp results22 _ _ _) rfl (HE.out _ M.out)
 rw[hx] at j;by_cases hy:isN y=true;rotate_left
 ·have aF:isN y=false:=by simpa using hy
  rw[aF] at A;have HE:Hid (∀ W,Below r w W->jv S XE N D R f n T x y w (.returned (.iface 32 (.int .i64 60))) W):=fun W O=>.inl ⟨fun hh=>hy hh.2,rfl,by rw[HR.out];exact O⟩;unfold sV at j A ⊢;clear h hF ha;go_enter func22,ntmps22;go_wp2_with (first
   | (go_at_call 60;refine j.mono ?_;rintro e w1 ⟨rfl,hb⟩;have M:=hid hb;have G:=A w1 hb;clear hb j A)
   | (go_at_call 60;refine G.mono ?_;rintro e w2 ⟨rfl,hb⟩;have B2:Hid (Below r w w2):=hid (M.out.trans (hb.mono (by have:=M.out.size;have:=HR.out;omega)));clear hb G))
  exact bodyPost_ret (results_tmp results22 _ _ _) rfl (HE.out _ B2.out)
 rw[hy] at A;by_cases Z:x=y
 ·subst Z;have HE:Hid (∀ W,Below r w W->jv S XE N D R f n T x x w (.returned (.iface 32 (.int .i64 64))) W):=fun W O=>.inr ⟨⟨hx,hx⟩,.inl ⟨rfl,rfl,by rw[HR.out];exact O⟩⟩;unfold sV at j A ⊢;clear h hF ha;go_enter func22,ntmps22;go_wp2_with (first
   | (go_at_call 60;refine j.mono ?_;rintro e w1 ⟨rfl,hb⟩;have M:=hid hb;have G:=A w1 hb;clear hb j A)
   | (go_at_call 60;refine G.mono ?_;rintro e w2 ⟨rfl,hb⟩;have B2:Hid (Below r w w2):=hid (M.out.trans (hb.mono (by have:=M.out.size;have:=HR.out;omega)));clear hb G))
  exact bodyPost_ret (results_tmp results22 _ _ _) rfl (HE.out _ B2.out)
 have aA:(x == y)=false:=by simpa using Z
 obtain⟨X,HX⟩:=nm_ (⟨x.toArray⟩:ByteArray);obtain⟨Y,HY⟩:=nm_ (⟨y.toArray⟩:ByteArray);have V:vV (lkS x y):=⟨yz.1,yz,qX hx,qX hy⟩;have aB:StL (lkS x y):=⟨V,.inr (.inl rfl)⟩;obtain⟨E,hE⟩:∃ E,zJ (lkS x y)=E:=⟨_,rfl⟩
 have ao:Hid (∀ W:World,(Instr.build 146 #[(0,.string ⟨#[108,105,110,107]⟩),(1,.string X),(3,.string Y)]).run prog W=.ok (.agg E.toArray) W):=fun W=>by rw[<-hE,<-HX.out,<-HY.out];exact bdL3 _ _ W
 have ap:Hid (∀ W:World,(Instr.buildSlice 126 1 #[(0,.agg E.toArray)]).run prog W=.ok (.slice (some ⟨W.heap.size,0,none⟩) 1 1) (W.alloc (.cells E.toArray 146))):=fun W=>by rw[<-hE];exact j4 _ V W
 have aD:(wrL [lkS x y]).length<=280000000:=by
  have:=kW [lkS x y] (fun s hs=>by rw[Wqk.1 hs];exact⟨hx,yz.1,yz,qX hy,.inr (.inl ⟨rfl,hy⟩)⟩);simp only[List.length_singleton] at this;omega
 have ar:Hid (∀ W,Below r w W->∃ g,W.heap.size=g/\∃ W1,W.alloc (.cells E.toArray 146)=W1/\Below r w W1/\W1.cell? ⟨R,1,none⟩=some (.map (some t))/\Calls prog 49 #[.map (some t),.slice (some ⟨g,0,none⟩) 1 1] W1 fun e2 W2=>∃ t',e2=.returned (.map (some t'))/\Calls prog 50 #[.map (some t')] W2 fun e3 W3=>∃ b:Bool,e3=.returned (.bool b)/\(b=true->jv S XE N D R f n T x y w (.returned (.iface 32 (.int .i64 63))) W3)/\(b=false->Calls prog 52 #[.pointer (some ⟨R,0,none⟩),.slice (some ⟨g,0,none⟩) 1 1,.map (some t')] W3 (jv S XE N D R f n T x y w))):=fun W O=>by
  refine⟨_,rfl,_,rfl,?_⟩;have aw:r<=W.heap.size:=by have:=O.size;have:=HR.out;omega
  have Q:Below r w (W.alloc (.cells E.toArray 146)):=O.alloc aw _;have J:Below w.heap.size w (W.alloc (.cells E.toArray 146)):=by rw[HR.out];exact Q
  have h1:=h.below J;have hP:Px zJ 68 dS (W.alloc (.cells E.toArray 146)) (some ⟨W.heap.size,0,none⟩) 1 [lkS x y]:=by
   have:=x5 (enc:=zJ) (d:=dS) W (lkS x y) 146;rw[qx V,hE] at this;exact this
  refine⟨Q,h1.rf.c.2.1,?_⟩;refine(Xw (SrE S R XE) t n T _ 1 [lkS x y] _ h1.tt h1.lim hP ⟨V,.inl (.inr (.inl rfl)),trivial⟩ (by simp;omega)).mono ?_;rintro e2 W2 ⟨t',T',rfl,ae,hA,L⟩;refine⟨t',rfl,?_⟩;have a6:Below w.heap.size w W2:=J.trans (L.mono J.size);refine(Yz (SrE S R XE) t' _ T' W2 ae.tt (fun z q hq=>?_)).mono ?_
  ·have hz:(aT T' z).isSome=true:=(by unfold aT;rw[hq];rfl);rw[hA] at hz;unfold stF at hz;simp only[WzK,WzV,List.foldl_cons,List.foldl_nil] at hz;by_cases aj:z=x
   ·subst aj;exact fun b hb=>Ak hx b hb
   refine ha z ?_;rw[tk_ne _ _ _ (by simpa [sP,lkS] using aj)] at hz;exact hz
  rintro e3 W3 ⟨b,rfl,a8,a7⟩;have I:Below w.heap.size w W3:=a6.trans (a7.mono a6.size);rw[qxZ,hA] at a8;refine⟨b,rfl,fun Q=>?_,fun ah=>?_⟩
  ·exact .inr ⟨⟨hx,hy⟩,.inr ⟨Z,.inl ⟨a8.1 Q,rfl,I⟩⟩⟩
  refine(V7 S XE N D R w W3 f t n t' _ T T' _ 1 [lkS x y] h I (ae.tt.below a7) hN (by simp;omega) (hF T' hA) ((hP.below L).below a7) (fun s hs=>by rw[Wqk.1 hs];exact aB) aD (by simp) (ht.below I) (ay.below I)).mono ?_;intro e4 W4 h4;rw[hA] at h4;exact .inr ⟨⟨hx,hy⟩,.inr ⟨Z,.inr ⟨fun ax=>(by rw[a8.2 ax] at ah;cases ah),h4⟩⟩⟩
 unfold sV at j A ⊢;rw[HX.out] at j;rw[HY.out] at A;rw[HX.out,HY.out];have az:(X.toList == Y.toList)=false:=by rw[<-HX.out,<-HY.out,Lib.toList_data,Lib.toList_data];exact aA
 have aG:(X == Y)=false:=by rw[beq_toListBytes];exact az
 clear h hF ha hE;go_enter func22,ntmps22;go_wp2_with (first
  | (go_at_call 60;refine j.mono ?_;rintro e w1 ⟨rfl,hb⟩;have M:=hid hb;have G:=A w1 hb;clear hb j A)
  | (go_at_call 60;refine G.mono ?_;rintro e w2 ⟨rfl,hb⟩;have L:Below r w w2:=M.out.trans (hb.mono (by have:=M.out.size;have:=HR.out;omega));obtain⟨g,hg,W1,ag,_,aH,ac⟩:=ar.out w2 L;have HG:=hid hg;have au:=hid ag;have ak:=hid ac;clear hb G L hg ag ac)
  | (refine z8 rfl (.agg E.toArray) (Zu 146 0 1 3 (.const (.string ⟨#[108,105,110,107]⟩)) (.tmp 22) (.tmp 23) rfl (.string ⟨#[108,105,110,107]⟩) (.string X) (.string Y) _ rfl rfl rfl (ao.out _)) ?_;go_frame)
  | (refine z8 rfl _ (qJ 126 (.tmp 24) rfl (.agg E.toArray) _ rfl (ap.out _)) ?_;rw[HG.out,au.out];go_frame)
  | (go_at_call 49;refine ak.out.mono ?_;rintro e w3 ⟨t',rfl,ad⟩;have am:=hid ad;clear ad)
  | (go_at_call 50;refine am.out.mono ?_;rintro e w4 ⟨b,rfl,p1,p2⟩;have P1:=hid p1;have P2:=hid p2;clear p1 p2;refine Hid.out ?_))
 refine hid ?_;cases b with
 | true =>
  go_wp2;exact bodyPost_ret (results_tmp results22 _ _ _) rfl (P1.out (by simp))
 | false =>
  have av:=P2.out (by simp);go_wp2_with (go_at_call 52;refine av.mono ?_;rintro e w5 k;obtain⟨v5,aC⟩:∃ v,e=.returned v:=(by rcases k with ⟨_,h,_⟩ | ⟨_,⟨_,h,_⟩ | ⟨_,⟨_,h,_⟩ | ⟨_,h⟩⟩⟩ <;> first | exact⟨_,h⟩ | exact h.ret);subst aC;have K:=hid k;clear k)
  exact bodyPost_ret (results_tmp results22 _ _ _) rfl K.out
structure Wy where
 a:Option Addr
 c:Nat
 l:List Str
def Vu (x:Wy):List Value:=[.slice x.a x.l.length x.c]
abbrev dW:Wy:=⟨none,0,[]⟩
theorem M4 (x:Wy):∀ v ∈ Vu x,v.oneCell'=true:=fun v hv=>by
 unfold Vu at hv;rw[Wqk.1 hv];rfl
theorem zu4:(prog.info? 98).map (fun i=>(i.zero,i.size,i.bytes))=some (some (.slice none 0 0),1,24):=by kernel_rfl
theorem zu5:prog.underlying 123=some (.slice 98):=by kernel_rfl
theorem z64:(Value.slice none 0 0).cells.size=1:=by kernel_rfl
structure Wz (w0 w:World) (B:Nat) (v:Value) (xs:List Wy):Prop where
 bx:Bx Vu 1 98 w0 w B v xs
 el:∀ x ∈ xs,w.ownsRow B 9 1 (.slice x.a x.l.length x.c) x.l.length (x.l.map sV)
theorem Wz.nil (w:World) (B:Nat) (hB:B<=w.heap.size):Wz w w B (.slice none 0 0) []:=⟨uk 98 w B hB,fun x hx=>by cases hx⟩
theorem Wz.carry {w0 w W:World} {B:Nat} {v:Value} {xs:List Wy} (h:Wz w0 w B v xs) (hb:Below w.heap.size w W):Wz w0 W B v xs:=⟨h.bx.carry hb,fun x hx=>vj (h.el x hx) hb⟩
theorem Wz.alloc {w0 w:World} {B:Nat} {v:Value} {xs:List Wy} (h:Wz w0 w B v xs) (o:Obj):Wz w0 (w.alloc o) B v xs:=h.carry ((Below.refl _ w).alloc (Wz8 _) o)
theorem Wz.more {w0 w w':World} {B:Nat} {v A:Value} {xs:List Wy} {x:Wy} (h:Wz w0 w B v xs) (hx:w.ownsRow B 9 1 (.slice x.a x.l.length x.c) x.l.length (x.l.map sV)) (hb:Bx Vu 1 98 w0 w' B A (xs++[x])) (I:Mv w w' v A):Wz w0 w' B A (xs++[x]):=by
 have D:Tf 98 w w':=Tf.mv I (fun k j=>by
  obtain⟨J,⟨hv,h0⟩ | ⟨g,cap,cur,hv,hb,G,_⟩⟩:=h.bx.own
  ·rw[hv] at j;cases j
  rw[hv] at j;simp only[Value.ownBlock,Wq8.injEq] at j;subst j;exact⟨_,_,G⟩)
 refine⟨hb,fun y hy=>?_⟩;rcases Wqx.1 hy with hy | hy
 ·exact zK (h.el y hy) D (by decide)
 rw[Wqk.1 hy];exact zK hx D (by decide)
theorem Wz.at {w0 w:World} {B:Nat} {v:Value} {xs:List Wy} (h:Wz w0 w B v xs) {i:Nat} (hi:i<xs.length):∃ b off c,v=.slice (some ⟨b,off,none⟩) xs.length c/\w.cell? ⟨b,off+i,none⟩=some (.slice (xs.getD i dW).a (xs.getD i dW).l.length (xs.getD i dW).c)/\Px eT 1 [] w (xs.getD i dW).a (xs.getD i dW).c (xs.getD i dW).l:=by
 obtain⟨a,c,e,J,_⟩:=h.bx.px (d:=dW) (fun _ _=>rfl);obtain⟨b,off,e1,_,I⟩:=J.at_ (by omega);subst e1;refine⟨b,off,c,e,?_,?_⟩
 ·have:=I i hi 0 _ rfl;simpa using this
 have A:=h.el _ (zQ xs i dW hi);rw[<-jV] at A;obtain⟨K,L,D,j,_⟩:=uX (enc:=eT) (d:=[]) A (fun _ _=>rfl);injection D with e1 _ G;rw[e1,G];exact j
theorem Nu (a:Option Addr) (n c:Nat) (w:World):(Instr.buildSlice 123 1 #[(0,.slice a n c)]).run prog w=.ok (.slice (some ⟨w.heap.size,0,none⟩) 1 1) (w.alloc (.cells #[.slice a n c] 98)):=by kernel_rfl
theorem TM.count {z:Value} {w:World} {g n:Nat} {M:Str->Option Value} (h:TM z w g n M) {t e:TypeId} (ht:prog.underlying t=some (.map 9 e)) (ty:TypeId) (ks:List Str) (hk:ks.Nodup) (Q:∀ x,x ∈ ks ↔ (M x).isSome=true) (h4:∀ x ∈ ks,x.length<=4000) :
  (Builtin.len_ #[t] ty #[.map (some g)]).run prog w=.ok (.int .i64 ks.length) w:=by
 obtain⟨D0,j,hv⟩:=h;have J:∀ x,x ∈ strKeys D0 ↔ x ∈ ks:=fun x=>by
  rw[kJ j underlying9,Q x];constructor
  ·intro hx;have hl:=strKeys_le j underlying9 x ((kJ j underlying9 x).2 hx);rw[(hv x _ (Fz x hl)).1] at hx;exact hx
  intro hx;rw[(hv x _ (Q0 x (h4 x ((Q x).2 hx)))).1];exact hx
 have L:(strKeys D0).Nodup:=by
  obtain⟨es,rfl,A⟩:=j.keysOf;obtain⟨Z,e,O,_⟩:=j.entries uj;cases e
  simp only[strKeys];refine(List.pairwise_map.2 (O.imp_of_mem fun {p q} hp hq K G=>?_));obtain⟨key,I⟩:=A p hp;obtain⟨V,D⟩:=A q hq;obtain⟨y,_,e1,_⟩:=Maps.keyOf_str underlying9 I;obtain⟨y',_,Y,_⟩:=Maps.keyOf_str underlying9 D;rw[e1,Y] at G K;simp only[strOf] at G;exact K (by rw[G])
 have hlen:(strKeys D0).length=ks.length:=((List.perm_ext_iff_of_nodup L hk).2 J).length_eq;have hsz:Maps.size D0=(strKeys D0).length:=by
  obtain⟨es,rfl,A⟩:=j.keysOf;simp[strKeys,Maps.size]
 rw[j.len ht ty,hsz,hlen]
theorem zu6:prog.underlying 190=some (.map 9 193):=by kernel_rfl
theorem zu7 (w:World):(Instr.build 193 #[]).run prog w=.ok (.agg #[]) w:=by kernel_rfl
theorem mk176 (w:World):(Instr.makeMap 190 none).run prog w=.ok (.map (some w.heap.size)) (w.alloc (.map #[] 0)):=by kernel_rfl
theorem results46:f46.results=#[.tmp 4,.tmp 5]:=by kernel_rfl
structure Mv1 where
 name:Str
 old:List Int
 new:List Int
def qj (x:Mv1):List Value:=sV x.name :: (row .u8 x.old++row .u8 x.new)
abbrev dMv:Mv1:=⟨[],[],[]⟩
def xu (x:Mv1):Prop:=True/\IdW x.old/\IdW x.new
theorem j5 {x:Mv1} (h:xu x):(qj x).length=41:=by simp[qj,zv,h.2.1.1,h.2.2.1]
theorem ZX (x:Mv1):∀ v ∈ qj x,v.oneCell'=true:=fun v hv=>by
 unfold qj at hv;simp only[Wqj,Wqx] at hv;rcases hv with rfl | hv | hv
 ·rfl
 ·exact yK .u8 x.old v hv
 exact yK .u8 x.new v hv
theorem Wz.map {w0 w W:World} {B g:Nat} {v:Value} {xs:List Wy} (h:Wz w0 w B v xs) {es:Array MapEntry} {ck:Nat} (A:w.heap[g]? = some (.map es ck)) (j:w.grownBy W (some g)) (hB:B<=g):Wz w0 W B v xs :=
 ⟨⟨⟨j.os.trans h.bx.below.os,j.tape.trans h.bx.below.tape,j.output.trans h.bx.below.output,Wz9 h.bx.below.size j.size,fun i hi=>(j.block i (by have:=h.bx.le;omega) (fun e=>by cases e;omega)).trans (h.bx.below.block i hi)⟩,vw h.bx.own A j,Wz9 h.bx.le j.size⟩,fun x hx=>vw (h.el x hx) A j⟩
theorem M5:∀ l:List Str,∃ ks:List Str,ks.Nodup/\(∀ x,x ∈ ks ↔ x ∈ l)/\ks.length<=l.length/\(ks.length=l.length ↔ l.Nodup)
 | []=>⟨[],by simp,by simp,by simp,by simp⟩
 | a :: l=>by
  obtain⟨ks,D,A,I,G⟩:=M5 l;by_cases j:a ∈ l
  ·refine⟨ks,D,fun x=>?_,by simp;omega,?_⟩
   ·rw[A,Wqj];constructor
    ·exact .inr
    rintro(rfl | h)
    ·exact j
    exact h
   constructor
   ·intro h;simp at h;omega
   intro h;exact absurd j (WxQ.1 h).1
  refine⟨a :: ks,WxQ.2 ⟨fun h=>j ((A a).1 h),D⟩,fun x=>by simp[A],by simp;omega,?_⟩;rw[WxQ];constructor
  ·intro h;simp at h;exact⟨j,G.1 h⟩
  intro h;simp;exact G.2 h.2
def enW (l:List Str):Str:=l.getD (l.length-1) []
def Wl (f:Str->Option (List Str)) (xs:List Str) (ls:List (List Str)):Prop:=ls.length=xs.length/\∀ j,j<xs.length->isN (xs.getD j [])=true/\f (xs.getD j [])=some (ls.getD j [])
def M7 (f:Str->Option (List Str)) (xs:List Str) (bad:Int->Prop) (good:List (List Str)->Prop):Prop :=
 (∃ i,i<xs.length/\(∃ ls,Wl f (xs.take i) ls)/\((isN (xs.getD i [])=false/\bad 60) ∨ (isN (xs.getD i [])=true/\f (xs.getD i [])=none/\bad 64))) ∨ (∃ ls,Wl f xs ls/\((¬ (ls.map enW).Nodup/\bad 60) ∨ ((ls.map enW).Nodup/\good ls)))
theorem Wl.snoc {f:Str->Option (List Str)} {xs:List Str} {i:Nat} {ls:List (List Str)} (h:Wl f (xs.take i) ls) (hi:i<xs.length) {l:List Str} (L:isN (xs.getD i [])=true) (M:f (xs.getD i [])=some l):Wl f (xs.take (i+1)) (ls++[l]):=by
 have K:ls.length=i:=by rw[h.1,WzJ];omega
 have D:(xs.take (i+1)).length=i+1:=by rw[WzJ];omega
 have G:(xs.take i).length=i:=by rw[WzJ];omega
 refine⟨by rw[D];simp[K],fun j J=>?_⟩;rw[D] at J;have hx:(xs.take (i+1)).getD j []=xs.getD j []:=by simp[List.getD_eq_getElem?_getD,List.getElem?_take,J]
 rw[hx];by_cases e:j=i
 ·subst e;rw[show (ls++[l]).getD j []=l by simp[List.getD_eq_getElem?_getD,<-K]];exact⟨L,M⟩
 have A:j<i:=by omega
 have I:=h.2 j (by rw[G];exact A);rw[show (xs.take i).getD j []=xs.getD j [] by simp[List.getD_eq_getElem?_getD,List.getElem?_take,A]] at I;rw[show (ls++[l]).getD j []=ls.getD j [] by simp[List.getD_eq_getElem?_getD,List.getElem?_append_left (by omega:j<ls.length)]];exact I
def U4 (T:Ts) (ms:List Mv1) (w:World) (e:Ending) (w':World):Prop:=M7 (wyT T 8) (ms.map (·.name)) (fun k=>e=.returned (.tuple #[.slice none 0 0,eI k])/\Below w.heap.size w w') (fun ls=>∃ v xs,e=.returned (.tuple #[v,.nilIface])/\Wz w w' w.heap.size v xs/\xs.map (·.l)=ls)
def Me (es:List Str):Str->Option Value:=fun x=>if x ∈ es then some (.agg #[]) else none
theorem zu8 (S:Nat->Prop) (t n:Nat) (T:Ts) (a:Option Addr) (c:Nat) (ms:List Mv1) (w:World) (h:Tt S w t n T) (hP:Px qj 41 dMv w a c ms) (bf:∀ m ∈ ms,xu m) (hn:ms.length<=1000) (be:Mx w) :
  Calls prog 46 #[.map (some t),.slice a ms.length c] w (U4 T ms w):=by
 obtain⟨r,HR⟩:=nm_ w.heap.size;obtain⟨N,HN⟩:=nm_ ms.length;have bQ:N<=1000:=by rw[<-HN.out];exact hn
 obtain⟨W1,aF⟩:=nm_ (w.alloc (.map #[] 0));have bC:Below r w W1:=by rw[<-aF.out,<-HR.out];exact(Below.refl _ w).alloc (Wz8 _) _
 have b9:=mk176 w;rw[aF.out,HR.out] at b9;have aE:Hid (∀ W,Below r w W->Tt S W t n T/\Px qj 41 dMv W a c ms/\Mx W):=fun W I=>⟨h.below (by rw[HR.out];exact I),hP.below (by rw[HR.out];exact I),be.below (by rw[HR.out];exact I)⟩;have aQ:=hid h;have bk:=hid bf
 have br:Hid (Wz w W1 r (.slice none 0 0) []):=hid ((Wz.nil w r (by rw[HR.out];exact Wz8 _)).carry (by rw[HR.out];exact bC));have bi:Hid (TM (.agg #[]) W1 r 0 (Me [])):=hid (by
  have:Me []=fun _=>none:=by funext x;simp[Me]
  rw[this,<-aF.out,<-HR.out];exact YX _ w)
 have bj:Hid (∀ i,i<N->(ms.map (·.name)).getD i []=(ms.getD i dMv).name):=fun i hi=>by
  rw[<-HN.out] at hi;simp[List.getD_eq_getElem?_getD,List.getElem?_eq_getElem hi]
 have ao:Hid ((ms.map (·.name)).length=N):=hid (by simp[HN.out]);rw[HN.out];clear h hP bf be hn;go_enter func46,ntmps46;go_wp2_with (refine z8 rfl _ (WQ rfl b9) ?_;go_frame)
 go_loopg [6,15] N (fun q ov iv wr=>∃ (i:Nat) (u:Value) (xs:List Wy),iv=.int .i64 i/\u=ov/\q=N-i/\i<=N/\xs.length=i/\Hid (Wz w wr r u xs)/\Hid (TM (.agg #[]) wr r i (Me (xs.map fun x=>enW x.l)))/\Hid (Wl (wyT T 8) ((ms.map (·.name)).take i) (xs.map (·.l))));case atStart=>exact⟨0,_,[],rfl,rfl,rfl,Nat.zero_le _,rfl,br,bi,hid ⟨by simp,fun j hj=>by simp at hj⟩⟩
 obtain⟨i,u,xs,rfl,hu,hq,bR,ay,HZ,HM,aH⟩:=hrel;subst hu;obtain⟨ua,uc,bg⟩:=zu HZ.out.bx.own;rw[ay] at bg;subst bg;have av:=HZ.out.bx.below;obtain⟨t1,p1,m1⟩:=aE.out wr av;by_cases aj:i<N;rotate_left
 ·have b8:¬ (i:Int)<(N:Int):=by omega
  obtain rfl:i=N:=by omega
  have aG:Hid (Wl (wyT T 8) (ms.map (·.name)) (xs.map (·.l))):=hid (by
   have:=aH.out;rw[List.take_of_length_le (by rw[ao.out];exact Wz8 _)] at this;exact this)
  obtain⟨ks,aM,aw,aN,ag⟩:=M5 (xs.map fun x=>enW x.l);have ax:(xs.map (·.l)).map enW=xs.map fun x=>enW x.l:=by rw[List.map_map];rfl
  have bI:∀ y ∈ ks,y.length<=4000:=fun y hy=>by
   rw[aw,List.mem_map] at hy;obtain⟨x,hx,rfl⟩:=hy;obtain⟨j,hj,ej⟩:=List.mem_iff_getElem.1 hx;have h5:=aG.out.2 j (by rw[ao.out,<-ay];exact hj);have h6:(xs.map (·.l)).getD j []=x.l:=(by simp[List.getD_eq_getElem?_getD,List.getElem?_eq_getElem hj,ej]);rw[h6] at h5;obtain⟨g1,_,g3⟩:=Y7 (T:=T) (fun x q hx=>(aQ.out.at_ x q hx).tg) 8 _ _ (qX h5.1) h5.2
   have:=g3 _ (uQ _ g1);show (enW x.l).length<=4000;unfold enW;omega
  have hlen:=fun ty=>HM.out.count zu6 ty ks aM (fun x=>by rw[aw];unfold Me;by_cases e:x ∈ xs.map fun x=>enW x.l <;> simp[e]) bI;rw[List.length_map,ay] at aN ag;by_cases a6:(xs.map fun x=>enW x.l).Nodup
  ·have ai:ks.length=i:=ag.2 a6;rw[ai] at hlen;have HG:Hid (U4 T ms w (.returned (.tuple #[.slice ua i uc,.nilIface])) wr):=hid (.inr ⟨_,aG.out,.inr ⟨by rw[ax];exact a6,_,xs,rfl,by rw[HR.out];exact HZ.out,rfl⟩⟩);clear t1 p1 m1 aM aw aN ag a6 ai ax;go_wp2_with (at_builtin;refine z8 rfl _ (Ku rfl rfl (hlen _)) ?_;go_frame)
   exact bodyPost_ret (results_tmp2 results46 _ _ _) rfl HG.out
  obtain⟨kl,ai⟩:∃ n,ks.length=n:=⟨_,rfl⟩;have bS:(kl:Int)<(i:Int):=by
   have:ks.length ≠ i:=fun e=>a6 (ag.1 e);omega
  rw[ai] at hlen;have HG:Hid (U4 T ms w (.returned (.tuple #[.slice none 0 0,eI 60])) wr):=hid (.inr ⟨_,aG.out,.inl ⟨by rw[ax];exact a6,rfl,by rw[HR.out];exact av⟩⟩);clear t1 p1 m1 aM aw aN ag a6 ai ax;go_wp2_with (at_builtin;refine z8 rfl _ (Ku rfl rfl (hlen _)) ?_;go_frame)
  exact bodyPost_ret (results_tmp2 results46 _ _ _) rfl HG.out
 have b8:(i:Int)<(N:Int):=by omega
 obtain⟨b,off,bB,_,_⟩:=p1.at_ (by rw[HN.out];omega);subst bB;have bJ:xu (ms.getD i dMv):=bk.out _ (zQ ms i dMv (by rw[HN.out];exact aj));obtain⟨y,hy⟩:∃ y,(ms.getD i dMv).name=y:=⟨_,rfl⟩;have aI:Hid ((ms.map (·.name)).getD i []=y):=hid (by rw[bj.out i aj];exact hy);obtain⟨M,O⟩:∃ M,qj (ms.getD i dMv)=M:=⟨_,rfl⟩
 have ad:M.length=41:=by rw[<-O];exact j5 bJ
 have aC:Hid ((prog.info? 118).map (·.size)=some M.length):=hid (by rw[ad];kernel_rfl);have aB:Hid ((prog.info? 118).map (·.size)=some M.toArray.size):=hid (by rw[Wyu,ad];kernel_rfl);have aD:Hid (wr.rangeAt b (off+i*41) M):=hid (by
  obtain⟨_,_,e1,_,e3⟩:=p1.at_ (by rw[HN.out];omega);cases e1
  rw[<-O];exact e3 i (by rw[HN.out];exact aj))
 have ac:Hid (M.toArray.all (·.oneCell')=true):=hid (by rw[<-O];exact all_oneCell_toArray (ZX _));have aK:Hid ((41:Nat)=M.toArray.size):=hid (by rw[Wyu,ad]);obtain⟨V,HV⟩:=nm_ (wr.alloc (.cells M.toArray 118));obtain⟨K,HK⟩:=nm_ wr.heap.size;have Q:Below K wr V:=by rw[<-HV.out,<-HK.out];exact(Below.refl _ wr).alloc (Wz8 _) _
 have ah:V.heap[K]? = some (.cells M.toArray 118):=by rw[<-HV.out,<-HK.out];exact heap_alloc_new _ _
 have bu:r<=K:=by have:=av.size;have:=HR.out;have:=HK.out;omega
 have aO:Below r w V:=av.trans (Q.mono bu);have J:Hid (∀ W,Below V.heap.size V W->W.cell? ⟨K,0,none⟩=some (sV y)/\Below r w W/\Below wr.heap.size wr W):=fun W I=>by
  have h1:=(I.block K (z7 ah)).trans ah;refine⟨?_,aO.trans (I.mono (by have:=aO.size;have:=HR.out;omega)),?_⟩
  ·rw[cell_of_row _ _ 0 _ _ _ h1,<-O,<-hy];rfl
  rw[HK.out];exact Q.trans (I.mono (by have:=Q.size;have:=HK.out;omega))
 have Z:=(J.out V (Below.refl _ _)).1;have A:=x6 y V (aE.out V aO).2.2;have az:Hid (∀ k W,Below r w W->((isN y=false/\k=60) ∨ (isN y=true/\wyT T 8 y=none/\k=64))->U4 T ms w (.returned (.tuple #[.slice none 0 0,eI k])) W):=fun k W I hk=>by
  refine .inl ⟨i,by rw[ao.out];exact aj,⟨_,aH.out⟩,?_⟩;rw[aI.out];rcases hk with ⟨h1,rfl⟩ | ⟨h1,h2,rfl⟩
  ·exact .inl ⟨h1,rfl,by rw[HR.out];exact I⟩
  exact .inr ⟨h1,h2,rfl,by rw[HR.out];exact I⟩
 obtain⟨Y,HY⟩:=nm_ (⟨y.toArray⟩:ByteArray);cases hi:isN y with
 | false =>
  rw[hi] at A;have HE:Hid (∀ W,Below V.heap.size V W->U4 T ms w (.returned (.tuple #[.slice none 0 0,eI 60])) W):=fun W I=>az.out 60 W (J.out W I).2.1 (.inl ⟨hi,rfl⟩);unfold sV at Z A;rw[HY.out] at Z A;clear t1 p1 m1 O ah Q;go_wp2_with (first
   | (refine wpList_load_mid rfl 118 (.tmp 17) rfl _ _ rfl M _ aD.out underlying118 rfl aC.out ?_;go_frame)
   | (refine zq rfl 118 (.tmp 9) (.tmp 18) rfl _ M.toArray rfl rfl aB.out aK.out ac.out ?_;rw[HV.out,HK.out];go_frame)
   | (go_at_call 60;refine A.mono ?_;rintro e w2 ⟨rfl,hb⟩;have E2:=hid (HE.out w2 hb);clear hb A))
  exact bodyPost_ret (results_tmp2 results46 _ _ _) rfl E2.out
 | true =>
  rw[hi] at A;have aA:=qX hi;have L:Hid (∀ W,Below V.heap.size V W->Calls prog 85 #[.map (some t),sV y] W fun e w'=>Xq T y W.heap.size e w'/\Below W.heap.size W w'):=fun W I=>Fv S t n T y W (aE.out W (J.out W I).2.1).1 aA;have aP:Hid (∀ W,Below V.heap.size V W->W.cell? ⟨K,0,none⟩=some (.string Y)):=fun W I=>by rw[<-HY.out];exact(J.out W I).1
  cases I:wyT T 8 y with
  | none =>
   unfold Xq at L;rw[I] at L;have HE:Hid (∀ W W',Below V.heap.size V W->Below W.heap.size W W'->U4 T ms w (.returned (.tuple #[.slice none 0 0,eI 64])) W'):=fun W W' h1 h2=>az.out 64 W' ((J.out W h1).2.1.trans (h2.mono (by have:=(J.out W h1).2.1.size;have:=HR.out;omega))) (.inr ⟨hi,I,rfl⟩);unfold sV at Z A L;rw[HY.out] at Z A L
   clear t1 p1 m1 O ah Q;go_wp2_with (first
    | (refine wpList_load_mid rfl 118 (.tmp 17) rfl _ _ rfl M _ aD.out underlying118 rfl aC.out ?_;go_frame)
    | (refine zq rfl 118 (.tmp 9) (.tmp 18) rfl _ M.toArray rfl rfl aB.out aK.out ac.out ?_;rw[HV.out,HK.out];go_frame)
    | (go_at_call 60;refine A.mono ?_;rintro e w2 ⟨rfl,hb⟩;have bF:=aP.out w2 hb;have c80:=L.out w2 hb;have B2:=hid hb;clear hb A)
    | (go_at_call 85;refine c80.mono ?_;rintro e w3 ⟨rfl,hb⟩;have E3:=hid (HE.out w2 w3 B2.out hb);clear hb c80))
   exact bodyPost_ret (results_tmp2 results46 _ _ _) rfl E3.out
  | some l =>
   unfold Xq at L;rw[I] at L;obtain⟨b6,bT,b7⟩:=Y7 (T:=T) (fun x q hx=>(aQ.out.at_ x q hx).tg) 8 y l aA I;have bP:(enW l).length<=60:=b7 _ (uQ l b6);obtain⟨ln,a8⟩:=nm_ l.length;obtain⟨z,aJ⟩:=nm_ (enW l);obtain⟨ZB,aR⟩:=nm_ (⟨z.toArray⟩:ByteArray)
   have bn:Hid (∀ W,Below V.heap.size V W->Calls prog 85 #[.map (some t),.string Y] W fun e w3=>∃ D G,e=.returned (.tuple #[.slice D ln G,.nilIface])/\∃ X4,w3.alloc (.cells #[.slice D ln G] 98)=X4/\w3.heap.size+1=X4.heap.size/\Wz w X4 r (.slice ua i uc) xs/\TM (.agg #[]) X4 r i (Me (xs.map fun x=>enW x.l))/\Px Vu 1 dW X4 (some ⟨w3.heap.size,0,none⟩) 1 [⟨D,G,l⟩]/\(∀ v' w5,Bx Vu 1 98 w w5 r v' (xs++[⟨D,G,l⟩])->Mv X4 w5 (.slice ua i uc) v'->Calls prog 47 #[.slice D ln G] w5 (fun e w'=>e=.returned (.string ZB)/\w'=w5)/\∃ w6,(Instr.mapUpdate 190 (.map (some r)) (.string ZB) (.agg #[])).run prog w5=.ok () w6/\Wz w w6 r v' (xs++[⟨D,G,l⟩])/\TM (.agg #[]) w6 r (i+1) (Me ((xs++[(⟨D,G,l⟩:Wy)]).map fun x=>enW x.l)))):=fun W ar=>by
    have ae:=L.out W ar;unfold sV at ae;rw[HY.out] at ae;refine ae.mono ?_;rintro e w3 ⟨⟨v,rfl,am⟩,bD⟩;obtain⟨D,G,hv⟩:=zu am;subst hv;rw[a8.out] at am;refine⟨D,G,by rw[a8.out],_,rfl,by simp,?_⟩;have aZ:Below wr.heap.size wr w3:=(J.out W ar).2.2.trans (bD.mono (J.out W ar).2.2.size)
    have aY:Below wr.heap.size wr (w3.alloc (.cells #[.slice D ln G] 98)):=aZ.alloc aZ.size _;have bA:r<=W.heap.size:=(by have:=(J.out W ar).2.1.size;have:=HR.out;omega);have bK:(w3.alloc (.cells #[.slice D ln G] 98)).ownsRow r 9 1 (.slice D ln G) ln (l.map sV):=qv (vj am ((Below.refl _ w3).alloc (Wz8 _) _)) bA;have aL:=HZ.out.carry aY
    have aU:TM (.agg #[]) (w3.alloc (.cells #[.slice D ln G] 98)) r i (Me (xs.map fun x=>enW x.l)):=HM.out.sm (aY.block _ HM.out.lt);refine⟨aL,aU,?_,fun v' w5 au ak=>?_⟩
    ·have:=x5 (enc:=Vu) (d:=dW) w3 ⟨D,G,l⟩ 98;simp only[Vu,a8.out] at this;exact this
    have bO:(w3.alloc (.cells #[.slice D ln G] 98)).ownsRow r 9 1 (.slice D (⟨D,G,l⟩:Wy).l.length G) (⟨D,G,l⟩:Wy).l.length (l.map sV):=by show World.ownsRow _ _ _ _ (.slice D l.length G) l.length _;rw[a8.out];exact bK
    have aX:=aL.more (x:=⟨D,G,l⟩) bO au ak;have bM:Tf 98 (w3.alloc (.cells #[.slice D ln G] 98)) w5:=Tf.mv ak (fun k hk=>by
     obtain⟨_,⟨hv,h0⟩ | ⟨g,cap,cur,hv,hb,hh,_⟩⟩:=aL.bx.own
     ·rw[hv] at hk;cases hk
     rw[hv] at hk;simp only[Value.ownBlock,Wq8.injEq] at hk;subst hk;exact⟨_,_,hh⟩)
    have aV:=aU.tf bM;obtain⟨w6,a7,bz,bH⟩:=aV.put (by omega) zu6 (x:=z) (by rw[<-aJ.out];omega) (.agg #[]);unfold sV at a7;rw[aR.out] at a7;refine⟨?_,w6,a7,?_,?_⟩
    ·have b2:=aX.el ⟨D,G,l⟩ (by simp);rw[<-jV] at b2;obtain⟨a',c',e',bw,_⟩:=uX (enc:=eT) (d:=[]) b2 (fun _ _=>rfl);injection e' with e1 _ e2;subst e1;subst e2;have ap:=Kw D G l w5 bw b6 (by omega);have:l.getD (l.length-1) []=z:=aJ.out;rw[this,a8.out] at ap;unfold sV at ap;rw[aR.out] at ap;exact ap
    ·obtain⟨es,ck,bE⟩:=aV.box;exact aX.map bE bH (Wz8 _)
    have e:Me ((xs++[(⟨D,G,l⟩:Wy)]).map fun x=>enW x.l)=fun y=>if y=z then some (.agg #[]) else Me (xs.map fun x=>enW x.l) y:=by
     funext y;unfold Me;simp only[Wxu,WzK,WzV,Wqx,Wqk,aJ.out];by_cases ey:y=z
     ·simp[ey]
     simp[ey]
    rw[e];exact bz
   have bo:Hid (∀ D G,Wl (wyT T 8) ((ms.map (·.name)).take (i+1)) ((xs++[(⟨D,G,l⟩:Wy)]).map (·.l))):=fun D G=>by
    rw[Wxu];exact aH.out.snoc (by rw[ao.out];exact aj) (by rw[aI.out];exact hi) (by rw[aI.out];exact I)
   have bh:Hid (∀ (D:Option Addr) (G:Nat) (W:World),(Instr.buildSlice 123 1 #[(0,.slice D ln G)]).run prog W=.ok (.slice (some ⟨W.heap.size,0,none⟩) 1 1) (W.alloc (.cells #[.slice D ln G] 98))):=fun D G W=>Nu D ln G W;have bq:Hid (∀ x:Wy,xs.length + [x].length<=1000000000):=fun x=>by simp;omega
   unfold sV at Z A;rw[HY.out] at Z A;clear t1 p1 m1 O ah Q L I;go_wp2_with (first
    | (refine wpList_load_mid rfl 118 (.tmp 17) rfl _ _ rfl M _ aD.out underlying118 rfl aC.out ?_;go_frame)
    | (refine zq rfl 118 (.tmp 9) (.tmp 18) rfl _ M.toArray rfl rfl aB.out aK.out ac.out ?_;rw[HV.out,HK.out];go_frame)
    | (go_at_call 60;refine A.mono ?_;rintro e w2 ⟨rfl,hb⟩;have bF:=aP.out w2 hb;have c80:=bn.out w2 hb;clear hb A)
    | (go_at_call 85;refine c80.mono ?_;rintro e w3 ⟨D,G,rfl,X4,aW,bL,q1,q2,q3,q4⟩;have bp:=hid aW;have Q1:=hid q1;have Q3:=hid q3;have Q4:=hid q4;clear c80 q1 q2 q3 q4 aW bL)
    | (refine z8 rfl _ (qJ 123 (.tmp 35) rfl (.slice D ln G) _ rfl (bh.out D G _)) ?_;rw[bp.out];go_frame)
    | (at_builtin;refine zy (enc:=Vu) (k:=1) (d:=dW) rfl _ _ 123 98 zu5 zu4 z64 (by decide) (by decide) M4 rfl r (.slice ua i uc) xs rfl Q1.out.bx (some ⟨w3.heap.size,0,none⟩) 1 [⟨D,G,l⟩] rfl Q3.out (fun _ _=>rfl) (bq.out _) ?_;intro v5 w5 au bG ak;obtain⟨aS,w6,a7,z6,m6⟩:=Q4.out v5 w5 au ak;have bm:=hid a7;have Z6:=hid z6;have M6:=hid m6;clear au bG ak a7 z6 m6)
    | (go_at_call 47;refine aS.mono ?_;rintro e w' ⟨rfl,hw⟩;have bN:=hw.symm;subst bN;clear hw aS)
    | (refine z8 rfl _ (yy 193 rfl (zu7 _)) ?_;go_frame)
    | (at_mapUpdate;refine xK rfl (xq (mv:=.map (some r)) (kv:=.string ZB) (v:=.agg #[]) rfl rfl rfl rfl bm.out) ?_;go_frame))
   go_roundg (N-(i+1));case measure=>omega
   case rel=>exact⟨i+1,_,xs++[⟨D,G,l⟩],by go_num,rfl,rfl,by omega,by simp[ay],Z6,M6,hid (bo.out D G)⟩
end Go.Proofs.YtdnphaganajejaaGreatDoor.K
