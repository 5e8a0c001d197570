import Derived.Test.YtdnphaganajejaaGreatDoorMz26
set_option linter.unusedSimpArgs false
set_option linter.unusedVariables false
set_option maxRecDepth 20000
set_option maxHeartbeats 4000000
open ByteArray renaming size->Wqz
open List renaming length_append->Wzy,mem_map->Wz6
open Nat renaming le_trans->Wz9
namespace Go.Proofs.YtdnphaganajejaaGreatDoor.K
open Go.Proofs.Tryz
open Go.RowKit
def I7 (S:Nat->Prop) (N:Nat) (w:World) (D R t:Nat) (go q:Bool) (o z:Option (List Int)) (e:Ending) (w':World):Prop := ∃ v a' un,e=.returned v/\((∃ b,v=eV b/\Er b 1 w'/\q=false/\Ra.Hs pr o z a') ∨ (v=.nilIface/\un=false/\Ra.Hs pr z z a'))/\Rb S N w w' D R t go un q a'
theorem results93:f93.results=#[.tmp 4]:=by kernel_rfl
theorem M0 (S:Nat->Prop) (N:Nat) (w W:World) (D R t j:Nat) (go un q:Bool) (o z:Option (List Int)) (a:Ds) (h:Rb S N w W D R t go un q a) (hh:Ra.Hs pr o z a) (Z:N<=90000) :
  Calls prog 93 #[.pointer (some ⟨R,0,none⟩),.map (some j)] W (I7 S N w D R j go q o z):=by
 obtain⟨_,h1,_,_,hf⟩:=h.rf.c;have a6:=hf 1;have J:=XQ S N w (W.setCell ⟨R,1,none⟩ (.map (some j))) D R j go un q o z a (h.store 1 _ (h.rf.put1 j)) hh Z;have HS:Hid (∀ w1,k9 S N w D R j go q o z (.returned .nilIface) w1->I7 S N w D R j go q o z (.returned .nilIface) w1):=fun w1 ⟨v,a1,A,e,k,hb⟩=>by
  cases e
  rcases k with ⟨b,e,_⟩ | ⟨_,e,Q⟩
  ·cases e
  exact⟨_,a1,A,rfl,.inr ⟨rfl,e,Q.1⟩,hb⟩
 have HE:Hid (∀ w1 b,k9 S N w D R j go q o z (.returned (eV b)) w1->Calls prog 15 #[.pointer (some ⟨R,0,none⟩)] w1 fun e w'=>∃ v,e=.returned v/\I7 S N w D R j go q o z (.returned (eV b)) w'):=fun w1 b ⟨v,a1,A,e,k,hb⟩=>by
  cases e
  rcases k with ⟨Y,e,O,hq,_,Q⟩ | ⟨e,_⟩
  ·cases e
   refine(XQ _ N w1 w1 D R j go A q o z a1 hb.at_ Q Z).mono ?_;rintro e w2 ⟨v2,a2,V,rfl,k2,I⟩;refine⟨_,rfl,_,a2,V,rfl,.inl ⟨b,rfl,I.ke b 1 O,hq,?_⟩,hb.base I⟩;rcases k2 with ⟨_,_,_,_,_,G⟩ | ⟨_,_,G⟩
   ·exact G
   exact qq7 G.1
  cases e
 have L:Hid (∀ e w1,k9 S N w D R j go q o z e w1->∃ v,e=.returned v/\(v=.nilIface ∨ ∃ b,v=eV b)):=fun e w1 ⟨v,a1,A,e1,k,hb⟩=>by
  refine⟨v,e1,?_⟩;rcases k with ⟨Y,e,_⟩ | ⟨e,_⟩
  ·exact .inr ⟨Y,e⟩
  exact .inl e
 clear hf h hh;go_enter func93,ntmps93;go_wp2_with (go_at_call 15;refine J.mono ?_;intro e w1 k;obtain⟨v,O,hv⟩:=L.out e w1 k;subst O;have K:=hid k;have M:=hid hv;clear k hv J;refine Hid.out ?_)
 refine hid ?_;rcases M.out with rfl | ⟨b,rfl⟩
 ·have HX:=hid (HS.out w1 K.out);clear K M;go_wp2;exact bodyPost_ret (results_tmp results93 _ _ _) rfl HX.out
 have G:=HE.out w1 b K.out;clear K M;go_wp2_with (go_at_call 15;refine G.mono ?_;rintro e w2 ⟨v,rfl,k⟩;have K:=hid k;clear k G)
 exact bodyPost_ret (results_tmp results93 _ _ _) rfl K.out
def jx (S:Nat->Prop) (N:Nat) (w:World) (D R t t':Nat) (go q:Bool) (o:Option (List Int)) (fs:Str->Prop) (e:Ending) (w':World):Prop := ∃ v a',e=.returned v/\((∃ b un f,v=eV b/\Er b 1 w'/\q=false/\fs f/\Ra.Hs pr o (some (nm f)) a'/\Rb S N w w' D R t' true un q a') ∨ (∃ b k,v=eV b/\Er b k w'/\((k=1/\q=false) ∨ k=2)/\Ra.Hs pr o o a'/\Rb S N w w' D R t go false q a') ∨ (∃ f,v=.nilIface/\fs f/\Ra.Hs pr (some (nm f)) (some (nm f)) a'/\Rb S N w w' D R t' true false q a'))
theorem jx.of_tell {S:Nat->Prop} {N N' D R t J:Nat} {w:World} {go q:Bool} {o:Option (List Int)} {fs:Str->Prop} {f:Str} {e:Ending} {w':World} (I:fs f) (h:I7 S N' w D R J true q o (some (nm f)) e w') (G:N'<=N):jx S N w D R t J go q o fs e w':=by
 obtain⟨v,K,un,e1,k,hb⟩:=h;refine⟨v,K,e1,?_⟩;rcases k with ⟨b,j,M,O,A⟩ | ⟨j,L,A⟩
 ·exact .inl ⟨b,un,f,j,M,O,I,A,hb.more G⟩
 subst L;exact .inr (.inr ⟨f,j,I,A,hb.more G⟩)
abbrev Sn (S:Nat->Prop) (W:World):Nat->Prop:=fun i=>S i/\nD W i
theorem Rb.of {S:Nat->Prop} {N D R t:Nat} {w u W:World} {go un q:Bool} {a:Ds} (hr:Rf w R D t go un) (A:¬ S R) (J:∀ i,S i->i<w.heap.size) (hb:Below w.heap.size w u) (G:Dm (Sx (Sn S u) u W) N W D q a) (j:Al (Sn S u) u W):Rb S N w W D R t go un q a:=by
 have hs:=hb.size;have h:=z7 hr.box;refine⟨G.mono (fun i hi=>?_) (Nat.le_refl _),(Rf.al ⟨(hb.block R h).trans hr.box⟩ j (fun hs=>A hs.1)),A,h,J,(Al.below hb).trans j (fun i hi=>.inl (.inl hi.1)),fun b k I=>(I.below hb).ka j⟩;rcases hi with hi | hi
 ·exact .inl hi.1
 exact .inr ⟨by omega,hi.2⟩
theorem I8 {S:Nat->Prop} {N N' D R t O:Nat} {w W:World} {go q:Bool} {o:Option (List Int)} {fs:Str->Prop} {a:Ds} {b:Nat} {k:Int} (h:Rb S N w W D R t go false q a) (J:N+2<=N') (j:N<=90000) (G:Ra.Old pr nw o a) (K:Er b k W) (L:(k=1/\q=false) ∨ k=2) :
  Calls prog 102 #[.pointer (some ⟨D,0,none⟩),sV nw] W fun e w'=>∃ v,e=.returned v/\jx S N' w D R t O go q o fs (.returned (eV b)) w':=by
 refine(Wu _ N D q a nw W h.ty U3 j).mono ?_;rintro e Q ⟨v,rfl,a1,k1,M,I⟩;have b1:=h.next M I;have A:=K.ka I;refine⟨v,rfl,_,a1,rfl,.inr (.inl ⟨b,k,rfl,A,L,?_,b1.more J⟩)⟩;rcases k1 with ⟨rfl,_⟩ | ⟨_,_,rfl⟩
 ·exact G.hs
 exact(G.remove (Ne.symm X9)).hs
def zvV (S:Nat->Prop) (N:Nat) (w:World) (D R t t':Nat) (go q:Bool) (o:Option (List Int)) (fs:Str->Prop) (W:World):Prop:=Calls prog 101 #[.pointer (some ⟨D,0,none⟩),sV nw,sV pr] W (Ei (fun b W1=>W1.cell? ⟨R,0,none⟩=some (.pointer (some ⟨D,0,none⟩))/\Calls prog 102 #[.pointer (some ⟨D,0,none⟩),sV nw] W1 fun e w'=>∃ v,e=.returned v/\jx S N w D R t t' go q o fs (.returned (eV b)) w') (fun W1=>W1.cell? ⟨R,2,none⟩=some (.bool go)/\W1.frozen? ⟨R,2,none⟩=false/\Calls prog 93 #[.pointer (some ⟨R,0,none⟩),.map (some t')] (W1.setCell ⟨R,2,none⟩ (.bool true)) fun e w'=>∃ v,e=.returned v/\jx S N w D R t t' go q o fs (.returned v) w'))
theorem rn101 {S:Nat->Prop} {N N' D R t J:Nat} {w W:World} {go q:Bool} {o:Option (List Int)} {fs:Str->Prop} {a:Ds} {B:Nat} {f:Str} (h:Rb S N w W D R t go false q a) (hN:N+4<=N') (K:N<=80000) (G:Ra.Old pr nw o a) (O:fs f) (A:a.now nw=some B) (hB:a.nd B=some (nm f,(nm f).length)):zvV S N' w D R t J go q o fs W:=by
 refine(BQ _ N D q a nw pr W h.ty U3 (.inl rfl) X9 (by omega)).mono ?_;rintro e Z ⟨v,rfl,a1,k1,V,Y⟩;have b1:=h.next V Y;rcases k1 with ⟨rfl,b,k,rfl,L,M,j⟩ | ⟨rfl,C,e1,rfl⟩
 ·refine Ei.bad b ⟨b1.rf.c.1,I8 b1 (by omega) (by omega) G M ?_⟩;rcases j with j | ⟨_,j⟩
  ·exact .inl j
  rw[A] at j;cases j
 rw[A] at e1;cases e1
 refine Ei.ok ⟨b1.rf.c.2.2.1,b1.rf.c.2.2.2.2 2,?_⟩;refine(M0 S (N+2) w _ D R t J true false q o (some (nm f)) _ (b1.store 2 _ (b1.rf.set2 true)) (Ra.hs_ren h.dm.wf G.hs (Ne.symm X9) B (nm f) hB) (by omega)).mono ?_;intro e w' I;have Q:=jx.of_tell (fs:=fs) (t:=t) (go:=go) O I (N:=N') (by omega);obtain⟨v,_,_,rfl,_⟩:=id I;exact⟨v,rfl,Q⟩
def Yk (T:Ts) (f:Str):Prop := ∃ ss,Nms T ss/\f=bkS (wrL (stN T ss))
theorem M1 (S:Nat->Prop) (N D R t O n:Nat) (go q:Bool) (o:Option (List Int)) (a0:Ds) (T:Ts) (w:World) (h:Dm S N w D q a0) (ho:Ra.Old pr nw o a0) (hR:Rf w R D t go false) (hS:¬ S R) (I:∀ i,S i->i<w.heap.size) (hN:N<=70000)
  (hT:Tt (Sr S R) w O n T) (hn:n<=100000) (J:∀ ss,Nms T ss->(∀ s ∈ stN T ss,StL s)/\(wrL (stN T ss)).length<=280000000/\(stN T ss).length<=1000000) (ht:Tab w) (au:Db w) :
  Calls prog 61 #[.pointer (some ⟨R,0,none⟩),.map (some O)] w (jx S (N+14) w D R t O go q o (Yk T)):=by
 obtain⟨r,HR⟩:=nm_ w.heap.size;have ay:=QQ R D t go w hR;have aD:R<r:=by rw[<-HR.out];exact z7 hR.box
 have Q:Hid (∀ W,Below r w W->W.cell? ⟨R,0,none⟩=some (.pointer (some ⟨D,0,none⟩))):=fun W hW=>(hW.cell (p:=⟨R,0,none⟩) aD).trans hR.c.1;have ag:=fun W (hW:Below r w W)=>zz7 (Sr S R) O n T W (hT.below (by rw[HR.out];exact hW)) hn (fun ss h1 h2=>by
  have h3:∀ ae,ae.Perm ss->(stN T ae).length=(stN T ss).length:=fun ae hp=>by
   unfold stN;exact(hp.flatMap_right (st1 T)).length_eq
  have az:Nms T (srt ss):=⟨fun x=>by rw[(uu ss).mem_iff];exact h1 x,List.pairwise_mergeSort (fun a b c h1 h2=>by simp only[decide_eq_true_eq] at *;exact List.le_trans h1 h2) (fun a b=>by simp only[Bool.or_eq_true,decide_eq_true_eq];exact List.le_total a b) ss,by rw[(uu ss).nodup_iff];exact h2⟩;rw[<-h3 _ (uu ss)];have:=(J _ az).2.2;omega)
 have HL:Hid (∀ W a c ss,Below r w W->Nms T ss->Px zJ 68 dS W a c (stN T ss)->Calls prog 92 #[.slice a (stN T ss).length c] W fun e w1=>Below W.heap.size W w1/\∃ v,e=.returned v/\Calls prog 91 #[v] w1 fun e2 w2=>Below W.heap.size W w2/\∃ g cap,e2=.returned (.slice (some ⟨g,0,none⟩) (bkS (wrL (stN T ss))).length cap)/\PB w2 (some ⟨g,0,none⟩) cap (bkS (wrL (stN T ss)))/\W.heap.size<=g/\g<w2.heap.size):=fun W a c ss hW hs hP=>I2 a c (stN T ss) W (ht.below (by rw[HR.out];exact hW)) (au.below (by rw[HR.out];exact hW)) hP (J ss hs).1 (J ss hs).2.1 (J ss hs).2.2
 have ai:Hid (∀ W g cap bs,Below r w W->r<=g->g<W.heap.size->PB W (some ⟨g,0,none⟩) cap bs->bs.length<=500000000->Yk T bs->Calls prog 99 #[.pointer (some ⟨D,0,none⟩),sV nw,.slice (some ⟨g,0,none⟩) bs.length cap] W (Ei (fun b G=>G.cell? ⟨R,0,none⟩=some (.pointer (some ⟨D,0,none⟩))/\Calls prog 102 #[.pointer (some ⟨D,0,none⟩),sV nw] G fun e w'=>∃ v,e=.returned v/\jx S (N+14) w D R t O go q o (Yk T) (.returned (eV b)) w') (fun G=>G.cell? ⟨R,0,none⟩=some (.pointer (some ⟨D,0,none⟩))/\zvV S (N+14) w D R t O go q o (Yk T) G))):=fun W g cap bs hW hg aI hP hb hA=>by
  have ac:Below w.heap.size w W:=by rw[HR.out];exact hW
  have:=zzk (Sn S W) N D q o (some ⟨g,0,none⟩) cap (nm bs) a0 W (h.below ac).typed (by omega) ho (fun i hi=>Nat.lt_of_lt_of_le (I i hi.1) ac.size) (qxw hP) (fun p hp=>by cases hp;exact⟨fun hs=>by have h5:g<w.heap.size:=I _ hs.1;have:=HR.out;omega,aI⟩) (by rw[x9];exact hb);rw[x9] at this;refine this.mono ?_;rintro e G ⟨v,a1,rfl,ax,k1,k2⟩
  have b1:Rb S (N+10) w G D R t go false q a1:=Rb.of hR hS I ac k2.dm k2.al;rcases k1 with ⟨b,k,rfl,he,hk⟩ | ⟨rfl,B,hn,hB⟩
  ·exact Ei.bad b ⟨b1.rf.c.1,I8 b1 (by omega) (by omega) ax he hk⟩
  exact Ei.ok ⟨b1.rf.c.1,rn101 b1 (by omega) (by omega) ax hA hn hB⟩
 have ah:=hid J
 have V:Hid (∀ W,zvV S (N+14) w D R t O go q o (Yk T) W->Calls prog 101 #[.pointer (some ⟨D,0,none⟩),sV nw,sV pr] W (Ei (fun b G=>G.cell? ⟨R,0,none⟩=some (.pointer (some ⟨D,0,none⟩))/\Calls prog 102 #[.pointer (some ⟨D,0,none⟩),sV nw] G fun e w'=>∃ v,e=.returned v/\jx S (N+14) w D R t O go q o (Yk T) (.returned (eV b)) w') (fun G=>G.cell? ⟨R,2,none⟩=some (.bool go)/\G.frozen? ⟨R,2,none⟩=false/\Calls prog 93 #[.pointer (some ⟨R,0,none⟩),.map (some O)] (G.setCell ⟨R,2,none⟩ (.bool true)) fun e w'=>∃ v,e=.returned v/\jx S (N+14) w D R t O go q o (Yk T) (.returned v) w'))):=fun W h=>h
 have aF:=Q.out w (Below.refl _ _);clear h hR hT J ht au I ho hS;go_enter func61,ntmps61;go_wp2_with (go_at_call 89;refine ay.mono ?_;rintro e w1 ⟨rfl,aA⟩;have aB:=aA.symm;subst aB;clear aA ay)
 refine wp_region_held_drew (S:=fun W=>W.cell? ⟨R,0,none⟩=some (.pointer (some ⟨D,0,none⟩))) (by kernel_rfl) aF (fun j=>?_);have Y:Below r w w.drew:=by rw[<-HR.out];exact zj _ _ 1
 generalize w.drew=u0 at j Y ⊢;iterate 5
  refine qy (v:=?_) j ?_ ?_;rotate_left
  ·intro w' c0;go_simp;rfl
  try simp only[Act.put,sL]
 refine vk 5 100 [.tmp 16] [.map (some O)] (ag u0 Y) ?_;rintro e u1 ⟨v,ss,rfl,q1,q2,q3,q4⟩;have A:Nms T ss:=⟨q1,q2,q3⟩;have ak:r<=u0.heap.size:=by have:=Y.size;have:=HR.out;omega
 have M:Below r w u1:=Y.trans (q4.below.mono ak);have L:r<=u1.heap.size:=by have:=M.size;have:=HR.out;omega
 obtain⟨va,vc,hv,am,_⟩:=uX (d:=dS) q4.own (fun x hx=>qx ((ah.out ss A).1 x hx).1);subst hv;refine⟨_,rfl,Q.out _ M,fun j=>?_⟩;try simp only[Act.put,sL]
 refine vk 6 92 [.tmp 17] [.slice va (stN T ss).length vc] (HL.out u1 va vc ss M A am) ?_;rintro e u2 ⟨a6,v2,rfl,aC⟩;have aE:Below r w u2:=M.trans (a6.mono L);refine⟨_,rfl,Q.out _ aE,fun j=>?_⟩;try simp only[Act.put,sL]
 refine vk 7 91 [.tmp 18] [v2] aC ?_;rintro e u3 ⟨a7,g,cap,rfl,ad,av,aw⟩;have ao:Below r w u3:=M.trans (a7.mono L);refine⟨_,rfl,Q.out _ ao,fun j=>?_⟩;try simp only[Act.put,sL]
 obtain⟨bs,Z⟩:∃ bs,bkS (wrL (stN T ss))=bs:=⟨_,rfl⟩;have ap:bs.length<=500000000:=by
  rw[<-Z];have:=(ah.out ss A).2.1;unfold bkS;rw[Wzy,xW _ (by omega)];omega
 rw[Z] at ad;obtain⟨bl,ar⟩:∃ n,bs.length=n:=⟨_,rfl⟩;have a8:=ai.out u3 g cap bs ao (Wz9 L av) aw ad ap ⟨ss,A,Z.symm⟩;rw[Z];rw[ar] at a8 ⊢;refine vk 8 99 [.tmp 15,.const (.string ⟨#[112,97,99,107,101,100,45,114,101,102,115,46,110,101,119]⟩),.tmp 19] [.pointer (some ⟨D,0,none⟩),sV nw,.slice (some ⟨g,0,none⟩) bl cap] a8 ?_
 rintro e u4 ⟨v4,rfl,k4⟩;have K:=hid k4;have aG:u4.cell? ⟨R,0,none⟩=some (.pointer (some ⟨D,0,none⟩)):=by
  rcases k4 with ⟨_,_,h,_⟩ | ⟨_,h,_⟩ <;> exact h
 clear k4;refine⟨_,rfl,aG,fun j=>?_⟩;try simp only[Act.put,sL]
 refine qy (v:=?_) j ?_ ?_;rotate_left
 ·intro w' c0;go_simp;rfl
 try simp only[Act.put,sL]
 refine wpAnyH_done (by kernel_rfl) ?_ _;clear j ad av aw a7 a6 am q1 q2 q3 q4 HL ag ai A ap a8;unfold sV nw pr at V;rcases K.out with ⟨b,rfl,_,c2⟩ | ⟨rfl,_,c1⟩
 ·unfold sV nw pr at c2;clear K V;go_wp2_with (go_at_call 102;refine c2.mono ?_;rintro e w5 ⟨v,rfl,k⟩;have K:=hid k;clear k c2)
  exact bodyPost_ret (results_tmp results61 _ _ _) rfl K.out
 have aj:=V.out u4 c1;clear K V c1;go_wp2_with (go_at_call 101;refine aj.mono ?_;rintro e u5 ⟨v,rfl,k⟩;have K:=hid k;clear k aj;refine Hid.out ?_)
 refine hid ?_;rcases K.out with ⟨b,rfl,aH,c2⟩ | ⟨rfl,aH,aJ,c2⟩
 ·clear K;go_wp2_with (go_at_call 102;refine c2.mono ?_;rintro e w5 ⟨v,rfl,k⟩;have K:=hid k;clear k c2)
  exact bodyPost_ret (results_tmp results61 _ _ _) rfl K.out
 clear K;go_wp2_with (go_at_call 93;refine c2.mono ?_;rintro e w5 ⟨v,rfl,k⟩;have K:=hid k;clear k c2)
 exact bodyPost_ret (results_tmp results61 _ _ _) rfl K.out
theorem qqX (S:Nat->Prop) (N D R t G n:Nat) (q:Bool) (o:Option (List Int)) (a0:Ds) (T:Ts) (v:Value) (w:World) (h:Dm S N w D q a0) (M:Ra.Old pr nw o a0) (I:Rf w R D t false false) (Q:¬ S R) (j:∀ i,S i->i<w.heap.size) (O:N<=70000)
  (L:Tt (Sr S R) w G n T) (Y:n<=100000) (A:∀ ss,Nms T ss->(∀ s ∈ stN T ss,StL s)/\(wrL (stN T ss)).length<=280000000/\(stN T ss).length<=1000000) (Z:Tab w) (J:Db w) :
  Calls prog 52 #[.pointer (some ⟨R,0,none⟩),v,.map (some G)] w (jx S (N+14) w D R t G false q o (Yk T)):=by
 have h2:=I.c.2.2.1;have V:=M1 S N D R t G n false q o a0 T w h M I Q j O L Y A Z J;clear h I L A M;go_enter func52,ntmps52;go_wp2_with (go_at_call 61;refine V.mono ?_;intro e w1 k;obtain⟨_,_,rfl,_⟩:=id k;have K:=hid k;clear k)
 exact bodyPost_ret (results_tmp results52 _ _ _) rfl K.out
def Tl93 (S:Nat->Prop) (N:Nat) (w:World) (D R t t':Nat) (q:Bool) (o:Option (List Int)) (fs:Str->Prop) (W:World):Prop:=Calls prog 93 #[.pointer (some ⟨R,0,none⟩),.map (some t')] W fun e w'=>∃ v,e=.returned v/\jx S N w D R t t' true q o fs (.returned v) w'
theorem zvW (S:Nat->Prop) (N D R t Y:Nat) (q:Bool) (f:Str) (a0:Ds) (a:Option Addr) (c:Nat) (ss:List Sp) (w:World) (h:Dm S N w D q a0) (ho:Ra.Old pr nw (some (nm f)) a0) (hR:Rf w R D t true false) (hS:¬ S R) (L:∀ i,S i->i<w.heap.size) (hN:N<=70000)
  (hP:Px zJ 68 dS w a c ss) (ak:∀ s ∈ ss,StL s) (hl:(wrL ss).length<=280000000) (aD:ss.length<=1000000) (ht:Tab w) (ai:Db w) :
  Calls prog 52 #[.pointer (some ⟨R,0,none⟩),.slice a ss.length c,.map (some Y)] w (jx S (N+14) w D R t Y true q (some (nm f)) (fun f'=>f'=f++bkS (wrL ss))):=by
 obtain⟨r,HR⟩:=nm_ w.heap.size;have ao:=QQ R D t true w hR;have h2:=hR.c.2.2.1;have av:R<r:=by rw[<-HR.out];exact z7 hR.box
 have Z:Hid (∀ W,Below r w W->W.cell? ⟨R,0,none⟩=some (.pointer (some ⟨D,0,none⟩))):=fun W hW=>(hW.cell (p:=⟨R,0,none⟩) av).trans hR.c.1
 have HL:Hid (∀ W,Below r w W->Calls prog 92 #[.slice a ss.length c] W fun e w1=>Below W.heap.size W w1/\∃ v,e=.returned v/\Calls prog 91 #[v] w1 fun e2 w2=>Below W.heap.size W w2/\∃ g cap,e2=.returned (.slice (some ⟨g,0,none⟩) (bkS (wrL ss)).length cap)/\PB w2 (some ⟨g,0,none⟩) cap (bkS (wrL ss))/\W.heap.size<=g/\g<w2.heap.size):=fun W hW=>I2 a c ss W (ht.below (by rw[HR.out];exact hW)) (ai.below (by rw[HR.out];exact hW)) (hP.below (by rw[HR.out];exact hW)) ak hl aD
 obtain⟨bs,a7⟩:∃ bs,bkS (wrL ss)=bs:=⟨_,rfl⟩;have aF:bs.length<=280000105:=by
  rw[<-a7];unfold bkS;rw[Wzy,xW _ (by omega)];omega
 obtain⟨n,hn⟩:∃ n,ss.length=n:=⟨_,rfl⟩;obtain⟨bl,V⟩:∃ n,bs.length=n:=⟨_,rfl⟩
 have ad:Hid (∀ W g cap,Below r w W->r<=g->PB W (some ⟨g,0,none⟩) cap bs->Calls prog 90 #[.pointer (some ⟨D,0,none⟩),sV pr,.slice (some ⟨g,0,none⟩) bl cap] W (Ei (fun b M=>M.cell? ⟨R,0,none⟩=some (.pointer (some ⟨D,0,none⟩))/\∃ k,Er b k M/\k ≠ 3/\jx S (N+14) w D R t Y true q (some (nm f)) (fun f'=>f'=f++bkS (wrL ss)) (.returned (eV b)) M) (fun M=>M.cell? ⟨R,0,none⟩=some (.pointer (some ⟨D,0,none⟩))/\Tl93 S (N+14) w D R t Y q (some (nm f)) (fun f'=>f'=f++bkS (wrL ss)) M))):=fun W g cap hW hg hP=>by
  have ag:Below w.heap.size w W:=by rw[HR.out];exact hW
  have hD:=h.below ag;obtain⟨G,hG⟩:=id hD;have:=Kj (Sn S W) N D q a0 pr nw (some ⟨g,0,none⟩) cap (nm bs) W hD.typed Wq U3 (Ne.symm X9) (fun y hy=>hG.two_now hy) (qxw hP) (fun p hp hs=>by cases hp;have h5:g<w.heap.size:=L _ hs.1;have:=HR.out;omega) (by rw[x9];omega);rw[x9,V] at this;refine this.mono ?_;rintro e M ⟨v,a1,rfl,k1,k2,k3⟩
  have b1:Rb S N w M D R t true false q a1:=Rb.of hR hS L ag k2 k3;rcases k1 with ⟨rfl,b,k,rfl,aE,he,J⟩ | ⟨rfl,B,zs,s,e1,e2,rfl⟩
  ·have aC:(k=1/\q=false) ∨ k=2:=by
    rcases J with J | ⟨_,J⟩ | J
    ·exact .inl J
    ·have:=ho.hs.now;unfold Ra.ct at this;rw[J] at this;cases this
    exact .inr J
   exact Ei.bad b ⟨b1.rf.c.1,k,he,by omega,_,_,rfl,.inr (.inl ⟨b,k,rfl,he,aC,ho.hs,b1.more (by omega)⟩)⟩
  obtain⟨hh,rfl⟩:=Ra.hs_app ho.wf ho.hs B zs (nm bs) s e1 e2;refine Ei.ok ⟨b1.rf.c.1,(M0 S N w M D R t Y true false q (some (nm f)) (some (nm (f++bs))) _ b1 (by rw[KJ];exact hh) (by omega)).mono ?_⟩;intro e w' hp;have hq:=jx.of_tell (fs:=fun f'=>f'=f++bkS (wrL ss)) (t:=t) (go:=true) (by rw[a7]) hp (N:=N+14) (by omega);obtain⟨v,_,_,rfl,_⟩:=id hp;exact⟨v,rfl,hq⟩
 have a6:Hid (∀ W,Tl93 S (N+14) w D R t Y q (some (nm f)) (fun f'=>f'=f++bkS (wrL ss)) W->Calls prog 93 #[.pointer (some ⟨R,0,none⟩),.map (some Y)] W fun e w'=>∃ v,e=.returned v/\jx S (N+14) w D R t Y true q (some (nm f)) (fun f'=>f'=f++bkS (wrL ss)) (.returned v) w'):=fun W h=>h;have a8:=fun b k W (hb:Er b k W) (J:k ≠ 3)=>qxj b k J W hb.c1
 have ax:=Z.out w (Below.refl _ _);have aB:=fun W=>Rj 32 (.int .i64 3) W;rw[a7] at HL;rw[hn] at HL ⊢;rw[V] at HL;clear h hR hP ak ht ai L hn ho hS;go_enter func52,ntmps52;go_wp2_with (go_at_call 89;refine ao.mono ?_;rintro e w1 ⟨rfl,ap⟩;have ar:=ap.symm;subst ar;clear ap ao)
 refine wp_region_held_drew (S:=fun W=>W.cell? ⟨R,0,none⟩=some (.pointer (some ⟨D,0,none⟩))) (by kernel_rfl) ax (fun j=>?_);have I:Below r w w.drew:=by rw[<-HR.out];exact zj _ _ 1
 generalize w.drew=u0 at j I ⊢;iterate 5
  refine qy (v:=?_) j ?_ ?_;rotate_left
  ·intro w' c0;go_simp;rfl
  try simp only[Act.put,sL]
 have A:r<=u0.heap.size:=by have:=I.size;have:=HR.out;omega
 refine vk 5 92 [.tmp 26] [.slice a n c] (HL.out u0 I) ?_;rintro e u2 ⟨O,v2,rfl,au⟩;have aw:Below r w u2:=I.trans (O.mono A);refine⟨_,rfl,Z.out _ aw,fun j=>?_⟩;try simp only[Act.put,sL]
 refine vk 6 91 [.tmp 27] [v2] au ?_;rintro e u3 ⟨Q,g,cap,rfl,am,aj,az⟩;have ah:Below r w u3:=I.trans (Q.mono A);refine⟨_,rfl,Z.out _ ah,fun j=>?_⟩;try simp only[Act.put,sL]
 refine vk 7 90 [.tmp 25,.const (.string ⟨#[112,97,99,107,101,100,45,114,101,102,115]⟩),.tmp 28] [.pointer (some ⟨D,0,none⟩),sV pr,.slice (some ⟨g,0,none⟩) bl cap] (ad.out u3 g cap ah (Wz9 A aj) am) ?_;rintro e u4 ⟨v4,rfl,k4⟩;have K:=hid k4;have ay:u4.cell? ⟨R,0,none⟩=some (.pointer (some ⟨D,0,none⟩)):=by
  rcases k4 with ⟨_,_,h,_⟩ | ⟨_,h,_⟩ <;> exact h
 clear k4;refine⟨_,rfl,ay,fun j=>?_⟩;try simp only[Act.put,sL]
 refine qy (v:=?_) j ?_ ?_;rotate_left
 ·intro w' c0;go_simp;rfl
 try simp only[Act.put,sL]
 refine wpAnyH_done (by kernel_rfl) ?_ _;clear j am aj az Q O HL ad;rcases K.out with ⟨b,rfl,_,k,he,J,hp⟩ | ⟨rfl,_,c1⟩
 ·have aA:=a8 b k u4 he J;have HX:=hid hp;clear K a6 hp a8;go_wp2_with (go_at_call 34;refine aA.mono ?_;rintro e w' ⟨rfl,hw⟩;have ac:=hw.symm;subst ac;clear hw)
  exact bodyPost_ret (results_tmp results52 _ _ _) rfl HX.out
 have ae:=a6.out u4 c1;clear K a6 c1 a8;go_wp2_with (first
  | (go_at_call 34;refine(aB _).mono ?_;rintro e w' ⟨rfl,hw⟩;have ac:=hw.symm;subst ac;clear hw)
  | (go_at_call 93;refine ae.mono ?_;rintro e w5 ⟨v,rfl,k⟩;have K:=hid k;clear k ae))
 exact bodyPost_ret (results_tmp results52 _ _ _) rfl K.out
def bad (rs:List Rx) (i k:Nat):Prop:=((rs.getD i dR).1++[47]).length<(rs.getD k dR).1.length/\(rs.getD k dR).1.take ((rs.getD i dR).1++[47]).length=(rs.getD i dR).1++[47]
theorem I9 (rs:List Rx):Rk.clD (rs.map (·.1)) ↔ ∃ i k,i<rs.length/\k<rs.length/\bad rs i k:=by
 have key:∀ (P:Str->Prop),(∃ a ∈ rs.map (·.1),P a) ↔ ∃ i,i<rs.length/\P (rs.getD i dR).1:=fun P=>by
  constructor
  ·rintro⟨a,D,A⟩;obtain⟨x,hx,rfl⟩:=Wz6.1 D;obtain⟨i,hi,rfl⟩:=List.getElem_of_mem hx;exact⟨i,hi,by rw[List.getD_eq_getElem?_getD,List.getElem?_eq_getElem hi];exact A⟩
  rintro⟨i,hi,A⟩;exact⟨_,Wz6.2 ⟨_,zQ rs i dR hi,rfl⟩,A⟩
 unfold Rk.clD;rw[key];simp only[key];constructor
 ·rintro⟨i,hi,k,j,h⟩;exact⟨i,k,hi,j,h⟩
 rintro⟨i,k,hi,j,h⟩;exact⟨i,hi,k,j,h⟩
theorem results57:f57.results=#[.tmp 2]:=by kernel_rfl
def A9 (rs:List Rx) (w:World) (e:Ending) (w':World):Prop := ∃ b:Bool,e=.returned (.bool b)/\(b=true ↔ Rk.clD (rs.map (·.1)))/\w'=w
theorem Ny {G Q:Nat} {v1 v2:Value} {rs:List Rx} {ls:List Ex} (w:World) (h:Dq G w Q v1 v2 rs ls) :
  Calls prog 57 #[.pointer (some ⟨Q,0,none⟩)] w (A9 rs w):=by
 obtain⟨a,c,-,hP,-,aA⟩:=h.px1;have ai:=h.few.1;have ag:=hid h.ok1;obtain⟨N,O⟩:=nm_ rs.length;rw[O.out] at aA ai;have HP:=hid hP;have HC:Hid (∀ i,i<N->∃ b off,a=some ⟨b,off,none⟩/\∀ j,j<N->w.cell? ⟨b,off+j*22,none⟩=some (sV (rs.getD j dR).1)):=fun i hi=>by
  obtain⟨b,off,e1,_,e3⟩:=HP.out.at_ (by rw[O.out];omega);exact⟨b,off,e1,fun j hj=>e3 j (by rw[O.out];exact hj) 0 _ rfl⟩
 clear hP h;go_enter func57,ntmps57;go_wp2;go_loopg [3] N (fun q iv wr=>∃ i:Nat,iv=.int .i64 i/\q=N-i/\i<=N/\wr=w/\Hid (∀ D,D<i->∀ A,A<N->¬ bad rs D A));case atStart=>exact⟨0,rfl,rfl,Nat.zero_le _,rfl,hid (fun j hj=>by omega)⟩
 obtain⟨i,rfl,hq,aN,aG,HI⟩:=hrel;have ar:=aG.symm;subst ar;by_cases K:i<N;rotate_left
 ·have ao:¬ (i:Int)<(N:Int):=by omega
  obtain rfl:i=N:=by omega
  have HF:Hid (¬ Rk.clD (rs.map (·.1))):=hid (fun hc=>by
   obtain⟨D,A,h1,h2,h3⟩:=(I9 rs).1 hc;rw[O.out] at h1 h2;exact HI.out D h1 A h2 h3)
  go_wp2;exact bodyPost_ret (results_tmp results57 _ _ _) rfl ⟨false,rfl,⟨fun hh=>(by cases hh),fun hh=>absurd hh HF.out⟩,rfl⟩
 have ao:(i:Int)<(N:Int):=by omega
 obtain⟨b,off,az,ah⟩:=HC.out i K;subst az;have ae:=hid ah;clear ah;obtain⟨x,hx⟩:∃ x,(rs.getD i dR).1=x:=⟨_,rfl⟩;have au:x.length<=60:=by rw[<-hx];exact(ag.out _ (zQ rs i dR (by rw[O.out];exact K))).1
 have a6:=ae.out i K;rw[hx] at a6;obtain⟨X,HX⟩:=nm_ (⟨x.toArray⟩:ByteArray);obtain⟨nx,L⟩:∃ n,x.length=n:=⟨_,rfl⟩;have aK:X.size=nx:=by rw[<-HX.out,<-L];simp[Wqz]
 have aQ:(⟨#[47]⟩:ByteArray).size=1:=rfl;have ac:Hid (X ++ ⟨#[47]⟩=⟨(x++[47]).toArray⟩):=hid (by rw[<-HX.out,show (⟨#[47]⟩:ByteArray)=⟨[47].toArray⟩ from rfl,yZ]);have aC:nx<=60:=by rw[<-L];exact au
 unfold sV at a6;rw[HX.out] at a6;have ay:=hid hx;have aw:=hid L;clear hx L;go_wp2;go_loopg [4] N (fun q kv wr=>∃ k:Nat,kv=.int .i64 k/\q=N-k/\k<=N/\wr=w/\Hid (∀ A,A<k->¬ bad rs i A));case atStart=>exact⟨0,rfl,rfl,Nat.zero_le _,rfl,hid (fun j hj=>by omega)⟩
 case round =>
 obtain⟨k,rfl,aP,aO,aF,HK⟩:=hrel;have ap:=aF.symm;subst ap;by_cases a8:k<N;rotate_left
 ·have am:¬ (k:Int)<(N:Int):=by omega
  obtain rfl:k=N:=by omega
  have av:Hid (∀ D,D<i+1->∀ A,A<k->¬ bad rs D A):=fun D aM A J=>by
   by_cases e:D=i
   ·rw[e];exact HK.out A J
   exact HI.out D (by omega) A J
  go_wp2;go_roundg (k-(i+1));case measure=>omega
  case rel=>exact⟨i+1,by go_num,rfl,by omega,rfl,av⟩
 have am:(k:Int)<(N:Int):=by omega
 obtain⟨y,hy⟩:∃ y,(rs.getD k dR).1=y:=⟨_,rfl⟩;have a7:=ae.out k a8;rw[hy] at a7;have aI:y.length<=60:=by rw[<-hy];exact(ag.out _ (zQ rs k dR (by rw[O.out];exact a8))).1
 obtain⟨ny,M⟩:∃ n,y.length=n:=⟨_,rfl⟩;obtain⟨Y,HY⟩:=nm_ (⟨y.toArray⟩:ByteArray);have aL:Y.size=ny:=by rw[<-HY.out,<-M];simp[Wqz]
 have V:Hid (bad rs i k ↔ nx+1<ny/\y.take (nx+1)=x++[47]):=hid (by
  unfold bad;rw[ay.out,hy,Wzy,List.length_singleton,aw.out,M])
 unfold sV at a7;rw[HY.out] at a7;have aD:ny<=60:=by omega
 have aJ:=hid hy;have ax:=hid M;clear hy M;by_cases aj:nx+1<ny;rotate_left
 ·have ak:¬ ((nx:Int)+1<(ny:Int)):=by omega
  have Z:Hid (∀ A,A<k+1->¬ bad rs i A):=fun A J=>by
   by_cases e:A=k
   ·rw[e];exact fun hb=>aj (V.out.1 hb).1
   exact HK.out A (by omega)
  go_wp2;go_roundg (N-(k+1));case measure=>omega
  case rel=>exact⟨k+1,by go_num,rfl,by omega,rfl,Z⟩
 have ak:(nx:Int)+1<(ny:Int):=by omega
 have aE:∀ W:World,(Instr.slice 9 (.string Y) none (some (.int .i64 ((nx:Int)+1))) none).run prog W=.ok (.string ⟨(y.take (nx+1)).toArray⟩) W:=fun W=>by
  have:=Nm.slc_to y (nx+1) (by rw[ax.out];omega) W;rw[HY.out] at this;push_cast at this;exact this
 obtain⟨T,HT⟩:=nm_ (⟨(y.take (nx+1)).toArray⟩:ByteArray);rw[HT.out] at aE;by_cases I:y.take (nx+1)=x++[47]
 ·have hb:T=X ++ ⟨#[47]⟩:=by rw[<-HT.out,ac.out,I]
  have ad:Hid (Rk.clD (rs.map (·.1))):=hid ((I9 rs).2 ⟨i,k,by rw[O.out];exact K,by rw[O.out];exact a8,V.out.2 ⟨aj,I⟩⟩);subst hb;go_wp2;exact bodyPost_ret (results_tmp results57 _ _ _) rfl ⟨true,rfl,⟨fun _=>ad.out,fun _=>rfl⟩,rfl⟩
 have aB:(T.toList == (X ++ ⟨#[47]⟩:ByteArray).toList)=false:=by
  rw[<-HT.out,ac.out,Lib.toList_data,Lib.toList_data];simpa using I
 have aH:(T == (X ++ ⟨#[47]⟩:ByteArray))=false:=by rw[beq_toListBytes];exact aB
 have Z:Hid (∀ A,A<k+1->¬ bad rs i A):=fun A J=>by
  by_cases e:A=k
  ·rw[e];exact fun hb=>I (V.out.1 hb).2
  exact HK.out A (by omega)
 go_wp2;go_roundg (N-(k+1));case measure=>omega
 case rel=>exact⟨k+1,by go_num,rfl,by omega,rfl,Z⟩
end Go.Proofs.YtdnphaganajejaaGreatDoor.K
