import Derived.Test.YtdnphaganajejaaGreatDoorMz22
import Derived.Test.YtdnphaganajejaaGreatDoorMz23
set_option linter.unusedSimpArgs false
set_option linter.unusedVariables false
set_option maxRecDepth 20000
set_option maxHeartbeats 4000000
open Nat renaming le_refl->Wz8,le_trans->Wz9
open Option renaming some->Wq8
namespace Go.Proofs.YtdnphaganajejaaGreatDoor.K
open Go.Proofs.Tryz
open Go.RowKit
theorem Nk (a:Option Addr) (c:Nat) (l:List Le) (w:World) (h:Px qw 45 dL w a c l) (V:∀ e ∈ l,vY e) (Q:l.length<=1000000) :
  Calls prog 63 #[.slice a l.length c] w fun e w'=>∃ v,e=.returned v/\Bx qw 45 133 w w' w.heap.size v l:=by
 have Y:∀ (w:World) (a:Option Addr) (n c K G:Nat),(binOp .eql 127 (.slice a n c) (.slice none K G)).run prog w=.ok (.bool a.isNone) w:=fun w a n c K G=>Lib.run_eql_slice_nil w _ _ a n c K G SX;obtain⟨L,D⟩:=nm_ l.length;rw[D.out];cases a with
 | none =>
  have h0:l=[]:=List.length_eq_zero_iff.1 (by have:=h.capl;have:=h.nil rfl;omega);subst h0;have:L=0:=D.out.symm;subst this;go_enter func63,ntmps63;go_wp2_with fail
  exact bodyPost_ret (results_tmp results63 _ _ _) rfl ⟨_,rfl,Below.refl _ _,World.ownsRow_nil _ _ _ _,Wz8 _⟩
 | some p =>
  have M:Hid (Bx qw 45 133 w (w.alloc (.cells #[] 133)) w.heap.size (.slice (some ⟨w.heap.size,0,none⟩) 0 0) []):=hid ⟨(Below.refl _ w).alloc (Wz8 _) _,World.ownsRow_made w #[] 0 (Wz8 _) (Nat.zero_le _) (by simp),by simp⟩;have HP:Hid (Px qw 45 dL (w.alloc (.cells #[] 133)) (some p) c l):=hid (h.below ((Below.refl _ w).alloc (Wz8 _) _));have O:=hid V
  go_enter func63,ntmps63;go_wp2_with (at_builtin;refine zy (enc:=qw) (k:=45) (d:=dL) rfl _ _ 127 133 SX UW rfl (by decide) (by decide) uZ rfl _ _ [] rfl M.out (some p) c l (by rw[D.out];rfl) HP.out (fun x hx=>yQ (O.out x hx)) (by simpa using Wz9 Q (by decide)) ?_;intro v2 w2 j I J;have A:=hid j;clear j I J)
  exact bodyPost_ret (results_tmp results63 _ _ _) rfl ⟨_,rfl,A.out⟩
def lgN (T:Ts) (x:Str):Except Int (List Le):=match gt T x with
 | .error k=>.error k
 | .ok r=>.ok r.log
def oL (o:Except Int (List Le)):List Le:=match o with
 | .ok l=>l
 | .error _=>[]
theorem qq6 (S:Nat->Prop) (R D t n:Nat) (go un:Bool) (T:Ts) (x:Str) (w:World) (hR:Rf w R D t go un) (h:Tt S w t n T) (hm:Nm.Mx w) :
  Calls prog 71 #[.pointer (some ⟨R,0,none⟩),sV x] w fun e w'=>∃ v,e=.returned (.tuple #[v,oE (lgN T x)])/\Bx qw 45 133 w w' w.heap.size v (oL (lgN T x)):=by
 obtain⟨_,h1,_⟩:=hR.c;have K:=Rq S t n T x w h hm;unfold SQ at K;have HB:Hid (∀ w1 o,Below w.heap.size w w1->Below w.heap.size w (w1.alloc o)):=fun w1 o hb=>hb.alloc hb.size o;cases j:gt T x with
 | error k =>
  have e1:lgN T x=.error k:=by unfold lgN;rw[j]
  obtain⟨A,I⟩:=ra r0 rfl;rw[j] at K;simp only[I.out.e] at K;rw[e1];unfold sV at K ⊢;simp only[oL,oE];clear h hR j e1;go_enter func71,ntmps71;go_wp2_with (first
   | (go_at_call 62;refine K.mono ?_;rintro e w1 ⟨rfl,G⟩;have V:=hid (HB.out w1 (.cells A 129) G);clear G)
   | (refine zq rfl 129 (.tmp 6) (.tmp 15) rfl _ A rfl rfl I.out.i I.out.z I.out.o ?_))
  exact bodyPost_ret (results_tmp2 results71 _ _ _) rfl ⟨_,rfl,V.out,World.ownsRow_nil _ _ _ _,V.out.size⟩
 | ok r =>
  obtain⟨hr,-⟩:=zx9 h j;have M:=hid hr;obtain⟨A,I⟩:=ra r hr.id.1;have hc:=fun W=>(vZ I.out hr.id.1 W).2;have e1:lgN T x=.ok r.log:=by unfold lgN;rw[j]
  rw[j] at K;simp only[I.out.e] at K;have Q:=fun W (hW:Below w.heap.size w W)=>Nk r.a r.c r.log W (M.out.px.below hW) M.out.ok (Wz9 M.out.few (by decide));obtain⟨ll,a6⟩:=nm_ r.log.length;rw[a6.out] at hc Q;rw[e1];unfold sV at K ⊢;simp only[oL,oE];clear h hR j e1 hr;go_enter func71,ntmps71;go_wp2_with (first
   | (go_at_call 62;refine K.mono ?_;rintro e w1 ⟨rfl,G⟩;have O:=HB.out w1 (.cells A 129) G;have Z:=Q _ O;have J:=hid O;have a7:=hc w1;clear G O Q hc)
   | (go_at_call 63;refine Z.mono ?_;rintro e w2 ⟨v,rfl,Y⟩;have L:=hid Y;clear Y)
   | (refine zq rfl 129 (.tmp 6) (.tmp 15) rfl _ A rfl rfl I.out.i I.out.z I.out.o ?_))
  refine bodyPost_ret (results_tmp2 results71 _ _ _) rfl ⟨v,rfl,J.out.trans (L.out.below.mono J.out.size),?_,Wz9 J.out.size (L.out.below.size)⟩;obtain⟨hl,h1 | ⟨g,cap,cur,hv,hb,r⟩⟩:=L.out.own
  ·exact⟨hl,.inl h1⟩
  exact⟨hl,.inr ⟨g,cap,cur,hv,Wz9 J.out.size hb,r⟩⟩
theorem results143:f143.results=#[.tmp 2]:=by kernel_rfl
theorem RX (s:Sp) (hs:vV s) (V:isN s.name=true) (Y:s.word=wD) (w:World) (D:Mx w):Calls prog 143 #[.agg (zJ s).toArray] w fun r w'=>r=.returned (.bool true)/\Below w.heap.size w w':=by
 obtain⟨B,M⟩:=sa s hs w.heap.size;obtain⟨w1,J⟩:∃ w1,w.alloc (.cells B 146)=w1:=⟨_,rfl⟩;have A:w1.heap[w.heap.size]? = some (.cells B 146):=by rw[<-J];exact heap_alloc_new _ _
 have j:Below w.heap.size w w1:=by rw[<-J];exact(Below.refl _ w).alloc (Wz8 _) _
 have I:=M.out.c1 w1 A;have h:=x6 s.name w1 (D.below j);rw[V] at h;have L:Hid (∀ W,Below w1.heap.size w1 W->Qs w.heap.size ⟨s.word.toArray⟩ ⟨s.name.toArray⟩ ⟨s.tg.toArray⟩ (row .u8 s.id) (qw s.e) W):=fun W O=>Pk M.out ((O.block _ (z7 A)).trans A);have a6:Hid (∀ W,Below w1.heap.size w1 W->Mx W):=fun W O=>(D.below j).below O
 have G:=hid j;rw[M.out.e];unfold sV at I h;obtain⟨NM,K⟩:=nm_ (⟨s.name.toArray⟩:ByteArray);rw[K.out] at I h L;rw[Y] at L;clear A j V Y hs D;go_enter func143,ntmps143;go_wp2_with (first
  | (go_at_call 60;refine h.mono ?_;rintro r w2 ⟨rfl,hb⟩;have Z:=hid hb;have Q2:=L.out w2 hb;have Q:=Q2.c0;unfold wD at Q;clear hb Q2 h))
 exact bodyPost_ret (results_tmp results143 _ _ _) rfl ⟨rfl,G.out.trans (Z.out.mono G.out.size)⟩
theorem Py (s:Sp) (hs:vV s) (hn:isN s.name=true) (hw:s.word=wR) (K:s.id ≠ zZ) (w:World) (D:Mx w):Calls prog 143 #[.agg (zJ s).toArray] w fun r w'=>r=.returned (.bool true)/\Below w.heap.size w w':=by
 obtain⟨B,Y⟩:=sa s hs w.heap.size;obtain⟨w1,L⟩:∃ w1,w.alloc (.cells B 146)=w1:=⟨_,rfl⟩;have A:w1.heap[w.heap.size]? = some (.cells B 146):=by rw[<-L];exact heap_alloc_new _ _
 have j:Below w.heap.size w w1:=by rw[<-L];exact(Below.refl _ w).alloc (Wz8 _) _
 have J:=Y.out.c1 w1 A;have h:=x6 s.name w1 (D.below j);rw[hn] at h;have M:Hid (∀ W,Below w1.heap.size w1 W->Qs w.heap.size ⟨s.word.toArray⟩ ⟨s.name.toArray⟩ ⟨s.tg.toArray⟩ (row .u8 s.id) (qw s.e) W):=fun W Z=>Pk Y.out ((Z.block _ (z7 A)).trans A);have a8:Hid (∀ W,Below w1.heap.size w1 W->Mx W):=fun W Z=>(D.below j).below Z
 have G:=hid j;rw[Y.out.e];unfold sV at J h;obtain⟨NM,Q⟩:=nm_ (⟨s.name.toArray⟩:ByteArray);rw[Q.out] at J h M;rw[hw] at M;obtain⟨R,O⟩:=ri s.id hs.id.1;have I:Hid ((prog.info? 116).map (·.size)=some R.toList.length):=hid (by simpa using O.out.i)
 have a7:∀ W:World,(Op.equalIn 10000 116 (.agg R) (.agg z89)).run prog W=.ok false W:=fun W=>by rw[<-Fy,<-O.out.e,KZ 116 Y8 _ _ hs.id.1 rfl W,decide_eq_false K]
 unfold z89 at a7;have V:Hid (row .u8 s.id=R.toList):=hid (by rw[<-O.out.e]);rw[V.out] at M;clear A j hn hw hs D K;go_enter func143,ntmps143;go_wp2_with (first
  | (go_at_call 60;refine h.mono ?_;rintro r w2 ⟨rfl,hb⟩;have B2:=hid hb;have Q2:=M.out w2 hb;have a6:=Q2.c0;unfold wR at a6;have R2:Hid (w2.rangeAt w.heap.size 2 R.toList):=hid Q2.r2;clear hb Q2 h)
  | (refine wpList_load_mid rfl 116 (.tmp 11) rfl _ 2 rfl R.toList _ R2.out underlying116 rfl I.out ?_;simp only[Array.toArray_toList];go_frame))
 exact bodyPost_ret (results_tmp results143 _ _ _) rfl ⟨rfl,G.out.trans (B2.out.mono G.out.size)⟩
theorem RJ (s:Sp) (hs:vV s) (hn:isN s.name=true) (hw:s.word=wL) (Q:isN s.tg=true) (O:s.tg ≠ s.name) (w:World) (G:Mx w):Calls prog 143 #[.agg (zJ s).toArray] w fun r w'=>r=.returned (.bool true)/\Below w.heap.size w w':=by
 obtain⟨B,HS⟩:=sa s hs w.heap.size;obtain⟨w1,V⟩:∃ w1,w.alloc (.cells B 146)=w1:=⟨_,rfl⟩;have D:w1.heap[w.heap.size]? = some (.cells B 146):=by rw[<-V];exact heap_alloc_new _ _
 have A:Below w.heap.size w w1:=by rw[<-V];exact(Below.refl _ w).alloc (Wz8 _) _
 have M:=HS.out.c1 w1 D;have j:=x6 s.name w1 (G.below A);rw[hn] at j;have K:Hid (∀ W,Below w1.heap.size w1 W->Qs w.heap.size ⟨s.word.toArray⟩ ⟨s.name.toArray⟩ ⟨s.tg.toArray⟩ (row .u8 s.id) (qw s.e) W):=fun W hW=>Pk HS.out ((hW.block _ (z7 D)).trans D);have Z:Hid (∀ W,Below w1.heap.size w1 W->Mx W):=fun W hW=>(G.below A).below hW
 have I:=hid A;rw[HS.out.e];unfold sV at M j;obtain⟨NM,J⟩:=nm_ (⟨s.name.toArray⟩:ByteArray);rw[J.out] at M j K;rw[hw] at K;have h:=fun W hm=>x6 s.tg W hm;rw[Q] at h;unfold sV at h;obtain⟨TG,L⟩:=nm_ (⟨s.tg.toArray⟩:ByteArray);rw[L.out] at h K;have a6:(TG.toList == NM.toList)=false:=by
  rw[<-L.out,<-J.out,Lib.toList_data,Lib.toList_data];simpa using O
 have a8:(TG == NM)=false:=by rw[beq_toListBytes];exact a6
 clear D A hn hw hs G Q O;go_enter func143,ntmps143;go_wp2_with (first
  | (go_at_call 60;refine j.mono ?_;rintro r w2 ⟨rfl,hb⟩;have Y:=hid hb;have Q2:=K.out w2 hb;have a7:=Q2.c0;unfold wL at a7;have ac:=Q2.c22;have ae:=Q2.c1;clear hb Q2 j)
  | (go_at_call 60;refine(h _ (Z.out _ Y.out)).mono ?_;rintro r w3 ⟨rfl,hb⟩;have B3:Hid (Below w1.heap.size w1 w3):=hid (Y.out.trans (hb.mono Y.out.size));have Q3:=K.out w3 B3.out;have ad:=Q3.c22;have ag:=Q3.c1;clear hb Q3 h))
 exact bodyPost_ret (results_tmp results143 _ _ _) rfl ⟨rfl,I.out.trans (B3.out.mono I.out.size)⟩
theorem Pu (s:Sp) (hs:vV s) (hn:isN s.name=true) (hw:s.word=wG) (hg:okG s.e.who s.e.text) (w:World) (K:Mx w):Calls prog 143 #[.agg (zJ s).toArray] w fun r w'=>r=.returned (.bool true)/\Below w.heap.size w w':=by
 obtain⟨B,HS⟩:=sa s hs w.heap.size;obtain⟨w1,Y⟩:∃ w1,w.alloc (.cells B 146)=w1:=⟨_,rfl⟩;have I:w1.heap[w.heap.size]? = some (.cells B 146):=by rw[<-Y];exact heap_alloc_new _ _
 have G:Below w.heap.size w w1:=by rw[<-Y];exact(Below.refl _ w).alloc (Wz8 _) _
 have V:=HS.out.c1 w1 I;have D:=x6 s.name w1 (K.below G);rw[hn] at D;have HQ:Hid (∀ W,Below w1.heap.size w1 W->Qs w.heap.size ⟨s.word.toArray⟩ ⟨s.name.toArray⟩ ⟨s.tg.toArray⟩ (row .u8 s.id) (qw s.e) W):=fun W L=>Pk HS.out ((L.block _ (z7 I)).trans I);have ae:Hid (∀ W,Below w1.heap.size w1 W->Mx W):=fun W L=>(K.below G).below L
 have M:=hid G;rw[HS.out.e];unfold sV at V D;obtain⟨NM,a7⟩:=nm_ (⟨s.name.toArray⟩:ByteArray);rw[a7.out] at V D HQ;rw[hw] at HQ;have A:=fun W=>KY s.e.who s.e.text (by have:=hg.2.1;omega) W;obtain⟨P,J⟩:∃ P:List Value,Hid (x8 s.e.who=P.toArray):=⟨(x8 s.e.who).toList,hid (by simp)⟩
 have a8:Hid ((prog.info? 45).map (·.size)=some P.length):=hid (by rw[show P.length=4 by rw[<-List.size_toArray,<-J.out];rfl];kernel_rfl);obtain⟨TX,O⟩:=nm_ (⟨s.e.text.toArray⟩:ByteArray);have a6:Hid (∀ W:World,W.rangeAt w.heap.size 23 (qw s.e)->W.rangeAt w.heap.size 63 P/\W.cell? ⟨w.heap.size,67,none⟩=some (.string TX)):=fun W L=>by
  have h1:(row .u8 s.e.old).length=20:=by rw[zv];exact hs.e.1.1
  have h2:(row .u8 s.e.new).length=20:=by rw[zv];exact hs.e.2.1
  have Q:P=(x8 s.e.who).toList:=by rw[J.out]
  refine⟨fun j v hv=>?_,?_⟩
  ·have hj:j<4:=(by have:=(List.getElem?_eq_some_iff.1 hv).1;rw[Q] at this;exact this);rw[show 63+j=23+(40+j) by omega];refine L (40+j) v ?_;unfold qw;rw[List.getElem?_append_right (by omega),h1,List.getElem?_append_right (by omega),h2,show 40+j-20-20=j by omega];rw[Q] at hv;rcases j with _ | _ | _ | _ | j
   ·exact hv
   ·exact hv
   ·exact hv
   ·exact hv
   omega
  have:=L 44 (sV s.e.text) (by
   unfold qw;rw[List.getElem?_append_right (by omega),h1,List.getElem?_append_right (by omega),h2];rfl)
  rw[<-O.out];exact this
 rw[J.out] at A;unfold sV at A;rw[O.out] at A;have Z:Hid (∀ W,Calls prog 51 #[.agg P.toArray,.string TX] W fun e w'=>e=.returned (.bool true)/\Below W.heap.size W w'):=fun W=>(A W).mono fun e w' ⟨h,hb⟩=>⟨by rcases Zq h with ⟨_,h⟩ | ⟨h,_⟩;exact h;exact absurd hg h,hb⟩;clear I G hn hw hs K hg A;go_enter func143,ntmps143;go_wp2_with (first
  | (go_at_call 60;refine D.mono ?_;rintro r w2 ⟨rfl,hb⟩;have B2:=hid hb;have Q2:=HQ.out w2 hb;have ac:=Q2.c0;unfold wG at ac;obtain⟨qp,ad⟩:=a6.out w2 Q2.r23;have QP:=hid qp;clear qp;clear hb Q2 D)
  | (refine wpList_load_mid rfl 45 (.tmp 30) rfl _ 63 rfl P _ QP.out underlying45 rfl a8.out ?_;go_frame)
  | (go_at_call 51;refine(Z.out _).mono ?_;rintro r w3 ⟨rfl,hb⟩;have B3:Hid (Below w1.heap.size w1 w3):=hid (B2.out.trans (hb.mono B2.out.size));clear hb))
 exact bodyPost_ret (results_tmp results143 _ _ _) rfl ⟨rfl,M.out.trans (B3.out.mono M.out.size)⟩
structure Bs (S:Nat->Prop) (N:Nat) (w W:World) (D:Nat) (q:Bool) (a:Ds):Prop where
 dm:Dm (Sx S w W) N W D q a
 al:Al S w W
theorem Bs.refl {S:Nat->Prop} {N D:Nat} {w:World} {q:Bool} {a:Ds} (h:Dm S N w D q a):Bs S N w w D q a:=⟨h.mono (fun i hi=>.inl hi) (Wz8 _),Al.refl _ _⟩
theorem Bs.more {S:Nat->Prop} {N N' D:Nat} {w W:World} {q:Bool} {a:Ds} (h:Bs S N w W D q a) (j:N<=N'):Bs S N' w W D q a:=⟨h.dm.mono (fun i hi=>hi) j,h.al⟩
theorem Bs.next {S:Nat->Prop} {N N' D:Nat} {w W j:World} {q:Bool} {a A:Ds} (h:Bs S N w W D q a) (I:Dm (Sx (Sx S w W) W j) N' j D q A) (G:Al (Sx S w W) W j):Bs S N' w j D q A:=⟨I.mono (zx6 h.al.size G.size) (Wz8 _),h.al.sx G⟩
theorem Dm.wf {S:Nat->Prop} {N D:Nat} {w:World} {q:Bool} {a:Ds} (h:Dm S N w D q a):Ra.Wf a:=by
 obtain⟨G,h⟩:=h;exact h.wf
theorem U3:nw.length<=4000:=by decide
theorem Wq:pr.length<=4000:=by decide
def uz (S:Nat->Prop) (N D:Nat) (q:Bool) (o:Option (List Int)) (bs:List Int) (w:World) (e:Ending) (w':World):Prop := ∃ v a',e=.returned v/\Ra.Old pr nw o a'/\((∃ b k,v=eV b/\Er b k w'/\((k=1/\q=false) ∨ k=2)) ∨ (v=.nilIface/\∃ B,a'.now nw=some B/\a'.nd B=some (bs,bs.length)))/\Bs S (N+10) w w' D q a'
theorem uz.bad {S:Nat->Prop} {N N' D:Nat} {q:Bool} {o:Option (List Int)} {bs:List Int} {w w':World} {a:Ds} {b:Nat} {k:Int} (I:Ra.Old pr nw o a) (A:Er b k w') (G:(k=1/\q=false) ∨ k=2) (h:Bs S N' w w' D q a) (j:N'<=N+10):uz S N D q o bs w (.returned (eV b)) w':=⟨_,a,rfl,I,.inl ⟨b,k,rfl,A,G⟩,h.more j⟩
theorem results99:f99.results=#[.tmp 6]:=by kernel_rfl
def Ei (P:Nat->World->Prop) (Q:World->Prop) (e:Ending) (w:World):Prop := ∃ v,e=.returned v/\((∃ b,v=eV b/\P b w) ∨ (v=.nilIface/\Q w))
theorem Ei.bad {P:Nat->World->Prop} {Q:World->Prop} {w:World} (b:Nat) (h:P b w):Ei P Q (.returned (eV b)) w:=⟨_,rfl,.inl ⟨b,rfl,h⟩⟩
theorem Ei.ok {P:Nat->World->Prop} {Q:World->Prop} {w:World} (h:Q w):Ei P Q (.returned .nilIface) w:=⟨_,rfl,.inr ⟨rfl,h⟩⟩
def Tl (S:Nat->Prop) (N D:Nat) (q:Bool) (o:Option (List Int)) (ab:Option Addr) (cb:Nat) (bs:List Int) (w W:World):Prop:=Calls prog 90 #[.pointer (some ⟨D,0,none⟩),sV nw,.slice ab bs.length cb] W (Ei (fun b W1=>uz S N D q o bs w (.returned (eV b)) W1) (fun W1=>Calls prog 39 #[.pointer (some ⟨D,0,none⟩),sV nw] W1 fun e2 W2=>∃ v,e2=.returned v/\uz S N D q o bs w (.returned v) W2))
theorem zv6 (S:Nat->Prop) (N N' D:Nat) (q:Bool) (o:Option (List Int)) (ab:Option Addr) (O:Nat) (bs:List Int) (a:Ds) (B:Nat) (w W:World) (h:Bs S N' w W D q a) (hN:N'<=N+8) (a6:N<=80000) (ho:Ra.Old pr nw o a) (A:a.now nw=some B) (hB:a.nd B=some ([],0)) (hb:Sl w ab O bs) (K:∀ p:Addr,ab=some p->¬ S p.block/\p.block<w.heap.size) (Y:bs.length<=500000000):Tl S N D q o ab O bs w W:=by
 obtain⟨G,hG⟩:=h.dm;have M:∀ y,a.now y ≠ none->y=nw ∨ y=pr:=fun y hy=>(hG.two_now hy).symm;refine(Kj (Sx S w W) N' D q a nw pr ab O bs W h.dm U3 Wq X9 M (qx9 hb (fun p hp=>(K p hp).1) h.al) (fun p hp hs=>?_) Y).mono ?_
 ·obtain⟨Q,h2⟩:=K p hp;rcases hs with hs | hs
  ·exact Q hs
  omega
 rintro e W1 ⟨v,a1,rfl,Q,h2,h3⟩;have b1:=h.next h2 h3;rcases Q with ⟨rfl,b,k,rfl,V,Z,j⟩ | ⟨rfl,C,zs,s,e1,J,rfl⟩
 ·refine Ei.bad b (uz.bad ho Z ?_ b1 (by omega));rcases j with j | ⟨_,j⟩ | j
  ·exact .inl j
  ·rw[A] at j;cases j
  exact .inr j
 rw[A] at e1;cases e1
 rw[hB] at J;cases Wq8.inj J
 rw[List.nil_append] at b1;have o1:=ho.put B A (bs,0) (Nat.zero_le _);refine Ei.ok ((LQ (Sx S w W1) N' D q _ nw W1 b1.dm U3).mono ?_);rintro e W2 ⟨v,a2,rfl,k1,k2,k3⟩;have b2:Bs S N' w W2 D q a2:=b1.next (k2.mono (fun i hi=>.inl hi) (Wz8 _)) k3;rcases k1 with ⟨rfl,b,k,rfl,V,Z,j⟩ | ⟨rfl,C,zs,s,e1,J,rfl⟩
 ·refine⟨_,rfl,uz.bad o1 Z ?_ b2 (by omega)⟩;rcases j with j | ⟨_,j⟩
  ·exact .inl j
  have L:a.now nw=none:=j;rw[A] at L;cases L
 have I:a.now nw=some C:=e1;rw[A] at I;cases I
 simp only[Ra.As.put,if_true] at J;cases Wq8.inj J
 exact⟨_,rfl,_,_,rfl,o1.put B A (bs,bs.length) (Wz8 _),.inr ⟨rfl,B,A,by simp[Ra.As.put]⟩,b2.more (by omega)⟩
def nD (w:World) (i:Nat):Prop := ∀ c T f,w.heap[i]? = some (.cells c T f)->T=63 ∨ T=84 ∨ T=5 ∨ T=79 ∨ T=154
theorem FY {w:World} {i:Nat} {c:Array Value} {T:TypeId} {f:Nat × Nat} (h:w.heap[i]? = some (.cells c T f)) (A:T=63 ∨ T=84 ∨ T=5 ∨ T=79 ∨ T=154):nD w i:=fun G D f' j=>by
 rw[h] at j;cases j
 exact A
theorem zv7 {w:World} {i:Nat} {es:Array MapEntry} {ck:Nat} (h:w.heap[i]? = some (.map es ck)):nD w i:=fun D A f' j=>by
 rw[h] at j;cases j
theorem zv8 {w:World} {B e k n:Nat} {v:Value} {xs:List Value} (h:w.ownsRow B e k v n xs) (j:e=63 ∨ e=84 ∨ e=5 ∨ e=79 ∨ e=154) {i:Nat} (hi:v.ownBlock=some i):nD w i:=by
 obtain⟨_,⟨rfl,rfl⟩ | ⟨g,cap,cur,rfl,_,A,_⟩⟩:=h
 ·cases hi
 simp only[Value.ownBlock,Wq8.injEq] at hi;subst hi;exact FY A j
theorem Dm.typed {S:Nat->Prop} {N D:Nat} {w:World} {q:Bool} {a:Ds} (h:Dm S N w D q a):Dm (fun i=>S i/\nD w i) N w D q a:=by
 obtain⟨G,h⟩:=h;refine⟨G,h.box,h.now,h.safe,h.ne,fun B zs s hB=>?_,h.sep,⟨h.mv.row,fun p I=>?_,fun i hi=>⟨h.mv.own i hi,zv8 h.mv.row (by decide) hi⟩⟩,h.ml,h.few,⟨⟨h.own.1,?_⟩,⟨h.own.2.1,?_⟩,⟨h.own.2.2,?_⟩⟩,h.wf,h.two,h.ln,h.rmb⟩
 ·obtain⟨a,b,c⟩:=h.nds B zs s hB;exact⟨a,⟨b,FY a.box (by decide)⟩,fun i hi=>⟨c i hi,zv8 a.own (by decide) hi⟩⟩
 ·have q:=h.mv.at_ p I;refine⟨q.px,q.few,q.nm,fun a A=>?_⟩;obtain⟨j,cs,f,hc⟩:=q.at_ a A;exact⟨⟨j,FY hc (by decide)⟩,cs,f,hc⟩
 ·obtain⟨wt,bd,hb,_⟩:=h.box;exact FY hb (by decide)
 ·obtain⟨es,ck,hb⟩:=h.now.box;exact zv7 hb
 obtain⟨es,ck,hb⟩:=h.safe.box;exact zv7 hb
theorem Er.ka {b:Nat} {k:Int} {S:Nat->Prop} {w W:World} (h:Er b k w) (j:Al (fun i=>S i/\nD w i) w W):Er b k W:=by
 obtain⟨x,hx⟩:=h;exact⟨x,(j.blk b (z7 hx) (fun hs=>by have:=hs.2 _ _ _ hx;revert this;decide)).trans hx⟩
structure Rb (S:Nat->Prop) (N:Nat) (w W:World) (D R t:Nat) (go un q:Bool) (a:Ds):Prop where
 dm:Dm (Sx S w W) N W D q a
 rf:Rf W R D t go un
 nS:¬ S R
 lt:R<w.heap.size
 lim:∀ i,S i->i<w.heap.size
 al:Al (Sr S R) w W
 ke:∀ b k,Er b k w->Er b k W
theorem Rb.nx {S:Nat->Prop} {N D R t:Nat} {w W:World} {go un q:Bool} {a:Ds} (h:Rb S N w W D R t go un q a):¬ Sx S w W R:=fun hs=>by
 rcases hs with hs | hs
 ·exact h.nS hs
 have:=h.lt;omega
theorem Rb.refl {S:Nat->Prop} {N D R t:Nat} {w:World} {go un q:Bool} {a:Ds} (h:Dm S N w D q a) (hr:Rf w R D t go un) (A:¬ S R) (j:∀ i,S i->i<w.heap.size):Rb S N w w D R t go un q a:=⟨h.mono (fun i hi=>.inl hi) (Wz8 _),hr,A,z7 hr.box,j,Al.refl _ _,fun _ _ h=>h⟩
theorem Rb.more {S:Nat->Prop} {N N' D R t:Nat} {w W:World} {go un q:Bool} {a:Ds} (h:Rb S N w W D R t go un q a) (j:N<=N'):Rb S N' w W D R t go un q a:=⟨h.dm.mono (fun i hi=>hi) j,h.rf,h.nS,h.lt,h.lim,h.al,h.ke⟩
abbrev Sy (S:Nat->Prop) (w W:World):Nat->Prop:=fun i=>Sx S w W i/\nD W i
theorem Rb.ty {S:Nat->Prop} {N D R t:Nat} {w W:World} {go un q:Bool} {a:Ds} (h:Rb S N w W D R t go un q a):Dm (Sy S w W) N W D q a:=h.dm.typed
theorem Rb.sl {S:Nat->Prop} {N D R t:Nat} {w W:World} {go un q:Bool} {a:Ds} (h:Rb S N w W D R t go un q a):∀ i,Sy S w W i->i<W.heap.size:=fun i hi=>CY h.lim h.al.size i hi.1
theorem Rb.next {S:Nat->Prop} {N N' D R t:Nat} {w W j:World} {go un q:Bool} {a G:Ds} (h:Rb S N w W D R t go un q a) (I:Dm (Sx (Sy S w W) W j) N' j D q G) (A:Al (Sy S w W) W j):Rb S N' w j D R t go un q G :=
 ⟨I.mono (fun i hi=>zx6 h.al.size A.size i (by
  rcases hi with hi | hi
  ·exact .inl hi.1
  ·exact .inr hi)) (Wz8 _),h.rf.al A (fun hs=>h.nx hs.1),h.nS,h.lt,h.lim,h.al.trans A (fun i hi=>by
  rcases hi.1 with hi | hi
  ·exact .inl (.inl hi)
  ·exact .inr hi.1),fun b k J=>(h.ke b k J).ka A⟩
theorem Rb.below {S:Nat->Prop} {N D R t:Nat} {w W j:World} {go un q:Bool} {a:Ds} (h:Rb S N w W D R t go un q a) (hb:Below W.heap.size W j):Rb S N w j D R t go un q a :=
 h.next ((h.ty.below hb).mono (fun i hi=>.inl hi) (Wz8 _)) (Al.below hb)
theorem Er.set {b:Nat} {k:Int} {w:World} {R D t:Nat} {go un:Bool} (h:Er b k w) (hr:Rf w R D t go un) (j:Nat) (v:Value):Er b k (w.setCell ⟨R,j,none⟩ v):=h.tf (Tf.set (p:=⟨R,j,none⟩) hr.box v) (by decide)
theorem Rb.store {S:Nat->Prop} {N D R t G:Nat} {w W:World} {go un go' A q:Bool} {a:Ds} (h:Rb S N w W D R t go un q a) (j:Nat) (v:Value) (hr:Rf (W.setCell ⟨R,j,none⟩ v) R D G go' A):Rb S N w (W.setCell ⟨R,j,none⟩ v) D R G go' A q a :=
 ⟨(h.dm.tf (Tf.set (p:=⟨R,j,none⟩) h.rf.box v) (by simp[World.setCell]) (by decide)).mono (fun i hi=>by
  rcases hi with hi | hi
  ·exact .inl hi
  ·exact .inr ⟨hi.1,by have:=hi.2;simpa [World.setCell] using this⟩) (Wz8 _),hr,h.nS,h.lt,h.lim,h.al.trans (Al.of_set (S:=Sr S R) (p:=⟨R,j,none⟩) (.inr rfl) v) (fun i hi=>.inl hi),fun b k I=>(h.ke b k I).set h.rf j v⟩
theorem Rb.base {S:Nat->Prop} {N N' D R t K:Nat} {w W A:World} {go un go' j q J:Bool} {a G:Ds} (h:Rb S N w W D R t go un q a) (k:Rb (Sx S w W) N' W A D R K go' j J G):Rb S N' w A D R K go' j J G :=
 ⟨k.dm.mono (zx6 h.al.size k.al.size) (Wz8 _),k.rf,h.nS,h.lt,h.lim,h.al.trans k.al (fun i hi=>by
  rcases hi with (hi | hi) | hi
  ·exact .inl (.inl hi)
  ·exact .inr hi.1
  ·exact .inl (.inr hi)),fun b I L=>k.ke b I (h.ke b I L)⟩
theorem Rb.at_ {S:Nat->Prop} {N D R t:Nat} {w W:World} {go un q:Bool} {a:Ds} (h:Rb S N w W D R t go un q a):Rb (Sx S w W) N W W D R t go un q a:=Rb.refl h.dm h.rf h.nx (CY h.lim h.al.size)
theorem Rf.put1 {w:World} {R D t:Nat} {go un:Bool} (h:Rf w R D t go un) (j:Nat):Rf (w.setCell ⟨R,1,none⟩ (.map (some j))) R D j go un:=⟨by rw[zV h.box];rfl⟩
theorem Rf.set2 {w:World} {R D t:Nat} {go un:Bool} (h:Rf w R D t go un) (b:Bool):Rf (w.setCell ⟨R,2,none⟩ (.bool b)) R D t b un:=⟨by rw[zV h.box];rfl⟩
theorem qq7 {o z:Option (List Int)} {a:Ds} (h:Ra.Hs pr z z a):Ra.Hs pr o z a:=⟨h.now,fun c hc=>.inr (.inl (Ra.mid_self z c (h.cr c hc)))⟩
def k9 (S:Nat->Prop) (N:Nat) (w:World) (D R t:Nat) (go q:Bool) (o z:Option (List Int)) (e:Ending) (w':World):Prop := ∃ v a' un,e=.returned v/\((∃ b,v=eV b/\Er b 1 w'/\q=false/\un=true/\Ra.Hs pr o z a') ∨ (v=.nilIface/\un=false/\Ra.Hs pr z z a'/\Ra.Sep pr nw a'))/\Rb S N w w' D R t go un q a'
theorem Wj {S:Nat->Prop} {N:Nat} {w W:World} {D R t:Nat} {go un q:Bool} {o z:Option (List Int)} {a:Ds} {b:Nat} (h:Rb S N w W D R t go un q a) (j:Er b 1 W) (G:q=false) (A:Ra.Hs pr o z a):k9 S N w D R t go q o z (.returned (eV b)) (W.setCell ⟨R,3,none⟩ (.bool true)) :=
 ⟨_,a,true,rfl,.inl ⟨b,rfl,j.set h.rf 3 _,G,rfl,A⟩,h.store 3 _ (h.rf.set true)⟩
theorem zzz {S:Nat->Prop} {N:Nat} {w W:World} {D R t:Nat} {go un q:Bool} {o z:Option (List Int)} {a:Ds} (h:Rb S N w W D R t go un q a) (j:Ra.Hs pr z z a) (A:Ra.Sep pr nw a):k9 S N w D R t go q o z (.returned .nilIface) (W.setCell ⟨R,3,none⟩ (.bool false)) :=
 ⟨_,a,false,rfl,.inr ⟨rfl,rfl,j,A⟩,h.store 3 _ (h.rf.set false)⟩
theorem results15:f15.results=#[.tmp 2]:=by kernel_rfl
theorem results89:f89.results=#[.tmp 2]:=by kernel_rfl
def Sd40 (S:Nat->Prop) (N:Nat) (w:World) (D R t:Nat) (go un q:Bool) (o z:Option (List Int)) (W:World):Prop:=Calls prog 40 #[.pointer (some ⟨D,0,none⟩)] W (Ei (fun b W1=>W1.frozen? ⟨R,3,none⟩=false/\W1.cell? ⟨R,3,none⟩=some (.bool un)/\k9 S N w D R t go q o z (.returned (eV b)) (W1.setCell ⟨R,3,none⟩ (.bool true))) (fun W1=>W1.frozen? ⟨R,3,none⟩=false/\W1.cell? ⟨R,3,none⟩=some (.bool un)/\k9 S N w D R t go q o z (.returned .nilIface) (W1.setCell ⟨R,3,none⟩ (.bool false))))
theorem sd40 {S:Nat->Prop} {N:Nat} {w W:World} {D R t:Nat} {go un q:Bool} {o z:Option (List Int)} {a:Ds} (h:Rb S N w W D R t go un q a) (G:Ra.Hs pr o z a) (K:N<=90000) (O:∀ B zs s,a.now pr=some B->a.nd B=some (zs,s)->s=zs.length):Sd40 S N w D R t go un q o z W:=by
 refine(LK _ N D q a W h.ty K).mono ?_;rintro e J ⟨v,a1,rfl,k1,V,Y⟩;have b1:Rb S N w J D R t go un q a1:=h.next (V.mono (fun i hi=>.inl hi) (Wz8 _)) Y;rcases k1 with ⟨rfl,b,k,rfl,L,M,A⟩ | ⟨rfl,rfl⟩
 ·rcases A with ⟨rfl,Q⟩ | A
  ·exact Ei.bad b ⟨b1.rf.c.2.2.2.2 3,b1.rf.c.2.2.2.1,Wj b1 M Q G⟩
  exact A.elim
 exact Ei.ok ⟨b1.rf.c.2.2.2.2 3,b1.rf.c.2.2.2.1,zzz b1 (Ra.hs_safe h.dm.wf G O) (fun k j B A I=>by
  rw[Ra.at_sd] at A I;exact X9 (h.dm.wf.inj a.mvs.length nw pr B (by rw[h.dm.wf.full];exact I) (by rw[h.dm.wf.full];exact A)))⟩
def Sy39 (S:Nat->Prop) (N:Nat) (w:World) (D R t:Nat) (go un q:Bool) (o z:Option (List Int)) (W:World):Prop:=Calls prog 39 #[.pointer (some ⟨D,0,none⟩),sV pr] W (Ei (fun b W1=>W1.cell? ⟨R,0,none⟩=some (.pointer (some ⟨D,0,none⟩))/\∃ k,Er b k W1/\((k=1/\W1.frozen? ⟨R,3,none⟩=false/\W1.cell? ⟨R,3,none⟩=some (.bool un)/\k9 S N w D R t go q o z (.returned (eV b)) (W1.setCell ⟨R,3,none⟩ (.bool true))) ∨ (k=3/\Sd40 S N w D R t go un q o z W1))) (fun W1=>W1.cell? ⟨R,0,none⟩=some (.pointer (some ⟨D,0,none⟩))/\Sd40 S N w D R t go un q o z W1))
theorem sy39 {S:Nat->Prop} {N:Nat} {w W:World} {D R t:Nat} {go un q:Bool} {o z:Option (List Int)} {a:Ds} (h:Rb S N w W D R t go un q a) (G:Ra.Hs pr o z a) (J:N<=90000):Sy39 S N w D R t go un q o z W:=by
 refine(LQ _ N D q a pr W h.ty Wq).mono ?_;rintro e L ⟨v,a1,rfl,k1,Z,k3⟩;have b1:Rb S N w L D R t go un q a1:=h.next (Z.mono (fun i hi=>.inl hi) (Wz8 _)) k3;rcases k1 with ⟨rfl,b,k,rfl,O,K,Q⟩ | ⟨rfl,B,zs,s,e1,M,rfl⟩
 ·refine Ei.bad b ⟨b1.rf.c.1,k,K,?_⟩;rcases Q with ⟨rfl,Y⟩ | ⟨rfl,V⟩
  ·exact .inl ⟨rfl,b1.rf.c.2.2.2.2 3,b1.rf.c.2.2.2.1,Wj b1 K Y G⟩
  exact .inr ⟨rfl,sd40 b1 G J (fun B zs s A _=>by rw[V] at A;cases A)⟩
 refine Ei.ok ⟨b1.rf.c.1,sd40 b1 (Ra.hs_sync h.dm.wf G B zs s M) J (fun C ys r A I=>?_)⟩;have j:a.now pr=some C:=A;rw[e1] at j;cases j
 simp only[Ra.As.put,if_true] at I;cases Wq8.inj I
 rfl
theorem XQ (S:Nat->Prop) (N:Nat) (w W:World) (D R t:Nat) (go un q:Bool) (o z:Option (List Int)) (a:Ds) (h:Rb S N w W D R t go un q a) (hh:Ra.Hs pr o z a) (hN:N<=90000) :
  Calls prog 15 #[.pointer (some ⟨R,0,none⟩)] W (k9 S N w D R t go q o z):=by
 have J:=sy39 h hh hN;have h0:=h.rf.c.1;have O:=fun b k W (hb:Er b k W)=>qxk b k W hb.c1
 have G:Hid (∀ W,Sd40 S N w D R t go un q o z W->Calls prog 40 #[.pointer (some ⟨D,0,none⟩)] W (Ei (fun b Q=>Q.frozen? ⟨R,3,none⟩=false/\Q.cell? ⟨R,3,none⟩=some (.bool un)/\k9 S N w D R t go q o z (.returned (eV b)) (Q.setCell ⟨R,3,none⟩ (.bool true))) (fun Q=>Q.frozen? ⟨R,3,none⟩=false/\Q.cell? ⟨R,3,none⟩=some (.bool un)/\k9 S N w D R t go q o z (.returned .nilIface) (Q.setCell ⟨R,3,none⟩ (.bool false))))):=fun W h=>h
 unfold Sy39 at J;unfold sV pr at J;clear h hh;go_enter func15,ntmps15;go_wp2_with (go_at_call 39;refine J.mono ?_;rintro e w1 ⟨v,rfl,k⟩;have K:=hid k;clear k J;refine Hid.out ?_)
 refine hid ?_;rcases K.out with ⟨b,rfl,a6,k,he,hk⟩ | ⟨rfl,a6,I⟩
 ·have Y:=O b k w1 he;rcases hk with ⟨rfl,M,L,A⟩ | ⟨rfl,I⟩
  ·have HX:=hid A;clear A K O he G;go_wp2_with (go_at_call 34;refine Y.mono ?_;rintro e w' ⟨rfl,Z⟩;have V:=Z.symm;subst V;clear Z)
   exact bodyPost_ret (results_tmp results15 _ _ _) rfl HX.out
  have j:=G.out w1 I;clear I K O he G;go_wp2_with (first
   | (go_at_call 34;refine Y.mono ?_;rintro e w' ⟨rfl,Z⟩;have V:=Z.symm;subst V;clear Z)
   | (go_at_call 40;refine j.mono ?_;rintro e w2 ⟨v,rfl,k⟩;have K:=hid k;clear k j;refine Hid.out ?_))
  refine hid ?_;rcases K.out with ⟨b2,rfl,M,L,A⟩ | ⟨rfl,M,L,A⟩
  ·have HX:=hid A;clear A K;go_wp2;exact bodyPost_ret (results_tmp results15 _ _ _) rfl HX.out
  have HX:=hid A;clear A K;go_wp2;exact bodyPost_ret (results_tmp results15 _ _ _) rfl HX.out
 have j:=G.out w1 I;clear I K O G;go_wp2_with (go_at_call 40;refine j.mono ?_;rintro e w2 ⟨v,rfl,k⟩;have K:=hid k;clear k j;refine Hid.out ?_)
 refine hid ?_;rcases K.out with ⟨b2,rfl,M,L,A⟩ | ⟨rfl,M,L,A⟩
 ·have HX:=hid A;clear A K;go_wp2;exact bodyPost_ret (results_tmp results15 _ _ _) rfl HX.out
 have HX:=hid A;clear A K;go_wp2;exact bodyPost_ret (results_tmp results15 _ _ _) rfl HX.out
theorem QQ (R D t:Nat) (go:Bool) (w:World) (h:Rf w R D t go false) :
  Calls prog 89 #[.pointer (some ⟨R,0,none⟩)] w fun e w'=>e=.returned .nilIface/\w'=w:=by
 have j:=h.c.2.2.2.1;go_enter func89,ntmps89;go_wp2_with fail
 exact bodyPost_ret (results_tmp results89 _ _ _) rfl ⟨rfl,rfl⟩
end Go.Proofs.YtdnphaganajejaaGreatDoor.K
