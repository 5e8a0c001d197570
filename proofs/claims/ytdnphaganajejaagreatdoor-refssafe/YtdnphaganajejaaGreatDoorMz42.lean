import Derived.Test.YtdnphaganajejaaGreatDoorMz39
import Derived.Test.YtdnphaganajejaaGreatDoorMz40
set_option linter.unusedSimpArgs false
set_option linter.unusedVariables false
set_option maxRecDepth 20000
set_option maxHeartbeats 4000000
open List renaming length_map->Wx7,size_toArray->Wyu
open Nat renaming lt_of_lt_of_le->Wq2,zero_le->Wqw
namespace Go.Proofs.YtdnphaganajejaaGreatDoor.K
open Go.Proofs.Tryz
open Go.RowKit
theorem results10:f10.results=#[.tmp 4,.tmp 5,.tmp 6]:=by kernel_rfl
def nT (w:World)(i:Nat):Prop := ∀ c T f,w.heap[i]? = some (.cells c T f)->T ≠ 39/\T ≠ 93/\T ≠ 144/\T ≠ 41/\T ≠ 47
theorem qv2 {w:World}{i:Nat}{c:Array Value}{T:TypeId}{f:Nat × Nat}(h:w.heap[i]? = some (.cells c T f))(A:T ≠ 39/\T ≠ 93/\T ≠ 144/\T ≠ 41/\T ≠ 47):nT w i:=fun G D f' j=>by
 rw[h] at j;cases j
 exact A
theorem nD.t {w:World}{i:Nat}(h:nD w i):nT w i:=fun c T f hc=>by
 rcases h c T f hc with rfl | rfl | rfl | rfl | rfl <;> decide
theorem nT_rf {w:World}{R D t:Nat}{go un:Bool}(h:Rf w R D t go un):nT w R:=qv2 h.box (by decide)
theorem Dq.alT {G Q:Nat}{w W:World}{I v2:Value}{rs:List Rx}{ls:List Ex}(h:Dq G w Q I v2 rs ls){P:Nat->Prop}(D:Al P w W)(A:∀ i,P i->nT w i):Dq G W Q I v2 rs ls:=by
 refine⟨(D.blk Q (z7 h.box) (fun j=>(A Q j _ _ _ h.box).1 rfl)).trans h.box,Lk h.r1 D (fun i hi j=>?_),Lk h.r2 D (fun i hi j=>?_),h.ok1,h.ok2,h.few⟩
 ·obtain⟨cur,hc⟩:=Lj h.r1 hi;exact(A i j _ _ _ hc).2.1 rfl
 obtain⟨cur,hc⟩:=Lj h.r2 hi;exact(A i j _ _ _ hc).2.2.1 rfl
theorem Dq.alB {G Q B:Nat}{w W:World}{D v2:Value}{rs:List Rx}{ls:List Ex}(h:Dq G w Q D v2 rs ls)(j:Al (fun i=>i=B) w W){c:Array Value}{T:TypeId}(hB:w.heap[B]? = some (.cells c T (0,0)))(A:T ≠ 93/\T ≠ 144)(hQ:Q ≠ B):Dq G W Q D v2 rs ls:=by
 refine⟨(j.blk Q (z7 h.box) hQ).trans h.box,Lk h.r1 j (fun i hi e=>?_),Lk h.r2 j (fun i hi e=>?_),h.ok1,h.ok2,h.few⟩
 ·obtain⟨cur,hc⟩:=Lj h.r1 hi;rw[e,hB] at hc;cases hc
  exact A.1 rfl
 obtain⟨cur,hc⟩:=Lj h.r2 hi;rw[e,hB] at hc;cases hc
 exact A.2 rfl
theorem Pw.more {S XE:Nat->Prop}{N D R:Nat}{w W:World}{f:Fq}{t n:Nat}{T:Ts}(h:Pw S XE N D R w f t n T){C:Nat}(I:w.heap.size<=C)(hb:Below w.heap.size w W)(j:C<W.heap.size):Pw S (fun i=>XE i ∨ i=C) N D R W f t n T:=by
 obtain⟨a,A,G⟩:=h.dm;exact⟨⟨a,A.below hb,G⟩,⟨(hb.block R (z7 h.rf.box)).trans h.rf.box⟩,h.nS,fun i hi=>(by
  rcases hi with hi | hi | hi
  ·exact Wq2 (h.lim i (.inl hi)) hb.size
  ·exact Wq2 (h.lim i (.inr hi)) hb.size
  ·rw[hi];exact j),(h.tt.to (S':=SrE S R (fun i=>XE i ∨ i=C)) (fun i hi=>by
  rcases hi with hi | hi | hi
  ·exact .inl (.inl hi)
  ·exact .inl (.inr hi)
  rw[hi];exact .inr I)).below hb,h.gf⟩
structure St9 (r X:Nat) (TA cX:Array Value) (W:World):Prop where
 b:W.heap[r]? = some (.cells TA 47 (0,0))
 x:W.heap[X]? = some (.cells cX 41 (0,0))
theorem St9.cx {r X D R Q:Nat}{TA:Array Value}{W:World}(h:St9 r X TA #[.pointer (some ⟨D,0,none⟩),.pointer (some ⟨R,0,none⟩),.pointer (some ⟨Q,0,none⟩)] W):W.cell? ⟨X,1,none⟩=some (.pointer (some ⟨R,0,none⟩))/\W.cell? ⟨X,2,none⟩=some (.pointer (some ⟨Q,0,none⟩)):=⟨by simp[World.cell?,h.x],by simp[World.cell?,h.x]⟩
theorem St9.cs {r X:Nat}{s:Ls}{TA j:Array Value}(A:(uK s).toArray=TA){W:World}(h:St9 r X TA j W):W.cell? ⟨r,0,none⟩=some (.int .i64 s.k)/\W.cell? ⟨r,7,none⟩=some (sV s.tx)/\W.cell? ⟨r,8,none⟩=some (sV s.nm)/\W.cell? ⟨r,9,none⟩=some (sV s.tg)/\W.cell? ⟨r,10,none⟩=some (.int .i64 s.n)/\W.rangeAt r 3 (U6 s.who):=by
 have hb:=h.b;rw[<-A] at hb;refine⟨?_,?_,?_,?_,?_,?_⟩
 ·rw[cell_of_row _ _ 0 _ _ _ hb];rfl
 ·rw[cell_of_row _ _ 7 _ _ _ hb];rfl
 ·rw[cell_of_row _ _ 8 _ _ _ hb];rfl
 ·rw[cell_of_row _ _ 9 _ _ _ hb];rfl
 ·rw[cell_of_row _ _ 10 _ _ _ hb];rfl
 have:=xJ (pre:=[.int .i64 s.k,.slice s.a s.ms.length s.c,.bool s.rot]) (mid:=U6 s.who) (post:=[sV s.tx,sV s.nm,sV s.tg,.int .i64 s.n,.int .i64 s.af,.int .i64 s.ti,.int .u64 s.di,.int .u64 s.ta]) (o:=0) (by have:=zw hb;exact this);rw[Nat.zero_add] at this;exact this
structure Mid (w0 w:World) (X:Nat) (S XE:Nat->Prop) (N D R:Nat) (f:Fq) (t n:Nat) (T:Ts) (r:Nat) (TA cX:Array Value) (C:Nat) (rs:List Rx) (ls:List Ex) (W:World):Prop where
 bel:Below w.heap.size w W
 pw:Pw (Sn S w) (fun i=>XE i ∨ i=C) N D R W f t n T
 dq:∃ u1 u2,Dq 0 W C u1 u2 rs ls
 st:St9 r X TA cX W
 b0:Below w0.heap.size w0 w
 gb:Gb w0
 lo:(∀ i,S i->w0.heap.size<=i)/\w0.heap.size<=R
 lim:(∀ i,S i->i<w.heap.size)/\R<w.heap.size
 ge:w.heap.size<=C/\w.heap.size<=r
 lt:C<W.heap.size
theorem Mid.below {w0 w:World}{X:Nat}{S XE:Nat->Prop}{N D R:Nat}{f:Fq}{t n:Nat}{T:Ts}{r:Nat}{TA A:Array Value}{C:Nat}{rs:List Rx}{ls:List Ex}{W j:World}(h:Mid w0 w X S XE N D R f t n T r TA A C rs ls W)(hb:Below W.heap.size W j):Mid w0 w X S XE N D R f t n T r TA A C rs ls j:=by
 obtain⟨G,I,hd⟩:=h.dq;exact⟨h.bel.trans (hb.mono h.bel.size),h.pw.below hb,⟨G,I,hd.below hb⟩,⟨(hb.block r (z7 h.st.b)).trans h.st.b,(hb.block X (z7 h.st.x)).trans h.st.x⟩,h.b0,h.gb,h.lo,h.lim,h.ge,Wq2 h.lt hb.size⟩
theorem Mid.g {w0 w:World}{X:Nat}{S XE:Nat->Prop}{N D R:Nat}{f:Fq}{t n:Nat}{T:Ts}{r:Nat}{TA j:Array Value}{C:Nat}{rs:List Rx}{ls:List Ex}{W:World}(h:Mid w0 w X S XE N D R f t n T r TA j C rs ls W):Below w0.heap.size w0 W/\Gb W:=by
 have:Below w0.heap.size w0 W:=h.b0.trans (h.bel.mono h.b0.size);exact⟨this,h.gb.below this⟩
theorem Mid.after {w0 w:World}{X:Nat}{S XE:Nat->Prop}{N D R:Nat}{f:Fq}{t n:Nat}{T:Ts}{r:Nat}{TA K:Array Value}{C:Nat}{rs:List Rx}{ls:List Ex}{W A:World}(h:Mid w0 w X S XE N D R f t n T r TA K C rs ls W)(G:Al (Sr (Sn S w) R) W A):St9 r X TA K A/\(∃ I J,Dq 0 A C I J rs ls)/\C<A.heap.size:=by
 obtain⟨I,J,hd⟩:=h.dq;have j:∀ i,Sr (Sn S w) R i->nT W i:=fun i hi=>by
  rcases hi with hi | hi
  ·intro c T f hc;rw[h.bel.block i (h.lim.1 i hi.1)] at hc;exact hi.2.t c T f hc
  rw[hi];exact nT_rf h.pw.rf
 refine⟨⟨(G.blk r (z7 h.st.b) (fun hi=>(j r hi _ _ _ h.st.b).2.2.2.2 rfl)).trans h.st.b,(G.blk X (z7 h.st.x) (fun hi=>(j X hi _ _ _ h.st.x).2.2.2.1 rfl)).trans h.st.x⟩,⟨I,J,hd.alT G j⟩,Wq2 h.lt G.size⟩
theorem Yy {w0 w A:World}{X:Nat}{S XE:Nat->Prop}{N D R:Nat}{f:Fq}{t n:Nat}{T:Ts}{TA V:Array Value}{Q:Nat}{rs:List Rx}{ls:List Ex}(O:Pw S XE N D R w f t n T)(hd:∃ Z v2,Dq 0 w Q Z v2 rs ls)(K:Below w0.heap.size w0 w)(L:Gb w0)(M:(∀ i,S i->w0.heap.size<=i)/\w0.heap.size<=R)(hx:w.heap[X]? = some (.cells V 41 (0,0)))(J:w.alloc (.cells TA 47)=A) :
  Calls prog 17 #[.pointer (some ⟨Q,0,none⟩)] A fun e w2=>∃ C,e=.returned (.pointer (some ⟨C,0,none⟩))/\Mid w0 w X S XE N D R f t n T w.heap.size TA V C rs ls w2:=by
 obtain⟨Z,v2,hd⟩:=hd;have h:Below w.heap.size w A:=by rw[<-J];exact(Below.refl _ w).alloc (Nat.le_refl _) _
 have a6:A.heap.size=w.heap.size+1:=by rw[<-J];simp
 have hr0:A.heap[w.heap.size]? = some (.cells TA 47):=by rw[<-J];exact heap_alloc_new _ _
 refine(U2 A (hd.below h)).mono ?_;rintro e w2 ⟨C,u1,u2,rfl,hC,Y,I⟩;have j:Below w.heap.size w w2:=h.trans (I.mono h.size);have G:=z7 Y.box
 exact⟨C,rfl,j,O.typed.more (by omega) j G,⟨u1,u2,Y.low⟩,⟨(I.block _ (by omega)).trans hr0,(j.block X (z7 hx)).trans hx⟩,K,L,M,⟨fun i hi=>O.lim i (.inl (.inl hi)),z7 O.rf.box⟩,⟨by omega,Nat.le_refl _⟩,G⟩
structure UZ (w0:World) (X k D R Q C:Nat) (m0:Rk.Tb Str Kp Le) (rs:List Rx) (ls:List Ex) (ke kk:Int) (w w':World):Prop where
  ex:∃ S XE N q o z go un t n T rs' ls',Pv S XE N D R w' q o z go un t n T/\n<=201*(k+1)/\N<=16/\FlG (k+1) (aT T) z go/\(∃ v1 v2,Dq 0 w' C v1 v2 rs' ls')/\XE X/\(∀ i,S i->w0.heap.size<=i)/\
    ((ke=kk/\o=z/\un=false/\Iv (k+1) (aT T) rs' ls'/\(kk ≠ 0->aT T=m0)) ∨
     (kk=0/\(ke=1 ∨ ke=2)/\∃ m',Iv (k+1) m' rs' ls'/\Kl m0 m'/\(aT T=m' ∨ aT T=m0)/\CrO (k+1) m0 m' o z))
  dq:∃ v1 v2,Dq 0 w' Q v1 v2 rs ls
  keep:∀ (i:Nat) (c:Array Value) (T:TypeId),w.heap[i]? = some (.cells c T (0,0))->T=41 ∨ T=47->w'.heap[i]? = some (.cells c T (0,0))
  b0:Below w0.heap.size w0 w'
  lo:w0.heap.size<=C
def U8 (w0:World)(X k D R Q:Nat)(m0:Rk.Tb Str Kp Le)(rs:List Rx)(ls:List Ex)(w:World)(e:Ending)(w':World):Prop := ∃ ke kk C,e=.returned (.tuple #[.int .i64 ke,.pointer (some ⟨C,0,none⟩),.int .i64 kk])/\UZ w0 X k D R Q C m0 rs ls ke kk w w'
theorem qyk (k:Int)(w:World)(h:C00 w):Calls prog 7 #[erV k] w fun e w'=>e=.returned (.int .i64 k)/\Below w.heap.size w w':=by
 unfold erV;by_cases j:k=0
 ·rw[if_pos j,j];exact V5 w
 rw[if_neg j];exact JZ k w h
theorem Lv {w0:World}{X k:Nat}{S XE:Nat->Prop}{N D R Q:Nat}{f:Fq}{t n:Nat}{T:Ts}{w win w4 w6 w7:World}{C:Nat}{cX:Array Value}{ev:Value}{M:Int}{rs I:List Rx}{ls G:List Ex}
  (a8:Below w0.heap.size w0 w) (aj:Gb w0) (hz:Pw S XE N D R w f t n T) (Y:(∀ i,S i->w0.heap.size<=i)/\w0.heap.size<=R) (hN:N<=2) (hX:w.heap[X]? = some (.cells cX 41 (0,0))) (ae:XE X) (hq:∃ v1 v2,Dq 0 w Q v1 v2 rs ls)
  (hC:w.heap.size<=C) (j:Below w.heap.size w win) (av:C<win.heap.size) (ha:Uy (Sn S w) (fun i=>XE i ∨ i=C) N D R k f (aT T) M I G win (.returned ev) w4)
  (h6:Below w4.heap.size w4 w6) {cC:Array Value} (O:w6.heap[C]? = some (.cells cC 39 (0,0))) (h7:Al (fun i=>i=C) w6 w7) (hd:∃ v1 v2,Dq 0 w7 C v1 v2 I G) :
  Calls prog 7 #[ev] w7 fun J L=>∃ ke,J=.returned (.int .i64 ke)/\UZ w0 X k D R Q C (aT T) rs ls ke M w L:=by
 obtain⟨v,S',N',o,z,go,un,t',n',T',V,hp,ao,aw,K,ai,ag⟩:=ha;injection V with V;subst V;have au:=a8.size;have ap:=(hp.below h6).doc (C:=C) (.inr rfl) O h7;have a7:=hz.rf.box;have ad:∀ i,Sr (Sn S w) R i->nT win i:=fun i hi=>by
  rcases hi with hi | hi
  ·intro c T f hc;rw[j.block i (hz.lim i (.inl (.inl hi.1)))] at hc;exact hi.2.t c T f hc
  rw[hi];exact qv2 ((j.block R (z7 a7)).trans a7) (by decide)
 have A:∀ (i:Nat) (c:Array Value) (T:TypeId),w.heap[i]? = some (.cells c T (0,0))->T=41 ∨ T=47->w7.heap[i]? = some (.cells c T (0,0)):=fun i c T hi hT=>by
  have hl:=z7 hi;have h1:=(j.block i hl).trans hi;have h4:=(K.al.blk i (z7 h1) (fun hh=>by
   have:=ad i hh _ _ _ h1;rcases hT with rfl | rfl
   ·exact this.2.2.2.1 rfl
   exact this.2.2.2.2 rfl)).trans h1
  have a6:=(h6.block i (z7 h4)).trans h4;exact(h7.blk i (z7 a6) (by omega)).trans a6
 have b1:Below w0.heap.size w0 win:=a8.trans (j.mono au);have b4:Below w0.heap.size w0 w4:=b1.trans (vQ K.al (fun i hi=>by
  rcases hi with hi | hi
  ·exact Y.1 i hi.1
  rw[hi];exact Y.2) b1.size)
 have b6:=b4.trans (h6.mono b4.size);have b7:Below w0.heap.size w0 w7:=b6.trans (vQ h7 (fun i hi=>by rw[hi];omega) b6.size);obtain⟨v1,v2,hd⟩:=hd;obtain⟨u1,u2,hq⟩:=hq;have ax:=z7 hq.box;have ar:Dq 0 w7 Q u1 u2 rs ls:=(((hq.below j).alT K.al ad).below h6).alB h7 O (by decide) (by omega);have ac:∀ i,S' i->w0.heap.size<=i:=fun i hi=>by
  rcases K.new i hi with hi | hi
  ·exact Y.1 i hi.1
  have:=b1.size;omega
 have fin:∀ (ke:Int) (J:Ending) (L:World),J=.returned (.int .i64 ke)/\Below w7.heap.size w7 L->_->∃ ke,J=.returned (.int .i64 ke)/\UZ w0 X k D R Q C (aT T) rs ls ke M w L:=fun ke J L hb (hc:(ke=M/\o=z/\un=false/\Iv (k+1) (aT T') I G/\(M ≠ 0->aT T'=aT T)) ∨ (M=0/\(ke=1 ∨ ke=2)/\∃ Z,Iv (k+1) Z I G/\Kl (aT T) Z/\(aT T'=Z ∨ aT T'=aT T)/\CrO (k+1) (aT T) Z o z))=>by
  obtain⟨he,h8⟩:=hb;exact⟨ke,he,⟨S',_,N',f.q,o,z,go,un,t',n',T',I,G,ap.below h8,ao,by omega,ai,⟨v1,v2,hd.below h8⟩,.inl ae,ac,hc⟩,⟨u1,u2,ar.below h8⟩,fun i c T hi hT=>(h8.block i (z7 (A i c T hi hT))).trans (A i c T hi hT),b7.trans (h8.mono b7.size),by omega⟩
 have c7:=(aj.below b7).c0;rcases ag with ⟨rfl,ho,hu,ak,hm⟩ | ⟨rfl,⟨b,ke,rfl,ah,am⟩,Z,hm⟩
 ·exact(qyk M w7 c7).mono fun J L h=>fin M J L h (.inl ⟨rfl,ho,hu,ak,hm⟩)
 obtain⟨x,hc⟩:=(ah.below h6).doc O h7;have:=zq0 b ke w7 c7 (by simp[World.cell?,hc]);exact this.mono fun J L h=>fin ke J L h (.inr ⟨rfl,by rcases am with ⟨h,_⟩ | h;exact .inl h;exact .inr h,Z,hm⟩)
theorem lo_of {k:Nat}{m:Rk.Tb Str Kp Le}{rs:List Rx}{ls:List Ex}(h:Iv k m rs ls):∀ z,(m z).isSome=true->∀ b ∈ z,b<128:=fun z j=>by
 obtain⟨y,hy⟩:=Option.isSome_iff_exists.1 j;exact(h.can.at_ z y.1 y.2 hy).1
theorem Hw {S XE:Nat->Prop}{N D R n0 n:Nat}{f:Fq}{j:Ts}{fs:Ts->Str->Prop}{m:Rk.Tb Str Kp Le}{w w':World}{e:Ending}(h:kY S XE N D R f n0 j n fs m w e w'):(∃ v,e=.returned v)/\Al (Sr S R) w w':=by
 obtain⟨v,_,_,_,_,_,_,_,_,h,_,A,_⟩:=h;exact⟨⟨v,h⟩,A.al⟩
theorem AY {S XE:Nat->Prop}{N D R:Nat}{f:Fq}{n:Nat}{T:Ts}{x y:Str}{w:World}{e:Ending}{w':World}(h:jv S XE N D R f n T x y w e w'):(∃ v,e=.returned v)/\Al (Sr S R) w w':=by
 rcases h with ⟨_,h,hb⟩ | ⟨_,⟨_,h,hb⟩ | ⟨_,⟨_,h,hb⟩ | ⟨_,j⟩⟩⟩
 ·exact⟨⟨_,h⟩,Al.below hb⟩
 ·exact⟨⟨_,h⟩,Al.below hb⟩
 ·exact⟨⟨_,h⟩,Al.below hb⟩
 exact Hw j
theorem zq3 {S XE:Nat->Prop}{N D R:Nat}{f:Fq}{n:Nat}{T:Ts}{ms:List Mv1}{p:Per}{tx:Str}{w:World}{e:Ending}{w':World}(h:kw S XE N D R f n T ms p tx w e w'):Al (Sr S R) w w':=by
 rcases h with ⟨_,_,_,⟨_,_,hb⟩ | ⟨_,_,_,hb⟩⟩ | ⟨_,_,⟨_,_,hb⟩ | ⟨_,⟨_,_,_,_,_,hb⟩ | ⟨_,⟨_,_,hb⟩ | ⟨_,⟨_,_,hb⟩ | ⟨_,j⟩⟩⟩⟩⟩
 ·exact Al.below hb
 ·exact Al.below hb
 ·exact Al.below hb
 ·exact Al.below hb
 ·exact Al.below hb
 ·exact Al.below hb
 exact(Hw j).2
theorem zq4 {S XE:Nat->Prop}{N D R:Nat}{f:Fq}{w:World}{e:Ending}{w':World}{k:Nat}{J:Rk.Tb Str Kp Le}{I:Int}{A:List Rx}{j:List Ex}(h:Uy S XE N D R k f J I A j w e w'):(∃ v,e=.returned v)/\Al (Sr S R) w w':=by
 obtain⟨v,_,_,_,_,_,_,_,_,_,h,_,_,_,G,_⟩:=h;exact⟨⟨v,h⟩,G.al⟩
structure Q9 (r X R:Nat) (NM TG TX:ByteArray) (kn:Int) (PL:List Value) (W:World):Prop where
 c0:W.cell? ⟨X,1,none⟩=some (.pointer (some ⟨R,0,none⟩))
 c1:W.cell? ⟨r,8,none⟩=some (.string NM)
 c2:W.cell? ⟨r,9,none⟩=some (.string TG)
 c3:W.cell? ⟨r,10,none⟩=some (.int .i64 kn)
 c4:W.cell? ⟨r,7,none⟩=some (.string TX)
 rp:W.rangeAt r 3 PL
theorem qyv {w0:World}{X k:Nat}{q:Bool}{S XE:Nat->Prop}{N D R t n:Nat}{T:Ts}{F:Option Str}{go:Bool}{Q:Nat}{rs:List Rx}{ls:List Ex}(s:Ls)(w:World)(hk:k<100)(M:Below w0.heap.size w0 w)(ah:Gb w0)(j:Gs w0.heap.size k q S XE N D R t n T F go Q rs ls w)(hx:Wx w X D R Q)(ae:XE X)(h1:s.k ≠ 1)(h2:s.k ≠ 2)(h3:s.k ≠ 3)(h4:s.k ≠ 4) :
  Calls prog 10 #[.pointer (some ⟨X,0,none⟩),.agg (uK s).toArray] w (U8 w0 X k D R Q (aT T) rs ls w):=by
 have hz:=j.pw;obtain⟨kd,hs⟩:∃ z,s.k=z:=⟨_,rfl⟩;rw[hs] at h1 h2 h3 h4;obtain⟨r,HR⟩:=nm_ w.heap.size;obtain⟨TA,I⟩:=nm_ ((uK s).toArray);obtain⟨W1,A⟩:=nm_ (w.alloc (.cells TA 47));obtain⟨O,G⟩:=nm_ (#[.pointer (some ⟨D,0,none⟩),.pointer (some ⟨R,0,none⟩),.pointer (some ⟨Q,0,none⟩)] : Array Value);have hx1:w.heap[X]? = some (.cells O 41 (0,0)):=by rw[<-G.out];exact hx
 have J:=Yy (TA:=TA) hz j.dq M ah ⟨j.lo.1,j.lo.2.1⟩ hx1 A.out;rw[HR.out] at J;have ag:W1.cell? ⟨X,2,none⟩=some (.pointer (some ⟨Q,0,none⟩)):=by
  have:W1.heap[X]? = some (.cells O 41 (0,0)):=by rw[<-A.out,heap_alloc_old _ _ (z7 hx1)];exact hx1
  rw[<-G.out] at this;simp[World.cell?,this]
 rw[<-A.out] at ag;obtain⟨NM,Y⟩:=nm_ (⟨s.nm.toArray⟩:ByteArray);obtain⟨TG,a7⟩:=nm_ (⟨s.tg.toArray⟩:ByteArray);obtain⟨TX,a8⟩:=nm_ (⟨s.tx.toArray⟩:ByteArray);obtain⟨kn,V⟩:=nm_ s.n;obtain⟨PL,Z⟩:=nm_ (U6 s.who);have L:TA.size=15:=by rw[<-I.out];rfl
 have am:Hid ((prog.info? 47).map (·.size)=some TA.size):=hid (by rw[L];kernel_rfl);have a6:Hid (∀ W,St9 r X TA O W->Q9 r X R NM TG TX kn PL W/\W.cell? ⟨r,0,none⟩=some (.int .i64 kd)):=fun W h=>by
  obtain⟨g0,g7,g8,g9,ac,gp⟩:=h.cs I.out;have h':=h;rw[<-G.out] at h';refine⟨⟨h'.cx.1,by rw[<-Y.out];exact g8,by rw[<-a7.out];exact g9,by rw[<-V.out];exact ac,by rw[<-a8.out];exact g7,by rw[<-Z.out];exact gp⟩,?_⟩;rw[hs] at g0;exact g0
 have ad:=j.n2;have aj:=j.n1;have ak:=j.iv.n1;have ai:=j.iv.n2;rw[I.out];have HC:Hid (Calls prog 17 #[.pointer (some ⟨Q,0,none⟩)] W1 fun e w2=>∃ C,e=.returned (.pointer (some ⟨C,0,none⟩))/\St9 r X TA O w2/\UZ w0 X k D R Q C (aT T) rs ls 0 0 w w2):=hid (by
  refine J.mono ?_;rintro e w2 ⟨C,rfl,K⟩;obtain⟨u1,u2,hD⟩:=K.dq;obtain⟨v1,v2,hq⟩:=j.dq
  refine⟨C,rfl,K.st,⟨_,_,N,q,F,F,go,false,t,n,T,rs,ls,K.pw.v,by omega,by omega,j.fl.up,⟨u1,u2,hD⟩,.inl ae,fun i hi=>j.lo.1 i hi.1,.inl ⟨rfl,rfl,rfl,j.iv.up,fun _=>rfl⟩⟩,⟨v1,v2,hq.below K.bel⟩,fun i c T hi hT=>(K.bel.block i (z7 hi)).trans hi,K.g.1,by have:=M.size;have:=K.ge.1;omega⟩)
 have g1:(kd == 1)=false:=by simpa using h1
 have g2:(kd == 2)=false:=by simpa using h2
 have g3:(kd == 3)=false:=by simpa using h3
 have g4:(kd == 4)=false:=by simpa using h4
 clear J hz j hx hx1 h1 h2 h3 h4 hs ad aj ak ai;go_enter func10,ntmps10;go_wp2_with (first
  | (go_at_call 17;rw[A.out];refine HC.out.mono ?_;rintro e w2 ⟨C,rfl,st2,p8⟩;have ao:=(a6.out w2 st2).2;have P8:=hid p8;rw[HR.out];clear p8 HC st2))
 exact bodyPost_ret (results_tmp3 results10 _ _ _) rfl ⟨_,_,_,rfl,P8.out⟩
theorem qyw {w0:World}{X k:Nat}{q:Bool}{S XE:Nat->Prop}{N D R t n:Nat}{T:Ts}{F:Option Str}{go:Bool}{Q:Nat}{rs:List Rx}{ls:List Ex}(s:Ls)(w:World)(hk:k<100)(aj:Below w0.heap.size w0 w)(ak:Gb w0)(G:Gs w0.heap.size k q S XE N D R t n T F go Q rs ls w)(hx:Wx w X D R Q)(ay:XE X)(hs:s.k=2) :
  Calls prog 10 #[.pointer (some ⟨X,0,none⟩),.agg (uK s).toArray] w (U8 w0 X k D R Q (aT T) rs ls w):=by
 have hz:=G.pw;obtain⟨r,HR⟩:=nm_ w.heap.size;obtain⟨TA,V⟩:=nm_ ((uK s).toArray);obtain⟨W1,K⟩:=nm_ (w.alloc (.cells TA 47));obtain⟨cX,M⟩:=nm_ (#[.pointer (some ⟨D,0,none⟩),.pointer (some ⟨R,0,none⟩),.pointer (some ⟨Q,0,none⟩)] : Array Value);have hx1:w.heap[X]? = some (.cells cX 41 (0,0)):=by rw[<-M.out];exact hx
 have a8:=Yy (TA:=TA) hz G.dq aj ak ⟨G.lo.1,G.lo.2.1⟩ hx1 K.out;rw[HR.out] at a8;have aA:W1.cell? ⟨X,2,none⟩=some (.pointer (some ⟨Q,0,none⟩)):=by
  have:W1.heap[X]? = some (.cells cX 41 (0,0)):=by rw[<-K.out,heap_alloc_old _ _ (z7 hx1)];exact hx1
  rw[<-M.out] at this;simp[World.cell?,this]
 rw[<-K.out] at aA;obtain⟨NM,O⟩:=nm_ (⟨s.nm.toArray⟩:ByteArray);obtain⟨TG,Y⟩:=nm_ (⟨s.tg.toArray⟩:ByteArray);obtain⟨TX,au⟩:=nm_ (⟨s.tx.toArray⟩:ByteArray);obtain⟨kn,ap⟩:=nm_ s.n;obtain⟨PL,ar⟩:=nm_ (U6 s.who);have ah:TA.size=15:=by rw[<-V.out];rfl
 have aE:Hid ((prog.info? 47).map (·.size)=some TA.size):=hid (by rw[ah];kernel_rfl);have J:Hid (∀ W,St9 r X TA cX W->Q9 r X R NM TG TX kn PL W/\W.cell? ⟨r,0,none⟩=some (.int .i64 2)):=fun W h=>by
  obtain⟨g0,g7,g8,g9,av,gp⟩:=h.cs V.out;have h':=h;rw[<-M.out] at h';refine⟨⟨h'.cx.1,by rw[<-O.out];exact g8,by rw[<-Y.out];exact g9,by rw[<-ap.out];exact av,by rw[<-au.out];exact g7,by rw[<-ar.out];exact gp⟩,?_⟩;rw[hs] at g0;exact g0
 have ag:=G.n2;have am:=G.n1;have aD:=G.iv.n1;have aC:=G.iv.n2;rw[V.out]
 have HC:Hid (Calls prog 17 #[.pointer (some ⟨Q,0,none⟩)] W1 fun e w2=>∃ C,e=.returned (.pointer (some ⟨C,0,none⟩))/\St9 r X TA cX w2/\St9 r X TA cX w2.drew/\Calls prog 22 #[.pointer (some ⟨R,0,none⟩),.string NM,.string TG] w2.drew fun e w4=>∃ ev,e=.returned ev/\St9 r X TA cX w4/\Calls prog 23 #[.pointer (some ⟨C,0,none⟩),.string NM,.string TG] w4 fun e w7=>∃ kk,e=.returned (.int .i64 kk)/\Calls prog 7 #[ev] w7 fun e w8=>∃ ke,e=.returned (.int .i64 ke)/\UZ w0 X k D R Q C (aT T) rs ls ke kk w w8):=hid (by
  refine a8.mono ?_;rintro e w2 ⟨C,rfl,hm⟩;have A:=hm.below (zj _ w2 1);have ao:=A.pw;refine⟨C,rfl,hm.st,A.st,?_⟩;have Z:=zj1 _ _ N D R w2.drew _ t n T s.nm s.tg ao (by omega) (by omega) (fun h1 h2 h3 T' ax=>(qxY G.iv.toIb h1 h2 h3).fewT (by omega) ax) (lo_of G.iv) A.g.2.tab A.g.2.db A.g.2.mx;unfold sV at Z;rw[O.out,Y.out] at Z
  refine Z.mono ?_;rintro e4 w4 hp;obtain⟨⟨ev,rfl⟩,az⟩:=AY hp;obtain⟨I,⟨u1,u2,ae⟩,aG⟩:=A.after az;refine⟨ev,rfl,I,?_⟩;have a6:=zzQ s.nm s.tg w4 ae (Wqw _) (by omega);unfold sV at a6;rw[O.out,Y.out] at a6;refine a6.mono ?_;rintro e7 w7 ⟨k2,aH,aB,rfl,⟨v,aw⟩,ai⟩;have ha:=qyq ao G.iv G.fl am hk hp aB
  exact⟨k2,rfl,Lv aj ak hz ⟨G.lo.1,G.lo.2.1⟩ ag hx1 ay G.dq hm.ge.1 A.bel A.lt ha (Below.refl _ _) ae.box ai ⟨v,u2,aw⟩⟩)
 clear a8 hz G hx hx1 ag am aD aC;go_enter func10,ntmps10;go_wp2_with (first
  | (go_at_call 17;rw[K.out];refine HC.out.mono ?_;rintro e w2 ⟨C,rfl,st2,L,ad⟩;have aF:=(J.out w2 st2).2;have CP:=hid ad;have ST:=hid L;rw[HR.out];clear ad HC st2 L))
 have a7:=(J.out _ ST.out).1;refine wp_region_held_drew (S:=Q9 r X R NM TG TX kn PL) (by kernel_rfl) a7 (fun j=>?_);generalize w2.drew=u0 at j a7 CP ST ⊢;iterate 8
  refine qy (v:=?_) j ?_ ?_;rotate_left
  ·rintro w' ⟨c0,c1,c2,c3,c4,_⟩;go_simp;rfl
  try simp only[Act.put,sL]
 refine vk 8 22 [.tmp 61,.tmp 63,.tmp 65] [.pointer (some ⟨R,0,none⟩),.string NM,.string TG] CP.out ?_;rintro e w4 ⟨ev,rfl,I,c24⟩;refine⟨_,rfl,(J.out _ I).1,fun j=>?_⟩;try simp only[Act.put,sL]
 iterate 1
  refine qy (v:=?_) j ?_ ?_;rotate_left
  ·rintro w' ⟨c0,c1,c2,c3,c4,_⟩;go_simp;rfl
  try simp only[Act.put,sL]
 refine wpAnyH_done (by kernel_rfl) ?_ _;obtain⟨q0,q1,q2,q3,q4,_⟩:=(J.out _ I).1;clear j a7 I;go_wp2_with (first
  | (go_at_call 23;refine c24.mono ?_;rintro e w7 ⟨kk,rfl,ac⟩;have C13:=hid ac;clear ac c24)
  | (go_at_call 7;refine C13.out.mono ?_;rintro e w8 ⟨ke,rfl,p8⟩;have P8:=hid p8;clear p8))
 exact bodyPost_ret (results_tmp3 results10 _ _ _) rfl ⟨_,_,_,rfl,P8.out⟩
theorem qyy {w0:World}{X k:Nat}{q:Bool}{S XE:Nat->Prop}{N D R t n:Nat}{T:Ts}{F:Option Str}{go:Bool}{Q:Nat}{rs:List Rx}{ls:List Ex}(s:Ls)(w:World)(hk:k<100)(a7:Below w0.heap.size w0 w)(a8:Gb w0)(j:Gs w0.heap.size k q S XE N D R t n T F go Q rs ls w)(hx:Wx w X D R Q)(ak:XE X)(hs:s.k=3) :
  Calls prog 10 #[.pointer (some ⟨X,0,none⟩),.agg (uK s).toArray] w (U8 w0 X k D R Q (aT T) rs ls w):=by
 have hz:=j.pw;obtain⟨r,HR⟩:=nm_ w.heap.size;obtain⟨TA,J⟩:=nm_ ((uK s).toArray);obtain⟨W1,A⟩:=nm_ (w.alloc (.cells TA 47));obtain⟨cX,I⟩:=nm_ (#[.pointer (some ⟨D,0,none⟩),.pointer (some ⟨R,0,none⟩),.pointer (some ⟨Q,0,none⟩)] : Array Value);have hx1:w.heap[X]? = some (.cells cX 41 (0,0)):=by rw[<-I.out];exact hx
 have K:=Yy (TA:=TA) hz j.dq a7 a8 ⟨j.lo.1,j.lo.2.1⟩ hx1 A.out;rw[HR.out] at K;have ao:W1.cell? ⟨X,2,none⟩=some (.pointer (some ⟨Q,0,none⟩)):=by
  have:W1.heap[X]? = some (.cells cX 41 (0,0)):=by rw[<-A.out,heap_alloc_old _ _ (z7 hx1)];exact hx1
  rw[<-I.out] at this;simp[World.cell?,this]
 rw[<-A.out] at ao;obtain⟨NM,ae⟩:=nm_ (⟨s.nm.toArray⟩:ByteArray);obtain⟨TG,ah⟩:=nm_ (⟨s.tg.toArray⟩:ByteArray);obtain⟨TX,ai⟩:=nm_ (⟨s.tx.toArray⟩:ByteArray);obtain⟨kn,ad⟩:=nm_ s.n;obtain⟨PL,ag⟩:=nm_ (U6 s.who);have a6:TA.size=15:=by rw[<-J.out];rfl
 have au:Hid ((prog.info? 47).map (·.size)=some TA.size):=hid (by rw[a6];kernel_rfl);have L:Hid (∀ W,St9 r X TA cX W->Q9 r X R NM TG TX kn PL W/\W.cell? ⟨r,0,none⟩=some (.int .i64 3)):=fun W h=>by
  obtain⟨g0,g7,g8,g9,aj,gp⟩:=h.cs J.out;have h':=h;rw[<-I.out] at h';refine⟨⟨h'.cx.1,by rw[<-ae.out];exact g8,by rw[<-ah.out];exact g9,by rw[<-ad.out];exact aj,by rw[<-ai.out];exact g7,by rw[<-ag.out];exact gp⟩,?_⟩;rw[hs] at g0;exact g0
 have Z:=j.n2;have ac:=j.n1;have ar:=j.iv.n1;have ap:=j.iv.n2;rw[J.out]
 have HC:Hid (Calls prog 17 #[.pointer (some ⟨Q,0,none⟩)] W1 fun e w2=>∃ C,e=.returned (.pointer (some ⟨C,0,none⟩))/\St9 r X TA cX w2/\Calls prog 24 #[.pointer (some ⟨R,0,none⟩)] w2 fun e w7=>∃ V,e=.returned V/\Calls prog 7 #[V] w7 fun e w8=>∃ ke,e=.returned (.int .i64 ke)/\UZ w0 X k D R Q C (aT T) rs ls ke 0 w w8):=hid (by
  refine K.mono ?_;rintro e w2 ⟨C,rfl,G⟩;refine⟨C,rfl,G.st,?_⟩;refine(zu2 _ _ N D R w2 _ t n T G.pw (by omega) (by omega) (j.iv.toIb.fewT (by omega) rfl) G.g.2.tab G.g.2.db).mono ?_;intro e4 w4 hp;have ha:=qyj G.pw j.iv j.fl ac hk hp;obtain⟨⟨V,rfl⟩,am⟩:=Hw hp;obtain⟨ay,⟨u1,u2,Y⟩,ax⟩:=G.after am
  exact⟨V,rfl,Lv a7 a8 hz ⟨j.lo.1,j.lo.2.1⟩ Z hx1 ak j.dq G.ge.1 G.bel G.lt ha (Below.refl _ _) Y.box (Al.refl _ _) ⟨u1,u2,Y⟩⟩)
 clear K hz j hx hx1 Z ac ar ap;go_enter func10,ntmps10;go_wp2_with (first
  | (go_at_call 17;rw[A.out];refine HC.out.mono ?_;rintro e w2 ⟨C,rfl,st2,O⟩;have av:=(L.out w2 st2).2;have aw:=(L.out w2 st2).1.c0;have CP:=hid O;rw[HR.out];clear O HC st2)
  | (go_at_call 24;refine CP.out.mono ?_;rintro e w4 ⟨V,rfl,M⟩;have C13:=hid M;clear M)
  | (go_at_call 7;refine C13.out.mono ?_;rintro e w8 ⟨ke,rfl,p8⟩;have P8:=hid p8;clear p8))
 exact bodyPost_ret (results_tmp3 results10 _ _ _) rfl ⟨_,_,_,rfl,P8.out⟩
theorem qyu {w0:World}{X k:Nat}{q:Bool}{S XE:Nat->Prop}{N D R t n:Nat}{T:Ts}{F:Option Str}{go:Bool}{Q:Nat}{rs:List Rx}{ls:List Ex}(s:Ls)(w:World)(hk:k<100)(am:Below w0.heap.size w0 w)(ao:Gb w0)(G:Gs w0.heap.size k q S XE N D R t n T F go Q rs ls w)(hx:Wx w X D R Q)(az:XE X)(hs:s.k=4)(M : -9223372036854775808<=s.n/\s.n<=9223372036854775807) :
  Calls prog 10 #[.pointer (some ⟨X,0,none⟩),.agg (uK s).toArray] w (U8 w0 X k D R Q (aT T) rs ls w):=by
 have hz:=G.pw;obtain⟨r,HR⟩:=nm_ w.heap.size;obtain⟨TA,Z⟩:=nm_ ((uK s).toArray);obtain⟨W1,L⟩:=nm_ (w.alloc (.cells TA 47));obtain⟨cX,V⟩:=nm_ (#[.pointer (some ⟨D,0,none⟩),.pointer (some ⟨R,0,none⟩),.pointer (some ⟨Q,0,none⟩)] : Array Value);have hx1:w.heap[X]? = some (.cells cX 41 (0,0)):=by rw[<-V.out];exact hx
 have ac:=Yy (TA:=TA) hz G.dq am ao ⟨G.lo.1,G.lo.2.1⟩ hx1 L.out;rw[HR.out] at ac;have aB:W1.cell? ⟨X,2,none⟩=some (.pointer (some ⟨Q,0,none⟩)):=by
  have:W1.heap[X]? = some (.cells cX 41 (0,0)):=by rw[<-L.out,heap_alloc_old _ _ (z7 hx1)];exact hx1
  rw[<-V.out] at this;simp[World.cell?,this]
 rw[<-L.out] at aB;obtain⟨NM,Y⟩:=nm_ (⟨s.nm.toArray⟩:ByteArray);obtain⟨TG,av⟩:=nm_ (⟨s.tg.toArray⟩:ByteArray);obtain⟨TX,aw⟩:=nm_ (⟨s.tx.toArray⟩:ByteArray);obtain⟨kn,I⟩:=nm_ s.n;obtain⟨PL,au⟩:=nm_ (U6 s.who);have aj:TA.size=15:=by rw[<-Z.out];rfl
 have aE:Hid ((prog.info? 47).map (·.size)=some TA.size):=hid (by rw[aj];kernel_rfl);have K:Hid (∀ W,St9 r X TA cX W->Q9 r X R NM TG TX kn PL W/\W.cell? ⟨r,0,none⟩=some (.int .i64 4)):=fun W h=>by
  obtain⟨g0,g7,g8,g9,ax,gp⟩:=h.cs Z.out;have h':=h;rw[<-V.out] at h';refine⟨⟨h'.cx.1,by rw[<-Y.out];exact g8,by rw[<-av.out];exact g9,by rw[<-I.out];exact ax,by rw[<-aw.out];exact g7,by rw[<-au.out];exact gp⟩,?_⟩;rw[hs] at g0;exact g0
 have ai:=G.n2;have ap:=G.n1;have aD:=G.iv.n1;have aC:=G.iv.n2;rw[Z.out]
 have HC:Hid (Calls prog 17 #[.pointer (some ⟨Q,0,none⟩)] W1 fun e w2=>∃ C,e=.returned (.pointer (some ⟨C,0,none⟩))/\St9 r X TA cX w2/\St9 r X TA cX w2.drew/\Calls prog 25 #[.pointer (some ⟨R,0,none⟩),.string NM,.int .i64 kn] w2.drew fun e w4=>∃ ev,e=.returned ev/\St9 r X TA cX w4/\Calls prog 26 #[.pointer (some ⟨C,0,none⟩),.string NM,.int .i64 kn] w4 fun e w7=>∃ kk,e=.returned (.int .i64 kk)/\Calls prog 7 #[ev] w7 fun e w8=>∃ ke,e=.returned (.int .i64 ke)/\UZ w0 X k D R Q C (aT T) rs ls ke kk w w8):=hid (by
  refine ac.mono ?_;rintro e w2 ⟨C,rfl,hm⟩;have A:=hm.below (zj _ w2 1);have ar:=A.pw;refine⟨C,rfl,hm.st,A.st,?_⟩;have a6:=Ay _ _ N D R w2.drew _ t n T s.nm s.n M.1 M.2 ar (by omega) (by omega) (fun T' i ay=>(qv0 G.iv.toIb s.nm i).fewT (by omega) ay) A.g.2.tab A.g.2.db A.g.2.mx;unfold sV at a6;rw[Y.out,I.out] at a6
  refine a6.mono ?_;rintro e4 w4 hp;rw[<-I.out] at hp;have ha:=qyx ar G.iv G.fl ap hk hp;obtain⟨⟨ev,rfl⟩,aA⟩:=zq4 ha;obtain⟨J,⟨u1,u2,ag⟩,aG⟩:=A.after aA;refine⟨ev,rfl,J,?_⟩;have a7:=MQ s.nm s.n M.1 M.2 w4 ag (Wqw _);unfold sV at a7;rw[Y.out,I.out] at a7;refine a7.mono ?_;rintro e7 w7 ⟨rfl,⟨v,ah⟩,ak⟩;rw[<-I.out] at ah
  exact⟨_,rfl,Lv am ao hz ⟨G.lo.1,G.lo.2.1⟩ ai hx1 az G.dq hm.ge.1 A.bel A.lt ha (Below.refl _ _) ag.box ak ⟨u1,v,ah⟩⟩)
 clear ac hz G hx hx1 ai ap aD aC;go_enter func10,ntmps10;go_wp2_with (first
  | (go_at_call 17;rw[L.out];refine HC.out.mono ?_;rintro e w2 ⟨C,rfl,st2,O,ae⟩;have aF:=(K.out w2 st2).2;have CP:=hid ae;have ST:=hid O;rw[HR.out];clear ae HC st2 O))
 have a8:=(K.out _ ST.out).1;refine wp_region_held_drew (S:=Q9 r X R NM TG TX kn PL) (by kernel_rfl) a8 (fun j=>?_);generalize w2.drew=u0 at j a8 CP ST ⊢;iterate 8
  refine qy (v:=?_) j ?_ ?_;rotate_left
  ·rintro w' ⟨c0,c1,c2,c3,c4,_⟩;go_simp;rfl
  try simp only[Act.put,sL]
 refine vk 8 25 [.tmp 92,.tmp 94,.tmp 96] [.pointer (some ⟨R,0,none⟩),.string NM,.int .i64 kn] CP.out ?_;rintro e w4 ⟨ev,rfl,J,c24⟩;refine⟨_,rfl,(K.out _ J).1,fun j=>?_⟩;try simp only[Act.put,sL]
 iterate 1
  refine qy (v:=?_) j ?_ ?_;rotate_left
  ·rintro w' ⟨c0,c1,c2,c3,c4,_⟩;go_simp;rfl
  try simp only[Act.put,sL]
 refine wpAnyH_done (by kernel_rfl) ?_ _;obtain⟨q0,q1,q2,q3,q4,_⟩:=(K.out _ J).1;clear j a8 J;go_wp2_with (first
  | (go_at_call 26;refine c24.mono ?_;rintro e w7 ⟨kk,rfl,ad⟩;have C13:=hid ad;clear ad c24)
  | (go_at_call 7;refine C13.out.mono ?_;rintro e w8 ⟨ke,rfl,p8⟩;have P8:=hid p8;clear p8))
 exact bodyPost_ret (results_tmp3 results10 _ _ _) rfl ⟨_,_,_,rfl,P8.out⟩
theorem qyZ {w0:World}{X k:Nat}{q:Bool}{S XE:Nat->Prop}{N D R t n:Nat}{T:Ts}{F:Option Str}{go:Bool}{Q:Nat}{rs:List Rx}{ls:List Ex}(s:Ls)(w:World)(hk:k<100)(aJ:Below w0.heap.size w0 w)(aN:Gb w0)(I:Gs w0.heap.size k q S XE N D R t n T F go Q rs ls w)(hx:Wx w X D R Q)(bn:XE X)(hs:s.k=1)(hP:Px qj 41 dMv w0 s.a s.c s.ms)(au:∀ m ∈ s.ms,xu m)(ad:smL s) :
  Calls prog 10 #[.pointer (some ⟨X,0,none⟩),.agg (uK s).toArray] w (U8 w0 X k D R Q (aT T) rs ls w):=by
 have hz:=I.pw;obtain⟨r,HR⟩:=nm_ w.heap.size;obtain⟨TA,a6⟩:=nm_ ((uK s).toArray);obtain⟨W1,a7⟩:=nm_ (w.alloc (.cells TA 47));obtain⟨cX,Y⟩:=nm_ (#[.pointer (some ⟨D,0,none⟩),.pointer (some ⟨R,0,none⟩),.pointer (some ⟨Q,0,none⟩)] : Array Value);have hx1:w.heap[X]? = some (.cells cX 41 (0,0)):=by rw[<-Y.out];exact hx
 have ar:=Yy (TA:=TA) hz I.dq aJ aN ⟨I.lo.1,I.lo.2.1⟩ hx1 a7.out;rw[HR.out] at ar;have bp:W1.cell? ⟨X,2,none⟩=some (.pointer (some ⟨Q,0,none⟩)):=by
  have:W1.heap[X]? = some (.cells cX 41 (0,0)):=by rw[<-a7.out,heap_alloc_old _ _ (z7 hx1)];exact hx1
  rw[<-Y.out] at this;simp[World.cell?,this]
 rw[<-a7.out] at bp;obtain⟨NM,b8⟩:=nm_ (⟨s.nm.toArray⟩:ByteArray);obtain⟨TG,bf⟩:=nm_ (⟨s.tg.toArray⟩:ByteArray);obtain⟨TX,ai⟩:=nm_ (⟨s.tx.toArray⟩:ByteArray);obtain⟨kn,b7⟩:=nm_ s.n;obtain⟨A,Z⟩:=nm_ (U6 s.who);have am:A.length=4:=by rw[<-Z.out];rfl
 have ag:Hid ((prog.info? 45).map (·.size)=some A.length):=hid (by rw[am];kernel_rfl);have ah:Hid ((prog.info? 72).map (·.size)=some A.toArray.size):=hid (by rw[Wyu,am];kernel_rfl);have be:Hid ((4:Nat)=A.toArray.size):=hid (by rw[Wyu,am])
 have b9:Hid (A.toArray.all (·.oneCell')=true):=hid (by rw[<-Z.out];exact all_oneCell_toArray (fun v hv=>by simp[U6] at hv;rcases hv with rfl | rfl | rfl | rfl <;> rfl));have aG:TA.size=15:=by rw[<-a6.out];rfl
 have aw:Hid ((prog.info? 47).map (·.size)=some TA.size):=hid (by rw[aG];kernel_rfl);have M:Hid (∀ W,St9 r X TA cX W->Q9 r X R NM TG TX kn A W/\W.cell? ⟨r,0,none⟩=some (.int .i64 1)):=fun W h=>by
  obtain⟨g0,g7,g8,g9,bi,gp⟩:=h.cs a6.out;have h':=h;rw[<-Y.out] at h';refine⟨⟨h'.cx.1,by rw[<-b8.out];exact g8,by rw[<-bf.out];exact g9,by rw[<-b7.out];exact bi,by rw[<-ai.out];exact g7,by rw[<-Z.out];exact gp⟩,?_⟩;rw[hs] at g0;exact g0
 have aC:=I.n2;have aS:=I.n1;have bz:=I.iv.n1;have br:=I.iv.n2;rw[a6.out];obtain⟨L,HL⟩:=nm_ s.ms.length
 have HC:Hid (Calls prog 17 #[.pointer (some ⟨Q,0,none⟩)] W1 fun e w2=>∃ C,e=.returned (.pointer (some ⟨C,0,none⟩))/\St9 r X TA cX w2/\Calls prog 18 #[.pointer (some ⟨X,0,none⟩),.agg TA] w2 fun e w3=>∃ va vc vb vd,e=.returned (.tuple #[.slice va L vc,.slice vb L vd])/\St9 r X TA cX w3.drew/\Calls prog 19 #[.pointer (some ⟨R,0,none⟩),.slice va L vc,.agg A.toArray,.string TX] w3.drew fun e w4=>∃ ev,e=.returned ev/\St9 r X TA cX w4/\Calls prog 20 #[.agg A.toArray] w4 fun e w5=>e=.returned (.agg A.toArray)/\∃ W6,w5.alloc (.cells A.toArray 72)=W6/\W6.heap[w5.heap.size]? = some (.cells A.toArray 72)/\St9 r X TA cX W6/\Calls prog 21 #[.pointer (some ⟨C,0,none⟩),.slice vb L vd,.agg A.toArray,.string TX] W6 fun e w7=>∃ kk,e=.returned (.int .i64 kk)/\Calls prog 7 #[ev] w7 fun e w8=>∃ ke,e=.returned (.int .i64 ke)/\UZ w0 X k D R Q C (aT T) rs ls ke kk w w8):=hid (by
  refine ar.mono ?_;rintro e w2 ⟨C,rfl,hm⟩;refine⟨C,rfl,hm.st,?_⟩;obtain⟨v1,v2,aL⟩:=I.dq;have aV:=hm.st;rw[<-Y.out] at aV;have bm:∀ W,Below w0.heap.size w0 W->Px qj 41 dMv W s.a s.c s.ms:=fun W hW=>hP.below hW;have az:=MZ X s w2 aV.cx.2 (aL.below hm.bel) (bm w2 hm.g.1) au ad.1;rw[a6.out] at az;refine az.mono ?_
  rintro e3 w3 ⟨va,vc,vb,vd,aM,aD,aE,bo,aP⟩;rw[HL.out] at aM;have J:=(hm.below bo).below (zj _ w3 1);refine⟨va,vc,vb,vd,aM,J.st,?_⟩;obtain⟨ms,ac⟩:∃ ms,s.ms.map (chM rs s.rot)=ms:=⟨_,rfl⟩;rw[ac] at aD aE;have aQ:ms.length=L:=by rw[<-ac,Wx7,HL.out]
  have a8:∀ m ∈ ms,xu m:=fun m aR=>by
   rw[<-ac] at aR;obtain⟨m',bu,rfl⟩:=List.mem_map.1 aR;exact AX aL.ok1 s.rot (au m' bu)
  have K:ms.length<=20:=by rw[<-ac,Wx7];exact ad.1
  have aU:=J.pw;have O:A.toArray=x8 s.who:=by rw[<-Z.out];rfl
  have aj:=Au _ _ N D R w3.drew _ t n T va vc ms s.who s.tx aU (aD.below (zj _ w3 1)) a8 K (by have:=ad.2;omega) (by omega) (by omega) (fun ws hw bw=>up_ok I.iv.toIb hk rfl (qxJ I.iv.toIb (by rw[<-I.iv.wy rfl];exact hw) bw a8 K) s.who s.tx) J.g.2.tab J.g.2.db J.g.2.mx;unfold sV at aj;rw[ai.out,aQ,<-O] at aj;refine aj.mono ?_
  intro e4 w4 hp;obtain⟨ev,rfl⟩:=WW hp;have ap:=zq3 hp;obtain⟨G,⟨u1,u2,bj⟩,bF⟩:=J.after ap;refine⟨ev,rfl,G,?_⟩;have aA:=Kq s.who w4;rw[<-O] at aA;refine aA.mono ?_;rintro e5 w5 ⟨rfl,aK⟩;have V:Below w4.heap.size w4 (w5.alloc (.cells A.toArray 72)):=aK.alloc aK.size _
  have ae:St9 r X TA cX (w5.alloc (.cells A.toArray 72)):=⟨(V.block r (z7 G.b)).trans G.b,(V.block X (z7 G.x)).trans G.x⟩;refine⟨rfl,_,rfl,heap_alloc_new _ _,ae,?_⟩;have aB:=bj.below V;have aF:Px qj 41 dMv w4 vb vd ms:=(aE.below (zj _ w3 1)).tf (fun q hq=>?_) ap.size
  ·have ak:=MX vb vd ms s.who s.tx _ aB (Wqw _) (aF.below V) a8 K (by have:=ad.2;omega) (by omega) (by omega);unfold sV at ak;rw[ai.out,aQ,<-O] at ak;refine ak.mono ?_;rintro e7 w7 ⟨k2,bG,bE,bq,rfl,bk,aI⟩;have ha:=qyz aU I.iv I.fl aS hk a8 K hp bq
   exact⟨k2,rfl,Lv aJ aN hz ⟨I.lo.1,I.lo.2.1⟩ aC hx1 bn I.dq hm.ge.1 J.bel J.lt ha V aB.box aI bk⟩
  obtain⟨l1,l2⟩:=aP q hq;have bB:=hm.bel.size;refine ap.blk q.block l2 (fun hi=>?_);rcases hi with hi | hi
  ·have:=hm.lim.1 _ hi.1;omega
  have:=hm.lim.2;omega)
 clear ar hz I hx hx1 hP au aC aS bz br;go_enter func10,ntmps10;go_wp2_with (first
  | (go_at_call 17;rw[a7.out];refine HC.out.mono ?_;rintro e w2 ⟨C,rfl,st2,ay⟩;have bC:=(M.out w2 st2).2;have aX:=hid ay;have b2:=hid st2.b;rw[HR.out];clear ay HC st2)
  | (refine zX rfl 47 (.tmp 3) rfl r TA 47 (0,0) _ rfl b2.out underlying47 rfl aw.out ?_;go_frame)
  | (go_at_call 18;refine aX.out.mono ?_;rintro e w3 ⟨va,vc,vb,vd,rfl,aW,c20⟩;have av:=hid c20;have ST:=hid aW;clear c20 aW))
 have ao:=(M.out _ ST.out).1;refine wp_region_held_drew (S:=Q9 r X R NM TG TX kn A) (by kernel_rfl) ao (fun j=>?_);generalize w3.drew=u0 at j ao av ST ⊢;iterate 6
  refine qy (v:=?_) j ?_ ?_;rotate_left
  ·rintro w' ⟨c0,c1,c2,c3,c4,_⟩;go_simp;rfl
  try simp only[Act.put,sL]
 refine qZ (i:=6) (v:=.agg A.toArray) j (fun w' bA=>zY 45 (.tmp 38) rfl r 3 rfl A _ bA.rp underlying45 rfl ag.out) ?_;try simp only[Act.put,sL]
 iterate 2
  refine qy (v:=?_) j ?_ ?_;rotate_left
  ·rintro w' ⟨c0,c1,c2,c3,c4,_⟩;go_simp;rfl
  try simp only[Act.put,sL]
 refine vk 9 19 [.tmp 36,.tmp 37,.tmp 39,.tmp 41] [.pointer (some ⟨R,0,none⟩),.slice va L vc,.agg A.toArray,.string TX] av.out ?_;rintro e w4 ⟨ev,rfl,G,c21⟩;refine⟨_,rfl,(M.out _ G).1,fun j=>?_⟩;try simp only[Act.put,sL]
 iterate 1
  refine qy (v:=?_) j ?_ ?_;rotate_left
  ·rintro w' ⟨c0,c1,c2,c3,c4,_⟩;go_simp;rfl
  try simp only[Act.put,sL]
 refine wpAnyH_done (by kernel_rfl) ?_ _;have bh:=hid (M.out _ G).1.rp;have aY:=hid c21;clear j ao G c21;go_wp2_with (first
  | (refine wpList_load_mid rfl 45 (.tmp 43) rfl _ _ rfl A _ bh.out underlying45 rfl ag.out ?_;go_frame)
  | (go_at_call 20;refine aY.out.mono ?_;rintro e w5 ⟨rfl,W6,aH,aO,ae,c22⟩;have bg:=hid aH;have b6:=hid aO;have bD:=(M.out _ ae).1.c4;have aZ:=hid c22;clear aH aO ae c22)
  | (refine zq rfl 72 (.tmp 11) (.tmp 45) rfl _ A.toArray rfl rfl ah.out be.out b9.out ?_;rw[bg.out];go_frame)
  | (refine zX rfl 72 (.tmp 11) rfl _ A.toArray 72 (0,0) _ rfl b6.out underlying72 rfl ah.out ?_;go_frame)
  | (go_at_call 21;refine aZ.out.mono ?_;rintro e w7 ⟨kk,rfl,ax⟩;have C13:=hid ax;clear ax)
  | (go_at_call 7;refine C13.out.mono ?_;rintro e w8 ⟨ke,rfl,p8⟩;have P8:=hid p8;clear p8))
 exact bodyPost_ret (results_tmp3 results10 _ _ _) rfl ⟨_,_,_,rfl,P8.out⟩
end Go.Proofs.YtdnphaganajejaaGreatDoor.K
