import Derived.Test.YtdnphaganajejaaGreatDoorMz14
set_option linter.unusedSimpArgs false
set_option linter.unusedVariables false
set_option maxRecDepth 20000
set_option maxHeartbeats 4000000
open List renaming mem_append->Wqx
open Nat renaming le_trans->Wz9,lt_of_lt_of_le->Wq2
namespace Go.Proofs.YtdnphaganajejaaGreatDoor.K
open Go.Proofs.Tryz
open Go.RowKit
structure Sp where
 word:Str
 name:Str
 id:List Int
 tg:Str
 e:Le
def zJ (s:Sp):List Value:=sV s.word :: sV s.name :: (row .u8 s.id++(sV s.tg :: qw s.e))
structure vV (s:Sp):Prop where
 id:IdW s.id
 e:vY s.e
 nm:s.name.length<=60
 tg:s.tg.length<=60
theorem qx {s:Sp} (h:vV s):(zJ s).length=68:=by simp[zJ,zv,h.id.1,yQ h.e]
theorem yk (s:Sp):∀ v ∈ zJ s,v.oneCell'=true:=fun v hv=>by
 unfold zJ at hv;simp only[Wqx,List.mem_cons] at hv;rcases hv with rfl | rfl | hv | rfl | hv
 ·rfl
 ·rfl
 ·exact yK .u8 s.id v hv
 ·rfl
 exact uZ s.e v hv
def wR:Str:=[114,101,102]
def wL:Str:=[108,105,110,107]
def wD:Str:=[100,114,111,112]
def wG:Str:=[108,111,103]
def aT (T:Ts):Rk.Tb Str Kp Le:=fun x=>(T x).map fun r=>((r.id,r.tg),r.log)
def sP (s:Sp):Rk.St Str Kp Le:=(s.name,if s.word=wR then .inl (s.id,[]) else if s.word=wL then .inl (zZ,s.tg) else if s.word=wD then .inr (.inl ()) else .inr (.inr s.e))
def LgO (g:Nat) (w:World) (r:Lr):Prop:=r.c=r.log.length ∨ w.ownsRow g 133 45 (.slice r.a r.log.length r.c) r.log.length (r.log.flatMap qw)
structure To (S:Nat->Prop) (g:Nat) (w:World) (t n:Nat) (T:Ts):Prop where
 tt:Tt S w t n T
 lg:∀ x r,T x=some r->LgO g w r
 un:∀ x y r q,T x=some r->T y=some q->x ≠ y->r.c ≠ r.log.length->∀ p p':Addr,r.a=some p->q.a=some p'->p.block ≠ p'.block
 ge:g<=t
 out:∀ i,S i->i<g
structure Sa (s:Sp) (B:Array Value) (K:Nat):Prop where
 e:(zJ s).toArray=B
 c0:∀ W:World,W.heap[K]? = some (.cells B 146)->W.cell? ⟨K,0,none⟩=some (sV s.word)
 c1:∀ W:World,W.heap[K]? = some (.cells B 146)->W.cell? ⟨K,1,none⟩=some (sV s.name)
 c22:∀ W:World,W.heap[K]? = some (.cells B 146)->W.cell? ⟨K,22,none⟩=some (sV s.tg)
 r2:∀ W:World,W.heap[K]? = some (.cells B 146)->W.rangeAt K 2 (row .u8 s.id)
 r23:∀ W:World,W.heap[K]? = some (.cells B 146)->W.rangeAt K 23 (qw s.e)
theorem sa (s:Sp) (h:vV s) (K:Nat):∃ B,Hid (Sa s B K):=by
 have D:(row .u8 s.id).length=20:=by rw[zv];exact h.id.1
 refine⟨_,hid ⟨rfl,fun W A=>?_,fun W A=>?_,fun W A=>?_,fun W A j v hv=>?_,fun W A j v hv=>?_⟩⟩
 ·rw[cell_of_row _ _ 0 _ _ _ A];rfl
 ·rw[cell_of_row _ _ 1 _ _ _ A];rfl
 ·rw[cell_of_row _ _ 22 _ _ _ A];simp[zJ,List.getElem?_append_right,D]
 ·rw[cell_of_row _ _ (2+j) _ _ _ A];have G:=(List.getElem?_eq_some_iff.1 hv).1;simp only[zJ,List.getElem?_toArray,show 2+j=j+1+1 by omega,List.getElem?_cons_succ];rw[List.getElem?_append_left G];exact hv
 rw[cell_of_row _ _ (23+j) _ _ _ A];simp only[zJ,List.getElem?_toArray,show 23+j=(21+j)+1+1 by omega,List.getElem?_cons_succ];rw[List.getElem?_append_right (by omega),D,show 21+j-20=j+1 by omega,List.getElem?_cons_succ];exact hv
theorem qzv (x:List Int) (hx:x.length=20) (a:Option Addr) (n c:Nat) (w:World):(Instr.build 129 #[(0,.agg (row .u8 x).toArray),(2,.slice a n c)]).run prog w=.ok (.agg (row .u8 x++[sV [],.slice a n c]).toArray) w:=by
 obtain⟨a0,a1,a2,a3,a4,a5,O,Q,V,a9,h,j,A,D,G,I,J,K,L,M,rfl⟩:=yJ x hx;kernel_rfl
theorem qzw (v:ByteArray) (a:Option Addr) (n c:Nat) (w:World):(Instr.build 129 #[(1,.string v),(2,.slice a n c)]).run prog w=.ok (.agg (row .u8 zZ++[Value.string v,Value.slice a n c]).toArray) w:=by kernel_rfl
theorem vz {P:Program} {o:Oper} {a:Act} {w w':World} (t:TypeId) (i j:Nat) (x y:Operand) (I:o.op=.build t #[(i,x),(j,y)]) (h A v:Value) (D:a.eval x=h) (G:a.eval y=A) (hr:(Instr.build t #[(i,h),(j,A)]).run P w=.ok v w'):(execOp a.eval o).run P w=.ok (.value v) w':=by
 unfold execOp;simp[I,D,G,hr,Result.andThen]
def gR (T:Ts) (x:Str):Lr:=(T x).getD r0
theorem SJ {S:Nat->Prop} {g:Nat} {w:World} {t n:Nat} {T:Ts} (h:To S g w t n T) (x:Str) (hx:x.length<=60):Xv S w x (gR T x)/\LgO g w (gR T x)/\(vT T x).getD (rV r0)=rV (gR T x):=by
 unfold gR vT;cases j:T x with
 | none=>exact⟨⟨hx,⟨rfl,fun n D=>by rw[List.eq_of_mem_replicate D];exact⟨by decide,by decide⟩⟩,by simp[r0],⟨by simp[r0],fun h=>by simp[r0] at h,fun _=>rfl⟩,by simp[r0],fun e A=>by simp[r0] at A,fun p G=>by cases G⟩,.inl rfl,rfl⟩
 | some r=>exact⟨h.tt.at_ x r j,h.lg x r j,rfl⟩
theorem results86:f86.results=#[]:=by kernel_rfl
theorem To.below {S:Nat->Prop} {g:Nat} {w W:World} {t n:Nat} {T:Ts} (h:To S g w t n T) (hb:Below w.heap.size w W):To S g W t n T :=
 ⟨h.tt.below hb,fun x r hr=>by
  rcases h.lg x r hr with k | k
  ·exact .inl k
  ·exact .inr (zK (T:=0) k (.below hb) (by decide)),h.un,h.ge,h.out⟩
def uT (T:Ts) (x:Str) (o:Option Lr):Ts:=fun y=>if y=x then o else T y
structure Bg (g:Nat) (w w':World):Prop where
 b:Below g w w'
 k:∀ (i:Nat) (c:Array Value) (f:Nat × Nat),w.heap[i]? = some (.cells c 146 f)->w'.heap[i]? = some (.cells c 146 f)
theorem Bg.of {g:Nat} {w w2 w3:World} (h:Below w.heap.size w w2) (j:g<=w.heap.size) (k:Bg g w2 w3):Bg g w w3 :=
 ⟨(h.mono j).trans k.b,fun i c f hi=>k.k i c f ((h.block i (z7 hi)).trans hi)⟩
theorem Bg.trans {g:Nat} {w w2 w3:World} (h:Bg g w w2) (k:Bg g w2 w3):Bg g w w3:=⟨h.b.trans k.b,fun i c f hi=>k.k i c f (h.k i c f hi)⟩
theorem To.put {S:Nat->Prop} {g:Nat} {w w':World} {t n:Nat} {T:Ts} (h:To S g w t n T) {x:Str} (o:Option Lr) (hx:x.length<=60) (ho:∀ r,o=some r->IdW r.id/\r.tg.length<=60/\r.a=(gR T x).a/\r.c=(gR T x).c/\r.log=(gR T x).log) (hT:TM (rV r0) w' t (n+1) (vT (uT T x o))) (D:w.grownBy w' (some t)):To S g w' t (n+1) (uT T x o)/\Bg g w w':=by
 obtain⟨es,ck,hb⟩:=h.tt.tm.box;have a6:Below g w w':=⟨D.os,D.tape,D.output,D.size,fun i hi=>D.block i (by have:=h.tt.tm.lt;have:=h.ge;omega) (fun e=>by cases e;have:=h.ge;omega)⟩;have a8:∀ (i:Nat) (c:Array Value) (f:Nat × Nat),w.heap[i]? = some (.cells c 133 f)->w'.heap[i]? = some (.cells c 133 f):=fun i c f hi=>Tf.grown hb D hi
 have Q:∀ y r,Xv S w y r->Px qw 45 dL w' r.a r.c r.log:=fun y r hr=>by
  refine⟨hr.px.capl,fun h0=>?_,hr.px.nil⟩;obtain⟨b,off,e1,J,e3⟩:=hr.px.at_ h0;refine⟨b,off,e1,Wq2 J D.size,fun i hi j v hv=>?_⟩;rw[World.cell?_of_block (a:=⟨b,off+i*45+j,none⟩) (D.block b J (fun e=>by
   cases e
   have h5:=e3 i hi j v hv;simp[World.cell?,hb] at h5))]
  exact e3 i hi j v hv
 have M:∀ r,LgO g w r->LgO g w' r:=fun r k=>by
  rcases k with k | k
  ·exact .inl k
  exact .inr (vw k hb D)
 have O:=SJ h x hx;have A:∀ y r,uT T x o y=some r->(y=x/\o=some r) ∨ (y ≠ x/\T y=some r):=fun y r hr=>by
  unfold uT at hr;by_cases e:y=x
  ·rw[if_pos e] at hr;exact .inl ⟨e,hr⟩
  rw[if_neg e] at hr;exact .inr ⟨e,hr⟩
 refine⟨⟨⟨hT,fun y r hr=>?_,h.tt.out⟩,fun y r hr=>?_,fun y z r q hy hz a7 hc p p' I K=>?_,h.ge,h.out⟩,a6,fun i c f hi=>Tf.grown hb D hi⟩
 ·rcases A y r hr with ⟨rfl,e⟩ | ⟨e,J⟩
  ·obtain⟨k1,k2,G,V,L⟩:=ho r e;have:=O.1;exact⟨hx,k1,k2,by rw[G,V,L];exact Q y _ this,by rw[L];exact this.few,by rw[L];exact this.ok,fun p I=>⟨(this.out p (G ▸ I)).1,Wq2 (this.out p (G ▸ I)).2 D.size⟩⟩
  have:=h.tt.at_ y r J;exact⟨this.nm,this.id,this.tg,Q y r this,this.few,this.ok,fun p I=>⟨(this.out p I).1,Wq2 (this.out p I).2 D.size⟩⟩
 ·rcases A y r hr with ⟨rfl,e⟩ | ⟨e,J⟩
  ·obtain⟨k1,k2,G,V,L⟩:=ho r e;have:=M _ O.2.1;unfold LgO at this ⊢;rw[G,V,L];exact this
  exact M _ (h.lg y r J)
 have key:∀ u s,uT T x o u=some s->∃ Y,Y.a=s.a/\Y.c=s.c/\Y.log=s.log/\(s.a=none ∨ T u=some Y):=fun u s hu=>by
  rcases A u s hu with ⟨rfl,e⟩ | ⟨e,J⟩
  ·obtain⟨k1,k2,G,V,L⟩:=ho s e;refine⟨gR T u,G.symm,V.symm,L.symm,?_⟩;unfold gR at G ⊢;cases Z:T u with
   | none=>rw[Z] at G;exact .inl G
   | some r'=>exact .inr rfl
  exact⟨s,rfl,rfl,rfl,.inr J⟩
 obtain⟨r',a1,a2,a3,a4⟩:=key y r hy;obtain⟨q',b1,b2,b3,b4⟩:=key z q hz;rcases a4 with a4 | a4
 ·rw[a4] at I;cases I
 rcases b4 with b4 | b4
 ·rw[b4] at K;cases K
 exact h.un y z r' q' a4 b4 a7 (by rw[a2,a3];exact hc) p p' (a1 ▸ I) (b1 ▸ K)
theorem SK (T:Ts) (x:Str) (o:Option Lr):vT (uT T x o)=fun y=>if y=x then o.map rV else vT T y:=by
 funext y;simp only[vT,uT];by_cases e:y=x <;> simp[e]
theorem zxz (T:Ts) (x:Str) (k:Kp) (r:Lr) (h:(r.id,r.tg)=k) (j:r.log=(gR T x).log):aT (uT T x (some r))=Rk.putT (aT T) x k:=by
 funext y;simp only[aT,uT,Rk.putT];by_cases e:y=x
 ·subst e;simp only[if_true,Option.map_some,h,j,gR];cases T y <;> rfl
 simp[e]
theorem qu3 (T:Ts) (x:Str):aT (uT T x none)=Rk.delT (aT T) x:=by
 funext y;simp only[aT,uT,Rk.delT];by_cases e:y=x <;> simp[e]
structure Ap (g:Nat) (w w':World) (r:Lr) (l:List Le) (v:Value):Prop where
 own:w'.ownsRow g 133 45 v l.length (l.flatMap qw)
 os:w'.os=w.os
 tape:w'.tape=w.tape
 output:w'.output=w.output
 size:w.heap.size<=w'.heap.size
 blk:∀ i,i<w.heap.size->(r.c ≠ r.log.length->some i ≠ (Value.slice r.a r.log.length r.c).ownBlock)->w'.heap[i]? = w.heap[i]?
 at_:∀ b,v.ownBlock=some b->(r.c ≠ r.log.length/\(Value.slice r.a r.log.length r.c).ownBlock=some b) ∨ w.heap.size<=b
theorem zxq {w:World} {B e k n:Nat} {v:Value} {xs:List Value} (h:w.ownsRow B e k v n xs):∃ a c,v=.slice a n c/\(∀ p:Addr,a=some p->v.ownBlock=some p.block):=by
 obtain⟨_,⟨rfl,rfl⟩ | ⟨g,cap,cur,rfl,_⟩⟩:=h
 ·exact⟨_,_,rfl,fun p j=>by cases j⟩
 exact⟨_,_,rfl,fun p j=>by cases j;rfl⟩
theorem UY {a:Option Addr} {n c b:Nat} (h:(Value.slice a n c).ownBlock=some b):∃ p:Addr,a=some p/\p.block=b:=by
 cases a with
 | none=>cases h
 | some p=>exact⟨p,rfl,by simpa [Value.ownBlock] using h⟩
theorem To.log {S:Nat->Prop} {g:Nat} {w w3 w4 w':World} {t n:Nat} {T:Ts} (h:To S g w t n T) {x:Str} {r:Lr} (hr:T x=some r) {e:Le} (he:vY e) (hf:r.log.length+1<=100000) {Y:Option Addr} {c':Nat} (K:Below w.heap.size w w3) (V:Ap g w3 w4 r (r.log++[e]) (.slice Y (r.log++[e]).length c')) (hg:g<=w.heap.size) {m:Nat} (hm:w.heap.size<=m/\m<w3.heap.size)
  (hs:w4.heap.size<=w'.heap.size) (ae:w'.os=w4.os/\w'.tape=w4.tape/\w'.output=w4.output) (hk:∀ i,i<w4.heap.size->i ≠ t->i ≠ m->w'.heap[i]? = w4.heap[i]?)
  (hT:TM (rV r0) w' t (n+1) (vT (uT T x (some ⟨r.id,r.tg,Y,c',r.log++[e]⟩)))):To S g w' t (n+1) (uT T x (some ⟨r.id,r.tg,Y,c',r.log++[e]⟩))/\Bg g w w':=by
 obtain⟨es,ck,Z⟩:=h.tt.tm.box;have J:=h.tt.at_ x r hr;have ax:=V.size;have hsz:w.heap.size<=w4.heap.size:=Wz9 K.size V.size;have av:∀ b,(Value.slice r.a r.log.length r.c).ownBlock=some b->b<w.heap.size:=fun b hb=>by
  obtain⟨p,e1,D⟩:=UY hb;rw[<-D];exact(J.out p e1).2
 have a8:∀ i,i<w.heap.size->(r.c ≠ r.log.length->some i ≠ (Value.slice r.a r.log.length r.c).ownBlock)->w4.heap[i]? = w.heap[i]? := fun i hi hn=>(V.blk i (Wq2 hi K.size) hn).trans (K.block i hi)
 have ah:∀ (i:Nat) (c:Array Value) (f:Nat × Nat),w4.heap[i]? = some (.cells c 133 f)->i ≠ t->i ≠ m->w'.heap[i]? = some (.cells c 133 f):=fun i c f hi hit ar=>(hk i (z7 hi) hit ar).trans hi;have ai:∀ i,i<g->w'.heap[i]? = w.heap[i]? := fun i hi=>by
  have h1:w4.heap[i]? = w.heap[i]? := a8 i (by omega) (fun hc e=>by
   rcases h.lg x r hr with k | k
   ·exact hc k
   have:=(yu k i e.symm).1;omega)
  exact(hk i (by omega) (by have:=h.ge;omega) (by omega)).trans h1
 have aw:w4.heap[t]? = w.heap[t]? := a8 t h.tt.tm.lt (fun hc e=>by
  rcases h.lg x r hr with k | k
  ·exact hc k
  obtain⟨c,f,Q⟩:=yY k t e.symm;rw[Z] at Q;cases Q)
 have O:w'.ownsRow g 133 45 (.slice Y (r.log++[e]).length c') (r.log++[e]).length ((r.log++[e]).flatMap qw):=by
  obtain⟨hl,h1 | ⟨q,cap,cur,hv,hb,hh,rr⟩⟩:=V.own
  ·exact⟨hl,.inl h1⟩
  exact⟨hl,.inr ⟨q,cap,cur,hv,hb,ah _ _ _ hh (by rintro rfl;rw[aw,Z] at hh;cases hh) (by
   rcases V.at_ q (by rw[hv];rfl) with ⟨_,k⟩ | k
   ·have:=av q k;omega
   omega),rr⟩⟩
 have M:∀ y q,T y=some q->y ≠ x->∀ (p:Addr) (c:Array Value) (U:TypeId) (f:Nat × Nat),q.a=some p->w.heap[p.block]? = some (.cells c U f)->w'.heap[p.block]? = some (.cells c U f):=fun y q hy ag p c U f G ad=>by
  have I:=h.tt.at_ y q hy;have h1:w4.heap[p.block]? = w.heap[p.block]? := a8 _ (I.out p G).2 (fun hc e=>by
   obtain⟨p2,e1,D⟩:=UY e.symm;exact h.un x y r q hr hy (fun e=>ag e.symm) hc p2 p e1 G D)
  exact((hk _ (by have:=(I.out p G).2;omega) (fun e=>by rw[e,Z] at ad;cases ad) (by have:=(I.out p G).2;omega)).trans h1).trans ad
 have au:∀ y q,T y=some q->y ≠ x->Px qw 45 dL w' q.a q.c q.log:=fun y q hy ag=>by
  have I:=h.tt.at_ y q hy;refine⟨I.px.capl,fun h0=>?_,I.px.nil⟩;obtain⟨b,off,e1,D,e3⟩:=I.px.at_ h0;refine⟨b,off,e1,by omega,fun i hi j v hv=>?_⟩;have h5:=e3 i hi j v hv;have h6:∃ c U f,w.heap[b]? = some (.cells c U f):=by
   unfold World.cell? at h5;simp only at h5;cases hh:w.heap[b]? with
   | none=>rw[hh] at h5;simp at h5
   | some o =>
    rw[hh] at h5;cases o with
    | cells c U f=>exact⟨c,U,f,rfl⟩
    | _=>simp at h5
  obtain⟨c,U,f,hc⟩:=h6;rw[World.cell?_of_block (a:=⟨b,off+i*45+j,none⟩) ((M y q hy ag _ c U f e1 hc).trans hc.symm)];exact h5
 have A:∀ y q,uT T x (some ⟨r.id,r.tg,Y,c',r.log++[e]⟩) y=some q->(y=x/\q=⟨r.id,r.tg,Y,c',r.log++[e]⟩) ∨ (y ≠ x/\T y=some q):=fun y q I=>by
  unfold uT at I;by_cases e:y=x
  ·rw[if_pos e] at I;cases I;exact .inl ⟨e,rfl⟩
  rw[if_neg e] at I;exact .inr ⟨e,I⟩
 have ac:∀ p:Addr,Y=some p->(r.c ≠ r.log.length/\∃ p2:Addr,r.a=some p2/\p2.block=p.block) ∨ w.heap.size<=p.block:=fun p G=>by
  obtain⟨a2,c2,e1,D⟩:=zxq V.own;cases e1
  rcases V.at_ _ (D p G) with ⟨k1,k2⟩ | k
  ·exact .inl ⟨k1,UY k2⟩
  exact .inr (Wz9 K.size k)
 have aj:∀ p:Addr,Y=some p->p.block<w'.heap.size/\g<=p.block:=fun p G=>by
  obtain⟨a2,c2,e1,D⟩:=zxq O;cases e1
  have:=yu O _ (D p G);exact⟨this.2,this.1⟩
 have ao:Below g w w':=⟨(ae.1.trans V.os).trans K.os,(ae.2.1.trans V.tape).trans K.tape,(ae.2.2.trans V.output).trans K.output,by omega,ai⟩;refine⟨⟨⟨hT,fun y q I=>?_,h.tt.out⟩,fun y q I=>?_,fun y z q u hy hz a6 hc p p' G a7=>?_,h.ge,h.out⟩,ao,fun i c f hi=>?_⟩
 ·rcases A y q I with ⟨rfl,rfl⟩ | ⟨e1,D⟩
  ·have hB:Bx qw 45 133 w' w' 0 (.slice Y (r.log++[e]).length c') (r.log++[e]):=⟨Below.refl _ _,kX O,Nat.zero_le _⟩;have ak:∀ D ∈ r.log++[e],vY D:=fun D h2=>by
    rcases Wqx.1 h2 with h2 | h2
    ·exact J.ok D h2
    rw[List.mem_singleton.1 h2];exact he
   obtain⟨a2,c2,e1,am,_⟩:=hB.px (d:=dL) (fun D h2=>yQ (ak D h2));cases e1
   exact⟨J.nm,J.id,J.tg,am,by simpa using hf,ak,fun p G=>⟨fun hS=>by have:=h.out _ hS;have:=(aj p G).2;omega,(aj p G).1⟩⟩
  have L:=h.tt.at_ y q D;exact⟨L.nm,L.id,L.tg,au y q D e1,L.few,L.ok,fun p G=>⟨(L.out p G).1,by have:=(L.out p G).2;omega⟩⟩
 ·rcases A y q I with ⟨rfl,rfl⟩ | ⟨e1,D⟩
  ·exact .inr O
  rcases h.lg y q D with k | k
  ·exact .inl k
  obtain⟨hl,h1 | ⟨b,cap,cur,hv,hb,hh,rr⟩⟩:=k
  ·exact .inr ⟨hl,.inl h1⟩
  have ea:q.a=some ⟨b,0,none⟩:=by injection hv
  exact .inr ⟨hl,.inr ⟨b,cap,cur,hv,hb,M y q D e1 ⟨b,0,none⟩ _ _ _ ea hh,rr⟩⟩
 ·rcases A y q hy with ⟨rfl,rfl⟩ | ⟨e1,D⟩
  ·rcases A z u hz with ⟨rfl,rfl⟩ | ⟨e3,e4⟩
   ·exact absurd rfl a6
   rcases ac p G with ⟨k1,p2,k2,k3⟩ | k
   ·rw[<-k3];exact h.un y z r u hr e4 a6 k1 p2 p' k2 a7
   have:=((h.tt.at_ z u e4).out p' a7).2;omega
  rcases A z u hz with ⟨rfl,rfl⟩ | ⟨e3,e4⟩
  ·rcases ac p' a7 with ⟨k1,p2,k2,k3⟩ | k
   ·rw[<-k3];exact h.un y z q r D hr a6 hc p p2 G k2
   have:=((h.tt.at_ y q D).out p G).2;omega
  exact h.un y z q u D e4 a6 hc p p' G a7
 have ap:=z7 hi;have h4:w4.heap[i]? = w.heap[i]? := a8 i ap (fun hc e1=>by
  rcases h.lg x r hr with k | k
  ·exact hc k
  obtain⟨c2,f2,Q⟩:=yY k i e1.symm;rw[hi] at Q;cases Q)
 refine((hk i (by omega) (fun e1=>?_) (by omega)).trans h4).trans hi;rw[e1,Z] at hi;cases hi
theorem qu4 (T:Ts) (x:Str) (r:Lr) (hr:T x=some r) (a:Option Addr) (c:Nat) (e:Le):aT (uT T x (some ⟨r.id,r.tg,a,c,r.log++[e]⟩))=Rk.logT (aT T) x e:=by
 funext y;simp only[aT,uT,Rk.logT];by_cases h:y=x
 ·subst h;simp[hr]
 simp[h]
end Go.Proofs.YtdnphaganajejaaGreatDoor.K
