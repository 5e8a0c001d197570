import Derived.Test.YtgliaiemkfopeaaGreatDoorMn14
import Derived.Laws.RangeString
import Derived.ChangeKeysEq
set_option linter.unusedSimpArgs false
set_option linter.unusedVariables false
set_option maxRecDepth 20000
set_option maxHeartbeats 4000000
namespace Go.Proofs.YtgliaiemkfopeaaGreatDoor.K
open Go.RowKit
structure Ap (g:Nat) (w w':World) (r:Lr) (l:List Le) (v:Value):Prop where
 own:w'.ownsRow g 129 45 v l.length (l.flatMap qv)
 os:w'.os=w.os
 tape:w'.tape=w.tape
 output:w'.output=w.output
 size:w.heap.size<=w'.heap.size
 blk:∀ i,i<w.heap.size->(r.c ≠ r.log.length->some i ≠ (Value.slice r.a r.log.length r.c).ownBlock)->w'.heap[i]? = w.heap[i]?
 at_:∀ b,v.ownBlock=some b->(r.c ≠ r.log.length/\(Value.slice r.a r.log.length r.c).ownBlock=some b) ∨ w.heap.size<=b
theorem own_at {w:World} {B e k n:Nat} {v:Value} {xs:List Value} (h:w.ownsRow B e k v n xs):∃ a c,v=.slice a n c/\(∀ p:Addr,a=some p->v.ownBlock=some p.block):=by
 obtain⟨_,⟨rfl,rfl⟩ | ⟨g,cap,cur,rfl,_⟩⟩:=h
 ·exact⟨_,_,rfl,fun p hp=>by cases hp⟩
 ·exact⟨_,_,rfl,fun p hp=>by cases hp;rfl⟩
theorem own_sl2 {a:Option Addr} {n c b:Nat} (h:(Value.slice a n c).ownBlock=some b):∃ p:Addr,a=some p/\p.block=b:=by
 cases a with
 | none=>cases h
 | some p=>exact⟨p,rfl,by simpa [Value.ownBlock] using h⟩
theorem To.log {S:Nat->Prop} {g:Nat} {w w3 w4 w':World} {t n:Nat} {T:Ts} (h:To S g w t n T) {x:Str} {r:Lr} (hr:T x=some r) {e:Le} (he:uy e) (hf:r.log.length+1<=100000) {a':Option Addr} {c':Nat} (hb3:Below w.heap.size w w3) (ha:Ap g w3 w4 r (r.log++[e]) (.slice a' (r.log++[e]).length c')) (hg:g<=w.heap.size) {m:Nat} (hm:w.heap.size<=m/\m<w3.heap.size)
  (hs:w4.heap.size<=w'.heap.size) (hos:w'.os=w4.os/\w'.tape=w4.tape/\w'.output=w4.output) (hk:∀ i,i<w4.heap.size->i ≠ t->i ≠ m->w'.heap[i]? = w4.heap[i]?)
  (hT:TM (rV r0) w' t (n+1) (vT (uT T x (some ⟨r.id,r.tg,a',c',r.log++[e]⟩)))):To S g w' t (n+1) (uT T x (some ⟨r.id,r.tg,a',c',r.log++[e]⟩))/\Bg g w w':=by
 obtain⟨es,ck,hbx⟩:=h.tt.tm.box
 have hrok:=h.tt.at_ x r hr
 have hsz3:=ha.size
 have hsz:w.heap.size<=w4.heap.size:=Nat.le_trans hb3.size ha.size
 have hro:∀ b,(Value.slice r.a r.log.length r.c).ownBlock=some b->b<w.heap.size:=fun b hb=>by
  obtain⟨p,e1,e2⟩:=own_sl2 hb
  rw[<-e2];exact(hrok.out p e1).2
 have hw4:∀ i,i<w.heap.size->(r.c ≠ r.log.length->some i ≠ (Value.slice r.a r.log.length r.c).ownBlock)->w4.heap[i]? = w.heap[i]? := fun i hi hn=>(ha.blk i (Nat.lt_of_lt_of_le hi hb3.size) hn).trans (hb3.block i hi)
 have h129:∀ (i:Nat) (c:Array Value) (f:Nat × Nat),w4.heap[i]? = some (.cells c 129 f)->i ≠ t->i ≠ m->w'.heap[i]? = some (.cells c 129 f):=fun i c f hi hit him=>(hk i (z7 hi) hit him).trans hi
 have hlow:∀ i,i<g->w'.heap[i]? = w.heap[i]? := fun i hi=>by
  have h1:w4.heap[i]? = w.heap[i]? := hw4 i (by omega) (fun hc e=>by
   rcases h.lg x r hr with k | k
   ·exact hc k
   ·have:=(yq k i e.symm).1;omega)
  exact(hk i (by omega) (by have:=h.ge;omega) (by omega)).trans h1
 have ht4:w4.heap[t]? = w.heap[t]? := hw4 t h.tt.tm.lt (fun hc e=>by
  rcases h.lg x r hr with k | k
  ·exact hc k
  ·obtain⟨c,f,hc2⟩:=vK k t e.symm
   rw[hbx] at hc2;cases hc2)
 have hown:w'.ownsRow g 129 45 (.slice a' (r.log++[e]).length c') (r.log++[e]).length ((r.log++[e]).flatMap qv):=by
  obtain⟨hl,h1 | ⟨q,cap,cur,hv,hb,hh,rr⟩⟩:=ha.own
  ·exact⟨hl,.inl h1⟩
  ·exact⟨hl,.inr ⟨q,cap,cur,hv,hb,h129 _ _ _ hh (by rintro rfl;rw[ht4,hbx] at hh;cases hh) (by
    rcases ha.at_ q (by rw[hv];rfl) with ⟨_,k⟩ | k
    ·have:=hro q k;omega
    ·omega),rr⟩⟩
 have hother:∀ y q,T y=some q->y ≠ x->∀ (p:Addr) (c:Array Value) (U:TypeId) (f:Nat × Nat),q.a=some p->w.heap[p.block]? = some (.cells c U f)->w'.heap[p.block]? = some (.cells c U f):=fun y q hy hyx p c U f hp hc0=>by
  have hq:=h.tt.at_ y q hy
  have h1:w4.heap[p.block]? = w.heap[p.block]? := hw4 _ (hq.out p hp).2 (fun hc e=>by
   obtain⟨p2,e1,e2⟩:=own_sl2 e.symm
   exact h.un x y r q hr hy (fun e=>hyx e.symm) hc p2 p e1 hp e2)
  exact((hk _ (by have:=(hq.out p hp).2;omega) (fun e=>by rw[e,hbx] at hc0;cases hc0) (by have:=(hq.out p hp).2;omega)).trans h1).trans hc0
 have hpx:∀ y q,T y=some q->y ≠ x->Px qv 45 dL w' q.a q.c q.log:=fun y q hy hyx=>by
  have hq:=h.tt.at_ y q hy
  refine⟨hq.px.capl,fun h0=>?_,hq.px.nil⟩
  obtain⟨b,off,e1,e2,e3⟩:=hq.px.at_ h0
  refine⟨b,off,e1,by omega,fun i hi j v hv=>?_⟩
  have h5:=e3 i hi j v hv
  have h6:∃ c U f,w.heap[b]? = some (.cells c U f):=by
   unfold World.cell? at h5
   simp only at h5
   cases hh:w.heap[b]? with
   | none=>rw[hh] at h5;simp at h5
   | some o =>
    rw[hh] at h5
    cases o with
    | cells c U f=>exact⟨c,U,f,rfl⟩
    | _=>simp at h5
  obtain⟨c,U,f,hc⟩:=h6
  rw[World.cell?_of_block (a:=⟨b,off+i*45+j,none⟩) ((hother y q hy hyx _ c U f e1 hc).trans hc.symm)]
  exact h5
 have hcases:∀ y q,uT T x (some ⟨r.id,r.tg,a',c',r.log++[e]⟩) y=some q->(y=x/\q=⟨r.id,r.tg,a',c',r.log++[e]⟩) ∨ (y ≠ x/\T y=some q):=fun y q hq=>by
  unfold uT at hq
  by_cases e:y=x
  ·rw[if_pos e] at hq;cases hq;exact .inl ⟨e,rfl⟩
  ·rw[if_neg e] at hq;exact .inr ⟨e,hq⟩
 have hnew:∀ p:Addr,a'=some p->(r.c ≠ r.log.length/\∃ p2:Addr,r.a=some p2/\p2.block=p.block) ∨ w.heap.size<=p.block:=fun p hp=>by
  obtain⟨a2,c2,e1,e2⟩:=own_at ha.own
  cases e1
  rcases ha.at_ _ (e2 p hp) with ⟨k1,k2⟩ | k
  ·exact .inl ⟨k1,own_sl2 k2⟩
  ·exact .inr (Nat.le_trans hb3.size k)
 have hlt:∀ p:Addr,a'=some p->p.block<w'.heap.size/\g<=p.block:=fun p hp=>by
  obtain⟨a2,c2,e1,e2⟩:=own_at hown
  cases e1
  have:=yq hown _ (e2 p hp)
  exact⟨this.2,this.1⟩
 have hbb:Below g w w':=⟨(hos.1.trans ha.os).trans hb3.os,(hos.2.1.trans ha.tape).trans hb3.tape,(hos.2.2.trans ha.output).trans hb3.output,by omega,hlow⟩
 refine⟨⟨⟨hT,fun y q hq=>?_,h.tt.out⟩,fun y q hq=>?_,fun y z q u hy hz hne hc p p' hp hp'=>?_,h.ge,h.out⟩,hbb,fun i c f hi=>?_⟩
 ·rcases hcases y q hq with ⟨rfl,rfl⟩ | ⟨e1,e2⟩
  ·have hB:Bx qv 45 129 w' w' 0 (.slice a' (r.log++[e]).length c') (r.log++[e]):=⟨Below.refl _ _,kz hown,Nat.zero_le _⟩
   have hok:∀ e2 ∈ r.log++[e],uy e2:=fun e2 h2=>by
    rcases List.mem_append.1 h2 with h2 | h2
    ·exact hrok.ok e2 h2
    ·rw[List.mem_singleton.1 h2];exact he
   obtain⟨a2,c2,e1,hpx2,_⟩:=hB.px (d:=dL) (fun e2 h2=>yx (hok e2 h2))
   cases e1
   exact⟨hrok.nm,hrok.id,hrok.tg,hpx2,by simpa using hf,hok,fun p hp=>⟨fun hS=>by have:=h.out _ hS;have:=(hlt p hp).2;omega,(hlt p hp).1⟩⟩
  ·have hq2:=h.tt.at_ y q e2
   exact⟨hq2.nm,hq2.id,hq2.tg,hpx y q e2 e1,hq2.few,hq2.ok,fun p hp=>⟨(hq2.out p hp).1,by have:=(hq2.out p hp).2;omega⟩⟩
 ·rcases hcases y q hq with ⟨rfl,rfl⟩ | ⟨e1,e2⟩
  ·exact .inr hown
  ·rcases h.lg y q e2 with k | k
   ·exact .inl k
   ·obtain⟨hl,h1 | ⟨b,cap,cur,hv,hb,hh,rr⟩⟩:=k
    ·exact .inr ⟨hl,.inl h1⟩
    ·have ea:q.a=some ⟨b,0,none⟩:=by injection hv
     exact .inr ⟨hl,.inr ⟨b,cap,cur,hv,hb,hother y q e2 e1 ⟨b,0,none⟩ _ _ _ ea hh,rr⟩⟩
 ·rcases hcases y q hy with ⟨rfl,rfl⟩ | ⟨e1,e2⟩
  ·rcases hcases z u hz with ⟨rfl,rfl⟩ | ⟨e3,e4⟩
   ·exact absurd rfl hne
   ·rcases hnew p hp with ⟨k1,p2,k2,k3⟩ | k
    ·rw[<-k3];exact h.un y z r u hr e4 hne k1 p2 p' k2 hp'
    ·have:=((h.tt.at_ z u e4).out p' hp').2;omega
  ·rcases hcases z u hz with ⟨rfl,rfl⟩ | ⟨e3,e4⟩
   ·rcases hnew p' hp' with ⟨k1,p2,k2,k3⟩ | k
    ·rw[<-k3];exact h.un y z q r e2 hr hne hc p p2 hp k2
    ·have:=((h.tt.at_ y q e2).out p hp).2;omega
   ·exact h.un y z q u e2 e4 hne hc p p' hp hp'
 ·have hil:=z7 hi
  have h4:w4.heap[i]? = w.heap[i]? := hw4 i hil (fun hc e1=>by
   rcases h.lg x r hr with k | k
   ·exact hc k
   ·obtain⟨c2,f2,hc2⟩:=vK k i e1.symm
    rw[hi] at hc2
    cases hc2)
  refine((hk i (by omega) (fun e1=>?_) (by omega)).trans h4).trans hi
  rw[e1,hbx] at hi
  cases hi
theorem aT_log (T:Ts) (x:Str) (r:Lr) (hr:T x=some r) (a:Option Addr) (c:Nat) (e:Le):aT (uT T x (some ⟨r.id,r.tg,a,c,r.log++[e]⟩))=Rk.logT (aT T) x e:=by
 funext y
 simp only[aT,uT,Rk.logT]
 by_cases h:y=x
 ·subst h;simp[hr]
 ·simp[h]
theorem qk {w:World} {B B' e k n:Nat} {v:Value} {xs:List Value} (h:w.ownsRow B e k v n xs) (hB:B'<=B):w.ownsRow B' e k v n xs:=by
 obtain⟨hl,h1 | ⟨g,cap,cur,hv,hb,r⟩⟩:=h
 ·exact⟨hl,.inl h1⟩
 ·exact⟨hl,.inr ⟨g,cap,cur,hv,Nat.le_trans hB hb,r⟩⟩
theorem wpList_log {ops:Array Oper} {rest:List Oper} {o:Oper} {a:Act} {w:World} {Q:Exit->Act->World->Prop} (hgd:o.guard=none) (s x:Operand) (ho:o.op=.call { callee:=.builtin .append,args:=#[s,x],argTypes:=#[98,98] }) (g:Nat) (r:Lr) (e:Le) (K:Nat)
    (hs:a.eval s=.slice r.a r.log.length r.c) (hx:a.eval x=.slice (some ⟨K,0,none⟩) 1 1) (hP:Px qv 45 dL w (some ⟨K,0,none⟩) 1 [e]) (hpx:Px qv 45 dL w r.a r.c r.log) (hok:∀ e ∈ r.log,uy e) (he:uy e) (hlg:LgO g w r) (hg:g<=w.heap.size) (hl:r.log.length+1<=100000)
    (hK:∀ va vc w',Ap g w w' r (r.log++[e]) (.slice va (r.log++[e]).length vc)->wpList Tryz.prog ops Q rest (a.put o.dst (.slice va (r.log++[e]).length vc)) w'):wpList Tryz.prog ops Q (o :: rest) a w:=by
  have hone:∀ y ∈ [e],(qv y).length=45:=fun y hy=>by rw[List.mem_singleton.1 hy];exact yx he
  by_cases hc:r.c=r.log.length
  · obtain⟨i,hi,hz0,hz1,hz2⟩:=qu info129
    refine wpList_append_grows w hgd s x 98 ho 129 i _ 45 104 und98 hi hz0 hz1 hz2 rfl (by decide) r.a r.log.length r.c (r.log.flatMap qv) hs (fun hn=>?_) (fX_len r.log fun e h=>yx (hok e h)) (fun b hb j u hj=>?_) ⟨K,0,none⟩ 1 1 (qv e) hx (by rw[yx he]) (fun j u hj=>?_) (vZ e) (by omega) (by unfold maxLen;omega) (by omega) fun v' w' h1 h2=>?_
    · have:=hpx.nil hn;omega
    · have hne:0<r.log.length:=by
        cases hl0:r.log with
        | nil=>rw[hl0] at hj;simp at hj
        | cons _ _=>simp
      obtain⟨b',off,e1,_⟩:=hpx.at_ hne
      rw[e1] at hb
      cases hb
      rw[e1] at hpx
      exact hpx.cells (by decide) (fun e h=>yx (hok e h)) j u hj
    · have:=hP.cells (by decide) hone j u (by simpa using hj)
      exact this
    · obtain⟨va,vc,rfl⟩:=zZ h1
      have e1:r.log.length+1=(r.log++[e]).length:=by simp
      rw[e1]
      refine hK va vc w' ⟨?_,h2.os,h2.tape,h2.output,h2.size,fun i hi _=>h2.block i hi (by simp),fun b hb=>.inr ?_⟩
      · rw[<-e1,List.flatMap_append,List.flatMap_singleton]
        exact qk h1 hg
      · exact(yq h1 b (by rw[<-e1] at hb;exact hb)).1
  · have hlg':w.ownsRow g 129 45 (.slice r.a r.log.length r.c) r.log.length (r.log.flatMap qv):=by
      rcases hlg with k | k
      · exact absurd k hc
      · exact k
    refine zj (enc:=qv) (k:=45) (d:=dL) hgd s x 98 129 und98 info129 rfl (by decide) (by decide) vZ ho g _ r.log hs ⟨Below.refl _ _,hlg',hg⟩ (some ⟨K,0,none⟩) 1 [e] hx hP hone (by simp;omega) fun v' w' h1 h2 h3=>?_
    obtain⟨va,vc,rfl⟩:=zZ h1.own
    refine hK va vc w' ⟨h1.own,h3.os,h3.tape,h3.output,h3.size,fun i hi hn=>h3.blk i hi (hn hc),fun b hb=>?_⟩
    rcases h3.at_ with k | k
    · exact .inl ⟨hc,by rw[<-k];exact hb⟩
    · exact .inr (k b hb)
theorem run_bs98 (e:Le) (he:uy e) (w:World):(Instr.buildSlice 98 1 #[(0,.agg (qv e).toArray)]).run Tryz.prog w=.ok (.slice (some ⟨w.heap.size,0,none⟩) 1 1) (w.alloc (.cells (qv e).toArray 129)):=by
 obtain⟨i,hq,hz,hs,_⟩:=qu info129
 refine run_buildSlice w 98 129 1 _ (qv e).toArray i _ und98 hq hz (by rw[hs];decide) (by rw[hs];decide) ?_
 rw[hs]
 obtain⟨x,y,⟨pn,pm,pt,pz⟩,tx⟩:=e
 obtain⟨a0,a1,a2,a3,a4,a5,a6,a7,a8,a9,a10,a11,a12,a13,a14,a15,a16,a17,a18,a19,rfl⟩:=yZ x he.1.1
 obtain⟨b0,b1,b2,b3,b4,b5,b6,b7,b8,b9,b10,b11,b12,b13,b14,b15,b16,b17,b18,b19,rfl⟩:=yZ y he.2.1
 unfold qv sV
 simp only
 generalize (⟨pn.toArray⟩:ByteArray)=P1
 generalize (⟨pm.toArray⟩:ByteArray)=P2
 generalize (⟨tx.toArray⟩:ByteArray)=P3
 kernel_rfl
theorem zY {P:Program} {o:Oper} {a:Act} {w w':World} (t:TypeId) (x:Operand) (ho:o.op=.buildSlice t 1 #[(0,x)]) (u v:Value) (h1:a.eval x=u) (hr:(Instr.buildSlice t 1 #[(0,u)]).run P w=.ok v w'):(execOp a.eval o).run P w=.ok (.value v) w':=by
 unfold execOp
 simp[ho,h1,hr,Result.andThen]
set_option maxHeartbeats 1000000 in
theorem take_log (S:Nat->Prop) (g t n:Nat) (T:Ts) (s:Sp) (w:World) (h:To S g w t n T) (hs:vk s) (hn:n<=90000) (hword:s.word=wG) (r:Lr) (hr:T s.name=some r) (hl:r.log.length+1<=100000) :
  Calls Tryz.prog 81 #[.map (some t),.agg (zX s).toArray] w fun e w'=>e=.returned (.tuple #[])/\(∃ T',To S g w' t (n+1) T'/\aT T'=Rk.tk (aT T) (sP s))/\Bg g w w':=by
 obtain⟨B,HS⟩:=sa s hs w.heap.size
 obtain⟨hok,hlo,hva⟩:=gR_ok h s.name hs.nm
 obtain⟨A,HA⟩:=ra (gR T s.name) hok.id.1
 obtain⟨w1,hw1⟩:∃ w1,w.alloc (.cells B 143)=w1:=⟨_,rfl⟩
 obtain⟨w2,hw2⟩:∃ w2,w1.alloc (.cells A 125)=w2:=⟨_,rfl⟩
 have hk1:w1.heap[w.heap.size]? = some (.cells B 143):=by rw[<-hw1];exact heap_alloc_new _ _
 have hb1:Below w.heap.size w w1:=by rw[<-hw1];exact(Below.refl _ w).alloc (Nat.le_refl _) _
 have hb12:Below w1.heap.size w1 w2:=by rw[<-hw2];exact(Below.refl _ w1).alloc (Nat.le_refl _) _
 have hk2:w2.heap[w.heap.size]? = some (.cells B 143):=(hb12.block _ (z7 hk1)).trans hk1
 have hb2:Below w.heap.size w w2:=hb1.trans (hb12.mono hb1.size)
 have ht2:=h.below hb2
 have hlk:(Instr.lookup 105 (.map (some t)) (sV s.name) false).run Tryz.prog w1=.ok (.agg A) w1:=by
  have:=(h.below hb1).tt.tm.look1 xu (j0 w1) (x:=s.name) (by have:=hs.nm;omega)
  rw[hva,HA.out.e] at this
  exact this
 have hc1:=HS.out.c1 w1 hk1
 have hd0:=HS.out.c0 w2 hk2
 have hd1:=HS.out.c1 w2 hk2
 have HD2:=hid (HS.out.r2 w2 hk2)
 have hd22:=HS.out.c22 w2 hk2
 have hl2:=(vq HA.out hok.id.1 w1).2
 rw[hw2] at hl2
 rw[hword] at hd0
 rw[HS.out.e]
 have HSP:Hid (sP s=(s.name,.inr (.inr s.e))):=hid (by unfold sP;rw[hword];rfl)
 have hgr:gR T s.name=r:=by unfold gR;rw[hr];rfl
 rw[hgr] at HA hok hlo hva hl2
 have HD23:=hid (HS.out.r23 w2 hk2)
 obtain⟨EL,hEL⟩:∃ E,qv s.e=E:=⟨_,rfl⟩
 have HIE:Hid ((Tryz.prog.info? 129).map (·.size)=some EL.length):=hid (by rw[<-hEL,yx hs.e];kernel_rfl)
 obtain⟨w3,hw3⟩:∃ w3,w2.alloc (.cells EL.toArray 129)=w3:=⟨_,rfl⟩
 have HBS:Hid ((Instr.buildSlice 98 1 #[(0,.agg EL.toArray)]).run Tryz.prog w2=.ok (.slice (some ⟨w2.heap.size,0,none⟩) 1 1) w3):=hid (by rw[<-hw3,<-hEL];exact run_bs98 s.e hs.e w2)
 have hb23:Below w2.heap.size w2 w3:=by rw[<-hw3];exact(Below.refl _ w2).alloc (Nat.le_refl _) _
 have hb3:Below w.heap.size w w3:=hb2.trans (hb23.mono hb2.size)
 have hgw:g<=w.heap.size:=by have:=h.tt.tm.lt;have:=h.ge;omega
 have HP3:Hid (Px qv 45 dL w3 (some ⟨w2.heap.size,0,none⟩) 1 [s.e]):=hid (by
  have:=yu (enc:=qv) (d:=dL) w2 s.e 129
  rw[yx hs.e,hEL,hw3] at this
  exact this)
 have HPX3:Hid (Px qv 45 dL w3 r.a r.c r.log):=hid (hok.px.below hb3)
 have HLG3:Hid (LgO g w3 r):=hid ((h.below hb3).lg s.name r hr)
 have HOK:=hid hok
 have hA1:w3.heap[w1.heap.size]? = some (.cells A 125):=by
  have e1:w2.heap[w1.heap.size]? = some (.cells A 125):=by rw[<-hw2];exact heap_alloc_new _ _
  exact(hb23.block _ (z7 e1)).trans e1
 have hK3:w3.heap[w.heap.size]? = some (.cells B 143):=(hb23.block _ (z7 hk2)).trans hk2
 have hsz1:w.heap.size<w1.heap.size:=z7 hk1
 have hro:∀ b,(Value.slice r.a r.log.length r.c).ownBlock=some b->b<w.heap.size:=fun b hb=>by
  obtain⟨p,e1,e2⟩:=own_sl2 hb
  rw[<-e2];exact(hok.out p e1).2
 have hset:∀ v:Value,rV r=.agg A->∀ a c l,v=.slice a l.length c->(.agg (A.setIfInBounds 21 v):Value)=rV ⟨r.id,r.tg,a,c,l⟩:=fun v hA a c l hv=>by
  unfold rV at hA ⊢
  injection hA with hA
  have hl:(row .u8 r.id).length=20:=by rw[zw];exact hok.id.1
  rw[<-hA,hv,List.setIfInBounds_toArray,List.set_append_right _ _ (by omega),hl]
  rfl
 have HE:Hid (∀ va vc w4,Ap g w3 w4 r (r.log++[s.e]) (.slice va (r.log++[s.e]).length vc)->w4.heap[w1.heap.size]? = some (.cells A 125)/\(w4.setCell ⟨w1.heap.size,21,none⟩ (.slice va (r.log++[s.e]).length vc)).heap[w1.heap.size]? = some (.cells (A.setIfInBounds 21 (.slice va (r.log++[s.e]).length vc)) 125)/\(w4.setCell ⟨w1.heap.size,21,none⟩ (.slice va (r.log++[s.e]).length vc)).cell? ⟨w.heap.size,1,none⟩=some (sV s.name)/\∃ w6,(Instr.mapUpdate 105 (.map (some t)) (sV s.name) (.agg (A.setIfInBounds 21 (.slice va (r.log++[s.e]).length vc)))).run Tryz.prog (w4.setCell ⟨w1.heap.size,21,none⟩ (.slice va (r.log++[s.e]).length vc))=.ok () w6/\(∃ T',To S g w6 t (n+1) T'/\aT T'=Rk.tk (aT T) (sP s))/\Bg g w w6):=fun va vc w4 hap=>by
  have hsz3:=z7 hA1
  have h4:∀ i,i<w3.heap.size->w.heap.size<=i->w4.heap[i]? = w3.heap[i]? := fun i hi hwi=>hap.blk i hi (fun _ e=>by have:=hro i e.symm;omega)
  have q1:=(h4 _ hsz3 (by omega)).trans hA1
  have q2:=qy q1 21 (.slice va (r.log++[s.e]).length vc)
  have q3:(w4.setCell ⟨w1.heap.size,21,none⟩ (.slice va (r.log++[s.e]).length vc)).heap[w.heap.size]? = some (.cells B 143):=(Below.heap_setCell _ _ _ _ (by show w.heap.size ≠ w1.heap.size;omega)).trans ((h4 _ (z7 hK3) (Nat.le_refl _)).trans hK3)
  obtain⟨es,ck,hbx⟩:=h.tt.tm.box
  have ht4:w4.heap[t]? = w.heap[t]? := (hap.blk t (by have:=h.tt.tm.lt;have:=hb3.size;omega) (fun hc e=>by
   rcases HLG3.out with k | k
   ·exact hc k
   ·obtain⟨c,f,hc2⟩:=vK k t e.symm
    rw[hb3.block _ h.tt.tm.lt,hbx] at hc2;cases hc2)).trans (hb3.block _ h.tt.tm.lt)
  have ht5:(w4.setCell ⟨w1.heap.size,21,none⟩ (.slice va (r.log++[s.e]).length vc)).heap[t]? = w.heap[t]? := (Below.heap_setCell _ _ _ _ (by show t ≠ w1.heap.size;have:=h.tt.tm.lt;omega)).trans ht4
  have hz5:(w4.setCell ⟨w1.heap.size,21,none⟩ (.slice va (r.log++[s.e]).length vc)).heap.size=w4.heap.size:=by simp[World.setCell]
  have e1:=hset (.slice va (r.log++[s.e]).length vc) HA.out.e va vc (r.log++[s.e]) rfl
  obtain⟨w6,hpr,hT6,hg6⟩:=(h.tt.tm.sm ht5).put (by omega) xu (x:=s.name) (by have:=hs.nm;omega) (.agg (A.setIfInBounds 21 (.slice va (r.log++[s.e]).length vc)))
  have hlog:=h.log hr hs.e (by omega) hb3 hap hgw (m:=w1.heap.size) ⟨by omega,hsz3⟩ (w':=w6) (by have:=hg6.size;omega) ⟨hg6.os,hg6.tape,hg6.output⟩ (fun i hi hit him=>(hg6.block i (by omega) (fun e=>hit (Option.some.inj e))).trans (Below.heap_setCell _ _ _ _ him)) (by rw[vT_uT];rw[e1] at hT6;exact hT6)
  exact⟨q1,q2,HS.out.c1 _ q3,w6,hpr,⟨_,hlog.1,by rw[HSP.out,aT_log T s.name r hr];rfl⟩,hlog.2⟩
 have HG3:Hid (g<=w3.heap.size):=hid (Nat.le_trans hgw hb3.size)
 have HLN:Hid (r.log.length+1<=100000):=hl
 rw[hEL] at HD23
 have HIA:=hid HA.out.i
 obtain⟨la,ln,lc,hlv⟩:∃ a n c,(Value.slice r.a r.log.length r.c)=.slice a n c:=⟨_,_,_,rfl⟩
 have HLV:=hid hlv
 rw[hlv] at hl2
 have Q6:Hid (∀ w4:World,w4.heap[w1.heap.size]? = some (.cells A 125)->w4.cell? ⟨w1.heap.size,21,none⟩=some (.slice la ln lc)):=fun w4 h4=>by
  have e1:w2.heap[w1.heap.size]? = some (.cells A 125):=by rw[<-hw2];exact heap_alloc_new _ _
  exact(World.cell?_of_block (a:=⟨w1.heap.size,21,none⟩) (h4.trans e1.symm)).trans hl2
 unfold sV at hlk hc1 hd1 hd22 HE
 unfold sV wG at hd0
 clear hlv ht2 h hok hlo hva hk1 hk2 hset hb12 hb23 hA1 hK3 hro hsz1 hw3 hEL hb2 hb3 hgw hl
 go_enter Tryz.func81,Tryz.ntmps81
 go_wp2_with (first
  | (refine zq rfl 125 (.tmp 4) (.tmp 8) rfl _ A rfl rfl HA.out.i HA.out.z HA.out.o ?_;rw[hw2])
  | (refine wpList_load_mid rfl 129 (.tmp 40) rfl _ 23 rfl EL _ HD23.out Tryz.underlying129 rfl HIE.out ?_;go_frame;refine z8 rfl (.slice (some ⟨w2.heap.size,0,none⟩) 1 1) (zY 98 (.tmp 41) rfl (.agg EL.toArray) _ rfl HBS.out) ?_;go_frame;refine wpList_log rfl (.tmp 39) (.tmp 42) rfl g r s.e w2.heap.size HLV.out.symm rfl HP3.out HPX3.out HOK.out.ok hs.e HLG3.out HG3.out HLN.out ?_;intro va vc w4 hap;obtain⟨q1,q2,q3,w6,q4,q5⟩:=HE.out va vc w4 hap;obtain⟨N4,hN4⟩:∃ n,(r.log++[s.e]).length=n:=⟨_,rfl⟩;rw[hN4] at q2 q3 q4 ⊢;have q6:w4.cell? ⟨w1.heap.size,21,none⟩=some (.slice la ln lc):=Q6.out w4 q1;have q7:w4.frozen? ⟨w1.heap.size,21,none⟩=false:=(by simp[World.frozen?,q1]);have Q2:=hid q2;have Q4:=hid q4;have Q5:=hid q5;clear q1 q2 q4 q5 hap hN4;go_frame)
  | (refine zu rfl 125 (.tmp 4) rfl w1.heap.size _ 125 (0,0) _ rfl Q2.out Tryz.underlying125 rfl (by rw[Array.size_setIfInBounds];exact HIA.out) ?_;go_frame)
  | (at_mapUpdate;refine xY rfl (x9 (mv:=.map (some t)) (kv:=.string ⟨s.name.toArray⟩) rfl rfl rfl rfl Q4.out) ?_))
 exact bodyPost_end (results_none Tryz.results81 _ _ _) rfl ⟨rfl,Q5.out⟩
def StO (m:Rk.Tb Str Kp Le) (s:Sp):Prop:=(s.word=wR ∨ s.word=wL ∨ s.word=wD) ∨ (s.word=wG/\∃ k l,m s.name=some (k,l)/\l.length+1<=100000)
def StG:Rk.Tb Str Kp Le->List Sp->Prop
 | _,[]=>True
 | m,s :: r=>vk s/\StO m s/\StG (Rk.tk m (sP s)) r
theorem take_any (S:Nat->Prop) (g t n:Nat) (T:Ts) (s:Sp) (w:World) (h:To S g w t n T) (hs:vk s) (hn:n<=90000) (ho:StO (aT T) s) :
  Calls Tryz.prog 81 #[.map (some t),.agg (zX s).toArray] w fun e w'=>e=.returned (.tuple #[])/\(∃ T',To S g w' t (n+1) T'/\aT T'=Rk.tk (aT T) (sP s))/\Bg g w w':=by
 rcases ho with (h1 | h1 | h1) | ⟨h1,k,l,h2,h3⟩
 ·exact take_ref S g t n T s w h hs hn h1
 ·exact take_link S g t n T s w h hs hn h1
 ·exact take_drop S g t n T s w h hs hn h1
 ·unfold aT at h2
  cases hT:T s.name with
  | none=>rw[hT] at h2;cases h2
  | some r =>
   rw[hT] at h2
   simp only[Option.map_some,Option.some.injEq,Prod.mk.injEq] at h2
   exact take_log S g t n T s w h hs hn h1 r hT (by rw[h2.2];exact h3)
def cut (r:Lr):Lr:=⟨r.id,r.tg,r.a,r.log.length,r.log⟩
def Zy (T:Ts) (L:Str->Bool):Ts:=fun y=>if L y then none else (T y).map cut
theorem cut_to {S:Nat->Prop} {w W:World} {t n t' k:Nat} {T:Ts} {L:Str->Bool} (h:Tt S w t n T) (hb:Below w.heap.size w W) (hT:TM (rV r0) W t' k (vT (Zy T L))) (ht:w.heap.size<=t') (hS:∀ i,S i->i<w.heap.size):To S w.heap.size W t' k (Zy T L):=by
 have hc:∀ x r,Zy T L x=some r->∃ r',T x=some r'/\r=cut r':=fun x r hr=>by
  unfold Zy at hr
  split at hr
  ·cases hr
  ·obtain⟨r',h1,h2⟩:=Option.map_eq_some_iff.1 hr
   exact⟨r',h1,h2.symm⟩
 refine⟨⟨hT,fun x r hr=>?_,fun hs=>by have:=hS _ hs;omega⟩,fun x r hr=>?_,fun x y r q hx hy hne hcc=>?_,ht,hS⟩
 ·obtain⟨r',h1,rfl⟩:=hc x r hr
  have:=(h.below hb).at_ x r' h1
  exact⟨this.nm,this.id,this.tg,⟨Nat.le_refl _,this.px.at_,fun hn=>by have h2:=this.px.nil hn;have h3:=this.px.capl;show r'.log.length=0;omega⟩,this.few,this.ok,this.out⟩
 ·obtain⟨r',h1,rfl⟩:=hc x r hr
  exact .inl rfl
 ·obtain⟨r',h1,rfl⟩:=hc x r hx
  exact absurd rfl hcc
theorem slice98 (a:Option Addr) (n c:Nat) (h:n<=c) (hn:a=none->c=0) (w:World):(Instr.slice 98 (.slice a n c) none (some (.int .i64 n)) (some (.int .i64 n))).run Tryz.prog w=.ok (.slice a n n) w:=by
 cases a with
 | none =>
  have:=hn rfl
  subst this
  obtain rfl:n=0:=by omega
  go_simp
 | some p=>go_simp
theorem cut_set {r:Lr} {A:Array Value} (h:rV r=.agg A) (hr:r.id.length=20):(.agg (A.setIfInBounds 21 (.slice r.a r.log.length r.log.length)):Value)=rV (cut r):=by
 unfold rV at h ⊢
 injection h with h
 have hl:(row .u8 r.id).length=20:=by rw[zw];exact hr
 rw[<-h,List.setIfInBounds_toArray,List.set_append_right _ _ (by omega),hl]
 rfl
theorem mk105 (n:Nat) (hn:n<=100000) (w:World):(Instr.makeMap 105 (some (.int .i64 (n:Int)))).run Tryz.prog w=.ok (.map (some w.heap.size)) (w.alloc (.map #[] 0)):=by
 have h:¬ (n:Int)<0:=by omega
 unfold Instr.makeMap
 go_simp
theorem Tryz.results47:Tryz.f47.results=#[.tmp 4]:=by kernel_rfl
theorem TM.len {z:Value} {w:World} {g n:Nat} {M:Str->Option Value} (h:TM z w g n M) {t e:TypeId} (ht:Tryz.prog.underlying t=some (.map 9 e)) (ty:TypeId):∃ k:Nat,k<=n/\(Builtin.len_ #[t] ty #[.map (some g)]).run Tryz.prog w=.ok (.int .i64 k) w:=by
 obtain⟨D,h1,_⟩:=h
 exact⟨_,h1.size_le,h1.len ht ty⟩
theorem exec_len {P:Program} {o:Oper} {a:Act} {w w':World} {t:TypeId} {m:Operand} (ho:o.op=.call { callee:=.builtin .len,args:=#[m],argTypes:=#[t] }) {mv v:Value} (hm:a.eval m=mv) (hr:(Builtin.len_ #[t] o.type #[mv]).run P w=.ok v w'):(execOp a.eval o).run P w=.ok (.value v) w':=by
 unfold execOp
 simp[ho,resolve,invoke,builtin,hm,hr,Result.andThen]
theorem TR.le {z:Value} {w:World} {g r n c:Nat} {M:Str->Option Value} {L:Str->Bool} (h:TR z w g r n M L c):c<=n:=by
 obtain⟨Dd,lf,⟨es,ck,si,se,q0,hb,F0,hs,hD,hr,hold,hcnt,rest⟩,h2,h3⟩:=h
 have:(leftOf es se).size<=es.size:=by unfold leftOf;exact Array.size_filter_le
 omega
def stF (m:Rk.Tb Str Kp Le) (ss:List Sp):Rk.Tb Str Kp Le:=(ss.map sP).foldl Rk.tk m
theorem stF_snoc (m:Rk.Tb Str Kp Le) (ss:List Sp) (i:Nat) (h:i<ss.length) (d:Sp):stF m (ss.take (i+1))=Rk.tk (stF m (ss.take i)) (sP (ss.getD i d)):=by
 unfold stF
 rw[qj d ss i h]
 simp
theorem StG.at {d:Sp} : ∀ (ss:List Sp) (m:Rk.Tb Str Kp Le),StG m ss->∀ i,i<ss.length->vk (ss.getD i d)/\StO (stF m (ss.take i)) (ss.getD i d)
 | [],m,h,i,hi=>by simp at hi
 | s :: r,m,h,0,hi=>⟨h.1,h.2.1⟩
 | s :: r,m,h,i+1,hi=>by
  have:=StG.at (d:=d) r _ h.2.2 i (by simpa using hi)
  simpa [stF] using this
def PostB (S:Nat->Prop) (G k:Nat) (m:Rk.Tb Str Kp Le) (w:World) (e:Ending) (w':World):Prop := ∃ t' T',e=.returned (.map (some t'))/\To S G w' t' k T'/\aT T'=m/\Below G w w'
set_option maxHeartbeats 1000000 in
theorem YZ (S:Nat->Prop) (t n:Nat) (T:Ts) (a:Option Addr) (c:Nat) (ss:List Sp) (w:World) (h:Tt S w t n T) (hS:∀ i,S i->i<w.heap.size) (hP:Px zX 68 ⟨[],[],[],[],dL⟩ w a c ss) (hg:StG (aT T) ss) (hn:n+ss.length<=80000) :
  Calls Tryz.prog 47 #[.map (some t),.slice a ss.length c] w (PostB S w.heap.size (n+ss.length) (stF (aT T) ss) w):=by
 obtain⟨G,HG⟩:=nm_ w.heap.size
 obtain⟨k0,hk0,hlen⟩:=h.tm.len xu 3
 have hmk:=mk105 k0 (by omega) w
 obtain⟨w1,hw1⟩:∃ w1,w.alloc (.map #[] 0)=w1:=⟨_,rfl⟩
 rw[hw1,HG.out] at hmk
 have hb1:Below w.heap.size w w1:=by rw[<-hw1];exact(Below.refl _ w).alloc (Nat.le_refl _) _
 have hs1:w1.heap.size=w.heap.size+1:=by rw[<-hw1];simp
 obtain⟨w2,c0,hrg,hT2,hg2,hs2⟩:=(h.below hb1).tm.range xu
 have hM1:TM (rV r0) w1 G 0 (fun _=>none):=by rw[<-hw1,<-HG.out];exact YV _ w
 have hb2:Below w.heap.size w w2:=hb1.trans ((Tb hg2).mono hb1.size)
 have hM2:TM (rV r0) w2 G 0 (vT (Zy T (fun x=>(vT T x).isSome))):=by
  have e:vT (Zy T (fun x=>(vT T x).isSome))=fun _=>none:=by
   funext y
   unfold vT Zy
   cases e2:T y <;> simp[e2]
  rw[e]
  exact hM1.sm ((Tb hg2).block _ hM1.lt)
 have HB2:Hid (Below G w w2):=hid (by rw[<-HG.out];exact hb2)
 have HM2:=hid hM2
 have HT2:=hid hT2
 have H:=hid h
 have HC0:Hid (c0<=n):=hid hT2.le
 obtain⟨r2,hr2⟩:∃ r,w1.heap.size=r:=⟨_,rfl⟩
 rw[hr2] at hrg HT2
 have HR2:Hid (G<r2):=hid (by rw[<-hr2,<-HG.out];omega)
 obtain⟨N,HN⟩:=nm_ ss.length
 have hnN:n+N<=80000:=by rw[<-HN.out];exact hn
 have HP:=hid hP
 have HGS:=hid hg
 have HS:=hid hS
 rw[HN.out,HG.out]
 clear h hP hg hS hM1 hM2 hT2 hg2 hs2 hb1 hb2 hs1 hr2 hn
 go_enter Tryz.func47,Tryz.ntmps47
 go_wp2_with (first
  | (at_len;refine z8 rfl _ (exec_len rfl rfl hlen) ?_;go_frame)
  | (at_range;refine z8 rfl _ (vX rfl rfl hrg) ?_;go_frame))
 go_loopg [6] c0 (fun q _ wr=>∃ (c k:Nat) (L:Str->Bool),q=c/\Hid (k+c<=n)/\Hid (TR (rV r0) wr t r2 n (vT T) L c)/\Hid (TM (rV r0) wr G k (vT (Zy T L)))/\Hid (Below G w wr))
 case atStart=>exact⟨c0,0,_,rfl,hid (by simpa using HC0.out),HT2,HM2,HB2⟩
 case round =>
  obtain⟨c',k,L,hq,HKC,HTR,HM,HB⟩:=hrel
  have hgt:t<G:=by rw[<-HG.out];exact H.out.tm.lt
  have hbw:Below w.heap.size w wr:=by rw[HG.out];exact HB.out
  rcases HTR.out.next 0 with ⟨rfl,hall,hr⟩ | ⟨x,v,w3,c2,hL,hM,hr,hT3,hc,hg3,hs3,hen⟩
  ·have hto:To S w.heap.size wr G k (Zy T L):=cut_to H.out hbw HM.out (by rw[HG.out];exact Nat.le_refl _) HS.out
   have haT:aT (Zy T L)=aT T:=by
    funext y
    unfold aT Zy
    cases e:T y with
    | none=>simp
    | some q=>rw[hall y (by have:=(H.out.at_ y q e).nm;omega)];rfl
   have HTO:Hid (To S G wr G (n+0) (Zy T L)):=hid (by
    rw[HG.out] at hto
    exact⟨⟨hto.tt.tm.mono (by have:=HKC.out;omega),hto.tt.at_,hto.tt.out⟩,hto.lg,hto.un,hto.ge,hto.out⟩)
   have HAT:Hid (aT (Zy T L)=stF (aT T) (ss.take 0)):=hid (by rw[haT];rfl)
   have HPL:Hid (0<N->∃ b off,a=some ⟨b,off,none⟩):=fun h0=>by
    obtain⟨b,off,e1,_⟩:=HP.out.at_ (by rw[HN.out];exact h0)
    exact⟨b,off,e1⟩
   have HPX:Hid (∀ W,Below G w W->Px zX 68 ⟨[],[],[],[],dL⟩ W a c ss):=fun W hW=>HP.out.below (by rw[HG.out];exact hW)
   have HBE:=HB
   clear hto haT hall hgt hbw hq
   go_wp2_with (at_next;refine z8 rfl _ (qY rfl rfl hr) ?_;go_frame)
   go_loopg [35] N (fun q iv wr=>∃ (i:Nat) (Ti:Ts),iv=.int .i64 i/\q=N-i/\i<=N/\Hid (To S G wr G (n+i) Ti)/\Hid (aT Ti=stF (aT T) (ss.take i))/\Hid (Below G w wr))
   case atStart=>exact⟨0,_,rfl,rfl,Nat.zero_le _,HTO,HAT,HBE⟩
   case round =>
    obtain⟨i,Ti,rfl,hq2,hin,HTI,HAI,HBI⟩:=hrel
    by_cases hlt:i<N
    ·have hlti:(i:Int)<(N:Int):=by omega
     obtain⟨b,off,hae⟩:=HPL.out (by omega)
     subst hae
     obtain⟨st,HST⟩:=nm_ (ss.getD i ⟨[],[],[],[],dL⟩)
     obtain⟨hok,hso⟩:=StG.at (d:=⟨[],[],[],[],dL⟩) ss _ HGS.out i (by rw[HN.out];exact hlt)
     rw[HST.out] at hok hso
     rw[<-HAI.out] at hso
     obtain⟨_,_,e1,_,e3⟩:=(HPX.out _ HBI.out).at_ (by rw[HN.out];omega)
     cases e1
     have e4:=e3 i (by rw[HN.out];exact hlt)
     rw[HST.out] at e4
     obtain⟨BL,hBL⟩:∃ B,zX st=B:=⟨_,rfl⟩
     have hB68:BL.length=68:=by rw[<-hBL];exact zJ hok
     have HIB:Hid ((Tryz.prog.info? 143).map (·.size)=some BL.length):=hid (by rw[hB68];kernel_rfl)
     have HIB2:Hid ((Tryz.prog.info? 143).map (·.size)=some BL.toArray.size):=hid (by rw[List.size_toArray];exact HIB.out)
     have HOB:Hid (BL.toArray.all (·.oneCell')=true):=hid (all_oneCell_toArray (by rw[<-hBL];exact qV st))
     rw[hBL] at e4
     have HRG:=hid e4
     have htk:=fun W (hW:To S G W G (n+i) Ti)=>take_any S G G (n+i) Ti st W hW hok (by omega) hso
     rw[hBL] at htk
     have HBB:Hid (∀ W:World,Below W.heap.size W (W.alloc (.cells BL.toArray 143))):=fun W=>(Below.refl _ W).alloc (Nat.le_refl _) _
     have htk1:=htk _ (HTI.out.below (HBB.out _))
     have HFIN:Hid (∀ (w7:World) (T':Ts),aT T'=Rk.tk (aT Ti) (sP st)->aT T'=stF (aT T) (ss.take (i+1))):=fun w7 T' he=>by rw[he,HAI.out,stF_snoc (aT T) ss i (by rw[HN.out];exact hlt) ⟨[],[],[],[],dL⟩,HST.out]
     have HZ68:Hid (68=BL.toArray.size):=hid (by rw[List.size_toArray,hB68])
     have HGS2:Hid (∀ W:World,Below G w W->∀ w7,Below G (W.alloc (.cells BL.toArray 143)) w7->Below G w w7):=fun W hW w7 h7=>(hW.trans ((HBB.out W).mono (by have:=hW.size;have:=HG.out;omega))).trans h7
     clear hok hso e3 e4 hBL hB68 htk
     go_wp2_with (first
      | (refine wpList_load_mid rfl 143 (.tmp 37) rfl _ _ rfl BL _ HRG.out Tryz.underlying143 rfl HIB.out ?_;go_frame)
      | (refine zq rfl 143 (.tmp 9) (.tmp 38) rfl _ BL.toArray rfl rfl HIB2.out (by rw[<-HZ68.out];rfl) HOB.out ?_;go_frame)
      | (refine zu rfl 143 (.tmp 9) rfl _ BL.toArray 143 (0,0) _ rfl (heap_alloc_new _ _) Tryz.underlying143 rfl HIB2.out ?_;go_frame)
      | (go_at_call 81;refine htk1.mono ?_;rintro e w7 ⟨rfl,⟨T',k1,k2⟩,k3⟩;have K1:=hid k1;have K2:=hid (HFIN.out w7 T' k2);have K3:=hid (HGS2.out _ HBI.out w7 k3.b);clear k1 k2 k3))
     go_roundg (N-(i+1))
     case measure=>omega
     case rel=>exact⟨i+1,T',by go_num,rfl,by omega,K1,K2,K3⟩
    ·have hlti:¬ (i:Int)<(N:Int):=by omega
     obtain rfl:i=N:=by omega
     have HF:Hid (aT Ti=stF (aT T) ss):=hid (by rw[HAI.out,List.take_of_length_le (by rw[HN.out];exact Nat.le_refl _)])
     go_wp2
     exact bodyPost_ret (results_tmp Tryz.results47 _ _ _) rfl ⟨G,Ti,rfl,HTI.out,HF.out,HBI.out⟩
  ·obtain⟨rr,hrr,rfl⟩:=vT_some hM
   have hro:=H.out.at_ x rr hrr
   obtain⟨A,HA⟩:=ra rr hro.id.1
   have hrG:=HR2.out
   have hb3:Below G w w3:=HB.out.grown hg3 (by rw[<-HG.out];exact hbw.size) (fun q hq=>by cases hq;omega)
   have hM3:TM (rV r0) w3 G k (vT (Zy T L)):=HM.out.sm (hg3.block _ HM.out.lt (fun e=>by cases e;omega))
   obtain⟨w4,hw4⟩:∃ w4,w3.alloc (.cells A 125)=w4:=⟨_,rfl⟩
   obtain⟨la,ln,lc,hlv⟩:∃ a n c,(Value.slice rr.a rr.log.length rr.c)=.slice a n c:=⟨_,_,_,rfl⟩
   have hpx:=hro.px
   injection hlv with e1 e2 e3
   have hsl:∀ W:World,(Instr.slice 98 (.slice la ln lc) none (some (.int .i64 ln)) (some (.int .i64 ln))).run Tryz.prog W=.ok (.slice la ln ln) W:=fun W=>by rw[<-e1,<-e2,<-e3];exact slice98 rr.a rr.log.length rr.c hpx.capl hpx.nil W
   have hc4:w4.cell? ⟨w3.heap.size,21,none⟩=some (.slice la ln lc):=by rw[<-hw4,<-e1,<-e2,<-e3];exact(vq HA.out hro.id.1 w3).2
   have hh4:w4.heap[w3.heap.size]? = some (.cells A 125):=by rw[<-hw4];exact heap_alloc_new _ _
   have hf4:w4.frozen? ⟨w3.heap.size,21,none⟩=false:=by simp[World.frozen?,hh4]
   have hb34:Below w3.heap.size w3 w4:=by rw[<-hw4];exact(Below.refl _ _).alloc (Nat.le_refl _) _
   obtain⟨w5,hw5⟩:∃ w5,w4.setCell ⟨w3.heap.size,21,none⟩ (.slice la ln ln)=w5:=⟨_,rfl⟩
   have HH5:Hid (w5.heap[w3.heap.size]? = some (.cells (A.setIfInBounds 21 (.slice la ln ln)) 125)):=hid (by rw[<-hw5];exact qy hh4 21 _)
   have hk5:∀ i,i<w3.heap.size->w5.heap[i]? = w3.heap[i]? := fun i hi=>by
    rw[<-hw5]
    exact(Below.heap_setCell _ _ _ _ (by show i ≠ w3.heap.size;omega)).trans (hb34.block i hi)
   have hz5:w3.heap.size<=w5.heap.size:=by
    have:w5.heap.size=w4.heap.size:=by rw[<-hw5];simp[World.setCell]
    have:=hb34.size
    omega
   have hb5:Below G w w5:=⟨by rw[<-hw5];exact hb34.os.trans hb3.os,by rw[<-hw5];exact hb34.tape.trans hb3.tape,by rw[<-hw5];exact hb34.output.trans hb3.output,Nat.le_trans hb3.size hz5,fun i hi=>(hk5 i (by have:=hM3.lt;omega)).trans (hb3.block i hi)⟩
   have hV:(.agg (A.setIfInBounds 21 (.slice la ln ln)):Value)=rV (cut rr):=by
    have:=cut_set HA.out.e hro.id.1
    rw[e1,e2] at this
    exact this
   obtain⟨w6,hpr,hT6,hg6⟩:=(hM3.sm (hk5 _ hM3.lt)).put (by have:=HKC.out;omega) xu (x:=x) (by have:=hro.nm;omega) (.agg (A.setIfInBounds 21 (.slice la ln ln)))
   have HT6:Hid (TM (rV r0) w6 G (k+1) (vT (Zy T (fun y=>L y && decide (y ≠ x))))):=hid (by
    have e:vT (Zy T (fun y=>L y && decide (y ≠ x)))=fun y=>if y=x then some (.agg (A.setIfInBounds 21 (.slice la ln ln))) else vT (Zy T L) y:=by
     funext y
     by_cases hy:y=x
     ·subst hy;simp[vT,Zy,hrr,hV]
     ·simp[vT,Zy,hy]
    rw[e];exact hT6)
   have HT6':Hid (TR (rV r0) w6 t r2 n (vT T) (fun y=>L y && decide (y ≠ x)) c2):=hid (hT3.kept ((hg6.block _ (by have:=hM3.lt;omega) (fun e=>by cases e;omega)).trans (hk5 _ (by have:=hM3.lt;omega))) ((hg6.block _ (by have:=hT3.lt.1;omega) (fun e=>by cases e;omega)).trans (hk5 _ hT3.lt.1)))
   have HB6:Hid (Below G w w6):=hid (hb5.grown hg6 (by have:=hM3.lt;omega) (fun q hq=>by cases hq;exact Nat.le_refl _))
   have HPR:=hid hpr
   have HIA:=hid HA.out.i
   have HKC2:Hid (k+1+c2<=n):=hid (by have:=HKC.out;omega)
   rw[HA.out.e] at hr hen
   unfold sV at hr hen HPR
   clear e1 e2 e3 hpx hro hM hT3 hg3 hs3 hb3 hM3 hh4 hb34 hk5 hz5 hb5 hV hT6 hg6 hpr hrr hL hgt hrG hbw
   go_wp2_with (first
    | (at_next;refine z8 rfl _ (qY rfl rfl hr) ?_;go_frame)
    | (refine zq rfl 125 (.tmp 7) (.tmp 19) rfl _ A rfl rfl HA.out.i HA.out.z HA.out.o ?_;rw[hw4];go_frame)
    | (refine zu rfl 125 (.tmp 7) rfl w3.heap.size _ 125 (0,0) _ rfl HH5.out Tryz.underlying125 rfl (by rw[Array.size_setIfInBounds];exact HIA.out) ?_;go_frame)
    | (at_mapUpdate;refine xY rfl (x9 (mv:=.map (some G)) (kv:=.string ⟨x.toArray⟩) rfl rfl rfl rfl HPR.out) ?_;go_frame))
   go_roundg c2
   case measure=>omega
   case rel=>exact⟨c2,k+1,_,rfl,HKC2,HT6',HT6,HB6⟩
theorem Tryz.results48:Tryz.f48.results=#[.tmp 2]:=by kernel_rfl
theorem str_next (w:World) (j:Nat) (x:Str) (p:Nat) (hj:w.heap[j]? = some (.stringIter ⟨x.toArray⟩ p)) (hp:p<x.length) (ha:∀ b ∈ x,b<128) :
  ∃ w',(∀ ty,(Instr.next (.pointer (some ⟨j,0,none⟩)) true ty).run Tryz.prog w=.ok (.tuple #[.bool true,.int .i64 p,.int .i32 (x.getD p 0).toNat]) w')/\w'.heap[j]? = some (.stringIter ⟨x.toArray⟩ (p+1))/\w.grownBy w' (some j)/\w'.heap.size=w.heap.size:=by
 have hs:p<(⟨x.toArray⟩:ByteArray).size:=by simpa [ByteArray.size] using hp
 have hgd:x.getD p 0=x[p]'hp:=by simp[List.getD_eq_getElem?_getD,List.getElem?_eq_getElem hp]
 have he:(⟨x.toArray⟩:ByteArray)[p]'hs=x.getD p 0:=by
  rw[hgd]
  show x.toArray[p]'(by simpa using hp)=_
  simp
 have hlt:((⟨x.toArray⟩:ByteArray)[p]'hs).toNat<128:=by
  rw[he,hgd]
  exact UInt8.lt_iff_toNat_lt.1 (ha _ (List.getElem_mem hp))
 have hjl:j<w.heap.size:=z7 hj
 refine⟨{ w with heap:=w.heap.setIfInBounds j (.stringIter ⟨x.toArray⟩ (p+1)) },fun ty=>?_,by simp[hjl],⟨rfl,rfl,rfl,by simp,fun i hi hn=>by simp only;rw[Array.getElem?_setIfInBounds_ne (fun e=>hn (by rw[e]))]⟩,by simp⟩
 rw[<-he]
 simp only[Instr.next,getObj,setObj,Sem.run_bind,Sem.run,hj,Result.andThen,hs,if_true,decode_ascii _ p hs hlt]
 simp[goInt,Sem.run,hj]
theorem str_end (w:World) (j:Nat) (x:Str) (hj:w.heap[j]? = some (.stringIter ⟨x.toArray⟩ x.length)) (ty:TypeId) :
  (Instr.next (.pointer (some ⟨j,0,none⟩)) true ty).run Tryz.prog w=.ok (.tuple #[.bool false]) w:=by
 have h0:¬ x.length<(⟨x.toArray⟩:ByteArray).size:=by show ¬ x.length<x.toArray.size;simp
 simp[Instr.next,getObj,Sem.run,hj,h0]
def clA (D:Str->Bool):Prop := ∃ b,D b=true/\∃ i,b[i]? = some 47/\D (b.take i)=true
def dT (T:Ts):Str->Bool:=fun x=>(T x).isSome
def Post48 (T:Ts) (B:Nat) (w:World) (e:Ending) (w':World):Prop := ∃ b:Bool,e=.returned (.bool b)/\(b=true ↔ clA (dT T))/\Below B w w'
set_option maxHeartbeats 400000 in
theorem Qq (S:Nat->Prop) (t n:Nat) (T:Ts) (w:World) (h:Tt S w t n T) (ha:∀ x r,T x=some r->∀ b ∈ x,b<128) :
  Calls Tryz.prog 48 #[.map (some t)] w (Post48 T w.heap.size w):=by
 obtain⟨G,HG⟩:=nm_ w.heap.size
 obtain⟨w2,c0,hrg,hT2,hg2,hs2⟩:=h.tm.range xu
 rw[HG.out] at hrg hT2
 have HB2:Hid (Below G w w2):=hid (by rw[<-HG.out];exact Tb hg2)
 have HT2:=hid hT2
 have H:=hid h
 have HA:=hid ha
 rw[HG.out]
 clear h ha hT2 hg2 hs2
 go_enter Tryz.func48,Tryz.ntmps48
 go_wp2_with (at_range;refine z8 rfl _ (vX rfl rfl hrg) ?_;go_frame)
 go_loopg [3,4,5,7] c0 (fun q _ _ _ _ wr=>∃ (c:Nat) (L:Str->Bool),q=c/\Hid (TR (rV r0) wr t G n (vT T) L c)/\Hid (Below G w wr)/\Hid (∀ x,dT T x=true->L x=false->∀ i,x[i]? = some 47->dT T (x.take i)=false))
 case atStart=>exact⟨c0,_,rfl,HT2,HB2,hid (fun x h1 h2=>by unfold dT at h1;simp[vT] at h2;rw[h2] at h1;cases h1)⟩
 case round =>
  obtain⟨c,L,hq,HTR,HB,HN⟩:=hrel
  rcases HTR.out.next 0 with ⟨rfl,hall,hr⟩ | ⟨x,v,w3,c2,hL,hM,hr,hT3,hc,hg3,hs3,hen⟩
  ·have HF:Hid (¬ clA (dT T)):=hid (by
    rintro⟨b,h1,i,h2,h3⟩
    obtain⟨q,hq⟩:=Option.isSome_iff_exists.1 h1
    have:=HN.out b h1 (hall b (by have:=(H.out.at_ b q hq).nm;omega)) i h2
    rw[h3] at this;cases this)
   clear hall
   go_wp2_with (at_next;refine z8 rfl _ (qY rfl rfl hr) ?_;go_frame)
   exact bodyPost_ret (results_tmp Tryz.results48 _ _ _) rfl ⟨false,rfl,by simpa using HF.out,HB.out⟩
  ·obtain⟨rr,hrr,rfl⟩:=vT_some hM
   have hxl:=(H.out.at_ x rr hrr).nm
   have hxa:=HA.out x rr hrr
   obtain⟨j,hj⟩:∃ j,w3.heap.size=j:=⟨_,rfl⟩
   have hrs:(Instr.range 9 (.string ⟨x.toArray⟩)).run Tryz.prog w3=.ok (.pointer (some ⟨j,0,none⟩)) (w3.iter ⟨x.toArray⟩ 0):=by rw[<-hj];exact run_range_string w3 9 _ Tryz.underlying9
   obtain⟨w4,hw4⟩:∃ w4,w3.iter ⟨x.toArray⟩ 0=w4:=⟨_,rfl⟩
   rw[hw4] at hrs
   have HJ4:Hid (w4.heap[j]? = some (.stringIter ⟨x.toArray⟩ 0)):=hid (by rw[<-hw4,<-hj];exact World.iter_heap _ _ _)
   have hgj:G<j:=by rw[<-hj,hs3];have:=HTR.out.lt.1;omega
   have hb3:Below G w w3:=HB.out.grown hg3 (by have:=HTR.out.lt.1;omega) (fun q hq=>by cases hq;exact Nat.le_refl _)
   have HB34:Hid (Below j w3 w4):=hid (by rw[<-hw4,<-hj];exact(Below.refl _ _).alloc (Nat.le_refl _) _)
   have HB3:=hid hb3
   have HT3:=hid hT3
   have htj:t<j:=by have:=H.out.tm.lt;have:=HG.out;omega
   have HHX:Hid (dT T x=true):=hid (by unfold dT;rw[hrr];rfl)
   have HRR:=hid hrr
   rw[show rV rr=.agg (row .u8 rr.id++[sV rr.tg,.slice rr.a rr.log.length rr.c]).toArray from rfl] at hr hen
   unfold sV at hr hen
   clear hL hM hT3 hg3 hs3 hb3 hrr hj hw4
   go_wp2_with (first
    | (at_next;refine z8 rfl _ (qY rfl rfl hr) ?_;go_frame)
    | (at_range;refine z8 rfl _ (vX rfl rfl hrs) ?_;go_frame))
   go_loopg [4,5,7] x.length (fun q _ _ _ wr=>∃ (p:Nat),q=x.length-p/\p<=x.length/\Hid (wr.heap[j]? = some (.stringIter ⟨x.toArray⟩ p))/\Hid (Below j w3 wr)/\Hid (∀ i,i<p->x[i]? = some 47->dT T (x.take i)=false))
   case atStart=>exact⟨0,by simp,Nat.zero_le _,HJ4,HB34,hid (fun i h=>by omega)⟩
   case round =>
    obtain⟨p,hq2,hpl,HJ,HBJ,HNP⟩:=hrel
    by_cases hlt:p<x.length
    ·obtain⟨w5,hnx,hj5,hg5,hs5⟩:=str_next wr j x p HJ.out hlt hxa
     have hjr:j<wr.heap.size:=z7 HJ.out
     have hb5:Below j w3 w5:=HBJ.out.grown hg5 (by omega) (fun q hq=>by cases hq;exact Nat.le_refl _)
     have hxp:x[p]? = some (x.getD p 0):=by simp[List.getD_eq_getElem?_getD,List.getElem?_eq_getElem hlt]
     obtain⟨cb,hcb⟩:∃ c,x.getD p 0=c:=⟨_,rfl⟩
     rw[hcb] at hxp hnx
     obtain⟨cv,hcv⟩:∃ c,cb.toNat=c:=⟨_,rfl⟩
     rw[hcv] at hnx
     have HXP:=hid hxp
     have HJ5:=hid hj5
     have HB5:=hid hb5
     by_cases h47:cv=47
     ·subst h47
      have h47':cb=47:=UInt8.toNat_inj.1 hcv
      subst h47'
      have hsl:∀ W,(Instr.slice 9 (.string ⟨x.toArray⟩) none (some (.int .i64 p)) none).run Tryz.prog W=.ok (.string ⟨(x.take p).toArray⟩) W:=fun W=>Nm.slc_to x p hpl W
      have htm:TM (rV r0) w5 t n (vT T):=HT3.out.tm.sm (hb5.block t htj)
      have hlk:=htm.look xu (j0 w5) (x:=x.take p) (by rw[List.length_take];omega)
      have hb5G:Below G w w5:=HB3.out.trans (hb5.mono (by omega))
      obtain⟨y,hy⟩:∃ y,x.take p=y:=⟨_,rfl⟩
      have HY:=hid hy
      rw[hy] at hlk hsl
      have hro:∃ r,(vT T y).getD (rV r0)=rV r/\r.id.length=20:=by
       cases e:T y with
       | none=>exact⟨r0,by simp[vT,e],rfl⟩
       | some q=>exact⟨q,by simp[vT,e],(H.out.at_ y q e).id.1⟩
      obtain⟨r,hr1,hr2⟩:=hro
      obtain⟨A,HAA⟩:=ra r hr2
      rw[hr1,HAA.out.e] at hlk
      unfold sV at hlk
      have HBN:Hid (Below j w3 (w5.alloc (.cells A 125))):=hid (hb5.alloc (by omega) _)
      have HBG:Hid (Below G w (w5.alloc (.cells A 125))):=hid (hb5G.alloc (by omega) _)
      have HJN:Hid ((w5.alloc (.cells A 125)).heap[j]? = some (.stringIter ⟨x.toArray⟩ (p+1))):=hid (by rw[<-hj5];exact heap_alloc_old _ _ (by omega))
      have hdt:(vT T y).isSome=dT T y:=by unfold vT dT;simp
      rw[hdt] at hlk
      clear hj5 hg5 hs5 hb5 hxp hcb hcv hr1 hr2 hdt htm hy hb5G
      cases hD:dT T y with
      | true =>
       rw[hD] at hlk
       have HC:Hid (clA (dT T)):=hid ⟨x,HHX.out,p,HXP.out,by rw[HY.out];exact hD⟩
       clear hD
       go_wp2_with (first
        | (at_next;refine z8 rfl _ (qY rfl rfl (hnx _)) ?_;go_frame)
        | (refine zq rfl 125 (.tmp 6) (.tmp 28) rfl _ A rfl rfl HAA.out.i HAA.out.z HAA.out.o ?_;go_frame))
       exact bodyPost_ret (results_tmp Tryz.results48 _ _ _) rfl ⟨true,rfl,by simpa using HC.out,HBG.out⟩
      | false =>
       rw[hD] at hlk
       have HD:=hid hD
       clear hD
       go_wp2_with (first
        | (at_next;refine z8 rfl _ (qY rfl rfl (hnx _)) ?_;go_frame)
        | (refine zq rfl 125 (.tmp 6) (.tmp 28) rfl _ A rfl rfl HAA.out.i HAA.out.z HAA.out.o ?_;go_frame))
       go_roundg (x.length-(p+1))
       case measure=>omega
       case rel=>exact⟨p+1,rfl,by omega,HJN,HBN,hid (fun i hi h=>by
        by_cases e:i=p
        ·subst e;rw[HY.out];exact HD.out
        ·exact HNP.out i (by omega) h)⟩
     ·have hne:¬ ((cv:Int)=47):=by omega
      have hcb2:cb ≠ 47:=fun e=>h47 (by rw[<-hcv,e];rfl)
      have HCB:=hid hcb2
      clear hj5 hg5 hs5 hb5 hxp hcb hcv hcb2 h47
      go_wp2_with (first
       | (at_next;refine z8 rfl _ (qY rfl rfl (hnx _)) ?_;go_frame))
      go_roundg (x.length-(p+1))
      case measure=>omega
      case rel=>exact⟨p+1,rfl,by omega,HJ5,HB5,hid (fun i hi h=>by
       by_cases e:i=p
       ·subst e;rw[HXP.out] at h;exact absurd (Option.some.inj h) HCB.out
       ·exact HNP.out i (by omega) h)⟩
    ·obtain rfl:p=x.length:=by omega
     have hnx:=str_end wr j x HJ.out
     have HTN:Hid (TR (rV r0) wr t G n (vT T) (fun y=>L y && decide (y ≠ x)) c2):=hid (HT3.out.kept (HBJ.out.block t htj) (HBJ.out.block G hgj))
     have HBN:Hid (Below G w wr):=hid (HB3.out.trans (HBJ.out.mono (by omega)))
     go_wp2_with (at_next;refine z8 rfl _ (qY rfl rfl (hnx _)) ?_;go_frame)
     go_roundg c2
     case measure=>omega
     case rel=>exact⟨c2,_,rfl,HTN,HBN,hid (fun y h1 h2 i h3=>by
      by_cases e:y=x
      ·subst e
       exact HNP.out i (List.getElem?_eq_some_iff.1 h3).1 h3
      ·simp[e] at h2
       exact HN.out y h1 h2 i h3)⟩
theorem eqItems_any {P:Program} (d:Nat) (e:TypeId) (he:P.plainKey e=true) (hu:P.underlying e=some (.int .u8)) (xs ys:List Int):∀ (is:List Nat) (w:World),(∀ j ∈ is,j<xs.length/\j<ys.length)->(Op.eqItems (d+1) e 1 (row .u8 xs).toArray (row .u8 ys).toArray is).run P w=.ok (is.all fun j=>xs.getD j 0 == ys.getD j 0) w
 | [],w,_=>by simp[Op.eqItems]
 | j :: is,w,h=>by
  have hj:=h j (by simp)
  have hp:(part e (row .u8 xs).toArray j).run P w=.ok (.int .u8 (xs.getD j 0)) w:=run_part_plain w he (by simpa using uK .u8 xs j hj.1)
  have hq:(part e (row .u8 ys).toArray j).run P w=.ok (.int .u8 (ys.getD j 0)) w:=run_part_plain w he (by simpa using uK .u8 ys j hj.2)
  have ih:=eqItems_any d e he hu xs ys is w (fun k hk=>h k (by simp[hk]))
  simp only[Op.eqItems,Sem.run_bind,Nat.mul_one,hp,hq,Result.andThen_ok]
  by_cases hxy:xs.getD j 0=ys.getD j 0
  ·have h2:xs[j]?.getD 0=ys[j]?.getD 0:=by simpa using hxy
   simp[go_sem,hu,ih,h2]
  ·have h2:¬ xs[j]?.getD 0=ys[j]?.getD 0:=by simpa using hxy
   simp[go_sem,hu,ih,h2]
theorem all_eq20 (x y:List Int) (hx:x.length=20) (hy:y.length=20):((List.range 20).all fun j=>x.getD j 0 == y.getD j 0)=decide (x=y):=by
 by_cases h:x=y
 ·subst h
  simp
 ·rw[decide_eq_false h,Bool.eq_false_iff]
  intro hall
  refine h (List.ext_getElem (by rw[hx,hy]) (fun j h1 h2=>?_))
  have:=List.all_eq_true.1 hall j (List.mem_range.2 (by omega))
  simpa [h1,h2] using this
theorem cells5:Tryz.prog.cellsOf 5=1:=by kernel_rfl
theorem plain5:Tryz.prog.plainKey 5=true:=by kernel_rfl
theorem und5:Tryz.prog.underlying 5=some (.int .u8):=by kernel_rfl
theorem info5:(Tryz.prog.info? 5).map (fun i=>(i.zero,i.size,i.bytes))=some (some (.int .u8 0),1,1):=by kernel_rfl
theorem Qx:Tryz.prog.underlying 89=some (.array 20 5):=by kernel_rfl
theorem und86a:Tryz.prog.underlying 86=some (.array 20 5):=by kernel_rfl
def z89:Array Value:=#[.int .u8 0,.int .u8 0,.int .u8 0,.int .u8 0,.int .u8 0,.int .u8 0,.int .u8 0,.int .u8 0,.int .u8 0,.int .u8 0,.int .u8 0,.int .u8 0,.int .u8 0,.int .u8 0,.int .u8 0,.int .u8 0,.int .u8 0,.int .u8 0,.int .u8 0,.int .u8 0]
theorem z89_e:(row .u8 zQ).toArray=z89:=rfl
theorem eqId (t:TypeId) (ht:Tryz.prog.underlying t=some (.array 20 5)) (x y:List Int) (hx:x.length=20) (hy:y.length=20) (w:World):(Op.equalIn 10000 t (.agg (row .u8 x).toArray) (.agg (row .u8 y).toArray)).run Tryz.prog w=.ok (decide (x=y)) w:=by
 obtain⟨i5,hi,-⟩:=qu info5
 have h1:=eqItems_any (P:=Tryz.prog) 9998 5 plain5 und5 x y (List.range 20) w (fun j hj=>by rw[hx,hy];exact⟨List.mem_range.1 hj,List.mem_range.1 hj⟩)
 rw[all_eq20 x y hx hy] at h1
 rw[show (10000:Nat)=9999+1 from rfl,run_equalIn_array w 9999 _ _ ht hi,cells5]
 exact h1
end Go.Proofs.YtgliaiemkfopeaaGreatDoor.K
