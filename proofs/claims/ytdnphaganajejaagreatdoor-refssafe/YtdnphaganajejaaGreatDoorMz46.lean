import Derived.Test.YtdnphaganajejaaGreatDoorMz17
set_option linter.unusedSimpArgs false
set_option linter.unusedVariables false
set_option maxRecDepth 20000
set_option maxHeartbeats 4000000
open List renaming setIfInBounds_toArray->WvZ,set_append_right->Wu2
open Nat renaming le_refl->Wz8
open Option renaming some->Wq8
namespace Go.Proofs.YtdnphaganajejaaGreatDoor.K
open Go.Proofs.Tryz
open Go.RowKit
theorem zxk (S:Nat->Prop) (g t n:Nat) (T:Ts) (s:Sp) (w:World) (h:To S g w t n T) (hs:vV s) (hn:n<=90000) (Z:s.word=wG) (r:Lr) (hr:T s.name=some r) (hl:r.log.length+1<=100000) :
  Calls prog 86 #[.map (some t),.agg (zJ s).toArray] w fun e w'=>e=.returned (.tuple #[])/\(∃ T',To S g w' t (n+1) T'/\aT T'=Rk.tk (aT T) (sP s))/\Bg g w w':=by
 obtain⟨B,HS⟩:=sa s hs w.heap.size;obtain⟨G,ay,ao⟩:=SJ h s.name hs.nm;obtain⟨A,HA⟩:=ra (gR T s.name) G.id.1;obtain⟨w1,aB⟩:∃ w1,w.alloc (.cells B 146)=w1:=⟨_,rfl⟩;obtain⟨w2,Y⟩:∃ w2,w1.alloc (.cells A 129)=w2:=⟨_,rfl⟩;have V:w1.heap[w.heap.size]? = some (.cells B 146):=by rw[<-aB];exact heap_alloc_new _ _
 have aj:Below w.heap.size w w1:=by rw[<-aB];exact(Below.refl _ w).alloc (Wz8 _) _
 have O:Below w1.heap.size w1 w2:=by rw[<-Y];exact(Below.refl _ w1).alloc (Wz8 _) _
 have D:w2.heap[w.heap.size]? = some (.cells B 146):=(O.block _ (z7 V)).trans V;have a6:Below w.heap.size w w2:=aj.trans (O.mono aj.size);have aS:=h.below a6;have aQ:(Instr.lookup 56 (.map (some t)) (sV s.name) false).run prog w1=.ok (.agg A) w1:=by
  have:=(h.below aj).tt.tm.look1 xX (j7 w1) (x:=s.name) (by have:=hs.nm;omega);rw[ao,HA.out.e] at this;exact this
 have aM:=HS.out.c1 w1 V;have aw:=HS.out.c0 w2 D;have aN:=HS.out.c1 w2 D;have aW:=hid (HS.out.r2 w2 D);have ax:=HS.out.c22 w2 D;have a7:=(vZ HA.out G.id.1 w1).2;rw[Y] at a7;rw[Z] at aw;rw[HS.out.e];have aK:Hid (sP s=(s.name,.inr (.inr s.e))):=hid (by unfold sP;rw[Z];rfl);have aO:gR T s.name=r:=by unfold gR;rw[hr];rfl
 rw[aO] at HA G ay ao a7;have ac:=hid (HS.out.r23 w2 D);obtain⟨EL,M⟩:∃ E,qw s.e=E:=⟨_,rfl⟩;have aF:Hid ((prog.info? 133).map (·.size)=some EL.length):=hid (by rw[<-M,yQ hs.e];kernel_rfl);obtain⟨w3,a8⟩:∃ w3,w2.alloc (.cells EL.toArray 133)=w3:=⟨_,rfl⟩
 have aC:Hid ((Instr.buildSlice 127 1 #[(0,.agg EL.toArray)]).run prog w2=.ok (.slice (some ⟨w2.heap.size,0,none⟩) 1 1) w3):=hid (by rw[<-a8,<-M];exact zxj s.e hs.e w2);have K:Below w2.heap.size w2 w3:=by rw[<-a8];exact(Below.refl _ w2).alloc (Wz8 _) _
 have j:Below w.heap.size w w3:=a6.trans (K.mono a6.size);have ak:g<=w.heap.size:=by have:=h.tt.tm.lt;have:=h.ge;omega
 have aJ:Hid (Px qw 45 dL w3 (some ⟨w2.heap.size,0,none⟩) 1 [s.e]):=hid (by
  have:=x5 (enc:=qw) (d:=dL) w2 s.e 133;rw[yQ hs.e,M,a8] at this;exact this)
 have ap:Hid (Px qw 45 dL w3 r.a r.c r.log):=hid (G.px.below j);have ad:Hid (LgO g w3 r):=hid ((h.below j).lg s.name r hr);have aI:=hid G;have hA1:w3.heap[w1.heap.size]? = some (.cells A 129):=by
  have e1:w2.heap[w1.heap.size]? = some (.cells A 129):=by rw[<-Y];exact heap_alloc_new _ _
  exact(K.block _ (z7 e1)).trans e1
 have ai:w3.heap[w.heap.size]? = some (.cells B 146):=(K.block _ (z7 D)).trans D;have aA:w.heap.size<w1.heap.size:=z7 V;have az:∀ b,(Value.slice r.a r.log.length r.c).ownBlock=some b->b<w.heap.size:=fun b hb=>by
  obtain⟨p,e1,e2⟩:=UY hb;rw[<-e2];exact(G.out p e1).2
 have ag:∀ v:Value,rV r=.agg A->∀ a c l,v=.slice a l.length c->(.agg (A.setIfInBounds 21 v):Value)=rV ⟨r.id,r.tg,a,c,l⟩:=fun v hA a c l hv=>by
  unfold rV at hA ⊢;injection hA with hA;have hl:(row .u8 r.id).length=20:=by rw[zv];exact G.id.1
  rw[<-hA,hv,WvZ,Wu2 _ _ (by omega),hl];rfl
 have HE:Hid (∀ I J w4,Ap g w3 w4 r (r.log++[s.e]) (.slice I (r.log++[s.e]).length J)->w4.heap[w1.heap.size]? = some (.cells A 129)/\(w4.setCell ⟨w1.heap.size,21,none⟩ (.slice I (r.log++[s.e]).length J)).heap[w1.heap.size]? = some (.cells (A.setIfInBounds 21 (.slice I (r.log++[s.e]).length J)) 129)/\(w4.setCell ⟨w1.heap.size,21,none⟩ (.slice I (r.log++[s.e]).length J)).cell? ⟨w.heap.size,1,none⟩=some (sV s.name)/\∃ w6,(Instr.mapUpdate 56 (.map (some t)) (sV s.name) (.agg (A.setIfInBounds 21 (.slice I (r.log++[s.e]).length J)))).run prog (w4.setCell ⟨w1.heap.size,21,none⟩ (.slice I (r.log++[s.e]).length J))=.ok () w6/\(∃ T',To S g w6 t (n+1) T'/\aT T'=Rk.tk (aT T) (sP s))/\Bg g w w6):=fun I J w4 L=>by
  have ah:=z7 hA1;have h4:∀ i,i<w3.heap.size->w.heap.size<=i->w4.heap[i]? = w3.heap[i]? := fun i hi aX=>L.blk i hi (fun _ e=>by have:=az i e.symm;omega);have q1:=(h4 _ ah (by omega)).trans hA1;have q2:=zV q1 21 (.slice I (r.log++[s.e]).length J)
  have q3:(w4.setCell ⟨w1.heap.size,21,none⟩ (.slice I (r.log++[s.e]).length J)).heap[w.heap.size]? = some (.cells B 146):=(Below.heap_setCell _ _ _ _ (by show w.heap.size ≠ w1.heap.size;omega)).trans ((h4 _ (z7 ai) (Wz8 _)).trans ai);obtain⟨es,ck,aL⟩:=h.tt.tm.box
  have aU:w4.heap[t]? = w.heap[t]? := (L.blk t (by have:=h.tt.tm.lt;have:=j.size;omega) (fun hc e=>by
   rcases ad.out with k | k
   ·exact hc k
   obtain⟨c,f,av⟩:=yY k t e.symm;rw[j.block _ h.tt.tm.lt,aL] at av;cases av)).trans (j.block _ h.tt.tm.lt)
  have aV:(w4.setCell ⟨w1.heap.size,21,none⟩ (.slice I (r.log++[s.e]).length J)).heap[t]? = w.heap[t]? := (Below.heap_setCell _ _ _ _ (by show t ≠ w1.heap.size;have:=h.tt.tm.lt;omega)).trans aU;have aY:(w4.setCell ⟨w1.heap.size,21,none⟩ (.slice I (r.log++[s.e]).length J)).heap.size=w4.heap.size:=by simp[World.setCell]
  have e1:=ag (.slice I (r.log++[s.e]).length J) HA.out.e I J (r.log++[s.e]) rfl;obtain⟨w6,aR,au,Q⟩:=(h.tt.tm.sm aV).put (by omega) xX (x:=s.name) (by have:=hs.nm;omega) (.agg (A.setIfInBounds 21 (.slice I (r.log++[s.e]).length J)))
  have ae:=h.log hr hs.e (by omega) j L ak (m:=w1.heap.size) ⟨by omega,ah⟩ (w':=w6) (by have:=Q.size;omega) ⟨Q.os,Q.tape,Q.output⟩ (fun i hi hit aP=>(Q.block i (by omega) (fun e=>hit (Wq8.inj e))).trans (Below.heap_setCell _ _ _ _ aP)) (by rw[SK];rw[e1] at au;exact au)
  exact⟨q1,q2,HS.out.c1 _ q3,w6,aR,⟨_,ae.1,by rw[aK.out,qu4 T s.name r hr];rfl⟩,ae.2⟩
 have aD:Hid (g<=w3.heap.size):=hid (Nat.le_trans ak j.size);have aG:Hid (r.log.length+1<=100000):=hl;rw[M] at ac;have aE:=hid HA.out.i;obtain⟨la,ln,lc,am⟩:∃ a n c,(Value.slice r.a r.log.length r.c)=.slice a n c:=⟨_,_,_,rfl⟩;have aH:=hid am;rw[am] at a7
 have Q6:Hid (∀ w4:World,w4.heap[w1.heap.size]? = some (.cells A 129)->w4.cell? ⟨w1.heap.size,21,none⟩=some (.slice la ln lc)):=fun w4 h4=>by
  have e1:w2.heap[w1.heap.size]? = some (.cells A 129):=by rw[<-Y];exact heap_alloc_new _ _
  exact(World.cell?_of_block (a:=⟨w1.heap.size,21,none⟩) (h4.trans e1.symm)).trans a7
 unfold sV at aQ aM aN ax HE;unfold sV wG at aw;clear am aS h G ay ao V D ag O K hA1 ai az aA a8 M a6 j ak hl;go_enter func86,ntmps86;go_wp2_with (first
  | (refine zq rfl 129 (.tmp 4) (.tmp 8) rfl _ A rfl rfl HA.out.i HA.out.z HA.out.o ?_;rw[Y])
  | (refine wpList_load_mid rfl 133 (.tmp 40) rfl _ 23 rfl EL _ ac.out underlying133 rfl aF.out ?_;go_frame;refine z8 rfl (.slice (some ⟨w2.heap.size,0,none⟩) 1 1) (qJ 127 (.tmp 41) rfl (.agg EL.toArray) _ rfl aC.out) ?_;go_frame;refine Bq rfl (.tmp 39) (.tmp 42) rfl g r s.e w2.heap.size aH.out.symm rfl aJ.out ap.out aI.out.ok hs.e ad.out aD.out aG.out ?_;intro I J w4 L;obtain⟨q1,q2,q3,w6,q4,q5⟩:=HE.out I J w4 L;obtain⟨N4,ar⟩:∃ n,(r.log++[s.e]).length=n:=⟨_,rfl⟩;rw[ar] at q2 q3 q4 ⊢;have q6:w4.cell? ⟨w1.heap.size,21,none⟩=some (.slice la ln lc):=Q6.out w4 q1;have q7:w4.frozen? ⟨w1.heap.size,21,none⟩=false:=(by simp[World.frozen?,q1]);have Q2:=hid q2;have Q4:=hid q4;have Q5:=hid q5;clear q1 q2 q4 q5 L ar;go_frame)
  | (refine zX rfl 129 (.tmp 4) rfl w1.heap.size _ 129 (0,0) _ rfl Q2.out underlying129 rfl (by rw[Array.size_setIfInBounds];exact aE.out) ?_;go_frame)
  | (at_mapUpdate;refine xK rfl (xq (mv:=.map (some t)) (kv:=.string ⟨s.name.toArray⟩) rfl rfl rfl rfl Q4.out) ?_))
 exact bodyPost_end (results_none results86 _ _ _) rfl ⟨rfl,Q5.out⟩
def StO (m:Rk.Tb Str Kp Le) (s:Sp):Prop:=(s.word=wR ∨ s.word=wL ∨ s.word=wD) ∨ (s.word=wG/\∃ k l,m s.name=some (k,l)/\l.length+1<=100000)
def StG:Rk.Tb Str Kp Le->List Sp->Prop
 | _,[]=>True
 | m,s :: r=>vV s/\StO m s/\StG (Rk.tk m (sP s)) r
theorem SV (S:Nat->Prop) (g t n:Nat) (T:Ts) (s:Sp) (w:World) (h:To S g w t n T) (hs:vV s) (D:n<=90000) (K:StO (aT T) s) :
  Calls prog 86 #[.map (some t),.agg (zJ s).toArray] w fun e w'=>e=.returned (.tuple #[])/\(∃ I,To S g w' t (n+1) I/\aT I=Rk.tk (aT T) (sP s))/\Bg g w w':=by
 rcases K with (j | j | j) | ⟨j,k,l,A,J⟩
 ·exact zxx S g t n T s w h hs D j
 ·exact zz3 S g t n T s w h hs D j
 ·exact zz4 S g t n T s w h hs D j
 unfold aT at A;cases G:T s.name with
 | none=>rw[G] at A;cases A
 | some r =>
  rw[G] at A;simp only[Option.map_some,Wq8.injEq,Prod.mk.injEq] at A;exact zxk S g t n T s w h hs D j r G (by rw[A.2];exact J)
def cut (r:Lr):Lr:=⟨r.id,r.tg,r.a,r.log.length,r.log⟩
def Qj (T:Ts) (L:Str->Bool):Ts:=fun y=>if L y then none else (T y).map cut
theorem qu5 {S:Nat->Prop} {w W:World} {t n G k:Nat} {T:Ts} {L:Str->Bool} (h:Tt S w t n T) (hb:Below w.heap.size w W) (K:TM (rV r0) W G k (vT (Qj T L))) (Q:w.heap.size<=G) (J:∀ i,S i->i<w.heap.size):To S w.heap.size W G k (Qj T L):=by
 have hc:∀ x r,Qj T L x=some r->∃ j,T x=some j/\r=cut j:=fun x r hr=>by
  unfold Qj at hr;split at hr
  ·cases hr
  obtain⟨j,A,I⟩:=Option.map_eq_some_iff.1 hr;exact⟨j,A,I.symm⟩
 refine⟨⟨K,fun x r hr=>?_,fun hs=>by have:=J _ hs;omega⟩,fun x r hr=>?_,fun x y r q hx hy O D=>?_,Q,J⟩
 ·obtain⟨j,A,rfl⟩:=hc x r hr;have:=(h.below hb).at_ x j A;exact⟨this.nm,this.id,this.tg,⟨Wz8 _,this.px.at_,fun M=>by have I:=this.px.nil M;have V:=this.px.capl;show j.log.length=0;omega⟩,this.few,this.ok,this.out⟩
 ·obtain⟨j,A,rfl⟩:=hc x r hr;exact .inl rfl
 obtain⟨j,A,rfl⟩:=hc x r hx;exact absurd rfl D
theorem qzy (a:Option Addr) (n c:Nat) (h:n<=c) (j:a=none->c=0) (w:World):(Instr.slice 127 (.slice a n c) none (some (.int .i64 n)) (some (.int .i64 n))).run prog w=.ok (.slice a n n) w:=by
 cases a with
 | none =>
  have:=j rfl;subst this;obtain rfl:n=0:=by omega
  go_simp
 | some p=>go_simp
theorem qzu {r:Lr} {A:Array Value} (h:rV r=.agg A) (hr:r.id.length=20):(.agg (A.setIfInBounds 21 (.slice r.a r.log.length r.log.length)):Value)=rV (cut r):=by
 unfold rV at h ⊢;injection h with h;have j:(row .u8 r.id).length=20:=by rw[zv];exact hr
 rw[<-h,WvZ,Wu2 _ _ (by omega),j];rfl
theorem mk105 (n:Nat) (j:n<=100000) (w:World):(Instr.makeMap 56 (some (.int .i64 (n:Int)))).run prog w=.ok (.map (some w.heap.size)) (w.alloc (.map #[] 0)):=by
 have h:¬ (n:Int)<0:=by omega
 unfold Instr.makeMap;go_simp
end Go.Proofs.YtdnphaganajejaaGreatDoor.K
