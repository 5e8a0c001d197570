import Derived.Test.YtiaaekdpfpaigaaGreatDoorMn29
set_option linter.unusedSimpArgs false
set_option linter.unusedVariables false
set_option maxRecDepth 20000
set_option maxHeartbeats 4000000
open Int renaming natCast_add->Wqz
open List renaming append_assoc->Wz1,length_append->Wz6,length_cons->Wz7,length_set->Wvk,length_singleton->Wx4,length_take->Wzz,mem_append->WqX,mem_singleton->WqJ,size_toArray->WqW,take_set->Wvv
open Nat renaming eq_zero_or_pos->Wx0,le_refl->WzV,le_trans->Wqx,lt_of_lt_of_le->Wqj
open Option renaming some->Wq9
namespace Go.Proofs.YtiaaekdpfpaigaaGreatDoor.Pk
open Go.Proofs.Tryz
open Go.RowKit Go.Maps Go.Proofs.YtiaaekdpfpaigaaGreatDoor.Id Go.Proofs.YtiaaekdpfpaigaaGreatDoor.Px
structure KT (t:TypeId) (w w':World):Prop where
 size:w.heap.size<=w'.heap.size
 at_:∀ (g:Nat) (C:Array Value) (fr:Nat × Nat),w.heap[g]? = some (Obj.cells C t fr)->w'.heap[g]? = some (Obj.cells C t fr)
abbrev K5 (w w':World):Prop:=KT 5 w w'
section
variable {t : TypeId}
theorem KT.refl (w:World):KT t w w:=⟨WzV _,fun _ _ _ h=>h⟩
theorem KT.trans {w w1 w2:World} (h:KT t w w1) (k:KT t w1 w2):KT t w w2:=⟨Wqx h.size k.size,fun g C fr e=>k.at_ g C fr (h.at_ g C fr e)⟩
theorem q8 {w w':World} (h:Below w.heap.size w w'):KT t w w':=⟨h.size,fun g C fr e=>(h.block g (lt_of_some e)).trans e⟩
theorem G8 {w w':World} {g:Nat} {o:Obj} (h:w.grownBy w' (some g)) (ho:w.heap[g]? = some o) (hn:∀ (C:Array Value) (fr:Nat × Nat),o ≠ Obj.cells C t fr):KT t w w' :=
 ⟨h.size,fun k C fr e=>(h.block k (lt_of_some e) (fun h2=>by cases h2;rw[ho] at e;exact hn C fr (Wq9.inj e))).trans e⟩
theorem zvY {w:World} {g i:Nat} {x:Value} {C:Array Value} {t':TypeId} {fr:Nat × Nat} (ho:w.heap[g]? = some (.cells C t' fr)) (ht:t' ≠ t):KT t w (w.setCell ⟨g,i,none⟩ x) :=
 G8 (E5 w g i x) ho (fun C fr e=>by injection e with e1 e2 e3;exact ht e2)
end
theorem jx {w:World} {B s n:Nat} {e:TypeId} {v:Value} {xs:List Value} (h:w.ownsRow B e s v n xs) {b:Nat} (hb:v.ownBlock=some b):∃ C,w.heap[b]? = some (.cells C e (0,0)):=by
 obtain⟨hl,⟨hv,h0⟩ | ⟨g,cap,cur,hv,h1,h2,h3⟩⟩:=h
 ·subst hv;cases hb
 subst hv;cases hb;exact⟨cur,h2⟩
theorem vj {t:TypeId} {w w':World} {B s n:Nat} {v:Value} {xs:List Value} (h:w.ownsRow B t s v n xs) (hk:KT t w w'):w'.ownsRow B t s v n xs:=by
 obtain⟨hl,h1 | ⟨g,cap,cur,hv,h1,h2,h3⟩⟩:=h
 ·exact⟨hl,.inl h1⟩
 exact⟨hl,.inr ⟨g,cap,cur,hv,h1,hk.at_ _ _ _ h2,h3⟩⟩
theorem FM.map {α:Type} {kt:TypeId} {K:α->Value} {z:Value} {w:World} {g n s:Nat} {M:α->Option Value} (h:FM kt K z w g n s M):∃ es ck,w.heap[g]? = some (.map es ck):=by
 obtain⟨D,⟨es,ck,hb,hr⟩,h2⟩:=h;exact⟨es,ck,hb⟩
theorem ZZ {α:Type} {kt:TypeId} {K:α->Value} {z:Value} {w:World} {g n s:Nat} {M:α->Option Value} (h:FM kt K z w g n s M) {b:Nat} {C:Array Value} {t:TypeId} {fr:Nat × Nat} (hb:w.heap[b]? = some (.cells C t fr)):b ≠ g:=fun e=>by
 obtain⟨es,ck,hm⟩:=h.map;subst e;rw[hm] at hb;cases hb
theorem P0 {t:TypeId} {α:Type} {kt:TypeId} {K:α->Value} {z:Value} {w w':World} {g n s:Nat} {M:α->Option Value} (h:FM kt K z w g n s M) (hg:w.grownBy w' (some g)):KT t w w':=by
 obtain⟨es,ck,hm⟩:=h.map;exact G8 hg hm (fun C fr e=>by cases e)
abbrev zo2:Value:=.agg #[.int .i64 0,.slice none 0 0]
abbrev C0 (n:Nat):Value:=.int .i64 n
structure Ct (w0 w:World) (G gc gb gi gx:Nat) (ts:List Et) (ev:Value) (nb sb:Nat) (Mb:Nat->Option Value) (ni si:Nat) (Mi:List Int->Option Value) (nx sx:Nat) (Mx:List Int->Option Value):Prop where
 box:w.heap[gc]? = some (.cells #[ev,.map (some gb),.map (some gi),.map (some gx)] 67 (0,0))
 es:Bx qW 50 72 w0 w G ev ts
 bm:FM 3 C0 (.int .i64 0) w gb nb sb Mb
 im:FM 68 idV (.int .i64 0) w gi ni si Mi
 xm:FM 68 idV zo2 w gx nx sx Mx
 d1:gb ≠ gi
 d2:gb ≠ gx
 d3:gi ≠ gx
 l0:G<=gc
 l1:G<=gb
 l2:G<=gi
 l3:G<=gx
 wf:∀ t ∈ ts,Wf t
section
variable {w0 w w' : World} {G gc gb gi gx : Nat} {ts : List Et} {ev : Value} {nb sb : Nat} {Mb : Nat → Option Value} {ni si : Nat} {Mi : List Int → Option Value} {nx sx : Nat} {Mx : List Int → Option Value}
theorem Ct.go (h:Ct w0 w G gc gb gi gx ts ev nb sb Mb ni si Mi nx sx Mx) (hb:Below w.heap.size w w'):Ct w0 w' G gc gb gi gx ts ev nb sb Mb ni si Mi nx sx Mx :=
 ⟨(hb.block _ (lt_of_some h.box)).trans h.box,h.es.carry hb,h.bm.below hb,h.im.below hb,h.xm.below hb,h.d1,h.d2,h.d3,h.l0,h.l1,h.l2,h.l3,h.wf⟩
theorem Bx.kp {α:Type} {enc:α->List Value} {k:Nat} {e:TypeId} {B:Nat} {v:Value} {l:List α} (h:Bx enc k e w0 w B v l) {g:Nat} (hg:w.grownBy w' (some g)) (hB:B<=g) (hne:v.ownBlock ≠ some g):Bx enc k e w0 w' B v l :=
 ⟨h.below.grown hg h.le (fun k hk=>by cases hk;exact hB),h.own.kept hg (.inr hne),Wqx h.le hg.size⟩
theorem Ct.ne1 (h:Ct w0 w G gc gb gi gx ts ev nb sb Mb ni si Mi nx sx Mx) {α:Type} {kt:TypeId} {K:α->Value} {z:Value} {g n s:Nat} {M:α->Option Value} (hm:FM kt K z w g n s M):ev.ownBlock ≠ some g:=fun e=>by
 obtain⟨C,hC⟩:=jx h.es.own e;exact ZZ hm hC rfl
theorem Ct.ne0 (h:Ct w0 w G gc gb gi gx ts ev nb sb Mb ni si Mi nx sx Mx):ev.ownBlock ≠ some gc:=fun e=>by
 obtain⟨C,hC⟩:=jx h.es.own e;rw[h.box] at hC;cases hC
theorem Ct.putB (h:Ct w0 w G gc gb gi gx ts ev nb sb Mb ni si Mi nx sx Mx) (hg:w.grownBy w' (some gb)) {nb' sb':Nat} {Mb':Nat->Option Value} (hm:FM 3 C0 (.int .i64 0) w' gb nb' sb' Mb'):Ct w0 w' G gc gb gi gx ts ev nb' sb' Mb' ni si Mi nx sx Mx :=
 ⟨(hg.block _ (lt_of_some h.box) (fun e=>ZZ h.bm h.box (Wq9.inj e))).trans h.box,h.es.kp hg h.l1 (h.ne1 h.bm),hm,h.im.sm (hg.block _ h.im.lt (fun e=>h.d1 (Wq9.inj e).symm)),h.xm.sm (hg.block _ h.xm.lt (fun e=>h.d2 (Wq9.inj e).symm)),h.d1,h.d2,h.d3,h.l0,h.l1,h.l2,h.l3,h.wf⟩
theorem Ct.putI (h:Ct w0 w G gc gb gi gx ts ev nb sb Mb ni si Mi nx sx Mx) (hg:w.grownBy w' (some gi)) {ni' si':Nat} {Mi':List Int->Option Value} (hm:FM 68 idV (.int .i64 0) w' gi ni' si' Mi'):Ct w0 w' G gc gb gi gx ts ev nb sb Mb ni' si' Mi' nx sx Mx :=
 ⟨(hg.block _ (lt_of_some h.box) (fun e=>ZZ h.im h.box (Wq9.inj e))).trans h.box,h.es.kp hg h.l2 (h.ne1 h.im),h.bm.sm (hg.block _ h.bm.lt (fun e=>h.d1 (Wq9.inj e))),hm,h.xm.sm (hg.block _ h.xm.lt (fun e=>h.d3 (Wq9.inj e).symm)),h.d1,h.d2,h.d3,h.l0,h.l1,h.l2,h.l3,h.wf⟩
theorem Ct.putX (h:Ct w0 w G gc gb gi gx ts ev nb sb Mb ni si Mi nx sx Mx) (hg:w.grownBy w' (some gx)) {nx' sx':Nat} {Mx':List Int->Option Value} (hm:FM 68 idV zo2 w' gx nx' sx' Mx'):Ct w0 w' G gc gb gi gx ts ev nb sb Mb ni si Mi nx' sx' Mx' :=
 ⟨(hg.block _ (lt_of_some h.box) (fun e=>ZZ h.xm h.box (Wq9.inj e))).trans h.box,h.es.kp hg h.l3 (h.ne1 h.xm),h.bm.sm (hg.block _ h.bm.lt (fun e=>h.d2 (Wq9.inj e))),h.im.sm (hg.block _ h.im.lt (fun e=>h.d3 (Wq9.inj e))),hm,h.d1,h.d2,h.d3,h.l0,h.l1,h.l2,h.l3,h.wf⟩
theorem FM.by {α:Type} {kt:TypeId} {K:α->Value} {z:Value} {g n s:Nat} {M:α->Option Value} (h:FM kt K z w g n s M) {r:Option Nat} (hg:w.grownBy w' r) (hr:∀ b,r=some b->b ≠ g):FM kt K z w' g n s M:=h.sm (hg.block _ h.lt (fun e=>hr g e.symm rfl))
theorem Ct.app (h:Ct w0 w G gc gb gi gx ts ev nb sb Mb ni si Mi nx sx Mx) {ev':Value} {t:Et} (hb:Bx qW 50 72 w0 w' G ev' (ts++[t])) (hg:w.grownBy w' ev.ownBlock) (hm:Dl.Mv w w' ev ev') (ht:Wf t) :
  Ct w0 (w'.setCell ⟨gc,0,none⟩ ev') G gc gb gi gx (ts++[t]) ev' nb sb Mb ni si Mi nx sx Mx:=by
 have hbx:w'.heap[gc]? = some (.cells #[ev,.map (some gb),.map (some gi),.map (some gx)] 67 (0,0)):=(hg.block _ (lt_of_some h.box) (fun e=>h.ne0 e.symm)).trans h.box;have hbm:=h.bm.by hg (fun b e e'=>h.ne1 h.bm (by rw[e,e']))
 have him:=h.im.by hg (fun b e e'=>h.ne1 h.im (by rw[e,e']))
 have hxm:=h.xm.by hg (fun b e e'=>h.ne1 h.xm (by rw[e,e']))
 have n0:ev'.ownBlock ≠ some gc:=fun e=>by
  obtain⟨C,hC⟩:=jx hb.own e;rw[hbx] at hC;cases hC
 have hs:=E5 w' gc 0 ev';exact⟨by simpa using VK 0 ev' hbx,hb.set1 gc 0 _ h.l0 n0,hbm.by hs (fun b e=>by cases e;exact ZZ hbm hbx),him.by hs (fun b e=>by cases e;exact ZZ him hbx),hxm.by hs (fun b e=>by cases e;exact ZZ hxm hbx),h.d1,h.d2,h.d3,h.l0,h.l1,h.l2,h.l3,fun x hx=>(WqX.1 hx).elim (h.wf x) (fun hx=>by rw[WqJ.1 hx];exact ht)⟩
end
structure Dd (w:World) (G:Nat) (ts:List Et):Prop where
 own:∀ i,i<ts.length->w.ownsRow G 5 1 (ts.getD i dT).dv (ts.getD i dT).e.raw.length ((ts.getD i dT).e.raw.map (Value.int .u8))
 ap:∀ i j b,i<j->j<ts.length->(ts.getD i dT).dv.ownBlock=some b->(ts.getD j dT).dv.ownBlock ≠ some b
theorem Dd.k5 {w w':World} {G:Nat} {ts:List Et} (h:Dd w G ts) (hk:K5 w w'):Dd w' G ts:=⟨fun i hi=>vj (h.own i hi) hk,h.ap⟩
theorem Dd.nil (w:World) (G:Nat):Dd w G []:=⟨(fun i h=>by cases h),fun i j b h1 h2=>by cases h2⟩
theorem Dd.snoc {w w':World} {G:Nat} {ts:List Et} {t:Et} (h:Dd w G ts) (hk:K5 w w') (hG:G<=w.heap.size) (hn:w'.ownsRow w.heap.size 5 1 t.dv t.e.raw.length (t.e.raw.map (Value.int .u8))):Dd w' G (ts++[t]):=by
 refine⟨fun i hi=>?_,fun i j b hij hj hb=>?_⟩
 ·rw[Wz6,Wx4] at hi;by_cases h1:i<ts.length
  ·rw[zY _ _ _ _ h1];exact vj (h.own i h1) hk
  obtain rfl:i=ts.length:=by omega
  rw[qu];exact qV hn hG
 rw[Wz6,Wx4] at hj;rw[zY _ _ _ _ (by omega)] at hb;by_cases h1:j<ts.length
 ·rw[zY _ _ _ _ h1];exact h.ap i j b hij h1 hb
 obtain rfl:j=ts.length:=by omega
 rw[qu];intro e;have:=(zJ (h.own i (by omega)) b hb).2;have:=(zJ hn b e).1;omega
theorem set_self {w:World} {g i:Nat} {x:Value} {C:Array Value} {t:TypeId} {fr:Nat × Nat} (ho:w.heap[g]? = some (.cells C t fr)) (hx:C[i]? = some x):w.setCell ⟨g,i,none⟩ x=w:=by
 have hC:C.setIfInBounds i x=C:=by
  apply Array.ext (by simp);intro j h1 h2;rw[Array.getElem_setIfInBounds];split
  ·subst_vars;rw[Array.getElem?_eq_getElem h2] at hx;exact(Wq9.inj hx).symm
  rfl
 have hh:(w.setCell ⟨g,i,none⟩ x).heap=w.heap:=by
  apply Array.ext_getElem?;intro k;by_cases e:k=g
  ·subst e;have:=Dl.heap_set w k i x ho;rw[hC] at this;rw[this,ho]
  exact heap_setCell_other _ _ _ _ e
 unfold World.setCell at hh ⊢;cases w
 simp only at hh ⊢;rw[hh]
theorem j3 (t:Et) (h:Wf t):(qW t)[0]? = some (.int .i64 t.e.kd)/\(qW t)[1]? = some (.int .i64 t.e.raw.length)/\(qW t)[2]? = some (.int .i64 t.e.d)/\(qW t)[23]? = some (.int .i64 t.bg)/\(qW t)[24]? = some (.int .i64 t.nd)/\(qW t)[25]? = some t.dv/\(qW t)[26]? = some (.int .i64 t.ba)/\(qW t)[27]? = some (.bool t.kn)/\(qW t)[28]? = some (.int .i64 t.ok)/\(qW t)[29]? = some t.ov:=by
 obtain⟨a0,a1,a2,a3,a4,a5,a6,a7,a8,a9,a10,a11,a12,a13,a14,a15,a16,a17,a18,a19,e⟩:=Z6 t.e.id h.i1;unfold qW;rw[e];exact⟨rfl,rfl,rfl,rfl,rfl,rfl,rfl,rfl,rfl,rfl⟩
structure S9 (gc gb H d:Nat) (W:World):Prop where
 c1:W.cell? ⟨gc,1,none⟩=some (.map (some gb))
 c2:W.cell? ⟨H,2,none⟩=some (.int .i64 d)
 lk:(Instr.lookup 63 (.map (some gb)) (.int .i64 12) true).run prog W=.ok (.tuple #[.int .i64 0,.bool true]) W
structure S14 (gc H:Nat) (ev:Value) (T:List Value) (W:World):Prop where
 c0:W.cell? ⟨gc,0,none⟩=some ev
 r0:W.rangeAt H 0 T
theorem zu0:(prog.info? 72).map (fun i=>(i.zero,i.size,i.bytes))=some (some (.agg (qW zT).toArray),50,160):=by kernel_rfl
theorem run62 (t:Et) (h:Wf t) (w:World):(Instr.buildSlice 62 1 #[(0,.agg (qW t).toArray)]).run prog w=.ok (.slice (some ⟨w.heap.size,0,none⟩) 1 1) (w.alloc (.cells (qW t).toArray 72)):=by
 obtain⟨a0,a1,a2,a3,a4,a5,a6,a7,a8,a9,a10,a11,a12,a13,a14,a15,a16,a17,a18,a19,e⟩:=Z6 t.e.id h.i1;obtain⟨b0,b1,b2,b3,b4,b5,b6,b7,b8,b9,b10,b11,b12,b13,b14,b15,b16,b17,b18,b19,e2⟩:=Z6 t.id h.i2;obtain⟨a,n,c,e3⟩:=h.dv;obtain⟨a',n',c',e4⟩:=h.ov;unfold qW;rw[e,e2,e3,e4];kernel_rfl
theorem qzX {K:Nat} {hs:List (List Int)} {es:List En} (hO:Oks K hs es):∀ i,0<i->i<=es.length->12<off es i
 | 0,h,_=>by omega
 | i+1,_,hi=>by
  rw[k9 es i (by omega)];have h1:0<(enb (es.getD i dE)).length:=by
   unfold enb;rw[Wz6];have:=(hO i (by omega)).z.pos;omega
  have h2:12<=off es i:=by unfold off;omega
  omega
theorem Uj {t:TypeId} {w w':World} {B s n:Nat} {v:Value} {xs:List Value} {e:TypeId} (h:w.ownsRow B e s v n xs) (he:e ≠ t) (hg:w.grownBy w' v.ownBlock):KT t w w' :=
 ⟨hg.size,fun k C fr hk=>(hg.block k (lt_of_some hk) (fun h2=>by
  obtain⟨C',hC⟩:=jx h h2.symm
  rw[hC] at hk
  injection hk with hk
  injection hk with e1 e2 e3
  exact he e2)).trans hk⟩
theorem qxk (w:World):(sizeOf 3).run prog w=.ok 1 w:=by kernel_rfl
theorem Cq (x y:Nat) (h:C0 x=C0 y):x=y:=by
 unfold C0 at h;injection h with h1 h2;omega
def zu1 (w0:World) (G gc gb gi gx N:Nat) (es:List En) (ni si:Nat) (Mi:List Int->Option Value) (nx sx:Nat) (Mx:List Int->Option Value) (ev:Ending) (w':World):Prop :=
 ev=.returned .nilIface/\∃ ts v nb sb Mb,ts.length=N/\Ct w0 w' G gc gb gi gx ts v nb sb Mb ni si Mi nx sx Mx/\Dd w' G ts/\∀ j,j<N->∃ u,ts.getD j dT=QQ (es.getD j dE) (off es j) u
theorem Jy {K:Nat} {hs:List (List Int)} {es:List En} (N:Nat) (hN:es.length=N) (hNl:N<=100) (hK:1<=K/\K<=4) (hO:Oks K hs es) (hl:off es es.length<=300000) (b ao cap G gc gb gi gx:Nat) (w0 w:World) (hG:w0.heap.size=G) (hc:(pkb N es).length<=cap) (hb:b<G) (hat:Id.At w0 b ao (pkb N es)) (ht:Df.TabsW w0) {ni si:Nat} {Mi:List Int->Option Value} {nx sx:Nat} {Mx:List Int->Option Value}
  (hC:Ct w0 w G gc gb gi gx [] (.slice none 0 0) 0 0 (fun _=>none) ni si Mi nx sx Mx) :
  Calls prog 42 #[.pointer (some ⟨gc,0,none⟩),.slice (some ⟨b,ao,none⟩) (pkb N es).length cap,.int .i64 N] w (zu1 w0 G gc gb gi gx N es ni si Mi nx sx Mx):=by
 obtain⟨L,HL⟩:=nm_ ((pkb N es).length);obtain⟨Z,HZ⟩:=nm_ ((qW zT).toArray);have hz72:∀ w:World,(zeroValue 72).run prog w=.ok (.agg Z) w:=fun w=>by rw[<-HZ.out];exact Ex w
 have CR:Hid (∀ W,Below G w0 W->∀ i,i<N->Calls prog 70 #[.slice (some ⟨b,ao,none⟩) L cap,.int .i64 (off es i)] W (Ej W (es.getD i dE) (off es i))):=hid (fun W hW i hi=>by
  rw[<-HL.out];exact N4 N hK hO hl i (by omega) b ao cap W hc (Wqj hb (by rw[<-hG];exact hW.size)) (fun j hj=>(hW.cell (p:=⟨b,ao+j,none⟩) hb).trans (hat j hj)) (ht.below (by rw[hG];exact hW)))
 have hLo:L=off es N:=by rw[<-HL.out,j0,hN]
 have HLO:=hid hLo;have HOF:Hid (∀ i,i<=N->off es i<=300000):=hid (fun i hi=>Wqx (off_le es i (by omega)) hl);have HST:Hid (∀ i,i<N->off es (i+1)=off es i+(enb (es.getD i dE)).length):=hid (fun i hi=>k9 es i (by omega));have HPS:Hid (∀ i,0<i->i<=N->12<off es i):=hid (fun i h0 hi=>qzX hO i h0 (by omega))
 have HOK:Hid (∀ i,i<N->Ok K hs es i (es.getD i dE)):=hid (fun i hi=>hO i (by omega));have HGG:=hid hG;have HC:=hid hC;have HKK:=hid hK;have HZ0:Hid (off es 0=12):=hid rfl;rw[HL.out];clear hN hK hO hl hG hc hb hat ht hC hLo;go_enter func42,ntmps42;go_wp2_with fail
 go_loopg [14,7] N (fun g iv ov wr=>∃ (i:Nat) (ts:List Et) (ev:Value) (nb sb:Nat) (Mb:Nat->Option Value),iv=.int .i64 i/\ov=.int .i64 (off es i)/\g=N-i/\i<=N/\ts.length=i/\nb<=i/\Hid (Ct w0 wr G gc gb gi gx ts ev nb sb Mb ni si Mi nx sx Mx)/\Hid (Dd wr G ts)/\Hid (∀ j,j<i->∃ u,ts.getD j dT=QQ (es.getD j dE) (off es j) u)/\Hid (0<i->Mb 12=some (.int .i64 0)))
 case atStart=>exact⟨0,[],_,0,0,_,rfl,by rw[HZ0.out];rfl,rfl,by omega,rfl,WzV _,HC.out,Dd.nil _ _,(fun j h=>by omega),(fun h=>by omega)⟩
 obtain⟨i,ts,ev,nb,sb,Mb,rfl,rfl,hg,him,htl,hnb,HX,HD,HT,HM⟩:=hrel;by_cases hlt:i<N;rotate_left
 ·have hltI:¬ (i:Int)<N:=by omega
  obtain rfl:i=N:=by omega
  have hLa:(off es i:Int)=L:=by have:=HLO.out;omega
  rw[hLa];have hLL:¬ (L:Int)<L:=by omega
  go_wp2_with fail
  go_ret;exact⟨rfl,ts,_,nb,sb,Mb,htl,HX.out,HD.out,HT.out⟩
 have hltI:(i:Int)<N:=by omega
 obtain⟨e,HE⟩:=nm_ (es.getD i dE);have HOk:Hid (Ok K hs es i e):=hid (by rw[<-HE.out];exact HOK.out i hlt);have C70:=hid (CR.out wr HX.out.es.below i hlt);rw[HE.out] at C70;have hst:=HST.out i hlt;rw[HE.out] at hst;obtain⟨U,HU⟩:=nm_ ((enb e).length);rw[HU.out] at hst;have HSI:=hid hst;obtain⟨at_,HA⟩:=nm_ (off es i);rw[HA.out] at C70 hst ⊢
 have ha3:at_<=300000:=by rw[<-HA.out];exact HOF.out i (by omega)
 clear hst;go_wp2_with fail
 refine C70.out.mono ?_;clear C70;rintro ev1 w1 ⟨v,rfl,hbd⟩;obtain⟨va,vc,rfl,-⟩:=xW hbd;obtain⟨T,HTT⟩:=nm_ (qW (QQ e at_ (.slice va e.raw.length vc)));have hwf:Wf (QQ e at_ (.slice va e.raw.length vc)):=⟨HOk.out.idl,rfl,⟨va,_,vc,rfl⟩,⟨none,0,0,rfl⟩⟩;have HWF:=hid hwf;obtain⟨x0,-,x2,-,x24,-,x26,-⟩:=j3 _ hwf;rw[HTT.out] at x0 x2 x24 x26 ⊢
 replace x0:T[0]? = some (.int .i64 e.kd):=x0;replace x2:T[2]? = some (.int .i64 e.d):=x2;replace x24:T[24]? = some (.int .i64 ((at_+(enb e).length:Nat):Int)):=x24;replace x26:T[26]? = some (.int .i64 0):=x26;rw[HU.out] at x24;have hTl:T.length=50:=by rw[<-HTT.out];exact hwf.len
 have HR72:Hid (∀ w:World,(Instr.buildSlice 62 1 #[(0,.agg T.toArray)]).run prog w=.ok (.slice (some ⟨w.heap.size,0,none⟩) 1 1) (w.alloc (.cells T.toArray 72))):=hid (fun w=>by rw[<-HTT.out];exact run62 _ HWF.out w);have hi72:(prog.info? 72).map (·.size)=some T.length:=by rw[hTl];exact SW
 have J72:Hid ((prog.info? 72).map (·.size)=some T.toArray.size):=hid (by rw[WqW];exact hi72);have E72:Hid (Z.size=T.toArray.size):=hid (by rw[<-HZ.out];show 50=T.toArray.size;rw[WqW,hTl]);have O72:Hid (T.toArray.all (·.oneCell')=true):=hid (by rw[<-HTT.out];exact all_oneCell_toArray HWF.out.one);obtain⟨H1,wa,HNA⟩:=nw 72 Z w1 T
 have hba:Below w1.heap.size w1 wa:=by rw[HNA.out.h];exact HNA.out.below
 have hbr:Below wr.heap.size wr wa:=hbd.below.trans (hba.mono hbd.below.size);have HXA:=hid (HX.out.go hbr);have HDA:Hid (Dd wa G (ts++[QQ e at_ (.slice va e.raw.length vc)])):=hid (HD.out.snoc (q8 hbr) HX.out.es.le (hbd.own.kept (yZ hba none) (by cases va <;> simp[Value.ownBlock])))
 have HB9:Hid (wa.heap[H1]? = some (.cells T.toArray 72 (0,0))):=hid HNA.out.box;have HLT:Hid (∀ b,b<wr.heap.size->b ≠ H1):=hid (fun b h=>by have:=hbd.below.size;rw[<-HNA.out.h];omega);have k0:wa.cell? ⟨H1,0,none⟩=some (.int .i64 e.kd):=by rw[cell_of_row _ _ 0 _ _ _ HB9.out];simpa using x0
 have k2:wa.cell? ⟨H1,2,none⟩=some (.int .i64 e.d):=by rw[cell_of_row _ _ 2 _ _ _ HB9.out];simpa using x2
 have k26:wa.cell? ⟨H1,26,none⟩=some (.int .i64 0):=by rw[cell_of_row _ _ 26 _ _ _ HB9.out];simpa using x26
 have HS26:Hid (wa.setCell ⟨H1,26,none⟩ (.int .i64 0)=wa):=hid (set_self HB9.out (by simpa using x26));have HX24:=hid x24;have HX26:=hid x26;have HK2:=hid k2;clear hbd hba hbr x0 x2 x24 x26 hwf k2;by_cases h6:e.kd=6;rotate_left
 ·have hkd:¬ (e.kd:Int)=6:=by omega
  have HXZ0:=HXA;have HDZ:=HDA;have HBZ:=HB9;obtain⟨wz,HWZ⟩:=nm_ wa;rw[HWZ.out] at HXZ0 HDZ HBZ;go_wp2_with (first
   | (refine wpList_store_row rfl 72 _ _ rfl w1.heap.size T.toArray rfl rfl 72 Z HNA.out.d J72.out E72.out O72.out ?_;rw[HNA.out.w,HNA.out.h])
   | fail)
  rw[HWZ.out];have HXZ:Hid (Ct w0 wz G gc gb gi gx ts ev nb sb Mb ni si Mi nx sx Mx):=HXZ0;have hbdz:Below wz.heap.size wz wz.drew:=zk (Below.refl _ _) 1;have hH:S14 gc H1 ev T wz.drew:=⟨by rw[cell_of_row _ _ 0 _ _ _ (HXZ.out.go hbdz).box];rfl,zx ((hbdz.block _ (lt_of_some HBZ.out)).trans HBZ.out)⟩;have HXb:=hid (HXZ.out.go hbdz)
  have HDb:=hid (HDZ.out.k5 (q8 hbdz));have HRG:Hid (wz.drew.heap[H1]? = some (.cells T.toArray 72 (0,0))):=hid ((hbdz.block _ (lt_of_some HBZ.out)).trans HBZ.out);refine Dl.region_U (S14 gc H1 ev T) 10 (by kernel_rfl) ?_;clear hbdz;generalize wz.drew=v0 at hH HXb HDb HRG ⊢;refine zK 0 hH ?_;try simp only[Act.put,sL]
  refine zK 1 hH ?_;try simp only[Act.put,sL]
  refine zK 2 hH ?_;try simp only[Act.put,sL]
  refine zK 3 hH ?_;try simp only[Act.put,sL]
  refine zK 4 hH ?_;try simp only[Act.put,sL]
  refine Dl.takeU (i:=5) (v:=.agg T.toArray) rfl (by kernel_rfl) (by kernel_rfl) (by kernel_rfl) (by kernel_rfl) (fun _ _ _ h=>h) (yieldsIf_load_mid (by rfl) 72 _ rfl H1 0 (by rfl) T _ (fun _ h=>h.r0) underlying72 rfl hi72) hH ?_;try simp only[Act.put,sL]
  obtain⟨v1,HV1⟩:=nm_ (v0.alloc (.cells T.toArray 72));have hb1:Below v0.heap.size v0 v1:=by rw[<-HV1.out];exact(Below.refl _ v0).alloc (WzV _) _
  have hr62:=HR72.out v0;obtain⟨gs,HGS⟩:=nm_ v0.heap.size;rw[HGS.out,HV1.out] at hr62;have HX1:=hid (HXb.out.go hb1);have HD1:=hid (HDb.out.k5 (q8 hb1));have HR1:Hid (v1.heap[H1]? = some (.cells T.toArray 72 (0,0))):=hid ((hb1.block _ (lt_of_some HRG.out)).trans HRG.out);have hS1:S14 gc H1 ev T v1:=⟨by rw[cell_of_row _ _ 0 _ _ _ HX1.out.box];rfl,zx HR1.out⟩
  have hrs:v1.rangeAt gs 0 (qW (QQ e at_ (.slice va e.raw.length vc))):=by
   rw[HTT.out,<-HV1.out,<-HGS.out];exact zx (heap_alloc_new _ _)
  obtain⟨ev',v2,hrun,hbx2,hg2,hm2'⟩:=HX1.out.es.app1 gs (QQ e at_ (.slice va e.raw.length vc)) hrs HWF.out.len (by decide) HWF.out.one (by omega) 62 underlying62 zu0 rfl (by decide) 62;have hX9:=HX1.out.app hbx2 hg2 hm2' HWF.out;have hk2:K5 v1 v2:=Uj HX1.out.es.own (by decide) hg2
  have hbx9:v2.heap[gc]? = some (.cells #[ev,.map (some gb),.map (some gi),.map (some gx)] 67 (0,0)):=(hg2.block _ (lt_of_some HX1.out.box) (fun h=>HX1.out.ne0 h.symm)).trans HX1.out.box;have hD9:=HD1.out.k5 (hk2.trans (zvY (i:=0) (x:=ev') hbx9 (by decide)));have hne1:ev.ownBlock ≠ some H1:=fun h=>HLT.out H1 (zJ HX.out.es.own H1 h).2 rfl
  have hR2:v2.heap[H1]? = some (.cells T.toArray 72 (0,0)):=(hg2.block _ (lt_of_some HR1.out) (fun h=>hne1 h.symm)).trans HR1.out;have hgcl:gc<wr.heap.size:=lt_of_some HX.out.box;have hR9:(v2.setCell ⟨gc,0,none⟩ ev').heap[H1]? = some (.cells T.toArray 72 (0,0)):=(heap_setCell_other _ _ _ _ (fun h=>HLT.out gc hgcl h.symm)).trans hR2
  obtain⟨a7,c7,hv7,-,-,-⟩:=Bx.px (d:=dT) hbx2 (fun x hx=>((WqX.1 hx).elim (fun h=>(HX1.out.wf x h).len) (fun h=>by rw[WqJ.1 h];exact HWF.out.len)));obtain⟨l7,HL7⟩:=nm_ ((ts++[QQ e at_ (.slice va e.raw.length vc)]).length);rw[HL7.out] at hv7;subst hv7;have hS2:S14 gc H1 ev T v2:=⟨by rw[cell_of_row _ _ 0 _ _ _ hbx9];rfl,zx hR2⟩
  refine Dl.readyU1 (i:=6) (by kernel_rfl) ?_;refine Dl.consU rfl (fun KK hKK=>?_);refine Dl.step_exec (by rfl) (.slice (some ⟨gs,0,none⟩) 1 1) (w':=v1) (xw 62 1 (.tmp 53) (by rfl) _ _ (by rfl) hr62) ?_;refine hKK.out _ _ (.inr hS1) ?_;clear hKK KK;try simp only[Act.put,sL]
  refine Dl.readyU1 (i:=7) (by kernel_rfl) ?_;refine Dl.consU rfl (fun KK hKK=>?_);refine Dl.step_exec (by rfl) (.slice a7 l7 c7) (w':=v2) (yy (.tmp 52) (.tmp 54) 62 (by rfl) (by rfl) (by rfl) hrun) ?_;refine hKK.out _ _ (.inr hS2) ?_;clear hKK KK;try simp only[Act.put,sL]
  refine G6 8 9 hS2 ?_;try simp only[Act.put,sL]
  refine zK 9 hS2 ?_;try simp only[Act.put,sL]
  refine Dl.readyU1 (i:=10) (by kernel_rfl) ?_;refine Dl.consU rfl (fun KK hKK=>?_);refine step_skip (by rfl) (u_7 62 Ij (.tmp 57) (.tmp 55) (by rfl) ⟨gc,0,none⟩ (.slice a7 l7 c7) ev (by rfl) (by rfl) rfl rfl hS2.c0 (frozen_of_row _ _ 0 _ 67 hbx9)) ?_;refine hKK.out _ _ (.inl rfl) ?_;clear hKK KK;try simp only[Act.put,sL]
  refine Dl.doneU (by kernel_rfl) ?_ _;obtain⟨w9,HW9⟩:=nm_ (v2.setCell ⟨gc,0,none⟩ (.slice a7 l7 c7));rw[HW9.out] at hX9 hR9 hD9 ⊢;have hwfk:(Lit.int .i64 (at_:Int)).wf=true:=WalkArith.wf_i64 ⟨by omega,by omega⟩;obtain⟨w8,hput,hFB,hgr⟩:=hX9.bm.put Ay Cq (by omega) zv8 (LY at_ hwfk) (.int .i64 i);have HX8:=hid (hX9.putB hgr hFB)
  have HD8:=hid (hD9.k5 (P0 hX9.bm hgr));have hgb:gb<wr.heap.size:=HX.out.bm.lt;have HR8:Hid (w8.heap[H1]? = some (.cells T.toArray 72 (0,0))):=hid ((hgr.block _ (lt_of_some hR9) (fun h=>HLT.out gb hgb (Wq9.inj h).symm)).trans hR9);have k24:w8.cell? ⟨H1,24,none⟩=some (.int .i64 ((at_+U:Nat):Int)):=by rw[cell_of_row _ _ 24 _ _ _ HR8.out];simpa using HX24.out
  have k1:w9.cell? ⟨gc,1,none⟩=some (.map (some gb)):=by rw[cell_of_row _ _ 1 _ _ _ hX9.box];rfl
  have HPUT:=hid hput;clear hX9 hD9 hR9 hR2 hbx9 hS2 hS1 hH hrs hrun hr62 hb1 hk2 hbx2 hg2 hm2' hput hFB hgr hne1;go_wp2_with (first
   | (refine wpList_skip rfl (j8 rfl rfl rfl rfl HPUT.out) ?_)
   | fail)
  go_roundg (N-(i+1));case measure=>omega
  refine⟨i+1,ts++[QQ e at_ (.slice va e.raw.length vc)],_,nb+1,_,_,by go_num,by rw[HSI.out,HA.out,Wqz],rfl,by omega,by rw[Wz6,htl];rfl,by omega,HX8.out,HD8.out,fun j hj=>?_,fun _=>?_⟩
  ·by_cases h1:j<i
   ·rw[zY _ _ _ _ (by omega)];exact HT.out j h1
   obtain rfl:j=ts.length:=(by omega);rw[qu,htl,HE.out,HA.out];exact⟨_,rfl⟩
  by_cases h1:12=at_
  ·have h0:i=0:=by
    rcases Wx0 i with h | h
    ·exact h
    have:=HPS.out i h (by omega);rw[HA.out] at this;omega
   rw[if_pos h1,h0];rfl
  have h0:0<i:=by
   rcases Wx0 i with h | h
   ·subst h;have:=HZ0.out;rw[HA.out] at this;omega
   exact h
  rw[if_neg h1];exact HM.out h0
 have hkd:(e.kd:Int)=6:=by omega
 have hKK:=HKK.out;have h0i:0<i:=by rcases HOk.out.how with ⟨a,_⟩ | ⟨_,a,_⟩ | ⟨a,_⟩ <;> omega
 have hsub:(at_:Int)-e.d=12:=by
  have:=HA.out;rcases HOk.out.how with ⟨a,_⟩ | ⟨_,_,a,_⟩ | ⟨a,_⟩ <;> omega
 have hdd:e.d<=300000:=by omega
 have HLK:Hid (∀ W,FM 3 C0 (.int .i64 0) W gb nb sb Mb->(Instr.lookup 63 (.map (some gb)) (.int .i64 12) true).run prog W=.ok (.tuple #[.int .i64 0,.bool true]) W):=hid (fun W hW=>by
  have h:=hW.look Ay zv8 zero3 (x:=12) (LY 12 (by decide));rw[HM.out h0i] at h;exact h)
 clear hKK;go_wp2_with (first
  | (refine wpList_store_row rfl 72 _ _ rfl w1.heap.size T.toArray rfl rfl 72 Z HNA.out.d J72.out E72.out O72.out ?_;rw[HNA.out.w,HNA.out.h])
  | fail)
 have hbd9:Below wa.heap.size wa wa.drew:=zk (Below.refl _ _) 1;have hS9:S9 gc gb H1 e.d wa.drew:=⟨by rw[cell_of_row _ _ 1 _ _ _ (HXA.out.go hbd9).box];rfl,(hbd9.cell (p:=⟨H1,2,none⟩) (lt_of_some HB9.out)).trans HK2.out,HLK.out _ (HXA.out.go hbd9).bm⟩;have HXZ0:=hid (HXA.out.go hbd9);have HDZ:=hid (HDA.out.k5 (q8 hbd9))
 have HBZ:Hid (wa.drew.heap[H1]? = some (.cells T.toArray 72 (0,0))):=hid ((hbd9.block _ (lt_of_some HB9.out)).trans HB9.out);clear hbd9 k0 k26 HS26;refine wp_region_held_drew (S:=S9 gc gb H1 e.d) (by kernel_rfl) hS9 (fun hHeld=>?_);clear hS9;generalize wa.drew=wz at hHeld HXZ0 HDZ HBZ ⊢;iterate 8 (refine qk hHeld ?_;try simp only[Act.put,sL])
 refine kw (v:=.int .i64 12) 8 hHeld ?_;try simp only[Act.put,sL]
 refine Dl.takeL (i:=9) (v:=.tuple #[.int .i64 0,.bool true]) rfl (by kernel_rfl) (by kernel_rfl) (by kernel_rfl) (fun _ _ _ h=>h) (Or.inl ⟨by rfl,fun w' h=>J3 rfl rfl rfl h.lk⟩) hHeld ?_;try simp only[Act.put,sL]
 iterate 5 (refine qk hHeld ?_;try simp only[Act.put,sL])
 refine wpAnyH_done (by kernel_rfl) ?_ _;have k26:wz.cell? ⟨H1,26,none⟩=some (.int .i64 0):=by rw[cell_of_row _ _ 26 _ _ _ HBZ.out];simpa using HX26.out
 have HS26:Hid (wz.setCell ⟨H1,26,none⟩ (.int .i64 0)=wz):=hid (set_self HBZ.out (by simpa using HX26.out));clear hHeld HLK;go_wp2_with (first
  | (refine wpList_skip rfl (u_7 3 qxk (.tmp 47) (.tmp 46) rfl ⟨H1,26,none⟩ (.int .i64 0) (.int .i64 0) rfl rfl rfl rfl k26 (frozen_of_row _ _ 26 _ 72 HBZ.out)) ?_;rw[HS26.out])
  | fail)
 have HXZ:Hid (Ct w0 wz G gc gb gi gx ts ev nb sb Mb ni si Mi nx sx Mx):=HXZ0;have hbdz:Below wz.heap.size wz wz.drew:=zk (Below.refl _ _) 1;have hH:S14 gc H1 ev T wz.drew:=⟨by rw[cell_of_row _ _ 0 _ _ _ (HXZ.out.go hbdz).box];rfl,zx ((hbdz.block _ (lt_of_some HBZ.out)).trans HBZ.out)⟩;have HXb:=hid (HXZ.out.go hbdz);have HDb:=hid (HDZ.out.k5 (q8 hbdz))
 have HRG:Hid (wz.drew.heap[H1]? = some (.cells T.toArray 72 (0,0))):=hid ((hbdz.block _ (lt_of_some HBZ.out)).trans HBZ.out);refine Dl.region_U (S14 gc H1 ev T) 10 (by kernel_rfl) ?_;clear hbdz;generalize wz.drew=v0 at hH HXb HDb HRG ⊢;refine zK 0 hH ?_;try simp only[Act.put,sL]
 refine zK 1 hH ?_;try simp only[Act.put,sL]
 refine zK 2 hH ?_;try simp only[Act.put,sL]
 refine zK 3 hH ?_;try simp only[Act.put,sL]
 refine zK 4 hH ?_;try simp only[Act.put,sL]
 refine Dl.takeU (i:=5) (v:=.agg T.toArray) rfl (by kernel_rfl) (by kernel_rfl) (by kernel_rfl) (by kernel_rfl) (fun _ _ _ h=>h) (yieldsIf_load_mid (by rfl) 72 _ rfl H1 0 (by rfl) T _ (fun _ h=>h.r0) underlying72 rfl hi72) hH ?_;try simp only[Act.put,sL]
 obtain⟨v1,HV1⟩:=nm_ (v0.alloc (.cells T.toArray 72));have hb1:Below v0.heap.size v0 v1:=by rw[<-HV1.out];exact(Below.refl _ v0).alloc (WzV _) _
 have hr62:=HR72.out v0;obtain⟨gs,HGS⟩:=nm_ v0.heap.size;rw[HGS.out,HV1.out] at hr62;have HX1:=hid (HXb.out.go hb1);have HD1:=hid (HDb.out.k5 (q8 hb1));have HR1:Hid (v1.heap[H1]? = some (.cells T.toArray 72 (0,0))):=hid ((hb1.block _ (lt_of_some HRG.out)).trans HRG.out);have hS1:S14 gc H1 ev T v1:=⟨by rw[cell_of_row _ _ 0 _ _ _ HX1.out.box];rfl,zx HR1.out⟩
 have hrs:v1.rangeAt gs 0 (qW (QQ e at_ (.slice va e.raw.length vc))):=by
  rw[HTT.out,<-HV1.out,<-HGS.out];exact zx (heap_alloc_new _ _)
 obtain⟨ev',v2,hrun,hbx2,hg2,hm2'⟩:=HX1.out.es.app1 gs (QQ e at_ (.slice va e.raw.length vc)) hrs HWF.out.len (by decide) HWF.out.one (by omega) 62 underlying62 zu0 rfl (by decide) 62;have hX9:=HX1.out.app hbx2 hg2 hm2' HWF.out;have hk2:K5 v1 v2:=Uj HX1.out.es.own (by decide) hg2
 have hbx9:v2.heap[gc]? = some (.cells #[ev,.map (some gb),.map (some gi),.map (some gx)] 67 (0,0)):=(hg2.block _ (lt_of_some HX1.out.box) (fun h=>HX1.out.ne0 h.symm)).trans HX1.out.box;have hD9:=HD1.out.k5 (hk2.trans (zvY (i:=0) (x:=ev') hbx9 (by decide)));have hne1:ev.ownBlock ≠ some H1:=fun h=>HLT.out H1 (zJ HX.out.es.own H1 h).2 rfl
 have hR2:v2.heap[H1]? = some (.cells T.toArray 72 (0,0)):=(hg2.block _ (lt_of_some HR1.out) (fun h=>hne1 h.symm)).trans HR1.out;have hgcl:gc<wr.heap.size:=lt_of_some HX.out.box;have hR9:(v2.setCell ⟨gc,0,none⟩ ev').heap[H1]? = some (.cells T.toArray 72 (0,0)):=(heap_setCell_other _ _ _ _ (fun h=>HLT.out gc hgcl h.symm)).trans hR2
 obtain⟨a7,c7,hv7,-,-,-⟩:=Bx.px (d:=dT) hbx2 (fun x hx=>((WqX.1 hx).elim (fun h=>(HX1.out.wf x h).len) (fun h=>by rw[WqJ.1 h];exact HWF.out.len)));obtain⟨l7,HL7⟩:=nm_ ((ts++[QQ e at_ (.slice va e.raw.length vc)]).length);rw[HL7.out] at hv7;subst hv7;have hS2:S14 gc H1 ev T v2:=⟨by rw[cell_of_row _ _ 0 _ _ _ hbx9];rfl,zx hR2⟩
 refine Dl.readyU1 (i:=6) (by kernel_rfl) ?_;refine Dl.consU rfl (fun KK hKK=>?_);refine Dl.step_exec (by rfl) (.slice (some ⟨gs,0,none⟩) 1 1) (w':=v1) (xw 62 1 (.tmp 53) (by rfl) _ _ (by rfl) hr62) ?_;refine hKK.out _ _ (.inr hS1) ?_;clear hKK KK;try simp only[Act.put,sL]
 refine Dl.readyU1 (i:=7) (by kernel_rfl) ?_;refine Dl.consU rfl (fun KK hKK=>?_);refine Dl.step_exec (by rfl) (.slice a7 l7 c7) (w':=v2) (yy (.tmp 52) (.tmp 54) 62 (by rfl) (by rfl) (by rfl) hrun) ?_;refine hKK.out _ _ (.inr hS2) ?_;clear hKK KK;try simp only[Act.put,sL]
 refine G6 8 9 hS2 ?_;try simp only[Act.put,sL]
 refine zK 9 hS2 ?_;try simp only[Act.put,sL]
 refine Dl.readyU1 (i:=10) (by kernel_rfl) ?_;refine Dl.consU rfl (fun KK hKK=>?_);refine step_skip (by rfl) (u_7 62 Ij (.tmp 57) (.tmp 55) (by rfl) ⟨gc,0,none⟩ (.slice a7 l7 c7) ev (by rfl) (by rfl) rfl rfl hS2.c0 (frozen_of_row _ _ 0 _ 67 hbx9)) ?_;refine hKK.out _ _ (.inl rfl) ?_;clear hKK KK;try simp only[Act.put,sL]
 refine Dl.doneU (by kernel_rfl) ?_ _;obtain⟨w9,HW9⟩:=nm_ (v2.setCell ⟨gc,0,none⟩ (.slice a7 l7 c7));rw[HW9.out] at hX9 hR9 hD9 ⊢;have hwfk:(Lit.int .i64 (at_:Int)).wf=true:=WalkArith.wf_i64 ⟨by omega,by omega⟩;obtain⟨w8,hput,hFB,hgr⟩:=hX9.bm.put Ay Cq (by omega) zv8 (LY at_ hwfk) (.int .i64 i);have HX8:=hid (hX9.putB hgr hFB)
 have HD8:=hid (hD9.k5 (P0 hX9.bm hgr));have hgb:gb<wr.heap.size:=HX.out.bm.lt;have HR8:Hid (w8.heap[H1]? = some (.cells T.toArray 72 (0,0))):=hid ((hgr.block _ (lt_of_some hR9) (fun h=>HLT.out gb hgb (Wq9.inj h).symm)).trans hR9);have k24:w8.cell? ⟨H1,24,none⟩=some (.int .i64 ((at_+U:Nat):Int)):=by rw[cell_of_row _ _ 24 _ _ _ HR8.out];simpa using HX24.out
 have k1:w9.cell? ⟨gc,1,none⟩=some (.map (some gb)):=by rw[cell_of_row _ _ 1 _ _ _ hX9.box];rfl
 have HPUT:=hid hput;clear hX9 hD9 hR9 hR2 hbx9 hS2 hS1 hH hrs hrun hr62 hb1 hk2 hbx2 hg2 hm2' hput hFB hgr hne1;go_wp2_with (first
  | (refine wpList_skip rfl (j8 rfl rfl rfl rfl HPUT.out) ?_)
  | fail)
 go_roundg (N-(i+1));case measure=>omega
 case rel =>
 refine⟨i+1,ts++[QQ e at_ (.slice va e.raw.length vc)],_,nb+1,_,_,by go_num,by rw[HSI.out,HA.out,Wqz],rfl,by omega,by rw[Wz6,htl];rfl,by omega,HX8.out,HD8.out,fun j hj=>?_,fun _=>?_⟩
 ·by_cases h1:j<i
  ·rw[zY _ _ _ _ (by omega)];exact HT.out j h1
  obtain rfl:j=ts.length:=by omega
  rw[qu,htl,HE.out,HA.out];exact⟨_,rfl⟩
 by_cases h1:12=at_
 ·have h0:i=0:=by
   rcases Wx0 i with h | h
   ·exact h
   have:=HPS.out i h (by omega);rw[HA.out] at this;omega
  rw[if_pos h1,h0];rfl
 have h0:0<i:=by
  rcases Wx0 i with h | h
  ·subst h;have:=HZ0.out;rw[HA.out] at this;omega
  exact h
 rw[if_neg h1];exact HM.out h0
theorem zu2 {w:World} {B s n E o:Nat} {e:TypeId} {v x:Value} {xs:List Value} (h:w.ownsRow B e s v n xs) (hE:v.ownBlock=some E) (ho:o<xs.length):(w.setCell ⟨E,o,none⟩ x).ownsRow B e s v n (xs.set o x):=by
 obtain⟨hl,⟨hv,h0⟩ | ⟨g,cap,cur,hv,h1,h2,h3,h4,h5,h6⟩⟩:=h
 ·subst hv;cases hE
 subst hv;cases hE
 refine⟨by simpa using hl,.inr ⟨g,cap,cur.setIfInBounds o x,rfl,h1,by simpa using Dl.heap_set w g o x h2,h3,h4,by simpa using h5,?_⟩⟩;rw[Array.toList_setIfInBounds,<-h6,Wvv]
theorem zu3 (xs:List Value) (o:Nat) (x:Value) (vs:List Value) (ho:o<xs.length):(xs.set o x).take (o+1)++vs++(xs.set o x).drop (o+1+vs.length)=xs.take o++(x :: vs)++xs.drop (o+(x :: vs).length):=by
 rw[Wvv,List.take_add_one,List.getElem?_eq_getElem ho];have h1:(xs.take o++(some xs[o]).toList).set o x=xs.take o++[x]:=by
  rw[List.set_append_right _ _ (by rw[Wzz];omega),Wzz,show o-min o xs.length=0 by omega];rfl
 have h2:(xs.set o x).drop (o+1+vs.length)=xs.drop (o+1+vs.length):=List.drop_set_of_lt (by omega);rw[h1,h2,Wz7,show o+(vs.length+1)=o+1+vs.length by omega];simp only[Wz1,List.singleton_append,List.cons_append,List.nil_append]
theorem Cj {B s n E:Nat} {e:TypeId} {v:Value} (hE:v.ownBlock=some E):∀ (vs:List Value) (o:Nat) (w:World) (xs:List Value),w.ownsRow B e s v n xs->o+vs.length<=xs.length->(w.setCells E o vs).ownsRow B e s v n (xs.take o++vs++xs.drop (o+vs.length))
 | [],o,w,xs,h,ho=>by simpa [World.setCells] using h
 | x :: vs,o,w,xs,h,ho=>by
  rw[Wz7] at ho;have:=Cj hE vs (o+1) (w.setCell ⟨E,o,none⟩ x) (xs.set o x) (zu2 h hE (by omega)) (by rw[Wvk];omega);rw[zu3 xs o x vs (by omega)] at this;exact this
theorem kZ {E:Nat} : ∀ (vs:List Value) (o:Nat) (w:World),w.grownBy (w.setCells E o vs) (some E)
 | [],o,w=>⟨rfl,rfl,rfl,WzV _,fun _ _ _=>rfl⟩
 | x :: vs,o,w=>by
  have h1:=E5 w E o x;have h2:=kZ (E:=E) vs (o+1) (w.setCell ⟨E,o,none⟩ x);exact⟨h2.os.trans h1.os,h2.tape.trans h1.tape,h2.output.trans h1.output,Wqx h1.size h2.size,fun k hk hne=>(h2.block k (Wqj hk h1.size) hne).trans (h1.block k hk hne)⟩
theorem zu4 {α:Type} (enc:α->List Value) (k:Nat) (d:α) (l:List α) (hl:∀ x ∈ l,(enc x).length=k) (i:Nat) (hi:i<l.length) (t':α) (j:Nat) (vs:List Value) (hj:j+vs.length<=k) (he:enc t'=(enc (l.getD i d)).take j++vs++(enc (l.getD i d)).drop (j+vs.length)) :
  (l.flatMap enc).take (i*k+j)++vs++(l.flatMap enc).drop (i*k+j+vs.length)=(l.set i t').flatMap enc:=by
 have hd:l=l.take i++(l.getD i d :: l.drop (i+1)):=by
  rw[List.getD_eq_getElem?_getD,List.getElem?_eq_getElem hi];show l=l.take i++(l[i] :: l.drop (i+1));rw[<-List.drop_eq_getElem_cons hi,List.take_append_drop]
 have hs:l.set i t'=l.take i++(t' :: l.drop (i+1)):=by rw[List.set_eq_take_append_cons_drop,if_pos hi]
 have hA:((l.take i).flatMap enc).length=i*k:=by
  rw[LK (l.take i) (fun x hx=>hl x (List.mem_of_mem_take hx)),Wzz];congr 1;omega
 have hX:(enc (l.getD i d)).length=k:=hl _ (zV l i d hi);generalize l.getD i d=x at hd he hX;rw[hs];conv=>lhs;rw[hd]
 simp only[List.flatMap_append,List.flatMap_cons];generalize (l.take i).flatMap enc=A at hA;generalize (l.drop (i+1)).flatMap enc=C;rw[he];have e1:(A++(enc x++C)).take (i*k+j)=A++(enc x).take j:=by
  rw[<-hA,List.take_length_add_append,List.take_append_of_le_length (by omega)]
 have e2:(A++(enc x++C)).drop (i*k+j+vs.length)=(enc x).drop (j+vs.length)++C:=by
  rw[<-hA,Nat.add_assoc,List.drop_length_add_append,List.drop_append_of_le_length (by omega)]
 rw[e1,e2];simp only[Wz1]
section
variable {w0 w w' : World} {G gc gb gi gx : Nat} {ts : List Et} {ev : Value} {nb sb : Nat} {Mb : Nat → Option Value} {ni si : Nat} {Mi : List Int → Option Value} {nx sx : Nat} {Mx : List Int → Option Value}
theorem Ct.at (h:Ct w0 w G gc gb gi gx ts ev nb sb Mb ni si Mi nx sx Mx) (h0:0<ts.length):∃ E cap C,ev=.slice (some ⟨E,0,none⟩) ts.length cap/\ts.length<=cap/\G<=E/\w.heap[E]? = some (.cells C 72 (0,0))/\∀ i,i<ts.length->w.rangeAt E (i*50) (qW (ts.getD i dT)):=by
 obtain⟨a,cap,e1,hP,hlt,hz⟩:=Bx.px (d:=dT) h.es (fun x hx=>(h.wf x hx).len);obtain⟨b,off,e2,e3,e4⟩:=hP.at_ h0;rcases hz with hz | ⟨b',hz⟩
 ·rw[hz] at e2;cases e2
 rw[hz] at e2;cases e2
 subst hz;obtain⟨C,hC⟩:=jx h.es.own (b:=b) (by rw[e1];rfl);refine⟨b,cap,C,e1,hP.capl,(hlt _ rfl).1,hC,fun i hi=>?_⟩;have:=e4 i hi;rwa [Nat.zero_add] at this
theorem Ct.upd (h:Ct w0 w G gc gb gi gx ts ev nb sb Mb ni si Mi nx sx Mx) {E:Nat} (hE:ev.ownBlock=some E) (i:Nat) (hi:i<ts.length) (t':Et) (j:Nat) (vs:List Value) (hj:j+vs.length<=50) (he:qW t'=(qW (ts.getD i dT)).take j++vs++(qW (ts.getD i dT)).drop (j+vs.length)) (hw:Wf t') :
  Ct w0 (w.setCells E (i*50+j) vs) G gc gb gi gx (ts.set i t') ev nb sb Mb ni si Mi nx sx Mx/\∀ t,t ≠ 72->KT t w (w.setCells E (i*50+j) vs):=by
 have hl:∀ x ∈ ts,(qW x).length=50:=fun x hx=>(h.wf x hx).len;have hlen:(ts.flatMap qW).length=ts.length*50:=LK ts hl;have hg:=kZ (E:=E) vs (i*50+j) w;have hlo:=zJ h.es.own E hE;obtain⟨C,hC⟩:=jx h.es.own hE;have hr:∀ b,some E=some b->ev.ownBlock=some b:=fun b e=>by rw[<-e];exact hE
 refine⟨⟨(hg.block _ (lt_of_some h.box) (fun e=>h.ne0 (by rw[hE,e]))).trans h.box,⟨h.es.below.grown hg h.es.le (fun k hk=>by cases hk;exact hlo.1),?_,Wqx h.es.le hg.size⟩,h.bm.by hg (fun b e=>by cases e;exact ZZ h.bm hC),h.im.by hg (fun b e=>by cases e;exact ZZ h.im hC),h.xm.by hg (fun b e=>by cases e;exact ZZ h.xm hC),h.d1,h.d2,h.d3,h.l0,h.l1,h.l2,h.l3,fun t ht=>?_⟩,fun u hu=>G8 hg hC (fun C fr e=>by injection e with e1 e2 e3;exact hu e2.symm)⟩
 ·have:=Cj hE vs (i*50+j) w _ h.es.own (by rw[hlen];have:(i+1)*50<=ts.length*50:=Nat.mul_le_mul_right _ hi;omega);rw[zu4 qW 50 dT ts hl i hi t' j vs hj he] at this;rw[Wvk];exact this
 rcases List.mem_or_eq_of_mem_set ht with h1 | h1
 ·exact h.wf t h1
 rw[h1];exact hw
end
theorem Ek (t:Et) (h:Wf t) (x:Value):qW { t with kn:=true }=(qW t).take 27++[.bool true]++(qW t).drop 28:=by
 obtain⟨a0,a1,a2,a3,a4,a5,a6,a7,a8,a9,a10,a11,a12,a13,a14,a15,a16,a17,a18,a19,e⟩:=Z6 t.e.id h.i1;unfold qW;rw[show ({ t with kn:=true } : Et).e.id=t.e.id from rfl,e];rfl
theorem zu5 (t:Et) (h:Wf t) (k:Nat) (v:Value):qW { t with ok:=k,ov:=v }=(qW t).take 28++[.int .i64 k,v]++(qW t).drop 30:=by
 obtain⟨a0,a1,a2,a3,a4,a5,a6,a7,a8,a9,a10,a11,a12,a13,a14,a15,a16,a17,a18,a19,e⟩:=Z6 t.e.id h.i1;unfold qW;rw[show ({ t with ok:=k,ov:=v } : Et).e.id=t.e.id from rfl,e];rfl
theorem qzJ (t:Et) (h:Wf t) (l:List Int) (hl:l.length=20):qW { t with id:=l }=(qW t).take 30++row .u8 l++(qW t).drop (30+(row .u8 l).length):=by
 obtain⟨a0,a1,a2,a3,a4,a5,a6,a7,a8,a9,a10,a11,a12,a13,a14,a15,a16,a17,a18,a19,e⟩:=Z6 t.e.id h.i1;obtain⟨b0,b1,b2,b3,b4,b5,b6,b7,b8,b9,b10,b11,b12,b13,b14,b15,b16,b17,b18,b19,e2⟩:=Z6 t.id h.i2;have hr:(row .u8 l).length=20:=by rw[zu];exact hl
 rw[hr];unfold qW;rw[show ({ t with id:=l } : Et).e.id=t.e.id from rfl,show ({ t with id:=l } : Et).id=l from rfl,e,e2];show _=_++row .u8 l++[];rw[List.append_nil];rfl
theorem P1 {w:World} {G n:Nat} {v:Value} {l:List Int} (h:w.ownsRow G 5 1 v l.length (l.map (Value.int .u8))) (hl:l.length=n) (h0:0<n) (hb:IsB l):∃ x:Oj,v=slO x/\x.zs=l/\Om n w x:=by
 have hB:Bd w w 0 v l:=⟨Below.refl _ _,qV h (Nat.zero_le _),Nat.zero_le _⟩;obtain⟨a,c,e,hS⟩:=xW hB;obtain⟨b,o,e1,e2,e3⟩:=hS.at_ (by omega);subst e1;exact⟨⟨b,o,c,l⟩,e,rfl,⟨e3,e2,hS.capl,hb,hl⟩⟩
end Go.Proofs.YtiaaekdpfpaigaaGreatDoor.Pk
