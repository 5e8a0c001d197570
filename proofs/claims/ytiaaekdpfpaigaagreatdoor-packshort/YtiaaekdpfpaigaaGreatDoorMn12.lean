import Derived.Test.YtiaaekdpfpaigaaGreatDoorMn11
set_option linter.unusedSimpArgs false
set_option linter.unusedVariables false
set_option maxRecDepth 20000
set_option maxHeartbeats 4000000
open List renaming suffix_refl->Wzk
open Nat renaming add_zero->WzX,lt_succ_of_lt->Wx2
namespace Go.Proofs.YtiaaekdpfpaigaaGreatDoor.Dl
open Go.Proofs.Tryz
open Go.RowKit Go.Maps
section
variable {P : Program} {md : Region.Mode} {ops : Array Oper} {Q : Exit → Act → World → Prop} {S : World → Prop} {n : Nat}
def anyU (P:Program) (md:Region.Mode) (ops:Array Oper) (Q:Exit->Act->World->Prop) (S:World->Prop) (n:Nat):Nat->Array Bool->Act->World->Prop
 | 0,listed,a,w=>Region.ready md ops listed=[]/\Q .normal a w
 | fuel+1,listed,a,w =>
  (Region.ready md ops listed=[]->Q .normal a w)/\
  ∀ i ∈ Region.ready md ops listed,wpOp P ops Q i (fun a' w'=>(i=n ∨ S w')/\anyU P md ops Q S n fuel (listed.setIfInBounds i true) a' w') a w
theorem D4:∀ (fuel:Nat) (listed:Array Bool) (a:Act) (w:World),anyU P md ops Q S n fuel listed a w->wpAny P md ops Q fuel listed a w
 | 0,_,_,_,h=>h
 | fuel+1,_,_,_,h=>⟨h.1,fun i hi=>wpOp_mono (fun a' w' h'=>D4 fuel _ a' w' h'.2) (h.2 i hi)⟩
def waits (md:Region.Mode) (ops:Array Oper) (n i:Nat):Bool:=match ops[n]? with
 | some o=>o.after.any fun e=>Region.binds md e && e.on == i
 | none=>true
theorem zjY {i:Nat} {oi:Oper} {v:Value} (hi:ops[i]? = some oi) (hsel:∀ (j:Nat) (o:Oper) cs b,ops[j]? = some o->o.op ≠ .select cs b) (hn:waits md ops n i=true)
  (hQ:∀ c a w,Q (.panic c) (a.put oi.dst v) w->Q (.panic c) a w) :
  ∀ (fuel:Nat) (listed:Array Bool) (a:Act) (w:World),
   (∀ j oj,ops[j]? = some oj->j ≠ i->listed.getD j true=false->(∀ e ∈ oj.after,Region.binds md e=true->e.on ≠ i)->oi.apart ops oj=true) →
   i ∈ Region.ready md ops listed->YieldsIf P ops S oi v a->S w →
   anyU P md ops Q S n fuel (listed.setIfInBounds i true) (a.put oi.dst v) w->anyU P md ops Q S n (fuel+1) listed a w:=by
 intro fuel;induction fuel with
 | zero =>
  intro listed a w _ hr hy hS H;refine⟨fun h=>(by rw[h] at hr;cases hr),fun j hj=>?_⟩;by_cases hji:j=i
  ·subst hji;exact hy.wpOp hi hS ⟨.inr hS,H⟩
  have:=ready_mono hj hji;rw[H.1] at this;cases this
 | succ fuel ih =>
  intro listed a w hfree hr hy hS H;refine⟨fun h=>(by rw[h] at hr;cases hr),fun j hj=>?_⟩;by_cases hji:j=i
  ·subst hji;exact hy.wpOp hi hS ⟨.inr hS,H⟩
  have h1:=H.2 j (ready_mono hj hji);obtain⟨hjun,oj,hoj,hall⟩:=mem_ready.1 hj;have hnot:∀ e ∈ oj.after,Region.binds md e=true->e.on ≠ i:=fun e he hb heq=>by
   have g1:=hall e he hb;have g0:=(mem_ready.1 hr).1;rw[heq] at g1;rcases Nat.lt_or_ge i listed.size with h' | h'
   ·simp[h'] at g0 g1;rw[g0] at g1;cases g1
   simp[Array.getElem?_eq_none h'] at g1
  have hjn:j ≠ n:=fun e=>by
   subst e;unfold waits at hn;rw[hoj] at hn;simp only[Array.any_eq_true] at hn;obtain⟨k,hk,hk2⟩:=hn;simp only[Bool.and_eq_true,beq_iff_eq] at hk2;exact hnot _ (Array.getElem_mem hk) hk2.1 hk2.2
  have h2:=wpOp_putIf hoj (hfree j oj hoj hji hjun hnot) (fun cs b=>hsel i oi cs b hi) (fun cs b=>hsel j oj cs b hoj) hQ hy h1;have hfree':∀ k ok,ops[k]? = some ok->k ≠ i->(listed.setIfInBounds j true).getD k true=false →
    (∀ e ∈ ok.after,Region.binds md e=true->e.on ≠ i)->oi.apart ops ok=true:=fun k ok hk hki hun hno=>by
   refine hfree k ok hk hki ?_ hno
   by_cases hjk:j=k
   ·subst hjk;exact hjun
   ·rw[getD_set_ne true hjk] at hun;exact hun
  refine wpOp_mono (fun a' w' h3=>⟨h3.2.1,?_⟩) h2;have hS':S w':=h3.2.1.resolve_left hjn;refine ih (listed.setIfInBounds j true) a' w' hfree' (ready_mono hr (Ne.symm hji)) h3.1 hS' ?_;rw[Array.setIfInBounds_comm _ _ hji];exact h3.2.2
end
theorem takeU {P:Program} {md:Region.Mode} {Q:Exit->Act->World->Prop} {S:World->Prop} {n:Nat} {l:List Oper} {i:Nat} {oi:Oper} {v:Value} {fuel:Nat} {listed:Array Bool} {a:Act} {w:World} (hi:l[i]? = some oi)
  (hs:Region.noSelect l.toArray=true) (hf:Region.free md l.toArray listed i=true) (hr:(Region.ready md l.toArray listed).contains i=true) (hn:waits md l.toArray n i=true)
  (hQ:∀ c a w,Q (.panic c) (a.put oi.dst v) w->Q (.panic c) a w) (hy:YieldsIf P l.toArray S oi v a) (hS:S w)
  (h:anyU P md l.toArray Q S n fuel (listed.setIfInBounds i true) (a.put oi.dst v) w):anyU P md l.toArray Q S n (fuel+1) listed a w:=by
 have hi':l.toArray[i]? = some oi:=by rw[List.getElem?_toArray];exact hi
 exact zjY hi' (Region.noSelect_spec hs) hn hQ fuel listed a w (Region.free_spec hi' hf) (by simpa using hr) hy hS h
def oneU (P:Program) (md:Region.Mode) (ops:Array Oper) (Q:Exit->Act->World->Prop) (S:World->Prop) (n fuel:Nat) (listed:Array Bool) (a:Act) (w:World) (i:Nat):Prop :=
 wpOp P ops Q i (fun a' w'=>(i=n ∨ S w')/\anyU P md ops Q S n fuel (listed.setIfInBounds i true) a' w') a w
theorem readyU1 {P:Program} {md:Region.Mode} {Q:Exit->Act->World->Prop} {S:World->Prop} {n i fuel:Nat} {ops:Array Oper} {listed:Array Bool} {a:Act} {w:World} (hr:Region.ready md ops listed=[i])
  (h:oneU P md ops Q S n fuel listed a w i):anyU P md ops Q S n (fuel+1) listed a w :=
 ⟨fun h0=>(by rw[hr] at h0;cases h0),fun j hj=>by rw[hr] at hj;obtain rfl:=List.mem_singleton.1 hj;exact h⟩
theorem consU {P:Program} {md:Region.Mode} {Q:Exit->Act->World->Prop} {S:World->Prop} {n:Nat} {l:List Oper} {fuel:Nat} {listed:Array Bool} {a:Act} {w:World} {i:Nat} {o:Oper} (ho:l[i]? = some o)
  (h:∀ K':Act->World->Prop,Shut (∀ a w,(i=n ∨ S w)->anyU P md l.toArray Q S n fuel (listed.setIfInBounds i true) a w->K' a w)->if Region.wanted o (yielded l.toArray a.tmps)=true then Oper.wp P o a w K' Q else K' (a.put o.dst undef) w) :
  oneU P md l.toArray Q S n fuel listed a w i:=by
 have ho':l.toArray[i]? = some o:=by rw[List.getElem?_toArray];exact ho
 exact wpOp_step ho' (fun K' hK=>h K' (fun a w hS hW=>hK a w ⟨hS,hW⟩))
theorem doneU {P:Program} {md:Region.Mode} {Q:Exit->Act->World->Prop} {S:World->Prop} {n:Nat} {ops:Array Oper} {listed:Array Bool} {a:Act} {w:World} (hr:Region.ready md ops listed=[]) (h:Q .normal a w) :
  ∀ fuel,anyU P md ops Q S n fuel listed a w
 | 0=>⟨hr,h⟩
 | _+1=>⟨fun _=>h,by rw[hr];simp⟩
theorem region_U {P:Program} {Q:Exit->Act->World->Prop} {id:Nat} {a:Act} {w:World} {ops:Array Oper} (S:World->Prop) (n:Nat) (hm:P.follows .mixedOrders=true)
  (h:anyU P .any ops Q S n ops.size (Array.replicate ops.size false) a w.drew):(Code.region id ops true).wp P Q a w :=
 wp_region_any hm (D4 _ _ _ _ h)
def Fn.app (F:Fn) (l:Nat) (s:Option Nat) (e:Nat):Fn:={ F with N:=F.N+1,lon:=upd F.lon F.N l,sh:=upd F.sh F.N s,en:=upd F.en F.N e,hd:=upd F.hd F.N 0 }
def Fn.link (F:Fn) (a:Nat) (s:Option Nat):Fn:={ F with sh:=upd F.sh a s }
theorem Gr.app {F:Fn} (h:Gr F) (l:Nat) (s:Option Nat) (e:Nat):Gr (F.app l s e):=by
 refine⟨h.K1,h.g1,fun e' h0 he=>?_,h.g3,fun s' hs'=>?_,h.g5⟩
 ·obtain⟨h1,h2,h3,h4⟩:=h.g2 e' h0 he;exact⟨Wx2 h1,h2,Wx2 h3,h4⟩
 show upd F.hd F.N 0 s'<F.K/\(upd F.hd F.N 0 s' ≠ 0->F.src (upd F.hd F.N 0 s')=s')/\∀ e',upd F.hd F.N 0 s'<e'->e'<F.K->F.src e' ≠ s';by_cases hq:s'=F.N
 ·rw[hq,upd_same];exact⟨h.K1,fun hn=>absurd rfl hn,fun e' a b=>by have:=(h.g2 e' a b).1;omega⟩
 rw[upd_ne _ _ hq];have hs'':s'<F.N+1:=hs';exact h.g4 s' (by omega)
theorem Gr.link {F:Fn} (h:Gr F) (a:Nat) (s:Option Nat):Gr (F.link a s):=⟨h.K1,h.g1,h.g2,h.g3,h.g4,h.g5⟩
section
variable {B g : Nat} {w : World} {F : Fn}
theorem Rep.app (h:Rep B w g F) {wx w1:World} {l e:Nat} {s:Option Nat} (hx:w.grownBy wx none) (hg:wx.grownBy w1 (some F.sb))
  (ho:w1.ownsRow B 198 4 (.slice (some ⟨F.sb,0,none⟩) (F.N+1:Nat) F.cs) (F.N+1) (uk F.stv F.N 4++[.int .i32 l,.int .i32 (shI s),.int .i32 e,.int .i32 0])) :
  Rep B (w1.setCell ⟨g,0,none⟩ (.slice (some ⟨F.sb,0,none⟩) (F.N+1:Nat) F.cs)) g (F.app l s e)/\Below B w (w1.setCell ⟨g,0,none⟩ (.slice (some ⟨F.sb,0,none⟩) (F.N+1:Nat) F.cs))/\
   w1.cell? ⟨g,0,none⟩=w.cell? ⟨g,0,none⟩/\(∀ s k,s<F.N->k<4->w1.cell? ⟨F.sb,s*4+k,none⟩=some (F.stv s k))/\w1.frozen? ⟨g,0,none⟩=false:=by
 obtain⟨a1,a2,a3,a4,a5,a6⟩:=h.ap;have hs1:=hx.size;have hs2:=hg.size;have blk:∀ k,k<w.heap.size->k ≠ F.sb->w1.heap[k]? = w.heap[k]? := fun k hk hne=>(hg.block k (by omega) (by simpa using hne)).trans (hx.block k hk (by simp));have hstv:∀ s' k,s'<F.N->(F.app l s e).stv s' k=F.stv s' k:=fun s' k hs'=>by
  simp only[Fn.stv,Fn.app,upd,show ¬ s'=F.N by omega,if_false]
 have hrow:uk (F.app l s e).stv (F.N+1) 4=uk F.stv F.N 4++[.int .i32 l,.int .i32 (shI s),.int .i32 e,.int .i32 0]:=by
  rw[NW _ _ _ (by omega)];congr 1
  ·unfold uk;refine List.map_congr_left fun i hi=>?_;have hi':=List.mem_range.1 hi;exact hstv _ _ ((Nat.div_lt_iff_lt_mul (by omega)).2 hi')
  simp[Fn.stv,Fn.app,upd,List.range_succ]
 rw[<-hrow] at ho;obtain⟨sb,hsb,hBe,hr⟩:=Row.of_owns (v:=.nilIface) (by omega) ho;simp only[Option.some.injEq,Addr.mk.injEq,and_true] at hsb;subst hsb;have e1:=blk g h.glt a1;have e2:=blk F.eb h.ed.lt (Ne.symm a4);have e3:=blk F.mb h.mp.lt (Ne.symm a5);have f1:∀ (v:Value) k,k ≠ g->(w1.setCell ⟨g,0,none⟩ v).heap[k]? = w1.heap[k]? := fun v k hk=>Below.heap_setCell w1 _ v k hk
 refine⟨⟨?_,?_,?_,?_,h.Bg,h.Bs,h.Be,h.Bm,h.csl,h.mnl⟩,⟨?_,?_,?_,?_,?_⟩,World.cell?_of_block (a:=⟨g,0,none⟩) e1,fun s' k hs' hk=>?_,(World.frozen?_of_block (a:=⟨g,0,none⟩) e1).trans (h.fz 0)⟩
 ·rw[heap_set w1 g 0 _ (e1.trans h.fin)];simp[Fn.obj,Fn.app]
 ·exact hr.kept (f1 _ _ (Ne.symm a1))
 ·exact h.ed.kept ((f1 _ _ (Ne.symm a2)).trans e2)
 ·exact h.mp.kept ((f1 _ _ (Ne.symm a3)).trans e3)
 ·exact hg.os.trans hx.os
 ·exact hg.tape.trans hx.tape
 ·exact hg.output.trans hx.output
 ·simp[World.setCell];omega
 ·intro k hk;have:=h.Bg;have:=h.Bs;have:=h.glt;exact(f1 _ _ (by omega)).trans (blk k (by omega) (by omega))
 rw[hr.cell (by omega) hk,hstv s' k hs']
theorem Rep.link (h:Rep B w g F) {a:Nat} (s:Option Nat) (ha:a<F.N):Rep B (w.setCell ⟨F.sb,a*4+1,none⟩ (.int .i32 (shI s))) g (F.link a s)/\Below B w (w.setCell ⟨F.sb,a*4+1,none⟩ (.int .i32 (shI s))):=by
 obtain⟨a1,a2,a3,a4,a5,a6⟩:=h.ap;have f1:∀ k,k ≠ F.sb->(w.setCell ⟨F.sb,a*4+1,none⟩ (.int .i32 (shI s))).heap[k]? = w.heap[k]? := fun k hk=>Below.heap_setCell w _ _ k hk
 refine⟨⟨(f1 g a1).trans h.fin,(h.st.set ha (by omega) _).congr (fun s' k' hs' hk'=>?_),h.ed.kept (f1 _ (Ne.symm a4)),h.mp.kept (f1 _ (Ne.symm a5)),h.Bg,h.Bs,h.Be,h.Bm,h.csl,h.mnl⟩,(Below.refl _ _).setCell h.Bs _⟩;by_cases hq:s'=a/\k'=1
 ·obtain⟨rfl,rfl⟩:=hq;simp[Fn.stv,Fn.link,upd]
 rw[if_neg hq];have hk:k'=0 ∨ k'=1 ∨ k'=2 ∨ k'=3:=by omega
 rcases hk with rfl | rfl | rfl | rfl
 ·rfl
 ·have hne:s' ≠ a:=fun e=>hq ⟨e,rfl⟩;simp[Fn.stv,Fn.link,upd,hne]
 ·rfl
 rfl
end
theorem new4 (w:World) (a b c d:Value) (t:TypeId):∀ j u,[a,b,c,d][j]? = some u->(w.alloc (.cells #[a,b,c,d] t)).cell? ((⟨w.heap.size,0,none⟩:Addr).add j)=some u:=by
 intro j u hj;rw[addr_add,Nat.zero_add];have hh:(w.alloc (.cells #[a,b,c,d] t)).heap[w.heap.size]? = some (.cells #[a,b,c,d] t):=by
  show (w.heap.push _)[w.heap.size]? = _;simp
 simp only[World.cell?,hh];simpa using hj
theorem U6 {P:Program} (w:World) {ops:Array Oper} {o:Oper} {a:Act} {K:Act->World->Prop} {Q:Exit->Act->World->Prop} {E:Prop} (hgd:o.guard=none) (s x:Operand) (t:TypeId)
  (ho:o.op=.call { callee:=.builtin .append,args:=#[s,x],argTypes:=#[t,t] })
  (base:Nat) (e:TypeId) (i:TypeInfo) (size:Nat) (h1:P.underlying t=some (.slice e)) (h2:P.info? e=some i) (h4:i.size=size)
  (g k cap:Nat) (xs:List Value) (hs:a.eval s=.slice (some ⟨g,0,none⟩) k cap) (hown:w.ownsRow base e size (.slice (some ⟨g,0,none⟩) k cap) k xs) (ad:Addr) (m c:Nat) (news:List Value) (hx:a.eval x=.slice (some ad) m c) (hn:news.length=m*size)
  (hc:∀ j u,news[j]? = some u->w.cell? (ad.add j)=some u) (h1c:∀ u ∈ news,u.oneCell'=true) (b1:k+m<=cap)
  (h:∀ w',w'.ownsRow base e size (.slice (some ⟨g,0,none⟩) (k+m:Nat) cap) (k+m) (xs++news)->w.grownBy w' (some g)->K (a.put o.dst (.slice (some ⟨g,0,none⟩) (k+m:Nat) cap)) w') :
  if Region.wanted o (yielded ops a.tmps)=true then Oper.wp P o a w K Q else E:=by
 have hw:Region.wanted o (yielded ops a.tmps)=true:=by simp[Region.wanted,hgd]
 rw[if_pos hw];obtain⟨w',hrun,r1,r2⟩:=run_append_fits (P:=P) w base t o.type e i size h1 h2 h4 g k cap xs hown ad m c news hn hc h1c b1;unfold Oper.wp execOp;simp only[ho,resolve,invoke,builtin,Sem.run_bind,Sem.run_pure,Result.andThen_ok,List.map_toArray,List.map_cons,List.map_nil,hs,hx,hrun];exact h w' r1 r2
theorem NY {P:Program} {id:Nat} {Q:Exit->Act->World->Prop} {a:Act} {w:World} {l:List Oper} (n:Nat) (hm:P.follows .mixedOrders=true) (hB:Region.lexTailB .any l.toArray n=true)
  (h:wpStill P l.toArray w.drew (fun a'=>wpList P l.toArray Q (l.drop n) a' w.drew) (l.take n) a):(Code.region id l.toArray true).wp P Q a w:=wp_region_still_tail n hm hB h
theorem Wj {P:Program} {ops:Array Oper} {w:World} {Q:Act->Prop} {a:Act} {o:Oper} {rest:List Oper} (hg:o.guard=none) (h:∀ K:Act->Prop,(∀ a,wpStill P ops w Q rest a->K a)->o.still P a w K):wpStill P ops w Q (o :: rest) a:=by
 unfold wpStill;rw[if_pos (by simp[Region.wanted,hg])];exact h _ (fun _ h=>h)
theorem RX (v1 v2 v3:Value) (w:World):(callFunc 102 #[v1,v2,v3]).run prog w=.ok (.enter 102 #[v1,v2,v3]) w:=by kernel_rfl
def Fn.cl (F:Fn) (p to:Nat):Fn:=(F.app (F.lon p+1) (F.sh to) (F.en to)).link to (some F.N)
set_option maxRecDepth 10000 in
theorem OJ {B g:Nat} {F:Fn} (p x to:Nat) (hx:x<256) (w:World) (hR:Rep B w g F) (hG:Gr F) (hp:p<F.N) (hm:F.m p x ≠ 0) (hto:F.to (F.m p x)=to) (hto0:to ≠ 0) (hlp:F.lon p<=1000000) (hfit:F.N+1<=F.cs)
  (hch:∀ q p,q<F.N->F.sh q=some p->p<F.N/\F.lon p<F.lon q) (hle:F.lon p+1<=F.lon to) (hlt:F.lon to<=1000000) (hlk:∀ r,F.sh to=some r->F.lon r<F.lon p+1) :
  Calls prog 114 #[.pointer (some ⟨g,0,none⟩),.int .i32 p,.int .u8 x] w fun e w'=>Below B w w'/\
   ((F.lon to=F.lon p+1/\e=.returned (.int .i32 to)/\Rep B w' g F) ∨
   (F.lon to ≠ F.lon p+1/\e=.returned (.int .i32 F.N)/\∃ F2 F',Qw (F.cl p to) F2 F.N to 0/\j6 x to F.N (some p) F2 F'/\Rep B w' g F')):=by
 obtain⟨i,hi,hz0,hz1,hz2⟩:=info_parts info198;have htN:to<F.N:=by rw[<-hto];exact(hG.g2 _ (by omega) (hG.g1 _ _ hm).1).2.2.1
 have hKb:F.K<=100000000:=by have:=hG.bound;have:=hR.st.le;have:=hR.csl;omega
 have heK:=(hG.g1 _ _ hm).1;have HR:Hid _:=hR;have HG:Hid _:=hG;have HCH:Hid _:=hch;have HLK:Hid _:=hlk;obtain⟨e,HE⟩:=nn_ (F.m p x);obtain⟨N,HN⟩:∃ N,Hid (N=F.N):=⟨_,rfl⟩;obtain⟨K,HK⟩:∃ K,Hid (K=F.K):=⟨_,rfl⟩;obtain⟨lp,HLP⟩:=nn_ (F.lon p);obtain⟨lt,HLT⟩:=nn_ (F.lon to)
 have EE:Hid (∀ w',Rep B w' g F->_):=fun w' (h:Rep B w' g F)=>Vz p x (by have:=h.st.le;have:=h.csl;omega) hx w' h;rw[<-HE.out] at EE heK;have c0:=hR.c0;have c1:=hR.c1;have ce:=hR.ed.cell heK (show 0<3 by omega);rw[WzX,show F.edv e 0=.int .i32 to by rw[HE.out,<-hto];rfl] at ce;have cp:=hR.st.cell hp (show 0<4 by omega)
 rw[WzX,show F.stv p 0=.int .i32 lp by rw[HLP.out];rfl] at cp;have ct:=hR.st.cell htN (show 0<4 by omega);rw[WzX,show F.stv to 0=.int .i32 lt by rw[HLT.out];rfl] at ct;have hNl:F.N<=300000:=by have:=hR.st.le;have:=hR.csl;omega
 rw[<-HN.out] at c0 hp htN hNl hfit;rw[<-HK.out] at c1 heK hKb;rw[<-HLP.out] at hlp hle;rw[<-HLT.out] at hle hlt;clear hR hG hch hlk hm hto;go_enter func114,ntmps114;go_wp2_with fail
 refine wp_region_held_drew (S:=fun w'=>w'.cell? ⟨g,1,none⟩=some (.slice (some ⟨F.eb,0,none⟩) K F.ce)/\w'.cell? ⟨F.eb,e*3,none⟩=some (.int .i32 to)) (by kernel_rfl) ⟨c1,ce⟩ (fun hHeld=>?_);refine tZ (i:=0) hHeld ?_;try simp only[Act.put,sL]
 refine tZ (i:=1) hHeld ?_;try simp only[Act.put,sL]
 refine tZ (i:=2) hHeld ?_;try simp only[Act.put,sL]
 refine tZ (i:=3) hHeld ?_;try simp only[Act.put,sL]
 refine tZ (i:=4) hHeld ?_;try simp only[Act.put,sL]
 refine tZ (i:=5) hHeld ?_;try simp only[Act.put,sL]
 refine tZ (i:=6) hHeld ?_;try simp only[Act.put,sL]
 refine wpAnyH_ready (rs:=[7]) (by kernel_rfl) (by simp) ?_;refine consL rfl (fun KK hKK=>?_) AllReadyH.nil;refine uV (by rfl) 102 [.tmp 15,.tmp 16,.tmp 17] _ [.pointer (some ⟨g,0,none⟩),.int .i32 p,.int .u8 x] _ (by rfl) (by rfl) (RX _ _ _) (EE.out _ (HR.out.drewN 1)) ?_;rintro ev w1 ⟨rfl,nq,rfl⟩;refine⟨_,rfl,?_⟩
 have hHeld2:(w.drew.drewN nq).cell? ⟨g,1,none⟩=some (.slice (some ⟨F.eb,0,none⟩) K F.ce)/\(w.drew.drewN nq).cell? ⟨F.eb,e*3,none⟩=some (.int .i32 to):=⟨c1,ce⟩;refine hKK.out _ _ hHeld2 (fun _=>?_);clear hKK KK;try simp only[Act.put,sL]
 refine tZ (i:=8) hHeld2 ?_;try simp only[Act.put,sL]
 refine tZ (i:=9) hHeld2 ?_;try simp only[Act.put,sL]
 refine tZ (i:=10) hHeld2 ?_;try simp only[Act.put,sL]
 refine tZ (i:=11) hHeld2 ?_;try simp only[Act.put,sL]
 refine wpAnyH_done (by kernel_rfl) ?_ _;have HRA:Hid (Rep B (w.drew.drewN nq) g F):=(HR.out.drewN 1).drewN nq;have HBA:Hid (Below B w (w.drew.drewN nq)):=below_drewN (below_drewN (Below.refl _ _) 1) nq;have c0:(w.drew.drewN nq).cell? ⟨g,0,none⟩=some (.slice (some ⟨F.sb,0,none⟩) N F.cs):=c0;have cp:(w.drew.drewN nq).cell? ⟨F.sb,p*4,none⟩=some (.int .i32 lp):=cp
 have ct:(w.drew.drewN nq).cell? ⟨F.sb,to*4,none⟩=some (.int .i32 lt):=ct;clear hHeld hHeld2;obtain⟨wA,HWA⟩:=nm_ (w.drew.drewN nq);rw[HWA.out] at HRA HBA c0 cp ct ⊢;clear HWA;by_cases hs:lt=lp+1
 ·have hsI:(lt:Int)=(lp:Int)+1:=by omega
  go_wp2_with fail
  go_ret;exact⟨HBA.out,.inl ⟨by rw[<-HLT.out,<-HLP.out];exact hs,rfl,HRA.out⟩⟩
 have hsI:¬ (lt:Int)=(lp:Int)+1:=by omega
 go_wp2_with fail
 obtain⟨so,HSO⟩:=nn_ (F.sh to);obtain⟨et,HET⟩:=nn_ (F.en to);have htN':to<F.N:=by rw[<-HN.out];exact htN
 have cts:=HRA.out.st.cell htN' (show 1<4 by omega);rw[show F.stv to 1=.int .i32 (shI so) by rw[HSO.out];rfl] at cts;have cte:=HRA.out.st.cell htN' (show 2<4 by omega);rw[show F.stv to 2=.int .i32 et by rw[HET.out];rfl] at cte
 have HOW:Hid (wA.drew.ownsRow B 198 4 (.slice (some ⟨F.sb,0,none⟩) N F.cs) N (uk F.stv N 4)):=by rw[HN.out];exact HRA.out.st.owns (show 0<4 by omega) HRA.out.Bs
 have hS0:wA.drew.cell? ⟨g,0,none⟩=some (.slice (some ⟨F.sb,0,none⟩) N F.cs)/\wA.drew.cell? ⟨F.sb,to*4+1,none⟩=some (.int .i32 (shI so))/\wA.drew.cell? ⟨F.sb,to*4+2,none⟩=some (.int .i32 et):=⟨c0,cts,cte⟩
 refine region_U (fun w'=>w'.cell? ⟨g,0,none⟩=some (.slice (some ⟨F.sb,0,none⟩) N F.cs)/\w'.cell? ⟨F.sb,to*4+1,none⟩=some (.int .i32 (shI so))/\w'.cell? ⟨F.sb,to*4+2,none⟩=some (.int .i32 et)) 27 (by kernel_rfl) ?_;refine takeU (i:=0) (v:=?_) rfl (by kernel_rfl) (by kernel_rfl) (by kernel_rfl) (by kernel_rfl) (fun _ _ _ h=>h) (Or.inl ⟨by rfl,?_⟩) hS0 ?_;rotate_left
 ·rintro w' ⟨s0,s1,s2⟩;go_simp;rfl
 try simp only[Act.put,sL]
 refine takeU (i:=1) (v:=?_) rfl (by kernel_rfl) (by kernel_rfl) (by kernel_rfl) (by kernel_rfl) (fun _ _ _ h=>h) (Or.inl ⟨by rfl,?_⟩) hS0 ?_;rotate_left
 ·rintro w' ⟨s0,s1,s2⟩;go_simp;rfl
 try simp only[Act.put,sL]
 refine takeU (i:=2) (v:=?_) rfl (by kernel_rfl) (by kernel_rfl) (by kernel_rfl) (by kernel_rfl) (fun _ _ _ h=>h) (Or.inl ⟨by rfl,?_⟩) hS0 ?_;rotate_left
 ·rintro w' ⟨s0,s1,s2⟩;go_simp;rfl
 try simp only[Act.put,sL]
 refine takeU (i:=3) (v:=?_) rfl (by kernel_rfl) (by kernel_rfl) (by kernel_rfl) (by kernel_rfl) (fun _ _ _ h=>h) (Or.inl ⟨by rfl,?_⟩) hS0 ?_;rotate_left
 ·rintro w' ⟨s0,s1,s2⟩;go_simp;rfl
 try simp only[Act.put,sL]
 refine takeU (i:=4) (v:=?_) rfl (by kernel_rfl) (by kernel_rfl) (by kernel_rfl) (by kernel_rfl) (fun _ _ _ h=>h) (Or.inl ⟨by rfl,?_⟩) hS0 ?_;rotate_left
 ·rintro w' ⟨s0,s1,s2⟩;go_simp;rfl
 try simp only[Act.put,sL]
 refine takeU (i:=5) (v:=?_) rfl (by kernel_rfl) (by kernel_rfl) (by kernel_rfl) (by kernel_rfl) (fun _ _ _ h=>h) (Or.inl ⟨by rfl,?_⟩) hS0 ?_;rotate_left
 ·rintro w' ⟨s0,s1,s2⟩;go_simp;rfl
 try simp only[Act.put,sL]
 refine takeU (i:=6) (v:=?_) rfl (by kernel_rfl) (by kernel_rfl) (by kernel_rfl) (by kernel_rfl) (fun _ _ _ h=>h) (Or.inl ⟨by rfl,?_⟩) hS0 ?_;rotate_left
 ·rintro w' ⟨s0,s1,s2⟩;go_simp;rfl
 try simp only[Act.put,sL]
 refine takeU (i:=7) (v:=?_) rfl (by kernel_rfl) (by kernel_rfl) (by kernel_rfl) (by kernel_rfl) (fun _ _ _ h=>h) (Or.inl ⟨by rfl,?_⟩) hS0 ?_;rotate_left
 ·rintro w' ⟨s0,s1,s2⟩;go_simp;rfl
 try simp only[Act.put,sL]
 refine takeU (i:=8) (v:=?_) rfl (by kernel_rfl) (by kernel_rfl) (by kernel_rfl) (by kernel_rfl) (fun _ _ _ h=>h) (Or.inl ⟨by rfl,?_⟩) hS0 ?_;rotate_left
 ·rintro w' ⟨s0,s1,s2⟩;go_simp;rfl
 try simp only[Act.put,sL]
 refine takeU (i:=9) (v:=?_) rfl (by kernel_rfl) (by kernel_rfl) (by kernel_rfl) (by kernel_rfl) (fun _ _ _ h=>h) (Or.inl ⟨by rfl,?_⟩) hS0 ?_;rotate_left
 ·rintro w' ⟨s0,s1,s2⟩;go_simp;rfl
 try simp only[Act.put,sL]
 refine takeU (i:=10) (v:=?_) rfl (by kernel_rfl) (by kernel_rfl) (by kernel_rfl) (by kernel_rfl) (fun _ _ _ h=>h) (Or.inl ⟨by rfl,?_⟩) hS0 ?_;rotate_left
 ·rintro w' ⟨s0,s1,s2⟩;go_simp;rfl
 try simp only[Act.put,sL]
 refine takeU (i:=11) (v:=?_) rfl (by kernel_rfl) (by kernel_rfl) (by kernel_rfl) (by kernel_rfl) (fun _ _ _ h=>h) (Or.inl ⟨by rfl,?_⟩) hS0 ?_;rotate_left
 ·rintro w' ⟨s0,s1,s2⟩;go_simp;rfl
 try simp only[Act.put,sL]
 refine takeU (i:=12) (v:=?_) rfl (by kernel_rfl) (by kernel_rfl) (by kernel_rfl) (by kernel_rfl) (fun _ _ _ h=>h) (Or.inl ⟨by rfl,?_⟩) hS0 ?_;rotate_left
 ·rintro w' ⟨s0,s1,s2⟩;go_simp;rfl
 try simp only[Act.put,sL]
 refine takeU (i:=13) (v:=?_) rfl (by kernel_rfl) (by kernel_rfl) (by kernel_rfl) (by kernel_rfl) (fun _ _ _ h=>h) (Or.inl ⟨by rfl,?_⟩) hS0 ?_;rotate_left
 ·rintro w' ⟨s0,s1,s2⟩;go_simp;rfl
 try simp only[Act.put,sL]
 refine takeU (i:=14) (v:=?_) rfl (by kernel_rfl) (by kernel_rfl) (by kernel_rfl) (by kernel_rfl) (fun _ _ _ h=>h) (Or.inl ⟨by rfl,?_⟩) hS0 ?_;rotate_left
 ·rintro w' ⟨s0,s1,s2⟩;go_simp;rfl
 try simp only[Act.put,sL]
 refine takeU (i:=15) (v:=?_) rfl (by kernel_rfl) (by kernel_rfl) (by kernel_rfl) (by kernel_rfl) (fun _ _ _ h=>h) (Or.inl ⟨by rfl,?_⟩) hS0 ?_;rotate_left
 ·rintro w' ⟨s0,s1,s2⟩;go_simp;rfl
 try simp only[Act.put,sL]
 refine takeU (i:=16) (v:=?_) rfl (by kernel_rfl) (by kernel_rfl) (by kernel_rfl) (by kernel_rfl) (fun _ _ _ h=>h) (Or.inl ⟨by rfl,?_⟩) hS0 ?_;rotate_left
 ·rintro w' ⟨s0,s1,s2⟩;go_simp;rfl
 try simp only[Act.put,sL]
 refine takeU (i:=17) (v:=?_) rfl (by kernel_rfl) (by kernel_rfl) (by kernel_rfl) (by kernel_rfl) (fun _ _ _ h=>h) (Or.inl ⟨by rfl,?_⟩) hS0 ?_;rotate_left
 ·rintro w' ⟨s0,s1,s2⟩;go_simp;rfl
 try simp only[Act.put,sL]
 refine takeU (i:=18) (v:=?_) rfl (by kernel_rfl) (by kernel_rfl) (by kernel_rfl) (by kernel_rfl) (fun _ _ _ h=>h) (Or.inl ⟨by rfl,?_⟩) hS0 ?_;rotate_left
 ·rintro w' ⟨s0,s1,s2⟩;go_simp;rfl
 try simp only[Act.put,sL]
 refine takeU (i:=19) (v:=?_) rfl (by kernel_rfl) (by kernel_rfl) (by kernel_rfl) (by kernel_rfl) (fun _ _ _ h=>h) (Or.inl ⟨by rfl,?_⟩) hS0 ?_;rotate_left
 ·rintro w' ⟨s0,s1,s2⟩;go_simp;rfl
 try simp only[Act.put,sL]
 refine takeU (i:=20) (v:=?_) rfl (by kernel_rfl) (by kernel_rfl) (by kernel_rfl) (by kernel_rfl) (fun _ _ _ h=>h) (Or.inl ⟨by rfl,?_⟩) hS0 ?_;rotate_left
 ·rintro w' ⟨s0,s1,s2⟩;go_simp;rfl
 try simp only[Act.put,sL]
 refine takeU (i:=21) (v:=?_) rfl (by kernel_rfl) (by kernel_rfl) (by kernel_rfl) (by kernel_rfl) (fun _ _ _ h=>h) (Or.inl ⟨by rfl,?_⟩) hS0 ?_;rotate_left
 ·rintro w' ⟨s0,s1,s2⟩;go_simp;rfl
 try simp only[Act.put,sL]
 refine takeU (i:=22) (v:=?_) rfl (by kernel_rfl) (by kernel_rfl) (by kernel_rfl) (by kernel_rfl) (fun _ _ _ h=>h) (Or.inl ⟨by rfl,?_⟩) hS0 ?_;rotate_left
 ·rintro w' ⟨s0,s1,s2⟩;go_simp;rfl
 try simp only[Act.put,sL]
 have HX:Hid (wA.grownBy (wA.drew.alloc (.cells #[.int .i32 ((lp:Int)+1),.int .i32 (shI so),.int .i32 et,.int .i32 0] 198)) none):=⟨rfl,rfl,rfl,(World.grownBy_alloc wA.drew _ none).size,(World.grownBy_alloc wA.drew _ none).block⟩
 have hSx:(wA.drew.alloc (.cells #[.int .i32 ((lp:Int)+1),.int .i32 (shI so),.int .i32 et,.int .i32 0] 198)).cell? ⟨g,0,none⟩=some (.slice (some ⟨F.sb,0,none⟩) N F.cs)/\(wA.drew.alloc (.cells #[.int .i32 ((lp:Int)+1),.int .i32 (shI so),.int .i32 et,.int .i32 0] 198)).cell? ⟨F.sb,to*4+1,none⟩=some (.int .i32 (shI so))/\(wA.drew.alloc (.cells #[.int .i32 ((lp:Int)+1),.int .i32 (shI so),.int .i32 et,.int .i32 0] 198)).cell? ⟨F.sb,to*4+2,none⟩=some (.int .i32 et) :=
  ⟨(World.cell?_alloc_some _ _ _ (by rw[hS0.1];rfl)).trans hS0.1,(World.cell?_alloc_some _ _ _ (by rw[hS0.2.1];rfl)).trans hS0.2.1,(World.cell?_alloc_some _ _ _ (by rw[hS0.2.2];rfl)).trans hS0.2.2⟩
 have HNW:Hid _:=new4 wA.drew (.int .i32 ((lp:Int)+1)) (.int .i32 (shI so)) (.int .i32 et) (.int .i32 0) 198;have HOX:Hid (World.ownsRow _ B 198 4 (.slice (some ⟨F.sb,0,none⟩) N F.cs) N (uk F.stv N 4)):=HOW.out.alloc (.cells #[.int .i32 ((lp:Int)+1),.int .i32 (shI so),.int .i32 et,.int .i32 0] 198);refine readyU1 (i:=23) (by kernel_rfl) (consU rfl (fun KK hKK=>?_));go_simp
 refine hKK.out _ _ (.inr hSx) ?_;clear hKK KK;try simp only[Act.put,sL]
 refine readyU1 (i:=24) (by kernel_rfl) (consU rfl (fun KK hKK=>?_))
 refine U6 _ (by rfl) _ _ _ (by rfl) B 198 i 4 underlying192 hi hz1 F.sb N F.cs (uk F.stv N 4) (by rfl) (by exact HOX.out) ⟨wA.heap.size,0,none⟩ 1 1 [.int .i32 ((lp:Int)+1),.int .i32 (shI so),.int .i32 et,.int .i32 0] (by rfl) (by simp) (by exact HNW.out) (by intro u hu;simp at hu;rcases hu with rfl | rfl | rfl | rfl <;> rfl) (by omega) ?_;intro w1 ho hg
 have hpl:((lp:Int)+1)=((lp+1:Nat):Int):=by omega
 have HM:=HRA.out.app (l:=lp+1) (s:=so) (e:=et) HX.out hg;rw[<-HN.out,<-hpl] at HM;obtain⟨hR2,hB2,e0,es,ez⟩:=HM ho;have k0:=e0.trans c0;have ks1:=es to 1 (by omega) (by omega);rw[show F.stv to 1=.int .i32 (shI so) by rw[HSO.out];rfl] at ks1;have ks2:=es to 2 (by omega) (by omega);rw[show F.stv to 2=.int .i32 et by rw[HET.out];rfl] at ks2;have HR2:Hid _:=hR2;have HB2:Hid _:=hB2
 clear ho hg hR2 hB2 e0 es HM hpl;have hS5:w1.cell? ⟨g,0,none⟩=some (.slice (some ⟨F.sb,0,none⟩) N F.cs)/\w1.cell? ⟨F.sb,to*4+1,none⟩=some (.int .i32 (shI so))/\w1.cell? ⟨F.sb,to*4+2,none⟩=some (.int .i32 et):=⟨k0,ks1,ks2⟩;refine hKK.out _ _ (.inr hS5) ?_;clear hKK KK;try simp only[Act.put,sL]
 refine readyU1 (i:=25) (by kernel_rfl) (consU rfl (fun KK hKK=>?_));go_simp;refine hKK.out _ _ (.inr hS5) ?_;clear hKK KK;try simp only[Act.put,sL]
 refine readyU1 (i:=26) (by kernel_rfl) (consU rfl (fun KK hKK=>?_));go_simp;refine hKK.out _ _ (.inr hS5) ?_;clear hKK KK;try simp only[Act.put,sL]
 refine readyU1 (i:=27) (by kernel_rfl) (consU rfl (fun KK hKK=>?_));go_simp;refine hKK.out _ _ (.inl rfl) ?_;clear hKK KK;try simp only[Act.put,sL]
 refine doneU (by kernel_rfl) ?_ _;obtain⟨w2,HW2⟩:=nm_ (w1.setCell ⟨g,0,none⟩ (.slice (some ⟨F.sb,0,none⟩) (N+1:Nat) F.cs));rw[HW2.out] at HR2 HB2 ⊢;clear HW2 hS0 hS5 hSx k0 ks1 ks2 ez c0 cp ct cts cte c1 ce;have hto2:to<(F.app (lp+1) so et).N:=by show to<F.N+1;rw[<-HN.out];omega
 have d0:=HR2.out.c0;have dt:=HR2.out.st.cell hto2 (show 1<4 by omega);have ft:=HR2.out.st.frozen (to*4+1);simp only[Fn.app] at d0 dt ft;rw[<-HN.out] at d0;have HR3:Hid (Rep B (w2.setCell ⟨F.sb,to*4+1,none⟩ (.int .i32 N)) g (F.cl p to)):=by
  have:=(HR2.out.link (some N) hto2).1;rw[HLP.out,HSO.out,HET.out,HN.out] at this;rw[HN.out];exact this
 have HB3:Hid (Below B w (w2.setCell ⟨F.sb,to*4+1,none⟩ (.int .i32 N))):=HBA.out.trans (HB2.out.trans (HR2.out.link (some N) hto2).2);have d0':=HR3.out.c0;have hto3:to<(F.cl p to).N:=by show to<F.N+1;rw[<-HN.out];omega
 have dh:=HR3.out.st.cell hto3 (show 3<4 by omega);obtain⟨h0,HH0⟩:=nn_ ((F.cl p to).hd to);rw[show (F.cl p to).stv to 3=.int .i32 h0 by rw[HH0.out];rfl] at dh;simp only[Fn.cl,Fn.app,Fn.link] at d0' dh;rw[<-HN.out] at d0';go_wp2_with fail
 obtain⟨w3,HW3⟩:=nm_ (w2.setCell ⟨F.sb,to*4+1,none⟩ (.int .i32 N));rw[HW3.out] at HR3 HB3 ⊢;clear HW3 d0 dt ft d0' dh HR2 HB2 HX HNW HOX HOW HRA HBA EE;have HG1:Hid (Gr (F.cl p to)):=(HG.out.app _ _ _).link _ _;have HZN:Hid (∀ y,(F.cl p to).m N y=0):=fun y=>by rw[HN.out];exact HG.out.m_out (Nat.le_refl _) y
 have HH1:Hid _:=HG1.out.g4 to hto3;have hh0:h0<K:=by rw[HH0.out,HK.out];exact HH1.out.1
 have HS0:Hid (h0 ≠ 0->F.src h0=to):=by rw[HH0.out];exact HH1.out.2.1
 have HCS:Hid (Qw (F.cl p to) (F.cl p to) N to h0):=by rw[HH0.out];exact Qw.start HG1.out hto3 HZN.out
 have HLE:Hid (F.lon p+1<F.lon to):=by show _<_;rw[<-HLP.out,<-HLT.out];omega
 have HCH2:Hid (∀ q r,q<F.N+1->(F.cl p to).sh q=some r->r<F.N+1/\(F.cl p to).lon r<(F.cl p to).lon q):=by
  intro q r hq hr;have hr':upd (upd F.sh F.N (F.sh to)) to (some F.N) q=some r:=hr;show r<F.N+1/\upd F.lon F.N (F.lon p+1) r<upd F.lon F.N (F.lon p+1) q;by_cases hqt:q=to
  ·rw[hqt,upd_same] at hr';cases hr'
   rw[upd_same,upd_ne _ _ (by omega)];exact⟨by omega,by rw[hqt];exact HLE.out⟩
  rw[upd_ne _ _ hqt] at hr';by_cases hqN:q=F.N
  ·rw[hqN,upd_same] at hr';obtain⟨r1,r2⟩:=HCH.out to r htN' hr';rw[hqN,upd_same,upd_ne _ _ (by omega)];exact⟨by omega,HLK.out r hr'⟩
  rw[upd_ne _ _ hqN] at hr';obtain⟨r1,r2⟩:=HCH.out q r (by omega) hr';rw[upd_ne _ _ hqN,upd_ne _ _ (by omega)];exact⟨by omega,r2⟩
 clear hi hz0 hz1 hz2;go_loopg [10] h0 (fun k v wr=>∃ (e:Nat) (F2:Fn),v=.int .i32 e/\k=e/\e<K/\Hid (Rep B wr g F2)/\Hid (Below B w wr)/\Hid (Qw (F.cl p to) F2 N to e)/\Hid (e ≠ 0->F.src e=to));case atStart=>exact⟨h0,F.cl p to,rfl,rfl,hh0,HR3.out,HB3.out,HCS.out,HS0.out⟩
 case round =>
 obtain⟨e1,F2,rfl,hk,heK1,HR4,HB4,HC4,HS4⟩:=hrel;have HN2:Hid (F2.N=F.N+1):=HC4.out.same.N;by_cases he0:e1=0
 ·subst he0;have LD:Hid (Calls prog 134 #[.pointer (some ⟨g,0,none⟩),.int .i32 p,.int .u8 x,.int .i32 to,.int .i32 N] wr fun e w'=>(∃ v,e=.returned v)/\∃ F',j6 x to N (some p) F2 F'/\Rep B w' g F'/\Below B wr w') :=
   zyy (some p) x to N hx wr HR4.out HC4.out.gr (by rw[HN2.out,HN.out];omega) (fun q r hq hr=>by
    rw[HN2.out] at hq ⊢
    rw[HC4.out.same.sh] at hr
    rw[HC4.out.same.lon]
    exact HCH2.out q r hq hr) (fun q hq=>by cases hq;rw[HN2.out,<-HN.out];omega) hto0 (by omega)
  go_wp2_with (go_at_call 134;refine LD.out.mono ?_;clear LD;rintro ev w5 ⟨⟨v,rfl⟩,F',hL,hR5,hB5⟩)
  go_ret;refine⟨HB4.out.trans hB5,.inr ⟨by rw[<-HLT.out,<-HLP.out];exact hs,by rw[<-HN.out];rfl,F2,F',?_,?_,hR5⟩⟩
  ·rw[<-HN.out];exact HC4.out
  rw[<-HN.out];exact hL
 have he0I:¬ (e1:Int)=0:=by omega
 have hpN:N ≠ to:=by omega
 have ST:=HC4.out.step HG1.out (by show N<F.N+1;rw[HN.out];omega) hpN (by omega) (by show e1<F.K;rw[<-HK.out];exact heK1) (HS4.out he0);obtain⟨z1,z2,z3,z4,z5,z6,-⟩:=ST 0 0;have HST:Hid _:=fun eb ce=>(ST eb ce).2.2.2.2.2.2;have hKl:e1<F2.K:=by have:=HC4.out.Kle;have h2:(F.cl p to).K=F.K:=rfl;rw[h2,<-HK.out] at this;omega
 have c1:=HR4.out.c1;have cb:=HR4.out.ed.cell hKl (show 2<3 by omega);have ct:=HR4.out.ed.cell hKl (show 0<3 by omega);rw[WzX] at ct;obtain⟨y,HY⟩:=nn_ (F2.by_ e1);obtain⟨t,HT⟩:=nn_ (F2.to e1);obtain⟨nx,HNX⟩:∃ nx,Hid (nx=(F.cl p to).nx e1):=⟨_,rfl⟩;rw[show F2.edv e1 2=.int .u8 y by rw[HY.out];rfl] at cb;rw[show F2.edv e1 0=.int .i32 t by rw[HT.out];rfl] at ct
 have hK2:F2.K<=100000000:=by have:=HC4.out.gr.bound;rw[HN2.out,<-HN.out] at this;omega
 have JN:Hid (∀ w',Rep B w' g F2->_):=fun w' (h:Rep B w' g F2)=>D3 N (F2.by_ e1) (F2.to e1) z2 w' h (by rw[HN2.out,HN.out];omega) hK2;rw[<-HY.out,<-HT.out] at JN HST;rw[<-HNX.out] at z4 z5 z6 HST;have HZ4:Hid _:=z4;have HZ6:Hid _:=z6;obtain⟨K2,HK2⟩:=nn_ F2.K;rw[<-HK2.out] at c1 hKl hK2;clear z1 z2 z3 z4 z6 ST;go_wp2_with fail
 refine NY 18 (by kernel_rfl) (by kernel_rfl) ?_;iterate 18 (refine Wj rfl (fun K hK=>?_);go_simp;refine hK _ ?_;clear hK K)
 refine wpStill_nil ?_
 go_wp2_with (go_at_call 113;refine(JN.out _ (HR4.out.drewN 1)).mono ?_;clear JN;rintro ev w5 ⟨⟨v,rfl⟩,eb,ce,hR5,hB5⟩;have HR5:Hid _:=hR5;have HB5:Hid _:=hB5;clear hR5 hB5;have d1:=HR5.out.c1;have dn:=HR5.out.ed.cell (s:=e1) (show e1<F2.K+1 by rw[<-HK2.out];omega) (show 1<3 by omega);rw[show (F2.join N y t eb ce).edv e1 1=.int .i32 nx by rw[<-HZ4.out];show Value.int .i32 ((upd F2.nx F2.K (F2.hd N) e1:Nat):Int)=_;rw[upd_ne _ _ (by rw[<-HK2.out];omega)]] at dn;simp only[Fn.join,Fn.more,Fn.head,Fn.mapS] at d1 dn;rw[<-HK2.out] at d1)
 go_roundg nx;case measure=>rw[hk];exact z5
 case rel=>exact⟨nx,F2.join N y t eb ce,rfl,rfl,by omega,HR5.out,(below_drewN HB4.out 1).trans HB5.out,HST.out eb ce,HZ6.out⟩
end Go.Proofs.YtiaaekdpfpaigaaGreatDoor.Dl
namespace Go.Proofs.YtiaaekdpfpaigaaGreatDoor.Dl
open Go.Proofs.Tryz
open Go.RowKit Go.Maps Sam
def Good (t:List Int) (F:Fn) (wd:Nat->List Int):Prop:=Sam t F.N wd F.sh F.en (xj F) F.last/\(∀ s,s<F.N->F.lon s=(wd s).length)/\Gr F/\F.N<=2*t.length+1
def Fn.begin_ (F:Fn) (n:Nat):Fn:={ F.app (n+1) (some 0) (n+1) with last:=F.N }
def thr (wd:Nat->List Int):Option Nat->Nat
 | none=>0
 | some p=>(wd p).length+1
structure Mid (t:List Int) (wd:Nat->List Int) (F Fc:Fn) (c:Nat) (o:Option Nat):Prop where
 gr:Gr Fc
 same:x5 (F.begin_ t.length) Fc
 ok:∀ p,o=some p->p<F.N/\wd p <:+ t
 l1:L1 t F.N wd (xj F) c (thr wd o)
 d1:∀ x,x<F.N->wd x <:+ t->thr wd o<=(wd x).length->xj Fc x c=some F.N
 d2:∀ x b,x<F.N->¬ (b=(c:Int)/\wd x <:+ t/\thr wd o<=(wd x).length)->xj Fc x b=xj F x b
 d3:∀ b,xj Fc F.N b=none
theorem Gr.begin_ {F:Fn} (h:Gr F) (n:Nat):Gr (F.begin_ n):=by
 have:=h.app (n+1) (some 0) (n+1);exact⟨this.K1,this.g1,this.g2,this.g3,this.g4,this.g5⟩
theorem Mid.start {t:List Int} {F:Fn} {wd:Nat->List Int} (h:Good t F wd) (c:Nat):Mid t wd F (F.begin_ t.length) c (some F.last):=by
 obtain⟨A,hl,hG,hN⟩:=h;have ht:thr wd (some F.last)=t.length+1:=by simp[thr,A.lastw]
 refine⟨hG.begin_ _,x5.refl _,fun p hp=>?_,?_,fun x hx hs hl=>?_,fun x b hx _=>rfl,fun b=>hG.del_out (Nat.le_refl _) b⟩
 ·cases hp;exact⟨A.lastN,by rw[A.lastw];exact Wzk _⟩
 ·rw[ht];exact A.l1_start c
 rw[ht] at hl;have:=hs.length_le;omega
theorem Mid.sh_old {t:List Int} {F Fc:Fn} {wd:Nat->List Int} {c:Nat} {o:Option Nat} (h:Mid t wd F Fc c o) {q:Nat} (hq:q<F.N):Fc.sh q=F.sh q:=by
 rw[h.same.sh];show upd F.sh F.N (some 0) q=F.sh q;rw[upd_ne _ _ (by omega)]
theorem Mid.lon_old {t:List Int} {F Fc:Fn} {wd:Nat->List Int} {c:Nat} {o:Option Nat} (h:Mid t wd F Fc c o) {q:Nat} (hq:q<F.N):Fc.lon q=F.lon q:=by
 rw[h.same.lon];show upd F.lon F.N (t.length+1) q=F.lon q;rw[upd_ne _ _ (by omega)]
theorem Mid.N_eq {t:List Int} {F Fc:Fn} {wd:Nat->List Int} {c:Nat} {o:Option Nat} (h:Mid t wd F Fc c o):Fc.N=F.N+1:=h.same.N
theorem Mid.step {t:List Int} {F Fc:Fn} {wd:Nat->List Int} {c p:Nat} (hg:Good t F wd) (h:Mid t wd F Fc c (some p)) (hc:c<256) (hm:Fc.m p c=0) (eb ce:Nat):Mid t wd F (Fc.join p c F.N eb ce) c (Fc.sh p):=by
 obtain⟨A,hl,hG,hN⟩:=hg;obtain⟨hp,hpt⟩:=h.ok p rfl;have hNe:=h.N_eq;have hsp:=h.sh_old hp;have hk:∀ p',F.sh p=some p'->thr wd (Fc.sh p)=(wd p').length+1:=fun p' e=>by rw[hsp,e];rfl
 have hn:xj F p c=none:=by
  rw[<-h.d2 p c hp (by rintro⟨_,_,g⟩;simp only[thr] at g;omega),Yj,if_pos hm]
 have hjd:=fun s b=>h.gr.join_del (s:=p) (x:=c) (t:=F.N) eb ce s b;refine⟨h.gr.join eb ce (by omega) hc (by omega) hm,h.same.trans (x5.join _ _ _ _ _ _),fun q hq=>?_,?_,fun x hx hs hl=>?_,fun x b hx hnc=>?_,fun b=>?_⟩
 ·rw[hsp] at hq;obtain⟨a1,a2,a3⟩:=A.sh_some hp hq;exact⟨a1,a3.trans hpt⟩
 ·exact A.l1_step hp hpt hk h.l1 hn
 ·rw[hjd];rcases A.l1_or hp hpt hk hx hs hl with g | g
  ·by_cases hq:x=p/\(c:Int)=c
   ·rw[if_pos hq]
   rw[if_neg hq];exact h.d1 x hx hs g
  rw[if_pos ⟨g,rfl⟩]
 ·rw[hjd];by_cases hq:x=p/\b=(c:Int)
  ·exfalso;obtain⟨rfl,rfl⟩:=hq;refine hnc ⟨rfl,hpt,?_⟩;rw[hsp];cases e:F.sh x with
   | none=>simp[thr]
   | some r=>obtain⟨_,a2,_⟩:=A.sh_some hp e;simp only[thr];omega
  rw[if_neg hq];refine h.d2 x b hx ?_;rintro⟨rfl,g1,g2⟩;refine hnc ⟨rfl,g1,?_⟩;simp only[thr] at g2;rw[hsp];cases e:F.sh p with
  | none=>simp[thr]
  | some r=>obtain⟨_,a2,_⟩:=A.sh_some hp e;simp only[thr];omega
 rw[hjd,if_neg (by rintro⟨e,_⟩;omega)];exact h.d3 b
def wd1 (F:Fn) (wd:Nat->List Int) (t:List Int) (c:Int):Nat->List Int:=upd wd F.N (t++[c])
theorem Mid.finish1 {t:List Int} {F Fc:Fn} {wd:Nat->List Int} {c:Nat} {o:Option Nat} (hg:Good t F wd) (h:Mid t wd F Fc c o) {r:Nat} (hr:r<F.N) (hrt:wd r <:+ t++[(c:Int)]) (hkr:thr wd o<=(wd r).length):Good (t++[(c:Int)]) (Fc.link F.N (some r)) (wd1 F wd t c):=by
 obtain⟨A,hl,hG,hN⟩:=hg;have hNe:=h.N_eq;have w1:∀ s,s<F.N->wd1 F wd t c s=wd s:=fun s hs=>upd_ne _ _ (by omega);refine⟨?_,fun s hs=>?_,h.gr.link _ _,?_⟩
 ·show Sam _ Fc.N _ _ Fc.en (xj Fc) Fc.last;have hlast:Fc.last=F.N:=h.same.last;rw[hNe,hlast];refine A.add1 (c:=(c:Int)) (k:=thr wd o) (r:=r) h.l1 hr hrt (A.len_le hr).2 hkr (fun x hx hs hl=>h.d1 x hx hs hl) (fun x b hx hn=>h.d2 x b hx hn) h.d3 w1 (upd_same _ _ _) (fun s hs=>?_) ?_ (fun s hs=>?_) ?_
  ·show upd Fc.sh F.N (some r) s=F.sh s;rw[upd_ne _ _ (by omega)];exact h.sh_old hs
  ·show upd Fc.sh F.N (some r) F.N=some r;rw[upd_same]
  ·rw[h.same.en];show upd F.en F.N (t.length+1) s=F.en s;rw[upd_ne _ _ (by omega)]
  rw[h.same.en];show upd F.en F.N (t.length+1) F.N=t.length+1;rw[upd_same]
 ·have hs':s<Fc.N:=hs;show Fc.lon s=_;rw[h.same.lon];show upd F.lon F.N (t.length+1) s=(upd wd F.N (t++[(c:Int)]) s).length;by_cases hq:s=F.N
  ·rw[hq,upd_same,upd_same];simp
  rw[upd_ne _ _ hq,upd_ne _ _ hq];exact hl s (by omega)
 show Fc.N<=_;rw[hNe];simp;omega
theorem Mid.met {t:List Int} {F Fc:Fn} {wd:Nat->List Int} {c p:Nat} (hg:Good t F wd) (h:Mid t wd F Fc c (some p)) (hm:Fc.m p c ≠ 0):xj F p c=some (Fc.to (Fc.m p c))/\Fc.to (Fc.m p c)<F.N/\wd p++[(c:Int)] <:+ wd (Fc.to (Fc.m p c))/\Fc.to (Fc.m p c) ≠ 0/\Fc.to (Fc.m p c) ≠ p:=by
 obtain⟨A,hl,hG,hN⟩:=hg;obtain⟨hp,hpt⟩:=h.ok p rfl;have e:xj F p c=some (Fc.to (Fc.m p c)):=by
  rw[<-h.d2 p c hp (by rintro⟨_,_,g⟩;simp only[thr] at g;omega),Yj,if_neg hm]
 obtain⟨a1,a2⟩:=A.edge p c _ hp e;have a3:=a2.length_le;refine⟨e,a1,a2,fun h0=>?_,fun h0=>?_⟩
 ·rw[h0,A.wd0] at a3;simp at a3
 rw[h0] at a3;simp at a3;omega
def wd2 (F:Fn) (wd:Nat->List Int) (t:List Int) (c:Int) (p:Nat):Nat->List Int:=upd (upd wd F.N (t++[c])) (F.N+1) (wd p++[c])
theorem Mid.finish2 {t:List Int} {F Fc F2 F':Fn} {wd:Nat->List Int} {c p to:Nat} (hg:Good t F wd) (h:Mid t wd F Fc c (some p)) (hm:Fc.m p c ≠ 0) (hto:Fc.to (Fc.m p c)=to) (hne:Fc.lon to ≠ Fc.lon p+1)
  (hC:Qw (Fc.cl p to) F2 Fc.N to 0) (hL:j6 c to Fc.N (some p) F2 F'):Good (t++[(c:Int)]) (F'.link F.N (some Fc.N)) (wd2 F wd t c p):=by
 have hM:=h.met hg hm;rw[hto] at hM;obtain⟨m1,m2,m3,m4,m5⟩:=hM;obtain⟨A,hl,hG,hN⟩:=hg;obtain⟨hp,hpt⟩:=h.ok p rfl;have hNe:=h.N_eq;have hlen:(wd p).length+1<(wd to).length:=by
  have:=m3.length_le;rw[h.lon_old m2,h.lon_old hp,hl _ m2,hl _ hp] at hne;simp at this;omega
 have hG1:Gr (Fc.cl p to):=(h.gr.app _ _ _).link _ _;have hN2:F2.N=F.N+2:=by rw[hC.same.N];show Fc.N+1=_;omega
 have hsh2:∀ q,F2.sh q=upd (upd Fc.sh Fc.N (Fc.sh to)) to (some Fc.N) q:=fun q=>by rw[hC.same.sh];rfl
 have hdc:∀ s b,xj F2 s b=if s=Fc.N then xj Fc to b else xj Fc s b:=fun s b=>hC.del hG1 s b;obtain⟨⟨hG',hS'⟩,hd'⟩:=zyw A hp m1 m4 hL (fun q hq=>by
  by_cases hqt:q=to
  ·exact .inr hqt
  ·refine .inl ?_;rw[hsh2,upd_ne _ _ hqt,upd_ne _ _ (by omega)];exact h.sh_old hq) hC.gr (by rw[hN2,hNe];omega) p rfl hp (Wzk _) (Ne.symm m5) (fun q hq hql=>by
  rw[hdc,if_neg (by omega)];exact h.d2 q c hq (by rintro⟨_,_,g⟩;simp only[thr] at g;omega))
 have hSN:F'.N=F.N+2:=by rw[hS'.N,hN2]
 have hlast:F'.last=F.N:=by rw[hS'.last,hC.same.last];exact h.same.last
 have hen:F'.en=upd (upd F.en F.N (t.length+1)) Fc.N (Fc.en to):=by
  rw[hS'.en,hC.same.en];show upd Fc.en Fc.N (Fc.en to)=_;rw[h.same.en];rfl
 have hlon:F'.lon=upd (upd F.lon F.N (t.length+1)) Fc.N (Fc.lon p+1):=by
  rw[hS'.lon,hC.same.lon];show upd Fc.lon Fc.N (Fc.lon p+1)=_;rw[h.same.lon];rfl
 refine⟨?_,fun s hs=>?_,hG'.link _ _,?_⟩
 ·show Sam _ F'.N _ _ F'.en (xj F') F'.last;rw[hSN,hlast];refine A.add2 (c:=(c:Int)) (p:=p) (to:=to) hp hpt m1 hlen h.l1 (fun x hx hs hl=>?_) (fun x hx hd hl=>?_) (fun x b hx n1 n2=>?_) (fun b=>?_) (fun hs=>?_) (fun b hn=>?_) (fun s hs=>?_) ?_ ?_ (fun s hs hst=>?_) ?_ ?_ ?_ (fun s hs=>?_) ?_ ?_
  ·rw[hd',if_neg,hdc,if_neg (by omega)]
   ·exact h.d1 x hx hs hl
   rintro⟨_,_,g,_⟩;rw[h.l1 x hx hs hl] at g;cases g
  ·rw[hd',if_pos ⟨rfl,hx,hd,hl⟩,hNe]
  ·rw[hd',if_neg (by rintro⟨g1,_,g2,g3⟩;exact n2 ⟨g1,g2,g3⟩),hdc,if_neg (by omega)];exact h.d2 x b hx n1
  ·rw[hd',if_neg (by rintro⟨_,g,_⟩;omega),hdc,if_neg (by omega)];exact h.d3 b
  ·rw[hd',if_neg (by rintro⟨_,g,_⟩;omega),hdc,if_pos hNe.symm];exact h.d1 to m2 hs (by simp only[thr];omega)
  ·rw[hd',if_neg (by rintro⟨_,g,_⟩;omega),hdc,if_pos hNe.symm];exact h.d2 to b m2 (by rintro⟨g1,g2,_⟩;exact hn ⟨g1,g2⟩)
  ·show upd (upd wd F.N (t++[(c:Int)])) (F.N+1) (wd p++[(c:Int)]) s=wd s;rw[upd_ne _ _ (by omega),upd_ne _ _ (by omega)]
  ·show upd (upd wd F.N (t++[(c:Int)])) (F.N+1) (wd p++[(c:Int)]) F.N=_;rw[upd_ne _ _ (by omega),upd_same]
  ·exact upd_same _ _ _
  ·show upd F'.sh F.N (some Fc.N) s=F.sh s;rw[upd_ne _ _ (by omega),hS'.sh,hsh2,upd_ne _ _ hst,upd_ne _ _ (by omega)];exact h.sh_old hs
  ·show upd F'.sh F.N (some Fc.N) F.N=some (F.N+1);rw[upd_same,hNe]
  ·show upd F'.sh F.N (some Fc.N) (F.N+1)=F.sh to;rw[upd_ne _ _ (by omega),hS'.sh,hsh2,upd_ne _ _ (by omega),<-hNe,upd_same];exact h.sh_old m2
  ·show upd F'.sh F.N (some Fc.N) to=some (F.N+1);rw[upd_ne _ _ (by omega),hS'.sh,hsh2,upd_same,hNe]
  ·rw[hen,upd_ne _ _ (by omega),upd_ne _ _ (by omega)]
  ·rw[hen,upd_ne _ _ (by omega),upd_same]
  rw[hen,<-hNe,upd_same,h.same.en];show upd F.en F.N (t.length+1) to=F.en to;rw[upd_ne _ _ (by omega)]
 ·have hs':s<F'.N:=hs;show F'.lon s=_;rw[hlon];show _=(upd (upd wd F.N (t++[(c:Int)])) (F.N+1) (wd p++[(c:Int)]) s).length;by_cases h1:s=F.N+1
  ·rw[h1,upd_same,<-hNe,upd_same,h.lon_old hp,hl _ hp];simp
  rw[upd_ne _ _ (by omega),upd_ne _ _ h1];by_cases h2:s=F.N
  ·rw[h2,upd_same,upd_same];simp
  rw[upd_ne _ _ h2,upd_ne _ _ h2];exact hl s (by omega)
 show F'.N<=_;rw[hSN];simp;omega
end Go.Proofs.YtiaaekdpfpaigaaGreatDoor.Dl
