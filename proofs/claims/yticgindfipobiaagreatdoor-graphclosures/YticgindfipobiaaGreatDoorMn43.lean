import Derived.Test.YticgindfipobiaaGreatDoorMn42
import Derived.RangeFuncNested
import Derived.RangeFuncBound
import Derived.RangeFuncCalls
import Derived.RangeFuncLeaves
import Derived.RangeFuncBox
import Derived.Shelf.Abstract
import Derived.Shelf.RegionOpen
import Derived.WalkKit
import Derived.OwnWalkIn
import Derived.TacticsInMore
import Derived.Sort.LoopGhostIn
import Derived.Maps.OwnIn
import Derived.Great.BuildSlice
set_option linter.unusedSectionVars false
set_option linter.unusedSimpArgs false
set_option linter.unusedVariables false
set_option maxRecDepth 20000
set_option maxHeartbeats 4000000
namespace Go.Proofs.YticgindfipobiaaGreatDoor.Gr
open Go.RowKit Go.Shelf Go.Maps
attribute [local go_sem] Oper.semAt_some
def Itr (A:World) (r:Nat):Prop := ∃ m s seen c,A.heap[r]? = some (.mapIter m s seen c)
def SeqAll {α:Type} (F:Fence) (n:Nat) (P:Program) (g:Nat) (lb:Array Value) (encs:α->Array Value) (Fx:α->World->Prop) (Kp:Nat->World->World->Prop) (S:List α->Prop) (N:Nat) (w0:World):Prop :=
 ∀ (l:Nat) (J:List α->World->Prop) (W:World),Below w0.heap.size w0 W->w0.heap.size<=l->l<W.heap.size →
  (∀ s A B,J s A->A.grownBy B none->J s B)->(∀ s A B r,w0.heap.size<=r->Itr A r->J s A->A.grownBy B (some r)->J s B) →
  (∀ pre x W1,J pre W1->Fx x W1->pre.length<N->YieldAt F (n-1) P l (encs x) W1 fun e W'=>e=.returned (.bool true)/\J (pre++[x]) W'/\Kp l W1 W') →
  J [] W →
  CallsIn F n P g (#[.func (.yield l) #[] #[]]++lb) W fun e W'=>(∃ v,e=.returned v)/\∃ xs,S xs/\J xs W'
theorem yv {F:Fence} {nF:Nat} {P:Program} {ops:Array Oper} {rest:List Oper} {op:Oper} {a:Act} {w:World} {Q:Exit->Act->World->Prop} (hgd:op.guard=none) (ty:TypeId) (x:Operand) (ho:op.op=.load ty x)
  (b o:Nat) (hx:a.eval x=.pointer (some ⟨b,o,none⟩)) (cs:List Value) (d:TypeDesc) (hc:w.rangeAt b o cs)
  (hu:P.underlying ty=some d) (hd:d.isRow=true) (hi:(P.info? ty).map (·.size)=some cs.length)
  (h:wpListIn F nF P ops Q rest (a.put op.dst (.agg cs.toArray)) w):wpListIn F nF P ops Q (op :: rest) a w:=by
 refine wpListIn_plain hgd fun K hK=>?_
 unfold Oper.wpIn
 refine⟨by simp[Oper.about,ho],?_⟩
 rw[Oper.semAt_plain F _ _ (by rw[ho];intro c hc';cases hc')]
 unfold execOp
 simp only[ho,hx,Instr.loadAt,Instr.sureAddr,Sem.run_bind,Sem.run_pure,Result.andThen_ok,run_loadVar_mid w b o ty cs d hc hu hd hi]
 exact hK _ _ h
theorem yJ {F:Fence} {nF:Nat} {P:Program} {ops:Array Oper} {rest:List Oper} {o:Oper} {a:Act} {w:World} {Q:Exit->Act->World->Prop} (hgd:o.guard=none) (ty:TypeId) (x y:Operand) (ho:o.op=.store ty x y)
  (g:Nat) (cells:Array Value) (hx:a.eval x=.pointer (some ⟨g,0,none⟩)) (hy:a.eval y=.agg cells)
  (t:TypeId) (old:Array Value) (hg:w.heap[g]? = some (.cells old t (0,0))) (hi:(P.info? ty).map (·.size)=some cells.size)
  (hold:old.size=cells.size) (h1:cells.all (·.oneCell')=true)
  (h:wpListIn F nF P ops Q rest (a.put o.dst undef) (w.setRow g cells)):wpListIn F nF P ops Q (o :: rest) a w:=by
 refine wpListIn_plain hgd fun K hK=>?_
 unfold Oper.wpIn
 refine⟨by simp[Oper.about,ho],?_⟩
 rw[Oper.semAt_plain F _ _ (by rw[ho];intro c hc';cases hc')]
 unfold execOp
 simp only[ho,hx,hy,Instr.storeAt,Instr.sureAddr,Sem.run_bind,Sem.run_pure,Result.andThen_ok,run_storeVar_row w g t ty old cells hg hi hold h1]
 exact hK _ _ h
structure Mv (w w':World) (v v':Value):Prop where
 os:w'.os=w.os
 tape:w'.tape=w.tape
 output:w'.output=w.output
 size:w.heap.size<=w'.heap.size
 blk:∀ k,k<w.heap.size->some k ≠ v.ownBlock->w'.heap[k]? = w.heap[k]?
 at_:v'.ownBlock=v.ownBlock ∨ ∀ k,v'.ownBlock=some k->w.heap.size<=k
theorem Mv.refl (w:World) (v:Value):Mv w w v v:=⟨rfl,rfl,rfl,Nat.le_refl _,fun _ _ _=>rfl,.inl rfl⟩
theorem Mv.trans {a b c:World} {u v x:Value} (h:Mv a b u v) (k:Mv b c v x):Mv a c u x:=by
 have hs:=h.size
 refine⟨k.os.trans h.os,k.tape.trans h.tape,k.output.trans h.output,Nat.le_trans h.size k.size,fun i hi hn=>?_,?_⟩
 ·refine(k.blk i (by omega) (fun e=>?_)).trans (h.blk i hi hn)
  rcases h.at_ with g | g
  ·exact hn (e.trans g)
  ·have:=g i e.symm;omega
 ·rcases k.at_ with g | g
  ·rcases h.at_ with g' | g'
   ·exact .inl (g.trans g')
   ·exact .inr fun i hi=>g' i (g ▸ hi)
  ·exact .inr fun i hi=>by have:=g i hi;omega
theorem Mv.app {w wx w1:World} {v v':Value} (h0:w.grownBy wx none) (hg:wx.grownBy w1 v.ownBlock) (hl:v'.ownBlock=v.ownBlock ∨ v'.ownBlock=some wx.heap.size):Mv w w1 v v':=by
 have hs:=h0.size
 refine⟨hg.os.trans h0.os,hg.tape.trans h0.tape,hg.output.trans h0.output,Nat.le_trans h0.size hg.size,fun k hk hn=>(hg.block k (by omega) hn).trans (h0.block k hk (by simp)),?_⟩
 rcases hl with h | h
 ·exact .inl h
 ·exact .inr fun k hk=>by rw[h] at hk;simp at hk;omega
theorem Mv.below {w w':World} {v v':Value} (h:Mv w w' v v') {B:Nat} (hB:∀ k,v.ownBlock=some k->B<=k) (hw:B<=w.heap.size):Below B w w' :=
 ⟨h.os,h.tape,h.output,h.size,fun k hk=>h.blk k (by omega) (fun e=>by have:=hB k e.symm;omega)⟩
theorem Mv.drew {w w':World} {v v':Value} (h:Mv w w' v v') (n:Nat):Mv w (w'.drewN n) v v':=⟨h.os,h.tape,h.output,h.size,h.blk,h.at_⟩
theorem Kx.mv {X l:Nat} {W W1:World} {v v1:Value} (hb:Boxed W X 23 v) (h:Mv W W1 v v1) (hne:some X ≠ v.ownBlock) (hlt:∀ k,v1.ownBlock=some k->k<W1.heap.size):Kx X l W (W1.setCell ⟨X,0,none⟩ v1):=by
 have hX:=hb.lt
 have hs:=h.size
 have hb1:W1.heap[X]? = W.heap[X]? := h.blk X hX hne
 have hc:(W1.setCell ⟨X,0,none⟩ v1).cell? ⟨X,0,none⟩=some v1:=World.cell?_setCell_same (u:=v) _ _ _ ((World.cell?_of_block (a:=⟨X,0,none⟩) hb1).trans hb.cell)
 refine⟨h.os,h.tape,h.output,by simp[World.setCell];exact hs,fun k ⟨u,h1,h2⟩=>?_,fun k h1 h2 h3 h4=>?_,fun _ k ⟨u,h1,h2⟩=>by rw[hc] at h1;cases h1;simp[World.setCell];exact hlt k h2⟩
 ·rw[hc] at h1
  cases h1
  rcases h.at_ with g | g
  ·exact .inl ⟨v,hb.cell,by rw[<-g];exact h2⟩
  ·exact .inr (g k h2)
 ·rw[Below.heap_setCell _ _ _ k h2]
  exact h.blk k h1 (fun e=>h4 ⟨v,hb.cell,e.symm⟩)
theorem Mv.grow {A B:World} (v:Value) (h:A.grownBy B none):Mv A B v v:=⟨h.os,h.tape,h.output,h.size,fun k hk _=>h.block k hk (by simp),.inl rfl⟩
theorem Mv.put {w W:World} {v u:Value} (h:Mv w W v u) {l:Nat} (o:Obj) (hl:w.heap.size<=l):Mv w (W.putObj l o) v u :=
 ⟨h.os,h.tape,h.output,by rw[World.putObj_size];exact h.size,fun k hk hn=>(World.putObj_heap_other (by omega)).trans (h.blk k hk hn),h.at_⟩
theorem Qz {W:World} {B:Nat} {u:Value} {n:Nat} {xs:List Value} (h:W.ownsRow B 56 20 u n xs) {k:Nat} (hk:u.ownBlock=some k):∃ cur,W.heap[k]? = some (.cells cur 56 (0,0)):=by
 obtain⟨_,⟨rfl,_⟩ | ⟨g,cap,cur,rfl,_,h2,_⟩⟩:=h
 ·cases hk
 ·simp[Value.ownBlock] at hk;subst hk;exact⟨cur,h2⟩
theorem keeps_mv {W W1:World} {X:Nat} {u u1:Value} {B n:Nat} {xs:List Value} (hb:Boxed W X 23 u) (ho:W.ownsRow B 56 20 u n xs) (h:Mv W W1 u u1) (Bx:Nat):KeepsFrom Bx W (W1.setCell ⟨X,0,none⟩ u1):=by
 refine⟨by simp[World.setCell];exact h.size,fun k o _ hk hc=>?_⟩
 have hkX:k ≠ X:=fun e=>by rw[e,show W.heap[X]? = _ from hb] at hk;cases hk;cases hc
 rw[Below.heap_setCell _ _ _ k hkX,h.blk k (Array.getElem?_eq_some_iff.1 hk).1 (fun e=>?_)]
 ·exact hk
 ·obtain⟨cur,hcur⟩:=Qz ho e.symm
  rw[hcur] at hk;cases hk;cases hc
theorem Mv.store {w W1:World} {v u1:Value} (h:Mv w W1 v u1) {X:Nat} (hX:w.heap.size<=X) (y:Value):Mv w (W1.setCell ⟨X,0,none⟩ y) v u1 :=
 ⟨h.os,h.tape,h.output,by simp[World.setCell];exact h.size,fun k hk hn=>(Below.heap_setCell _ _ _ k (by show k ≠ X;omega)).trans (h.blk k hk hn),h.at_⟩
theorem results_1 {fn:Func} {p:Tmp} (h:fn.results=#[.tmp p]) (tmps:Array Value) (w:World) (x:Value) (hp:tmps.getD p undef=x):(results fn tmps).run Tryz.prog w=.ok x w:=by
 have hp':tmps[p]?.getD undef=x:=by simpa using hp
 simp[results,h,hp']
theorem ret_1 {fn:Func} {p:Tmp} (h:fn.results=#[.tmp p]) (tmps:Array Value) (W:World) (D:Nat) (x:Value) (hp:tmps.getD p undef=x) (hK:W.heap[D]? = some (.deferred (some []))) (R:Ending->World->Prop) (hR:R (.returned x) (W.putObj D (.deferred none))) :
  bodyPostM Fence.wide 3 Tryz.prog fn R .ret { tmps:=tmps,defers:=[{ target:=.collected D,args:=#[] }] } W :=
 ⟨by simp,.inl ⟨_,_,rfl,run_takeDeferred hK,_,results_1 h _ _ _ hp,hR⟩⟩
theorem vV {F:Fence} {nF:Nat} {P:Program} {ops:Array Oper} {rest:List Oper} {o:Oper} {a:Act} {w w':World} {Q:Exit->Act->World->Prop} (hg:o.guard=none) (t len:Nat) (x:Operand) (ho:o.op=.buildSlice t len #[(0,x)]) (u v:Value) (hx:a.eval x=u)
  (hr:(Instr.buildSlice t len #[(0,u)]).run P w=.ok v w')
  (h:wpListIn F nF P ops Q rest (a.put o.dst v) w'):wpListIn F nF P ops Q (o :: rest) a w:=by
 refine wpListIn_plain hg fun K hK=>?_
 unfold Oper.wpIn
 refine⟨by simp[Oper.about,ho],?_⟩
 rw[Oper.semAt_plain F _ _ (by rw[ho];intro c hc';cases hc')]
 unfold execOp
 simp[ho,hx,hr,Result.andThen]
 exact hK _ _ h
theorem YJ (w:World) (RF:List Value) (t:TypeId):∀ j u,RF[j]? = some u->(w.alloc (.cells RF.toArray t)).cell? ((⟨w.heap.size,0,none⟩:Addr).add j)=some u:=fun j u hj=>by
 have h:=zx (heap_alloc_new w (.cells RF.toArray t)) j u hj
 rw[qz]
 exact h
theorem Xu {α:Type} {F:Fence} {n:Nat} {P:Program} {g:Operand} {ps:Array Tmp} {assign body:Code} {Q:Exit->Act->World->Prop} {a:Act} {w:World}
  (hro:F.round=none) (h1:1<=n) {gf:Nat} {lb:Array Value} (hg:a.eval g=.func (.func gf) #[] lb) (hFg:F.fn gf) (eg:∀ args w,(callFunc gf args).run P w=.ok (.enter gf args) w)
  {encs:α->Array Value} {Fx:α->World->Prop} {Kp:Nat->World->World->Prop} {S:List α->Prop} {N:Nat} (hseq:SeqAll F (n-1) P gf lb encs Fx Kp S N w) (hps:∀ x,(encs x).size=ps.size)
  (hKt:∀ {l:Nat} {A B C:World},Kp l A B->Kp l B C->Kp l A C) (hKl:∀ (l:Nat) (W:World) (r r':Loop),w.heap.size<=l->W.heap[l]? = some (.loop r)->Kp l W (W.putObj l (.loop r')))
  (hFl:∀ (l:Nat) (W:World) (r r':Loop) (x:α),w.heap.size<=l->W.heap[l]? = some (.loop r)->Fx x W->Fx x (W.putObj l (.loop r')))
  (I:List α->World->Prop) (hI:∀ s A B,I s A->A.grownBy B none->I s B) (hI2:∀ s A B r,w.heap.size<=r->Itr A r->I s A->A.grownBy B (some r)->I s B) (hIl:∀ (s:List α) (l:Nat) (W:World) (r r':Loop),w.heap.size<=l->W.heap[l]? = some (.loop r)->I s W->I s (W.putObj l (.loop r')))
  (h0:I [] w) (ax:α->World->Act) (aw:α->World->World) (hag:∀ (x:α) (W:World),W.grownBy (aw x W) none) (hKa:∀ (l:Nat) (x:α) (W:World),w.heap.size<=l->l<W.heap.size->Kp l W (aw x W)) (hFa:∀ (x:α) (W:World),Fx x W->Fx x (aw x W))
  (hassign:∀ (l:Nat) (x:α) (W:World) (K:Act->World->Prop),Fx x W->K (ax x W) (aw x W)->assign.wpIn (F.inRound l) (n-1-1) P (Exit.then K (fun _ _ _=>False)) { tmps:=(ps.zip (encs x)).foldl (fun t (p,v)=>t.setIfInBounds p v) a.tmps,defers:=[] } W)
  (hbody:∀ (l:Nat) (pre:List α) (x:α) (W0 W:World),w.heap.size<=l->l<W0.heap.size->(∀ k,k ≠ l->W.heap[k]? = (aw x W0).heap[k]?)->I pre W->Fx x W->pre.length<N->l<W.heap.size->W0.heap.size<=W.heap.size->body.wpIn (F.inRound l) (n-1-1) P (fun e _ W'=>e=.normal/\KeepsFrom w.heap.size W W'/\Kp l W W'/\I (pre++[x]) W') (ax x W0) W)
  (hdone:∀ (D:Nat) (xs:List α) (W:World),w.heap.size<=D->S xs->I xs W->W.heap[D]? = some (.deferred (some []))->Q .normal { a with defers:={ target:=.collected D,args:=#[] } :: a.defers } W) :
  (Code.rangeFunc g ps assign body).wpIn F n P Q a w:=by
 refine wpIn_rangeFunc ?_
 intro fn hfn
 rw[hro]
 obtain⟨rc,hrc⟩:∃ rc:LoopState->Loop,rc=fun st=>{ state:=st,pending:=none,fn,tmps:=a.tmps,params:=ps,assign,body,defers:=w.heap.size }:=⟨_,rfl⟩
 obtain⟨W1,hW1⟩:∃ W1,(w.alloc (.deferred (some []))).alloc (.loop (rc .ready))=W1:=⟨_,rfl⟩
 have hg1:w.grownBy W1 none:=by rw[<-hW1];exact(j7 w _).trans (j7 _ _)
 have hs1:W1.heap.size=w.heap.size+2:=by rw[<-hW1];simp
 have hL1:W1.heap[w.heap.size+1]? = some (.loop (rc .ready)):=by
  rw[<-hW1];have:=World.alloc_heap_new (w.alloc (.deferred (some []))) (.loop (rc .ready));rwa [World.size_alloc] at this
 have hD1:W1.heap[w.heap.size]? = some (.deferred (some [])):=by
  rw[<-hW1];exact(Below.heap_alloc _ _ _ (by simp)).trans (World.alloc_heap_new w _)
 have hb1:Below w.heap.size w W1:=⟨hg1.os,hg1.tape,hg1.output,hg1.size,fun k hk=>hg1.block k hk (by simp)⟩
 refine⟨w.heap.size+1,[{ target:=.collected w.heap.size,args:=#[] }],W1,{ target:=.fn (.func gf) lb,args:=#[.func (.yield (w.heap.size+1)) #[] #[]] },W1,gf,
  #[.func (.yield (w.heap.size+1)) #[] #[]]++lb,W1,?_,?_,?_,?_,fun _=>h1,?_⟩
 ·rw[<-hW1,hrc];exact run_enterLoop_outer _ _ _ _ _
 ·simp only[resolve,hg]
  simp[go_sem]
 ·intro f' hf';simp[Target.leads] at hf';subst hf';exact hFg
 ·simp[invoke,go_sem,eg]
 ·have keep:∀ {A B:World} {k:Nat} {o:Obj},A.grownBy B none->A.heap[k]? = some o->B.heap[k]? = some o:=fun hg' hk=>(hg'.block _ (Array.getElem?_eq_some_iff.1 hk).1 (by simp)).trans hk
  refine(hseq (w.heap.size+1) (fun pre W=>I pre W/\W.heap[w.heap.size+1]? = some (.loop (rc .ready))/\W.heap[w.heap.size]? = some (.deferred (some []))) W1 hb1 (by omega) (by omega)
   (fun s A B hs hg'=>⟨hI s A B hs.1 hg',keep hg' hs.2.1,keep hg' hs.2.2⟩) (fun s A B r hr ⟨m,s',seen,c,hit⟩ hs hg'=>⟨hI2 s A B r hr ⟨m,s',seen,c,hit⟩ hs.1 hg',(hg'.block _ (Array.getElem?_eq_some_iff.1 hs.2.1).1 (fun e=>by cases e;rw[hit] at hs;cases hs.2.1)).trans hs.2.1,(hg'.block _ (Array.getElem?_eq_some_iff.1 hs.2.2).1 (fun e=>by cases e;rw[hit] at hs;cases hs.2.2)).trans hs.2.2⟩) ?_ ⟨hI _ _ _ h0 hg1,hL1,hD1⟩).mono ?_
  ·rintro pre x W0 ⟨hi0,hl0,hd0⟩ hfx0 hlen
   have hlt0:w.heap.size+1<W0.heap.size:=(Array.getElem?_eq_some_iff.1 hl0).1
   have hy:=run_yield (P:=P) (args:=encs x) hl0 (by rw[hrc];exact hps x)
   rw[hrc] at hy
   have hle:w.heap.size<=w.heap.size+1:=by omega
   have hga:=hag x W0
   have hi:=hI _ _ _ hi0 hga
   have hl:=keep hga hl0
   have hd:=keep hga hd0
   have hfx:=hFa x W0 hfx0
   have hKp0:=hKa (w.heap.size+1) x W0 hle hlt0
   refine⟨fn,_,assign,body,hy,roundIn_of_wpIn hfn (hassign _ x W0 _ hfx0 ?_)⟩
   have hbody0:=hbody (w.heap.size+1) pre x W0
   have hsz0:=hga.size
   generalize hWW:aw x W0=W at hi hl hd hfx hKp0 hbody0 hsz0 ⊢
   have hlt:w.heap.size+1<W.heap.size:=(Array.getElem?_eq_some_iff.1 hl).1
   refine⟨_,run_beginRound hl (by rw[hrc]),?_⟩
   have hl2:(W.putObj (w.heap.size+1) (.loop { rc .ready with state:=.busy })).heap[w.heap.size+1]? = some (.loop { rc .ready with state:=.busy }):=World.putObj_heap_same hlt
   have hd2:(W.putObj (w.heap.size+1) (.loop { rc .ready with state:=.busy })).heap[w.heap.size]? = some (.deferred (some [])):=(World.putObj_heap_other (by omega)).trans hd
   refine wpIn_mono (hbody0 _ hle hlt0 (fun k hk=>World.putObj_heap_other hk) (hIl _ _ _ _ _ hle hl hi) (hFl _ _ _ _ _ hle hl hfx) hlen (by rw[World.putObj_size];exact hlt) (by rw[World.putObj_size];exact hsz0)) ?_
   rintro e a3 W3 ⟨rfl,hk3,hkp3,hi3⟩
   have hl3:=hk3.same _ _ hle hl2 rfl
   have hd3:=hk3.same _ _ (Nat.le_refl _) hd2 rfl
   have hr:=run_endRound (P:=P) none hl3
   refine⟨_,_,hr,rfl,⟨hIl _ _ _ _ _ hle hl3 hi3,?_,(World.putObj_heap_other (by omega)).trans hd3⟩,hKt hKp0 (hKt (hKt (hKl _ _ _ _ hle hl) hkp3) (hKl _ _ _ _ hle hl3))⟩
   rw[World.putObj_heap_same (Array.getElem?_eq_some_iff.1 hl3).1,hrc]
   rfl
  ·rintro e W2 ⟨⟨v,rfl⟩,xs,hS,hi,hl,hd⟩
   refine⟨none,_,by have:=run_endLoop (P:=P) hl (by rw[hrc];simp);rw[hrc] at this;exact this,?_⟩
   exact hdone _ xs _ (Nat.le_refl _) hS (hIl _ _ _ _ _ (by omega) hl hi) ((World.putObj_heap_other (by omega)).trans hd)
theorem wpListIn_range {F:Fence} {nF:Nat} {P:Program} {ops:Array Oper} {rest:List Oper} {o:Oper} {a:Act} {w w':World} {Q:Exit->Act->World->Prop} (hg:o.guard=none) (t:TypeId) (m:Operand) (ho:o.op=.range t m) (mv v:Value) (hm:a.eval m=mv)
  (hr:(Instr.range t mv).run P w=.ok v w') (h:wpListIn F nF P ops Q rest (a.put o.dst v) w'):wpListIn F nF P ops Q (o :: rest) a w:=by
 refine wpListIn_plain hg fun K hK=>?_
 unfold Oper.wpIn
 refine⟨by simp[Oper.about,ho],?_⟩
 rw[Oper.semAt_plain F _ _ (by rw[ho];intro c hc';cases hc')]
 unfold execOp
 simp[ho,hm,hr,Result.andThen]
 exact hK _ _ h
attribute [local go_sem] Oper.semAt_some
def encI (x:List Int):Array Value:=#[.agg (row .u8 x).toArray]
theorem und67:Tryz.prog.underlying 49=some (.map 56 67):=by kernel_rfl
theorem SI.range67 {w:World} {g n:Nat} {S:List Int->Prop} (h:SI w g n S):∃ w' cnt,(Instr.range 49 (.map (some g))).run Tryz.prog w=.ok (.pointer (some ⟨w.heap.size,0,none⟩)) w'/\SR w' g w.heap.size n S S cnt/\cnt<=n/\w.grownBy w' none:=by
 obtain⟨D,h1,h2⟩:=h
 obtain⟨w',hrun,r1,r2,r3⟩:=h1.range vx und67
 exact⟨w',_,hrun,⟨D,_,r1,h2,h2⟩,h1.size_le,r2⟩
structure vW (S:List Int->Prop) (xs:List (List Int)):Prop where
 one:xs.Nodup
 idw:∀ y ∈ xs,IdW y
 all:∀ y,IdW y->(y ∈ xs ↔ S y)
theorem SI.kx {X l:Nat} {A B:World} {g n:Nat} {S:List Int->Prop} (h:SI A g n S) (hk:Kx X l A B) (hf:Fre X A g) (hl:g ≠ l):SI B g n S:=by
 obtain⟨D,⟨es,clock,hb,rest⟩,h2⟩:=h
 exact⟨D,⟨es,clock,(hk.blk g hf.lt hf.ne hl hf.no).trans hb,rest⟩,h2⟩
theorem SR.kx {X l:Nat} {A B:World} {g r n cnt:Nat} {S Lf:List Int->Prop} (h:SR A g r n S Lf cnt) (hk:Kx X l A B) (hf:Fre X A g) (hl:g ≠ l) (hf2:Fre X A r) (hl2:r ≠ l):SR B g r n S Lf cnt:=by
 obtain⟨D,left,⟨es,clock,since,seen,c0,hb,F,hs,hD,hr,rest⟩,h2⟩:=h
 exact⟨D,left,⟨es,clock,since,seen,c0,(hk.blk g hf.lt hf.ne hl hf.no).trans hb,F,hs,hD,(hk.blk r hf2.lt hf2.ne hl2 hf2.no).trans hr,rest⟩,h2⟩
set_option maxRecDepth 100000 in
theorem keys_all (n:Nat) (hn:1<=n) (w:World) (X Bs g ns:Nat) (S:List Int->Prop) (hS:SI w g ns S) (hl:ns<=1000) (hbs:Boxed w Bs 49 (.map (some g)))
    (hX:X<w.heap.size) (fs:Fre X w Bs) (fg:Fre X w g) (hob:∀ k,Ob X w k->k<w.heap.size) :
    SeqAll Fence.wide n Tryz.prog 46 #[.pointer (some ⟨Bs,0,none⟩)] encI (fun x _=>IdW x) (Kx X) (vW S) 1000 w:=by
  intro l J W hW hwl hlW hJ hJ2 hY h0
  have hXW:X<W.heap.size:=Nat.lt_of_lt_of_le hX hW.size
  have K0:Kx X l w W:=⟨hW.os,hW.tape,hW.output,hW.size,fun k ⟨v,h1,h2⟩=>.inl ⟨v,by rw[<-h1];exact(hW.cell (p:=⟨X,0,none⟩) hX).symm,h2⟩,fun k h1 _ _ _=>hW.block k h1,fun hb k ⟨v,h1,h2⟩=>Nat.lt_of_lt_of_le (hb k ⟨v,by rw[<-h1];exact(hW.cell (p:=⟨X,0,none⟩) hX).symm,h2⟩) hW.size⟩
  have ks:W.cell? ⟨Bs,0,none⟩=some (.map (some g)):=(boxed_kx hbs K0 fs (by have:=fs.lt;omega)).cell
  have hgl:g ≠ l:=by have:=fg.lt;omega
  obtain⟨zr,HZ⟩:=nn_ ((row .u8 z20).toArray)
  have hz42:∀ w:World,(zeroValue 56).run Tryz.prog w=.ok (.agg zr) w:=fun w=>by rw[HZ.out];exact zero42 w
  have hSW:SI W g ns S:=hS.kx K0 fg hgl
  obtain⟨W1,cnt0,hrun,hsr,hcnt,hg1⟩:=hSW.range67
  obtain⟨r,HR⟩:=nm_ W.heap.size
  rw[HR.out] at hrun hsr
  have HRUN:Hid ((Instr.range 49 (.map (some g))).run Tryz.prog W=.ok (.pointer (some ⟨r,0,none⟩)) W1):=hrun
  have hobW:∀ k,Ob X W k->k<W.heap.size:=K0.bd hob
  have K1:Kx X l w W1:=K0.trans (Kx.grow hXW hg1)
  have HFR1:Hid (Fre X W1 r):=hid ⟨hsr.lt,by have:=HR.out;omega,fun ⟨v,h1,h2⟩=>by
    have h3:W.cell? ⟨X,0,none⟩=some v:=by rw[<-h1];exact(World.cell?_of_block (a:=⟨X,0,none⟩) (hg1.block X hXW (by simp))).symm
    have:=hobW r ⟨v,h3,h2⟩
    have:=HR.out
    omega⟩
  have HFG1:Hid (Fre X W1 g):=hid (fg.kx K1)
  have hrl:r ≠ l:=by have:=HR.out;omega
  have HK1:Hid (Kx X l w W1):=K1
  have HSR1:Hid (SR W1 g r ns S S cnt0):=hsr
  have HJ1:Hid (J [] W1):=hid (hJ _ _ _ h0 hg1)
  have HX1:Hid (X<W1.heap.size):=hid (Nat.lt_of_lt_of_le hXW hg1.size)
  have HYY:Hid (∀ pre x W1,J pre W1->IdW x->pre.length<1000->YieldAt Fence.wide (n-1) Tryz.prog l (encI x) W1 fun e W'=>e=.returned (.bool true)/\J (pre++[x]) W'/\Kx X l W1 W'):=hY
  have HJJ:Hid (∀ s A B,J s A->A.grownBy B none->J s B):=hJ
  have HJ2:Hid (∀ A B s,Itr A r->J s A->A.grownBy B (some r)->J s B):=fun A B s hi hj hg=>hJ2 s A B r (by have:=HR.out;have:=hW.size;omega) hi hj hg
  have HZS:Hid (zr.size=20):=hid (by rw[HZ.out];rfl)
  clear hrun hsr hY hJ hJ2 h0 hg1 K1 hSW hS
  refine callsIn_of_wp Tryz.func46 rfl trivial ?_ rfl
  simp only[Tryz.ntmps46,List.size_toArray,List.length_cons,List.length_nil,Nat.reduceAdd,Nat.reduceSub,Array.replicate_succ,Array.replicate_zero,List.push_toArray,List.append_toArray,List.nil_append,List.cons_append]
  gi_wp2_with (first
    | refine wpListIn_range rfl 49 _ rfl _ _ rfl HRUN.out ?_
    | fail)
  simp only[Act.put,List.setIfInBounds_toArray,List.set_cons_succ,List.set_cons_zero]
  gi_loopg [3] cnt0 (fun k v wr=>∃ (pre:List (List Int)) (cnt:Nat),k=cnt/\pre.length+cnt<=ns/\Hid (SR wr g r ns S (fun y=>S y/\y ∉ pre) cnt)/\Hid (pre.Nodup/\∀ y ∈ pre,IdW y/\S y)/\Hid (Fre X wr r)/\Hid (Fre X wr g)/\Hid (J pre wr)/\Hid (X<wr.heap.size))
  case atStart=>exact⟨[],cnt0,rfl,by simpa using hcnt,hid (by
      obtain⟨D,left,h1,h2,h3⟩:=HSR1.out
      exact⟨D,left,h1,h2,fun x kl hk=>(h3 x kl hk).trans (by simp)⟩),hid ⟨List.nodup_nil,fun y hy=>by cases hy⟩,HFR1,HFG1,HJ1,HX1⟩
  case round =>
    clear HSR1 HK1 HFR1 HFG1 HJ1 HX1 HRUN
    obtain⟨pre,cnt,hk,hpc,HSR,HPR,HFR,HFG,HJ,HXl⟩:=hrel
    rcases HSR.out.next 0 with ⟨hno,hnx⟩ | ⟨x,w3,cnt',hx,hLx,hSx,hnx,hsr3,hlt,hg3,hen⟩
    · have HL:Hid (vW S pre):=hid ⟨HPR.out.1,fun y hy=>(HPR.out.2 y hy).1,fun y hy=>⟨fun h=>(HPR.out.2 y h).2,fun h=>Classical.byContradiction (fun h2=>hno y hy ⟨h,h2⟩)⟩⟩
      clear hno
      gi_wp2
      go_end0
      exact⟨⟨_,rfl⟩,pre,HL.out,HJ.out⟩
    · obtain⟨RI,HRI⟩:=nm_ (row .u8 x)
      unfold idV at hnx hen
      rw[HRI.out] at hnx hen
      have HXW:Hid (IdW x):=hx
      have HXP:Hid (x ∉ pre):=hLx.2
      have HXS:Hid (S x):=hSx
      -- the iterator's block turns
      have hXr:X ≠ r:=fun e=>HFR.out.ne e.symm
      have hc3:∀ k,Ob X w3 k ↔ Ob X wr k:=fun k=>by
        have e:w3.cell? ⟨X,0,none⟩=wr.cell? ⟨X,0,none⟩:=World.cell?_of_block (a:=⟨X,0,none⟩) (hg3.block X HXl.out (by simp;exact hXr))
        unfold Ob
        rw[e]
      have hs3:=hg3.size
      have hFR3:Fre X w3 r:=⟨Nat.lt_of_lt_of_le HFR.out.lt hs3,HFR.out.ne,fun h=>HFR.out.no ((hc3 r).1 h)⟩
      have hFG3:Fre X w3 g:=⟨Nat.lt_of_lt_of_le HFG.out.lt hs3,HFG.out.ne,fun h=>HFG.out.no ((hc3 g).1 h)⟩
      have hit:Itr wr r:=by
        obtain⟨D,left,⟨es,clock,since,seen,c0,_,_,_,_,hr,_⟩,_⟩:=HSR.out
        exact⟨_,_,_,_,hr⟩
      have hJ3:J pre w3:=HJ2.out wr w3 pre hit HJ.out hg3
      have hX3:X<w3.heap.size:=Nat.lt_of_lt_of_le HXl.out hs3
      have HFN:Hid (RI.length=20):=hid (by rw[<-HRI.out,zq];exact hx.1)
      have hi42:(Tryz.prog.info? 56).map (·.size)=some RI.length:=by rw[HFN.out];exact Tryz.size56
      have I42:Hid ((Tryz.prog.info? 56).map (·.size)=some RI.toArray.size):=hid (by rw[List.size_toArray];exact hi42)
      have E42:Hid (zr.size=RI.toArray.size):=hid (by rw[HZS.out,List.size_toArray,HFN.out])
      have O42:Hid (RI.toArray.all (·.oneCell')=true):=hid (by rw[<-HRI.out];exact all_oneCell_toArray (zV _ _))
      have D0:Hid ((w3.alloc (.cells zr 56)).heap[w3.heap.size]? = some (.cells zr 56 (0,0))):=heap_alloc_new w3 _
      obtain⟨w4,HW4⟩:=nm_ ((w3.alloc (.cells zr 56)).setRow w3.heap.size RI.toArray)
      obtain⟨H,HH⟩:=nm_ w3.heap.size
      obtain⟨hb4,hx4⟩:=laid HW4.out HH.out
      have R4:Hid (w4.rangeAt H 0 RI):=hid (zx hx4)
      have hg4:w3.grownBy w4 none:=zw hb4 _
      have k4:Kx X l w3 w4:=Kx.grow hX3 hg4
      have HSR4:Hid (SR w4 g r ns S (fun y=>(S y/\y ∉ pre)/\y ≠ x) cnt'):=hid (hsr3.below hb4)
      have HFR4:Hid (Fre X w4 r):=hid (hFR3.kx k4)
      have HFG4:Hid (Fre X w4 g):=hid (hFG3.kx k4)
      have hpl:pre.length<1000:=by omega
      obtain⟨fn_,tmps,assign,body,hy,hRr⟩:=HYY.out pre x w4 (HJJ.out _ _ _ hJ3 hg4) hx hpl
      have hRr2:Hid (RoundIn Fence.wide (n-1) Tryz.prog l fn_ tmps assign body w4 fun e W'=>e=.returned (.bool true)/\J (pre++[x]) W'/\Kx X l w4 W'):=hid hRr
      rw[show encI x=#[.agg RI.toArray] by unfold encI;rw[HRI.out]] at hy
      have HX4:Hid (X<w4.heap.size):=hid (Nat.lt_of_lt_of_le hX3 hb4.size)
      clear hg4 hb4 hRr k4 hsr3 hx4 hJ3 hFR3 hFG3 hc3 hx hLx hSx hg3
      gi_wp2_with (first
        | (refine yJ rfl 56 _ _ rfl w3.heap.size RI.toArray rfl rfl 56 zr D0.out I42.out E42.out O42.out ?_;rw[HW4.out,HH.out])
        | refine yv rfl 56 _ rfl H 0 rfl RI _ R4.out Tryz.underlying56 rfl hi42 ?_)
      refine hRr2.out.mono ?_
      rintro e1 W5 ⟨rfl,hJ5,hk5⟩
      have HSR5:Hid (SR W5 g r ns S (fun y=>S y/\y ∉ pre++[x]) cnt'):=hid (by
        obtain⟨D,left,h1,h2,h3⟩:=HSR4.out.kx hk5 HFG4.out hgl HFR4.out hrl
        refine⟨D,left,h1,h2,fun y kl hkl=>(h3 y kl hkl).trans ⟨fun h=>⟨h.1.1,fun hm=>?_⟩,fun h=>⟨⟨h.1,fun hm=>h.2 (by simp[hm])⟩,fun e=>h.2 (by simp[e])⟩⟩⟩
        rcases List.mem_append.1 hm with h4 | h4
        · exact h.1.2 h4
        · exact h.2 (by simpa using h4))
      have HPR5:Hid ((pre++[x]).Nodup/\∀ y ∈ pre++[x],IdW y/\S y):=hid ⟨by
          rw[List.nodup_append]
          refine⟨HPR.out.1,by simp,fun a ha b hb e=>?_⟩
          have:b=x:=by simpa using hb
          rw[e,this] at ha
          exact HXP.out ha,fun y hy=>by
          rcases List.mem_append.1 hy with h4 | h4
          · exact HPR.out.2 y h4
          · rw[show y=x by simpa using h4];exact⟨HXW.out,HXS.out⟩⟩
      have HFR5:Hid (Fre X W5 r):=hid (HFR4.out.kx hk5)
      have HFG5:Hid (Fre X W5 g):=hid (HFG4.out.kx hk5)
      have HJ5:Hid (J (pre++[x]) W5):=hJ5
      have HX5:Hid (X<W5.heap.size):=hid (Nat.lt_of_lt_of_le HX4.out hk5.size)
      have hpl5:(pre++[x]).length+cnt'<=ns:=by rw[List.length_append];simp only[List.length_cons,List.length_nil];omega
      clear hJ5 hk5
      gi_wp2
      gi_roundg cnt'
      case measure=>omega
      case rel=>exact⟨pre++[x],cnt',rfl,hpl5,HSR5,HPR5,HFR5,HFG5,HJ5,HX5⟩
attribute [local go_sem] Oper.semAt_some
def fI (es:List (List Int)):List Value:=es.flatMap (row .u8)
theorem fI_snoc (es:List (List Int)) (x:List Int):fI (es++[x])=fI es++row .u8 x:=by simp[fI]
def CoI (w:World) (X B:Nat) (v:Value) (pre:List (List Int)) (W:World):Prop :=
 ∃ u,Boxed W X 23 u/\W.ownsRow B 56 20 u pre.length (fI pre)/\Mv w W v u
theorem CoI.grow {w:World} {X B:Nat} {v:Value} (s:List (List Int)) (A C:World) (h:CoI w X B v s A) (hg:A.grownBy C none):CoI w X B v s C:=by
 obtain⟨u,h1,h2,h3⟩:=h
 exact⟨u,h1.kept hg (by simp),h2.kept hg (by cases e:u.ownBlock <;> simp),h3.trans (Mv.grow u hg)⟩
theorem CoI.turn {w:World} {X B:Nat} {v:Value} (s:List (List Int)) (A C:World) (r:Nat) (hr:w.heap.size<=r) (hi:Itr A r) (h:CoI w X B v s A) (hg:A.grownBy C (some r)):CoI w X B v s C:=by
 obtain⟨u,h1,h2,h3⟩:=h
 obtain⟨m,s',seen,c,hit⟩:=hi
 have hrX:some X ≠ some r:=fun e=>by
  cases e
  have:=h1
  unfold Boxed at this
  rw[hit] at this
  cases this
 have hru:∀ k,u.ownBlock=some k->k ≠ r:=fun k hk e=>by
  obtain⟨cur,hcur⟩:=Qz h2 hk
  rw[e,hit] at hcur
  cases hcur
 refine⟨u,h1.kept hg hrX,h2.kept hg ?_,⟨hg.os.trans h3.os,hg.tape.trans h3.tape,hg.output.trans h3.output,Nat.le_trans h3.size hg.size,fun k hk hn=>(hg.block k (Nat.lt_of_lt_of_le hk h3.size) (fun e=>by cases e;omega)).trans (h3.blk k hk hn),h3.at_⟩⟩
 cases e:u.ownBlock with
 | none=>exact .inl rfl
 | some k=>exact .inr (fun e2=>hru k e (by cases e2;rfl))
theorem CoI.put {w:World} {X B:Nat} {v:Value} {n:Nat} (hX:X<n) (hw:w.heap.size<=n) (s:List (List Int)) (l:Nat) (W:World) (r r':Loop) (hl:n<=l) (hr:W.heap[l]? = some (.loop r)) (h:CoI w X B v s W):CoI w X B v s (W.putObj l (.loop r')):=by
 obtain⟨u,h1,h2,h3⟩:=h
 exact⟨u,(World.putObj_heap_other (by omega)).trans h1,ownsRow_putObj h2 _ hr rfl,h3.put _ (by omega)⟩
theorem Tryz.results63:Tryz.f63.results=#[.tmp 4]:=by kernel_rfl
def Vv (S:List Int->Prop) (w:World) (e:Ending) (w':World):Prop := ∃ v' xs,e=.returned v'/\vW S xs/\w'.ownsRow w.heap.size 56 20 v' xs.length (fI xs)/\Below w.heap.size w w'
set_option maxRecDepth 100000 in
theorem kW (Bs g ns:Nat) (S:List Int->Prop) (w:World) (hS:SI w g ns S) (hl:ns<=1000) (hbs:Boxed w Bs 49 (.map (some g))) :
  Calls Tryz.prog 63 #[.slice none 0 0,.func (.func 46) #[] #[.pointer (some ⟨Bs,0,none⟩)]] w (Vv S w):=by
 obtain⟨i42,hq,hz0,hz1,hz2⟩:=zQ Tryz.info56
 have HI:Hid (Tryz.prog.info? 56=some i42):=hq
 have HZ0:Hid (i42.zero=some (.agg (row .u8 z20).toArray)):=hz0
 have HZ1:Hid (i42.size=20):=hz1
 have HZ2:Hid (i42.bytes=20):=hz2
 have HS42:Hid ((Tryz.prog.info? 56).map (·.size)=some 20):=Tryz.size56
 clear hq hz0 hz1 hz2
 have HSI:Hid (SI w g ns S):=hS
 have HBS:Hid (Boxed w Bs 49 (.map (some g))):=hbs
 clear hS hbs
 obtain⟨zr,HZ⟩:=nn_ ((row .u8 z20).toArray)
 have hz42:∀ w:World,(zeroValue 56).run Tryz.prog w=.ok (.agg zr) w:=fun w=>by rw[HZ.out];exact zero42 w
 refine(callsIn_wide (n:=3)).1 ?_
 refine callsIn_of_wp_marks Tryz.func63 rfl trivial ?_ rfl
 simp only[Tryz.ntmps63,List.size_toArray,List.length_cons,List.length_nil,Nat.reduceAdd,Nat.reduceSub,Array.replicate_succ,Array.replicate_zero,List.push_toArray,List.append_toArray,List.nil_append,List.cons_append]
 gi_wp2
 obtain⟨X,HX⟩:=nn_ w.heap.size
 obtain⟨WL,HWL⟩:=nm_ (w.alloc (.cells #[.slice none 0 0] 23))
 have hgw:w.grownBy WL none:=by rw[<-HWL.out];exact j7 w _
 have hsz:WL.heap.size=X+1:=by rw[<-HWL.out,HX.out];simp
 have bX:Boxed WL X 23 (.slice none 0 0):=by rw[<-HWL.out,HX.out];exact Boxed.new w 23 _
 have hno:∀ k,¬ Ob X WL k:=fun k ⟨u,h1,h2⟩=>by rw[bX.cell] at h1;cases h1;cases h2
 have hbw:Below w.heap.size w WL:=⟨hgw.os,hgw.tape,hgw.output,hgw.size,fun k hk=>hgw.block k hk (by simp)⟩
 have hI0:CoI w X X (.slice none 0 0) [] WL:=⟨_,bX,World.ownsRow_nil _ _ _ _,Mv.grow _ hgw⟩
 have hSL:SI WL g ns S:=HSI.out.below hbw
 have bS:Boxed WL Bs 49 (.map (some g)):=HBS.out.kept hgw (by simp)
 have hBsX:Bs<X:=by rw[HX.out];exact HBS.out.lt
 have hgX:g<X:=by rw[HX.out];exact HSI.out.lt
 rw[HWL.out]
 rw[<-HX.out]
 have hXw:w.heap.size<=X:=by rw[HX.out];exact Nat.le_refl _
 refine Xu (F:=Fence.wide) (n:=3) rfl (by omega) (gf:=46) (lb:=#[.pointer (some ⟨Bs,0,none⟩)]) rfl trivial (enters_of Tryz.func46 (by kernel_rfl) rfl)
  (keys_all 2 (by omega) WL X Bs g ns S hSL hl bS (by omega) ⟨by omega,by omega,hno _⟩ ⟨by omega,by omega,hno _⟩ (fun k hk=>absurd hk (hno k)))
  (fun _=>rfl) Kx.trans (fun l W r r' hl _=>Kx.loop (r:=r) (by omega)) (fun l W r r' x hl hr hf=>hf)
  (CoI w X X (.slice none 0 0)) (fun s A C h hg=>CoI.grow s A C h hg) (fun s A C r hr hi h hg=>CoI.turn s A C r (by omega) hi h hg) (fun s l W r r' hl hr h=>CoI.put (n:=WL.heap.size) (by omega) (by omega) s l W r r' hl hr h) hI0
  (fun x W=>{ tmps:=#[.slice none 0 0,.func (.func 46) #[] #[.pointer (some ⟨Bs,0,none⟩)],.pointer (some ⟨X,0,none⟩),undef,.slice none 0 0,.pointer (some ⟨W.heap.size,0,none⟩),.func (.func 46) #[] #[.pointer (some ⟨Bs,0,none⟩)],.agg (row .u8 x).toArray,undef,undef,undef,undef,undef],defers:=[] }) (fun x W=>(W.alloc (.cells zr 56)).setRow W.heap.size (row .u8 x).toArray) ?_ ?_ (fun x W h=>h) ?assign ?body ?done
 ·intro x W;exact zw (below_setRow ((Below.refl _ W).alloc (Nat.le_refl _) _) (Nat.le_refl _) _) _
 ·intro l x W h1 h2;exact Kx.grow (by omega) (zw (below_setRow ((Below.refl _ W).alloc (Nat.le_refl _) _) (Nat.le_refl _) _) _)
 case assign =>
  intro l x W K hx20 hK
  obtain⟨R,HR⟩:=nm_ (row .u8 x)
  have HFN:Hid (R.length=20):=hid (by rw[<-HR.out,zq];exact hx20.1)
  have I42:Hid ((Tryz.prog.info? 56).map (·.size)=some R.toArray.size):=hid (by rw[List.size_toArray,HFN.out];exact HS42.out)
  have E42:Hid (zr.size=R.toArray.size):=hid (by rw[HZ.out,List.size_toArray,List.size_toArray,HFN.out];rfl)
  have O42:Hid (R.toArray.all (·.oneCell')=true):=hid (by rw[<-HR.out];exact all_oneCell_toArray (zV _ _))
  have D0:Hid ((W.alloc (.cells zr 56)).heap[W.heap.size]? = some (.cells zr 56 (0,0))):=heap_alloc_new W _
  rw[HR.out] at hK
  dsimp only [encI]
  rw[HR.out]
  gi_wp2_with (refine yJ rfl 56 _ _ rfl W.heap.size R.toArray rfl rfl 56 zr D0.out I42.out E42.out O42.out ?_)
  exact hK
 case body =>
  rintro l pre x W0 W hlX hlW0 hoth ⟨u,b1,o1,m1⟩ hx20 hlen hlW hsW
  have hlX':X+1<=l:=by omega
  clear hsz
  obtain⟨N,HN⟩:=nn_ pre.length
  obtain⟨L,HL⟩:=nn_ (fI pre)
  have hN:N<=1000:=by rw[HN.out];omega
  rw[<-HN.out,<-HL.out] at o1
  obtain⟨ua,uc,rfl⟩:=qw o1
  obtain⟨V,HV⟩:=nm_ W0.heap.size
  obtain⟨R,HR⟩:=nm_ (row .u8 x)
  have HFN:Hid (R.length=20):=hid (by rw[<-HR.out,zq];exact hx20.1)
  have hi42:(Tryz.prog.info? 56).map (·.size)=some R.length:=by rw[HFN.out];exact HS42.out
  have R2:Hid (W.rangeAt V 0 R):=hid (by
   rw[<-HV.out,<-HR.out]
   refine zx (t:=56) (fr:=(0,0)) ?_
   rw[hoth _ (by omega)]
   exact setRow_heap _ _ _ (row .u8 x).toArray _ _ (heap_alloc_new W0 _))
  have HRB:Hid (∀ W,(Instr.buildSlice 23 1 #[(0,.agg R.toArray)]).run Tryz.prog W=.ok (.slice (some ⟨W.heap.size,0,none⟩) 1 1) (W.alloc (.cells R.toArray 56))):=fun W=>by rw[<-HR.out];exact j8 x hx20.1 W
  have HR1:Hid (∀ v ∈ R,v.oneCell'=true):=hid (by rw[<-HR.out];exact zV _ x)
  have hXne:some X ≠ (Value.slice ua N uc).ownBlock:=b1.not_row (by decide) o1
  have k0:=b1.cell
  have f0:=b1.frozen
  have hBW:X<=W.heap.size:=by have:=m1.size;omega
  have HO1:Hid (W.ownsRow X 56 20 (.slice ua N uc) N L):=o1
  have HB1:Hid (Boxed W X 23 (.slice ua N uc)):=b1
  have HM1:Hid (Mv w W (.slice none 0 0) (.slice ua N uc)):=m1
  have HNR:Hid (∀ j z,R[j]? = some z->(W.alloc (.cells R.toArray 56)).cell? ((⟨W.heap.size,0,none⟩:Addr).add j)=some z):=YJ _ _ _
  clear o1 b1 m1 hoth
  rw[HV.out]
  gi_wp2_with (first
   | refine yv rfl 56 _ rfl V 0 rfl R _ R2.out Tryz.underlying56 rfl hi42 ?_
   | refine vV rfl 23 1 _ rfl (.agg R.toArray) _ rfl (HRB.out _) ?_
   | (gi_at_builtin;refine wpListIn_append_own_at _ rfl _ _ 23 rfl X 56 i42 (.agg (row .u8 z20).toArray) 20 20 Tryz.underlying23 HI.out HZ0.out HZ1.out HZ2.out rfl (by decide) _ N L rfl (HO1.out.alloc _) ⟨W.heap.size,0,none⟩ 1 1 R rfl (by rw[HFN.out]) HNR.out HR1.out (by unfold maxLen;omega) (by omega) (by simp;omega) ?_;intro v1 w1 ho1 hg1 hn1 hl1;obtain⟨a1,c1,rfl⟩:=qw ho1;have HV1:Hid (Mv W w1 (.slice ua N uc) (.slice a1 (N+1:Nat) c1)):=Mv.app (j7 W _) hg1 hl1;have HW1:Hid (w1.ownsRow X 56 20 (.slice a1 (N+1:Nat) c1) (N+1) (L++R)):=ho1;clear ho1 hg1 hn1 hl1;have HB2:Hid (Boxed w1 X 23 (.slice ua N uc)):=(HV1.out.blk X HB1.out.lt hXne).trans HB1.out;have kx1:=HB2.out.cell;have fx1:=HB2.out.frozen))
  have K1:=keeps_mv HB1.out HO1.out HV1.out WL.heap.size
  have X1:Kx X l W (w1.setCell ⟨X,0,none⟩ (.slice a1 (N+1:Nat) c1)):=Kx.mv HB1.out HV1.out hXne (fun k hk=>(HW1.out.lt k hk).2)
  have hS3:some X ≠ (Value.slice a1 (N+1:Nat) c1).ownBlock:=Boxed.not_row HB2.out (by decide) HW1.out
  refine⟨K1,X1,_,Boxed.set _ HB2.out,?_,(HM1.out.trans HV1.out).store hXw _⟩
  rw[List.length_append,fI_snoc,<-HN.out,<-HL.out,HR.out]
  exact HW1.out.kept (grownBy_setCell' w1 X (.slice a1 (N+1:Nat) c1)) (.inr (Ne.symm hS3))
 case done =>
  rintro D xs W hD hS ⟨u,b1,o1,m1⟩ hK
  obtain⟨ua,uc,rfl⟩:=qw o1
  have k0:=b1.cell
  have HK:Hid (W.heap[D]? = some (.deferred (some []))):=hK
  have hwD:w.heap.size<=D:=by omega
  gi_wp2
  refine ret_1 Tryz.results63 _ _ D (.slice ua xs.length uc) rfl HK.out _ ⟨_,xs,rfl,hS,?_,(m1.put _ hwD).below (fun k hk=>by cases hk) (Nat.le_refl _)⟩
  rw[<-HX.out]
  exact ownsRow_putObj o1 _ HK.out rfl
theorem keys_call (g:Nat) (w:World):Calls Tryz.prog 26 #[.map (some g)] w fun e w'=>e=.returned (.func (.func 46) #[] #[.pointer (some ⟨w.heap.size,0,none⟩)])/\w'=w.alloc (.cells #[.map (some g)] 49):=by
 go_enter Tryz.func26,Tryz.ntmps26
 go_wp2
 go_ret
 exact⟨rfl,rfl⟩
theorem Y9 (Bs g ns:Nat) (S:List Int->Prop) (w:World) (hS:SI w g ns S) (hl:ns<=1000) (hbs:Boxed w Bs 49 (.map (some g))) :
  Calls Tryz.prog 44 #[.func (.func 46) #[] #[.pointer (some ⟨Bs,0,none⟩)]] w (Vv S w):=by
 have HC:Hid (Calls Tryz.prog 63 #[.slice none 0 0,.func (.func 46) #[] #[.pointer (some ⟨Bs,0,none⟩)]] w (Vv S w)):=kW Bs g ns S w hS hl hbs
 clear hS hbs
 go_enter Tryz.func44,Tryz.ntmps44
 go_wp2_with fail
 refine HC.out.mono ?_
 rintro e w1 ⟨v,xs,rfl,hx,ho,hb⟩
 have HX:Hid (vW S xs):=hx
 have HO:Hid (w1.ownsRow w.heap.size 56 20 v xs.length (fI xs)):=ho
 have HB:Hid (Below w.heap.size w w1):=hb
 clear hx ho hb
 go_wp2
 go_ret
 exact⟨v,xs,rfl,HX.out,HO.out,HB.out⟩
def PostSo (S:List Int->Prop) (w:World) (e:Ending) (w':World):Prop := ∃ a cap xs,e=.returned (.slice a xs.length cap)/\vW S xs/\xs.Pairwise (fun x y=>¬ Lib.bytesOf y<Lib.bytesOf x)/\Pa w' a cap xs/\Below w.heap.size w w'
end Go.Proofs.YticgindfipobiaaGreatDoor.Gr
