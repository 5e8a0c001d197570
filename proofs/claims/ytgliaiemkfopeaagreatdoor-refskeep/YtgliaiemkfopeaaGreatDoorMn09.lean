import Derived.Test.YtgliaiemkfopeaaGreatDoorMn08
import Derived.RangeFuncNested
import Derived.RangeFuncBound
import Derived.RangeFuncCalls
import Derived.RangeFuncLeaves
import Derived.RangeFuncBox
import Derived.Shelf.Abstract
import Derived.Shelf.RegionOpen
import Derived.WalkKit
import Derived.OwnWalkIn
import Derived.TacticsInMore
import Derived.Sort.LoopGhostIn
import Derived.Maps.OwnIn
import Derived.Great.BuildSlice
import Derived.Lib.Split
import Derived.Lib.Strings
import Derived.Lib.IndexMore
import Derived.Shelf.Strings.Split
import Derived.Shelf.Strings.Search3
import Derived.Shelf.Strings.Prefix
import Derived.Shelf.Strings.Runes
import Derived.Test.YtgliaiemkfopeaaGreatDoorProg
import Derived.Test.YtgliaiemkfopeaaGreatDoorChecked
import Derived.RowKit
import Derived.Below
import Derived.WalkSpells
import Derived.WalkLawsBesides
import Derived.Deep.LoopGhost
import Derived.BigQuiet
import Derived.Laws.RangeString
import Derived.Laws.RangeAny
import Derived.Lib.IndexAny
set_option linter.unusedSectionVars false
set_option linter.unusedSimpArgs false
set_option linter.unusedVariables false
set_option maxRecDepth 20000
set_option maxHeartbeats 4000000
namespace Go.Proofs.YtgliaiemkfopeaaGreatDoor.K
open Go.RowKit Go.Shelf
theorem Z2 (w:World) (o:Obj):w.grownBy (w.alloc o) none:=World.grownBy_alloc w o none
def SeqAll {α:Type} (Bs:Nat) (F:Fence) (n:Nat) (P:Program) (g:Nat) (lb:Array Value) (encs:α->Array Value) (Fx:α->World->Prop) (Kp:Nat->World->World->Prop) (S:List α->Prop) (N:Nat) (w0:World):Prop :=
 ∀ (l:Nat) (J:List α->World->Prop) (W:World),Below w0.heap.size w0 W->w0.heap.size<=l->l<W.heap.size →
  (∀ s A B,J s A->A.grownBy B none->J s B)->(∀ s A B,J s A->A.grownBy B (some Bs)->J s B) →
  (∀ pre x W1,J pre W1->Fx x W1->pre.length<N->YieldAt F (n-1) P l (encs x) W1 fun e W'=>e=.returned (.bool true)/\J (pre++[x]) W'/\Kp l W1 W') →
  J [] W →
  CallsIn F n P g (#[.func (.yield l) #[] #[]]++lb) W fun e W'=>(∃ v,e=.returned v)/\∃ xs,S xs/\J xs W'
def Ob (X:Nat) (W:World) (k:Nat):Prop := ∃ v,W.cell? ⟨X,0,none⟩=some v/\v.ownBlock=some k
structure Kx (X l:Nat) (A B:World):Prop where
 os:B.os=A.os
 tape:B.tape=A.tape
 output:B.output=A.output
 size:A.heap.size<=B.heap.size
 at_:∀ k,Ob X B k->Ob X A k ∨ A.heap.size<=k
 blk:∀ k,k<A.heap.size->k ≠ X->k ≠ l->¬ Ob X A k->B.heap[k]? = A.heap[k]?
 bd:(∀ k,Ob X A k->k<A.heap.size)->∀ k,Ob X B k->k<B.heap.size
theorem Kx.refl (X l:Nat) (A:World):Kx X l A A:=⟨rfl,rfl,rfl,Nat.le_refl _,fun _ h=>.inl h,fun _ _ _ _ _=>rfl,fun h=>h⟩
theorem Kx.trans {X l:Nat} {A B C:World} (h:Kx X l A B) (k:Kx X l B C):Kx X l A C:=by
 have hs:=h.size
 refine⟨k.os.trans h.os,k.tape.trans h.tape,k.output.trans h.output,Nat.le_trans h.size k.size,fun i hi=>?_,fun i h1 h2 h3 h4=>?_,fun hb=>k.bd (h.bd hb)⟩
 ·rcases k.at_ i hi with g | g
  ·exact h.at_ i g
  ·exact .inr (by omega)
 ·refine(k.blk i (by omega) h2 h3 (fun ho=>?_)).trans (h.blk i h1 h2 h3 h4)
  rcases h.at_ i ho with g | g
  ·exact h4 g
  ·omega
theorem Kx.grow {X l:Nat} {A B:World} (hX:X<A.heap.size) (h:A.grownBy B none):Kx X l A B :=
 ⟨h.os,h.tape,h.output,h.size,fun k ⟨v,h1,h2⟩=>.inl ⟨v,by rw[<-h1];exact(World.cell?_of_block (a:=⟨X,0,none⟩) (h.block X hX (by simp))).symm,h2⟩,fun k h1 _ _ _=>h.block k h1 (by simp),fun hb k ⟨v,h1,h2⟩=>Nat.lt_of_lt_of_le (hb k ⟨v,by rw[<-h1];exact(World.cell?_of_block (a:=⟨X,0,none⟩) (h.block X hX (by simp))).symm,h2⟩) h.size⟩
theorem Kx.loop {X l:Nat} {W:World} {r r':Loop} (hX:X ≠ l):Kx X l W (W.putObj l (.loop r')) :=
 ⟨rfl,rfl,rfl,by rw[World.putObj_size];exact Nat.le_refl _,fun k ⟨v,h1,h2⟩=>.inl ⟨v,by rw[<-h1];exact(World.cell?_of_block (a:=⟨X,0,none⟩) (World.putObj_heap_other hX)).symm,h2⟩,fun k h1 _ h3 _=>World.putObj_heap_other h3,fun hb k ⟨v,h1,h2⟩=>by rw[World.putObj_size];exact hb k ⟨v,by rw[<-h1];exact(World.cell?_of_block (a:=⟨X,0,none⟩) (World.putObj_heap_other hX)).symm,h2⟩⟩
theorem Kx.keep {X l k:Nat} {A B:World} (h:Kx X l A B) (h1:k<A.heap.size) (h2:k ≠ X) (h3:k ≠ l) (h4:¬ Ob X A k):B.heap[k]? = A.heap[k]? := h.blk k h1 h2 h3 h4
structure Fre (X:Nat) (w:World) (k:Nat):Prop where
 lt:k<w.heap.size
 ne:k ≠ X
 no:¬ Ob X w k
theorem Fre.kx {X l k:Nat} {A B:World} (h:Fre X A k) (hk:Kx X l A B):Fre X B k :=
 ⟨Nat.lt_of_lt_of_le h.lt hk.size,h.ne,fun ho=>by rcases hk.at_ k ho with g | g;exact h.no g;have:=h.lt;omega⟩
theorem boxed_kx {X l B t:Nat} {v:Value} {A W:World} (h:Boxed A B t v) (hk:Kx X l A W) (hf:Fre X A B) (hl:B ≠ l):Boxed W B t v:=(hk.blk B hf.lt hf.ne hl hf.no).trans h
theorem grown_drewN1 (w:World):w.grownBy w.drew none:=⟨rfl,rfl,rfl,Nat.le_refl _,fun _ _ _=>rfl⟩
theorem Xq {F:Fence} {nF:Nat} {P:Program} {ops:Array Oper} {rest:List Oper} {op:Oper} {a:Act} {w:World} {Q:Exit->Act->World->Prop} (hgd:op.guard=none) (ty:TypeId) (x:Operand) (ho:op.op=.load ty x)
  (b o:Nat) (hx:a.eval x=.pointer (some ⟨b,o,none⟩)) (cs:List Value) (d:TypeDesc) (hc:w.rangeAt b o cs)
  (hu:P.underlying ty=some d) (hd:d.isRow=true) (hi:(P.info? ty).map (·.size)=some cs.length)
  (h:wpListIn F nF P ops Q rest (a.put op.dst (.agg cs.toArray)) w):wpListIn F nF P ops Q (op :: rest) a w:=by
 refine wpListIn_plain hgd fun K hK=>?_
 unfold Oper.wpIn
 refine⟨by simp[Oper.about,ho],?_⟩
 rw[Oper.semAt_plain F _ _ (by rw[ho];intro c hc';cases hc')]
 unfold execOp
 simp only[ho,hx,Instr.loadAt,Instr.sureAddr,Sem.run_bind,Sem.run_pure,Result.andThen_ok,run_loadVar_mid w b o ty cs d hc hu hd hi]
 exact hK _ _ h
theorem Yw {F:Fence} {nF:Nat} {P:Program} {ops:Array Oper} {rest:List Oper} {o:Oper} {a:Act} {w:World} {Q:Exit->Act->World->Prop} (hgd:o.guard=none) (ty:TypeId) (x y:Operand) (ho:o.op=.store ty x y)
  (g:Nat) (cells:Array Value) (hx:a.eval x=.pointer (some ⟨g,0,none⟩)) (hy:a.eval y=.agg cells)
  (t:TypeId) (old:Array Value) (hg:w.heap[g]? = some (.cells old t (0,0))) (hi:(P.info? ty).map (·.size)=some cells.size)
  (hold:old.size=cells.size) (h1:cells.all (·.oneCell')=true)
  (h:wpListIn F nF P ops Q rest (a.put o.dst undef) (w.setRow g cells)):wpListIn F nF P ops Q (o :: rest) a w:=by
 refine wpListIn_plain hgd fun K hK=>?_
 unfold Oper.wpIn
 refine⟨by simp[Oper.about,ho],?_⟩
 rw[Oper.semAt_plain F _ _ (by rw[ho];intro c hc';cases hc')]
 unfold execOp
 simp only[ho,hx,hy,Instr.storeAt,Instr.sureAddr,Sem.run_bind,Sem.run_pure,Result.andThen_ok,run_storeVar_row w g t ty old cells hg hi hold h1]
 exact hK _ _ h
theorem Kx.mv {X l ty:Nat} {W W1:World} {v v1:Value} (hb:Boxed W X ty v) (h:Mv W W1 v v1) (hne:some X ≠ v.ownBlock) (hlt:∀ k,v1.ownBlock=some k->k<W1.heap.size):Kx X l W (W1.setCell ⟨X,0,none⟩ v1):=by
 have hX:=hb.lt
 have hs:=h.size
 have hb1:W1.heap[X]? = W.heap[X]? := h.blk X hX hne
 have hc:(W1.setCell ⟨X,0,none⟩ v1).cell? ⟨X,0,none⟩=some v1:=World.cell?_setCell_same (u:=v) _ _ _ ((World.cell?_of_block (a:=⟨X,0,none⟩) hb1).trans hb.cell)
 refine⟨h.os,h.tape,h.output,by simp[World.setCell];exact hs,fun k ⟨u,h1,h2⟩=>?_,fun k h1 h2 h3 h4=>?_,fun _ k ⟨u,h1,h2⟩=>by rw[hc] at h1;cases h1;simp[World.setCell];exact hlt k h2⟩
 ·rw[hc] at h1
  cases h1
  rcases h.at_ with g | g
  ·exact .inl ⟨v,hb.cell,by rw[<-g];exact h2⟩
  ·exact .inr (g k h2)
 ·rw[Below.heap_setCell _ _ _ k h2]
  exact h.blk k h1 (fun e=>h4 ⟨v,hb.cell,e.symm⟩)
theorem owns_cells {W:World} {B e s:Nat} {u:Value} {n:Nat} {xs:List Value} (h:W.ownsRow B e s u n xs) {k:Nat} (hk:u.ownBlock=some k):∃ cur,W.heap[k]? = some (.cells cur e (0,0)):=by
 obtain⟨_,⟨rfl,_⟩ | ⟨g,cap,cur,rfl,_,h2,_⟩⟩:=h
 ·cases hk
 ·simp[Value.ownBlock] at hk;subst hk;exact⟨cur,h2⟩
theorem keeps_mv {W W1:World} {X:Nat} {u u1:Value} {B n ty e s:Nat} {xs:List Value} (hb:Boxed W X ty u) (ho:W.ownsRow B e s u n xs) (h:Mv W W1 u u1) (Bx:Nat):KeepsFrom Bx W (W1.setCell ⟨X,0,none⟩ u1):=by
 refine⟨by simp[World.setCell];exact h.size,fun k o _ hk hc=>?_⟩
 have hkX:k ≠ X:=fun e=>by rw[e,show W.heap[X]? = _ from hb] at hk;cases hk;cases hc
 rw[Below.heap_setCell _ _ _ k hkX,h.blk k (Array.getElem?_eq_some_iff.1 hk).1 (fun e=>?_)]
 ·exact hk
 ·obtain⟨cur,hcur⟩:=owns_cells ho e.symm
  rw[hcur] at hk;cases hk;cases hc
theorem Mv.store {w W1:World} {v u1:Value} (h:Mv w W1 v u1) {X:Nat} (hX:w.heap.size<=X) (y:Value):Mv w (W1.setCell ⟨X,0,none⟩ y) v u1 :=
 ⟨h.os,h.tape,h.output,by simp[World.setCell];exact h.size,fun k hk hn=>(Below.heap_setCell _ _ _ k (by show k ≠ X;omega)).trans (h.blk k hk hn),h.at_⟩
theorem Y8 {F:Fence} {nF:Nat} {P:Program} {ops:Array Oper} {rest:List Oper} {o:Oper} {a:Act} {w w':World} {Q:Exit->Act->World->Prop} (hg:o.guard=none) (t len:Nat) (x:Operand) (ho:o.op=.buildSlice t len #[(0,x)]) (u v:Value) (hx:a.eval x=u)
  (hr:(Instr.buildSlice t len #[(0,u)]).run P w=.ok v w')
  (h:wpListIn F nF P ops Q rest (a.put o.dst v) w'):wpListIn F nF P ops Q (o :: rest) a w:=by
 refine wpListIn_plain hg fun K hK=>?_
 unfold Oper.wpIn
 refine⟨by simp[Oper.about,ho],?_⟩
 rw[Oper.semAt_plain F _ _ (by rw[ho];intro c hc';cases hc')]
 unfold execOp
 simp[ho,hx,hr,Result.andThen]
 exact hK _ _ h
theorem news_rowE (w:World) (RF:List Value) (t:TypeId):∀ j u,RF[j]? = some u->(w.alloc (.cells RF.toArray t)).cell? ((⟨w.heap.size,0,none⟩:Addr).add j)=some u:=fun j u hj=>by
 have h:=zy (heap_alloc_new w (.cells RF.toArray t)) j u hj
 rw[yV]
 exact h
theorem range_allA {α:Type} {F:Fence} {n:Nat} {P:Program} {g:Operand} {ps:Array Tmp} {assign body:Code} {Q:Exit->Act->World->Prop} {a:Act} {w:World}
  (hro:F.round=none) (h1:1<=n) {gf:Nat} {lb:Array Value} (hg:a.eval g=.func (.func gf) #[] lb) (hFg:F.fn gf) (eg:∀ args w,(callFunc gf args).run P w=.ok (.enter gf args) w)
  {encs:α->Array Value} {Fx:α->World->Prop} {Kp:Nat->World->World->Prop} {S:List α->Prop} {N Bs:Nat} (hBs:Bs<w.heap.size) (hseq:SeqAll Bs F (n-1) P gf lb encs Fx Kp S N w) (hps:∀ x,(encs x).size=ps.size)
  (hKt:∀ {l:Nat} {A B C:World},Kp l A B->Kp l B C->Kp l A C) (hKl:∀ (l:Nat) (W:World) (r r':Loop),w.heap.size<=l->W.heap[l]? = some (.loop r)->Kp l W (W.putObj l (.loop r')))
  (hFl:∀ (l:Nat) (W:World) (r r':Loop) (x:α),w.heap.size<=l->W.heap[l]? = some (.loop r)->Fx x W->Fx x (W.putObj l (.loop r')))
  (I:List α->World->Prop) (hI:∀ s A B,I s A->A.grownBy B none->I s B) (hI2:∀ s A B,I s A->A.grownBy B (some Bs)->I s B) (hIl:∀ (s:List α) (l:Nat) (W:World) (r r':Loop),w.heap.size<=l->W.heap[l]? = some (.loop r)->I s W->I s (W.putObj l (.loop r')))
  (h0:I [] w) (ax:α->World->Act) (aw:α->World->World) (hag:∀ (x:α) (W:World),W.grownBy (aw x W) none) (hKa:∀ (l:Nat) (x:α) (W:World),w.heap.size<=l->l<W.heap.size->Kp l W (aw x W)) (hFa:∀ (x:α) (W:World),Fx x W->Fx x (aw x W))
  (hassign:∀ (l:Nat) (x:α) (W:World) (K:Act->World->Prop),Fx x W->K (ax x W) (aw x W)->assign.wpIn (F.inRound l) (n-1-1) P (Exit.then K (fun _ _ _=>False)) { tmps:=(ps.zip (encs x)).foldl (fun t (p,v)=>t.setIfInBounds p v) a.tmps,defers:=[] } W)
  (hbody:∀ (l:Nat) (pre:List α) (x:α) (W0 W:World),w.heap.size<=l->l<W0.heap.size->(∀ k,k ≠ l->W.heap[k]? = (aw x W0).heap[k]?)->I pre W->Fx x W->pre.length<N->l<W.heap.size->W0.heap.size<=W.heap.size->body.wpIn (F.inRound l) (n-1-1) P (fun e _ W'=>e=.normal/\KeepsFrom w.heap.size W W'/\Kp l W W'/\I (pre++[x]) W') (ax x W0) W)
  (hdone:∀ (D:Nat) (xs:List α) (W:World),w.heap.size<=D->S xs->I xs W->W.heap[D]? = some (.deferred (some []))->Q .normal { a with defers:={ target:=.collected D,args:=#[] } :: a.defers } W) :
  (Code.rangeFunc g ps assign body).wpIn F n P Q a w:=by
 refine wpIn_rangeFunc ?_
 intro fn hfn
 rw[hro]
 obtain⟨rc,hrc⟩:∃ rc:LoopState->Loop,rc=fun st=>{ state:=st,pending:=none,fn,tmps:=a.tmps,params:=ps,assign,body,defers:=w.heap.size }:=⟨_,rfl⟩
 obtain⟨W1,hW1⟩:∃ W1,(w.alloc (.deferred (some []))).alloc (.loop (rc .ready))=W1:=⟨_,rfl⟩
 have hg1:w.grownBy W1 none:=by rw[<-hW1];exact(Z2 w _).trans (Z2 _ _)
 have hs1:W1.heap.size=w.heap.size+2:=by rw[<-hW1];simp
 have hL1:W1.heap[w.heap.size+1]? = some (.loop (rc .ready)):=by
  rw[<-hW1];have:=World.alloc_heap_new (w.alloc (.deferred (some []))) (.loop (rc .ready));rwa [World.size_alloc] at this
 have hD1:W1.heap[w.heap.size]? = some (.deferred (some [])):=by
  rw[<-hW1];exact(Below.heap_alloc _ _ _ (by simp)).trans (World.alloc_heap_new w _)
 have hb1:Below w.heap.size w W1:=⟨hg1.os,hg1.tape,hg1.output,hg1.size,fun k hk=>hg1.block k hk (by simp)⟩
 refine⟨w.heap.size+1,[{ target:=.collected w.heap.size,args:=#[] }],W1,{ target:=.fn (.func gf) lb,args:=#[.func (.yield (w.heap.size+1)) #[] #[]] },W1,gf,
  #[.func (.yield (w.heap.size+1)) #[] #[]]++lb,W1,?_,?_,?_,?_,fun _=>h1,?_⟩
 ·rw[<-hW1,hrc];exact run_enterLoop_outer _ _ _ _ _
 ·simp only[resolve,hg]
  simp[go_sem]
 ·intro f' hf';simp[Target.leads] at hf';subst hf';exact hFg
 ·simp[invoke,go_sem,eg]
 ·have keep:∀ {A B:World} {k:Nat} {o:Obj},A.grownBy B none->A.heap[k]? = some o->B.heap[k]? = some o:=fun hg' hk=>(hg'.block _ (Array.getElem?_eq_some_iff.1 hk).1 (by simp)).trans hk
  refine(hseq (w.heap.size+1) (fun pre W=>I pre W/\W.heap[w.heap.size+1]? = some (.loop (rc .ready))/\W.heap[w.heap.size]? = some (.deferred (some []))) W1 hb1 (by omega) (by omega)
   (fun s A B hs hg'=>⟨hI s A B hs.1 hg',keep hg' hs.2.1,keep hg' hs.2.2⟩) (fun s A B hs hg'=>⟨hI2 s A B hs.1 hg',(hg'.block _ (Array.getElem?_eq_some_iff.1 hs.2.1).1 (fun e=>by cases e;omega)).trans hs.2.1,(hg'.block _ (Array.getElem?_eq_some_iff.1 hs.2.2).1 (fun e=>by cases e;omega)).trans hs.2.2⟩) ?_ ⟨hI _ _ _ h0 hg1,hL1,hD1⟩).mono ?_
  ·rintro pre x W0 ⟨hi0,hl0,hd0⟩ hfx0 hlen
   have hlt0:w.heap.size+1<W0.heap.size:=(Array.getElem?_eq_some_iff.1 hl0).1
   have hy:=run_yield (P:=P) (args:=encs x) hl0 (by rw[hrc];exact hps x)
   rw[hrc] at hy
   have hle:w.heap.size<=w.heap.size+1:=by omega
   have hga:=hag x W0
   have hi:=hI _ _ _ hi0 hga
   have hl:=keep hga hl0
   have hd:=keep hga hd0
   have hfx:=hFa x W0 hfx0
   have hKp0:=hKa (w.heap.size+1) x W0 hle hlt0
   refine⟨fn,_,assign,body,hy,roundIn_of_wpIn hfn (hassign _ x W0 _ hfx0 ?_)⟩
   have hbody0:=hbody (w.heap.size+1) pre x W0
   have hsz0:=hga.size
   generalize hWW:aw x W0=W at hi hl hd hfx hKp0 hbody0 hsz0 ⊢
   have hlt:w.heap.size+1<W.heap.size:=(Array.getElem?_eq_some_iff.1 hl).1
   refine⟨_,run_beginRound hl (by rw[hrc]),?_⟩
   have hl2:(W.putObj (w.heap.size+1) (.loop { rc .ready with state:=.busy })).heap[w.heap.size+1]? = some (.loop { rc .ready with state:=.busy }):=World.putObj_heap_same hlt
   have hd2:(W.putObj (w.heap.size+1) (.loop { rc .ready with state:=.busy })).heap[w.heap.size]? = some (.deferred (some [])):=(World.putObj_heap_other (by omega)).trans hd
   refine wpIn_mono (hbody0 _ hle hlt0 (fun k hk=>World.putObj_heap_other hk) (hIl _ _ _ _ _ hle hl hi) (hFl _ _ _ _ _ hle hl hfx) hlen (by rw[World.putObj_size];exact hlt) (by rw[World.putObj_size];exact hsz0)) ?_
   rintro e a3 W3 ⟨rfl,hk3,hkp3,hi3⟩
   have hl3:=hk3.same _ _ hle hl2 rfl
   have hd3:=hk3.same _ _ (Nat.le_refl _) hd2 rfl
   have hr:=run_endRound (P:=P) none hl3
   refine⟨_,_,hr,rfl,⟨hIl _ _ _ _ _ hle hl3 hi3,?_,(World.putObj_heap_other (by omega)).trans hd3⟩,hKt hKp0 (hKt (hKt (hKl _ _ _ _ hle hl) hkp3) (hKl _ _ _ _ hle hl3))⟩
   rw[World.putObj_heap_same (Array.getElem?_eq_some_iff.1 hl3).1,hrc]
   rfl
  ·rintro e W2 ⟨⟨v,rfl⟩,xs,hS,hi,hl,hd⟩
   refine⟨none,_,by have:=run_endLoop (P:=P) hl (by rw[hrc];simp);rw[hrc] at this;exact this,?_⟩
   exact hdone _ xs _ (Nat.le_refl _) hS (hIl _ _ _ _ _ (by omega) hl hi) ((World.putObj_heap_other (by omega)).trans hd)
end Go.Proofs.YtgliaiemkfopeaaGreatDoor.K
namespace Go.Proofs.YtgliaiemkfopeaaGreatDoor.K
open Go.RowKit
section
variable {P : Program} {md : Region.Mode} {ops : Array Oper} {Q : Exit → Act → World → Prop} {S : World → Prop} {n : Nat}
def anyU (P:Program) (md:Region.Mode) (ops:Array Oper) (Q:Exit->Act->World->Prop) (S:World->Prop) (n:Nat):Nat->Array Bool->Act->World->Prop
 | 0,listed,a,w=>Region.ready md ops listed=[]/\Q .normal a w
 | fuel+1,listed,a,w =>
  (Region.ready md ops listed=[]->Q .normal a w)/\
  ∀ i ∈ Region.ready md ops listed,wpOp P ops Q i (fun a' w'=>(i=n ∨ S w')/\anyU P md ops Q S n fuel (listed.setIfInBounds i true) a' w') a w
theorem any_of_U:∀ (fuel:Nat) (listed:Array Bool) (a:Act) (w:World),anyU P md ops Q S n fuel listed a w->wpAny P md ops Q fuel listed a w
 | 0,_,_,_,h=>h
 | fuel+1,_,_,_,h=>⟨h.1,fun i hi=>wpOp_mono (fun a' w' h'=>any_of_U fuel _ a' w' h'.2) (h.2 i hi)⟩
def waits (md:Region.Mode) (ops:Array Oper) (n i:Nat):Bool:=match ops[n]? with
 | some o=>o.after.any fun e=>Region.binds md e && e.on == i
 | none=>true
theorem U_first {i:Nat} {oi:Oper} {v:Value} (hi:ops[i]? = some oi) (hsel:∀ (j:Nat) (o:Oper) cs b,ops[j]? = some o->o.op ≠ .select cs b) (hn:waits md ops n i=true)
  (hQ:∀ c a w,Q (.panic c) (a.put oi.dst v) w->Q (.panic c) a w) :
  ∀ (fuel:Nat) (listed:Array Bool) (a:Act) (w:World),
   (∀ j oj,ops[j]? = some oj->j ≠ i->listed.getD j true=false->(∀ e ∈ oj.after,Region.binds md e=true->e.on ≠ i)->oi.apart ops oj=true) →
   i ∈ Region.ready md ops listed->YieldsIf P ops S oi v a->S w →
   anyU P md ops Q S n fuel (listed.setIfInBounds i true) (a.put oi.dst v) w->anyU P md ops Q S n (fuel+1) listed a w:=by
 intro fuel
 induction fuel with
 | zero =>
  intro listed a w _ hr hy hS H
  refine⟨fun h=>(by rw[h] at hr;cases hr),fun j hj=>?_⟩
  by_cases hji:j=i
  ·subst hji;exact hy.wpOp hi hS ⟨.inr hS,H⟩
  ·have:=ready_mono hj hji
   rw[H.1] at this
   cases this
 | succ fuel ih =>
  intro listed a w hfree hr hy hS H
  refine⟨fun h=>(by rw[h] at hr;cases hr),fun j hj=>?_⟩
  by_cases hji:j=i
  ·subst hji;exact hy.wpOp hi hS ⟨.inr hS,H⟩
  ·have h1:=H.2 j (ready_mono hj hji)
   obtain⟨hjun,oj,hoj,hall⟩:=mem_ready.1 hj
   have hnot:∀ e ∈ oj.after,Region.binds md e=true->e.on ≠ i:=fun e he hb heq=>by
    have g1:=hall e he hb
    have g0:=(mem_ready.1 hr).1
    rw[heq] at g1
    rcases Nat.lt_or_ge i listed.size with h' | h'
    ·simp[h'] at g0 g1;rw[g0] at g1;cases g1
    ·simp[Array.getElem?_eq_none h'] at g1
   have hjn:j ≠ n:=fun e=>by
    subst e
    unfold waits at hn
    rw[hoj] at hn
    simp only[Array.any_eq_true] at hn
    obtain⟨k,hk,hk2⟩:=hn
    simp only[Bool.and_eq_true,beq_iff_eq] at hk2
    exact hnot _ (Array.getElem_mem hk) hk2.1 hk2.2
   have h2:=wpOp_putIf hoj (hfree j oj hoj hji hjun hnot) (fun cs b=>hsel i oi cs b hi) (fun cs b=>hsel j oj cs b hoj) hQ hy h1
   have hfree':∀ k ok,ops[k]? = some ok->k ≠ i->(listed.setIfInBounds j true).getD k true=false →
     (∀ e ∈ ok.after,Region.binds md e=true->e.on ≠ i)->oi.apart ops ok=true:=fun k ok hk hki hun hno=>by
    refine hfree k ok hk hki ?_ hno
    by_cases hjk:j=k
    ·subst hjk;exact hjun
    ·rw[getD_set_ne true hjk] at hun;exact hun
   refine wpOp_mono (fun a' w' h3=>⟨h3.2.1,?_⟩) h2
   have hS':S w':=h3.2.1.resolve_left hjn
   refine ih (listed.setIfInBounds j true) a' w' hfree' (ready_mono hr (Ne.symm hji)) h3.1 hS' ?_
   rw[Array.setIfInBounds_comm _ _ hji]
   exact h3.2.2
end
theorem takeU {P:Program} {md:Region.Mode} {Q:Exit->Act->World->Prop} {S:World->Prop} {n:Nat} {l:List Oper} {i:Nat} {oi:Oper} {v:Value} {fuel:Nat} {listed:Array Bool} {a:Act} {w:World} (hi:l[i]? = some oi)
  (hs:Region.noSelect l.toArray=true) (hf:Region.free md l.toArray listed i=true) (hr:(Region.ready md l.toArray listed).contains i=true) (hn:waits md l.toArray n i=true)
  (hQ:∀ c a w,Q (.panic c) (a.put oi.dst v) w->Q (.panic c) a w) (hy:YieldsIf P l.toArray S oi v a) (hS:S w)
  (h:anyU P md l.toArray Q S n fuel (listed.setIfInBounds i true) (a.put oi.dst v) w):anyU P md l.toArray Q S n (fuel+1) listed a w:=by
 have hi':l.toArray[i]? = some oi:=by rw[List.getElem?_toArray];exact hi
 exact U_first hi' (Region.noSelect_spec hs) hn hQ fuel listed a w (Region.free_spec hi' hf) (by simpa using hr) hy hS h
def oneU (P:Program) (md:Region.Mode) (ops:Array Oper) (Q:Exit->Act->World->Prop) (S:World->Prop) (n fuel:Nat) (listed:Array Bool) (a:Act) (w:World) (i:Nat):Prop :=
 wpOp P ops Q i (fun a' w'=>(i=n ∨ S w')/\anyU P md ops Q S n fuel (listed.setIfInBounds i true) a' w') a w
theorem xW {P:Program} {md:Region.Mode} {Q:Exit->Act->World->Prop} {S:World->Prop} {n i fuel:Nat} {ops:Array Oper} {listed:Array Bool} {a:Act} {w:World} (hr:Region.ready md ops listed=[i])
  (h:oneU P md ops Q S n fuel listed a w i):anyU P md ops Q S n (fuel+1) listed a w :=
 ⟨fun h0=>(by rw[hr] at h0;cases h0),fun j hj=>by rw[hr] at hj;obtain rfl:=List.mem_singleton.1 hj;exact h⟩
theorem k9 {P:Program} {md:Region.Mode} {Q:Exit->Act->World->Prop} {S:World->Prop} {n:Nat} {l:List Oper} {fuel:Nat} {listed:Array Bool} {a:Act} {w:World} {i:Nat} {o:Oper} (ho:l[i]? = some o)
  (h:∀ K':Act->World->Prop,Shut (∀ a w,(i=n ∨ S w)->anyU P md l.toArray Q S n fuel (listed.setIfInBounds i true) a w->K' a w)->if Region.wanted o (yielded l.toArray a.tmps)=true then Oper.wp P o a w K' Q else K' (a.put o.dst undef) w) :
  oneU P md l.toArray Q S n fuel listed a w i:=by
 have ho':l.toArray[i]? = some o:=by rw[List.getElem?_toArray];exact ho
 exact wpOp_step ho' (fun K' hK=>h K' (fun a w hS hW=>hK a w ⟨hS,hW⟩))
theorem doneU {P:Program} {md:Region.Mode} {Q:Exit->Act->World->Prop} {S:World->Prop} {n:Nat} {ops:Array Oper} {listed:Array Bool} {a:Act} {w:World} (hr:Region.ready md ops listed=[]) (h:Q .normal a w) :
  ∀ fuel,anyU P md ops Q S n fuel listed a w
 | 0=>⟨hr,h⟩
 | _+1=>⟨fun _=>h,by rw[hr];simp⟩
theorem Xx {P:Program} {Q:Exit->Act->World->Prop} {id:Nat} {a:Act} {w:World} {ops:Array Oper} (S:World->Prop) (n:Nat) (hm:P.follows .mixedOrders=true)
  (h:anyU P .any ops Q S n ops.size (Array.replicate ops.size false) a w.drew):(Code.region id ops true).wp P Q a w :=
 wp_region_any hm (any_of_U _ _ _ _ h)
theorem Yq {P:Program} {md:Region.Mode} {Q:Exit->Act->World->Prop} {S:World->Prop} {n:Nat} {l:List Oper} {i:Nat} {oi:Oper} {v:Value} {fuel:Nat} {listed:Array Bool} {a:Act} {w:World} (hS:S w)
  (hy:∀ w',S w'->(execOp a.eval oi).run P w'=.ok (.value v) w')
  (h:anyU P md l.toArray Q S n fuel (listed.setIfInBounds i true) (a.put oi.dst v) w) (hx:listed.toList.findIdx? (fun b => !b)=some i:=by rfl) (hi:l[i]? = some oi:=by rfl)
  (hs:Region.noSelect l.toArray=true:=by kernel_rfl) (hf:Region.free md l.toArray listed i=true:=by kernel_rfl) (hr:(Region.ready md l.toArray listed).contains i=true:=by kernel_rfl) (hn:waits md l.toArray n i=true:=by kernel_rfl) (hQ:∀ c a w,Q (.panic c) (a.put oi.dst v) w->Q (.panic c) a w:=by exact fun _ _ _ h=>h) (hg:Region.wanted oi (yielded l.toArray a.tmps)=true:=by rfl) :
  anyU P md l.toArray Q S n (fuel+1) listed a w:=takeU hi hs hf hr hn hQ (Or.inl ⟨hg,hy⟩) hS h
end Go.Proofs.YtgliaiemkfopeaaGreatDoor.K
namespace Go.Proofs.YtgliaiemkfopeaaGreatDoor.Nm
def spl:List UInt8->List (List UInt8)
 | []=>[[]]
 | c :: t=>if c=47 then [] :: spl t else match spl t with
  | []=>[[c]]
  | p :: ps=>(c :: p) :: ps
theorem spl_ne:∀ s,spl s ≠ []
 | []=>by simp[spl]
 | c :: t=>by
  rw[spl]
  split
  ·simp
  ·split <;> simp
theorem Z4:∀ s:List UInt8,(Lib.index s [47] = -1/\spl s=[s]) ∨ ∃ i:Nat,Lib.index s [47]=i/\i<s.length/\s=s.take i++47 :: s.drop (i+1)/\spl s=s.take i :: spl (s.drop (i+1))
 | []=>.inl ⟨by decide,by simp[spl]⟩
 | c :: t=>by
  by_cases hc:c=47
  ·subst hc
   refine .inr ⟨0,?_,by simp,by simp,?_⟩
   ·rw[Lib.index];simp[List.isPrefixOf]
   ·rw[spl];simp
  ·have hp:([47] : List UInt8).isPrefixOf (c :: t)=false:=by
    simp[List.isPrefixOf]
    exact fun h=>hc h.symm
   rcases Z4 t with ⟨h1,h2⟩ | ⟨i,h1,h2,h3,h4⟩
   ·refine .inl ⟨?_,?_⟩
    ·rw[Lib.index,hp,h1];rfl
    ·rw[spl,if_neg hc,h2]
   ·refine .inr ⟨i+1,?_,by simp;exact h2,?_,?_⟩
    ·rw[Lib.index,hp,h1]
     have:¬ ((i:Int) == -1)=true:=by simp
     rw[if_neg (by decide),if_neg this]
     omega
    ·simp
     exact h3
    ·rw[spl,if_neg hc,h4]
     simp
theorem splitK_spl:∀ (k:Nat) (s:List UInt8),(spl s).length<=k+1->Lib.splitK [47] 0 k s=spl s
 | 0,s,h=>by
  rcases Z4 s with ⟨h1,h2⟩ | ⟨i,h1,h2,h3,h4⟩
  ·rw[h2];rfl
  ·rw[h4,List.length_cons] at h
   have:=List.length_pos_iff.2 (spl_ne (s.drop (i+1)))
   omega
 | k+1,s,h=>by
  rcases Z4 s with ⟨h1,h2⟩ | ⟨i,h1,h2,h3,h4⟩
  ·rw[Lib.splitK,h1,h2];rfl
  ·rw[h4] at h
   rw[Lib.splitK,h1,h4]
   have:¬ ((i:Int) == -1)=true:=by simp
   rw[if_neg this]
   simp only[Int.toNat_natCast,Nat.add_zero,List.length_cons,List.length_nil,Nat.zero_add]
   rw[splitK_spl k _ (by simp at h;omega)]
theorem Y0:∀ (f:Nat) (s:List UInt8),s.length+1<=f->(spl s).length=Lib.countFrom [47] f s+1
 | 0,s,h=>by omega
 | f+1,s,h=>by
  rcases Z4 s with ⟨h1,h2⟩ | ⟨i,h1,h2,h3,h4⟩
  ·rw[Lib.countFrom,h1,h2];rfl
  ·rw[Lib.countFrom,h1,h4]
   have:¬ ((i:Int) == -1)=true:=by simp
   rw[if_neg this]
   simp only[Int.toNat_natCast,List.length_cons,List.length_nil,Nat.zero_add]
   have:=Y0 f (s.drop (i+1)) (by rw[List.length_drop];omega)
   omega
theorem split_spl (s:List UInt8):Lib.split s [47]=spl s:=splitK_spl _ s (by rw[Y0 (s.length+1) s (Nat.le_refl _)];exact Nat.le_refl _)
def xQ (a b:UInt8):List UInt8->Bool
 | x :: y :: t=>(x == a && y == b) || xQ a b (y :: t)
 | _=>false
theorem kK (a b:UInt8):∀ s:List UInt8,Lib.contains s [a,b]=xQ a b s
 | []=>by simp[Lib.contains,Lib.index,xQ]
 | [x]=>by simp[Lib.contains,Lib.index,xQ,List.isPrefixOf]
 | x :: y :: t=>by
  have ih:=kK a b (y :: t)
  rw[xQ,<-ih,Lib.contains,Lib.contains,Lib.index]
  have hge:=Lib.index_ge (y :: t) [a,b]
  by_cases h:([a,b] : List UInt8).isPrefixOf (x :: y :: t)=true
  ·rw[if_pos h]
   have:(x == a && y == b)=true:=by
    simp[List.isPrefixOf] at h ⊢
    exact⟨h.1.symm,h.2.symm⟩
   rw[this]
   simp
  ·rw[if_neg h]
   have:(x == a && y == b)=false:=by
    rw[Bool.eq_false_iff]
    intro h2
    apply h
    simp[List.isPrefixOf] at h2 ⊢
    exact⟨h2.1.symm,h2.2.symm⟩
   rw[this,Bool.false_or]
   by_cases hm:Lib.index (y :: t) [a,b] = -1
   ·rw[hm];rfl
   ·rw[if_neg (by simpa using hm)]
    rw[decide_eq_decide]
    omega
def partOk (p:List UInt8):Bool := !p.isEmpty && !Lib.hasPrefix p [46] && !Lib.hasSuffix p [46,108,111,99,107]
def byteOk (c:UInt8):Bool:=decide (33<=c.toNat) && decide (c.toNat<=126) && !([126,94,58,63,42,91,92] : List UInt8).contains c
def dgo:List UInt8->Option UInt8->List UInt8->Bool
 | cur,_,[]=>partOk cur
 | cur,pv,c :: t=>if c=47 then partOk cur && dgo [] (some 47) t else byteOk c && !(c == 46 && pv == some 46) && !(c == 123 && pv == some 64) && dgo (cur++[c]) (some c) t
def splC (cur t:List UInt8):List (List UInt8):=match spl t with
 | []=>[cur]
 | p :: ps=>(cur++p) :: ps
theorem splC_nil (t:List UInt8):splC [] t=spl t:=by
 unfold splC
 split
 ·rename_i h;exact absurd h (spl_ne t)
 ·rename_i h;rw[h];simp
theorem hasPair_cons (a b x:UInt8) (t:List UInt8) (y:UInt8):xQ a b (x :: y :: t)=((x == a && y == b) || xQ a b (y :: t)):=rfl
theorem pair_pv (a b:UInt8) (pv:Option UInt8) (c:UInt8) (t:List UInt8):xQ a b (pv.toList++c :: t)=((c == b && pv == some a) || xQ a b (c :: t)):=by
 cases pv with
 | none=>simp
 | some x =>
  show xQ a b (x :: c :: t)=_
  rw[hasPair_cons]
  congr 1
  rw[Bool.and_comm]
  simp
theorem dgo_iff:∀ (t cur:List UInt8) (pv:Option UInt8),dgo cur pv t=((splC cur t).all partOk && t.all byteOk && !xQ 46 46 (pv.toList++t) && !xQ 64 123 (pv.toList++t))
 | [],cur,pv=>by
  cases pv <;> simp[dgo,splC,spl,xQ]
 | c :: t,cur,pv=>by
  rw[dgo,pair_pv,pair_pv]
  by_cases hc:c=47
  ·subst hc
   rw[if_pos rfl,dgo_iff t [] (some 47),splC_nil]
   have e1:splC cur (47 :: t)=cur :: spl t:=by simp[splC,spl]
   have e2:byteOk 47=true:=by decide
   rw[e1,List.all_cons,List.all_cons,e2]
   simp only[Option.toList_some,List.singleton_append]
   have e3:((47:UInt8) == 46)=false:=by decide
   have e4:((47:UInt8) == 123)=false:=by decide
   rw[e3,e4]
   simp only[Bool.false_and,Bool.false_or,Bool.true_and]
   cases partOk cur <;> simp
  ·rw[if_neg hc,dgo_iff t (cur++[c]) (some c)]
   have e1:splC (cur++[c]) t=splC cur (c :: t):=by
    unfold splC
    rw[spl,if_neg hc]
    split
    ·rename_i h;exact absurd h (spl_ne t)
    ·rename_i h;simp
   rw[e1,List.all_cons]
   simp only[Option.toList_some,List.singleton_append]
   cases byteOk c <;> cases (splC cur (c :: t)).all partOk <;> cases (c == 46 && pv == some 46) <;> cases (c == 123 && pv == some 64) <;> simp
def docOk (s:List UInt8):Bool:=decide (s.length<=60) && decide (6<=s.length) && (s.take 5 == [114,101,102,115,47]) && !Lib.hasSuffix s [46] && dgo [] none s
def prgOk (s:List UInt8):Bool:=decide (s.length<=60) && ((spl s).all partOk && ((spl s).headD [] == [114,101,102,115]) && decide (1<(spl s).length)) && s.all byteOk && !Lib.contains s [46,46] && !Lib.contains s [64,123] && !Lib.hasSuffix s [46]
theorem refs_iff (s:List UInt8) (hp:(spl s).all partOk=true):(((spl s).headD [] == [114,101,102,115]) && decide (1<(spl s).length))=(decide (6<=s.length) && (s.take 5 == [114,101,102,115,47])):=by
 rw[Bool.eq_iff_iff]
 simp only[Bool.and_eq_true,beq_iff_eq,decide_eq_true_eq]
 constructor
 ·rintro⟨h1,h2⟩
  rcases Z4 s with ⟨_,e⟩ | ⟨i,_,hi,hs,e⟩
  ·rw[e] at h2;simp at h2
  ·rw[e] at h1 hp
   simp at h1
   rw[h1] at hs
   have hne:s.drop (i+1) ≠ []:=by
    intro h
    rw[h] at hp
    simp[spl,partOk] at hp
   rw[hs]
   have:=List.length_pos_iff.2 hne
   constructor
   ·simp only[List.length_append,List.length_cons,List.length_nil]
    omega
   ·simp
 ·rintro⟨h1,h2⟩
  have hs:s=[114,101,102,115,47]++s.drop 5:=by
   rw[<-h2,List.take_append_drop]
  obtain⟨t,ht⟩:∃ t,t=s.drop 5:=⟨_,rfl⟩
  rw[<-ht] at hs
  have e:spl s=[114,101,102,115] :: spl t:=by
   rw[hs]
   simp[spl]
  rw[e]
  have:=List.length_pos_iff.2 (spl_ne t)
  refine⟨by simp,by simp;omega⟩
theorem ok_same (s:List UInt8):prgOk s=docOk s:=by
 unfold prgOk docOk
 rw[dgo_iff,splC_nil,kK,kK]
 simp only[Option.toList_none,List.nil_append]
 cases hp:(spl s).all partOk with
 | false=>simp
 | true =>
  have:=refs_iff s hp
  rw[Bool.true_and,this]
  cases decide (s.length<=60) <;> cases decide (6<=s.length) <;> cases (s.take 5 == [114,101,102,115,47]) <;> cases s.all byteOk <;> cases xQ 46 46 s <;> cases xQ 64 123 s <;> cases Lib.hasSuffix s [46] <;> rfl
end Go.Proofs.YtgliaiemkfopeaaGreatDoor.Nm
namespace Go.Proofs.YtgliaiemkfopeaaGreatDoor.Nm
open Go.Shelf
def Tryz.lays146_ren:Go.Shelf.Ren:=⟨fun | 146=>129 | 221=>159 | 268=>192 | 138=>193 | 143=>131 | 195=>216 | 197=>204 | 218=>217 | 219=>160 | 260=>229 | 217=>194 | 225=>180 | 224=>179 | 267=>195 | 266=>218 | 314=>219 | n=>n,fun | 9=>9 | 31=>64 | 3=>3 | 4=>4 | 0=>0 | 105=>307 | 21=>21 | 5=>5 | 46=>39 | 119=>334 | 139=>337 | 138=>336 | 146=>287 | 51=>218 | n=>n,fun | 1=>2 | 3=>6 | 4=>7 | n=>n⟩
theorem Tryz.lays146:Go.Proofs.Lays.n146 Tryz.prog Tryz.lays146_ren:={
 mixed:=by kernel_rfl
 f138:=Tryz.func193.trans (congrArg some (by kernel_rfl))
 f143:=Tryz.func131.trans (congrArg some (by kernel_rfl))
 f146:=Tryz.func129.trans (congrArg some (by kernel_rfl))
 f195:=Tryz.func216.trans (congrArg some (by kernel_rfl))
 f197:=Tryz.func204.trans (congrArg some (by kernel_rfl))
 f217:=Tryz.func194.trans (congrArg some (by kernel_rfl))
 f218:=Tryz.func217.trans (congrArg some (by kernel_rfl))
 f219:=Tryz.func160.trans (congrArg some (by kernel_rfl))
 f221:=Tryz.func159.trans (congrArg some (by kernel_rfl))
 f224:=Tryz.func179.trans (congrArg some (by kernel_rfl))
 f225:=Tryz.func180.trans (congrArg some (by kernel_rfl))
 f260:=Tryz.func229.trans (congrArg some (by kernel_rfl))
 f266:=Tryz.func218.trans (congrArg some (by kernel_rfl))
 f267:=Tryz.func195.trans (congrArg some (by kernel_rfl))
 f268:=Tryz.func192.trans (congrArg some (by kernel_rfl))
 f314:=Tryz.func219.trans (congrArg some (by kernel_rfl))
 t0:=Tryz.underlying0
 a0:=Tryz.isAgg0
 z0:=Tryz.sizeOf0
 v0:=Tryz.zeroValue0
 t3:=Tryz.underlying3
 a3:=Tryz.isAgg3
 z3:=Tryz.sizeOf3
 v3:=Tryz.zeroValue3
 t4:=Tryz.underlying4
 a4:=Tryz.isAgg4
 z4:=Tryz.sizeOf4
 v4:=Tryz.zeroValue4
 t5:=Tryz.underlying5
 a5:=Tryz.isAgg5
 z5:=Tryz.sizeOf5
 v5:=Tryz.zeroValue5
 t9:=Tryz.underlying9
 a9:=Tryz.isAgg9
 z9:=Tryz.sizeOf9
 v9:=Tryz.zeroValue9
 t21:=Tryz.underlying21
 a21:=Tryz.isAgg21
 z21:=Tryz.sizeOf21
 v21:=Tryz.zeroValue21
 t31:=Tryz.underlying64
 a31:=Tryz.isAgg64
 z31:=Tryz.sizeOf64
 v31:=Tryz.zeroValue64
 t46:=Tryz.underlying39
 a46:=Tryz.isAgg39
 z46:=Tryz.sizeOf39
 v46:=Tryz.zeroValue39
 t51:=Tryz.underlying218
 a51:=Tryz.isAgg218
 z51:=Tryz.sizeOf218
 v51:=Tryz.zeroValue218
 t105:=Tryz.underlying307
 a105:=Tryz.isAgg307
 z105:=Tryz.sizeOf307
 v105:=Tryz.zeroValue307
 t119:=Tryz.underlying334
 a119:=Tryz.isAgg334
 z119:=Tryz.sizeOf334
 t138:=Tryz.underlying336
 a138:=Tryz.isAgg336
 z138:=Tryz.sizeOf336
 v138:=Tryz.zeroValue336
 t139:=Tryz.underlying337
 a139:=Tryz.isAgg337
 z139:=Tryz.sizeOf337
 v139:=Tryz.zeroValue337
 t146:=Tryz.underlying287
 a146:=Tryz.isAgg287
 z146:=Tryz.sizeOf287
 v146:=Tryz.zeroValue287
 g1:=by kernel_rfl
 g3:=by kernel_rfl
 g4:=by kernel_rfl }
def Tryz.lays144_ren:Go.Shelf.Ren:=⟨fun | 144=>93 | 143=>131 | 219=>160 | 217=>194 | 225=>180 | 224=>179 | 267=>195 | 266=>218 | 314=>219 | n=>n,fun | 9=>9 | 4=>4 | 3=>3 | 5=>5 | 46=>39 | 146=>287 | 51=>218 | n=>n,fun | 1=>2 | n=>n⟩
theorem Tryz.lays144:Go.Proofs.Lays.n144 Tryz.prog Tryz.lays144_ren:={
 mixed:=by kernel_rfl
 f143:=Tryz.func131.trans (congrArg some (by kernel_rfl))
 f144:=Tryz.func93.trans (congrArg some (by kernel_rfl))
 f217:=Tryz.func194.trans (congrArg some (by kernel_rfl))
 f219:=Tryz.func160.trans (congrArg some (by kernel_rfl))
 f224:=Tryz.func179.trans (congrArg some (by kernel_rfl))
 f225:=Tryz.func180.trans (congrArg some (by kernel_rfl))
 f266:=Tryz.func218.trans (congrArg some (by kernel_rfl))
 f267:=Tryz.func195.trans (congrArg some (by kernel_rfl))
 f314:=Tryz.func219.trans (congrArg some (by kernel_rfl))
 t3:=Tryz.underlying3
 a3:=Tryz.isAgg3
 z3:=Tryz.sizeOf3
 v3:=Tryz.zeroValue3
 t4:=Tryz.underlying4
 a4:=Tryz.isAgg4
 z4:=Tryz.sizeOf4
 v4:=Tryz.zeroValue4
 t5:=Tryz.underlying5
 a5:=Tryz.isAgg5
 z5:=Tryz.sizeOf5
 v5:=Tryz.zeroValue5
 t9:=Tryz.underlying9
 a9:=Tryz.isAgg9
 z9:=Tryz.sizeOf9
 v9:=Tryz.zeroValue9
 t46:=Tryz.underlying39
 a46:=Tryz.isAgg39
 z46:=Tryz.sizeOf39
 v46:=Tryz.zeroValue39
 t51:=Tryz.underlying218
 a51:=Tryz.isAgg218
 z51:=Tryz.sizeOf218
 v51:=Tryz.zeroValue218
 t146:=Tryz.underlying287
 a146:=Tryz.isAgg287
 z146:=Tryz.sizeOf287
 v146:=Tryz.zeroValue287
 g1:=by kernel_rfl }
def Tryz.lays100_ren:Go.Shelf.Ren:=⟨fun | 100=>94 | 207=>132 | n=>n,fun | 9=>9 | 4=>4 | 3=>3 | n=>n,fun | n=>n⟩
theorem Tryz.lays100:Go.Proofs.Lays.n100 Tryz.prog Tryz.lays100_ren:={
 mixed:=by kernel_rfl
 f100:=Tryz.func94.trans (congrArg some (by kernel_rfl))
 f207:=Tryz.func132.trans (congrArg some (by kernel_rfl))
 t3:=Tryz.underlying3
 a3:=Tryz.isAgg3
 z3:=Tryz.sizeOf3
 v3:=Tryz.zeroValue3
 t4:=Tryz.underlying4
 a4:=Tryz.isAgg4
 z4:=Tryz.sizeOf4
 v4:=Tryz.zeroValue4
 t9:=Tryz.underlying9
 a9:=Tryz.isAgg9
 z9:=Tryz.sizeOf9
 v9:=Tryz.zeroValue9 }
def Tryz.lays99_ren:Go.Shelf.Ren:=⟨fun | 99=>63 | 206=>100 | n=>n,fun | 9=>9 | 4=>4 | 3=>3 | n=>n,fun | n=>n⟩
theorem Tryz.lays99:Go.Proofs.Lays.n99 Tryz.prog Tryz.lays99_ren:={
 mixed:=by kernel_rfl
 f99:=Tryz.func63.trans (congrArg some (by kernel_rfl))
 f206:=Tryz.func100.trans (congrArg some (by kernel_rfl))
 t3:=Tryz.underlying3
 a3:=Tryz.isAgg3
 z3:=Tryz.sizeOf3
 v3:=Tryz.zeroValue3
 t4:=Tryz.underlying4
 a4:=Tryz.isAgg4
 z4:=Tryz.sizeOf4
 v4:=Tryz.zeroValue4
 t9:=Tryz.underlying9
 a9:=Tryz.isAgg9
 z9:=Tryz.sizeOf9
 v9:=Tryz.zeroValue9 }
def Tryz.lays151_ren:Go.Shelf.Ren:=⟨fun | 151=>130 | 152=>145 | 137=>177 | 119=>178 | 224=>179 | 225=>180 | 217=>194 | 266=>218 | n=>n,fun | 9=>9 | 21=>21 | 4=>4 | 3=>3 | 5=>5 | 0=>0 | 46=>39 | n=>n,fun | n=>n⟩
theorem Tryz.lays151:Go.Proofs.Lays.n151 Tryz.prog Tryz.lays151_ren:={
 mixed:=by kernel_rfl
 f119:=Tryz.func178.trans (congrArg some (by kernel_rfl))
 f137:=Tryz.func177.trans (congrArg some (by kernel_rfl))
 f151:=Tryz.func130.trans (congrArg some (by kernel_rfl))
 f152:=Tryz.func145.trans (congrArg some (by kernel_rfl))
 f217:=Tryz.func194.trans (congrArg some (by kernel_rfl))
 f224:=Tryz.func179.trans (congrArg some (by kernel_rfl))
 f225:=Tryz.func180.trans (congrArg some (by kernel_rfl))
 f266:=Tryz.func218.trans (congrArg some (by kernel_rfl))
 t0:=Tryz.underlying0
 a0:=Tryz.isAgg0
 z0:=Tryz.sizeOf0
 v0:=Tryz.zeroValue0
 t3:=Tryz.underlying3
 a3:=Tryz.isAgg3
 z3:=Tryz.sizeOf3
 v3:=Tryz.zeroValue3
 t4:=Tryz.underlying4
 a4:=Tryz.isAgg4
 z4:=Tryz.sizeOf4
 v4:=Tryz.zeroValue4
 t5:=Tryz.underlying5
 a5:=Tryz.isAgg5
 z5:=Tryz.sizeOf5
 v5:=Tryz.zeroValue5
 t9:=Tryz.underlying9
 a9:=Tryz.isAgg9
 z9:=Tryz.sizeOf9
 v9:=Tryz.zeroValue9
 t21:=Tryz.underlying21
 a21:=Tryz.isAgg21
 z21:=Tryz.sizeOf21
 v21:=Tryz.zeroValue21
 t46:=Tryz.underlying39
 a46:=Tryz.isAgg39
 z46:=Tryz.sizeOf39
 v46:=Tryz.zeroValue39 }
end Go.Proofs.YtgliaiemkfopeaaGreatDoor.Nm
namespace Go.Proofs.YtgliaiemkfopeaaGreatDoor.Nm
open Go.RowKit
theorem hid {p:Prop} (h:p):Hid p:=h
theorem Zv (w:World) (s:ByteArray) (pos:Nat):Below w.heap.size w (w.iter s pos) :=
 ⟨rfl,rfl,rfl,by simp[World.iter],fun k hk=>by
  show (w.heap.push _)[k]? = _
  rw[Array.getElem?_push,if_neg (by omega)]⟩
theorem rune_any (c:Int) (w:World) (h0:0<=c) (h1:c<128) :
  Calls Tryz.prog 130 #[.string ⟨#[126,94,58,63,42,91,92]⟩,.int .i32 c] w fun e w'=>e=.returned (.bool (([126,94,58,63,42,91,92] : List UInt8).contains c.toNat.toUInt8))/\w'=w:=by
 refine(Any.strings_ContainsRune_ascii Tryz.lays151 ⟨#[126,94,58,63,42,91,92]⟩ c w h0 h1).mono ?_
 rintro e w' ⟨rfl,rfl⟩
 exact⟨by rw[Lib.contains_iff_indexByte],rfl⟩
set_option maxRecDepth 100000 in
set_option maxHeartbeats 1000000 in
theorem hasRunes_any (s:List UInt8) (w:World) :
  Calls Tryz.prog 92 #[.string ⟨s.toArray⟩] w fun e w'=>e=.returned (.bool (s.all byteOk))/\Below w.heap.size w w':=by
 obtain⟨S,HS⟩:=nm_ (⟨s.toArray⟩:ByteArray)
 obtain⟨n,HN⟩:=nm_ s.length
 have hsz:S.size=n:=by rw[<-HS.out,<-HN.out];simp[ByteArray.size]
 have HBI:Hid (∀ pos,Below w.heap.size w (w.iter S pos)):=fun pos=>Zv w S pos
 have HG:Hid (∀ pos (h:pos<S.size),s[pos]? = some (S[pos]'h)):=fun pos h=>by
  have:=Lib.data_getElem? S pos h
  rw[<-this,<-HS.out]
 have HBAD:Hid (∀ pos x,s[pos]? = some x->byteOk x=false->s.all byteOk=false):=fun pos x hx hb=>by
  rw[Bool.eq_false_iff]
  intro h
  have:=List.all_eq_true.1 h x (List.mem_of_getElem? hx)
  rw[hb] at this
  cases this
 rw[HS.out]
 go_enter Tryz.func92,Tryz.ntmps92
 go_wp2
 go_loopw [] (fun w'=>∃ pos:Nat,w'=w.iter S pos/\pos<=n/\Hid (∀ x ∈ s.take pos,byteOk x=true)) (fun w'=>n-w'.iterPos w.heap.size)
 case atStart=>exact⟨0,rfl,Nat.zero_le _,hid (by simp)⟩
 case round =>
  obtain⟨pos,rfl,hpn,HD⟩:=hrel
  by_cases hp:pos<S.size
  ·have hnx:∀ ty,(Instr.next (.pointer (some ⟨w.heap.size,0,none⟩)) true ty).run Tryz.prog (w.iter S pos)=_:=fun ty=>run_next_any w S pos ty hp
   obtain⟨x,HX⟩:=nm_ (S[pos]'hp)
   have HSX:Hid (s[pos]? = some x):=hid (by rw[<-HX.out];exact HG.out pos hp)
   by_cases h128:x.toNat<128
   ·have hdec:=decode_ascii S pos hp (by rw[HX.out];exact h128)
    rw[HX.out] at hdec
    rw[hdec] at hnx
    obtain⟨c,HC⟩:=nm_ (x.toNat:Int)
    simp only[HC.out] at hnx
    have hc0:0<=c:=by rw[<-HC.out];omega
    have hc1:c<128:=by rw[<-HC.out];omega
    have HT:Hid (c.toNat.toUInt8=x):=hid (by rw[<-HC.out];simp)
    clear hdec
    by_cases h33:c<33
    ·have HB:Hid (s.all byteOk=false):=hid (HBAD.out pos x HSX.out (by unfold byteOk;rw[decide_eq_false (by have:=HC.out;omega)];rfl))
     go_wp2
     go_ret
     exact⟨by rw[HB.out];rfl,HBI.out _⟩
    ·by_cases h126:126<c
     ·have HB:Hid (s.all byteOk=false):=hid (HBAD.out pos x HSX.out (by unfold byteOk;rw[decide_eq_false (show ¬ x.toNat<=126 by have:=HC.out;omega)];simp))
      go_wp2
      go_ret
      exact⟨by rw[HB.out];rfl,HBI.out _⟩
     ·obtain⟨b,HBB⟩:=nm_ (([126,94,58,63,42,91,92] : List UInt8).contains x)
      have CR:Hid (∀ w,Calls Tryz.prog 130 #[.string ⟨#[126,94,58,63,42,91,92]⟩,.int .i32 c] w fun e w'=>e=.returned (.bool b)/\w'=w):=fun w=>by
       have:=rune_any c w hc0 hc1
       rw[HT.out,HBB.out] at this
       exact this
      have HOK:Hid (byteOk x = !b):=hid (by
       unfold byteOk
       rw[HBB.out,decide_eq_true (show 33<=x.toNat by have:=HC.out;omega),decide_eq_true (show x.toNat<=126 by have:=HC.out;omega)]
       rfl)
      have hpn':pos<n:=by rw[<-hsz];exact hp
      cases b with
      | true =>
       have HB:Hid (s.all byteOk=false):=hid (HBAD.out pos x HSX.out HOK.out)
       go_wp2_with (go_at_call 130;refine(CR.out _).mono ?_;rintro e w' ⟨rfl,rfl⟩)
       go_ret
       exact⟨by rw[HB.out];rfl,HBI.out _⟩
      | false =>
       go_wp2_with (go_at_call 130;refine(CR.out _).mono ?_;rintro e w' ⟨rfl,rfl⟩)
       go_roundw
       case rel =>
        refine⟨pos+1,rfl,by omega,hid ?_⟩
        rw[List.take_add_one,HSX.out]
        intro y hy
        rcases List.mem_append.1 hy with hy | hy
        ·exact HD.out y hy
        ·have:y=x:=by simpa using hy
         subst this
         exact HOK.out
       case measure =>
        simp
        omega
   ·have hdec:=decode_high S pos hp (by rw[HX.out];omega)
    have HB:Hid (s.all byteOk=false):=hid (HBAD.out pos x HSX.out (by unfold byteOk;rw[decide_eq_false (show ¬ x.toNat<=126 by omega)];simp))
    obtain⟨c,HC⟩:=nm_ ((Utf8.decode S pos).1:Int)
    simp only[HC.out] at hnx
    have h126:126<c:=by rw[<-HC.out];omega
    have h33:¬ c<33:=by omega
    clear hdec
    go_wp2
    go_ret
    exact⟨by rw[HB.out];rfl,HBI.out _⟩
  ·have hnx:∀ ty,(Instr.next (.pointer (some ⟨w.heap.size,0,none⟩)) true ty).run Tryz.prog (w.iter S pos)=_:=fun ty=>run_next_end w S pos ty hp
   have HB:Hid (s.all byteOk=true):=hid (by
    have h:=HD.out
    rw[List.take_of_length_le (by rw[HN.out];omega)] at h
    exact List.all_eq_true.2 h)
   go_wp2
   go_ret
   exact⟨by rw[HB.out];rfl,HBI.out _⟩
def Mx (w:World):Prop := ∃ m,w.cell? ⟨2,0,none⟩=some (.int .i64 m)
theorem cell_lt {w:World} {p:Addr} {v:Value} (h:w.cell? p=some v):p.block<w.heap.size:=by
 apply Classical.byContradiction
 intro hn
 rw[World.cell?,Array.getElem?_eq_none (by omega)] at h
 cases h
theorem Mx.below {w w':World} (h:Mx w) (hb:Below w.heap.size w w'):Mx w':=by
 obtain⟨m,hm⟩:=h
 exact⟨m,(hb.cell (p:=⟨2,0,none⟩) (cell_lt hm)).trans hm⟩
theorem txt_len (l:List UInt8):(⟨l.toArray⟩:ByteArray).size=l.length:=by simp[ByteArray.size]
theorem Tryz.info9:(Tryz.prog.info? 9).map (fun i=>(i.zero,i.size,i.bytes))=some (some (.string ByteArray.empty),1,16):=by kernel_rfl
def pV (p:List UInt8):Value:=.string ⟨p.toArray⟩
theorem split_any (s:List UInt8) (hs:s.length<=100000) (w:World) (hm:Mx w) :
  Calls Tryz.prog 129 #[.string ⟨s.toArray⟩,.string ⟨#[47]⟩] w fun e w'=>e=.returned (.slice (some ⟨w.heap.size,0,none⟩) (spl s).length (spl s).length)/\w'=w.alloc (.cells ((spl s).map pV).toArray 9):=by
 obtain⟨m,hm⟩:=hm
 refine(Any.strings_Split Tryz.lays146 Tryz.info9 ⟨s.toArray⟩ ⟨#[47]⟩ m w (by rw[txt_len];omega) hm (by decide)).mono ?_
 rintro e w' ⟨rfl,rfl⟩
 have hc:Lib.countB ⟨s.toArray⟩ ⟨#[47]⟩=Lib.count s [47]:=rfl
 have hd:=Lib.splitB_data ⟨#[47]⟩ 0 (Lib.count s [47]) ⟨s.toArray⟩
 have hd2:(Lib.splitB ⟨#[47]⟩ 0 (Lib.count s [47]) ⟨s.toArray⟩).map (·.data.toList)=spl s:=hd.trans (split_spl s)
 have hl:(spl s).length=Lib.count s [47]+1:=Y0 (s.length+1) s (Nat.le_refl _)
 have hv:(Lib.splitB ⟨#[47]⟩ 0 (Lib.count s [47]) ⟨s.toArray⟩).map Value.string=(spl s).map pV:=by
  rw[<-hd2,List.map_map]
  refine List.map_congr_left fun b _=>?_
  simp[pV]
 rw[hc,hv,hl]
 exact⟨rfl,rfl⟩
theorem hasPrefix_any (s p:List UInt8) (w:World):Calls Tryz.prog 63 #[.string ⟨s.toArray⟩,.string ⟨p.toArray⟩] w fun e w'=>e=.returned (.bool (Lib.hasPrefix s p))/\w'=w :=
 Any.strings_HasPrefix Tryz.lays99 ⟨s.toArray⟩ ⟨p.toArray⟩ w
theorem hasSuffix_any (s p:List UInt8) (hs:s.length<=100000) (w:World):Calls Tryz.prog 94 #[.string ⟨s.toArray⟩,.string ⟨p.toArray⟩] w fun e w'=>e=.returned (.bool (Lib.hasSuffix s p))/\w'=w :=
 Any.strings_HasSuffix Tryz.lays100 ⟨s.toArray⟩ ⟨p.toArray⟩ w (by rw[txt_len];omega)
theorem Xj (s p:List UInt8) (hs:s.length<=100000) (w:World) (hm:Mx w):Calls Tryz.prog 93 #[.string ⟨s.toArray⟩,.string ⟨p.toArray⟩] w fun e w'=>e=.returned (.bool (Lib.contains s p))/\w'=w:=by
 obtain⟨m,hm⟩:=hm
 exact Any.strings_Contains Tryz.lays144 ⟨s.toArray⟩ ⟨p.toArray⟩ m w (by rw[txt_len];omega) hm
theorem spl_len (s:List UInt8):∀ p ∈ spl s,p.length<=s.length:=by
 induction s with
 | nil=>intro p hp;simp[spl] at hp;subst hp;simp
 | cons c t ih =>
  intro p hp
  rw[spl] at hp
  split at hp
  ·rcases List.mem_cons.1 hp with rfl | hp
   ·simp
   ·have:=ih p hp;simp;omega
  ·cases hq:spl t with
   | nil=>exact absurd hq (spl_ne t)
   | cons q qs =>
    rw[hq] at hp ih
    rcases List.mem_cons.1 hp with rfl | hp
    ·have:=ih q (by simp);simp;omega
    ·have:=ih p (by simp[hp]);simp;omega
set_option maxRecDepth 100000 in
set_option maxHeartbeats 1000000 in
theorem hasParts_any (s:List UInt8) (hs:s.length<=100000) (w:World) (hm:Mx w) :
  Calls Tryz.prog 91 #[.string ⟨s.toArray⟩] w fun e w'=>e=.returned (.bool ((spl s).all partOk && ((spl s).headD [] == [114,101,102,115]) && decide (1<(spl s).length)))/\Below w.heap.size w w':=by
 obtain⟨S,HS⟩:=nm_ (⟨s.toArray⟩:ByteArray)
 obtain⟨ps,HP⟩:=nm_ (spl s)
 obtain⟨n,HN⟩:=nm_ ps.length
 have hn0:0<n:=by rw[<-HN.out,<-HP.out];exact List.length_pos_iff.2 (spl_ne s)
 have hnl:n<=100001:=by
  rw[<-HN.out,<-HP.out]
  have:=Y0 (s.length+1) s (Nat.le_refl _)
  have h2:∀ s:List UInt8,(spl s).length<=s.length+1:=by
   intro s
   induction s with
   | nil=>simp[spl]
   | cons c t ih =>
    rw[spl]
    split
    ·simp;omega
    ·cases hq:spl t with
     | nil=>simp
     | cons q qs=>rw[hq] at ih;simp at ih ⊢;omega
  have:=h2 s
  omega
 have HLN:Hid (∀ p ∈ ps,p.length<=100000):=hid (by rw[<-HP.out];intro p hp;have:=spl_len s p hp;omega)
 obtain⟨G,HG⟩:=nm_ w.heap.size
 obtain⟨w1,HW1⟩:=nm_ (w.alloc (.cells (ps.map pV).toArray 9))
 have C10:Hid (Calls Tryz.prog 129 #[.string S,.string ⟨#[47]⟩] w fun e w'=>e=.returned (.slice (some ⟨G,0,none⟩) n n)/\w'=w1):=hid (by
  have:=split_any s hs w hm
  rw[HS.out,HP.out,HN.out,HG.out,HW1.out] at this
  exact this)
 have HB:Hid (Below w.heap.size w w1):=hid (by rw[<-HW1.out];exact(Below.refl _ w).alloc (Nat.le_refl _) _)
 have HC:Hid (∀ k p,ps[k]? = some p->w1.cell? ⟨G,k,none⟩=some (pV p)):=fun k p h=>by
  rw[<-HW1.out,<-HG.out]
  simp[List.getElem?_map,h]
 obtain⟨r,HRR⟩:=nm_ (ps.all partOk && (ps.headD [] == [114,101,102,115]) && decide (1<ps.length))
 rw[HS.out,HP.out,HRR.out]
 go_enter Tryz.func91,Tryz.ntmps91
 go_wp2_with fail
 refine C10.out.mono ?_
 rintro e w' ⟨rfl,hw⟩
 have hw':=hw.symm
 subst hw'
 clear hw
 go_wp2
 go_loopg [10] n (fun g i wr=>∃ k:Nat,k<=n/\g=n-k/\i=.int .i64 k/\Hid (∀ p ∈ ps.take k,partOk p=true)/\Hid (wr=w1))
 case atStart=>exact⟨0,Nat.zero_le _,rfl,rfl,hid (by simp),hid rfl⟩
 case round =>
  obtain⟨k,hk,hg,rfl,HD,HW⟩:=hrel
  have hww:=HW.out
  subst hww
  clear HW
  by_cases hlt:k<n
  ·have hlti:(k:Int)<(n:Int):=by omega
   obtain⟨p,hp⟩:∃ p,ps[k]? = some p:=⟨_,List.getElem?_eq_getElem (by rw[HN.out];exact hlt)⟩
   have HPP:Hid (ps[k]? = some p):=hp
   obtain⟨X,HX⟩:=nm_ (⟨p.toArray⟩:ByteArray)
   have hcell:wr.cell? ⟨G,k,none⟩=some (.string X):=by rw[<-HX.out];exact HC.out k p hp
   have HBAD:Hid (partOk p=false->(ps.all partOk && (ps.headD [] == [114,101,102,115]) && decide (1<ps.length))=false):=fun hb=>by
    have:ps.all partOk=false:=by
     rw[Bool.eq_false_iff]
     intro h
     have:=List.all_eq_true.1 h p (List.mem_of_getElem? HPP.out)
     rw[hb] at this
     cases this
    rw[this];rfl
   obtain⟨a,HA⟩:=nm_ (Lib.hasPrefix p [46])
   obtain⟨b,HBB⟩:=nm_ (Lib.hasSuffix p [46,108,111,99,107])
   have C11:Hid (∀ w,Calls Tryz.prog 63 #[.string X,.string ⟨#[46]⟩] w fun e w'=>e=.returned (.bool a)/\w'=w):=fun w=>by rw[<-HX.out,<-HA.out];exact hasPrefix_any p [46] w
   have C9:Hid (∀ w,Calls Tryz.prog 94 #[.string X,.string ⟨#[46,108,111,99,107]⟩] w fun e w'=>e=.returned (.bool b)/\w'=w):=fun w=>by rw[<-HX.out,<-HBB.out];exact hasSuffix_any p [46,108,111,99,107] (HLN.out p (List.mem_of_getElem? HPP.out)) w
   have HXL:Hid (X.toList.isEmpty=p.isEmpty):=hid (by rw[<-HX.out,Lib.toList_data])
   clear hp
   cases hpe:p.isEmpty with
   | true =>
    have he:X.toList.isEmpty=true:=by rw[HXL.out];exact hpe
    have HR:=HBAD.out (by unfold partOk;rw[hpe];rfl)
    go_wp2
    go_ret
    exact⟨by rw[<-HRR.out,HR];rfl,HB.out⟩
   | false =>
    have he:X.toList.isEmpty=false:=by rw[HXL.out];exact hpe
    have HOK:Hid (partOk p=(!a && !b)):=hid (by unfold partOk;rw[hpe,HA.out,HBB.out];rfl)
    cases a with
    | true =>
     have HR:=HBAD.out HOK.out
     go_wp2_with (go_at_call 63;refine(C11.out _).mono ?_;rintro e w' ⟨rfl,rfl⟩)
     go_ret
     exact⟨by rw[<-HRR.out,HR];rfl,HB.out⟩
    | false =>
     cases b with
     | true =>
      have HR:=HBAD.out HOK.out
      go_wp2_with (first
       | (go_at_call 63;refine(C11.out _).mono ?_;rintro e w' ⟨rfl,rfl⟩)
       | (go_at_call 94;refine(C9.out _).mono ?_;rintro e w' ⟨rfl,rfl⟩))
      go_ret
      exact⟨by rw[<-HRR.out,HR];rfl,HB.out⟩
     | false =>
      go_wp2_with (first
       | (go_at_call 63;refine(C11.out _).mono ?_;rintro e w' ⟨rfl,rfl⟩)
       | (go_at_call 94;refine(C9.out _).mono ?_;rintro e w' ⟨rfl,rfl⟩))
      go_roundg (n-(k+1))
      case measure=>omega
      case rel =>
       refine⟨k+1,by omega,rfl,by go_num,hid ?_,hid rfl⟩
       rw[List.take_add_one,HPP.out]
       intro y hy
       rcases List.mem_append.1 hy with hy | hy
       ·exact HD.out y hy
       ·have:y=p:=by simpa using hy
        subst this
        exact HOK.out
  ·have hlti:¬ (k:Int)<(n:Int):=by omega
   have HALL:Hid (ps.all partOk=true):=hid (by
    have h:=HD.out
    rw[List.take_of_length_le (by rw[HN.out];omega)] at h
    exact List.all_eq_true.2 h)
   obtain⟨p,hp⟩:∃ p,ps[0]? = some p:=⟨_,List.getElem?_eq_getElem (by rw[HN.out];exact hn0)⟩
   have HH:Hid (ps.headD []=p):=hid (by cases ps with | nil=>cases hp | cons q qs=>simpa using hp)
   obtain⟨X,HX⟩:=nm_ (⟨p.toArray⟩:ByteArray)
   have hcell:wr.cell? ⟨G,0,none⟩=some (.string X):=by rw[<-HX.out];exact HC.out 0 p hp
   have HXL:Hid (X.toList=p):=hid (by rw[<-HX.out,Lib.toList_data])
   have hn0i:(0:Int)<(n:Int):=by omega
   clear hp
   by_cases hr:p=[114,101,102,115]
   ·have he:(X.toList == [114,101,102,115])=true:=by rw[HXL.out];simpa using hr
    have he2:(p == [114,101,102,115])=true:=by simpa using hr
    by_cases h1:1<n
    ·have h1i:(1:Int)<(n:Int):=by omega
     go_wp2
     go_ret
     exact⟨by rw[<-HRR.out,HALL.out,HH.out,HN.out,he2,decide_eq_true h1];rfl,HB.out⟩
    ·have h1i:¬ (1:Int)<(n:Int):=by omega
     go_wp2
     go_ret
     exact⟨by rw[<-HRR.out,HALL.out,HH.out,HN.out,he2,decide_eq_false h1];rfl,HB.out⟩
   ·have he:(X.toList == [114,101,102,115])=false:=by rw[HXL.out];simpa using hr
    have he2:(p == [114,101,102,115])=false:=by simpa using hr
    go_wp2
    go_ret
    exact⟨by rw[<-HRR.out,HALL.out,HH.out,HN.out,he2];rfl,HB.out⟩
end Go.Proofs.YtgliaiemkfopeaaGreatDoor.Nm
