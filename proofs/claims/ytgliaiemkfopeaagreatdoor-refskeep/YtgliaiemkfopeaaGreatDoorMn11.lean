import Derived.Test.YtgliaiemkfopeaaGreatDoorMn10
import Derived.Test.YtgliaiemkfopeaaGreatDoorMn08
set_option linter.unusedVariables false
set_option maxRecDepth 20000
set_option maxHeartbeats 4000000
namespace Go.Proofs.YtgliaiemkfopeaaGreatDoor.K
open Go.RowKit
structure Al (S:Nat->Prop) (w w':World):Prop where
 os:w'.os=w.os
 tape:w'.tape=w.tape
 output:w'.output=w.output
 size:w.heap.size<=w'.heap.size
 blk:∀ i,i<w.heap.size->¬ S i->w'.heap[i]? = w.heap[i]?
abbrev Sx (S:Nat->Prop) (w w':World):Nat->Prop:=fun i=>S i ∨ (w.heap.size<=i/\i<w'.heap.size)
theorem Al.refl (S:Nat->Prop) (w:World):Al S w w:=⟨rfl,rfl,rfl,Nat.le_refl _,fun _ _ _=>rfl⟩
theorem Al.trans {S S':Nat->Prop} {a b c:World} (h:Al S a b) (k:Al S' b c) (hS:∀ i,S' i->S i ∨ a.heap.size<=i):Al S a c :=
 ⟨k.os.trans h.os,k.tape.trans h.tape,k.output.trans h.output,Nat.le_trans h.size k.size,fun i hi hn=>(k.blk i (Nat.lt_of_lt_of_le hi h.size) (fun hs=>by rcases hS i hs with h1 | h1;exact hn h1;omega)).trans (h.blk i hi hn)⟩
theorem Al.below {S:Nat->Prop} {w w':World} (h:Below w.heap.size w w'):Al S w w':=⟨h.os,h.tape,h.output,h.size,fun i hi _=>h.block i hi⟩
theorem Al.of_grown {S:Nat->Prop} {w w':World} {g:Option Nat} (h:w.grownBy w' g) (hg:∀ k,g=some k->S k):Al S w w':=⟨h.os,h.tape,h.output,h.size,fun i hi hn=>h.block i hi (fun e=>hn (hg i e.symm))⟩
theorem Al.of_mv {S:Nat->Prop} {w w':World} {v v':Value} (h:Mv w w' v v') (hg:∀ k,v.ownBlock=some k->S k):Al S w w':=⟨h.os,h.tape,h.output,h.size,fun i hi hn=>h.blk i hi (fun e=>hn (hg i e.symm))⟩
theorem Al.of_set {S:Nat->Prop} {w:World} {p:Addr} (hS:S p.block) (v:Value):Al S w (w.setCell p v):=⟨rfl,rfl,rfl,by simp[World.setCell],fun i _ hn=>Below.heap_setCell _ _ _ _ (fun e=>hn (e ▸ hS))⟩
def Tf (T:TypeId) (w w':World):Prop := ∀ (i:Nat) (o:Obj),w.heap[i]? = some o->(∀ c f,o ≠ Obj.cells c T f)->(∀ m s e c,o ≠ Obj.mapIter m s e c)->w'.heap[i]? = some o
theorem Tf.trans {T:TypeId} {a b c:World} (h:Tf T a b) (k:Tf T b c):Tf T a c:=fun i o h1 h2 h3=>k i o (h i o h1 h2 h3) h2 h3
theorem Tf.below {T:TypeId} {w w':World} (h:Below w.heap.size w w'):Tf T w w':=fun i o h1 _ _=>(h.block i (z7 h1)).trans h1
theorem Tf.set {w:World} {p:Addr} {c:Array Value} {T:TypeId} {f:Nat × Nat} (h:w.heap[p.block]? = some (.cells c T f)) (v:Value):Tf T w (w.setCell p v):=fun i o h1 h2 _=>by
 by_cases e:i=p.block
 ·subst e;rw[h] at h1;cases h1;exact absurd rfl (h2 _ _)
 ·rw[Below.heap_setCell _ _ _ _ e];exact h1
theorem Tf.grown {w w':World} {g:Nat} {es:Array MapEntry} {ck:Nat} (hg:w.heap[g]? = some (.map es ck)) (h:w.grownBy w' (some g)) {i:Nat} {c:Array Value} {T:TypeId} {f:Nat × Nat} (hi:w.heap[i]? = some (.cells c T f)):w'.heap[i]? = some (.cells c T f) :=
 (h.block i (z7 hi) (fun e=>by cases e;rw[hg] at hi;cases hi)).trans hi
theorem TR.tf {z:Value} {w W:World} {g r n c:Nat} {M:Str->Option Value} {L:Str->Bool} (h:TR z w g r n M L c) (hg:w.grownBy W (some r)) (T:TypeId):Tf T w W:=fun i o h1 _ h3=>by
 obtain⟨D,lf,⟨es,ck,si,se,c0,hb,_,_,_,hr,_⟩,_⟩:=h
 refine(hg.block i (z7 h1) fun e=>?_).trans h1
 cases e
 rw[hr] at h1
 cases h1
 exact h3 _ _ _ _ rfl
theorem TM.box {z:Value} {w:World} {g n:Nat} {M:Str->Option Value} (h:TM z w g n M):∃ es ck,w.heap[g]? = some (.map es ck):=by
 obtain⟨D,⟨es,ck,hb,_⟩,_⟩:=h
 exact⟨es,ck,hb⟩
theorem TM.tf {z:Value} {w W:World} {g n:Nat} {M:Str->Option Value} {T:TypeId} (h:TM z w g n M) (ht:Tf T w W):TM z W g n M:=by
 obtain⟨es,ck,hb⟩:=h.box
 exact h.sm ((ht g _ hb (fun c f e=>by cases e) (fun _ _ _ _ e=>by cases e)).trans hb.symm)
structure Fi where
 B:Nat
 v:Value
 s:Int
 zs:List Int
structure Nd (w:World) (f:Fi):Prop where
 box:w.heap[f.B]? = some (.cells #[f.v,.int .i64 f.s] 63 (0,0))
 own:w.ownsRow 0 5 1 f.v f.zs.length (row .u8 f.zs)
theorem zV {T e k n B:Nat} {w W:World} {v:Value} {xs:List Value} (h:w.ownsRow B e k v n xs) (ht:Tf T w W) (hT:T ≠ e):W.ownsRow B e k v n xs:=by
 obtain⟨hl,h | ⟨g,cap,cur,hv,hb,hh,r⟩⟩:=h
 ·exact⟨hl,.inl h⟩
 ·exact⟨hl,.inr ⟨g,cap,cur,hv,hb,ht g _ hh (fun c f e=>by cases e;exact hT rfl) (fun _ _ _ _ e=>by cases e),r⟩⟩
theorem Nd.tf {T:TypeId} {w W:World} {f:Fi} (h:Nd w f) (ht:Tf T w W) (h1:T ≠ 63) (h2:T ≠ 5):Nd W f:=⟨ht _ _ h.box (fun c q e=>by cases e;exact h1 rfl) (fun _ _ _ _ e=>by cases e),zV h.own ht h2⟩
theorem vJ {e k n B g:Nat} {w W:World} {v:Value} {xs:List Value} {es:Array MapEntry} {ck:Nat} (h:w.ownsRow B e k v n xs) (hg:w.heap[g]? = some (.map es ck)) (hW:w.grownBy W (some g)):W.ownsRow B e k v n xs:=by
 obtain⟨hl,h | ⟨g',cap,cur,hv,hb,hh,r⟩⟩:=h
 ·exact⟨hl,.inl h⟩
 ·exact⟨hl,.inr ⟨g',cap,cur,hv,hb,Tf.grown hg hW hh,r⟩⟩
theorem Nd.gr {g:Nat} {w W:World} {f:Fi} {es:Array MapEntry} {ck:Nat} (h:Nd w f) (hg:w.heap[g]? = some (.map es ck)) (hW:w.grownBy W (some g)):Nd W f:=⟨Tf.grown hg hW h.box,vJ h.own hg hW⟩
abbrev Ml:=Option Addr × Nat × List Mo
def e1 (p:Ml):List Value:=[.slice p.1 p.2.2.length p.2.1]
theorem Px.tf {α:Type} {enc:α->List Value} {k:Nat} {d:α} {w W:World} {a:Option Addr} {cap:Nat} {l:List α} (h:Px enc k d w a cap l) (hb:∀ q:Addr,a=some q->W.heap[q.block]? = w.heap[q.block]?) (hs:w.heap.size<=W.heap.size):Px enc k d W a cap l :=
 ⟨h.capl,fun h0=>by
  obtain⟨b,off,e1,e2,e3⟩:=h.at_ h0
  refine⟨b,off,e1,Nat.lt_of_lt_of_le e2 hs,fun i hi j v hv=>?_⟩
  rw[World.cell?_of_block (a:=⟨b,off+i*k+j,none⟩) (show W.heap[b]? = w.heap[b]? from hb _ e1)]
  exact e3 i hi j v hv,h.nil⟩
structure MlOk (S:Nat->Prop) (w:World) (p:Ml):Prop where
 px:Px mvE 2 ([],none) w p.1 p.2.1 p.2.2
 few:p.2.2.length<=2
 nm:∀ m ∈ p.2.2,m.1.length<=4000
 at_:∀ q:Addr,p.1=some q->S q.block/\∃ cs f,w.heap[q.block]? = some (.cells cs 115 f)
theorem MlOk.to {S S':Nat->Prop} {w W:World} {p:Ml} (h:MlOk S w p) (hS:∀ i,S i->S' i) (hs:w.heap.size<=W.heap.size) (hb:∀ (i:Nat) (cs:Array Value) (f:Nat × Nat),w.heap[i]? = some (Obj.cells cs 115 f)->W.heap[i]? = some (Obj.cells cs 115 f)):MlOk S' W p:=by
 refine⟨h.px.tf (fun q hq=>?_) hs,h.few,h.nm,fun q hq=>?_⟩
 ·obtain⟨_,cs,f,hc⟩:=h.at_ q hq
  exact(hb _ _ _ hc).trans hc.symm
 ·obtain⟨h1,cs,f,hc⟩:=h.at_ q hq
  exact⟨hS _ h1,cs,f,hb _ _ _ hc⟩
structure MvOk (S:Nat->Prop) (w:World) (mv:Value) (ls:List Ml):Prop where
 row:w.ownsRow 0 174 1 mv ls.length (ls.flatMap e1)
 at_:∀ p ∈ ls,MlOk S w p
 own:∀ k,mv.ownBlock=some k->S k
theorem MvOk.to {S S':Nat->Prop} {w W:World} {mv:Value} {ls:List Ml} (h:MvOk S w mv ls) (hS:∀ i,S i->S' i) (hs:w.heap.size<=W.heap.size) (hb:∀ (i:Nat) (cs:Array Value) (T:TypeId) (f:Nat × Nat),T=174 ∨ T=115->w.heap[i]? = some (Obj.cells cs T f)->W.heap[i]? = some (Obj.cells cs T f)):MvOk S' W mv ls:=by
 refine⟨?_,fun p hp=>(h.at_ p hp).to hS hs fun i cs f=>hb i cs _ f (.inr rfl),fun k hk=>hS _ (h.own k hk)⟩
 obtain⟨hl,h1 | ⟨g,cap,cur,hv,h2,hh,r⟩⟩:=h.row
 ·exact⟨hl,.inl h1⟩
 ·exact⟨hl,.inr ⟨g,cap,cur,hv,h2,hb _ _ _ _ (.inl rfl) hh,r⟩⟩
theorem Tf.of {T:TypeId} {w W:World} (h:Tf T w W) {i:Nat} {cs:Array Value} {U:TypeId} {f:Nat × Nat} (hU:T ≠ U) (hi:w.heap[i]? = some (.cells cs U f)):W.heap[i]? = some (.cells cs U f):=h i _ hi (fun c f e=>by cases e;exact hU rfl) (fun _ _ _ _ e=>by cases e)
theorem MvOk.tf {S:Nat->Prop} {T:TypeId} {w W:World} {mv:Value} {ls:List Ml} (h:MvOk S w mv ls) (ht:Tf T w W) (hs:w.heap.size<=W.heap.size) (h1:T ≠ 174) (h2:T ≠ 115):MvOk S W mv ls:=h.to (fun _ h=>h) hs fun i cs U f hU hi=>ht.of (by rcases hU with rfl | rfl;exact h1;exact h2) hi
theorem MvOk.mono {S S':Nat->Prop} {w:World} {mv:Value} {ls:List Ml} (h:MvOk S w mv ls) (hS:∀ i,S i->S' i):MvOk S' w mv ls:=h.to hS (Nat.le_refl _) fun _ _ _ _ _ h=>h
abbrev Fs:=Str->Option Fi
def ptF (F:Fs):Str->Option Value:=fun x=>(F x).map fun f=>.pointer (some ⟨f.B,0,none⟩)
structure FsOk (S:Nat->Prop) (w:World) (F:Fs):Prop where
 nd:∀ x f,F x=some f->Nd w f/\x.length<=4000/\S f.B/\∀ k,f.v.ownBlock=some k->S k
 sep:∀ x y f h,F x=some f->F y=some h->x ≠ y->f.B ≠ h.B/\(f.v.ownBlock=none ∨ f.v.ownBlock ≠ h.v.ownBlock)
theorem FsOk.mono {S S':Nat->Prop} {w:World} {F:Fs} (h:FsOk S w F) (hS:∀ i,S i->S' i):FsOk S' w F :=
 ⟨fun x f hf=>by obtain⟨a,b,c,d⟩:=h.nd x f hf;exact⟨a,b,hS _ c,fun k hk=>hS _ (d k hk)⟩,h.sep⟩
theorem FsOk.to {S:Nat->Prop} {w W:World} {F:Fs} (h:FsOk S w F) (hn:∀ f,Nd w f->Nd W f):FsOk S W F :=
 ⟨fun x f hf=>by obtain⟨a,b⟩:=h.nd x f hf;exact⟨hn f a,b⟩,h.sep⟩
def dkB (g gs:Nat) (mv:Value):Obj:=.cells #[.map (some g),.map (some gs),mv,.int .i64 1099511627776,.int .i64 0,.int .i64 0] 53 (0,0)
structure Dk0 (S:Nat->Prop) (N:Nat) (w:World) (D:Nat) (F:Fs) (g gs:Nat) (mv:Value) (n ns:Nat) (Ms:Str->Option Value) (ls:List Ml):Prop where
 box:w.heap[D]? = some (dkB g gs mv)
 now:TM (.pointer none) w g n (ptF F)
 safe:TM (.pointer none) w gs ns Ms
 ne:g ≠ gs
 fs:FsOk S w F
 mv:MvOk S w mv ls
 few:n<=N/\ns+2*ls.length<=N
 own:S D/\S g/\S gs
def Dk (S:Nat->Prop) (N:Nat) (w:World) (D:Nat) (F:Fs):Prop := ∃ g gs mv n ns Ms ls,Dk0 S N w D F g gs mv n ns Ms ls
theorem Dk0.fine {S:Nat->Prop} {N D g gs n ns:Nat} {w:World} {F:Fs} {mv:Value} {Ms:Str->Option Value} {ls:List Ml} (h:Dk0 S N w D F g gs mv n ns Ms ls):Fine w D:=by
 have hb:=h.box
 unfold dkB at hb
 exact⟨by simp[World.cell?,hb],by simp[World.cell?,hb]⟩
theorem Dk0.c0 {S:Nat->Prop} {N D g gs n ns:Nat} {w:World} {F:Fs} {mv:Value} {Ms:Str->Option Value} {ls:List Ml} (h:Dk0 S N w D F g gs mv n ns Ms ls):w.cell? ⟨D,0,none⟩=some (.map (some g))/\w.cell? ⟨D,1,none⟩=some (.map (some gs))/\w.cell? ⟨D,2,none⟩=some mv/\w.cell? ⟨D,3,none⟩=some (.int .i64 1099511627776)/\w.frozen? ⟨D,2,none⟩=false:=by
 have hb:=h.box
 unfold dkB at hb
 exact⟨by simp[World.cell?,hb],by simp[World.cell?,hb],by simp[World.cell?,hb],by simp[World.cell?,hb],by simp[World.frozen?,hb]⟩
theorem Dk0.below {S:Nat->Prop} {N D g gs n ns:Nat} {w W:World} {F:Fs} {mv:Value} {Ms:Str->Option Value} {ls:List Ml} (h:Dk0 S N w D F g gs mv n ns Ms ls) (hb:Below w.heap.size w W):Dk0 S N W D F g gs mv n ns Ms ls :=
 have ht:Tf 0 w W:=.below hb
 ⟨(hb.block _ (z7 h.box)).trans h.box,h.now.tf ht,h.safe.tf ht,h.ne,h.fs.to fun f hf=>hf.tf ht (by decide) (by decide),h.mv.tf ht hb.size (by decide) (by decide),h.few,h.own⟩
theorem Dk0.tf {S:Nat->Prop} {N D g gs n ns:Nat} {w W:World} {F:Fs} {mv:Value} {Ms:Str->Option Value} {ls:List Ml} (h:Dk0 S N w D F g gs mv n ns Ms ls) {T:TypeId} (ht:Tf T w W) (hs:w.heap.size<=W.heap.size) (h1:T ≠ 53/\T ≠ 63/\T ≠ 5/\T ≠ 174/\T ≠ 115):Dk0 S N W D F g gs mv n ns Ms ls :=
 ⟨ht.of h1.1 h.box,h.now.tf ht,h.safe.tf ht,h.ne,h.fs.to fun f hf=>hf.tf ht h1.2.1 h1.2.2.1,h.mv.tf ht hs h1.2.2.2.1 h1.2.2.2.2,h.few,h.own⟩
theorem Dk.below {S:Nat->Prop} {N D:Nat} {w W:World} {F:Fs} (h:Dk S N w D F) (hb:Below w.heap.size w W):Dk S N W D F:=by
 obtain⟨g,gs,mv,n,ns,Ms,ls,h⟩:=h
 exact⟨g,gs,mv,n,ns,Ms,ls,h.below hb⟩
theorem Dk.mono {S S':Nat->Prop} {N N' D:Nat} {w:World} {F:Fs} (h:Dk S N w D F) (hS:∀ i,S i->S' i) (hN:N<=N'):Dk S' N' w D F:=by
 obtain⟨g,gs,mv,n,ns,Ms,ls,h⟩:=h
 exact⟨g,gs,mv,n,ns,Ms,ls,h.box,h.now,h.safe,h.ne,h.fs.mono hS,h.mv.mono hS,⟨by have:=h.few;omega,by have:=h.few;omega⟩,hS _ h.own.1,hS _ h.own.2.1,hS _ h.own.2.2⟩
theorem qy {w:World} {D:Nat} {c:Array Value} {T:TypeId} {f:Nat × Nat} (h:w.heap[D]? = some (.cells c T f)) (j:Nat) (v:Value):(w.setCell ⟨D,j,none⟩ v).heap[D]? = some (.cells (c.setIfInBounds j v) T f):=by
 simp[World.setCell,Array.getElem?_modify,h]
theorem Tf.mv {T:TypeId} {w w':World} {v v':Value} (h:Mv w w' v v') (hv:∀ k,v.ownBlock=some k->∃ c f,w.heap[k]? = some (.cells c T f)):Tf T w w':=fun i o h1 h2 _=>by
 refine(h.blk i (z7 h1) fun e=>?_).trans h1
 obtain⟨c,f,hc⟩:=hv i e.symm
 rw[h1] at hc
 cases hc
 exact h2 _ _ rfl
theorem vK {w:World} {B e k n:Nat} {v:Value} {xs:List Value} (h:w.ownsRow B e k v n xs):∀ b,v.ownBlock=some b->∃ c f,w.heap[b]? = some (.cells c e f):=fun b hb=>by
 obtain⟨_,⟨rfl,_⟩ | ⟨g,cap,cur,rfl,_,hh,_⟩⟩:=h
 ·cases hb
 ·cases hb
  exact⟨_,_,hh⟩
theorem zZ {w:World} {B e k n:Nat} {v:Value} {xs:List Value} (h:w.ownsRow B e k v n xs):∃ a c,v=.slice a n c:=by
 obtain⟨_,⟨rfl,rfl⟩ | ⟨g,cap,cur,rfl,_⟩⟩:=h
 ·exact⟨_,_,rfl⟩
 ·exact⟨_,_,rfl⟩
theorem own_sl {w:World} {B e k n:Nat} {v:Value} {xs:List Value} (h:w.ownsRow B e k v n xs):∃ a m c,v=.slice a m c:=by
 obtain⟨a,c,rfl⟩:=zZ h
 exact⟨_,_,_,rfl⟩
theorem info174:(Tryz.prog.info? 174).map (fun i=>(i.zero,i.size,i.bytes))=some (some (.slice none 0 0),1,24):=by kernel_rfl
theorem und51:Tryz.prog.underlying 51=some (.slice 174):=by kernel_rfl
theorem Tryz.results43:Tryz.f43.results=#[]:=by kernel_rfl
theorem yu {α:Type} {enc:α->List Value} {d:α} (w:World) (x:α) (e:TypeId):Px enc (enc x).length d (w.alloc (.cells (enc x).toArray e)) (some ⟨w.heap.size,0,none⟩) 1 [x] :=
 ⟨Nat.le_refl _,fun _=>⟨w.heap.size,0,rfl,by simp,fun i hi j v hv=>by
  obtain rfl:i=0:=by simpa using hi
  have:=zy (heap_alloc_new w (.cells (enc x).toArray e)) j v (by simpa using hv)
  simpa using this⟩,fun h=>by cases h⟩
set_option maxHeartbeats 2000000 in
theorem name_any (S S':Nat->Prop) (N D g gs n ns:Nat) (F F':Fs) (mv:Value) (Ms:Str->Option Value) (ls:List Ml) (a:Option Addr) (c:Nat) (l:List Mo) (w:World) (h:Dk0 S N w D F g gs mv n ns Ms ls) (hP:Px mvE 2 ([],none) w a c l) (hl:l.length<=2) (hx:∀ m ∈ l,m.1.length<=4000)
  (hS:∀ i,S i->S' i) (ha:∀ q:Addr,a=some q->S' q.block/\∃ cs f,w.heap[q.block]? = some (.cells cs 115 f)) (hF:mvM (ptF F) l=ptF F') (hFs:FsOk S' w F') (hN:N<=90000) :
  Calls Tryz.prog 43 #[.pointer (some ⟨D,0,none⟩),.slice a l.length c] w fun e w'=>e=.returned (.tuple #[])/\Dk (Sx S' w w') (N+2) w' D F'/\Al S w w':=by
 obtain⟨h0,_,h2,_,hfz⟩:=h.c0
 have hset:=set_any g n a c l (ptF F) w h.now hP (by have:=h.few;omega) hx
 obtain⟨L,HL⟩:=nm_ l.length
 rw[HL.out] at hset ⊢
 have H:Hid (Dk0 S N w D F g gs mv n ns Ms ls):=h
 obtain⟨es,ck,hgb⟩:=h.now.box
 have HK:Hid (∀ w1,w.grownBy w1 (some g)->∀ v o,w.cell? ⟨D,o,none⟩=some v->w1.cell? ⟨D,o,none⟩=some v):=fun w1 h1 v o hv=>by
  have:=h.box
  unfold dkB at this
  rw[World.cell?_of_block (a:=⟨D,o,none⟩) ((Tf.grown hgb h1 this).trans this.symm)]
  exact hv
 clear h
 go_enter Tryz.func43,Tryz.ntmps43
 have HB0:Hid (∀ w1 o,w.grownBy w1 (some g)->Bx e1 1 174 (w1.alloc o) (w1.alloc o) 0 mv ls):=fun w1 o h1=>⟨Below.refl _ _,(vJ H.out.mv.row hgb h1).alloc o,Nat.zero_le _⟩
 have HT174:Hid (∀ w1 o v2 w2,w.grownBy w1 (some g)->Mv (w1.alloc o) w2 mv v2->Tf 174 w1 w2):=fun w1 o v2 w2 h1 h2 =>
  (Tf.below ((Below.refl _ w1).alloc (Nat.le_refl _) o)).trans (Tf.mv h2 (vK ((vJ H.out.mv.row hgb h1).alloc o)))
 have HBX:Hid (∀ w1 o v2 w2,w.grownBy w1 (some g)->Mv (w1.alloc o) w2 mv v2->w2.heap[D]? = some (dkB g gs mv)):=fun w1 o v2 w2 h1 h2=>(HT174.out w1 o v2 w2 h1 h2).of (by decide) (Tf.grown hgb h1 H.out.box)
 have HD2:Hid (∀ w1 o v2 w2,w.grownBy w1 (some g)->Mv (w1.alloc o) w2 mv v2->w2.frozen? ⟨D,2,none⟩=false/\w2.cell? ⟨D,2,none⟩=some mv):=fun w1 o v2 w2 h1 h2=>by
  have:=HBX.out w1 o v2 w2 h1 h2
  unfold dkB at this
  exact⟨by simp[World.frozen?,this],by simp[World.cell?,this]⟩
 have HE:Hid (∀ w1 o v2 w2,w.grownBy w1 (some g)->TM (.pointer none) w1 g (n+L) (mvM (ptF F) l)->Mv (w1.alloc o) w2 mv v2->w2.ownsRow 0 174 1 v2 (ls++[(a,c,l)]).length ((ls++[(a,c,l)]).flatMap e1)->Dk (Sx S' w (w2.setCell ⟨D,2,none⟩ v2)) (N+2) (w2.setCell ⟨D,2,none⟩ v2) D F'/\Al S w (w2.setCell ⟨D,2,none⟩ v2)):=fun w1 o v2 w2 h1 hT h2 hr=>by
  have hb:=HBX.out w1 o v2 w2 h1 h2
  have t1:=HT174.out w1 o v2 w2 h1 h2
  have t2:Tf 53 w2 (w2.setCell ⟨D,2,none⟩ v2):=Tf.set (p:=⟨D,2,none⟩) hb v2
  have hz:(w2.setCell ⟨D,2,none⟩ v2).heap.size=w2.heap.size:=by simp[World.setCell]
  have hz1:w1.heap.size+1<=w2.heap.size:=by have:=h2.size;simpa using this
  have hz0:=h1.size
  have k:=H.out
  have hml:∀ p,MlOk S' w p->MlOk (Sx S' w (w2.setCell ⟨D,2,none⟩ v2)) (w2.setCell ⟨D,2,none⟩ v2) p:=fun p hp=>hp.to (fun i hi=>.inl hi) (by omega) fun i cs f hi=>t2.of (by decide) (t1.of (by decide) (Tf.grown hgb h1 hi))
  refine⟨⟨g,gs,v2,n+L,ns,Ms,ls++[(a,c,l)],⟨?_,?_,?_,k.ne,?_,⟨?_,?_,?_⟩,?_,?_⟩⟩,?_⟩
  ·rw[qy hb];rfl
  ·rw[<-hF];exact(hT.tf t1).tf t2
  ·exact((k.safe.sm (h1.block _ k.safe.lt (fun e=>k.ne (Option.some.inj e).symm))).tf t1).tf t2
  ·exact(hFs.to fun f hf=>((hf.gr hgb h1).tf t1 (by decide) (by decide)).tf t2 (by decide) (by decide)).mono fun i hi=>.inl hi
  ·exact zV hr t2 (by decide)
  ·intro p hp
   rcases List.mem_append.1 hp with hp | hp
   ·exact hml p ((k.mv.at_ p hp).to hS (Nat.le_refl _) fun _ _ _ h=>h)
   ·rw[List.mem_singleton.1 hp];exact hml _ ⟨hP,hl,hx,ha⟩
  ·intro q hq
   rcases h2.at_ with e | e
   ·exact .inl (hS _ (k.mv.own q (e ▸ hq)))
   ·have h3:=e q hq
    have h4:=(yq hr q hq).2
    have h5:(w1.alloc o).heap.size=w1.heap.size+1:=by simp
    exact .inr ⟨by omega,by omega⟩
  ·have:=k.few
   rw[List.length_append,List.length_cons,List.length_nil]
   have:=HL.out
   exact⟨by omega,by omega⟩
  ·exact⟨.inl (hS _ k.own.1),.inl (hS _ k.own.2.1),.inl (hS _ k.own.2.2)⟩
  ·refine((((Al.of_grown h1 (fun q hq=>by cases hq;exact k.own.2.1)).trans (Al.below ((Below.refl _ w1).alloc (Nat.le_refl _) o)) (S':=S) (fun i h=>.inl h)).trans (Al.of_mv h2 k.mv.own) (fun i h=>.inl h)).trans (Al.of_set (S:=S) k.own.1 v2) (fun i h=>.inl h))
 have HLS:Hid (ls.length+1<=1000000000):=hid (by have:=H.out.few;omega)
 go_wp2_with (first
  | (go_at_call 79;refine hset.mono ?_;rintro e w1 ⟨rfl,hT1,hg1⟩;have hq2:=HK.out _ hg1 _ _ h2)
  | (at_builtin;refine zj (enc:=e1) (k:=1) (d:=(none,0,[])) rfl _ _ 51 174 und51 info174 rfl (by decide) (by decide) (fun x v hv=>by simp only[e1,List.mem_singleton] at hv;subst hv;rfl) rfl 0 mv ls rfl (HB0.out w1 _ hg1) (some ⟨w1.heap.size,0,none⟩) 1 [(a,c,l)] rfl (by have:=yu (enc:=e1) (d:=(none,0,[])) w1 (a,c,l) 174;unfold e1 at this;simp only[HL.out] at this;exact this) (fun x _=>rfl) HLS.out ?_;intro v2 w2 hb2 hg2 hm2;clear hg2;obtain⟨va,vn,vc,rfl⟩:=own_sl hb2.own;have HB2:=hid hb2.own;have HM2:=hid hm2;have HT1:=hid hT1;obtain⟨hfz2,hcD⟩:=HD2.out w1 _ _ w2 hg1 hm2))
 exact bodyPost_end (results_none Tryz.results43 _ _ _) rfl ⟨rfl,HE.out w1 _ _ w2 hg1 HT1.out HM2.out HB2.out⟩
theorem px_rows {α:Type} {enc:α->List Value} {k:Nat} {d:α} {w:World} {q:Nat} {e:TypeId} {f:Nat × Nat} {c:Nat} (l:List α) (hk:∀ x ∈ l,(enc x).length=k) (h:w.heap[q]? = some (.cells (l.flatMap enc).toArray e f)) (hc:l.length<=c):Px enc k d w (some ⟨q,0,none⟩) c l :=
 ⟨hc,fun _=>⟨q,0,rfl,z7 h,fun i hi j v hv=>by
  have hj:j<k:=by
   have:=(List.getElem?_eq_some_iff.1 hv).1
   rwa [hk _ (zK l i d hi)] at this
  have hf:=fX_at (d:=d) l hk i j hi hj
  rw[hv] at hf
  have:=zy h (i*k+j) v hf
  rw[Nat.zero_add] at this ⊢
  exact this⟩,fun h=>by cases h⟩
def upd (F:Fs) (x:Str) (o:Option Fi):Fs:=fun y=>if y=x then o else F y
theorem name_new (S:Nat->Prop) (N D g gs n ns q c:Nat) (F F':Fs) (mv:Value) (Ms:Str->Option Value) (ls:List Ml) (l:List Mo) (w W:World) (h:Dk0 S N w D F g gs mv n ns Ms ls) (hb:Below w.heap.size w W) (hq:w.heap.size<=q) (hrow:W.heap[q]? = some (.cells (l.flatMap mvE).toArray 115 (0,0))) (hl:l.length<=2) (hc:l.length<=c) (hx:∀ m ∈ l,m.1.length<=4000)
  (hF:mvM (ptF F) l=ptF F') (hFs:FsOk (Sx S w W) W F') (hN:N<=90000) :
  Calls Tryz.prog 43 #[.pointer (some ⟨D,0,none⟩),.slice (some ⟨q,0,none⟩) l.length c] W fun e w'=>e=.returned (.tuple #[])/\Dk (Sx S w w') (N+2) w' D F'/\Al S w w':=by
 refine(name_any S (Sx S w W) N D g gs n ns F F' mv Ms ls (some ⟨q,0,none⟩) c l W (h.below hb) (px_rows l (fun _ _=>rfl) hrow hc) hl hx (fun i hi=>.inl hi) (fun p hp=>by cases hp;exact⟨.inr ⟨hq,z7 hrow⟩,_,_,hrow⟩) hF hFs hN).mono ?_
 rintro e w' ⟨rfl,h1,h2⟩
 have:=h2.size
 have:=hb.size
 exact⟨rfl,h1.mono (fun i hi=>by rcases hi with (hi | hi) | hi;exact .inl hi;exact .inr ⟨hi.1,by omega⟩;exact .inr ⟨by omega,hi.2⟩) (Nat.le_refl _),(Al.below hb).trans h2 (fun i hi=>.inl hi)⟩
theorem Tryz.results162:Tryz.f162.results=#[.tmp 4]:=by kernel_rfl
theorem Tryz.results16:Tryz.f16.results=#[.tmp 4]:=by kernel_rfl
theorem Tryz.results97:Tryz.f97.results=#[.tmp 6]:=by kernel_rfl
set_option maxHeartbeats 2000000 in
theorem create_any (S:Nat->Prop) (N D:Nat) (F:Fs) (x:Str) (w:World) (h:Dk S N w D F) (hx:x.length<=4000) (hF:F x=none) (hN:N<=90000) :
    Calls Tryz.prog 162 #[.pointer (some ⟨D,0,none⟩),sV x] w fun e w'=>e=.returned .nilIface/\∃ B,w.heap.size<=B/\Dk (Sx S w w') (N+2) w' D (upd F x (some ⟨B,.slice none 0 0,0,[]⟩))/\Al S w w':=by
  obtain⟨g,gs,mv,n,ns,Ms,ls,h⟩:=h
  obtain⟨h0,_⟩:=h.c0
  have hl:=h.now.look1 kW (zero59 w) hx
  rw[show ptF F x=none by simp[ptF,hF],Option.getD_none] at hl
  have hf:=Y1 D w h.fine
  obtain⟨o1,HO1⟩:=nm_ (Obj.cells #[Value.slice none 0 0,.int .i64 0] 63)
  obtain⟨o2,HO2⟩:=nm_ (Obj.cells #[sV x,.pointer (some ⟨w.heap.size,0,none⟩)] 115)
  have hs1:(w.alloc o1).heap.size=w.heap.size+1:=by simp
  have hs2:((w.alloc o1).alloc o2).heap.size=w.heap.size+2:=by simp
  have hb:Below w.heap.size w ((w.alloc o1).alloc o2):=((Below.refl _ w).alloc (Nat.le_refl _) o1).alloc (by omega) o2
  have hn1:((w.alloc o1).alloc o2).heap[w.heap.size]? = some o1:=(Below.heap_alloc _ _ _ (by omega)).trans (heap_alloc_new w o1)
  have hn2:((w.alloc o1).alloc o2).heap[w.heap.size+1]? = some o2:=by have:=heap_alloc_new (w.alloc o1) o2;rwa [hs1] at this
  have hname:=name_new S N D g gs n ns (w.heap.size+1) 1 F (upd F x (some ⟨w.heap.size,.slice none 0 0,0,[]⟩)) mv Ms ls [(x,some w.heap.size)] w _ h hb (by omega) (by rw[hn2,<-HO2.out];rfl) (by simp) (by simp) (by simpa using hx)
    (by funext y;simp only[mvM,List.foldl_cons,List.foldl_nil,mv1,ptF,upd];by_cases e:y=x <;> simp[e])
    ⟨fun y f hf=>by
      unfold upd at hf
      by_cases e:y=x
      · rw[if_pos e] at hf;cases hf;subst e
        exact⟨⟨by rw[hn1,<-HO1.out],World.ownsRow_nil _ _ _ _⟩,hx,.inr ⟨Nat.le_refl _,by show w.heap.size<_;omega⟩,fun k hk=>by cases hk⟩
      · rw[if_neg e] at hf
        obtain⟨a,b,c,d⟩:=h.fs.nd y f hf
        exact⟨a.tf (T:=0) (.below hb) (by decide) (by decide),b,.inl c,fun k hk=>.inl (d k hk)⟩,
     fun y z f k hf hk hne=>by
      have hlt:∀ y f,F y=some f->f.B ≠ w.heap.size:=fun y f hf e=>by have:=z7 (h.fs.nd y f hf).1.box;omega
      unfold upd at hf hk
      by_cases e:y=x
      · rw[if_pos e] at hf;cases hf
        rw[if_neg (fun e2=>hne (e.trans e2.symm))] at hk
        exact⟨(hlt z k hk).symm,.inl rfl⟩
      · rw[if_neg e] at hf
        by_cases e2:z=x
        · rw[if_pos e2] at hk;cases hk
          refine⟨hlt y f hf,?_⟩
          cases hv:f.v.ownBlock with
          | none=>exact .inl rfl
          | some b=>exact .inr (by simp[Value.ownBlock])
        · rw[if_neg e2] at hk;exact h.fs.sep y z f k hf hk hne⟩ hN
  rw[<-HO1.out,<-HO2.out] at hname
  unfold sV at hl hname ⊢
  clear hn1 hn2 hb
  go_enter Tryz.func162,Tryz.ntmps162
  go_wp2_with (first
    | (go_at_call 78;refine hf.mono ?_;rintro e w' ⟨rfl,rfl⟩)
    | (go_at_call 43;refine hname.mono ?_;rintro e w' ⟨rfl,k1,k2⟩))
  exact bodyPost_ret (results_tmp Tryz.results162 _ _ _) rfl ⟨rfl,_,Nat.le_refl _,k1,k2⟩
set_option maxHeartbeats 2000000 in
theorem remove_any (S:Nat->Prop) (N D:Nat) (F:Fs) (f:Fi) (x:Str) (w:World) (h:Dk S N w D F) (hF:F x=some f) (hN:N<=90000) :
    Calls Tryz.prog 16 #[.pointer (some ⟨D,0,none⟩),sV x] w fun e w'=>e=.returned .nilIface/\Dk (Sx S w w') (N+2) w' D (upd F x none)/\Al S w w':=by
  obtain⟨g,gs,mv,n,ns,Ms,ls,h⟩:=h
  obtain⟨h0,_⟩:=h.c0
  have hx:=(h.fs.nd x f hF).2.1
  have hf:=jZ D g n x ⟨f.B,0,none⟩ (ptF F) w h.fine h0 h.now hx (by simp[ptF,hF])
  obtain⟨o2,HO2⟩:=nm_ (Obj.cells #[sV x,.pointer none] 115)
  have hb:Below w.heap.size w (w.alloc o2):=(Below.refl _ w).alloc (Nat.le_refl _) o2
  have hname:=name_new S N D g gs n ns w.heap.size 1 F (upd F x none) mv Ms ls [(x,none)] w _ h hb (Nat.le_refl _) (by rw[heap_alloc_new,<-HO2.out];rfl) (by simp) (by simp) (by simpa using hx)
    (by funext y;simp only[mvM,List.foldl_cons,List.foldl_nil,mv1,ptF,upd];by_cases e:y=x <;> simp[e])
    ⟨fun y f hf=>by
      unfold upd at hf
      by_cases e:y=x
      · rw[if_pos e] at hf;cases hf
      · rw[if_neg e] at hf
        obtain⟨a,b,c,d⟩:=h.fs.nd y f hf
        exact⟨a.tf (T:=0) (.below hb) (by decide) (by decide),b,.inl c,fun k hk=>.inl (d k hk)⟩,
     fun y z f k hf hk hne=>by
      unfold upd at hf hk
      by_cases e:y=x
      · rw[if_pos e] at hf;cases hf
      · by_cases e2:z=x
        · rw[if_pos e2] at hk;cases hk
        · rw[if_neg e] at hf;rw[if_neg e2] at hk;exact h.fs.sep y z f k hf hk hne⟩ hN
  rw[<-HO2.out] at hname
  unfold sV at hf hname ⊢
  clear hb
  go_enter Tryz.func16,Tryz.ntmps16
  go_wp2_with (first
    | (go_at_call 42;refine hf.mono ?_;rintro e w' ⟨rfl,rfl⟩)
    | (go_at_call 43;refine hname.mono ?_;rintro e w' ⟨rfl,k1,k2⟩))
  exact bodyPost_ret (results_tmp Tryz.results16 _ _ _) rfl ⟨rfl,k1,k2⟩
set_option maxHeartbeats 2000000 in
theorem rename_any (S:Nat->Prop) (N D:Nat) (F:Fs) (f:Fi) (x z:Str) (w:World) (h:Dk S N w D F) (hF:F x=some f) (hz:z.length<=4000) (hne:x ≠ z) (hN:N<=90000) :
    Calls Tryz.prog 97 #[.pointer (some ⟨D,0,none⟩),sV x,sV z] w fun e w'=>e=.returned .nilIface/\Dk (Sx S w w') (N+2) w' D (upd (upd F z (some f)) x none)/\Al S w w':=by
  obtain⟨g,gs,mv,n,ns,Ms,ls,h⟩:=h
  obtain⟨h0,_⟩:=h.c0
  have hx:=(h.fs.nd x f hF).2.1
  have hf:=jZ D g n x ⟨f.B,0,none⟩ (ptF F) w h.fine h0 h.now hx (by simp[ptF,hF])
  obtain⟨fB,HFB⟩:=nm_ f.B
  obtain⟨o2,HO2⟩:=nm_ (Obj.cells #[sV z,.pointer (some ⟨fB,0,none⟩),sV x,.pointer none] 115)
  have hb:Below w.heap.size w (w.alloc o2):=(Below.refl _ w).alloc (Nat.le_refl _) o2
  have hnd:∀ y k,upd (upd F z (some f)) x none y=some k->y ≠ x/\((y=z/\k=f) ∨ (y ≠ z/\F y=some k)):=fun y k hk=>by
    unfold upd at hk
    by_cases e:y=x
    · rw[if_pos e] at hk;cases hk
    · rw[if_neg e] at hk
      by_cases e2:y=z
      · rw[if_pos e2] at hk;cases hk;exact⟨e,.inl ⟨e2,rfl⟩⟩
      · rw[if_neg e2] at hk;exact⟨e,.inr ⟨e2,hk⟩⟩
  have hname:=name_new S N D g gs n ns w.heap.size 2 F (upd (upd F z (some f)) x none) mv Ms ls [(z,some fB),(x,none)] w _ h hb (Nat.le_refl _) (by rw[heap_alloc_new,<-HO2.out];rfl) (by simp) (by simp) (by intro m hm;simp only[List.mem_cons,List.not_mem_nil,or_false] at hm;rcases hm with rfl | rfl;exact hz;exact hx)
    (by
      funext y
      simp only[mvM,List.foldl_cons,List.foldl_nil,mv1,ptF,upd]
      by_cases e:y=x
      · rw[if_pos e,if_pos e];rfl
      · rw[if_neg e,if_neg e]
        by_cases e2:y=z
        · rw[if_pos e2,if_pos e2,<-HFB.out];rfl
        · rw[if_neg e2,if_neg e2])
    ⟨fun y k hk=>by
      obtain⟨_,⟨rfl,rfl⟩ | ⟨_,hy⟩⟩:=hnd y k hk
      · obtain⟨a,b,c,d⟩:=h.fs.nd x k hF
        exact⟨a.tf (T:=0) (.below hb) (by decide) (by decide),hz,.inl c,fun k hk=>.inl (d k hk)⟩
      · obtain⟨a,b,c,d⟩:=h.fs.nd y k hy
        exact⟨a.tf (T:=0) (.below hb) (by decide) (by decide),b,.inl c,fun k hk=>.inl (d k hk)⟩,
     fun y u k j hk hj hyu=>by
      obtain⟨n1,⟨rfl,rfl⟩ | ⟨m1,hy⟩⟩:=hnd y k hk
      · obtain⟨n2,⟨rfl,rfl⟩ | ⟨m2,hu⟩⟩:=hnd u j hj
        · exact absurd rfl hyu
        · exact h.fs.sep x u k j hF hu (fun e=>n2 e.symm)
      · obtain⟨n2,⟨rfl,rfl⟩ | ⟨m2,hu⟩⟩:=hnd u j hj
        · exact h.fs.sep y x k j hy hF n1
        · exact h.fs.sep y u k j hy hu hyu⟩ hN
  rw[<-HO2.out] at hname
  rw[HFB.out] at hf
  have hst:(x == z)=false:=by simpa using hne
  unfold sV at hf hname ⊢
  clear hb
  go_enter Tryz.func97,Tryz.ntmps97
  go_wp2_with (first
    | (go_at_call 42;refine hf.mono ?_;rintro e w' ⟨rfl,rfl⟩)
    | (go_at_call 43;refine hname.mono ?_;rintro e w' ⟨rfl,k1,k2⟩))
  exact bodyPost_ret (results_tmp Tryz.results97 _ _ _) rfl ⟨rfl,k1,k2⟩
theorem Tryz.results71:Tryz.f71.results=#[.tmp 2]:=by kernel_rfl
theorem gr_trans {g:Option Nat} {a b c:World} (h1:a.grownBy b g) (h2:b.grownBy c g):a.grownBy c g:=⟨h2.os.trans h1.os,h2.tape.trans h1.tape,h2.output.trans h1.output,Nat.le_trans h1.size h2.size,fun k hk hn=>(h2.block k (Nat.lt_of_lt_of_le hk h1.size) hn).trans (h1.block k hk hn)⟩
set_option maxHeartbeats 2000000 in
theorem syncDir_any (S:Nat->Prop) (N D:Nat) (F:Fs) (w:World) (h:Dk S N w D F) (hN:N<=90000) :
  Calls Tryz.prog 71 #[.pointer (some ⟨D,0,none⟩)] w fun e w'=>e=.returned .nilIface/\Dk S N w' D F/\Al S w w':=by
 obtain⟨g,gs,mv,n,ns,Ms,ls,h⟩:=h
 obtain⟨_,h1,h2,_,hfz⟩:=h.c0
 have hf:=Y1 D w h.fine
 obtain⟨es,ck,hgb⟩:=h.safe.box
 have H:Hid (Dk0 S N w D F g gs mv n ns Ms ls):=h
 have hB:Bx e1 1 174 w w 0 mv ls:=⟨Below.refl _ _,h.mv.row,Nat.zero_le _⟩
 obtain⟨a,c,hmv,hP,_⟩:=hB.px (d:=(none,0,[])) (fun _ _=>rfl)
 obtain⟨L,HL⟩:=nm_ ls.length
 rw[HL.out] at hmv
 subst hmv
 have hLN:ns+2*L<=90000:=by have:=h.few;rw[HL.out] at this;omega
 have HPL:Hid (0<L->∃ b off,a=some ⟨b,off,none⟩):=fun h0=>by
  obtain⟨b,off,e1,_⟩:=hP.at_ (by rw[HL.out];exact h0)
  exact⟨b,off,e1⟩
 have HP:Hid (∀ W,w.grownBy W (some gs)->Px e1 1 (none,0,[]) W a c ls):=fun W hW=>by
  have hB:Bx e1 1 174 W W 0 (.slice a L c) ls:=⟨Below.refl _ _,vJ H.out.mv.row hgb hW,Nat.zero_le _⟩
  obtain⟨a',c',e,h,_⟩:=hB.px (d:=(none,0,[])) (fun _ _=>rfl)
  cases e
  exact h
 have HC:Hid (∀ W,w.grownBy W (some gs)->W.heap[D]? = some (dkB g gs (.slice a L c))):=fun W hW=>Tf.grown hgb hW H.out.box
 have HM:Hid (∀ W,w.grownBy W (some gs)->∀ p ∈ ls,MlOk S W p):=fun W hW p hp=>(H.out.mv.at_ p hp).to (fun _ h=>h) hW.size fun i cs f hi=>Tf.grown hgb hW hi
 clear hB hP h
 go_enter Tryz.func71,Tryz.ntmps71
 go_wp2_with (go_at_call 78;refine hf.mono ?_;rintro e w' ⟨rfl,rfl⟩)
 go_loopg [15] L (fun q iv wr=>∃ (i k:Nat) (M':Str->Option Value),iv=.int .i64 i/\q=L-i/\i<=L/\k<=ns+2*i/\Hid (TM (.pointer none) wr gs k M')/\Hid (w'.grownBy wr (some gs)))
 case atStart=>exact⟨0,ns,Ms,rfl,rfl,Nat.zero_le _,Nat.le_refl _,hid H.out.safe,hid ⟨rfl,rfl,rfl,Nat.le_refl _,fun _ _ _=>rfl⟩⟩
 case round =>
  obtain⟨i,k,M',rfl,hq,hin,hk,HT,HW⟩:=hrel
  have hbx:=HC.out _ HW.out
  unfold dkB at hbx
  have hd1:wr.cell? ⟨D,1,none⟩=some (.map (some gs)):=by simp[World.cell?,hbx]
  have hd2:wr.frozen? ⟨D,2,none⟩=false:=by simp[World.frozen?,hbx]
  have hd3:wr.cell? ⟨D,2,none⟩=some (.slice a L c):=by simp[World.cell?,hbx]
  by_cases hlt:i<L
  ·have hlti:(i:Int)<(L:Int):=by omega
   obtain⟨b,off,hae⟩:=HPL.out (by omega)
   subst hae
   obtain⟨p,hp⟩:∃ p,ls.getD i (none,0,[])=p:=⟨_,rfl⟩
   have hpm:p ∈ ls:=by rw[<-hp];exact zK ls i _ (by rw[HL.out];exact hlt)
   obtain⟨_,_,e1,_,e3⟩:=(HP.out wr HW.out).at_ (by rw[HL.out];omega)
   cases e1
   have e4:=e3 i (by rw[HL.out];exact hlt)
   rw[hp] at e4
   obtain⟨pa,pc,pl⟩:=p
   have hm:=HM.out wr HW.out _ hpm
   have hc0:=e4 0 _ rfl
   simp only[Nat.mul_one,Nat.add_zero] at hc0
   have hset:=set_any gs k pa pc pl M' wr HT.out hm.px (by have:=hm.few;simp only at this;omega) hm.nm
   have hfew:pl.length<=2:=hm.few
   obtain⟨n2,hn2⟩:∃ n,pl.length=n:=⟨_,rfl⟩
   rw[hn2] at hset hc0 hfew
   clear hm e3 e4 hp hpm
   go_wp2_with (go_at_call 79;refine hset.mono ?_;rintro e w2 ⟨rfl,hT2,hg2⟩;have HT2:=hid hT2;have HW2:Hid (w'.grownBy w2 (some gs)):=hid (gr_trans HW.out hg2);clear hT2 hg2)
   go_roundg (L-(i+1))
   case measure=>omega
   case rel=>exact⟨i+1,k+n2,_,by go_num,rfl,by omega,by omega,HT2,HW2⟩
  ·have hlti:¬ (i:Int)<(L:Int):=by omega
   obtain rfl:i=L:=by omega
   go_wp2
   refine bodyPost_ret (results_tmp Tryz.results71 _ _ _) rfl ⟨rfl,?_,(Al.of_grown HW.out (fun q hq=>by cases hq;exact H.out.own.2.2)).trans (Al.of_set (S:=S) H.out.own.1 _) (fun i h=>.inl h)⟩
   have t2:Tf 53 wr (wr.setCell ⟨D,2,none⟩ (.slice none 0 0)):=Tf.set (p:=⟨D,2,none⟩) hbx _
   have k0:=H.out
   refine⟨g,gs,.slice none 0 0,n,k,M',[],⟨?_,?_,HT.out.tf t2,k0.ne,?_,⟨World.ownsRow_nil _ _ _ _,fun p hp=>by simp at hp,fun q hq=>by cases hq⟩,?_,k0.own⟩⟩
   ·rw[qy hbx];rfl
   ·exact(k0.now.sm (HW.out.block _ k0.now.lt (fun e=>k0.ne (Option.some.inj e)))).tf t2
   ·exact k0.fs.to fun f hf=>(hf.gr hgb HW.out).tf t2 (by decide) (by decide)
   ·have:=k0.few;rw[HL.out] at this;simp only[List.length_nil];exact⟨this.1,by omega⟩
theorem sync_any (S:Nat->Prop) (N D:Nat) (F:Fs) (f:Fi) (x:Str) (w:World) (h:Dk S N w D F) (hF:F x=some f) :
  Calls Tryz.prog 70 #[.pointer (some ⟨D,0,none⟩),sV x] w fun e w'=>e=.returned .nilIface/\Dk S N w' D (upd F x (some { f with s:=f.zs.length }))/\Al S w w':=by
 obtain⟨g,gs,mv,n,ns,Ms,ls,h⟩:=h
 obtain⟨h0,_⟩:=h.c0
 obtain⟨hn,hx,hS,hk⟩:=h.fs.nd x f hF
 obtain⟨a,c,hv⟩:=zZ hn.own
 refine(sync_there D g n x f.B a f.zs.length c f.s (ptF F) w h.fine h0 h.now hx (by simp[ptF,hF]) (by rw[hn.box,hv])).mono ?_
 rintro e w' ⟨rfl,rfl⟩
 have t2:Tf 63 w (w.setCell ⟨f.B,1,none⟩ (.int .i64 f.zs.length)):=Tf.set (p:=⟨f.B,1,none⟩) hn.box _
 have hsz:(w.setCell ⟨f.B,1,none⟩ (.int .i64 f.zs.length)).heap.size=w.heap.size:=by simp[World.setCell]
 refine⟨rfl,⟨g,gs,mv,n,ns,Ms,ls,t2.of (by decide) h.box,?_,h.safe.tf t2,h.ne,⟨fun y k hy=>?_,fun y z k j hy hz hne=>?_⟩,h.mv.tf t2 (by omega) (by decide) (by decide),h.few,h.own⟩,Al.of_set hS _⟩
 ·have:ptF (upd F x (some { f with s:=f.zs.length }))=ptF F:=by
   funext y
   simp only[ptF,upd]
   by_cases e:y=x
   ·rw[if_pos e,e,hF];rfl
   ·rw[if_neg e]
  rw[this];exact h.now.tf t2
 ·unfold upd at hy
  by_cases e:y=x
  ·rw[if_pos e] at hy;cases hy
   exact⟨⟨by rw[qy hn.box];rfl,zV hn.own t2 (by decide)⟩,e ▸ hx,hS,hk⟩
  ·rw[if_neg e] at hy
   obtain⟨q1,q2⟩:=h.fs.nd y k hy
   exact⟨⟨(Below.heap_setCell _ _ _ _ (h.fs.sep y x k f hy hF e).1).trans q1.box,zV q1.own t2 (by decide)⟩,q2⟩
 ·unfold upd at hy hz
  by_cases e:y=x
  ·rw[if_pos e] at hy;cases hy
   rw[if_neg (fun e2=>hne (e.trans e2.symm))] at hz
   exact h.fs.sep x z f j hF hz (fun e2=>hne (e.trans e2))
  ·rw[if_neg e] at hy
   by_cases e2:z=x
   ·rw[if_pos e2] at hz;cases hz
    exact h.fs.sep y x k f hy hF e
   ·rw[if_neg e2] at hz;exact h.fs.sep y z k j hy hz hne
def eB (n:Int):List Value:=[.int .u8 n]
theorem row_eB (l:List Int):l.flatMap eB=row .u8 l:=by
 induction l with
 | nil=>rfl
 | cons x l ih=>simp only[List.flatMap_cons,ih];rfl
theorem px_bytes {w:World} {a:Option Addr} {c:Nat} {l:List Int} (h:Sl w a c l):Px eB 1 0 w a c l :=
 ⟨h.capl,fun h0=>by
  obtain⟨b,off,e1,e2,e3⟩:=h.at_ h0
  refine⟨b,off,e1,e2,fun i hi j v hv=>?_⟩
  have hj:j=0:=by
   have:=(List.getElem?_eq_some_iff.1 hv).1
   simp only[eB,List.length_cons,List.length_nil] at this
   omega
  subst hj
  simp only[eB,List.getElem?_cons_zero,Option.some.injEq] at hv
  subst hv
  have:=e3 i hi
  rw[Nat.mul_one]
  exact this,h.nil⟩
theorem Yy:(Tryz.prog.info? 5).map (fun i=>(i.zero,i.size,i.bytes))=some (some (.int .u8 0),1,1):=by kernel_rfl
theorem uj:Tryz.prog.underlying 60=some (.slice 5):=by kernel_rfl
theorem Tryz.results85:Tryz.f85.results=#[.tmp 6]:=by kernel_rfl
def fl (F:Fs) (x:Str):Nat:=((F x).map fun f=>f.zs.length).getD 0
theorem ptF_some {F:Fs} {x:Str} {v:Value} (h:ptF F x=some v):∃ f,F x=some f/\v=.pointer (some ⟨f.B,0,none⟩):=by
 unfold ptF at h
 cases hf:F x with
 | none=>rw[hf] at h;cases h
 | some f=>rw[hf] at h;exact⟨f,rfl,(Option.some.inj h).symm⟩
theorem append_any (S:Nat->Prop) (N D:Nat) (F:Fs) (f:Fi) (x z:Str) (ab:Option Addr) (cb:Nat) (bs:List Int) (w:World) (h:Dk S N w D F) (hF:F x=some f) (hxz:x ≠ z) (hzl:z.length<=4000) (ho:∀ y,F y ≠ none->y=x ∨ y=z) (hb:Sl w ab cb bs) (hl:f.zs.length+bs.length<=500000000) (hz:fl F z<=500000000) :
  Calls Tryz.prog 85 #[.pointer (some ⟨D,0,none⟩),sV x,.slice ab bs.length cb] w fun e w'=>e=.returned .nilIface/\(∃ v',Dk (Sx S w w') N w' D (upd F x (some { f with v:=v',zs:=f.zs++bs })))/\Al S w w':=by
 obtain⟨g,gs,mv,n,ns,Ms,ls,h⟩:=h
 obtain⟨h0,_,_,h3,_⟩:=h.c0
 obtain⟨hn,hx,hS,hk⟩:=h.fs.nd x f hF
 have hf:=jZ D g n x ⟨f.B,0,none⟩ (ptF F) w h.fine h0 h.now hx (by simp[ptF,hF])
 obtain⟨w1,c0,hrg,hT,hg1,hs1⟩:=h.now.range kW
 have HB1:Hid (Below w.heap.size w w1):=hid ⟨hg1.os,hg1.tape,hg1.output,hg1.size,fun k hk=>hg1.block k hk (by simp)⟩
 have HT:Hid (TR (.pointer none) w1 g w.heap.size n (ptF F) (fun y=>(ptF F y).isSome) c0):=hT
 have H:Hid (Dk0 S N w D F g gs mv n ns Ms ls):=h
 obtain⟨r,HR⟩:=nm_ w.heap.size
 obtain⟨fB,HFB⟩:=nm_ f.B
 obtain⟨lx,HLX⟩:=nm_ f.zs.length
 obtain⟨lz,HLZ⟩:=nm_ (fl F z)
 obtain⟨lb,HLB⟩:=nm_ bs.length
 obtain⟨va,vc,hv⟩:=zZ hn.own
 rw[HR.out] at hrg HT HB1
 rw[HFB.out] at hf
 rw[HLX.out,HLB.out] at hl
 rw[HLZ.out] at hz
 rw[HLB.out]
 have HO:Hid (∀ y,F y ≠ none->y=x ∨ y=z):=ho
 have HP:Hid (∀ W,Below r w W->Px eB 1 0 W ab cb bs):=fun W hW=>(px_bytes hb).below (by rw[HR.out];exact hW)
 have HDW:Hid (∀ W,Below r w W->Dk0 S N W D F g gs mv n ns Ms ls):=fun W hW=>H.out.below (by rw[HR.out];exact hW)
 have HNX:Hid (x ≠ z/\x.length<=4000/\z.length<=4000/\F x=some f):=⟨hxz,hx,hzl,hF⟩
 clear h hT hg1 hs1 hxz ho hb hn hk hS hF hx hzl
 unfold sV at hf ⊢
 go_enter Tryz.func85,Tryz.ntmps85
 go_wp2_with (first
  | (go_at_call 42;refine hf.mono ?_;rintro e w' ⟨rfl,rfl⟩)
  | (at_range;refine z8 rfl _ (vX rfl rfl hrg) ?_))
 go_frame
 go_loopg [9] c0 (fun q uv wr=>∃ (u c:Nat) (L:Str->Bool),uv=.int .i64 u/\q=c/\u<=1000000000/\Hid (u=(if L x then 0 else lx)+(if L z then 0 else lz))/\Hid (TR (.pointer none) wr g r n (ptF F) L c)/\Hid (Below r w' wr))
 case atStart =>
  refine⟨0,c0,_,rfl,rfl,by omega,hid ?_,HT,HB1⟩
  have e1:(ptF F x).isSome=true:=by simp[ptF,HNX.out.2.2.2]
  rw[e1]
  cases e2:(ptF F z).isSome with
  | true=>rfl
  | false =>
   have:lz=0:=by
    rw[<-HLZ.out]
    unfold fl
    cases e3:F z with
    | none=>rfl
    | some k=>simp[ptF,e3] at e2
   simp[this]
 case round =>
  obtain⟨u,c,L,rfl,hq,hu,HU,HTR,HW⟩:=hrel
  have hD:=HDW.out _ HW.out
  obtain⟨_,_,_,hd3,_⟩:=hD.c0
  rcases HTR.out.next 0 with ⟨rfl,hall,hr⟩ | ⟨y,v,w2,c',hL,hM,hr,hT2,hc,hg2,hs2,hen⟩
  ·have hu2:u=lx+lz:=by have:=HU.out;rw[hall x HNX.out.2.1,hall z HNX.out.2.2.1] at this;simpa using this
   have hu3:¬ 1099511627776-(u:Int)<(lb:Int):=by omega
   clear hu2
   obtain⟨hn,hx,hS,hk⟩:=hD.fs.nd x f HNX.out.2.2.2
   have hbx:=hn.box
   rw[HFB.out,hv] at hbx
   have hb0:wr.cell? ⟨fB,0,none⟩=some (.slice va lx vc):=by simp[World.cell?,hbx,HLX.out]
   have hbw:Bx eB 1 5 wr wr 0 (.slice va lx vc) f.zs:=⟨Below.refl _ _,by rw[row_eB];have:=hn.own;rw[hv,HLX.out] at this;rw[HLX.out];exact this,Nat.zero_le _⟩
   have HBW:=hid hbw
   clear hbw hall
   have HE:Hid (∀ v2 w2,Bx eB 1 5 wr w2 0 v2 (f.zs++bs)->Mv wr w2 (.slice va lx vc) v2->w2.frozen? ⟨fB,0,none⟩=false/\w2.cell? ⟨fB,0,none⟩=some (.slice va lx vc)/\(∃ v',Dk (Sx S w' (w2.setCell ⟨fB,0,none⟩ v2)) N (w2.setCell ⟨fB,0,none⟩ v2) D (upd F x (some { f with v:=v',zs:=f.zs++bs })))/\Al S w' (w2.setCell ⟨fB,0,none⟩ v2)):=fun v2 w2 h1 h2=>by
    have hov:=hn.own
    rw[hv,HLX.out] at hov
    have hkv:∀ q,(Value.slice va lx vc).ownBlock=some q->S q:=fun q hq=>hk q (by rw[hv,HLX.out];exact hq)
    have hgr:wr.grownBy w2 (Value.slice va lx vc).ownBlock:=⟨h2.os,h2.tape,h2.output,h2.size,fun i hi hn=>h2.blk i hi hn⟩
    have t1:Tf 5 wr w2:=Tf.mv h2 (vK hov)
    have hb2:=t1.of (by decide) hbx
    have t2:Tf 63 w2 (w2.setCell ⟨fB,0,none⟩ v2):=Tf.set (p:=⟨fB,0,none⟩) hb2 v2
    have hsz:(w2.setCell ⟨fB,0,none⟩ v2).heap.size=w2.heap.size:=by simp[World.setCell]
    have hs1:=h2.size
    have hs0:=HW.out.size
    have hFB:=HFB.out
    have hF:=HNX.out.2.2.2
    refine⟨by simp[World.frozen?,hb2],by simp[World.cell?,hb2,HLX.out],⟨v2,g,gs,mv,n,ns,Ms,ls,t2.of (by decide) (t1.of (by decide) hD.box),?_,(hD.safe.tf t1).tf t2,hD.ne,⟨fun y k hy=>?_,fun y q k j hy hz hne=>?_⟩,((hD.mv.tf t1 hs1 (by decide) (by decide)).tf t2 (by omega) (by decide) (by decide)).mono fun i hi=>.inl hi,hD.few,.inl hD.own.1,.inl hD.own.2.1,.inl hD.own.2.2⟩,((Al.below (by rw[HR.out];exact HW.out)).trans (Al.of_mv (S:=S) h2 hkv) (fun i h=>.inl h)).trans (Al.of_set (S:=S) (by rw[<-hFB];exact hS) v2) (fun i h=>.inl h)⟩
    ·have:ptF (upd F x (some { f with v:=v2,zs:=f.zs++bs }))=ptF F:=by
      funext y
      simp only[ptF,upd]
      by_cases e:y=x
      ·rw[if_pos e,e,hF];rfl
      ·rw[if_neg e]
     rw[this];exact(hD.now.tf t1).tf t2
    ·unfold upd at hy
     by_cases e:y=x
     ·rw[if_pos e] at hy;cases hy
      refine⟨⟨by rw[hFB,qy hb2];rfl,?_⟩,e ▸ hx,.inl hS,fun q hq=>?_⟩
      ·have:=h1.own;rw[row_eB] at this;exact zV this t2 (by decide)
      ·rcases h2.at_ with e1 | e1
       ·exact .inl (hkv q (e1 ▸ hq))
       ·have h3:=e1 q hq
        have h4:=(yq h1.own q hq).2
        exact .inr ⟨by omega,by omega⟩
     ·rw[if_neg e] at hy
      obtain⟨q1,q2,q3,q4⟩:=hD.fs.nd y k hy
      have hsp:=hD.fs.sep y x k f hy hF e
      refine⟨⟨(Below.heap_setCell _ _ _ _ (by rw[<-hFB];exact hsp.1)).trans (t1.of (by decide) q1.box),zV (q1.own.kept hgr (by rw[hv,HLX.out] at hsp;exact hsp.2)) t2 (by decide)⟩,q2,.inl q3,fun i hi=>.inl (q4 i hi)⟩
    ·have hnew:∀ i k,F i=some k->i ≠ x->k.v.ownBlock=none ∨ k.v.ownBlock ≠ v2.ownBlock:=fun i k hi hix=>by
      have hsp:=hD.fs.sep i x k f hi hF hix
      rcases hsp.2 with e | e
      ·exact .inl e
      ·cases e3:k.v.ownBlock with
       | none=>exact .inl rfl
       | some b =>
        refine .inr fun e2=>?_
        rcases h2.at_ with e1 | e1
        ·rw[hv,HLX.out,e3,e2,e1] at e;exact e rfl
        ·have h3:=e1 b e2.symm
         have h4:=(yq (hD.fs.nd i k hi).1.own b e3).2
         omega
     unfold upd at hy hz
     by_cases e:y=x
     ·rw[if_pos e] at hy;cases hy
      rw[if_neg (fun e2=>hne (e.trans e2.symm))] at hz
      have hqx:q ≠ x:=fun e2=>hne (e.trans e2.symm)
      refine⟨(hD.fs.sep q x j f hz hF hqx).1.symm,?_⟩
      rcases hnew q j hz hqx with e4 | e4
      ·cases e5:v2.ownBlock with
       | none=>exact .inl rfl
       | some b=>exact .inr (by rw[e4];simp)
      ·exact .inr fun e6=>e4 e6.symm
     ·rw[if_neg e] at hy
      by_cases e2:q=x
      ·rw[if_pos e2] at hz;cases hz
       exact⟨(hD.fs.sep y x k f hy hF e).1,hnew y k hy e⟩
      ·rw[if_neg e2] at hz;exact hD.fs.sep y q k j hy hz hne
   go_wp2_with (first
    | (at_next;refine z8 rfl _ (qY rfl rfl hr) ?_;go_frame)
    | (at_builtin;refine zj (enc:=eB) (k:=1) (d:=0) rfl _ _ 60 5 uj Yy rfl (by decide) (by decide) (fun x v hv=>by simp only[eB,List.mem_singleton] at hv;subst hv;rfl) rfl 0 _ f.zs rfl HBW.out ab cb bs (by rw[HLB.out];rfl) (HP.out _ HW.out) (fun x _=>rfl) (by rw[HLX.out,HLB.out];omega) ?_;intro v2 w2 hb2 hg2 hm2;obtain⟨q1,q0,q2,q3⟩:=HE.out v2 w2 hb2 hm2;have Q2:=hid q2;have Q3:=hid q3;obtain⟨xa,xn,xc,rfl⟩:=own_sl hb2.own;clear q2 q3 hg2 hb2 hm2))
   exact bodyPost_ret (results_tmp Tryz.results85 _ _ _) rfl ⟨rfl,Q2.out,Q3.out⟩
  ·obtain⟨k,hk,rfl⟩:=ptF_some hM
   obtain⟨hn,-⟩:=hD.fs.nd y k hk
   obtain⟨ka,kc,hkv⟩:=zZ hn.own
   obtain⟨kn,HKN⟩:=nm_ k.zs.length
   obtain⟨kB,HKB⟩:=nm_ k.B
   have hbx:=hn.box
   rw[hkv,HKN.out,HKB.out] at hbx
   have hW2:Below r w' w2:=by
    have h1:=HW.out
    exact⟨hg2.os.trans h1.os,hg2.tape.trans h1.tape,hg2.output.trans h1.output,by have:=h1.size;omega,fun i hi=>(hg2.block i (by have:=h1.size;have:=HR.out;omega) (by intro e;cases e;omega)).trans (h1.block i hi)⟩
   have hb0:w2.cell? ⟨kB,0,none⟩=some (.slice ka kn kc):=by
    have h5:=((HDW.out _ hW2).fs.nd y k hk).1.box
    rw[hkv,HKN.out,HKB.out] at h5
    simp[World.cell?,h5]
   have HU2:Hid (u+kn=(if (L x && decide (x ≠ y)) then 0 else lx)+(if (L z && decide (z ≠ y)) then 0 else lz)/\u+kn<=1000000000):=hid (by
    have h1:=HU.out
    have hne:=HNX.out.1
    rcases HO.out y (by rw[hk];simp) with rfl | rfl
    ·rw[HNX.out.2.2.2] at hk
     cases hk
     rw[HLX.out] at HKN
     have:=HKN.out
     simp only[hL,if_true] at h1
     have e2:decide (z ≠ y)=true:=decide_eq_true (fun e=>hne e.symm)
     rw[e2]
     simp only[ne_eq,not_true_eq_false,decide_false,Bool.and_false,Bool.false_eq_true,if_false,Bool.and_true]
     constructor
     ·omega
     ·split at h1 <;> omega
    ·have h2:lz=kn:=by rw[<-HLZ.out,<-HKN.out];simp[fl,hk]
     simp only[hL,if_true] at h1
     have e2:decide (x ≠ y)=true:=decide_eq_true hne
     rw[e2]
     simp only[ne_eq,not_true_eq_false,decide_false,Bool.and_false,Bool.false_eq_true,if_false,Bool.and_true]
     constructor
     ·omega
     ·split at h1 <;> omega)
   have HT2:=hid hT2
   have HW2:=hid hW2
   rw[HKB.out] at hr hen
   unfold sV at hr hen
   clear hD hn hM hT2 hW2 hg2 hs2 hk hkv hbx
   have hku:u+kn<=1000000000:=HU2.out.2
   go_wp2_with (at_next;refine z8 rfl _ (qY rfl rfl hr) ?_;go_frame)
   go_roundg c'
   case measure=>omega
   case rel=>exact⟨u+kn,c',_,by go_num,rfl,HU2.out.2,hid HU2.out.1,HT2,HW2⟩
end Go.Proofs.YtgliaiemkfopeaaGreatDoor.K
