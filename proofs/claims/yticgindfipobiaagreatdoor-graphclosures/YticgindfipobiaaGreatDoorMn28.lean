import Derived.Test.YticgindfipobiaaGreatDoorMn27
import Derived.Maps.OwnIn
import Derived.Great.BuildSlice
import Derived.Test.YticgindfipobiaaGreatDoorMn16
import Derived.Sort.Statements
set_option linter.unusedSectionVars false
set_option linter.unusedSimpArgs false
set_option linter.unusedVariables false
set_option maxRecDepth 20000
set_option maxHeartbeats 4000000
namespace Go.Proofs.YticgindfipobiaaGreatDoor
open Go.RowKit Go.Shelf
variable [Inhabited Er]
def WfE (es:List Er):Prop := ∀ x ∈ es,x.id.length=20/\∀ n ∈ x.id,0<=n/\n<256
structure Pe (w:World) (a:Option Addr) (cap:Nat) (es:List Er):Prop where
 capl:es.length<=cap
 at_:0<es.length->∃ b off,a=some ⟨b,off,none⟩/\b<w.heap.size/\∀ i,i<es.length->w.rangeAt b (off+i*22) (erV (es.getD i default))
 nil:a=none->cap=0
theorem Pe.below {w w':World} {a:Option Addr} {cap:Nat} {es:List Er} (h:Pe w a cap es) (hb:Below w.heap.size w w'):Pe w' a cap es :=
 ⟨h.capl,fun h0=>by
  obtain⟨b,off,e1,e2,e3⟩:=h.at_ h0
  exact⟨b,off,e1,Nat.lt_of_lt_of_le e2 hb.size,fun i hi j v hv=>(hb.cell (p:=⟨b,off+i*22+j,none⟩) e2).trans (e3 i hi j v hv)⟩,h.nil⟩
theorem Pe.kx {X l:Nat} {A B:World} {a:Option Addr} {cap:Nat} {es:List Er} (h:Pe A a cap es) (hk:Kx X l A B) (hf:0<es.length->∀ p:Addr,a=some p->Fre X A p.block/\p.block ≠ l):Pe B a cap es :=
 ⟨h.capl,fun h0=>by
  obtain⟨b,off,e1,e2,e3⟩:=h.at_ h0
  obtain⟨f1,f2⟩:=hf h0 _ e1
  exact⟨b,off,e1,Nat.lt_of_lt_of_le e2 hk.size,fun i hi j v hv=>(World.cell?_of_block (a:=⟨b,off+i*22+j,none⟩) (hk.blk b f1.lt f1.ne f2 f1.no)).trans (e3 i hi j v hv)⟩,h.nil⟩
theorem xK (es:List Er) (i:Nat) (h:i<es.length):es.take (i+1)=es.take i++[es.getD i default]:=by
 rw[List.take_add_one,List.getD_eq_getElem?_getD,List.getElem?_eq_getElem h];rfl
def encE (x:Er):Array Value:=#[.agg (erV x).toArray]
theorem zero51 (w:World):(zeroValue 154).run Tryz.prog w=.ok (.agg (erV ⟨0,[],z20⟩).toArray) w:=by kernel_rfl
theorem j0 (e:Er):∀ v ∈ erV e,v.oneCell'=true:=by
 intro v hv
 simp only[erV,List.mem_cons] at hv
 rcases hv with rfl | rfl | hv
 ·rfl
 ·rfl
 ·exact zV _ _ v hv
theorem yv {F:Fence} {nF:Nat} {P:Program} {ops:Array Oper} {rest:List Oper} {op:Oper} {a:Act} {w:World} {Q:Exit->Act->World->Prop} (hgd:op.guard=none) (ty:TypeId) (x:Operand) (ho:op.op=.load ty x)
  (b o:Nat) (hx:a.eval x=.pointer (some ⟨b,o,none⟩)) (cs:List Value) (d:TypeDesc) (hc:w.rangeAt b o cs)
  (hu:P.underlying ty=some d) (hd:d.isRow=true) (hi:(P.info? ty).map (·.size)=some cs.length)
  (h:wpListIn F nF P ops Q rest (a.put op.dst (.agg cs.toArray)) w):wpListIn F nF P ops Q (op :: rest) a w:=by
 refine wpListIn_plain hgd fun K hK=>?_
 unfold Oper.wpIn
 refine⟨by simp[Oper.about,ho],?_⟩
 rw[Oper.semAt_plain F _ _ (by rw[ho];intro c hc';cases hc')]
 unfold execOp
 simp only[ho,hx,Instr.loadAt,Instr.sureAddr,Sem.run_bind,Sem.run_pure,Result.andThen_ok,run_loadVar_mid w b o ty cs d hc hu hd hi]
 exact hK _ _ h
theorem yJ {F:Fence} {nF:Nat} {P:Program} {ops:Array Oper} {rest:List Oper} {o:Oper} {a:Act} {w:World} {Q:Exit->Act->World->Prop} (hgd:o.guard=none) (ty:TypeId) (x y:Operand) (ho:o.op=.store ty x y)
  (g:Nat) (cells:Array Value) (hx:a.eval x=.pointer (some ⟨g,0,none⟩)) (hy:a.eval y=.agg cells)
  (t:TypeId) (old:Array Value) (hg:w.heap[g]? = some (.cells old t (0,0))) (hi:(P.info? ty).map (·.size)=some cells.size)
  (hold:old.size=cells.size) (h1:cells.all (·.oneCell')=true)
  (h:wpListIn F nF P ops Q rest (a.put o.dst undef) (w.setRow g cells)):wpListIn F nF P ops Q (o :: rest) a w:=by
 refine wpListIn_plain hgd fun K hK=>?_
 unfold Oper.wpIn
 refine⟨by simp[Oper.about,ho],?_⟩
 rw[Oper.semAt_plain F _ _ (by rw[ho];intro c hc';cases hc')]
 unfold execOp
 simp only[ho,hx,hy,Instr.storeAt,Instr.sureAddr,Sem.run_bind,Sem.run_pure,Result.andThen_ok,run_storeVar_row w g t ty old cells hg hi hold h1]
 exact hK _ _ h
set_option maxRecDepth 100000 in
theorem values_all (n:Nat) (hn:1<=n) (w:World) (X Bs:Nat) (a:Option Addr) (cap:Nat) (es:List Er) (hwf:WfE es) (hP:Pe w a cap es) (hl:es.length<=2000) (hbs:Boxed w Bs 149 (.slice a es.length cap))
  (hX:X<w.heap.size) (fs:Fre X w Bs) (fa:0<es.length->∀ p:Addr,a=some p->Fre X w p.block) :
  SeqAll Fence.wide n Tryz.prog 152 #[.pointer (some ⟨Bs,0,none⟩)] encE (fun x _=>x.id.length=20) (Kx X) (fun xs=>xs=es) es.length w:=by
 intro l J W hW hwl hlW hJ hY h0
 have hXW:X<W.heap.size:=Nat.lt_of_lt_of_le hX hW.size
 have K0:Kx X l w W:=⟨hW.os,hW.tape,hW.output,hW.size,fun k ⟨v,h1,h2⟩=>.inl ⟨v,by rw[<-h1];exact(hW.cell (p:=⟨X,0,none⟩) hX).symm,h2⟩,fun k h1 _ _ _=>hW.block k h1,fun hb k ⟨v,h1,h2⟩=>Nat.lt_of_lt_of_le (hb k ⟨v,by rw[<-h1];exact(hW.cell (p:=⟨X,0,none⟩) hX).symm,h2⟩) hW.size⟩
 obtain⟨L,HL⟩:=nm_ es.length
 have hL:L<=2000:=by rw[<-HL.out];exact hl
 have ks:W.cell? ⟨Bs,0,none⟩=some (.slice a L cap):=by rw[<-HL.out];exact(boxed_kx hbs K0 fs (by have:=fs.lt;omega)).cell
 obtain⟨zr,HZ⟩:=nn_ ((erV ⟨0,[],z20⟩).toArray:Array Value)
 have hz51:∀ w:World,(zeroValue 154).run Tryz.prog w=.ok (.agg zr) w:=fun w=>by rw[HZ.out];exact zero51 w
 have HPE:Hid (∀ B,Kx X l w B->Pe B a cap es):=fun B hk=>hP.kx hk (fun h0 p hp=>⟨fa h0 p hp,by have:=(fa h0 p hp).lt;omega⟩)
 refine callsIn_of_wp Tryz.func152 rfl trivial ?_ rfl
 simp only[Tryz.ntmps152,List.size_toArray,List.length_cons,List.length_nil,Nat.reduceAdd,Nat.reduceSub,Array.replicate_succ,Array.replicate_zero,List.push_toArray,List.append_toArray,List.nil_append,List.cons_append]
 gi_wp2
 gi_loopg [7] L (fun k v wr=>∃ (i:Nat),v=.int .i64 i/\k=L-i/\i<=L/\Hid (Kx X l w wr)/\Hid (J (es.take i) wr))
 case atStart=>exact⟨0,rfl,rfl,by omega,K0,h0⟩
 case round =>
  obtain⟨i,rfl,hk,hi,HK,HJ⟩:=hrel
  by_cases hiL:i<L
  ·have hiI:(i:Int)<L:=by omega
   obtain⟨b,off,hae,hbG,hat⟩:=(HPE.out wr HK.out).at_ (by rw[HL.out];omega)
   subst hae
   obtain⟨x,HX⟩:=nm_ (es.getD i default)
   have hxm:x ∈ es:=by
    rw[<-HX.out,List.getD_eq_getElem?_getD,List.getElem?_eq_getElem (by rw[HL.out];exact hiL)]
    exact List.getElem_mem _
   have hx20:=(hwf x hxm).1
   obtain⟨R,HR⟩:=nm_ (erV x)
   have RR:Hid (wr.rangeAt b (off+i*22) R):=hid (by rw[<-HR.out,<-HX.out];exact hat i (by rw[HL.out];exact hiL))
   have HFN:Hid (R.length=22):=hid (by rw[<-HR.out];exact yz x hx20)
   have hi51:(Tryz.prog.info? 154).map (·.size)=some R.length:=by rw[HFN.out];exact Q8
   have I51:Hid ((Tryz.prog.info? 154).map (·.size)=some R.toArray.size):=hid (by rw[List.size_toArray];exact hi51)
   have E51:Hid (zr.size=R.toArray.size):=hid (by rw[HZ.out,List.size_toArray,List.size_toArray,HFN.out];rfl)
   have O51:Hid (R.toArray.all (·.oneCell')=true):=hid (by rw[<-HR.out];exact all_oneCell_toArray (j0 _))
   have D0:Hid ((wr.alloc (.cells zr 154)).heap[wr.heap.size]? = some (.cells zr 154 (0,0))):=heap_alloc_new wr _
   obtain⟨w2,HW2⟩:=nm_ ((wr.alloc (.cells zr 154)).setRow wr.heap.size R.toArray)
   obtain⟨H,HH⟩:=nm_ wr.heap.size
   have hb2:Below wr.heap.size wr w2:=by rw[<-HW2.out];exact below_setRow ((Below.refl _ wr).alloc (Nat.le_refl _) _) (Nat.le_refl _) _
   have hg2:wr.grownBy w2 none:=zw hb2 _
   have R2:Hid (w2.rangeAt H 0 R):=hid (by rw[<-HW2.out,<-HH.out];exact zx (setRow_heap _ _ _ R.toArray _ _ D0.out))
   have HPI:Hid ((es.take i).length<es.length):=hid (by rw[List.length_take,HL.out];omega)
   obtain⟨fn_,tmps,assign,body,hy,hRr⟩:=hY (es.take i) x w2 (hJ _ _ _ HJ.out hg2) hx20 HPI.out
   have HKg:Hid (Kx X l w w2):=HK.out.trans (Kx.grow (Nat.lt_of_lt_of_le hX HK.out.size) hg2)
   have HTK:Hid (es.take i++[x]=es.take (i+1)):=hid (by rw[xK es i (by rw[HL.out];exact hiL),HX.out])
   have hRr2:Hid (RoundIn Fence.wide (n-1) Tryz.prog l fn_ tmps assign body w2 fun e W'=>e=.returned (.bool true)/\J (es.take i++[x]) W'/\Kx X l w2 W'):=hid hRr
   rw[show encE x=#[.agg R.toArray] by unfold encE;rw[HR.out]] at hy
   clear hg2 hb2 hat hxm hRr
   gi_wp2_with (first
    | refine yv rfl 154 _ rfl b (off+i*22) rfl R _ RR.out Tryz.underlying154 rfl hi51 ?_
    | (refine yJ rfl 154 _ _ rfl wr.heap.size R.toArray rfl rfl 154 zr D0.out I51.out E51.out O51.out ?_;rw[HW2.out,HH.out])
    | refine yv rfl 154 _ rfl H 0 rfl R _ R2.out Tryz.underlying154 rfl hi51 ?_)
   refine hRr2.out.mono ?_
   rintro e1 W3 ⟨rfl,hJ3,hk3⟩
   have HK3:Hid (Kx X l w W3):=HKg.out.trans hk3
   have HJ3:Hid (J (es.take (i+1)) W3):=hid (by rw[<-HTK.out];exact hJ3)
   clear hJ3 hk3
   gi_wp2
   gi_roundg (L-(i+1))
   case measure=>omega
   case rel=>exact⟨i+1,by go_num,rfl,by omega,HK3,HJ3⟩
  ·have hiI:¬ (i:Int)<L:=by omega
   have hin:i=L:=by omega
   gi_wp2
   go_end0
   have:=HJ.out
   rw[List.take_of_length_le (by rw[HL.out];omega)] at this
   exact⟨⟨_,rfl⟩,this⟩
end Go.Proofs.YticgindfipobiaaGreatDoor
namespace Go.Proofs.YticgindfipobiaaGreatDoor
open Go.RowKit Go.Shelf Go.Maps
variable [Inhabited Er]
attribute [local go_sem] Oper.semAt_some
structure Mv (w w':World) (v v':Value):Prop where
 os:w'.os=w.os
 tape:w'.tape=w.tape
 output:w'.output=w.output
 size:w.heap.size<=w'.heap.size
 blk:∀ k,k<w.heap.size->some k ≠ v.ownBlock->w'.heap[k]? = w.heap[k]?
 at_:v'.ownBlock=v.ownBlock ∨ ∀ k,v'.ownBlock=some k->w.heap.size<=k
theorem Mv.refl (w:World) (v:Value):Mv w w v v:=⟨rfl,rfl,rfl,Nat.le_refl _,fun _ _ _=>rfl,.inl rfl⟩
theorem Mv.trans {a b c:World} {u v x:Value} (h:Mv a b u v) (k:Mv b c v x):Mv a c u x:=by
 have hs:=h.size
 refine⟨k.os.trans h.os,k.tape.trans h.tape,k.output.trans h.output,Nat.le_trans h.size k.size,fun i hi hn=>?_,?_⟩
 ·refine(k.blk i (by omega) (fun e=>?_)).trans (h.blk i hi hn)
  rcases h.at_ with g | g
  ·exact hn (e.trans g)
  ·have:=g i e.symm;omega
 ·rcases k.at_ with g | g
  ·rcases h.at_ with g' | g'
   ·exact .inl (g.trans g')
   ·exact .inr fun i hi=>g' i (g ▸ hi)
  ·exact .inr fun i hi=>by have:=g i hi;omega
theorem Mv.app {w wx w1:World} {v v':Value} (h0:w.grownBy wx none) (hg:wx.grownBy w1 v.ownBlock) (hl:v'.ownBlock=v.ownBlock ∨ v'.ownBlock=some wx.heap.size):Mv w w1 v v':=by
 have hs:=h0.size
 refine⟨hg.os.trans h0.os,hg.tape.trans h0.tape,hg.output.trans h0.output,Nat.le_trans h0.size hg.size,fun k hk hn=>(hg.block k (by omega) hn).trans (h0.block k hk (by simp)),?_⟩
 rcases hl with h | h
 ·exact .inl h
 ·exact .inr fun k hk=>by rw[h] at hk;simp at hk;omega
theorem Mv.below {w w':World} {v v':Value} (h:Mv w w' v v') {B:Nat} (hB:∀ k,v.ownBlock=some k->B<=k) (hw:B<=w.heap.size):Below B w w' :=
 ⟨h.os,h.tape,h.output,h.size,fun k hk=>h.blk k (by omega) (fun e=>by have:=hB k e.symm;omega)⟩
theorem Mv.drew {w w':World} {v v':Value} (h:Mv w w' v v') (n:Nat):Mv w (w'.drewN n) v v':=⟨h.os,h.tape,h.output,h.size,h.blk,h.at_⟩
theorem Kx.mv {X l:Nat} {W W1:World} {v v1:Value} (hb:Boxed W X 149 v) (h:Mv W W1 v v1) (hne:some X ≠ v.ownBlock) (hlt:∀ k,v1.ownBlock=some k->k<W1.heap.size):Kx X l W (W1.setCell ⟨X,0,none⟩ v1):=by
 have hX:=hb.lt
 have hs:=h.size
 have hb1:W1.heap[X]? = W.heap[X]? := h.blk X hX hne
 have hc:(W1.setCell ⟨X,0,none⟩ v1).cell? ⟨X,0,none⟩=some v1:=World.cell?_setCell_same (u:=v) _ _ _ ((World.cell?_of_block (a:=⟨X,0,none⟩) hb1).trans hb.cell)
 refine⟨h.os,h.tape,h.output,by simp[World.setCell];exact hs,fun k ⟨u,h1,h2⟩=>?_,fun k h1 h2 h3 h4=>?_,fun _ k ⟨u,h1,h2⟩=>by rw[hc] at h1;cases h1;simp[World.setCell];exact hlt k h2⟩
 ·rw[hc] at h1
  cases h1
  rcases h.at_ with g | g
  ·exact .inl ⟨v,hb.cell,by rw[<-g];exact h2⟩
  ·exact .inr (g k h2)
 ·rw[Below.heap_setCell _ _ _ k h2]
  exact h.blk k h1 (fun e=>h4 ⟨v,hb.cell,e.symm⟩)
theorem Mv.grow {A B:World} (v:Value) (h:A.grownBy B none):Mv A B v v:=⟨h.os,h.tape,h.output,h.size,fun k hk _=>h.block k hk (by simp),.inl rfl⟩
theorem Mv.put {w W:World} {v u:Value} (h:Mv w W v u) {l:Nat} (o:Obj) (hl:w.heap.size<=l):Mv w (W.putObj l o) v u :=
 ⟨h.os,h.tape,h.output,by rw[World.putObj_size];exact h.size,fun k hk hn=>(World.putObj_heap_other (by omega)).trans (h.blk k hk hn),h.at_⟩
theorem Qz {W:World} {B:Nat} {u:Value} {n:Nat} {xs:List Value} (h:W.ownsRow B 154 22 u n xs) {k:Nat} (hk:u.ownBlock=some k):∃ cur,W.heap[k]? = some (.cells cur 154 (0,0)):=by
 obtain⟨_,⟨rfl,_⟩ | ⟨g,cap,cur,rfl,_,h2,_⟩⟩:=h
 ·cases hk
 ·simp[Value.ownBlock] at hk;subst hk;exact⟨cur,h2⟩
theorem keeps_mv {W W1:World} {X:Nat} {u u1:Value} {B n:Nat} {xs:List Value} (hb:Boxed W X 149 u) (ho:W.ownsRow B 154 22 u n xs) (h:Mv W W1 u u1) (Bx:Nat):KeepsFrom Bx W (W1.setCell ⟨X,0,none⟩ u1):=by
 refine⟨by simp[World.setCell];exact h.size,fun k o _ hk hc=>?_⟩
 have hkX:k ≠ X:=fun e=>by rw[e,show W.heap[X]? = _ from hb] at hk;cases hk;cases hc
 rw[Below.heap_setCell _ _ _ k hkX,h.blk k (Array.getElem?_eq_some_iff.1 hk).1 (fun e=>?_)]
 ·exact hk
 ·obtain⟨cur,hcur⟩:=Qz ho e.symm
  rw[hcur] at hk;cases hk;cases hc
theorem Mv.store {w W1:World} {v u1:Value} (h:Mv w W1 v u1) {X:Nat} (hX:w.heap.size<=X) (y:Value):Mv w (W1.setCell ⟨X,0,none⟩ y) v u1 :=
 ⟨h.os,h.tape,h.output,by simp[World.setCell];exact h.size,fun k hk hn=>(Below.heap_setCell _ _ _ k (by show k ≠ X;omega)).trans (h.blk k hk hn),h.at_⟩
theorem results_1 {fn:Func} {p:Tmp} (h:fn.results=#[.tmp p]) (tmps:Array Value) (w:World) (x:Value) (hp:tmps.getD p undef=x):(results fn tmps).run Tryz.prog w=.ok x w:=by
 have hp':tmps[p]?.getD undef=x:=by simpa using hp
 simp[results,h,hp']
theorem ret_1 {fn:Func} {p:Tmp} (h:fn.results=#[.tmp p]) (tmps:Array Value) (W:World) (D:Nat) (x:Value) (hp:tmps.getD p undef=x) (hK:W.heap[D]? = some (.deferred (some []))) (R:Ending->World->Prop) (hR:R (.returned x) (W.putObj D (.deferred none))) :
  bodyPostM Fence.wide 3 Tryz.prog fn R .ret { tmps:=tmps,defers:=[{ target:=.collected D,args:=#[] }] } W :=
 ⟨by simp,.inl ⟨_,_,rfl,run_takeDeferred hK,_,results_1 h _ _ _ hp,hR⟩⟩
theorem Tryz.info154:(Tryz.prog.info? 154).map (fun i=>(i.zero,i.size))=some (some (.agg (erV ⟨0,[],z20⟩).toArray),22):=by kernel_rfl
theorem Tryz.bytes154:(Tryz.prog.info? 154).map (fun i=>i.bytes)=some 48:=by kernel_rfl
theorem run_build51 (x:Er) (h:x.id.length=20) (w:World):(Instr.buildSlice 149 1 #[(0,.agg (erV x).toArray)]).run Tryz.prog w=.ok (.slice (some ⟨w.heap.size,0,none⟩) 1 1) (w.alloc (.cells (erV x).toArray 154)):=by
 have hi:=Tryz.info154
 cases hq:Tryz.prog.info? 154 with
 | none=>rw[hq] at hi;cases hi
 | some i =>
  rw[hq] at hi
  simp only[Option.map_some,Option.some.injEq,Prod.mk.injEq] at hi
  obtain⟨hz,hs⟩:=hi
  refine run_buildSlice w 149 154 1 _ (erV x).toArray i _ Tryz.underlying149 hq hz (by rw[hs];decide) (by rw[hs];decide) ?_
  rw[hs]
  obtain⟨a0,a1,a2,a3,a4,a5,a6,a7,a8,a9,a10,a11,a12,a13,a14,a15,a16,a17,a18,a19,e⟩:=uw x.id h
  unfold erV
  rw[e]
  kernel_rfl
theorem vV {F:Fence} {nF:Nat} {P:Program} {ops:Array Oper} {rest:List Oper} {o:Oper} {a:Act} {w w':World} {Q:Exit->Act->World->Prop} (hg:o.guard=none) (t len:Nat) (x:Operand) (ho:o.op=.buildSlice t len #[(0,x)]) (u v:Value) (hx:a.eval x=u)
  (hr:(Instr.buildSlice t len #[(0,u)]).run P w=.ok v w')
  (h:wpListIn F nF P ops Q rest (a.put o.dst v) w'):wpListIn F nF P ops Q (o :: rest) a w:=by
 refine wpListIn_plain hg fun K hK=>?_
 unfold Oper.wpIn
 refine⟨by simp[Oper.about,ho],?_⟩
 rw[Oper.semAt_plain F _ _ (by rw[ho];intro c hc';cases hc')]
 unfold execOp
 simp[ho,hx,hr,Result.andThen]
 exact hK _ _ h
theorem YJ (w:World) (RF:List Value) (t:TypeId):∀ j u,RF[j]? = some u->(w.alloc (.cells RF.toArray t)).cell? ((⟨w.heap.size,0,none⟩:Addr).add j)=some u:=fun j u hj=>by
 have h:=zx (heap_alloc_new w (.cells RF.toArray t)) j u hj
 rw[qz]
 exact h
theorem Tryz.info9E:(Tryz.prog.info? 9).map (fun i=>(i.zero,i.size,i.bytes))=some (some (.string ⟨#[]⟩),1,16):=by kernel_rfl
end Go.Proofs.YticgindfipobiaaGreatDoor
namespace Go.Proofs.YticgindfipobiaaGreatDoor
open Go.RowKit Go.Shelf Go.Maps
variable [Inhabited Er]
attribute [local go_sem] Oper.semAt_some
theorem Xu {α:Type} {F:Fence} {n:Nat} {P:Program} {g:Operand} {ps:Array Tmp} {assign body:Code} {Q:Exit->Act->World->Prop} {a:Act} {w:World}
  (hro:F.round=none) (h1:1<=n) {gf:Nat} {lb:Array Value} (hg:a.eval g=.func (.func gf) #[] lb) (hFg:F.fn gf) (eg:∀ args w,(callFunc gf args).run P w=.ok (.enter gf args) w)
  {encs:α->Array Value} {Fx:α->World->Prop} {Kp:Nat->World->World->Prop} {S:List α->Prop} {N:Nat} (hseq:SeqAll F (n-1) P gf lb encs Fx Kp S N w) (hps:∀ x,(encs x).size=ps.size)
  (hKt:∀ {l:Nat} {A B C:World},Kp l A B->Kp l B C->Kp l A C) (hKl:∀ (l:Nat) (W:World) (r r':Loop),w.heap.size<=l->W.heap[l]? = some (.loop r)->Kp l W (W.putObj l (.loop r')))
  (hFl:∀ (l:Nat) (W:World) (r r':Loop) (x:α),w.heap.size<=l->W.heap[l]? = some (.loop r)->Fx x W->Fx x (W.putObj l (.loop r')))
  (I:List α->World->Prop) (hI:∀ s A B,I s A->A.grownBy B none->I s B) (hIl:∀ (s:List α) (l:Nat) (W:World) (r r':Loop),w.heap.size<=l->W.heap[l]? = some (.loop r)->I s W->I s (W.putObj l (.loop r')))
  (h0:I [] w) (ax:α->World->Act) (aw:α->World->World) (hag:∀ (x:α) (W:World),W.grownBy (aw x W) none) (hKa:∀ (l:Nat) (x:α) (W:World),w.heap.size<=l->l<W.heap.size->Kp l W (aw x W)) (hFa:∀ (x:α) (W:World),Fx x W->Fx x (aw x W))
  (hassign:∀ (l:Nat) (x:α) (W:World) (K:Act->World->Prop),Fx x W->K (ax x W) (aw x W)->assign.wpIn (F.inRound l) (n-1-1) P (Exit.then K (fun _ _ _=>False)) { tmps:=(ps.zip (encs x)).foldl (fun t (p,v)=>t.setIfInBounds p v) a.tmps,defers:=[] } W)
  (hbody:∀ (l:Nat) (pre:List α) (x:α) (W0 W:World),w.heap.size<=l->l<W0.heap.size->(∀ k,k ≠ l->W.heap[k]? = (aw x W0).heap[k]?)->I pre W->Fx x W->pre.length<N->l<W.heap.size->W0.heap.size<=W.heap.size->body.wpIn (F.inRound l) (n-1-1) P (fun e _ W'=>e=.normal/\KeepsFrom w.heap.size W W'/\Kp l W W'/\I (pre++[x]) W') (ax x W0) W)
  (hdone:∀ (D:Nat) (xs:List α) (W:World),w.heap.size<=D->S xs->I xs W->W.heap[D]? = some (.deferred (some []))->Q .normal { a with defers:={ target:=.collected D,args:=#[] } :: a.defers } W) :
  (Code.rangeFunc g ps assign body).wpIn F n P Q a w:=by
 refine wpIn_rangeFunc ?_
 intro fn hfn
 rw[hro]
 obtain⟨rc,hrc⟩:∃ rc:LoopState->Loop,rc=fun st=>{ state:=st,pending:=none,fn,tmps:=a.tmps,params:=ps,assign,body,defers:=w.heap.size }:=⟨_,rfl⟩
 obtain⟨W1,hW1⟩:∃ W1,(w.alloc (.deferred (some []))).alloc (.loop (rc .ready))=W1:=⟨_,rfl⟩
 have hg1:w.grownBy W1 none:=by rw[<-hW1];exact(j7 w _).trans (j7 _ _)
 have hs1:W1.heap.size=w.heap.size+2:=by rw[<-hW1];simp
 have hL1:W1.heap[w.heap.size+1]? = some (.loop (rc .ready)):=by
  rw[<-hW1];have:=World.alloc_heap_new (w.alloc (.deferred (some []))) (.loop (rc .ready));rwa [World.size_alloc] at this
 have hD1:W1.heap[w.heap.size]? = some (.deferred (some [])):=by
  rw[<-hW1];exact(Below.heap_alloc _ _ _ (by simp)).trans (World.alloc_heap_new w _)
 have hb1:Below w.heap.size w W1:=⟨hg1.os,hg1.tape,hg1.output,hg1.size,fun k hk=>hg1.block k hk (by simp)⟩
 refine⟨w.heap.size+1,[{ target:=.collected w.heap.size,args:=#[] }],W1,{ target:=.fn (.func gf) lb,args:=#[.func (.yield (w.heap.size+1)) #[] #[]] },W1,gf,
  #[.func (.yield (w.heap.size+1)) #[] #[]]++lb,W1,?_,?_,?_,?_,fun _=>h1,?_⟩
 ·rw[<-hW1,hrc];exact run_enterLoop_outer _ _ _ _ _
 ·simp only[resolve,hg]
  simp[go_sem]
 ·intro f' hf';simp[Target.leads] at hf';subst hf';exact hFg
 ·simp[invoke,go_sem,eg]
 ·have keep:∀ {A B:World} {k:Nat} {o:Obj},A.grownBy B none->A.heap[k]? = some o->B.heap[k]? = some o:=fun hg' hk=>(hg'.block _ (Array.getElem?_eq_some_iff.1 hk).1 (by simp)).trans hk
  refine(hseq (w.heap.size+1) (fun pre W=>I pre W/\W.heap[w.heap.size+1]? = some (.loop (rc .ready))/\W.heap[w.heap.size]? = some (.deferred (some []))) W1 hb1 (by omega) (by omega)
   (fun s A B hs hg'=>⟨hI s A B hs.1 hg',keep hg' hs.2.1,keep hg' hs.2.2⟩) ?_ ⟨hI _ _ _ h0 hg1,hL1,hD1⟩).mono ?_
  ·rintro pre x W0 ⟨hi0,hl0,hd0⟩ hfx0 hlen
   have hlt0:w.heap.size+1<W0.heap.size:=(Array.getElem?_eq_some_iff.1 hl0).1
   have hy:=run_yield (P:=P) (args:=encs x) hl0 (by rw[hrc];exact hps x)
   rw[hrc] at hy
   have hle:w.heap.size<=w.heap.size+1:=by omega
   have hga:=hag x W0
   have hi:=hI _ _ _ hi0 hga
   have hl:=keep hga hl0
   have hd:=keep hga hd0
   have hfx:=hFa x W0 hfx0
   have hKp0:=hKa (w.heap.size+1) x W0 hle hlt0
   refine⟨fn,_,assign,body,hy,roundIn_of_wpIn hfn (hassign _ x W0 _ hfx0 ?_)⟩
   have hbody0:=hbody (w.heap.size+1) pre x W0
   have hsz0:=hga.size
   generalize hWW:aw x W0=W at hi hl hd hfx hKp0 hbody0 hsz0 ⊢
   have hlt:w.heap.size+1<W.heap.size:=(Array.getElem?_eq_some_iff.1 hl).1
   refine⟨_,run_beginRound hl (by rw[hrc]),?_⟩
   have hl2:(W.putObj (w.heap.size+1) (.loop { rc .ready with state:=.busy })).heap[w.heap.size+1]? = some (.loop { rc .ready with state:=.busy }):=World.putObj_heap_same hlt
   have hd2:(W.putObj (w.heap.size+1) (.loop { rc .ready with state:=.busy })).heap[w.heap.size]? = some (.deferred (some [])):=(World.putObj_heap_other (by omega)).trans hd
   refine wpIn_mono (hbody0 _ hle hlt0 (fun k hk=>World.putObj_heap_other hk) (hIl _ _ _ _ _ hle hl hi) (hFl _ _ _ _ _ hle hl hfx) hlen (by rw[World.putObj_size];exact hlt) (by rw[World.putObj_size];exact hsz0)) ?_
   rintro e a3 W3 ⟨rfl,hk3,hkp3,hi3⟩
   have hl3:=hk3.same _ _ hle hl2 rfl
   have hd3:=hk3.same _ _ (Nat.le_refl _) hd2 rfl
   have hr:=run_endRound (P:=P) none hl3
   refine⟨_,_,hr,rfl,⟨hIl _ _ _ _ _ hle hl3 hi3,?_,(World.putObj_heap_other (by omega)).trans hd3⟩,hKt hKp0 (hKt (hKt (hKl _ _ _ _ hle hl) hkp3) (hKl _ _ _ _ hle hl3))⟩
   rw[World.putObj_heap_same (Array.getElem?_eq_some_iff.1 hl3).1,hrc]
   rfl
  ·rintro e W2 ⟨⟨v,rfl⟩,xs,hS,hi,hl,hd⟩
   refine⟨none,_,by have:=run_endLoop (P:=P) hl (by rw[hrc];simp);rw[hrc] at this;exact this,?_⟩
   exact hdone _ xs _ (Nat.le_refl _) hS (hIl _ _ _ _ _ (by omega) hl hi) ((World.putObj_heap_other (by omega)).trans hd)
def fE (es:List Er):List Value:=es.flatMap erV
theorem fE_snoc (es:List Er) (x:Er):fE (es++[x])=fE es++erV x:=by simp[fE]
def CoI (w:World) (X B:Nat) (v:Value) (pre:List Er) (W:World):Prop :=
 ∃ u,Boxed W X 149 u/\W.ownsRow B 154 22 u pre.length (fE pre)/\Mv w W v u
theorem CoI.grow {w:World} {X B:Nat} {v:Value} (s:List Er) (A C:World) (h:CoI w X B v s A) (hg:A.grownBy C none):CoI w X B v s C:=by
 obtain⟨u,h1,h2,h3⟩:=h
 exact⟨u,h1.kept hg (by simp),h2.kept hg (by cases e:u.ownBlock <;> simp),h3.trans (Mv.grow u hg)⟩
theorem CoI.put {w:World} {X B:Nat} {v:Value} {n:Nat} (hX:X<n) (hw:w.heap.size<=n) (s:List Er) (l:Nat) (W:World) (r r':Loop) (hl:n<=l) (hr:W.heap[l]? = some (.loop r)) (h:CoI w X B v s W):CoI w X B v s (W.putObj l (.loop r')):=by
 obtain⟨u,h1,h2,h3⟩:=h
 exact⟨u,(World.putObj_heap_other (by omega)).trans h1,ownsRow_putObj h2 _ hr rfl,h3.put _ (by omega)⟩
theorem Tryz.results176:Tryz.f176.results=#[.tmp 4]:=by kernel_rfl
def Vv (w:World) (es:List Er) (e:Ending) (w':World):Prop := ∃ v',e=.returned v'/\w'.ownsRow w.heap.size 154 22 v' es.length (fE es)/\Below w.heap.size w w'
set_option maxRecDepth 100000 in
theorem kW (Bs:Nat) (a:Option Addr) (cap:Nat) (es:List Er) (w:World) (hwf:WfE es) (hP:Pe w a cap es) (hl:es.length<=2000) (hbs:Boxed w Bs 149 (.slice a es.length cap)) :
  Calls Tryz.prog 176 #[.slice none 0 0,.func (.func 152) #[] #[.pointer (some ⟨Bs,0,none⟩)]] w (Vv w es):=by
 have hi0:=Tryz.info154
 have hb0:=Tryz.bytes154
 cases hq:Tryz.prog.info? 154 with
 | none=>rw[hq] at hi0;cases hi0
 | some i51 =>
 rw[hq] at hi0 hb0
 simp only[Option.map_some,Option.some.injEq,Prod.mk.injEq] at hi0 hb0
 obtain⟨hz0,hz1⟩:=hi0
 have HI:Hid (Tryz.prog.info? 154=some i51):=hq
 have HZ0:Hid (i51.zero=some (.agg (erV ⟨0,[],z20⟩).toArray)):=hz0
 have HZ1:Hid (i51.size=22):=hz1
 have HZ2:Hid (i51.bytes=48):=hb0
 have HS51:Hid ((Tryz.prog.info? 154).map (·.size)=some 22):=Q8
 clear hq hz0 hz1 hb0
 have HPE:Hid (Pe w a cap es):=hP
 have HWF:Hid (WfE es):=hwf
 have HBS:Hid (Boxed w Bs 149 (.slice a es.length cap)):=hbs
 clear hP hwf hbs
 obtain⟨zr,HZ⟩:=nn_ ((erV ⟨0,[],z20⟩).toArray:Array Value)
 have hz51:∀ w:World,(zeroValue 154).run Tryz.prog w=.ok (.agg zr) w:=fun w=>by rw[HZ.out];exact zero51 w
 refine(callsIn_wide (n:=3)).1 ?_
 refine callsIn_of_wp_marks Tryz.func176 rfl trivial ?_ rfl
 simp only[Tryz.ntmps176,List.size_toArray,List.length_cons,List.length_nil,Nat.reduceAdd,Nat.reduceSub,Array.replicate_succ,Array.replicate_zero,List.push_toArray,List.append_toArray,List.nil_append,List.cons_append]
 gi_wp2
 obtain⟨X,HX⟩:=nn_ w.heap.size
 obtain⟨WL,HWL⟩:=nm_ (w.alloc (.cells #[.slice none 0 0] 149))
 have hgw:w.grownBy WL none:=by rw[<-HWL.out];exact j7 w _
 have hsz:WL.heap.size=X+1:=by rw[<-HWL.out,HX.out];simp
 have bX:Boxed WL X 149 (.slice none 0 0):=by rw[<-HWL.out,HX.out];exact Boxed.new w 149 _
 have hno:∀ k,¬ Ob X WL k:=fun k ⟨u,h1,h2⟩=>by rw[bX.cell] at h1;cases h1;cases h2
 have hbw:Below w.heap.size w WL:=⟨hgw.os,hgw.tape,hgw.output,hgw.size,fun k hk=>hgw.block k hk (by simp)⟩
 have hI0:CoI w X X (.slice none 0 0) [] WL:=⟨_,bX,World.ownsRow_nil _ _ _ _,Mv.grow _ hgw⟩
 have hSL:Pe WL a cap es:=HPE.out.below hbw
 have bS:Boxed WL Bs 149 (.slice a es.length cap):=HBS.out.kept hgw (by simp)
 have hBsX:Bs<X:=by rw[HX.out];exact HBS.out.lt
 have hfa:0<es.length->∀ p:Addr,a=some p->Fre X WL p.block:=fun h0 p hp=>by
  obtain⟨b,off,e1,e2,_⟩:=HPE.out.at_ h0
  rw[hp] at e1;cases e1
  rw[<-HX.out] at e2
  exact⟨by rw[hsz];exact Nat.lt_succ_of_lt e2,Nat.ne_of_lt e2,hno _⟩
 rw[HWL.out]
 rw[<-HX.out]
 have hXw:w.heap.size<=X:=by rw[HX.out];exact Nat.le_refl _
 refine Xu (F:=Fence.wide) (n:=3) rfl (by omega) (gf:=152) (lb:=#[.pointer (some ⟨Bs,0,none⟩)]) rfl trivial (enters_of Tryz.func152 (by kernel_rfl) rfl)
  (values_all 2 (by omega) WL X Bs a cap es HWF.out hSL hl bS (by omega) ⟨by omega,by omega,hno _⟩ hfa)
  (fun _=>rfl) Kx.trans (fun l W r r' hl _=>Kx.loop (r:=r) (by omega)) (fun l W r r' x hl hr hf=>hf)
  (CoI w X X (.slice none 0 0)) (fun s A C h hg=>CoI.grow s A C h hg) (fun s l W r r' hl hr h=>CoI.put (n:=WL.heap.size) (by omega) (by omega) s l W r r' hl hr h) hI0
  (fun x W=>{ tmps:=#[.slice none 0 0,.func (.func 152) #[] #[.pointer (some ⟨Bs,0,none⟩)],.pointer (some ⟨X,0,none⟩),undef,.slice none 0 0,.pointer (some ⟨W.heap.size,0,none⟩),.func (.func 152) #[] #[.pointer (some ⟨Bs,0,none⟩)],.agg (erV x).toArray,undef,undef,undef,undef,undef],defers:=[] }) (fun x W=>(W.alloc (.cells zr 154)).setRow W.heap.size (erV x).toArray) ?_ ?_ (fun x W h=>h) ?assign ?body ?done
 ·intro x W;exact zw (below_setRow ((Below.refl _ W).alloc (Nat.le_refl _) _) (Nat.le_refl _) _) _
 ·intro l x W h1 h2;exact Kx.grow (by omega) (zw (below_setRow ((Below.refl _ W).alloc (Nat.le_refl _) _) (Nat.le_refl _) _) _)
 case assign =>
  intro l x W K hx20 hK
  obtain⟨R,HR⟩:=nm_ (erV x)
  have HFN:Hid (R.length=22):=hid (by rw[<-HR.out];exact yz x hx20)
  have I51:Hid ((Tryz.prog.info? 154).map (·.size)=some R.toArray.size):=hid (by rw[List.size_toArray,HFN.out];exact HS51.out)
  have E51:Hid (zr.size=R.toArray.size):=hid (by rw[HZ.out,List.size_toArray,List.size_toArray,HFN.out];rfl)
  have O51:Hid (R.toArray.all (·.oneCell')=true):=hid (by rw[<-HR.out];exact all_oneCell_toArray (j0 _))
  have D0:Hid ((W.alloc (.cells zr 154)).heap[W.heap.size]? = some (.cells zr 154 (0,0))):=heap_alloc_new W _
  rw[HR.out] at hK
  dsimp only [encE]
  rw[HR.out]
  gi_wp2_with (refine yJ rfl 154 _ _ rfl W.heap.size R.toArray rfl rfl 154 zr D0.out I51.out E51.out O51.out ?_)
  exact hK
 case body =>
  rintro l pre x W0 W hlX hlW0 hoth ⟨u,b1,o1,m1⟩ hx20 hlen hlW hsW
  have hlX':X+1<=l:=by omega
  clear hsz
  obtain⟨N,HN⟩:=nn_ pre.length
  obtain⟨L,HL⟩:=nn_ (fE pre)
  have hN:N<=2000:=by rw[HN.out];omega
  rw[<-HN.out,<-HL.out] at o1
  obtain⟨ua,uc,rfl⟩:=qw o1
  obtain⟨V,HV⟩:=nm_ W0.heap.size
  obtain⟨R,HR⟩:=nm_ (erV x)
  have HFN:Hid (R.length=22):=hid (by rw[<-HR.out];exact yz x hx20)
  have hi51:(Tryz.prog.info? 154).map (·.size)=some R.length:=by rw[HFN.out];exact HS51.out
  have R2:Hid (W.rangeAt V 0 R):=hid (by
   rw[<-HV.out,<-HR.out]
   refine zx (t:=154) (fr:=(0,0)) ?_
   rw[hoth _ (by omega)]
   exact setRow_heap _ _ _ (erV x).toArray _ _ (heap_alloc_new W0 _))
  have HRB:Hid (∀ W,(Instr.buildSlice 149 1 #[(0,.agg R.toArray)]).run Tryz.prog W=.ok (.slice (some ⟨W.heap.size,0,none⟩) 1 1) (W.alloc (.cells R.toArray 154))):=fun W=>by rw[<-HR.out];exact run_build51 x hx20 W
  have HR1:Hid (∀ v ∈ R,v.oneCell'=true):=hid (by rw[<-HR.out];exact j0 x)
  have hXne:some X ≠ (Value.slice ua N uc).ownBlock:=b1.not_row (by decide) o1
  have k0:=b1.cell
  have f0:=b1.frozen
  have hBW:X<=W.heap.size:=by have:=m1.size;omega
  have HO1:Hid (W.ownsRow X 154 22 (.slice ua N uc) N L):=o1
  have HB1:Hid (Boxed W X 149 (.slice ua N uc)):=b1
  have HM1:Hid (Mv w W (.slice none 0 0) (.slice ua N uc)):=m1
  have HNR:Hid (∀ j z,R[j]? = some z->(W.alloc (.cells R.toArray 154)).cell? ((⟨W.heap.size,0,none⟩:Addr).add j)=some z):=YJ _ _ _
  clear o1 b1 m1 hoth
  rw[HV.out]
  gi_wp2_with (first
   | refine yv rfl 154 _ rfl V 0 rfl R _ R2.out Tryz.underlying154 rfl hi51 ?_
   | refine vV rfl 149 1 _ rfl (.agg R.toArray) _ rfl (HRB.out _) ?_
   | (gi_at_builtin;refine wpListIn_append_own_at _ rfl _ _ 149 rfl X 154 i51 (.agg (erV ⟨0,[],z20⟩).toArray) 22 48 Tryz.underlying149 HI.out HZ0.out HZ1.out HZ2.out rfl (by decide) _ N L rfl (HO1.out.alloc _) ⟨W.heap.size,0,none⟩ 1 1 R rfl (by rw[HFN.out]) HNR.out HR1.out (by unfold maxLen;omega) (by omega) (by simp;omega) ?_;intro v1 w1 ho1 hg1 hn1 hl1;obtain⟨a1,c1,rfl⟩:=qw ho1;have HV1:Hid (Mv W w1 (.slice ua N uc) (.slice a1 (N+1:Nat) c1)):=Mv.app (j7 W _) hg1 hl1;have HW1:Hid (w1.ownsRow X 154 22 (.slice a1 (N+1:Nat) c1) (N+1) (L++R)):=ho1;clear ho1 hg1 hn1 hl1;have HB2:Hid (Boxed w1 X 149 (.slice ua N uc)):=(HV1.out.blk X HB1.out.lt hXne).trans HB1.out;have kx1:=HB2.out.cell;have fx1:=HB2.out.frozen))
  have K1:=keeps_mv HB1.out HO1.out HV1.out WL.heap.size
  have X1:Kx X l W (w1.setCell ⟨X,0,none⟩ (.slice a1 (N+1:Nat) c1)):=Kx.mv HB1.out HV1.out hXne (fun k hk=>(HW1.out.lt k hk).2)
  have hS3:some X ≠ (Value.slice a1 (N+1:Nat) c1).ownBlock:=Boxed.not_row HB2.out (by decide) HW1.out
  refine⟨K1,X1,_,Boxed.set _ HB2.out,?_,(HM1.out.trans HV1.out).store hXw _⟩
  rw[List.length_append,fE_snoc,<-HN.out,<-HL.out,HR.out]
  exact HW1.out.kept (grownBy_setCell' w1 X (.slice a1 (N+1:Nat) c1)) (.inr (Ne.symm hS3))
 case done =>
  rintro D xs W hD hS ⟨u,b1,o1,m1⟩ hK
  subst hS
  obtain⟨ua,uc,rfl⟩:=qw o1
  have k0:=b1.cell
  have HK:Hid (W.heap[D]? = some (.deferred (some []))):=hK
  have hwD:w.heap.size<=D:=by omega
  gi_wp2
  refine ret_1 Tryz.results176 _ _ D (.slice ua xs.length uc) rfl HK.out _ ⟨_,rfl,?_,(m1.put _ hwD).below (fun k hk=>by cases hk) (Nat.le_refl _)⟩
  rw[<-HX.out]
  exact ownsRow_putObj o1 _ HK.out rfl
end Go.Proofs.YticgindfipobiaaGreatDoor
namespace Go.Proofs.YticgindfipobiaaGreatDoor
open Go.RowKit
theorem cb_iff:∀ a b:List UInt8,Lib.compareBytes a b<0 ↔ a<b
 | [],[]=>by simp[Lib.compareBytes]
 | [],b :: bs=>by simp[Lib.compareBytes]
 | a :: xs,[]=>by simp[Lib.compareBytes]
 | a :: xs,b :: bs=>by
  rw[Lib.compareBytes,List.cons_lt_cons_iff,<-cb_iff xs bs]
  by_cases h1:a<b
  ·simp[h1]
  ·rw[if_neg h1]
   by_cases h2:b<a
   ·rw[if_pos h2]
    have hne:a ≠ b:=fun e=>by rw[e] at h2;exact absurd h2 (by rw[UInt8.lt_iff_toNat_lt];omega)
    simp[h1,hne]
   ·rw[if_neg h2]
    have he:a=b:=by
     rw[UInt8.lt_iff_toNat_lt] at h1 h2
     exact UInt8.toNat_inj.1 (by omega)
    simp[h1,he]
theorem lex_total (a b:List UInt8) (h1:¬ a<b) (h2:¬ b<a):a=b:=List.le_antisymm (List.not_lt.1 h2) (List.not_lt.1 h1)
theorem jw (a b c:List UInt8) (h1:a<b) (h2:b<c):a<c:=List.lt_trans h1 h2
theorem XZ (a b c:List UInt8) (h1:¬ a<b) (h2:¬ b<c):¬ a<c:=List.not_lt.2 (List.le_trans (List.not_lt.1 h2) (List.not_lt.1 h1))
theorem uK (a:List UInt8):¬ a<a:=List.lt_irrefl a
theorem asc_one:∀ (x y:List Er),x.Perm y->(x.map qV).Nodup->x.Pairwise (fun a b=>¬ qV b<qV a)->y.Pairwise (fun a b=>¬ qV b<qV a)->x=y
 | [],y,hp,_,_,_=>by simpa using hp.symm.eq_nil
 | a :: x,[],hp,_,_,_=>by simpa using hp.eq_nil
 | a :: x,b :: y,hp,hn,hx,hy=>by
  have hn':=hn
  rw[List.map_cons,List.nodup_cons] at hn
  rw[List.pairwise_cons] at hx hy
  have hk:qV a=qV b:=by
   have ha:a ∈ b :: y:=hp.subset (List.mem_cons_self)
   have hb:b ∈ a :: x:=hp.symm.subset (List.mem_cons_self)
   rcases List.mem_cons.1 ha with h | h
   ·rw[h]
   ·rcases List.mem_cons.1 hb with h' | h'
    ·rw[h']
    ·exact lex_total _ _ (hy.1 a h) (hx.1 b h')
  have hab:a=b:=by
   have hb:b ∈ a :: x:=hp.symm.subset (List.mem_cons_self)
   rcases List.mem_cons.1 hb with h' | h'
   ·exact h'.symm
   ·exact absurd (List.mem_map.2 ⟨b,h',hk.symm⟩) hn.1
  subst hab
  rw[asc_one x y (List.perm_cons a |>.1 hp) hn.2 hx.2 hy.2]
end Go.Proofs.YticgindfipobiaaGreatDoor
