import Derived.Test.YtgliaiemkfopeaaGreatDoorMn01
import Derived.Maps.AppendAt
import Derived.Laws.OwnMore
set_option linter.unusedSimpArgs false
set_option linter.unusedVariables false
set_option maxRecDepth 20000
set_option maxHeartbeats 4000000
namespace Go.Proofs.YtgliaiemkfopeaaGreatDoor.K
open Go.RowKit
theorem z7 {w:World} {g:Nat} {o:Obj} (h:w.heap[g]? = some o):g<w.heap.size:=by
 rcases Nat.lt_or_ge g w.heap.size with h1 | h1
 ·exact h1
 ·rw[Array.getElem?_eq_none h1] at h;cases h
theorem zK {α:Type} (l:List α) (i:Nat) (d:α) (h:i<l.length):l.getD i d ∈ l:=by
 rw[List.getD_eq_getElem?_getD,List.getElem?_eq_getElem h]
 exact List.getElem_mem _
theorem qj {α:Type} (d:α) (s:List α) (i:Nat) (h:i<s.length):s.take (i+1)=s.take i++[s.getD i d]:=by
 rw[List.take_add_one,List.getD_eq_getElem?_getD,List.getElem?_eq_getElem h];rfl
section
variable {α : Type} (enc : α → List Value) (k : Nat) (d : α)
structure Px (w:World) (a:Option Addr) (cap:Nat) (l:List α):Prop where
 capl:l.length<=cap
 at_:0<l.length->∃ b off,a=some ⟨b,off,none⟩/\b<w.heap.size/\∀ i,i<l.length->w.rangeAt b (off+i*k) (enc (l.getD i d))
 nil:a=none->cap=0
structure Bx (e:TypeId) (w0 w:World) (B:Nat) (v:Value) (l:List α):Prop where
 below:Below B w0 w
 own:w.ownsRow B e k v l.length (l.flatMap enc)
 le:B<=w.heap.size
end
section
variable {α : Type} {enc : α → List Value} {k : Nat} {d : α}
theorem Px.below {w w':World} {a:Option Addr} {cap:Nat} {l:List α} (h:Px enc k d w a cap l) (hb:Below w.heap.size w w'):Px enc k d w' a cap l :=
 ⟨h.capl,fun h0=>by
  obtain⟨b,off,e1,e2,e3⟩:=h.at_ h0
  exact⟨b,off,e1,Nat.lt_of_lt_of_le e2 hb.size,fun i hi j v hv=>(hb.cell (p:=⟨b,off+i*k+j,none⟩) e2).trans (e3 i hi j v hv)⟩,h.nil⟩
theorem Px.grown {w w':World} {a:Option Addr} {cap K:Nat} {l:List α} (h:Px enc k d w a cap l) (hK:∀ p:Addr,a=some p->p.block ≠ K) (hg:w.grownBy w' (some K)):Px enc k d w' a cap l :=
 ⟨h.capl,fun h0=>by
  obtain⟨b,off,e1,e2,e3⟩:=h.at_ h0
  refine⟨b,off,e1,Nat.lt_of_lt_of_le e2 hg.size,fun i hi j v hv=>?_⟩
  rw[World.cell?_of_block (a:=⟨b,off+i*k+j,none⟩) (hg.block b e2 (fun e=>hK _ e1 (by cases e;rfl)))]
  exact e3 i hi j v hv,h.nil⟩
theorem Px.take {w:World} {a:Option Addr} {cap:Nat} {l:List α} (h:Px enc k d w a cap l) (j:Nat):Px enc k d w a cap (l.take j) :=
 ⟨by rw[List.length_take];have:=h.capl;omega,fun h0=>by
  rw[List.length_take] at h0
  obtain⟨b,off,e1,e2,e3⟩:=h.at_ (by omega)
  refine⟨b,off,e1,e2,fun i hi=>?_⟩
  rw[List.length_take] at hi
  have:=e3 i (by omega)
  rw[show (l.take j).getD i d=l.getD i d by rw[List.getD_eq_getElem?_getD,List.getD_eq_getElem?_getD,List.getElem?_take,if_pos (by omega)]]
  exact this,h.nil⟩
theorem fX_len (l:List α) (h:∀ x ∈ l,(enc x).length=k):(l.flatMap enc).length=l.length*k:=by
 induction l with
 | nil=>simp
 | cons x l ih =>
  have h1:=ih (fun y hy=>h y (by simp[hy]))
  have h2:=h x (by simp)
  simp only[List.flatMap_cons,List.length_append,List.length_cons,Nat.add_mul] at h1 ⊢
  omega
theorem fX_one (l:List α) (h:∀ x,∀ v ∈ enc x,v.oneCell'=true):∀ v ∈ l.flatMap enc,v.oneCell'=true:=by
 intro v hv
 obtain⟨x,_,hx⟩:=List.mem_flatMap.1 hv
 exact h x v hx
theorem fX_at:∀ (l:List α) (h:∀ x ∈ l,(enc x).length=k) (i j:Nat),i<l.length->j<k->(l.flatMap enc)[i*k+j]? = (enc (l.getD i d))[j]?
 | [],h,i,j,hi,hj=>by simp at hi
 | x :: r,h,0,j,hi,hj=>by
  have h2:=h x (by simp)
  simp only[List.flatMap_cons,Nat.zero_mul,Nat.zero_add]
  rw[List.getElem?_append_left (by omega)]
  rfl
 | x :: r,h,i+1,j,hi,hj=>by
  have h2:=h x (by simp)
  have:=fX_at r (fun y hy=>h y (by simp[hy])) i j (by simpa using hi) hj
  simp only[List.flatMap_cons]
  rw[List.getElem?_append_right (by rw[h2,Nat.add_mul];omega),h2,show (i+1)*k+j-k=i*k+j by rw[Nat.add_mul];omega,this]
  rfl
theorem Px.cells {w:World} {b off cap:Nat} {l:List α} (hk:0<k) (h:Px enc k d w (some ⟨b,off,none⟩) cap l) (hw:∀ x ∈ l,(enc x).length=k):∀ (j:Nat) (u:Value),(l.flatMap enc)[j]? = some u->w.cell? ((⟨b,off,none⟩:Addr).add j)=some u:=by
 intro j u hj
 have hlt:=(List.getElem?_eq_some_iff.1 hj).1
 rw[fX_len l hw] at hlt
 have hd:j / k<l.length:=Nat.div_lt_of_lt_mul (by rw[Nat.mul_comm];exact hlt)
 have hm:j % k<k:=Nat.mod_lt _ hk
 obtain⟨b',off',e1,e2,e3⟩:=h.at_ (Nat.lt_of_le_of_lt (Nat.zero_le _) hd)
 cases e1
 have e:j / k*k+j % k=j:=by rw[Nat.mul_comm];exact Nat.div_add_mod j k
 have hf:=fX_at (d:=d) l hw (j / k) (j % k) hd hm
 rw[e,hj] at hf
 have:=e3 (j / k) hd (j % k) u hf.symm
 rw[yV,<-this]
 congr 2
 omega
theorem Bx.alloc {e:TypeId} {w0 w:World} {B:Nat} {v:Value} {l:List α} (h:Bx enc k e w0 w B v l) (o:Obj):Bx enc k e w0 (w.alloc o) B v l :=
 ⟨h.below.alloc h.le o,h.own.alloc o,Nat.le_trans h.le (by simp)⟩
theorem uz (e:TypeId) (w:World) (B:Nat) (h:B<=w.heap.size):Bx enc k e w w B (.slice none 0 0) []:=⟨Below.refl _ _,⟨by simp,.inl ⟨rfl,rfl⟩⟩,h⟩
theorem Bx.carry {e:TypeId} {w0 w w':World} {B:Nat} {v:Value} {l:List α} (h:Bx enc k e w0 w B v l) (hb:Below w.heap.size w w'):Bx enc k e w0 w' B v l :=
 ⟨h.below.trans (hb.mono h.le),h.own.kept (row:=none) ⟨hb.os,hb.tape,hb.output,hb.size,fun k hk _=>hb.block k hk⟩ (by cases h:v.ownBlock <;> simp),Nat.le_trans h.le hb.size⟩
theorem Bx.px {e:TypeId} {w0 w:World} {B:Nat} {v:Value} {l:List α} (h:Bx enc k e w0 w B v l) (hw:∀ x ∈ l,(enc x).length=k):∃ a cap,v=.slice a l.length cap/\Px enc k d w a cap l/\(∀ p:Addr,a=some p->B<=p.block/\p.block<w.heap.size)/\(a=none ∨ ∃ b,a=some ⟨b,0,none⟩):=by
 obtain⟨hl,⟨hv,h0⟩ | ⟨g,cap,cur,hv,hb,hh,hkc,hcm,hsz,htk⟩⟩:=h.own
 ·refine⟨none,0,by rw[hv,h0],⟨by omega,fun h=>by omega,fun _=>rfl⟩,(fun p hp=>by cases hp),.inl rfl⟩
 ·refine⟨_,cap,hv,⟨hkc,fun _=>⟨g,0,rfl,z7 hh,fun i hi j v hv=>?_⟩,fun e=>by cases e⟩,(fun p hp=>by cases hp;exact⟨hb,z7 hh⟩),.inr ⟨g,rfl⟩⟩
  have hj:j<k:=by
   have:=(List.getElem?_eq_some_iff.1 hv).1
   rw[hw _ (zK l i d hi)] at this
   exact this
  have hf:=fX_at (d:=d) l hw i j hi hj
  rw[hv] at hf
  rw[Nat.zero_add,cell_of_row w g (i*k+j) _ _ _ hh]
  have hlt:i*k+j<l.length*k:=by
   have:=(List.getElem?_eq_some_iff.1 hf).1
   rw[fX_len l hw] at this
   exact this
  rw[<-htk,List.getElem?_take_of_lt hlt] at hf
  simpa using hf
end
theorem jY {P:Program} {o:Oper} {a:Act} {w w':World} {t:TypeId} {m k:Operand} {b:Bool} (ho:o.op=.lookup t m k b) {mv kv v:Value} (hm:a.eval m=mv) (hk:a.eval k=kv) (hr:(Instr.lookup t mv kv b).run P w=.ok v w'):(execOp a.eval o).run P w=.ok (.value v) w':=by
 unfold execOp
 simp[ho,hm,hk,hr,Result.andThen]
theorem x9 {P:Program} {o:Oper} {a:Act} {w w':World} {t:TypeId} {m k x:Operand} (ho:o.op=.mapUpdate t m k x) {mv kv v:Value} (hm:a.eval m=mv) (hk:a.eval k=kv) (hx:a.eval x=v) (hr:(Instr.mapUpdate t mv kv v).run P w=.ok () w'):(execOp a.eval o).run P w=.ok .skip w':=by
 unfold execOp
 simp[ho,hm,hk,hx,hr,Result.andThen]
structure Mv (w w':World) (v v':Value):Prop where
 os:w'.os=w.os
 tape:w'.tape=w.tape
 output:w'.output=w.output
 size:w.heap.size<=w'.heap.size
 blk:∀ k,k<w.heap.size->some k ≠ v.ownBlock->w'.heap[k]? = w.heap[k]?
 at_:v'.ownBlock=v.ownBlock ∨ ∀ k,v'.ownBlock=some k->w.heap.size<=k
theorem Mv.refl (w:World) (v:Value):Mv w w v v:=⟨rfl,rfl,rfl,Nat.le_refl _,fun _ _ _=>rfl,.inl rfl⟩
theorem Mv.trans {a b c:World} {u v x:Value} (h:Mv a b u v) (k:Mv b c v x):Mv a c u x:=by
 have hs:=h.size
 refine⟨k.os.trans h.os,k.tape.trans h.tape,k.output.trans h.output,Nat.le_trans h.size k.size,fun i hi hn=>?_,?_⟩
 ·refine(k.blk i (by omega) (fun e=>?_)).trans (h.blk i hi hn)
  rcases h.at_ with g | g
  ·exact hn (e.trans g)
  ·have:=g i e.symm;omega
 ·rcases k.at_ with g | g
  ·rcases h.at_ with g' | g'
   ·exact .inl (g.trans g')
   ·exact .inr fun i hi=>g' i (g ▸ hi)
  ·exact .inr fun i hi=>by have:=g i hi;omega
theorem Mv.app {w wx w1:World} {v v':Value} (h0:w.grownBy wx none) (hg:wx.grownBy w1 v.ownBlock) (hl:v'.ownBlock=v.ownBlock ∨ v'.ownBlock=some wx.heap.size):Mv w w1 v v':=by
 have hs:=h0.size
 refine⟨hg.os.trans h0.os,hg.tape.trans h0.tape,hg.output.trans h0.output,Nat.le_trans h0.size hg.size,fun k hk hn=>(hg.block k (by omega) hn).trans (h0.block k hk (by simp)),?_⟩
 rcases hl with h | h
 ·exact .inl h
 ·exact .inr fun k hk=>by rw[h] at hk;simp at hk;omega
theorem Mv.below {w w':World} {v v':Value} (h:Mv w w' v v') {B:Nat} (hB:∀ k,v.ownBlock=some k->B<=k) (hw:B<=w.heap.size):Below B w w' :=
 ⟨h.os,h.tape,h.output,h.size,fun k hk=>h.blk k (by omega) (fun e=>by have:=hB k e.symm;omega)⟩
theorem Mv.drew {w w':World} {v v':Value} (h:Mv w w' v v') (n:Nat):Mv w (w'.drewN n) v v':=⟨h.os,h.tape,h.output,h.size,h.blk,h.at_⟩
theorem Mv.grow {A B:World} (v:Value) (h:A.grownBy B none):Mv A B v v:=⟨h.os,h.tape,h.output,h.size,fun k hk _=>h.block k hk (by simp),.inl rfl⟩
theorem Mv.put {w W:World} {v u:Value} (h:Mv w W v u) {l:Nat} (o:Obj) (hl:w.heap.size<=l):Mv w (W.putObj l o) v u :=
 ⟨h.os,h.tape,h.output,by rw[World.putObj_size];exact h.size,fun k hk hn=>(World.putObj_heap_other (by omega)).trans (h.blk k hk hn),h.at_⟩
section
variable {α : Type} {enc : α → List Value} {k : Nat}
end
section
variable {α : Type} {enc : α → List Value} {k : Nat} {d : α}
theorem zj {w w0:World} {ops:Array Oper} {rest:List Oper} {o:Oper} {a:Act} {Q:Exit->Act->World->Prop} (hgd:o.guard=none) (s x:Operand) (t e:TypeId) (hu:Tryz.prog.underlying t=some (.slice e)) {z:Value} {by_:Nat} (hin:(Tryz.prog.info? e).map (fun i=>(i.zero,i.size,i.bytes))=some (some z,k,by_)) (hz:z.cells.size=k) (hk:0<k) (hby:by_<=300)
  (hone:∀ x,∀ v ∈ enc x,v.oneCell'=true)
  (ho:o.op=.call { callee:=.builtin .append,args:=#[s,x],argTypes:=#[t,t] }) (B:Nat) (v:Value) (l:List α) (hs:a.eval s=v) (h:Bx enc k e w0 w B v l)
  (ax:Option Addr) (cx:Nat) (m:List α) (hx:a.eval x=.slice ax m.length cx) (hP:Px enc k d w ax cx m) (hw:∀ x ∈ m,(enc x).length=k) (hl:l.length+m.length<=1000000000)
  (hK:∀ v' w',Bx enc k e w0 w' B v' (l++m)->w.grownBy w' v.ownBlock->Mv w w' v v'->wpList Tryz.prog ops Q rest (a.put o.dst v') w'):wpList Tryz.prog ops Q (o :: rest) a w:=by
 obtain⟨i,hi,hz0,hz1,hz2⟩:=qu hin
 cases ax with
 | none =>
  have hc:cx=0:=hP.nil rfl
  have hcl:=hP.capl
  obtain rfl:m=[]:=List.length_eq_zero_iff.1 (by omega)
  subst hc
  refine wpList_plain hgd fun K hK'=>?_
  have hr:=run_append_owned_none (P:=Tryz.prog) w B t o.type e i k hu hi v _ _ h.own
  unfold Oper.wp execOp
  simp only[List.length_nil] at hx
  simp only[ho,resolve,invoke,builtin,Sem.run_bind,Sem.run_pure,Result.andThen_ok,List.map_toArray,List.map_cons,List.map_nil,hs,hx,hr]
  exact hK' _ _ (hK v w (by simpa using h) ⟨rfl,rfl,rfl,Nat.le_refl _,fun _ _ _=>rfl⟩ (Mv.refl _ _))
 | some ad =>
  obtain⟨bk,of,fr⟩:=ad
  by_cases h0:m.length=0
  ·obtain rfl:m=[]:=List.length_eq_zero_iff.1 h0
   refine wpList_append_own_at w hgd s x t ho B e i z k by_ hu hi hz0 hz1 hz2 hz hk v _ _ hs h.own ⟨bk,of,fr⟩ 0 cx [] hx (by simp) (fun j u hj=>by cases hj) (fun u hu=>by cases hu) (by unfold maxLen;omega) (by have h2:=Nat.mul_le_mul hl hby;exact Nat.le_trans h2 (by decide)) h.le ?_
   intro v' w' h1 h2 h3 h4
   refine hK v' w' ⟨h.below.grown h2 h.le (fun k hk=>(yq h.own k hk).1),?_,Nat.le_trans h.le h2.size⟩ h2 (Mv.app ⟨rfl,rfl,rfl,Nat.le_refl _,fun _ _ _=>rfl⟩ h2 h4)
   simpa using h1
  ·obtain⟨b',off',e1,_⟩:=hP.at_ (by omega)
   cases e1
   refine wpList_append_own_at w hgd s x t ho B e i z k by_ hu hi hz0 hz1 hz2 hz hk v _ _ hs h.own ⟨bk,of,none⟩ m.length cx (m.flatMap enc) hx (fX_len m hw) (hP.cells hk hw) (fX_one m hone) (by unfold maxLen;omega) (by have h2:=Nat.mul_le_mul hl hby;exact Nat.le_trans h2 (by decide)) h.le ?_
   intro v' w' h1 h2 h3 h4
   refine hK v' w' ⟨h.below.grown h2 h.le (fun k hk=>(yq h.own k hk).1),?_,Nat.le_trans h.le h2.size⟩ h2 (Mv.app ⟨rfl,rfl,rfl,Nat.le_refl _,fun _ _ _=>rfl⟩ h2 h4)
   rw[List.length_append,List.flatMap_append]
   exact h1
end
theorem sL {α:Type} : (∀ (l:List α) (i:Nat) (v:α),l.toArray.setIfInBounds i v=(l.set i v).toArray)/\(∀ (l:List α) (a b:α),(a :: l).set 0 b=b :: l)/\(∀ (l:List α) (n:Nat) (a b:α),(a :: l).set (n+1) b=a :: l.set n b):=⟨fun l i v=>List.setIfInBounds_toArray ..,fun _ _ _=>rfl,fun _ _ _ _=>rfl⟩
theorem z8 {P:Program} {ops:Array Oper} {rest:List Oper} {o:Oper} {a:Act} {w w':World} {Q:Exit->Act->World->Prop} (hg:o.guard=none) (v:Value) (hr:(execOp a.eval o).run P w=.ok (.value v) w') (h:wpList P ops Q rest (a.put o.dst v) w'):wpList P ops Q (o :: rest) a w:=by
 refine wpList_plain hg fun K hK=>?_
 unfold Oper.wp
 rw[hr]
 exact hK _ _ h
theorem xY {P:Program} {ops:Array Oper} {rest:List Oper} {o:Oper} {a:Act} {w w':World} {Q:Exit->Act->World->Prop} (hg:o.guard=none) (hr:(execOp a.eval o).run P w=.ok .skip w') (h:wpList P ops Q rest (a.put o.dst undef) w'):wpList P ops Q (o :: rest) a w:=by
 refine wpList_plain hg fun K hK=>?_
 unfold Oper.wp
 rw[hr]
 exact hK _ _ h
theorem step_skip {P:Program} {ops:Array Oper} {o:Oper} {a:Act} {w w':World} {K:Act->World->Prop} {Q:Exit->Act->World->Prop} {E:Prop} (hg:o.guard=none) (hr:(execOp a.eval o).run P w=.ok .skip w') (h:K (a.put o.dst undef) w') :
  if Region.wanted o (yielded ops a.tmps)=true then Oper.wp P o a w K Q else E:=by
 have hw:Region.wanted o (yielded ops a.tmps)=true:=by simp[Region.wanted,hg]
 rw[if_pos hw]
 unfold Oper.wp
 rw[hr]
 exact h
theorem Px.mv {α:Type} {enc:α->List Value} {k:Nat} {d:α} {w w':World} {a:Option Addr} {cap:Nat} {l:List α} {v v':Value} (h:Px enc k d w a cap l) (hm:Mv w w' v v') (hne:∀ p:Addr,a=some p->some p.block ≠ v.ownBlock):Px enc k d w' a cap l :=
 ⟨h.capl,fun h0=>by
  obtain⟨b,off,e1,e2,e3⟩:=h.at_ h0
  refine⟨b,off,e1,Nat.lt_of_lt_of_le e2 hm.size,fun i hi j u hu=>?_⟩
  rw[World.cell?_of_block (a:=⟨b,off+i*k+j,none⟩) (hm.blk b e2 (hne _ e1))]
  exact e3 i hi j u hu,h.nil⟩
section
variable {α : Type} {enc : α → List Value} {k : Nat} {d : α}
theorem exec_bx_slM {w w0:World} {o:Oper} {a:Act} (s x:Operand) (t e:TypeId) (hu:Tryz.prog.underlying t=some (.slice e)) {z:Value} {by_:Nat} (hin:(Tryz.prog.info? e).map (fun i=>(i.zero,i.size,i.bytes))=some (some z,k,by_)) (hz:z.cells.size=k) (hk:0<k) (hby:by_<=300)
  (hone:∀ x,∀ v ∈ enc x,v.oneCell'=true)
  (ho:o.op=.call { callee:=.builtin .append,args:=#[s,x],argTypes:=#[t,t] }) (B:Nat) (v:Value) (l:List α) (hs:a.eval s=v) (h:Bx enc k e w0 w B v l)
  (ax:Option Addr) (cx:Nat) (m:List α) (hx:a.eval x=.slice ax m.length cx) (hP:Px enc k d w ax cx m) (hw:∀ x ∈ m,(enc x).length=k) (hl:l.length+m.length<=1000000000) :
  ∃ v' w',(execOp a.eval o).run Tryz.prog w=.ok (.value v') w'/\Bx enc k e w0 w' B v' (l++m)/\Mv w w' v v':=by
 obtain⟨i,hi,hz0,hz1,hz2⟩:=qu hin
 have key:∀ v' w',(Builtin.append_ #[t,t] o.type #[v,.slice ax m.length cx]).run Tryz.prog w=.ok v' w'->(execOp a.eval o).run Tryz.prog w=.ok (.value v') w':=fun v' w' hr=>by
  unfold execOp
  simp only[ho,resolve,invoke,builtin,Sem.run_bind,Sem.run_pure,Result.andThen_ok,List.map_toArray,List.map_cons,List.map_nil,hs,hx,hr]
 cases ax with
 | none =>
  have hc:cx=0:=hP.nil rfl
  have hcl:=hP.capl
  obtain rfl:m=[]:=List.length_eq_zero_iff.1 (by omega)
  subst hc
  exact⟨v,w,key _ _ (run_append_owned_none (P:=Tryz.prog) w B t o.type e i k hu hi v _ _ h.own),by simpa using h,Mv.refl _ _⟩
 | some ad =>
  obtain⟨bk,of,fr⟩:=ad
  by_cases h0:m.length=0
  ·obtain rfl:m=[]:=List.length_eq_zero_iff.1 h0
   obtain⟨v',w',hr,h1,h2,_,h5⟩:=run_append_own_at (P:=Tryz.prog) w B t o.type e i z k by_ hu hi hz0 hz1 hz2 hz hk v _ _ h.own ⟨bk,of,fr⟩ 0 cx [] (by simp) (fun j u hj=>by cases hj) (fun u hu=>by cases hu) (by unfold maxLen;omega) (by have h2:=Nat.mul_le_mul hl hby;exact Nat.le_trans h2 (by decide)) h.le
   refine⟨v',w',key _ _ hr,⟨h.below.grown h2 h.le (fun k hk=>(yq h.own k hk).1),?_,Nat.le_trans h.le h2.size⟩,Mv.app ⟨rfl,rfl,rfl,Nat.le_refl _,fun _ _ _=>rfl⟩ h2 h5⟩
   simpa using h1
  ·obtain⟨b',off',e1,_⟩:=hP.at_ (by omega)
   cases e1
   obtain⟨v',w',hr,h1,h2,_,h5⟩:=run_append_own_at (P:=Tryz.prog) w B t o.type e i z k by_ hu hi hz0 hz1 hz2 hz hk v _ _ h.own ⟨bk,of,none⟩ m.length cx (m.flatMap enc) (fX_len m hw) (hP.cells hk hw) (fX_one m hone) (by unfold maxLen;omega) (by have h2:=Nat.mul_le_mul hl hby;exact Nat.le_trans h2 (by decide)) h.le
   refine⟨v',w',key _ _ hr,⟨h.below.grown h2 h.le (fun k hk=>(yq h.own k hk).1),?_,Nat.le_trans h.le h2.size⟩,Mv.app ⟨rfl,rfl,rfl,Nat.le_refl _,fun _ _ _=>rfl⟩ h2 h5⟩
   rw[List.length_append,List.flatMap_append]
   exact h1
end
theorem exec_delete {P:Program} {o:Oper} {a:Act} {w w':World} {t k:TypeId} {m x:Operand} (ho:o.op=.call { callee:=.builtin .delete,args:=#[m,x],argTypes:=#[t,k] }) {mv kv v:Value} (hm:a.eval m=mv) (hk:a.eval x=kv) (hr:(Builtin.delete_ #[t,k] o.type #[mv,kv]).run P w=.ok v w'):(execOp a.eval o).run P w=.ok (.value v) w':=by
 unfold execOp
 simp[ho,resolve,invoke,builtin,hm,hk,hr,Result.andThen]
theorem vX {P:Program} {o:Oper} {a:Act} {w w':World} {t:TypeId} {m:Operand} (ho:o.op=.range t m) {mv v:Value} (hm:a.eval m=mv) (hr:(Instr.range t mv).run P w=.ok v w'):(execOp a.eval o).run P w=.ok (.value v) w':=by
 unfold execOp
 simp[ho,hm,hr,Result.andThen]
theorem qY {P:Program} {o:Oper} {a:Act} {w w':World} {m:Operand} (ho:o.op=.next m false) {mv v:Value} (hm:a.eval m=mv) (hr:(Instr.next mv false o.type).run P w=.ok v w'):(execOp a.eval o).run P w=.ok (.value v) w':=by
 unfold execOp
 simp[ho,hm,hr,Result.andThen]
end Go.Proofs.YtgliaiemkfopeaaGreatDoor.K
