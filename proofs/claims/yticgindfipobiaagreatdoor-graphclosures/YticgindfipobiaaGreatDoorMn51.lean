import Derived.Test.YticgindfipobiaaGreatDoorMn50
set_option linter.unusedSimpArgs false
set_option linter.unusedVariables false
set_option maxRecDepth 20000
set_option maxHeartbeats 4000000
namespace Go.Proofs.YticgindfipobiaaGreatDoor.Gr
open Go.RowKit
theorem Rs.not {xs:List (List Int)} (h:Rs xs):xs.Pairwise (fun x y=>¬ Lib.bytesOf y<Lib.bytesOf x):=h.imp (fun {a b} hab h2=>List.lt_irrefl _ (List.lt_trans hab h2))
theorem sorted_one:∀ (xs ys:List (List Int)),xs.Perm ys->(∀ z ∈ xs,IdW z)->xs.Pairwise (fun x y=>¬ Lib.bytesOf y<Lib.bytesOf x)->ys.Pairwise (fun x y=>¬ Lib.bytesOf y<Lib.bytesOf x)->xs=ys
 | [],ys,hp,_,_,_=>by rw[List.nil_perm.1 hp]
 | x :: xs,[],hp,_,_,_=>by have:=hp.length_eq;simp at this
 | x :: xs,y :: ys,hp,hw,h1,h2=>by
  have p1:=List.pairwise_cons.1 h1
  have p2:=List.pairwise_cons.1 h2
  have hxy:x=y:=by
   have hx:x ∈ y :: ys:=hp.mem_iff.1 (by simp)
   have hy:y ∈ x :: xs:=hp.mem_iff.2 (by simp)
   have wx:=hw x (by simp)
   have wy:=hw y hy
   rcases List.mem_cons.1 hx with e | hx
   ·exact e
   ·rcases List.mem_cons.1 hy with e | hy
    ·exact e.symm
    ·exact Vu wx wy (p2.1 x hx) (p1.1 y hy)
  subst hxy
  rw[sorted_one xs ys ((List.perm_cons x).1 hp) (fun z hz=>hw z (by simp[hz])) p1.2 p2.2]
theorem lst_one {S T:List Int->Prop} {xs ys:List (List Int)} (he:∀ z,S z ↔ T z) (hx:vW S xs) (hy:vW T ys) (h1:xs.Pairwise (fun x y=>¬ Lib.bytesOf y<Lib.bytesOf x)) (h2:ys.Pairwise (fun x y=>¬ Lib.bytesOf y<Lib.bytesOf x)):xs=ys:=by
 refine sorted_one xs ys ?_ hx.idw h1 h2
 refine(List.perm_ext_iff_of_nodup hx.one hy.one).2 (fun z=>?_)
 constructor
 ·intro hz;exact(hy.all z (hx.idw z hz)).2 ((he z).1 ((hx.all z (hx.idw z hz)).1 hz))
 ·intro hz;exact(hx.all z (hy.idw z hz)).2 ((he z).2 ((hy.all z (hy.idw z hz)).1 hz))
section
variable {α : Type} {enc : α → List Value} {k : Nat} {d : α}
theorem exec_bx_sl {w w0:World} {o:Oper} {a:Act} (s x:Operand) (t e:TypeId) (hu:Tryz.prog.underlying t=some (.slice e)) {z:Value} {by_:Nat} (hin:(Tryz.prog.info? e).map (fun i=>(i.zero,i.size,i.bytes))=some (some z,k,by_)) (hz:z.cells.size=k) (hk:0<k) (hby:by_<=100)
  (hone:∀ x,∀ v ∈ enc x,v.oneCell'=true)
  (ho:o.op=.call { callee:=.builtin .append,args:=#[s,x],argTypes:=#[t,t] }) (B:Nat) (v:Value) (l:List α) (hs:a.eval s=v) (h:Bx enc k e w0 w B v l)
  (ax:Option Addr) (cx:Nat) (m:List α) (hx:a.eval x=.slice ax m.length cx) (hP:Px enc k d w ax cx m) (hw:∀ x ∈ m,(enc x).length=k) (hl:l.length+m.length<=100000) :
  ∃ v' w',(execOp a.eval o).run Tryz.prog w=.ok (.value v') w'/\Bx enc k e w0 w' B v' (l++m)/\w.grownBy w' v.ownBlock:=by
 obtain⟨i,hi,hz0,hz1,hz2⟩:=zQ hin
 have key:∀ v' w',(Builtin.append_ #[t,t] o.type #[v,.slice ax m.length cx]).run Tryz.prog w=.ok v' w'->(execOp a.eval o).run Tryz.prog w=.ok (.value v') w':=fun v' w' hr=>by
  unfold execOp
  simp only[ho,resolve,invoke,builtin,Sem.run_bind,Sem.run_pure,Result.andThen_ok,List.map_toArray,List.map_cons,List.map_nil,hs,hx,hr]
 cases ax with
 | none =>
  have hc:cx=0:=hP.nil rfl
  have hcl:=hP.capl
  obtain rfl:m=[]:=List.length_eq_zero_iff.1 (by omega)
  subst hc
  exact⟨v,w,key _ _ (run_append_owned_none (P:=Tryz.prog) w B t o.type e i k hu hi v _ _ h.own),by simpa using h,⟨rfl,rfl,rfl,Nat.le_refl _,fun _ _ _=>rfl⟩⟩
 | some ad =>
  obtain⟨bk,of,fr⟩:=ad
  by_cases h0:m.length=0
  ·obtain rfl:m=[]:=List.length_eq_zero_iff.1 h0
   obtain⟨v',w',hr,h1,h2,_⟩:=run_append_own_at (P:=Tryz.prog) w B t o.type e i z k by_ hu hi hz0 hz1 hz2 hz hk v _ _ h.own ⟨bk,of,fr⟩ 0 cx [] (by simp) (fun j u hj=>by cases hj) (fun u hu=>by cases hu) (by unfold maxLen;omega) (by have h2:=Nat.mul_le_mul hl hby;exact Nat.le_trans h2 (by decide)) h.le
   refine⟨v',w',key _ _ hr,⟨h.below.grown h2 h.le (fun k hk=>(qW h.own k hk).1),?_,Nat.le_trans h.le h2.size⟩,h2⟩
   simpa using h1
  ·obtain⟨b',off',e1,_⟩:=hP.at_ (by omega)
   cases e1
   obtain⟨v',w',hr,h1,h2,_⟩:=run_append_own_at (P:=Tryz.prog) w B t o.type e i z k by_ hu hi hz0 hz1 hz2 hz hk v _ _ h.own ⟨bk,of,none⟩ m.length cx (m.flatMap enc) (Z6 m hw) (hP.cells hk hw) (fX_one m hone) (by unfold maxLen;omega) (by have h2:=Nat.mul_le_mul hl hby;exact Nat.le_trans h2 (by decide)) h.le
   refine⟨v',w',key _ _ hr,⟨h.below.grown h2 h.le (fun k hk=>(qW h.own k hk).1),?_,Nat.le_trans h.le h2.size⟩,h2⟩
   rw[List.length_append,List.flatMap_append]
   exact h1
end
theorem exec_bS1 {P:Program} {o:Oper} {a:Act} {w w':World} (t len:Nat) (x:Operand) (ho:o.op=.buildSlice t len #[(0,x)]) (u1 v:Value) (h1:a.eval x=u1) (hr:(Instr.buildSlice t len #[(0,u1)]).run P w=.ok v w'):(execOp a.eval o).run P w=.ok (.value v) w':=by
 unfold execOp
 simp[ho,h1,hr,Result.andThen]
theorem exec_bd2 {P:Program} {o:Oper} {a:Act} {w w':World} (t:Nat) (x y:Operand) (ho:o.op=.build t #[(0,x),(1,y)]) (u1 u2 v:Value) (h1:a.eval x=u1) (h2:a.eval y=u2) (hr:(Instr.build t #[(0,u1),(1,u2)]).run P w=.ok v w'):(execOp a.eval o).run P w=.ok (.value v) w':=by
 unfold execOp
 simp[ho,h1,h2,hr,Result.andThen]
theorem YW {P:Program} {o:Oper} {a:Act} {w w':World} {s t:TypeId} {x:Operand} (ho:o.op=.convert s t x) {xv v:Value} (hx:a.eval x=xv) (hr:(convert s t xv).run P w=.ok v w'):(execOp a.eval o).run P w=.ok (.value v) w':=by
 unfold execOp
 simp[ho,hx,hr,Result.andThen]
theorem ba_ext {a b:ByteArray} (h:a.toList=b.toList):a=b:=by
 rw[Lib.toList_data,Lib.toList_data] at h
 obtain⟨⟨x⟩⟩:=a
 obtain⟨⟨y⟩⟩:=b
 simp only at h
 rw[h]
def tot (os:List Oj):Nat:=(os.map fun o=>o.zs.length).sum
theorem tot_step (os:List Oj) (i:Nat) (hi:i<os.length):tot (os.take (i+1))=tot (os.take i)+(os.getD i dO).zs.length:=by
 unfold tot
 rw[xW dO os i hi,List.map_append,List.sum_append]
 simp
theorem tot_le (os:List Oj) (i:Nat):tot (os.take i)<=tot os:=by
 unfold tot
 conv=>rhs;rw[<-List.take_append_drop i os,List.map_append,List.sum_append]
 exact Nat.le_add_right _ _
theorem tot_mem:∀ (os:List Oj) (o:Oj),o ∈ os->o.zs.length<=tot os
 | [],o,h=>by cases h
 | x :: os,o,h=>by
  unfold tot
  rw[List.map_cons,List.sum_cons]
  rcases List.mem_cons.1 h with rfl | h
  ·exact Nat.le_add_right _ _
  ·exact Nat.le_trans (tot_mem os o h) (Nat.le_add_left _ _)
theorem encO_len (os:List Oj):∀ o ∈ os,(yV o).length=2:=fun _ _=>rfl
theorem encO_one (o:Oj):∀ v ∈ yV o,v.oneCell'=true:=fun v hv=>by unfold yV at hv;simp at hv;rcases hv with rfl | rfl <;> rfl
theorem infoB30:(Tryz.prog.info? 30).map (fun i=>(i.zero,i.size,i.bytes))=some (some (.agg #[.int .i64 0,.slice none 0 0]),2,32):=by kernel_rfl
theorem run_build30 (o:Oj) (w:World):(Instr.build 30 #[(0,.int .i64 o.k),(1,.slice o.a o.zs.length o.cap)]).run Tryz.prog w=.ok (.agg (yV o).toArray) w:=by
 obtain⟨k,a,c,zs⟩:=o
 unfold yV
 simp only
 generalize zs.length=n
 kernel_rfl
theorem run_bs24 (o:Oj) (w:World):(Instr.buildSlice 24 1 #[(0,.agg (yV o).toArray)]).run Tryz.prog w=.ok (.slice (some ⟨w.heap.size,0,none⟩) 1 1) (w.alloc (.cells (yV o).toArray 30)):=by
 obtain⟨i,hq,hz,hs,_⟩:=zQ infoB30
 refine run_buildSlice w 24 30 1 _ (yV o).toArray i _ Tryz.underlying24 hq hz (by rw[hs];decide) (by rw[hs];decide) ?_
 rw[hs]
 obtain⟨k,a,c,zs⟩:=o
 unfold yV
 simp only
 generalize zs.length=n
 kernel_rfl
theorem px_oneO (w:World) (o:Oj):Px yV 2 dO (w.alloc (.cells (yV o).toArray 30)) (some ⟨w.heap.size,0,none⟩) 1 [o] :=
 ⟨Nat.le_refl _,fun _=>⟨w.heap.size,0,rfl,by simp,fun i hi j v hv=>by
  obtain rfl:i=0:=by simpa using hi
  exact zx (heap_alloc_new w (.cells (yV o).toArray 30)) j v (by simpa using hv)⟩,fun h=>by cases h⟩
structure Q9 (b o:Nat) (k:Int) (sa:Option Addr) (sn sc:Nat) (W:World):Prop where
 c0:W.cell? ⟨b,o,none⟩=some (.int .i64 k)
 c1:W.cell? ⟨b,o+1,none⟩=some (.slice sa sn sc)
theorem q9_of {W:World} {b o:Nat} {x:Oj} (h:W.rangeAt b o (yV x)):Q9 b o x.k x.a x.zs.length x.cap W:=⟨h 0 _ rfl,h 1 _ rfl⟩
structure Q20 (H H2 b oi ok:Nat) (X Y:List Value) (ki kk:Int) (ai:Option Addr) (ni ci:Nat) (ak:Option Addr) (nk ck:Nat) (Si Sk:ByteArray) (W:World):Prop where
 rx:W.rangeAt H 0 X
 ry:W.rangeAt H2 0 Y
 i0:W.cell? ⟨b,oi,none⟩=some (.int .i64 ki)
 i1:W.cell? ⟨b,oi+1,none⟩=some (.slice ai ni ci)
 k0:W.cell? ⟨b,ok,none⟩=some (.int .i64 kk)
 k1:W.cell? ⟨b,ok+1,none⟩=some (.slice ak nk ck)
 si:(convert 26 9 (.slice ai ni ci)).run Tryz.prog W=.ok (.string Si) W
 sk:(convert 26 9 (.slice ak nk ck)).run Tryz.prog W=.ok (.string Sk) W
theorem px_nilO (w:World):Pa w none 0 []:=⟨Nat.le_refl _,fun h=>by simp at h,fun _=>rfl⟩
theorem lx_of {w:World} {a:Option Addr} {cap:Nat} {os:List Oj} (hO:Ot w a cap os) (hv:Lv w):∃ L,Lx os L:=by
 haveI i1:Inhabited Er:=⟨⟨0,[],[]⟩⟩
 haveI i2:Inhabited En:=⟨⟨⟨0,[],z20⟩,by decide,by decide⟩⟩
 have h:∀ i,∃ q:Int × Ids,i<os.length->((∀ er ids,LD (os.getD i dO).k (os.getD i dO).zs.length (Lib.bytesOf (os.getD i dO).zs) er ids->(er,ids)=q)/\(∀ er ids,LP (os.getD i dO).k (os.getD i dO).zs.length (Lib.bytesOf (os.getD i dO).zs) er ids->(er,ids)=q)/\q.2.length<=2000/\∀ y ∈ q.2,IdW y):=fun i=>by
  by_cases hi:i<os.length
  ·have hm:=yK os i dO hi
   have hl:=hO.len _ hm
   obtain⟨_,_,_,⟨_,er,ids,_,_,_,_,h3,h4,h5⟩,_⟩:=links_any (os.getD i dO).k (os.getD i dO).a (os.getD i dO).cap (os.getD i dO).zs (by omega) (fun _=>hl) (hO.isb _ hm) w hv.lw hv.ers hv.db (hO.sl _ hm) []
   obtain⟨_,_,_,⟨_,er',ids',_,_,_,_,_,_,k5⟩,_⟩:=Vy (os.getD i dO).k (os.getD i dO).a (os.getD i dO).cap (os.getD i dO).zs (by omega) (fun _=>hl) (hO.isb _ hm) w (hO.sl _ hm) []
   obtain⟨e1,e2⟩:=same_lk h5 k5
   subst e1
   subst e2
   exact⟨(er',ids'),fun _=>⟨fun e' d' h'=>by obtain⟨rfl,rfl⟩:=same_lk h5 h';rfl,fun e' d' h'=>by obtain⟨rfl,rfl⟩:=same_lk h' k5;rfl,h4,h3⟩⟩
  ·exact⟨(0,[]),fun h=>absurd h hi⟩
 obtain⟨L,hL⟩:=Classical.axiomOfChoice h
 exact⟨L,fun i hi=>(hL i hi).1,fun i hi=>(hL i hi).2.1,fun i hi=>(hL i hi).2.2.1,fun i hi=>(hL i hi).2.2.2⟩
theorem step_app24 {w w0:World} {ops:Array Oper} {o:Oper} {a:Act} {KK:Act->World->Prop} {Q:Exit->Act->World->Prop} {E:Prop} (hg:o.guard=none) (s x:Operand) (ho:o.op=.call { callee:=.builtin .append,args:=#[s,x],argTypes:=#[24,24] }) (B:Nat) (v:Value) (l:List Oj) (hs:a.eval s=v) (h:Bx yV 2 30 w0 w B v l)
    (ax:Option Addr) (cx:Nat) (m:List Oj) (hx:a.eval x=.slice ax m.length cx) (hP:Px yV 2 dO w ax cx m) (hl:l.length+m.length<=100000) (hK:∀ v' w',Bx yV 2 30 w0 w' B v' (l++m)->KK (a.put o.dst v') w') :
    if Region.wanted o (yielded ops a.tmps)=true then Oper.wp Tryz.prog o a w KK Q else E:=by
  obtain⟨v',w',hr,hb,_⟩:=exec_bx_sl (enc:=yV) (k:=2) (d:=dO) s x 24 30 Tryz.underlying24 infoB30 rfl (by decide) (by decide) encO_one ho B v l hs h ax cx m hx hP (encO_len _) hl
  exact zZ hg v' hr (hK v' w' hb)
end Go.Proofs.YticgindfipobiaaGreatDoor.Gr
