import Derived.Test.YtdnphaganajejaaGreatDoorMz17
set_option linter.unusedSectionVars false
set_option linter.unusedSimpArgs false
set_option linter.unusedVariables false
set_option maxRecDepth 20000
set_option maxHeartbeats 4000000
open List renaming flatMap_append->Wzj,length_append->Wzy,length_cons->Wzu,length_nil->WzQ,mem_singleton->Wqk
open Nat renaming add_zero->WyK,le_refl->Wz8,le_trans->Wz9,lt_of_lt_of_le->Wq2
namespace Go.Proofs.YtdnphaganajejaaGreatDoor.K
open Go.Proofs.Tryz
open Go.RowKit
theorem results118:f118.results=#[.tmp 4]:=by kernel_rfl
def nm (l:Str):List Int:=l.map fun b=>(b.toNat:Int)
theorem x9 (l:Str):(nm l).length=l.length:=by simp[nm]
theorem KJ (l m:Str):nm (l++m)=nm l++nm m:=by simp[nm]
theorem qux (l:Str):IsB (nm l):=fun n h=>by
 obtain⟨b,_,rfl⟩:=List.mem_map.1 h;have:=b.toNat_lt;omega
theorem qzV (l:Str):Lib.strCells ⟨l.toArray⟩=row .u8 (nm l):=by
 unfold Lib.strCells nm;simp[row]
abbrev Bb (w0 w:World) (B:Nat) (v:Value) (l:Str):Prop:=Bx eB 1 5 w0 w B v (nm l)
theorem Bx.strM {w0 w:World} {B:Nat} {v:Value} {l:Str} (h:Bb w0 w B v l) (m:Str) (hl:l.length+m.length<=1000000000) (ty:TypeId) :
  ∃ L w',(Builtin.append_ #[82,9] ty #[v,.string ⟨m.toArray⟩]).run prog w=.ok L w'/\Bb w0 w' B L (l++m)/\Mv w w' v L:=by
 obtain⟨i5,hi,I,J,K⟩:=qQ Xk;have hsz:(⟨m.toArray⟩:ByteArray).size=m.length:=by simp[ByteArray.size]
 have j:=h.own;rw[x9] at j;obtain⟨L,w',hr,Y,M,Z⟩:=Lib.run_append_own_string (P:=prog) w B 82 9 ty 5 i5 uy underlying9 hi I J K v l.length _ j ⟨m.toArray⟩ (by rw[hsz];unfold maxLen;omega) (by rw[hsz];omega) h.le;have O:L.ownBlock=v.ownBlock ∨ L.ownBlock=some w.heap.size:=by
  have D:=j;obtain⟨Q,⟨rfl,ac⟩ | ⟨g,cap,cur,rfl,a6,hg,ad,a7,a8,V⟩⟩:=j
  ·by_cases hm:(⟨m.toArray⟩:ByteArray).size=0
   ·left;rw[Z.2 ⟨rfl,hm⟩]
   right;have A:=run_append_nil_string (P:=prog) w 82 9 ty 5 i5 (.int .u8 0) uy underlying9 hi I ⟨m.toArray⟩ (by omega) (by rw[hsz];omega) (by rw[K,hsz];omega);rw[<-(Result.ok.inj (A.symm.trans hr)).1];rfl
  by_cases G:l.length+(⟨m.toArray⟩:ByteArray).size<=cap
  ·left;have A:=Lib.run_append_room_string (P:=prog) w 82 9 ty 5 i5 uy underlying9 hi J g l.length cap cur hg ⟨m.toArray⟩ G (by omega);rw[<-(Result.ok.inj (A.symm.trans hr)).1];rfl
  right;have A:=Lib.run_append_grow_string (P:=prog) w 82 9 ty 5 i5 (.int .u8 0) uy underlying9 hi I ⟨g,0,none⟩ l.length cap _ (by rw[J];exact Q) (D.cells (g:=g) rfl) ⟨m.toArray⟩ (by omega) (by rw[hsz];omega) (by rw[K];exact growslice_fits (by rw[hsz];omega) (by omega));rw[<-(Result.ok.inj (A.symm.trans hr)).1];rfl
 refine⟨L,w',hr,⟨h.below.grown M h.le (fun k hk=>(yu h.own k hk).1),?_,Wz9 h.le M.size⟩,Mv.app ⟨rfl,rfl,rfl,Wz8 _,fun _ _ _=>rfl⟩ M O⟩;rw[hsz,qzV] at Y;rw[x9,Wzy,KJ,Wzj,VY (nm m)];exact Y
theorem KV {P:Program} {o:Oper} {a:Act} {w w':World} (t u:TypeId) (s x:Operand) (G:o.op=.call { callee:=.builtin .append,args:=#[s,x],argTypes:=#[t,u] }) (h j v:Value) (A:a.eval s=h) (D:a.eval x=j) (hr:(Builtin.append_ #[t,u] o.type #[h,j]).run P w=.ok v w'):(execOp a.eval o).run P w=.ok (.value v) w':=by
 unfold execOp;simp only[G,resolve,invoke,builtin,Sem.run_bind,Sem.run_pure,Result.andThen_ok,List.map_toArray,List.map_cons,List.map_nil,A,D,hr]
def jw:List Str->Str
 | []=>[]
 | x :: r=>x++r.flatMap (32 :: ·)
theorem Ry (l:List Str) (x:Str):jw (l++[x])=jw l++(if l=[] then [] else [32])++x:=by
 cases l with
 | nil=>simp[jw]
 | cons y r=>simp[jw]
theorem FJ (c:Int) (w:World):(Instr.buildSlice 82 1 #[(0,.int .u8 c)]).run prog w=.ok (.slice (some ⟨w.heap.size,0,none⟩) 1 1) (w.alloc (.cells #[.int .u8 c] 5)):=by
 obtain⟨i,h,j,hs,_⟩:=qQ Xk;refine run_buildSlice w 82 5 1 _ #[.int .u8 c] i _ uy h j (by rw[hs];decide) (by rw[hs];decide) ?_;rw[hs];kernel_rfl
theorem jw_le (l:List Str) (i:Nat):(jw (l.take i)).length<=(jw l).length:=by
 cases l with
 | nil=>simp[jw]
 | cons x r =>
  cases i with
  | zero=>simp[jw]
  | succ i =>
   simp only[List.take_succ_cons,jw,Wzy];have:((r.take i).flatMap (32 :: ·)).length<=(r.flatMap (32 :: ·)).length:=by
    conv=>rhs;rw[<-List.take_append_drop i r,Wzj,Wzy]
    omega
   omega
def FK (w0 w:World) (B:Nat) (v:Value) (l:Str) (e:Ending) (w':World):Prop := ∃ v',e=.returned v'/\Bb w0 w' B v' l/\Mv w w' v v'
theorem zxQ (w0 w:World) (B:Nat) (v:Value) (out:Str) (aw:Option Addr) (cw:Nat) (ss:List Str) (h:Bb w0 w B v out) (hP:Px eT 1 [] w aw cw ss) (ai:∀ p:Addr,aw=some p->some p.block ≠ v.ownBlock) (hl:out.length+(jw ss).length+1<=300000000) (hs:ss.length<=10) :
  Calls prog 118 #[v,.slice aw ss.length cw] w (FK w0 w B v (out++jw ss++[10])):=by
 obtain⟨N,HN⟩:=nm_ ss.length;have hN:N<=10:=by rw[<-HN.out];exact hs
 have HP:=hid hP;have ap:=hid ai;have M:=hid hl;have aj:Hid (Bb w0 w B v (out++jw (ss.take 0))):=hid (by simpa [jw] using h);have am:=hid (Mv.refl w v);rw[HN.out];clear h hP ai hl hs;go_enter func118,ntmps118;go_wp2
 go_loopg [0,5,6,9] N (fun q sv _ _ iv wr=>∃ (i:Nat) (u:Value),iv=.int .i64 i/\u=sv/\q=N-i/\i<=N/\Hid (Bb w0 wr B u (out++jw (ss.take i)))/\Hid (Mv w wr v u));case atStart=>exact⟨0,_,rfl,rfl,rfl,Nat.zero_le _,aj,am⟩
 obtain⟨i,u,rfl,hu,hq,ax,HB,HM⟩:=hrel;subst hu;by_cases ag:i<N;rotate_left
 ·have ah:¬ (i:Int)<(N:Int):=by omega
  obtain rfl:i=N:=by omega
  have ad:=FJ 10 wr;have Q:Hid (Bb w0 (wr.alloc (.cells #[.int .u8 10] 5)) B u (out++jw ss)):=hid (by
   have:=HB.out;rw[List.take_of_length_le (by rw[HN.out];exact Wz8 _)] at this;exact this.alloc _)
  have a6:Hid (Px eB 1 0 (wr.alloc (.cells #[.int .u8 10] 5)) (some ⟨wr.heap.size,0,none⟩) 1 [10]):=hid (x5 (enc:=eB) wr 10 5);have V:Hid ((nm (out++jw ss)).length + [(10:Int)].length<=1000000000):=hid (by
   rw[x9,Wzy];have:=M.out;simp only[Wzu,WzQ];omega)
  have Z:Hid (Mv w (wr.alloc (.cells #[.int .u8 10] 5)) v u):=hid (HM.out.trans (Mv.grow u (World.grownBy_alloc wr _ none)));go_wp2_with (first
   | (refine z8 rfl _ (qJ 82 (.const (.int .u8 10)) rfl (.int .u8 10) _ rfl ad) ?_;go_frame)
   | (at_builtin;refine zy (enc:=eB) (k:=1) (d:=0) rfl (.tmp 23) (.tmp 24) 82 5 uy Xk rfl (by decide) (by decide) (fun x v hv=>by simp only[eB,Wqk] at hv;subst hv;rfl) rfl B u _ rfl Q.out (some ⟨wr.heap.size,0,none⟩) 1 [10] rfl a6.out (fun x _=>rfl) V.out ?_;intro v5 w5 A a7 I;have ak:=hid A;have ao:=hid (Z.out.trans I);clear A a7 I))
  refine bodyPost_ret (results_tmp results118 _ _ _) rfl ⟨v5,rfl,?_,ao.out⟩;have:=ak.out;have e:nm (out++(jw ss++[10]))=nm (out++jw ss)++[10]:=by simp[nm]
  unfold Bb;rw[e];exact this
 have ah:(i:Int)<(N:Int):=by omega
 obtain⟨b,off,e1,_,e3⟩:=(HP.out.mv HM.out ap.out).at_ (by rw[HN.out];omega);subst e1;have G:=e3 i (by rw[HN.out];exact ag) 0 _ rfl;obtain⟨x,hx⟩:∃ x,ss.getD i []=x:=⟨_,rfl⟩;rw[hx] at G;simp only[Nat.mul_one,WyK] at G;have K:ss.take (i+1)=ss.take i++[x]:=by rw[qk [] ss i (by rw[HN.out];exact ag),hx]
 have j:=jw_le ss (i+1);rw[K,Ry,Wzy,Wzy] at j;by_cases h0:i=0
 ·subst h0;obtain⟨L,w6,ac,D,J⟩:=HB.out.strM x (by have:=M.out;simp only[List.take_zero] at *;simp[jw] at *;omega) 60;have O:Hid (Bb w0 w6 B L (out++jw (ss.take 1))):=hid (by rw[K,Ry];simpa [jw] using D);have Y:=hid (HM.out.trans J);unfold sV at G;simp only[WyK] at G;clear D J hx K j e3
  go_wp2_with (at_builtin;refine z8 rfl _ (KV 82 9 (.tmp 19) (.tmp 20) rfl u (.string ⟨x.toArray⟩) L rfl rfl ac) ?_;go_frame)
  go_roundg (N-1);case measure=>omega
  case rel=>exact⟨1,_,by go_num,rfl,rfl,by omega,O,Y⟩
 have av:(0:Int)<(i:Int):=by omega
 have ay:0<i:=by omega
 have a8:¬ ss.take i=[]:=fun e=>by
  have:=congrArg List.length e;rw[List.length_take,HN.out] at this;simp at this;omega
 rw[if_neg a8] at j;have Q:Hid (Bb w0 (wr.alloc (.cells #[.int .u8 32] 5)) B u (out++jw (ss.take i))):=hid (HB.out.alloc _);have ae:=FJ 32 wr;have a6:Hid (Px eB 1 0 (wr.alloc (.cells #[.int .u8 32] 5)) (some ⟨wr.heap.size,0,none⟩) 1 [32]):=hid (x5 (enc:=eB) wr 32 5);have V:Hid ((nm (out++jw (ss.take i))).length + [(32:Int)].length<=1000000000):=hid (by
  rw[x9,Wzy];have:=M.out;simp only[Wzu,WzQ] at j ⊢;omega)
 have Z:Hid (Mv w (wr.alloc (.cells #[.int .u8 32] 5)) v u):=hid (HM.out.trans (Mv.grow u (World.grownBy_alloc wr _ none)));have ar:Hid (∀ v5 w5,Bx eB 1 5 w0 w5 B v5 (nm (out++jw (ss.take i))++[32])->∃ L w6,(Builtin.append_ #[82,9] 82 #[v5,.string ⟨x.toArray⟩]).run prog w5=.ok L w6/\Bb w0 w6 B L (out++jw (ss.take (i+1)))/\Mv w5 w6 v5 L):=fun v5 w5 h5=>by
  have au:Bb w0 w5 B v5 (out++jw (ss.take i)++[32]):=by unfold Bb;rw[KJ];exact h5
  obtain⟨L,w6,q1,q2,q3⟩:=au.strM x (by
   have:=M.out;simp only[Wzy,Wzu,WzQ] at j ⊢;omega) 60
  refine⟨L,w6,q1,?_,q3⟩;rw[K,Ry,if_neg a8];simpa using q2
 unfold sV at G;clear hx K j e3 a8;go_wp2_with (first
  | (refine z8 rfl _ (qJ 82 (.const (.int .u8 32)) rfl (.int .u8 32) _ rfl ae) ?_;go_frame)
  | (at_builtin;refine zy (enc:=eB) (k:=1) (d:=0) rfl (.tmp 16) (.tmp 17) 82 5 uy Xk rfl (by decide) (by decide) (fun x v hv=>by simp only[eB,Wqk] at hv;subst hv;rfl) rfl B u _ rfl Q.out (some ⟨wr.heap.size,0,none⟩) 1 [32] rfl a6.out (fun x _=>rfl) V.out ?_;intro v5 w5 A a7 I;obtain⟨L,w6,ac,D,J⟩:=ar.out v5 w5 A;have O:=hid D;have Y:=hid ((Z.out.trans I).trans J);clear A a7 I D J)
  | (at_builtin;refine z8 rfl _ (KV 82 9 (.tmp 19) (.tmp 20) rfl v5 (.string ⟨x.toArray⟩) L rfl rfl ac) ?_;go_frame))
 go_roundg (N-(i+1));case measure=>omega
 case rel=>exact⟨i+1,_,by go_num,rfl,rfl,by omega,O,Y⟩
end Go.Proofs.YtdnphaganajejaaGreatDoor.K
namespace Go.Proofs.YtdnphaganajejaaGreatDoor.K
open Go.Proofs.Tryz
open Go.RowKit Go.Shelf
theorem ZZ (w:World) (o:Obj):w.grownBy (w.alloc o) none:=World.grownBy_alloc w o none
def zxX {α:Type} (Bs:Nat) (F:Fence) (n:Nat) (P:Program) (g:Nat) (lb:Array Value) (encs:α->Array Value) (Fx:α->World->Prop) (Kp:Nat->World->World->Prop) (S:List α->Prop) (N:Nat) (w0:World):Prop :=
 ∀ (l:Nat) (J:List α->World->Prop) (W:World),Below w0.heap.size w0 W->w0.heap.size<=l->l<W.heap.size →
  (∀ s A B,J s A->A.grownBy B none->J s B)->(∀ s A B,J s A->A.grownBy B (some Bs)->J s B) →
  (∀ pre x W1,J pre W1->Fx x W1->pre.length<N->YieldAt F (n-1) P l (encs x) W1 fun e W'=>e=.returned (.bool true)/\J (pre++[x]) W'/\Kp l W1 W') →
  J [] W →
  CallsIn F n P g (#[.func (.yield l) #[] #[]]++lb) W fun e W'=>(∃ v,e=.returned v)/\∃ xs,S xs/\J xs W'
def Ob (X:Nat) (W:World) (k:Nat):Prop := ∃ v,W.cell? ⟨X,0,none⟩=some v/\v.ownBlock=some k
structure Kx (X l:Nat) (A B:World):Prop where
 os:B.os=A.os
 tape:B.tape=A.tape
 output:B.output=A.output
 size:A.heap.size<=B.heap.size
 at_:∀ k,Ob X B k->Ob X A k ∨ A.heap.size<=k
 blk:∀ k,k<A.heap.size->k ≠ X->k ≠ l->¬ Ob X A k->B.heap[k]? = A.heap[k]?
 bd:(∀ k,Ob X A k->k<A.heap.size)->∀ k,Ob X B k->k<B.heap.size
theorem Kx.refl (X l:Nat) (A:World):Kx X l A A:=⟨rfl,rfl,rfl,Wz8 _,fun _ h=>.inl h,fun _ _ _ _ _=>rfl,fun h=>h⟩
theorem Kx.trans {X l:Nat} {A B C:World} (h:Kx X l A B) (k:Kx X l B C):Kx X l A C:=by
 have hs:=h.size;refine⟨k.os.trans h.os,k.tape.trans h.tape,k.output.trans h.output,Wz9 h.size k.size,fun i hi=>?_,fun i I j D G=>?_,fun hb=>k.bd (h.bd hb)⟩
 ·rcases k.at_ i hi with g | g
  ·exact h.at_ i g
  exact .inr (by omega)
 refine(k.blk i (by omega) j D (fun J=>?_)).trans (h.blk i I j D G);rcases h.at_ i J with g | g
 ·exact G g
 omega
theorem Kx.grow {X l:Nat} {A B:World} (G:X<A.heap.size) (h:A.grownBy B none):Kx X l A B :=
 ⟨h.os,h.tape,h.output,h.size,fun k ⟨v,j,D⟩=>.inl ⟨v,by rw[<-j];exact(World.cell?_of_block (a:=⟨X,0,none⟩) (h.block X G (by simp))).symm,D⟩,fun k j _ _ _=>h.block k j (by simp),fun hb k ⟨v,j,D⟩=>Wq2 (hb k ⟨v,by rw[<-j];exact(World.cell?_of_block (a:=⟨X,0,none⟩) (h.block X G (by simp))).symm,D⟩) h.size⟩
theorem Kx.loop {X l:Nat} {W:World} {r G:Loop} (A:X ≠ l):Kx X l W (W.putObj l (.loop G)) :=
 ⟨rfl,rfl,rfl,by rw[World.putObj_size];exact Wz8 _,fun k ⟨v,h,j⟩=>.inl ⟨v,by rw[<-h];exact(World.cell?_of_block (a:=⟨X,0,none⟩) (World.putObj_heap_other A)).symm,j⟩,fun k h _ D _=>World.putObj_heap_other D,fun hb k ⟨v,h,j⟩=>by rw[World.putObj_size];exact hb k ⟨v,by rw[<-h];exact(World.cell?_of_block (a:=⟨X,0,none⟩) (World.putObj_heap_other A)).symm,j⟩⟩
theorem Kx.keep {X l k:Nat} {A B:World} (h:Kx X l A B) (j:k<A.heap.size) (D:k ≠ X) (G:k ≠ l) (I:¬ Ob X A k):B.heap[k]? = A.heap[k]? := h.blk k j D G I
structure Fre (X:Nat) (w:World) (k:Nat):Prop where
 lt:k<w.heap.size
 ne:k ≠ X
 no:¬ Ob X w k
theorem Fre.kx {X l k:Nat} {A B:World} (h:Fre X A k) (j:Kx X l A B):Fre X B k :=
 ⟨Wq2 h.lt j.size,h.ne,fun D=>by rcases j.at_ k D with g | g;exact h.no g;have:=h.lt;omega⟩
theorem P9 {X l B t:Nat} {v:Value} {A W:World} (h:Boxed A B t v) (D:Kx X l A W) (j:Fre X A B) (G:B ≠ l):Boxed W B t v:=(D.blk B j.lt j.ne G j.no).trans h
theorem Ru (w:World):w.grownBy w.drew none:=⟨rfl,rfl,rfl,Wz8 _,fun _ _ _=>rfl⟩
theorem Vk {F:Fence} {I:Nat} {P:Program} {j:Array Oper} {rest:List Oper} {op:Oper} {a:Act} {w:World} {Q:Exit->Act->World->Prop} (D:op.guard=none) (ty:TypeId) (x:Operand) (G:op.op=.load ty x)
  (b o:Nat) (hx:a.eval x=.pointer (some ⟨b,o,none⟩)) (cs:List Value) (d:TypeDesc) (hc:w.rangeAt b o cs)
  (L:P.underlying ty=some d) (hd:d.isRow=true) (hi:(P.info? ty).map (·.size)=some cs.length)
  (h:wpListIn F I P j Q rest (a.put op.dst (.agg cs.toArray)) w):wpListIn F I P j Q (op :: rest) a w:=by
 refine wpListIn_plain D fun K J=>?_;unfold Oper.wpIn;refine⟨by simp[Oper.about,G],?_⟩;rw[Oper.semAt_plain F _ _ (by rw[G];intro c A;cases A)];unfold execOp;simp only[G,hx,Instr.loadAt,Instr.sureAddr,Sem.run_bind,Sem.run_pure,Result.andThen_ok,run_loadVar_mid w b o ty cs d hc L hd hi];exact J _ _ h
theorem XZ {F:Fence} {I:Nat} {P:Program} {j:Array Oper} {rest:List Oper} {o:Oper} {a:Act} {w:World} {Q:Exit->Act->World->Prop} (D:o.guard=none) (ty:TypeId) (x y:Operand) (G:o.op=.store ty x y)
  (g:Nat) (cells:Array Value) (hx:a.eval x=.pointer (some ⟨g,0,none⟩)) (hy:a.eval y=.agg cells)
  (t:TypeId) (old:Array Value) (M:w.heap[g]? = some (.cells old t (0,0))) (hi:(P.info? ty).map (·.size)=some cells.size)
  (hold:old.size=cells.size) (J:cells.all (·.oneCell')=true)
  (h:wpListIn F I P j Q rest (a.put o.dst undef) (w.setRow g cells)):wpListIn F I P j Q (o :: rest) a w:=by
 refine wpListIn_plain D fun K L=>?_;unfold Oper.wpIn;refine⟨by simp[Oper.about,G],?_⟩;rw[Oper.semAt_plain F _ _ (by rw[G];intro c A;cases A)];unfold execOp;simp only[G,hx,hy,Instr.storeAt,Instr.sureAddr,Sem.run_bind,Sem.run_pure,Result.andThen_ok,run_storeVar_row w g t ty old cells M hi hold J];exact L _ _ h
theorem Kx.mv {X l ty:Nat} {W D:World} {v G:Value} (hb:Boxed W X ty v) (h:Mv W D v G) (K:some X ≠ v.ownBlock) (J:∀ k,G.ownBlock=some k->k<D.heap.size):Kx X l W (D.setCell ⟨X,0,none⟩ G):=by
 have M:=hb.lt;have hs:=h.size;have I:D.heap[X]? = W.heap[X]? := h.blk X M K;have hc:(D.setCell ⟨X,0,none⟩ G).cell? ⟨X,0,none⟩=some G:=World.cell?_setCell_same (u:=v) _ _ _ ((World.cell?_of_block (a:=⟨X,0,none⟩) I).trans hb.cell)
 refine⟨h.os,h.tape,h.output,by simp[World.setCell];exact hs,fun k ⟨u,j,A⟩=>?_,fun k j A O L=>?_,fun _ k ⟨u,j,A⟩=>by rw[hc] at j;cases j;simp[World.setCell];exact J k A⟩
 ·rw[hc] at j;cases j
  rcases h.at_ with g | g
  ·exact .inl ⟨v,hb.cell,by rw[<-g];exact A⟩
  exact .inr (g k A)
 rw[Below.heap_setCell _ _ _ k A];exact h.blk k j (fun e=>L ⟨v,hb.cell,e.symm⟩)
theorem Bv {W:World} {B e s:Nat} {u:Value} {n:Nat} {xs:List Value} (h:W.ownsRow B e s u n xs) {k:Nat} (j:u.ownBlock=some k):∃ cur,W.heap[k]? = some (.cells cur e (0,0)):=by
 obtain⟨_,⟨rfl,_⟩ | ⟨g,cap,cur,rfl,_,A,_⟩⟩:=h
 ·cases j
 simp[Value.ownBlock] at j;subst j;exact⟨cur,A⟩
theorem zxJ {W G:World} {X:Nat} {u I:Value} {B n ty e s:Nat} {xs:List Value} (hb:Boxed W X ty u) (J:W.ownsRow B e s u n xs) (h:Mv W G u I) (Bx:Nat):KeepsFrom Bx W (G.setCell ⟨X,0,none⟩ I):=by
 refine⟨by simp[World.setCell];exact h.size,fun k o _ j hc=>?_⟩;have D:k ≠ X:=fun e=>by rw[e,show W.heap[X]? = _ from hb] at j;cases j;cases hc
 rw[Below.heap_setCell _ _ _ k D,h.blk k (Array.getElem?_eq_some_iff.1 j).1 (fun e=>?_)]
 ·exact j
 obtain⟨cur,A⟩:=Bv J e.symm;rw[A] at j;cases j;cases hc
theorem Mv.store {w j:World} {v A:Value} (h:Mv w j v A) {X:Nat} (I:w.heap.size<=X) (y:Value):Mv w (j.setCell ⟨X,0,none⟩ y) v A :=
 ⟨h.os,h.tape,h.output,by simp[World.setCell];exact h.size,fun k D G=>(Below.heap_setCell _ _ _ k (by show k ≠ X;omega)).trans (h.blk k D G),h.at_⟩
theorem X8 {F:Fence} {G:Nat} {P:Program} {j:Array Oper} {rest:List Oper} {o:Oper} {a:Act} {w w':World} {Q:Exit->Act->World->Prop} (J:o.guard=none) (t len:Nat) (x:Operand) (D:o.op=.buildSlice t len #[(0,x)]) (u v:Value) (hx:a.eval x=u)
  (hr:(Instr.buildSlice t len #[(0,u)]).run P w=.ok v w')
  (h:wpListIn F G P j Q rest (a.put o.dst v) w'):wpListIn F G P j Q (o :: rest) a w:=by
 refine wpListIn_plain J fun K I=>?_;unfold Oper.wpIn;refine⟨by simp[Oper.about,D],?_⟩;rw[Oper.semAt_plain F _ _ (by rw[D];intro c A;cases A)];unfold execOp;simp[D,hx,hr,Result.andThen];exact I _ _ h
theorem zz8 (w:World) (A:List Value) (t:TypeId):∀ j u,A[j]? = some u->(w.alloc (.cells A.toArray t)).cell? ((⟨w.heap.size,0,none⟩:Addr).add j)=some u:=fun j u D=>by
 have h:=zw (heap_alloc_new w (.cells A.toArray t)) j u D;rw[x7];exact h
theorem Bw {α:Type} {F:Fence} {n:Nat} {P:Program} {g:Operand} {ps:Array Tmp} {assign body:Code} {Q:Exit->Act->World->Prop} {a:Act} {w:World}
  (aP:F.round=none) (h1:1<=n) {gf:Nat} {lb:Array Value} (hg:a.eval g=.func (.func gf) #[] lb) (aA:F.fn gf) (eg:∀ args w,(callFunc gf args).run P w=.ok (.enter gf args) w)
  {encs:α->Array Value} {Fx:α->World->Prop} {Kp:Nat->World->World->Prop} {S:List α->Prop} {N Bs:Nat} (aQ:Bs<w.heap.size) (av:zxX Bs F (n-1) P gf lb encs Fx Kp S N w) (aO:∀ x,(encs x).size=ps.size)
  (ag:∀ {l:Nat} {A B C:World},Kp l A B->Kp l B C->Kp l A C) (ak:∀ (l:Nat) (W:World) (r r':Loop),w.heap.size<=l->W.heap[l]? = some (.loop r)->Kp l W (W.putObj l (.loop r')))
  (aB:∀ (l:Nat) (W:World) (r r':Loop) (x:α),w.heap.size<=l->W.heap[l]? = some (.loop r)->Fx x W->Fx x (W.putObj l (.loop r')))
  (I:List α->World->Prop) (hI:∀ s A B,I s A->A.grownBy B none->I s B) (aC:∀ s A B,I s A->A.grownBy B (some Bs)->I s B) (ae:∀ (s:List α) (l:Nat) (W:World) (r r':Loop),w.heap.size<=l->W.heap[l]? = some (.loop r)->I s W->I s (W.putObj l (.loop r')))
  (h0:I [] w) (ax:α->World->Act) (aw:α->World->World) (aF:∀ (x:α) (W:World),W.grownBy (aw x W) none) (aD:∀ (l:Nat) (x:α) (W:World),w.heap.size<=l->l<W.heap.size->Kp l W (aw x W)) (az:∀ (x:α) (W:World),Fx x W->Fx x (aw x W))
  (Y:∀ (l:Nat) (x:α) (W:World) (K:Act->World->Prop),Fx x W->K (ax x W) (aw x W)->assign.wpIn (F.inRound l) (n-1-1) P (Exit.then K (fun _ _ _=>False)) { tmps:=(ps.zip (encs x)).foldl (fun t (p,v)=>t.setIfInBounds p v) a.tmps,defers:=[] } W)
  (ah:∀ (l:Nat) (pre:List α) (x:α) (M W:World),w.heap.size<=l->l<M.heap.size->(∀ k,k ≠ l->W.heap[k]? = (aw x M).heap[k]?)->I pre W->Fx x W->pre.length<N->l<W.heap.size->M.heap.size<=W.heap.size->body.wpIn (F.inRound l) (n-1-1) P (fun e _ W'=>e=.normal/\KeepsFrom w.heap.size W W'/\Kp l W W'/\I (pre++[x]) W') (ax x M) W)
  (ai:∀ (D:Nat) (xs:List α) (W:World),w.heap.size<=D->S xs->I xs W->W.heap[D]? = some (.deferred (some []))->Q .normal { a with defers:={ target:=.collected D,args:=#[] } :: a.defers } W) :
  (Code.rangeFunc g ps assign body).wpIn F n P Q a w:=by
 refine wpIn_rangeFunc ?_;intro fn aK;rw[aP];obtain⟨rc,G⟩:∃ rc:LoopState->Loop,rc=fun st=>{ state:=st,pending:=none,fn,tmps:=a.tmps,params:=ps,assign,body,defers:=w.heap.size }:=⟨_,rfl⟩;obtain⟨O,V⟩:∃ O,(w.alloc (.deferred (some []))).alloc (.loop (rc .ready))=O:=⟨_,rfl⟩;have L:w.grownBy O none:=by rw[<-V];exact(ZZ w _).trans (ZZ _ _)
 have aS:O.heap.size=w.heap.size+2:=by rw[<-V];simp
 have aE:O.heap[w.heap.size+1]? = some (.loop (rc .ready)):=by
  rw[<-V];have:=World.alloc_heap_new (w.alloc (.deferred (some []))) (.loop (rc .ready));rwa [World.size_alloc] at this
 have ay:O.heap[w.heap.size]? = some (.deferred (some [])):=by
  rw[<-V];exact(Below.heap_alloc _ _ _ (by simp)).trans (World.alloc_heap_new w _)
 have aG:Below w.heap.size w O:=⟨L.os,L.tape,L.output,L.size,fun k hk=>L.block k hk (by simp)⟩;refine⟨w.heap.size+1,[{ target:=.collected w.heap.size,args:=#[] }],O,{ target:=.fn (.func gf) lb,args:=#[.func (.yield (w.heap.size+1)) #[] #[]] },O,gf,
  #[.func (.yield (w.heap.size+1)) #[] #[]]++lb,O,?_,?_,?_,?_,fun _=>h1,?_⟩
 ·rw[<-V,G];exact run_enterLoop_outer _ _ _ _ _
 ·simp only[resolve,hg];simp[go_sem]
 ·intro f' am;simp[Target.leads] at am;subst am;exact aA
 ·simp[invoke,go_sem,eg]
 have keep:∀ {A B:World} {k:Nat} {o:Obj},A.grownBy B none->A.heap[k]? = some o->B.heap[k]? = some o:=fun h hk=>(h.block _ (Array.getElem?_eq_some_iff.1 hk).1 (by simp)).trans hk;refine(av (w.heap.size+1) (fun pre W=>I pre W/\W.heap[w.heap.size+1]? = some (.loop (rc .ready))/\W.heap[w.heap.size]? = some (.deferred (some []))) O aG (by omega) (by omega)
  (fun s A B hs h=>⟨hI s A B hs.1 h,keep h hs.2.1,keep h hs.2.2⟩) (fun s A B hs h=>⟨aC s A B hs.1 h,(h.block _ (Array.getElem?_eq_some_iff.1 hs.2.1).1 (fun e=>by cases e;omega)).trans hs.2.1,(h.block _ (Array.getElem?_eq_some_iff.1 hs.2.2).1 (fun e=>by cases e;omega)).trans hs.2.2⟩) ?_ ⟨hI _ _ _ h0 L,aE,ay⟩).mono ?_
 ·rintro pre x M ⟨aL,aj,aH⟩ a8 hlen;have ac:w.heap.size+1<M.heap.size:=(Array.getElem?_eq_some_iff.1 aj).1;have hy:=run_yield (P:=P) (args:=encs x) aj (by rw[G];exact aO x);rw[G] at hy;have j:w.heap.size<=w.heap.size+1:=by omega
  have Z:=aF x M;have hi:=hI _ _ _ aL Z;have hl:=keep Z aj;have hd:=keep Z aH;have ao:=az x M a8;have a7:=aD (w.heap.size+1) x M j ac;refine⟨fn,_,assign,body,hy,roundIn_of_wpIn aK (Y _ x M _ a8 ?_)⟩;have J:=ah (w.heap.size+1) pre x M;have ad:=Z.size;generalize aR:aw x M=W at hi hl hd ao a7 J ad ⊢
  have au:w.heap.size+1<W.heap.size:=(Array.getElem?_eq_some_iff.1 hl).1;refine⟨_,run_beginRound hl (by rw[G]),?_⟩;have aN:(W.putObj (w.heap.size+1) (.loop { rc .ready with state:=.busy })).heap[w.heap.size+1]? = some (.loop { rc .ready with state:=.busy }):=World.putObj_heap_same au
  have aI:(W.putObj (w.heap.size+1) (.loop { rc .ready with state:=.busy })).heap[w.heap.size]? = some (.deferred (some [])):=(World.putObj_heap_other (by omega)).trans hd
  refine wpIn_mono (J _ j ac (fun k hk=>World.putObj_heap_other hk) (ae _ _ _ _ _ j hl hi) (aB _ _ _ _ _ j hl ao) hlen (by rw[World.putObj_size];exact au) (by rw[World.putObj_size];exact ad)) ?_;rintro e a3 W3 ⟨rfl,ap,ar,aM⟩;have a6:=ap.same _ _ j aN rfl;have aJ:=ap.same _ _ (Wz8 _) aI rfl;have hr:=run_endRound (P:=P) none a6
  refine⟨_,_,hr,rfl,⟨ae _ _ _ _ _ j a6 aM,?_,(World.putObj_heap_other (by omega)).trans aJ⟩,ag a7 (ag (ag (ak _ _ _ _ j hl) ar) (ak _ _ _ _ j a6))⟩;rw[World.putObj_heap_same (Array.getElem?_eq_some_iff.1 a6).1,G];rfl
 rintro e W2 ⟨⟨v,rfl⟩,xs,hS,hi,hl,hd⟩;refine⟨none,_,by have:=run_endLoop (P:=P) hl (by rw[G];simp);rw[G] at this;exact this,?_⟩;exact ai _ xs _ (Wz8 _) hS (ae _ _ _ _ _ (by omega) hl hi) ((World.putObj_heap_other (by omega)).trans hd)
end Go.Proofs.YtdnphaganajejaaGreatDoor.K
