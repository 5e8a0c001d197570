import Derived.Test.YtgliaiemkfopeaaGreatDoorMn15
import Derived.Test.YtgliaiemkfopeaaGreatDoorMn18
import Derived.Test.YtgliaiemkfopeaaGreatDoorMn20
import Derived.Test.YtgliaiemkfopeaaGreatDoorMn19
set_option linter.unusedSectionVars false
set_option linter.unusedSimpArgs false
set_option linter.unusedVariables false
set_option maxRecDepth 20000
set_option maxHeartbeats 4000000
namespace Go.Proofs.YtgliaiemkfopeaaGreatDoor.K
open Go.RowKit
abbrev Rx:=Str × Kp
abbrev Ex:=Str × Le
def qX (x:Rx):List Value:=sV x.1 :: (row .u8 x.2.1++[sV x.2.2])
def yz (x:Ex):List Value:=sV x.1 :: qv x.2
abbrev dR:Rx:=([],[],[])
abbrev dE:Ex:=([],dL)
def Z9 (x:Rx):Prop:=x.1.length<=60/\IdW x.2.1/\x.2.2.length<=60
def ExOk (x:Ex):Prop:=x.1.length<=60/\uy x.2
theorem xx {x:Rx} (h:Z9 x):(qX x).length=22:=by simp[qX,zw,h.2.1.1]
theorem yy {x:Ex} (h:ExOk x):(yz x).length=46:=by simp[yz,yx h.2]
theorem jX (x:Rx):∀ v ∈ qX x,v.oneCell'=true:=fun v hv=>by
 unfold qX at hv
 simp only[List.mem_cons,List.mem_append,List.not_mem_nil,or_false] at hv
 rcases hv with rfl | hv | rfl
 ·rfl
 ·exact yQ .u8 x.2.1 v hv
 ·rfl
theorem j6 (x:Ex):∀ v ∈ yz x,v.oneCell'=true:=fun v hv=>by
 unfold yz at hv
 simp only[List.mem_cons] at hv
 rcases hv with rfl | hv
 ·rfl
 ·exact vZ x.2 v hv
structure Dq (G:Nat) (w:World) (Q:Nat) (v1 v2:Value) (rs:List Rx) (ls:List Ex):Prop where
 box:w.heap[Q]? = some (.cells #[v1,v2] 31 (0,0))
 r1:w.ownsRow G 88 22 v1 rs.length (rs.flatMap qX)
 r2:w.ownsRow G 141 46 v2 ls.length (ls.flatMap yz)
 ok1:∀ x ∈ rs,Z9 x
 ok2:∀ x ∈ ls,ExOk x
 few:rs.length<=100000/\ls.length<=1000000
theorem xV {w W:World} {B e k n:Nat} {v:Value} {xs:List Value} (h:w.ownsRow B e k v n xs) (hb:Below w.heap.size w W):W.ownsRow B e k v n xs :=
 h.kept (row:=none) ⟨hb.os,hb.tape,hb.output,hb.size,fun k hk _=>hb.block k hk⟩ (by cases h:v.ownBlock <;> simp)
theorem Dq.below {G Q:Nat} {w W:World} {v1 v2:Value} {rs:List Rx} {ls:List Ex} (h:Dq G w Q v1 v2 rs ls) (hb:Below w.heap.size w W):Dq G W Q v1 v2 rs ls :=
 ⟨(hb.block Q (z7 h.box)).trans h.box,xV h.r1 hb,xV h.r2 hb,h.ok1,h.ok2,h.few⟩
theorem vV {α:Type} {enc:α->List Value} {k:Nat} {d:α} {e:TypeId} {w:World} {B:Nat} {v:Value} {l:List α} (h:w.ownsRow B e k v l.length (l.flatMap enc)) (hw:∀ x ∈ l,(enc x).length=k):∃ a cap,v=.slice a l.length cap/\Px enc k d w a cap l/\∀ p:Addr,a=some p->B<=p.block/\p.block<w.heap.size:=by
 have hb:Bx enc k e w w 0 v l:=⟨Below.refl _ _,kz h,Nat.zero_le _⟩
 obtain⟨a,c,e1,hP,hn,_⟩:=hb.px (d:=d) hw
 refine⟨a,c,e1,hP,fun p hp=>⟨?_,(hn p hp).2⟩⟩
 subst e1
 subst hp
 exact(yq h p.block (by simp[Value.ownBlock])).1
theorem Dq.px1 {G Q:Nat} {w:World} {v1 v2:Value} {rs:List Rx} {ls:List Ex} (h:Dq G w Q v1 v2 rs ls):∃ a c,v1=.slice a rs.length c/\Px qX 22 dR w a c rs/\(∀ p:Addr,a=some p->G<=p.block/\p.block<w.heap.size)/\w.cell? ⟨Q,0,none⟩=some (.slice a rs.length c):=by
 obtain⟨a,c,e1,e2,e3⟩:=vV (d:=dR) h.r1 (fun x hx=>xx (h.ok1 x hx))
 exact⟨a,c,e1,e2,e3,by simp[World.cell?,h.box,e1]⟩
theorem Dq.px2 {G Q:Nat} {w:World} {v1 v2:Value} {rs:List Rx} {ls:List Ex} (h:Dq G w Q v1 v2 rs ls):∃ a c,v2=.slice a ls.length c/\Px yz 46 dE w a c ls/\(∀ p:Addr,a=some p->G<=p.block/\p.block<w.heap.size)/\w.cell? ⟨Q,1,none⟩=some (.slice a ls.length c):=by
 obtain⟨a,c,e1,e2,e3⟩:=vV (d:=dE) h.r2 (fun x hx=>yy (h.ok2 x hx))
 exact⟨a,c,e1,e2,e3,by simp[World.cell?,h.box,e1]⟩
def fI (rs:List Rx) (x:Str):Option Nat:=rs.findIdx? (fun r=>decide (r.1=x))
def iV (o:Option Nat):Int:=match o with
 | some i=>(i:Int)
 | none => -1
theorem fI_some {rs:List Rx} {x:Str} {i:Nat} (hi:i<rs.length) (h0:∀ j,j<i->(rs.getD j dR).1 ≠ x) (h1:(rs.getD i dR).1=x):fI rs x=some i:=by
 unfold fI
 rw[List.findIdx?_eq_some_iff_getElem]
 refine⟨hi,?_,fun j hj=>?_⟩
 ·rw[List.getD_eq_getElem?_getD,List.getElem?_eq_getElem hi] at h1
  simpa using h1
 ·have:=h0 j hj
  rw[List.getD_eq_getElem?_getD,List.getElem?_eq_getElem (by omega)] at this
  simpa using this
theorem fI_none {rs:List Rx} {x:Str} (h0:∀ j,j<rs.length->(rs.getD j dR).1 ≠ x):fI rs x=none:=by
 unfold fI
 rw[List.findIdx?_eq_none_iff]
 intro r hr
 obtain⟨j,hj,rfl⟩:=List.getElem_of_mem hr
 have:=h0 j hj
 rw[List.getD_eq_getElem?_getD,List.getElem?_eq_getElem hj] at this
 simpa using this
theorem jJ:∀ (rs:List Rx) (x:Str),(∀ i,fI rs x=some i->i<rs.length/\(rs.getD i dR).1=x/\Rk.fd rs x=some (rs.getD i dR).2)/\(fI rs x=none->Rk.fd rs x=none)
 | [],x=>⟨fun i h=>by simp[fI] at h,fun _=>rfl⟩
 | r :: rs,x=>by
  obtain⟨h1,h2⟩:=jJ rs x
  by_cases e:r.1=x
  ·refine⟨fun i h=>?_,fun h=>?_⟩
   ·simp[fI,List.findIdx?_cons,e] at h
    subst h
    simp[e,Rk.fd]
   ·simp[fI,List.findIdx?_cons,e] at h
  ·refine⟨fun i h=>?_,fun h=>?_⟩
   ·simp only[fI,List.findIdx?_cons,e,decide_false,Bool.false_eq_true,if_false] at h
    obtain⟨j,hj,rfl⟩:=Option.map_eq_some_iff.1 h
    obtain⟨k1,k2,k3⟩:=h1 j hj
    exact⟨by simpa using k1,by simpa using k2,by simp only[Rk.fd,e,if_false,k3];simp⟩
   ·simp only[fI,List.findIdx?_cons,e,decide_false,Bool.false_eq_true,if_false,Option.map_eq_none_iff] at h
    simp only[Rk.fd,e,if_false]
    exact h2 h
theorem Tryz.results53:Tryz.f53.results=#[.tmp 4]:=by kernel_rfl
set_option maxHeartbeats 1000000 in
theorem Zz {G Q:Nat} {v1 v2:Value} {rs:List Rx} {ls:List Ex} (x:Str) (w:World) (h:Dq G w Q v1 v2 rs ls) :
  Calls Tryz.prog 53 #[.pointer (some ⟨Q,0,none⟩),sV x] w fun e w'=>e=.returned (.int .i64 (iV (fI rs x)))/\w'=w:=by
 obtain⟨a,c,-,hP,-,hc0⟩:=h.px1
 have hfew:=h.few.1
 obtain⟨N,HN⟩:=nm_ rs.length
 rw[HN.out] at hc0 hfew
 have HP:=hid hP
 clear hP h
 unfold sV
 go_enter Tryz.func53,Tryz.ntmps53
 go_wp2
 go_loopg [5] N (fun q iv wr=>∃ i:Nat,iv=.int .i64 i/\q=N-i/\i<=N/\wr=w/\Hid (∀ j,j<i->(rs.getD j dR).1 ≠ x))
 case atStart=>exact⟨0,rfl,rfl,Nat.zero_le _,rfl,hid (fun j hj=>by omega)⟩
 case round =>
  obtain⟨i,rfl,hq,hin,rfl,HI⟩:=hrel
  by_cases hlt:i<N
  ·have hlti:(i:Int)<(N:Int):=by omega
   obtain⟨b,off,e1,_,e3⟩:=HP.out.at_ (by rw[HN.out];omega)
   subst e1
   have hc1:wr.cell? ⟨b,off+i*22,none⟩=some (sV (rs.getD i dR).1):=e3 i (by rw[HN.out];exact hlt) 0 _ rfl
   obtain⟨y,hy⟩:∃ y,(rs.getD i dR).1=y:=⟨_,rfl⟩
   rw[hy] at hc1
   have HY:=hid hy
   unfold sV at hc1
   clear hy e3
   by_cases hxy:y=x
   ·subst hxy
    have HF:Hid (fI rs y=some i):=hid (fI_some (by rw[HN.out];exact hlt) HI.out HY.out)
    go_wp2
    exact bodyPost_ret (results_tmp Tryz.results53 _ _ _) rfl ⟨by rw[HF.out];rfl,rfl⟩
   ·have hne:(y == x)=false:=by simpa using hxy
    have HI2:Hid (∀ j,j<i+1->(rs.getD j dR).1 ≠ x):=fun j hj=>by
     by_cases e:j=i
     ·rw[e,HY.out];exact hxy
     ·exact HI.out j (by omega)
    go_wp2
    go_roundg (N-(i+1))
    case measure=>omega
    case rel=>exact⟨i+1,by go_num,rfl,by omega,rfl,HI2⟩
  ·have hlti:¬ (i:Int)<(N:Int):=by omega
   obtain rfl:i=N:=by omega
   have HF:Hid (fI rs x=none):=hid (fI_none (fun j hj=>HI.out j (by have:=HN.out;omega)))
   go_wp2
   exact bodyPost_ret (results_tmp Tryz.results53 _ _ _) rfl ⟨by rw[HF.out];rfl,rfl⟩
theorem Tryz.results59:Tryz.f59.results=#[.tmp 4]:=by kernel_rfl
theorem Tryz.results50:Tryz.f50.results=#[.tmp 6]:=by kernel_rfl
theorem sl_pb {w:World} {a:Option Addr} {c:Nat} {s:Str} (h:PB w a c s):Sl w a c (nm s) :=
 ⟨by rw[yX];exact h.capl,fun h0=>by
  rw[yX] at h0
  obtain⟨b,off,e1,e2,_⟩:=h.at_ h0
  subst e1
  refine⟨b,off,rfl,e2,fun i hi=>?_⟩
  rw[yX] at hi
  rw[PB.cell h i hi]
  simp[nm,List.getD_eq_getElem?_getD,List.getElem?_eq_getElem hi],h.nil⟩
theorem pb_eB {w:World} {a:Option Addr} {c:Nat} {s:Str} (h:Px eB 1 0 w a c (nm s)):PB w a c s :=
 ⟨by have:=h.capl;rwa [yX] at this,fun h0=>by
  obtain⟨b,off,e1,e2,e3⟩:=h.at_ (by rw[yX];exact h0)
  refine⟨b,off,e1,e2,fun i hi j v hv=>e3 i (by rw[yX];exact hi) j v ?_⟩
  rw[<-hv]
  simp[eB,encB,nm,List.getD_eq_getElem?_getD,List.getElem?_eq_getElem hi],h.nil⟩
theorem bb_pb {w0 w:World} {B:Nat} {v:Value} {l:Str} (h:Bb w0 w B v l):∃ a c,v=.slice a l.length c/\PB w a c l/\∀ p:Addr,a=some p->B<=p.block/\p.block<w.heap.size:=by
 obtain⟨a,c,e,hP,hp,_⟩:=h.px (d:=0) (fun _ _=>rfl)
 rw[yX] at e
 exact⟨a,c,e,pb_eB hP,hp⟩
structure Nms (T:Ts) (ss:List Str):Prop where
 mem:∀ x,x ∈ ss ↔ T x ≠ none
 pw:ss.Pairwise (fun x y=>decide (x<=y)=true)
 nd:ss.Nodup
theorem lay_any (a:Option Addr) (c:Nat) (ss:List Sp) (w:World) (ht:Tab w) (hdb:Db w) (hP:Px zX 68 dS w a c ss) (hok:∀ s ∈ ss,StL s) (hl:(wrL ss).length<=280000000) (hn:ss.length<=1000000) :
  Calls Tryz.prog 87 #[.slice a ss.length c] w fun e w1=>Below w.heap.size w w1/\∃ v,e=.returned v/\Calls Tryz.prog 86 #[v] w1 fun e2 w2=>Below w.heap.size w w2/\∃ g cap,e2=.returned (.slice (some ⟨g,0,none⟩) (bkS (wrL ss)).length cap)/\PB w2 (some ⟨g,0,none⟩) cap (bkS (wrL ss))/\w.heap.size<=g/\g<w2.heap.size:=by
 refine(wsteps_any a c ss w ht hP hok (by omega) (by omega)).mono ?_
 rintro e w1 ⟨v,rfl,hB⟩
 obtain⟨a1,c1,rfl,hP1,_⟩:=bb_pb hB
 refine⟨hB.below,_,rfl,?_⟩
 refine(block_any a1 c1 (wrL ss) w1 hP1 (by omega) (hdb.below hB.below)).mono ?_
 rintro e2 w2 ⟨g,cap,rfl,hm,hg,hb⟩
 have hs:=hB.below.size
 exact⟨hB.below.trans (hb.mono hs),g,cap,rfl,hm.pb,Nat.le_trans hs hg,hm.lt⟩
end Go.Proofs.YtgliaiemkfopeaaGreatDoor.K
namespace Go.Proofs.YtgliaiemkfopeaaGreatDoor.K
open Go.RowKit Go.Shelf
attribute [local go_sem] Oper.semAt_some
theorem lines166 (v:Value) (w:World) (h1:v.oneCell'=true):Calls Tryz.prog 166 #[v] w fun e w'=>e=.returned (.func (.func 198) #[] #[.pointer (some ⟨w.heap.size,0,none⟩)])/\w'=w.alloc (.cells #[v] 60):=by
 have hmf:∀ (fn:Fn) (first cap:Array Value) (w:World),(Instr.makeFunc fn first cap).run Tryz.prog w=.ok (.func fn first cap) w:=fun _ _ _ _=>rfl
 go_enter Tryz.func166,Tryz.ntmps166
 go_wp2
 go_ret
 exact⟨rfl,rfl⟩
theorem Tryz.results137:Tryz.f137.results=#[.cell 2 123,.cell 3 55]:=by kernel_rfl
theorem fl_wrL (ss:List Sp):fL lnS ss=wrL ss:=rfl
def RsI (w:World) (X Y:Nat) (pre:List (Value × Sp)) (W:World):Prop :=
 ∃ u,Boxed W X 123 u/\W.ownsRow Y 143 68 u pre.length ((pre.map fun x=>cnS x.2).flatMap zX)/\Mv w W (.slice none 0 0) u
theorem RsI.grow {w:World} {X Y:Nat} (s:List (Value × Sp)) (A C:World) (h:RsI w X Y s A) (hg:A.grownBy C none):RsI w X Y s C:=by
 obtain⟨u,h1,h2,h3⟩:=h
 exact⟨u,h1.kept hg (by simp),h2.kept hg (by cases e:u.ownBlock <;> simp),h3.trans (Mv.grow u hg)⟩
theorem RsI.turn {w:World} {X Y Bs:Nat} (hw:w.heap.size<=Bs) (hB:X ≠ Bs) (hY:Bs<Y) (s:List (Value × Sp)) (A C:World) (h:RsI w X Y s A) (hg:A.grownBy C (some Bs)):RsI w X Y s C:=by
 obtain⟨u,h1,h2,h3⟩:=h
 refine⟨u,h1.kept hg (fun e=>by cases e;exact hB rfl),h2.kept hg ?_,⟨hg.os.trans h3.os,hg.tape.trans h3.tape,hg.output.trans h3.output,Nat.le_trans h3.size hg.size,fun k hk hn=>(hg.block k (Nat.lt_of_lt_of_le hk h3.size) (fun e=>by cases e;omega)).trans (h3.blk k hk hn),h3.at_⟩⟩
 cases e:u.ownBlock with
 | none=>exact .inl rfl
 | some k=>exact .inr (fun e2=>by cases e2;have:=(h2.lt _ e).1;omega)
theorem RsI.put {w:World} {X Y n:Nat} (hX:X<n) (hw:w.heap.size<=n) (s:List (Value × Sp)) (l:Nat) (W:World) (r r':Loop) (hl:n<=l) (hr:W.heap[l]? = some (.loop r)) (h:RsI w X Y s W):RsI w X Y s (W.putObj l (.loop r')):=by
 obtain⟨u,h1,h2,h3⟩:=h
 exact⟨u,(World.putObj_heap_other (by omega)).trans h1,ownsRow_putObj h2 _ hr rfl,h3.put _ (by omega)⟩
theorem wpListIn_newv {F:Fence} {nF:Nat} {P:Program} {ops:Array Oper} {rest:List Oper} {o:Oper} {a:Act} {W:World} {Q:Exit->Act->World->Prop} (hgd:o.guard=none) (ty:TypeId) (x y:Operand) (ho:o.op=.store ty x y) (z A:Array Value) (hx:a.eval x=.pointer (some ⟨W.heap.size,0,none⟩)) (hy:a.eval y=.agg A)
  (hi:(P.info? ty).map (·.size)=some A.size) (hz:z.size=A.size) (h1:A.all (·.oneCell')=true) (h:wpListIn F nF P ops Q rest (a.put o.dst undef) (W.alloc (.cells A ty))):wpListIn F nF P ops Q (o :: rest) a (W.alloc (.cells z ty)):=by
 refine Yw hgd ty x y ho W.heap.size A hx hy ty z (heap_alloc_new W _) hi hz h1 ?_
 rw[World.setRow_alloc_new]
 exact h
theorem XZ {F:Fence} {nF:Nat} {P:Program} {ops:Array Oper} {rest:List Oper} {o:Oper} {a:Act} {w:World} {Q:Exit->Act->World->Prop} (hgd:o.guard=none) (ty:TypeId) (x:Operand) (ho:o.op=.load ty x) (g:Nat) (A:Array Value) (t:TypeId) (f:Nat × Nat) (d:TypeDesc) (hx:a.eval x=.pointer (some ⟨g,0,none⟩)) (hg:w.heap[g]? = some (.cells A t f))
  (hu:P.underlying ty=some d) (hd:d.isRow=true) (hi:(P.info? ty).map (·.size)=some A.size) (h:wpListIn F nF P ops Q rest (a.put o.dst (.agg A)) w):wpListIn F nF P ops Q (o :: rest) a w:=by
 refine Xq hgd ty x ho g 0 hx A.toList d (zy (by simpa using hg)) hu hd (by simpa using hi) ?_
 simpa using h
theorem ret_c2 {fn:Func} {p q:Tmp} {t1 t2:TypeId} (h:fn.results=#[.cell p t1,.cell q t2]) (tmps:Array Value) (W:World) (D:Nat) (g1 g2:Nat) (x y:Value) (hp:tmps.getD p undef=.pointer (some ⟨g1,0,none⟩)) (hq:tmps.getD q undef=.pointer (some ⟨g2,0,none⟩)) (hK:W.heap[D]? = some (.deferred (some [])))
  (hx:(loadVar t1 ⟨g1,0,none⟩).run Tryz.prog (W.putObj D (.deferred none))=.ok x (W.putObj D (.deferred none))) (hy:(loadVar t2 ⟨g2,0,none⟩).run Tryz.prog (W.putObj D (.deferred none))=.ok y (W.putObj D (.deferred none))) (R:Ending->World->Prop) (hR:R (.returned (.tuple #[x,y])) (W.putObj D (.deferred none))) :
  bodyPostM Fence.wide 3 Tryz.prog fn R .ret { tmps:=tmps,defers:=[{ target:=.collected D,args:=#[] }] } W:=by
 have hp':tmps[p]?.getD undef=.pointer (some ⟨g1,0,none⟩):=by simpa using hp
 have hq':tmps[q]?.getD undef=.pointer (some ⟨g2,0,none⟩):=by simpa using hq
 exact⟨by simp,.inl ⟨_,_,rfl,run_takeDeferred hK,_,by simp[results,h,hp',hq',asAddr,hx,hy],hR⟩⟩
theorem ld123 (w:World) (p:Addr) (v:Value) (h:w.cell? p=some v):(loadVar 123 p).run Tryz.prog w=.ok v w:=by go_simp
theorem ld55 (w:World) (p:Addr) (v:Value) (h:w.cell? p=some v):(loadVar 55 p).run Tryz.prog w=.ok v w:=by go_simp
theorem z143:(Value.agg (zX ⟨[],[],zQ,[],zL⟩).toArray).cells.size=68:=by kernel_rfl
theorem wpListIn_bx1 {F:Fence} {nF:Nat} {α:Type} {enc:α->List Value} {k:Nat} {d:α} {w:World} {ops:Array Oper} {rest:List Oper} {o:Oper} {a:Act} {Q:Exit->Act->World->Prop} (hgd:o.guard=none) (s x:Operand) (t e:TypeId) (hu:Tryz.prog.underlying t=some (.slice e)) {z:Value} {by_:Nat} (hin:(Tryz.prog.info? e).map (fun i=>(i.zero,i.size,i.bytes))=some (some z,k,by_)) (hz:z.cells.size=k) (hk:0<k) (hby:by_<=300)
  (hone:∀ x,∀ v ∈ enc x,v.oneCell'=true)
  (ho:o.op=.call { callee:=.builtin .append,args:=#[s,x],argTypes:=#[t,t] }) (B:Nat) (v:Value) (l:List α) (hs:a.eval s=v) (h:w.ownsRow B e k v l.length (l.flatMap enc)) (hB:B<=w.heap.size)
  (b off cx:Nat) (y:α) (hx:a.eval x=.slice (some ⟨b,off,none⟩) 1 cx) (hP:Px enc k d w (some ⟨b,off,none⟩) cx [y]) (hw:(enc y).length=k) (hl:l.length+1<=1000000000)
  (hK:∀ v' w',w'.ownsRow B e k v' (l.length+1) (l.flatMap enc++enc y)->Mv w w' v v'->wpListIn F nF Tryz.prog ops Q rest (a.put o.dst v') w'):wpListIn F nF Tryz.prog ops Q (o :: rest) a w:=by
 obtain⟨i,hi,hz0,hz1,hz2⟩:=qu hin
 have hc:=hP.cells hk (fun q hq=>by rw[List.mem_singleton.1 hq];exact hw)
 simp only[List.flatMap_cons,List.flatMap_nil,List.append_nil] at hc
 refine wpListIn_append_own_at w hgd s x t ho B e i z k by_ hu hi hz0 hz1 hz2 hz hk v _ _ hs h ⟨b,off,none⟩ 1 cx (enc y) hx (by rw[hw];simp) hc (hone y) (by unfold maxLen;omega) (by have h2:=Nat.mul_le_mul hl hby;exact Nat.le_trans h2 (by decide)) hB ?_
 intro v' w' h1 h2 h3 h4
 exact hK v' w' h1 (Mv.app ⟨rfl,rfl,rfl,Nat.le_refl _,fun _ _ _=>rfl⟩ h2 h4)
def Post137 (ss:List Sp) (w:World) (e:Ending) (w':World):Prop:=(∃ v,e=.returned (.tuple #[v,.nilIface])/\w'.ownsRow w.heap.size 143 68 v ss.length ((ss.map cnS).flatMap zX))/\Below w.heap.size w w'
set_option maxRecDepth 100000 in
theorem readSteps_any (a:Option Addr) (c:Nat) (ss:List Sp) (w:World) (hP:PB w a c (wrL ss)) (hpa:∀ p:Addr,a=some p->p.block<w.heap.size) (hok:∀ s ∈ ss,StC s) (hl:(wrL ss).length<=290000000) (hns:ss.length<=1000000) (ht:Tab w) (her:Ers w) (hmx:Mx w) :
  Calls Tryz.prog 137 #[.slice a (wrL ss).length c] w (Post137 ss w):=by
 obtain⟨r,HR⟩:=nm_ w.heap.size
 obtain⟨n,hn⟩:∃ n,(wrL ss).length=n:=⟨_,rfl⟩
 obtain⟨i143,hq,hz0,hz1,hz2⟩:=qu j4
 have HI:=hid hq
 have HZ0:=hid hz0
 have HZ1:=hid hz1
 have HZ2:=hid hz2
 have HOK:=hid hok
 have HGL:Hid (∀ W,Below w.heap.size w W->Tab W/\Ers W/\Mx W):=fun W hb=>⟨ht.below hb,her.below hb,hmx.below hb⟩
 have HP:=hid hP
 have HPA:=hid hpa
 have HNS:=hid hns
 have HL:=hid hl
 have HN:=hid hn
 rw[hn]
 clear hq hz0 hz1 hz2 hok ht her hmx hP hpa hns hl hn
 refine(callsIn_wide (n:=3)).1 ?_
 refine callsIn_of_wp_marks Tryz.func137 rfl trivial ?_ rfl
 simp only[Tryz.ntmps137,List.size_toArray,List.length_cons,List.length_nil,Nat.reduceAdd,Nat.reduceSub,Array.replicate_succ,Array.replicate_zero,List.push_toArray,List.append_toArray,List.nil_append,List.cons_append]
 gi_wp2_with (refine⟨trivial,?_⟩;gi_at_call 166;refine(callsIn_wide.2 (lines166 _ _ rfl)).mono ?_;rintro ev w1 ⟨rfl,rfl⟩)
 obtain⟨WL,HWL⟩:=nm_ ((((w.alloc (Obj.cells #[Value.slice none 0 0] 123)).alloc (Obj.cells #[Value.nilIface] 55)).alloc (Obj.cells #[Value.slice none 0 0] 123)).alloc (Obj.cells #[Value.slice a n c] 60))
 rw[HWL.out,HR.out]
 obtain⟨WR,HWR⟩:=nm_ ((w.alloc (Obj.cells #[Value.slice none 0 0] 123)).alloc (Obj.cells #[Value.nilIface] 55))
 have hsR:WR.heap.size=r+1+1:=by rw[<-HWR.out,<-HR.out];simp
 have hbR:Below r w WR:=by rw[<-HWR.out,<-HR.out];exact((Below.refl _ w).alloc (Nat.le_refl _) _).alloc (by simp) _
 have hgR:WR.grownBy WL none:=by rw[<-HWL.out,HWR.out];exact(Z2 _ _).trans (Z2 _ _)
 have HBW:Hid (∀ W u,Mv WR W (.slice none 0 0) u->Below w.heap.size w W):=fun W u hm=>by
  rw[HR.out]
  exact hbR.trans ((hm.below (fun k hk=>by cases hk) (Nat.le_refl _)).mono (by rw[hsR];omega))
 have HR0:Hid (WR.heap[r]? = some (.cells #[.slice none 0 0] 123 (0,0))/\WR.heap[r+1]? = some (.cells #[.nilIface] 55 (0,0))):=hid ⟨by
  rw[<-HWR.out,<-HR.out,heap_alloc_old _ _ (by simp)];exact heap_alloc_new _ _,by
  have:=heap_alloc_new (w.alloc (Obj.cells #[Value.slice none 0 0] 123)) (Obj.cells #[Value.nilIface] 55)
  rw[HWR.out] at this
  simpa [HR.out] using this⟩
 have hbw:Below r w WL:=by rw[<-HWL.out,<-HR.out];exact((((Below.refl _ w).alloc (Nat.le_refl _) _).alloc (by simp) _).alloc (by simp;omega) _).alloc (by simp;omega) _
 have hsz:WL.heap.size=r+1+1+1+1:=by rw[<-HWL.out,<-HR.out];simp
 have bS:Boxed WL (r+1+1+1) 60 (.slice a n c):=by
  have:=Boxed.new (((w.alloc (Obj.cells #[Value.slice none 0 0] 123)).alloc (Obj.cells #[Value.nilIface] 55)).alloc (Obj.cells #[Value.slice none 0 0] 123)) 60 (.slice a n c)
  rw[HWL.out] at this
  simpa [HR.out] using this
 have bX:Boxed WL (r+1+1) 123 (.slice none 0 0):=by
  have h1:=Boxed.new ((w.alloc (Obj.cells #[Value.slice none 0 0] 123)).alloc (Obj.cells #[Value.nilIface] 55)) 123 (.slice none 0 0)
  have h2:=h1.kept (Z2 _ (Obj.cells #[Value.slice a n c] 60)) (by simp)
  rw[HWL.out] at h2
  simpa [HR.out] using h2
 have hno:∀ k,¬ Ob (r+1+1) WL k:=fun k ⟨u,h1,h2⟩=>by rw[bX.cell] at h1;cases h1;cases h2
 have hM0:Mv WR WL (.slice none 0 0) (.slice none 0 0):=Mv.grow _ hgR
 have hI0:RsI WR (r+1+1) WL.heap.size [] WL:=⟨_,bX,World.ownsRow_nil _ _ _ _,hM0⟩
 have hKi:Ki (r+1+1) (r+1+1+1) a WL WL:=⟨⟨by omega,by omega,hno _⟩,fun p hp=>by
  have h1:=HPA.out p hp
  have h2:=HR.out
  exact⟨rfl,⟨by omega,by omega,hno _⟩,by omega⟩,by omega⟩
 have hPL:PB WL a c (fL lnS ss):=HP.out.below (by rw[HR.out];exact hbw)
 have hbS2:Boxed WL (r+1+1+1) 60 (.slice a (fL lnS ss).length c):=by rw[fl_wrL,HN.out];exact bS
 have hr:=HR.out
 refine range_allA (F:=Fence.wide) (n:=3) rfl (by omega) (gf:=198) (lb:=#[.pointer (some ⟨r+1+1+1,0,none⟩)]) rfl trivial (enters_of Tryz.func198 (by kernel_rfl) rfl) (Bs:=r+1+1+1) (by omega)
  (lines_all 2 (by omega) WL (r+1+1) (r+1+1+1) a c lnS ss (fun s hs=>ln_no (HOK.out s hs).st) hPL (by rw[fl_wrL];have:=HL.out;omega) hbS2 hKi)
  (fun _=>rfl) Kx.trans (fun l W r' r'' hl _=>Kx.loop (r:=r') (by omega)) (fun l W r' r'' x hl hr hf=>?fl)
  (RsI WR (r+1+1) WL.heap.size) (fun s A C h hg=>RsI.grow s A C h hg) (fun s A C h hg=>RsI.turn (by omega) (by omega) (by omega) s A C h hg) (fun s l W r' r'' hl hr h=>RsI.put (n:=WL.heap.size) (by omega) (by omega) s l W r' r'' hl hr h) hI0
  (fun x W=>{ tmps:=#[.slice a n c,undef,.pointer (some ⟨r,0,none⟩),.pointer (some ⟨r+1,0,none⟩),.pointer (some ⟨r+1+1,0,none⟩),x.1,undef,.slice a n c,.func (.func 198) #[] #[.pointer (some ⟨r+1+1+1,0,none⟩)],x.1,undef,undef,undef,undef,undef,undef,undef,undef,undef,undef,undef,undef,undef,undef,undef,undef,undef,undef,undef],defers:=[] }) (fun x W=>W) ?_ ?_ (fun x W h=>h) ?assign ?body ?done
 case fl =>
  obtain⟨h1,a',h2,h3⟩:=hf
  refine⟨h1,a',h2,h3.capl,fun h0=>?_,h3.nil⟩
  obtain⟨b,off,e1,e2,e3⟩:=h3.at_ h0
  refine⟨b,off,e1,by rw[World.putObj_size];exact e2,fun i hi j v hv=>?_⟩
  by_cases hbl:b=l
  ·subst hbl
   exfalso
   have h5:=e3 0 h0 0 _ rfl
   simp[World.cell?,hr] at h5
  ·rw[World.cell?_of_block (a:=⟨b,off+i*1+j,none⟩) (World.putObj_heap_other hbl)]
   exact e3 i hi j v hv
 ·intro x W;exact⟨rfl,rfl,rfl,Nat.le_refl _,fun _ _ _=>rfl⟩
 ·intro l x W h1 h2;exact Kx.refl _ _ _
 case assign =>
  intro l x W K _ hK
  dsimp only
  gi_wp2
  exact hK
 case body =>
  rintro l pre ⟨xv,s⟩ W0 W hlX hlW0 hoth ⟨u,b1,o1,m1⟩ ⟨hxm,a',hx1,hpb⟩ hlen hlW hsW
  simp only at hx1 hxm hpb
  subst hx1
  have hst:=HOK.out s hxm
  have hbW:Below w.heap.size w W:=HBW.out W _ m1
  have hlX':r+1+1+1+1<=l:=by omega
  obtain⟨N,HNn⟩:=nn_ pre.length
  obtain⟨L,HLl⟩:=nn_ ((pre.map fun x=>cnS x.2).flatMap zX)
  have hN9:N<=400000000:=by rw[HNn.out];omega
  obtain⟨ua,uc,hus⟩:=zZ o1
  rw[<-HNn.out] at hus
  subst hus
  rw[show pre.length=(pre.map fun x=>cnS x.2).length by rw[List.length_map]] at o1
  have HNL:Hid ((pre.map fun x=>cnS x.2).length=N):=hid (by rw[List.length_map,HNn.out])
  have HLN:Hid ((pre.map fun x=>cnS x.2).length+1<=1000000000):=hid (by rw[HNL.out];omega)
  have HSZ4:Hid (∀ w4:World,W.grownBy w4 none->WL.heap.size<=(w4.alloc (.cells (zX (cnS s)).toArray 143)).heap.size):=fun w4 hg=>by have:=hg.size;simp;omega
  have HPX4:Hid (∀ W:World,Px zX 68 dS (W.alloc (.cells (zX (cnS s)).toArray 143)) (some ⟨W.heap.size,0,none⟩) 1 [cnS s]):=fun W=>by
   have:=yu (enc:=zX) (d:=dS) W (cnS s) 143
   rw[zJ (Xu hst.st)] at this
   exact this
  have HEL:Hid ((zX (cnS s)).length=68):=hid (zJ (Xu hst.st))
  have hcv:=Qj hpb
  obtain⟨m,hm⟩:∃ m,(lnS s++[10]).length=m:=⟨_,rfl⟩
  rw[hm] at hcv
  have hll:=ln_len hst.st
  have C168:=trim_any (lnS s) (by omega) W
  have C167:=stepOf_any s hst.st W (HGL.out W hbW).2.1 (HGL.out W hbW).2.2
  obtain⟨BL,hBL⟩:∃ BL,zX (cnS s)=BL:=⟨_,rfl⟩
  have hB68:BL.length=68:=by rw[<-hBL];exact zJ (Xu hst.st)
  have HMX4:Hid (∀ w2,Below W.heap.size W w2->Mx (w2.alloc (.cells BL.toArray 143))):=fun w2 h2=>(HGL.out _ ((hbW.trans (h2.mono hbW.size)).alloc (Nat.le_trans hbW.size h2.size) _)).2.2
  have C169:=fun w2 (h2:Below W.heap.size W w2)=>stepCan_any hst (w2.alloc (.cells BL.toArray 143)) (HMX4.out w2 h2)
  rw[hBL] at C167 C169 HPX4 HSZ4
  have HBS:Hid (∀ W:World,(Instr.buildSlice 123 1 #[(0,.agg BL.toArray)]).run Tryz.prog W=.ok (.slice (some ⟨W.heap.size,0,none⟩) 1 1) (W.alloc (.cells BL.toArray 143))):=fun W=>by rw[<-hBL];exact vj _ (Xu hst.st) W
  have HI68:Hid ((Tryz.prog.info? 143).map (·.size)=some BL.toArray.size):=hid (by rw[List.size_toArray,hB68];kernel_rfl)
  have HOB1:Hid (∀ v ∈ BL,v.oneCell'=true):=fun v hv=>qV (cnS s) v (by rw[hBL];exact hv)
  have HOB:Hid (BL.toArray.all (·.oneCell')=true):=hid (all_oneCell_toArray HOB1.out)
  have HZ68:Hid (68=BL.toArray.size):=hid (by rw[List.size_toArray,hB68])
  have hXne:some (r+1+1) ≠ (Value.slice ua N uc).ownBlock:=b1.not_row (by decide) o1
  have HKE:Hid (∀ w2 w4,Below W.heap.size W w2->Below (w2.alloc (.cells BL.toArray 143)).heap.size (w2.alloc (.cells BL.toArray 143)) w4->W.grownBy w4 none/\w4.heap[w2.heap.size]? = some (.cells BL.toArray 143)):=fun w2 w4 h2 h4=>by
   have h3:Below W.heap.size W (w2.alloc (.cells BL.toArray 143)):=h2.alloc h2.size _
   have h5:Below W.heap.size W w4:=h3.trans (h4.mono h3.size)
   exact⟨⟨h5.os,h5.tape,h5.output,h5.size,fun k hk _=>h5.block k hk⟩,(h4.block _ (by simp)).trans (heap_alloc_new _ _)⟩
  have HO1:=hid o1
  have HBX:=hid b1
  have HM1:=hid m1
  have HNR:Hid (∀ (W:World) (j:Nat) z,BL[j]? = some z->(W.alloc (.cells BL.toArray 143)).cell? ((⟨W.heap.size,0,none⟩:Addr).add j)=some z):=fun W j z hj=>news_rowE W BL 143 j z hj
  have HB68:=hid hB68
  have HBE:=hid hBL
  unfold sV at hcv C168 C167
  obtain⟨S1,HS1⟩:=nm_ (⟨(lnS s++[10]).toArray⟩:ByteArray)
  obtain⟨S2,HS2⟩:=nm_ (⟨(lnS s).toArray⟩:ByteArray)
  rw[HS1.out] at hcv C168
  rw[HS2.out] at C168 C167
  rw[hm]
  clear o1 b1 m1 hoth hpb hm hBL hB68 hst
  gi_wp2_with (first
   | (refine⟨trivial,?_⟩;gi_at_call 168;refine(CallsIn.inRound l (callsIn_wide.2 C168)).mono ?_;clear C168;rintro ev w1 ⟨rfl,hw1⟩;have hw1':=hw1.symm;subst hw1';clear hw1)
   | (refine⟨trivial,?_⟩;gi_at_call 167;refine(CallsIn.inRound l (callsIn_wide.2 C167)).mono ?_;clear C167;rintro ev w2 ⟨rfl,hb2⟩;have C169b:=C169 w2 hb2;have B2:=hid hb2;clear hb2 C169)
   | (refine wpListIn_newv rfl 143 (.tmp 6) (.tmp 13) rfl _ BL.toArray rfl rfl HI68.out (by rw[<-HZ68.out];rfl) HOB.out ?_)
   | (refine XZ rfl 143 (.tmp 6) rfl w2.heap.size BL.toArray 143 (0,0) _ rfl (heap_alloc_new w2 _) Tryz.underlying143 rfl HI68.out ?_)
   | (refine⟨trivial,?_⟩;gi_at_call 169;refine(CallsIn.inRound l (callsIn_wide.2 C169b)).mono ?_;clear C169b;rintro ev w4 ⟨rfl,hb4⟩;obtain⟨g4,k6⟩:=HKE.out w2 w4 B2.out hb4;have HB4:Hid (Boxed w4 (r+1+1) 123 (.slice ua N uc)):=hid (HBX.out.kept g4 (by simp));have kx4:=HB4.out.cell;have HO4:=hid (HO1.out.kept g4 (by cases e:(Value.slice ua N uc).ownBlock <;> simp));have HM4:=hid (HM1.out.trans (Mv.grow (.slice ua N uc) g4));have HG4:=hid g4;have K6:=hid k6;clear hb4 g4 k6)
   | (refine XZ rfl 143 (.tmp 6) rfl w2.heap.size BL.toArray 143 (0,0) _ rfl K6.out Tryz.underlying143 rfl HI68.out ?_)
   | (refine Y8 rfl 123 1 _ rfl (.agg BL.toArray) _ rfl (HBS.out _) ?_)
   | (gi_at_builtin;refine Hid.out ?_))
  refine hid ?_
  have HOA:=hid (HO4.out.alloc (.cells BL.toArray 143))
  refine wpListIn_bx1 (enc:=zX) (k:=68) (d:=dS) rfl _ _ 123 143 Zu j4 z143 (by decide) (by decide) qV rfl WL.heap.size (.slice ua N uc) (pre.map fun x=>cnS x.2) rfl ?_ ?_ w4.heap.size 0 1 (cnS s) rfl ?_ HEL.out HLN.out ?_
  ·exact HOA.out
  ·exact HSZ4.out w4 HG4.out
  ·exact HPX4.out w4
  intro v5 w5 ho5 hm5
  obtain⟨a5,c5,hv5⟩:=zZ ho5
  rw[HNL.out] at hv5
  subst hv5
  have HV5:Hid (Mv w4 w5 (.slice ua N uc) (.slice a5 (N+1:Nat) c5)):=hid ((Mv.grow _ (Z2 w4 (.cells BL.toArray 143))).trans hm5)
  have HW5:=hid ho5
  clear ho5 hm5
  have HB5:Hid (Boxed w5 (r+1+1) 123 (.slice ua N uc)):=(HV5.out.blk (r+1+1) HB4.out.lt hXne).trans HB4.out
  have kx5:=HB5.out.cell
  have fx5:=HB5.out.frozen
  simp only[Act.put,sL]
  gi_wp2
  have K1:=(show KeepsFrom WL.heap.size W w4 from ⟨HG4.out.size,fun k o _ hk hc=>(HG4.out.block k (z7 hk) (by simp)).trans hk⟩)
  have K2:=keeps_mv HB4.out HO4.out HV5.out WL.heap.size
  have X1:Kx (r+1+1) l W w4:=Kx.grow HBX.out.lt HG4.out
  have X2:Kx (r+1+1) l w4 (w5.setCell ⟨r+1+1,0,none⟩ (.slice a5 (N+1:Nat) c5)):=Kx.mv HB4.out HV5.out hXne (fun k hk=>(HW5.out.lt k hk).2)
  have hS3:some (r+1+1) ≠ (Value.slice a5 (N+1:Nat) c5).ownBlock:=Boxed.not_row HB5.out (by decide) HW5.out
  refine⟨by rw[<-hsz];exact K1.trans K2,X1.trans X2,_,Boxed.set _ HB5.out,?_,(HM4.out.trans HV5.out).store (by omega) _⟩
  have hW5:=HW5.out
  rw[HNL.out,hsz] at hW5
  rw[List.length_append,List.map_append,List.flatMap_append,<-HNn.out]
  simp only[List.length_singleton,List.map_cons,List.map_nil,List.flatMap_cons,List.flatMap_nil,List.append_nil]
  exact hW5.kept (grownBy_setCell' w5 (r+1+1) (.slice a5 (N+1:Nat) c5)) (.inr (Ne.symm hS3))
 case done =>
  rintro D xs W hD hS ⟨u,b1,o1,m1⟩ hK
  have HK:=hid hK
  have hbW:Below w.heap.size w W:=HBW.out W _ m1
  have hm:(xs.map fun x=>cnS x.2)=ss.map cnS:=by rw[<-hS,List.map_map];rfl
  have hlen:xs.length=(ss.map cnS).length:=by rw[List.length_map,<-hS,List.length_map]
  rw[hm,hlen] at o1
  obtain⟨ua,uc,hue,hPx,hpu⟩:=vV (d:=dS) o1 (fun x hx=>by
   obtain⟨s,hs,rfl⟩:=List.mem_map.1 hx
   exact zJ (Xu (HOK.out s hs).st))
  subst hue
  have hnm:(ss.map cnS).length=ss.length:=List.length_map ..
  have C87:=wsteps_any ua uc (ss.map cnS) W (HGL.out W hbW).1 hPx (fun x hx=>by
   obtain⟨s,hs,rfl⟩:=List.mem_map.1 hx
   exact cn_stl (HOK.out s hs).st) (by rw[wrL_cn ss (fun s hs=>(HOK.out s hs).st)];exact HL.out) (by rw[hnm];have:=HNS.out;omega)
  have HPW:Hid (∀ W2,Below W.heap.size W W2->PB W2 a c (wrL ss)):=fun W2 h2=>HP.out.below (hbW.trans (h2.mono hbW.size))
  have HC:Hid (∀ e w1,Post87 W (ss.map cnS) e w1->∃ va vc,e=.returned (.slice va n vc)/\Below W.heap.size W w1/\Calls Tryz.prog 165 #[.slice va n vc,.slice a n c] w1 fun e w'=>e=.returned (.bool true)/\w'=w1):=fun e w1 ⟨v,he,hB⟩=>by
   rw[wrL_cn ss (fun s hs=>(HOK.out s hs).st)] at hB
   obtain⟨va,vc,rfl,hpv,_⟩:=bb_pb hB
   refine⟨va,vc,by rw[he,HN.out],hB.below,?_⟩
   have:=equal_pb va vc (wrL ss) hpv a c (wrL ss) (HPW.out w1 hB.below)
   rw[HN.out,beq_self_eq_true] at this
   exact this
  have k0:=b1.cell
  have HFIN:Hid (∀ w1,Below W.heap.size W w1->w1.cell? ⟨r,0,none⟩=some (.slice none 0 0)/\w1.frozen? ⟨r,0,none⟩=false/\w1.cell? ⟨r+1,0,none⟩=some .nilIface/\w1.frozen? ⟨r+1,0,none⟩=false/\w1.cell? ⟨r+1+1,0,none⟩=some (.slice ua (ss.map cnS).length uc)):=fun w1 h1=>by
   have hr1:W.heap[r]? = some (.cells #[.slice none 0 0] 123 (0,0)):=(m1.blk r (by omega) (fun e=>by cases e)).trans HR0.out.1
   have hr2:W.heap[r+1]? = some (.cells #[.nilIface] 55 (0,0)):=(m1.blk (r+1) (by omega) (fun e=>by cases e)).trans HR0.out.2
   have q1:=(h1.block r (z7 hr1)).trans hr1
   have q2:=(h1.block (r+1) (z7 hr2)).trans hr2
   exact⟨by simp[World.cell?,q1],by simp[World.frozen?,q1],by simp[World.cell?,q2],by simp[World.frozen?,q2],(h1.cell (p:=⟨r+1+1,0,none⟩) b1.lt).trans k0⟩
  have HEND:Hid (∀ w1,Below W.heap.size W w1->w1.heap[D]? = some (.deferred (some []))/\∀ W3,W3=(w1.setCell ⟨r,0,none⟩ (.slice ua (ss.map cnS).length uc)).setCell ⟨r+1,0,none⟩ .nilIface->W3.heap[D]? = some (.deferred (some []))/\(W3.putObj D (.deferred none)).cell? ⟨r,0,none⟩=some (.slice ua (ss.map cnS).length uc)/\(W3.putObj D (.deferred none)).cell? ⟨r+1,0,none⟩=some .nilIface/\Post137 ss w (.returned (.tuple #[.slice ua (ss.map cnS).length uc,.nilIface])) (W3.putObj D (.deferred none))):=fun w1 h1=>by
   have hDl:=z7 HK.out
   have hd1:=(h1.block D hDl).trans HK.out
   refine⟨hd1,fun W3 hW3=>?_⟩
   obtain⟨f1,f2,f3,f4,f5⟩:=HFIN.out w1 h1
   have hD3:W3.heap[D]? = some (.deferred (some [])):=by
    rw[hW3,Below.heap_setCell _ _ _ D (show D ≠ r+1 by omega),Below.heap_setCell _ _ _ D (show D ≠ r by omega)]
    exact hd1
   have hc1:(w1.setCell ⟨r,0,none⟩ (.slice ua (ss.map cnS).length uc)).cell? ⟨r,0,none⟩=some (.slice ua (ss.map cnS).length uc):=World.cell?_setCell_same w1 _ _ f1
   have hc2:W3.cell? ⟨r,0,none⟩=some (.slice ua (ss.map cnS).length uc):=by
    rw[hW3,World.cell?_of_block (a:=⟨r,0,none⟩) (Below.heap_setCell _ _ _ r (show r ≠ r+1 by omega))]
    exact hc1
   have hc3:W3.cell? ⟨r+1,0,none⟩=some .nilIface:=by
    rw[hW3]
    refine World.cell?_setCell_same (u:=.nilIface) _ _ _ ?_
    rw[World.cell?_of_block (a:=⟨r+1,0,none⟩) (Below.heap_setCell _ _ _ (r+1) (show r+1 ≠ r by omega))]
    exact f3
   have hsz3:W3.heap.size=w1.heap.size:=by rw[hW3];simp[World.setCell]
   refine⟨hD3,?_,?_,⟨_,rfl,?_⟩,?_⟩
   ·rw[World.cell?_of_block (a:=⟨r,0,none⟩) (World.putObj_heap_other (show r ≠ D by omega))];exact hc2
   ·rw[World.cell?_of_block (a:=⟨r+1,0,none⟩) (World.putObj_heap_other (show r+1 ≠ D by omega))];exact hc3
   ·have ho:=xV o1 h1
    rw[hnm] at ho ⊢
    have ho3:W3.ownsRow WL.heap.size 143 68 (.slice ua ss.length uc) ss.length ((ss.map cnS).flatMap zX):=by
     rw[hW3]
     refine(ho.kept (grownBy_setCell' w1 r _) ?_).kept (grownBy_setCell' _ (r+1) _) ?_
     ·cases e:(Value.slice ua ss.length uc).ownBlock with
      | none=>exact .inl rfl
      | some k=>exact .inr (fun e2=>by cases e2;have:=(ho.lt _ e).1;omega)
     ·cases e:(Value.slice ua ss.length uc).ownBlock with
      | none=>exact .inl rfl
      | some k=>exact .inr (fun e2=>by cases e2;have:=(ho.lt _ e).1;omega)
    exact qk (ownsRow_putObj ho3 _ hD3 rfl) (by omega)
   ·have hb1:Below r w w1:=by rw[<-HR.out];exact hbW.trans (h1.mono hbW.size)
    refine⟨by rw[hW3];exact hb1.os,by rw[hW3];exact hb1.tape,by rw[hW3];exact hb1.output,by rw[World.putObj_size,hsz3];exact hb1.size,fun k hk=>?_⟩
    rw[HR.out] at hk
    rw[World.putObj_heap_other (show k ≠ D by omega),hW3,Below.heap_setCell _ _ _ k (show k ≠ r+1 by omega),Below.heap_setCell _ _ _ k (show k ≠ r by omega)]
    exact hb1.block k hk
  obtain⟨M,hM⟩:∃ M,(ss.map cnS).length=M:=⟨_,rfl⟩
  rw[hM] at k0 C87 HFIN HEND
  clear hPx o1 m1 hM hnm
  gi_wp2_with (first
   | (refine⟨trivial,?_⟩;gi_at_call 87;refine(callsIn_wide.2 C87).mono ?_;rintro ev w1 hp;obtain⟨va,vc,he,hbb,c165⟩:=HC.out _ _ hp;subst he;obtain⟨f1,f2,f3,f4,f5⟩:=HFIN.out w1 hbb;have HE1:=hid (HEND.out w1 hbb);clear hp hbb C87)
   | (refine⟨trivial,?_⟩;gi_at_call 165;refine(callsIn_wide.2 c165).mono ?_;rintro ev w2 ⟨rfl,hw2⟩;have hw2':=hw2.symm;subst hw2';clear hw2 c165))
  obtain⟨hd,hq⟩:=HE1.out
  obtain⟨g1,g2,g3,g4⟩:=hq _ rfl
  exact ret_c2 Tryz.results137 _ _ D r (r+1) _ _ rfl rfl g1 (ld123 _ _ _ g2) (ld55 _ _ _ g3) _ g4
end Go.Proofs.YtgliaiemkfopeaaGreatDoor.K
namespace Go.Proofs.YtgliaiemkfopeaaGreatDoor.K
open Go.RowKit
theorem Tryz.results105:Tryz.f105.results=#[.tmp 4,.tmp 5]:=by kernel_rfl
theorem own_k {w W:World} {B n:Nat} {v:Value} {xs:List Value} (h:w.ownsRow B 143 68 v n xs) (hk:∀ (i:Nat) (c:Array Value) (f:Nat × Nat),w.heap[i]? = some (.cells c 143 f)->W.heap[i]? = some (.cells c 143 f)):W.ownsRow B 143 68 v n xs:=by
 obtain⟨hl,h | ⟨g,cap,cur,hv,hb,hh,r⟩⟩:=h
 ·exact⟨hl,.inl h⟩
 ·exact⟨hl,.inr ⟨g,cap,cur,hv,hb,hk g _ _ hh,r⟩⟩
def Post105 (S:Nat->Prop) (g t n:Nat) (m:Rk.Tb Str Kp Le) (v:Value) (w:World) (e:Ending) (w':World):Prop := ∃ T',e=.returned (.tuple #[v,.nilIface])/\To S g w' t n T'/\aT T'=m/\Bg g w w'
set_option maxHeartbeats 2000000 in
theorem takeBlock_any (S:Nat->Prop) (g t n:Nat) (T:Ts) (a:Option Addr) (c:Nat) (ss:List Sp) (rest:Str) (w:World) (h:To S g w t n T) (hP:PB w a c (bkS (wrL ss)++rest)) (hpa:∀ p:Addr,a=some p->p.block<w.heap.size) (hok:∀ s ∈ ss,StC s) (hg:StG (aT T) (ss.map cnS)) (hn:n+ss.length<=80000) (hl:(wrL ss).length<=280000000) (hr:rest.length<=500000000) (ht:Tab w) (her:Ers w) (hmx:Mx w) (hdb:Db w) :
  Calls Tryz.prog 105 #[.map (some t),.slice a (bkS (wrL ss)++rest).length c] w (Post105 S g t (n+ss.length) (stF (aT T) (ss.map cnS)) (.slice (adX 1 a c (105+(wrL ss).length)) rest.length (c-(105+(wrL ss).length):Nat)) w):=by
 have hgw:g<=w.heap.size:=by have:=h.tt.tm.lt;have:=h.ge;omega
 have C136:=cut_any a c (wrL ss) rest w hP (by omega) (by omega) hdb
 have hbl:(bkS (wrL ss)).length=105+(wrL ss).length:=by unfold bkS;rw[List.length_append,uZ _ (by omega)]
 have hmid:=hP.mid 105 (105+(wrL ss).length) (by omega) (by rw[List.length_append,hbl];omega)
 have hml:((bkS (wrL ss)++rest).drop 105).take (105+(wrL ss).length-105)=wrL ss:=by
  have hhd:(hdS (wrL ss)).length=105:=uZ _ (by omega)
  unfold bkS
  rw[List.append_assoc,List.drop_append_of_le_length (by omega),List.drop_of_length_le (by omega),List.nil_append,show 105+(wrL ss).length-105=(wrL ss).length by omega,List.take_left]
 rw[hml] at hmid
 have HAD:Hid (∀ p:Addr,adX 1 a c 105=some p->p.block<w.heap.size):=fun p hp=>by
  unfold adX at hp
  split at hp
  ·exact hpa p hp
  ·cases a with
   | none=>cases hp
   | some q=>simp only[Option.map_some,Option.some.injEq] at hp;subst hp;exact hpa q rfl
 obtain⟨M,hM⟩:∃ M,(bkS (wrL ss)++rest).length=M:=⟨_,rfl⟩
 obtain⟨L,hL⟩:∃ L,(wrL ss).length=L:=⟨_,rfl⟩
 obtain⟨la,hla⟩:∃ l,adX 1 a c 105=l:=⟨_,rfl⟩
 obtain⟨lc,hlc⟩:∃ l,c-105=l:=⟨_,rfl⟩
 obtain⟨ra,hra⟩:∃ l,adX 1 a c (105+(wrL ss).length)=l:=⟨_,rfl⟩
 obtain⟨rc,hrc⟩:∃ l,c-(105+(wrL ss).length)=l:=⟨_,rfl⟩
 obtain⟨rl,hrl⟩:∃ l,rest.length=l:=⟨_,rfl⟩
 rw[hla,hlc] at hmid
 rw[hla] at HAD
 have C137:∀ W,Below w.heap.size w W->Calls Tryz.prog 137 #[.slice la L lc] W (Post137 ss W):=fun W hW=>by
  have:=readSteps_any la lc ss W (hmid.below hW) (fun p hp=>Nat.lt_of_lt_of_le (HAD.out p hp) hW.size) hok (by omega) (by omega) (ht.below hW) (her.below hW) (hmx.below hW)
  rw[hL] at this
  exact this
 obtain⟨N,HN⟩:=nm_ ss.length
 have hnN:n+N<=80000:=by rw[<-HN.out];exact hn
 have HLM:Hid ((ss.map cnS).length=N):=hid (by rw[List.length_map,HN.out])
 have HGS:=hid hg
 have H:=hid h
 have HOKS:Hid (∀ s ∈ ss.map cnS,vk s):=fun s hs=>by
  obtain⟨q,hq,rfl⟩:=List.mem_map.1 hs
  exact Xu (hok q hq).st
 rw[hM,hra,hrc,hrl,HN.out]
 rw[hM,hla,hlc,hra,hrc,hrl,hL] at C136
 have HGW:=hid hgw
 clear h hP hpa hok hg hn hl hr ht her hmx hdb hbl hmid hml HAD hM hL hla hlc hra hrc hrl hgw
 go_enter Tryz.func105,Tryz.ntmps105
 go_wp2_with (first
  | (go_at_call 136;refine C136.mono ?_;rintro e w1 ⟨rfl,hb1⟩;have C137b:=C137 w1 hb1;have B1:=hid hb1;clear hb1 C137 C136)
  | (go_at_call 137;refine C137b.mono ?_;rintro e w2 ⟨⟨v,rfl,ho⟩,hb2⟩;obtain⟨va,vc,hv⟩:=zZ ho;rw[HN.out] at hv;subst hv;have HO:=hid ho;have B2:Hid (Below w.heap.size w w2):=hid (B1.out.trans (hb2.mono B1.out.size));clear ho hb2 C137b))
 have HTO:Hid (To S g w2 t (n+0) T):=hid (H.out.below B2.out)
 have HBG0:Hid (Bg g w2 w2):=hid ⟨Below.refl _ _,fun _ _ _ h=>h⟩
 have HAT:Hid (aT T=stF (aT T) ((ss.map cnS).take 0)):=hid rfl
 have HPX:Hid (∀ W,Bg g w2 W->∃ b off,(0<N->va=some ⟨b,off,none⟩)/\∀ i,i<N->W.rangeAt b (off+i*68) (zX ((ss.map cnS).getD i dS))):=fun W hW=>by
  have ho:=own_k HO.out hW.k
  have ho2:W.ownsRow w1.heap.size 143 68 (.slice va N vc) (ss.map cnS).length ((ss.map cnS).flatMap zX):=by rw[List.length_map];exact ho
  obtain⟨a2,c2,e1,hpx,_⟩:=vV (d:=dS) ho2 (fun x hx=>zJ (HOKS.out x hx))
  by_cases h0:0<N
  ·obtain⟨b,off,e2,_,e3⟩:=hpx.at_ (by rw[HLM.out];exact h0)
   subst e2
   injection e1 with e4 _ _
   exact⟨b,off,fun _=>e4,fun i hi=>e3 i (by rw[HLM.out];exact hi)⟩
  ·exact⟨0,0,fun h=>absurd h h0,fun i hi=>by omega⟩
 clear B1
 go_loopg [31] N (fun q iv wr=>∃ (i:Nat) (Ti:Ts),iv=.int .i64 i/\q=N-i/\i<=N/\Hid (To S g wr t (n+i) Ti)/\Hid (aT Ti=stF (aT T) ((ss.map cnS).take i))/\Hid (Bg g w2 wr))
 case atStart=>exact⟨0,_,rfl,rfl,Nat.zero_le _,HTO,HAT,HBG0⟩
 case round =>
  obtain⟨i,Ti,rfl,hq2,hin,HTI,HAI,HBI⟩:=hrel
  by_cases hlt:i<N
  ·have hlti:(i:Int)<(N:Int):=by omega
   obtain⟨b,off,hae,hrg⟩:=HPX.out wr HBI.out
   have hae':=hae (by omega)
   subst hae'
   have e4:=hrg i hlt
   obtain⟨st,HST⟩:=nm_ ((ss.map cnS).getD i dS)
   obtain⟨hok,hso⟩:=StG.at (d:=dS) (ss.map cnS) _ HGS.out i (by rw[HLM.out];exact hlt)
   rw[HST.out] at hok hso e4
   rw[<-HAI.out] at hso
   obtain⟨BL,hBL⟩:∃ B,zX st=B:=⟨_,rfl⟩
   have hB68:BL.length=68:=by rw[<-hBL];exact zJ hok
   have HIB:Hid ((Tryz.prog.info? 143).map (·.size)=some BL.length):=hid (by rw[hB68];kernel_rfl)
   have HIB2:Hid ((Tryz.prog.info? 143).map (·.size)=some BL.toArray.size):=hid (by rw[List.size_toArray];exact HIB.out)
   have HOB:Hid (BL.toArray.all (·.oneCell')=true):=hid (all_oneCell_toArray (by rw[<-hBL];exact qV st))
   rw[hBL] at e4
   have HRG:=hid e4
   have htk:=fun W (hW:To S g W t (n+i) Ti)=>take_any S g t (n+i) Ti st W hW hok (by omega) hso
   rw[hBL] at htk
   have HBB:Hid (∀ W:World,Below W.heap.size W (W.alloc (.cells BL.toArray 143))):=fun W=>(Below.refl _ W).alloc (Nat.le_refl _) _
   have htk1:=htk _ (HTI.out.below (HBB.out _))
   have HFIN:Hid (∀ (T':Ts),aT T'=Rk.tk (aT Ti) (sP st)->aT T'=stF (aT T) ((ss.map cnS).take (i+1))):=fun T' he=>by rw[he,HAI.out,stF_snoc (aT T) (ss.map cnS) i (by rw[HLM.out];exact hlt) dS,HST.out]
   have HZ68:Hid (68=BL.toArray.size):=hid (by rw[List.size_toArray,hB68])
   have HGS2:Hid (∀ w7,Bg g (wr.alloc (.cells BL.toArray 143)) w7->Bg g w2 w7):=fun w7 h7=>HBI.out.trans (Bg.of (HBB.out wr) (by have:=HTI.out.tt.tm.lt;have:=HTI.out.ge;omega) h7)
   clear hok hso e4 hBL hB68 htk hrg hae
   go_wp2_with (first
    | (refine wpList_load_mid rfl 143 (.tmp 33) rfl _ _ rfl BL _ HRG.out Tryz.underlying143 rfl HIB.out ?_;go_frame)
    | (refine zq rfl 143 (.tmp 11) (.tmp 34) rfl _ BL.toArray rfl rfl HIB2.out (by rw[<-HZ68.out];rfl) HOB.out ?_;go_frame)
    | (refine zu rfl 143 (.tmp 11) rfl _ BL.toArray 143 (0,0) _ rfl (heap_alloc_new _ _) Tryz.underlying143 rfl HIB2.out ?_;go_frame)
    | (go_at_call 81;refine htk1.mono ?_;rintro e w7 ⟨rfl,⟨T',k1,k2⟩,k3⟩;have K1:=hid k1;have K2:=hid (HFIN.out T' k2);have K3:=hid (HGS2.out w7 k3);clear k1 k2 k3))
   go_roundg (N-(i+1))
   case measure=>omega
   case rel=>exact⟨i+1,T',by go_num,rfl,by omega,K1,K2,K3⟩
  ·have hlti:¬ (i:Int)<(N:Int):=by omega
   obtain rfl:i=N:=by omega
   have HF:Hid (aT Ti=stF (aT T) (ss.map cnS)):=hid (by rw[HAI.out,List.take_of_length_le (by rw[HLM.out];exact Nat.le_refl _)])
   have HBF:Hid (Bg g w wr):=hid (Bg.of B2.out HGW.out HBI.out)
   go_wp2
   exact bodyPost_ret (results_tmp2 Tryz.results105 _ _ _) rfl ⟨Ti,rfl,HTI.out,HF.out,HBF.out⟩
end Go.Proofs.YtgliaiemkfopeaaGreatDoor.K
