import Derived.Test.YtiaaekdpfpaigaaGreatDoorMn17
import Derived.Test.YtiaaekdpfpaigaaGreatDoorMn01
set_option linter.unusedSimpArgs false
set_option linter.unusedVariables false
set_option maxRecDepth 20000
set_option maxHeartbeats 4000000
open List renaming length_append->Wz6,length_take->Wzz,map_cons->Wxj,map_nil->Wxk
open Nat renaming le_refl->WzV
namespace Go.Proofs.YtiaaekdpfpaigaaGreatDoor.Id
open Go.Proofs.Tryz
open Go.RowKit
section
variable {P : Program} {ops : Array Oper} {o : Oper} {a : Act} {w : World} {K : Act → World → Prop} {Q : Exit → Act → World → Prop} {E : Prop}
theorem kK (hg:o.guard=none) (s x:Operand) (t:TypeId) (sv xv v:Value) (w2:World)
  (ho:o.op=.call { callee:=.builtin .append,args:=#[s,x],argTypes:=#[t,t] }) (hs:a.eval s=sv) (hx:a.eval x=xv) (hr:(Builtin.append_ #[t,t] o.type #[sv,xv]).run P w=.ok v w2) (h:K (a.put o.dst v) w2) :
  if Region.wanted o (yielded ops a.tmps)=true then Oper.wp P o a w K Q else E:=by
 have hw:Region.wanted o (yielded ops a.tmps)=true:=by simp[Region.wanted,hg]
 rw[if_pos hw];unfold Oper.wp execOp;simp only[ho,resolve,invoke,builtin,Sem.run_bind,Sem.run_pure,Result.andThen_ok,List.map_toArray,Wxj,Wxk,hs,hx,hr];exact h
theorem zz6 (hg:o.guard=none) (src dst:TypeId) (x:Operand) (xv v:Value) (w2:World)
  (ho:o.op=.convert src dst x) (hx:a.eval x=xv) (hr:(convert src dst xv).run P w=.ok v w2) (h:K (a.put o.dst v) w2) :
  if Region.wanted o (yielded ops a.tmps)=true then Oper.wp P o a w K Q else E:=by
 have hw:Region.wanted o (yielded ops a.tmps)=true:=by simp[Region.wanted,hg]
 rw[if_pos hw];unfold Oper.wp execOp;simp only[ho,Sem.run_bind,Sem.run_pure,Result.andThen_ok,hx,hr];exact h
theorem A9 (hg:o.guard=none) (f:FuncId) (s1:Tmp) (t1:TypeId) (v1 r:Value) (R:World->Prop)
  (ho:o.op=.call { callee:=.value (.func f),args:=#[.tmp s1],argTypes:=#[t1] }) (hx1:a.eval (.tmp s1)=v1) (hent:∀ (v1:Value) (w:World),(callFunc f #[v1]).run P w=.ok (.enter f #[v1]) w)
  (hc:Calls P f #[v1] w fun e w'=>e=.returned r/\R w') (h:∀ w',R w'->K (a.put o.dst r) w') :
  if Region.wanted o (yielded ops a.tmps)=true then Oper.wp P o a w K Q else E:=by
 have hw:Region.wanted o (yielded ops a.tmps)=true:=by simp[Region.wanted,hg]
 rw[if_pos hw];have h1':a.tmps[s1]?.getD undef=v1:=by simpa [Act.eval] using hx1
 unfold Oper.wp;simp[execOp,ho,resolve,invoke,go_sem];rw[h1',hent,Oper.upon_enter];refine hc.mono ?_;rintro e w' ⟨rfl,hr⟩;exact h w' hr
end
theorem zky (v:Value) (w:World):(callFunc 84 #[v]).run prog w=.ok (.enter 84 #[v]) w:=by kernel_rfl
def encZ (k:Int) (zs:List Int):List Int:=nums (hd k zs.length)++zs
def vw (k:Int) (n:Nat):Int:=if (kN k).toList.isEmpty=true then 20 else if 100000<n then 11 else 0
theorem zxw (k:Int) (n:Nat) (h:vw k n ≠ 0):WZ k n=.iface 42 (.int .i64 (vw k n)):=by
 unfold vw at h ⊢;unfold WZ;by_cases h1:(kN k).toList.isEmpty=true
 ·rw[if_pos h1,if_pos h1]
 rw[if_neg h1] at h;rw[if_neg h1,if_neg h1];by_cases h2:100000<n
 ·rw[if_pos (by omega),if_pos h2]
 rw[if_neg h2] at h;exact absurd rfl h
theorem Lv (k:Int) (n:Nat) (h:vw k n=0):WZ k n=.nilIface/\n<=100000:=by
 unfold vw at h;unfold WZ;by_cases h1:(kN k).toList.isEmpty=true
 ·rw[if_pos h1] at h;cases h
 rw[if_neg h1] at h;rw[if_neg h1];by_cases h2:100000<n
 ·rw[if_pos h2] at h;cases h
 exact⟨by rw[if_neg (by omega)],by omega⟩
def qqw (k:Int) (zs:List Int) (w:World) (e:Ending) (w':World):Prop :=
 Below w.heap.size w w'/\((vw k zs.length ≠ 0/\e=.returned (.tuple #[.slice none 0 0,.iface 42 (.int .i64 (vw k zs.length))])) ∨
  (vw k zs.length=0/\∃ g cap':Nat,e=.returned (.tuple #[.slice (some ⟨g,0,none⟩) (encZ k zs).length cap',.nilIface])/\w.heap.size<=g/\g<w'.heap.size/\At w' g 0 (encZ k zs)/\(encZ k zs).length<=cap'))
theorem Az (k:Int) (a:Option Addr) (cap:Nat) (zs:List Int) (w:World) (ht:Tab w) (hl:zs.length<=300000) (hS:Sl w a cap zs) :
  Calls prog 57 #[.agg #[.int .i64 k,.slice a zs.length cap]] w (qqw k zs w):=by
 obtain⟨n,HN⟩:=nm_ zs.length;have HF:Hid (∀ w,Calls prog 83 #[.agg #[.int .i64 k,.slice a n cap]] w fun e w'=>e=.returned (WZ k n)/\w'=w.alloc (.cells #[.int .i64 k,.slice a n cap] 27)):=fun w=>WQ k a n cap w;by_cases he:vw k n=0;rotate_left
 ·have hfv:=zxw k n he;rw[hfv] at HF;rw[HN.out];obtain⟨er,HER⟩:=nn_ (vw k n);rw[<-HER.out] at HF;have HB1:Hid (Below w.heap.size w ((w.alloc (.cells #[.int .i64 k,.slice a n cap] 27)).alloc (.cells #[.int .i64 k,.slice a n cap] 27))):=((Below.refl _ w).alloc (WzV _) _).alloc (by simp) _;go_enter func57,ntmps57
  go_wp2_with (go_at_call 83;refine(HF.out _).mono ?_;rintro ev w' ⟨rfl,rfl⟩)
  go_ret2;refine⟨HB1.out,.inl ⟨by rw[HN.out];exact he,?_⟩⟩;rw[HN.out,<-HER.out];rfl
 obtain⟨hfv,hn⟩:=Lv k n he;rw[hfv] at HF;obtain⟨g0,HG0⟩:=nm_ w.heap.size;obtain⟨w1,HW1⟩:=nm_ ((w.alloc (.cells #[.int .i64 k,.slice a n cap] 27)).alloc (.cells #[.int .i64 k,.slice a n cap] 27));have HB1:Hid (Below g0 w w1):=by rw[<-HW1.out,<-HG0.out];exact((Below.refl _ w).alloc (WzV _) _).alloc (by simp) _
 have hg1:g0<w1.heap.size:=by rw[<-HW1.out,<-HG0.out];simp;omega
 have hc0:w1.cell? ⟨g0,0,none⟩=some (.int .i64 k):=by rw[<-HW1.out,<-HG0.out];simp
 have hc1:w1.cell? ⟨g0,1,none⟩=some (.slice a n cap):=by rw[<-HW1.out,<-HG0.out];simp
 obtain⟨S,HSS⟩:=nn_ (⟨(hd k n).toArray⟩:ByteArray);obtain⟨m,HM⟩:=nm_ ((hd k n).length);have hm14:m<=14:=by
  have:=Lq k n (by omega);rw[<-HM.out,hd,Wz6,List.length_singleton];omega
 have HH:Hid (∀ W,Below w1.heap.size w1 W->Calls prog 84 #[.agg #[.int .i64 k,.slice a n cap]] W fun e w'=>e=.returned (.string S)/\Below w1.heap.size w1 w'):=fun W hW=>by
  rw[HSS.out];refine(A6 k a n cap (by omega) W (ht.below (Below.trans (by rw[HG0.out];exact HB1.out) (hW.mono (by rw[HG0.out];omega))))).mono ?_;rintro e w' ⟨rfl,hb⟩;exact⟨rfl,hW.trans (hb.mono hW.size)⟩
 have HCA:Hid (∀ w2,Below w1.heap.size w1 w2->∃ (c3:Nat) (w3:World) (g' cap':Nat) (w4:World),(convert 9 22 (.string S)).run prog w2=.ok (.slice (some ⟨w2.heap.size,0,none⟩) m c3) w3/\
   (Builtin.append_ #[22,22] 22 #[.slice (some ⟨w2.heap.size,0,none⟩) m c3,.slice a n cap]).run prog w3=.ok (.slice (some ⟨g',0,none⟩) (m+n:Nat) cap') w4/\w3.cell? ⟨g0,1,none⟩=some (.slice a n cap)/\
   Hid (Below g0 w w4/\g0<=g'/\g'<w4.heap.size/\At w4 g' 0 (encZ k zs)/\m+n<=cap')):=fun w2 h2=>by
  obtain⟨c3,w3,hr3,hm3,hb3,hs3⟩:=zkw (hd k n) w2
  rw[HM.out,<-HSS.out] at hr3
  have hb23:Below g0 w w2:=HB1.out.trans (h2.mono (by omega))
  have h2s:=h2.size
  have hb03:Below g0 w w3:=hb23.trans (hb3.mono (by omega))
  obtain⟨g',cap',w4,hr4,hat,hcap,hlt,hg,hgr⟩:=qx0 w3 w2.heap.size c3 (nums (hd k n)) zs a cap hm3 (hS.below (by rw[HG0.out];exact hb03)) (by rw[xk,HM.out];omega)
  rw[xk,HM.out,HN.out] at hr4
  refine⟨c3,w3,g',cap',w4,hr3,hr4,(hb3.cell (p:=⟨g0,1,none⟩) (show g0<w2.heap.size by omega)).trans ((h2.cell (p:=⟨g0,1,none⟩) hg1).trans hc1),hb03.grown hgr (by omega) (fun q hq=>by cases hq;omega),by omega,hlt,?_,?_⟩
  ·unfold encZ;rw[HN.out];exact hat
  ·rw[xk,HM.out,HN.out] at hcap;exact hcap
 rw[HN.out];go_enter func57,ntmps57;go_wp2_with (go_at_call 83;refine(HF.out _).mono ?_;rintro ev w' ⟨rfl,rfl⟩)
 rw[HW1.out,HG0.out];clear ht hS;go_region_law (first
  | (refine A9 (by rfl) 84 10 27 (.agg #[.int .i64 k,.slice a n cap]) (.string S) (fun w'=>Below w1.heap.size w1 w') (by rfl) (by rfl) zky (HH.out _ ⟨rfl,rfl,rfl,WzV _,fun _ _=>rfl⟩) ?_;intro w2 hb2;have hc2:w2.cell? ⟨g0,1,none⟩=some (.slice a n cap):=(hb2.cell (p:=⟨g0,1,none⟩) hg1).trans hc1;obtain⟨c3,w3,g',cap',w4,hr3,hr4,hc3,HE⟩:=HCA.out w2 hb2;clear hb2)
  | (refine zz6 (by rfl) 9 22 _ _ _ _ (by rfl) (by rfl) hr3 ?_)
  | (refine kK (by rfl) _ _ 22 _ _ _ _ (by rfl) (by rfl) (by rfl) hr4 ?_))
 all_goals
  go_wp2;go_ret2;obtain⟨e1,e2,e3,e4,e5⟩:=HE.out;have hlen:(encZ k zs).length=m+n:=by unfold encZ;rw[Wz6,xk,HN.out,HM.out]
  refine⟨by rw[HG0.out];exact e1,.inr ⟨by rw[HN.out];exact he,g',cap',?_,by rw[HG0.out];exact e2,e3,e4,by omega⟩⟩;rw[hlen];rfl
theorem Sl.take {w:World} {a:Option Addr} {cap:Nat} {l:List Int} (h:Sl w a cap l) (i:Nat):Sl w a cap (l.take i) :=
 ⟨by have:=h.capl;rw[Wzz];omega,fun h0=>by
  rw[Wzz] at h0
  obtain⟨b,off,e1,e2,e3⟩:=h.at_ (by omega)
  refine⟨b,off,e1,e2,fun j hj=>?_⟩
  rw[Wzz] at hj
  rw[e3 j (by omega)]
  simp[List.getD_eq_getElem?_getD,List.getElem?_take,show j<i by omega],h.nil⟩
theorem Mk.sl {w:World} {g cap:Nat} {xs:List Int} (h:Mk w g cap xs):Sl w (some ⟨g,0,none⟩) cap xs:=⟨h.capl,fun _=>⟨g,0,rfl,h.lt,h.at_⟩,fun e=>by cases e⟩
theorem Vw {w:World} {g:Nat} {a b c d e:Int} {t:TypeId} {fr:Nat × Nat} (h:w.heap[g]? = some (.cells #[.int .u32 a,.int .u32 b,.int .u32 c,.int .u32 d,.int .u32 e] t fr)) :
  w.cell? ⟨g,0,none⟩=some (.int .u32 a)/\w.cell? ⟨g,1,none⟩=some (.int .u32 b)/\w.cell? ⟨g,2,none⟩=some (.int .u32 c)/\w.cell? ⟨g,3,none⟩=some (.int .u32 d)/\w.cell? ⟨g,4,none⟩=some (.int .u32 e):=by
 refine⟨?_,?_,?_,?_,?_⟩ <;> (rw[cell_of_row w g _ _ t fr h];rfl)
theorem below_drewN' (B:Nat) {w0 w:World} (n:Nat) (h:Below B w0 w):Below B w0 (w.drewN n):=h.trans ⟨rfl,rfl,rfl,WzV _,fun _ _=>rfl⟩
theorem Uz (w:World) (g:Nat) (t:TypeId) (z0 z1 z2 z3 z4 v0 v1 v2 v3 v4:Value) (h:w.heap[g]? = some (.cells #[z0,z1,z2,z3,z4] t (0,0))) :
  (w.setCells g 0 [v0,v1,v2,v3,v4]).heap[g]? = some (.cells #[v0,v1,v2,v3,v4] t (0,0)):=by
 have h1:=heap_setCell_same w g 0 _ _ v0 h;have h2:=heap_setCell_same _ g 1 _ _ v1 h1;have h3:=heap_setCell_same _ g 2 _ _ v2 h2;have h4:=heap_setCell_same _ g 3 _ _ v3 h3;exact heap_setCell_same _ g 4 _ _ v4 h4
theorem Lw (w:World) (g nq nn:Nat) (t:TypeId) (a b c d e y z:Value) (h:w.heap[g]? = some (.cells #[a,b,c,d,e] t (0,0))) :
  ((((((((w.drewN nq).setCell ⟨g,4,none⟩ d).setCell ⟨g,3,none⟩ c).drewN nn).setCell ⟨g,2,none⟩ z).setCell ⟨g,1,none⟩ a).setCell ⟨g,0,none⟩ y)).heap[g]? = some (.cells #[y,a,z,c,d] t (0,0)):=by
 have h1:=heap_setCell_same (w.drewN nq) g 4 _ _ d h;have h2:=heap_setCell_same _ g 3 _ _ c h1;have h3:=heap_setCell_same (((((w.drewN nq).setCell ⟨g,4,none⟩ d).setCell ⟨g,3,none⟩ c).drewN nn)) g 2 _ _ z h2;have h4:=heap_setCell_same _ g 1 _ _ a h3;exact heap_setCell_same _ g 0 _ _ y h4
theorem jQ {B:Nat} {w0 w:World} (g nq nn:Nat) (a c d y z:Value) (hg:B<=g) (h:Below B w0 w) :
  Below B w0 ((((((((w.drewN nq).setCell ⟨g,4,none⟩ d).setCell ⟨g,3,none⟩ c).drewN nn).setCell ⟨g,2,none⟩ z).setCell ⟨g,1,none⟩ a).setCell ⟨g,0,none⟩ y)):=by
 have h1:=below_drewN' B nq h;have h2:=h1.setCell (p:=⟨g,4,none⟩) hg d;have h3:=h2.setCell (p:=⟨g,3,none⟩) hg c;have h4:=below_drewN' B nn h3;have h5:=h4.setCell (p:=⟨g,2,none⟩) hg z;have h6:=h5.setCell (p:=⟨g,1,none⟩) hg a;exact h6.setCell (p:=⟨g,0,none⟩) hg y
def Qy (l m:List Int) (j:Nat):List Int:=(List.range 5).map fun i=>if i<j then (l.getD i 0+m.getD i 0) % 4294967296 else l.getD i 0
theorem T8 (l m:List Int) (j:Nat):(Qy l m j).length=5:=by simp[Qy]
theorem Aq (l m:List Int) (j:Nat) (h:j<5):Qy l m (j+1)=(Qy l m j).set j ((l.getD j 0+m.getD j 0) % 4294967296):=by
 apply List.ext_getElem (by simp[Qy]);intro i h1 h2;rw[List.getElem_set];simp only[Qy,List.getElem_map,List.getElem_range];by_cases e:j=i
 ·subst e;rw[if_pos (by omega),if_pos rfl]
 rw[if_neg e];by_cases h:i<j
 ·rw[if_pos (by omega),if_pos h]
 rw[if_neg (by omega),if_neg h]
theorem zz7 (l m:List Int) (j:Nat) (h:j<5):(Qy l m j).getD j 0=l.getD j 0:=by simp[Qy,h]
theorem Ax (s t:S5):Qy s.l t.l 5=(plus s t).l:=rfl
theorem qqy (s:S5) (h:s.ok):IsW s.l:=by
 obtain⟨h1,h2,h3,h4,h5⟩:=h;intro x hx;simp only[S5.l,List.mem_cons,List.not_mem_nil,or_false] at hx;rcases hx with rfl | rfl | rfl | rfl | rfl <;> assumption
theorem zz8 (s:S5) (b off cap:Nat) (zs:List Int) (w:World) (hs:s.ok) (hl:zs.length=64) (hz:IsB zs) (hat:At w b off zs) (hbw:b<w.heap.size) :
  Calls prog 52 #[.agg (row .u32 s.l).toArray,.slice (some ⟨b,off,none⟩) 64 cap] w fun e w'=>e=.returned (.agg (row .u32 (U9 s zs).l).toArray)/\Below w.heap.size w w':=by
 obtain⟨a0,b0,c0,d0,e0⟩:=s;have HS:Hid (S5.ok ⟨a0,b0,c0,d0,e0⟩):=hs;clear hs;simp only[S5.l,row,Wxj,Wxk];obtain⟨zr,HZ⟩:=nn_ ((row .u32 z80).toArray);have hzv:=A4;rw[<-HZ.out] at hzv
 have H3:Hid (_/\_):=Yu w (.cells #[.int .u32 a0,.int .u32 b0,.int .u32 c0,.int .u32 d0,.int .u32 e0] 124) (.cells #[.int .u32 0,.int .u32 0,.int .u32 0,.int .u32 0,.int .u32 0] 124) (.cells zr 165)
 have HB0:Hid (Below w.heap.size w (((w.alloc (.cells #[.int .u32 a0,.int .u32 b0,.int .u32 c0,.int .u32 d0,.int .u32 e0] 124)).alloc (.cells #[.int .u32 0,.int .u32 0,.int .u32 0,.int .u32 0,.int .u32 0] 124)).alloc (.cells zr 165))):=(((Below.refl _ w).alloc (WzV _) _).alloc (by simp) _).alloc (by simp;omega) _;go_enter func52,ntmps52;go_wp2
 go_loopg [6] 16 (fun k i wr=>∃ j:Nat,j<=16/\k=16-j/\i=.int .i64 j/\Hid (wr.heap[w.heap.size+1+1]? = some (.cells (row .u32 (rAt zs j)).toArray 165 (0,0)))/\Hid (wr.heap[w.heap.size+1]? = some (.cells #[.int .u32 0,.int .u32 0,.int .u32 0,.int .u32 0,.int .u32 0] 124 (0,0)))/\Hid (wr.heap[w.heap.size]? = some (.cells #[.int .u32 a0,.int .u32 b0,.int .u32 c0,.int .u32 d0,.int .u32 e0] 124 (0,0)))/\Hid (Below w.heap.size w wr)/\Hid (w.heap.size+1+1<wr.heap.size))
 case atStart=>exact⟨0,by omega,rfl,rfl,hid (by rw[zx5,H3.out.2,HZ.out];rfl),H3.out.1.2,H3.out.1.1,HB0,hid (by simp)⟩
 obtain⟨j,hj,hk,rfl,H2,H1,H0,HB,HZ1⟩:=hrel;by_cases hlt:j<16
 ·have hat':At wr b off zs:=fun i hi=>(HB.out.cell (p:=⟨b,off+i,none⟩) hbw).trans (hat i hi);have hnum:=fun w1 (h:At w1 b off zs)=>BY b off cap j zs w1 hl hz hlt h;rw[<-val4] at hnum;have hc:wr.cell? ⟨w.heap.size+1+1,j,none⟩=some (.int .u32 ((rAt zs j).getD j 0)):=zy H2.out j (by rw[FK];omega);have hfz:=frozen_of_row wr (w.heap.size+1+1) j _ 165 H2.out
  go_wp2_with (go_at_call 80;refine(hnum _ hat').mono ?_;rintro e w' ⟨rfl,nn,rfl⟩)
  go_roundg (16-(j+1));case measure=>omega
  refine⟨j+1,by omega,rfl,by go_num,hid ?_,hid ?_,hid ?_,(below_drewN' _ _ HB.out).setCell (by simp <;> omega) _,hid (by have:=HZ1.out;simpa [World.setCell] using this)⟩
  ·rw[heap_setCell_same (wr.drewN nn) _ _ _ _ _ H2.out,zx6 zs j hlt,uv]
  ·rw[heap_setCell_other (wr.drewN nn) _ _ _ (by simp)];exact H1.out
  rw[heap_setCell_other (wr.drewN nn) _ _ _ (by simp <;> omega)];exact H0.out
 obtain rfl:j=16:=by omega
 rw[qyV] at H2;go_wp2
 go_loopg [7] 64 (fun k i wr=>∃ j:Nat,j<=64/\k=64-j/\i=.int .i64 (16+j:Nat)/\Hid (wr.heap[w.heap.size+1+1]? = some (.cells (row .u32 (Jk (wAt zs 64) j)).toArray 165 (0,0)))/\Hid (wr.heap[w.heap.size+1]? = some (.cells #[.int .u32 0,.int .u32 0,.int .u32 0,.int .u32 0,.int .u32 0] 124 (0,0)))/\Hid (wr.heap[w.heap.size]? = some (.cells #[.int .u32 a0,.int .u32 b0,.int .u32 c0,.int .u32 d0,.int .u32 e0] 124 (0,0)))/\Hid (Below w.heap.size w wr)/\Hid (w.heap.size+1+1<wr.heap.size))
 case atStart=>exact⟨0,by omega,rfl,rfl,H2,H1,H0,HB,HZ1⟩
 case round =>
 clear H2 H1 H0 HB HZ1;obtain⟨j,hj,hk,rfl,H2,H1,H0,HB,HZ1⟩:=hrel;obtain⟨v,HV⟩:=nn_ (Jk (wAt zs 64) j);rw[<-HV.out] at H2;have hvl:v.length=80:=by rw[HV.out,Vx,X5]
 have hvw:IsW v:=by rw[HV.out];exact Vj _ (L9 zs hz 64) _
 obtain⟨q,HQ⟩:=nn_ (16+j);rw[<-HQ.out];have hq:16<=q/\q<=80:=by have:=HQ.out;omega
 by_cases hlt:q<80
 ·obtain⟨x1,G1⟩:=nn_ (v.getD (q-3) 0);obtain⟨x2,G2⟩:=nn_ (v.getD (q-8) 0);obtain⟨x3,G3⟩:=nn_ (v.getD (q-14) 0);obtain⟨x4,G4⟩:=nn_ (v.getD (q-16) 0);obtain⟨q1,Q1⟩:=nn_ (q-3);have e1:IntKind.i64.wrap ((q:Int)-3)=(q1:Int):=by rw[show (q:Int)-3=(q1:Int) from by have:=Q1.out;omega];exact wrap_i64 _ (by have:=Q1.out;omega)
  have b1:q1<80:=by have:=Q1.out;omega
  have bi1:(q1:Int)<80:=by omega
  have bz1:(0:Int)<=q1:=by omega
  have c1:wr.cell? ⟨w.heap.size+1+1,q1,none⟩=some (.int .u32 x1):=by rw[G1.out,Q1.out];exact zy H2.out _ (by omega)
  obtain⟨q2,Q2⟩:=nn_ (q-8);have e2:IntKind.i64.wrap ((q:Int)-8)=(q2:Int):=by rw[show (q:Int)-8=(q2:Int) from by have:=Q2.out;omega];exact wrap_i64 _ (by have:=Q2.out;omega)
  have b2:q2<80:=by have:=Q2.out;omega
  have bi2:(q2:Int)<80:=by omega
  have bz2:(0:Int)<=q2:=by omega
  have c2:wr.cell? ⟨w.heap.size+1+1,q2,none⟩=some (.int .u32 x2):=by rw[G2.out,Q2.out];exact zy H2.out _ (by omega)
  obtain⟨q3,Q3⟩:=nn_ (q-14);have e3:IntKind.i64.wrap ((q:Int)-14)=(q3:Int):=by rw[show (q:Int)-14=(q3:Int) from by have:=Q3.out;omega];exact wrap_i64 _ (by have:=Q3.out;omega)
  have b3:q3<80:=by have:=Q3.out;omega
  have bi3:(q3:Int)<80:=by omega
  have bz3:(0:Int)<=q3:=by omega
  have c3:wr.cell? ⟨w.heap.size+1+1,q3,none⟩=some (.int .u32 x3):=by rw[G3.out,Q3.out];exact zy H2.out _ (by omega)
  obtain⟨q4,Q4⟩:=nn_ (q-16);have e4:IntKind.i64.wrap ((q:Int)-16)=(q4:Int):=by rw[show (q:Int)-16=(q4:Int) from by have:=Q4.out;omega];exact wrap_i64 _ (by have:=Q4.out;omega)
  have b4:q4<80:=by have:=Q4.out;omega
  have bi4:(q4:Int)<80:=by omega
  have bz4:(0:Int)<=q4:=by omega
  have c4:wr.cell? ⟨w.heap.size+1+1,q4,none⟩=some (.int .u32 x4):=by rw[G4.out,Q4.out];exact zy H2.out _ (by omega)
  have c5:wr.cell? ⟨w.heap.size+1+1,q,none⟩=some (.int .u32 (v.getD q 0)):=zy H2.out _ (by omega);have bi5:(q:Int)<80:=by omega
  have bz5:(0:Int)<=q:=by omega
  have f5:=frozen_of_row wr (w.heap.size+1+1) q _ 165 H2.out;obtain⟨n,HN⟩:=nn_ (nx v q);have hn:bits .xor .u32 (bits .xor .u32 (bits .xor .u32 x1 x2) x3) x4=n:=by rw[HN.out,G1.out,G2.out,G3.out,G4.out];rfl
  have hnb:U n:=by rw[HN.out];exact qqx v q
  go_wp2;go_quiet (fail);go_wp2_with (go_at_call 81;refine(tn1 n _ hnb).mono ?_;rintro e w' ⟨rfl,nn,rfl⟩)
  go_roundg (64-(j+1));case measure=>have:=HQ.out;omega
  refine⟨j+1,by have:=HQ.out;omega,rfl,by have:=HQ.out;go_num,hid ?_,hid ?_,hid ?_,(below_drewN' _ _ HB.out).setCell (by simp <;> omega) _,hid (by have:=HZ1.out;simpa [World.setCell] using this)⟩
  ·rw[heap_setCell_same (wr.drewN (nq+nn)) _ _ _ _ _ H2.out,Jk,<-HV.out,<-HQ.out,<-HN.out,uv]
  ·rw[heap_setCell_other (wr.drewN (nq+nn)) _ _ _ (by simp)];exact H1.out
  rw[heap_setCell_other (wr.drewN (nq+nn)) _ _ _ (by simp <;> omega)];exact H0.out
 obtain rfl:q=80:=by omega
 have hj64:j=64:=by have:=HQ.out;omega
 subst hj64;have HVS:Hid (v=spread zs):=HV.out;obtain⟨wb,rfl⟩:∃ wb,wb=wr:=⟨_,rfl⟩;obtain⟨r0,r1,r2,r3,r4⟩:=Vw H0.out;have hzb:w.heap.size+1+1<wb.heap.size:=HZ1.out;have HT:Hid ((wb.alloc (.cells #[.int .u32 0,.int .u32 0,.int .u32 0,.int .u32 0,.int .u32 0] 124)).there wb.heap.size 0 5):=x9 (heap_alloc_new wb _) rfl
 obtain⟨w5,HW5⟩:=nn_ ((wb.alloc (.cells #[.int .u32 0,.int .u32 0,.int .u32 0,.int .u32 0,.int .u32 0] 124)).setCells wb.heap.size 0 (#[.int .u32 a0,.int .u32 b0,.int .u32 c0,.int .u32 d0,.int .u32 e0] : Array Value).toList)
 have H9:Hid (w5.heap[wb.heap.size]? = some (.cells #[.int .u32 a0,.int .u32 b0,.int .u32 c0,.int .u32 d0,.int .u32 e0] 124 (0,0))):=hid (by rw[HW5.out];exact Uz _ _ _ _ _ _ _ _ _ _ _ _ _ (heap_alloc_new wb _));have HX5:Hid (Below wb.heap.size wb w5):=hid (by rw[HW5.out];exact below_setCells (WzV _) _ _ _ _ ((Below.refl _ _).alloc (WzV _) _))
 have J2:Hid (w5.heap[w.heap.size+1+1]? = some (.cells (row .u32 v).toArray 165 (0,0))):=(HX5.out.block _ (by omega)).trans H2.out;have J1:Hid (w5.heap[w.heap.size+1]? = some (.cells #[.int .u32 0,.int .u32 0,.int .u32 0,.int .u32 0,.int .u32 0] 124 (0,0))):=(HX5.out.block _ (by omega)).trans H1.out
 have J0:Hid (w5.heap[w.heap.size]? = some (.cells #[.int .u32 a0,.int .u32 b0,.int .u32 c0,.int .u32 d0,.int .u32 e0] 124 (0,0))):=(HX5.out.block _ (by omega)).trans H0.out;have HB5:Hid (Below w.heap.size w w5):=HB.out.trans (HX5.out.mono (by omega))
 go_wp2_with (refine wpList_store_mid rfl 124 _ _ rfl wb.heap.size 0 _ rfl rfl HT.out size124 (by simp[Value.oneCell']) ?_;rw[<-HW5.out])
 clear r0 r1 r2 r3 r4;go_loopg [10] 80 (fun k i wr=>∃ (n:Nat) (s:S5),n<=80/\k=80-n/\i=.int .i64 n/\Hid (s=rds v ⟨a0,b0,c0,d0,e0⟩ n)/\Hid (wr.heap[wb.heap.size]? = some (.cells #[.int .u32 s.a,.int .u32 s.b,.int .u32 s.c,.int .u32 s.d,.int .u32 s.e] 124 (0,0)))/\Hid (Below wb.heap.size w5 wr));case atStart=>exact⟨0,⟨a0,b0,c0,d0,e0⟩,by omega,rfl,rfl,rfl,H9,Below.refl _ _⟩
 case round =>
 obtain⟨n,⟨a,b,c,d,e⟩,hn,hk2,rfl,HSt,HR,HBr⟩:=hrel;obtain⟨ha,hb,hc,hd,he⟩:S5.ok ⟨a,b,c,d,e⟩:=by rw[HSt.out];exact WJ v _ HS.out _
 obtain⟨r0,r1,r2,r3,r4⟩:=Vw HR.out;have f0:=frozen_of_row wr wb.heap.size 0 _ 124 HR.out;have f1:=frozen_of_row wr wb.heap.size 1 _ 124 HR.out;have f2:=frozen_of_row wr wb.heap.size 2 _ 124 HR.out;have f3:=frozen_of_row wr wb.heap.size 3 _ 124 HR.out;have f4:=frozen_of_row wr wb.heap.size 4 _ 124 HR.out;by_cases hn80:n<80;rotate_left
 ·obtain rfl:n=80:=by omega
  have HFin:Hid (U9 ⟨a0,b0,c0,d0,e0⟩ zs=plus ⟨a0,b0,c0,d0,e0⟩ ⟨a,b,c,d,e⟩):=hid (by unfold U9;rw[<-HVS.out,<-HSt.out]);have M0:Hid (wr.heap[w.heap.size]? = some (.cells (row .u32 (Qy (S5.l ⟨a0,b0,c0,d0,e0⟩) (S5.l ⟨a,b,c,d,e⟩) 0)).toArray 124 (0,0))):=(HBr.out.block _ (by omega)).trans J0.out
  have M1:Hid (wr.heap[w.heap.size+1]? = some (.cells #[.int .u32 0,.int .u32 0,.int .u32 0,.int .u32 0,.int .u32 0] 124 (0,0))):=(HBr.out.block _ (by omega)).trans J1.out;have M2:Hid (wr.heap[wb.heap.size]? = some (.cells (row .u32 (S5.l ⟨a,b,c,d,e⟩)).toArray 124 (0,0))):=HR.out;have MB:Hid (Below w.heap.size w wr):=HB5.out.trans (HBr.out.mono (by omega))
  have hlw:IsW (S5.l ⟨a0,b0,c0,d0,e0⟩):=qqy _ HS.out;have hmw:IsW (S5.l ⟨a,b,c,d,e⟩):=qqy _ (by rw[HSt.out];exact WJ v _ HS.out _);obtain⟨hl5,HL5⟩:∃ l,Hid (l=S5.l ⟨a0,b0,c0,d0,e0⟩):=⟨_,rfl⟩;obtain⟨vl5,VL5⟩:∃ l,Hid (l=S5.l ⟨a,b,c,d,e⟩):=⟨_,rfl⟩;rw[<-HL5.out] at M0 hlw;rw[<-VL5.out] at M0 M2 hmw;have hvl5:vl5.length=5:=by rw[VL5.out];rfl
  clear r0 r1 r2 r3 r4 f0 f1 f2 f3 f4;go_wp2
  go_loopg [14] 5 (fun k i wr=>∃ j:Nat,j<=5/\k=5-j/\i=.int .i64 j/\Hid (wr.heap[w.heap.size]? = some (.cells (row .u32 (Qy hl5 vl5 j)).toArray 124 (0,0)))/\Hid (wr.heap[w.heap.size+1]? = some (.cells #[.int .u32 0,.int .u32 0,.int .u32 0,.int .u32 0,.int .u32 0] 124 (0,0)))/\Hid (wr.heap[wb.heap.size]? = some (.cells (row .u32 vl5).toArray 124 (0,0)))/\Hid (Below w.heap.size w wr))
  case atStart=>exact⟨0,by omega,rfl,rfl,M0,M1,M2,MB⟩
  clear M0 M1 M2 MB;obtain⟨j,hj,hk,rfl,M0,M1,M2,MB⟩:=hrel;by_cases hj5:j<5
  ·obtain⟨x,HX⟩:=nn_ (hl5.getD j 0);obtain⟨y,HY⟩:=nn_ (vl5.getD j 0);have c1:wr.cell? ⟨w.heap.size,j,none⟩=some (.int .u32 x):=(by rw[HX.out,<-zz7 hl5 vl5 j hj5];exact zy M0.out j (by rw[T8];exact hj5));have c2:wr.cell? ⟨wb.heap.size,j,none⟩=some (.int .u32 y):=(by rw[HY.out];exact zy M2.out j (by omega))
   have f1:=frozen_of_row wr w.heap.size j _ 124 M0.out;have hx:U x:=(by rw[HX.out];exact hlw.at j);have hy:U y:=(by rw[HY.out];exact hmw.at j);obtain⟨hx1,hx2⟩:=hx;obtain⟨hy1,hy2⟩:=hy;have bi:(j:Int)<5:=(by omega);have bz:(0:Int)<=j:=(by omega);go_wp2;go_region;all_goals
    go_wp2;go_roundg (5-(j+1));case measure=>omega
    case rel =>
     refine⟨j+1,by omega,rfl,by go_num,hid ?_,hid ?_,hid ?_,(MB.out.setCell (by simp) _).drew⟩
     ·rw[heap_drew,heap_setCell_same wr _ _ _ _ _ M0.out,Aq hl5 vl5 j hj5,<-HX.out,<-HY.out,uv]
     ·rw[heap_drew,heap_setCell_other wr _ _ _ (by simp)];exact M1.out
     rw[heap_drew,heap_setCell_other wr _ _ _ (by simp;omega)];exact M2.out
  obtain rfl:j=5:=by omega
  obtain⟨fr,HFR⟩:=nn_ (Qy hl5 vl5 5);rw[<-HFR.out] at M0;have hfl:fr.length=5:=by rw[HFR.out];exact T8 _ _ _
  have HE:Hid (fr=(U9 ⟨a0,b0,c0,d0,e0⟩ zs).l):=hid (by rw[HFR.out,HL5.out,VL5.out,Ax,HFin.out]);have hi38:(prog.info? 124).map (·.size)=some (row .u32 fr).length:=by rw[zu,hfl];exact size124
  have T1:Hid (wr.there (w.heap.size+1) 0 (row .u32 fr).toArray.size):=hid (by rw[qK,hfl];exact x9 M1.out rfl);have T2:Hid ((prog.info? 124).map (·.size)=some (row .u32 fr).toArray.size):=hid (by rw[qK,hfl];exact size124);have T3:Hid ((row .u32 fr).toArray.all (·.oneCell')=true):=all_oneCell_toArray (row_one _ _)
  have T4:Hid (wr.there (w.heap.size+1) 0 (row .u32 fr).length):=hid (by rw[zu,hfl];exact x9 M1.out rfl);go_wp2_with (first | refine wpList_load_mid rfl 124 _ rfl w.heap.size 0 rfl (row .u32 fr) _ (zx M0.out) underlying124 rfl hi38 ?_ | refine wpList_store_mid rfl 124 _ _ rfl (w.heap.size+1) 0 (row .u32 fr).toArray rfl rfl T1.out T2.out T3.out ?_)
  refine bodyPost_ret (v:=.agg (row .u32 fr).toArray) (y6 Tryz.results52 _ _ (w.heap.size+1) _ _ rfl (World.rangeAt_setCells_same wr (w.heap.size+1) 0 _ T4.out) underlying124 rfl hi38) rfl ⟨?_,below_setCells (by omega) _ _ _ _ MB.out⟩;rw[HE.out];rfl
 obtain⟨x,HX⟩:=nn_ (v.getD n 0);have hx:U x:=by rw[HX.out];exact hvw.at _
 have hcl:wr.cell? ⟨w.heap.size+1+1,n,none⟩=some (.int .u32 x):=by
  rw[HX.out];exact(HBr.out.cell (p:=⟨w.heap.size+1+1,n,none⟩) (by omega)).trans (zy J2.out n (by omega))
 obtain⟨fv,HF⟩:=nn_ (fi n b c d);obtain⟨kq,HKQ⟩:=nn_ (ki n);obtain⟨t5,HT5⟩:=nn_ (Xy a);have ht5:U t5:=by rw[HT5.out];exact D6 a
 have hr5:=fun w=>tn5 a w ha;rw[<-HT5.out] at hr5;have hr30:=fun w=>tn30 b w hb;obtain⟨ha1,ha2⟩:=ha;obtain⟨hb1,hb2⟩:=hb;obtain⟨hc1,hc2⟩:=hc;obtain⟨hd1,hd2⟩:=hd;obtain⟨he1,he2⟩:=he;obtain⟨hx1,hx2⟩:=hx;obtain⟨ht1,ht2⟩:=ht5;have hsg:IntKind.u32.signed=false:=rfl;have hmx:IntKind.u32.max=4294967295:=rfl
 rcases(by omega:n<20 ∨ (20<=n/\n<40) ∨ (40<=n/\n<60) ∨ 60<=n) with hc' | ⟨hc',hc''⟩ | ⟨hc',hc''⟩ | hc'
 ·have hfv:bits .or .u32 (bits .and .u32 b c) (bits .and .u32 (bits .xor .u32 4294967295 b) d)=fv:=by rw[HF.out,fi,if_pos (by omega)];rfl
  have hkq:kq=1518500249:=by rw[HKQ.out,ki,if_pos (by omega)]
  have hfb:U fv:=by rw[HF.out];exact D8 _ _ _ _
  obtain⟨hf1,hf2⟩:=hfb;go_wp2;go_quiet ((go_at_call 81;exact Calls.quiet_of (hr5 _)));go_wp2_with (go_at_call 81;refine(hr30 _).mono ?_;rintro e w' ⟨rfl,nn,rfl⟩)
  go_roundg (80-(n+1));case measure=>omega
  refine⟨n+1,rd v n ⟨a,b,c,d,e⟩,by omega,rfl,by go_num,hid (by rw[HSt.out];rfl),hid ?_,jQ _ _ _ _ _ _ _ _ (WzV _) HBr.out⟩;show _=some (Obj.cells #[Value.int .u32 ((Xy a+fi n b c d+e+ki n+v.getD n 0) % 4294967296),.int .u32 a,.int .u32 (Yw b),.int .u32 c,.int .u32 d] 124 (0,0));rw[<-HT5.out,<-HF.out,<-HX.out,<-HKQ.out,hkq]
  exact Lw wr wb.heap.size nq nn 124 _ _ _ _ _ _ _ HR.out
 ·have hfv:bits .xor .u32 (bits .xor .u32 b c) d=fv:=by rw[HF.out,fi,if_neg (by omega),if_pos (by omega)];rfl
  have hkq:kq=1859775393:=by rw[HKQ.out,ki,if_neg (by omega),if_pos (by omega)]
  have hfb:U fv:=by rw[HF.out];exact D8 _ _ _ _
  obtain⟨hf1,hf2⟩:=hfb;go_wp2;go_quiet ((go_at_call 81;exact Calls.quiet_of (hr5 _)));go_wp2_with (go_at_call 81;refine(hr30 _).mono ?_;rintro e w' ⟨rfl,nn,rfl⟩)
  go_roundg (80-(n+1));case measure=>omega
  refine⟨n+1,rd v n ⟨a,b,c,d,e⟩,by omega,rfl,by go_num,hid (by rw[HSt.out];rfl),hid ?_,jQ _ _ _ _ _ _ _ _ (WzV _) HBr.out⟩;show _=some (Obj.cells #[Value.int .u32 ((Xy a+fi n b c d+e+ki n+v.getD n 0) % 4294967296),.int .u32 a,.int .u32 (Yw b),.int .u32 c,.int .u32 d] 124 (0,0));rw[<-HT5.out,<-HF.out,<-HX.out,<-HKQ.out,hkq]
  exact Lw wr wb.heap.size nq nn 124 _ _ _ _ _ _ _ HR.out
 ·have hfv:bits .or .u32 (bits .or .u32 (bits .and .u32 b c) (bits .and .u32 b d)) (bits .and .u32 c d)=fv:=by rw[HF.out,fi,if_neg (by omega),if_neg (by omega),if_pos (by omega)];rfl
  have hkq:kq=2400959708:=by rw[HKQ.out,ki,if_neg (by omega),if_neg (by omega),if_pos (by omega)]
  have hfb:U fv:=by rw[HF.out];exact D8 _ _ _ _
  obtain⟨hf1,hf2⟩:=hfb;go_wp2;go_quiet ((go_at_call 81;exact Calls.quiet_of (hr5 _)));go_wp2_with (go_at_call 81;refine(hr30 _).mono ?_;rintro e w' ⟨rfl,nn,rfl⟩)
  go_roundg (80-(n+1));case measure=>omega
  refine⟨n+1,rd v n ⟨a,b,c,d,e⟩,by omega,rfl,by go_num,hid (by rw[HSt.out];rfl),hid ?_,jQ _ _ _ _ _ _ _ _ (WzV _) HBr.out⟩;show _=some (Obj.cells #[Value.int .u32 ((Xy a+fi n b c d+e+ki n+v.getD n 0) % 4294967296),.int .u32 a,.int .u32 (Yw b),.int .u32 c,.int .u32 d] 124 (0,0));rw[<-HT5.out,<-HF.out,<-HX.out,<-HKQ.out,hkq]
  exact Lw wr wb.heap.size nq nn 124 _ _ _ _ _ _ _ HR.out
 have hfv:bits .xor .u32 (bits .xor .u32 b c) d=fv:=by rw[HF.out,fi,if_neg (by omega),if_neg (by omega),if_neg (by omega)];rfl
 have hkq:kq=3395469782:=by rw[HKQ.out,ki,if_neg (by omega),if_neg (by omega),if_neg (by omega)]
 have hfb:U fv:=by rw[HF.out];exact D8 _ _ _ _
 obtain⟨hf1,hf2⟩:=hfb;go_wp2;go_quiet ((go_at_call 81;exact Calls.quiet_of (hr5 _)));go_wp2_with (go_at_call 81;refine(hr30 _).mono ?_;rintro e w' ⟨rfl,nn,rfl⟩)
 go_roundg (80-(n+1));case measure=>omega
 case rel =>
 refine⟨n+1,rd v n ⟨a,b,c,d,e⟩,by omega,rfl,by go_num,hid (by rw[HSt.out];rfl),hid ?_,jQ _ _ _ _ _ _ _ _ (WzV _) HBr.out⟩;show _=some (Obj.cells #[Value.int .u32 ((Xy a+fi n b c d+e+ki n+v.getD n 0) % 4294967296),.int .u32 a,.int .u32 (Yw b),.int .u32 c,.int .u32 d] 124 (0,0));rw[<-HT5.out,<-HF.out,<-HX.out,<-HKQ.out,hkq]
 exact Lw wr wb.heap.size nq nn 124 _ _ _ _ _ _ _ HR.out
end Go.Proofs.YtiaaekdpfpaigaaGreatDoor.Id
