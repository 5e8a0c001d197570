import Derived.Test.YtdnphaganajejaaGreatDoorMz47
import Derived.Test.YtdnphaganajejaaGreatDoorMz18
set_option linter.unusedSimpArgs false
set_option linter.unusedVariables false
set_option maxRecDepth 20000
set_option maxHeartbeats 4000000
open List renaming length_append->Wzy,mem_singleton->Wqk,nil_append->WyX,not_lt->Wx6
open Nat renaming le_refl->Wz8
namespace Go.Proofs.YtdnphaganajejaaGreatDoor.K
open Go.Proofs.Tryz
open Go.RowKit
theorem results50:f50.results=#[.tmp 2]:=by kernel_rfl
theorem zxy (w:World) (j:Nat) (x:Str) (p:Nat) (D:w.heap[j]? = some (.stringIter ⟨x.toArray⟩ p)) (A:p<x.length) (K:∀ b ∈ x,b<128) :
  ∃ w',(∀ ty,(Instr.next (.pointer (some ⟨j,0,none⟩)) true ty).run prog w=.ok (.tuple #[.bool true,.int .i64 p,.int .i32 (x.getD p 0).toNat]) w')/\w'.heap[j]? = some (.stringIter ⟨x.toArray⟩ (p+1))/\w.grownBy w' (some j)/\w'.heap.size=w.heap.size:=by
 have hs:p<(⟨x.toArray⟩:ByteArray).size:=by simpa [ByteArray.size] using A
 have h:x.getD p 0=x[p]'A:=by simp[List.getD_eq_getElem?_getD,List.getElem?_eq_getElem A]
 have J:(⟨x.toArray⟩:ByteArray)[p]'hs=x.getD p 0:=by
  rw[h];show x.toArray[p]'(by simpa using A)=_;simp
 have I:((⟨x.toArray⟩:ByteArray)[p]'hs).toNat<128:=by
  rw[J,h];exact UInt8.lt_iff_toNat_lt.1 (K _ (List.getElem_mem A))
 have G:j<w.heap.size:=z7 D;refine⟨{ w with heap:=w.heap.setIfInBounds j (.stringIter ⟨x.toArray⟩ (p+1)) },fun ty=>?_,by simp[G],⟨rfl,rfl,rfl,by simp,fun i hi L=>by simp only;rw[Array.getElem?_setIfInBounds_ne (fun e=>L (by rw[e]))]⟩,by simp⟩;rw[<-J];simp only[Instr.next,getObj,setObj,Sem.run_bind,Sem.run,D,Result.andThen,hs,if_true,decode_ascii _ p hs I]
 simp[goInt,Sem.run,D]
theorem qzJ (w:World) (j:Nat) (x:Str) (h:w.heap[j]? = some (.stringIter ⟨x.toArray⟩ x.length)) (ty:TypeId) :
  (Instr.next (.pointer (some ⟨j,0,none⟩)) true ty).run prog w=.ok (.tuple #[.bool false]) w:=by
 have h0:¬ x.length<(⟨x.toArray⟩:ByteArray).size:=by show ¬ x.length<x.toArray.size;simp
 simp[Instr.next,getObj,Sem.run,h,h0]
def clA (D:Str->Bool):Prop := ∃ b,D b=true/\∃ i,b[i]? = some 47/\D (b.take i)=true
def dT (T:Ts):Str->Bool:=fun x=>(T x).isSome
def qu8 (T:Ts) (B:Nat) (w:World) (e:Ending) (w':World):Prop := ∃ b:Bool,e=.returned (.bool b)/\(b=true ↔ clA (dT T))/\Below B w w'
theorem Yz (S:Nat->Prop) (t n:Nat) (T:Ts) (w:World) (h:Tt S w t n T) (ha:∀ x r,T x=some r->∀ b ∈ x,b<128) :
  Calls prog 50 #[.map (some t)] w (qu8 T w.heap.size w):=by
 obtain⟨G,HG⟩:=nm_ w.heap.size;obtain⟨w2,c0,aD,ah,ay,aX⟩:=h.tm.range xX;rw[HG.out] at aD ah;have aJ:Hid (Below G w w2):=hid (by rw[<-HG.out];exact Tb ay);have aR:=hid ah;have H:=hid h;have HA:=hid ha;rw[HG.out];clear h ha ah ay aX;go_enter func50,ntmps50;go_wp2_with (at_range;refine z8 rfl _ (vv rfl rfl aD) ?_;go_frame)
 go_loopg [3,4,5,7] c0 (fun q _ _ _ _ wr=>∃ (c:Nat) (L:Str->Bool),q=c/\Hid (TR (rV r0) wr t G n (vT T) L c)/\Hid (Below G w wr)/\Hid (∀ x,dT T x=true->L x=false->∀ i,x[i]? = some 47->dT T (x.take i)=false));case atStart=>exact⟨c0,_,rfl,aR,aJ,hid (fun x h1 h2=>by unfold dT at h1;simp[vT] at h2;rw[h2] at h1;cases h1)⟩
 obtain⟨c,L,hq,ae,HB,HN⟩:=hrel;rcases ae.out.next 0 with ⟨rfl,a6,hr⟩ | ⟨x,v,w3,c2,hL,hM,hr,au,hc,az,aF,ax⟩
 ·have HF:Hid (¬ clA (dT T)):=hid (by
   rintro⟨b,h1,i,h2,h3⟩;obtain⟨q,hq⟩:=Option.isSome_iff_exists.1 h1;have:=HN.out b h1 (a6 b (by have:=(H.out.at_ b q hq).nm;omega)) i h2;rw[h3] at this;cases this)
  clear a6;go_wp2_with (at_next;refine z8 rfl _ (qW rfl rfl hr) ?_;go_frame)
  exact bodyPost_ret (results_tmp results50 _ _ _) rfl ⟨false,rfl,by simpa using HF.out,HB.out⟩
 obtain⟨rr,O,rfl⟩:=Rz hM;have b9:=(H.out.at_ x rr O).nm;have aZ:=HA.out x rr O;obtain⟨j,hj⟩:∃ j,w3.heap.size=j:=⟨_,rfl⟩;have aE:(Instr.range 9 (.string ⟨x.toArray⟩)).run prog w3=.ok (.pointer (some ⟨j,0,none⟩)) (w3.iter ⟨x.toArray⟩ 0):=by rw[<-hj];exact run_range_string w3 9 _ underlying9
 obtain⟨w4,Y⟩:∃ w4,w3.iter ⟨x.toArray⟩ 0=w4:=⟨_,rfl⟩;rw[Y] at aE;have aO:Hid (w4.heap[j]? = some (.stringIter ⟨x.toArray⟩ 0)):=hid (by rw[<-Y,<-hj];exact World.iter_heap _ _ _);have aU:G<j:=by rw[<-hj,aF];have:=ae.out.lt.1;omega
 have av:Below G w w3:=HB.out.grown az (by have:=ae.out.lt.1;omega) (fun q hq=>by cases hq;exact Wz8 _);have am:Hid (Below j w3 w4):=hid (by rw[<-Y,<-hj];exact(Below.refl _ _).alloc (Wz8 _) _);have ak:=hid av;have ao:=hid au;have aH:t<j:=by have:=H.out.tm.lt;have:=HG.out;omega
 have aN:Hid (dT T x=true):=hid (by unfold dT;rw[O];rfl);have b2:=hid O;rw[show rV rr=.agg (row .u8 rr.id++[sV rr.tg,.slice rr.a rr.log.length rr.c]).toArray from rfl] at hr ax;unfold sV at hr ax;clear hL hM au az aF av O hj Y;go_wp2_with (first
  | (at_next;refine z8 rfl _ (qW rfl rfl hr) ?_;go_frame)
  | (at_range;refine z8 rfl _ (vv rfl rfl aE) ?_;go_frame))
 go_loopg [4,5,7] x.length (fun q _ _ _ wr=>∃ (p:Nat),q=x.length-p/\p<=x.length/\Hid (wr.heap[j]? = some (.stringIter ⟨x.toArray⟩ p))/\Hid (Below j w3 wr)/\Hid (∀ i,i<p->x[i]? = some 47->dT T (x.take i)=false));case atStart=>exact⟨0,by simp,Nat.zero_le _,aO,am,hid (fun i h=>by omega)⟩
 case round =>
 obtain⟨p,b8,aV,HJ,Q,ad⟩:=hrel;by_cases aA:p<x.length;rotate_left
 ·obtain rfl:p=x.length:=by omega
  have I:=qzJ wr j x HJ.out;have aS:Hid (TR (rV r0) wr t G n (vT T) (fun y=>L y && decide (y ≠ x)) c2):=hid (ao.out.kept (Q.out.block t aH) (Q.out.block G aU));have ac:Hid (Below G w wr):=hid (ak.out.trans (Q.out.mono (by omega)));go_wp2_with (at_next;refine z8 rfl _ (qW rfl rfl (I _)) ?_;go_frame)
  go_roundg c2;case measure=>omega
  case rel=>exact⟨c2,_,rfl,aS,ac,hid (fun y h1 h2 i h3=>by
   by_cases e:y=x
   ·subst e;exact ad.out i (List.getElem?_eq_some_iff.1 h3).1 h3
   simp[e] at h2;exact HN.out y h1 h2 i h3)⟩
 obtain⟨w5,I,V,aj,aG⟩:=zxy wr j x p HJ.out aA aZ;have b6:j<wr.heap.size:=z7 HJ.out;have J:Below j w3 w5:=Q.out.grown aj (by omega) (fun q hq=>by cases hq;exact Wz8 _);have Z:x[p]? = some (x.getD p 0):=by simp[List.getD_eq_getElem?_getD,List.getElem?_eq_getElem aA]
 obtain⟨cb,ai⟩:∃ c,x.getD p 0=c:=⟨_,rfl⟩;rw[ai] at Z I;obtain⟨cv,M⟩:∃ c,cb.toNat=c:=⟨_,rfl⟩;rw[M] at I;have ap:=hid Z;have aP:=hid V;have aK:=hid J;by_cases ag:cv=47;rotate_left
 ·have b7:¬ ((cv:Int)=47):=by omega
  have a8:cb ≠ 47:=fun e=>ag (by rw[<-M,e];rfl);have aM:=hid a8;clear V aj aG J Z ai M a8 ag;go_wp2_with (first
   | (at_next;refine z8 rfl _ (qW rfl rfl (I _)) ?_;go_frame))
  go_roundg (x.length-(p+1));case measure=>omega
  case rel=>exact⟨p+1,rfl,by omega,aP,aK,hid (fun i hi h=>by
   by_cases e:i=p
   ·subst e;rw[ap.out] at h;exact absurd (Option.some.inj h) aM.out
   exact ad.out i (by omega) h)⟩
 subst ag;have ar:cb=47:=UInt8.toNat_inj.1 M;subst ar;have aY:∀ W,(Instr.slice 9 (.string ⟨x.toArray⟩) none (some (.int .i64 p)) none).run prog W=.ok (.string ⟨(x.take p).toArray⟩) W:=fun W=>Nm.slc_to x p aV W;have aI:TM (rV r0) w5 t n (vT T):=ao.out.tm.sm (J.block t aH);have K:=aI.look xX (j7 w5) (x:=x.take p) (by rw[List.length_take];omega)
 have a7:Below G w w5:=ak.out.trans (J.mono (by omega));obtain⟨y,hy⟩:∃ y,x.take p=y:=⟨_,rfl⟩;have HY:=hid hy;rw[hy] at K aY;have aW:∃ r,(vT T y).getD (rV r0)=rV r/\r.id.length=20:=by
  cases e:T y with
  | none=>exact⟨r0,by simp[vT,e],rfl⟩
  | some q=>exact⟨q,by simp[vT,e],(H.out.at_ y q e).id.1⟩
 obtain⟨r,aB,aC⟩:=aW;obtain⟨A,D⟩:=ra r aC;rw[aB,D.out.e] at K;unfold sV at K;have ac:Hid (Below j w3 (w5.alloc (.cells A 129))):=hid (J.alloc (by omega) _);have aL:Hid (Below G w (w5.alloc (.cells A 129))):=hid (a7.alloc (by omega) _)
 have aQ:Hid ((w5.alloc (.cells A 129)).heap[j]? = some (.stringIter ⟨x.toArray⟩ (p+1))):=hid (by rw[<-V];exact heap_alloc_old _ _ (by omega));have aw:(vT T y).isSome=dT T y:=by unfold vT dT;simp
 rw[aw] at K;clear V aj aG J Z ai M aB aC aw aI hy a7;cases hD:dT T y with
 | true =>
  rw[hD] at K;have HC:Hid (clA (dT T)):=hid ⟨x,aN.out,p,ap.out,by rw[HY.out];exact hD⟩;clear hD;go_wp2_with (first
   | (at_next;refine z8 rfl _ (qW rfl rfl (I _)) ?_;go_frame)
   | (refine zq rfl 129 (.tmp 6) (.tmp 28) rfl _ A rfl rfl D.out.i D.out.z D.out.o ?_;go_frame))
  exact bodyPost_ret (results_tmp results50 _ _ _) rfl ⟨true,rfl,by simpa using HC.out,aL.out⟩
 | false =>
  rw[hD] at K;have HD:=hid hD;clear hD;go_wp2_with (first
   | (at_next;refine z8 rfl _ (qW rfl rfl (I _)) ?_;go_frame)
   | (refine zq rfl 129 (.tmp 6) (.tmp 28) rfl _ A rfl rfl D.out.i D.out.z D.out.o ?_;go_frame))
  go_roundg (x.length-(p+1));case measure=>omega
  case rel=>exact⟨p+1,rfl,by omega,aQ,ac,hid (fun i hi h=>by
   by_cases e:i=p
   ·subst e;rw[HY.out];exact HD.out
   exact ad.out i (by omega) h)⟩
abbrev ltS (x y:Str):Prop:=Op.bytesLess x y=true
def geS (x y:Str):Bool := !Op.bytesLess x y
theorem Yq:∀ x y:Str,ltS x y ↔ x<y
 | x,[]=>by cases x <;> simp[ltS,Op.bytesLess]
 | [],b :: y=>by simp[ltS,Op.bytesLess]
 | a :: x,b :: y=>by
  have h:=Yq x y;unfold ltS at h ⊢;rw[List.cons_lt_cons_iff];simp only[Op.bytesLess,Bool.or_eq_true,Bool.and_eq_true,decide_eq_true_eq,beq_iff_eq,h]
theorem FZ (x y:Str):geS x y=true ↔ ¬ ltS x y:=by unfold geS;simp
theorem J0 (x:Str):¬ ltS x x:=by rw[Yq];exact List.lt_irrefl x
theorem Bk (x y z:Str) (h:ltS x y) (j:ltS y z):ltS x z:=by rw[Yq] at *;exact List.lt_trans h j
theorem Rv (x y:Str) (j:¬ ltS x y) (A:x ≠ y):ltS y x:=by
 rw[Yq] at *;by_cases h:y<x
 ·exact h
 exact absurd (List.le_antisymm (Wx6.1 h) (Wx6.1 j)) A
theorem U1:(prog.info? 93).map (fun i=>(i.zero,i.size,i.bytes))=some (some (.agg (yx ([],zZ,[])).toArray),22,56):=by kernel_rfl
theorem Nj:prog.underlying 36=some (.slice 93):=by kernel_rfl
theorem KQ (x:Rx) (h:jW x) (w:World):(Instr.buildSlice 36 1 #[(0,.agg (yx x).toArray)]).run prog w=.ok (.slice (some ⟨w.heap.size,0,none⟩) 1 1) (w.alloc (.cells (yx x).toArray 93)):=by
 obtain⟨i,V,Y,hs,_⟩:=qQ U1;refine run_buildSlice w 36 93 1 _ (yx x).toArray i _ Nj V Y (by rw[hs];decide) (by rw[hs];decide) ?_;rw[hs];obtain⟨nm,id,tg⟩:=x;have j:=h.2.1.1;simp only at j;obtain⟨c0,c1,c2,c3,c4,c5,Z,c7,c8,c9,A,D,G,I,J,K,L,M,O,Q,rfl⟩:=yJ id j;unfold yx sV;simp only;generalize (⟨nm.toArray⟩:ByteArray)=P5
 generalize (⟨tg.toArray⟩:ByteArray)=P6;show _=_;kernel_rfl
theorem Yx (ge:Str->Str->Bool) (a:Str) (k:Kp):∀ (l:List Rx) (done:Bool),(Rk.setL ge a (some k) l done).length<=l.length+(if done then 0 else 1)
 | [],done=>by cases done <;> simp[Rk.setL]
 | r :: l,done=>by
  have h:=Yx ge a k l (done || ge r.1 a);unfold Rk.setL;simp only[Wzy,List.length_cons];have j:(if r.1=a then ([] : List Rx) else [r]).length<=1:=by split <;> simp
  generalize (if r.1=a then ([] : List Rx) else [r])=z at j ⊢;generalize ge r.1 a=g at h ⊢;cases done <;> cases g <;> simp at h ⊢ <;> omega
theorem FQ (ge:Str->Str->Bool) (a:Str) (k:Kp) (hx:jW (a,k)):∀ (l:List Rx) (done:Bool),(∀ x ∈ l,jW x)->∀ x ∈ Rk.setL ge a (some k) l done,jW x
 | [],done,_,x,h=>by
  cases done <;> simp[Rk.setL] at h
  subst h;exact hx
 | r :: l,done,hl,x,h=>by
  unfold Rk.setL at h
  simp only[List.mem_append] at h
  rcases h with h | h | h
  ·split at h
   ·simp at h;subst h;exact hx
   ·simp at h
  ·split at h
   ·simp at h
   ·simp at h;subst h;exact hl x (by simp)
  ·exact FQ ge a k hx l _ (fun y hy=>hl y (by simp[hy])) x h
structure Qt (Q K:Nat) (a:Option Addr) (N c:Nat) (p:Addr) (y x:ByteArray) (W:World):Prop where
 c0:W.cell? ⟨Q,0,none⟩=some (.slice a N c)
 c1:W.cell? p=some (.string y)
 c2:W.cell? ⟨K,0,none⟩=some (.string x)
theorem results56:f56.results=#[]:=by kernel_rfl
def zxu (G Q:Nat) (v2:Value) (rs':List Rx) (ls:List Ex) (w:World) (e:Ending) (w':World):Prop:=e=.returned (.tuple #[])/\(∃ v,Dq G w' Q v v2 rs' ls)/\Al (fun i=>i=Q) w w'
theorem FX {G Q:Nat} {v1 v2:Value} {rs:List Rx} {ls:List Ex} (x:Rx) (hx:jW x) (gone:Bool) (w:World) (h:Dq G w Q v1 v2 rs ls) (hG:G<=w.heap.size) (hn:rs.length+1<=100000) :
  Calls prog 56 #[.pointer (some ⟨Q,0,none⟩),.agg (yx x).toArray,.bool gone] w (zxu G Q v2 (Rk.setL geS x.1 (some x.2) rs gone) ls w):=by
 obtain⟨r,HR⟩:=nm_ w.heap.size;obtain⟨E,hE⟩:∃ E,yx x=E:=⟨_,rfl⟩;have aK:E.length=22:=by rw[<-hE];exact vq hx
 obtain⟨I,a8⟩:=nm_ (w.alloc (.cells E.toArray 93));have aL:Below r w I:=by rw[<-a8.out,<-HR.out];exact(Below.refl _ w).alloc (Wz8 _) _
 have bB:I.heap.size=r+1:=by rw[<-a8.out,<-HR.out];simp
 have hr0:I.heap[r]? = some (.cells E.toArray 93):=by rw[<-a8.out,<-HR.out];exact heap_alloc_new _ _
 have bk:Q<r:=by rw[<-HR.out];exact z7 h.box
 obtain⟨a,c,e1,hP,bq,aN⟩:=h.px1;subst e1;obtain⟨N,HN⟩:=nm_ rs.length;have bu:N+1<=100000:=by rw[<-HN.out];exact hn
 have D:Hid (∀ W,Below (r+1) I W->Below r w W/\Dq G W Q (.slice a rs.length c) v2 rs ls/\Px yx 22 dR W a c rs/\W.cell? ⟨Q,0,none⟩=some (.slice a N c)/\W.cell? ⟨r,0,none⟩=some (sV x.1)/\W.heap[r]? = some (.cells E.toArray 93)):=fun W hW=>by
  have hb:Below r w W:=aL.trans (hW.mono (by omega));have hd:=h.below (W:=W) (by rw[HR.out];exact hb);have hk:=(hW.block r (by omega)).trans hr0;refine⟨hb,hd,hP.below (by rw[HR.out];exact hb),?_,?_,hk⟩
  ·rw[<-HN.out];exact(hb.cell (p:=⟨Q,0,none⟩) bk).trans aN
  rw[cell_of_row _ _ 0 _ _ _ hk,<-hE];rfl
 have ai:Hid ((prog.info? 93).map (·.size)=some E.toArray.size):=hid (by rw[List.size_toArray,aK];kernel_rfl);have b8:Hid ((prog.info? 93).map (·.size)=some E.length):=hid (by rw[aK];kernel_rfl)
 have aB:Hid (∀ W:World,(Instr.buildSlice 36 1 #[(0,.agg E.toArray)]).run prog W=.ok (.slice (some ⟨W.heap.size,0,none⟩) 1 1) (W.alloc (.cells E.toArray 93))):=fun W=>by rw[<-hE];exact KQ x hx W
 have aG:Hid (∀ W:World,Px yx 22 dR (W.alloc (.cells E.toArray 93)) (some ⟨W.heap.size,0,none⟩) 1 [x]):=fun W=>by
  have:=x5 (enc:=yx) (d:=dR) W x 93;rw[vq hx,hE] at this;exact this
 have aV:Hid (Bx yx 22 93 I I (r+1) (.slice none 0 0) []):=hid (uk 93 I (r+1) (by omega));have bg:Hid (∀ l:List Rx,l.length<=200000->l.length + [x].length<=1000000000):=fun l hl=>by simp;omega
 have HX:=hid hx;have aF:=hid h.ok1;have HH:=hid h;have b7:Hid (G<=r):=hid (by rw[<-HR.out];exact hG);obtain⟨X,a6⟩:=nm_ (⟨x.1.toArray⟩:ByteArray);have bi:Hid (∀ (l:List Rx) d,(Rk.setL geS x.1 (some x.2) l d).length<=l.length+1):=fun l d=>Nat.le_trans (Yx geS x.1 x.2 l d) (by cases d <;> simp);rw[hE];clear h hP bq aN aL hn hG;go_enter func56,ntmps56;go_wp2
 rw[a8.out,HR.out];go_loopg [6,7,8] N (fun q ov dv iv wr=>∃ (i:Nat) (u:Value) (out:List Rx) (d:Bool),iv=.int .i64 i/\u=ov/\dv=.bool d/\q=N-i/\i<=N/\out.length<=2*i/\Hid (Bx yx 22 93 I wr (r+1) u out)/\Hid (out++Rk.setL geS x.1 (some x.2) (rs.drop i) d=Rk.setL geS x.1 (some x.2) rs gone));case atStart=>exact⟨0,_,[],gone,rfl,rfl,rfl,rfl,Nat.zero_le _,by simp,aV,hid (by simp)⟩
 obtain⟨i,u,out,d,rfl,hu,rfl,hq,bz,aR,HB,HO⟩:=hrel;subst hu;obtain⟨k1,k2,k3,k4,K,k6⟩:=D.out wr HB.out.below;obtain⟨ua,uc,aS⟩:=zu HB.out.own;obtain⟨un,ax⟩:∃ n,out.length=n:=⟨_,rfl⟩;rw[ax] at aS;subst aS;by_cases ae:i<N;rotate_left
 ·have aQ:¬ (i:Int)<(N:Int):=by omega
  obtain rfl:i=N:=by omega
  have aD:Hid (rs.drop i=[]):=hid (List.drop_of_length_le (by rw[HN.out];exact Wz8 _))
  have ah:Hid (∀ (W:World) (v:Value) (l:List Rx),Bx yx 22 93 I W (r+1) v l->l=Rk.setL geS x.1 (some x.2) rs gone->W.frozen? ⟨Q,0,none⟩=false/\W.cell? ⟨Q,0,none⟩=some (.slice a i c)/\zxu G Q v2 (Rk.setL geS x.1 (some x.2) rs gone) ls w (.returned (.tuple #[])) (W.setCell ⟨Q,0,none⟩ v)):=fun W v l hB hl=>by
   obtain⟨q1,q2,q3,q4,q5,q6⟩:=D.out W hB.below;have ht:Tf 39 W (W.setCell ⟨Q,0,none⟩ v):=Tf.set (p:=⟨Q,0,none⟩) q2.box v;have hr:=b7.out;refine⟨by simp[World.frozen?,q2.box],q4,rfl,⟨v,by rw[zV q2.box];rfl,?_,zK q2.r2 ht (by decide),?_,q2.ok2,?_,q2.few.2⟩,(Al.below (by rw[HR.out];exact q1)).trans (Al.of_set (S:=fun i=>i=Q) (p:=⟨Q,0,none⟩) rfl _) (fun i h=>.inl h)⟩
   ·have:=qv (zK hB.own ht (by decide)) (B':=G) (by omega);rw[hl] at this;exact this
   ·exact FQ geS x.1 x.2 HX.out rs gone aF.out
   have h1:=bi.out rs gone;have h2:=HN.out;omega
  clear k1 k2 k3 K k6 ax;cases d with
  | true =>
   have hl:out=Rk.setL geS x.1 (some x.2) rs gone:=(by have:=HO.out;rw[aD.out] at this;simpa [Rk.setL] using this);obtain⟨f1,f2,f3⟩:=ah.out wr _ out HB.out hl;have F3:=hid f3;clear f3 hl;go_wp2;exact bodyPost_end (results_none results56 _ _ _) rfl F3.out
  | false =>
   have HL:Hid (out++[x]=Rk.setL geS x.1 (some x.2) rs gone):=hid (by have:=HO.out;rw[aD.out] at this;simpa [Rk.setL] using this);have K6:=hid (D.out wr HB.out.below).2.2.2.2.2;have am:Hid (Bx yx 22 93 I (wr.alloc (.cells E.toArray 93)) (r+1) (.slice ua un uc) out):=hid (HB.out.alloc _);go_wp2_with (first
    | (refine zX rfl 93 (.tmp 4) rfl r E.toArray 93 (0,0) _ rfl K6.out underlying93 rfl ai.out ?_;go_frame)
    | (refine z8 rfl _ (qJ 36 (.tmp 62) rfl (.agg E.toArray) _ rfl (aB.out _)) ?_;go_frame)
    | (at_builtin;refine zy (enc:=yx) (k:=22) (d:=dR) rfl _ _ 36 93 Nj U1 rfl (by decide) (by decide) Y9 rfl (r+1) _ out rfl am.out (some ⟨wr.heap.size,0,none⟩) 1 [x] rfl (aG.out wr) (fun z hz=>by rw[Wqk.1 hz];exact vq HX.out) (bg.out out (by omega)) ?_;intro v4 w4 M au aw;obtain⟨va,vc,ag⟩:=zu M.own;subst ag;obtain⟨f1,f2,f3⟩:=ah.out w4 _ _ M HL.out;rw[Wzy,List.length_singleton] at f3;have F3:=hid f3;clear M au aw f3))
   exact bodyPost_end (results_none results56 _ _ _) rfl F3.out
 have aQ:(i:Int)<(N:Int):=by omega
 obtain⟨b,off,bm,_,_⟩:=k3.at_ (by rw[HN.out];omega);subst bm;obtain⟨y,hy⟩:∃ y,(rs.getD i dR).1=y:=⟨_,rfl⟩;obtain⟨Y,HY⟩:=nm_ (⟨y.toArray⟩:ByteArray);obtain⟨EL,L⟩:∃ EL,yx (rs.getD i dR)=EL:=⟨_,rfl⟩;have a7:Hid (jW (rs.getD i dR)):=hid (aF.out _ (zQ rs i dR (by rw[HN.out];exact ae)))
 have b9:Hid ((prog.info? 93).map (·.size)=some EL.length):=hid (by rw[<-L,vq a7.out];kernel_rfl);have aC:Hid (∀ W:World,(Instr.buildSlice 36 1 #[(0,.agg EL.toArray)]).run prog W=.ok (.slice (some ⟨W.heap.size,0,none⟩) 1 1) (W.alloc (.cells EL.toArray 93))):=fun W=>by rw[<-L];exact KQ _ a7.out W
 have aH:Hid (∀ W:World,Px yx 22 dR (W.alloc (.cells EL.toArray 93)) (some ⟨W.heap.size,0,none⟩) 1 [rs.getD i dR]):=fun W=>by
  have:=x5 (enc:=yx) (d:=dR) W (rs.getD i dR) 93;rw[vq a7.out,L] at this;exact this
 have aI:Hid (∀ W,Below (r+1) I W->W.rangeAt b (off+i*22) EL):=fun W hW=>by
  obtain⟨_,_,e1,_,e3⟩:=(D.out W hW).2.2.1.at_ (by rw[HN.out];omega);cases e1
  rw[<-L];exact e3 i (by rw[HN.out];exact ae)
 have ao:Hid (∀ W,Below (r+1) I W->W.cell? ⟨b,off+i*22,none⟩=some (.string Y)):=fun W hW=>by
  have:=aI.out W hW 0 (sV y) (by rw[<-L,<-hy];rfl);rw[<-HY.out];exact this
 have b2:Hid (rs.drop i=rs.getD i dR :: rs.drop (i+1)):=hid (by
  rw[List.drop_eq_getElem_cons (by rw[HN.out];exact ae),List.getD_eq_getElem?_getD,List.getElem?_eq_getElem (by rw[HN.out];exact ae)];rfl)
 have bj:Hid ((rs.getD i dR).1=y):=hid hy;have bh:Hid (out.length<=2*i/\i<=100000):=hid ⟨aR,by omega⟩;have k7:=ao.out wr HB.out.below;unfold sV at K;rw[a6.out] at K;clear hy L k1 k2 k3 ax
 have LG:∀ (A:List Rx) (d':Bool),(d=true/\A=out/\d'=true) ∨ (d=false/\geS y x.1=true/\A=out++[x]/\d'=true) ∨ (d=false/\geS y x.1=false/\A=out/\d'=false)->(y=x.1->A++Rk.setL geS x.1 (some x.2) (rs.drop (i+1)) d'=Rk.setL geS x.1 (some x.2) rs gone)/\(y ≠ x.1->(A++[rs.getD i dR])++Rk.setL geS x.1 (some x.2) (rs.drop (i+1)) d'=Rk.setL geS x.1 (some x.2) rs gone):=by
  intro A d' hc;have ay:=bj.out;rw[<-HO.out,b2.out];revert ay;generalize rs.getD i dR=rx;intro ay;rcases hc with ⟨rfl,rfl,rfl⟩ | ⟨rfl,ad,rfl,rfl⟩ | ⟨rfl,ad,rfl,rfl⟩;all_goals
   refine⟨fun az=>?_,fun az=>?_⟩;all_goals
    conv=>rhs;unfold Rk.setL
    simp[ay,az];(try (rw[az] at ad;simp[ad]));try simp[ad]
 have ap:=hid LG;have bf:Hid (∀ z,geS y x.1=z->Op.bytesLess Y.toList X.toList = !z):=hid fun z hz=>by
  rw[<-HY.out,<-a6.out,Lib.toList_data,Lib.toList_data,<-hz];unfold geS;simp
 have b6:Hid (∀ z,decide (y=x.1)=z->(Y.toList == X.toList)=z/\(Y == X)=z):=hid fun z hz=>by
  have h:(Y.toList == X.toList)=z:=by
   rw[<-HY.out,<-a6.out,Lib.toList_data,Lib.toList_data,<-hz];by_cases e:y=x.1
   ·rw[decide_eq_true e,e];exact beq_self_eq_true _
   rw[decide_eq_false e];simpa using e
  exact⟨h,by rw[beq_toListBytes];exact h⟩
 obtain⟨gb,av⟩:∃ z,geS y x.1=z:=⟨_,rfl⟩;have bo:=bf.out gb av;have aE:=hid av;clear LG K k6 k7 av;repeat (first | (refine Qq 6 ?_) | go_skip | go_guarded | go_step | go_upon)
 refine⟨Qz [6,7,19,20,21,22,23,24,25,26,27,28,29,30,31,32,33,34,35,36,37] (fun f W=>∃ (v:Value) (A:List Rx) (d':Bool),f 6=v/\f 7=.bool d'/\A.length<=2*i+1/\Bx yx 22 93 I W (r+1) v A/\(y=x.1->A++Rk.setL geS x.1 (some x.2) (rs.drop (i+1)) d'=Rk.setL geS x.1 (some x.2) rs gone)/\(y ≠ x.1->(A++[rs.getD i dR])++Rk.setL geS x.1 (some x.2) (rs.drop (i+1)) d'=Rk.setL geS x.1 (some x.2) rs gone)) ?_ (fun f W hW=>?_)⟩
 ·rcases(show d=true ∨ (d=false/\gb=true) ∨ (d=false/\gb=false) by cases d <;> cases gb <;> simp) with rfl | ⟨rfl,rfl⟩ | ⟨rfl,rfl⟩;all_goals
   go_wp2_with (fail)
   obtain⟨k1,k2,k3,k4,K,k6⟩:=D.out wr HB.out.below;have k7:=ao.out wr HB.out.below;unfold sV at K;rw[a6.out] at K;clear k1 k2 k3 k6;refine wp_region_held_drew (S:=Qt Q r (some ⟨b,off,none⟩) N c ⟨b,off+i*22,none⟩ Y X) (by kernel_rfl) ⟨k4,k7,K⟩ (fun j=>?_);have J:Below wr.heap.size wr wr.drew:=zj _ _ 1
   have O:Hid (Bx yx 22 93 I wr.drew (r+1) (.slice ua un uc) out):=hid (HB.out.carry J);generalize wr.drew=w8 at j J O ⊢;iterate 15
    first | refine qvk j ?_ | refine qvv j ?_
    try simp only[Act.put,sL]
   refine wpAnyH_done (by kernel_rfl) ?_ _;clear j J k4 K k7
  ·go_wp2_with (fail)
   exact⟨rfl,by kernel_rfl,_,out,true,rfl,rfl,by omega,O.out,ap.out _ _ (.inl ⟨by first | rfl | trivial,rfl,rfl⟩)⟩
  ·have K6:=hid (D.out _ O.out.below).2.2.2.2.2;have am:Hid (Bx yx 22 93 I (w8.alloc (.cells E.toArray 93)) (r+1) (.slice ua un uc) out):=hid (O.out.alloc _);go_wp2_with (first
   | (refine zX rfl 93 (.tmp 4) rfl r E.toArray 93 (0,0) _ rfl K6.out underlying93 rfl ai.out ?_;go_frame)
   | (refine z8 rfl _ (qJ 36 (.tmp 35) rfl (.agg E.toArray) _ rfl (aB.out _)) ?_;go_frame)
   | (at_builtin;refine zy (enc:=yx) (k:=22) (d:=dR) rfl _ _ 36 93 Nj U1 rfl (by decide) (by decide) Y9 rfl (r+1) _ out rfl am.out (some ⟨w8.heap.size,0,none⟩) 1 [x] rfl (aG.out w8) (fun z hz=>by rw[Wqk.1 hz];exact vq HX.out) (by have:=bh.out;simp;omega) ?_;intro v4 w4 M au aw;have aX:=hid M;clear M au aw))
   exact⟨rfl,by kernel_rfl,_,out++[x],true,rfl,rfl,by simp;omega,aX.out,ap.out _ _ (.inr (.inl ⟨by first | rfl | trivial,aE.out,rfl,rfl⟩))⟩
  go_wp2_with (fail)
  exact⟨rfl,by kernel_rfl,_,out,false,rfl,rfl,by omega,O.out,ap.out _ _ (.inr (.inr ⟨by first | rfl | trivial,aE.out,rfl,rfl⟩))⟩
 simp only[Jj,List.foldl_cons,List.foldl_nil,Act.put,List.setIfInBounds_toArray,List.set_cons_zero,List.set_cons_succ];obtain⟨v,A,d',h6,h7,aj,ar,aO,aP⟩:=hW;rw[h6,h7];obtain⟨va,vc,ag⟩:=zu ar.own;obtain⟨vn,aU⟩:∃ n,A.length=n:=⟨_,rfl⟩;rw[aU] at ag;subst ag;have Z:Hid (A.length<=2*i+1/\i<=100000):=hid ⟨aj,by omega⟩;have ak:=hid ar
 obtain⟨be,ac⟩:∃ z,decide (y=x.1)=z:=⟨_,rfl⟩;obtain⟨bw,br⟩:=b6.out be ac;have aY:Hid (be=true->_):=hid fun h=>aO (of_decide_eq_true (ac.trans h));have aZ:Hid (be=false->_):=hid fun h=>aP (of_decide_eq_false (ac.trans h));clear h6 h7 ar aU ac aO aP aR aj bo;cases be
 all_goals
  go_wp2_with (fail)
  obtain⟨k1,k2,k3,k4,K,k6⟩:=D.out W ak.out.below;have k7:=ao.out W ak.out.below;unfold sV at K;rw[a6.out] at K;clear k1 k2 k3 k6;refine wp_region_held_drew (S:=Qt Q r (some ⟨b,off,none⟩) N c ⟨b,off+i*22,none⟩ Y X) (by kernel_rfl) ⟨k4,k7,K⟩ (fun j=>?_);have J:Below W.heap.size W W.drew:=zj _ _ 1
  have V:Hid (Bx yx 22 93 I W.drew (r+1) (.slice va vn vc) A):=hid (ak.out.carry J);generalize W.drew=w9 at j J V ⊢;iterate 11
   first | refine xx j ?_ | refine takeO j ?_
   try simp only[Act.put,sL]
  refine wpAnyH_done (by kernel_rfl) ?_ _;clear j J k4 K k7
 ·have aJ:=hid (aI.out _ V.out.below);have bA:=(D.out _ V.out.below).2.2.2.1;have aA:Hid (Bx yx 22 93 I (w9.alloc (.cells EL.toArray 93)) (r+1) (.slice va vn vc) A):=hid (V.out.alloc _);go_wp2_with (first
  | (refine wpList_load_mid rfl 93 (.tmp 55) rfl _ _ rfl EL _ aJ.out underlying93 rfl b9.out ?_;go_frame)
  | (refine z8 rfl _ (qJ 36 (.tmp 56) rfl (.agg EL.toArray) _ rfl (aC.out _)) ?_;go_frame)
  | (at_builtin;refine zy (enc:=yx) (k:=22) (d:=dR) rfl _ _ 36 93 Nj U1 rfl (by decide) (by decide) Y9 rfl (r+1) _ A rfl aA.out (some ⟨w9.heap.size,0,none⟩) 1 [rs.getD i dR] rfl (aH.out w9) (fun z hz=>by rw[Wqk.1 hz];exact vq a7.out) (by have:=Z.out;simp at this ⊢;omega) ?_;intro v3 w3 aM bn bp;have aW:=hid aM;clear aM bn bp))
  go_roundg (N-(i+1));case measure=>omega
  case rel=>exact⟨i+1,_,A++[rs.getD i dR],d',by go_num,rfl,rfl,rfl,by omega,by have:=Z.out;simp;omega,aW,hid (aZ.out (by first | rfl | trivial))⟩
 go_wp2_with (fail)
 go_roundg (N-(i+1));case measure=>omega
 case rel=>exact⟨i+1,_,A,d',by go_num,rfl,rfl,rfl,by omega,by have:=Z.out;omega,V,hid (aY.out (by first | rfl | trivial))⟩
theorem jQ:(prog.info? 144).map (fun i=>(i.zero,i.size,i.bytes))=some (some (.agg (yj ([],⟨zZ,zZ,⟨[],[],0,0⟩,[]⟩)).toArray),46,120):=by kernel_rfl
theorem Vj:prog.underlying 37=some (.slice 144):=by kernel_rfl
theorem SY:(Value.agg (yj ([],⟨zZ,zZ,⟨[],[],0,0⟩,[]⟩)).toArray).cells.size=46:=by kernel_rfl
theorem z88:(Value.agg (yx ([],zZ,[])).toArray).cells.size=22:=by kernel_rfl
theorem Yj (x:Ex) (h:X7 x) (w:World):(Instr.buildSlice 37 1 #[(0,.agg (yj x).toArray)]).run prog w=.ok (.slice (some ⟨w.heap.size,0,none⟩) 1 1) (w.alloc (.cells (yj x).toArray 144)):=by
 obtain⟨i,hq,hz,hs,_⟩:=qQ jQ;refine run_buildSlice w 37 144 1 _ (yj x).toArray i _ Vj hq hz (by rw[hs];decide) (by rw[hs];decide) ?_;rw[hs];obtain⟨j,x,y,⟨pn,pm,pt,pz⟩,tx⟩:=x;have A:=h.2;obtain⟨a0,a1,a2,a3,a4,a5,a6,a7,a8,a9,D,G,I,J,K,L,M,O,Q,V,rfl⟩:=yJ x A.1.1
 obtain⟨b0,b1,b2,b3,b4,b5,b6,b7,b8,b9,Y,Z,ac,ad,ae,ag,ah,ai,aj,ak,rfl⟩:=yJ y A.2.1;unfold yj qw sV;simp only;generalize (⟨pn.toArray⟩:ByteArray)=P1;generalize (⟨pm.toArray⟩:ByteArray)=P2;generalize (⟨tx.toArray⟩:ByteArray)=P3;generalize (⟨j.toArray⟩:ByteArray)=P4;show _=_;kernel_rfl
theorem results17:f17.results=#[.tmp 2]:=by kernel_rfl
theorem qzK (w:World):(Instr.build 39 #[]).run prog w=.ok (.agg #[.slice none 0 0,.slice none 0 0]) w:=by kernel_rfl
structure Qc (C Q j:Nat) (v u:Value) (W:World):Prop where
 c0:W.cell? ⟨C,j,none⟩=some v
 c1:W.cell? ⟨Q,j,none⟩=some u
def Rw (rs:List Rx) (ls:List Ex) (w:World) (e:Ending) (w':World):Prop := ∃ C v1 v2,e=.returned (.pointer (some ⟨C,0,none⟩))/\w.heap.size<=C/\Dq w.heap.size w' C v1 v2 rs ls/\Below w.heap.size w w'
theorem U2 {G Q:Nat} {v1 v2:Value} {rs:List Rx} {ls:List Ex} (w:World) (h:Dq G w Q v1 v2 rs ls) :
  Calls prog 17 #[.pointer (some ⟨Q,0,none⟩)] w (Rw rs ls w):=by
 obtain⟨r,HR⟩:=nm_ w.heap.size;obtain⟨a1,c1,e1,av,aZ,aB⟩:=h.px1;obtain⟨a2,c2,e2,aw,b2,aC⟩:=h.px2;have ax:Q<r:=by rw[<-HR.out];exact z7 h.box
 have aM:=qzK;obtain⟨O,a8⟩:=nm_ (w.alloc (.cells #[.slice none 0 0,.slice none 0 0] 39));have aK:Below r w O:=by rw[<-a8.out,<-HR.out];exact(Below.refl _ w).alloc (Wz8 _) _
 have aD:O.heap.size=r+1:=by rw[<-a8.out,<-HR.out];simp
 have hr0:O.heap[r]? = some (.cells #[.slice none 0 0,.slice none 0 0] 39):=by rw[<-a8.out,<-HR.out];exact heap_alloc_new _ _
 obtain⟨N1,ak⟩:=nm_ rs.length;obtain⟨N2,am⟩:=nm_ ls.length;rw[ak.out] at aB;rw[am.out] at aC;have HH:=hid h;have aG:Hid (∀ W,Below r w W->Px yx 22 dR W a1 c1 rs):=fun W D=>av.below (by rw[HR.out];exact D);have aH:Hid (∀ W,Below r w W->Px yj 46 dE W a2 c2 ls):=fun W D=>aw.below (by rw[HR.out];exact D)
 have aI:Hid (∀ W,Below r w W->W.cell? ⟨Q,0,none⟩=some (.slice a1 N1 c1)):=fun W D=>(D.cell (p:=⟨Q,0,none⟩) ax).trans aB;have aJ:Hid (∀ W,Below r w W->W.cell? ⟨Q,1,none⟩=some (.slice a2 N2 c2)):=fun W D=>(D.cell (p:=⟨Q,1,none⟩) ax).trans aC;clear h av aw;go_enter func17,ntmps17
 go_wp2_with (refine z8 rfl (.agg #[.slice none 0 0,.slice none 0 0]) (yy 39 rfl (aM _)) ?_;go_frame)
 rw[a8.out,HR.out];have aP:∀ W:World,Below (r+1) O W->∀ j,W.frozen? ⟨r,j,none⟩=false:=fun W D j=>by simp[World.frozen?,(D.block r (by omega)).trans hr0]
 have V:Hid (∀ W,Below (r+1) O W->Below r w W):=fun W D=>aK.trans (D.mono (by omega));have ao:Hid (∀ W,Below (r+1) O W->Qc r Q 0 (.slice none 0 0) (.slice a1 N1 c1) W):=fun W D=>⟨by rw[cell_of_row _ _ 0 _ _ _ ((D.block r (by omega)).trans hr0)];rfl,aI.out W (V.out W D)⟩;have ac:Below (r+1) O O.drew:=by rw[<-aD];exact zj _ _ 1
 have ar:Hid (Bx yx 22 93 O O.drew (r+1) (.slice none 0 0) []):=hid (by
  have:=uk (enc:=yx) (k:=22) 93 O (r+1) (by omega);exact this.carry (by rw[aD];exact ac))
 have ah:=ao.out _ ac;refine Y5 (Qc r Q 0 (.slice none 0 0) (.slice a1 N1 c1)) 12 (by kernel_rfl) ?_;generalize O.drew=u0 at ah ac ar ⊢;iterate 9
  refine QZ (v:=?_) ah ?_ ?_;rotate_left
  ·rintro w' ⟨c0,c1⟩;go_simp;rfl
  try simp only[Act.put,sL]
 refine xZ (i:=9) (by kernel_rfl) (ju rfl (fun KK A=>?_));refine UQ (enc:=yx) (k:=22) (d:=dR) (.tmp 10) (.tmp 14) 36 93 Nj U1 z88 (by decide) (by decide) Y9 (r+1) (.slice none 0 0) [] rfl ar.out a1 c1 rs (by rw[ak.out];rfl) (aG.out _ (V.out _ ac)) (fun x hx=>vq (HH.out.ok1 x hx)) (by have:=HH.out.few.1;simp;omega) ?_;intro v3 u1 I aS
 rw[WyX] at I;obtain⟨va,vc,aW⟩:=zu I.own;subst aW;have Z:=ao.out _ I.below;refine A.out _ _ (.inr Z) ?_;clear A KK ah;try simp only[Act.put,sL]
 refine xZ (i:=10) (by kernel_rfl) (ju rfl (fun KK A=>?_));go_simp;refine A.out _ _ (.inr Z) ?_;clear A KK;try simp only[Act.put,sL]
 refine xZ (i:=11) (by kernel_rfl) (ju rfl (fun KK A=>?_));go_simp;refine A.out _ _ (.inr Z) ?_;clear A KK;try simp only[Act.put,sL]
 have aN:=aP u1 I.below 0;have aQ:=Z.c0;refine xZ (i:=12) (by kernel_rfl) (ju rfl (fun KK A=>?_));go_simp;refine A.out _ _ (.inl rfl) ?_;clear A KK;try simp only[Act.put,sL]
 refine Su (by kernel_rfl) ?_ _;obtain⟨n1,aY⟩:∃ n,rs.length=n:=⟨_,rfl⟩;have ad:u1.heap[r]? = some (.cells #[.slice none 0 0,.slice none 0 0] 39):=(I.below.block r (by omega)).trans hr0;obtain⟨M,J⟩:=nm_ (u1.setCell ⟨r,0,none⟩ (.slice va rs.length vc));have a7:M.heap[r]? = some (.cells #[.slice va rs.length vc,.slice none 0 0] 39):=by rw[<-J.out,zV ad];rfl
 have aE:M.heap.size=u1.heap.size:=by rw[<-J.out];simp[World.setCell]
 have aL:Below r w M:=by
  have h1:=V.out u1 I.below;refine⟨by rw[<-J.out];exact h1.os,by rw[<-J.out];exact h1.tape,by rw[<-J.out];exact h1.output,by rw[aE];exact h1.size,fun k hk=>?_⟩;rw[<-J.out,Below.heap_setCell _ _ _ k (show k ≠ r by omega)];exact h1.block k hk
 have aU:M.ownsRow (r+1) 93 22 (.slice va rs.length vc) rs.length (rs.flatMap yx):=by
  rw[<-J.out];exact zK I.own (Tf.set (p:=⟨r,0,none⟩) ad _) (by decide)
 have ag:r+1<=M.heap.size:=by rw[aE];exact I.le
 rw[J.out];have Y:Hid (∀ W,Below (r+1) M W->Below r w W):=fun W D=>aL.trans (D.mono (by omega));have az:∀ W:World,Below (r+1) M W->W.frozen? ⟨r,1,none⟩=false:=fun W D=>by simp[World.frozen?,(D.block r (by omega)).trans a7]
 have ap:Hid (∀ W,Below (r+1) M W->Qc r Q 1 (.slice none 0 0) (.slice a2 N2 c2) W):=fun W D=>⟨by rw[cell_of_row _ _ 1 _ _ _ ((D.block r (by omega)).trans a7)];rfl,aJ.out W (Y.out W D)⟩;have aj:Below (r+1) M M.drew:=(zj _ _ 1).mono ag
 have au:Hid (Bx yj 46 144 M M.drew (r+1) (.slice none 0 0) []):=hid ((uk (enc:=yj) (k:=46) 144 M (r+1) ag).carry (zj _ _ 1));have aF:=hid aU;have ai:=ap.out _ aj;have ay:Below M.heap.size M M.drew:=zj _ _ 1;clear I aS Z aN aQ;go_wp2;refine Y5 (Qc r Q 1 (.slice none 0 0) (.slice a2 N2 c2)) 12 (by kernel_rfl) ?_
 generalize M.drew=u3 at ai aj au ay ⊢;iterate 9
  refine QZ (v:=?_) ai ?_ ?_;rotate_left
  ·rintro w' ⟨c0,c1⟩;go_simp;rfl
  try simp only[Act.put,sL]
 refine xZ (i:=9) (by kernel_rfl) (ju rfl (fun KK A=>?_));refine UQ (enc:=yj) (k:=46) (d:=dE) (.tmp 22) (.tmp 26) 37 144 Vj jQ SY (by decide) (by decide) jz (r+1) (.slice none 0 0) [] rfl au.out a2 c2 ls (by rw[am.out];rfl) (aH.out _ (Y.out _ aj)) (fun x hx=>yX (HH.out.ok2 x hx)) (by have:=HH.out.few.2;simp;omega) ?_
 intro v4 u4 K aA;rw[WyX] at K;obtain⟨wa,wc,aX⟩:=zu K.own;subst aX;have a6:=ap.out _ K.below;refine A.out _ _ (.inr a6) ?_;clear A KK ai;try simp only[Act.put,sL]
 refine xZ (i:=10) (by kernel_rfl) (ju rfl (fun KK A=>?_));go_simp;refine A.out _ _ (.inr a6) ?_;clear A KK;try simp only[Act.put,sL]
 refine xZ (i:=11) (by kernel_rfl) (ju rfl (fun KK A=>?_));go_simp;refine A.out _ _ (.inr a6) ?_;clear A KK;try simp only[Act.put,sL]
 have aO:=az u4 K.below;have aR:=a6.c0;refine xZ (i:=12) (by kernel_rfl) (ju rfl (fun KK A=>?_));go_simp;refine A.out _ _ (.inl rfl) ?_;clear A KK;try simp only[Act.put,sL]
 refine Su (by kernel_rfl) ?_ _;have ae:u4.heap[r]? = some (.cells #[.slice va rs.length vc,.slice none 0 0] 39):=(K.below.block r (by omega)).trans a7;have HF:Hid (Rw rs ls w (.returned (.pointer (some ⟨r,0,none⟩))) (u4.setCell ⟨r,1,none⟩ (.slice wa ls.length wc))):=hid (by
  have ht:Tf 39 u4 (u4.setCell ⟨r,1,none⟩ (.slice wa ls.length wc)):=Tf.set (p:=⟨r,1,none⟩) ae _;have L:=Y.out u4 K.below;have aV:u4.ownsRow (r+1) 93 22 (.slice va rs.length vc) rs.length (rs.flatMap yx):=by
   exact vj (vj aF.out ay) (aA.below (fun k hk=>by cases hk) (Wz8 _))
  refine⟨r,_,_,rfl,by rw[HR.out];exact Wz8 _,⟨by rw[zV ae];rfl,qv (zK aV ht (by decide)) (by rw[HR.out];omega),qv (zK K.own ht (by decide)) (by rw[HR.out];omega),HH.out.ok1,HH.out.ok2,HH.out.few⟩,?_⟩;rw[HR.out];refine⟨L.os,L.tape,L.output,by simp[World.setCell];exact L.size,fun k hk=>?_⟩
  rw[Below.heap_setCell _ _ _ k (show k ≠ r by omega)];exact L.block k hk)
 clear K aA a6 aO aR;go_wp2;exact bodyPost_ret (results_tmp results17 _ _ _) rfl HF.out
end Go.Proofs.YtdnphaganajejaaGreatDoor.K
