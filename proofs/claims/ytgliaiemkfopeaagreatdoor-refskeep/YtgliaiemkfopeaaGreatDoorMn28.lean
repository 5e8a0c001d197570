import Derived.Test.YtgliaiemkfopeaaGreatDoorMn27
import Derived.Test.YtgliaiemkfopeaaGreatDoorMn26
import Derived.Test.YtgliaiemkfopeaaGreatDoorMn13
set_option linter.unusedSimpArgs false
set_option linter.unusedVariables false
set_option maxRecDepth 20000
set_option maxHeartbeats 4000000
namespace Go.Proofs.YtgliaiemkfopeaaGreatDoor.K
open Go.RowKit
def rOk (x:Rx):Prop:=isN x.1=true/\IdW x.2.1/\((x.2.2=[]/\x.2.1 ≠ zQ) ∨ (isN x.2.2=true/\x.2.2 ≠ x.1/\x.2.1=zQ))
structure Ib (k:Nat) (m:Rk.Tb Str Kp Le) (rs:List Rx) (ls:List Ex):Prop where
 r:Rk.R ⟨rs,ls⟩ m
 asc:rs.Pairwise fun x y=>ltS x.1 y.1
 rok:∀ x ∈ rs,rOk x
 lok:∀ e ∈ ls,uy e.2/\okG e.2.who e.2.text
 n1:rs.length<=21*k
 n2:ls.length<=180*k
structure Iv (k:Nat) (m:Rk.Tb Str Kp Le) (rs:List Rx) (ls:List Ex):Prop extends Ib k m rs ls where
 cl:¬ Rk.clD (rs.map (·.1))
theorem kT_aT (T:Ts) (x:Str):kT T x=(aT T x).map (·.1):=by unfold kT aT;cases T x <;> rfl
theorem Ib.kt {k:Nat} {m:Rk.Tb Str Kp Le} {rs:List Rx} {ls:List Ex} (h:Ib k m rs ls) {T:Ts} (hT:aT T=m):kT T=Rk.fd rs:=by
 funext x
 rw[kT_aT,hT,h.r.at x]
 cases Rk.fd rs x <;> rfl
theorem Ib.wy {k:Nat} {m:Rk.Tb Str Kp Le} {rs:List Rx} {ls:List Ex} (h:Ib k m rs ls) {T:Ts} (hT:aT T=m) (n:Nat):wyT T n=wyF (Rk.fd rs) n:=by
 funext x
 show Rk.wy tgK (kT T) n x=Rk.wy tgK (Rk.fd rs) n x
 rw[h.kt hT]
theorem Ib.rdt {k:Nat} {m:Rk.Tb Str Kp Le} {rs:List Rx} {ls:List Ex} (h:Ib k m rs ls) {T:Ts} (hT:aT T=m) (x:Str):rdN T x=rdD rs x/\(isN x=true->rdT T x=rdD rs x):=by
 have hk:=h.kt hT
 have hw:wyT T 8 x=wyF (Rk.fd rs) 8 x:=by rw[h.wy hT]
 have key:isN x=true->rdT T x=rdD rs x:=fun hi=>by
  unfold rdD rdF rdT
  rw[hw,hi]
  simp only[if_true]
  cases wyF (Rk.fd rs) 8 x with
  | none=>rfl
  | some l =>
   simp only
   rw[<-hk]
   unfold kT
   cases T (l.getD (l.length-1) []) <;> rfl
 refine⟨?_,key⟩
 unfold rdN
 cases hi:isN x with
 | false=>unfold rdD rdF;rw[hi];rfl
 | true=>simp only[if_true];exact key hi
theorem Ib.at {k:Nat} {m:Rk.Tb Str Kp Le} {rs:List Rx} {ls:List Ex} (h:Ib k m rs ls) {T:Ts} (hT:aT T=m) (x:Str):(T x=none/\Rk.fd rs x=none) ∨ (∃ r,T x=some r/\Rk.fd rs x=some (r.id,r.tg)/\r.log=Rk.lg ls x):=by
 have h1:=h.r.at x
 rw[<-hT] at h1
 unfold aT at h1
 cases hx:T x with
 | none =>
  rw[hx] at h1
  refine .inl ⟨rfl,?_⟩
  cases hf:Rk.fd rs x with
  | none=>rfl
  | some k=>rw[hf] at h1;cases h1
 | some r =>
  rw[hx] at h1
  cases hf:Rk.fd rs x with
  | none=>rw[hf] at h1;cases h1
  | some k =>
   rw[hf] at h1
   simp only[Option.map_some,Option.some.injEq,Prod.mk.injEq] at h1
   exact .inr ⟨r,rfl,by rw[h1.1],h1.2⟩
theorem Ib.tg {k:Nat} {m:Rk.Tb Str Kp Le} {rs:List Rx} {ls:List Ex} (h:Ib k m rs ls) {T:Ts} (hT:aT T=m) (x:Str):tgN T x=tgD rs x:=by
 unfold tgN tgD gt
 cases isN x with
 | false=>rfl
 | true =>
  rcases h.at hT x with ⟨h1,h2⟩ | ⟨r,h1,h2,_⟩
  ·rw[h1,h2];rfl
  ·rw[h1,h2];rfl
theorem Ib.lgn {k:Nat} {m:Rk.Tb Str Kp Le} {rs:List Rx} {ls:List Ex} (h:Ib k m rs ls) {T:Ts} (hT:aT T=m) (x:Str):oL (lgN T x)=(oX (lgD rs ls x)).map (·.2)/\oN (lgN T x)=oN (lgD rs ls x):=by
 unfold lgN lgD gt
 cases isN x with
 | false=>exact⟨rfl,rfl⟩
 | true =>
  rcases h.at hT x with ⟨h1,h2⟩ | ⟨r,h1,h2,h3⟩
  ·rw[h1,h2];exact⟨rfl,rfl⟩
  ·rw[h1,h2]
   exact⟨h3,rfl⟩
theorem Ib.nms {k:Nat} {m:Rk.Tb Str Kp Le} {rs:List Rx} {ls:List Ex} (h:Ib k m rs ls) {T:Ts} (hT:aT T=m) {ss:List Str} (hn:Nms T ss):ss=rs.map (·.1):=by
 refine h.r.names ltS ltS_irr ltS_tr h.asc ss ?_ ?_
 ·refine(List.pairwise_and_iff.2 ⟨hn.pw,hn.nd⟩).imp fun {x y} hxy=>?_
  exact Classical.byContradiction fun hn=>(of_decide_eq_true hxy.1) ((QZ _ _).1 (ltS_tot _ _ hn hxy.2))
 ·intro a
  rw[hn.mem,<-hT]
  unfold aT
  cases T a <;> simp
theorem fm_congr {α β:Type} {f g:α->Option β} : ∀ {l:List α},(∀ x ∈ l,f x=g x)->l.filterMap f=l.filterMap g
 | [],_=>rfl
 | x :: l,h=>by
  rw[List.filterMap_cons,List.filterMap_cons,h x (List.mem_cons_self ..),fm_congr (fun y hy=>h y (List.mem_cons_of_mem _ hy))]
theorem Ib.list {k:Nat} {m:Rk.Tb Str Kp Le} {rs:List Rx} {ls:List Ex} (h:Ib k m rs ls) {T:Ts} (hT:aT T=m) {ss:List Str} (hn:Nms T ss) (p:Str):ltT T ss p=(lsD rs p).map (fun r=>(r.1,r.2.1)):=by
 rw[h.nms hT hn]
 unfold ltT lsD
 rw[List.filterMap_map,List.map_filterMap]
 refine fm_congr fun x hx=>?_
 have hi:=(h.rok x hx).1
 show lt1 T p x.1=_
 unfold lt1 ls1
 rw[(h.rdt hT x.1).2 hi]
 cases Lib.hasPrefix x.1 p with
 | false=>rfl
 | true =>
  simp only[if_true]
  cases rdD rs x.1 <;> rfl
theorem Ib.few {k:Nat} {m:Rk.Tb Str Kp Le} {rs:List Rx} {ls:List Ex} (h:Ib k m rs ls) {T:Ts} (hT:aT T=m) {ss:List Str} (hn:Nms T ss):ss.length<=21*k:=by
 rw[h.nms hT hn,List.length_map]
 exact h.n1
theorem mem_of_fd:∀ (rs:List Rx) (x:Str) (k:Kp),Rk.fd rs x=some k->(x,k) ∈ rs
 | [],x,k,h=>by cases h
 | r :: rs,x,k,h=>by
  by_cases e:r.1=x
  ·simp only[Rk.fd,e,if_true,Option.some.injEq] at h
   rw[<-e,<-h]
   exact List.mem_cons_self ..
  ·simp only[Rk.fd,e,if_false] at h
   exact List.mem_cons_of_mem _ (mem_of_fd rs x k h)
theorem Ib.fdok {k:Nat} {m:Rk.Tb Str Kp Le} {rs:List Rx} {ls:List Ex} (h:Ib k m rs ls) {x:Str} {q:Kp} (hf:Rk.fd rs x=some q):rOk (x,q):=h.rok _ (mem_of_fd rs x q hf)
theorem dgo_end:∀ (t cur:Str) (pv:Option UInt8),Nm.dgo cur pv t=true->t.getLast? ≠ some 47
 | [],cur,pv,h=>by simp
 | [c],cur,pv,h=>fun e=>by
  simp only[List.getLast?_singleton,Option.some.injEq] at e
  subst e
  simp[Nm.dgo,Nm.partOk] at h
 | c :: d :: t,cur,pv,h=>by
  rw[List.getLast?_cons_cons]
  unfold Nm.dgo at h
  split at h
  ·simp only[Bool.and_eq_true] at h
   exact dgo_end (d :: t) _ _ h.2
  ·simp only[Bool.and_eq_true] at h
   exact dgo_end (d :: t) _ _ h.2
theorem isN_end {x:Str} (h:isN x=true):x.getLast? ≠ some 47:=by
 have h1:((x == [72,69,65,68]) || Nm.docOk x)=true:=h
 rw[Bool.or_eq_true] at h1
 rcases h1 with h1 | h1
 ·rw[beq_iff_eq] at h1
  subst h1
  decide
 ·unfold Nm.docOk at h1
  simp only[Bool.and_eq_true] at h1
  exact dgo_end x _ _ h1.2
theorem YX {m:Rk.Tb Str Kp Le} {rs:List Rx} {ls:List Ex} (h:Rk.R ⟨rs,ls⟩ m) (hn:∀ x ∈ rs,isN x.1=true):clA (fun z=>(m z).isSome) ↔ Rk.clD (rs.map (·.1)):=by
 have hm:∀ z,(m z).isSome=true ↔ z ∈ rs.map (·.1):=fun z=>by
  rw[<-Rk.fd_mem,h.at z]
  cases Rk.fd rs z <;> simp
 rw[<-Rk.cl_iff (rs.map (·.1)) (fun b hb=>by
  obtain⟨x,hx,rfl⟩:=List.mem_map.1 hb
  exact isN_end (hn x hx))]
 unfold clA Rk.clP
 constructor
 ·rintro⟨b,h1,i,h2,h3⟩
  exact⟨b,(hm b).1 h1,i,h2,(hm _).1 h3⟩
 ·rintro⟨b,h1,i,h2,h3⟩
  exact⟨b,(hm b).2 h1,i,h2,(hm _).2 h3⟩
theorem Iv.can {k:Nat} {m:Rk.Tb Str Kp Le} {rs:List Rx} {ls:List Ex} (h:Iv k m rs ls):Can m:=by
 refine⟨fun x q l hx=>?_,fun hc=>h.cl ((YX h.r fun x hx=>(h.rok x hx).1).1 hc)⟩
 have h1:=h.r.at x
 rw[hx] at h1
 cases hf:Rk.fd rs x with
 | none=>rw[hf] at h1;cases h1
 | some k' =>
  rw[hf] at h1
  simp only[Option.map_some,Option.some.injEq,Prod.mk.injEq] at h1
  have h2:=h.fdok hf
  refine⟨isN_lo h2.1,fun ht=>?_⟩
  rw[h1.1] at ht ⊢
  rcases h2.2.2 with ⟨_,h3⟩ | ⟨h3,_,_⟩
  ·exact h3
  ·simp only at h3
   rw[ht] at h3
   cases h3
theorem Tryz.results11:Tryz.f11.results=#[.tmp 6]:=by kernel_rfl
def C00 (w:World):Prop:=w.cell? ⟨0,0,none⟩=some (.iface 198 (.agg #[.pointer (some ⟨10,55,none⟩)]))
theorem C00.below {w W:World} (h:C00 w) (hb:Below w.heap.size w W):C00 W:=(hb.cell (p:=⟨0,0,none⟩) (Nm.cell_lt h)).trans h
theorem tell_o {α:Type} (o:Except Int α) (w:World) (hg:C00 w):Calls Tryz.prog 13 #[oE o] w fun e w'=>e=.returned (.int .i64 (oN o))/\Below w.heap.size w w':=by
 cases o with
 | ok x=>exact YY w
 | error k=>exact tell_errno k w hg
theorem rdD_w {rs:List Rx} (h:∀ x ∈ rs,Z9 x) (x:Str):IdW (oI (rdD rs x)):=by
 cases e:rdD rs x with
 | ok id=>exact rd_ok h e
 | error k=>exact qK.1
theorem asks_any {S:Nat->Prop} {R D t n:Nat} {go un:Bool} {T:Ts} {G Q k:Nat} {v1 v2:Value} {rs:List Rx} {ls:List Ex} (x:Str) (w:World) (hR:Rf w R D t go un) (hT:Tt S w t n T) (hD:Dq G w Q v1 v2 rs ls) (hi:Ib k (aT T) rs ls) (hm:Mx w) (hg:C00 w) :
  Calls Tryz.prog 11 #[.pointer (some ⟨R,0,none⟩),.pointer (some ⟨Q,0,none⟩),sV x] w fun e w'=>e=.returned (.bool true)/\Below w.heap.size w w':=by
 obtain⟨r,HR⟩:=nm_ w.heap.size
 have HST:Hid (∀ W,Below r w W->Rf W R D t go un/\Tt S W t n T/\Dq G W Q v1 v2 rs ls/\Mx W/\C00 W):=fun W hW=>by
  have hb:Below w.heap.size w W:=by rw[HR.out];exact hW
  exact⟨⟨(hb.block R (z7 hR.box)).trans hR.box⟩,hT.below hb,hD.below hb,hm.below hb,hg.below hb⟩
 have HTR:Hid (∀ W W',Below r w W->Below W.heap.size W W'->Below r w W'):=fun W W' h1 h2=>h1.trans (h2.mono (by have:=h1.size;have:=HR.out;omega))
 obtain⟨IA,HIA⟩:=ri (oI (rdD rs x)) (rdD_w hD.ok1 x).1
 have HI86:=hid (i86 HIA.out.i)
 have HZS:Hid ((20:Nat)=IA.size):=hid (by rw[<-HIA.out.z];rfl)
 have HEQ:Hid (∀ W:World,(Op.equalIn 10000 89 (.agg IA) (.agg IA)).run Tryz.prog W=.ok true W):=fun W=>by rw[<-HIA.out.e];exact XK 89 Qx _ (rdD_w hD.ok1 x).1 W
 obtain⟨E1,HE1⟩:=nm_ (oE (rdD rs x))
 obtain⟨k1,HK1⟩:=nm_ (oN (rdD rs x))
 obtain⟨E2,HE2⟩:=nm_ (oE (tgD rs x))
 obtain⟨k2,HK2⟩:=nm_ (oN (tgD rs x))
 obtain⟨E3,HE3⟩:=nm_ (oE (lgN T x))
 obtain⟨k3,HK3⟩:=nm_ (oN (lgN T x))
 obtain⟨B,HB⟩:=nm_ (⟨(oS (tgD rs x)).toArray⟩:ByteArray)
 obtain⟨X,HX⟩:=nm_ (⟨x.toArray⟩:ByteArray)
 have HT1:Hid (∀ W,Below r w W->Calls Tryz.prog 13 #[E1] W fun e w'=>e=.returned (.int .i64 k1)/\Below r w w'):=fun W hW=>by
  rw[<-HE1.out,<-HK1.out]
  exact(tell_o (rdD rs x) W (HST.out W hW).2.2.2.2).mono fun e w' ⟨h1,h2⟩=>⟨h1,HTR.out W w' hW h2⟩
 have HT2:Hid (∀ W,Below r w W->Calls Tryz.prog 13 #[E2] W fun e w'=>e=.returned (.int .i64 k2)/\Below r w w'):=fun W hW=>by
  rw[<-HE2.out,<-HK2.out]
  exact(tell_o (tgD rs x) W (HST.out W hW).2.2.2.2).mono fun e w' ⟨h1,h2⟩=>⟨h1,HTR.out W w' hW h2⟩
 have HT3:Hid (∀ W,Below r w W->Calls Tryz.prog 13 #[E3] W fun e w'=>e=.returned (.int .i64 k3)/\Below r w w'):=fun W hW=>by
  rw[<-HE3.out,<-HK3.out]
  exact(tell_o (lgN T x) W (HST.out W hW).2.2.2.2).mono fun e w' ⟨h1,h2⟩=>⟨h1,HTR.out W w' hW h2⟩
 have HC:Hid (Calls Tryz.prog 31 #[.pointer (some ⟨R,0,none⟩),.string X] w fun e w1=>e=.returned (.tuple #[.agg IA,E1])/\∃ W2,w1.alloc (.cells IA 89)=W2/\Calls Tryz.prog 32 #[.pointer (some ⟨Q,0,none⟩),.string X] W2 fun e w3=>e=.returned (.tuple #[.agg IA,.int .i64 k1])/\∃ W4,w3.alloc (.cells IA 86)=W4/\Calls Tryz.prog 33 #[.pointer (some ⟨R,0,none⟩),.string X] W4 fun e w5=>e=.returned (.tuple #[.string B,E2])/\Calls Tryz.prog 34 #[.pointer (some ⟨Q,0,none⟩),.string X] w5 fun e w6=>e=.returned (.tuple #[.string B,.int .i64 k2])/\Calls Tryz.prog 35 #[.pointer (some ⟨R,0,none⟩),.string X] w6 fun e w7=>∃ va,e=.returned (.tuple #[va,E3])/\Calls Tryz.prog 36 #[.pointer (some ⟨Q,0,none⟩),.string X] w7 fun e w8=>∃ vb,e=.returned (.tuple #[vb,.int .i64 k3])/\Calls Tryz.prog 37 #[va,vb] w8 fun e w9=>e=.returned (.bool true)/\w9.heap[w1.heap.size]? = some (.cells IA 89)/\w9.heap[w3.heap.size]? = some (.cells IA 86)/\Below r w w9):=hid (by
  have hxs:(.string X:Value)=sV x:=by rw[<-HX.out];rfl
  rw[hxs]
  have q1:=read_any' S R D t n go un T x w hR hT hm
  refine q1.mono ?_
  rintro e w1 ⟨he,hb1⟩
  rw[(hi.rdt rfl x).1,postR,HIA.out.e,HE1.out] at he
  have b1:Below r w w1:=by rw[<-HR.out];exact hb1
  have b2:Below r w (w1.alloc (.cells IA 89)):=HTR.out _ _ b1 ((Below.refl _ w1).alloc (Nat.le_refl _) _)
  refine⟨he,_,rfl,(readD_any x _ (HST.out _ b2).2.2.1).mono ?_⟩
  rintro e3 w3 ⟨he3,hb3⟩
  rw[HIA.out.e,HK1.out] at he3
  have b3:=HTR.out _ _ b2 hb3
  have b4:Below r w (w3.alloc (.cells IA 86)):=HTR.out _ _ b3 ((Below.refl _ w3).alloc (Nat.le_refl _) _)
  refine⟨he3,_,rfl,(target_any S R D t n go un T x _ (HST.out _ b4).1 (HST.out _ b4).2.1 (HST.out _ b4).2.2.2.1).mono ?_⟩
  rintro e5 w5 ⟨he5,hb5⟩
  rw[hi.tg rfl x] at he5
  unfold sV at he5
  rw[HB.out,HE2.out] at he5
  have b5:=HTR.out _ _ b4 hb5
  refine⟨he5,(targetD_any x w5 (HST.out _ b5).2.2.1).mono ?_⟩
  rintro e6 w6 ⟨he6,hb6⟩
  unfold sV at he6
  rw[HB.out,HK2.out] at he6
  have b6:=HTR.out _ _ b5 hb6
  refine⟨he6,(log_any S R D t n go un T x w6 (HST.out _ b6).1 (HST.out _ b6).2.1 (HST.out _ b6).2.2.2.1).mono ?_⟩
  rintro e7 w7 ⟨va,he7,hbx⟩
  rw[HE3.out] at he7
  have b7:=HTR.out _ _ b6 hbx.below
  refine⟨va,he7,(logD_any x w7 (HST.out _ b7).2.2.1).mono ?_⟩
  rintro e8 w8 ⟨vb,he8,hown,hb8⟩
  rw[<-(hi.lgn rfl x).2,HK3.out] at he8
  have b8:=HTR.out _ _ b7 hb8
  have hoka:∀ y ∈ oX (lgD rs ls x),ExOk y:=fun y hy=>by
   unfold lgD at hy
   split at hy
   ·split at hy
    ·exact hD.ok2 y (List.mem_filter.1 hy).1
    ·cases hy
   ·cases hy
  have hlen:(oX (lgD rs ls x)).length<=1000000:=by
   unfold lgD
   split
   ·split
    ·exact Nat.le_trans (List.length_filter_le _ _) hD.few.2
    ·simp[oX]
   ·simp[oX]
  obtain⟨a2,c2,hvb,hP2,hp2⟩:=vV (enc:=yz) (d:=dE) hown (fun y hy=>yy (hoka y hy))
  subst hvb
  have hown7:w8.ownsRow w6.heap.size 129 45 va (oX (lgD rs ls x)).length (((oX (lgD rs ls x)).map (·.2)).flatMap qv):=by
   have:=xV hbx.own hb8
   rw[(hi.lgn rfl x).1,List.length_map] at this
   exact this
  refine⟨_,he8,(sameLog_any w6.heap.size va (oX (lgD rs ls x)) a2 c2 w8 hown7 hP2 (fun p hp=>⟨fun e=>?_,(hp2 p hp).2⟩) hoka hlen).mono ?_⟩
  ·have h1:=(yq hbx.own p.block e).2
   have h2:=(hp2 p hp).1
   omega
  ·rintro e9 w9 ⟨rfl,hal⟩
   have hst:∀ i,i<w6.heap.size->w9.heap[i]? = w8.heap[i]? := fun i hi=>hal.blk i (by have:=hbx.below.size;have:=hb8.size;omega) (fun e=>by
    have:=(yq hbx.own i e).1
    omega)
   have hs1:w1.heap.size<(w1.alloc (.cells IA 89)).heap.size:=by simp
   have hs3:w3.heap.size<(w3.alloc (.cells IA 86)).heap.size:=by simp
   have g1:(w1.alloc (.cells IA 89)).heap[w1.heap.size]? = some (.cells IA 89):=heap_alloc_new _ _
   have g3:(w3.alloc (.cells IA 86)).heap[w3.heap.size]? = some (.cells IA 86):=heap_alloc_new _ _
   have f3:w3.heap[w1.heap.size]? = some (.cells IA 89):=(hb3.block _ hs1).trans g1
   have f4:(w3.alloc (.cells IA 86)).heap[w1.heap.size]? = some (.cells IA 89):=by rw[heap_alloc_old _ _ (z7 f3)];exact f3
   have up:∀ j o,j<(w3.alloc (.cells IA 86)).heap.size->(w3.alloc (.cells IA 86)).heap[j]? = some o->w9.heap[j]? = some o:=fun j o hj ho=>by
    have e5:=(hb5.block j hj).trans ho
    have e6:=(hb6.block j (z7 e5)).trans e5
    have e7:=(hbx.below.block j (z7 e6)).trans e6
    have e8:=(hb8.block j (z7 e7)).trans e7
    exact(hst j (z7 e6)).trans e8
   refine⟨rfl,up _ _ (z7 f4) f4,up _ _ hs3 g3,?_⟩
   refine⟨hal.os.trans b8.os,hal.tape.trans b8.tape,hal.output.trans b8.output,Nat.le_trans b8.size hal.size,fun i hi=>?_⟩
   exact(hst i (by have:=b6.size;have:=HR.out;omega)).trans (b8.block i hi))
 rw[HR.out]
 unfold sV
 rw[HX.out]
 clear hR hT hD hi hm hg
 go_enter Tryz.func11,Tryz.ntmps11
 go_wp2_with (first
  | (go_at_call 31;refine HC.out.mono ?_;rintro e w1 ⟨rfl,W2,hW2,c32⟩;have HW2:=hid hW2;have C32:=hid c32;clear hW2 c32)
  | (refine zq rfl 89 (.tmp 7) (.tmp 24) rfl _ IA rfl rfl HIA.out.i HZS.out HIA.out.o ?_;rw[HW2.out];go_frame)
  | (go_at_call 32;refine C32.out.mono ?_;rintro e w3 ⟨rfl,W4,hW4,c33⟩;have HW4:=hid hW4;have C33:=hid c33;clear hW4 c33)
  | (refine zq rfl 86 (.tmp 9) (.tmp 30) rfl _ IA rfl rfl HI86.out HZS.out HIA.out.o ?_;rw[HW4.out];go_frame)
  | (go_at_call 33;refine C33.out.mono ?_;rintro e w5 ⟨rfl,c34⟩;have C34:=hid c34;clear c34)
  | (go_at_call 34;refine C34.out.mono ?_;rintro e w6 ⟨rfl,c35⟩;have C35:=hid c35;clear c35)
  | (go_at_call 35;refine C35.out.mono ?_;rintro e w7 ⟨va,rfl,c36⟩;have C36:=hid c36;clear c36)
  | (go_at_call 36;refine C36.out.mono ?_;rintro e w8 ⟨vb,rfl,c37⟩;have C37:=hid c37;clear c37)
  | (go_at_call 37;refine C37.out.mono ?_;rintro e w9 ⟨rfl,h91,h93,b9⟩;have H91:=hid h91;have H93:=hid h93;have B9:=hid b9;have heq:=HEQ.out w9;clear h91 h93 b9)
  | (refine zu rfl 89 (.tmp 7) rfl _ IA 89 (0,0) _ rfl H91.out Tryz.underlying89 rfl HIA.out.i ?_;go_frame)
  | (refine zu rfl 86 (.tmp 9) rfl _ IA 86 (0,0) _ rfl H93.out Tryz.underlying86 rfl HI86.out ?_;go_frame)
  | (go_at_call 13;refine(HT1.out _ B9.out).mono ?_;rintro e wa ⟨rfl,ba⟩;have BA:=hid ba;clear ba HT1)
  | (go_at_call 13;refine(HT2.out _ BA.out).mono ?_;rintro e wb ⟨rfl,bb⟩;have BB:=hid bb;clear bb HT2)
  | (go_at_call 13;refine(HT3.out _ BB.out).mono ?_;rintro e wc ⟨rfl,bc⟩;have BC:=hid bc;clear bc HT3))
 exact bodyPost_ret (results_tmp Tryz.results11 _ _ _) rfl ⟨rfl,BC.out⟩
end Go.Proofs.YtgliaiemkfopeaaGreatDoor.K
