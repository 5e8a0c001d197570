import Derived.Test.YtdnphaganajejaaGreatDoorMz33
import Derived.Test.YtdnphaganajejaaGreatDoorMz35
set_option linter.unusedSimpArgs false
set_option linter.unusedVariables false
set_option maxRecDepth 20000
set_option maxHeartbeats 4000000
open List renaming cons_eq_cons->Wv3,filterMap_cons->WxW,flatMap_cons->Wzk,foldl_cons->WqW,length_append->Wzy,length_cons->Wzu,length_map->Wx7,length_zip->Wv2,map_congr_left->Wv4,map_cons->WzK,map_map->Wv5,map_nil->WzV,mem_append->Wqx,mem_cons->Wqj,mem_cons_of_mem->Wy0,mem_cons_self->Wv6,mem_filter->WqX,mem_map->Wz6,mem_singleton->Wqk,nil_append->WyX,pairwise_cons->Wv7,pairwise_map->Wv8,singleton_append->WzY
open Option renaming map_some->Wq7,some->Wq8,toList_some->Wq9
namespace Go.Proofs.YtdnphaganajejaaGreatDoor.Rk
open Go.Proofs.Tryz
variable {α κ ε : Type} [DecidableEq α]
theorem zuQ (ge:α->α->Bool) (a:α) (n:Option κ) (l:List (α × κ)):∀ (done:Bool) (x:α × κ),x ∈ setL ge a n l done->x.1=a ∨ x ∈ l:=by
 have j:∀ x:α × κ,(x ∈ n.toList.map fun k=>(a,k))->x.1=a:=by
  intro x hx;obtain⟨k,_,rfl⟩:=Wz6.mp hx;rfl
 induction l with
 | nil =>
  intro done x hx;cases done with
  | true=>simp[setL] at hx
  | false =>
   simp only[setL,Bool.false_eq_true,if_false] at hx;exact .inl (j x hx)
 | cons r l A =>
  intro done x hx;simp only[setL] at hx;rcases Wqx.mp hx with hx | hx
  ·split at hx
   ·exact .inl (j x hx)
   simp at hx
  rcases Wqx.mp hx with hx | hx
  ·split at hx
   ·simp at hx
   simp only[Wqk] at hx;exact .inr (by rw[hx];exact Wv6 ..)
  rcases A _ x hx with h | h
  ·exact .inl h
  exact .inr (Wy0 _ h)
theorem setL_done (ge:α->α->Bool) (a:α) (n:Option κ) (l:List (α × κ)):setL ge a n l true=l.filter fun x=>decide (x.1 ≠ a):=by
 induction l with
 | nil=>simp[setL]
 | cons r l j =>
  simp only[setL,Bool.not_true,Bool.false_and,Bool.false_eq_true,if_false,WyX,Bool.true_or,j];by_cases h:r.1=a <;> simp[h]
theorem setL_rising (lt:α->α->Prop) (ge:α->α->Bool) (I:∀ x y,ge x y=true ↔ ¬ lt x y)
  (J:∀ x,¬ lt x x) (V:∀ x y z,lt x y->lt y z->lt x z) (A:∀ x y,¬ lt x y->x ≠ y->lt y x) (a:α) (n:Option κ) (l:List (α × κ)) :
  ∀ done,(l.Pairwise fun x y=>lt x.1 y.1)->(setL ge a n l done).Pairwise fun x y=>lt x.1 y.1:=by
 induction l with
 | nil =>
  intro done _;cases done <;> cases n <;> simp[setL]
 | cons r l ih =>
  intro done h;cases done with
  | true =>
   rw[setL_done];exact h.filter _
  | false =>
   rw[Wv7] at h;cases G:ge r.1 a with
   | true =>
    have j:¬ lt r.1 a:=(I _ _).1 G;have D:setL ge a n (r :: l) false=(n.toList.map fun k=>(a,k))++(r :: l).filter fun x=>decide (x.1 ≠ a):=by
     simp only[setL,G,Bool.not_false,Bool.true_and,if_true,Bool.or_true,setL_done];by_cases hr:r.1=a <;> simp[hr]
    have Z:((r :: l).filter fun x=>decide (x.1 ≠ a)).Pairwise fun x y=>lt x.1 y.1:=(Wv7.2 h).filter _;have K:∀ y ∈ (r :: l).filter (fun x=>decide (x.1 ≠ a)),lt a y.1:=by
     intro y hy;simp only[WqX,decide_eq_true_eq] at hy;rcases Wqj.mp hy.1 with Y | L
     ·rw[Y] at hy ⊢;exact A _ _ j hy.2
     by_cases hr:r.1=a
     ·rw[<-hr];exact h.1 y L
     exact V _ _ _ (A _ _ j hr) (h.1 y L)
    rw[D];cases n with
    | none=>simpa using Z
    | some k =>
     simp only[Wq9,WzK,WzV,WzY,Wv7];exact⟨K,Z⟩
   | false =>
    have j:lt r.1 a:=by
     apply Classical.byContradiction;intro O;rw[(I r.1 a).2 O] at G;cases G
    have Q:¬ r.1=a:=by
     intro O;rw[O] at j;exact J a j
    simp only[setL,G,Bool.not_false,Bool.true_and,Bool.false_eq_true,if_false,WyX,Bool.or_false,Q,WzY,Wv7];refine⟨fun y hy=>?_,ih false h.2⟩;rcases zuQ ge a n l false y hy with M | M
    ·rw[M];exact j
    exact h.1 y M
theorem AZ {β:Type} (lt:β->β->Prop) (A:∀ x,¬ lt x x) (K:∀ x y z,lt x y->lt y z->lt x z) :
  ∀ (l m:List β),l.Pairwise lt->m.Pairwise lt->(∀ x,x ∈ l ↔ x ∈ m)->l=m:=by
 intro l;induction l with
 | nil =>
  intro m _ _ h;cases m with
  | nil=>rfl
  | cons y m=>exact absurd ((h y).2 (Wv6 ..)) (by simp)
 | cons x l M =>
  intro m G I h;cases m with
  | nil=>exact absurd ((h x).1 (Wv6 ..)) (by simp)
  | cons y m =>
   rw[Wv7] at G I;have L:x=y:=by
    rcases Wqj.mp ((h x).1 (Wv6 ..)) with j | j
    ·exact j
    rcases Wqj.mp ((h y).2 (Wv6 ..)) with J | J
    ·exact J.symm
    exact absurd (K _ _ _ (G.1 y J) (I.1 x j)) (A x)
   subst L;refine congrArg (x :: ·) (M m G.2 I.2 fun z=>⟨fun D=>?_,fun D=>?_⟩)
   ·rcases Wqj.mp ((h z).1 (Wy0 _ D)) with j | j
    ·rw[j] at D;exact absurd (G.1 x D) (A x)
    exact j
   rcases Wqj.mp ((h z).2 (Wy0 _ D)) with j | j
   ·rw[j] at D;exact absurd (I.1 x D) (A x)
   exact j
theorem fd_mem (l:List (α × κ)) (a:α):fd l a ≠ none ↔ a ∈ l.map (·.1):=by
 induction l with
 | nil=>simp[fd]
 | cons x l D =>
  by_cases h:x.1=a
  ·simp[fd,h]
  have j:¬ a=x.1:=fun A=>h A.symm;simp only[fd,h,if_false,D,WzK,Wqj,j,false_or]
theorem R.names {d:Dc α κ ε} {m:Tb α κ ε} (h:R d m) (lt:α->α->Prop) (j:∀ x,¬ lt x x) (A:∀ x y z,lt x y->lt y z->lt x z)
  (hd:d.refs.Pairwise fun x y=>lt x.1 y.1) (ns:List α) (G:ns.Pairwise lt) (D:∀ a,a ∈ ns ↔ m a ≠ none):ns=d.refs.map (·.1):=by
 refine AZ lt j A _ _ G (Wv8.2 hd) fun a=>?_;rw[D,<-fd_mem,h.at a];cases fd d.refs a <;> simp
end Go.Proofs.YtdnphaganajejaaGreatDoor.Rk
namespace Go.Proofs.YtdnphaganajejaaGreatDoor.K
open Go.Proofs.Tryz
open Go.RowKit
theorem results4:f4.results=#[.tmp 2]:=by kernel_rfl
structure Ls where
 k:Int
 a:Option Addr
 c:Nat
 ms:List Mv1
 rot:Bool
 who:Per
 tx:Str
 nm:Str
 tg:Str
 n:Int
 af:Int
 ti:Int
 di:Int
 ta:Int
def uK (s:Ls):List Value:=[.int .i64 s.k,.slice s.a s.ms.length s.c,.bool s.rot,.string ⟨s.who.name.toArray⟩,.string ⟨s.who.mail.toArray⟩,.int .i64 s.who.time,.int .i64 s.who.zone,sV s.tx,sV s.nm,sV s.tg,.int .i64 s.n,.int .i64 s.af,.int .i64 s.ti,.int .u64 s.di,.int .u64 s.ta]
abbrev dT0:Ls:=⟨0,none,0,[],false,⟨[],[],0,0⟩,[],[],[],0,0,0,0,0⟩
def smL (s:Ls):Prop:=s.ms.length<=20/\s.tx.length<=5000
def Mq (l:List Ls) (w:World) (e:Ending) (w':World):Prop := ∃ b:Bool,e=.returned (.bool b)/\w'=w/\(b=true ↔ l.length<=60/\∀ s ∈ l,smL s)
theorem zzK (a:Option Addr) (c:Nat) (l:List Ls) (w:World) (hP:Px uK 15 dT0 w a c l):Calls prog 4 #[.slice a l.length c] w (Mq l w):=by
 obtain⟨N,j⟩:=nm_ l.length;have HP:=hid hP;rw[j.out];clear hP;by_cases ad:60<N
 ·have Y:(60:Int)<(N:Int):=by omega
  have I:Hid (Mq l w (.returned (.bool false)) w):=hid ⟨false,rfl,rfl,⟨fun h=>(by cases h),fun h=>by have:=h.1;rw[j.out] at this;omega⟩⟩;go_enter func4,ntmps4;go_wp2;exact bodyPost_ret (results_tmp results4 _ _ _) rfl I.out
 have Y:¬ (60:Int)<(N:Int):=by omega
 go_enter func4,ntmps4;go_wp2;go_loopg [3] N (fun q iv wr=>∃ i:Nat,iv=.int .i64 i/\q=N-i/\i<=N/\wr=w/\Hid (∀ s ∈ l.take i,smL s));case atStart=>exact⟨0,rfl,rfl,Nat.zero_le _,rfl,hid (by simp)⟩
 case round =>
 obtain⟨i,rfl,hq,ae,a8,HA⟩:=hrel;have L:=a8.symm;subst L;by_cases A:i<N;rotate_left
 ·have K:¬ (i:Int)<(N:Int):=by omega
  have I:Hid (Mq l w (.returned (.bool true)) w):=hid ⟨true,rfl,rfl,⟨fun _=>⟨by rw[j.out];omega,fun s hs=>HA.out s (by rw[List.take_of_length_le (by rw[j.out];omega)];exact hs)⟩,fun _=>rfl⟩⟩;go_wp2;exact bodyPost_ret (results_tmp results4 _ _ _) rfl I.out
 have K:(i:Int)<(N:Int):=by omega
 obtain⟨b,off,e1,_,V⟩:=HP.out.at_ (by rw[j.out];omega);subst e1;obtain⟨s,hs⟩:∃ s,l.getD i dT0=s:=⟨_,rfl⟩;have a7:s ∈ l:=by rw[<-hs];exact zQ l i dT0 (by rw[j.out];exact A)
 have Q:Hid (l.take (i+1)=l.take i++[s]):=hid (by rw[qk dT0 l i (by rw[j.out];exact A),hs]);have Z:w.cell? ⟨b,off+i*15+1,none⟩=some (.slice s.a s.ms.length s.c):=V i (by rw[j.out];exact A) 1 _ (by rw[hs];rfl);have J:w.cell? ⟨b,off+i*15+7,none⟩=some (sV s.tx):=V i (by rw[j.out];exact A) 7 _ (by rw[hs];rfl)
 have hsz:(⟨s.tx.toArray⟩:ByteArray).size=s.tx.length:=Nm.txt_len s.tx;obtain⟨X,HX⟩:=nm_ (⟨s.tx.toArray⟩:ByteArray);obtain⟨M,G⟩:=nm_ s.tx.length;obtain⟨ml,D⟩:=nm_ s.ms.length;rw[HX.out,G.out] at hsz;unfold sV at J;rw[HX.out] at J;rw[D.out] at Z
 have I:Hid (¬ (ml<=20/\M<=5000)->Mq l w (.returned (.bool false)) w):=fun hn=>⟨false,rfl,rfl,⟨fun h=>(by cases h),fun h=>by
  have:=h.2 s a7;unfold smL at this;rw[D.out,G.out] at this;exact absurd this hn⟩⟩
 clear V;by_cases hm:20<ml
 ·have a6:(20:Int)<(ml:Int):=by omega
  have O:=hid (I.out (by omega));go_wp2;exact bodyPost_ret (results_tmp results4 _ _ _) rfl O.out
 have a6:¬ (20:Int)<(ml:Int):=by omega
 by_cases hx:5000<M
 ·have ac:(5000:Int)<(M:Int):=by omega
  have O:=hid (I.out (by omega));go_wp2;exact bodyPost_ret (results_tmp results4 _ _ _) rfl O.out
 have ac:¬ (5000:Int)<(M:Int):=by omega
 go_wp2;go_roundg (N-(i+1));case measure=>omega
 case rel=>exact⟨i+1,by go_num,rfl,by omega,rfl,hid (fun y hy=>by
  rw[Q.out] at hy;rcases Wqx.1 hy with hy | hy
  ·exact HA.out y hy
  rw[Wqk.1 hy];unfold smL;rw[D.out,G.out];omega)⟩
def rOk (x:Rx):Prop:=isN x.1=true/\IdW x.2.1/\((x.2.2=[]/\x.2.1 ≠ zZ) ∨ (isN x.2.2=true/\x.2.2 ≠ x.1/\x.2.1=zZ))
structure Ib (k:Nat) (m:Rk.Tb Str Kp Le) (rs:List Rx) (ls:List Ex):Prop where
 r:Rk.R ⟨rs,ls⟩ m
 asc:rs.Pairwise fun x y=>ltS x.1 y.1
 rok:∀ x ∈ rs,rOk x
 lok:∀ e ∈ ls,vY e.2/\okG e.2.who e.2.text
 n1:rs.length<=21*k
 n2:ls.length<=180*k
structure Iv (k:Nat) (m:Rk.Tb Str Kp Le) (rs:List Rx) (ls:List Ex):Prop extends Ib k m rs ls where
 cl:¬ Rk.clD (rs.map (·.1))
theorem kT_aT (T:Ts) (x:Str):kT T x=(aT T x).map (·.1):=by unfold kT aT;cases T x <;> rfl
theorem Ib.kt {k:Nat} {m:Rk.Tb Str Kp Le} {rs:List Rx} {ls:List Ex} (h:Ib k m rs ls) {T:Ts} (j:aT T=m):kT T=Rk.fd rs:=by
 funext x;rw[kT_aT,j,h.r.at x];cases Rk.fd rs x <;> rfl
theorem Ib.wy {k:Nat} {m:Rk.Tb Str Kp Le} {rs:List Rx} {ls:List Ex} (h:Ib k m rs ls) {T:Ts} (j:aT T=m) (n:Nat):wyT T n=wyF (Rk.fd rs) n:=by
 funext x;show Rk.wy tgK (kT T) n x=Rk.wy tgK (Rk.fd rs) n x;rw[h.kt j]
theorem Ib.rdt {k:Nat} {m:Rk.Tb Str Kp Le} {rs:List Rx} {ls:List Ex} (h:Ib k m rs ls) {T:Ts} (j:aT T=m) (x:Str):rdN T x=rdD rs x/\(isN x=true->rdT T x=rdD rs x):=by
 have A:=h.kt j;have D:wyT T 8 x=wyF (Rk.fd rs) 8 x:=by rw[h.wy j]
 have key:isN x=true->rdT T x=rdD rs x:=fun hi=>by
  unfold rdD rdF rdT;rw[D,hi];simp only[if_true];cases wyF (Rk.fd rs) 8 x with
  | none=>rfl
  | some l =>
   simp only;rw[<-A];unfold kT;cases T (l.getD (l.length-1) []) <;> rfl
 refine⟨?_,key⟩;unfold rdN;cases hi:isN x with
 | false=>unfold rdD rdF;rw[hi];rfl
 | true=>simp only[if_true];exact key hi
theorem Ib.at {k:Nat} {m:Rk.Tb Str Kp Le} {rs:List Rx} {ls:List Ex} (h:Ib k m rs ls) {T:Ts} (D:aT T=m) (x:Str):(T x=none/\Rk.fd rs x=none) ∨ (∃ r,T x=some r/\Rk.fd rs x=some (r.id,r.tg)/\r.log=Rk.lg ls x):=by
 have j:=h.r.at x;rw[<-D] at j;unfold aT at j;cases hx:T x with
 | none =>
  rw[hx] at j;refine .inl ⟨rfl,?_⟩;cases A:Rk.fd rs x with
  | none=>rfl
  | some k=>rw[A] at j;cases j
 | some r =>
  rw[hx] at j;cases A:Rk.fd rs x with
  | none=>rw[A] at j;cases j
  | some k =>
   rw[A] at j;simp only[Wq7,Wq8.injEq,Prod.mk.injEq] at j;exact .inr ⟨r,rfl,by rw[j.1],j.2⟩
theorem Ib.tg {k:Nat} {m:Rk.Tb Str Kp Le} {rs:List Rx} {ls:List Ex} (h:Ib k m rs ls) {T:Ts} (D:aT T=m) (x:Str):tgN T x=tgD rs x:=by
 unfold tgN tgD gt;cases isN x with
 | false=>rfl
 | true =>
  rcases h.at D x with ⟨j,A⟩ | ⟨r,j,A,_⟩
  ·rw[j,A];rfl
  rw[j,A];rfl
theorem Ib.lgn {k:Nat} {m:Rk.Tb Str Kp Le} {rs:List Rx} {ls:List Ex} (h:Ib k m rs ls) {T:Ts} (G:aT T=m) (x:Str):oL (lgN T x)=(oX (lgD rs ls x)).map (·.2)/\oN (lgN T x)=oN (lgD rs ls x):=by
 unfold lgN lgD gt;cases isN x with
 | false=>exact⟨rfl,rfl⟩
 | true =>
  rcases h.at G x with ⟨j,A⟩ | ⟨r,j,A,D⟩
  ·rw[j,A];exact⟨rfl,rfl⟩
  rw[j,A];exact⟨D,rfl⟩
theorem Ib.nms {k:Nat} {m:Rk.Tb Str Kp Le} {rs:List Rx} {ls:List Ex} (h:Ib k m rs ls) {T:Ts} (D:aT T=m) {ss:List Str} (j:Nms T ss):ss=rs.map (·.1):=by
 refine h.r.names ltS J0 Bk h.asc ss ?_ ?_
 ·refine(List.pairwise_and_iff.2 ⟨j.pw,j.nd⟩).imp fun {x y} A=>?_;exact Classical.byContradiction fun j=>(of_decide_eq_true A.1) ((Yq _ _).1 (Rv _ _ j A.2))
 intro a;rw[j.mem,<-D];unfold aT;cases T a <;> simp
theorem Mj {α β:Type} {f g:α->Option β} : ∀ {l:List α},(∀ x ∈ l,f x=g x)->l.filterMap f=l.filterMap g
 | [],_=>rfl
 | x :: l,h=>by
  rw[WxW,WxW,h x (Wv6 ..),Mj (fun y hy=>h y (Wy0 _ hy))]
theorem Ib.list {k:Nat} {m:Rk.Tb Str Kp Le} {rs:List Rx} {ls:List Ex} (h:Ib k m rs ls) {T:Ts} (j:aT T=m) {ss:List Str} (A:Nms T ss) (p:Str):ltT T ss p=(lsD rs p).map (fun r=>(r.1,r.2.1)):=by
 rw[h.nms j A];unfold ltT lsD;rw[List.filterMap_map,List.map_filterMap];refine Mj fun x hx=>?_;have hi:=(h.rok x hx).1;show lt1 T p x.1=_;unfold lt1 ls1;rw[(h.rdt j x.1).2 hi];cases Lib.hasPrefix x.1 p with
 | false=>rfl
 | true =>
  simp only[if_true];cases rdD rs x.1 <;> rfl
theorem Ib.few {k:Nat} {m:Rk.Tb Str Kp Le} {rs:List Rx} {ls:List Ex} (h:Ib k m rs ls) {T:Ts} (j:aT T=m) {ss:List Str} (A:Nms T ss):ss.length<=21*k:=by
 rw[h.nms j A,Wx7];exact h.n1
theorem zzV {rs:List Rx} (h:rs.Pairwise fun x y=>ltS x.1 y.1):∀ x ∈ rs,Rk.fd rs x.1=some x.2:=by
 induction rs with
 | nil=>intro x hx;cases hx
 | cons r rs A =>
  intro x hx;rw[Wv7] at h;rcases Wqj.1 hx with rfl | hx
  ·simp[Rk.fd]
  have j:¬ r.1=x.1:=fun e=>by
   have:=h.1 x hx;rw[e] at this;exact J0 _ this
  simp only[Rk.fd,j,if_false];exact A h.2 x hx
theorem ux:∀ (rs:List Rx) (x:Str) (k:Kp),Rk.fd rs x=some k->(x,k) ∈ rs
 | [],x,k,h=>by cases h
 | r :: rs,x,k,h=>by
  by_cases e:r.1=x
  ·simp only[Rk.fd,e,if_true,Wq8.injEq] at h;rw[<-e,<-h];exact Wv6 ..
  simp only[Rk.fd,e,if_false] at h;exact Wy0 _ (ux rs x k h)
theorem Ib.fdok {k:Nat} {m:Rk.Tb Str Kp Le} {rs:List Rx} {ls:List Ex} (h:Ib k m rs ls) {x:Str} {q:Kp} (j:Rk.fd rs x=some q):rOk (x,q):=h.rok _ (ux rs x q j)
theorem L5:∀ (t cur:Str) (pv:Option UInt8),Nm.dgo cur pv t=true->t.getLast? ≠ some 47
 | [],cur,pv,h=>by simp
 | [c],cur,pv,h=>fun e=>by
  simp only[List.getLast?_singleton,Wq8.injEq] at e
  subst e
  simp[Nm.dgo,Nm.partOk] at h
 | c :: d :: t,cur,pv,h=>by
  rw[List.getLast?_cons_cons]
  unfold Nm.dgo at h
  split at h
  ·simp only[Bool.and_eq_true] at h
   exact L5 (d :: t) _ _ h.2
  ·simp only[Bool.and_eq_true] at h
   exact L5 (d :: t) _ _ h.2
theorem qy0 {x:Str} (h:isN x=true):x.getLast? ≠ some 47:=by
 have j:((x == [72,69,65,68]) || Nm.docOk x)=true:=h;rw[Bool.or_eq_true] at j;rcases j with j | j
 ·rw[beq_iff_eq] at j;subst j;decide
 unfold Nm.docOk at j;simp only[Bool.and_eq_true] at j;exact L5 x _ _ j.2
theorem XJ {m:Rk.Tb Str Kp Le} {rs:List Rx} {ls:List Ex} (h:Rk.R ⟨rs,ls⟩ m) (I:∀ x ∈ rs,isN x.1=true):clA (fun z=>(m z).isSome) ↔ Rk.clD (rs.map (·.1)):=by
 have j:∀ z,(m z).isSome=true ↔ z ∈ rs.map (·.1):=fun z=>by
  rw[<-Rk.fd_mem,h.at z];cases Rk.fd rs z <;> simp
 rw[<-Rk.cl_iff (rs.map (·.1)) (fun b hb=>by
  obtain⟨x,hx,rfl⟩:=Wz6.1 hb;exact qy0 (I x hx))]
 unfold clA Rk.clP;constructor
 ·rintro⟨b,A,i,D,G⟩;exact⟨b,(j b).1 A,i,D,(j _).1 G⟩
 rintro⟨b,A,i,D,G⟩;exact⟨b,(j b).2 A,i,D,(j _).2 G⟩
theorem Iv.can {k:Nat} {m:Rk.Tb Str Kp Le} {rs:List Rx} {ls:List Ex} (h:Iv k m rs ls):Can m:=by
 refine⟨fun x q l hx=>?_,fun hc=>h.cl ((XJ h.r fun x hx=>(h.rok x hx).1).1 hc)⟩;have j:=h.r.at x;rw[hx] at j;cases D:Rk.fd rs x with
 | none=>rw[D] at j;cases j
 | some J =>
  rw[D] at j;simp only[Wq7,Wq8.injEq,Prod.mk.injEq] at j;have G:=h.fdok D;refine⟨Ak G.1,fun I=>?_⟩;rw[j.1] at I ⊢;rcases G.2.2 with ⟨_,A⟩ | ⟨A,_,_⟩
  ·exact A
  simp only at A;rw[I] at A;cases A
def rsU (rs:List Rx) (ys:List (List Str × Mv1)):List Rx:=ys.foldl (fun r y=>Rk.setL geS (enW y.1) (some (y.2.new,[])) r (decide (y.2.new=zZ))) rs
def enU (p:Per) (tx:Str) (ys:List (List Str × Mv1)):List Ex:=ys.flatMap fun y=>y.1.map fun a=>(a,j6 p tx y.2)
def okO (rs:List Rx) (x:Str) (old:List Int):Prop:=match Rk.fd rs x with
 | none=>old=zZ
 | some k=>k.1=old/\old ≠ zZ
def UdG (rs:List Rx) (ls:List Ex) (ms:List Mv1) (p:Per) (tx:Str) (k:Int) (rs':List Rx) (ls':List Ex) (ws:List (List Str)):Prop :=
 (∃ i,i<ms.length/\(∀ j,j<i->okO rs (enW (ws.getD j [])) (ms.getD j dMv).old)/\¬ okO rs (enW (ws.getD i [])) (ms.getD i dMv).old/\k=62/\rs'=rs/\ls'=ls) ∨
 ((∀ j,j<ms.length->okO rs (enW (ws.getD j [])) (ms.getD j dMv).old)/\((Rk.clD ((rsU rs (ws.zip ms)).map (·.1))/\k=63/\rs'=rs/\ls'=ls) ∨ (¬ Rk.clD ((rsU rs (ws.zip ms)).map (·.1))/\((¬ okG p tx/\k=125/\rs'=rs/\ls'=ls) ∨ (okG p tx/\k=0/\rs'=rsU rs (ws.zip ms)/\ls'=Rk.prn (rsU rs (ws.zip ms)) (ls++enU p tx (ws.zip ms)))))))
def UdP (rs:List Rx) (ls:List Ex) (ms:List Mv1) (p:Per) (tx:Str) (k:Int) (rs':List Rx) (ls':List Ex):Prop:=M7 (wyF (Rk.fd rs) 8) (ms.map (·.name)) (fun e=>k=e/\rs'=rs/\ls'=ls) (UdG rs ls ms p tx k rs' ls')
def chY (p:Per) (tx:Str) (y:List Str × Mv1):Rk.Ch Str Kp Le:=⟨y.1.dropLast,enW y.1,if y.2.new=zZ then none else some (y.2.new,[]),j6 p tx y.2⟩
theorem WY {l:List Str} (h:0<l.length):l.dropLast++[enW l]=l:=by
 have j:l ≠ []:=fun e=>by subst e;simp at h
 have:enW l=l.getLast j:=by
  unfold enW;rw[List.getLast_eq_getElem,List.getD_eq_getElem?_getD,List.getElem?_eq_getElem (by omega)];rfl
 rw[this];exact List.dropLast_concat_getLast j
theorem qj4 (p:Per) (tx:Str) (y:List Str × Mv1) (h:0<y.1.length):(chg y.1 (j6 p tx y.2)).map sP=Rk.chS (chY p tx y):=by
 have I:¬ wD=wR:=by decide
 have J:¬ wD=wL:=by decide
 have j:¬ wG=wR:=by decide
 have A:¬ wG=wL:=by decide
 have D:¬ wG=wD:=by decide
 unfold chg Rk.chS chY;by_cases e:y.2.new=zZ
 ·have G:(j6 p tx y.2).new=zZ:=e;simp only[e,G,if_true,WzK,Wv5];refine Wv3.2 ⟨?_,Wv4 fun a _=>?_⟩
  ·simp only[sP,I,J,if_false,if_true];rfl
  simp only[Function.comp,sP,lg1,j,A,D,if_false]
 have G:¬ (j6 p tx y.2).new=zZ:=e;simp only[e,G,if_false,WzK,Wv5];rw[WY h];refine Wv3.2 ⟨?_,Wv4 fun a _=>?_⟩
 ·simp only[sP,if_true];rfl
 simp only[Function.comp,sP,lg1,j,A,D,if_false]
theorem zuX (p:Per) (tx:Str):∀ j:List (List Str × Mv1),(∀ y ∈ j,0<y.1.length)->(stU p tx j).map sP=(j.map (chY p tx)).flatMap Rk.chS
 | [],_=>rfl
 | y :: j,h=>by
  have:=zuX p tx j (fun z A=>h z (Wy0 _ A));unfold stU at this ⊢;rw[Wzk,List.map_append,this,qj4 p tx y (h y (Wv6 ..))];rfl
theorem stF_U (p:Per) (tx:Str) (j:List (List Str × Mv1)) (h:∀ y ∈ j,0<y.1.length) (m:Rk.Tb Str Kp Le):stF m (stU p tx j)=(j.map (chY p tx)).foldl Rk.stp m:=by
 unfold stF;rw[zuX p tx j h,Rk.tk_all]
theorem zuJ (p:Per) (tx:Str):∀ j:List (List Str × Mv1),(∀ y ∈ j,0<y.1.length)->enU p tx j=(j.map (chY p tx)).flatMap Rk.ents
 | [],_=>rfl
 | y :: j,h=>by
  have:=zuJ p tx j (fun z A=>h z (Wy0 _ A));unfold enU at this ⊢;rw[Wzk,this,WzK,Wzk];congr 1;show _=((chY p tx y).pre++[(chY p tx y).last]).map _;rw[show (chY p tx y).pre++[(chY p tx y).last]=y.1 from WY (h y (Wv6 ..))];rfl
theorem zuK (p:Per) (tx:Str):∀ (h:List (List Str × Mv1)) (rs:List Rx),rsU rs h=(h.map (chY p tx)).foldl (fun r c=>Rk.setL geS c.last c.new r c.new.isNone) rs
 | [],rs=>rfl
 | y :: h,rs=>by
  have j:Rk.setL geS (enW y.1) (some (y.2.new,[])) rs (decide (y.2.new=zZ))=Rk.setL geS (chY p tx y).last (chY p tx y).new rs (chY p tx y).new.isNone:=by
   unfold chY;by_cases e:y.2.new=zZ
   ·simp only[e,decide_true,if_true,Option.isNone_none,Rk.setL_done]
   simp only[e,decide_false,if_false,Option.isNone_some]
  have:=zuK p tx h (Rk.setL geS (enW y.1) (some (y.2.new,[])) rs (decide (y.2.new=zZ)));unfold rsU at this ⊢;rw[WqW,this,WzK,WqW,j]
structure Wk (rs:List Rx) (ys:List (List Str × Mv1)):Prop where
 pos:∀ y ∈ ys,0<y.1.length
 nine:∀ y ∈ ys,y.1.length<=9
 nam:∀ y ∈ ys,∀ a ∈ y.1,isN a=true
 pre:∀ y ∈ ys,∀ a ∈ y.1.dropLast,(Rk.fd rs a).bind tgK ≠ none
 last:∀ y ∈ ys,(Rk.fd rs (enW y.1)).bind tgK=none
 dis:(ys.map fun y=>enW y.1).Nodup
 ok:∀ y ∈ ys,xu y.2
 few:ys.length<=20
theorem zuV {rs:List Rx} (h:∀ x k,Rk.fd rs x=some k->rOk (x,k)):∀ (n:Nat) (x:Str) (l:List Str),isN x=true->wyF (Rk.fd rs) n x=some l->∀ a ∈ l,isN a=true
 | n,x,l,hx,hw=>by
  by_cases h0:tgF (Rk.fd rs) x=[]
  ·rw[Yw h0] at hw;cases hw
   intro a j;rw[Wqk.1 j];exact hx
  cases n with
  | zero=>rw[WJ h0] at hw;cases hw
  | succ n =>
   rw[Av h0] at hw;obtain⟨G,D,rfl⟩:=Option.map_eq_some_iff.1 hw;have hc:isN (tgF (Rk.fd rs) x)=true:=by
    unfold tgF at h0 ⊢;cases e:Rk.fd rs x with
    | none=>rw[e] at h0;exact absurd rfl h0
    | some q =>
     rw[e] at h0;rcases(h x q e).2.2 with ⟨A,_⟩ | ⟨A,_⟩
     ·exact absurd A h0
     exact A
   intro a j;rcases Wqj.1 j with rfl | j
   ·exact hx
   exact zuV h n _ G hc D a j
theorem qxJ {k:Nat} {m:Rk.Tb Str Kp Le} {rs:List Rx} {ls:List Ex} (h:Ib k m rs ls) {ms:List Mv1} {ws:List (List Str)} (K:Wl (wyF (Rk.fd rs) 8) (ms.map (·.name)) ws) (hd:(ws.map enW).Nodup) (I:∀ x ∈ ms,xu x) (hf:ms.length<=20):Wk rs (ws.zip ms):=by
 have hl:ws.length=ms.length:=by rw[K.1];simp
 have key:∀ y ∈ ws.zip ms,y.2 ∈ ms/\isN y.2.name=true/\wyF (Rk.fd rs) 8 y.2.name=some y.1:=fun y hy=>by
  obtain⟨j,Y,J⟩:=List.getElem_of_mem hy;rw[Wv2] at Y;have A:j<ms.length:=by omega
  have G:j<ws.length:=by omega
  rw[List.getElem_zip] at J;have:=K.2 j (by simpa using A);rw[show (ms.map (·.name)).getD j []=ms[j].name by simp[List.getD_eq_getElem?_getD,List.getElem?_eq_getElem A],show ws.getD j []=ws[j] by simp[List.getD_eq_getElem?_getD,List.getElem?_eq_getElem G]] at this;rw[<-J];exact⟨List.getElem_mem _,this.1,this.2⟩
 have hs:∀ y ∈ ws.zip ms,0<y.1.length/\y.1.length<=9:=fun y hy=>by
  obtain⟨_,Q,V⟩:=key y hy;obtain⟨g1,O,_⟩:=YY (fun x q hx=>by
   rcases(h.fdok hx).2.2 with ⟨e,_⟩ | ⟨e,_⟩
   ·rw[e];simp
   exact qX e) 8 _ _ (qX Q) V
  exact⟨g1,O⟩
 have D:∀ y ∈ ws.zip ms,(∀ a ∈ y.1.dropLast,(Rk.fd rs a).bind tgK ≠ none)/\(Rk.fd rs (enW y.1)).bind tgK=none:=fun y hy=>by
  obtain⟨p,z,e1,L,M⟩:=Rk.wy_pre tgK (Rk.fd rs) 8 _ _ (key y hy).2.2;have Z:enW y.1=z:=by rw[e1];unfold enW;simp
  rw[Z,e1,List.dropLast_concat];exact⟨L,M⟩
 refine⟨fun y hy=>(hs y hy).1,fun y hy=>(hs y hy).2,fun y hy=>zuV (fun x q hx=>h.fdok hx) 8 _ _ (key y hy).2.1 (key y hy).2.2,fun y hy=>(D y hy).1,fun y hy=>(D y hy).2,?_,fun y hy=>I _ (key y hy).1,by rw[Wv2];omega⟩;have:((ws.zip ms).map fun y=>enW y.1)=ws.map enW:=by
  have e:((ws.zip ms).map Prod.fst)=ws:=List.map_fst_zip (by omega);conv=>rhs;rw[<-e]
  rw[Wv5];rfl
 rw[this];exact hd
theorem zuW {rs:List Rx} {ls:List Ex} (h:∀ e ∈ ls,Rk.fd rs e.1 ≠ none):Rk.prn rs ls=ls:=by
 unfold Rk.prn;rw[List.filter_eq_self];intro e j;have:=h e j;cases A:Rk.fd rs e.1 with
 | none=>exact absurd A this
 | some k=>rfl
theorem up_R {k:Nat} {m:Rk.Tb Str Kp Le} {rs:List Rx} {ls:List Ex} (h:Ib k m rs ls) {j:List (List Str × Mv1)} (A:Wk rs j) (p:Per) (tx:Str):Rk.R ⟨rsU rs j,Rk.prn (rsU rs j) (ls++enU p tx j)⟩ (stF m (stU p tx j)):=by
 rw[stF_U p tx j A.pos,zuJ p tx j A.pos,zuK p tx j rs];refine Rk.R.all geS _ rs ls m (by rw[zuW h.r.own];exact h.r) ?_ ?_ ?_
 ·intro c hc a J;obtain⟨y,hy,rfl⟩:=Wz6.1 hc;have D:=A.pre y hy a J;refine⟨fun e=>D (by rw[e];rfl),fun Q G e=>?_⟩;obtain⟨O,I,rfl⟩:=Wz6.1 G;rw[e] at D;exact D (A.last O I)
 ·rw[Wv8];have:=A.dis;rw[List.Nodup,Wv8] at this;exact this
 intro c hc M e K L;exact h.r.own e K (by rw[L];exact M)
theorem H5 (ge:Str->Str->Bool) (a:Str) (k:Kp):∀ (l:List Rx) (done:Bool) (x:Rx),x ∈ Rk.setL ge a (some k) l done->(x=(a,k)/\done=false) ∨ x ∈ l
 | [],done,x,hx=>by
  cases done with
  | true=>simp[Rk.setL] at hx
  | false=>simp[Rk.setL] at hx;exact .inl ⟨hx,rfl⟩
 | r :: l,done,x,hx=>by
  simp only[Rk.setL] at hx
  rcases Wqx.1 hx with j | hx
  ·split at j
   ·rename_i hc
    simp only[Wq9,WzK,WzV,Wqk] at j
    cases done with
    | true=>simp at hc
    | false=>exact .inl ⟨j,rfl⟩
   ·cases j
  ·rcases Wqx.1 hx with hx | hx
   ·split at hx
    ·cases hx
    ·exact .inr (by rw[Wqk.1 hx];exact Wv6 ..)
   ·rcases H5 ge a k l _ x hx with ⟨j,A⟩ | h
    ·cases done with
     | true=>simp at A
     | false=>exact .inl ⟨j,rfl⟩
    ·exact .inr (Wy0 _ h)
theorem J4:∀ (h:List (List Str × Mv1)) (rs:List Rx),(rs.Pairwise fun x y=>ltS x.1 y.1)->(∀ x ∈ rs,rOk x)->(∀ y ∈ h,0<y.1.length/\(∀ a ∈ y.1,isN a=true)/\xu y.2)->((rsU rs h).Pairwise fun x y=>ltS x.1 y.1)/\(∀ x ∈ rsU rs h,rOk x)/\(rsU rs h).length<=rs.length+h.length
 | [],rs,h1,h2,_=>⟨h1,h2,by simp[rsU]⟩
 | y :: h,rs,h1,h2,h3=>by
  obtain⟨j,g1,A⟩:=h3 y (Wv6 ..);obtain⟨k1,G,I⟩:=J4 h (Rk.setL geS (enW y.1) (some (y.2.new,[])) rs (decide (y.2.new=zZ))) (Rk.setL_rising ltS geS FZ J0 Bk Rv _ _ rs _ h1) (fun x hx=>by
   rcases H5 _ _ _ _ _ x hx with ⟨rfl,e⟩ | hx
   ·exact⟨g1 _ (uQ y.1 j),A.2.2,.inl ⟨rfl,of_decide_eq_false e⟩⟩
   exact h2 x hx) (fun z D=>h3 z (Wy0 _ D))
  refine⟨k1,G,?_⟩;have:=Yx geS (enW y.1) (y.2.new,[]) rs (decide (y.2.new=zZ));unfold rsU at I ⊢;rw[WqW,Wzu];have J:(if decide (y.2.new=zZ)=true then 0 else 1)<=1:=by split <;> omega
  omega
theorem L6 (p:Per) (tx:Str):∀ j:List (List Str × Mv1),(∀ y ∈ j,y.1.length<=9)->(enU p tx j).length<=9*j.length
 | [],_=>by simp[enU]
 | y :: j,h=>by
  have:=L6 p tx j (fun z A=>h z (Wy0 _ A));have D:=h y (Wv6 ..);unfold enU at this ⊢;rw[Wzk,Wzy,Wx7,Wzu];omega
theorem qxK {k:Nat} {m:Rk.Tb Str Kp Le} {rs:List Rx} {ls:List Ex} (h:Ib k m rs ls) {A:List (List Str × Mv1)} (D:Wk rs A) {p:Per} {tx:Str} (J:okG p tx):Ib (k+1) (stF m (stU p tx A)) (rsU rs A) (Rk.prn (rsU rs A) (ls++enU p tx A)):=by
 obtain⟨k1,K,O⟩:=J4 A rs h.asc h.rok (fun y hy=>⟨D.pos y hy,D.nam y hy,D.ok y hy⟩);have I:=D.few;refine⟨up_R h D p tx,k1,K,fun e j=>?_,by have:=h.n1;omega,?_⟩
 ·have j:=(WqX.1 j).1;rcases Wqx.1 j with j | j
  ·exact h.lok e j
  unfold enU at j;obtain⟨y,hy,j⟩:=List.mem_flatMap.1 j;obtain⟨a,_,rfl⟩:=Wz6.1 j;exact⟨⟨(D.ok y hy).2.1,(D.ok y hy).2.2⟩,J⟩
 have G:(Rk.prn (rsU rs A) (ls++enU p tx A)).length<=(ls++enU p tx A).length:=List.length_filter_le _ _;have L:=L6 p tx A D.nine;have M:=h.n2;rw[Wzy] at G;omega
theorem qy1 {k:Nat} {m:Rk.Tb Str Kp Le} {rs:List Rx} {ls:List Ex} (h:Ib k m rs ls) {T:Ts} (I:aT T=m) {z:Str} (A:(Rk.fd rs z).bind tgK=none) (old:List Int):idT T z=old ↔ okO rs z old:=by
 unfold okO idT;rcases h.at I z with ⟨D,j⟩ | ⟨r,D,j,_⟩
 ·rw[D,j];simp only[Option.map_none,Option.getD_none];exact eq_comm
 rw[D,j];simp only[Wq7,Option.getD_some];have J:r.tg=[]:=by
  rw[j] at A;simp only[Option.bind_some,tgK] at A;split at A
  ·assumption
  cases A
 have G:r.id ≠ zZ:=by
  rcases(h.fdok j).2.2 with ⟨_,e⟩ | ⟨e,_⟩
  ·exact e
  rw[J] at e;cases e
 constructor
 ·intro e;exact⟨e,by rw[<-e];exact G⟩
 exact fun e=>e.1
end Go.Proofs.YtdnphaganajejaaGreatDoor.K
