import Derived.Test.YtgliaiemkfopeaaGreatDoorMn29
import Derived.Test.YtgliaiemkfopeaaGreatDoorMn30
import Derived.Test.YtgliaiemkfopeaaGreatDoorMn28
import Derived.Test.YtgliaiemkfopeaaGreatDoorMn23
import Derived.Test.YtgliaiemkfopeaaGreatDoorMn04
set_option linter.unusedSimpArgs false
set_option linter.unusedVariables false
set_option maxRecDepth 20000
set_option maxHeartbeats 4000000
namespace Go.Proofs.YtgliaiemkfopeaaGreatDoor.K
open Go.RowKit
def LB (m:Rk.Tb Str Kp Le) (B:Nat):Prop := ∀ a k l,m a=some (k,l)->l.length<=B
theorem sP_log (x:Str) (e:Le):sP (lg1 x e)=(x,.inr (.inr e)):=by
 have hw3:¬ wG=wR:=by decide
 have hw4:¬ wG=wL:=by decide
 have hw5:¬ wG=wD:=by decide
 simp only[sP,lg1,hw3,hw4,hw5,if_false]
theorem j9 (m:Rk.Tb Str Kp Le) (s:Sp) (ss:List Sp):stF m (s :: ss)=stF (Rk.tk m (sP s)) ss:=rfl
theorem stF_nil (m:Rk.Tb Str Kp Le):stF m []=m:=rfl
theorem tk_log (m:Rk.Tb Str Kp Le) (x:Str) (e:Le):Rk.tk m (sP (lg1 x e))=Rk.logT m x e:=by rw[sP_log];rfl
theorem LB.log {m:Rk.Tb Str Kp Le} {B:Nat} (h:LB m B) (x:Str) (e:Le):LB (Rk.logT m x e) (B+1):=fun a k l ha=>by
 unfold Rk.logT at ha
 split at ha
 ·obtain⟨y,hy,hy2⟩:=Option.map_eq_some_iff.1 ha
  have:=h x y.1 y.2 hy
  injection hy2 with h1 h2
  rw[<-h2]
  simp
  omega
 ·have:=h a k l ha
  omega
theorem LB.put {m:Rk.Tb Str Kp Le} {B:Nat} (h:LB m B) (x:Str) (k:Kp):LB (Rk.putT m x k) B:=fun a k' l ha=>by
 unfold Rk.putT at ha
 split at ha
 ·injection ha with ha
  injection ha with h1 h2
  rw[<-h2]
  cases e:m x with
  | none=>simp
  | some y=>exact h x y.1 y.2 e
 ·exact h a k' l ha
theorem LB.del {m:Rk.Tb Str Kp Le} {B:Nat} (h:LB m B) (x:Str):LB (Rk.delT m x) B:=fun a k' l ha=>by
 unfold Rk.delT at ha
 split at ha
 ·cases ha
 ·exact h a k' l ha
theorem log_some (m:Rk.Tb Str Kp Le) (x a:Str) (e:Le) (h:(m a).isSome=true):(Rk.logT m x e a).isSome=true:=by
 unfold Rk.logT
 split
 ·rename_i e1;rw[e1] at h;simpa using h
 ·exact h
theorem logs_stg (e:Le) (he:uy e):∀ (ns:List Str) (m:Rk.Tb Str Kp Le) (B:Nat),(∀ a ∈ ns,a.length<=60/\(m a).isSome=true)->LB m B->B+ns.length<=100000 →
  StG m (ns.map (lg1 · e))/\LB (stF m (ns.map (lg1 · e))) (B+ns.length)/\∀ a,(m a).isSome=true->(stF m (ns.map (lg1 · e)) a).isSome=true
 | [],m,B,h,hB,_=>⟨trivial,hB,fun a ha=>ha⟩
 | x :: ns,m,B,h,hB,hn=>by
  rw[List.length_cons] at hn
  obtain⟨k1,k2,k3⟩:=logs_stg e he ns (Rk.logT m x e) (B+1) (fun a ha=>⟨(h a (List.mem_cons_of_mem _ ha)).1,log_some m x a e (h a (List.mem_cons_of_mem _ ha)).2⟩) (hB.log x e) (by omega)
  obtain⟨h60,hs⟩:=h x (List.mem_cons_self ..)
  obtain⟨y,hy⟩:=Option.isSome_iff_exists.1 hs
  rw[List.map_cons,j9,tk_log,List.length_cons]
  refine⟨⟨Qk h60 he,.inr ⟨rfl,y.1,y.2,hy,by have:=hB x y.1 y.2 hy;omega⟩,by rw[tk_log];exact k1⟩,?_,fun a ha=>k3 a (log_some m x a e ha)⟩
  rw[show B+(ns.length+1)=B+1+ns.length by omega]
  exact k2
theorem tk_drop (m:Rk.Tb Str Kp Le) (x:Str):Rk.tk m (sP ⟨wD,x,zQ,[],zL⟩)=Rk.delT m x:=by
 have hw1:¬ wD=wR:=by decide
 have hw2:¬ wD=wL:=by decide
 simp only[sP,hw1,hw2,if_false,if_true];rfl
theorem tk_ref (m:Rk.Tb Str Kp Le) (x:Str) (i:List Int):Rk.tk m (sP ⟨wR,x,i,[],zL⟩)=Rk.putT m x (i,[]):=by
 simp only[sP,if_true];rfl
theorem tk_lnk (m:Rk.Tb Str Kp Le) (x:Str) (i:List Int) (t:Str):Rk.tk m (sP ⟨wL,x,i,t,zL⟩)=Rk.putT m x (zQ,t):=by
 have hw1:¬ wL=wR:=by decide
 simp only[sP,hw1,if_false,if_true];rfl
theorem chg_stg (l:List Str) (e:Le) (he:uy e) (h0:0<l.length) (h9:l.length<=9) (h60:∀ a ∈ l,a.length<=60) (m:Rk.Tb Str Kp Le) (B:Nat) (hB:LB m B) (hn:B+10<=100000) (hp:∀ a ∈ l.dropLast,(m a).isSome=true/\a ≠ enW l) :
  StG m (chg l e)/\LB (stF m (chg l e)) (B+10)/\∀ a,a ≠ enW l->(m a).isSome=true->(stF m (chg l e) a).isSome=true:=by
 have hz60:(enW l).length<=60:=h60 _ (uu l h0)
 have hdl:l.dropLast.length<=9:=by rw[List.length_dropLast];omega
 have hlb:∀ {m:Rk.Tb Str Kp Le} {A:Nat},LB m A->A<=B+10->LB m (B+10):=fun h hA a k l ha=>Nat.le_trans (h a k l ha) hA
 unfold chg
 split
 ·obtain⟨k1,k2,k3⟩:=logs_stg e he l.dropLast (Rk.delT m (enW l)) B (fun a ha=>⟨h60 a (List.dropLast_subset _ ha),by unfold Rk.delT;rw[if_neg (hp a ha).2];exact(hp a ha).1⟩) (hB.del _) (by omega)
  rw[j9]
  have ht:Rk.tk m (sP ⟨wD,l.getD (l.length-1) [],zQ,[],zL⟩)=Rk.delT m (enW l):=tk_drop m _
  rw[ht]
  refine⟨⟨⟨qK.1,qK,hz60,by simp⟩,.inl (.inr (.inr rfl)),by rw[ht];exact k1⟩,hlb k2 (by omega),fun a ha hs=>k3 a ?_⟩
  unfold Rk.delT
  rw[if_neg ha]
  exact hs
 ·obtain⟨k1,k2,k3⟩:=logs_stg e he l (Rk.putT m (enW l) (e.new,[])) B (fun a ha=>⟨h60 a ha,by
   unfold Rk.putT
   split
   ·rfl
   ·rename_i hne
    rw[<-pre_last h0] at ha
    rcases List.mem_append.1 ha with ha | ha
    ·exact(hp a ha).1
    ·exact absurd (List.mem_singleton.1 ha) hne⟩) (hB.put _ _) (by omega)
  rw[j9]
  have ht:Rk.tk m (sP ⟨wR,l.getD (l.length-1) [],e.new,[],zL⟩)=Rk.putT m (enW l) (e.new,[]):=tk_ref m _ _
  rw[ht]
  refine⟨⟨⟨he.2,qK,hz60,by simp⟩,.inl (.inl rfl),by rw[ht];exact k1⟩,hlb k2 (by omega),fun a ha hs=>k3 a ?_⟩
  unfold Rk.putT
  rw[if_neg ha]
  exact hs
theorem stU_stg (p:Per) (tx:Str):∀ (ys:List (List Str × Mv1)) (m:Rk.Tb Str Kp Le) (B:Nat),(∀ y ∈ ys,0<y.1.length/\y.1.length<=9/\(∀ a ∈ y.1,a.length<=60)/\xw y.2/\∀ a ∈ y.1.dropLast,(m a).isSome=true/\∀ y' ∈ ys,a ≠ enW y'.1)->LB m B->B+10*ys.length<=100000->StG m (stU p tx ys)
 | [],m,B,h,hB,_=>trivial
 | y :: ys,m,B,h,hB,hn=>by
  rw[List.length_cons] at hn
  obtain⟨g0,g9,g60,gok,gp⟩:=h y (List.mem_cons_self ..)
  obtain⟨k1,k2,k3⟩:=chg_stg y.1 (j8 p tx y.2) ⟨gok.2.1,gok.2.2⟩ g0 g9 g60 m B hB (by omega) (fun a ha=>⟨(gp a ha).1,(gp a ha).2 y (List.mem_cons_self ..)⟩)
  have h2:=stU_stg p tx ys (stF m (chg y.1 (j8 p tx y.2))) (B+10) (fun z hz=>by
   obtain⟨q0,q9,q60,qok,qp⟩:=h z (List.mem_cons_of_mem _ hz)
   exact⟨q0,q9,q60,qok,fun a ha=>⟨k3 a ((qp a ha).2 y (List.mem_cons_self ..)) (qp a ha).1,fun y' hy'=>(qp a ha).2 y' (List.mem_cons_of_mem _ hy')⟩⟩) k2 (by omega)
  unfold stU at h2 ⊢
  rw[List.flatMap_cons]
  exact(Y4 _ _ _).2 ⟨k1,h2⟩
theorem lg_len (ls:List Ex) (a:Str):(Rk.lg ls a).length<=ls.length:=by
 unfold Rk.lg
 rw[List.length_map]
 exact List.length_filter_le _ _
theorem Ib.lb {k:Nat} {m:Rk.Tb Str Kp Le} {rs:List Rx} {ls:List Ex} (h:Ib k m rs ls):LB m (180*k):=fun a q l ha=>by
 have h1:=h.r.at a
 rw[ha] at h1
 cases hf:Rk.fd rs a with
 | none=>rw[hf] at h1;cases h1
 | some k' =>
  rw[hf] at h1
  simp only[Option.map_some,Option.some.injEq,Prod.mk.injEq] at h1
  rw[h1.2]
  exact Nat.le_trans (lg_len ls a) h.n2
theorem up_stg {k:Nat} {m:Rk.Tb Str Kp Le} {rs:List Rx} {ls:List Ex} (h:Ib k m rs ls) (hk:k<=100) {ys:List (List Str × Mv1)} (hw:Wk rs ys) (p:Per) (tx:Str):StG m (stU p tx ys):=by
 refine stU_stg p tx ys m (180*k) (fun y hy=>⟨hw.pos y hy,hw.nine y hy,fun a ha=>qZ (hw.nam y hy a ha),hw.ok y hy,fun a ha=>?_⟩) h.lb (by have:=hw.few;omega)
 have h1:=hw.pre y hy a ha
 refine⟨?_,fun y' hy' e=>h1 (by rw[e];exact hw.last y' hy')⟩
 rw[h.r.at a]
 cases hf:Rk.fd rs a with
 | none=>rw[hf] at h1;exact absurd rfl h1
 | some q=>rfl
theorem up_stc {rs:List Rx} {ys:List (List Str × Mv1)} (hw:Wk rs ys) {p:Per} {tx:Str} (hg:okG p tx):∀ s ∈ stU p tx ys,StC s:=fun s hs=>by
 unfold stU at hs
 obtain⟨y,hy,hs⟩:=List.mem_flatMap.1 hs
 have hle:uy (j8 p tx y.2):=⟨(hw.ok y hy).2.1,(hw.ok y hy).2.2⟩
 have hz:isN (enW y.1)=true:=hw.nam y hy _ (uu y.1 (hw.pos y hy))
 have hlog:∀ x ∈ y.1,StC (lg1 x (j8 p tx y.2)):=fun x hx=>⟨⟨hw.nam y hy x hx,qK.1,hle,by simp[lg1],.inr (.inr (.inr ⟨rfl,hg⟩))⟩,fun e=>absurd (show wG=wR from e) (by decide),fun e=>absurd (show wG=wL from e) (by decide)⟩
 unfold chg at hs
 split at hs
 ·rcases List.mem_cons.1 hs with rfl | hs
  ·exact⟨⟨hz,qK.1,qK,by simp,.inr (.inr (.inl rfl))⟩,fun e=>absurd (show wD=wR from e) (by decide),fun e=>absurd (show wD=wL from e) (by decide)⟩
  ·obtain⟨x,hx,rfl⟩:=List.mem_map.1 hs
   exact hlog x (List.dropLast_subset _ hx)
 ·rename_i hne
  rcases List.mem_cons.1 hs with rfl | hs
  ·exact⟨⟨hz,hle.2,qK,by simp,.inl rfl⟩,fun _=>hne,fun e=>absurd (show wR=wL from e) (by decide)⟩
  ·obtain⟨x,hx,rfl⟩:=List.mem_map.1 hs
   exact hlog x hx
theorem stc_stl {s:Sp} (h:StC s):StL s:=by
 refine⟨⟨h.st.id,h.st.e,qZ h.st.nm,h.st.tg⟩,?_⟩
 rcases h.st.kind with h1 | ⟨h1,_⟩ | h1 | ⟨h1,h2⟩
 ·exact .inl h1
 ·exact .inr (.inl h1)
 ·exact .inr (.inr (.inl h1))
 ·exact .inr (.inr (.inr ⟨h1,h2.1⟩))
theorem stU_len (p:Per) (tx:Str):∀ ys:List (List Str × Mv1),(∀ y ∈ ys,y.1.length<=9)->(stU p tx ys).length<=10*ys.length
 | [],_=>by simp[stU]
 | y :: ys,h=>by
  have h1:=stU_len p tx ys (fun z hz=>h z (List.mem_cons_of_mem _ hz))
  have h9:=h y (List.mem_cons_self ..)
  have h2:=chg_len y.1 (j8 p tx y.2)
  unfold stU at h1 ⊢
  rw[List.flatMap_cons,List.length_append,List.length_cons]
  omega
theorem logs_sum (ls:List Ex):∀ (ns:List Str),ns.Nodup->(ns.map fun x=>(Rk.lg ls x).length).sum<=ls.length:=by
 induction ls with
 | nil =>
  intro ns _
  have:(ns.map fun x=>(Rk.lg ([] : List Ex) x).length)=ns.map fun _=>0:=rfl
  rw[this]
  have h0:∀ ns:List Str,(ns.map fun _=>(0:Nat)).sum=0:=fun ns=>by
   induction ns with
   | nil=>rfl
   | cons a ns ih=>simpa using ih
  rw[h0 ns]
  exact Nat.zero_le _
 | cons e ls ih =>
  intro ns hn
  have h1:=ih ns hn
  have key:∀ ns:List Str,ns.Nodup->(ns.map fun x=>(Rk.lg (e :: ls) x).length).sum<=(ns.map fun x=>(Rk.lg ls x).length).sum+(if e.1 ∈ ns then 1 else 0):=by
   intro ns
   induction ns with
   | nil=>intro _;simp
   | cons a ns ih2 =>
    intro hn
    rw[List.nodup_cons] at hn
    have h2:=ih2 hn.2
    simp only[List.map_cons,List.sum_cons]
    rw[Rk.lg_cons]
    by_cases ha:e.1=a
    ·have hna:¬ e.1 ∈ ns:=by rw[ha];exact hn.1
     simp only[ha,if_true,List.mem_cons,true_or]
     rw[if_neg hna] at h2
     simp
     omega
    ·simp only[ha,if_false,List.mem_cons,false_or]
     omega
  have h2:=key ns hn
  rw[List.length_cons]
  split at h2 <;> omega
theorem stN_len (T:Ts) (ls:List Ex):∀ ss:List Str,(∀ x ∈ ss,∃ r,T x=some r/\r.log=Rk.lg ls x)->(stN T ss).length=ss.length+(ss.map fun x=>(Rk.lg ls x).length).sum
 | [],_=>by simp[stN]
 | x :: ss,h=>by
  have h1:=stN_len T ls ss (fun z hz=>h z (List.mem_cons_of_mem _ hz))
  obtain⟨r,h2,h3⟩:=h x (List.mem_cons_self ..)
  unfold stN at h1 ⊢
  rw[List.flatMap_cons,List.length_append,h1]
  unfold st1
  rw[h2]
  simp only[List.length_cons,List.length_map,List.map_cons,List.sum_cons,h3]
  omega
structure Wn (k:Nat) (T:Ts) (ss:List Str):Prop where
 ok:∀ s ∈ stN T ss,StC s
 n:(stN T ss).length<=201*k
 g:StG noT (stN T ss)
 m:stF noT (stN T ss)=aT T
theorem fs1_tk (m:Rk.Tb Str Kp Le) (x:Str) (r:Lr) (h:rOk (x,(r.id,r.tg))):Rk.tk m (sP (fs1 x r))=Rk.putT m x (r.id,r.tg)/\StC (fs1 x r):=by
 rcases h with ⟨h1,h2,⟨h3,h4⟩ | ⟨h3,h4,h5⟩⟩
 ·simp only at h3 h4
  unfold fs1
  rw[h3]
  simp only[if_true]
  exact⟨tk_ref m x r.id,⟨⟨h1,h2,qK,by simp,.inl rfl⟩,fun _=>h4,fun e=>absurd (show wR=wL from e) (by decide)⟩⟩
 ·simp only at h3 h4 h5
  have hne:¬ r.tg=[]:=fun e=>by rw[e] at h3;cases h3
  unfold fs1
  simp only[hne,if_false]
  exact⟨by rw[tk_lnk,h5],⟨⟨h1,h2,qK,qZ h3,.inr (.inl ⟨rfl,h3⟩)⟩,fun e=>absurd (show wL=wR from e) (by decide),fun _=>h4⟩⟩
theorem st1_stg (T:Ts) (x:Str) (r:Lr) (hT:T x=some r) (h:rOk (x,(r.id,r.tg))) (hl:∀ e ∈ r.log,uy e) (m:Rk.Tb Str Kp Le) (B:Nat) (hB:LB m B) (hn:B+r.log.length<=100000):StG m (st1 T x)/\LB (stF m (st1 T x)) (B+r.log.length):=by
 have key:∀ (es:List Le) (m:Rk.Tb Str Kp Le) (B:Nat),(∀ e ∈ es,uy e)->LB m B->B+es.length<=100000->(m x).isSome=true->StG m (es.map (lg1 x))/\LB (stF m (es.map (lg1 x))) (B+es.length):=by
  intro es
  induction es with
  | nil=>intro m B _ hB _ _;exact⟨trivial,hB⟩
  | cons e es ih =>
   intro m B he hB hn hs
   rw[List.length_cons] at hn
   obtain⟨k1,k2⟩:=ih (Rk.logT m x e) (B+1) (fun a ha=>he a (List.mem_cons_of_mem _ ha)) (hB.log x e) (by omega) (log_some m x x e hs)
   obtain⟨y,hy⟩:=Option.isSome_iff_exists.1 hs
   rw[List.map_cons,j9,tk_log,List.length_cons,show B+(es.length+1)=B+1+es.length by omega]
   exact⟨⟨Qk (qZ h.1) (he e (List.mem_cons_self ..)),.inr ⟨rfl,y.1,y.2,hy,by have:=hB x y.1 y.2 hy;omega⟩,by rw[tk_log];exact k1⟩,k2⟩
 obtain⟨g1,g2⟩:=fs1_tk m x r h
 obtain⟨k1,k2⟩:=key r.log (Rk.putT m x (r.id,r.tg)) B hl (hB.put _ _) hn (by unfold Rk.putT;simp)
 unfold st1
 rw[hT]
 simp only
 rw[j9,g1]
 refine⟨⟨⟨g2.st.id,g2.st.e,qZ g2.st.nm,g2.st.tg⟩,?_,by rw[g1];exact k1⟩,k2⟩
 unfold fs1
 by_cases e:r.tg=[]
 ·exact .inl (.inl (by simp[e]))
 ·exact .inl (.inr (.inl (by simp[e])))
theorem stN_stg (T:Ts):∀ (ss:List Str) (m:Rk.Tb Str Kp Le) (B:Nat),(∀ x ∈ ss,∃ r,T x=some r/\rOk (x,(r.id,r.tg))/\∀ e ∈ r.log,uy e)->LB m B->B+(stN T ss).length<=100000->StG m (stN T ss)
 | [],m,B,_,_,_=>trivial
 | x :: ss,m,B,h,hB,hn=>by
  obtain⟨r,h1,h2,h3⟩:=h x (List.mem_cons_self ..)
  have hl:(st1 T x).length=r.log.length+1:=by unfold st1;rw[h1];simp
  unfold stN at hn ⊢
  rw[List.flatMap_cons,List.length_append,hl] at hn
  rw[List.flatMap_cons]
  obtain⟨k1,k2⟩:=st1_stg T x r h1 h2 h3 m B hB (by omega)
  exact(Y4 _ _ _).2 ⟨k1,stN_stg T ss _ _ (fun z hz=>h z (List.mem_cons_of_mem _ hz)) k2 (by unfold stN;omega)⟩
theorem stN_tS (T:Ts):∀ ss:List Str,(∀ x ∈ ss,∃ r,T x=some r/\rOk (x,(r.id,r.tg)))->(stN T ss).map sP=Rk.tS (ss.map fun x=>(x,(((T x).map fun r=>((r.id,r.tg),r.log)).getD (([],[]),[]):Kp × List Le)))
 | [],_=>rfl
 | x :: ss,h=>by
  obtain⟨r,h1,h2⟩:=h x (List.mem_cons_self ..)
  have ih:=stN_tS T ss (fun z hz=>h z (List.mem_cons_of_mem _ hz))
  unfold stN Rk.tS at ih ⊢
  rw[List.flatMap_cons,List.map_append,ih,List.map_cons,List.flatMap_cons]
  congr 1
  unfold st1
  rw[h1]
  simp only[List.map_cons,Option.map_some,Option.getD_some,List.map_map]
  refine List.cons_eq_cons.2 ⟨?_,List.map_congr_left fun e _=>sP_log x e⟩
  rcases h2 with ⟨_,_,⟨h3,h4⟩ | ⟨h3,h4,h5⟩⟩
  ·simp only at h3
   simp only[sP,fs1,h3,if_true]
  ·simp only at h3 h5
   have hne:¬ r.tg=[]:=fun e=>by rw[e] at h3;cases h3
   have hw1:¬ wL=wR:=by decide
   simp only[sP,fs1,hne,hw1,if_false,if_true,h5]
theorem tab_at (f:Str->Kp × List Le):∀ (ss:List Str) (b:Str),Rk.tab (ss.map fun x=>(x,f x)) b=if b ∈ ss then some (f b) else none
 | [],b=>by simp[Rk.tab]
 | x :: ss,b=>by
  rw[List.map_cons]
  unfold Rk.tab
  rw[tab_at f ss b]
  by_cases e:x=b
  ·simp[e]
  ·simp only[e,if_false,List.mem_cons]
   by_cases hb:b ∈ ss
   ·simp[hb]
   ·have hne:¬ b=x:=fun h=>e h.symm
    simp[hb,hne]
theorem Ib.wn {k:Nat} {m:Rk.Tb Str Kp Le} {rs:List Rx} {ls:List Ex} (h:Ib k m rs ls) (hk:k<=100) {T:Ts} (hT:aT T=m) {ss:List Str} (hn:Nms T ss):Wn k T ss:=by
 have hat:∀ x ∈ ss,∃ r,T x=some r/\rOk (x,(r.id,r.tg))/\(∀ e ∈ r.log,uy e/\okG e.who e.text)/\r.log=Rk.lg ls x:=fun x hx=>by
  rcases h.at hT x with ⟨h1,_⟩ | ⟨r,h1,h2,h3⟩
  ·exact absurd h1 ((hn.mem x).1 hx)
  ·refine⟨r,h1,h.fdok h2,fun e he=>?_,h3⟩
   rw[h3] at he
   unfold Rk.lg at he
   obtain⟨y,hy,rfl⟩:=List.mem_map.1 he
   exact h.lok y (List.mem_filter.1 hy).1
 have hlen:(stN T ss).length<=201*k:=by
  rw[stN_len T ls ss (fun x hx=>by obtain⟨r,h1,_,_,h4⟩:=hat x hx;exact⟨r,h1,h4⟩)]
  have h1:=logs_sum ls ss hn.nd
  have h2:=h.few hT hn
  have h3:=h.n2
  omega
 refine⟨fun s hs=>?_,hlen,stN_stg T ss noT 0 (fun x hx=>by obtain⟨r,h1,h2,h3,_⟩:=hat x hx;exact⟨r,h1,h2,fun e he=>(h3 e he).1⟩) (fun a q l ha=>by cases ha) (by omega),?_⟩
 ·unfold stN at hs
  obtain⟨x,hx,hs⟩:=List.mem_flatMap.1 hs
  obtain⟨r,h1,h2,h3,_⟩:=hat x hx
  unfold st1 at hs
  rw[h1] at hs
  rcases List.mem_cons.1 hs with rfl | hs
  ·exact(fs1_tk noT x r h2).2
  ·obtain⟨e,he,rfl⟩:=List.mem_map.1 hs
   exact⟨⟨h2.1,qK.1,(h3 e he).1,by simp[lg1],.inr (.inr (.inr ⟨rfl,(h3 e he).2⟩))⟩,fun e=>absurd (show wG=wR from e) (by decide),fun e=>absurd (show wG=wL from e) (by decide)⟩
 ·unfold stF
  rw[stN_tS T ss (fun x hx=>by obtain⟨r,h1,h2,_⟩:=hat x hx;exact⟨r,h1,h2⟩),Rk.tS_back _ noT ?_ (fun x _=>rfl)]
  ·funext b
   rw[tab_at]
   unfold noT aT
   by_cases hb:b ∈ ss
   ·obtain⟨r,h1,_⟩:=hat b hb
    simp[hb,h1]
   ·have:T b=none:=by
     cases e:T b with
     | none=>rfl
     | some r=>exact absurd ((hn.mem b).2 (by rw[e];simp)) hb
    simp[hb,this]
  ·rw[List.pairwise_map]
   exact hn.nd
theorem Ib.fewT {k:Nat} {m:Rk.Tb Str Kp Le} {rs:List Rx} {ls:List Ex} (h:Ib k m rs ls) (hk:k<=100) {T:Ts} (hT:aT T=m):Few T:=⟨fun ss hn=>by
 have hw:=h.wn hk hT hn
 have h1:=Y3 (stN T ss) (fun s hs=>(hw.ok s hs).st)
 have h2:=hw.n
 exact⟨fun s hs=>stc_stl (hw.ok s hs),by omega,by omega⟩⟩
structure Fl (k:Nat) (m:Rk.Tb Str Kp Le) (bs:List (List Sp)):Prop where
 ne:bs ≠ []
 ok:∀ ss ∈ bs,∀ s ∈ ss,StC s
 g:StG noT (bs.flatten.map cnS)
 m:stF noT (bs.flatten.map cnS)=m
 n:bs.length<=k
 few:bs.flatten.length<=201*k
def FlO (k:Nat) (m:Rk.Tb Str Kp Le):Option (List (List Sp))->Prop
 | none=>m=noT
 | some bs=>Fl k m bs
theorem stg_cn:∀ (ss:List Sp) (m:Rk.Tb Str Kp Le),(∀ s ∈ ss,StR s)->StG m ss->StG m (ss.map cnS)/\stF m (ss.map cnS)=stF m ss
 | [],m,_,_=>⟨trivial,rfl⟩
 | s :: ss,m,h,hg=>by
  have hs:=h s (List.mem_cons_self ..)
  obtain⟨k1,k2⟩:=stg_cn ss (Rk.tk m (sP s)) (fun z hz=>h z (List.mem_cons_of_mem _ hz)) hg.2.2
  rw[List.map_cons,j9,j9,cn_sP hs]
  refine⟨⟨Xu hs,?_,by rw[cn_sP hs];exact k1⟩,k2⟩
  have hw:=cn_word hs
  have:=hg.2.1
  unfold StO at this ⊢
  rw[hw.1,hw.2]
  exact this
theorem Fl.more {k:Nat} {m:Rk.Tb Str Kp Le} {bs:List (List Sp)} (h:Fl k m bs) {ss:List Sp} (hc:∀ s ∈ ss,StC s) (hg:StG m ss) (hn:ss.length<=201):Fl (k+1) (stF m ss) (bs++[ss])/\fB (bs++[ss])=fB bs++bkS (wrL ss):=by
 obtain⟨k1,k2⟩:=stg_cn ss m (fun s hs=>(hc s hs).st) hg
 have hfl:(bs++[ss]).flatten=bs.flatten++ss:=by simp
 refine⟨⟨by simp,fun s hs=>?_,?_,?_,by have:=h.n;simp;omega,by have:=h.few;rw[hfl,List.length_append];omega⟩,by unfold fB;simp⟩
 ·rcases List.mem_append.1 hs with hs | hs
  ·exact h.ok s hs
  ·rw[List.mem_singleton.1 hs];exact hc
 ·rw[hfl,List.map_append,Y4,h.m]
  exact⟨h.g,k1⟩
 ·rw[hfl,List.map_append,stF_app,h.m,k2]
theorem Ib.flNew {k:Nat} {m:Rk.Tb Str Kp Le} {rs:List Rx} {ls:List Ex} (h:Ib k m rs ls) (hk:k<=100) (h1:1<=k) {T:Ts} (hT:aT T=m) {f:Str} (hf:Anew T f):∃ bs,f=fB bs/\Fl k m bs:=by
 obtain⟨ss,hn,rfl⟩:=hf
 have hw:=h.wn hk hT hn
 obtain⟨k1,k2⟩:=stg_cn (stN T ss) noT (fun s hs=>(hw.ok s hs).st) hw.g
 have hfl:[stN T ss].flatten=stN T ss:=by simp
 exact⟨[stN T ss],by unfold fB;simp,by simp,fun s hs=>by rw[List.mem_singleton.1 hs];exact hw.ok,by rw[hfl];exact k1,by rw[hfl,k2,hw.m,hT],h1,by rw[hfl];exact hw.n⟩
theorem Fl.up {k:Nat} {m:Rk.Tb Str Kp Le} {bs:List (List Sp)} (h:Fl k m bs):Fl (k+1) m bs:=⟨h.ne,h.ok,h.g,h.m,by have:=h.n;omega,by have:=h.few;omega⟩
theorem Ib.up {k:Nat} {m:Rk.Tb Str Kp Le} {rs:List Rx} {ls:List Ex} (h:Ib k m rs ls):Ib (k+1) m rs ls:=⟨h.r,h.asc,h.rok,h.lok,by have:=h.n1;omega,by have:=h.n2;omega⟩
theorem Iv.up {k:Nat} {m:Rk.Tb Str Kp Le} {rs:List Rx} {ls:List Ex} (h:Iv k m rs ls):Iv (k+1) m rs ls:=⟨h.toIb.up,h.cl⟩
theorem FlO.up {k:Nat} {m:Rk.Tb Str Kp Le} {o:Option (List (List Sp))} (h:FlO k m o):FlO (k+1) m o:=by
 cases o with
 | none=>exact h
 | some bs=>exact Fl.up h
theorem bk_len (ss:List Sp) (h:∀ s ∈ ss,StC s) (hn:ss.length<=100000):(bkS (wrL ss)).length<=105+3000*ss.length:=by
 have h1:=Y3 ss (fun s hs=>(h s hs).st)
 unfold bkS
 rw[List.length_append,uZ _ (by omega)]
 omega
theorem fB_len:∀ bs:List (List Sp),(∀ ss ∈ bs,∀ s ∈ ss,StC s)->bs.flatten.length<=100000->(fB bs).length<=105*bs.length+3000*bs.flatten.length
 | [],_,_=>by simp[fB]
 | ss :: bs,h,hn=>by
  rw[List.flatten_cons,List.length_append] at hn
  have h1:=fB_len bs (fun z hz=>h z (List.mem_cons_of_mem _ hz)) (by omega)
  have h2:=bk_len ss (h ss (List.mem_cons_self ..)) (by omega)
  unfold fB at h1 ⊢
  rw[List.flatMap_cons,List.length_append,List.flatten_cons,List.length_append,List.length_cons]
  omega
theorem Fl.len {k:Nat} {m:Rk.Tb Str Kp Le} {bs:List (List Sp)} (h:Fl k m bs) (hk:k<=100):(fB bs).length<=61000000:=by
 have:=fB_len bs h.ok (by have:=h.few;omega)
 have h1:=h.n
 have h2:=h.few
 omega
theorem up_ok {k:Nat} {m:Rk.Tb Str Kp Le} {rs:List Rx} {ls:List Ex} (h:Ib k m rs ls) (hk:k<100) {T:Ts} (hT:aT T=m) {ms:List Mv1} {ws:List (List Str)} (hw:Wk rs (ws.zip ms)) (p:Per) (tx:Str):UpOk T ms p tx ws:=by
 refine⟨fun hg T' hT'=>?_,by rw[hT];exact up_stg h (by omega) hw p tx,fun z hz=>?_,fun hg=>?_⟩
 ·rw[hT] at hT'
  exact(up_Ib h hw hg).fewT (by omega) hT'
 ·rw[hT] at hz
  have h1:=(up_R h hw p tx).at z
  obtain⟨_,k2,_⟩:=rsU_all (ws.zip ms) rs h.asc h.rok (fun y hy=>⟨hw.pos y hy,hw.nam y hy,hw.ok y hy⟩)
  cases hf:Rk.fd (rsU rs (ws.zip ms)) z with
  | none=>rw[hf] at h1;rw[h1] at hz;cases hz
  | some q=>exact isN_lo (k2 _ (mem_of_fd _ z q hf)).1
 ·have hc:=up_stc hw hg
  have h1:=Y3 _ (fun s hs=>(hc s hs).st)
  have h2:=stU_len p tx (ws.zip ms) hw.nine
  have h3:=hw.few
  exact⟨fun s hs=>stc_stl (hc s hs),by omega⟩
def erV (k:Int):Value:=if k=0 then .nilIface else .iface 44 (.int .i64 k)
def After (S XE:Nat->Prop) (N D R k:Nat) (k':Int) (rs':List Rx) (ls':List Ex) (w:World) (e:Ending) (w1:World):Prop:=e=.returned (erV k')/\∃ S' N' t' n' T' o',Pw S' XE N' D R w1 (Option.map fB o') t' n' T'/\Iv (k+1) (aT T') rs' ls'/\FlO (k+1) (aT T') o'/\n'<=n'/\n'<=201*(k+1)/\N'<=N+4/\Gr S S' R w w1
theorem Wl.one {f:Str->Option (List Str)} {xs:List Str} {a b:List (List Str)} (h1:Wl f xs a) (h2:Wl f xs b):a=b:=by
 refine List.ext_getElem (by rw[h1.1,h2.1]) fun j hj1 hj2=>?_
 have k1:=(h1.2 j (by rw[<-h1.1];exact hj1)).2
 have k2:=(h2.2 j (by rw[<-h1.1];exact hj1)).2
 rw[k1] at k2
 injection k2 with k2
 rw[List.getD_eq_getElem?_getD,List.getElem?_eq_getElem hj1,List.getD_eq_getElem?_getD,List.getElem?_eq_getElem hj2] at k2
 exact k2
theorem Wl.at {f:Str->Option (List Str)} {xs:List Str} {i j:Nat} {a:List (List Str)} (h:Wl f (xs.take i) a) (hj:j<i) (hi:i<=xs.length):isN (xs.getD j [])=true/\f (xs.getD j []) ≠ none:=by
 have:=h.2 j (by rw[List.length_take];omega)
 rw[show (xs.take i).getD j []=xs.getD j [] by simp[List.getD_eq_getElem?_getD,List.getElem?_take,hj]] at this
 exact⟨this.1,by rw[this.2];simp⟩
theorem ways_both {f:Str->Option (List Str)} {xs:List Str} {b b':Int->Prop} {g g':List (List Str)->Prop} (h:WaysX f xs b g) (h':WaysX f xs b' g'):(∃ e,(e=60 ∨ e=64)/\b e/\b' e) ∨ (∃ ls,Wl f xs ls/\(ls.map enW).Nodup/\g ls/\g' ls):=by
 have bad:∀ {i:Nat} {q:Int->Prop},((isN (xs.getD i [])=false/\q 60) ∨ (isN (xs.getD i [])=true/\f (xs.getD i [])=none/\q 64))->¬ (isN (xs.getD i [])=true/\f (xs.getD i []) ≠ none):=fun hq hx=>by
  rcases hq with ⟨e,_⟩ | ⟨_,e,_⟩
  ·rw[e] at hx;cases hx.1
  ·exact hx.2 e
 have full:∀ {ls:List (List Str)},Wl f xs ls->∀ i,i<xs.length->(isN (xs.getD i [])=true/\f (xs.getD i []) ≠ none):=fun hw i hi=>by
  have:=hw.2 i hi
  exact⟨this.1,by rw[this.2];simp⟩
 rcases h with ⟨i,hi,⟨l1,hl1⟩,hb⟩ | ⟨ls,hl,hg⟩
 ·rcases h' with ⟨i',hi',⟨l2,hl2⟩,hb'⟩ | ⟨ls',hl',_⟩
  ·have hii:i=i':=by
    rcases Nat.lt_trichotomy i i' with hlt | he | hlt
    ·exact absurd (hl2.at hlt (by omega)) (bad hb)
    ·exact he
    ·exact absurd (hl1.at hlt (by omega)) (bad hb')
   subst hii
   rcases hb with ⟨h1,h2⟩ | ⟨h1,h2,h3⟩
   ·rcases hb' with ⟨_,h5⟩ | ⟨h4,_,_⟩
    ·exact .inl ⟨60,.inl rfl,h2,h5⟩
    ·rw[h1] at h4;cases h4
   ·rcases hb' with ⟨h4,_⟩ | ⟨_,_,h6⟩
    ·rw[h1] at h4;cases h4
    ·exact .inl ⟨64,.inr rfl,h3,h6⟩
  ·exact absurd (full hl' i hi) (bad hb)
 ·rcases h' with ⟨i',hi',_,hb'⟩ | ⟨ls',hl',hg'⟩
  ·exact absurd (full hl i' hi') (bad hb')
  ·have:=hl.one hl'
   subst this
   rcases hg with ⟨h1,h2⟩ | ⟨h1,h2⟩
   ·rcases hg' with ⟨_,h4⟩ | ⟨h3,_⟩
    ·exact .inl ⟨60,.inl rfl,h2,h4⟩
    ·exact absurd h3 h1
   ·rcases hg' with ⟨h3,_⟩ | ⟨_,h4⟩
    ·exact absurd h1 h3
    ·exact .inr ⟨ls,hl,h1,h2,h4⟩
theorem gr_below {S:Nat->Prop} {R:Nat} {w w1:World} (h:Below w.heap.size w w1):Gr S S R w w1:=⟨fun i hi=>hi,fun i hi=>.inl hi,Al.below h⟩
theorem xX {S XE:Nat->Prop} {N D R k t n:Nat} {T:Ts} {o:Option (List (List Sp))} {rs:List Rx} {ls:List Ex} {w w1:World} {e:Ending} {kk:Int} (h:Pw S XE N D R w (Option.map fB o) t n T) (hi:Iv k (aT T) rs ls) (hf:FlO k (aT T) o) (hn:n<=201*k) (hk:kk ≠ 0) (ht:Told kk w e w1):After S XE N D R k kk rs ls w e w1:=by
 obtain⟨rfl,hb⟩:=ht
 exact⟨by unfold erV;rw[if_neg hk],S,N,t,n,T,o,h.below hb,hi.up,hf.up,Nat.le_refl _,by omega,by omega,gr_below hb⟩
theorem kZ {S XE:Nat->Prop} {N D R k n:Nat} {m:Rk.Tb Str Kp Le} {fs:Ts->Str->Prop} {rs:List Rx} {ls:List Ex} {w w1:World} {e:Ending} (hi:Iv (k+1) m rs ls) (hn:n<=201*(k+1)) (hf:∀ T' f,aT T'=m->fs T' f->∃ bs,f=fB bs/\Fl (k+1) m bs) (h:Qy S XE N D R n fs m w e w1):After S XE N D R k 0 rs ls w e w1:=by
 obtain⟨S',t',T',f,rfl,h1,h2,h3,h4⟩:=h
 obtain⟨bs,rfl,hbs⟩:=hf T' f h3 h1
 exact⟨rfl,S',N+4,t',n,T',some bs,h2,by rw[h3];exact hi,by rw[h3];exact hbs,Nat.le_refl _,hn,Nat.le_refl _,h4⟩
theorem fs_add {k:Nat} {m m':Rk.Tb Str Kp Le} {rs:List Rx} {ls:List Ex} {o:Option (List (List Sp))} (hf:FlO k m o) {ss:List Sp} (hc:∀ s ∈ ss,StC s) (hg:StG m ss) (hn:ss.length<=201) (hm:stF m ss=m') (hi:Ib (k+1) m' rs ls) (hk:k<100):∀ T' f,aT T'=m'->FsA (Option.map fB o) ss T' f->∃ bs,f=fB bs/\Fl (k+1) m' bs:=fun T' f hT hfs=>by
 cases o with
 | none=>exact hi.flNew (by omega) (by omega) hT hfs
 | some bs =>
  obtain⟨h1,h2⟩:=Fl.more (show Fl k m bs from hf) hc hg hn
  rw[hm] at h1
  exact⟨bs++[ss],by rw[h2];exact hfs,h1⟩
theorem up_both {S XE:Nat->Prop} {N D R k t n:Nat} {T:Ts} {o:Option (List (List Sp))} {rs rs':List Rx} {ls ls':List Ex} {w w1:World} {e:Ending} {k':Int} {ms:List Mv1} {p:Per} {tx:Str} (h:Pw S XE N D R w (Option.map fB o) t n T) (hi:Iv k (aT T) rs ls) (hf:FlO k (aT T) o) (hn:n<=201*k) (hk:k<100) (hok:∀ x ∈ ms,xw x) (h20:ms.length<=20)
  (hp:jK S XE N D R (Option.map fB o) n T ms p tx w e w1) (hd:UdP rs ls ms p tx k' rs' ls'):After S XE N D R k k' rs' ls' w e w1:=by
 unfold jK at hp
 rw[hi.wy rfl] at hp
 rcases ways_both hp hd with ⟨c,hc,h1,rfl,rfl,rfl⟩ | ⟨ws,hw,hnd,h1,h2⟩
 ·exact xX h hi hf hn (by rcases hc with rfl | rfl <;> decide) h1
 ·have hwk:=wk_of hi.toIb hw hnd hok h20
  have hlen:ws.length=ms.length:=by rw[hw.1];simp
  have hob:∀ j,j<ms.length->(idT T (enW (ws.getD j []))=(ms.getD j dMv).old ↔ okO rs (enW (ws.getD j [])) (ms.getD j dMv).old):=fun j hj=>by
   have hjw:j<ws.length:=by omega
   refine ok_both hi.toIb rfl ?_ _
   have hjz:j<(ws.zip ms).length:=by rw[List.length_zip];omega
   have:=hwk.last _ (List.getElem_mem hjz)
   rw[List.getElem_zip] at this
   rw[List.getD_eq_getElem?_getD,List.getElem?_eq_getElem hjw]
   exact this
  rcases h1 with ⟨i,a1,a2,a3,a4⟩ | ⟨a1,a2⟩
  ·rcases h2 with ⟨i',b1,b2,b3,rfl,rfl,rfl⟩ | ⟨b1,_⟩
   ·exact xX h hi hf hn (by decide) a4
   ·exact absurd ((hob i a1).2 (b1 i a1)) a3
  ·rcases h2 with ⟨i',b1,b2,b3,_⟩ | ⟨b1,b2⟩
   ·exact absurd ((hob i' b1).1 (a1 i' b1)) b3
   ·obtain⟨_,g2,_⟩:=rsU_all (ws.zip ms) rs hi.asc hi.rok (fun y hy=>⟨hwk.pos y hy,hwk.nam y hy,hwk.ok y hy⟩)
    have hcl:=YX (up_R hi.toIb hwk p tx) (fun x hx=>(g2 x hx).1)
    rcases a2 with ⟨a3,a4⟩ | ⟨a3,a4⟩
    ·rcases b2 with ⟨b3,rfl,rfl,rfl⟩ | ⟨b3,_⟩
     ·exact xX h hi hf hn (by decide) a4
     ·exact absurd (hcl.1 a3) b3
    ·rcases b2 with ⟨b3,_⟩ | ⟨b3,b4⟩
     ·exact absurd (hcl.2 b3) a3
     ·rcases a4 with ⟨a5,a6⟩ | ⟨a5,a6⟩
      ·rcases b4 with ⟨_,rfl,rfl,rfl⟩ | ⟨b5,_⟩
       ·exact xX h hi hf hn (by decide) a6
       ·exact absurd b5 a5
      ·rcases b4 with ⟨b5,_⟩ | ⟨_,rfl,rfl,rfl⟩
       ·exact absurd a5 b5
       ·have h6:=stU_len p tx (ws.zip ms) hwk.nine
        have h7:=hwk.few
        have hib:=up_Ib hi.toIb hwk a5
        exact kZ ⟨hib,b3⟩ (by omega) (fs_add hf (up_stc hwk a5) (up_stg hi.toIb (by omega) hwk p tx) (by omega) rfl hib hk) a6
theorem stF_lk (m:Rk.Tb Str Kp Le) (x y:Str):stF m [lkS x y]=Rk.putT m x (zQ,y):=by
 unfold lkS
 rw[j9,stF_nil,tk_lnk]
theorem lk_Ib {k:Nat} {m:Rk.Tb Str Kp Le} {rs:List Rx} {ls:List Ex} (h:Ib k m rs ls) {x y:Str} (hx:isN x=true) (hy:isN y=true) (hne:x ≠ y):Ib (k+1) (stF m [lkS x y]) (Rk.setL geS x (some (zQ,y)) rs false) ls:=by
 refine⟨?_,Rk.setL_rising ltS geS geS_iff ltS_irr ltS_tr ltS_tot _ _ rs _ h.asc,fun z hz=>?_,h.lok,?_,by have:=h.n2;omega⟩
 ·rw[stF_lk]
  exact h.r.put x (zQ,y) _ (fun b=>by rw[Rk.fd_setL];rfl)
 ·rcases mem_set2 _ _ _ _ _ z hz with ⟨rfl,_⟩ | hz
  ·exact⟨hx,z20_ok,.inr ⟨hy,fun e=>hne e.symm,rfl⟩⟩
  ·exact h.rok z hz
 ·have:=QX geS x (zQ,y) rs false
  have h1:=h.n1
  simp at this
  omega
theorem lk_both {S XE:Nat->Prop} {N D R k t n:Nat} {T:Ts} {o:Option (List (List Sp))} {rs rs':List Rx} {ls:List Ex} {w w1:World} {e:Ending} {k':Int} {x y:Str} (h:Pw S XE N D R w (Option.map fB o) t n T) (hi:Iv k (aT T) rs ls) (hf:FlO k (aT T) o) (hn:n<=201*k) (hk:k<100)
  (hp:jx S XE N D R (Option.map fB o) n T x y w e w1) (hd:LkP rs x y k' rs'):After S XE N D R k k' rs' ls w e w1:=by
 rcases hp with ⟨a1,a2⟩ | ⟨a1,a2⟩
 ·rcases hd with ⟨_,rfl,rfl⟩ | ⟨b1,_⟩
  ·exact xX h hi hf hn (by decide) a2
  ·exact absurd b1 a1
 ·rcases hd with ⟨b1,_⟩ | ⟨_,b2⟩
  ·exact absurd a1 b1
  ·rcases a2 with ⟨a3,a4⟩ | ⟨a3,a4⟩
   ·rcases b2 with ⟨_,rfl,rfl⟩ | ⟨b3,_⟩
    ·exact xX h hi hf hn (by decide) a4
    ·exact absurd a3 b3
   ·rcases b2 with ⟨b3,_⟩ | ⟨_,b3⟩
    ·exact absurd b3 a3
    ·have hib:=lk_Ib hi.toIb a1.1 a1.2 a3
     have hcl:=YX hib.r (fun z hz=>(hib.rok z hz).1)
     rcases a4 with ⟨a5,a6⟩ | ⟨a5,a6⟩
     ·rcases b3 with ⟨_,rfl,rfl⟩ | ⟨b4,_⟩
      ·exact xX h hi hf hn (by decide) a6
      ·exact absurd (hcl.1 a5) b4
     ·rcases b3 with ⟨b4,_⟩ | ⟨b4,rfl,rfl⟩
      ·exact absurd (hcl.2 b4) a5
      ·have hlk:StC (lkS x y):=⟨⟨a1.1,qK.1,qK,qZ a1.2,.inr (.inl ⟨rfl,a1.2⟩)⟩,fun e=>absurd (show wL=wR from e) (by decide),fun _ e=>a3 e.symm⟩
       exact kZ ⟨hib,b4⟩ (by omega) (fs_add hf (fun s hs=>by rw[List.mem_singleton.1 hs];exact hlk) (show StG (aT T) [lkS x y] from ⟨(stc_stl hlk).1,.inl (.inr (.inl rfl)),trivial⟩) (by simp) rfl hib hk) a6
theorem ex_Ib {k:Nat} {m:Rk.Tb Str Kp Le} {rs:List Rx} {ls:List Ex} (h:Ib k m rs ls) (x:Str) (i:Nat):Ib k (exT m x i) rs (Rk.exL x i ls) :=
 ⟨h.r.expire x i,h.asc,h.rok,fun e he=>h.lok e (exL_mem x ls i e he),h.n1,Nat.le_trans (exL_len x ls i) h.n2⟩
theorem ex_both {S XE:Nat->Prop} {N D R k t n:Nat} {T:Ts} {o:Option (List (List Sp))} {rs:List Rx} {ls:List Ex} {w w1:World} {e:Ending} {kk:Int} {x:Str} (h:Pw S XE N D R w (Option.map fB o) t n T) (hi:Iv k (aT T) rs ls) (hf:FlO k (aT T) o) (hn:n<=201*k) (hk:k<100)
  (hp:Post26 S XE N D R n T x kk w e w1):After S XE N D R k (oN (lgD rs ls x)) rs (exP rs ls x kk) w e w1:=by
 unfold Post26 gt at hp
 unfold exP lgD
 cases hx:isN x with
 | false =>
  rw[hx] at hp
  exact xX h hi hf hn (show (60:Int) ≠ 0 by decide) hp
 | true =>
  rw[hx] at hp
  rcases hi.at rfl x with ⟨h1,h2⟩ | ⟨r,h1,h2,h3⟩
  ·rw[h1] at hp
   rw[h2]
   exact xX h hi hf hn (show (61:Int) ≠ 0 by decide) hp
  ·rw[h1] at hp
   rw[h2]
   simp only[if_true,Option.isSome_some] at hp ⊢
   have hl:(ls.filter fun e=>decide (e.1=x)).length=r.log.length:=by rw[h3];unfold Rk.lg;rw[List.length_map]
   rw[hl]
   have hib:=(ex_Ib hi.toIb x (r.log.length-kk.toNat)).up
   exact kZ ⟨hib,hi.cl⟩ (by omega) (fun T' f hT hf=>hib.flNew (by omega) (by omega) hT hf) hp
theorem pk_both {S XE:Nat->Prop} {N D R k n:Nat} {m:Rk.Tb Str Kp Le} {rs:List Rx} {ls:List Ex} {w w1:World} {e:Ending} (hi:Iv k m rs ls) (hn:n<=201*k) (hk:k<100) (hp:Qy S XE N D R n Anew m w e w1):After S XE N D R k 0 rs ls w e w1 :=
 kZ hi.up (by omega) (fun T' f hT hf=>hi.up.toIb.flNew (by omega) (by omega) hT hf) hp
theorem Tryz.results10:Tryz.f10.results=#[.tmp 4]:=by kernel_rfl
theorem lsD_len (rs:List Rx) (p:Str):(lsD rs p).length<=rs.length:=by unfold lsD;exact List.length_filterMap_le _ _
theorem lsD_ok {rs:List Rx} (h:∀ x ∈ rs,Z9 x) (p:Str):∀ y ∈ lsD rs p,Z9 y:=fun y hy=>by
 unfold lsD at hy
 obtain⟨r,hr,e⟩:=List.mem_filterMap.1 hy
 unfold ls1 at e
 split at e
 ·split at e
  ·rename_i id hid
   cases e
   exact⟨(h r hr).1,rd_ok h hid,by simp⟩
  ·cases e
 ·cases e
theorem two_lists {S XE:Nat->Prop} {N D R:Nat} {f:Option Str} {t n:Nat} {T:Ts} {G Q k:Nat} {v1 v2:Value} {rs:List Rx} {ls:List Ex} (p:Str) (hp:p.length<=1000) (w:World) (h:Pw S XE N D R w f t n T) (hD:Dq G w Q v1 v2 rs ls) (hi:Ib k (aT T) rs ls) (hk:k<=100) (hn:n<=100000) :
  Calls Tryz.prog 29 #[.pointer (some ⟨R,0,none⟩),sV p] w fun e w1=>∃ va,e=.returned va/\Calls Tryz.prog 30 #[.pointer (some ⟨Q,0,none⟩),sV p] w1 fun e w2=>∃ vb,e=.returned vb/\Calls Tryz.prog 28 #[va,vb] w2 fun e w3=>e=.returned (.bool true)/\Below w.heap.size w w3:=by
 refine(list_refs S XE N D R w f t n T p h hn (fun ss hs=>by have:=hi.few rfl hs;omega)).mono ?_
 rintro e w1 ⟨va,ss,rfl,hss,hbx⟩
 refine⟨va,rfl,(listD_any p hp w1 (hD.below hbx.below)).mono ?_⟩
 rintro e2 w2 ⟨vb,rfl,hby⟩
 have hok:=lsD_ok hD.ok1 p
 obtain⟨a2,c2,hvb,hP2,hp2⟩:=vV (enc:=qX) (d:=dR) hby.own (fun y hy=>xx (hok y hy))
 subst hvb
 have hown:w2.ownsRow w.heap.size 149 21 va (lsD rs p).length (((lsD rs p).map fun r=>((r.1,r.2.1):Nx)).flatMap j7):=by
  have:=xV hbx.own hby.below
  rw[hi.list rfl hss p,List.length_map] at this
  exact this
 refine⟨_,rfl,(sameList_any w.heap.size va (lsD rs p) a2 c2 w2 hown hP2 (fun q hq=>⟨fun e=>?_,(hp2 q hq).2⟩) hok (by have:=lsD_len rs p;have:=hD.few.1;omega)).mono ?_⟩
 ·have h1:=(yq hbx.own q.block e).2
  have h2:=(hp2 q hq).1
  omega
 ·rintro e3 w3 ⟨rfl,hal⟩
  have hb2:Below w.heap.size w w2:=hbx.below.trans (hby.below.mono hbx.below.size)
  exact⟨rfl,hal.os.trans hb2.os,hal.tape.trans hb2.tape,hal.output.trans hb2.output,Nat.le_trans hb2.size hal.size,fun i hi=>(hal.blk i (by have:=hb2.size;omega) (fun e=>by have:=(yq hbx.own i e).1;omega)).trans (hb2.block i hi)⟩
theorem tells_any {S XE:Nat->Prop} {N D R:Nat} {f:Option Str} {t n:Nat} {T:Ts} {G Q k:Nat} {v1 v2:Value} {rs:List Rx} {ls:List Ex} (w:World) (h:Pw S XE N D R w f t n T) (hD:Dq G w Q v1 v2 rs ls) (hi:Ib k (aT T) rs ls) (hk:k<=100) (hn:n<=100000) (hm:Mx w) (hg:C00 w) :
  Calls Tryz.prog 10 #[.pointer (some ⟨R,0,none⟩),.pointer (some ⟨Q,0,none⟩)] w fun e w'=>e=.returned (.bool true)/\Below w.heap.size w w':=by
 obtain⟨r,HR⟩:=nm_ w.heap.size
 have HST:Hid (∀ W,Below r w W->Pw S XE N D R W f t n T/\Dq G W Q v1 v2 rs ls/\Mx W/\C00 W):=fun W hW=>by
  have hb:Below w.heap.size w W:=by rw[HR.out];exact hW
  exact⟨h.below hb,hD.below hb,hm.below hb,hg.below hb⟩
 have HTR:Hid (∀ W W',Below r w W->Below W.heap.size W W'->Below r w W'):=fun W W' h1 h2=>h1.trans (h2.mono (by have:=h1.size;have:=HR.out;omega))
 have HLS:Hid (∀ p:Str,p.length<=1000->∀ W,Below r w W->Calls Tryz.prog 29 #[.pointer (some ⟨R,0,none⟩),sV p] W fun e w1=>∃ va,e=.returned va/\Calls Tryz.prog 30 #[.pointer (some ⟨Q,0,none⟩),sV p] w1 fun e w2=>∃ vb,e=.returned vb/\Calls Tryz.prog 28 #[va,vb] w2 fun e w3=>e=.returned (.bool true)/\Below r w w3):=fun p hp W hW=>by
  refine(two_lists p hp W (HST.out W hW).1 (HST.out W hW).2.1 hi hk hn).mono ?_
  rintro e w1 ⟨va,he,c⟩
  refine⟨va,he,c.mono ?_⟩
  rintro e w2 ⟨vb,he,c⟩
  refine⟨vb,he,c.mono ?_⟩
  rintro e w3 ⟨he,hb⟩
  exact⟨he,HTR.out W w3 hW hb⟩
 have HAS:Hid (∀ (x:Str) W,Below r w W->Calls Tryz.prog 11 #[.pointer (some ⟨R,0,none⟩),.pointer (some ⟨Q,0,none⟩),sV x] W fun e w'=>e=.returned (.bool true)/\Below r w w'):=fun x W hW=>by
  obtain⟨g1,g2,g3,g4⟩:=HST.out W hW
  exact(asks_any x W g1.rf g1.tt g2 hi g3 g4).mono fun e w' ⟨h1,h2⟩=>⟨h1,HTR.out W w' hW h2⟩
 have HL1:Hid (Calls Tryz.prog 29 #[.pointer (some ⟨R,0,none⟩),.string ⟨#[]⟩] w fun e w1=>∃ va,e=.returned va/\Calls Tryz.prog 30 #[.pointer (some ⟨Q,0,none⟩),.string ⟨#[]⟩] w1 fun e w2=>∃ vb,e=.returned vb/\Calls Tryz.prog 28 #[va,vb] w2 fun e w3=>e=.returned (.bool true)/\Below r w w3):=hid (HLS.out [] (by simp) w (Below.refl _ _))
 have HL2:Hid (∀ W,Below r w W->Calls Tryz.prog 29 #[.pointer (some ⟨R,0,none⟩),.string ⟨#[114,101,102,115,47,104,101,97,100,115,47]⟩] W fun e w1=>∃ va,e=.returned va/\Calls Tryz.prog 30 #[.pointer (some ⟨Q,0,none⟩),.string ⟨#[114,101,102,115,47,104,101,97,100,115,47]⟩] w1 fun e w2=>∃ vb,e=.returned vb/\Calls Tryz.prog 28 #[va,vb] w2 fun e w3=>e=.returned (.bool true)/\Below r w w3):=fun W hW=>HLS.out [114,101,102,115,47,104,101,97,100,115,47] (by simp) W hW
 have HA1:Hid (∀ W,Below r w W->Calls Tryz.prog 11 #[.pointer (some ⟨R,0,none⟩),.pointer (some ⟨Q,0,none⟩),.string ⟨#[72,69,65,68]⟩] W fun e w'=>e=.returned (.bool true)/\Below r w w'):=fun W hW=>HAS.out [72,69,65,68] W hW
 have HA2:Hid (∀ W,Below r w W->Calls Tryz.prog 11 #[.pointer (some ⟨R,0,none⟩),.pointer (some ⟨Q,0,none⟩),.string ⟨#[114,101,102,115,47,104,101,97,100,115,47,97]⟩] W fun e w'=>e=.returned (.bool true)/\Below r w w'):=fun W hW=>HAS.out [114,101,102,115,47,104,101,97,100,115,47,97] W hW
 have HA3:Hid (∀ W,Below r w W->Calls Tryz.prog 11 #[.pointer (some ⟨R,0,none⟩),.pointer (some ⟨Q,0,none⟩),.string ⟨#[110,111,32,110,97,109,101]⟩] W fun e w'=>e=.returned (.bool true)/\Below r w w'):=fun W hW=>HAS.out [110,111,32,110,97,109,101] W hW
 obtain⟨M,HN⟩:=nm_ rs.length
 have hM9:M<=100000:=by rw[<-HN.out];exact hD.few.1
 obtain⟨qa,qc,hqv,hqP,_,hq0⟩:=hD.px1
 have HQ0:Hid (∀ W,Below r w W->W.cell? ⟨Q,0,none⟩=some (.slice qa M qc)/\Px qX 22 dR W qa qc rs):=fun W hW=>by
  have hb:Below w.heap.size w W:=by rw[HR.out];exact hW
  exact⟨by rw[<-HN.out];exact(hb.cell (p:=⟨Q,0,none⟩) (Nm.cell_lt hq0)).trans hq0,hqP.below hb⟩
 rw[HR.out]
 clear h hD hi hm hg hqP hq0 hqv HLS
 go_enter Tryz.func10,Tryz.ntmps10
 go_wp2_with (first
  | (go_at_call 29;refine HL1.out.mono ?_;rintro e w1 ⟨va,rfl,c30⟩;have C30:=hid c30;clear c30 HL1)
  | (go_at_call 30;refine C30.out.mono ?_;rintro e w2 ⟨vb,rfl,c28⟩;have C28:=hid c28;clear c28 C30)
  | (go_at_call 28;refine C28.out.mono ?_;rintro e w3 ⟨rfl,b3⟩;have B3:=hid b3;clear b3 C28)
  | (go_at_call 29;refine(HL2.out _ B3.out).mono ?_;rintro e w4 ⟨va4,rfl,c30b⟩;have C30b:=hid c30b;clear c30b HL2)
  | (go_at_call 30;refine C30b.out.mono ?_;rintro e w5 ⟨vb5,rfl,c28b⟩;have C28b:=hid c28b;clear c28b C30b)
  | (go_at_call 28;refine C28b.out.mono ?_;rintro e w6 ⟨rfl,b6⟩;have B6:=hid b6;clear b6 C28b))
 go_loopg [7] M (fun q iv wr=>∃ i:Nat,iv=.int .i64 i/\q=M-i/\i<=M/\Hid (Below r w wr))
 case atStart=>exact⟨0,rfl,rfl,Nat.zero_le _,B6⟩
 case round =>
  obtain⟨i,rfl,hq,hin,HBR⟩:=hrel
  obtain⟨hc0,hPq⟩:=HQ0.out wr HBR.out
  by_cases hlt:i<M
  ·have hlti:(i:Int)<(M:Int):=by omega
   obtain⟨b,off,hae,_,e3⟩:=hPq.at_ (by rw[HN.out];omega)
   subst hae
   have hc1:=e3 i (by rw[HN.out];exact hlt) 0 _ rfl
   have c11:=HAS.out (rs.getD i dR).1 wr HBR.out
   obtain⟨Y,HY⟩:=nm_ (⟨((rs.getD i dR).1).toArray⟩:ByteArray)
   unfold sV at hc1 c11
   rw[HY.out] at hc1 c11
   rw[Nat.add_zero] at hc1
   clear hPq e3
   go_wp2_with (go_at_call 11;refine c11.mono ?_;rintro e w7 ⟨rfl,b7⟩;have B7:=hid b7;clear b7 c11)
   go_roundg (M-(i+1))
   case measure=>omega
   case rel=>exact⟨i+1,by go_num,rfl,by omega,B7⟩
  ·have hlti:¬ (i:Int)<(M:Int):=by omega
   clear hPq
   go_wp2_with (first
    | (go_at_call 11;refine(HA1.out _ HBR.out).mono ?_;rintro e w7 ⟨rfl,b7⟩;have B7:=hid b7;clear b7 HA1)
    | (go_at_call 11;refine(HA2.out _ B7.out).mono ?_;rintro e w8 ⟨rfl,b8⟩;have B8:=hid b8;clear b8 HA2)
    | (go_at_call 11;refine(HA3.out _ B8.out).mono ?_;rintro e w9 ⟨rfl,b9⟩;have B9:=hid b9;clear b9 HA3))
   exact bodyPost_ret (results_tmp Tryz.results10 _ _ _) rfl ⟨rfl,B9.out⟩
def Post12 (S E:Nat->Prop) (N D:Nat) (f:Option Str) (m:Rk.Tb Str Kp Le) (k:Nat) (w:World) (e:Ending) (w':World):Prop := ∃ R t T,e=.returned (.tuple #[.pointer (some ⟨R,0,none⟩),.nilIface])/\w.heap.size<=R/\Pw S E N D R w' f t k T/\aT T=m/\Al S w w'
set_option maxHeartbeats 1000000 in
theorem open_of (S E:Nat->Prop) (N D:Nat) (f:Option Str) (m:Rk.Tb Str Kp Le) (k:Nat) (w:World) (hN:N<=90000) (hS:∀ i,S i->i<w.heap.size) (hE:∀ i,E i->i<w.heap.size)
  (hf:∀ W R,Below w.heap.size w W->Rp W R D->w.heap.size<=R->Calls Tryz.prog 38 #[.pointer (some ⟨R,0,none⟩)] W fun e w'=>e=.returned .nilIface/\Opn S E N D R f m k W w') :
  Calls Tryz.prog 12 #[.pointer (some ⟨D,0,none⟩)] w (Post12 S E N D f m k w):=by
 obtain⟨r,HR⟩:=nm_ w.heap.size
 obtain⟨W1,HW1⟩:=nm_ (w.alloc (.cells #[.pointer (some ⟨D,0,none⟩),.map none,.bool false,.bool false] 107))
 have hb1:Below w.heap.size w W1:=by rw[<-HW1.out];exact(Below.refl _ w).alloc (Nat.le_refl _) _
 have hs1:W1.heap.size=w.heap.size+1:=by rw[<-HW1.out];simp
 have hp1:Rp W1 w.heap.size D:=⟨by rw[<-HW1.out];exact heap_alloc_new _ _⟩
 have h38:=hf W1 _ hb1 hp1 (Nat.le_refl _)
 have HSE:Hid (∀ W,Opn S E N D r f m k W1 W->Calls Tryz.prog 39 #[.pointer (some ⟨r,0,none⟩)] W fun e w'=>e=.returned .nilIface/\Post12 S E N D f m k w (.returned (.tuple #[.pointer (some ⟨r,0,none⟩),.nilIface])) w'):=fun W hO=>by
  obtain⟨h1,t,T,h2,h3,h4,h5⟩:=hO
  have hnS:¬ S r:=fun hs=>by have:=hS _ hs;have:=HR.out;omega
  refine(settle_any S N r D t _ false _ W h1 h2 hN hnS).mono ?_
  rintro e w' ⟨rfl,k1,k2,k3⟩
  have hsz5:=h5.size
  have hsz3:=k3.size
  refine⟨rfl,r,t,T,rfl,by rw[HR.out];exact Nat.le_refl _,⟨k1,k2,hnS,?_,h3.al (k3.mono fun i hi=>.inl hi)⟩,h4,?_⟩
  ·rintro i ((hi | hi) | hi)
   ·have:=hS i hi;omega
   ·have:=HR.out;omega
   ·have:=hE i hi;omega
  ·refine(Al.below (S:=S) hb1).trans (h5.trans k3 (fun i hi=>.inl hi)) ?_
   rintro i (hi | hi)
   ·exact .inl hi
   ·exact .inr (by have:=HR.out;omega)
 rw[HR.out] at h38
 clear hf hb1 hp1 hs1
 go_enter Tryz.func12,Tryz.ntmps12
 go_wp2_with (first
  | (go_at_call 38;rw[HW1.out,HR.out];refine h38.mono ?_;rintro e w2 ⟨rfl,k2⟩;have c39:=HSE.out w2 k2;clear k2 HSE h38)
  | (go_at_call 39;refine c39.mono ?_;rintro e w3 ⟨rfl,k3⟩;have K3:=hid k3;clear k3 c39))
 exact bodyPost_ret (results_tmp2 Tryz.results12 _ _ _) rfl K3.out
theorem Tryz.results6:Tryz.f6.results=#[.tmp 2]:=by kernel_rfl
theorem Pw.set34 {S XE:Nat->Prop} {N D R:Nat} {w:World} {f:Option Str} {t n:Nat} {T:Ts} (h:Pw S XE N D R w f t n T) {X:Nat} {c:Array Value} (hX:w.heap[X]? = some (.cells c 34 (0,0))) (hXE:XE X) (hXR:R ≠ X) (j:Nat) (v:Value):Pw S XE N D R (w.setCell ⟨X,j,none⟩ v) f t n T:=by
 have t2:=(h.tt.to (S':=fun i=>i=X) (fun i hi=>.inl (.inr (hi ▸ hXE)))).al (Al.of_set (S:=fun i=>i=X) (p:=⟨X,j,none⟩) rfl v)
 refine⟨h.fd.tf (Tf.set (p:=⟨X,j,none⟩) hX v) (by simp[World.setCell]) (by decide),⟨by rw[Below.heap_setCell _ _ _ R hXR];exact h.rf.box⟩,h.nS,fun i hi=>by have:=h.lim i hi;simp[World.setCell];exact this,t2.tm,fun x r hr=>?_,h.tt.out⟩
 have a:=t2.at_ x r hr
 have b:=h.tt.at_ x r hr
 exact⟨a.nm,a.id,a.tg,a.px,a.few,a.ok,fun p hp=>⟨(b.out p hp).1,(a.out p hp).2⟩⟩
def Wx (w:World) (X D R Q:Nat):Prop:=w.heap[X]? = some (.cells #[.pointer (some ⟨D,0,none⟩),.pointer (some ⟨R,0,none⟩),.pointer (some ⟨Q,0,none⟩)] 34 (0,0))
def Post6 (S XE:Nat->Prop) (N D X:Nat) (f:Option Str) (m:Rk.Tb Str Kp Le) (k:Nat) (v2:Value) (w:World) (e:Ending) (w':World):Prop:=e=.returned (.bool true)/\∃ R t T,w.heap.size<=R/\Pw S XE N D R w' f t k T/\aT T=m/\w'.heap[X]? = some (.cells #[.pointer (some ⟨D,0,none⟩),.pointer (some ⟨R,0,none⟩),v2] 34 (0,0))/\Al (fun i=>S i ∨ i=X) w w'
set_option maxHeartbeats 1000000 in
theorem open6_of (S XE:Nat->Prop) (N D X:Nat) (f:Option Str) (m:Rk.Tb Str Kp Le) (k:Nat) (v1 v2:Value) (w:World) (h:Calls Tryz.prog 12 #[.pointer (some ⟨D,0,none⟩)] w (Post12 S XE N D f m k w)) (hX:w.heap[X]? = some (.cells #[.pointer (some ⟨D,0,none⟩),v1,v2] 34 (0,0))) (hXS:¬ S X) (hXE:XE X) :
  Calls Tryz.prog 6 #[.pointer (some ⟨X,0,none⟩)] w (Post6 S XE N D X f m k v2 w):=by
 have hc0:w.cell? ⟨X,0,none⟩=some (.pointer (some ⟨D,0,none⟩)):=by simp[World.cell?,hX]
 have H12:Hid (Calls Tryz.prog 12 #[.pointer (some ⟨D,0,none⟩)] w fun e w1=>∃ R,e=.returned (.tuple #[.pointer (some ⟨R,0,none⟩),.nilIface])/\w1.cell? ⟨X,1,none⟩=some v1/\w1.frozen? ⟨X,1,none⟩=false/\∀ w3,Below (w1.setCell ⟨X,1,none⟩ (.pointer (some ⟨R,0,none⟩))).heap.size (w1.setCell ⟨X,1,none⟩ (.pointer (some ⟨R,0,none⟩))) w3->Post6 S XE N D X f m k v2 w (.returned (.bool true)) w3):=hid (h.mono (by
  rintro e w1 ⟨R,t,T,rfl,hR,hp,hA,hal⟩
  have hx1:w1.heap[X]? = some (.cells #[.pointer (some ⟨D,0,none⟩),v1,v2] 34 (0,0)):=(hal.blk X (z7 hX) hXS).trans hX
  have hRX:R ≠ X:=by have:=z7 hX;omega
  refine⟨R,rfl,by simp[World.cell?,hx1],by simp[World.frozen?,hx1],fun w3 hb=>⟨rfl,R,t,T,hR,(hp.set34 hx1 hXE hRX 1 _).below hb,hA,?_,?_⟩⟩
  ·have h2:(w1.setCell ⟨X,1,none⟩ (.pointer (some ⟨R,0,none⟩))).heap[X]? = some (.cells #[.pointer (some ⟨D,0,none⟩),.pointer (some ⟨R,0,none⟩),v2] 34 (0,0)):=by rw[qy hx1];rfl
   exact(hb.block X (z7 h2)).trans h2
  ·exact((hal.mono (S':=fun i=>S i ∨ i=X) (fun i hi=>.inl hi)).trans (Al.of_set (S:=fun i=>S i ∨ i=X) (p:=⟨X,1,none⟩) (.inr rfl) _) (fun i hi=>.inl hi)).trans (Al.below (S:=fun i=>S i ∨ i=X) hb) (fun i hi=>.inl hi)))
 have htn:=fun W=>YY W
 clear h hX
 go_enter Tryz.func6,Tryz.ntmps6
 go_wp2_with (first
  | (go_at_call 12;refine H12.out.mono ?_;rintro e w1 ⟨R,rfl,z1,z2,z3⟩;have Z3:=hid z3;clear z3 H12)
  | (go_at_call 13;refine(htn _).mono ?_;rintro e w3 ⟨rfl,hb⟩;have P3:=hid (Z3.out w3 hb);clear hb htn))
 exact bodyPost_ret (results_tmp Tryz.results6 _ _ _) rfl P3.out
end Go.Proofs.YtgliaiemkfopeaaGreatDoor.K
