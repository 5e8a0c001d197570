import Derived.Test.YtdnphaganajejaaGreatDoorMz36
import Derived.Test.YtdnphaganajejaaGreatDoorMz34
set_option linter.unusedSimpArgs false
set_option linter.unusedVariables false
set_option maxRecDepth 20000
set_option maxHeartbeats 4000000
open Int renaming sub_zero->Wv9
open List renaming append_assoc->Wy8,append_nil->Wxw,dropLast_subset->Wvz,drop_eq_getElem_cons->WqJ,drop_of_length_le->Wxx,drop_zero->Wvq,flatMap_cons->Wzk,flatten_cons->Wvx,length_append->Wzy,length_cons->Wzu,length_filter_le->Wvj,length_map->Wx7,map_append->Wxu,map_cons->WzK,mem_append->Wqx,mem_cons->Wqj,mem_cons_of_mem->Wy0,mem_cons_self->Wv6,mem_flatMap->Wvk,mem_map->Wz6,mem_singleton->Wqk,nil_append->WyX,sum_cons->Wvv,take_of_length_le->Wq0
open Nat renaming le_refl->Wz8,le_trans->Wz9,zero_le->Wqw
open Option renaming isSome_iff_exists->Wvw,map_some->Wq7,some->Wq8
namespace Go.Proofs.YtdnphaganajejaaGreatDoor.K
open Go.Proofs.Tryz
open Go.RowKit
def exP (rs:List Rx) (ls:List Ex) (x:Str) (k:Int):List Ex:=match lgD rs ls x with
 | .ok l=>Rk.exL x (l.length-k.toNat) ls
 | .error _=>ls
theorem L8 (x:Str) (n:Nat) (e:Ex) (l:List Ex) (h:e.1=x):Rk.exL x (n+1) (e :: l)=Rk.exL x n l:=by simp[Rk.exL,h]
theorem Hz (x:Str) (e:Ex) (l:List Ex) (h:e.1=x):Rk.exL x 0 (e :: l)=e :: Rk.exL x 0 l:=by simp[Rk.exL,h]
theorem U7 (x:Str) (n:Nat) (e:Ex) (l:List Ex) (h:e.1 ≠ x):Rk.exL x n (e :: l)=e :: Rk.exL x n l:=by cases n <;> simp[Rk.exL,h]
theorem L9 (x:Str):∀ (l:List Ex) (n:Nat) (e:Ex),e ∈ Rk.exL x n l->e ∈ l:=fun l n e h=>Rk.mem_exL x l n e h
theorem J5 (x:Str):∀ (l:List Ex) (n:Nat),(Rk.exL x n l).length<=l.length
 | [],n=>by cases n <;> simp[Rk.exL]
 | e :: l,n=>by
  by_cases h:e.1=x
  ·cases n with
   | zero=>rw[Hz x e l h];have:=J5 x l 0;simp;omega
   | succ n=>rw[L8 x n e l h];have:=J5 x l n;simp;omega
  rw[U7 x n e l h];have:=J5 x l n;simp;omega
theorem MQ {G Q:Nat} {v1 v2:Value} {rs:List Rx} {ls:List Ex} (x:Str) (k:Int) (aX : -9223372036854775808<=k) (aM:k<=9223372036854775807) (w:World) (h:Dq G w Q v1 v2 rs ls) (hG:G<=w.heap.size) :
  Calls prog 26 #[.pointer (some ⟨Q,0,none⟩),sV x,.int .i64 k] w fun e w'=>e=.returned (.int .i64 (oN (lgD rs ls x)))/\WK G Q v1 rs (exP rs ls x k) w e w':=by
 have az:=Mz x w h;obtain⟨r,HR⟩:=nm_ w.heap.size;have aJ:Q<r:=by rw[<-HR.out];exact z7 h.box
 obtain⟨a,c,e2,hP,aS,aF⟩:=h.px2;subst e2;obtain⟨N,V⟩:=nm_ ls.length;have aW:N<=1000000:=by rw[<-V.out];exact h.few.2
 have ax:Hid (∀ W,Below r w W->Dq G W Q v1 (.slice a ls.length c) rs ls/\Px yj 46 dE W a c ls/\W.cell? ⟨Q,1,none⟩=some (.slice a N c)):=fun W hW=>⟨h.below (by rw[HR.out];exact hW),hP.below (by rw[HR.out];exact hW),by rw[<-V.out];exact(hW.cell (p:=⟨Q,1,none⟩) aJ).trans aF⟩
 have aD:Hid (∀ W,Below r w W->Bx yj 46 144 w W r (.slice none 0 0) []):=fun W hW=>(uk 144 w r (by rw[HR.out];exact Wz8 _)).carry (by rw[HR.out];exact hW);have aw:=hid h.ok2;have HH:=hid h;have aH:Hid (G<=r):=hid (by rw[<-HR.out];exact hG)
 have M:Hid (∀ (W:World) (v:Value) (l:List Ex),Bx yj 46 144 w W r v l->l=(exP rs ls x k)->(∀ x ∈ l,X7 x)->l.length<=1000000->W.frozen? ⟨Q,1,none⟩=false/\WK G Q v1 rs (exP rs ls x k) w (.returned (.int .i64 (oN (lgD rs ls x)))) (W.setCell ⟨Q,1,none⟩ v)):=fun W v l hB hl aO hlen=>by
  obtain⟨q1,q2,q3⟩:=ax.out W hB.below;have ht:Tf 39 W (W.setCell ⟨Q,1,none⟩ v):=Tf.set (p:=⟨Q,1,none⟩) q1.box v;have hr:=aH.out;have:=qv (zK hB.own ht (by decide)) (B':=G) hr;subst hl
  exact⟨by simp[World.frozen?,q1.box],⟨v,by rw[zV q1.box];rfl,zK q1.r1 ht (by decide),this,q1.ok1,aO,q1.few.1,hlen⟩,(Al.below (by rw[HR.out];exact hB.below)).trans (Al.of_set (S:=fun i=>i=Q) (p:=⟨Q,1,none⟩) rfl _) (fun i h=>.inl h)⟩
 clear h hP aS aF hG;have aE:Hid (∀ kk W,lgD rs ls x=.error kk->Below r w W->WK G Q v1 rs (exP rs ls x k) w (.returned (.int .i64 kk)) W):=fun kk W he hW=>by
  have:exP rs ls x k=ls:=by unfold exP;rw[he]
  rw[this];exact⟨⟨_,(ax.out W hW).1⟩,Al.below (by rw[HR.out];exact hW)⟩
 cases Y:lgD rs ls x with
 | error kk =>
  have O:Calls prog 64 #[.pointer (some ⟨Q,0,none⟩),sV x] w fun e w'=>(∃ v,e=.returned (.tuple #[v,.int .i64 kk]))/\Below r w w':=az.mono fun e w' ⟨v,h1,h2,h3⟩=>⟨⟨v,by rw[h1,Y];rfl⟩,by rw[<-HR.out];exact h3⟩;have aY:kk ≠ 0:=by
   unfold lgD at Y;split at Y
   ·split at Y
    ·cases Y
    cases Y;decide
   cases Y;decide
  have HL:=hid Y;simp only[oN];unfold sV at O ⊢;clear az M Y;go_enter func26,ntmps26;go_wp2_with (go_at_call 64;refine O.mono ?_;rintro e w1 ⟨⟨v,rfl⟩,hb⟩;have B1:=hid hb;clear hb)
  exact bodyPost_ret (results_tmp results26 _ _ _) rfl ⟨rfl,aE.out _ _ HL.out B1.out⟩
 | ok l =>
  have aN:l.length<=N:=by
   unfold lgD at Y;split at Y
   ·split at Y
    ·cases Y;rw[<-V.out];exact Wvj _ _
    cases Y
   cases Y
  obtain⟨L,ay⟩:∃ L,l.length=L:=⟨_,rfl⟩;have O:Calls prog 64 #[.pointer (some ⟨Q,0,none⟩),sV x] w fun e w'=>(∃ va vc,e=.returned (.tuple #[.slice va L vc,.int .i64 0]))/\Below r w w':=az.mono fun e w' ⟨v,h1,h2,h3⟩=>⟨by
   rw[Y] at h1 h2;obtain⟨va,vc,rfl⟩:=zu h2;exact⟨va,vc,by rw[h1,<-ay];rfl⟩,by rw[<-HR.out];exact h3⟩
  have aG:Hid (exP rs ls x k=Rk.exL x (L-k.toNat) ls):=hid (by unfold exP;rw[Y];show Rk.exL x (l.length-k.toNat) ls=_;rw[ay]);rw[Y] at M;simp only[oN] at M ⊢;rw[aG.out] at M ⊢;rw[ay] at aN;have aV:L<=1000000:=by omega
  unfold sV at O ⊢;clear az Y ay aE;have key:∀ (K:Int),0<=K->K<=9223372036854775807->K.toNat=k.toNat->Hid (((L:Int)-K).toNat=L-k.toNat):=fun K h1 h2 h3=>hid (by omega);by_cases aU:k<0
  ·have aB:=key 0 (by omega) (by omega) (by omega);go_enter func26,ntmps26;go_wp2_with (go_at_call 64;refine O.mono ?_;rintro e w1 ⟨⟨va,vc,rfl⟩,hb⟩;have B1:=hid hb;clear hb)
   go_loopg [9,10,11] N (fun q dv ov iv wr=>∃ (i:Nat) (u:Value) (out:List Ex) (d:Int),iv=.int .i64 i/\u=ov/\dv=.int .i64 d/\q=N-i/\i<=N/\out.length<=i/\d<=1000000/\-9223372036854775807<=d/\Hid (Bx yj 46 144 w wr r u out)/\Hid (out++Rk.exL x d.toNat (ls.drop i)=Rk.exL x (L-k.toNat) ls))
   case atStart=>exact⟨0,_,[],(L:Int),rfl,rfl,by first | rfl | simp,rfl,Wqw _,by simp,by omega,by omega,hid (aD.out _ B1.out),hid (by
    have hh:=aB.out;simp only[WyX,Wvq];first
     | exact congrArg (fun n=>Rk.exL x n ls) hh
     | (simp only[Wv9] at hh;exact congrArg (fun n=>Rk.exL x n ls) hh))⟩
   obtain⟨i,u,out,d,rfl,hu,rfl,hq,aL,aR,ap,ar,HB,HO⟩:=hrel;subst hu;obtain⟨k1,k2,k3⟩:=ax.out wr HB.out.below;obtain⟨ua,uc,av⟩:=zu HB.out.own;obtain⟨un,aj⟩:∃ n,out.length=n:=⟨_,rfl⟩;rw[aj] at av;subst av;by_cases J:i<N;rotate_left
   ·have au:¬ (i:Int)<(N:Int):=(by omega);obtain rfl:i=N:=(by omega);have ah:out=Rk.exL x (L-k.toNat) ls:=by
     have:=HO.out;rw[Wxx (by rw[V.out];exact Wz8 _)] at this;rw[<-this];cases d.toNat <;> simp[Rk.exL]
    obtain⟨f1,f3⟩:=M.out wr _ out HB.out ah (fun z hz=>aw.out z (by rw[ah] at hz;exact L9 x ls _ z hz)) (by omega);have F3:=hid f3;clear f3 ah k1 k2 aj;go_wp2;exact bodyPost_ret (results_tmp results26 _ _ _) rfl ⟨rfl,F3.out⟩
   have au:(i:Int)<(N:Int):=(by omega);obtain⟨b,off,aC,_,_⟩:=k2.at_ (by rw[V.out];omega);subst aC;obtain⟨y,hy⟩:∃ y,(ls.getD i dE).1=y:=⟨_,rfl⟩;obtain⟨A,j⟩:∃ A,yj (ls.getD i dE)=A:=⟨_,rfl⟩;have D:Hid (X7 (ls.getD i dE)):=hid (aw.out _ (zQ ls i dE (by rw[V.out];exact J)))
   have am:Hid ((prog.info? 144).map (·.size)=some A.length):=hid (by rw[<-j,yX D.out];kernel_rfl);have a6:Hid (∀ W:World,(Instr.buildSlice 37 1 #[(0,.agg A.toArray)]).run prog W=.ok (.slice (some ⟨W.heap.size,0,none⟩) 1 1) (W.alloc (.cells A.toArray 144))):=fun W=>by rw[<-j];exact Yj _ D.out W
   have a7:Hid (∀ W:World,Px yj 46 dE (W.alloc (.cells A.toArray 144)) (some ⟨W.heap.size,0,none⟩) 1 [ls.getD i dE]):=fun W=>by
    have:=x5 (enc:=yj) (d:=dE) W (ls.getD i dE) 144;rw[yX D.out,j] at this;exact this
   have ad:Hid (wr.rangeAt b (off+i*46) A):=hid (by
    obtain⟨_,_,e1,_,e3⟩:=k2.at_ (by rw[V.out];omega);cases e1
    rw[<-j];exact e3 i (by rw[V.out];exact J))
   have k7:wr.cell? ⟨b,off+i*46,none⟩=some (sV y):=ad.out 0 (sV y) (by rw[<-j,<-hy];rfl);have ac:Hid (ls.drop i=ls.getD i dE :: ls.drop (i+1)):=hid (by
    rw[WqJ (by rw[V.out];exact J),List.getD_eq_getElem?_getD,List.getElem?_eq_getElem (by rw[V.out];exact J)];rfl)
   have aI:Hid (ls.take (i+1)=ls.take i++[ls.getD i dE]):=hid (qk dE ls i (by rw[V.out];exact J));have ae:Hid ((ls.getD i dE).1=y):=hid hy;have ao:Hid (out.length + [ls.getD i dE].length<=1000000000):=hid (by simp;omega);have Z:Hid (Bx yj 46 144 w (wr.alloc (.cells A.toArray 144)) r (.slice ua un uc) out):=hid (HB.out.alloc _);unfold sV at k7
   clear hy j k2 aj;by_cases ak:y=x
   ·subst ak;by_cases hd:0<d
    ·go_wp2;go_roundg (N-(i+1));case measure=>omega
     case rel=>exact⟨i+1,_,out,d-1,by go_num,rfl,by first | rfl | go_num,rfl,by omega,by omega,by omega,by omega,HB,hid (by
      rw[<-HO.out,ac.out,show d.toNat=(d-1).toNat+1 by omega,L8 _ _ _ _ ae.out])⟩
    have aK:¬ d > 0:=hd;have aA:Hid (d.toNat=0):=hid (by omega);go_wp2_with (first
     | (refine wpList_load_mid rfl 144 (.tmp 58) rfl _ _ rfl A _ ad.out underlying144 rfl am.out ?_;go_frame)
     | (refine z8 rfl _ (qJ 37 (.tmp 59) rfl (.agg A.toArray) _ rfl (a6.out _)) ?_;go_frame)
     | (at_builtin;refine zy (enc:=yj) (k:=46) (d:=dE) rfl _ _ 37 144 Vj jQ SY (by decide) (by decide) jz rfl r (.slice ua un uc) out rfl Z.out (some ⟨wr.heap.size,0,none⟩) 1 [ls.getD i dE] rfl (a7.out wr) (fun z hz=>by rw[Wqk.1 hz];exact yX D.out) ao.out ?_;intro v3 w3 I ag ai;have a8:=hid I;clear I ag ai))
    go_roundg (N-(i+1));case measure=>omega
    case rel=>exact⟨i+1,_,out++[ls.getD i dE],d,by go_num,rfl,rfl,rfl,by omega,by simp;omega,ap,ar,a8,hid (by
     rw[<-HO.out,ac.out,aA.out,Hz _ _ _ ae.out];simp)⟩
   have aP:(y == x)=false:=(by simpa using ak);go_wp2_with (first
    | (refine wpList_load_mid rfl 144 (.tmp 58) rfl _ _ rfl A _ ad.out underlying144 rfl am.out ?_;go_frame)
    | (refine z8 rfl _ (qJ 37 (.tmp 59) rfl (.agg A.toArray) _ rfl (a6.out _)) ?_;go_frame)
    | (at_builtin;refine zy (enc:=yj) (k:=46) (d:=dE) rfl _ _ 37 144 Vj jQ SY (by decide) (by decide) jz rfl r (.slice ua un uc) out rfl Z.out (some ⟨wr.heap.size,0,none⟩) 1 [ls.getD i dE] rfl (a7.out wr) (fun z hz=>by rw[Wqk.1 hz];exact yX D.out) ao.out ?_;intro v3 w3 I ag ai;have a8:=hid I;clear I ag ai))
   go_roundg (N-(i+1));case measure=>omega
   case rel=>exact⟨i+1,_,out++[ls.getD i dE],d,by go_num,rfl,rfl,rfl,by omega,by simp;omega,ap,ar,a8,hid (by
    rw[<-HO.out,ac.out,U7 _ _ _ _ (by rw[ae.out];exact ak)];simp)⟩
  have aQ:0<=k:=by omega
  have aZ:IntKind.i64.wrap ((L:Int)-k)=(L:Int)-k:=by rw[IntKind.wrap_i64];omega
  have aB:=key k aQ aM rfl;go_enter func26,ntmps26;go_wp2_with (go_at_call 64;refine O.mono ?_;rintro e w1 ⟨⟨va,vc,rfl⟩,hb⟩;have B1:=hid hb;clear hb)
  go_loopg [9,10,11] N (fun q dv ov iv wr=>∃ (i:Nat) (u:Value) (out:List Ex) (d:Int),iv=.int .i64 i/\u=ov/\dv=.int .i64 d/\q=N-i/\i<=N/\out.length<=i/\d<=1000000/\-9223372036854775807<=d/\Hid (Bx yj 46 144 w wr r u out)/\Hid (out++Rk.exL x d.toNat (ls.drop i)=Rk.exL x (L-k.toNat) ls))
  case atStart=>exact⟨0,_,[],((L:Int)-k),rfl,rfl,by first | rfl | simp,rfl,Wqw _,by simp,by omega,by omega,hid (aD.out _ B1.out),hid (by
   have hh:=aB.out;simp only[WyX,Wvq];first
    | exact congrArg (fun n=>Rk.exL x n ls) hh
    | (simp only[Wv9] at hh;exact congrArg (fun n=>Rk.exL x n ls) hh))⟩
  case round =>
  obtain⟨i,u,out,d,rfl,hu,rfl,hq,aL,aR,ap,ar,HB,HO⟩:=hrel;subst hu;obtain⟨k1,k2,k3⟩:=ax.out wr HB.out.below;obtain⟨ua,uc,av⟩:=zu HB.out.own;obtain⟨un,aj⟩:∃ n,out.length=n:=⟨_,rfl⟩;rw[aj] at av;subst av;by_cases J:i<N;rotate_left
  ·have au:¬ (i:Int)<(N:Int):=(by omega);obtain rfl:i=N:=(by omega);have ah:out=Rk.exL x (L-k.toNat) ls:=by
    have:=HO.out;rw[Wxx (by rw[V.out];exact Wz8 _)] at this;rw[<-this];cases d.toNat <;> simp[Rk.exL]
   obtain⟨f1,f3⟩:=M.out wr _ out HB.out ah (fun z hz=>aw.out z (by rw[ah] at hz;exact L9 x ls _ z hz)) (by omega);have F3:=hid f3;clear f3 ah k1 k2 aj;go_wp2;exact bodyPost_ret (results_tmp results26 _ _ _) rfl ⟨rfl,F3.out⟩
  have au:(i:Int)<(N:Int):=by omega
  obtain⟨b,off,aC,_,_⟩:=k2.at_ (by rw[V.out];omega);subst aC;obtain⟨y,hy⟩:∃ y,(ls.getD i dE).1=y:=⟨_,rfl⟩;obtain⟨A,j⟩:∃ A,yj (ls.getD i dE)=A:=⟨_,rfl⟩;have D:Hid (X7 (ls.getD i dE)):=hid (aw.out _ (zQ ls i dE (by rw[V.out];exact J)));have am:Hid ((prog.info? 144).map (·.size)=some A.length):=hid (by rw[<-j,yX D.out];kernel_rfl)
  have a6:Hid (∀ W:World,(Instr.buildSlice 37 1 #[(0,.agg A.toArray)]).run prog W=.ok (.slice (some ⟨W.heap.size,0,none⟩) 1 1) (W.alloc (.cells A.toArray 144))):=fun W=>by rw[<-j];exact Yj _ D.out W
  have a7:Hid (∀ W:World,Px yj 46 dE (W.alloc (.cells A.toArray 144)) (some ⟨W.heap.size,0,none⟩) 1 [ls.getD i dE]):=fun W=>by
   have:=x5 (enc:=yj) (d:=dE) W (ls.getD i dE) 144;rw[yX D.out,j] at this;exact this
  have ad:Hid (wr.rangeAt b (off+i*46) A):=hid (by
   obtain⟨_,_,e1,_,e3⟩:=k2.at_ (by rw[V.out];omega);cases e1
   rw[<-j];exact e3 i (by rw[V.out];exact J))
  have k7:wr.cell? ⟨b,off+i*46,none⟩=some (sV y):=ad.out 0 (sV y) (by rw[<-j,<-hy];rfl);have ac:Hid (ls.drop i=ls.getD i dE :: ls.drop (i+1)):=hid (by
   rw[WqJ (by rw[V.out];exact J),List.getD_eq_getElem?_getD,List.getElem?_eq_getElem (by rw[V.out];exact J)];rfl)
  have aI:Hid (ls.take (i+1)=ls.take i++[ls.getD i dE]):=hid (qk dE ls i (by rw[V.out];exact J));have ae:Hid ((ls.getD i dE).1=y):=hid hy;have ao:Hid (out.length + [ls.getD i dE].length<=1000000000):=hid (by simp;omega);have Z:Hid (Bx yj 46 144 w (wr.alloc (.cells A.toArray 144)) r (.slice ua un uc) out):=hid (HB.out.alloc _);unfold sV at k7
  clear hy j k2 aj;by_cases ak:y=x
  ·subst ak;by_cases hd:0<d
   ·go_wp2;go_roundg (N-(i+1));case measure=>omega
    case rel=>exact⟨i+1,_,out,d-1,by go_num,rfl,by first | rfl | go_num,rfl,by omega,by omega,by omega,by omega,HB,hid (by
     rw[<-HO.out,ac.out,show d.toNat=(d-1).toNat+1 by omega,L8 _ _ _ _ ae.out])⟩
   have aK:¬ d > 0:=hd;have aA:Hid (d.toNat=0):=hid (by omega);go_wp2_with (first
    | (refine wpList_load_mid rfl 144 (.tmp 58) rfl _ _ rfl A _ ad.out underlying144 rfl am.out ?_;go_frame)
    | (refine z8 rfl _ (qJ 37 (.tmp 59) rfl (.agg A.toArray) _ rfl (a6.out _)) ?_;go_frame)
    | (at_builtin;refine zy (enc:=yj) (k:=46) (d:=dE) rfl _ _ 37 144 Vj jQ SY (by decide) (by decide) jz rfl r (.slice ua un uc) out rfl Z.out (some ⟨wr.heap.size,0,none⟩) 1 [ls.getD i dE] rfl (a7.out wr) (fun z hz=>by rw[Wqk.1 hz];exact yX D.out) ao.out ?_;intro v3 w3 I ag ai;have a8:=hid I;clear I ag ai))
   go_roundg (N-(i+1));case measure=>omega
   case rel=>exact⟨i+1,_,out++[ls.getD i dE],d,by go_num,rfl,rfl,rfl,by omega,by simp;omega,ap,ar,a8,hid (by
    rw[<-HO.out,ac.out,aA.out,Hz _ _ _ ae.out];simp)⟩
  have aP:(y == x)=false:=by simpa using ak
  go_wp2_with (first
   | (refine wpList_load_mid rfl 144 (.tmp 58) rfl _ _ rfl A _ ad.out underlying144 rfl am.out ?_;go_frame)
   | (refine z8 rfl _ (qJ 37 (.tmp 59) rfl (.agg A.toArray) _ rfl (a6.out _)) ?_;go_frame)
   | (at_builtin;refine zy (enc:=yj) (k:=46) (d:=dE) rfl _ _ 37 144 Vj jQ SY (by decide) (by decide) jz rfl r (.slice ua un uc) out rfl Z.out (some ⟨wr.heap.size,0,none⟩) 1 [ls.getD i dE] rfl (a7.out wr) (fun z hz=>by rw[Wqk.1 hz];exact yX D.out) ao.out ?_;intro v3 w3 I ag ai;have a8:=hid I;clear I ag ai))
  go_roundg (N-(i+1));case measure=>omega
  case rel=>exact⟨i+1,_,out++[ls.getD i dE],d,by go_num,rfl,rfl,rfl,by omega,by simp;omega,ap,ar,a8,hid (by
   rw[<-HO.out,ac.out,U7 _ _ _ _ (by rw[ae.out];exact ak)];simp)⟩
def LB (m:Rk.Tb Str Kp Le) (B:Nat):Prop := ∀ a k l,m a=some (k,l)->l.length<=B
theorem zj2 (x:Str) (e:Le):sP (lg1 x e)=(x,.inr (.inr e)):=by
 have h:¬ wG=wR:=by decide
 have j:¬ wG=wL:=by decide
 have A:¬ wG=wD:=by decide
 simp only[sP,lg1,h,j,A,if_false]
theorem uJ (m:Rk.Tb Str Kp Le) (s:Sp) (ss:List Sp):stF m (s :: ss)=stF (Rk.tk m (sP s)) ss:=rfl
theorem qy6 (m:Rk.Tb Str Kp Le):stF m []=m:=rfl
theorem Lz (m:Rk.Tb Str Kp Le) (x:Str) (e:Le):Rk.tk m (sP (lg1 x e))=Rk.logT m x e:=by rw[zj2];rfl
theorem LB.log {m:Rk.Tb Str Kp Le} {B:Nat} (h:LB m B) (x:Str) (e:Le):LB (Rk.logT m x e) (B+1):=fun a k l j=>by
 unfold Rk.logT at j;split at j
 ·obtain⟨y,hy,A⟩:=Option.map_eq_some_iff.1 j;have:=h x y.1 y.2 hy;injection A with G D;rw[<-D];simp;omega
 have:=h a k l j;omega
theorem LB.put {m:Rk.Tb Str Kp Le} {B:Nat} (h:LB m B) (x:Str) (k:Kp):LB (Rk.putT m x k) B:=fun a D l j=>by
 unfold Rk.putT at j;split at j
 ·injection j with j;injection j with G A;rw[<-A];cases e:m x with
  | none=>simp
  | some y=>exact h x y.1 y.2 e
 exact h a D l j
theorem LB.del {m:Rk.Tb Str Kp Le} {B:Nat} (h:LB m B) (x:Str):LB (Rk.delT m x) B:=fun a A l j=>by
 unfold Rk.delT at j;split at j
 ·cases j
 exact h a A l j
theorem VZ (m:Rk.Tb Str Kp Le) (x a:Str) (e:Le) (h:(m a).isSome=true):(Rk.logT m x e a).isSome=true:=by
 unfold Rk.logT;split
 ·rename_i e1;rw[e1] at h;simpa using h
 exact h
theorem Hj (e:Le) (D:vY e):∀ (ns:List Str) (m:Rk.Tb Str Kp Le) (B:Nat),(∀ a ∈ ns,a.length<=60/\(m a).isSome=true)->LB m B->B+ns.length<=100000 →
  StG m (ns.map (lg1 · e))/\LB (stF m (ns.map (lg1 · e))) (B+ns.length)/\∀ a,(m a).isSome=true->(stF m (ns.map (lg1 · e)) a).isSome=true
 | [],m,B,h,hB,_=>⟨trivial,hB,fun a j=>j⟩
 | x :: ns,m,B,h,hB,hn=>by
  rw[Wzu] at hn;obtain⟨k1,G,I⟩:=Hj e D ns (Rk.logT m x e) (B+1) (fun a j=>⟨(h a (Wy0 _ j)).1,VZ m x a e (h a (Wy0 _ j)).2⟩) (hB.log x e) (by omega);obtain⟨A,hs⟩:=h x (Wv6 ..);obtain⟨y,hy⟩:=Wvw.1 hs;rw[WzK,uJ,Lz,Wzu]
  refine⟨⟨Xu A D,.inr ⟨rfl,y.1,y.2,hy,by have:=hB x y.1 y.2 hy;omega⟩,by rw[Lz];exact k1⟩,?_,fun a j=>I a (VZ m x a e j)⟩;rw[show B+(ns.length+1)=B+1+ns.length by omega];exact G
theorem qy7 (m:Rk.Tb Str Kp Le) (x:Str):Rk.tk m (sP ⟨wD,x,zZ,[],zL⟩)=Rk.delT m x:=by
 have h:¬ wD=wR:=by decide
 have j:¬ wD=wL:=by decide
 simp only[sP,h,j,if_false,if_true];rfl
theorem zj3 (m:Rk.Tb Str Kp Le) (x:Str) (i:List Int):Rk.tk m (sP ⟨wR,x,i,[],zL⟩)=Rk.putT m x (i,[]):=by
 simp only[sP,if_true];rfl
theorem zj4 (m:Rk.Tb Str Kp Le) (x:Str) (i:List Int) (t:Str):Rk.tk m (sP ⟨wL,x,i,t,zL⟩)=Rk.putT m x (zZ,t):=by
 have h:¬ wL=wR:=by decide
 simp only[sP,h,if_false,if_true];rfl
theorem qy8 (l:List Str) (e:Le) (K:vY e) (h0:0<l.length) (Y:l.length<=9) (G:∀ a ∈ l,a.length<=60) (m:Rk.Tb Str Kp Le) (B:Nat) (hB:LB m B) (Z:B+10<=100000) (M:∀ a ∈ l.dropLast,(m a).isSome=true/\a ≠ enW l) :
  StG m (chg l e)/\LB (stF m (chg l e)) (B+10)/\∀ a,a ≠ enW l->(m a).isSome=true->(stF m (chg l e) a).isSome=true:=by
 have D:(enW l).length<=60:=G _ (uQ l h0);have V:l.dropLast.length<=9:=by rw[List.length_dropLast];omega
 have I:∀ {m:Rk.Tb Str Kp Le} {A:Nat},LB m A->A<=B+10->LB m (B+10):=fun h hA a k l j=>Wz9 (h a k l j) hA;unfold chg;split
 ·obtain⟨k1,O,Q⟩:=Hj e K l.dropLast (Rk.delT m (enW l)) B (fun a j=>⟨G a (Wvz _ j),by unfold Rk.delT;rw[if_neg (M a j).2];exact(M a j).1⟩) (hB.del _) (by omega);rw[uJ];have J:Rk.tk m (sP ⟨wD,l.getD (l.length-1) [],zZ,[],zL⟩)=Rk.delT m (enW l):=qy7 m _;rw[J]
  refine⟨⟨⟨yz.1,yz,D,by simp⟩,.inl (.inr (.inr rfl)),by rw[J];exact k1⟩,I O (by omega),fun a j hs=>Q a ?_⟩;unfold Rk.delT;rw[if_neg j];exact hs
 obtain⟨k1,O,Q⟩:=Hj e K l (Rk.putT m (enW l) (e.new,[])) B (fun a j=>⟨G a j,by
  unfold Rk.putT;split
  ·rfl
  rename_i L;rw[<-WY h0] at j;rcases Wqx.1 j with j | j
  ·exact(M a j).1
  exact absurd (Wqk.1 j) L⟩) (hB.put _ _) (by omega)
 rw[uJ];have J:Rk.tk m (sP ⟨wR,l.getD (l.length-1) [],e.new,[],zL⟩)=Rk.putT m (enW l) (e.new,[]):=zj3 m _ _;rw[J];refine⟨⟨⟨K.2,yz,D,by simp⟩,.inl (.inl rfl),by rw[J];exact k1⟩,I O (by omega),fun a j hs=>Q a ?_⟩;unfold Rk.putT;rw[if_neg j];exact hs
theorem IZ (p:Per) (tx:Str):∀ (A:List (List Str × Mv1)) (m:Rk.Tb Str Kp Le) (B:Nat),(∀ y ∈ A,0<y.1.length/\y.1.length<=9/\(∀ a ∈ y.1,a.length<=60)/\xu y.2/\∀ a ∈ y.1.dropLast,(m a).isSome=true/\∀ M ∈ A,a ≠ enW M.1)->LB m B->B+10*A.length<=100000->StG m (stU p tx A)
 | [],m,B,h,hB,_=>trivial
 | y :: A,m,B,h,hB,hn=>by
  rw[Wzu] at hn;obtain⟨V,Y,G,D,O⟩:=h y (Wv6 ..);obtain⟨k1,k2,k3⟩:=qy8 y.1 (j6 p tx y.2) ⟨D.2.1,D.2.2⟩ V Y G m B hB (by omega) (fun a j=>⟨(O a j).1,(O a j).2 y (Wv6 ..)⟩);have Q:=IZ p tx A (stF m (chg y.1 (j6 p tx y.2))) (B+10) (fun z Z=>by
   obtain⟨q0,q9,J,K,L⟩:=h z (Wy0 _ Z);exact⟨q0,q9,J,K,fun a j=>⟨k3 a ((L a j).2 y (Wv6 ..)) (L a j).1,fun M I=>(L a j).2 M (Wy0 _ I)⟩⟩) k2 (by omega)
  unfold stU at Q ⊢;rw[Wzk];exact(YW _ _ _).2 ⟨k1,Q⟩
theorem qj7 (ls:List Ex) (a:Str):(Rk.lg ls a).length<=ls.length:=by
 unfold Rk.lg;rw[Wx7];exact Wvj _ _
theorem Ib.lb {k:Nat} {m:Rk.Tb Str Kp Le} {rs:List Rx} {ls:List Ex} (h:Ib k m rs ls):LB m (180*k):=fun a q l D=>by
 have j:=h.r.at a;rw[D] at j;cases A:Rk.fd rs a with
 | none=>rw[A] at j;cases j
 | some G =>
  rw[A] at j;simp only[Wq7,Wq8.injEq,Prod.mk.injEq] at j;rw[j.2];exact Wz9 (qj7 ls a) h.n2
theorem zj5 {k:Nat} {m:Rk.Tb Str Kp Le} {rs:List Rx} {ls:List Ex} (h:Ib k m rs ls) (L:k<=100) {I:List (List Str × Mv1)} (j:Wk rs I) (p:Per) (tx:Str):StG m (stU p tx I):=by
 refine IZ p tx I m (180*k) (fun y hy=>⟨j.pos y hy,j.nine y hy,fun a D=>qX (j.nam y hy a D),j.ok y hy,fun a D=>?_⟩) h.lb (by have:=j.few;omega);have A:=j.pre y hy a D;refine⟨?_,fun K G e=>A (by rw[e];exact j.last K G)⟩;rw[h.r.at a];cases J:Rk.fd rs a with
 | none=>rw[J] at A;exact absurd rfl A
 | some q=>rfl
theorem zj6 {rs:List Rx} {I:List (List Str × Mv1)} (A:Wk rs I) {p:Per} {tx:Str} (J:okG p tx):∀ s ∈ stU p tx I,StC s:=fun s hs=>by
 unfold stU at hs;obtain⟨y,hy,hs⟩:=Wvk.1 hs;have j:vY (j6 p tx y.2):=⟨(A.ok y hy).2.1,(A.ok y hy).2.2⟩;have G:isN (enW y.1)=true:=A.nam y hy _ (uQ y.1 (A.pos y hy))
 have h:∀ x ∈ y.1,StC (lg1 x (j6 p tx y.2)):=fun x hx=>⟨⟨A.nam y hy x hx,yz.1,j,by simp[lg1],.inr (.inr (.inr ⟨rfl,J⟩))⟩,fun e=>absurd (show wG=wR from e) (by decide),fun e=>absurd (show wG=wL from e) (by decide)⟩;unfold chg at hs;split at hs
 ·rcases Wqj.1 hs with rfl | hs
  ·exact⟨⟨G,yz.1,yz,by simp,.inr (.inr (.inl rfl))⟩,fun e=>absurd (show wD=wR from e) (by decide),fun e=>absurd (show wD=wL from e) (by decide)⟩
  obtain⟨x,hx,rfl⟩:=Wz6.1 hs;exact h x (Wvz _ hx)
 rename_i D;rcases Wqj.1 hs with rfl | hs
 ·exact⟨⟨G,j.2,yz,by simp,.inl rfl⟩,fun _=>D,fun e=>absurd (show wR=wL from e) (by decide)⟩
 obtain⟨x,hx,rfl⟩:=Wz6.1 hs;exact h x hx
theorem Lq {s:Sp} (h:StC s):StL s:=by
 refine⟨⟨h.st.id,h.st.e,qX h.st.nm,h.st.tg⟩,?_⟩;rcases h.st.kind with j | ⟨j,_⟩ | j | ⟨j,A⟩
 ·exact .inl j
 ·exact .inr (.inl j)
 ·exact .inr (.inr (.inl j))
 exact .inr (.inr (.inr ⟨j,A.1⟩))
theorem Lx (p:Per) (tx:Str):∀ j:List (List Str × Mv1),(∀ y ∈ j,y.1.length<=9)->(stU p tx j).length<=10*j.length
 | [],_=>by simp[stU]
 | y :: j,h=>by
  have A:=Lx p tx j (fun z D=>h z (Wy0 _ D));have I:=h y (Wv6 ..);have G:=Ik y.1 (j6 p tx y.2);unfold stU at A ⊢;rw[Wzk,Wzy,Wzu];omega
theorem zj7 (ls:List Ex):∀ (ns:List Str),ns.Nodup->(ns.map fun x=>(Rk.lg ls x).length).sum<=ls.length:=by
 induction ls with
 | nil =>
  intro ns _;have:(ns.map fun x=>(Rk.lg ([] : List Ex) x).length)=ns.map fun _=>0:=rfl;rw[this];have h0:∀ ns:List Str,(ns.map fun _=>(0:Nat)).sum=0:=fun ns=>by
   induction ns with
   | nil=>rfl
   | cons a ns G=>simpa using G
  rw[h0 ns];exact Wqw _
 | cons e ls G =>
  intro ns h;have J:=G ns h;have key:∀ ns:List Str,ns.Nodup->(ns.map fun x=>(Rk.lg (e :: ls) x).length).sum<=(ns.map fun x=>(Rk.lg ls x).length).sum+(if e.1 ∈ ns then 1 else 0):=by
   intro ns;induction ns with
   | nil=>intro _;simp
   | cons a ns I =>
    intro h;rw[List.nodup_cons] at h;have j:=I h.2;simp only[WzK,Wvv];rw[Rk.lg_cons];by_cases A:e.1=a
    ·have D:¬ e.1 ∈ ns:=(by rw[A];exact h.1);simp only[A,if_true,Wqj,true_or];rw[if_neg D] at j;simp;omega
    simp only[A,if_false,Wqj,false_or];omega
  have j:=key ns h;rw[Wzu];split at j <;> omega
theorem IQ (T:Ts) (ls:List Ex):∀ ss:List Str,(∀ x ∈ ss,∃ r,T x=some r/\r.log=Rk.lg ls x)->(stN T ss).length=ss.length+(ss.map fun x=>(Rk.lg ls x).length).sum
 | [],_=>by simp[stN]
 | x :: ss,h=>by
  have j:=IQ T ls ss (fun z G=>h z (Wy0 _ G));obtain⟨r,A,D⟩:=h x (Wv6 ..);unfold stN at j ⊢;rw[Wzk,Wzy,j];unfold st1;rw[A];simp only[Wzu,Wx7,WzK,Wvv,D];omega
structure Wn (k:Nat) (T:Ts) (ss:List Str):Prop where
 ok:∀ s ∈ stN T ss,StC s
 n:(stN T ss).length<=201*k
 g:StG noT (stN T ss)
 m:stF noT (stN T ss)=aT T
theorem zj8 (m:Rk.Tb Str Kp Le) (x:Str) (r:Lr) (h:rOk (x,(r.id,r.tg))):Rk.tk m (sP (fs1 x r))=Rk.putT m x (r.id,r.tg)/\StC (fs1 x r):=by
 rcases h with ⟨G,I,⟨j,A⟩ | ⟨j,A,J⟩⟩
 ·simp only at j A;unfold fs1;rw[j];simp only[if_true];exact⟨zj3 m x r.id,⟨⟨G,I,yz,by simp,.inl rfl⟩,fun _=>A,fun e=>absurd (show wR=wL from e) (by decide)⟩⟩
 simp only at j A J;have D:¬ r.tg=[]:=fun e=>by rw[e] at j;cases j
 unfold fs1;simp only[D,if_false];exact⟨by rw[zj4,J],⟨⟨G,I,yz,qX j,.inr (.inl ⟨rfl,j⟩)⟩,fun e=>absurd (show wL=wR from e) (by decide),fun _=>A⟩⟩
theorem qy9 (T:Ts) (x:Str) (r:Lr) (I:T x=some r) (h:rOk (x,(r.id,r.tg))) (K:∀ e ∈ r.log,vY e) (m:Rk.Tb Str Kp Le) (B:Nat) (hB:LB m B) (A:B+r.log.length<=100000):StG m (st1 T x)/\LB (stF m (st1 T x)) (B+r.log.length):=by
 have key:∀ (es:List Le) (m:Rk.Tb Str Kp Le) (B:Nat),(∀ e ∈ es,vY e)->LB m B->B+es.length<=100000->(m x).isSome=true->StG m (es.map (lg1 x))/\LB (stF m (es.map (lg1 x))) (B+es.length):=by
  intro es;induction es with
  | nil=>intro m B _ hB _ _;exact⟨trivial,hB⟩
  | cons e es L =>
   intro m B G hB A hs;rw[Wzu] at A;obtain⟨k1,D⟩:=L (Rk.logT m x e) (B+1) (fun a J=>G a (Wy0 _ J)) (hB.log x e) (by omega) (VZ m x x e hs);obtain⟨y,hy⟩:=Wvw.1 hs;rw[WzK,uJ,Lz,Wzu,show B+(es.length+1)=B+1+es.length by omega]
   exact⟨⟨Xu (qX h.1) (G e (Wv6 ..)),.inr ⟨rfl,y.1,y.2,hy,by have:=hB x y.1 y.2 hy;omega⟩,by rw[Lz];exact k1⟩,D⟩
 obtain⟨g1,j⟩:=zj8 m x r h;obtain⟨k1,D⟩:=key r.log (Rk.putT m x (r.id,r.tg)) B K (hB.put _ _) A (by unfold Rk.putT;simp);unfold st1;rw[I];simp only;rw[uJ,g1];refine⟨⟨⟨j.st.id,j.st.e,qX j.st.nm,j.st.tg⟩,?_,by rw[g1];exact k1⟩,D⟩;unfold fs1;by_cases e:r.tg=[]
 ·exact .inl (.inl (by simp[e]))
 exact .inl (.inr (.inl (by simp[e])))
theorem IX (T:Ts):∀ (ss:List Str) (m:Rk.Tb Str Kp Le) (B:Nat),(∀ x ∈ ss,∃ r,T x=some r/\rOk (x,(r.id,r.tg))/\∀ e ∈ r.log,vY e)->LB m B->B+(stN T ss).length<=100000->StG m (stN T ss)
 | [],m,B,_,_,_=>trivial
 | x :: ss,m,B,h,hB,hn=>by
  obtain⟨r,j,A,D⟩:=h x (Wv6 ..);have G:(st1 T x).length=r.log.length+1:=by unfold st1;rw[j];simp
  unfold stN at hn ⊢;rw[Wzk,Wzy,G] at hn;rw[Wzk];obtain⟨k1,J⟩:=qy9 T x r j A D m B hB (by omega);exact(YW _ _ _).2 ⟨k1,IX T ss _ _ (fun z I=>h z (Wy0 _ I)) J (by unfold stN;omega)⟩
theorem zj9 (T:Ts):∀ ss:List Str,(∀ x ∈ ss,∃ r,T x=some r/\rOk (x,(r.id,r.tg)))->(stN T ss).map sP=Rk.tS (ss.map fun x=>(x,(((T x).map fun r=>((r.id,r.tg),r.log)).getD (([],[]),[]):Kp × List Le)))
 | [],_=>rfl
 | x :: ss,h=>by
  obtain⟨r,J,K⟩:=h x (Wv6 ..);have I:=zj9 T ss (fun z M=>h z (Wy0 _ M));unfold stN Rk.tS at I ⊢;rw[Wzk,Wxu,I,WzK,Wzk];congr 1;unfold st1;rw[J];simp only[WzK,Wq7,Option.getD_some,List.map_map];refine List.cons_eq_cons.2 ⟨?_,List.map_congr_left fun e _=>zj2 x e⟩
  rcases K with ⟨_,_,⟨j,L⟩ | ⟨j,L,G⟩⟩
  ·simp only at j;simp only[sP,fs1,j,if_true]
  simp only at j G;have A:¬ r.tg=[]:=fun e=>by rw[e] at j;cases j
  have D:¬ wL=wR:=by decide
  simp only[sP,fs1,A,D,if_false,if_true,G]
theorem zjz (f:Str->Kp × List Le):∀ (ss:List Str) (b:Str),Rk.tab (ss.map fun x=>(x,f x)) b=if b ∈ ss then some (f b) else none
 | [],b=>by simp[Rk.tab]
 | x :: ss,b=>by
  rw[WzK];unfold Rk.tab;rw[zjz f ss b];by_cases e:x=b
  ·simp[e]
  simp only[e,if_false,Wqj];by_cases hb:b ∈ ss
  ·simp[hb]
  have j:¬ b=x:=fun h=>e h.symm;simp[hb,j]
theorem Ib.wn {k:Nat} {m:Rk.Tb Str Kp Le} {rs:List Rx} {ls:List Ex} (h:Ib k m rs ls) (O:k<=100) {T:Ts} (K:aT T=m) {ss:List Str} (J:Nms T ss):Wn k T ss:=by
 have A:∀ x ∈ ss,∃ r,T x=some r/\rOk (x,(r.id,r.tg))/\(∀ e ∈ r.log,vY e/\okG e.who e.text)/\r.log=Rk.lg ls x:=fun x hx=>by
  rcases h.at K x with ⟨j,_⟩ | ⟨r,j,D,G⟩
  ·exact absurd j ((J.mem x).1 hx)
  refine⟨r,j,h.fdok D,fun e I=>?_,G⟩;rw[G] at I;unfold Rk.lg at I;obtain⟨y,hy,rfl⟩:=Wz6.1 I;exact h.lok y (List.mem_filter.1 hy).1
 have hlen:(stN T ss).length<=201*k:=by
  rw[IQ T ls ss (fun x hx=>by obtain⟨r,j,_,_,L⟩:=A x hx;exact⟨r,j,L⟩)];have j:=zj7 ls ss J.nd;have D:=h.few K J;have G:=h.n2;omega
 refine⟨fun s hs=>?_,hlen,IX T ss noT 0 (fun x hx=>by obtain⟨r,j,D,G,_⟩:=A x hx;exact⟨r,j,D,fun e I=>(G e I).1⟩) (fun a q l M=>by cases M) (by omega),?_⟩
 ·unfold stN at hs;obtain⟨x,hx,hs⟩:=Wvk.1 hs;obtain⟨r,j,D,G,_⟩:=A x hx;unfold st1 at hs;rw[j] at hs;rcases Wqj.1 hs with rfl | hs
  ·exact(zj8 noT x r D).2
  obtain⟨e,I,rfl⟩:=Wz6.1 hs;exact⟨⟨D.1,yz.1,(G e I).1,by simp[lg1],.inr (.inr (.inr ⟨rfl,(G e I).2⟩))⟩,fun e=>absurd (show wG=wR from e) (by decide),fun e=>absurd (show wG=wL from e) (by decide)⟩
 unfold stF;rw[zj9 T ss (fun x hx=>by obtain⟨r,j,D,_⟩:=A x hx;exact⟨r,j,D⟩),Rk.tS_back _ noT ?_ (fun x _=>rfl)]
 ·funext b;rw[zjz];unfold noT aT;by_cases hb:b ∈ ss
  ·obtain⟨r,j,_⟩:=A b hb;simp[hb,j]
  have:T b=none:=by
   cases e:T b with
   | none=>rfl
   | some r=>exact absurd ((J.mem b).2 (by rw[e];simp)) hb
  simp[hb,this]
 rw[List.pairwise_map];exact J.nd
theorem Ib.fewT {k:Nat} {m:Rk.Tb Str Kp Le} {rs:List Rx} {ls:List Ex} (h:Ib k m rs ls) (D:k<=100) {T:Ts} (A:aT T=m):Few T:=⟨fun ss G=>by
 have j:=h.wn D A G
 have I:=kW (stN T ss) (fun s hs=>(j.ok s hs).st)
 have J:=j.n
 exact⟨fun s hs=>Lq (j.ok s hs),by omega,by omega⟩⟩
structure Fl (k:Nat) (m:Rk.Tb Str Kp Le) (bs:List (List Sp)):Prop where
 ne:bs ≠ []
 ok:∀ ss ∈ bs,∀ s ∈ ss,StC s
 g:StG noT (bs.flatten.map cnS)
 m:stF noT (bs.flatten.map cnS)=m
 n:bs.length<=k
 few:bs.flatten.length<=201*k
theorem AK:∀ (ss:List Sp) (m:Rk.Tb Str Kp Le),(∀ s ∈ ss,StR s)->StG m ss->StG m (ss.map cnS)/\stF m (ss.map cnS)=stF m ss
 | [],m,_,_=>⟨trivial,rfl⟩
 | s :: ss,m,h,hg=>by
  have hs:=h s (Wv6 ..);obtain⟨k1,D⟩:=AK ss (Rk.tk m (sP s)) (fun z A=>h z (Wy0 _ A)) hg.2.2;rw[WzK,uJ,uJ,qxu hs];refine⟨⟨Vw hs,?_,by rw[qxu hs];exact k1⟩,D⟩;have j:=qqZ hs;have:=hg.2.1;unfold StO at this ⊢;rw[j.1,j.2];exact this
theorem Fl.more {k:Nat} {m:Rk.Tb Str Kp Le} {bs:List (List Sp)} (h:Fl k m bs) {ss:List Sp} (hc:∀ s ∈ ss,StC s) (A:StG m ss) (G:ss.length<=201):Fl (k+1) (stF m ss) (bs++[ss])/\fB (bs++[ss])=fB bs++bkS (wrL ss):=by
 obtain⟨k1,D⟩:=AK ss m (fun s hs=>(hc s hs).st) A;have j:(bs++[ss]).flatten=bs.flatten++ss:=by simp
 refine⟨⟨by simp,fun s hs=>?_,?_,?_,by have:=h.n;simp;omega,by have:=h.few;rw[j,Wzy];omega⟩,by unfold fB;simp⟩
 ·rcases Wqx.1 hs with hs | hs
  ·exact h.ok s hs
  rw[Wqk.1 hs];exact hc
 ·rw[j,Wxu,YW,h.m];exact⟨h.g,k1⟩
 rw[j,Wxu,I5,h.m,D]
theorem Fl.up {k:Nat} {m:Rk.Tb Str Kp Le} {bs:List (List Sp)} (h:Fl k m bs):Fl (k+1) m bs:=⟨h.ne,h.ok,h.g,h.m,by have:=h.n;omega,by have:=h.few;omega⟩
theorem Ib.up {k:Nat} {m:Rk.Tb Str Kp Le} {rs:List Rx} {ls:List Ex} (h:Ib k m rs ls):Ib (k+1) m rs ls:=⟨h.r,h.asc,h.rok,h.lok,by have:=h.n1;omega,by have:=h.n2;omega⟩
theorem Iv.up {k:Nat} {m:Rk.Tb Str Kp Le} {rs:List Rx} {ls:List Ex} (h:Iv k m rs ls):Iv (k+1) m rs ls:=⟨h.toIb.up,h.cl⟩
theorem qj8 (ss:List Sp) (h:∀ s ∈ ss,StC s) (A:ss.length<=100000):(bkS (wrL ss)).length<=105+3000*ss.length:=by
 have j:=kW ss (fun s hs=>(h s hs).st);unfold bkS;rw[Wzy,xW _ (by omega)];omega
theorem zjq:∀ bs:List (List Sp),(∀ ss ∈ bs,∀ s ∈ ss,StC s)->bs.flatten.length<=100000->(fB bs).length<=105*bs.length+3000*bs.flatten.length
 | [],_,_=>by simp[fB]
 | ss :: bs,h,hn=>by
  rw[Wvx,Wzy] at hn;have j:=zjq bs (fun z A=>h z (Wy0 _ A)) (by omega);have D:=qj8 ss (h ss (Wv6 ..)) (by omega);unfold fB at j ⊢;rw[Wzk,Wzy,Wvx,Wzy,Wzu];omega
theorem Fl.len {k:Nat} {m:Rk.Tb Str Kp Le} {bs:List (List Sp)} (h:Fl k m bs) (D:k<=100):(fB bs).length<=61000000:=by
 have:=zjq bs h.ok (by have:=h.few;omega);have j:=h.n;have A:=h.few;omega
theorem up_ok {k:Nat} {m:Rk.Tb Str Kp Le} {rs:List Rx} {ls:List Ex} (h:Ib k m rs ls) (V:k<100) {T:Ts} (G:aT T=m) {ms:List Mv1} {ws:List (List Str)} (j:Wk rs (ws.zip ms)) (p:Per) (tx:Str):UpOk T ms p tx ws:=by
 refine⟨fun I M A=>?_,by rw[G];exact zj5 h (by omega) j p tx,fun z J=>?_,fun I=>?_⟩
 ·rw[G] at A;exact(qxK h j I).fewT (by omega) A
 ·rw[G] at J;have D:=(up_R h j p tx).at z;obtain⟨_,L,_⟩:=J4 (ws.zip ms) rs h.asc h.rok (fun y hy=>⟨j.pos y hy,j.nam y hy,j.ok y hy⟩);cases K:Rk.fd (rsU rs (ws.zip ms)) z with
  | none=>rw[K] at D;rw[D] at J;cases J
  | some q=>exact Ak (L _ (ux _ z q K)).1
 have hc:=zj6 j I;have D:=kW _ (fun s hs=>(hc s hs).st);have O:=Lx p tx (ws.zip ms) j.nine;have Q:=j.few;exact⟨fun s hs=>Lq (hc s hs),by omega⟩
def FlG (k:Nat) (m:Rk.Tb Str Kp Le) (F:Option Str) (go:Bool):Prop:=(F=none/\go=false/\m=noT) ∨ ∃ bs tl,F=some (fB bs++tl)/\go=decide (tl=[])/\zvK tl/\Fl k m bs
theorem FlG.up {k:Nat} {m:Rk.Tb Str Kp Le} {F:Option Str} {go:Bool} (h:FlG k m F go):FlG (k+1) m F go:=by
 rcases h with h | ⟨bs,I,j,A,D,G⟩
 ·exact .inl h
 exact .inr ⟨bs,I,j,A,D,G.up⟩
theorem FlG.whole {k:Nat} {m:Rk.Tb Str Kp Le} {bs:List (List Sp)} (h:Fl k m bs):FlG k m (some (fB bs)) true:=.inr ⟨bs,[],by simp,by simp,.inl rfl,h⟩
theorem FlG.gf {k:Nat} {m:Rk.Tb Str Kp Le} {F:Option Str} {go:Bool} (h:FlG k m F go):go=true->F ≠ none:=fun j=>by
 rcases h with ⟨_,h,_⟩ | ⟨bs,A,rfl,_⟩
 ·rw[h] at j;cases j
 simp
theorem zjx:∀ {a b:Str},nm a=nm b->a=b
 | [],[],_=>rfl
 | [],_ :: _,h=>by cases h
 | _ :: _,[],h=>by cases h
 | x :: a,y :: b,h=>by
  unfold nm at h;simp only[WzK,List.cons.injEq] at h;have j:x.toNat=y.toNat:=by omega
  rw[UInt8.toNat_inj.1 j,zjx (a:=a) (b:=b) h.2]
theorem IJ (a:Str) (n:Nat):nm (a.take n)=(nm a).take n:=by simp[nm,List.map_take]
theorem qj9 (j l2 r1 r2:Str) (A:j.length<4294967296) (D:l2.length<4294967296) (h:bkS j++r1=bkS l2++r2):j.length=l2.length:=by
 have e:∀ (l r:Str),l.length<4294967296->((bkS l++r).drop 6).take 16=h16 l.length:=fun l r G=>by
  have I:bkS l++r=[98,108,111,99,107,32]++(h16 l.length++(32 :: yV (sha (nm l))++(32 :: (yV (sha (nm (wdS l)))++[10])++(l++r)))):=by
   unfold bkS hdS slS wdS;simp[Wy8]
  rw[I,List.drop_append_of_le_length (by simp),show List.drop 6 ([98,108,111,99,107,32] : Str)=[] by rfl,WyX,List.take_append_of_le_length (by rw[(k8 _ G).1];exact Wz8 _),Wq0 (by rw[(k8 _ G).1];exact Wz8 _)]
 have:=e j r1 A;rw[h,e l2 r2 D] at this;rw[<-(k8 _ A).2.2,<-(k8 _ D).2.2,this]
def CrO (k:Nat) (m0 m':Rk.Tb Str Kp Le) (o z:Option Str):Prop := ∀ c,Ra.Mid (o.map nm) (z.map nm) c->∃ (c':Option Str) (go:Bool),c=c'.map nm/\(FlG k m0 c' go ∨ FlG k m' c' go)
theorem CrO.same {k:Nat} {j A:Rk.Tb Str Kp Le} {o:Option Str} {go:Bool} (h:FlG k j o go):CrO k j A o o:=fun c hc=>⟨o,go,Ra.mid_self _ _ hc,.inl h⟩
theorem CrO.add {k:Nat} {G D:Rk.Tb Str Kp Le} {bs:List (List Sp)} {ss:List Sp} (h:Fl k G bs) (J:Fl k D (bs++[ss])) (M:(wrL ss).length<=200000000):CrO k G D (some (fB bs)) (some (fB bs++bkS (wrL ss))):=by
 have O:fB (bs++[ss])=fB bs++bkS (wrL ss):=by unfold fB;simp
 have L:(bkS (wrL ss)).length=105+(wrL ss).length:=by unfold bkS;rw[Wzy,xW _ (by omega)]
 have hold:FlG k G (some (fB bs)) true:=FlG.whole h;have j:FlG k D (some (fB bs++bkS (wrL ss))) true:=by rw[<-O];exact FlG.whole J
 rintro c (rfl | rfl | ⟨V,Q,n,e1,A,rfl⟩)
 ·exact⟨_,true,rfl,.inl hold⟩
 ·exact⟨_,true,rfl,.inr j⟩
 simp only[Wq7,Wq8.injEq] at e1 A;subst e1;rw[KJ] at A;have I:=List.append_cancel_left A;subst I;have hc:(some (nm (fB bs)++(nm (bkS (wrL ss))).take n):Option (List Int))=(some (fB bs++(bkS (wrL ss)).take n):Option Str).map nm:=by simp[KJ,IJ]
 by_cases h0:n=0
 ·refine⟨_,true,hc,.inl ?_⟩;subst h0;rw[List.take_zero,Wxw];exact hold
 by_cases K:(bkS (wrL ss)).length<=n
 ·refine⟨_,true,hc,.inr ?_⟩;rw[Wq0 K];exact j
 exact⟨_,_,hc,.inl (.inr ⟨bs,_,rfl,rfl,.inr ⟨wrL ss,n,rfl,by omega,by omega,M⟩,h⟩)⟩
theorem CrO.anew {k:Nat} {Z Y:Rk.Tb Str Kp Le} {o:Option Str} {go:Bool} {ss:List Sp} (h:FlG k Z o go) (h':Fl k Y [ss]) (hk:k<=1000) (Q:(wrL ss).length<=200000000):CrO k Z Y o (some (fB [ss])):=by
 have V:fB [ss]=bkS (wrL ss):=by unfold fB;simp
 rintro c (rfl | rfl | ⟨zo,b2,n,e1,J,rfl⟩)
 ·exact⟨o,go,rfl,.inl h⟩
 ·exact⟨_,true,rfl,.inr (FlG.whole h')⟩
 rcases h with ⟨rfl,_,_⟩ | ⟨bs,j,rfl,hg,ht,I⟩
 ·cases e1
 simp only[Wq7,Wq8.injEq] at e1 J;have L:b2=[]:=by
  obtain⟨D,r1,A⟩:∃ D r1,bs=D :: r1:=by
   cases hb:bs with
   | nil=>exact absurd hb I.ne
   | cons a b=>exact⟨a,b,rfl⟩
  have G:(wrL D).length<4294967296:=by
   have K:=kW D (fun s hs=>(I.ok D (by rw[A];simp) s hs).st);have M:=I.few;rw[A,Wvx,Wzy] at M;omega
  have hlen:=congrArg List.length J;rw[<-e1,V,Wzy,x9,x9,Wzy] at hlen;have hpre:(bkS (wrL ss)).take (fB bs++j).length=fB bs++j:=by
   apply zjx;rw[IJ,<-V,J,<-e1];rw[<-x9 (fB bs++j),List.take_left]
  have K:bkS (wrL D)++(fB r1++j)++(bkS (wrL ss)).drop (fB bs++j).length=bkS (wrL ss)++[]:=by
   have:bkS (wrL D)++(fB r1++j)=fB bs++j:=(by rw[A];unfold fB;simp);rw[this,Wxw];conv=>rhs;rw[<-List.take_append_drop (fB bs++j).length (bkS (wrL ss)),hpre]
  rw[Wy8] at K;have M:=qj9 _ _ _ _ G (by omega) K;have h3:(fB bs).length=(bkS (wrL D)).length+(fB r1).length:=by rw[A];unfold fB;simp
  have O:∀ l:Str,l.length<4294967296->(bkS l).length=105+l.length:=fun l Q=>by unfold bkS;rw[Wzy,xW _ Q]
  rw[O _ (by omega),h3,O _ G] at hlen;exact List.eq_nil_of_length_eq_zero (by omega)
 subst L;refine⟨some (fB bs++j),go,?_,.inl (.inr ⟨bs,j,rfl,hg,ht,I⟩)⟩;rw[<-e1];simp
def erV (k:Int):Value:=if k=0 then .nilIface else .iface 32 (.int .i64 k)
def Kl (m0 m':Rk.Tb Str Kp Le):Prop := ∀ x kk l,m0 x=some (kk,l)->kk.2 ≠ []->(m' x).isSome=true
def Uy (S XE:Nat->Prop) (N D R k:Nat) (f:Fq) (m0:Rk.Tb Str Kp Le) (k':Int) (rs':List Rx) (ls':List Ex) (w:World) (e:Ending) (w1:World):Prop := ∃ v S' N' o z go un t' n' T',e=.returned v/\Pv S' XE N' D R w1 f.q o z go un t' n' T'/\n'<=201*(k+1)/\N'<=N+14/\Gr S S' R w w1/\FlG (k+1) (aT T') z go/\
 ((v=erV k'/\o=z/\un=false/\Iv (k+1) (aT T') rs' ls'/\(k' ≠ 0->aT T'=m0)) ∨
 (k'=0/\(∃ b kk,v=eV b/\Er b kk w1/\((kk=1/\f.q=false) ∨ kk=2))/\∃ m',Iv (k+1) m' rs' ls'/\Kl m0 m'/\(aT T'=m' ∨ aT T'=m0)/\CrO (k+1) m0 m' o z))
theorem Wl.one {f:Str->Option (List Str)} {xs:List Str} {a b:List (List Str)} (D:Wl f xs a) (I:Wl f xs b):a=b:=by
 refine List.ext_getElem (by rw[D.1,I.1]) fun j h G=>?_;have k1:=(D.2 j (by rw[<-D.1];exact h)).2;have A:=(I.2 j (by rw[<-D.1];exact h)).2;rw[k1] at A;injection A with A;rw[List.getD_eq_getElem?_getD,List.getElem?_eq_getElem h,List.getD_eq_getElem?_getD,List.getElem?_eq_getElem G] at A;exact A
theorem Wl.at {f:Str->Option (List Str)} {xs:List Str} {i j:Nat} {a:List (List Str)} (h:Wl f (xs.take i) a) (A:j<i) (hi:i<=xs.length):isN (xs.getD j [])=true/\f (xs.getD j []) ≠ none:=by
 have:=h.2 j (by rw[List.length_take];omega);rw[show (xs.take i).getD j []=xs.getD j [] by simp[List.getD_eq_getElem?_getD,List.getElem?_take,A]] at this;exact⟨this.1,by rw[this.2];simp⟩
theorem zq1 {f:Str->Option (List Str)} {xs:List Str} {b b':Int->Prop} {g g':List (List Str)->Prop} (h:M7 f xs b g) (h':M7 f xs b' g'):(∃ e,(e=60 ∨ e=64)/\b e/\b' e) ∨ (∃ ls,Wl f xs ls/\(ls.map enW).Nodup/\g ls/\g' ls):=by
 have bad:∀ {i:Nat} {q:Int->Prop},((isN (xs.getD i [])=false/\q 60) ∨ (isN (xs.getD i [])=true/\f (xs.getD i [])=none/\q 64))->¬ (isN (xs.getD i [])=true/\f (xs.getD i []) ≠ none):=fun hq hx=>by
  rcases hq with ⟨e,_⟩ | ⟨_,e,_⟩
  ·rw[e] at hx;cases hx.1
  exact hx.2 e
 have full:∀ {ls:List (List Str)},Wl f xs ls->∀ i,i<xs.length->(isN (xs.getD i [])=true/\f (xs.getD i []) ≠ none):=fun hw i hi=>by
  have:=hw.2 i hi;exact⟨this.1,by rw[this.2];simp⟩
 rcases h with ⟨i,hi,⟨l1,Y⟩,hb⟩ | ⟨ls,V,hg⟩
 ·rcases h' with ⟨O,M,⟨l2,Z⟩,j⟩ | ⟨a6,G,_⟩
  ·have Q:i=O:=by
    rcases Nat.lt_trichotomy i O with I | he | I
    ·exact absurd (Z.at I (by omega)) (bad hb)
    ·exact he
    exact absurd (Y.at I (by omega)) (bad j)
   subst Q;rcases hb with ⟨D,J⟩ | ⟨D,J,K⟩
   ·rcases j with ⟨_,h5⟩ | ⟨A,_,_⟩
    ·exact .inl ⟨60,.inl rfl,J,h5⟩
    rw[D] at A;cases A
   rcases j with ⟨A,_⟩ | ⟨_,_,h6⟩
   ·rw[D] at A;cases A
   exact .inl ⟨64,.inr rfl,K,h6⟩
  exact absurd (full G i hi) (bad hb)
 rcases h' with ⟨O,M,_,j⟩ | ⟨a6,G,L⟩
 ·exact absurd (full V O M) (bad j)
 have:=V.one G;subst this;rcases hg with ⟨D,J⟩ | ⟨D,J⟩
 ·rcases L with ⟨_,A⟩ | ⟨K,_⟩
  ·exact .inl ⟨60,.inl rfl,J,A⟩
  exact absurd K D
 rcases L with ⟨K,_⟩ | ⟨_,A⟩
 ·exact absurd D K
 exact .inr ⟨ls,V,D,J,A⟩
theorem zjj {S:Nat->Prop} {R:Nat} {w w1:World} (h:Below w.heap.size w w1):Gr S S R w w1:=⟨fun i hi=>hi,fun i hi=>.inl hi,Al.below h⟩
theorem xY {S XE:Nat->Prop} {N D R k t n:Nat} {T:Ts} {f:Fq} {rs:List Rx} {ls:List Ex} {w w1:World} {e:Ending} {j:Int} (h:Pw S XE N D R w f t n T) (hi:Iv k (aT T) rs ls) (A:FlG k (aT T) f.f f.go) (J:n<=201*k) (G:j ≠ 0) (I:Gu j w e w1):Uy S XE N D R k f (aT T) j rs ls w e w1:=by
 obtain⟨rfl,hb⟩:=I;exact⟨_,S,N,f.f,f.f,f.go,false,t,n,T,rfl,(h.below hb).v,by omega,by omega,zjj hb,A.up,.inl ⟨by unfold erV;rw[if_neg G],rfl,rfl,hi.up,fun _=>rfl⟩⟩
theorem Z7 {S XE:Nat->Prop} {N D R k n n0:Nat} {T:Ts} {f:Fq} {m:Rk.Tb Str Kp Le} {fs:Ts->Str->Prop} {rs:List Rx} {ls:List Ex} {w w1:World} {e:Ending} (K:FlG k (aT T) f.f f.go) (a6:n0<=201*k) (Z:Kl (aT T) m) (hi:Iv (k+1) m rs ls) (hn:n<=201*(k+1)) (hf:∀ G f',aT G=m->fs G f'->FlG (k+1) m (some f') true/\CrO (k+1) (aT T) m f.f (some f')) (h:kY S XE N D R f n0 T n fs m w e w1):Uy S XE N D R k f (aT T) 0 rs ls w e w1:=by
 obtain⟨v,S',o,z,go,un,Y,V,G,rfl,O,Q,h3⟩:=h;rcases h3 with ⟨rfl,M,hu,g,J,I,j,L,A⟩ | ⟨he,M,⟨g,J,I,j,L,A⟩ | ⟨J,j,hu,L,A⟩⟩
 ·obtain⟨a1,a2⟩:=hf G g A I;exact⟨_,S',N+14,o,z,go,un,Y,V,G,rfl,O,by omega,Wz8 _,Q,by rw[J,j,A];exact a1,.inl ⟨rfl,M,hu,by rw[A];exact hi,fun h=>absurd rfl h⟩⟩
 ·obtain⟨a1,a2⟩:=hf G g A I;exact⟨_,S',N+14,o,z,go,un,Y,V,G,rfl,O,by omega,Wz8 _,Q,by rw[J,j,A];exact a1,.inr ⟨rfl,he,m,hi,Z,.inl A,by rw[J,M];exact a2⟩⟩
 exact⟨_,S',N+14,o,z,go,un,Y,V,G,rfl,O,by omega,Wz8 _,Q,by rw[J,j,A];exact K.up,.inr ⟨rfl,he,m,hi,Z,.inr A,by rw[J,M];exact CrO.same K.up⟩⟩
theorem Hk:∀ (ss:List Sp) (m:Rk.Tb Str Kp Le) (a:Str),(∀ s ∈ ss,s.word=wD->s.name ≠ a)->(m a).isSome=true->(stF m ss a).isSome=true
 | [],m,a,_,h=>h
 | s :: ss,m,a,hs,h=>by
  rw[uJ];refine Hk ss _ a (fun x hx=>hs x (Wy0 _ hx)) ?_;unfold sP;by_cases D:s.word=wR
  ·rw[if_pos D];show (Rk.putT m s.name _ a).isSome=true;unfold Rk.putT;split
   ·rfl
   exact h
  rw[if_neg D];by_cases G:s.word=wL
  ·rw[if_pos G];show (Rk.putT m s.name _ a).isSome=true;unfold Rk.putT;split
   ·rfl
   exact h
  rw[if_neg G];by_cases j:s.word=wD
  ·have A:¬ a=s.name:=fun e=>hs s (Wv6 ..) j e.symm;rw[if_pos j];show (Rk.delT m s.name a).isSome=true;unfold Rk.delT;rw[if_neg A];exact h
  rw[if_neg j];exact VZ m s.name a s.e h
theorem Kl.refl (m:Rk.Tb Str Kp Le):Kl m m:=fun x j l h _=>by rw[h];rfl
theorem Kl.stu {k:Nat} {m:Rk.Tb Str Kp Le} {rs:List Rx} {ls:List Ex} (h:Ib k m rs ls) {L:List (List Str × Mv1)} (Q:Wk rs L) (p:Per) (tx:Str):Kl m (stF m (stU p tx L)):=fun a V l J O=>by
 refine Hk _ m a (fun s hs A e=>?_) (by rw[J];rfl);unfold stU at hs;obtain⟨y,hy,hs⟩:=Wvk.1 hs;have j:s.name=enW y.1:=by
  have G:∀ x:Str,¬ (lg1 x (j6 p tx y.2)).word=wD:=fun x=>by show ¬ wG=wD;decide
  unfold chg at hs;split at hs
  ·rcases Wqj.1 hs with rfl | hs
   ·rfl
   obtain⟨x,_,rfl⟩:=Wz6.1 hs;exact absurd A (G x)
  rcases Wqj.1 hs with rfl | hs
  ·exact absurd (show wR=wD from A) (by decide)
  obtain⟨x,_,rfl⟩:=Wz6.1 hs;exact absurd A (G x)
 have I:=Q.last y hy;rw[<-j,e] at I;have D:=h.r.at a;rw[J] at D;cases K:Rk.fd rs a with
 | none=>rw[K] at D;cases D
 | some q =>
  rw[K] at D I;simp only[Wq7,Wq8.injEq,Prod.mk.injEq] at D;rw[<-D.1] at I;have:tgK V=none:=I;unfold tgK at this;split at this
  ·rename_i M;exact O M
  cases this
theorem qjz {k:Nat} {m:Rk.Tb Str Kp Le} {rs:List Rx} {ls:List Ex} (h:Ib k m rs ls) (J:k<=100) (G:1<=k) {T:Ts} (D:aT T=m) {f:Str} (I:Yk T f):∃ ss,f=fB [ss]/\Fl k m [ss]/\(wrL ss).length<=200000000:=by
 obtain⟨ss,K,rfl⟩:=I;have A:=h.wn J D K;obtain⟨k1,L⟩:=AK (stN T ss) noT (fun s hs=>(A.ok s hs).st) A.g;have j:[stN T ss].flatten=stN T ss:=by simp
 refine⟨stN T ss,by unfold fB;simp,⟨by simp,fun s hs=>by rw[Wqk.1 hs];exact A.ok,by rw[j];exact k1,by rw[j,L,A.m,D],G,by rw[j];exact A.n⟩,?_⟩;have M:=kW (stN T ss) (fun s hs=>(A.ok s hs).st);have O:=A.n;omega
theorem AV {k:Nat} {m h:Rk.Tb Str Kp Le} {rs:List Rx} {ls:List Ex} {F:Option Str} {go:Bool} (J:FlG k m F go) (hi:Ib (k+1) h rs ls) (K:k<100):∀ j f,aT j=h->Yk j f->FlG (k+1) h (some f) true/\CrO (k+1) m h F (some f):=fun j f I A=>by
 obtain⟨ss,rfl,D,G⟩:=qjz hi (by omega) (by omega) I A;exact⟨FlG.whole D,CrO.anew J.up D (by omega) G⟩
theorem zjk {k:Nat} {m D:Rk.Tb Str Kp Le} {rs:List Rx} {ls:List Ex} {f:Fq} (M:FlG k m f.f f.go) {ss:List Sp} (hc:∀ s ∈ ss,StC s) (Q:StG m ss) (Z:ss.length<=201) (Y:stF m ss=D) (hi:Ib (k+1) D rs ls) (V:k<100):∀ G f',aT G=D->FsA f ss G f'->FlG (k+1) D (some f') true/\CrO (k+1) m D f.f (some f'):=fun G f' O j=>by
 unfold FsA at j;split at j
 ·rename_i I;obtain⟨f0,h,rfl⟩:=j;rcases M with ⟨A,_⟩ | ⟨bs,tl,A,K,h3,L⟩
  ·rw[A] at h;cases h
  rw[I] at K;have J:tl=[]:=by simpa using K.symm
  subst J;rw[Wxw] at A;rw[A] at h;cases h
  obtain⟨k1,k2⟩:=Fl.more L hc Q Z;rw[Y] at k1;have h5:=kW ss (fun s hs=>(hc s hs).st);rw[A];refine⟨by rw[<-k2];exact FlG.whole k1,CrO.add L.up k1 (by omega)⟩
 exact AV M hi V G f' O j
theorem qyz {S XE:Nat->Prop} {N D R k t n:Nat} {T:Ts} {f:Fq} {rs O:List Rx} {ls M:List Ex} {w w1:World} {e:Ending} {k':Int} {ms:List Mv1} {p:Per} {tx:Str} (h:Pw S XE N D R w f t n T) (hi:Iv k (aT T) rs ls) (G:FlG k (aT T) f.f f.go) (K:n<=201*k) (hk:k<100) (ad:∀ x ∈ ms,xu x) (Z:ms.length<=20)
  (hp:kw S XE N D R f n T ms p tx w e w1) (hd:UdP rs ls ms p tx k' O M):Uy S XE N D R k f (aT T) k' O M w e w1:=by
 unfold kw at hp;rw[hi.wy rfl] at hp;rcases zq1 hp hd with ⟨c,hc,Y,rfl,rfl,rfl⟩ | ⟨ws,hw,ac,Y,h2⟩
 ·exact xY h hi G K (by rcases hc with rfl | rfl <;> decide) Y
 have A:=qxJ hi.toIb hw ac ad Z;have hlen:ws.length=ms.length:=by rw[hw.1];simp
 have L:∀ j,j<ms.length->(idT T (enW (ws.getD j []))=(ms.getD j dMv).old ↔ okO rs (enW (ws.getD j [])) (ms.getD j dMv).old):=fun j hj=>by
  have a7:j<ws.length:=by omega
  refine qy1 hi.toIb rfl ?_ _;have a8:j<(ws.zip ms).length:=by rw[List.length_zip];omega
  have:=A.last _ (List.getElem_mem a8);rw[List.getElem_zip] at this;rw[List.getD_eq_getElem?_getD,List.getElem?_eq_getElem a7];exact this
 rcases Y with ⟨i,a1,a2,a3,a4⟩ | ⟨a1,a2⟩
 ·rcases h2 with ⟨i',b1,Q,b3,rfl,rfl,rfl⟩ | ⟨b1,_⟩
  ·exact xY h hi G K (by decide) a4
  exact absurd ((L i a1).2 (b1 i a1)) a3
 rcases h2 with ⟨i',b1,Q,b3,_⟩ | ⟨b1,Q⟩
 ·exact absurd ((L i' b1).1 (a1 i' b1)) b3
 obtain⟨_,g2,_⟩:=J4 (ws.zip ms) rs hi.asc hi.rok (fun y hy=>⟨A.pos y hy,A.nam y hy,A.ok y hy⟩);have I:=XJ (up_R hi.toIb A p tx) (fun x hx=>(g2 x hx).1);rcases a2 with ⟨a3,a4⟩ | ⟨a3,a4⟩
 ·rcases Q with ⟨b3,rfl,rfl,rfl⟩ | ⟨b3,_⟩
  ·exact xY h hi G K (by decide) a4
  exact absurd (I.1 a3) b3
 rcases Q with ⟨b3,_⟩ | ⟨b3,b4⟩
 ·exact absurd (I.2 b3) a3
 rcases a4 with ⟨a5,V⟩ | ⟨a5,V⟩
 ·rcases b4 with ⟨_,rfl,rfl,rfl⟩ | ⟨b5,_⟩
  ·exact xY h hi G K (by decide) V
  exact absurd b5 a5
 rcases b4 with ⟨b5,_⟩ | ⟨_,rfl,rfl,rfl⟩
 ·exact absurd a5 b5
 have h6:=Lx p tx (ws.zip ms) A.nine;have h7:=A.few;have J:=qxK hi.toIb A a5;exact Z7 G K (Kl.stu hi.toIb A p tx) ⟨J,b3⟩ (by omega) (zjk G (zj6 A a5) (zj5 hi.toIb (by omega) A p tx) (by omega) rfl J hk) V
theorem qjq (m:Rk.Tb Str Kp Le) (x y:Str):stF m [lkS x y]=Rk.putT m x (zZ,y):=by
 unfold lkS;rw[uJ,qy6,zj4]
theorem qxY {k:Nat} {m:Rk.Tb Str Kp Le} {rs:List Rx} {ls:List Ex} (h:Ib k m rs ls) {x y:Str} (hx:isN x=true) (hy:isN y=true) (j:x ≠ y):Ib (k+1) (stF m [lkS x y]) (Rk.setL geS x (some (zZ,y)) rs false) ls:=by
 refine⟨?_,Rk.setL_rising ltS geS FZ J0 Bk Rv _ _ rs _ h.asc,fun z A=>?_,h.lok,?_,by have:=h.n2;omega⟩
 ·rw[qjq];exact h.r.put x (zZ,y) _ (fun b=>by rw[Rk.fd_setL];rfl)
 ·rcases H5 _ _ _ _ _ z A with ⟨rfl,_⟩ | A
  ·exact⟨hx,zux,.inr ⟨hy,fun e=>j e.symm,rfl⟩⟩
  exact h.rok z A
 have:=Yx geS x (zZ,y) rs false;have D:=h.n1;simp at this;omega
theorem qyq {S XE:Nat->Prop} {N D R k t n:Nat} {T:Ts} {f:Fq} {rs K:List Rx} {ls:List Ex} {w w1:World} {e:Ending} {V:Int} {x y:Str} (h:Pw S XE N D R w f t n T) (hi:Iv k (aT T) rs ls) (G:FlG k (aT T) f.f f.go) (L:n<=201*k) (Y:k<100)
  (Z:jv S XE N D R f n T x y w e w1) (hd:LkP rs x y V K):Uy S XE N D R k f (aT T) V K ls w e w1:=by
 rcases Z with ⟨a1,a2⟩ | ⟨a1,a2⟩
 ·rcases hd with ⟨_,rfl,rfl⟩ | ⟨b1,_⟩
  ·exact xY h hi G L (by decide) a2
  exact absurd b1 a1
 rcases hd with ⟨b1,_⟩ | ⟨_,Q⟩
 ·exact absurd a1 b1
 rcases a2 with ⟨a3,a4⟩ | ⟨a3,a4⟩
 ·rcases Q with ⟨_,rfl,rfl⟩ | ⟨b3,_⟩
  ·exact xY h hi G L (by decide) a4
  exact absurd a3 b3
 rcases Q with ⟨b3,_⟩ | ⟨_,b3⟩
 ·exact absurd b3 a3
 have j:=qxY hi.toIb a1.1 a1.2 a3;have A:=XJ j.r (fun z O=>(j.rok z O).1);rcases a4 with ⟨a5,M⟩ | ⟨a5,M⟩
 ·rcases b3 with ⟨_,rfl,rfl⟩ | ⟨b4,_⟩
  ·exact xY h hi G L (by decide) M
  exact absurd (A.1 a5) b4
 rcases b3 with ⟨b4,_⟩ | ⟨b4,rfl,rfl⟩
 ·exact absurd (A.2 b4) a5
 have I:StC (lkS x y):=⟨⟨a1.1,yz.1,yz,qX a1.2,.inr (.inl ⟨rfl,a1.2⟩)⟩,fun e=>absurd (show wL=wR from e) (by decide),fun _ e=>a3 e.symm⟩
 exact Z7 G L (fun z kk l O _=>Hk _ _ z (fun s hs J=>by rw[Wqk.1 hs] at J;exact absurd (show wL=wD from J) (by decide)) (by rw[O];rfl)) ⟨j,b4⟩ (by omega) (zjk G (fun s hs=>by rw[Wqk.1 hs];exact I) (show StG (aT T) [lkS x y] from ⟨(Lq I).1,.inl (.inr (.inl rfl)),trivial⟩) (by simp) rfl j Y) M
theorem qv0 {k:Nat} {m:Rk.Tb Str Kp Le} {rs:List Rx} {ls:List Ex} (h:Ib k m rs ls) (x:Str) (i:Nat):Ib k (exT m x i) rs (Rk.exL x i ls) :=
 ⟨h.r.expire x i,h.asc,h.rok,fun e j=>h.lok e (L9 x ls i e j),h.n1,Wz9 (J5 x ls i) h.n2⟩
theorem qyx {S XE:Nat->Prop} {N D R k t n:Nat} {T:Ts} {f:Fq} {rs:List Rx} {ls:List Ex} {w w1:World} {e:Ending} {L:Int} {x:Str} (h:Pw S XE N D R w f t n T) (hi:Iv k (aT T) rs ls) (G:FlG k (aT T) f.f f.go) (K:n<=201*k) (O:k<100)
  (j:L4 S XE N D R f n T x L w e w1):Uy S XE N D R k f (aT T) (oN (lgD rs ls x)) rs (exP rs ls x L) w e w1:=by
 unfold L4 gt at j;unfold exP lgD;cases hx:isN x with
 | false =>
  rw[hx] at j;exact xY h hi G K (show (60:Int) ≠ 0 by decide) j
 | true =>
  rw[hx] at j;rcases hi.at rfl x with ⟨I,J⟩ | ⟨r,I,J,M⟩
  ·rw[I] at j;rw[J];exact xY h hi G K (show (61:Int) ≠ 0 by decide) j
  rw[I] at j;rw[J];simp only[if_true,Option.isSome_some] at j ⊢;have Q:(ls.filter fun e=>decide (e.1=x)).length=r.log.length:=by rw[M];unfold Rk.lg;rw[Wx7]
  rw[Q];have A:=(qv0 hi.toIb x (r.log.length-L.toNat)).up;exact Z7 G K (fun z V l Y _=>by unfold exT;split <;> simp_all) ⟨A,hi.cl⟩ (by omega) (AV G A O) j
theorem qyj {S XE:Nat->Prop} {N D R k t n:Nat} {T:Ts} {f:Fq} {rs:List Rx} {ls:List Ex} {w w1:World} {e:Ending} (h:Pw S XE N D R w f t n T) (hi:Iv k (aT T) rs ls) (j:FlG k (aT T) f.f f.go) (G:n<=201*k) (A:k<100) (I:kY S XE N D R f n T n Yk (aT T) w e w1):Uy S XE N D R k f (aT T) 0 rs ls w e w1 :=
 Z7 j G (Kl.refl _) hi.up (by omega) (AV j hi.up.toIb A) I
end Go.Proofs.YtdnphaganajejaaGreatDoor.K
