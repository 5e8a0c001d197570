import Derived.Test.YtdnphaganajejaaGreatDoorMz30
set_option linter.unusedSimpArgs false
set_option linter.unusedVariables false
set_option maxRecDepth 20000
set_option maxHeartbeats 4000000
open List renaming drop_eq_getElem_cons->WqJ,filter_append->WxX,filter_cons->WxJ,filter_nil->WxK,length_append->Wzy,length_singleton->WyV,mem_singleton->Wqk,take_of_length_le->Wq0
open Nat renaming le_refl->Wz8
namespace Go.Proofs.YtdnphaganajejaaGreatDoor.K
open Go.Proofs.Tryz
open Go.RowKit
def tgF (f:Str->Option Kp) (x:Str):Str:=((f x).map (·.2)).getD []
abbrev wyF (f:Str->Option Kp) (n:Nat) (x:Str):Option (List Str):=Rk.wy tgK f n x
theorem zu9 (f:Str->Option Kp) (x:Str):(f x).bind tgK=if tgF f x=[] then none else some (tgF f x):=by
 unfold tgF tgK;cases f x <;> simp
theorem Yw {f:Str->Option Kp} {n:Nat} {x:Str} (h:tgF f x=[]):wyF f n x=some [x]:=by
 unfold wyF Rk.wy;rw[zu9,if_pos h]
theorem WJ {f:Str->Option Kp} {x:Str} (h:tgF f x ≠ []):wyF f 0 x=none:=by
 unfold wyF Rk.wy;rw[zu9,if_neg h]
theorem Av {f:Str->Option Kp} {n:Nat} {x:Str} (h:tgF f x ≠ []):wyF f (n+1) x=(wyF f n (tgF f x)).map (x :: ·):=by
 conv=>lhs;unfold wyF Rk.wy
 rw[zu9,if_neg h]
theorem YY {f:Str->Option Kp} (j:∀ x k,f x=some k->k.2.length<=60):∀ (n:Nat) (x:Str) (l:List Str),x.length<=60->wyF f n x=some l->0<l.length/\l.length<=n+1/\∀ y ∈ l,y.length<=60
 | n,x,l,hx,h=>by
  by_cases h0:tgF f x=[]
  ·rw[Yw h0] at h;cases h
   simp[hx]
  cases n with
  | zero=>rw[WJ h0] at h;cases h
  | succ n =>
   rw[Av h0] at h;obtain⟨G,A,rfl⟩:=Option.map_eq_some_iff.1 h;have hc:(tgF f x).length<=60:=by
    unfold tgF;cases e:f x with
    | none=>simp
    | some r=>exact j x r e
   obtain⟨k1,I,D⟩:=YY j n _ G hc A;refine⟨by simp,by simp;omega,fun y hy=>?_⟩;rcases List.mem_cons.1 hy with rfl | hy
   ·exact hx
   exact D y hy
theorem zuz {rs:List Rx} (h:∀ x ∈ rs,jW x) {x:Str} {k:Kp} (j:Rk.fd rs x=some k):IdW k.1/\k.2.length<=60:=by
 cases A:fI rs x with
 | none=>rw[(jY rs x).2 A] at j;cases j
 | some i =>
  obtain⟨D,I,G⟩:=(jY rs x).1 i A;rw[G] at j;cases j
  exact(h _ (zQ rs i dR D)).2
def Qk (rs:List Rx) (x:Str) (B:Nat) (e:Ending) (w':World):Prop:=match wyF (Rk.fd rs) 8 x with
 | some l=>∃ v,e=.returned (.tuple #[v,.int .i64 0])/\w'.ownsRow B 9 1 v l.length (l.map sV)
 | none=>e=.returned (.tuple #[.slice none 0 0,.int .i64 64])
theorem results54:f54.results=#[.tmp 4,.tmp 5]:=by kernel_rfl
theorem M8 {G Q:Nat} {v1 v2:Value} {rs:List Rx} {ls:List Ex} (x:Str) (w:World) (h:Dq G w Q v1 v2 rs ls) (hx:x.length<=60) :
  Calls prog 54 #[.pointer (some ⟨Q,0,none⟩),sV x] w fun e w'=>Qk rs x w.heap.size e w'/\Below w.heap.size w w':=by
 obtain⟨r,HR⟩:=nm_ w.heap.size;have ae:Hid (Bx eT 1 9 w (w.alloc (.cells #[.string ⟨x.toArray⟩] 9)) r (.slice (some ⟨r,0,none⟩) 1 1) ([]++[x])):=hid ⟨(Below.refl _ w).alloc (by rw[HR.out];exact Wz8 _) _,⟨rfl,.inr ⟨r,1,#[.string ⟨x.toArray⟩],rfl,Wz8 _,by rw[<-HR.out];exact heap_alloc_new _ _,by simp,by unfold maxLen;omega,by simp,rfl⟩⟩,by rw[<-HR.out];simp⟩
 have HD:Hid (∀ W,Below r w W->Dq G W Q v1 v2 rs ls):=fun W hW=>h.below (by rw[HR.out];exact hW);have ak:=hid h.ok1;clear h;rw[HR.out];unfold sV;go_enter func54,ntmps54;go_wp2_with fail
 rw[HR.out];go_loopg [1,6] 9 (fun q nv sv wr=>∃ (l:List Str) (cur:Str) (v:Value),nv=.string ⟨cur.toArray⟩/\v=sv/\q=9-l.length/\l.length<=8/\cur.length<=60/\Hid (wyF (Rk.fd rs) 8 x=(wyF (Rk.fd rs) (8-l.length) cur).map (l ++ ·))/\Hid (Bx eT 1 9 w wr r v (l++[cur])));case atStart=>exact⟨[],x,_,rfl,rfl,rfl,by simp,hx,hid (by simp),ae⟩
 obtain⟨l,cur,v,rfl,hv,hq,ap,aw,HW,K⟩:=hrel;subst hv;have j:=YK cur wr (HD.out _ K.out.below);obtain⟨tg,D⟩:∃ s,tgF (Rk.fd rs) cur=s:=⟨_,rfl⟩;have L:=hid D;obtain⟨a,c,-,hP,-,ad⟩:=(HD.out _ K.out.below).px1;cases Y:fI rs cur with
 | none =>
  rw[Y] at j;have h0:tg=[]:=by rw[<-D];unfold tgF;rw[(jY rs cur).2 Y];rfl
  subst h0;have Z:Hid (wyF (Rk.fd rs) 8 x=some (l++[cur])):=hid (by rw[HW.out,Yw L.out];rfl);simp only[iV] at j;unfold sV at j;clear D Y ad hP;go_wp2_with (first
   | (go_at_call 55;refine j.mono ?_;rintro e w' ⟨rfl,rfl⟩))
  refine bodyPost_ret (results_tmp2 results54 _ _ _) rfl ⟨?_,K.out.below⟩;unfold Qk;rw[Z.out];refine⟨_,rfl,?_⟩;have:=K.out.own;rw[jV] at this;exact this
 | some k =>
  rw[Y] at j;obtain⟨M,a7,V⟩:=(jY rs cur).1 k Y;have I:=ak.out _ (zQ rs k dR M);have A:(rs.getD k dR).2.2=tg:=by rw[<-D];unfold tgF;rw[V];rfl
  obtain⟨b,off,e1,_,e3⟩:=hP.at_ (by omega);subst e1;have a6:=e3 k M 21 (sV tg) (by
   unfold yx;rw[List.getElem?_cons_succ,List.getElem?_append_right (by rw[zv,I.2.1.1];exact Wz8 _),zv,I.2.1.1,A];rfl)
  have ao:(k:Int)<(rs.length:Int):=by omega
  have ax:¬ ((k:Int)<0):=by omega
  have au:tg.length<=60:=by rw[<-A];exact I.2.2
  obtain⟨N,HN⟩:=nm_ rs.length;rw[HN.out] at ao ad;simp only[iV] at j;by_cases h0:tg=[]
  ·subst h0;have Z:Hid (wyF (Rk.fd rs) 8 x=some (l++[cur])):=hid (by rw[HW.out,Yw L.out];rfl);unfold sV at j a6;clear D Y hP e3 M a7 V I A;go_wp2_with (first
    | (go_at_call 55;refine j.mono ?_;rintro e w' ⟨rfl,rfl⟩))
   refine bodyPost_ret (results_tmp2 results54 _ _ _) rfl ⟨?_,K.out.below⟩;unfold Qk;rw[Z.out];refine⟨_,rfl,?_⟩;have:=K.out.own;rw[jV] at this;exact this
  have ay:(tg == [])=false:=by simpa using h0
  by_cases h8:l.length=8
  ·have Z:Hid (wyF (Rk.fd rs) 8 x=none):=hid (by rw[HW.out,h8,WJ (by rw[L.out];exact h0)];rfl);obtain⟨va,vc,J⟩:=zu K.out.own;rw[Wzy,WyV,h8] at J;subst J;have ai:=hid K.out.below;unfold sV at j a6;clear D Y hP e3 M a7 V I A K;go_wp2_with (first
    | (go_at_call 55;refine j.mono ?_;rintro e w' ⟨rfl,rfl⟩))
   refine bodyPost_ret (results_tmp2 results54 _ _ _) rfl ⟨?_,ai.out⟩;unfold Qk;rw[Z.out];rfl
  obtain⟨va,vc,J⟩:=zu K.out.own;rw[Wzy,WyV] at J;obtain⟨ln,a8⟩:∃ n,l.length=n:=⟨_,rfl⟩;rw[a8] at h8 ap hq J;subst J;have O:=hid a8;have av:ln<8:=by omega
  have az:¬ ((ln:Int)+1 > 8):=by omega
  have Z:Hid (wyF (Rk.fd rs) 8 x=(wyF (Rk.fd rs) (8-(l++[cur]).length) tg).map (l++[cur] ++ ·)):=hid (by
   rw[HW.out,O.out,Wzy,WyV,O.out,show 8-ln=(8-(ln+1))+1 by omega,Av (by rw[L.out];exact h0),L.out];cases wyF (Rk.fd rs) (8-(ln+1)) tg <;> simp)
  have ag:Hid (Bx eT 1 9 w (wr.alloc (.cells #[.string ⟨tg.toArray⟩] 9)) r (.slice va (ln+1) vc) (l++[cur])):=hid (K.out.alloc _);have aj:Hid ((l++[cur]).length + [tg].length<=1000000000):=hid (by simp;omega);unfold sV at j a6;clear D Y hP e3 M a7 V I A K a8;go_wp2_with (first
   | (go_at_call 55;refine j.mono ?_;rintro e w' ⟨rfl,rfl⟩)
   | (at_builtin;refine zy (enc:=eT) (k:=1) (d:=[]) rfl _ _ 98 9 zx4 info9 rfl (by decide) (by decide) (fun x v hv=>by simp only[eT,Wqk] at hv;subst hv;rfl) rfl r _ (l++[cur]) rfl ag.out (some ⟨w'.heap.size,0,none⟩) 1 [tg] rfl (x5 (enc:=eT) w' tg 9) (fun x _=>rfl) aj.out ?_;intro v3 w3 ac am ar;have ah:=hid ac;clear ac am ar))
  go_roundg (9-(ln+1));case measure=>omega
  case rel=>exact⟨l++[cur],tg,_,rfl,rfl,by rw[Wzy,WyV,O.out],by rw[Wzy,WyV,O.out];omega,au,Z,ah⟩
def rdF (f:Str->Option Kp) (x:Str):Except Int (List Int):=if isN x then (match wyF f 8 x with
 | none=>.error 64
 | some l=>match f (l.getD (l.length-1) []) with
  | none=>.error 61
  | some k=>.ok k.1) else .error 60
abbrev rdD (rs:List Rx) (x:Str):Except Int (List Int):=rdF (Rk.fd rs) x
def oN {α:Type} (o:Except Int α):Int:=match o with
 | .ok _=>0
 | .error k=>k
theorem i86 {R:Array Value} (h:(prog.info? 116).map (·.size)=some R.size):(prog.info? 91).map (·.size)=some R.size:=by rw[<-h];kernel_rfl
theorem results45:f45.results=#[.cell 4 91,.tmp 5]:=by kernel_rfl
theorem results70:f70.results=#[.tmp 4,.tmp 5]:=by kernel_rfl
theorem zuq {w:World} {B:Nat} {v:Value} {l:List Str} {n:Nat} (h:w.ownsRow B 9 1 v l.length (l.map sV)) (G:l.length=n+1):∃ b off c,v=.slice (some ⟨b,off,none⟩) (n+1) c/\w.cell? ⟨b,off+n,none⟩=some (sV (l.getD n [])):=by
 rw[<-jV] at h;obtain⟨a,c,e1,D,_⟩:=uX (enc:=eT) (d:=[]) h (fun _ _=>rfl);obtain⟨b,off,j,_,A⟩:=D.at_ (by omega);subst j;refine⟨b,off,c,by rw[e1,G],?_⟩;have:=A n (by omega) 0 _ rfl;simpa using this
theorem U5 {G Q:Nat} {v1 v2:Value} {rs:List Rx} {ls:List Ex} (x:Str) (w:World) (h:Dq G w Q v1 v2 rs ls) :
  Calls prog 45 #[.pointer (some ⟨Q,0,none⟩),sV x] w fun e w'=>e=.returned (.tuple #[.agg (row .u8 (oI (rdD rs x))).toArray,.int .i64 (oN (rdD rs x))])/\Below w.heap.size w w':=by
 obtain⟨r,HR⟩:=nm_ w.heap.size;obtain⟨Z,HZ⟩:=ri zZ rfl;have ad:Hid (Z=z89):=hid (by rw[<-HZ.out.e];rfl);have L:=i86 HZ.out.i;obtain⟨V,D⟩:=nm_ ((w.alloc (.cells Z 91)).alloc (.cells Z 91));have ai:Below r w V:=by rw[<-D.out,<-HR.out];exact((Below.refl _ w).alloc (Wz8 _) _).alloc (by simp) _
 have aG:V.heap.size=r+2:=by rw[<-D.out,<-HR.out];simp
 have hr0:V.heap[r]? = some (.cells Z 91):=by rw[<-D.out,<-HR.out,heap_alloc_old _ _ (by simp)];exact heap_alloc_new _ _
 have ax:V.heap[r+1]? = some (.cells Z 91):=by
  have:=heap_alloc_new (w.alloc (.cells Z 91)) (.cells Z 91);rw[D.out] at this;simpa [HR.out] using this
 have HK:Hid (∀ w1,Below V.heap.size V w1->Below r w w1/\w1.heap[r]? = some (.cells Z 91)/\w1.heap[r+1]? = some (.cells Z 91)):=fun w1 hb=>⟨ai.trans (hb.mono (by omega)),(hb.block _ (by omega)).trans hr0,(hb.block _ (by omega)).trans ax⟩
 have HE:Hid (∀ (w2:World) (A:Array Value),Below r w w2->w2.heap[r]? = some (.cells Z 91)->(w2.setRow r A).heap[r]? = some (.cells A 91)/\Below r w (w2.setRow r A)):=fun w2 A b2 h2=>⟨setRow_heap _ _ _ _ _ _ h2,below_setRow b2 (Wz8 _) _⟩;have a7:=h.below (W:=V) (by rw[HR.out];exact ai)
 have ah:Hid (∀ w1,Below V.heap.size V w1->Dq G w1 Q v1 v2 rs ls):=fun w1 hb=>a7.below hb;have K:=uq x V;have ap:=hid h.ok1;rw[HR.out];clear h ai hr0 ax;cases hi:isN x with
 | false =>
  have HF:Hid (rdD rs x=.error 60):=hid (by unfold rdD rdF;rw[hi];rfl);rw[HF.out];simp only[oI,oN,HZ.out.e];rw[hi] at K;rw[ad.out] at D;unfold z89 at D;unfold sV at K ⊢;clear a7;go_enter func45,ntmps45;go_wp2_with (first
   | (go_at_call 53;rw[D.out,HR.out];refine K.mono ?_;rintro e w1 ⟨rfl,hb⟩;obtain⟨q1,Y,q3⟩:=HK.out w1 hb;obtain⟨q4,q5⟩:=HE.out w1 Z q1 Y;have Q2:=hid Y;have Q3:=hid q3;have Q4:=hid q4;have Q5:=hid q5;clear hb q1 Y q3 q4 q5)
   | (refine zX rfl 91 (.tmp 6) rfl _ Z 91 (0,0) _ rfl Q3.out underlying91 rfl L ?_;go_frame)
   | (refine wpList_store_row rfl 91 (.tmp 4) (.tmp 15) rfl r Z rfl rfl 91 _ Q2.out L rfl HZ.out.o ?_;go_frame))
  exact bodyPost_ret (qu results45 _ _ r Z.toList _ _ rfl rfl (zw (by simpa using Q4.out)) underlying91 rfl (by simpa using L)) rfl ⟨by simp,Q5.out⟩
 | true =>
  have ag:=qX hi;have ac:=fun w1 hb=>M8 x w1 (ah.out w1 hb) ag;rw[hi] at K;cases hW:wyF (Rk.fd rs) 8 x with
  | none =>
   have HF:Hid (rdD rs x=.error 64):=hid (by unfold rdD rdF;rw[hi,hW];rfl);rw[HF.out];simp only[oI,oN,HZ.out.e]
   have I:∀ w1,Below V.heap.size V w1->Calls prog 54 #[.pointer (some ⟨Q,0,none⟩),sV x] w1 fun e w'=>e=.returned (.tuple #[.slice none 0 0,.int .i64 64])/\Below w1.heap.size w1 w':=fun w1 hb=>(ac w1 hb).mono fun e w' ⟨hp,aj⟩=>⟨by unfold Qk at hp;rw[hW] at hp;exact hp,aj⟩;rw[ad.out] at D;unfold z89 at D;unfold sV at K I ⊢;clear a7 ac hW
   go_enter func45,ntmps45;go_wp2_with (first
    | (go_at_call 53;rw[D.out,HR.out];refine K.mono ?_;rintro e w1 ⟨rfl,hb⟩;have O:=I w1 hb;have B1:=hid hb;clear hb I)
    | (go_at_call 54;refine O.mono ?_;rintro e w2 ⟨rfl,hb⟩;obtain⟨q1,Y,q3⟩:=HK.out w2 (B1.out.trans (hb.mono B1.out.size));obtain⟨q4,q5⟩:=HE.out w2 Z q1 Y;have Q2:=hid Y;have Q3:=hid q3;have Q4:=hid q4;have Q5:=hid q5;clear hb q1 Y q3 q4 q5)
    | (refine zX rfl 91 (.tmp 6) rfl _ Z 91 (0,0) _ rfl Q3.out underlying91 rfl L ?_;go_frame)
    | (refine wpList_store_row rfl 91 (.tmp 4) (.tmp 24) rfl r Z rfl rfl 91 _ Q2.out L rfl HZ.out.o ?_;go_frame))
   exact bodyPost_ret (qu results45 _ _ r Z.toList _ _ rfl rfl (zw (by simpa using Q4.out)) underlying91 rfl (by simpa using L)) rfl ⟨by simp,Q5.out⟩
  | some l =>
   obtain⟨av,aw,ae⟩:=YY (fun y k hk=>(zuz ap.out hk).2) 8 x l ag hW;obtain⟨n,hn⟩:∃ n,l.length=n+1:=⟨l.length-1,by omega⟩;obtain⟨y,hy⟩:∃ y,l.getD n []=y:=⟨_,rfl⟩;have aE:n<=8:=(by omega)
   have I:∀ w1,Below V.heap.size V w1->Calls prog 54 #[.pointer (some ⟨Q,0,none⟩),sV x] w1 fun e w'=>(∃ b off c,e=.returned (.tuple #[.slice (some ⟨b,off,none⟩) (n+1) c,.int .i64 0])/\w'.cell? ⟨b,off+n,none⟩=some (sV y))/\Below w1.heap.size w1 w':=fun w1 hb=>(ac w1 hb).mono fun e w' ⟨hp,aj⟩=>⟨by
    unfold Qk at hp;rw[hW] at hp;obtain⟨v,rfl,ho⟩:=hp;obtain⟨b,off,c,rfl,hc⟩:=zuq ho hn;exact⟨b,off,c,rfl,by rw[hc,hy]⟩,aj⟩
   have J:=fun w1 hb=>YK y w1 (ah.out w1 hb);have ar:Hid (rdD rs x=match Rk.fd rs y with | none=>.error 61 | some k=>.ok k.1):=hid (by unfold rdD rdF;rw[hi,hW];simp only[if_true,hn,Nat.add_sub_cancel,hy]);cases hI:fI rs y with
   | none =>
    have HF:Hid (rdD rs x=.error 61):=hid (by rw[ar.out,(jY rs y).2 hI]);rw[HF.out];simp only[oI,oN,HZ.out.e];rw[hI] at J;simp only[iV] at J;rw[ad.out] at D;unfold z89 at D;unfold sV at K I J ⊢;clear a7 ac hW av aw ae hn hy;go_enter func45,ntmps45;go_wp2_with (first
     | (go_at_call 53;rw[D.out,HR.out];refine K.mono ?_;rintro e w1 ⟨rfl,hb⟩;have O:=I w1 hb;have B1:=hid hb;clear hb I)
     | (go_at_call 54;refine O.mono ?_;rintro e w2 ⟨⟨b,off,c,rfl,aA⟩,hb⟩;have M:=B1.out.trans (hb.mono B1.out.size);have a8:=J w2 M;obtain⟨q1,Y,q3⟩:=HK.out w2 M;obtain⟨q4,q5⟩:=HE.out w2 Z q1 Y;have Q2:=hid Y;have Q3:=hid q3;have Q4:=hid q4;have Q5:=hid q5;clear hb M q1 Y q3 q4 q5 J)
     | (go_at_call 55;refine a8.mono ?_;rintro e w' ⟨rfl,rfl⟩)
     | (refine zX rfl 91 (.tmp 6) rfl _ Z 91 (0,0) _ rfl Q3.out underlying91 rfl L ?_;go_frame)
     | (refine wpList_store_row rfl 91 (.tmp 4) (.tmp 36) rfl r Z rfl rfl 91 _ Q2.out L rfl HZ.out.o ?_;go_frame))
    exact bodyPost_ret (qu results45 _ _ r Z.toList _ _ rfl rfl (zw (by simpa using Q4.out)) underlying91 rfl (by simpa using L)) rfl ⟨by simp,Q5.out⟩
   | some k =>
    obtain⟨am,aB,au⟩:=(jY rs y).1 k hI;have ay:=ap.out _ (zQ rs k dR am);have HF:Hid (rdD rs x=.ok (rs.getD k dR).2.1):=hid (by rw[ar.out,au]);rw[HF.out];obtain⟨R,a6⟩:=ri _ ay.2.1.1;simp only[oI,oN,a6.out.e];have ak:=i86 a6.out.i;rw[hI] at J;simp only[iV] at J
    have ao:Hid (∀ w1,Below V.heap.size V w1->∃ b off c,w1.cell? ⟨Q,0,none⟩=some (.slice (some ⟨b,off,none⟩) rs.length c)/\w1.rangeAt b (off+k*22+1) R.toList):=fun w1 hb=>by
     obtain⟨a,c,-,hP,-,az⟩:=(ah.out w1 hb).px1;obtain⟨b,off,e1,_,e3⟩:=hP.at_ (by omega);subst e1;refine⟨b,off,c,az,fun j v hv=>?_⟩;rw[<-a6.out.e] at hv;have:=e3 k am (1+j) v (by
      unfold yx;rw[Nat.add_comm 1 j,List.getElem?_cons_succ,List.getElem?_append_left (List.getElem?_eq_some_iff.1 hv).1];simpa using hv)
     rw[<-this];congr 2;omega
    have aC:(k:Int)<(rs.length:Int):=(by omega);have aD:¬ ((k:Int)<0):=(by omega);obtain⟨N,HN⟩:=nm_ rs.length;rw[HN.out] at aC ao;rw[ad.out] at D;unfold z89 at D;unfold sV at K I J ⊢;clear a7 ac hW av aw ae hn hy am aB au hI ay;go_enter func45,ntmps45;go_wp2_with (first
     | (go_at_call 53;rw[D.out,HR.out];refine K.mono ?_;rintro e w1 ⟨rfl,hb⟩;have O:=I w1 hb;have B1:=hid hb;clear hb I)
     | (go_at_call 54;refine O.mono ?_;rintro e w2 ⟨⟨b,off,c,rfl,aA⟩,hb⟩;have M:=B1.out.trans (hb.mono B1.out.size);have a8:=J w2 M;obtain⟨q1,Y,q3⟩:=HK.out w2 M;obtain⟨q4,q5⟩:=HE.out w2 R q1 Y;obtain⟨bb,aH,cc,aF,q6⟩:=ao.out w2 M;have Q2:=hid Y;have Q3:=hid q3;have Q4:=hid q4;have Q5:=hid q5;have Q6:=hid q6;clear hb M q1 Y q3 q4 q5 q6 J)
     | (go_at_call 55;refine a8.mono ?_;rintro e w' ⟨rfl,rfl⟩)
     | (refine wpList_load_mid rfl 91 (.tmp 43) rfl _ _ rfl R.toList _ Q6.out underlying91 rfl (by simpa using ak) ?_;simp only[Array.toArray_toList];go_frame)
     | (refine wpList_store_row rfl 91 (.tmp 4) (.tmp 44) rfl r R rfl rfl 91 _ Q2.out ak (by rw[<-a6.out.z,<-HZ.out.e]) a6.out.o ?_;go_frame))
    exact bodyPost_ret (qu results45 _ _ r R.toList _ _ rfl rfl (zw (by simpa using Q4.out)) underlying91 rfl (by simpa using ak)) rfl ⟨by simp,Q5.out⟩
def tgD (rs:List Rx) (x:Str):Except Int Str:=if isN x then (match Rk.fd rs x with
 | none=>.error 61
 | some k=>if k.2=[] then .error 61 else .ok k.2) else .error 60
theorem M9 {G Q:Nat} {v1 v2:Value} {rs:List Rx} {ls:List Ex} (x:Str) (w:World) (h:Dq G w Q v1 v2 rs ls) :
  Calls prog 70 #[.pointer (some ⟨Q,0,none⟩),sV x] w fun e w'=>e=.returned (.tuple #[sV (oS (tgD rs x)),.int .i64 (oN (tgD rs x))])/\Below w.heap.size w w':=by
 have A:=uq x w;have HD:=fun W hb=>h.below (W:=W) hb;have j:=fun w1 hb=>YK x w1 (HD w1 hb);have a7:=hid HD;have a8:=hid h.ok1;clear h HD;cases hi:isN x with
 | false =>
  have V:Hid (tgD rs x=.error 60):=hid (by unfold tgD;rw[hi];rfl);rw[V.out];simp only[oS,oN];rw[hi] at A;unfold sV at A ⊢;clear j;go_enter func70,ntmps70;go_wp2_with (go_at_call 53;refine A.mono ?_;rintro e w1 ⟨rfl,hb⟩;have O:=hid hb;clear hb)
  exact bodyPost_ret (results_tmp2 results70 _ _ _) rfl ⟨rfl,O.out⟩
 | true =>
  rw[hi] at A;cases Y:fI rs x with
  | none =>
   have V:Hid (tgD rs x=.error 61):=hid (by unfold tgD;rw[hi,(jY rs x).2 Y];rfl);rw[V.out];simp only[oS,oN];rw[Y] at j;simp only[iV] at j;unfold sV at A j ⊢;clear Y;go_enter func70,ntmps70;go_wp2_with (first
    | (go_at_call 53;refine A.mono ?_;rintro e w1 ⟨rfl,hb⟩;have D:=j w1 hb;have O:=hid hb;clear hb j)
    | (go_at_call 55;refine D.mono ?_;rintro e w' ⟨rfl,rfl⟩))
   exact bodyPost_ret (results_tmp2 results70 _ _ _) rfl ⟨rfl,O.out⟩
  | some k =>
   obtain⟨K,a6,L⟩:=(jY rs x).1 k Y;have M:=a8.out _ (zQ rs k dR K);obtain⟨tg,J⟩:∃ t,(rs.getD k dR).2.2=t:=⟨_,rfl⟩;have I:Hid (∀ w1,Below w.heap.size w w1->∃ b off c,w1.cell? ⟨Q,0,none⟩=some (.slice (some ⟨b,off,none⟩) rs.length c)/\w1.cell? ⟨b,off+k*22+21,none⟩=some (sV tg)):=fun w1 hb=>by
    obtain⟨a,c,-,hP,-,Z⟩:=(a7.out w1 hb).px1;obtain⟨b,off,e1,_,e3⟩:=hP.at_ (by omega);subst e1;refine⟨b,off,c,Z,?_⟩;exact e3 k K 21 (sV tg) (by
     unfold yx;rw[List.getElem?_cons_succ,List.getElem?_append_right (by rw[zv,M.2.1.1];exact Wz8 _),zv,M.2.1.1,J];rfl)
   have ad:(k:Int)<(rs.length:Int):=(by omega);have ae:¬ ((k:Int)<0):=(by omega);obtain⟨N,HN⟩:=nm_ rs.length;rw[HN.out] at ad I;rw[Y] at j;simp only[iV] at j;by_cases h0:tg=[]
   ·have V:Hid (tgD rs x=.error 61):=hid (by unfold tgD;rw[hi,L];simp only[J,h0,if_true]);rw[V.out];simp only[oS,oN];subst h0;unfold sV at A j I ⊢;clear K a6 L M Y J;go_enter func70,ntmps70;go_wp2_with (first
     | (go_at_call 53;refine A.mono ?_;rintro e w1 ⟨rfl,hb⟩;have D:=j w1 hb;obtain⟨b,off,c,Z,ac⟩:=I.out w1 hb;have O:=hid hb;clear hb j)
     | (go_at_call 55;refine D.mono ?_;rintro e w' ⟨rfl,rfl⟩))
    exact bodyPost_ret (results_tmp2 results70 _ _ _) rfl ⟨rfl,O.out⟩
   have V:Hid (tgD rs x=.ok tg):=hid (by unfold tgD;rw[hi,L];simp only[J,h0,if_false,if_true]);have ag:(tg == [])=false:=(by simpa using h0);rw[V.out];simp only[oS,oN];unfold sV at A j I ⊢;clear K a6 L M Y J;go_enter func70,ntmps70;go_wp2_with (first
    | (go_at_call 53;refine A.mono ?_;rintro e w1 ⟨rfl,hb⟩;have D:=j w1 hb;obtain⟨b,off,c,Z,ac⟩:=I.out w1 hb;have O:=hid hb;clear hb j)
    | (go_at_call 55;refine D.mono ?_;rintro e w' ⟨rfl,rfl⟩))
   exact bodyPost_ret (results_tmp2 results70 _ _ _) rfl ⟨rfl,O.out⟩
theorem results59:f59.results=#[]:=by kernel_rfl
theorem results64:f64.results=#[.tmp 4,.tmp 5]:=by kernel_rfl
theorem results26:f26.results=#[.tmp 6]:=by kernel_rfl
def WK (G Q:Nat) (v1:Value) (rs:List Rx) (ls':List Ex) (w:World) (e:Ending) (w':World):Prop:=(∃ v,Dq G w' Q v1 v rs ls')/\Al (fun i=>i=Q) w w'
theorem zzZ {G Q:Nat} {v1 v2:Value} {rs:List Rx} {ls:List Ex} (w:World) (h:Dq G w Q v1 v2 rs ls) (hG:G<=w.heap.size) :
  Calls prog 59 #[.pointer (some ⟨Q,0,none⟩)] w fun e w'=>e=.returned (.tuple #[])/\WK G Q v1 rs (Rk.prn rs ls) w e w':=by
 obtain⟨r,HR⟩:=nm_ w.heap.size;have aw:Q<r:=by rw[<-HR.out];exact z7 h.box
 obtain⟨a,c,e2,hP,aC,aj⟩:=h.px2;subst e2;obtain⟨N,J⟩:=nm_ ls.length;have aE:N<=1000000:=by rw[<-J.out];exact h.few.2
 have L:Hid (∀ W,Below r w W->Dq G W Q v1 (.slice a ls.length c) rs ls/\Px yj 46 dE W a c ls/\W.cell? ⟨Q,1,none⟩=some (.slice a N c)):=fun W hW=>⟨h.below (by rw[HR.out];exact hW),hP.below (by rw[HR.out];exact hW),by rw[<-J.out];exact(hW.cell (p:=⟨Q,1,none⟩) aw).trans aj⟩
 have ao:Hid (Bx yj 46 144 w w r (.slice none 0 0) []):=hid (uk 144 w r (by rw[HR.out];exact Wz8 _));have ac:=hid h.ok2;have HH:=hid h;have ar:Hid (G<=r):=hid (by rw[<-HR.out];exact hG)
 have a8:Hid (∀ (W:World) (v:Value) (l:List Ex),Bx yj 46 144 w W r v l->l=(Rk.prn rs ls)->(∀ x ∈ l,X7 x)->l.length<=1000000->W.frozen? ⟨Q,1,none⟩=false/\WK G Q v1 rs (Rk.prn rs ls) w (.returned (.tuple #[])) (W.setCell ⟨Q,1,none⟩ v)):=fun W v l hB hl aA hlen=>by
  obtain⟨q1,q2,q3⟩:=L.out W hB.below;have ht:Tf 39 W (W.setCell ⟨Q,1,none⟩ v):=Tf.set (p:=⟨Q,1,none⟩) q1.box v;have hr:=ar.out;have:=qv (zK hB.own ht (by decide)) (B':=G) hr;subst hl
  exact⟨by simp[World.frozen?,q1.box],⟨v,by rw[zV q1.box];rfl,zK q1.r1 ht (by decide),this,q1.ok1,aA,q1.few.1,hlen⟩,(Al.below (by rw[HR.out];exact hB.below)).trans (Al.of_set (S:=fun i=>i=Q) (p:=⟨Q,1,none⟩) rfl _) (fun i h=>.inl h)⟩
 have ay:=fun x W (hW:Below r w W)=>YK x W (L.out W hW).1;clear h hP aC aj hG;go_enter func59,ntmps59;go_wp2;go_loopg [2,3] N (fun q ov iv wr=>∃ (i:Nat) (u:Value) (out:List Ex),iv=.int .i64 i/\u=ov/\q=N-i/\i<=N/\out.length<=i/\Hid (Bx yj 46 144 w wr r u out)/\Hid (out=Rk.prn rs (ls.take i)))
 case atStart=>exact⟨0,_,[],rfl,rfl,rfl,Nat.zero_le _,by simp,ao,hid (by simp[Rk.prn])⟩
 obtain⟨i,u,out,rfl,hu,hq,aF,aH,Y,HO⟩:=hrel;subst hu;obtain⟨k1,k2,k3⟩:=L.out wr Y.out.below;obtain⟨ua,uc,am⟩:=zu Y.out.own;obtain⟨un,O⟩:∃ n,out.length=n:=⟨_,rfl⟩;rw[O] at am;subst am;by_cases D:i<N;rotate_left
 ·have ak:¬ (i:Int)<(N:Int):=by omega
  obtain rfl:i=N:=by omega
  have M:out=Rk.prn rs ls:=by rw[HO.out,Wq0 (by rw[J.out];exact Wz8 _)]
  obtain⟨f1,f3⟩:=a8.out wr _ out Y.out M (fun x hx=>ac.out x (by rw[M] at hx;exact(List.mem_filter.1 hx).1)) (by omega);have F3:=hid f3;clear f3 M k1 k2 O;go_wp2;exact bodyPost_end (results_none results59 _ _ _) rfl ⟨rfl,F3.out⟩
 have ak:(i:Int)<(N:Int):=by omega
 obtain⟨b,off,ax,_,_⟩:=k2.at_ (by rw[J.out];omega);subst ax;obtain⟨y,hy⟩:∃ y,(ls.getD i dE).1=y:=⟨_,rfl⟩;obtain⟨I,A⟩:∃ I,yj (ls.getD i dE)=I:=⟨_,rfl⟩;have K:Hid (X7 (ls.getD i dE)):=hid (ac.out _ (zQ ls i dE (by rw[J.out];exact D)));have au:Hid ((prog.info? 144).map (·.size)=some I.length):=hid (by rw[<-A,yX K.out];kernel_rfl)
 have a7:Hid (∀ W:World,(Instr.buildSlice 37 1 #[(0,.agg I.toArray)]).run prog W=.ok (.slice (some ⟨W.heap.size,0,none⟩) 1 1) (W.alloc (.cells I.toArray 144))):=fun W=>by rw[<-A];exact Yj _ K.out W
 have ad:Hid (∀ W:World,Px yj 46 dE (W.alloc (.cells I.toArray 144)) (some ⟨W.heap.size,0,none⟩) 1 [ls.getD i dE]):=fun W=>by
  have:=x5 (enc:=yj) (d:=dE) W (ls.getD i dE) 144;rw[yX K.out,A] at this;exact this
 have ae:Hid (wr.rangeAt b (off+i*46) I):=hid (by
  obtain⟨_,_,e1,_,e3⟩:=k2.at_ (by rw[J.out];omega);cases e1
  rw[<-A];exact e3 i (by rw[J.out];exact D))
 have k7:wr.cell? ⟨b,off+i*46,none⟩=some (sV y):=ae.out 0 (sV y) (by rw[<-A,<-hy];rfl);have aD:Hid (ls.drop i=ls.getD i dE :: ls.drop (i+1)):=hid (by
  rw[WqJ (by rw[J.out];exact D),List.getD_eq_getElem?_getD,List.getElem?_eq_getElem (by rw[J.out];exact D)];rfl)
 have ag:Hid (ls.take (i+1)=ls.take i++[ls.getD i dE]):=hid (qk dE ls i (by rw[J.out];exact D));have ah:Hid ((ls.getD i dE).1=y):=hid hy;have av:Hid (out.length + [ls.getD i dE].length<=1000000000):=hid (by simp;omega);have a6:Hid (Bx yj 46 144 w (wr.alloc (.cells I.toArray 144)) r (.slice ua un uc) out):=hid (Y.out.alloc _);unfold sV at k7
 clear hy A k2 O;have j:=ay y wr Y.out.below;cases Z:fI rs y with
 | none =>
  rw[Z] at j;simp only[iV] at j;have HF:=hid ((jY rs y).2 Z);unfold sV at j;clear Z;go_wp2_with (go_at_call 55;refine j.mono ?_;rintro e w' ⟨rfl,hw⟩;have V:=hw.symm;subst V;clear hw j)
  go_roundg (N-(i+1));case measure=>omega
  case rel=>exact⟨i+1,_,out,by go_num,rfl,rfl,by omega,by omega,Y,hid (by
   rw[ag.out,HO.out];unfold Rk.prn;rw[WxX];simp only[WxJ,WxK,ah.out,HF.out];simp)⟩
 | some k =>
  rw[Z] at j;simp only[iV] at j;have HF:=hid ((jY rs y).1 k Z).2.2;have aG:(0:Int)<=(k:Int):=by omega
  unfold sV at j;clear Z;go_wp2_with (first
   | (go_at_call 55;refine j.mono ?_;rintro e w' ⟨rfl,hw⟩;have V:=hw.symm;subst V;clear hw j)
   | (refine wpList_load_mid rfl 144 (.tmp 32) rfl _ _ rfl I _ ae.out underlying144 rfl au.out ?_;go_frame)
   | (refine z8 rfl _ (qJ 37 (.tmp 33) rfl (.agg I.toArray) _ rfl (a7.out _)) ?_;go_frame)
   | (at_builtin;refine zy (enc:=yj) (k:=46) (d:=dE) rfl _ _ 37 144 Vj jQ SY (by decide) (by decide) jz rfl r (.slice ua un uc) out rfl a6.out (some ⟨wr.heap.size,0,none⟩) 1 [ls.getD i dE] rfl (ad.out wr) (fun z hz=>by rw[Wqk.1 hz];exact yX K.out) av.out ?_;intro v3 w3 ai az aB;have ap:=hid ai;clear ai az aB))
  go_roundg (N-(i+1));case measure=>omega
  case rel=>exact⟨i+1,_,out++[ls.getD i dE],by go_num,rfl,rfl,by omega,by simp;omega,ap,hid (by
   rw[ag.out,HO.out];unfold Rk.prn;rw[WxX];simp only[WxJ,WxK,ah.out,HF.out];simp)⟩
def lgD (rs:List Rx) (ls:List Ex) (x:Str):Except Int (List Ex):=if isN x then (if (Rk.fd rs x).isSome then .ok (ls.filter fun e=>decide (e.1=x)) else .error 61) else .error 60
def oX (o:Except Int (List Ex)):List Ex:=match o with
 | .ok l=>l
 | .error _=>[]
def Aw (o:Except Int (List Ex)) (w:World) (e:Ending) (w':World):Prop := ∃ v,e=.returned (.tuple #[v,.int .i64 (oN o)])/\w'.ownsRow w.heap.size 144 46 v (oX o).length ((oX o).flatMap yj)/\Below w.heap.size w w'
theorem Mz {G Q:Nat} {v1 v2:Value} {rs:List Rx} {ls:List Ex} (x:Str) (w:World) (h:Dq G w Q v1 v2 rs ls) :
  Calls prog 64 #[.pointer (some ⟨Q,0,none⟩),sV x] w (Aw (lgD rs ls x) w):=by
 have A:=uq x w;obtain⟨r,HR⟩:=nm_ w.heap.size;have aw:Q<r:=by rw[<-HR.out];exact z7 h.box
 obtain⟨a,c,e2,hP,aA,ai⟩:=h.px2;subst e2;obtain⟨N,L⟩:=nm_ ls.length;have aD:N<=1000000:=by rw[<-L.out];exact h.few.2
 have ad:Hid (∀ W,Below r w W->Dq G W Q v1 (.slice a ls.length c) rs ls/\Px yj 46 dE W a c ls/\W.cell? ⟨Q,1,none⟩=some (.slice a N c)):=fun W O=>⟨h.below (by rw[HR.out];exact O),hP.below (by rw[HR.out];exact O),by rw[<-L.out];exact(O.cell (p:=⟨Q,1,none⟩) aw).trans ai⟩
 have am:Hid (∀ W,Below r w W->Bx yj 46 144 w W r (.slice none 0 0) []):=fun W O=>(uk 144 w r (by rw[HR.out];exact Wz8 _)).carry (by rw[HR.out];exact O);have au:=hid h.ok2;have HH:=hid h;have j:=fun W (O:Below r w W)=>YK x W (ad.out W O).1
 have V:Hid (∀ W k,Below r w W->Aw (.error k) w (.returned (.tuple #[.slice none 0 0,.int .i64 k])) W):=fun W k O=>⟨_,rfl,⟨by simp[oX],.inl ⟨rfl,rfl⟩⟩,by rw[HR.out];exact O⟩;rw[HR.out] at A;clear h hP aA ai;cases hi:isN x with
 | false =>
  have HF:Hid (lgD rs ls x=.error 60):=hid (by unfold lgD;rw[hi];rfl);rw[HF.out];rw[hi] at A;unfold sV at A ⊢;clear j;go_enter func64,ntmps64;go_wp2_with (go_at_call 53;refine A.mono ?_;rintro e w1 ⟨rfl,hb⟩;have B1:=hid hb;clear hb)
  exact bodyPost_ret (results_tmp2 results64 _ _ _) rfl (V.out _ _ B1.out)
 | true =>
  rw[hi] at A;cases hI:fI rs x with
  | none =>
   have HF:Hid (lgD rs ls x=.error 61):=hid (by unfold lgD;rw[hi,(jY rs x).2 hI];rfl);rw[HF.out];rw[hI] at j;simp only[iV] at j;unfold sV at A j ⊢;clear hI;go_enter func64,ntmps64;go_wp2_with (first
    | (go_at_call 53;refine A.mono ?_;rintro e w1 ⟨rfl,hb⟩;have D:=j w1 hb;have B1:=hid hb;clear hb j)
    | (go_at_call 55;refine D.mono ?_;rintro e w' ⟨rfl,rfl⟩))
   exact bodyPost_ret (results_tmp2 results64 _ _ _) rfl (V.out _ _ B1.out)
  | some k0 =>
   have HF:Hid (lgD rs ls x=.ok (ls.filter fun e=>decide (e.1=x))):=hid (by unfold lgD;rw[hi,((jY rs x).1 k0 hI).2.2];rfl);rw[HF.out];rw[hI] at j;simp only[iV] at j;have aE:¬ ((k0:Int)<0):=(by omega);unfold sV at A j ⊢;clear hI;go_enter func64,ntmps64;go_wp2_with (first
    | (go_at_call 53;refine A.mono ?_;rintro e w1 ⟨rfl,hb⟩;have D:=j w1 hb;have B1:=hid hb;clear hb j)
    | (go_at_call 55;refine D.mono ?_;rintro e w' ⟨rfl,hw⟩;have aB:=hw.symm;subst aB;clear hw D))
   go_loopg [8,9] N (fun q ov iv wr=>∃ (i:Nat) (u:Value) (out:List Ex),iv=.int .i64 i/\u=ov/\q=N-i/\i<=N/\out.length<=i/\Hid (Bx yj 46 144 w wr r u out)/\Hid (out=(ls.take i).filter fun e=>decide (e.1=x)));case atStart=>exact⟨0,_,[],rfl,rfl,rfl,Nat.zero_le _,by simp,hid (am.out _ B1.out),hid (by simp)⟩
   obtain⟨i,u,out,rfl,hu,hq,A,aG,HB,HO⟩:=hrel;subst hu;obtain⟨k1,k2,k3⟩:=ad.out wr HB.out.below;obtain⟨ua,uc,ak⟩:=zu HB.out.own;obtain⟨un,Y⟩:∃ n,out.length=n:=⟨_,rfl⟩;rw[Y] at ak;subst ak;by_cases J:i<N;rotate_left
   ·have aj:¬ (i:Int)<(N:Int):=(by omega);obtain rfl:i=N:=(by omega);have HE:Hid (out=ls.filter fun e=>decide (e.1=x)):=hid (by rw[HO.out,Wq0 (by rw[L.out];exact Wz8 _)]);have av:Hid (Aw (.ok (ls.filter fun e=>decide (e.1=x))) w (.returned (.tuple #[.slice ua un uc,.int .i64 0])) wr):=hid ⟨_,rfl,by
     rw[<-HE.out,HR.out];exact HB.out.own,by rw[HR.out];exact HB.out.below⟩
    clear k1 k2 Y;go_wp2;exact bodyPost_ret (results_tmp2 results64 _ _ _) rfl av.out
   have aj:(i:Int)<(N:Int):=(by omega);obtain⟨b,off,ax,_,_⟩:=k2.at_ (by rw[L.out];omega);subst ax;obtain⟨y,hy⟩:∃ y,(ls.getD i dE).1=y:=⟨_,rfl⟩;obtain⟨K,I⟩:∃ K,yj (ls.getD i dE)=K:=⟨_,rfl⟩;have M:Hid (X7 (ls.getD i dE)):=hid (au.out _ (zQ ls i dE (by rw[L.out];exact J)))
   have ap:Hid ((prog.info? 144).map (·.size)=some K.length):=hid (by rw[<-I,yX M.out];kernel_rfl);have a7:Hid (∀ W:World,(Instr.buildSlice 37 1 #[(0,.agg K.toArray)]).run prog W=.ok (.slice (some ⟨W.heap.size,0,none⟩) 1 1) (W.alloc (.cells K.toArray 144))):=fun W=>by rw[<-I];exact Yj _ M.out W
   have a8:Hid (∀ W:World,Px yj 46 dE (W.alloc (.cells K.toArray 144)) (some ⟨W.heap.size,0,none⟩) 1 [ls.getD i dE]):=fun W=>by
    have:=x5 (enc:=yj) (d:=dE) W (ls.getD i dE) 144;rw[yX M.out,I] at this;exact this
   have ac:Hid (wr.rangeAt b (off+i*46) K):=hid (by
    obtain⟨_,_,e1,_,e3⟩:=k2.at_ (by rw[L.out];omega);cases e1
    rw[<-I];exact e3 i (by rw[L.out];exact J))
   have k7:wr.cell? ⟨b,off+i*46,none⟩=some (sV y):=ac.out 0 (sV y) (by rw[<-I,<-hy];rfl);have aC:Hid (ls.drop i=ls.getD i dE :: ls.drop (i+1)):=hid (by
    rw[WqJ (by rw[L.out];exact J),List.getD_eq_getElem?_getD,List.getElem?_eq_getElem (by rw[L.out];exact J)];rfl)
   have ae:Hid (ls.take (i+1)=ls.take i++[ls.getD i dE]):=hid (qk dE ls i (by rw[L.out];exact J));have ag:Hid ((ls.getD i dE).1=y):=hid hy;have ar:Hid (out.length + [ls.getD i dE].length<=1000000000):=hid (by simp;omega);have a6:Hid (Bx yj 46 144 w (wr.alloc (.cells K.toArray 144)) r (.slice ua un uc) out):=hid (HB.out.alloc _);unfold sV at k7
   clear hy I k2 Y;by_cases Z:y=x
   ·subst Z;go_wp2_with (first
     | (refine wpList_load_mid rfl 144 (.tmp 44) rfl _ _ rfl K _ ac.out underlying144 rfl ap.out ?_;go_frame)
     | (refine z8 rfl _ (qJ 37 (.tmp 45) rfl (.agg K.toArray) _ rfl (a7.out _)) ?_;go_frame)
     | (at_builtin;refine zy (enc:=yj) (k:=46) (d:=dE) rfl _ _ 37 144 Vj jQ SY (by decide) (by decide) jz rfl r (.slice ua un uc) out rfl a6.out (some ⟨wr.heap.size,0,none⟩) 1 [ls.getD i dE] rfl (a8.out wr) (fun z hz=>by rw[Wqk.1 hz];exact yX M.out) ar.out ?_;intro v3 w3 ah ay az;have ao:=hid ah;clear ah ay az))
    go_roundg (N-(i+1));case measure=>omega
    case rel=>exact⟨i+1,_,out++[ls.getD i dE],by go_num,rfl,rfl,by omega,by simp;omega,ao,hid (by
     rw[ae.out,HO.out,WxX];simp only[WxJ,WxK,ag.out];simp)⟩
   have aF:(y == x)=false:=(by simpa using Z);go_wp2;go_roundg (N-(i+1));case measure=>omega
   case rel=>exact⟨i+1,_,out,by go_num,rfl,rfl,by omega,by omega,HB,hid (by
    rw[ae.out,HO.out,WxX];simp only[WxJ,WxK,ag.out];simp[Z])⟩
theorem results23:f23.results=#[.tmp 6]:=by kernel_rfl
theorem bd88t (A B:ByteArray) (w:World):(Instr.build 93 #[(0,.string A),(2,.string B)]).run prog w=.ok (.agg (.string A :: (row .u8 zZ++[.string B])).toArray) w:=by kernel_rfl
theorem zux:IdW zZ:=⟨rfl,fun n h=>by rw[List.eq_of_mem_replicate h];exact⟨by decide,by decide⟩⟩
def LkP (rs:List Rx) (x t:Str) (k:Int) (rs':List Rx):Prop:=(¬ (isN x=true/\isN t=true)/\k=60/\rs'=rs) ∨ ((isN x=true/\isN t=true)/\((x=t/\k=64/\rs'=rs) ∨ (x ≠ t/\((Rk.clD ((Rk.setL geS x (some (zZ,t)) rs false).map (·.1))/\k=63/\rs'=rs) ∨ (¬ Rk.clD ((Rk.setL geS x (some (zZ,t)) rs false).map (·.1))/\k=0/\rs'=Rk.setL geS x (some (zZ,t)) rs false)))))
def RY (G Q:Nat) (v2:Value) (rs:List Rx) (ls:List Ex) (x t:Str) (w:World) (e:Ending) (w':World):Prop := ∃ k rs',LkP rs x t k rs'/\e=.returned (.int .i64 k)/\(∃ v,Dq G w' Q v v2 rs' ls)/\Al (fun i=>i=Q) w w'
theorem zzQ {G Q:Nat} {v1 v2:Value} {rs:List Rx} {ls:List Ex} (x t:Str) (w:World) (h:Dq G w Q v1 v2 rs ls) (hG:G<=w.heap.size) (hn:rs.length+1<=100000) :
  Calls prog 23 #[.pointer (some ⟨Q,0,none⟩),sV x,sV t] w (RY G Q v2 rs ls x t w):=by
 obtain⟨r,HR⟩:=nm_ w.heap.size;have aF:Q<r:=by rw[<-HR.out];exact z7 h.box
 have j:=uq x w;have A:=fun W=>uq t W;have HD:Hid (∀ W,Below r w W->Dq G W Q v1 v2 rs ls):=fun W V=>h.below (by rw[HR.out];exact V);have D:Hid (∀ k W,LkP rs x t k rs->Below r w W->RY G Q v2 rs ls x t w (.returned (.int .i64 k)) W):=fun k W hl V=>⟨k,rs,hl,rfl,⟨_,HD.out W V⟩,Al.below (by rw[HR.out];exact V)⟩
 have aE:G<=r:=by rw[<-HR.out];exact hG
 rw[HR.out] at j;by_cases hx:isN x=true;rotate_left
 ·have aA:isN x=false:=by simpa using hx
  rw[aA] at j;have HL:Hid (LkP rs x t 60 rs):=hid (.inl ⟨fun hh=>hx hh.1,rfl,rfl⟩);have aD:Hid (∀ W,∃ b:Bool,Calls prog 53 #[sV t] W fun e w'=>e=.returned (.bool b)/\Below W.heap.size W w'):=fun W=>⟨_,A W⟩;obtain⟨bt,au⟩:∃ b,isN t=b:=⟨_,rfl⟩;rw[au] at A;unfold sV at j A ⊢;clear h;go_enter func23,ntmps23;go_wp2_with (first
   | (go_at_call 53;refine j.mono ?_;rintro e w1 ⟨rfl,hb⟩;have K:=hid hb;clear hb j)
   | (go_at_call 53;refine(A _).mono ?_;rintro e w2 ⟨rfl,hb⟩;have Z:Hid (Below r w w2):=hid (K.out.trans (hb.mono (by have:=K.out.size;have:=HR.out;omega)));clear hb A))
  exact bodyPost_ret (results_tmp results23 _ _ _) rfl (D.out _ _ HL.out Z.out)
 by_cases ht:isN t=true;rotate_left
 ·have az:isN t=false:=by simpa using ht
  rw[hx] at j;rw[az] at A;have HL:Hid (LkP rs x t 60 rs):=hid (.inl ⟨fun hh=>ht hh.2,rfl,rfl⟩);unfold sV at j A ⊢;clear h;go_enter func23,ntmps23;go_wp2_with (first
   | (go_at_call 53;refine j.mono ?_;rintro e w1 ⟨rfl,hb⟩;have K:=hid hb;clear hb j)
   | (go_at_call 53;refine(A _).mono ?_;rintro e w2 ⟨rfl,hb⟩;have Z:Hid (Below r w w2):=hid (K.out.trans (hb.mono (by have:=K.out.size;have:=HR.out;omega)));clear hb A))
  exact bodyPost_ret (results_tmp results23 _ _ _) rfl (D.out _ _ HL.out Z.out)
 rw[hx] at j;rw[ht] at A;by_cases Y:x=t
 ·subst Y;have HL:Hid (LkP rs x x 64 rs):=hid (.inr ⟨⟨hx,hx⟩,.inl ⟨rfl,rfl,rfl⟩⟩);unfold sV at j A ⊢;clear h;go_enter func23,ntmps23;go_wp2_with (first
   | (go_at_call 53;refine j.mono ?_;rintro e w1 ⟨rfl,hb⟩;have K:=hid hb;clear hb j)
   | (go_at_call 53;refine(A _).mono ?_;rintro e w2 ⟨rfl,hb⟩;have Z:Hid (Below r w w2):=hid (K.out.trans (hb.mono (by have:=K.out.size;have:=HR.out;omega)));clear hb A))
  exact bodyPost_ret (results_tmp results23 _ _ _) rfl (D.out _ _ HL.out Z.out)
 have ax:(x == t)=false:=by simpa using Y
 obtain⟨X,HX⟩:=nm_ (⟨x.toArray⟩:ByteArray);obtain⟨T,HT⟩:=nm_ (⟨t.toArray⟩:ByteArray);have aB:jW (x,(zZ,t)):=⟨qX hx,zux,qX ht⟩;obtain⟨E,hE⟩:∃ E,yx (x,(zZ,t))=E:=⟨_,rfl⟩;have aj:Hid (∀ W:World,(Instr.build 93 #[(0,.string X),(2,.string T)]).run prog W=.ok (.agg E.toArray) W):=fun W=>by rw[<-hE,<-HX.out,<-HT.out];exact bd88t _ _ W
 have ak:=hid (fun W (V:Below r w W)=>U2 W (HD.out W V))
 have am:Hid (∀ W e W2,Below r w W->Rw rs ls W e W2->∃ C,e=.returned (.pointer (some ⟨C,0,none⟩))/\Below r w W2/\Calls prog 56 #[.pointer (some ⟨C,0,none⟩),.agg E.toArray,.bool false] W2 fun e3 L=>e3=.returned (.tuple #[])/\Below r w L/\Calls prog 57 #[.pointer (some ⟨C,0,none⟩)] L fun e4 W4=>∃ b:Bool,e4=.returned (.bool b)/\W4=L/\(b=true->RY G Q v2 rs ls x t w (.returned (.int .i64 63)) L)/\(b=false->∃ va n vc u0,L.cell? ⟨C,0,none⟩=some (.slice va n vc)/\L.cell? ⟨Q,0,none⟩=some u0/\L.frozen? ⟨Q,0,none⟩=false/\RY G Q v2 rs ls x t w (.returned (.int .i64 0)) (L.setCell ⟨Q,0,none⟩ (.slice va n vc)))):=fun W e W2 V hp=>by
  obtain⟨C,u1,u2,rfl,hC,hD,hb⟩:=hp;have ao:r<=W.heap.size:=by have:=V.size;have:=HR.out;omega
  have I:Below r w W2:=V.trans (hb.mono ao);refine⟨C,rfl,I,?_⟩;rw[<-hE];refine(FX (x,(zZ,t)) aB false W2 hD hb.size hn).mono ?_;rintro e3 L ⟨rfl,⟨v,M⟩,O⟩;have J:Below r w L:=⟨O.os.trans I.os,O.tape.trans I.tape,O.output.trans I.output,Nat.le_trans I.size O.size,fun i hi=>(O.blk i (by have:=hb.size;omega) (by omega)).trans (I.block i hi)⟩
  refine⟨rfl,J,(Ny L M).mono ?_⟩;rintro e4 W4 ⟨b,rfl,ac,rfl⟩;refine⟨b,rfl,rfl,fun ap=>?_,fun a8=>?_⟩
  ·exact D.out 63 _ (.inr ⟨⟨hx,ht⟩,.inr ⟨Y,.inl ⟨ac.1 ap,rfl,rfl⟩⟩⟩) J
  obtain⟨va,vc,hv,_,_,hc⟩:=M.px1;have hq:=HD.out _ J;obtain⟨qa,qc,aG,_,_,ay⟩:=hq.px1;subst hv
  refine⟨va,_,vc,_,hc,ay,by simp[World.frozen?,hq.box],0,_,.inr ⟨⟨hx,ht⟩,.inr ⟨Y,.inr ⟨fun av=>(by rw[ac.2 av] at a8;cases a8),rfl,rfl⟩⟩⟩,rfl,⟨.slice va (Rk.setL geS x (some (zZ,t)) rs false).length vc,?_⟩,(Al.below (S:=fun i=>i=Q) (show Below w.heap.size w W4 by rw[HR.out];exact J)).trans (Al.of_set (S:=fun i=>i=Q) (p:=⟨Q,0,none⟩) rfl _) (fun i h=>.inl h)⟩
  have ad:∀ u,Tf 39 W4 (W4.setCell ⟨Q,0,none⟩ u):=fun u=>Tf.set (p:=⟨Q,0,none⟩) hq.box u;exact⟨by rw[zV hq.box];rfl,qv (zK M.r1 (ad _) (by decide)) (by omega),zK hq.r2 (ad _) (by decide),M.ok1,hq.ok2,M.few.1,hq.few.2⟩
 unfold sV at j A ⊢;rw[HX.out] at j;rw[HT.out] at A;rw[HX.out,HT.out];have aw:(X.toList == T.toList)=false:=by rw[<-HX.out,<-HT.out,Lib.toList_data,Lib.toList_data];exact ax
 have aC:(X == T)=false:=by rw[beq_toListBytes];exact aw
 clear h hE;go_enter func23,ntmps23;go_wp2_with (first
  | (go_at_call 53;refine j.mono ?_;rintro e w1 ⟨rfl,hb⟩;have K:=hid hb;clear hb j)
  | (go_at_call 53;refine(A _).mono ?_;rintro e w2 ⟨rfl,hb⟩;have Z:Hid (Below r w w2):=hid (K.out.trans (hb.mono (by have:=K.out.size;have:=HR.out;omega)));clear hb A)
  | (go_at_call 17;refine(ak.out _ Z.out).mono ?_;rintro e w3 hp;obtain⟨C,he,J,a6⟩:=am.out _ _ _ Z.out hp;subst he;have ah:=hid a6;clear hp J a6)
  | (refine z8 rfl (.agg E.toArray) (vz 93 0 2 (.tmp 27) (.tmp 28) rfl (.string X) (.string T) _ rfl rfl (aj.out _)) ?_;go_frame)
  | (go_at_call 56;refine ah.out.mono ?_;rintro e w4 ⟨rfl,ar,a7⟩;have ai:=hid a7;clear ar a7)
  | (go_at_call 57;refine ai.out.mono ?_;rintro e w5 ⟨b,rfl,ae,p1,p2⟩;have ag:=ae.symm;subst ag;have P1:=hid p1;have P2:=hid p2;clear ae p1 p2;refine Hid.out ?_))
 refine hid ?_;cases b with
 | true =>
  go_wp2;exact bodyPost_ret (results_tmp results23 _ _ _) rfl (P1.out (by simp))
 | false =>
  obtain⟨va,n,vc,u0,q1,q2,q3,q4⟩:=P2.out (by simp);have Q4:=hid q4;clear q4;go_wp2;exact bodyPost_ret (results_tmp results23 _ _ _) rfl Q4.out
end Go.Proofs.YtdnphaganajejaaGreatDoor.K
