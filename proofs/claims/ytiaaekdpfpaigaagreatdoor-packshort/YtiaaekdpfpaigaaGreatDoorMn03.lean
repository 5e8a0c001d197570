import Derived.Deep.MidRow
import Derived.Test.YtiaaekdpfpaigaaGreatDoorMn02
import Derived.Test.YtiaaekdpfpaigaaGreatDoorMn01
set_option linter.unusedVariables false
set_option maxRecDepth 20000
set_option maxHeartbeats 4000000
open List renaming count_append->Wqy,count_eq_zero_of_not_mem->Wqu,filter_cons->WqZ,foldl_cons->WqQ,getElem_mem->Wz5,mem_append->WqX,mem_singleton->WqJ,range->WqK,replicate->WqV,size_toArray->WqW,sum_append->WqY,take_of_length_le->Wzu
open Nat renaming le_refl->WzV,pow_le_pow_right->Wqk,zero_add->Wq7
open Option renaming some->Wq9
namespace Go.Proofs.YtiaaekdpfpaigaaGreatDoor.Df
open Go.Proofs.Tryz
open Go.RowKit Plain
theorem IW (E:Env) (B p d n:Nat) (v:Value) (out:List Int) (w:World) (h:St w E B p v out) (hm:E.most<=400000) (hd:d<=out.length) (hd1:1<=d) (hn2:n<=258) (hw:(d:Int)<=E.win) (hw2:E.win<=40000) (hr:(n:Int)<=E.most-out.length) :
  Calls prog 151 #[.pointer (some ⟨E.S,0,none⟩),.int .i64 n,.int .i64 d] w fun e w'=>e=.returned (.tuple #[])/\∃ v',St w' E B p v' (rep out d n)/\Kept E.S v v' w w':=by
 have hlen:=h.len hm;obtain⟨m,hmo⟩:∃ m,out.length=m:=⟨_,rfl⟩;obtain⟨⟨nx,hold,held,hst,hp,hh,hnx,HG⟩,hown,hisB,hB,hle⟩:=h;rw[hmo] at hown hr hle hd hlen;obtain⟨g,cp,rfl,-,-⟩:=hown.form (by omega);obtain⟨i5,hi,hz0,hz1,hz2⟩:=info_parts info5;have HH:Hid (Str w E nx hold held (.slice (some ⟨g,0,none⟩) m cp)):=hst;obtain⟨c0,c1,c2,c3,c4,c5,c6,fz,src,ibS,ibv,ibl,Sl,Sv⟩:=hst
 go_enter func151,ntmps151;go_wp2_with (go_at_call 149;refine(QK E nx hold held n m cp _ _ hm hlen (by omega) (by omega) HH.out hr).mono ?_;rintro e w1 ⟨rfl,q,rfl⟩)
 go_loopg [26] n (fun k i wr=>∃ (j g' cp':Nat) (out':List Int),j<=n/\i=.int .i64 j/\k=n-j/\out'.length=m+j/\IsB out'/\Hid (rep out' d (n-j)=rep out d n)/\Hid (Str wr E nx hold held (.slice (some ⟨g',0,none⟩) (m+j) cp'))/\
   wr.ownsRow B 5 1 (.slice (some ⟨g',0,none⟩) (m+j) cp') (m+j) (out'.map (Value.int .u8))/\B<=wr.heap.size/\Hid (Kept E.S (.slice (some ⟨g,0,none⟩) m cp) (.slice (some ⟨g',0,none⟩) (m+j) cp') w wr))
 case atStart=>exact⟨0,g,cp,out,by omega,rfl,by omega,by omega,hisB,rfl,HH.out.drewN _,hown,hB,(Kept.refl _ _ _).drewN _⟩
 clear c0 c1 c2 c3 c4 c5 c6 fz src ibS ibv ibl Sl Sv hown hB;obtain⟨j,g',cp',out',hj,rfl,hk,hl',hb',HRp,HS,hown,hB,HK⟩:=hrel;by_cases hjn:j<n;rotate_left
 ·obtain rfl:j=n:=by omega
  obtain⟨c0,c1,c2,c3,c4,c5,c6,fz,src,ibS,ibv,ibl,Sl,Sv⟩:=HS.out;go_wp2;go_end0;have e:out'=rep out d j:=by have:=HRp.out;rwa [Nat.sub_self] at this
  rw[<-e];exact⟨rfl,_,⟨⟨nx,hold,held,HS.out,hp,hh,hnx,HG⟩,by rw[hl'];exact hown,hb',hB,by omega⟩,HK.out⟩
 obtain⟨q,HQ⟩:=nn_ (m+j-d);have hq:=HQ.out;obtain⟨x,HX⟩:=nn_ (out'.getD q 0);have hcx:wr.cell? ⟨g',q,none⟩=some (.int .u8 x):=by rw[HX.out];exact zq9 hown hl' q (by omega)
 have hwr:IntKind.i64.wrap ((m:Int)+j-d)=(q:Int):=by rw[show (m:Int)+j-d=(q:Int) from by omega];exact Plain.wrap_small q (by omega)
 have hq1:(q:Int)<(m:Int)+j:=by omega
 clear hq;obtain⟨c0,c1,c2,c3,c4,c5,c6,fz,src,ibS,ibv,ibl,Sl,Sv⟩:=HS.out;have f4:=fz 4;clear c0 c1 c2 c3 c5 c6 src;go_wp2
 go_region_law ((refine step_append_lies _ (by rfl) _ _ _ (by rfl) B 5 i5 (.int .u8 0) 1 1 underlying22 hi hz0 hz1 hz2 rfl (by omega) (.slice (some ⟨g',0,none⟩) (m+j) cp') (m+j) (out'.map (Value.int .u8)) (by rfl) (by exact hown.alloc _) ⟨wr.heap.size,0,none⟩ 1 1 [.int .u8 x] (by rfl) (by rfl) (by intro j u hj;match j,hj with | 0,hj=>simp at hj;subst hj;simp[Addr.add]) (by intro u hu;simp at hu;subst hu;rfl) (by omega) (by unfold maxLen;omega) (by omega) (by simp;omega) (wr.heap.size+1) (by simp) ?_;intro g2 cp2 w3 hown1 hgrow hat hlt;obtain⟨d4,e4⟩:=HS.out.grow_cell (QV wr _ none) hgrow 4;rw[c4] at d4))
 all_goals
  have hkl:(out'++[x]).map (Value.int .u8)=out'.map (Value.int .u8)++[.int .u8 x]:=by simp
  obtain⟨hs2,hk2⟩:=HS.out.grow (QV wr _ none) hgrow (.slice (some ⟨g2,0,none⟩) (m+j+1) cp2) g2 rfl (by simpa using hat);have HS2:Hid (_/\Kept E.S _ _ wr _):=⟨hs2,hk2⟩;have HO:Hid (World.ownsRow _ B 5 1 _ _ _):=uq hown1 E.S 4 (.slice (some ⟨g2,0,none⟩) (m+j+1) cp2) hs2.Sv;rw[<-hkl] at HO;clear hs2 hk2 hown1 hgrow hat
  go_wp2;go_roundg (n-(j+1));case measure=>omega
  case rel =>
   refine⟨j+1,g2,cp2,out'++[x],by omega,by go_num,rfl,by simp;omega,?_,?_,HS2.out.1,HO.out,?_,HK.out.trans HS2.out.2⟩
   ·intro y hy;rcases WqX.1 hy with hy | hy
    ·exact hb' y hy
    simp only[WqJ] at hy;rw[hy,HX.out];simpa using hb'.get q
   ·show _=_;rw[<-HRp.out,show n-j=(n-(j+1))+1 from by omega,rep,hl',HX.out,HQ.out]
   have:=HS2.out.2.size;omega
theorem B6 (E:Env) (B p d n:Nat) (v:Value) (out:List Int) (w:World) (h:St w E B p v out) (hm:E.most<=400000) (hd2:d<=40000) (hn2:n<=258) (hw2:E.win<=40000) (hw3:0<=E.win) (hf:out.length<d ∨ E.win<d) :
  Calls prog 151 #[.pointer (some ⟨E.S,0,none⟩),.int .i64 n,.int .i64 d] w fun e w'=>e=.panicked (j4 10)/\Kept E.S v v w w':=by
 have hlen:=h.len hm;obtain⟨m,hmo⟩:∃ m,out.length=m:=⟨_,rfl⟩;obtain⟨⟨nx,hold,held,hst,hp,hh,hnx,HG⟩,hown,hisB,hB,hle⟩:=h;rw[hmo] at hown hf hlen;obtain⟨a,cp,rfl⟩:=zW hown;have HK:Hid (Kept E.S (.slice a m cp) (.slice a m cp) w w):=Kept.refl _ _ _;obtain⟨c0,c1,c2,c3,c4,c5,c6,fz,src,ibS,ibv,ibl,Sl,Sv⟩:=hst;by_cases h1:m<d
 ·have h1':(m:Int)<d:=by omega
  go_enter func151,ntmps151;go_wp2;exact⟨rfl,rfl,HK.out⟩
 have h1':¬ (m:Int)<d:=by omega
 have h2:E.win<d:=by omega
 go_enter func151,ntmps151;go_wp2;exact⟨rfl,rfl,HK.out⟩
theorem Py (E:Env) (B p d n:Nat) (v:Value) (out:List Int) (w:World) (h:St w E B p v out) (hm:E.most<=400000) (hd:d<=out.length) (hn2:n<=258) (hw:(d:Int)<=E.win) (hw2:E.win<=40000) (hr:¬ (n:Int)<=E.most-out.length) :
  Calls prog 151 #[.pointer (some ⟨E.S,0,none⟩),.int .i64 n,.int .i64 d] w fun e w'=>e=.panicked (j4 11)/\Kept E.S v v w w':=by
 have hlen:=h.len hm;obtain⟨m,hmo⟩:∃ m,out.length=m:=⟨_,rfl⟩;obtain⟨⟨nx,hold,held,hst,hp,hh,hnx,HG⟩,hown,hisB,hB,hle⟩:=h;rw[hmo] at hown hd hr hlen hle;obtain⟨a,cp,rfl⟩:=zW hown;have HH:Hid (Str w E nx hold held (.slice a m cp)):=hst;have HK:Hid (Kept E.S (.slice a m cp) (.slice a m cp) w w):=Kept.refl _ _ _;obtain⟨c0,c1,c2,c3,c4,c5,c6,fz,src,ibS,ibv,ibl,Sl,Sv⟩:=hst
 have h1':¬ (m:Int)<d:=by omega
 have h2:¬ E.win<d:=by omega
 go_enter func151,ntmps151;go_wp2_with fail
 refine(ZV E nx hold held n m cp _ _ hm hlen (by omega) (by omega) HH.out (by omega)).mono ?_;rintro e w1 ⟨rfl,q,rfl⟩;exact⟨rfl,rfl,HK.out.drewN _⟩
abbrev Res:Type:=Except Int (Nat × List Int)
def xZ (dl dd:Nat->Option (Nat × Nat)) (zs:List Int) (most win:Int) (p:Nat) (out:List Int) (rest:Nat->List Int->Res):Res :=
 match dl p with
 | none=>.error 10
 | some (y,p1) =>
  if p<p1/\p1<=8*zs.length then
   if y<256 then
    if ¬ (1:Int)<=most-out.length then .error 11 else rest p1 (out++[(y:Int)])
   else if y=256 then .ok (p1,out)
   else if 29<=y-257 then .error 10
   else if 8*zs.length<p1+lenBits.getD (y-257) 0 then .error 10
   else match dd (p1+lenBits.getD (y-257) 0) with
    | none=>.error 10
    | some (d,p3) =>
     if p1+lenBits.getD (y-257) 0<p3/\p3<=8*zs.length then
      if 30<=d then .error 10
      else if 8*zs.length<p3+distBits.getD d 0 then .error 10
      else if out.length<distStart.getD d 0+zZ zs p3 (distBits.getD d 0) ∨ win<(distStart.getD d 0+zZ zs p3 (distBits.getD d 0):Nat) then .error 10
      else if ¬ ((lenStart.getD (y-257) 0+zZ zs p1 (lenBits.getD (y-257) 0):Nat):Int)<=most-out.length then .error 11
      else rest (p3+distBits.getD d 0) (rep out (distStart.getD d 0+zZ zs p3 (distBits.getD d 0)) (lenStart.getD (y-257) 0+zZ zs p1 (lenBits.getD (y-257) 0)))
     else .error 10
  else .error 10
def V4 (dl dd:Nat->Option (Nat × Nat)) (zs:List Int) (most win:Int):Nat->Nat->List Int->Res
 | 0,_,_=>.error 10
 | f+1,p,out=>xZ dl dd zs most win p out (V4 dl dd zs most win f)
theorem xQ {α:Type} {c:Prop} [Decidable c] {a a' b b':α} (h1:c->a=a') (h2:¬ c->b=b'):(if c then a else b)=(if c then a' else b'):=by
 by_cases hc:c
 ·rw[if_pos hc,if_pos hc];exact h1 hc
 rw[if_neg hc,if_neg hc];exact h2 hc
theorem QW (dl dd:Nat->Option (Nat × Nat)) (zs:List Int) (most win:Int) (p:Nat) (out:List Int) (r r':Nat->List Int->Res) (h:∀ q o,p<q->q<=8*zs.length->r q o=r' q o) :
  xZ dl dd zs most win p out r=xZ dl dd zs most win p out r':=by
 unfold xZ;cases dl p with
 | none=>rfl
 | some yp =>
  obtain⟨y,p1⟩:=yp;refine xQ (fun hp=>?_) (fun _=>rfl);refine xQ (fun _=>xQ (fun _=>rfl) (fun _=>h _ _ hp.1 hp.2)) (fun _=>?_);refine xQ (fun _=>rfl) (fun _=>xQ (fun _=>rfl) (fun _=>xQ (fun _=>rfl) (fun _=>?_)));cases dd (p1+lenBits.getD (y-257) 0) with
  | none=>rfl
  | some dp =>
   obtain⟨d,p3⟩:=dp;refine xQ (fun hp3=>?_) (fun _=>rfl);refine xQ (fun _=>rfl) (fun _=>xQ (fun _=>rfl) (fun _=>xQ (fun _=>rfl) (fun _=>xQ (fun _=>rfl) (fun _=>?_))));exact h _ _ (by omega) (by omega)
theorem Kq (dl dd:Nat->Option (Nat × Nat)) (zs:List Int) (most win:Int):∀ (f p:Nat) (out:List Int),8*zs.length-p<f->V4 dl dd zs most win f p out=V4 dl dd zs most win (f+1) p out
 | 0,_,_,h=>by omega
 | f+1,p,out,h=>by
  rw[V4,V4];exact QW dl dd zs most win p out _ _ (fun q o h1 h2=>Kq dl dd zs most win f q o (by omega))
def Kj (dl dd:Nat->Option (Nat × Nat)) (zs:List Int) (most win:Int) (p:Nat) (out:List Int):Res:=V4 dl dd zs most win (8*zs.length+1) p out
theorem JZ (dl dd:Nat->Option (Nat × Nat)) (zs:List Int) (most win:Int) (p:Nat) (out:List Int) :
  Kj dl dd zs most win p out=xZ dl dd zs most win p out (Kj dl dd zs most win):=by
 unfold Kj;rw[V4];exact QW dl dd zs most win p out _ _ (fun q o h1 h2=>Kq dl dd zs most win _ q o (by omega))
def Post (E:Env) (B:Nat) (v:Value) (w:World) (r:Res) (e:Ending) (w':World):Prop :=
 match r with
 | .ok (p,out)=>e=.returned (.tuple #[])/\∃ v',St w' E B p v' out/\Kept E.S v v' w w'
 | .error k=>e=.panicked (j4 k)/\∃ v',Kept E.S v v' w w'
def jj (L:Loc):Value:=.func (.func 174) #[] #[.pointer (some ⟨L.bs,0,none⟩),.pointer (some ⟨L.bc,0,none⟩),.pointer (some ⟨L.bd,0,none⟩)]
theorem Kk (w:World) (q:Nat) (o:Obj) (row:Option Nat):w.grownBy ((w.drewN q).alloc o) row:=let h:=World.grownBy_alloc (w.drewN q) o row;⟨h.os,h.tape,h.output,h.size,h.block⟩
theorem Nq {cnt srt:List Nat} {zs:List Int} (hs:∀ i,srt.getD i 0<=400):∀ (f n b first passed p y p':Nat),vW cnt srt zs f n b first passed p=some (y,p')->y<=400
 | 0,_,_,_,_,_,_,_,h=>by simp[vW] at h
 | f+1,n,b,first,passed,p,y,p',h=>by
  rw[vW] at h;split at h
  ·simp at h
  split at h
  ·simp only[Wq9.injEq,Prod.mk.injEq] at h;rw[<-h.1];exact hs _
  exact Nq hs f _ _ _ _ _ _ _ h
theorem F6 {cnt srt:List Nat} {zs:List Int} {p y p':Nat} (h:dec cnt srt zs p=some (y,p')) (hs:∀ i,srt.getD i 0<=400):y<=400:=Nq hs _ _ _ _ _ _ _ _ h
theorem qy8:∀ n,n<29->∀ x,x<2 ^ lenBits.getD n 0->lenStart.getD n 0+x<=258:=by
 have:∀ n,n<29->lenStart.getD n 0+2 ^ lenBits.getD n 0<=259:=by decide
 intro n hn x hx;have:=this n hn;omega
theorem zqz:∀ n,n<30->1<=distStart.getD n 0:=by decide
theorem St.read {w w1:World} {E:Env} {B p p1:Nat} {v:Value} {out:List Int} (h:St w E B p v out) (hr:Rd w1 E p1 v) (hk:Kept E.S (.bool true) (.bool true) w w1):St w1 E B p1 v out:=by
 obtain⟨nx,hold,held,hst,-⟩:=h.rd;exact⟨hr,hk.owns h.own hst.Sv,h.isB,by have:=hk.size;have:=h.hB;omega,h.le⟩
theorem Qz (E:Env) (B p:Nat) (v:Value) (out:List Int) (w:World) (hz:IsB E.zs) (hl:E.zs.length<=400000) (h:St w E B p v out) (hm:E.most<=400000) (hw2:E.win<=40000) (hw3:0<=E.win) (ht:Qu w E v)
  (L M:Loc) (cl sl cd sd:List Nat) (hcl:uz w E v L cl sl) (hcd:uz w E v M cd sd) (okl:U1 cl sl) (okd:U1 cd sd) (hsl:∀ i,sl.getD i 0<=400) (hsd:∀ i,sd.getD i 0<=400) :
  Calls prog 138 #[.pointer (some ⟨E.S,0,none⟩),.func (.func 174) #[] #[.pointer (some ⟨L.bs,0,none⟩),.pointer (some ⟨L.bc,0,none⟩),.pointer (some ⟨L.bd,0,none⟩)],.func (.func 174) #[] #[.pointer (some ⟨M.bs,0,none⟩),.pointer (some ⟨M.bc,0,none⟩),.pointer (some ⟨M.bd,0,none⟩)]] w
   (Post E B v w (Kj (dec cl sl E.zs) (dec cd sd E.zs) E.zs E.most E.win p out)):=by
 obtain⟨r,HR0⟩:=nm_ (Kj (dec cl sl E.zs) (dec cd sd E.zs) E.zs E.most E.win p out);rw[HR0.out];go_enter func138,ntmps138;go_wp2;go_loopg [6] (8*E.zs.length-p) (fun k _ wr=>∃ (p':Nat) (v':Value) (out':List Int),k=8*E.zs.length-p'/\Hid (Kj (dec cl sl E.zs) (dec cd sd E.zs) E.zs E.most E.win p' out'=r)/\Hid (St wr E B p' v' out')/\Hid (Kept E.S v v' w wr))
 case atStart=>exact⟨p,v,out,rfl,HR0,h,Kept.refl _ _ _⟩
 obtain⟨p',v',out',hk,HY,HS,HK⟩:=hrel;have hlen:=HS.out.len hm;have hcl':=hcl.kept HK.out;have hcd':=hcd.kept HK.out;have ht':=ht.kept HK.out;have E0:=HY.out;rw[JZ,xZ] at E0;cases hdl:dec cl sl E.zs p' with
 | none =>
  rw[hdl] at E0;simp only[] at E0;subst E0;go_wp2_with fail
  refine(TV E L cl sl p' v' wr hz hl HS.out.rd hcl' okl hdl).mono ?_;rintro e w1 ⟨rfl,k1⟩;exact⟨rfl,rfl,v',HK.out.trans (k1.weak v')⟩
 | some yp =>
  obtain⟨y,p1⟩:=yp;have hlt:=B4 hdl;rw[hdl] at E0;simp only[if_pos hlt] at E0;have HE0:Hid (_=r):=E0;clear E0;go_wp2_with fail
  refine(B5 E L cl sl p' y p1 v' wr hz hl HS.out.rd hcl' okl hdl).mono ?_;rintro e w1 ⟨rfl,r1,k1⟩;have HK1:Hid (Kept E.S v v' w w1):=HK.out.trans (k1.weak v');have S1:St w1 E B p1 v' out':=HS.out.read r1 k1;have hsy:=F6 hdl hsl;clear hdl;by_cases hy:y<256
  ·have hyZ:(y:Int)<256:=(by omega);have E1:=HE0.out;rw[if_pos hy] at E1;obtain⟨m,hmo⟩:∃ m,out'.length=m:=⟨_,rfl⟩;obtain⟨⟨nx,hold,held,hst,hp,hh,hnx,HG⟩,hown,hisB,hB,hle⟩:=S1;rw[hmo] at hown hle hlen E1;obtain⟨a,cp,rfl⟩:=zW hown;have HH:Hid (Str w1 E nx hold held (.slice a m cp)):=hst;by_cases hrm:((1:Nat):Int)<=E.most-m;rotate_left
   ·rw[if_pos (by simpa using hrm)] at E1;subst E1;go_wp2_with fail
    refine(ZV E nx hold held 1 m cp _ _ hm hlen (by omega) (by omega) HH.out (by omega)).mono ?_;rintro e w2 ⟨rfl,q,rfl⟩;exact⟨rfl,rfl,_,HK1.out.drewN _⟩
   rw[if_neg (by simpa using hrm)] at E1;have HE1:Hid (_=r):=E1;clear E1 hst;go_wp2_with fail
   refine(QK E nx hold held 1 m cp _ _ hm hlen (by omega) (by omega) HH.out hrm).mono ?_;rintro e w2 ⟨rfl,q,rfl⟩;obtain⟨c0,c1,c2,c3,c4,c5,c6,fz,src,ibS,ibv,ibl,Sl,Sv⟩:=HH.out;have f4:=fz 4;have hyu:IntKind.u8.wrap (y:Int)=(y:Int):=(by rw[IntKind.wrap_u8'];omega);clear c0 c1 c2 c3 c5 c6 src;obtain⟨i5,hi,hz0,hz1,hz2⟩:=info_parts info5
   go_wp2_with (at_builtin;refine wpList_append_lies _ rfl _ _ _ rfl B 5 i5 (.int .u8 0) 1 1 underlying22 hi hz0 hz1 hz2 rfl (by omega) (.slice a m cp) m (out'.map (Value.int .u8)) rfl ?b1 ⟨w1.heap.size,0,none⟩ 1 1 [.int .u8 (y:Int)] ?b2 rfl ?b3 ?b4 (by omega) ?b5 ?b6 ?b7 (w1.heap.size+1) ?b8 ?_)
   case b1=>exact hown.alloc _
   case b2=>rfl
   case b3=>intro j u hj;match j,hj with | 0,hj=>simp at hj;subst hj;rw[addr_add];first | exact World.cell?_alloc_new (w1.drewN q) _ _ _ | exact World.cell?_alloc_new _ _ _
   case b4=>intro u hu;simp at hu;subst hu;rfl
   case b5=>unfold maxLen;omega
   case b6=>omega
   case b7=>simp;omega
   case b8=>simp
   intro g2 cp2 w3 hown1 hgrow hat hlt2;have hx1:w1.grownBy ((w1.drewN q).alloc (.cells #[.int .u8 (y:Int)] 5)) none:=Kk w1 q _ none;obtain⟨d4,e4⟩:=HH.out.grow_cell hx1 hgrow 4;rw[c4] at d4;have hkl:(out'++[(y:Int)]).map (Value.int .u8)=out'.map (Value.int .u8)++[.int .u8 (y:Int)]:=(by simp)
   obtain⟨hs2,hk2⟩:=HH.out.grow hx1 hgrow (.slice (some ⟨g2,0,none⟩) (m+1) cp2) g2 rfl (by simpa using hat);have HS2:Hid (_/\Kept E.S _ _ w1 _):=⟨hs2,hk2⟩;have HO:Hid (World.ownsRow _ B 5 1 _ _ _):=uq hown1 E.S 4 (.slice (some ⟨g2,0,none⟩) (m+1) cp2) hs2.Sv;rw[<-hkl] at HO;clear hs2 hk2 hown1 hgrow hat
   go_wp2;go_roundg (8*E.zs.length-p1);case measure=>omega
   case rel =>
   refine⟨p1,_,out'++[(y:Int)],rfl,HE1,⟨⟨nx,hold,held,HS2.out.1,hp,hh,hnx,HG⟩,?_,?_,?_,?_⟩,HK1.out.trans HS2.out.2⟩
   ·rw[show (out'++[(y:Int)]).length=m+1 from by simp;omega];exact HO.out
   ·intro x hx;rcases WqX.1 hx with hx | hx
    ·exact hisB x hx
    simp only[WqJ] at hx;omega
   ·have:=HS2.out.2.size;omega
   simp;omega
  have E1:=HE0.out;rw[if_neg hy] at E1;by_cases hy2:y=256
  ·subst hy2;rw[if_pos rfl] at E1;subst E1;go_wp2;go_end0;exact⟨rfl,v',S1,HK1.out⟩
  rw[if_neg hy2] at E1;have hyl:y<=400:=hsy;obtain⟨n,rfl⟩:∃ n,y=n+257:=⟨y-257,by omega⟩;rw[show n+257-257=n from by omega] at E1;have hyZ:¬ ((n+257:Nat):Int)<256:=by omega
  have hyZ2:(((n+257:Nat):Int) == 256)=false:=by simp;omega
  by_cases hn:29<=n
  ·rw[if_pos hn] at E1;subst E1;go_wp2_with fail
   refine(J7 E n w1 hn (by omega)).mono ?_;rintro e w2 ⟨rfl,k2⟩;exact⟨rfl,rfl,v',HK1.out.trans (k2.weak v')⟩
  rw[if_neg hn] at E1;have ht1:=ht'.kept (k1.weak v');by_cases hb:8*E.zs.length<p1+lenBits.getD n 0
  ·rw[if_pos hb] at E1;subst E1;go_wp2_with fail
   refine(Kz E p1 n v' w1 hz hl S1.rd ht1 (by omega) hb).mono ?_;rintro e w2 ⟨rfl,k2⟩;exact⟨rfl,rfl,v',HK1.out.trans (k2.weak v')⟩
  rw[if_neg hb] at E1;have HE1:Hid (_=r):=E1;clear E1;go_wp2_with fail
  refine(Gx E p1 n v' w1 hz hl S1.rd ht1 (by omega) (by omega)).mono ?_;rintro e w2 ⟨rfl,r2,k2⟩;have S2:St w2 E B (p1+lenBits.getD n 0) v' out':=S1.read r2 k2;have HK2:Hid (Kept E.S v v' w w2):=HK1.out.trans (k2.weak v');have k02:=k1.trans k2;have hcd2:=hcd'.kept (k02.weak v');have ht2:=ht'.kept (k02.weak v');have lb1:=(uJ n (by omega)).1
  have lb2:=(uJ n (by omega)).2.1;have lb3:=y8 E.zs p1 (lenBits.getD n 0);have lb4:2 ^ lenBits.getD n 0<=2 ^ 5:=Wqk (by omega) lb2;obtain⟨len,HL⟩:=nn_ (lenStart.getD n 0+zZ E.zs p1 (lenBits.getD n 0));have hlen2:len<=289:=by rw[HL.out];omega
  have hlen3:len<=258:=by rw[HL.out];exact qy8 n (by omega) _ lb3
  rw[<-HL.out] at HE1 ⊢;obtain⟨p2,HP2⟩:=nn_ (p1+lenBits.getD n 0);rw[<-HP2.out] at HE1 S2;have hp2:p1<=p2:=by rw[HP2.out];omega
  clear lb1 lb2 lb3 lb4 r2 hb hlen2;have E2:=HE1.out;clear HE1;cases hdd:dec cd sd E.zs p2 with
  | none =>
   rw[hdd] at E2;simp only[] at E2;subst E2;go_wp2_with fail
   refine(TV E M cd sd p2 v' w2 hz hl S2.rd hcd2 okd hdd).mono ?_;rintro e w3 ⟨rfl,k3⟩;exact⟨rfl,rfl,v',HK2.out.trans (k3.weak v')⟩
  | some dp =>
   obtain⟨d,p3⟩:=dp;have hlt3:=B4 hdd;have hsd2:=F6 hdd hsd;rw[hdd] at E2;simp only[if_pos hlt3] at E2;go_wp2_with fail
   refine(B5 E M cd sd p2 d p3 v' w2 hz hl S2.rd hcd2 okd hdd).mono ?_;rintro e w3 ⟨rfl,r3,k3⟩;have S3:St w3 E B p3 v' out':=S2.read r3 k3;have HK3:Hid (Kept E.S v v' w w3):=HK2.out.trans (k3.weak v');have ht3:=ht2.kept (k3.weak v');clear hdd r3;by_cases hd:30<=d
   ·rw[if_pos hd] at E2;subst E2;go_wp2_with fail
    refine(V3 E d w3 hd (by omega)).mono ?_;rintro e w4 ⟨rfl,k4⟩;exact⟨rfl,rfl,v',HK3.out.trans (k4.weak v')⟩
   rw[if_neg hd] at E2;by_cases hb:8*E.zs.length<p3+distBits.getD d 0
   ·rw[if_pos hb] at E2;subst E2;go_wp2_with fail
    refine(U2 E p3 d v' w3 hz hl S3.rd ht3 (by omega) hb).mono ?_;rintro e w4 ⟨rfl,k4⟩;exact⟨rfl,rfl,v',HK3.out.trans (k4.weak v')⟩
   rw[if_neg hb] at E2;go_wp2_with fail
   refine(J8 E p3 d v' w3 hz hl S3.rd ht3 (by omega) (by omega)).mono ?_;rintro e w4 ⟨rfl,r4,k4⟩;have S4:St w4 E B (p3+distBits.getD d 0) v' out':=S3.read r4 k4;have HK4:Hid (Kept E.S v v' w w4):=HK3.out.trans (k4.weak v');have lb1:=(uJ d (by omega)).2.2.1;have lb2:=(uJ d (by omega)).2.2.2;have lb3:=y8 E.zs p3 (distBits.getD d 0)
   have lb4:2 ^ distBits.getD d 0<=2 ^ 13:=Wqk (by omega) lb2;have lb5:=zqz d (by omega);obtain⟨far,HF⟩:=nn_ (distStart.getD d 0+zZ E.zs p3 (distBits.getD d 0));have hfar:far<=40000:=(by rw[HF.out];omega);have hfar1:1<=far:=(by rw[HF.out];omega);rw[<-HF.out] at E2 ⊢;obtain⟨p4,HP4⟩:=nn_ (p3+distBits.getD d 0);rw[<-HP4.out] at E2 S4
   have hp4:p3<=p4:=(by rw[HP4.out];omega);have hp5:p4<=8*E.zs.length:=(by rw[HP4.out];omega);clear lb1 lb2 lb3 lb4 lb5 r4 hb;by_cases hf:out'.length<far ∨ E.win<far
   ·rw[if_pos hf] at E2;subst E2;go_wp2_with fail
    refine(B6 E B p4 far len v' out' w4 S4 hm hfar hlen3 hw2 hw3 hf).mono ?_;rintro e w5 ⟨rfl,k5⟩;exact⟨rfl,rfl,v',HK4.out.trans k5⟩
   rw[if_neg hf] at E2;by_cases hrm:(len:Int)<=E.most-out'.length
   ·rw[if_neg (by omega)] at E2;have HE2:Hid (_=r):=E2;clear E2;go_wp2_with fail
    refine(IW E B p4 far len v' out' w4 S4 hm (by omega) hfar1 hlen3 (by omega) hw2 (by omega)).mono ?_;rintro e w5 ⟨rfl,v5,S5,k5⟩;have HS5:Hid (St w5 E B p4 v5 (rep out' far len)):=S5;have HK5:Hid (Kept E.S v v5 w w5):=HK4.out.trans k5;clear S5 k5;go_wp2;go_roundg (8*E.zs.length-p4);case measure=>omega
    case rel=>exact⟨p4,v5,_,rfl,HE2,HS5,HK5⟩
   rw[if_pos (by omega)] at E2;subst E2;go_wp2_with fail
   refine(Py E B p4 far len v' out' w4 S4 hm (by omega) hlen3 (by omega) hw2 (by omega)).mono ?_;rintro e w5 ⟨rfl,k5⟩;exact⟨rfl,rfl,v',HK4.out.trans k5⟩
def arr (cs:List Nat):List Value:=cs.map fun (c:Nat)=>.int .i64 (c:Int)
theorem qZ (cs:List Nat):(arr cs).length=cs.length:=by simp[arr]
theorem vu (cs:List Nat):∀ v ∈ arr cs,v.oneCell'=true:=by
 intro v hv;simp only[arr,List.mem_map] at hv;obtain⟨c,_,rfl⟩:=hv;rfl
theorem TW (cs:List Nat) (i:Nat) (h:i<cs.length):(arr cs)[i]? = some (.int .i64 (cs.getD i 0:Nat)):=by
 simp[arr,h]
def AtI (w:World) (b off:Nat) (zs:List Nat):Prop := ∀ i,i<zs.length->w.cell? ⟨b,off+i,none⟩=some (.int .i64 (zs.getD i 0:Nat))
def bump (cs:List Nat) (n:Nat):List Nat:=if 0<n then cs.set n (cs.getD n 0+1) else cs
def z7 (lens:List Nat):List Nat:=lens.foldl bump (WqV 16 0)
theorem Pu (cs:List Nat) (n:Nat):(bump cs n).length=cs.length:=by unfold bump;split <;> simp
theorem QY:∀ (l cs:List Nat),(l.foldl bump cs).length=cs.length
 | [],_=>rfl
 | x :: l,cs=>by rw[WqQ,QY l,Pu]
theorem yv (l:List Nat):(z7 l).length=16:=by unfold z7;rw[QY];rfl
theorem B7 (l:List Nat) (x:Nat):z7 (l++[x])=bump (z7 l) x:=by simp[z7]
theorem Nx:∀ (l cs:List Nat) (n:Nat),0<n->n<cs.length->(l.foldl bump cs).getD n 0=cs.getD n 0+l.count n
 | [],_,_,_,_=>by simp
 | x :: l,cs,n,h0,hn=>by
  rw[WqQ,Nx l _ n h0 (by rw[Pu];exact hn)];unfold bump;by_cases hx:x=n
  ·subst hx;rw[if_pos h0];simp[hn];omega
  rw[List.count_cons_of_ne (by simpa using hx)];split
  ·rw[List.getD_eq_getElem?_getD,List.getElem?_set_ne hx,<-List.getD_eq_getElem?_getD]
  rfl
theorem Y0 (l:List Nat) (n:Nat) (h0:0<n) (hn:n<16):(z7 l).getD n 0=l.count n:=by
 unfold z7;rw[Nx l _ n h0 (by simpa using hn),List.getD_eq_getElem?_getD,List.getElem?_replicate];split <;> simp
theorem B8 (l:List Nat):(z7 l).getD 0 0=0:=by
 have:∀ (l cs:List Nat),cs.getD 0 0=0->(l.foldl bump cs).getD 0 0=0:=by
  intro l;induction l with
  | nil=>intro cs h;exact h
  | cons x l ih =>
   intro cs h;refine ih _ ?_;unfold bump;split
   ·rw[List.getD_eq_getElem?_getD,List.getElem?_set_ne (by omega),<-List.getD_eq_getElem?_getD];exact h
   exact h
 exact this l _ rfl
theorem j5 (l:List Nat) (n:Nat):(z7 l).getD n 0<=l.length:=by
 by_cases h0:n=0
 ·subst h0;rw[B8];omega
 by_cases hn:n<16
 ·rw[Y0 l n (by omega) hn];exact List.count_le_length
 rw[List.getD_eq_getElem?_getD,List.getElem?_eq_none (by rw[yv];omega)];simp
theorem jK (zs:List Nat) (k:Nat) (h:k<zs.length):zs.take (k+1)=zs.take k++[zs.getD k 0]:=by
 rw[List.take_succ_eq_append_getElem h];simp[h]
theorem info265:(prog.info? 265).map (·.size)=some 16:=by kernel_rfl
theorem Kept.of_below {S:Nat} {v:Value} {w w':World} (h:Below w.heap.size w w'):Kept S v v w w':=⟨h.os,h.tape,h.output,h.size,fun k hk _ _=>h.block k hk,.inl rfl⟩
theorem jy (cs:List Nat) (n c:Nat):(arr cs).toArray.setIfInBounds n (.int .i64 (c:Int))=(arr (cs.set n c)).toArray:=by
 simp[arr,List.map_set]
theorem zy {w:World} {g:Nat} {cs:List Nat} {t:TypeId} {fr:Nat × Nat} (h:w.heap[g]? = some (.cells (arr cs).toArray t fr)) (i:Nat) (hi:i<cs.length):w.cell? ⟨g,i,none⟩=some (.int .i64 (cs.getD i 0:Nat)):=by
 rw[cell_of_row w g i _ t fr h];simpa using TW cs i hi
theorem zx {w:World} {g:Nat} {cs:List Value} {t:TypeId} {fr:Nat × Nat} (h:w.heap[g]? = some (.cells cs.toArray t fr)):w.rangeAt g 0 cs:=fun j v hv=>by
 rw[Wq7,cell_of_row w g j _ t fr h];simpa using hv
theorem qq {w:World} {g n:Nat} {cs:List Nat} {t:TypeId} (h:w.heap[g]? = some (.cells (arr cs).toArray t (0,0))) (hn:cs.length=n):w.there g 0 n:=fun j hj=>by
 rw[Wq7];exact⟨by rw[zy h j (by omega)];rfl,frozen_of_row w g j _ t h⟩
theorem y6 {P:Program} {fn:Func} {p:Tmp} {ty:TypeId} (h:fn.results=#[.cell p ty]) (tmps:Array Value) (w:World) (g:Nat) (cs:List Value) (d:TypeDesc)
  (hp:tmps.getD p undef=.pointer (some ⟨g,0,none⟩)) (hc:w.rangeAt g 0 cs) (hu:P.underlying ty=some d) (hd:d.isRow=true) (hi:(P.info? ty).map (·.size)=some cs.length) :
  (results fn tmps).run P w=.ok (.agg cs.toArray) w:=by
 have hp':tmps[p]?.getD undef=.pointer (some ⟨g,0,none⟩):=by simpa using hp
 simp[results,h,hp',asAddr,run_loadVar_mid w g 0 ty cs d hc hu hd hi]
theorem x7 (b off cap:Nat) (lens:List Nat) (w:World) (hl:lens.length<=400) (h15:∀ x ∈ lens,x<=15) (hat:AtI w b off lens) (hb:b<w.heap.size) :
  Calls prog 165 #[.slice (some ⟨b,off,none⟩) lens.length cap] w fun e w'=>e=.returned (.agg (arr (z7 lens)).toArray)/\Below w.heap.size w w':=by
 have hi2:∀ l:List Nat,l.length=16->(prog.info? 265).map (·.size)=some (arr l).length:=fun l h=>by rw[qZ,h];exact info265
 go_enter func165,ntmps165;go_wp2;go_loopw [8] (fun i wr=>∃ k:Nat,k<=lens.length/\i=.int .i64 k/\Hid (wr.heap[w.heap.size+1]? = some (.cells (arr (z7 (lens.take k))).toArray 265 (0,0)))/\Hid (wr.heap[w.heap.size]? = some (.cells (arr (WqV 16 0)).toArray 265 (0,0)))/\Hid (Below w.heap.size w wr)) (fun i _=>lens.length-(intOf i).toNat)
 case atStart =>
  refine⟨0,by omega,rfl,?_,?_,?_⟩
  ·exact heap_alloc2_new w _ _
  ·exact heap_alloc2_old w _ _
  exact((Below.refl _ _).alloc (WzV _) _).alloc (by simp) _
 obtain⟨k,hk,rfl,H3,H2,HB⟩:=hrel;by_cases hlt:k<lens.length;rotate_left
 ·obtain rfl:k=lens.length:=by omega
  rw[List.take_length] at H3;go_wp2_with (first | refine wpList_load_mid rfl 265 _ rfl (w.heap.size+1) 0 rfl (arr (z7 lens)) _ (zx H3.out) underlying265 rfl (hi2 _ (yv _)) ?_ | refine wpList_store_mid rfl 265 _ _ rfl w.heap.size 0 (arr (z7 lens)).toArray rfl rfl ?t1 ?t2 ?t3 ?_)
  case t1=>rw[show (arr (z7 lens)).toArray.size=16 from by rw[WqW,qZ,yv]];exact qq H2.out (by simp)
  case t2=>rw[WqW];exact hi2 _ (yv _)
  case t3=>exact all_oneCell_toArray (vu _)
  refine bodyPost_ret (v:=.agg (arr (z7 lens)).toArray) (y6 Tryz.results165 _ _ w.heap.size _ _ rfl (World.rangeAt_setCells_same wr w.heap.size 0 _ ?_) underlying265 rfl (hi2 _ (yv _))) rfl ⟨rfl,below_setCells (WzV _) _ _ _ _ HB.out⟩;rw[qZ,yv];exact qq H2.out (by simp)
 have hcell:wr.cell? ⟨b,off+k,none⟩=some (.int .i64 (lens.getD k 0:Nat)):=(HB.out.cell (p:=⟨b,off+k,none⟩) hb).trans (hat k hlt);obtain⟨x,HX⟩:=nn_ (lens.getD k 0);rw[<-HX.out] at hcell;have hx15:x<=15:=by rw[HX.out,List.getD_eq_getElem?_getD,List.getElem?_eq_getElem hlt];exact h15 _ (Wz5 hlt)
 have hs:=jK lens k hlt;rw[<-HX.out] at hs;have HC:Hid (z7 (lens.take (k+1))=bump (z7 (lens.take k)) x):=by show _=_;rw[hs,B7]
 clear hs;by_cases h0:0<x
 ·have hc3:=zy H3.out x (by rw[yv];omega);have hf3:=frozen_of_row wr (w.heap.size+1) x _ 265 H3.out;have hcl:=j5 (lens.take k) x;have htl:(lens.take k).length<=k:=List.length_take_le _ _;obtain⟨c,HCc⟩:=nn_ ((z7 (lens.take k)).getD x 0);rw[<-HCc.out] at hc3 hcl;go_wp2;go_roundw;case measure=>simp[intOf];omega
  refine⟨k+1,by omega,by go_num,?_,?_,HB.out.setCell (by simp) _⟩
  ·show _=_;rw[heap_setCell_same wr _ _ _ _ _ H3.out,HC.out];unfold bump;rw[if_pos h0,<-HCc.out,<-jy];rfl
  show _=_;rw[heap_setCell_other wr _ _ _ (by simp)];exact H2.out
 obtain rfl:x=0:=by omega
 go_wp2;go_roundw;case rel =>
  refine⟨k+1,by omega,by go_num,?_,H2,HB⟩;show _=_;rw[HC.out];unfold bump;rw[if_neg (by omega)];exact H3.out
 case measure=>simp[intOf];omega
def free (cs:List Nat):Nat->Int
 | 0=>1
 | n+1=>2*free cs n-cs.getD (n+1) 0
def yW (cs:List Nat):Bool:=(WqK 16).all (fun n=>decide (0<=free cs n)) && free cs 15 == 0
theorem zj3 (cs:List Nat) (hc:∀ i,cs.getD i 0<=400):∀ n,n<=15->free cs n<=32768/\-400*32768<=free cs n:=by
 have key:∀ n,free cs n<=2 ^ n/\-400*(2 ^ n-1)<=free cs n:=by
  intro n;induction n with
  | zero=>simp[free]
  | succ n ih =>
   have:=hc (n+1);have e:(2:Int) ^ (n+1)=2*2 ^ n:=(by rw[Int.pow_succ];omega);rw[free,e];omega
 intro n hn;have h2:(2:Int) ^ n<=32768:=by
  have:=Wqk (n:=2) (by omega) hn;have e:((2 ^ n:Nat):Int)=2 ^ n:=by simp
  rw[<-e];omega
 have h3:(0:Int)<2 ^ n:=Int.pow_pos (by omega);have:=key n;omega
theorem Zz (cs:List Nat) (w:World) (hl:cs.length=16) (hc:∀ i,cs.getD i 0<=400) :
  Calls prog 166 #[.agg (arr cs).toArray] w fun e w'=>e=.returned (.bool (yW cs))/\Below w.heap.size w w':=by
 have hcell:∀ i,i<16->(w.alloc (.cells (arr cs).toArray 265)).cell? ⟨w.heap.size,i,none⟩=some (.int .i64 (cs.getD i 0:Nat)):=fun i hi=>zy (heap_alloc_new w _) i (by omega);have HB:Hid (Below w.heap.size w (w.alloc (.cells (arr cs).toArray 265))):=(Below.refl _ _).alloc (WzV _) _;go_enter func166,ntmps166;go_wp2
 go_loop [3,4] (fun f i=>∃ (n:Nat) (x:Int),1<=n/\n<=16/\i=.int .i64 n/\f=.int .i64 x/\Hid (x=free cs (n-1))/\∀ m,m<n->0<=free cs m) (fun _ i=>16-(intOf i).toNat)
 case atStart=>exact⟨1,1,by omega,by omega,rfl,rfl,rfl,fun m hm=>by rw[show m=0 from by omega];simp[free]⟩
 obtain⟨n,x,hn1,hn2,rfl,rfl,HX,hall⟩:=hrel;have hxb:=zj3 cs hc (n-1) (by omega);rw[<-HX.out] at hxb;by_cases hn:n=16
 ·subst hn;have e:yW cs=(x == 0):=by
   unfold yW;rw[show (WqK 16).all (fun n=>decide (0<=free cs n))=true from by simp only[List.all_eq_true,List.mem_range,decide_eq_true_eq];exact hall,HX.out];rfl
  have HE:Hid (yW cs=(x == 0)):=e;clear hall e;go_wp2;go_ret;exact⟨by rw[HE.out];rfl,HB.out⟩
 have hle':(n:Int)<=15:=by omega
 have hcn:=hcell n (by omega);have hb:=hc n;obtain⟨c,HC⟩:=nn_ (cs.getD n 0);rw[<-HC.out] at hcn hb;have HF:Hid (2*x-c=free cs n):=by show _=_;rw[show n=(n-1)+1 from by omega,free,<-HX.out,show n-1+1=n from by omega,<-HC.out]
 by_cases hneg:2*x-c<0
 ·have e:yW cs=false:=by
   unfold yW;rw[show (WqK 16).all (fun n=>decide (0<=free cs n))=false from by
    rw[List.all_eq_false];exact⟨n,by simp;omega,by rw[<-HF.out];simp;omega⟩];rfl
  have HE:Hid (yW cs=false):=e;clear hall hcell e;go_wp2;go_ret;exact⟨by rw[HE.out];rfl,HB.out⟩
 have hall':∀ m,m<n+1->0<=free cs m:=fun m hm=>by
  by_cases e:m=n
  ·rw[e,<-HF.out];omega
  exact hall m (by omega)
 have HA:Hid (∀ m,m<n+1->0<=free cs m):=hall';clear hall hall' hcell;go_wp2;go_round;case rel=>exact⟨n+1,2*x-c,by omega,by omega,by go_num,rfl,by show _=_;rw[HF.out];rfl,HA.out⟩
 case measure=>simp[intOf];omega
def Kv (cs:List Nat):Bool:=cs.sum == 0 || (cs.sum == 1 && cs.getD 1 0 == 1)
theorem PZ (a0 a1 a2 a3 a4 a5 a6 a7 a8 a9 a10 a11 a12 a13 a14 a15:Nat) (k:Nat) (w:World) (h:k<16):(Instr.index 265 (.agg (arr [a0,a1,a2,a3,a4,a5,a6,a7,a8,a9,a10,a11,a12,a13,a14,a15]).toArray) (.int .i64 k)).run prog w=.ok (.int .i64 ([a0,a1,a2,a3,a4,a5,a6,a7,a8,a9,a10,a11,a12,a13,a14,a15].getD k 0:Nat)) w:=by
 have hk:k=0 ∨ k=1 ∨ k=2 ∨ k=3 ∨ k=4 ∨ k=5 ∨ k=6 ∨ k=7 ∨ k=8 ∨ k=9 ∨ k=10 ∨ k=11 ∨ k=12 ∨ k=13 ∨ k=14 ∨ k=15:=by omega
 rcases hk with rfl | rfl | rfl | rfl | rfl | rfl | rfl | rfl | rfl | rfl | rfl | rfl | rfl | rfl | rfl | rfl <;> (show _=_;kernel_rfl)
theorem IY (cs:List Nat) (k:Nat) (w:World) (h:k<16) (hl:cs.length=16):(Instr.index 265 (.agg (arr cs).toArray) (.int .i64 k)).run prog w=.ok (.int .i64 (cs.getD k 0:Nat)) w:=by
 match cs,hl with
 | [a0,a1,a2,a3,a4,a5,a6,a7,a8,a9,a10,a11,a12,a13,a14,a15],_=>exact PZ a0 a1 a2 a3 a4 a5 a6 a7 a8 a9 a10 a11 a12 a13 a14 a15 k w h
theorem PQ (cs:List Nat) (hc:∀ i,cs.getD i 0<=400) (k:Nat):(cs.take k).sum<=400*k:=by
 induction k with
 | zero=>simp
 | succ k ih =>
  by_cases h:k<cs.length
  ·rw[jK cs k h,WqY];have:=hc k;simp at *;omega
  rw[Wzu (by omega)];rw[Wzu (by omega)] at ih;omega
theorem PX (cs:List Nat) (w:World) (hl:cs.length=16) (hc:∀ i,cs.getD i 0<=400) :
  Calls prog 171 #[.agg (arr cs).toArray] w fun e w'=>e=.returned (.bool (Kv cs))/\Below w.heap.size w w':=by
 have hi2:(prog.info? 265).map (·.size)=some (arr cs).length:=by rw[qZ,hl];exact info265
 have HR:Hid ((w.alloc (.cells (arr cs).toArray 265)).rangeAt w.heap.size 0 (arr cs)):=zx (heap_alloc_new w _);have hcell:(w.alloc (.cells (arr cs).toArray 265)).cell? ⟨w.heap.size,1,none⟩=some (.int .i64 (cs.getD 1 0:Nat)):=zy (heap_alloc_new w _) 1 (by omega)
 have HB:Hid (Below w.heap.size w (w.alloc (.cells (arr cs).toArray 265))):=(Below.refl _ _).alloc (WzV _) _;go_enter func171,ntmps171;go_wp2_with (refine wpList_load_mid rfl 265 _ rfl w.heap.size 0 rfl (arr cs) _ HR.out underlying265 rfl hi2 ?_)
 go_loop [3,7] (fun f i=>∃ (n x:Nat),n<=16/\i=.int .i64 n/\f=.int .i64 x/\Hid (x=(cs.take n).sum)) (fun _ i=>16-(intOf i).toNat)
 case atStart=>exact⟨0,0,by omega,rfl,rfl,by simp[Hid]⟩
 obtain⟨n,x,hn2,rfl,rfl,HX⟩:=hrel;have hxb:=PQ cs hc n;rw[<-HX.out] at hxb;by_cases hn:n=16;rotate_left
 ·have hix:=IY cs n (w.alloc (.cells (arr cs).toArray 265)) (by omega) hl;have hb:=hc n;obtain⟨c,HC⟩:=nn_ (cs.getD n 0);rw[<-HC.out] at hix hb;go_wp2;go_round;case rel=>exact⟨n+1,x+c,by omega,by go_num,by go_num,by show _=_;rw[jK cs n (by omega),WqY,<-HX.out,<-HC.out];simp⟩
  case measure=>simp[intOf];omega
 subst hn;have hs:cs.sum=x:=by rw[HX.out,Wzu (by omega)]
 have e:Kv cs=(((x:Int) == 0) || (((x:Int) == 1) && (((cs.getD 1 0:Nat):Int) == 1))):=by
  unfold Kv;rw[hs,Bool.eq_iff_iff];simp;omega
 obtain⟨c,HC⟩:=nn_ (cs.getD 1 0);rw[<-HC.out] at hcell e;have HE:Hid (Kv cs=_):=e;clear e hs;by_cases h0:x=0
 ·subst h0;go_wp2;go_ret;exact⟨by rw[HE.out];rfl,HB.out⟩
 have h0':((x:Int) == 0)=false:=by simp;omega
 by_cases h1:x=1
 ·subst h1;go_wp2;go_ret;exact⟨by rw[HE.out];rfl,HB.out⟩
 have h1':((x:Int) == 1)=false:=by simp;omega
 go_wp2;go_ret;exact⟨by rw[HE.out,h0',h1'];rfl,HB.out⟩
def Xz (cs:List Nat) (n:Nat):List Nat:=(WqK 17).map fun i=>if i<=n then below cs i else 0
theorem V5 (cs:List Nat) (n:Nat):(Xz cs n).length=17:=by simp[Xz]
theorem Kw (cs:List Nat) (n i:Nat) (h:i<17):(Xz cs n).getD i 0=if i<=n then below cs i else 0:=by simp[Xz,h]
theorem O0 (cs:List Nat) (n:Nat) (h1:1<=n) (hn:n<=15):(Xz cs n).set (n+1) (below cs n+cs.getD n 0)=Xz cs (n+1):=by
 apply List.ext_getElem
 ·simp[Xz]
 intro i h2 h3;rw[List.getElem_set];simp only[V5] at h3;split
 ·rename_i e;subst e;simp[Xz,vZ cs n h1]
 rename_i e;simp only[Xz,List.getElem_map,List.getElem_range];by_cases h:i<=n
 ·rw[if_pos h,if_pos (by omega)]
 rw[if_neg h,if_neg (by omega)]
def lay (s:List Nat × List Nat) (n i:Nat):List Nat × List Nat:=if 0<n then (s.1.set n (s.1.getD n 0+1),s.2.set (s.1.getD n 0) i) else s
def yk (lens:List Nat):Nat->List Nat × List Nat
 | 0=>(Xz (z7 lens) 16,WqV (below (z7 lens) 16) 0)
 | k+1=>lay (yk lens k) (lens.getD k 0) k
def qx (lens:List Nat):List Nat:=(yk lens lens.length).2
theorem zqq (s:List Nat × List Nat) (n i:Nat):(lay s n i).1.length=s.1.length:=by unfold lay;split <;> simp
theorem zqx (s:List Nat × List Nat) (n i:Nat):(lay s n i).2.length=s.2.length:=by unfold lay;split <;> simp
theorem XZ (lens:List Nat):∀ k,(yk lens k).1.length=17
 | 0=>by simp[yk,Xz]
 | k+1=>by rw[yk,zqq,XZ lens k]
theorem XQ (lens:List Nat):∀ k,(yk lens k).2.length=below (z7 lens) 16
 | 0=>by simp[yk]
 | k+1=>by rw[yk,zqx,XQ lens k]
theorem U3 (lens:List Nat):(qx lens).length=below (z7 lens) 16:=XQ lens _
theorem UZ (lens:List Nat) (n:Nat) (h1:1<=n) (h2:n<=15):∀ k,k<=lens.length->(yk lens k).1.getD n 0=below (z7 lens) n+(lens.take k).count n
 | 0,_=>by rw[yk,Kw _ _ _ (by omega),if_pos (by omega)];simp
 | k+1,hk=>by
  have ih:=UZ lens n h1 h2 k (by omega);rw[yk,jK lens k (by omega),Wqy];unfold lay;by_cases h0:0<lens.getD k 0
  ·rw[if_pos h0];by_cases e:lens.getD k 0=n
   ·rw[e,List.getD_eq_getElem?_getD,List.getElem?_set_self (by rw[XZ];omega),ih];simp;omega
   rw[List.getD_eq_getElem?_getD,List.getElem?_set_ne e,<-List.getD_eq_getElem?_getD,ih,Wqu (l:=[lens.getD k 0]) (by simpa using Ne.symm e)];rfl
  rw[if_neg h0,ih,Wqu (l:=[lens.getD k 0]) (by simp only[WqJ];omega)];rfl
theorem B9 (lens:List Nat) (k:Nat) (hk:k<lens.length) (h0:0<lens.getD k 0) (h15:lens.getD k 0<=15):(yk lens k).1.getD (lens.getD k 0) 0<below (z7 lens) 16:=by
 rw[UZ lens _ h0 h15 k (by omega)];have h1:(lens.take k).count (lens.getD k 0)+1<=lens.count (lens.getD k 0):=by
  have:(lens.take (k+1)).count (lens.getD k 0)<=lens.count (lens.getD k 0):=List.Sublist.count_le _ (List.take_sublist _ _);rw[jK lens k hk,Wqy] at this;simpa using this
 have h2:=uX (z7 lens) (lens.getD k 0+1) 16 (by omega);rw[vZ _ _ h0,Y0 lens _ h0 (by omega)] at h2;omega
theorem below_le (lens:List Nat):∀ n,n<=15->below (z7 lens) (n+1)<=(lens.filter fun x=>decide (1<=x) && decide (x<=n)).length
 | 0,_=>by simp[below]
 | n+1,h=>by
  rw[vZ _ _ (by omega),Y0 lens _ (by omega) (by omega)];have ih:=below_le lens n (by omega);have e:∀ l:List Nat,(l.filter fun x=>decide (1<=x) && decide (x<=n+1)).length=(l.filter fun x=>decide (1<=x) && decide (x<=n)).length+l.count (n+1):=by
   intro l;induction l with
   | nil=>simp
   | cons x l ih =>
    rw[WqZ,WqZ,List.count_cons];by_cases h1:x=n+1
    ·subst h1;simp[show ¬ n+1<=n by omega];omega
    by_cases h2:1<=x/\x<=n
    ·simp[h2.1,h2.2,show x<=n+1 by omega,h1];omega
    rw[show (decide (1<=x) && decide (x<=n+1))=false from by simp;omega,show (decide (1<=x) && decide (x<=n))=false from by simp;omega];simp[h1];omega
  rw[e];omega
theorem Qq (lens:List Nat):below (z7 lens) 16<=lens.length:=Nat.le_trans (below_le lens 15 (by omega)) (List.length_filter_le _ _)
theorem info3:(prog.info? 3).map (fun i=>(i.zero,i.size,i.bytes))=some (some (.int .i64 0),1,8):=by kernel_rfl
theorem zqj (cs:List Nat):Xz cs 1=Xz [] 0:=by simp[Xz,below,List.range_succ]
theorem Y1 (b off cap:Nat) (lens:List Nat) (w:World) (hl:lens.length<=400) (h15:∀ x ∈ lens,x<=15) (hat:AtI w b off lens) (hb:b<w.heap.size) :
  Calls prog 168 #[.agg (arr (z7 lens)).toArray,.slice (some ⟨b,off,none⟩) lens.length cap] w fun e w'=>∃ g,w.heap.size<=g/\e=.returned (.slice (some ⟨g,0,none⟩) (qx lens).length (qx lens).length)/\Below w.heap.size w w'/\w'.heap[g]? = some (.cells (arr (qx lens)).toArray 3 (0,0)):=by
 obtain⟨cs,hcs⟩:∃ cs,z7 lens=cs:=⟨_,rfl⟩;have hcl:cs.length=16:=by rw[<-hcs];exact yv lens
 have hcb:∀ i,cs.getD i 0<=400:=fun i=>by rw[<-hcs];have:=j5 lens i;omega
 have hbl:=Qq lens;rw[hcs] at hbl ⊢;have Hcs:Hid (z7 lens=cs):=hcs;clear hcs;obtain⟨i3,hi,hz0,hz1,hz2⟩:=info_parts info3;go_enter func168,ntmps168;go_wp2
 go_loopw [6] (fun i wr=>∃ n:Nat,1<=n/\n<=16/\i=.int .i64 n/\Hid (wr.heap[w.heap.size]? = some (.cells (arr cs).toArray 265 (0,0)))/\Hid (wr.heap[w.heap.size+1]? = some (.cells (arr (Xz cs n)).toArray 273 (0,0)))/\Hid (Below w.heap.size w wr)) (fun i _=>16-(intOf i).toNat)
 case atStart =>
  refine⟨1,by omega,by omega,rfl,?_,?_,?_⟩
  ·exact heap_alloc2_old w _ _
  ·rw[zqj];exact heap_alloc2_new w _ _
  exact((Below.refl _ _).alloc (WzV _) _).alloc (by simp) _
 obtain⟨n,hn1,hn2,rfl,H0,H1,HB⟩:=hrel;by_cases hn:n=16;rotate_left
 ·have hle':(n:Int)<=15:=by omega
  have k0:=zy H0.out n (by omega);have k1:=zy H1.out n (by rw[V5];omega);have k2:=zy H1.out (n+1) (by rw[V5];omega);have f2:=frozen_of_row wr (w.heap.size+1) (n+1) _ 273 H1.out;rw[Kw _ _ _ (by omega),if_pos (by omega)] at k1;have hbn:=hcb n;have hbb:below cs n<=400:=by have:=uX cs n 16 (by omega);omega
  obtain⟨c,HC⟩:=nn_ (cs.getD n 0);obtain⟨q,HQ⟩:=nn_ (below cs n);obtain⟨z,HZ⟩:=nn_ ((Xz cs n).getD (n+1) 0);rw[<-HC.out] at k0 hbn;rw[<-HQ.out] at k1 hbb;rw[<-HZ.out] at k2;go_wp2;go_region;all_goals
   go_wp2;go_roundw;case rel =>
    refine⟨n+1,by omega,by omega,by go_num,?_,?_,?_⟩
    ·show _=_;exact(heap_setCell_other wr.drew _ _ _ (by simp)).trans H0.out
    ·show _=_;refine(heap_setCell_same wr.drew _ _ _ _ _ H1.out).trans ?_;rw[<-O0 cs n hn1 (by omega),<-HC.out,<-HQ.out,<-jy];rfl
    exact(HB.out.drew).setCell (by simp) _
   case measure=>simp[intOf];omega
 subst hn;have k16:=zy H1.out 16 (by rw[V5];omega);rw[Kw _ _ _ (by omega),if_pos (by omega)] at k16;obtain⟨m,HM⟩:=nn_ (below cs 16);rw[<-HM.out] at k16 hbl;have HLT:Hid (w.heap.size+1<wr.heap.size):=by
  rcases Nat.lt_or_ge (w.heap.size+1) wr.heap.size with h | h
  ·exact h
  have:=H1.out;rw[Array.getElem?_eq_none h] at this;cases this
 go_wp2_with (at_make;refine wpList_make_full _ rfl _ _ 23 rfl wr.heap.size 3 i3 (.int .i64 0) 1 underlying23 hi hz0 hz1 _ _ _ _ m rfl rfl ?c1 ?c2 ?c3 ?c4 ?c5 ?_)
 case c1=>omega
 case c2=>omega
 case c3=>rw[hz2];omega
 case c4=>unfold maxLen;omega
 case c5=>exact WzV _
 intro w2 hown hgrow;have HB2:Hid (Below w.heap.size w w2):=HB.out.grown hgrow (by have:=HLT.out;omega) (fun k h=>by cases h);have H12:Hid (w2.heap[w.heap.size+1]? = some (.cells (arr (yk lens 0).1).toArray 273 (0,0))):=by
  show _=_;rw[yk,Hcs.out];exact(hgrow.block _ HLT.out (by simp)).trans H1.out
 have H22:Hid (w2.heap[wr.heap.size]? = some (.cells (arr (yk lens 0).2).toArray 3 (0,0))):=by
  show _=_;obtain⟨_,⟨h,_⟩ | ⟨g,cap',cur,hv,_,hg,_,_,hsz,htk⟩⟩:=hown
  ·cases h
  simp only[Value.slice.injEq,Wq9.injEq,Addr.mk.injEq] at hv;obtain⟨⟨rfl,_,_⟩,_,rfl⟩:=hv;rw[hg,yk,Hcs.out,<-HM.out];have e:cur.toList=arr (WqV m 0):=by
   rw[Wzu (by simp;omega)] at htk;rw[htk,toList_madeCells_one];simp[arr]
  have:cur=(arr (WqV m 0)).toArray:=by rw[<-e]
  rw[this]
 clear hown hgrow;obtain⟨g,HGg⟩:=nn_ wr.heap.size;rw[<-HGg.out] at H22 HLT ⊢;go_wp2;go_loopw [29] (fun i wr=>∃ k:Nat,k<=lens.length/\i=.int .i64 k/\Hid (wr.heap[w.heap.size+1]? = some (.cells (arr (yk lens k).1).toArray 273 (0,0)))/\Hid (wr.heap[g]? = some (.cells (arr (yk lens k).2).toArray 3 (0,0)))/\Hid (Below w.heap.size w wr)) (fun i _=>lens.length-(intOf i).toNat)
 case atStart=>exact⟨0,by omega,rfl,H12,H22,HB2⟩
 case round =>
 clear k16 H0 H1 HB H12 H22 HB2 HGg;obtain⟨k,hk,rfl,H1,H2,HB⟩:=hrel;have hgne:=HLT.out;by_cases hlt:k<lens.length;rotate_left
 ·obtain rfl:k=lens.length:=by omega
  have e:m=(qx lens).length:=by rw[U3,Hcs.out,HM.out]
  have HE:Hid (m=(qx lens).length):=e;clear e;go_wp2;go_ret;exact⟨g,by omega,by rw[<-HE.out];rfl,HB.out,H2.out⟩
 have hcell:wr.cell? ⟨b,off+k,none⟩=some (.int .i64 (lens.getD k 0:Nat)):=(HB.out.cell (p:=⟨b,off+k,none⟩) hb).trans (hat k hlt);have hx15:lens.getD k 0<=15:=by rw[List.getD_eq_getElem?_getD,List.getElem?_eq_getElem hlt];exact h15 _ (Wz5 hlt)
 obtain⟨x,HX⟩:=nn_ (lens.getD k 0);by_cases h0:0<lens.getD k 0;rotate_left
 ·have HL:Hid (yk lens (k+1)=yk lens k):=by
   show _=_;rw[yk];unfold lay;rw[if_neg h0]
  have hx0:lens.getD k 0=0:=by omega
  rw[hx0] at hcell;clear hx0 h0 hx15 HX;go_wp2;go_roundw;case rel=>exact⟨k+1,by omega,by go_num,by show _=_;rw[HL.out];exact H1.out,by show _=_;rw[HL.out];exact H2.out,HB⟩
  case measure=>simp[intOf];omega
 have hroom:=B9 lens k hlt h0 hx15;have HL:Hid (yk lens (k+1)=((yk lens k).1.set x ((yk lens k).1.getD x 0+1),(yk lens k).2.set ((yk lens k).1.getD x 0) k)):=by
  show _=_;rw[yk];unfold lay;rw[if_pos h0,<-HX.out]
 rw[<-HX.out] at hcell hx15 h0 hroom;have k1:=zy H1.out x (by rw[XZ];omega);have f1:=frozen_of_row wr (w.heap.size+1) x _ 273 H1.out;obtain⟨q,HQ⟩:=nn_ ((yk lens k).1.getD x 0);rw[<-HQ.out] at k1 hroom HL;rw[Hcs.out,<-HM.out] at hroom;have k2:=zy H2.out q (by rw[XQ,Hcs.out,<-HM.out];exact hroom);have f2:=frozen_of_row wr g q _ 3 H2.out
 obtain⟨z,HZ⟩:=nn_ ((yk lens k).2.getD q 0);rw[<-HZ.out] at k2;have hne:¬ g=w.heap.size+1:=by omega
 have hne2:¬ w.heap.size+1=g:=by omega
 go_wp2;go_roundw;case rel =>
  refine⟨k+1,by omega,by go_num,?_,?_,(HB.out.setCell (by simp;omega) _).setCell (by simp) _⟩
  ·show _=_;rw[HL.out];refine(heap_setCell_same _ _ _ _ _ _ ((heap_setCell_other wr _ _ _ (by simpa using hne2)).trans H1.out)).trans ?_;rw[<-jy];rfl
  show _=_;rw[HL.out];refine(heap_setCell_other _ _ _ _ (by simpa using hne)).trans ((heap_setCell_same wr _ _ _ _ _ H2.out).trans ?_);rw[<-jy]
 case measure=>simp[intOf];omega
end Go.Proofs.YtiaaekdpfpaigaaGreatDoor.Df
