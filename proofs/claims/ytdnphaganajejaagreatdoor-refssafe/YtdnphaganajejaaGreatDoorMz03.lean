import Derived.Test.YtdnphaganajejaaGreatDoorMz02
set_option linter.unusedSimpArgs false
set_option linter.unusedVariables false
set_option maxRecDepth 20000
set_option maxHeartbeats 4000000
open ByteArray renaming size->Wqz
open List renaming all_eq_true->Wqq,mem_append->Wqx,mem_cons->Wqj,mem_singleton->Wqk,take_add_one->Wqv,take_of_length_le->Wq0
open Nat renaming le_refl->Wz8,le_trans->Wz9,lt_of_lt_of_le->Wq2,zero_le->Wqw
open Option renaming some->Wq8
namespace Go.Proofs.YtdnphaganajejaaGreatDoor.Nm
open Go.Proofs.Tryz
open Go.RowKit
theorem hid {p:Prop} (h:p):Hid p:=h
theorem Q7 (w:World) (s:ByteArray) (pos:Nat):Below w.heap.size w (w.iter s pos) :=
 ⟨rfl,rfl,rfl,by simp[World.iter],fun k h=>by
  show (w.heap.push _)[k]? = _
  rw[Array.getElem?_push,if_neg (by omega)]⟩
theorem zqQ (c:Int) (w:World) (h0:0<=c) (h:c<128) :
  Calls prog 121 #[.string ⟨#[126,94,58,63,42,91,92]⟩,.int .i32 c] w fun e w'=>e=.returned (.bool (([126,94,58,63,42,91,92] : List UInt8).contains c.toNat.toUInt8))/\w'=w:=by
 refine(Any.strings_ContainsRune_ascii lays151 ⟨#[126,94,58,63,42,91,92]⟩ c w h0 h).mono ?_;rintro e w' ⟨rfl,rfl⟩;exact⟨by rw[Lib.contains_iff_indexByte],rfl⟩
set_option maxRecDepth 100000 in
theorem T8 (s:List UInt8) (w:World) :
  Calls prog 97 #[.string ⟨s.toArray⟩] w fun e w'=>e=.returned (.bool (s.all byteOk))/\Below w.heap.size w w':=by
 obtain⟨S,Y⟩:=nm_ (⟨s.toArray⟩:ByteArray);obtain⟨n,HN⟩:=nm_ s.length;have hsz:S.size=n:=by rw[<-Y.out,<-HN.out];simp[Wqz]
 have D:Hid (∀ pos,Below w.heap.size w (w.iter S pos)):=fun pos=>Q7 w S pos;have HG:Hid (∀ pos (h:pos<S.size),s[pos]? = some (S[pos]'h)):=fun pos h=>by
  have:=Lib.data_getElem? S pos h;rw[<-this,<-Y.out]
 have A:Hid (∀ pos x,s[pos]? = some x->byteOk x=false->s.all byteOk=false):=fun pos x hx hb=>by
  rw[Bool.eq_false_iff];intro h;have:=Wqq.1 h x (List.mem_of_getElem? hx);rw[hb] at this;cases this
 rw[Y.out];go_enter func97,ntmps97;go_wp2;go_loopw [] (fun w'=>∃ pos:Nat,w'=w.iter S pos/\pos<=n/\Hid (∀ x ∈ s.take pos,byteOk x=true)) (fun w'=>n-w'.iterPos w.heap.size)
 case atStart=>exact⟨0,rfl,Wqw _,hid (by simp)⟩
 obtain⟨pos,rfl,ac,HD⟩:=hrel;by_cases L:pos<S.size;rotate_left
 ·have K:∀ ty,(Instr.next (.pointer (some ⟨w.heap.size,0,none⟩)) true ty).run prog (w.iter S pos)=_:=fun ty=>run_next_end w S pos ty L;have J:Hid (s.all byteOk=true):=hid (by
   have h:=HD.out;rw[Wq0 (by rw[HN.out];omega)] at h;exact Wqq.2 h)
  go_wp2;go_ret;exact⟨by rw[J.out];rfl,D.out _⟩
 have K:∀ ty,(Instr.next (.pointer (some ⟨w.heap.size,0,none⟩)) true ty).run prog (w.iter S pos)=_:=fun ty=>run_next_any w S pos ty L;obtain⟨x,HX⟩:=nm_ (S[pos]'L);have I:Hid (s[pos]? = some x):=hid (by rw[<-HX.out];exact HG.out pos L);by_cases V:x.toNat<128;rotate_left
 ·have j:=decode_high S pos L (by rw[HX.out];omega);have J:Hid (s.all byteOk=false):=hid (A.out pos x I.out (by unfold byteOk;rw[decide_eq_false (show ¬ x.toNat<=126 by omega)];simp));obtain⟨c,G⟩:=nm_ ((Utf8.decode S pos).1:Int);simp only[G.out] at K;have Q:126<c:=by rw[<-G.out];omega
  have Z:¬ c<33:=by omega
  clear j;go_wp2;go_ret;exact⟨by rw[J.out];rfl,D.out _⟩
 have j:=decode_ascii S pos L (by rw[HX.out];exact V);rw[HX.out] at j;rw[j] at K;obtain⟨c,G⟩:=nm_ (x.toNat:Int);simp only[G.out] at K;have a6:0<=c:=by rw[<-G.out];omega
 have a7:c<128:=by rw[<-G.out];omega
 have HT:Hid (c.toNat.toUInt8=x):=hid (by rw[<-G.out];simp);clear j;by_cases Z:c<33
 ·have J:Hid (s.all byteOk=false):=hid (A.out pos x I.out (by unfold byteOk;rw[decide_eq_false (by have:=G.out;omega)];rfl));go_wp2;go_ret;exact⟨by rw[J.out];rfl,D.out _⟩
 by_cases Q:126<c
 ·have J:Hid (s.all byteOk=false):=hid (A.out pos x I.out (by unfold byteOk;rw[decide_eq_false (show ¬ x.toNat<=126 by have:=G.out;omega)];simp));go_wp2;go_ret;exact⟨by rw[J.out];rfl,D.out _⟩
 obtain⟨b,M⟩:=nm_ (([126,94,58,63,42,91,92] : List UInt8).contains x);have CR:Hid (∀ w,Calls prog 121 #[.string ⟨#[126,94,58,63,42,91,92]⟩,.int .i32 c] w fun e w'=>e=.returned (.bool b)/\w'=w):=fun w=>by
  have:=zqQ c w a6 a7;rw[HT.out,M.out] at this;exact this
 have O:Hid (byteOk x = !b):=hid (by
  unfold byteOk;rw[M.out,decide_eq_true (show 33<=x.toNat by have:=G.out;omega),decide_eq_true (show x.toNat<=126 by have:=G.out;omega)];rfl)
 have a8:pos<n:=by rw[<-hsz];exact L
 cases b with
 | true =>
  have J:Hid (s.all byteOk=false):=hid (A.out pos x I.out O.out);go_wp2_with (go_at_call 121;refine(CR.out _).mono ?_;rintro e w' ⟨rfl,rfl⟩)
  go_ret;exact⟨by rw[J.out];rfl,D.out _⟩
 | false =>
  go_wp2_with (go_at_call 121;refine(CR.out _).mono ?_;rintro e w' ⟨rfl,rfl⟩)
  go_roundw;case measure =>
   simp;omega
  refine⟨pos+1,rfl,by omega,hid ?_⟩;rw[Wqv,I.out];intro y hy;rcases Wqx.1 hy with hy | hy
  ·exact HD.out y hy
  have:y=x:=by simpa using hy
  subst this;exact O.out
def Mx (w:World):Prop := ∃ m,w.cell? ⟨2,0,none⟩=some (.int .i64 m)
theorem cell_lt {w:World} {p:Addr} {v:Value} (h:w.cell? p=some v):p.block<w.heap.size:=by
 apply Classical.byContradiction;intro j;rw[World.cell?,Array.getElem?_eq_none (by omega)] at h;cases h
theorem Mx.below {w w':World} (h:Mx w) (hb:Below w.heap.size w w'):Mx w':=by
 obtain⟨m,j⟩:=h;exact⟨m,(hb.cell (p:=⟨2,0,none⟩) (cell_lt j)).trans j⟩
theorem txt_len (l:List UInt8):(⟨l.toArray⟩:ByteArray).size=l.length:=by simp[Wqz]
theorem info9:(prog.info? 9).map (fun i=>(i.zero,i.size,i.bytes))=some (some (.string ByteArray.empty),1,16):=by kernel_rfl
def pV (p:List UInt8):Value:=.string ⟨p.toArray⟩
theorem Ox (s:List UInt8) (hs:s.length<=100000) (w:World) (j:Mx w) :
  Calls prog 120 #[.string ⟨s.toArray⟩,.string ⟨#[47]⟩] w fun e w'=>e=.returned (.slice (some ⟨w.heap.size,0,none⟩) (spl s).length (spl s).length)/\w'=w.alloc (.cells ((spl s).map pV).toArray 9):=by
 obtain⟨m,j⟩:=j;refine(Any.strings_Split lays146 info9 ⟨s.toArray⟩ ⟨#[47]⟩ m w (by rw[txt_len];omega) j (by decide)).mono ?_;rintro e w' ⟨rfl,rfl⟩;have hc:Lib.countB ⟨s.toArray⟩ ⟨#[47]⟩=Lib.count s [47]:=rfl;have hd:=Lib.splitB_data ⟨#[47]⟩ 0 (Lib.count s [47]) ⟨s.toArray⟩
 have h:(Lib.splitB ⟨#[47]⟩ 0 (Lib.count s [47]) ⟨s.toArray⟩).map (·.data.toList)=spl s:=hd.trans (Oq s);have A:(spl s).length=Lib.count s [47]+1:=YQ (s.length+1) s (Wz8 _);have hv:(Lib.splitB ⟨#[47]⟩ 0 (Lib.count s [47]) ⟨s.toArray⟩).map Value.string=(spl s).map pV:=by
  rw[<-h,List.map_map];refine List.map_congr_left fun b _=>?_;simp[pV]
 rw[hc,hv,A];exact⟨rfl,rfl⟩
theorem hasPrefix_any (s p:List UInt8) (w:World):Calls prog 66 #[.string ⟨s.toArray⟩,.string ⟨p.toArray⟩] w fun e w'=>e=.returned (.bool (Lib.hasPrefix s p))/\w'=w :=
 Any.strings_HasPrefix lays99 ⟨s.toArray⟩ ⟨p.toArray⟩ w
theorem hasSuffix_any (s p:List UInt8) (hs:s.length<=100000) (w:World):Calls prog 78 #[.string ⟨s.toArray⟩,.string ⟨p.toArray⟩] w fun e w'=>e=.returned (.bool (Lib.hasSuffix s p))/\w'=w :=
 Any.strings_HasSuffix lays100 ⟨s.toArray⟩ ⟨p.toArray⟩ w (by rw[txt_len];omega)
theorem XY (s p:List UInt8) (hs:s.length<=100000) (w:World) (h:Mx w):Calls prog 98 #[.string ⟨s.toArray⟩,.string ⟨p.toArray⟩] w fun e w'=>e=.returned (.bool (Lib.contains s p))/\w'=w:=by
 obtain⟨m,h⟩:=h;exact Any.strings_Contains lays144 ⟨s.toArray⟩ ⟨p.toArray⟩ m w (by rw[txt_len];omega) h
theorem zkQ (s:List UInt8):∀ p ∈ spl s,p.length<=s.length:=by
 induction s with
 | nil=>intro p h;simp[spl] at h;subst h;simp
 | cons c t j =>
  intro p h;rw[spl] at h;split at h
  ·rcases Wqj.1 h with rfl | h
   ·simp
   have:=j p h;simp;omega
  cases A:spl t with
  | nil=>exact absurd A (VX t)
  | cons q D =>
   rw[A] at h j;rcases Wqj.1 h with rfl | h
   ·have:=j q (by simp);simp;omega
   have:=j p (by simp[h]);simp;omega
set_option maxRecDepth 100000 in
theorem T9 (s:List UInt8) (hs:s.length<=100000) (w:World) (hm:Mx w) :
  Calls prog 96 #[.string ⟨s.toArray⟩] w fun e w'=>e=.returned (.bool ((spl s).all partOk && ((spl s).headD [] == [114,101,102,115]) && decide (1<(spl s).length)))/\Below w.heap.size w w':=by
 obtain⟨S,HS⟩:=nm_ (⟨s.toArray⟩:ByteArray);obtain⟨ps,HP⟩:=nm_ (spl s);obtain⟨n,K⟩:=nm_ ps.length;have ae:0<n:=by rw[<-K.out,<-HP.out];exact List.length_pos_iff.2 (VX s)
 have aj:n<=100001:=by
  rw[<-K.out,<-HP.out];have:=YQ (s.length+1) s (Wz8 _);have h2:∀ s:List UInt8,(spl s).length<=s.length+1:=by
   intro s;induction s with
   | nil=>simp[spl]
   | cons c t ih =>
    rw[spl];split
    ·simp;omega
    cases hq:spl t with
    | nil=>simp
    | cons q qs=>rw[hq] at ih;simp at ih ⊢;omega
  have:=h2 s;omega
 have a8:Hid (∀ p ∈ ps,p.length<=100000):=hid (by rw[<-HP.out];intro p J;have:=zkQ s p J;omega);obtain⟨G,HG⟩:=nm_ w.heap.size;obtain⟨w1,Y⟩:=nm_ (w.alloc (.cells (ps.map pV).toArray 9));have C10:Hid (Calls prog 120 #[.string S,.string ⟨#[47]⟩] w fun e w'=>e=.returned (.slice (some ⟨G,0,none⟩) n n)/\w'=w1):=hid (by
  have:=Ox s hs w hm;rw[HS.out,HP.out,K.out,HG.out,Y.out] at this;exact this)
 have HB:Hid (Below w.heap.size w w1):=hid (by rw[<-Y.out];exact(Below.refl _ w).alloc (Wz8 _) _);have HC:Hid (∀ k p,ps[k]? = some p->w1.cell? ⟨G,k,none⟩=some (pV p)):=fun k p h=>by
  rw[<-Y.out,<-HG.out];simp[List.getElem?_map,h]
 obtain⟨r,j⟩:=nm_ (ps.all partOk && (ps.headD [] == [114,101,102,115]) && decide (1<ps.length));rw[HS.out,HP.out,j.out];go_enter func96,ntmps96;go_wp2_with fail
 refine C10.out.mono ?_;rintro e w' ⟨rfl,hw⟩;have ag:=hw.symm;subst ag;clear hw;go_wp2;go_loopg [10] n (fun g i wr=>∃ k:Nat,k<=n/\g=n-k/\i=.int .i64 k/\Hid (∀ p ∈ ps.take k,partOk p=true)/\Hid (wr=w1));case atStart=>exact⟨0,Wqw _,rfl,rfl,hid (by simp),hid rfl⟩
 obtain⟨k,hk,hg,rfl,HD,HW⟩:=hrel;have ah:=HW.out;subst ah;clear HW;by_cases ad:k<n;rotate_left
 ·have a7:¬ (k:Int)<(n:Int):=by omega
  have A:Hid (ps.all partOk=true):=hid (by
   have h:=HD.out;rw[Wq0 (by rw[K.out];omega)] at h;exact Wqq.2 h)
  obtain⟨p,J⟩:∃ p,ps[0]? = some p:=⟨_,List.getElem?_eq_getElem (by rw[K.out];exact ae)⟩;have HH:Hid (ps.headD []=p):=hid (by cases ps with | nil=>cases J | cons q qs=>simpa using J);obtain⟨X,HX⟩:=nm_ (⟨p.toArray⟩:ByteArray);have Z:wr.cell? ⟨G,0,none⟩=some (.string X):=by rw[<-HX.out];exact HC.out 0 p J
  have I:Hid (X.toList=p):=hid (by rw[<-HX.out,Lib.toList_data]);have ai:(0:Int)<(n:Int):=by omega
  clear J;by_cases hr:p=[114,101,102,115]
  ·have he:(X.toList == [114,101,102,115])=true:=(by rw[I.out];simpa using hr);have L:(p == [114,101,102,115])=true:=(by simpa using hr);by_cases h1:1<n
   ·have ac:(1:Int)<(n:Int):=(by omega);go_wp2;go_ret;exact⟨by rw[<-j.out,A.out,HH.out,K.out,L,decide_eq_true h1];rfl,HB.out⟩
   have ac:¬ (1:Int)<(n:Int):=(by omega);go_wp2;go_ret;exact⟨by rw[<-j.out,A.out,HH.out,K.out,L,decide_eq_false h1];rfl,HB.out⟩
  have he:(X.toList == [114,101,102,115])=false:=by rw[I.out];simpa using hr
  have L:(p == [114,101,102,115])=false:=by simpa using hr
  go_wp2;go_ret;exact⟨by rw[<-j.out,A.out,HH.out,K.out,L];rfl,HB.out⟩
 have a7:(k:Int)<(n:Int):=by omega
 obtain⟨p,J⟩:∃ p,ps[k]? = some p:=⟨_,List.getElem?_eq_getElem (by rw[K.out];exact ad)⟩;have V:Hid (ps[k]? = some p):=J;obtain⟨X,HX⟩:=nm_ (⟨p.toArray⟩:ByteArray);have Z:wr.cell? ⟨G,k,none⟩=some (.string X):=by rw[<-HX.out];exact HC.out k p J
 have D:Hid (partOk p=false->(ps.all partOk && (ps.headD [] == [114,101,102,115]) && decide (1<ps.length))=false):=fun hb=>by
  have:ps.all partOk=false:=by
   rw[Bool.eq_false_iff];intro h;have:=Wqq.1 h p (List.mem_of_getElem? V.out);rw[hb] at this;cases this
  rw[this];rfl
 obtain⟨a,HA⟩:=nm_ (Lib.hasPrefix p [46]);obtain⟨b,a6⟩:=nm_ (Lib.hasSuffix p [46,108,111,99,107]);have O:Hid (∀ w,Calls prog 66 #[.string X,.string ⟨#[46]⟩] w fun e w'=>e=.returned (.bool a)/\w'=w):=fun w=>by rw[<-HX.out,<-HA.out];exact hasPrefix_any p [46] w
 have C9:Hid (∀ w,Calls prog 78 #[.string X,.string ⟨#[46,108,111,99,107]⟩] w fun e w'=>e=.returned (.bool b)/\w'=w):=fun w=>by rw[<-HX.out,<-a6.out];exact hasSuffix_any p [46,108,111,99,107] (a8.out p (List.mem_of_getElem? V.out)) w
 have I:Hid (X.toList.isEmpty=p.isEmpty):=hid (by rw[<-HX.out,Lib.toList_data]);clear J;cases M:p.isEmpty with
 | true =>
  have he:X.toList.isEmpty=true:=by rw[I.out];exact M
  have HR:=D.out (by unfold partOk;rw[M];rfl);go_wp2;go_ret;exact⟨by rw[<-j.out,HR];rfl,HB.out⟩
 | false =>
  have he:X.toList.isEmpty=false:=by rw[I.out];exact M
  have Q:Hid (partOk p=(!a && !b)):=hid (by unfold partOk;rw[M,HA.out,a6.out];rfl);cases a with
  | true =>
   have HR:=D.out Q.out;go_wp2_with (go_at_call 66;refine(O.out _).mono ?_;rintro e w' ⟨rfl,rfl⟩)
   go_ret;exact⟨by rw[<-j.out,HR];rfl,HB.out⟩
  | false =>
   cases b with
   | true =>
    have HR:=D.out Q.out;go_wp2_with (first
     | (go_at_call 66;refine(O.out _).mono ?_;rintro e w' ⟨rfl,rfl⟩)
     | (go_at_call 78;refine(C9.out _).mono ?_;rintro e w' ⟨rfl,rfl⟩))
    go_ret;exact⟨by rw[<-j.out,HR];rfl,HB.out⟩
   | false =>
    go_wp2_with (first
     | (go_at_call 66;refine(O.out _).mono ?_;rintro e w' ⟨rfl,rfl⟩)
     | (go_at_call 78;refine(C9.out _).mono ?_;rintro e w' ⟨rfl,rfl⟩))
    go_roundg (n-(k+1));case measure=>omega
    refine⟨k+1,by omega,rfl,by go_num,hid ?_,hid rfl⟩;rw[Wqv,V.out];intro y hy;rcases Wqx.1 hy with hy | hy
    ·exact HD.out y hy
    have:y=p:=(by simpa using hy);subst this;exact Q.out
end Go.Proofs.YtdnphaganajejaaGreatDoor.Nm
namespace Go.Proofs.YtdnphaganajejaaGreatDoor.K
open Go.Proofs.Tryz
open Go.RowKit
abbrev pN (p:Option Nat):Value:=.pointer (p.map fun b=>⟨b,0,none⟩)
abbrev Mo:=Str × Option Nat
def mvE (m:Mo):List Value:=[sV m.1,pN m.2]
def mv1 (M:Str->Option Value) (m:Mo):Str->Option Value:=fun y=>if y=m.1 then m.2.map fun b=>.pointer (some ⟨b,0,none⟩) else M y
def mvM (M:Str->Option Value) (l:List Mo):Str->Option Value:=l.foldl mv1 M
theorem zqX (M:Str->Option Value) (l:List Mo) (i:Nat) (h:i<l.length):mvM M (l.take (i+1))=mv1 (mvM M (l.take i)) (l.getD i ([],none)):=by
 rw[qk ([],none) l i h];simp[mvM]
theorem DV {w:World} {b off g:Nat} {v:Value} {l:List Value} {es:Array MapEntry} {ck:Nat} (h:w.rangeAt b off (v :: l)) (j:w.heap[g]? = some (.map es ck)):b ≠ g:=by
 rintro rfl;have:=h 0 v rfl;simp[World.cell?,j] at this
theorem TM.ne {z:Value} {w:World} {g n:Nat} {M:Str->Option Value} (h:TM z w g n M) {b off:Nat} {v:Value} {l:List Value} (hr:w.rangeAt b off (v :: l)):b ≠ g:=by
 obtain⟨D,⟨es,ck,hb,_⟩,_⟩:=h;exact DV hr hb
theorem TM.alloc {z:Value} {w:World} {g n:Nat} {M:Str->Option Value} (h:TM z w g n M) (o:Obj):TM z (w.alloc o) g n M:=h.sm (Below.heap_alloc _ _ _ h.lt)
theorem TM.mono {z:Value} {w:World} {g n j:Nat} {M:Str->Option Value} (h:TM z w g n M) (I:n<=j):TM z w g j M:=by
 obtain⟨D,A,G⟩:=h;exact⟨D,A.mono I,G⟩
theorem results27:f27.results=#[]:=by kernel_rfl
theorem Tz (g n:Nat) (a:Option Addr) (c:Nat) (l:List Mo) (M:Str->Option Value) (w:World) (hT:TM (.pointer none) w g n M) (hP:Px mvE 2 ([],none) w a c l) (hl:n+l.length<=100000) (hx:∀ m ∈ l,m.1.length<=4000) :
  Calls prog 27 #[.map (some g),.slice a l.length c] w fun e w'=>e=.returned (.tuple #[])/\TM (.pointer none) w' g (n+l.length) (mvM M l)/\w.grownBy w' (some g):=by
 obtain⟨N,A⟩:=nm_ l.length;have a8:n+N<=100000:=by rw[<-A.out];exact hl
 have O:Hid (0<N->∃ b off,a=some ⟨b,off,none⟩/\b ≠ g/\b<w.heap.size):=fun h0=>by
  obtain⟨b,off,e1,e2,e3⟩:=hP.at_ (by rw[A.out];exact h0);exact⟨b,off,e1,hT.ne (by simpa [mvE] using e3 0 (by rw[A.out];exact h0)),e2⟩
 have a6:Hid (∀ W,w.grownBy W (some g)->0<N->Px mvE 2 ([],none) W a c l):=fun W hW h0=>hP.grown (fun p hp=>by obtain⟨b,off,e1,e2,_⟩:=O.out h0;rw[e1] at hp;cases hp;exact e2) hW;have HX:Hid (∀ m ∈ l,m.1.length<=4000):=hx;have HT:Hid (TM (.pointer none) w g n M):=hT;rw[A.out];clear hP hl hx hT;go_enter func27,ntmps27;go_wp2_with fail
 go_loopg [8] N (fun q iv wr=>∃ i:Nat,iv=.int .i64 i/\q=N-i/\i<=N/\Hid (TM (.pointer none) wr g (n+i) (mvM M (l.take i)))/\Hid (w.grownBy wr (some g)));case atStart=>exact⟨0,rfl,rfl,Wqw _,HT,hid ⟨rfl,rfl,rfl,Wz8 _,fun _ _ _=>rfl⟩⟩
 obtain⟨i,rfl,hg,ae,HB,HW⟩:=hrel;by_cases J:i<N;rotate_left
 ·have Z:¬ (i:Int)<(N:Int):=by omega
  obtain rfl:i=N:=by omega
  have HQ:Hid (TM (.pointer none) wr g (n+i) (mvM M l)):=hid (by have:=HB.out;rw[Wq0 (by rw[A.out];exact Wz8 _)] at this;exact this);go_wp2;exact bodyPost_end (results_none results27 _ _ _) rfl ⟨rfl,HQ.out,HW.out⟩
 have Z:(i:Int)<(N:Int):=by omega
 obtain⟨b,off,a7,ac,ad⟩:=O.out (by omega);subst a7;obtain⟨m,HM⟩:=nm_ (l.getD i ([],none));have K:m.1.length<=4000:=HX.out m (by rw[<-HM.out];exact zQ l i _ (by rw[A.out];exact J));obtain⟨_,_,e1,_,e3⟩:=(a6.out wr HW.out (by omega)).at_ (by rw[A.out];omega);cases e1
 have e4:=e3 i (by rw[A.out];exact J);rw[HM.out] at e4;have Y:wr.cell? ⟨b,off+i*2,none⟩=some (sV m.1):=e4 0 _ rfl;have I:wr.cell? ⟨b,off+i*2+1,none⟩=some (pN m.2):=e4 1 _ rfl;obtain⟨x,p⟩:=m;simp only at Y I K;unfold sV at Y;have Q:Hid (mvM M (l.take (i+1))=mv1 (mvM M (l.take i)) (x,p)):=hid (by rw[zqX M l i (by rw[A.out];exact J),HM.out])
 have HF:∀ (W:World),w.grownBy W (some g)->∀ w2,W.grownBy w2 (some g)->w.grownBy w2 (some g):=fun W L w2 V=>⟨V.os.trans L.os,V.tape.trans L.tape,V.output.trans L.output,Wz9 L.size V.size,fun k hk hn=>(V.block k (Wq2 hk L.size) hn).trans (L.block k hk hn)⟩
 have HA:∀ o,w.grownBy (wr.alloc o) (some g):=fun o=>HF _ HW.out _ (World.grownBy_alloc wr o _);cases p with
 | none =>
  simp only[pN,Option.map_none] at I;obtain⟨w2,hr,h,j⟩:=(HB.out.alloc (.cells #[.string ⟨x.toArray⟩,.pointer none] 154)).del Zj K 0;have D:Hid (TM (.pointer none) w2 g (n+(i+1)) (mvM M (l.take (i+1)))):=hid (by rw[Q.out];exact h.mono (by omega));have G:Hid (w.grownBy w2 (some g)):=hid (HF _ (HA _) _ j);unfold sV at hr;clear h j
  go_wp2_with (at_delete;refine z8 rfl _ (Uz rfl rfl rfl hr) ?_)
  go_roundg (N-(i+1));case measure=>omega
  case rel=>exact⟨i+1,by go_num,rfl,by omega,D,G⟩
 | some q =>
  simp only[pN,Option.map_some] at I;obtain⟨w2,hr,h,j⟩:=(HB.out.alloc (.cells #[.string ⟨x.toArray⟩,.pointer (some ⟨q,0,none⟩)] 154)).put (by omega) Zj K (.pointer (some ⟨q,0,none⟩));have D:Hid (TM (.pointer none) w2 g (n+(i+1)) (mvM M (l.take (i+1)))):=hid (by rw[Q.out];exact h);have G:Hid (w.grownBy w2 (some g)):=hid (HF _ (HA _) _ j);unfold sV at hr
  clear h j;go_wp2_with (at_mapUpdate;refine xK rfl (xq rfl rfl rfl rfl hr) ?_)
  go_roundg (N-(i+1));case measure=>omega
  case rel=>exact⟨i+1,by go_num,rfl,by omega,D,G⟩
structure Al (S:Nat->Prop) (w w':World):Prop where
 os:w'.os=w.os
 tape:w'.tape=w.tape
 output:w'.output=w.output
 size:w.heap.size<=w'.heap.size
 blk:∀ i,i<w.heap.size->¬ S i->w'.heap[i]? = w.heap[i]?
abbrev Sx (S:Nat->Prop) (w w':World):Nat->Prop:=fun i=>S i ∨ (w.heap.size<=i/\i<w'.heap.size)
theorem Al.refl (S:Nat->Prop) (w:World):Al S w w:=⟨rfl,rfl,rfl,Wz8 _,fun _ _ _=>rfl⟩
theorem Al.trans {S S':Nat->Prop} {a b c:World} (h:Al S a b) (k:Al S' b c) (D:∀ i,S' i->S i ∨ a.heap.size<=i):Al S a c :=
 ⟨k.os.trans h.os,k.tape.trans h.tape,k.output.trans h.output,Wz9 h.size k.size,fun i hi A=>(k.blk i (Wq2 hi h.size) (fun hs=>by rcases D i hs with j | j;exact A j;omega)).trans (h.blk i hi A)⟩
theorem Al.below {S:Nat->Prop} {w w':World} (h:Below w.heap.size w w'):Al S w w':=⟨h.os,h.tape,h.output,h.size,fun i hi _=>h.block i hi⟩
theorem Al.of_grown {S:Nat->Prop} {w w':World} {g:Option Nat} (h:w.grownBy w' g) (j:∀ k,g=some k->S k):Al S w w':=⟨h.os,h.tape,h.output,h.size,fun i hi A=>h.block i hi (fun e=>A (j i e.symm))⟩
theorem Al.of_mv {S:Nat->Prop} {w w':World} {v D:Value} (h:Mv w w' v D) (j:∀ k,v.ownBlock=some k->S k):Al S w w':=⟨h.os,h.tape,h.output,h.size,fun i hi A=>h.blk i hi (fun e=>A (j i e.symm))⟩
theorem Al.of_set {S:Nat->Prop} {w:World} {p:Addr} (h:S p.block) (v:Value):Al S w (w.setCell p v):=⟨rfl,rfl,rfl,by simp[World.setCell],fun i _ j=>Below.heap_setCell _ _ _ _ (fun e=>j (e ▸ h))⟩
def Tf (T:TypeId) (w w':World):Prop := ∀ (i:Nat) (o:Obj),w.heap[i]? = some o->(∀ c f,o ≠ Obj.cells c T f)->(∀ m s e c,o ≠ Obj.mapIter m s e c)->w'.heap[i]? = some o
theorem Tf.trans {T:TypeId} {a b c:World} (h:Tf T a b) (k:Tf T b c):Tf T a c:=fun i o D j A=>k i o (h i o D j A) j A
theorem Tf.below {T:TypeId} {w w':World} (h:Below w.heap.size w w'):Tf T w w':=fun i o j _ _=>(h.block i (z7 j)).trans j
theorem Tf.set {w:World} {p:Addr} {c:Array Value} {T:TypeId} {f:Nat × Nat} (h:w.heap[p.block]? = some (.cells c T f)) (v:Value):Tf T w (w.setCell p v):=fun i o j A _=>by
 by_cases e:i=p.block
 ·subst e;rw[h] at j;cases j;exact absurd rfl (A _ _)
 rw[Below.heap_setCell _ _ _ _ e];exact j
theorem Tf.grown {w w':World} {g:Nat} {es:Array MapEntry} {ck:Nat} (j:w.heap[g]? = some (.map es ck)) (h:w.grownBy w' (some g)) {i:Nat} {c:Array Value} {T:TypeId} {f:Nat × Nat} (hi:w.heap[i]? = some (.cells c T f)):w'.heap[i]? = some (.cells c T f) :=
 (h.block i (z7 hi) (fun e=>by cases e;rw[j] at hi;cases hi)).trans hi
theorem TR.tf {z:Value} {w W:World} {g r n c:Nat} {M:Str->Option Value} {L:Str->Bool} (h:TR z w g r n M L c) (G:w.grownBy W (some r)) (T:TypeId):Tf T w W:=fun i o j _ A=>by
 obtain⟨D,lf,⟨es,ck,J,I,c0,hb,_,_,_,hr,_⟩,_⟩:=h;refine(G.block i (z7 j) fun e=>?_).trans j;cases e
 rw[hr] at j;cases j
 exact A _ _ _ _ rfl
theorem TM.box {z:Value} {w:World} {g n:Nat} {M:Str->Option Value} (h:TM z w g n M):∃ es ck,w.heap[g]? = some (.map es ck):=by
 obtain⟨D,⟨es,ck,hb,_⟩,_⟩:=h;exact⟨es,ck,hb⟩
theorem TM.tf {z:Value} {w W:World} {g n:Nat} {M:Str->Option Value} {T:TypeId} (h:TM z w g n M) (j:Tf T w W):TM z W g n M:=by
 obtain⟨es,ck,hb⟩:=h.box;exact h.sm ((j g _ hb (fun c f e=>by cases e) (fun _ _ _ _ e=>by cases e)).trans hb.symm)
structure Fi where
 B:Nat
 v:Value
 s:Int
 zs:List Int
structure Nd (w:World) (f:Fi):Prop where
 box:w.heap[f.B]? = some (.cells #[f.v,.int .i64 f.s] 84 (0,0))
 own:w.ownsRow 0 5 1 f.v f.zs.length (row .u8 f.zs)
theorem zK {T e k n B:Nat} {w W:World} {v:Value} {xs:List Value} (h:w.ownsRow B e k v n xs) (G:Tf T w W) (A:T ≠ e):W.ownsRow B e k v n xs:=by
 obtain⟨j,h | ⟨g,cap,cur,hv,hb,D,r⟩⟩:=h
 ·exact⟨j,.inl h⟩
 exact⟨j,.inr ⟨g,cap,cur,hv,hb,G g _ D (fun c f e=>by cases e;exact A rfl) (fun _ _ _ _ e=>by cases e),r⟩⟩
theorem Nd.tf {T:TypeId} {w W:World} {f:Fi} (h:Nd w f) (j:Tf T w W) (A:T ≠ 84) (D:T ≠ 5):Nd W f:=⟨j _ _ h.box (fun c q e=>by cases e;exact A rfl) (fun _ _ _ _ e=>by cases e),zK h.own j D⟩
theorem vw {e k n B g:Nat} {w W:World} {v:Value} {xs:List Value} {es:Array MapEntry} {ck:Nat} (h:w.ownsRow B e k v n xs) (G:w.heap[g]? = some (.map es ck)) (D:w.grownBy W (some g)):W.ownsRow B e k v n xs:=by
 obtain⟨j,h | ⟨A,cap,cur,hv,hb,I,r⟩⟩:=h
 ·exact⟨j,.inl h⟩
 exact⟨j,.inr ⟨A,cap,cur,hv,hb,Tf.grown G D I,r⟩⟩
theorem Nd.gr {g:Nat} {w W:World} {f:Fi} {es:Array MapEntry} {ck:Nat} (h:Nd w f) (A:w.heap[g]? = some (.map es ck)) (j:w.grownBy W (some g)):Nd W f:=⟨Tf.grown A j h.box,vw h.own A j⟩
abbrev Ml:=Option Addr × Nat × List Mo
def e1 (p:Ml):List Value:=[.slice p.1 p.2.2.length p.2.1]
theorem Px.tf {α:Type} {enc:α->List Value} {k:Nat} {d:α} {w W:World} {a:Option Addr} {cap:Nat} {l:List α} (h:Px enc k d w a cap l) (hb:∀ q:Addr,a=some q->W.heap[q.block]? = w.heap[q.block]?) (hs:w.heap.size<=W.heap.size):Px enc k d W a cap l :=
 ⟨h.capl,fun h0=>by
  obtain⟨b,off,e1,A,D⟩:=h.at_ h0
  refine⟨b,off,e1,Wq2 A hs,fun i hi j v hv=>?_⟩
  rw[World.cell?_of_block (a:=⟨b,off+i*k+j,none⟩) (show W.heap[b]? = w.heap[b]? from hb _ e1)]
  exact D i hi j v hv,h.nil⟩
structure LZ (S:Nat->Prop) (w:World) (p:Ml):Prop where
 px:Px mvE 2 ([],none) w p.1 p.2.1 p.2.2
 few:p.2.2.length<=2
 nm:∀ m ∈ p.2.2,m.1.length<=4000
 at_:∀ q:Addr,p.1=some q->S q.block/\∃ cs f,w.heap[q.block]? = some (.cells cs 154 f)
theorem LZ.to {S S':Nat->Prop} {w W:World} {p:Ml} (h:LZ S w p) (D:∀ i,S i->S' i) (hs:w.heap.size<=W.heap.size) (hb:∀ (i:Nat) (cs:Array Value) (f:Nat × Nat),w.heap[i]? = some (Obj.cells cs 154 f)->W.heap[i]? = some (Obj.cells cs 154 f)):LZ S' W p:=by
 refine⟨h.px.tf (fun q j=>?_) hs,h.few,h.nm,fun q j=>?_⟩
 ·obtain⟨_,cs,f,hc⟩:=h.at_ q j;exact(hb _ _ _ hc).trans hc.symm
 obtain⟨A,cs,f,hc⟩:=h.at_ q j;exact⟨D _ A,cs,f,hb _ _ _ hc⟩
structure G7 (S:Nat->Prop) (w:World) (mv:Value) (ls:List Ml):Prop where
 row:w.ownsRow 0 79 1 mv ls.length (ls.flatMap e1)
 at_:∀ p ∈ ls,LZ S w p
 own:∀ k,mv.ownBlock=some k->S k
theorem G7.to {S S':Nat->Prop} {w W:World} {mv:Value} {ls:List Ml} (h:G7 S w mv ls) (j:∀ i,S i->S' i) (hs:w.heap.size<=W.heap.size) (hb:∀ (i:Nat) (cs:Array Value) (T:TypeId) (f:Nat × Nat),T=79 ∨ T=154->w.heap[i]? = some (Obj.cells cs T f)->W.heap[i]? = some (Obj.cells cs T f)):G7 S' W mv ls:=by
 refine⟨?_,fun p K=>(h.at_ p K).to j hs fun i cs f=>hb i cs _ f (.inr rfl),fun k J=>j _ (h.own k J)⟩;obtain⟨A,D | ⟨g,cap,cur,hv,G,I,r⟩⟩:=h.row
 ·exact⟨A,.inl D⟩
 exact⟨A,.inr ⟨g,cap,cur,hv,G,hb _ _ _ _ (.inl rfl) I,r⟩⟩
theorem Tf.of {T:TypeId} {w W:World} (h:Tf T w W) {i:Nat} {cs:Array Value} {U:TypeId} {f:Nat × Nat} (j:T ≠ U) (hi:w.heap[i]? = some (.cells cs U f)):W.heap[i]? = some (.cells cs U f):=h i _ hi (fun c f e=>by cases e;exact j rfl) (fun _ _ _ _ e=>by cases e)
theorem G7.tf {S:Nat->Prop} {T:TypeId} {w W:World} {mv:Value} {ls:List Ml} (h:G7 S w mv ls) (G:Tf T w W) (hs:w.heap.size<=W.heap.size) (j:T ≠ 79) (A:T ≠ 154):G7 S W mv ls:=h.to (fun _ h=>h) hs fun i cs U f D hi=>G.of (by rcases D with rfl | rfl;exact j;exact A) hi
theorem G7.mono {S S':Nat->Prop} {w:World} {mv:Value} {ls:List Ml} (h:G7 S w mv ls) (j:∀ i,S i->S' i):G7 S' w mv ls:=h.to j (Wz8 _) fun _ _ _ _ _ h=>h
def pr:Str:=[112,97,99,107,101,100,45,114,101,102,115]
def nw:Str:=pr++[46,110,101,119]
theorem X9:nw ≠ pr:=by decide
abbrev Nm:=Str->Option Nat
abbrev Ds:=Ra.As Str
def pt (f:Nm):Str->Option Value:=fun x=>(f x).map fun b=>.pointer (some ⟨b,0,none⟩)
theorem DW (l:List Mo):∀ f:Nm,mvM (pt f) l=pt (Ra.nmL f l):=by
 induction l with
 | nil=>intro f;rfl
 | cons m l h =>
  intro f;show mvM (mv1 (pt f) m) l=pt (Ra.nmL (Ra.nm1 f m) l);rw[<-h];congr 1;funext y;unfold mv1 pt Ra.nm1;by_cases e:y=m.1 <;> simp[e]
def dB (g gs:Nat) (mv:Value) (rm wt bd:Int):Obj:=.cells #[.map (some g),.map (some gs),mv,.int .i64 rm,.int .i64 wt,.int .i64 bd] 63 (0,0)
structure Dg where
 vs:Nat->Value
 g:Nat
 gs:Nat
 mv:Value
 n:Nat
 ns:Nat
 ls:List Ml
 rm:Int
structure Ctr (q:Bool) (wt bd:Int):Prop where
 w0:0<=wt
 w1:wt<=9223372036854775807
 b0:0<=bd
 b1:bd<=9223372036854775807
 qt:q=true->wt=0/\bd=0
structure Dm0 (S:Nat->Prop) (N:Nat) (w:World) (D:Nat) (q:Bool) (a:Ds) (G:Dg):Prop where
 box:∃ wt bd,w.heap[D]? = some (dB G.g G.gs G.mv G.rm wt bd)/\Ctr q wt bd
 now:TM (.pointer none) w G.g G.n (pt a.now)
 safe:TM (.pointer none) w G.gs G.ns (pt a.saf)
 ne:G.g ≠ G.gs
 nds:∀ B zs s,a.nd B=some (zs,s)->Nd w ⟨B,G.vs B,(s:Int),zs⟩/\S B/\∀ k,(G.vs B).ownBlock=some k->S k
 sep:∀ B C c d,a.nd B=some c->a.nd C=some d->B ≠ C->(G.vs B).ownBlock=none ∨ (G.vs B).ownBlock ≠ (G.vs C).ownBlock
 mv:G7 S w G.mv G.ls
 ml:G.ls.map (·.2.2)=a.mvs
 few:G.n<=N/\G.ns+2*G.ls.length<=N
 own:S D/\S G.g/\S G.gs
 wf:Ra.Wf a
 two:∀ k x,a.at_ k x ≠ none->x=pr ∨ x=nw
 ln:∀ B zs s,a.nd B=some (zs,s)->(zs.length:Int)<=G.rm
 rmb:0<=G.rm/\G.rm<=100000
def Dm (S:Nat->Prop) (N:Nat) (w:World) (D:Nat) (q:Bool) (a:Ds):Prop := ∃ G,Dm0 S N w D q a G
theorem Dm0.c0 {S:Nat->Prop} {N D:Nat} {w:World} {q:Bool} {a:Ds} {G:Dg} (h:Dm0 S N w D q a G):w.cell? ⟨D,0,none⟩=some (.map (some G.g))/\w.cell? ⟨D,1,none⟩=some (.map (some G.gs))/\w.cell? ⟨D,2,none⟩=some G.mv/\w.cell? ⟨D,3,none⟩=some (.int .i64 G.rm)/\∀ i,w.frozen? ⟨D,i,none⟩=false:=by
 obtain⟨wt,bd,hb,_⟩:=h.box;unfold dB at hb;exact⟨by simp[World.cell?,hb],by simp[World.cell?,hb],by simp[World.cell?,hb],by simp[World.cell?,hb],fun i=>by simp[World.frozen?,hb]⟩
theorem Dm0.tf {S:Nat->Prop} {N D:Nat} {w W:World} {q:Bool} {a:Ds} {G:Dg} (h:Dm0 S N w D q a G) {T:TypeId} (A:Tf T w W) (hs:w.heap.size<=W.heap.size) (j:T ≠ 63/\T ≠ 84/\T ≠ 5/\T ≠ 79/\T ≠ 154):Dm0 S N W D q a G:=by
 obtain⟨wt,bd,hb,hc⟩:=h.box;exact⟨⟨wt,bd,A.of j.1 hb,hc⟩,h.now.tf A,h.safe.tf A,h.ne,fun B zs s hB=>by obtain⟨a,b⟩:=h.nds B zs s hB;exact⟨a.tf A j.2.1 j.2.2.1,b⟩,h.sep,h.mv.tf A hs j.2.2.2.1 j.2.2.2.2,h.ml,h.few,h.own,h.wf,h.two,h.ln,h.rmb⟩
theorem Dm0.below {S:Nat->Prop} {N D:Nat} {w W:World} {q:Bool} {a:Ds} {G:Dg} (h:Dm0 S N w D q a G) (hb:Below w.heap.size w W):Dm0 S N W D q a G:=h.tf (T:=0) (.below hb) hb.size (by decide)
theorem Dm0.mono {S S':Nat->Prop} {N N' D:Nat} {w:World} {q:Bool} {a:Ds} {G:Dg} (h:Dm0 S N w D q a G) (j:∀ i,S i->S' i) (I:N<=N'):Dm0 S' N' w D q a G :=
 ⟨h.box,h.now,h.safe,h.ne,fun B zs s hB=>by obtain⟨a,b,c⟩:=h.nds B zs s hB;exact⟨a,j _ b,fun k A=>j _ (c k A)⟩,h.sep,h.mv.mono j,h.ml,⟨by have:=h.few;omega,by have:=h.few;omega⟩,⟨j _ h.own.1,j _ h.own.2.1,j _ h.own.2.2⟩,h.wf,h.two,h.ln,h.rmb⟩
theorem Dm.below {S:Nat->Prop} {N D:Nat} {w W:World} {q:Bool} {a:Ds} (h:Dm S N w D q a) (hb:Below w.heap.size w W):Dm S N W D q a:=by
 obtain⟨G,h⟩:=h;exact⟨G,h.below hb⟩
theorem Dm.tf {S:Nat->Prop} {N D:Nat} {w W:World} {q:Bool} {a:Ds} (h:Dm S N w D q a) {T:TypeId} (A:Tf T w W) (hs:w.heap.size<=W.heap.size) (j:T ≠ 63/\T ≠ 84/\T ≠ 5/\T ≠ 79/\T ≠ 154):Dm S N W D q a:=by
 obtain⟨G,h⟩:=h;exact⟨G,h.tf A hs j⟩
theorem Dm.mono {S S':Nat->Prop} {N N' D:Nat} {w:World} {q:Bool} {a:Ds} (h:Dm S N w D q a) (A:∀ i,S i->S' i) (j:N<=N'):Dm S' N' w D q a:=by
 obtain⟨G,h⟩:=h;exact⟨G,h.mono A j⟩
theorem Dm0.ctr {S:Nat->Prop} {N D:Nat} {w W:World} {q I:Bool} {a:Ds} {G:Dg} (h:Dm0 S N w D q a G) (hs:W.heap.size=w.heap.size) (hb:∀ i,i ≠ D->W.heap[i]? = w.heap[i]?) {wt bd:Int} (hx:W.heap[D]? = some (dB G.g G.gs G.mv G.rm wt bd)) (hc:Ctr I wt bd):Dm0 S N W D I a G:=by
 obtain⟨_,_,K,_⟩:=h.box;have j:Tf 63 w W:=fun i o A J _=>(hb i (fun e=>by rw[e,K] at A;cases A;exact J _ _ rfl)).trans A;exact⟨⟨wt,bd,hx,hc⟩,h.now.tf j,h.safe.tf j,h.ne,fun B zs s hB=>by obtain⟨a,b⟩:=h.nds B zs s hB;exact⟨a.tf j (by decide) (by decide),b⟩,h.sep,h.mv.tf j (by omega) (by decide) (by decide),h.ml,h.few,h.own,h.wf,h.two,h.ln,h.rmb⟩
theorem zV {w:World} {D:Nat} {c:Array Value} {T:TypeId} {f:Nat × Nat} (h:w.heap[D]? = some (.cells c T f)) (j:Nat) (v:Value):(w.setCell ⟨D,j,none⟩ v).heap[D]? = some (.cells (c.setIfInBounds j v) T f):=by
 simp[World.setCell,Array.getElem?_modify,h]
theorem results82:f82.results=#[.tmp 2]:=by kernel_rfl
def qvq (S:Nat->Prop) (N D:Nat) (q:Bool) (a:Ds) (G:Dg) (w:World) (e:Ending) (w':World):Prop := ∃ b,e=.returned (.bool b)/\(b=true->q=false)/\Dm0 S N w' D q a G/\Al S w w'/\(q=true->w'=w)
theorem VJ (S:Nat->Prop) (N D:Nat) (q:Bool) (a:Ds) (G:Dg) (w:World) (h:Dm0 S N w D q a G) :
  Calls prog 82 #[.pointer (some ⟨D,0,none⟩)] w (qvq S N D q a G w):=by
 obtain⟨wt,bd,hb,hc⟩:=h.box;have hS:=h.own.1;have h4:w.cell? ⟨D,4,none⟩=some (.int .i64 wt):=by unfold dB at hb;simp[World.cell?,hb]
 have h5:w.cell? ⟨D,5,none⟩=some (.int .i64 bd):=by unfold dB at hb;simp[World.cell?,hb]
 have K:=h.c0.2.2.2.2;have a6:=K 4;have a7:=K 5;have A:∀ (j:Nat) (v:Value),Al S w (w.setCell ⟨D,j,none⟩ v)/\(w.setCell ⟨D,j,none⟩ v).heap.size=w.heap.size/\∀ i,i ≠ D->(w.setCell ⟨D,j,none⟩ v).heap[i]? = w.heap[i]? := fun j v=>⟨Al.of_set (S:=S) (p:=⟨D,j,none⟩) hS v,by simp[World.setCell],fun i hi=>Below.heap_setCell _ _ _ _ hi⟩;have V:=hc.w0;have Y:=hc.w1
 have M:=hc.b0;have O:=hc.b1;by_cases hw:0<wt
 ·have J:Dm0 S N (w.setCell ⟨D,4,none⟩ (.int .i64 (wt-1))) D q a G/\Al S w (w.setCell ⟨D,4,none⟩ (.int .i64 (wt-1))):=by
   obtain⟨x1,x2,x3⟩:=A 4 (.int .i64 (wt-1));refine⟨h.ctr x2 x3 (wt:=wt-1) (bd:=bd) (by unfold dB at hb;rw[zV hb];rfl) ⟨by omega,by omega,M,O,fun e=>?_⟩,x1⟩;have:=hc.qt e;omega
  have I:=hid J;have L:Hid (∀ W:World,q=true->W=w):=hid fun W e=>by have:=hc.qt e;omega
  have Z:wt > 0:=hw;clear h J A hc hb K;go_enter func82,ntmps82;go_wp2_with fail
  exact bodyPost_ret (results_tmp results82 _ _ _) rfl ⟨false,rfl,fun e=>(by cases e),I.out.1,I.out.2,L.out _⟩
 have Z:¬ wt > 0:=hw;by_cases hd:0<bd
 ·have J:Dm0 S N (w.setCell ⟨D,5,none⟩ (.int .i64 (bd-1))) D q a G/\Al S w (w.setCell ⟨D,5,none⟩ (.int .i64 (bd-1))):=by
   obtain⟨x1,x2,x3⟩:=A 5 (.int .i64 (bd-1));refine⟨h.ctr x2 x3 (wt:=wt) (bd:=bd-1) (by unfold dB at hb;rw[zV hb];rfl) ⟨V,Y,by omega,by omega,fun e=>?_⟩,x1⟩;have:=hc.qt e;omega
  have I:=hid J;have HQ:Hid (q=false):=hid (by cases q with | false=>rfl | true=>have:=(hc.qt rfl).2;omega);have Q:bd > 0:=hd;clear h J A hc hb K;go_enter func82,ntmps82;go_wp2_with fail
  exact bodyPost_ret (results_tmp results82 _ _ _) rfl ⟨true,rfl,fun _=>HQ.out,I.out.1,I.out.2,fun e=>by rw[HQ.out] at e;cases e⟩
 have Q:¬ bd > 0:=hd;have I:=hid h;clear h A hc hb K;go_enter func82,ntmps82;go_wp2_with fail
 exact bodyPost_ret (results_tmp results82 _ _ _) rfl ⟨false,rfl,fun e=>(by cases e),I.out,Al.refl _ _,fun _=>rfl⟩
def Er (b:Nat) (k:Int) (w:World):Prop := ∃ x,w.heap[b]? = some (.cells #[x,.int .i64 k] 177 (0,0))
theorem Er.below {b:Nat} {k:Int} {w W:World} (h:Er b k w) (hb:Below w.heap.size w W):Er b k W:=by
 obtain⟨x,h⟩:=h;exact⟨x,(hb.block b (z7 h)).trans h⟩
theorem Er.tf {b:Nat} {k:Int} {w W:World} {T:TypeId} (h:Er b k w) (A:Tf T w W) (j:T ≠ 177):Er b k W:=by
 obtain⟨x,h⟩:=h;exact⟨x,A.of j h⟩
theorem Er.c1 {b:Nat} {k:Int} {w:World} (h:Er b k w):w.cell? ⟨b,1,none⟩=some (.int .i64 k):=by
 obtain⟨x,h⟩:=h;simp[World.cell?,h]
abbrev eV (b:Nat):Value:=.iface 175 (.pointer (some ⟨b,0,none⟩))
theorem Tq (w:World) (x:Value) (k:Int):Er w.heap.size k (w.alloc (.cells #[x,.int .i64 k] 177)):=⟨x,heap_alloc_new _ _⟩
theorem qK (w:World) (o:Obj):Below w.heap.size w (w.alloc o):=(Below.refl _ w).alloc (Wz8 _) _
theorem results81:f81.results=#[.tmp 4,.tmp 5]:=by kernel_rfl
def FindO (q:Bool) (a:Ds) (x:Str) (w w':World) (v1 v2:Value):Prop:=(∃ b k,v1=.pointer none/\v2=eV b/\w.heap.size<=b/\Er b k w'/\((k=1/\q=false) ∨ (k=3/\a.now x=none))) ∨ (∃ B,a.now x=some B/\v1=.pointer (some ⟨B,0,none⟩)/\v2=.nilIface)
theorem Zk (S:Nat->Prop) (N D:Nat) (q:Bool) (a:Ds) (G:Dg) (x:Str) (w:World) (h:Dm0 S N w D q a G) (hx:x.length<=4000) :
  Calls prog 81 #[.pointer (some ⟨D,0,none⟩),sV x] w fun e w'=>∃ v1 v2,e=.returned (.tuple #[v1,v2])/\FindO q a x w w' v1 v2/\Dm0 S N w' D q a G/\Al S w w'/\(q=true->Below w.heap.size w w'):=by
 have hl:=h.now.look1 Zj (T6 w) hx;have h0:=h.c0.1;have hf:=VJ S N D q a G w h
 have Z:Hid (∀ (w1:World) (k:Int),Dm0 S N w1 D q a G->Al S w w1->Dm0 S N (w1.alloc (.cells #[sV x,.int .i64 k] 177)) D q a G/\Al S w (w1.alloc (.cells #[sV x,.int .i64 k] 177))/\w.heap.size<=w1.heap.size/\Er w1.heap.size k (w1.alloc (.cells #[sV x,.int .i64 k] 177))):=fun w1 k h1 h2=>⟨h1.below (qK _ _),h2.trans (Al.below (S:=S) (qK _ _)) (fun i hi=>.inl hi),h2.size,Tq _ _ _⟩
 clear h;unfold sV at hl ⊢;unfold sV at Z;cases hn:a.now x with
 | none =>
  have hp:pt a.now x=none:=by simp[pt,hn]
  rw[hp,Option.getD_none] at hl;go_enter func81,ntmps81;go_wp2_with (go_at_call 82;refine hf.mono ?_;rintro e w1 ⟨b,rfl,z1,z2,z3,z4⟩;have Z1:=hid z1;have Q:=hid z2;have V:=hid z3;have Y:=hid z4;clear z1 z2 z3 z4 hf;refine Hid.out ?_)
  refine hid ?_;cases b with
  | true =>
   obtain⟨j,A,I,J⟩:=Z.out w1 1 Q.out V.out;have K:=hid j;have L:=hid A;have M:=hid I;have O:=hid J;clear j A I J;go_wp2;exact bodyPost_ret (results_tmp2 results81 _ _ _) rfl ⟨_,_,rfl,.inl ⟨_,_,rfl,rfl,M.out,O.out,.inl ⟨rfl,Z1.out (by simp)⟩⟩,K.out,L.out,fun e=>by rw[Y.out e];exact qK _ _⟩
  | false =>
   obtain⟨j,A,I,J⟩:=Z.out w1 3 Q.out V.out;have K:=hid j;have L:=hid A;have M:=hid I;have O:=hid J;clear j A I J;go_wp2;exact bodyPost_ret (results_tmp2 results81 _ _ _) rfl ⟨_,_,rfl,.inl ⟨_,_,rfl,rfl,M.out,O.out,.inr ⟨rfl,hn⟩⟩,K.out,L.out,fun e=>by rw[Y.out e];exact qK _ _⟩
 | some B =>
  have hp:pt a.now x=some (.pointer (some ⟨B,0,none⟩)):=by simp[pt,hn]
  rw[hp,Option.getD_some] at hl;go_enter func81,ntmps81;go_wp2_with (go_at_call 82;refine hf.mono ?_;rintro e w1 ⟨b,rfl,z1,z2,z3,z4⟩;have Z1:=hid z1;have Q:=hid z2;have V:=hid z3;have Y:=hid z4;clear z1 z2 z3 z4 hf;refine Hid.out ?_)
  refine hid ?_;cases b with
  | true =>
   obtain⟨j,A,I,J⟩:=Z.out w1 1 Q.out V.out;have K:=hid j;have L:=hid A;have M:=hid I;have O:=hid J;clear j A I J;go_wp2;exact bodyPost_ret (results_tmp2 results81 _ _ _) rfl ⟨_,_,rfl,.inl ⟨_,_,rfl,rfl,M.out,O.out,.inl ⟨rfl,Z1.out (by simp)⟩⟩,K.out,L.out,fun e=>by rw[Y.out e];exact qK _ _⟩
  | false =>
   go_wp2;exact bodyPost_ret (results_tmp2 results81 _ _ _) rfl ⟨_,_,rfl,.inr ⟨B,hn,rfl,rfl⟩,Q.out,V.out,fun e=>by rw[Y.out e];exact Below.refl _ _⟩
theorem results39:f39.results=#[.tmp 4]:=by kernel_rfl
theorem yY {w:World} {B e k n:Nat} {v:Value} {xs:List Value} (h:w.ownsRow B e k v n xs):∀ b,v.ownBlock=some b->∃ c f,w.heap[b]? = some (.cells c e f):=fun b hb=>by
 obtain⟨_,⟨rfl,_⟩ | ⟨g,cap,cur,rfl,_,j,_⟩⟩:=h
 ·cases hb
 cases hb
 exact⟨_,_,j⟩
theorem zu {w:World} {B e k n:Nat} {v:Value} {xs:List Value} (h:w.ownsRow B e k v n xs):∃ a c,v=.slice a n c:=by
 obtain⟨_,⟨rfl,rfl⟩ | ⟨g,cap,cur,rfl,_⟩⟩:=h
 ·exact⟨_,_,rfl⟩
 exact⟨_,_,rfl⟩
theorem DY {w:World} {B e k n:Nat} {v:Value} {xs:List Value} (h:w.ownsRow B e k v n xs):∃ a m c,v=.slice a m c:=by
 obtain⟨a,c,rfl⟩:=zu h;exact⟨_,_,_,rfl⟩
theorem Dm0.put {S S':Nat->Prop} {N D:Nat} {w W:World} {q:Bool} {a:Ds} {G:Dg} (h:Dm0 S N w D q a G) (B:Nat) (zs J:List Int) (s s':Nat) (v':Value) (hB:a.nd B=some (zs,s)) (hl:s'<=J.length) (ai:(J.length:Int)<=G.rm) (ht:∀ (i:Nat) (o:Obj),w.heap[i]? = some o->i ≠ B->some i ≠ (G.vs B).ownBlock->W.heap[i]? = some o) (hs:w.heap.size<=W.heap.size) (Q:∀ i,S i->S' i) (hn:Nd W ⟨B,v',(s':Int),J⟩) (hv:∀ k,v'.ownBlock=some k->S' k/\((G.vs B).ownBlock=some k ∨ w.heap.size<=k)):Dm0 S' N W D q (a.put B (J,s')) { G with vs:=fun i=>if i=B then v' else G.vs i }:=by
 obtain⟨A,ae,ak⟩:=h.nds B zs s hB;have ac:∀ (i:Nat) (c:Array Value) (U:TypeId) (f:Nat × Nat),w.heap[i]? = some (.cells c U f)->U ≠ 84->U ≠ 5->W.heap[i]? = some (.cells c U f):=fun i c U f hi h1 h2=>ht i _ hi (fun e=>by rw[e,A.box] at hi;cases hi;exact h1 rfl) (fun e=>by
  obtain⟨c',f',hc⟩:=yY A.own i e.symm;rw[hi] at hc;cases hc
  exact h2 rfl)
 have aj:∀ (g:Nat) (es:Array MapEntry) (ck:Nat),w.heap[g]? = some (.map es ck)->W.heap[g]? = some (.map es ck):=fun g es ck hi=>ht g _ hi (fun e=>by rw[e,A.box] at hi;cases hi) (fun e=>by
  obtain⟨c',f',hc⟩:=yY A.own g e.symm;rw[hi] at hc;cases hc)
 have a6:∀ {g n:Nat} {M:Str->Option Value},TM (.pointer none) w g n M->TM (.pointer none) W g n M:=fun hT=>by
  obtain⟨es,ck,hb⟩:=hT.box;exact hT.sm ((aj _ _ _ hb).trans hb.symm)
 obtain⟨wt,bd,hb,hc⟩:=h.box
 refine⟨⟨wt,bd,ac _ _ _ _ hb (by decide) (by decide),hc⟩,a6 h.now,a6 h.safe,h.ne,fun C zc sc j=>?_,fun C E c e j hE a8=>?_,(h.mv.to (S':=S') Q hs fun i cs T f hT hi=>ac _ _ _ _ hi (by rcases hT with rfl | rfl <;> decide) (by rcases hT with rfl | rfl <;> decide)),h.ml,h.few,⟨Q _ h.own.1,Q _ h.own.2.1,Q _ h.own.2.2⟩,Ra.wf_put a h.wf B _ hl,h.two,fun C zc sc j=>?_,h.rmb⟩
 ·by_cases e:C=B
  ·subst e;simp only[Ra.As.put,if_true] at j;cases Wq8.inj j
   simp only[if_true];exact⟨hn,Q _ ae,fun k hk=>(hv k hk).1⟩
  simp only[Ra.As.put,e,if_false] at j;simp only[e,if_false];obtain⟨n1,n2,n3⟩:=h.nds C zc sc j;refine⟨⟨ht _ _ n1.box e (fun I=>?_),?_⟩,Q _ n2,fun k hk=>Q _ (n3 k hk)⟩
  ·obtain⟨c',f',hc⟩:=yY A.own _ I.symm;have ah:w.heap[C]? = some (.cells #[G.vs C,.int .i64 sc] 84 (0,0)):=n1.box;rw[ah] at hc;cases hc
  obtain⟨a7,h1 | ⟨g,cap,cur,V,ag,hh,r⟩⟩:=n1.own
  ·exact⟨a7,.inl h1⟩
  refine⟨a7,.inr ⟨g,cap,cur,V,ag,ht _ _ hh (fun I=>?_) (fun I=>?_),r⟩⟩
  ·rw[I,A.box] at hh;cases hh
  rcases h.sep C B _ _ j hB e with L | L
  ·have:(G.vs C).ownBlock=some g:=(by have Y:G.vs C=_:=V;rw[Y];rfl);rw[L] at this;cases this
  have:(G.vs C).ownBlock=some g:=by have Y:G.vs C=_:=V;rw[Y];rfl
  exact L (this.trans I)
 ·have K:∀ C c,a.nd C=some c->C ≠ B->(G.vs C).ownBlock=none ∨ (G.vs C).ownBlock ≠ v'.ownBlock:=fun C c j ad=>by
   cases L:(G.vs C).ownBlock with
   | none=>exact .inl rfl
   | some b =>
    refine .inr fun I=>?_;obtain⟨zc,sc⟩:=c;rcases(hv b I.symm).2 with Z | Z
    ·rcases h.sep C B _ _ j hB ad with e5 | e5
     ·rw[L] at e5;cases e5
     exact e5 (L.trans Z.symm)
    obtain⟨c',f',hc⟩:=yY (h.nds C zc sc j).1.own b L;have:=z7 hc;omega
  by_cases e1:C=B
  ·subst e1;have O:E ≠ C:=fun e=>a8 e.symm;simp only[Ra.As.put,O,if_false] at hE;simp only[if_true,O,if_false];rcases K E e hE O with Z | Z
   ·cases e5:v'.ownBlock with
    | none=>exact .inl rfl
    | some b=>exact .inr (by rw[Z];simp)
   exact .inr fun e6=>Z e6.symm
  simp only[Ra.As.put,e1,if_false] at j;by_cases I:E=B
  ·subst I;simp only[if_true,e1,if_false];exact K C c j e1
  simp only[Ra.As.put,I,if_false] at hE;simp only[e1,I,if_false];exact h.sep C E c e j hE a8
 by_cases e:C=B
 ·subst e;simp only[Ra.As.put,if_true] at j;cases Wq8.inj j
  exact ai
 simp only[Ra.As.put,e,if_false] at j;exact h.ln C zc sc j
def Bad (q:Bool) (w w':World) (v:Value) (ks:Int->Prop):Prop := ∃ b k,v=eV b/\w.heap.size<=b/\Er b k w'/\((k=1/\q=false) ∨ ks k)
theorem LQ (S:Nat->Prop) (N D:Nat) (q:Bool) (a:Ds) (x:Str) (w:World) (h:Dm S N w D q a) (hx:x.length<=4000) :
  Calls prog 39 #[.pointer (some ⟨D,0,none⟩),sV x] w fun e w'=>∃ v Z,e=.returned v/\((Z=a/\Bad q w w' v (fun k=>k=3/\a.now x=none)) ∨ (v=.nilIface/\∃ B zs s,a.now x=some B/\a.nd B=some (zs,s)/\Z=a.put B (zs,zs.length)))/\Dm S N w' D q Z/\Al S w w':=by
 obtain⟨G,h⟩:=h;have hf:=Zk S N D q a G x w h hx;have HH:=hid h;clear h;unfold sV at hf ⊢;go_enter func39,ntmps39;go_wp2_with (go_at_call 81;refine hf.mono ?_;rintro e w1 ⟨v1,v2,rfl,z1,z2,z3,z4⟩;clear z4;have Y:=hid z1;have Z2:=hid z2;have Z3:=hid z3;clear z1 z2 z3 hf;refine Hid.out ?_)
 refine hid ?_;rcases Y.out with ⟨b,k,rfl,rfl,k1,k2,k3⟩ | ⟨B,k1,rfl,rfl⟩
 ·have K1:=hid k1;have K2:=hid k2;have K3:=hid k3;clear k1 k2 k3 Y;go_wp2;exact bodyPost_ret (results_tmp results39 _ _ _) rfl ⟨_,_,rfl,.inl ⟨rfl,b,k,rfl,K1.out,K2.out,K3.out⟩,⟨G,Z2.out⟩,Z3.out⟩
 have I:=Z2.out;obtain⟨⟨zs,s⟩,A⟩:=I.wf.dom a.mvs.length x B (by rw[I.wf.full];exact k1);obtain⟨O,J,K⟩:=I.nds B zs s A;obtain⟨va,vc,hv⟩:=zu O.own;have M:G.vs B=.slice va zs.length vc:=hv;have j:w1.heap[B]? = some (.cells #[.slice va zs.length vc,.int .i64 s] 84 (0,0)):=by have:=O.box;rw[hv] at this;exact this
 obtain⟨L,HL⟩:=nm_ zs.length;have HE:Hid (Dm S N (w1.setCell ⟨B,1,none⟩ (.int .i64 L)) D q (a.put B (zs,zs.length))/\Al S w (w1.setCell ⟨B,1,none⟩ (.int .i64 L))):=hid (by
  refine⟨⟨_,I.put (S':=S) B zs zs s zs.length (G.vs B) A (Wz8 _) (I.ln B zs s A) (fun i o hi a6 _=>(Below.heap_setCell _ _ _ _ a6).trans hi) (by simp[World.setCell]) (fun i hi=>hi) ⟨by rw[M,zV j,<-HL.out];rfl,?_⟩ (fun k hk=>⟨K k hk,.inl hk⟩)⟩,Z3.out.trans (Al.of_set (S:=S) (p:=⟨B,1,none⟩) J _) (fun i hi=>.inl hi)⟩
  exact zK O.own (Tf.set (p:=⟨B,1,none⟩) j _) (by decide))
 rw[HL.out] at j;have a7:w1.cell? ⟨B,0,none⟩=some (.slice va L vc):=by simp[World.cell?,j]
 have a8:w1.cell? ⟨B,1,none⟩=some (.int .i64 s):=by simp[World.cell?,j]
 have ac:w1.frozen? ⟨B,1,none⟩=false:=by simp[World.frozen?,j]
 have V:=hid A;have Q:=hid k1;clear I O hv M j A k1 J K Y;go_wp2;exact bodyPost_ret (results_tmp results39 _ _ _) rfl ⟨_,_,rfl,.inr ⟨rfl,B,zs,s,Q.out,V.out,rfl⟩,HE.out⟩
theorem Tf.mv {T:TypeId} {w w':World} {v D:Value} (h:Mv w w' v D) (hv:∀ k,v.ownBlock=some k->∃ c f,w.heap[k]? = some (.cells c T f)):Tf T w w':=fun i o j A _=>by
 refine(h.blk i (z7 j) fun e=>?_).trans j;obtain⟨c,f,hc⟩:=hv i e.symm;rw[j] at hc;cases hc
 exact A _ _ rfl
theorem qvx:(prog.info? 79).map (fun i=>(i.zero,i.size,i.bytes))=some (some (.slice none 0 0),1,24):=by kernel_rfl
theorem und61:prog.underlying 61=some (.slice 79):=by kernel_rfl
theorem results124:f124.results=#[]:=by kernel_rfl
theorem x5 {α:Type} {enc:α->List Value} {d:α} (w:World) (x:α) (e:TypeId):Px enc (enc x).length d (w.alloc (.cells (enc x).toArray e)) (some ⟨w.heap.size,0,none⟩) 1 [x] :=
 ⟨Wz8 _,fun _=>⟨w.heap.size,0,rfl,by simp,fun i hi j v hv=>by
  obtain rfl:i=0:=by simpa using hi
  have:=zw (heap_alloc_new w (.cells (enc x).toArray e)) j v (by simpa using hv)
  simpa using this⟩,fun h=>by cases h⟩
theorem Eu {α:Type} {enc:α->List Value} {k:Nat} {d:α} {w:World} {q:Nat} {e:TypeId} {f:Nat × Nat} {c:Nat} (l:List α) (D:∀ x ∈ l,(enc x).length=k) (h:w.heap[q]? = some (.cells (l.flatMap enc).toArray e f)) (hc:l.length<=c):Px enc k d w (some ⟨q,0,none⟩) c l :=
 ⟨hc,fun _=>⟨q,0,rfl,z7 h,fun i hi j v hv=>by
  have G:j<k:=by
   have:=(List.getElem?_eq_some_iff.1 hv).1
   rwa [D _ (zQ l i d hi)] at this
  have A:=Ew (d:=d) l D i j hi G
  rw[hv] at A
  have:=zw h (i*k+j) v A
  rw[Nat.zero_add] at this ⊢
  exact this⟩,fun h=>by cases h⟩
structure Jq (a:Ds) (l:List Mo):Prop where
 dom:∀ x B,Ra.nmL a.now l x=some B->∃ c,a.nd B=some c
 inj:∀ x y B,Ra.nmL a.now l x=some B->Ra.nmL a.now l y=some B->x=y
 two:∀ x,Ra.nmL a.now l x ≠ none->x=pr ∨ x=nw
theorem zqJ (S:Nat->Prop) (N D:Nat) (q:Bool) (a:Ds) (G:Dg) (g:Nat) (c:Nat) (l:List Mo) (w:World) (h:Dm0 S N w D q a G) (O:w.heap[g]? = some (.cells (l.flatMap mvE).toArray 154 (0,0))) (hl:l.length<=2) (hc:l.length<=c) (hx:∀ m ∈ l,m.1.length<=4000) (ah:S g) (ao:Jq a l) (hN:N<=90000) :
  Calls prog 124 #[.pointer (some ⟨D,0,none⟩),.slice (some ⟨g,0,none⟩) l.length c] w fun e w'=>e=.returned (.tuple #[])/\Dm (Sx S w w') (N+2) w' D q (a.step l)/\Al S w w':=by
 obtain⟨h0,_,I,_,aF⟩:=h.c0;have hP:Px mvE 2 ([],none) w (some ⟨g,0,none⟩) c l:=Eu l (fun _ _=>rfl) O hc;have Q:=Tz G.g G.n (some ⟨g,0,none⟩) c l (pt a.now) w h.now hP (by have:=h.few;omega) hx;obtain⟨L,HL⟩:=nm_ l.length;rw[HL.out] at Q ⊢;rw[DW] at Q;have H:Hid (Dm0 S N w D q a G):=h;obtain⟨es,ck,J⟩:=h.now.box;obtain⟨wt,bd,aj,a7⟩:=h.box
 have au:=hid a7;have ae:=hid aj;have HK:Hid (∀ w1,w.grownBy w1 (some G.g)->∀ v o,w.cell? ⟨D,o,none⟩=some v->w1.cell? ⟨D,o,none⟩=some v):=fun w1 A v o hv=>by
  have:=ae.out;unfold dB at this;rw[World.cell?_of_block (a:=⟨D,o,none⟩) ((Tf.grown J A this).trans this.symm)];exact hv
 obtain⟨mv,M⟩:∃ mv,Hid (G.mv=mv):=⟨_,rfl⟩;obtain⟨ls,K⟩:∃ ls,Hid (G.ls=ls):=⟨_,rfl⟩;have ac:=h.mv.row;rw[M.out,K.out] at ac;rw[M.out] at I;have Z:=hid ac;have ag:=hid O;have a8:=hid ao;have HX:=hid hx;have ay:=hid ah;clear h aj a7 ac O ao hx ah;go_enter func124,ntmps124
 have ap:Hid (∀ w1 o,w.grownBy w1 (some G.g)->Bx e1 1 79 (w1.alloc o) (w1.alloc o) 0 mv ls):=fun w1 o A=>⟨Below.refl _ _,(vw Z.out J A).alloc o,Wqw _⟩;have a6:Hid (∀ w1 o v2 w2,w.grownBy w1 (some G.g)->Mv (w1.alloc o) w2 mv v2->Tf 79 w1 w2):=fun w1 o v2 w2 A I =>
  (Tf.below ((Below.refl _ w1).alloc (Wz8 _) o)).trans (Tf.mv I (yY ((vw Z.out J A).alloc o)))
 have ad:Hid (∀ w1 o v2 w2,w.grownBy w1 (some G.g)->Mv (w1.alloc o) w2 mv v2->w2.heap[D]? = some (dB G.g G.gs mv G.rm wt bd)):=fun w1 o v2 w2 A I=>(a6.out w1 o v2 w2 A I).of (by decide) (Tf.grown J A (by rw[<-M.out];exact ae.out))
 have av:Hid (∀ w1 o v2 w2,w.grownBy w1 (some G.g)->Mv (w1.alloc o) w2 mv v2->w2.frozen? ⟨D,2,none⟩=false/\w2.cell? ⟨D,2,none⟩=some mv):=fun w1 o v2 w2 A I=>by
  have:=ad.out w1 o v2 w2 A I;unfold dB at this;exact⟨by simp[World.frozen?,this],by simp[World.cell?,this]⟩
 have HE:Hid (∀ w1 o v2 w2,w.grownBy w1 (some G.g)->TM (.pointer none) w1 G.g (G.n+L) (pt (Ra.nmL a.now l))->Mv (w1.alloc o) w2 mv v2->w2.ownsRow 0 79 1 v2 (ls++[((some ⟨g,0,none⟩,c,l):Ml)]).length ((ls++[((some ⟨g,0,none⟩,c,l):Ml)]).flatMap e1)->Dm (Sx S w (w2.setCell ⟨D,2,none⟩ v2)) (N+2) (w2.setCell ⟨D,2,none⟩ v2) D q (a.step l)/\Al S w (w2.setCell ⟨D,2,none⟩ v2)):=fun w1 o v2 w2 A hT I hr=>by
  have hb:=ad.out w1 o v2 w2 A I;have t1:=a6.out w1 o v2 w2 A I;have t2:Tf 63 w2 (w2.setCell ⟨D,2,none⟩ v2):=Tf.set (p:=⟨D,2,none⟩) hb v2;have hz:(w2.setCell ⟨D,2,none⟩ v2).heap.size=w2.heap.size:=by simp[World.setCell]
  have aI:w1.heap.size+1<=w2.heap.size:=by have:=I.size;simpa using this
  have aH:=A.size;have k:=H.out;have aC:∀ (i:Nat) (cs:Array Value) (f:Nat × Nat),w.heap[i]? = some (Obj.cells cs 154 f)->(w2.setCell ⟨D,2,none⟩ v2).heap[i]? = some (Obj.cells cs 154 f):=fun i cs f hi=>t2.of (by decide) (t1.of (by decide) (Tf.grown J A hi))
  have am:∀ p,LZ S w p->LZ (Sx S w (w2.setCell ⟨D,2,none⟩ v2)) (w2.setCell ⟨D,2,none⟩ v2) p:=fun p Y=>Y.to (fun i hi=>.inl hi) (by omega) aC;refine⟨⟨{ G with mv:=v2,n:=G.n+L,ls:=ls++[((some ⟨g,0,none⟩,c,l):Ml)] },⟨⟨wt,bd,?_,au.out⟩,?_,?_,k.ne,?_,k.sep,⟨?_,?_,?_⟩,?_,?_,?_,Ra.wf_step a k.wf l a8.out.dom a8.out.inj,?_,k.ln,k.rmb⟩⟩,?_⟩
  ·rw[zV hb];rfl
  ·exact(hT.tf t1).tf t2
  ·exact((k.safe.sm (A.block _ k.safe.lt (fun e=>k.ne (Wq8.inj e).symm))).tf t1).tf t2
  ·intro B zs s hB;obtain⟨m1,m2,m3⟩:=k.nds B zs s hB;exact⟨((m1.gr J A).tf t1 (by decide) (by decide)).tf t2 (by decide) (by decide),.inl m2,fun i hi=>.inl (m3 i hi)⟩
  ·exact zK hr t2 (by decide)
  ·intro p Y;rcases Wqx.1 Y with Y | Y
   ·exact am p (k.mv.at_ p (by rw[K.out];exact Y))
   rw[Wqk.1 Y];exact am _ ⟨Eu l (fun _ _=>rfl) ag.out hc,hl,HX.out,fun p Y=>by cases Y;exact⟨ay.out,_,_,ag.out⟩⟩
  ·intro i hq;rcases I.at_ with e | e
   ·exact .inl (k.mv.own i (by rw[M.out];exact e ▸ hq))
   have h3:=e i hq;have h4:=(yu hr i hq).2;have h5:(w1.alloc o).heap.size=w1.heap.size+1:=(by simp);exact .inr ⟨by omega,by omega⟩
  ·have:=k.ml;rw[K.out] at this;show (ls++[((some ⟨g,0,none⟩,c,l):Ml)]).map (·.2.2)=a.mvs++[l];rw[List.map_append,this];rfl
  ·have:=k.few;rw[K.out] at this;show G.n+L<=N+2/\G.ns+2*(ls++[((some ⟨g,0,none⟩,c,l):Ml)]).length<=N+2;rw[List.length_append,List.length_cons,List.length_nil];have:=HL.out;exact⟨by omega,by omega⟩
  ·exact⟨.inl k.own.1,.inl k.own.2.1,.inl k.own.2.2⟩
  ·intro j x;rw[Ra.at_step a k.wf];by_cases e:j<=a.mvs.length
   ·rw[if_pos e];exact k.two j x
   rw[if_neg e];exact a8.out.two x
  refine((((Al.of_grown A (fun q hq=>by cases hq;exact k.own.2.1)).trans (Al.below ((Below.refl _ w1).alloc (Wz8 _) o)) (S':=S) (fun i h=>.inl h)).trans (Al.of_mv I (fun i hi=>k.mv.own i (by rw[M.out];exact hi))) (fun i h=>.inl h)).trans (Al.of_set (S:=S) k.own.1 v2) (fun i h=>.inl h))
 have aw:Hid (ls.length+1<=1000000000):=hid (by have:=H.out.few;rw[K.out] at this;omega);go_wp2_with (first
  | (go_at_call 27;refine Q.mono ?_;rintro e w1 ⟨rfl,aA,V⟩;have aG:=HK.out _ V _ _ I)
  | (at_builtin;refine zy (enc:=e1) (k:=1) (d:=(none,0,[])) rfl _ _ 61 79 und61 qvx rfl (by decide) (by decide) (fun x v hv=>by simp only[e1,Wqk] at hv;subst hv;rfl) rfl 0 mv ls rfl (ap.out w1 _ V) (some ⟨w1.heap.size,0,none⟩) 1 [((some ⟨g,0,none⟩,c,l):Ml)] rfl (by have:=x5 (enc:=e1) (d:=(none,0,[])) w1 (some ⟨g,0,none⟩,c,l) 79;unfold e1 at this;simp only[HL.out] at this;exact this) (fun x _=>rfl) aw.out ?_;intro v2 w2 ai aB ak;clear aB;obtain⟨va,vn,vc,rfl⟩:=DY ai.own;have ar:=hid ai.own;have ax:=hid ak;have az:=hid aA;obtain⟨aD,aE⟩:=av.out w1 _ _ w2 V ak))
 exact bodyPost_end (results_none results124 _ _ _) rfl ⟨rfl,HE.out w1 _ _ w2 V az.out ax.out ar.out⟩
theorem Jx (S:Nat->Prop) (N D:Nat) (q:Bool) (a a1:Ds) (G:Dg) (g c:Nat) (l:List Mo) (w W:World) (hb:Below w.heap.size w W) (h:Dm0 (Sx S w W) N W D q a1 G) (L:w.heap.size<=g) (j:W.heap[g]? = some (.cells (l.flatMap mvE).toArray 154 (0,0))) (M:l.length<=2) (hc:l.length<=c) (hx:∀ m ∈ l,m.1.length<=4000) (A:Jq a1 l) (K:N<=90000) :
  Calls prog 124 #[.pointer (some ⟨D,0,none⟩),.slice (some ⟨g,0,none⟩) l.length c] W fun e w'=>e=.returned (.tuple #[])/\Dm (Sx S w w') (N+2) w' D q (a1.step l)/\Al S w w':=by
 refine(zqJ (Sx S w W) N D q a1 G g c l W h j M hc hx (.inr ⟨L,z7 j⟩) A K).mono ?_;rintro e w' ⟨rfl,J,I⟩;have:=I.size;have:=hb.size
 exact⟨rfl,J.mono (fun i hi=>by rcases hi with (hi | hi) | hi;exact .inl hi;exact .inr ⟨hi.1,by omega⟩;exact .inr ⟨by omega,hi.2⟩) (Wz8 _),(Al.below hb).trans I (fun i hi=>by rcases hi with hi | hi;exact .inl hi;exact .inr hi.1)⟩
end Go.Proofs.YtdnphaganajejaaGreatDoor.K
