import Derived.Test.YtdnphaganajejaaGreatDoorMz04
set_option linter.unusedSimpArgs false
set_option linter.unusedVariables false
set_option maxRecDepth 20000
set_option maxHeartbeats 4000000
open Int renaming toNat_natCast->Wzq
open List renaming drop_eq_getElem_cons->WqJ,drop_eq_nil_of_le->WqK,foldl_append->WqV,foldl_cons->WqW,foldl_map->WqY,mem_cons->Wqj,mem_cons_of_mem->Wy0
open Nat renaming le_refl->Wz8,le_trans->Wz9
open Option renaming some->Wq8
open UInt8 renaming ofNat->Wy1,toNat_inj->Wy2
namespace Go.Proofs.YtdnphaganajejaaGreatDoor.Nm
open Go.Proofs.Tryz
open Go.RowKit
def isN (s:List UInt8):Bool:=(s == [72,69,65,68]) || docOk s
theorem isN_not {s:List UInt8} (h:s ≠ [72,69,65,68]):isN s=prgOk s:=by
 unfold isN;rw[zkZ,show (s == [72,69,65,68])=false by simpa using h];rfl
set_option maxRecDepth 100000 in
theorem isName_any (s:List UInt8) (hs:s.length<=100000) (w:World) (hm:Mx w) :
  Calls prog 60 #[.string ⟨s.toArray⟩] w fun e w'=>e=.returned (.bool (isN s))/\Below w.heap.size w w':=by
 by_cases hh:s=[72,69,65,68]
 ·subst hh;have HB:Hid (Below w.heap.size w w):=Below.refl _ _;go_enter func60,ntmps60;go_wp2;go_ret;exact⟨rfl,HB.out⟩
 obtain⟨S,J⟩:=nm_ (⟨s.toArray⟩:ByteArray);obtain⟨n,HN⟩:=nm_ s.length;obtain⟨G,Z⟩:=nm_ w.heap.size;have hsz:S.size=n:=by rw[<-J.out,txt_len];exact HN.out
 have he:(S.toList == [72,69,65,68])=false:=by rw[<-J.out,Lib.toList_data];simpa using hh
 obtain⟨b6,H6⟩:=nm_ ((spl s).all partOk && ((spl s).headD [] == [114,101,102,115]) && decide (1<(spl s).length));obtain⟨b7,H7⟩:=nm_ (s.all byteOk);obtain⟨b8,H8⟩:=nm_ (Lib.contains s [46,46]);obtain⟨b9,H9⟩:=nm_ (Lib.contains s [64,123]);obtain⟨K,M⟩:=nm_ (Lib.hasSuffix s [46]);have HR:Hid (isN s=(decide (n<=60) && b6 && b7 && !b8 && !b9 && !K)):=hid (by
  rw[isN_not hh,prgOk,H6.out,H7.out,H8.out,H9.out,M.out,HN.out])
 have HM:Hid (∀ W,Below G w W->Mx W):=fun W V=>hm.below (by rw[Z.out];exact V);have L:Hid (Calls prog 96 #[.string S] w fun e w'=>e=.returned (.bool b6)/\Below G w w'):=hid (by
  have:=T9 s hs w hm;rw[J.out,H6.out,Z.out] at this;exact this)
 have Y:Hid (∀ W,Calls prog 97 #[.string S] W fun e w'=>e=.returned (.bool b7)/\Below W.heap.size W w'):=fun W=>by
  rw[<-J.out,<-H7.out];exact T8 s W
 have C8:Hid (∀ W,Below G w W->Calls prog 98 #[.string S,.string ⟨#[46,46]⟩] W fun e w'=>e=.returned (.bool b8)/\w'=W):=fun W V=>by
  rw[<-J.out,<-H8.out];exact XY s [46,46] hs W (HM.out W V)
 have C9:Hid (∀ W,Below G w W->Calls prog 98 #[.string S,.string ⟨#[64,123]⟩] W fun e w'=>e=.returned (.bool b9)/\w'=W):=fun W V=>by
  rw[<-J.out,<-H9.out];exact XY s [64,123] hs W (HM.out W V)
 have C10:Hid (∀ W,Calls prog 78 #[.string S,.string ⟨#[46]⟩] W fun e w'=>e=.returned (.bool K)/\w'=W):=fun W=>by
  rw[<-J.out,<-M.out];exact hasSuffix_any s [46] hs W
 have a6:Hid (Below G w w):=Below.refl _ _;have I:Hid (G<=w.heap.size):=hid (by rw[Z.out];exact Wz8 _);rw[J.out,HR.out,Z.out];clear HR hm hh;by_cases O:n<=60;rotate_left
 ·have Q:¬ (n:Int)<=60:=by omega
  rw[decide_eq_false O];go_enter func60,ntmps60;go_wp2;go_ret;exact⟨rfl,a6.out⟩
 have Q:(n:Int)<=60:=by omega
 rw[decide_eq_true O];cases b6 with
 | false =>
  go_enter func60,ntmps60;go_wp2_with (first
   | (go_at_call 96;refine L.out.mono ?_;rintro e w1 ⟨rfl,h⟩;have j:Hid (Below G w w1):=h;clear h)
   | fail)
  go_ret;exact⟨rfl,j.out⟩
 | true =>
 cases b7 with
 | false =>
  go_enter func60,ntmps60;go_wp2_with (first
   | (go_at_call 96;refine L.out.mono ?_;rintro e w1 ⟨rfl,h⟩;have j:Hid (Below G w w1):=h;clear h)
   | (go_at_call 97;refine(Y.out _).mono ?_;rintro e w2 ⟨rfl,D⟩;have A:Hid (Below G w w2):=j.out.trans (D.mono (Wz9 I.out j.out.size));clear D)
   | fail)
  go_ret;exact⟨rfl,A.out⟩
 | true =>
 cases b8 with
 | true =>
  go_enter func60,ntmps60;go_wp2_with (first
   | (go_at_call 96;refine L.out.mono ?_;rintro e w1 ⟨rfl,h⟩;have j:Hid (Below G w w1):=h;clear h)
   | (go_at_call 97;refine(Y.out _).mono ?_;rintro e w2 ⟨rfl,D⟩;have A:Hid (Below G w w2):=j.out.trans (D.mono (Wz9 I.out j.out.size));clear D)
   | (go_at_call 98;refine(C8.out _ A.out).mono ?_;rintro e w3 ⟨rfl,rfl⟩)
   | fail)
  go_ret;exact⟨rfl,A.out⟩
 | false =>
 cases b9 with
 | true =>
  go_enter func60,ntmps60;go_wp2_with (first
   | (go_at_call 96;refine L.out.mono ?_;rintro e w1 ⟨rfl,h⟩;have j:Hid (Below G w w1):=h;clear h)
   | (go_at_call 97;refine(Y.out _).mono ?_;rintro e w2 ⟨rfl,D⟩;have A:Hid (Below G w w2):=j.out.trans (D.mono (Wz9 I.out j.out.size));clear D)
   | (go_at_call 98;refine(C8.out _ A.out).mono ?_;rintro e w3 ⟨rfl,rfl⟩)
   | (go_at_call 98;refine(C9.out _ A.out).mono ?_;rintro e w3 ⟨rfl,rfl⟩)
   | fail)
  go_ret;exact⟨rfl,A.out⟩
 | false =>
  go_enter func60,ntmps60;go_wp2_with (first
   | (go_at_call 96;refine L.out.mono ?_;rintro e w1 ⟨rfl,h⟩;have j:Hid (Below G w w1):=h;clear h)
   | (go_at_call 97;refine(Y.out _).mono ?_;rintro e w2 ⟨rfl,D⟩;have A:Hid (Below G w w2):=j.out.trans (D.mono (Wz9 I.out j.out.size));clear D)
   | (go_at_call 98;refine(C8.out _ A.out).mono ?_;rintro e w3 ⟨rfl,rfl⟩)
   | (go_at_call 98;refine(C9.out _ A.out).mono ?_;rintro e w3 ⟨rfl,rfl⟩)
   | (go_at_call 78;refine(C10.out _).mono ?_;rintro e w3 ⟨rfl,rfl⟩)
   | fail)
  go_ret;exact⟨by cases K <;> rfl,A.out⟩
theorem V0 (s:List UInt8) (j:Nat) (w:World) (x:UInt8) (h:s[j]? = some x):(Instr.index 9 (.string ⟨s.toArray⟩) (.int .i64 j)).run prog w=.ok (.int .u8 (x.toNat:Int)) w:=by
 obtain⟨A,hx⟩:=List.getElem?_eq_some_iff.1 h;rw[run_index_string (P:=prog) w 9 ⟨s.toArray⟩ .i64 j underlying9,dif_pos ⟨by omega,by rw[txt_len];omega⟩];simp only[Wzq];rw[<-hx];rfl
theorem ext_txt (s:List UInt8) (i j:Nat):(⟨s.toArray⟩:ByteArray).extract i j=⟨((s.drop i).take (j-i)).toArray⟩:=by
 apply ByteArray.ext;simp[ByteArray.data_extract,List.extract]
theorem slc_to (s:List UInt8) (j:Nat) (h:j<=s.length) (w:World):(Instr.slice 9 (.string ⟨s.toArray⟩) none (some (.int .i64 j)) none).run prog w=.ok (.string ⟨(s.take j).toArray⟩) w:=by
 rw[run_slice_string_to_if w 9 _ .i64 j underlying9,if_pos ⟨by omega,by rw[txt_len];omega⟩,Wzq,ext_txt,List.drop_zero,Nat.sub_zero]
theorem EX (s:List UInt8) (i j:Nat) (h:i<=j) (A:j<=s.length) (w:World):(Instr.slice 9 (.string ⟨s.toArray⟩) (some (.int .i64 i)) (some (.int .i64 j)) none).run prog w=.ok (.string ⟨((s.drop i).take (j-i)).toArray⟩) w:=by
 rw[run_slice_string w 9 _ .i64 .i64 i j underlying9 (by omega) (by omega) (by rw[txt_len];omega),Wzq,Wzq,ext_txt]
def uV:List UInt8:=[46,108,111,99,107]
theorem Tk (l p:List UInt8):Lib.hasSuffix l p=(l.drop (l.length-p.length) == p):=by
 rw[Lib.hasSuffix,Bool.eq_iff_iff,List.isSuffixOf_iff_suffix,List.suffix_iff_eq_drop,beq_iff_eq];exact eq_comm
theorem zkX (s:List UInt8) (x:UInt8) (h:s[s.length-1]? = some x):Lib.hasSuffix s [46]=(x == 46):=by
 rw[Tk];obtain⟨j,hx⟩:=List.getElem?_eq_some_iff.1 h;rw[show ([46] : List UInt8).length=1 from rfl,WqJ j,hx,WqK (by omega)];simp
def cur (s:List UInt8) (f i:Nat):List UInt8:=(s.drop f).take (i-f)
theorem Tv (s:List UInt8) (f i:Nat) (h:f<=i) (hi:i<=s.length):(cur s f i).length=i-f:=by
 simp[cur];omega
theorem GK (s:List UInt8) (f:Nat):partOk (cur s f f)=false:=by simp[cur,partOk]
theorem zqV (s:List UInt8) (f i:Nat) (j:f<i) (x:UInt8) (hx:s[f]? = some x):Lib.hasPrefix (cur s f i) [46]=(x == 46):=by
 obtain⟨h,hx⟩:=List.getElem?_eq_some_iff.1 hx;rw[Lib.hasPrefix,cur,WqJ h,hx,show i-f=(i-f-1)+1 by omega,List.take_succ_cons];simp[List.isPrefixOf];rw[Bool.eq_iff_iff];simp;exact eq_comm
theorem GV (s:List UInt8) (f i:Nat) (h:f+5<=i) (hi:i<=s.length):Lib.hasSuffix (cur s f i) uV=((s.drop (i-5)).take 5 == uV):=by
 rw[Tk,Tv s f i (by omega) hi,show uV.length=5 from rfl,cur,List.drop_take,List.drop_drop,show f+(i-f-5)=i-5 by omega,show i-f-(i-f-5)=5 by omega]
theorem Jk (s:List UInt8) (f i:Nat) (j:f<=i) (A:i<f+5) (hi:i<=s.length):Lib.hasSuffix (cur s f i) uV=false:=by
 rw[Tk,Bool.eq_false_iff];intro h;have:=congrArg List.length (beq_iff_eq.1 h);rw[List.length_drop,Tv s f i j hi] at this;simp[uV] at this;omega
theorem GW (s:List UInt8) (f i:Nat) (j:f<i) (hi:i<=s.length) (x:UInt8) (hx:s[f]? = some x):partOk (cur s f i)=(!(x == 46) && !Lib.hasSuffix (cur s f i) uV):=by
 unfold partOk;rw[zqV s f i j x hx];have:(cur s f i).isEmpty=false:=by
  have:=Tv s f i (by omega) hi;cases h:cur s f i with
  | nil=>rw[h] at this;simp at this;omega
  | cons a l=>rfl
 rw[this];rfl
theorem zqW (s:List UInt8) (f i:Nat) (h:f<=i) (x:UInt8) (hx:s[i]? = some x):cur s f (i+1)=cur s f i++[x]:=by
 unfold cur;rw[show i+1-f=(i-f)+1 by omega,List.take_add_one,List.getElem?_drop,show f+(i-f)=i by omega,hx];rfl
theorem zqY (x:UInt8) (c:Int) (hc:(x.toNat:Int)=c) (h:byteOk x=false):c<33 ∨ 126<c ∨ c=126 ∨ c=94 ∨ c=58 ∨ c=63 ∨ c=42 ∨ c=91 ∨ c=92:=by
 by_cases D:c<33
 ·exact .inl D
 by_cases G:126<c
 ·exact .inr (.inl G)
 unfold byteOk at h;rw[decide_eq_true (by omega),decide_eq_true (by omega)] at h;simp at h;have A:x=126 ∨ x=94 ∨ x=58 ∨ x=63 ∨ x=42 ∨ x=91 ∨ x=92:=by
  apply Classical.byContradiction;intro j;simp only[not_or] at j;exact j.2.2.2.2.2.2 (h j.1 j.2.1 j.2.2.1 j.2.2.2.1 j.2.2.2.2.1 j.2.2.2.2.2.1)
 rcases A with rfl | rfl | rfl | rfl | rfl | rfl | rfl <;> subst hc <;> decide
theorem Oj (x:UInt8) (c:Int) (hc:(x.toNat:Int)=c) (h:byteOk x=true):33<=c/\c<=126/\c ≠ 126/\c ≠ 94/\c ≠ 58/\c ≠ 63/\c ≠ 42/\c ≠ 91/\c ≠ 92:=by
 unfold byteOk at h;simp at h;obtain⟨⟨D,G⟩,A⟩:=h;have j:∀ n:Nat,n<256->x ≠ Wy1 n->c ≠ n:=fun n j hx e=>hx (Wy2.1 (by
  have:x.toNat=n:=by omega
  rw[this];simp;omega))
 refine⟨by omega,by omega,j 126 (by decide) A.1,j 94 (by decide) A.2.1,j 58 (by decide) A.2.2.1,j 63 (by decide) A.2.2.2.1,j 42 (by decide) A.2.2.2.2.1,j 91 (by decide) A.2.2.2.2.2.1,j 92 (by decide) A.2.2.2.2.2.2⟩
theorem j9 (x:UInt8) (n:Nat) (j:n<256):((x.toNat:Int)=(n:Int)) ↔ x=Wy1 n:=by
 constructor
 ·intro h;exact Wy2.1 (by
   have:x.toNat=n:=(by omega);rw[this];simp;omega)
 intro h;rw[h];simp;omega
def pv (s:List UInt8) (i:Nat):Option UInt8:=if i=0 then none else s[i-1]?
def Dw (s:List UInt8) (f i:Nat):Prop:=f<=i/\dgo [] none s=dgo (cur s f i) (pv s i) (s.drop i)
set_option maxRecDepth 100000 in
theorem refName_any (s:List UInt8) (hs:s.length<=100000) (w:World) :
  Calls prog 53 #[.string ⟨s.toArray⟩] w fun e w'=>e=.returned (.bool (isN s))/\Below w.heap.size w w':=by
 have L:Hid (Below w.heap.size w w):=Below.refl _ _;by_cases hh:s=[72,69,65,68]
 ·subst hh;go_enter func53,ntmps53;go_wp2;go_ret;exact⟨rfl,L.out⟩
 obtain⟨S,HS⟩:=nm_ (⟨s.toArray⟩:ByteArray);obtain⟨n,J⟩:=nm_ s.length;have hsz:S.size=n:=by rw[<-HS.out,txt_len];exact J.out
 have he:(S.toList == [72,69,65,68])=false:=by rw[<-HS.out,Lib.toList_data];simpa using hh
 have HR:Hid (isN s=docOk s):=hid (by
  unfold isN;rw[show (s == [72,69,65,68])=false by simpa using hh];rfl)
 rw[HS.out,HR.out];clear hh;by_cases aO:n<=60;rotate_left
 ·have aP:(60:Int)<(n:Int):=by omega
  have HF:Hid (docOk s=false):=hid (by unfold docOk;rw[J.out,decide_eq_false aO];rfl);rw[HF.out];go_enter func53,ntmps53;go_wp2;go_ret;exact⟨rfl,L.out⟩
 have aP:¬ (60:Int)<(n:Int):=by omega
 by_cases h6:6<=n;rotate_left
 ·have aY:(n:Int)<6:=by omega
  have HF:Hid (docOk s=false):=hid (by unfold docOk;rw[J.out,decide_eq_false h6];simp);rw[HF.out];go_enter func53,ntmps53;go_wp2;go_ret;exact⟨rfl,L.out⟩
 have aY:¬ (n:Int)<6:=by omega
 obtain⟨T,HT⟩:=nm_ (⟨(s.take 5).toArray⟩:ByteArray);have bp:∀ w:World,(Instr.slice 9 (.string S) none (some (.int .i64 5)) none).run prog w=.ok (.string T) w:=fun w=>by
  rw[<-HS.out,<-HT.out];exact slc_to s 5 (by rw[J.out];omega) w
 have aM:Hid (T.toList=s.take 5):=hid (by rw[<-HT.out,Lib.toList_data]);by_cases hr:s.take 5=[114,101,102,115,47];rotate_left
 ·have b8:(T.toList == [114,101,102,115,47])=false:=by rw[aM.out];simpa using hr
  have HF:Hid (docOk s=false):=hid (by unfold docOk;rw[show (s.take 5 == [114,101,102,115,47])=false by simpa using hr];simp);rw[HF.out];clear hr;go_enter func53,ntmps53;go_wp2;go_ret;exact⟨rfl,L.out⟩
 have b8:(T.toList == [114,101,102,115,47])=true:=by rw[aM.out];simpa using hr
 obtain⟨z,hz⟩:∃ z,s[n-1]? = some z:=⟨_,List.getElem?_eq_getElem (by rw[J.out];omega)⟩;obtain⟨zc,aN⟩:=nm_ (z.toNat:Int);have bn:∀ w:World,(Instr.index 9 (.string S) (.int .i64 ((n:Int)-1))).run prog w=.ok (.int .u8 zc) w:=fun w=>by
  rw[<-HS.out,<-aN.out,show ((n:Int)-1)=((n-1:Nat):Int) by omega];exact V0 s (n-1) w z hz
 have aL:Hid (Lib.hasSuffix s [46]=(z == 46)):=hid (zkX s z (by rw[J.out];exact hz));have HZ:Hid (zc=46 ↔ z=46):=hid (by rw[<-aN.out];exact j9 z 46 (by decide));by_cases am:zc=46
 ·have HF:Hid (docOk s=false):=hid (by unfold docOk;rw[aL.out,HZ.out.1 am];simp);rw[HF.out];subst am;clear hr;go_enter func53,ntmps53;go_wp2;go_ret;exact⟨rfl,L.out⟩
 have br:(zc == 46)=false:=by simpa using am
 obtain⟨r,a7⟩:=nm_ (dgo [] none s);have HF:Hid (docOk s=r):=hid (by
  unfold docOk;rw[J.out,decide_eq_true aO,decide_eq_true h6,hr,aL.out,show (z == 46)=false by simpa using fun e=>am (HZ.out.2 e),a7.out];simp)
 rw[HF.out];have aV:Hid (Dw s 0 0):=⟨Wz8 _,by simp[cur,pv]⟩;clear hr hz am;go_enter func53,ntmps53;go_wp2;go_loopg [4,5] (n+1) (fun g vf vi wr=>∃ f i:Nat,g=n+1-i/\vf=.int .i64 f/\vi=.int .i64 i/\i<=n+1/\f<=i/\Hid (wr=w)/\Hid ((i<=n/\Dw s f i) ∨ (i=n+1/\r=true)));case atStart=>exact⟨0,0,rfl,rfl,rfl,by omega,by omega,hid rfl,hid (.inl ⟨by omega,aV.out⟩)⟩
 case round =>
 obtain⟨f,i,hg,rfl,rfl,hi,ax,HW,HI⟩:=hrel;have be:=HW.out;subst be;clear HW;by_cases aR:i<=n;rotate_left
 ·have ay:¬ (i:Int)<=(n:Int):=by omega
  have aW:Hid (r=true):=hid (by
   rcases HI.out with h | h
   ·exact absurd h.1 aR
   exact h.2)
  go_wp2;go_ret;exact⟨by rw[aW.out];rfl,L.out⟩
 have ay:(i:Int)<=(n:Int):=by omega
 have aA:Hid (Dw s f i):=hid (by
  rcases HI.out with h | h
  ·exact h.2
  exact absurd h.1 (by omega))
 clear HI;by_cases b6:i=n
 ·subst b6;have D:Hid (r=partOk (cur s f i)):=hid (by
   rw[<-a7.out,aA.out.2,WqK (by rw[J.out];omega)];rfl)
  have Z:Hid (partOk (cur s f i)=false->r=false):=fun h=>by rw[D.out,h]
  by_cases aj:f=i
  ·have j:Hid (r=false):=hid (Z.out (by rw[aj];exact GK s i));have k0:((i:Int)-(f:Int) == 0)=true:=(by rw[aj];simp);go_wp2;go_ret;exact⟨by rw[j.out];rfl,L.out⟩
  have aE:f<i:=by omega
  have k0:((i:Int)-(f:Int) == 0)=false:=by simp;omega
  have bg:¬ ((i:Int)-(f:Int)=0):=by omega
  obtain⟨x,hx⟩:∃ x,s[f]? = some x:=⟨_,List.getElem?_eq_getElem (by rw[J.out];omega)⟩;have HX:Hid (partOk (cur s f i)=(!(x == 46) && !Lib.hasSuffix (cur s f i) uV)):=hid (GW s f i aE (by rw[J.out];omega) x hx);obtain⟨xc,ag⟩:=nm_ (x.toNat:Int)
  have aS:∀ w:World,(Instr.index 9 (.string S) (.int .i64 f)).run prog w=.ok (.int .u8 xc) w:=fun w=>by rw[<-HS.out,<-ag.out];exact V0 s f w x hx
  have ah:Hid (xc=46 ↔ x=46):=hid (by rw[<-ag.out];exact j9 x 46 (by decide));clear hx;by_cases I:xc=46
  ·have j:Hid (r=false):=hid (Z.out (by rw[HX.out,ah.out.1 I];rfl));subst I;go_wp2;go_ret;exact⟨by rw[j.out];rfl,L.out⟩
  have bf:(xc == 46)=false:=by simpa using I
  have ad:Hid (partOk (cur s f i) = !Lib.hasSuffix (cur s f i) uV):=hid (by rw[HX.out,show (x == 46)=false by simpa using fun e=>I (ah.out.2 e)];rfl);clear I;by_cases aG:f+5<=i;rotate_left
  ·have k5:¬ (5:Int)<=(i:Int)-(f:Int):=(by omega);have a6:Hid (partOk (cur s f i)=true):=hid (by rw[ad.out,Jk s f i (by omega) (by omega) (by rw[J.out];omega)];rfl);go_wp2;go_roundg (i+1-(i+1));case measure=>omega
   case rel=>exact⟨i+1,i+1,rfl,by go_num,by go_num,by omega,by omega,hid rfl,hid (.inr ⟨by omega,by rw[D.out,a6.out]⟩)⟩
  have k5:(5:Int)<=(i:Int)-(f:Int):=by omega
  obtain⟨T5,ac⟩:=nm_ (⟨((s.drop (i-5)).take 5).toArray⟩:ByteArray);have aU:∀ w:World,(Instr.slice 9 (.string S) (some (.int .i64 ((i:Int)-5))) (some (.int .i64 i)) none).run prog w=.ok (.string T5) w:=fun w=>by
   have h:=EX s (i-5) i (by omega) (by rw[J.out];omega) w;rw[show i-(i-5)=5 by omega,ac.out,HS.out,show (((i-5:Nat)):Int)=(i:Int)-5 by omega] at h;exact h
  have M:Hid (T5.toList=(s.drop (i-5)).take 5):=hid (by rw[<-ac.out,Lib.toList_data]);have ae:Hid (partOk (cur s f i) = !((s.drop (i-5)).take 5 == uV)):=hid (by rw[ad.out,GV s f i aG (by rw[J.out];omega)]);by_cases A:(s.drop (i-5)).take 5=uV
  ·have aI:(T5.toList == [46,108,111,99,107])=true:=(by rw[M.out,A];rfl);have j:Hid (r=false):=hid (Z.out (by rw[ae.out,A];rfl));clear A;go_wp2;go_ret;exact⟨by rw[j.out];rfl,L.out⟩
  have aI:(T5.toList == [46,108,111,99,107])=false:=by rw[M.out];simpa [uV] using A
  have a6:Hid (partOk (cur s f i)=true):=hid (by rw[ae.out,show ((s.drop (i-5)).take 5 == uV)=false by simpa using A];rfl);clear A;go_wp2;go_roundg (i+1-(i+1));case measure=>omega
  case rel=>exact⟨i+1,i+1,rfl,by go_num,by go_num,by omega,by omega,hid rfl,hid (.inr ⟨by omega,by rw[D.out,a6.out]⟩)⟩
 have aQ:((i:Int) == (n:Int))=false:=by simp;omega
 have b7:i<n:=by omega
 obtain⟨y,hy⟩:∃ y,s[i]? = some y:=⟨_,List.getElem?_eq_getElem (by rw[J.out];exact b7)⟩;have HY:Hid (s[i]? = some y):=hy;obtain⟨c,HC⟩:=nm_ (y.toNat:Int);have az:∀ w:World,(Instr.index 9 (.string S) (.int .i64 i)).run prog w=.ok (.int .u8 c) w:=fun w=>by rw[<-HS.out,<-HC.out];exact V0 s i w y hy
 have aJ:Hid (s.drop i=y :: s.drop (i+1)):=hid (by
  obtain⟨h1,h2⟩:=List.getElem?_eq_some_iff.1 HY.out;rw[WqJ h1,h2])
 have ar:Hid (c=47 ↔ y=47):=hid (by rw[<-HC.out];exact j9 y 47 (by decide));have aK:Hid (pv s (i+1)=some y):=hid (by unfold pv;rw[if_neg (by omega),Nat.add_sub_cancel];exact HY.out);clear hy;by_cases ai:c=47
 ·have ak:=ar.out.1 ai;have D:Hid (r=(partOk (cur s f i) && dgo [] (some 47) (s.drop (i+1)))):=hid (by
   rw[<-a7.out,aA.out.2,aJ.out,ak,dgo,if_pos rfl])
  have Z:Hid (partOk (cur s f i)=false->r=false):=fun h=>by rw[D.out,h];rfl
  have au:Hid (pv s (i+1)=some 47):=hid (by rw[aK.out,ak]);subst ai;clear ak;by_cases aj:f=i
  ·have j:Hid (r=false):=hid (Z.out (by rw[aj];exact GK s i));have k0:((i:Int)-(f:Int) == 0)=true:=(by rw[aj];simp);go_wp2;go_ret;exact⟨by rw[j.out];rfl,L.out⟩
  have aE:f<i:=by omega
  have k0:((i:Int)-(f:Int) == 0)=false:=by simp;omega
  have bg:¬ ((i:Int)-(f:Int)=0):=by omega
  obtain⟨x,hx⟩:∃ x,s[f]? = some x:=⟨_,List.getElem?_eq_getElem (by rw[J.out];omega)⟩;have HX:Hid (partOk (cur s f i)=(!(x == 46) && !Lib.hasSuffix (cur s f i) uV)):=hid (GW s f i aE (by rw[J.out];omega) x hx);obtain⟨xc,ag⟩:=nm_ (x.toNat:Int)
  have aS:∀ w:World,(Instr.index 9 (.string S) (.int .i64 f)).run prog w=.ok (.int .u8 xc) w:=fun w=>by rw[<-HS.out,<-ag.out];exact V0 s f w x hx
  have ah:Hid (xc=46 ↔ x=46):=hid (by rw[<-ag.out];exact j9 x 46 (by decide));clear hx;by_cases I:xc=46
  ·have j:Hid (r=false):=hid (Z.out (by rw[HX.out,ah.out.1 I];rfl));subst I;go_wp2;go_ret;exact⟨by rw[j.out];rfl,L.out⟩
  have bf:(xc == 46)=false:=by simpa using I
  have ad:Hid (partOk (cur s f i) = !Lib.hasSuffix (cur s f i) uV):=hid (by rw[HX.out,show (x == 46)=false by simpa using fun e=>I (ah.out.2 e)];rfl);clear I;by_cases aG:f+5<=i;rotate_left
  ·have k5:¬ (5:Int)<=(i:Int)-(f:Int):=(by omega);have a6:Hid (partOk (cur s f i)=true):=hid (by rw[ad.out,Jk s f i (by omega) (by omega) (by rw[J.out];omega)];rfl);go_wp2;go_roundg (n+1-(i+1));case measure=>omega
   case rel=>exact⟨i+1,i+1,rfl,by go_num,by go_num,by omega,by omega,hid rfl,hid (.inl ⟨by omega,Wz8 _,by rw[a7.out,D.out,a6.out,au.out,show cur s (i+1) (i+1)=[] by simp[cur]];rfl⟩)⟩
  have k5:(5:Int)<=(i:Int)-(f:Int):=by omega
  obtain⟨T5,ac⟩:=nm_ (⟨((s.drop (i-5)).take 5).toArray⟩:ByteArray);have aU:∀ w:World,(Instr.slice 9 (.string S) (some (.int .i64 ((i:Int)-5))) (some (.int .i64 i)) none).run prog w=.ok (.string T5) w:=fun w=>by
   have h:=EX s (i-5) i (by omega) (by rw[J.out];omega) w;rw[show i-(i-5)=5 by omega,ac.out,HS.out,show (((i-5:Nat)):Int)=(i:Int)-5 by omega] at h;exact h
  have M:Hid (T5.toList=(s.drop (i-5)).take 5):=hid (by rw[<-ac.out,Lib.toList_data]);have ae:Hid (partOk (cur s f i) = !((s.drop (i-5)).take 5 == uV)):=hid (by rw[ad.out,GV s f i aG (by rw[J.out];omega)]);by_cases A:(s.drop (i-5)).take 5=uV
  ·have aI:(T5.toList == [46,108,111,99,107])=true:=(by rw[M.out,A];rfl);have j:Hid (r=false):=hid (Z.out (by rw[ae.out,A];rfl));clear A;go_wp2;go_ret;exact⟨by rw[j.out];rfl,L.out⟩
  have aI:(T5.toList == [46,108,111,99,107])=false:=by rw[M.out];simpa [uV] using A
  have a6:Hid (partOk (cur s f i)=true):=hid (by rw[ae.out,show ((s.drop (i-5)).take 5 == uV)=false by simpa using A];rfl);clear A;go_wp2;go_roundg (n+1-(i+1));case measure=>omega
  case rel=>exact⟨i+1,i+1,rfl,by go_num,by go_num,by omega,by omega,hid rfl,hid (.inl ⟨by omega,Wz8 _,by rw[a7.out,D.out,a6.out,au.out,show cur s (i+1) (i+1)=[] by simp[cur]];rfl⟩)⟩
 have bi:(c == 47)=false:=by simpa using ai
 have D:Hid (r=(byteOk y && !(y == 46 && pv s i == some 46) && !(y == 123 && pv s i == some 64) && dgo (cur s f (i+1)) (pv s (i+1)) (s.drop (i+1)))):=hid (by
  rw[<-a7.out,aA.out.2,aJ.out,dgo,if_neg (fun e=>ai (ar.out.2 e)),zqW s f i ax y HY.out,aK.out])
 clear ai;by_cases hb:byteOk y=true;rotate_left
 ·have aD:byteOk y=false:=by simpa using hb
  have j:Hid (r=false):=hid (by rw[D.out,aD];rfl);have aZ:=zqY y c HC.out aD;clear hb aD;rcases aZ with h | h | rfl | rfl | rfl | rfl | rfl | rfl | rfl
  ·go_wp2;go_ret;exact⟨by rw[j.out];rfl,L.out⟩
  ·have bo:¬ c<33:=(by omega);go_wp2;go_ret;exact⟨by rw[j.out];rfl,L.out⟩
  all_goals
   go_wp2;go_ret;exact⟨by rw[j.out];rfl,L.out⟩
 obtain⟨g1,g2,g3,g4,g5,g6,g7,g8,g9⟩:=Oj y c HC.out hb;have f1:¬ c<33:=by omega
 have f2:¬ 126<c:=by omega
 have f3:(c == 126)=false:=by simpa using g3
 have f4:(c == 94)=false:=by simpa using g4
 have f5:(c == 58)=false:=by simpa using g5
 have f6:(c == 63)=false:=by simpa using g6
 have f7:(c == 42)=false:=by simpa using g7
 have f8:(c == 91)=false:=by simpa using g8
 have f9:(c == 92)=false:=by simpa using g9
 have aB:Hid (r=(!(y == 46 && pv s i == some 46) && !(y == 123 && pv s i == some 64) && dgo (cur s f (i+1)) (pv s (i+1)) (s.drop (i+1)))):=hid (by rw[D.out,hb];rfl);clear hb g3 g4 g5 g6 g7 g8 g9 D;have a8:Hid (c=46 ↔ y=46):=hid (by rw[<-HC.out];exact j9 y 46 (by decide));have V:Hid (c=123 ↔ y=123):=hid (by rw[<-HC.out];exact j9 y 123 (by decide))
 have ao:Hid ((y == 46 && pv s i == some 46)=false->(y == 123 && pv s i == some 64)=false->Dw s f (i+1)):=fun h1 h2=>⟨by omega,by rw[a7.out,aB.out,h1,h2];rfl⟩;by_cases aF:i=0
 ·have aH:pv s i=none:=by unfold pv;rw[if_pos aF]
  have Y:Hid (Dw s f (i+1)):=hid (ao.out (by rw[aH];simp) (by rw[aH];simp));have b2:f=0:=by omega
  subst b2;subst aF;have bq:((0:Int) == (n:Int))=false:=by simp;omega
  have bk:∀ w:World,(Instr.index 9 (.string S) (.int .i64 0)).run prog w=.ok (.int .u8 c) w:=az;clear aH az aQ ay ax hi aR;go_wp2;go_roundg (n+1-1);case measure=>omega
  case rel=>exact⟨0,1,rfl,rfl,by go_num,by omega,by omega,hid rfl,hid (.inl ⟨by omega,Y.out⟩)⟩
 have bj:(0:Int)<(i:Int):=by omega
 obtain⟨u,hu⟩:∃ u,s[i-1]? = some u:=⟨_,List.getElem?_eq_getElem (by rw[J.out];omega)⟩;have ap:Hid (pv s i=some u):=hid (by unfold pv;rw[if_neg aF];exact hu);obtain⟨uc,aC⟩:=nm_ (u.toNat:Int);have bm:∀ w:World,(Instr.index 9 (.string S) (.int .i64 ((i:Int)-1))).run prog w=.ok (.int .u8 uc) w:=fun w=>by
  rw[<-HS.out,<-aC.out,show ((i:Int)-1)=((i-1:Nat):Int) by omega];exact V0 s (i-1) w u hu
 have av:Hid (uc=46 ↔ u=46):=hid (by rw[<-aC.out];exact j9 u 46 (by decide));have aw:Hid (uc=64 ↔ u=64):=hid (by rw[<-aC.out];exact j9 u 64 (by decide));clear hu;by_cases K:c=46
 ·by_cases O:uc=46
  ·have j:Hid (r=false):=hid (by rw[aB.out,ap.out,a8.out.1 K,av.out.1 O];rfl);subst K;subst O;go_wp2;go_ret;exact⟨by rw[j.out];rfl,L.out⟩
  have Y:Hid (Dw s f (i+1)):=hid (ao.out (by rw[ap.out];simp;exact fun _ e=>O (av.out.2 e)) (by rw[a8.out.1 K];rfl));have b9:(uc == 46)=false:=by simpa using O
  subst K;clear O;go_wp2;go_roundg (n+1-(i+1));case measure=>omega
  case rel=>exact⟨f,i+1,rfl,rfl,by go_num,by omega,by omega,hid rfl,hid (.inl ⟨by omega,Y.out⟩)⟩
 have bh:(c == 46)=false:=by simpa using K
 by_cases G:c=123
 ·by_cases Q:uc=64
  ·have j:Hid (r=false):=hid (by rw[aB.out,ap.out,V.out.1 G,aw.out.1 Q];rfl);subst G;subst Q;clear K;go_wp2;go_ret;exact⟨by rw[j.out];rfl,L.out⟩
  have Y:Hid (Dw s f (i+1)):=hid (ao.out (by rw[V.out.1 G];rfl) (by rw[ap.out];simp;exact fun _ e=>Q (aw.out.2 e)));have b9:(uc == 64)=false:=by simpa using Q
  subst G;clear Q K;go_wp2;go_roundg (n+1-(i+1));case measure=>omega
  case rel=>exact⟨f,i+1,rfl,rfl,by go_num,by omega,by omega,hid rfl,hid (.inl ⟨by omega,Y.out⟩)⟩
 have aX:(c == 123)=false:=by simpa using G
 have Y:Hid (Dw s f (i+1)):=hid (ao.out (by simp;exact fun e=>absurd (a8.out.2 e) K) (by simp;exact fun e=>absurd (V.out.2 e) G));clear K G;go_wp2;go_roundg (n+1-(i+1));case measure=>omega
 case rel=>exact⟨f,i+1,rfl,rfl,by go_num,by omega,by omega,hid rfl,hid (.inl ⟨by omega,Y.out⟩)⟩
end Go.Proofs.YtdnphaganajejaaGreatDoor.Nm
namespace Go.Proofs
open Go.Proofs.Tryz
open Go.Shelf
def keysT_ren:Go.Shelf.Ren:=⟨fun | 7=>104 | 10=>126 | n=>n,fun | 23=>56 | 26=>9 | 3=>129 | 28=>204 | 0=>0 | 27=>203 | 33=>100 | 4=>4 | n=>n,fun | n=>n⟩
theorem keysT:Go.Proofs.SlLaysZ.n7 prog keysT_ren:={
 mixed:=by kernel_rfl
 f7:=⟨f104.name,by decide,func104.trans (congrArg some (by kernel_rfl))⟩
 f10:=⟨f126.name,by decide,func126.trans (congrArg some (by kernel_rfl))⟩
 t0:=underlying0
 a0:=isAgg0
 z0:=sizeOf0
 v0:=zeroValue0
 t4:=underlying4
 a4:=isAgg4
 z4:=sizeOf4
 v4:=zeroValue4
 t23:=underlying56
 a23:=isAgg56
 z23:=sizeOf56
 v23:=zeroValue56
 t26:=underlying9
 a26:=isAgg9
 z26:=sizeOf9
 v26:=zeroValue9
 t27:=underlying203
 a27:=isAgg203
 z27:=sizeOf203
 v27:=zeroValue203
 t28:=underlying204
 a28:=isAgg204
 z28:=sizeOf204
 v28:=zeroValue204
 t33:=underlying100
 a33:=isAgg100
 z33:=sizeOf100
 v33:=zeroValue100 }
def sortedT_ren:Go.Shelf.Ren:=⟨fun | 6=>103 | 8=>125 | 9=>77 | 11=>163 | 13=>107 | 12=>106 | 23=>136 | 24=>137 | 14=>127 | 15=>128 | 16=>129 | 17=>130 | 18=>131 | 19=>132 | 20=>133 | 21=>134 | 22=>135 | 25=>164 | 26=>165 | 27=>166 | 28=>167 | 29=>168 | 30=>169 | 31=>203 | n=>n,fun | 26=>9 | 28=>204 | 24=>98 | 0=>0 | 3=>3 | 37=>24 | 48=>235 | 50=>237 | 4=>4 | 40=>228 | 39=>227 | 45=>232 | 5=>5 | 9=>9 | 51=>269 | 55=>273 | 57=>305 | 58=>306 | 33=>100 | n=>n,fun | n=>n⟩
theorem sortedT:Go.Proofs.SlLaysZ.n6 prog sortedT_ren:={
 mixed:=by kernel_rfl
 f6:=⟨f103.name,by decide,func103.trans (congrArg some (by kernel_rfl))⟩
 f8:=⟨f125.name,by decide,func125.trans (congrArg some (by kernel_rfl))⟩
 f11:=⟨f163.name,by decide,func163.trans (congrArg some (by kernel_rfl))⟩
 t0:=underlying0
 a0:=isAgg0
 z0:=sizeOf0
 v0:=zeroValue0
 t24:=underlying98
 a24:=isAgg98
 z24:=sizeOf98
 v24:=zeroValue98
 t26:=underlying9
 a26:=isAgg9
 z26:=sizeOf9
 v26:=zeroValue9
 t28:=underlying204
 a28:=isAgg204
 z28:=sizeOf204
 v28:=zeroValue204
 i26:=by kernel_rfl }
def sortT_ren:Go.Shelf.Ren:=⟨fun | 6=>77 | 8=>107 | 9=>106 | 19=>136 | 20=>137 | 21=>127 | 22=>128 | 23=>129 | 24=>130 | 25=>131 | 26=>132 | 27=>133 | 28=>134 | 29=>135 | 36=>164 | 31=>165 | 32=>166 | 37=>167 | 38=>168 | 39=>169 | 41=>203 | n=>n,fun | 27=>98 | 29=>9 | 3=>3 | 32=>24 | 26=>98 | 0=>0 | 44=>235 | 46=>237 | 4=>4 | 36=>228 | 35=>227 | 41=>232 | 5=>5 | 9=>9 | 53=>269 | 57=>273 | 63=>305 | 64=>306 | n=>n,fun | n=>n⟩
theorem sortT:Go.Proofs.SlLaysM.n6 prog sortT_ren:={
 mixed:=by kernel_rfl
 f6:=⟨f77.name,by decide,func77.trans (congrArg some (by kernel_rfl))⟩
 f8:=func107.trans (congrArg some (by kernel_rfl))
 f9:=⟨f106.name,by decide,func106.trans (congrArg some (by kernel_rfl))⟩
 f19:=func136.trans (congrArg some (by kernel_rfl))
 f20:=func137.trans (congrArg some (by kernel_rfl))
 f21:=⟨f127.name,by decide,func127.trans (congrArg some (by kernel_rfl))⟩
 f22:=⟨f128.name,by decide,func128.trans (congrArg some (by kernel_rfl))⟩
 f23:=⟨f129.name,by decide,func129.trans (congrArg some (by kernel_rfl))⟩
 f24:=⟨f130.name,by decide,func130.trans (congrArg some (by kernel_rfl))⟩
 f25:=⟨f131.name,by decide,func131.trans (congrArg some (by kernel_rfl))⟩
 f26:=⟨f132.name,by decide,func132.trans (congrArg some (by kernel_rfl))⟩
 f27:=⟨f133.name,by decide,func133.trans (congrArg some (by kernel_rfl))⟩
 f28:=⟨f134.name,by decide,func134.trans (congrArg some (by kernel_rfl))⟩
 f29:=⟨f135.name,by decide,func135.trans (congrArg some (by kernel_rfl))⟩
 f31:=func165.trans (congrArg some (by kernel_rfl))
 f32:=func166.trans (congrArg some (by kernel_rfl))
 f36:=⟨f164.name,by decide,func164.trans (congrArg some (by kernel_rfl))⟩
 f37:=⟨f167.name,by decide,func167.trans (congrArg some (by kernel_rfl))⟩
 f38:=⟨f168.name,by decide,func168.trans (congrArg some (by kernel_rfl))⟩
 f39:=⟨f169.name,by decide,func169.trans (congrArg some (by kernel_rfl))⟩
 f41:=⟨f203.name,by decide,func203.trans (congrArg some (by kernel_rfl))⟩
 t0:=underlying0
 a0:=isAgg0
 z0:=sizeOf0
 v0:=zeroValue0
 t3:=underlying3
 a3:=isAgg3
 z3:=sizeOf3
 v3:=zeroValue3
 t4:=underlying4
 a4:=isAgg4
 z4:=sizeOf4
 v4:=zeroValue4
 t5:=underlying5
 a5:=isAgg5
 z5:=sizeOf5
 v5:=zeroValue5
 t9:=underlying9
 a9:=isAgg9
 z9:=sizeOf9
 v9:=zeroValue9
 t26:=underlying98
 a26:=isAgg98
 z26:=sizeOf98
 v26:=zeroValue98
 t27:=underlying98
 a27:=isAgg98
 z27:=sizeOf98
 v27:=zeroValue98
 t29:=underlying9
 a29:=isAgg9
 z29:=sizeOf9
 v29:=zeroValue9
 t32:=underlying24
 a32:=isAgg24
 z32:=sizeOf24
 v32:=zeroValue24
 t35:=underlying227
 a35:=isAgg227
 z35:=sizeOf227
 v35:=zeroValue227
 t36:=underlying228
 a36:=isAgg228
 z36:=sizeOf228
 v36:=zeroValue228
 t41:=underlying232
 a41:=isAgg232
 z41:=sizeOf232
 v41:=zeroValue232
 t44:=underlying235
 a44:=isAgg235
 z44:=sizeOf235
 v44:=zeroValue235
 t46:=underlying237
 a46:=isAgg237
 z46:=sizeOf237
 v46:=zeroValue237
 t53:=underlying269
 a53:=isAgg269
 z53:=sizeOf269
 v53:=zeroValue269
 t57:=underlying273
 a57:=isAgg273
 z57:=sizeOf273
 v57:=zeroValue273
 t63:=underlying305
 a63:=isAgg305
 z63:=sizeOf305
 v63:=zeroValue305
 t64:=underlying306
 a64:=isAgg306
 z64:=sizeOf306
 v64:=zeroValue306 }
end Go.Proofs
namespace Go.Proofs.YtdnphaganajejaaGreatDoor.Rk
open Go.Proofs.Tryz
variable {α κ ε : Type} [DecidableEq α]
abbrev St (α κ ε:Type):=α × (κ ⊕ (Unit ⊕ ε))
def tk (m:Tb α κ ε) (s:St α κ ε):Tb α κ ε :=
 match s.2 with
 | .inl k=>putT m s.1 k
 | .inr (.inl _)=>delT m s.1
 | .inr (.inr e)=>logT m s.1 e
def chS (c:Ch α κ ε):List (St α κ ε) :=
 match c.new with
 | some k=>(c.last,.inl k) :: (c.pre++[c.last]).map fun a=>(a,.inr (.inr c.e))
 | none=>(c.last,.inr (.inl ())) :: c.pre.map fun a=>(a,.inr (.inr c.e))
theorem qvw (c:Ch α κ ε) (m:Tb α κ ε):(chS c).foldl tk m=stp m c:=by
 unfold chS stp;cases c.new with
 | some k=>simp only[WqW,WqY];rfl
 | none=>simp only[WqW,WqY];rfl
theorem tk_all (cs:List (Ch α κ ε)):∀ m:Tb α κ ε,(cs.flatMap chS).foldl tk m=cs.foldl stp m:=by
 induction cs with
 | nil=>intro m;rfl
 | cons c cs h=>intro m;simp only[List.flatMap_cons,WqV,WqW,qvw,h]
def tab:List (α × κ × List ε)->Tb α κ ε
 | [],_=>none
 | x :: l,a=>if x.1=a then some x.2 else tab l a
def tS (t:List (α × κ × List ε)):List (St α κ ε) :=
 t.flatMap fun x=>(x.1,.inl x.2.1) :: x.2.2.map fun e=>(x.1,.inr (.inr e))
theorem zy0 (a:α) (k:κ):∀ (es j:List ε) (m:Tb α κ ε),m a=some (k,j) →
  (es.map fun e=>((a,.inr (.inr e)):St α κ ε)).foldl tk m=fun b=>if b=a then some (k,j++es) else m b:=by
 intro es;induction es with
 | nil =>
  intro j m h;funext b;by_cases hb:b=a
  ·subst hb;simp[h]
  simp[hb]
 | cons e es D =>
  intro j m h;have A:tk m (a,.inr (.inr e))=logT m a e:=rfl;simp only[List.map_cons,WqW,A];rw[D (j++[e]) (logT m a e) (by simp[logT,h])];funext b;by_cases hb:b=a
  ·subst hb;simp
  simp[hb,logT]
theorem zy1 (t:List (α × κ × List ε)) (a:α) (h:∀ x ∈ t,x.1 ≠ a):tab t a=none:=by
 induction t with
 | nil=>rfl
 | cons x t j =>
  simp only[tab,h x (by simp),if_false];exact j fun y hy=>h y (by simp[hy])
theorem tS_back:∀ (t:List (α × κ × List ε)) (m:Tb α κ ε),(t.Pairwise fun x y=>x.1 ≠ y.1)->(∀ x ∈ t,m x.1=none) →
  (tS t).foldl tk m=fun b=>(tab t b).or (m b):=by
 intro t;induction t with
 | nil=>intro m _ _;funext b;simp[tS,tab]
 | cons x t I =>
  intro m hd D;rw[List.pairwise_cons] at hd;have h0:tS (x :: t)=((x.1,.inl x.2.1) :: x.2.2.map fun e=>(x.1,.inr (.inr e)))++tS t:=by simp[tS]
  have G:tk m (x.1,.inl x.2.1)=putT m x.1 x.2.1:=rfl;rw[h0,WqV,WqW,G,zy0 x.1 x.2.1 x.2.2 [] (putT m x.1 x.2.1) (by simp[putT,D x (by simp)])];rw[I _ hd.2 (fun y hy=>by
   have A:¬ y.1=x.1:=fun h=>hd.1 y hy h.symm;simp[A,putT,D y (by simp[hy])])]
  funext b;by_cases hb:x.1=b
  ·subst hb;simp[tab,zy1 t x.1 (fun y hy=>fun h=>hd.1 y hy h.symm)]
  have j:¬ b=x.1:=fun h=>hb h.symm;simp[tab,hb,j,putT]
def exL (a:α):Nat->List (α × ε)->List (α × ε)
 | _,[]=>[]
 | n,x :: l=>if x.1=a then (match n with | 0=>x :: exL a 0 l | n+1=>exL a n l) else x :: exL a n l
theorem qvy (a b:α):∀ (l:List (α × ε)) (n:Nat),lg (exL a n l) b=if b=a then (lg l a).drop n else lg l b:=by
 intro l;induction l with
 | nil=>intro n;cases n <;> by_cases hb:b=a <;> simp[exL,lg,hb]
 | cons x l A =>
  intro n;by_cases hx:x.1=a
  ·cases n with
   | zero =>
    simp only[exL,hx,if_true];rw[lg_cons,A];by_cases hb:b=a
    ·subst hb;simp[lg_cons,hx]
    have h:¬ a=b:=fun j=>hb j.symm;simp[lg_cons,hx,hb,h]
   | succ n =>
    simp only[exL,hx,if_true];rw[A];by_cases hb:b=a
    ·subst hb;simp[lg_cons,hx]
    have h:¬ a=b:=fun j=>hb j.symm;simp[lg_cons,hx,hb,h]
  have h0:exL a n (x :: l)=x :: exL a n l:=by cases n <;> simp[exL,hx]
  rw[h0,lg_cons,A];by_cases hb:b=a
  ·subst hb;simp[lg_cons,hx]
  simp[lg_cons,hb]
theorem mem_exL (a:α):∀ (l:List (α × ε)) (n:Nat) (e:α × ε),e ∈ exL a n l->e ∈ l:=by
 intro l;induction l with
 | nil=>intro n e h;cases n <;> simp[exL] at h
 | cons x l j =>
  intro n e h;by_cases hx:x.1=a
  ·cases n with
   | zero =>
    simp only[exL,hx,if_true,Wqj] at h ⊢;rcases h with h | h
    ·exact .inl h
    exact .inr (j 0 e h)
   | succ n =>
    simp only[exL,hx,if_true] at h;exact Wy0 _ (j n e h)
  have h0:exL a n (x :: l)=x :: exL a n l:=by cases n <;> simp[exL,hx]
  rw[h0,Wqj] at h;rcases h with h | h
  ·rw[h];exact List.mem_cons_self ..
  exact Wy0 _ (j n e h)
theorem R.expire {d:Dc α κ ε} {m:Tb α κ ε} (h:R d m) (a:α) (n:Nat) :
  R ⟨d.refs,exL a n d.logs⟩ (fun b=>if b=a then (m a).map fun x=>(x.1,x.2.drop n) else m b):=by
 refine⟨fun b q hb=>?_,fun b hb=>?_,fun e A=>h.own e (mem_exL a _ _ e A)⟩
 ·show _=some (q,lg (exL a n d.logs) b);rw[qvy];by_cases j:b=a
  ·subst j;simp[h.some_ b q hb]
  simp[j,h.some_ b q hb]
 by_cases j:b=a
 ·subst j;simp[h.none_ b hb]
 simp[j,h.none_ b hb]
def wy (tg:κ->Option α) (f:α->Option κ):Nat->α->Option (List α)
 | n,a =>
  match (f a).bind tg with
  | none=>some [a]
  | some b=>match n with
   | 0=>none
   | n+1=>(wy tg f n b).map (a :: ·)
theorem wy_pre {β γ:Type} (tg:γ->Option β) (f:β->Option γ):∀ (n:Nat) (a:β) (w:List β),wy tg f n a=some w →
  ∃ p z,w=p++[z]/\(∀ b ∈ p,(f b).bind tg ≠ none)/\(f z).bind tg=none:=by
 intro n;induction n with
 | zero =>
  intro a w h;unfold wy at h;cases hb:(f a).bind tg with
  | none =>
   rw[hb] at h;simp only[Wq8.injEq] at h;exact⟨[],a,by simp[<-h],by simp,hb⟩
  | some b=>rw[hb] at h;simp at h
 | succ n G =>
  intro a w h;unfold wy at h;cases hb:(f a).bind tg with
  | none =>
   rw[hb] at h;simp only[Wq8.injEq] at h;exact⟨[],a,by simp[<-h],by simp,hb⟩
  | some b =>
   rw[hb] at h;simp only[Option.map_eq_some_iff] at h;obtain⟨w',A,rfl⟩:=h;obtain⟨p,z,rfl,j,D⟩:=G b w' A;refine⟨a :: p,z,by simp,?_,D⟩;intro x hx;rcases Wqj.mp hx with hx | hx
   ·rw[hx,hb];simp
   exact j x hx
end Go.Proofs.YtdnphaganajejaaGreatDoor.Rk
