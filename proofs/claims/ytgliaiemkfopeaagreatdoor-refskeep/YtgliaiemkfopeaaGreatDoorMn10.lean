import Derived.Test.YtgliaiemkfopeaaGreatDoorMn09
import Derived.Test.YtgliaiemkfopeaaGreatDoorMn01
import Derived.Sort.KeysCollected
import Derived.Test.YtgliaiemkfopeaaGreatDoorMn02
set_option linter.unusedSimpArgs false
set_option linter.unusedVariables false
set_option maxRecDepth 20000
set_option maxHeartbeats 4000000
namespace Go.Proofs.YtgliaiemkfopeaaGreatDoor.Nm
open Go.RowKit
def isN (s:List UInt8):Bool:=(s == [72,69,65,68]) || docOk s
theorem isN_not {s:List UInt8} (h:s ≠ [72,69,65,68]):isN s=prgOk s:=by
 unfold isN
 rw[ok_same,show (s == [72,69,65,68])=false by simpa using h]
 rfl
set_option maxRecDepth 100000 in
set_option maxHeartbeats 2000000 in
theorem isName_any (s:List UInt8) (hs:s.length<=100000) (w:World) (hm:Mx w) :
  Calls Tryz.prog 58 #[.string ⟨s.toArray⟩] w fun e w'=>e=.returned (.bool (isN s))/\Below w.heap.size w w':=by
 by_cases hh:s=[72,69,65,68]
 ·subst hh
  have HB:Hid (Below w.heap.size w w):=Below.refl _ _
  go_enter Tryz.func58,Tryz.ntmps58
  go_wp2
  go_ret
  exact⟨rfl,HB.out⟩
 ·obtain⟨S,HS⟩:=nm_ (⟨s.toArray⟩:ByteArray)
  obtain⟨n,HN⟩:=nm_ s.length
  obtain⟨G,HG⟩:=nm_ w.heap.size
  have hsz:S.size=n:=by rw[<-HS.out,txt_len];exact HN.out
  have he:(S.toList == [72,69,65,68])=false:=by rw[<-HS.out,Lib.toList_data];simpa using hh
  obtain⟨b6,H6⟩:=nm_ ((spl s).all partOk && ((spl s).headD [] == [114,101,102,115]) && decide (1<(spl s).length))
  obtain⟨b7,H7⟩:=nm_ (s.all byteOk)
  obtain⟨b8,H8⟩:=nm_ (Lib.contains s [46,46])
  obtain⟨b9,H9⟩:=nm_ (Lib.contains s [64,123])
  obtain⟨b10,H10⟩:=nm_ (Lib.hasSuffix s [46])
  have HR:Hid (isN s=(decide (n<=60) && b6 && b7 && !b8 && !b9 && !b10)):=hid (by
   rw[isN_not hh,prgOk,H6.out,H7.out,H8.out,H9.out,H10.out,HN.out])
  have HM:Hid (∀ W,Below G w W->Mx W):=fun W hW=>hm.below (by rw[HG.out];exact hW)
  have C6:Hid (Calls Tryz.prog 91 #[.string S] w fun e w'=>e=.returned (.bool b6)/\Below G w w'):=hid (by
   have:=hasParts_any s hs w hm
   rw[HS.out,H6.out,HG.out] at this
   exact this)
  have C7:Hid (∀ W,Calls Tryz.prog 92 #[.string S] W fun e w'=>e=.returned (.bool b7)/\Below W.heap.size W w'):=fun W=>by
   rw[<-HS.out,<-H7.out];exact hasRunes_any s W
  have C8:Hid (∀ W,Below G w W->Calls Tryz.prog 93 #[.string S,.string ⟨#[46,46]⟩] W fun e w'=>e=.returned (.bool b8)/\w'=W):=fun W hW=>by
   rw[<-HS.out,<-H8.out];exact Xj s [46,46] hs W (HM.out W hW)
  have C9:Hid (∀ W,Below G w W->Calls Tryz.prog 93 #[.string S,.string ⟨#[64,123]⟩] W fun e w'=>e=.returned (.bool b9)/\w'=W):=fun W hW=>by
   rw[<-HS.out,<-H9.out];exact Xj s [64,123] hs W (HM.out W hW)
  have C10:Hid (∀ W,Calls Tryz.prog 94 #[.string S,.string ⟨#[46]⟩] W fun e w'=>e=.returned (.bool b10)/\w'=W):=fun W=>by
   rw[<-HS.out,<-H10.out];exact hasSuffix_any s [46] hs W
  have HB0:Hid (Below G w w):=Below.refl _ _
  have HGS:Hid (G<=w.heap.size):=hid (by rw[HG.out];exact Nat.le_refl _)
  rw[HS.out,HR.out,HG.out]
  clear HR hm hh
  by_cases h60:n<=60
  ·have h60i:(n:Int)<=60:=by omega
   rw[decide_eq_true h60]
   cases b6 with
   | false =>
    go_enter Tryz.func58,Tryz.ntmps58
    go_wp2_with (first
     | (go_at_call 91;refine C6.out.mono ?_;rintro e w1 ⟨rfl,hb1⟩;have HB1:Hid (Below G w w1):=hb1;clear hb1)
     | fail)
    go_ret
    exact⟨rfl,HB1.out⟩
   | true =>
   cases b7 with
   | false =>
    go_enter Tryz.func58,Tryz.ntmps58
    go_wp2_with (first
     | (go_at_call 91;refine C6.out.mono ?_;rintro e w1 ⟨rfl,hb1⟩;have HB1:Hid (Below G w w1):=hb1;clear hb1)
     | (go_at_call 92;refine(C7.out _).mono ?_;rintro e w2 ⟨rfl,hb2⟩;have HB2:Hid (Below G w w2):=HB1.out.trans (hb2.mono (Nat.le_trans HGS.out HB1.out.size));clear hb2)
     | fail)
    go_ret
    exact⟨rfl,HB2.out⟩
   | true =>
   cases b8 with
   | true =>
    go_enter Tryz.func58,Tryz.ntmps58
    go_wp2_with (first
     | (go_at_call 91;refine C6.out.mono ?_;rintro e w1 ⟨rfl,hb1⟩;have HB1:Hid (Below G w w1):=hb1;clear hb1)
     | (go_at_call 92;refine(C7.out _).mono ?_;rintro e w2 ⟨rfl,hb2⟩;have HB2:Hid (Below G w w2):=HB1.out.trans (hb2.mono (Nat.le_trans HGS.out HB1.out.size));clear hb2)
     | (go_at_call 93;refine(C8.out _ HB2.out).mono ?_;rintro e w3 ⟨rfl,rfl⟩)
     | fail)
    go_ret
    exact⟨rfl,HB2.out⟩
   | false =>
   cases b9 with
   | true =>
    go_enter Tryz.func58,Tryz.ntmps58
    go_wp2_with (first
     | (go_at_call 91;refine C6.out.mono ?_;rintro e w1 ⟨rfl,hb1⟩;have HB1:Hid (Below G w w1):=hb1;clear hb1)
     | (go_at_call 92;refine(C7.out _).mono ?_;rintro e w2 ⟨rfl,hb2⟩;have HB2:Hid (Below G w w2):=HB1.out.trans (hb2.mono (Nat.le_trans HGS.out HB1.out.size));clear hb2)
     | (go_at_call 93;refine(C8.out _ HB2.out).mono ?_;rintro e w3 ⟨rfl,rfl⟩)
     | (go_at_call 93;refine(C9.out _ HB2.out).mono ?_;rintro e w3 ⟨rfl,rfl⟩)
     | fail)
    go_ret
    exact⟨rfl,HB2.out⟩
   | false =>
    go_enter Tryz.func58,Tryz.ntmps58
    go_wp2_with (first
     | (go_at_call 91;refine C6.out.mono ?_;rintro e w1 ⟨rfl,hb1⟩;have HB1:Hid (Below G w w1):=hb1;clear hb1)
     | (go_at_call 92;refine(C7.out _).mono ?_;rintro e w2 ⟨rfl,hb2⟩;have HB2:Hid (Below G w w2):=HB1.out.trans (hb2.mono (Nat.le_trans HGS.out HB1.out.size));clear hb2)
     | (go_at_call 93;refine(C8.out _ HB2.out).mono ?_;rintro e w3 ⟨rfl,rfl⟩)
     | (go_at_call 93;refine(C9.out _ HB2.out).mono ?_;rintro e w3 ⟨rfl,rfl⟩)
     | (go_at_call 94;refine(C10.out _).mono ?_;rintro e w3 ⟨rfl,rfl⟩)
     | fail)
    go_ret
    exact⟨by cases b10 <;> rfl,HB2.out⟩
  ·have h60i:¬ (n:Int)<=60:=by omega
   rw[decide_eq_false h60]
   go_enter Tryz.func58,Tryz.ntmps58
   go_wp2
   go_ret
   exact⟨rfl,HB0.out⟩
theorem Xk (s:List UInt8) (j:Nat) (w:World) (x:UInt8) (h:s[j]? = some x):(Instr.index 9 (.string ⟨s.toArray⟩) (.int .i64 j)).run Tryz.prog w=.ok (.int .u8 (x.toNat:Int)) w:=by
 obtain⟨hj,hx⟩:=List.getElem?_eq_some_iff.1 h
 rw[run_index_string (P:=Tryz.prog) w 9 ⟨s.toArray⟩ .i64 j Tryz.underlying9,dif_pos ⟨by omega,by rw[txt_len];omega⟩]
 simp only[Int.toNat_natCast]
 rw[<-hx]
 rfl
theorem ext_txt (s:List UInt8) (i j:Nat):(⟨s.toArray⟩:ByteArray).extract i j=⟨((s.drop i).take (j-i)).toArray⟩:=by
 apply ByteArray.ext
 simp[ByteArray.data_extract,List.extract]
theorem slc_to (s:List UInt8) (j:Nat) (h:j<=s.length) (w:World):(Instr.slice 9 (.string ⟨s.toArray⟩) none (some (.int .i64 j)) none).run Tryz.prog w=.ok (.string ⟨(s.take j).toArray⟩) w:=by
 rw[run_slice_string_to_if w 9 _ .i64 j Tryz.underlying9,if_pos ⟨by omega,by rw[txt_len];omega⟩,Int.toNat_natCast,ext_txt,List.drop_zero,Nat.sub_zero]
theorem slc_mid (s:List UInt8) (i j:Nat) (h1:i<=j) (h2:j<=s.length) (w:World):(Instr.slice 9 (.string ⟨s.toArray⟩) (some (.int .i64 i)) (some (.int .i64 j)) none).run Tryz.prog w=.ok (.string ⟨((s.drop i).take (j-i)).toArray⟩) w:=by
 rw[run_slice_string w 9 _ .i64 .i64 i j Tryz.underlying9 (by omega) (by omega) (by rw[txt_len];omega),Int.toNat_natCast,Int.toNat_natCast,ext_txt]
def uJ:List UInt8:=[46,108,111,99,107]
theorem suf_iff (l p:List UInt8):Lib.hasSuffix l p=(l.drop (l.length-p.length) == p):=by
 rw[Lib.hasSuffix,Bool.eq_iff_iff,List.isSuffixOf_iff_suffix,List.suffix_iff_eq_drop,beq_iff_eq]
 exact eq_comm
theorem suf_dot (s:List UInt8) (x:UInt8) (h:s[s.length-1]? = some x):Lib.hasSuffix s [46]=(x == 46):=by
 rw[suf_iff]
 obtain⟨hj,hx⟩:=List.getElem?_eq_some_iff.1 h
 rw[show ([46] : List UInt8).length=1 from rfl,List.drop_eq_getElem_cons hj,hx,List.drop_eq_nil_of_le (by omega)]
 simp
def cur (s:List UInt8) (f i:Nat):List UInt8:=(s.drop f).take (i-f)
theorem cur_len (s:List UInt8) (f i:Nat) (h:f<=i) (hi:i<=s.length):(cur s f i).length=i-f:=by
 simp[cur];omega
theorem part_none (s:List UInt8) (f:Nat):partOk (cur s f f)=false:=by simp[cur,partOk]
theorem part_dot (s:List UInt8) (f i:Nat) (hf:f<i) (x:UInt8) (hx:s[f]? = some x):Lib.hasPrefix (cur s f i) [46]=(x == 46):=by
 obtain⟨hj,hx⟩:=List.getElem?_eq_some_iff.1 hx
 rw[Lib.hasPrefix,cur,List.drop_eq_getElem_cons hj,hx,show i-f=(i-f-1)+1 by omega,List.take_succ_cons]
 simp[List.isPrefixOf]
 rw[Bool.eq_iff_iff]
 simp
 exact eq_comm
theorem part_lock (s:List UInt8) (f i:Nat) (hf:f+5<=i) (hi:i<=s.length):Lib.hasSuffix (cur s f i) uJ=((s.drop (i-5)).take 5 == uJ):=by
 rw[suf_iff,cur_len s f i (by omega) hi,show uJ.length=5 from rfl,cur,List.drop_take,List.drop_drop,show f+(i-f-5)=i-5 by omega,show i-f-(i-f-5)=5 by omega]
theorem part_short (s:List UInt8) (f i:Nat) (hf:f<=i) (h5:i<f+5) (hi:i<=s.length):Lib.hasSuffix (cur s f i) uJ=false:=by
 rw[suf_iff,Bool.eq_false_iff]
 intro h
 have:=congrArg List.length (beq_iff_eq.1 h)
 rw[List.length_drop,cur_len s f i hf hi] at this
 simp[uJ] at this
 omega
theorem part_some (s:List UInt8) (f i:Nat) (hf:f<i) (hi:i<=s.length) (x:UInt8) (hx:s[f]? = some x):partOk (cur s f i)=(!(x == 46) && !Lib.hasSuffix (cur s f i) uJ):=by
 unfold partOk
 rw[part_dot s f i hf x hx]
 have:(cur s f i).isEmpty=false:=by
  have:=cur_len s f i (by omega) hi
  cases h:cur s f i with
  | nil=>rw[h] at this;simp at this;omega
  | cons a l=>rfl
 rw[this]
 rfl
theorem cur_snoc (s:List UInt8) (f i:Nat) (hf:f<=i) (x:UInt8) (hx:s[i]? = some x):cur s f (i+1)=cur s f i++[x]:=by
 unfold cur
 rw[show i+1-f=(i-f)+1 by omega,List.take_add_one,List.getElem?_drop,show f+(i-f)=i by omega,hx]
 rfl
theorem bad_byte (x:UInt8) (c:Int) (hc:(x.toNat:Int)=c) (h:byteOk x=false):c<33 ∨ 126<c ∨ c=126 ∨ c=94 ∨ c=58 ∨ c=63 ∨ c=42 ∨ c=91 ∨ c=92:=by
 by_cases h1:c<33
 ·exact .inl h1
 ·by_cases h2:126<c
  ·exact .inr (.inl h2)
  ·unfold byteOk at h
   rw[decide_eq_true (by omega),decide_eq_true (by omega)] at h
   simp at h
   have h':x=126 ∨ x=94 ∨ x=58 ∨ x=63 ∨ x=42 ∨ x=91 ∨ x=92:=by
    apply Classical.byContradiction
    intro hn
    simp only[not_or] at hn
    exact hn.2.2.2.2.2.2 (h hn.1 hn.2.1 hn.2.2.1 hn.2.2.2.1 hn.2.2.2.2.1 hn.2.2.2.2.2.1)
   rcases h' with rfl | rfl | rfl | rfl | rfl | rfl | rfl <;> subst hc <;> decide
theorem good_byte (x:UInt8) (c:Int) (hc:(x.toNat:Int)=c) (h:byteOk x=true):33<=c/\c<=126/\c ≠ 126/\c ≠ 94/\c ≠ 58/\c ≠ 63/\c ≠ 42/\c ≠ 91/\c ≠ 92:=by
 unfold byteOk at h
 simp at h
 obtain⟨⟨h1,h2⟩,h3⟩:=h
 have hn:∀ n:Nat,n<256->x ≠ UInt8.ofNat n->c ≠ n:=fun n hn hx e=>hx (UInt8.toNat_inj.1 (by
  have:x.toNat=n:=by omega
  rw[this]
  simp
  omega))
 refine⟨by omega,by omega,hn 126 (by decide) h3.1,hn 94 (by decide) h3.2.1,hn 58 (by decide) h3.2.2.1,hn 63 (by decide) h3.2.2.2.1,hn 42 (by decide) h3.2.2.2.2.1,hn 91 (by decide) h3.2.2.2.2.2.1,hn 92 (by decide) h3.2.2.2.2.2.2⟩
theorem j5 (x:UInt8) (n:Nat) (hn:n<256):((x.toNat:Int)=(n:Int)) ↔ x=UInt8.ofNat n:=by
 constructor
 ·intro h
  exact UInt8.toNat_inj.1 (by
   have:x.toNat=n:=by omega
   rw[this]
   simp
   omega)
 ·intro h
  rw[h]
  simp
  omega
def pv (s:List UInt8) (i:Nat):Option UInt8:=if i=0 then none else s[i-1]?
def Dw (s:List UInt8) (f i:Nat):Prop:=f<=i/\dgo [] none s=dgo (cur s f i) (pv s i) (s.drop i)
set_option maxRecDepth 100000 in
theorem refName_any (s:List UInt8) (hs:s.length<=100000) (w:World) :
  Calls Tryz.prog 51 #[.string ⟨s.toArray⟩] w fun e w'=>e=.returned (.bool (isN s))/\Below w.heap.size w w':=by
 have HB:Hid (Below w.heap.size w w):=Below.refl _ _
 by_cases hh:s=[72,69,65,68]
 ·subst hh
  go_enter Tryz.func51,Tryz.ntmps51
  go_wp2
  go_ret
  exact⟨rfl,HB.out⟩
 ·obtain⟨S,HS⟩:=nm_ (⟨s.toArray⟩:ByteArray)
  obtain⟨n,HN⟩:=nm_ s.length
  have hsz:S.size=n:=by rw[<-HS.out,txt_len];exact HN.out
  have he:(S.toList == [72,69,65,68])=false:=by rw[<-HS.out,Lib.toList_data];simpa using hh
  have HR:Hid (isN s=docOk s):=hid (by
   unfold isN
   rw[show (s == [72,69,65,68])=false by simpa using hh]
   rfl)
  rw[HS.out,HR.out]
  clear hh
  by_cases h60:n<=60
  rotate_left
  ·have h60i:(60:Int)<(n:Int):=by omega
   have HF:Hid (docOk s=false):=hid (by unfold docOk;rw[HN.out,decide_eq_false h60];rfl)
   rw[HF.out]
   go_enter Tryz.func51,Tryz.ntmps51
   go_wp2
   go_ret
   exact⟨rfl,HB.out⟩
  have h60i:¬ (60:Int)<(n:Int):=by omega
  by_cases h6:6<=n
  rotate_left
  ·have h6i:(n:Int)<6:=by omega
   have HF:Hid (docOk s=false):=hid (by unfold docOk;rw[HN.out,decide_eq_false h6];simp)
   rw[HF.out]
   go_enter Tryz.func51,Tryz.ntmps51
   go_wp2
   go_ret
   exact⟨rfl,HB.out⟩
  have h6i:¬ (n:Int)<6:=by omega
  obtain⟨T,HT⟩:=nm_ (⟨(s.take 5).toArray⟩:ByteArray)
  have hsl:∀ w:World,(Instr.slice 9 (.string S) none (some (.int .i64 5)) none).run Tryz.prog w=.ok (.string T) w:=fun w=>by
   rw[<-HS.out,<-HT.out];exact slc_to s 5 (by rw[HN.out];omega) w
  have HTL:Hid (T.toList=s.take 5):=hid (by rw[<-HT.out,Lib.toList_data])
  by_cases hr:s.take 5=[114,101,102,115,47]
  rotate_left
  ·have hrb:(T.toList == [114,101,102,115,47])=false:=by rw[HTL.out];simpa using hr
   have HF:Hid (docOk s=false):=hid (by unfold docOk;rw[show (s.take 5 == [114,101,102,115,47])=false by simpa using hr];simp)
   rw[HF.out]
   clear hr
   go_enter Tryz.func51,Tryz.ntmps51
   go_wp2
   go_ret
   exact⟨rfl,HB.out⟩
  have hrb:(T.toList == [114,101,102,115,47])=true:=by rw[HTL.out];simpa using hr
  obtain⟨z,hz⟩:∃ z,s[n-1]? = some z:=⟨_,List.getElem?_eq_getElem (by rw[HN.out];omega)⟩
  obtain⟨zc,HZC⟩:=nm_ (z.toNat:Int)
  have hixz:∀ w:World,(Instr.index 9 (.string S) (.int .i64 ((n:Int)-1))).run Tryz.prog w=.ok (.int .u8 zc) w:=fun w=>by
   rw[<-HS.out,<-HZC.out,show ((n:Int)-1)=((n-1:Nat):Int) by omega];exact Xk s (n-1) w z hz
  have HSF:Hid (Lib.hasSuffix s [46]=(z == 46)):=hid (suf_dot s z (by rw[HN.out];exact hz))
  have HZ:Hid (zc=46 ↔ z=46):=hid (by rw[<-HZC.out];exact j5 z 46 (by decide))
  by_cases hzd:zc=46
  ·have HF:Hid (docOk s=false):=hid (by unfold docOk;rw[HSF.out,HZ.out.1 hzd];simp)
   rw[HF.out]
   subst hzd
   clear hr
   go_enter Tryz.func51,Tryz.ntmps51
   go_wp2
   go_ret
   exact⟨rfl,HB.out⟩
  have hzb:(zc == 46)=false:=by simpa using hzd
  obtain⟨r,HRR⟩:=nm_ (dgo [] none s)
  have HF:Hid (docOk s=r):=hid (by
   unfold docOk
   rw[HN.out,decide_eq_true h60,decide_eq_true h6,hr,HSF.out,show (z == 46)=false by simpa using fun e=>hzd (HZ.out.2 e),HRR.out]
   simp)
  rw[HF.out]
  have HD0:Hid (Dw s 0 0):=⟨Nat.le_refl _,by simp[cur,pv]⟩
  clear hr hz hzd
  go_enter Tryz.func51,Tryz.ntmps51
  go_wp2
  go_loopg [4,5] (n+1) (fun g vf vi wr=>∃ f i:Nat,g=n+1-i/\vf=.int .i64 f/\vi=.int .i64 i/\i<=n+1/\f<=i/\Hid (wr=w)/\Hid ((i<=n/\Dw s f i) ∨ (i=n+1/\r=true)))
  case atStart=>exact⟨0,0,rfl,rfl,rfl,by omega,by omega,hid rfl,hid (.inl ⟨by omega,HD0.out⟩)⟩
  case round =>
   obtain⟨f,i,hg,rfl,rfl,hi,hfi0,HW,HI⟩:=hrel
   have hww:=HW.out
   subst hww
   clear HW
   by_cases hin:i<=n
   rotate_left
   ·have hini:¬ (i:Int)<=(n:Int):=by omega
    have HRT:Hid (r=true):=hid (by
     rcases HI.out with h | h
     ·exact absurd h.1 hin
     ·exact h.2)
    go_wp2
    go_ret
    exact⟨by rw[HRT.out];rfl,HB.out⟩
   have hini:(i:Int)<=(n:Int):=by omega
   have HDW:Hid (Dw s f i):=hid (by
    rcases HI.out with h | h
    ·exact h.2
    ·exact absurd h.1 (by omega))
   clear HI
   by_cases hie:i=n
   ·subst hie
    have HRP:Hid (r=partOk (cur s f i)):=hid (by
     rw[<-HRR.out,HDW.out.2,List.drop_eq_nil_of_le (by rw[HN.out];omega)]
     rfl)
    have HPB:Hid (partOk (cur s f i)=false->r=false):=fun h=>by rw[HRP.out,h]
    by_cases hfi:f=i
    ·have HRF:Hid (r=false):=hid (HPB.out (by rw[hfi];exact part_none s i))
     have k0:((i:Int)-(f:Int) == 0)=true:=by rw[hfi];simp
     go_wp2
     go_ret
     exact⟨by rw[HRF.out];rfl,HB.out⟩
    have hfl:f<i:=by omega
    have k0:((i:Int)-(f:Int) == 0)=false:=by simp;omega
    have k0':¬ ((i:Int)-(f:Int)=0):=by omega
    obtain⟨x,hx⟩:∃ x,s[f]? = some x:=⟨_,List.getElem?_eq_getElem (by rw[HN.out];omega)⟩
    have HX:Hid (partOk (cur s f i)=(!(x == 46) && !Lib.hasSuffix (cur s f i) uJ)):=hid (part_some s f i hfl (by rw[HN.out];omega) x hx)
    obtain⟨xc,HXC⟩:=nm_ (x.toNat:Int)
    have hixf:∀ w:World,(Instr.index 9 (.string S) (.int .i64 f)).run Tryz.prog w=.ok (.int .u8 xc) w:=fun w=>by rw[<-HS.out,<-HXC.out];exact Xk s f w x hx
    have HXD:Hid (xc=46 ↔ x=46):=hid (by rw[<-HXC.out];exact j5 x 46 (by decide))
    clear hx
    by_cases hxd:xc=46
    ·have HRF:Hid (r=false):=hid (HPB.out (by rw[HX.out,HXD.out.1 hxd];rfl))
     subst hxd
     go_wp2
     go_ret
     exact⟨by rw[HRF.out];rfl,HB.out⟩
    have hxb:(xc == 46)=false:=by simpa using hxd
    have HX2:Hid (partOk (cur s f i) = !Lib.hasSuffix (cur s f i) uJ):=hid (by rw[HX.out,show (x == 46)=false by simpa using fun e=>hxd (HXD.out.2 e)];rfl)
    clear hxd
    by_cases hk5:f+5<=i
    rotate_left
    ·have k5:¬ (5:Int)<=(i:Int)-(f:Int):=by omega
     have HPG:Hid (partOk (cur s f i)=true):=hid (by rw[HX2.out,part_short s f i (by omega) (by omega) (by rw[HN.out];omega)];rfl)
     go_wp2
     go_roundg (i+1-(i+1))
     case measure=>omega
     case rel=>exact⟨i+1,i+1,rfl,by go_num,by go_num,by omega,by omega,hid rfl,hid (.inr ⟨by omega,by rw[HRP.out,HPG.out]⟩)⟩
    have k5:(5:Int)<=(i:Int)-(f:Int):=by omega
    obtain⟨T5,HT5⟩:=nm_ (⟨((s.drop (i-5)).take 5).toArray⟩:ByteArray)
    have hsl5:∀ w:World,(Instr.slice 9 (.string S) (some (.int .i64 ((i:Int)-5))) (some (.int .i64 i)) none).run Tryz.prog w=.ok (.string T5) w:=fun w=>by
     have h:=slc_mid s (i-5) i (by omega) (by rw[HN.out];omega) w
     rw[show i-(i-5)=5 by omega,HT5.out,HS.out,show (((i-5:Nat)):Int)=(i:Int)-5 by omega] at h
     exact h
    have HTL5:Hid (T5.toList=(s.drop (i-5)).take 5):=hid (by rw[<-HT5.out,Lib.toList_data])
    have HX3:Hid (partOk (cur s f i) = !((s.drop (i-5)).take 5 == uJ)):=hid (by rw[HX2.out,part_lock s f i hk5 (by rw[HN.out];omega)])
    by_cases hlk:(s.drop (i-5)).take 5=uJ
    ·have htb:(T5.toList == [46,108,111,99,107])=true:=by rw[HTL5.out,hlk];rfl
     have HRF:Hid (r=false):=hid (HPB.out (by rw[HX3.out,hlk];rfl))
     clear hlk
     go_wp2
     go_ret
     exact⟨by rw[HRF.out];rfl,HB.out⟩
    ·have htb:(T5.toList == [46,108,111,99,107])=false:=by rw[HTL5.out];simpa [uJ] using hlk
     have HPG:Hid (partOk (cur s f i)=true):=hid (by rw[HX3.out,show ((s.drop (i-5)).take 5 == uJ)=false by simpa using hlk];rfl)
     clear hlk
     go_wp2
     go_roundg (i+1-(i+1))
     case measure=>omega
     case rel=>exact⟨i+1,i+1,rfl,by go_num,by go_num,by omega,by omega,hid rfl,hid (.inr ⟨by omega,by rw[HRP.out,HPG.out]⟩)⟩
   have hieb:((i:Int) == (n:Int))=false:=by simp;omega
   have hlt:i<n:=by omega
   obtain⟨y,hy⟩:∃ y,s[i]? = some y:=⟨_,List.getElem?_eq_getElem (by rw[HN.out];exact hlt)⟩
   have HY:Hid (s[i]? = some y):=hy
   obtain⟨c,HC⟩:=nm_ (y.toNat:Int)
   have hixi:∀ w:World,(Instr.index 9 (.string S) (.int .i64 i)).run Tryz.prog w=.ok (.int .u8 c) w:=fun w=>by rw[<-HS.out,<-HC.out];exact Xk s i w y hy
   have HDR:Hid (s.drop i=y :: s.drop (i+1)):=hid (by
    obtain⟨h1,h2⟩:=List.getElem?_eq_some_iff.1 HY.out
    rw[List.drop_eq_getElem_cons h1,h2])
   have HC47:Hid (c=47 ↔ y=47):=hid (by rw[<-HC.out];exact j5 y 47 (by decide))
   have HPV:Hid (pv s (i+1)=some y):=hid (by unfold pv;rw[if_neg (by omega),Nat.add_sub_cancel];exact HY.out)
   clear hy
   by_cases h47:c=47
   ·have hy47:=HC47.out.1 h47
    have HRP:Hid (r=(partOk (cur s f i) && dgo [] (some 47) (s.drop (i+1)))):=hid (by
     rw[<-HRR.out,HDW.out.2,HDR.out,hy47,dgo,if_pos rfl])
    have HPB:Hid (partOk (cur s f i)=false->r=false):=fun h=>by rw[HRP.out,h];rfl
    have HPV7:Hid (pv s (i+1)=some 47):=hid (by rw[HPV.out,hy47])
    subst h47
    clear hy47
    by_cases hfi:f=i
    ·have HRF:Hid (r=false):=hid (HPB.out (by rw[hfi];exact part_none s i))
     have k0:((i:Int)-(f:Int) == 0)=true:=by rw[hfi];simp
     go_wp2
     go_ret
     exact⟨by rw[HRF.out];rfl,HB.out⟩
    have hfl:f<i:=by omega
    have k0:((i:Int)-(f:Int) == 0)=false:=by simp;omega
    have k0':¬ ((i:Int)-(f:Int)=0):=by omega
    obtain⟨x,hx⟩:∃ x,s[f]? = some x:=⟨_,List.getElem?_eq_getElem (by rw[HN.out];omega)⟩
    have HX:Hid (partOk (cur s f i)=(!(x == 46) && !Lib.hasSuffix (cur s f i) uJ)):=hid (part_some s f i hfl (by rw[HN.out];omega) x hx)
    obtain⟨xc,HXC⟩:=nm_ (x.toNat:Int)
    have hixf:∀ w:World,(Instr.index 9 (.string S) (.int .i64 f)).run Tryz.prog w=.ok (.int .u8 xc) w:=fun w=>by rw[<-HS.out,<-HXC.out];exact Xk s f w x hx
    have HXD:Hid (xc=46 ↔ x=46):=hid (by rw[<-HXC.out];exact j5 x 46 (by decide))
    clear hx
    by_cases hxd:xc=46
    ·have HRF:Hid (r=false):=hid (HPB.out (by rw[HX.out,HXD.out.1 hxd];rfl))
     subst hxd
     go_wp2
     go_ret
     exact⟨by rw[HRF.out];rfl,HB.out⟩
    have hxb:(xc == 46)=false:=by simpa using hxd
    have HX2:Hid (partOk (cur s f i) = !Lib.hasSuffix (cur s f i) uJ):=hid (by rw[HX.out,show (x == 46)=false by simpa using fun e=>hxd (HXD.out.2 e)];rfl)
    clear hxd
    by_cases hk5:f+5<=i
    rotate_left
    ·have k5:¬ (5:Int)<=(i:Int)-(f:Int):=by omega
     have HPG:Hid (partOk (cur s f i)=true):=hid (by rw[HX2.out,part_short s f i (by omega) (by omega) (by rw[HN.out];omega)];rfl)
     go_wp2
     go_roundg (n+1-(i+1))
     case measure=>omega
     case rel=>exact⟨i+1,i+1,rfl,by go_num,by go_num,by omega,by omega,hid rfl,hid (.inl ⟨by omega,Nat.le_refl _,by rw[HRR.out,HRP.out,HPG.out,HPV7.out,show cur s (i+1) (i+1)=[] by simp[cur]];rfl⟩)⟩
    have k5:(5:Int)<=(i:Int)-(f:Int):=by omega
    obtain⟨T5,HT5⟩:=nm_ (⟨((s.drop (i-5)).take 5).toArray⟩:ByteArray)
    have hsl5:∀ w:World,(Instr.slice 9 (.string S) (some (.int .i64 ((i:Int)-5))) (some (.int .i64 i)) none).run Tryz.prog w=.ok (.string T5) w:=fun w=>by
     have h:=slc_mid s (i-5) i (by omega) (by rw[HN.out];omega) w
     rw[show i-(i-5)=5 by omega,HT5.out,HS.out,show (((i-5:Nat)):Int)=(i:Int)-5 by omega] at h
     exact h
    have HTL5:Hid (T5.toList=(s.drop (i-5)).take 5):=hid (by rw[<-HT5.out,Lib.toList_data])
    have HX3:Hid (partOk (cur s f i) = !((s.drop (i-5)).take 5 == uJ)):=hid (by rw[HX2.out,part_lock s f i hk5 (by rw[HN.out];omega)])
    by_cases hlk:(s.drop (i-5)).take 5=uJ
    ·have htb:(T5.toList == [46,108,111,99,107])=true:=by rw[HTL5.out,hlk];rfl
     have HRF:Hid (r=false):=hid (HPB.out (by rw[HX3.out,hlk];rfl))
     clear hlk
     go_wp2
     go_ret
     exact⟨by rw[HRF.out];rfl,HB.out⟩
    ·have htb:(T5.toList == [46,108,111,99,107])=false:=by rw[HTL5.out];simpa [uJ] using hlk
     have HPG:Hid (partOk (cur s f i)=true):=hid (by rw[HX3.out,show ((s.drop (i-5)).take 5 == uJ)=false by simpa using hlk];rfl)
     clear hlk
     go_wp2
     go_roundg (n+1-(i+1))
     case measure=>omega
     case rel=>exact⟨i+1,i+1,rfl,by go_num,by go_num,by omega,by omega,hid rfl,hid (.inl ⟨by omega,Nat.le_refl _,by rw[HRR.out,HRP.out,HPG.out,HPV7.out,show cur s (i+1) (i+1)=[] by simp[cur]];rfl⟩)⟩
   have h47b:(c == 47)=false:=by simpa using h47
   have HRP:Hid (r=(byteOk y && !(y == 46 && pv s i == some 46) && !(y == 123 && pv s i == some 64) && dgo (cur s f (i+1)) (pv s (i+1)) (s.drop (i+1)))):=hid (by
    rw[<-HRR.out,HDW.out.2,HDR.out,dgo,if_neg (fun e=>h47 (HC47.out.2 e)),cur_snoc s f i hfi0 y HY.out,HPV.out])
   clear h47
   by_cases hb:byteOk y=true
   rotate_left
   ·have hb':byteOk y=false:=by simpa using hb
    have HRF:Hid (r=false):=hid (by rw[HRP.out,hb'];rfl)
    have hcs:=bad_byte y c HC.out hb'
    clear hb hb'
    rcases hcs with h | h | rfl | rfl | rfl | rfl | rfl | rfl | rfl
    ·go_wp2
     go_ret
     exact⟨by rw[HRF.out];rfl,HB.out⟩
    ·have h33:¬ c<33:=by omega
     go_wp2
     go_ret
     exact⟨by rw[HRF.out];rfl,HB.out⟩
    all_goals
     go_wp2
     go_ret
     exact⟨by rw[HRF.out];rfl,HB.out⟩
   obtain⟨g1,g2,g3,g4,g5,g6,g7,g8,g9⟩:=good_byte y c HC.out hb
   have f1:¬ c<33:=by omega
   have f2:¬ 126<c:=by omega
   have f3:(c == 126)=false:=by simpa using g3
   have f4:(c == 94)=false:=by simpa using g4
   have f5:(c == 58)=false:=by simpa using g5
   have f6:(c == 63)=false:=by simpa using g6
   have f7:(c == 42)=false:=by simpa using g7
   have f8:(c == 91)=false:=by simpa using g8
   have f9:(c == 92)=false:=by simpa using g9
   have HR2:Hid (r=(!(y == 46 && pv s i == some 46) && !(y == 123 && pv s i == some 64) && dgo (cur s f (i+1)) (pv s (i+1)) (s.drop (i+1)))):=hid (by rw[HRP.out,hb];rfl)
   clear hb g3 g4 g5 g6 g7 g8 g9 HRP
   have HC46:Hid (c=46 ↔ y=46):=hid (by rw[<-HC.out];exact j5 y 46 (by decide))
   have HC123:Hid (c=123 ↔ y=123):=hid (by rw[<-HC.out];exact j5 y 123 (by decide))
   have HNX:Hid ((y == 46 && pv s i == some 46)=false->(y == 123 && pv s i == some 64)=false->Dw s f (i+1)):=fun h1 h2=>⟨by omega,by rw[HRR.out,HR2.out,h1,h2];rfl⟩
   by_cases hi0:i=0
   ·have hp0:pv s i=none:=by unfold pv;rw[if_pos hi0]
    have HGO:Hid (Dw s f (i+1)):=hid (HNX.out (by rw[hp0];simp) (by rw[hp0];simp))
    have hf0:f=0:=by omega
    subst hf0
    subst hi0
    have hz0:((0:Int) == (n:Int))=false:=by simp;omega
    have hix0:∀ w:World,(Instr.index 9 (.string S) (.int .i64 0)).run Tryz.prog w=.ok (.int .u8 c) w:=hixi
    clear hp0 hixi hieb hini hfi0 hi hin
    go_wp2
    go_roundg (n+1-1)
    case measure=>omega
    case rel=>exact⟨0,1,rfl,rfl,by go_num,by omega,by omega,hid rfl,hid (.inl ⟨by omega,HGO.out⟩)⟩
   have hi0i:(0:Int)<(i:Int):=by omega
   obtain⟨u,hu⟩:∃ u,s[i-1]? = some u:=⟨_,List.getElem?_eq_getElem (by rw[HN.out];omega)⟩
   have HPU:Hid (pv s i=some u):=hid (by unfold pv;rw[if_neg hi0];exact hu)
   obtain⟨uc,HUC⟩:=nm_ (u.toNat:Int)
   have hixu:∀ w:World,(Instr.index 9 (.string S) (.int .i64 ((i:Int)-1))).run Tryz.prog w=.ok (.int .u8 uc) w:=fun w=>by
    rw[<-HS.out,<-HUC.out,show ((i:Int)-1)=((i-1:Nat):Int) by omega];exact Xk s (i-1) w u hu
   have HU46:Hid (uc=46 ↔ u=46):=hid (by rw[<-HUC.out];exact j5 u 46 (by decide))
   have HU64:Hid (uc=64 ↔ u=64):=hid (by rw[<-HUC.out];exact j5 u 64 (by decide))
   clear hu
   by_cases h46:c=46
   ·by_cases hu46:uc=46
    ·have HRF:Hid (r=false):=hid (by rw[HR2.out,HPU.out,HC46.out.1 h46,HU46.out.1 hu46];rfl)
     subst h46
     subst hu46
     go_wp2
     go_ret
     exact⟨by rw[HRF.out];rfl,HB.out⟩
    ·have HGO:Hid (Dw s f (i+1)):=hid (HNX.out (by rw[HPU.out];simp;exact fun _ e=>hu46 (HU46.out.2 e)) (by rw[HC46.out.1 h46];rfl))
     have hub:(uc == 46)=false:=by simpa using hu46
     subst h46
     clear hu46
     go_wp2
     go_roundg (n+1-(i+1))
     case measure=>omega
     case rel=>exact⟨f,i+1,rfl,rfl,by go_num,by omega,by omega,hid rfl,hid (.inl ⟨by omega,HGO.out⟩)⟩
   have h46b:(c == 46)=false:=by simpa using h46
   by_cases h123:c=123
   ·by_cases hu64:uc=64
    ·have HRF:Hid (r=false):=hid (by rw[HR2.out,HPU.out,HC123.out.1 h123,HU64.out.1 hu64];rfl)
     subst h123
     subst hu64
     clear h46
     go_wp2
     go_ret
     exact⟨by rw[HRF.out];rfl,HB.out⟩
    ·have HGO:Hid (Dw s f (i+1)):=hid (HNX.out (by rw[HC123.out.1 h123];rfl) (by rw[HPU.out];simp;exact fun _ e=>hu64 (HU64.out.2 e)))
     have hub:(uc == 64)=false:=by simpa using hu64
     subst h123
     clear hu64 h46
     go_wp2
     go_roundg (n+1-(i+1))
     case measure=>omega
     case rel=>exact⟨f,i+1,rfl,rfl,by go_num,by omega,by omega,hid rfl,hid (.inl ⟨by omega,HGO.out⟩)⟩
   have h123b:(c == 123)=false:=by simpa using h123
   have HGO:Hid (Dw s f (i+1)):=hid (HNX.out (by simp;exact fun e=>absurd (HC46.out.2 e) h46) (by simp;exact fun e=>absurd (HC123.out.2 e) h123))
   clear h46 h123
   go_wp2
   go_roundg (n+1-(i+1))
   case measure=>omega
   case rel=>exact⟨f,i+1,rfl,rfl,by go_num,by omega,by omega,hid rfl,hid (.inl ⟨by omega,HGO.out⟩)⟩
end Go.Proofs.YtgliaiemkfopeaaGreatDoor.Nm
namespace Go.Proofs.YtgliaiemkfopeaaGreatDoor.K
open Go.RowKit
structure Fine (w:World) (D:Nat):Prop where
 wait:w.cell? ⟨D,4,none⟩=some (.int .i64 0)
 bad:w.cell? ⟨D,5,none⟩=some (.int .i64 0)
theorem Y1 (D:Nat) (w:World) (h:Fine w D) :
  Calls Tryz.prog 78 #[.pointer (some ⟨D,0,none⟩)] w fun e w'=>e=.returned (.bool false)/\w'=w:=by
 have h4:=h.wait
 have h5:=h.bad
 go_enter Tryz.func78,Tryz.ntmps78
 go_wp2_with fail
 go_ret
 exact⟨rfl,rfl⟩
theorem TM.look1 {z:Value} {w:World} {g n:Nat} {M:Str->Option Value} (h:TM z w g n M) {t e:TypeId} (ht:Tryz.prog.underlying t=some (.map 9 e)) (hz:(zeroValue e).run Tryz.prog w=.ok z w) {x:Str} (hx:x.length<=4000):(Instr.lookup t (.map (some g)) (sV x) false).run Tryz.prog w=.ok ((M x).getD z) w:=by
 obtain⟨D,h1,h2⟩:=h
 have hkl:=Zk x hx
 obtain⟨v,ps,hrun,hv⟩:=h1.lookup vY ht hz (zd:=.held z) (zp:=[]) rfl hkl
 obtain⟨e1,e2⟩:=h2 x _ hkl
 rw[e2] at hv
 have:v=(M x).getD z:=by
  have:=congrArg (fun o=>o.map (·.1)) hv
  simp only[RV,Option.map_some] at this
  exact DataW.held.inj (Option.some.inj this)
 rw[hrun,this]
theorem Tryz.results42:Tryz.f42.results=#[.tmp 4,.tmp 5]:=by kernel_rfl
theorem jZ (D g n:Nat) (x:Str) (p:Addr) (M:Str->Option Value) (w:World) (h:Fine w D) (h0:w.cell? ⟨D,0,none⟩=some (.map (some g)))
  (hm:TM (.pointer none) w g n M) (hx:x.length<=4000) (hp:M x=some (.pointer (some p))) :
  Calls Tryz.prog 42 #[.pointer (some ⟨D,0,none⟩),sV x] w fun e w'=>e=.returned (.tuple #[.pointer (some p),.nilIface])/\w'=w:=by
 have hl:=hm.look1 kW (zero59 w) hx
 rw[hp,Option.getD_some] at hl
 have hf:=Y1 D w h
 unfold sV at hl ⊢
 go_enter Tryz.func42,Tryz.ntmps42
 go_wp2_with (go_at_call 78;refine hf.mono ?_;rintro e w' ⟨rfl,rfl⟩)
 exact bodyPost_ret (results_tmp2 Tryz.results42 _ _ _) rfl ⟨rfl,rfl⟩
theorem find_none (D g n:Nat) (x:Str) (M:Str->Option Value) (w:World) (h:Fine w D) (h0:w.cell? ⟨D,0,none⟩=some (.map (some g)))
  (hm:TM (.pointer none) w g n M) (hx:x.length<=4000) (hp:M x=none) :
  Calls Tryz.prog 42 #[.pointer (some ⟨D,0,none⟩),sV x] w fun e w'=>e=.returned (.tuple #[.pointer none,.iface 171 (.pointer (some ⟨w.heap.size,0,none⟩))])/\w'=w.alloc (.cells #[sV x,.int .i64 3] 173 (0,0)):=by
 have hl:=hm.look1 kW (zero59 w) hx
 rw[hp,Option.getD_none] at hl
 have hf:=Y1 D w h
 unfold sV at hl ⊢
 go_enter Tryz.func42,Tryz.ntmps42
 go_wp2_with (go_at_call 78;refine hf.mono ?_;rintro e w' ⟨rfl,rfl⟩)
 exact bodyPost_ret (results_tmp2 Tryz.results42 _ _ _) rfl ⟨rfl,rfl⟩
theorem TM.del {z:Value} {w:World} {g n:Nat} {M:Str->Option Value} (h:TM z w g n M) {t e:TypeId} (ht:Tryz.prog.underlying t=some (.map 9 e)) {x:Str} (hx:x.length<=4000) (ty:TypeId):∃ w',(Builtin.delete_ #[t,9] ty #[.map (some g),sV x]).run Tryz.prog w=.ok (.tuple #[]) w'/\TM z w' g n (fun y=>if y=x then none else M y)/\w.grownBy w' (some g):=by
 obtain⟨D,h1,h2⟩:=h
 have hkl:=Zk x hx
 obtain⟨w',hrun,h3,h4⟩:=h1.drop vY ht hkl ty
 refine⟨w',hrun,⟨_,h3,fun y ky hky=>?_⟩,h4.grown⟩
 simp only
 by_cases e:ky=.string x
 ·subst e
  rw[Maps.has_del_same,Maps.atKey_del_same,if_pos (key_eqs hky hkl)]
  exact⟨rfl,rfl⟩
 ·rw[Maps.has_del_other e,Maps.atKey_del_other e,if_neg (fun h=>by subst h;rw[hkl] at hky;exact e (Option.some.inj hky).symm)]
  exact h2 y ky hky
def TR (z:Value) (w:World) (g r n:Nat) (M:Str->Option Value) (L:Str->Bool) (c:Nat):Prop := ∃ D lf,w.ranges (H:=Value) Tryz.prog 9 RV g r n D lf c/\(∀ x kl,keyOf Tryz.prog 9 (sV x)=some kl->Maps.has D kl=(M x).isSome/\D.atKey kl (.held z)=.held ((M x).getD z))/\∀ x kl,keyOf Tryz.prog 9 (sV x)=some kl->lf kl=L x
theorem TR.tm {z:Value} {w:World} {g r n c:Nat} {M:Str->Option Value} {L:Str->Bool} (h:TR z w g r n M L c):TM z w g n M:=by
 obtain⟨D,lf,h1,h2,_⟩:=h
 exact⟨D,h1.owns,h2⟩
theorem TR.lt {z:Value} {w:World} {g r n c:Nat} {M:Str->Option Value} {L:Str->Bool} (h:TR z w g r n M L c):r<w.heap.size/\r ≠ g:=by
 obtain⟨D,lf,h1,_,_⟩:=h
 exact⟨h1.lt,h1.ne⟩
theorem TR.kept {z:Value} {w W:World} {g r n c:Nat} {M:Str->Option Value} {L:Str->Bool} (h:TR z w g r n M L c) (hg:W.heap[g]? = w.heap[g]?) (hr:W.heap[r]? = w.heap[r]?):TR z W g r n M L c:=by
 obtain⟨D,lf,⟨es,ck,si,se,c0,hb,F,hs,hD,hrr,rest⟩,h2,h3⟩:=h
 exact⟨D,lf,⟨es,ck,si,se,c0,hg.trans hb,F,hs,hD,hr.trans hrr,rest⟩,h2,h3⟩
theorem TR.left {z:Value} {w:World} {g r n c:Nat} {M:Str->Option Value} {L:Str->Bool} (h:TR z w g r n M L c):w.rangeLeft g r=c:=by
 obtain⟨D,lf,h1,_,_⟩:=h
 exact h1.left_eq
theorem TM.range {z:Value} {w:World} {g n:Nat} {M:Str->Option Value} (h:TM z w g n M) {t e:TypeId} (ht:Tryz.prog.underlying t=some (.map 9 e)):∃ w' c,(Instr.range t (.map (some g))).run Tryz.prog w=.ok (.pointer (some ⟨w.heap.size,0,none⟩)) w'/\TR z w' g w.heap.size n M (fun x=>(M x).isSome) c/\w.grownBy w' none/\w'.heap.size=w.heap.size+1:=by
 obtain⟨D,h1,h2⟩:=h
 obtain⟨w',r1,r2,r3,r4⟩:=h1.range vY ht
 exact⟨w',_,r1,⟨D,_,r2,h2,fun x kl hk=>(h2 x kl hk).1⟩,r3,r4⟩
theorem TR.next {z:Value} {w:World} {g r n c:Nat} {M:Str->Option Value} {L:Str->Bool} (h:TR z w g r n M L c) (ty:TypeId) :
  (c=0/\(∀ x:Str,x.length<=4000->L x=false)/\(Instr.next (.pointer (some ⟨r,0,none⟩)) false ty).run Tryz.prog w=.ok (.tuple #[.bool false]) w) ∨
  ∃ x v w' c',L x=true/\M x=some v/\(Instr.next (.pointer (some ⟨r,0,none⟩)) false ty).run Tryz.prog w=.ok (.tuple #[.bool true,sV x,v]) w'/\TR z w' g r n M (fun y=>L y && decide (y ≠ x)) c'/\c'<c/\w.grownBy w' (some r)/\w'.heap.size=w.heap.size/\(Instr.entry (.pointer (some ⟨r,0,none⟩))).run Tryz.prog w'=.ok (.tuple #[sV x,v]) w':=by
 obtain⟨D,lf,h1,h2,h3⟩:=h
 rcases h1.next vY ty with ⟨h0,hl,hrun⟩ | ⟨key,v,kl,y,w',cnt',hkey,hlk,hv,hat,hrun,hrg,hlt,hgr,hsz,hen⟩
 ·exact .inl ⟨h0,fun x hx=>by rw[<-h3 x _ (Zk x hx)];exact hl _,hrun⟩
 ·obtain⟨x,rfl,rfl,hxl⟩:=Maps.keyOf_str Tryz.underlying9 hkey
  have hy:y=(.held v,[]):=(Option.some.inj hv).symm
  subst hy
  obtain⟨e1,e2⟩:=h2 x _ hkey
  have hM:M x=some v:=by
   rw[Maps.has_true_of_atKey hat] at e1
   rw[hat] at e2
   cases hm:M x with
   | none=>rw[hm] at e1;cases e1
   | some u=>rw[hm,Option.getD_some] at e2;rw[DataW.held.inj e2]
  refine .inr ⟨x,v,w',cnt',(h3 x _ hkey).symm.trans hlk,hM,hrun,⟨D,_,hrg,h2,fun q kq hq=>?_⟩,hlt,hgr,hsz,hen⟩
  rw[h3 q kq hq]
  obtain⟨q',eq,rfl,_⟩:=Maps.keyOf_str Tryz.underlying9 hq
  have:q=q':=txt_inj eq
  subst this
  by_cases hqx:q=x <;> simp[hqx,Lit.sameKey]
abbrev pN (p:Option Nat):Value:=.pointer (p.map fun b=>⟨b,0,none⟩)
abbrev Mo:=Str × Option Nat
def mvE (m:Mo):List Value:=[sV m.1,pN m.2]
def mv1 (M:Str->Option Value) (m:Mo):Str->Option Value:=fun y=>if y=m.1 then m.2.map fun b=>.pointer (some ⟨b,0,none⟩) else M y
def mvM (M:Str->Option Value) (l:List Mo):Str->Option Value:=l.foldl mv1 M
theorem mvM_snoc (M:Str->Option Value) (l:List Mo) (i:Nat) (h:i<l.length):mvM M (l.take (i+1))=mv1 (mvM M (l.take i)) (l.getD i ([],none)):=by
 rw[qj ([],none) l i h]
 simp[mvM]
theorem rangeAt_ne {w:World} {b off g:Nat} {v:Value} {l:List Value} {es:Array MapEntry} {ck:Nat} (h:w.rangeAt b off (v :: l)) (hg:w.heap[g]? = some (.map es ck)):b ≠ g:=by
 rintro rfl
 have:=h 0 v rfl
 simp[World.cell?,hg] at this
theorem TM.ne {z:Value} {w:World} {g n:Nat} {M:Str->Option Value} (h:TM z w g n M) {b off:Nat} {v:Value} {l:List Value} (hr:w.rangeAt b off (v :: l)):b ≠ g:=by
 obtain⟨D,⟨es,ck,hb,_⟩,_⟩:=h
 exact rangeAt_ne hr hb
theorem TM.alloc {z:Value} {w:World} {g n:Nat} {M:Str->Option Value} (h:TM z w g n M) (o:Obj):TM z (w.alloc o) g n M:=h.sm (Below.heap_alloc _ _ _ h.lt)
theorem TM.mono {z:Value} {w:World} {g n n':Nat} {M:Str->Option Value} (h:TM z w g n M) (hn:n<=n'):TM z w g n' M:=by
 obtain⟨D,h1,h2⟩:=h
 exact⟨D,h1.mono hn,h2⟩
theorem Tryz.results79:Tryz.f79.results=#[]:=by kernel_rfl
set_option maxHeartbeats 2000000 in
theorem set_any (g n:Nat) (a:Option Addr) (c:Nat) (l:List Mo) (M:Str->Option Value) (w:World) (hT:TM (.pointer none) w g n M) (hP:Px mvE 2 ([],none) w a c l) (hl:n+l.length<=100000) (hx:∀ m ∈ l,m.1.length<=4000) :
  Calls Tryz.prog 79 #[.map (some g),.slice a l.length c] w fun e w'=>e=.returned (.tuple #[])/\TM (.pointer none) w' g (n+l.length) (mvM M l)/\w.grownBy w' (some g):=by
 obtain⟨N,HN⟩:=nm_ l.length
 have hNl:n+N<=100000:=by rw[<-HN.out];exact hl
 have HPL:Hid (0<N->∃ b off,a=some ⟨b,off,none⟩/\b ≠ g/\b<w.heap.size):=fun h0=>by
  obtain⟨b,off,e1,e2,e3⟩:=hP.at_ (by rw[HN.out];exact h0)
  exact⟨b,off,e1,hT.ne (by simpa [mvE] using e3 0 (by rw[HN.out];exact h0)),e2⟩
 have HPX:Hid (∀ W,w.grownBy W (some g)->0<N->Px mvE 2 ([],none) W a c l):=fun W hW h0=>hP.grown (fun p hp=>by obtain⟨b,off,e1,e2,_⟩:=HPL.out h0;rw[e1] at hp;cases hp;exact e2) hW
 have HX:Hid (∀ m ∈ l,m.1.length<=4000):=hx
 have HT:Hid (TM (.pointer none) w g n M):=hT
 rw[HN.out]
 clear hP hl hx hT
 go_enter Tryz.func79,Tryz.ntmps79
 go_wp2_with fail
 go_loopg [8] N (fun q iv wr=>∃ i:Nat,iv=.int .i64 i/\q=N-i/\i<=N/\Hid (TM (.pointer none) wr g (n+i) (mvM M (l.take i)))/\Hid (w.grownBy wr (some g)))
 case atStart=>exact⟨0,rfl,rfl,Nat.zero_le _,HT,hid ⟨rfl,rfl,rfl,Nat.le_refl _,fun _ _ _=>rfl⟩⟩
 case round =>
  obtain⟨i,rfl,hg,hin,HB,HW⟩:=hrel
  by_cases hlt:i<N
  ·have hlti:(i:Int)<(N:Int):=by omega
   obtain⟨b,off,hae,hbg,hbl⟩:=HPL.out (by omega)
   subst hae
   obtain⟨m,HM⟩:=nm_ (l.getD i ([],none))
   have hxm:m.1.length<=4000:=HX.out m (by rw[<-HM.out];exact zK l i _ (by rw[HN.out];exact hlt))
   obtain⟨_,_,e1,_,e3⟩:=(HPX.out wr HW.out (by omega)).at_ (by rw[HN.out];omega)
   cases e1
   have e4:=e3 i (by rw[HN.out];exact hlt)
   rw[HM.out] at e4
   have hc0:wr.cell? ⟨b,off+i*2,none⟩=some (sV m.1):=e4 0 _ rfl
   have hc1:wr.cell? ⟨b,off+i*2+1,none⟩=some (pN m.2):=e4 1 _ rfl
   obtain⟨x,p⟩:=m
   simp only at hc0 hc1 hxm
   unfold sV at hc0
   have HSN:Hid (mvM M (l.take (i+1))=mv1 (mvM M (l.take i)) (x,p)):=hid (by rw[mvM_snoc M l i (by rw[HN.out];exact hlt),HM.out])
   have HF:∀ (W:World),w.grownBy W (some g)->∀ w2,W.grownBy w2 (some g)->w.grownBy w2 (some g):=fun W h1 w2 h2=>⟨h2.os.trans h1.os,h2.tape.trans h1.tape,h2.output.trans h1.output,Nat.le_trans h1.size h2.size,fun k hk hn=>(h2.block k (Nat.lt_of_lt_of_le hk h1.size) hn).trans (h1.block k hk hn)⟩
   have HA:∀ o,w.grownBy (wr.alloc o) (some g):=fun o=>HF _ HW.out _ (World.grownBy_alloc wr o _)
   cases p with
   | none =>
    simp only[pN,Option.map_none] at hc1
    obtain⟨w2,hr,hT2,hg2⟩:=(HB.out.alloc (.cells #[.string ⟨x.toArray⟩,.pointer none] 115)).del kW hxm 0
    have HT2:Hid (TM (.pointer none) w2 g (n+(i+1)) (mvM M (l.take (i+1)))):=hid (by rw[HSN.out];exact hT2.mono (by omega))
    have HW2:Hid (w.grownBy w2 (some g)):=hid (HF _ (HA _) _ hg2)
    unfold sV at hr
    clear hT2 hg2
    go_wp2_with (at_delete;refine z8 rfl _ (exec_delete rfl rfl rfl hr) ?_)
    go_roundg (N-(i+1))
    case measure=>omega
    case rel=>exact⟨i+1,by go_num,rfl,by omega,HT2,HW2⟩
   | some q =>
    simp only[pN,Option.map_some] at hc1
    obtain⟨w2,hr,hT2,hg2⟩:=(HB.out.alloc (.cells #[.string ⟨x.toArray⟩,.pointer (some ⟨q,0,none⟩)] 115)).put (by omega) kW hxm (.pointer (some ⟨q,0,none⟩))
    have HT2:Hid (TM (.pointer none) w2 g (n+(i+1)) (mvM M (l.take (i+1)))):=hid (by rw[HSN.out];exact hT2)
    have HW2:Hid (w.grownBy w2 (some g)):=hid (HF _ (HA _) _ hg2)
    unfold sV at hr
    clear hT2 hg2
    go_wp2_with (at_mapUpdate;refine xY rfl (x9 rfl rfl rfl rfl hr) ?_)
    go_roundg (N-(i+1))
    case measure=>omega
    case rel=>exact⟨i+1,by go_num,rfl,by omega,HT2,HW2⟩
  ·have hlti:¬ (i:Int)<(N:Int):=by omega
   obtain rfl:i=N:=by omega
   have HQ:Hid (TM (.pointer none) wr g (n+i) (mvM M l)):=hid (by have:=HB.out;rw[List.take_of_length_le (by rw[HN.out];exact Nat.le_refl _)] at this;exact this)
   go_wp2
   exact bodyPost_end (results_none Tryz.results79 _ _ _) rfl ⟨rfl,HQ.out,HW.out⟩
theorem Tryz.results70:Tryz.f70.results=#[.tmp 4]:=by kernel_rfl
theorem sync_none (D g n:Nat) (x:Str) (M:Str->Option Value) (w:World) (h:Fine w D) (h0:w.cell? ⟨D,0,none⟩=some (.map (some g)))
  (hm:TM (.pointer none) w g n M) (hx:x.length<=4000) (hp:M x=none) :
  Calls Tryz.prog 70 #[.pointer (some ⟨D,0,none⟩),sV x] w fun e w'=>e=.returned (.iface 171 (.pointer (some ⟨w.heap.size,0,none⟩)))/\w'=w.alloc (.cells #[sV x,.int .i64 3] 173 (0,0)):=by
 have hf:=find_none D g n x M w h h0 hm hx hp
 unfold sV at hf ⊢
 go_enter Tryz.func70,Tryz.ntmps70
 go_wp2_with (go_at_call 42;refine hf.mono ?_;rintro e w' ⟨rfl,rfl⟩)
 exact bodyPost_ret (results_tmp Tryz.results70 _ _ _) rfl ⟨rfl,rfl⟩
theorem sync_there (D g n:Nat) (x:Str) (B:Nat) (a:Option Addr) (L cp:Nat) (s:Int) (M:Str->Option Value) (w:World) (h:Fine w D) (h0:w.cell? ⟨D,0,none⟩=some (.map (some g)))
  (hm:TM (.pointer none) w g n M) (hx:x.length<=4000) (hp:M x=some (.pointer (some ⟨B,0,none⟩)))
  (hN:w.heap[B]? = some (.cells #[.slice a L cp,.int .i64 s] 63 (0,0))) :
  Calls Tryz.prog 70 #[.pointer (some ⟨D,0,none⟩),sV x] w fun e w'=>e=.returned .nilIface/\w'=w.setCell ⟨B,1,none⟩ (.int .i64 L):=by
 have hc0:w.cell? ⟨B,0,none⟩=some (.slice a L cp):=by simp[World.cell?,hN]
 have hc1:w.cell? ⟨B,1,none⟩=some (.int .i64 s):=by simp[World.cell?,hN]
 have hfz:w.frozen? ⟨B,1,none⟩=false:=by simp[World.frozen?,hN]
 have hf:=jZ D g n x ⟨B,0,none⟩ M w h h0 hm hx hp
 unfold sV at hf ⊢
 go_enter Tryz.func70,Tryz.ntmps70
 go_wp2_with (go_at_call 42;refine hf.mono ?_;rintro e w' ⟨rfl,rfl⟩)
 exact bodyPost_ret (results_tmp Tryz.results70 _ _ _) rfl ⟨rfl,rfl⟩
end Go.Proofs.YtgliaiemkfopeaaGreatDoor.K
