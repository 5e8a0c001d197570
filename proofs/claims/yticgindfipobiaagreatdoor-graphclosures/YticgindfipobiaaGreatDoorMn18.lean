import Derived.Test.YticgindfipobiaaGreatDoorMn12
import Derived.Test.YticgindfipobiaaGreatDoorMn10
import Derived.Test.YticgindfipobiaaGreatDoorMn01
import Derived.Test.YticgindfipobiaaGreatDoorMn02
import Derived.Laws.IdiomStrings
set_option linter.unusedSimpArgs false
set_option linter.unusedVariables false
set_option maxRecDepth 20000
set_option maxHeartbeats 4000000
namespace Go.Proofs.YticgindfipobiaaGreatDoor
open Go.RowKit
theorem yk (s:List UInt8) (j:Nat) (w:World) (x:UInt8) (h:s[j]? = some x):(Instr.index 9 (.string ⟨s.toArray⟩) (.int .i64 j)).run Tryz.prog w=.ok (.int .u8 (x.toNat:Int)) w:=by
 obtain⟨hj,hx⟩:=List.getElem?_eq_some_iff.1 h
 have hsz:(⟨s.toArray⟩:ByteArray).size=s.length:=by simp[ByteArray.size]
 rw[run_index_string (P:=Tryz.prog) w 9 ⟨s.toArray⟩ .i64 j Tryz.underlying9,dif_pos ⟨by omega,by rw[hsz];omega⟩]
 simp only[Int.toNat_natCast]
 rw[<-hx]
 rfl
theorem xz (s:List UInt8) (j:Nat) (x:UInt8) (h:s[j]? = some x):s.take (j+1)=s.take j++[x]:=by
 rw[List.take_add_one,h]
 rfl
theorem Qv {x:UInt8} {n:Nat} (hn:n<256):(x.toNat:Int)=(n:Int) ↔ x=UInt8.ofNat n:=by
 constructor
 ·intro h
  apply UInt8.toNat_inj.1
  rw[UInt8.toNat_ofNat']
  omega
 ·rintro rfl
  rw[UInt8.toNat_ofNat']
  omega
theorem Y3 {p:UInt8->Bool} : ∀ {l:List UInt8},l.dropWhile p=l ↔ ∀ b,l[0]? = some b->p b=false
 | []=>by simp
 | b :: l=>by
  rw[List.dropWhile_cons]
  by_cases hb:p b=true
  ·rw[if_pos hb]
   constructor
   ·intro h
    have h2:=congrArg List.length h
    have h3:=(List.dropWhile_sublist p (l:=l)).length_le
    simp at h2
    omega
   ·intro h
    have:=h b (by simp)
    rw[hb] at this
    cases this
  ·rw[if_neg hb]
   simp[hb]
theorem trim_self (s:List UInt8):Lib.trimS s [32]=s ↔ ∀ b,(s[0]? = some b ∨ s[s.length-1]? = some b)->b ≠ 32:=by
 have key:Lib.trimS s [32]=s ↔ s.reverse.dropWhile ([32].contains ·)=s.reverse/\s.dropWhile ([32].contains ·)=s:=by
  unfold Lib.trimS Lib.trimLeftS Lib.trimRightS
  constructor
  ·intro h
   have h1:=(List.dropWhile_sublist ([32].contains ·) (l:=s.reverse))
   have h2:=(List.dropWhile_sublist ([32].contains ·) (l:=(s.reverse.dropWhile ([32].contains ·)).reverse)).length_le
   rw[h] at h2
   have h3:=h1.length_le
   simp only[List.length_reverse] at h2 h3
   have h4:=h1.eq_of_length (by simp only[List.length_reverse];omega)
   refine⟨h4,?_⟩
   rw[h4,List.reverse_reverse] at h
   exact h
  ·rintro⟨h1,h2⟩
   rw[h1,List.reverse_reverse,h2]
 rw[key,Y3,Y3]
 have hc:∀ b:UInt8,([32].contains b=false) ↔ b ≠ 32:=fun b=>by simp
 simp only[hc]
 by_cases h0:s=[]
 ·subst h0
  simp
 ·have hl:0<s.length:=List.length_pos_iff.2 h0
  rw[List.getElem?_reverse hl]
  constructor
  ·rintro⟨h1,h2⟩ b (h | h)
   ·exact h2 b h
   ·exact h1 b (by simpa using h)
  ·intro h
   exact⟨fun b hb=>h b (.inr (by simpa using hb)),fun b hb=>h b (.inl hb)⟩
theorem message_any (s:List UInt8) (w:World):Calls Tryz.prog 102 #[.string ⟨s.toArray⟩] w fun e w'=>e=.returned (.bool (uz s))/\w'=w:=by
 obtain⟨S,HS⟩:=nn_ (⟨s.toArray⟩:ByteArray)
 obtain⟨n,HN⟩:=nm_ s.length
 have hsz:S.size=n:=by rw[HS.out,<-HN.out];simp[ByteArray.size]
 rw[<-HS.out]
 by_cases h:n<=2000
 ·have hi:¬ (2000:Int)<(n:Int):=by omega
  go_enter Tryz.func102,Tryz.ntmps102
  go_wp2
  go_loopg [3] n (fun g i wr=>∃ j:Nat,j<=n/\g=n-j/\i=.int .i64 j/\Hid (∀ x ∈ s.take j,x ≠ 0)/\Hid (wr=w))
  case atStart=>exact⟨0,by omega,rfl,rfl,hid (by simp),hid rfl⟩
  case round =>
   obtain⟨j,hj,hk,rfl,HT,HW⟩:=hrel
   by_cases hlt:j<n
   ·have hlti:(j:Int)<(n:Int):=by omega
    obtain⟨x,hx⟩:∃ x,s[j]? = some x:=⟨_,List.getElem?_eq_getElem (by rw[HN.out];exact hlt)⟩
    obtain⟨c,HC⟩:=nm_ (x.toNat:Int)
    have HX:Hid (s[j]? = some x):=hx
    have hix:∀ w1:World,(Instr.index 9 (.string S) (.int .i64 j)).run Tryz.prog w1=.ok (.int .u8 c) w1:=fun w1=>by rw[HS.out,<-HC.out];exact yk s j w1 x HX.out
    clear hx
    by_cases hc:c=0
    ·have HM:Hid (uz s=false):=hid (by
      unfold uz
      have hx0:x=0:=(Qv (n:=0) (by decide)).1 (HC.out.trans hc)
      have:(0:UInt8) ∈ s:=hx0 ▸ List.mem_of_getElem? HX.out
      simp[this])
     have HC0:Hid _:=HC
     clear HC HC0
     subst hc
     go_wp2
     go_ret
     exact⟨by rw[HM.out];rfl,HW.out⟩
    ·have hcb:(c == 0)=false:=by simpa using hc
     go_wp2
     go_roundg (n-(j+1))
     case measure=>omega
     case rel =>
      refine⟨j+1,by omega,rfl,by go_num,hid ?_,HW⟩
      rw[xz s j x HX.out]
      intro y hy
      rcases List.mem_append.1 hy with hy | hy
      ·exact HT.out y hy
      ·have:y=x:=by simpa using hy
       subst this
       rintro rfl
       exact hc (HC.out.symm.trans rfl)
   ·have hlti:¬ (j:Int)<(n:Int):=by omega
    obtain rfl:j=n:=by omega
    have HM:Hid (uz s=true):=hid (by
     unfold uz
     have h1:=HT.out
     rw[List.take_of_length_le (by rw[HN.out];omega)] at h1
     have h2:(0:UInt8) ∉ s:=fun h=>h1 0 h rfl
     have h3:s.length<=2000:=by rw[HN.out];exact h
     simp[h2,h3])
    go_wp2
    go_ret
    exact⟨by rw[HM.out];rfl,HW.out⟩
 ·have hi:(2000:Int)<(n:Int):=by omega
  have HM:Hid (uz s=false):=hid (by
   unfold uz
   have h3:¬ s.length<=2000:=by rw[HN.out];exact h
   simp[h3])
  go_enter Tryz.func102,Tryz.ntmps102
  go_wp2
  go_ret
  exact⟨by rw[HM.out];rfl,rfl⟩
def badS (c:Int):Prop:=c=60 ∨ c=62 ∨ c=10 ∨ c=0
theorem badS_iff (x:UInt8):¬ badS (x.toNat:Int) ↔ x ≠ 60/\x ≠ 62/\x ≠ 10/\x ≠ 0:=by
 unfold badS
 rw[show ((x.toNat:Int)=60) ↔ x=60 from Qv (n:=60) (by decide),show ((x.toNat:Int)=62) ↔ x=62 from Qv (n:=62) (by decide),show ((x.toNat:Int)=10) ↔ x=10 from Qv (n:=10) (by decide),show ((x.toNat:Int)=0) ↔ x=0 from Qv (n:=0) (by decide)]
 constructor
 ·intro h
  exact⟨fun e=>h (.inl e),fun e=>h (.inr (.inl e)),fun e=>h (.inr (.inr (.inl e))),fun e=>h (.inr (.inr (.inr e)))⟩
 ·rintro⟨a,b,c,d⟩ (h | h | h | h)
  ·exact a h
  ·exact b h
  ·exact c h
  ·exact d h
theorem Yy (s:List UInt8) (w:World):Calls Tryz.prog 136 #[.string ⟨s.toArray⟩] w fun e w'=>BIs (okT s) e/\w'=w:=by
 obtain⟨S,HS⟩:=nn_ (⟨s.toArray⟩:ByteArray)
 obtain⟨n,HN⟩:=nm_ s.length
 have hsz:S.size=n:=by rw[HS.out,<-HN.out];simp[ByteArray.size]
 rw[<-HS.out]
 by_cases h:n<=60
 ·have hi:¬ (60:Int)<(n:Int):=by omega
  go_enter Tryz.func136,Tryz.ntmps136
  go_wp2
  go_loopg [3] n (fun g i wr=>∃ j:Nat,j<=n/\g=n-j/\i=.int .i64 j/\Hid (∀ x ∈ s.take j,¬ badS (x.toNat:Int))/\Hid (wr=w))
  case atStart=>exact⟨0,by omega,rfl,rfl,hid (by simp),hid rfl⟩
  case round =>
   obtain⟨j,hj,hk,rfl,HT,HW⟩:=hrel
   by_cases hlt:j<n
   ·have hlti:(j:Int)<(n:Int):=by omega
    obtain⟨x,hx⟩:∃ x,s[j]? = some x:=⟨_,List.getElem?_eq_getElem (by rw[HN.out];exact hlt)⟩
    obtain⟨c,HC⟩:=nm_ (x.toNat:Int)
    have HX:Hid (s[j]? = some x):=hx
    have hix:∀ w1:World,(Instr.index 9 (.string S) (.int .i64 j)).run Tryz.prog w1=.ok (.int .u8 c) w1:=fun w1=>by rw[HS.out,<-HC.out];exact yk s j w1 x HX.out
    clear hx
    by_cases hc:badS c
    ·have HM:Hid (¬ okT s):=fun ht=>(badS_iff x).2 (ht.2.1 x (List.mem_of_getElem? HX.out)) (by rw[HC.out];exact hc)
     clear HC
     rcases hc with rfl | rfl | rfl | rfl
     all_goals
      go_wp2
      go_ret
      exact⟨zX HM.out,HW.out⟩
    ·have HBD:Hid (¬ badS c):=hc
     have b1:(c == 60)=false:=by simp;exact fun e=>hc (.inl e)
     have b2:(c == 62)=false:=by simp;exact fun e=>hc (.inr (.inl e))
     have b3:(c == 10)=false:=by simp;exact fun e=>hc (.inr (.inr (.inl e)))
     have b4:(c == 0)=false:=by simp;exact fun e=>hc (.inr (.inr (.inr e)))
     clear hc
     go_wp2
     go_roundg (n-(j+1))
     case measure=>omega
     case rel =>
      refine⟨j+1,by omega,rfl,by go_num,hid ?_,HW⟩
      rw[xz s j x HX.out]
      intro y hy
      rcases List.mem_append.1 hy with hy | hy
      ·exact HT.out y hy
      ·have:y=x:=by simpa using hy
       subst this
       rw[HC.out]
       exact HBD.out
   ·have hlti:¬ (j:Int)<(n:Int):=by omega
    have hjn:j=n:=by omega
    have HT2:Hid (∀ x ∈ s,x ≠ 60/\x ≠ 62/\x ≠ 10/\x ≠ 0):=hid (by
     have h1:=HT.out
     rw[List.take_of_length_le (by rw[HN.out];omega)] at h1
     exact fun x hx=>(badS_iff x).1 (h1 x hx))
    have H60:Hid (s.length<=60):=hid (by rw[HN.out];exact h)
    have HOK:Hid (okT s ↔ ∀ b,(s[0]? = some b ∨ s[s.length-1]? = some b)->b ≠ 32):=hid (by
     unfold okT
     rw[trim_self]
     exact⟨fun h=>h.2.2,fun h=>⟨H60.out,HT2.out,h⟩⟩)
    clear hjn
    by_cases h0:n=0
    ·have HY:Hid (okT s):=hid (by
      rw[HOK.out]
      have:s=[]:=List.length_eq_zero_iff.1 (HN.out.trans h0)
      subst this
      simp)
     have hb0:((n:Int) == 0)=true:=by simp;omega
     go_wp2
     go_ret
     exact⟨jZ HY.out,HW.out⟩
    ·have hb0:((n:Int) == 0)=false:=by simp;omega
     obtain⟨x0,hx0⟩:∃ x,s[0]? = some x:=⟨_,List.getElem?_eq_getElem (by rw[HN.out];omega)⟩
     obtain⟨x1,hx1⟩:∃ x,s[s.length-1]? = some x:=⟨_,List.getElem?_eq_getElem (by rw[HN.out];omega)⟩
     obtain⟨c0,HC0⟩:=nm_ (x0.toNat:Int)
     obtain⟨c1,HC1⟩:=nm_ (x1.toNat:Int)
     have HX0:Hid (s[0]? = some x0):=hx0
     have HX1:Hid (s[s.length-1]? = some x1):=hx1
     have hi0:∀ w1:World,(Instr.index 9 (.string S) (.int .i64 0)).run Tryz.prog w1=.ok (.int .u8 c0) w1:=fun w1=>by rw[HS.out,<-HC0.out];exact yk s 0 w1 x0 HX0.out
     have hi1:∀ w1:World,(Instr.index 9 (.string S) (.int .i64 ((n:Int)-1))).run Tryz.prog w1=.ok (.int .u8 c1) w1:=fun w1=>by
      rw[HS.out,<-HC1.out,show ((n:Int)-1)=((s.length-1:Nat):Int) from by rw[HN.out];omega]
      exact yk s _ w1 x1 HX1.out
     have hn1:1<=n:=by omega
     clear hx0 hx1
     have HQ:Hid (okT s ↔ c0 ≠ 32/\c1 ≠ 32):=hid (by
      rw[HOK.out,<-HC0.out,<-HC1.out]
      have e0:((x0.toNat:Int)=32) ↔ x0=32:=Qv (n:=32) (by decide)
      have e1:((x1.toNat:Int)=32) ↔ x1=32:=Qv (n:=32) (by decide)
      rw[Ne,Ne,e0,e1]
      constructor
      ·intro h
       exact⟨h x0 (.inl HX0.out),h x1 (.inr HX1.out)⟩
      ·rintro⟨h1,h2⟩ b (h | h)
       ·rw[HX0.out] at h;cases h;exact h1
       ·rw[HX1.out] at h;cases h;exact h2)
     by_cases q0:c0=32
     ·have HNO:Hid (¬ okT s):=fun h=>(HQ.out.1 h).1 q0
      clear HQ HC0
      subst q0
      go_wp2
      go_ret
      exact⟨zX HNO.out,HW.out⟩
     ·have q0b:(c0 != 32)=true:=by simpa using q0
      by_cases q1:c1=32
      ·have HNO:Hid (¬ okT s):=fun h=>(HQ.out.1 h).2 q1
       clear HQ HC1
       subst q1
       go_wp2
       go_ret
       exact⟨zX HNO.out,HW.out⟩
      ·have q1b:(c1 != 32)=true:=by simpa using q1
       have HY:Hid (okT s):=HQ.out.2 ⟨q0,q1⟩
       clear HQ
       go_wp2
       go_ret
       exact⟨jZ HY.out,HW.out⟩
 ·have hi:(60:Int)<(n:Int):=by omega
  have HNO:Hid (¬ okT s):=fun ht=>h (by rw[<-HN.out];exact ht.1)
  go_enter Tryz.func136,Tryz.ntmps136
  go_wp2
  go_ret
  exact⟨zX HNO.out,rfl⟩
theorem Yu (x y:List UInt8):(⟨x.toArray⟩:ByteArray) ++ ⟨y.toArray⟩=⟨(x++y).toArray⟩:=by
 rw[ByteArray.mk_append_mk]
def Dl (n m:Nat) (s:List UInt8):Prop:=if m=0 then s=Lib.decDigits n else Lib.decDigits n=Lib.decDigits m++s
theorem Dl.next {n m:Nat} {s:List UInt8} (h:Dl n m s) (hm:0<m):Dl n (m / 10) (UInt8.ofNat (48+m % 10) :: s):=by
 unfold Dl at h ⊢
 rw[if_neg (by omega)] at h
 by_cases h10:m<10
 ·rw[if_pos (by omega),h,Lib.decDigits,dif_pos h10,Nat.mod_eq_of_lt h10]
  rfl
 ·rw[if_neg (by omega),h]
  conv=>lhs;rw[Lib.decDigits,dif_neg h10]
  simp
theorem decimal_any (n:Nat) (hn:n<=400000) (w:World):Calls Tryz.prog 20 #[.int .i64 n] w fun e w'=>e=.returned (.string ⟨(Lib.decDigits n).toArray⟩)/\Below w.heap.size w w':=by
 by_cases h0:n=0
 ·subst h0
  go_enter Tryz.func20,Tryz.ntmps20
  go_wp2
  go_ret
  exact⟨by rw[Lib.decDigits];rfl,Below.refl _ _⟩
 ·have h0i:¬ ((n:Int) == 0)=true:=by simp;omega
  go_enter Tryz.func20,Tryz.ntmps20
  go_wp2_with fail
  go_loopg [0,3] n (fun g v u wr=>∃ (m:Nat) (s:List UInt8) (S:ByteArray),v=.int .i64 m/\u=.string S/\g=m/\m<=400000/\S.size<=6/\Hid (m*10 ^ S.size<=n)/\Hid (S=⟨s.toArray⟩)/\Hid (Dl n m s)/\Hid (Below w.heap.size w wr))
  case atStart=>exact⟨n,[],⟨#[]⟩,rfl,rfl,rfl,hn,by decide,hid (by show n*10 ^ 0<=n;omega),rfl,hid (by unfold Dl;rw[if_neg h0];simp),hid (Below.refl _ _)⟩
  case round =>
   obtain⟨m,s,S,rfl,rfl,hk,hm4,hS,HM,HS,HD,HB⟩:=hrel
   by_cases hm:0<m
   ·have hmi:(0:Int)<m:=by omega
    obtain⟨x,HX⟩:=nn_ (UInt8.ofNat (48+m % 10))
    have hx:(48:Int)+(m:Int) % 10=(x.toNat:Int):=by
     rw[HX.out,UInt8.toNat_ofNat']
     omega
    have hcv:∀ W:World,W.cell? ⟨wr.heap.size,0,none⟩=some (.int .u8 (x.toNat:Int))->Sem.run Tryz.prog (convert 26 9 (.slice (some ⟨wr.heap.size,0,none⟩) 1 1)) W=.ok (.string ⟨#[x]⟩) W:=fun W hW=>by
     refine run_convert_bytes_back W 26 9 5 ⟨wr.heap.size,0,none⟩ 1 [x] Tryz.underlying26 Tryz.underlying5 Tryz.underlying9 ?_
     intro j hj
     have:j=0:=by simpa using hj
     subst this
     simpa [Addr.add] using hW
    have hcv1:=hcv (wr.alloc (.cells #[.int .u8 (x.toNat:Int)] 5)) (by simp)
    have hSs:¬ 9223372036854775807<1+S.size:=by omega
    have h1:(⟨#[x]⟩:ByteArray).size=1:=rfl
    go_wp2
    have hS5:S.size<=5:=by
     rcases Nat.lt_or_ge S.size 6 with h | h
     ·omega
     ·have e:S.size=6:=by omega
      have:=HM.out
      rw[e] at this
      omega
    have hsz:((⟨#[x]⟩:ByteArray)++S).size=S.size+1:=by rw[ByteArray.size_append,h1];omega
    go_roundg (m / 10)
    case measure=>omega
    case rel =>
     refine⟨m / 10,x :: s,⟨#[x]⟩ ++ S,by go_num,rfl,rfl,by omega,by omega,hid ?_,hid ?_,hid ?_,hid (HB.out.alloc HB.out.size _)⟩
     ·rw[hsz,Nat.pow_succ]
      have:=HM.out
      have h2:m / 10*(10 ^ S.size*10)=m / 10*10*10 ^ S.size:=by rw[Nat.mul_assoc (m / 10),Nat.mul_comm 10]
      rw[h2]
      exact Nat.le_trans (Nat.mul_le_mul_right _ (by omega)) this
     ·rw[HS.out,show (⟨#[x]⟩:ByteArray)=⟨[x].toArray⟩ from rfl]
      exact Yu _ _
     ·rw[HX.out]
      exact HD.out.next hm
   ·have hmi:¬ (0:Int)<m:=by omega
    go_wp2
    go_ret
    refine⟨?_,HB.out⟩
    have:=HD.out
    unfold Dl at this
    rw[if_pos (by omega)] at this
    rw[<-this,<-HS.out];rfl
def okS (c:Int):Prop:=(97<=c/\c<=122) ∨ (65<=c/\c<=90) ∨ (48<=c/\c<=57) ∨ c=46 ∨ c=95 ∨ c=45 ∨ c=47
set_option maxRecDepth 100000 in
theorem okS_iff (x:UInt8):okS (x.toNat:Int) ↔ x ∈ signs:=by
 have key:∀ n:Nat,n<256->(okS (n:Int) ↔ UInt8.ofNat n ∈ signs):=by
  unfold okS
  decide
 have:=key x.toNat x.toNat_lt
 rwa [UInt8.ofNat_toNat] at this
set_option maxHeartbeats 1000000 in
theorem isTagR_any (s:List UInt8) (w:World):Calls Tryz.prog 104 #[.string ⟨s.toArray⟩] w fun e w'=>BIs (okN s) e/\w'=w:=by
 obtain⟨S,HS⟩:=nn_ (⟨s.toArray⟩:ByteArray)
 obtain⟨n,HN⟩:=nm_ s.length
 have hsz:S.size=n:=by rw[HS.out,<-HN.out];simp[ByteArray.size]
 rw[<-HS.out]
 by_cases h1:1<=n
 ·have h1i:¬ (n:Int)<1:=by omega
  by_cases h:n<=60
  ·have hi:¬ (60:Int)<(n:Int):=by omega
   go_enter Tryz.func104,Tryz.ntmps104
   go_wp2
   go_loopg [3,4,5] n (fun g i c0 l0 wr=>∃ j:Nat,j<=n/\g=n-j/\i=.int .i64 j/\Hid (∀ x ∈ s.take j,okS (x.toNat:Int))/\Hid (wr=w))
   case atStart=>exact⟨0,by omega,rfl,rfl,hid (by simp),hid rfl⟩
   case round =>
    obtain⟨j,hj,hk,rfl,HT,HW⟩:=hrel
    by_cases hlt:j<n
    ·have hlti:(j:Int)<(n:Int):=by omega
     obtain⟨x,hx⟩:∃ x,s[j]? = some x:=⟨_,List.getElem?_eq_getElem (by rw[HN.out];exact hlt)⟩
     obtain⟨c,HC⟩:=nm_ (x.toNat:Int)
     have HX:Hid (s[j]? = some x):=hx
     have hix:∀ w1:World,(Instr.index 9 (.string S) (.int .i64 j)).run Tryz.prog w1=.ok (.int .u8 c) w1:=fun w1=>by rw[HS.out,<-HC.out];exact yk s j w1 x HX.out
     clear hx
     have HGO:Hid (okS c->∀ y ∈ s.take (j+1),okS (y.toNat:Int)):=fun ho=>by
      rw[xz s j x HX.out]
      intro y hy
      rcases List.mem_append.1 hy with hy | hy
      ·exact HT.out y hy
      ·have:y=x:=by simpa using hy
       subst this
       rw[HC.out]
       exact ho
     have HNO:Hid (¬ okS c->¬ okN s):=fun hno hok=>hno (by rw[<-HC.out,okS_iff];exact hok.2.2 x (List.mem_of_getElem? HX.out))
     clear HC HX HT
     by_cases e1:c=46
     ·subst e1
      go_wp2
      go_roundg (n-(j+1))
      case measure=>omega
      case rel=>exact⟨j+1,by omega,rfl,by go_num,hid (HGO.out (by unfold okS;omega)),HW⟩
     by_cases e2:c=95
     ·subst e2
      go_wp2
      go_roundg (n-(j+1))
      case measure=>omega
      case rel=>exact⟨j+1,by omega,rfl,by go_num,hid (HGO.out (by unfold okS;omega)),HW⟩
     by_cases e3:c=45
     ·subst e3
      go_wp2
      go_roundg (n-(j+1))
      case measure=>omega
      case rel=>exact⟨j+1,by omega,rfl,by go_num,hid (HGO.out (by unfold okS;omega)),HW⟩
     by_cases e4:c=47
     ·subst e4
      go_wp2
      go_roundg (n-(j+1))
      case measure=>omega
      case rel=>exact⟨j+1,by omega,rfl,by go_num,hid (HGO.out (by unfold okS;omega)),HW⟩
     have f1:(c != 46)=true:=by simpa using e1
     have f2:(c != 95)=true:=by simpa using e2
     have f3:(c != 45)=true:=by simpa using e3
     have f4:(c != 47)=true:=by simpa using e4
     by_cases a1:(97:Int)<=c
     ·by_cases a2:c<=122
      ·have HO:Hid (okS c):=hid (by unfold okS;omega)
       go_wp2
       go_roundg (n-(j+1))
       case measure=>omega
       case rel=>exact⟨j+1,by omega,rfl,by go_num,hid (HGO.out HO.out),HW⟩
      ·have HO:Hid (¬ okN s):=HNO.out (by unfold okS;omega)
       have a3:(65:Int)<=c:=by omega
       have a4:¬ c<=90:=by omega
       have a5:(48:Int)<=c:=by omega
       have a6:¬ c<=57:=by omega
       go_wp2
       go_ret
       exact⟨zX HO.out,HW.out⟩
     ·by_cases a3:(65:Int)<=c
      ·by_cases a4:c<=90
       ·have HO:Hid (okS c):=hid (by unfold okS;omega)
        go_wp2
        go_roundg (n-(j+1))
        case measure=>omega
        case rel=>exact⟨j+1,by omega,rfl,by go_num,hid (HGO.out HO.out),HW⟩
       ·have HO:Hid (¬ okN s):=HNO.out (by unfold okS;omega)
        have a5:(48:Int)<=c:=by omega
        have a6:¬ c<=57:=by omega
        go_wp2
        go_ret
        exact⟨zX HO.out,HW.out⟩
      ·by_cases a5:(48:Int)<=c
       ·by_cases a6:c<=57
        ·have HO:Hid (okS c):=hid (by unfold okS;omega)
         go_wp2
         go_roundg (n-(j+1))
         case measure=>omega
         case rel=>exact⟨j+1,by omega,rfl,by go_num,hid (HGO.out HO.out),HW⟩
        ·have HO:Hid (¬ okN s):=HNO.out (by unfold okS;omega)
         go_wp2
         go_ret
         exact⟨zX HO.out,HW.out⟩
       ·have HO:Hid (¬ okN s):=HNO.out (by unfold okS;omega)
        go_wp2
        go_ret
        exact⟨zX HO.out,HW.out⟩
    ·have hlti:¬ (j:Int)<(n:Int):=by omega
     have HY:Hid (okN s):=hid (by
      have h3:=HT.out
      rw[List.take_of_length_le (by rw[HN.out];omega)] at h3
      exact⟨by rw[HN.out];exact h1,by rw[HN.out];exact h,fun x hx=>(okS_iff x).1 (h3 x hx)⟩)
     go_wp2
     go_ret
     exact⟨jZ HY.out,HW.out⟩
  ·have hi:(60:Int)<(n:Int):=by omega
   have HNO:Hid (¬ okN s):=fun ht=>h (by rw[<-HN.out];exact ht.2.1)
   go_enter Tryz.func104,Tryz.ntmps104
   go_wp2
   go_ret
   exact⟨zX HNO.out,rfl⟩
 ·have h1i:(n:Int)<1:=by omega
  have HNO:Hid (¬ okN s):=fun ht=>h1 (by rw[<-HN.out];exact ht.1)
  go_enter Tryz.func104,Tryz.ntmps104
  go_wp2
  go_ret
  exact⟨zX HNO.out,rfl⟩
theorem decimal_big (n:Nat) (hn:n<=1099511627776) (w:World):Calls Tryz.prog 20 #[.int .i64 n] w fun e w'=>e=.returned (.string ⟨(Lib.decDigits n).toArray⟩)/\Below w.heap.size w w':=by
 by_cases h0:n=0
 ·subst h0
  go_enter Tryz.func20,Tryz.ntmps20
  go_wp2
  go_ret
  exact⟨by rw[Lib.decDigits];rfl,Below.refl _ _⟩
 ·have h0i:¬ ((n:Int) == 0)=true:=by simp;omega
  go_enter Tryz.func20,Tryz.ntmps20
  go_wp2_with fail
  go_loopg [0,3] n (fun g v u wr=>∃ (m:Nat) (s:List UInt8) (S:ByteArray),v=.int .i64 m/\u=.string S/\g=m/\m<=1099511627776/\S.size<=13/\Hid (m*10 ^ S.size<=n)/\Hid (S=⟨s.toArray⟩)/\Hid (Dl n m s)/\Hid (Below w.heap.size w wr))
  case atStart=>exact⟨n,[],⟨#[]⟩,rfl,rfl,rfl,hn,by decide,hid (by show n*10 ^ 0<=n;omega),rfl,hid (by unfold Dl;rw[if_neg h0];simp),hid (Below.refl _ _)⟩
  case round =>
   obtain⟨m,s,S,rfl,rfl,hk,hm4,hS,HM,HS,HD,HB⟩:=hrel
   by_cases hm:0<m
   ·have hmi:(0:Int)<m:=by omega
    obtain⟨x,HX⟩:=nn_ (UInt8.ofNat (48+m % 10))
    have hx:(48:Int)+(m:Int) % 10=(x.toNat:Int):=by
     rw[HX.out,UInt8.toNat_ofNat']
     omega
    have hcv:∀ W:World,W.cell? ⟨wr.heap.size,0,none⟩=some (.int .u8 (x.toNat:Int))->Sem.run Tryz.prog (convert 26 9 (.slice (some ⟨wr.heap.size,0,none⟩) 1 1)) W=.ok (.string ⟨#[x]⟩) W:=fun W hW=>by
     refine run_convert_bytes_back W 26 9 5 ⟨wr.heap.size,0,none⟩ 1 [x] Tryz.underlying26 Tryz.underlying5 Tryz.underlying9 ?_
     intro j hj
     have:j=0:=by simpa using hj
     subst this
     simpa [Addr.add] using hW
    have hcv1:=hcv (wr.alloc (.cells #[.int .u8 (x.toNat:Int)] 5)) (by simp)
    have hSs:¬ 9223372036854775807<1+S.size:=by omega
    have h1:(⟨#[x]⟩:ByteArray).size=1:=rfl
    go_wp2
    have hS5:S.size<=12:=by
     rcases Nat.lt_or_ge S.size 13 with h | h
     ·omega
     ·have e:S.size=13:=by omega
      have:=HM.out
      rw[e] at this
      omega
    have hsz:((⟨#[x]⟩:ByteArray)++S).size=S.size+1:=by rw[ByteArray.size_append,h1];omega
    go_roundg (m / 10)
    case measure=>omega
    case rel =>
     refine⟨m / 10,x :: s,⟨#[x]⟩ ++ S,by go_num,rfl,rfl,by omega,by omega,hid ?_,hid ?_,hid ?_,hid (HB.out.alloc HB.out.size _)⟩
     ·rw[hsz,Nat.pow_succ]
      have:=HM.out
      have h2:m / 10*(10 ^ S.size*10)=m / 10*10*10 ^ S.size:=by rw[Nat.mul_assoc (m / 10),Nat.mul_comm 10]
      rw[h2]
      exact Nat.le_trans (Nat.mul_le_mul_right _ (by omega)) this
     ·rw[HS.out,show (⟨#[x]⟩:ByteArray)=⟨[x].toArray⟩ from rfl]
      exact Yu _ _
     ·rw[HX.out]
      exact HD.out.next hm
   ·have hmi:¬ (0:Int)<m:=by omega
    go_wp2
    go_ret
    refine⟨?_,HB.out⟩
    have:=HD.out
    unfold Dl at this
    rw[if_pos (by omega)] at this
    rw[<-this,<-HS.out];rfl
end Go.Proofs.YticgindfipobiaaGreatDoor
