import Derived.RangeFuncNested
import Derived.RangeFuncBound
import Derived.RangeFuncCalls
import Derived.RangeFuncLeaves
import Derived.Shelf.Abstract
import Derived.Shelf.RegionOpen
import Derived.OwnWalkIn
import Derived.TacticsInMore
import Derived.LoopNIn
import Derived.LoopIn
import Derived.Sort.LoopGhostIn
import Derived.Test.YtiaaekdpfpaigaaGreatDoorMn14
set_option linter.unusedSimpArgs false
set_option linter.unusedVariables false
set_option maxRecDepth 20000
set_option maxHeartbeats 4000000
open Array renaming replicate_succ->WxY,replicate_zero->Wv0
open Int renaming toNat_natCast->Wz0
open List renaming append_toArray->Wv1,cons_append->Wz3,drop_drop->Wv2,length_cons->Wz7,length_drop->Wz8,length_nil->Wv3,length_take->Wzz,nil_append->Wzx,push_toArray->Wv4,size_toArray->WqW,take_of_length_le->Wzu
open Nat renaming add_comm->Wv5,add_zero->WzX,le_refl->WzV,lt_of_lt_of_le->Wqj,mul_le_mul->Wyw,pow_le_pow_right->Wqk,reduceAdd->Wq3,reduceSub->Wv6
open Option renaming some->Wq9
namespace Go.Proofs.YtiaaekdpfpaigaaGreatDoor.Dl
open Go.Proofs.Tryz
open Go.RowKit Plain
theorem qx6:∀ op,op<256->∀ j,j<7->bits .and .u8 (((op:Nat):Int) / 2 ^ j) 1=((op / 2 ^ j % 2:Nat):Int):=by decide +kernel
theorem u64_or_nat (a b:Nat) (ha:a<18446744073709551616) (hb:b<18446744073709551616):bits .or .u64 (a:Int) (b:Int)=((a ||| b:Nat):Int):=by
 have hx:a ||| b<2 ^ 64:=Nat.or_lt_two_pow (by omega) (by omega)
 show IntKind.u64.wrap ((BitVec.ofInt 64 (a:Int) ||| BitVec.ofInt 64 (b:Int)).toNat:Int)=_;rw[BitVec.toNat_or,ofInt_u64 a (by omega),ofInt_u64 b (by omega),IntKind.wrap_u64];omega
theorem u64_and_nat (a b:Nat) (ha:a<18446744073709551616) (hb:b<18446744073709551616):bits .and .u64 (a:Int) (b:Int)=((a &&& b:Nat):Int):=by
 have hx:a &&& b<2 ^ 64:=Nat.and_lt_two_pow _ (by omega);show IntKind.u64.wrap ((BitVec.ofInt 64 (a:Int) &&& BitVec.ofInt 64 (b:Int)).toNat:Int)=_;rw[BitVec.toNat_and,ofInt_u64 a (by omega),ofInt_u64 b (by omega),IntKind.wrap_u64];omega
theorem low32 (n:Nat) (h:n<18446744073709551616):bits .and .u64 (n:Int) 4294967295=((n % 4294967296:Nat):Int):=by
 rw[show (4294967295:Int)=((4294967295:Nat):Int) from rfl,u64_and_nat _ _ h (by omega),show (4294967295:Nat)=2 ^ 32-1 from rfl,Nat.and_two_pow_sub_one_eq_mod]
theorem pow56 {j:Nat} (h:j<=7):2 ^ (8*j)<=72057594037927936:=Wqk (n:=2) (j:=56) (by omega) (by omega)
def qqJ (a0:Option Addr) (nb b:Nat) (bs:List Int) (w:World) (r:Option (List Int × List Int)) (ev:Ending) (w':World):Prop :=
 w'=w/\match r with
 | none=>ev=.returned (.tuple #[.slice none 0 0,.int .i64 0])
 | some (c,rest)=>∃ a cap u:Nat,∃ ad:Option Addr,ev=.returned (.tuple #[.slice ad c.length cap,.int .i64 u])/\rest=bs.drop u/\1<=u/\u<=bs.length/\Sl w ad cap c/\∀ p:Addr,ad=some p->p.block=b ∨ ∃ p0,a0=some p0/\p.block=p0.block/\0<nb
theorem Hu {w:World} {b off:Nat} {l:List Int} (h:At w b off l) (j n:Nat) (hj:j+n<=l.length):At w b (off+j) ((l.drop j).take n):=fun i hi=>by
 have hl:i<n:=by simp at hi;omega
 have:=h (j+i) (by omega);rw[Nat.add_assoc,this];simp[List.getD_eq_getElem?_getD,List.getElem?_take,hl]
theorem Sx (a0:Option Addr) (cap0 b off cap:Nat) (base bs:List Int) (w:World) (hz:IsB bs) (hl:bs.length<=400000) (hl0:base.length<=400000) (h0:Sl w a0 cap0 base) (h1:0<bs.length) (hat:At w b off bs) (op:Nat) (hop:bs.getD 0 0=(op:Int)) (hop8:128<=op) :
    Calls prog 141 #[.slice a0 base.length cap0,.slice (some ⟨b,off,none⟩) bs.length cap] w (qqJ a0 base.length b bs w (stp base bs)):=by
  have hopb:op<256:=by have:=hz.get 0;rw[List.getD_eq_getElem?_getD] at hop;omega
  obtain⟨R,HR⟩:=nm_ (plc bs op 7 0 1 0)
  have HTWO:Hid _:=zk0 bs op h1 hz
  have c0:=hat 0 h1
  rw[WzX,hop] at c0
  have HSTP:Hid (stp base bs=match prt 4 op 0 0 0 (bs.drop 1) with
      | none=>none
      | some (at_,r1)=>match prt 3 op 4 0 0 r1 with
        | none=>none
        | some (c,r2)=>if at_+cnt c<=base.length then some ((base.drop at_).take (cnt c),r2) else none):=by
    show _=_
    obtain⟨x,t,rfl⟩:∃ x t,bs=x :: t:=by cases bs with | nil=>simp at h1 | cons x t=>exact⟨x,t,rfl⟩
    have hx:x=(op:Int):=by simpa using hop
    rw[stp,hx,if_neg (by omega),if_neg (by omega),Wz0]
    rfl
  have HZ:Hid _:=hz
  have HAT:Hid _:=hat
  have H0:Hid _:=h0
  obtain⟨L,HL⟩:=nn_ bs.length
  rw[<-HL.out] at hl h1 ⊢
  obtain⟨L0,HL0⟩:=nn_ base.length
  rw[<-HL0.out] at hl0 ⊢
  have h1Z:(0:Int)<L:=by omega
  clear hz hat h0 hop
  go_enter func141,ntmps141
  go_wp2_with fail
  go_loopg [5,6,10] 7 (fun k us pl i wr=>∃ j u n:Nat,j<=7/\us=.int .i64 u/\pl=.int .u64 n/\i=.int .i64 j/\k=7-j/\wr=w/\1<=u/\u<=L/\n<2 ^ (8*j)/\Hid (plc bs op (7-j) j u n=R))
  case atStart=>exact⟨0,1,0,by omega,rfl,rfl,rfl,rfl,rfl,by omega,by omega,by simp,HR.out⟩
  case round =>
    obtain⟨j,u,n,hj,rfl,rfl,rfl,hk,rfl,hu1,huL,hn,HP⟩:=hrel
    by_cases hj7:j<7
    · have hjZ:(j:Int)<7:=by omega
      rw[show 7-j=(6-j)+1 by omega,plc] at HP
      obtain⟨z,HZZ⟩:=nn_ (op / 2 ^ j % 2)
      have hzb:bits .and .u8 ((op:Int) / 2 ^ j) 1=(z:Int):=by rw[HZZ.out];exact qx6 op hopb j hj7
      rw[<-HZZ.out] at HP
      by_cases hz0:z=0
      · subst hz0
        rw[if_pos rfl] at HP
        go_wp2_with fail
        go_roundg (7-(j+1))
        case measure=>omega
        case rel =>
          exact⟨j+1,u,n,by omega,rfl,rfl,by go_num,rfl,rfl,hu1,huL,Wqj hn (Wqk (by omega) (by omega)),by rw[show 7-(j+1)=6-j by omega];exact HP.out⟩
      · have hz0Z:¬ (z:Int)=0:=by omega
        rw[if_neg hz0] at HP
        by_cases hue:u=L
        · have hueZ:(u:Int)=(L:Int):=by omega
          rw[if_pos (by rw[<-HL.out];exact hue)] at HP
          have HN:Hid (stp base bs=none):=by
            show _=_
            rw[HSTP.out]
            have hR:R=none:=HP.out.symm
            have hh:=HR.out
            rw[hR] at hh
            cases e1:prt 4 op 0 0 0 (bs.drop 1) with
            | none=>rfl
            | some nr =>
              obtain⟨n1,r1⟩:=nr
              obtain⟨g1,g2⟩:=HTWO.out.2 n1 r1 e1
              simp only
              cases e2:prt 3 op 4 0 0 r1 with
              | none=>rfl
              | some cr =>
                obtain⟨c1,r2⟩:=cr
                obtain⟨u',s1,_⟩:=g2 c1 r2 e2
                rw[hh] at s1;cases s1
          subst hue
          go_wp2_with fail
          go_ret2
          exact⟨rfl,by rw[HN.out];rfl⟩
        · have hueZ:¬ (u:Int)=(L:Int):=by omega
          have hul:u<bs.length:=by have:=HL.out;omega
          rw[if_neg (by rw[<-HL.out];exact hue)] at HP
          have hxb:=HZ.out _ (List.getElem_mem hul)
          obtain⟨x,HX⟩:∃ x:Nat,Hid (bs.getD u 0=(x:Int)):=⟨(bs.getD u 0).toNat,by show _=_;rw[List.getD_eq_getElem?_getD,List.getElem?_eq_getElem hul];simp;omega⟩
          have hx:x<256:=by have:=HX.out;rw[List.getD_eq_getElem?_getD,List.getElem?_eq_getElem hul] at this;simp at this;omega
          have cu:=HAT.out u hul
          rw[HX.out] at cu
          rw[HX.out,Wz0] at HP
          have huLZ:(u:Int)<(L:Int):=by omega
          have hp:=pow56 (show j<=7 by omega)
          have hpx:x*2 ^ (8*j)<=255*72057594037927936:=Wyw (by omega) hp
          obtain⟨sh,HSH⟩:=nn_ (8*j)
          have hsh:(8:Int)*(j:Int)=(sh:Int):=by rw[HSH.out];push_cast;rfl
          obtain⟨v,HV⟩:=nn_ (n+x*2 ^ (8*j))
          have hv:v<2 ^ (8*(j+1)):=by
            rw[HV.out,show 8*(j+1)=8*j+8 by omega,Nat.pow_add]
            have:(x+1)*2 ^ (8*j)<=256*2 ^ (8*j):=Wyw (by omega) (WzV _)
            rw[Nat.add_mul,Nat.one_mul] at this
            rw[Nat.mul_comm (2 ^ (8*j))]
            omega
          have hor:bits .or .u64 (n:Int) (IntKind.u64.wrap ((x:Int)*2 ^ sh))=(v:Int):=by
            have e:(x:Int)*2 ^ sh=((x*2 ^ (8*j):Nat):Int):=by rw[HSH.out];push_cast;rfl
            have e2:IntKind.u64.wrap ((x*2 ^ (8*j):Nat):Int)=((x*2 ^ (8*j):Nat):Int):=by rw[IntKind.wrap_u64];omega
            rw[e,e2,u64_or_nat _ _ (by omega) (by omega),Nat.or_comm,nat_join (8*j) _ _ (Nat.mul_mod_left _ _) hn,HV.out,Wv5]
          rw[<-HV.out] at HP
          clear hxb hp hpx
          go_wp2_with fail
          go_roundg (7-(j+1))
          case measure=>omega
          case rel =>
            exact⟨j+1,u+1,v,by omega,by go_num,by first | rfl | go_num,by go_num,rfl,rfl,by omega,by omega,hv,by rw[show 7-(j+1)=6-j by omega];exact HP.out⟩
    · obtain rfl:j=7:=by omega
      have hjZ:¬ (7:Int)<7:=by omega
      have key:∃ n1 r1 c1 r2,prt 4 op 0 0 0 (bs.drop 1)=some (n1,r1)/\prt 3 op 4 0 0 r1=some (c1,r2)/\n=n1+c1*4294967296/\r2=bs.drop u/\n1<4294967296/\c1<16777216:=by
        have hR:R=some (n,u):=HP.out.symm
        have hh:=HR.out
        rw[hR] at hh
        cases e1:prt 4 op 0 0 0 (bs.drop 1) with
        | none=>have:=HTWO.out.1 e1;rw[hh] at this;cases this
        | some nr =>
          obtain⟨n1,r1⟩:=nr
          obtain⟨g1,g2⟩:=HTWO.out.2 n1 r1 e1
          cases e2:prt 3 op 4 0 0 r1 with
          | none=>have:=g1 e2;rw[hh] at this;cases this
          | some cr =>
            obtain⟨c1,r2⟩:=cr
            obtain⟨u',s1,s2,s3,s4,s5,s6⟩:=g2 c1 r2 e2
            rw[hh] at s1
            simp only[Wq9.injEq,Prod.mk.injEq] at s1
            exact⟨n1,r1,c1,r2,rfl,e2,s1.1,by rw[s2,<-s1.2],s5,s6⟩
      obtain⟨n1,r1,c1,r2,e1,e2,hnn,hr2,hn1,hc1⟩:=key
      have HSTQ:Hid (stp base bs=if n1+cnt c1<=base.length then some ((base.drop n1).take (cnt c1),bs.drop u) else none):=by
        show _=_
        rw[HSTP.out,e1]
        simp only
        rw[e2]
        simp only
        rw[hr2]
      have hfrom:bits .and .u64 (n:Int) 4294967295=(n1:Int):=by rw[low32 n (by omega)];omega
      have hlen:(n:Int) / 4294967296=(c1:Int):=by omega
      clear e1 e2 hnn hn HP HSTP HTWO HR
      by_cases hc0:c1=0
      · subst hc0
        have hcn:cnt 0=65536:=rfl
        by_cases hin:n1+65536<=L0
        · have hinZ:¬ (L0:Int)<(n1:Int)+65536:=by omega
          have HST:Hid (stp base bs=some ((base.drop n1).take 65536,bs.drop u)):=by show _=_;rw[HSTQ.out,hcn,if_pos (by rw[<-HL0.out];exact hin)]
          obtain⟨b0,off0,rfl,hb0,hat0⟩:=H0.out.at_ (by rw[<-HL0.out];omega)
          have hcap0:L0<=cap0:=by rw[HL0.out];exact H0.out.capl
          obtain⟨ad,HAD⟩:=nm_ (if cap0=n1 then some (⟨b0,off0,none⟩:Addr) else some ⟨b0,off0+n1,none⟩)
          have had:=HAD.out
          have hcl:((base.drop n1).take 65536).length=65536:=by rw[Wzz,Wz8,<-HL0.out];omega
          have HSL:Hid (Sl wr ad (cap0-n1) ((base.drop n1).take 65536)):=⟨by rw[hcl];omega,fun _=>⟨b0,off0+n1,by rw[<-HAD.out,if_neg (by omega)],hb0,Hu hat0 n1 65536 (by rw[<-HL0.out];exact hin)⟩,fun h=>by rw[<-HAD.out,if_neg (by omega)] at h;cases h⟩
          go_wp2_with fail
          go_ret2
          refine⟨rfl,?_⟩
          rw[HST.out]
          exact⟨0,cap0-n1,u,ad,by rw[hcl];first | rfl | (push_cast;rfl),rfl,hu1,by rw[<-HL.out];exact huL,HSL.out,fun p hp=>.inr ⟨_,rfl,by rw[<-HAD.out,if_neg (by omega)] at hp;cases hp;rfl,by omega⟩⟩
        · have hinZ:(L0:Int)<(n1:Int)+65536:=by omega
          have HST:Hid (stp base bs=none):=by show _=_;rw[HSTQ.out,hcn,if_neg (by rw[<-HL0.out];exact hin)]
          go_wp2_with fail
          go_ret2
          exact⟨rfl,by rw[HST.out];rfl⟩
      · have hc0Z:¬ (c1:Int)=0:=by omega
        have hcn:cnt c1=c1:=by unfold cnt;rw[if_neg hc0]
        by_cases hin:n1+c1<=L0
        · have hinZ:¬ (L0:Int)<(n1:Int)+c1:=by omega
          have HST:Hid (stp base bs=some ((base.drop n1).take c1,bs.drop u)):=by show _=_;rw[HSTQ.out,hcn,if_pos (by rw[<-HL0.out];exact hin)]
          obtain⟨b0,off0,rfl,hb0,hat0⟩:=H0.out.at_ (by rw[<-HL0.out];omega)
          have hcap0:L0<=cap0:=by rw[HL0.out];exact H0.out.capl
          obtain⟨ad,HAD⟩:=nm_ (if cap0=n1 then some (⟨b0,off0,none⟩:Addr) else some ⟨b0,off0+n1,none⟩)
          have had:=HAD.out
          have hcl:((base.drop n1).take c1).length=c1:=by rw[Wzz,Wz8,<-HL0.out];omega
          have HSL:Hid (Sl wr ad (cap0-n1) ((base.drop n1).take c1)):=⟨by rw[hcl];omega,fun _=>⟨b0,off0+n1,by rw[<-HAD.out,if_neg (by omega)],hb0,Hu hat0 n1 c1 (by rw[<-HL0.out];exact hin)⟩,fun h=>by rw[<-HAD.out,if_neg (by omega)] at h;cases h⟩
          go_wp2_with fail
          go_ret2
          refine⟨rfl,?_⟩
          rw[HST.out]
          exact⟨0,cap0-n1,u,ad,by rw[hcl];first | rfl | (push_cast;rfl),rfl,hu1,by rw[<-HL.out];exact huL,HSL.out,fun p hp=>.inr ⟨_,rfl,by rw[<-HAD.out,if_neg (by omega)] at hp;cases hp;rfl,by omega⟩⟩
        · have hinZ:(L0:Int)<(n1:Int)+c1:=by omega
          have HST:Hid (stp base bs=none):=by show _=_;rw[HSTQ.out,hcn,if_neg (by rw[<-HL0.out];exact hin)]
          go_wp2_with fail
          go_ret2
          exact⟨rfl,by rw[HST.out];rfl⟩
theorem Sj (a0:Option Addr) (cap0 b off cap:Nat) (base bs:List Int) (w:World) (hz:IsB bs) (hl:bs.length<=400000) (hl0:base.length<=400000) (h0:Sl w a0 cap0 base) (h1:0<bs.length) (hat:At w b off bs) (hb:b<w.heap.size) (hcap:bs.length<=cap) :
  Calls prog 129 #[.slice a0 base.length cap0,.slice (some ⟨b,off,none⟩) bs.length cap] w (qqJ a0 base.length b bs w (stp base bs)):=by
 have hxb:=hz.get 0;obtain⟨op,HOP⟩:∃ op:Nat,Hid (bs.getD 0 0=(op:Int)):=⟨(bs.getD 0 0).toNat,by show _=_;rw[List.getD_eq_getElem?_getD];omega⟩;have hopb:op<256:=by have:=HOP.out;rw[List.getD_eq_getElem?_getD] at this;omega
 have c0:=hat 0 h1;rw[WzX,HOP.out] at c0;obtain⟨t,HBS⟩:∃ t,Hid (bs=(op:Int) :: t):=by
  cases bs with
  | nil=>simp at h1
  | cons x t=>exact⟨t,by show _=_;have:=HOP.out;simp at this;rw[this]⟩
 by_cases h8:128<=op
 ·have h8Z:(128:Int)<=(op:Int):=by omega
  have RC:=Sx a0 cap0 b off cap base bs w hz hl hl0 h0 h1 hat op HOP.out h8;obtain⟨R,HR⟩:=nm_ (stp base bs);rw[HR.out] at RC ⊢;have h1Z:(0:Int)<bs.length:=by omega
  cases R with
  | none =>
   go_enter func129,ntmps129;go_wp2_with (go_at_call 141;refine RC.mono ?_;clear RC;rintro ev w1 ⟨rfl,rfl⟩)
   go_ret2;exact⟨rfl,rfl⟩
  | some cr =>
   obtain⟨c,r⟩:=cr;go_enter func129,ntmps129;go_wp2_with (go_at_call 141;refine RC.mono ?_;clear RC;rintro ev w1 ⟨rfl,a1,cap1,u,ad,rfl,hr,hu1,hu2,hS,hp⟩;have HS:Hid _:=hS;have HPP:Hid _:=hp;clear hS hp)
   go_ret2;exact⟨rfl,a1,cap1,u,ad,rfl,hr,hu1,hu2,HS.out,HPP.out⟩
 have h8Z:¬ (128:Int)<=(op:Int):=by omega
 obtain⟨L,HL⟩:=nn_ bs.length;have HSTP:Hid (stp base bs=if op=0 then none else if op<=L-1 then some ((bs.drop 1).take op,bs.drop (1+op)) else none):=by
  show _=_;have hlt:L=t.length+1:=by rw[HL.out,HBS.out];rfl
  rw[HBS.out,stp];by_cases e0:op=0
  ·subst e0;rw[if_pos (show ((0:Nat):Int)=0 from rfl),if_pos rfl]
  rw[if_neg (by omega),if_neg e0,if_pos (by omega),Wz0,hlt,Nat.add_sub_cancel];have e1:((op:Int) :: t).drop 1=t:=rfl;have e2:((op:Int) :: t).drop (1+op)=t.drop op:=by rw[Wv5];rfl
  rw[e1,e2]
 have HAT:Hid _:=hat
 rw[<-HL.out] at hl h1 hcap ⊢;have h1Z:(0:Int)<L:=by omega
 clear hz hat h0;by_cases e0:op=0
 ·subst e0;rw[if_pos rfl] at HSTP;have c0':w.cell? ⟨b,off,none⟩=some (.int .u8 0):=by simpa using c0
  clear c0;go_enter func129,ntmps129;go_wp2_with fail
  go_ret2;exact⟨rfl,by rw[HSTP.out];rfl⟩
 have e0Z:¬ (op:Int)=0:=by omega
 rw[if_neg e0] at HSTP;obtain⟨us,HUS⟩:=nn_ (1+op);have hus:(1:Int)+(op:Int)=(us:Int):=by rw[HUS.out];push_cast;rfl
 by_cases hle:op<=L-1
 ·have hleZ:¬ (L:Int)<(us:Int):=by have:=HUS.out;omega
  rw[if_pos hle] at HSTP;have husL:us<=L:=by have:=HUS.out;omega
  obtain⟨ad,HAD⟩:=nm_ (if cap=1 then some (⟨b,off,none⟩:Addr) else some ⟨b,off+1,none⟩);have had:=HAD.out;have hcl:((bs.drop 1).take op).length=us-1:=by rw[Wzz,Wz8,<-HL.out,HUS.out];omega
  have HSL:Hid (Sl w ad (cap-1) ((bs.drop 1).take op)):=⟨by rw[hcl];omega,fun _=>⟨b,off+1,by rw[<-HAD.out,if_neg (by have:=HUS.out;omega)],hb,Hu HAT.out 1 op (by rw[<-HL.out];omega)⟩,fun h=>by rw[<-HAD.out] at h;split at h <;> cases h⟩;go_enter func129,ntmps129;go_wp2_with fail
  go_ret2;refine⟨rfl,?_⟩;rw[HSTP.out];exact⟨0,cap-1,us,ad,by rw[hcl];first | rfl | (push_cast;rfl),by rw[HUS.out],by have:=HUS.out;omega,by rw[<-HL.out];exact husL,HSL.out,fun p hp=>.inl (by rw[<-HAD.out] at hp;split at hp <;> (cases hp;rfl))⟩
 have hleZ:(L:Int)<(us:Int):=by have:=HUS.out;omega
 rw[if_neg hle] at HSTP;go_enter func129,ntmps129;go_wp2_with fail
 go_ret2;exact⟨rfl,by rw[HSTP.out];rfl⟩
theorem qz5 {base b c r:List Int} (hb:IsB b) (h:stp base b=some (c,r)):0<c.length:=by
 cases b with
 | nil=>cases h
 | cons x t =>
  rw[stp] at h;split at h
  ·cases h
  rename_i hx0;split at h
  ·split at h
   ·rename_i hle;simp only[Wq9.injEq,Prod.mk.injEq] at h;rw[<-h.1,Wzz];have:=hb x (by simp);omega
   cases h
  split at h
  ·cases h
  split at h
  ·cases h
  split at h
  ·rename_i hin;simp only[Wq9.injEq,Prod.mk.injEq] at h;rw[<-h.1,Wzz,Wz8];unfold cnt at hin ⊢;split at hin <;> rename_i hc <;> simp only[hc,if_true,if_false] <;> omega
  cases h
structure Itm (w:World) where
 ad:Option Addr
 cap:Nat
 c:List Int
 ok:Bool
 sl:Sl w ad cap c
 ne:ok=true->0<c.length
theorem zvj (w:World):Sl w none 0 []:=⟨by simp,fun h=>by simp at h,fun _=>rfl⟩
def Itm.bad (w:World):Itm w:=⟨none,0,[],false,zvj w,fun h=>by cases h⟩
def Itm.enc {w:World} (x:Itm w):Array Value:=#[.slice x.ad x.c.length x.cap,.bool x.ok]
structure Steps (w:World) (base bs:List Int) (pre:List (Itm w)) (r:List Int):Prop where
 all:∀ P:List (Itm w)->List Int->Prop,P [] bs->(∀ (pre:List (Itm w)) (r r':List Int) (x:Itm w),P pre r->r ≠ []->stp base r=some (x.c,r')->x.ok=true->P (pre++[x]) r')->P pre r
theorem Steps.nil {w:World} {base:List Int} (bs:List Int):Steps w base bs [] bs:=⟨fun _ h _=>h⟩
theorem Steps.snoc {w:World} {base bs:List Int} {pre:List (Itm w)} {r r':List Int} (x:Itm w) (h1:Steps w base bs pre r) (h2:r ≠ []) (h3:stp base r=some (x.c,r')) (h4:x.ok=true):Steps w base bs (pre++[x]) r' :=
 ⟨fun P p q=>q pre r r' x (h1.all P p q) h2 h3 h4⟩
theorem Steps.ind {w:World} {base bs:List Int} {motive:(pre:List (Itm w))->(r:List Int)->Steps w base bs pre r->Prop} (nil:motive [] bs (Steps.nil bs))
  (snoc:∀ {pre:List (Itm w)} {r r':List Int} (x:Itm w) (h1:Steps w base bs pre r) (h2:r ≠ []) (h3:stp base r=some (x.c,r')) (h4:x.ok=true),motive pre r h1->motive (pre++[x]) r' (Steps.snoc x h1 h2 h3 h4))
  {pre:List (Itm w)} {r:List Int} (h:Steps w base bs pre r):motive pre r h:=by
 have k:∃ h',motive pre r h':=h.all (fun p q=>∃ h',motive p q h') ⟨_,nil⟩ (fun p q q' x ⟨h1,m⟩ h2 h3 h4=>⟨_,snoc x h1 h2 h3 h4 m⟩);obtain⟨_,m⟩:=k;exact m
theorem Steps.len {w:World} {base bs r:List Int} {pre:List (Itm w)} (h:Steps w base bs pre r):pre.length+r.length<=bs.length:=by
 induction h using Steps.ind with
 | nil=>simp
 | snoc x h1 h2 h3 h4 ih=>have:=Tu h3;simp;omega
def flat {w:World} (pre:List (Itm w)):List Int:=pre.flatMap (·.c)
theorem X8 {w:World} (pre:List (Itm w)) (x:Itm w):flat (pre++[x])=flat pre++x.c:=by simp[flat]
theorem zvk {w:World} {pre:List (Itm w)} {x:Itm w} : (flat pre).length<=(flat (pre++[x])).length:=by rw[X8];simp
theorem Steps.app {w:World} {base bs r:List Int} {pre:List (Itm w)} (h:Steps w base bs pre r) (m:Nat) (hm:(flat pre).length<=m):Z7 base m bs []=Z7 base m r (flat pre):=by
 induction h using Steps.ind with
 | nil=>rfl
 | @snoc pre r r' x h1 h2 h3 h4 ih =>
  have hp:=zvk (pre:=pre) (x:=x);rw[ih (by omega),ZJ,if_neg h2,h3];simp only;rw[X8] at hm ⊢;rw[List.length_append] at hm;rw[if_pos hm]
theorem Steps.end_ {w:World} {base bs:List Int} {pre:List (Itm w)} (h:Steps w base bs pre []) (m:Nat) (hm:(flat pre).length<=m):Z7 base m bs []=if (flat pre).length=m then some (flat pre) else none:=by
 rw[h.app m hm,ZJ,if_pos rfl]
theorem Steps.none_ {w:World} {base bs r:List Int} {pre:List (Itm w)} (h:Steps w base bs pre r) (m:Nat) (hm:(flat pre).length<=m) (hr:r ≠ []) (hs:stp base r=none):Z7 base m bs []=none:=by
 rw[h.app m hm,ZJ,if_neg hr,hs]
theorem Steps.long {w:World} {base bs r r':List Int} {pre:List (Itm w)} (h:Steps w base bs pre r) (m:Nat) (hm:(flat pre).length<=m) (hr:r ≠ []) {c:List Int} (hs:stp base r=some (c,r')) (hl:m<(flat pre).length+c.length):Z7 base m bs []=none:=by
 rw[h.app m hm,ZJ,if_neg hr,hs];simp only;rw[if_neg (by omega)]
theorem Steps.isB {w:World} {base bs r:List Int} {pre:List (Itm w)} (h:Steps w base bs pre r) (hb:IsB bs):∃ k,r=bs.drop k:=by
 induction h using Steps.ind with
 | nil=>exact⟨0,rfl⟩
 | @snoc pre r r' x h1 h2 h3 h4 ih =>
  obtain⟨k,rfl⟩:=ih;have:∃ j,r'=(bs.drop k).drop j:=by
   generalize bs.drop k=r at h3;cases r with
   | nil=>cases h3
   | cons y t =>
    rw[stp] at h3;split at h3
    ·cases h3
    split at h3
    ·split at h3
     ·simp only[Wq9.injEq,Prod.mk.injEq] at h3;exact⟨y.toNat+1,by rw[<-h3.2];rfl⟩
     cases h3
    split at h3
    ·cases h3
    rename_i e1;split at h3
    ·cases h3
    rename_i e2;split at h3
    ·simp only[Wq9.injEq,Prod.mk.injEq] at h3;have dr:∀ (c op k j n:Nat) (b:List Int) (n':Nat) (r:List Int),prt c op k j n b=some (n',r)->∃ q,r=b.drop q:=by
      intro c;induction c with
      | zero=>intro op k j n b n' r h;simp[prt] at h;exact⟨0,by rw[h.2];rfl⟩
      | succ c ih =>
       intro op k j n b n' r h;rw[prt] at h;split at h
       ·exact ih _ _ _ _ _ _ _ h
       split at h
       ·cases h
       obtain⟨q,hq⟩:=ih _ _ _ _ _ _ _ h;exact⟨1+q,by rw[hq,Wv2]⟩
     obtain⟨q1,h1⟩:=dr _ _ _ _ _ _ _ _ e1;obtain⟨q2,h2⟩:=dr _ _ _ _ _ _ _ _ e2;exact⟨q1+q2+1,by rw[<-h3.2,h2,h1,Wv2];rfl⟩
    cases h3
  obtain⟨j,hj⟩:=this;exact⟨k+j,by rw[hj,Wv2]⟩
end Go.Proofs.YtiaaekdpfpaigaaGreatDoor.Dl
namespace Go.Proofs.YtiaaekdpfpaigaaGreatDoor.Dl
open Go.Proofs.Tryz
open Go.RowKit Go.Shelf Plain
attribute [local go_sem] Oper.semAt_some
def slen:Value->Nat
 | .slice _ n _=>n
 | _=>0
theorem Sl.below {w w':World} {a:Option Addr} {cap:Nat} {l:List Int} (h:Sl w a cap l) (hb:Below w.heap.size w w'):Sl w' a cap l :=
 ⟨h.capl,fun h0=>by obtain⟨b,off,e1,e2,e3⟩:=h.at_ h0;exact⟨b,off,e1,Wqj e2 hb.size,fun i hi=>(hb.cell (p:=⟨b,off+i,none⟩) e2).trans (e3 i hi)⟩,h.nil⟩
theorem Sl.back {w w':World} {a:Option Addr} {cap:Nat} {l:List Int} (h:Sl w' a cap l) (hb:Below w.heap.size w w') (hp:∀ p:Addr,a=some p->p.block<w.heap.size):Sl w a cap l :=
 ⟨h.capl,fun h0=>by obtain⟨b,off,e1,e2,e3⟩:=h.at_ h0;have:=hp _ e1;exact⟨b,off,e1,this,fun i hi=>(hb.cell (p:=⟨b,off+i,none⟩) this).symm.trans (e3 i hi)⟩,h.nil⟩
def Kp (w:World) (Bba:Nat) (A B:World):Prop:=Below w.heap.size A B/\B.heap[Bba]? = A.heap[Bba]?
def SAll (w:World) (base bs:List Int) (xs:List (Itm w)):Prop:=Steps w base bs xs [] ∨ ∃ p r,Steps w base bs p r/\r ≠ []/\stp base r=none/\xs=p++[Itm.bad w]
def zvv (w:World) (base bs:List Int) (pre:List (Itm w)):Prop:=(∃ p x r r',Steps w base bs p r/\r ≠ []/\stp base r=some (x.c,r')/\x.ok=true/\pre=p++[x]) ∨ ∃ p r,Steps w base bs p r/\r ≠ []/\stp base r=none/\pre=p++[Itm.bad w]
set_option maxRecDepth 100000 in
theorem qz6 (n:Nat) (hn:1<=n) (w:World) (l Bst Bba:Nat) (a0 as_:Option Addr) (cap0 cs:Nat) (base bs:List Int) (hSb:Sl w a0 cap0 base) (hSs:Sl w as_ cs bs) (hz:IsB bs) (hlb:base.length<=400000) (hls:bs.length<=400000) (J Jx:List (Itm w)->World->Prop)
    (hY:∀ pre (x:Itm w) W,J pre W->pre.length<bs.length+1->YieldAt Fence.wide (n-1) prog l x.enc W fun e W' =>
      (e=.returned (.bool true)/\J (pre++[x]) W'/\Kp w Bba W W') ∨ (e=.returned (.bool false)/\Jx (pre++[x]) W'))
    (W:World) (hW:Below w.heap.size w W) (hst:W.cell? ⟨Bst,0,none⟩=some (.slice as_ bs.length cs)) (hba:W.cell? ⟨Bba,0,none⟩=some (.slice a0 base.length cap0)) (h0:J [] W) :
    CallsIn Fence.wide n prog 128 #[.func (.yield l) #[] #[],.pointer (some ⟨Bst,0,none⟩),.pointer (some ⟨Bba,0,none⟩)] W fun e W'=>(∃ v,e=.returned v)/\
      ((∃ xs,SAll w base bs xs/\J xs W') ∨ (∃ pre,zvv w base bs pre/\Jx pre W')):=by
  refine callsIn_of_wp func128 rfl trivial ?_ rfl
  simp only[ntmps128,WqW,Wz7,Wv3,Wq3,Wv6,WxY,Wv0,Wv4,Wv1,Wzx,Wz3]
  gi_wp2
  gi_loopw [4] (fun v wr=>∃ (pre:List (Itm w)) (r:List Int) (ar:Option Addr) (cr:Nat),v=.slice ar r.length cr/\Sl w ar cr r/\Steps w base bs pre r/\J pre wr/\Below w.heap.size w wr/\wr.cell? ⟨Bba,0,none⟩=some (.slice a0 base.length cap0))
    (fun v _=>slen v)
  case atStart=>exact⟨[],bs,as_,cs,rfl,hSs,Steps.nil bs,h0,hW,hba⟩
  case round =>
    obtain⟨pre,r,ar,cr,rfl,hSr,hSt,hJs,hBw,hcb⟩:=hrel
    have hlen:=hSt.len
    by_cases hr0:r=[]
    · subst hr0
      gi_wp2
      go_end0
      exact⟨⟨_,rfl⟩,.inl ⟨pre,.inl hSt,hJs⟩⟩
    · have hrl:0<r.length:=List.length_pos_iff.2 hr0
      obtain⟨b,off,rfl,hb,hat⟩:=hSr.at_ hrl
      obtain⟨k,hk⟩:=hSt.isB hz
      have hrB:IsB r:=by rw[hk];exact Yv hz k
      have RS:=Sj a0 cap0 b off cr base r wr hrB (by omega) hlb (hSb.below hBw) hrl (fun i hi=>(hBw.cell (p:=⟨b,off+i,none⟩) hb).trans (hat i hi)) (Wqj hb hBw.size) hSr.capl
      have HSR:Hid _:=hSr
      have HST:Hid _:=hSt
      have HBW:Hid _:=hBw
      have HR0:Hid _:=hr0
      obtain⟨L,HL⟩:=nn_ r.length
      rw[<-HL.out] at RS hrl ⊢
      have hLZ:(0:Int)<L:=by omega
      cases e:stp base r with
      | none =>
        rw[e] at RS
        obtain⟨fn,tmps,assign,body,hy,hR⟩:=hY pre (Itm.bad w) wr hJs (by omega)
        dsimp only [Itm.enc,Itm.bad,Wv3] at hy
        clear hSr hSt hBw hat hr0
        gi_wp2_with (refine⟨trivial,?_⟩;gi_at_call 129;refine(callsIn_wide.2 RS).mono ?_;clear RS;rintro e1 w1 ⟨rfl,rfl⟩)
        refine hR.mono ?_
        rintro e1 W3 (⟨rfl,hJ3,hk3⟩ | ⟨rfl,hJx3⟩)
        · gi_wp2
          refine bodyPost_ret (results_none rfl _ _ _) rfl ?_
          exact⟨⟨_,rfl⟩,.inl ⟨_,.inr ⟨pre,r,HST.out,HR0.out,e,rfl⟩,hJ3⟩⟩
        · gi_wp2
          refine bodyPost_ret (results_none rfl _ _ _) rfl ?_
          exact⟨⟨_,rfl⟩,.inr ⟨_,.inr ⟨pre,r,HST.out,HR0.out,e,rfl⟩,hJx3⟩⟩
      | some cr' =>
        obtain⟨c,r'⟩:=cr'
        rw[e] at RS
        clear hSr hSt hBw hr0
        gi_wp2_with (refine⟨trivial,?_⟩;gi_at_call 129;refine(callsIn_wide.2 RS).mono ?_;clear RS;rintro e1 w1 ⟨rfl,aa,cap1,u,ad,rfl,hru,hu1,hu2,hSc,hpp⟩)
        have hpl:∀ p:Addr,ad=some p->p.block<w.heap.size:=fun p hp=>by
          rcases hpp p hp with h | ⟨p0,h1,h2,h3⟩
          · omega
          · obtain⟨b1,off1,g1,g2,_⟩:=hSb.at_ h3
            rw[h1] at g1;cases g1;rw[h2];exact g2
        obtain⟨x,HX⟩:=nn_ (⟨ad,cap1,c,true,hSc.back HBW.out hpl,fun _=>qz5 hrB e⟩:Itm w)
        have hxc:x.c=c:=by rw[HX.out]
        have hxo:x.ok=true:=by rw[HX.out]
        obtain⟨fn,tmps,assign,body,hy,hR⟩:=hY pre x w1 hJs (by omega)
        have hxe:x.enc=#[.slice ad c.length cap1,.bool true]:=by rw[HX.out];rfl
        rw[hxe] at hy
        obtain⟨ad2,HAD⟩:=nm_ (if cr=u then some (⟨b,off,none⟩:Addr) else some ⟨b,off+u,none⟩)
        have had:=HAD.out
        have hcr:L<=cr:=by rw[HL.out];exact HSR.out.capl
        rw[<-HL.out] at hu2
        have hlr:r'.length=L-u:=by rw[hru,Wz8,<-HL.out]
        have HSL:Hid (Sl w ad2 (cr-u) r'):=⟨by rw[hlr];omega,fun h=>by
            rw[hlr] at h
            rw[<-HAD.out,if_neg (by omega),hru]
            exact⟨b,off+u,rfl,hb,X4 hat u (by rw[<-HL.out];exact hu2)⟩,fun h=>by rw[<-HAD.out] at h;split at h <;> cases h⟩
        have HS2:Hid (Steps w base bs (pre++[x]) r'):=Steps.snoc x HST.out HR0.out (by rw[hxc];exact e) hxo
        clear hxe HX hpl hpp hSc
        rw[hy]
        gi_wp2
        refine hR.mono ?_
        rintro e1 W3 (⟨rfl,hJ3,hk3⟩ | ⟨rfl,hJx3⟩)
        · have hcb3:W3.cell? ⟨Bba,0,none⟩=some (.slice a0 base.length cap0):=(World.cell?_of_block (a:=⟨Bba,0,none⟩) hk3.2).trans hcb
          have HB3:Hid (Below w.heap.size w W3):=HBW.out.trans hk3.1
          gi_wp2
          go_roundw
          case rel=>exact⟨pre++[x],r',ad2,cr-u,by rw[hlr],HSL.out,HS2.out,hJ3,HB3.out,hcb3⟩
          case measure=>simp[slen];omega
        · gi_wp2
          refine bodyPost_ret (results_none rfl _ _ _) rfl ?_
          exact⟨⟨_,rfl⟩,.inr ⟨_,.inl ⟨pre,x,r,r',HST.out,HR0.out,by rw[hxc];exact e,hxo,rfl⟩,hJx3⟩⟩
end Go.Proofs.YtiaaekdpfpaigaaGreatDoor.Dl
namespace Go.Proofs.YtiaaekdpfpaigaaGreatDoor.Dl
open Go.Proofs.Tryz
open Go.RowKit Go.Shelf Plain
def AK {α:Type} (F:Fence) (n:Nat) (P:Program) (g:Nat) (lb:Array Value) (encs:α->Array Value) (Fx:α->World->Prop) (Kp:Nat->World->World->Prop) (S:List α->Prop) (N:Nat) (w0:World):Prop :=
 ∀ (l:Nat) (J:List α->World->Prop) (W:World),Below w0.heap.size w0 W->w0.heap.size<=l->l<W.heap.size →
  (∀ s A B,J s A->A.grownBy B none->J s B) →
  (∀ pre x W1,J pre W1->Fx x W1->pre.length<N->YieldAt F (n-1) P l (encs x) W1 fun e W'=>e=.returned (.bool true)/\J (pre++[x]) W'/\Kp l W1 W') →
  J [] W →
  CallsIn F n P g (#[.func (.yield l) #[] #[]]++lb) W fun e W'=>(∃ v,e=.returned v)/\∃ xs,S xs/\J xs W'
theorem Tj {α:Type} {F:Fence} {n:Nat} {P:Program} {g:Operand} {ps:Array Tmp} {assign body:Code} {Q:Exit->Act->World->Prop} {a:Act} {w:World}
  (hro:F.round=none) (h1:1<=n) {gf:Nat} {lb:Array Value} (hg:a.eval g=.func (.func gf) #[] lb) (hFg:F.fn gf) (eg:∀ args w,(callFunc gf args).run P w=.ok (.enter gf args) w)
  {encs:α->Array Value} {Fx:α->World->Prop} {Kp:Nat->World->World->Prop} {S:List α->Prop} {N:Nat} (hseq:AK F (n-1) P gf lb encs Fx Kp S N w) (hps:∀ x,(encs x).size=ps.size)
  (hKt:∀ {l:Nat} {A B C:World},Kp l A B->Kp l B C->Kp l A C) (hKl:∀ (l:Nat) (W:World) (r r':Loop),w.heap.size<=l->W.heap[l]? = some (.loop r)->Kp l W (W.putObj l (.loop r')))
  (hFl:∀ (l:Nat) (W:World) (r r':Loop) (x:α),w.heap.size<=l->W.heap[l]? = some (.loop r)->Fx x W->Fx x (W.putObj l (.loop r')))
  (I:List α->World->Prop) (hI:∀ s A B,I s A->A.grownBy B none->I s B) (hIl:∀ (s:List α) (l:Nat) (W:World) (r r':Loop),w.heap.size<=l->W.heap[l]? = some (.loop r)->I s W->I s (W.putObj l (.loop r')))
  (h0:I [] w) (ax:α->Act)
  (hassign:∀ (l:Nat) (x:α) (W:World) (K:Act->World->Prop),K (ax x) W->assign.wpIn (F.inRound l) (n-1-1) P (Exit.then K (fun _ _ _=>False)) { tmps:=(ps.zip (encs x)).foldl (fun t (p,v)=>t.setIfInBounds p v) a.tmps,defers:=[] } W)
  (hbody:∀ (l:Nat) (pre:List α) (x:α) (W:World),w.heap.size<=l->l<W.heap.size->I pre W->Fx x W->pre.length<N->body.wpIn (F.inRound l) (n-1-1) P (fun e _ W'=>e=.normal/\KeepsFrom w.heap.size W W'/\Kp l W W'/\I (pre++[x]) W') (ax x) W)
  (hdone:∀ (D:Nat) (xs:List α) (W:World),w.heap.size<=D->S xs->I xs W->W.heap[D]? = some (.deferred (some []))->Q .normal { a with defers:={ target:=.collected D,args:=#[] } :: a.defers } W) :
  (Code.rangeFunc g ps assign body).wpIn F n P Q a w:=by
 refine wpIn_rangeFunc ?_;intro fn hfn;rw[hro];obtain⟨rc,hrc⟩:∃ rc:LoopState->Loop,rc=fun st=>{ state:=st,pending:=none,fn,tmps:=a.tmps,params:=ps,assign,body,defers:=w.heap.size }:=⟨_,rfl⟩;obtain⟨W1,hW1⟩:∃ W1,(w.alloc (.deferred (some []))).alloc (.loop (rc .ready))=W1:=⟨_,rfl⟩;have hg1:w.grownBy W1 none:=by rw[<-hW1];exact(yV w _).trans (yV _ _)
 have hs1:W1.heap.size=w.heap.size+2:=by rw[<-hW1];simp
 have hL1:W1.heap[w.heap.size+1]? = some (.loop (rc .ready)):=by
  rw[<-hW1];have:=World.alloc_heap_new (w.alloc (.deferred (some []))) (.loop (rc .ready));rwa [World.size_alloc] at this
 have hD1:W1.heap[w.heap.size]? = some (.deferred (some [])):=by
  rw[<-hW1];exact(Below.heap_alloc _ _ _ (by simp)).trans (World.alloc_heap_new w _)
 have hb1:Below w.heap.size w W1:=⟨hg1.os,hg1.tape,hg1.output,hg1.size,fun k hk=>hg1.block k hk (by simp)⟩;refine⟨w.heap.size+1,[{ target:=.collected w.heap.size,args:=#[] }],W1,{ target:=.fn (.func gf) lb,args:=#[.func (.yield (w.heap.size+1)) #[] #[]] },W1,gf,
  #[.func (.yield (w.heap.size+1)) #[] #[]]++lb,W1,?_,?_,?_,?_,fun _=>h1,?_⟩
 ·rw[<-hW1,hrc];exact run_enterLoop_outer _ _ _ _ _
 ·simp only[resolve,hg];simp[go_sem]
 ·intro f' hf';simp[Target.leads] at hf';subst hf';exact hFg
 ·simp[invoke,go_sem,eg]
 have keep:∀ {A B:World} {k:Nat} {o:Obj},A.grownBy B none->A.heap[k]? = some o->B.heap[k]? = some o:=fun hg' hk=>(hg'.block _ (Array.getElem?_eq_some_iff.1 hk).1 (by simp)).trans hk;refine(hseq (w.heap.size+1) (fun pre W=>I pre W/\W.heap[w.heap.size+1]? = some (.loop (rc .ready))/\W.heap[w.heap.size]? = some (.deferred (some []))) W1 hb1 (by omega) (by omega)
  (fun s A B hs hg'=>⟨hI s A B hs.1 hg',keep hg' hs.2.1,keep hg' hs.2.2⟩) ?_ ⟨hI _ _ _ h0 hg1,hL1,hD1⟩).mono ?_
 ·rintro pre x W ⟨hi,hl,hd⟩ hfx hlen;have hlt:w.heap.size+1<W.heap.size:=(Array.getElem?_eq_some_iff.1 hl).1;have hy:=run_yield (P:=P) (args:=encs x) hl (by rw[hrc];exact hps x);rw[hrc] at hy;refine⟨fn,_,assign,body,hy,roundIn_of_wpIn hfn (hassign _ x W _ ?_)⟩;refine⟨_,run_beginRound hl (by rw[hrc]),?_⟩;have hle:w.heap.size<=w.heap.size+1:=by omega
  have hl2:(W.putObj (w.heap.size+1) (.loop { rc .ready with state:=.busy })).heap[w.heap.size+1]? = some (.loop { rc .ready with state:=.busy }):=World.putObj_heap_same hlt;have hd2:(W.putObj (w.heap.size+1) (.loop { rc .ready with state:=.busy })).heap[w.heap.size]? = some (.deferred (some [])):=(World.putObj_heap_other (by omega)).trans hd
  refine wpIn_mono (hbody _ pre x _ hle (by rw[World.putObj_size];exact hlt) (hIl _ _ _ _ _ hle hl hi) (hFl _ _ _ _ _ hle hl hfx) hlen) ?_;rintro e a3 W3 ⟨rfl,hk3,hkp3,hi3⟩;have hl3:=hk3.same _ _ hle hl2 rfl;have hd3:=hk3.same _ _ (WzV _) hd2 rfl;have hr:=run_endRound (P:=P) none hl3
  refine⟨_,_,hr,rfl,⟨hIl _ _ _ _ _ hle hl3 hi3,?_,(World.putObj_heap_other (by omega)).trans hd3⟩,hKt (hKt (hKl _ _ _ _ hle hl) hkp3) (hKl _ _ _ _ hle hl3)⟩;rw[World.putObj_heap_same (Array.getElem?_eq_some_iff.1 hl3).1,hrc];rfl
 rintro e W2 ⟨⟨v,rfl⟩,xs,hS,hi,hl,hd⟩;refine⟨none,_,by have:=run_endLoop (P:=P) hl (by rw[hrc];simp);rw[hrc] at this;exact this,?_⟩;exact hdone _ xs _ (WzV _) hS (hIl _ _ _ _ _ (by omega) hl hi) ((World.putObj_heap_other (by omega)).trans hd)
def Ob (X:Nat) (W:World) (k:Nat):Prop := ∃ v,W.cell? ⟨X,0,none⟩=some v/\v.ownBlock=some k
structure Kx (X l:Nat) (A B:World):Prop where
 os:B.os=A.os
 tape:B.tape=A.tape
 output:B.output=A.output
 size:A.heap.size<=B.heap.size
 at_:∀ k,Ob X B k->Ob X A k ∨ A.heap.size<=k
 blk:∀ k,k<A.heap.size->k ≠ X->k ≠ l->¬ Ob X A k->B.heap[k]? = A.heap[k]?
 bd:(∀ k,Ob X A k->k<A.heap.size)->∀ k,Ob X B k->k<B.heap.size
theorem Kx.refl (X l:Nat) (A:World):Kx X l A A:=⟨rfl,rfl,rfl,WzV _,fun _ h=>.inl h,fun _ _ _ _ _=>rfl,fun h=>h⟩
theorem Kx.trans {X l:Nat} {A B C:World} (h:Kx X l A B) (k:Kx X l B C):Kx X l A C:=by
 have hs:=h.size;refine⟨k.os.trans h.os,k.tape.trans h.tape,k.output.trans h.output,Nat.le_trans h.size k.size,fun i hi=>?_,fun i h1 h2 h3 h4=>?_,fun hb=>k.bd (h.bd hb)⟩
 ·rcases k.at_ i hi with g | g
  ·exact h.at_ i g
  exact .inr (by omega)
 refine(k.blk i (by omega) h2 h3 (fun ho=>?_)).trans (h.blk i h1 h2 h3 h4);rcases h.at_ i ho with g | g
 ·exact h4 g
 omega
theorem Kx.grow {X l:Nat} {A B:World} (hX:X<A.heap.size) (h:A.grownBy B none):Kx X l A B :=
 ⟨h.os,h.tape,h.output,h.size,fun k ⟨v,h1,h2⟩=>.inl ⟨v,by rw[<-h1];exact(World.cell?_of_block (a:=⟨X,0,none⟩) (h.block X hX (by simp))).symm,h2⟩,fun k h1 _ _ _=>h.block k h1 (by simp),fun hb k ⟨v,h1,h2⟩=>Wqj (hb k ⟨v,by rw[<-h1];exact(World.cell?_of_block (a:=⟨X,0,none⟩) (h.block X hX (by simp))).symm,h2⟩) h.size⟩
theorem Kx.loop {X l:Nat} {W:World} {r r':Loop} (hX:X ≠ l):Kx X l W (W.putObj l (.loop r')) :=
 ⟨rfl,rfl,rfl,by rw[World.putObj_size];exact WzV _,fun k ⟨v,h1,h2⟩=>.inl ⟨v,by rw[<-h1];exact(World.cell?_of_block (a:=⟨X,0,none⟩) (World.putObj_heap_other hX)).symm,h2⟩,fun k h1 _ h3 _=>World.putObj_heap_other h3,fun hb k ⟨v,h1,h2⟩=>by rw[World.putObj_size];exact hb k ⟨v,by rw[<-h1];exact(World.cell?_of_block (a:=⟨X,0,none⟩) (World.putObj_heap_other hX)).symm,h2⟩⟩
theorem Kx.mv {X l:Nat} {W W1:World} {v v1:Value} (hb:Boxed W X 22 v) (h:Mv W W1 v v1) (hne:some X ≠ v.ownBlock) (hlt:∀ k,v1.ownBlock=some k->k<W1.heap.size):Kx X l W (W1.setCell ⟨X,0,none⟩ v1):=by
 have hX:=hb.lt;have hs:=h.size;have hb1:W1.heap[X]? = W.heap[X]? := h.blk X hX hne;have hc:(W1.setCell ⟨X,0,none⟩ v1).cell? ⟨X,0,none⟩=some v1:=World.cell?_setCell_same (u:=v) _ _ _ ((World.cell?_of_block (a:=⟨X,0,none⟩) hb1).trans hb.cell)
 refine⟨h.os,h.tape,h.output,by simp[World.setCell];exact hs,fun k ⟨u,h1,h2⟩=>?_,fun k h1 h2 h3 h4=>?_,fun _ k ⟨u,h1,h2⟩=>by rw[hc] at h1;cases h1;simp[World.setCell];exact hlt k h2⟩
 ·rw[hc] at h1;cases h1
  rcases h.at_ with g | g
  ·exact .inl ⟨v,hb.cell,by rw[<-g];exact h2⟩
  exact .inr (g k h2)
 rw[Below.heap_setCell _ _ _ k h2];exact h.blk k h1 (fun e=>h4 ⟨v,hb.cell,e.symm⟩)
theorem Kx.keep {X l k:Nat} {A B:World} (h:Kx X l A B) (h1:k<A.heap.size) (h2:k ≠ X) (h3:k ≠ l) (h4:¬ Ob X A k):B.heap[k]? = A.heap[k]? := h.blk k h1 h2 h3 h4
structure Fre (X:Nat) (w:World) (k:Nat):Prop where
 lt:k<w.heap.size
 ne:k ≠ X
 no:¬ Ob X w k
theorem Fre.kx {X l k:Nat} {A B:World} (h:Fre X A k) (hk:Kx X l A B):Fre X B k :=
 ⟨Wqj h.lt hk.size,h.ne,fun ho=>by rcases hk.at_ k ho with g | g;exact h.no g;have:=h.lt;omega⟩
theorem Sl.kx {X l:Nat} {A B:World} {a:Option Addr} {cap:Nat} {c:List Int} (h:Sl A a cap c) (hk:Kx X l A B) (hf:∀ p:Addr,a=some p->Fre X A p.block/\p.block ≠ l):Sl B a cap c :=
 ⟨h.capl,fun h0=>by
  obtain⟨b,off,e1,e2,e3⟩:=h.at_ h0
  obtain⟨f1,f2⟩:=hf _ e1
  exact⟨b,off,e1,Wqj e2 hk.size,fun i hi=>(World.cell?_of_block (a:=⟨b,off+i,none⟩) (hk.blk b f1.lt f1.ne f2 f1.no)).trans (e3 i hi)⟩,h.nil⟩
theorem Zw {X l B t:Nat} {v:Value} {A W:World} (h:Boxed A B t v) (hk:Kx X l A W) (hf:Fre X A B) (hl:B ≠ l):Boxed W B t v:=(hk.blk B hf.lt hf.ne hl hf.no).trans h
theorem Q7 (w:World):w.grownBy w.drew none:=⟨rfl,rfl,rfl,WzV _,fun _ _ _=>rfl⟩
theorem Sw {α:Type} (l:List α) (n:Nat):l.take (min n l.length)=l.take n:=by
 rcases Nat.le_total n l.length with h | h
 ·rw[Nat.min_eq_left h]
 rw[Nat.min_eq_right h,Wzu h,Wzu (WzV _)]
structure Ch where
 ad:Option Addr
 cap:Nat
 c:List Int
def Ch.enc (x:Ch):Array Value:=#[.slice x.ad x.c.length x.cap]
def Ch.Fx (X:Nat) (x:Ch) (W:World):Prop:=Sl W x.ad x.cap x.c/\0<x.c.length/\x.c.length<=127/\∀ p:Addr,x.ad=some p->Fre X W p.block
def eo (cs:List (List Int)):List Int:=cs.flatMap fun c=>(c.length:Int) :: c
theorem Sy (cs:List (List Int)) (c:List Int):eo (cs++[c])=eo cs++((c.length:Int) :: c):=by simp[eo]
def SCh (s:List Int) (xs:List Ch):Prop:=eo (xs.map (·.c))=own s
set_option maxRecDepth 100000 in
theorem AV (n:Nat) (hn:1<=n) (w:World) (X Bs Bn:Nat) (as_:Option Addr) (cs:Nat) (s:List Int) (hS:Sl w as_ cs s) (hz:IsB s) (hl:s.length<=400000) (hbs:Boxed w Bs 22 (.slice as_ s.length cs)) (hbn:Boxed w Bn 3 (.int .i64 127))
  (hX:X<w.heap.size) (fs:Fre X w Bs) (fn:Fre X w Bn) (fa:∀ p:Addr,as_=some p->Fre X w p.block) :
  AK Fence.wide n prog 103 #[.pointer (some ⟨Bs,0,none⟩),.pointer (some ⟨Bn,0,none⟩)] Ch.enc (Ch.Fx X) (Kx X) (SCh s) (s.length+1) w:=by
 intro l J W hW hwl hlW hJ hY h0;have hXW:X<W.heap.size:=Wqj hX hW.size;have K0:Kx X l w W:=⟨hW.os,hW.tape,hW.output,hW.size,fun k ⟨v,h1,h2⟩=>.inl ⟨v,by rw[<-h1];exact(hW.cell (p:=⟨X,0,none⟩) hX).symm,h2⟩,fun k h1 _ _ _=>hW.block k h1,fun hb k ⟨v,h1,h2⟩=>Wqj (hb k ⟨v,by rw[<-h1];exact(hW.cell (p:=⟨X,0,none⟩) hX).symm,h2⟩) hW.size⟩
 refine callsIn_of_wp func103 rfl trivial ?_ rfl;simp only[ntmps103,WqW,Wz7,Wv3,Wq3,Wv6,WxY,Wv0,Wv4,Wv1,Wzx,Wz3];gi_wp2
 gi_loopg [4] s.length (fun k v wr=>∃ (i:Nat) (pre:List Ch),v=.int .i64 i/\k=s.length-i/\i<=s.length+127/\Hid (Kx X l w wr)/\Hid (J pre wr)/\Hid (eo (pre.map (·.c))++own (s.drop i)=own s)/\Hid (pre.length<=i)/\Hid (pre.length<=s.length));case atStart=>exact⟨0,[],rfl,rfl,by omega,K0,h0,by show _=_;rfl,by show _<=_;simp,by show _<=_;simp⟩
 obtain⟨i,pre,rfl,hk,hi,HK,HJ,HE,HP,HPL⟩:=hrel;have ks:=(Zw hbs HK.out fs (by have:=fs.lt;omega)).cell;have kn:=(Zw hbn HK.out fn (by have:=fn.lt;omega)).cell;obtain⟨L,HL⟩:=nn_ s.length;have hLl:L<=400000:=by rw[HL.out];exact hl
 rw[<-HL.out] at ks hi hk;by_cases hiL:i<L;rotate_left
 ·have hiI:¬ (i:Int)<L:=by omega
  gi_wp2;go_end0;refine⟨⟨_,rfl⟩,pre,?_,HJ.out⟩;have:=HE.out;rw[List.drop_of_length_le (by rw[<-HL.out];omega),EJ,List.append_nil] at this;exact this
 have hiI:(i:Int)<L:=by omega
 obtain⟨b,off,rfl,hb,hat⟩:=hS.at_ (by rw[<-HL.out];omega);have hcs:L<=cs:=by rw[HL.out];exact hS.capl
 obtain⟨ad,HAD⟩:=nm_ (if cs=i then some (⟨b,off,none⟩:Addr) else some ⟨b,off+i,none⟩);have had:=HAD.out;have hiN:i<=L:=by omega
 obtain⟨D,HD⟩:=nm_ (L-i);have hD:=HD.out;obtain⟨e,HE2⟩:=nn_ (min 127 D);have hmin:(if (D:Int)<127 then (D:Int) else 127)=(e:Int):=by rw[HE2.out];split <;> omega
 gi_wp2;refine wpIn_wide.2 ?_;refine wp_region_held_drew (S:=fun w'=>w'.cell? ⟨Bs,0,none⟩=some (.slice (some ⟨b,off,none⟩) L cs)/\w'.cell? ⟨Bn,0,none⟩=some (.int .i64 127)) (by kernel_rfl) ⟨ks,kn⟩ (fun hHeld=>?_);refine tZ (i:=0) hHeld ?_;try simp only[Act.put,sL]
 refine tZ (i:=1) hHeld ?_;try simp only[Act.put,sL]
 refine tZ (i:=2) hHeld ?_;try simp only[Act.put,sL]
 refine tZ (i:=3) hHeld ?_;try simp only[Act.put,sL]
 refine tZ (i:=4) hHeld ?_;try simp only[Act.put,sL]
 refine tZ (i:=5) hHeld ?_;try simp only[Act.put,sL]
 refine tZ (i:=6) hHeld ?_;try simp only[Act.put,sL]
 refine wpAnyH_done (by kernel_rfl) ?_ _;have hDp:0<D:=by have:=HD.out;omega
 have hep:0<e:=by rw[HE2.out];omega
 have he127:e<=127:=by rw[HE2.out];omega
 have heD:e<=D:=by rw[HE2.out];omega
 have hcl:((s.drop i).take e).length=e:=by rw[Wzz,Wz8,<-HL.out,HD.out];omega
 have hgd:wr.grownBy wr.drew none:=Q7 wr;have hSx:Sl wr.drew (some ⟨b,off+i,none⟩) e ((s.drop i).take e):=by
  have hSr:Sl wr.drew (some ⟨b,off,none⟩) cs s:=(hS.kx HK.out (fun p hp=>⟨fa p hp,by have:=(fa p hp).lt;omega⟩)).below ⟨rfl,rfl,rfl,WzV _,fun _ _=>rfl⟩;refine⟨by rw[hcl];exact WzV _,fun _=>?_,fun h=>by cases h⟩;obtain⟨b2,off2,e1,e2,e3⟩:=hSr.at_ (by rw[<-HL.out];omega);cases e1
  exact⟨b,off+i,rfl,e2,Hu e3 i e (by rw[<-HL.out];have:=HD.out;omega)⟩
 have HPI:Hid (pre.length<s.length+1):=by have:=HPL.out;show _<_;omega
 obtain⟨x,Hx⟩:=nn_ (⟨some ⟨b,off+i,none⟩,e,(s.drop i).take e⟩:Ch);have HXC:Hid (x.c=(s.drop i).take e):=by rw[Hx.out];rfl
 have hxe:x.enc=#[.slice (some ⟨b,off+i,none⟩) e e]:=by rw[Hx.out];unfold Ch.enc;rw[hcl]
 have hfx:x.Fx X wr.drew:=by rw[Hx.out];exact⟨hSx,by rw[hcl];exact hep,by rw[hcl];exact he127,fun p hp=>by cases hp;exact(fa ⟨b,off,none⟩ rfl).kx (HK.out.trans (Kx.grow (l:=l) (Wqj hX HK.out.size) (Q7 wr)))⟩
 obtain⟨fn_,tmps,assign,body,hy,hR⟩:=hY pre x wr.drew (hJ _ _ _ HJ.out hgd) hfx HPI.out;rw[hxe] at hy;have HCL:Hid (((s.drop i).take e).length=e):=hcl;have hie:(i:Int)+e<=cs:=by have:=HD.out;omega
 clear hSx hgd hat hxe hfx hcl Hx;gi_wp2;refine hR.mono ?_;rintro e1 W3 ⟨rfl,hJ3,hk3⟩;have HK3:Hid (Kx X l w W3):=(HK.out.trans (Kx.grow (Wqj hX HK.out.size) (Q7 wr))).trans hk3;have HJ3:Hid _:=hJ3;have kn3:=(Zw hbn HK3.out fn (by have:=fn.lt;omega)).cell;clear hJ3 hk3;gi_wp2;gi_roundg (L-(i+127));case measure=>omega
 case rel =>
 refine⟨i+127,pre++[x],by go_num,by rw[<-HL.out],by rw[<-HL.out];omega,HK3.out,HJ3.out,?_,?_,?_⟩
 ·show _=_;rw[<-HE.out,List.map_append,List.map_singleton,Sy,List.append_assoc,HXC.out];congr 1;have hne:s.drop i ≠ []:=by intro h;have:=congrArg List.length h;simp at this;have:=HL.out;omega
  rw[B0 (s.drop i) hne,HCL.out,Wv2];have hd1:min 127 (s.drop i).length=e:=by rw[Wz8,<-HL.out,HD.out,HE2.out]
  rw[hd1];have hd2:(s.drop i).take e=(s.drop i).take 127:=by rw[<-hd1,Sw]
  rw[hd2]
 ·show _<=_;have:=HP.out;simp;omega
 show _<=_;have:=HP.out;have:=HL.out;simp;omega
end Go.Proofs.YtiaaekdpfpaigaaGreatDoor.Dl
