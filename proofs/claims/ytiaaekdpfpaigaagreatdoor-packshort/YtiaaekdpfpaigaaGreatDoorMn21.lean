import Derived.Lib.Bytealg
import Derived.Test.YtiaaekdpfpaigaaGreatDoorMn20
set_option linter.unusedSimpArgs false
set_option linter.unusedVariables false
set_option maxRecDepth 20000
set_option maxHeartbeats 4000000
open List renaming drop->WxZ,drop_eq_getElem_cons->WxQ,drop_eq_nil_of_le->WxX,drop_of_length_le->Wy7,getElem_mem->Wz5,length_append->Wz6,length_drop->Wz8,map_cons->Wxj,map_nil->Wxk,map_toArray->Wxy,mem_cons->WxJ,size_toArray->WqW
open Nat renaming add_assoc->WzQ,le_refl->WzV,lt_or_ge->WzW,mod_eq_of_lt->WyJ,mul_le_mul->Wyw,mul_mod_left->WyY,pow_le_pow_right->Wqk,zero_add->Wq7
open Option renaming some->Wq9
namespace Go.Proofs.YtiaaekdpfpaigaaGreatDoor.Pk
open Go.Proofs.Tryz
open Go.RowKit Go.Maps Go.Proofs.YtiaaekdpfpaigaaGreatDoor.Dl Go.Proofs.YtiaaekdpfpaigaaGreatDoor.Dl.Plain
theorem results119:f119.results=#[.tmp 2,.tmp 3,.tmp 4,.tmp 5]:=by kernel_rfl
theorem XV {fn:Func} {p q r s:Tmp} (h:fn.results=#[.tmp p,.tmp q,.tmp r,.tmp s]) (tmps:Array Value) (w:World) (x y z u:Value) (hp:tmps.getD p undef=x) (hq:tmps.getD q undef=y) (hr:tmps.getD r undef=z) (hs:tmps.getD s undef=u) :
  (results fn tmps).run prog w=.ok (.tuple #[x,y,z,u]) w:=by
 have hp':tmps[p]?.getD undef=x:=by simpa using hp
 have hq':tmps[q]?.getD undef=y:=by simpa using hq
 have hr':tmps[r]?.getD undef=z:=by simpa using hr
 have hs':tmps[s]?.getD undef=u:=by simpa using hs
 simp[results,h,hp',hq',hr',hs']
theorem and7 (x:Nat) (h:x<256):bits .and .u8 ((x:Nat):Int) 7=((x % 8:Nat):Int):=by
 have t:∀ x,x<256->bits .and .u8 ((x:Nat):Int) 7=((x % 8:Nat):Int):=by decide +kernel
 exact t x h
theorem pow32 {j:Nat} (h:j<=5):2 ^ (7*j-3)<=4294967296:=Wqk (n:=2) (j:=32) (by omega) (by omega)
def zxY (w:World) (b k n:Nat) (rest:List Int) (ev:Ending) (w':World):Prop :=
 ∃ a cap q,ev=.returned (.tuple #[.int .i64 k,.int .i64 n,.slice a rest.length cap,.nilIface])/\w'=w.drewN q/\Sl w' a cap rest/\∀ p:Addr,a=some p->p.block=b
theorem LQ (k n:Nat) (rest:List Int) (b off cap:Nat) (bs:List Int) (w:World) (hR:rkd bs=some (k,n,rest)) (hz:IsB bs) (hl:bs.length<=400000) (hat:At w b off bs) (hb:b<w.heap.size) (hcap:bs.length<=cap) :
  Calls prog 119 #[.slice (some ⟨b,off,none⟩) bs.length cap] w (zxY w b k n rest):=by
 have h0:0<bs.length:=by
  cases bs with
  | nil=>cases hR
  | cons _ _=>simp
 have HR:=hid hR;obtain⟨L,HL⟩:=nn_ bs.length;rw[<-HL.out] at hl h0 hcap ⊢;obtain⟨m,HM⟩:=nn_ (min L 5);have hmin:(if (5:Int)<(L:Int) then (5:Int) else (L:Int))=(m:Int):=by rw[HM.out];split <;> omega
 have hm5:m<=5:=by rw[HM.out];omega
 have hmL:m<=L:=by rw[HM.out];omega
 have HAT:Hid (At w b off bs):=hat
 have HZ:Hid (IsB bs):=hz;clear hat hz hR;go_enter func119,ntmps119;go_wp2_with fail
 go_loopg [2,3,6,15] m (fun q kv nv sv i wr=>∃ j a s:Nat,∃ kk:Nat,j<=m/\i=.int .i64 j/\nv=.int .i64 a/\kv=.int .i64 kk/\sv=.int .i64 s/\q=m-j/\wr=w/\((j=0/\a=0/\s=0/\kk=0) ∨ (0<j/\kk=k/\s=7*j-3/\Hid (a<2 ^ (7*j-3))/\Hid (rk (5-j) (7*j-3) a (bs.drop j)=some (n,rest)))));case atStart=>exact⟨0,0,0,0,by omega,rfl,rfl,rfl,rfl,rfl,rfl,.inl ⟨rfl,rfl,rfl,rfl⟩⟩
 obtain⟨j,a,s,kk,hj,rfl,rfl,rfl,rfl,hq,rfl,hcase⟩:=hrel;have hjm:j<m:=by
  rcases hcase with ⟨rfl,_⟩ | ⟨hj0,_,_,_,HS⟩
  ·omega
  rcases WzW j m with h | h
  ·exact h
  exfalso;have hm:=HM.out;have hS:=HS.out;rcases WzW 4 j with h5 | h5
  ·rw[show 5-j=0 by omega] at hS;cases hS
  rw[Wy7 (by have:=HL.out;omega),show 5-j=(4-j)+1 by omega] at hS;cases hS
 have hjZ:(j:Int)<m:=by omega
 have hjb:j<bs.length:=by have:=HL.out;omega
 have hxb:=HZ.out _ (Wz5 hjb);obtain⟨x,HX⟩:∃ x:Nat,Hid (bs[j]=(x:Int)):=⟨bs[j].toNat,by show _=_;omega⟩;have hx:x<256:=by have:=HX.out;omega
 have cx:=HAT.out j hjb;have hgx:bs.getD j 0=(x:Int):=by rw[List.getD_eq_getElem?_getD,List.getElem?_eq_getElem hjb,<-HX.out];rfl
 rw[hgx] at cx;have hdrop:bs.drop j=(x:Int) :: bs.drop (j+1):=by rw[WxQ hjb,HX.out]
 obtain⟨ad,HAD⟩:=nm_ (if cap=j+1 then some (⟨b,off,none⟩:Addr) else some ⟨b,off+(j+1),none⟩);have had:=HAD.out;have HSL:Hid (∀ q,Sl (wr.drewN q) ad (cap-(j+1)) (bs.drop (j+1))):=fun q =>
  ⟨by rw[Wz8,<-HL.out];omega,fun h=>by
   rw[Wz8,<-HL.out] at h
   rw[<-HAD.out,if_neg (by omega)]
   exact⟨b,off+(j+1),rfl,hb,X4 HAT.out (j+1) (by rw[<-HL.out];omega)⟩,fun h=>by rw[<-HAD.out] at h;split at h <;> cases h⟩
 have HBK:Hid (∀ p:Addr,ad=some p->p.block=b):=hid (fun p hp=>by rw[<-HAD.out] at hp;split at hp <;> (cases hp;rfl));have HLEN:Hid ((bs.drop (j+1)).length=L-(j+1)):=hid (by rw[Wz8,<-HL.out]);rcases hcase with ⟨rfl,rfl,rfl,rfl⟩ | ⟨hj0,rfl,rfl,HA,HS⟩
 ·have cx0:wr.cell? ⟨b,off,none⟩=some (.int .u8 x):=by simpa using cx
  have hb0:bs=(x:Int) :: bs.drop 1:=by simpa using hdrop
  have hR:=HR.out;rw[hb0,rkd,show ((x:Int)).toNat=x by omega] at hR;obtain⟨x1,HX1⟩:=nn_ (x / 16);have hs1:(x:Int) / 16=(x1:Int):=by rw[HX1.out];omega
  obtain⟨k1,HK1⟩:=nn_ (x / 16 % 8);have ha1:bits .and .u8 (x1:Int) 7=(k1:Int):=by rw[and7 x1 (by rw[HX1.out];omega),HK1.out,HX1.out]
  obtain⟨n1,HN1⟩:=nn_ (x % 16);have ha2:bits .and .u8 (x:Int) 15=(n1:Int):=by rw[qqq x hx,HN1.out]
  rw[<-HK1.out,<-HN1.out] at hR;have hk8:k1<8:=by rw[HK1.out];omega
  have hn16:n1<16:=by rw[HN1.out];omega
  clear hdrop hgx hxb cx;rw[Wq7] at had;by_cases hx8:x<128
  ·have hx8Z:(x:Int)<128:=(by omega);rw[if_neg (by omega)] at hR;simp only[Wq9.injEq,Prod.mk.injEq] at hR;obtain⟨rfl,rfl,rfl⟩:=hR;have HLEN1:Hid ((bs.drop 1).length=L-1):=HLEN;clear hb0;by_cases hx0:x=0
   ·subst hx0;obtain rfl:x1=0:=(by rw[HX1.out]);obtain rfl:k1=0:=(by rw[HK1.out]);obtain rfl:n1=0:=(by rw[HN1.out]);clear hs1;have ha1':bits .and .u8 0 7=0:=(by decide +kernel);have ha2':bits .and .u8 0 15=0:=(by decide +kernel);clear ha1 ha2;go_wp2_with fail
    go_quiet (fail);go_wp2;exact bodyPost_ret (XV results119 _ _ _ _ _ _ rfl rfl rfl rfl) rfl ⟨_,_,nq,by rw[HLEN1.out];rfl,rfl,HSL.out nq,HBK.out⟩
   have g1:¬ (x:Int)=0:=(by omega);go_wp2_with fail
   go_quiet (fail);go_wp2;exact bodyPost_ret (XV results119 _ _ _ _ _ _ rfl rfl rfl rfl) rfl ⟨_,_,nq,by rw[HLEN1.out];rfl,rfl,HSL.out nq,HBK.out⟩
  have hx8Z:¬ (x:Int)<128:=by omega
  have hx8Z':(128:Int)<=(x:Int):=by omega
  rw[if_pos (by omega)] at hR;obtain⟨p,hp⟩:∃ p,rk 4 4 n1 (bs.drop 1)=some p:=by
   cases e:rk 4 4 n1 (bs.drop 1) with
   | none=>rw[e] at hR;cases hR
   | some p=>exact⟨p,rfl⟩
  rw[hp] at hR;simp only[Option.map_some,Wq9.injEq,Prod.mk.injEq] at hR;obtain⟨rfl,rfl⟩:=hR;have HP:=hid hp;clear hp hb0 had;go_wp2_with fail
  go_roundg (m-1);case measure=>omega
  case rel=>exact⟨1,n1,4,k1,by omega,by go_num,rfl,rfl,rfl,rfl,rfl,.inr ⟨by omega,rfl,rfl,hid hn16,HP⟩⟩
 have hp:=pow32 (show j<=5 by omega);obtain⟨sh,HSH⟩:=nm_ (7*j-3);have hpx:x % 128*2 ^ sh<=127*4294967296:=by rw[<-HSH.out];exact Wyw (by omega) hp
 rw[HSH.out] at HA HS;rw[HSH.out];obtain⟨y,HY⟩:=nn_ (x % 128);have hyw:wrap64 (y:Int)=(y:Int):=by rw[xJ,IntKind.wrap_i64];have:=HY.out;omega
 have han:bits .andNot .u8 (x:Int) 128=(y:Int):=by rw[HY.out];exact U5 x hx
 obtain⟨v,HV⟩:=nn_ (a+x % 128*2 ^ sh);have HVL:Hid (v<2 ^ (7*(j+1)-3)):=hid (by
  rw[HV.out,show 7*(j+1)-3=sh+7 by have:=HSH.out;omega,Nat.pow_add];have h1:x % 128*2 ^ sh+2 ^ sh<=128*2 ^ sh:=by
   have h:(x % 128+1)*2 ^ sh<=128*2 ^ sh:=Wyw (by omega) (WzV _);rw[Nat.add_mul,Nat.one_mul] at h;exact h
  rw[Nat.mul_comm (2 ^ sh)];have:=HA.out;omega)
 have hor:bits .or .i64 (a:Int) (wrap64 ((y:Int)*2 ^ sh))=(v:Int):=by
  have e:(y:Int)*2 ^ sh=((x % 128*2 ^ sh:Nat):Int):=by rw[HY.out];push_cast;rfl
  have hA:=HA.out;have hpp:2 ^ sh<=4294967296:=by rw[<-HSH.out];exact hp
  rw[e,xJ,IntKind.wrap_i64];have e2:(((x % 128*2 ^ sh:Nat):Int)+9223372036854775808) % 18446744073709551616-9223372036854775808=((x % 128*2 ^ sh:Nat):Int):=by omega
  rw[e2,uQ _ _ (by omega) (by omega),Nat.or_comm,nat_join sh _ _ (WyY _ _) hA,HV.out,Nat.add_comm]
 have hsS:=HS.out;rw[show 5-j=(4-j)+1 by omega,hdrop,rk] at hsS;rw[show ((x:Int)).toNat=x by omega] at hsS;have hsh7:sh<=32:=by have:=HSH.out;omega
 clear hdrop hgx hxb hp hpx;by_cases hx8:x<128
 ·have hx8Z:(x:Int)<128:=by omega
  rw[if_neg (by omega)] at hsS;by_cases hx0:x=0
  ·rw[if_pos (by omega)] at hsS;cases hsS
  have g1:¬ (x:Int)=0:=by omega
  rw[if_neg (by omega)] at hsS;simp only[Wq9.injEq,Prod.mk.injEq] at hsS;obtain⟨h1,rfl⟩:=hsS;have hvn:v=n:=by rw[HV.out,<-h1,WyJ hx8]
  subst hvn;go_wp2_with fail
  go_quiet (fail);go_wp2;exact bodyPost_ret (XV results119 _ _ _ _ _ _ rfl rfl rfl rfl) rfl ⟨_,_,nq,by rw[HLEN.out];rfl,rfl,HSL.out nq,HBK.out⟩
 have hx8Z:¬ (x:Int)<128:=by omega
 have hx8Z':(128:Int)<=(x:Int):=by omega
 rw[if_pos (by omega)] at hsS;have HS2:Hid (rk (4-j) (sh+7) v (bs.drop (j+1))=some (n,rest)):=hid (by rw[HV.out,show x % 128=x-128 by omega];exact hsS);clear hsS had;go_wp2_with fail
 go_roundg (m-(j+1));case measure=>omega
 case rel=>exact⟨j+1,v,sh+7,kk,by omega,by go_num,by first | rfl | go_num,rfl,by go_num,rfl,rfl,.inr ⟨by omega,rfl,by have:=HSH.out;omega,HVL,by rw[show 5-(j+1)=4-j by omega,show 7*(j+1)-3=sh+7 by have:=HSH.out;omega];exact HS2⟩⟩
theorem results121:f121.results=#[.tmp 2,.tmp 3,.tmp 4]:=by kernel_rfl
theorem Hq {fn:Func} {p q r:Tmp} (h:fn.results=#[.tmp p,.tmp q,.tmp r]) (tmps:Array Value) (w:World) (x y z:Value) (hp:tmps.getD p undef=x) (hq:tmps.getD q undef=y) (hr:tmps.getD r undef=z) :
  (results fn tmps).run prog w=.ok (.tuple #[x,y,z]) w:=by
 have hp':tmps[p]?.getD undef=x:=by simpa using hp
 have hq':tmps[q]?.getD undef=y:=by simpa using hq
 have hr':tmps[r]?.getD undef=z:=by simpa using hr
 simp[results,h,hp',hq',hr']
def zv0 (w:World) (b n:Nat) (rest:List Int) (ev:Ending) (w':World):Prop :=
 ∃ a cap q,ev=.returned (.tuple #[.int .i64 n,.slice a rest.length cap,.nilIface])/\w'=w.drewN q/\Sl w' a cap rest/\∀ p:Addr,a=some p->p.block=b
theorem qx4 {j:Nat} (h:j<=4):128 ^ j<=268435456:=Wqk (n:=128) (j:=4) (by omega) (by omega)
theorem Uq (n:Nat) (rest:List Int) (b off cap:Nat) (bs:List Int) (w:World) (hR:rd 4 0 bs=some (n,rest)) (hz:IsB bs) (hl:bs.length<=400000) (hat:At w b off bs) (hb:b<w.heap.size) (hcap:bs.length<=cap) :
  Calls prog 121 #[.slice (some ⟨b,off,none⟩) bs.length cap] w (zv0 w b n rest):=by
 have h0:0<bs.length:=by
  cases bs with
  | nil=>cases hR
  | cons _ _=>simp
 have HR:=hid hR;obtain⟨L,HL⟩:=nn_ bs.length;rw[<-HL.out] at hl h0 hcap ⊢;obtain⟨m,HM⟩:=nn_ (min L 4);have hmin:(if (4:Int)<(L:Int) then (4:Int) else (L:Int))=(m:Int):=by rw[HM.out];split <;> omega
 have hm5:m<=4:=by rw[HM.out];omega
 have hmL:m<=L:=by rw[HM.out];omega
 have HAT:Hid (At w b off bs):=hat
 have HZ:Hid (IsB bs):=hz;clear hat hz hR;go_enter func121,ntmps121;go_wp2_with fail
 go_loopg [2,13] m (fun q nv i wr=>∃ j a:Nat,j<=m/\i=.int .i64 j/\nv=.int .i64 a/\q=m-j/\wr=w/\Hid (a+2<=2*128 ^ j)/\Hid (rd (4-j) a (bs.drop j)=some (n,rest)));case atStart=>exact⟨0,0,by omega,rfl,rfl,rfl,rfl,hid (by simp),HR⟩
 obtain⟨j,a,hj,rfl,rfl,hq,rfl,HA,HS⟩:=hrel;have hjm:j<m:=by
  rcases WzW j m with h | h
  ·exact h
  exfalso;have hm:=HM.out;have hS:=HS.out;rcases WzW 3 j with h5 | h5
  ·rw[show 4-j=0 by omega] at hS;cases hS
  rw[Wy7 (by have:=HL.out;omega),show 4-j=(3-j)+1 by omega] at hS;cases hS
 have hjZ:(j:Int)<m:=by omega
 have hjb:j<bs.length:=by have:=HL.out;omega
 have hxb:=HZ.out _ (Wz5 hjb);obtain⟨x,HX⟩:∃ x:Nat,Hid (bs[j]=(x:Int)):=⟨bs[j].toNat,by show _=_;omega⟩;have hx:x<256:=by have:=HX.out;omega
 have cx:=HAT.out j hjb;have hgx:bs.getD j 0=(x:Int):=by rw[List.getD_eq_getElem?_getD,List.getElem?_eq_getElem hjb,<-HX.out];rfl
 rw[hgx] at cx;have hdrop:bs.drop j=(x:Int) :: bs.drop (j+1):=by rw[WxQ hjb,HX.out]
 obtain⟨ad,HAD⟩:=nm_ (if cap=j+1 then some (⟨b,off,none⟩:Addr) else some ⟨b,off+(j+1),none⟩);have had:=HAD.out;have HSL:Hid (∀ q,Sl (wr.drewN q) ad (cap-(j+1)) (bs.drop (j+1))):=fun q =>
  ⟨by rw[Wz8,<-HL.out];omega,fun h=>by
   rw[Wz8,<-HL.out] at h
   rw[<-HAD.out,if_neg (by omega)]
   exact⟨b,off+(j+1),rfl,hb,X4 HAT.out (j+1) (by rw[<-HL.out];omega)⟩,fun h=>by rw[<-HAD.out] at h;split at h <;> cases h⟩
 have HBK:Hid (∀ p:Addr,ad=some p->p.block=b):=hid (fun p hp=>by rw[<-HAD.out] at hp;split at hp <;> (cases hp;rfl));have HLEN:Hid ((bs.drop (j+1)).length=L-(j+1)):=hid (by rw[Wz8,<-HL.out]);have hp:=qx4 (show j<=4 by omega);have ha:a<=536870912:=by have:=HA.out;omega
 obtain⟨y,HY⟩:=nn_ (x % 128);have hy:y<128:=by rw[HY.out];omega
 have han:bits .andNot .u8 (x:Int) 128=(y:Int):=by rw[HY.out];exact U5 x hx
 obtain⟨v,HV⟩:=nn_ (a*128+y);have hv:v<=68719476863:=by rw[HV.out];omega
 have hor:bits .or .i64 ((a:Int)*128) (y:Int)=(v:Int):=by
  have e:(a:Int)*128=((a*2 ^ 7:Nat):Int):=by push_cast;rfl
  rw[e,uQ _ _ (by omega) (by omega),nat_join 7 _ _ (WyY _ _) (by omega),HV.out]
 have hsS:=HS.out;rw[show 4-j=(3-j)+1 by omega,hdrop,rd] at hsS;rw[show ((x:Int)).toNat=x by omega] at hsS;clear hdrop hgx hxb hp;by_cases hx8:x<128
 ·have hx8Z:(x:Int)<128:=by omega
  rw[if_pos (by omega)] at hsS;simp only[Wq9.injEq,Prod.mk.injEq] at hsS;obtain⟨h1,rfl⟩:=hsS;have hvn:v=n:=by rw[HV.out,<-h1,HY.out,WyJ hx8]
  subst hvn;by_cases hj0:j=0
  ·subst hj0;have cx0:wr.cell? ⟨b,off,none⟩=some (.int .u8 x):=(by simpa using cx);clear cx;rw[Wq7] at had;go_wp2_with fail
   go_quiet (fail);go_wp2;exact bodyPost_ret (Hq results121 _ _ _ _ _ rfl rfl rfl) rfl ⟨_,_,nq,by rw[HLEN.out];rfl,rfl,HSL.out nq,HBK.out⟩
  go_wp2_with fail
  go_quiet (fail);go_wp2;exact bodyPost_ret (Hq results121 _ _ _ _ _ rfl rfl rfl) rfl ⟨_,_,nq,by rw[HLEN.out];rfl,rfl,HSL.out nq,HBK.out⟩
 have hx8Z:¬ (x:Int)<128:=by omega
 rw[if_neg (by omega)] at hsS;have HS2:Hid (rd (3-j) (v+1) (bs.drop (j+1))=some (n,rest)):=hid (by rw[HV.out,HY.out,show x % 128=x-128 by omega];exact hsS);have HA2:Hid (v+1+2<=2*128 ^ (j+1)):=hid (by rw[HV.out,Nat.pow_succ];have:=HA.out;omega);clear hsS had;by_cases hj0:j=0
 ·subst hj0;have cx0:wr.cell? ⟨b,off,none⟩=some (.int .u8 x):=by simpa using cx
  clear cx;go_wp2_with fail
  go_roundg (m-(0+1));case measure=>omega
  case rel=>exact⟨0+1,v+1,by omega,by go_num,by go_num,rfl,rfl,HA2,HS2⟩
 go_wp2_with fail
 go_roundg (m-(j+1));case measure=>omega
 case rel=>exact⟨j+1,v+1,by omega,by go_num,by go_num,rfl,rfl,HA2,by rw[show 4-(j+1)=3-j by omega];exact HS2⟩
end Go.Proofs.YtiaaekdpfpaigaaGreatDoor.Pk
namespace Go.Proofs.YtiaaekdpfpaigaaGreatDoor.Pk
open Go.Proofs.Tryz
open Go.RowKit Go.Maps Go.Proofs.YtiaaekdpfpaigaaGreatDoor.Id
theorem T9 {w:World} {G k n d:Nat} {id:List Int} (h:w.heap[G]? = some (.cells (hdV k n d id).toArray 70 (0,0))) (hi:id.length=20):w.rangeAt G 0 (hdV k n d id) :=
 zx h
set_option maxRecDepth 10000 in
theorem UY (k n d:Nat) (id:List Int) (w:World) :
  Calls prog 73 #[.agg (hdV k n d id).toArray] w fun e w'=>e=.returned (.bool (decide (k=6 ∨ k=7)))/\Below w.heap.size w w':=by
 obtain⟨A,HA⟩:=nm_ ((hdV k n d id).toArray);have hc0:(w.alloc (.cells A 70)).cell? ⟨w.heap.size,0,none⟩=some (.int .i64 k):=by rw[cell_of_row _ _ 0 _ _ _ (heap_alloc_new _ _),<-HA.out];rfl
 have HB0:Hid (Below w.heap.size w (w.alloc (.cells A 70))):=(Below.refl _ w).alloc (WzV _) _;rw[HA.out];by_cases h6:k=6
 ·subst h6;go_enter func73,ntmps73;go_wp2;go_ret;exact⟨by simp,HB0.out⟩
 have hI:¬ (k:Int)=6:=by omega
 by_cases h7:k=7
 ·subst h7;go_enter func73,ntmps73;go_wp2;go_ret;exact⟨by simp,HB0.out⟩
 have hI7:¬ (k:Int)=7:=by omega
 have HD:Hid (decide (k=6 ∨ k=7)=false):=hid (by simp;omega);rw[HD.out];have e6:((k:Int) == 6)=false:=by simpa using hI
 have e7:((k:Int) == 7)=false:=by simpa using hI7
 go_enter func73,ntmps73;go_wp2;go_ret;exact⟨rfl,HB0.out⟩
theorem Z3:(prog.info? 70).map (·.size)=some 23:=by kernel_rfl
set_option maxRecDepth 10000 in
theorem WQ (k n d:Nat) (id:List Int) (w:World) (hi:id.length=20) (hf:((k=6 ∨ k=7)/\n<=200000) ∨ (1<=k/\k<=4/\n<=100000)) :
  Calls prog 120 #[.agg (hdV k n d id).toArray] w fun e w'=>e=.returned (.bool true)/\Below w.heap.size w w':=by
 obtain⟨A,HA⟩:=nm_ ((hdV k n d id).toArray);obtain⟨w0,HW0⟩:=nm_ (w.alloc (.cells A 70));obtain⟨G,HG⟩:=nm_ w.heap.size;have HR0:Hid (w0.heap[G]? = some (.cells A 70 (0,0))):=hid (by rw[<-HW0.out,<-HG.out];exact heap_alloc_new _ _);have hs0:Hid (w0.heap.size=G+1):=hid (by rw[<-HW0.out,<-HG.out];simp)
 have HB0:Hid (Below G w w0):=hid (by rw[<-HW0.out,<-HG.out];exact(Below.refl _ w).alloc (WzV _) _);have hrg:(w.alloc (.cells A 70)).rangeAt w.heap.size 0 (hdV k n d id):=by rw[HW0.out,HG.out];exact T9 (by rw[HA.out];exact HR0.out) hi
 have hsz:(prog.info? 70).map (·.size)=some (hdV k n d id).length:=by rw[xy,hi];exact Z3
 have HI:=hid (UY k n d id w0);rw[HA.out] at HI ⊢;go_enter func120,ntmps120;go_wp2_with (refine wpList_load_mid rfl 70 (.tmp 1) rfl _ _ rfl (hdV k n d id) _ hrg underlying70 rfl hsz ?_)
 rw[HA.out,HW0.out];refine HI.out.mono ?_;rintro e w1 ⟨rfl,hb1⟩;have HR1:Hid (w1.heap[G]? = some (.cells A 70 (0,0))):=hid ((hb1.block _ (by rw[hs0.out];omega)).trans HR0.out);have HB1:Hid (Below G w w1):=hid (HB0.out.trans (hb1.mono (by rw[hs0.out];omega)));have e0:w1.cell? ⟨G,0,none⟩=some (.int .i64 k):=by rw[cell_of_row _ _ 0 _ _ _ HR1.out,<-HA.out];rfl
 have e1:w1.cell? ⟨G,1,none⟩=some (.int .i64 n):=by rw[cell_of_row _ _ 1 _ _ _ HR1.out,<-HA.out];rfl
 clear hrg hsz hb1;rw[HG.out];rcases hf with ⟨hk,hn⟩ | ⟨h1,h4,hn⟩
 ·have hnI:(n:Int)<=200000:=by omega
  rw[decide_eq_true hk];go_wp2_with fail
  go_ret;exact⟨by simp,by rw[HG.out];exact HB1.out⟩
 have hnI:(n:Int)<=100000:=by omega
 have h1I:(1:Int)<=k:=by omega
 have h4I:(k:Int)<=4:=by omega
 rw[decide_eq_false (by omega)];go_wp2_with fail
 go_ret;exact⟨by simp,by rw[HG.out];exact HB1.out⟩
end Go.Proofs.YtiaaekdpfpaigaaGreatDoor.Pk
namespace Go.Proofs.YtiaaekdpfpaigaaGreatDoor.Px
open Go.Proofs.Tryz
open Go.RowKit Go.Shelf Go.Proofs.YtiaaekdpfpaigaaGreatDoor.Id
theorem lt_of_some {w:World} {g:Nat} {o:Obj} (h:w.heap[g]? = some o):g<w.heap.size:=(Array.getElem?_eq_some_iff.1 h).1
theorem xW {w0 w:World} {B:Nat} {v:Value} {out:List Int} (h:Bd w0 w B v out):∃ a cap,v=.slice a out.length cap/\Sl w a cap out:=by
 by_cases h0:0<out.length
 ·obtain⟨g,cap,rfl,h1,h2,h3,h4⟩:=LZ h h0;exact⟨_,cap,rfl,⟨h4,fun _=>⟨g,0,rfl,h2,h3⟩,fun h=>by cases h⟩⟩
 have hz:out.length=0:=by omega
 obtain⟨_,⟨rfl,_⟩ | ⟨g,cap,cur,rfl,_,hh,hnc,_⟩⟩:=h.own
 ·exact⟨none,0,by rw[hz],⟨by omega,fun h=>absurd h h0,fun _=>rfl⟩⟩
 exact⟨some ⟨g,0,none⟩,cap,rfl,⟨hnc,fun h=>absurd h h0,fun h=>by cases h⟩⟩
theorem Z4 {w w0:World} {ops:Array Oper} {rest:List Oper} {o:Oper} {a:Act} {Q:Exit->Act->World->Prop} (hgd:o.guard=none) (s x:Operand) (ho:o.op=.call { callee:=.builtin .append,args:=#[s,x],argTypes:=#[22,22] }) (B:Nat) (v:Value) (out:List Int) (hs:a.eval s=v) (h:Bd w0 w B v out)
    (ax:Option Addr) (cx:Nat) (l:List Int) (hx:a.eval x=.slice ax l.length cx) (hS:Sl w ax cx l) (hl:out.length+l.length<=1000000)
    (hK:∀ v' w',Bd w0 w' B v' (out++l)->w.grownBy w' v.ownBlock->wpList prog ops Q rest (a.put o.dst v') w'):wpList prog ops Q (o :: rest) a w:=by
  obtain⟨i5,hi,hz0,hz1,hz2⟩:=info_parts info5
  cases ax with
  | none =>
    have hc:cx=0:=hS.nil rfl
    have hcl:=hS.capl
    obtain rfl:l=[]:=List.length_eq_zero_iff.1 (by omega)
    subst hc
    refine wpList_plain hgd fun K hK'=>?_
    have hr:=run_append_owned_none (P:=prog) w B 22 o.type 5 i5 1 underlying22 hi v _ _ h.own
    unfold Oper.wp execOp
    simp only[List.length_nil] at hx
    simp only[ho,resolve,invoke,builtin,Sem.run_bind,Sem.run_pure,Result.andThen_ok,Wxy,Wxj,Wxk,hs,hx,hr]
    exact hK' _ _ (hK v w (by simpa using h) ⟨rfl,rfl,rfl,WzV _,fun _ _ _=>rfl⟩)
  | some ad =>
    refine wpList_append_own_at w hgd s x 22 ho B 5 i5 (.int .u8 0) 1 1 underlying22 hi hz0 hz1 hz2 rfl (by decide) v _ _ hs h.own ad l.length cx (l.map (Value.int .u8)) hx (by simp) ?_ (ints_oneCell .u8 l) (by unfold maxLen;omega) (by omega) h.le ?_
    · intro j z hj
      rw[List.getElem?_map] at hj
      cases hc:l[j]? with
      | none=>rw[hc] at hj;cases hj
      | some y =>
        rw[hc] at hj;cases hj
        have hlt:=(List.getElem?_eq_some_iff.1 hc).1
        obtain⟨b,off,e1,e2,e3⟩:=hS.at_ (by omega)
        cases e1
        have:=e3 j hlt
        rw[addr_add]
        simpa [List.getD_eq_getElem?_getD,hc] using this
    · intro v' w' h1 h2 h3 h4
      refine hK v' w' ⟨h.below.grown h2 h.le (fun k hk=>(zJ h.own k hk).1),?_,Nat.le_trans h.le h2.size⟩ h2
      rw[Wz6,List.map_append]
      exact h1
def n4 (n:Nat):List Int:=[((n / 16777216 % 256:Nat):Int),((n / 65536 % 256:Nat):Int),((n / 256 % 256:Nat):Int),((n % 256:Nat):Int)]
theorem zv1 (n:Nat):(n4 n).length=4:=rfl
theorem qx5 (n:Nat):IsB (n4 n):=by
 intro x hx;simp only[n4,WxJ,List.not_mem_nil,or_false] at hx;rcases hx with rfl | rfl | rfl | rfl <;> omega
theorem zkY (w:World) (a b c d:Int):Sl (w.alloc (.cells #[.int .u8 a,.int .u8 b,.int .u8 c,.int .u8 d] 5)) (some ⟨w.heap.size,0,none⟩) 4 [a,b,c,d] :=
 ⟨by simp,fun _=>⟨w.heap.size,0,rfl,by simp,fun i hi=>by
  have h4:i<4:=hi
  match i,h4 with
  | 0,_=>simp
  | 1,_=>simp
  | 2,_=>simp
  | 3,_=>simp⟩,fun h=>by cases h⟩
def PoA (w0 w:World) (B:Nat) (v:Value) (out:List Int) (e:Ending) (w':World):Prop := ∃ v',e=.returned v'/\Bd w0 w' B v' out/\w.grownBy w' v.ownBlock
theorem zv2 (n:Nat) (hn:n<4294967296):n4 n=[(n:Int) / 16777216,(n:Int) / 65536 % 256,(n:Int) / 256 % 256,(n:Int) % 256]:=by
 unfold n4;congr 1;omega
theorem id_sl {w:World} {g:Nat} {x:List Int} {t:TypeId} (h:w.heap[g]? = some (.cells (row .u8 x).toArray t (0,0))) (hl:x.length=20):Sl w (some ⟨g,0,none⟩) 20 x :=
 ⟨by omega,fun _=>⟨g,0,rfl,lt_of_some h,fun i hi=>by
  rw[Wq7]
  exact zy h i hi⟩,fun e=>by cases e⟩
theorem Dv (w0 w:World) (B:Nat) (v:Value) (out:List Int) (hz:IsB out) (hl:out.length<=250000) (hb:Bd w0 w B v out) :
  Calls prog 20 #[v] w fun e w'=>∃ v',e=.returned v'/\Bd w0 w' B v' (out++sha out):=by
 obtain⟨a,cap,rfl,hS⟩:=xW hb;obtain⟨n,HN⟩:=nm_ out.length;obtain⟨zr,HZ⟩:=nn_ ((row .u8 z20).toArray);have hz24:∀ w:World,(zeroValue 68).run prog w=.ok (.agg zr) w:=fun w=>by rw[HZ.out];exact XK w
 obtain⟨fr,HF⟩:=nm_ (sha out);have HF20:Hid (fr.length=20):=hid (by rw[<-HF.out];exact kV _);obtain⟨R,HR⟩:=nm_ (row .u8 fr);have C28:Hid (Calls prog 40 #[.slice a n cap] w fun e w'=>e=.returned (.agg R.toArray)/\Below w.heap.size w w'):=hid (by
  have:=sum6 a cap out w (by omega) hz (fun h0=>by
   obtain⟨b,off,e1,e2,e3⟩:=hS.at_ h0;exact⟨b,off,e1,e2,e3,hS.capl⟩)
  rw[HN.out,HF.out,HR.out] at this;exact this)
 have HB:Hid (Bd w0 w B (.slice a n cap) out):=hid (by rw[<-HN.out];exact hb);have HRL:Hid (R.length=20):=hid (by rw[<-HR.out,zu];exact HF20.out);have I24:Hid ((prog.info? 68).map (·.size)=some R.toArray.size):=hid (by rw[WqW,HRL.out];exact size68)
 have E24:Hid (zr.size=R.toArray.size):=hid (by rw[HZ.out,WqW,WqW,HRL.out];rfl);have O24:Hid (R.toArray.all (·.oneCell')=true):=hid (by rw[<-HR.out];exact all_oneCell_toArray (row_one _ _));have hl2:out.length+fr.length<=1000000:=by rw[HF20.out];omega
 rw[HN.out,HF.out];clear hb hS hz;go_enter func20,ntmps20;go_wp2_with fail
 refine C28.out.mono ?_;rintro ev w1 ⟨rfl,hb1⟩;have HB1:Hid (Bd w0 w1 B (.slice a n cap) out):=HB.out.carry hb1;clear hb1;have D0:Hid ((w1.alloc (.cells zr 68)).heap[w1.heap.size]? = some (.cells zr 68 (0,0))):=heap_alloc_new w1 _;obtain⟨w3,HW3⟩:=nm_ ((w1.alloc (.cells zr 68)).setRow w1.heap.size R.toArray);obtain⟨K,HK⟩:=nm_ w1.heap.size
 have hb3:Below w1.heap.size w1 w3:=by rw[<-HW3.out];exact below_setRow ((Below.refl _ w1).alloc (WzV _) _) (WzV _) _
 have B3:Hid (w3.heap[K]? = some (.cells R.toArray 68 (0,0))):=hid (by rw[<-HW3.out,<-HK.out];exact setRow_heap _ _ _ R.toArray _ _ D0.out);have HB3:Hid (Bd w0 w3 B (.slice a n cap) out):=HB1.out.carry hb3;have HS3:Hid (Sl w3 (some ⟨K,0,none⟩) 20 fr):=hid (id_sl (t:=68) (by rw[HR.out];exact B3.out) HF20.out);clear hb3;go_wp2_with (first
  | (refine wpList_store_row rfl 68 _ _ rfl w1.heap.size R.toArray rfl rfl 68 zr D0.out I24.out E24.out O24.out ?_;rw[HW3.out,HK.out])
  | (at_builtin;refine Z4 rfl _ _ rfl B _ out rfl HB3.out (some ⟨K,0,none⟩) 20 fr (by rw[HF20.out];rfl) HS3.out hl2 ?_;intro v2 w2 hb2 hg2;have HB2:Hid (Bd w0 w2 B v2 (out++fr)):=hb2;clear hb2 hg2)
  | fail)
 go_ret;exact⟨_,rfl,HB2.out⟩
def rd4 (B:List Int) (k:Nat):Int:=D7 (B.getD k 0) (B.getD (k+1) 0) (B.getD (k+2) 0) (B.getD (k+3) 0)
def Dw (B:List Int) (k:Nat):List Int:=(B.drop k).take 20
theorem Dy (B:List Int) (k:Nat) (h:k+20<=B.length):(Dw B k).length=20:=by unfold Dw;rw[List.length_take,Wz8];omega
theorem qz0 (B:List Int) (k q:Nat) (hq:q<20):(Dw B k).getD q 0=B.getD (k+q) 0:=by
 unfold Dw;rw[List.getD_eq_getElem?_getD,List.getElem?_take,if_pos hq,List.getElem?_drop,List.getD_eq_getElem?_getD]
theorem wpList_copy_run {P:Program} {w:World} {ops:Array Oper} {rest:List Oper} {o:Oper} {a:Act} {Q:Exit->Act->World->Prop} (hgd:o.guard=none) (s x:Operand) (t u:TypeId)
  (ho:o.op=.call { callee:=.builtin .copy,args:=#[s,x],argTypes:=#[t,u] }) (sv xv v:Value) (w2:World) (hs:a.eval s=sv) (hx:a.eval x=xv) (hrun:(Builtin.copy_ #[t,u] o.type #[sv,xv]).run P w=.ok v w2) (h:wpList P ops Q rest (a.put o.dst v) w2) :
  wpList P ops Q (o :: rest) a w:=by
 refine wpList_plain hgd fun K hK=>?_;unfold Oper.wp execOp;simp only[ho,resolve,invoke,builtin,Sem.run_bind,Sem.run_pure,Result.andThen_ok,Wxy,Wxj,Wxk,hs,hx,hrun];exact hK _ _ h
theorem Hj (b off k L cap:Nat) (B:List Int) (w:World) (hz:IsB B) (hk:k+4<=B.length) (hL:L=B.length-k) (hat:At w b off B) :
  Calls prog 68 #[.slice (some ⟨b,off+k,none⟩) L cap] w fun e w'=>e=.returned (.int .u32 (rd4 B k))/\∃ n,w'=w.drewN n:=by
 obtain⟨x0,H0⟩:=nn_ (B.getD k 0);obtain⟨x1,H1⟩:=nn_ (B.getD (k+1) 0);obtain⟨x2,H2⟩:=nn_ (B.getD (k+2) 0);obtain⟨x3,H3⟩:=nn_ (B.getD (k+3) 0);obtain⟨o,HO⟩:=nn_ (off+k);have c0:w.cell? ⟨b,o,none⟩=some (.int .u8 x0):=by rw[H0.out,HO.out];exact hat _ (by omega)
 have c1:w.cell? ⟨b,o+1,none⟩=some (.int .u8 x1):=by rw[H1.out,HO.out];exact hat (k+1) (by omega)
 have c2:w.cell? ⟨b,o+2,none⟩=some (.int .u8 x2):=by rw[H2.out,HO.out];exact hat (k+2) (by omega)
 have c3:w.cell? ⟨b,o+3,none⟩=some (.int .u8 x3):=by rw[H3.out,HO.out];exact hat (k+3) (by omega)
 have b0:0<=x0/\x0<256:=by rw[H0.out];exact hz.at _
 have b1:0<=x1/\x1<256:=by rw[H1.out];exact hz.at _
 have b2:0<=x2/\x2<256:=by rw[H2.out];exact hz.at _
 have b3:0<=x3/\x3<256:=by rw[H3.out];exact hz.at _
 unfold rd4;rw[<-H0.out,<-H1.out,<-H2.out,<-H3.out,<-HO.out];have hL4:4<=L:=by omega
 clear hat hL hk;go_enter func68,ntmps68;go_wp2;go_quiet (fail);go_wp2;go_ret;rw[<-FX x0 x1 x2 x3 b0 b1 b2 b3];exact⟨rfl,_,rfl⟩
theorem Av (b off k L cap:Nat) (B:List Int) (w:World) (hz:IsB B) (hk:k+20<=B.length) (hL:L=B.length-k) (hbw:b<w.heap.size) (hat:At w b off B) :
    Calls prog 69 #[.slice (some ⟨b,off+k,none⟩) L cap] w fun e w'=>e=.returned (.agg (row .u8 (Dw B k)).toArray)/\Below w.heap.size w w':=by
  obtain⟨g,HG⟩:=nm_ w.heap.size
  obtain⟨X,HX⟩:=nm_ (row .u8 (Dw B k))
  have hXl:X.length=20:=by rw[<-HX.out,zu];exact Dy B k hk
  obtain⟨o,HO⟩:=nm_ (off+k)
  have hcp:(Builtin.copy_ #[22,22] 3 #[.slice (some ⟨w.heap.size,0,none⟩) 20 20,.slice (some ⟨b,o,none⟩) L cap]).run prog (w.alloc (.cells (row .u8 z20).toArray 68))=.ok (.int .i64 20) (w.alloc (.cells X.toArray 68)):=by
    have hb1:Below w.heap.size w (w.alloc (.cells (row .u8 z20).toArray 68)):=(Below.refl _ w).alloc (WzV _) _
    have h:=run_copy_row (P:=prog) (w.alloc (.cells (row .u8 z20).toArray 68)) 22 22 3 5 w.heap.size 0 20 20 ⟨b,o,none⟩ L cap (row .u8 z20).toArray 68 X underlying22 size5 (heap_alloc_new w _) (by rw[hXl];show 20=min L 20;omega) (fun j v hj=>by
        have hj20:j<20:=by rw[<-hXl];exact(List.getElem?_eq_some_iff.1 hj).1
        rw[<-HX.out] at hj
        rw[vz _ _ _ (by rw[Dy B k hk];exact hj20)] at hj
        cases hj
        rw[addr_add]
        refine(hb1.cell (p:=⟨b,o+j,none⟩) hbw).trans ?_
        rw[qz0 B k j hj20,<-HO.out,WzQ]
        exact hat (k+j) (by omega)) (by rw[hXl];decide) (by rw[<-HX.out];exact row_one _ _)
    rw[h,hXl]
    congr 1
    have hz:(row IntKind.u8 z20).length=20:=rfl
    have he:(List.take 0 (row IntKind.u8 z20).toArray.toList++X++WxZ (0+20) (row IntKind.u8 z20).toArray.toList)=X:=by
      simp[WxX,hz]
    rw[he]
    unfold World.setRow World.alloc
    congr 1
    apply Array.ext
    · simp
    · intro i h1 h2
      simp only[Array.getElem_modify,Array.getElem_push]
      by_cases hh:w.heap.size=i
      · subst hh
        simp
      · rw[if_neg hh]
        simp at h1
        have hlt:i<w.heap.size:=by omega
        simp[hlt]
  have hcp2:(Builtin.copy_ #[22,22] 3 #[.slice (some ⟨w.heap.size,0,none⟩) 20 20,.slice (some ⟨b,o,none⟩) L cap]).run prog (w.alloc (.cells #[.int .u8 0,.int .u8 0,.int .u8 0,.int .u8 0,.int .u8 0,.int .u8 0,.int .u8 0,.int .u8 0,.int .u8 0,.int .u8 0,.int .u8 0,.int .u8 0,.int .u8 0,.int .u8 0,.int .u8 0,.int .u8 0,.int .u8 0,.int .u8 0,.int .u8 0,.int .u8 0] 68))=.ok (.int .i64 20) (w.alloc (.cells X.toArray 68)):=hcp
  have HBL:Hid (Below g w (w.alloc (.cells X.toArray 68))):=hid (by rw[<-HG.out];exact(Below.refl _ w).alloc (WzV _) _)
  obtain⟨w2,HW2⟩:=nm_ (w.alloc (.cells X.toArray 68))
  have B2:Hid (w2.heap[g]? = some (.cells X.toArray 68 (0,0))):=hid (by rw[<-HW2.out,<-HG.out];exact heap_alloc_new w _)
  have hi24:(prog.info? 68).map (·.size)=some X.length:=by rw[hXl];exact size68
  have RG:Hid (w2.rangeAt g 0 X):=hid (fun j v hj=>by
    rw[Wq7,cell_of_row _ g j _ 68 _ B2.out]
    simpa using hj)
  have I24:Hid ((prog.info? 68).map (·.size)=some X.toArray.size):=hid (by simpa using hi24)
  have O24:Hid (X.toArray.all (·.oneCell')=true):=hid (by rw[<-HX.out];exact all_oneCell_toArray (row_one _ _))
  have HSF:Hid (w2.setRow g X.toArray=w2):=hid (setRow_self w2 g _ 68 _ B2.out)
  rw[HW2.out] at hcp2 HBL
  rw[HG.out] at hcp2
  rw[HX.out,HO.out,HG.out]
  clear hcp hat hL hk
  go_enter func69,ntmps69
  have hge:=HG.out
  go_wp2_with (first
    | (at_builtin;rw[hge];refine wpList_copy_run rfl _ _ 22 22 rfl _ _ _ w2 rfl rfl hcp2 ?_)
    | refine wpList_load_mid rfl 68 _ rfl g 0 rfl X _ RG.out underlying68 rfl hi24 ?_
    | (refine wpList_store_row rfl 68 _ _ rfl g X.toArray rfl rfl 68 X.toArray B2.out I24.out rfl O24.out ?_;rw[HSF.out])
    | fail)
  exact bodyPost_ret (v:=.agg X.toArray) (y6 Tryz.results69 _ _ g X _ rfl RG.out underlying68 rfl hi24) rfl ⟨rfl,HBL.out⟩
end Go.Proofs.YtiaaekdpfpaigaaGreatDoor.Px
namespace Go.Proofs.YtiaaekdpfpaigaaGreatDoor.Pk
open Go.Proofs.Tryz
open Go.RowKit Go.Maps Go.Proofs.YtiaaekdpfpaigaaGreatDoor.Id Go.Proofs.YtiaaekdpfpaigaaGreatDoor.Px
theorem LX (w:World):(zeroValue 70).run prog w=.ok (.agg (hdV 0 0 0 z20).toArray) w:=by kernel_rfl
theorem results107:f107.results=#[.cell 2 70,.tmp 3,.tmp 4]:=by kernel_rfl
theorem Z5 {P:Program} {fn:Func} {p q r:Tmp} {ty:TypeId} (h:fn.results=#[.cell p ty,.tmp q,.tmp r]) (tmps:Array Value) (w:World) (g:Nat) (cs:List Value) (d:TypeDesc) (v u:Value)
  (hp:tmps.getD p undef=.pointer (some ⟨g,0,none⟩)) (hq:tmps.getD q undef=v) (hr:tmps.getD r undef=u) (hc:w.rangeAt g 0 cs) (hu:P.underlying ty=some d) (hd:d.isRow=true) (hi:(P.info? ty).map (·.size)=some cs.length) :
  (results fn tmps).run P w=.ok (.tuple #[.agg cs.toArray,v,u]) w:=by
 have hp':tmps[p]?.getD undef=.pointer (some ⟨g,0,none⟩):=by simpa using hp
 have hq':tmps[q]?.getD undef=v:=by simpa using hq
 have hr':tmps[r]?.getD undef=u:=by simpa using hr
 simp[results,h,hp',hq',hr',asAddr,run_loadVar_mid w g 0 ty cs d hc hu hd hi]
theorem XW {w:World} {g i:Nat} {A:Array Value} {t:TypeId} (v:Value) (h:w.heap[g]? = some (.cells A t (0,0))):(w.setCell ⟨g,i,none⟩ v).heap[g]? = some (.cells (A.setIfInBounds i v) t (0,0)):=by
 simpa using Dl.heap_set w g i v h
theorem qz1 (k n d:Nat) (id:List Int) (x:Nat):(hdV k n d id).toArray.setIfInBounds 0 (.int .i64 x)=(hdV x n d id).toArray:=by simp[hdV]
theorem I1 (k n d:Nat) (id:List Int) (x:Nat):(hdV k n d id).toArray.setIfInBounds 1 (.int .i64 x)=(hdV k x d id).toArray:=by simp[hdV]
theorem qz2 (k n d:Nat) (id:List Int) (x:Nat):(hdV k n d id).toArray.setIfInBounds 2 (.int .i64 x)=(hdV k n x id).toArray:=by simp[hdV]
theorem qz3 (w:World) (g b o L cap k n d:Nat) (X:List Int) (hg:w.heap[g]? = some (.cells (hdV k n d z20).toArray 70 (0,0))) (hX:X.length=20) (hL:20<=L) (hsrc:∀ j,j<20->w.cell? ⟨b,o+j,none⟩=some (.int .u8 (X.getD j 0))) :
    (Builtin.copy_ #[22,22] 3 #[.slice (some ⟨g,3,none⟩) 20 20,.slice (some ⟨b,o,none⟩) L cap]).run prog w=.ok (.int .i64 20) (w.setRow g (hdV k n d X).toArray):=by
  have hz:(row IntKind.u8 z20).length=20:=rfl
  have hXl:(row IntKind.u8 X).length=20:=by rw[zu,hX]
  have h:=run_copy_row (P:=prog) w 22 22 3 5 g 3 20 20 ⟨b,o,none⟩ L cap (hdV k n d z20).toArray 70 (row .u8 X) underlying22 size5 hg (by rw[hXl];show 20=min L 20;omega) (fun j v hj=>by
      have hj20:j<20:=by rw[<-hXl];exact(List.getElem?_eq_some_iff.1 hj).1
      rw[vz _ _ _ (by rw[hX];exact hj20)] at hj
      cases hj
      rw[addr_add]
      exact hsrc j hj20) (by rw[hXl,WqW,xy];decide) (row_one _ _)
  rw[h,hXl]
  have e:List.take 3 (hdV k n d z20).toArray.toList++row .u8 X++WxZ (3+20) (hdV k n d z20).toArray.toList=hdV k n d X:=by
    have:WxZ 23 (hdV k n d z20)=[]:=WxX (by rw[xy];decide)
    simp only[Nat.reduceAdd]
    rw[this]
    simp[hdV]
  rw[e]
  rfl
def Du (w:World) (b k n d:Nat) (id rest:List Int) (ev:Ending) (w':World):Prop :=
 ∃ a cap,ev=.returned (.tuple #[.agg (hdV k n d id).toArray,.slice a rest.length cap,.nilIface])/\Below w.heap.size w w'/\Sl w' a cap rest/\∀ p:Addr,a=some p->p.block=b
theorem qqQ {w:World} {a:Option Addr} {c:Nat} {l:List Int} (h:Dl.Sl w a c l):Sl w a c l:=⟨h.capl,h.at_,h.nil⟩
theorem _root_.Go.Proofs.YtiaaekdpfpaigaaGreatDoor.Id.Sl.same {w w':World} {a:Option Addr} {c:Nat} {l:List Int} (h:Sl w a c l) (hb:∀ p:Addr,a=some p->w'.heap[p.block]? = w.heap[p.block]?):Sl w' a c l :=
 ⟨h.capl,fun h0=>by
  obtain⟨b,o,e1,e2,e3⟩:=h.at_ h0
  have hb':=hb _ e1
  refine⟨b,o,e1,?_,fun i hi=>(World.cell?_of_block (a:=⟨b,o+i,none⟩) hb').trans (e3 i hi)⟩
  obtain⟨x,hx⟩:∃ x,w.heap[b]? = some x:=⟨_,Array.getElem?_eq_getElem e2⟩
  exact Px.lt_of_some (hb'.trans hx),h.nil⟩
theorem LJ {w:World} {g:Nat} {k n d:Nat} {id:List Int} (h:w.heap[g]? = some (.cells (hdV k n d id).toArray 70 (0,0))) :
  w.cell? ⟨g,0,none⟩=some (.int .i64 k)/\w.cell? ⟨g,1,none⟩=some (.int .i64 n)/\w.cell? ⟨g,2,none⟩=some (.int .i64 d) :=
 ⟨by rw[cell_of_row _ _ 0 _ _ _ h];rfl,by rw[cell_of_row _ _ 1 _ _ _ h];rfl,by rw[cell_of_row _ _ 2 _ _ _ h];rfl⟩
theorem Hk {w:World} {g:Nat} {A:Array Value} (h:w.heap[g]? = some (.cells A 70 (0,0))) (i:Nat):w.frozen? ⟨g,i,none⟩=false:=frozen_of_row _ _ i _ 70 h
theorem ju (k n d:Nat) (id X rest:List Int) (b off cap:Nat) (bs:List Int) (w:World) (hR:rkd bs=some (k,n,X)) (hz:Dl.IsB bs) (hzX:Dl.IsB X) (hlX:X.length<=400000) (hl:bs.length<=400000) (hat:Dl.At w b off bs) (hb:b<w.heap.size) (hcap:bs.length<=cap)
  (hk:(k=6/\n<=200000/\rd 4 0 X=some (d,rest)/\id=z20) ∨ (k=7/\n<=200000/\d=0/\X=id++rest/\id.length=20) ∨ (1<=k/\k<=4/\n<=100000/\d=0/\id=z20/\X=rest)) :
  Calls prog 107 #[.slice (some ⟨b,off,none⟩) bs.length cap] w (Du w b k n d id rest):=by
 obtain⟨G,HG⟩:=nm_ w.heap.size;obtain⟨Z,HZ⟩:=nm_ ((hdV 0 0 0 z20).toArray);have hz70:∀ w:World,(zeroValue 70).run prog w=.ok (.agg Z) w:=fun w=>by rw[<-HZ.out];exact LX w
 obtain⟨w0,HW0⟩:=nm_ (w.alloc (.cells Z 70));have HR0:Hid (w0.heap[G]? = some (.cells (hdV 0 0 0 z20).toArray 70 (0,0))):=hid (by rw[<-HW0.out,<-HG.out,HZ.out];exact heap_alloc_new _ _);have hb0:Below w.heap.size w w0:=by rw[<-HW0.out];exact(Below.refl _ w).alloc (WzV _) _
 have hbG:b<G:=by rw[<-HG.out];exact hb
 have hs0:w0.heap.size=G+1:=by rw[<-HW0.out,<-HG.out];simp
 have C1:Hid (Calls prog 119 #[.slice (some ⟨b,off,none⟩) bs.length cap] w0 (zxY w0 b k n X)):=hid (LQ k n X b off cap bs w0 hR hz hl (fun i hi=>(hb0.cell (p:=⟨b,off+i,none⟩) hb).trans (hat i hi)) (by omega) hcap);have HB0:Hid (Below G w w0):=hid (by rw[<-HG.out];exact hb0);replace hs0:=hid hs0;obtain⟨L,HL⟩:=nm_ bs.length;rw[HL.out] at C1 ⊢;have HK:=hid hk
 have HbG:=hid hbG;clear hb0 hat hb hbG hR hz hk hcap hl;go_enter func107,ntmps107;go_wp2_with fail
 rw[HW0.out,HG.out];refine C1.out.mono ?_;rintro e w1 ⟨a,c,q,rfl,rfl,hS,hB⟩;have HS:=hid hS;have HBk:=hid hB;have HR1:Hid ((w0.drewN q).heap[G]? = some (.cells (hdV 0 0 0 z20).toArray 70 (0,0))):=HR0;obtain⟨u,HU⟩:=nm_ (w0.drewN q);rw[HU.out] at HR1 HS ⊢;have HB1:Hid (Below G w u):=hid (by rw[<-HU.out];exact⟨HB0.out.os,HB0.out.tape,HB0.out.output,HB0.out.size,HB0.out.block⟩)
 clear hS hB;obtain⟨c0,c1,c2⟩:=LJ HR1.out;have f0:=Hk HR1.out 0;have f1:=Hk HR1.out 1;obtain⟨u2,HU2⟩:=nm_ ((u.setCell ⟨G,0,none⟩ (.int .i64 k)).setCell ⟨G,1,none⟩ (.int .i64 n));have HR2:Hid (u2.heap[G]? = some (.cells (hdV k n 0 z20).toArray 70 (0,0))):=hid (by
  rw[<-HU2.out,<-I1 k 0 0 z20 n,<-qz1 0 0 0 z20 k];exact XW _ (XW _ HR1.out))
 have HB2:Hid (Below G w u2):=hid (by rw[<-HU2.out];exact(HB1.out.setCell (WzV _) _).setCell (WzV _) _);have HS2:Hid (Sl u2 a c X):=hid (by
  refine(qqQ HS.out).same (fun p hp=>?_);have hne:p.block ≠ G:=by have:=HBk.out p hp;have:=HbG.out;omega
  rw[<-HU2.out];exact(heap_setCell_other _ _ _ _ hne).trans (heap_setCell_other _ _ _ _ hne))
 obtain⟨R,HR⟩:=nm_ (hdV k n 0 z20);have hrg:((u.setCell ⟨G,0,none⟩ (.int .i64 k)).setCell ⟨G,1,none⟩ (.int .i64 n)).rangeAt G 0 R:=by rw[HU2.out,<-HR.out];exact T9 HR2.out rfl
 have hsz:(prog.info? 70).map (·.size)=some R.length:=by rw[<-HR.out,xy];exact Z3
 have CF:Hid (Calls prog 120 #[.agg R.toArray] u2 fun e w'=>e=.returned (.bool true)/\Below u2.heap.size u2 w'):=hid (by
  rw[<-HR.out];refine WQ k n 0 z20 u2 rfl ?_;rcases HK.out with ⟨h,h2,_⟩ | ⟨h,h2,_⟩ | ⟨h,h2,h3,_⟩
  ·exact .inl ⟨.inl h,h2⟩
  ·exact .inl ⟨.inr h,h2⟩
  exact .inr ⟨h,h2,h3⟩)
 go_wp2_with (first
  | (refine BigFrame.wpList_want (by rfl) (fun KK hKK=>?_);refine wp_load_mid 70 _ rfl G 0 rfl R _ hrg underlying70 rfl hsz ?_;refine hKK _ _ ?_;clear hKK KK;rw[HU2.out])
  | fail)
 refine CF.out.mono ?_;rintro e u3 ⟨rfl,hb3⟩;have HR3:Hid (u3.heap[G]? = some (.cells (hdV k n 0 z20).toArray 70 (0,0))):=hid ((hb3.block _ (Px.lt_of_some HR2.out)).trans HR2.out);have HB3:Hid (Below G w u3):=hid (HB2.out.trans (hb3.mono (Nat.le_of_lt (Px.lt_of_some HR2.out))));have HS3:Hid (Sl u3 a c X):=hid (HS2.out.below hb3);obtain⟨d0,d1,d2⟩:=LJ HR3.out
 have g2:=Hk HR3.out 2;clear hb3 hrg CF c0 c1 c2 f0 f1;rcases HK.out with ⟨rfl,hn,hrd,rfl⟩ | ⟨rfl,hn,rfl,hX,hid20⟩ | ⟨h1,h4,hn,rfl,rfl,rfl⟩
 ·have h0:0<X.length:=by
   cases X with
   | nil=>cases hrd
   | cons _ _=>simp
  obtain⟨b',o',e1,e2,e3⟩:=HS3.out.at_ h0;subst e1;have CD:Hid (Calls prog 121 #[.slice (some ⟨b',o',none⟩) X.length c] u3 (zv0 u3 b' d rest)):=hid (Uq d rest b' o' c X u3 hrd hzX hlX e3 e2 HS3.out.capl);obtain⟨xl,HXL⟩:=nm_ X.length;rw[HXL.out] at CD ⊢;clear e2 e3 hrd h0
  have HNE3:Hid (∀ (p:Addr),p.block=b'->p.block ≠ G):=hid (fun p hp=>by have h3:b'=b:=HBk.out _ rfl;have:=HbG.out;omega);go_wp2_with (go_at_call 121;refine CD.out.mono ?_;clear CD)
  rintro e u4 ⟨a4,c4,q4,rfl,rfl,hS4,hB4⟩;obtain⟨u5,HU5⟩:=nm_ (u3.drewN q4);rw[HU5.out] at hS4 ⊢;have HR5:Hid (u5.heap[G]? = some (.cells (hdV 6 n 0 z20).toArray 70 (0,0))):=hid (by rw[<-HU5.out];exact HR3.out);have HB5:Hid (Below G w u5):=hid (by rw[<-HU5.out];exact⟨HB3.out.os,HB3.out.tape,HB3.out.output,HB3.out.size,HB3.out.block⟩);obtain⟨k0,k1,k2⟩:=LJ HR5.out
  have h2:=Hk HR5.out 2;obtain⟨u6,HUU⟩:=nm_ (u5.setCell ⟨G,2,none⟩ (.int .i64 d));have HRU:Hid (u6.heap[G]? = some (.cells (hdV 6 n d z20).toArray 70 (0,0))):=hid (by rw[<-HUU.out,<-qz2 6 n 0 z20 d];exact XW _ HR5.out);have HBU:Hid (Below G w u6):=hid (by rw[<-HUU.out];exact HB5.out.setCell (WzV _) _)
  have HNE:Hid (∀ p:Addr,a4=some p->p.block ≠ G):=hid (fun p hp=>HNE3.out p (hB4 p hp));have HSU:Hid (Sl u6 a4 c4 rest):=hid (by
   refine(qqQ hS4).same (fun p hp=>?_);rw[<-HUU.out];exact heap_setCell_other _ _ _ _ (HNE.out p hp))
  have HPB:Hid (∀ p:Addr,a4=some p->p.block=b):=hid (fun p hp=>by have h3:b'=b:=HBk.out _ rfl;have:=hB4 p hp;omega);have HID:Hid (z20.length=20):=hid rfl;clear hS4 hB4 d0 d1 d2 g2;obtain⟨RF,HRF⟩:=nm_ (hdV 6 n d z20);have HRU':Hid (u6.heap[G]? = some (.cells RF.toArray 70 (0,0))):=hid (by rw[<-HRF.out];exact HRU.out)
  have HU9:Hid (u6.setRow G RF.toArray=u6):=hid (setRow_self _ _ _ _ _ HRU'.out);have hrf:(u5.setCell ⟨G,2,none⟩ (.int .i64 d)).rangeAt G 0 RF:=by first | exact zx HRU'.out | (rw[HUU.out];exact zx HRU'.out)
  have hr9:=zx HRU'.out;have hszf:(prog.info? 70).map (·.size)=some RF.length:=by rw[<-HRF.out,xy,HID.out];exact Z3
  have JF:Hid ((prog.info? 70).map (·.size)=some RF.toArray.size):=hid (by rw[WqW];exact hszf);have OF:Hid (RF.toArray.all (·.oneCell')=true):=hid (by rw[<-HRF.out];exact all_oneCell_toArray (fun v hv=>by unfold hdV at hv;simp only[WxJ] at hv;rcases hv with rfl | rfl | rfl | hv;rfl;rfl;rfl;exact row_one _ _ v hv))
  have HPO:Hid (Du w b 6 n d z20 rest (.returned (.tuple #[.agg RF.toArray,.slice a4 rest.length c4,.nilIface])) u6):=hid ⟨_,_,by rw[HRF.out],by rw[HG.out];exact HBU.out,HSU.out,HPB.out⟩;go_wp2_with (first
   | (refine wpList_load_mid rfl 70 _ rfl G 0 rfl RF _ hrf underlying70 rfl hszf ?_;rw[HUU.out])
   | (refine wpList_store_row rfl 70 _ _ rfl G RF.toArray rfl rfl 70 RF.toArray HRU'.out JF.out rfl OF.out ?_;rw[HU9.out])
   | fail)
  exact bodyPost_ret (Z5 results107 _ _ G RF _ _ _ rfl rfl rfl hr9 underlying70 rfl hszf) rfl HPO.out
 ·have hsl:=I0 G 3 u3;have h20:20<=X.length:=by rw[hX,Wz6];omega
  obtain⟨b',o',e1,e2,e3⟩:=HS3.out.at_ (by omega);subst e1;obtain⟨xl,HXL⟩:=nm_ X.length;have hcp:=qz3 u3 G b' o' xl c 7 n 0 id HR3.out hid20 (by rw[<-HXL.out];exact h20) (fun j hj=>by
   rw[e3 j (by omega),hX,List.getD_eq_getElem?_getD,List.getElem?_append_left (by omega),<-List.getD_eq_getElem?_getD])
  obtain⟨u6,HUU⟩:=nm_ (u3.setRow G (hdV 7 n 0 id).toArray);have HRU:Hid (u6.heap[G]? = some (.cells (hdV 7 n 0 id).toArray 70 (0,0))):=hid (by rw[<-HUU.out];exact setRow_heap _ _ _ _ _ _ HR3.out);have HBU:Hid (Below G w u6):=hid (by rw[<-HUU.out];exact below_setRow HB3.out (WzV _) _);obtain⟨ad,HAD⟩:=nm_ (if c=20 then some (⟨b',o',none⟩:Addr) else some ⟨b',o'+20,none⟩)
  have had:=HAD.out;have HNE:Hid (∀ p:Addr,ad=some p->p.block ≠ G):=hid (fun p hp=>by
   have h3:b'=b:=HBk.out _ rfl;have:=HbG.out;rw[<-HAD.out] at hp;split at hp <;> (cases hp;show b' ≠ G;omega))
  have hrl:rest.length=xl-20:=by rw[<-HXL.out,hX,Wz6];omega
  have HSU:Hid (Sl u6 ad (c-20) rest):=hid (by
   have hS0:Sl u3 ad (c-20) rest:=by
    have hc:=HS3.out.capl;have hx:=HXL.out;refine⟨by omega,fun h0=>?_,fun h=>?_⟩
    ·rw[<-HAD.out,if_neg (by omega)];refine⟨b',o'+20,rfl,e2,fun i hi=>?_⟩;rw[WzQ,e3 (20+i) (by omega),hX,List.getD_eq_getElem?_getD,List.getElem?_append_right (by omega),hid20,Nat.add_sub_cancel_left,<-List.getD_eq_getElem?_getD]
    rw[<-HAD.out] at h;split at h <;> cases h
   refine hS0.same (fun p hp=>?_);rw[<-HUU.out];exact setRow_other _ _ _ _ (HNE.out p hp))
  have HPB:Hid (∀ p:Addr,ad=some p->p.block=b):=hid (fun p hp=>by
   have h3:b'=b:=HBk.out _ rfl;rw[<-HAD.out] at hp;split at hp <;> (cases hp;exact h3))
  have HID:Hid (id.length=20):=hid hid20;have hcL:20<=c:=by have:=HS3.out.capl;omega
  have hcI:(20:Int)<=(c:Int):=by omega
  have hxlc:xl<=c:=by have:=HS3.out.capl;have:=HXL.out;omega
  have HRL:=hid hrl;have HXX:=hid h20;have hxI:(20:Int)<=(xl:Int):=by have:=HXL.out;omega
  rw[HXL.out];clear hrl e2 e3 hX h20;obtain⟨RF,HRF⟩:=nm_ (hdV 7 n 0 id);have HRU':Hid (u6.heap[G]? = some (.cells RF.toArray 70 (0,0))):=hid (by rw[<-HRF.out];exact HRU.out);have HU9:Hid (u6.setRow G RF.toArray=u6):=hid (setRow_self _ _ _ _ _ HRU'.out);have hrf:u6.rangeAt G 0 RF:=by first | exact zx HRU'.out | (rw[HUU.out];exact zx HRU'.out)
  have hr9:=zx HRU'.out;have hszf:(prog.info? 70).map (·.size)=some RF.length:=by rw[<-HRF.out,xy,HID.out];exact Z3
  have JF:Hid ((prog.info? 70).map (·.size)=some RF.toArray.size):=hid (by rw[WqW];exact hszf);have OF:Hid (RF.toArray.all (·.oneCell')=true):=hid (by rw[<-HRF.out];exact all_oneCell_toArray (fun v hv=>by unfold hdV at hv;simp only[WxJ] at hv;rcases hv with rfl | rfl | rfl | hv;rfl;rfl;rfl;exact row_one _ _ v hv))
  have HPO:Hid (Du w b 7 n 0 id rest (.returned (.tuple #[.agg RF.toArray,.slice ad rest.length (c-20),.nilIface])) u6):=hid ⟨_,_,by rw[HRF.out],by rw[HG.out];exact HBU.out,HSU.out,HPB.out⟩;rw[HRL.out] at HPO;rw[HUU.out] at hcp;go_wp2_with (first
   | (refine wpList_load_mid rfl 70 _ rfl G 0 rfl RF _ hrf underlying70 rfl hszf ?_)
   | (refine wpList_store_row rfl 70 _ _ rfl G RF.toArray rfl rfl 70 RF.toArray HRU'.out JF.out rfl OF.out ?_;rw[HU9.out])
   | (at_builtin;rw[hcp])
   | fail)
  exact bodyPost_ret (Z5 results107 _ _ G RF _ _ _ rfl rfl rfl hr9 underlying70 rfl hszf) rfl HPO.out
 have k6:¬ (k:Int)=6:=by omega
 have k7:¬ (k:Int)=7:=by omega
 have b6:((k:Int) == 6)=false:=by simpa using k6
 have b7:((k:Int) == 7)=false:=by simpa using k7
 have HRU:=HR3;have HBU:=HB3;have HNE:Hid (∀ p:Addr,a=some p->p.block ≠ G):=hid (fun p hp=>by have h3:p.block=b:=HBk.out _ hp;have:=HbG.out;omega);have HSU:=HS3;have HPB:=HBk;have HID:Hid (z20.length=20):=hid rfl;obtain⟨xl,HXL⟩:=nm_ X.length;obtain⟨RF,HRF⟩:=nm_ (hdV k n 0 z20);have HRU':Hid (u3.heap[G]? = some (.cells RF.toArray 70 (0,0))):=hid (by rw[<-HRF.out];exact HRU.out)
 have HU9:Hid (u3.setRow G RF.toArray=u3):=hid (setRow_self _ _ _ _ _ HRU'.out);have hrf:u3.rangeAt G 0 RF:=by first | exact zx HRU'.out | (rw[HUU.out];exact zx HRU'.out)
 have hr9:=zx HRU'.out;have hszf:(prog.info? 70).map (·.size)=some RF.length:=by rw[<-HRF.out,xy,HID.out];exact Z3
 have JF:Hid ((prog.info? 70).map (·.size)=some RF.toArray.size):=hid (by rw[WqW];exact hszf);have OF:Hid (RF.toArray.all (·.oneCell')=true):=hid (by rw[<-HRF.out];exact all_oneCell_toArray (fun v hv=>by unfold hdV at hv;simp only[WxJ] at hv;rcases hv with rfl | rfl | rfl | hv;rfl;rfl;rfl;exact row_one _ _ v hv))
 have HPO:Hid (Du w b k n 0 z20 X (.returned (.tuple #[.agg RF.toArray,.slice a X.length c,.nilIface])) u3):=hid ⟨_,_,by rw[HRF.out],by rw[HG.out];exact HBU.out,HSU.out,HPB.out⟩;rw[HXL.out] at HPO;rw[HXL.out];go_wp2_with (first
  | (refine wpList_load_mid rfl 70 _ rfl G 0 rfl RF _ hrf underlying70 rfl hszf ?_)
  | (refine wpList_store_row rfl 70 _ _ rfl G RF.toArray rfl rfl 70 RF.toArray HRU'.out JF.out rfl OF.out ?_;rw[HU9.out])
  | fail)
 exact bodyPost_ret (Z5 results107 _ _ G RF _ _ _ rfl rfl rfl hr9 underlying70 rfl hszf) rfl HPO.out
end Go.Proofs.YtiaaekdpfpaigaaGreatDoor.Pk
