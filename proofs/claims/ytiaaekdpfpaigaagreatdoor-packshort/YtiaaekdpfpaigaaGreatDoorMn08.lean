import Derived.Test.YtiaaekdpfpaigaaGreatDoorMn07
import Derived.Test.YtiaaekdpfpaigaaGreatDoorMn01
set_option linter.unusedSimpArgs false
set_option linter.unusedVariables false
set_option maxRecDepth 20000
set_option maxHeartbeats 4000000
open Int renaming toNat_natCast->Wz0
open List renaming cons_append->Wz3,drop_append->Wy6,drop_of_length_le->Wy7,length_append->Wz6,length_cons->Wz7,length_take->Wzz,mem_of_mem_drop->Wzq,nil_append->Wzx,range->WqK,take_add_one->Wy8
open Nat renaming add_assoc->WzQ,add_mul_div_left->Wy9,add_mul_mod_self_left->Wyz,add_zero->WzX,div_div_eq_div_mul->WzJ,div_eq_of_lt->Wyq,div_lt_iff_lt_mul->WzK,le_refl->WzV,lt_of_lt_of_le->Wqj,min_eq_left->WzY,mod_lt->Wyx,mod_mul->Wyj,mul_assoc->Wyk,mul_comm->Wyv,mul_le_mul->Wyw,pow_add->Wq1,pow_le_pow_right->Wqk,pow_succ->Wqv,two_pow_pos->Wqw,zero_add->Wq7
open Option renaming some->Wq9
namespace Go.Proofs.YtiaaekdpfpaigaaGreatDoor.Df.Plain
open Go.Proofs.Tryz
def toB (N:Nat):Nat->List Int
 | 0=>[]
 | m+1=>((N % 256:Nat):Int) :: toB (N / 256) m
theorem yx:∀ (m N:Nat),(toB N m).length=m
 | 0,_=>rfl
 | m+1,N=>by rw[toB,Wz7,yx m]
theorem Mz:∀ (m N:Nat),∀ x ∈ toB N m,0<=x/\x<=255
 | 0,_,x,h=>by simp[toB] at h
 | m+1,N,x,h=>by
  rw[toB] at h;rcases List.mem_cons.1 h with rfl | h
  ·omega
  exact Mz m _ x h
theorem F9:∀ (m N:Nat),leN (toB N m)=N % 256 ^ m
 | 0,N=>by simp[toB,leN,Nat.mod_one]
 | m+1,N=>by
  rw[toB,leN,F9 m,Wqv,Wyv (256 ^ m) 256,Wyj,Wz0]
theorem R6:∀ (a b:List Int),leN (a++b)=leN a+256 ^ a.length*leN b
 | [],b=>by simp[leN]
 | x :: a,b=>by
  rw[Wz3,leN,leN,R6 a b,Wz7,Wqv,Nat.mul_add,<-Wyk,Wyv 256 (256 ^ a.length)];omega
theorem zqX:∀ (a:List Int),(∀ x ∈ a,0<=x/\x<=255)->leN a<256 ^ a.length
 | [],_=>by simp[leN]
 | x :: a,h=>by
  have hx:=h x (by simp);have ih:=zqX a (fun y hy=>h y (by simp[hy]));rw[leN,Wz7,Wqv];omega
theorem Mq:∀ (m N:Nat),toB N (m+1)=toB N m++[((N / 256 ^ m % 256:Nat):Int)]
 | 0,N=>by simp[toB]
 | m+1,N=>by
  rw[toB,Mq m,toB,Wz3,WzJ,Wqv,Wyv 256 (256 ^ m)]
theorem zjz (m:Nat):∀ (N K:Nat),N % 256 ^ m=K % 256 ^ m->toB N m=toB K m:=by
 induction m with
 | zero=>intro N K _;rfl
 | succ m ih =>
  intro N K h;rw[Wqv,Wyv (256 ^ m) 256,Wyj,Wyj] at h;have h1:N % 256=K % 256:=by
   have a1:=Wyx N (show 0<256 by omega);have a2:=Wyx K (show 0<256 by omega);omega
  have h2:N / 256 % 256 ^ m=K / 256 % 256 ^ m:=by omega
  rw[toB,toB,h1,ih _ _ h2]
theorem p256 (m:Nat):(256:Nat) ^ m=2 ^ (8*m):=by rw[show (256:Nat)=2 ^ 8 from rfl,<-Nat.pow_mul]
theorem Mj (pre post:List Int) (N m j n:Nat) (hp:∀ x ∈ pre,0<=x/\x<=255) (hj:j+n<=8*m):zZ (pre++(toB N m++post)) (8*pre.length+j) n=N / 2 ^ j % 2 ^ n:=by
 have h1:=zqX pre hp;unfold zZ;rw[R6,R6,F9,yx,Wq1 2 (8*pre.length) j,<-WzJ,<-p256,Wy9 _ _ (Nat.pow_pos (by omega)),Wyq h1,Wq7];obtain⟨r,hr⟩:∃ r,8*m=(j+n)+r:=⟨8*m-(j+n),by omega⟩;rw[p256,hr,Wq1,Wq1];generalize leN post=L
 have e:(N % (2 ^ j*2 ^ n*2 ^ r)+2 ^ j*2 ^ n*2 ^ r*L) / 2 ^ j=N / 2 ^ j % (2 ^ n*2 ^ r)+2 ^ n*(2 ^ r*L):=by
  rw[show 2 ^ j*2 ^ n*2 ^ r*L=2 ^ j*(2 ^ n*(2 ^ r*L)) by simp only[Wyk],Wy9 _ _ (Wqw j),Wyk (2 ^ j),Wyj,Wy9 _ _ (Wqw j),Wyq (Wyx _ (Wqw j)),Wq7]
 rw[e,Wyz,Nat.mod_mul_right_mod]
structure Bs where
 n:Nat
 k:Nat
def Bs.num (b:Bs) (x size:Nat):Bs:=⟨b.n+x*2 ^ b.k,b.k+size⟩
theorem Bs.num_lt {b:Bs} (h:b.n<2 ^ b.k) {x size:Nat} (hx:x<2 ^ size):(b.num x size).n<2 ^ (b.num x size).k:=by
 show b.n+x*2 ^ b.k<2 ^ (b.k+size);rw[Wq1,Wyv (2 ^ b.k)];have:(x+1)*2 ^ b.k<=2 ^ size*2 ^ b.k:=Wyw hx (WzV _);rw[Nat.add_mul] at this;omega
theorem Bs.num_last {b:Bs} (h:b.n<2 ^ b.k) {x size:Nat} (hx:x<2 ^ size):(b.num x size).n / 2 ^ b.k % 2 ^ size=x:=by
 show (b.n+x*2 ^ b.k) / 2 ^ b.k % 2 ^ size=x;rw[Nat.add_mul_div_right _ _ (Wqw _),Wyq h,Wq7,Nat.mod_eq_of_lt hx]
theorem Bs.num_old {b:Bs} {x size j n:Nat} (hj:j+n<=b.k):(b.num x size).n / 2 ^ j % 2 ^ n=b.n / 2 ^ j % 2 ^ n:=by
 show (b.n+x*2 ^ b.k) / 2 ^ j % 2 ^ n=_;obtain⟨r,hr⟩:∃ r,b.k=j+n+r:=⟨b.k-(j+n),by omega⟩;rw[hr,Wq1,Wq1,show x*(2 ^ j*2 ^ n*2 ^ r)=2 ^ j*(2 ^ n*(2 ^ r*x)) by rw[Wyv x];simp only[Wyk],Wy9 _ _ (Wqw j),Wyz]
def xu:Nat->Nat->Nat
 | 0,_=>0
 | n+1,v=>2 ^ n*(v % 2)+xu n (v / 2)
theorem ux:∀ (n v:Nat),xu n v<2 ^ n
 | 0,_=>by simp[xu]
 | n+1,v=>by
  have ih:=ux n (v / 2);rw[xu,Wqv];rcases Nat.mod_two_eq_zero_or_one v with e | e <;> rw[e] <;> omega
theorem Nk:∀ n,xu n 0=0
 | 0=>rfl
 | n+1=>by rw[xu,Nat.zero_mod,Nat.zero_div,Nk n,Nat.mul_zero]
theorem Mw:∀ (n m v:Nat),xu (n+m) v=xu n v*2 ^ m+xu m (v / 2 ^ n)
 | 0,m,v=>by simp[xu]
 | n+1,m,v=>by
  rw[show n+1+m=(n+m)+1 by omega,xu,xu,Mw n m (v / 2),WzJ,Wq1 2 n m,Nat.add_mul,show 2 ^ (n+1)=2*2 ^ n by rw[Wqv,Wyv],<-WzQ];rw[Wyk,Wyk,Wyv (v % 2)]
theorem zqJ {n v:Nat} (hn:n<=16) (hv:v<2 ^ n):xu 16 v / 2 ^ (16-n)=xu n v:=by
 have e:=Mw n (16-n) v;rw[show n+(16-n)=16 by omega,Wyq hv,Nk,WzX] at e;rw[e,Nat.mul_div_cancel _ (Wqw _)]
def BZ (cnt srt:List Nat):Nat->Nat->Nat->Nat->Nat->Nat->Option (Nat × Nat)
 | 0,_,_,_,_,_=>none
 | f+1,n,b,first,passed,W =>
  if 2*b+W % 2-2*first<cnt.getD n 0 then some (srt.getD (passed+(2*b+W % 2-2*first)) 0,1)
  else match BZ cnt srt f (n+1) (2*b+W % 2) (2*first+cnt.getD n 0) (passed+cnt.getD n 0) (W / 2) with
   | none=>none
   | some (y,u)=>some (y,u+1)
theorem R7 (cnt srt:List Nat) (zs:List Int):∀ (f n b first passed W y u p L:Nat),BZ cnt srt f n b first passed W=some (y,u)->u<=L->p+L<=8*zs.length->zZ zs p L=W->vW cnt srt zs f n b first passed p=some (y,p+u)
 | 0,_,_,_,_,_,_,_,_,_,h,_,_,_=>by simp[BZ] at h
 | f+1,n,b,first,passed,W,y,u,p,L,h,hu,hL,hg=>by
  have hu1:1<=u:=by
   rw[BZ] at h;split at h
   ·simp at h;omega
   split at h
   ·simp at h
   simp at h;omega
  have e1:zZ zs p 1=W % 2:=by rw[<-hg,show (2:Nat)=2 ^ 1 from rfl,P9 _ _ _ _ (by omega)]
  have e2:zZ zs (p+1) (L-1)=W / 2:=by rw[<-hg,show (2:Nat)=2 ^ 1 from rfl,Pz _ _ _ _ (by omega)]
  rw[BZ] at h;rw[vW,if_neg (by omega),e1];by_cases hc:2*b+W % 2-2*first<cnt.getD n 0
  ·rw[if_pos hc] at h ⊢;simp only[Wq9.injEq,Prod.mk.injEq] at h;rw[h.1,<-h.2]
  rw[if_neg hc] at h ⊢;split at h
  ·simp at h
  rename_i y' u' hr;simp only[Wq9.injEq,Prod.mk.injEq] at h;obtain⟨rfl,rfl⟩:=h;rw[R7 cnt srt zs f _ _ _ _ _ _ _ (p+1) (L-1) hr (by omega) (by omega) e2];simp;omega
structure Has (zs:List Int) (q:Nat) (b:Bs):Prop where
 le:q+b.k<=8*zs.length
 get:∀ j n,j+n<=b.k->zZ zs (q+j) n=b.n / 2 ^ j % 2 ^ n
theorem Has.old {zs:List Int} {q x size:Nat} {b:Bs} (h:Has zs q (b.num x size)):Has zs q b :=
 ⟨by have:=h.le;show q+b.k<=_;have e:(b.num x size).k=b.k+size:=rfl;omega,fun j n hj=>by rw[h.get j n (by show _<=b.k+size;omega),Bs.num_old hj]⟩
theorem Has.last {zs:List Int} {q x size:Nat} {b:Bs} (h:Has zs q (b.num x size)) (hb:b.n<2 ^ b.k) (hx:x<2 ^ size):zZ zs (q+b.k) size=x:=by
 rw[h.get b.k size (WzV _),Bs.num_last hb hx]
theorem Has.room {zs:List Int} {q x size:Nat} {b:Bs} (h:Has zs q (b.num x size)):q+b.k+size<=8*zs.length:=by
 have:=h.le;have e:(b.num x size).k=b.k+size:=rfl;omega
theorem zjx (pre post:List Int) (m:Nat) (b:Bs) (hp:∀ x ∈ pre,0<=x/\x<=255) (hm:b.k<=8*m):Has (pre++(toB b.n m++post)) (8*pre.length) b :=
 ⟨by simp[yx];omega,fun j n hj=>Mj pre post b.n m j n hp (by omega)⟩
end Go.Proofs.YtiaaekdpfpaigaaGreatDoor.Df.Plain
namespace Go.Proofs.YtiaaekdpfpaigaaGreatDoor.Df
open Go.Proofs.Tryz
open Go.RowKit Plain
def My:ByteArray:={ data:=(([0,128,64,192,32,160,96,224,16,144,80,208,48,176,112,240,8,136,72,200,40,168,104,232,24,152,88,216,56,184,120,248,4,132,68,196,36,164,100,228,20,148,84,212,52,180,116,244,12,140,76,204,44,172,108,236,28,156,92,220,60,188,124,252].append [2,130,66,194,34,162,98,226,18,146,82,210,50,178,114,242,10,138,74,202,42,170,106,234,26,154,90,218,58,186,122,250,6,134,70,198,38,166,102,230,22,150,86,214,54,182,118,246,14,142,78,206,46,174,110,238,30,158,94,222,62,190,126,254]).append ([1,129,65,193,33,161,97,225,17,145,81,209,49,177,113,241,9,137,73,201,41,169,105,233,25,153,89,217,57,185,121,249,5,133,69,197,37,165,101,229,21,149,85,213,53,181,117,245,13,141,77,205,45,173,109,237,29,157,93,221,61,189,125,253].append [3,131,67,195,35,163,99,227,19,147,83,211,51,179,115,243,11,139,75,203,43,171,107,235,27,155,91,219,59,187,123,251,7,135,71,199,39,167,103,231,23,151,87,215,55,183,119,247,15,143,79,207,47,175,111,239,31,159,95,223,63,191,127,255])).toArray }
theorem Nv:My.size=256:=by decide +kernel
theorem zjj:∀ k,k<256->(My.data.toList.getD k 0).toNat=xu 8 k:=by decide +kernel
theorem Ny (k:Nat) (w:World) (h:k<256):(Instr.index 9 (.string My) (.int .u16 k)).run prog w=.ok (.int .u8 (xu 8 k:Nat)) w:=by
 rw[run_index_string (P:=prog) w 9 My .u16 k underlying9,dif_pos ⟨by omega,by rw[Nv];omega⟩,<-zjj k h];have hs:=Nv;have hj:k<My.data.toList.length:=by rw[Array.length_toList];have:My.data.size=256:=hs;omega
 simp only[Wz0,List.getD_eq_getElem?_getD,List.getElem?_eq_getElem hj,Option.getD_some];rfl
theorem qyz:∀ v,v<512->bits .or .u16 ((xu 8 (v / 256):Nat):Int) (((xu 8 (v % 256)*256:Nat)):Int)=((xu 16 v:Nat):Int):=by decide +kernel
theorem zjk:∀ v,v<512->bits .and .u16 ((v:Nat):Int) 255=((v % 256:Nat):Int):=by decide +kernel
theorem Oz (v:Nat) (w:World) (hv:v<512):Calls prog 82 #[.int .u16 v] w fun ev w'=>ev=.returned (.int .u16 (xu 16 v:Nat))/\∃ nq,w'=w.drewN nq:=by
 obtain⟨S,HS⟩:=nm_ My;obtain⟨a,HA⟩:=nn_ (v / 256);obtain⟨b,HB⟩:=nn_ (v % 256);obtain⟨ra,HRA⟩:=nn_ (xu 8 a);obtain⟨rb,HRB⟩:=nn_ (xu 8 b);have h1:(v:Int) / 256=(a:Int):=by rw[HA.out];omega
 have h2:bits .and .u16 (v:Int) 255=(b:Int):=by rw[HB.out];exact zjk v hv
 have ha:a<256:=by rw[HA.out];omega
 have hb:b<256:=by rw[HB.out];omega
 have hra:ra<256:=by rw[HRA.out];exact ux 8 a
 have hrb:rb<256:=by rw[HRB.out];exact ux 8 b
 have hi1:∀ w:World,(Instr.index 9 (.string S) (.int .u16 (a:Int))).run prog w=.ok (.int .u8 (ra:Nat)) w:=fun w=>by rw[<-HS.out,HRA.out];exact Ny a w ha
 have hi2:∀ w:World,(Instr.index 9 (.string S) (.int .u16 (b:Int))).run prog w=.ok (.int .u8 (rb:Nat)) w:=fun w=>by rw[<-HS.out,HRB.out];exact Ny b w hb
 have ho:bits .or .u16 (ra:Int) ((rb:Int)*256)=((xu 16 v:Nat):Int):=by
  rw[<-qyz v hv,HRA.out,HRB.out,HA.out,HB.out];push_cast;rfl
 go_enter func82,ntmps82;go_wp2_with fail
 have hS:=HS.out;unfold My at hS;rw[hS];clear hS HS HA HB HRA HRB;go_quiet (fail);go_wp2;go_ret;exact⟨by first | rfl | (rw[ho]),nq,rfl⟩
end Go.Proofs.YtiaaekdpfpaigaaGreatDoor.Df
namespace Go.Proofs.YtiaaekdpfpaigaaGreatDoor.Df
open Go.Proofs.Tryz
open Plain
def fixC:List Nat:=[0,0,0,0,0,0,0,24,152,112,0,0,0,0,0,0]
def fixS:List Nat:=(WqK 24).map (256 + ·)++WqK 144++(WqK 8).map (280 + ·)++(WqK 112).map (144 + ·)
def qq7:List Nat:=[0,0,0,0,0,32,0,0,0,0,0,0,0,0,0,0]
theorem zjv:z7 qy=fixC:=by decide +kernel
theorem zjw:qx qy=fixS:=by decide +kernel
theorem zqK:z7 yq=qq7:=by decide +kernel
theorem zqV:qx yq=WqK 32:=by decide +kernel
theorem zjy:∀ s,s<288->BZ fixC fixS 15 1 0 0 0 (xu (y9 s) (Y3 s))=some (s,y9 s):=by decide +kernel
theorem zqW:∀ s,s<32->BZ qq7 (WqK 32) 15 1 0 0 0 (xu 5 s)=some (s,5):=by decide +kernel
theorem vQ (s:Nat):7<=y9 s/\y9 s<=9:=by unfold y9;split <;> (try split) <;> (try split) <;> omega
theorem Oq {s:Nat} (h:s<288):Y3 s<2 ^ y9 s:=by
 unfold Y3 y9;split <;> (try split) <;> (try split) <;> omega
def fdl (zs:List Int):Nat->Option (Nat × Nat):=dec (z7 qy) (qx qy) zs
def fdd (zs:List Int):Nat->Option (Nat × Nat):=dec (z7 yq) (qx yq) zs
theorem BQ {zs:List Int} {p s:Nat} (hs:s<288) (hp:p+y9 s<=8*zs.length) (hg:zZ zs p (y9 s)=xu (y9 s) (Y3 s)):fdl zs p=some (s,p+y9 s):=by
 unfold fdl dec;rw[zjv,zjw];exact R7 _ _ _ _ _ _ _ _ _ _ _ _ _ (zjy s hs) (WzV _) hp hg
theorem qyq {zs:List Int} {p s:Nat} (hs:s<32) (hp:p+5<=8*zs.length) (hg:zZ zs p 5=xu 5 s):fdd zs p=some (s,p+5):=by
 unfold fdd dec;rw[zqK,zqV];exact R7 _ _ _ _ _ _ _ _ _ _ _ _ _ (zqW s hs) (WzV _) hp hg
def _root_.Go.Proofs.YtiaaekdpfpaigaaGreatDoor.Df.Plain.Bs.sym (b:Bs) (s:Nat):Bs:=b.num (xu (y9 s) (Y3 s)) (y9 s)
def top (l:List Nat) (x:Nat):Nat->Nat
 | 0=>0
 | n+1=>if x<l.getD (n+1) 0 then top l x n else n+1
theorem BX (l:List Nat) (x:Nat):∀ n,top l x n<=n
 | 0=>WzV _
 | n+1=>by rw[top];split;have:=BX l x n;omega;omega
theorem zqY (l:List Nat) (x:Nat) (h:l.getD 0 0<=x):∀ n,l.getD (top l x n) 0<=x
 | 0=>h
 | n+1=>by rw[top];split;exact zqY l x h n;omega
def xq (l:Nat):Nat:=top lenStart l 28
def yX (d:Nat):Nat:=top distStart d 29
theorem R8:∀ l,l<259->3<=l->xq l<29/\lenStart.getD (xq l) 0<=l/\l-lenStart.getD (xq l) 0<2 ^ lenBits.getD (xq l) 0/\y9 (257+xq l)+lenBits.getD (xq l) 0+18<=9*l:=by decide +kernel
theorem zy0 (l:List Nat) (x:Nat):∀ n,top l x n<n->x<l.getD (top l x n+1) 0
 | 0,h=>absurd h (by omega)
 | n+1,h=>by
  rw[top] at h ⊢;split at h
  ·rename_i hc;rw[if_pos hc];by_cases e:top l x n<n
   ·exact zy0 l x n e
   have:=BX l x n;rw[show top l x n=n by omega];exact hc
  omega
theorem Ox:∀ n,n<30->distBits.getD n 0<=13/\(n<29->distStart.getD (n+1) 0=distStart.getD n 0+2 ^ distBits.getD n 0):=by decide +kernel
theorem JQ (d:Nat) (h1:1<=d) (h2:d<=32768):yX d<30/\distStart.getD (yX d) 0<=d/\d-distStart.getD (yX d) 0<2 ^ distBits.getD (yX d) 0/\distBits.getD (yX d) 0<=13:=by
 have a:=BX distStart d 29;have b:distStart.getD (yX d) 0<=d:=zqY distStart d h1 29;obtain⟨c1,c2⟩:=Ox (yX d) (by unfold yX;omega);refine⟨by unfold yX;omega,b,?_,c1⟩;by_cases e:yX d<29
 ·have:=zy0 distStart d 29 e;have h3:=c2 e;have h4:d<distStart.getD (yX d+1) 0:=this;rw[h3] at h4;generalize 2 ^ distBits.getD (yX d) 0=X at h4 ⊢;omega
 have e2:yX d=29:=by unfold yX at *;omega
 rw[e2];show d-24577<2 ^ 13;omega
def _root_.Go.Proofs.YtiaaekdpfpaigaaGreatDoor.Df.Plain.Bs.dup (b:Bs) (l d:Nat):Bs :=
 (((b.sym (257+xq l)).num (l-lenStart.getD (xq l) 0) (lenBits.getD (xq l) 0)).num (xu 5 (yX d)) 5).num (d-distStart.getD (yX d) 0) (distBits.getD (yX d) 0)
theorem R9 {b:Bs} (h:b.n<2 ^ b.k) (s:Nat):(b.sym s).n<2 ^ (b.sym s).k:=Bs.num_lt h (ux _ _)
theorem qyx {b:Bs} (h:b.n<2 ^ b.k) (l d:Nat) (hl:l<259) (hl3:3<=l) (h1:1<=d) (h2:d<=32768):(b.dup l d).n<2 ^ (b.dup l d).k :=
 Bs.num_lt (Bs.num_lt (Bs.num_lt (R9 h _) (R8 l hl hl3).2.2.1) (ux _ _)) (JQ d h1 h2).2.2.1
theorem UK (b:Bs) (s:Nat):(b.sym s).k=b.k+y9 s:=rfl
theorem dup_k (b:Bs) (l d:Nat) (hl:l<259) (hl3:3<=l) (h1:1<=d) (h2:d<=32768):(b.dup l d).k<=b.k+9*l:=by
 have a:=(R8 l hl hl3).2.2.2;have c:=(JQ d h1 h2).2.2.2;show b.k+_+_+5+_<=_;omega
def fsy (zs:List Int) (most:Int) (p:Nat) (out:List Int):Res:=Kj (fdl zs) (fdd zs) zs most 32768 p out
theorem zju {zs:List Int} {most:Int} {q s:Nat} {b:Bs} {out:List Int} (hb:b.n<2 ^ b.k) (hs:s<256) (h:Has zs q (b.sym s)) :
  fsy zs most (q+b.k) out=if (1:Int)<=most-out.length then fsy zs most (q+(b.sym s).k) (out++[(s:Int)]) else .error 11:=by
 have hr:=h.room;have hf:=(vQ s).1;have hd:=BQ (p:=q+b.k) (show s<288 by omega) (by omega) (h.last hb (ux _ _));unfold fsy;rw[JZ];unfold xZ;rw[hd];simp only;rw[if_pos ⟨by omega,hr⟩,if_pos hs,UK,WzQ];by_cases hm:(1:Int)<=most-out.length
 ·rw[if_neg (by omega),if_pos hm]
 rw[if_pos hm,if_neg hm]
theorem zjZ {zs:List Int} {most:Int} {q:Nat} {b:Bs} {out:List Int} (hb:b.n<2 ^ b.k) (h:Has zs q (b.sym 256)) :
  fsy zs most (q+b.k) out=.ok (q+(b.sym 256).k,out):=by
 have hr:=h.room;have hf:=(vQ 256).1;have hd:=BQ (p:=q+b.k) (show 256<288 by omega) (by omega) (h.last hb (ux _ _));unfold fsy;rw[JZ];unfold xZ;rw[hd];simp only;rw[if_pos ⟨by omega,hr⟩,if_neg (by omega),if_pos trivial,UK,WzQ]
theorem zjQ {zs:List Int} {most:Int} {q l d:Nat} {b:Bs} {out:List Int} (hb:b.n<2 ^ b.k) (hl:l<259) (hl3:3<=l) (h1:1<=d) (h2:d<=32768) (ho:d<=out.length) (h:Has zs q (b.dup l d)) :
  fsy zs most (q+b.k) out=if (l:Int)<=most-out.length then fsy zs most (q+(b.dup l d).k) (rep out d l) else .error 11:=by
 obtain⟨a1,a2,a3,a4⟩:=R8 l hl hl3;obtain⟨c1,c2,c3,c4⟩:=JQ d h1 h2;have hb1:=R9 hb (257+xq l);have hb2:=Bs.num_lt hb1 a3;have hb3:=Bs.num_lt hb2 (ux 5 (yX d));have r4:=h.room;have g4:=h.last hb3 c3;have r3:=h.old.room;have g3:=h.old.last hb2 (ux 5 (yX d));have r2:=h.old.old.room;have g2:=h.old.old.last hb1 a3;have r1:=h.old.old.old.room
 have g1:=h.old.old.old.last hb (ux _ _);have hf:=(vQ (257+xq l)).1;have hd:=BQ (p:=q+b.k) (show 257+xq l<288 by omega) (by omega) g1;have k1:(b.sym (257+xq l)).k=b.k+y9 (257+xq l):=rfl;have k2:((b.sym (257+xq l)).num (l-lenStart.getD (xq l) 0) (lenBits.getD (xq l) 0)).k=b.k+y9 (257+xq l)+lenBits.getD (xq l) 0:=rfl
 have k3:(((b.sym (257+xq l)).num (l-lenStart.getD (xq l) 0) (lenBits.getD (xq l) 0)).num (xu 5 (yX d)) 5).k=b.k+y9 (257+xq l)+lenBits.getD (xq l) 0+5:=rfl;have k4:(b.dup l d).k=b.k+y9 (257+xq l)+lenBits.getD (xq l) 0+5+distBits.getD (yX d) 0:=rfl;rw[k3] at r4 g4;rw[k2] at r3 g3;rw[k1] at r2 g2;rw[k4]
 obtain⟨p1,hp1⟩:∃ p1,p1=q+b.k+y9 (257+xq l):=⟨_,rfl⟩;have hdd:=qyq (zs:=zs) (p:=p1+lenBits.getD (xq l) 0) (show yX d<32 by omega) (by omega) (by rw[hp1];simpa [WzQ] using g3);have g2':zZ zs p1 (lenBits.getD (xq l) 0)=l-lenStart.getD (xq l) 0:=by rw[hp1];simpa [WzQ] using g2
 have g4':zZ zs (p1+lenBits.getD (xq l) 0+5) (distBits.getD (yX d) 0)=d-distStart.getD (yX d) 0:=by rw[hp1];simpa [WzQ] using g4
 unfold fsy;rw[JZ];unfold xZ;rw[hd];simp only;rw[if_pos ⟨by omega,r1⟩,if_neg (by omega),if_neg (by omega),show 257+xq l-257=xq l by omega,if_neg (by omega),<-hp1,if_neg (by omega),hdd];simp only
 rw[if_pos ⟨by omega,by omega⟩,if_neg (by omega),if_neg (by omega),g2',g4',show distStart.getD (yX d) 0+(d-distStart.getD (yX d) 0)=d by omega,show lenStart.getD (xq l) 0+(l-lenStart.getD (xq l) 0)=l by omega,if_neg (by omega)];by_cases hm:(l:Int)<=most-out.length
 ·rw[if_neg (by omega),if_pos hm,hp1];congr 1;omega
 rw[if_pos hm,if_neg hm]
theorem Mu (bs:List Int) (d:Nat) (h1:1<=d):∀ (l at_:Nat),d<=at_->at_+l<=bs.length->(∀ i,i<l->bs.getD (at_-d+i) 0=bs.getD (at_+i) 0)->rep (bs.take at_) d l=bs.take (at_+l)
 | 0,_,_,_,_=>rfl
 | l+1,at_,hd,hl,h=>by
  rw[rep];have e:(bs.take at_).getD ((bs.take at_).length-d) 0=bs.getD at_ 0:=by
   have e0:=h 0 (by omega);rw[WzX,WzX] at e0;rw[Wzz,WzY (by omega),<-e0];simp only[List.getD_eq_getElem?_getD];rw[List.getElem?_take,if_pos (by omega)]
  have e2:bs.take at_++[bs.getD at_ 0]=bs.take (at_+1):=by
   rw[Wy8,List.getD_eq_getElem?_getD,List.getElem?_eq_getElem (by omega)];simp
  rw[e,e2,Mu bs d h1 l (at_+1) (by omega) (by omega) (fun i hi=>by
   have:=h (i+1) (by omega);rw[show at_+1-d+i=at_-d+(i+1) by omega,show at_+1+i=at_+(i+1) by omega];exact this),show at_+1+l=at_+(l+1) by omega]
structure Wrote (bs:List Int) (at_:Nat) (b:Bs):Prop where
 lt:b.n<2 ^ b.k
 k3:3<=b.k
 head:b.n % 8=3
 kle:b.k<=3+9*at_
 le:at_<=bs.length
 rd:∀ (zs:List Int) (most:Int),0<=most->Has zs 16 b->fsy zs most 19 []=if (at_:Int)<=most then fsy zs most (16+b.k) (bs.take at_) else .error 11
theorem Wrote.start (bs:List Int):Wrote bs 0 (((⟨0,0⟩:Bs).num 1 1).num 1 2) :=
 ⟨by decide,by decide,by decide,by decide,by omega,fun zs most hm h=>by rw[if_pos (by simpa using hm)];rfl⟩
theorem Zx {b:Bs} (h3:3<=b.k) (x size:Nat):(b.num x size).n % 8=b.n % 8:=by
 show (b.n+x*2 ^ b.k) % 8=_;obtain⟨r,hr⟩:∃ r,b.k=3+r:=⟨b.k-3,by omega⟩;rw[hr,Wq1,show x*(2 ^ 3*2 ^ r)=8*(x*2 ^ r) by rw[Nat.mul_left_comm],Wyz]
theorem Wrote.lit {bs:List Int} {at_ s:Nat} {b:Bs} (h:Wrote bs at_ b) (ha:at_<bs.length) (hs:s<256) (hv:bs.getD at_ 0=(s:Int)):Wrote bs (at_+1) (b.sym s):=by
 refine⟨R9 h.lt s,by have:=h.k3;rw[UK];omega,by rw[<-h.head];exact Zx h.k3 _ _,by have:=h.kle;have:=vQ s;rw[UK];omega,ha,fun zs most hm hz=>?_⟩;have e2:bs.take at_++[(s:Int)]=bs.take (at_+1):=by
  rw[Wy8,<-hv,List.getD_eq_getElem?_getD,List.getElem?_eq_getElem ha];simp
 rw[h.rd zs most hm hz.old];by_cases h1:(at_:Int)<=most
 ·rw[if_pos h1,zju h.lt hs hz,Wzz,WzY (by omega),e2];by_cases h2:(1:Int)<=most-at_
  ·rw[if_pos h2,if_pos (by omega)]
  rw[if_neg h2,if_neg (by omega)]
 rw[if_neg h1,if_neg (by omega)]
theorem Wrote.dup {bs:List Int} {at_ l d:Nat} {b:Bs} (h:Wrote bs at_ b) (ha:at_+l<=bs.length) (hl:l<259) (hl3:3<=l) (h1:1<=d) (h2:d<=32768) (hd:d<=at_) (hv:∀ i,i<l->bs.getD (at_-d+i) 0=bs.getD (at_+i) 0):Wrote bs (at_+l) (b.dup l d):=by
 refine⟨qyx h.lt l d hl hl3 h1 h2,?_,?_,by have:=h.kle;have:=dup_k b l d hl hl3 h1 h2;omega,ha,fun zs most hm hz=>?_⟩
 ·have:=h.k3;show 3<=b.k+_+_+5+_;omega
 ·have k:=h.k3;rw[<-h.head];exact(Zx (by show 3<=b.k+_+_+5;omega) _ _).trans ((Zx (by show 3<=b.k+_+_;omega) _ _).trans ((Zx (by show 3<=b.k+_;omega) _ _).trans (Zx k _ _)))
 rw[h.rd zs most hm hz.old.old.old.old];by_cases hm1:(at_:Int)<=most
 ·rw[if_pos hm1,zjQ h.lt hl hl3 h1 h2 (by rw[Wzz];omega) hz,Wzz,WzY (by omega),Mu bs d h1 l at_ hd ha hv];by_cases hm2:(l:Int)<=most-at_
  ·rw[if_pos hm2,if_pos (by omega)]
  rw[if_neg hm2,if_neg (by omega)]
 rw[if_neg hm1,if_neg (by omega)]
structure MZ (bs:List Int) (b:Bs):Prop where
 lt:b.n<2 ^ b.k
 k3:3<=b.k
 head:b.n % 8=3
 kle:b.k<=10+9*bs.length
 rd:∀ (zs:List Int) (most:Int),0<=most->Has zs 16 b->fsy zs most 19 []=if (bs.length:Int)<=most then .ok (16+b.k,bs) else .error 11
theorem Wrote.done {bs:List Int} {b:Bs} (h:Wrote bs bs.length b):MZ bs (b.sym 256):=by
 refine⟨R9 h.lt _,by have:=h.k3;rw[UK];omega,by rw[<-h.head];exact Zx h.k3 _ _,by have:=h.kle;rw[UK];have:y9 256=7:=rfl;omega,fun zs most hm hz=>?_⟩;rw[h.rd zs most hm hz.old,List.take_length];by_cases h1:(bs.length:Int)<=most
 ·rw[if_pos h1,if_pos h1,zjZ h.lt hz]
 rw[if_neg h1,if_neg h1]
end Go.Proofs.YtiaaekdpfpaigaaGreatDoor.Df
namespace Go.Proofs.YtiaaekdpfpaigaaGreatDoor.Df
open Go.Proofs.Tryz
open Go.RowKit Plain
structure Rz (bs O:List Int):Prop where
 isB:IsB O
 rd:∀ (post:List Int) (most:Int),0<=most->∃ p,(p+7) / 8=2+O.length/\xX ([120,1]++(O++post)) most 32768 16 []=if (bs.length:Int)<=most then .ok (p,bs) else .error 11
theorem Rq (N m:Nat):IsB (toB N m):=Mz m N
theorem MZ.body {bs:List Int} {b:Bs} (h:MZ bs b):Rz bs (toB b.n ((b.k+7) / 8)):=by
 refine⟨Rq _ _,fun post most hm=>⟨16+b.k,by rw[yx];omega,?_⟩⟩;have hz:Has ([120,1]++(toB b.n ((b.k+7) / 8)++post)) 16 b:=zjx [120,1] post _ b (by intro x hx;simp at hx;omega) (by omega);have h3:=h.k3;have hh:=h.head;have hle:=hz.le;have g1:=hz.get 0 1 (by omega);have g2:=hz.get 1 2 (by omega);have hr:=h.rd _ most hm hz
 obtain⟨zs,hzs⟩:∃ zs,[120,1]++(toB b.n ((b.k+7) / 8)++post)=zs:=⟨_,rfl⟩;rw[hzs] at g1 g2 hle hr ⊢;have e1:zZ zs 16 1=1:=by rw[WzX] at g1;rw[g1];simp;omega
 have e2:zZ zs (16+1) 2=1:=by rw[g2];simp;omega
 have e3:uK zs most 32768 1 (16+1+2) []=fsy zs most 19 []:=rfl;rw[X3,if_neg (by omega),e2,e3,hr];by_cases hc:(bs.length:Int)<=most
 ·rw[if_pos hc];simp only;rw[if_pos e1]
 rw[if_neg hc]
def hd5 (last n:Nat):Nat:=last+n*256+(65535-n)*16777216
theorem Nu (last n:Nat) (hl:last<=1) (hn:n<=65535):toB (hd5 last n) 5=[(last:Int),((n % 256:Nat):Int),((n / 256:Nat):Int),((255-n % 256:Nat):Int),((255-n / 256:Nat):Int)]:=by
 unfold hd5;obtain⟨q,hq⟩:∃ q,65535-n=q:=⟨_,rfl⟩;rw[hq];have e1:(last+n*256+q*16777216) / 256=n+q*65536:=by omega
 have e2:(n+q*65536) / 256=n / 256+q*256:=by omega
 have e3:(n / 256+q*256) / 256=q:=by omega
 simp only[toB,e1,e2,e3];rw[show (last+n*256+q*16777216) % 256=last by omega,show (n+q*65536) % 256=n % 256 by omega,show (n / 256+q*256) % 256=n / 256 by omega,show q % 256=255-n % 256 by omega,show q / 256 % 256=255-n / 256 by omega]
theorem hd5_q (last n:Nat) (hl:last<=1) (hn:n<=65535):hd5 last n / 16777216 % 65536=65535-n:=by
 unfold hd5;obtain⟨q,hq⟩:∃ q,65535-n=q:=⟨_,rfl⟩;rw[hq];have e1:last+n*256+q*16777216=(last+n*256)+16777216*q:=by omega
 rw[e1,Wy9 _ _ (by omega),Wyq (by omega)];omega
theorem NZ (pre c post:List Int) (last:Nat) (most win:Int) (out:List Int) (hp:IsB pre) (hl:last<=1) (hn:c.length<=65535) (zs:List Int) (hzs:zs=pre++(toB (hd5 last c.length) 5++(c++post))) :
  xX zs most win (8*pre.length) out=if (c.length:Int)<=most-out.length then (if last=1 then .ok (8*(pre.length+5+c.length),out++c) else xX zs most win (8*(pre.length+5+c.length)) (out++c)) else .error 11:=by
 have hlen:zs.length=pre.length+5+c.length+post.length:=by rw[hzs];simp[yx];omega
 have gm:∀ j n,j+n<=40->zZ zs (8*pre.length+j) n=hd5 last c.length / 2 ^ j % 2 ^ n:=fun j n hj=>by rw[hzs];exact Mj pre (c++post) _ 5 j n hp (by omega)
 have g0:zZ zs (8*pre.length) 1=last:=by
  have:=gm 0 1 (by omega);rw[WzX] at this;rw[this];unfold hd5;omega
 have g1:zZ zs (8*pre.length+1) 2=0:=by rw[gm 1 2 (by omega)];unfold hd5;omega
 have ec:(8*pre.length+1+2+7) / 8=pre.length+1:=by omega
 have gn:c.length=zZ zs (8*(pre.length+1)) 16:=by
  rw[show 8*(pre.length+1)=8*pre.length+8 by omega,gm 8 16 (by omega)];unfold hd5;omega
 have gq:65535-c.length=zZ zs (8*(pre.length+1)+16) 16:=by
  rw[show 8*(pre.length+1)+16=8*pre.length+24 by omega,gm 24 16 (by omega)];exact(hd5_q last c.length hl hn).symm
 have hdrop:(zs.drop (pre.length+1+4)).take c.length=c:=by
  rw[hzs,Wy6,Wy6,Wy7 (by omega)];rw[Wy7 (l:=toB (hd5 last c.length) 5) (by rw[yx];omega),Wzx,Wzx,yx,show pre.length+1+4-pre.length-5=0 by omega,List.drop_zero,List.take_left]
 rw[X3,if_neg (by omega),g1];unfold uK;rw[if_pos rfl];by_cases hr:(c.length:Int)<=most-out.length
 ·rw[KJ ec.symm (by omega) gn gq (by omega) hr,if_pos hr,hdrop];simp only;rw[g0,show pre.length+1+4+c.length=pre.length+5+c.length by omega]
 rw[KX ec.symm (by omega) gn gq (by omega) hr,if_neg hr]
structure Rx (bs:List Int) (j:Nat) (O:List Int):Prop where
 isB:IsB O
 le:j<=bs.length
 len:O.length=j+5*(j / 65535)
 dvd:j % 65535=0
 rd:∀ (post:List Int) (most:Int),0<=most->xX ([120,1]++(O++post)) most 32768 16 []=if (j:Int)<=most then xX ([120,1]++(O++post)) most 32768 (8*(2+O.length)) (bs.take j) else .error 11
theorem Rx.start (bs:List Int):Rx bs 0 [] :=
 ⟨fun x hx=>by simp at hx,by omega,by simp,rfl,fun post most hm=>by rw[if_pos (by simpa using hm)];rfl⟩
theorem kJ {a b:List Int} (ha:IsB a) (hb:IsB b):IsB (a++b):=fun x hx=>(List.mem_append.1 hx).elim (ha x) (hb x)
theorem Rj:IsB [120,1]:=fun x hx=>by simp at hx;omega
theorem Rx.more {bs:List Int} {j:Nat} {O:List Int} (h:Rx bs j O) (hb:IsB bs) (hj:j+65535<=bs.length):Rx bs (j+65535) (O++(toB (hd5 0 65535) 5++(bs.drop j).take 65535)):=by
 have hcl:((bs.drop j).take 65535).length=65535:=by simp;omega
 have hcB:IsB ((bs.drop j).take 65535):=fun x hx=>hb x (Wzq (List.mem_of_mem_take hx));refine⟨kJ h.isB (kJ (Rq _ _) hcB),hj,?_,by have:=h.dvd;omega,fun post most hm=>?_⟩
 ·have:=h.len;simp only[Wz6,yx,hcl];have:=h.dvd;omega
 have h1:=h.rd (toB (hd5 0 65535) 5++(bs.drop j).take 65535++post) most hm;obtain⟨zs,hzs⟩:∃ zs,[120,1]++(O++(toB (hd5 0 65535) 5++(bs.drop j).take 65535)++post)=zs:=⟨_,rfl⟩;have e1:[120,1]++(O++(toB (hd5 0 65535) 5++(bs.drop j).take 65535++post))=zs:=by rw[<-hzs];simp
 rw[e1] at h1;rw[hzs,h1];have e2:zs=([120,1]++O)++(toB (hd5 0 ((bs.drop j).take 65535).length) 5++((bs.drop j).take 65535++post)):=by rw[hcl,<-hzs];simp
 by_cases hc:(j:Int)<=most
 ·rw[if_pos hc];have h2:=NZ ([120,1]++O) ((bs.drop j).take 65535) post 0 most 32768 (bs.take j) (kJ Rj h.isB) (by omega) (by omega) zs e2;rw[show (([120,1] : List Int)++O).length=2+O.length by simp;omega,hcl,Wzz,WzY h.le] at h2;rw[h2];have e3:bs.take j++(bs.drop j).take 65535=bs.take (j+65535):=by rw[List.take_add]
  rw[if_neg (show ¬ (0=1) by omega),e3,show 2+(O++(toB (hd5 0 65535) 5++(bs.drop j).take 65535)).length=2+O.length+5+65535 by simp only[Wz6,yx,hcl];omega];by_cases hd:((65535:Nat):Int)<=most-j
  ·rw[if_pos hd,if_pos (by omega)]
  rw[if_neg hd,if_neg (by omega)]
 rw[if_neg hc,if_neg (by omega)]
theorem Rx.done {bs:List Int} {j:Nat} {O:List Int} (h:Rx bs j O) (hb:IsB bs) (hj:bs.length<=j+65535):Rz bs (O++(toB (hd5 1 (bs.length-j)) 5++bs.drop j)):=by
 have hcl:(bs.drop j).length=bs.length-j:=by simp
 have hcB:IsB (bs.drop j):=fun x hx=>hb x (Wzq hx);refine⟨kJ h.isB (kJ (Rq _ _) hcB),fun post most hm=>⟨8*(2+O.length+5+(bs.length-j)),by simp only[Wz6,yx,hcl];omega,?_⟩⟩;have h1:=h.rd (toB (hd5 1 (bs.length-j)) 5++bs.drop j++post) most hm
 obtain⟨zs,hzs⟩:∃ zs,[120,1]++(O++(toB (hd5 1 (bs.length-j)) 5++bs.drop j)++post)=zs:=⟨_,rfl⟩;have e1:[120,1]++(O++(toB (hd5 1 (bs.length-j)) 5++bs.drop j++post))=zs:=by rw[<-hzs];simp
 rw[e1] at h1;rw[hzs,h1];have hle:=h.le;have e2:zs=([120,1]++O)++(toB (hd5 1 (bs.drop j).length) 5++(bs.drop j++post)):=by rw[hcl,<-hzs];simp
 by_cases hc:(j:Int)<=most
 ·rw[if_pos hc];have h2:=NZ ([120,1]++O) (bs.drop j) post 1 most 32768 (bs.take j) (kJ Rj h.isB) (by omega) (by omega) zs e2;rw[show (([120,1] : List Int)++O).length=2+O.length by simp;omega,hcl,Wzz,WzY h.le,List.take_append_drop,if_pos rfl] at h2;rw[h2];by_cases hd:((bs.length-j:Nat):Int)<=most-j
  ·rw[if_pos hd,if_pos (by omega)]
  rw[if_neg hd,if_neg (by omega)]
 rw[if_neg hc,if_neg (by omega)]
def be4 (s:Int):List Int:=[s / 16777216 % 256,s / 65536 % 256,s / 256 % 256,s % 256]
theorem MQ (l:List Int):0<=vk l/\vk l<4294967296:=by
 have:=qq5 l;unfold vk;omega
theorem qyj (pre post:List Int) (s:Int) (h1:0<=s) (h2:s<4294967296):((be (pre++(be4 s++post)) pre.length 4:Nat):Int)=s:=by
 have g:∀ k,(pre++(be4 s++post)).getD (pre.length+k) 0=(be4 s++post).getD k 0:=fun k=>by
  simp only[List.getD_eq_getElem?_getD];rw[List.getElem?_append_right (by omega),Nat.add_sub_cancel_left]
 simp only[be,g];simp only[be4,Wz3,List.getD_cons_zero,List.getD_cons_succ];omega
theorem Rz.infl {bs O:List Int} (h:Rz bs O) (more:List Int) (most:Int) (hm:0<=most) :
  inflOf (120 :: 1 :: (O++(be4 (vk bs)++more))) most=if (bs.length:Int)<=most then .ok (O.length+6,bs) else .error 11:=by
 obtain⟨p,hp,hr⟩:=h.rd (be4 (vk bs)++more) most hm;have hbd:=MQ bs;have hs:be (120 :: 1 :: (O++(be4 (vk bs)++more))) (2+O.length) 4=vk bs:=by
  have:=qyj ([120,1]++O) more (vk bs) hbd.1 hbd.2;rw[show (([120,1] : List Int)++O).length=2+O.length by simp;omega] at this;simpa using this
 have hlen:(120 :: 1 :: (O++(be4 (vk bs)++more)):List Int).length=2+O.length+4+more.length:=by simp[be4];omega
 have e:([120,1]++(O++(be4 (vk bs)++more)):List Int)=120 :: 1 :: (O++(be4 (vk bs)++more)):=rfl;rw[e] at hr;have hh:Y9 120 1=true:=by decide +kernel
 unfold inflOf;simp only;rw[if_pos hh,show ((2 ^ (((120:Int) / 16).toNat+8):Nat):Int)=32768 from rfl,hr];by_cases hc:(bs.length:Int)<=most
 ·rw[if_pos hc,if_pos hc];simp only;have:Gu (120 :: 1 :: (O++(be4 (vk bs)++more))) p bs=true:=by
   unfold Gu;rw[hp,hs,hlen];simp
  rw[if_pos this,hp];congr 2;omega
 rw[if_neg hc,if_neg hc]
structure Wm (w:World) (S B:Nat) (m hold held:Nat) (N:Nat) (v:Value):Prop where
 c0:w.cell? ⟨S,0,none⟩=some v
 c1:w.cell? ⟨S,1,none⟩=some (.int .i64 (hold:Nat))
 c2:w.cell? ⟨S,2,none⟩=some (.int .i64 (held:Nat))
 fz:∀ i,w.frozen? ⟨S,i,none⟩=false
 row:∃ a cp,v=.slice a (m:Nat) cp
 owns:w.ownsRow B 5 1 v m ((toB N m).map (Value.int .u8))
 hB:B<=w.heap.size
 Sl:S<w.heap.size
 Sv:some S ≠ v.ownBlock
def Wr (w:World) (S B:Nat) (b:Bs) (v:Value):Prop:=b.n<2 ^ b.k/\Wm w S B (b.k / 8) (b.n / 2 ^ (8*(b.k / 8))) (b.k % 8) b.n v
theorem Wm.set {w:World} {S B m hold held N:Nat} {v:Value} (h:Wm w S B m hold held N v) (hold':Nat) {x:Int} (hx:x=(hold':Nat)):Wm (w.setCell ⟨S,1,none⟩ (.int .i64 x)) S B m hold' held N v:=by
 subst hx;exact⟨(z8 _ (by omega)).trans h.c0,World.cell?_setCell_same _ _ _ h.c1,(z8 _ (by omega)).trans h.c2,fun i=>by rw[World.frozen?_setCell];exact h.fz i,h.row,uq h.owns S 1 _ h.Sv,by simp[World.setCell];exact h.hB,by simp[World.setCell];exact h.Sl,h.Sv⟩
theorem Wm.set2 {w:World} {S B m hold held N:Nat} {v:Value} (h:Wm w S B m hold held N v) (held':Nat) {x:Int} (hx:x=(held':Nat)):Wm (w.setCell ⟨S,2,none⟩ (.int .i64 x)) S B m hold held' N v:=by
 subst hx;exact⟨(z8 _ (by omega)).trans h.c0,(z8 _ (by omega)).trans h.c1,World.cell?_setCell_same _ _ _ h.c2,fun i=>by rw[World.frozen?_setCell];exact h.fz i,h.row,uq h.owns S 2 _ h.Sv,by simp[World.setCell];exact h.hB,by simp[World.setCell];exact h.Sl,h.Sv⟩
theorem Wm.drew {w:World} {S B m hold held N:Nat} {v:Value} (h:Wm w S B m hold held N v):Wm w.drew S B m hold held N v:=⟨h.c0,h.c1,h.c2,h.fz,h.row,h.owns,h.hB,h.Sl,h.Sv⟩
theorem Ov (n m:Nat):n / 2 ^ (8*m) % 256=n / 256 ^ m % 256:=by rw[p256]
theorem NQ (n m:Nat):n / 2 ^ (8*m) / 256=n / 2 ^ (8*(m+1)):=by
 rw[WzJ,show 8*(m+1)=8*m+8 by omega,Wq1]
theorem zy1 (b:Bs) (x size:Nat):(b.num x size).n / 2 ^ (8*(b.k / 8))=b.n / 2 ^ (8*(b.k / 8))+x*2 ^ (b.k % 8):=by
 show (b.n+x*2 ^ b.k) / _=_;have e:b.k=8*(b.k / 8)+b.k % 8:=by omega
 have e2:x*2 ^ b.k=2 ^ (8*(b.k / 8))*(x*2 ^ (b.k % 8)):=by
  rw[show 2 ^ b.k=2 ^ (8*(b.k / 8))*2 ^ (b.k % 8) by rw[<-Wq1,<-e]];rw[<-Wyk,Wyv x,Wyk]
 rw[e2,Wy9 _ _ (Wqw _)]
theorem zjX (b:Bs) (x size:Nat):toB (b.num x size).n (b.k / 8)=toB b.n (b.k / 8):=by
 refine zjz _ _ _ ?_;show (b.n+x*2 ^ b.k) % _=_;obtain⟨r,hr⟩:∃ r,b.k=8*(b.k / 8)+r:=⟨b.k % 8,by omega⟩;have e2:x*2 ^ b.k=256 ^ (b.k / 8)*(x*2 ^ r):=by
  rw[p256,show 2 ^ b.k=2 ^ (8*(b.k / 8))*2 ^ r by rw[<-Wq1,<-hr]];rw[<-Wyk,Wyv x,Wyk]
 rw[e2,Wyz]
theorem Wm.grown {w wx w3:World} {S B m hold held N:Nat} {v:Value} (h:Wm w S B m hold held N v) (hx:w.grownBy wx none) (hg:wx.grownBy w3 v.ownBlock) (i:Nat):w3.cell? ⟨S,i,none⟩=w.cell? ⟨S,i,none⟩/\w3.frozen? ⟨S,i,none⟩=false:=by
 have blk:w3.heap[S]? = w.heap[S]? := (hg.block S (by have:=hx.size;have:=h.Sl;omega) h.Sv).trans (hx.block S h.Sl (by simp));exact⟨World.cell?_of_block (a:=⟨S,i,none⟩) blk,(World.frozen?_of_block (a:=⟨S,i,none⟩) blk).trans (h.fz i)⟩
theorem Wm.grow {w wx w3:World} {S B m hold held N:Nat} {v:Value} (h:Wm w S B m hold held N v) (hx:w.grownBy wx none) (hg:wx.grownBy w3 v.ownBlock) (g cp:Nat) (c:Int) (hown:w3.ownsRow B 5 1 (.slice (some ⟨g,0,none⟩) (m+1:Nat) cp) (m+1) ((toB N m).map (Value.int .u8)++[.int .u8 c])) (hat:v.ownBlock=some g ∨ g=wx.heap.size) (hc:c=((N / 256 ^ m % 256:Nat):Int)) :
  Wm (w3.setCell ⟨S,0,none⟩ (.slice (some ⟨g,0,none⟩) (m+1:Nat) cp)) S B (m+1) hold held N (.slice (some ⟨g,0,none⟩) (m+1:Nat) cp)/\Kept S v (.slice (some ⟨g,0,none⟩) (m+1:Nat) cp) w (w3.setCell ⟨S,0,none⟩ (.slice (some ⟨g,0,none⟩) (m+1:Nat) cp)):=by
 have hs1:=hx.size;have hs2:=hg.size;have hS:=h.Sl;have hBB:=h.hB;have hSg:S ≠ g:=fun e=>by
  rcases hat with e' | e'
  ·exact h.Sv (by rw[e',e])
  omega
 have blk:∀ k,k<w.heap.size->some k ≠ v.ownBlock->w3.heap[k]? = w.heap[k]? := fun k hk hne=>(hg.block k (by omega) hne).trans (hx.block k hk (by simp));have hSv:some S ≠ (Value.slice (some ⟨g,0,none⟩) (m+1:Nat) cp).ownBlock:=fun e=>hSg (by simpa [Value.ownBlock] using e)
 refine⟨⟨World.cell?_setCell_same _ _ _ ((h.grown hx hg 0).1.trans h.c0),(z8 _ (by omega)).trans ((h.grown hx hg 1).1.trans h.c1),(z8 _ (by omega)).trans ((h.grown hx hg 2).1.trans h.c2),fun i=>by rw[World.frozen?_setCell];exact(h.grown hx hg i).2,⟨_,_,rfl⟩,?_,by simp[World.setCell];omega,by simp[World.setCell];omega,hSv⟩,?_⟩
 ·have e:(toB N (m+1)).map (Value.int .u8)=(toB N m).map (Value.int .u8)++[.int .u8 c]:=by rw[Mq,hc];simp
  rw[e];exact uq hown S 0 _ hSv
 refine⟨hg.os.trans hx.os,hg.tape.trans hx.tape,hg.output.trans hx.output,by simp[World.setCell];omega,fun k h1 h2 h3=>(Below.heap_setCell w3 _ _ k h2).trans (blk k h1 h3),?_⟩;rcases hat with e | e
 ·exact .inl (by rw[e];rfl)
 exact .inr fun k hk=>by simp[Value.ownBlock] at hk;omega
theorem Zj (S B:Nat) (b:Bs) (x size:Nat) (v:Value) (w:World) (h:Wr w S B b v) (hx:x<2 ^ size) (hs:size<=16) (hm:b.k<=3200000) :
  Calls prog 26 #[.pointer (some ⟨S,0,none⟩),.int .i64 x,.int .i64 size] w fun ev w'=>ev=.returned (.tuple #[])/\∃ v',Wr w' S B (b.num x size) v'/\Kept S v v' w w':=by
 obtain⟨i5,hi,hz0,hz1,hz2⟩:=info_parts info5;obtain⟨hlt,hw⟩:=h;have HLT:Hid _:=Bs.num_lt hlt hx;obtain⟨held,HHE⟩:=nn_ (b.k % 8);obtain⟨m,HM⟩:=nn_ (b.k / 8);obtain⟨hold,HHO⟩:=nn_ (b.n / 2 ^ (8*(b.k / 8)));obtain⟨n',HN'⟩:=nn_ ((b.num x size).n);obtain⟨k',HK'⟩:=nn_ (b.k+size);have hkk:k'=8*m+held+size:=by rw[HK'.out,HM.out,HHE.out];omega
 have hh7:held<=7:=by rw[HHE.out];omega
 have hho:hold<2 ^ held:=by
  rw[HHO.out,HHE.out,WzK (Wqw _),<-Wq1];have e:b.k % 8+8*(b.k / 8)=b.k:=by omega
  rw[e];exact hlt
 have hsum:n' / 2 ^ (8*m)=hold+x*2 ^ held:=by rw[HN'.out,HM.out,HHO.out,HHE.out];exact zy1 b x size
 have HTB:Hid (toB b.n m=toB n' m):=by show _=_;rw[HN'.out,HM.out];exact(zjX b x size).symm
 have hw2:Wm w S B m hold held n' v:=by
  rw[<-HHO.out,<-HHE.out,<-HM.out] at hw;exact⟨hw.c0,hw.c1,hw.c2,hw.fz,hw.row,by rw[<-HTB.out];exact hw.owns,hw.hB,hw.Sl,hw.Sv⟩
 have HW:Hid _:=hw2;have c1:=hw2.c1;have c2:=hw2.c2;have f1:=hw2.fz 1;have f2:=hw2.fz 2;have hp2:2 ^ held<=128:=Wqk (n:=2) (by omega) hh7;have hps:2 ^ size<=65536:=Z9 hs;have hxp:x*2 ^ held<=65536*128:=Wyw (by omega) hp2;have hor:bits .or .i64 (hold:Int) (wrap64 ((x:Int)*2 ^ held))=((hold+x*2 ^ held:Nat):Int):=by
  have e:(x:Int)*2 ^ held=((x*2 ^ held:Nat):Int):=by push_cast;rfl
  rw[e,xJ,Plain.wrap_small _ (by omega),uQ _ _ (by omega) (by omega),Nat.or_comm,nat_join held _ _ (Nat.mul_mod_left _ _) hho,Nat.add_comm]
 clear hw hw2;go_enter func26,ntmps26;go_wp2_with fail
 refine x6 13 (by kernel_rfl) (by kernel_rfl) ?_;iterate 13 (refine yK rfl (fun K hK=>?_);go_simp;refine hK _ ?_;clear hK K)
 refine wpStill_nil ?_;go_wp2_with fail
 obtain⟨y,HY⟩:=nn_ (hold+x*2 ^ held);have hyz:(hold:Int)+(x:Int)*2 ^ held=(y:Int):=by rw[HY.out];push_cast;rfl
 have hyz2:((hold+x*2 ^ held:Nat):Int)=(y:Int):=by rw[HY.out]
 simp only[hor,hyz,hyz2];have HW1:Hid (Wm ((w.setCell ⟨S,1,none⟩ (.int .i64 (y:Int))).setCell ⟨S,2,none⟩ (.int .i64 ((held:Int)+size))).drew S B m y (held+size) n' v):=((HW.out.set y rfl).set2 (held+size) (by push_cast;rfl)).drew
 have HK1:Hid (Kept S v v w ((w.setCell ⟨S,1,none⟩ (.int .i64 (y:Int))).setCell ⟨S,2,none⟩ (.int .i64 ((held:Int)+size))).drew):=(((Kept.refl _ _ _).set 1 _).set 2 _).drew;generalize ((w.setCell ⟨S,1,none⟩ (.int .i64 (y:Int))).setCell ⟨S,2,none⟩ (.int .i64 ((held:Int)+size))).drew=wa at HW1 HK1 ⊢;have HYN:Hid (y=n' / 2 ^ (8*m)):=by show _=_;rw[HY.out,hsum]
 have HSUM:Hid _:=hsum;have HHO2:Hid _:=hho;clear hsum hho hor hyz hyz2 HW c1 c2 f1 f2 hxp;go_loopg [] (k' / 8-m) (fun k wr=>∃ (m':Nat) (v':Value),m<=m'/\m'<=k' / 8/\k=k' / 8-m'/\Hid (Wm wr S B m' (n' / 2 ^ (8*m')) (k'-8*m') n' v')/\Hid (Kept S v v' w wr));case atStart=>exact⟨m,v,WzV _,by omega,rfl,by rw[<-HYN.out,show k'-8*m=held+size by omega];exact HW1.out,HK1.out⟩
 clear HW1 HK1;obtain⟨m',v',hm1,hm2,hk,HW,HK⟩:=hrel;obtain⟨ho,HHOL⟩:=nn_ (n' / 2 ^ (8*m'));obtain⟨hd,HHD⟩:=nn_ (k'-8*m');rw[<-HHOL.out,<-HHD.out] at HW;have hhd:=HHD.out;have hhob:ho<16777216:=by
  have h1:=HLT.out;rw[HHOL.out,WzK (Wqw _)];have h2:n'<2 ^ k':=by rw[HN'.out,HK'.out];exact h1
  have h3:2 ^ k'<=2 ^ (24+8*m'):=Wqk (by omega) (by omega);rw[Wq1] at h3;exact Wqj h2 h3
 have c0:=HW.out.c0;have c1:=HW.out.c1;have c2:=HW.out.c2;have f0:=HW.out.fz 0;have f1:=HW.out.fz 1;have f2:=HW.out.fz 2;have hSl:=HW.out.Sl;by_cases h8:m'<k' / 8;rotate_left
 ·obtain rfl:m'=k' / 8:=by omega
  have hd7:(hd:Int)<8:=by omega
  go_wp2;go_end0;refine⟨rfl,v',⟨HLT.out,?_⟩,HK.out⟩;have e1:(b.num x size).k=k':=by rw[HK'.out];rfl
  rw[e1,<-HN'.out,<-HHOL.out,show k' % 8=hd by omega];exact HW.out
 have hd8:(8:Int)<=hd:=by omega
 obtain⟨a,cp,rfl⟩:=HW.out.row;obtain⟨by8,HBY⟩:=nn_ (ho % 256);have hby:IntKind.u8.wrap (ho:Int)=(by8:Int):=by rw[IntKind.wrap_u8,HBY.out];omega
 have hm4:m'<=400010:=by have:=HK'.out;omega
 have HBN:Hid ((by8:Int)=((n' / 256 ^ m' % 256:Nat):Int)):=by show _=_;rw[HBY.out,HHOL.out,Ov]
 have HOA:Hid ((wr.drew.alloc (.cells #[.int .u8 (by8:Int)] 5)).ownsRow B 5 1 (.slice a m' cp) m' ((toB n' m').map (Value.int .u8))):=HW.out.drew.owns.alloc _;have HCA:Hid ((wr.drew.alloc (.cells #[.int .u8 (by8:Int)] 5)).cell? ⟨wr.heap.size,0,none⟩=some (.int .u8 (by8:Int))):=(World.cell?_alloc_at (w:=wr.drew) _ _ _ 0 rfl).trans rfl
 have HBA:Hid (B<=(wr.drew.alloc (.cells #[.int .u8 (by8:Int)] 5)).heap.size):=by show _<=_;have:=HW.out.hB;simp;omega
 have d0:(wr.drew.alloc (.cells #[.int .u8 (by8:Int)] 5)).cell? ⟨S,0,none⟩=some (.slice a m' cp):=(World.cell?_alloc_lt _ _ ⟨S,0,none⟩ hSl).trans c0;have d1:(wr.drew.alloc (.cells #[.int .u8 (by8:Int)] 5)).cell? ⟨S,1,none⟩=some (.int .i64 (ho:Int)):=(World.cell?_alloc_lt _ _ ⟨S,1,none⟩ hSl).trans c1;go_wp2_with fail
 refine wp_region_held_drew (S:=fun w'=>w'.cell? ⟨S,1,none⟩=some (.int .i64 (ho:Int))) (by kernel_rfl) (by exact c1) (fun hHeld=>?_);refine wpAnyH_take (i:=0) (v:=?_) rfl (by kernel_rfl) (by kernel_rfl) (by kernel_rfl) (fun _ _ _ h=>h) (Or.inl ⟨by rfl,?_⟩) hHeld ?_;rotate_left
 ·intro w s1;go_simp;rfl
 try simp only[Act.put,sL]
 refine wpAnyH_take (i:=1) (v:=?_) rfl (by kernel_rfl) (by kernel_rfl) (by kernel_rfl) (fun _ _ _ h=>h) (Or.inl ⟨by rfl,?_⟩) hHeld ?_;rotate_left
 ·intro w s1;go_simp;rfl
 try simp only[Act.put,sL]
 refine wpAnyH_take (i:=2) (v:=?_) rfl (by kernel_rfl) (by kernel_rfl) (by kernel_rfl) (fun _ _ _ h=>h) (Or.inl ⟨by rfl,?_⟩) hHeld ?_;rotate_left
 ·intro w s1;go_simp;rfl
 try simp only[Act.put,sL]
 refine wpAnyH_take (i:=3) (v:=?_) rfl (by kernel_rfl) (by kernel_rfl) (by kernel_rfl) (fun _ _ _ h=>h) (Or.inl ⟨by rfl,?_⟩) hHeld ?_;rotate_left
 ·intro w s1;go_simp;rfl
 try simp only[Act.put,sL]
 refine wpAnyH_take (i:=5) (v:=?_) rfl (by kernel_rfl) (by kernel_rfl) (by kernel_rfl) (fun _ _ _ h=>h) (Or.inl ⟨by rfl,?_⟩) hHeld ?_;rotate_left
 ·intro w s1;go_simp;rfl
 try simp only[Act.put,sL]
 refine wpAnyH_take (i:=6) (v:=?_) rfl (by kernel_rfl) (by kernel_rfl) (by kernel_rfl) (fun _ _ _ h=>h) (Or.inl ⟨by rfl,?_⟩) hHeld ?_;rotate_left
 ·intro w s1;go_simp;rfl
 try simp only[Act.put,sL]
 refine wpAnyH_take (i:=7) (v:=?_) rfl (by kernel_rfl) (by kernel_rfl) (by kernel_rfl) (fun _ _ _ h=>h) (Or.inl ⟨by rfl,?_⟩) hHeld ?_;rotate_left
 ·intro w s1;go_simp;rfl
 try simp only[Act.put,sL]
 refine wpAnyH_take (i:=8) (v:=?_) rfl (by kernel_rfl) (by kernel_rfl) (by kernel_rfl) (fun _ _ _ h=>h) (Or.inl ⟨by rfl,?_⟩) hHeld ?_;rotate_left
 ·intro w s1;go_simp;rfl
 try simp only[Act.put,sL]
 refine wpAnyH_take (i:=9) (v:=?_) rfl (by kernel_rfl) (by kernel_rfl) (by kernel_rfl) (fun _ _ _ h=>h) (Or.inl ⟨by rfl,?_⟩) hHeld ?_;rotate_left
 ·intro w s1;go_simp;rfl
 try simp only[Act.put,sL]
 refine wpAnyH_ready (rs:=[4,10]) (by kernel_rfl) (by simp) ?_;refine AllReadyH.cons rfl (fun K hK=>?_) (AllReadyH.cons rfl (fun K hK=>?_) AllReadyH.nil)
 ·go_simp;refine hK.out _ _ hHeld (fun hHeld2=>?_);clear hK K;try simp only[Act.put,sL]
  refine wpAnyH_ready (rs:=[10]) (by kernel_rfl) (by simp) ?_;refine AllReadyH.cons rfl (fun K hK=>?_) AllReadyH.nil;go_simp;refine hK.out _ _ d1 (fun hHeld3=>?_);clear hK K;try simp only[Act.put,sL]
  refine wpAnyH_ready (rs:=[11]) (by kernel_rfl) (by simp) ?_;refine AllReadyH.cons rfl (fun K hK=>?_) AllReadyH.nil
  refine step_append_lies _ (by rfl) _ _ _ (by rfl) B 5 i5 (.int .u8 0) 1 1 underlying22 hi hz0 hz1 hz2 rfl (by omega) (.slice a m' cp) m' ((toB n' m').map (Value.int .u8)) (by rfl) (by exact HOA.out) ⟨wr.heap.size,0,none⟩ 1 1 [.int .u8 (by8:Nat)] (by rfl) rfl (by intro i u hu;match i,hu with | 0,hu=>simp at hu;subst hu;exact HCA.out) (by intro u hu;simp at hu;subst hu;rfl) (by omega) (by unfold maxLen;omega) (by omega) (by exact HBA.out) (wr.heap.size+1) (by simp) ?_
  intro g2 cp2 w5 hown1 hgrow hat hlt2;have hgx:wr.grownBy (wr.drew.alloc (.cells #[.int .u8 (by8:Int)] 5)) none:=let h:=World.grownBy_alloc wr.drew (.cells #[.int .u8 (by8:Int)] 5) none;⟨h.os,h.tape,h.output,h.size,h.block⟩;obtain⟨hw6,hk6⟩:=HW.out.grow hgx hgrow g2 cp2 (by8:Int) hown1 (by simpa using hat) HBN.out;obtain⟨e0,z0⟩:=HW.out.grown hgx hgrow 0
  obtain⟨e1,z1⟩:=HW.out.grown hgx hgrow 1;rw[c0] at e0;rw[c1] at e1;have HW6:Hid _:=hw6;have HK6:Hid _:=HK.out.trans hk6;clear hw6 hk6 hown1 hgrow hat hgx;refine hK.out _ _ e1 (fun hHeld4=>?_);clear hK K;try simp only[Act.put,sL]
  refine wpAnyH_take (i:=12) (v:=?_) rfl (by kernel_rfl) (by kernel_rfl) (by kernel_rfl) (fun _ _ _ h=>h) (Or.inl ⟨by rfl,?_⟩) hHeld4 ?_;rotate_left
  ·intro w s1;go_simp;rfl
  try simp only[Act.put,sL]
  refine wpAnyH_take (i:=13) (v:=?_) rfl (by kernel_rfl) (by kernel_rfl) (by kernel_rfl) (fun _ _ _ h=>h) (Or.inl ⟨by rfl,?_⟩) hHeld4 ?_;rotate_left
  ·intro w s1;go_simp;rfl
  try simp only[Act.put,sL]
  refine wpAnyH_ready (rs:=[14]) (by kernel_rfl) (by simp) ?_;refine AllReadyH.cons rfl (fun K hK=>?_) AllReadyH.nil;go_simp;refine hK.out _ _ ((z8 _ (by omega)).trans e1) (fun hHeld5=>?_);clear hK K;try simp only[Act.put,sL]
  refine wpAnyH_done (by kernel_rfl) ?_ _;clear hHeld hHeld2 hHeld3 hHeld4 hHeld5 e0 e1 z0 z1 d0 d1 c0 c1 c2 f0 f1 f2;have c1:=HW6.out.c1;have c2:=HW6.out.c2;have f1:=HW6.out.fz 1;have f2:=HW6.out.fz 2;generalize w5.setCell ⟨S,0,none⟩ (.slice (some ⟨g2,0,none⟩) (m'+1:Nat) cp2)=w6 at HW6 HK6 c1 c2 f1 f2 ⊢;go_wp2;go_roundg (k' / 8-(m'+1));case measure=>omega
  refine⟨m'+1,_,by omega,by omega,rfl,?_,(HK6.out.set 1 _).set 2 _⟩;rw[<-NQ,<-HHOL.out,show k'-8*(m'+1)=hd-8 by omega];exact(HW6.out.set (ho / 256) (by push_cast;first | rfl | omega)).set2 (hd-8) (by first | omega | (push_cast;omega))
 go_simp;refine hK.out _ _ d1 (fun hHeld2=>?_);clear hK K;try simp only[Act.put,sL]
 refine wpAnyH_ready (rs:=[4]) (by kernel_rfl) (by simp) ?_;refine AllReadyH.cons rfl (fun K hK=>?_) AllReadyH.nil;go_simp;refine hK.out _ _ d1 (fun hHeld3=>?_);clear hK K;try simp only[Act.put,sL]
 refine wpAnyH_ready (rs:=[11]) (by kernel_rfl) (by simp) ?_;refine AllReadyH.cons rfl (fun K hK=>?_) AllReadyH.nil
 refine step_append_lies _ (by rfl) _ _ _ (by rfl) B 5 i5 (.int .u8 0) 1 1 underlying22 hi hz0 hz1 hz2 rfl (by omega) (.slice a m' cp) m' ((toB n' m').map (Value.int .u8)) (by rfl) (by exact HOA.out) ⟨wr.heap.size,0,none⟩ 1 1 [.int .u8 (by8:Nat)] (by rfl) rfl (by intro i u hu;match i,hu with | 0,hu=>simp at hu;subst hu;exact HCA.out) (by intro u hu;simp at hu;subst hu;rfl) (by omega) (by unfold maxLen;omega) (by omega) (by exact HBA.out) (wr.heap.size+1) (by simp) ?_
 intro g2 cp2 w5 hown1 hgrow hat hlt2;have hgx:wr.grownBy (wr.drew.alloc (.cells #[.int .u8 (by8:Int)] 5)) none:=let h:=World.grownBy_alloc wr.drew (.cells #[.int .u8 (by8:Int)] 5) none;⟨h.os,h.tape,h.output,h.size,h.block⟩;obtain⟨hw6,hk6⟩:=HW.out.grow hgx hgrow g2 cp2 (by8:Int) hown1 (by simpa using hat) HBN.out;obtain⟨e0,z0⟩:=HW.out.grown hgx hgrow 0
 obtain⟨e1,z1⟩:=HW.out.grown hgx hgrow 1;rw[c0] at e0;rw[c1] at e1;have HW6:Hid _:=hw6;have HK6:Hid _:=HK.out.trans hk6;clear hw6 hk6 hown1 hgrow hat hgx;refine hK.out _ _ e1 (fun hHeld4=>?_);clear hK K;try simp only[Act.put,sL]
 refine wpAnyH_take (i:=12) (v:=?_) rfl (by kernel_rfl) (by kernel_rfl) (by kernel_rfl) (fun _ _ _ h=>h) (Or.inl ⟨by rfl,?_⟩) hHeld4 ?_;rotate_left
 ·intro w s1;go_simp;rfl
 try simp only[Act.put,sL]
 refine wpAnyH_take (i:=13) (v:=?_) rfl (by kernel_rfl) (by kernel_rfl) (by kernel_rfl) (fun _ _ _ h=>h) (Or.inl ⟨by rfl,?_⟩) hHeld4 ?_;rotate_left
 ·intro w s1;go_simp;rfl
 try simp only[Act.put,sL]
 refine wpAnyH_ready (rs:=[14]) (by kernel_rfl) (by simp) ?_;refine AllReadyH.cons rfl (fun K hK=>?_) AllReadyH.nil;go_simp;refine hK.out _ _ ((z8 _ (by omega)).trans e1) (fun hHeld5=>?_);clear hK K;try simp only[Act.put,sL]
 refine wpAnyH_done (by kernel_rfl) ?_ _;clear hHeld hHeld2 hHeld3 hHeld4 hHeld5 e0 e1 z0 z1 d0 d1 c0 c1 c2 f0 f1 f2;have c1:=HW6.out.c1;have c2:=HW6.out.c2;have f1:=HW6.out.fz 1;have f2:=HW6.out.fz 2;generalize w5.setCell ⟨S,0,none⟩ (.slice (some ⟨g2,0,none⟩) (m'+1:Nat) cp2)=w6 at HW6 HK6 c1 c2 f1 f2 ⊢;go_wp2;go_roundg (k' / 8-(m'+1));case measure=>omega
 case rel =>
 refine⟨m'+1,_,by omega,by omega,rfl,?_,(HK6.out.set 1 _).set 2 _⟩;rw[<-NQ,<-HHOL.out,show k'-8*(m'+1)=hd-8 by omega];exact(HW6.out.set (ho / 256) (by push_cast;first | rfl | omega)).set2 (hd-8) (by first | omega | (push_cast;omega))
theorem zy2 (S B:Nat) (b:Bs) (v:Value) (w:World) (h:Wr w S B b v) (hm:b.k<=3200000) :
  Calls prog 33 #[.pointer (some ⟨S,0,none⟩)] w fun ev w'=>∃ v',ev=.returned v'/\Kept S v v' w w'/\w'.ownsRow B 5 1 v' ((b.k+7) / 8) ((toB b.n ((b.k+7) / 8)).map (Value.int .u8)):=by
 have HH:Hid _:=h;have c2:=h.2.c2;have c0:=h.2.c0;obtain⟨held,HHE⟩:=nn_ (b.k % 8);rw[<-HHE.out] at c2;have hh7:held<=7:=by rw[HHE.out];omega
 clear h;by_cases h0:held=0
 ·have hk8:(b.k+7) / 8=b.k / 8:=by have:=HHE.out;omega
  subst h0;rw[hk8];have HOW:Hid _:=HH.out.2.owns;go_enter func33,ntmps33;go_wp2;go_ret;exact⟨v,rfl,Kept.refl _ _ _,HOW.out⟩
 have hk8:(b.k+7) / 8=(b.num 0 (8-held)).k / 8:=by show _=(b.k+(8-held)) / 8;have:=HHE.out;omega
 have hn8:b.n=(b.num 0 (8-held)).n:=by show _=b.n+0*_;omega
 rw[hk8,hn8];obtain⟨sz,HSZ⟩:=nn_ (8-held);have hsz:(8:Int)-(held:Int)=(sz:Int):=by rw[HSZ.out];omega
 have N1:=Zj S B b 0 sz v w HH.out (Wqw _) (by have:=HSZ.out;omega) hm;rw[<-HSZ.out];have h0Z:(0:Int)<held:=by omega
 clear hk8 hn8 c0;go_enter func33,ntmps33;go_wp2_with (go_at_call 26;refine N1.mono ?_;clear N1;rintro ev w1 ⟨rfl,v1,hW1,hK1⟩;have c0:=hW1.2.c0;have HW1:Hid _:=hW1;have HK1:Hid _:=hK1;clear hW1 hK1)
 go_ret;exact⟨v1,rfl,HK1.out,HW1.out.2.owns⟩
theorem Wr.drewN {w:World} {S B:Nat} {b:Bs} {v:Value} (h:Wr w S B b v) (q:Nat):Wr (w.drewN q) S B b v:=⟨h.1,h.2.c0,h.2.c1,h.2.c2,h.2.fz,h.2.row,h.2.owns,h.2.hB,h.2.Sl,h.2.Sv⟩
theorem Wr.drew {w:World} {S B:Nat} {b:Bs} {v:Value} (h:Wr w S B b v):Wr w.drew S B b v:=⟨h.1,h.2.drew⟩
def zy3 (S B:Nat) (b:Bs) (v:Value) (w:World) (ev:Ending) (w':World):Prop:=ev=.returned (.tuple #[])/\∃ v',Wr w' S B b v'/\Kept S v v' w w'
theorem Fz (S B:Nat) (b:Bs) (x size:Nat) (v:Value) (w:World) (h:Wr w S B b v) (hx:x<2 ^ size) (hs:size<=9) (hm:b.k<=3200000) :
  Calls prog 55 #[.pointer (some ⟨S,0,none⟩),.int .i64 x,.int .i64 size] w (zy3 S B (b.num (xu size x) size) v w):=by
 have hx5:x<512:=Wqj hx (Wqk (n:=2) (j:=9) (by omega) hs);have R1:=Oz x w hx5;obtain⟨y,HY⟩:=nn_ (xu size x);rw[<-HY.out];have hyl:y<2 ^ size:=by rw[HY.out];exact ux _ _
 have N1:∀ q,_:=fun q=>Zj S B b y size v (w.drewN q) (h.drewN q) hyl (by omega) hm;obtain⟨R,HR⟩:=nn_ (xu 16 x);rw[<-HR.out] at R1;obtain⟨sz,HSZ⟩:=nn_ (16-size);have hsz:(16:Int)-(size:Int)=(sz:Int):=by rw[HSZ.out];omega
 have hdiv:(R:Int) / 2 ^ sz=(y:Int):=by
  rw[HSZ.out,HY.out,<-zqJ (by omega) hx,HR.out];push_cast;rfl
 have hy9:y<512:=Wqj hyl (Wqk (n:=2) (j:=9) (by omega) hs);have hsz16:sz<=16:=by rw[HSZ.out];omega
 clear hx h hyl;go_enter func55,ntmps55;go_wp2_with (first | (go_at_call 82;refine R1.mono ?_;clear R1;rintro ev w1 ⟨rfl,nq,rfl⟩) | (go_at_call 26;refine(N1 _).mono ?_;clear N1;rintro ev w1 ⟨rfl,v1,hW1,hK1⟩;have HW1:Hid _:=hW1;have HK1:Hid (Kept S v v1 w w1):=((Kept.refl _ _ _).drewN _).trans hK1;clear hW1 hK1))
 go_end0;exact⟨rfl,v1,HW1.out,HK1.out⟩
theorem W7 (S B:Nat) (b:Bs) (s:Nat) (v:Value) (w:World) (h:Wr w S B b v) (hs:s<288) (hm:b.k<=3200000) :
  Calls prog 31 #[.pointer (some ⟨S,0,none⟩),.int .i64 s] w (zy3 S B (b.sym s) v w):=by
 have F1:=Xj s w hs;have C1:=Fz S B b (Y3 s) (y9 s) v w h (Oq hs) (vQ s).2 hm;go_enter func31,ntmps31;go_wp2_with (first | (go_at_call 56;refine F1.mono ?_;clear F1;rintro ev w1 ⟨rfl,rfl⟩) | (go_at_call 55;refine C1.mono ?_;clear C1;rintro ev w1 ⟨rfl,v1,hW1,hK1⟩;have HW1:Hid _:=hW1;have HK1:Hid _:=hK1;clear hW1 hK1))
 go_end0;exact⟨rfl,v1,HW1.out,HK1.out⟩
structure jV (w:World):Prop where
 t2:∀ i,i<29->w.cell? ⟨1,i,none⟩=some (.int .i64 (lenStart.getD i 0:Nat))
 t3:∀ i,i<29->w.cell? ⟨2,i,none⟩=some (.int .i64 (lenBits.getD i 0:Nat))
 t4:∀ i,i<30->w.cell? ⟨3,i,none⟩=some (.int .i64 (distStart.getD i 0:Nat))
 t5:∀ i,i<30->w.cell? ⟨4,i,none⟩=some (.int .i64 (distBits.getD i 0:Nat))
 lt:5<w.heap.size
theorem jV.kept {w w':World} {S:Nat} {v v':Value} (h:jV w) (hk:Kept S v v' w w') (hS:5<S) (hv:∀ k,v.ownBlock=some k->5<k):jV w':=by
 have hl:=h.lt;have c:∀ b i,b<=5->w'.cell? ⟨b,i,none⟩=w.cell? ⟨b,i,none⟩:=fun b i hb=>hk.cell (p:=⟨b,i,none⟩) (by show b<_;omega) (by show b ≠ S;omega) (by intro e;have:=hv b e.symm;omega)
 exact⟨fun i hi=>(c 1 i (by omega)).trans (h.t2 i hi),fun i hi=>(c 2 i (by omega)).trans (h.t3 i hi),fun i hi=>(c 3 i (by omega)).trans (h.t4 i hi),fun i hi=>(c 4 i (by omega)).trans (h.t5 i hi),by have:=hk.size;omega⟩
theorem Wr.vge {w:World} {S B:Nat} {b:Bs} {v:Value} (h:Wr w S B b v):∀ k,v.ownBlock=some k->B<=k:=by
 intro k hk;rcases h.2.owns.2 with ⟨hv,_⟩ | ⟨g,cap,cur,hv,hb,hg,_⟩
 ·rw[hv] at hk;cases hk
 rw[hv] at hk;simp only[Value.ownBlock,Wq9.injEq] at hk;omega
theorem MX {l:List Nat} {x:Nat} (h0:l.getD 0 0<=x):∀ j,x<l.getD j 0->0<j/\top l x j=top l x (j-1)
 | 0,h=>by omega
 | j+1,h=>⟨by omega,by rw[top,if_pos h];rfl⟩
theorem MJ {l:List Nat} {x:Nat} : ∀ j,¬ x<l.getD j 0->top l x j=j
 | 0,_=>rfl
 | j+1,h=>by rw[top,if_neg h]
theorem zy4 (S B:Nat) (b:Bs) (l d:Nat) (v:Value) (w:World) (h:Wr w S B b v) (ht:jV w) (hS:5<S) (hB:5<B) (hl:l<259) (hl3:3<=l) (h1:1<=d) (h2:d<=32768) (hm:b.k<=3000000) :
  Calls prog 30 #[.pointer (some ⟨S,0,none⟩),.int .i64 l,.int .i64 d] w (zy3 S B (b.dup l d) v w):=by
 obtain⟨a1,a2,a3,a4⟩:=R8 l hl hl3;obtain⟨e1,e2,e3,e4⟩:=JQ d h1 h2;have HH:Hid _:=h;have HT:Hid _:=ht;have HDUP:Hid (b.dup l d=(((b.sym (257+xq l)).num (l-lenStart.getD (xq l) 0) (lenBits.getD (xq l) 0)).num (xu 5 (yX d)) 5).num (d-distStart.getD (yX d) 0) (distBits.getD (yX d) 0)):=rfl;obtain⟨c,HC⟩:=nn_ (xq l);obtain⟨dc,HDC⟩:=nn_ (yX d)
 rw[<-HC.out] at a1 a2 a3 a4;rw[<-HDC.out] at e1 e2 e3 e4;obtain⟨ls,HLS⟩:=nn_ (lenStart.getD c 0);obtain⟨lb,HLB⟩:=nn_ (lenBits.getD c 0);obtain⟨ds,HDS⟩:=nn_ (distStart.getD dc 0);obtain⟨db,HDB⟩:=nn_ (distBits.getD dc 0);rw[<-HLS.out] at a2 a3;rw[<-HLB.out] at a3 a4;rw[<-HDS.out] at e2 e3;rw[<-HDB.out] at e3 e4;obtain⟨s,HSS⟩:=nn_ (257+c)
 have hsZ:(257:Int)+(c:Int)=(s:Int):=by rw[HSS.out];push_cast;rfl
 obtain⟨le,HLE⟩:=nn_ (l-ls);have hleZ:(l:Int)-(ls:Int)=(le:Int):=by rw[HLE.out];omega
 obtain⟨de,HDE⟩:=nn_ (d-ds);have hdeZ:(d:Int)-(ds:Int)=(de:Int):=by rw[HDE.out];omega
 have hlb5:lb<=5:=by rw[HLB.out];exact(uJ c (by omega)).2.1
 have hls9:ls<=258:=by rw[HLS.out];exact(uJ c (by omega)).1
 have hds9:ds<=24577:=by rw[HDS.out];exact(uJ dc (by omega)).2.2.1
 have hf9:=(vQ s).2;have SY:=W7 S B b s v w h (by have:=HSS.out;omega) (by omega);have HA3:Hid (le<2 ^ lb):=by show _<_;rw[HLE.out];exact a3
 have HE3:Hid (de<2 ^ db):=by show _<_;rw[HDE.out];exact e3
 have hle258:le<=258:=by rw[HLE.out];omega
 have hde:de<=32768:=by rw[HDE.out];omega
 clear h ht a3 e3 a4;go_enter func30,ntmps30;go_wp2_with fail
 go_loopg [6] 28 (fun k n wr=>∃ j:Nat,j<=28/\n=.int .i64 j/\k=j/\wr=w/\Hid (top lenStart l j=c));case atStart=>exact⟨28,by omega,rfl,rfl,rfl,HC.out.symm⟩
 obtain⟨j,hj,rfl,hk,rfl,HTO⟩:=hrel;have hj9:(j:Int)<29:=by omega
 have cj:=HT.out.t2 j (by omega);obtain⟨x,HX⟩:=nn_ (lenStart.getD j 0);rw[<-HX.out] at cj;by_cases hx:l<x
 ·have hxZ:(l:Int)<x:=by omega
  obtain⟨hj0,hj1⟩:=MX (l:=lenStart) (x:=l) (show 3<=l from hl3) j (by rw[<-HX.out];exact hx);clear HX;go_wp2_with fail
  go_roundg (j-1);case measure=>omega
  case rel=>exact⟨j-1,by omega,by first | rfl | go_num | (congr 1;omega),rfl,rfl,by rw[<-hj1];exact HTO.out⟩
 have hxZ:¬ (l:Int)<x:=by omega
 have hjc:j=c:=by rw[<-HTO.out,MJ j (by rw[<-HX.out];exact hx)]
 clear HTO HX;subst hjc;go_wp2_with (go_at_call 31;refine SY.mono ?_;clear SY;rintro ev w1 ⟨rfl,v1,hW1,hK1⟩;have HW1:Hid _:=hW1;have HK1:Hid _:=hK1;have HT1:Hid (jV w1):=HT.out.kept hK1 hS (fun k hk=>by have:=Wr.vge HH.out k hk;omega);clear hW1 hK1 cj HH HT)
 have c2:=HT1.out.t2 j a1;have c3:=HT1.out.t3 j a1;rw[<-HLS.out] at c2;rw[<-HLB.out] at c3;have hk1:(b.sym s).k<=3000009:=by rw[UK];omega
 refine x6 9 (by kernel_rfl) (by kernel_rfl) ?_;iterate 9 (refine yK rfl (fun K hK=>?_);go_simp;refine hK _ ?_;clear hK K)
 refine wpStill_nil ?_
 go_wp2_with (go_at_call 26;refine(Zj S B (b.sym s) le lb v1 _ ?_ HA3.out (by omega) (by omega)).mono ?_;(first | exact HW1.out | exact Wr.drewN HW1.out _ | exact Wr.drew HW1.out);rintro ev w2 ⟨rfl,v2,hW2,hK2⟩;have hK2':Kept S v1 v2 w1 w2:=(by first | exact hK2 | exact(Kept.refl _ _ _).drew.trans hK2 | exact((Kept.refl _ _ _).drewN _).trans hK2);have HW2:Hid _:=hW2;have HK2:Hid _:=HK1.out.trans hK2';have HT2:Hid (jV w2):=HT1.out.kept hK2' hS (fun k hk=>by have:=Wr.vge HW1.out k hk;omega);clear hW2 hK2 hK2' c2 c3 HK1 HT1 HW1)
 have HB2:Hid ((((b.sym s).num le lb).num (xu 5 dc) 5).num de db=b.dup l d):=by show _=_;rw[HDUP.out,<-HC.out,<-HDC.out,<-HLS.out,<-HLB.out,<-HDS.out,<-HDB.out,<-HSS.out,<-HLE.out,<-HDE.out]
 obtain⟨b2,HBB⟩:=nn_ ((b.sym s).num le lb);rw[<-HBB.out] at HW2 HB2;have hk2:b2.k<=3000014:=by rw[HBB.out];show (b.sym s).k+lb<=_;omega
 have HD0:Hid (1<=d):=h1;clear HDUP HC HLS HLB HSS HLE HDE HBB hk1 hx hxZ hsZ hleZ HA3 HD0;go_loopg [6] 29 (fun k n wz=>∃ i:Nat,i<=29/\n=.int .i64 i/\k=i/\wz=w2/\Hid (top distStart d i=dc));case atStart=>exact⟨29,by omega,rfl,rfl,rfl,HDC.out.symm⟩
 case round =>
 obtain⟨i,hi,rfl,hki,rfl,HTO⟩:=hrel;have hi9:(i:Int)<30:=by omega
 have cj:=HT2.out.t4 i (by omega);obtain⟨y,HX⟩:=nn_ (distStart.getD i 0);rw[<-HX.out] at cj;by_cases hx:d<y
 ·have hxZ:(d:Int)<y:=by omega
  obtain⟨hj0,hj1⟩:=MX (l:=distStart) (x:=d) (show 1<=d from h1) i (by rw[<-HX.out];exact hx);clear HX;go_wp2_with fail
  go_roundg (i-1);case measure=>omega
  case rel=>exact⟨i-1,by omega,by first | rfl | go_num | (congr 1;omega),rfl,rfl,by rw[<-hj1];exact HTO.out⟩
 have hxZ:¬ (d:Int)<y:=by omega
 have hjc:i=dc:=by rw[<-HTO.out,MJ i (by rw[<-HX.out];exact hx)]
 clear HTO HX;subst hjc;go_wp2_with (go_at_call 55;refine(Fz S B b2 i 5 v2 _ HW2.out (by omega) (by omega) (by omega)).mono ?_;rintro ev w3 ⟨rfl,v3,hW3,hK3⟩;have HW3:Hid _:=hW3;have HK3:Hid _:=HK2.out.trans hK3;have HT3:Hid (jV w3):=HT2.out.kept hK3 hS (fun k hk=>by have:=Wr.vge HW2.out k hk;omega);clear hW3 hK3 cj HT2 HK2 HW2)
 have c2:=HT3.out.t4 i e1;have c3:=HT3.out.t5 i e1;rw[<-HDS.out] at c2;rw[<-HDB.out] at c3;have hk3:(b2.num (xu 5 i) 5).k<=3000019:=by show b2.k+5<=_;omega
 refine x6 9 (by kernel_rfl) (by kernel_rfl) ?_;iterate 9 (refine yK rfl (fun K hK=>?_);go_simp;refine hK _ ?_;clear hK K)
 refine wpStill_nil ?_
 go_wp2_with (go_at_call 26;refine(Zj S B _ de db v3 _ ?_ HE3.out (by omega) (by first | exact Nat.le_trans hk3 (by omega))).mono ?_;(first | exact HW3.out | exact Wr.drewN HW3.out _ | exact Wr.drew HW3.out);rintro ev w4 ⟨rfl,v4,hW4,hK4⟩;have hK4':Kept S v3 v4 w3 w4:=(by first | exact hK4 | exact(Kept.refl _ _ _).drew.trans hK4 | exact((Kept.refl _ _ _).drewN _).trans hK4);have HW4:Hid _:=hW4;have HK4:Hid _:=HK3.out.trans hK4';clear hW4 hK4 hK4' c2 c3)
 go_end0;exact⟨rfl,v4,by rw[<-HB2.out];exact HW4.out,HK4.out⟩
end Go.Proofs.YtiaaekdpfpaigaaGreatDoor.Df
