import Derived.Test.YtiaaekdpfpaigaaGreatDoorMn14
set_option linter.unusedSimpArgs false
set_option linter.unusedVariables false
set_option maxRecDepth 20000
set_option maxHeartbeats 4000000
open List renaming append_assoc->Wz1,cons_append->Wz3,length_append->Wz6,length_singleton->Wx4,map_append->Wy4,nil_append->Wzx,singleton_append->Wzj
open Nat renaming div_lt_iff_lt_mul->WzK,le_trans->Wqx,pow_succ->Wqv
namespace Go.Proofs.YtiaaekdpfpaigaaGreatDoor.Pk
open Go.Proofs.Tryz
def wk:Nat->Nat->Nat->List Int
 | 0,x,_=>[(x:Int)]
 | f+1,x,m=>if m=0 then [(x:Int)] else ((x+128:Nat):Int) :: wk f (m % 128) (m / 128)
def kd (k n:Nat):List Int:=wk 4 (k*16+n % 16) (n / 16)
theorem zyK:∀ (f g x m:Nat),m<128 ^ g->(wk f x m).length<=g+1
 | 0,g,x,m,h=>by simp[wk]
 | f+1,0,x,m,h=>by rw[wk,if_pos (by simpa using h)];simp
 | f+1,g+1,x,m,h=>by
  rw[wk];split
  ·simp
  have:=zyK f g (m % 128) (m / 128) (by rw[WzK (by omega)];rw[Wqv] at h;exact h);simp;omega
theorem Ww (k n:Nat) (h:n<262144):(kd k n).length<=3:=by
 have:=zyK 4 2 (k*16+n % 16) (n / 16) (by omega);unfold kd;omega
theorem Fw:∀ (f x m:Nat),x<128->∀ y ∈ wk f x m,0<=y/\y<256
 | 0,x,m,hx,y,hy=>by simp[wk] at hy;omega
 | f+1,x,m,hx,y,hy=>by
  rw[wk] at hy;split at hy
  ·simp at hy;omega
  rcases List.mem_cons.1 hy with rfl | hy
  ·omega
  exact Fw f _ _ (by omega) y hy
theorem zk1 (k n:Nat) (hk:k<8):∀ y ∈ kd k n,0<=y/\y<256:=Fw _ _ _ (by omega)
def rk:Nat->Nat->Nat->List Int->Option (Nat × List Int)
 | 0,_,_,_=>none
 | f+1,s,a,[]=>none
 | f+1,s,a,x :: l=>if 128<=x then rk f (s+7) (a+(x.toNat-128)*2 ^ s) l else if x=0 then none else some (a+x.toNat*2 ^ s,l)
def rkd:List Int->Option (Nat × Nat × List Int)
 | []=>none
 | x :: l=>if 128<=x then (rk 4 4 (x.toNat % 16) l).map fun p=>(x.toNat / 16 % 8,p) else some (x.toNat / 16 % 8,x.toNat % 16,l)
theorem qqz:∀ (f s a x m:Nat) (rest:List Int),x<128->m<128 ^ f->(m=0->x ≠ 0)->rk (f+1) s a (wk f x m++rest)=some (a+(x+m*128)*2 ^ s,rest)
 | 0,s,a,x,m,rest,hx,hm,h0=>by
  have:m=0:=by simpa using hm
  subst this
  rw[wk,Wzj,rk,if_neg (by omega),if_neg (by have:=h0 rfl;omega)]
  simp
 | f+1,s,a,x,m,rest,hx,hm,h0=>by
  rw[wk]
  by_cases e:m=0
  ·subst e
   rw[if_pos rfl,Wzj,rk,if_neg (by omega),if_neg (by have:=h0 rfl;omega)]
   simp
  ·rw[if_neg e,Wz3,rk,if_pos (by omega)]
   have hd:m / 128<128 ^ f:=by rw[WzK (by omega)];rw[Wqv] at hm;exact hm
   rw[qqz f (s+7) _ (m % 128) (m / 128) rest (by omega) hd (by omega)]
   have h1:(((x+128:Nat):Int)).toNat-128=x:=by omega
   rw[h1,show m % 128+m / 128*128=m by omega,show 2 ^ (s+7)=128*2 ^ s by rw[Nat.pow_add];omega,Nat.add_assoc,Nat.add_mul,<-Nat.mul_assoc]
theorem qyZ (k n:Nat) (rest:List Int) (hk:k<8) (hk0:0<k) (hn:n<262144):rkd (kd k n++rest)=some (k,n,rest):=by
 unfold kd;rw[wk];by_cases e:n / 16=0
 ·rw[if_pos e,Wzj,rkd,if_neg (by omega)];have h1:((k*16+n % 16:Nat):Int).toNat=k*16+n % 16:=by omega
  rw[h1,show (k*16+n % 16) / 16 % 8=k by omega,show (k*16+n % 16) % 16=n by omega]
 rw[if_neg e,Wz3,rkd,if_pos (by omega)];have h1:((k*16+n % 16+128:Nat):Int).toNat=k*16+n % 16+128:=by omega
 rw[h1,qqz 3 4 _ (n / 16 % 128) (n / 16 / 128) rest (by omega) (by omega) (by omega)];simp only[Option.map_some];rw[show (k*16+n % 16+128) / 16 % 8=k by omega,show (k*16+n % 16+128) % 16+(n / 16 % 128+n / 16 / 128*128)*2 ^ 4=n by omega]
def ds:Nat->Nat->Nat->List Int
 | 0,n,m=>[((n % 128+m:Nat):Int)]
 | f+1,n,m=>(if 128<=n then ds f (n / 128-1) 128 else [])++[((n % 128+m:Nat):Int)]
theorem Wy:∀ (f n m:Nat),(ds f n m).length<=f+1
 | 0,n,m=>by simp[ds]
 | f+1,n,m=>by
  rw[ds];have:=Wy f (n / 128-1) 128;split <;> simp <;> omega
theorem Fy:∀ (f n m:Nat),m<=128->∀ y ∈ ds f n m,0<=y/\y<256
 | 0,n,m,h,y,hy=>by simp[ds] at hy;omega
 | f+1,n,m,h,y,hy=>by
  rw[ds] at hy;rcases List.mem_append.1 hy with hy | hy
  ·split at hy
   ·exact Fy f _ 128 (by omega) y hy
   cases hy
  simp at hy;omega
def rd:Nat->Nat->List Int->Option (Nat × List Int)
 | 0,_,_=>none
 | f+1,a,[]=>none
 | f+1,a,x :: l=>if x<128 then some (a*128+x.toNat,l) else rd f (a*128+(x.toNat-128)+1) l
def lim:Nat->Nat
 | 0=>128
 | f+1=>128*(lim f+1)
theorem Fu:∀ (f n g:Nat) (rest:List Int),n<lim f->rd (g+(ds f n 128).length) 0 (ds f n 128++rest)=rd g (n+1) rest
 | 0,n,g,rest,h=>by
  have h:n<128:=h
  simp only[ds,Wx4,Wzj]
  rw[rd,if_neg (by omega),show 0*128+(((n % 128+128:Nat):Int).toNat-128)+1=n+1 by omega]
 | f+1,n,g,rest,h=>by
  rw[ds]
  have h:n<128*(lim f+1):=h
  split
  ·rw[Wz6,Wz1,Wx4,show g+((ds f (n / 128-1) 128).length+1)=(g+1)+(ds f (n / 128-1) 128).length by omega,Fu f _ (g+1) _ (by omega),Wzj,rd,if_neg (by omega),show (n / 128-1+1)*128+(((n % 128+128:Nat):Int).toNat-128)+1=n+1 by omega]
  ·simp only[Wzx,Wx4,Wzj]
   rw[rd,if_neg (by omega),show 0*128+(((n % 128+128:Nat):Int).toNat-128)+1=n+1 by omega]
theorem rd_ds (f n g:Nat) (rest:List Int) (h:n<lim (f+1)):rd (g+(ds (f+1) n 0).length) 0 (ds (f+1) n 0++rest)=some (n,rest):=by
 rw[ds];have h:n<128*(lim f+1):=h;split
 ·rw[Wz6,Wz1,Wx4,show g+((ds f (n / 128-1) 128).length+1)=(g+1)+(ds f (n / 128-1) 128).length by omega,Fu f _ (g+1) _ (by omega),Wzj,rd,if_pos (by omega)];congr 2;omega
 simp only[Wzx,Wx4,Wzj];rw[rd,if_pos (by omega)];congr 2;omega
theorem FZ:2113664<=lim (2+1):=by decide +kernel
theorem zk2 (n:Nat) (rest:List Int) (h:n<2113664):rd 4 0 (ds 3 n 0++rest)=some (n,rest):=by
 obtain⟨L,hL⟩:∃ L,L=(ds 3 n 0).length:=⟨_,rfl⟩;have hl:L<=4:=by rw[hL];exact Wy 3 n 0
 have t:=rd_ds 2 n (4-L) rest (Nat.lt_of_lt_of_le h FZ);rw[show (2+1:Nat)=3 from rfl,<-hL,show 4-L+L=4 by omega] at t;exact t
end Go.Proofs.YtiaaekdpfpaigaaGreatDoor.Pk
namespace Go.Proofs.YtiaaekdpfpaigaaGreatDoor.Pk
open Go.Proofs.Tryz
open Go.RowKit Go.Maps Dl Dl.Plain
theorem hid {p:Prop} (h:p):Hid p:=h
theorem qyQ (x:Nat) (h:x<128):bits .or .u8 ((x:Nat):Int) 128=((x+128:Nat):Int):=by
 have t:∀ x,x<128->bits .or .u8 ((x:Nat):Int) 128=((x+128:Nat):Int):=by decide +kernel
 exact t x h
theorem zyV (x:Nat) (h:x<256):bits .andNot .u8 ((x:Nat):Int) 128=((x % 128:Nat):Int):=by
 have t:∀ x,x<256->bits .andNot .u8 ((x:Nat):Int) 128=((x % 128:Nat):Int):=by decide +kernel
 exact t x h
theorem qqq (x:Nat) (h:x<256):bits .and .u8 ((x:Nat):Int) 15=((x % 16:Nat):Int):=by
 have t:∀ x,x<256->bits .and .u8 ((x:Nat):Int) 15=((x % 16:Nat):Int):=by decide +kernel
 exact t x h
theorem orK (k y:Nat) (hk:k<8) (hy:y<16):bits .or .u8 ((k*16:Nat):Int) ((y:Nat):Int)=((k*16+y:Nat):Int):=by
 have t:∀ k,k<8->∀ y,y<16->bits .or .u8 ((k*16:Nat):Int) ((y:Nat):Int)=((k*16+y:Nat):Int):=by decide +kernel
 exact t k hk y hy
theorem qyX:∀ (f x:Nat),wk f x 0=[(x:Int)]
 | 0,x=>rfl
 | f+1,x=>by rw[wk,if_pos rfl]
set_option maxRecDepth 10000 in
theorem Wu (B:Nat) (v:Value) (out:List Int) (k n:Nat) (w:World) (hk:k<8) (hn:n<262144) (ho:out.length<=300000) (hB:B<=w.heap.size) (hown:w.ownsRow B 5 1 v out.length (out.map (Value.int .u8))) :
  Calls prog 85 #[v,.int .i64 k,.int .i64 n] w (Wk w B v (out++kd k n)):=by
 obtain⟨i5,hi,hz0,hz1,hz2⟩:=info_parts Dl.infoB;have HO:Hid _:=hown;have HLS:Hid ((out++kd k n).length<=300006):=by
  show _<=_;have:=Ww k n hn;simp only[Wz6];omega
 obtain⟨R,HR⟩:=nn_ (out++kd k n);rw[<-HR.out] at HLS ⊢;obtain⟨x0,HX0⟩:=nn_ (k*16+n % 16);obtain⟨m0,HM0⟩:=nn_ (n / 16);obtain⟨y0,HY0⟩:=nn_ (n % 256);have hy0:y0<256:=by rw[HY0.out];omega
 have h1:(n:Int) % 256=(y0:Int):=by rw[HY0.out];omega
 have h2:bits .and .u8 (y0:Int) 15=((y0 % 16:Nat):Int):=qqq y0 hy0;have h3:((k:Int)*16) % 256=((k*16:Nat):Int):=by omega
 have h3':(k:Int) % 256=(k:Int):=by omega
 have h4:bits .or .u8 ((k:Int)*16) ((y0:Int) % 16)=(x0:Int):=by have:=orK k (y0 % 16) hk (by omega);push_cast at this;rw[this,HX0.out,HY0.out];omega
 have h5:(n:Int) / 16=(m0:Int):=by rw[HM0.out];omega
 clear hown;go_enter func85,ntmps85;go_wp2_with fail
 clear h1 h2 h3 h3' h4 h5;go_loopg [0,2,7] m0 (fun q u nn nx wr=>∃ (m f x:Nat) (l:List Int),nn=.int .i64 m/\nx=.int .u8 x/\q=m/\m<=n/\x<128/\Hid (m<128 ^ f)/\Hid (l++wk f x m=R)/\Hid (wr.ownsRow B 5 1 u l.length (l.map (Value.int .u8)))/\Hid (Mv w wr v u));case atStart =>
  refine⟨m0,4,x0,out,rfl,rfl,rfl,by rw[HM0.out];omega,by rw[HX0.out];omega,hid (by rw[HM0.out];omega),hid (by rw[HR.out,HX0.out,HM0.out];rfl),HO.out,Mv.refl _ _⟩
 rename_i u;obtain⟨m,f,x,l,rfl,rfl,hq,hmn,hx,HF,HL,HOW,HMV⟩:=hrel;have hll:l.length<=300006:=by have:=HLS.out;rw[<-HL.out] at this;simp at this;omega
 have hBr:B<=wr.heap.size:=Wqx hB HMV.out.size;by_cases hm8:m=0
 ·subst hm8;have HLE:Hid (R=l++[(x:Int)]):=hid (by rw[<-HL.out,qyX])
  go_wp2_with (at_builtin;refine wpList_append_own_at _ rfl _ _ 22 rfl B 5 i5 (.int .u8 0) 1 1 underlying22 hi hz0 hz1 hz2 rfl (by decide) _ l.length _ rfl (HOW.out.alloc _) ⟨wr.heap.size,0,none⟩ 1 1 [.int .u8 x] rfl rfl (cell_one_new _ _ _) (ints_oneCell .u8 [(x:Int)]) (by unfold maxLen;omega) (by omega) (by simp;omega) ?_;intro v' w1 hown' hgrow hnil hloc;have HO1:Hid _:=hown';have HM1:Hid _:=HMV.out.trans (Mv.app (yV wr _) hgrow hloc);clear hown' hgrow hnil hloc)
  go_ret;refine⟨_,rfl,?_,HM1.out⟩;rw[HLE.out,Wz6,Wy4];exact HO1.out
 have hmI:(0:Int)<m:=by omega
 obtain⟨y,HY⟩:=nn_ (m % 256);have hyI:(m:Int) % 256=(y:Int):=by rw[HY.out];omega
 have hy:y<256:=by rw[HY.out];omega
 obtain⟨x',HX'⟩:=nn_ (m % 128);have hx':x'<128:=by rw[HX'.out];omega
 have hnt:bits .andNot .u8 (y:Int) 128=(x':Int):=by rw[zyV y hy,HX'.out,HY.out,show m % 256 % 128=m % 128 by omega]
 obtain⟨z,HZ⟩:=nn_ (x+128);have hor:bits .or .u8 (x:Int) 128=(z:Int):=by rw[qyQ x hx,HZ.out]
 obtain⟨m',HM'⟩:=nn_ (m / 128);have hm1:(m:Int) / 128=(m':Int):=by rw[HM'.out];omega
 have hml:m'<m:=by rw[HM'.out];omega
 obtain⟨f',hf'⟩:∃ f',f=f'+1:=by
  cases f with
  | zero=>exfalso;have h1:m<1:=HF.out;omega
  | succ f=>exact⟨f,rfl⟩
 subst hf';have HF2:Hid (m'<128 ^ f'):=hid (by
  rw[HM'.out,WzK (by omega)];have:=HF.out;rw[Wqv] at this;exact this)
 have HL2:Hid ((l++[(z:Int)])++wk f' x' m'=R):=hid (by
  rw[<-HL.out,wk,if_neg hm8,HZ.out,HX'.out,HM'.out];simp)
 go_wp2_with (at_builtin;refine wpList_append_own_at _ rfl _ _ 22 rfl B 5 i5 (.int .u8 0) 1 1 underlying22 hi hz0 hz1 hz2 rfl (by decide) _ l.length _ rfl (HOW.out.alloc _) ⟨wr.heap.size,0,none⟩ 1 1 [.int .u8 z] rfl rfl (cell_one_new _ _ _) (ints_oneCell .u8 [(z:Int)]) (by unfold maxLen;omega) (by omega) (by simp;omega) ?_;intro v' w1 hown' hgrow hnil hloc;have HO1:Hid _:=hown';have HM1:Hid _:=HMV.out.trans (Mv.app (yV wr _) hgrow hloc);clear hown' hgrow hnil hloc)
 go_roundg m';case measure=>rw[hq];exact hml
 case rel=>exact⟨m',f',x',l++[(z:Int)],rfl,rfl,rfl,by omega,hx',HF2,HL2,hid (by rw[Wz6,Wy4];exact HO1.out),HM1⟩
theorem orM (x m:Nat) (h:x<128) (hm:m=0 ∨ m=128):bits .or .u8 ((x:Nat):Int) ((m:Nat):Int)=((x+m:Nat):Int):=by
 have t:∀ x,x<128->bits .or .u8 ((x:Nat):Int) ((0:Nat):Int)=((x+0:Nat):Int):=by decide +kernel
 have t':∀ x,x<128->bits .or .u8 ((x:Nat):Int) ((128:Nat):Int)=((x+128:Nat):Int):=by decide +kernel
 rcases hm with rfl | rfl
 ·exact t x h
 exact t' x h
set_option maxRecDepth 10000 in
theorem T6 (B:Nat) (v:Value) (out X:List Int) (n m:Nat) (w:World) (hm:m=0 ∨ m=128) (hn:n<300000000) (ho:out.length<=300000) (hX:X.length<=10) (hB:B<=w.heap.size) (hown:w.ownsRow B 5 1 v out.length (out.map (Value.int .u8)))
  (C:128<=n->Calls prog 86 #[v,.int .i64 (n / 128-1:Nat),.int .u8 128] w (Wk w B v (out++X))) :
  Calls prog 86 #[v,.int .i64 n,.int .u8 m] w (Wk w B v (out++((if 128<=n then X else [])++[((n % 128+m:Nat):Int)]))):=by
 obtain⟨i5,hi,hz0,hz1,hz2⟩:=info_parts Dl.infoB;have HO:Hid (w.ownsRow B 5 1 v out.length (out.map (Value.int .u8))):=hown;have HC:=hid C;have hol:(out++X).length<=300010:=by rw[Wz6];omega
 obtain⟨y,HY⟩:=nn_ (n % 256);have hyI:(n:Int) % 256=(y:Int):=by rw[HY.out];omega
 have hy:y<256:=by rw[HY.out];omega
 obtain⟨x,HX⟩:=nn_ (n % 128);have hx:x<128:=by rw[HX.out];omega
 have hnt:bits .andNot .u8 (y:Int) 128=(x:Int):=by rw[zyV y hy,HX.out,HY.out,show n % 256 % 128=n % 128 by omega]
 obtain⟨z,HZ⟩:=nn_ (x+m);have hor:bits .or .u8 (x:Int) (m:Int)=(z:Int):=by rw[orM x m hx hm,HZ.out]
 rw[<-HX.out,<-HZ.out];clear hown C;by_cases h8:128<=n
 ·have hI:(128:Int)<=n:=by omega
  rw[if_pos h8];have c1:=HC.out h8;obtain⟨q,HQ⟩:=nn_ (n / 128-1);have hq:(n:Int) / 128-1=(q:Int):=by rw[HQ.out];omega
  rw[<-HQ.out] at c1;have HC1:=hid c1;clear c1;go_enter func86,ntmps86;go_wp2_with (first
   | (go_at_call 86;refine HC1.out.mono ?_;rintro e w1 ⟨v1,rfl,ho1,hm1⟩;have HO1:Hid (w1.ownsRow B 5 1 v1 (out++X).length ((out++X).map (Value.int .u8))):=ho1;have HM1:=hid hm1;have hB1:B<=w1.heap.size:=Wqx hB hm1.size;clear ho1 hm1)
   | (at_builtin;refine wpList_append_own_at _ rfl _ _ 22 rfl B 5 i5 (.int .u8 0) 1 1 underlying22 hi hz0 hz1 hz2 rfl (by decide) _ (out++X).length _ rfl (HO1.out.alloc _) ⟨w1.heap.size,0,none⟩ 1 1 [.int .u8 z] rfl rfl (cell_one_new _ _ _) (ints_oneCell .u8 [(z:Int)]) (by unfold maxLen;omega) (by omega) (by simp;omega) ?_;intro v' w2 hown' hgrow hnil hloc;have HO2:Hid _:=hown';have HM2:Hid _:=HM1.out.trans (Mv.app (yV w1 _) hgrow hloc);clear hown' hgrow hnil hloc))
  go_ret;refine⟨_,rfl,?_,HM2.out⟩;rw[<-Wz1,Wz6,Wy4];exact HO2.out
 have hI:¬ (128:Int)<=n:=by omega
 rw[if_neg h8,Wzx];have hyn:y=n:=by rw[HY.out];omega
 have hnt2:bits .andNot .u8 (n:Int) 128=(x:Int):=by rw[<-hyn];exact hnt
 go_enter func86,ntmps86
 go_wp2_with (at_builtin;refine wpList_append_own_at _ rfl _ _ 22 rfl B 5 i5 (.int .u8 0) 1 1 underlying22 hi hz0 hz1 hz2 rfl (by decide) _ out.length _ rfl (HO.out.alloc _) ⟨w.heap.size,0,none⟩ 1 1 [.int .u8 z] rfl rfl (cell_one_new _ _ _) (ints_oneCell .u8 [(z:Int)]) (by unfold maxLen;omega) (by omega) (by simp;omega) ?_;intro v' w2 hown' hgrow hnil hloc;have HO2:Hid _:=hown';have HM2:Hid _:=Mv.app (yV w _) hgrow hloc;clear hown' hgrow hnil hloc)
 go_ret;refine⟨_,rfl,?_,HM2.out⟩;rw[Wz6,Wy4];exact HO2.out
theorem jW:∀ (f B:Nat) (v:Value) (out:List Int) (n m:Nat) (w:World) (hf:f<=3) (hm:m=0 ∨ m=128) (hn:n<lim f) (ho:out.length<=300000) (hB:B<=w.heap.size) (hown:w.ownsRow B 5 1 v out.length (out.map (Value.int .u8))),
  Calls prog 86 #[v,.int .i64 n,.int .u8 m] w (Wk w B v (out++ds f n m))
 | 0,B,v,out,n,m,w,hf,hm,hn,ho,hB,hown=>by
  have h:n<128:=hn
  have:=T6 B v out [] n m w hm (by omega) ho (by simp) hB hown (fun h8=>by omega)
  rwa [if_neg (by omega),Wzx] at this
 | f+1,B,v,out,n,m,w,hf,hm,hn,ho,hB,hown=>by
  have h:n<128*(lim f+1):=hn
  have hlim:128*(lim f+1)<=300000000:=by
   have:∀ f,f<3->128*(lim f+1)<=300000000:=by decide +kernel
   exact this f (by omega)
  have hl:=Wy f (n / 128-1) 128
  exact T6 B v out (ds f (n / 128-1) 128) n m w hm (by omega) ho (by omega) hB hown (fun h8=>jW f B v out (n / 128-1) 128 w (by omega) (.inr rfl) (by omega) ho hB hown)
end Go.Proofs.YtiaaekdpfpaigaaGreatDoor.Pk
