import Derived.Test.YtdnphaganajejaaGreatDoorMz16
import Derived.Test.YtdnphaganajejaaGreatDoorMz18
import Derived.Test.YtdnphaganajejaaGreatDoorMz15
set_option linter.unusedSimpArgs false
set_option linter.unusedVariables false
set_option maxRecDepth 20000
set_option maxHeartbeats 4000000
open ByteArray renaming size->Wqz
open List renaming foldl_append->WqV,foldl_cons->WqW,length_append->Wzy,length_drop->Wy9,length_eq_zero_iff->WzZ,length_take->WzJ,mem_append->Wqx,mem_singleton->Wqk,replicate->Wz7,take_of_length_le->Wq0
open Nat renaming le_refl->Wz8,le_trans->Wz9,lt_of_lt_of_le->Wq2,mul_one->Wx8,pow_succ->Wx9,zero_add->Wzz
open UInt8 renaming ofNat->Wy1,toNat_ofNat'->Wyy
namespace Go.Proofs.YtdnphaganajejaaGreatDoor.K
open Go.Proofs.Tryz
open Go.RowKit
structure Db (w:World):Prop where
 c7:w.cell? ⟨9,15,none⟩=some (.int .u8 4)
theorem Db.below {w w':World} (h:Db w) (hb:Below w.heap.size w w'):Db w':=⟨(hb.cell (p:=⟨9,15,none⟩) (cell_lt h.c7)).trans h.c7⟩
theorem qzW (w:World):Calls prog 217 #[.int .i64 16] w fun e w'=>e=.returned (.bool true)/\w'=w:=by
 go_enter func217,ntmps217;go_wp2;go_ret;exact⟨rfl,rfl⟩
theorem qzY (w:World) (h:Db w):Calls prog 237 #[.int .u64 16] w fun e w'=>e=.returned (.int .i64 4)/\w'=w:=by
 have c:=h.c7;have e1:bits BinOp.and IntKind.u64 16 (IntKind.u64.wrap (-16))=16:=by kernel_rfl
 have j:IntKind.u64.wrap (16*285870213051353865) / 288230376151711744=15:=by kernel_rfl
 have A:IntKind.u64.wrap 4573923408821661840 / 288230376151711744=15:=by kernel_rfl
 go_enter func237,ntmps237;go_wp2;go_ret;exact⟨rfl,rfl⟩
theorem tz_16 (w:World) (h:Db w):Calls prog 218 #[.int .u64 16] w fun e w'=>e=.returned (.int .i64 4)/\w'=w:=by
 go_enter func218,ntmps218;go_wp2_with (go_at_call 237;refine(qzY _ h).mono ?_;rintro j w1 ⟨rfl,rfl⟩)
 go_ret;exact⟨rfl,rfl⟩
def dv (d:Nat):Nat:=if d<10 then 48+d else 87+d
theorem zxK {d:Nat} (h:d<16):dv d<256:=by unfold dv;split <;> omega
def x16 (n:Nat):List UInt8:=if h:n<16 then [Wy1 (dv n)] else x16 (n / 16)++[Wy1 (dv (n % 16))]
theorem ZQ (n:Nat) (h:n<16):x16 n=[Wy1 (dv n)]:=by rw[x16,dif_pos h]
theorem J1 (n:Nat) (h:¬ n<16):x16 n=x16 (n / 16)++[Wy1 (dv (n % 16))]:=by rw[x16,dif_neg h]
theorem qq0 (n:Nat):1<=(x16 n).length:=by
 by_cases h:n<16
 ·rw[ZQ n h];simp
 rw[J1 n h];simp
theorem J2:∀ (k n:Nat),n<16 ^ (k+1)->(x16 n).length<=k+1
 | 0,n,h=>by rw[ZQ n (by simpa using h)];simp
 | k+1,n,h=>by
  by_cases j:n<16
  ·rw[ZQ n j];simp
  rw[J1 n j,Wzy];have:=J2 k (n / 16) (by rw[Wx9] at h;exact Nat.div_lt_of_lt_mul (by rw[Nat.mul_comm];exact h));simp;omega
def dg:ByteArray:=⟨#[48,49,50,51,52,53,54,55,56,57,97,98,99,100,101,102,103,104,105,106,107,108,109,110,111,112,113,114,115,116,117,118,119,120,121,122]⟩
theorem zxV (d:Nat) (h:d<16) (w:World):(Instr.index 9 (.string dg) (.int .u64 d)).run prog w=.ok (.int .u8 (dv d)) w:=by
 match d,h with
 | 0,_=>show _=_;kernel_rfl
 | 1,_=>show _=_;kernel_rfl
 | 2,_=>show _=_;kernel_rfl
 | 3,_=>show _=_;kernel_rfl
 | 4,_=>show _=_;kernel_rfl
 | 5,_=>show _=_;kernel_rfl
 | 6,_=>show _=_;kernel_rfl
 | 7,_=>show _=_;kernel_rfl
 | 8,_=>show _=_;kernel_rfl
 | 9,_=>show _=_;kernel_rfl
 | 10,_=>show _=_;kernel_rfl
 | 11,_=>show _=_;kernel_rfl
 | 12,_=>show _=_;kernel_rfl
 | 13,_=>show _=_;kernel_rfl
 | 14,_=>show _=_;kernel_rfl
 | 15,_=>show _=_;kernel_rfl
 | k+16,h=>exact absurd h (by omega)
theorem and7 (v:Nat) (h:v<4294967296):bits BinOp.and IntKind.u64 (v:Int) 15=((v % 16:Nat):Int):=by
 have:=u64_and_nat v 15 (by omega) (by omega);rw[nat_mask4] at this;exact this
def zx (i:Nat) (ds:List UInt8):List Int:=Wz7 i 0++ds.map fun b=>(b.toNat:Int)
theorem quj (i:Nat) (ds:List UInt8) (b:UInt8):(zx (i+1) ds).set i (b.toNat:Int)=zx i (b :: ds):=by
 unfold zx;rw[List.replicate_succ',List.append_assoc,List.set_append_right _ _ (by simp)];simp
theorem zxW (i:Nat) (ds:List UInt8):(zx i ds).length=i+ds.length:=by simp[zx]
theorem qq1:Tryz.zeroCells319=(row .u8 (zx 65 [])).toArray:=by kernel_rfl
theorem zxY (l:List UInt8):strOfNums (l.map fun b=>(b.toNat:Int))=⟨l.toArray⟩:=by
 unfold strOfNums;rw[List.map_map,show ((fun n:Int=>Wy1 n.toNat) ∘ fun b:UInt8=>(b.toNat:Int))=id from funext fun b=>by simp,List.map_id]
structure Dx (w:World) (g i:Nat) (ds:List UInt8) (W:World):Prop where
 box:W.heap[g]? = some (.cells (row .u8 (zx i ds)).toArray 319 (0,0))
 bel:Below g w W
theorem Dx.step {w:World} {g i:Nat} {ds:List UInt8} {W:World} (h:Dx w g (i+1) ds W) (b:UInt8):Dx w g i (b :: ds) (W.setCell ⟨g,i,none⟩ (.int .u8 b.toNat)):=by
 refine⟨?_,h.bel.setCell (p:=⟨g,i,none⟩) (Wz8 _) _⟩;rw[heap_setCell_same W g i _ 319 _ h.box,jZ,quj]
theorem fmt16 (u:Nat) (hu:u<4294967296) (w:World) (h:Db w):Calls prog 191 #[.slice none 0 0,.int .u64 u,.int .i64 16,.bool false,.bool false] w fun e w'=>e=.returned (.tuple #[.slice none 0 0,.string ⟨(x16 u).toArray⟩])/\Below w.heap.size w w':=by
 have HT:Hid (∀ W,Below w.heap.size w W->Calls prog 218 #[.int .u64 16] W fun e w'=>e=.returned (.int .i64 4)/\w'=W):=fun W hW=>tz_16 W (h.below hW);obtain⟨g,HG⟩:=nm_ w.heap.size;have O:Hid (Dx w g 65 [] (w.alloc (.cells Tryz.zeroCells319 319))):=hid (by
  rw[<-HG.out,qq1];exact⟨heap_alloc_new w _,(Below.refl _ w).alloc (Wz8 _) _⟩)
 have ae:Hid ((x16 u).length<=8):=hid (J2 7 u (by simpa using hu));go_enter func191,ntmps191;go_wp2_with (go_at_call 217;refine(qzW _).mono ?_;rintro ev w1 ⟨rfl,rfl⟩)
 have V:Hid (Below w.heap.size w (w.alloc (.cells Tryz.zeroCells319 319))):=(Below.refl _ w).alloc (Wz8 _) _;refine(HT.out _ V.out).mono ?_;rintro ev w1 ⟨rfl,ak⟩;subst ak;go_wp2_with fail
 rw[HG.out];clear V;obtain⟨w0,ag⟩:=nm_ (w.alloc (.cells Tryz.zeroCells319 319));rw[ag.out] at O ⊢;go_loopg [1,13] u (fun m uv iv wr=>∃ (v i:Nat) (ds:List UInt8),Hid (v=m)/\v<=u/\uv=.int .u64 v/\iv=.int .i64 i/\i+ds.length=65/\Hid (x16 v++ds=x16 u)/\Hid (Dx w g i ds wr));case atStart=>exact⟨u,65,[],hid rfl,Wz8 _,rfl,rfl,rfl,hid (by simp),O⟩
 obtain⟨v,i,ds,aj,aD,rfl,rfl,av,HE,HD⟩:=hrel;have hlen:ds.length<=7:=by
  have h1:=congrArg List.length HE.out;rw[Wzy] at h1;have:=qq0 v;have:=ae.out;omega
 obtain⟨j,hj⟩:∃ j,i=j+1:=⟨i-1,by omega⟩;subst hj;have ay:j<65:=by omega
 have ax:(j:Int)<65:=by omega
 have az:(j:Int)+1-1=j:=by omega
 have kj:wr.cell? ⟨g,j,none⟩=some (.int .u8 ((zx (j+1) ds).getD j 0)):=xQ HD.out.box j (by rw[zxW];omega);have fj:wr.frozen? ⟨g,j,none⟩=false:=by
  have:=HD.out.box;simp[World.frozen?,this]
 by_cases hv:v<16
 ·have ai:¬ (16:Int)<=(v:Int):=by omega
  have A:=fun w=>zxV v hv w;unfold dg at A;obtain⟨c,Hc⟩:=nm_ (dv v);have L:c<256:=by rw[<-Hc.out];exact zxK hv
  rw[Hc.out] at A;obtain⟨M,Y⟩:=nm_ (wr.setCell ⟨g,j,none⟩ (.int .u8 (c:Int)));have D:Hid (Dx w g j (Wy1 c :: ds) M):=hid (by
   have:=HD.out.step (Wy1 c);rwa [show (Wy1 c).toNat=c by rw[Wyy];omega,Y.out] at this)
  have K:Hid (Wy1 c :: ds=x16 u):=hid (by rw[<-HE.out,ZQ v hv,Hc.out];rfl);obtain⟨n,G⟩:=nm_ (65-j);have aA:(65:Int)-j=n:=by have:=G.out;omega
  have aB:65-j=n:=G.out;have a8:Hid (∀ dst,prog.underlying dst=some .string->(convert 82 dst (.slice (some ⟨g,j,none⟩) n n)).run prog M=.ok (.string (strOfNums ((x16 u).map fun b=>(b.toNat:Int)))) M):=hid (by
   rw[<-K.out];refine run_convert_bytes_arg M 82 5 uy zz5 g j n n _ (by simp;have:=G.out;omega) fun i hi=>?_;rw[xQ D.out.box (j+i) (by rw[zxW];simp;have:=G.out;omega)];simp[zx,List.getD_eq_getElem?_getD,List.getElem?_append_right])
  have aw:(0:Int)<=(j:Int):=by omega
  have ao:(j:Int)<=65:=by omega
  have ap:¬ (65:Nat)=j:=by omega
  have aC:∀ w,(Instr.sliceAt 319 (.pointer (some ⟨g,0,none⟩)) (some (.int .i64 j)) none none).run prog w=.ok (.slice (some ⟨g,j,none⟩) n n) w:=fun w=>by
   go_simp
  have Z:Hid (wr.setCell ⟨g,j,none⟩ (.int .u8 (c:Int))=M):=hid Y.out;have ad:Hid (strOfNums ((x16 u).map fun b=>(b.toNat:Int))=⟨(x16 u).toArray⟩):=hid (zxY _);have I:=a8.out 9 underlying9;rw[ad.out] at I;have a7:Hid (Below g w M):=D.out.bel;obtain⟨T,Q⟩:=nm_ ((⟨(x16 u).toArray⟩:ByteArray):ByteArray);rw[Q.out] at I
  have am:(convert 82 9 (.slice (some ⟨g,j,none⟩) n n)).run prog (wr.setCell ⟨g,j,none⟩ (.int .u8 (c:Int)))=.ok (.string T) (wr.setCell ⟨g,j,none⟩ (.int .u8 (c:Int))):=by rw[Z.out];exact I
  have a6:Hid (Below g w (wr.setCell ⟨g,j,none⟩ (.int .u8 (c:Int)))):=hid (by rw[Z.out];exact a7.out);clear I;go_wp2;go_ret2;exact⟨by rw[Q.out];rfl,by rw[HG.out];exact a6.out⟩
 have ai:(16:Int)<=(v:Int):=by omega
 obtain⟨d,Hd⟩:=nm_ (v % 16);have ha:=and7 v (by omega);have A:=fun w=>zxV (v % 16) (Nat.mod_lt _ (by omega)) w;rw[Hd.out] at ha A;obtain⟨c,Hc⟩:=nm_ (dv d);have L:c<256:=by rw[<-Hc.out];exact zxK (by have:=Hd.out;omega)
 rw[Hc.out] at A;obtain⟨q,Hq⟩:=nm_ (v / 16);have ar:(v:Int) / 16=(q:Int):=by have:=Hq.out;omega
 have au:d<16:=by have:=Hd.out;omega
 have D:Hid (Dx w g j (Wy1 c :: ds) (wr.setCell ⟨g,j,none⟩ (.int .u8 (c:Int)))):=hid (by
  have:=HD.out.step (Wy1 c);rwa [show (Wy1 c).toNat=c by rw[Wyy];omega] at this)
 have K:Hid (x16 q++(Wy1 c :: ds)=x16 u):=hid (by
  rw[<-HE.out,J1 v hv,Hq.out,Hd.out,Hc.out];simp)
 have ah:q<v:=by have:=Hq.out;omega
 have J:=aj.out;have ac:Hid (q<gk):=hid (by rw[<-J];exact ah);clear J;unfold dg at A;go_wp2;go_roundg q;case measure=>exact ac.out
 case rel=>exact⟨q,j,_,hid rfl,by omega,rfl,rfl,by simp;omega,K,D⟩
theorem zv0 (u:Nat) (A:u<4294967296) (w:World) (h:Db w):Calls prog 149 #[.int .i64 u,.int .i64 16] w fun e w'=>e=.returned (.string ⟨(x16 u).toArray⟩)/\Below w.heap.size w w':=by
 have j:Hid (Calls prog 191 #[.slice none 0 0,.int .u64 u,.int .i64 16,.bool false,.bool false] w fun e w'=>e=.returned (.tuple #[.slice none 0 0,.string ⟨(x16 u).toArray⟩])/\Below w.heap.size w w'):=fmt16 u A w h;have h0:¬ (u:Int)<0:=by omega
 have D:IntKind.u64.wrap (u:Int)=u:=wrap_u64 u (by omega);go_enter func149,ntmps149;go_wp2_with fail
 refine j.out.mono ?_;rintro e w1 ⟨rfl,hb⟩;go_wp2;go_ret;exact⟨rfl,hb⟩
theorem quk (u:Nat) (A:u<4294967296) (w:World) (h:Db w):Calls prog 113 #[.int .i64 u,.int .i64 16] w fun e w'=>e=.returned (.string ⟨(x16 u).toArray⟩)/\Below w.heap.size w w':=by
 have j:Hid (Calls prog 149 #[.int .i64 u,.int .i64 16] w fun e w'=>e=.returned (.string ⟨(x16 u).toArray⟩)/\Below w.heap.size w w'):=zv0 u A w h;go_enter func113,ntmps113;go_wp2_with fail
 refine j.out.mono ?_;rintro e w1 ⟨rfl,hb⟩;go_wp2;go_ret;exact⟨rfl,hb⟩
def adX (k:Nat) (a:Option Addr) (cap j:Nat):Option Addr:=if cap=j then a else a.map (·.add (j*k))
section
variable {α : Type} {enc : α → List Value} {k : Nat} {d : α}
theorem Px.mid {w:World} {a:Option Addr} {cap:Nat} {l:List α} (h:Px enc k d w a cap l) (i j:Nat) (I:i<=j) (K:j<=l.length):Px enc k d w (adX k a cap i) (cap-i) ((l.drop i).take (j-i)) :=
 ⟨by rw[WzJ,Wy9];have:=h.capl;omega,fun h0=>by
  rw[WzJ,Wy9] at h0
  obtain⟨b,off,e1,D,G⟩:=h.at_ (by omega)
  subst e1
  have hc:=h.capl
  refine⟨b,off+i*k,by unfold adX;rw[if_neg (by omega),Option.map_some,x7],D,fun q J=>?_⟩
  rw[WzJ,Wy9] at J
  have:=G (i+q) (by omega)
  rw[show off+i*k+q*k=off+(i+q)*k by rw[Nat.add_mul];omega]
  rw[show ((l.drop i).take (j-i)).getD q d=l.getD (i+q) d by rw[List.getD_eq_getElem?_getD,List.getD_eq_getElem?_getD,List.getElem?_take,if_pos (by omega),List.getElem?_drop]]
  exact this,fun A=>by
  have:a=none:=by
   unfold adX at A
   split at A
   ·exact A
   ·cases a with
    | none=>rfl
    | some p=>cases A
  have:=h.nil this
  omega⟩
end
section
variable {α : Type} {enc : α → List Value} {k : Nat} {d : α}
theorem Px.from {w:World} {a:Option Addr} {cap:Nat} {l:List α} (h:Px enc k d w a cap l) (i:Nat) (hi:i<=l.length):Px enc k d w (adX k a cap i) (cap-i) (l.drop i):=by
 have:=h.mid i l.length hi (Wz8 _);rwa [Wq0 (by rw[Wy9];omega)] at this
end
def encB (x:UInt8):List Value:=[.int .u8 (x.toNat:Int)]
abbrev PB (w:World) (a:Option Addr) (cap:Nat) (s:Str):Prop:=Px encB 1 0 w a cap s
theorem PB.cell {w:World} {b off cap:Nat} {s:Str} (h:PB w (some ⟨b,off,none⟩) cap s) (i:Nat) (hi:i<s.length):w.cell? ⟨b,off+i,none⟩=some (.int .u8 ((s.getD i 0).toNat:Int)):=by
 obtain⟨D,j,e1,_,A⟩:=h.at_ (by omega);cases e1
 have:=A i hi 0 _ rfl;simpa using this
theorem jq {w:World} {a:Option Addr} {cap:Nat} {s:Str} (h:PB w a cap s):(convert 82 9 (.slice a s.length cap)).run prog w=.ok (sV s) w:=by
 cases a with
 | none =>
  have h0:s=[]:=WzZ.1 (by have:=h.nil rfl;have:=h.capl;omega);subst h0;rw[run_convert_bytes_string w 82 9 5 none _ cap uy zz5 underlying9];rfl
 | some p =>
  by_cases h0:s.length=0
  ·obtain rfl:s=[]:=WzZ.1 h0;exact run_convert_bytes_back w 82 9 5 p cap [] uy zz5 underlying9 (fun j A=>absurd A (by simp))
  obtain⟨b,off,e1,_⟩:=h.at_ (by omega);cases e1
  refine run_convert_bytes_back w 82 9 5 _ cap s uy zz5 underlying9 (fun j A=>?_);rw[x7,PB.cell h j A,List.getD_eq_getElem?_getD,List.getElem?_eq_getElem A];rfl
theorem By:prog.underlying 82=some (.slice (prog.elem 82)):=by kernel_rfl
theorem RZ (w:World):(Go.sizeOf (prog.elem 82)).run prog w=.ok 1 w:=by kernel_rfl
theorem sl60 (a:Option Addr) (n cap i j:Nat) (J:Int) (h:J=(j:Int)) (A:i<=j) (D:j<=cap) (w:World):(Instr.slice 82 (.slice a n cap) (some (.int .i64 i)) (some (.int .i64 J)) none).run prog w=.ok (.slice (adX 1 a cap i) (j-i:Nat) (cap-i:Nat)) w:=by
 subst h;rw[run_slice_lh w 82 a n cap By .i64 .i64 i j (by omega) (by omega) (by omega),RZ,Result.andThen_ok,sliced];rfl
theorem Pz {w:World} (a:Option Addr) (h:Nat) (s:Str) (hA:PB w a h s) (b:Option Addr) (j:Nat) (t:Str) (hB:PB w b j t) :
  Calls prog 139 #[.slice a s.length h,.slice b t.length j] w fun e w'=>e=.returned (.bool (s == t))/\w'=w:=by
 obtain⟨n,D⟩:=nm_ s.length;obtain⟨m,A⟩:=nm_ t.length;have G:(convert 82 9 (.slice a n h)).run prog w=.ok (sV s) w:=by rw[<-D.out];exact jq hA
 have I:(convert 82 9 (.slice b m j)).run prog w=.ok (sV t) w:=by rw[<-A.out];exact jq hB
 unfold sV at G I;rw[D.out,A.out];clear hA hB;go_enter func139,ntmps139;go_wp2;go_ret;exact⟨rfl,rfl⟩
theorem qxv (a:Option Addr) (n cap i:Nat) (hi:i<=n) (w:World):(Instr.slice 82 (.slice a n cap) (some (.int .i64 i)) none none).run prog w=.ok (.slice (adX 1 a cap i) (n-i:Nat) (cap-i:Nat)) w:=by
 rw[run_slice_l w 82 a n cap By .i64 i (by omega) (by omega),RZ,Result.andThen_ok,sliced];rfl
theorem yZ (s t:Str):(⟨s.toArray⟩:ByteArray) ++ ⟨t.toArray⟩=⟨(s++t).toArray⟩:=by
 apply ByteArray.ext;simp[ByteArray.data_append]
def bv (s:Str):List Value:=s.map (fun x=>Value.int .u8 (x.toNat:Int))
theorem jk (s:Str):(bv s).length=s.length:=by simp[bv]
theorem quv (s:Str):∀ u ∈ bv s,u.oneCell'=true:=by
 intro u h;obtain⟨x,_,rfl⟩:=List.mem_map.1 h;rfl
theorem zv1 (s t:Str):bv (s++t)=bv s++bv t:=by simp[bv]
structure Mk (w:World) (g cap:Nat) (s:Str):Prop where
 lt:g<w.heap.size
 capl:s.length<=cap
 at_:∀ (j:Nat) (u:Value),(bv s)[j]? = some u->w.cell? ⟨g,j,none⟩=some u
 spare:∀ i,s.length<=i->i<cap->(w.cell? ⟨g,i,none⟩).isSome=true/\w.frozen? ⟨g,i,none⟩=false
theorem PB.at {w:World} {b off cap:Nat} {s:Str} (h:PB w (some ⟨b,off,none⟩) cap s):∀ (j:Nat) (u:Value),(bv s)[j]? = some u->w.cell? ((⟨b,off,none⟩:Addr).add j)=some u:=fun j u A=>by
 have D:=(List.getElem?_eq_some_iff.1 A).1;rw[jk] at D;rw[x7,PB.cell h j D];unfold bv at A;rw[List.getElem?_map,List.getElem?_eq_getElem D] at A;rw[List.getD_eq_getElem?_getD,List.getElem?_eq_getElem D];exact A
theorem Mk.pb {w:World} {g cap:Nat} {s:Str} (h:Mk w g cap s):PB w (some ⟨g,0,none⟩) cap s :=
 ⟨h.capl,fun _=>⟨g,0,rfl,h.lt,fun i hi j v hv=>by
  have A:j=0:=by
   have:=(List.getElem?_eq_some_iff.1 hv).1
   simp[encB] at this
   exact this
  subst A
  rw[Wzz,Wx8,Nat.add_zero]
  refine h.at_ i v ?_
  simp only[encB,List.getElem?_cons_zero,Option.some.injEq] at hv
  unfold bv
  rw[List.getElem?_map,List.getElem?_eq_getElem hi,<-hv,List.getD_eq_getElem?_getD,List.getElem?_eq_getElem hi]
  rfl⟩,fun h=>by cases h⟩
theorem Mk.kept {w w':World} {g cap:Nat} {s:Str} (h:Mk w g cap s) (hs:w.heap.size<=w'.heap.size) (hb:w'.heap[g]? = w.heap[g]?):Mk w' g cap s :=
 ⟨Wq2 h.lt hs,h.capl,fun j u G=>(World.cell?_of_block (a:=⟨g,j,none⟩) hb).trans (h.at_ j u G),fun i A D=>by
  have:=h.spare i A D
  rw[World.cell?_of_block (a:=⟨g,i,none⟩) hb]
  refine⟨this.1,?_⟩
  rw[<-this.2]
  unfold World.frozen?
  rw[hb]⟩
theorem Mk.below {w w':World} {g cap:Nat} {s:Str} (h:Mk w g cap s) (hb:Below w.heap.size w w'):Mk w' g cap s:=h.kept hb.size (hb.block g h.lt)
theorem RQ (l:Str) (w:World):∃ cap w',(convert 9 82 (.string ⟨l.toArray⟩)).run prog w=.ok (.slice (some ⟨w.heap.size,0,none⟩) l.length cap) w'/\Mk w' w.heap.size cap l/\Below w.heap.size w w':=by
 have hr:=run_bytes_of_string (P:=prog) w 9 82 5 ⟨l.toArray⟩ underlying9 uy zz5;have hsz:(⟨l.toArray⟩:ByteArray).size=l.length:=by simp[Wqz]
 rw[hsz] at hr;have h:=grownCap_ge w l.length 0 5;generalize grownCap w l.length 0 5=cap at hr h;have A:(bytesRow ⟨l.toArray⟩ cap).size=cap:=by simp[bytesRow,Wqz];omega
 rw[A] at hr;have J:∀ i,i<l.length->(bytesRow ⟨l.toArray⟩ cap)[i]? = some (.int .u8 ((l.getD i 0).toNat:Int)):=fun i hi=>by
  simp[bytesRow,hi,Array.getElem?_append]
 generalize bytesRow ⟨l.toArray⟩ cap=R at hr J A;have I:(w.drew.alloc (.cells R 5 (cap,cap+1))).heap[w.heap.size]? = some (.cells R 5 (cap,cap+1)):=by
  show (w.heap.push _)[w.heap.size]? = _;simp
 refine⟨cap,_,hr,⟨by simp,h,fun j u D=>?_,fun i g1 L=>⟨?_,?_⟩⟩,rfl,rfl,rfl,by simp,fun k K=>?_⟩
 ·have G:=(List.getElem?_eq_some_iff.1 D).1;rw[jk] at G;unfold bv at D;rw[List.getElem?_map,List.getElem?_eq_getElem G] at D;rw[World.cell?,I];have:=J j G;rw[List.getD_eq_getElem?_getD,List.getElem?_eq_getElem G] at this;rw[<-D];exact this
 ·rw[World.cell?,I];show (R[i]?).isSome=true;rw[Array.getElem?_eq_getElem (by omega)];rfl
 ·rw[World.frozen?,I];simp;omega
 show (w.heap.push _)[k]? = _;rw[Array.getElem?_push_lt K,Array.getElem?_eq_getElem K]
theorem Px.lt {α:Type} {enc:α->List Value} {k:Nat} {d:α} {w:World} {a:Option Addr} {cap:Nat} {l:List α} (h:Px enc k d w a cap l):0<l.length->∀ p:Addr,a=some p->p.block<w.heap.size:=fun h0 p j=>by
 obtain⟨b,off,e1,A,_⟩:=h.at_ h0;rw[e1] at j;cases j
 exact A
def Apd (w w':World) (g:Nat) (v:Value) (s:Str):Prop := ∃ g' cap',v=.slice (some ⟨g',0,none⟩) s.length cap'/\Mk w' g' cap' s/\(g'=g ∨ w.heap.size<=g')/\w.grownBy w' (some g)
theorem Uv (w:World) (g o:Nat) (l:List Value):w.grownBy (w.setCells g o l) (some g):=vy g l o w w ⟨rfl,rfl,rfl,Wz8 _,fun _ _ _=>rfl⟩
theorem qq3 {w:World} {g cap:Nat} {s:Str} (D:Mk w g cap s) (l:Str) (hr:s.length+l.length<=cap):Mk (w.setCells g s.length (bv l)) g cap (s++l):=by
 have G:∀ j,j<(bv l).length->(w.cell? ⟨g,s.length+j,none⟩).isSome=true:=fun j h=>by
  rw[jk] at h;exact(D.spare (s.length+j) (by omega) (by omega)).1
 refine⟨Wq2 D.lt (Uv w g s.length (bv l)).size,by rw[Wzy];exact hr,fun j u h=>?_,fun i I K=>?_⟩
 ·rw[zv1] at h;by_cases A:j<s.length
  ·rw[World.cell?_setCells_out _ _ _ _ _ (fun _ _=>.inl A)];rw[List.getElem?_append_left (by rw[jk];exact A)] at h;exact D.at_ j u h
  rw[List.getElem?_append_right (by rw[jk];omega),jk] at h;obtain⟨k,rfl⟩:∃ k,j=s.length+k:=⟨j-s.length,by omega⟩;rw[Nat.add_sub_cancel_left] at h;have J:=(List.getElem?_eq_some_iff.1 h).1;rw[World.cell?_setCells_in _ _ _ _ G k J,<-List.getElem?_eq_getElem J];exact h
 rw[Wzy] at I;rw[World.cell?_setCells_out _ _ _ _ _ (fun _ _=>.inr (by show s.length+(bv l).length<=i;rw[jk];exact I)),World.frozen?_setCells];exact D.spare i (by omega) K
theorem quw {w:World} {B:Nat} {v:Value} {s:Str} (h:w.ownsRow B 5 1 v s.length (bv s)) (h0:0<s.length):∃ g cap,v=.slice (some ⟨g,0,none⟩) s.length cap/\B<=g/\Mk w g cap s:=by
 obtain⟨Q,⟨hv,L⟩ | ⟨g,cap,cur,hv,hb,A,G,K,hsz,J⟩⟩:=h
 ·omega
 refine⟨g,cap,hv,hb,z7 A,G,fun j u D=>?_,fun i M O=>⟨?_,?_⟩⟩
 ·rw[cell_of_row w g j _ _ _ A];rw[<-J] at D;have I:=(List.getElem?_eq_some_iff.1 D).1;rw[WzJ] at I;rw[List.getElem?_take_of_lt (by omega)] at D;simpa using D
 ·rw[cell_of_row w g i _ _ _ A,Array.getElem?_eq_getElem (by omega)];rfl
 exact frozen_of_row w g i _ _ A
theorem quy (w:World) (g cap:Nat) (s l:Str) (a:Option Addr) (c:Nat) (G:Mk w g cap s) (L:PB w a c l) (hl:s.length+l.length<=400000000) :
  ∃ v w',(Builtin.append_ #[82,82] 82 #[.slice (some ⟨g,0,none⟩) s.length cap,.slice a l.length c]).run prog w=.ok v w'/\Apd w w' g v (s++l):=by
 obtain⟨i5,hi,M,A,O⟩:=qQ Xk;by_cases h0:l.length=0
 ·obtain rfl:l=[]:=WzZ.1 h0;refine⟨.slice (some ⟨g,0,none⟩) s.length cap,w,?_,g,cap,by simp,by simpa using G,.inl rfl,⟨rfl,rfl,rfl,Wz8 _,fun _ _ _=>rfl⟩⟩;have hc:=G.capl;cases a with
  | none=>simp[Builtin.append_,run_underlying uy,sizeOf,typeInfo,hi,Builtin.lenOf,Builtin.firstCells,hc,storeCells]
  | some ad=>simp[Builtin.append_,run_underlying uy,sizeOf,typeInfo,hi,Builtin.lenOf,Builtin.firstCells,hc,storeCells,loadCells,loadCellsFrom]
 obtain⟨b,off,rfl,hb,_⟩:=L.at_ (by omega);by_cases h:s.length+l.length<=cap
 ·have hr:=run_append_room_cells (P:=prog) w 82 82 5 i5 uy hi g 0 s.length cap ⟨b,off,none⟩ l.length c (bv l) (by rw[A,jk];simp) (PB.at L) (quv l) h
   (fun j K=>by
    rw[A,Wzz,Wx8]
    rw[jk] at K
    exact(G.spare (s.length+j) (by omega) (by omega)).1)
   (fun j K=>by
    rw[A,Wzz,Wx8]
    rw[jk] at K
    exact(G.spare (s.length+j) (by omega) (by omega)).2)
  rw[A,Wzz,Wx8] at hr;exact⟨_,_,hr,g,cap,by rw[Wzy],qq3 G l h,.inl rfl,Uv w g _ _⟩
 obtain⟨v',w',hr,D,J⟩:=run_append_arg_grows (P:=prog) w 82 82 5 i5 (.int .u8 0) 1 1 uy hi M A O rfl (by omega) ⟨g,0,none⟩ s.length cap (bv s) (by rw[jk];simp)
  (fun j u K=>by rw[x7,Wzz];exact G.at_ j u K)
  ⟨b,off,none⟩ l.length c (bv l) (by rw[jk];simp) (PB.at L) (by omega) (by unfold maxLen;omega) (by omega)
 rw[<-zv1,<-Wzy] at D;obtain⟨Q,I,rfl,V,Y⟩:=quw D (by rw[Wzy];omega);exact⟨_,w',hr,Q,I,rfl,Y,.inr V,⟨J.os,J.tape,J.output,J.size,fun k Z _=>J.block k Z (by simp)⟩⟩
def hv (c:UInt8):Nat:=if c.toNat<58 then c.toNat-48 else c.toNat-87
def isH (c:UInt8):Prop:=(48<=c.toNat/\c.toNat<=57) ∨ (97<=c.toNat/\c.toNat<=102)
def pv (l:List UInt8):Nat:=l.foldl (fun a c=>a*16+hv c) 0
theorem qq4 (l:List UInt8) (c:UInt8):pv (l++[c])=pv l*16+hv c:=by simp[pv]
theorem FV (l:List UInt8) (i:Nat):pv (l.take i)<=pv l:=by
 have key:∀ (m:List UInt8) (a b:Nat),a<=b->a<=m.foldl (fun a c=>a*16+hv c) b:=by
  intro m;induction m with
  | nil=>intro a b h;exact h
  | cons c m j=>intro a b h;exact j a _ (by show a<=b*16+hv c;omega)
 conv=>rhs;rw[<-List.take_append_drop i l]
 unfold pv;rw[WqV];exact key _ _ _ (Wz8 _)
theorem zz9 (c:Int) (w:World):Calls prog 229 #[.int .u8 c] w fun e w'=>e=.returned (.int .u8 (bits .or .u8 c 32))/\w'=w:=by
 go_enter func229,ntmps229;go_wp2;go_ret;exact⟨rfl,rfl⟩
theorem qq5 (c:Nat) (h:97<=c/\c<=102):bits .or .u8 (c:Int) 32=(c:Int):=by
 obtain⟨j,A⟩:=h;rcases(by omega:c=97 ∨ c=98 ∨ c=99 ∨ c=100 ∨ c=101 ∨ c=102) with rfl | rfl | rfl | rfl | rfl | rfl <;> kernel_rfl
theorem Pq (l:List UInt8) (Y:l ≠ []) (hl:l.length<=100) (hh:∀ c ∈ l,isH c) (hp:pv l<=4294967295) (w:World) :
  Calls prog 204 #[.string ⟨l.toArray⟩,.int .i64 16,.int .i64 64] w fun e w'=>e=.returned (.tuple #[.int .u64 (pv l),.nilIface])/\Below w.heap.size w w':=by
 obtain⟨S,HS⟩:=nn_ (⟨l.toArray⟩:ByteArray);obtain⟨n,Z⟩:=nm_ l.length;have hn:n<=100:=by rw[<-Z.out];exact hl
 have ah:S.toList.isEmpty=false:=by
  rw[HS.out,Lib.toList_data];simpa using Y
 obtain⟨cap,w1,ac,V,O⟩:=RQ l w;rw[<-HS.out,Z.out] at ac;have a6:Hid (Below w.heap.size w w1):=O;have HM:Hid (Mk w1 w.heap.size cap l):=V;have am:IntKind.u64.wrap (IntKind.u64.wrap 18446744073709551616-1)=18446744073709551615:=by kernel_rfl
 have ai:IntKind.u64.wrap (0-1)=18446744073709551615:=by kernel_rfl
 have aj:IntKind.u64.wrap (-1)=18446744073709551615:=by kernel_rfl
 rw[<-HS.out];have HH:=hid hh;have HP:=hid hp;clear V O hh hp hl Y;go_enter func204,ntmps204;go_wp2;go_loopg [12,13,101] n (fun q vu vn vi wr=>∃ (k a:Nat) (A:Int),vu=.bool false/\vn=.int .u64 A/\vi=.int .i64 k/\q=n-k/\k<=n/\wr=w1/\Hid (a=pv (l.take k))/\Hid (A=(a:Int)));case atStart=>exact⟨0,0,0,rfl,rfl,rfl,rfl,Nat.zero_le _,rfl,hid rfl,hid rfl⟩
 obtain⟨k,a,A,rfl,rfl,rfl,hq,hk,rfl,HA,L⟩:=hrel;have ha:a<=4294967295:=by rw[HA.out];exact Wz9 (FV l k) HP.out
 by_cases ae:k<n;rotate_left
 ·have ad:¬ (k:Int)<(n:Int):=by omega
  obtain rfl:k=n:=by omega
  have HF:Hid (a=pv l):=hid (by rw[HA.out,Wq0 (by rw[Z.out];exact Wz8 _)]);go_wp2;go_ret2;exact⟨by rw[<-HF.out,<-L.out];rfl,a6.out⟩
 have ad:(k:Int)<(n:Int):=by omega
 have K:k<l.length:=by rw[Z.out];exact ae
 obtain⟨c,j⟩:∃ c,l.getD k 0=c:=⟨_,rfl⟩;have hc:wr.cell? ⟨w.heap.size,k,none⟩=some (.int .u8 (c.toNat:Int)):=by
  have:=PB.cell HM.out.pb k K;rw[Wzz,j] at this;exact this
 have a8:isH c:=by rw[<-j];exact HH.out _ (zQ l k 0 K)
 have I:pv (l.take (k+1))=a*16+hv c:=by rw[qk 0 l k K,j,qq4,HA.out]
 have Q:a*16+hv c<=4294967295:=by rw[<-I];exact Wz9 (FV l (k+1)) HP.out
 have M:=hid I;have h:c.toNat<256:=c.toNat_lt;obtain⟨x,hx⟩:∃ x,c.toNat=x:=⟨_,rfl⟩;have G:=L.out;have a0:0<=A:=by omega
 have a1:A<=4294967295:=by omega
 obtain⟨y,hy⟩:∃ y:Int,(x:Int)=y:=⟨_,rfl⟩;rw[hx,hy] at hc;have y0:0<=y:=by omega
 have ak:y<256:=by omega
 rcases a8 with ⟨h1,h2⟩ | ⟨h1,h2⟩
 ·have D:hv c=x-48:=by unfold hv;rw[if_pos (by omega),hx]
  have g1:(48:Int)<=y:=by omega
  have g2:y<=57:=by omega
  have a7:A*16+(y-48)<=4294967295:=by omega
  have HQ:Hid (A*16+(y-48)=((a*16+hv c:Nat):Int)):=hid (by rw[D,G];push_cast;omega);have J:Hid (a*16+hv c=pv (l.take (k+1))):=hid M.out.symm;clear D hx I h1 h2 j hy G Q ha h;go_wp2;go_roundg (n-(k+1));case measure=>omega
  case rel=>exact⟨k+1,_,A*16+(y-48),rfl,by first | rfl | (congr 1;omega),by first | rfl | go_num,rfl,by omega,rfl,J,HQ⟩
 have D:hv c=x-87:=by unfold hv;rw[if_neg (by omega),hx]
 have ag:=qq5 x (by omega);rw[hy] at ag;have g1:(97:Int)<=y:=by omega
 have g2:y<=102:=by omega
 have a7:A*16+(y-97+10)<=4294967295:=by omega
 have HQ:Hid (A*16+(y-97+10)=((a*16+hv c:Nat):Int)):=hid (by rw[D,G];push_cast;omega);have J:Hid (a*16+hv c=pv (l.take (k+1))):=hid M.out.symm;clear D hx I h1 h2 j hy G Q ha h;go_wp2_with (go_at_call 229;refine(zz9 _ _).mono ?_;rintro e w' ⟨rfl,rfl⟩)
 go_roundg (n-(k+1));case measure=>omega
 case rel=>exact⟨k+1,_,A*16+(y-97+10),rfl,by first | rfl | (congr 1;omega),by first | rfl | go_num,rfl,by omega,rfl,J,HQ⟩
theorem zv2 (l:List UInt8) (A:l ≠ []) (K:l.length<=100) (I:∀ c ∈ l,isH c) (J:pv l<=4294967295) (w:World) :
  Calls prog 170 #[.string ⟨l.toArray⟩,.int .i64 16,.int .i64 64] w fun e w'=>e=.returned (.tuple #[.int .i64 (pv l),.nilIface])/\Below w.heap.size w w':=by
 have hc:=Pq l A K I J w;obtain⟨c,t,rfl⟩:=List.exists_cons_of_ne_nil A;have j:∀ w1:World,(Instr.index 9 (.string ⟨(c :: t).toArray⟩) (.int .i64 0)).run prog w1=.ok (.int .u8 (c.toNat:Int)) w1:=fun w1=>Zy (c :: t) 0 w1 c rfl;have h:=I c (by simp);obtain⟨x,hx⟩:∃ x,c.toNat=x:=⟨_,rfl⟩;unfold isH at h;rw[hx] at j h
 have g1:¬ ((x:Int)=43):=by omega
 have Q:¬ ((x:Int)=45):=by omega
 obtain⟨v,hv⟩:∃ v,pv (c :: t)=v:=⟨_,rfl⟩;rw[hv] at hc J ⊢;have D:(⟨(c :: t).toArray⟩:ByteArray).toList.isEmpty=false:=by rw[Lib.toList_data];rfl
 obtain⟨S,O⟩:=nm_ (⟨(c :: t).toArray⟩:ByteArray);rw[O.out] at hc j D ⊢;obtain⟨z,L⟩:∃ z:Int,(v:Int)=z:=⟨_,rfl⟩;rw[L] at hc ⊢;have z0:0<=z:=by omega
 have z1:z<=4294967295:=by omega
 obtain⟨V,G⟩:∃ z:Int,(x:Int)=z:=⟨_,rfl⟩;rw[G] at j g1 Q;clear h hx I hv A K J L G;go_enter func170,ntmps170;go_wp2_with (go_at_call 204;refine hc.mono ?_;rintro e w1 ⟨rfl,hb⟩;have M:=hid hb;clear hb)
 go_ret2;exact⟨rfl,M.out⟩
theorem KW (l:List UInt8) (h:l ≠ []) (A:l.length<=100) (j:∀ c ∈ l,isH c) (D:pv l<=4294967295) (w:World) :
  Calls prog 138 #[.string ⟨l.toArray⟩,.int .i64 16,.int .i64 64] w fun e w'=>e=.returned (.tuple #[.int .i64 (pv l),.nilIface])/\Below w.heap.size w w':=by
 have hc:=zv2 l h A j D w;obtain⟨v,hv⟩:∃ v,pv l=v:=⟨_,rfl⟩;rw[hv] at hc ⊢;clear h A j D hv;go_enter func138,ntmps138;go_wp2_with (go_at_call 170;refine hc.mono ?_;rintro e w1 ⟨rfl,hb⟩;have G:=hid hb;clear hb)
 go_ret2;exact⟨rfl,G.out⟩
def h16 (n:Nat):List UInt8:=Wz7 (16-(x16 n).length) 48++x16 n
theorem FW {d:Nat} (h:d<16):isH (Wy1 (dv d))/\hv (Wy1 (dv d))=d:=by
 have A:=zxK h;have e:(Wy1 (dv d)).toNat=dv d:=by rw[Wyy];omega
 unfold isH hv;rw[e];unfold dv;by_cases j:d<10
 ·rw[if_pos j,if_pos (by omega)];exact⟨.inl ⟨by omega,by omega⟩,by omega⟩
 rw[if_neg j,if_neg (by omega)];exact⟨.inr ⟨by omega,by omega⟩,by omega⟩
theorem quu (k n:Nat):n<k->(∀ c ∈ x16 n,isH c)/\∀ a,(x16 n).foldl (fun a c=>a*16+hv c) a=a*16 ^ (x16 n).length+n:=by
 induction k generalizing n with
 | zero=>intro h;omega
 | succ k D =>
  intro h;by_cases h16:n<16
  ·rw[ZQ n h16];exact⟨fun c hc=>by rw[Wqk.1 hc];exact(FW h16).1,fun a=>by simp[(FW h16).2]⟩
  rw[J1 n h16];have j:n % 16<16:=Nat.mod_lt _ (by omega);obtain⟨A,i2⟩:=D (n / 16) (by omega);refine⟨fun c hc=>?_,fun a=>?_⟩
  ·rcases Wqx.1 hc with hc | hc
   ·exact A c hc
   rw[Wqk.1 hc];exact(FW j).1
  rw[WqV,i2];simp only[WqW,List.foldl_nil,(FW j).2,Wzy,List.length_cons,List.length_nil,Wzz,Wx9];have:=Nat.div_add_mod n 16;rw[Nat.add_mul,Nat.mul_assoc];omega
theorem k8 (n:Nat) (h:n<4294967296):(h16 n).length=16/\(∀ c ∈ h16 n,isH c)/\pv (h16 n)=n:=by
 have G:=J2 7 n (by simpa using h);obtain⟨A,i2⟩:=quu (n+1) n (by omega);refine⟨by unfold h16;rw[Wzy,List.length_replicate];omega,fun c hc=>?_,?_⟩
 ·rcases Wqx.1 hc with hc | hc
  ·rw[List.eq_of_mem_replicate hc];exact .inl ⟨by decide,by decide⟩
  exact A c hc
 unfold pv h16;rw[WqV,i2];have j:∀ k,(Wz7 k (48:UInt8)).foldl (fun a c=>a*16+hv c) 0=0:=by
  intro k;induction k with
  | zero=>rfl
  | succ k D=>rw[List.replicate_succ,WqW];exact D
 rw[j,Nat.zero_mul,Wzz]
theorem results51:f51.results=#[.tmp 4]:=by kernel_rfl
theorem results175:f175.results=#[.cell 2 116]:=by kernel_rfl
def okG (p:Per) (tx:Str):Prop:=okP p/\tx.length<=2000/\∀ c ∈ tx,c ≠ 10/\c ≠ 0
theorem asc2:Asc ⟨#[10,0]⟩:=by
 intro j h;have A:j<2:=h;match j,A with
 | 0,_=>show (10:UInt8).toNat<128;decide
 | 1,_=>show (0:UInt8).toNat<128;decide
theorem quZ (tx:Str):Zz ⟨tx.toArray⟩ ⟨#[10,0]⟩ ↔ ¬ ∀ c ∈ tx,c ≠ 10/\c ≠ 0:=by
 unfold Zz;simp only[List.mem_cons,List.not_mem_nil,or_false];constructor
 ·rintro⟨x,A,j⟩ h;have:=h x (by simpa using A);rcases j with rfl | rfl
  ·exact this.1 rfl
  exact this.2 rfl
 intro h;by_cases j:∃ c ∈ tx,c=10 ∨ c=0
 ·obtain⟨c,D,G⟩:=j;exact⟨c,by simpa using D,G⟩
 exact absurd (fun c hc=>⟨fun e=>j ⟨c,hc,.inl e⟩,fun e=>j ⟨c,hc,.inr e⟩⟩) h
theorem KY (p:Per) (tx:Str) (hl:tx.length<=1000000) (w:World):Calls prog 51 #[.agg (x8 p),sV tx] w fun e w'=>BIs (okG p tx) e/\Below w.heap.size w w':=by
 obtain⟨w1,Y⟩:∃ w1,w.alloc (.cells (x8 p) 45)=w1:=⟨_,rfl⟩;have I:Below w.heap.size w w1:=by rw[<-Y];exact(Below.refl _ _).alloc (Wz8 _) _
 have K:=TK p w1;have G:=fun W=>Qy ⟨tx.toArray⟩ ⟨#[10,0]⟩ (by decide) (by decide) asc2 (by simpa [Wqz] using hl) W;obtain⟨n,hn⟩:∃ n,tx.length=n:=⟨_,rfl⟩;have hS:(⟨tx.toArray⟩:ByteArray).size=n:=by rw[<-hn];simp[Wqz]
 obtain⟨S,HS⟩:=nm_ (⟨tx.toArray⟩:ByteArray);have a6:Hid (Zz S ⟨#[10,0]⟩ ↔ ¬ ∀ c ∈ tx,c ≠ 10/\c ≠ 0):=hid (by rw[<-HS.out];exact quZ tx);rw[HS.out] at hS G;obtain⟨P,Q⟩:∃ P:List Value,Hid (x8 p=P.toArray):=⟨(x8 p).toList,hid (by simp)⟩
 have M:Hid ((prog.info? 45).map (·.size)=some P.length):=hid (by rw[show P.length=4 by rw[<-List.size_toArray,<-Q.out];rfl];kernel_rfl);have HR:Hid (w1.rangeAt w.heap.size 0 P):=hid (by rw[<-Y,Q.out];exact zw (heap_alloc_new _ _));rw[Q.out] at Y K ⊢;unfold sV;rw[HS.out];have D:=hid I;have HN:=hid hn;clear I hn hl;by_cases Z:okP p;rotate_left
 ·have L:Calls prog 87 #[.agg P.toArray] w1 fun e w'=>e=.returned (.bool false)/\Below w1.heap.size w1 w':=K.mono fun e w' ⟨h,hb⟩=>⟨by rcases Zq h with ⟨h,_⟩ | ⟨_,h⟩;exact absurd h Z;exact h,hb⟩;have H1:=hid Z;clear K Z G;go_enter func51,ntmps51;go_wp2_with (first
   | (refine wpList_load_mid rfl 45 (.tmp 2) rfl _ 0 rfl P _ HR.out underlying45 rfl M.out ?_;go_frame)
   | (go_at_call 87;refine L.mono ?_;rintro e w2 ⟨rfl,j⟩;have A:=hid (D.out.trans (j.mono D.out.size));clear j))
  exact bodyPost_ret (results_tmp results51 _ _ _) rfl ⟨yw (fun h=>H1.out h.1),A.out⟩
 have L:Calls prog 87 #[.agg P.toArray] w1 fun e w'=>e=.returned (.bool true)/\Below w1.heap.size w1 w':=K.mono fun e w' ⟨h,hb⟩=>⟨by rcases Zq h with ⟨_,h⟩ | ⟨h,_⟩;exact h;exact absurd Z h,hb⟩;have H1:=hid Z;clear K Z;by_cases h2:n<=2000
 ·have a7:(n:Int)<=2000:=by omega
  have H2:=hid h2;by_cases h3:∀ c ∈ tx,c ≠ 10/\c ≠ 0
  ·have V:∀ W,Calls prog 88 #[.string S,.string ⟨#[10,0]⟩] W fun e w'=>e=.returned (.bool false)/\Below W.heap.size W w':=fun W=>(G W).mono fun e w' ⟨⟨b,h,I⟩,hb⟩=>⟨by cases b with | false=>exact h | true=>exact absurd h3 (a6.out.1 (I.1 rfl)),hb⟩;have H3:=hid h3;clear G h3;go_enter func51,ntmps51;go_wp2_with (first
    | (refine wpList_load_mid rfl 45 (.tmp 2) rfl _ 0 rfl P _ HR.out underlying45 rfl M.out ?_;go_frame)
    | (go_at_call 87;refine L.mono ?_;rintro e w2 ⟨rfl,j⟩;have A:=hid (D.out.trans (j.mono D.out.size));clear j)
    | (go_at_call 88;refine(V _).mono ?_;rintro e w3 ⟨rfl,J⟩;have O:=hid (A.out.trans (J.mono A.out.size));clear J))
   exact bodyPost_ret (results_tmp results51 _ _ _) rfl ⟨V8 ⟨H1.out,by rw[HN.out];exact H2.out,H3.out⟩,O.out⟩
  have V:∀ W,Calls prog 88 #[.string S,.string ⟨#[10,0]⟩] W fun e w'=>e=.returned (.bool true)/\Below W.heap.size W w':=fun W=>(G W).mono fun e w' ⟨⟨b,h,I⟩,hb⟩=>⟨by cases b with | true=>exact h | false=>exact absurd (I.2 (a6.out.2 h3)) (by decide),hb⟩;have H3:=hid h3;clear G h3;go_enter func51,ntmps51;go_wp2_with (first
   | (refine wpList_load_mid rfl 45 (.tmp 2) rfl _ 0 rfl P _ HR.out underlying45 rfl M.out ?_;go_frame)
   | (go_at_call 87;refine L.mono ?_;rintro e w2 ⟨rfl,j⟩;have A:=hid (D.out.trans (j.mono D.out.size));clear j)
   | (go_at_call 88;refine(V _).mono ?_;rintro e w3 ⟨rfl,J⟩;have O:=hid (A.out.trans (J.mono A.out.size));clear J))
  exact bodyPost_ret (results_tmp results51 _ _ _) rfl ⟨yw (fun h=>H3.out h.2.2),O.out⟩
 have a7:¬ (n:Int)<=2000:=by omega
 have H2:=hid h2;clear G;go_enter func51,ntmps51;go_wp2_with (first
  | (refine wpList_load_mid rfl 45 (.tmp 2) rfl _ 0 rfl P _ HR.out underlying45 rfl M.out ?_;go_frame)
  | (go_at_call 87;refine L.mono ?_;rintro e w2 ⟨rfl,j⟩;have A:=hid (D.out.trans (j.mono D.out.size));clear j))
 exact bodyPost_ret (results_tmp results51 _ _ _) rfl ⟨yw (fun h=>H2.out (by rw[<-HN.out];exact h.2.1)),A.out⟩
theorem zv3 (s:Str) (j:s.length<=1000000000) (w:World):Calls prog 142 #[sV (s++[10]),.string ⟨#[10]⟩] w fun e w'=>e=.returned (sV s)/\w'=w:=by
 have h:=Any.strings_TrimSuffix lays102 ⟨(s++[10]).toArray⟩ ⟨#[10]⟩ w (by simp[Wqz];omega);have e:Lib.trimSuffix (s++[10]) [10]=s:=by
  unfold Lib.trimSuffix Lib.hasSuffix;rw[if_pos (by rw[List.isSuffixOf_iff_suffix];exact⟨s,rfl⟩)];simp
 refine h.mono ?_;rintro e w' ⟨rfl,rfl⟩;refine⟨?_,rfl⟩;show Ending.returned (.string ⟨(Lib.trimSuffix (s++[10]) [10]).toArray⟩)=_;rw[e];rfl
theorem W7 (x:List Int) (hx:IdW x) (w:World):Calls prog 175 #[sV (yV x)] w fun e w'=>e=.returned (.agg (row .u8 x).toArray)/\Below w.heap.size w w':=by
 obtain⟨Z,L⟩:=ri zZ rfl;have j:Hid (Z=z89):=hid (by rw[<-L.out.e];rfl);have I:Hid (Below w.heap.size w (w.alloc (.cells Z 116))):=hid ((Below.refl _ w).alloc (Wz8 _) _);have A:=S9 (yV x) (w.alloc (.cells Z 116)) (by rw[xj,hx.1];omega)
 have h:Hid (Calls prog 211 #[sV (yV x)] (w.alloc (.cells Z 116)) fun e w'=>(∃ G,e=.returned (.tuple #[.agg (row .u8 x).toArray,G]))/\Below (w.alloc (.cells Z 116)).heap.size (w.alloc (.cells Z 116)) w'):=A.mono fun e w' ⟨hb,fr,G,h1,h2⟩=>⟨⟨G,by rw[h1,zx0 x fr hx.1 hx.2 h2]⟩,hb⟩;obtain⟨R,HR⟩:=ri x hx.1
 have J:Hid (∀ w1,Below (w.alloc (.cells Z 116)).heap.size (w.alloc (.cells Z 116)) w1->w1.heap[w.heap.size]? = some (.cells Z 116)/\(w1.alloc (.cells R 116)).heap[w.heap.size]? = some (.cells Z 116)/\(w1.alloc (.cells R 116)).heap[w1.heap.size]? = some (.cells R 116)/\((w1.alloc (.cells R 116)).setRow w.heap.size R).heap[w.heap.size]? = some (.cells R 116)/\Below w.heap.size w ((w1.alloc (.cells R 116)).setRow w.heap.size R)):=fun w1 hb=>by
  have q1:w1.heap[w.heap.size]? = some (.cells Z 116):=(hb.block _ (by simp)).trans (heap_alloc_new _ _);have D:(w1.alloc (.cells R 116)).heap[w.heap.size]? = some (.cells Z 116):=(heap_alloc_old _ _ (z7 q1)).trans q1;have K:Below w.heap.size w (w1.alloc (.cells R 116)):=(I.out.trans (hb.mono (by simp))).alloc (by have:=z7 q1;omega) _
  exact⟨q1,D,heap_alloc_new _ _,setRow_heap _ _ _ _ _ _ D,below_setRow K (Wz8 _) _⟩
 rw[HR.out.e] at h ⊢;rw[j.out] at h;unfold sV at h ⊢;unfold z89 at h;obtain⟨S,V⟩:=nm_ (⟨(yV x).toArray⟩:ByteArray);rw[V.out] at h ⊢;clear A hx;go_enter func175,ntmps175;go_wp2_with (first
  | (go_at_call 211;refine h.out.mono ?_;rintro e w1 ⟨⟨G,rfl⟩,hb⟩;obtain⟨q1,D,M,O,Q⟩:=J.out w1 (by rw[j.out];exact hb);have Q2:=hid D;have Q3:=hid M;have Y:=hid O;have Q5:=hid Q;clear hb q1 D M O Q)
  | (refine zq rfl 116 (.tmp 3) (.tmp 8) rfl _ R rfl rfl HR.out.i HR.out.z HR.out.o ?_;go_frame)
  | (refine zX rfl 116 (.tmp 3) rfl _ R 116 (0,0) _ rfl Q3.out underlying116 rfl HR.out.i ?_;go_frame)
  | (refine wpList_store_row rfl 116 (.tmp 2) (.tmp 10) rfl w.heap.size R rfl rfl 116 _ Q2.out HR.out.i (by rw[<-HR.out.z,<-L.out.e]) HR.out.o ?_))
 refine bodyPost_ret (yq results175 _ _ w.heap.size R.toList _ rfl (zw (by simpa using Y.out)) underlying116 rfl (by simpa using HR.out.i)) rfl ⟨?_,Q5.out⟩;simp
end Go.Proofs.YtdnphaganajejaaGreatDoor.K
