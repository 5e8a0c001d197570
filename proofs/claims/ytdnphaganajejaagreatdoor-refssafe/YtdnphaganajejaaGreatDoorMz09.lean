import Derived.Test.YtdnphaganajejaaGreatDoorMz08
set_option linter.unusedSimpArgs false
set_option linter.unusedVariables false
set_option maxRecDepth 20000
set_option maxHeartbeats 4000000
open ByteArray renaming size->Wqz,size_append->Wy5
open List renaming dropWhile_sublist->Wyj,length_reverse->Wyk,mem_append->Wqx,reverse_reverse->Wyv
open Nat renaming le_of_lt->Wyw
open UInt8 renaming ofNat->Wy1,toNat_ofNat'->Wyy
namespace Go.Proofs.YtdnphaganajejaaGreatDoor
open Go.Proofs.Tryz
open Go.RowKit
def okT (s:List UInt8):Prop:=s.length<=60/\(∀ x ∈ s,x ≠ 60/\x ≠ 62/\x ≠ 10/\x ≠ 0)/\Lib.trimS s [32]=s
theorem Ou:Asc ⟨#[60,62,10,0]⟩:=by
 intro j h;have A:j<4:=h;match j,A with
 | 0,_=>exact(by decide:(60:UInt8).toNat<128)
 | 1,_=>exact(by decide:(62:UInt8).toNat<128)
 | 2,_=>exact(by decide:(10:UInt8).toNat<128)
 | 3,_=>exact(by decide:(0:UInt8).toNat<128)
theorem OZ (s:List UInt8):¬ Zz ⟨s.toArray⟩ ⟨#[60,62,10,0]⟩ ↔ ∀ x ∈ s,x ≠ 60/\x ≠ 62/\x ≠ 10/\x ≠ 0:=by
 unfold Zz;simp only[not_exists,not_and];constructor
 ·intro h x hx;have:=h x hx;simpa using this
 intro h x hx;have:=h x hx;simpa using this
def BIs (P:Prop) (e:Ending):Prop := ∃ b:Bool,e=.returned (.bool b)/\(b=true ↔ P)
theorem yw {P:Prop} (h:¬ P):BIs P (.returned (.bool false)):=⟨false,rfl,⟨(fun h=>by cases h),fun j=>absurd j h⟩⟩
theorem V8 {P:Prop} (h:P):BIs P (.returned (.bool true)):=⟨true,rfl,⟨fun _=>h,fun _=>rfl⟩⟩
theorem Zq {P:Prop} {e:Ending} (h:BIs P e):(P/\e=.returned (.bool true)) ∨ (¬ P/\e=.returned (.bool false)):=by
 obtain⟨b,rfl,hb⟩:=h;cases b with
 | true=>exact .inl ⟨hb.1 rfl,rfl⟩
 | false=>exact .inr ⟨(fun h=>by have:=hb.2 h;cases this),rfl⟩
theorem VW (s:List UInt8) (hs:s.length<=1000000) (w:World) :
  Calls prog 111 #[.string ⟨s.toArray⟩] w fun e w'=>BIs (okT s) e/\Below w.heap.size w w':=by
 obtain⟨S,G⟩:=nn_ (⟨s.toArray⟩:ByteArray);have hsz:S.size=s.length:=by rw[G.out];simp[Wqz]
 obtain⟨T,HT⟩:=nn_ (⟨(Lib.trimS s [32]).toArray⟩:ByteArray);have M:Hid (∀ w,Calls prog 88 #[.string S,.string ⟨#[60,62,10,0]⟩] w fun e w'=>BIs (¬ ∀ x ∈ s,x ≠ 60/\x ≠ 62/\x ≠ 10/\x ≠ 0) e/\Below w.heap.size w w'):=fun w=>by
  refine(Qy S ⟨#[60,62,10,0]⟩ (by decide) (by decide) Ou (by omega) w).mono ?_;rintro e w' ⟨⟨b,rfl,hb⟩,Z⟩;refine⟨⟨b,rfl,?_⟩,Z⟩;rw[hb,<-OZ,G.out,Classical.not_not]
 have V:Hid (∀ w,Calls prog 144 #[.string S,.string ⟨#[32]⟩] w fun e w'=>e=.returned (.string T)/\Below w.heap.size w w'):=fun w=>by
  rw[HT.out,G.out];exact Any.strings_Trim_laid lays160 Tw ⟨s.toArray⟩ ⟨#[32]⟩ w (by simp[Wqz];omega) (by decide) (fun j b hb=>by
   match j,hb with
   | 0,hb=>simp at hb;subst hb;decide
   | j+1,hb=>simp at hb)
 have O:Hid ((T.toList == S.toList)=true ↔ Lib.trimS s [32]=s):=hid (by
  rw[HT.out,G.out,Lib.toList_data,Lib.toList_data];simp)
 rw[<-G.out];by_cases h:s.length<=60;rotate_left
 ·have hi:¬ (S.size:Int)<=60:=by omega
  go_enter func111,ntmps111;go_wp2;go_ret;exact⟨yw (fun Z=>h Z.1),Below.refl _ _⟩
 have hi:(S.size:Int)<=60:=by omega
 go_enter func111,ntmps111;go_wp2_with fail
 refine(M.out w).mono ?_;rintro ev w1 ⟨hb,I⟩;have D:Hid _:=I;clear I;rcases Zq hb with ⟨K,rfl⟩ | ⟨A,rfl⟩
 ·have Q:Hid (¬ okT s):=fun h=>K h.2.1;clear K hb;go_wp2;go_ret;exact⟨yw Q.out,D.out⟩
 have Y:Hid (∀ x ∈ s,x ≠ 60/\x ≠ 62/\x ≠ 10/\x ≠ 0):=Classical.not_not.1 A;clear A hb;go_wp2_with fail
 refine(V.out w1).mono ?_;rintro ev w2 ⟨rfl,J⟩;have L:Hid (Below w.heap.size w w2):=D.out.trans (J.mono D.out.size);clear J;go_wp2;go_ret;refine⟨⟨(T.toList == S.toList),rfl,?_⟩,L.out⟩;rw[O.out];exact⟨fun h3=>⟨h,Y.out,h3⟩,fun h3=>h3.2.2⟩
theorem Zw (s:List UInt8) (w:World):Calls prog 111 #[.string ⟨s.toArray⟩] w fun e w'=>BIs (okT s) e/\Below w.heap.size w w':=by
 by_cases h:s.length<=60
 ·exact VW s (by omega) w
 obtain⟨S,j⟩:=nn_ (⟨s.toArray⟩:ByteArray);have hsz:S.size=s.length:=by rw[j.out];simp[Wqz]
 rw[<-j.out];have hi:¬ (S.size:Int)<=60:=by omega
 go_enter func111,ntmps111;go_wp2;go_ret;exact⟨yw (fun A=>h A.1),Below.refl _ _⟩
structure Per where
 name:List UInt8
 mail:List UInt8
 time:Int
 zone:Int
def okP (p:Per):Prop:=okT p.name/\okT p.mail/\(0<=p.time/\p.time<=1099511627776)/\-840<=p.zone/\p.zone<=840
def x8 (p:Per):Array Value:=#[.string ⟨p.name.toArray⟩,.string ⟨p.mail.toArray⟩,.int .i64 p.time,.int .i64 p.zone]
theorem TK (p:Per) (w:World) :
  Calls prog 87 #[.agg (x8 p)] w fun e w'=>BIs (okP p) e/\Below w.heap.size w w':=by
 obtain⟨nm,ml,tm,I⟩:=p;have HN:Hid (∀ w,Calls prog 111 #[.string ⟨nm.toArray⟩] w fun e w'=>BIs (okT nm) e/\Below w.heap.size w w'):=fun w=>Zw nm w;have HM:Hid (∀ w,Calls prog 111 #[.string ⟨ml.toArray⟩] w fun e w'=>BIs (okT ml) e/\Below w.heap.size w w'):=fun w=>Zw ml w;obtain⟨N,Y⟩:=nn_ (⟨nm.toArray⟩:ByteArray)
 obtain⟨M,V⟩:=nn_ (⟨ml.toArray⟩:ByteArray);obtain⟨G,L⟩:=nm_ w.heap.size;obtain⟨w0,A⟩:=nm_ (w.alloc (.cells #[.string N,.string M,.int .i64 tm,.int .i64 I] 45));have O:Hid (Below G w w0):=hid (by rw[<-A.out,<-L.out];exact(Below.refl _ w).alloc (Nat.le_refl _) _);have J:G<w0.heap.size:=by rw[<-A.out,<-L.out];simp
 have HC:Hid (∀ W,Below w0.heap.size w0 W->W.cell? ⟨G,1,none⟩=some (.string M)/\W.cell? ⟨G,2,none⟩=some (.int .i64 tm)/\W.cell? ⟨G,3,none⟩=some (.int .i64 I)):=fun W hW=>by
  refine⟨(hW.cell (p:=⟨G,1,none⟩) J).trans ?_,(hW.cell (p:=⟨G,2,none⟩) J).trans ?_,(hW.cell (p:=⟨G,3,none⟩) J).trans ?_⟩
  ·rw[<-A.out,<-L.out];simp
  ·rw[<-A.out,<-L.out];simp
  rw[<-A.out,<-L.out];simp
 have am:w0.cell? ⟨G,0,none⟩=some (.string N):=by rw[<-A.out,<-L.out];simp
 rw[<-Y.out] at HN;rw[<-V.out] at HM;unfold x8;simp only;rw[<-Y.out,<-V.out];go_enter func87,ntmps87;go_wp2_with fail
 rw[L.out,A.out];refine(HN.out w0).mono ?_;rintro ev w1 ⟨hb,Z⟩;have K:Hid _:=Z;clear Z;rcases Zq hb with ⟨ag,rfl⟩ | ⟨ad,rfl⟩;rotate_left
 ·have j:Hid (¬ okP ⟨nm,ml,tm,I⟩):=fun h=>ad h.1;clear ad hb;go_wp2;go_ret;exact⟨yw j.out,by rw[L.out];exact O.out.trans (K.out.mono (Wyw J))⟩
 have aj:Hid (okT nm):=ag;clear ag hb;obtain⟨a7,a8,ac⟩:=HC.out w1 K.out;go_wp2_with fail
 refine(HM.out w1).mono ?_;rintro ev w2 ⟨hb,a6⟩;have Q:Hid (Below w0.heap.size w0 w2):=K.out.trans (a6.mono K.out.size);clear a6 a7 a8 ac;have D:Hid (Below w.heap.size w w2):=hid (by rw[L.out];exact O.out.trans (Q.out.mono (Wyw J)));obtain⟨a7,a8,ac⟩:=HC.out w2 Q.out;rcases Zq hb with ⟨ah,rfl⟩ | ⟨ae,rfl⟩;rotate_left
 ·have j:Hid (¬ okP ⟨nm,ml,tm,I⟩):=fun h=>ae h.2.1;clear ae hb;go_wp2;go_ret;exact⟨yw j.out,D.out⟩
 have ak:Hid (okT ml):=ah;clear ah hb;by_cases t1:0<=tm;rotate_left
 ·have j:Hid (¬ okP ⟨nm,ml,tm,I⟩):=fun h=>t1 h.2.2.1.1;go_wp2;go_ret;exact⟨yw j.out,D.out⟩
 by_cases t2:tm<=1099511627776;rotate_left
 ·have j:Hid (¬ okP ⟨nm,ml,tm,I⟩):=fun h=>t2 h.2.2.1.2;go_wp2;go_ret;exact⟨yw j.out,D.out⟩
 by_cases t3 : -840<=I
 ·by_cases t4:I<=840
  ·have j:Hid (okP ⟨nm,ml,tm,I⟩):=⟨aj.out,ak.out,⟨t1,t2⟩,t3,t4⟩;go_wp2;go_ret;exact⟨V8 j.out,D.out⟩
  have j:Hid (¬ okP ⟨nm,ml,tm,I⟩):=fun h=>t4 h.2.2.2.2;have ai:Hid (decide (I<=840)=false):=decide_eq_false t4;go_wp2;go_ret;refine⟨?_,D.out⟩;show BIs _ (.returned (.bool (decide (I<=840))));rw[ai.out];exact yw j.out
 have j:Hid (¬ okP ⟨nm,ml,tm,I⟩):=fun h=>t3 h.2.2.2.1;go_wp2;go_ret;exact⟨yw j.out,D.out⟩
theorem qz1 (h v2:Value) (w:World):(callFunc 113 #[h,v2]).run prog w=.ok (.enter 113 #[h,v2]) w:=by kernel_rfl
theorem zyv (v:Value) (w:World):(callFunc 158 #[v]).run prog w=.ok (.enter 158 #[v]) w:=by kernel_rfl
def Gx (G:Nat) (N M:ByteArray) (tm zn:Int) (W:World):Prop:=W.cell? ⟨G,0,none⟩=some (.string N)/\W.cell? ⟨G,1,none⟩=some (.string M)/\W.cell? ⟨G,2,none⟩=some (.int .i64 tm)/\W.cell? ⟨G,3,none⟩=some (.int .i64 zn)
theorem Gx.below {G:Nat} {N M:ByteArray} {tm D:Int} {W A:World} (h:Gx G N M tm D W) (j:G<W.heap.size) (hb:Below W.heap.size W A):Gx G N M tm D A :=
 ⟨(hb.cell (p:=⟨G,0,none⟩) j).trans h.1,(hb.cell (p:=⟨G,1,none⟩) j).trans h.2.1,(hb.cell (p:=⟨G,2,none⟩) j).trans h.2.2.1,(hb.cell (p:=⟨G,3,none⟩) j).trans h.2.2.2⟩
def xk (p:Per):List UInt8:=p.name++32 :: 60 :: (p.mail++62 :: 32 :: (Lib.decDigits p.time.toNat++32 :: xy p.zone))
theorem uY (n:Nat) (h:n<=1099511627776):(Lib.decDigits n).length<=13:=EV 12 n (by omega)
theorem JV (p:Per) (hp:okP p) (w:World) (ht:Tab w) :
  Calls prog 119 #[.agg (x8 p)] w fun e w'=>e=.returned (.string ⟨(xk p).toArray⟩)/\Below w.heap.size w w':=by
 obtain⟨nm,ml,tm,V⟩:=p;obtain⟨⟨n1,_⟩,⟨m1,_⟩,⟨t1,t2⟩,z1,z2⟩:=hp;simp only at n1 m1 t1 t2 z1 z2;obtain⟨A,rfl⟩:∃ A:Nat,tm=(A:Int):=⟨tm.toNat,by omega⟩;have ak:A<=1099511627776:=by omega
 obtain⟨N,a7⟩:=nn_ (⟨nm.toArray⟩:ByteArray);obtain⟨M,a6⟩:=nn_ (⟨ml.toArray⟩:ByteArray);obtain⟨D,Y⟩:=nn_ (⟨(Lib.decDigits A).toArray⟩:ByteArray);obtain⟨Z,ah⟩:=nn_ (⟨(xy V).toArray⟩:ByteArray);have av:N.size<=60:=by rw[a7.out];simpa [Wqz] using n1
 have au:M.size<=60:=by rw[a6.out];simpa [Wqz] using m1
 have ar:D.size<=13:=by rw[Y.out];simpa [Wqz] using uY A ak
 have aB:Z.size=5:=by rw[ah.out];simp[Wqz,xy,two]
 obtain⟨X1,a8⟩:=nm_ (N++(⟨#[32,60]⟩:ByteArray));obtain⟨X2,ac⟩:=nm_ (X1++M);obtain⟨X3,ad⟩:=nm_ (X2++(⟨#[62,32]⟩:ByteArray));obtain⟨X4,ae⟩:=nm_ (X3++D);obtain⟨X5,ag⟩:=nm_ (X4++(⟨#[32]⟩:ByteArray));obtain⟨X6,aj⟩:=nm_ (X5++Z);have aw:X1.size=N.size+2:=by rw[<-a8.out,Wy5];rfl
 have ax:X2.size=X1.size+M.size:=by rw[<-ac.out,Wy5]
 have ay:X3.size=X2.size+2:=by rw[<-ad.out,Wy5];rfl
 have az:X4.size=X3.size+D.size:=by rw[<-ae.out,Wy5]
 have aA:X5.size=X4.size+1:=by rw[<-ag.out,Wy5];rfl
 have HR:Hid ((⟨(xk ⟨nm,ml,A,V⟩).toArray⟩:ByteArray)=X6):=hid (by
  rw[<-aj.out,<-ag.out,<-ae.out,<-ad.out,<-ac.out,<-a8.out,a7.out,a6.out,Y.out,ah.out,show (⟨#[32,60]⟩:ByteArray)=⟨[32,60].toArray⟩ from rfl,show (⟨#[62,32]⟩:ByteArray)=⟨[62,32].toArray⟩ from rfl,show (⟨#[32]⟩:ByteArray)=⟨[32].toArray⟩ from rfl,yZ,yZ,yZ,yZ,yZ,yZ];simp[xk])
 obtain⟨G,HG⟩:=nm_ w.heap.size;obtain⟨w0,K⟩:=nm_ (w.alloc (.cells #[.string N,.string M,.int .i64 A,.int .i64 V] 45));have I:Hid (Below G w w0):=hid (by rw[<-K.out,<-HG.out];exact(Below.refl _ w).alloc (Nat.le_refl _) _);have ai:G<w0.heap.size:=by rw[<-K.out,<-HG.out];simp
 have ap:Hid (Gx G N M A V w0):=hid (by rw[<-K.out,<-HG.out];exact⟨by simp,by simp,by simp,by simp⟩);have ao:Hid (∀ W,Below G w W->Tab W):=fun W hW=>ht.below (by rw[HG.out];exact hW)
 have HF:Hid (∀ W,Below G w W->Calls prog 113 #[.int .i64 A,.int .i64 10] W fun e w'=>e=.returned (.string D)/\Below W.heap.size W w'):=fun W hW=>by rw[Y.out];exact qz0 A ak W (ao.out W hW)
 have HZ:Hid (∀ W,Calls prog 158 #[.int .i64 V] W fun e w'=>e=.returned (.string Z)/\w'=W):=fun W=>by rw[ah.out];exact TJ V z1 z2 W
 rw[HR.out];unfold x8;simp only;rw[<-a7.out,<-a6.out];go_enter func119,ntmps119;go_wp2_with fail
 rw[HG.out,K.out];clear ht n1 m1;refine wp_region_held_drew (S:=Gx G N M A V) (by kernel_rfl) (by exact ap.out) (fun j=>?_);refine tZ (i:=0) j ?_;try simp only[Act.put,sL]
 refine tZ (i:=1) j ?_;try simp only[Act.put,sL]
 refine j8 (i:=2) (v:=.string X1) rfl (by kernel_rfl) (by kernel_rfl) (by kernel_rfl) (fun _ _ _ h=>h) (Or.inl ⟨by rfl,?_⟩) j ?_
 ·rintro w' ⟨c0,c1,c2,c3⟩;rw[<-a8.out];go_simp;first | done | omega | rfl
 try simp only[Act.put,sL]
 refine tZ (i:=3) j ?_;try simp only[Act.put,sL]
 refine tZ (i:=4) j ?_;try simp only[Act.put,sL]
 refine j8 (i:=5) (v:=.string X2) rfl (by kernel_rfl) (by kernel_rfl) (by kernel_rfl) (fun _ _ _ h=>h) (Or.inl ⟨by rfl,?_⟩) j ?_
 ·rintro w' ⟨c0,c1,c2,c3⟩;rw[<-ac.out];go_simp;first | done | omega | rfl
 try simp only[Act.put,sL]
 refine j8 (i:=6) (v:=.string X3) rfl (by kernel_rfl) (by kernel_rfl) (by kernel_rfl) (fun _ _ _ h=>h) (Or.inl ⟨by rfl,?_⟩) j ?_
 ·rintro w' ⟨c0,c1,c2,c3⟩;rw[<-ad.out];go_simp;first | done | omega | rfl
 try simp only[Act.put,sL]
 refine tZ (i:=7) j ?_;try simp only[Act.put,sL]
 refine tZ (i:=8) j ?_;try simp only[Act.put,sL]
 refine tZ (i:=12) j ?_;try simp only[Act.put,sL]
 refine tZ (i:=13) j ?_;try simp only[Act.put,sL]
 have Q:Hid (Below G w w0.drew):=hid ⟨I.out.os,I.out.tape,I.out.output,I.out.size,I.out.block⟩;refine wpAnyH_ready (rs:=[9]) (by kernel_rfl) (by simp) ?_;refine xw rfl (fun KK J=>?_) AllReadyH.nil;refine qY (by rfl) 113 [.tmp 11,.const (.int .i64 10)] _ [.int .i64 A,.int .i64 10] _ (by rfl) (by rfl) (qz1 _ _) (HF.out _ Q.out) ?_
 rintro e w1 ⟨rfl,O⟩;refine⟨_,rfl,?_⟩;have aC:G<w1.heap.size:=Nat.lt_of_lt_of_le ai O.size;have am:Hid (Below G w w1):=Q.out.trans (O.mono (Wyw ai));refine J.out _ _ (Gx.below (W:=w0.drew) j ai O) (fun j=>?_);clear J KK O;try simp only[Act.put,sL]
 refine j8 (i:=10) (v:=.string X4) rfl (by kernel_rfl) (by kernel_rfl) (by kernel_rfl) (fun _ _ _ h=>h) (Or.inl ⟨by rfl,?_⟩) j ?_
 ·rintro w' ⟨c0,c1,c2,c3⟩;rw[<-ae.out];go_simp;first | done | omega | rfl
 try simp only[Act.put,sL]
 refine j8 (i:=11) (v:=.string X5) rfl (by kernel_rfl) (by kernel_rfl) (by kernel_rfl) (fun _ _ _ h=>h) (Or.inl ⟨by rfl,?_⟩) j ?_
 ·rintro w' ⟨c0,c1,c2,c3⟩;rw[<-ag.out];go_simp;first | done | omega | rfl
 try simp only[Act.put,sL]
 refine wpAnyH_ready (rs:=[14]) (by kernel_rfl) (by simp) ?_;refine xw rfl (fun KK J=>?_) AllReadyH.nil;refine qY (by rfl) 158 [.tmp 16] _ [.int .i64 V] _ (by rfl) (by rfl) (zyv _) (HZ.out _) ?_;rintro e w2 ⟨rfl,rfl⟩;refine⟨_,rfl,?_⟩;refine J.out _ _ j (fun L=>?_);clear J KK L;try simp only[Act.put,sL]
 refine j8 (i:=15) (v:=.string X6) rfl (by kernel_rfl) (by kernel_rfl) (by kernel_rfl) (fun _ _ _ h=>h) (Or.inl ⟨by rfl,?_⟩) j ?_
 ·rintro w' ⟨c0,c1,c2,c3⟩;rw[<-aj.out];go_simp;first | done | omega | rfl
 try simp only[Act.put,sL]
 refine tZ (i:=16) j ?_;try simp only[Act.put,sL]
 refine wpAnyH_done (by kernel_rfl) ?_ _;go_wp2;go_ret;exact⟨rfl,by rw[HG.out];exact am.out⟩
end Go.Proofs.YtdnphaganajejaaGreatDoor
namespace Go.Proofs.YtdnphaganajejaaGreatDoor.Hx
open Go.Proofs.Tryz
open Go.RowKit
def hv (c:Int):Int:=if 48<=c/\c<=57 then c-48 else if 97<=c/\c<=102 then c-87 else -1
def sgn (s:ByteArray) (k:Nat):Int:=(s.data.toList.getD k 0).toNat
def zeros:List Int:=List.replicate 20 0
def idAt (s:ByteArray):Nat->List Int
 | 0=>zeros
 | k+1=>(idAt s k).set (k / 2) (((idAt s k).getD (k / 2) 0*16+hv (sgn s k)) % 256)
theorem idAt_len (s:ByteArray):∀ k,(idAt s k).length=20
 | 0=>rfl
 | k+1=>by rw[idAt,List.length_set,idAt_len s k]
theorem qvV (s:ByteArray) (k:Nat):0<=sgn s k/\sgn s k<256:=by
 unfold sgn;have:=(s.data.toList.getD k 0).toNat_lt;omega
theorem idAt_bd (s:ByteArray):∀ k,∀ n ∈ idAt s k,0<=n/\n<256
 | 0=>by intro n j;simp[idAt,zeros] at j;omega
 | k+1=>by
  intro n j;rcases List.mem_or_eq_of_mem_set j with h | h
  ·exact idAt_bd s k n h
  omega
def good (s:ByteArray):Prop := ∀ k,k<40->0<=hv (sgn s k)
theorem Gj (c:Int) (h0:0<=c) (h:c<256):firstIdx { data:=#[48,49,50,51,52,53,54,55,56,57,97,98,99,100,101,102] } c.toNat.toUInt8=hv c:=by
 obtain⟨n,rfl⟩:=Int.eq_ofNat_of_zero_le h0;have:∀ n:Nat,n<256->firstIdx { data:=#[48,49,50,51,52,53,54,55,56,57,97,98,99,100,101,102] } ((n:Int).toNat.toUInt8)=hv n:=by decide +kernel
 exact this n (by omega)
theorem Xz (c:Int) (w:World) (h0:0<=c) (h:c<256) :
  Calls prog 184 #[.string { data:=#[48,49,50,51,52,53,54,55,56,57,97,98,99,100,101,102] },.int .u8 c] w fun e w'=>e=.returned (.int .i64 (hv c))/\w'=w:=by
 have j:=@run_callFunc_extern prog 227 _ Extern.BytealgIndexByte.indexByte func227 (by kernel_rfl) (by kernel_rfl) (by kernel_rfl) (by kernel_rfl);have hr:=run_indexByte_string (P:=prog) { data:=#[48,49,50,51,52,53,54,55,56,57,97,98,99,100,101,102] } c;rw[Gj c h0 h] at hr;go_enter func184,ntmps184;go_wp2;go_ret;exact⟨rfl,rfl⟩
theorem qu {P:Program} {fn:Func} {p q:Tmp} {ty:TypeId} {t2:TypeId} (h:fn.results=#[.cell p ty,.tmp q]) (tmps:Array Value) (w:World) (g:Nat) (cs:List Value) (d:TypeDesc) (v:Value)
  (D:tmps.getD p undef=.pointer (some ⟨g,0,none⟩)) (G:tmps.getD q undef=v) (hc:w.rangeAt g 0 cs) (I:P.underlying ty=some d) (hd:d.isRow=true) (hi:(P.info? ty).map (·.size)=some cs.length) :
  (results fn tmps).run P w=.ok (.tuple #[.agg cs.toArray,v]) w:=by
 have j:tmps[p]?.getD undef=.pointer (some ⟨g,0,none⟩):=by simpa using D
 have A:tmps[q]?.getD undef=v:=by simpa using G
 simp[results,h,j,A,asAddr,run_loadVar_mid w g 0 ty cs d hc I hd hi]
end Go.Proofs.YtdnphaganajejaaGreatDoor.Hx
namespace Go.Proofs.YtdnphaganajejaaGreatDoor
open Go.Proofs.Tryz
open Go.RowKit
theorem Zy (s:List UInt8) (j:Nat) (w:World) (x:UInt8) (h:s[j]? = some x):(Instr.index 9 (.string ⟨s.toArray⟩) (.int .i64 j)).run prog w=.ok (.int .u8 (x.toNat:Int)) w:=by
 obtain⟨A,hx⟩:=List.getElem?_eq_some_iff.1 h;have hsz:(⟨s.toArray⟩:ByteArray).size=s.length:=by simp[Wqz]
 rw[run_index_string (P:=prog) w 9 ⟨s.toArray⟩ .i64 j underlying9,dif_pos ⟨by omega,by rw[hsz];omega⟩];simp only[Int.toNat_natCast];rw[<-hx];rfl
theorem JW (s:List UInt8) (j:Nat) (x:UInt8) (h:s[j]? = some x):s.take (j+1)=s.take j++[x]:=by
 rw[List.take_add_one,h];rfl
theorem N7 {x:UInt8} {n:Nat} (j:n<256):(x.toNat:Int)=(n:Int) ↔ x=Wy1 n:=by
 constructor
 ·intro h;apply UInt8.toNat_inj.1;rw[Wyy];omega
 rintro rfl;rw[Wyy];omega
theorem QY {p:UInt8->Bool} : ∀ {l:List UInt8},l.dropWhile p=l ↔ ∀ b,l[0]? = some b->p b=false
 | []=>by simp
 | b :: l=>by
  rw[List.dropWhile_cons];by_cases hb:p b=true
  ·rw[if_pos hb];constructor
   ·intro h;have j:=congrArg List.length h;have A:=(Wyj p (l:=l)).length_le;simp at j;omega
   intro h;have:=h b (by simp);rw[hb] at this;cases this
  rw[if_neg hb];simp[hb]
theorem OQ (s:List UInt8):Lib.trimS s [32]=s ↔ ∀ b,(s[0]? = some b ∨ s[s.length-1]? = some b)->b ≠ 32:=by
 have key:Lib.trimS s [32]=s ↔ s.reverse.dropWhile ([32].contains ·)=s.reverse/\s.dropWhile ([32].contains ·)=s:=by
  unfold Lib.trimS Lib.trimLeftS Lib.trimRightS;constructor
  ·intro h;have j:=(Wyj ([32].contains ·) (l:=s.reverse));have A:=(Wyj ([32].contains ·) (l:=(s.reverse.dropWhile ([32].contains ·)).reverse)).length_le;rw[h] at A;have G:=j.length_le;simp only[Wyk] at A G;have D:=j.eq_of_length (by simp only[Wyk];omega);refine⟨D,?_⟩;rw[D,Wyv] at h
   exact h
  rintro⟨j,A⟩;rw[j,Wyv,A]
 rw[key,QY,QY];have hc:∀ b:UInt8,([32].contains b=false) ↔ b ≠ 32:=fun b=>by simp
 simp only[hc];by_cases h0:s=[]
 ·subst h0;simp
 have I:0<s.length:=List.length_pos_iff.2 h0;rw[List.getElem?_reverse I];constructor
 ·rintro⟨j,A⟩ b (h | h)
  ·exact A b h
  exact j b (by simpa using h)
 intro h;exact⟨fun b hb=>h b (.inr (by simpa using hb)),fun b hb=>h b (.inl hb)⟩
def zyw (c:Int):Prop:=c=60 ∨ c=62 ∨ c=10 ∨ c=0
theorem LY (x:UInt8):¬ zyw (x.toNat:Int) ↔ x ≠ 60/\x ≠ 62/\x ≠ 10/\x ≠ 0:=by
 unfold zyw;rw[show ((x.toNat:Int)=60) ↔ x=60 from N7 (n:=60) (by decide),show ((x.toNat:Int)=62) ↔ x=62 from N7 (n:=62) (by decide),show ((x.toNat:Int)=10) ↔ x=10 from N7 (n:=10) (by decide),show ((x.toNat:Int)=0) ↔ x=0 from N7 (n:=0) (by decide)];constructor
 ·intro h;exact⟨fun e=>h (.inl e),fun e=>h (.inr (.inl e)),fun e=>h (.inr (.inr (.inl e))),fun e=>h (.inr (.inr (.inr e)))⟩
 rintro⟨a,b,c,d⟩ (h | h | h | h)
 ·exact a h
 ·exact b h
 ·exact c h
 exact d h
theorem N8 (s:List UInt8) (w:World):Calls prog 94 #[.string ⟨s.toArray⟩] w fun e w'=>BIs (okT s) e/\w'=w:=by
 obtain⟨S,V⟩:=nn_ (⟨s.toArray⟩:ByteArray);obtain⟨n,D⟩:=nm_ s.length;have hsz:S.size=n:=by rw[V.out,<-D.out];simp[Wqz]
 rw[<-V.out];by_cases h:n<=60;rotate_left
 ·have hi:(60:Int)<(n:Int):=by omega
  have A:Hid (¬ okT s):=fun ht=>h (by rw[<-D.out];exact ht.1);go_enter func94,ntmps94;go_wp2;go_ret;exact⟨yw A.out,rfl⟩
 have hi:¬ (60:Int)<(n:Int):=by omega
 go_enter func94,ntmps94;go_wp2;go_loopg [3] n (fun g i wr=>∃ j:Nat,j<=n/\g=n-j/\i=.int .i64 j/\Hid (∀ x ∈ s.take j,¬ zyw (x.toNat:Int))/\Hid (wr=w));case atStart=>exact⟨0,by omega,rfl,rfl,hid (by simp),hid rfl⟩
 case round =>
 obtain⟨j,hj,hk,rfl,HT,M⟩:=hrel;by_cases ae:j<n
 ·have Y:(j:Int)<(n:Int):=by omega
  obtain⟨x,hx⟩:∃ x,s[j]? = some x:=⟨_,List.getElem?_eq_getElem (by rw[D.out];exact ae)⟩;obtain⟨c,HC⟩:=nm_ (x.toNat:Int);have HX:Hid (s[j]? = some x):=hx;have ai:∀ w1:World,(Instr.index 9 (.string S) (.int .i64 j)).run prog w1=.ok (.int .u8 c) w1:=fun w1=>by rw[V.out,<-HC.out];exact Zy s j w1 x HX.out
  clear hx;by_cases hc:zyw c
  ·have HM:Hid (¬ okT s):=fun ht=>(LY x).2 (ht.2.1 x (List.mem_of_getElem? HX.out)) (by rw[HC.out];exact hc);clear HC;rcases hc with rfl | rfl | rfl | rfl;all_goals
    go_wp2;go_ret;exact⟨yw HM.out,M.out⟩
  have a7:Hid (¬ zyw c):=hc;have b1:(c == 60)=false:=by simp;exact fun e=>hc (.inl e)
  have b2:(c == 62)=false:=by simp;exact fun e=>hc (.inr (.inl e))
  have b3:(c == 10)=false:=by simp;exact fun e=>hc (.inr (.inr (.inl e)))
  have b4:(c == 0)=false:=by simp;exact fun e=>hc (.inr (.inr (.inr e)))
  clear hc;go_wp2;go_roundg (n-(j+1));case measure=>omega
  case rel =>
  refine⟨j+1,by omega,rfl,by go_num,hid ?_,M⟩;rw[JW s j x HX.out];intro y hy;rcases Wqx.1 hy with hy | hy
  ·exact HT.out y hy
  have:y=x:=by simpa using hy
  subst this;rw[HC.out];exact a7.out
 have Y:¬ (j:Int)<(n:Int):=by omega
 have ad:j=n:=by omega
 have a8:Hid (∀ x ∈ s,x ≠ 60/\x ≠ 62/\x ≠ 10/\x ≠ 0):=hid (by
  have h1:=HT.out;rw[List.take_of_length_le (by rw[D.out];omega)] at h1;exact fun x hx=>(LY x).1 (h1 x hx))
 have a6:Hid (s.length<=60):=hid (by rw[D.out];exact h);have Q:Hid (okT s ↔ ∀ b,(s[0]? = some b ∨ s[s.length-1]? = some b)->b ≠ 32):=hid (by
  unfold okT;rw[OQ];exact⟨fun h=>h.2.2,fun h=>⟨a6.out,a8.out,h⟩⟩)
 clear ad;by_cases h0:n=0
 ·have HY:Hid (okT s):=hid (by
   rw[Q.out];have:s=[]:=List.length_eq_zero_iff.1 (D.out.trans h0);subst this;simp)
  have ac:((n:Int) == 0)=true:=by simp;omega
  go_wp2;go_ret;exact⟨V8 HY.out,M.out⟩
 have ac:((n:Int) == 0)=false:=by simp;omega
 obtain⟨O,Z⟩:∃ x,s[0]? = some x:=⟨_,List.getElem?_eq_getElem (by rw[D.out];omega)⟩;obtain⟨x1,hx1⟩:∃ x,s[s.length-1]? = some x:=⟨_,List.getElem?_eq_getElem (by rw[D.out];omega)⟩;obtain⟨c0,G⟩:=nm_ (O.toNat:Int);obtain⟨c1,I⟩:=nm_ (x1.toNat:Int);have J:Hid (s[0]? = some O):=Z;have K:Hid (s[s.length-1]? = some x1):=hx1
 have ag:∀ w1:World,(Instr.index 9 (.string S) (.int .i64 0)).run prog w1=.ok (.int .u8 c0) w1:=fun w1=>by rw[V.out,<-G.out];exact Zy s 0 w1 O J.out
 have ah:∀ w1:World,(Instr.index 9 (.string S) (.int .i64 ((n:Int)-1))).run prog w1=.ok (.int .u8 c1) w1:=fun w1=>by
  rw[V.out,<-I.out,show ((n:Int)-1)=((s.length-1:Nat):Int) from by rw[D.out];omega];exact Zy s _ w1 x1 K.out
 have aj:1<=n:=by omega
 clear Z hx1;have L:Hid (okT s ↔ c0 ≠ 32/\c1 ≠ 32):=hid (by
  rw[Q.out,<-G.out,<-I.out];have e0:((O.toNat:Int)=32) ↔ O=32:=N7 (n:=32) (by decide);have e1:((x1.toNat:Int)=32) ↔ x1=32:=N7 (n:=32) (by decide);rw[Ne,Ne,e0,e1];constructor
  ·intro h;exact⟨h O (.inl J.out),h x1 (.inr K.out)⟩
  rintro⟨h1,h2⟩ b (h | h)
  ·rw[J.out] at h;cases h;exact h1
  rw[K.out] at h;cases h;exact h2)
 by_cases q0:c0=32
 ·have A:Hid (¬ okT s):=fun h=>(L.out.1 h).1 q0;clear L G;subst q0;go_wp2;go_ret;exact⟨yw A.out,M.out⟩
 have ak:(c0 != 32)=true:=by simpa using q0
 by_cases q1:c1=32
 ·have A:Hid (¬ okT s):=fun h=>(L.out.1 h).2 q1;clear L I;subst q1;go_wp2;go_ret;exact⟨yw A.out,M.out⟩
 have am:(c1 != 32)=true:=by simpa using q1
 have HY:Hid (okT s):=L.out.2 ⟨q0,q1⟩;clear L;go_wp2;go_ret;exact⟨V8 HY.out,M.out⟩
theorem F4 (x y:List UInt8):(⟨x.toArray⟩:ByteArray) ++ ⟨y.toArray⟩=⟨(x++y).toArray⟩:=by
 rw[ByteArray.mk_append_mk]
def Dl (n m:Nat) (s:List UInt8):Prop:=if m=0 then s=Lib.decDigits n else Lib.decDigits n=Lib.decDigits m++s
theorem Dl.next {n m:Nat} {s:List UInt8} (h:Dl n m s) (A:0<m):Dl n (m / 10) (Wy1 (48+m % 10) :: s):=by
 unfold Dl at h ⊢;rw[if_neg (by omega)] at h;by_cases j:m<10
 ·rw[if_pos (by omega),h,Lib.decDigits,dif_pos j,Nat.mod_eq_of_lt j];rfl
 rw[if_neg (by omega),h];conv=>lhs;rw[Lib.decDigits,dif_neg j]
 simp
def zyy (s:List UInt8):Nat:=s.foldl (fun n x=>n*10+(x.toNat-48)) 0
theorem OX (l:List UInt8) (x:UInt8):zyy (l++[x])=zyy l*10+(x.toNat-48):=by simp[zyy]
def JY (x:UInt8):Prop:=48<=x.toNat/\x.toNat<=57
end Go.Proofs.YtdnphaganajejaaGreatDoor
namespace Go.Proofs.YtdnphaganajejaaGreatDoor
open Go.Proofs.Tryz
def zs (q:Per):UInt8:=if q.zone<0 then 45 else 43
theorem vx (m:Nat) (h:m<10):(Wy1 (48+m)).toNat=48+m:=by rw[Wyy];omega
theorem TV (n:Nat):zyy (Lib.decDigits n)=n/\(∀ x ∈ Lib.decDigits n,JY x)/\1<=(Lib.decDigits n).length/\(1<=n->(Lib.decDigits n)[0]? ≠ some 48):=by
 induction n using Nat.strongRecOn with
 | _ n I =>
  by_cases h:n<10
  ·have e:Lib.decDigits n=[Wy1 (48+n)]:=(by rw[Lib.decDigits,dif_pos h]);have hx:=vx n h;rw[e];refine⟨?_,?_,by simp,?_⟩
   ·simp only[zyy,List.foldl_cons,List.foldl_nil,hx];omega
   ·intro x j;have:x=Wy1 (48+n):=(by simpa using j);subst this;unfold JY;omega
   intro J A;have D:Wy1 (48+n)=48:=(by simpa using A);rw[D] at hx;have:(48:UInt8).toNat=48:=rfl;omega
  have e:Lib.decDigits n=Lib.decDigits (n / 10)++[Wy1 (48+n % 10)]:=by conv=>lhs;rw[Lib.decDigits,dif_neg h]
  have hx:=vx (n % 10) (by omega);obtain⟨G,i2,i3,i4⟩:=I (n / 10) (by omega);rw[e];refine⟨?_,?_,by simp,?_⟩
  ·rw[OX,G,hx];omega
  ·intro x j;rcases Wqx.1 j with A | A
   ·exact i2 x A
   have:x=Wy1 (48+n % 10):=(by simpa using A);subst this;unfold JY;omega
  intro _;rw[List.getElem?_append_left (by omega)];exact i4 (by omega)
end Go.Proofs.YtdnphaganajejaaGreatDoor
namespace Go.Proofs.YtdnphaganajejaaGreatDoor
open Go.Proofs.Tryz
open Go.RowKit
theorem S7 (n:Nat) (hn:n<=1099511627776) (w:World):Calls prog 95 #[.int .i64 n] w fun e w'=>e=.returned (.string ⟨(Lib.decDigits n).toArray⟩)/\Below w.heap.size w w':=by
 by_cases h0:n=0
 ·subst h0;go_enter func95,ntmps95;go_wp2;go_ret;exact⟨by rw[Lib.decDigits];rfl,Below.refl _ _⟩
 have M:¬ ((n:Int) == 0)=true:=by simp;omega
 go_enter func95,ntmps95;go_wp2_with fail
 go_loopg [0,3] n (fun g v u wr=>∃ (m:Nat) (s:List UInt8) (S:ByteArray),v=.int .i64 m/\u=.string S/\g=m/\m<=1099511627776/\S.size<=13/\Hid (m*10 ^ S.size<=n)/\Hid (S=⟨s.toArray⟩)/\Hid (Dl n m s)/\Hid (Below w.heap.size w wr));case atStart=>exact⟨n,[],⟨#[]⟩,rfl,rfl,rfl,hn,by decide,hid (by show n*10 ^ 0<=n;omega),rfl,hid (by unfold Dl;rw[if_neg h0];simp),hid (Below.refl _ _)⟩
 case round =>
 obtain⟨m,s,S,rfl,rfl,hk,a6,hS,J,K,I,A⟩:=hrel;by_cases hm:0<m;rotate_left
 ·have G:¬ (0:Int)<m:=by omega
  go_wp2;go_ret;refine⟨?_,A.out⟩;have:=I.out;unfold Dl at this;rw[if_pos (by omega)] at this;rw[<-this,<-K.out];rfl
 have G:(0:Int)<m:=by omega
 obtain⟨x,HX⟩:=nn_ (Wy1 (48+m % 10));have hx:(48:Int)+(m:Int) % 10=(x.toNat:Int):=by
  rw[HX.out,Wyy];omega
 have D:∀ W:World,W.cell? ⟨wr.heap.size,0,none⟩=some (.int .u8 (x.toNat:Int))->Sem.run prog (convert 82 9 (.slice (some ⟨wr.heap.size,0,none⟩) 1 1)) W=.ok (.string ⟨#[x]⟩) W:=fun W Z=>by
  refine run_convert_bytes_back W 82 9 5 ⟨wr.heap.size,0,none⟩ 1 [x] underlying82 underlying5 underlying9 ?_;intro j hj;have:j=0:=by simpa using hj
  subst this;simpa [Addr.add] using Z
 have L:=D (wr.alloc (.cells #[.int .u8 (x.toNat:Int)] 5)) (by simp);have Y:¬ 9223372036854775807<1+S.size:=by omega
 have O:(⟨#[x]⟩:ByteArray).size=1:=rfl;go_wp2;have V:S.size<=12:=by
  rcases Nat.lt_or_ge S.size 13 with h | h
  ·omega
  have e:S.size=13:=by omega
  have:=J.out;rw[e] at this;omega
 have hsz:((⟨#[x]⟩:ByteArray)++S).size=S.size+1:=by rw[Wy5,O];omega
 go_roundg (m / 10);case measure=>omega
 case rel =>
 refine⟨m / 10,x :: s,⟨#[x]⟩ ++ S,by go_num,rfl,rfl,by omega,by omega,hid ?_,hid ?_,hid ?_,hid (A.out.alloc A.out.size _)⟩
 ·rw[hsz,Nat.pow_succ];have:=J.out;have Q:m / 10*(10 ^ S.size*10)=m / 10*10*10 ^ S.size:=by rw[Nat.mul_assoc (m / 10),Nat.mul_comm 10]
  rw[Q];exact Nat.le_trans (Nat.mul_le_mul_right _ (by omega)) this
 ·rw[K.out,show (⟨#[x]⟩:ByteArray)=⟨[x].toArray⟩ from rfl];exact F4 _ _
 rw[HX.out];exact I.out.next hm
end Go.Proofs.YtdnphaganajejaaGreatDoor
