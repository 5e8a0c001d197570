import Derived.Test.YtdnphaganajejaaGreatDoorMz09
set_option linter.unusedSimpArgs false
set_option linter.unusedVariables false
set_option maxRecDepth 20000
set_option maxHeartbeats 4000000
open ByteArray renaming size->Wqz,size_append->Wy5
open Int renaming eq_ofNat_of_zero_le->Wz0
open List renaming length_take->WzJ,replicate->Wz7,size_toArray->Wyu
open Nat renaming le_of_lt->Wyw,le_refl->Wz8,lt_or_ge->Wy4,zero_add->Wzz
open UInt8 renaming ofNat->Wy1,toNat_ofNat'->Wyy
namespace Go.Proofs.YtdnphaganajejaaGreatDoor
open Go.Proofs.Tryz
open Go.RowKit
theorem F5 (v:Value) (w:World):(callFunc 95 #[v]).run prog w=.ok (.enter 95 #[v]) w:=by kernel_rfl
def qx6 (p:Per) (w:World) (e:Ending) (w':World):Prop:=Below w.heap.size w w'/\((okP p/\e=.returned (.tuple #[.string ⟨(xk p).toArray⟩,.bool true])) ∨ (¬ okP p/\e=.returned (.tuple #[.string ⟨#[]⟩,.bool false])))
theorem zyu (p:Per) (w:World):Calls prog 58 #[.agg (x8 p)] w (qx6 p w):=by
 obtain⟨nm,ml,tm,K⟩:=p;obtain⟨N,ah⟩:=nn_ (⟨nm.toArray⟩:ByteArray);obtain⟨M,ag⟩:=nn_ (⟨ml.toArray⟩:ByteArray);have HN:Hid (∀ w,Calls prog 94 #[.string N] w fun e w'=>BIs (okT nm) e/\w'=w):=fun w=>by rw[ah.out];exact N8 nm w
 have HM:Hid (∀ w,Calls prog 94 #[.string M] w fun e w'=>BIs (okT ml) e/\w'=w):=fun w=>by rw[ag.out];exact N8 ml w
 obtain⟨G,HG⟩:=nm_ w.heap.size;obtain⟨w0,ai⟩:=nm_ (w.alloc (.cells #[.string N,.string M,.int .i64 tm,.int .i64 K] 72));have aE:Hid (Below G w w0):=hid (by rw[<-ai.out,<-HG.out];exact(Below.refl _ w).alloc (Wz8 _) _);have aw:G<w0.heap.size:=by rw[<-ai.out,<-HG.out];simp
 have aF:Hid (Gx G N M tm K w0):=hid (by rw[<-ai.out,<-HG.out];exact⟨by simp,by simp,by simp,by simp⟩);have a6:Hid (Below w.heap.size w w0):=hid (by rw[HG.out];exact aE.out);obtain⟨c0,c1,c2,c3⟩:=aF.out;unfold x8;simp only;rw[<-ah.out,<-ag.out];go_enter func58,ntmps58;go_wp2_with fail
 rw[HG.out,ai.out];refine(HN.out w0).mono ?_;rintro ev aR ⟨hb,O⟩;have Q:=O.symm;subst Q;clear O;rcases Zq hb with ⟨aQ,rfl⟩ | ⟨aO,rfl⟩;rotate_left
 ·have J:Hid (¬ okP ⟨nm,ml,tm,K⟩):=fun h=>aO h.1;clear aO hb;go_wp2_with fail
  refine(HM.out w0).mono ?_;rintro ev aR ⟨hb,O⟩;have Q:=O.symm;subst Q;clear O;rcases Zq hb with ⟨ax,rfl⟩ | ⟨av,rfl⟩;all_goals
   clear hb;go_wp2;go_ret2;exact⟨a6.out,.inr ⟨J.out,rfl⟩⟩
 have aL:Hid (okT nm):=aQ;clear aQ hb;go_wp2_with fail
 refine(HM.out w0).mono ?_;rintro ev aR ⟨hb,O⟩;have Q:=O.symm;subst Q;clear O;rcases Zq hb with ⟨ax,rfl⟩ | ⟨av,rfl⟩;rotate_left
 ·have J:Hid (¬ okP ⟨nm,ml,tm,K⟩):=fun h=>av h.2.1;clear av hb;go_wp2;go_ret2;exact⟨a6.out,.inr ⟨J.out,rfl⟩⟩
 have aM:Hid (okT ml):=ax;clear ax hb;by_cases t1:tm<0
 ·have J:Hid (¬ okP ⟨nm,ml,tm,K⟩):=fun h=>by have h2:=h.2.2.1.1;simp only at h2;omega
  go_wp2;go_ret2;exact⟨a6.out,.inr ⟨J.out,rfl⟩⟩
 by_cases t2:(1099511627776:Int)<tm
 ·have J:Hid (¬ okP ⟨nm,ml,tm,K⟩):=fun h=>by have h2:=h.2.2.1.2;simp only at h2;omega
  go_wp2;go_ret2;exact⟨a6.out,.inr ⟨J.out,rfl⟩⟩
 by_cases t3:K < -840
 ·have J:Hid (¬ okP ⟨nm,ml,tm,K⟩):=fun h=>by have h2:=h.2.2.2.1;simp only at h2;omega
  go_wp2;go_ret2;exact⟨a6.out,.inr ⟨J.out,rfl⟩⟩
 by_cases t4:(840:Int)<K
 ·have J:Hid (¬ okP ⟨nm,ml,tm,K⟩):=fun h=>by have h2:=h.2.2.2.2;simp only at h2;omega
  go_wp2;go_ret2;exact⟨a6.out,.inr ⟨J.out,rfl⟩⟩
 have J:Hid (okP ⟨nm,ml,tm,K⟩):=⟨aL.out,aM.out,⟨(by simp only;omega),(by simp only;omega)⟩,(by simp only;omega),(by simp only;omega)⟩;obtain⟨tn,rfl⟩:∃ tn:Nat,tm=(tn:Int):=⟨tm.toNat,by omega⟩;have aP:tn<=1099511627776:=by omega
 obtain⟨zz,ac⟩:=nm_ K.natAbs;have bk:zz<=840:=by have:=ac.out;omega
 obtain⟨hh,ao⟩:=nm_ (zz / 60);obtain⟨mm,ap⟩:=nm_ (zz % 60);have be:(zz:Int) / 60=(hh:Int):=by have:=ao.out;omega
 have bf:(zz:Int) % 60=(mm:Int):=by have:=ap.out;omega
 have b7:hh<=14:=by have:=ao.out;omega
 have b8:mm<=59:=by have:=ap.out;omega
 obtain⟨x1,aG⟩:=nn_ (Wy1 (48+hh / 10));obtain⟨x2,aH⟩:=nn_ (Wy1 (48+hh % 10));obtain⟨x3,aI⟩:=nn_ (Wy1 (48+mm / 10));obtain⟨x4,aJ⟩:=nn_ (Wy1 (48+mm % 10));have hx1:(48:Int)+(hh:Int) / 10=(x1.toNat:Int):=by rw[aG.out,Wyy];omega
 have bg:(48:Int)+(hh:Int) % 10=(x2.toNat:Int):=by rw[aH.out,Wyy];omega
 have bh:(48:Int)+(mm:Int) / 10=(x3.toNat:Int):=by rw[aI.out,Wyy];omega
 have bi:(48:Int)+(mm:Int) % 10=(x4.toNat:Int):=by rw[aJ.out,Wyy];omega
 obtain⟨Z,au⟩:=nm_ (⟨#[x1,x2,x3,x4]⟩:ByteArray)
 have aN:Sem.run prog (convert 82 9 (.slice (some ⟨w0.heap.size,0,none⟩) 4 4)) (w0.alloc (.cells #[.int .u8 (x1.toNat:Int),.int .u8 (x2.toNat:Int),.int .u8 (x3.toNat:Int),.int .u8 (x4.toNat:Int)] 5))=.ok (.string Z) (w0.alloc (.cells #[.int .u8 (x1.toNat:Int),.int .u8 (x2.toNat:Int),.int .u8 (x3.toNat:Int),.int .u8 (x4.toNat:Int)] 5)):=by
  rw[<-au.out];refine run_convert_bytes_back _ 82 9 5 ⟨w0.heap.size,0,none⟩ 4 [x1,x2,x3,x4] underlying82 underlying5 underlying9 ?_;intro j hj;have aU:j<4:=by simpa using hj
  match j,aU with
  | 0,_=>simp[Addr.add]
  | 1,_=>simp[Addr.add]
  | 2,_=>simp[Addr.add]
  | 3,_=>simp[Addr.add]
 have aX:N.size<=60:=by have:=aL.out.1;rw[ah.out];simpa [Wqz] using this
 have aW:M.size<=60:=by have:=aM.out.1;rw[ag.out];simpa [Wqz] using this
 obtain⟨D,am⟩:=nn_ (⟨(Lib.decDigits tn).toArray⟩:ByteArray);have hD:D.size<=13:=by rw[am.out];have:=uY tn aP;simpa [Wqz] using this
 have HF:Hid (∀ W,Calls prog 95 #[.int .i64 tn] W fun e w'=>e=.returned (.string D)/\Below W.heap.size W w'):=fun W=>by rw[am.out];exact S7 tn aP W
 obtain⟨sg,a7⟩:=nn_ (if K<0 then ⟨#[45]⟩ else ⟨#[43]⟩:ByteArray);have aY:sg.size=1:=by rw[a7.out];split <;> rfl
 have b6:Z.size=4:=by rw[<-au.out];rfl
 have l1:(⟨#[32,60]⟩:ByteArray).size=2:=rfl;have l2:(⟨#[62,32]⟩:ByteArray).size=2:=rfl;have l3:(⟨#[32]⟩:ByteArray).size=1:=rfl;obtain⟨A1,ay⟩:∃ A,N ++ ⟨#[32,60]⟩=A:=⟨_,rfl⟩;have s1:A1.size=N.size+2:=by rw[<-ay,Wy5,l1]
 obtain⟨A2,az⟩:∃ A,A1++M=A:=⟨_,rfl⟩;have s2:A2.size=A1.size+M.size:=by rw[<-az,Wy5]
 obtain⟨A3,aA⟩:∃ A,A2 ++ ⟨#[62,32]⟩=A:=⟨_,rfl⟩;have s3:A3.size=A2.size+2:=by rw[<-aA,Wy5,l2]
 obtain⟨A4,aB⟩:∃ A,A3++D=A:=⟨_,rfl⟩;have s4:A4.size=A3.size+D.size:=by rw[<-aB,Wy5]
 obtain⟨A5,aC⟩:∃ A,A4 ++ ⟨#[32]⟩=A:=⟨_,rfl⟩;have s5:A5.size=A4.size+1:=by rw[<-aC,Wy5,l3]
 obtain⟨A6,aD⟩:∃ A,A5++sg=A:=⟨_,rfl⟩;have s6:A6.size=A5.size+sg.size:=by rw[<-aD,Wy5]
 obtain⟨A7,aS⟩:∃ A,A6++Z=A:=⟨_,rfl⟩;have g1:¬ 9223372036854775807<N.size+2:=by omega
 have g2:¬ 9223372036854775807<A1.size+M.size:=by omega
 have g3:¬ 9223372036854775807<A2.size+2:=by omega
 have g4:¬ 9223372036854775807<A3.size+D.size:=by omega
 have g5:¬ 9223372036854775807<A4.size+1:=by omega
 have aZ:¬ 9223372036854775807<=A4.size:=by omega
 have g6:¬ 9223372036854775807<A5.size+1:=by omega
 have b2:¬ 9223372036854775807<=A5.size:=by omega
 have g7:¬ 9223372036854775807<A6.size+4:=by omega
 have HE:Hid (A7=⟨(xk ⟨nm,ml,tn,K⟩).toArray⟩):=hid (by
  have hz:Z=⟨(two (K.natAbs / 60)++two (K.natAbs % 60)).toArray⟩:=by
   rw[<-au.out,ac.out,ao.out,ap.out,aG.out,aH.out,aI.out,aJ.out];rfl
  have ae:sg=⟨[if K<0 then 45 else 43].toArray⟩:=by rw[a7.out];split <;> rfl
  rw[<-aS,<-aD,<-aC,<-aB,<-aA,<-az,<-ay,hz,ae,am.out,ah.out,ag.out,show (⟨#[32,60]⟩:ByteArray)=⟨[32,60].toArray⟩ from rfl,show (⟨#[62,32]⟩:ByteArray)=⟨[62,32].toArray⟩ from rfl,show (⟨#[32]⟩:ByteArray)=⟨[32].toArray⟩ from rfl];simp only[F4];simp[xk,xy])
 clear s1 s2 s3 s4 s5 s6;obtain⟨wz,ar⟩:=nm_ (w0.alloc (.cells #[.int .u8 (x1.toNat:Int),.int .u8 (x2.toNat:Int),.int .u8 (x3.toNat:Int),.int .u8 (x4.toNat:Int)] 5));have aj:Below w0.heap.size w0 wz:=by rw[<-ar.out];exact(Below.refl _ _).alloc (Wz8 _) _
 have hsz:G<wz.heap.size:=Nat.lt_of_lt_of_le aw aj.size;have L:Hid (Below G w wz):=aE.out.trans (aj.mono (Wyw aw));have aK:Hid (Gx G N M tn K wz):=aF.out.below aw aj;clear aj;have PE:Hid (∀ W,Below G w W->qx6 ⟨nm,ml,tn,K⟩ w (.returned (.tuple #[.string A7,.bool true])) W):=fun W hW=>⟨by rw[HG.out];exact hW,.inl ⟨J.out,by rw[HE.out]⟩⟩;by_cases hz:K<0
 ·have b9 : -K=(zz:Int):=by have:=ac.out;omega
  have ae:sg=⟨#[45]⟩:=by rw[a7.out,if_pos hz]
  clear a7 HE;subst ae;go_wp2_with fail
  rw[ar.out];clear aN c0 c1 c2 c3;refine wp_region_held_drew (S:=Gx G N M tn K) (by kernel_rfl) (by exact aK.out) (fun I=>?_);have Y:G<wz.drew.heap.size:=hsz;have a8:Hid (Below G w wz.drew):=hid ⟨L.out.os,L.out.tape,L.out.output,L.out.size,L.out.block⟩;generalize wz.drew=wd at I Y a8 ⊢;refine tZ (i:=0) I ?_;try simp only[Act.put,sL]
  refine tZ (i:=1) I ?_;try simp only[Act.put,sL]
  refine tZ (i:=2) I ?_;try simp only[Act.put,sL]
  refine tZ (i:=3) I ?_;try simp only[Act.put,sL]
  refine tZ (i:=4) I ?_;try simp only[Act.put,sL]
  refine tZ (i:=5) I ?_;try simp only[Act.put,sL]
  refine tZ (i:=6) I ?_;try simp only[Act.put,sL]
  refine tZ (i:=7) I ?_;try simp only[Act.put,sL]
  refine tZ (i:=8) I ?_;try simp only[Act.put,sL]
  refine tZ (i:=12) I ?_;try simp only[Act.put,sL]
  refine tZ (i:=14) I ?_;try simp only[Act.put,sL]
  refine wpAnyH_ready (rs:=[9]) (by kernel_rfl) (by simp) ?_;refine xw rfl (fun KK ad=>?_) AllReadyH.nil;refine qY (by rfl) 95 [.tmp 79] _ [.int .i64 tn] _ (by rfl) (by rfl) (F5 _) (HF.out _) ?_;rintro e w1 ⟨rfl,V⟩;refine⟨_,rfl,?_⟩;have ak:Hid (Below G w w1):=a8.out.trans (V.mono (Wyw Y));refine ad.out _ _ (I.below Y V) (fun I=>?_)
  clear ad KK V;try simp only[Act.put,sL]
  refine tZ (i:=10) I ?_;try simp only[Act.put,sL]
  refine tZ (i:=11) I ?_;try simp only[Act.put,sL]
  refine tZ (i:=13) I ?_;try simp only[Act.put,sL]
  refine tZ (i:=15) I ?_;try simp only[Act.put,sL]
  refine tZ (i:=16) I ?_;try simp only[Act.put,sL]
  refine tZ (i:=17) I ?_;try simp only[Act.put,sL]
  refine wpAnyH_done (by kernel_rfl) ?_ _;go_wp2;go_ret2;exact PE.out _ ak.out
 have aV:K=(zz:Int):=by have:=ac.out;omega
 have ae:sg=⟨#[43]⟩:=by rw[a7.out,if_neg hz]
 clear a7 HE ac;subst ae;subst aV;have bj:¬ (zz:Int)<0:=hz;go_wp2_with fail
 rw[ar.out];clear aN c0 c1 c2 c3;refine wp_region_held_drew (S:=Gx G N M tn (zz:Int)) (by kernel_rfl) (by exact aK.out) (fun I=>?_);have Y:G<wz.drew.heap.size:=hsz;have a8:Hid (Below G w wz.drew):=hid ⟨L.out.os,L.out.tape,L.out.output,L.out.size,L.out.block⟩;generalize wz.drew=wd at I Y a8 ⊢;refine tZ (i:=0) I ?_;try simp only[Act.put,sL]
 refine tZ (i:=1) I ?_;try simp only[Act.put,sL]
 refine tZ (i:=2) I ?_;try simp only[Act.put,sL]
 refine tZ (i:=3) I ?_;try simp only[Act.put,sL]
 refine tZ (i:=4) I ?_;try simp only[Act.put,sL]
 refine tZ (i:=5) I ?_;try simp only[Act.put,sL]
 refine tZ (i:=6) I ?_;try simp only[Act.put,sL]
 refine tZ (i:=7) I ?_;try simp only[Act.put,sL]
 refine tZ (i:=8) I ?_;try simp only[Act.put,sL]
 refine tZ (i:=12) I ?_;try simp only[Act.put,sL]
 refine tZ (i:=14) I ?_;try simp only[Act.put,sL]
 refine wpAnyH_ready (rs:=[9]) (by kernel_rfl) (by simp) ?_;refine xw rfl (fun KK ad=>?_) AllReadyH.nil;refine qY (by rfl) 95 [.tmp 79] _ [.int .i64 tn] _ (by rfl) (by rfl) (F5 _) (HF.out _) ?_;rintro e w1 ⟨rfl,V⟩;refine⟨_,rfl,?_⟩;have ak:Hid (Below G w w1):=a8.out.trans (V.mono (Wyw Y));refine ad.out _ _ (I.below Y V) (fun I=>?_)
 clear ad KK V;try simp only[Act.put,sL]
 refine tZ (i:=10) I ?_;try simp only[Act.put,sL]
 refine tZ (i:=11) I ?_;try simp only[Act.put,sL]
 refine tZ (i:=13) I ?_;try simp only[Act.put,sL]
 refine tZ (i:=15) I ?_;try simp only[Act.put,sL]
 refine tZ (i:=16) I ?_;try simp only[Act.put,sL]
 refine tZ (i:=17) I ?_;try simp only[Act.put,sL]
 refine wpAnyH_done (by kernel_rfl) ?_ _;go_wp2;go_ret2;exact PE.out _ ak.out
end Go.Proofs.YtdnphaganajejaaGreatDoor
namespace Go.Proofs
open Go.Proofs.Tryz
open Go.Shelf
def lays145_ren:Go.Shelf.Ren:=⟨fun | 145=>174 | 220=>210 | 219=>160 | 217=>201 | 225=>187 | 224=>186 | 267=>202 | 266=>227 | 314=>228 | n=>n,fun | 9=>9 | 4=>4 | 59=>278 | 3=>3 | 5=>5 | 46=>24 | 146=>292 | 51=>235 | n=>n,fun | 1=>2 | n=>n⟩
theorem lays145:Go.Proofs.Lays.n145 prog lays145_ren:={
 mixed:=by kernel_rfl
 f145:=func174.trans (congrArg some (by kernel_rfl))
 f217:=func201.trans (congrArg some (by kernel_rfl))
 f219:=func160.trans (congrArg some (by kernel_rfl))
 f220:=func210.trans (congrArg some (by kernel_rfl))
 f224:=func186.trans (congrArg some (by kernel_rfl))
 f225:=func187.trans (congrArg some (by kernel_rfl))
 f266:=func227.trans (congrArg some (by kernel_rfl))
 f267:=func202.trans (congrArg some (by kernel_rfl))
 f314:=func228.trans (congrArg some (by kernel_rfl))
 t3:=underlying3
 a3:=isAgg3
 z3:=sizeOf3
 v3:=zeroValue3
 t4:=underlying4
 a4:=isAgg4
 z4:=sizeOf4
 v4:=zeroValue4
 t5:=underlying5
 a5:=isAgg5
 z5:=sizeOf5
 v5:=zeroValue5
 t9:=underlying9
 a9:=isAgg9
 z9:=sizeOf9
 v9:=zeroValue9
 t46:=underlying24
 a46:=isAgg24
 z46:=sizeOf24
 v46:=zeroValue24
 t51:=underlying235
 a51:=isAgg235
 z51:=sizeOf235
 v51:=zeroValue235
 t59:=underlying278
 a59:=isAgg278
 z59:=sizeOf278
 v59:=zeroValue278
 t146:=underlying292
 a146:=isAgg292
 z146:=sizeOf292
 v146:=zeroValue292
 g1:=by kernel_rfl }
end Go.Proofs
namespace Go.Proofs.YtdnphaganajejaaGreatDoor
open Go.Proofs.Tryz
open Go.RowKit
theorem Sl.take {w:World} {a:Option Addr} {cap:Nat} {l:List Int} (h:Sl w a cap l) (i:Nat):Sl w a cap (l.take i) :=
 ⟨by have:=h.capl;rw[WzJ];omega,fun h0=>by
  rw[WzJ] at h0
  obtain⟨b,off,e1,A,D⟩:=h.at_ (by omega)
  refine⟨b,off,e1,A,fun j G=>?_⟩
  rw[WzJ] at G
  rw[D j (by omega)]
  simp[List.getD_eq_getElem?_getD,List.getElem?_take,show j<i by omega],h.nil⟩
def Mx (w:World):Prop := ∃ m:Int,w.cell? ⟨2,0,none⟩=some (.int .i64 m)
theorem Mx.below {w w':World} (h:Mx w) (hb:Below w.heap.size w w'):Mx w':=by
 obtain⟨m,A⟩:=h;refine⟨m,(hb.cell (p:=⟨2,0,none⟩) ?_).trans A⟩;rcases Wy4 2 w.heap.size with j | j
 ·exact j
 simp[World.cell?,Array.getElem?_eq_none j] at A
theorem V9 (s sep:List UInt8) (w:World) (hs:s.length<=1000000) (h:Mx w) :
  Calls prog 174 #[.string ⟨s.toArray⟩,.string ⟨sep.toArray⟩] w fun e w'=>e=.returned (.tuple #[.string ⟨(Lib.cut s sep).1.toArray⟩,.string ⟨(Lib.cut s sep).2.1.toArray⟩,.bool (Lib.cut s sep).2.2])/\∃ q,w'=w.drewN q:=by
 obtain⟨m,h⟩:=h;exact Any.strings_Cut lays145 ⟨s.toArray⟩ ⟨sep.toArray⟩ m w (by simp[Wqz];omega) h
theorem vX (B:Nat) {w0 w:World} (n:Nat) (h:Below B w0 w):Below B w0 (w.drewN n):=h.trans ⟨rfl,rfl,rfl,Wz8 _,fun _ _=>rfl⟩
theorem S8 (k:IntKind) (l:List Int) (x:Int):row k (l++[x])=row k l++[.int k x]:=by simp[row]
theorem F6 (n j:Nat) (h:j<=QX n):((n+(1+j)+8) % 64=0) ↔ j=QX n:=by unfold QX at *;omega
theorem UX (n:Nat) (w:World) (hn:n<=700000000) :
  Calls prog 197 #[.int .u64 n] w fun e w'=>∃ g G,e=.returned (.slice (some ⟨g,0,none⟩) (kQ n).length G)/\Below w.heap.size w w'/\w.heap.size<=g/\g<w'.heap.size/\At w' g 0 (kQ n)/\(kQ n).length<=G:=by
 obtain⟨i5,hi,ac,ad,ae⟩:=qQ info5;have ah:Hid (Below w.heap.size w (w.alloc (.cells #[.int .u8 128] 5))):=(Below.refl _ w).alloc (Wz8 _) _;have ap:=EW n;go_enter func197,ntmps197;go_wp2
 go_loopg [3] (QX n) (fun g s wr=>∃ (j gb G:Nat) (ls:List Int),j<=QX n/\g=QX n-j/\s=.slice (some ⟨gb,0,none⟩) (1+j:Nat) G/\Hid (ls=128 :: Wz7 j 0)/\wr.ownsRow w.heap.size 5 1 (.slice (some ⟨gb,0,none⟩) (1+j:Nat) G) (1+j) (row .u8 ls)/\Hid (Below w.heap.size w wr))
 case atStart=>exact⟨0,w.heap.size,1,_,by omega,rfl,rfl,rfl,World.ownsRow_lit w #[.int .u8 128] 1 (Wz8 _) (by unfold maxLen;omega) rfl,ah⟩
 obtain⟨j,gb,G,ls,I,V,rfl,J,h,L⟩:=hrel;by_cases a7:j<QX n
 ·have hc:((n:Int)+(1+j)+8) % 64 ≠ 0:=by have:=F6 n j I;omega
  go_wp2_with (refine wpList_append_lies _ rfl _ _ _ rfl w.heap.size 5 i5 (.int .u8 0) 1 1 underlying82 hi ac ad ae rfl (by omega) (.slice (some ⟨gb,0,none⟩) (1+j:Nat) G) (1+j) (row .u8 ls) rfl (by exact h.alloc _) ⟨wr.heap.size,0,none⟩ 1 1 [.int .u8 0] rfl rfl (by intro j u I;match j,I with | 0,I=>simp at I;subst I;simp[Addr.add]) (by intro u hu;simp at hu;subst hu;rfl) (by omega) (by unfold maxLen;omega) (by omega) (by have:=L.out.size;simp;omega) (wr.heap.size+1) (by simp) ?_;intro Z K w3 D A Q a8)
  have O:Hid (Below w.heap.size w w3):=ZW L.out (Wz8 _) (World.grownBy_alloc wr _ none) A (fun k V=>(yu h k V).1);have HO:Hid (w3.ownsRow w.heap.size 5 1 (.slice (some ⟨Z,0,none⟩) (1+j+1:Nat) K) (1+j+1) (row .u8 (ls++[0]))):=hid (by rw[S8];exact D);clear D A Q h;go_wp2;go_roundg (QX n-(j+1));case measure=>omega
  case rel=>exact⟨j+1,Z,K,ls++[0],by omega,rfl,rfl,hid (by rw[J.out,List.replicate_succ',List.cons_append]),HO.out,O⟩
 obtain rfl:j=QX n:=by omega
 have hc:((n:Int)+(1+(QX n:Nat))+8) % 64=0:=by have:=F6 n (QX n) (Wz8 _);omega
 obtain⟨q,Y⟩:=nn_ (1+QX n);have ar:q<=64:=by have:=Y.out;omega
 rw[<-Y.out] at h;have aj:((n:Int)+q+8) % 64=0:=by have:=Y.out;omega
 rw[<-Y.out];have ai:Hid (ls=128 :: Wz7 (QX n) 0):=J.out;clear hc a7 I V;go_wp2;clear aj
 go_loopg [3,20] 8 (fun g s i wr=>∃ (j gb G:Nat) (ls:List Int),j<=8/\g=8-j/\i=.int .i64 j/\s=.slice (some ⟨gb,0,none⟩) (q+j:Nat) G/\Hid (ls=128 :: Wz7 (QX n) 0++(List.range j).map (be8 (8*n)))/\wr.ownsRow w.heap.size 5 1 (.slice (some ⟨gb,0,none⟩) (q+j:Nat) G) (q+j) (row .u8 ls)/\Hid (Below w.heap.size w wr))
 case atStart=>exact⟨0,gb,G,ls,by omega,rfl,rfl,rfl,hid (by rw[ai.out];simp),h,L⟩
 case round =>
 clear h L;obtain⟨j,gb,G,ls,I,V,rfl,rfl,J,h,L⟩:=hrel;by_cases a7:j<8
 ·obtain⟨x,HX⟩:=nn_ (be8 (8*n) j);have hx:8*(n:Int) / 2 ^ (8*(7-j)) % 256=x:=by rw[HX.out];unfold be8;rw[Int.natCast_emod,Int.natCast_ediv,Int.natCast_mul,Int.natCast_pow];rfl
  go_wp2_with (refine wpList_append_lies _ rfl _ _ _ rfl w.heap.size 5 i5 (.int .u8 0) 1 1 underlying82 hi ac ad ae rfl (by omega) (.slice (some ⟨gb,0,none⟩) (q+j:Nat) G) (q+j) (row .u8 ls) rfl (by exact h.alloc _) ⟨wr.heap.size,0,none⟩ 1 1 [.int .u8 x] rfl rfl (by intro j u I;match j,I with | 0,I=>simp at I;subst I;simp[Addr.add]) (by intro u hu;simp at hu;subst hu;rfl) (by omega) (by unfold maxLen;omega) (by omega) (by have:=L.out.size;simp;omega) (wr.heap.size+1) (by simp) ?_;intro Z K w3 D A Q a8)
  have O:Hid (Below w.heap.size w w3):=ZW L.out (Wz8 _) (World.grownBy_alloc wr _ none) A (fun k V=>(yu h k V).1);have HO:Hid (w3.ownsRow w.heap.size 5 1 (.slice (some ⟨Z,0,none⟩) (q+j+1:Nat) K) (q+j+1) (row .u8 (ls++[x]))):=hid (by rw[S8];exact D);clear D A Q h hx;go_wp2;go_roundg (8-(j+1));case measure=>omega
  case rel=>exact⟨j+1,Z,K,ls++[x],by omega,rfl,by go_num,rfl,hid (by rw[J.out,HX.out,List.range_succ,List.map_append,List.append_assoc];rfl),HO.out,O⟩
 obtain rfl:j=8:=by omega
 have HE:Hid (ls=kQ n):=hid (by rw[J.out];rfl);have a6:(kQ n).length=q+8:=by rw[N6];have:=Y.out;omega
 obtain⟨g0,au,am,av,ao⟩:=h.form (by omega);have M:=(yu h gb rfl);have ag:Hid (At wr gb 0 (kQ n)):=fun i hi=>by
  rw[Wzz,h.cellAt i (by omega),HE.out,uW .u8 (kQ n) i hi]
 have ak:q+8<=G:=by
  rcases h.2 with ⟨_,h0⟩ | ⟨g,cap,cur,hv,_,_,h1,_⟩
  ·omega
  simp only[Value.slice.injEq] at hv;omega
 go_wp2;go_ret;exact⟨gb,G,by rw[a6];rfl,L.out,M.1,M.2,ag.out,by rw[a6];exact ak⟩
def uw (w:World) (D:Nat):List Value:=(List.range 70).map fun i=>(w.cell? ⟨D,i,none⟩).getD undef
theorem Vz (w:World) (D:Nat):(uw w D).length=70:=by simp[uw]
theorem K5 {w:World} {D:Nat} {l:List Int} (h:Dig w D l) (i:Nat) (hi:i<70):∃ v,w.cell? ⟨D,i,none⟩=some v/\v.oneCell'=true:=by
 by_cases A:i<5
 ·exact⟨_,h.sum i A,rfl⟩
 by_cases j:i=69
 ·subst j;exact⟨_,h.size,rfl⟩
 obtain⟨rs,-,-,hc,-⟩:=h.rest;have:=hc (i-5) (by omega);rw[show 5+(i-5)=i from by omega] at this;exact⟨_,this,rfl⟩
theorem Uq {w:World} {D:Nat} {l:List Int} (h:Dig w D l) (i:Nat) (hi:i<70):(uw w D)[i]? = w.cell? ⟨D,i,none⟩:=by
 obtain⟨v,hv,-⟩:=K5 h i hi;simp[uw,hi,hv]
theorem K8 {w:World} {D:Nat} {l:List Int} (h:Dig w D l):w.rangeAt D 0 (uw w D):=fun j v hv=>by
 have A:j<70:=by rcases Wy4 j 70 with h | h;exact h;rw[List.getElem?_eq_none (by rw[Vz];exact h)] at hv;cases hv
 rw[Wzz,<-Uq h j A];exact hv
theorem TW {w:World} {D:Nat} {l:List Int} (h:Dig w D l):∀ v ∈ uw w D,v.oneCell'=true:=by
 intro v hv;simp only[uw,List.mem_map,List.mem_range] at hv;obtain⟨i,hi,rfl⟩:=hv;obtain⟨v,hv,j⟩:=K5 h i hi;rw[hv];exact j
theorem zyZ {w W:World} {D L:Nat} {l:List Int} (h:Dig w D l) (hr:W.rangeAt L 0 (uw w D)) (K:L<W.heap.size) (J:∀ i,W.frozen? ⟨L,i,none⟩=false):Dig W L l:=by
 have c:∀ i,i<70->W.cell? ⟨L,i,none⟩=w.cell? ⟨D,i,none⟩:=fun i hi=>by
  obtain⟨v,hv,-⟩:=K5 h i hi;have:=hr i v (by rw[Uq h i hi];exact hv);rw[Wzz] at this;rw[this,hv]
 obtain⟨rs,j,A,G,I⟩:=h.rest;exact⟨K,fun i hi=>(c i (by omega)).trans (h.sum i hi),⟨rs,j,A,fun i hi=>(c _ (by omega)).trans (G i hi),I⟩,(c _ (by omega)).trans h.size,J⟩
theorem out4 (s:S5) (i:Nat) (hi:i<5):jy s (4*(i+1))=((((jy s (4*i)).set (4*i) (s.l.getD i 0 / 16777216 % 256)).set (4*i+1) (s.l.getD i 0 / 65536 % 256)).set (4*i+2) (s.l.getD i 0 / 256 % 256)).set (4*i+3) (s.l.getD i 0 % 256):=by
 rw[show 4*(i+1)=4*i+3+1 from by omega,Qx s _ (by omega),Qx s _ (by omega),Qx s _ (by omega),Qx s _ (by omega)]
 rw[show 4*i / 4=i from by omega,show (4*i+1) / 4=i from by omega,show (4*i+2) / 4=i from by omega,show (4*i+3) / 4=i from by omega,show 4*i % 4=0 from by omega,show (4*i+1) % 4=1 from by omega,show (4*i+2) % 4=2 from by omega,show (4*i+3) % 4=3 from by omega];rw[show s.l.getD i 0 / 2 ^ (24-8*3) % 256=s.l.getD i 0 % 256 from by simp];rfl
theorem qvW (s:S5) (h:s.ok):IsW s.l:=by
 obtain⟨j,A,D,G,I⟩:=h;intro x hx;simp only[S5.l,List.mem_cons,List.not_mem_nil,or_false] at hx;rcases hx with rfl | rfl | rfl | rfl | rfl <;> assumption
theorem set4 {w:World} {g m:Nat} {t:TypeId} {zs:List Int} (a b c d:Int) (h:w.heap[g]? = some (.cells (row .u8 zs).toArray t (0,0))) :
  ((((w.setCell ⟨g,m,none⟩ (.int .u8 a)).setCell ⟨g,m+1,none⟩ (.int .u8 b)).setCell ⟨g,m+2,none⟩ (.int .u8 c)).setCell ⟨g,m+3,none⟩ (.int .u8 d)).heap[g]? = some (.cells (row .u8 ((((zs.set m a).set (m+1) b).set (m+2) c).set (m+3) d)).toArray t (0,0)):=by
 have j:=heap_setCell_same w g m _ _ (.int .u8 a) h;rw[jZ] at j;have A:=heap_setCell_same _ g (m+1) _ _ (.int .u8 b) j;rw[jZ] at A;have D:=heap_setCell_same _ g (m+2) _ _ (.int .u8 c) A;rw[jZ] at D;have G:=heap_setCell_same _ g (m+3) _ _ (.int .u8 d) D;rw[jZ] at G;exact G
theorem Cy {w:World} {g m k:Nat} (a b c d:Value) (h:k ≠ g):((((w.setCell ⟨g,m,none⟩ a).setCell ⟨g,m+1,none⟩ b).setCell ⟨g,m+2,none⟩ c).setCell ⟨g,m+3,none⟩ d).heap[k]? = w.heap[k]? := by
 rw[Below.heap_setCell _ _ _ _ h,Below.heap_setCell _ _ _ _ h,Below.heap_setCell _ _ _ _ h,Below.heap_setCell _ _ _ _ h]
theorem Cu {B:Nat} {w0 w:World} {g m:Nat} (a b c d:Value) (j:B<=g) (h:Below B w0 w):Below B w0 ((((w.setCell ⟨g,m,none⟩ a).setCell ⟨g,m+1,none⟩ b).setCell ⟨g,m+2,none⟩ c).setCell ⟨g,m+3,none⟩ d) :=
 (((h.setCell (p:=⟨g,m,none⟩) j a).setCell (p:=⟨g,m+1,none⟩) j b).setCell (p:=⟨g,m+2,none⟩) j c).setCell (p:=⟨g,m+3,none⟩) j d
def Z43:Array Value:=(row .u32 [0,0,0,0,0]++row .u8 (Wz7 64 0)++([.int .u64 0] : List Value)).toArray
theorem zyQ (w:World):(zeroValue 301).run prog w=.ok (.agg Z43) w:=by kernel_rfl
theorem zyX (w:World):(zeroValue 116).run prog w=.ok (.agg (row .u8 z20).toArray) w:=by kernel_rfl
theorem qz2 (D:Nat) (l:List Int) (w:World) (hD:Dig w D l) (hl:l.length<=600000000) (aQ:IsB l) :
  Calls prog 157 #[.pointer (some ⟨D,0,none⟩)] w fun e w'=>e=.returned (.agg (row .u8 (sha l)).toArray)/\Below w.heap.size w w':=by
 have HD:Hid (Dig w D l):=hD;clear hD;obtain⟨zr,HZ⟩:=nn_ ((row .u8 z20).toArray);have aF:=zyX;rw[<-HZ.out] at aF;obtain⟨aH,a6⟩:=nn_ Z43;have aG:=zyQ;rw[<-a6.out] at aG;obtain⟨cs,L⟩:=nn_ (uw w D);have av:cs.length=70:=by rw[L.out];exact Vz _ _
 have a8:(prog.info? 301).map (·.size)=some cs.length:=by rw[av];exact size301
 have au:D<w.heap.size:=HD.out.lt;have aw:cs.toArray.size=70:=by rw[Wyu,av]
 have H1:Hid ((w.alloc (.cells zr 116)).rangeAt D 0 cs):=hid (by rw[L.out];exact fun j v hv=>(World.cell?_alloc_lt w _ ⟨D,0+j,none⟩ au).trans (K8 HD.out j v hv));have T1:Hid (((w.alloc (.cells zr 116)).alloc (.cells aH 301)).there (w.heap.size+1) 0 cs.toArray.size):=hid (by rw[aw,a6.out];exact kZ (heap_alloc2_new w _ _) rfl)
 have T2:Hid ((prog.info? 301).map (·.size)=some cs.toArray.size):=hid (by rw[Wyu];exact a8);have T3:Hid (cs.toArray.all (·.oneCell')=true):=hid (all_oneCell_toArray (by rw[L.out];exact TW HD.out));obtain⟨w1,I⟩:=nn_ (((w.alloc (.cells zr 116)).alloc (.cells aH 301)).setCells (w.heap.size+1) 0 cs.toArray.toList)
 have h:w1.heap.size=w.heap.size+1+1:=by rw[I.out,vK];simp
 have aJ:Hid (Dig w1 (w.heap.size+1) l):=hid (by
  refine zyZ HD.out ?_ (by omega) ?_
  ·rw[I.out,<-L.out];exact World.rangeAt_setCells_same _ (w.heap.size+1) 0 _ (by have:=T1.out;simpa using this)
  intro i;rw[I.out,World.frozen?_setCells];exact frozen_of_row _ _ _ _ 301 (heap_alloc2_new w _ _))
 have ai:Hid (Below w.heap.size w w1):=hid (by rw[I.out];exact zW (by omega) _ _ _ _ (((Below.refl _ w).alloc (Wz8 _) _).alloc (by simp) _));have aL:Hid (w1.heap[w.heap.size]? = some (.cells zr 116 (0,0))):=hid (by
  have hg:∀ (vs:List Value) (o:Nat) (W:World),(W.setCells (w.heap.size+1) o vs).heap[w.heap.size]? = W.heap[w.heap.size]? := by
   intro vs;induction vs with
   | nil=>intro o W;rfl
   | cons v r ih=>intro o W;rw[World.setCells,ih];exact Below.heap_setCell W ⟨w.heap.size+1,o,none⟩ v _ (by simp)
  rw[I.out,hg];exact heap_alloc2_old w _ _)
 replace h:=hid h;have aP:w1.cell? ⟨D,69,none⟩=some (.int .u64 l.length):=(ai.out.cell (p:=⟨D,69,none⟩) au).trans HD.out.size;go_enter func157,ntmps157
 go_wp2_with (first | refine wpList_load_mid rfl 301 _ rfl D 0 rfl cs _ H1.out underlying301 rfl a8 ?_ | (refine wpList_store_mid rfl 301 _ _ rfl (w.heap.size+1) 0 cs.toArray rfl rfl T1.out T2.out T3.out ?_;rw[<-I.out]))
 clear aP;obtain⟨n,HN⟩:=nn_ l.length;rw[<-HN.out];refine(UX n w1 (by rw[HN.out];omega)).mono ?_;rintro e w2 ⟨g,cp,rfl,ag,ay,az,J,K⟩;have aK:Hid (w1.heap.size<=g):=ay;have ak:Dig w2 (w.heap.size+1) l:=aJ.out.keep (QW ag none) (by simp);have V:Hid (Below w1.heap.size w1 w2):=ag;obtain⟨en,M⟩:=nn_ (kQ n);rw[<-M.out] at J K ⊢
 have aU:en.length<=100:=by rw[M.out,N6];have:=EW n;omega
 have ax:IsB en:=by rw[M.out];exact Ow n
 go_wp2_with fail
 refine(V7 (w.heap.size+1) l _ cp en w2 ak (by omega) aQ ax (fun _=>⟨g,0,rfl,az,by have:=aK.out;have:=h.out;omega,J,K⟩)).mono ?_;rintro e w3 ⟨rfl,ae,A⟩;have aD:=V.out.size;have aE:=A.size
 have aI:Hid (Below w.heap.size w w3):=(ai.out.trans (V.out.mono (by have:=h.out;omega))).grown A (by have:=h.out;omega) (fun k hk=>by simp at hk;omega);have aM:Hid (w3.heap[w.heap.size]? = some (.cells zr 116 (0,0))):=(A.block _ (by have:=h.out;omega) (by simp)).trans ((V.out.block _ (by have:=h.out;omega)).trans aL.out)
 have aS:w.heap.size+1<w3.heap.size:=by have:=h.out;omega
 obtain⟨Z,ad⟩:=nn_ (ab (l++en) ((l++en).length / 64));have aR:Z.ok:=by rw[ad.out];exact qx5 _ _
 have aN:Hid (sha l=jy Z 20):=hid (by unfold sha;rw[ad.out,M.out,HN.out]);have G:=ae.sum;rw[<-ad.out] at G;replace ae:=hid ae;clear A V J K ak ag ay az aD aE;obtain⟨sl,Q⟩:=nn_ Z.l;rw[<-Q.out] at G;have aB:sl.length=5:=by rw[Q.out];rfl
 have aC:IsW sl:=by rw[Q.out];exact qvW Z aR
 have aA:(prog.info? 298).map (·.size)=some (row .u32 sl).length:=by rw[zv,aB];exact size298
 have ap:Hid ((w3.alloc (.cells zr 116)).rangeAt (w.heap.size+1) 0 (row .u32 sl)):=hid (LW 0 (fun i hi=>by rw[Wzz,World.cell?_alloc_lt w3 _ ⟨w.heap.size+1,i,none⟩ aS];exact G i (by omega)))
 have am:Hid ((w3.alloc (.cells zr 116)).heap[w3.heap.size]? = some (.cells (row .u8 (jy Z (4*0))).toArray 116 (0,0))):=hid (by rw[Ck,<-HZ.out];exact heap_alloc_new w3 _);have ao:Hid ((w3.alloc (.cells zr 116)).heap[w.heap.size]? = some (.cells (row .u8 z20).toArray 116 (0,0))):=hid (by rw[Below.heap_alloc _ _ _ (by omega),aM.out,HZ.out])
 have aj:Hid (Below w.heap.size w (w3.alloc (.cells zr 116))):=aI.out.alloc (by omega) _;clear G;obtain⟨sa,ar⟩:=nn_ ((row .u32 sl).toArray);have aO:Hid (∀ i,i<5->sa[i]? = some (.int .u32 (sl.getD i 0))):=fun i hi=>by rw[ar.out];simpa using uW .u32 sl i (by omega)
 go_wp2_with (refine wpList_load_mid rfl 298 _ rfl (w.heap.size+1) 0 rfl (row .u32 sl) _ ap.out underlying298 rfl aA ?_;rw[<-ar.out])
 go_loopg [18] 5 (fun k i wr=>∃ j:Nat,j<=5/\k=5-j/\i=.int .i64 j/\Hid (wr.heap[w3.heap.size]? = some (.cells (row .u8 (jy Z (4*j))).toArray 116 (0,0)))/\Hid (wr.heap[w.heap.size]? = some (.cells (row .u8 z20).toArray 116 (0,0)))/\Hid (Below w.heap.size w wr));case atStart=>exact⟨0,by omega,rfl,rfl,am,ao,aj⟩
 clear am ao aj ap;obtain⟨j,hj,hk,rfl,O,HR,HB⟩:=hrel;by_cases ah:j<5;rotate_left
 ·obtain rfl:j=5:=by omega
  obtain⟨fr,ac⟩:=nn_ (jy Z (4*5));rw[<-ac.out] at O;have Y:fr.length=20:=by rw[ac.out];exact VV _ _
  have HE:Hid (fr=sha l):=hid (by rw[ac.out,aN.out]);have a7:(prog.info? 116).map (·.size)=some (row .u8 fr).length:=by rw[zv,Y];exact size116
  have T1:Hid (wr.there w.heap.size 0 (row .u8 fr).toArray.size):=hid (by rw[vJ,Y];exact yW HR.out rfl);have T2:Hid ((prog.info? 116).map (·.size)=some (row .u8 fr).toArray.size):=hid (by rw[vJ,Y];exact size116);have T3:Hid ((row .u8 fr).toArray.all (·.oneCell')=true):=all_oneCell_toArray (yK _ _)
  have T4:Hid (wr.there w.heap.size 0 (row .u8 fr).length):=hid (by rw[zv,Y];exact yW HR.out rfl);go_wp2_with (first | refine wpList_load_mid rfl 116 _ rfl w3.heap.size 0 rfl (row .u8 fr) _ (zw O.out) underlying116 rfl a7 ?_ | refine wpList_store_mid rfl 116 _ _ rfl w.heap.size 0 (row .u8 fr).toArray rfl rfl T1.out T2.out T3.out ?_)
  refine bodyPost_ret (v:=.agg (row .u8 fr).toArray) (yq Tryz.results157 _ _ w.heap.size _ _ rfl (World.rangeAt_setCells_same wr w.heap.size 0 _ T4.out) underlying116 rfl a7) rfl ⟨?_,zW (Wz8 _) _ _ _ _ HB.out⟩;rw[HE.out]
 obtain⟨x,HX⟩:=nn_ (sl.getD j 0);have aW:∀ w1:World,(Instr.index 298 (.agg sa) (.int .i64 j)).run prog w1=.ok (.int .u32 x) w1:=fun w1=>by rw[HX.out];exact YZ 298 235 5 _ _ j _ w1 underlying298 size235 _ underlying235 rfl ah (aO.out j ah)
 have hx:U x:=by rw[HX.out];exact aC.at j
 obtain⟨hx1,aX⟩:=hx;obtain⟨m,HM⟩:=nn_ (4*j);have hm:(4:Int)*j=(m:Int):=by have:=HM.out;omega
 have aV:m+3<20:=by have:=HM.out;omega
 rw[<-HM.out] at O;have cc:∀ i,i<20->wr.cell? ⟨w3.heap.size,i,none⟩=some (.int .u8 ((jy Z m).getD i 0)):=fun i hi=>xQ O.out i (by rw[VV];exact hi);have d0:=cc m (by omega);have d1:=cc (m+1) (by omega);have d2:=cc (m+2) (by omega);have d3:=cc (m+3) (by omega);have f0:=frozen_of_row wr w3.heap.size m _ 116 O.out
 have f1:=frozen_of_row wr w3.heap.size (m+1) _ 116 O.out;have f2:=frozen_of_row wr w3.heap.size (m+2) _ 116 O.out;have f3:=frozen_of_row wr w3.heap.size (m+3) _ 116 O.out;clear cc;go_wp2;go_roundg (5-(j+1));case measure=>omega
 case rel =>
 refine⟨j+1,by omega,rfl,by go_num,hid ?_,hid ?_,Cu _ _ _ _ (by omega) HB.out⟩
 ·have e16:x / 16777216=x / 16777216 % 256:=by omega
  rw[out4 Z j ah,<-HM.out,<-Q.out,<-HX.out,<-e16];exact set4 _ _ _ _ O.out
 rw[Cy _ _ _ _ (by omega)];exact HR.out
end Go.Proofs.YtdnphaganajejaaGreatDoor
namespace Go.Proofs.YtdnphaganajejaaGreatDoor.Hx
open Go.Proofs.Tryz
open Go.RowKit
theorem qvY (c:Int) (h:¬ 0<=hv c):hv c = -1:=by
 unfold hv at h ⊢;by_cases a:48<=c/\c<=57
 ·rw[if_pos a] at h;omega
 rw[if_neg a] at h ⊢;by_cases b:97<=c/\c<=102
 ·rw[if_pos b] at h;omega
 rw[if_neg b]
theorem OJ (s:ByteArray) (j:Nat) (w:World) (h:j<s.size):(Instr.index 9 (.string s) (.int .i64 j)).run prog w=.ok (.int .u8 (sgn s j)) w:=by
 rw[run_index_string (P:=prog) w 9 s .i64 j underlying9,dif_pos ⟨by omega,by omega⟩];unfold sgn;have A:j<s.data.toList.length:=by simpa using h
 simp only[Int.toNat_natCast,List.getD_eq_getElem?_getD,List.getElem?_eq_getElem A,Option.getD_some];rfl
theorem zW {B g:Nat} (hB:B<=g):∀ (vs:List Value) (o:Nat) (w0 w:World),Below B w0 w->Below B w0 (w.setCells g o vs)
 | [],_,_,_,h=>h
 | v :: r,o,w0,_,h=>zW hB r (o+1) w0 _ (h.setCell (p:=⟨g,o,none⟩) hB v)
theorem qu0 (a n:Int) (h:0<=a/\a<256) (j:0<=n/\n<16):bits .or .u8 (a*16 % 256) n=(a*16+n) % 256:=by
 obtain⟨x,rfl⟩:=Wz0 h.1;obtain⟨y,rfl⟩:=Wz0 j.1;have:∀ y:Nat,y<16->∀ x:Nat,x<256->bits .or .u8 ((x:Int)*16 % 256) (y:Int)=((x:Int)*16+y) % 256:=by decide +kernel
 exact this y (by omega) x (by omega)
theorem parse_prog (s:ByteArray) (w:World) (hl:s.size<=300000000) :
  Calls prog 211 #[.string s] w fun e w'=>Below w.heap.size w w'/\((s.size=40/\good s->e=.returned (.tuple #[.agg (row (idAt s 40)).toArray,.nilIface]))/\(¬ (s.size=40/\good s)->e=.returned (.tuple #[.agg (row zeros).toArray,.iface 32 (.int .i64 12)]))):=by
 have A:∀ l:List Int,l.length=20->(prog.info? 116).map (·.size)=some (row l).length:=fun l h=>by rw[zv,h];exact info116
 obtain⟨zr,HZ⟩:=nn_ (row zeros);by_cases L:s.size=40;rotate_left
 ·have ac:(s.size:Int) ≠ 40:=by omega
  have H0:Hid ((w.alloc (.cells (row zeros).toArray 116)).heap[w.heap.size]? = some (.cells (row zeros).toArray 116 (0,0))):=heap_alloc_new w _;have J:Hid (Below w.heap.size w (w.alloc (.cells (row zeros).toArray 116))):=(Below.refl _ _).alloc (Wz8 _) _;go_enter func211,ntmps211
  go_wp2_with (refine wpList_store_mid rfl 116 _ _ rfl w.heap.size 0 (row zeros).toArray rfl rfl ?t1 ?t2 ?t3 ?_)
  case t1=>exact yW H0.out rfl
  case t2=>exact A _ rfl
  case t3=>exact all_oneCell_toArray (yK _)
  refine bodyPost_ret (v:=.tuple #[.agg (row zeros).toArray,.iface 32 (.int .i64 12)]) (qu (t2:=27) Tryz.results211 _ _ w.heap.size _ _ _ rfl rfl (World.rangeAt_setCells_same _ w.heap.size 0 _ ?_) underlying116 rfl (A _ rfl)) rfl ⟨zW (Wz8 _) _ _ _ _ J.out,fun h=>absurd h.1 L,fun _=>rfl⟩;exact yW H0.out rfl
 go_enter func211,ntmps211;go_wp2;go_loopg [14] 40 (fun k i wr=>∃ j:Nat,j<=40/\k=40-j/\i=.int .i64 j/\(∀ k,k<j->0<=hv (sgn s k))/\Hid (wr.heap[w.heap.size+1]? = some (.cells (row (idAt s j)).toArray 116 (0,0)))/\Hid (wr.heap[w.heap.size]? = some (.cells (row zeros).toArray 116 (0,0)))/\Hid (Below w.heap.size w wr))
 case atStart=>exact⟨0,by omega,rfl,rfl,fun k hk=>by omega,heap_alloc2_new w _ _,heap_alloc2_old w _ _,((Below.refl _ _).alloc (Wz8 _) _).alloc (by simp) _⟩
 case round =>
 obtain⟨j,hj,hk,rfl,M,H1,H0,J⟩:=hrel;by_cases Z:j<40;rotate_left
 ·obtain rfl:j=40:=by omega
  go_wp2_with (first | refine wpList_load_mid rfl 116 _ rfl (w.heap.size+1) 0 rfl (row (idAt s 40)) _ (zw H1.out) underlying116 rfl (A _ (idAt_len s 40)) ?_ | refine wpList_store_mid rfl 116 _ _ rfl w.heap.size 0 (row (idAt s 40)).toArray rfl rfl ?t1 ?t2 ?t3 ?_)
  case t1=>rw[show (row (idAt s 40)).toArray.size=20 from by rw[Wyu,zv,idAt_len]];exact yW H0.out rfl
  case t2=>rw[Wyu];exact A _ (idAt_len s 40)
  case t3=>exact all_oneCell_toArray (yK _)
  refine bodyPost_ret (v:=.tuple #[.agg (row (idAt s 40)).toArray,.nilIface]) (qu (t2:=27) Tryz.results211 _ _ w.heap.size _ _ _ rfl rfl (World.rangeAt_setCells_same wr w.heap.size 0 _ ?_) underlying116 rfl (A _ (idAt_len s 40))) rfl ⟨zW (Wz8 _) _ _ _ _ J.out,fun _=>rfl,fun h=>absurd ⟨L,M⟩ h⟩
  rw[zv,idAt_len];exact yW H0.out rfl
 obtain⟨c,K⟩:=nn_ (sgn s j);have a7:∀ w1:World,(Instr.index 9 (.string s) (.int .i64 j)).run prog w1=.ok (.int .u8 c) w1:=fun w1=>by rw[K.out];exact OJ s j w1 (by omega)
 have D:0<=c/\c<256:=by rw[K.out];exact qvV s j
 by_cases hn:0<=hv c;rotate_left
 ·have G:hv c = -1:=qvY c hn;go_wp2_with (first | (go_at_call 184;refine(Xz c _ D.1 D.2).mono ?_;rintro e w1 ⟨rfl,rfl⟩;rw[G]) | refine wpList_store_mid rfl 116 _ _ rfl w.heap.size 0 (row zeros).toArray rfl rfl ?t1 ?t2 ?t3 ?_)
  case t1=>exact yW H0.out rfl
  case t2=>exact A _ rfl
  case t3=>exact all_oneCell_toArray (yK _)
  refine bodyPost_ret (v:=.tuple #[.agg (row zeros).toArray,.iface 32 (.int .i64 12)]) (qu (t2:=27) Tryz.results211 _ _ w.heap.size _ _ _ rfl rfl (World.rangeAt_setCells_same _ w.heap.size 0 _ ?_) underlying116 rfl (A _ rfl)) rfl ⟨zW (Wz8 _) _ _ _ _ J.out,fun h=>absurd (h.2 j Z) (by rw[<-K.out,G];omega),fun _=>rfl⟩
  exact yW H0.out rfl
 obtain⟨n,V⟩:=nn_ (hv c);have O:0<=n/\n<16:=by rw[V.out];refine⟨hn,?_⟩;unfold hv;split;omega;split <;> omega
 obtain⟨x,HX⟩:=nn_ ((idAt s j).getD (j / 2) 0);have I:wr.cell? ⟨w.heap.size+1,j / 2,none⟩=some (.int .u8 x):=by rw[HX.out];exact xQ H1.out (j / 2) (by rw[idAt_len];omega)
 have Y:=frozen_of_row wr (w.heap.size+1) (j / 2) _ 116 H1.out;have a6:0<=x/\x<256:=idAt_bd s j x (by rw[HX.out,List.getD_eq_getElem?_getD,List.getElem?_eq_getElem (by rw[idAt_len];omega)];exact List.getElem_mem _);obtain⟨y,HY⟩:=nn_ ((x*16+n) % 256);have Q:=qu0 x n a6 O;rw[<-HY.out] at Q;have ad:IntKind.u8.wrap n=n:=zkK n O.1 (by omega)
 obtain⟨m,HM⟩:=nn_ (j / 2);have hm:j / 2=m:=HM.out.symm;have a8:m<20:=by omega
 rw[hm] at I Y;go_wp2_with (go_at_call 184;refine(Xz c _ D.1 D.2).mono ?_;rintro e w1 ⟨rfl,rfl⟩;rw[<-V.out])
 go_roundg (40-(j+1));case measure=>omega
 case rel =>
 refine⟨j+1,by omega,rfl,by go_num,?_,?_,?_,J.out.setCell (by simp) _⟩
 ·intro k hk;rcases Wy4 k j with h | h
  ·exact M k h
  obtain rfl:k=j:=by omega
  rw[<-K.out];exact hn
 ·show _=_;rw[heap_setCell_same w1 _ _ _ _ _ H1.out,idAt,<-jZ,<-HX.out,<-K.out,<-V.out,<-HY.out,hm,<-Q]
 show _=_;rw[heap_setCell_other w1 _ _ _ (by simp)];exact H0.out
end Go.Proofs.YtdnphaganajejaaGreatDoor.Hx
