import Derived.Test.YtgliaiemkfopeaaGreatDoorMn06
import Derived.Shelf.Strings.Cut
import Derived.Shelf.Bytes.SlCut
import Derived.Shelf.Bytes.SlClone
import Derived.Shelf.Bytes.SlSmallAll
import Derived.Test.YtgliaiemkfopeaaGreatDoorProg
import Derived.Test.YtgliaiemkfopeaaGreatDoorMn05
import Derived.Test.YtgliaiemkfopeaaGreatDoorMn04
import Derived.Test.YtgliaiemkfopeaaGreatDoorMn03
import Derived.Test.YtgliaiemkfopeaaGreatDoorMn01
set_option linter.unusedSimpArgs false
set_option linter.unusedVariables false
set_option maxRecDepth 20000
set_option maxHeartbeats 4000000
namespace Go.Proofs.YtgliaiemkfopeaaGreatDoor
open Go.RowKit
theorem enter38 (v:Value) (w:World):(callFunc 90 #[v]).run Tryz.prog w=.ok (.enter 90 #[v]) w:=by kernel_rfl
def PostX (p:Per) (w:World) (e:Ending) (w':World):Prop:=Below w.heap.size w w'/\((okP p/\e=.returned (.tuple #[.string ⟨(x8 p).toArray⟩,.bool true])) ∨ (¬ okP p/\e=.returned (.tuple #[.string ⟨#[]⟩,.bool false])))
set_option maxHeartbeats 2000000 in
theorem text_any (p:Per) (w:World):Calls Tryz.prog 56 #[.agg (xq p)] w (PostX p w):=by
 obtain⟨nm,ml,tm,zn⟩:=p
 obtain⟨N,HNN⟩:=nn_ (⟨nm.toArray⟩:ByteArray)
 obtain⟨M,HMM⟩:=nn_ (⟨ml.toArray⟩:ByteArray)
 have HN:Hid (∀ w,Calls Tryz.prog 89 #[.string N] w fun e w'=>BIs (okT nm) e/\w'=w):=fun w=>by rw[HNN.out];exact plain_any nm w
 have HM:Hid (∀ w,Calls Tryz.prog 89 #[.string M] w fun e w'=>BIs (okT ml) e/\w'=w):=fun w=>by rw[HMM.out];exact plain_any ml w
 obtain⟨G,HG⟩:=nm_ w.heap.size
 obtain⟨w0,HW0⟩:=nm_ (w.alloc (.cells #[.string N,.string M,.int .i64 tm,.int .i64 zn] 74))
 have HB0:Hid (Below G w w0):=hid (by rw[<-HW0.out,<-HG.out];exact(Below.refl _ w).alloc (Nat.le_refl _) _)
 have hs0:G<w0.heap.size:=by rw[<-HW0.out,<-HG.out];simp
 have HX0:Hid (BoxP G N M tm zn w0):=hid (by rw[<-HW0.out,<-HG.out];exact⟨by simp,by simp,by simp,by simp⟩)
 have HBE:Hid (Below w.heap.size w w0):=hid (by rw[HG.out];exact HB0.out)
 obtain⟨c0,c1,c2,c3⟩:=HX0.out
 unfold xq
 simp only
 rw[<-HNN.out,<-HMM.out]
 go_enter Tryz.func56,Tryz.ntmps56
 go_wp2_with fail
 rw[HG.out,HW0.out]
 refine(HN.out w0).mono ?_
 rintro ev w0' ⟨hb,hw0⟩
 have hw0':=hw0.symm
 subst hw0'
 clear hw0
 rcases kJ hb with ⟨hy1,rfl⟩ | ⟨hn1,rfl⟩
 rotate_left
 ·have HOK:Hid (¬ okP ⟨nm,ml,tm,zn⟩):=fun h=>hn1 h.1
  clear hn1 hb
  go_wp2_with fail
  refine(HM.out w0).mono ?_
  rintro ev w0' ⟨hb,hw0⟩
  have hw0':=hw0.symm
  subst hw0'
  clear hw0
  rcases kJ hb with ⟨hy2,rfl⟩ | ⟨hn2,rfl⟩
  all_goals
   clear hb
   go_wp2
   go_ret2
   exact⟨HBE.out,.inr ⟨HOK.out,rfl⟩⟩
 have HY1:Hid (okT nm):=hy1
 clear hy1 hb
 go_wp2_with fail
 refine(HM.out w0).mono ?_
 rintro ev w0' ⟨hb,hw0⟩
 have hw0':=hw0.symm
 subst hw0'
 clear hw0
 rcases kJ hb with ⟨hy2,rfl⟩ | ⟨hn2,rfl⟩
 rotate_left
 ·have HOK:Hid (¬ okP ⟨nm,ml,tm,zn⟩):=fun h=>hn2 h.2.1
  clear hn2 hb
  go_wp2
  go_ret2
  exact⟨HBE.out,.inr ⟨HOK.out,rfl⟩⟩
 have HY2:Hid (okT ml):=hy2
 clear hy2 hb
 by_cases t1:tm<0
 ·have HOK:Hid (¬ okP ⟨nm,ml,tm,zn⟩):=fun h=>by have h2:=h.2.2.1.1;simp only at h2;omega
  go_wp2
  go_ret2
  exact⟨HBE.out,.inr ⟨HOK.out,rfl⟩⟩
 by_cases t2:(1099511627776:Int)<tm
 ·have HOK:Hid (¬ okP ⟨nm,ml,tm,zn⟩):=fun h=>by have h2:=h.2.2.1.2;simp only at h2;omega
  go_wp2
  go_ret2
  exact⟨HBE.out,.inr ⟨HOK.out,rfl⟩⟩
 by_cases t3:zn < -840
 ·have HOK:Hid (¬ okP ⟨nm,ml,tm,zn⟩):=fun h=>by have h2:=h.2.2.2.1;simp only at h2;omega
  go_wp2
  go_ret2
  exact⟨HBE.out,.inr ⟨HOK.out,rfl⟩⟩
 by_cases t4:(840:Int)<zn
 ·have HOK:Hid (¬ okP ⟨nm,ml,tm,zn⟩):=fun h=>by have h2:=h.2.2.2.2;simp only at h2;omega
  go_wp2
  go_ret2
  exact⟨HBE.out,.inr ⟨HOK.out,rfl⟩⟩
 have HOK:Hid (okP ⟨nm,ml,tm,zn⟩):=⟨HY1.out,HY2.out,⟨(by simp only;omega),(by simp only;omega)⟩,(by simp only;omega),(by simp only;omega)⟩
 obtain⟨tn,rfl⟩:∃ tn:Nat,tm=(tn:Int):=⟨tm.toNat,by omega⟩
 have htn:tn<=1099511627776:=by omega
 obtain⟨zz,HZZ⟩:=nm_ zn.natAbs
 have hzz:zz<=840:=by have:=HZZ.out;omega
 obtain⟨hh,HHH⟩:=nm_ (zz / 60)
 obtain⟨mm,HMI⟩:=nm_ (zz % 60)
 have hq1:(zz:Int) / 60=(hh:Int):=by have:=HHH.out;omega
 have hq2:(zz:Int) % 60=(mm:Int):=by have:=HMI.out;omega
 have hhb:hh<=14:=by have:=HHH.out;omega
 have hmb:mm<=59:=by have:=HMI.out;omega
 obtain⟨x1,HX1⟩:=nn_ (UInt8.ofNat (48+hh / 10))
 obtain⟨x2,HX2⟩:=nn_ (UInt8.ofNat (48+hh % 10))
 obtain⟨x3,HX3⟩:=nn_ (UInt8.ofNat (48+mm / 10))
 obtain⟨x4,HX4⟩:=nn_ (UInt8.ofNat (48+mm % 10))
 have hx1:(48:Int)+(hh:Int) / 10=(x1.toNat:Int):=by rw[HX1.out,UInt8.toNat_ofNat'];omega
 have hx2:(48:Int)+(hh:Int) % 10=(x2.toNat:Int):=by rw[HX2.out,UInt8.toNat_ofNat'];omega
 have hx3:(48:Int)+(mm:Int) / 10=(x3.toNat:Int):=by rw[HX3.out,UInt8.toNat_ofNat'];omega
 have hx4:(48:Int)+(mm:Int) % 10=(x4.toNat:Int):=by rw[HX4.out,UInt8.toNat_ofNat'];omega
 obtain⟨Z,HZD⟩:=nm_ (⟨#[x1,x2,x3,x4]⟩:ByteArray)
 have hcv:Sem.run Tryz.prog (convert 60 9 (.slice (some ⟨w0.heap.size,0,none⟩) 4 4)) (w0.alloc (.cells #[.int .u8 (x1.toNat:Int),.int .u8 (x2.toNat:Int),.int .u8 (x3.toNat:Int),.int .u8 (x4.toNat:Int)] 5))=.ok (.string Z) (w0.alloc (.cells #[.int .u8 (x1.toNat:Int),.int .u8 (x2.toNat:Int),.int .u8 (x3.toNat:Int),.int .u8 (x4.toNat:Int)] 5)):=by
  rw[<-HZD.out]
  refine run_convert_bytes_back _ 60 9 5 ⟨w0.heap.size,0,none⟩ 4 [x1,x2,x3,x4] Tryz.underlying60 Tryz.underlying5 Tryz.underlying9 ?_
  intro j hj
  have hj4:j<4:=by simpa using hj
  match j,hj4 with
  | 0,_=>simp[Addr.add]
  | 1,_=>simp[Addr.add]
  | 2,_=>simp[Addr.add]
  | 3,_=>simp[Addr.add]
 have hN60:N.size<=60:=by have:=HY1.out.1;rw[HNN.out];simpa [ByteArray.size] using this
 have hM60:M.size<=60:=by have:=HY2.out.1;rw[HMM.out];simpa [ByteArray.size] using this
 obtain⟨D,HDD⟩:=nn_ (⟨(Lib.decDigits tn).toArray⟩:ByteArray)
 have hD:D.size<=13:=by rw[HDD.out];have:=uV tn htn;simpa [ByteArray.size] using this
 have HF:Hid (∀ W,Calls Tryz.prog 90 #[.int .i64 tn] W fun e w'=>e=.returned (.string D)/\Below W.heap.size W w'):=fun W=>by rw[HDD.out];exact decimal_big tn htn W
 obtain⟨sg,HSG⟩:=nn_ (if zn<0 then ⟨#[45]⟩ else ⟨#[43]⟩:ByteArray)
 have hsg1:sg.size=1:=by rw[HSG.out];split <;> rfl
 have hZ4:Z.size=4:=by rw[<-HZD.out];rfl
 have l1:(⟨#[32,60]⟩:ByteArray).size=2:=rfl
 have l2:(⟨#[62,32]⟩:ByteArray).size=2:=rfl
 have l3:(⟨#[32]⟩:ByteArray).size=1:=rfl
 obtain⟨A1,HA1⟩:∃ A,N ++ ⟨#[32,60]⟩=A:=⟨_,rfl⟩
 have s1:A1.size=N.size+2:=by rw[<-HA1,ByteArray.size_append,l1]
 obtain⟨A2,HA2⟩:∃ A,A1++M=A:=⟨_,rfl⟩
 have s2:A2.size=A1.size+M.size:=by rw[<-HA2,ByteArray.size_append]
 obtain⟨A3,HA3⟩:∃ A,A2 ++ ⟨#[62,32]⟩=A:=⟨_,rfl⟩
 have s3:A3.size=A2.size+2:=by rw[<-HA3,ByteArray.size_append,l2]
 obtain⟨A4,HA4⟩:∃ A,A3++D=A:=⟨_,rfl⟩
 have s4:A4.size=A3.size+D.size:=by rw[<-HA4,ByteArray.size_append]
 obtain⟨A5,HA5⟩:∃ A,A4 ++ ⟨#[32]⟩=A:=⟨_,rfl⟩
 have s5:A5.size=A4.size+1:=by rw[<-HA5,ByteArray.size_append,l3]
 obtain⟨A6,HA6⟩:∃ A,A5++sg=A:=⟨_,rfl⟩
 have s6:A6.size=A5.size+sg.size:=by rw[<-HA6,ByteArray.size_append]
 obtain⟨A7,HA7⟩:∃ A,A6++Z=A:=⟨_,rfl⟩
 have g1:¬ 9223372036854775807<N.size+2:=by omega
 have g2:¬ 9223372036854775807<A1.size+M.size:=by omega
 have g3:¬ 9223372036854775807<A2.size+2:=by omega
 have g4:¬ 9223372036854775807<A3.size+D.size:=by omega
 have g5:¬ 9223372036854775807<A4.size+1:=by omega
 have g5':¬ 9223372036854775807<=A4.size:=by omega
 have g6:¬ 9223372036854775807<A5.size+1:=by omega
 have g6':¬ 9223372036854775807<=A5.size:=by omega
 have g7:¬ 9223372036854775807<A6.size+4:=by omega
 have HE:Hid (A7=⟨(x8 ⟨nm,ml,tn,zn⟩).toArray⟩):=hid (by
  have hz:Z=⟨(two (zn.natAbs / 60)++two (zn.natAbs % 60)).toArray⟩:=by
   rw[<-HZD.out,HZZ.out,HHH.out,HMI.out,HX1.out,HX2.out,HX3.out,HX4.out]
   rfl
  have hsg:sg=⟨[if zn<0 then 45 else 43].toArray⟩:=by rw[HSG.out];split <;> rfl
  rw[<-HA7,<-HA6,<-HA5,<-HA4,<-HA3,<-HA2,<-HA1,hz,hsg,HDD.out,HNN.out,HMM.out,show (⟨#[32,60]⟩:ByteArray)=⟨[32,60].toArray⟩ from rfl,show (⟨#[62,32]⟩:ByteArray)=⟨[62,32].toArray⟩ from rfl,show (⟨#[32]⟩:ByteArray)=⟨[32].toArray⟩ from rfl]
  simp only[str_add]
  simp[x8,xk])
 clear s1 s2 s3 s4 s5 s6
 obtain⟨wz,HWZ⟩:=nm_ (w0.alloc (.cells #[.int .u8 (x1.toNat:Int),.int .u8 (x2.toNat:Int),.int .u8 (x3.toNat:Int),.int .u8 (x4.toNat:Int)] 5))
 have hbz:Below w0.heap.size w0 wz:=by rw[<-HWZ.out];exact(Below.refl _ _).alloc (Nat.le_refl _) _
 have hsz:G<wz.heap.size:=Nat.lt_of_lt_of_le hs0 hbz.size
 have HBz:Hid (Below G w wz):=HB0.out.trans (hbz.mono (Nat.le_of_lt hs0))
 have HXz:Hid (BoxP G N M tn zn wz):=HX0.out.below hs0 hbz
 clear hbz
 have PE:Hid (∀ W,Below G w W->PostX ⟨nm,ml,tn,zn⟩ w (.returned (.tuple #[.string A7,.bool true])) W):=fun W hW=>⟨by rw[HG.out];exact hW,.inl ⟨HOK.out,by rw[HE.out]⟩⟩
 by_cases hz:zn<0
 ·have hng : -zn=(zz:Int):=by have:=HZZ.out;omega
  have hsg:sg=⟨#[45]⟩:=by rw[HSG.out,if_pos hz]
  clear HSG HE
  subst hsg
  go_wp2_with fail
  rw[HWZ.out]
  clear hcv c0 c1 c2 c3
  refine wp_region_held_drew (S:=BoxP G N M tn zn) (by kernel_rfl) (by exact HXz.out) (fun hHeld=>?_)
  have hsd:G<wz.drew.heap.size:=hsz
  have HBd:Hid (Below G w wz.drew):=hid ⟨HBz.out.os,HBz.out.tape,HBz.out.output,HBz.out.size,HBz.out.block⟩
  generalize wz.drew=wd at hHeld hsd HBd ⊢
  refine tZ (i:=0) hHeld ?_
  try simp only[Act.put,sL]
  refine tZ (i:=1) hHeld ?_
  try simp only[Act.put,sL]
  refine tZ (i:=2) hHeld ?_
  try simp only[Act.put,sL]
  refine tZ (i:=3) hHeld ?_
  try simp only[Act.put,sL]
  refine tZ (i:=4) hHeld ?_
  try simp only[Act.put,sL]
  refine tZ (i:=5) hHeld ?_
  try simp only[Act.put,sL]
  refine tZ (i:=6) hHeld ?_
  try simp only[Act.put,sL]
  refine tZ (i:=7) hHeld ?_
  try simp only[Act.put,sL]
  refine tZ (i:=8) hHeld ?_
  try simp only[Act.put,sL]
  refine tZ (i:=12) hHeld ?_
  try simp only[Act.put,sL]
  refine tZ (i:=14) hHeld ?_
  try simp only[Act.put,sL]
  refine wpAnyH_ready (rs:=[9]) (by kernel_rfl) (by simp) ?_
  refine xj rfl (fun KK hKK=>?_) AllReadyH.nil
  refine qJ (by rfl) 90 [.tmp 79] _ [.int .i64 tn] _ (by rfl) (by rfl) (enter38 _) (HF.out _) ?_
  rintro e w1 ⟨rfl,hb1⟩
  refine⟨_,rfl,?_⟩
  have HB1:Hid (Below G w w1):=HBd.out.trans (hb1.mono (Nat.le_of_lt hsd))
  refine hKK.out _ _ (hHeld.below hsd hb1) (fun hHeld=>?_)
  clear hKK KK hb1
  try simp only[Act.put,sL]
  refine tZ (i:=10) hHeld ?_
  try simp only[Act.put,sL]
  refine tZ (i:=11) hHeld ?_
  try simp only[Act.put,sL]
  refine tZ (i:=13) hHeld ?_
  try simp only[Act.put,sL]
  refine tZ (i:=15) hHeld ?_
  try simp only[Act.put,sL]
  refine tZ (i:=16) hHeld ?_
  try simp only[Act.put,sL]
  refine tZ (i:=17) hHeld ?_
  try simp only[Act.put,sL]
  refine wpAnyH_done (by kernel_rfl) ?_ _
  go_wp2
  go_ret2
  exact PE.out _ HB1.out
 ·have hzn:zn=(zz:Int):=by have:=HZZ.out;omega
  have hsg:sg=⟨#[43]⟩:=by rw[HSG.out,if_neg hz]
  clear HSG HE HZZ
  subst hsg
  subst hzn
  have hz0:¬ (zz:Int)<0:=hz
  go_wp2_with fail
  rw[HWZ.out]
  clear hcv c0 c1 c2 c3
  refine wp_region_held_drew (S:=BoxP G N M tn (zz:Int)) (by kernel_rfl) (by exact HXz.out) (fun hHeld=>?_)
  have hsd:G<wz.drew.heap.size:=hsz
  have HBd:Hid (Below G w wz.drew):=hid ⟨HBz.out.os,HBz.out.tape,HBz.out.output,HBz.out.size,HBz.out.block⟩
  generalize wz.drew=wd at hHeld hsd HBd ⊢
  refine tZ (i:=0) hHeld ?_
  try simp only[Act.put,sL]
  refine tZ (i:=1) hHeld ?_
  try simp only[Act.put,sL]
  refine tZ (i:=2) hHeld ?_
  try simp only[Act.put,sL]
  refine tZ (i:=3) hHeld ?_
  try simp only[Act.put,sL]
  refine tZ (i:=4) hHeld ?_
  try simp only[Act.put,sL]
  refine tZ (i:=5) hHeld ?_
  try simp only[Act.put,sL]
  refine tZ (i:=6) hHeld ?_
  try simp only[Act.put,sL]
  refine tZ (i:=7) hHeld ?_
  try simp only[Act.put,sL]
  refine tZ (i:=8) hHeld ?_
  try simp only[Act.put,sL]
  refine tZ (i:=12) hHeld ?_
  try simp only[Act.put,sL]
  refine tZ (i:=14) hHeld ?_
  try simp only[Act.put,sL]
  refine wpAnyH_ready (rs:=[9]) (by kernel_rfl) (by simp) ?_
  refine xj rfl (fun KK hKK=>?_) AllReadyH.nil
  refine qJ (by rfl) 90 [.tmp 79] _ [.int .i64 tn] _ (by rfl) (by rfl) (enter38 _) (HF.out _) ?_
  rintro e w1 ⟨rfl,hb1⟩
  refine⟨_,rfl,?_⟩
  have HB1:Hid (Below G w w1):=HBd.out.trans (hb1.mono (Nat.le_of_lt hsd))
  refine hKK.out _ _ (hHeld.below hsd hb1) (fun hHeld=>?_)
  clear hKK KK hb1
  try simp only[Act.put,sL]
  refine tZ (i:=10) hHeld ?_
  try simp only[Act.put,sL]
  refine tZ (i:=11) hHeld ?_
  try simp only[Act.put,sL]
  refine tZ (i:=13) hHeld ?_
  try simp only[Act.put,sL]
  refine tZ (i:=15) hHeld ?_
  try simp only[Act.put,sL]
  refine tZ (i:=16) hHeld ?_
  try simp only[Act.put,sL]
  refine tZ (i:=17) hHeld ?_
  try simp only[Act.put,sL]
  refine wpAnyH_done (by kernel_rfl) ?_ _
  go_wp2
  go_ret2
  exact PE.out _ HB1.out
end Go.Proofs.YtgliaiemkfopeaaGreatDoor
namespace Go.Proofs
open Go.Shelf
def Tryz.lays145_ren:Go.Shelf.Ren:=⟨fun | 145=>200 | 220=>226 | 219=>160 | 217=>194 | 225=>180 | 224=>179 | 267=>195 | 266=>218 | 314=>219 | n=>n,fun | 9=>9 | 4=>4 | 59=>303 | 3=>3 | 5=>5 | 46=>39 | 146=>287 | 51=>218 | n=>n,fun | 1=>2 | n=>n⟩
theorem Tryz.lays145:Go.Proofs.Lays.n145 Tryz.prog Tryz.lays145_ren:={
 mixed:=by kernel_rfl
 f145:=Tryz.func200.trans (congrArg some (by kernel_rfl))
 f217:=Tryz.func194.trans (congrArg some (by kernel_rfl))
 f219:=Tryz.func160.trans (congrArg some (by kernel_rfl))
 f220:=Tryz.func226.trans (congrArg some (by kernel_rfl))
 f224:=Tryz.func179.trans (congrArg some (by kernel_rfl))
 f225:=Tryz.func180.trans (congrArg some (by kernel_rfl))
 f266:=Tryz.func218.trans (congrArg some (by kernel_rfl))
 f267:=Tryz.func195.trans (congrArg some (by kernel_rfl))
 f314:=Tryz.func219.trans (congrArg some (by kernel_rfl))
 t3:=Tryz.underlying3
 a3:=Tryz.isAgg3
 z3:=Tryz.sizeOf3
 v3:=Tryz.zeroValue3
 t4:=Tryz.underlying4
 a4:=Tryz.isAgg4
 z4:=Tryz.sizeOf4
 v4:=Tryz.zeroValue4
 t5:=Tryz.underlying5
 a5:=Tryz.isAgg5
 z5:=Tryz.sizeOf5
 v5:=Tryz.zeroValue5
 t9:=Tryz.underlying9
 a9:=Tryz.isAgg9
 z9:=Tryz.sizeOf9
 v9:=Tryz.zeroValue9
 t46:=Tryz.underlying39
 a46:=Tryz.isAgg39
 z46:=Tryz.sizeOf39
 v46:=Tryz.zeroValue39
 t51:=Tryz.underlying218
 a51:=Tryz.isAgg218
 z51:=Tryz.sizeOf218
 v51:=Tryz.zeroValue218
 t59:=Tryz.underlying303
 a59:=Tryz.isAgg303
 z59:=Tryz.sizeOf303
 v59:=Tryz.zeroValue303
 t146:=Tryz.underlying287
 a146:=Tryz.isAgg287
 z146:=Tryz.sizeOf287
 v146:=Tryz.zeroValue287
 g1:=by kernel_rfl }
end Go.Proofs
namespace Go.Proofs.YtgliaiemkfopeaaGreatDoor
open Go.RowKit
theorem Sl.take {w:World} {a:Option Addr} {cap:Nat} {l:List Int} (h:Sl w a cap l) (i:Nat):Sl w a cap (l.take i) :=
 ⟨by have:=h.capl;rw[List.length_take];omega,fun h0=>by
  rw[List.length_take] at h0
  obtain⟨b,off,e1,e2,e3⟩:=h.at_ (by omega)
  refine⟨b,off,e1,e2,fun j hj=>?_⟩
  rw[List.length_take] at hj
  rw[e3 j (by omega)]
  simp[List.getD_eq_getElem?_getD,List.getElem?_take,show j<i by omega],h.nil⟩
def Mx (w:World):Prop := ∃ m:Int,w.cell? ⟨2,0,none⟩=some (.int .i64 m)
theorem Mx.below {w w':World} (h:Mx w) (hb:Below w.heap.size w w'):Mx w':=by
 obtain⟨m,hm⟩:=h
 refine⟨m,(hb.cell (p:=⟨2,0,none⟩) ?_).trans hm⟩
 rcases Nat.lt_or_ge 2 w.heap.size with h' | h'
 ·exact h'
 ·simp[World.cell?,Array.getElem?_eq_none h'] at hm
theorem X9 (s sep:List UInt8) (w:World) (hs:s.length<=1000000) (hm:Mx w) :
  Calls Tryz.prog 200 #[.string ⟨s.toArray⟩,.string ⟨sep.toArray⟩] w fun e w'=>e=.returned (.tuple #[.string ⟨(Lib.cut s sep).1.toArray⟩,.string ⟨(Lib.cut s sep).2.1.toArray⟩,.bool (Lib.cut s sep).2.2])/\∃ q,w'=w.drewN q:=by
 obtain⟨m,hm⟩:=hm
 exact Any.strings_Cut Tryz.lays145 ⟨s.toArray⟩ ⟨sep.toArray⟩ m w (by simp[ByteArray.size];omega) hm
theorem uq (B:Nat) {w0 w:World} (n:Nat) (h:Below B w0 w):Below B w0 (w.drewN n):=h.trans ⟨rfl,rfl,rfl,Nat.le_refl _,fun _ _=>rfl⟩
theorem row_snoc (k:IntKind) (l:List Int) (x:Int):row k (l++[x])=row k l++[.int k x]:=by simp[row]
theorem pad_iff (n j:Nat) (h:j<=ZJ n):((n+(1+j)+8) % 64=0) ↔ j=ZJ n:=by unfold ZJ at *;omega
set_option maxHeartbeats 2000000 in
theorem end_any (n:Nat) (w:World) (hn:n<=700000000) :
  Calls Tryz.prog 190 #[.int .u64 n] w fun e w'=>∃ g cp,e=.returned (.slice (some ⟨g,0,none⟩) (k8 n).length cp)/\Below w.heap.size w w'/\w.heap.size<=g/\g<w'.heap.size/\At w' g 0 (k8 n)/\(k8 n).length<=cp:=by
 obtain⟨i5,hi,hz0,hz1,hz2⟩:=qu Tryz.info5
 have HB0:Hid (Below w.heap.size w (w.alloc (.cells #[.int .u8 128] 5))):=(Below.refl _ w).alloc (Nat.le_refl _) _
 have hp63:=pads_le n
 go_enter Tryz.func190,Tryz.ntmps190
 go_wp2
 go_loopg [3] (ZJ n) (fun g s wr=>∃ (j gb cp:Nat) (ls:List Int),j<=ZJ n/\g=ZJ n-j/\s=.slice (some ⟨gb,0,none⟩) (1+j:Nat) cp/\Hid (ls=128 :: List.replicate j 0)/\wr.ownsRow w.heap.size 5 1 (.slice (some ⟨gb,0,none⟩) (1+j:Nat) cp) (1+j) (row .u8 ls)/\Hid (Below w.heap.size w wr))
 case atStart=>exact⟨0,w.heap.size,1,_,by omega,rfl,rfl,rfl,World.ownsRow_lit w #[.int .u8 128] 1 (Nat.le_refl _) (by unfold maxLen;omega) rfl,HB0⟩
 case round =>
  obtain⟨j,gb,cp,ls,hj,hk,rfl,HLs,hown,HB⟩:=hrel
  by_cases hlt:j<ZJ n
  ·have hc:((n:Int)+(1+j)+8) % 64 ≠ 0:=by have:=pad_iff n j hj;omega
   go_wp2_with (refine wpList_append_lies _ rfl _ _ _ rfl w.heap.size 5 i5 (.int .u8 0) 1 1 Tryz.underlying60 hi hz0 hz1 hz2 rfl (by omega) (.slice (some ⟨gb,0,none⟩) (1+j:Nat) cp) (1+j) (row .u8 ls) rfl (by exact hown.alloc _) ⟨wr.heap.size,0,none⟩ 1 1 [.int .u8 0] rfl rfl (by intro j u hj;match j,hj with | 0,hj=>simp at hj;subst hj;simp[Addr.add]) (by intro u hu;simp at hu;subst hu;rfl) (by omega) (by unfold maxLen;omega) (by omega) (by have:=HB.out.size;simp;omega) (wr.heap.size+1) (by simp) ?_;intro g2 cp2 w3 hown1 hgrow hat hlt2)
   have HB2:Hid (Below w.heap.size w w3):=Zx HB.out (Nat.le_refl _) (World.grownBy_alloc wr _ none) hgrow (fun k hk=>(yq hown k hk).1)
   have HO:Hid (w3.ownsRow w.heap.size 5 1 (.slice (some ⟨g2,0,none⟩) (1+j+1:Nat) cp2) (1+j+1) (row .u8 (ls++[0]))):=hid (by rw[row_snoc];exact hown1)
   clear hown1 hgrow hat hown
   go_wp2
   go_roundg (ZJ n-(j+1))
   case measure=>omega
   case rel=>exact⟨j+1,g2,cp2,ls++[0],by omega,rfl,rfl,hid (by rw[HLs.out,List.replicate_succ',List.cons_append]),HO.out,HB2⟩
  ·obtain rfl:j=ZJ n:=by omega
   have hc:((n:Int)+(1+(ZJ n:Nat))+8) % 64=0:=by have:=pad_iff n (ZJ n) (Nat.le_refl _);omega
   obtain⟨q,HQ⟩:=nn_ (1+ZJ n)
   have hq64:q<=64:=by have:=HQ.out;omega
   rw[<-HQ.out] at hown
   have hc2:((n:Int)+q+8) % 64=0:=by have:=HQ.out;omega
   rw[<-HQ.out]
   have HLq:Hid (ls=128 :: List.replicate (ZJ n) 0):=HLs.out
   clear hc hlt hj hk
   go_wp2
   clear hc2
   go_loopg [3,20] 8 (fun g s i wr=>∃ (j gb cp:Nat) (ls:List Int),j<=8/\g=8-j/\i=.int .i64 j/\s=.slice (some ⟨gb,0,none⟩) (q+j:Nat) cp/\Hid (ls=128 :: List.replicate (ZJ n) 0++(List.range j).map (be8 (8*n)))/\wr.ownsRow w.heap.size 5 1 (.slice (some ⟨gb,0,none⟩) (q+j:Nat) cp) (q+j) (row .u8 ls)/\Hid (Below w.heap.size w wr))
   case atStart=>exact⟨0,gb,cp,ls,by omega,rfl,rfl,rfl,hid (by rw[HLq.out];simp),hown,HB⟩
   case round =>
    clear hown HB
    obtain⟨j,gb,cp,ls,hj,hk,rfl,rfl,HLs,hown,HB⟩:=hrel
    by_cases hlt:j<8
    ·obtain⟨x,HX⟩:=nn_ (be8 (8*n) j)
     have hx:8*(n:Int) / 2 ^ (8*(7-j)) % 256=x:=by rw[HX.out];unfold be8;rw[Int.natCast_emod,Int.natCast_ediv,Int.natCast_mul,Int.natCast_pow];rfl
     go_wp2_with (refine wpList_append_lies _ rfl _ _ _ rfl w.heap.size 5 i5 (.int .u8 0) 1 1 Tryz.underlying60 hi hz0 hz1 hz2 rfl (by omega) (.slice (some ⟨gb,0,none⟩) (q+j:Nat) cp) (q+j) (row .u8 ls) rfl (by exact hown.alloc _) ⟨wr.heap.size,0,none⟩ 1 1 [.int .u8 x] rfl rfl (by intro j u hj;match j,hj with | 0,hj=>simp at hj;subst hj;simp[Addr.add]) (by intro u hu;simp at hu;subst hu;rfl) (by omega) (by unfold maxLen;omega) (by omega) (by have:=HB.out.size;simp;omega) (wr.heap.size+1) (by simp) ?_;intro g2 cp2 w3 hown1 hgrow hat hlt2)
     have HB2:Hid (Below w.heap.size w w3):=Zx HB.out (Nat.le_refl _) (World.grownBy_alloc wr _ none) hgrow (fun k hk=>(yq hown k hk).1)
     have HO:Hid (w3.ownsRow w.heap.size 5 1 (.slice (some ⟨g2,0,none⟩) (q+j+1:Nat) cp2) (q+j+1) (row .u8 (ls++[x]))):=hid (by rw[row_snoc];exact hown1)
     clear hown1 hgrow hat hown hx
     go_wp2
     go_roundg (8-(j+1))
     case measure=>omega
     case rel=>exact⟨j+1,g2,cp2,ls++[x],by omega,rfl,by go_num,rfl,hid (by rw[HLs.out,HX.out,List.range_succ,List.map_append,List.append_assoc];rfl),HO.out,HB2⟩
    ·obtain rfl:j=8:=by omega
     have HE:Hid (ls=k8 n):=hid (by rw[HLs.out];rfl)
     have hel:(k8 n).length=q+8:=by rw[endOf_len];have:=HQ.out;omega
     obtain⟨g0,cp0,hform,hg0,hcp0⟩:=hown.form (by omega)
     have hlt3:=(yq hown gb rfl)
     have HAt:Hid (At wr gb 0 (k8 n)):=fun i hi=>by
      rw[Nat.zero_add,hown.cellAt i (by omega),HE.out,uK .u8 (k8 n) i hi]
     have hcp:q+8<=cp:=by
      rcases hown.2 with ⟨_,h0⟩ | ⟨g,cap,cur,hv,_,_,h1,_⟩
      ·omega
      ·simp only[Value.slice.injEq] at hv;omega
     go_wp2
     go_ret
     exact⟨gb,cp,by rw[hel];rfl,HB.out,hlt3.1,hlt3.2,HAt.out,by rw[hel];exact hcp⟩
def ux (w:World) (D:Nat):List Value:=(List.range 70).map fun i=>(w.cell? ⟨D,i,none⟩).getD undef
theorem Xz (w:World) (D:Nat):(ux w D).length=70:=by simp[ux]
theorem dig_some {w:World} {D:Nat} {l:List Int} (h:Dig w D l) (i:Nat) (hi:i<70):∃ v,w.cell? ⟨D,i,none⟩=some v/\v.oneCell'=true:=by
 by_cases h5:i<5
 ·exact⟨_,h.sum i h5,rfl⟩
 ·by_cases h69:i=69
  ·subst h69;exact⟨_,h.size,rfl⟩
  ·obtain⟨rs,-,-,hc,-⟩:=h.rest
   have:=hc (i-5) (by omega)
   rw[show 5+(i-5)=i from by omega] at this
   exact⟨_,this,rfl⟩
theorem digCells_at {w:World} {D:Nat} {l:List Int} (h:Dig w D l) (i:Nat) (hi:i<70):(ux w D)[i]? = w.cell? ⟨D,i,none⟩:=by
 obtain⟨v,hv,-⟩:=dig_some h i hi
 simp[ux,hi,hv]
theorem digCells_range {w:World} {D:Nat} {l:List Int} (h:Dig w D l):w.rangeAt D 0 (ux w D):=fun j v hv=>by
 have hj:j<70:=by rcases Nat.lt_or_ge j 70 with h | h;exact h;rw[List.getElem?_eq_none (by rw[Xz];exact h)] at hv;cases hv
 rw[Nat.zero_add,<-digCells_at h j hj];exact hv
theorem digCells_one {w:World} {D:Nat} {l:List Int} (h:Dig w D l):∀ v ∈ ux w D,v.oneCell'=true:=by
 intro v hv
 simp only[ux,List.mem_map,List.mem_range] at hv
 obtain⟨i,hi,rfl⟩:=hv
 obtain⟨v,hv,h1⟩:=dig_some h i hi
 rw[hv];exact h1
theorem dig_copy {w W:World} {D L:Nat} {l:List Int} (h:Dig w D l) (hr:W.rangeAt L 0 (ux w D)) (hl:L<W.heap.size) (hf:∀ i,W.frozen? ⟨L,i,none⟩=false):Dig W L l:=by
 have c:∀ i,i<70->W.cell? ⟨L,i,none⟩=w.cell? ⟨D,i,none⟩:=fun i hi=>by
  obtain⟨v,hv,-⟩:=dig_some h i hi
  have:=hr i v (by rw[digCells_at h i hi];exact hv)
  rw[Nat.zero_add] at this
  rw[this,hv]
 obtain⟨rs,h1,h2,h3,h4⟩:=h.rest
 exact⟨hl,fun i hi=>(c i (by omega)).trans (h.sum i hi),⟨rs,h1,h2,fun i hi=>(c _ (by omega)).trans (h3 i hi),h4⟩,(c _ (by omega)).trans h.size,hf⟩
theorem out4 (s:S5) (i:Nat) (hi:i<5):jj s (4*(i+1))=((((jj s (4*i)).set (4*i) (s.l.getD i 0 / 16777216 % 256)).set (4*i+1) (s.l.getD i 0 / 65536 % 256)).set (4*i+2) (s.l.getD i 0 / 256 % 256)).set (4*i+3) (s.l.getD i 0 % 256):=by
 rw[show 4*(i+1)=4*i+3+1 from by omega,Zw s _ (by omega),Zw s _ (by omega),Zw s _ (by omega),Zw s _ (by omega)]
 rw[show 4*i / 4=i from by omega,show (4*i+1) / 4=i from by omega,show (4*i+2) / 4=i from by omega,show (4*i+3) / 4=i from by omega,show 4*i % 4=0 from by omega,show (4*i+1) % 4=1 from by omega,show (4*i+2) % 4=2 from by omega,show (4*i+3) % 4=3 from by omega]
 rw[show s.l.getD i 0 / 2 ^ (24-8*3) % 256=s.l.getD i 0 % 256 from by simp]
 rfl
theorem l_isW' (s:S5) (h:s.ok):IsW s.l:=by
 obtain⟨h1,h2,h3,h4,h5⟩:=h
 intro x hx
 simp only[S5.l,List.mem_cons,List.not_mem_nil,or_false] at hx
 rcases hx with rfl | rfl | rfl | rfl | rfl <;> assumption
theorem set4 {w:World} {g m:Nat} {t:TypeId} {zs:List Int} (a b c d:Int) (h:w.heap[g]? = some (.cells (row .u8 zs).toArray t (0,0))) :
  ((((w.setCell ⟨g,m,none⟩ (.int .u8 a)).setCell ⟨g,m+1,none⟩ (.int .u8 b)).setCell ⟨g,m+2,none⟩ (.int .u8 c)).setCell ⟨g,m+3,none⟩ (.int .u8 d)).heap[g]? = some (.cells (row .u8 ((((zs.set m a).set (m+1) b).set (m+2) c).set (m+3) d)).toArray t (0,0)):=by
 have h1:=heap_setCell_same w g m _ _ (.int .u8 a) h
 rw[jk] at h1
 have h2:=heap_setCell_same _ g (m+1) _ _ (.int .u8 b) h1
 rw[jk] at h2
 have h3:=heap_setCell_same _ g (m+2) _ _ (.int .u8 c) h2
 rw[jk] at h3
 have h4:=heap_setCell_same _ g (m+3) _ _ (.int .u8 d) h3
 rw[jk] at h4
 exact h4
theorem set4_other {w:World} {g m k:Nat} (a b c d:Value) (h:k ≠ g):((((w.setCell ⟨g,m,none⟩ a).setCell ⟨g,m+1,none⟩ b).setCell ⟨g,m+2,none⟩ c).setCell ⟨g,m+3,none⟩ d).heap[k]? = w.heap[k]? := by
 rw[Below.heap_setCell _ _ _ _ h,Below.heap_setCell _ _ _ _ h,Below.heap_setCell _ _ _ _ h,Below.heap_setCell _ _ _ _ h]
theorem set4_below {B:Nat} {w0 w:World} {g m:Nat} (a b c d:Value) (hg:B<=g) (h:Below B w0 w):Below B w0 ((((w.setCell ⟨g,m,none⟩ a).setCell ⟨g,m+1,none⟩ b).setCell ⟨g,m+2,none⟩ c).setCell ⟨g,m+3,none⟩ d) :=
 (((h.setCell (p:=⟨g,m,none⟩) hg a).setCell (p:=⟨g,m+1,none⟩) hg b).setCell (p:=⟨g,m+2,none⟩) hg c).setCell (p:=⟨g,m+3,none⟩) hg d
def Z43:Array Value:=(row .u32 [0,0,0,0,0]++row .u8 (List.replicate 64 0)++([.int .u64 0] : List Value)).toArray
theorem zero43 (w:World):(zeroValue 296).run Tryz.prog w=.ok (.agg Z43) w:=by kernel_rfl
theorem zero25 (w:World):(zeroValue 89).run Tryz.prog w=.ok (.agg (row .u8 z20).toArray) w:=by kernel_rfl
theorem sum_any (D:Nat) (l:List Int) (w:World) (hD:Dig w D l) (hl:l.length<=600000000) (hlb:IsB l) :
  Calls Tryz.prog 157 #[.pointer (some ⟨D,0,none⟩)] w fun e w'=>e=.returned (.agg (row .u8 (sha l)).toArray)/\Below w.heap.size w w':=by
 have HD:Hid (Dig w D l):=hD
 clear hD
 obtain⟨zr,HZ⟩:=nn_ ((row .u8 z20).toArray)
 have hz25:=zero25
 rw[<-HZ.out] at hz25
 obtain⟨z43,HZ43⟩:=nn_ Z43
 have hz43:=zero43
 rw[<-HZ43.out] at hz43
 obtain⟨cs,HCS⟩:=nn_ (ux w D)
 have hcs:cs.length=70:=by rw[HCS.out];exact Xz _ _
 have hi43:(Tryz.prog.info? 296).map (·.size)=some cs.length:=by rw[hcs];exact Tryz.size296
 have hDl:D<w.heap.size:=HD.out.lt
 have he70:cs.toArray.size=70:=by rw[List.size_toArray,hcs]
 have H1:Hid ((w.alloc (.cells zr 89)).rangeAt D 0 cs):=hid (by rw[HCS.out];exact fun j v hv=>(World.cell?_alloc_lt w _ ⟨D,0+j,none⟩ hDl).trans (digCells_range HD.out j v hv))
 have T1:Hid (((w.alloc (.cells zr 89)).alloc (.cells z43 296)).there (w.heap.size+1) 0 cs.toArray.size):=hid (by rw[he70,HZ43.out];exact jW (heap_alloc2_new w _ _) rfl)
 have T2:Hid ((Tryz.prog.info? 296).map (·.size)=some cs.toArray.size):=hid (by rw[List.size_toArray];exact hi43)
 have T3:Hid (cs.toArray.all (·.oneCell')=true):=hid (all_oneCell_toArray (by rw[HCS.out];exact digCells_one HD.out))
 obtain⟨w1,HW1⟩:=nn_ (((w.alloc (.cells zr 89)).alloc (.cells z43 296)).setCells (w.heap.size+1) 0 cs.toArray.toList)
 have hs1:w1.heap.size=w.heap.size+1+1:=by rw[HW1.out,vy];simp
 have HDL:Hid (Dig w1 (w.heap.size+1) l):=hid (by
  refine dig_copy HD.out ?_ (by omega) ?_
  ·rw[HW1.out,<-HCS.out];exact World.rangeAt_setCells_same _ (w.heap.size+1) 0 _ (by have:=T1.out;simpa using this)
  ·intro i;rw[HW1.out,World.frozen?_setCells];exact frozen_of_row _ _ _ _ 296 (heap_alloc2_new w _ _))
 have HB1:Hid (Below w.heap.size w w1):=hid (by rw[HW1.out];exact zW (by omega) _ _ _ _ (((Below.refl _ w).alloc (Nat.le_refl _) _).alloc (by simp) _))
 have HR1:Hid (w1.heap[w.heap.size]? = some (.cells zr 89 (0,0))):=hid (by
  have hg:∀ (vs:List Value) (o:Nat) (W:World),(W.setCells (w.heap.size+1) o vs).heap[w.heap.size]? = W.heap[w.heap.size]? := by
   intro vs
   induction vs with
   | nil=>intro o W;rfl
   | cons v r ih=>intro o W;rw[World.setCells,ih];exact Below.heap_setCell W ⟨w.heap.size+1,o,none⟩ v _ (by simp)
  rw[HW1.out,hg];exact heap_alloc2_old w _ _)
 replace hs1:=hid hs1
 have c69:w1.cell? ⟨D,69,none⟩=some (.int .u64 l.length):=(HB1.out.cell (p:=⟨D,69,none⟩) hDl).trans HD.out.size
 go_enter Tryz.func157,Tryz.ntmps157
 go_wp2_with (first | refine wpList_load_mid rfl 296 _ rfl D 0 rfl cs _ H1.out Tryz.underlying296 rfl hi43 ?_ | (refine wpList_store_mid rfl 296 _ _ rfl (w.heap.size+1) 0 cs.toArray rfl rfl T1.out T2.out T3.out ?_;rw[<-HW1.out]))
 clear c69
 obtain⟨n,HN⟩:=nn_ l.length
 rw[<-HN.out]
 refine(end_any n w1 (by rw[HN.out];omega)).mono ?_
 rintro e w2 ⟨g,cp,rfl,hb2,hg1,hg2,hat2,hcp2⟩
 have HG2:Hid (w1.heap.size<=g):=hg1
 have HD2:Dig w2 (w.heap.size+1) l:=HDL.out.keep (ZW hb2 none) (by simp)
 have HX2:Hid (Below w1.heap.size w1 w2):=hb2
 obtain⟨en,HEN⟩:=nn_ (k8 n)
 rw[<-HEN.out] at hat2 hcp2 ⊢
 have henl:en.length<=100:=by rw[HEN.out,endOf_len];have:=pads_le n;omega
 have henb:IsB en:=by rw[HEN.out];exact endOf_isB n
 go_wp2_with fail
 refine(X7 (w.heap.size+1) l _ cp en w2 HD2 (by omega) hlb henb (fun _=>⟨g,0,rfl,hg2,by have:=HG2.out;have:=hs1.out;omega,hat2,hcp2⟩)).mono ?_
 rintro e w3 ⟨rfl,hD3,hgr3⟩
 have hsz2:=HX2.out.size
 have hsz3:=hgr3.size
 have HB3:Hid (Below w.heap.size w w3):=(HB1.out.trans (HX2.out.mono (by have:=hs1.out;omega))).grown hgr3 (by have:=hs1.out;omega) (fun k hk=>by simp at hk;omega)
 have HR3:Hid (w3.heap[w.heap.size]? = some (.cells zr 89 (0,0))):=(hgr3.block _ (by have:=hs1.out;omega) (by simp)).trans ((HX2.out.block _ (by have:=hs1.out;omega)).trans HR1.out)
 have hz3:w.heap.size+1<w3.heap.size:=by have:=hs1.out;omega
 obtain⟨s5,HS5⟩:=nn_ (ab (l++en) ((l++en).length / 64))
 have hs5:s5.ok:=by rw[HS5.out];exact ab_ok _ _
 have HSH:Hid (sha l=jj s5 20):=hid (by unfold sha;rw[HS5.out,HEN.out,HN.out])
 have hsum:=hD3.sum
 rw[<-HS5.out] at hsum
 replace hD3:=hid hD3
 clear hgr3 HX2 hat2 hcp2 HD2 hb2 hg1 hg2 hsz2 hsz3
 obtain⟨sl,HSL⟩:=nn_ s5.l
 rw[<-HSL.out] at hsum
 have hsll:sl.length=5:=by rw[HSL.out];rfl
 have hslw:IsW sl:=by rw[HSL.out];exact l_isW' s5 hs5
 have hi40:(Tryz.prog.info? 293).map (·.size)=some (row .u32 sl).length:=by rw[zw,hsll];exact Tryz.size293
 have HRL:Hid ((w3.alloc (.cells zr 89)).rangeAt (w.heap.size+1) 0 (row .u32 sl)):=hid (range_of 0 (fun i hi=>by rw[Nat.zero_add,World.cell?_alloc_lt w3 _ ⟨w.heap.size+1,i,none⟩ hz3];exact hsum i (by omega)))
 have HI3:Hid ((w3.alloc (.cells zr 89)).heap[w3.heap.size]? = some (.cells (row .u8 (jj s5 (4*0))).toArray 89 (0,0))):=hid (by rw[outAt_zero,<-HZ.out];exact heap_alloc_new w3 _)
 have HR4:Hid ((w3.alloc (.cells zr 89)).heap[w.heap.size]? = some (.cells (row .u8 z20).toArray 89 (0,0))):=hid (by rw[Below.heap_alloc _ _ _ (by omega),HR3.out,HZ.out])
 have HB4:Hid (Below w.heap.size w (w3.alloc (.cells zr 89))):=HB3.out.alloc (by omega) _
 clear hsum
 obtain⟨sa,HSA⟩:=nn_ ((row .u32 sl).toArray)
 have HSX:Hid (∀ i,i<5->sa[i]? = some (.int .u32 (sl.getD i 0))):=fun i hi=>by rw[HSA.out];simpa using uK .u32 sl i (by omega)
 go_wp2_with (refine wpList_load_mid rfl 293 _ rfl (w.heap.size+1) 0 rfl (row .u32 sl) _ HRL.out Tryz.underlying293 rfl hi40 ?_;rw[<-HSA.out])
 go_loopg [18] 5 (fun k i wr=>∃ j:Nat,j<=5/\k=5-j/\i=.int .i64 j/\Hid (wr.heap[w3.heap.size]? = some (.cells (row .u8 (jj s5 (4*j))).toArray 89 (0,0)))/\Hid (wr.heap[w.heap.size]? = some (.cells (row .u8 z20).toArray 89 (0,0)))/\Hid (Below w.heap.size w wr))
 case atStart=>exact⟨0,by omega,rfl,rfl,HI3,HR4,HB4⟩
 case round =>
  clear HI3 HR4 HB4 HRL
  obtain⟨j,hj,hk,rfl,HI,HR,HB⟩:=hrel
  by_cases hlt:j<5
  ·obtain⟨x,HX⟩:=nn_ (sl.getD j 0)
   have hix:∀ w1:World,(Instr.index 293 (.agg sa) (.int .i64 j)).run Tryz.prog w1=.ok (.int .u32 x) w1:=fun w1=>by rw[HX.out];exact QW 293 218 5 _ _ j _ w1 Tryz.underlying293 Tryz.size218 _ Tryz.underlying218 rfl hlt (HSX.out j hlt)
   have hx:U x:=by rw[HX.out];exact hslw.at j
   obtain⟨hx1,hx2⟩:=hx
   obtain⟨m,HM⟩:=nn_ (4*j)
   have hm:(4:Int)*j=(m:Int):=by have:=HM.out;omega
   have hm16:m+3<20:=by have:=HM.out;omega
   rw[<-HM.out] at HI
   have cc:∀ i,i<20->wr.cell? ⟨w3.heap.size,i,none⟩=some (.int .u8 ((jj s5 m).getD i 0)):=fun i hi=>xy HI.out i (by rw[outAt_len];exact hi)
   have d0:=cc m (by omega)
   have d1:=cc (m+1) (by omega)
   have d2:=cc (m+2) (by omega)
   have d3:=cc (m+3) (by omega)
   have f0:=frozen_of_row wr w3.heap.size m _ 89 HI.out
   have f1:=frozen_of_row wr w3.heap.size (m+1) _ 89 HI.out
   have f2:=frozen_of_row wr w3.heap.size (m+2) _ 89 HI.out
   have f3:=frozen_of_row wr w3.heap.size (m+3) _ 89 HI.out
   clear cc
   go_wp2
   go_roundg (5-(j+1))
   case measure=>omega
   case rel =>
    refine⟨j+1,by omega,rfl,by go_num,hid ?_,hid ?_,set4_below _ _ _ _ (by omega) HB.out⟩
    ·have e16:x / 16777216=x / 16777216 % 256:=by omega
     rw[out4 s5 j hlt,<-HM.out,<-HSL.out,<-HX.out,<-e16]
     exact set4 _ _ _ _ HI.out
    ·rw[set4_other _ _ _ _ (by omega)];exact HR.out
  ·obtain rfl:j=5:=by omega
   obtain⟨fr,HFR⟩:=nn_ (jj s5 (4*5))
   rw[<-HFR.out] at HI
   have hfl:fr.length=20:=by rw[HFR.out];exact outAt_len _ _
   have HE:Hid (fr=sha l):=hid (by rw[HFR.out,HSH.out])
   have hi25:(Tryz.prog.info? 89).map (·.size)=some (row .u8 fr).length:=by rw[zw,hfl];exact Tryz.size89
   have T1:Hid (wr.there w.heap.size 0 (row .u8 fr).toArray.size):=hid (by rw[vw,hfl];exact yJ HR.out rfl)
   have T2:Hid ((Tryz.prog.info? 89).map (·.size)=some (row .u8 fr).toArray.size):=hid (by rw[vw,hfl];exact Tryz.size89)
   have T3:Hid ((row .u8 fr).toArray.all (·.oneCell')=true):=all_oneCell_toArray (yQ _ _)
   have T4:Hid (wr.there w.heap.size 0 (row .u8 fr).length):=hid (by rw[zw,hfl];exact yJ HR.out rfl)
   go_wp2_with (first | refine wpList_load_mid rfl 89 _ rfl w3.heap.size 0 rfl (row .u8 fr) _ (zy HI.out) Tryz.underlying89 rfl hi25 ?_ | refine wpList_store_mid rfl 89 _ _ rfl w.heap.size 0 (row .u8 fr).toArray rfl rfl T1.out T2.out T3.out ?_)
   refine bodyPost_ret (v:=.agg (row .u8 fr).toArray) (qW Tryz.results157 _ _ w.heap.size _ _ rfl (World.rangeAt_setCells_same wr w.heap.size 0 _ T4.out) Tryz.underlying89 rfl hi25) rfl ⟨?_,zW (Nat.le_refl _) _ _ _ _ HB.out⟩
   rw[HE.out]
end Go.Proofs.YtgliaiemkfopeaaGreatDoor
namespace Go.Proofs.YtgliaiemkfopeaaGreatDoor.Hx
open Go.RowKit
theorem hv_neg (c:Int) (h:¬ 0<=hv c):hv c = -1:=by
 unfold hv at h ⊢
 by_cases a:48<=c/\c<=57
 ·rw[if_pos a] at h;omega
 ·rw[if_neg a] at h ⊢
  by_cases b:97<=c/\c<=102
  ·rw[if_pos b] at h;omega
  ·rw[if_neg b]
theorem index_sgn (s:ByteArray) (j:Nat) (w:World) (h:j<s.size):(Instr.index 9 (.string s) (.int .i64 j)).run Tryz.prog w=.ok (.int .u8 (sgn s j)) w:=by
 rw[run_index_string (P:=Tryz.prog) w 9 s .i64 j Tryz.underlying9,dif_pos ⟨by omega,by omega⟩]
 unfold sgn
 have hj:j<s.data.toList.length:=by simpa using h
 simp only[Int.toNat_natCast,List.getD_eq_getElem?_getD,List.getElem?_eq_getElem hj,Option.getD_some]
 rfl
theorem zW {B g:Nat} (hB:B<=g):∀ (vs:List Value) (o:Nat) (w0 w:World),Below B w0 w->Below B w0 (w.setCells g o vs)
 | [],_,_,_,h=>h
 | v :: r,o,w0,_,h=>zW hB r (o+1) w0 _ (h.setCell (p:=⟨g,o,none⟩) hB v)
theorem shl_or (a n:Int) (ha:0<=a/\a<256) (hn:0<=n/\n<16):bits .or .u8 (a*16 % 256) n=(a*16+n) % 256:=by
 obtain⟨x,rfl⟩:=Int.eq_ofNat_of_zero_le ha.1
 obtain⟨y,rfl⟩:=Int.eq_ofNat_of_zero_le hn.1
 have:∀ y:Nat,y<16->∀ x:Nat,x<256->bits .or .u8 ((x:Int)*16 % 256) (y:Int)=((x:Int)*16+y) % 256:=by decide +kernel
 exact this y (by omega) x (by omega)
set_option maxHeartbeats 1000000 in
theorem parse_prog (s:ByteArray) (w:World) (hl:s.size<=300000000) :
  Calls Tryz.prog 227 #[.string s] w fun e w'=>Below w.heap.size w w'/\((s.size=40/\good s->e=.returned (.tuple #[.agg (row (idAt s 40)).toArray,.nilIface]))/\(¬ (s.size=40/\good s)->e=.returned (.tuple #[.agg (row zeros).toArray,.iface 44 (.int .i64 12)]))):=by
 have hi2:∀ l:List Int,l.length=20->(Tryz.prog.info? 89).map (·.size)=some (row l).length:=fun l h=>by rw[zw,h];exact Tryz.info89
 obtain⟨zr,HZ⟩:=nn_ (row zeros)
 by_cases h40:s.size=40
 ·go_enter Tryz.func227,Tryz.ntmps227
  go_wp2
  go_loopg [14] 40 (fun k i wr=>∃ j:Nat,j<=40/\k=40-j/\i=.int .i64 j/\(∀ k,k<j->0<=hv (sgn s k))/\Hid (wr.heap[w.heap.size+1]? = some (.cells (row (idAt s j)).toArray 89 (0,0)))/\Hid (wr.heap[w.heap.size]? = some (.cells (row zeros).toArray 89 (0,0)))/\Hid (Below w.heap.size w wr))
  case atStart=>exact⟨0,by omega,rfl,rfl,fun k hk=>by omega,heap_alloc2_new w _ _,heap_alloc2_old w _ _,((Below.refl _ _).alloc (Nat.le_refl _) _).alloc (by simp) _⟩
  case round =>
   obtain⟨j,hj,hk,rfl,hgd,H1,H0,HB⟩:=hrel
   by_cases hlt:j<40
   ·obtain⟨c,HC⟩:=nn_ (sgn s j)
    have hix:∀ w1:World,(Instr.index 9 (.string s) (.int .i64 j)).run Tryz.prog w1=.ok (.int .u8 c) w1:=fun w1=>by rw[HC.out];exact index_sgn s j w1 (by omega)
    have hcb:0<=c/\c<256:=by rw[HC.out];exact sgn_bd s j
    by_cases hn:0<=hv c
    ·obtain⟨n,HN⟩:=nn_ (hv c)
     have hnb:0<=n/\n<16:=by rw[HN.out];refine⟨hn,?_⟩;unfold hv;split;omega;split <;> omega
     obtain⟨x,HX⟩:=nn_ ((idAt s j).getD (j / 2) 0)
     have hcell:wr.cell? ⟨w.heap.size+1,j / 2,none⟩=some (.int .u8 x):=by rw[HX.out];exact xy H1.out (j / 2) (by rw[idAt_len];omega)
     have hfz:=frozen_of_row wr (w.heap.size+1) (j / 2) _ 89 H1.out
     have hxb:0<=x/\x<256:=idAt_bd s j x (by rw[HX.out,List.getD_eq_getElem?_getD,List.getElem?_eq_getElem (by rw[idAt_len];omega)];exact List.getElem_mem _)
     obtain⟨y,HY⟩:=nn_ ((x*16+n) % 256)
     have hor:=shl_or x n hxb hnb
     rw[<-HY.out] at hor
     have hwn:IntKind.u8.wrap n=n:=wrap_u8 n hnb.1 (by omega)
     obtain⟨m,HM⟩:=nn_ (j / 2)
     have hm:j / 2=m:=HM.out.symm
     have hm2:m<20:=by omega
     rw[hm] at hcell hfz
     go_wp2_with (go_at_call 177;refine(Yz c _ hcb.1 hcb.2).mono ?_;rintro e w1 ⟨rfl,rfl⟩;rw[<-HN.out])
     go_roundg (40-(j+1))
     case measure=>omega
     case rel =>
      refine⟨j+1,by omega,rfl,by go_num,?_,?_,?_,HB.out.setCell (by simp) _⟩
      ·intro k hk
       rcases Nat.lt_or_ge k j with h | h
       ·exact hgd k h
       ·obtain rfl:k=j:=by omega
        rw[<-HC.out];exact hn
      ·show _=_
       rw[heap_setCell_same w1 _ _ _ _ _ H1.out,idAt,<-jk,<-HX.out,<-HC.out,<-HN.out,<-HY.out,hm,<-hor]
      ·show _=_
       rw[heap_setCell_other w1 _ _ _ (by simp)];exact H0.out
    ·have hneg:hv c = -1:=hv_neg c hn
     go_wp2_with (first | (go_at_call 177;refine(Yz c _ hcb.1 hcb.2).mono ?_;rintro e w1 ⟨rfl,rfl⟩;rw[hneg]) | refine wpList_store_mid rfl 89 _ _ rfl w.heap.size 0 (row zeros).toArray rfl rfl ?t1 ?t2 ?t3 ?_)
     case t1=>exact yJ H0.out rfl
     case t2=>exact hi2 _ rfl
     case t3=>exact all_oneCell_toArray (yQ _)
     ·refine bodyPost_ret (v:=.tuple #[.agg (row zeros).toArray,.iface 44 (.int .i64 12)]) (qw (t2:=55) Tryz.results227 _ _ w.heap.size _ _ _ rfl rfl (World.rangeAt_setCells_same _ w.heap.size 0 _ ?_) Tryz.underlying89 rfl (hi2 _ rfl)) rfl ⟨zW (Nat.le_refl _) _ _ _ _ HB.out,fun h=>absurd (h.2 j hlt) (by rw[<-HC.out,hneg];omega),fun _=>rfl⟩
      exact yJ H0.out rfl
   ·obtain rfl:j=40:=by omega
    go_wp2_with (first | refine wpList_load_mid rfl 89 _ rfl (w.heap.size+1) 0 rfl (row (idAt s 40)) _ (zy H1.out) Tryz.underlying89 rfl (hi2 _ (idAt_len s 40)) ?_ | refine wpList_store_mid rfl 89 _ _ rfl w.heap.size 0 (row (idAt s 40)).toArray rfl rfl ?t1 ?t2 ?t3 ?_)
    case t1=>rw[show (row (idAt s 40)).toArray.size=20 from by rw[List.size_toArray,zw,idAt_len]];exact yJ H0.out rfl
    case t2=>rw[List.size_toArray];exact hi2 _ (idAt_len s 40)
    case t3=>exact all_oneCell_toArray (yQ _)
    ·refine bodyPost_ret (v:=.tuple #[.agg (row (idAt s 40)).toArray,.nilIface]) (qw (t2:=55) Tryz.results227 _ _ w.heap.size _ _ _ rfl rfl (World.rangeAt_setCells_same wr w.heap.size 0 _ ?_) Tryz.underlying89 rfl (hi2 _ (idAt_len s 40))) rfl ⟨zW (Nat.le_refl _) _ _ _ _ HB.out,fun _=>rfl,fun h=>absurd ⟨h40,hgd⟩ h⟩
     rw[zw,idAt_len];exact yJ H0.out rfl
 ·have hnq:(s.size:Int) ≠ 40:=by omega
  have H0:Hid ((w.alloc (.cells (row zeros).toArray 89)).heap[w.heap.size]? = some (.cells (row zeros).toArray 89 (0,0))):=heap_alloc_new w _
  have HB:Hid (Below w.heap.size w (w.alloc (.cells (row zeros).toArray 89))):=(Below.refl _ _).alloc (Nat.le_refl _) _
  go_enter Tryz.func227,Tryz.ntmps227
  go_wp2_with (refine wpList_store_mid rfl 89 _ _ rfl w.heap.size 0 (row zeros).toArray rfl rfl ?t1 ?t2 ?t3 ?_)
  case t1=>exact yJ H0.out rfl
  case t2=>exact hi2 _ rfl
  case t3=>exact all_oneCell_toArray (yQ _)
  ·refine bodyPost_ret (v:=.tuple #[.agg (row zeros).toArray,.iface 44 (.int .i64 12)]) (qw (t2:=55) Tryz.results227 _ _ w.heap.size _ _ _ rfl rfl (World.rangeAt_setCells_same _ w.heap.size 0 _ ?_) Tryz.underlying89 rfl (hi2 _ rfl)) rfl ⟨zW (Nat.le_refl _) _ _ _ _ HB.out,fun h=>absurd h.1 h40,fun _=>rfl⟩
   exact yJ H0.out rfl
end Go.Proofs.YtgliaiemkfopeaaGreatDoor.Hx
