import Derived.Test.YticgindfipobiaaGreatDoorMn18
import Derived.Test.YticgindfipobiaaGreatDoorMn09
set_option linter.unusedSimpArgs false
set_option linter.unusedVariables false
set_option maxRecDepth 20000
set_option maxHeartbeats 4000000
namespace Go.Proofs.YticgindfipobiaaGreatDoor
open Go.RowKit
theorem enter38 (v:Value) (w:World):(callFunc 20 #[v]).run Tryz.prog w=.ok (.enter 20 #[v]) w:=by kernel_rfl
def PostX (p:Per) (w:World) (e:Ending) (w':World):Prop:=Below w.heap.size w w'/\((okP p/\e=.returned (.tuple #[.string ⟨(qq p).toArray⟩,.bool true])) ∨ (¬ okP p/\e=.returned (.tuple #[.string ⟨#[]⟩,.bool false])))
set_option maxHeartbeats 2000000 in
theorem Y4 (p:Per) (w:World):Calls Tryz.prog 101 #[.agg (qK p)] w (PostX p w):=by
 obtain⟨nm,ml,tm,zn⟩:=p
 obtain⟨N,HNN⟩:=nn_ (⟨nm.toArray⟩:ByteArray)
 obtain⟨M,HMM⟩:=nn_ (⟨ml.toArray⟩:ByteArray)
 have HN:Hid (∀ w,Calls Tryz.prog 136 #[.string N] w fun e w'=>BIs (okT nm) e/\w'=w):=fun w=>by rw[HNN.out];exact Yy nm w
 have HM:Hid (∀ w,Calls Tryz.prog 136 #[.string M] w fun e w'=>BIs (okT ml) e/\w'=w):=fun w=>by rw[HMM.out];exact Yy ml w
 obtain⟨G,HG⟩:=nm_ w.heap.size
 obtain⟨w0,HW0⟩:=nm_ (w.alloc (.cells #[.string N,.string M,.int .i64 tm,.int .i64 zn] 119))
 have HB0:Hid (Below G w w0):=hid (by rw[<-HW0.out,<-HG.out];exact(Below.refl _ w).alloc (Nat.le_refl _) _)
 have hs0:G<w0.heap.size:=by rw[<-HW0.out,<-HG.out];simp
 have HX0:Hid (BoxP G N M tm zn w0):=hid (by rw[<-HW0.out,<-HG.out];exact⟨by simp,by simp,by simp,by simp⟩)
 have HBE:Hid (Below w.heap.size w w0):=hid (by rw[HG.out];exact HB0.out)
 obtain⟨c0,c1,c2,c3⟩:=HX0.out
 unfold qK
 simp only
 rw[<-HNN.out,<-HMM.out]
 go_enter Tryz.func101,Tryz.ntmps101
 go_wp2_with fail
 rw[HG.out,HW0.out]
 refine(HN.out w0).mono ?_
 rintro ev w0' ⟨hb,hw0⟩
 have hw0':=hw0.symm
 subst hw0'
 clear hw0
 rcases x8 hb with ⟨hy1,rfl⟩ | ⟨hn1,rfl⟩
 rotate_left
 ·have HOK:Hid (¬ okP ⟨nm,ml,tm,zn⟩):=fun h=>hn1 h.1
  clear hn1 hb
  go_wp2_with fail
  refine(HM.out w0).mono ?_
  rintro ev w0' ⟨hb,hw0⟩
  have hw0':=hw0.symm
  subst hw0'
  clear hw0
  rcases x8 hb with ⟨hy2,rfl⟩ | ⟨hn2,rfl⟩
  all_goals
   clear hb
   go_wp2
   go_ret2
   exact⟨HBE.out,.inr ⟨HOK.out,rfl⟩⟩
 have HY1:Hid (okT nm):=hy1
 clear hy1 hb
 go_wp2_with fail
 refine(HM.out w0).mono ?_
 rintro ev w0' ⟨hb,hw0⟩
 have hw0':=hw0.symm
 subst hw0'
 clear hw0
 rcases x8 hb with ⟨hy2,rfl⟩ | ⟨hn2,rfl⟩
 rotate_left
 ·have HOK:Hid (¬ okP ⟨nm,ml,tm,zn⟩):=fun h=>hn2 h.2.1
  clear hn2 hb
  go_wp2
  go_ret2
  exact⟨HBE.out,.inr ⟨HOK.out,rfl⟩⟩
 have HY2:Hid (okT ml):=hy2
 clear hy2 hb
 by_cases t1:tm<0
 ·have HOK:Hid (¬ okP ⟨nm,ml,tm,zn⟩):=fun h=>by have h2:=h.2.2.1.1;simp only at h2;omega
  go_wp2
  go_ret2
  exact⟨HBE.out,.inr ⟨HOK.out,rfl⟩⟩
 by_cases t2:(1099511627776:Int)<tm
 ·have HOK:Hid (¬ okP ⟨nm,ml,tm,zn⟩):=fun h=>by have h2:=h.2.2.1.2;simp only at h2;omega
  go_wp2
  go_ret2
  exact⟨HBE.out,.inr ⟨HOK.out,rfl⟩⟩
 by_cases t3:zn < -840
 ·have HOK:Hid (¬ okP ⟨nm,ml,tm,zn⟩):=fun h=>by have h2:=h.2.2.2.1;simp only at h2;omega
  go_wp2
  go_ret2
  exact⟨HBE.out,.inr ⟨HOK.out,rfl⟩⟩
 by_cases t4:(840:Int)<zn
 ·have HOK:Hid (¬ okP ⟨nm,ml,tm,zn⟩):=fun h=>by have h2:=h.2.2.2.2;simp only at h2;omega
  go_wp2
  go_ret2
  exact⟨HBE.out,.inr ⟨HOK.out,rfl⟩⟩
 have HOK:Hid (okP ⟨nm,ml,tm,zn⟩):=⟨HY1.out,HY2.out,⟨(by simp only;omega),(by simp only;omega)⟩,(by simp only;omega),(by simp only;omega)⟩
 obtain⟨tn,rfl⟩:∃ tn:Nat,tm=(tn:Int):=⟨tm.toNat,by omega⟩
 have htn:tn<=1099511627776:=by omega
 obtain⟨zz,HZZ⟩:=nm_ zn.natAbs
 have hzz:zz<=840:=by have:=HZZ.out;omega
 obtain⟨hh,HHH⟩:=nm_ (zz / 60)
 obtain⟨mm,HMI⟩:=nm_ (zz % 60)
 have hq1:(zz:Int) / 60=(hh:Int):=by have:=HHH.out;omega
 have hq2:(zz:Int) % 60=(mm:Int):=by have:=HMI.out;omega
 have hhb:hh<=14:=by have:=HHH.out;omega
 have hmb:mm<=59:=by have:=HMI.out;omega
 obtain⟨x1,HX1⟩:=nn_ (UInt8.ofNat (48+hh / 10))
 obtain⟨x2,HX2⟩:=nn_ (UInt8.ofNat (48+hh % 10))
 obtain⟨x3,HX3⟩:=nn_ (UInt8.ofNat (48+mm / 10))
 obtain⟨x4,HX4⟩:=nn_ (UInt8.ofNat (48+mm % 10))
 have hx1:(48:Int)+(hh:Int) / 10=(x1.toNat:Int):=by rw[HX1.out,UInt8.toNat_ofNat'];omega
 have hx2:(48:Int)+(hh:Int) % 10=(x2.toNat:Int):=by rw[HX2.out,UInt8.toNat_ofNat'];omega
 have hx3:(48:Int)+(mm:Int) / 10=(x3.toNat:Int):=by rw[HX3.out,UInt8.toNat_ofNat'];omega
 have hx4:(48:Int)+(mm:Int) % 10=(x4.toNat:Int):=by rw[HX4.out,UInt8.toNat_ofNat'];omega
 obtain⟨Z,HZD⟩:=nm_ (⟨#[x1,x2,x3,x4]⟩:ByteArray)
 have hcv:Sem.run Tryz.prog (convert 26 9 (.slice (some ⟨w0.heap.size,0,none⟩) 4 4)) (w0.alloc (.cells #[.int .u8 (x1.toNat:Int),.int .u8 (x2.toNat:Int),.int .u8 (x3.toNat:Int),.int .u8 (x4.toNat:Int)] 5))=.ok (.string Z) (w0.alloc (.cells #[.int .u8 (x1.toNat:Int),.int .u8 (x2.toNat:Int),.int .u8 (x3.toNat:Int),.int .u8 (x4.toNat:Int)] 5)):=by
  rw[<-HZD.out]
  refine run_convert_bytes_back _ 26 9 5 ⟨w0.heap.size,0,none⟩ 4 [x1,x2,x3,x4] Tryz.underlying26 Tryz.underlying5 Tryz.underlying9 ?_
  intro j hj
  have hj4:j<4:=by simpa using hj
  match j,hj4 with
  | 0,_=>simp[Addr.add]
  | 1,_=>simp[Addr.add]
  | 2,_=>simp[Addr.add]
  | 3,_=>simp[Addr.add]
 have hN60:N.size<=60:=by have:=HY1.out.1;rw[HNN.out];simpa [ByteArray.size] using this
 have hM60:M.size<=60:=by have:=HY2.out.1;rw[HMM.out];simpa [ByteArray.size] using this
 obtain⟨D,HDD⟩:=nn_ (⟨(Lib.decDigits tn).toArray⟩:ByteArray)
 have hD:D.size<=13:=by rw[HDD.out];have:=Zx tn htn;simpa [ByteArray.size] using this
 have HF:Hid (∀ W,Calls Tryz.prog 20 #[.int .i64 tn] W fun e w'=>e=.returned (.string D)/\Below W.heap.size W w'):=fun W=>by rw[HDD.out];exact decimal_big tn htn W
 obtain⟨sg,HSG⟩:=nn_ (if zn<0 then ⟨#[45]⟩ else ⟨#[43]⟩:ByteArray)
 have hsg1:sg.size=1:=by rw[HSG.out];split <;> rfl
 have hZ4:Z.size=4:=by rw[<-HZD.out];rfl
 have l1:(⟨#[32,60]⟩:ByteArray).size=2:=rfl
 have l2:(⟨#[62,32]⟩:ByteArray).size=2:=rfl
 have l3:(⟨#[32]⟩:ByteArray).size=1:=rfl
 obtain⟨A1,HA1⟩:∃ A,N ++ ⟨#[32,60]⟩=A:=⟨_,rfl⟩
 have s1:A1.size=N.size+2:=by rw[<-HA1,ByteArray.size_append,l1]
 obtain⟨A2,HA2⟩:∃ A,A1++M=A:=⟨_,rfl⟩
 have s2:A2.size=A1.size+M.size:=by rw[<-HA2,ByteArray.size_append]
 obtain⟨A3,HA3⟩:∃ A,A2 ++ ⟨#[62,32]⟩=A:=⟨_,rfl⟩
 have s3:A3.size=A2.size+2:=by rw[<-HA3,ByteArray.size_append,l2]
 obtain⟨A4,HA4⟩:∃ A,A3++D=A:=⟨_,rfl⟩
 have s4:A4.size=A3.size+D.size:=by rw[<-HA4,ByteArray.size_append]
 obtain⟨A5,HA5⟩:∃ A,A4 ++ ⟨#[32]⟩=A:=⟨_,rfl⟩
 have s5:A5.size=A4.size+1:=by rw[<-HA5,ByteArray.size_append,l3]
 obtain⟨A6,HA6⟩:∃ A,A5++sg=A:=⟨_,rfl⟩
 have s6:A6.size=A5.size+sg.size:=by rw[<-HA6,ByteArray.size_append]
 obtain⟨A7,HA7⟩:∃ A,A6++Z=A:=⟨_,rfl⟩
 have g1:¬ 9223372036854775807<N.size+2:=by omega
 have g2:¬ 9223372036854775807<A1.size+M.size:=by omega
 have g3:¬ 9223372036854775807<A2.size+2:=by omega
 have g4:¬ 9223372036854775807<A3.size+D.size:=by omega
 have g5:¬ 9223372036854775807<A4.size+1:=by omega
 have g5':¬ 9223372036854775807<=A4.size:=by omega
 have g6:¬ 9223372036854775807<A5.size+1:=by omega
 have g6':¬ 9223372036854775807<=A5.size:=by omega
 have g7:¬ 9223372036854775807<A6.size+4:=by omega
 have HE:Hid (A7=⟨(qq ⟨nm,ml,tn,zn⟩).toArray⟩):=hid (by
  have hz:Z=⟨(two (zn.natAbs / 60)++two (zn.natAbs % 60)).toArray⟩:=by
   rw[<-HZD.out,HZZ.out,HHH.out,HMI.out,HX1.out,HX2.out,HX3.out,HX4.out]
   rfl
  have hsg:sg=⟨[if zn<0 then 45 else 43].toArray⟩:=by rw[HSG.out];split <;> rfl
  rw[<-HA7,<-HA6,<-HA5,<-HA4,<-HA3,<-HA2,<-HA1,hz,hsg,HDD.out,HNN.out,HMM.out,show (⟨#[32,60]⟩:ByteArray)=⟨[32,60].toArray⟩ from rfl,show (⟨#[62,32]⟩:ByteArray)=⟨[62,32].toArray⟩ from rfl,show (⟨#[32]⟩:ByteArray)=⟨[32].toArray⟩ from rfl]
  simp only[Yu]
  simp[qq,vQ])
 clear s1 s2 s3 s4 s5 s6
 obtain⟨wz,HWZ⟩:=nm_ (w0.alloc (.cells #[.int .u8 (x1.toNat:Int),.int .u8 (x2.toNat:Int),.int .u8 (x3.toNat:Int),.int .u8 (x4.toNat:Int)] 5))
 have hbz:Below w0.heap.size w0 wz:=by rw[<-HWZ.out];exact(Below.refl _ _).alloc (Nat.le_refl _) _
 have hsz:G<wz.heap.size:=Nat.lt_of_lt_of_le hs0 hbz.size
 have HBz:Hid (Below G w wz):=HB0.out.trans (hbz.mono (Nat.le_of_lt hs0))
 have HXz:Hid (BoxP G N M tn zn wz):=HX0.out.below hs0 hbz
 clear hbz
 have PE:Hid (∀ W,Below G w W->PostX ⟨nm,ml,tn,zn⟩ w (.returned (.tuple #[.string A7,.bool true])) W):=fun W hW=>⟨by rw[HG.out];exact hW,.inl ⟨HOK.out,by rw[HE.out]⟩⟩
 by_cases hz:zn<0
 ·have hng : -zn=(zz:Int):=by have:=HZZ.out;omega
  have hsg:sg=⟨#[45]⟩:=by rw[HSG.out,if_pos hz]
  clear HSG HE
  subst hsg
  go_wp2_with fail
  rw[HWZ.out]
  clear hcv c0 c1 c2 c3
  refine wp_region_held_drew (S:=BoxP G N M tn zn) (by kernel_rfl) (by exact HXz.out) (fun hHeld=>?_)
  have hsd:G<wz.drew.heap.size:=hsz
  have HBd:Hid (Below G w wz.drew):=hid ⟨HBz.out.os,HBz.out.tape,HBz.out.output,HBz.out.size,HBz.out.block⟩
  generalize wz.drew=wd at hHeld hsd HBd ⊢
  refine tZ (i:=0) hHeld ?_
  try simp only[Act.put,sL]
  refine tZ (i:=1) hHeld ?_
  try simp only[Act.put,sL]
  refine tZ (i:=2) hHeld ?_
  try simp only[Act.put,sL]
  refine tZ (i:=3) hHeld ?_
  try simp only[Act.put,sL]
  refine tZ (i:=4) hHeld ?_
  try simp only[Act.put,sL]
  refine tZ (i:=5) hHeld ?_
  try simp only[Act.put,sL]
  refine tZ (i:=6) hHeld ?_
  try simp only[Act.put,sL]
  refine tZ (i:=7) hHeld ?_
  try simp only[Act.put,sL]
  refine tZ (i:=8) hHeld ?_
  try simp only[Act.put,sL]
  refine tZ (i:=12) hHeld ?_
  try simp only[Act.put,sL]
  refine tZ (i:=14) hHeld ?_
  try simp only[Act.put,sL]
  refine wpAnyH_ready (rs:=[9]) (by kernel_rfl) (by simp) ?_
  refine zu rfl (fun KK hKK=>?_) AllReadyH.nil
  refine zk (by rfl) 20 [.tmp 79] _ [.int .i64 tn] _ (by rfl) (by rfl) (enter38 _) (HF.out _) ?_
  rintro e w1 ⟨rfl,hb1⟩
  refine⟨_,rfl,?_⟩
  have HB1:Hid (Below G w w1):=HBd.out.trans (hb1.mono (Nat.le_of_lt hsd))
  refine hKK.out _ _ (hHeld.below hsd hb1) (fun hHeld=>?_)
  clear hKK KK hb1
  try simp only[Act.put,sL]
  refine tZ (i:=10) hHeld ?_
  try simp only[Act.put,sL]
  refine tZ (i:=11) hHeld ?_
  try simp only[Act.put,sL]
  refine tZ (i:=13) hHeld ?_
  try simp only[Act.put,sL]
  refine tZ (i:=15) hHeld ?_
  try simp only[Act.put,sL]
  refine tZ (i:=16) hHeld ?_
  try simp only[Act.put,sL]
  refine tZ (i:=17) hHeld ?_
  try simp only[Act.put,sL]
  refine wpAnyH_done (by kernel_rfl) ?_ _
  go_wp2
  go_ret2
  exact PE.out _ HB1.out
 ·have hzn:zn=(zz:Int):=by have:=HZZ.out;omega
  have hsg:sg=⟨#[43]⟩:=by rw[HSG.out,if_neg hz]
  clear HSG HE HZZ
  subst hsg
  subst hzn
  have hz0:¬ (zz:Int)<0:=hz
  go_wp2_with fail
  rw[HWZ.out]
  clear hcv c0 c1 c2 c3
  refine wp_region_held_drew (S:=BoxP G N M tn (zz:Int)) (by kernel_rfl) (by exact HXz.out) (fun hHeld=>?_)
  have hsd:G<wz.drew.heap.size:=hsz
  have HBd:Hid (Below G w wz.drew):=hid ⟨HBz.out.os,HBz.out.tape,HBz.out.output,HBz.out.size,HBz.out.block⟩
  generalize wz.drew=wd at hHeld hsd HBd ⊢
  refine tZ (i:=0) hHeld ?_
  try simp only[Act.put,sL]
  refine tZ (i:=1) hHeld ?_
  try simp only[Act.put,sL]
  refine tZ (i:=2) hHeld ?_
  try simp only[Act.put,sL]
  refine tZ (i:=3) hHeld ?_
  try simp only[Act.put,sL]
  refine tZ (i:=4) hHeld ?_
  try simp only[Act.put,sL]
  refine tZ (i:=5) hHeld ?_
  try simp only[Act.put,sL]
  refine tZ (i:=6) hHeld ?_
  try simp only[Act.put,sL]
  refine tZ (i:=7) hHeld ?_
  try simp only[Act.put,sL]
  refine tZ (i:=8) hHeld ?_
  try simp only[Act.put,sL]
  refine tZ (i:=12) hHeld ?_
  try simp only[Act.put,sL]
  refine tZ (i:=14) hHeld ?_
  try simp only[Act.put,sL]
  refine wpAnyH_ready (rs:=[9]) (by kernel_rfl) (by simp) ?_
  refine zu rfl (fun KK hKK=>?_) AllReadyH.nil
  refine zk (by rfl) 20 [.tmp 79] _ [.int .i64 tn] _ (by rfl) (by rfl) (enter38 _) (HF.out _) ?_
  rintro e w1 ⟨rfl,hb1⟩
  refine⟨_,rfl,?_⟩
  have HB1:Hid (Below G w w1):=HBd.out.trans (hb1.mono (Nat.le_of_lt hsd))
  refine hKK.out _ _ (hHeld.below hsd hb1) (fun hHeld=>?_)
  clear hKK KK hb1
  try simp only[Act.put,sL]
  refine tZ (i:=10) hHeld ?_
  try simp only[Act.put,sL]
  refine tZ (i:=11) hHeld ?_
  try simp only[Act.put,sL]
  refine tZ (i:=13) hHeld ?_
  try simp only[Act.put,sL]
  refine tZ (i:=15) hHeld ?_
  try simp only[Act.put,sL]
  refine tZ (i:=16) hHeld ?_
  try simp only[Act.put,sL]
  refine tZ (i:=17) hHeld ?_
  try simp only[Act.put,sL]
  refine wpAnyH_done (by kernel_rfl) ?_ _
  go_wp2
  go_ret2
  exact PE.out _ HB1.out
end Go.Proofs.YticgindfipobiaaGreatDoor
