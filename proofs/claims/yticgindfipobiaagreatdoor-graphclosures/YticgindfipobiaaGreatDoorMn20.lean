import Derived.Test.YticgindfipobiaaGreatDoorMn19
import Derived.Test.YticgindfipobiaaGreatDoorMn13
import Derived.Test.YticgindfipobiaaGreatDoorMn16
import Derived.Test.YticgindfipobiaaGreatDoorMn02
import Derived.ChangeKeysEq
import Derived.Laws.StructEq
import Derived.Test.YticgindfipobiaaGreatDoorMn18
import Derived.BigQuiet
set_option linter.unusedSimpArgs false
set_option linter.unusedVariables false
set_option maxRecDepth 20000
set_option maxHeartbeats 4000000
namespace Go.Proofs.YticgindfipobiaaGreatDoor
open Go.RowKit
theorem enter60 (v:Value) (w:World):(callFunc 103 #[v]).run Tryz.prog w=.ok (.enter 103 #[v]) w:=by kernel_rfl
theorem enter37 (v:Value) (w:World):(callFunc 19 #[v]).run Tryz.prog w=.ok (.enter 19 #[v]) w:=by kernel_rfl
theorem Zw (l:List UInt8):(⟨l.toArray⟩:ByteArray).size=l.length:=by simp[ByteArray.size]
def PostU (t:Tg) (w:World) (e:Ending) (w':World):Prop:=Below w.heap.size w w'/\
 ((okG t/\∃ g cap:Nat,e=.returned (.tuple #[.slice (some ⟨g,0,none⟩) (x9 t).length cap,.int .i64 0])/\w.heap.size<=g/\Mk w' g cap (q8 (x9 t))) ∨ (¬ okG t/\e=.returned (.tuple #[.slice none 0 0,.int .i64 23])))
theorem writeTagR_any (t:Tg) (hid20:t.id.length=20) (hidB:∀ n ∈ t.id,0<=n/\n<256) (w:World) :
  Calls Tryz.prog 72 #[.agg (tgV t).toArray] w (PostU t w):=by
 obtain⟨A,HA⟩:=nm_ ((tgV t).toArray)
 have hsz:A.size=27:=by rw[<-HA.out,List.size_toArray];exact y9 t hid20
 obtain⟨G,HG⟩:=nm_ w.heap.size
 obtain⟨w0,HW0⟩:=nm_ (w.alloc (.cells A 125))
 have HX0:Hid (BoxG G t w0):=hid (by rw[<-HW0.out,<-HG.out,<-HA.out];exact box_alloc t hid20 w 125)
 have HB0:Hid (Below G w w0):=hid (by rw[<-HW0.out,<-HG.out];exact(Below.refl _ w).alloc (Nat.le_refl _) _)
 have hs0:G<w0.heap.size:=by rw[<-HW0.out,<-HG.out];simp
 obtain⟨R,HR⟩:=nm_ (row .u8 t.id)
 obtain⟨Kn,HK⟩:=nm_ (kN t.kind)
 obtain⟨Hxs,HHX⟩:=nm_ (strOfNums (Hx.hexOf t.id))
 obtain⟨kd,HKD⟩:=nm_ t.kind
 obtain⟨N,HNN⟩:=nm_ (⟨t.name.toArray⟩:ByteArray)
 obtain⟨M,HMM⟩:=nm_ (⟨t.msg.toArray⟩:ByteArray)
 obtain⟨P1,HP1⟩:=nm_ (⟨t.per.name.toArray⟩:ByteArray)
 obtain⟨P2,HP2⟩:=nm_ (⟨t.per.mail.toArray⟩:ByteArray)
 obtain⟨tm,HTM⟩:=nm_ t.per.time
 obtain⟨zn,HZN⟩:=nm_ t.per.zone
 obtain⟨Pt,HPT⟩:=nm_ (⟨(qq t.per).toArray⟩:ByteArray)
 obtain⟨TB,HTB⟩:=nm_ (x9 t)
 obtain⟨ms,HMSB⟩:=nm_ (uz t.msg)
 have CT:Hid (∀ W,Calls Tryz.prog 104 #[.string N] W fun e w'=>BIs (okN t.name) e/\w'=W):=fun W=>by rw[<-HNN.out];exact isTagR_any t.name W
 have CP:Hid (∀ W,Calls Tryz.prog 101 #[.agg #[.string P1,.string P2,.int .i64 tm,.int .i64 zn]] W (PostX t.per W)):=fun W=>by
  rw[<-HP1.out,<-HP2.out,<-HTM.out,<-HZN.out];exact Y4 t.per W
 have CM:Hid (∀ W,Calls Tryz.prog 102 #[.string M] W fun e w'=>e=.returned (.bool ms)/\w'=W):=fun W=>by rw[<-HMM.out,<-HMSB.out];exact message_any t.msg W
 have CK:Hid (∀ W,Calls Tryz.prog 19 #[.int .i64 kd] W fun e w'=>e=.returned (.string Kn)/\w'=W):=fun W=>by rw[<-HKD.out,<-HK.out];exact name_any t.kind W
 have CH:Hid (∀ W,Calls Tryz.prog 103 #[.agg R.toArray] W fun e w'=>e=.returned (.string Hxs)/\Below W.heap.size W w'):=fun W=>by
  rw[<-HR.out,<-HHX.out];exact Hx.hex_ref t.id W hid20 hidB
 have HBX:Hid (∀ W,Below w0.heap.size w0 W->BoxL G R kd N P1 P2 tm zn M W):=fun W hW=>by
  have hx:=HX0.out.below hs0 hW
  rw[<-HR.out,<-HKD.out,<-HNN.out,<-HP1.out,<-HP2.out,<-HTM.out,<-HZN.out,<-HMM.out]
  exact⟨hx.id,hx.c20,hx.c21,hx.c22,hx.c23,hx.c24,hx.c25,hx.c26⟩
 have HBE:Hid (∀ W,Below w0.heap.size w0 W->Below w.heap.size w W):=fun W hW=>by rw[HG.out];exact HB0.out.trans (hW.mono (Nat.le_of_lt hs0))
 have hA21:A[21]'(by omega)=.string N:=by
  have hr:=cell_of_row w0 G 21 A 125 (0,0) (by rw[<-HW0.out,<-HG.out];exact heap_alloc_new w _)
  rw[(HBX.out w0 (Below.refl _ _)).c21,Array.getElem?_eq_getElem (by omega)] at hr
  exact(Option.some.inj hr).symm
 have hi31:(Tryz.prog.info? 31).map (·.size)=some R.length:=by rw[<-HR.out,zq,hid20];kernel_rfl
 have HI31:Hid ((Tryz.prog.info? 31).map (·.size)=some R.length):=hi31
 have HHL:Hid (Hxs.size=40):=hid (by rw[<-HHX.out,strOfNums_size,Hx.hexOf_len,hid20])
 have HID:Hid (t.id.length=20):=hid20
 clear hi31 hid20 hidB
 rw[HA.out]
 go_enter Tryz.func72,Tryz.ntmps72
 go_wp2_with fail
 rw[HG.out,HW0.out]
 clear hA21 hsz
 refine(CT.out w0).mono ?_
 rintro ev w0' ⟨hb,hw0⟩
 have hw0':=hw0.symm
 subst hw0'
 clear hw0
 obtain⟨b1,rfl,hb1⟩:=hb
 have HB1:Hid (b1=true ↔ okN t.name):=hb1
 clear hb1
 obtain⟨cid,c20,c21,c22,c23,c24,c25,c26⟩:=HBX.out w0 (Below.refl _ _)
 go_wp2_with fail
 refine(CP.out w0).mono ?_
 rintro ev w1 ⟨hb1,hor⟩
 have HBW:Hid (Below w0.heap.size w0 w1):=hb1
 have HOR:Hid ((okP t.per/\ev=.returned (.tuple #[.string Pt,.bool true])) ∨ (¬ okP t.per/\ev=.returned (.tuple #[.string ⟨#[]⟩,.bool false]))):=hid (by rw[<-HPT.out];exact hor)
 clear hor hb1 cid c20 c21 c22 c23 c24 c25 c26
 obtain⟨cid,c20,c21,c22,c23,c24,c25,c26⟩:=HBX.out w1 HBW.out
 have hs1:G<w1.heap.size:=Nat.lt_of_lt_of_le hs0 HBW.out.size
 rcases HOR.out with ⟨hp,rfl⟩ | ⟨hp,rfl⟩
 rotate_left
 ·have HNO:Hid (¬ okG t):=fun h=>hp h.2.2.1
  clear HOR hp
  go_wp2_with fail
  refine(CM.out w1).mono ?_
  rintro ev w1' ⟨rfl,hw1⟩
  have hw1':=hw1.symm
  subst hw1'
  clear hw1
  go_wp2_with fail
  refine(CK.out w1).mono ?_
  rintro ev w1' ⟨rfl,hw1⟩
  have hw1':=hw1.symm
  subst hw1'
  clear hw1
  cases hk:Kn.toList.isEmpty
  all_goals
   cases b1
   all_goals
    go_wp2
    go_ret2
    exact⟨HBE.out _ HBW.out,.inr ⟨HNO.out,rfl⟩⟩
 have HPO:Hid (okP t.per):=hp
 clear HOR hp
 go_wp2_with fail
 refine(CM.out w1).mono ?_
 rintro ev w1' ⟨rfl,hw1⟩
 have hw1':=hw1.symm
 subst hw1'
 clear hw1
 go_wp2_with fail
 refine(CK.out w1).mono ?_
 rintro ev w1' ⟨rfl,hw1⟩
 have hw1':=hw1.symm
 subst hw1'
 clear hw1
 by_cases hk:Kn.toList.isEmpty=true
 ·have HNO:Hid (¬ okG t):=fun h=>h.1 (by rw[HK.out];exact hk)
  go_wp2
  go_ret2
  exact⟨HBE.out _ HBW.out,.inr ⟨HNO.out,rfl⟩⟩
 have hk2:Kn.toList.isEmpty=false:=by simpa using hk
 cases b1 with
 | false =>
  have HNO:Hid (¬ okG t):=fun h=>by have:=HB1.out.2 h.2.1;cases this
  go_wp2
  go_ret2
  exact⟨HBE.out _ HBW.out,.inr ⟨HNO.out,rfl⟩⟩
 | true =>
 cases ms with
 | false =>
  have HNO:Hid (¬ okG t):=fun h=>by have h2:=h.2.2.2;rw[HMSB.out] at h2;cases h2
  go_wp2
  go_ret2
  exact⟨HBE.out _ HBW.out,.inr ⟨HNO.out,rfl⟩⟩
 | true =>
 have HOK:Hid (okG t):=⟨(by rw[HK.out];exact hk),HB1.out.1 rfl,HPO.out,HMSB.out⟩
 have HN60:Hid (N.size<=60):=hid (by rw[<-HNN.out,Zw];exact HOK.out.2.1.2.1)
 have HM2k:Hid (M.size<=2000):=hid (by rw[<-HMM.out,Zw];have:=HOK.out.2.2.2;unfold uz at this;rw[Bool.and_eq_true] at this;exact of_decide_eq_true this.1)
 have HPL:Hid (Pt.size<=1000):=hid (by rw[<-HPT.out,Zw];exact j5 t.per HOK.out.2.2.1)
 have HKL:Hid (Kn.size<=10):=hid (by rw[<-HK.out];exact kN_len10 t.kind)
 have lw1:(⟨#[111,98,106,101,99,116,32]⟩:ByteArray).size=7:=rfl
 have lw2:(⟨#[10,116,121,112,101,32]⟩:ByteArray).size=6:=rfl
 have lw3:(⟨#[10,116,97,103,32]⟩:ByteArray).size=5:=rfl
 have lw4:(⟨#[10,116,97,103,103,101,114,32]⟩:ByteArray).size=8:=rfl
 have lw5:(⟨#[10,10]⟩:ByteArray).size=2:=rfl
 obtain⟨A1,HA1⟩:∃ A,(⟨#[111,98,106,101,99,116,32]⟩:ByteArray)++Hxs=A:=⟨_,rfl⟩
 have SA1:Hid (A1.size=7+Hxs.size):=hid (by rw[<-HA1,ByteArray.size_append,lw1])
 obtain⟨A2,HA2⟩:∃ A,(A1:ByteArray) ++ ⟨#[10,116,121,112,101,32]⟩=A:=⟨_,rfl⟩
 have SA2:Hid (A2.size=A1.size+6):=hid (by rw[<-HA2,ByteArray.size_append,lw2])
 obtain⟨A3,HA3⟩:∃ A,(A2:ByteArray)++Kn=A:=⟨_,rfl⟩
 have SA3:Hid (A3.size=A2.size+Kn.size):=hid (by rw[<-HA3,ByteArray.size_append])
 obtain⟨A4,HA4⟩:∃ A,(A3:ByteArray) ++ ⟨#[10,116,97,103,32]⟩=A:=⟨_,rfl⟩
 have SA4:Hid (A4.size=A3.size+5):=hid (by rw[<-HA4,ByteArray.size_append,lw3])
 obtain⟨A5,HA5⟩:∃ A,(A4:ByteArray)++N=A:=⟨_,rfl⟩
 have SA5:Hid (A5.size=A4.size+N.size):=hid (by rw[<-HA5,ByteArray.size_append])
 obtain⟨A6,HA6⟩:∃ A,(A5:ByteArray) ++ ⟨#[10,116,97,103,103,101,114,32]⟩=A:=⟨_,rfl⟩
 have SA6:Hid (A6.size=A5.size+8):=hid (by rw[<-HA6,ByteArray.size_append,lw4])
 obtain⟨A7,HA7⟩:∃ A,(A6:ByteArray)++Pt=A:=⟨_,rfl⟩
 have SA7:Hid (A7.size=A6.size+Pt.size):=hid (by rw[<-HA7,ByteArray.size_append])
 obtain⟨A8,HA8⟩:∃ A,(A7:ByteArray) ++ ⟨#[10,10]⟩=A:=⟨_,rfl⟩
 have SA8:Hid (A8.size=A7.size+2):=hid (by rw[<-HA8,ByteArray.size_append,lw5])
 obtain⟨A9,HA9⟩:∃ A,(A8:ByteArray)++M=A:=⟨_,rfl⟩
 have SA9:Hid (A9.size=A8.size+M.size):=hid (by rw[<-HA9,ByteArray.size_append])
 have g0:¬ 9223372036854775807<7+Hxs.size:=by have q1:=HHL.out;have q2:=HKL.out;have q3:=HN60.out;have q4:=HPL.out;have q5:=HM2k.out;have r0:=SA1.out;omega
 have g1:¬ 9223372036854775807<A1.size+6:=by have q1:=HHL.out;have q2:=HKL.out;have q3:=HN60.out;have q4:=HPL.out;have q5:=HM2k.out;have r0:=SA1.out;have r1:=SA2.out;omega
 have g2:¬ 9223372036854775807<A2.size+Kn.size:=by have q1:=HHL.out;have q2:=HKL.out;have q3:=HN60.out;have q4:=HPL.out;have q5:=HM2k.out;have r0:=SA1.out;have r1:=SA2.out;have r2:=SA3.out;omega
 have g3:¬ 9223372036854775807<A3.size+5:=by have q1:=HHL.out;have q2:=HKL.out;have q3:=HN60.out;have q4:=HPL.out;have q5:=HM2k.out;have r0:=SA1.out;have r1:=SA2.out;have r2:=SA3.out;have r3:=SA4.out;omega
 have g4:¬ 9223372036854775807<A4.size+N.size:=by have q1:=HHL.out;have q2:=HKL.out;have q3:=HN60.out;have q4:=HPL.out;have q5:=HM2k.out;have r0:=SA1.out;have r1:=SA2.out;have r2:=SA3.out;have r3:=SA4.out;have r4:=SA5.out;omega
 have g5:¬ 9223372036854775807<A5.size+8:=by have q1:=HHL.out;have q2:=HKL.out;have q3:=HN60.out;have q4:=HPL.out;have q5:=HM2k.out;have r0:=SA1.out;have r1:=SA2.out;have r2:=SA3.out;have r3:=SA4.out;have r4:=SA5.out;have r5:=SA6.out;omega
 have g6:¬ 9223372036854775807<A6.size+Pt.size:=by have q1:=HHL.out;have q2:=HKL.out;have q3:=HN60.out;have q4:=HPL.out;have q5:=HM2k.out;have r0:=SA1.out;have r1:=SA2.out;have r2:=SA3.out;have r3:=SA4.out;have r4:=SA5.out;have r5:=SA6.out;have r6:=SA7.out;omega
 have g7:¬ 9223372036854775807<A7.size+2:=by have q1:=HHL.out;have q2:=HKL.out;have q3:=HN60.out;have q4:=HPL.out;have q5:=HM2k.out;have r0:=SA1.out;have r1:=SA2.out;have r2:=SA3.out;have r3:=SA4.out;have r4:=SA5.out;have r5:=SA6.out;have r6:=SA7.out;have r7:=SA8.out;omega
 have g8:¬ 9223372036854775807<A8.size+M.size:=by have q1:=HHL.out;have q2:=HKL.out;have q3:=HN60.out;have q4:=HPL.out;have q5:=HM2k.out;have r0:=SA1.out;have r1:=SA2.out;have r2:=SA3.out;have r3:=SA4.out;have r4:=SA5.out;have r5:=SA6.out;have r6:=SA7.out;have r7:=SA8.out;have r8:=SA9.out;omega
 have HE:Hid (A9=⟨TB.toArray⟩):=hid (by
  rw[<-HTB.out,<-HA9,<-HA8,<-HA7,<-HA6,<-HA5,<-HA4,<-HA3,<-HA2,<-HA1,<-HHX.out,<-HPT.out,<-HNN.out,<-HMM.out,<-HK.out]
  apply ByteArray.ext
  apply Array.toList_inj.1
  simp[x9,ln2,xw,yQ,yu,xk,qk,strOfNums])
 have PE:Hid (∀ W gq cq,Below w0.heap.size w0 W->w0.heap.size<=gq->Mk W gq cq (q8 TB)->PostU t w (.returned (.tuple #[.slice (some ⟨gq,0,none⟩) TB.length cq,.int .i64 0])) W):=fun W gq cq a b c=>by
  refine⟨HBE.out W a,.inl ⟨HOK.out,gq,cq,?_,Nat.le_trans (HBE.out w0 (Below.refl _ _)).size b,?_⟩⟩
  ·rw[HTB.out]
  ·rw[HTB.out];exact c
 clear cid c20 c21 c22 c23 c24 c25 c26
 have HXd:Hid (BoxL G R kd N P1 P2 tm zn M w1.drew):=hid (by
  have h:=HBX.out w1 HBW.out
  exact⟨h.id,h.c20,h.c21,h.c22,h.c23,h.c24,h.c25,h.c26⟩)
 go_wp2_with fail
 refine wp_region_held_drew (S:=BoxL G R kd N P1 P2 tm zn M) (by kernel_rfl) (by exact HXd.out) (fun hHeld=>?_)
 have hsd:G<w1.drew.heap.size:=hs1
 have HBd:Hid (Below w0.heap.size w0 w1.drew):=hid ⟨HBW.out.os,HBW.out.tape,HBW.out.output,HBW.out.size,HBW.out.block⟩
 clear HXd
 generalize w1.drew=wd at hHeld hsd HBd ⊢
 refine tZ (i:=0) hHeld ?_
 try simp only[Act.put,sL]
 refine tW (i:=1) (v:=.agg R.toArray) hHeld rfl (yieldsIf_load_mid (by rfl) 31 _ rfl G 0 (by rfl) R _ (fun w' h=>h.id) Tryz.underlying31 rfl HI31.out) ?_
 try simp only[Act.put,sL]
 refine tZ (i:=5) hHeld ?_
 try simp only[Act.put,sL]
 refine tZ (i:=6) hHeld ?_
 try simp only[Act.put,sL]
 refine tZ (i:=10) hHeld ?_
 try simp only[Act.put,sL]
 refine tZ (i:=11) hHeld ?_
 try simp only[Act.put,sL]
 refine tZ (i:=14) hHeld ?_
 try simp only[Act.put,sL]
 refine tZ (i:=17) hHeld ?_
 try simp only[Act.put,sL]
 refine tZ (i:=18) hHeld ?_
 try simp only[Act.put,sL]
 refine wpAnyH_ready (rs:=[2]) (by kernel_rfl) (by simp) ?_
 refine zu rfl (fun KK hKK=>?_) AllReadyH.nil
 refine zk (by rfl) 103 [.tmp 38] _ [.agg R.toArray] _ (by rfl) (by rfl) (enter60 _) (CH.out _) ?_
 rintro e w2 ⟨rfl,hb2⟩
 refine⟨_,rfl,?_⟩
 have HB2:Hid (Below w0.heap.size w0 w2):=HBd.out.trans (hb2.mono HBd.out.size)
 refine hKK.out _ _ (hHeld.below hsd hb2) (fun hHeld=>?_)
 clear hKK KK hb2
 try simp only[Act.put,sL]
 refine tZ (i:=3) hHeld ?_
 try simp only[Act.put,sL]
 refine tZ (i:=4) hHeld ?_
 try simp only[Act.put,sL]
 refine wpAnyH_ready (rs:=[7]) (by kernel_rfl) (by simp) ?_
 refine zu rfl (fun KK hKK=>?_) AllReadyH.nil
 refine zk (by rfl) 19 [.tmp 43] _ [.int .i64 kd] _ (by rfl) (by rfl) (enter37 _) (CK.out _) ?_
 rintro e w2' ⟨rfl,hw2⟩
 refine⟨_,rfl,?_⟩
 have hw2':=hw2.symm
 subst hw2'
 refine hKK.out _ _ hHeld (fun hHeld=>?_)
 clear hKK KK hw2
 try simp only[Act.put,sL]
 refine tZ (i:=8) hHeld ?_
 try simp only[Act.put,sL]
 refine tZ (i:=9) hHeld ?_
 try simp only[Act.put,sL]
 refine tZ (i:=12) hHeld ?_
 try simp only[Act.put,sL]
 refine tZ (i:=13) hHeld ?_
 try simp only[Act.put,sL]
 refine tZ (i:=15) hHeld ?_
 try simp only[Act.put,sL]
 refine tZ (i:=16) hHeld ?_
 try simp only[Act.put,sL]
 refine tZ (i:=19) hHeld ?_
 try simp only[Act.put,sL]
 refine tZ (i:=20) hHeld ?_
 try simp only[Act.put,sL]
 refine wpAnyH_done (by kernel_rfl) ?_ _
 obtain⟨c2,w3,hr3,hm3,hb3,hs3⟩:=V2 TB w2
 rw[<-HE.out] at hr3
 have HM3:Hid _:=hm3
 have HB3:Hid (Below w0.heap.size w0 w3):=HB2.out.trans (hb3.mono HB2.out.size)
 clear hm3 hb3 hHeld
 obtain⟨L,HL⟩:=nm_ TB.length
 rw[HL.out] at hr3
 rw[HL.out] at PE
 go_wp2
 go_ret2
 exact PE.out _ _ c2 HB3.out HB2.out.size HM3.out
theorem cells5:Tryz.prog.cellsOf 5=1:=by kernel_rfl
theorem plain5:Tryz.prog.plainKey 5=true:=by kernel_rfl
theorem ext_txt (s:List UInt8) (i j:Nat):(⟨s.toArray⟩:ByteArray).extract i j=⟨((s.drop i).take (j-i)).toArray⟩:=by
 apply ByteArray.ext
 simp[ByteArray.data_extract,List.extract]
theorem xX (s:List UInt8):(⟨s.toArray⟩:ByteArray).size=s.length:=by simp[ByteArray.size]
theorem slice_to (s:List UInt8) (j:Nat) (h:j<=s.length) (w:World):(Instr.slice 9 (.string ⟨s.toArray⟩) none (some (.int .i64 j)) none).run Tryz.prog w=.ok (.string ⟨(s.take j).toArray⟩) w:=by
 rw[run_slice_string_to_if w 9 _ .i64 j Tryz.underlying9,if_pos ⟨by omega,by rw[xX];omega⟩,Int.toNat_natCast,ext_txt,List.drop_zero,Nat.sub_zero]
theorem uX (s:List UInt8) (i:Nat) (h:i<=s.length) (w:World):(Instr.slice 9 (.string ⟨s.toArray⟩) (some (.int .i64 i)) none none).run Tryz.prog w=.ok (.string ⟨(s.drop i).toArray⟩) w:=by
 rw[run_slice_string_from_if w 9 _ .i64 i Tryz.underlying9,if_pos ⟨by omega,by rw[xX];omega⟩,Int.toNat_natCast,ext_txt,xX,List.take_of_length_le (by rw[List.length_drop];omega)]
theorem YZ (s:List UInt8) (i j:Nat) (h1:i<=j) (h2:j<=s.length) (w:World):(Instr.slice 9 (.string ⟨s.toArray⟩) (some (.int .i64 i)) (some (.int .i64 j)) none).run Tryz.prog w=.ok (.string ⟨((s.drop i).take (j-i)).toArray⟩) w:=by
 rw[run_slice_string w 9 _ .i64 .i64 i j Tryz.underlying9 (by omega) (by omega) (by rw[xX];omega),Int.toNat_natCast,Int.toNat_natCast,ext_txt]
def Ln (s wd o r:List UInt8):Prop:=s=wd++32 :: (o++10 :: r)/\(10:UInt8) ∉ o
def j9 (s wd:List UInt8) (e:Ending):Prop:=(∃ o r,Ln s wd o r/\e=.returned (.tuple #[.string ⟨o.toArray⟩,.string ⟨r.toArray⟩,.bool true])) ∨ ((∀ o r,¬ Ln s wd o r)/\e=.returned (.tuple #[.string ⟨#[]⟩,.string ⟨s.toArray⟩,.bool false]))
theorem Ln.take {s wd o r:List UInt8} (h:Ln s wd o r):s.take (wd.length+1)=wd++[32]/\wd.length+1+o.length<s.length:=by
 obtain⟨rfl,_⟩:=h
 constructor
 ·rw[show wd++32 :: (o++10 :: r)=(wd++[32])++(o++10 :: r) from by simp,List.take_left' (by simp)]
 ·simp;omega
theorem Ln.mem {s wd o r:List UInt8} (h:Ln s wd o r):(10:UInt8) ∈ s.drop (wd.length+1):=by
 obtain⟨rfl,_⟩:=h
 rw[show wd++32 :: (o++10 :: r)=(wd++[32])++(o++10 :: r) from by simp,List.drop_left' (by simp)]
 simp
theorem Ln.make {s wd:List UInt8} {m j:Nat} (hm:wd.length=m) (hp:s.take (m+1)=wd++[32]) (h1:m+1<=j) (hj:s[j]? = some 10) (hno:∀ x ∈ (s.take j).drop (m+1),x ≠ 10):Ln s wd ((s.drop (m+1)).take (j-(m+1))) (s.drop (j+1)):=by
 obtain⟨hlt,hx⟩:=List.getElem?_eq_some_iff.1 hj
 constructor
 ·have e1:s=s.take (m+1)++s.drop (m+1):=(List.take_append_drop _ _).symm
  have e2:s.drop (m+1)=(s.drop (m+1)).take (j-(m+1))++(s.drop (m+1)).drop (j-(m+1)):=(List.take_append_drop _ _).symm
  have e3:(s.drop (m+1)).drop (j-(m+1))=10 :: s.drop (j+1):=by
   rw[List.drop_drop,show m+1+(j-(m+1))=j from by omega,List.drop_eq_getElem_cons hlt,hx]
  conv=>lhs;rw[e1,hp,e2,e3]
  simp
 ·intro hmem
  refine hno 10 ?_ rfl
  rw[List.drop_take]
  exact hmem
set_option maxHeartbeats 1000000 in
theorem uj (s wd:List UInt8) (hs:s.length<=1000000) (hw:wd.length<=100) (w:World):Calls Tryz.prog 68 #[.string ⟨s.toArray⟩,.string ⟨wd.toArray⟩] w fun e w'=>Below w.heap.size w w'/\j9 s wd e:=by
 obtain⟨S,HS⟩:=nm_ (⟨s.toArray⟩:ByteArray)
 obtain⟨Wd,HW⟩:=nm_ (⟨wd.toArray⟩:ByteArray)
 obtain⟨n,HN⟩:=nm_ s.length
 obtain⟨m,HM⟩:=nm_ wd.length
 have hsz:S.size=n:=by rw[<-HS.out,xX];exact HN.out
 have hwz:Wd.size=m:=by rw[<-HW.out,xX];exact HM.out
 have hn:n<=1000000:=by rw[<-HN.out];exact hs
 have hm:m<=100:=by rw[<-HM.out];exact hw
 obtain⟨W2,HW2⟩:∃ A:ByteArray,Wd ++ ⟨#[32]⟩=A:=⟨_,rfl⟩
 have HWL:Hid (W2=⟨(wd++[32]).toArray⟩):=hid (by rw[<-HW2,<-HW.out,show (⟨#[32]⟩:ByteArray)=⟨[32].toArray⟩ from rfl];exact Yu _ _)
 have l3:(⟨#[32]⟩:ByteArray).size=1:=rfl
 have g1:¬ 9223372036854775807<m+1:=by omega
 have g2:¬ 9223372036854775807<=m:=by omega
 have HBAD:Hid ((∀ o r,¬ Ln s wd o r)->j9 s wd (.returned (.tuple #[.string ⟨#[]⟩,.string S,.bool false]))):=fun h=>.inr ⟨h,by rw[HS.out]⟩
 rw[HS.out,HW.out]
 by_cases h1:n<m+1
 ·have h1i:(n:Int)<(m:Int)+1:=by omega
  have HNO:Hid (∀ o r,¬ Ln s wd o r):=fun o r h=>by have:=h.take.2;rw[HN.out,HM.out] at this;omega
  go_enter Tryz.func68,Tryz.ntmps68
  go_wp2
  go_ret3
  exact⟨Below.refl _ _,HBAD.out HNO.out⟩
 have h1i:¬ (n:Int)<(m:Int)+1:=by omega
 obtain⟨Pf,HPF⟩:=nm_ (⟨(s.take (m+1)).toArray⟩:ByteArray)
 have hst:∀ W,(Instr.slice 9 (.string S) none (some (.int .i64 ((m:Int)+1))) none).run Tryz.prog W=.ok (.string Pf) W:=fun W=>by
  rw[<-HS.out,<-HPF.out]
  exact slice_to s (m+1) (by rw[HN.out];omega) W
 obtain⟨eq,HEQ⟩:∃ b:Bool,(Pf.toList == W2.toList)=b:=⟨_,rfl⟩
 have HEI:Hid (eq=true ↔ s.take (m+1)=wd++[32]):=hid (by
  rw[<-HEQ,HWL.out,<-HPF.out,Lib.toList_data,Lib.toList_data]
  simp)
 have hne:(Pf.toList != W2.toList) = !eq:=by rw[<-HEQ];rfl
 cases eq with
 | false =>
  have HNO:Hid (∀ o r,¬ Ln s wd o r):=fun o r h=>by
   have h2:=HEI.out.2 (by rw[<-HM.out];exact h.take.1)
   cases h2
  go_enter Tryz.func68,Tryz.ntmps68
  go_wp2
  go_ret3
  exact⟨Below.refl _ _,HBAD.out HNO.out⟩
 | true =>
  have HPR:Hid (s.take (m+1)=wd++[32]):=HEI.out.1 rfl
  clear HEI
  go_enter Tryz.func68,Tryz.ntmps68
  go_wp2
  go_loopg [8] (n-(m+1)) (fun g i wr=>∃ j:Nat,m+1<=j/\j<=n/\g=n-j/\i=.int .i64 j/\Hid (∀ x ∈ (s.take j).drop (m+1),x ≠ 10)/\Hid (wr=w))
  case atStart=>exact⟨m+1,by omega,by omega,rfl,by go_num,hid (by simp),hid rfl⟩
  case round =>
   obtain⟨j,hj1,hj,hk,rfl,HT,HWR⟩:=hrel
   by_cases hlt:j<n
   ·have hlti:(j:Int)<(n:Int):=by omega
    obtain⟨x,hx⟩:∃ x,s[j]? = some x:=⟨_,List.getElem?_eq_getElem (by rw[HN.out];exact hlt)⟩
    obtain⟨c,HC⟩:=nm_ (x.toNat:Int)
    have HX:Hid (s[j]? = some x):=hx
    have hix:∀ w1:World,(Instr.index 9 (.string S) (.int .i64 j)).run Tryz.prog w1=.ok (.int .u8 c) w1:=fun w1=>by rw[<-HS.out,<-HC.out];exact yk s j w1 x HX.out
    clear hx
    by_cases hc:c=10
    ·have hx10:x=10:=(Qv (n:=10) (by decide)).1 (HC.out.trans hc)
     obtain⟨o,HO⟩:=nm_ ((s.drop (m+1)).take (j-(m+1)))
     obtain⟨r,HR⟩:=nm_ (s.drop (j+1))
     have HLN:Hid (Ln s wd o r):=hid (by rw[<-HO.out,<-HR.out];exact Ln.make HM.out HPR.out hj1 (by rw[<-hx10];exact HX.out) HT.out)
     obtain⟨O,HOO⟩:=nm_ (⟨o.toArray⟩:ByteArray)
     obtain⟨R,HRR⟩:=nm_ (⟨r.toArray⟩:ByteArray)
     have hs1:∀ W,(Instr.slice 9 (.string S) (some (.int .i64 ((m:Int)+1))) (some (.int .i64 j)) none).run Tryz.prog W=.ok (.string O) W:=fun W=>by
      rw[<-HS.out,<-HOO.out,<-HO.out]
      exact YZ s (m+1) j hj1 (by rw[HN.out];exact hj) W
     have hs2:∀ W,(Instr.slice 9 (.string S) (some (.int .i64 ((j:Int)+1))) none none).run Tryz.prog W=.ok (.string R) W:=fun W=>by
      rw[<-HS.out,<-HRR.out,<-HR.out]
      exact uX s (j+1) (by rw[HN.out];omega) W
     have hge:¬ (n:Int)<=(j:Int):=by omega
     clear HC hx10
     subst hc
     go_wp2
     go_quiet (fail)
     go_wp2
     go_ret3
     exact⟨by rw[HWR.out];exact⟨rfl,rfl,rfl,Nat.le_refl _,fun _ _=>rfl⟩,.inl ⟨o,r,HLN.out,by rw[HOO.out,HRR.out];rfl⟩⟩
    ·have hcb:(c != 10)=true:=by simpa using hc
     go_wp2
     go_roundg (n-(j+1))
     case measure=>omega
     case rel =>
      refine⟨j+1,by omega,by omega,rfl,by go_num,hid ?_,HWR⟩
      rw[xz s j x HX.out,List.drop_append_of_le_length (by rw[List.length_take,HN.out];omega)]
      intro y hy
      rcases List.mem_append.1 hy with hy | hy
      ·exact HT.out y hy
      ·have:y=x:=by simpa using hy
       subst this
       rintro rfl
       exact hc (HC.out.symm.trans rfl)
   ·have hlti:¬ (j:Int)<(n:Int):=by omega
    have hge:(n:Int)<=(j:Int):=by omega
    have HNO:Hid (∀ o r,¬ Ln s wd o r):=fun o r h=>by
     refine HT.out 10 ?_ rfl
     rw[List.take_of_length_le (by rw[HN.out];omega)]
     have h2:=h.mem
     rw[HM.out] at h2
     exact h2
    go_wp2
    go_ret3
    exact⟨by rw[HWR.out];exact Below.refl _ _,HBAD.out HNO.out⟩
def valN (s:List UInt8):Nat:=s.foldl (fun n x=>n*10+(x.toNat-48)) 0
theorem valN_snoc (l:List UInt8) (x:UInt8):valN (l++[x])=valN l*10+(x.toNat-48):=by simp[valN]
def Vz (x:UInt8):Prop:=48<=x.toNat/\x.toNat<=57
def gdN (s:List UInt8):Prop:=1<=s.length/\s.length<=15/\¬ (1<s.length/\s[0]? = some 48)/\∀ x ∈ s,Vz x
def NuP (s:List UInt8) (v:Int):Prop:=(gdN s/\v=valN s) ∨ (¬ gdN s/\v = -1)
theorem valN_lt (s:List UInt8):∀ j,j<=s.length->(∀ x ∈ s.take j,Vz x)->valN (s.take j)<10 ^ j
 | 0,_,_=>by simp[valN]
 | j+1,hj,h=>by
  have hx:s[j]? = some s[j]:=List.getElem?_eq_getElem (by omega)
  have e:=xz s j _ hx
  rw[e] at h ⊢
  have ih:=valN_lt s j (by omega) (fun x hx=>h x (List.mem_append_left _ hx))
  have hd:=h s[j] (List.mem_append_right _ (List.mem_singleton.2 rfl))
  rw[valN_snoc,Nat.pow_succ]
  have:=hd.2
  omega
def PostN (s:List UInt8) (e:Ending):Prop := ∃ v,e=.returned (.int .i64 v)/\NuP s v
set_option maxHeartbeats 1000000 in
theorem Y5 (s:List UInt8) (w:World):Calls Tryz.prog 100 #[.string ⟨s.toArray⟩] w fun e w'=>w'=w/\PostN s e:=by
 obtain⟨S,HS⟩:=nm_ (⟨s.toArray⟩:ByteArray)
 obtain⟨n,HN⟩:=nm_ s.length
 have hsz:S.size=n:=by rw[<-HS.out,xX];exact HN.out
 have HBAD:Hid (¬ gdN s->PostN s (.returned (.int .i64 (-1)))):=fun h=>⟨-1,rfl,.inr ⟨h,rfl⟩⟩
 rw[HS.out]
 by_cases h1:n<1
 ·have h1i:(n:Int)<1:=by omega
  have HNO:Hid (¬ gdN s):=fun h=>by have:=h.1;rw[HN.out] at this;omega
  go_enter Tryz.func100,Tryz.ntmps100
  go_wp2
  go_ret
  exact⟨rfl,HBAD.out HNO.out⟩
 have h1i:¬ (n:Int)<1:=by omega
 by_cases h15:15<n
 ·have h2i:(15:Int)<(n:Int):=by omega
  have HNO:Hid (¬ gdN s):=fun h=>by have:=h.2.1;rw[HN.out] at this;omega
  go_enter Tryz.func100,Tryz.ntmps100
  go_wp2
  go_ret
  exact⟨rfl,HBAD.out HNO.out⟩
 have h2i:¬ (15:Int)<(n:Int):=by omega
 obtain⟨x0,hx0⟩:∃ x,s[0]? = some x:=⟨_,List.getElem?_eq_getElem (by rw[HN.out];omega)⟩
 obtain⟨c0,HC0⟩:=nm_ (x0.toNat:Int)
 have HX0:Hid (s[0]? = some x0):=hx0
 have hi0:∀ w1:World,(Instr.index 9 (.string S) (.int .i64 0)).run Tryz.prog w1=.ok (.int .u8 c0) w1:=fun w1=>by rw[<-HS.out,<-HC0.out];exact yk s 0 w1 x0 HX0.out
 clear hx0
 by_cases hz:1<n/\c0=48
 ·obtain⟨hz1,hz2⟩:=hz
  have hz1i:(1:Int)<(n:Int):=by omega
  have HNO:Hid (¬ gdN s):=fun h=>h.2.2.1 ⟨by rw[HN.out];exact hz1,by rw[HX0.out,(Qv (n:=48) (by decide)).1 (HC0.out.trans hz2)];rfl⟩
  clear HC0
  subst hz2
  go_enter Tryz.func100,Tryz.ntmps100
  go_wp2
  go_ret
  exact⟨rfl,HBAD.out HNO.out⟩
 have HZ:Hid (¬ (1<n/\c0=48)):=hz
 have HZ0:Hid (¬ (1<s.length/\s[0]? = some 48)):=fun h=>HZ.out ⟨by rw[<-HN.out];exact h.1,by
  have h2:=h.2
  rw[HX0.out] at h2
  cases h2
  exact HC0.out.symm.trans rfl⟩
 have hfin:Hid (∀ wr:World,wr=w->∀ P:World->Prop,P w->P wr):=fun wr e P h=>e ▸ h
 have key:∀ b:Bool,(decide ((1:Int)<(n:Int)))=b->(b=true->(c0 == 48)=false)->Calls Tryz.prog 100 #[.string S] w fun e w'=>w'=w/\PostN s e:=by
  intro b hb hc
  have hstep:(b=true/\((1:Int)<(n:Int))/\(c0 == 48)=false) ∨ (b=false/\¬ ((1:Int)<(n:Int))):=by
   cases b with
   | true=>exact .inl ⟨rfl,of_decide_eq_true hb,hc rfl⟩
   | false=>exact .inr ⟨rfl,of_decide_eq_false hb⟩
  clear hb hc hz
  rcases hstep with ⟨-,hg1,hg2⟩ | ⟨-,hg1⟩
  all_goals
   go_enter Tryz.func100,Tryz.ntmps100
   go_wp2
   go_loopg [3,4] n (fun g v i wr=>∃ j N:Nat,j<=n/\g=n-j/\v=.int .i64 N/\i=.int .i64 j/\Hid (N=valN (s.take j))/\Hid (∀ x ∈ s.take j,Vz x)/\Hid (wr=w))
   case atStart=>exact⟨0,0,by omega,rfl,rfl,rfl,hid (by simp[valN]),hid (by simp),hid rfl⟩
   case round =>
    obtain⟨j,N,hj,hk,rfl,rfl,HV,HT,HW⟩:=hrel
    by_cases hlt:j<n
    ·have hlti:(j:Int)<(n:Int):=by omega
     obtain⟨x,hx⟩:∃ x,s[j]? = some x:=⟨_,List.getElem?_eq_getElem (by rw[HN.out];exact hlt)⟩
     obtain⟨c,HC⟩:=nm_ (x.toNat:Int)
     have HX:Hid (s[j]? = some x):=hx
     have hix:∀ w1:World,(Instr.index 9 (.string S) (.int .i64 j)).run Tryz.prog w1=.ok (.int .u8 c) w1:=fun w1=>by rw[<-HS.out,<-HC.out];exact yk s j w1 x HX.out
     clear hx
     have hNb:N<100000000000000:=by
      have h1:=valN_lt s j (by rw[HN.out];omega) HT.out
      rw[<-HV.out] at h1
      have h2:10 ^ j<=10 ^ 14:=Nat.pow_le_pow_right (by decide) (by omega)
      omega
     by_cases d1:c<48
     ·have HNO:Hid (¬ gdN s):=fun h=>by
       have:=(h.2.2.2 x (List.mem_of_getElem? HX.out)).1
       have:=HC.out
       omega
      go_wp2
      go_ret
      exact⟨HW.out,HBAD.out HNO.out⟩
     by_cases d2:(57:Int)<c
     ·have HNO:Hid (¬ gdN s):=fun h=>by
       have:=(h.2.2.2 x (List.mem_of_getElem? HX.out)).2
       have:=HC.out
       omega
      go_wp2
      go_ret
      exact⟨HW.out,HBAD.out HNO.out⟩
     have d1':(48:Int)<=c:=by omega
     have d2':c<=57:=by omega
     go_wp2
     go_roundg (n-(j+1))
     case measure=>omega
     case rel =>
      refine⟨j+1,N*10+(x.toNat-48),by omega,rfl,?_,by go_num,hid ?_,hid ?_,HW⟩
      ·have:=HC.out
       congr 1
       omega
      ·rw[xz s j x HX.out,valN_snoc,<-HV.out]
      ·rw[xz s j x HX.out]
       intro y hy
       rcases List.mem_append.1 hy with hy | hy
       ·exact HT.out y hy
       ·have:y=x:=by simpa using hy
        subst this
        have:=HC.out
        exact⟨by omega,by omega⟩
    ·have hlti:¬ (j:Int)<(n:Int):=by omega
     have HG:Hid (NuP s N):=hid (by
      have h3:=HT.out
      have h4:=HV.out
      rw[List.take_of_length_le (by rw[HN.out];omega)] at h3 h4
      exact .inl ⟨⟨by rw[HN.out];omega,by rw[HN.out];omega,HZ0.out,h3⟩,by rw[h4]⟩)
     go_wp2
     go_ret
     exact⟨HW.out,N,rfl,HG.out⟩
 refine key _ rfl (fun hb=>?_)
 have h1:1<n:=by
  have:=of_decide_eq_true hb
  omega
 have h2:c0 ≠ 48:=fun e=>HZ.out ⟨h1,e⟩
 simpa using h2
end Go.Proofs.YticgindfipobiaaGreatDoor
