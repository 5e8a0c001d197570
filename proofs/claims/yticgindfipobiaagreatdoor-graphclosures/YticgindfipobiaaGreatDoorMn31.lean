import Derived.Test.YticgindfipobiaaGreatDoorMn26
import Derived.Test.YticgindfipobiaaGreatDoorMn30
import Derived.Test.YticgindfipobiaaGreatDoorMn03
set_option linter.unusedSimpArgs false
set_option linter.unusedVariables false
set_option maxRecDepth 20000
set_option maxHeartbeats 4000000
namespace Go.Proofs.YticgindfipobiaaGreatDoor
open Go.RowKit
structure RS1 (G:Nat) (TV:List Value) (W:World):Prop where
 rg:W.rangeAt (G+1) 0 TV
structure RS20 (G:Nat) (TV:List Value) (v17 v0:Value) (X S:ByteArray) (W:World):Prop where
 rg:W.rangeAt (G+1) 0 TV
 cx:(convert 26 9 v17).run Tryz.prog W=.ok (.string X) W
 ca:(convert 26 9 v0).run Tryz.prog W=.ok (.string S) W
set_option maxHeartbeats 20000000 in
theorem readTagR_any (a:Option Addr) (cap:Nat) (zs:List Int) (hl:zs.length<=200000) (w:World) (hS:Sl w a cap zs) :
  Calls Tryz.prog 50 #[.slice a zs.length cap] w fun e w'=>Below w.heap.size w w'/\PostRT (Lib.bytesOf zs) e:=by
 obtain⟨ZV,HZ⟩:=nn_ (tgV (tg0 z20))
 have hz75:∀ w:World,(zeroValue 125).run Tryz.prog w=.ok (.agg ZV.toArray) w:=fun w=>by rw[HZ.out];exact zero75 w
 obtain⟨zr,HZR⟩:=nn_ ((row .u8 z20).toArray)
 have hz31:=zero31
 rw[<-HZR.out] at hz31
 have HZL:Hid (ZV.length=27):=hid (by rw[HZ.out];exact y9 _ rfl)
 have HRL:Hid (zr.size=20):=hid (by rw[HZR.out];rfl)
 have hi75z:(Tryz.prog.info? 125).map (·.size)=some ZV.length:=by rw[HZL.out];exact Tryz.size125
 have FI:Hid ((Tryz.prog.info? 125).map (·.size)=some ZV.toArray.size):=hid (by rw[List.size_toArray];exact hi75z)
 have FO:Hid (ZV.toArray.all (·.oneCell')=true):=hid (by rw[HZ.out];exact all_oneCell_toArray (uY _))
 obtain⟨n,HN⟩:=nm_ zs.length
 obtain⟨l,HL⟩:=nm_ (Lib.bytesOf zs)
 have HLL:Hid (l.length<=200000):=hid (by rw[<-HL.out,Lib.bytesOf_length];exact hl)
 obtain⟨S,HSS⟩:=nm_ (⟨l.toArray⟩:ByteArray)
 obtain⟨G,HG⟩:=nm_ w.heap.size
 obtain⟨w1,HW1⟩:=nm_ ((w.alloc (.cells ZV.toArray 125)).alloc (.cells ZV.toArray 125))
 have TR1:Hid (TR G ZV.toArray (tg0 z20) w w1):=hid (by
  rw[<-HW1.out,<-HG.out]
  refine⟨((Below.refl _ w).alloc (Nat.le_refl _) _).alloc (by simp) _,?_,?_⟩
  ·rw[<-HZ.out]
   have:=heap_alloc_new (w.alloc (.cells ZV.toArray 125)) (.cells ZV.toArray 125)
   simpa using this
  ·have h1:=heap_alloc_new w (.cells ZV.toArray 125)
   have h2:=((Below.refl (w.alloc (.cells ZV.toArray 125)).heap.size (w.alloc (.cells ZV.toArray 125))).alloc (Nat.le_refl _) (.cells ZV.toArray 125)).block w.heap.size (by simp)
   exact h2.trans h1)
 have HSL:Hid (∀ W,Below G w W->Sl W a cap zs):=fun W hW=>hS.below (by rw[HG.out];exact hW)
 have HCA:Hid (∀ W,Below G w W->(convert 26 9 (.slice a n cap)).run Tryz.prog W=.ok (.string S) W):=fun W hW=>by
  rw[<-HSS.out,<-HL.out,<-HN.out]
  exact conv_str (HSL.out W hW)
 have HCV:Hid ((convert 26 9 (.slice a n cap)).run Tryz.prog ((w.alloc (.cells ZV.toArray 125)).alloc (.cells ZV.toArray 125))=.ok (.string S) ((w.alloc (.cells ZV.toArray 125)).alloc (.cells ZV.toArray 125))):=hid (HCA.out _ (by rw[HW1.out];exact TR1.out.below))
 have C1:Hid (∀ W,Calls Tryz.prog 68 #[.string S,.string ⟨#[111,98,106,101,99,116]⟩] W fun e w'=>Below W.heap.size W w'/\j9 l uy e):=fun W=>by
  rw[<-HSS.out]
  exact uj l uy (Nat.le_trans HLL.out (by omega)) (by decide) W
 rw[HN.out,HL.out]
 clear hS
 have hcv:=HCV.out
 go_enter Tryz.func50,Tryz.ntmps50
 go_wp2_with fail
 rw[HG.out,HW1.out]
 clear hcv HCV
 refine(C1.out w1).mono ?_
 rintro ev w2 ⟨hb,hp⟩
 obtain⟨o1,r1,b1,rfl,hpl⟩:=hp.form
 have PL1:Hid (PL l uy o1 r1 b1):=hpl
 have TR2:Hid (TR G ZV.toArray (tg0 z20) w w2):=TR1.out.grow hb
 clear hp hpl hb
 obtain⟨O1,HO1⟩:=nm_ (⟨o1.toArray⟩:ByteArray)
 obtain⟨R1,HR1⟩:=nm_ (⟨r1.toArray⟩:ByteArray)
 rw[HO1.out,HR1.out]
 have LR1:Hid (r1.length<=200000):=hid (Nat.le_trans PL1.out.2.2.1 HLL.out)
 have LO1:Hid (o1.length<=200000):=hid (Nat.le_trans PL1.out.2.2.2 HLL.out)
 have C2:Hid (∀ W,Calls Tryz.prog 68 #[.string R1,.string ⟨#[116,121,112,101]⟩] W fun e w'=>Below W.heap.size W w'/\j9 r1 X9 e):=fun W=>by
  rw[<-HR1.out]
  exact uj r1 X9 (Nat.le_trans LR1.out (by omega)) (by decide) W
 go_wp2_with fail
 refine(C2.out w2).mono ?_
 rintro ev w3 ⟨hb,hp⟩
 obtain⟨o2,r2,b2,rfl,hpl⟩:=hp.form
 have PL2:Hid (PL r1 X9 o2 r2 b2):=hpl
 have TR3:Hid (TR G ZV.toArray (tg0 z20) w w3):=TR2.out.grow hb
 clear hp hpl hb
 obtain⟨O2,HO2⟩:=nm_ (⟨o2.toArray⟩:ByteArray)
 obtain⟨R2,HR2⟩:=nm_ (⟨r2.toArray⟩:ByteArray)
 rw[HO2.out,HR2.out]
 have LR2:Hid (r2.length<=200000):=hid (Nat.le_trans PL2.out.2.2.1 LR1.out)
 have LO2:Hid (o2.length<=200000):=hid (Nat.le_trans PL2.out.2.2.2 LR1.out)
 have C3:Hid (∀ W,Calls Tryz.prog 68 #[.string R2,.string ⟨#[116,97,103]⟩] W fun e w'=>Below W.heap.size W w'/\j9 r2 Q0 e):=fun W=>by
  rw[<-HR2.out]
  exact uj r2 Q0 (Nat.le_trans LR2.out (by omega)) (by decide) W
 go_wp2_with fail
 refine(C3.out w3).mono ?_
 rintro ev w4 ⟨hb,hp⟩
 obtain⟨o3,r3,b3,rfl,hpl⟩:=hp.form
 have PL3:Hid (PL r2 Q0 o3 r3 b3):=hpl
 have TR4:Hid (TR G ZV.toArray (tg0 z20) w w4):=TR3.out.grow hb
 clear hp hpl hb
 obtain⟨O3,HO3⟩:=nm_ (⟨o3.toArray⟩:ByteArray)
 obtain⟨R3,HR3⟩:=nm_ (⟨r3.toArray⟩:ByteArray)
 rw[HO3.out,HR3.out]
 have LR3:Hid (r3.length<=200000):=hid (Nat.le_trans PL3.out.2.2.1 LR2.out)
 have LO3:Hid (o3.length<=200000):=hid (Nat.le_trans PL3.out.2.2.2 LR2.out)
 have C4:Hid (∀ W,Calls Tryz.prog 68 #[.string R3,.string ⟨#[116,97,103,103,101,114]⟩] W fun e w'=>Below W.heap.size W w'/\j9 r3 vw e):=fun W=>by
  rw[<-HR3.out]
  exact uj r3 vw (Nat.le_trans LR3.out (by omega)) (by decide) W
 go_wp2_with fail
 refine(C4.out w4).mono ?_
 rintro ev w5 ⟨hb,hp⟩
 obtain⟨o4,r4,b4,rfl,hpl⟩:=hp.form
 have PL4:Hid (PL r3 vw o4 r4 b4):=hpl
 have TR5:Hid (TR G ZV.toArray (tg0 z20) w w5):=TR4.out.grow hb
 clear hp hpl hb
 obtain⟨O4,HO4⟩:=nm_ (⟨o4.toArray⟩:ByteArray)
 obtain⟨R4,HR4⟩:=nm_ (⟨r4.toArray⟩:ByteArray)
 rw[HO4.out,HR4.out]
 have LR4:Hid (r4.length<=200000):=hid (Nat.le_trans PL4.out.2.2.1 LR3.out)
 have LO4:Hid (o4.length<=200000):=hid (Nat.le_trans PL4.out.2.2.2 LR3.out)
 have C5:Hid (∀ W,Calls Tryz.prog 69 #[.string O1] W fun e w'=>Below W.heap.size W w'/\PostQR o1 e):=fun W=>by
  rw[<-HO1.out]
  exact Q6 o1 W (Nat.le_trans LO1.out (by omega))
 go_wp2_with fail
 refine(C5.out w5).mono ?_
 rintro ev w6 ⟨hb,fr,gd,rfl,hpq⟩
 have HPQ:Hid (PQ o1 fr gd):=hpq
 have TR6:Hid (TR G ZV.toArray (tg0 z20) w w6):=TR5.out.grow hb
 have HFL:Hid (fr.length=20):=hpq.1
 have HFB:Hid (∀ n ∈ fr,0<=n/\n<256):=hpq.2.1
 clear hb hpq C1 C2 C3 C4 C5
 have RD:Hid (∀ u:Tg,Wf u->okG u->x9 u=l->b1=true/\b2=true/\b3=true/\b4=true/\gd=true/\fr=u.id/\o2=(kN u.kind).data.toList/\o3=u.name/\o4=qq u.per/\r4=10 :: u.msg):=fun u h1 h2 h3=>tag_read PL1.out PL2.out PL3.out PL4.out HPQ.out u h1 h2 h3
 obtain⟨RF,HRF⟩:=nm_ (row .u8 fr)
 rw[HRF.out]
 have HFN:Hid (RF.length=20):=hid (by rw[<-HRF.out,zq];exact HFL.out)
 have hi31:(Tryz.prog.info? 31).map (·.size)=some RF.length:=by rw[HFN.out];exact Tryz.size31
 have T1:Hid ((w6.alloc (.cells zr 31)).there w6.heap.size 0 RF.toArray.size):=hid (zy (heap_alloc_new w6 _) 0 (by rw[List.size_toArray,HFN.out,HRL.out];omega))
 have T2:Hid ((Tryz.prog.info? 31).map (·.size)=some RF.toArray.size):=hid (by rw[List.size_toArray];exact hi31)
 have T3:Hid (RF.toArray.all (·.oneCell')=true):=hid (by rw[<-HRF.out];exact all_oneCell_toArray (zV _ _))
 obtain⟨w7,HW7⟩:=nm_ ((w6.alloc (.cells zr 31)).setCells w6.heap.size 0 RF.toArray.toList)
 obtain⟨H,HH⟩:=nm_ w6.heap.size
 have TR7:Hid (TR G ZV.toArray (tg0 z20) w w7):=hid (by
  rw[<-HW7.out]
  exact TR6.out.grow (z7 (Nat.le_refl _) _ _ _ _ ((Below.refl _ w6).alloc (Nat.le_refl _) _)))
 have HX7:Hid (w7.rangeAt H 0 RF):=hid (by
  rw[<-HW7.out,<-HH.out]
  exact World.rangeAt_setCells_same _ _ 0 _ (by have:=T1.out;rwa [List.size_toArray] at this))
 have FL:Hid (w7.rangeAt (G+1) 0 ZV):=hid (zx (by rw[HZ.out];exact TR7.out.tag))
 have FS:Hid (w7.there G 0 ZV.toArray.size):=hid (zy TR7.out.res 0 (by omega))
 have FS':Hid (w7.there G 0 ZV.length):=hid (zy TR7.out.res 0 (by rw[List.size_toArray];omega))
 have BAD:Hid ((∀ u:Tg,Wf u->okG u->x9 u ≠ l)->(Below w.heap.size w (w7.setCells G 0 ZV)/\PostRT l (.returned (.tuple #[.agg ZV.toArray,.bool false])))):=fun hno=>by
  refine⟨by rw[HG.out];exact z7 (Nat.le_refl _) _ _ _ _ TR7.out.below,tg0 z20,false,by rw[HZ.out],⟨rfl,?_⟩,(fun h=>by cases h),fun u h1 h2 h3=>absurd h3 (hno u h1 h2)⟩
  intro n hn
  have:n=0:=by simpa [tg0,z20] using hn
  omega
 cases b1 with
 | false =>
  have HNO:Hid (∀ u:Tg,Wf u->okG u->x9 u ≠ l):=fun u h1 h2 h3=>by have h:=(RD.out u h1 h2 h3).1;cases h
  go_wp2_with (first
   | (refine wpList_store_mid rfl 31 _ _ rfl w6.heap.size 0 RF.toArray rfl rfl T1.out T2.out T3.out ?_;rw[HW7.out,HH.out])
   | refine wpList_load_mid rfl 125 _ rfl (G+1) 0 rfl ZV _ FL.out Tryz.underlying125 rfl hi75z ?_
   | refine wpList_store_mid rfl 125 _ _ rfl G 0 ZV.toArray rfl rfl FS.out FI.out FO.out ?_)
  refine bodyPost_ret (v:=.tuple #[.agg ZV.toArray,.bool false]) (zj Tryz.results50 _ _ G ZV _ rfl (World.rangeAt_setCells_same _ G 0 _ FS'.out) Tryz.underlying125 rfl hi75z) rfl ?_
  exact BAD.out HNO.out
 | true =>
 cases b2 with
 | false =>
  have HNO:Hid (∀ u:Tg,Wf u->okG u->x9 u ≠ l):=fun u h1 h2 h3=>by have h:=(RD.out u h1 h2 h3).2.1;cases h
  go_wp2_with (first
   | (refine wpList_store_mid rfl 31 _ _ rfl w6.heap.size 0 RF.toArray rfl rfl T1.out T2.out T3.out ?_;rw[HW7.out,HH.out])
   | refine wpList_load_mid rfl 125 _ rfl (G+1) 0 rfl ZV _ FL.out Tryz.underlying125 rfl hi75z ?_
   | refine wpList_store_mid rfl 125 _ _ rfl G 0 ZV.toArray rfl rfl FS.out FI.out FO.out ?_)
  refine bodyPost_ret (v:=.tuple #[.agg ZV.toArray,.bool false]) (zj Tryz.results50 _ _ G ZV _ rfl (World.rangeAt_setCells_same _ G 0 _ FS'.out) Tryz.underlying125 rfl hi75z) rfl ?_
  exact BAD.out HNO.out
 | true =>
 cases b3 with
 | false =>
  have HNO:Hid (∀ u:Tg,Wf u->okG u->x9 u ≠ l):=fun u h1 h2 h3=>by have h:=(RD.out u h1 h2 h3).2.2.1;cases h
  go_wp2_with (first
   | (refine wpList_store_mid rfl 31 _ _ rfl w6.heap.size 0 RF.toArray rfl rfl T1.out T2.out T3.out ?_;rw[HW7.out,HH.out])
   | refine wpList_load_mid rfl 125 _ rfl (G+1) 0 rfl ZV _ FL.out Tryz.underlying125 rfl hi75z ?_
   | refine wpList_store_mid rfl 125 _ _ rfl G 0 ZV.toArray rfl rfl FS.out FI.out FO.out ?_)
  refine bodyPost_ret (v:=.tuple #[.agg ZV.toArray,.bool false]) (zj Tryz.results50 _ _ G ZV _ rfl (World.rangeAt_setCells_same _ G 0 _ FS'.out) Tryz.underlying125 rfl hi75z) rfl ?_
  exact BAD.out HNO.out
 | true =>
 cases b4 with
 | false =>
  have HNO:Hid (∀ u:Tg,Wf u->okG u->x9 u ≠ l):=fun u h1 h2 h3=>by have h:=(RD.out u h1 h2 h3).2.2.2.1;cases h
  go_wp2_with (first
   | (refine wpList_store_mid rfl 31 _ _ rfl w6.heap.size 0 RF.toArray rfl rfl T1.out T2.out T3.out ?_;rw[HW7.out,HH.out])
   | refine wpList_load_mid rfl 125 _ rfl (G+1) 0 rfl ZV _ FL.out Tryz.underlying125 rfl hi75z ?_
   | refine wpList_store_mid rfl 125 _ _ rfl G 0 ZV.toArray rfl rfl FS.out FI.out FO.out ?_)
  refine bodyPost_ret (v:=.tuple #[.agg ZV.toArray,.bool false]) (zj Tryz.results50 _ _ G ZV _ rfl (World.rangeAt_setCells_same _ G 0 _ FS'.out) Tryz.underlying125 rfl hi75z) rfl ?_
  exact BAD.out HNO.out
 | true =>
 cases gd with
 | false =>
  have HNO:Hid (∀ u:Tg,Wf u->okG u->x9 u ≠ l):=fun u h1 h2 h3=>by have h:=(RD.out u h1 h2 h3).2.2.2.2.1;cases h
  go_wp2_with (first
   | (refine wpList_store_mid rfl 31 _ _ rfl w6.heap.size 0 RF.toArray rfl rfl T1.out T2.out T3.out ?_;rw[HW7.out,HH.out])
   | refine wpList_load_mid rfl 125 _ rfl (G+1) 0 rfl ZV _ FL.out Tryz.underlying125 rfl hi75z ?_
   | refine wpList_store_mid rfl 125 _ _ rfl G 0 ZV.toArray rfl rfl FS.out FI.out FO.out ?_)
  refine bodyPost_ret (v:=.tuple #[.agg ZV.toArray,.bool false]) (zj Tryz.results50 _ _ G ZV _ rfl (World.rangeAt_setCells_same _ G 0 _ FS'.out) Tryz.underlying125 rfl hi75z) rfl ?_
  exact BAD.out HNO.out
 | true =>
 obtain⟨k4,HK4⟩:=nm_ r4.length
 have hz4:R4.size=k4:=by rw[<-HR4.out,xX];exact HK4.out
 by_cases h40:k4=0
 ·have HNO:Hid (∀ u:Tg,Wf u->okG u->x9 u ≠ l):=fun u h1 h2 h3=>by
   have h:=(RD.out u h1 h2 h3).2.2.2.2.2.2.2.2.2
   have h5:=HK4.out
   rw[h,h40] at h5
   simp at h5
  subst h40
  go_wp2_with (first
   | (refine wpList_store_mid rfl 31 _ _ rfl w6.heap.size 0 RF.toArray rfl rfl T1.out T2.out T3.out ?_;rw[HW7.out,HH.out])
   | refine wpList_load_mid rfl 125 _ rfl (G+1) 0 rfl ZV _ FL.out Tryz.underlying125 rfl hi75z ?_
   | refine wpList_store_mid rfl 125 _ _ rfl G 0 ZV.toArray rfl rfl FS.out FI.out FO.out ?_)
  refine bodyPost_ret (v:=.tuple #[.agg ZV.toArray,.bool false]) (zj Tryz.results50 _ _ G ZV _ rfl (World.rangeAt_setCells_same _ G 0 _ FS'.out) Tryz.underlying125 rfl hi75z) rfl ?_
  exact BAD.out HNO.out
 have h4l:¬ ((k4:Int)<1):=by omega
 obtain⟨x,hx⟩:∃ x,r4[0]? = some x:=⟨_,List.getElem?_eq_getElem (by rw[HK4.out];omega)⟩
 have HX:Hid (r4[0]? = some x):=hx
 clear hx
 obtain⟨c,HC⟩:=nm_ (x.toNat:Int)
 have hix:∀ W:World,(Instr.index 9 (.string R4) (.int .i64 0)).run Tryz.prog W=.ok (.int .u8 c) W:=fun W=>by rw[<-HR4.out,<-HC.out];exact yk r4 0 W x HX.out
 by_cases hc:c=10
 rotate_left
 ·have hcb:(c != 10)=true:=by simpa using hc
  have HNO:Hid (∀ u:Tg,Wf u->okG u->x9 u ≠ l):=fun u h1 h2 h3=>by
   have h:=(RD.out u h1 h2 h3).2.2.2.2.2.2.2.2.2
   have h5:=HX.out
   rw[h] at h5
   have h6:(10:UInt8)=x:=by simpa using h5
   exact hc (HC.out.symm.trans (by rw[<-h6];rfl))
  go_wp2_with (first
   | (refine wpList_store_mid rfl 31 _ _ rfl w6.heap.size 0 RF.toArray rfl rfl T1.out T2.out T3.out ?_;rw[HW7.out,HH.out])
   | refine wpList_load_mid rfl 125 _ rfl (G+1) 0 rfl ZV _ FL.out Tryz.underlying125 rfl hi75z ?_
   | refine wpList_store_mid rfl 125 _ _ rfl G 0 ZV.toArray rfl rfl FS.out FI.out FO.out ?_)
  refine bodyPost_ret (v:=.tuple #[.agg ZV.toArray,.bool false]) (zj Tryz.results50 _ _ G ZV _ rfl (World.rangeAt_setCells_same _ G 0 _ FS'.out) Tryz.underlying125 rfl hi75z) rfl ?_
  exact BAD.out HNO.out
 obtain⟨m,HM⟩:=nm_ (r4.drop 1)
 obtain⟨M,HMM⟩:=nm_ (⟨m.toArray⟩:ByteArray)
 have hsl:∀ W,(Instr.slice 9 (.string R4) (some (.int .i64 1)) none none).run Tryz.prog W=.ok (.string M) W:=fun W=>by
  rw[<-HR4.out,<-HMM.out,<-HM.out]
  exact uX r4 1 (by rw[HK4.out];omega) W
 clear HC HX
 subst hc
 have T8:Hid (w7.there (G+1) 0 RF.toArray.size):=hid (zy TR7.out.tag 0 (by
  have h:=y9 (tg0 z20) rfl
  rw[List.size_toArray,HFN.out]
  exact Nat.le_trans (show 0+20<=27 by omega) (Nat.le_of_eq h.symm)))
 go_wp2_with (first
  | (refine wpList_store_mid rfl 31 _ _ rfl w6.heap.size 0 RF.toArray rfl rfl T1.out T2.out T3.out ?_;rw[HW7.out,HH.out])
  | refine wpList_load_mid rfl 31 _ rfl H 0 rfl RF _ HX7.out Tryz.underlying31 rfl hi31 ?_
  | refine wpList_store_mid rfl 31 _ _ rfl (G+1) 0 RF.toArray rfl rfl T8.out T2.out T3.out ?_
  | fail)
 have TR8:Hid (TR G ZV.toArray (tg0 fr) w (w7.setCells (G+1) 0 RF.toArray.toList)):=hid (by rw[<-HRF.out];exact TR7.out.id rfl fr HFL.out)
 generalize w7.setCells (G+1) 0 RF.toArray.toList=w8 at TR8 ⊢
 clear FL FS FS' BAD T8 hix T1 hz31 hz75
 go_loopg [16] 4 (fun g v wr=>∃ j:Nat,1<=j/\j<=5/\v=.int .i64 j/\g=5-j/\∃ k0:Int,Hid (TR G ZV.toArray { tg0 fr with kind:=k0 } w wr)/\Hid (∀ u:Int,¬ (kN u).toList.isEmpty=true->o2=(kN u).data.toList->u<j->k0=u))
 case atStart=>exact⟨1,by omega,by omega,rfl,rfl,0,TR8,fun u h1 h2 h3=>by have:=kN_four u h1;omega⟩
 case round =>
  obtain⟨j,hj1,hj5,rfl,hk,k0,TRJ,HKJ⟩:=hrel
  by_cases hj:j<=4
  ·have hji:(j:Int)<=4:=by omega
   obtain⟨Kj,HKN⟩:=nm_ (kN j)
   have CK:Hid (Calls Tryz.prog 19 #[.int .i64 j] wr fun e w'=>e=.returned (.string Kj)/\w'=wr):=hid (by rw[<-HKN.out];exact name_any j wr)
   obtain⟨eq,heq⟩:∃ b:Bool,(Kj.toList == O2.toList)=b:=⟨_,rfl⟩
   have HEQ:Hid (∀ u:Int,o2=(kN u).data.toList->((kN j).toList == (kN u).toList)=eq):=fun u hu=>by
    rw[<-heq,<-HKN.out,<-HO2.out,hu]
   obtain⟨v20,c20,f20⟩:=TRJ.out.cell HFL.out 20 (by omega)
   go_wp2_with fail
   refine CK.out.mono ?_
   rintro ev wr' ⟨rfl,hwr⟩
   have hwr':=hwr.symm
   subst hwr'
   clear hwr CK
   cases eq with
   | true =>
    go_wp2
    go_roundg (5-(j+1))
    case measure=>omega
    case rel =>
     refine⟨j+1,by omega,by omega,by go_num,rfl,j,TRJ.out.set 20 _ (set_kind { tg0 fr with kind:=k0 } HFL.out j),fun u h1 h2 h3=>?_⟩
     exact kN_inj4 u j h1 hj1 hj (HEQ.out u h2)
   | false =>
    go_wp2
    go_roundg (5-(j+1))
    case measure=>omega
    case rel =>
     refine⟨j+1,by omega,by omega,by go_num,rfl,k0,TRJ,fun u h1 h2 h3=>?_⟩
     by_cases hu:u=j
     ·subst hu
      have h:=HEQ.out _ h2
      simp at h
     ·exact HKJ.out u h1 h2 (by omega)
  ·have hji:¬ (j:Int)<=4:=by omega
   have HKE:Hid (∀ u:Int,¬ (kN u).toList.isEmpty=true->o2=(kN u).data.toList->k0=u):=fun u h1 h2=>HKJ.out u h1 h2 (by have:=kN_four u h1;omega)
   clear HKJ
   obtain⟨v21,c21,f21⟩:=TRJ.out.cell HFL.out 21 (by omega)
   have CP:Hid (∀ W,Calls Tryz.prog 70 #[.string O4] W fun e w'=>Below W.heap.size W w'/\kV o4 e):=fun W=>by
    rw[<-HO4.out]
    exact jW o4 (Nat.le_trans LO4.out (by omega)) W
   go_wp2_with fail
   have TR9:Hid (TR G ZV.toArray { tg0 fr with kind:=k0,name:=o3 } w (wr.setCell ⟨G+1,21,none⟩ (.string O3))):=TRJ.out.set 21 _ (by rw[<-HO3.out];exact set_name { tg0 fr with kind:=k0 } HFL.out _)
   clear c21 f21
   generalize wr.setCell ⟨G+1,21,none⟩ (.string O3)=w9 at TR9 ⊢
   refine(CP.out w9).mono ?_
   rintro ev w10 ⟨hb,p,bp,rfl,hp1,hp2⟩
   have HP1:Hid (bp=true->okP p/\qq p=o4):=hp1
   have HP2:Hid (∀ q,okP q->qq q=o4->bp=true):=hp2
   have TRA:Hid (TR G ZV.toArray { tg0 fr with kind:=k0,name:=o3 } w w10):=TR9.out.grow hb
   clear hb hp1 hp2 CP
   have E1:Hid (w10.there (G+1) 22 (qK p).size):=zy TRA.out.tag 22 (by
    have h:=y9 ({ tg0 fr with kind:=k0,name:=o3 } : Tg) HFL.out
    exact Nat.le_trans (show 22+4<=27 by omega) (Nat.le_of_eq h.symm))
   have E2:Hid ((Tryz.prog.info? 119).map (·.size)=some (qK p).size):=Tryz.size119
   have E3:Hid ((qK p).all (·.oneCell')=true):=Zk p
   obtain⟨w11,HW11⟩:=nm_ (w10.setCells (G+1) 22 (qK p).toList)
   have TRB:Hid (TR G ZV.toArray { tg0 fr with kind:=k0,name:=o3,per:=p } w w11):=hid (by rw[<-HW11.out];exact TRA.out.per HFL.out p)
   obtain⟨v26,c26,f26⟩:=TRB.out.cell HFL.out 26 (by omega)
   obtain⟨T,HT⟩:=nn_ (⟨fr,k0,o3,p,m⟩:Tg)
   have TRC:Hid (TR G ZV.toArray T w (w11.setCell ⟨G+1,26,none⟩ (.string M))):=hid (TRB.out.set 26 _ (by rw[<-HMM.out,HT.out];exact set_msg { tg0 fr with kind:=k0,name:=o3,per:=p } HFL.out _))
   have HTL:Hid (T.id.length=20):=hid (by rw[HT.out];exact HFL.out)
   have HTB:Hid (∀ n ∈ T.id,0<=n/\n<256):=hid (by rw[HT.out];exact HFB.out)
   obtain⟨TV,HTV⟩:=nm_ (tgV T)
   have HVL:Hid (TV.length=27):=hid (by rw[<-HTV.out];exact y9 T HTL.out)
   have CT:Hid ((w11.setCell ⟨G+1,26,none⟩ (.string M)).rangeAt (G+1) 0 TV):=hid (by rw[<-HTV.out];exact zx TRC.out.tag)
   have hi75:(Tryz.prog.info? 125).map (·.size)=some TV.length:=by rw[HVL.out];exact Tryz.size125
   have CI:Hid ((Tryz.prog.info? 125).map (·.size)=some TV.toArray.size):=hid (by rw[List.size_toArray];exact hi75)
   have CO:Hid (TV.toArray.all (·.oneCell')=true):=hid (by rw[<-HTV.out];exact all_oneCell_toArray (uY T))
   have CW:Hid (∀ W,Calls Tryz.prog 72 #[.agg TV.toArray] W (PostU T W)):=fun W=>by rw[<-HTV.out];exact writeTagR_any T HTL.out HTB.out W
   go_wp2_with (first
    | (refine wpList_store_mid rfl 119 _ _ rfl (G+1) 22 (qK p) rfl rfl E1.out E2.out E3.out ?_;rw[HW11.out])
    | refine wpList_load_mid rfl 125 _ rfl (G+1) 0 rfl TV _ CT.out Tryz.underlying125 rfl hi75 ?_
    | fail)
   clear c26 f26 CT
   generalize w11.setCell ⟨G+1,26,none⟩ (.string M)=w12 at TRC ⊢
   refine(CW.out w12).mono ?_
   rintro ev w13 ⟨hb,hor⟩
   have TRD:Hid (TR G ZV.toArray T w w13):=TRC.out.grow hb
   clear hb CW
   have LD:Hid (w13.drew.rangeAt (G+1) 0 TV):=hid (by rw[<-HTV.out];exact zx (show w13.drew.heap[G+1]? = _ from TRD.out.tag))
   have GS:Hid (w13.drew.there G 0 TV.toArray.size):=hid (zy (show w13.drew.heap[G]? = _ from TRD.out.res) 0 (by rw[List.size_toArray,List.size_toArray,HZL.out,HVL.out];omega))
   have GS':Hid (w13.drew.there G 0 TV.length):=hid (zy (show w13.drew.heap[G]? = _ from TRD.out.res) 0 (by rw[List.size_toArray,HZL.out,HVL.out];omega))
   have BD:Hid (Below G w w13.drew):=hid ⟨TRD.out.below.os,TRD.out.below.tape,TRD.out.below.output,TRD.out.below.size,TRD.out.below.block⟩
   have HWF:Hid (Wf T):=⟨HTL.out,HTB.out⟩
   have HBE:Hid (Below w.heap.size w (w13.drew.setCells G 0 TV)):=hid (by rw[HG.out];exact z7 (Nat.le_refl _) _ _ _ _ BD.out)
   have UQ:Hid (∀ u:Tg,Wf u->okG u->x9 u=l->bp=true/\okG T/\x9 T=l):=fun u h1 h2 h3=>by
    obtain⟨_,_,_,_,_,q1,q2,q3,q4,q5⟩:=RD.out u h1 h2 h3
    have hb:=HP2.out u.per h2.2.2.1 q4.symm
    obtain⟨p1,p2⟩:=HP1.out hb
    have q6:m=u.msg:=by rw[<-HM.out,q5];rfl
    have q7:=HKE.out u.kind h2.1 q2
    rw[q4] at p2
    obtain⟨u1,u2,u3,u4,u5⟩:=u
    simp only at q1 q3 q6 q7 p2
    subst q1
    subst q3
    subst q6
    subst q7
    refine⟨hb,?_,?_⟩
    ·rw[HT.out];exact⟨h2.1,h2.2.1,p1,h2.2.2.2⟩
    ·rw[HT.out,<-h3]
     simp only[x9,p2]
   have GW:Hid (w13.drew.grownBy (w13.drew.setCells G 0 TV) (some G)):=hid (by
    have hb:=z7 (Nat.le_refl G) TV 0 w13.drew w13.drew (Below.refl G w13.drew)
    exact⟨hb.os,hb.tape,hb.output,hb.size,fun k hk hne=>q9 G k (fun e=>hne (by rw[e])) TV 0 _⟩)
   have RG2:Hid ((w13.drew.setCells G 0 TV).rangeAt (G+1) 0 TV):=hid (range_step LD.out GW.out (show G+1<w13.heap.size from z6 TRD.out.tag) (by omega))
   cases bp with
   | false =>
    have hfm:∃ sv er,ev=.returned (.tuple #[sv,.int .i64 er]):=by
     rcases hor with ⟨_,g,cp,rfl,_,_⟩ | ⟨_,rfl⟩
     ·exact⟨_,_,rfl⟩
     ·exact⟨_,_,rfl⟩
    obtain⟨sv,er,rfl⟩:=hfm
    clear hor
    have HSD:Hid (RS1 G TV w13.drew):=⟨LD.out⟩
    have HSE:Hid (RS1 G TV (w13.drew.setCells G 0 TV)):=⟨RG2.out⟩
    have FIN:Hid (PostRT l (.returned (.tuple #[.agg TV.toArray,.bool false]))):=⟨T,false,by rw[HTV.out],HWF.out,(fun h=>by cases h),fun u h1 h2 h3=>by have h:=(UQ.out u h1 h2 h3).1;cases h⟩
    go_wp2_with fail
    refine wp_region_held_drew (S:=RS1 G TV) (by kernel_rfl) (by exact HSD.out) (fun hHeld=>?_)
    refine tW (i:=0) (v:=.agg TV.toArray) hHeld rfl (yieldsIf_load_mid (by rfl) 125 _ rfl (G+1) 0 (by rfl) TV _ (fun w' h=>h.rg) Tryz.underlying125 rfl hi75) ?_
    try simp only[Act.put,sL]
    refine tZ (i:=1) hHeld ?_
    try simp only[Act.put,sL]
    refine tZ (i:=2) hHeld ?_
    try simp only[Act.put,sL]
    refine tN (i:=3) hHeld ?_
    try simp only[Act.put,sL]
    refine tN (i:=4) hHeld ?_
    try simp only[Act.put,sL]
    refine tZ (i:=5) hHeld ?_
    try simp only[Act.put,sL]
    refine tZ (i:=6) hHeld ?_
    try simp only[Act.put,sL]
    refine tN (i:=7) hHeld ?_
    try simp only[Act.put,sL]
    refine tN (i:=8) hHeld ?_
    try simp only[Act.put,sL]
    refine tN (i:=9) hHeld ?_
    try simp only[Act.put,sL]
    refine tN (i:=10) hHeld ?_
    try simp only[Act.put,sL]
    refine tN (i:=11) hHeld ?_
    try simp only[Act.put,sL]
    refine tZ (i:=12) hHeld ?_
    try simp only[Act.put,sL]
    refine wpAnyH_ready (rs:=[13]) (by kernel_rfl) (by simp) ?_
    refine zu rfl (fun KK hKK=>?_) AllReadyH.nil
    refine xZ (by rfl) 125 _ _ rfl G 0 TV.toArray (by rfl) (by rfl) GS.out CI.out CO.out ?_
    refine hKK.out _ _ HSE.out (fun hHeld=>?_)
    clear hKK KK
    try simp only[Act.put,sL]
    refine tZ (i:=14) hHeld ?_
    try simp only[Act.put,sL]
    refine wpAnyH_done (by kernel_rfl) ?_ _
    go_wp2
    refine bodyPost_ret (v:=.tuple #[.agg TV.toArray,.bool false]) (zj Tryz.results50 _ _ G TV _ rfl (World.rangeAt_setCells_same _ G 0 _ GS'.out) Tryz.underlying125 rfl hi75) rfl ?_
    exact⟨HBE.out,FIN.out⟩
   | true =>
   rcases hor with ⟨hok,g,cp,rfl,hge,hmk⟩ | ⟨hno,rfl⟩
   ·have HOK:Hid (okG T):=hok
    have hsl0:=hmk.sl.below (show Below w13.heap.size w13 w13.drew from ⟨rfl,rfl,rfl,Nat.le_refl _,fun _ _=>rfl⟩)
    have hcx:=conv_str hsl0
    have hcy:=conv_str (hsl0.grown GW.out (fun b off e e2=>by
     cases e
     have h1:g=G:=by simpa using e2
     have h2:=z6 TRC.out.res
     omega))
    rw[zK,xQ] at hcx hcy
    obtain⟨tl,HTL2⟩:=nm_ ((x9 T).length)
    obtain⟨X,HXX⟩:=nm_ (⟨(x9 T).toArray⟩:ByteArray)
    rw[HTL2.out,HXX.out] at hcx hcy
    rw[HTL2.out]
    obtain⟨eq,heq⟩:∃ b:Bool,(X.toList == S.toList)=b:=⟨_,rfl⟩
    have HEI:Hid (eq=true ↔ x9 T=l):=hid (by
     rw[<-heq,<-HXX.out,<-HSS.out,Lib.toList_data,Lib.toList_data]
     simp)
    have FIN:Hid (PostRT l (.returned (.tuple #[.agg TV.toArray,.bool eq]))):=⟨T,eq,by rw[HTV.out],HWF.out,fun h=>⟨HOK.out,HEI.out.1 h⟩,fun u h1 h2 h3=>HEI.out.2 (UQ.out u h1 h2 h3).2.2⟩
    have HSD:Hid (RS20 G TV (.slice (some ⟨g,0,none⟩) tl cp) (.slice a n cap) X S w13.drew):=⟨LD.out,hcx,HCA.out _ BD.out⟩
    have HSE:Hid (RS20 G TV (.slice (some ⟨g,0,none⟩) tl cp) (.slice a n cap) X S (w13.drew.setCells G 0 TV)):=⟨RG2.out,hcy,HCA.out _ (z7 (Nat.le_refl _) _ _ _ _ BD.out)⟩
    clear hok hge hmk HEI hcx hcy hsl0
    go_wp2_with fail
    refine wp_region_held_drew (S:=RS20 G TV (.slice (some ⟨g,0,none⟩) tl cp) (.slice a n cap) X S) (by kernel_rfl) (by exact HSD.out) (fun hHeld=>?_)
    refine tW (i:=0) (v:=.agg TV.toArray) hHeld rfl (yieldsIf_load_mid (by rfl) 125 _ rfl (G+1) 0 (by rfl) TV _ (fun w' h=>h.rg) Tryz.underlying125 rfl hi75) ?_
    try simp only[Act.put,sL]
    refine tZ (i:=1) hHeld ?_
    try simp only[Act.put,sL]
    refine tZ (i:=2) hHeld ?_
    try simp only[Act.put,sL]
    refine tZ (i:=3) hHeld ?_
    try simp only[Act.put,sL]
    refine tZ (i:=4) hHeld ?_
    try simp only[Act.put,sL]
    refine tZ (i:=5) hHeld ?_
    try simp only[Act.put,sL]
    refine tZ (i:=6) hHeld ?_
    try simp only[Act.put,sL]
    refine tZ (i:=7) hHeld ?_
    try simp only[Act.put,sL]
    refine tZ (i:=8) hHeld ?_
    try simp only[Act.put,sL]
    refine tZ (i:=9) hHeld ?_
    try simp only[Act.put,sL]
    refine tZ (i:=10) hHeld ?_
    try simp only[Act.put,sL]
    refine tZ (i:=11) hHeld ?_
    try simp only[Act.put,sL]
    refine tZ (i:=12) hHeld ?_
    try simp only[Act.put,sL]
    refine wpAnyH_ready (rs:=[13]) (by kernel_rfl) (by simp) ?_
    refine zu rfl (fun KK hKK=>?_) AllReadyH.nil
    refine xZ (by rfl) 125 _ _ rfl G 0 TV.toArray (by rfl) (by rfl) GS.out CI.out CO.out ?_
    refine hKK.out _ _ HSE.out (fun hHeld=>?_)
    clear hKK KK
    try simp only[Act.put,sL]
    refine tZ (i:=14) hHeld ?_
    try simp only[Act.put,sL]
    refine wpAnyH_done (by kernel_rfl) ?_ _
    go_wp2
    refine bodyPost_ret (v:=.tuple #[.agg TV.toArray,.bool eq]) (zj Tryz.results50 _ _ G TV _ rfl (World.rangeAt_setCells_same _ G 0 _ GS'.out) Tryz.underlying125 rfl hi75) rfl ?_
    exact⟨HBE.out,FIN.out⟩
   ·have HNO:Hid (¬ okG T):=hno
    have FIN:Hid (PostRT l (.returned (.tuple #[.agg TV.toArray,.bool false]))):=⟨T,false,by rw[HTV.out],HWF.out,(fun h=>by cases h),fun u h1 h2 h3=>absurd (UQ.out u h1 h2 h3).2.1 HNO.out⟩
    clear hno
    have HSD:Hid (RS1 G TV w13.drew):=⟨LD.out⟩
    have HSE:Hid (RS1 G TV (w13.drew.setCells G 0 TV)):=⟨RG2.out⟩
    go_wp2_with fail
    refine wp_region_held_drew (S:=RS1 G TV) (by kernel_rfl) (by exact HSD.out) (fun hHeld=>?_)
    refine tW (i:=0) (v:=.agg TV.toArray) hHeld rfl (yieldsIf_load_mid (by rfl) 125 _ rfl (G+1) 0 (by rfl) TV _ (fun w' h=>h.rg) Tryz.underlying125 rfl hi75) ?_
    try simp only[Act.put,sL]
    refine tZ (i:=1) hHeld ?_
    try simp only[Act.put,sL]
    refine tZ (i:=2) hHeld ?_
    try simp only[Act.put,sL]
    refine tZ (i:=3) hHeld ?_
    try simp only[Act.put,sL]
    refine tZ (i:=4) hHeld ?_
    try simp only[Act.put,sL]
    refine tZ (i:=5) hHeld ?_
    try simp only[Act.put,sL]
    refine tZ (i:=6) hHeld ?_
    try simp only[Act.put,sL]
    refine tN (i:=7) hHeld ?_
    try simp only[Act.put,sL]
    refine tN (i:=8) hHeld ?_
    try simp only[Act.put,sL]
    refine tN (i:=9) hHeld ?_
    try simp only[Act.put,sL]
    refine tN (i:=10) hHeld ?_
    try simp only[Act.put,sL]
    refine tN (i:=11) hHeld ?_
    try simp only[Act.put,sL]
    refine tZ (i:=12) hHeld ?_
    try simp only[Act.put,sL]
    refine wpAnyH_ready (rs:=[13]) (by kernel_rfl) (by simp) ?_
    refine zu rfl (fun KK hKK=>?_) AllReadyH.nil
    refine xZ (by rfl) 125 _ _ rfl G 0 TV.toArray (by rfl) (by rfl) GS.out CI.out CO.out ?_
    refine hKK.out _ _ HSE.out (fun hHeld=>?_)
    clear hKK KK
    try simp only[Act.put,sL]
    refine tZ (i:=14) hHeld ?_
    try simp only[Act.put,sL]
    refine wpAnyH_done (by kernel_rfl) ?_ _
    go_wp2
    refine bodyPost_ret (v:=.tuple #[.agg TV.toArray,.bool false]) (zj Tryz.results50 _ _ G TV _ rfl (World.rangeAt_setCells_same _ G 0 _ GS'.out) Tryz.underlying125 rfl hi75) rfl ?_
    exact⟨HBE.out,FIN.out⟩
end Go.Proofs.YticgindfipobiaaGreatDoor
