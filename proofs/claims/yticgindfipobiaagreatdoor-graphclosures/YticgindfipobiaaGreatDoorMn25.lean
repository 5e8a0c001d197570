import Derived.Test.YticgindfipobiaaGreatDoorMn24
import Derived.Test.YticgindfipobiaaGreatDoorMn15
import Derived.Test.YticgindfipobiaaGreatDoorMn21
import Derived.Test.YticgindfipobiaaGreatDoorMn10
set_option linter.unusedSimpArgs false
set_option linter.unusedVariables false
set_option maxRecDepth 20000
set_option maxHeartbeats 4000000
namespace Go.Proofs.YticgindfipobiaaGreatDoor
open Go.RowKit
theorem Tryz.results80:Tryz.f80.results=#[.cell 8 158,.tmp 9]:=by kernel_rfl
theorem Tryz.results60:Tryz.f60.results=#[.cell 2 158,.tmp 3]:=by kernel_rfl
theorem TC.msg {l:List UInt8} {T:Cm} (h:TC l T):T.msg.length<=l.length:=by
 obtain⟨_,r,h2,_,_,_,h6⟩:=h
 have r1:=vK l
 have r2:=h2.le
 have r3:=vK r
 have r4:=vK (rst r)
 have r5:=vK (rst (rst r))
 rw[h6]
 omega
def jY (l:List UInt8) (w:World) (e:Ending) (w':World):Prop := ∃ T,TC l T/\(((okC T/\cmB T=l)/\∃ pa pc,e=.returned (.tuple #[.agg (cmV T pa pc).toArray,.nilIface])/\OI w.heap.size pa pc T.ids w') ∨ (¬ (okC T/\cmB T=l)/\e=.returned (.tuple #[.agg (cmV (cm0 z20) none 0).toArray,.iface 43 (.int .i64 22)])))
set_option maxHeartbeats 2000000 in
theorem readBackC_any (a:Option Addr) (cap:Nat) (zs:List Int) (hl:zs.length<=200000) (hz:IsB zs) (w:World) (ht:Tab w) (he:Ers w) (hm:Mx w) (hS:Sl w a cap zs) :
  Calls Tryz.prog 80 #[.slice a zs.length cap,.int .i64 22,.func (.func 81) #[] #[],.func (.func 82) #[] #[]] w fun e w'=>Below w.heap.size w w'/\jY (Lib.bytesOf zs) w e w':=by
 obtain⟨ZV,HZ⟩:=nn_ (cmV (cm0 z20) none 0)
 have hz60:=zero60
 rw[<-HZ.out] at hz60
 have HZL:Hid (ZV.length=30):=hid (by rw[HZ.out];exact qu _ _ _ rfl)
 have hi60z:(Tryz.prog.info? 158).map (·.size)=some ZV.length:=by rw[HZL.out];exact Tryz.size158
 have FI:Hid ((Tryz.prog.info? 158).map (·.size)=some ZV.toArray.size):=hid (by rw[List.size_toArray];exact hi60z)
 have FO:Hid (ZV.toArray.all (·.oneCell')=true):=hid (by rw[HZ.out];exact all_oneCell_toArray (xq _ _ _))
 obtain⟨n,HN⟩:=nm_ zs.length
 obtain⟨l,HL⟩:=nm_ (Lib.bytesOf zs)
 have HLL:Hid (l.length<=200000):=hid (by rw[<-HL.out,Lib.bytesOf_length];exact hl)
 obtain⟨S,HSS⟩:=nm_ (⟨l.toArray⟩:ByteArray)
 obtain⟨G,HG⟩:=nm_ w.heap.size
 obtain⟨w0,HW0⟩:=nm_ (w.alloc (.cells ZV.toArray 158))
 have HB0:Hid (Below G w w0):=hid (by rw[<-HW0.out,<-HG.out];exact(Below.refl _ w).alloc (Nat.le_refl _) _)
 have HR0:Hid (w0.heap[G]? = some (.cells ZV.toArray 158 (0,0))):=hid (by rw[<-HW0.out,<-HG.out];exact heap_alloc_new w _)
 have HCV:Hid ((convert 26 9 (.slice a n cap)).run Tryz.prog (w.alloc (.cells ZV.toArray 158))=.ok (.string S) (w.alloc (.cells ZV.toArray 158))):=hid (by
  rw[<-HSS.out,<-HL.out,<-HN.out]
  exact conv_str (hS.below (by rw[HW0.out,HG.out];exact HB0.out)))
 have HT:Hid (∀ W,Below G w W->Tab W):=fun W hW=>ht.below (by rw[HG.out];exact hW)
 have HSL:Hid (∀ W,Below G w W->Sl W a cap zs):=fun W hW=>hS.below (by rw[HG.out];exact hW)
 have C1:Hid (Calls Tryz.prog 81 #[.string S] w0 (PostOC l w0)):=hid (by
  rw[<-HSS.out]
  exact commitOf_any l HLL.out w0 (he.below (by rw[HG.out];exact HB0.out)) (hm.below (by rw[HG.out];exact HB0.out)))
 rw[HN.out,HL.out]
 clear ht he hm hS
 have hcv:=HCV.out
 go_enter Tryz.func80,Tryz.ntmps80
 go_wp2_with fail
 rw[HG.out,HW0.out]
 clear hcv HCV
 refine C1.out.mono ?_
 rintro ev w1 ⟨hb1,T,pa,pc,rfl,htg,hoi⟩
 have HTG:Hid (TC l T):=htg
 have OI1:Hid (OI w0.heap.size pa pc T.ids w1):=hoi
 have hs0:G<w0.heap.size:=z6 HR0.out
 have HWT:Hid (WfC T):=hid (by obtain⟨h1,r,h2,_⟩:=htg;exact⟨⟨h1.1,h1.2.1⟩,h2.wf⟩)
 have HB1:Hid (Below G w w1):=HB0.out.trans (hb1.mono (Nat.le_of_lt (z6 HR0.out)))
 have HR1:Hid (w1.heap[G]? = some (.cells ZV.toArray 158 (0,0))):=hid ((hb1.block G (z6 HR0.out)).trans HR0.out)
 have HID:Hid (T.tree.length=20):=htg.1.1
 clear htg hb1 hoi
 obtain⟨TV,HTV⟩:=nm_ (cmV T pa pc)
 rw[HTV.out]
 have HVL:Hid (TV.length=30):=hid (by rw[<-HTV.out];exact qu T pa pc HID.out)
 have hi60:(Tryz.prog.info? 158).map (·.size)=some TV.length:=by rw[HVL.out];exact Tryz.size158
 have CI:Hid ((Tryz.prog.info? 158).map (·.size)=some TV.toArray.size):=hid (by rw[List.size_toArray];exact hi60)
 have CO:Hid (TV.toArray.all (·.oneCell')=true):=hid (by rw[<-HTV.out];exact all_oneCell_toArray (xq T pa pc))
 have D0:Hid ((w1.alloc (.cells ZV.toArray 158)).heap[w1.heap.size]? = some (.cells ZV.toArray 158 (0,0))):=heap_alloc_new w1 _
 have D1:Hid (ZV.toArray.size=TV.toArray.size):=hid (by rw[List.size_toArray,List.size_toArray,HZL.out,HVL.out])
 have D4:Hid (((w1.alloc (.cells ZV.toArray 158)).setRow w1.heap.size TV.toArray).rangeAt w1.heap.size 0 TV):=hid (zx (setRow_heap _ _ _ TV.toArray _ _ D0.out))
 go_wp2_with (first
  | refine wpList_store_row rfl 158 _ _ rfl w1.heap.size TV.toArray rfl rfl 158 ZV.toArray D0.out CI.out D1.out CO.out ?_
  | refine wpList_load_mid rfl 158 _ rfl w1.heap.size 0 rfl TV _ D4.out Tryz.underlying158 rfl hi60 ?_
  | fail)
 obtain⟨H,HH⟩:=nm_ w1.heap.size
 have HGH:Hid (G<H):=hid (by rw[<-HH.out];exact z6 HR1.out)
 obtain⟨w2,HW2⟩:=nm_ ((w1.alloc (.cells ZV.toArray 158)).setRow w1.heap.size TV.toArray)
 have HB2:Hid (Below G w w2):=hid (by rw[<-HW2.out];exact below_setRow (HB1.out.alloc (by rw[HH.out];have:=HGH.out;omega) _) (by rw[HH.out];have:=HGH.out;omega) _)
 have HR2:Hid (w2.heap[G]? = some (.cells ZV.toArray 158 (0,0))):=hid (by
  have hb2:=(Below.refl w1.heap.size w1).alloc (Nat.le_refl _) (.cells ZV.toArray 158)
  rw[<-HW2.out,setRow_other _ _ _ _ (by rw[HH.out];have:=HGH.out;omega)]
  exact(hb2.block _ (by rw[HH.out];exact HGH.out)).trans HR1.out)
 have HV2:Hid (w2.heap[H]? = some (.cells TV.toArray 158 (0,0))):=hid (by rw[<-HW2.out,<-HH.out];exact setRow_heap _ _ _ TV.toArray _ _ D0.out)
 rw[HW2.out,HH.out]
 clear hz60
 have hz60:∀ w:World,(zeroValue 158).run Tryz.prog w=.ok (.agg ZV.toArray) w:=fun w=>by rw[HZ.out];exact zero60 w
 have OI2:Hid (OI w0.heap.size pa pc T.ids w2):=hid (by
  rw[<-HW2.out]
  have hb:=below_setRow ((Below.refl w1.heap.size w1).alloc (Nat.le_refl _) (.cells ZV.toArray 158)) (Nat.le_refl _) TV.toArray
  exact OI1.out.keep hb)
 have C2:Hid (Calls Tryz.prog 82 #[.agg TV.toArray] w2 (PostC T w2)):=hid (by
  rw[<-HTV.out]
  have hln:=HTG.out.msg
  have h2:=HLL.out
  exact writeCommit_any T HWT.out pa pc (by omega) w2 (HT.out _ HB2.out) (OI2.out.pa HWT.out.2))
 refine C2.out.mono ?_
 rintro ev w3 ⟨hb3,hor⟩
 have HB3:Hid (Below G w w3):=HB2.out.trans (hb3.mono (Nat.le_of_lt (z6 HR2.out)))
 have HR3:Hid (w3.heap[G]? = some (.cells ZV.toArray 158 (0,0))):=hid ((hb3.block G (z6 HR2.out)).trans HR2.out)
 have OI3:Hid (OI w0.heap.size pa pc T.ids w3):=OI2.out.keep hb3
 have HV3:Hid (w3.heap[H]? = some (.cells TV.toArray 158 (0,0))):=hid ((hb3.block H (z6 HV2.out)).trans HV2.out)
 have FL:Hid ((w3.alloc (.cells ZV.toArray 158)).rangeAt w3.heap.size 0 ZV):=hid (zx (heap_alloc_new w3 _))
 have HR4:Hid ((w3.alloc (.cells ZV.toArray 158)).heap[G]? = some (.cells ZV.toArray 158 (0,0))):=hid ((((Below.refl w3.heap.size w3).alloc (Nat.le_refl _) (.cells ZV.toArray 158)).block G (z6 HR3.out)).trans HR3.out)
 have FS:Hid ((w3.alloc (.cells ZV.toArray 158)).there G 0 ZV.toArray.size):=hid (zy HR4.out 0 (by omega))
 have FS':Hid ((w3.alloc (.cells ZV.toArray 158)).there G 0 ZV.length):=hid (zy HR4.out 0 (by rw[List.size_toArray];omega))
 have BAD:Hid (¬ (okC T/\cmB T=l)->(Below w.heap.size w ((w3.alloc (.cells ZV.toArray 158)).setCells G 0 ZV)/\jY l w (.returned (.tuple #[.agg ZV.toArray,.iface 43 (.int .i64 22)])) ((w3.alloc (.cells ZV.toArray 158)).setCells G 0 ZV))):=fun hno=>by
  refine⟨by rw[HG.out];exact z7 (Nat.le_refl _) _ _ _ _ (HB3.out.alloc (Nat.le_of_lt (z6 HR3.out)) _),T,HTG.out,.inr ⟨hno,?_⟩⟩
  rw[HZ.out]
 clear hb3
 rcases hor with ⟨hok,g,cp,rfl,hge,hmk⟩ | ⟨hno,rfl⟩
 rotate_left
 ·have HNO:Hid (¬ (okC T/\cmB T=l)):=fun h=>hno h.1
  clear hno
  go_wp2_with (first
   | refine wpList_load_mid rfl 158 _ rfl w3.heap.size 0 rfl ZV _ FL.out Tryz.underlying158 rfl hi60z ?_
   | refine wpList_store_mid rfl 158 _ _ rfl G 0 ZV.toArray rfl rfl FS.out FI.out FO.out ?_)
  refine bodyPost_ret (v:=.tuple #[.agg ZV.toArray,.iface 43 (.int .i64 22)]) (zj Tryz.results80 _ _ G ZV _ rfl (World.rangeAt_setCells_same _ G 0 _ FS'.out) Tryz.underlying158 rfl hi60z) rfl ?_
  exact BAD.out HNO.out
 have HOK:Hid (okC T):=hok
 have HMK:Hid (Mk w3 g cp (q8 (cmB T))):=hmk
 clear hok hmk hge
 obtain⟨eq,HEQ⟩:=nm_ (cmB T == l)
 obtain⟨tl,HTL⟩:=nm_ ((cmB T).length)
 have CE:Hid (Calls Tryz.prog 110 #[.slice (some ⟨g,0,none⟩) tl cp,.slice a n cap] w3 fun e w'=>e=.returned (.bool eq)/\w'=w3):=hid (by
  have h:=equal_any (some ⟨g,0,none⟩) a cp cap (q8 (cmB T)) zs w3 HMK.out.sl (HSL.out _ HB3.out)
  rw[zK,HTL.out,xQ,HL.out,HEQ.out,HN.out] at h
  exact h)
 rw[HTL.out]
 go_wp2_with fail
 refine CE.out.mono ?_
 rintro ev w3' ⟨rfl,hw3⟩
 have hw3':=hw3.symm
 subst hw3'
 clear hw3
 cases eq with
 | false =>
  have HNO:Hid (¬ (okC T/\cmB T=l)):=fun h=>by have h2:=HEQ.out;rw[h.2] at h2;simp at h2
  go_wp2_with (first
   | refine wpList_load_mid rfl 158 _ rfl w3.heap.size 0 rfl ZV _ FL.out Tryz.underlying158 rfl hi60z ?_
   | refine wpList_store_mid rfl 158 _ _ rfl G 0 ZV.toArray rfl rfl FS.out FI.out FO.out ?_)
  refine bodyPost_ret (v:=.tuple #[.agg ZV.toArray,.iface 43 (.int .i64 22)]) (zj Tryz.results80 _ _ G ZV _ rfl (World.rangeAt_setCells_same _ G 0 _ FS'.out) Tryz.underlying158 rfl hi60z) rfl ?_
  exact BAD.out HNO.out
 | true =>
  have HYE:Hid (cmB T=l):=hid (by have h2:=HEQ.out;simpa using h2)
  have GL:Hid (w3.rangeAt H 0 TV):=hid (zx HV3.out)
  have GS:Hid (w3.there G 0 TV.toArray.size):=hid (zy HR3.out 0 (by rw[<-D1.out];omega))
  have GS':Hid (w3.there G 0 TV.length):=hid (zy HR3.out 0 (by rw[List.size_toArray,HZL.out,HVL.out];omega))
  go_wp2_with (first
   | refine wpList_load_mid rfl 158 _ rfl H 0 rfl TV _ GL.out Tryz.underlying158 rfl hi60 ?_
   | refine wpList_store_mid rfl 158 _ _ rfl G 0 TV.toArray rfl rfl GS.out CI.out CO.out ?_)
  refine bodyPost_ret (v:=.tuple #[.agg TV.toArray,.nilIface]) (zj Tryz.results80 _ _ G TV _ rfl (World.rangeAt_setCells_same _ G 0 _ GS'.out) Tryz.underlying158 rfl hi60) rfl ⟨?_,?_⟩
  ·rw[HG.out]
   exact z7 (Nat.le_refl _) _ _ _ _ HB3.out
  ·refine⟨T,HTG.out,.inl ⟨⟨HOK.out,HYE.out⟩,pa,pc,by rw[HTV.out],?_⟩⟩
   rw[HG.out]
   exact(OI3.out.setCells hs0 0 TV).lower (Nat.le_of_lt hs0)
theorem jY.form {l:List UInt8} {w:World} {e:Ending} {w':World} (h:jY l w e w'):∃ (X:Cm) (pa:Option Addr) (pc:Nat) (ev:Value),e=.returned (.tuple #[.agg (cmV X pa pc).toArray,ev])/\X.tree.length=20:=by
 obtain⟨T,htg,⟨_,pa,pc,rfl,_⟩ | ⟨_,rfl⟩⟩:=h
 ·exact⟨T,pa,pc,_,rfl,htg.1.1⟩
 ·exact⟨cm0 z20,none,0,_,rfl,rfl⟩
theorem jY.up {l:List UInt8} {w0 w w1:World} {e:Ending} (h:jY l w0 e w1) (hw:w.heap.size<=w0.heap.size) (g:Nat) (hg:g<w0.heap.size) (vs:List Value):jY l w e (w1.setCells g 0 vs):=by
 obtain⟨T,htg,⟨h1,pa,pc,rfl,ho⟩ | h1⟩:=h
 ·exact⟨T,htg,.inl ⟨h1,pa,pc,rfl,(ho.setCells hg 0 vs).lower hw⟩⟩
 ·exact⟨T,htg,.inr h1⟩
set_option maxHeartbeats 1000000 in
theorem readCommit_any (a:Option Addr) (cap:Nat) (zs:List Int) (hl:zs.length<=200000) (hz:IsB zs) (w:World) (ht:Tab w) (he:Ers w) (hm:Mx w) (hS:Sl w a cap zs) :
  Calls Tryz.prog 60 #[.slice a zs.length cap] w fun e w'=>Below w.heap.size w w'/\jY (Lib.bytesOf zs) w e w':=by
 obtain⟨ZV,HZ⟩:=nn_ (cmV (cm0 z20) none 0)
 have hz60:=zero60
 rw[<-HZ.out] at hz60
 have HZL:Hid (ZV.length=30):=hid (by rw[HZ.out];exact qu _ _ _ rfl)
 obtain⟨n,HN⟩:=nm_ zs.length
 obtain⟨G,HG⟩:=nm_ w.heap.size
 obtain⟨w0,HW0⟩:=nm_ (w.alloc (.cells ZV.toArray 158))
 have HB0:Hid (Below G w w0):=hid (by rw[<-HW0.out,<-HG.out];exact(Below.refl _ w).alloc (Nat.le_refl _) _)
 have HR0:Hid (w0.heap[G]? = some (.cells ZV.toArray 158 (0,0))):=hid (by rw[<-HW0.out,<-HG.out];exact heap_alloc_new w _)
 have C1:Hid (Calls Tryz.prog 80 #[.slice a n cap,.int .i64 22,.func (.func 81) #[] #[],.func (.func 82) #[] #[]] w0 fun e w'=>Below w0.heap.size w0 w'/\jY (Lib.bytesOf zs) w0 e w'):=hid (by
  have hb:Below w.heap.size w w0:=by rw[HG.out];exact HB0.out
  rw[<-HN.out]
  exact readBackC_any a cap zs hl hz w0 (ht.below hb) (he.below hb) (hm.below hb) (hS.below hb))
 rw[HN.out]
 clear ht he hm hS
 go_enter Tryz.func60,Tryz.ntmps60
 go_wp2_with fail
 rw[HG.out,HW0.out]
 refine C1.out.mono ?_
 rintro ev w1 ⟨hb1,hpb⟩
 obtain⟨X,pa,pc,ev2,rfl,hx⟩:=hpb.form
 have HPB:Hid (jY (Lib.bytesOf zs) w0 (.returned (.tuple #[.agg (cmV X pa pc).toArray,ev2])) w1):=hpb
 have hs0:G<w0.heap.size:=z6 HR0.out
 have HB1:Hid (Below G w w1):=HB0.out.trans (hb1.mono (Nat.le_of_lt (z6 HR0.out)))
 have HR1:Hid (w1.heap[G]? = some (.cells ZV.toArray 158 (0,0))):=hid ((hb1.block G (z6 HR0.out)).trans HR0.out)
 have HID:Hid (X.tree.length=20):=hx
 clear hpb hb1 hx
 obtain⟨TV,HTV⟩:=nm_ (cmV X pa pc)
 rw[HTV.out] at HPB
 rw[HTV.out]
 have HVL:Hid (TV.length=30):=hid (by rw[<-HTV.out];exact qu X pa pc HID.out)
 have hi60:(Tryz.prog.info? 158).map (·.size)=some TV.length:=by rw[HVL.out];exact Tryz.size158
 have CI:Hid ((Tryz.prog.info? 158).map (·.size)=some TV.toArray.size):=hid (by rw[List.size_toArray];exact hi60)
 have CO:Hid (TV.toArray.all (·.oneCell')=true):=hid (by rw[<-HTV.out];exact all_oneCell_toArray (xq X pa pc))
 have GS:Hid (w1.there G 0 TV.toArray.size):=hid (zy HR1.out 0 (by rw[List.size_toArray,List.size_toArray,HZL.out,HVL.out];omega))
 have GS':Hid (w1.there G 0 TV.length):=hid (zy HR1.out 0 (by rw[List.size_toArray,HZL.out,HVL.out];omega))
 go_wp2_with (refine wpList_store_mid rfl 158 _ _ rfl G 0 TV.toArray rfl rfl GS.out CI.out CO.out ?_)
 refine bodyPost_ret (v:=.tuple #[.agg TV.toArray,ev2]) (zj Tryz.results60 _ _ G TV _ rfl (World.rangeAt_setCells_same _ G 0 _ GS'.out) Tryz.underlying158 rfl hi60) rfl ⟨?_,HPB.out.up (by rw[HG.out];omega) G hs0 TV⟩
 rw[HG.out]
 exact z7 (Nat.le_refl _) _ _ _ _ HB1.out
end Go.Proofs.YticgindfipobiaaGreatDoor
namespace Go.Proofs.YticgindfipobiaaGreatDoor
theorem cut_at (a b sep:List UInt8) (h1:Lib.occAt (a++(sep++b)) sep a.length=true) (h2:∀ j,j<a.length->Lib.occAt (a++(sep++b)) sep j=false):Lib.cut (a++(sep++b)) sep=(a,b,true):=by
 have hi:Lib.index (a++(sep++b)) sep=(a.length:Nat):=Lib.index_first (by simp) h1 h2
 unfold Lib.cut
 rw[hi,if_pos (by omega)]
 simp
theorem occ_here (a b sep:List UInt8):Lib.occAt (a++(sep++b)) sep a.length=true:=by
 simp[Lib.occAt]
theorem occ_not (s sep:List UInt8) (j k:Nat) (c:UInt8) (hc:sep[k]? = some c) (hn:s[j+k]? ≠ some c):Lib.occAt s sep j=false:=by
 cases h:Lib.occAt s sep j with
 | false=>rfl
 | true =>
  refine absurd ?_ hn
  unfold Lib.occAt at h
  obtain⟨t,ht⟩:=List.isPrefixOf_iff_prefix.1 h
  obtain⟨hk,_⟩:=List.getElem?_eq_some_iff.1 hc
  rw[<-List.getElem?_drop,<-ht,List.getElem?_append_left hk]
  exact hc
theorem ku (a b:List UInt8) (c:UInt8) (h:c ∉ a):Lib.cut (a++c :: b) [c]=(a,b,true):=by
 refine cut_at a b [c] (occ_here a b [c]) (fun j hj=>occ_not _ _ j 0 c rfl ?_)
 rw[Nat.add_zero,List.getElem?_append_left hj]
 exact fun e=>h (List.mem_of_getElem? e)
theorem cut_two (a b:List UInt8) (c d:UInt8) (hcd:c ≠ d) (h:d ∉ a):Lib.cut (a++c :: d :: b) [c,d]=(a,b,true):=by
 refine cut_at a b [c,d] (occ_here a b [c,d]) (fun j hj=>occ_not _ _ j 1 d rfl ?_)
 rcases Nat.lt_or_ge (j+1) a.length with h1 | h1
 ·rw[List.getElem?_append_left h1]
  exact fun e=>h (List.mem_of_getElem? e)
 ·rw[List.getElem?_append_right h1,show j+1-a.length=0 from by omega]
  simpa using hcd
theorem cut_two' (a b:List UInt8) (c d:UInt8) (h:c ∉ a):Lib.cut (a++c :: d :: b) [c,d]=(a,b,true):=by
 refine cut_at a b [c,d] (occ_here a b [c,d]) (fun j hj=>occ_not _ _ j 0 c rfl ?_)
 rw[Nat.add_zero,List.getElem?_append_left hj]
 exact fun e=>h (List.mem_of_getElem? e)
theorem Y6 {l wd o r:List UInt8} (h:Ln l wd o r) (hw:(10:UInt8) ∉ wd):fld l wd=o/\rst l=r:=by
 obtain⟨rfl,ho⟩:=h
 have hc:Lib.cut (wd++32 :: (o++10 :: r)) [10]=(wd++32 :: o,r,true):=by
  rw[show wd++32 :: (o++10 :: r)=(wd++32 :: o)++10 :: r from by simp]
  refine ku _ _ _ ?_
  intro hm
  rcases List.mem_append.1 hm with hm | hm
  ·exact hw hm
  ·rcases List.mem_cons.1 hm with hm | hm
   ·cases hm
   ·exact ho hm
 unfold fld rst
 rw[hc]
 refine⟨?_,rfl⟩
 unfold Lib.trimPrefix Lib.hasPrefix
 rw[if_pos (List.isPrefixOf_iff_prefix.2 ⟨o,by simp⟩)]
 show (wd++32 :: o).drop _=o
 rw[show wd++32 :: o=(wd++[32])++o from by simp]
 exact List.drop_left' rfl
theorem per_cut (q:Per) (hq:okP q):p1 (qq q)=q.name/\p2 (qq q)=q.mail/\p3 (qq q)=Lib.decDigits q.time.toNat/\p4 (qq q)=vQ q.zone:=by
 obtain⟨⟨_,nb,_⟩,⟨_,mb,_⟩,_,_,_⟩:=hq
 have k1:Lib.cut (qq q) [32,60]=(q.name,q.mail++62 :: 32 :: (Lib.decDigits q.time.toNat++32 :: vQ q.zone),true):=cut_two _ _ _ _ (by decide) (fun h=>(nb 60 h).1 rfl)
 have k2:Lib.cut (q.mail++62 :: 32 :: (Lib.decDigits q.time.toNat++32 :: vQ q.zone)) [62,32]=(q.mail,Lib.decDigits q.time.toNat++32 :: vQ q.zone,true):=cut_two' _ _ _ _ (fun h=>(mb 62 h).2.1 rfl)
 have k3:Lib.cut (Lib.decDigits q.time.toNat++32 :: vQ q.zone) [32]=(Lib.decDigits q.time.toNat,vQ q.zone,true):=ku _ _ _ (fun h=>by
  have h1:=((Vx q.time.toNat).2.1 32 h).1
  have h2:(32:UInt8).toNat=32:=rfl
  omega)
 unfold p1 p2 p3 p4
 rw[k1]
 simp only
 rw[k2]
 simp only
 rw[k3]
 exact⟨trivial,trivial,rfl,rfl⟩
def valF (acc:Nat) (l:List UInt8):Nat:=l.foldl (fun n x=>n*10+(x.toNat-48)) acc
theorem room_step {acc d k E:Nat} (hd:d<=9) (h:(acc+1)*10 ^ (k+1)<=E):(acc*10+d+1)*10 ^ k<=E/\acc*10+d<E/\acc*10<E:=by
 rw[Nat.pow_succ] at h
 have h0:0<10 ^ k:=Nat.pow_pos (by decide)
 have h1:(acc*10+d+1)*10 ^ k<=(acc+1)*(10 ^ k*10):=by
  rw[Nat.mul_comm (10 ^ k) 10,<-Nat.mul_assoc]
  exact Nat.mul_le_mul_right _ (by omega)
 have h2:acc*10+d+1<=(acc*10+d+1)*10 ^ k:=Nat.le_mul_of_pos_right _ h0
 omega
theorem parseM (M:Nat) (hM:1000000000000000000<=M):∀ (l:List UInt8) (acc:Nat),(∀ x ∈ l,Vz x)->(acc+1)*10 ^ l.length<=1000000000000000000->Lib.parseUintM M acc l=.ok (valF acc l)
 | [],acc,_,_=>rfl
 | c :: r,acc,hd,hb=>by
  have hc:=hd c (by simp)
  unfold Vz at hc
  obtain⟨b1,b2,b3⟩:=room_step (d:=c.toNat-48) (by omega) hb
  rw[Lib.parseUintM,if_pos hc,if_neg (by omega),if_neg (by omega)]
  exact parseM M hM r _ (fun x hx=>hd x (by simp[hx])) b1
theorem parse10:∀ (l:List UInt8) (acc:Nat),(∀ x ∈ l,Vz x)->(acc+1)*10 ^ l.length<=1000000000000000000->Lib.parseUint10 acc l=.ok (valF acc l)
 | [],acc,_,_=>rfl
 | c :: r,acc,hd,hb=>by
  have hc:=hd c (by simp)
  unfold Vz at hc
  obtain⟨b1,b2,b3⟩:=room_step (d:=c.toNat-48) (by omega) hb
  rw[Lib.parseUint10,if_pos hc,if_neg (by omega),if_neg (by omega)]
  exact parse10 r _ (fun x hx=>hd x (by simp[hx])) b1
theorem time_back (t:Nat) (ht:t<=1099511627776):Lib.parseIntB 64 (Lib.decDigits t)=.ok (t:Int):=by
 obtain⟨d1,d2,d3,d4⟩:=Vx t
 have hl:=Zx t ht
 have hp:Lib.parseUintM (2 ^ 64-1) 0 (Lib.decDigits t)=.ok t:=by
  have h:=parseM (2 ^ 64-1) (by decide) (Lib.decDigits t) 0 d2 (by
   have:10 ^ (Lib.decDigits t).length<=10 ^ 13:=Nat.pow_le_pow_right (by decide) hl
   omega)
  rw[h]
  exact congrArg Lib.NumEnd.ok d1
 cases hd:Lib.decDigits t with
 | nil=>rw[hd] at d3;simp at d3
 | cons c r =>
  have hc:Vz c:=d2 c (by rw[hd];simp)
  unfold Vz at hc
  rw[hd] at hp
  unfold Lib.parseIntB Lib.parseUintB
  simp only
  rw[if_neg (show ¬ (c.toNat=43 ∨ c.toNat=45) by omega),if_neg (show ¬ (c :: r=[]) by simp),hp]
  simp only
  rw[if_neg (by omega),if_neg (by omega),if_neg (by omega)]
theorem zone_back (z:Int) (h1 : -840<=z) (h2:z<=840) (z':Int) (h:PZ (vQ z) z'):z'=z:=by
 obtain⟨hh,eh⟩:∃ x,x=z.natAbs / 60:=⟨_,rfl⟩
 obtain⟨mm,em⟩:∃ x,x=z.natAbs % 60:=⟨_,rfl⟩
 have bh:hh<100:=by omega
 have bm:mm<100:=by omega
 have k1:=y8 (hh / 10) (by omega)
 have k2:=y8 (hh % 10) (by omega)
 have k3:=y8 (mm / 10) (by omega)
 have k4:=y8 (mm % 10) (by omega)
 have hp:Lib.parseUint10 0 (two hh++two mm)=.ok (hh*100+mm):=by
  rw[parse10 (two hh++two mm) 0 (by
   intro x hx
   simp only[two,List.cons_append,List.nil_append,List.mem_cons,List.not_mem_nil,or_false] at hx
   unfold Vz
   rcases hx with rfl | rfl | rfl | rfl <;> omega) (by simp[two])]
  refine congrArg Lib.NumEnd.ok ?_
  simp only[valF,two,List.cons_append,List.nil_append,List.foldl_cons,List.foldl_nil,k1,k2,k3,k4]
  omega
 have hne:¬ (two hh++two mm=[]):=by simp[two]
 by_cases hz:z<0
 ·have hv:Lib.atoiAll (vQ z)=.ok (-((hh*100+mm:Nat):Int)):=by
   unfold vQ
   rw[if_pos hz,<-eh,<-em]
   unfold Lib.atoiAll Lib.parseMag
   simp only
   rw[if_pos (show ((45:UInt8).toNat=43 ∨ (45:UInt8).toNat=45) by decide),if_neg hne,hp]
   simp only
   rw[if_neg (by omega),if_neg (by omega),if_pos (by decide)]
  have h3:=h _ hv (by omega) (by omega)
  rw[h3,Int.neg_tdiv,Int.neg_tmod,Int.tdiv_eq_ediv_of_nonneg (by omega),Int.tmod_eq_emod_of_nonneg (by omega)]
  omega
 ·have hv:Lib.atoiAll (vQ z)=.ok ((hh*100+mm:Nat):Int):=by
   unfold vQ
   rw[if_neg hz,<-eh,<-em]
   unfold Lib.atoiAll Lib.parseMag
   simp only
   rw[if_pos (show ((43:UInt8).toNat=43 ∨ (43:UInt8).toNat=45) by decide),if_neg hne,hp]
   simp only
   rw[if_neg (by omega),if_neg (by omega),if_neg (by decide)]
  have h3:=h _ hv (by omega) (by omega)
  rw[h3,Int.tdiv_eq_ediv_of_nonneg (by omega),Int.tmod_eq_emod_of_nonneg (by omega)]
  omega
theorem pp_back (q:Per) (hq:okP q) (p:Per) (h:PP (qq q) p):p=q:=by
 obtain⟨c1,c2,c3,c4⟩:=per_cut q hq
 have b:=hq.2.2
 obtain⟨_,_,h3⟩:=h
 rw[c1,c2,c3,c4] at h3
 obtain⟨e1,e2,e3,e4⟩:=h3 _ (time_back q.time.toNat (by omega))
 have e5:=zone_back q.zone b.2.1 b.2.2 _ e4
 obtain⟨a1,a2,a3,a4⟩:=p
 obtain⟨b1,b2,b3,b4⟩:=q
 simp only at e1 e2 e3 e5 b
 subst e1
 subst e2
 subst e5
 congr 1
 omega
end Go.Proofs.YticgindfipobiaaGreatDoor
namespace Go.Proofs.YticgindfipobiaaGreatDoor.Hx
open Go.RowKit
set_option maxHeartbeats 1000000 in
theorem parse_ref (s:ByteArray) (w:World) (hl:s.size<=300000) :
  Calls Tryz.prog 69 #[.string s] w fun e w'=>Below w.heap.size w w'/\((s.size=40/\good s->e=.returned (.tuple #[.agg (row (idAt s 40)).toArray,.bool true]))/\(¬ (s.size=40/\good s)->e=.returned (.tuple #[.agg (row zeros).toArray,.bool false]))):=by
 have hi2:∀ l:List Int,l.length=20->(Tryz.prog.info? 31).map (·.size)=some (row l).length:=fun l h=>by rw[zq,h];exact Tryz.info31
 by_cases h40:s.size=40
 ·go_enter Tryz.func69,Tryz.ntmps69
  go_wp2
  go_loopg [5] 40 (fun k i wr=>∃ j:Nat,j<=40/\k=40-j/\i=.int .i64 j/\(∀ k,k<j->0<=hv (sgn s k))/\Hid (wr.heap[w.heap.size+1]? = some (.cells (row (idAt s j)).toArray 31 (0,0)))/\Hid (wr.heap[w.heap.size]? = some (.cells (row zeros).toArray 31 (0,0)))/\Hid (Below w.heap.size w wr))
  case atStart=>exact⟨0,by omega,rfl,rfl,fun k hk=>by omega,heap_alloc2_new w _ _,heap_alloc2_old w _ _,((Below.refl _ _).alloc (Nat.le_refl _) _).alloc (by simp) _⟩
  case round =>
   obtain⟨j,hj,hk,rfl,hgd,H1,H0,HB⟩:=hrel
   by_cases hlt:j<40
   ·obtain⟨c,HC⟩:=nn_ (sgn s j)
    have hix:∀ w1:World,(Instr.index 9 (.string s) (.int .i64 j)).run Tryz.prog w1=.ok (.int .u8 c) w1:=fun w1=>by rw[HC.out];exact index_sgn s j w1 (by omega)
    have hcb:0<=c/\c<256:=by rw[HC.out];exact sgn_bd s j
    obtain⟨m,HM⟩:=nn_ (j / 2)
    have hm:j / 2=m:=HM.out.symm
    have hm2:m<20:=by omega
    obtain⟨x,HX⟩:=nn_ ((idAt s j).getD (j / 2) 0)
    have hcell:wr.cell? ⟨w.heap.size+1,j / 2,none⟩=some (.int .u8 x):=by rw[HX.out];exact qx H1.out (j / 2) (by rw[idAt_len];omega)
    have hfz:=frozen_of_row wr (w.heap.size+1) (j / 2) _ 31 H1.out
    have hxb:0<=x/\x<256:=idAt_bd s j x (by rw[HX.out,List.getD_eq_getElem?_getD,List.getElem?_eq_getElem (by rw[idAt_len];omega)];exact List.getElem_mem _)
    rw[hm] at hcell hfz
    by_cases hd:48<=c/\c<=57
    ·have hvc:hv c=c-48:=by unfold hv;rw[if_pos hd]
     go_wp2
     go_roundg (40-(j+1))
     case measure=>omega
     case rel =>
      refine⟨j+1,by omega,rfl,by go_num,?_,?_,?_,HB.out.setCell (by simp) _⟩
      ·intro k hk
       rcases Nat.lt_or_ge k j with h | h
       ·exact hgd k h
       ·obtain rfl:k=j:=by omega
        rw[<-HC.out,hvc];omega
      ·show _=_
       rw[heap_setCell_same wr _ _ _ _ _ H1.out,idAt,<-HX.out,<-HC.out,hvc,hm,xu,show x*16 % 256+(c-48)=(x*16+(c-48)) % 256 from by omega]
      ·show _=_
       rw[heap_setCell_other wr _ _ _ (by simp)];exact H0.out
    ·by_cases hd2:97<=c/\c<=102
     ·have hvc:hv c=c-87:=by unfold hv;rw[if_neg hd,if_pos hd2]
      have hd1:¬ c<=57:=by omega
      go_wp2
      go_roundg (40-(j+1))
      case measure=>omega
      case rel =>
       refine⟨j+1,by omega,rfl,by go_num,?_,?_,?_,HB.out.setCell (by simp) _⟩
       ·intro k hk
        rcases Nat.lt_or_ge k j with h | h
        ·exact hgd k h
        ·obtain rfl:k=j:=by omega
         rw[<-HC.out,hvc];omega
       ·show _=_
        rw[heap_setCell_same wr _ _ _ _ _ H1.out,idAt,<-HX.out,<-HC.out,hvc,hm,xu,show x*16 % 256+(c-97+10)=(x*16+(c-87)) % 256 from by omega]
       ·show _=_
        rw[heap_setCell_other wr _ _ _ (by simp)];exact H0.out
     ·have hvc:hv c = -1:=by unfold hv;rw[if_neg hd,if_neg hd2]
      have fin:∀ (tm:Array Value),tm.getD 2 undef=.pointer (some ⟨w.heap.size,0,none⟩)->tm.getD 3 undef=.bool false->(results Tryz.f69 tm).run Tryz.prog (wr.setCells w.heap.size 0 (row zeros).toArray.toList)=.ok (.tuple #[.agg (row zeros).toArray,.bool false]) (wr.setCells w.heap.size 0 (row zeros).toArray.toList):=fun tm h2 h3 =>
       zj (t2:=4) Tryz.results69 tm _ w.heap.size _ _ _ h2 h3 (World.rangeAt_setCells_same _ w.heap.size 0 _ (zW H0.out rfl)) Tryz.underlying31 rfl (hi2 _ rfl)
      have bad:Hid (¬ good s):=fun h=>absurd (h j hlt) (by rw[<-HC.out,hvc];omega)
      have HF:Hid (Below w.heap.size w (wr.setCells w.heap.size 0 (row zeros).toArray.toList)):=z7 (Nat.le_refl _) _ _ _ _ HB.out
      rcases(by omega:c<48 ∨ (57<c/\48<=c/\c<97) ∨ (102<c/\97<=c/\57<c/\48<=c)) with h1 | h1 | h1
      all_goals
       go_wp2_with (refine wpList_store_mid rfl 31 _ _ rfl w.heap.size 0 (row zeros).toArray rfl rfl (zW H0.out rfl) (hi2 _ rfl) (all_oneCell_toArray (zV _)) ?_)
       exact bodyPost_ret (v:=.tuple #[.agg (row zeros).toArray,.bool false]) (fin _ rfl rfl) rfl ⟨HF.out,fun h=>absurd h bad.out,fun _=>rfl⟩
   ·obtain rfl:j=40:=by omega
    go_wp2_with (first | refine wpList_load_mid rfl 31 _ rfl (w.heap.size+1) 0 rfl (row (idAt s 40)) _ (zx H1.out) Tryz.underlying31 rfl (hi2 _ (idAt_len s 40)) ?_ | refine wpList_store_mid rfl 31 _ _ rfl w.heap.size 0 (row (idAt s 40)).toArray rfl rfl ?t1 ?t2 ?t3 ?_)
    case t1=>rw[show (row (idAt s 40)).toArray.size=20 from by rw[List.size_toArray,zq,idAt_len]];exact zW H0.out rfl
    case t2=>rw[List.size_toArray];exact hi2 _ (idAt_len s 40)
    case t3=>exact all_oneCell_toArray (zV _)
    ·refine bodyPost_ret (v:=.tuple #[.agg (row (idAt s 40)).toArray,.bool true]) (zj (t2:=4) Tryz.results69 _ _ w.heap.size _ _ _ rfl rfl (World.rangeAt_setCells_same wr w.heap.size 0 _ ?_) Tryz.underlying31 rfl (hi2 _ (idAt_len s 40))) rfl ⟨z7 (Nat.le_refl _) _ _ _ _ HB.out,fun _=>rfl,fun h=>absurd ⟨h40,hgd⟩ h⟩
     rw[zq,idAt_len];exact zW H0.out rfl
 ·have hnq:(s.size:Int) ≠ 40:=by omega
  have H1:Hid (((w.alloc (.cells (row zeros).toArray 31)).alloc (.cells (row zeros).toArray 31)).heap[w.heap.size+1]? = some (.cells (row zeros).toArray 31 (0,0))):=heap_alloc2_new w _ _
  have H0:Hid (((w.alloc (.cells (row zeros).toArray 31)).alloc (.cells (row zeros).toArray 31)).heap[w.heap.size]? = some (.cells (row zeros).toArray 31 (0,0))):=heap_alloc2_old w _ _
  have HB:Hid (Below w.heap.size w ((w.alloc (.cells (row zeros).toArray 31)).alloc (.cells (row zeros).toArray 31))):=((Below.refl _ _).alloc (Nat.le_refl _) _).alloc (by simp) _
  go_enter Tryz.func69,Tryz.ntmps69
  go_wp2_with (first | refine wpList_load_mid rfl 31 _ rfl (w.heap.size+1) 0 rfl (row zeros) _ (zx H1.out) Tryz.underlying31 rfl (hi2 _ rfl) ?_ | refine wpList_store_mid rfl 31 _ _ rfl w.heap.size 0 (row zeros).toArray rfl rfl ?t1 ?t2 ?t3 ?_)
  case t1=>exact zW H0.out rfl
  case t2=>exact hi2 _ rfl
  case t3=>exact all_oneCell_toArray (zV _)
  ·refine bodyPost_ret (v:=.tuple #[.agg (row zeros).toArray,.bool false]) (zj (t2:=4) Tryz.results69 _ _ w.heap.size _ _ _ rfl rfl (World.rangeAt_setCells_same _ w.heap.size 0 _ ?_) Tryz.underlying31 rfl (hi2 _ rfl)) rfl ⟨z7 (Nat.le_refl _) _ _ _ _ HB.out,fun h=>absurd h.1 h40,fun _=>rfl⟩
   exact zW H0.out rfl
end Go.Proofs.YticgindfipobiaaGreatDoor.Hx
