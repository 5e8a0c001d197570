import Derived.Test.YticgindfipobiaaGreatDoorMn14
import Derived.Maps.OwnSet
import Derived.Maps.OwnOps
import Derived.DeepKeys4
set_option linter.unusedSimpArgs false
set_option linter.unusedVariables false
set_option maxRecDepth 20000
set_option maxHeartbeats 4000000
namespace Go.Proofs.YticgindfipobiaaGreatDoor
open Go.RowKit
theorem equal_any (a a2:Option Addr) (cap cap2:Nat) (zs ys:List Int) (w:World) (hS:Sl w a cap zs) (hS2:Sl w a2 cap2 ys) :
  Calls Tryz.prog 110 #[.slice a zs.length cap,.slice a2 ys.length cap2] w fun e w'=>e=.returned (.bool (Lib.bytesOf zs == Lib.bytesOf ys))/\w'=w :=
 Any.bytes_Equal_all Tryz.laysb115 a a2 zs.length cap ys.length cap2 zs ys w rfl rfl hS.bytesIn hS2.bytesIn
def PostB (l:List UInt8) (e:Ending):Prop := ∃ T,TG l T/\(((okG T/\x9 T=l)/\e=.returned (.tuple #[.agg (tgV T).toArray,.nilIface])) ∨ (¬ (okG T/\x9 T=l)/\e=.returned (.tuple #[.agg (tgV (tg0 z20)).toArray,.iface 43 (.int .i64 23)])))
theorem Tryz.results84:Tryz.f84.results=#[.cell 8 163,.tmp 9]:=by kernel_rfl
theorem Tryz.results62:Tryz.f62.results=#[.cell 2 163,.tmp 3]:=by kernel_rfl
theorem TG.lens {l:List UInt8} {T:Tg} (h:TG l T):T.name.length<=l.length/\T.per.name.length<=l.length/\T.per.mail.length<=l.length/\T.msg.length<=l.length:=by
 obtain⟨_,_,h3,h4,h5⟩:=h
 have r1:=vK l
 have r2:=vK (rst l)
 have r3:=vK (rst (rst l))
 have r4:=vK (rst (rst (rst l)))
 have r5:=vK (rst (rst (rst (rst l))))
 have f2:=QY (rst (rst l)) Q0
 have f3:=QY (rst (rst (rst l))) vw
 have h41:=h4.1
 have h42:=h4.2.1
 rw[h3,h5]
 omega
set_option maxHeartbeats 2000000 in
theorem readBack_any (a:Option Addr) (cap:Nat) (zs:List Int) (hl:zs.length<=200000) (hz:IsB zs) (w:World) (ht:Tab w) (he:Ers w) (hm:Mx w) (hS:Sl w a cap zs) :
  Calls Tryz.prog 84 #[.slice a zs.length cap,.int .i64 23,.func (.func 85) #[] #[],.func (.func 86) #[] #[]] w fun e w'=>Below w.heap.size w w'/\PostB (Lib.bytesOf zs) e:=by
 obtain⟨ZV,HZ⟩:=nn_ (tgV (tg0 z20))
 have hz71:=zero71
 rw[<-HZ.out] at hz71
 have HZL:Hid (ZV.length=27):=hid (by rw[HZ.out];exact y9 _ rfl)
 have hi71z:(Tryz.prog.info? 163).map (·.size)=some ZV.length:=by rw[HZL.out];exact Tryz.size163
 have FI:Hid ((Tryz.prog.info? 163).map (·.size)=some ZV.toArray.size):=hid (by rw[List.size_toArray];exact hi71z)
 have FO:Hid (ZV.toArray.all (·.oneCell')=true):=hid (by rw[HZ.out];exact all_oneCell_toArray (uY _))
 obtain⟨n,HN⟩:=nm_ zs.length
 obtain⟨l,HL⟩:=nm_ (Lib.bytesOf zs)
 have HLL:Hid (l.length<=200000):=hid (by rw[<-HL.out,Lib.bytesOf_length];exact hl)
 obtain⟨S,HSS⟩:=nm_ (⟨l.toArray⟩:ByteArray)
 obtain⟨G,HG⟩:=nm_ w.heap.size
 obtain⟨w0,HW0⟩:=nm_ (w.alloc (.cells ZV.toArray 163))
 have HB0:Hid (Below G w w0):=hid (by rw[<-HW0.out,<-HG.out];exact(Below.refl _ w).alloc (Nat.le_refl _) _)
 have HR0:Hid (w0.heap[G]? = some (.cells ZV.toArray 163 (0,0))):=hid (by rw[<-HW0.out,<-HG.out];exact heap_alloc_new w _)
 have HCV:Hid ((convert 26 9 (.slice a n cap)).run Tryz.prog (w.alloc (.cells ZV.toArray 163))=.ok (.string S) (w.alloc (.cells ZV.toArray 163))):=hid (by
  rw[<-HSS.out,<-HL.out,<-HN.out]
  exact conv_str (hS.below (by rw[HW0.out,HG.out];exact HB0.out)))
 have HT:Hid (∀ W,Below G w W->Tab W):=fun W hW=>ht.below (by rw[HG.out];exact hW)
 have HSL:Hid (∀ W,Below G w W->Sl W a cap zs):=fun W hW=>hS.below (by rw[HG.out];exact hW)
 have C1:Hid (Calls Tryz.prog 85 #[.string S] w0 fun e w'=>Below w0.heap.size w0 w'/\PostO l e):=hid (by
  rw[<-HSS.out]
  exact tagOf_any l HLL.out w0 (he.below (by rw[HG.out];exact HB0.out)) (hm.below (by rw[HG.out];exact HB0.out)))
 rw[HN.out,HL.out]
 clear ht he hm hS
 have hcv:=HCV.out
 go_enter Tryz.func84,Tryz.ntmps84
 go_wp2_with fail
 rw[HG.out,HW0.out]
 clear hcv HCV
 refine C1.out.mono ?_
 rintro ev w1 ⟨hb1,T,rfl,htg⟩
 have HTG:Hid (TG l T):=htg
 have HB1:Hid (Below G w w1):=HB0.out.trans (hb1.mono (Nat.le_of_lt (z6 HR0.out)))
 have HR1:Hid (w1.heap[G]? = some (.cells ZV.toArray 163 (0,0))):=hid ((hb1.block G (z6 HR0.out)).trans HR0.out)
 have HID:Hid (T.id.length=20):=htg.1.1
 clear htg hb1
 obtain⟨TV,HTV⟩:=nm_ (tgV T)
 rw[HTV.out]
 have HVL:Hid (TV.length=27):=hid (by rw[<-HTV.out];exact y9 T HID.out)
 have hi71:(Tryz.prog.info? 163).map (·.size)=some TV.length:=by rw[HVL.out];exact Tryz.size163
 have CI:Hid ((Tryz.prog.info? 163).map (·.size)=some TV.toArray.size):=hid (by rw[List.size_toArray];exact hi71)
 have CO:Hid (TV.toArray.all (·.oneCell')=true):=hid (by rw[<-HTV.out];exact all_oneCell_toArray (uY T))
 have D0:Hid ((w1.alloc (.cells ZV.toArray 163)).heap[w1.heap.size]? = some (.cells ZV.toArray 163 (0,0))):=heap_alloc_new w1 _
 have D1:Hid (ZV.toArray.size=TV.toArray.size):=hid (by rw[List.size_toArray,List.size_toArray,HZL.out,HVL.out])
 have D4:Hid (((w1.alloc (.cells ZV.toArray 163)).setRow w1.heap.size TV.toArray).rangeAt w1.heap.size 0 TV):=hid (zx (setRow_heap _ _ _ TV.toArray _ _ D0.out))
 go_wp2_with (first
  | refine wpList_store_row rfl 163 _ _ rfl w1.heap.size TV.toArray rfl rfl 163 ZV.toArray D0.out CI.out D1.out CO.out ?_
  | refine wpList_load_mid rfl 163 _ rfl w1.heap.size 0 rfl TV _ D4.out Tryz.underlying163 rfl hi71 ?_
  | fail)
 obtain⟨H,HH⟩:=nm_ w1.heap.size
 have HGH:Hid (G<H):=hid (by rw[<-HH.out];exact z6 HR1.out)
 obtain⟨w2,HW2⟩:=nm_ ((w1.alloc (.cells ZV.toArray 163)).setRow w1.heap.size TV.toArray)
 have HB2:Hid (Below G w w2):=hid (by rw[<-HW2.out];exact below_setRow (HB1.out.alloc (by rw[HH.out];have:=HGH.out;omega) _) (by rw[HH.out];have:=HGH.out;omega) _)
 have HR2:Hid (w2.heap[G]? = some (.cells ZV.toArray 163 (0,0))):=hid (by
  have hb2:=(Below.refl w1.heap.size w1).alloc (Nat.le_refl _) (.cells ZV.toArray 163)
  rw[<-HW2.out,setRow_other _ _ _ _ (by rw[HH.out];have:=HGH.out;omega)]
  exact(hb2.block _ (by rw[HH.out];exact HGH.out)).trans HR1.out)
 have HV2:Hid (w2.heap[H]? = some (.cells TV.toArray 163 (0,0))):=hid (by rw[<-HW2.out,<-HH.out];exact setRow_heap _ _ _ TV.toArray _ _ D0.out)
 rw[HW2.out,HH.out]
 clear hz71
 have hz71:∀ w:World,(zeroValue 163).run Tryz.prog w=.ok (.agg ZV.toArray) w:=fun w=>by rw[HZ.out];exact zero71 w
 have C2:Hid (Calls Tryz.prog 86 #[.agg TV.toArray] w2 (PostT T w2)):=hid (by
  rw[<-HTV.out]
  have hln:=HTG.out.lens
  have h2:=HLL.out
  exact writeTag_any T HID.out HTG.out.1.2.1 (by omega) (by omega) w2 (HT.out _ HB2.out))
 refine C2.out.mono ?_
 rintro ev w3 ⟨hb3,hor⟩
 have HB3:Hid (Below G w w3):=HB2.out.trans (hb3.mono (Nat.le_of_lt (z6 HR2.out)))
 have HR3:Hid (w3.heap[G]? = some (.cells ZV.toArray 163 (0,0))):=hid ((hb3.block G (z6 HR2.out)).trans HR2.out)
 have HV3:Hid (w3.heap[H]? = some (.cells TV.toArray 163 (0,0))):=hid ((hb3.block H (z6 HV2.out)).trans HV2.out)
 have FL:Hid ((w3.alloc (.cells ZV.toArray 163)).rangeAt w3.heap.size 0 ZV):=hid (zx (heap_alloc_new w3 _))
 have HR4:Hid ((w3.alloc (.cells ZV.toArray 163)).heap[G]? = some (.cells ZV.toArray 163 (0,0))):=hid ((((Below.refl w3.heap.size w3).alloc (Nat.le_refl _) (.cells ZV.toArray 163)).block G (z6 HR3.out)).trans HR3.out)
 have FS:Hid ((w3.alloc (.cells ZV.toArray 163)).there G 0 ZV.toArray.size):=hid (zy HR4.out 0 (by omega))
 have FS':Hid ((w3.alloc (.cells ZV.toArray 163)).there G 0 ZV.length):=hid (zy HR4.out 0 (by rw[List.size_toArray];omega))
 have BAD:Hid (¬ (okG T/\x9 T=l)->(Below w.heap.size w ((w3.alloc (.cells ZV.toArray 163)).setCells G 0 ZV)/\PostB l (.returned (.tuple #[.agg ZV.toArray,.iface 43 (.int .i64 23)])))):=fun hno=>by
  refine⟨by rw[HG.out];exact z7 (Nat.le_refl _) _ _ _ _ (HB3.out.alloc (Nat.le_of_lt (z6 HR3.out)) _),T,HTG.out,.inr ⟨hno,?_⟩⟩
  rw[HZ.out]
 clear hb3
 rcases hor with ⟨hok,g,cp,rfl,hge,hmk⟩ | ⟨hno,rfl⟩
 rotate_left
 ·have HNO:Hid (¬ (okG T/\x9 T=l)):=fun h=>hno h.1
  clear hno
  go_wp2_with (first
   | refine wpList_load_mid rfl 163 _ rfl w3.heap.size 0 rfl ZV _ FL.out Tryz.underlying163 rfl hi71z ?_
   | refine wpList_store_mid rfl 163 _ _ rfl G 0 ZV.toArray rfl rfl FS.out FI.out FO.out ?_)
  refine bodyPost_ret (v:=.tuple #[.agg ZV.toArray,.iface 43 (.int .i64 23)]) (zj Tryz.results84 _ _ G ZV _ rfl (World.rangeAt_setCells_same _ G 0 _ FS'.out) Tryz.underlying163 rfl hi71z) rfl ?_
  exact BAD.out HNO.out
 have HOK:Hid (okG T):=hok
 have HMK:Hid (Mk w3 g cp (q8 (x9 T))):=hmk
 clear hok hmk hge
 obtain⟨eq,HEQ⟩:=nm_ (x9 T == l)
 obtain⟨tl,HTL⟩:=nm_ ((x9 T).length)
 have CE:Hid (Calls Tryz.prog 110 #[.slice (some ⟨g,0,none⟩) tl cp,.slice a n cap] w3 fun e w'=>e=.returned (.bool eq)/\w'=w3):=hid (by
  have h:=equal_any (some ⟨g,0,none⟩) a cp cap (q8 (x9 T)) zs w3 HMK.out.sl (HSL.out _ HB3.out)
  rw[zK,HTL.out,xQ,HL.out,HEQ.out,HN.out] at h
  exact h)
 rw[HTL.out]
 go_wp2_with fail
 refine CE.out.mono ?_
 rintro ev w3' ⟨rfl,hw3⟩
 have hw3':=hw3.symm
 subst hw3'
 clear hw3
 cases eq with
 | false =>
  have HNO:Hid (¬ (okG T/\x9 T=l)):=fun h=>by have h2:=HEQ.out;rw[h.2] at h2;simp at h2
  go_wp2_with (first
   | refine wpList_load_mid rfl 163 _ rfl w3.heap.size 0 rfl ZV _ FL.out Tryz.underlying163 rfl hi71z ?_
   | refine wpList_store_mid rfl 163 _ _ rfl G 0 ZV.toArray rfl rfl FS.out FI.out FO.out ?_)
  refine bodyPost_ret (v:=.tuple #[.agg ZV.toArray,.iface 43 (.int .i64 23)]) (zj Tryz.results84 _ _ G ZV _ rfl (World.rangeAt_setCells_same _ G 0 _ FS'.out) Tryz.underlying163 rfl hi71z) rfl ?_
  exact BAD.out HNO.out
 | true =>
  have HYE:Hid (x9 T=l):=hid (by have h2:=HEQ.out;simpa using h2)
  have GL:Hid (w3.rangeAt H 0 TV):=hid (zx HV3.out)
  have GS:Hid (w3.there G 0 TV.toArray.size):=hid (zy HR3.out 0 (by rw[<-D1.out];omega))
  have GS':Hid (w3.there G 0 TV.length):=hid (zy HR3.out 0 (by rw[List.size_toArray,HZL.out,HVL.out];omega))
  go_wp2_with (first
   | refine wpList_load_mid rfl 163 _ rfl H 0 rfl TV _ GL.out Tryz.underlying163 rfl hi71 ?_
   | refine wpList_store_mid rfl 163 _ _ rfl G 0 TV.toArray rfl rfl GS.out CI.out CO.out ?_)
  refine bodyPost_ret (v:=.tuple #[.agg TV.toArray,.nilIface]) (zj Tryz.results84 _ _ G TV _ rfl (World.rangeAt_setCells_same _ G 0 _ GS'.out) Tryz.underlying163 rfl hi71) rfl ⟨?_,?_⟩
  ·rw[HG.out]
   exact z7 (Nat.le_refl _) _ _ _ _ HB3.out
  ·exact⟨T,HTG.out,.inl ⟨⟨HOK.out,HYE.out⟩,by rw[HTV.out]⟩⟩
theorem PostB.form {l:List UInt8} {e:Ending} (h:PostB l e):∃ (X:Tg) (ev:Value),e=.returned (.tuple #[.agg (tgV X).toArray,ev])/\X.id.length=20:=by
 obtain⟨T,htg,⟨_,rfl⟩ | ⟨_,rfl⟩⟩:=h
 ·exact⟨T,_,rfl,htg.1.1⟩
 ·exact⟨tg0 z20,_,rfl,rfl⟩
set_option maxHeartbeats 1000000 in
theorem readTag_any (a:Option Addr) (cap:Nat) (zs:List Int) (hl:zs.length<=200000) (hz:IsB zs) (w:World) (ht:Tab w) (he:Ers w) (hm:Mx w) (hS:Sl w a cap zs) :
  Calls Tryz.prog 62 #[.slice a zs.length cap] w fun e w'=>Below w.heap.size w w'/\PostB (Lib.bytesOf zs) e:=by
 obtain⟨ZV,HZ⟩:=nn_ (tgV (tg0 z20))
 have hz71:=zero71
 rw[<-HZ.out] at hz71
 have HZL:Hid (ZV.length=27):=hid (by rw[HZ.out];exact y9 _ rfl)
 obtain⟨n,HN⟩:=nm_ zs.length
 obtain⟨G,HG⟩:=nm_ w.heap.size
 obtain⟨w0,HW0⟩:=nm_ (w.alloc (.cells ZV.toArray 163))
 have HB0:Hid (Below G w w0):=hid (by rw[<-HW0.out,<-HG.out];exact(Below.refl _ w).alloc (Nat.le_refl _) _)
 have HR0:Hid (w0.heap[G]? = some (.cells ZV.toArray 163 (0,0))):=hid (by rw[<-HW0.out,<-HG.out];exact heap_alloc_new w _)
 have C1:Hid (Calls Tryz.prog 84 #[.slice a n cap,.int .i64 23,.func (.func 85) #[] #[],.func (.func 86) #[] #[]] w0 fun e w'=>Below w0.heap.size w0 w'/\PostB (Lib.bytesOf zs) e):=hid (by
  have hb:Below w.heap.size w w0:=by rw[HG.out];exact HB0.out
  rw[<-HN.out]
  exact readBack_any a cap zs hl hz w0 (ht.below hb) (he.below hb) (hm.below hb) (hS.below hb))
 rw[HN.out]
 clear ht he hm hS
 go_enter Tryz.func62,Tryz.ntmps62
 go_wp2_with fail
 rw[HG.out,HW0.out]
 refine C1.out.mono ?_
 rintro ev w1 ⟨hb1,hpb⟩
 obtain⟨X,ev2,rfl,hx⟩:=hpb.form
 have HPB:Hid (PostB (Lib.bytesOf zs) (.returned (.tuple #[.agg (tgV X).toArray,ev2]))):=hpb
 have HB1:Hid (Below G w w1):=HB0.out.trans (hb1.mono (Nat.le_of_lt (z6 HR0.out)))
 have HR1:Hid (w1.heap[G]? = some (.cells ZV.toArray 163 (0,0))):=hid ((hb1.block G (z6 HR0.out)).trans HR0.out)
 have HID:Hid (X.id.length=20):=hx
 clear hpb hb1 hx
 obtain⟨TV,HTV⟩:=nm_ (tgV X)
 rw[HTV.out] at HPB
 rw[HTV.out]
 have HVL:Hid (TV.length=27):=hid (by rw[<-HTV.out];exact y9 X HID.out)
 have hi71:(Tryz.prog.info? 163).map (·.size)=some TV.length:=by rw[HVL.out];exact Tryz.size163
 have CI:Hid ((Tryz.prog.info? 163).map (·.size)=some TV.toArray.size):=hid (by rw[List.size_toArray];exact hi71)
 have CO:Hid (TV.toArray.all (·.oneCell')=true):=hid (by rw[<-HTV.out];exact all_oneCell_toArray (uY X))
 have GS:Hid (w1.there G 0 TV.toArray.size):=hid (zy HR1.out 0 (by rw[List.size_toArray,List.size_toArray,HZL.out,HVL.out];omega))
 have GS':Hid (w1.there G 0 TV.length):=hid (zy HR1.out 0 (by rw[List.size_toArray,HZL.out,HVL.out];omega))
 go_wp2_with (refine wpList_store_mid rfl 163 _ _ rfl G 0 TV.toArray rfl rfl GS.out CI.out CO.out ?_)
 refine bodyPost_ret (v:=.tuple #[.agg TV.toArray,ev2]) (zj Tryz.results62 _ _ G TV _ rfl (World.rangeAt_setCells_same _ G 0 _ GS'.out) Tryz.underlying163 rfl hi71) rfl ⟨?_,HPB.out⟩
 rw[HG.out]
 exact z7 (Nat.le_refl _) _ _ _ _ HB1.out
def WfI (ids:List (List Int)):Prop := ∀ x ∈ ids,x.length=20/\∀ n ∈ x,0<=n/\n<256
structure Pa (w:World) (a:Option Addr) (cap:Nat) (ids:List (List Int)):Prop where
 capl:ids.length<=cap
 at_:0<ids.length->∃ b off,a=some ⟨b,off,none⟩/\b<w.heap.size/\∀ i,i<ids.length->w.rangeAt b (off+i*20) (row .u8 (ids.getD i []))
 nil:a=none->cap=0
theorem Pa.below {w w':World} {a:Option Addr} {cap:Nat} {ids:List (List Int)} (h:Pa w a cap ids) (hb:Below w.heap.size w w'):Pa w' a cap ids :=
 ⟨h.capl,fun h0=>by
  obtain⟨b,off,e1,e2,e3⟩:=h.at_ h0
  exact⟨b,off,e1,Nat.lt_of_lt_of_le e2 hb.size,fun i hi j v hv=>(hb.cell (p:=⟨b,off+i*20+j,none⟩) e2).trans (e3 i hi j v hv)⟩,h.nil⟩
theorem mapM_some {α β:Type} (f:α->Option β):∀ l:List α,(∀ i ∈ l,∃ y,f i=some y)->∃ ys,l.mapM f=some ys
 | [],_=>⟨[],rfl⟩
 | a :: r,h=>by
  obtain⟨y,hy⟩:=h a (by simp)
  obtain⟨ys,hys⟩:=mapM_some f r (fun i hi=>h i (by simp[hi]))
  exact⟨y :: ys,by simp[List.mapM_cons,hy,hys]⟩
theorem types333:Tryz.prog.types.size=358:=by kernel_rfl
theorem cellsOf5:Tryz.prog.cellsOf 5=1:=by kernel_rfl
theorem cellsOf32:Tryz.prog.cellsOf 56=20:=by kernel_rfl
theorem keyed32:Maps.Keyed Tryz.prog 56:=Maps.Keyed.of_law (deep_law_laid (m:=10) (by kernel_rfl) (by decide) (of_decide_eq_true (by kernel_rfl)) (by kernel_rfl) (by kernel_rfl))
theorem Xy (x:List Int) (h:x.length=20) (hb:∀ n ∈ x,0<=n/\n<256):∃ kl,keyOf Tryz.prog 56 (.agg (row .u8 x).toArray)=some kl:=by
 have hlen:(row .u8 x).length=20:=by rw[zq];exact h
 have hform:(Value.agg (row .u8 x).toArray).formed Tryz.prog 56=true:=by
  simp[Value.formed,Tryz.underlying56,hlen,cellsOf32]
 have hlits:∃ ls,Tryz.prog.keyLits 359 56 (row .u8 x)=some ls:=by
  obtain⟨ys,hys⟩:=mapM_some (fun i=>Tryz.prog.keyLits 358 5 (((row .u8 x).drop (i*Tryz.prog.cellsOf 5)).take (Tryz.prog.cellsOf 5))) (List.range 20) (fun i hi=>by
   have hi2:i<20:=List.mem_range.1 hi
   refine⟨[.int .u8 (x[i]'(by omega))],?_⟩
   have e:((row .u8 x).drop (i*Tryz.prog.cellsOf 5)).take (Tryz.prog.cellsOf 5)=[.int .u8 (x[i]'(by omega))]:=by
    rw[cellsOf5,Nat.mul_one,List.drop_eq_getElem_cons (by omega)]
    simp[row]
   rw[e]
   have hw:(Lit.int .u8 (x[i]'(by omega))).wf=true:=by
    have:=hb _ (List.getElem_mem (l:=x) (n:=i) (by omega))
    exact WalkArith.wf_u8 ⟨this.1,by omega⟩
   unfold Program.keyLits
   rw[Tryz.underlying5]
   simp[hw])
  refine⟨ys.flatten,?_⟩
  unfold Program.keyLits
  rw[Tryz.underlying56]
  simp only[cellsOf32,hlen,if_true]
  rw[hys]
  rfl
 obtain⟨ls,hls⟩:=hlits
 refine⟨.string (keyBytes ls),?_⟩
 unfold keyOf
 rw[Tryz.underlying56]
 simp only
 rw[if_pos (by rw[hform];kernel_rfl),types333]
 show Option.map _ (Tryz.prog.keyLits (358+1) 56 (row .u8 x))=_
 rw[hls]
 rfl
theorem row_inj {x y:List Int} (h:(Value.agg (row .u8 x).toArray)=.agg (row .u8 y).toArray):x=y:=by
 injection h with h
 have h2:row .u8 x=row .u8 y:=by simpa using congrArg Array.toList h
 unfold row at h2
 exact List.map_inj_right (fun a b e=>by injection e) |>.1 h2
def DI (l:List (List Int)) (i:Nat) (D:DataW Unit):Prop:=(∀ kl,Maps.has D kl=true ↔ ∃ x ∈ l,keyOf Tryz.prog 56 (.agg (row .u8 x).toArray)=some kl)/\Maps.size D<=i/\(Maps.size D=i ↔ l.Nodup)
theorem di_zero:DI [] 0 (.map []):=⟨fun kl=>by simp[Maps.has],Nat.le_refl _,by simp[Maps.size]⟩
theorem DI.step {l:List (List Int)} {i:Nat} {D:DataW Unit} (h:DI l i D) (ht:Maps.Tidy D) (x:List Int) (kl:Lit) (hk:keyOf Tryz.prog 56 (.agg (row .u8 x).toArray)=some kl) (d:DataW Unit):DI (l++[x]) (i+1) (D.put kl d):=by
 obtain⟨h1,h2,h3⟩:=h
 have hx:Maps.has D kl=true ↔ x ∈ l:=by
  rw[h1]
  constructor
  ·rintro⟨y,hy,e⟩
   rw[<-row_inj (keyed32.inj e hk)]
   exact hy
  ·intro hx;exact⟨x,hx,hk⟩
 refine⟨fun kl'=>?_,?_,?_⟩
 ·by_cases e:kl'=kl
  ·subst e
   rw[Maps.has_put_same ht.isMap (keyed32.key hk)]
   simp only[true_iff]
   exact⟨x,by simp,hk⟩
  ·rw[Maps.has_put_other e,h1]
   constructor
   ·rintro⟨y,hy,e2⟩;exact⟨y,by simp[hy],e2⟩
   ·rintro⟨y,hy,e2⟩
    rcases List.mem_append.1 hy with hy | hy
    ·exact⟨y,hy,e2⟩
    ·have:y=x:=by simpa using hy
     subst this
     rw[hk] at e2
     exact absurd (Option.some.inj e2).symm e
 ·rw[Maps.size_put ht]
  split <;> omega
 ·rw[Maps.size_put ht,List.nodup_append]
  by_cases hm:x ∈ l
  ·rw[if_pos (hx.2 hm)]
   constructor
   ·intro e;omega
   ·rintro⟨_,_,h⟩
    exact absurd rfl (h x hm x (by simp))
  ·rw[if_neg (fun e=>hm (hx.1 e))]
   constructor
   ·intro e
    refine⟨h3.1 (by omega),by simp,fun a ha b hb e2=>?_⟩
    have:b=x:=by simpa using hb
    rw[e2,this] at ha
    exact hm ha
   ·rintro⟨h,_,_⟩
    have:=h3.2 h
    omega
theorem zero32 (w:World):(zeroValue 56).run Tryz.prog w=.ok (.agg (row .u8 z20).toArray) w:=by kernel_rfl
theorem uQ (ids:List (List Int)) (i:Nat) (h:i<ids.length):ids.take (i+1)=ids.take i++[ids.getD i []]:=by
 rw[List.take_add_one,List.getD_eq_getElem?_getD,List.getElem?_eq_getElem h]
 rfl
theorem run_makeMap_some (n:Nat) (hn:n<=1000) (w:World):(Instr.makeMap 69 (some (.int .i64 (n:Int)))).run Tryz.prog w=.ok (.map (some w.heap.size)) (w.alloc (.map #[] 0)):=by
 have h:¬ (n:Int)<0:=by omega
 unfold Instr.makeMap
 go_simp
set_option maxHeartbeats 1000000 in
theorem differ_any (a:Option Addr) (cap:Nat) (ids:List (List Int)) (hwf:WfI ids) (hn:ids.length<=1000) (w:World) (hP:Pa w a cap ids) :
  Calls Tryz.prog 160 #[.slice a ids.length cap] w fun e w'=>BIs ids.Nodup e/\Below w.heap.size w w':=by
 obtain⟨n,HN⟩:=nm_ ids.length
 obtain⟨G,HG⟩:=nm_ w.heap.size
 have hnn:n<=1000:=by rw[<-HN.out];exact hn
 obtain⟨zr,HZ⟩:=nn_ ((row .u8 z20).toArray)
 have hz32:∀ w:World,(zeroValue 56).run Tryz.prog w=.ok (.agg zr) w:=fun w=>by rw[HZ.out];exact zero32 w
 have HPA:Hid (∀ W,Below G w W->Pa W a cap ids):=fun W hW=>hP.below (by rw[HG.out];exact hW)
 have HPL:Hid (0<n->∃ b off,a=some ⟨b,off,none⟩/\b<G):=fun h0=>by
  obtain⟨b,off,e1,e2,_⟩:=hP.at_ (by rw[HN.out];exact h0)
  exact⟨b,off,e1,by rw[<-HG.out];exact e2⟩
 obtain⟨w1,HW1⟩:=nm_ (w.alloc (.map #[] 0))
 have OW1:Hid (w1.ownsMap (H:=Unit) Tryz.prog 56 (plainElem Tryz.prog 3) G 0 (.map [])):=hid (by rw[<-HW1.out,<-HG.out];exact World.ownsMap_made _ _ _ _)
 have HB1:Hid (Below G w w1):=hid (by rw[<-HW1.out,<-HG.out];exact(Below.refl _ w).alloc (Nat.le_refl _) _)
 have hmm:(Instr.makeMap 69 (some (.int .i64 (n:Int)))).run Tryz.prog w=.ok (.map (some w.heap.size)) (w.alloc (.map #[] 0)):=run_makeMap_some n hnn w
 rw[HN.out]
 clear hP
 go_enter Tryz.func160,Tryz.ntmps160
 go_wp2_with fail
 rw[HG.out,HW1.out]
 go_loopg [11] n (fun g v wr=>∃ (i:Nat) (D:DataW Unit),i<=n/\v=.int .i64 i/\g=n-i/\Hid (wr.ownsMap (H:=Unit) Tryz.prog 56 (plainElem Tryz.prog 3) G i D)/\Hid (Below G w wr)/\Hid (DI (ids.take i) i D))
 case atStart=>exact⟨0,_,Nat.zero_le _,rfl,rfl,OW1,HB1,hid (by rw[List.take_zero];exact di_zero)⟩
 case round =>
  obtain⟨i,D,hi,rfl,hk,OW,HB,HD⟩:=hrel
  by_cases hlt:i<n
  ·have hlti:(i:Int)<(n:Int):=by omega
   obtain⟨b,off,hae,hbG⟩:=HPL.out (by omega)
   subst hae
   obtain⟨b',off',e1,e2,e3⟩:=(HPA.out wr HB.out).at_ (by rw[HN.out];omega)
   cases e1
   obtain⟨x,HX⟩:=nm_ (ids.getD i [])
   have hxm:x ∈ ids:=by
    rw[<-HX.out,List.getD_eq_getElem?_getD,List.getElem?_eq_getElem (by rw[HN.out];exact hlt)]
    exact List.getElem_mem _
   obtain⟨hx20,hxb⟩:=hwf x hxm
   obtain⟨kl,hkl⟩:=Xy x hx20 hxb
   obtain⟨RF,HRF⟩:=nm_ (row .u8 x)
   have HKL:Hid (keyOf Tryz.prog 56 (.agg RF.toArray)=some kl):=hid (by rw[<-HRF.out];exact hkl)
   have HKX:Hid (keyOf Tryz.prog 56 (.agg (row .u8 x).toArray)=some kl):=hkl
   have RR:Hid (wr.rangeAt b (off+i*20) RF):=hid (by rw[<-HRF.out,<-HX.out];exact e3 i (by rw[HN.out];exact hlt))
   have HFN:Hid (RF.length=20):=hid (by rw[<-HRF.out,zq];exact hx20)
   have hi32:(Tryz.prog.info? 56).map (·.size)=some RF.length:=by rw[HFN.out];exact Tryz.size56
   have I32:Hid ((Tryz.prog.info? 56).map (·.size)=some RF.toArray.size):=hid (by rw[List.size_toArray];exact hi32)
   have E32:Hid (zr.size=RF.toArray.size):=hid (by rw[HZ.out,List.size_toArray,List.size_toArray,HFN.out];rfl)
   have O32:Hid (RF.toArray.all (·.oneCell')=true):=hid (by rw[<-HRF.out];exact all_oneCell_toArray (zV _ _))
   have D0:Hid ((wr.alloc (.cells zr 56)).heap[wr.heap.size]? = some (.cells zr 56 (0,0))):=heap_alloc_new wr _
   obtain⟨w2,HW2⟩:=nm_ ((wr.alloc (.cells zr 56)).setRow wr.heap.size RF.toArray)
   obtain⟨H,HH⟩:=nm_ wr.heap.size
   have hb2:Below wr.heap.size wr w2:=by rw[<-HW2.out];exact below_setRow ((Below.refl _ wr).alloc (Nat.le_refl _) _) (Nat.le_refl _) _
   have R2:Hid (w2.rangeAt H 0 RF):=hid (by rw[<-HW2.out,<-HH.out];exact zx (setRow_heap _ _ _ RF.toArray _ _ D0.out))
   have OW2:Hid (w2.ownsMap (H:=Unit) Tryz.prog 56 (plainElem Tryz.prog 3) G i D):=OW.out.kept (row:=none) (zw hb2 _) (by simp)
   have HB2:Hid (Below G w w2):=HB.out.trans (hb2.mono (Nat.le_of_lt OW.out.lt))
   have HWF:Hid ((Lit.int .i64 (i:Int)).wf=true):=hid (WalkArith.wf_i64 (by omega))
   clear hb2 hkl hxm hx20 hxb e3 e2
   go_wp2_with (first
    | refine wpList_load_mid rfl 56 _ rfl b (off+i*20) rfl RF _ RR.out Tryz.underlying56 rfl hi32 ?_
    | (refine wpList_store_row rfl 56 _ _ rfl wr.heap.size RF.toArray rfl rfl 56 zr D0.out I32.out E32.out O32.out ?_;rw[HW2.out,HH.out])
    | refine wpList_load_mid rfl 56 _ rfl H 0 rfl RF _ R2.out Tryz.underlying56 rfl hi32 ?_
    | (at_mapUpdate;refine wpList_mapUpdate_own _ rfl _ _ _ 69 rfl 56 3 keyed32 Tryz.underlying69 _ G i D rfl OW2.out (by unfold maxLen;omega) _ _ kl rfl rfl HKL.out _ [] (plainElem_int Tryz.underlying3 HWF.out) ?_;intro w3 hown3 hgrow3;have OW3:Hid _:=hown3;have HB3:Hid (Below G w w3):=HB2.out.grown hgrow3 (Nat.le_of_lt OW2.out.lt) (fun j hj=>by cases hj;exact Nat.le_refl _);clear hown3 hgrow3))
   go_roundg (n-(i+1))
   case measure=>omega
   case rel =>
    refine⟨i+1,_,by omega,by go_num,rfl,OW3,HB3,hid ?_⟩
    rw[uQ ids i (by rw[HN.out];exact hlt),HX.out]
    exact HD.out.step (OW2.out.tidy keyed32) x kl HKX.out _
  ·have hlti:¬ (i:Int)<(n:Int):=by omega
   have hin:i=n:=by omega
   have HDN:Hid (Maps.size D=n ↔ ids.Nodup):=hid (by
    have:=HD.out.2.2
    rw[hin,List.take_of_length_le (by rw[HN.out];omega)] at this
    exact this)
   obtain⟨sz,HSZ⟩:∃ sz,Maps.size D=sz:=⟨_,rfl⟩
   obtain⟨eq,HEQ⟩:∃ b:Bool,((sz:Int) == (n:Int))=b:=⟨_,rfl⟩
   have FIN:Hid (BIs ids.Nodup (.returned (.bool eq))):=⟨eq,rfl,by
    rw[<-HDN.out,HSZ,<-HEQ]
    simp only[beq_iff_eq]
    omega⟩
   go_wp2_with (first
    | (at_len;refine wpList_len_own _ rfl _ 69 rfl 56 3 Tryz.underlying69 _ G i D rfl OW.out ?_;rw[HSZ]))
   go_ret
   exact⟨FIN.out,by rw[HG.out];exact HB.out⟩
structure Cm where
 tree:List Int
 ids:List (List Int)
 au:Per
 co:Per
 msg:List UInt8
def cmT (c:Cm) (a:Option Addr) (cap:Nat):List Value:=[.slice a c.ids.length cap,.string ⟨c.au.name.toArray⟩,.string ⟨c.au.mail.toArray⟩,.int .i64 c.au.time,.int .i64 c.au.zone,.string ⟨c.co.name.toArray⟩,.string ⟨c.co.mail.toArray⟩,.int .i64 c.co.time,.int .i64 c.co.zone,.string ⟨c.msg.toArray⟩]
def cmV (c:Cm) (a:Option Addr) (cap:Nat):List Value:=row .u8 c.tree++cmT c a cap
def WfC (c:Cm):Prop:=(c.tree.length=20/\∀ n ∈ c.tree,0<=n/\n<256)/\WfI c.ids
def okC (c:Cm):Prop:=c.ids.length<=8/\c.ids.Nodup/\okP c.au/\okP c.co/\uz c.msg=true
theorem qu (c:Cm) (a:Option Addr) (cap:Nat) (h:c.tree.length=20):(cmV c a cap).length=30:=by simp[cmV,cmT,zq,h]
theorem cmV_at (c:Cm) (a:Option Addr) (cap:Nat) (h:c.tree.length=20) (i:Nat):(cmV c a cap)[20+i]? = (cmT c a cap)[i]? := by
 have hl:(row .u8 c.tree).length=20:=by rw[zq];exact h
 unfold cmV
 rw[List.getElem?_append_right (by omega),hl,Nat.add_sub_cancel_left]
theorem xq (c:Cm) (a:Option Addr) (cap:Nat):∀ v ∈ cmV c a cap,v.oneCell'=true:=by
 intro v hv
 unfold cmV at hv
 rcases List.mem_append.1 hv with hv | hv
 ·exact zV _ _ v hv
 ·simp only[cmT,List.mem_cons,List.not_mem_nil,or_false] at hv
  rcases hv with rfl | rfl | rfl | rfl | rfl | rfl | rfl | rfl | rfl | rfl <;> rfl
theorem get_ofV {l:List Value} {i:Nat} {v:Value} (h:l[i]? = some v) (hi:i<l.length):l[i]'hi=v:=by
 rw[List.getElem?_eq_getElem hi] at h
 exact Option.some.inj h
structure Bk (H:Nat) (TV:List Value) (ty:TypeId) (W:World):Prop where
 box:W.heap[H]? = some (.cells TV.toArray ty (0,0))
theorem Bk.below {H:Nat} {TV:List Value} {ty:TypeId} {W W':World} (h:Bk H TV ty W) (hb:Below W.heap.size W W'):Bk H TV ty W':=⟨(hb.block _ (z6 h.box)).trans h.box⟩
theorem Bk.lt {H:Nat} {TV:List Value} {ty:TypeId} {W:World} (h:Bk H TV ty W):H<W.heap.size:=z6 h.box
theorem Bk.range {H:Nat} {TV:List Value} {ty:TypeId} {W:World} (h:Bk H TV ty W):W.rangeAt H 0 TV:=zx h.box
structure BoxC (H:Nat) (c:Cm) (a:Option Addr) (cap:Nat) (W:World):Prop where
 id:W.rangeAt H 0 (row .u8 c.tree)
 c20:W.cell? ⟨H,20,none⟩=some (.slice a c.ids.length cap)
 au:W.rangeAt H 21 (qK c.au).toList
 co:W.rangeAt H 25 (qK c.co).toList
 c29:W.cell? ⟨H,29,none⟩=some (.string ⟨c.msg.toArray⟩)
theorem Bk.cells {H:Nat} {ty:TypeId} {W:World} {c:Cm} {a:Option Addr} {cap:Nat} {TV:List Value} (h:Bk H TV ty W) (hv:cmV c a cap=TV) (hl:c.tree.length=20):BoxC H c a cap W:=by
 subst hv
 have hr:=zx h.box
 have hlr:(row .u8 c.tree).length=20:=by rw[zq];exact hl
 have g2:∀ (i:Nat) (v:Value),(cmT c a cap)[i]? = some v->W.cell? ⟨H,20+i,none⟩=some v:=fun i v hv=>by
  have:=hr (20+i) v ((cmV_at c a cap hl i).trans hv)
  rwa [Nat.zero_add] at this
 refine⟨fun j v hv=>?_,g2 0 _ rfl,?_,?_,g2 9 _ rfl⟩
 ·refine hr j v ?_
  unfold cmV
  rw[List.getElem?_append_left (by obtain⟨h1,_⟩:=List.getElem?_eq_some_iff.1 hv;exact h1)]
  exact hv
 ·intro j v hv
  match j,hv with
  | 0,hv=>exact(g2 1 _ rfl).trans hv
  | 1,hv=>exact(g2 2 _ rfl).trans hv
  | 2,hv=>exact(g2 3 _ rfl).trans hv
  | 3,hv=>exact(g2 4 _ rfl).trans hv
  | j+4,hv=>simp[qK] at hv
 ·intro j v hv
  match j,hv with
  | 0,hv=>exact(g2 5 _ rfl).trans hv
  | 1,hv=>exact(g2 6 _ rfl).trans hv
  | 2,hv=>exact(g2 7 _ rfl).trans hv
  | 3,hv=>exact(g2 8 _ rfl).trans hv
  | j+4,hv=>simp[qK] at hv
set_option maxHeartbeats 1000000 in
theorem isCommit_any (c:Cm) (hf:WfC c) (a:Option Addr) (cap:Nat) (h4:c.msg.length<=1000000) (w:World) (hP:Pa w a cap c.ids) :
  Calls Tryz.prog 123 #[.agg (cmV c a cap).toArray] w fun e w'=>BIs (okC c) e/\Below w.heap.size w w':=by
 obtain⟨TV,HTV⟩:=nm_ (cmV c a cap)
 have hvl:TV.length=30:=by rw[<-HTV.out];exact qu c a cap hf.1.1
 obtain⟨n,HN⟩:=nm_ c.ids.length
 obtain⟨M,HMM⟩:=nm_ (⟨c.msg.toArray⟩:ByteArray)
 obtain⟨ms,HMSB⟩:=nm_ (uz c.msg)
 obtain⟨PA,HPA⟩:=nm_ ((qK c.au).toList)
 obtain⟨PC,HPC⟩:=nm_ ((qK c.co).toList)
 have hiA:(Tryz.prog.info? 156).map (·.size)=some PA.length:=by rw[<-HPA.out];exact Tryz.size156
 have hiC:(Tryz.prog.info? 156).map (·.size)=some PC.length:=by rw[<-HPC.out];exact Tryz.size156
 have hA20:TV[20]'(by omega)=.slice a n cap:=get_ofV (by rw[<-HTV.out,<-HN.out];exact cmV_at c a cap hf.1.1 0) _
 obtain⟨G,HG⟩:=nm_ w.heap.size
 obtain⟨w0,HW0⟩:=nm_ (w.alloc (.cells TV.toArray 158))
 have HB0:Hid (Below G w w0):=hid (by rw[<-HW0.out,<-HG.out];exact(Below.refl _ w).alloc (Nat.le_refl _) _)
 have BG0:Hid (Bk G TV 158 w0):=⟨by rw[<-HW0.out,<-HG.out];exact heap_alloc_new w _⟩
 have HC:Hid (∀ W,Bk G TV 158 W->BoxC G c a cap W):=fun W hW=>hW.cells HTV.out hf.1.1
 have HPE:Hid (∀ w,Calls Tryz.prog 161 #[.agg PA.toArray] w fun e w'=>BIs (okP c.au) e/\Below w.heap.size w w'):=fun w=>by rw[<-HPA.out];exact ZQ c.au w
 have HPF:Hid (∀ w,Calls Tryz.prog 161 #[.agg PC.toArray] w fun e w'=>BIs (okP c.co) e/\Below w.heap.size w w'):=fun w=>by rw[<-HPC.out];exact ZQ c.co w
 have HMS:Hid (∀ w,Calls Tryz.prog 162 #[.string M] w fun e w'=>e=.returned (.bool ms)/\w'=w):=fun w=>by rw[<-HMM.out,<-HMSB.out];exact X0 c.msg w h4
 have HDF:Hid (n<=8->∀ W,Below G w W->Calls Tryz.prog 160 #[.slice a n cap] W fun e w'=>BIs c.ids.Nodup e/\Below W.heap.size W w'):=fun hn W hW=>by
  have:=differ_any a cap c.ids hf.2 (by rw[HN.out];omega) W (hP.below (by rw[HG.out];exact hW))
  rw[HN.out] at this
  exact this
 rw[HTV.out]
 clear hP
 by_cases hn8:n<=8
 ·have hn8i:(n:Int)<=8:=by omega
  go_enter Tryz.func123,Tryz.ntmps123
  go_wp2_with fail
  rw[HG.out,HW0.out]
  clear hA20 hvl
  refine(HDF.out hn8 w0 HB0.out).mono ?_
  rintro ev w1 ⟨hb,hb1⟩
  have HB1:Hid (Below G w w1):=HB0.out.trans (hb1.mono (Nat.le_of_lt BG0.out.lt))
  have BG1:Hid (Bk G TV 158 w1):=BG0.out.below hb1
  clear hb1
  rcases x8 hb with ⟨hy1,rfl⟩ | ⟨hn1,rfl⟩
  ·have HY1:Hid c.ids.Nodup:=hy1
   clear hy1 hb
   have R1:Hid (w1.rangeAt G 21 PA):=hid (by rw[<-HPA.out];exact(HC.out _ BG1.out).au)
   go_wp2_with (first | (refine BigFrame.wpList_want (by rfl) (fun K hK=>?_);refine wp_load_mid 156 _ rfl G 21 rfl PA _ R1.out Tryz.underlying156 rfl hiA ?_;refine hK _ _ ?_;clear hK K) | fail)
   refine(HPE.out w1).mono ?_
   rintro ev w2 ⟨hb,hb2⟩
   have HB2:Hid (Below G w w2):=HB1.out.trans (hb2.mono (Nat.le_of_lt BG1.out.lt))
   have BG2:Hid (Bk G TV 158 w2):=BG1.out.below hb2
   clear hb2
   rcases x8 hb with ⟨hy2,rfl⟩ | ⟨hn2,rfl⟩
   ·have HY2:Hid (okP c.au):=hy2
    clear hy2 hb
    have R2:Hid (w2.rangeAt G 25 PC):=hid (by rw[<-HPC.out];exact(HC.out _ BG2.out).co)
    go_wp2_with (first | (refine BigFrame.wpList_want (by rfl) (fun K hK=>?_);refine wp_load_mid 156 _ rfl G 25 rfl PC _ R2.out Tryz.underlying156 rfl hiC ?_;refine hK _ _ ?_;clear hK K) | fail)
    refine(HPF.out w2).mono ?_
    rintro ev w3 ⟨hb,hb3⟩
    have HB3:Hid (Below G w w3):=HB2.out.trans (hb3.mono (Nat.le_of_lt BG2.out.lt))
    have BG3:Hid (Bk G TV 158 w3):=BG2.out.below hb3
    clear hb3
    rcases x8 hb with ⟨hy3,rfl⟩ | ⟨hn3,rfl⟩
    ·have HY3:Hid (okP c.co):=hy3
     clear hy3 hb
     have c29:w3.cell? ⟨G,29,none⟩=some (.string M):=by rw[<-HMM.out];exact(HC.out _ BG3.out).c29
     go_wp2_with fail
     refine(HMS.out w3).mono ?_
     rintro ev w' ⟨rfl,rfl⟩
     go_wp2
     go_ret
     refine⟨⟨ms,rfl,?_⟩,by rw[HG.out];exact HB3.out⟩
     rw[<-HMSB.out]
     exact⟨fun h=>⟨by rw[HN.out];exact hn8,HY1.out,HY2.out,HY3.out,h⟩,fun h=>h.2.2.2.2⟩
    ·have HOK:Hid (¬ okC c):=fun h=>hn3 h.2.2.2.1
     clear hn3 hb
     go_wp2
     go_ret
     exact⟨zX HOK.out,by rw[HG.out];exact HB3.out⟩
   ·have HOK:Hid (¬ okC c):=fun h=>hn2 h.2.2.1
    clear hn2 hb
    go_wp2
    go_ret
    exact⟨zX HOK.out,by rw[HG.out];exact HB2.out⟩
  ·have HOK:Hid (¬ okC c):=fun h=>hn1 h.2.1
   clear hn1 hb
   go_wp2
   go_ret
   exact⟨zX HOK.out,by rw[HG.out];exact HB1.out⟩
 ·have hn8i:¬ (n:Int)<=8:=by omega
  have HOK:Hid (¬ okC c):=fun h=>hn8 (by rw[<-HN.out];exact h.1)
  go_enter Tryz.func123,Tryz.ntmps123
  go_wp2
  go_ret
  rw[HG.out,HW0.out]
  exact⟨zX HOK.out,HB0.out⟩
end Go.Proofs.YticgindfipobiaaGreatDoor
