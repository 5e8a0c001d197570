import Derived.Test.YticgindfipobiaaGreatDoorMn31
import Derived.Test.YticgindfipobiaaGreatDoorMn15
import Derived.Test.YticgindfipobiaaGreatDoorMn30
import Derived.Test.YticgindfipobiaaGreatDoorMn32
import Derived.Test.YticgindfipobiaaGreatDoorMn29
import Derived.Shelf.SlSortCmp.NoneTotal
import Derived.Test.YticgindfipobiaaGreatDoorMn18
set_option linter.unusedSectionVars false
set_option linter.unusedSimpArgs false
set_option linter.unusedVariables false
set_option maxRecDepth 20000
set_option maxHeartbeats 4000000
namespace Go.Proofs.YticgindfipobiaaGreatDoor
open Go.RowKit
structure Bx (H:Nat) (TV:List Value) (ty:TypeId) (W:World):Prop where
 box:W.heap[H]? = some (.cells TV.toArray ty (0,0))
theorem Bx.below {H:Nat} {TV:List Value} {ty:TypeId} {W W':World} (h:Bx H TV ty W) (hb:Below W.heap.size W W'):Bx H TV ty W':=⟨(hb.block _ (z6 h.box)).trans h.box⟩
theorem Bx.grown {H:Nat} {TV:List Value} {ty:TypeId} {W W':World} {r:Nat} (h:Bx H TV ty W) (hg:W.grownBy W' (some r)) (hne:H ≠ r):Bx H TV ty W':=⟨(hg.block _ (z6 h.box) (by simp;exact hne)).trans h.box⟩
theorem Bx.lt {H:Nat} {TV:List Value} {ty:TypeId} {W:World} (h:Bx H TV ty W):H<W.heap.size:=z6 h.box
theorem Bx.cells {H:Nat} {ty:TypeId} {W:World} {t:Tg} {TV:List Value} (h:Bx H TV ty W) (hv:tgV t=TV) (hl:t.id.length=20):BoxG H t W/\W.rangeAt H 22 (qK t.per).toList/\W.rangeAt H 0 TV:=by
 subst hv
 have hr:=zx h.box
 have hlr:(row .u8 t.id).length=20:=by rw[zq];exact hl
 have g:∀ (i:Nat) (v:Value),(tgV t)[i]? = some v->W.cell? ⟨H,i,none⟩=some v:=fun i v hv=>by
  have:=hr i v hv
  rwa [Nat.zero_add] at this
 have g2:∀ (i:Nat) (v:Value),([.int .i64 t.kind,.string ⟨t.name.toArray⟩,.string ⟨t.per.name.toArray⟩,.string ⟨t.per.mail.toArray⟩,.int .i64 t.per.time,.int .i64 t.per.zone,.string ⟨t.msg.toArray⟩] : List Value)[i]? = some v->W.cell? ⟨H,20+i,none⟩=some v:=fun i v hv=>by
  apply g
  unfold tgV
  rw[List.getElem?_append_right (by omega),hlr,Nat.add_sub_cancel_left]
  exact hv
 refine⟨⟨fun j v hv=>?_,g2 0 _ rfl,g2 1 _ rfl,g2 2 _ rfl,g2 3 _ rfl,g2 4 _ rfl,g2 5 _ rfl,g2 6 _ rfl⟩,?_,hr⟩
 ·refine hr j v ?_
  unfold tgV
  rw[List.getElem?_append_left (by obtain⟨h1,_⟩:=List.getElem?_eq_some_iff.1 hv;exact h1)]
  exact hv
 ·intro j v hv
  match j,hv with
  | 0,hv=>exact(g2 2 _ rfl).trans hv
  | 1,hv=>exact(g2 3 _ rfl).trans hv
  | 2,hv=>exact(g2 4 _ rfl).trans hv
  | 3,hv=>exact(g2 5 _ rfl).trans hv
  | j+4,hv=>simp[qK] at hv
def vX (P:Int->List (List Int)->Prop) (e:Ending) (w':World):Prop := ∃ er ids a' c',e=.returned (.tuple #[.slice a' ids.length c',Y0 er])/\Pa w' a' c' ids/\WfI ids/\ids.length<=2000/\P er ids
theorem pa_nil (w:World):Pa w none 0 []:=⟨Nat.le_refl _,fun h=>absurd h (by simp),fun _=>rfl⟩
theorem lk_bad (P:Int->List (List Int)->Prop) (er:Int) (h0:er ≠ 0) (h:P er []) (w':World):vX P (.returned (.tuple #[.slice none 0 0,.iface 43 (.int .i64 er)])) w' :=
 ⟨er,[],none,0,by rw[Y0,if_neg h0];rfl,pa_nil w',(fun x hx=>by cases hx),Nat.zero_le _,h⟩
theorem lk_good (P:Int->List (List Int)->Prop) (ids:List (List Int)) (v:Value) (w0 w':World) (B:Nat) (hb:Bi 56 w0 w' B v ids) (hw:WfI ids) (hn:ids.length<=2000) (h:P 0 ids):vX P (.returned (.tuple #[v,.nilIface])) w':=by
 obtain⟨a,c,rfl,hp⟩:=hb.pa hw
 exact⟨0,ids,a,c,by rw[Y0,if_pos rfl],hp,hw,hn,h⟩
theorem commitLinks_any (a:Option Addr) (cap:Nat) (zs:List Int) (hl:zs.length<=200000) (hz:IsB zs) (w:World) (ht:Tab w) (he:Ers w) (hm:Mx w) (hS:Sl w a cap zs) :
  Calls Tryz.prog 42 #[.slice a zs.length cap] w fun e w'=>Below w.heap.size w w'/\vX (LPc (Lib.bytesOf zs)) e w':=by
 obtain⟨n,HN⟩:=nm_ zs.length
 obtain⟨G,HG⟩:=nm_ w.heap.size
 obtain⟨l,HL⟩:=nm_ (Lib.bytesOf zs)
 obtain⟨ZV,HZ⟩:=nn_ (cmV (cm0 z20) none 0)
 have hz60:∀ w:World,(zeroValue 158).run Tryz.prog w=.ok (.agg ZV.toArray) w:=fun w=>by rw[HZ.out];exact zero60 w
 have HZL:Hid (ZV.length=30):=hid (by rw[HZ.out];exact qu _ _ _ rfl)
 have C61:Hid (Calls Tryz.prog 60 #[.slice a n cap] w fun e w'=>Below G w w'/\jY l w e w'):=hid (by
  have:=readCommit_any a cap zs hl hz w ht he hm hS
  rw[HN.out,HL.out,HG.out] at this
  exact this)
 rw[HN.out,HG.out,HL.out]
 have HGW:Hid (G=w.heap.size):=hid HG.out.symm
 clear hS ht he hm hz
 go_enter Tryz.func42,Tryz.ntmps42
 go_wp2_with fail
 refine C61.out.mono ?_
 rintro ev w2 ⟨hb2,T,htc,⟨⟨hok,heq⟩,pa,pc,rfl,hoi⟩ | ⟨hno,rfl⟩⟩
 ·have HWT:Hid (WfC T):=hid (tc_wf htc)
  have HLP:Hid (LPc l 0 (T.tree :: T.ids)):=⟨T,htc,.inl ⟨⟨hok,heq⟩,rfl,rfl⟩⟩
  have H8:Hid (T.ids.length<=8):=hok.1
  have HWI:Hid (WfI (T.tree :: T.ids)):=fun x hx=>by
   rcases List.mem_cons.1 hx with rfl | hx
   ·exact⟨HWT.out.1.1,HWT.out.1.2⟩
   ·exact HWT.out.2 x hx
  have HB2:Hid (Below G w w2):=hb2
  have PA2:Hid (Pa w2 pa pc T.ids):=hid (OI.pa hoi HWT.out.2)
  clear htc hok heq hoi hb2
  obtain⟨TV,HTV⟩:=nm_ (cmV T pa pc)
  have HVL:Hid (TV.length=30):=hid (by rw[<-HTV.out];exact qu T pa pc HWT.out.1.1)
  have I60:Hid ((Tryz.prog.info? 158).map (·.size)=some TV.toArray.size):=hid (by rw[List.size_toArray,HVL.out];exact Tryz.size158)
  have O1:Hid (TV.toArray.all (·.oneCell')=true):=hid (by rw[<-HTV.out];exact all_oneCell_toArray (xq T pa pc))
  have D1:Hid (ZV.toArray.size=TV.toArray.size):=hid (by rw[List.size_toArray,List.size_toArray,HZL.out,HVL.out])
  have D0:Hid ((w2.alloc (.cells ZV.toArray 158)).heap[w2.heap.size]? = some (.cells ZV.toArray 158 (0,0))):=heap_alloc_new w2 _
  obtain⟨w3,HW3⟩:=nm_ ((w2.alloc (.cells ZV.toArray 158)).setRow w2.heap.size TV.toArray)
  obtain⟨H,HH⟩:=nm_ w2.heap.size
  have hb23:Below w2.heap.size w2 w3:=by rw[<-HW3.out];exact below_setRow ((Below.refl _ w2).alloc (Nat.le_refl _) _) (Nat.le_refl _) _
  have BX3:Hid (Bk H TV 158 w3):=⟨by rw[<-HW3.out,<-HH.out];exact setRow_heap _ _ _ TV.toArray _ _ D0.out⟩
  have PA3:Hid (Pa w3 pa pc T.ids):=PA2.out.below hb23
  have hGH:G<=H:=by rw[<-HH.out,HGW.out];exact HB2.out.size
  have HB3:Hid (Below G w w3):=HB2.out.trans (hb23.mono (by rw[HH.out];exact hGH))
  have h3:H<w3.heap.size:=BX3.out.lt
  have BC3:Hid (BoxC H T pa pc w3):=BX3.out.cells HTV.out HWT.out.1.1
  clear hb23
  obtain⟨R,HR⟩:=nm_ (row .u8 T.tree)
  have RR:Hid (w3.rangeAt H 0 R):=hid (by rw[<-HR.out];exact BC3.out.id)
  have hi32:(Tryz.prog.info? 56).map (·.size)=some R.length:=by rw[<-HR.out,zq,HWT.out.1.1];exact Tryz.size56
  have HBS:Hid ((Instr.buildSlice 23 1 #[(0,.agg R.toArray)]).run Tryz.prog w3=.ok (.slice (some ⟨w3.heap.size,0,none⟩) 1 1) (w3.alloc (.cells R.toArray 56))):=hid (by rw[<-HR.out];exact j8 T.tree HWT.out.1.1 w3)
  obtain⟨w4,HW4⟩:=nm_ (w3.alloc (.cells R.toArray 56))
  have hb34:Below w3.heap.size w3 w4:=by rw[<-HW4.out];exact(Below.refl _ w3).alloc (Nat.le_refl _) _
  have PX4:Hid (Pa w4 (some ⟨w3.heap.size,0,none⟩) 1 [T.tree]):=hid (by rw[<-HW4.out,<-HR.out];exact k6 w3 T.tree 56 HWT.out.1.1)
  have PA4:Hid (Pa w4 pa pc T.ids):=PA3.out.below hb34
  have c20:w4.cell? ⟨H,20,none⟩=some (.slice pa T.ids.length pc):=(hb34.cell (p:=⟨H,20,none⟩) h3).trans BC3.out.c20
  obtain⟨k,HK⟩:=nm_ T.ids.length
  rw[HK.out] at c20
  obtain⟨g1,HG1⟩:=nm_ w3.heap.size
  have PX5:Hid (Pa w4 (some ⟨g1,0,none⟩) 1 [T.tree]):=hid (by rw[<-HG1.out];exact PX4.out)
  have HB4:Hid (Below G w w4):=HB3.out.trans (hb34.mono (by omega))
  have CC:Hid (Calls Tryz.prog 61 #[.slice (some ⟨w4.heap.size,0,none⟩) 2 2] (w4.alloc (.cells #[.slice (some ⟨g1,0,none⟩) 1 1,.slice pa k pc] 23)) fun e w'=>∃ v,e=.returned v/\Below G w w'/\∃ w0 B,Bi 56 w0 w' B v (T.tree :: T.ids)):=hid (by
   have hb45:Below w4.heap.size w4 (w4.alloc (.cells #[.slice (some ⟨g1,0,none⟩) 1 1,.slice pa k pc] 23)):=(Below.refl _ w4).alloc (Nat.le_refl _) _
   refine(concat_any w4.heap.size g1 pc pa T.tree T.ids _ (by simp) (by rw[HK.out];simp) (by simp) (PX5.out.below hb45) (PA4.out.below hb45) (fun y hy=>(HWI.out y hy).1) H8.out).mono ?_
   rintro e w' ⟨v,rfl,hb⟩
   exact⟨v,rfl,(HB4.out.trans (hb45.mono (by have:=HB4.out.size;rw[HGW.out];exact this))).trans (hb.below.mono (by have:=HB4.out.size;have:=HGW.out;simp;omega)),_,_,hb⟩)
  rw[HG1.out,HW4.out] at HBS
  rw[HTV.out]
  clear hb34
  go_wp2_with (first
   | (refine wpList_store_row rfl 158 _ _ rfl w2.heap.size TV.toArray rfl rfl 158 ZV.toArray D0.out I60.out D1.out O1.out ?_;rw[HW3.out,HH.out])
   | refine wpList_load_mid rfl 56 _ rfl H 0 rfl R _ RR.out Tryz.underlying56 rfl hi32 ?_
   | refine vz rfl 23 1 _ rfl (.agg R.toArray) _ rfl HBS.out ?_
   | (go_at_call 61;refine CC.out.mono ?_;rintro ev w6 ⟨v6,rfl,hb6,w0,B0,hbi⟩;have HB6:Hid (Below G w w6):=hb6;have HBI:Hid (Bi 56 w0 w6 B0 v6 (T.tree :: T.ids)):=hbi;clear hb6 hbi)
   | fail)
  go_ret2
  exact⟨HB6.out,lk_good _ _ _ w0 _ B0 HBI.out HWI.out (by have:=H8.out;simp;omega) HLP.out⟩
 ·have HLP:Hid (LPc l 22 []):=⟨T,htc,.inr ⟨hno,rfl,rfl⟩⟩
  have HB2:Hid (Below G w w2):=hb2
  clear htc hno hb2
  rw[<-HZ.out]
  have O1:Hid (ZV.toArray.all (·.oneCell')=true):=hid (by rw[HZ.out];exact all_oneCell_toArray (xq _ _ _))
  have I60:Hid ((Tryz.prog.info? 158).map (·.size)=some ZV.toArray.size):=hid (by rw[List.size_toArray,HZL.out];exact Tryz.size158)
  have D0:Hid ((w2.alloc (.cells ZV.toArray 158)).heap[w2.heap.size]? = some (.cells ZV.toArray 158 (0,0))):=heap_alloc_new w2 _
  obtain⟨w3,HW3⟩:=nm_ ((w2.alloc (.cells ZV.toArray 158)).setRow w2.heap.size ZV.toArray)
  have HB3:Hid (Below G w w3):=hid (by
   have hb23:Below w2.heap.size w2 w3:=by rw[<-HW3.out];exact below_setRow ((Below.refl _ w2).alloc (Nat.le_refl _) _) (Nat.le_refl _) _
   exact HB2.out.trans (hb23.mono (by have:=HB2.out.size;rw[HGW.out];exact this)))
  go_wp2_with (first
   | (refine wpList_store_row rfl 158 _ _ rfl w2.heap.size ZV.toArray rfl rfl 158 ZV.toArray D0.out I60.out rfl O1.out ?_;rw[HW3.out])
   | fail)
  go_ret2
  exact⟨HB3.out,lk_bad _ 22 (by decide) HLP.out _⟩
theorem tagLinks_any (a:Option Addr) (cap:Nat) (zs:List Int) (hl:zs.length<=200000) (hz:IsB zs) (w:World) (ht:Tab w) (he:Ers w) (hm:Mx w) (hS:Sl w a cap zs) :
  Calls Tryz.prog 43 #[.slice a zs.length cap] w fun e w'=>Below w.heap.size w w'/\vX (LPg (Lib.bytesOf zs)) e w':=by
 obtain⟨n,HN⟩:=nm_ zs.length
 obtain⟨G,HG⟩:=nm_ w.heap.size
 obtain⟨l,HL⟩:=nm_ (Lib.bytesOf zs)
 obtain⟨ZV,HZ⟩:=nn_ (tgV (tg0 z20))
 have hz71:∀ w:World,(zeroValue 163).run Tryz.prog w=.ok (.agg ZV.toArray) w:=fun w=>by rw[HZ.out];exact zero71 w
 have HZL:Hid (ZV.length=27):=hid (by rw[HZ.out];exact y9 _ rfl)
 have C67:Hid (Calls Tryz.prog 62 #[.slice a n cap] w fun e w'=>Below G w w'/\PostB l e):=hid (by
  have:=readTag_any a cap zs hl hz w ht he hm hS
  rw[HN.out,HL.out,HG.out] at this
  exact this)
 rw[HN.out,HG.out,HL.out]
 have HGW:Hid (G=w.heap.size):=hid HG.out.symm
 clear hS ht he hm hz
 go_enter Tryz.func43,Tryz.ntmps43
 go_wp2_with fail
 refine C67.out.mono ?_
 rintro ev w2 ⟨hb2,T,htc,⟨⟨hok,heq⟩,rfl⟩ | ⟨hno,rfl⟩⟩
 ·have HWT:Hid (Wf T):=hid (tg_wf htc)
  have HLP:Hid (LPg l 0 [T.id]):=⟨T,htc,.inl ⟨⟨hok,heq⟩,rfl,rfl⟩⟩
  have HWI:Hid (WfI [T.id]):=fun x hx=>by
   rcases List.mem_cons.1 hx with rfl | hx
   ·exact⟨HWT.out.1,HWT.out.2⟩
   ·cases hx
  have HB2:Hid (Below G w w2):=hb2
  clear htc hok heq hb2
  obtain⟨TV,HTV⟩:=nm_ (tgV T)
  have HVL:Hid (TV.length=27):=hid (by rw[<-HTV.out];exact y9 T HWT.out.1)
  have I71:Hid ((Tryz.prog.info? 163).map (·.size)=some TV.toArray.size):=hid (by rw[List.size_toArray,HVL.out];exact Tryz.size163)
  have O1:Hid (TV.toArray.all (·.oneCell')=true):=hid (by rw[<-HTV.out];exact all_oneCell_toArray (uY T))
  have D1:Hid (ZV.toArray.size=TV.toArray.size):=hid (by rw[List.size_toArray,List.size_toArray,HZL.out,HVL.out])
  have D0:Hid ((w2.alloc (.cells ZV.toArray 163)).heap[w2.heap.size]? = some (.cells ZV.toArray 163 (0,0))):=heap_alloc_new w2 _
  obtain⟨w3,HW3⟩:=nm_ ((w2.alloc (.cells ZV.toArray 163)).setRow w2.heap.size TV.toArray)
  obtain⟨H,HH⟩:=nm_ w2.heap.size
  have hb23:Below w2.heap.size w2 w3:=by rw[<-HW3.out];exact below_setRow ((Below.refl _ w2).alloc (Nat.le_refl _) _) (Nat.le_refl _) _
  have BX3:Hid (w3.heap[H]? = some (.cells TV.toArray 163 (0,0))):=hid (by rw[<-HW3.out,<-HH.out];exact setRow_heap _ _ _ TV.toArray _ _ D0.out)
  have hGH:G<=H:=by rw[<-HH.out,HGW.out];exact HB2.out.size
  have HB3:Hid (Below G w w3):=HB2.out.trans (hb23.mono (by rw[HH.out];exact hGH))
  have h3:H<w3.heap.size:=z6 BX3.out
  clear hb23
  obtain⟨R,HR⟩:=nm_ (row .u8 T.id)
  have RR:Hid (w3.rangeAt H 0 R):=hid (by
   rw[<-HR.out]
   intro j v hv
   refine zx BX3.out j v ?_
   rw[<-HTV.out]
   unfold tgV
   rw[List.getElem?_append_left (List.getElem?_eq_some_iff.1 hv).1]
   exact hv)
  have hi32:(Tryz.prog.info? 56).map (·.size)=some R.length:=by rw[<-HR.out,zq,HWT.out.1];exact Tryz.size56
  have HBS:Hid ((Instr.buildSlice 23 1 #[(0,.agg R.toArray)]).run Tryz.prog w3=.ok (.slice (some ⟨w3.heap.size,0,none⟩) 1 1) (w3.alloc (.cells R.toArray 56))):=hid (by rw[<-HR.out];exact j8 T.id HWT.out.1 w3)
  obtain⟨w4,HW4⟩:=nm_ (w3.alloc (.cells R.toArray 56))
  have hb34:Below w3.heap.size w3 w4:=by rw[<-HW4.out];exact(Below.refl _ w3).alloc (Nat.le_refl _) _
  have PX4:Hid (Pa w4 (some ⟨w3.heap.size,0,none⟩) 1 [T.id]):=hid (by rw[<-HW4.out,<-HR.out];exact k6 w3 T.id 56 HWT.out.1)
  have HB4:Hid (Below G w w4):=HB3.out.trans (hb34.mono (by omega))
  rw[HW4.out] at HBS
  rw[HTV.out]
  clear hb34
  go_wp2_with (first
   | (refine wpList_store_row rfl 163 _ _ rfl w2.heap.size TV.toArray rfl rfl 163 ZV.toArray D0.out I71.out D1.out O1.out ?_;rw[HW3.out,HH.out])
   | refine wpList_load_mid rfl 56 _ rfl H 0 rfl R _ RR.out Tryz.underlying56 rfl hi32 ?_
   | refine vz rfl 23 1 _ rfl (.agg R.toArray) _ rfl HBS.out ?_
   | fail)
  go_ret2
  exact⟨HB4.out,0,[T.id],_,_,rfl,PX4.out,HWI.out,by simp,HLP.out⟩
 ·have HLP:Hid (LPg l 23 []):=⟨T,htc,.inr ⟨hno,rfl,rfl⟩⟩
  have HB2:Hid (Below G w w2):=hb2
  clear htc hno hb2
  rw[<-HZ.out]
  have O1:Hid (ZV.toArray.all (·.oneCell')=true):=hid (by rw[HZ.out];exact all_oneCell_toArray (uY _))
  have I71:Hid ((Tryz.prog.info? 163).map (·.size)=some ZV.toArray.size):=hid (by rw[List.size_toArray,HZL.out];exact Tryz.size163)
  have D0:Hid ((w2.alloc (.cells ZV.toArray 163)).heap[w2.heap.size]? = some (.cells ZV.toArray 163 (0,0))):=heap_alloc_new w2 _
  obtain⟨w3,HW3⟩:=nm_ ((w2.alloc (.cells ZV.toArray 163)).setRow w2.heap.size ZV.toArray)
  have HB3:Hid (Below G w w3):=hid (by
   have hb23:Below w2.heap.size w2 w3:=by rw[<-HW3.out];exact below_setRow ((Below.refl _ w2).alloc (Nat.le_refl _) _) (Nat.le_refl _) _
   exact HB2.out.trans (hb23.mono (by have:=HB2.out.size;rw[HGW.out];exact this)))
  go_wp2_with (first
   | (refine wpList_store_row rfl 163 _ _ rfl w2.heap.size ZV.toArray rfl rfl 163 ZV.toArray D0.out I71.out rfl O1.out ?_;rw[HW3.out])
   | fail)
  go_ret2
  exact⟨HB3.out,lk_bad _ 23 (by decide) HLP.out _⟩
end Go.Proofs.YticgindfipobiaaGreatDoor
namespace Go.Proofs.YticgindfipobiaaGreatDoor
open Go.RowKit Go.Shelf
variable [Inhabited Er]
abbrev En:={ e:Er // e.name.length<=50/\e.id.length=20 }
variable [Inhabited En]
def vk (x:En):List Value:=erV x.1
def cfN (x y:En):Int:=cmpE x.1 y.1
theorem ltN (x y:En):ltOf cfN x y=decide (qV x.1<qV y.1):=by
 unfold ltOf cfN cmpE
 exact decide_eq_decide.2 (cb_iff _ _)
theorem swoN:Sort.SWO (ltOf cfN) where
 irrefl x:=by rw[ltN];exact decide_eq_false (uK _)
 trans x y z h1 h2:=by
  rw[ltN] at *
  exact decide_eq_true (jw _ _ _ (of_decide_eq_true h1) (of_decide_eq_true h2))
 ntrans x y z h1 h2:=by
  rw[ltN] at *
  exact decide_eq_false (XZ _ _ _ (of_decide_eq_false h1) (of_decide_eq_false h2))
theorem cmpLays45 (blk off size:Nat) (w:World):CmpLays Tryz.prog 116 #[] vk 22 cfN blk off size w:=fun m os dk _ x y=>by
 have:=byOrder_any x.1 y.1 (by have:=x.2.1;omega) (by have:=y.2.1;omega) x.2.2 y.2.2 (sortWorldK vk 22 w blk off m dk os)
 exact this
theorem enters45:∀ args w,(callFunc 116 args).run Tryz.prog w=.ok (.enter 116 args) w:=enters_of Tryz.func116 (by kernel_rfl) rfl
theorem sort_any (blk off cap:Nat) (d:Array En) (w:World) (hH:Sort.HoldsK vk 22 w blk off d) (hblk:blk<w.heap.size) (hsz:d.size<=2000) :
  Calls Tryz.prog 151 #[.slice (some ⟨blk,off,none⟩) d.size cap,.func (.func 116) #[] #[]] w fun e w'=>e=.returned (.tuple #[])/\∃ d' n os,Sort.PermIn 0 d.size d d'/\Sort.SortedIn (ltOf cfN) 0 d.size d'/\w'=sortWorldK vk 22 w blk off n d' os :=
 AnyQ.slices_SortFunc Tryz.sortE 22 Tryz.isAgg154 Tryz.sizeOf154 vk (fun x=>yz x.1 x.2.2) (fun x=>j0 x.1) cfN swoN 116 #[] blk off cap d w enters45 (cmpLays45 blk off d.size w) hH hblk (by omega)
theorem sort_none (p:Option Addr) (cap:Nat) (fv:Value) (w:World):Calls Tryz.prog 151 #[.slice p 0 cap,fv] w fun e w'=>e=.returned (.tuple #[])/\w'=w :=
 AnyF.slices_SortFunc_none Tryz.sortE p cap fv w
theorem fE_at:∀ (es:List Er) (h:∀ x ∈ es,x.id.length=20) (i j:Nat),i<es.length->j<22->(fE es)[i*22+j]? = (erV (es.getD i default))[j]?
 | [],_,i,j,h,_=>by simp at h
 | x :: es,h,0,j,_,hj=>by
  have hl:(erV x).length=22:=yz x (h x (by simp))
  show (erV x++fE es)[0*22+j]? = _
  rw[List.getElem?_append_left (by omega)]
  simp
 | x :: es,h,i+1,j,hi,hj=>by
  have hl:(erV x).length=22:=yz x (h x (by simp))
  show (erV x++fE es)[(i+1)*22+j]? = _
  rw[List.getElem?_append_right (by omega),hl,show (i+1)*22+j-22=i*22+j by omega,fE_at es (fun y hy=>h y (by simp[hy])) i j (by simpa using hi) hj]
  simp
end Go.Proofs.YticgindfipobiaaGreatDoor
namespace Go.Proofs.YticgindfipobiaaGreatDoor
open Go.RowKit Go.Shelf
variable [Inhabited Er] [Inhabited En]
theorem values_call (a:Option Addr) (n cap:Nat) (w:World):Calls Tryz.prog 115 #[.slice a n cap] w fun e w'=>e=.returned (.func (.func 152) #[] #[.pointer (some ⟨w.heap.size,0,none⟩)])/\w'=w.alloc (.cells #[.slice a n cap] 149):=by
 go_enter Tryz.func115,Tryz.ntmps115
 go_wp2
 go_ret
 exact⟨rfl,rfl⟩
theorem Y9 (Bs:Nat) (a:Option Addr) (cap:Nat) (es:List Er) (w:World) (hwf:WfE es) (hP:Pe w a cap es) (hl:es.length<=2000) (hbs:Boxed w Bs 149 (.slice a es.length cap)) :
  Calls Tryz.prog 150 #[.func (.func 152) #[] #[.pointer (some ⟨Bs,0,none⟩)]] w (Vv w es):=by
 have HC:Hid (Calls Tryz.prog 176 #[.slice none 0 0,.func (.func 152) #[] #[.pointer (some ⟨Bs,0,none⟩)]] w (Vv w es)):=kW Bs a cap es w hwf hP hl hbs
 clear hwf hP hbs
 go_enter Tryz.func150,Tryz.ntmps150
 go_wp2_with fail
 refine HC.out.mono ?_
 rintro e w1 ⟨v,rfl,ho,hb⟩
 have HO:Hid (w1.ownsRow w.heap.size 154 22 v es.length (fE es)):=ho
 have HB:Hid (Below w.heap.size w w1):=hb
 clear ho hb
 go_wp2
 go_ret
 exact⟨v,rfl,HO.out,HB.out⟩
def WfN (es:List Er):Prop := ∀ x ∈ es,x.name.length<=50/\x.id.length=20
theorem WfN.tail {x:Er} {es:List Er} (h:WfN (x :: es)):WfN es:=fun y hy=>h y (by simp[hy])
def toN:(es:List Er)->WfN es->List En
 | [],_=>[]
 | x :: es,h=>⟨x,h x (by simp)⟩ :: toN es h.tail
theorem jk:∀ (es:List Er) (h:WfN es),(toN es h).map (·.1)=es
 | [],_=>rfl
 | x :: es,h=>congrArg (x :: ·) (jk es h.tail)
theorem uu (es:List Er) (h:WfN es):(toN es h).length=es.length:=by
 have:=congrArg List.length (jk es h)
 rwa [List.length_map] at this
theorem toN_at (es:List Er) (h:WfN es) (i:Nat) (hi:i<es.length):((toN es h).toArray[i]!).1=es.getD i default:=by
 have hi':i<(toN es h).length:=by rw[uu];exact hi
 have h1:(toN es h).toArray[i]! = (toN es h)[i]:=by simp[hi']
 rw[h1]
 have h2:((toN es h).map (·.1))[i]? = some ((toN es h)[i]).1:=by simp[hi']
 rw[jk] at h2
 rw[List.getD_eq_getElem?_getD,h2]
 rfl
theorem Zy {w:World} {B g n cap:Nat} {es:List Er} (hw:WfN es) (hn:es.length=n) (h:w.ownsRow B 154 22 (.slice (some ⟨g,0,none⟩) n cap) n (fE es)):Sort.HoldsK vk 22 w g 0 (toN es hw).toArray:=by
 intro j hj
 rw[Sort.size_flatK,List.size_toArray,uu,hn] at hj
 rw[Sort.get_flatK _ _ _ _ (by rw[List.size_toArray,uu,hn];exact hj),Nat.zero_add]
 refine⟨?_,h.frozenAt j⟩
 rw[h.cellAt j hj]
 have hd:j / 22<es.length:=by rw[hn];exact Nat.div_lt_of_lt_mul (by omega)
 have hm:j % 22<22:=Nat.mod_lt _ (by omega)
 have e:j / 22*22+j % 22=j:=by omega
 have:=fE_at es (fun x hx=>(hw x hx).2) (j / 22) (j % 22) hd hm
 rw[e] at this
 rw[this]
 show _=some ((erV ((toN es hw).toArray[j / 22]!).1)[j % 22]!)
 rw[toN_at es hw _ hd]
 have hmem:es.getD (j / 22) default ∈ es:=by
  rw[List.getD_eq_getElem?_getD,List.getElem?_eq_getElem hd]
  exact List.getElem_mem _
 have hl:(erV (es.getD (j / 22) default)).length=22:=yz _ (hw _ hmem).2
 rw[List.getElem?_eq_getElem (by omega),getElem!_pos _ _ (by omega)]
theorem Yz (w:World) (g m:Nat) (d:Array En) (os:Array Obj) (k:Nat) (hk:k<w.heap.size) (hg:k ≠ g):(sortWorldK vk 22 w g 0 m d os).heap[k]? = w.heap[k]? := by
 show ((w.heap.modify g _)++os)[k]? = _
 rw[Array.getElem?_append_left (by simpa using hk)]
 simp[Array.getElem?_modify,Ne.symm hg]
theorem Yq {B:Nat} {w0 w:World} (hb:Below B w0 w) (hB:B<=w0.heap.size) (g m:Nat) (d:Array En) (os:Array Obj) (hg:B<=g):Below B w0 (sortWorldK vk 22 w g 0 m d os) :=
 hb.trans ⟨rfl,rfl,rfl,by show _<=((w.heap.modify g _)++os).size;simp,fun k hk=>Yz w g m d os k (by have:=hb.size;omega) (by omega)⟩
def PostS (w:World) (es:List Er) (e:Ending) (w':World):Prop := ∃ a cap es',e=.returned (.slice a es.length cap)/\es'.Perm es/\es'.Pairwise (fun x y=>¬ qV y<qV x)/\Pe w' a cap es'/\Below w.heap.size w w'
theorem Yx {B g n cap:Nat} {w0 w:World} {es:List Er} (hw:WfN es) (hn:es.length=n) (h:w.ownsRow B 154 22 (.slice (some ⟨g,0,none⟩) n cap) n (fE es)) (d':Array En) (m:Nat) (os:Array Obj)
  (hp:Sort.PermIn 0 (toN es hw).toArray.size (toN es hw).toArray d') (hs:Sort.SortedIn (ltOf cfN) 0 (toN es hw).toArray.size d') :
  ((d'.toList.map (·.1)).Perm es)/\(d'.toList.map (·.1)).Pairwise (fun x y=>¬ qV y<qV x)/\Pe (sortWorldK vk 22 w g 0 m d' os) (some ⟨g,0,none⟩) cap (d'.toList.map (·.1)):=by
 have hsz:d'.size=(toN es hw).toArray.size:=hp.1
 have hln:d'.size=n:=by rw[hsz,List.size_toArray,uu,hn]
 have hH:=Zy hw hn h
 have hg:g<w.heap.size:=(h.lt g rfl).2
 have hcap:n<=cap:=by
  obtain⟨_,⟨h1,_⟩ | ⟨g',cap',cur,h1,_,_,h4,_⟩⟩:=h
  ·cases h1
  ·cases h1;exact h4
 refine⟨?_,?_,⟨by simp[hln,hcap],fun h0=>⟨g,0,rfl,?_,fun i hi j v hv=>?_⟩,fun h=>by cases h⟩⟩
 ·have:=hp.2.2
  rw[<-hsz,Array.extract_size,hsz,Array.extract_size] at this
  have:=this.map (·.1)
  rwa [show ((toN es hw).toArray.toList).map (·.1)=es from jk es hw] at this
 ·rw[List.pairwise_iff_getElem]
  intro i j hi hj hij
  simp only[List.length_map,Array.length_toList] at hi hj
  have:=hs i j (Nat.zero_le _) hij (by rw[<-hsz];exact hj)
  rw[ltN,getElem!_pos d' j hj,getElem!_pos d' i hi] at this
  simpa using of_decide_eq_false this
 ·show g<((w.heap.modify g _)++os).size
  simp;omega
 ·have hi':i<d'.size:=by simpa using hi
  have hK:Sort.HoldsK vk 22 (sortWorldK vk 22 w g 0 m d' os) g 0 d' :=
   Sort.holdsK_grow vk 22 _ os g 0 d' (by show g<(w.heap.modify g _).size;simpa using hg) (Sort.holdsK_putRowK vk 22 _ g 0 (toN es hw).toArray d' (Sort.holdsK_ahead vk 22 w m g 0 _ hH) hsz)
  have he:(d'.toList.map (·.1)).getD i default=(d'[i]!).1:=by
   rw[getElem!_pos d' i hi',List.getD_eq_getElem?_getD]
   simp[hi']
  rw[he] at hv
  have hl:(vk d'[i]!).length=22:=yz _ (d'[i]!).2.2
  have hj:j<22:=by
   obtain⟨h1,_⟩:=List.getElem?_eq_some_iff.1 hv
   have:(erV (d'[i]!).1).length=22:=hl
   omega
  have:=(Sort.HoldsK.cell hK hi' hj).1
  rw[this]
  have hv':(vk d'[i]!)[j]? = some v:=hv
  rw[List.getElem?_eq_getElem (by omega)] at hv'
  rw[getElem!_pos _ _ (by omega)]
  exact hv'
theorem WfN.wf {es:List Er} (h:WfN es):∀ x ∈ es,x.id.length=20:=fun x hx=>(h x hx).2
theorem k8 (Bs:Nat) (a:Option Addr) (cap:Nat) (es:List Er) (w:World) (hwf:WfE es) (hw:WfN es) (hP:Pe w a cap es) (hl:es.length<=2000) (hbs:Boxed w Bs 149 (.slice a es.length cap)) :
  Calls Tryz.prog 114 #[.func (.func 152) #[] #[.pointer (some ⟨Bs,0,none⟩)],.func (.func 116) #[] #[]] w (PostS w es):=by
 have HC:Hid (Calls Tryz.prog 150 #[.func (.func 152) #[] #[.pointer (some ⟨Bs,0,none⟩)]] w (Vv w es)):=Y9 Bs a cap es w hwf hP hl hbs
 have HW:Hid (WfN es):=hw
 clear hwf hP hbs hw
 obtain⟨n,HN⟩:=nm_ es.length
 have hn:n<=2000:=by rw[<-HN.out];exact hl
 go_enter Tryz.func114,Tryz.ntmps114
 go_wp2_with fail
 refine HC.out.mono ?_
 rintro e w1 ⟨v,rfl,ho,hb⟩
 rw[HN.out] at ho
 obtain⟨a1,c1,rfl⟩:=qw ho
 have HO:Hid (w1.ownsRow w.heap.size 154 22 (.slice a1 n c1) n (fE es)):=ho
 have HB:Hid (Below w.heap.size w w1):=hb
 clear ho hb
 have C90:Hid (Calls Tryz.prog 151 #[.slice a1 n c1,.func (.func 116) #[] #[]] w1 fun e w'=>e=.returned (.tuple #[])/\PostS w es (.returned (.slice a1 n c1)) w'):=hid (by
  by_cases h0:n=0
  ·have hes:es=[]:=List.length_eq_zero_iff.1 (by rw[HN.out];exact h0)
   have HO':=HO.out
   subst h0
   refine(sort_none a1 c1 _ w1).mono ?_
   rintro e w' ⟨rfl,rfl⟩
   refine⟨rfl,a1,c1,[],by rw[HN.out],by rw[hes],List.Pairwise.nil,⟨Nat.zero_le _,fun h=>absurd h (by simp),fun h=>?_⟩,HB.out⟩
   obtain⟨_,⟨h1,_⟩ | ⟨g,cap',cur,h1,_⟩⟩:=HO'
   ·cases h1;rfl
   ·cases h1;cases h
  ·obtain⟨g,rfl⟩:∃ g,a1=some ⟨g,0,none⟩:=by
    obtain⟨_,⟨h1,h2⟩ | ⟨g,cap',cur,h1,_⟩⟩:=HO.out
    ·exact absurd h2 h0
    ·cases h1;exact⟨g,rfl⟩
   have hg:=HO.out.lt g rfl
   have hsz:(toN es HW.out).toArray.size=n:=by rw[List.size_toArray,uu,HN.out]
   have:=sort_any g 0 c1 (toN es HW.out).toArray w1 (Zy HW.out HN.out HO.out) hg.2 (by rw[hsz];exact hn)
   rw[hsz] at this
   refine this.mono ?_
   rintro e w' ⟨rfl,d',m,os,hp,hs,rfl⟩
   rw[<-hsz] at hp hs
   obtain⟨q1,q2,q3⟩:=Yx (w0:=w) HW.out HN.out HO.out d' m os hp hs
   exact⟨rfl,_,c1,_,by rw[HN.out],q1,q2,q3,Yq HB.out (Nat.le_refl _) g m d' os hg.1⟩)
 go_wp2_with fail
 refine C90.out.mono ?_
 rintro e w2 ⟨rfl,hps⟩
 have HPS:Hid (PostS w es (.returned (.slice a1 n c1)) w2):=hps
 clear hps
 go_wp2
 go_ret
 exact HPS.out
end Go.Proofs.YticgindfipobiaaGreatDoor
namespace Go.Proofs.YticgindfipobiaaGreatDoor
open Go.RowKit
def badE (c:Int):Prop:=c=0 ∨ c=47
theorem badE_iff (x:UInt8):¬ badE (x.toNat:Int) ↔ (x ≠ 47/\x ≠ 0):=by
 unfold badE
 constructor
 ·intro h
  exact⟨fun e=>h (by rw[e];right;rfl),fun e=>h (by rw[e];left;rfl)⟩
 ·rintro⟨h1,h2⟩ (h | h)
  ·exact h2 (UInt8.toNat_inj.1 (by simpa using h))
  ·exact h1 (UInt8.toNat_inj.1 (by show x.toNat=47;omega))
theorem isName_any (s:List UInt8) (w:World):Calls Tryz.prog 97 #[.string ⟨s.toArray⟩] w fun e w'=>BIs (okE s) e/\w'=w:=by
 by_cases hbad:s=[] ∨ s=[46] ∨ s=[46,46] ∨ s=[46,103,105,116]
 ·have HOK:Hid (¬ okE s):=hid (by
   rintro⟨h1,_,h3,h4,h5,_⟩
   rcases hbad with h | h | h | h
   ·rw[h] at h1;exact absurd h1 (by decide)
   ·exact h3 h
   ·exact h4 h
   ·exact h5 h)
  rcases hbad with rfl | rfl | rfl | rfl
  all_goals
   go_enter Tryz.func97,Tryz.ntmps97
   go_wp2
   go_ret
   exact⟨zX HOK.out,rfl⟩
 ·obtain⟨S,HS⟩:=nn_ (⟨s.toArray⟩:ByteArray)
  obtain⟨n,HN⟩:=nm_ s.length
  have hsz:S.size=n:=by rw[HS.out,<-HN.out];simp[ByteArray.size]
  have n0:s ≠ []:=fun h=>hbad (Or.inl h)
  have n1:s ≠ [46]:=fun h=>hbad (Or.inr (Or.inl h))
  have n2:s ≠ [46,46]:=fun h=>hbad (Or.inr (Or.inr (Or.inl h)))
  have n3:s ≠ [46,103,105,116]:=fun h=>hbad (Or.inr (Or.inr (Or.inr h)))
  have eS:S.toList=s:=by rw[HS.out,Lib.toList_data]
  have e1:(S.toList == [46])=false:=by rw[eS];simpa using n1
  have e2:(S.toList == [46,46])=false:=by rw[eS];simpa using n2
  have e3:(S.toList == [46,103,105,116])=false:=by rw[eS];simpa using n3
  clear eS
  have hn1:1<=n:=by
   rw[<-HN.out]
   rcases s with _ | ⟨x,s⟩
   ·exact absurd rfl n0
   ·simp
  have HQ:Hid (s ≠ [46]/\s ≠ [46,46]/\s ≠ [46,103,105,116]):=⟨n1,n2,n3⟩
  have hi1:¬ (n:Int)<1:=by omega
  rw[<-HS.out]
  clear n0 n1 n2 n3 hbad
  by_cases h:n<=50
  ·have hi:¬ (50:Int)<(n:Int):=by omega
   go_enter Tryz.func97,Tryz.ntmps97
   go_wp2
   go_loopg [3] n (fun g i wr=>∃ j:Nat,j<=n/\g=n-j/\i=.int .i64 j/\Hid (∀ x ∈ s.take j,¬ badE (x.toNat:Int))/\Hid (wr=w))
   case atStart=>exact⟨0,by omega,rfl,rfl,hid (by simp),hid rfl⟩
   case round =>
    obtain⟨j,hj,hk,rfl,HT,HW⟩:=hrel
    by_cases hlt:j<n
    ·have hlti:(j:Int)<(n:Int):=by omega
     obtain⟨x,hx⟩:∃ x,s[j]? = some x:=⟨_,List.getElem?_eq_getElem (by rw[HN.out];exact hlt)⟩
     obtain⟨c,HC⟩:=nm_ (x.toNat:Int)
     have HX:Hid (s[j]? = some x):=hx
     have hix:∀ w1:World,(Instr.index 9 (.string S) (.int .i64 j)).run Tryz.prog w1=.ok (.int .u8 c) w1:=fun w1=>by rw[HS.out,<-HC.out];exact yk s j w1 x HX.out
     clear hx
     by_cases hc:badE c
     ·have HM:Hid (¬ okE s):=fun ht=>(badE_iff x).2 (ht.2.2.2.2.2 x (List.mem_of_getElem? HX.out)) (by rw[HC.out];exact hc)
      clear HC
      rcases hc with rfl | rfl
      all_goals
       go_wp2
       go_ret
       exact⟨zX HM.out,HW.out⟩
     ·have HBD:Hid (¬ badE c):=hc
      have b1:(c == 0)=false:=by simp;exact fun e=>hc (.inl e)
      have b2:(c == 47)=false:=by simp;exact fun e=>hc (.inr e)
      clear hc
      go_wp2
      go_roundg (n-(j+1))
      case measure=>omega
      case rel =>
       refine⟨j+1,by omega,rfl,by go_num,hid ?_,HW⟩
       rw[xz s j x HX.out]
       intro y hy
       rcases List.mem_append.1 hy with hy | hy
       ·exact HT.out y hy
       ·have:y=x:=by simpa using hy
        subst this
        rw[HC.out]
        exact HBD.out
    ·have hlti:¬ (j:Int)<(n:Int):=by omega
     have HOK:Hid (okE s):=hid (by
      have h1:=HT.out
      rw[List.take_of_length_le (by rw[HN.out];omega)] at h1
      exact⟨by rw[HN.out];exact hn1,by rw[HN.out];exact h,HQ.out.1,HQ.out.2.1,HQ.out.2.2,fun x hx=>(badE_iff x).1 (h1 x hx)⟩)
     go_wp2
     go_ret
     exact⟨jZ HOK.out,HW.out⟩
  ·have hi:(50:Int)<(n:Int):=by omega
   have HOK:Hid (¬ okE s):=fun h2=>h (by rw[<-HN.out];exact h2.2.1)
   clear h
   go_enter Tryz.func97,Tryz.ntmps97
   go_wp2
   go_ret
   exact⟨zX HOK.out,rfl⟩
end Go.Proofs.YticgindfipobiaaGreatDoor
