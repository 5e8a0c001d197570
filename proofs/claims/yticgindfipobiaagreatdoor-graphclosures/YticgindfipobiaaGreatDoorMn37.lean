import Derived.Test.YticgindfipobiaaGreatDoorMn36
import Derived.Test.YticgindfipobiaaGreatDoorMn33
set_option linter.unusedSectionVars false
set_option linter.unusedSimpArgs false
set_option linter.unusedVariables false
set_option maxRecDepth 20000
set_option maxHeartbeats 4000000
namespace Go.Proofs.YticgindfipobiaaGreatDoor
open Go.RowKit
variable [Inhabited Er] [Inhabited En]
def PostEn (l:List UInt8) (w:World) (e:Ending) (w':World):Prop := ∃ a cap es,e=.returned (.slice a es.length cap)/\(∀ p:Addr,a=some p->w.heap.size<=p.block)/\Pe w' a cap es/\WfE es/\es.length<=2000/\(∀ x ∈ es,x.name.length<=40000)/\∀ u,kY u->zY u=l->es=u
theorem entriesOf_any (l:List UInt8) (hl:l.length<=40000) (w:World) (he:Ers w) (hm:Mx w) :
  Calls Tryz.prog 78 #[.string ⟨l.toArray⟩] w fun e w'=>Below w.heap.size w w'/\PostEn l w e w':=by
 obtain⟨G,HG⟩:=nm_ w.heap.size
 obtain⟨LN,HLN⟩:=nm_ l.length
 have hLN:LN<=40000:=by rw[<-HLN.out];exact hl
 obtain⟨zr,HZ⟩:=nn_ ((erV ⟨0,[],z20⟩).toArray:Array Value)
 have hz51:∀ w:World,(zeroValue 154).run Tryz.prog w=.ok (.agg zr) w:=fun w=>by rw[HZ.out];exact zero51 w
 have HZS:Hid (zr.size=22):=hid (by rw[HZ.out];rfl)
 have HE:Hid (∀ W,Below G w W->Ers W):=fun W hW=>he.below (by rw[HG.out];exact hW)
 have HM:Hid (∀ W,Below G w W->Mx W):=fun W hW=>hm.below (by rw[HG.out];exact hW)
 have HBF0:Hid (Bf w w G (.slice none 0 0) []):=hid (bf_nil w G (by rw[HG.out];exact Nat.le_refl _))
 clear he hm
 go_enter Tryz.func78,Tryz.ntmps78
 go_wp2_with fail
 go_loopg [0,3] LN (fun g tv u wr=>∃ (t:List UInt8) (v:Value) (es:List Er),tv=.string ⟨t.toArray⟩/\v=u/\g=t.length/\Hid (Bf w wr G v es)/\Hid (Rb l es t)/\Hid (WfE es)/\Hid (∀ x ∈ es,x.name.length<=40000)/\es.length*21+t.length<=LN+20/\(t ≠ []->es.length*21+t.length<=LN))
 case atStart=>exact⟨l,_,[],rfl,rfl,HLN.out.symm,HBF0,hid (Rb.start l),hid (fun x hx=>by cases hx),hid (fun x hx=>by cases hx),by rw[HLN.out];simp,fun _=>by rw[HLN.out];simp⟩
 case round =>
  obtain⟨t,v,es,rfl,hv,hk,HBF,HRB,HWF,HNM,hc1,hc2⟩:=hrel
  subst hv
  by_cases ht:t=[]
  ·have HES:Hid (Rb l es []):=hid (by rw[<-ht];exact HRB.out)
   obtain⟨n,HN⟩:=nm_ es.length
   have hn1:n<=2000:=by rw[<-HN.out];omega
   obtain⟨va,vc,hv⟩:∃ va vc,v=.slice va n vc:=by
    have ho:=HBF.out.own
    rw[HN.out] at ho
    exact qw ho
   subst hv
   have HPE:Hid (Pe wr va vc es):=hid (HBF.out.pe (fun x hx=>(HWF.out x hx).1) HN.out)
   subst ht
   clear hc1 hc2 hk
   go_wp2
   go_ret
   exact⟨by rw[HG.out];exact HBF.out.below,va,vc,es,by rw[HN.out];rfl,(fun p hp=>by rw[HG.out];exact(qW HBF.out.own p.block (by rw[hp];rfl)).1),HPE.out,HWF.out,by rw[HN.out];exact hn1,HNM.out,fun u h1 h2=>HES.out.done u h1 h2⟩
  ·have hc3:=hc2 ht
   obtain⟨T,HT⟩:=nm_ (⟨t.toArray⟩:ByteArray)
   have hemp:(T.toList == [])=false:=by rw[<-HT.out,Lib.toList_data];simpa using ht
   have hemp2:T.toList.isEmpty=false:=by rw[<-HT.out,Lib.toList_data];simpa using ht
   obtain⟨hd,HHD⟩:=nm_ ((Lib.cut t [0]).1)
   obtain⟨rs,HRS⟩:=nm_ ((Lib.cut t [0]).2.1)
   obtain⟨b1,HB1⟩:=nm_ ((Lib.cut t [0]).2.2)
   obtain⟨mo,HMO⟩:=nm_ ((Lib.cut hd [32]).1)
   obtain⟨nm,HNA⟩:=nm_ ((Lib.cut hd [32]).2.1)
   obtain⟨b2,HB2⟩:=nm_ ((Lib.cut hd [32]).2.2)
   have htl:t.length<=40000:=by omega
   have hhl:hd.length<=40000:=by rw[<-HHD.out];have:=Yw t [0];omega
   have hrl:rs.length+1<=t.length:=by rw[<-HRS.out];exact cut_len t 0 ht
   have hml:mo.length<=40000:=by rw[<-HMO.out];have:=Yw hd [32];omega
   have hnl:nm.length<=40000:=by rw[<-HNA.out];have:=V9 hd [32];omega
   have C1:Hid (∀ W,Below G w W->Calls Tryz.prog 111 #[.string T,.string ⟨#[0]⟩] W fun e w'=>e=.returned (.tuple #[.string ⟨hd.toArray⟩,.string ⟨rs.toArray⟩,.bool b1])/\∃ q,w'=W.drewN q):=fun W hW=>by
    have:=Z9 t [0] W (by omega) (HM.out W hW)
    rw[HT.out,HHD.out,HRS.out,HB1.out] at this
    exact this
   have C2:Hid (∀ W,Below G w W->Calls Tryz.prog 111 #[.string ⟨hd.toArray⟩,.string ⟨#[32]⟩] W fun e w'=>e=.returned (.tuple #[.string ⟨mo.toArray⟩,.string ⟨nm.toArray⟩,.bool b2])/\∃ q,w'=W.drewN q):=fun W hW=>by
    have:=Z9 hd [32] W (by omega) (HM.out W hW)
    rw[HMO.out,HNA.out,HB2.out] at this
    exact this
   have C3:Hid (∀ W,Below G w W->Calls Tryz.prog 112 #[.string ⟨mo.toArray⟩] W fun e w'=>Below W.heap.size W w'/\PMo mo e):=fun W hW=>modeOf_any mo (by omega) W (HE.out W hW)
   have hG0:G<=wr.heap.size:=HBF.out.le
   rw[HT.out]
   go_wp2_with fail
   refine(C1.out wr HBF.out.below).mono ?_
   rintro ev w1 ⟨rfl,q1,hw1⟩
   have hb1:Below wr.heap.size wr w1:=by rw[hw1];exact zJ (Below.refl _ _) _
   clear hw1
   have HBF1:Hid (Bf w w1 G v es):=hid (HBF.out.carry hb1)
   clear hb1
   go_wp2_with fail
   refine(C2.out w1 HBF1.out.below).mono ?_
   rintro ev w2 ⟨rfl,q2,hw2⟩
   have hb2:Below w1.heap.size w1 w2:=by rw[hw2];exact zJ (Below.refl _ _) _
   clear hw2
   have HBF2:Hid (Bf w w2 G v es):=hid (HBF1.out.carry hb2)
   clear hb2
   go_wp2_with fail
   refine(C3.out w2 HBF2.out.below).mono ?_
   rintro ev w3 ⟨hb3,mv,rfl,hmv⟩
   have HBF3:Hid (Bf w w3 G v es):=hid (HBF2.out.carry hb3)
   clear hb3
   obtain⟨S,HS⟩:=nm_ (⟨nm.toArray⟩:ByteArray)
   obtain⟨x,HX⟩:=nm_ (⟨mv,nm,fill rs⟩:Er)
   obtain⟨R0,HR0⟩:=nm_ (Value.int .i64 mv :: Value.string S :: row .u8 z20)
   obtain⟨R1,HR1⟩:=nm_ (erV x)
   have HXI:Hid (x.id.length=20/\∀ n ∈ x.id,0<=n/\n<256):=hid (by rw[<-HX.out];exact⟨fill_len rs,fill_b rs⟩)
   have HXN:Hid (x.name.length<=40000):=hid (by rw[<-HX.out];exact hnl)
   have HRF:Hid (Rf t x (rs.drop 20)):=hid (by
    have:=rf_entry t mv (by rw[HHD.out,HMO.out];exact fun m h1 h2=>hmv m h1 h2)
    rw[HHD.out,HNA.out,HRS.out,HX.out] at this
    exact this)
   clear hmv
   have HR0L:Hid (R0.length=22):=hid (by rw[<-HR0.out];rfl)
   have HR1L:Hid (R1.length=22):=hid (by rw[<-HR1.out];exact yz x HXI.out.1)
   have hi51:(Tryz.prog.info? 154).map (·.size)=some R1.length:=by rw[HR1L.out];exact Q8
   have I51:Hid ((Tryz.prog.info? 154).map (·.size)=some R0.toArray.size):=hid (by rw[List.size_toArray,HR0L.out];exact Q8)
   have E51:Hid (zr.size=R0.toArray.size):=hid (by rw[HZS.out,List.size_toArray,HR0L.out])
   have O51:Hid (R0.toArray.all (·.oneCell')=true):=hid (by
    rw[<-HR0.out,<-HS.out]
    exact all_oneCell_toArray (j0 ⟨mv,nm,z20⟩))
   have HBU:Hid (Tryz.prog.built 154 [(0,.int .i64 mv),(1,.string S)]=some R0.toArray):=hid (by rw[<-HR0.out];exact built51 mv S)
   have D0:Hid ((w3.alloc (.cells zr 154)).heap[w3.heap.size]? = some (.cells zr 154 (0,0))):=heap_alloc_new w3 _
   obtain⟨w4,HW4⟩:=nm_ ((w3.alloc (.cells zr 154)).setRow w3.heap.size R0.toArray)
   obtain⟨K,HK⟩:=nm_ w3.heap.size
   have hb4:Below w3.heap.size w3 w4:=by rw[<-HW4.out];exact below_setRow ((Below.refl _ w3).alloc (Nat.le_refl _) _) (Nat.le_refl _) _
   have B4:Hid (w4.heap[K]? = some (.cells R0.toArray 154 (0,0))):=hid (by rw[<-HW4.out,<-HK.out];exact setRow_heap _ _ _ R0.toArray _ _ D0.out)
   obtain⟨RS,HRSS⟩:=nm_ (⟨rs.toArray⟩:ByteArray)
   obtain⟨k,HKK⟩:=nm_ (Nat.min rs.length 20)
   have hk20:k<=20/\k<=rs.length/\(k=20 ∨ k=rs.length):=by
    have:Nat.min rs.length 20=min rs.length 20:=rfl
    have:=HKK.out
    omega
   obtain⟨w5,HW5⟩:=nm_ (w4.setCells K 2 ((q8 (rs.take 20)).map (Value.int .u8)))
   have HNT:Hid ((RS.data.toList.map fun x=>Value.int .u8 (x.toNat:Int)).take k=(q8 (rs.take 20)).map (Value.int .u8)):=hid (by
    rw[<-HRSS.out]
    simp only[q8,List.map_map,List.map_take]
    rcases hk20.2.2 with h | h
    ·rw[h];rfl
    ·rw[List.take_of_length_le (by simp;omega),List.take_of_length_le (by simp;omega)];rfl)
   have HCP:Hid (∀ ty,(Builtin.copy_ #[26,9] ty #[.slice (some ⟨K,2,none⟩) 20 20,.string RS]).run Tryz.prog w4=.ok (.int .i64 k) w5):=fun ty=>by
    rw[<-HW5.out,<-HNT.out]
    have hcell:∀ j,j<k->∃ u,R0[2+j]? = some u:=fun j hj=>⟨_,List.getElem?_eq_getElem (by rw[HR0L.out];omega)⟩
    refine run_copy_str w4 K 2 RS k (by rw[<-HKK.out,<-HRSS.out,xX]) ty (fun j hj=>?_) (fun j hj=>frozen_of_row w4 K _ _ 154 B4.out)
    obtain⟨u,hu⟩:=hcell j hj
    rw[cell_of_row w4 K (2+j) _ 154 _ B4.out]
    simp[hu]
   have B5:Hid (w5.heap[K]? = some (.cells R1.toArray 154 (0,0))):=hid (by
    have h1:=qY K 154 ((q8 (rs.take 20)).map (Value.int .u8)) 2 w4 R0 B4.out
    rw[HW5.out] at h1
    rw[h1]
    congr 2
    rw[<-HR0.out,<-HR1.out,<-HX.out]
    have h20:(q8 (rs.take 20)).length<=20:=by rw[zK,List.length_take];omega
    have hz:row .u8 z20=(List.replicate (q8 (rs.take 20)).length (Value.int .u8 0))++(List.replicate (20-(q8 (rs.take 20)).length) (Value.int .u8 0)):=by
     rw[List.replicate_append_replicate,show (q8 (rs.take 20)).length+(20-(q8 (rs.take 20)).length)=20 by omega]
     rfl
    rw[hz]
    have:=uJ ((q8 (rs.take 20)).map (Value.int .u8)) (List.replicate (q8 (rs.take 20)).length (Value.int .u8 0)) [Value.int .i64 mv,Value.string S] (List.replicate (20-(q8 (rs.take 20)).length) (Value.int .u8 0)) (by simp)
    refine(congrArg List.toArray this).trans ?_
    unfold erV fill row
    rw[List.map_append,List.map_replicate,HS.out,zK]
    rfl)
   have hsl:∀ W:World,(Instr.slice 9 (.string RS) (some (.int .i64 k)) none none).run Tryz.prog W=.ok (.string ⟨(rs.drop k).toArray⟩) W:=fun W=>by
    rw[<-HRSS.out];exact uX rs k hk20.2.1 W
   have HDR:Hid (rs.drop k=rs.drop 20):=hid (by
    rcases hk20.2.2 with h | h
    ·rw[h]
    ·rw[List.drop_eq_nil_of_le (by omega),List.drop_eq_nil_of_le (by omega)])
   rw[HDR.out] at hsl
   have HBF5:Hid (Bf w w5 G v es):=hid (by
    have h4:=HBF3.out.carry hb4
    have hb5:Below w3.heap.size w3 w5:=by
     rw[<-HW5.out]
     exact z7 (by rw[HK.out];exact Nat.le_refl _) _ _ _ _ hb4
    exact HBF3.out.carry hb5)
   clear hb4
   have L5:Hid (w5.rangeAt K 0 R1):=hid (zx B5.out)
   have hes:es.length<=3000:=by omega
   have hcp:=HCP.out 3
   rw[HS.out,HRSS.out]
   go_wp2_with (first
    | (refine wpList_built rfl 154 _ rfl R0.toArray (by simp only[List.map_toArray,List.map_cons,List.map_nil];exact HBU.out) ?_)
    | (refine wpList_store_row rfl 154 _ _ rfl w3.heap.size R0.toArray rfl rfl 154 zr D0.out I51.out E51.out O51.out ?_;rw[HW4.out,HK.out])
    | refine wpList_load_mid rfl 154 _ rfl K 0 rfl R1 _ L5.out Tryz.underlying154 rfl hi51 ?_
    | refine j3 rfl 149 1 _ rfl (.agg R1.toArray) _ rfl (by rw[<-HR1.out];exact run_build51 x HXI.out.1 _) ?_
    | (at_builtin;refine wpList_bf_one rfl _ _ rfl G _ _ rfl (HBF5.out.alloc _) w5.heap.size x rfl (zx (heap_alloc_new w5 _)) HXI.out.1 hes ?_;intro v6 w6 hbf6;have HBF6:Hid (Bf w w6 G v6 (es++[x])):=hbf6;clear hbf6)
    | fail)
   go_roundg (rs.drop 20).length
   case measure=>rw[List.length_drop];omega
   case rel =>
    refine⟨rs.drop 20,_,es++[x],rfl,rfl,rfl,HBF6,hid (HRB.out.step ht x _ HRF.out),hid ?_,hid ?_,?_,?_⟩
    ·intro y hy
     rcases List.mem_append.1 hy with hy | hy
     ·exact HWF.out y hy
     ·have:y=x:=by simpa using hy
      rw[this];exact HXI.out
    ·intro y hy
     rcases List.mem_append.1 hy with hy | hy
     ·exact HNM.out y hy
     ·have:y=x:=by simpa using hy
      rw[this];exact HXN.out
    ·rw[List.length_append,List.length_drop]
     simp only[List.length_cons,List.length_nil]
     omega
    ·intro hne
     have:=List.length_pos_iff.2 hne
     rw[List.length_drop] at this
     rw[List.length_append,List.length_drop]
     simp only[List.length_cons,List.length_nil]
     omega
end Go.Proofs.YticgindfipobiaaGreatDoor
namespace Go.Proofs.YticgindfipobiaaGreatDoor
open Go.RowKit
variable [Inhabited Er] [Inhabited En]
def Qx (l:List UInt8) (w:World) (e:Ending) (w':World):Prop := ∃ a cap es,(∀ p:Addr,a=some p->w.heap.size<=p.block)/\Pe w' a cap es/\WfE es/\es.length<=2000/\(∀ u,kY u->zY u=l->es=u)/\
 (((okL es/\zY (yx es)=l)/\e=.returned (.tuple #[.slice a es.length cap,.nilIface])) ∨ (¬ (okL es/\zY (yx es)=l)/\e=.returned (.tuple #[.slice none 0 0,.iface 43 (.int .i64 21)])))
set_option maxHeartbeats 2000000 in
theorem readBackE_any (a:Option Addr) (cap:Nat) (zs:List Int) (hl:zs.length<=40000) (w:World) (hd:Db w) (he:Ers w) (hm:Mx w) (hS:Sl w a cap zs) :
  Calls Tryz.prog 77 #[.slice a zs.length cap,.int .i64 21,.func (.func 78) #[] #[],.func (.func 79) #[] #[]] w fun e w'=>Below w.heap.size w w'/\Qx (Lib.bytesOf zs) w e w':=by
 obtain⟨n,HN⟩:=nm_ zs.length
 obtain⟨l,HL⟩:=nm_ (Lib.bytesOf zs)
 have HLL:Hid (l.length<=40000):=hid (by rw[<-HL.out,Lib.bytesOf_length];exact hl)
 obtain⟨S,HSS⟩:=nm_ (⟨l.toArray⟩:ByteArray)
 obtain⟨G,HG⟩:=nm_ w.heap.size
 have HCV:Hid ((convert 26 9 (.slice a n cap)).run Tryz.prog w=.ok (.string S) w):=hid (by
  rw[<-HSS.out,<-HL.out,<-HN.out]
  exact conv_str hS)
 have HSL:Hid (∀ W,Below G w W->Sl W a cap zs):=fun W hW=>hS.below (by rw[HG.out];exact hW)
 have HD:Hid (∀ W,Below G w W->Db W):=fun W hW=>hd.below (by rw[HG.out];exact hW)
 have HGS:Hid (G<=w.heap.size):=hid (by rw[HG.out];exact Nat.le_refl _)
 have C1:Hid (Calls Tryz.prog 78 #[.string S] w fun e w'=>Below w.heap.size w w'/\PostEn l w e w'):=hid (by
  rw[<-HSS.out]
  exact entriesOf_any l HLL.out w he hm)
 rw[HN.out,HL.out]
 clear hd he hm hS
 have hcv:=HCV.out
 go_enter Tryz.func77,Tryz.ntmps77
 go_wp2_with fail
 refine C1.out.mono ?_
 rintro ev w1 ⟨hb1,a1,c1,es,rfl,hfr,hpe,hwf,hle,hnm,hun⟩
 rw[HG.out] at hb1
 have HB1:Hid (Below G w w1):=hb1
 have HPE:Hid (Pe w1 a1 c1 es):=hpe
 have HFR:Hid (∀ p:Addr,a1=some p->w.heap.size<=p.block):=hfr
 have HWF:Hid (WfE es):=hwf
 have HLE:Hid (es.length<=2000):=hle
 have HUN:Hid (∀ u,kY u->zY u=l->es=u):=hun
 clear hb1 hfr hpe hwf hle hnm hun hcv
 obtain⟨k,HK⟩:=nm_ es.length
 rw[HK.out]
 have C2:Hid (Calls Tryz.prog 79 #[.slice a1 k c1] w1 (PostW es w1)):=hid (by
  rw[<-HK.out]
  exact writeTree_any a1 c1 es HWF.out HLE.out w1 HPE.out (HD.out _ HB1.out))
 have FIN:Hid (∀ W,Below w1.heap.size w1 W->(okL es/\zY (yx es)=l)->Qx l w (.returned (.tuple #[.slice a1 k c1,.nilIface])) W):=fun W hW h =>
  ⟨a1,c1,es,HFR.out,HPE.out.below hW,HWF.out,HLE.out,HUN.out,.inl ⟨h,by rw[HK.out]⟩⟩
 have BAD:Hid (∀ W,Below w1.heap.size w1 W->¬ (okL es/\zY (yx es)=l)->Qx l w (.returned (.tuple #[.slice none 0 0,.iface 43 (.int .i64 21)])) W):=fun W hW h =>
  ⟨a1,c1,es,HFR.out,HPE.out.below hW,HWF.out,HLE.out,HUN.out,.inr ⟨h,rfl⟩⟩
 have hG1:G<=w1.heap.size:=Nat.le_trans HGS.out HB1.out.size
 go_wp2_with fail
 refine C2.out.mono ?_
 rintro ev w2 ⟨hb2,hor⟩
 have HB12:Hid (Below w1.heap.size w1 w2):=hb2
 have HB2:Hid (Below G w w2):=HB1.out.trans (hb2.mono hG1)
 clear hb2
 rcases hor with ⟨hok,a2,c2,rfl,hsl⟩ | ⟨hno,rfl⟩
 rotate_left
 ·have HNO:Hid (¬ (okL es/\zY (yx es)=l)):=fun h=>hno h.1
  clear hno
  go_wp2
  go_ret2
  exact⟨by rw[HG.out];exact HB2.out,BAD.out _ HB12.out HNO.out⟩
 have HOK:Hid (okL es):=hok
 have HS2:Hid (Sl w2 a2 c2 (q8 (zY (yx es)))):=hsl
 clear hok hsl
 obtain⟨tb,HTB⟩:=nm_ (zY (yx es))
 obtain⟨eq,HEQ⟩:=nm_ (tb == l)
 obtain⟨tl,HTL⟩:=nm_ tb.length
 have CE:Hid (Calls Tryz.prog 110 #[.slice a2 tl c2,.slice a n cap] w2 fun e w'=>e=.returned (.bool eq)/\w'=w2):=hid (by
  have h:=equal_any a2 a c2 cap (q8 tb) zs w2 (by rw[<-HTB.out];exact HS2.out) (HSL.out _ HB2.out)
  rw[zK,HTL.out,xQ,HL.out,HEQ.out,HN.out] at h
  exact h)
 rw[HTB.out,HTL.out]
 go_wp2_with fail
 refine CE.out.mono ?_
 rintro ev w2' ⟨rfl,hw2⟩
 have hw2':=hw2.symm
 subst hw2'
 clear hw2
 cases eq with
 | false =>
  have HNO:Hid (¬ (okL es/\zY (yx es)=l)):=fun h=>by have h2:=HEQ.out;rw[<-HTB.out,h.2] at h2;simp at h2
  go_wp2
  go_ret2
  exact⟨by rw[HG.out];exact HB2.out,BAD.out _ HB12.out HNO.out⟩
 | true =>
  have HYE:Hid (zY (yx es)=l):=hid (by have h2:=HEQ.out;rw[HTB.out];simpa using h2)
  go_wp2
  go_ret2
  exact⟨by rw[HG.out];exact HB2.out,FIN.out _ HB12.out ⟨HOK.out,HYE.out⟩⟩
theorem Qx.form {l:List UInt8} {w:World} {e:Ending} {w':World} (h:Qx l w e w'):∃ (v ev:Value),e=.returned (.tuple #[v,ev]):=by
 obtain⟨a,cap,es,_,_,_,_,_,⟨_,rfl⟩ | ⟨_,rfl⟩⟩:=h
 ·exact⟨_,_,rfl⟩
 ·exact⟨_,_,rfl⟩
set_option maxHeartbeats 1000000 in
theorem readTree_any (a:Option Addr) (cap:Nat) (zs:List Int) (hl:zs.length<=40000) (w:World) (hd:Db w) (he:Ers w) (hm:Mx w) (hS:Sl w a cap zs) :
  Calls Tryz.prog 59 #[.slice a zs.length cap] w fun e w'=>Below w.heap.size w w'/\Qx (Lib.bytesOf zs) w e w':=by
 obtain⟨n,HN⟩:=nm_ zs.length
 have C1:Hid (Calls Tryz.prog 77 #[.slice a n cap,.int .i64 21,.func (.func 78) #[] #[],.func (.func 79) #[] #[]] w fun e w'=>Below w.heap.size w w'/\Qx (Lib.bytesOf zs) w e w'):=hid (by
  rw[<-HN.out]
  exact readBackE_any a cap zs hl w hd he hm hS)
 rw[HN.out]
 clear hd he hm hS
 go_enter Tryz.func59,Tryz.ntmps59
 go_wp2_with fail
 refine C1.out.mono ?_
 rintro ev w1 ⟨hb1,hpb⟩
 obtain⟨v,ev2,rfl⟩:=hpb.form
 have HPB:Hid (Qx (Lib.bytesOf zs) w (.returned (.tuple #[v,ev2])) w1):=hpb
 have HB1:Hid (Below w.heap.size w w1):=hb1
 clear hpb hb1
 go_wp2
 go_ret2
 exact⟨HB1.out,HPB.out⟩
end Go.Proofs.YticgindfipobiaaGreatDoor
namespace Go.Proofs.YticgindfipobiaaGreatDoor
open Go.RowKit
variable [Inhabited Er] [Inhabited En]
structure QEl (b o:Nat) (m:Int) (S:ByteArray) (RI:List Value) (W:World):Prop where
 c0:W.cell? ⟨b,o,none⟩=some (.int .i64 m)
 c1:W.cell? ⟨b,o+1,none⟩=some (.string S)
 r2:W.rangeAt b (o+2) RI
theorem qel_of {W:World} {b o:Nat} {x:Er} (h:W.rangeAt b o (erV x)):QEl b o x.mode ⟨x.name.toArray⟩ (row .u8 x.id) W :=
 ⟨by simpa using h 0 _ rfl,by simpa using h 1 _ rfl,fun j v hv=>by
  have:=h (2+j) v (by rw[Nat.add_comm 2 j];exact hv)
  rw[<-this]
  congr 2
  omega⟩
theorem treeLinks_any (a:Option Addr) (cap:Nat) (zs:List Int) (hl:zs.length<=40000) (w:World) (hd:Db w) (he:Ers w) (hm:Mx w) (hS:Sl w a cap zs) :
  Calls Tryz.prog 41 #[.slice a zs.length cap] w fun e w'=>Below w.heap.size w w'/\vX (LPt (Lib.bytesOf zs)) e w':=by
 obtain⟨n,HN⟩:=nm_ zs.length
 obtain⟨G,HG⟩:=nm_ w.heap.size
 obtain⟨l,HL⟩:=nm_ (Lib.bytesOf zs)
 obtain⟨zr,HZ⟩:=nn_ ((erV ⟨0,[],z20⟩).toArray:Array Value)
 have hz51:∀ w:World,(zeroValue 154).run Tryz.prog w=.ok (.agg zr) w:=fun w=>by rw[HZ.out];exact zero51 w
 have C51:Hid (Calls Tryz.prog 59 #[.slice a n cap] w fun e w'=>Below G w w'/\Qx l w e w'):=hid (by
  have:=readTree_any a cap zs hl w hd he hm hS
  rw[HN.out,HL.out,HG.out] at this
  exact this)
 rw[HN.out,HG.out,HL.out]
 have HGW:Hid (G=w.heap.size):=hid HG.out.symm
 clear hS hd he hm
 go_enter Tryz.func41,Tryz.ntmps41
 go_wp2_with fail
 refine C51.out.mono ?_
 rintro ev w2 ⟨hb2,ea,ec,es,hfr,hpe,hwf,hes,hpu,⟨⟨hok,heq⟩,rfl⟩ | ⟨hno,rfl⟩⟩
 ·have HLP:Hid (LPt l 0 (es.map (·.id))):=⟨es,hwf,hpu,.inl ⟨⟨hok,heq⟩,rfl,rfl⟩⟩
  have HB2:Hid (Below G w w2):=hb2
  obtain⟨k,HK⟩:=nm_ es.length
  have hk1:k<=2000:=by rw[<-HK.out];exact hes
  obtain⟨H,HH⟩:=nm_ w2.heap.size
  have HPE:Hid (∀ W,Below H w2 W->Pe W ea ec es):=fun W hW=>hpe.below (by rw[HH.out];exact hW)
  have HPL:Hid (0<k->∃ b off,ea=some ⟨b,off,none⟩):=fun h0=>by
   obtain⟨b,off,e1,e2,_⟩:=hpe.at_ (by rw[HK.out];exact h0)
   exact⟨b,off,e1⟩
  have HWF:Hid (WfE es):=hwf
  have BI0:Hid (Bi 56 w2 w2 H (.slice none 0 0) ((es.take 0).map (·.id))):=hid (bi_nil 56 w2 H (by rw[HH.out];exact Nat.le_refl _))
  have HWI:Hid (WfI (es.map (·.id))):=fun x hx=>by
   obtain⟨y,hy,rfl⟩:=List.mem_map.1 hx
   exact HWF.out y hy
  rw[HK.out]
  clear hok heq hpe hwf hpu hes hfr hb2
  go_wp2_with fail
  go_loopg [6,19] k (fun g lv iv wr=>∃ (i:Nat) (v:Value),v=lv/\i<=k/\g=k-i/\iv=.int .i64 i/\Hid (Bi 56 w2 wr H v ((es.take i).map (·.id))))
  case atStart=>exact⟨0,_,rfl,Nat.zero_le _,rfl,rfl,BI0⟩
  case round =>
   obtain⟨i,v,hv,hi,hg,rfl,HBI⟩:=hrel
   subst hv
   by_cases hlt:i<k
   ·have hlti:(i:Int)<(k:Int):=by omega
    obtain⟨b,off,hae⟩:=HPL.out (by omega)
    subst hae
    obtain⟨b',off',e1,e2,e3⟩:=(HPE.out wr HBI.out.below).at_ (by rw[HK.out];omega)
    cases e1
    have hcap:k<=ec:=by have:=(HPE.out wr HBI.out.below).capl;rw[HK.out] at this;exact this
    obtain⟨x,HX⟩:=nm_ (es.getD i default)
    have hxm:x ∈ es:=by
     rw[<-HX.out,List.getD_eq_getElem?_getD,List.getElem?_eq_getElem (by rw[HK.out];exact hlt)]
     exact List.getElem_mem _
    have HX20:Hid (x.id.length=20):=(HWF.out x hxm).1
    obtain⟨R,HR⟩:=nm_ (erV x)
    obtain⟨RI,HRI⟩:=nm_ (row .u8 x.id)
    have RR:Hid (wr.rangeAt b (off+i*22) R):=hid (by rw[<-HR.out,<-HX.out];exact e3 i (by rw[HK.out];exact hlt))
    have HFN:Hid (R.length=22):=hid (by rw[<-HR.out];exact yz x HX20.out)
    have hi51:(Tryz.prog.info? 154).map (·.size)=some R.length:=by rw[HFN.out];exact Q8
    have I51:Hid ((Tryz.prog.info? 154).map (·.size)=some R.toArray.size):=hid (by rw[List.size_toArray];exact hi51)
    have E51:Hid (zr.size=R.toArray.size):=hid (by rw[HZ.out,List.size_toArray,List.size_toArray,HFN.out];rfl)
    have O51:Hid (R.toArray.all (·.oneCell')=true):=hid (by rw[<-HR.out];exact all_oneCell_toArray (j0 _))
    have D0:Hid ((wr.alloc (.cells zr 154)).heap[wr.heap.size]? = some (.cells zr 154 (0,0))):=heap_alloc_new wr _
    obtain⟨w3,HW3⟩:=nm_ ((wr.alloc (.cells zr 154)).setRow wr.heap.size R.toArray)
    obtain⟨K,HKK⟩:=nm_ wr.heap.size
    have hb3:Below wr.heap.size wr w3:=by rw[<-HW3.out];exact below_setRow ((Below.refl _ wr).alloc (Nat.le_refl _) _) (Nat.le_refl _) _
    have B3:Hid (w3.heap[K]? = some (.cells R.toArray 154 (0,0))):=hid (by rw[<-HW3.out,<-HKK.out];exact setRow_heap _ _ _ R.toArray _ _ D0.out)
    have BI3:Hid (Bi 56 w2 w3 H v ((es.take i).map (·.id))):=HBI.out.carry hb3
    have R2:Hid (w3.rangeAt K 2 RI):=hid (by
     have hr:=zx B3.out
     rw[<-HR.out] at hr
     have:=(qel_of (b:=K) (o:=0) (x:=x) hr).r2
     rw[HRI.out] at this
     exact this)
    have hi32:(Tryz.prog.info? 56).map (·.size)=some RI.length:=by rw[<-HRI.out,zq,HX20.out];exact Tryz.size56
    have HBS:Hid ((Instr.buildSlice 23 1 #[(0,.agg RI.toArray)]).run Tryz.prog w3=.ok (.slice (some ⟨w3.heap.size,0,none⟩) 1 1) (w3.alloc (.cells RI.toArray 56))):=hid (by rw[<-HRI.out];exact j8 x.id HX20.out w3)
    obtain⟨w4,HW4⟩:=nm_ (w3.alloc (.cells RI.toArray 56))
    have BI4:Hid (Bi 56 w2 w4 H v ((es.take i).map (·.id))):=hid (by rw[<-HW4.out];exact BI3.out.alloc _)
    have PX4:Hid (Pa w4 (some ⟨w3.heap.size,0,none⟩) 1 [x.id]):=hid (by rw[<-HW4.out,<-HRI.out];exact k6 w3 x.id 56 HX20.out)
    rw[HW4.out] at HBS
    have HW1:Hid (∀ y ∈ [x.id],y.length=20):=fun y hy=>by rw[List.mem_singleton.1 hy];exact HX20.out
    have hl4:((es.take i).map (·.id)).length + [x.id].length<=30000:=by rw[List.length_map,List.length_take,HK.out];simp;omega
    have HTS:Hid ((es.take (i+1)).map (·.id)=(es.take i).map (·.id)++[x.id]):=hid (by rw[xK es i (by rw[HK.out];exact hlt),HX.out,List.map_append];rfl)
    clear hxm e3 e2 hb3
    go_wp2_with (first
     | refine wpList_load_mid rfl 154 _ rfl b (off+i*22) rfl R _ RR.out Tryz.underlying154 rfl hi51 ?_
     | (refine wpList_store_row rfl 154 _ _ rfl wr.heap.size R.toArray rfl rfl 154 zr D0.out I51.out E51.out O51.out ?_;rw[HW3.out,HKK.out])
     | refine wpList_load_mid rfl 56 _ rfl K 2 rfl RI _ R2.out Tryz.underlying56 rfl hi32 ?_
     | refine vz rfl 23 1 _ rfl (.agg RI.toArray) _ rfl HBS.out ?_
     | (at_builtin;refine xJ rfl _ _ 23 56 Tryz.underlying23 Tryz.info56' rfl H _ _ rfl BI4.out (some ⟨w3.heap.size,0,none⟩) 1 [x.id] rfl PX4.out HW1.out hl4 ?_;intro v5 w5 hb5 hg5;have BI5:Hid (Bi 56 w2 w5 H v5 ((es.take i).map (·.id)++[x.id])):=hb5;clear hb5 hg5)
     | fail)
    go_roundg (k-(i+1))
    case measure=>omega
    case rel=>exact⟨i+1,_,rfl,by omega,rfl,by go_num,hid (by rw[HTS.out];exact BI5.out)⟩
   ·have hlti:¬ (i:Int)<(k:Int):=by omega
    have BIE:Hid (Bi 56 w2 wr H v (es.map (·.id))):=hid (by
     have:=HBI.out
     rw[List.take_of_length_le (by rw[HK.out];omega)] at this
     exact this)
    have HBE:Hid (Below G w wr):=HB2.out.trans (HBI.out.below.mono (by have:=HB2.out.size;rw[HGW.out,<-HH.out];exact this))
    go_wp2
    go_ret2
    exact⟨HBE.out,lk_good _ _ _ w2 _ H BIE.out HWI.out (by rw[List.length_map,HK.out];exact hk1) HLP.out⟩
 ·have HLP:Hid (LPt l 21 []):=⟨es,hwf,hpu,.inr ⟨hno,rfl,rfl⟩⟩
  have HB2:Hid (Below G w w2):=hb2
  clear hno hpe hwf hpu hes hfr hb2
  go_wp2
  go_ret2
  exact⟨HB2.out,lk_bad _ 21 (by decide) HLP.out _⟩
theorem vX.mono {P Q:Int->List (List Int)->Prop} {e:Ending} {w':World} (h:vX P e w') (hi:∀ er ids,P er ids->Q er ids):vX Q e w':=by
 obtain⟨er,ids,a,c,h1,h2,h3,h4,h5⟩:=h
 exact⟨er,ids,a,c,h1,h2,h3,h4,hi _ _ h5⟩
theorem vX.form {P:Int->List (List Int)->Prop} {e:Ending} {w':World} (h:vX P e w'):∃ v u,e=.returned (.tuple #[v,u]):=by
 obtain⟨er,ids,a,c,h1,_⟩:=h
 exact⟨_,_,h1⟩
theorem links_any (k:Int) (a:Option Addr) (cap:Nat) (zs:List Int) (hl:zs.length<=200000) (ht2:k=2->zs.length<=40000) (hz:IsB zs) (w:World) (hw:Lw w) (he:Ers w) (hd:Db w) (hS:Sl w a cap zs) :
  Calls Tryz.prog 24 #[.agg #[.int .i64 k,.slice a zs.length cap]] w fun e w'=>Below w.heap.size w w'/\vX (LP k zs.length (Lib.bytesOf zs)) e w':=by
 obtain⟨n,HN⟩:=nm_ zs.length
 obtain⟨G,HG⟩:=nm_ w.heap.size
 obtain⟨l,HL⟩:=nm_ (Lib.bytesOf zs)
 have HGW:Hid (G=w.heap.size):=hid HG.out.symm
 have HLW:Hid (∀ W,Below G w W->Lw W):=fun W hW=>hw.below (by rw[HG.out];exact hW)
 have HER:Hid (∀ W,Below G w W->Ers W):=fun W hW=>he.below (by rw[HG.out];exact hW)
 have HDB:Hid (∀ W,Below G w W->Db W):=fun W hW=>hd.below (by rw[HG.out];exact hW)
 have HSS:Hid (∀ W,Below G w W->Sl W a cap zs):=fun W hW=>hS.below (by rw[HG.out];exact hW)
 have C69:Hid (k=2->∀ W,Below G w W->Calls Tryz.prog 41 #[.slice a n cap] W fun e w'=>Below W.heap.size W w'/\vX (LPt l) e w'):=fun hk W hW=>by
  have:=treeLinks_any a cap zs (ht2 hk) W (HDB.out W hW) (HER.out W hW) (HLW.out W hW).mx (HSS.out W hW)
  rw[HN.out,HL.out] at this
  exact this
 have C70:Hid (∀ W,Below G w W->Calls Tryz.prog 42 #[.slice a n cap] W fun e w'=>Below W.heap.size W w'/\vX (LPc l) e w'):=fun W hW=>by
  have:=commitLinks_any a cap zs hl hz W (HLW.out W hW).tab (HER.out W hW) (HLW.out W hW).mx (HSS.out W hW)
  rw[HN.out,HL.out] at this
  exact this
 have C71:Hid (∀ W,Below G w W->Calls Tryz.prog 43 #[.slice a n cap] W fun e w'=>Below W.heap.size W w'/\vX (LPg l) e w'):=fun W hW=>by
  have:=tagLinks_any a cap zs hl hz W (HLW.out W hW).tab (HER.out W hW) (HLW.out W hW).mx (HSS.out W hW)
  rw[HN.out,HL.out] at this
  exact this
 have C33:Hid (∀ W,Calls Tryz.prog 40 #[.agg #[.int .i64 k,.slice a n cap]] W fun e w'=>e=.returned (fitsV k n)/\w'=W.alloc (.cells #[.int .i64 k,.slice a n cap] 28)):=fun W=>fits_any k a n cap W
 rw[HN.out,HG.out,HL.out]
 clear hS hw he hd hz ht2
 obtain⟨w1,HW1⟩:=nm_ ((w.alloc (.cells #[.int .i64 k,.slice a n cap] 28)).alloc (.cells #[.int .i64 k,.slice a n cap] 28))
 have HB1:Hid (Below G w w1):=hid (by rw[<-HW1.out,HGW.out];exact((Below.refl _ w).alloc (Nat.le_refl _) _).alloc (by simp) _)
 have hb0:w1.heap[G]? = some (.cells #[.int .i64 k,.slice a n cap] 28 (0,0)):=by
  rw[<-HW1.out,HGW.out]
  have h1:=heap_alloc_new w (.cells #[.int .i64 k,.slice a n cap] 28)
  have h2:=((Below.refl (w.alloc (.cells #[.int .i64 k,.slice a n cap] 28)).heap.size (w.alloc (.cells #[.int .i64 k,.slice a n cap] 28))).alloc (Nat.le_refl _) (.cells #[.int .i64 k,.slice a n cap] 28)).block w.heap.size (by simp)
  exact h2.trans h1
 have hr0:=zx (cs:=[.int .i64 k,.slice a n cap]) hb0
 have c0:w1.cell? ⟨G,0,none⟩=some (.int .i64 k):=by simpa using hr0 0 _ rfl
 have c1:w1.cell? ⟨G,1,none⟩=some (.slice a n cap):=by simpa using hr0 1 _ rfl
 have hG1:G<w1.heap.size:=z6 hb0
 clear hr0 hb0
 by_cases hE:yj k n=0
 ·obtain⟨hf,hn⟩:=fits_ok k n hE
  have HE:Hid (yj k n=0):=hE
  rw[hf] at C33
  rcases kind_of hE with rfl | rfl | rfl | rfl
  ·have CX:Hid (Calls Tryz.prog 42 #[.slice a n cap] w1 fun e w'=>Below w1.heap.size w1 w'/\vX (LPc l) e w'):=C70.out w1 HB1.out
   clear hE
   go_enter Tryz.func24,Tryz.ntmps24
   go_wp2_with (first
    | (go_at_call 40;refine(C33.out _).mono ?_;rintro ev w' ⟨rfl,rfl⟩;rw[HG.out,HW1.out])
    | fail)
   refine CX.out.mono ?_
   rintro ev w2 ⟨hb2,hlk⟩
   have HLK:Hid (vX (LP 1 n l) ev w2):=hlk.mono (fun er ids h=>.inr ⟨HE.out,.inr (.inr (.inl ⟨rfl,h⟩))⟩)
   have HB2:Hid (Below G w w2):=HB1.out.trans (hb2.mono (Nat.le_of_lt hG1))
   obtain⟨v,u,rfl⟩:=hlk.form
   clear hlk hb2
   go_wp2
   go_ret2
   exact⟨HB2.out,HLK.out⟩
  ·have CX:Hid (Calls Tryz.prog 41 #[.slice a n cap] w1 fun e w'=>Below w1.heap.size w1 w'/\vX (LPt l) e w'):=C69.out rfl w1 HB1.out
   clear hE
   go_enter Tryz.func24,Tryz.ntmps24
   go_wp2_with (first
    | (go_at_call 40;refine(C33.out _).mono ?_;rintro ev w' ⟨rfl,rfl⟩;rw[HG.out,HW1.out])
    | fail)
   refine CX.out.mono ?_
   rintro ev w2 ⟨hb2,hlk⟩
   have HLK:Hid (vX (LP 2 n l) ev w2):=hlk.mono (fun er ids h=>.inr ⟨HE.out,.inr (.inl ⟨rfl,h⟩)⟩)
   have HB2:Hid (Below G w w2):=HB1.out.trans (hb2.mono (Nat.le_of_lt hG1))
   obtain⟨v,u,rfl⟩:=hlk.form
   clear hlk hb2
   go_wp2
   go_ret2
   exact⟨HB2.out,HLK.out⟩
  ·clear hE
   have HLK:Hid (vX (LP 3 n l) (.returned (.tuple #[.slice none 0 0,.nilIface])) w1):=⟨0,[],none,0,rfl,pa_nil w1,(fun x hx=>by cases hx),Nat.zero_le _,.inr ⟨HE.out,.inl ⟨rfl,rfl,rfl⟩⟩⟩
   go_enter Tryz.func24,Tryz.ntmps24
   go_wp2_with (first
    | (go_at_call 40;refine(C33.out _).mono ?_;rintro ev w' ⟨rfl,rfl⟩;rw[HG.out,HW1.out])
    | fail)
   go_ret2
   exact⟨HB1.out,HLK.out⟩
  ·have CX:Hid (Calls Tryz.prog 43 #[.slice a n cap] w1 fun e w'=>Below w1.heap.size w1 w'/\vX (LPg l) e w'):=C71.out w1 HB1.out
   clear hE
   go_enter Tryz.func24,Tryz.ntmps24
   go_wp2_with (first
    | (go_at_call 40;refine(C33.out _).mono ?_;rintro ev w' ⟨rfl,rfl⟩;rw[HG.out,HW1.out])
    | fail)
   refine CX.out.mono ?_
   rintro ev w2 ⟨hb2,hlk⟩
   have HLK:Hid (vX (LP 4 n l) ev w2):=hlk.mono (fun er ids h=>.inr ⟨HE.out,.inr (.inr (.inr ⟨rfl,h⟩))⟩)
   have HB2:Hid (Below G w w2):=HB1.out.trans (hb2.mono (Nat.le_of_lt hG1))
   obtain⟨v,u,rfl⟩:=hlk.form
   clear hlk hb2
   go_wp2
   go_ret2
   exact⟨HB2.out,HLK.out⟩
 ·have hf:=fits_err k n hE
  rw[hf] at C33
  obtain⟨er,HER2⟩:=nm_ (yj k n)
  rw[HER2.out] at C33
  have HLK:Hid (vX (LP k n l) (.returned (.tuple #[.slice none 0 0,.iface 43 (.int .i64 er)])) w1):=lk_bad _ er (by rw[<-HER2.out];exact hE) (.inl ⟨hE,HER2.out.symm,rfl⟩) _
  clear hE hf
  go_enter Tryz.func24,Tryz.ntmps24
  go_wp2_with (first
   | (go_at_call 40;refine(C33.out _).mono ?_;rintro ev w' ⟨rfl,rfl⟩;rw[HG.out,HW1.out])
   | fail)
  go_ret2
  exact⟨HB1.out,HLK.out⟩
end Go.Proofs.YticgindfipobiaaGreatDoor
