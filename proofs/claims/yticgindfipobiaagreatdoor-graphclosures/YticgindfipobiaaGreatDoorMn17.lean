import Derived.Test.YticgindfipobiaaGreatDoorMn15
import Derived.Test.YticgindfipobiaaGreatDoorMn16
set_option linter.unusedSimpArgs false
set_option linter.unusedVariables false
set_option maxRecDepth 20000
set_option maxHeartbeats 4000000
namespace Go.Proofs.YticgindfipobiaaGreatDoor
open Go.RowKit
def jV:ByteArray:=⟨#[116,114,101,101]⟩
def yY:ByteArray:=⟨#[112,97,114,101,110,116]⟩
def yX:ByteArray:=⟨#[97,117,116,104,111,114]⟩
def qQ:ByteArray:=⟨#[99,111,109,109,105,116,116,101,114]⟩
def cmB (c:Cm):List UInt8 :=
 ln2 jV.data.toList (xw c.tree)++(c.ids.flatMap (fun x=>ln2 yY.data.toList (xw x))++(ln2 yX.data.toList (qq c.au)++ln2 qQ.data.toList (qq c.co)))++10 :: c.msg
def PostC (c:Cm) (w:World) (e:Ending) (w':World):Prop:=Below w.heap.size w w'/\
 ((okC c/\∃ g cap:Nat,e=.returned (.tuple #[.slice (some ⟨g,0,none⟩) (cmB c).length cap,.nilIface])/\w.heap.size<=g/\Mk w' g cap (q8 (cmB c))) ∨ (¬ okC c/\e=.returned (.tuple #[.slice none 0 0,.iface 43 (.int .i64 22)])))
theorem Tryz.info9:(Tryz.prog.info? 9).map (fun i=>(i.zero,i.size,i.bytes))=some (some (.string ⟨#[]⟩),1,16):=by kernel_rfl
theorem Tryz.size158:(Tryz.prog.info? 158).map (·.size)=some 30:=by kernel_rfl
def lnS (wd:ByteArray) (x:List UInt8):ByteArray:=⟨(ln2 wd.data.toList x).toArray⟩
def jq (c:Cm) (i:Nat):List ByteArray:=lnS jV (xw c.tree) :: (c.ids.take i).map fun x=>lnS yY (xw x)
theorem lines_snoc (c:Cm) (i:Nat) (h:i<c.ids.length):jq c (i+1)=jq c i++[lnS yY (xw (c.ids.getD i []))]:=by
 simp only[jq]
 rw[uQ c.ids i h]
 simp
theorem join_nil:∀ l:List (List UInt8),Lib.join l []=l.flatten
 | []=>rfl
 | [a]=>by simp[Lib.join,List.intercalate]
 | a :: b :: r=>by
  have:=join_nil (b :: r)
  unfold Lib.join List.intercalate at this ⊢
  rw[List.intersperse_cons_cons,List.flatten_cons,List.flatten_cons,this]
  simp
theorem lines_all (c:Cm):Lib.join (bl (jq c c.ids.length++[lnS yX (qq c.au),lnS qQ (qq c.co)])) []++10 :: c.msg=cmB c:=by
 rw[join_nil]
 simp[bl,jq,cmB,lnS,List.flatMap,Function.comp_def]
theorem flat_len (ids:List (List Int)) (h:WfI ids):(ids.flatMap (fun x=>ln2 yY.data.toList (xw x))).length=48*ids.length:=by
 induction ids with
 | nil=>rfl
 | cons x r ih =>
  have hx:=(h x (by simp)).1
  have:=ih (fun y hy=>h y (by simp[hy]))
  rw[List.flatMap_cons,List.length_append,this]
  have e:(ln2 yY.data.toList (xw x)).length=48:=by
   simp only[ln2,List.length_append,List.length_cons,List.length_nil,uq,hx]
   rfl
  rw[e,List.length_cons]
  omega
theorem lines_short (c:Cm) (hf:WfC c) (hok:okC c):(Lib.join (bl (jq c c.ids.length++[lnS yX (qq c.au),lnS qQ (qq c.co)])) []).length<=100000:=by
 have e:Lib.join (bl (jq c c.ids.length++[lnS yX (qq c.au),lnS qQ (qq c.co)])) []=ln2 jV.data.toList (xw c.tree)++(c.ids.flatMap (fun x=>ln2 yY.data.toList (xw x))++(ln2 yX.data.toList (qq c.au)++ln2 qQ.data.toList (qq c.co))):=by
  rw[join_nil]
  simp[bl,jq,lnS,List.flatMap,Function.comp_def]
 rw[e]
 have h1:=flat_len c.ids hf.2
 have h2:=j5 c.au hok.2.2.1
 have h3:=j5 c.co hok.2.2.2.1
 have h4:=hok.1
 have e1:(ln2 jV.data.toList (xw c.tree)).length=46:=by
  simp only[ln2,List.length_append,List.length_cons,List.length_nil,uq,hf.1.1]
  rfl
 have e2:(ln2 yX.data.toList (qq c.au)).length=(qq c.au).length+8:=by
  simp only[ln2,List.length_append,List.length_cons,List.length_nil]
  have:yX.data.toList.length=6:=rfl
  omega
 have e3:(ln2 qQ.data.toList (qq c.co)).length=(qq c.co).length+11:=by
  simp only[ln2,List.length_append,List.length_cons,List.length_nil]
  have:qQ.data.toList.length=9:=rfl
  omega
 simp only[List.length_append,e1,h1,e2,e3]
 omega
theorem own_one (w:World) (B:Nat) (x:ByteArray) (h:B<=w.heap.size):(w.alloc (.cells #[.string x] 9)).ownsRow B 9 1 (.slice (some ⟨w.heap.size,0,none⟩) 1 1) 1 [.string x] :=
 ⟨rfl,.inr ⟨w.heap.size,1,#[.string x],rfl,h,heap_alloc_new w _,Nat.le_refl _,by unfold maxLen;omega,rfl,rfl⟩⟩
theorem own_cells {w:World} {B g k cap:Nat} {xs:List ByteArray} (h:w.ownsRow B 9 1 (.slice (some ⟨g,0,none⟩) k cap) k (xs.map Value.string)):k<=cap/\xs.length=k/\B<=g/\g<w.heap.size/\∀ (j:Nat) x,xs[j]? = some x->w.cell? ⟨g,0+j,none⟩=some (.string x):=by
 obtain⟨hl,⟨hv,_⟩ | ⟨g2,cap2,cur,hv,hb,hh,hkc,_,hsz,htk⟩⟩:=h
 ·cases hv
 ·cases hv
  have hxl:xs.length=k:=by simpa using hl
  refine⟨hkc,hxl,hb,(Array.getElem?_eq_some_iff.1 hh).1,fun j x hx=>?_⟩
  have hj:j<xs.length:=(List.getElem?_eq_some_iff.1 hx).1
  rw[Nat.zero_add,cell_of_row w g j _ _ _ hh]
  have h2:(cur.toList.take (k*1))[j]? = some (.string x):=by
   rw[htk,List.getElem?_map,hx]
   rfl
  rw[List.getElem?_take_of_lt (by omega)] at h2
  simpa using h2
theorem own_some {w:World} {B k:Nat} {ao:Option Addr} {cap:Nat} {l:List Value} (h:w.ownsRow B 9 1 (.slice ao k cap) k l) (hk:0<k):∃ g,ao=some ⟨g,0,none⟩/\B<=g:=by
 obtain⟨_,⟨hv,h0⟩ | ⟨g2,cap2,cur,hv,hb,_⟩⟩:=h
 ·omega
 ·cases hv
  exact⟨g2,rfl,hb⟩
def OL (c:Cm) (G i gb cp:Nat) (W:World):Prop:=W.ownsRow (G+1) 9 1 (.slice (some ⟨gb,0,none⟩) (i+1:Nat) cp) (i+1) ((jq c i).map Value.string)
theorem OL.keep {c:Cm} {G i gb cp:Nat} {W W':World} (h:OL c G i gb cp W) (hg:W.grownBy W' none):OL c G i gb cp W':=World.ownsRow.kept h hg (.inr (by simp[Value.ownBlock]))
theorem str_ones (xs:List ByteArray):∀ u ∈ xs.map Value.string,u.oneCell'=true:=fun u hu=>by
 obtain⟨x,_,rfl⟩:=List.mem_map.1 hu
 rfl
theorem l2_new (w:World) (x y:ByteArray):∀ j u,[Value.string x,Value.string y][j]? = some u->(w.alloc (.cells #[.string x,.string y] 9)).cell? ((⟨w.heap.size,0,none⟩:Addr).add j)=some u:=by
 intro j u hj
 match j,hj with
 | 0,hj=>simp at hj;subst hj;simp[Addr.add]
 | 1,hj=>simp at hj;subst hj;simp[Addr.add]
 | j+2,hj=>simp at hj
structure BC (G:Nat) (PA PC:List Value) (W:World):Prop where
 au:W.rangeAt G 21 PA
 co:W.rangeAt G 25 PC
theorem BC.below {G:Nat} {PA PC:List Value} {W W':World} (h:BC G PA PC W) (hG:G<W.heap.size) (hb:Below W.heap.size W W'):BC G PA PC W' :=
 ⟨fun j v hv=>(hb.cell (p:=⟨G,21+j,none⟩) hG).trans (h.au j v hv),fun j v hv=>(hb.cell (p:=⟨G,25+j,none⟩) hG).trans (h.co j v hv)⟩
theorem BC.grown {G r:Nat} {PA PC:List Value} {W W':World} (h:BC G PA PC W) (hG:G<W.heap.size) (hg:W.grownBy W' (some r)) (hne:G ≠ r):BC G PA PC W' :=
 ⟨fun j v hv=>(World.cell?_of_block (a:=⟨G,21+j,none⟩) (hg.block G hG (by simp;exact hne))).trans (h.au j v hv),fun j v hv=>(World.cell?_of_block (a:=⟨G,25+j,none⟩) (hg.block G hG (by simp;exact hne))).trans (h.co j v hv)⟩
theorem Bk.grown {H r:Nat} {TV:List Value} {ty:TypeId} {W W':World} (h:Bk H TV ty W) (hg:W.grownBy W' (some r)) (hne:H ≠ r):Bk H TV ty W':=⟨(hg.block _ (z6 h.box) (by simp;exact hne)).trans h.box⟩
theorem writeCommit_any (c:Cm) (hf:WfC c) (a:Option Addr) (cap:Nat) (h4:c.msg.length<=1000000) (w:World) (ht:Tab w) (hP:Pa w a cap c.ids) :
  Calls Tryz.prog 82 #[.agg (cmV c a cap).toArray] w (PostC c w):=by
 obtain⟨i9,hi9,hz0,hz1,hz2⟩:=zQ Tryz.info9
 obtain⟨TV,HTV⟩:=nm_ (cmV c a cap)
 have HVL:Hid (TV.length=30):=hid (by rw[<-HTV.out];exact qu c a cap hf.1.1)
 obtain⟨n,HN⟩:=nm_ c.ids.length
 obtain⟨M,HMM⟩:=nm_ (⟨c.msg.toArray⟩:ByteArray)
 obtain⟨PA,HPA⟩:=nm_ ((qK c.au).toList)
 obtain⟨PC,HPC⟩:=nm_ ((qK c.co).toList)
 have hiA:(Tryz.prog.info? 156).map (·.size)=some PA.length:=by rw[<-HPA.out];exact Tryz.size156
 have hiC:(Tryz.prog.info? 156).map (·.size)=some PC.length:=by rw[<-HPC.out];exact Tryz.size156
 have hi60:(Tryz.prog.info? 158).map (·.size)=some TV.length:=by rw[HVL.out];exact Tryz.size158
 obtain⟨RT,HRT⟩:=nm_ (row .u8 c.tree)
 have hi32t:(Tryz.prog.info? 56).map (·.size)=some RT.length:=by rw[<-HRT.out,zq,hf.1.1];exact Tryz.size56
 obtain⟨zr,HZ⟩:=nn_ ((row .u8 z20).toArray)
 have hz32:∀ w:World,(zeroValue 56).run Tryz.prog w=.ok (.agg zr) w:=fun w=>by rw[HZ.out];exact zero32 w
 obtain⟨G,HG⟩:=nm_ w.heap.size
 obtain⟨w0,HW0⟩:=nm_ (w.alloc (.cells TV.toArray 158))
 have HB0:Hid (Below G w w0):=hid (by rw[<-HW0.out,<-HG.out];exact(Below.refl _ w).alloc (Nat.le_refl _) _)
 have BG0:Hid (Bk G TV 158 w0):=⟨by rw[<-HW0.out,<-HG.out];exact heap_alloc_new w _⟩
 have CL:Hid ((w.alloc (.cells TV.toArray 158)).rangeAt w.heap.size 0 TV):=hid (zx (heap_alloc_new w _))
 have HC:Hid (∀ W,Bk G TV 158 W->BoxC G c a cap W):=fun W hW=>hW.cells HTV.out hf.1.1
 have HTB:Hid (∀ W,Below G w W->Tab W):=fun W hW=>ht.below (by rw[HG.out];exact hW)
 have HPP:Hid (∀ W,Below G w W->Pa W a cap c.ids):=fun W hW=>hP.below (by rw[HG.out];exact hW)
 have HPL:Hid (0<n->∃ b off,a=some ⟨b,off,none⟩/\b<G):=fun h0=>by
  obtain⟨b,off,e1,e2,_⟩:=hP.at_ (by rw[HN.out];exact h0)
  exact⟨b,off,e1,by rw[<-HG.out];exact e2⟩
 have C53:Hid (Calls Tryz.prog 123 #[.agg TV.toArray] w0 fun e w'=>BIs (okC c) e/\Below w0.heap.size w0 w'):=hid (by
  rw[<-HTV.out]
  exact isCommit_any c hf a cap h4 w0 (HPP.out _ HB0.out))
 obtain⟨HT,HHT⟩:=nm_ (strOfNums (Hx.hexOf c.tree))
 have CHT:Hid (∀ W,Calls Tryz.prog 125 #[.agg RT.toArray] W fun e w'=>e=.returned (.string HT)/\Below W.heap.size W w'):=fun W=>by
  rw[<-HRT.out,<-HHT.out];exact Hx.hex_prog c.tree W hf.1.1 hf.1.2
 obtain⟨LT,HLT⟩:=nm_ (lnS jV (xw c.tree))
 have CLT:Hid (∀ W b,L2 b jV HT W->Calls Tryz.prog 124 #[.slice (some ⟨b,0,none⟩) 2 2] W fun e w'=>e=.returned (.string LT)/\Below W.heap.size W w'):=fun W b h=>by
  rw[<-HLT.out]
  rw[<-HHT.out] at h
  exact line2 _ _ b W h (by decide) (by show (xw c.tree).length<=10000;rw[uq,hf.1.1];omega)
 have HIDS:Hid (WfI c.ids):=hf.2
 have HWC:Hid (WfC c):=hf
 have BAD:Hid (¬ okC c->∀ W,Below G w W->PostC c w (.returned (.tuple #[.slice none 0 0,.iface 43 (.int .i64 22)])) W):=fun h W hW=>⟨by rw[HG.out];exact hW,.inr ⟨h,rfl⟩⟩
 rw[HTV.out]
 clear hP ht hf
 go_enter Tryz.func82,Tryz.ntmps82
 go_wp2_with (first | refine wpList_load_mid rfl 158 _ rfl w.heap.size 0 rfl TV _ CL.out Tryz.underlying158 rfl hi60 ?_ | fail)
 rw[HG.out,HW0.out]
 clear CL
 refine C53.out.mono ?_
 rintro ev w1 ⟨hb,hb1⟩
 have HB1:Hid (Below G w w1):=HB0.out.trans (hb1.mono (Nat.le_of_lt BG0.out.lt))
 have BG1:Hid (Bk G TV 158 w1):=BG0.out.below hb1
 clear hb1 C53
 rcases x8 hb with ⟨hok,rfl⟩ | ⟨hno,rfl⟩
 rotate_left
 ·have HNO:Hid (¬ okC c):=hno
  clear hno hb
  go_wp2
  go_ret2
  exact BAD.out HNO.out _ HB1.out
 have HOK:Hid (okC c):=hok
 have hn8:n<=8:=by rw[<-HN.out];exact hok.1
 clear hok hb BAD
 have R1:Hid (w1.rangeAt G 0 RT):=hid (by rw[<-HRT.out];exact(HC.out _ BG1.out).id)
 go_wp2_with (first | refine wpList_load_mid rfl 56 _ rfl G 0 rfl RT _ R1.out Tryz.underlying56 rfl hi32t ?_ | fail)
 refine(CHT.out w1).mono ?_
 rintro ev w2 ⟨rfl,hb⟩
 have HB2:Hid (Below G w w2):=HB1.out.trans (hb.mono (Nat.le_of_lt BG1.out.lt))
 have BG2:Hid (Bk G TV 158 w2):=BG1.out.below hb
 clear hb
 obtain⟨w3,HW3⟩:=nm_ (w2.alloc (.cells #[.string ⟨#[116,114,101,101]⟩,.string HT] 9))
 obtain⟨b3,Hb3⟩:=nm_ w2.heap.size
 have hL3:L2 b3 jV HT w3:=by rw[<-HW3.out,<-Hb3.out];exact qj _ _ _
 have hb3:Below w2.heap.size w2 w3:=by rw[<-HW3.out];exact(Below.refl _ _).alloc (Nat.le_refl _) _
 have HB3:Hid (Below G w w3):=HB2.out.trans (hb3.mono (Nat.le_of_lt BG2.out.lt))
 have BG3:Hid (Bk G TV 158 w3):=BG2.out.below hb3
 have C54:Hid (Calls Tryz.prog 124 #[.slice (some ⟨b3,0,none⟩) 2 2] w3 fun e w'=>e=.returned (.string LT)/\Below w3.heap.size w3 w'):=CLT.out w3 b3 hL3
 clear hb3 hL3
 go_wp2_with fail
 rw[HW3.out,Hb3.out]
 refine C54.out.mono ?_
 rintro ev w4 ⟨rfl,hb⟩
 have HB4:Hid (Below G w w4):=HB3.out.trans (hb.mono (Nat.le_of_lt BG3.out.lt))
 have BG4:Hid (Bk G TV 158 w4):=BG3.out.below hb
 clear hb C54
 obtain⟨w5,HW5⟩:=nm_ (w4.alloc (.cells #[.string LT] 9))
 obtain⟨b5,Hb5⟩:=nm_ w4.heap.size
 have hb5:Below w4.heap.size w4 w5:=by rw[<-HW5.out];exact(Below.refl _ _).alloc (Nat.le_refl _) _
 have HB5:Hid (Below G w w5):=HB4.out.trans (hb5.mono (Nat.le_of_lt BG4.out.lt))
 have BG5:Hid (Bk G TV 158 w5):=BG4.out.below hb5
 have OW5:Hid (w5.ownsRow (G+1) 9 1 (.slice (some ⟨b5,0,none⟩) 1 1) 1 [.string LT]):=hid (by rw[<-HW5.out,<-Hb5.out];exact own_one w4 (G+1) LT BG4.out.lt)
 clear hb5
 have c20:w5.cell? ⟨G,20,none⟩=some (.slice a n cap):=by rw[<-HN.out];exact(HC.out _ BG5.out).c20
 rw[<-HW5.out] at c20
 go_wp2_with fail
 rw[HW5.out,Hb5.out]
 clear c20
 have OL5:Hid (OL c G 0 b5 1 w5):=hid (by
  unfold OL
  have e:(jq c 0).map Value.string=[.string LT]:=by simp[jq,HLT.out]
  rw[e]
  exact OW5.out)
 go_loopg [4,20] n (fun g v iv wr=>∃ (i gb cp:Nat),i<=n/\g=n-i/\iv=.int .i64 i/\v=.slice (some ⟨gb,0,none⟩) (i+1:Nat) cp/\Hid (OL c G i gb cp wr)/\Hid (Below G w wr)/\Hid (Bk G TV 158 wr))
 case atStart=>exact⟨0,b5,1,Nat.zero_le _,rfl,rfl,rfl,OL5,HB5,BG5⟩
 case round =>
  obtain⟨i,gb,cp,hi,hk,rfl,rfl,OW,HB,BG⟩:=hrel
  by_cases hlt:i<n
  ·have hlti:(i:Int)<(n:Int):=by omega
   obtain⟨b,off,hae,hbG⟩:=HPL.out (by omega)
   subst hae
   obtain⟨b',off',e1,e2,e3⟩:=(HPP.out wr HB.out).at_ (by rw[HN.out];omega)
   cases e1
   obtain⟨x,HX⟩:=nm_ (c.ids.getD i [])
   have hxm:x ∈ c.ids:=by
    rw[<-HX.out,List.getD_eq_getElem?_getD,List.getElem?_eq_getElem (by rw[HN.out];exact hlt)]
    exact List.getElem_mem _
   obtain⟨hx20,hxb⟩:=HIDS.out x hxm
   obtain⟨RF,HRF⟩:=nm_ (row .u8 x)
   have RR:Hid (wr.rangeAt b (off+i*20) RF):=hid (by rw[<-HRF.out,<-HX.out];exact e3 i (by rw[HN.out];exact hlt))
   have HFN:Hid (RF.length=20):=hid (by rw[<-HRF.out,zq];exact hx20)
   have hi32:(Tryz.prog.info? 56).map (·.size)=some RF.length:=by rw[HFN.out];exact Tryz.size56
   have I32:Hid ((Tryz.prog.info? 56).map (·.size)=some RF.toArray.size):=hid (by rw[List.size_toArray];exact hi32)
   have E32:Hid (zr.size=RF.toArray.size):=hid (by rw[HZ.out,List.size_toArray,List.size_toArray,HFN.out];rfl)
   have O32:Hid (RF.toArray.all (·.oneCell')=true):=hid (by rw[<-HRF.out];exact all_oneCell_toArray (zV _ _))
   have D0:Hid ((wr.alloc (.cells zr 56)).heap[wr.heap.size]? = some (.cells zr 56 (0,0))):=heap_alloc_new wr _
   obtain⟨v2,HV2⟩:=nm_ ((wr.alloc (.cells zr 56)).setRow wr.heap.size RF.toArray)
   obtain⟨H,HH⟩:=nm_ wr.heap.size
   have hb2:Below wr.heap.size wr v2:=by rw[<-HV2.out];exact below_setRow ((Below.refl _ wr).alloc (Nat.le_refl _) _) (Nat.le_refl _) _
   have R2:Hid (v2.rangeAt H 0 RF):=hid (by rw[<-HV2.out,<-HH.out];exact zx (setRow_heap _ _ _ RF.toArray _ _ D0.out))
   obtain⟨hxs,HHX⟩:=nm_ (strOfNums (Hx.hexOf x))
   have CHX:Hid (∀ W,Calls Tryz.prog 125 #[.agg RF.toArray] W fun e w'=>e=.returned (.string hxs)/\Below W.heap.size W w'):=fun W=>by
    rw[<-HRF.out,<-HHX.out];exact Hx.hex_prog x W hx20 hxb
   obtain⟨LX,HLX⟩:=nm_ (lnS yY (xw x))
   have CLX:Hid (∀ W b,L2 b yY hxs W->Calls Tryz.prog 124 #[.slice (some ⟨b,0,none⟩) 2 2] W fun e w'=>e=.returned (.string LX)/\Below W.heap.size W w'):=fun W b h=>by
    rw[<-HLX.out]
    rw[<-HHX.out] at h
    exact line2 _ _ b W h (by decide) (by show (xw x).length<=10000;rw[uq,hx20];omega)
   have OWA:Hid (OL c G i gb cp v2):=OW.out.keep (zw hb2 _)
   have HBA:Hid (Below G w v2):=HB.out.trans (hb2.mono (Nat.le_of_lt BG.out.lt))
   have BGA:Hid (Bk G TV 158 v2):=BG.out.below hb2
   clear hb2 hxm hx20 hxb e3 e2
   go_wp2_with (first
    | refine wpList_load_mid rfl 56 _ rfl b (off+i*20) rfl RF _ RR.out Tryz.underlying56 rfl hi32 ?_
    | (refine wpList_store_row rfl 56 _ _ rfl wr.heap.size RF.toArray rfl rfl 56 zr D0.out I32.out E32.out O32.out ?_;rw[HV2.out,HH.out])
    | refine wpList_load_mid rfl 56 _ rfl H 0 rfl RF _ R2.out Tryz.underlying56 rfl hi32 ?_
    | fail)
   refine(CHX.out v2).mono ?_
   rintro ev v3 ⟨rfl,hb⟩
   have OWB:Hid (OL c G i gb cp v3):=OWA.out.keep (zw hb _)
   have HBB:Hid (Below G w v3):=HBA.out.trans (hb.mono (Nat.le_of_lt BGA.out.lt))
   have BGB:Hid (Bk G TV 158 v3):=BGA.out.below hb
   clear hb
   obtain⟨v4,HV4⟩:=nm_ (v3.alloc (.cells #[.string ⟨#[112,97,114,101,110,116]⟩,.string hxs] 9))
   obtain⟨d4,Hd4⟩:=nm_ v3.heap.size
   have hL4:L2 d4 yY hxs v4:=by rw[<-HV4.out,<-Hd4.out];exact qj _ _ _
   have hb4:Below v3.heap.size v3 v4:=by rw[<-HV4.out];exact(Below.refl _ _).alloc (Nat.le_refl _) _
   have OWC:Hid (OL c G i gb cp v4):=OWB.out.keep (zw hb4 _)
   have HBC:Hid (Below G w v4):=HBB.out.trans (hb4.mono (Nat.le_of_lt BGB.out.lt))
   have BGC:Hid (Bk G TV 158 v4):=BGB.out.below hb4
   have C54:Hid (Calls Tryz.prog 124 #[.slice (some ⟨d4,0,none⟩) 2 2] v4 fun e w'=>e=.returned (.string LX)/\Below v4.heap.size v4 w'):=CLX.out v4 d4 hL4
   clear hb4 hL4
   go_wp2_with fail
   rw[HV4.out,Hd4.out]
   refine C54.out.mono ?_
   rintro ev v5 ⟨rfl,hb⟩
   have OWD:Hid (OL c G i gb cp v5):=OWC.out.keep (zw hb _)
   have HBD:Hid (Below G w v5):=HBC.out.trans (hb.mono (Nat.le_of_lt BGC.out.lt))
   have BGD:Hid (Bk G TV 158 v5):=BGC.out.below hb
   clear hb C54
   have HOE:Hid (OL c G i gb cp (v5.alloc (.cells #[.string LX] 9))):=OWD.out.keep (World.grownBy_alloc v5 _ none)
   have HBE:Hid (Below G w (v5.alloc (.cells #[.string LX] 9))):=HBD.out.alloc (Nat.le_of_lt BGD.out.lt) _
   have BGE:Hid (Bk G TV 158 (v5.alloc (.cells #[.string LX] 9))):=BGD.out.below ((Below.refl _ v5).alloc (Nat.le_refl _) _)
   go_wp2_with (at_builtin;refine Zv _ rfl _ _ 211 rfl (G+1) 9 i9 (.string ⟨#[]⟩) 1 16 Tryz.underlying211 hi9 hz0 hz1 hz2 rfl (by decide) (.slice (some ⟨gb,0,none⟩) (i+1:Nat) cp) (i+1) ((jq c i).map Value.string) (by first | rfl | simp) HOE.out ⟨v5.heap.size,0,none⟩ 1 1 [.string LX] (by first | rfl | simp) rfl (cell_one_new _ _ _) (str_ones [LX]) (by unfold maxLen;omega) (by omega) (Nat.le_of_lt (Nat.lt_of_le_of_lt (Nat.succ_le_of_lt BGD.out.lt) (by simp))) _ rfl ?_;intro ao cap2 v6 hown hg hloc;have OWF:Hid (v6.ownsRow (G+1) 9 1 (.slice ao (i+1+1:Nat) cap2) (i+1+1) ((jq c i).map Value.string++[.string LX])):=hown;have GW:Hid ((v5.alloc (.cells #[.string LX] 9)).grownBy v6 (some gb)):=hg;clear hown hg hloc)
   obtain⟨g6,rfl,hg6⟩:=own_some OWF.out (by omega)
   have hgb:=(own_cells HOE.out).2.2.1
   go_roundg (n-(i+1))
   case measure=>omega
   case rel =>
    refine⟨i+1,g6,cap2,by omega,rfl,by go_num,rfl,hid ?_,hid ?_,hid ?_⟩
    ·unfold OL
     rw[lines_snoc c i (by rw[HN.out];exact hlt),HX.out,HLX.out,List.map_append]
     exact OWF.out
    ·exact HBE.out.grown GW.out (Nat.le_of_lt BGE.out.lt) (fun q hq=>by cases hq;omega)
    ·exact BGE.out.grown (r:=gb) GW.out (by omega)
  ·have hlti:¬ (i:Int)<(n:Int):=by omega
   obtain rfl:i=n:=by omega
   have BCd:Hid (BC G PA PC wr.drew):=hid (by
    have h:=HC.out _ BG.out
    refine⟨?_,?_⟩
    ·rw[<-HPA.out];exact h.au
    ·rw[<-HPC.out];exact h.co)
   have OWd:Hid (OL c G i gb cp wr.drew):=OW
   have HBd:Hid (Below G w wr.drew):=hid ⟨HB.out.os,HB.out.tape,HB.out.output,HB.out.size,HB.out.block⟩
   have BGd:Hid (Bk G TV 158 wr.drew):=⟨BG.out.box⟩
   obtain⟨PT,HPT⟩:=nm_ (⟨(qq c.au).toArray⟩:ByteArray)
   obtain⟨QT,HQT⟩:=nm_ (⟨(qq c.co).toArray⟩:ByteArray)
   obtain⟨LA,HLA⟩:=nm_ (lnS yX (qq c.au))
   obtain⟨LC,HLC⟩:=nm_ (lnS qQ (qq c.co))
   have C1:Hid (∀ W,Below G w W->Calls Tryz.prog 126 #[.agg PA.toArray] W fun e w'=>e=.returned (.string PT)/\Below W.heap.size W w'):=fun W hW=>by
    rw[<-HPA.out,<-HPT.out];exact jQ c.au HOK.out.2.2.1 W (HTB.out W hW)
   have C2:Hid (∀ W,Below G w W->Calls Tryz.prog 126 #[.agg PC.toArray] W fun e w'=>e=.returned (.string QT)/\Below W.heap.size W w'):=fun W hW=>by
    rw[<-HPC.out,<-HQT.out];exact jQ c.co HOK.out.2.2.2.1 W (HTB.out W hW)
   have C3:Hid (∀ W b,L2 b yX PT W->Calls Tryz.prog 124 #[.slice (some ⟨b,0,none⟩) 2 2] W fun e w'=>e=.returned (.string LA)/\Below W.heap.size W w'):=fun W b h=>by
    rw[<-HLA.out]
    rw[<-HPT.out] at h
    exact line2 _ _ b W h (by decide) (Nat.le_trans (j5 c.au HOK.out.2.2.1) (by omega))
   have C4:Hid (∀ W b,L2 b qQ QT W->Calls Tryz.prog 124 #[.slice (some ⟨b,0,none⟩) 2 2] W fun e w'=>e=.returned (.string LC)/\Below W.heap.size W w'):=fun W b h=>by
    rw[<-HLC.out]
    rw[<-HQT.out] at h
    exact line2 _ _ b W h (by decide) (Nat.le_trans (j5 c.co HOK.out.2.2.2.1) (by omega))
   go_wp2_with fail
   refine wp_region_held_drew (S:=BC G PA PC) (by kernel_rfl) (by exact BCd.out) (fun hHeld=>?_)
   generalize wr.drew=u0 at hHeld BCd OWd HBd BGd ⊢
   clear BCd OW HB BG
   refine tZ (i:=0) hHeld ?_
   try simp only[Act.put,sL]
   refine tZ (i:=1) hHeld ?_
   try simp only[Act.put,sL]
   refine tW (i:=2) (v:=.agg PA.toArray) hHeld rfl (yieldsIf_load_mid (by rfl) 156 _ rfl G 21 (by rfl) PA _ (fun w' h=>h.au) Tryz.underlying156 rfl hiA) ?_
   try simp only[Act.put,sL]
   refine tZ (i:=6) hHeld ?_
   try simp only[Act.put,sL]
   refine tW (i:=7) (v:=.agg PC.toArray) hHeld rfl (yieldsIf_load_mid (by rfl) 156 _ rfl G 25 (by rfl) PC _ (fun w' h=>h.co) Tryz.underlying156 rfl hiC) ?_
   try simp only[Act.put,sL]
   refine wpAnyH_ready (rs:=[3]) (by kernel_rfl) (by simp) ?_
   refine zu rfl (fun KK hKK=>?_) AllReadyH.nil
   refine zk (by rfl) 126 [.tmp 34] _ [.agg PA.toArray] _ (by rfl) (by rfl) (jj _) (C1.out _ HBd.out) ?_
   rintro e u1 ⟨rfl,hb⟩
   refine⟨_,rfl,?_⟩
   have OW1:Hid (OL c G i gb cp u1):=OWd.out.keep (zw hb _)
   have HB1:Hid (Below G w u1):=HBd.out.trans (hb.mono (Nat.le_of_lt BGd.out.lt))
   have BG1:Hid (Bk G TV 158 u1):=BGd.out.below hb
   refine hKK.out _ _ (hHeld.below BGd.out.lt hb) (fun hHeld=>?_)
   clear hKK KK hb
   try simp only[Act.put,sL]
   refine wpAnyH_ready (rs:=[4]) (by kernel_rfl) (by simp) ?_
   refine zu rfl (fun KK hKK=>?_) AllReadyH.nil
   obtain⟨u2,HW2⟩:=nm_ (u1.alloc (.cells #[.string yX,.string PT] 9))
   obtain⟨b2,Hb2⟩:=nm_ u1.heap.size
   have hL2:L2 b2 yX PT u2:=by rw[<-HW2.out,<-Hb2.out];exact qj _ _ _
   have hb:Below u1.heap.size u1 u2:=by rw[<-HW2.out];exact(Below.refl _ _).alloc (Nat.le_refl _) _
   refine zZ (by rfl) (.slice (some ⟨b2,0,none⟩) 2 2) (w':=u2) (by rw[<-HW2.out,<-Hb2.out];unfold yX;go_simp) ?_
   have OW2:Hid (OL c G i gb cp u2):=OW1.out.keep (zw hb _)
   have HB2:Hid (Below G w u2):=HB1.out.trans (hb.mono (Nat.le_of_lt BG1.out.lt))
   have BG2:Hid (Bk G TV 158 u2):=BG1.out.below hb
   refine hKK.out _ _ (hHeld.below BG1.out.lt hb) (fun hHeld=>?_)
   clear hKK KK hb
   try simp only[Act.put,sL]
   refine wpAnyH_ready (rs:=[5]) (by kernel_rfl) (by simp) ?_
   refine zu rfl (fun KK hKK=>?_) AllReadyH.nil
   refine zk (by rfl) 124 [.tmp 36] _ [.slice (some ⟨b2,0,none⟩) 2 2] _ (by rfl) (by rfl) (qX _) (C3.out _ _ hL2) ?_
   rintro e u3 ⟨rfl,hb⟩
   refine⟨_,rfl,?_⟩
   have OW3:Hid (OL c G i gb cp u3):=OW2.out.keep (zw hb _)
   have HB3:Hid (Below G w u3):=HB2.out.trans (hb.mono (Nat.le_of_lt BG2.out.lt))
   have BG3:Hid (Bk G TV 158 u3):=BG2.out.below hb
   refine hKK.out _ _ (hHeld.below BG2.out.lt hb) (fun hHeld=>?_)
   clear hKK KK hb
   try simp only[Act.put,sL]
   refine wpAnyH_ready (rs:=[8]) (by kernel_rfl) (by simp) ?_
   refine zu rfl (fun KK hKK=>?_) AllReadyH.nil
   refine zk (by rfl) 126 [.tmp 39] _ [.agg PC.toArray] _ (by rfl) (by rfl) (jj _) (C2.out _ HB3.out) ?_
   rintro e u4 ⟨rfl,hb⟩
   refine⟨_,rfl,?_⟩
   have OW4:Hid (OL c G i gb cp u4):=OW3.out.keep (zw hb _)
   have HB4:Hid (Below G w u4):=HB3.out.trans (hb.mono (Nat.le_of_lt BG3.out.lt))
   have BG4:Hid (Bk G TV 158 u4):=BG3.out.below hb
   refine hKK.out _ _ (hHeld.below BG3.out.lt hb) (fun hHeld=>?_)
   clear hKK KK hb
   try simp only[Act.put,sL]
   refine wpAnyH_ready (rs:=[9]) (by kernel_rfl) (by simp) ?_
   refine zu rfl (fun KK hKK=>?_) AllReadyH.nil
   obtain⟨u5,HW5⟩:=nm_ (u4.alloc (.cells #[.string qQ,.string QT] 9))
   obtain⟨b5,Hb5⟩:=nm_ u4.heap.size
   have hL5:L2 b5 qQ QT u5:=by rw[<-HW5.out,<-Hb5.out];exact qj _ _ _
   have hb:Below u4.heap.size u4 u5:=by rw[<-HW5.out];exact(Below.refl _ _).alloc (Nat.le_refl _) _
   refine zZ (by rfl) (.slice (some ⟨b5,0,none⟩) 2 2) (w':=u5) (by rw[<-HW5.out,<-Hb5.out];unfold qQ;go_simp) ?_
   have OW5:Hid (OL c G i gb cp u5):=OW4.out.keep (zw hb _)
   have HB5:Hid (Below G w u5):=HB4.out.trans (hb.mono (Nat.le_of_lt BG4.out.lt))
   have BG5:Hid (Bk G TV 158 u5):=BG4.out.below hb
   refine hKK.out _ _ (hHeld.below BG4.out.lt hb) (fun hHeld=>?_)
   clear hKK KK hb
   try simp only[Act.put,sL]
   refine wpAnyH_ready (rs:=[10]) (by kernel_rfl) (by simp) ?_
   refine zu rfl (fun KK hKK=>?_) AllReadyH.nil
   refine zk (by rfl) 124 [.tmp 41] _ [.slice (some ⟨b5,0,none⟩) 2 2] _ (by rfl) (by rfl) (qX _) (C4.out _ _ hL5) ?_
   rintro e u6 ⟨rfl,hb⟩
   refine⟨_,rfl,?_⟩
   have OW6:Hid (OL c G i gb cp u6):=OW5.out.keep (zw hb _)
   have HB6:Hid (Below G w u6):=HB5.out.trans (hb.mono (Nat.le_of_lt BG5.out.lt))
   have BG6:Hid (Bk G TV 158 u6):=BG5.out.below hb
   refine hKK.out _ _ (hHeld.below BG5.out.lt hb) (fun hHeld=>?_)
   clear hKK KK hb
   try simp only[Act.put,sL]
   refine wpAnyH_ready (rs:=[11]) (by kernel_rfl) (by simp) ?_
   refine zu rfl (fun KK hKK=>?_) AllReadyH.nil
   obtain⟨u7,HW7⟩:=nm_ (u6.alloc (.cells #[.string LA,.string LC] 9))
   obtain⟨b7,Hb7⟩:=nm_ u6.heap.size
   have HN7:Hid (∀ j u,[Value.string LA,Value.string LC][j]? = some u->u7.cell? ((⟨b7,0,none⟩:Addr).add j)=some u):=hid (by rw[<-HW7.out,<-Hb7.out];exact l2_new _ _ _)
   have hb:Below u6.heap.size u6 u7:=by rw[<-HW7.out];exact(Below.refl _ _).alloc (Nat.le_refl _) _
   refine zZ (by rfl) (.slice (some ⟨b7,0,none⟩) 2 2) (w':=u7) (by rw[<-HW7.out,<-Hb7.out];go_simp) ?_
   have OW7:Hid (OL c G i gb cp u7):=OW6.out.keep (zw hb _)
   have HB7:Hid (Below G w u7):=HB6.out.trans (hb.mono (Nat.le_of_lt BG6.out.lt))
   have BG7:Hid (Bk G TV 158 u7):=BG6.out.below hb
   refine hKK.out _ _ (hHeld.below BG6.out.lt hb) (fun hHeld=>?_)
   clear hKK KK hb
   try simp only[Act.put,sL]
   refine wpAnyH_ready (rs:=[12]) (by kernel_rfl) (by simp) ?_
   refine zu rfl (fun KK hKK=>?_) AllReadyH.nil
   refine jK u7 (by rfl) _ _ 211 rfl (G+1) 9 i9 (.string ⟨#[]⟩) 1 16 Tryz.underlying211 hi9 hz0 hz1 hz2 rfl (by decide) (.slice (some ⟨gb,0,none⟩) (i+1:Nat) cp) (i+1) ((jq c i).map Value.string) (by first | rfl | simp) OW7.out ⟨b7,0,none⟩ 2 2 [.string LA,.string LC] (by first | rfl | simp) rfl HN7.out (str_ones [LA,LC]) (by unfold maxLen;omega) (by omega) (Nat.succ_le_of_lt BG7.out.lt) _ rfl ?_
   intro ao cap2 u8 hown hg hloc
   have OWF:Hid (u8.ownsRow (G+1) 9 1 (.slice ao (i+1+2:Nat) cap2) (i+1+2) ((jq c i++[LA,LC]).map Value.string)):=hid (by rw[List.map_append];exact hown)
   have GW:Hid (u7.grownBy u8 (some gb)):=hg
   clear hown hg hloc
   have hgb:=(own_cells OW7.out).2.2.1
   have HB8:Hid (Below G w u8):=HB7.out.grown GW.out (Nat.le_of_lt BG7.out.lt) (fun q hq=>by cases hq;omega)
   have BG8:Hid (Bk G TV 158 u8):=BG7.out.grown (r:=gb) GW.out (by omega)
   refine hKK.out _ _ (hHeld.grown (r:=gb) BG7.out.lt GW.out (by omega)) (fun hHeld=>?_)
   clear hKK KK
   try simp only[Act.put,sL]
   refine tZ (i:=13) hHeld ?_
   try simp only[Act.put,sL]
   refine wpAnyH_done (by kernel_rfl) ?_ _
   obtain⟨g8,rfl,hg8⟩:=own_some OWF.out (by omega)
   obtain⟨q1,q2,q3,q4,q5⟩:=own_cells OWF.out
   have CF:Hid (Calls Tryz.prog 127 #[.string M,.slice (some ⟨g8,0,none⟩) (i+1+2:Nat) cap2] u8 (PostL (cmB c) u8)):=hid (by
    have hml:c.msg.length<=100000:=by
     have:=HOK.out.2.2.2.2
     unfold uz at this
     rw[Bool.and_eq_true] at this
     have:=of_decide_eq_true this.1
     omega
    have:=letter_any c.msg hml g8 0 cap2 (jq c i++[LA,LC]) u8 q5 q4 (by rw[q2];omega) (by rw[q2];exact q1) (by
     have h:=lines_short c HWC.out HOK.out
     rw[HN.out,HLA.out,HLC.out] at h
     exact h)
    rw[q2] at this
    have e:=lines_all c
    rw[HN.out,HLA.out,HLC.out] at e
    rw[e,HMM.out] at this
    exact this)
   have c29:u8.cell? ⟨G,29,none⟩=some (.string M):=by rw[<-HMM.out];exact(HC.out _ BG8.out).c29
   clear q5 hHeld
   go_wp2_with fail
   refine CF.out.mono ?_
   rintro ev u9 ⟨hb,g9,cp9,rfl,hge,hmk⟩
   have PE:Hid (PostC c w (.returned (.tuple #[.slice (some ⟨g9,0,none⟩) (cmB c).length cp9,.nilIface])) u9):=hid (by
    have hB9:Below w.heap.size w u9:=by rw[HG.out];exact HB8.out.trans (hb.mono (Nat.le_of_lt BG8.out.lt))
    refine⟨hB9,.inl ⟨HOK.out,g9,cp9,rfl,?_,hmk⟩⟩
    have:=BG8.out.lt
    rw[HG.out]
    omega)
   clear hb hge hmk
   obtain⟨L,HL⟩:=nm_ ((cmB c).length)
   rw[HL.out] at PE ⊢
   go_wp2
   go_ret2
   exact PE.out
end Go.Proofs.YticgindfipobiaaGreatDoor
