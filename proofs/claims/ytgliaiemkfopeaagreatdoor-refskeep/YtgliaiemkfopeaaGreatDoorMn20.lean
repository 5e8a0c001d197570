import Derived.Test.YtgliaiemkfopeaaGreatDoorMn19
import Derived.Test.YtgliaiemkfopeaaGreatDoorMn08
set_option linter.unusedSimpArgs false
set_option linter.unusedVariables false
set_option maxRecDepth 20000
set_option maxHeartbeats 4000000
namespace Go.Proofs.YtgliaiemkfopeaaGreatDoor.K
open Go.RowKit
theorem Tryz.results167:Tryz.f167.results=#[.cell 2 143]:=by kernel_rfl
theorem ju {x:Str} (h:isN x=true):∀ c ∈ x,33<=c.toNat/\c.toNat<=126:=by
 by_cases hh:x=[72,69,65,68]
 ·subst hh
  decide
 ·have h1:=Nm.isN_not hh
  have h2:Nm.prgOk x=true:=by rw[<-h1];exact h
  unfold Nm.prgOk at h2
  simp only[Bool.and_eq_true] at h2
  have h3:=h2.1.1.1.2
  intro c hc
  have:=List.all_eq_true.1 h3 c hc
  unfold Nm.byteOk at this
  simp at this
  omega
structure StR (s:Sp):Prop where
 nm:isN s.name=true
 id:IdW s.id
 e:uy s.e
 tg:s.tg.length<=60
 kind:s.word=wR ∨ (s.word=wL/\isN s.tg=true) ∨ s.word=wD ∨ (s.word=wG/\okG s.e.who s.e.text)
def cnS (s:Sp):Sp:=if s.word=wR then ⟨wR,s.name,s.id,[],zL⟩ else if s.word=wL then ⟨wL,s.name,zQ,s.tg,zL⟩ else if s.word=wD then ⟨wD,s.name,zQ,[],zL⟩ else ⟨wG,s.name,zQ,[],s.e⟩
theorem bdS2 (W N:ByteArray) (w:World):(Instr.build 143 #[(0,.string W),(1,.string N)]).run Tryz.prog w=.ok (.agg (.string W :: .string N :: (row .u8 zQ++(sV [] :: qv zL))).toArray) w:=by kernel_rfl
theorem cut_none (s:Str) (c:UInt8) (h:c ∉ s):Lib.cut s [c]=(s,[],false):=by
 have hi:Lib.index s [c] = -1:=by
  induction s with
  | nil=>rfl
  | cons b l ih =>
   simp only[List.mem_cons,not_or] at h
   have:=ih h.2
   unfold Lib.index
   rw[this]
   have hb:([c] : List UInt8).isPrefixOf (b :: l)=false:=by
    simp only[List.isPrefixOf]
    simp[h.1]
   rw[hb]
   rfl
 unfold Lib.cut
 rw[hi,if_neg (by omega)]
theorem Y2 {w:World} {K:Nat} {t:TypeId} {L:List Value} (h:w.heap[K]? = some (.cells L.toArray t (0,0))) (o n:Nat) (ho:o+n<=L.length):w.there K o n:=fun j hj=>by
 refine⟨?_,by simp[World.frozen?,h]⟩
 rw[cell_of_row _ _ (o+j) _ _ _ h]
 simp
 omega
theorem mid_set {w:World} {K:Nat} {t:TypeId} (pre old post new:List Value) (h:w.heap[K]? = some (.cells (pre++(old++post)).toArray t (0,0))) (hn:new.length=old.length):(w.setCells K pre.length new).rangeAt K 0 (pre++(new++post)):=fun j v hv=>by
 have ht:=Y2 h pre.length new.length (by simp;omega)
 rw[Nat.zero_add]
 by_cases h1:j<pre.length
 ·rw[World.cell?_setCells_out _ _ _ _ _ (fun _ _=>.inl h1),cell_of_row _ _ j _ _ _ h]
  rw[List.getElem?_append_left h1] at hv
  simp only[List.getElem?_toArray]
  rw[List.getElem?_append_left h1]
  exact hv
 ·rw[List.getElem?_append_right (by omega)] at hv
  by_cases h2:j<pre.length+new.length
  ·obtain⟨k,rfl⟩:∃ k,j=pre.length+k:=⟨j-pre.length,by omega⟩
   rw[Nat.add_sub_cancel_left,List.getElem?_append_left (by omega)] at hv
   rw[World.cell?_setCells_in _ _ _ _ (fun i hi=>(ht i hi).1) k (by omega),<-hv,List.getElem?_eq_getElem (by omega)]
  ·rw[World.cell?_setCells_out _ _ _ _ _ (fun _ _=>.inr (by show pre.length+new.length<=j;omega)),cell_of_row _ _ j _ _ _ h]
   rw[List.getElem?_append_right (by omega)] at hv
   simp only[List.getElem?_toArray]
   rw[List.getElem?_append_right (by omega),List.getElem?_append_right (by omega),<-hn]
   exact hv
set_option maxHeartbeats 1000000 in
theorem stepOf_drop (s:Sp) (h:StR s) (hw:s.word=wD) (w:World) (her:Ers w) (hmx:Mx w):Calls Tryz.prog 167 #[sV (lnS s)] w fun r w'=>r=.returned (.agg (zX (cnS s)).toArray)/\Below w.heap.size w w':=by
 have hnl:=qZ h.nm
 have hn32:(32:UInt8) ∉ s.name:=fun hc=>by have:=ju h.nm 32 hc;simp at this
 have hcn:cnS s=⟨wD,s.name,zQ,[],zL⟩:=by unfold cnS;rw[hw];rfl
 obtain⟨r1,hr1⟩:∃ r,s.name=r:=⟨_,rfl⟩
 obtain⟨r2,hr2⟩:∃ r:Str,[]=r:=⟨_,rfl⟩
 have hln:lnS s=wD++32 :: r1:=by rw[<-hr1];unfold lnS wsS;rw[hw];simp[jw,wR,wL,wD,wG]
 have k1:Lib.cut (lnS s) [32]=(wD,r1,true):=by rw[hln];exact vQ _ _ _ (by unfold wD;decide)
 have k2:Lib.cut r1 [32]=(s.name,r2,false):=by rw[<-hr1,<-hr2];exact cut_none _ _ hn32
 have hll:(lnS s).length<=300000:=by rw[hln,<-hr1];simp[wD,x7,h.id.1];omega
 have hl1:r1.length<=300000:=by have:=congrArg List.length hln;simp only[List.length_append,List.length_cons] at this;omega
 have c1:=fun W hm=>cutB (lnS s) [32] (by omega) _ _ _ k1 W hm
 have c2:=fun W hm=>cutB r1 [32] (by omega) _ _ _ k2 W hm
 obtain⟨S0,H0⟩:=nm_ (⟨(lnS s).toArray⟩:ByteArray)
 obtain⟨S1,H1⟩:=nm_ (⟨r1.toArray⟩:ByteArray)
 obtain⟨S2,H2⟩:=nm_ (⟨r2.toArray⟩:ByteArray)
 obtain⟨NM,HNM⟩:=nm_ (⟨s.name.toArray⟩:ByteArray)
 unfold sV at c1 c2 ⊢
 rw[H0.out,H1.out] at c1
 rw[H1.out,HNM.out,H2.out] at c2
 rw[H0.out]
 unfold wD at c1
 obtain⟨B0,hB0⟩:∃ B,zX ⟨wD,s.name,zQ,[],zL⟩=B:=⟨_,rfl⟩
 have hb68:B0.length=68:=by rw[<-hB0];exact zJ ⟨qK.1,qK,hnl,by simp⟩
 have HBD:Hid (∀ W:World,(Instr.build 143 #[(0,.string ⟨#[100,114,111,112]⟩),(1,.string NM)]).run Tryz.prog W=.ok (.agg B0.toArray) W):=fun W=>by rw[<-hB0,<-HNM.out];exact bdS2 _ _ W
 have HI0:Hid ((Tryz.prog.info? 143).map (·.size)=some B0.toArray.size):=hid (by rw[List.size_toArray,hb68];kernel_rfl)
 have HZ0:Hid (68=B0.toArray.size):=hid (by rw[List.size_toArray,hb68])
 have HO0:Hid (B0.toArray.all (·.oneCell')=true):=hid (all_oneCell_toArray (by rw[<-hB0];exact qV _))
 obtain⟨FL,hFL⟩:∃ B,zX (cnS s)=B:=⟨_,rfl⟩
 have hf68:FL.length=68:=by rw[<-hFL,hcn];exact zJ ⟨qK.1,qK,hnl,by simp⟩
 have HIF:Hid ((Tryz.prog.info? 143).map (·.size)=some FL.length):=hid (by rw[hf68];kernel_rfl)
 have HIF2:Hid ((Tryz.prog.info? 143).map (·.size)=some FL.toArray.size):=hid (by rw[List.size_toArray];exact HIF.out)
 have HOF:Hid (FL.toArray.all (·.oneCell')=true):=hid (all_oneCell_toArray (by rw[<-hFL];exact qV _))
 obtain⟨Z,HZ⟩:=nm_ ((zX ⟨[],[],zQ,[],zL⟩).toArray)
 have HZF:Hid (Z.size=FL.toArray.size):=hid (by rw[show FL.toArray.size=68 by rw[List.size_toArray];exact hf68,<-HZ.out];rfl)
 obtain⟨w0,hw0⟩:∃ w0,w.alloc (.cells Z 143)=w0:=⟨_,rfl⟩
 have HZL:Hid (w.alloc (.cells (zX ⟨[],[],zQ,[],zL⟩).toArray 143)=w0):=hid (by rw[HZ.out];exact hw0)
 have hb0:Below w.heap.size w w0:=by rw[<-hw0];exact(Below.refl _ _).alloc (Nat.le_refl _) _
 have hh0:w0.heap[w.heap.size]? = some (.cells Z 143):=by rw[<-hw0];exact heap_alloc_new _ _
 have hz0:w0.heap.size=w.heap.size+1:=by rw[<-hw0];simp
 have HEN:Hid (∀ W,Below w0.heap.size w0 W->Mx W/\Ers W):=fun W hW=>⟨(hmx.below hb0).below hW,(her.below hb0).below hW⟩
 have HFN:Hid (∀ W,Below w0.heap.size w0 W->W.heap[w.heap.size]? = some (.cells Z 143)/\(W.setRow w.heap.size FL.toArray).heap[w.heap.size]? = some (.cells FL.toArray 143)/\Below w.heap.size w (W.setRow w.heap.size FL.toArray)):=fun W hW=>by
  have q1:=(hW.block _ (z7 hh0)).trans hh0
  exact⟨q1,setRow_heap _ _ _ _ _ _ q1,below_setRow (hb0.trans (hW.mono hb0.size)) (Nat.le_refl _) _⟩
 have HBR:=hid (Below.refl w0.heap.size w0)
 have HMID:Hid (∀ w2 w3,Below w0.heap.size w0 w2->w2.alloc (.cells B0.toArray 143)=w3->w3.rangeAt w2.heap.size 0 FL/\Below w0.heap.size w0 w3):=fun w2 w3 h2 h3=>by
  subst h3
  refine⟨?_,h2.alloc h2.size _⟩
  rw[<-hFL,hcn,hB0]
  exact zy (heap_alloc_new _ _)
 rw[hFL]
 clear k1 k2 hln hl1 hll hr1 hr2 hn32 hnl hcn hb0 hh0 hz0 hf68 hFL hb68 hB0 her hmx hw0 h hw
 go_enter Tryz.func167,Tryz.ntmps167
 go_wp2_with fail
 change Calls Tryz.prog 200 #[.string S0,.string ⟨#[32]⟩] (w.alloc (.cells (zX ⟨[],[],zQ,[],zL⟩).toArray 143)) _
 rw[HZL.out]
 refine(c1 w0 (HEN.out w0 HBR.out).1).mono ?_
 rintro r w1 ⟨rfl,hb1⟩
 have B1:Hid (Below w0.heap.size w0 w1):=hid hb1
 clear hb1 c1
 go_wp2_with (first
  | (go_at_call 200;refine(c2 _ (HEN.out _ B1.out).1).mono ?_;rintro r w2 ⟨rfl,hb⟩;have B2:Hid (Below w0.heap.size w0 w2):=hid (B1.out.trans (hb.mono B1.out.size));obtain⟨w3,hw3⟩:∃ w3,w2.alloc (.cells B0.toArray 143)=w3:=⟨_,rfl⟩;obtain⟨ql,qb⟩:=HMID.out w2 w3 B2.out hw3;have QL:=hid ql;obtain⟨q1,q2,q3⟩:=HFN.out w3 qb;have Q1:=hid q1;have Q2:=hid q2;have Q3:=hid q3;clear ql qb q1 q2 q3;clear hb c2)
  | (refine z8 rfl _ (xJ 143 0 1 (.tmp 21) (.tmp 22) rfl (.string ⟨#[100,114,111,112]⟩) (.string NM) (.agg B0.toArray) rfl rfl (HBD.out _)) ?_;go_frame)
  | (refine zq rfl 143 (.tmp 8) (.tmp 23) rfl _ B0.toArray rfl rfl HI0.out (by rw[<-HZ0.out];rfl) HO0.out ?_;rw[hw3];go_frame)
  | (refine wpList_load_mid rfl 143 (.tmp 8) rfl _ 0 rfl FL _ QL.out Tryz.underlying143 rfl HIF.out ?_;go_frame)
  | (refine wpList_store_row rfl 143 (.tmp 2) (.tmp 39) rfl w.heap.size FL.toArray rfl rfl 143 _ Q1.out HIF2.out HZF.out HOF.out ?_))
 exact bodyPost_ret (qW Tryz.results167 _ _ w.heap.size FL _ rfl (zy Q2.out) Tryz.underlying143 rfl HIF.out) rfl ⟨rfl,Q3.out⟩
set_option maxHeartbeats 1000000 in
theorem stepOf_link (s:Sp) (h:StR s) (hw:s.word=wL) (htg:isN s.tg=true) (w:World) (her:Ers w) (hmx:Mx w):Calls Tryz.prog 167 #[sV (lnS s)] w fun r w'=>r=.returned (.agg (zX (cnS s)).toArray)/\Below w.heap.size w w':=by
 have hnl:=qZ h.nm
 have hn32:(32:UInt8) ∉ s.name:=fun hc=>by have:=ju h.nm 32 hc;simp at this
 have hcn:cnS s=⟨wL,s.name,zQ,s.tg,zL⟩:=by unfold cnS;rw[hw];rfl
 obtain⟨r1,hr1⟩:∃ r,s.name++32 :: s.tg=r:=⟨_,rfl⟩
 obtain⟨r2,hr2⟩:∃ r:Str,s.tg=r:=⟨_,rfl⟩
 have hln:lnS s=wL++32 :: r1:=by rw[<-hr1];unfold lnS wsS;rw[hw];simp[jw,wR,wL,wD,wG]
 have k1:Lib.cut (lnS s) [32]=(wL,r1,true):=by rw[hln];exact vQ _ _ _ (by unfold wL;decide)
 have k2:Lib.cut r1 [32]=(s.name,r2,true):=by rw[<-hr1,<-hr2];exact vQ _ _ _ hn32
 have htl:=qZ htg
 have hll:(lnS s).length<=300000:=by rw[hln,<-hr1];simp[wL,x7,h.id.1];omega
 have hl1:r1.length<=300000:=by have:=congrArg List.length hln;simp only[List.length_append,List.length_cons] at this;omega
 have c1:=fun W hm=>cutB (lnS s) [32] (by omega) _ _ _ k1 W hm
 have c2:=fun W hm=>cutB r1 [32] (by omega) _ _ _ k2 W hm
 obtain⟨S0,H0⟩:=nm_ (⟨(lnS s).toArray⟩:ByteArray)
 obtain⟨S1,H1⟩:=nm_ (⟨r1.toArray⟩:ByteArray)
 obtain⟨S2,H2⟩:=nm_ (⟨r2.toArray⟩:ByteArray)
 obtain⟨NM,HNM⟩:=nm_ (⟨s.name.toArray⟩:ByteArray)
 unfold sV at c1 c2 ⊢
 rw[H0.out,H1.out] at c1
 rw[H1.out,HNM.out,H2.out] at c2
 rw[H0.out]
 unfold wL at c1
 obtain⟨B0,hB0⟩:∃ B,zX ⟨wL,s.name,zQ,[],zL⟩=B:=⟨_,rfl⟩
 have hb68:B0.length=68:=by rw[<-hB0];exact zJ ⟨qK.1,qK,hnl,by simp⟩
 have HBD:Hid (∀ W:World,(Instr.build 143 #[(0,.string ⟨#[108,105,110,107]⟩),(1,.string NM)]).run Tryz.prog W=.ok (.agg B0.toArray) W):=fun W=>by rw[<-hB0,<-HNM.out];exact bdS2 _ _ W
 have HI0:Hid ((Tryz.prog.info? 143).map (·.size)=some B0.toArray.size):=hid (by rw[List.size_toArray,hb68];kernel_rfl)
 have HZ0:Hid (68=B0.toArray.size):=hid (by rw[List.size_toArray,hb68])
 have HO0:Hid (B0.toArray.all (·.oneCell')=true):=hid (all_oneCell_toArray (by rw[<-hB0];exact qV _))
 obtain⟨FL,hFL⟩:∃ B,zX (cnS s)=B:=⟨_,rfl⟩
 have hf68:FL.length=68:=by rw[<-hFL,hcn];exact zJ ⟨qK.1,qK,hnl,qZ htg⟩
 have HIF:Hid ((Tryz.prog.info? 143).map (·.size)=some FL.length):=hid (by rw[hf68];kernel_rfl)
 have HIF2:Hid ((Tryz.prog.info? 143).map (·.size)=some FL.toArray.size):=hid (by rw[List.size_toArray];exact HIF.out)
 have HOF:Hid (FL.toArray.all (·.oneCell')=true):=hid (all_oneCell_toArray (by rw[<-hFL];exact qV _))
 obtain⟨Z,HZ⟩:=nm_ ((zX ⟨[],[],zQ,[],zL⟩).toArray)
 have HZF:Hid (Z.size=FL.toArray.size):=hid (by rw[show FL.toArray.size=68 by rw[List.size_toArray];exact hf68,<-HZ.out];rfl)
 obtain⟨w0,hw0⟩:∃ w0,w.alloc (.cells Z 143)=w0:=⟨_,rfl⟩
 have HZL:Hid (w.alloc (.cells (zX ⟨[],[],zQ,[],zL⟩).toArray 143)=w0):=hid (by rw[HZ.out];exact hw0)
 have hb0:Below w.heap.size w w0:=by rw[<-hw0];exact(Below.refl _ _).alloc (Nat.le_refl _) _
 have hh0:w0.heap[w.heap.size]? = some (.cells Z 143):=by rw[<-hw0];exact heap_alloc_new _ _
 have hz0:w0.heap.size=w.heap.size+1:=by rw[<-hw0];simp
 have HEN:Hid (∀ W,Below w0.heap.size w0 W->Mx W/\Ers W):=fun W hW=>⟨(hmx.below hb0).below hW,(her.below hb0).below hW⟩
 have HFN:Hid (∀ W,Below w0.heap.size w0 W->W.heap[w.heap.size]? = some (.cells Z 143)/\(W.setRow w.heap.size FL.toArray).heap[w.heap.size]? = some (.cells FL.toArray 143)/\Below w.heap.size w (W.setRow w.heap.size FL.toArray)):=fun W hW=>by
  have q1:=(hW.block _ (z7 hh0)).trans hh0
  exact⟨q1,setRow_heap _ _ _ _ _ _ q1,below_setRow (hb0.trans (hW.mono hb0.size)) (Nat.le_refl _) _⟩
 have HBR:=hid (Below.refl w0.heap.size w0)
 have HMID:Hid (∀ w2 w3,Below w0.heap.size w0 w2->w2.alloc (.cells B0.toArray 143)=w3->∃ v,w3.cell? ⟨w2.heap.size,22,none⟩=some v/\w3.frozen? ⟨w2.heap.size,22,none⟩=false/\(w3.setCell ⟨w2.heap.size,22,none⟩ (.string S2)).rangeAt w2.heap.size 0 FL/\Below w0.heap.size w0 (w3.setCell ⟨w2.heap.size,22,none⟩ (.string S2))):=fun w2 w3 h2 h3=>by
  have hk:w3.heap[w2.heap.size]? = some (.cells B0.toArray 143):=by rw[<-h3];exact heap_alloc_new _ _
  have hb3:Below w0.heap.size w0 w3:=by rw[<-h3];exact h2.alloc h2.size _
  have h4:=qy hk 22 (.string S2)
  refine⟨B0.getD 22 undef,by rw[cell_of_row _ _ 22 _ _ _ hk];simp[List.getD_eq_getElem?_getD,List.getElem?_eq_getElem (show 22<B0.length by omega)],by simp[World.frozen?,hk],?_,hb3.setCell (p:=⟨w2.heap.size,22,none⟩) h2.size _⟩
  have e:FL=B0.set 22 (.string S2):=by
   rw[<-hFL,hcn,<-hB0,<-H2.out,<-hr2]
   rfl
  rw[e]
  refine zy (t:=143) (fr:=(0,0)) ?_
  rw[h4]
  simp
 rw[hFL]
 clear k1 k2 hln hl1 hll hr1 hr2 hn32 hnl hcn hb0 hh0 hz0 hf68 hFL hb68 hB0 her hmx hw0 h hw htg htl
 go_enter Tryz.func167,Tryz.ntmps167
 go_wp2_with fail
 change Calls Tryz.prog 200 #[.string S0,.string ⟨#[32]⟩] (w.alloc (.cells (zX ⟨[],[],zQ,[],zL⟩).toArray 143)) _
 rw[HZL.out]
 refine(c1 w0 (HEN.out w0 HBR.out).1).mono ?_
 rintro r w1 ⟨rfl,hb1⟩
 have B1:Hid (Below w0.heap.size w0 w1):=hid hb1
 clear hb1 c1
 go_wp2_with (first
  | (go_at_call 200;refine(c2 _ (HEN.out _ B1.out).1).mono ?_;rintro r w2 ⟨rfl,hb⟩;have B2:Hid (Below w0.heap.size w0 w2):=hid (B1.out.trans (hb.mono B1.out.size));obtain⟨w3,hw3⟩:∃ w3,w2.alloc (.cells B0.toArray 143)=w3:=⟨_,rfl⟩;obtain⟨v0,qc,qf,ql,qb⟩:=HMID.out w2 w3 B2.out hw3;obtain⟨w5,hw5⟩:∃ w5,w3.setCell ⟨w2.heap.size,22,none⟩ (.string S2)=w5:=⟨_,rfl⟩;rw[hw5] at ql qb;have QL:=hid ql;obtain⟨q1,q2,q3⟩:=HFN.out w5 qb;have Q1:=hid q1;have Q2:=hid q2;have Q3:=hid q3;clear ql qb q1 q2 q3;clear hb c2)
  | (refine z8 rfl _ (xJ 143 0 1 (.tmp 21) (.tmp 22) rfl (.string ⟨#[108,105,110,107]⟩) (.string NM) (.agg B0.toArray) rfl rfl (HBD.out _)) ?_;go_frame)
  | (refine zq rfl 143 (.tmp 8) (.tmp 23) rfl _ B0.toArray rfl rfl HI0.out (by rw[<-HZ0.out];rfl) HO0.out ?_;rw[hw3];go_frame)
  | (refine wpList_load_mid rfl 143 (.tmp 8) rfl _ 0 rfl FL _ QL.out Tryz.underlying143 rfl HIF.out ?_;go_frame)
  | (refine wpList_store_row rfl 143 (.tmp 2) (.tmp 39) rfl w.heap.size FL.toArray rfl rfl 143 _ Q1.out HIF2.out HZF.out HOF.out ?_))
 exact bodyPost_ret (qW Tryz.results167 _ _ w.heap.size FL _ rfl (zy Q2.out) Tryz.underlying143 rfl HIF.out) rfl ⟨rfl,Q3.out⟩
set_option maxHeartbeats 1000000 in
theorem stepOf_ref (s:Sp) (h:StR s) (hw:s.word=wR) (w:World) (her:Ers w) (hmx:Mx w):Calls Tryz.prog 167 #[sV (lnS s)] w fun r w'=>r=.returned (.agg (zX (cnS s)).toArray)/\Below w.heap.size w w':=by
 have hnl:=qZ h.nm
 have hn32:(32:UInt8) ∉ s.name:=fun hc=>by have:=ju h.nm 32 hc;simp at this
 have hcn:cnS s=⟨wR,s.name,s.id,[],zL⟩:=by unfold cnS;rw[hw];rfl
 obtain⟨r1,hr1⟩:∃ r,s.name++32 :: yW s.id=r:=⟨_,rfl⟩
 obtain⟨r2,hr2⟩:∃ r:Str,yW s.id=r:=⟨_,rfl⟩
 have hln:lnS s=wR++32 :: r1:=by rw[<-hr1];unfold lnS wsS;rw[hw];simp[jw,wR,wL,wD,wG]
 have k1:Lib.cut (lnS s) [32]=(wR,r1,true):=by rw[hln];exact vQ _ _ _ (by unfold wR;decide)
 have k2:Lib.cut r1 [32]=(s.name,r2,true):=by rw[<-hr1,<-hr2];exact vQ _ _ _ hn32
 have hll:(lnS s).length<=300000:=by rw[hln,<-hr1];simp[wR,x7,h.id.1];omega
 have hl1:r1.length<=300000:=by have:=congrArg List.length hln;simp only[List.length_append,List.length_cons] at this;omega
 have c1:=fun W hm=>cutB (lnS s) [32] (by omega) _ _ _ k1 W hm
 have c2:=fun W hm=>cutB r1 [32] (by omega) _ _ _ k2 W hm
 obtain⟨S0,H0⟩:=nm_ (⟨(lnS s).toArray⟩:ByteArray)
 obtain⟨S1,H1⟩:=nm_ (⟨r1.toArray⟩:ByteArray)
 obtain⟨S2,H2⟩:=nm_ (⟨r2.toArray⟩:ByteArray)
 obtain⟨NM,HNM⟩:=nm_ (⟨s.name.toArray⟩:ByteArray)
 have d1:=fun W=>idOf_any s.id h.id W
 rw[hr2] at d1
 unfold sV at d1
 rw[H2.out] at d1
 obtain⟨R,hR⟩:∃ R,row .u8 s.id=R:=⟨_,rfl⟩
 rw[hR] at d1
 have HR20:Hid (R.length=20):=hid (by rw[<-hR,zw];exact h.id.1)
 have HI89:Hid ((Tryz.prog.info? 89).map (·.size)=some R.toArray.size):=hid (by rw[List.size_toArray,HR20.out];kernel_rfl)
 have HO89:Hid (R.toArray.all (·.oneCell')=true):=hid (all_oneCell_toArray (by rw[<-hR];exact yQ _ _))
 unfold sV at c1 c2 ⊢
 rw[H0.out,H1.out] at c1
 rw[H1.out,HNM.out,H2.out] at c2
 rw[H0.out]
 unfold wR at c1
 obtain⟨B0,hB0⟩:∃ B,zX ⟨wR,s.name,zQ,[],zL⟩=B:=⟨_,rfl⟩
 have hb68:B0.length=68:=by rw[<-hB0];exact zJ ⟨qK.1,qK,hnl,by simp⟩
 have HBD:Hid (∀ W:World,(Instr.build 143 #[(0,.string ⟨#[114,101,102]⟩),(1,.string NM)]).run Tryz.prog W=.ok (.agg B0.toArray) W):=fun W=>by rw[<-hB0,<-HNM.out];exact bdS2 _ _ W
 have HI0:Hid ((Tryz.prog.info? 143).map (·.size)=some B0.toArray.size):=hid (by rw[List.size_toArray,hb68];kernel_rfl)
 have HZ0:Hid (68=B0.toArray.size):=hid (by rw[List.size_toArray,hb68])
 have HO0:Hid (B0.toArray.all (·.oneCell')=true):=hid (all_oneCell_toArray (by rw[<-hB0];exact qV _))
 obtain⟨FL,hFL⟩:∃ B,zX (cnS s)=B:=⟨_,rfl⟩
 have hf68:FL.length=68:=by rw[<-hFL,hcn];exact zJ ⟨h.id,qK,hnl,by simp⟩
 have HIF:Hid ((Tryz.prog.info? 143).map (·.size)=some FL.length):=hid (by rw[hf68];kernel_rfl)
 have HIF2:Hid ((Tryz.prog.info? 143).map (·.size)=some FL.toArray.size):=hid (by rw[List.size_toArray];exact HIF.out)
 have HOF:Hid (FL.toArray.all (·.oneCell')=true):=hid (all_oneCell_toArray (by rw[<-hFL];exact qV _))
 obtain⟨Z,HZ⟩:=nm_ ((zX ⟨[],[],zQ,[],zL⟩).toArray)
 have HZF:Hid (Z.size=FL.toArray.size):=hid (by rw[show FL.toArray.size=68 by rw[List.size_toArray];exact hf68,<-HZ.out];rfl)
 obtain⟨w0,hw0⟩:∃ w0,w.alloc (.cells Z 143)=w0:=⟨_,rfl⟩
 have HZL:Hid (w.alloc (.cells (zX ⟨[],[],zQ,[],zL⟩).toArray 143)=w0):=hid (by rw[HZ.out];exact hw0)
 have hb0:Below w.heap.size w w0:=by rw[<-hw0];exact(Below.refl _ _).alloc (Nat.le_refl _) _
 have hh0:w0.heap[w.heap.size]? = some (.cells Z 143):=by rw[<-hw0];exact heap_alloc_new _ _
 have hz0:w0.heap.size=w.heap.size+1:=by rw[<-hw0];simp
 have HEN:Hid (∀ W,Below w0.heap.size w0 W->Mx W/\Ers W):=fun W hW=>⟨(hmx.below hb0).below hW,(her.below hb0).below hW⟩
 have HFN:Hid (∀ W,Below w0.heap.size w0 W->W.heap[w.heap.size]? = some (.cells Z 143)/\(W.setRow w.heap.size FL.toArray).heap[w.heap.size]? = some (.cells FL.toArray 143)/\Below w.heap.size w (W.setRow w.heap.size FL.toArray)):=fun W hW=>by
  have q1:=(hW.block _ (z7 hh0)).trans hh0
  exact⟨q1,setRow_heap _ _ _ _ _ _ q1,below_setRow (hb0.trans (hW.mono hb0.size)) (Nat.le_refl _) _⟩
 have HBR:=hid (Below.refl w0.heap.size w0)
 have HMID:Hid (∀ w2 w3,Below w0.heap.size w0 w2->w2.alloc (.cells B0.toArray 143)=w3->∀ w4,Below w3.heap.size w3 w4->w4.there w2.heap.size 2 R.toArray.size/\(w4.setCells w2.heap.size 2 R.toArray.toList).rangeAt w2.heap.size 0 FL/\Below w0.heap.size w0 (w4.setCells w2.heap.size 2 R.toArray.toList)):=fun w2 w3 h2 h3 w4 h4=>by
  have hk3:w3.heap[w2.heap.size]? = some (.cells B0.toArray 143):=by rw[<-h3];exact heap_alloc_new _ _
  have hb3:Below w0.heap.size w0 w3:=by rw[<-h3];exact h2.alloc h2.size _
  have hk:w4.heap[w2.heap.size]? = some (.cells B0.toArray 143):=(h4.block _ (z7 hk3)).trans hk3
  have hb4:=hb3.trans (h4.mono hb3.size)
  refine⟨Y2 hk 2 _ (by rw[List.size_toArray,HR20.out];omega),?_,zW h2.size _ _ _ _ hb4⟩
  rw[List.toList_toArray,<-hFL,hcn]
  have e0:B0=[sV wR,sV s.name]++(row .u8 zQ++(sV [] :: qv zL)):=by rw[<-hB0];rfl
  rw[e0] at hk
  have:=mid_set [sV wR,sV s.name] (row .u8 zQ) (sV [] :: qv zL) R hk (by rw[HR20.out];rfl)
  rw[<-hR] at this ⊢
  exact this
 rw[hFL]
 clear k1 k2 hln hl1 hll hr1 hr2 hn32 hnl hcn hb0 hh0 hz0 hf68 hFL hb68 hB0 her hmx hw0 h hw hR
 go_enter Tryz.func167,Tryz.ntmps167
 go_wp2_with fail
 change Calls Tryz.prog 200 #[.string S0,.string ⟨#[32]⟩] (w.alloc (.cells (zX ⟨[],[],zQ,[],zL⟩).toArray 143)) _
 rw[HZL.out]
 refine(c1 w0 (HEN.out w0 HBR.out).1).mono ?_
 rintro r w1 ⟨rfl,hb1⟩
 have B1:Hid (Below w0.heap.size w0 w1):=hid hb1
 clear hb1 c1
 go_wp2_with (first
  | (go_at_call 200;refine(c2 _ (HEN.out _ B1.out).1).mono ?_;rintro r w2 ⟨rfl,hb⟩;have B2:Hid (Below w0.heap.size w0 w2):=hid (B1.out.trans (hb.mono B1.out.size));obtain⟨w3,hw3⟩:∃ w3,w2.alloc (.cells B0.toArray 143)=w3:=⟨_,rfl⟩;skip;clear hb c2)
  | (refine z8 rfl _ (xJ 143 0 1 (.tmp 21) (.tmp 22) rfl (.string ⟨#[114,101,102]⟩) (.string NM) (.agg B0.toArray) rfl rfl (HBD.out _)) ?_;go_frame)
  | (refine zq rfl 143 (.tmp 8) (.tmp 23) rfl _ B0.toArray rfl rfl HI0.out (by rw[<-HZ0.out];rfl) HO0.out ?_;rw[hw3];go_frame)
  | (go_at_call 201;refine(d1 _).mono ?_;rintro r w4 ⟨rfl,hb⟩;obtain⟨qt,ql,qb⟩:=HMID.out w2 w3 B2.out hw3 w4 hb;have QT:=hid qt;have QL:=hid ql;obtain⟨q1,q2,q3⟩:=HFN.out _ qb;have Q1:=hid q1;have Q2:=hid q2;have Q3:=hid q3;clear hb qt ql qb q1 q2 q3 d1)
  | (refine wpList_store_mid rfl 89 (.tmp 29) (.tmp 28) rfl _ 2 R.toArray rfl rfl QT.out HI89.out HO89.out ?_;go_frame)
  | (refine wpList_load_mid rfl 143 (.tmp 8) rfl _ 0 rfl FL _ QL.out Tryz.underlying143 rfl HIF.out ?_;go_frame)
  | (refine wpList_store_row rfl 143 (.tmp 2) (.tmp 39) rfl w.heap.size FL.toArray rfl rfl 143 _ Q1.out HIF2.out HZF.out HOF.out ?_))
 exact bodyPost_ret (qW Tryz.results167 _ _ w.heap.size FL _ rfl (zy Q2.out) Tryz.underlying143 rfl HIF.out) rfl ⟨rfl,Q3.out⟩
set_option maxHeartbeats 1000000 in
theorem stepOf_log (s:Sp) (h:StR s) (hw:s.word=wG) (hg:okG s.e.who s.e.text) (w:World) (her:Ers w) (hmx:Mx w):Calls Tryz.prog 167 #[sV (lnS s)] w fun r w'=>r=.returned (.agg (zX (cnS s)).toArray)/\Below w.heap.size w w':=by
 have hnl:=qZ h.nm
 have hn32:(32:UInt8) ∉ s.name:=fun hc=>by have:=ju h.nm 32 hc;simp at this
 have hcn:cnS s=⟨wG,s.name,zQ,[],s.e⟩:=by unfold cnS;rw[hw];rfl
 obtain⟨r1,hr1⟩:∃ r,s.name++32 :: ewS s.e=r:=⟨_,rfl⟩
 obtain⟨r2,hr2⟩:∃ r:Str,ewS s.e=r:=⟨_,rfl⟩
 have hln:lnS s=wG++32 :: r1:=by rw[<-hr1];unfold lnS wsS;rw[hw];simp[jw,wR,wL,wD,wG,ewS]
 have k1:Lib.cut (lnS s) [32]=(wG,r1,true):=by rw[hln];exact vQ _ _ _ (by unfold wG;decide)
 have k2:Lib.cut r1 [32]=(s.name,r2,true):=by rw[<-hr1,<-hr2];exact vQ _ _ _ hn32
 have hpl:(x8 s.e.who).length<=300:=by
  obtain⟨h1,h2,⟨h3,h4⟩,h5,h6⟩:=hg.1
  have:=h1.1
  have:=h2.1
  have:=uV s.e.who.time.toNat (by omega)
  unfold x8
  simp[xk,two]
  omega
 have hew:(ewS s.e).length<=10000:=by
  have:=hg.2.1
  unfold ewS
  simp only[List.length_append,List.length_cons,x7,h.e.1.1,h.e.2.1]
  omega
 have hll:(lnS s).length<=300000:=by rw[hln,<-hr1];simp[wG,x7,h.id.1];omega
 have hl1:r1.length<=300000:=by have:=congrArg List.length hln;simp only[List.length_append,List.length_cons] at this;omega
 have c1:=fun W hm=>cutB (lnS s) [32] (by omega) _ _ _ k1 W hm
 have c2:=fun W hm=>cutB r1 [32] (by omega) _ _ _ k2 W hm
 obtain⟨S0,H0⟩:=nm_ (⟨(lnS s).toArray⟩:ByteArray)
 obtain⟨S1,H1⟩:=nm_ (⟨r1.toArray⟩:ByteArray)
 obtain⟨S2,H2⟩:=nm_ (⟨r2.toArray⟩:ByteArray)
 obtain⟨NM,HNM⟩:=nm_ (⟨s.name.toArray⟩:ByteArray)
 have d1:=fun W h1 h2=>entryOf_any s.e h.e hg.1 (by have:=hg.2.1;omega) W h1 h2
 rw[hr2] at d1
 unfold sV at d1
 rw[H2.out] at d1
 obtain⟨R,hE⟩:∃ R,qv s.e=R:=⟨_,rfl⟩
 rw[hE] at d1
 have HR20:Hid (R.length=45):=hid (by rw[<-hE];exact yx h.e)
 have HI89:Hid ((Tryz.prog.info? 129).map (·.size)=some R.toArray.size):=hid (by rw[List.size_toArray,HR20.out];kernel_rfl)
 have HO89:Hid (R.toArray.all (·.oneCell')=true):=hid (all_oneCell_toArray (by rw[<-hE];exact vZ _))
 unfold sV at c1 c2 ⊢
 rw[H0.out,H1.out] at c1
 rw[H1.out,HNM.out,H2.out] at c2
 rw[H0.out]
 unfold wG at c1
 obtain⟨B0,hB0⟩:∃ B,zX ⟨wG,s.name,zQ,[],zL⟩=B:=⟨_,rfl⟩
 have hb68:B0.length=68:=by rw[<-hB0];exact zJ ⟨qK.1,qK,hnl,by simp⟩
 have HBD:Hid (∀ W:World,(Instr.build 143 #[(0,.string ⟨#[108,111,103]⟩),(1,.string NM)]).run Tryz.prog W=.ok (.agg B0.toArray) W):=fun W=>by rw[<-hB0,<-HNM.out];exact bdS2 _ _ W
 have HI0:Hid ((Tryz.prog.info? 143).map (·.size)=some B0.toArray.size):=hid (by rw[List.size_toArray,hb68];kernel_rfl)
 have HZ0:Hid (68=B0.toArray.size):=hid (by rw[List.size_toArray,hb68])
 have HO0:Hid (B0.toArray.all (·.oneCell')=true):=hid (all_oneCell_toArray (by rw[<-hB0];exact qV _))
 obtain⟨FL,hFL⟩:∃ B,zX (cnS s)=B:=⟨_,rfl⟩
 have hf68:FL.length=68:=by rw[<-hFL,hcn];exact zJ ⟨qK.1,h.e,hnl,by simp⟩
 have HIF:Hid ((Tryz.prog.info? 143).map (·.size)=some FL.length):=hid (by rw[hf68];kernel_rfl)
 have HIF2:Hid ((Tryz.prog.info? 143).map (·.size)=some FL.toArray.size):=hid (by rw[List.size_toArray];exact HIF.out)
 have HOF:Hid (FL.toArray.all (·.oneCell')=true):=hid (all_oneCell_toArray (by rw[<-hFL];exact qV _))
 obtain⟨Z,HZ⟩:=nm_ ((zX ⟨[],[],zQ,[],zL⟩).toArray)
 have HZF:Hid (Z.size=FL.toArray.size):=hid (by rw[show FL.toArray.size=68 by rw[List.size_toArray];exact hf68,<-HZ.out];rfl)
 obtain⟨w0,hw0⟩:∃ w0,w.alloc (.cells Z 143)=w0:=⟨_,rfl⟩
 have HZL:Hid (w.alloc (.cells (zX ⟨[],[],zQ,[],zL⟩).toArray 143)=w0):=hid (by rw[HZ.out];exact hw0)
 have hb0:Below w.heap.size w w0:=by rw[<-hw0];exact(Below.refl _ _).alloc (Nat.le_refl _) _
 have hh0:w0.heap[w.heap.size]? = some (.cells Z 143):=by rw[<-hw0];exact heap_alloc_new _ _
 have hz0:w0.heap.size=w.heap.size+1:=by rw[<-hw0];simp
 have HEN:Hid (∀ W,Below w0.heap.size w0 W->Mx W/\Ers W):=fun W hW=>⟨(hmx.below hb0).below hW,(her.below hb0).below hW⟩
 have HFN:Hid (∀ W,Below w0.heap.size w0 W->W.heap[w.heap.size]? = some (.cells Z 143)/\(W.setRow w.heap.size FL.toArray).heap[w.heap.size]? = some (.cells FL.toArray 143)/\Below w.heap.size w (W.setRow w.heap.size FL.toArray)):=fun W hW=>by
  have q1:=(hW.block _ (z7 hh0)).trans hh0
  exact⟨q1,setRow_heap _ _ _ _ _ _ q1,below_setRow (hb0.trans (hW.mono hb0.size)) (Nat.le_refl _) _⟩
 have HBR:=hid (Below.refl w0.heap.size w0)
 have HMID:Hid (∀ w2 w3,Below w0.heap.size w0 w2->w2.alloc (.cells B0.toArray 143)=w3->∀ w4,Below w3.heap.size w3 w4->w4.there w2.heap.size 23 R.toArray.size/\(w4.setCells w2.heap.size 23 R.toArray.toList).rangeAt w2.heap.size 0 FL/\Below w0.heap.size w0 (w4.setCells w2.heap.size 23 R.toArray.toList)):=fun w2 w3 h2 h3 w4 h4=>by
  have hk3:w3.heap[w2.heap.size]? = some (.cells B0.toArray 143):=by rw[<-h3];exact heap_alloc_new _ _
  have hb3:Below w0.heap.size w0 w3:=by rw[<-h3];exact h2.alloc h2.size _
  have hk:w4.heap[w2.heap.size]? = some (.cells B0.toArray 143):=(h4.block _ (z7 hk3)).trans hk3
  have hb4:=hb3.trans (h4.mono hb3.size)
  refine⟨Y2 hk 23 _ (by rw[List.size_toArray,HR20.out];omega),?_,zW h2.size _ _ _ _ hb4⟩
  rw[List.toList_toArray,<-hFL,hcn]
  have e0:B0=(sV wG :: sV s.name :: (row .u8 zQ++[sV []]))++(qv zL++[]):=by rw[<-hB0];unfold zX;simp
  rw[e0] at hk
  have:=mid_set (sV wG :: sV s.name :: (row .u8 zQ++[sV []])) (qv zL) [] R hk (by rw[HR20.out];rfl)
  rw[List.append_nil,<-hE] at this
  rw[<-hE]
  have e1:zX ⟨wG,s.name,zQ,[],s.e⟩=(sV wG :: sV s.name :: (row .u8 zQ++[sV []]))++qv s.e:=by unfold zX;simp
  rw[e1]
  exact this
 rw[hFL]
 clear k1 k2 hln hl1 hll hr1 hr2 hn32 hnl hcn hb0 hh0 hz0 hf68 hFL hb68 hB0 her hmx hw0 h hw hg hE hpl hew
 go_enter Tryz.func167,Tryz.ntmps167
 go_wp2_with fail
 change Calls Tryz.prog 200 #[.string S0,.string ⟨#[32]⟩] (w.alloc (.cells (zX ⟨[],[],zQ,[],zL⟩).toArray 143)) _
 rw[HZL.out]
 refine(c1 w0 (HEN.out w0 HBR.out).1).mono ?_
 rintro r w1 ⟨rfl,hb1⟩
 have B1:Hid (Below w0.heap.size w0 w1):=hid hb1
 clear hb1 c1
 go_wp2_with (first
  | (go_at_call 200;refine(c2 _ (HEN.out _ B1.out).1).mono ?_;rintro r w2 ⟨rfl,hb⟩;have B2:Hid (Below w0.heap.size w0 w2):=hid (B1.out.trans (hb.mono B1.out.size));obtain⟨w3,hw3⟩:∃ w3,w2.alloc (.cells B0.toArray 143)=w3:=⟨_,rfl⟩;have HW3:Hid (Mx w3/\Ers w3):=hid (HEN.out w3 (by rw[<-hw3];exact B2.out.alloc B2.out.size _));clear hb c2)
  | (refine z8 rfl _ (xJ 143 0 1 (.tmp 21) (.tmp 22) rfl (.string ⟨#[108,111,103]⟩) (.string NM) (.agg B0.toArray) rfl rfl (HBD.out _)) ?_;go_frame)
  | (refine zq rfl 143 (.tmp 8) (.tmp 23) rfl _ B0.toArray rfl rfl HI0.out (by rw[<-HZ0.out];rfl) HO0.out ?_;rw[hw3];go_frame)
  | (go_at_call 202;refine(d1 _ (HW3.out).2 (HW3.out).1).mono ?_;rintro r w4 ⟨rfl,hb⟩;obtain⟨qt,ql,qb⟩:=HMID.out w2 w3 B2.out hw3 w4 hb;have QT:=hid qt;have QL:=hid ql;obtain⟨q1,q2,q3⟩:=HFN.out _ qb;have Q1:=hid q1;have Q2:=hid q2;have Q3:=hid q3;clear hb qt ql qb q1 q2 q3 d1)
  | (refine wpList_store_mid rfl 129 (.tmp 38) (.tmp 37) rfl _ 23 R.toArray rfl rfl QT.out HI89.out HO89.out ?_;go_frame)
  | (refine wpList_load_mid rfl 143 (.tmp 8) rfl _ 0 rfl FL _ QL.out Tryz.underlying143 rfl HIF.out ?_;go_frame)
  | (refine wpList_store_row rfl 143 (.tmp 2) (.tmp 39) rfl w.heap.size FL.toArray rfl rfl 143 _ Q1.out HIF2.out HZF.out HOF.out ?_))
 exact bodyPost_ret (qW Tryz.results167 _ _ w.heap.size FL _ rfl (zy Q2.out) Tryz.underlying143 rfl HIF.out) rfl ⟨rfl,Q3.out⟩
theorem stepOf_any (s:Sp) (h:StR s) (w:World) (her:Ers w) (hmx:Mx w):Calls Tryz.prog 167 #[sV (lnS s)] w fun r w'=>r=.returned (.agg (zX (cnS s)).toArray)/\Below w.heap.size w w':=by
 rcases h.kind with hw | ⟨hw,h2⟩ | hw | ⟨hw,h2⟩
 ·exact stepOf_ref s h hw w her hmx
 ·exact stepOf_link s h hw h2 w her hmx
 ·exact stepOf_drop s h hw w her hmx
 ·exact stepOf_log s h hw h2 w her hmx
theorem Tryz.results169:Tryz.f169.results=#[.tmp 2]:=by kernel_rfl
theorem stepCan_drop (s:Sp) (hs:vk s) (hn:isN s.name=true) (hw:s.word=wD) (w:World) (hmx:Mx w):Calls Tryz.prog 169 #[.agg (zX s).toArray] w fun r w'=>r=.returned (.bool true)/\Below w.heap.size w w':=by
 obtain⟨B,HS⟩:=sa s hs w.heap.size
 obtain⟨w1,hw1⟩:∃ w1,w.alloc (.cells B 143)=w1:=⟨_,rfl⟩
 have hk1:w1.heap[w.heap.size]? = some (.cells B 143):=by rw[<-hw1];exact heap_alloc_new _ _
 have hb1:Below w.heap.size w w1:=by rw[<-hw1];exact(Below.refl _ w).alloc (Nat.le_refl _) _
 have hc1:=HS.out.c1 w1 hk1
 have hin:=yK s.name w1 (hmx.below hb1)
 rw[hn] at hin
 have HQ:Hid (∀ W,Below w1.heap.size w1 W->Qs w.heap.size ⟨s.word.toArray⟩ ⟨s.name.toArray⟩ ⟨s.tg.toArray⟩ (row .u8 s.id) (qv s.e) W):=fun W hW=>qs_of HS.out ((hW.block _ (z7 hk1)).trans hk1)
 have HMX:Hid (∀ W,Below w1.heap.size w1 W->Mx W):=fun W hW=>(hmx.below hb1).below hW
 have HB1:=hid hb1
 rw[HS.out.e]
 unfold sV at hc1 hin
 obtain⟨NM,HNM⟩:=nm_ (⟨s.name.toArray⟩:ByteArray)
 rw[HNM.out] at hc1 hin HQ
 rw[hw] at HQ
 clear hk1 hb1 hn hw hs hmx
 go_enter Tryz.func169,Tryz.ntmps169
 go_wp2_with (first
  | (go_at_call 58;refine hin.mono ?_;rintro r w2 ⟨rfl,hb⟩;have B2:=hid hb;have Q2:=HQ.out w2 hb;have hd0:=Q2.c0;unfold wD at hd0;clear hb Q2 hin))
 exact bodyPost_ret (results_tmp Tryz.results169 _ _ _) rfl ⟨rfl,HB1.out.trans (B2.out.mono HB1.out.size)⟩
theorem stepCan_ref (s:Sp) (hs:vk s) (hn:isN s.name=true) (hw:s.word=wR) (hnz:s.id ≠ zQ) (w:World) (hmx:Mx w):Calls Tryz.prog 169 #[.agg (zX s).toArray] w fun r w'=>r=.returned (.bool true)/\Below w.heap.size w w':=by
 obtain⟨B,HS⟩:=sa s hs w.heap.size
 obtain⟨w1,hw1⟩:∃ w1,w.alloc (.cells B 143)=w1:=⟨_,rfl⟩
 have hk1:w1.heap[w.heap.size]? = some (.cells B 143):=by rw[<-hw1];exact heap_alloc_new _ _
 have hb1:Below w.heap.size w w1:=by rw[<-hw1];exact(Below.refl _ w).alloc (Nat.le_refl _) _
 have hc1:=HS.out.c1 w1 hk1
 have hin:=yK s.name w1 (hmx.below hb1)
 rw[hn] at hin
 have HQ:Hid (∀ W,Below w1.heap.size w1 W->Qs w.heap.size ⟨s.word.toArray⟩ ⟨s.name.toArray⟩ ⟨s.tg.toArray⟩ (row .u8 s.id) (qv s.e) W):=fun W hW=>qs_of HS.out ((hW.block _ (z7 hk1)).trans hk1)
 have HMX:Hid (∀ W,Below w1.heap.size w1 W->Mx W):=fun W hW=>(hmx.below hb1).below hW
 have HB1:=hid hb1
 rw[HS.out.e]
 unfold sV at hc1 hin
 obtain⟨NM,HNM⟩:=nm_ (⟨s.name.toArray⟩:ByteArray)
 rw[HNM.out] at hc1 hin HQ
 rw[hw] at HQ
 obtain⟨R,HI⟩:=ri s.id hs.id.1
 have HI89:Hid ((Tryz.prog.info? 89).map (·.size)=some R.toList.length):=hid (by simpa using HI.out.i)
 have heq:∀ W:World,(Op.equalIn 10000 89 (.agg R) (.agg z89)).run Tryz.prog W=.ok false W:=fun W=>by rw[<-z89_e,<-HI.out.e,eqId 89 Qx _ _ hs.id.1 rfl W,decide_eq_false hnz]
 unfold z89 at heq
 have HRR:Hid (row .u8 s.id=R.toList):=hid (by rw[<-HI.out.e])
 rw[HRR.out] at HQ
 clear hk1 hb1 hn hw hs hmx hnz
 go_enter Tryz.func169,Tryz.ntmps169
 go_wp2_with (first
  | (go_at_call 58;refine hin.mono ?_;rintro r w2 ⟨rfl,hb⟩;have B2:=hid hb;have Q2:=HQ.out w2 hb;have hd0:=Q2.c0;unfold wR at hd0;have R2:Hid (w2.rangeAt w.heap.size 2 R.toList):=hid Q2.r2;clear hb Q2 hin)
  | (refine wpList_load_mid rfl 89 (.tmp 11) rfl _ 2 rfl R.toList _ R2.out Tryz.underlying89 rfl HI89.out ?_;simp only[Array.toArray_toList];go_frame))
 exact bodyPost_ret (results_tmp Tryz.results169 _ _ _) rfl ⟨rfl,HB1.out.trans (B2.out.mono HB1.out.size)⟩
theorem stepCan_link (s:Sp) (hs:vk s) (hn:isN s.name=true) (hw:s.word=wL) (htg:isN s.tg=true) (hne:s.tg ≠ s.name) (w:World) (hmx:Mx w):Calls Tryz.prog 169 #[.agg (zX s).toArray] w fun r w'=>r=.returned (.bool true)/\Below w.heap.size w w':=by
 obtain⟨B,HS⟩:=sa s hs w.heap.size
 obtain⟨w1,hw1⟩:∃ w1,w.alloc (.cells B 143)=w1:=⟨_,rfl⟩
 have hk1:w1.heap[w.heap.size]? = some (.cells B 143):=by rw[<-hw1];exact heap_alloc_new _ _
 have hb1:Below w.heap.size w w1:=by rw[<-hw1];exact(Below.refl _ w).alloc (Nat.le_refl _) _
 have hc1:=HS.out.c1 w1 hk1
 have hin:=yK s.name w1 (hmx.below hb1)
 rw[hn] at hin
 have HQ:Hid (∀ W,Below w1.heap.size w1 W->Qs w.heap.size ⟨s.word.toArray⟩ ⟨s.name.toArray⟩ ⟨s.tg.toArray⟩ (row .u8 s.id) (qv s.e) W):=fun W hW=>qs_of HS.out ((hW.block _ (z7 hk1)).trans hk1)
 have HMX:Hid (∀ W,Below w1.heap.size w1 W->Mx W):=fun W hW=>(hmx.below hb1).below hW
 have HB1:=hid hb1
 rw[HS.out.e]
 unfold sV at hc1 hin
 obtain⟨NM,HNM⟩:=nm_ (⟨s.name.toArray⟩:ByteArray)
 rw[HNM.out] at hc1 hin HQ
 rw[hw] at HQ
 have hin2:=fun W hm=>yK s.tg W hm
 rw[htg] at hin2
 unfold sV at hin2
 obtain⟨TG,HTG⟩:=nm_ (⟨s.tg.toArray⟩:ByteArray)
 rw[HTG.out] at hin2 HQ
 have hbq:(TG.toList == NM.toList)=false:=by
  rw[<-HTG.out,<-HNM.out,Lib.toList_data,Lib.toList_data]
  simpa using hne
 have hbq2:(TG == NM)=false:=by rw[beq_toListBytes];exact hbq
 clear hk1 hb1 hn hw hs hmx htg hne
 go_enter Tryz.func169,Tryz.ntmps169
 go_wp2_with (first
  | (go_at_call 58;refine hin.mono ?_;rintro r w2 ⟨rfl,hb⟩;have B2:=hid hb;have Q2:=HQ.out w2 hb;have hd0:=Q2.c0;unfold wL at hd0;have hd22:=Q2.c22;have hd1:=Q2.c1;clear hb Q2 hin)
  | (go_at_call 58;refine(hin2 _ (HMX.out _ B2.out)).mono ?_;rintro r w3 ⟨rfl,hb⟩;have B3:Hid (Below w1.heap.size w1 w3):=hid (B2.out.trans (hb.mono B2.out.size));have Q3:=HQ.out w3 B3.out;have he22:=Q3.c22;have he1:=Q3.c1;clear hb Q3 hin2))
 exact bodyPost_ret (results_tmp Tryz.results169 _ _ _) rfl ⟨rfl,HB1.out.trans (B3.out.mono HB1.out.size)⟩
theorem stepCan_log (s:Sp) (hs:vk s) (hn:isN s.name=true) (hw:s.word=wG) (hg:okG s.e.who s.e.text) (w:World) (hmx:Mx w):Calls Tryz.prog 169 #[.agg (zX s).toArray] w fun r w'=>r=.returned (.bool true)/\Below w.heap.size w w':=by
 obtain⟨B,HS⟩:=sa s hs w.heap.size
 obtain⟨w1,hw1⟩:∃ w1,w.alloc (.cells B 143)=w1:=⟨_,rfl⟩
 have hk1:w1.heap[w.heap.size]? = some (.cells B 143):=by rw[<-hw1];exact heap_alloc_new _ _
 have hb1:Below w.heap.size w w1:=by rw[<-hw1];exact(Below.refl _ w).alloc (Nat.le_refl _) _
 have hc1:=HS.out.c1 w1 hk1
 have hin:=yK s.name w1 (hmx.below hb1)
 rw[hn] at hin
 have HQ:Hid (∀ W,Below w1.heap.size w1 W->Qs w.heap.size ⟨s.word.toArray⟩ ⟨s.name.toArray⟩ ⟨s.tg.toArray⟩ (row .u8 s.id) (qv s.e) W):=fun W hW=>qs_of HS.out ((hW.block _ (z7 hk1)).trans hk1)
 have HMX:Hid (∀ W,Below w1.heap.size w1 W->Mx W):=fun W hW=>(hmx.below hb1).below hW
 have HB1:=hid hb1
 rw[HS.out.e]
 unfold sV at hc1 hin
 obtain⟨NM,HNM⟩:=nm_ (⟨s.name.toArray⟩:ByteArray)
 rw[HNM.out] at hc1 hin HQ
 rw[hw] at HQ
 have hcl:=fun W=>canLog_any s.e.who s.e.text (by have:=hg.2.1;omega) W
 obtain⟨P,HPV⟩:∃ P:List Value,Hid (xq s.e.who=P.toArray):=⟨(xq s.e.who).toList,hid (by simp)⟩
 have HP4:Hid ((Tryz.prog.info? 38).map (·.size)=some P.length):=hid (by rw[show P.length=4 by rw[<-List.size_toArray,<-HPV.out];rfl];kernel_rfl)
 obtain⟨TX,HTX⟩:=nm_ (⟨s.e.text.toArray⟩:ByteArray)
 have HEP:Hid (∀ W:World,W.rangeAt w.heap.size 23 (qv s.e)->W.rangeAt w.heap.size 63 P/\W.cell? ⟨w.heap.size,67,none⟩=some (.string TX)):=fun W hW=>by
  have h1:(row .u8 s.e.old).length=20:=by rw[zw];exact hs.e.1.1
  have h2:(row .u8 s.e.new).length=20:=by rw[zw];exact hs.e.2.1
  have hPl:P=(xq s.e.who).toList:=by rw[HPV.out]
  refine⟨fun j v hv=>?_,?_⟩
  ·have hj:j<4:=by have:=(List.getElem?_eq_some_iff.1 hv).1;rw[hPl] at this;exact this
   rw[show 63+j=23+(40+j) by omega]
   refine hW (40+j) v ?_
   unfold qv
   rw[List.getElem?_append_right (by omega),h1,List.getElem?_append_right (by omega),h2,show 40+j-20-20=j by omega]
   rw[hPl] at hv
   rcases j with _ | _ | _ | _ | j
   ·exact hv
   ·exact hv
   ·exact hv
   ·exact hv
   ·omega
  ·have:=hW 44 (sV s.e.text) (by
    unfold qv
    rw[List.getElem?_append_right (by omega),h1,List.getElem?_append_right (by omega),h2]
    rfl)
   rw[<-HTX.out]
   exact this
 rw[HPV.out] at hcl
 unfold sV at hcl
 rw[HTX.out] at hcl
 have HCL:Hid (∀ W,Calls Tryz.prog 49 #[.agg P.toArray,.string TX] W fun e w'=>e=.returned (.bool true)/\Below W.heap.size W w'):=fun W=>(hcl W).mono fun e w' ⟨h,hb⟩=>⟨by rcases kJ h with ⟨_,h⟩ | ⟨h,_⟩;exact h;exact absurd hg h,hb⟩
 clear hk1 hb1 hn hw hs hmx hg hcl
 go_enter Tryz.func169,Tryz.ntmps169
 go_wp2_with (first
  | (go_at_call 58;refine hin.mono ?_;rintro r w2 ⟨rfl,hb⟩;have B2:=hid hb;have Q2:=HQ.out w2 hb;have hd0:=Q2.c0;unfold wG at hd0;obtain⟨qp,hd67⟩:=HEP.out w2 Q2.r23;have QP:=hid qp;clear qp;clear hb Q2 hin)
  | (refine wpList_load_mid rfl 38 (.tmp 30) rfl _ 63 rfl P _ QP.out Tryz.underlying38 rfl HP4.out ?_;go_frame)
  | (go_at_call 49;refine(HCL.out _).mono ?_;rintro r w3 ⟨rfl,hb⟩;have B3:Hid (Below w1.heap.size w1 w3):=hid (B2.out.trans (hb.mono B2.out.size));clear hb))
 exact bodyPost_ret (results_tmp Tryz.results169 _ _ _) rfl ⟨rfl,HB1.out.trans (B3.out.mono HB1.out.size)⟩
structure StC (s:Sp):Prop where
 st:StR s
 ref:s.word=wR->s.id ≠ zQ
 lnk:s.word=wL->s.tg ≠ s.name
theorem cn_of {s:Sp} (h:StR s):(s.word=wR/\cnS s=⟨wR,s.name,s.id,[],zL⟩/\lnS s=wR++32 :: (s.name++32 :: yW s.id)) ∨ (s.word=wL/\isN s.tg=true/\cnS s=⟨wL,s.name,zQ,s.tg,zL⟩/\lnS s=wL++32 :: (s.name++32 :: s.tg)) ∨ (s.word=wD/\cnS s=⟨wD,s.name,zQ,[],zL⟩/\lnS s=wD++32 :: s.name) ∨ (s.word=wG/\okG s.e.who s.e.text/\cnS s=⟨wG,s.name,zQ,[],s.e⟩/\lnS s=wG++32 :: (s.name++32 :: ewS s.e)):=by
 rcases h.kind with hw | ⟨hw,h2⟩ | hw | ⟨hw,h2⟩
 ·exact .inl ⟨hw,by unfold cnS;rw[hw];rfl,by unfold lnS wsS;rw[hw];simp[jw,wR,wL,wD,wG]⟩
 ·exact .inr (.inl ⟨hw,h2,by unfold cnS;rw[hw];rfl,by unfold lnS wsS;rw[hw];simp[jw,wR,wL,wD,wG]⟩)
 ·exact .inr (.inr (.inl ⟨hw,by unfold cnS;rw[hw];rfl,by unfold lnS wsS;rw[hw];simp[jw,wR,wL,wD,wG]⟩))
 ·exact .inr (.inr (.inr ⟨hw,h2,by unfold cnS;rw[hw];rfl,by unfold lnS wsS;rw[hw];simp[jw,wR,wL,wD,wG,ewS]⟩))
theorem Xu {s:Sp} (h:StR s):vk (cnS s):=by
 have hn:=qZ h.nm
 rcases cn_of h with ⟨_,e,_⟩ | ⟨_,h2,e,_⟩ | ⟨_,e,_⟩ | ⟨_,_,e,_⟩ <;> rw[e]
 ·exact⟨h.id,qK,hn,by simp⟩
 ·exact⟨qK.1,qK,hn,h.tg⟩
 ·exact⟨qK.1,qK,hn,by simp⟩
 ·exact⟨qK.1,h.e,hn,by simp⟩
theorem cn_ln {s:Sp} (h:StR s):lnS (cnS s)=lnS s:=by
 rcases cn_of h with ⟨_,e,e2⟩ | ⟨_,_,e,e2⟩ | ⟨_,e,e2⟩ | ⟨_,_,e,e2⟩ <;> rw[e,e2] <;> unfold lnS wsS <;> simp[jw,wR,wL,wD,wG,ewS]
theorem cn_stl {s:Sp} (h:StR s):StL (cnS s):=by
 refine⟨Xu h,?_⟩
 rcases cn_of h with ⟨_,e,_⟩ | ⟨_,_,e,_⟩ | ⟨_,e,_⟩ | ⟨_,h2,e,_⟩ <;> rw[e]
 ·exact .inl rfl
 ·exact .inr (.inl rfl)
 ·exact .inr (.inr (.inl rfl))
 ·exact .inr (.inr (.inr ⟨rfl,h2.1⟩))
theorem cn_sP {s:Sp} (h:StR s):sP (cnS s)=sP s:=by
 rcases cn_of h with ⟨hw,e,_⟩ | ⟨hw,_,e,_⟩ | ⟨hw,e,_⟩ | ⟨hw,h2,e,_⟩ <;> rw[e] <;> unfold sP <;> simp only[hw] <;> simp[wR,wL,wD,wG]
theorem cn_word {s:Sp} (h:StR s):(cnS s).word=s.word/\(cnS s).name=s.name:=by
 rcases cn_of h with ⟨hw,e,_⟩ | ⟨hw,_,e,_⟩ | ⟨hw,e,_⟩ | ⟨hw,h2,e,_⟩ <;> rw[e,hw] <;> exact⟨rfl,rfl⟩
theorem stepCan_any {s:Sp} (h:StC s) (w:World) (hmx:Mx w):Calls Tryz.prog 169 #[.agg (zX (cnS s)).toArray] w fun r w'=>r=.returned (.bool true)/\Below w.heap.size w w':=by
 have hs:=Xu h.st
 rcases cn_of h.st with ⟨hw,e,_⟩ | ⟨hw,h2,e,_⟩ | ⟨hw,e,_⟩ | ⟨hw,h2,e,_⟩ <;> rw[e] at hs ⊢
 ·exact stepCan_ref _ hs h.st.nm rfl (h.ref hw) w hmx
 ·exact stepCan_link _ hs h.st.nm rfl h2 (h.lnk hw) w hmx
 ·exact stepCan_drop _ hs h.st.nm rfl w hmx
 ·exact stepCan_log _ hs h.st.nm rfl h2 w hmx
theorem isN_no {x:Str} (h:isN x=true) (c:UInt8) (hc:c.toNat<33):c ∉ x:=fun hm=>by have:=ju h c hm;omega
theorem per_no10 {p:Per} (hp:okP p):(10:UInt8) ∉ x8 p:=by
 intro hm
 have ht:=tail_no p hp 10 (.inr rfl)
 unfold x8 at hm
 simp only[List.mem_append,List.mem_cons] at hm
 rcases hm with hm | hm | hm | hm | hm | hm
 ·exact(hp.1.2.1 _ hm).2.2.1 rfl
 ·simp at hm
 ·simp at hm
 ·exact(hp.2.1.2.1 _ hm).2.2.1 rfl
 ·simp at hm
 ·exact ht (by simpa using hm)
theorem ln_no {s:Sp} (h:StR s):(10:UInt8) ∉ lnS s:=by
 have hn:=isN_no h.nm 10 (by decide)
 have hx:∀ x,IdW x->(10:UInt8) ∉ yW x:=fun x hx=>hex_no x hx 10 (by unfold isH;decide)
 rcases cn_of h with ⟨_,_,e⟩ | ⟨_,h2,_,e⟩ | ⟨_,_,e⟩ | ⟨_,h2,_,e⟩ <;> rw[e] <;> simp only[List.mem_append,List.mem_cons,not_or]
 ·exact⟨by decide,by decide,hn,by decide,hx _ h.id⟩
 ·exact⟨by decide,by decide,hn,by decide,isN_no h2 10 (by decide)⟩
 ·exact⟨by decide,by decide,hn⟩
 ·refine⟨by decide,by decide,hn,by decide,?_⟩
  unfold ewS
  simp only[List.mem_append,List.mem_cons,not_or]
  exact⟨hx _ h.e.1,by decide,hx _ h.e.2,by decide,per_no10 h2.1,by decide,fun hm=>(h2.2.2 _ hm).1 rfl⟩
theorem ln_len {s:Sp} (h:StR s):(lnS s).length<=2999:=by
 have hnl:=qZ h.nm
 have htg:=h.tg
 rcases cn_of h with ⟨_,_,e⟩ | ⟨_,h2,_,e⟩ | ⟨_,_,e⟩ | ⟨_,hg,_,e⟩ <;> rw[e]
 ·simp only[List.length_append,List.length_cons,x7,h.id.1];unfold wR;simp;omega
 ·simp only[List.length_append,List.length_cons];unfold wL;simp;omega
 ·simp only[List.length_append,List.length_cons];unfold wD;simp;omega
 ·have hpl:(x8 s.e.who).length<=300:=by
   obtain⟨h1,h2,⟨h3,h4⟩,h5,h6⟩:=hg.1
   have:=h1.1
   have:=h2.1
   have:=uV s.e.who.time.toNat (by omega)
   unfold x8
   simp[xk,two]
   omega
  have:=hg.2.1
  unfold ewS
  simp only[List.length_append,List.length_cons,x7,h.e.1.1,h.e.2.1]
  unfold wG
  simp
  omega
theorem Y3:∀ (ss:List Sp),(∀ s ∈ ss,StR s)->(wrL ss).length<=3000*ss.length
 | [],_=>by simp[wrL]
 | s :: ss,h=>by
  have ih:=Y3 ss (fun x hx=>h x (by simp[hx]))
  have h1:=ln_len (h s (by simp))
  unfold wrL at ih ⊢
  simp only[List.flatMap_cons,List.length_append,List.length_cons,List.length_nil]
  omega
theorem wrL_cn (ss:List Sp) (h:∀ s ∈ ss,StR s):wrL (ss.map cnS)=wrL ss:=by
 induction ss with
 | nil=>rfl
 | cons s ss ih =>
  have:=ih (fun x hx=>h x (by simp[hx]))
  unfold wrL at this ⊢
  simp only[List.map_cons,List.flatMap_cons,this,cn_ln (h s (by simp))]
section
variable {P : Program} {md : Region.Mode} {Q : Exit → Act → World → Prop} {S : World → Prop} {l : List Oper} {i : Nat} {oi : Oper} {fuel : Nat} {listed : Array Bool} {a : Act} {w : World}
theorem Z8 (hS:S w)
  (h:wpAnyH P md l.toArray Q S fuel (listed.setIfInBounds i true) (a.put oi.dst undef) w) (hx:listed.toList.findIdx? (fun b => !b)=some i:=by rfl) (hi:l[i]? = some oi:=by rfl)
  (hs:Region.noSelect l.toArray=true:=by kernel_rfl) (hf:Region.free md l.toArray listed i=true:=by kernel_rfl) (hr:(Region.ready md l.toArray listed).contains i=true:=by kernel_rfl) (hQ:∀ c a w,Q (.panic c) (a.put oi.dst undef) w->Q (.panic c) a w:=by exact fun _ _ _ h=>h) (hg:Region.wanted oi (yielded l.toArray a.tmps)=false:=by rfl) :
  wpAnyH P md l.toArray Q S (fuel+1) listed a w:=kV hi hs hf hr hQ (Or.inr ⟨hg,rfl⟩) hS h
theorem vv (i:Nat) (f:FuncId) (args:List Operand) (vs:List Value) {ts:Array TypeId} {R:Ending->World->Prop} (hc:Calls P f vs.toArray w R)
  (h:∀ e w',R e w'->∃ r,e=.returned r/\S w'/\(S w'->wpAnyH P md l.toArray Q S fuel (listed.setIfInBounds i true) (a.put oi.dst r) w'))
  (hi:l[i]? = some oi:=by rfl) (hr:Region.ready md l.toArray listed=[i]:=by kernel_rfl) (hg:oi.guard=none:=by rfl) (ho:oi.op=.call { callee:=.value (.func f),args:=args.toArray,argTypes:=ts }:=by rfl) (hx:args.map a.eval=vs:=by rfl) (hent:∀ w:World,(callFunc f vs.toArray).run P w=.ok (.enter f vs.toArray) w:=by intro w;kernel_rfl) :
  wpAnyH P md l.toArray Q S (fuel+1) listed a w:=by
 refine wpAnyH_ready (rs:=[i]) hr (by simp) ?_
 refine xj hi (fun KK hKK=>?_) AllReadyH.nil
 refine qJ hg f args ts vs R ho hx hent hc ?_
 intro e w' hR
 obtain⟨r,e1,hS,hk⟩:=h e w' hR
 exact⟨r,e1,hKK.out _ _ hS hk⟩
theorem readyE (i:Nat) (v:Value) {w':World} (hv:(execOp a.eval oi).run P w=.ok (.value v) w') (hS:S w')
  (h:S w'->wpAnyH P md l.toArray Q S fuel (listed.setIfInBounds i true) (a.put oi.dst v) w')
  (hi:l[i]? = some oi:=by rfl) (hr:Region.ready md l.toArray listed=[i]:=by kernel_rfl) (hg:oi.guard=none:=by rfl) :
  wpAnyH P md l.toArray Q S (fuel+1) listed a w:=by
 refine wpAnyH_ready (rs:=[i]) hr (by simp) ?_
 refine xj hi (fun KK hKK=>?_) AllReadyH.nil
 exact jy hg v hv (hKK.out _ _ hS h)
end
end Go.Proofs.YtgliaiemkfopeaaGreatDoor.K
