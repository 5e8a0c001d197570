import Derived.Test.YticgindfipobiaaGreatDoorMn05
import Derived.Test.YticgindfipobiaaGreatDoorMn18
import Derived.Test.YticgindfipobiaaGreatDoorMn14
import Derived.Lib.AppendStr
import Derived.Maps.AppendAt
import Derived.Test.YticgindfipobiaaGreatDoorMn29
import Derived.Test.YticgindfipobiaaGreatDoorMn09
import Derived.Test.YticgindfipobiaaGreatDoorMn20
import Derived.Test.YticgindfipobiaaGreatDoorMn16
import Derived.Test.YticgindfipobiaaGreatDoorMn27
import Derived.Test.YticgindfipobiaaGreatDoorMn25
import Derived.Test.YticgindfipobiaaGreatDoorMn15
set_option linter.unusedSimpArgs false
set_option linter.unusedVariables false
set_option maxRecDepth 20000
set_option maxHeartbeats 4000000
namespace Go.Proofs.YticgindfipobiaaGreatDoor
open Go.RowKit
structure Bd (w0 w:World) (B:Nat) (v:Value) (out:List Int):Prop where
 below:Below B w0 w
 own:w.ownsRow B 5 1 v out.length (out.map (Value.int .u8))
 le:B<=w.heap.size
theorem Bd.alloc {w0 w:World} {B:Nat} {v:Value} {out:List Int} (h:Bd w0 w B v out) (o:Obj):Bd w0 (w.alloc o) B v out :=
 ⟨h.below.alloc h.le o,h.own.alloc o,Nat.le_trans h.le (by simp)⟩
theorem bd_nil (w:World) (B:Nat) (h:B<=w.heap.size):Bd w w B (.slice none 0 0) []:=⟨Below.refl _ _,⟨rfl,.inl ⟨rfl,rfl⟩⟩,h⟩
theorem sl_one (w:World) (c:Int):Sl (w.alloc (.cells #[.int .u8 c] 5)) (some ⟨w.heap.size,0,none⟩) 1 [c] :=
 ⟨by simp,fun _=>⟨w.heap.size,0,rfl,by simp,fun i hi=>by
  have:i=0:=by simpa using hi
  subst this
  simp⟩,fun h=>by cases h⟩
theorem Xx (l:List UInt8):Lib.strCells ⟨l.toArray⟩=(q8 l).map (Value.int .u8):=by simp[Lib.strCells,q8]
section
variable {w w0 : World} {ops : Array Oper} {rest : List Oper} {o : Oper} {a : Act} {Q : Exit → Act → World → Prop}
theorem j2 (hgd:o.guard=none) (s x:Operand) (ho:o.op=.call { callee:=.builtin .append,args:=#[s,x],argTypes:=#[26,9] }) (B:Nat) (v:Value) (out:List Int) (hs:a.eval s=v) (h:Bd w0 w B v out)
    (l:List UInt8) (hx:a.eval x=.string ⟨l.toArray⟩) (hl:out.length+l.length<=1000000)
    (hK:∀ v' w',Bd w0 w' B v' (out++q8 l)->wpList Tryz.prog ops Q rest (a.put o.dst v') w'):wpList Tryz.prog ops Q (o :: rest) a w:=by
  obtain⟨i5,hi,hz0,hz1,hz2⟩:=zQ Tryz.info5
  have hsz:(⟨l.toArray⟩:ByteArray).size=l.length:=by simp[ByteArray.size]
  refine Lib.wpList_append_own_string w hgd s x 26 9 ho B 5 i5 Tryz.underlying26 Tryz.underlying9 hi hz0 hz1 hz2 v out.length _ hs h.own ⟨l.toArray⟩ hx (by rw[hsz];unfold maxLen;omega) (by rw[hsz];omega) h.le ?_
  intro v' w' h1 h2 h3
  refine hK v' w' ⟨h.below.grown h2 h.le (fun k hk=>(qW h.own k hk).1),?_,Nat.le_trans h.le h2.size⟩
  rw[List.length_append,zK,List.map_append,<-Xx]
  rw[hsz] at h1
  exact h1
theorem vZ (hgd:o.guard=none) (s x:Operand) (ho:o.op=.call { callee:=.builtin .append,args:=#[s,x],argTypes:=#[26,26] }) (B:Nat) (v:Value) (out:List Int) (hs:a.eval s=v) (h:Bd w0 w B v out)
    (ax:Option Addr) (cx:Nat) (l:List Int) (hx:a.eval x=.slice ax l.length cx) (hS:Sl w ax cx l) (hl:out.length+l.length<=1000000)
    (hK:∀ v' w',Bd w0 w' B v' (out++l)->wpList Tryz.prog ops Q rest (a.put o.dst v') w'):wpList Tryz.prog ops Q (o :: rest) a w:=by
  obtain⟨i5,hi,hz0,hz1,hz2⟩:=zQ Tryz.info5
  cases ax with
  | none =>
    have hc:cx=0:=hS.nil rfl
    have hcl:=hS.capl
    obtain rfl:l=[]:=List.length_eq_zero_iff.1 (by omega)
    subst hc
    refine wpList_plain hgd fun K hK'=>?_
    have hr:=run_append_owned_none (P:=Tryz.prog) w B 26 o.type 5 i5 1 Tryz.underlying26 hi v _ _ h.own
    unfold Oper.wp execOp
    simp only[List.length_nil] at hx
    simp only[ho,resolve,invoke,builtin,Sem.run_bind,Sem.run_pure,Result.andThen_ok,List.map_toArray,List.map_cons,List.map_nil,hs,hx,hr]
    exact hK' _ _ (hK v w (by simpa using h))
  | some ad =>
    refine wpList_append_own_at w hgd s x 26 ho B 5 i5 (.int .u8 0) 1 1 Tryz.underlying26 hi hz0 hz1 hz2 rfl (by decide) v _ _ hs h.own ad l.length cx (l.map (Value.int .u8)) hx (by simp) ?_ (ints_oneCell .u8 l) (by unfold maxLen;omega) (by omega) h.le ?_
    · intro j z hj
      rw[List.getElem?_map] at hj
      cases hc:l[j]? with
      | none=>rw[hc] at hj;cases hj
      | some y =>
        rw[hc] at hj;cases hj
        have hlt:=(List.getElem?_eq_some_iff.1 hc).1
        obtain⟨b,off,e1,e2,e3⟩:=hS.at_ (by omega)
        cases e1
        have:=e3 j hlt
        rw[qz]
        simpa [List.getD_eq_getElem?_getD,hc] using this
    · intro v' w' h1 h2 h3 h4
      refine hK v' w' ⟨h.below.grown h2 h.le (fun k hk=>(qW h.own k hk).1),?_,Nat.le_trans h.le h2.size⟩
      rw[List.length_append,List.map_append]
      exact h1
end
def PostR (k:Int) (zs:List Int) (w:World) (e:Ending) (w':World):Prop :=
 Below w.heap.size w w'/\((yj k zs.length ≠ 0/\e=.returned (.tuple #[.slice none 0 0,.int .i64 (yj k zs.length)])) ∨
  (yj k zs.length=0/\∃ g cap':Nat,e=.returned (.tuple #[.slice (some ⟨g,0,none⟩) (j4 k zs).length cap',.int .i64 0])/\w.heap.size<=g/\g<w'.heap.size/\At w' g 0 (j4 k zs)/\(j4 k zs).length<=cap'))
theorem Bd.carry {w0 w w':World} {B:Nat} {v:Value} {out:List Int} (h:Bd w0 w B v out) (hb:Below w.heap.size w w'):Bd w0 w' B v out :=
 ⟨h.below.trans (hb.mono h.le),h.own.kept (row:=none) ⟨hb.os,hb.tape,hb.output,hb.size,fun k hk _=>hb.block k hk⟩ (by cases h:v.ownBlock <;> simp),Nat.le_trans h.le hb.size⟩
theorem bd_form {w0 w:World} {B:Nat} {v:Value} {out:List Int} (h:Bd w0 w B v out) (h0:0<out.length):∃ g cap,v=.slice (some ⟨g,0,none⟩) out.length cap/\B<=g/\g<w.heap.size/\At w g 0 out/\out.length<=cap:=by
 obtain⟨g,cap,rfl,h1,h2⟩:=h.own.form h0
 refine⟨g,cap,rfl,h1,h2,?_,?_⟩
 ·intro i hi
  rw[Nat.zero_add,h.own.cellAt i (by simpa using hi),List.getElem?_map,List.getElem?_eq_getElem hi]
  simp[List.getD_eq_getElem?_getD,List.getElem?_eq_getElem hi]
 ·obtain⟨_,⟨hv,_⟩ | ⟨g2,cap2,cur,hv,_,_,hnc,_⟩⟩:=h.own
  ·cases hv
  ·simp only[Value.slice.injEq] at hv
   omega
theorem errE_20 (k:Int) (n:Nat) (h:(kN k).toList.isEmpty=true):yj k n=20:=by unfold yj;rw[if_pos h]
theorem errE_11 (k:Int) (n:Nat) (h:¬ (kN k).toList.isEmpty=true) (h2:100000<n):yj k n=11:=by unfold yj;rw[if_neg h,if_pos h2]
theorem errE_0 (k:Int) (n:Nat) (h:¬ (kN k).toList.isEmpty=true) (h2:¬ 100000<n):yj k n=0:=by unfold yj;rw[if_neg h,if_neg h2]
set_option maxHeartbeats 2000000 in
theorem Z0 (k:Int) (a:Option Addr) (cap:Nat) (zs:List Int) (w:World) (hl:zs.length<=300000) (hS:Sl w a cap zs) :
  Calls Tryz.prog 10 #[.agg #[.int .i64 k,.slice a zs.length cap]] w (PostR k zs w):=by
 obtain⟨n,HN⟩:=nm_ zs.length
 obtain⟨S,HSS⟩:=nm_ (kN k)
 have HK:Hid (∀ w,Calls Tryz.prog 19 #[.int .i64 k] w fun e w'=>e=.returned (.string S)/\w'=w):=fun w=>by rw[<-HSS.out];exact name_any k w
 have hln:n<=300000:=by rw[<-HN.out];exact hl
 obtain⟨G,HG⟩:=nm_ w.heap.size
 obtain⟨w0,HW0⟩:=nm_ (w.alloc (.cells #[.int .i64 k,.slice a n cap] 30))
 have HB0:Hid (Below G w w0):=hid (by rw[<-HW0.out,<-HG.out];exact(Below.refl _ w).alloc (Nat.le_refl _) _)
 have hs0:w0.heap.size=G+1:=by rw[<-HW0.out,<-HG.out];simp
 have hc0:w0.cell? ⟨G,0,none⟩=some (.int .i64 k):=by rw[<-HW0.out,<-HG.out];simp
 have hc1:w0.cell? ⟨G,1,none⟩=some (.slice a n cap):=by rw[<-HW0.out,<-HG.out];simp
 rw[HN.out]
 by_cases he:S.toList.isEmpty=true
 ·have hE:yj k zs.length=20:=errE_20 k _ (by rw[HSS.out];exact he)
  go_enter Tryz.func10,Tryz.ntmps10
  go_wp2_with fail
  rw[HG.out,HW0.out]
  refine(HK.out _).mono ?_
  rintro ev w' ⟨rfl,rfl⟩
  go_wp2
  go_ret2
  refine⟨by rw[HG.out];exact HB0.out,.inl ⟨by rw[hE];decide,?_⟩⟩
  rw[hE]
  rfl
 ·by_cases h2:100000<n
  ·have hE:yj k zs.length=11:=errE_11 k _ (by rw[HSS.out];exact he) (by rw[HN.out];exact h2)
   have h2i:(100000:Int)<n:=by omega
   go_enter Tryz.func10,Tryz.ntmps10
   go_wp2_with fail
   rw[HG.out,HW0.out]
   refine(HK.out _).mono ?_
   rintro ev w' ⟨rfl,rfl⟩
   go_wp2
   go_ret2
   refine⟨by rw[HG.out];exact HB0.out,.inl ⟨by rw[hE];decide,?_⟩⟩
   rw[hE]
   rfl
  ·have hE:yj k zs.length=0:=errE_0 k _ (by rw[HSS.out];exact he) (by rw[HN.out];exact h2)
   have h2i:¬ (100000:Int)<n:=by omega
   obtain⟨L1,HL1⟩:=nn_ ((kN k).data.toList)
   have hL1:L1.length<=6:=by rw[HL1.out];exact kN_len k
   have hSL:S=⟨L1.toArray⟩:=by rw[HL1.out,<-HSS.out]
   have hL1e:L1.isEmpty=false:=by
    have h:=he
    rw[hSL,Lib.toList_data] at h
    simpa using h
   obtain⟨L2,HL2⟩:=nn_ (Lib.decDigits n)
   have hL2:L2.length<=6:=by rw[HL2.out];exact dig_len 5 n (by omega)
   have HD:Hid (∀ w,Calls Tryz.prog 20 #[.int .i64 n] w fun e w'=>e=.returned (.string ⟨L2.toArray⟩)/\Below w.heap.size w w'):=fun w=>by rw[HL2.out];exact decimal_any n (by omega) w
   have HSl:Hid (∀ W,Below G w W->Sl W a cap zs):=fun W hW=>hS.below (by rw[HG.out];exact hW)
   clear hS
   go_enter Tryz.func10,Tryz.ntmps10
   go_wp2_with fail
   rw[HG.out,HW0.out]
   refine(HK.out _).mono ?_
   rintro ev w' ⟨rfl,rfl⟩
   have hbd0:Bd w' w' (G+1) (.slice none 0 0) []:=bd_nil w' (G+1) (by omega)
   have HC:Hid (∀ W,Below (G+1) w' W->W.cell? ⟨G,1,none⟩=some (.slice a n cap)):=fun W hW=>(hW.cell (p:=⟨G,1,none⟩) (show G<G+1 by omega)).trans hc1
   go_wp2_with (first
    | (at_builtin;refine j2 rfl _ _ rfl (G+1) _ _ rfl hbd0 L1 rfl (by simp;omega) ?_;intro v1 w1 hbd1;clear hbd0)
    | (at_builtin;refine vZ rfl _ _ rfl (G+1) _ _ rfl (hbd1.alloc _) _ _ [32] rfl (sl_one _ _) (by simp[zK];omega) ?_;intro v2 w2 hbd2;clear hbd1;have hcw2:=HC.out w2 hbd2.below)
    | (go_at_call 20;refine(HD.out _).mono ?_;rintro ev w3 ⟨rfl,hb3⟩;have hbd3:=hbd2.carry hb3;clear hbd2 hb3 hcw2)
    | (at_builtin;refine j2 rfl _ _ rfl (G+1) _ _ rfl hbd3 L2 rfl (by simp[zK];omega) ?_;intro v4 w4 hbd4;clear hbd3)
    | (at_builtin;refine vZ rfl _ _ rfl (G+1) _ _ rfl (hbd4.alloc _) _ _ [0] rfl (sl_one _ _) (by simp[zK];omega) ?_;intro v5 w5 hbd5;clear hbd4;have hcw5:=HC.out w5 hbd5.below)
    | (at_builtin;refine vZ rfl _ _ rfl (G+1) _ _ rfl hbd5 a cap zs (by rw[HN.out];rfl) (HSl.out _ (HB0.out.trans (hbd5.below.mono (by omega)))) (by simp[zK];omega) ?_;intro v6 w6 hbd6;clear hbd5 hcw5))
   go_ret2
   have hout:[]++q8 L1++[32]++q8 L2++[0]++zs=j4 k zs:=by
    unfold j4 hd h0
    rw[HN.out,<-HL1.out,<-HL2.out]
    simp[q8]
   rw[hout] at hbd6
   obtain⟨g,c6,rfl,h1,h3,h4,h5⟩:=bd_form hbd6 (by rw[<-hout];simp;omega)
   exact⟨by rw[HG.out];exact HB0.out.trans (hbd6.below.mono (by omega)),.inr ⟨hE,g,c6,rfl,by rw[HG.out];omega,h3,h4,h5⟩⟩
theorem Sl.grown {w w':World} {a:Option Addr} {cap:Nat} {l:List Int} {r:Option Nat} (h:Sl w a cap l) (hg:w.grownBy w' r) (hne:∀ b off,a=some ⟨b,off,none⟩->some b ≠ r):Sl w' a cap l :=
 ⟨h.capl,fun h0=>by
  obtain⟨b,off,e1,e2,e3⟩:=h.at_ h0
  exact⟨b,off,e1,Nat.lt_of_lt_of_le e2 hg.size,fun i hi=>(World.cell?_of_block (a:=⟨b,off+i,none⟩) (hg.block b e2 (hne b off e1))).trans (e3 i hi)⟩,h.nil⟩
structure Lw (w:World):Prop where
 tab:Tab w
 mx:Mx w
 hand:w.cell? ⟨0,0,none⟩=some (.iface 129 (.agg #[.pointer (some ⟨9,35,none⟩)]))
theorem cell_lt0 {w:World} {a:Addr} {v:Value} (h:w.cell? a=some v):a.block<w.heap.size:=by
 rcases Nat.lt_or_ge a.block w.heap.size with h' | h'
 ·exact h'
 ·simp[World.cell?,Array.getElem?_eq_none h'] at h
theorem Lw.below {w w':World} (h:Lw w) (hb:Below w.heap.size w w'):Lw w' :=
 ⟨h.tab.below hb,h.mx.below hb,(hb.cell (p:=⟨0,0,none⟩) (cell_lt0 h.hand)).trans h.hand⟩
theorem Tryz.results4:Tryz.f4.results=#[.cell 2 31,.tmp 3]:=by kernel_rfl
theorem zero31 (w:World):(zeroValue 31).run Tryz.prog w=.ok (.agg (row .u8 z20).toArray) w:=by kernel_rfl
set_option maxHeartbeats 2000000 in
theorem refID_any (k:Int) (a:Option Addr) (cap:Nat) (zs:List Int) (w:World) (hl:zs.length<=300000) (hz:IsB zs) (hS:Sl w a cap zs) :
  Calls Tryz.prog 4 #[.agg #[.int .i64 k,.slice a zs.length cap]] w fun e w'=>e=.returned (.tuple #[.agg (row .u8 (idZ k zs)).toArray,.int .i64 (yj k zs.length)])/\Below w.heap.size w w':=by
 obtain⟨zr,HZ⟩:=nn_ ((row .u8 z20).toArray)
 have hz25:=zero31
 rw[<-HZ.out] at hz25
 obtain⟨n,HN⟩:=nm_ zs.length
 obtain⟨fr,HE⟩:=nn_ (idZ k zs)
 have hfl:fr.length=20:=by rw[HE.out];exact idZ_len _ _
 have hi25:(Tryz.prog.info? 31).map (·.size)=some (row .u8 fr).length:=by rw[zq,hfl];exact Tryz.size31
 have T2:Hid ((Tryz.prog.info? 31).map (·.size)=some (row .u8 fr).toArray.size):=hid (by rw[qZ,hfl];exact Tryz.size31)
 have T3:Hid ((row .u8 fr).toArray.all (·.oneCell')=true):=all_oneCell_toArray (zV _ _)
 obtain⟨G,HG⟩:=nm_ w.heap.size
 obtain⟨w0,HW0⟩:=nm_ ((w.alloc (.cells #[.int .i64 k,.slice a n cap] 30)).alloc (.cells zr 31))
 have hs0:w0.heap.size=G+2:=by rw[<-HW0.out,<-HG.out];simp
 have hc0:w0.cell? ⟨G,0,none⟩=some (.int .i64 k):=by rw[<-HW0.out,<-HG.out];simp
 have hc1:w0.cell? ⟨G,1,none⟩=some (.slice a n cap):=by rw[<-HW0.out,<-HG.out];simp
 have HR0:Hid (w0.heap[G+1]? = some (.cells (row .u8 z20).toArray 31 (0,0))):=hid (by
  have:=heap_alloc_new (w.alloc (.cells #[.int .i64 k,.slice a n cap] 30)) (.cells zr 31)
  rw[HW0.out,HZ.out] at this
  rw[<-HG.out];simpa using this)
 have HB0:Hid (Below G w w0):=hid (by rw[<-HW0.out,<-HG.out];exact((Below.refl _ w).alloc (Nat.le_refl _) _).alloc (by simp) _)
 have HEN:Hid (Calls Tryz.prog 10 #[.agg #[.int .i64 k,.slice a n cap]] w0 (PostR k zs w0)):=by
  rw[<-HN.out]
  exact Z0 k a cap zs w0 hl (hS.below (by rw[HG.out];exact HB0.out))
 replace hs0:=hid hs0
 rw[HN.out]
 go_enter Tryz.func4,Tryz.ntmps4
 go_wp2_with fail
 rw[HG.out,HW0.out]
 clear hS
 have hl':Hid (zs.length<=300000):=hl
 clear hl
 refine HEN.out.mono ?_
 rintro ev w1 ⟨hb1,⟨he,rfl⟩ | ⟨he,g,c1,rfl,h1,h2,h3,h4⟩⟩
 ·have hb1s:=hb1.size
  rw[hs0.out] at hb1 hb1s
  have HR1:Hid (w1.heap[G+1]? = some (.cells (row .u8 z20).toArray 31 (0,0))):=(hb1.block _ (by omega)).trans HR0.out
  have HB1:Hid (Below G w w1):=HB0.out.trans (hb1.mono (by omega))
  obtain⟨er,HER⟩:=nn_ (yj k zs.length)
  have HV:Hid (yj k n=er):=hid (by rw[<-HN.out,HER.out])
  rw[<-HER.out]
  have hfr:fr=z20:=by rw[HE.out];unfold idZ;rw[if_neg he]
  have T1:Hid (w1.there (G+1) 0 (row .u8 fr).toArray.size):=hid (by rw[qZ,hfl];exact zW HR1.out rfl)
  have T4:Hid (w1.there (G+1) 0 (row .u8 fr).length):=hid (by rw[zq,hfl];exact zW HR1.out rfl)
  obtain rfl:zr=(row .u8 fr).toArray:=by rw[HZ.out,hfr]
  have her:¬ er=0:=by rw[HER.out];exact he
  have her2:(er == 0)=false:=by simpa using her
  clear hb1 hfr he hc0 hc1
  go_wp2_with (refine wpList_store_mid rfl 31 _ _ rfl (G+1) 0 (row .u8 fr).toArray rfl rfl T1.out T2.out T3.out ?_)
  exact bodyPost_ret (v:=.tuple #[.agg (row .u8 fr).toArray,.int .i64 er]) (zj Tryz.results4 _ _ (G+1) _ _ rfl (World.rangeAt_setCells_same w1 (G+1) 0 _ T4.out) Tryz.underlying31 rfl hi25) rfl ⟨by rw[HV.out,HE.out],by rw[HG.out];exact z7 (by omega) _ _ _ _ HB1.out⟩
 ·have hb1s:=hb1.size
  rw[hs0.out] at hb1 hb1s h1
  have HR1:Hid (w1.heap[G+1]? = some (.cells (row .u8 z20).toArray 31 (0,0))):=(hb1.block _ (by omega)).trans HR0.out
  have HB1:Hid (Below G w w1):=HB0.out.trans (hb1.mono (by omega))
  have HV:Hid (yj k n=0):=hid (by rw[<-HN.out];exact he)
  have hfr:Hid (fr=sha (j4 k zs)):=hid (by rw[HE.out];unfold idZ;rw[if_pos he])
  have HSU:Hid (Calls Tryz.prog 11 #[.slice (some ⟨g,0,none⟩) (j4 k zs).length c1] w1 fun e w'=>e=.returned (.agg (row .u8 (sha (j4 k zs))).toArray)/\Below w1.heap.size w1 w') :=
   ref_any (some ⟨g,0,none⟩) c1 (j4 k zs) w1 (by
    have:=encZ_len k zs hl'.out
    have:=(fits_ok k _ he).2
    omega) (encZ_isB k zs hz) (fun _=>⟨g,0,rfl,h2,h3⟩)
  obtain⟨L,HL⟩:=nn_ ((j4 k zs).length)
  rw[<-HL.out,<-hfr.out] at HSU
  rw[<-HL.out]
  clear hb1 he hc0 hc1 h3 h4
  go_wp2_with fail
  refine HSU.out.mono ?_
  rintro ev w2 ⟨rfl,hb2⟩
  have HR2:Hid (w2.heap[G+1]? = some (.cells (row .u8 z20).toArray 31 (0,0))):=(hb2.block _ (by omega)).trans HR1.out
  have HB2:Hid (Below G w w2):=HB1.out.trans (hb2.mono (by omega))
  have T1:Hid (w2.there (G+1) 0 (row .u8 fr).toArray.size):=hid (by rw[qZ,hfl];exact zW HR2.out rfl)
  have T4:Hid (w2.there (G+1) 0 (row .u8 fr).length):=hid (by rw[zq,hfl];exact zW HR2.out rfl)
  clear hb2
  go_wp2_with (refine wpList_store_mid rfl 31 _ _ rfl (G+1) 0 (row .u8 fr).toArray rfl rfl T1.out T2.out T3.out ?_)
  exact bodyPost_ret (v:=.tuple #[.agg (row .u8 fr).toArray,.int .i64 0]) (zj Tryz.results4 _ _ (G+1) _ _ rfl (World.rangeAt_setCells_same w2 (G+1) 0 _ T4.out) Tryz.underlying31 rfl hi25) rfl ⟨by rw[HV.out,HE.out],by rw[HG.out];exact z7 (by omega) _ _ _ _ HB2.out⟩
structure Fx (w:World) (k:Int) (a:Option Addr) (n cap:Nat) (W:World):Prop where
 below:Below w.heap.size w W
 c0:W.cell? ⟨w.heap.size,0,none⟩=some (.int .i64 k)
 c1:W.cell? ⟨w.heap.size,1,none⟩=some (.slice a n cap)
 lt:w.heap.size<W.heap.size
theorem Fx.step {w W W':World} {k:Int} {a:Option Addr} {n cap r:Nat} (h:Fx w k a n cap W) (hg:W.grownBy W' (some r)) (hr:w.heap.size<r):Fx w k a n cap W' :=
 ⟨h.below.grown hg (Nat.le_of_lt h.lt) (fun q hq=>by cases hq;omega),(World.cell?_of_block (a:=⟨w.heap.size,0,none⟩) (hg.block _ h.lt (by simp;omega))).trans h.c0,
  (World.cell?_of_block (a:=⟨w.heap.size,1,none⟩) (hg.block _ h.lt (by simp;omega))).trans h.c1,Nat.lt_of_lt_of_le h.lt hg.size⟩
theorem Fx.on {w W W':World} {k:Int} {a:Option Addr} {n cap:Nat} (h:Fx w k a n cap W) (hb:Below W.heap.size W W'):Fx w k a n cap W':=h.step (r:=w.heap.size+1) (zw hb _) (by omega)
theorem range_step {W W':World} {g r:Nat} {cs:List Value} (h:W.rangeAt g 0 cs) (hg:W.grownBy W' (some r)) (hlt:g<W.heap.size) (hne:g ≠ r):W'.rangeAt g 0 cs:=fun j v hv =>
 (World.cell?_of_block (a:=⟨g,0+j,none⟩) (hg.block g hlt (by simp;exact hne))).trans (h j v hv)
theorem j8 (x:List Int) (h:x.length=20) (w:World):(Instr.buildSlice 23 1 #[(0,.agg (row .u8 x).toArray)]).run Tryz.prog w=.ok (.slice (some ⟨w.heap.size,0,none⟩) 1 1) (w.alloc (.cells (row .u8 x).toArray 56)):=by
 obtain⟨i,hq,hz,hs,_⟩:=zQ Tryz.info56'
 refine run_buildSlice w 23 56 1 _ (row .u8 x).toArray i _ Tryz.underlying23 hq hz (by rw[hs];decide) (by rw[hs];decide) ?_
 rw[hs]
 obtain⟨a0,a1,a2,a3,a4,a5,a6,a7,a8,a9,a10,a11,a12,a13,a14,a15,a16,a17,a18,a19,e⟩:=uw x h
 rw[e]
 kernel_rfl
theorem Y8 (x:List Int) (h:x.length=20) (w:World):(Instr.buildSlice 38 1 #[(0,.agg (row .u8 x).toArray)]).run Tryz.prog w=.ok (.slice (some ⟨w.heap.size,0,none⟩) 1 1) (w.alloc (.cells (row .u8 x).toArray 31)):=by
 obtain⟨i,hq,hz,hs,_⟩:=zQ Tryz.info31'
 refine run_buildSlice w 38 31 1 _ (row .u8 x).toArray i _ Tryz.underlying38 hq hz (by rw[hs];decide) (by rw[hs];decide) ?_
 rw[hs]
 obtain⟨a0,a1,a2,a3,a4,a5,a6,a7,a8,a9,a10,a11,a12,a13,a14,a15,a16,a17,a18,a19,e⟩:=uw x h
 rw[e]
 kernel_rfl
def pr2 (x:List Int) (ids:List (List Int)) (i:Nat):List (List Int):=if i=0 then [] else if i=1 then [x] else x :: ids
theorem concat_any (H g1 pc:Nat) (pa:Option Addr) (x:List Int) (ids:List (List Int)) (w:World) (h0:w.cell? ⟨H,0,none⟩=some (.slice (some ⟨g1,0,none⟩) 1 1)) (h1:w.cell? ⟨H,1,none⟩=some (.slice pa ids.length pc)) (hH:H<w.heap.size)
  (hx:Pa w (some ⟨g1,0,none⟩) 1 [x]) (hp:Pa w pa pc ids) (hw:∀ y ∈ x :: ids,y.length=20) (hn:ids.length<=8) :
  Calls Tryz.prog 61 #[.slice (some ⟨H,0,none⟩) 2 2] w fun e w'=>∃ v,e=.returned v/\Bi 56 w w' w.heap.size v (x :: ids):=by
 obtain⟨n,HN⟩:=nm_ ids.length
 obtain⟨G,HG⟩:=nm_ w.heap.size
 have hn8:n<=8:=by rw[<-HN.out];exact hn
 have HC0:Hid (∀ W,Below G w W->W.cell? ⟨H,0,none⟩=some (.slice (some ⟨g1,0,none⟩) 1 1)):=fun W hW=>(hW.cell (p:=⟨H,0,none⟩) (by rw[<-HG.out];exact hH)).trans h0
 have HC1:Hid (∀ W,Below G w W->W.cell? ⟨H,1,none⟩=some (.slice pa n pc)):=fun W hW=>by rw[<-HN.out];exact(hW.cell (p:=⟨H,1,none⟩) (by rw[<-HG.out];exact hH)).trans h1
 have HPX:Hid (∀ W,Below G w W->Pa W (some ⟨g1,0,none⟩) 1 [x]):=fun W hW=>hx.below (by rw[HG.out];exact hW)
 have HPI:Hid (∀ W,Below G w W->Pa W pa pc ids):=fun W hW=>hp.below (by rw[HG.out];exact hW)
 have HW0:Hid (∀ y ∈ [x],y.length=20):=fun y hy=>hw y (by simp at hy;simp[hy])
 have HW1:Hid (∀ y ∈ ids,y.length=20):=fun y hy=>hw y (by simp[hy])
 have CG:Hid (∀ W,Calls Tryz.prog 83 #[.slice none 0 0,.int .i64 (1+n:Nat)] W fun e w'=>∃ v,e=.returned v/\Bi 56 W w' W.heap.size v []):=fun W=>grow_any (1+n) (by omega) (by omega) W
 rw[HG.out]
 clear h0 h1 hx hp hw hn
 go_enter Tryz.func61,Tryz.ntmps61
 go_wp2_with fail
 go_loopg [3,11] 2 (fun g sv iv wr=>∃ i:Nat,i<=2/\g=2-i/\iv=.int .i64 i/\sv=.int .i64 (pr2 x ids i).length/\Hid (wr=w))
 case atStart=>exact⟨0,by omega,rfl,rfl,rfl,hid rfl⟩
 case round =>
  obtain⟨i,hi,hk,rfl,rfl,HW⟩:=hrel
  have hww:=HW.out.symm
  subst hww
  clear HW
  have e3:i=0 ∨ i=1 ∨ i=2:=by omega
  have c0:=HC0.out w (Below.refl _ _)
  have c1:=HC1.out w (Below.refl _ _)
  rcases e3 with rfl | rfl | rfl
  ·have el:(pr2 x ids 0).length=0:=rfl
   rw[el]
   go_wp2
   go_roundg 1
   case measure=>omega
   case rel=>exact⟨1,by omega,rfl,rfl,rfl,hid rfl⟩
  ·have el:(pr2 x ids 1).length=1:=rfl
   rw[el]
   have hs1:IntKind.i64.wrap ((1:Int)+(n:Int))=((1+n:Nat):Int):=by
    rw[show ((1:Int)+(n:Int))=((1+n:Nat):Int) by omega]
    exact wrap_i64 (1+n) (by omega)
   have hs2:¬ ((1+n:Nat):Int)<0:=by omega
   obtain⟨M,HM⟩:=nm_ ((1+n:Nat):Int)
   rw[HM.out] at hs1 hs2
   go_wp2
   go_roundg 0
   case measure=>omega
   case rel=>exact⟨2,by omega,rfl,rfl,by rw[show (pr2 x ids 2).length=1+n by simp[pr2,HN.out];omega,HM.out],hid rfl⟩
  ·have el:(pr2 x ids 2).length=1+n:=by simp[pr2,HN.out];omega
   rw[el]
   go_wp2_with fail
   refine(CG.out _).mono ?_
   rintro ev w1 ⟨v1,rfl,hb1⟩
   have HB1:Hid (Bi 56 w w1 G v1 (pr2 x ids 0)):=hid (by rw[<-HG.out];exact hb1)
   clear hb1
   go_wp2_with fail
   clear c0 c1
   go_loopg [6,27] 2 (fun g nv jv wq=>∃ (j:Nat) (v:Value),v=nv/\j<=2/\g=2-j/\jv=.int .i64 j/\Hid (Bi 56 w wq G v (pr2 x ids j)))
   case atStart=>exact⟨0,_,rfl,by omega,rfl,rfl,HB1⟩
   case round =>
    obtain⟨j,v,hv,hj,hk2,rfl,HBI⟩:=hrel
    subst hv
    have e4:j=0 ∨ j=1 ∨ j=2:=by omega
    have c0:=HC0.out wr HBI.out.below
    have c1:=HC1.out wr HBI.out.below
    rcases e4 with rfl | rfl | rfl
    ·have hPx:=HPX.out wr HBI.out.below
     go_wp2_with (first
      | (at_builtin;refine xJ rfl _ _ 23 56 Tryz.underlying23 Tryz.info56' rfl G _ _ rfl HBI.out (some ⟨g1,0,none⟩) 1 [x] rfl hPx HW0.out (by simp[pr2]) ?_;intro v2 w2 hb2 hg2;have HB2:Hid (Bi 56 w w2 G v2 (pr2 x ids 1)):=hb2;clear hb2 hg2)
      | fail)
     go_roundg 1
     case measure=>omega
     case rel=>exact⟨1,_,rfl,by omega,rfl,rfl,HB2⟩
    ·have hPi:=HPI.out wr HBI.out.below
     go_wp2_with (first
      | (at_builtin;refine xJ rfl _ _ 23 56 Tryz.underlying23 Tryz.info56' rfl G _ _ rfl HBI.out pa pc ids (by rw[HN.out];rfl) hPi HW1.out (by simp[pr2,HN.out];omega) ?_;intro v2 w2 hb2 hg2;have HB2:Hid (Bi 56 w w2 G v2 (pr2 x ids 2)):=hb2;clear hb2 hg2)
      | fail)
     go_roundg 0
     case measure=>omega
     case rel=>exact⟨2,_,rfl,by omega,rfl,rfl,HB2⟩
    ·go_wp2
     go_ret
     exact⟨_,rfl,HBI.out⟩
end Go.Proofs.YticgindfipobiaaGreatDoor
