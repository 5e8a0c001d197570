import Derived.Test.YticgindfipobiaaGreatDoorMn03
import Derived.Test.YticgindfipobiaaGreatDoorMn04
import Derived.Test.YticgindfipobiaaGreatDoorMn10
set_option linter.unusedSimpArgs false
set_option linter.unusedVariables false
set_option maxRecDepth 20000
set_option maxHeartbeats 4000000
namespace Go.Proofs.YticgindfipobiaaGreatDoor
open Go.RowKit
theorem QJ (k:IntKind) (l:List Int) (x:Int):row k (l++[x])=row k l++[.int k x]:=by simp[row]
theorem pad_iff (n j:Nat) (h:j<=vJ n):((n+(1+j)+8) % 64=0) ↔ j=vJ n:=by unfold vJ at *;omega
set_option maxHeartbeats 2000000 in
theorem end_any (n:Nat) (w:World) (hn:n<=700000) :
  Calls Tryz.prog 76 #[.int .u64 n] w fun e w'=>∃ g cp,e=.returned (.slice (some ⟨g,0,none⟩) (jz n).length cp)/\Below w.heap.size w w'/\w.heap.size<=g/\g<w'.heap.size/\At w' g 0 (jz n)/\(jz n).length<=cp:=by
 obtain⟨i5,hi,hz0,hz1,hz2⟩:=zQ Tryz.info5
 have HB0:Hid (Below w.heap.size w (w.alloc (.cells #[.int .u8 128] 5))):=(Below.refl _ w).alloc (Nat.le_refl _) _
 have hp63:=pads_le n
 go_enter Tryz.func76,Tryz.ntmps76
 go_wp2
 go_loopg [3] (vJ n) (fun g s wr=>∃ (j gb cp:Nat) (ls:List Int),j<=vJ n/\g=vJ n-j/\s=.slice (some ⟨gb,0,none⟩) (1+j:Nat) cp/\Hid (ls=128 :: List.replicate j 0)/\wr.ownsRow w.heap.size 5 1 (.slice (some ⟨gb,0,none⟩) (1+j:Nat) cp) (1+j) (row .u8 ls)/\Hid (Below w.heap.size w wr))
 case atStart=>exact⟨0,w.heap.size,1,_,by omega,rfl,rfl,rfl,World.ownsRow_lit w #[.int .u8 128] 1 (Nat.le_refl _) (by unfold maxLen;omega) rfl,HB0⟩
 case round =>
  obtain⟨j,gb,cp,ls,hj,hk,rfl,HLs,hown,HB⟩:=hrel
  by_cases hlt:j<vJ n
  ·have hc:((n:Int)+(1+j)+8) % 64 ≠ 0:=by have:=pad_iff n j hj;omega
   go_wp2_with (refine wpList_append_lies _ rfl _ _ _ rfl w.heap.size 5 i5 (.int .u8 0) 1 1 Tryz.underlying26 hi hz0 hz1 hz2 rfl (by omega) (.slice (some ⟨gb,0,none⟩) (1+j:Nat) cp) (1+j) (row .u8 ls) rfl (by exact hown.alloc _) ⟨wr.heap.size,0,none⟩ 1 1 [.int .u8 0] rfl rfl (by intro j u hj;match j,hj with | 0,hj=>simp at hj;subst hj;simp[Addr.add]) (by intro u hu;simp at hu;subst hu;rfl) (by omega) (by unfold maxLen;omega) (by omega) (by have:=HB.out.size;simp;omega) (wr.heap.size+1) (by simp) ?_;intro g2 cp2 w3 hown1 hgrow hat hlt2)
   have HB2:Hid (Below w.heap.size w w3):=vj HB.out (Nat.le_refl _) (World.grownBy_alloc wr _ none) hgrow (fun k hk=>(qW hown k hk).1)
   have HO:Hid (w3.ownsRow w.heap.size 5 1 (.slice (some ⟨g2,0,none⟩) (1+j+1:Nat) cp2) (1+j+1) (row .u8 (ls++[0]))):=hid (by rw[QJ];exact hown1)
   clear hown1 hgrow hat hown
   go_wp2
   go_roundg (vJ n-(j+1))
   case measure=>omega
   case rel=>exact⟨j+1,g2,cp2,ls++[0],by omega,rfl,rfl,hid (by rw[HLs.out,List.replicate_succ',List.cons_append]),HO.out,HB2⟩
  ·obtain rfl:j=vJ n:=by omega
   have hc:((n:Int)+(1+(vJ n:Nat))+8) % 64=0:=by have:=pad_iff n (vJ n) (Nat.le_refl _);omega
   obtain⟨q,HQ⟩:=nn_ (1+vJ n)
   have hq64:q<=64:=by have:=HQ.out;omega
   rw[<-HQ.out] at hown
   have hc2:((n:Int)+q+8) % 64=0:=by have:=HQ.out;omega
   rw[<-HQ.out]
   have HLq:Hid (ls=128 :: List.replicate (vJ n) 0):=HLs.out
   clear hc hlt hj hk
   go_wp2
   clear hc2
   go_loopg [3,20] 8 (fun g s i wr=>∃ (j gb cp:Nat) (ls:List Int),j<=8/\g=8-j/\i=.int .i64 j/\s=.slice (some ⟨gb,0,none⟩) (q+j:Nat) cp/\Hid (ls=128 :: List.replicate (vJ n) 0++(List.range j).map (be8 (8*n)))/\wr.ownsRow w.heap.size 5 1 (.slice (some ⟨gb,0,none⟩) (q+j:Nat) cp) (q+j) (row .u8 ls)/\Hid (Below w.heap.size w wr))
   case atStart=>exact⟨0,gb,cp,ls,by omega,rfl,rfl,rfl,hid (by rw[HLq.out];simp),hown,HB⟩
   case round =>
    clear hown HB
    obtain⟨j,gb,cp,ls,hj,hk,rfl,rfl,HLs,hown,HB⟩:=hrel
    by_cases hlt:j<8
    ·obtain⟨x,HX⟩:=nn_ (be8 (8*n) j)
     have hx:8*(n:Int) / 2 ^ (8*(7-j)) % 256=x:=by rw[HX.out];unfold be8;rw[Int.natCast_emod,Int.natCast_ediv,Int.natCast_mul,Int.natCast_pow];rfl
     go_wp2_with (refine wpList_append_lies _ rfl _ _ _ rfl w.heap.size 5 i5 (.int .u8 0) 1 1 Tryz.underlying26 hi hz0 hz1 hz2 rfl (by omega) (.slice (some ⟨gb,0,none⟩) (q+j:Nat) cp) (q+j) (row .u8 ls) rfl (by exact hown.alloc _) ⟨wr.heap.size,0,none⟩ 1 1 [.int .u8 x] rfl rfl (by intro j u hj;match j,hj with | 0,hj=>simp at hj;subst hj;simp[Addr.add]) (by intro u hu;simp at hu;subst hu;rfl) (by omega) (by unfold maxLen;omega) (by omega) (by have:=HB.out.size;simp;omega) (wr.heap.size+1) (by simp) ?_;intro g2 cp2 w3 hown1 hgrow hat hlt2)
     have HB2:Hid (Below w.heap.size w w3):=vj HB.out (Nat.le_refl _) (World.grownBy_alloc wr _ none) hgrow (fun k hk=>(qW hown k hk).1)
     have HO:Hid (w3.ownsRow w.heap.size 5 1 (.slice (some ⟨g2,0,none⟩) (q+j+1:Nat) cp2) (q+j+1) (row .u8 (ls++[x]))):=hid (by rw[QJ];exact hown1)
     clear hown1 hgrow hat hown hx
     go_wp2
     go_roundg (8-(j+1))
     case measure=>omega
     case rel=>exact⟨j+1,g2,cp2,ls++[x],by omega,rfl,by go_num,rfl,hid (by rw[HLs.out,HX.out,List.range_succ,List.map_append,List.append_assoc];rfl),HO.out,HB2⟩
    ·obtain rfl:j=8:=by omega
     have HE:Hid (ls=jz n):=hid (by rw[HLs.out];rfl)
     have hel:(jz n).length=q+8:=by rw[Yv];have:=HQ.out;omega
     obtain⟨g0,cp0,hform,hg0,hcp0⟩:=hown.form (by omega)
     have hlt3:=(qW hown gb rfl)
     have HAt:Hid (At wr gb 0 (jz n)):=fun i hi=>by
      rw[Nat.zero_add,hown.cellAt i (by omega),HE.out,vq .u8 (jz n) i hi]
     have hcp:q+8<=cp:=by
      rcases hown.2 with ⟨_,h0⟩ | ⟨g,cap,cur,hv,_,_,h1,_⟩
      ·omega
      ·simp only[Value.slice.injEq] at hv;omega
     go_wp2
     go_ret
     exact⟨gb,cp,by rw[hel];rfl,HB.out,hlt3.1,hlt3.2,HAt.out,by rw[hel];exact hcp⟩
def uk (w:World) (D:Nat):List Value:=(List.range 70).map fun i=>(w.cell? ⟨D,i,none⟩).getD undef
theorem V8 (w:World) (D:Nat):(uk w D).length=70:=by simp[uk]
theorem dig_some {w:World} {D:Nat} {l:List Int} (h:Dig w D l) (i:Nat) (hi:i<70):∃ v,w.cell? ⟨D,i,none⟩=some v/\v.oneCell'=true:=by
 by_cases h5:i<5
 ·exact⟨_,h.sum i h5,rfl⟩
 ·by_cases h69:i=69
  ·subst h69;exact⟨_,h.size,rfl⟩
  ·obtain⟨rs,-,-,hc,-⟩:=h.rest
   have:=hc (i-5) (by omega)
   rw[show 5+(i-5)=i from by omega] at this
   exact⟨_,this,rfl⟩
theorem digCells_at {w:World} {D:Nat} {l:List Int} (h:Dig w D l) (i:Nat) (hi:i<70):(uk w D)[i]? = w.cell? ⟨D,i,none⟩:=by
 obtain⟨v,hv,-⟩:=dig_some h i hi
 simp[uk,hi,hv]
theorem digCells_range {w:World} {D:Nat} {l:List Int} (h:Dig w D l):w.rangeAt D 0 (uk w D):=fun j v hv=>by
 have hj:j<70:=by rcases Nat.lt_or_ge j 70 with h | h;exact h;rw[List.getElem?_eq_none (by rw[V8];exact h)] at hv;cases hv
 rw[Nat.zero_add,<-digCells_at h j hj];exact hv
theorem digCells_one {w:World} {D:Nat} {l:List Int} (h:Dig w D l):∀ v ∈ uk w D,v.oneCell'=true:=by
 intro v hv
 simp only[uk,List.mem_map,List.mem_range] at hv
 obtain⟨i,hi,rfl⟩:=hv
 obtain⟨v,hv,h1⟩:=dig_some h i hi
 rw[hv];exact h1
theorem dig_copy {w W:World} {D L:Nat} {l:List Int} (h:Dig w D l) (hr:W.rangeAt L 0 (uk w D)) (hl:L<W.heap.size) (hf:∀ i,W.frozen? ⟨L,i,none⟩=false):Dig W L l:=by
 have c:∀ i,i<70->W.cell? ⟨L,i,none⟩=w.cell? ⟨D,i,none⟩:=fun i hi=>by
  obtain⟨v,hv,-⟩:=dig_some h i hi
  have:=hr i v (by rw[digCells_at h i hi];exact hv)
  rw[Nat.zero_add] at this
  rw[this,hv]
 obtain⟨rs,h1,h2,h3,h4⟩:=h.rest
 exact⟨hl,fun i hi=>(c i (by omega)).trans (h.sum i hi),⟨rs,h1,h2,fun i hi=>(c _ (by omega)).trans (h3 i hi),h4⟩,(c _ (by omega)).trans h.size,hf⟩
theorem out4 (s:S5) (i:Nat) (hi:i<5):vY s (4*(i+1))=((((vY s (4*i)).set (4*i) (s.l.getD i 0 / 16777216 % 256)).set (4*i+1) (s.l.getD i 0 / 65536 % 256)).set (4*i+2) (s.l.getD i 0 / 256 % 256)).set (4*i+3) (s.l.getD i 0 % 256):=by
 rw[show 4*(i+1)=4*i+3+1 from by omega,ju s _ (by omega),ju s _ (by omega),ju s _ (by omega),ju s _ (by omega)]
 rw[show 4*i / 4=i from by omega,show (4*i+1) / 4=i from by omega,show (4*i+2) / 4=i from by omega,show (4*i+3) / 4=i from by omega,show 4*i % 4=0 from by omega,show (4*i+1) % 4=1 from by omega,show (4*i+2) % 4=2 from by omega,show (4*i+3) % 4=3 from by omega]
 rw[show s.l.getD i 0 / 2 ^ (24-8*3) % 256=s.l.getD i 0 % 256 from by simp]
 rfl
theorem l_isW' (s:S5) (h:s.ok):IsW s.l:=by
 obtain⟨h1,h2,h3,h4,h5⟩:=h
 intro x hx
 simp only[S5.l,List.mem_cons,List.not_mem_nil,or_false] at hx
 rcases hx with rfl | rfl | rfl | rfl | rfl <;> assumption
theorem set4 {w:World} {g m:Nat} {t:TypeId} {zs:List Int} (a b c d:Int) (h:w.heap[g]? = some (.cells (row .u8 zs).toArray t (0,0))) :
  ((((w.setCell ⟨g,m,none⟩ (.int .u8 a)).setCell ⟨g,m+1,none⟩ (.int .u8 b)).setCell ⟨g,m+2,none⟩ (.int .u8 c)).setCell ⟨g,m+3,none⟩ (.int .u8 d)).heap[g]? = some (.cells (row .u8 ((((zs.set m a).set (m+1) b).set (m+2) c).set (m+3) d)).toArray t (0,0)):=by
 have h1:=heap_setCell_same w g m _ _ (.int .u8 a) h
 rw[xu] at h1
 have h2:=heap_setCell_same _ g (m+1) _ _ (.int .u8 b) h1
 rw[xu] at h2
 have h3:=heap_setCell_same _ g (m+2) _ _ (.int .u8 c) h2
 rw[xu] at h3
 have h4:=heap_setCell_same _ g (m+3) _ _ (.int .u8 d) h3
 rw[xu] at h4
 exact h4
theorem set4_other {w:World} {g m k:Nat} (a b c d:Value) (h:k ≠ g):((((w.setCell ⟨g,m,none⟩ a).setCell ⟨g,m+1,none⟩ b).setCell ⟨g,m+2,none⟩ c).setCell ⟨g,m+3,none⟩ d).heap[k]? = w.heap[k]? := by
 rw[Below.heap_setCell _ _ _ _ h,Below.heap_setCell _ _ _ _ h,Below.heap_setCell _ _ _ _ h,Below.heap_setCell _ _ _ _ h]
theorem set4_below {B:Nat} {w0 w:World} {g m:Nat} (a b c d:Value) (hg:B<=g) (h:Below B w0 w):Below B w0 ((((w.setCell ⟨g,m,none⟩ a).setCell ⟨g,m+1,none⟩ b).setCell ⟨g,m+2,none⟩ c).setCell ⟨g,m+3,none⟩ d) :=
 (((h.setCell (p:=⟨g,m,none⟩) hg a).setCell (p:=⟨g,m+1,none⟩) hg b).setCell (p:=⟨g,m+2,none⟩) hg c).setCell (p:=⟨g,m+3,none⟩) hg d
def Z43:Array Value:=(row .u32 [0,0,0,0,0]++row .u8 (List.replicate 64 0)++([.int .u64 0] : List Value)).toArray
theorem zero43 (w:World):(zeroValue 182).run Tryz.prog w=.ok (.agg Z43) w:=by kernel_rfl
theorem zero25 (w:World):(zeroValue 56).run Tryz.prog w=.ok (.agg (row .u8 z20).toArray) w:=by kernel_rfl
theorem zero24 (w:World):(zeroValue 31).run Tryz.prog w=.ok (.agg (row .u8 z20).toArray) w:=by kernel_rfl
theorem sum_any (D:Nat) (l:List Int) (w:World) (hD:Dig w D l) (hl:l.length<=600000) (hlb:IsB l) :
  Calls Tryz.prog 57 #[.pointer (some ⟨D,0,none⟩)] w fun e w'=>e=.returned (.agg (row .u8 (sha l)).toArray)/\Below w.heap.size w w':=by
 have HD:Hid (Dig w D l):=hD
 clear hD
 obtain⟨zr,HZ⟩:=nn_ ((row .u8 z20).toArray)
 have hz25:=zero25
 rw[<-HZ.out] at hz25
 obtain⟨z43,HZ43⟩:=nn_ Z43
 have hz43:=zero43
 rw[<-HZ43.out] at hz43
 obtain⟨cs,HCS⟩:=nn_ (uk w D)
 have hcs:cs.length=70:=by rw[HCS.out];exact V8 _ _
 have hi43:(Tryz.prog.info? 182).map (·.size)=some cs.length:=by rw[hcs];exact Tryz.size182
 have hDl:D<w.heap.size:=HD.out.lt
 have he70:cs.toArray.size=70:=by rw[List.size_toArray,hcs]
 have H1:Hid ((w.alloc (.cells zr 56)).rangeAt D 0 cs):=hid (by rw[HCS.out];exact fun j v hv=>(World.cell?_alloc_lt w _ ⟨D,0+j,none⟩ hDl).trans (digCells_range HD.out j v hv))
 have T1:Hid (((w.alloc (.cells zr 56)).alloc (.cells z43 182)).there (w.heap.size+1) 0 cs.toArray.size):=hid (by rw[he70,HZ43.out];exact xy (heap_alloc2_new w _ _) rfl)
 have T2:Hid ((Tryz.prog.info? 182).map (·.size)=some cs.toArray.size):=hid (by rw[List.size_toArray];exact hi43)
 have T3:Hid (cs.toArray.all (·.oneCell')=true):=hid (all_oneCell_toArray (by rw[HCS.out];exact digCells_one HD.out))
 obtain⟨w1,HW1⟩:=nn_ (((w.alloc (.cells zr 56)).alloc (.cells z43 182)).setCells (w.heap.size+1) 0 cs.toArray.toList)
 have hs1:w1.heap.size=w.heap.size+1+1:=by rw[HW1.out,xY];simp
 have HDL:Hid (Dig w1 (w.heap.size+1) l):=hid (by
  refine dig_copy HD.out ?_ (by omega) ?_
  ·rw[HW1.out,<-HCS.out];exact World.rangeAt_setCells_same _ (w.heap.size+1) 0 _ (by have:=T1.out;simpa using this)
  ·intro i;rw[HW1.out,World.frozen?_setCells];exact frozen_of_row _ _ _ _ 182 (heap_alloc2_new w _ _))
 have HB1:Hid (Below w.heap.size w w1):=hid (by rw[HW1.out];exact z7 (by omega) _ _ _ _ (((Below.refl _ w).alloc (Nat.le_refl _) _).alloc (by simp) _))
 have HR1:Hid (w1.heap[w.heap.size]? = some (.cells zr 56 (0,0))):=hid (by
  have hg:∀ (vs:List Value) (o:Nat) (W:World),(W.setCells (w.heap.size+1) o vs).heap[w.heap.size]? = W.heap[w.heap.size]? := by
   intro vs
   induction vs with
   | nil=>intro o W;rfl
   | cons v r ih=>intro o W;rw[World.setCells,ih];exact Below.heap_setCell W ⟨w.heap.size+1,o,none⟩ v _ (by simp)
  rw[HW1.out,hg];exact heap_alloc2_old w _ _)
 replace hs1:=hid hs1
 have c69:w1.cell? ⟨D,69,none⟩=some (.int .u64 l.length):=(HB1.out.cell (p:=⟨D,69,none⟩) hDl).trans HD.out.size
 go_enter Tryz.func57,Tryz.ntmps57
 go_wp2_with (first | refine wpList_load_mid rfl 182 _ rfl D 0 rfl cs _ H1.out Tryz.underlying182 rfl hi43 ?_ | (refine wpList_store_mid rfl 182 _ _ rfl (w.heap.size+1) 0 cs.toArray rfl rfl T1.out T2.out T3.out ?_;rw[<-HW1.out]))
 clear c69
 obtain⟨n,HN⟩:=nn_ l.length
 rw[<-HN.out]
 refine(end_any n w1 (by rw[HN.out];omega)).mono ?_
 rintro e w2 ⟨g,cp,rfl,hb2,hg1,hg2,hat2,hcp2⟩
 have HG2:Hid (w1.heap.size<=g):=hg1
 have HD2:Dig w2 (w.heap.size+1) l:=HDL.out.keep (zw hb2 none) (by simp)
 have HX2:Hid (Below w1.heap.size w1 w2):=hb2
 obtain⟨en,HEN⟩:=nn_ (jz n)
 rw[<-HEN.out] at hat2 hcp2 ⊢
 have henl:en.length<=100:=by rw[HEN.out,Yv];have:=pads_le n;omega
 have henb:IsB en:=by rw[HEN.out];exact endOf_isB n
 go_wp2_with fail
 refine(add_any (w.heap.size+1) l _ cp en w2 HD2 (by omega) hlb henb (fun _=>⟨g,0,rfl,hg2,by have:=HG2.out;have:=hs1.out;omega,hat2,hcp2⟩)).mono ?_
 rintro e w3 ⟨rfl,hD3,hgr3⟩
 have hsz2:=HX2.out.size
 have hsz3:=hgr3.size
 have HB3:Hid (Below w.heap.size w w3):=(HB1.out.trans (HX2.out.mono (by have:=hs1.out;omega))).grown hgr3 (by have:=hs1.out;omega) (fun k hk=>by simp at hk;omega)
 have HR3:Hid (w3.heap[w.heap.size]? = some (.cells zr 56 (0,0))):=(hgr3.block _ (by have:=hs1.out;omega) (by simp)).trans ((HX2.out.block _ (by have:=hs1.out;omega)).trans HR1.out)
 have hz3:w.heap.size+1<w3.heap.size:=by have:=hs1.out;omega
 obtain⟨s5,HS5⟩:=nn_ (ab (l++en) ((l++en).length / 64))
 have hs5:s5.ok:=by rw[HS5.out];exact ab_ok _ _
 have HSH:Hid (sha l=vY s5 20):=hid (by unfold sha;rw[HS5.out,HEN.out,HN.out])
 have hsum:=hD3.sum
 rw[<-HS5.out] at hsum
 replace hD3:=hid hD3
 clear hgr3 HX2 hat2 hcp2 HD2 hb2 hg1 hg2 hsz2 hsz3
 obtain⟨sl,HSL⟩:=nn_ s5.l
 rw[<-HSL.out] at hsum
 have hsll:sl.length=5:=by rw[HSL.out];rfl
 have hslw:IsW sl:=by rw[HSL.out];exact l_isW' s5 hs5
 have hi40:(Tryz.prog.info? 179).map (·.size)=some (row .u32 sl).length:=by rw[zq,hsll];exact Tryz.size179
 have HRL:Hid ((w3.alloc (.cells zr 56)).rangeAt (w.heap.size+1) 0 (row .u32 sl)):=hid (range_of 0 (fun i hi=>by rw[Nat.zero_add,World.cell?_alloc_lt w3 _ ⟨w.heap.size+1,i,none⟩ hz3];exact hsum i (by omega)))
 have HI3:Hid ((w3.alloc (.cells zr 56)).heap[w3.heap.size]? = some (.cells (row .u8 (vY s5 (4*0))).toArray 56 (0,0))):=hid (by rw[outAt_zero,<-HZ.out];exact heap_alloc_new w3 _)
 have HR4:Hid ((w3.alloc (.cells zr 56)).heap[w.heap.size]? = some (.cells (row .u8 z20).toArray 56 (0,0))):=hid (by rw[Below.heap_alloc _ _ _ (by omega),HR3.out,HZ.out])
 have HB4:Hid (Below w.heap.size w (w3.alloc (.cells zr 56))):=HB3.out.alloc (by omega) _
 clear hsum
 obtain⟨sa,HSA⟩:=nn_ ((row .u32 sl).toArray)
 have HSX:Hid (∀ i,i<5->sa[i]? = some (.int .u32 (sl.getD i 0))):=fun i hi=>by rw[HSA.out];simpa using vq .u32 sl i (by omega)
 go_wp2_with (refine wpList_load_mid rfl 179 _ rfl (w.heap.size+1) 0 rfl (row .u32 sl) _ HRL.out Tryz.underlying179 rfl hi40 ?_;rw[<-HSA.out])
 go_loopg [18] 5 (fun k i wr=>∃ j:Nat,j<=5/\k=5-j/\i=.int .i64 j/\Hid (wr.heap[w3.heap.size]? = some (.cells (row .u8 (vY s5 (4*j))).toArray 56 (0,0)))/\Hid (wr.heap[w.heap.size]? = some (.cells (row .u8 z20).toArray 56 (0,0)))/\Hid (Below w.heap.size w wr))
 case atStart=>exact⟨0,by omega,rfl,rfl,HI3,HR4,HB4⟩
 case round =>
  clear HI3 HR4 HB4 HRL
  obtain⟨j,hj,hk,rfl,HI,HR,HB⟩:=hrel
  by_cases hlt:j<5
  ·obtain⟨x,HX⟩:=nn_ (sl.getD j 0)
   have hix:∀ w1:World,(Instr.index 179 (.agg sa) (.int .i64 j)).run Tryz.prog w1=.ok (.int .u32 x) w1:=fun w1=>by rw[HX.out];exact Yj 179 63 5 _ _ j _ w1 Tryz.underlying179 Tryz.size63 _ Tryz.underlying63 rfl hlt (HSX.out j hlt)
   have hx:U x:=by rw[HX.out];exact hslw.at j
   obtain⟨hx1,hx2⟩:=hx
   obtain⟨m,HM⟩:=nn_ (4*j)
   have hm:(4:Int)*j=(m:Int):=by have:=HM.out;omega
   have hm16:m+3<20:=by have:=HM.out;omega
   rw[<-HM.out] at HI
   have cc:∀ i,i<20->wr.cell? ⟨w3.heap.size,i,none⟩=some (.int .u8 ((vY s5 m).getD i 0)):=fun i hi=>qx HI.out i (by rw[Z8];exact hi)
   have d0:=cc m (by omega)
   have d1:=cc (m+1) (by omega)
   have d2:=cc (m+2) (by omega)
   have d3:=cc (m+3) (by omega)
   have f0:=frozen_of_row wr w3.heap.size m _ 56 HI.out
   have f1:=frozen_of_row wr w3.heap.size (m+1) _ 56 HI.out
   have f2:=frozen_of_row wr w3.heap.size (m+2) _ 56 HI.out
   have f3:=frozen_of_row wr w3.heap.size (m+3) _ 56 HI.out
   clear cc
   go_wp2
   go_roundg (5-(j+1))
   case measure=>omega
   case rel =>
    refine⟨j+1,by omega,rfl,by go_num,hid ?_,hid ?_,set4_below _ _ _ _ (by omega) HB.out⟩
    ·have e16:x / 16777216=x / 16777216 % 256:=by omega
     rw[out4 s5 j hlt,<-HM.out,<-HSL.out,<-HX.out,<-e16]
     exact set4 _ _ _ _ HI.out
    ·rw[set4_other _ _ _ _ (by omega)];exact HR.out
  ·obtain rfl:j=5:=by omega
   obtain⟨fr,HFR⟩:=nn_ (vY s5 (4*5))
   rw[<-HFR.out] at HI
   have hfl:fr.length=20:=by rw[HFR.out];exact Z8 _ _
   have HE:Hid (fr=sha l):=hid (by rw[HFR.out,HSH.out])
   have hi25:(Tryz.prog.info? 56).map (·.size)=some (row .u8 fr).length:=by rw[zq,hfl];exact Tryz.size56
   have T1:Hid (wr.there w.heap.size 0 (row .u8 fr).toArray.size):=hid (by rw[qZ,hfl];exact zW HR.out rfl)
   have T2:Hid ((Tryz.prog.info? 56).map (·.size)=some (row .u8 fr).toArray.size):=hid (by rw[qZ,hfl];exact Tryz.size56)
   have T3:Hid ((row .u8 fr).toArray.all (·.oneCell')=true):=all_oneCell_toArray (zV _ _)
   have T4:Hid (wr.there w.heap.size 0 (row .u8 fr).length):=hid (by rw[zq,hfl];exact zW HR.out rfl)
   go_wp2_with (first | refine wpList_load_mid rfl 56 _ rfl w3.heap.size 0 rfl (row .u8 fr) _ (zx HI.out) Tryz.underlying56 rfl hi25 ?_ | refine wpList_store_mid rfl 56 _ _ rfl w.heap.size 0 (row .u8 fr).toArray rfl rfl T1.out T2.out T3.out ?_)
   refine bodyPost_ret (v:=.agg (row .u8 fr).toArray) (yq Tryz.results57 _ _ w.heap.size _ _ rfl (World.rangeAt_setCells_same wr w.heap.size 0 _ T4.out) Tryz.underlying56 rfl hi25) rfl ⟨?_,z7 (Nat.le_refl _) _ _ _ _ HB.out⟩
   rw[HE.out]
def N43:Array Value:=(row .u32 init5.l++row .u8 (List.replicate 64 0)++([.int .u64 0] : List Value)).toArray
theorem new_dig {w:World} {g:Nat} (h:w.heap[g]? = some (.cells N43 182 (0,0))):Dig w g []:=by
 have hlt:g<w.heap.size:=by
  rcases Nat.lt_or_ge g w.heap.size with h' | h'
  ·exact h'
  ·rw[Array.getElem?_eq_none h'] at h;cases h
 have c:∀ i,w.cell? ⟨g,i,none⟩=N43[i]? := fun i=>cell_of_row w g i _ 182 _ h
 refine⟨hlt,fun i hi=>?_,⟨List.replicate 64 0,by simp,?_,fun i hi=>?_,fun i hi=>by simp at hi⟩,by rw[c];rfl,fun i=>frozen_of_row w g i _ 182 h⟩
 ·rw[c]
  match i,hi with
  | 0,_=>rfl
  | 1,_=>rfl
  | 2,_=>rfl
  | 3,_=>rfl
  | 4,_=>rfl
 ·intro x hx;rw[List.mem_replicate] at hx;omega
 ·rw[c]
  have e:N43[5+i]? = (row .u8 (List.replicate 64 0))[i]? := by
   simp only[N43,List.getElem?_toArray]
   rw[List.getElem?_append_left (by rw[List.length_append,zq,zq];simp[S5.l,init5];omega),List.getElem?_append_right (by rw[zq];simp[S5.l,init5])]
   congr 1
   rw[zq];simp[S5.l,init5]
  rw[e,vq .u8 _ i (by simpa using hi)]
set_option maxHeartbeats 2000000 in
theorem new_any (w:World):Calls Tryz.prog 55 #[] w fun e w'=>e=.returned (.pointer (some ⟨w.heap.size,0,none⟩))/\w'=w.alloc (.cells N43 182):=by
 obtain⟨z43,HZ43⟩:=nn_ Z43
 have hz43:=zero43
 rw[<-HZ43.out] at hz43
 have hsz:z43.size=70:=by rw[HZ43.out];rfl
 have HE:Hid (((((z43.setIfInBounds 0 (.int .u32 1732584193)).setIfInBounds 1 (.int .u32 4023233417)).setIfInBounds 2 (.int .u32 2562383102)).setIfInBounds 3 (.int .u32 271733878)).setIfInBounds 4 (.int .u32 3285377520)=N43):=hid (by rw[HZ43.out];rfl)
 go_enter Tryz.func55,Tryz.ntmps55
 go_wp2
 go_ret
 refine⟨rfl,?_⟩
 rw[<-HE.out]
set_option maxHeartbeats 2000000 in
theorem sum6 (a:Option Addr) (cap:Nat) (zs:List Int) (w:World) (hl:zs.length<=300000) (hz:IsB zs) (hc:0<zs.length->∃ b off,a=some ⟨b,off,none⟩/\b<w.heap.size/\At w b off zs/\zs.length<=cap) :
  Calls Tryz.prog 39 #[.slice a zs.length cap] w fun e w'=>e=.returned (.agg (row .u8 (sha zs)).toArray)/\Below w.heap.size w w':=by
 obtain⟨zr,HZ⟩:=nn_ ((row .u8 z20).toArray)
 have hz25:=zero25
 rw[<-HZ.out] at hz25
 obtain⟨fr,HE⟩:=nn_ (sha zs)
 have hfl:fr.length=20:=by rw[HE.out];exact sha_len _
 have hi25:(Tryz.prog.info? 56).map (·.size)=some (row .u8 fr).length:=by rw[zq,hfl];exact Tryz.size56
 have T2:Hid ((Tryz.prog.info? 56).map (·.size)=some (row .u8 fr).toArray.size):=hid (by rw[qZ,hfl];exact Tryz.size56)
 have T3:Hid ((row .u8 fr).toArray.all (·.oneCell')=true):=all_oneCell_toArray (zV _ _)
 obtain⟨w0,HW0⟩:=nn_ (w.alloc (.cells zr 56))
 have hs0:w0.heap.size=w.heap.size+1:=by rw[HW0.out];simp
 have HR0:Hid (w0.heap[w.heap.size]? = some (.cells (row .u8 z20).toArray 56 (0,0))):=hid (by rw[HW0.out,HZ.out];exact heap_alloc_new w _)
 have HB0:Hid (Below w.heap.size w w0):=hid (by rw[HW0.out];exact(Below.refl _ w).alloc (Nat.le_refl _) _)
 replace hs0:=hid hs0
 go_enter Tryz.func39,Tryz.ntmps39
 go_wp2_with fail
 rw[<-HW0.out]
 refine(new_any w0).mono ?_
 rintro e w1 ⟨rfl,hw1⟩
 have HD1:Dig w1 w0.heap.size []:=new_dig (by rw[hw1];exact heap_alloc_new w0 _)
 have HX1:Hid (Below w0.heap.size w0 w1):=hid (by rw[hw1];exact(Below.refl _ w0).alloc (Nat.le_refl _) _)
 clear hw1
 rw[hs0.out] at HD1
 have HX1':Hid (Below (w.heap.size+1) w0 w1):=hid (by rw[<-hs0.out];exact HX1.out)
 rw[hs0.out]
 go_wp2_with fail
 refine(add_any (w.heap.size+1) [] a cap zs w1 HD1 (by simp;omega) (fun x hx=>by cases hx) hz (fun h=>by
  obtain⟨b,off,h1,h2,h3,h4⟩:=hc h
  exact⟨b,off,h1,by have:=HX1'.out.size;have:=hs0.out;omega,by omega,fun i hi=>(HX1'.out.cell (p:=⟨b,off+i,none⟩) (by show b<_;omega)).trans ((HB0.out.cell (p:=⟨b,off+i,none⟩) h2).trans (h3 i hi)),h4⟩)).mono ?_
 rintro e w2 ⟨rfl,hD2,hg2⟩
 rw[List.nil_append] at hD2
 have hsz1:=HX1'.out.size
 have hsz2:=hg2.size
 have HB2:Hid (Below w.heap.size w w2):=(HB0.out.trans (HX1'.out.mono (by omega))).grown hg2 (by have:=hs0.out;omega) (fun k hk=>by simp at hk;omega)
 have HR2:Hid (w2.heap[w.heap.size]? = some (.cells (row .u8 z20).toArray 56 (0,0))):=(hg2.block _ (by have:=hs0.out;omega) (by simp)).trans ((HX1'.out.block _ (by omega)).trans HR0.out)
 have hw2:w.heap.size<w2.heap.size:=by have:=hs0.out;omega
 replace hg2:=hid hg2
 replace hD2:=hid hD2
 go_wp2_with fail
 refine(sum_any (w.heap.size+1) zs w2 hD2.out (by omega) hz).mono ?_
 rintro e w3 ⟨rfl,hb3⟩
 have HB3:Hid (Below w.heap.size w w3):=HB2.out.trans (hb3.mono (by omega))
 have HR3:Hid (w3.heap[w.heap.size]? = some (.cells (row .u8 z20).toArray 56 (0,0))):=(hb3.block _ hw2).trans HR2.out
 have T1:Hid (w3.there w.heap.size 0 (row .u8 fr).toArray.size):=hid (by rw[qZ,hfl];exact zW HR3.out rfl)
 have T4:Hid (w3.there w.heap.size 0 (row .u8 fr).length):=hid (by rw[zq,hfl];exact zW HR3.out rfl)
 rw[<-HE.out]
 go_wp2_with (refine wpList_store_mid rfl 56 _ _ rfl w.heap.size 0 (row .u8 fr).toArray rfl rfl T1.out T2.out T3.out ?_)
 exact bodyPost_ret (v:=.agg (row .u8 fr).toArray) (yq Tryz.results39 _ _ w.heap.size _ _ rfl (World.rangeAt_setCells_same w3 w.heap.size 0 _ T4.out) Tryz.underlying56 rfl hi25) rfl ⟨by rw[HE.out],z7 (Nat.le_refl _) _ _ _ _ HB3.out⟩
def PId (t:List UInt8) (fr:List Int):Prop:=fr.length=20/\(∀ n ∈ fr,0<=n/\n<256)/\((t.length=40/\Hx.good ⟨t.toArray⟩)->fr=Hx.idAt ⟨t.toArray⟩ 40)
def PostP (t:List UInt8) (e:Ending):Prop := ∃ (fr:List Int) (ev:Value),e=.returned (.tuple #[.agg (row .u8 fr).toArray,ev])/\PId t fr
theorem parse_short (t:List UInt8) (w:World) (hl:t.length<=300000):Calls Tryz.prog 156 #[.string ⟨t.toArray⟩] w fun e w'=>Below w.heap.size w w'/\PostP t e:=by
 have hsz:(⟨t.toArray⟩:ByteArray).size=t.length:=by simp[ByteArray.size]
 refine(Hx.parse_prog ⟨t.toArray⟩ w (by rw[hsz];exact hl)).mono ?_
 rintro e w' ⟨hb,h1,h2⟩
 refine⟨hb,?_⟩
 rw[hsz] at h1 h2
 by_cases h:t.length=40/\Hx.good ⟨t.toArray⟩
 ·exact⟨Hx.idAt ⟨t.toArray⟩ 40,_,h1 h,Hx.idAt_len _ _,fun n hn=>Hx.idAt_bd _ _ n hn,fun _=>rfl⟩
 ·exact⟨Hx.zeros,_,h2 h,rfl,fun n hn=>by rw[List.eq_of_mem_replicate hn];omega,fun h3=>absurd h3 h⟩
def PostI (s wd:List UInt8) (g:Nat) (w:World) (e:Ending) (w':World):Prop := ∃ fr:List Int,e=.returned (.agg (row .u8 fr).toArray)/\PId (fld s wd) fr/\Rd g ⟨(Lib.cut s [10]).2.1.toArray⟩ w w'
theorem Tryz.results118:Tryz.f118.results=#[.cell 4 56]:=by kernel_rfl
set_option maxHeartbeats 1000000 in
theorem rid_any (s wd:List UInt8) (hs:s.length<=200000) (hw:wd.length<=100) (hfl:(fld s wd).length<=300000) (g:Nat) (w:World) (hg:w.heap[g]? = some (.cells #[.string ⟨s.toArray⟩] 230 (0,0))) (hm:Mx w) :
  Calls Tryz.prog 118 #[.pointer (some ⟨g,0,none⟩),.string ⟨wd.toArray⟩] w (PostI s wd g w):=by
 obtain⟨zr,HZ⟩:=nn_ ((row .u8 z20).toArray)
 have hz25:=zero25
 rw[<-HZ.out] at hz25
 obtain⟨R,HR⟩:=nm_ (⟨(Lib.cut s [10]).2.1.toArray⟩:ByteArray)
 obtain⟨T,HT⟩:=nm_ (⟨(fld s wd).toArray⟩:ByteArray)
 obtain⟨Wd,HWD⟩:=nm_ (⟨wd.toArray⟩:ByteArray)
 obtain⟨G,HG⟩:=nm_ w.heap.size
 obtain⟨w0,HW0⟩:=nm_ (w.alloc (.cells zr 56))
 have HS0:Hid (w0.heap.size=G+1):=hid (by rw[<-HW0.out,<-HG.out];simp)
 have HR0:Hid (w0.heap[G]? = some (.cells (row .u8 z20).toArray 56 (0,0))):=hid (by
  have:=heap_alloc_new w (.cells zr 56)
  rw[HW0.out,HZ.out] at this
  rw[<-HG.out];exact this)
 have HB0:Hid (Below G w w0):=hid (by rw[<-HW0.out,<-HG.out];exact(Below.refl _ w).alloc (Nat.le_refl _) _)
 have HGL:Hid (g<G):=hid (by rw[<-HG.out];exact z6 hg)
 have HF:Hid (Calls Tryz.prog 121 #[.pointer (some ⟨g,0,none⟩),.string Wd] w0 fun e w'=>e=.returned (.string T)/\Rd g R w0 w'):=hid (by
  rw[<-HWD.out,<-HT.out,<-HR.out]
  refine uZ s wd (by omega) hw g w0 ?_ (hm.below (by rw[HG.out];exact HB0.out))
  exact(HB0.out.block g HGL.out).trans hg)
 have HP:Hid (∀ W,Calls Tryz.prog 156 #[.string T] W fun e w'=>Below W.heap.size W w'/\PostP (fld s wd) e):=fun W=>by
  rw[<-HT.out]
  exact parse_short _ W hfl
 have HPE:Hid (∀ fr W,PId (fld s wd) fr->Rd g R w W->PostI s wd g w (.returned (.agg (row .u8 fr).toArray)) W):=fun fr W h1 h2=>⟨fr,rfl,h1,by rw[HR.out];exact h2⟩
 rw[HWD.out]
 clear hg hm hfl
 go_enter Tryz.func118,Tryz.ntmps118
 go_wp2_with fail
 rw[HG.out,HW0.out]
 refine HF.out.mono ?_
 rintro ev w1 ⟨rfl,hr⟩
 have HRD:Hid (Rd g R w0 w1):=hr
 clear hr
 go_wp2_with fail
 refine(HP.out w1).mono ?_
 rintro ev w2 ⟨hb2,fr,ev2,rfl,hpid⟩
 have HPI:Hid (PId (fld s wd) fr):=hpid
 have hfl:fr.length=20:=hpid.1
 have HB2:Hid (Below (G+1) w1 w2):=hid (by
  refine hb2.mono ?_
  rw[<-HS0.out]
  exact HRD.out.size)
 clear hpid hb2
 have hi32:(Tryz.prog.info? 56).map (·.size)=some (row .u8 fr).length:=by rw[zq,hfl];exact Tryz.size56
 have T2:Hid ((Tryz.prog.info? 56).map (·.size)=some (row .u8 fr).toArray.size):=hid (by rw[qZ,hfl];exact Tryz.size56)
 have T3:Hid ((row .u8 fr).toArray.all (·.oneCell')=true):=all_oneCell_toArray (zV _ _)
 obtain⟨G5,HG5⟩:=nm_ w2.heap.size
 obtain⟨w3,HW3⟩:=nm_ (w2.alloc (.cells zr 56))
 have HR3:Hid (w3.heap[G5]? = some (.cells (row .u8 z20).toArray 56 (0,0))):=hid (by
  have:=heap_alloc_new w2 (.cells zr 56)
  rw[HW3.out,HZ.out] at this
  rw[<-HG5.out];exact this)
 have HLT:Hid (G<G5):=hid (by
  have h1:=HB2.out.size
  have h2:=HRD.out.size
  rw[HS0.out] at h2
  rw[HG5.out] at h1
  omega)
 have HB3:Hid (Below (G+1) w1 w3):=hid (by rw[<-HW3.out];exact HB2.out.alloc (by rw[HG5.out];have:=HLT.out;omega) _)
 have HR1:Hid (w3.heap[G]? = some (.cells (row .u8 z20).toArray 56 (0,0))):=hid ((HB3.out.block G (by omega)).trans ((HRD.out.block G (by rw[HS0.out];omega) (by have:=HGL.out;omega)).trans HR0.out))
 have T1:Hid (w3.there G5 0 (row .u8 fr).toArray.size):=hid (by rw[qZ,hfl];exact zW HR3.out rfl)
 have T4:Hid (w3.there G5 0 (row .u8 fr).length):=hid (by rw[zq,hfl];exact zW HR3.out rfl)
 obtain⟨w4,HW4⟩:=nm_ (w3.setCells G5 0 (row .u8 fr))
 have TL:Hid (w4.rangeAt G5 0 (row .u8 fr)):=hid (by rw[<-HW4.out];exact World.rangeAt_setCells_same w3 G5 0 _ T4.out)
 have T5:Hid (w4.there G 0 (row .u8 fr).toArray.size):=hid (by rw[qZ,hfl,<-HW4.out];exact World.there_setCells (zW HR1.out rfl) _ _ _)
 have T6:Hid (w4.there G 0 (row .u8 fr).length):=hid (by rw[zq,hfl,<-HW4.out];exact World.there_setCells (zW HR1.out rfl) _ _ _)
 have HB4:Hid (Below G w1 w4):=hid (by rw[<-HW4.out];exact z7 (by have:=HLT.out;omega) _ _ _ _ (HB3.out.mono (by omega)))
 have C1:Hid ((w2.alloc (.cells zr 56)).there w2.heap.size 0 (row .u8 fr).toArray.size):=hid (by rw[HG5.out,HW3.out];exact T1.out)
 have CL:Hid (((w2.alloc (.cells zr 56)).setCells w2.heap.size 0 (row .u8 fr)).rangeAt w2.heap.size 0 (row .u8 fr)):=hid (by rw[HG5.out,HW3.out,HW4.out];exact TL.out)
 have C5:Hid (((w2.alloc (.cells zr 56)).setCells w2.heap.size 0 (row .u8 fr)).there G 0 (row .u8 fr).toArray.size):=hid (by rw[HG5.out,HW3.out,HW4.out];exact T5.out)
 go_wp2_with (first
  | refine wpList_store_mid rfl 56 _ _ rfl w2.heap.size 0 (row .u8 fr).toArray rfl rfl C1.out T2.out T3.out ?_
  | refine wpList_load_mid rfl 56 _ rfl w2.heap.size 0 rfl (row .u8 fr) _ CL.out Tryz.underlying56 rfl hi32 ?_
  | refine wpList_store_mid rfl 56 _ _ rfl G 0 (row .u8 fr).toArray rfl rfl C5.out T2.out T3.out ?_)
 rw[HG5.out,HW3.out,HW4.out]
 refine bodyPost_ret (v:=.agg (row .u8 fr).toArray) (yq Tryz.results118 _ _ G _ _ rfl (World.rangeAt_setCells_same w4 G 0 _ T6.out) Tryz.underlying56 rfl hi32) rfl (HPE.out fr _ HPI.out ?_)
 refine Rd.wide (by rw[HG.out];exact HGL.out) (by rw[HG.out];exact HB0.out) HRD.out ?_
 rw[HG.out]
 exact z7 (Nat.le_refl _) _ _ _ _ HB4.out
end Go.Proofs.YticgindfipobiaaGreatDoor
