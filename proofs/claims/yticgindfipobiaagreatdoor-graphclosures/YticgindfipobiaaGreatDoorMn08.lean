import Derived.Test.YticgindfipobiaaGreatDoorMn07
import Derived.Test.YticgindfipobiaaGreatDoorMn02
import Derived.Laws.RangeAny
import Derived.Laws.Runes
import Derived.WalkMore
import Derived.Lib.SlBytesRow
import Derived.Lib.OthersKept
import Derived.Lib.TrimUEq
import Derived.Lib.SpaceUEq
import Derived.Lib.QuoteLoop
import Derived.Test.YticgindfipobiaaGreatDoorMn04
set_option linter.unusedSimpArgs false
set_option linter.unusedVariables false
set_option maxRecDepth 20000
set_option maxHeartbeats 4000000
namespace Go.Proofs.YticgindfipobiaaGreatDoor
open Go.RowKit
theorem iter_below (w:World) (s:ByteArray) (i:Nat):Below w.heap.size w (w.iter s i):=(Below.refl _ w).alloc (Nat.le_refl _) _
def Asc (s:ByteArray):Prop := ∀ j (h:j<s.size),(s[j]'h).toNat<128
set_option maxHeartbeats 1000000 in
theorem indexRune_err (s:ByteArray) (hs:Asc s) (h8:s.size<=100) (w:World):Calls Tryz.prog 229 #[.string s,.int .i32 65533] w fun e w'=>e=.returned (.int .i64 (-1))/\Below w.heap.size w w':=by
 have HS:Hid (Asc s):=hs
 clear hs
 go_enter Tryz.func229,Tryz.ntmps229
 go_wp2_with fail
 go_loopg [5,6] s.size (fun g _ _ wx=>∃ i:Nat,i+g=s.size/\wx=w.iter s i)
 case atStart=>exact⟨0,by omega,rfl⟩
 case round =>
  obtain⟨i,hig,rfl⟩:=hrel
  cases gk with
  | zero =>
   obtain rfl:i=s.size:=by omega
   have hnx:=fun ty=>run_next_end (P:=Tryz.prog) w s s.size ty (Nat.lt_irrefl _)
   go_wp2
   go_ret
   exact⟨rfl,iter_below _ _ _⟩
  | succ g =>
   have hi:i<s.size:=by omega
   obtain⟨x,hx⟩:∃ x:UInt8,s[i]'hi=x:=⟨_,rfl⟩
   have hx128:x.toNat<128:=by rw[<-hx];exact HS.out i hi
   have hnx:=fun ty=>run_next_ascii (P:=Tryz.prog) w s i ty hi (by rw[hx];exact hx128)
   rw[hx] at hnx
   have hne:¬ (x.toNat:Int)=65533:=by omega
   have hne2:((x.toNat:Int) == 65533)=false:=by simpa using hne
   go_wp2
   go_roundg g
   case measure=>omega
   case rel=>exact⟨i+1,by omega,rfl⟩
theorem enter209 (v1 v2:Value) (w:World):(callFunc 179 #[v1,v2]).run Tryz.prog w=.ok (.enter 179 #[v1,v2]) w:=by kernel_rfl
theorem noByte (l:List UInt8) (c:UInt8) (h:∀ x ∈ l,x.toNat<128) (hc:128<=c.toNat):Lib.indexByte l c = -1:=by
 induction l with
 | nil=>rfl
 | cons b l ih =>
  have hb:=h b (by simp)
  have hbc:(b == c)=false:=beq_eq_false_iff_ne.2 (fun e=>by rw[e] at hb;omega)
  unfold Lib.indexByte
  rw[hbc,ih (fun x hx=>h x (by simp[hx]))]
  rfl
set_option maxRecDepth 1000000 in
set_option maxHeartbeats 1000000 in
theorem indexRune_high (s:ByteArray) (hs:Asc s) (h8:s.size<=100) (r:Nat) (h1:128<=r) (hv:Utf8.valid (r:Int)=true) (hne:r ≠ 65533) (w:World):Calls Tryz.prog 229 #[.string s,.int .i32 r] w fun e w'=>e=.returned (.int .i64 (-1))/\Below w.heap.size w w':=by
 have HS:Hid (Asc s):=hs
 clear hs
 have a1:¬ (r:Int)<128:=by omega
 have a2:¬ (r:Int)=65533:=by omega
 have a3:((r:Int) == 65533)=false:=by simpa using a2
 have hvr:Lib.validRune (r:Int)=true:=by
  unfold Utf8.valid at hv
  unfold Lib.validRune
  simp at hv ⊢
  omega
 obtain⟨e1,e2,e3⟩:=encode_facts (r:Int) hv (by omega)
 obtain⟨S,HS2⟩:∃ S:ByteArray,Utf8.encode (r:Int)=S:=⟨_,rfl⟩
 have hl3:S.size-1<S.size:=by rw[HS2] at e1;omega
 obtain⟨y,hy⟩:∃ y:UInt8,S[S.size-1]'hl3=y:=⟨_,rfl⟩
 have HY:Hid (128<=y.toNat):=hid (by
  rw[<-hy]
  have:=e3 (by rw[HS2];exact hl3)
  subst HS2
  exact this)
 rw[HS2] at e1 e2
 clear e3
 go_enter Tryz.func229,Tryz.ntmps229
 go_wp2_with (go_at_call 238;refine(Any.utf8_ValidRune Tryz.lays119 _ _).mono ?_;rintro ev w' ⟨rfl,rfl⟩;rw[hvr])
 obtain⟨L,HL⟩:=nm_ (S.size-1)
 have hLi:(S.size:Int)-1=(L:Int):=by have:=HL.out;omega
 have hL:1<=L/\L<=3:=by have:=HL.out;omega
 go_step3
 go_wp2_with fail
 go_loopg [9,10] 1 (fun g v u wr=>g=1/\v=.int .i64 L/\u=.int .i64 0/\wr=w')
 case atStart=>exact⟨rfl,rfl,rfl,rfl⟩
 case round =>
  obtain⟨rfl,rfl,rfl,hwr⟩:=hrel
  have hwr':=hwr.symm
  subst hwr'
  by_cases hlt:L<s.size
  ·have hlti:(L:Int)<s.size:=by omega
   obtain⟨x,hx⟩:∃ x:UInt8,s[L]'hlt=x:=⟨_,rfl⟩
   have hx128:x.toNat<128:=by rw[<-hx];exact HS.out L hlt
   have hLS:L<S.size:=by have:=HL.out;omega
   have hyL:S[L]'hLS=y:=by have e:=HL.out;subst e;exact hy
   have hxy:¬ (x.toNat:Int)=(y.toNat:Int):=by have:=HY.out;omega
   have HIB:Hid (∀ (t:ByteArray) (W:World),t=s.extract (L+1) s.size->Calls Tryz.prog 179 #[.string t,.int .u8 (y.toNat:Int)] W fun e w'=>e=.returned (.int .i64 (-1))/\w'=W):=fun t W ht=>by
    refine(Any.strings_IndexByte Tryz.lays137 t (y.toNat:Int) W).mono ?_
    rintro e w'' ⟨rfl,hw''⟩
    refine⟨?_,hw''⟩
    rw[noByte]
    ·intro z hz
     rw[ht] at hz
     have hz':z ∈ s.data.toList:=by
      rw[Lib.extract_data] at hz
      exact List.mem_of_mem_drop (List.mem_of_mem_take hz)
     obtain⟨q,hq,rfl⟩:=List.getElem_of_mem hz'
     exact HS.out q (by rw[Lib.size_eq];exact hq)
    ·have:=HY.out
     simpa using this
   have hxy2:((x.toNat:Int) != (y.toNat:Int))=true:=by simpa using hxy
   obtain⟨T,HT⟩:=nm_ (s.extract (L+1) s.size)
   obtain⟨M,HM⟩:=nm_ (L+1)
   have hwr:IntKind.i64.wrap ((L:Int)+1)=(M:Int):=by
    rw[<-HM.out,show ((L:Int)+1)=((L+1:Nat):Int) by omega]
    exact wrap_i64 (L+1) (by omega)
   have hMi:(M:Int)<=s.size:=by have:=HM.out;omega
   have hME:s.extract M s.size=T:=by rw[<-HM.out];exact HT.out
   have hL3:L<=3:=hL.2
   go_wp2
   go_step3
   go_wp2
   refine wp_region_held_drew (S:=fun _=>True) (by kernel_rfl) trivial (fun hHeld=>?_)
   refine tV (i:=0) hHeld ?_
   try simp only[Act.put,sL]
   refine tV (i:=1) hHeld ?_
   try simp only[Act.put,sL]
   refine tV (i:=2) hHeld ?_
   try simp only[Act.put,sL]
   refine tV (i:=3) hHeld ?_
   try simp only[Act.put,sL]
   refine tV (i:=4) hHeld ?_
   try simp only[Act.put,sL]
   refine tV (i:=5) hHeld ?_
   try simp only[Act.put,sL]
   refine tV (i:=6) hHeld ?_
   try simp only[Act.put,sL]
   refine wpAnyH_done (by kernel_rfl) ?_ _
   go_wp2
   clear hHeld
   refine wp_region_held_drew (S:=fun _=>True) (by kernel_rfl) trivial (fun hHeld=>?_)
   refine tV (i:=0) hHeld ?_
   try simp only[Act.put,sL]
   refine tV (i:=1) hHeld ?_
   try simp only[Act.put,sL]
   refine tV (i:=2) hHeld ?_
   try simp only[Act.put,sL]
   refine tV (i:=3) hHeld ?_
   try simp only[Act.put,sL]
   refine tV (i:=4) hHeld ?_
   try simp only[Act.put,sL]
   refine tV (i:=5) hHeld ?_
   try simp only[Act.put,sL]
   refine tV (i:=6) hHeld ?_
   try simp only[Act.put,sL]
   refine wpAnyH_ready (rs:=[7]) (by kernel_rfl) (by simp) ?_
   refine zu rfl (fun KK hKK=>?_) AllReadyH.nil
   refine zk (by rfl) 179 [.tmp 37,.tmp 40] _ [.string T,.int .u8 (y.toNat:Int)] _ (by rfl) (by rfl) (enter209 _ _) (HIB.out _ _ HT.out.symm) ?_
   rintro e w1 ⟨rfl,rfl⟩
   refine⟨_,rfl,?_⟩
   refine hKK.out _ _ hHeld (fun hHeld2=>?_)
   clear hKK KK
   try simp only[Act.put,sL]
   refine tV (i:=8) hHeld ?_
   try simp only[Act.put,sL]
   refine wpAnyH_done (by kernel_rfl) ?_ _
   go_wp2
   simp only[Exit.inBlock,Exit.then,Exit.noGoto_ret]
   go_ret
   exact⟨rfl,⟨rfl,rfl,rfl,Nat.le_refl _,fun _ _=>rfl⟩⟩
  ·have hlti:¬ (L:Int)<s.size:=by omega
   go_wp2
   go_ret
   exact⟨rfl,Below.refl _ _⟩
theorem byte_getD (s:ByteArray) (q:Nat) (h:q<s.size):s.data.toList.getD q 0=s[q]'h:=by
 rw[List.getD_eq_getElem?_getD,Lib.data_getElem? s q h]
 rfl
theorem high_step (s:ByteArray) (pos:Nat) (h:pos<s.size) (ha:128<=(s[pos]'h).toNat) :
  128<=(Utf8.decode s pos).1/\Utf8.valid ((Utf8.decode s pos).1:Int)=true/\1<=(Utf8.decode s pos).2/\pos+(Utf8.decode s pos).2<=s.size/\∀ q,pos<=q->q<pos+(Utf8.decode s pos).2->128<=(s.data.toList.getD q 0).toNat:=by
 obtain⟨h1,h2⟩:=decode_high s pos h ha
 have hN:=Lib.decode_N s pos
 have hsz:=Lib.size_eq s
 have hb0:128<=(s.data.toList.getD pos 0).toNat:=by rw[byte_getD s pos h];exact ha
 have hv:=Lib.decodeN_valid (s.data.toList.length-pos) (s.data.toList.getD pos 0).toNat (s.data.toList.getD (pos+1) 0).toNat (s.data.toList.getD (pos+2) 0).toNat (s.data.toList.getD (pos+3) 0).toNat (UInt8.toNat_lt _)
 have hw:=Lib.decodeN_width_le (s.data.toList.length-pos) (s.data.toList.getD pos 0).toNat (s.data.toList.getD (pos+1) 0).toNat (s.data.toList.getD (pos+2) 0).toNat (s.data.toList.getD (pos+3) 0).toNat (by omega)
 have hc:=Lib.decodeN_conts (s.data.toList.length-pos) (s.data.toList.getD pos 0).toNat (s.data.toList.getD (pos+1) 0).toNat (s.data.toList.getD (pos+2) 0).toNat (s.data.toList.getD (pos+3) 0).toNat
 rw[<-hN] at hv hw hc
 obtain⟨c1,c2,c3,c4⟩:=hc
 refine⟨h1,?_,h2,by omega,fun q hq1 hq2=>?_⟩
 ·unfold Utf8.valid
  simp
  omega
 ·have e:q=pos ∨ q=pos+1 ∨ q=pos+2 ∨ q=pos+3:=by omega
  rcases e with rfl | rfl | rfl | rfl
  ·exact hb0
  ·have:=c1 (by omega);omega
  ·have:=c2 (by omega);omega
  ·have:=c3 (by omega);omega
def No (s ch:ByteArray) (i:Nat):Prop := ∀ q,q<i->s.data.toList.getD q 0 ∉ ch.data.toList
theorem Asc.mem {ch:ByteArray} (h:Asc ch) {x:UInt8} (hx:x ∈ ch.data.toList):x.toNat<128:=by
 obtain⟨q,hq,rfl⟩:=List.getElem_of_mem hx
 exact h q (by rw[Lib.size_eq];exact hq)
theorem V5 {B:Nat} {w0 w:World} {k:Nat} {s:ByteArray} {p:Nat} (h:Below B w0 w) (hk:B<=k):Below B w0 (w.iterAt k s p) :=
 ⟨h.os,h.tape,h.output,by simp[World.iterAt];exact h.size,fun j hj=>by
  show (w.heap.setIfInBounds k _)[j]? = _
  rw[Array.getElem?_setIfInBounds_ne (by omega)]
  exact h.block j hj⟩
theorem indexByte_low (l:List UInt8) (c:UInt8) : -1<=Lib.indexByte l c:=by
 induction l with
 | nil=>simp[Lib.indexByte]
 | cons b l ih =>
  unfold Lib.indexByte
  split
  ·decide
  ·split
   ·exact Int.le_refl _
   ·omega
theorem indexByte_mem (l:List UInt8) (c:UInt8):(0<=Lib.indexByte l c) ↔ c ∈ l:=by
 induction l with
 | nil=>simp[Lib.indexByte]
 | cons b l ih =>
  unfold Lib.indexByte
  by_cases hb:b=c
  ·subst hb;simp
  ·have hbc:(b == c)=false:=beq_eq_false_iff_ne.2 hb
   rw[hbc]
   simp only[Bool.false_eq_true,if_false,List.mem_cons,Ne.symm hb,false_or]
   rw[<-ih]
   by_cases h1:Lib.indexByte l c = -1
   ·simp[h1]
   ·have h2:(Lib.indexByte l c == -1)=false:=beq_eq_false_iff_ne.2 h1
    rw[h2]
    simp only[Bool.false_eq_true,if_false]
    have:=indexByte_low l c
    omega
def kK (s ch:ByteArray):Prop := ∃ x ∈ s.data.toList,x ∈ ch.data.toList
theorem no_all {s ch:ByteArray} (h:No s ch s.size):¬ kK s ch:=by
 rintro⟨x,hx,hc⟩
 obtain⟨q,hq,rfl⟩:=List.getElem_of_mem hx
 refine h q (by rw[Lib.size_eq];exact hq) ?_
 rw[List.getD_eq_getElem?_getD,List.getElem?_eq_getElem hq]
 exact hc
set_option maxHeartbeats 1000000 in
theorem indexAny_short (s ch:ByteArray) (h2:2<=ch.size) (h100:ch.size<=100) (hch:Asc ch) (h8:s.size<=8) (w:World) :
  Calls Tryz.prog 202 #[.string s,.string ch] w fun e w'=>(∃ i:Int,e=.returned (.int .i64 i)/\(0<=i ↔ kK s ch))/\Below w.heap.size w w':=by
 have HCH:Hid (Asc ch):=hch
 clear hch
 have hemp:ch.toList.isEmpty=false:=by
  rw[Lib.toList_data]
  cases h:ch.data.toList with
  | nil=>have:=Lib.size_eq ch;rw[h,List.length_nil] at this;omega
  | cons _ _=>rfl
 have hn1:((ch.size:Int) == 1)=false:=beq_eq_false_iff_ne.2 (by omega)
 have hn1':¬ (ch.size:Int)=1:=by omega
 have h8i:¬ (8:Int)<(s.size:Int):=by omega
 obtain⟨G,HG⟩:=nm_ w.heap.size
 go_enter Tryz.func202,Tryz.ntmps202
 go_wp2
 rw[HG.out]
 have hit0:(w.iter s 0).heap[G]? = some (.stringIter s 0):=by rw[<-HG.out];exact World.iter_heap w s 0
 have HB0:Hid (Below G w (w.iter s 0)):=hid (by rw[<-HG.out];exact iter_below w s 0)
 go_loopg [9,10] s.size (fun g _ _ wx=>∃ i:Nat,i<=s.size/\g=s.size-i/\wx.heap[G]? = some (.stringIter s i)/\Hid (Below G w wx)/\Hid (No s ch i))
 case atStart=>exact⟨0,Nat.zero_le _,rfl,hit0,HB0,fun q hq=>by omega⟩
 case round =>
  obtain⟨i,hi,hg,hit,HB,HNo⟩:=hrel
  clear hit0
  have hGs:G<wr.heap.size:=by
   rcases Nat.lt_or_ge G wr.heap.size with h | h
   ·exact h
   ·rw[Array.getElem?_eq_none h] at hit;cases hit
  by_cases hlt:i<s.size
  ·obtain⟨x,hx⟩:∃ x:UInt8,s[i]'hlt=x:=⟨_,rfl⟩
   have hxg:s.data.toList.getD i 0=x:=by rw[byte_getD s i hlt,hx]
   by_cases hx128:x.toNat<128
   ·have hnx:=fun ty=>Lib.run_next_ascii_at (P:=Tryz.prog) wr G s i ty hit hlt (by rw[hx];exact hx128)
    rw[hx] at hnx
    obtain⟨w1,HW1⟩:=nm_ (wr.iterAt G s (i+1))
    have hit1:w1.heap[G]? = some (.stringIter s (i+1)):=by rw[<-HW1.out];exact Lib.iterAt_heap wr G s i (i+1) hit
    have HB1:Hid (Below G w w1):=hid (by rw[<-HW1.out];exact V5 HB.out (Nat.le_refl _))
    rw[HW1.out] at hnx
    have hback:((x.toNat:Int)).toNat.toUInt8=x:=by simp
    have HIR:Hid (∀ W,Calls Tryz.prog 229 #[.string ch,.int .i32 (x.toNat:Int)] W fun e w'=>e=.returned (.int .i64 (Lib.indexByte ch.data.toList x))/\w'=W):=fun W=>by
     have:=Any.strings_IndexRune_ascii Tryz.lays152 ch (x.toNat:Int) W (by omega) (by omega)
     rw[hback] at this
     exact this
    obtain⟨j,HJ⟩:=nm_ (Lib.indexByte ch.data.toList x)
    rw[HJ.out] at HIR
    have hmem:Hid (0<=j ↔ x ∈ ch.data.toList):=hid (by rw[<-HJ.out];exact indexByte_mem _ _)
    clear hit hx
    by_cases hj:0<=j
    ·go_wp2_with (go_at_call 229;refine(HIR.out _).mono ?_;rintro ev w' ⟨rfl,rfl⟩)
     go_ret
     refine⟨⟨(i:Int),rfl,⟨fun _=>⟨x,?_,hmem.out.1 hj⟩,fun _=>by omega⟩⟩,by rw[HG.out];exact HB1.out⟩
     rw[<-hxg,List.getD_eq_getElem?_getD,List.getElem?_eq_getElem (by rw[<-Lib.size_eq];exact hlt)]
     exact List.getElem_mem _
    ·have HNo1:Hid (No s ch (i+1)):=fun q hq=>by
      rcases Nat.lt_or_ge q i with h | h
      ·exact HNo.out q h
      ·obtain rfl:q=i:=by omega
       rw[hxg]
       exact fun hm=>hj (hmem.out.2 hm)
     go_wp2_with (go_at_call 229;refine(HIR.out _).mono ?_;rintro ev w' ⟨rfl,rfl⟩)
     go_roundg (s.size-(i+1))
     case measure=>omega
     case rel=>exact⟨i+1,by omega,rfl,hit1,HB1,HNo1⟩
   ·obtain⟨e1,e2,e3,e4,e5⟩:=high_step s i hlt (by rw[hx];omega)
    have hnx:=fun ty=>Lib.run_next_any_at (P:=Tryz.prog) wr G s i ty hit hlt
    obtain⟨rn,HRN⟩:=nm_ ((Utf8.decode s i).1)
    obtain⟨wd,HWD⟩:=nm_ ((Utf8.decode s i).2)
    rw[HRN.out] at e1 e2
    rw[HWD.out] at e3 e4 e5
    rw[HRN.out,HWD.out] at hnx
    obtain⟨w1,HW1⟩:=nm_ (wr.iterAt G s (i+wd))
    have hit1:w1.heap[G]? = some (.stringIter s (i+wd)):=by rw[<-HW1.out];exact Lib.iterAt_heap wr G s i (i+wd) hit
    have HB1:Hid (Below G w w1):=hid (by rw[<-HW1.out];exact V5 HB.out (Nat.le_refl _))
    rw[HW1.out] at hnx
    have HIR:Hid (∀ W,Calls Tryz.prog 229 #[.string ch,.int .i32 (rn:Int)] W fun e w'=>e=.returned (.int .i64 (-1))/\Below W.heap.size W w'):=fun W=>by
     by_cases h65:rn=65533
     ·rw[h65];exact indexRune_err ch HCH.out h100 W
     ·exact indexRune_high ch HCH.out h100 rn e1 e2 h65 W
    have HNo1:Hid (No s ch (i+wd)):=fun q hq=>by
     rcases Nat.lt_or_ge q i with h | h
     ·exact HNo.out q h
     ·intro hm
      have:=HCH.out.mem hm
      have:=e5 q h hq
      omega
    have hG1:G<w1.heap.size:=by
     rcases Nat.lt_or_ge G w1.heap.size with h | h
     ·exact h
     ·rw[Array.getElem?_eq_none h] at hit1;cases hit1
    clear hit hx hxg e5 e2
    go_wp2_with (go_at_call 229;refine(HIR.out _).mono ?_;rintro ev w2 ⟨rfl,hb2⟩)
    have hit2:w2.heap[G]? = some (.stringIter s (i+wd)):=(hb2.block G hG1).trans hit1
    have HB2:Hid (Below G w w2):=HB1.out.trans (hb2.mono (Nat.le_of_lt hG1))
    go_roundg (s.size-(i+wd))
    case measure=>omega
    case rel=>exact⟨i+wd,e4,rfl,hit2,HB2,HNo1⟩
  ·have hnx:=fun ty=>Lib.run_next_end_at (P:=Tryz.prog) wr G s i ty hit hlt
   obtain rfl:i=s.size:=by omega
   go_wp2
   go_ret
   exact⟨⟨-1,rfl,⟨fun h=>absurd h (by decide),fun h=>absurd h (no_all HNo.out)⟩⟩,by rw[HG.out];exact HB.out⟩
theorem info258:(Tryz.prog.info? 304).map (fun i=>(i.zero,i.size))=some (some (.agg (Array.replicate 256 (.bool false))),256):=by kernel_rfl
theorem indexAny_iff (s ch:List UInt8):0<=Lib.indexAny s ch ↔ ∃ x ∈ s,x ∈ ch:=by
 induction s with
 | nil=>simp[Lib.indexAny]
 | cons b l ih =>
  unfold Lib.indexAny
  by_cases hb:b ∈ ch
  ·rw[if_pos (by simpa using hb)]
   simp[hb]
  ·rw[if_neg (by simpa using hb)]
   have hge:=Lib.indexAny_ge ch l
   simp only[List.mem_cons,exists_eq_or_imp,hb,false_or]
   rw[<-ih]
   by_cases h1:Lib.indexAny l ch = -1
   ·simp[h1]
   ·have h2:(Lib.indexAny l ch == -1)=false:=beq_eq_false_iff_ne.2 h1
    rw[h2]
    simp only[Bool.false_eq_true,if_false]
    omega
theorem indexAny_any (s ch:ByteArray) (h2:2<=ch.size) (h100:ch.size<=100) (hch:Asc ch) (hs:s.size<=1000000) (w:World) :
  Calls Tryz.prog 202 #[.string s,.string ch] w fun e w'=>(∃ i:Int,e=.returned (.int .i64 i)/\(0<=i ↔ kK s ch))/\Below w.heap.size w w':=by
 by_cases h8:s.size<=8
 ·exact indexAny_short s ch h2 h100 hch h8 w
 ·refine(Any.strings_IndexAny_long Tryz.lays153 (zero_of_info info258).1 (zero_of_info info258).2 s ch w h2 (by omega) (by omega) (by omega) (fun j b hb=>hch.mem (List.mem_of_getElem? hb))).mono ?_
  rintro e w' ⟨rfl,rfl⟩
  exact⟨⟨_,rfl,indexAny_iff _ _⟩,((Below.refl _ w).alloc (Nat.le_refl _) _).alloc (by simp) _⟩
open Classical in
theorem Qk (s ch:ByteArray) (h2:2<=ch.size) (h100:ch.size<=100) (hch:Asc ch) (hs:s.size<=1000000) (w:World) :
  Calls Tryz.prog 175 #[.string s,.string ch] w fun e w'=>(∃ b:Bool,e=.returned (.bool b)/\(b=true ↔ kK s ch))/\Below w.heap.size w w':=by
 have HI:Hid (Calls Tryz.prog 202 #[.string s,.string ch] w fun e w'=>(∃ i:Int,e=.returned (.int .i64 i)/\(0<=i ↔ kK s ch))/\Below w.heap.size w w'):=indexAny_any s ch h2 h100 hch hs w
 go_enter Tryz.func175,Tryz.ntmps175
 go_wp2_with fail
 refine HI.out.mono ?_
 rintro ev w1 ⟨⟨i,rfl,hi⟩,hb⟩
 have HII:Hid _:=hi
 clear hi
 go_wp2
 go_ret
 exact⟨⟨_,rfl,by rw[<-HII.out];simp⟩,hb⟩
def two (n:Nat):List UInt8:=[UInt8.ofNat (48+n / 10),UInt8.ofNat (48+n % 10)]
theorem itoa_small (i:Nat) (hi:i<10) (w:World):Calls Tryz.prog 74 #[.int .i64 i] w fun e w'=>e=.returned (.string ⟨[UInt8.ofNat (48+i)].toArray⟩)/\w'=w:=by
 refine(Any.strconv_Itoa_small Tryz.lays171 i (by omega) w).mono ?_
 rintro e w' ⟨rfl,rfl⟩
 rw[Lib.decDigits_one hi]
 exact⟨rfl,rfl⟩
theorem two_any (n:Nat) (hn:n<100) (w:World):Calls Tryz.prog 185 #[.int .i64 n] w fun e w'=>e=.returned (.string ⟨(two n).toArray⟩)/\w'=w:=by
 obtain⟨a,HA⟩:=nm_ (n / 10)
 obtain⟨b,HB⟩:=nm_ (n % 10)
 have ha:((n:Int)).tdiv 10=(a:Int):=by rw[Int.tdiv_eq_ediv_of_nonneg (by omega),<-HA.out];omega
 have hb:((n:Int)).tmod 10=(b:Int):=by rw[Int.tmod_eq_emod_of_nonneg (by omega),<-HB.out];omega
 have ha2:(n:Int) / 10=(a:Int):=by rw[<-HA.out];omega
 have hb2:(n:Int) % 10=(b:Int):=by rw[<-HB.out];omega
 have ha9:a<10:=by rw[<-HA.out];omega
 have hb9:b<10:=by rw[<-HB.out];omega
 have HE:Hid ((⟨[UInt8.ofNat (48+a)].toArray⟩:ByteArray) ++ ⟨[UInt8.ofNat (48+b)].toArray⟩=⟨(two n).toArray⟩):=hid (by rw[yw];unfold two;rw[HA.out,HB.out];rfl)
 obtain⟨S,HS⟩:=nn_ (⟨[UInt8.ofNat (48+a)].toArray⟩:ByteArray)
 obtain⟨T,HT⟩:=nn_ (⟨[UInt8.ofNat (48+b)].toArray⟩:ByteArray)
 have hS:S.size=1:=by rw[HS.out];rfl
 have hT:T.size=1:=by rw[HT.out];rfl
 have HI:Hid (∀ w,Calls Tryz.prog 74 #[.int .i64 a] w fun e w'=>e=.returned (.string S)/\w'=w):=fun w=>by rw[HS.out];exact itoa_small a ha9 w
 have HJ:Hid (∀ w,Calls Tryz.prog 74 #[.int .i64 b] w fun e w'=>e=.returned (.string T)/\w'=w):=fun w=>by rw[HT.out];exact itoa_small b hb9 w
 rw[<-HS.out,<-HT.out] at HE
 go_enter Tryz.func185,Tryz.ntmps185
 go_wp2_with fail
 refine(HI.out _).mono ?_
 rintro ev w' ⟨rfl,rfl⟩
 go_wp2_with fail
 refine(HJ.out _).mono ?_
 rintro ev w' ⟨rfl,rfl⟩
 go_wp2
 go_ret
 exact⟨(show _=Ending.returned (.string (S++T)) from rfl).trans (by rw[HE.out]),rfl⟩
def vQ (z:Int):List UInt8:=(if z<0 then 45 else 43) :: (two (z.natAbs / 60)++two (z.natAbs % 60))
theorem zoneText_any (z:Int) (h1 : -840<=z) (h2:z<=840) (w:World):Calls Tryz.prog 163 #[.int .i64 z] w fun e w'=>e=.returned (.string ⟨(vQ z).toArray⟩)/\w'=w:=by
 obtain⟨n,HN⟩:=nm_ z.natAbs
 have hn:n<=840:=by rw[<-HN.out];omega
 obtain⟨a,HA⟩:=nm_ (n / 60)
 obtain⟨b,HB⟩:=nm_ (n % 60)
 have ha:((n:Int)).tdiv 60=(a:Int):=by rw[Int.tdiv_eq_ediv_of_nonneg (by omega),<-HA.out];omega
 have hb:((n:Int)).tmod 60=(b:Int):=by rw[Int.tmod_eq_emod_of_nonneg (by omega),<-HB.out];omega
 have ha2:(n:Int) / 60=(a:Int):=by rw[<-HA.out];omega
 have hb2:(n:Int) % 60=(b:Int):=by rw[<-HB.out];omega
 have ha9:a<100:=by rw[<-HA.out];omega
 have hb9:b<100:=by rw[<-HB.out];omega
 obtain⟨S,HS⟩:=nn_ (⟨(two a).toArray⟩:ByteArray)
 obtain⟨T,HT⟩:=nn_ (⟨(two b).toArray⟩:ByteArray)
 have hS:S.size=2:=by rw[HS.out];rfl
 have hT:T.size=2:=by rw[HT.out];rfl
 have HI:Hid (∀ w,Calls Tryz.prog 185 #[.int .i64 a] w fun e w'=>e=.returned (.string S)/\w'=w):=fun w=>by rw[HS.out];exact two_any a ha9 w
 have HJ:Hid (∀ w,Calls Tryz.prog 185 #[.int .i64 b] w fun e w'=>e=.returned (.string T)/\w'=w):=fun w=>by rw[HT.out];exact two_any b hb9 w
 by_cases hz:z<0
 ·obtain rfl:z = -(n:Int):=by rw[<-HN.out];omega
  have HE:Hid ((⟨#[45]⟩:ByteArray)++S++T=⟨(vQ (-(n:Int))).toArray⟩):=hid (by
   rw[HS.out,HT.out,show (⟨#[45]⟩:ByteArray)=⟨[45].toArray⟩ from rfl,yw,yw]
   unfold vQ
   rw[if_pos hz,HN.out,HA.out,HB.out]
   rfl)
  have hP:((⟨#[45]⟩:ByteArray)++S).size=3:=by rw[ByteArray.size_append,hS];rfl
  have h45:(⟨#[45]⟩:ByteArray).size=1:=rfl
  go_enter Tryz.func163,Tryz.ntmps163
  go_wp2_with fail
  refine(HI.out _).mono ?_
  rintro ev w' ⟨rfl,rfl⟩
  go_wp2_with fail
  refine(HJ.out _).mono ?_
  rintro ev w' ⟨rfl,rfl⟩
  go_wp2
  go_ret
  exact⟨(show _=Ending.returned (.string (⟨#[45]⟩ ++ S++T)) from rfl).trans (by rw[HE.out]),rfl⟩
 ·obtain rfl:z=(n:Int):=by rw[<-HN.out];omega
  have HE:Hid ((⟨#[43]⟩:ByteArray)++S++T=⟨(vQ (n:Int)).toArray⟩):=hid (by
   rw[HS.out,HT.out,show (⟨#[43]⟩:ByteArray)=⟨[43].toArray⟩ from rfl,yw,yw]
   unfold vQ
   rw[if_neg hz,HN.out,HA.out,HB.out]
   rfl)
  have hP:((⟨#[43]⟩:ByteArray)++S).size=3:=by rw[ByteArray.size_append,hS];rfl
  have h43:(⟨#[43]⟩:ByteArray).size=1:=rfl
  go_enter Tryz.func163,Tryz.ntmps163
  go_wp2_with fail
  refine(HI.out _).mono ?_
  rintro ev w' ⟨rfl,rfl⟩
  go_wp2_with fail
  refine(HJ.out _).mono ?_
  rintro ev w' ⟨rfl,rfl⟩
  go_wp2
  go_ret
  exact⟨(show _=Ending.returned (.string (⟨#[43]⟩ ++ S++T)) from rfl).trans (by rw[HE.out]),rfl⟩
theorem fmt_any (n:Nat) (hn:n<=1099511627776) (w:World) (ht:Tab w):Calls Tryz.prog 155 #[.int .i64 n,.int .i64 10] w fun e w'=>e=.returned (.string ⟨(Lib.decDigits n).toArray⟩)/\Below w.heap.size w w':=by
 refine(Any.strconv_FormatInt_10 Tryz.laysM173 n (by omega) (by omega) w ht).mono ?_
 rintro e w' ⟨rfl,k,os,rfl⟩
 refine⟨?_,rfl,rfl,rfl,by simp[Sort.grow],fun j hj=>?_⟩
 ·rw[Lib.itoa_nonneg]
 ·show (w.heap++os)[j]? = _
  rw[Array.getElem?_append_left hj]
theorem indexByte_ge (l:List UInt8) (c:UInt8) : -1<=Lib.indexByte l c:=by
 induction l with
 | nil=>simp[Lib.indexByte]
 | cons b l ih =>
  unfold Lib.indexByte
  split
  ·decide
  ·split
   ·exact Int.le_refl _
   ·omega
def uz (s:List UInt8):Bool:=decide (s.length<=2000) && decide ((0:UInt8) ∉ s)
theorem indexByte_none (l:List UInt8) (c:UInt8):(0<=Lib.indexByte l c) ↔ c ∈ l:=by
 induction l with
 | nil=>simp[Lib.indexByte]
 | cons b l ih =>
  unfold Lib.indexByte
  by_cases hb:b=c
  ·subst hb;simp
  ·have hbc:(b == c)=false:=beq_eq_false_iff_ne.2 hb
   rw[hbc]
   simp only[Bool.false_eq_true,if_false,List.mem_cons,Ne.symm hb,false_or]
   rw[<-ih]
   by_cases h1:Lib.indexByte l c = -1
   ·simp[h1]
   ·have h2:(Lib.indexByte l c == -1)=false:=beq_eq_false_iff_ne.2 h1
    rw[h2]
    simp only[Bool.false_eq_true,if_false]
    have:=indexByte_ge l c
    omega
theorem X0 (s:List UInt8) (w:World) (hs:s.length<=1000000):Calls Tryz.prog 162 #[.string ⟨s.toArray⟩] w fun e w'=>e=.returned (.bool (uz s))/\w'=w:=by
 obtain⟨S,HS⟩:=nn_ (⟨s.toArray⟩:ByteArray)
 have hsz:S.size=s.length:=by rw[HS.out];simp[ByteArray.size]
 obtain⟨c,HC⟩:=nn_ (decide (0<=Lib.indexByte s 0))
 have HCo:Hid (∀ w,Calls Tryz.prog 184 #[.string S,.string ⟨#[0]⟩] w fun e w'=>e=.returned (.bool c)/\w'=w):=fun w=>by
  rw[HS.out,HC.out]
  exact Any.strings_Contains_one Tryz.lays144 ⟨s.toArray⟩ 0 w
 have HM:Hid (uz s=(decide (s.length<=2000) && !c)):=hid (by
  unfold uz
  rw[HC.out]
  congr 1
  rw[<-decide_not]
  exact decide_eq_decide.2 (by rw[indexByte_none]))
 obtain⟨n,HN⟩:=nm_ s.length
 rw[HN.out] at hsz HM
 rw[<-HS.out,HM.out]
 by_cases h:n<=2000
 ·have hi:(S.size:Int)<=2000:=by omega
  go_enter Tryz.func162,Tryz.ntmps162
  go_wp2_with (go_at_call 184;refine(HCo.out _).mono ?_;rintro ev w' ⟨rfl,rfl⟩)
  go_ret
  refine⟨?_,rfl⟩
  rw[decide_eq_true h]
  rfl
 ·have hi:¬ (S.size:Int)<=2000:=by omega
  go_enter Tryz.func162,Tryz.ntmps162
  go_wp2
  go_ret
  exact⟨rfl,rfl⟩
end Go.Proofs.YticgindfipobiaaGreatDoor
