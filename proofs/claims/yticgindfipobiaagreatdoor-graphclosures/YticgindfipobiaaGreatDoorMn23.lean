import Derived.Test.YticgindfipobiaaGreatDoorMn17
import Derived.Test.YticgindfipobiaaGreatDoorMn20
import Derived.Test.YticgindfipobiaaGreatDoorMn22
import Derived.Test.YticgindfipobiaaGreatDoorMn07
set_option linter.unusedSimpArgs false
set_option linter.unusedVariables false
set_option maxRecDepth 20000
set_option maxHeartbeats 4000000
namespace Go.Proofs.YticgindfipobiaaGreatDoor
open Go.RowKit
theorem k9 {P:Program} (d:Nat) (e:TypeId) (he:P.plainKey e=true) (hu:P.underlying e=some (.int .u8)) (xs ys:List Int):∀ (is:List Nat) (w:World),(∀ j ∈ is,j<xs.length/\j<ys.length)->(Op.eqItems (d+1) e 1 (row .u8 xs).toArray (row .u8 ys).toArray is).run P w=.ok (is.all fun j=>xs.getD j 0 == ys.getD j 0) w
 | [],w,_=>by simp[Op.eqItems]
 | j :: is,w,h=>by
  have hj:=h j (by simp)
  have hp:(part e (row .u8 xs).toArray j).run P w=.ok (.int .u8 (xs.getD j 0)) w:=run_part_plain w he (by simpa using vq .u8 xs j hj.1)
  have hq:(part e (row .u8 ys).toArray j).run P w=.ok (.int .u8 (ys.getD j 0)) w:=run_part_plain w he (by simpa using vq .u8 ys j hj.2)
  have ih:=k9 d e he hu xs ys is w (fun k hk=>h k (by simp[hk]))
  simp only[Op.eqItems,Sem.run_bind,Nat.mul_one,hp,hq,Result.andThen_ok]
  by_cases hxy:xs.getD j 0=ys.getD j 0
  ·have h2:xs[j]?.getD 0=ys[j]?.getD 0:=by simpa using hxy
   simp[go_sem,hu,ih,h2]
  ·have h2:¬ xs[j]?.getD 0=ys[j]?.getD 0:=by simpa using hxy
   simp[go_sem,hu,ih,h2]
theorem eq31 (x y:List Int) (hx:x.length=20) (hy:y.length=20) (w:World):(Op.equalIn 10000 31 (.agg (row .u8 x).toArray) (.agg (row .u8 y).toArray)).run Tryz.prog w=.ok (decide (x=y)) w:=by
 obtain⟨i5,hi,-⟩:=zQ Tryz.info5
 have h1:=k9 (P:=Tryz.prog) 9998 5 plain5 Tryz.underlying5 x y (List.range 20) w (fun j hj=>by rw[hx,hy];exact⟨List.mem_range.1 hj,List.mem_range.1 hj⟩)
 have hall:((List.range 20).all fun j=>x.getD j 0 == y.getD j 0)=decide (x=y):=by
  by_cases h:x=y
  ·subst h
   simp
  ·rw[decide_eq_false h,Bool.eq_false_iff]
   intro hall
   refine h (List.ext_getElem (by rw[hx,hy]) (fun j h1 h2=>?_))
   have:=List.all_eq_true.1 hall j (List.mem_range.2 (by omega))
   simpa [h1,h2] using this
 rw[hall] at h1
 rw[show (10000:Nat)=9999+1 from rfl,run_equalIn_array w 9999 _ _ Tryz.underlying31 hi,cells5]
 exact h1
def PostCR (c:Cm) (w:World) (e:Ending) (w':World):Prop:=Below w.heap.size w w'/\
 ((okC c/\∃ g cap:Nat,e=.returned (.tuple #[.slice (some ⟨g,0,none⟩) (cmB c).length cap,.int .i64 0])/\w.heap.size<=g/\Mk w' g cap (q8 (cmB c))) ∨ (¬ okC c/\e=.returned (.tuple #[.slice none 0 0,.int .i64 22])))
def Xz (c:Cm) (i:Nat):List UInt8:=ln2 jV.data.toList (xw c.tree)++(c.ids.take i).flatMap (fun x=>ln2 yY.data.toList (xw x))
theorem headB_snoc (c:Cm) (i:Nat) (h:i<c.ids.length):Xz c (i+1)=Xz c i++ln2 yY.data.toList (xw (c.ids.getD i [])):=by
 simp only[Xz]
 rw[uQ c.ids i h]
 simp
theorem headB_len (c:Cm) (hf:WfC c) (i:Nat):(Xz c i).length<=46+48*i:=by
 have h1:=flat_len (c.ids.take i) (fun x hx=>hf.2 x (List.mem_of_mem_take hx))
 have e1:(ln2 jV.data.toList (xw c.tree)).length=46:=by
  simp only[ln2,List.length_append,List.length_cons,List.length_nil,uq,hf.1.1]
  rfl
 simp only[Xz,List.length_append,e1,h1,List.length_take]
 omega
structure QS (G b off n cap i k:Nat) (Rk Ri:List Value) (W:World):Prop where
 c20:W.cell? ⟨G,20,none⟩=some (.slice (some ⟨b,off,none⟩) n cap)
 rk:W.rangeAt b (off+k*20) Rk
 ri:W.rangeAt b (off+i*20) Ri
set_option maxHeartbeats 8000000 in
theorem writeCommitR_any (c:Cm) (hf:WfC c) (a:Option Addr) (cap:Nat) (w:World) (hP:Pa w a cap c.ids) :
  Calls Tryz.prog 71 #[.agg (cmV c a cap).toArray] w (PostCR c w):=by
 obtain⟨TV,HTV⟩:=nm_ (cmV c a cap)
 have HVL:Hid (TV.length=30):=hid (by rw[<-HTV.out];exact qu c a cap hf.1.1)
 obtain⟨n,HN⟩:=nm_ c.ids.length
 obtain⟨M,HMM⟩:=nm_ (⟨c.msg.toArray⟩:ByteArray)
 obtain⟨ms,HMSB⟩:=nm_ (uz c.msg)
 obtain⟨PA,HPA⟩:=nm_ ((qK c.au).toList)
 obtain⟨PC,HPC⟩:=nm_ ((qK c.co).toList)
 have hiA:(Tryz.prog.info? 119).map (·.size)=some PA.length:=by rw[<-HPA.out];exact Tryz.size119
 have hiC:(Tryz.prog.info? 119).map (·.size)=some PC.length:=by rw[<-HPC.out];exact Tryz.size119
 obtain⟨RT,HRT⟩:=nm_ (row .u8 c.tree)
 have hi31t:(Tryz.prog.info? 31).map (·.size)=some RT.length:=by rw[<-HRT.out,zq,hf.1.1];exact Tryz.size31
 obtain⟨PT,HPT⟩:=nm_ (⟨(qq c.au).toArray⟩:ByteArray)
 obtain⟨QT,HQT⟩:=nm_ (⟨(qq c.co).toArray⟩:ByteArray)
 obtain⟨G,HG⟩:=nm_ w.heap.size
 obtain⟨w0,HW0⟩:=nm_ (w.alloc (.cells TV.toArray 121))
 have HB0:Hid (Below G w w0):=hid (by rw[<-HW0.out,<-HG.out];exact(Below.refl _ w).alloc (Nat.le_refl _) _)
 have BG0:Hid (Bk G TV 121 w0):=⟨by rw[<-HW0.out,<-HG.out];exact heap_alloc_new w _⟩
 have HC:Hid (∀ W,Bk G TV 121 W->BoxC G c a cap W):=fun W hW=>hW.cells HTV.out hf.1.1
 have HPP:Hid (∀ W,Below G w W->Pa W a cap c.ids):=fun W hW=>hP.below (by rw[HG.out];exact hW)
 have HPL:Hid (0<n->∃ b off,a=some ⟨b,off,none⟩/\b<G):=fun h0=>by
  obtain⟨b,off,e1,e2,_⟩:=hP.at_ (by rw[HN.out];exact h0)
  exact⟨b,off,e1,by rw[<-HG.out];exact e2⟩
 have CA:Hid (∀ W,Calls Tryz.prog 101 #[.agg PA.toArray] W (PostX c.au W)):=fun W=>by rw[<-HPA.out];exact Y4 c.au W
 have CC:Hid (∀ W,Calls Tryz.prog 101 #[.agg PC.toArray] W (PostX c.co W)):=fun W=>by rw[<-HPC.out];exact Y4 c.co W
 have CM:Hid (∀ W,Calls Tryz.prog 102 #[.string M] W fun e w'=>e=.returned (.bool ms)/\w'=W):=fun W=>by rw[<-HMM.out,<-HMSB.out];exact message_any c.msg W
 obtain⟨HT,HHT⟩:=nm_ (strOfNums (Hx.hexOf c.tree))
 have CHT:Hid (∀ W,Calls Tryz.prog 103 #[.agg RT.toArray] W fun e w'=>e=.returned (.string HT)/\Below W.heap.size W w'):=fun W=>by
  rw[<-HRT.out,<-HHT.out];exact Hx.hex_ref c.tree W hf.1.1 hf.1.2
 have HHTS:Hid (HT.size=40):=hid (by rw[<-HHT.out,strOfNums_size,Hx.hexOf_len,hf.1.1])
 have HWC:Hid (WfC c):=hf
 have BAD:Hid (¬ okC c->∀ W,Below G w W->PostCR c w (.returned (.tuple #[.slice none 0 0,.int .i64 22])) W):=fun h W hW=>⟨by rw[HG.out];exact hW,.inr ⟨h,rfl⟩⟩
 have R0:Hid ((w.alloc (.cells TV.toArray 121)).rangeAt w.heap.size 21 PA):=hid (by rw[HG.out,HW0.out,<-HPA.out];exact(HC.out _ BG0.out).au)
 rw[HTV.out]
 clear hP hf
 go_enter Tryz.func71,Tryz.ntmps71
 go_wp2_with (first | refine wpList_load_mid rfl 119 _ rfl w.heap.size 21 rfl PA _ R0.out Tryz.underlying119 rfl hiA ?_ | fail)
 rw[HG.out,HW0.out]
 clear R0
 refine(CA.out w0).mono ?_
 rintro ev w1 ⟨hb,hor⟩
 have HB1:Hid (Below G w w1):=HB0.out.trans (hb.mono (Nat.le_of_lt BG0.out.lt))
 have BG1:Hid (Bk G TV 121 w1):=BG0.out.below hb
 clear hb
 have hfa:∃ (S:ByteArray) (x:Bool),ev=.returned (.tuple #[.string S,.bool x])/\(x=true ↔ okP c.au)/\(x=true->S=PT):=by
  rcases hor with ⟨h,rfl⟩ | ⟨h,rfl⟩
  ·exact⟨_,true,rfl,⟨fun _=>h,fun _=>rfl⟩,fun _=>by rw[HPT.out]⟩
  ·exact⟨_,false,rfl,⟨(fun h2=>by cases h2),fun h2=>absurd h2 h⟩,(fun h2=>by cases h2)⟩
 obtain⟨SA,xa,rfl,hxa,hSA⟩:=hfa
 have HXA:Hid ((xa=true ↔ okP c.au)/\(xa=true->SA=PT)):=⟨hxa,hSA⟩
 clear hor hxa hSA
 have R1:Hid (w1.rangeAt G 25 PC):=hid (by rw[<-HPC.out];exact(HC.out _ BG1.out).co)
 go_wp2_with (first | refine wpList_load_mid rfl 119 _ rfl G 25 rfl PC _ R1.out Tryz.underlying119 rfl hiC ?_ | fail)
 refine(CC.out w1).mono ?_
 rintro ev w2 ⟨hb,hor⟩
 have HB2:Hid (Below G w w2):=HB1.out.trans (hb.mono (Nat.le_of_lt BG1.out.lt))
 have BG2:Hid (Bk G TV 121 w2):=BG1.out.below hb
 clear hb
 have hfa:∃ (S:ByteArray) (x:Bool),ev=.returned (.tuple #[.string S,.bool x])/\(x=true ↔ okP c.co)/\(x=true->S=QT):=by
  rcases hor with ⟨h,rfl⟩ | ⟨h,rfl⟩
  ·exact⟨_,true,rfl,⟨fun _=>h,fun _=>rfl⟩,fun _=>by rw[HQT.out]⟩
  ·exact⟨_,false,rfl,⟨(fun h2=>by cases h2),fun h2=>absurd h2 h⟩,(fun h2=>by cases h2)⟩
 obtain⟨SC,xc,rfl,hxc,hSC⟩:=hfa
 have HXC:Hid ((xc=true ↔ okP c.co)/\(xc=true->SC=QT)):=⟨hxc,hSC⟩
 clear hor hxc hSC
 have c29:w2.cell? ⟨G,29,none⟩=some (.string M):=by rw[<-HMM.out];exact(HC.out _ BG2.out).c29
 have c20:w2.cell? ⟨G,20,none⟩=some (.slice a n cap):=by rw[<-HN.out];exact(HC.out _ BG2.out).c20
 go_wp2_with fail
 refine(CM.out w2).mono ?_
 rintro ev w2' ⟨rfl,hw2⟩
 have hw2':=hw2.symm
 subst hw2'
 clear hw2
 by_cases hn8:n<=8
 rotate_left
 ·have hn8i:(8:Int)<(n:Int):=by omega
  have HNO:Hid (¬ okC c):=fun h=>hn8 (by rw[<-HN.out];exact h.1)
  go_wp2
  go_ret2
  exact BAD.out HNO.out _ HB2.out
 have hn8i:¬ (8:Int)<(n:Int):=by omega
 cases xa with
 | false =>
  have HNO:Hid (¬ okC c):=fun h=>by have:=HXA.out.1.2 h.2.2.1;cases this
  go_wp2
  go_ret2
  exact BAD.out HNO.out _ HB2.out
 | true =>
 cases xc with
 | false =>
  have HNO:Hid (¬ okC c):=fun h=>by have:=HXC.out.1.2 h.2.2.2.1;cases this
  go_wp2
  go_ret2
  exact BAD.out HNO.out _ HB2.out
 | true =>
 cases ms with
 | false =>
  have HNO:Hid (¬ okC c):=fun h=>by have h2:=h.2.2.2.2;rw[HMSB.out] at h2;cases h2
  go_wp2
  go_ret2
  exact BAD.out HNO.out _ HB2.out
 | true =>
 rw[HXA.out.2 rfl,HXC.out.2 rfl]
 have HOA:Hid (okP c.au):=HXA.out.1.1 rfl
 have HOC:Hid (okP c.co):=HXC.out.1.1 rfl
 clear HXA HXC
 have R2:Hid (w2.rangeAt G 0 RT):=hid (by rw[<-HRT.out];exact(HC.out _ BG2.out).id)
 go_wp2_with (first | refine wpList_load_mid rfl 31 _ rfl G 0 rfl RT _ R2.out Tryz.underlying31 rfl hi31t ?_ | fail)
 refine(CHT.out w2).mono ?_
 rintro ev w3 ⟨rfl,hb⟩
 have HB3:Hid (Below G w w3):=HB2.out.trans (hb.mono (Nat.le_of_lt BG2.out.lt))
 have BG3:Hid (Bk G TV 121 w3):=BG2.out.below hb
 clear hb c29 c20
 obtain⟨A1,HA1⟩:∃ A,(⟨#[116,114,101,101,32]⟩:ByteArray)++HT=A:=⟨_,rfl⟩
 have lw1:(⟨#[116,114,101,101,32]⟩:ByteArray).size=5:=rfl
 have lw2:(⟨#[10]⟩:ByteArray).size=1:=rfl
 have SA1:Hid (A1.size=45):=hid (by rw[<-HA1,ByteArray.size_append,lw1,HHTS.out])
 obtain⟨A2,HA2⟩:∃ A,(A1:ByteArray) ++ ⟨#[10]⟩=A:=⟨_,rfl⟩
 have g0:¬ 9223372036854775807<5+HT.size:=by have:=HHTS.out;omega
 have g1:¬ 9223372036854775807<A1.size+1:=by have:=SA1.out;omega
 have g2:¬ 9223372036854775807<=A1.size:=by have:=SA1.out;omega
 have HE0:Hid (A2=⟨(Xz c 0).toArray⟩):=hid (by
  rw[<-HA2,<-HA1,<-HHT.out]
  apply ByteArray.ext
  apply Array.toList_inj.1
  simp[Xz,ln2,xw,jV,strOfNums])
 go_wp2_with fail
 clear HA1 HA2 g0 g1 g2
 go_loopg [9,10] n (fun g sv iv wr=>∃ (i:Nat) (Si:ByteArray),i<=n/\g=n-i/\iv=.int .i64 i/\sv=.string Si/\Hid (Si=⟨(Xz c i).toArray⟩)/\Hid (Below G w wr)/\Hid (Bk G TV 121 wr)/\Hid (c.ids.take i).Nodup)
 case atStart=>exact⟨0,A2,Nat.zero_le _,rfl,rfl,rfl,HE0,HB3,BG3,hid (by simp)⟩
 case round =>
  obtain⟨i,Si,hi,hk,rfl,rfl,HSI,HB,BG,HND⟩:=hrel
  have HSS:Hid (Si.size<=10000):=hid (by
   rw[HSI.out,xX]
   have:=headB_len c HWC.out i
   omega)
  have c20:wr.cell? ⟨G,20,none⟩=some (.slice a n cap):=by rw[<-HN.out];exact(HC.out _ BG.out).c20
  by_cases hlt:i<n
  ·have hlti:(i:Int)<(n:Int):=by omega
   obtain⟨b,off,hae,hbG⟩:=HPL.out (by omega)
   subst hae
   obtain⟨x,HX⟩:=nm_ (c.ids.getD i [])
   have hxm:x ∈ c.ids:=by
    rw[<-HX.out,List.getD_eq_getElem?_getD,List.getElem?_eq_getElem (by rw[HN.out];exact hlt)]
    exact List.getElem_mem _
   obtain⟨hx20,hxb⟩:=HWC.out.2 x hxm
   obtain⟨Ri,HRI⟩:=nm_ (row .u8 x)
   have hiRi:(Tryz.prog.info? 31).map (·.size)=some Ri.length:=by rw[<-HRI.out,zq,hx20];exact Tryz.size31
   have HXL:Hid (x.length=20):=hx20
   obtain⟨hxs,HHX⟩:=nm_ (strOfNums (Hx.hexOf x))
   have CHX:Hid (∀ W,Calls Tryz.prog 103 #[.agg Ri.toArray] W fun e w'=>e=.returned (.string hxs)/\Below W.heap.size W w'):=fun W=>by
    rw[<-HRI.out,<-HHX.out];exact Hx.hex_ref x W hx20 hxb
   have HHXS:Hid (hxs.size=40):=hid (by rw[<-HHX.out,strOfNums_size,Hx.hexOf_len,hx20])
   have HRR:Hid (∀ W,Below G w W->∀ k,k<n->W.rangeAt b (off+k*20) (row .u8 (c.ids.getD k []))):=fun W hW k hk=>by
    obtain⟨b',off',e1,e2,e3⟩:=(HPP.out W hW).at_ (by rw[HN.out];omega)
    cases e1
    exact e3 k (by rw[HN.out];exact hk)
   clear hxm hx20 hxb
   go_wp2_with fail
   clear c20
   go_loopg [11] i (fun g kv wq=>∃ k:Nat,k<=i/\g=i-k/\kv=.int .i64 k/\Hid (Below G w wq)/\Hid (Bk G TV 121 wq)/\Hid (∀ j,j<k->c.ids.getD j [] ≠ x))
   case atStart=>exact⟨0,Nat.zero_le _,rfl,rfl,HB,BG,fun j hj=>by omega⟩
   case round =>
    obtain⟨k,hki,hkk,rfl,HBq,BGq,HDF⟩:=hrel
    by_cases hkl:k<i
    ·have hkli:(k:Int)<(i:Int):=by omega
     have hkn:(k:Int)<(n:Int):=by omega
     obtain⟨y,HY⟩:=nm_ (c.ids.getD k [])
     have hym:y ∈ c.ids:=by
      rw[<-HY.out,List.getD_eq_getElem?_getD,List.getElem?_eq_getElem (by rw[HN.out];omega)]
      exact List.getElem_mem _
     have HYL:Hid (y.length=20):=(HWC.out.2 y hym).1
     obtain⟨Rk,HRK⟩:=nm_ (row .u8 y)
     have hiRk:(Tryz.prog.info? 31).map (·.size)=some Rk.length:=by rw[<-HRK.out,zq,HYL.out];exact Tryz.size31
     obtain⟨bq,HBQ⟩:=nm_ (decide (y=x))
     have heq31:∀ w:World,(Op.equalIn 10000 31 (.agg Rk.toArray) (.agg Ri.toArray)).run Tryz.prog w=.ok bq w:=fun w=>by rw[<-HRK.out,<-HRI.out,<-HBQ.out];exact eq31 y x HYL.out HXL.out w
     have QSd:Hid (QS G b off n cap i k Rk Ri wr.drew):=hid (by
      refine⟨?_,?_,?_⟩
      ·rw[<-HN.out];exact(HC.out _ BGq.out).c20
      ·rw[<-HRK.out,<-HY.out];exact HRR.out wr HBq.out k (by omega)
      ·rw[<-HRI.out,<-HX.out];exact HRR.out wr HBq.out i hlt)
     have HBd:Hid (Below G w wr.drew):=hid ⟨HBq.out.os,HBq.out.tape,HBq.out.output,HBq.out.size,HBq.out.block⟩
     have BGd:Hid (Bk G TV 121 wr.drew):=⟨BGq.out.box⟩
     have hk0:¬ (k:Int)<0:=by omega
     have hi0:¬ (i:Int)<0:=by omega
     clear hym
     go_wp2_with fail
     refine wp_region_held_drew (S:=QS G b off n cap i k Rk Ri) (by kernel_rfl) (by exact QSd.out) (fun hHeld=>?_)
     generalize wr.drew=u0 at hHeld QSd HBd BGd ⊢
     clear QSd
     refine tZ (i:=0) hHeld ?_
     try simp only[Act.put,sL]
     refine tZ (i:=1) hHeld ?_
     try simp only[Act.put,sL]
     refine tZ (i:=2) hHeld ?_
     try simp only[Act.put,sL]
     refine tZ (i:=3) hHeld ?_
     try simp only[Act.put,sL]
     refine tW (i:=4) (v:=.agg Rk.toArray) hHeld rfl (yieldsIf_load_mid (by rfl) 31 _ rfl b (off+k*20) (by rfl) Rk _ (fun w' h=>h.rk) Tryz.underlying31 rfl hiRk) ?_
     try simp only[Act.put,sL]
     refine tZ (i:=5) hHeld ?_
     try simp only[Act.put,sL]
     refine tZ (i:=6) hHeld ?_
     try simp only[Act.put,sL]
     refine tZ (i:=7) hHeld ?_
     try simp only[Act.put,sL]
     refine tZ (i:=8) hHeld ?_
     try simp only[Act.put,sL]
     refine tW (i:=9) (v:=.agg Ri.toArray) hHeld rfl (yieldsIf_load_mid (by rfl) 31 _ rfl b (off+i*20) (by rfl) Ri _ (fun w' h=>h.ri) Tryz.underlying31 rfl hiRi) ?_
     try simp only[Act.put,sL]
     refine tZ (i:=10) hHeld ?_
     try simp only[Act.put,sL]
     refine wpAnyH_done (by kernel_rfl) ?_ _
     clear hHeld
     cases bq with
     | true =>
      have HNO:Hid (¬ okC c):=fun h=>by
       have e:y=x:=of_decide_eq_true HBQ.out
       have h1:=List.nodup_iff_pairwise_ne.1 h.2.1
       have h2:=List.pairwise_iff_getElem.1 h1 k i (by rw[HN.out];omega) (by rw[HN.out];exact hlt) hkl
       refine h2 ?_
       have e1:=HY.out
       have e2:=HX.out
       rw[List.getD_eq_getElem?_getD,List.getElem?_eq_getElem (by rw[HN.out];omega)] at e1
       rw[List.getD_eq_getElem?_getD,List.getElem?_eq_getElem (by rw[HN.out];exact hlt)] at e2
       simp only[Option.getD_some] at e1 e2
       rw[e1,e2,e]
      go_wp2
      go_ret2
      exact BAD.out HNO.out _ HBd.out
     | false =>
      have HNE:Hid (y ≠ x):=of_decide_eq_false HBQ.out
      go_wp2
      go_roundg (i-(k+1))
      case measure=>omega
      case rel =>
       refine⟨k+1,by omega,rfl,by go_num,HBd,BGd,fun j hj=>?_⟩
       by_cases e:j=k
       ·rw[e,HY.out];exact HNE.out
       ·exact HDF.out j (by omega)
    ·have hkli:¬ (k:Int)<(i:Int):=by omega
     obtain rfl:k=i:=by omega
     have c20:wr.cell? ⟨G,20,none⟩=some (.slice (some ⟨b,off,none⟩) n cap):=by rw[<-HN.out];exact(HC.out _ BGq.out).c20
     have RRi:Hid (wr.rangeAt b (off+k*20) Ri):=hid (by rw[<-HRI.out,<-HX.out];exact HRR.out _ HBq.out k hlt)
     have hkn:(k:Int)<(n:Int):=by omega
     obtain⟨T1,HT1⟩:∃ A,(Si:ByteArray) ++ ⟨#[112,97,114,101,110,116,32]⟩=A:=⟨_,rfl⟩
     have lp:(⟨#[112,97,114,101,110,116,32]⟩:ByteArray).size=7:=rfl
     have S1:Hid (T1.size=Si.size+7):=hid (by rw[<-HT1,ByteArray.size_append,lp])
     obtain⟨T2,HT2⟩:∃ A,(T1:ByteArray)++hxs=A:=⟨_,rfl⟩
     have S2:Hid (T2.size=T1.size+40):=hid (by rw[<-HT2,ByteArray.size_append,HHXS.out])
     obtain⟨T3,HT3⟩:∃ A,(T2:ByteArray) ++ ⟨#[10]⟩=A:=⟨_,rfl⟩
     have g0:¬ 9223372036854775807<Si.size+7:=by have:=HSS.out;omega
     have g1:¬ 9223372036854775807<T1.size+hxs.size:=by have:=HSS.out;have:=S1.out;have:=HHXS.out;omega
     have g2:¬ 9223372036854775807<T2.size+1:=by have:=HSS.out;have:=S1.out;have:=S2.out;omega
     have g3:¬ 9223372036854775807<=T2.size:=by have:=HSS.out;have:=S1.out;have:=S2.out;omega
     have HE1:Hid (T3=⟨(Xz c (k+1)).toArray⟩):=hid (by
      rw[headB_snoc c k (by rw[HN.out];exact hlt),HX.out,<-HT3,<-HT2,<-HT1,HSI.out,<-HHX.out]
      apply ByteArray.ext
      apply Array.toList_inj.1
      simp[ln2,xw,yY,strOfNums])
     have HND2:Hid (c.ids.take (k+1)).Nodup:=hid (by
      rw[uQ c.ids k (by rw[HN.out];exact hlt),HX.out,List.nodup_append]
      refine⟨HND.out,by simp,fun u hu v hv e=>?_⟩
      have hv2:v=x:=by simpa using hv
      obtain⟨j,hj,e2⟩:=List.getElem_of_mem hu
      rw[List.length_take] at hj
      refine HDF.out j (by omega) ?_
      rw[List.getElem_take] at e2
      rw[List.getD_eq_getElem?_getD,List.getElem?_eq_getElem (by omega)]
      simp only[Option.getD_some]
      rw[e2,e,hv2])
     go_wp2_with (first | refine wpList_load_mid rfl 31 _ rfl b (off+k*20) rfl Ri _ RRi.out Tryz.underlying31 rfl hiRi ?_ | fail)
     refine(CHX.out wr).mono ?_
     rintro ev w5 ⟨rfl,hb⟩
     have HB5:Hid (Below G w w5):=HBq.out.trans (hb.mono (Nat.le_of_lt BGq.out.lt))
     have BG5:Hid (Bk G TV 121 w5):=BGq.out.below hb
     clear hb
     go_wp2
     go_roundg (n-(k+1))
     case measure=>omega
     case rel=>exact⟨k+1,T3,by omega,rfl,by go_num,rfl,HE1,HB5,BG5,HND2⟩
  ·have hlti:¬ (i:Int)<(n:Int):=by omega
   obtain rfl:i=n:=by omega
   have HOK:Hid (okC c):=⟨by rw[HN.out];exact hn8,by have:=HND.out;rw[List.take_of_length_le (by rw[HN.out];omega)] at this;exact this,HOA.out,HOC.out,HMSB.out⟩
   have c29:wr.cell? ⟨G,29,none⟩=some (.string M):=by rw[<-HMM.out];exact(HC.out _ BG.out).c29
   have HM2k:Hid (M.size<=2000):=hid (by rw[<-HMM.out,Zw];have:=HOK.out.2.2.2.2;unfold uz at this;rw[Bool.and_eq_true] at this;exact of_decide_eq_true this.1)
   have HPL2:Hid (PT.size<=1000):=hid (by rw[<-HPT.out,Zw];exact j5 c.au HOA.out)
   have HQL:Hid (QT.size<=1000):=hid (by rw[<-HQT.out,Zw];exact j5 c.co HOC.out)
   obtain⟨TB,HTB⟩:=nm_ (cmB c)
   obtain⟨B1,K1⟩:∃ A,(Si:ByteArray) ++ ⟨#[97,117,116,104,111,114,32]⟩=A:=⟨_,rfl⟩
   have l1:(⟨#[97,117,116,104,111,114,32]⟩:ByteArray).size=7:=rfl
   have Z1:Hid (B1.size=Si.size+7):=hid (by rw[<-K1,ByteArray.size_append,l1])
   obtain⟨B2,K2⟩:∃ A,(B1:ByteArray)++PT=A:=⟨_,rfl⟩
   have Z2:Hid (B2.size=B1.size+PT.size):=hid (by rw[<-K2,ByteArray.size_append])
   obtain⟨B3,K3⟩:∃ A,(B2:ByteArray) ++ ⟨#[10,99,111,109,109,105,116,116,101,114,32]⟩=A:=⟨_,rfl⟩
   have l3:(⟨#[10,99,111,109,109,105,116,116,101,114,32]⟩:ByteArray).size=11:=rfl
   have Z3:Hid (B3.size=B2.size+11):=hid (by rw[<-K3,ByteArray.size_append,l3])
   obtain⟨B4,K4⟩:∃ A,(B3:ByteArray)++QT=A:=⟨_,rfl⟩
   have Z4:Hid (B4.size=B3.size+QT.size):=hid (by rw[<-K4,ByteArray.size_append])
   obtain⟨B5,K5⟩:∃ A,(B4:ByteArray) ++ ⟨#[10,10]⟩=A:=⟨_,rfl⟩
   have l5:(⟨#[10,10]⟩:ByteArray).size=2:=rfl
   have Z5:Hid (B5.size=B4.size+2):=hid (by rw[<-K5,ByteArray.size_append,l5])
   obtain⟨B6,K6⟩:∃ A,(B5:ByteArray)++M=A:=⟨_,rfl⟩
   have y1:¬ 9223372036854775807<Si.size+7:=by have:=HSS.out;omega
   have y2:¬ 9223372036854775807<B1.size+PT.size:=by have:=HSS.out;have:=Z1.out;have:=HPL2.out;omega
   have y3:¬ 9223372036854775807<B2.size+11:=by have:=HSS.out;have:=Z1.out;have:=HPL2.out;have:=Z2.out;omega
   have y4:¬ 9223372036854775807<B3.size+QT.size:=by have:=HSS.out;have:=Z1.out;have:=HPL2.out;have:=Z2.out;have:=Z3.out;have:=HQL.out;omega
   have y5:¬ 9223372036854775807<B4.size+2:=by have:=HSS.out;have:=Z1.out;have:=HPL2.out;have:=Z2.out;have:=Z3.out;have:=Z4.out;have:=HQL.out;omega
   have y6:¬ 9223372036854775807<B5.size+M.size:=by have:=HSS.out;have:=Z1.out;have:=HPL2.out;have:=Z2.out;have:=Z3.out;have:=Z4.out;have:=Z5.out;have:=HQL.out;have:=HM2k.out;omega
   have HE:Hid (B6=⟨TB.toArray⟩):=hid (by
    rw[<-HTB.out,<-K6,<-K5,<-K4,<-K3,<-K2,<-K1,HSI.out,<-HPT.out,<-HQT.out,<-HMM.out]
    apply ByteArray.ext
    apply Array.toList_inj.1
    have e:c.ids.take i=c.ids:=List.take_of_length_le (by rw[HN.out];omega)
    simp[cmB,Xz,e,ln2,yX,qQ])
   obtain⟨c2,w3b,hr3,hm3,hb3,hs3⟩:=V2 TB wr
   rw[<-HE.out] at hr3
   have PE:Hid (PostCR c w (.returned (.tuple #[.slice (some ⟨wr.heap.size,0,none⟩) TB.length c2,.int .i64 0])) w3b):=hid (by
    refine⟨by rw[HG.out];exact HB.out.trans (hb3.mono (Nat.le_of_lt BG.out.lt)),.inl ⟨HOK.out,wr.heap.size,c2,by rw[HTB.out],?_,?_⟩⟩
    ·rw[HG.out];exact Nat.le_of_lt BG.out.lt
    ·rw[HTB.out];exact hm3)
   obtain⟨L,HL⟩:=nm_ TB.length
   rw[HL.out] at hr3 PE
   clear hm3 hb3
   go_wp2
   go_ret2
   exact PE.out
section
variable {P : Program} {md : Region.Mode} {ops : Array Oper} {Q : Exit → Act → World → Prop} {S : World → Prop} {n : Nat}
def anyU (P:Program) (md:Region.Mode) (ops:Array Oper) (Q:Exit->Act->World->Prop) (S:World->Prop) (n:Nat):Nat->Array Bool->Act->World->Prop
 | 0,listed,a,w=>Region.ready md ops listed=[]/\Q .normal a w
 | fuel+1,listed,a,w =>
  (Region.ready md ops listed=[]->Q .normal a w)/\
  ∀ i ∈ Region.ready md ops listed,wpOp P ops Q i (fun a' w'=>(i=n ∨ S w')/\anyU P md ops Q S n fuel (listed.setIfInBounds i true) a' w') a w
theorem any_of_U:∀ (fuel:Nat) (listed:Array Bool) (a:Act) (w:World),anyU P md ops Q S n fuel listed a w->wpAny P md ops Q fuel listed a w
 | 0,_,_,_,h=>h
 | fuel+1,_,_,_,h=>⟨h.1,fun i hi=>wpOp_mono (fun a' w' h'=>any_of_U fuel _ a' w' h'.2) (h.2 i hi)⟩
def waits (md:Region.Mode) (ops:Array Oper) (n i:Nat):Bool:=match ops[n]? with
 | some o=>o.after.any fun e=>Region.binds md e && e.on == i
 | none=>true
theorem U_first {i:Nat} {oi:Oper} {v:Value} (hi:ops[i]? = some oi) (hsel:∀ (j:Nat) (o:Oper) cs b,ops[j]? = some o->o.op ≠ .select cs b) (hn:waits md ops n i=true)
  (hQ:∀ c a w,Q (.panic c) (a.put oi.dst v) w->Q (.panic c) a w) :
  ∀ (fuel:Nat) (listed:Array Bool) (a:Act) (w:World),
   (∀ j oj,ops[j]? = some oj->j ≠ i->listed.getD j true=false->(∀ e ∈ oj.after,Region.binds md e=true->e.on ≠ i)->oi.apart ops oj=true) →
   i ∈ Region.ready md ops listed->YieldsIf P ops S oi v a->S w →
   anyU P md ops Q S n fuel (listed.setIfInBounds i true) (a.put oi.dst v) w->anyU P md ops Q S n (fuel+1) listed a w:=by
 intro fuel
 induction fuel with
 | zero =>
  intro listed a w _ hr hy hS H
  refine⟨fun h=>(by rw[h] at hr;cases hr),fun j hj=>?_⟩
  by_cases hji:j=i
  ·subst hji;exact hy.wpOp hi hS ⟨.inr hS,H⟩
  ·have:=ready_mono hj hji
   rw[H.1] at this
   cases this
 | succ fuel ih =>
  intro listed a w hfree hr hy hS H
  refine⟨fun h=>(by rw[h] at hr;cases hr),fun j hj=>?_⟩
  by_cases hji:j=i
  ·subst hji;exact hy.wpOp hi hS ⟨.inr hS,H⟩
  ·have h1:=H.2 j (ready_mono hj hji)
   obtain⟨hjun,oj,hoj,hall⟩:=mem_ready.1 hj
   have hnot:∀ e ∈ oj.after,Region.binds md e=true->e.on ≠ i:=fun e he hb heq=>by
    have g1:=hall e he hb
    have g0:=(mem_ready.1 hr).1
    rw[heq] at g1
    rcases Nat.lt_or_ge i listed.size with h' | h'
    ·simp[h'] at g0 g1;rw[g0] at g1;cases g1
    ·simp[Array.getElem?_eq_none h'] at g1
   have hjn:j ≠ n:=fun e=>by
    subst e
    unfold waits at hn
    rw[hoj] at hn
    simp only[Array.any_eq_true] at hn
    obtain⟨k,hk,hk2⟩:=hn
    simp only[Bool.and_eq_true,beq_iff_eq] at hk2
    exact hnot _ (Array.getElem_mem hk) hk2.1 hk2.2
   have h2:=wpOp_putIf hoj (hfree j oj hoj hji hjun hnot) (fun cs b=>hsel i oi cs b hi) (fun cs b=>hsel j oj cs b hoj) hQ hy h1
   have hfree':∀ k ok,ops[k]? = some ok->k ≠ i->(listed.setIfInBounds j true).getD k true=false →
     (∀ e ∈ ok.after,Region.binds md e=true->e.on ≠ i)->oi.apart ops ok=true:=fun k ok hk hki hun hno=>by
    refine hfree k ok hk hki ?_ hno
    by_cases hjk:j=k
    ·subst hjk;exact hjun
    ·rw[getD_set_ne true hjk] at hun;exact hun
   refine wpOp_mono (fun a' w' h3=>⟨h3.2.1,?_⟩) h2
   have hS':S w':=h3.2.1.resolve_left hjn
   refine ih (listed.setIfInBounds j true) a' w' hfree' (ready_mono hr (Ne.symm hji)) h3.1 hS' ?_
   rw[Array.setIfInBounds_comm _ _ hji]
   exact h3.2.2
end
theorem kw {P:Program} {md:Region.Mode} {Q:Exit->Act->World->Prop} {S:World->Prop} {n:Nat} {l:List Oper} {i:Nat} {oi:Oper} {v:Value} {fuel:Nat} {listed:Array Bool} {a:Act} {w:World} (hi:l[i]? = some oi)
  (hs:Region.noSelect l.toArray=true) (hf:Region.free md l.toArray listed i=true) (hr:(Region.ready md l.toArray listed).contains i=true) (hn:waits md l.toArray n i=true)
  (hQ:∀ c a w,Q (.panic c) (a.put oi.dst v) w->Q (.panic c) a w) (hy:YieldsIf P l.toArray S oi v a) (hS:S w)
  (h:anyU P md l.toArray Q S n fuel (listed.setIfInBounds i true) (a.put oi.dst v) w):anyU P md l.toArray Q S n (fuel+1) listed a w:=by
 have hi':l.toArray[i]? = some oi:=by rw[List.getElem?_toArray];exact hi
 exact U_first hi' (Region.noSelect_spec hs) hn hQ fuel listed a w (Region.free_spec hi' hf) (by simpa using hr) hy hS h
def oneU (P:Program) (md:Region.Mode) (ops:Array Oper) (Q:Exit->Act->World->Prop) (S:World->Prop) (n fuel:Nat) (listed:Array Bool) (a:Act) (w:World) (i:Nat):Prop :=
 wpOp P ops Q i (fun a' w'=>(i=n ∨ S w')/\anyU P md ops Q S n fuel (listed.setIfInBounds i true) a' w') a w
theorem Vj {P:Program} {md:Region.Mode} {Q:Exit->Act->World->Prop} {S:World->Prop} {n i fuel:Nat} {ops:Array Oper} {listed:Array Bool} {a:Act} {w:World} (hr:Region.ready md ops listed=[i])
  (h:oneU P md ops Q S n fuel listed a w i):anyU P md ops Q S n (fuel+1) listed a w :=
 ⟨fun h0=>(by rw[hr] at h0;cases h0),fun j hj=>by rw[hr] at hj;obtain rfl:=List.mem_singleton.1 hj;exact h⟩
theorem consU {P:Program} {md:Region.Mode} {Q:Exit->Act->World->Prop} {S:World->Prop} {n:Nat} {l:List Oper} {fuel:Nat} {listed:Array Bool} {a:Act} {w:World} {i:Nat} {o:Oper} (ho:l[i]? = some o)
  (h:∀ K':Act->World->Prop,Shut (∀ a w,(i=n ∨ S w)->anyU P md l.toArray Q S n fuel (listed.setIfInBounds i true) a w->K' a w)->if Region.wanted o (yielded l.toArray a.tmps)=true then Oper.wp P o a w K' Q else K' (a.put o.dst undef) w) :
  oneU P md l.toArray Q S n fuel listed a w i:=by
 have ho':l.toArray[i]? = some o:=by rw[List.getElem?_toArray];exact ho
 exact wpOp_step ho' (fun K' hK=>h K' (fun a w hS hW=>hK a w ⟨hS,hW⟩))
theorem doneU {P:Program} {md:Region.Mode} {Q:Exit->Act->World->Prop} {S:World->Prop} {n:Nat} {ops:Array Oper} {listed:Array Bool} {a:Act} {w:World} (hr:Region.ready md ops listed=[]) (h:Q .normal a w) :
  ∀ fuel,anyU P md ops Q S n fuel listed a w
 | 0=>⟨hr,h⟩
 | _+1=>⟨fun _=>h,by rw[hr];simp⟩
theorem region_U {P:Program} {Q:Exit->Act->World->Prop} {id:Nat} {a:Act} {w:World} {ops:Array Oper} (S:World->Prop) (n:Nat) (hm:P.follows .mixedOrders=true)
  (h:anyU P .any ops Q S n ops.size (Array.replicate ops.size false) a w.drew):(Code.region id ops true).wp P Q a w :=
 wp_region_any hm (any_of_U _ _ _ _ h)
end Go.Proofs.YticgindfipobiaaGreatDoor
