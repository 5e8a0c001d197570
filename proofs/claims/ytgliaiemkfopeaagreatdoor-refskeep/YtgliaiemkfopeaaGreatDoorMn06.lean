import Derived.Test.YtgliaiemkfopeaaGreatDoorMn03
import Derived.Test.YtgliaiemkfopeaaGreatDoorMn05
import Derived.Test.YtgliaiemkfopeaaGreatDoorMn01
import Derived.Test.YtgliaiemkfopeaaGreatDoorMn04
import Derived.Laws.IdiomStrings
import Derived.BigQuiet
set_option linter.unusedSimpArgs false
set_option linter.unusedVariables false
set_option maxRecDepth 20000
set_option maxHeartbeats 4000000
namespace Go.Proofs.YtgliaiemkfopeaaGreatDoor
open Go.RowKit
def okT (s:List UInt8):Prop:=s.length<=60/\(∀ x ∈ s,x ≠ 60/\x ≠ 62/\x ≠ 10/\x ≠ 0)/\Lib.trimS s [32]=s
theorem signs_asc:Asc ⟨#[60,62,10,0]⟩:=by
 intro j h
 have h':j<4:=h
 match j,h' with
 | 0,_=>exact(by decide:(60:UInt8).toNat<128)
 | 1,_=>exact(by decide:(62:UInt8).toNat<128)
 | 2,_=>exact(by decide:(10:UInt8).toNat<128)
 | 3,_=>exact(by decide:(0:UInt8).toNat<128)
theorem signs_iff (s:List UInt8):¬ kX ⟨s.toArray⟩ ⟨#[60,62,10,0]⟩ ↔ ∀ x ∈ s,x ≠ 60/\x ≠ 62/\x ≠ 10/\x ≠ 0:=by
 unfold kX
 simp only[not_exists,not_and]
 constructor
 ·intro h x hx
  have:=h x hx
  simpa using this
 ·intro h x hx
  have:=h x hx
  simpa using this
def BIs (P:Prop) (e:Ending):Prop := ∃ b:Bool,e=.returned (.bool b)/\(b=true ↔ P)
theorem yj {P:Prop} (h:¬ P):BIs P (.returned (.bool false)):=⟨false,rfl,⟨(fun h=>by cases h),fun h2=>absurd h2 h⟩⟩
theorem X8 {P:Prop} (h:P):BIs P (.returned (.bool true)):=⟨true,rfl,⟨fun _=>h,fun _=>rfl⟩⟩
theorem kJ {P:Prop} {e:Ending} (h:BIs P e):(P/\e=.returned (.bool true)) ∨ (¬ P/\e=.returned (.bool false)):=by
 obtain⟨b,rfl,hb⟩:=h
 cases b with
 | true=>exact .inl ⟨hb.1 rfl,rfl⟩
 | false=>exact .inr ⟨(fun h=>by have:=hb.2 h;cases this),rfl⟩
theorem isPersonText_any (s:List UInt8) (hs:s.length<=1000000) (w:World) :
  Calls Tryz.prog 120 #[.string ⟨s.toArray⟩] w fun e w'=>BIs (okT s) e/\Below w.heap.size w w':=by
 obtain⟨S,HS⟩:=nn_ (⟨s.toArray⟩:ByteArray)
 have hsz:S.size=s.length:=by rw[HS.out];simp[ByteArray.size]
 obtain⟨T,HT⟩:=nn_ (⟨(Lib.trimS s [32]).toArray⟩:ByteArray)
 have HCA:Hid (∀ w,Calls Tryz.prog 83 #[.string S,.string ⟨#[60,62,10,0]⟩] w fun e w'=>BIs (¬ ∀ x ∈ s,x ≠ 60/\x ≠ 62/\x ≠ 10/\x ≠ 0) e/\Below w.heap.size w w'):=fun w=>by
  refine(ZQ S ⟨#[60,62,10,0]⟩ (by decide) (by decide) signs_asc (by omega) w).mono ?_
  rintro e w' ⟨⟨b,rfl,hb⟩,h2⟩
  refine⟨⟨b,rfl,?_⟩,h2⟩
  rw[hb,<-signs_iff,HS.out,Classical.not_not]
 have HTR:Hid (∀ w,Calls Tryz.prog 144 #[.string S,.string ⟨#[32]⟩] w fun e w'=>e=.returned (.string T)/\Below w.heap.size w w'):=fun w=>by
  rw[HT.out,HS.out]
  exact Any.strings_Trim_laid Tryz.lays160 info258 ⟨s.toArray⟩ ⟨#[32]⟩ w (by simp[ByteArray.size];omega) (by decide) (fun j b hb=>by
   match j,hb with
   | 0,hb=>simp at hb;subst hb;decide
   | j+1,hb=>simp at hb)
 have HEQ:Hid ((T.toList == S.toList)=true ↔ Lib.trimS s [32]=s):=hid (by
  rw[HT.out,HS.out,Lib.toList_data,Lib.toList_data]
  simp)
 rw[<-HS.out]
 by_cases h:s.length<=60
 ·have hi:(S.size:Int)<=60:=by omega
  go_enter Tryz.func120,Tryz.ntmps120
  go_wp2_with fail
  refine(HCA.out w).mono ?_
  rintro ev w1 ⟨hb,hb1⟩
  have HB1:Hid _:=hb1
  clear hb1
  rcases kJ hb with ⟨hno,rfl⟩ | ⟨hyes,rfl⟩
  ·have HNO:Hid (¬ okT s):=fun h=>hno h.2.1
   clear hno hb
   go_wp2
   go_ret
   exact⟨yj HNO.out,HB1.out⟩
  ·have HYE:Hid (∀ x ∈ s,x ≠ 60/\x ≠ 62/\x ≠ 10/\x ≠ 0):=Classical.not_not.1 hyes
   clear hyes hb
   go_wp2_with fail
   refine(HTR.out w1).mono ?_
   rintro ev w2 ⟨rfl,hb2⟩
   have HB2:Hid (Below w.heap.size w w2):=HB1.out.trans (hb2.mono HB1.out.size)
   clear hb2
   go_wp2
   go_ret
   refine⟨⟨(T.toList == S.toList),rfl,?_⟩,HB2.out⟩
   rw[HEQ.out]
   exact⟨fun h3=>⟨h,HYE.out,h3⟩,fun h3=>h3.2.2⟩
 ·have hi:¬ (S.size:Int)<=60:=by omega
  go_enter Tryz.func120,Tryz.ntmps120
  go_wp2
  go_ret
  exact⟨yj (fun h2=>h h2.1),Below.refl _ _⟩
theorem kY (s:List UInt8) (w:World):Calls Tryz.prog 120 #[.string ⟨s.toArray⟩] w fun e w'=>BIs (okT s) e/\Below w.heap.size w w':=by
 by_cases h:s.length<=60
 ·exact isPersonText_any s (by omega) w
 ·obtain⟨S,HS⟩:=nn_ (⟨s.toArray⟩:ByteArray)
  have hsz:S.size=s.length:=by rw[HS.out];simp[ByteArray.size]
  rw[<-HS.out]
  have hi:¬ (S.size:Int)<=60:=by omega
  go_enter Tryz.func120,Tryz.ntmps120
  go_wp2
  go_ret
  exact⟨yj (fun h2=>h h2.1),Below.refl _ _⟩
structure Per where
 name:List UInt8
 mail:List UInt8
 time:Int
 zone:Int
def okP (p:Per):Prop:=okT p.name/\okT p.mail/\(0<=p.time/\p.time<=1099511627776)/\-840<=p.zone/\p.zone<=840
def xq (p:Per):Array Value:=#[.string ⟨p.name.toArray⟩,.string ⟨p.mail.toArray⟩,.int .i64 p.time,.int .i64 p.zone]
set_option maxHeartbeats 1000000 in
theorem isPerson_any (p:Per) (w:World) :
  Calls Tryz.prog 82 #[.agg (xq p)] w fun e w'=>BIs (okP p) e/\Below w.heap.size w w':=by
 obtain⟨nm,ml,tm,zn⟩:=p
 have HN:Hid (∀ w,Calls Tryz.prog 120 #[.string ⟨nm.toArray⟩] w fun e w'=>BIs (okT nm) e/\Below w.heap.size w w'):=fun w=>kY nm w
 have HM:Hid (∀ w,Calls Tryz.prog 120 #[.string ⟨ml.toArray⟩] w fun e w'=>BIs (okT ml) e/\Below w.heap.size w w'):=fun w=>kY ml w
 obtain⟨N,HNN⟩:=nn_ (⟨nm.toArray⟩:ByteArray)
 obtain⟨M,HMM⟩:=nn_ (⟨ml.toArray⟩:ByteArray)
 obtain⟨G,HG⟩:=nm_ w.heap.size
 obtain⟨w0,HW0⟩:=nm_ (w.alloc (.cells #[.string N,.string M,.int .i64 tm,.int .i64 zn] 38))
 have HB0:Hid (Below G w w0):=hid (by rw[<-HW0.out,<-HG.out];exact(Below.refl _ w).alloc (Nat.le_refl _) _)
 have hs0:G<w0.heap.size:=by rw[<-HW0.out,<-HG.out];simp
 have HC:Hid (∀ W,Below w0.heap.size w0 W->W.cell? ⟨G,1,none⟩=some (.string M)/\W.cell? ⟨G,2,none⟩=some (.int .i64 tm)/\W.cell? ⟨G,3,none⟩=some (.int .i64 zn)):=fun W hW=>by
  refine⟨(hW.cell (p:=⟨G,1,none⟩) hs0).trans ?_,(hW.cell (p:=⟨G,2,none⟩) hs0).trans ?_,(hW.cell (p:=⟨G,3,none⟩) hs0).trans ?_⟩
  ·rw[<-HW0.out,<-HG.out];simp
  ·rw[<-HW0.out,<-HG.out];simp
  ·rw[<-HW0.out,<-HG.out];simp
 have hc0:w0.cell? ⟨G,0,none⟩=some (.string N):=by rw[<-HW0.out,<-HG.out];simp
 rw[<-HNN.out] at HN
 rw[<-HMM.out] at HM
 unfold xq
 simp only
 rw[<-HNN.out,<-HMM.out]
 go_enter Tryz.func82,Tryz.ntmps82
 go_wp2_with fail
 rw[HG.out,HW0.out]
 refine(HN.out w0).mono ?_
 rintro ev w1 ⟨hb,hb1⟩
 have HB1:Hid _:=hb1
 clear hb1
 rcases kJ hb with ⟨hy1,rfl⟩ | ⟨hn1,rfl⟩
 ·have HY1:Hid (okT nm):=hy1
  clear hy1 hb
  obtain⟨hc1,hc2,hc3⟩:=HC.out w1 HB1.out
  go_wp2_with fail
  refine(HM.out w1).mono ?_
  rintro ev w2 ⟨hb,hb2⟩
  have HB2:Hid (Below w0.heap.size w0 w2):=HB1.out.trans (hb2.mono HB1.out.size)
  clear hb2 hc1 hc2 hc3
  have HBE:Hid (Below w.heap.size w w2):=hid (by rw[HG.out];exact HB0.out.trans (HB2.out.mono (Nat.le_of_lt hs0)))
  obtain⟨hc1,hc2,hc3⟩:=HC.out w2 HB2.out
  rcases kJ hb with ⟨hy2,rfl⟩ | ⟨hn2,rfl⟩
  ·have HY2:Hid (okT ml):=hy2
   clear hy2 hb
   by_cases t1:0<=tm
   ·by_cases t2:tm<=1099511627776
    ·by_cases t3 : -840<=zn
     ·by_cases t4:zn<=840
      ·have HOK:Hid (okP ⟨nm,ml,tm,zn⟩):=⟨HY1.out,HY2.out,⟨t1,t2⟩,t3,t4⟩
       go_wp2
       go_ret
       exact⟨X8 HOK.out,HBE.out⟩
      ·have HOK:Hid (¬ okP ⟨nm,ml,tm,zn⟩):=fun h=>t4 h.2.2.2.2
       have HT4:Hid (decide (zn<=840)=false):=decide_eq_false t4
       go_wp2
       go_ret
       refine⟨?_,HBE.out⟩
       show BIs _ (.returned (.bool (decide (zn<=840))))
       rw[HT4.out]
       exact yj HOK.out
     ·have HOK:Hid (¬ okP ⟨nm,ml,tm,zn⟩):=fun h=>t3 h.2.2.2.1
      go_wp2
      go_ret
      exact⟨yj HOK.out,HBE.out⟩
    ·have HOK:Hid (¬ okP ⟨nm,ml,tm,zn⟩):=fun h=>t2 h.2.2.1.2
     go_wp2
     go_ret
     exact⟨yj HOK.out,HBE.out⟩
   ·have HOK:Hid (¬ okP ⟨nm,ml,tm,zn⟩):=fun h=>t1 h.2.2.1.1
    go_wp2
    go_ret
    exact⟨yj HOK.out,HBE.out⟩
  ·have HOK:Hid (¬ okP ⟨nm,ml,tm,zn⟩):=fun h=>hn2 h.2.1
   clear hn2 hb
   go_wp2
   go_ret
   exact⟨yj HOK.out,HBE.out⟩
 ·have HOK:Hid (¬ okP ⟨nm,ml,tm,zn⟩):=fun h=>hn1 h.1
  clear hn1 hb
  go_wp2
  go_ret
  exact⟨yj HOK.out,by rw[HG.out];exact HB0.out.trans (HB1.out.mono (Nat.le_of_lt hs0))⟩
theorem enter95 (v1 v2:Value) (w:World):(callFunc 122 #[v1,v2]).run Tryz.prog w=.ok (.enter 122 #[v1,v2]) w:=by kernel_rfl
theorem enter102 (v:Value) (w:World):(callFunc 158 #[v]).run Tryz.prog w=.ok (.enter 158 #[v]) w:=by kernel_rfl
def BoxP (G:Nat) (N M:ByteArray) (tm zn:Int) (W:World):Prop:=W.cell? ⟨G,0,none⟩=some (.string N)/\W.cell? ⟨G,1,none⟩=some (.string M)/\W.cell? ⟨G,2,none⟩=some (.int .i64 tm)/\W.cell? ⟨G,3,none⟩=some (.int .i64 zn)
theorem BoxP.below {G:Nat} {N M:ByteArray} {tm zn:Int} {W W':World} (h:BoxP G N M tm zn W) (hG:G<W.heap.size) (hb:Below W.heap.size W W'):BoxP G N M tm zn W' :=
 ⟨(hb.cell (p:=⟨G,0,none⟩) hG).trans h.1,(hb.cell (p:=⟨G,1,none⟩) hG).trans h.2.1,(hb.cell (p:=⟨G,2,none⟩) hG).trans h.2.2.1,(hb.cell (p:=⟨G,3,none⟩) hG).trans h.2.2.2⟩
def x8 (p:Per):List UInt8:=p.name++32 :: 60 :: (p.mail++62 :: 32 :: (Lib.decDigits p.time.toNat++32 :: xk p.zone))
theorem uV (n:Nat) (h:n<=1099511627776):(Lib.decDigits n).length<=13:=dig_len 12 n (by omega)
set_option maxHeartbeats 1000000 in
theorem personText_any (p:Per) (hp:okP p) (w:World) (ht:Tab w) :
  Calls Tryz.prog 128 #[.agg (xq p)] w fun e w'=>e=.returned (.string ⟨(x8 p).toArray⟩)/\Below w.heap.size w w':=by
 obtain⟨nm,ml,tm,zn⟩:=p
 obtain⟨⟨n1,_⟩,⟨m1,_⟩,⟨t1,t2⟩,z1,z2⟩:=hp
 simp only at n1 m1 t1 t2 z1 z2
 obtain⟨tn,rfl⟩:∃ tn:Nat,tm=(tn:Int):=⟨tm.toNat,by omega⟩
 have htn:tn<=1099511627776:=by omega
 obtain⟨N,HNN⟩:=nn_ (⟨nm.toArray⟩:ByteArray)
 obtain⟨M,HMM⟩:=nn_ (⟨ml.toArray⟩:ByteArray)
 obtain⟨D,HDD⟩:=nn_ (⟨(Lib.decDigits tn).toArray⟩:ByteArray)
 obtain⟨Z,HZZ⟩:=nn_ (⟨(xk zn).toArray⟩:ByteArray)
 have hNs:N.size<=60:=by rw[HNN.out];simpa [ByteArray.size] using n1
 have hMs:M.size<=60:=by rw[HMM.out];simpa [ByteArray.size] using m1
 have hDs:D.size<=13:=by rw[HDD.out];simpa [ByteArray.size] using uV tn htn
 have hZs:Z.size=5:=by rw[HZZ.out];simp[ByteArray.size,xk,two]
 obtain⟨X1,HX1⟩:=nm_ (N++(⟨#[32,60]⟩:ByteArray))
 obtain⟨X2,HX2⟩:=nm_ (X1++M)
 obtain⟨X3,HX3⟩:=nm_ (X2++(⟨#[62,32]⟩:ByteArray))
 obtain⟨X4,HX4⟩:=nm_ (X3++D)
 obtain⟨X5,HX5⟩:=nm_ (X4++(⟨#[32]⟩:ByteArray))
 obtain⟨X6,HX6⟩:=nm_ (X5++Z)
 have hX1:X1.size=N.size+2:=by rw[<-HX1.out,ByteArray.size_append];rfl
 have hX2:X2.size=X1.size+M.size:=by rw[<-HX2.out,ByteArray.size_append]
 have hX3:X3.size=X2.size+2:=by rw[<-HX3.out,ByteArray.size_append];rfl
 have hX4:X4.size=X3.size+D.size:=by rw[<-HX4.out,ByteArray.size_append]
 have hX5:X5.size=X4.size+1:=by rw[<-HX5.out,ByteArray.size_append];rfl
 have HR:Hid ((⟨(x8 ⟨nm,ml,tn,zn⟩).toArray⟩:ByteArray)=X6):=hid (by
  rw[<-HX6.out,<-HX5.out,<-HX4.out,<-HX3.out,<-HX2.out,<-HX1.out,HNN.out,HMM.out,HDD.out,HZZ.out,show (⟨#[32,60]⟩:ByteArray)=⟨[32,60].toArray⟩ from rfl,show (⟨#[62,32]⟩:ByteArray)=⟨[62,32].toArray⟩ from rfl,show (⟨#[32]⟩:ByteArray)=⟨[32].toArray⟩ from rfl,yw,yw,yw,yw,yw,yw]
  simp[x8])
 obtain⟨G,HG⟩:=nm_ w.heap.size
 obtain⟨w0,HW0⟩:=nm_ (w.alloc (.cells #[.string N,.string M,.int .i64 tn,.int .i64 zn] 38))
 have HB0:Hid (Below G w w0):=hid (by rw[<-HW0.out,<-HG.out];exact(Below.refl _ w).alloc (Nat.le_refl _) _)
 have hs0:G<w0.heap.size:=by rw[<-HW0.out,<-HG.out];simp
 have HX0:Hid (BoxP G N M tn zn w0):=hid (by rw[<-HW0.out,<-HG.out];exact⟨by simp,by simp,by simp,by simp⟩)
 have HTA:Hid (∀ W,Below G w W->Tab W):=fun W hW=>ht.below (by rw[HG.out];exact hW)
 have HF:Hid (∀ W,Below G w W->Calls Tryz.prog 122 #[.int .i64 tn,.int .i64 10] W fun e w'=>e=.returned (.string D)/\Below W.heap.size W w'):=fun W hW=>by rw[HDD.out];exact fmt_any tn htn W (HTA.out W hW)
 have HZ:Hid (∀ W,Calls Tryz.prog 158 #[.int .i64 zn] W fun e w'=>e=.returned (.string Z)/\w'=W):=fun W=>by rw[HZZ.out];exact zoneText_any zn z1 z2 W
 rw[HR.out]
 unfold xq
 simp only
 rw[<-HNN.out,<-HMM.out]
 go_enter Tryz.func128,Tryz.ntmps128
 go_wp2_with fail
 rw[HG.out,HW0.out]
 clear ht n1 m1
 refine wp_region_held_drew (S:=BoxP G N M tn zn) (by kernel_rfl) (by exact HX0.out) (fun hHeld=>?_)
 refine tZ (i:=0) hHeld ?_
 try simp only[Act.put,sL]
 refine tZ (i:=1) hHeld ?_
 try simp only[Act.put,sL]
 refine kV (i:=2) (v:=.string X1) rfl (by kernel_rfl) (by kernel_rfl) (by kernel_rfl) (fun _ _ _ h=>h) (Or.inl ⟨by rfl,?_⟩) hHeld ?_
 ·rintro w' ⟨c0,c1,c2,c3⟩;rw[<-HX1.out];go_simp;first | done | omega | rfl
 try simp only[Act.put,sL]
 refine tZ (i:=3) hHeld ?_
 try simp only[Act.put,sL]
 refine tZ (i:=4) hHeld ?_
 try simp only[Act.put,sL]
 refine kV (i:=5) (v:=.string X2) rfl (by kernel_rfl) (by kernel_rfl) (by kernel_rfl) (fun _ _ _ h=>h) (Or.inl ⟨by rfl,?_⟩) hHeld ?_
 ·rintro w' ⟨c0,c1,c2,c3⟩;rw[<-HX2.out];go_simp;first | done | omega | rfl
 try simp only[Act.put,sL]
 refine kV (i:=6) (v:=.string X3) rfl (by kernel_rfl) (by kernel_rfl) (by kernel_rfl) (fun _ _ _ h=>h) (Or.inl ⟨by rfl,?_⟩) hHeld ?_
 ·rintro w' ⟨c0,c1,c2,c3⟩;rw[<-HX3.out];go_simp;first | done | omega | rfl
 try simp only[Act.put,sL]
 refine tZ (i:=7) hHeld ?_
 try simp only[Act.put,sL]
 refine tZ (i:=8) hHeld ?_
 try simp only[Act.put,sL]
 refine tZ (i:=12) hHeld ?_
 try simp only[Act.put,sL]
 refine tZ (i:=13) hHeld ?_
 try simp only[Act.put,sL]
 have HB0d:Hid (Below G w w0.drew):=hid ⟨HB0.out.os,HB0.out.tape,HB0.out.output,HB0.out.size,HB0.out.block⟩
 refine wpAnyH_ready (rs:=[9]) (by kernel_rfl) (by simp) ?_
 refine xj rfl (fun KK hKK=>?_) AllReadyH.nil
 refine qJ (by rfl) 122 [.tmp 11,.const (.int .i64 10)] _ [.int .i64 tn,.int .i64 10] _ (by rfl) (by rfl) (enter95 _ _) (HF.out _ HB0d.out) ?_
 rintro e w1 ⟨rfl,hb1⟩
 refine⟨_,rfl,?_⟩
 have hs1:G<w1.heap.size:=Nat.lt_of_lt_of_le hs0 hb1.size
 have HB1:Hid (Below G w w1):=HB0d.out.trans (hb1.mono (Nat.le_of_lt hs0))
 refine hKK.out _ _ (BoxP.below (W:=w0.drew) hHeld hs0 hb1) (fun hHeld=>?_)
 clear hKK KK hb1
 try simp only[Act.put,sL]
 refine kV (i:=10) (v:=.string X4) rfl (by kernel_rfl) (by kernel_rfl) (by kernel_rfl) (fun _ _ _ h=>h) (Or.inl ⟨by rfl,?_⟩) hHeld ?_
 ·rintro w' ⟨c0,c1,c2,c3⟩;rw[<-HX4.out];go_simp;first | done | omega | rfl
 try simp only[Act.put,sL]
 refine kV (i:=11) (v:=.string X5) rfl (by kernel_rfl) (by kernel_rfl) (by kernel_rfl) (fun _ _ _ h=>h) (Or.inl ⟨by rfl,?_⟩) hHeld ?_
 ·rintro w' ⟨c0,c1,c2,c3⟩;rw[<-HX5.out];go_simp;first | done | omega | rfl
 try simp only[Act.put,sL]
 refine wpAnyH_ready (rs:=[14]) (by kernel_rfl) (by simp) ?_
 refine xj rfl (fun KK hKK=>?_) AllReadyH.nil
 refine qJ (by rfl) 158 [.tmp 16] _ [.int .i64 zn] _ (by rfl) (by rfl) (enter102 _) (HZ.out _) ?_
 rintro e w2 ⟨rfl,rfl⟩
 refine⟨_,rfl,?_⟩
 refine hKK.out _ _ hHeld (fun hHeld2=>?_)
 clear hKK KK hHeld2
 try simp only[Act.put,sL]
 refine kV (i:=15) (v:=.string X6) rfl (by kernel_rfl) (by kernel_rfl) (by kernel_rfl) (fun _ _ _ h=>h) (Or.inl ⟨by rfl,?_⟩) hHeld ?_
 ·rintro w' ⟨c0,c1,c2,c3⟩;rw[<-HX6.out];go_simp;first | done | omega | rfl
 try simp only[Act.put,sL]
 refine tZ (i:=16) hHeld ?_
 try simp only[Act.put,sL]
 refine wpAnyH_done (by kernel_rfl) ?_ _
 go_wp2
 go_ret
 exact⟨rfl,by rw[HG.out];exact HB1.out⟩
end Go.Proofs.YtgliaiemkfopeaaGreatDoor
namespace Go.Proofs.YtgliaiemkfopeaaGreatDoor.Hx
open Go.RowKit
def hv (c:Int):Int:=if 48<=c/\c<=57 then c-48 else if 97<=c/\c<=102 then c-87 else -1
def sgn (s:ByteArray) (k:Nat):Int:=(s.data.toList.getD k 0).toNat
def zeros:List Int:=List.replicate 20 0
def idAt (s:ByteArray):Nat->List Int
 | 0=>zeros
 | k+1=>(idAt s k).set (k / 2) (((idAt s k).getD (k / 2) 0*16+hv (sgn s k)) % 256)
theorem idAt_len (s:ByteArray):∀ k,(idAt s k).length=20
 | 0=>rfl
 | k+1=>by rw[idAt,List.length_set,idAt_len s k]
theorem sgn_bd (s:ByteArray) (k:Nat):0<=sgn s k/\sgn s k<256:=by
 unfold sgn
 have:=(s.data.toList.getD k 0).toNat_lt
 omega
theorem idAt_bd (s:ByteArray):∀ k,∀ n ∈ idAt s k,0<=n/\n<256
 | 0=>by intro n hn;simp[idAt,zeros] at hn;omega
 | k+1=>by
  intro n hn
  rcases List.mem_or_eq_of_mem_set hn with h | h
  ·exact idAt_bd s k n h
  ·omega
def good (s:ByteArray):Prop := ∀ k,k<40->0<=hv (sgn s k)
theorem firstIdx_digs (c:Int) (h0:0<=c) (h1:c<256):firstIdx { data:=#[48,49,50,51,52,53,54,55,56,57,97,98,99,100,101,102] } c.toNat.toUInt8=hv c:=by
 obtain⟨n,rfl⟩:=Int.eq_ofNat_of_zero_le h0
 have:∀ n:Nat,n<256->firstIdx { data:=#[48,49,50,51,52,53,54,55,56,57,97,98,99,100,101,102] } ((n:Int).toNat.toUInt8)=hv n:=by decide +kernel
 exact this n (by omega)
set_option maxHeartbeats 1000000 in
theorem Yz (c:Int) (w:World) (h0:0<=c) (h1:c<256) :
  Calls Tryz.prog 177 #[.string { data:=#[48,49,50,51,52,53,54,55,56,57,97,98,99,100,101,102] },.int .u8 c] w fun e w'=>e=.returned (.int .i64 (hv c))/\w'=w:=by
 have h17:=@run_callFunc_extern Tryz.prog 218 _ Extern.BytealgIndexByte.indexByte Tryz.func218 (by kernel_rfl) (by kernel_rfl) (by kernel_rfl) (by kernel_rfl)
 have hr:=run_indexByte_string (P:=Tryz.prog) { data:=#[48,49,50,51,52,53,54,55,56,57,97,98,99,100,101,102] } c
 rw[firstIdx_digs c h0 h1] at hr
 go_enter Tryz.func177,Tryz.ntmps177
 go_wp2
 go_ret
 exact⟨rfl,rfl⟩
theorem qw {P:Program} {fn:Func} {p q:Tmp} {ty:TypeId} {t2:TypeId} (h:fn.results=#[.cell p ty,.tmp q]) (tmps:Array Value) (w:World) (g:Nat) (cs:List Value) (d:TypeDesc) (v:Value)
  (hp:tmps.getD p undef=.pointer (some ⟨g,0,none⟩)) (hq:tmps.getD q undef=v) (hc:w.rangeAt g 0 cs) (hu:P.underlying ty=some d) (hd:d.isRow=true) (hi:(P.info? ty).map (·.size)=some cs.length) :
  (results fn tmps).run P w=.ok (.tuple #[.agg cs.toArray,v]) w:=by
 have hp':tmps[p]?.getD undef=.pointer (some ⟨g,0,none⟩):=by simpa using hp
 have hq':tmps[q]?.getD undef=v:=by simpa using hq
 simp[results,h,hp',hq',asAddr,run_loadVar_mid w g 0 ty cs d hc hu hd hi]
end Go.Proofs.YtgliaiemkfopeaaGreatDoor.Hx
namespace Go.Proofs.YtgliaiemkfopeaaGreatDoor
open Go.RowKit
theorem Z1 (s:List UInt8) (j:Nat) (w:World) (x:UInt8) (h:s[j]? = some x):(Instr.index 9 (.string ⟨s.toArray⟩) (.int .i64 j)).run Tryz.prog w=.ok (.int .u8 (x.toNat:Int)) w:=by
 obtain⟨hj,hx⟩:=List.getElem?_eq_some_iff.1 h
 have hsz:(⟨s.toArray⟩:ByteArray).size=s.length:=by simp[ByteArray.size]
 rw[run_index_string (P:=Tryz.prog) w 9 ⟨s.toArray⟩ .i64 j Tryz.underlying9,dif_pos ⟨by omega,by rw[hsz];omega⟩]
 simp only[Int.toNat_natCast]
 rw[<-hx]
 rfl
theorem take_snoc8 (s:List UInt8) (j:Nat) (x:UInt8) (h:s[j]? = some x):s.take (j+1)=s.take j++[x]:=by
 rw[List.take_add_one,h]
 rfl
theorem u8_ne {x:UInt8} {n:Nat} (hn:n<256):(x.toNat:Int)=(n:Int) ↔ x=UInt8.ofNat n:=by
 constructor
 ·intro h
  apply UInt8.toNat_inj.1
  rw[UInt8.toNat_ofNat']
  omega
 ·rintro rfl
  rw[UInt8.toNat_ofNat']
  omega
theorem ZY {p:UInt8->Bool} : ∀ {l:List UInt8},l.dropWhile p=l ↔ ∀ b,l[0]? = some b->p b=false
 | []=>by simp
 | b :: l=>by
  rw[List.dropWhile_cons]
  by_cases hb:p b=true
  ·rw[if_pos hb]
   constructor
   ·intro h
    have h2:=congrArg List.length h
    have h3:=(List.dropWhile_sublist p (l:=l)).length_le
    simp at h2
    omega
   ·intro h
    have:=h b (by simp)
    rw[hb] at this
    cases this
  ·rw[if_neg hb]
   simp[hb]
theorem trim_self (s:List UInt8):Lib.trimS s [32]=s ↔ ∀ b,(s[0]? = some b ∨ s[s.length-1]? = some b)->b ≠ 32:=by
 have key:Lib.trimS s [32]=s ↔ s.reverse.dropWhile ([32].contains ·)=s.reverse/\s.dropWhile ([32].contains ·)=s:=by
  unfold Lib.trimS Lib.trimLeftS Lib.trimRightS
  constructor
  ·intro h
   have h1:=(List.dropWhile_sublist ([32].contains ·) (l:=s.reverse))
   have h2:=(List.dropWhile_sublist ([32].contains ·) (l:=(s.reverse.dropWhile ([32].contains ·)).reverse)).length_le
   rw[h] at h2
   have h3:=h1.length_le
   simp only[List.length_reverse] at h2 h3
   have h4:=h1.eq_of_length (by simp only[List.length_reverse];omega)
   refine⟨h4,?_⟩
   rw[h4,List.reverse_reverse] at h
   exact h
  ·rintro⟨h1,h2⟩
   rw[h1,List.reverse_reverse,h2]
 rw[key,ZY,ZY]
 have hc:∀ b:UInt8,([32].contains b=false) ↔ b ≠ 32:=fun b=>by simp
 simp only[hc]
 by_cases h0:s=[]
 ·subst h0
  simp
 ·have hl:0<s.length:=List.length_pos_iff.2 h0
  rw[List.getElem?_reverse hl]
  constructor
  ·rintro⟨h1,h2⟩ b (h | h)
   ·exact h2 b h
   ·exact h1 b (by simpa using h)
  ·intro h
   exact⟨fun b hb=>h b (.inr (by simpa using hb)),fun b hb=>h b (.inl hb)⟩
def badS (c:Int):Prop:=c=60 ∨ c=62 ∨ c=10 ∨ c=0
theorem badS_iff (x:UInt8):¬ badS (x.toNat:Int) ↔ x ≠ 60/\x ≠ 62/\x ≠ 10/\x ≠ 0:=by
 unfold badS
 rw[show ((x.toNat:Int)=60) ↔ x=60 from u8_ne (n:=60) (by decide),show ((x.toNat:Int)=62) ↔ x=62 from u8_ne (n:=62) (by decide),show ((x.toNat:Int)=10) ↔ x=10 from u8_ne (n:=10) (by decide),show ((x.toNat:Int)=0) ↔ x=0 from u8_ne (n:=0) (by decide)]
 constructor
 ·intro h
  exact⟨fun e=>h (.inl e),fun e=>h (.inr (.inl e)),fun e=>h (.inr (.inr (.inl e))),fun e=>h (.inr (.inr (.inr e)))⟩
 ·rintro⟨a,b,c,d⟩ (h | h | h | h)
  ·exact a h
  ·exact b h
  ·exact c h
  ·exact d h
theorem plain_any (s:List UInt8) (w:World):Calls Tryz.prog 89 #[.string ⟨s.toArray⟩] w fun e w'=>BIs (okT s) e/\w'=w:=by
 obtain⟨S,HS⟩:=nn_ (⟨s.toArray⟩:ByteArray)
 obtain⟨n,HN⟩:=nm_ s.length
 have hsz:S.size=n:=by rw[HS.out,<-HN.out];simp[ByteArray.size]
 rw[<-HS.out]
 by_cases h:n<=60
 ·have hi:¬ (60:Int)<(n:Int):=by omega
  go_enter Tryz.func89,Tryz.ntmps89
  go_wp2
  go_loopg [3] n (fun g i wr=>∃ j:Nat,j<=n/\g=n-j/\i=.int .i64 j/\Hid (∀ x ∈ s.take j,¬ badS (x.toNat:Int))/\Hid (wr=w))
  case atStart=>exact⟨0,by omega,rfl,rfl,hid (by simp),hid rfl⟩
  case round =>
   obtain⟨j,hj,hk,rfl,HT,HW⟩:=hrel
   by_cases hlt:j<n
   ·have hlti:(j:Int)<(n:Int):=by omega
    obtain⟨x,hx⟩:∃ x,s[j]? = some x:=⟨_,List.getElem?_eq_getElem (by rw[HN.out];exact hlt)⟩
    obtain⟨c,HC⟩:=nm_ (x.toNat:Int)
    have HX:Hid (s[j]? = some x):=hx
    have hix:∀ w1:World,(Instr.index 9 (.string S) (.int .i64 j)).run Tryz.prog w1=.ok (.int .u8 c) w1:=fun w1=>by rw[HS.out,<-HC.out];exact Z1 s j w1 x HX.out
    clear hx
    by_cases hc:badS c
    ·have HM:Hid (¬ okT s):=fun ht=>(badS_iff x).2 (ht.2.1 x (List.mem_of_getElem? HX.out)) (by rw[HC.out];exact hc)
     clear HC
     rcases hc with rfl | rfl | rfl | rfl
     all_goals
      go_wp2
      go_ret
      exact⟨yj HM.out,HW.out⟩
    ·have HBD:Hid (¬ badS c):=hc
     have b1:(c == 60)=false:=by simp;exact fun e=>hc (.inl e)
     have b2:(c == 62)=false:=by simp;exact fun e=>hc (.inr (.inl e))
     have b3:(c == 10)=false:=by simp;exact fun e=>hc (.inr (.inr (.inl e)))
     have b4:(c == 0)=false:=by simp;exact fun e=>hc (.inr (.inr (.inr e)))
     clear hc
     go_wp2
     go_roundg (n-(j+1))
     case measure=>omega
     case rel =>
      refine⟨j+1,by omega,rfl,by go_num,hid ?_,HW⟩
      rw[take_snoc8 s j x HX.out]
      intro y hy
      rcases List.mem_append.1 hy with hy | hy
      ·exact HT.out y hy
      ·have:y=x:=by simpa using hy
       subst this
       rw[HC.out]
       exact HBD.out
   ·have hlti:¬ (j:Int)<(n:Int):=by omega
    have hjn:j=n:=by omega
    have HT2:Hid (∀ x ∈ s,x ≠ 60/\x ≠ 62/\x ≠ 10/\x ≠ 0):=hid (by
     have h1:=HT.out
     rw[List.take_of_length_le (by rw[HN.out];omega)] at h1
     exact fun x hx=>(badS_iff x).1 (h1 x hx))
    have H60:Hid (s.length<=60):=hid (by rw[HN.out];exact h)
    have HOK:Hid (okT s ↔ ∀ b,(s[0]? = some b ∨ s[s.length-1]? = some b)->b ≠ 32):=hid (by
     unfold okT
     rw[trim_self]
     exact⟨fun h=>h.2.2,fun h=>⟨H60.out,HT2.out,h⟩⟩)
    clear hjn
    by_cases h0:n=0
    ·have HY:Hid (okT s):=hid (by
      rw[HOK.out]
      have:s=[]:=List.length_eq_zero_iff.1 (HN.out.trans h0)
      subst this
      simp)
     have hb0:((n:Int) == 0)=true:=by simp;omega
     go_wp2
     go_ret
     exact⟨X8 HY.out,HW.out⟩
    ·have hb0:((n:Int) == 0)=false:=by simp;omega
     obtain⟨x0,hx0⟩:∃ x,s[0]? = some x:=⟨_,List.getElem?_eq_getElem (by rw[HN.out];omega)⟩
     obtain⟨x1,hx1⟩:∃ x,s[s.length-1]? = some x:=⟨_,List.getElem?_eq_getElem (by rw[HN.out];omega)⟩
     obtain⟨c0,HC0⟩:=nm_ (x0.toNat:Int)
     obtain⟨c1,HC1⟩:=nm_ (x1.toNat:Int)
     have HX0:Hid (s[0]? = some x0):=hx0
     have HX1:Hid (s[s.length-1]? = some x1):=hx1
     have hi0:∀ w1:World,(Instr.index 9 (.string S) (.int .i64 0)).run Tryz.prog w1=.ok (.int .u8 c0) w1:=fun w1=>by rw[HS.out,<-HC0.out];exact Z1 s 0 w1 x0 HX0.out
     have hi1:∀ w1:World,(Instr.index 9 (.string S) (.int .i64 ((n:Int)-1))).run Tryz.prog w1=.ok (.int .u8 c1) w1:=fun w1=>by
      rw[HS.out,<-HC1.out,show ((n:Int)-1)=((s.length-1:Nat):Int) from by rw[HN.out];omega]
      exact Z1 s _ w1 x1 HX1.out
     have hn1:1<=n:=by omega
     clear hx0 hx1
     have HQ:Hid (okT s ↔ c0 ≠ 32/\c1 ≠ 32):=hid (by
      rw[HOK.out,<-HC0.out,<-HC1.out]
      have e0:((x0.toNat:Int)=32) ↔ x0=32:=u8_ne (n:=32) (by decide)
      have e1:((x1.toNat:Int)=32) ↔ x1=32:=u8_ne (n:=32) (by decide)
      rw[Ne,Ne,e0,e1]
      constructor
      ·intro h
       exact⟨h x0 (.inl HX0.out),h x1 (.inr HX1.out)⟩
      ·rintro⟨h1,h2⟩ b (h | h)
       ·rw[HX0.out] at h;cases h;exact h1
       ·rw[HX1.out] at h;cases h;exact h2)
     by_cases q0:c0=32
     ·have HNO:Hid (¬ okT s):=fun h=>(HQ.out.1 h).1 q0
      clear HQ HC0
      subst q0
      go_wp2
      go_ret
      exact⟨yj HNO.out,HW.out⟩
     ·have q0b:(c0 != 32)=true:=by simpa using q0
      by_cases q1:c1=32
      ·have HNO:Hid (¬ okT s):=fun h=>(HQ.out.1 h).2 q1
       clear HQ HC1
       subst q1
       go_wp2
       go_ret
       exact⟨yj HNO.out,HW.out⟩
      ·have q1b:(c1 != 32)=true:=by simpa using q1
       have HY:Hid (okT s):=HQ.out.2 ⟨q0,q1⟩
       clear HQ
       go_wp2
       go_ret
       exact⟨X8 HY.out,HW.out⟩
 ·have hi:(60:Int)<(n:Int):=by omega
  have HNO:Hid (¬ okT s):=fun ht=>h (by rw[<-HN.out];exact ht.1)
  go_enter Tryz.func89,Tryz.ntmps89
  go_wp2
  go_ret
  exact⟨yj HNO.out,rfl⟩
theorem str_add (x y:List UInt8):(⟨x.toArray⟩:ByteArray) ++ ⟨y.toArray⟩=⟨(x++y).toArray⟩:=by
 rw[ByteArray.mk_append_mk]
def Dl (n m:Nat) (s:List UInt8):Prop:=if m=0 then s=Lib.decDigits n else Lib.decDigits n=Lib.decDigits m++s
theorem Dl.next {n m:Nat} {s:List UInt8} (h:Dl n m s) (hm:0<m):Dl n (m / 10) (UInt8.ofNat (48+m % 10) :: s):=by
 unfold Dl at h ⊢
 rw[if_neg (by omega)] at h
 by_cases h10:m<10
 ·rw[if_pos (by omega),h,Lib.decDigits,dif_pos h10,Nat.mod_eq_of_lt h10]
  rfl
 ·rw[if_neg (by omega),h]
  conv=>lhs;rw[Lib.decDigits,dif_neg h10]
  simp
def valN (s:List UInt8):Nat:=s.foldl (fun n x=>n*10+(x.toNat-48)) 0
theorem valN_snoc (l:List UInt8) (x:UInt8):valN (l++[x])=valN l*10+(x.toNat-48):=by simp[valN]
def digS (x:UInt8):Prop:=48<=x.toNat/\x.toNat<=57
end Go.Proofs.YtgliaiemkfopeaaGreatDoor
namespace Go.Proofs.YtgliaiemkfopeaaGreatDoor
def zs (q:Per):UInt8:=if q.zone<0 then 45 else 43
theorem xK (m:Nat) (h:m<10):(UInt8.ofNat (48+m)).toNat=48+m:=by rw[UInt8.toNat_ofNat'];omega
theorem dig_val (n:Nat):valN (Lib.decDigits n)=n/\(∀ x ∈ Lib.decDigits n,digS x)/\1<=(Lib.decDigits n).length/\(1<=n->(Lib.decDigits n)[0]? ≠ some 48):=by
 induction n using Nat.strongRecOn with
 | _ n ih =>
  by_cases h:n<10
  ·have e:Lib.decDigits n=[UInt8.ofNat (48+n)]:=by rw[Lib.decDigits,dif_pos h]
   have hx:=xK n h
   rw[e]
   refine⟨?_,?_,by simp,?_⟩
   ·simp only[valN,List.foldl_cons,List.foldl_nil,hx];omega
   ·intro x hx2
    have:x=UInt8.ofNat (48+n):=by simpa using hx2
    subst this
    unfold digS
    omega
   ·intro h1 h2
    have h3:UInt8.ofNat (48+n)=48:=by simpa using h2
    rw[h3] at hx
    have:(48:UInt8).toNat=48:=rfl
    omega
  ·have e:Lib.decDigits n=Lib.decDigits (n / 10)++[UInt8.ofNat (48+n % 10)]:=by conv=>lhs;rw[Lib.decDigits,dif_neg h]
   have hx:=xK (n % 10) (by omega)
   obtain⟨i1,i2,i3,i4⟩:=ih (n / 10) (by omega)
   rw[e]
   refine⟨?_,?_,by simp,?_⟩
   ·rw[valN_snoc,i1,hx];omega
   ·intro x hx2
    rcases List.mem_append.1 hx2 with h2 | h2
    ·exact i2 x h2
    ·have:x=UInt8.ofNat (48+n % 10):=by simpa using h2
     subst this
     unfold digS
     omega
   ·intro _
    rw[List.getElem?_append_left (by omega)]
    exact i4 (by omega)
end Go.Proofs.YtgliaiemkfopeaaGreatDoor
namespace Go.Proofs.YtgliaiemkfopeaaGreatDoor
open Go.RowKit
theorem decimal_big (n:Nat) (hn:n<=1099511627776) (w:World):Calls Tryz.prog 90 #[.int .i64 n] w fun e w'=>e=.returned (.string ⟨(Lib.decDigits n).toArray⟩)/\Below w.heap.size w w':=by
 by_cases h0:n=0
 ·subst h0
  go_enter Tryz.func90,Tryz.ntmps90
  go_wp2
  go_ret
  exact⟨by rw[Lib.decDigits];rfl,Below.refl _ _⟩
 ·have h0i:¬ ((n:Int) == 0)=true:=by simp;omega
  go_enter Tryz.func90,Tryz.ntmps90
  go_wp2_with fail
  go_loopg [0,3] n (fun g v u wr=>∃ (m:Nat) (s:List UInt8) (S:ByteArray),v=.int .i64 m/\u=.string S/\g=m/\m<=1099511627776/\S.size<=13/\Hid (m*10 ^ S.size<=n)/\Hid (S=⟨s.toArray⟩)/\Hid (Dl n m s)/\Hid (Below w.heap.size w wr))
  case atStart=>exact⟨n,[],⟨#[]⟩,rfl,rfl,rfl,hn,by decide,hid (by show n*10 ^ 0<=n;omega),rfl,hid (by unfold Dl;rw[if_neg h0];simp),hid (Below.refl _ _)⟩
  case round =>
   obtain⟨m,s,S,rfl,rfl,hk,hm4,hS,HM,HS,HD,HB⟩:=hrel
   by_cases hm:0<m
   ·have hmi:(0:Int)<m:=by omega
    obtain⟨x,HX⟩:=nn_ (UInt8.ofNat (48+m % 10))
    have hx:(48:Int)+(m:Int) % 10=(x.toNat:Int):=by
     rw[HX.out,UInt8.toNat_ofNat']
     omega
    have hcv:∀ W:World,W.cell? ⟨wr.heap.size,0,none⟩=some (.int .u8 (x.toNat:Int))->Sem.run Tryz.prog (convert 60 9 (.slice (some ⟨wr.heap.size,0,none⟩) 1 1)) W=.ok (.string ⟨#[x]⟩) W:=fun W hW=>by
     refine run_convert_bytes_back W 60 9 5 ⟨wr.heap.size,0,none⟩ 1 [x] Tryz.underlying60 Tryz.underlying5 Tryz.underlying9 ?_
     intro j hj
     have:j=0:=by simpa using hj
     subst this
     simpa [Addr.add] using hW
    have hcv1:=hcv (wr.alloc (.cells #[.int .u8 (x.toNat:Int)] 5)) (by simp)
    have hSs:¬ 9223372036854775807<1+S.size:=by omega
    have h1:(⟨#[x]⟩:ByteArray).size=1:=rfl
    go_wp2
    have hS5:S.size<=12:=by
     rcases Nat.lt_or_ge S.size 13 with h | h
     ·omega
     ·have e:S.size=13:=by omega
      have:=HM.out
      rw[e] at this
      omega
    have hsz:((⟨#[x]⟩:ByteArray)++S).size=S.size+1:=by rw[ByteArray.size_append,h1];omega
    go_roundg (m / 10)
    case measure=>omega
    case rel =>
     refine⟨m / 10,x :: s,⟨#[x]⟩ ++ S,by go_num,rfl,rfl,by omega,by omega,hid ?_,hid ?_,hid ?_,hid (HB.out.alloc HB.out.size _)⟩
     ·rw[hsz,Nat.pow_succ]
      have:=HM.out
      have h2:m / 10*(10 ^ S.size*10)=m / 10*10*10 ^ S.size:=by rw[Nat.mul_assoc (m / 10),Nat.mul_comm 10]
      rw[h2]
      exact Nat.le_trans (Nat.mul_le_mul_right _ (by omega)) this
     ·rw[HS.out,show (⟨#[x]⟩:ByteArray)=⟨[x].toArray⟩ from rfl]
      exact str_add _ _
     ·rw[HX.out]
      exact HD.out.next hm
   ·have hmi:¬ (0:Int)<m:=by omega
    go_wp2
    go_ret
    refine⟨?_,HB.out⟩
    have:=HD.out
    unfold Dl at this
    rw[if_pos (by omega)] at this
    rw[<-this,<-HS.out];rfl
end Go.Proofs.YtgliaiemkfopeaaGreatDoor
