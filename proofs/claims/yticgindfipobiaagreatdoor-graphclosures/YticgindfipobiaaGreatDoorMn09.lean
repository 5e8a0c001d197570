import Derived.Test.YticgindfipobiaaGreatDoorMn08
import Derived.Test.YticgindfipobiaaGreatDoorMn07
import Derived.Test.YticgindfipobiaaGreatDoorMn02
import Derived.Defers
import Derived.Recover
import Derived.WalkKit
import Derived.LaidEql
import Derived.Stop.Asserts
import Derived.RowKitTokens
set_option linter.unusedSimpArgs false
set_option linter.unusedVariables false
set_option maxRecDepth 20000
set_option maxHeartbeats 4000000
namespace Go.Proofs.YticgindfipobiaaGreatDoor
open Go.RowKit
def okT (s:List UInt8):Prop:=s.length<=60/\(∀ x ∈ s,x ≠ 60/\x ≠ 62/\x ≠ 10/\x ≠ 0)/\Lib.trimS s [32]=s
theorem signs_asc:Asc ⟨#[60,62,10,0]⟩:=by
 intro j h
 have h':j<4:=h
 match j,h' with
 | 0,_=>exact(by decide:(60:UInt8).toNat<128)
 | 1,_=>exact(by decide:(62:UInt8).toNat<128)
 | 2,_=>exact(by decide:(10:UInt8).toNat<128)
 | 3,_=>exact(by decide:(0:UInt8).toNat<128)
theorem signs_iff (s:List UInt8):¬ kK ⟨s.toArray⟩ ⟨#[60,62,10,0]⟩ ↔ ∀ x ∈ s,x ≠ 60/\x ≠ 62/\x ≠ 10/\x ≠ 0:=by
 unfold kK
 simp only[not_exists,not_and]
 constructor
 ·intro h x hx
  have:=h x hx
  simpa using this
 ·intro h x hx
  have:=h x hx
  simpa using this
def BIs (P:Prop) (e:Ending):Prop := ∃ b:Bool,e=.returned (.bool b)/\(b=true ↔ P)
theorem zX {P:Prop} (h:¬ P):BIs P (.returned (.bool false)):=⟨false,rfl,⟨(fun h=>by cases h),fun h2=>absurd h2 h⟩⟩
theorem jZ {P:Prop} (h:P):BIs P (.returned (.bool true)):=⟨true,rfl,⟨fun _=>h,fun _=>rfl⟩⟩
theorem x8 {P:Prop} {e:Ending} (h:BIs P e):(P/\e=.returned (.bool true)) ∨ (¬ P/\e=.returned (.bool false)):=by
 obtain⟨b,rfl,hb⟩:=h
 cases b with
 | true=>exact .inl ⟨hb.1 rfl,rfl⟩
 | false=>exact .inr ⟨(fun h=>by have:=hb.2 h;cases this),rfl⟩
theorem isPersonText_any (s:List UInt8) (hs:s.length<=1000000) (w:World) :
  Calls Tryz.prog 183 #[.string ⟨s.toArray⟩] w fun e w'=>BIs (okT s) e/\Below w.heap.size w w':=by
 obtain⟨S,HS⟩:=nn_ (⟨s.toArray⟩:ByteArray)
 have hsz:S.size=s.length:=by rw[HS.out];simp[ByteArray.size]
 obtain⟨T,HT⟩:=nn_ (⟨(Lib.trimS s [32]).toArray⟩:ByteArray)
 have HCA:Hid (∀ w,Calls Tryz.prog 175 #[.string S,.string ⟨#[60,62,10,0]⟩] w fun e w'=>BIs (¬ ∀ x ∈ s,x ≠ 60/\x ≠ 62/\x ≠ 10/\x ≠ 0) e/\Below w.heap.size w w'):=fun w=>by
  refine(Qk S ⟨#[60,62,10,0]⟩ (by decide) (by decide) signs_asc (by omega) w).mono ?_
  rintro e w' ⟨⟨b,rfl,hb⟩,h2⟩
  refine⟨⟨b,rfl,?_⟩,h2⟩
  rw[hb,<-signs_iff,HS.out,Classical.not_not]
 have HTR:Hid (∀ w,Calls Tryz.prog 186 #[.string S,.string ⟨#[32]⟩] w fun e w'=>e=.returned (.string T)/\Below w.heap.size w w'):=fun w=>by
  rw[HT.out,HS.out]
  exact Any.strings_Trim_laid Tryz.lays160 info258 ⟨s.toArray⟩ ⟨#[32]⟩ w (by simp[ByteArray.size];omega) (by decide) (fun j b hb=>by
   match j,hb with
   | 0,hb=>simp at hb;subst hb;decide
   | j+1,hb=>simp at hb)
 have HEQ:Hid ((T.toList == S.toList)=true ↔ Lib.trimS s [32]=s):=hid (by
  rw[HT.out,HS.out,Lib.toList_data,Lib.toList_data]
  simp)
 rw[<-HS.out]
 by_cases h:s.length<=60
 ·have hi:(S.size:Int)<=60:=by omega
  go_enter Tryz.func183,Tryz.ntmps183
  go_wp2_with fail
  refine(HCA.out w).mono ?_
  rintro ev w1 ⟨hb,hb1⟩
  have HB1:Hid _:=hb1
  clear hb1
  rcases x8 hb with ⟨hno,rfl⟩ | ⟨hyes,rfl⟩
  ·have HNO:Hid (¬ okT s):=fun h=>hno h.2.1
   clear hno hb
   go_wp2
   go_ret
   exact⟨zX HNO.out,HB1.out⟩
  ·have HYE:Hid (∀ x ∈ s,x ≠ 60/\x ≠ 62/\x ≠ 10/\x ≠ 0):=Classical.not_not.1 hyes
   clear hyes hb
   go_wp2_with fail
   refine(HTR.out w1).mono ?_
   rintro ev w2 ⟨rfl,hb2⟩
   have HB2:Hid (Below w.heap.size w w2):=HB1.out.trans (hb2.mono HB1.out.size)
   clear hb2
   go_wp2
   go_ret
   refine⟨⟨(T.toList == S.toList),rfl,?_⟩,HB2.out⟩
   rw[HEQ.out]
   exact⟨fun h3=>⟨h,HYE.out,h3⟩,fun h3=>h3.2.2⟩
 ·have hi:¬ (S.size:Int)<=60:=by omega
  go_enter Tryz.func183,Tryz.ntmps183
  go_wp2
  go_ret
  exact⟨zX (fun h2=>h h2.1),Below.refl _ _⟩
theorem Zq (s:List UInt8) (w:World):Calls Tryz.prog 183 #[.string ⟨s.toArray⟩] w fun e w'=>BIs (okT s) e/\Below w.heap.size w w':=by
 by_cases h:s.length<=60
 ·exact isPersonText_any s (by omega) w
 ·obtain⟨S,HS⟩:=nn_ (⟨s.toArray⟩:ByteArray)
  have hsz:S.size=s.length:=by rw[HS.out];simp[ByteArray.size]
  rw[<-HS.out]
  have hi:¬ (S.size:Int)<=60:=by omega
  go_enter Tryz.func183,Tryz.ntmps183
  go_wp2
  go_ret
  exact⟨zX (fun h2=>h h2.1),Below.refl _ _⟩
structure Per where
 name:List UInt8
 mail:List UInt8
 time:Int
 zone:Int
def okP (p:Per):Prop:=okT p.name/\okT p.mail/\(0<=p.time/\p.time<=1099511627776)/\-840<=p.zone/\p.zone<=840
def qK (p:Per):Array Value:=#[.string ⟨p.name.toArray⟩,.string ⟨p.mail.toArray⟩,.int .i64 p.time,.int .i64 p.zone]
set_option maxHeartbeats 1000000 in
theorem ZQ (p:Per) (w:World) :
  Calls Tryz.prog 161 #[.agg (qK p)] w fun e w'=>BIs (okP p) e/\Below w.heap.size w w':=by
 obtain⟨nm,ml,tm,zn⟩:=p
 have HN:Hid (∀ w,Calls Tryz.prog 183 #[.string ⟨nm.toArray⟩] w fun e w'=>BIs (okT nm) e/\Below w.heap.size w w'):=fun w=>Zq nm w
 have HM:Hid (∀ w,Calls Tryz.prog 183 #[.string ⟨ml.toArray⟩] w fun e w'=>BIs (okT ml) e/\Below w.heap.size w w'):=fun w=>Zq ml w
 obtain⟨N,HNN⟩:=nn_ (⟨nm.toArray⟩:ByteArray)
 obtain⟨M,HMM⟩:=nn_ (⟨ml.toArray⟩:ByteArray)
 obtain⟨G,HG⟩:=nm_ w.heap.size
 obtain⟨w0,HW0⟩:=nm_ (w.alloc (.cells #[.string N,.string M,.int .i64 tm,.int .i64 zn] 156))
 have HB0:Hid (Below G w w0):=hid (by rw[<-HW0.out,<-HG.out];exact(Below.refl _ w).alloc (Nat.le_refl _) _)
 have hs0:G<w0.heap.size:=by rw[<-HW0.out,<-HG.out];simp
 have HC:Hid (∀ W,Below w0.heap.size w0 W->W.cell? ⟨G,1,none⟩=some (.string M)/\W.cell? ⟨G,2,none⟩=some (.int .i64 tm)/\W.cell? ⟨G,3,none⟩=some (.int .i64 zn)):=fun W hW=>by
  refine⟨(hW.cell (p:=⟨G,1,none⟩) hs0).trans ?_,(hW.cell (p:=⟨G,2,none⟩) hs0).trans ?_,(hW.cell (p:=⟨G,3,none⟩) hs0).trans ?_⟩
  ·rw[<-HW0.out,<-HG.out];simp
  ·rw[<-HW0.out,<-HG.out];simp
  ·rw[<-HW0.out,<-HG.out];simp
 have hc0:w0.cell? ⟨G,0,none⟩=some (.string N):=by rw[<-HW0.out,<-HG.out];simp
 rw[<-HNN.out] at HN
 rw[<-HMM.out] at HM
 unfold qK
 simp only
 rw[<-HNN.out,<-HMM.out]
 go_enter Tryz.func161,Tryz.ntmps161
 go_wp2_with fail
 rw[HG.out,HW0.out]
 refine(HN.out w0).mono ?_
 rintro ev w1 ⟨hb,hb1⟩
 have HB1:Hid _:=hb1
 clear hb1
 rcases x8 hb with ⟨hy1,rfl⟩ | ⟨hn1,rfl⟩
 ·have HY1:Hid (okT nm):=hy1
  clear hy1 hb
  obtain⟨hc1,hc2,hc3⟩:=HC.out w1 HB1.out
  go_wp2_with fail
  refine(HM.out w1).mono ?_
  rintro ev w2 ⟨hb,hb2⟩
  have HB2:Hid (Below w0.heap.size w0 w2):=HB1.out.trans (hb2.mono HB1.out.size)
  clear hb2 hc1 hc2 hc3
  have HBE:Hid (Below w.heap.size w w2):=hid (by rw[HG.out];exact HB0.out.trans (HB2.out.mono (Nat.le_of_lt hs0)))
  obtain⟨hc1,hc2,hc3⟩:=HC.out w2 HB2.out
  rcases x8 hb with ⟨hy2,rfl⟩ | ⟨hn2,rfl⟩
  ·have HY2:Hid (okT ml):=hy2
   clear hy2 hb
   by_cases t1:0<=tm
   ·by_cases t2:tm<=1099511627776
    ·by_cases t3 : -840<=zn
     ·by_cases t4:zn<=840
      ·have HOK:Hid (okP ⟨nm,ml,tm,zn⟩):=⟨HY1.out,HY2.out,⟨t1,t2⟩,t3,t4⟩
       go_wp2
       go_ret
       exact⟨jZ HOK.out,HBE.out⟩
      ·have HOK:Hid (¬ okP ⟨nm,ml,tm,zn⟩):=fun h=>t4 h.2.2.2.2
       have HT4:Hid (decide (zn<=840)=false):=decide_eq_false t4
       go_wp2
       go_ret
       refine⟨?_,HBE.out⟩
       show BIs _ (.returned (.bool (decide (zn<=840))))
       rw[HT4.out]
       exact zX HOK.out
     ·have HOK:Hid (¬ okP ⟨nm,ml,tm,zn⟩):=fun h=>t3 h.2.2.2.1
      go_wp2
      go_ret
      exact⟨zX HOK.out,HBE.out⟩
    ·have HOK:Hid (¬ okP ⟨nm,ml,tm,zn⟩):=fun h=>t2 h.2.2.1.2
     go_wp2
     go_ret
     exact⟨zX HOK.out,HBE.out⟩
   ·have HOK:Hid (¬ okP ⟨nm,ml,tm,zn⟩):=fun h=>t1 h.2.2.1.1
    go_wp2
    go_ret
    exact⟨zX HOK.out,HBE.out⟩
  ·have HOK:Hid (¬ okP ⟨nm,ml,tm,zn⟩):=fun h=>hn2 h.2.1
   clear hn2 hb
   go_wp2
   go_ret
   exact⟨zX HOK.out,HBE.out⟩
 ·have HOK:Hid (¬ okP ⟨nm,ml,tm,zn⟩):=fun h=>hn1 h.1
  clear hn1 hb
  go_wp2
  go_ret
  exact⟨zX HOK.out,by rw[HG.out];exact HB0.out.trans (HB1.out.mono (Nat.le_of_lt hs0))⟩
theorem enter95 (v1 v2:Value) (w:World):(callFunc 155 #[v1,v2]).run Tryz.prog w=.ok (.enter 155 #[v1,v2]) w:=by kernel_rfl
theorem enter102 (v:Value) (w:World):(callFunc 163 #[v]).run Tryz.prog w=.ok (.enter 163 #[v]) w:=by kernel_rfl
def BoxP (G:Nat) (N M:ByteArray) (tm zn:Int) (W:World):Prop:=W.cell? ⟨G,0,none⟩=some (.string N)/\W.cell? ⟨G,1,none⟩=some (.string M)/\W.cell? ⟨G,2,none⟩=some (.int .i64 tm)/\W.cell? ⟨G,3,none⟩=some (.int .i64 zn)
theorem BoxP.below {G:Nat} {N M:ByteArray} {tm zn:Int} {W W':World} (h:BoxP G N M tm zn W) (hG:G<W.heap.size) (hb:Below W.heap.size W W'):BoxP G N M tm zn W' :=
 ⟨(hb.cell (p:=⟨G,0,none⟩) hG).trans h.1,(hb.cell (p:=⟨G,1,none⟩) hG).trans h.2.1,(hb.cell (p:=⟨G,2,none⟩) hG).trans h.2.2.1,(hb.cell (p:=⟨G,3,none⟩) hG).trans h.2.2.2⟩
def qq (p:Per):List UInt8:=p.name++32 :: 60 :: (p.mail++62 :: 32 :: (Lib.decDigits p.time.toNat++32 :: vQ p.zone))
theorem Zx (n:Nat) (h:n<=1099511627776):(Lib.decDigits n).length<=13:=dig_len 12 n (by omega)
set_option maxHeartbeats 1000000 in
theorem jQ (p:Per) (hp:okP p) (w:World) (ht:Tab w) :
  Calls Tryz.prog 126 #[.agg (qK p)] w fun e w'=>e=.returned (.string ⟨(qq p).toArray⟩)/\Below w.heap.size w w':=by
 obtain⟨nm,ml,tm,zn⟩:=p
 obtain⟨⟨n1,_⟩,⟨m1,_⟩,⟨t1,t2⟩,z1,z2⟩:=hp
 simp only at n1 m1 t1 t2 z1 z2
 obtain⟨tn,rfl⟩:∃ tn:Nat,tm=(tn:Int):=⟨tm.toNat,by omega⟩
 have htn:tn<=1099511627776:=by omega
 obtain⟨N,HNN⟩:=nn_ (⟨nm.toArray⟩:ByteArray)
 obtain⟨M,HMM⟩:=nn_ (⟨ml.toArray⟩:ByteArray)
 obtain⟨D,HDD⟩:=nn_ (⟨(Lib.decDigits tn).toArray⟩:ByteArray)
 obtain⟨Z,HZZ⟩:=nn_ (⟨(vQ zn).toArray⟩:ByteArray)
 have hNs:N.size<=60:=by rw[HNN.out];simpa [ByteArray.size] using n1
 have hMs:M.size<=60:=by rw[HMM.out];simpa [ByteArray.size] using m1
 have hDs:D.size<=13:=by rw[HDD.out];simpa [ByteArray.size] using Zx tn htn
 have hZs:Z.size=5:=by rw[HZZ.out];simp[ByteArray.size,vQ,two]
 obtain⟨X1,HX1⟩:=nm_ (N++(⟨#[32,60]⟩:ByteArray))
 obtain⟨X2,HX2⟩:=nm_ (X1++M)
 obtain⟨X3,HX3⟩:=nm_ (X2++(⟨#[62,32]⟩:ByteArray))
 obtain⟨X4,HX4⟩:=nm_ (X3++D)
 obtain⟨X5,HX5⟩:=nm_ (X4++(⟨#[32]⟩:ByteArray))
 obtain⟨X6,HX6⟩:=nm_ (X5++Z)
 have hX1:X1.size=N.size+2:=by rw[<-HX1.out,ByteArray.size_append];rfl
 have hX2:X2.size=X1.size+M.size:=by rw[<-HX2.out,ByteArray.size_append]
 have hX3:X3.size=X2.size+2:=by rw[<-HX3.out,ByteArray.size_append];rfl
 have hX4:X4.size=X3.size+D.size:=by rw[<-HX4.out,ByteArray.size_append]
 have hX5:X5.size=X4.size+1:=by rw[<-HX5.out,ByteArray.size_append];rfl
 have HR:Hid ((⟨(qq ⟨nm,ml,tn,zn⟩).toArray⟩:ByteArray)=X6):=hid (by
  rw[<-HX6.out,<-HX5.out,<-HX4.out,<-HX3.out,<-HX2.out,<-HX1.out,HNN.out,HMM.out,HDD.out,HZZ.out,show (⟨#[32,60]⟩:ByteArray)=⟨[32,60].toArray⟩ from rfl,show (⟨#[62,32]⟩:ByteArray)=⟨[62,32].toArray⟩ from rfl,show (⟨#[32]⟩:ByteArray)=⟨[32].toArray⟩ from rfl,yw,yw,yw,yw,yw,yw]
  simp[qq])
 obtain⟨G,HG⟩:=nm_ w.heap.size
 obtain⟨w0,HW0⟩:=nm_ (w.alloc (.cells #[.string N,.string M,.int .i64 tn,.int .i64 zn] 156))
 have HB0:Hid (Below G w w0):=hid (by rw[<-HW0.out,<-HG.out];exact(Below.refl _ w).alloc (Nat.le_refl _) _)
 have hs0:G<w0.heap.size:=by rw[<-HW0.out,<-HG.out];simp
 have HX0:Hid (BoxP G N M tn zn w0):=hid (by rw[<-HW0.out,<-HG.out];exact⟨by simp,by simp,by simp,by simp⟩)
 have HTA:Hid (∀ W,Below G w W->Tab W):=fun W hW=>ht.below (by rw[HG.out];exact hW)
 have HF:Hid (∀ W,Below G w W->Calls Tryz.prog 155 #[.int .i64 tn,.int .i64 10] W fun e w'=>e=.returned (.string D)/\Below W.heap.size W w'):=fun W hW=>by rw[HDD.out];exact fmt_any tn htn W (HTA.out W hW)
 have HZ:Hid (∀ W,Calls Tryz.prog 163 #[.int .i64 zn] W fun e w'=>e=.returned (.string Z)/\w'=W):=fun W=>by rw[HZZ.out];exact zoneText_any zn z1 z2 W
 rw[HR.out]
 unfold qK
 simp only
 rw[<-HNN.out,<-HMM.out]
 go_enter Tryz.func126,Tryz.ntmps126
 go_wp2_with fail
 rw[HG.out,HW0.out]
 clear ht n1 m1
 refine wp_region_held_drew (S:=BoxP G N M tn zn) (by kernel_rfl) (by exact HX0.out) (fun hHeld=>?_)
 refine tZ (i:=0) hHeld ?_
 try simp only[Act.put,sL]
 refine tZ (i:=1) hHeld ?_
 try simp only[Act.put,sL]
 refine Zz (i:=2) (v:=.string X1) rfl (by kernel_rfl) (by kernel_rfl) (by kernel_rfl) (fun _ _ _ h=>h) (Or.inl ⟨by rfl,?_⟩) hHeld ?_
 ·rintro w' ⟨c0,c1,c2,c3⟩;rw[<-HX1.out];go_simp;first | done | omega | rfl
 try simp only[Act.put,sL]
 refine tZ (i:=3) hHeld ?_
 try simp only[Act.put,sL]
 refine tZ (i:=4) hHeld ?_
 try simp only[Act.put,sL]
 refine Zz (i:=5) (v:=.string X2) rfl (by kernel_rfl) (by kernel_rfl) (by kernel_rfl) (fun _ _ _ h=>h) (Or.inl ⟨by rfl,?_⟩) hHeld ?_
 ·rintro w' ⟨c0,c1,c2,c3⟩;rw[<-HX2.out];go_simp;first | done | omega | rfl
 try simp only[Act.put,sL]
 refine Zz (i:=6) (v:=.string X3) rfl (by kernel_rfl) (by kernel_rfl) (by kernel_rfl) (fun _ _ _ h=>h) (Or.inl ⟨by rfl,?_⟩) hHeld ?_
 ·rintro w' ⟨c0,c1,c2,c3⟩;rw[<-HX3.out];go_simp;first | done | omega | rfl
 try simp only[Act.put,sL]
 refine tZ (i:=7) hHeld ?_
 try simp only[Act.put,sL]
 refine tZ (i:=8) hHeld ?_
 try simp only[Act.put,sL]
 refine tZ (i:=12) hHeld ?_
 try simp only[Act.put,sL]
 refine tZ (i:=13) hHeld ?_
 try simp only[Act.put,sL]
 have HB0d:Hid (Below G w w0.drew):=hid ⟨HB0.out.os,HB0.out.tape,HB0.out.output,HB0.out.size,HB0.out.block⟩
 refine wpAnyH_ready (rs:=[9]) (by kernel_rfl) (by simp) ?_
 refine zu rfl (fun KK hKK=>?_) AllReadyH.nil
 refine zk (by rfl) 155 [.tmp 11,.const (.int .i64 10)] _ [.int .i64 tn,.int .i64 10] _ (by rfl) (by rfl) (enter95 _ _) (HF.out _ HB0d.out) ?_
 rintro e w1 ⟨rfl,hb1⟩
 refine⟨_,rfl,?_⟩
 have hs1:G<w1.heap.size:=Nat.lt_of_lt_of_le hs0 hb1.size
 have HB1:Hid (Below G w w1):=HB0d.out.trans (hb1.mono (Nat.le_of_lt hs0))
 refine hKK.out _ _ (BoxP.below (W:=w0.drew) hHeld hs0 hb1) (fun hHeld=>?_)
 clear hKK KK hb1
 try simp only[Act.put,sL]
 refine Zz (i:=10) (v:=.string X4) rfl (by kernel_rfl) (by kernel_rfl) (by kernel_rfl) (fun _ _ _ h=>h) (Or.inl ⟨by rfl,?_⟩) hHeld ?_
 ·rintro w' ⟨c0,c1,c2,c3⟩;rw[<-HX4.out];go_simp;first | done | omega | rfl
 try simp only[Act.put,sL]
 refine Zz (i:=11) (v:=.string X5) rfl (by kernel_rfl) (by kernel_rfl) (by kernel_rfl) (fun _ _ _ h=>h) (Or.inl ⟨by rfl,?_⟩) hHeld ?_
 ·rintro w' ⟨c0,c1,c2,c3⟩;rw[<-HX5.out];go_simp;first | done | omega | rfl
 try simp only[Act.put,sL]
 refine wpAnyH_ready (rs:=[14]) (by kernel_rfl) (by simp) ?_
 refine zu rfl (fun KK hKK=>?_) AllReadyH.nil
 refine zk (by rfl) 163 [.tmp 16] _ [.int .i64 zn] _ (by rfl) (by rfl) (enter102 _) (HZ.out _) ?_
 rintro e w2 ⟨rfl,rfl⟩
 refine⟨_,rfl,?_⟩
 refine hKK.out _ _ hHeld (fun hHeld2=>?_)
 clear hKK KK hHeld2
 try simp only[Act.put,sL]
 refine Zz (i:=15) (v:=.string X6) rfl (by kernel_rfl) (by kernel_rfl) (by kernel_rfl) (fun _ _ _ h=>h) (Or.inl ⟨by rfl,?_⟩) hHeld ?_
 ·rintro w' ⟨c0,c1,c2,c3⟩;rw[<-HX6.out];go_simp;first | done | omega | rfl
 try simp only[Act.put,sL]
 refine tZ (i:=16) hHeld ?_
 try simp only[Act.put,sL]
 refine wpAnyH_done (by kernel_rfl) ?_ _
 go_wp2
 go_ret
 exact⟨rfl,by rw[HG.out];exact HB1.out⟩
def bl (xs:List ByteArray):List (List UInt8):=xs.map fun x=>x.data.toList
theorem line_any (bk o c:Nat) (xs:List ByteArray) (w:World) (hcells:∀ (j:Nat) x,xs[j]? = some x->w.cell? ⟨bk,o+j,none⟩=some (.string x)) (hbk:bk<w.heap.size) (hN:xs.length<=1000) (hcap:xs.length<=c)
  (hlen:(Lib.join (bl xs) [32]).length<=1000000) :
  Calls Tryz.prog 124 #[.slice (some ⟨bk,o,none⟩) xs.length c] w fun e w'=>e=.returned (.string ⟨(Lib.join (bl xs) [32]++[10]).toArray⟩)/\Below w.heap.size w w':=by
 obtain⟨n,HN⟩:=nm_ xs.length
 obtain⟨S,HS⟩:=nn_ (⟨(Lib.join (bl xs) [32]).toArray⟩:ByteArray)
 have HJ:Hid (Calls Tryz.prog 73 #[.slice (some ⟨bk,o,none⟩) n c] w fun e w'=>e=.returned (.string S)/\Below w.heap.size w w'):=hid (by
  rw[<-HN.out,HS.out]
  exact words_any bk o c xs w hcells hbk hN hcap hlen)
 have hS:S.size<=1000000:=by rw[HS.out];simpa [ByteArray.size] using hlen
 have hS1:¬ 9223372036854775807<S.size+1:=by omega
 have hS2:¬ 9223372036854775807<=S.size:=by omega
 have h10:(⟨#[10]⟩:ByteArray).size=1:=rfl
 have HE:Hid (S ++ ⟨#[10]⟩=⟨(Lib.join (bl xs) [32]++[10]).toArray⟩):=hid (by
  rw[HS.out,show (⟨#[10]⟩:ByteArray)=⟨[10].toArray⟩ from rfl]
  exact yw _ _)
 rw[HN.out]
 clear hcells hlen
 go_enter Tryz.func124,Tryz.ntmps124
 go_wp2_with fail
 refine HJ.out.mono ?_
 rintro e w' ⟨rfl,hb⟩
 go_wp2
 go_ret
 exact⟨(show _=Ending.returned (.string (S ++ ⟨#[10]⟩)) from rfl).trans (by rw[HE.out]),hb⟩
theorem line_none (w:World):Calls Tryz.prog 124 #[.slice none 0 0] w fun e w'=>e=.returned (.string ⟨#[10]⟩)/\w'=w:=by
 have HW:Hid (Calls Tryz.prog 73 #[.slice none 0 0] w fun e w'=>e=.returned (.string ⟨#[]⟩)/\w'=w):=hid (by
  go_enter Tryz.func73,Tryz.ntmps73
  go_wp2_with fail
  refine(Tryz.strings_Join_none none 0 ⟨#[32]⟩ w).mono ?_
  rintro e w' ⟨rfl,rfl⟩
  go_wp2
  go_ret
  exact⟨rfl,rfl⟩)
 have h10:(⟨#[10]⟩:ByteArray).size=1:=rfl
 have h0:(⟨#[]⟩:ByteArray).size=0:=rfl
 go_enter Tryz.func124,Tryz.ntmps124
 go_wp2_with fail
 refine HW.out.mono ?_
 rintro e w' ⟨rfl,rfl⟩
 go_wp2
 go_ret
 exact⟨rfl,rfl⟩
def PostL (l:List UInt8) (w:World) (e:Ending) (w':World):Prop:=Below w.heap.size w w'/\∃ g cap:Nat,e=.returned (.slice (some ⟨g,0,none⟩) l.length cap)/\w.heap.size<=g/\Mk w' g cap (q8 l)
theorem letter_any (msg:List UInt8) (hm:msg.length<=100000) (bk o c:Nat) (xs:List ByteArray) (w:World) (hcells:∀ (j:Nat) x,xs[j]? = some x->w.cell? ⟨bk,o+j,none⟩=some (.string x)) (hbk:bk<w.heap.size) (hN:xs.length<=1000) (hcap:xs.length<=c)
  (hlen:(Lib.join (bl xs) []).length<=100000) :
  Calls Tryz.prog 127 #[.string ⟨msg.toArray⟩,.slice (some ⟨bk,o,none⟩) xs.length c] w (PostL (Lib.join (bl xs) []++10 :: msg) w):=by
 obtain⟨n,HN⟩:=nm_ xs.length
 obtain⟨S,HS⟩:=nn_ (⟨(Lib.join (bl xs) []).toArray⟩:ByteArray)
 obtain⟨M,HM⟩:=nn_ (⟨msg.toArray⟩:ByteArray)
 have HJ:Hid (Calls Tryz.prog 105 #[.slice (some ⟨bk,o,none⟩) n c,.string ⟨#[]⟩] w fun e w'=>e=.returned (.string S)/\Below w.heap.size w w'):=hid (by
  rw[<-HN.out,HS.out]
  exact Tryz.strings_Join bk o c xs ⟨#[]⟩ w hcells hbk (by omega) hcap (Nat.le_trans hlen (by decide)))
 have hS:S.size<=100000:=by rw[HS.out];simpa [ByteArray.size] using hlen
 have hM:M.size<=100000:=by rw[HM.out];simpa [ByteArray.size] using hm
 have h10:(⟨#[10]⟩:ByteArray).size=1:=rfl
 have hS1:¬ 9223372036854775807<S.size+1:=by omega
 have hS2:¬ 9223372036854775807<=S.size:=by omega
 have hSA:(S ++ ⟨#[10]⟩:ByteArray).size=S.size+1:=by rw[ByteArray.size_append,h10]
 have hS3:¬ 9223372036854775807<S.size+1+M.size:=by omega
 obtain⟨R,HR⟩:∃ R:ByteArray,S ++ ⟨#[10]⟩ ++ M=R:=⟨_,rfl⟩
 have HRE:Hid (R=⟨(Lib.join (bl xs) []++10 :: msg).toArray⟩):=hid (by
  rw[<-HR,HS.out,HM.out,show (⟨#[10]⟩:ByteArray)=⟨[10].toArray⟩ from rfl,yw,yw]
  simp)
 rw[HN.out,<-HM.out]
 clear hcells hlen
 go_enter Tryz.func127,Tryz.ntmps127
 go_wp2_with fail
 refine HJ.out.mono ?_
 rintro e w1 ⟨rfl,hb⟩
 have HB:Hid _:=hb
 clear hb
 obtain⟨c2,w2,hr2,hm2,hb2,hs2⟩:=V2 (Lib.join (bl xs) []++10 :: msg) w1
 rw[<-HRE.out] at hr2
 have HM2:Hid _:=hm2
 have HB2:Hid (Below w.heap.size w w2):=HB.out.trans (hb2.mono HB.out.size)
 clear hm2 hb2
 obtain⟨L,HL⟩:=nm_ ((Lib.join (bl xs) []++10 :: msg).length)
 rw[HL.out] at hr2
 go_wp2_with (go_at_call 124;refine(line_none _).mono ?_;rintro ev w' ⟨rfl,rfl⟩)
 go_ret
 refine⟨HB2.out,_,c2,?_,HB.out.size,HM2.out⟩
 rw[HL.out]
 rfl
end Go.Proofs.YticgindfipobiaaGreatDoor
namespace Go.Proofs.YticgindfipobiaaGreatDoor
open Go.RowKit Go.Extern.Stop Go.Stop Go.Extern
theorem valueOf45 (t:Addr) (w:World):(ReflectliteValue.unpack (.iface 60 (.pointer (some t)))).run Tryz.prog w
  = .ok (.agg #[.pointer (some ⟨9,60,none⟩),.pointer (some ⟨w.heap.size,0,none⟩),.int .u64 150]) (w.alloc (.cells #[.pointer (some t)] 60)):=by kernel_rfl
theorem type45 (a:Addr) (w:World):(ReflectliteValue.methodAny (ReflectliteValue.valueError "reflectlite.Value.Type" 0) (fun t _ _ _=>ReflectliteType.toType t) #[.agg #[.pointer (some ⟨9,60,none⟩),.pointer (some a),.int .u64 150]]).run Tryz.prog w
  = .ok (.iface 129 (.agg #[.pointer (some ⟨9,60,none⟩)])) w:=by kernel_rfl
theorem methodKind (h:Value) (w:World):(Go.method 458 129 (.agg #[h]) "Kind").run Tryz.prog w=.ok (256,h) w:=by kernel_rfl
theorem kind45 (w:World):((ReflectliteType.abiMethod fun t=>(fun a:Nat=>Value.int IntKind.u8 (a:Int)) <$> Rtype.kind t) #[.pointer (some ⟨9,60,none⟩)]).run Tryz.prog w=.ok (.int .u8 22) w:=by kernel_rfl
theorem kind32 (w:World):((ReflectliteType.abiMethod fun t=>(fun a:Nat=>Value.int IntKind.u8 (a:Int)) <$> Rtype.kind t) #[.pointer (some ⟨9,43,none⟩)]).run Tryz.prog w=.ok (.int .u8 2) w:=by kernel_rfl
theorem methodElem (h:Value) (w:World):(Go.method 458 129 (.agg #[h]) "Elem").run Tryz.prog w=.ok (268,.agg #[h]) w:=by kernel_rfl
theorem Zj (h:Value) (w:World):(Go.method 458 129 (.agg #[h]) "Implements").run Tryz.prog w=.ok (269,.agg #[h]) w:=by kernel_rfl
theorem jX (h:Value) (w:World):(Go.method 458 129 (.agg #[h]) "AssignableTo").run Tryz.prog w=.ok (266,.agg #[h]) w:=by kernel_rfl
theorem elem45 (w:World):(ReflectliteType.method ReflectliteType.elem #[.agg #[.pointer (some ⟨9,60,none⟩)]]).run Tryz.prog w=.ok (.iface 129 (.agg #[.pointer (some ⟨9,43,none⟩)])) w:=by kernel_rfl
theorem V6 (w:World):(ReflectliteType.relation "Implements" ReflectliteType.implements_ #[.agg #[.pointer (some ⟨9,43,none⟩)],.iface 129 (.agg #[.pointer (some ⟨9,35,none⟩)])]).run Tryz.prog w=.ok (.bool true) w:=by kernel_rfl
theorem typeOf32 (v:Value) (w:World):(ReflectliteType.typeOf #[.iface 43 v]).run Tryz.prog w=.ok (.iface 129 (.agg #[.pointer (some ⟨9,43,none⟩)])) w:=by kernel_rfl
theorem V7 (w:World):(ReflectliteType.relation "AssignableTo" ReflectliteType.assignableTo #[.agg #[.pointer (some ⟨9,43,none⟩)],.iface 129 (.agg #[.pointer (some ⟨9,43,none⟩)])]).run Tryz.prog w=.ok (.bool true) w:=by kernel_rfl
theorem valueOf32 (k:Int) (w:World):(ReflectliteValue.unpack (.iface 43 (.int .i64 k))).run Tryz.prog w
  = .ok (.agg #[.pointer (some ⟨9,43,none⟩),.pointer (some ⟨w.heap.size,0,none⟩),.int .u64 130]) (w.alloc (.cells #[.int .i64 k] 43)):=by kernel_rfl
theorem elemOf45 (w:World):(Rtype.elem? 60).run Tryz.prog w=.ok (some 43) w:=by kernel_rfl
theorem mk32 (p:Addr) (w:World):(ReflectliteValue.mk 43 p ReflectliteValue.flagAddr).run Tryz.prog w=.ok (.agg #[.pointer (some ⟨9,43,none⟩),.pointer (some p),.int .u64 386]) w:=by kernel_rfl
theorem direct32 (w:World):(Rtype.directlyAssignable 43 43).run Tryz.prog w=.ok true w:=by kernel_rfl
theorem isNil_at (a:Addr) (W:World):(ReflectliteValue.method (ReflectliteValue.valueError "reflectlite.Value.IsNil" 0) ReflectliteValue.isNil #[.agg #[.pointer (some ⟨9,60,none⟩),.pointer (some a),.int .u64 150]]).run Tryz.prog W=(ReflectliteValue.isNil 60 a 150 22).run Tryz.prog W:=by kernel_rfl
theorem elem_at (a:Addr) (W:World):(ReflectliteValue.method (ReflectliteValue.valueError "reflectlite.Value.Elem" 0) ReflectliteValue.elem #[.agg #[.pointer (some ⟨9,60,none⟩),.pointer (some a),.int .u64 150]]).run Tryz.prog W=(ReflectliteValue.elem 60 a 150 22).run Tryz.prog W:=by kernel_rfl
theorem set_at (ta b:Addr) (W:World):(ReflectliteValue.set #[.agg #[.pointer (some ⟨9,43,none⟩),.pointer (some ta),.int .u64 386],.agg #[.pointer (some ⟨9,43,none⟩),.pointer (some b),.int .u64 130]]).run Tryz.prog W=(loadVar 43 b >>= fun val=>storeVar 43 ta val >>= fun _=>pure (.tuple #[])).run Tryz.prog W:=by kernel_rfl
theorem isNil45 (a p:Addr) (W:World) (ha:W.cell? a=some (.pointer (some p))) :
  (ReflectliteValue.method (ReflectliteValue.valueError "reflectlite.Value.IsNil" 0) ReflectliteValue.isNil #[.agg #[.pointer (some ⟨9,60,none⟩),.pointer (some a),.int .u64 150]]).run Tryz.prog W=.ok (.bool false) W:=by
 rw[isNil_at]
 simp[ReflectliteValue.isNil,loadVar,isAgg,underlying,Tryz.underlying60,ha,Result.andThen]
theorem elemV45 (a p:Addr) (W:World) (ha:W.cell? a=some (.pointer (some p))) :
  (ReflectliteValue.method (ReflectliteValue.valueError "reflectlite.Value.Elem" 0) ReflectliteValue.elem #[.agg #[.pointer (some ⟨9,60,none⟩),.pointer (some a),.int .u64 150]]).run Tryz.prog W
   = .ok (.agg #[.pointer (some ⟨9,43,none⟩),.pointer (some p),.int .u64 386]) W:=by
 rw[elem_at]
 simp[ReflectliteValue.elem,loadVar,isAgg,underlying,Tryz.underlying60,ha,Result.andThen,elemOf45,mk32]
theorem set32 (ta b:Addr) (k:Int) (old:Value) (W:World) (hb:W.cell? b=some (.int .i64 k)) (ht:W.cell? ta=some old) (hf:W.frozen? ta=false) :
  (ReflectliteValue.set #[.agg #[.pointer (some ⟨9,43,none⟩),.pointer (some ta),.int .u64 386],.agg #[.pointer (some ⟨9,43,none⟩),.pointer (some b),.int .u64 130]]).run Tryz.prog W
   = .ok (.tuple #[]) (W.setCell ta (.int .i64 k)):=by
 rw[set_at]
 simp[loadVar,isAgg,underlying,Tryz.underlying43,hb,Result.andThen,direct32,storeVar,Value.cells,storeCells,Addr.add]
 rw[run_store Tryz.prog W ta _ _ (by rfl)]
 simp[ht,hf]
set_option maxRecDepth 100000 in
theorem as_hit (k:Int) (t:Addr) (old:Value) (w:World) (hg:w.cell? ⟨0,0,none⟩=some (.iface 129 (.agg #[.pointer (some ⟨9,35,none⟩)]))) (ht0:w.cell? t=some old) (hf0:w.frozen? t=false) :
  Calls Tryz.prog 18 #[.iface 43 (.int .i64 k),.iface 60 (.pointer (some t))] w fun ev w'=>ev=.returned (.bool true)/\w'=((((w.alloc (.cells #[.pointer (some t)] 60)).alloc (.cells #[.pointer (some ⟨9,60,none⟩),.pointer (some ⟨w.heap.size,0,none⟩),.int .u64 150] 89)).alloc (.cells #[.pointer (some ⟨9,60,none⟩),.pointer (some ⟨w.heap.size,0,none⟩),.int .u64 150] 89)).alloc (.cells #[.int .i64 k] 43)).setCell t (.int .i64 k):=by
 have h33:=@run_callFunc_extern Tryz.prog 30 _ (fun args=>ReflectliteValue.unpack (args.getD 0 (.tuple #[]))) Tryz.func30 (by kernel_rfl) (by kernel_rfl) (by kernel_rfl) (by kernel_rfl)
 have h34:=@run_callFunc_extern Tryz.prog 31 _ (ReflectliteValue.methodAny (ReflectliteValue.valueError "reflectlite.Value.Type" 0) (fun t _ _ _=>ReflectliteType.toType t)) Tryz.func31 (by kernel_rfl) (by kernel_rfl) (by kernel_rfl) (by kernel_rfl)
 have h35:=@run_callFunc_extern Tryz.prog 32 _ (ReflectliteValue.method (ReflectliteValue.valueError "reflectlite.Value.IsNil" 0) ReflectliteValue.isNil) Tryz.func32 (by kernel_rfl) (by kernel_rfl) (by kernel_rfl) (by kernel_rfl)
 have h97:=@run_callFunc_extern Tryz.prog 256 _ (ReflectliteType.abiMethod fun t=>do pure (.int .u8 (<-Rtype.kind t))) Tryz.func256 (by kernel_rfl) (by kernel_rfl) (by kernel_rfl) (by kernel_rfl)
 have h107:=@run_callFunc_extern Tryz.prog 268 _ (ReflectliteType.method ReflectliteType.elem) Tryz.func268 (by kernel_rfl) (by kernel_rfl) (by kernel_rfl) (by kernel_rfl)
 have h108:=@run_callFunc_extern Tryz.prog 269 _ (ReflectliteType.relation "Implements" ReflectliteType.implements_) Tryz.func269 (by kernel_rfl) (by kernel_rfl) (by kernel_rfl) (by kernel_rfl)
 have h62:=@run_callFunc_extern Tryz.prog 51 _ ReflectliteType.typeOf Tryz.func51 (by kernel_rfl) (by kernel_rfl) (by kernel_rfl) (by kernel_rfl)
 have h105:=@run_callFunc_extern Tryz.prog 266 _ (ReflectliteType.relation "AssignableTo" ReflectliteType.assignableTo) Tryz.func266 (by kernel_rfl) (by kernel_rfl) (by kernel_rfl) (by kernel_rfl)
 have h63:=@run_callFunc_extern Tryz.prog 52 _ (ReflectliteValue.method (ReflectliteValue.valueError "reflectlite.Value.Elem" 0) ReflectliteValue.elem) Tryz.func52 (by kernel_rfl) (by kernel_rfl) (by kernel_rfl) (by kernel_rfl)
 have h64:=@run_callFunc_extern Tryz.prog 53 _ ReflectliteValue.set Tryz.func53 (by kernel_rfl) (by kernel_rfl) (by kernel_rfl) (by kernel_rfl)
 have tO:=typeOf32
 have mA:=jX
 have a32:=V7
 have v32:=valueOf32
 have f6:=valueOf45
 have f7:=type45
 have mK:=methodKind
 have mE:=methodElem
 have mI:=Zj
 have k45:=kind45
 have k32:=kind32
 have e45:=elem45
 have i32:=V6
 have n8:=isNil45 ⟨w.heap.size,0,none⟩ t ((w.alloc (.cells #[.pointer (some t)] 60)).alloc (.cells #[.pointer (some ⟨9,60,none⟩),.pointer (some ⟨w.heap.size,0,none⟩),.int .u64 150] 89)) (by simp)
 have hlt:0<w.heap.size:=by
  rcases Nat.lt_or_ge 0 w.heap.size with h | h
  ·exact h
  ·simp[World.cell?,Array.getElem?_eq_none h] at hg
 have hg2:((w.alloc (.cells #[.pointer (some t)] 60)).alloc (.cells #[.pointer (some ⟨9,60,none⟩),.pointer (some ⟨w.heap.size,0,none⟩),.int .u64 150] 89)).cell? ⟨0,0,none⟩=some (.iface 129 (.agg #[.pointer (some ⟨9,35,none⟩)])):=by
  rw[World.cell?_alloc_lt _ _ ⟨0,0,none⟩ (by simp),World.cell?_alloc_lt _ _ ⟨0,0,none⟩ hlt];exact hg
 have htl:t.block<w.heap.size:=by
  rcases Nat.lt_or_ge t.block w.heap.size with h | h
  ·exact h
  ·simp[World.cell?,Array.getElem?_eq_none h] at ht0
 have el:=elemV45 ⟨w.heap.size,0,none⟩ t (((w.alloc (.cells #[.pointer (some t)] 60)).alloc (.cells #[.pointer (some ⟨9,60,none⟩),.pointer (some ⟨w.heap.size,0,none⟩),.int .u64 150] 89)).alloc (.cells #[.pointer (some ⟨9,60,none⟩),.pointer (some ⟨w.heap.size,0,none⟩),.int .u64 150] 89)) (by rw[World.cell?_alloc_lt _ _ ⟨w.heap.size,0,none⟩ (by simp;omega)];simp)
 have st:=set32 t ⟨w.heap.size+1+1+1,0,none⟩ k old ((((w.alloc (.cells #[.pointer (some t)] 60)).alloc (.cells #[.pointer (some ⟨9,60,none⟩),.pointer (some ⟨w.heap.size,0,none⟩),.int .u64 150] 89)).alloc (.cells #[.pointer (some ⟨9,60,none⟩),.pointer (some ⟨w.heap.size,0,none⟩),.int .u64 150] 89)).alloc (.cells #[.int .i64 k] 43))
  (by rw[World.cell?_alloc_at _ _ _ _ (by simp)];rfl)
  (by rw[World.cell?_alloc_lt _ _ t (by simp;omega),World.cell?_alloc_lt _ _ t (by simp;omega),World.cell?_alloc_lt _ _ t (by simp;omega),World.cell?_alloc_lt _ _ t htl];exact ht0)
  (by rw[World.frozen?_alloc_old _ _ t (by simp;omega),World.frozen?_alloc_old _ _ t (by simp;omega),World.frozen?_alloc_old _ _ t (by simp;omega),World.frozen?_alloc_old _ _ t (Nat.ne_of_lt htl)];exact hf0)
 go_enter Tryz.func18,Tryz.ntmps18
 go_wp2
 refine wp_loop_rounds 1 ?_
 rw[rounds_succ]
 go_wp2
 go_ret
 exact⟨rfl,rfl⟩
theorem tell_nil (w:World):Calls Tryz.prog 9 #[.nilIface] w fun e w'=>e=.returned (.int .i64 0)/\Below w.heap.size w w':=by
 have HB:Hid (Below w.heap.size w (w.alloc (.cells #[.int .i64 0] 43))):=(Below.refl _ w).alloc (Nat.le_refl _) _
 go_enter Tryz.func9,Tryz.ntmps9
 go_wp2
 go_ret
 exact⟨rfl,HB.out⟩
theorem tell_errno (k:Int) (w:World) (hg:w.cell? ⟨0,0,none⟩=some (.iface 129 (.agg #[.pointer (some ⟨9,35,none⟩)]))) :
  Calls Tryz.prog 9 #[.iface 43 (.int .i64 k)] w fun e w'=>e=.returned (.int .i64 k)/\Below w.heap.size w w':=by
 have hlt:0<w.heap.size:=by
  rcases Nat.lt_or_ge 0 w.heap.size with h | h
  ·exact h
  ·simp[World.cell?,Array.getElem?_eq_none h] at hg
 have hg2:(w.alloc (.cells #[.int .i64 0] 43)).cell? ⟨0,0,none⟩=some (.iface 129 (.agg #[.pointer (some ⟨9,35,none⟩)])):=by
  rw[World.cell?_alloc_lt _ _ ⟨0,0,none⟩ hlt];exact hg
 go_enter Tryz.func9,Tryz.ntmps9
 go_wp2_with (go_at_call 18;refine(as_hit k ⟨w.heap.size,0,none⟩ (.int .i64 0) _ hg2 (by simp) (by simp[go_sem])).mono ?_;rintro e w' ⟨rfl,rfl⟩)
 go_ret
 exact⟨rfl,(((((Below.refl _ w).alloc (Nat.le_refl _) _).alloc (by simp) _).alloc (by simp;omega) _).alloc (by simp;omega) _).alloc (by simp;omega) _⟩
end Go.Proofs.YticgindfipobiaaGreatDoor
