import Derived.Test.YticgindfipobiaaGreatDoorMn51
set_option linter.unusedSimpArgs false
set_option linter.unusedVariables false
set_option maxRecDepth 20000
set_option maxHeartbeats 4000000
namespace Go.Proofs.YticgindfipobiaaGreatDoor.Gr
open Go.RowKit
theorem walkG_many (a0 a2:Option Addr) (n0 n2 c0 c2:Nat) (w:World) (h:40<n0 ∨ 40<n2):Calls Tryz.prog 3 #[.slice a0 n0 c0,.slice a2 n2 c2] w fun e w'=>e=.returned (.bool true)/\Below w.heap.size w w':=by
 by_cases h0:40<n0
 ·have hi:(40:Int)<(n0:Int):=by omega
  go_enter Tryz.func3,Tryz.ntmps3
  go_wp2
  go_ret
  exact⟨rfl,Below.refl _ _⟩
 ·have hi:¬ (40:Int)<(n0:Int):=by omega
  have hi2:(40:Int)<(n2:Int):=by omega
  go_enter Tryz.func3,Tryz.ntmps3
  go_wp2
  go_ret
  exact⟨rfl,Below.refl _ _⟩
theorem tell_ev {w:World} (hg:w.cell? ⟨0,0,none⟩=some (.iface 129 (.agg #[.pointer (some ⟨9,35,none⟩)]))) {er:Int} {ev:Value} (h:EvIs w er ev):Calls Tryz.prog 9 #[ev] w fun e w'=>e=.returned (.int .i64 er)/\Below w.heap.size w w':=by
 rcases h with rfl | ⟨g,rfl,hc⟩
 ·exact tell_errno er w hg
 ·exact tell_wrap g er w hg hc
theorem EvIs.below {w w':World} {er:Int} {ev:Value} (h:EvIs w er ev) (hb:Below w.heap.size w w'):EvIs w' er ev:=by
 rcases h with h | ⟨g,h,hc⟩
 ·exact .inl h
 ·refine .inr ⟨g,h,(hb.cell (p:=⟨g,20,none⟩) ?_).trans hc⟩
  rcases Nat.lt_or_ge g w.heap.size with h' | h'
  ·exact h'
  ·simp[World.cell?,Array.getElem?_eq_none h'] at hc
set_option maxHeartbeats 16000000 in
theorem walkG (a:Option Addr) (cap:Nat) (os:List Oj) (w:World) (hP:Px yV 2 dO w a cap os) (hsl:∀ o ∈ os,Sl w o.a o.cap o.zs) (hib:∀ o ∈ os,IsB o.zs) (hsum:tot os<=8000000000000000) (hn:os.length<=40) (hv:Lv w) (fa:Option Addr) (fc:Nat) (fs:Ids) (hf:∀ x ∈ fs,IdW x) (hfl:fs.length<=40) (hF:Pa w fa fc fs) :
  Calls Tryz.prog 3 #[.slice a os.length cap,.slice fa fs.length fc] w fun e w'=>e=.returned (.bool true)/\Below w.heap.size w w':=by
 obtain⟨G,HG⟩:=nm_ w.heap.size
 obtain⟨n,HN⟩:=nm_ os.length
 obtain⟨NF,HNF⟩:=nm_ fs.length
 have hnn:n<=40:=by rw[<-HN.out];exact hn
 have hNF:NF<=40:=by rw[<-HNF.out];exact hfl
 have HPX:Hid (∀ W,Below G w W->Px yV 2 dO W a cap os):=fun W hW=>hP.below (by rw[HG.out];exact hW)
 have HSL:Hid (∀ W,Below G w W->∀ o ∈ os,Sl W o.a o.cap o.zs):=fun W hW o ho=>(hsl o ho).below (by rw[HG.out];exact hW)
 have HIB:Hid (∀ o ∈ os,IsB o.zs):=hib
 have HSUM:Hid (tot os<=8000000000000000):=hsum
 have HLV:Hid (∀ W,Below G w W->Lv W):=fun W hW=>hv.below (by rw[HG.out];exact hW)
 have HPF:Hid (∀ W,Below G w W->Pa W fa fc fs):=fun W hW=>hF.below (by rw[HG.out];exact hW)
 have HFI:Hid (∀ x ∈ fs,IdW x):=hf
 have HFL:Hid (fs.length<=40):=hfl
 have HPL:Hid (0<n->∃ b off,a=some ⟨b,off,none⟩):=fun h0=>by
  obtain⟨b,off,e1,_⟩:=hP.at_ (by rw[HN.out];exact h0)
  exact⟨b,off,e1⟩
 have HE0:Hid (Bx yV 2 30 w w G (.slice none 0 0) (os.take 0)):=hid (XK 30 w G (by rw[HG.out];exact Nat.le_refl _))
 obtain⟨zr,HZ⟩:=nm_ ((row .u8 z20).toArray)
 have hz31:∀ w:World,(zeroValue 31).run Tryz.prog w=.ok (.agg zr) w:=fun w=>by rw[<-HZ.out];exact zero31 w
 rw[HN.out,HNF.out]
 clear hP hsl hib hsum hv hf hfl hF hn
 have hni:¬ (40:Int)<(n:Int):=by omega
 have hNFi:¬ (40:Int)<(NF:Int):=by omega
 go_enter Tryz.func3,Tryz.ntmps3
 go_wp2_with fail
 go_loopg [5,6,7] n (fun g u tv iv wr=>∃ (i:Nat) (v:Value) (t:Nat),v=u/\tv=.int .i64 t/\iv=.int .i64 i/\g=n-i/\i<=n/\Hid (tot (os.take i)=t)/\Hid (Bx yV 2 30 w wr G v (os.take i)))
 case atStart=>exact⟨0,_,0,rfl,rfl,rfl,rfl,Nat.zero_le _,hid rfl,HE0⟩
 case round =>
  obtain⟨i,v,t,hvu,rfl,rfl,hg,hin,HT,HBV⟩:=hrel
  subst hvu
  by_cases hlt:i<n
  ·have hlti:(i:Int)<(n:Int):=by omega
   obtain⟨b,off,hae⟩:=HPL.out (by omega)
   subst hae
   obtain⟨o,HO⟩:=nm_ (os.getD i dO)
   obtain⟨ol,HOL⟩:=nm_ o.zs.length
   have HTS:Hid (tot (os.take (i+1))=t+ol):=hid (by rw[tot_step os i (by rw[HN.out];exact hlt),HO.out,HT.out,HOL.out])
   have hts:t+ol<=8000000000000000:=by rw[<-HTS.out];exact Nat.le_trans (tot_le os (i+1)) HSUM.out
   have HRG:Hid (∀ W,Below G w W->Q9 b (off+i*2) o.k o.a ol o.cap W):=fun W hW=>by
    obtain⟨b',off',e1,_,e3⟩:=(HPX.out W hW).at_ (by rw[HN.out];omega)
    cases e1
    have:=e3 i (by rw[HN.out];exact hlt)
    rw[HO.out] at this
    have h2:=q9_of this
    rw[HOL.out] at h2
    exact h2
   have hc1:=(HRG.out wr HBV.out.below).c1
   have HBVd:Hid (Bx yV 2 30 w wr.drew G v (os.take i)):=hid (HBV.out.carry (zJ (Below.refl _ _) 1))
   have hSd:Q9 b (off+i*2) o.k o.a ol o.cap wr.drew:=HRG.out _ HBVd.out.below
   have HBU:Hid (∀ W:World,(Instr.build 30 #[(0,.int .i64 o.k),(1,.slice o.a ol o.cap)]).run Tryz.prog W=.ok (.agg (yV o).toArray) W):=fun W=>by rw[<-HOL.out];exact run_build30 o W
   go_wp2_with fail
   refine wp_region_held_drew (S:=Q9 b (off+i*2) o.k o.a ol o.cap) (by kernel_rfl) hSd (fun hHeld=>?_)
   clear hSd hc1
   generalize wr.drew=u0 at hHeld HBVd ⊢
   refine tZ (i:=0) hHeld ?_
   try simp only[Act.put,sL]
   refine tZ (i:=1) hHeld ?_
   try simp only[Act.put,sL]
   refine tZ (i:=2) hHeld ?_
   try simp only[Act.put,sL]
   refine tZ (i:=3) hHeld ?_
   try simp only[Act.put,sL]
   refine tZ (i:=4) hHeld ?_
   try simp only[Act.put,sL]
   refine tZ (i:=5) hHeld ?_
   try simp only[Act.put,sL]
   refine tZ (i:=6) hHeld ?_
   try simp only[Act.put,sL]
   refine tZ (i:=7) hHeld ?_
   try simp only[Act.put,sL]
   refine tZ (i:=8) hHeld ?_
   try simp only[Act.put,sL]
   refine tZ (i:=9) hHeld ?_
   try simp only[Act.put,sL]
   refine tZ (i:=10) hHeld ?_
   try simp only[Act.put,sL]
   refine tW (i:=11) (v:=.agg (yV o).toArray) hHeld rfl (Or.inl ⟨by rfl,fun w' h=>exec_bd2 30 _ _ rfl (.int .i64 o.k) (.slice o.a ol o.cap) _ rfl rfl (HBU.out w')⟩) ?_
   try simp only[Act.put,sL]
   obtain⟨K,HK⟩:=nm_ u0.heap.size
   obtain⟨u1,HU1⟩:=nm_ (u0.alloc (.cells (yV o).toArray 30))
   have HBS:Hid ((Instr.buildSlice 24 1 #[(0,.agg (yV o).toArray)]).run Tryz.prog u0=.ok (.slice (some ⟨K,0,none⟩) 1 1) u1):=hid (by rw[<-HK.out,<-HU1.out];exact run_bs24 o u0)
   have HB1:Hid (Bx yV 2 30 w u1 G v (os.take i)):=hid (by rw[<-HU1.out];exact HBVd.out.alloc _)
   have HP1:Hid (Px yV 2 dO u1 (some ⟨K,0,none⟩) 1 [o]):=hid (by rw[<-HU1.out,<-HK.out];exact px_oneO u0 o)
   have HS1:Hid (Q9 b (off+i*2) o.k o.a ol o.cap u1):=hid (HRG.out _ HB1.out.below)
   refine wpAnyH_ready (rs:=[12]) (by kernel_rfl) (by simp) ?_
   refine zu rfl (fun KK hKK=>?_) AllReadyH.nil
   refine zZ (by rfl) (.slice (some ⟨K,0,none⟩) 1 1) (w':=u1) (exec_bS1 24 1 (.tmp 53) (by rfl) _ _ (by rfl) HBS.out) ?_
   refine hKK.out _ _ HS1.out (fun hHeld2=>?_)
   clear hKK KK hHeld
   try simp only[Act.put,sL]
   refine wpAnyH_ready (rs:=[13]) (by kernel_rfl) (by simp) ?_
   refine zu rfl (fun KK hKK=>?_) AllReadyH.nil
   refine step_app24 (by rfl) (.tmp 42) (.tmp 54) (by rfl) G v (os.take i) (by rfl) HB1.out (some ⟨K,0,none⟩) 1 [o] (by rfl) HP1.out (by rw[List.length_take,HN.out];simp only[List.length_cons,List.length_nil];omega) ?_
   intro v2 u2 hb2
   have HB2:Hid (Bx yV 2 30 w u2 G v2 (os.take (i+1))):=hid (by rw[xW dO os i (by rw[HN.out];exact hlt),HO.out];exact hb2)
   refine hKK.out _ _ (HRG.out _ hb2.below) (fun hHeld=>?_)
   clear hKK KK hHeld2 hb2
   try simp only[Act.put,sL]
   refine tZ (i:=14) hHeld ?_
   try simp only[Act.put,sL]
   refine wpAnyH_done (by kernel_rfl) ?_ _
   clear hHeld
   go_wp2
   go_roundg (n-(i+1))
   case measure=>omega
   case rel=>exact⟨i+1,v2,t+ol,rfl,by go_num,by go_num,rfl,by omega,HTS,HB2⟩
  ·have hlti:¬ (i:Int)<(n:Int):=by omega
   have HTT:Hid (tot os=t):=hid (by have:=HT.out;rw[List.take_of_length_le (by rw[HN.out];omega)] at this;exact this)
   have HBQ:Hid (Bx yV 2 30 w wr G v os):=hid (by have:=HBV.out;rw[List.take_of_length_le (by rw[HN.out];omega)] at this;exact this)
   have HB0:Hid (Below G w wr):=hid HBQ.out.below
   by_cases ht:40000<t
   ·have hti:(40000:Int)<(t:Int):=by omega
    go_wp2
    go_ret
    exact⟨rfl,by rw[HG.out];exact HB0.out⟩
   ·have hti:¬ (40000:Int)<(t:Int):=by omega
    obtain⟨w2,HW2⟩:=nm_ wr
    obtain⟨qa,qc,hqe,hqx,_⟩:=HBQ.out.px (d:=dO) (encO_len _)
    rw[HN.out] at hqe
    subst hqe
    have HLN:Hid (∀ o ∈ os,o.zs.length<=40000):=fun o ho=>by have:=tot_mem os o ho;rw[HTT.out] at this;omega
    obtain⟨K2,HK2⟩:=nm_ wr.heap.size
    have hGK:G<=K2:=by rw[<-HK2.out];exact HBQ.out.le
    have HOT:Hid (Ot wr a cap os):=hid ⟨HPX.out wr HB0.out,HSL.out wr HB0.out,HIB.out,HLN.out,by rw[HN.out];exact hnn⟩
    have HOQ:Hid (Ot wr qa qc os):=hid ⟨hqx,HSL.out wr HB0.out,HIB.out,HLN.out,by rw[HN.out];exact hnn⟩
    have HOW:Hid (Ow K2 wr qa qc os):=hid (by rw[<-HK2.out];exact ow_of HOQ.out)
    have HBF:Hid (∀ W,Below K2 wr W->Below G w W):=fun W hW=>HB0.out.trans (hW.mono hGK)
    have HLX:Hid (∃ L,Lx os L):=hid (lx_of HOT.out (HLV.out wr HB0.out))
    rw[HW2.out] at HOT HOQ HOW HBF HK2
    clear hqx
    go_wp2_with fail
    rw[HW2.out]
    go_loopg [8] n (fun g iv W=>∃ i:Nat,iv=.int .i64 i/\g=n-i/\i<=n/\Hid (Below K2 w2 W))
    case atStart=>exact⟨0,rfl,rfl,Nat.zero_le _,hid (Below.refl _ _)⟩
    case round =>
     obtain⟨i,rfl,hg2,hin2,HB⟩:=hrel
     by_cases hlt2:i<n
     ·have hlti2:(i:Int)<(n:Int):=by omega
      obtain⟨b,off,ha,hr,hom⟩:=HOW.out.at HB.out (i:=i) (by rw[HN.out];exact hlt2)
      subst ha
      obtain⟨o,HOi⟩:=nm_ (os.getD i dO)
      rw[HOi.out] at hr hom
      have HOM:Hid (o ∈ os):=hom
      obtain⟨RO,HRO⟩:=nm_ (yV o)
      have RR:Hid (wr.rangeAt b (off+i*2) RO):=hid (by rw[<-HRO.out];exact hr)
      have hi30:(Tryz.prog.info? 30).map (·.size)=some RO.length:=by rw[<-HRO.out];exact info30
      obtain⟨er,HER⟩:=nm_ (oer o)
      obtain⟨FR,HFR⟩:=rw_ (VZ o).1
      have hiF:=HFR.out.i31
      have E31:Hid (zr.size=FR.toArray.size):=hid (by rw[<-HZ.out];exact HFR.out.z)
      have CID:Hid (Calls Tryz.prog 4 #[.agg RO.toArray] wr fun e w'=>e=.returned (.tuple #[.agg FR.toArray,.int .i64 er])/\Below wr.heap.size wr w') :=
       refID_o o wr ((HOW.out.all wr HB.out).len o hom) ((HOW.out.all wr HB.out).isb o hom) ((HOW.out.all wr HB.out).sl o hom) HFR.out HRO.out HER.out
      have hKr:K2<=wr.heap.size:=by rw[<-HK2.out];exact HB.out.size
      clear hr hom
      go_wp2_with (first
       | refine wpList_load_mid rfl 30 _ rfl b (off+i*2) rfl RO _ RR.out Tryz.underlying30 rfl hi30 ?_
       | fail)
      refine CID.out.mono ?_
      rintro ev w3 ⟨rfl,hb3⟩
      obtain⟨H,w4,HN4⟩:=nw 31 zr w3 FR
      have hb4:Below wr.heap.size wr w4:=hb3.trans (HN4.out.below.mono (by rw[<-HN4.out.h];exact hb3.size))
      have HB4:Hid (Below K2 w2 w4):=hid (HB.out.trans (hb4.mono hKr))
      have HX4:Hid (w4.heap[H]? = some (.cells FR.toArray 31 (0,0))):=hid HN4.out.box
      clear hb3 hb4
      go_wp2_with (first
       | (refine wpList_store_row rfl 31 _ _ rfl w3.heap.size FR.toArray rfl rfl 31 zr HN4.out.d HFR.out.j31 E31.out HFR.out.o ?_;rw[HN4.out.w,HN4.out.h])
       | fail)
      go_loopg [11] i (fun g kv W=>∃ k:Nat,kv=.int .i64 k/\g=i-k/\k<=i/\Hid (Below K2 w2 W)/\Hid (W.heap[H]? = some (.cells FR.toArray 31 (0,0))))
      case atStart=>exact⟨0,rfl,rfl,Nat.zero_le _,HB4,HX4⟩
      case round =>
       obtain⟨k,rfl,hg3,hki,HBk,HXk⟩:=hrel
       by_cases hlt3:k<i
       ·have hlti3:(k:Int)<(i:Int):=by omega
        by_cases her:er=0
        ·subst her
         have hkn:k<n:=by omega
         have hkni:(k:Int)<(n:Int):=by omega
         obtain⟨b',off',ha',hr',hom'⟩:=HOW.out.at HBk.out (i:=k) (by rw[HN.out];exact hkn)
         cases ha'
         obtain⟨p,HPi⟩:=nm_ (os.getD k dO)
         rw[HPi.out] at hr' hom'
         have HPM:Hid (p ∈ os):=hom'
         obtain⟨RP,HRP⟩:=nm_ (yV p)
         have RRk:Hid (wr.rangeAt b (off+k*2) RP):=hid (by rw[<-HRP.out];exact hr')
         have hi30k:(Tryz.prog.info? 30).map (·.size)=some RP.length:=by rw[<-HRP.out];exact info30
         obtain⟨fer,HFE⟩:=nm_ (oer p)
         obtain⟨FP,HFP⟩:=rw_ (VZ p).1
         have hiP:=HFP.out.i31
         have E31k:Hid (zr.size=FP.toArray.size):=hid (by rw[<-HZ.out];exact HFP.out.z)
         have CIDk:Hid (Calls Tryz.prog 4 #[.agg RP.toArray] wr fun e w'=>e=.returned (.tuple #[.agg FP.toArray,.int .i64 fer])/\Below wr.heap.size wr w') :=
          refID_o p wr ((HOW.out.all wr HBk.out).len p hom') ((HOW.out.all wr HBk.out).isb p hom') ((HOW.out.all wr HBk.out).sl p hom') HFP.out HRP.out HFE.out
         have hKr2:K2<=wr.heap.size:=by rw[<-HK2.out];exact HBk.out.size
         have hHr:H<wr.heap.size:=z6 HXk.out
         clear hr' hom'
         go_wp2_with (first
          | refine wpList_load_mid rfl 30 _ rfl b (off+k*2) rfl RP _ RRk.out Tryz.underlying30 rfl hi30k ?_
          | fail)
         refine CIDk.out.mono ?_
         rintro ev w5 ⟨rfl,hb5⟩
         obtain⟨H2,w6,HN6⟩:=nw 31 zr w5 FP
         have hb6:Below wr.heap.size wr w6:=hb5.trans (HN6.out.below.mono (by rw[<-HN6.out.h];exact hb5.size))
         have HB6:Hid (Below K2 w2 w6.drew):=hid (zJ (HBk.out.trans (hb6.mono hKr2)) 1)
         have HX6:Hid (w6.drew.heap[H]? = some (.cells FR.toArray 31 (0,0))):=hid ((hb6.block H hHr).trans HXk.out)
         have HY6:Hid (w6.drew.heap[H2]? = some (.cells FP.toArray 31 (0,0))):=hid HN6.out.box
         obtain⟨ni,HNI⟩:=nm_ o.zs.length
         obtain⟨nk,HNK⟩:=nm_ p.zs.length
         obtain⟨ki,HKI⟩:=nm_ o.k
         obtain⟨kk,HKK⟩:=nm_ p.k
         obtain⟨Si,HSi⟩:=nm_ ((⟨(Lib.bytesOf o.zs).toArray⟩:ByteArray):ByteArray)
         obtain⟨Sk,HSk⟩:=nm_ ((⟨(Lib.bytesOf p.zs).toArray⟩:ByteArray):ByteArray)
         have hSd:Q20 H H2 b (off+i*2) (off+k*2) FR FP ki kk o.a ni o.cap p.a nk p.cap Si Sk w6.drew:=by
          obtain⟨b1,o1,e1,h1,_⟩:=HOW.out.at HB6.out (i:=i) (by rw[HN.out];exact hlt2)
          cases e1
          obtain⟨b2,o2,e2,h2,_⟩:=HOW.out.at HB6.out (i:=k) (by rw[HN.out];exact hkn)
          cases e2
          rw[HOi.out] at h1
          rw[HPi.out] at h2
          have q1:=q9_of h1
          have q2:=q9_of h2
          have s1:=YticgindfipobiaaGreatDoor.conv_str ((HOW.out.all _ HB6.out).sl o HOM.out)
          have s2:=YticgindfipobiaaGreatDoor.conv_str ((HOW.out.all _ HB6.out).sl p HPM.out)
          rw[HNI.out,HKI.out] at q1
          rw[HNK.out,HKK.out] at q2
          rw[HNI.out,HSi.out] at s1
          rw[HNK.out,HSk.out] at s2
          exact⟨zx HX6.out,zx HY6.out,q1.c0,q1.c1,q2.c0,q2.c1,s1,s2⟩
         have HEQ:Hid (∀ V:World,(Op.equalIn 10000 31 (.agg FR.toArray) (.agg FP.toArray)).run Tryz.prog V=.ok (decide (oid o=oid p)) V):=fun V=>by rw[<-HFR.out.e,<-HFP.out.e];exact eq41 _ _ (VZ o).1 (VZ p).1 V
         clear hb5 hb6
         go_wp2_with (first
          | (refine wpList_store_row rfl 31 _ _ rfl w5.heap.size FP.toArray rfl rfl 31 zr HN6.out.d HFP.out.j31 E31k.out HFP.out.o ?_;rw[HN6.out.w,HN6.out.h])
          | fail)
         refine wp_region_held_drew (S:=Q20 H H2 b (off+i*2) (off+k*2) FR FP ki kk o.a ni o.cap p.a nk p.cap Si Sk) (by kernel_rfl) hSd (fun hHeld=>?_)
         clear hSd
         generalize w6.drew=u0 at hHeld HB6 HX6 HY6 ⊢
         by_cases hfe:fer=0
         ·subst hfe
          by_cases hxy:oid o=oid p
          ·have heq:∀ V:World,(Op.equalIn 10000 31 (.agg FR.toArray) (.agg FP.toArray)).run Tryz.prog V=.ok true V:=fun V=>by rw[HEQ.out V,decide_eq_true hxy]
           by_cases hkd:ki=kk
           ·subst hkd
            by_cases hsd:Si=Sk
            ·subst hsd
             refine tZ (i:=0) hHeld ?_
             try simp only[Act.put,sL]
             refine tZ (i:=1) (v:=.bool true) hHeld ?_
             try simp only[Act.put,sL]
             refine tZ (i:=2) hHeld ?_
             try simp only[Act.put,sL]
             refine tW (i:=3) (v:=.agg FR.toArray) hHeld rfl (yieldsIf_load_mid (by kernel_rfl) 31 _ rfl H 0 (by rfl) FR _ (fun w' h=>h.rx) Tryz.underlying31 rfl hiF) ?_
             try simp only[Act.put,sL]
             refine tW (i:=4) (v:=.agg FP.toArray) hHeld rfl (yieldsIf_load_mid (by kernel_rfl) 31 _ rfl H2 0 (by rfl) FP _ (fun w' h=>h.ry) Tryz.underlying31 rfl hiP) ?_
             try simp only[Act.put,sL]
             refine tG (i:=5) (v:=.bool true) hHeld ?_
             try simp only[Act.put,sL]
             refine tZ (i:=6) hHeld ?_
             try simp only[Act.put,sL]
             refine tZ (i:=7) hHeld ?_
             try simp only[Act.put,sL]
             refine tG (i:=8) hHeld ?_
             try simp only[Act.put,sL]
             refine tG (i:=9) hHeld ?_
             try simp only[Act.put,sL]
             refine tG (i:=10) hHeld ?_
             try simp only[Act.put,sL]
             refine tG (i:=11) hHeld ?_
             try simp only[Act.put,sL]
             refine tG (i:=12) hHeld ?_
             try simp only[Act.put,sL]
             refine tG (i:=13) hHeld ?_
             try simp only[Act.put,sL]
             refine tG (i:=14) hHeld ?_
             try simp only[Act.put,sL]
             refine tG (i:=15) hHeld ?_
             try simp only[Act.put,sL]
             refine tG (i:=16) hHeld ?_
             try simp only[Act.put,sL]
             refine tG (i:=17) hHeld ?_
             try simp only[Act.put,sL]
             refine tG (i:=18) (v:=.bool false) hHeld ?_
             try simp only[Act.put,sL]
             refine tG (i:=19) hHeld ?_
             try simp only[Act.put,sL]
             refine tG (i:=20) hHeld ?_
             try simp only[Act.put,sL]
             refine tG (i:=21) hHeld ?_
             try simp only[Act.put,sL]
             refine tG (i:=22) hHeld ?_
             try simp only[Act.put,sL]
             refine tG (i:=23) hHeld ?_
             try simp only[Act.put,sL]
             refine tG (i:=24) hHeld ?_
             try simp only[Act.put,sL]
             refine tW (i:=25) (v:=.string Si) hHeld rfl (Or.inl ⟨by kernel_rfl,fun w' h=>YW rfl rfl h.si⟩) ?_
             try simp only[Act.put,sL]
             refine tG (i:=26) hHeld ?_
             try simp only[Act.put,sL]
             refine tG (i:=27) hHeld ?_
             try simp only[Act.put,sL]
             refine tG (i:=28) hHeld ?_
             try simp only[Act.put,sL]
             refine tG (i:=29) hHeld ?_
             try simp only[Act.put,sL]
             refine tG (i:=30) hHeld ?_
             try simp only[Act.put,sL]
             refine tW (i:=31) (v:=.string Si) hHeld rfl (Or.inl ⟨by kernel_rfl,fun w' h=>YW rfl rfl h.sk⟩) ?_
             try simp only[Act.put,sL]
             refine tG (i:=32) (v:=.bool false) hHeld ?_
             try simp only[Act.put,sL]
             refine tG (i:=33) hHeld ?_
             try simp only[Act.put,sL]
             refine tZ (i:=34) hHeld ?_
             try simp only[Act.put,sL]
             refine wpAnyH_done (by kernel_rfl) ?_ _
             clear hHeld
             go_wp2
             go_roundg (i-(k+1))
             case measure=>omega
             case rel=>exact⟨k+1,by go_num,rfl,by omega,HB6,HX6⟩
            ·have hsb:(Si.toList == Sk.toList)=false:=by
              rw[beq_eq_false_iff_ne]
              intro e
              exact hsd (ba_ext e)
             refine tZ (i:=0) hHeld ?_
             try simp only[Act.put,sL]
             refine tZ (i:=1) (v:=.bool true) hHeld ?_
             try simp only[Act.put,sL]
             refine tZ (i:=2) hHeld ?_
             try simp only[Act.put,sL]
             refine tW (i:=3) (v:=.agg FR.toArray) hHeld rfl (yieldsIf_load_mid (by kernel_rfl) 31 _ rfl H 0 (by rfl) FR _ (fun w' h=>h.rx) Tryz.underlying31 rfl hiF) ?_
             try simp only[Act.put,sL]
             refine tW (i:=4) (v:=.agg FP.toArray) hHeld rfl (yieldsIf_load_mid (by kernel_rfl) 31 _ rfl H2 0 (by rfl) FP _ (fun w' h=>h.ry) Tryz.underlying31 rfl hiP) ?_
             try simp only[Act.put,sL]
             refine tG (i:=5) (v:=.bool true) hHeld ?_
             try simp only[Act.put,sL]
             refine tZ (i:=6) hHeld ?_
             try simp only[Act.put,sL]
             refine tZ (i:=7) hHeld ?_
             try simp only[Act.put,sL]
             refine tG (i:=8) hHeld ?_
             try simp only[Act.put,sL]
             refine tG (i:=9) hHeld ?_
             try simp only[Act.put,sL]
             refine tG (i:=10) hHeld ?_
             try simp only[Act.put,sL]
             refine tG (i:=11) hHeld ?_
             try simp only[Act.put,sL]
             refine tG (i:=12) hHeld ?_
             try simp only[Act.put,sL]
             refine tG (i:=13) hHeld ?_
             try simp only[Act.put,sL]
             refine tG (i:=14) hHeld ?_
             try simp only[Act.put,sL]
             refine tG (i:=15) hHeld ?_
             try simp only[Act.put,sL]
             refine tG (i:=16) hHeld ?_
             try simp only[Act.put,sL]
             refine tG (i:=17) hHeld ?_
             try simp only[Act.put,sL]
             refine tG (i:=18) (v:=.bool false) hHeld ?_
             try simp only[Act.put,sL]
             refine tG (i:=19) hHeld ?_
             try simp only[Act.put,sL]
             refine tG (i:=20) hHeld ?_
             try simp only[Act.put,sL]
             refine tG (i:=21) hHeld ?_
             try simp only[Act.put,sL]
             refine tG (i:=22) hHeld ?_
             try simp only[Act.put,sL]
             refine tG (i:=23) hHeld ?_
             try simp only[Act.put,sL]
             refine tG (i:=24) hHeld ?_
             try simp only[Act.put,sL]
             refine tW (i:=25) (v:=.string Si) hHeld rfl (Or.inl ⟨by kernel_rfl,fun w' h=>YW rfl rfl h.si⟩) ?_
             try simp only[Act.put,sL]
             refine tG (i:=26) hHeld ?_
             try simp only[Act.put,sL]
             refine tG (i:=27) hHeld ?_
             try simp only[Act.put,sL]
             refine tG (i:=28) hHeld ?_
             try simp only[Act.put,sL]
             refine tG (i:=29) hHeld ?_
             try simp only[Act.put,sL]
             refine tG (i:=30) hHeld ?_
             try simp only[Act.put,sL]
             refine tW (i:=31) (v:=.string Sk) hHeld rfl (Or.inl ⟨by kernel_rfl,fun w' h=>YW rfl rfl h.sk⟩) ?_
             try simp only[Act.put,sL]
             refine tG (i:=32) (v:=.bool true) hHeld ?_
             try simp only[Act.put,sL]
             refine tG (i:=33) hHeld ?_
             try simp only[Act.put,sL]
             refine tZ (i:=34) hHeld ?_
             try simp only[Act.put,sL]
             refine wpAnyH_done (by kernel_rfl) ?_ _
             clear hHeld
             go_wp2
             go_ret
             exact⟨rfl,by rw[HG.out];exact HBF.out _ HB6.out⟩
           ·have hkb:(ki == kk)=false:=by rw[beq_eq_false_iff_ne];exact hkd
            refine tZ (i:=0) hHeld ?_
            try simp only[Act.put,sL]
            refine tZ (i:=1) (v:=.bool true) hHeld ?_
            try simp only[Act.put,sL]
            refine tZ (i:=2) hHeld ?_
            try simp only[Act.put,sL]
            refine tW (i:=3) (v:=.agg FR.toArray) hHeld rfl (yieldsIf_load_mid (by kernel_rfl) 31 _ rfl H 0 (by rfl) FR _ (fun w' h=>h.rx) Tryz.underlying31 rfl hiF) ?_
            try simp only[Act.put,sL]
            refine tW (i:=4) (v:=.agg FP.toArray) hHeld rfl (yieldsIf_load_mid (by kernel_rfl) 31 _ rfl H2 0 (by rfl) FP _ (fun w' h=>h.ry) Tryz.underlying31 rfl hiP) ?_
            try simp only[Act.put,sL]
            refine tG (i:=5) (v:=.bool true) hHeld ?_
            try simp only[Act.put,sL]
            refine tZ (i:=6) hHeld ?_
            try simp only[Act.put,sL]
            refine tZ (i:=7) hHeld ?_
            try simp only[Act.put,sL]
            refine tG (i:=8) hHeld ?_
            try simp only[Act.put,sL]
            refine tG (i:=9) hHeld ?_
            try simp only[Act.put,sL]
            refine tG (i:=10) hHeld ?_
            try simp only[Act.put,sL]
            refine tG (i:=11) hHeld ?_
            try simp only[Act.put,sL]
            refine tG (i:=12) hHeld ?_
            try simp only[Act.put,sL]
            refine tG (i:=13) hHeld ?_
            try simp only[Act.put,sL]
            refine tG (i:=14) hHeld ?_
            try simp only[Act.put,sL]
            refine tG (i:=15) hHeld ?_
            try simp only[Act.put,sL]
            refine tG (i:=16) hHeld ?_
            try simp only[Act.put,sL]
            refine tG (i:=17) hHeld ?_
            try simp only[Act.put,sL]
            refine tG (i:=18) (v:=.bool true) hHeld ?_
            try simp only[Act.put,sL]
            refine tG (i:=19) hHeld ?_
            try simp only[Act.put,sL]
            refine tN (i:=20) hHeld ?_
            try simp only[Act.put,sL]
            refine tN (i:=21) hHeld ?_
            try simp only[Act.put,sL]
            refine tN (i:=22) hHeld ?_
            try simp only[Act.put,sL]
            refine tN (i:=23) hHeld ?_
            try simp only[Act.put,sL]
            refine tN (i:=24) hHeld ?_
            try simp only[Act.put,sL]
            refine tN (i:=25) hHeld ?_
            try simp only[Act.put,sL]
            refine tN (i:=26) hHeld ?_
            try simp only[Act.put,sL]
            refine tN (i:=27) hHeld ?_
            try simp only[Act.put,sL]
            refine tN (i:=28) hHeld ?_
            try simp only[Act.put,sL]
            refine tN (i:=29) hHeld ?_
            try simp only[Act.put,sL]
            refine tN (i:=30) hHeld ?_
            try simp only[Act.put,sL]
            refine tN (i:=31) hHeld ?_
            try simp only[Act.put,sL]
            refine tN (i:=32) hHeld ?_
            try simp only[Act.put,sL]
            refine tG (i:=33) hHeld ?_
            try simp only[Act.put,sL]
            refine tZ (i:=34) hHeld ?_
            try simp only[Act.put,sL]
            refine wpAnyH_done (by kernel_rfl) ?_ _
            clear hHeld
            go_wp2
            go_ret
            exact⟨rfl,by rw[HG.out];exact HBF.out _ HB6.out⟩
          ·have heq:∀ V:World,(Op.equalIn 10000 31 (.agg FR.toArray) (.agg FP.toArray)).run Tryz.prog V=.ok false V:=fun V=>by rw[HEQ.out V,decide_eq_false hxy]
           refine tZ (i:=0) hHeld ?_
           try simp only[Act.put,sL]
           refine tZ (i:=1) (v:=.bool true) hHeld ?_
           try simp only[Act.put,sL]
           refine tZ (i:=2) hHeld ?_
           try simp only[Act.put,sL]
           refine tW (i:=3) (v:=.agg FR.toArray) hHeld rfl (yieldsIf_load_mid (by kernel_rfl) 31 _ rfl H 0 (by rfl) FR _ (fun w' h=>h.rx) Tryz.underlying31 rfl hiF) ?_
           try simp only[Act.put,sL]
           refine tW (i:=4) (v:=.agg FP.toArray) hHeld rfl (yieldsIf_load_mid (by kernel_rfl) 31 _ rfl H2 0 (by rfl) FP _ (fun w' h=>h.ry) Tryz.underlying31 rfl hiP) ?_
           try simp only[Act.put,sL]
           refine tG (i:=5) (v:=.bool false) hHeld ?_
           try simp only[Act.put,sL]
           refine tZ (i:=6) hHeld ?_
           try simp only[Act.put,sL]
           refine tZ (i:=7) hHeld ?_
           try simp only[Act.put,sL]
           refine tN (i:=8) hHeld ?_
           try simp only[Act.put,sL]
           refine tN (i:=9) hHeld ?_
           try simp only[Act.put,sL]
           refine tN (i:=10) hHeld ?_
           try simp only[Act.put,sL]
           refine tN (i:=11) hHeld ?_
           try simp only[Act.put,sL]
           refine tN (i:=12) hHeld ?_
           try simp only[Act.put,sL]
           refine tN (i:=13) hHeld ?_
           try simp only[Act.put,sL]
           refine tN (i:=14) hHeld ?_
           try simp only[Act.put,sL]
           refine tN (i:=15) hHeld ?_
           try simp only[Act.put,sL]
           refine tN (i:=16) hHeld ?_
           try simp only[Act.put,sL]
           refine tN (i:=17) hHeld ?_
           try simp only[Act.put,sL]
           refine tN (i:=18) hHeld ?_
           try simp only[Act.put,sL]
           refine tN (i:=19) hHeld ?_
           try simp only[Act.put,sL]
           refine tN (i:=20) hHeld ?_
           try simp only[Act.put,sL]
           refine tN (i:=21) hHeld ?_
           try simp only[Act.put,sL]
           refine tN (i:=22) hHeld ?_
           try simp only[Act.put,sL]
           refine tN (i:=23) hHeld ?_
           try simp only[Act.put,sL]
           refine tN (i:=24) hHeld ?_
           try simp only[Act.put,sL]
           refine tN (i:=25) hHeld ?_
           try simp only[Act.put,sL]
           refine tN (i:=26) hHeld ?_
           try simp only[Act.put,sL]
           refine tN (i:=27) hHeld ?_
           try simp only[Act.put,sL]
           refine tN (i:=28) hHeld ?_
           try simp only[Act.put,sL]
           refine tN (i:=29) hHeld ?_
           try simp only[Act.put,sL]
           refine tN (i:=30) hHeld ?_
           try simp only[Act.put,sL]
           refine tN (i:=31) hHeld ?_
           try simp only[Act.put,sL]
           refine tN (i:=32) hHeld ?_
           try simp only[Act.put,sL]
           refine tN (i:=33) hHeld ?_
           try simp only[Act.put,sL]
           refine tZ (i:=34) hHeld ?_
           try simp only[Act.put,sL]
           refine wpAnyH_done (by kernel_rfl) ?_ _
           clear hHeld
           go_wp2
           go_roundg (i-(k+1))
           case measure=>omega
           case rel=>exact⟨k+1,by go_num,rfl,by omega,HB6,HX6⟩
         ·have hfb:(fer == 0)=false:=by rw[beq_eq_false_iff_ne];exact hfe
          refine tZ (i:=0) hHeld ?_
          try simp only[Act.put,sL]
          refine tZ (i:=1) (v:=.bool false) hHeld ?_
          try simp only[Act.put,sL]
          refine tZ (i:=2) hHeld ?_
          try simp only[Act.put,sL]
          refine tN (i:=3) hHeld ?_
          try simp only[Act.put,sL]
          refine tN (i:=4) hHeld ?_
          try simp only[Act.put,sL]
          refine tN (i:=5) hHeld ?_
          try simp only[Act.put,sL]
          refine tZ (i:=6) hHeld ?_
          try simp only[Act.put,sL]
          refine tZ (i:=7) hHeld ?_
          try simp only[Act.put,sL]
          refine tN (i:=8) hHeld ?_
          try simp only[Act.put,sL]
          refine tN (i:=9) hHeld ?_
          try simp only[Act.put,sL]
          refine tN (i:=10) hHeld ?_
          try simp only[Act.put,sL]
          refine tN (i:=11) hHeld ?_
          try simp only[Act.put,sL]
          refine tN (i:=12) hHeld ?_
          try simp only[Act.put,sL]
          refine tN (i:=13) hHeld ?_
          try simp only[Act.put,sL]
          refine tN (i:=14) hHeld ?_
          try simp only[Act.put,sL]
          refine tN (i:=15) hHeld ?_
          try simp only[Act.put,sL]
          refine tN (i:=16) hHeld ?_
          try simp only[Act.put,sL]
          refine tN (i:=17) hHeld ?_
          try simp only[Act.put,sL]
          refine tN (i:=18) hHeld ?_
          try simp only[Act.put,sL]
          refine tN (i:=19) hHeld ?_
          try simp only[Act.put,sL]
          refine tN (i:=20) hHeld ?_
          try simp only[Act.put,sL]
          refine tN (i:=21) hHeld ?_
          try simp only[Act.put,sL]
          refine tN (i:=22) hHeld ?_
          try simp only[Act.put,sL]
          refine tN (i:=23) hHeld ?_
          try simp only[Act.put,sL]
          refine tN (i:=24) hHeld ?_
          try simp only[Act.put,sL]
          refine tN (i:=25) hHeld ?_
          try simp only[Act.put,sL]
          refine tN (i:=26) hHeld ?_
          try simp only[Act.put,sL]
          refine tN (i:=27) hHeld ?_
          try simp only[Act.put,sL]
          refine tN (i:=28) hHeld ?_
          try simp only[Act.put,sL]
          refine tN (i:=29) hHeld ?_
          try simp only[Act.put,sL]
          refine tN (i:=30) hHeld ?_
          try simp only[Act.put,sL]
          refine tN (i:=31) hHeld ?_
          try simp only[Act.put,sL]
          refine tN (i:=32) hHeld ?_
          try simp only[Act.put,sL]
          refine tN (i:=33) hHeld ?_
          try simp only[Act.put,sL]
          refine tZ (i:=34) hHeld ?_
          try simp only[Act.put,sL]
          refine wpAnyH_done (by kernel_rfl) ?_ _
          clear hHeld
          go_wp2
          go_roundg (i-(k+1))
          case measure=>omega
          case rel=>exact⟨k+1,by go_num,rfl,by omega,HB6,HX6⟩
        ·have hfb:(er == 0)=false:=by rw[beq_eq_false_iff_ne];exact her
         go_wp2
         go_roundg (n-(i+1))
         case measure=>omega
         case rel=>exact⟨i+1,by go_num,rfl,by omega,HBk⟩
       ·have hlti3:¬ (k:Int)<(i:Int):=by omega
        go_wp2
        go_roundg (n-(i+1))
        case measure=>omega
        case rel=>exact⟨i+1,by go_num,rfl,by omega,HBk⟩
     ·have hlti2:¬ (i:Int)<(n:Int):=by omega
      have HBw:Hid (Below G w wr):=hid (HBF.out wr HB.out)
      have hKr:K2<=wr.heap.size:=by rw[<-HK2.out];exact HB.out.size
      have hGr:G<=wr.heap.size:=Nat.le_trans hGK hKr
      obtain⟨LL,hLL⟩:=HLX.out
      obtain⟨fd,HFD⟩:=nm_ (fdO os LL)
      have HSTEP:Hid (∀ A C,Below K2 w2 A->Below A.heap.size A C->Below K2 w2 C):=fun A C h1 h2=>h1.trans (h2.mono (by have:=h1.size;rw[HK2.out] at this;exact this))
      have C5:Hid (Calls Tryz.prog 5 #[.slice a n cap,.slice fa NF fc] wr (PostCl fd fs wr)):=hid (by
       have:=closure_any a cap os LL hLL wr ((HOT.out).below (by rw[HK2.out];exact HB.out)) (HLV.out wr HBw.out) fa fc fs HFI.out HFL.out (HPF.out wr HBw.out)
       rw[HN.out,HNF.out,HFD.out] at this
       exact this)
      have HRC:Hid (∀ pa pc W,Below K2 w2 W->Pa W pa pc fs->Calls Tryz.prog 7 #[.slice qa n qc,.slice pa NF pc] W (PostCd fd fs W)):=fun pa pc W hW hPp=>by
       have:=refClosure_any qa qc os LL hLL W (HOQ.out.below (by rw[HK2.out];exact hW)) pa pc fs HFI.out HFL.out hPp
       rw[HN.out,HNF.out,HFD.out] at this
       exact this
      clear hLL
      go_wp2_with fail
      refine C5.out.mono ?_
      rintro ev w7 ⟨hb7,er,M,hen,hres⟩
      have HB7:Hid (Below K2 w2 w7):=hid (HSTEP.out _ _ HB.out hb7)
      have HEN:Hid (x6 fd [] fs (er,M)):=hen
      obtain⟨xa,xc,xs,ev2,hev,HXP,HXL,HXI,HRES⟩:∃ (xa:Option Addr) (xc:Nat) (xs:Ids) (ev2:Value),ev=.returned (.tuple #[.slice xa xs.length xc,ev2])/\Hid (Pa w7 xa xc xs)/\Hid (xs.length<=40)/\Hid (∀ y ∈ xs,IdW y)/\Hid ((er=0/\ev2=.nilIface/\vW (· ∈ M) xs/\xs.Pairwise (fun x y=>¬ Lib.bytesOf y<Lib.bytesOf x)) ∨ (er ≠ 0/\xs=[]/\EvIs w7 er ev2)):=by
       rcases hres with ⟨h0,xa,xc,xs,rfl,h1,h2,h3,h4⟩ | ⟨h0,ev2,rfl,h1⟩
       ·exact⟨xa,xc,xs,_,rfl,h3,h4,h1.idw,hid (.inl ⟨h0,rfl,h1,h2⟩)⟩
       ·exact⟨none,0,[],ev2,rfl,px_nilO w7,hid (Nat.zero_le _),(fun y hy=>by cases hy),hid (.inr ⟨h0,rfl,h1⟩)⟩
      subst hev
      obtain⟨nx,HNX⟩:=nm_ xs.length
      rw[HNX.out]
      obtain⟨K7,HK7⟩:=nm_ w7.heap.size
      have C6:Hid (Calls Tryz.prog 6 #[.slice fa NF fc] w7 fun e w'=>∃ v,e=.returned v/\Bi 31 w7 w' K7 v fs):=hid (by
       have:=Yy (w:=w7) fa fc fs (HPF.out w7 (HBF.out _ HB7.out)) HFI.out (Nat.le_trans HFL.out (by decide))
       rw[HNF.out,HK7.out] at this
       exact this)
      clear hb7 hen hres
      go_wp2_with fail
      refine C6.out.mono ?_
      rintro ev w8 ⟨v8,rfl,hb8⟩
      obtain⟨pa,pc,hpe,hpp,_⟩:=hb8.px (d:=[]) (idw_row HFI.out)
      rw[HNF.out] at hpe
      subst hpe
      have hb78:Below w7.heap.size w7 w8:=by rw[HK7.out];exact hb8.below
      have HB8:Hid (Below K2 w2 w8):=hid (HSTEP.out _ _ HB7.out hb78)
      have HXP8:Hid (Pa w8 xa xc xs):=hid (HXP.out.below hb78)
      have HRES8:Hid ((er=0/\ev2=.nilIface/\vW (· ∈ M) xs/\xs.Pairwise (fun x y=>¬ Lib.bytesOf y<Lib.bytesOf x)) ∨ (er ≠ 0/\xs=[]/\EvIs w8 er ev2)):=hid (HRES.out.imp (fun h=>h) (fun h=>⟨h.1,h.2.1,h.2.2.below hb78⟩))
      have C7:Hid (Calls Tryz.prog 7 #[.slice qa n qc,.slice pa NF pc] w8 (PostCd fd fs w8)):=hid (HRC.out pa pc w8 HB8.out hpp)
      clear hb8 hpp hb78
      go_wp2_with fail
      refine C7.out.mono ?_
      rintro ev w9 ⟨hb9,er2,M2,hen2,hres⟩
      have heM:=HEN.out.one hen2
      cases heM
      have HB9:Hid (Below K2 w2 w9):=hid (HSTEP.out _ _ HB8.out hb9)
      obtain⟨ya,yc,hev,HYP,HTL⟩:∃ (ya:Option Addr) (yc:Nat),ev=.returned (.tuple #[.slice ya xs.length yc,.int .i64 er])/\Hid (Pa w9 ya yc xs)/\Hid (ev2=.nilIface/\er=0 ∨ EvIs w9 er ev2):=by
       rcases hres with ⟨h0,ya,yc,ys,rfl,h1,h2,h3⟩ | ⟨h0,rfl⟩
       ·rcases HRES8.out with ⟨_,k1,k2,k3⟩ | ⟨k0,_⟩
        ·have e:xs=ys:=lst_one (fun z=>Iff.rfl) k2 h1 k3 h2.not
         subst e
         exact⟨ya,yc,by rw[h0],h3,hid (.inl ⟨k1,h0⟩)⟩
        ·exact absurd h0 k0
       ·rcases HRES8.out with ⟨k0,_⟩ | ⟨_,k1,k2⟩
        ·exact absurd k0 h0
        ·subst k1
         exact⟨none,0,rfl,px_nilO w9,hid (.inr (k2.below hb9))⟩
      subst hev
      rw[HNX.out]
      have C8:Hid (Calls Tryz.prog 8 #[.slice xa nx xc,.slice ya nx yc] w9 fun e w'=>BI (xs=xs) e/\Below w9.heap.size w9 w'):=hid (by
       have h40:=HXL.out
       have:=same_any xa xc xs (HXP8.out.below hb9) HXI.out ya yc xs HYP.out HXI.out (by omega) (by omega)
       rw[HNX.out] at this
       exact this)
      clear hb9 hen2 hres
      go_wp2_with fail
      refine C8.out.mono ?_
      rintro ev w10 ⟨⟨bs,hbs,rfl⟩,hb10⟩
      have hbt:bs=true:=by simpa using hbs
      subst hbt
      have HB10:Hid (Below K2 w2 w10):=hid (HSTEP.out _ _ HB9.out hb10)
      have C9:Hid (Calls Tryz.prog 9 #[ev2] w10 fun e w'=>e=.returned (.int .i64 er)/\Below w10.heap.size w10 w'):=hid (by
       rcases HTL.out with ⟨rfl,rfl⟩ | h
       ·exact tell_nil w10
       ·exact tell_ev (HLV.out w10 (HBF.out _ HB10.out)).lw.hand (h.below hb10))
      have hkb3:((er:Int) == er)=true:=by simp
      clear hbs hb10
      go_wp2_with fail
      refine C9.out.mono ?_
      rintro ev w11 ⟨rfl,hb11⟩
      have HB11:Hid (Below K2 w2 w11):=hid (HSTEP.out _ _ HB10.out hb11)
      clear hb11
      go_wp2
      go_ret
      exact⟨rfl,by rw[HG.out];exact HBF.out _ HB11.out⟩
end Go.Proofs.YticgindfipobiaaGreatDoor.Gr
