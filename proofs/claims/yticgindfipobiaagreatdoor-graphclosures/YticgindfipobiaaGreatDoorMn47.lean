import Derived.Test.YticgindfipobiaaGreatDoorMn46
import Derived.Test.YticgindfipobiaaGreatDoorMn40
import Derived.Test.YticgindfipobiaaGreatDoorMn44
set_option linter.unusedSimpArgs false
set_option linter.unusedVariables false
set_option maxRecDepth 20000
set_option maxHeartbeats 4000000
namespace Go.Proofs.YticgindfipobiaaGreatDoor.Gr
open Go.RowKit
structure Lx (os:List Oj) (L:Nat->Int × Ids):Prop where
 d:∀ i,i<os.length->∀ er ids,LD (os.getD i dO).k (os.getD i dO).zs.length (Lib.bytesOf (os.getD i dO).zs) er ids->(er,ids)=L i
 p:∀ i,i<os.length->∀ er ids,LP (os.getD i dO).k (os.getD i dO).zs.length (Lib.bytesOf (os.getD i dO).zs) er ids->(er,ids)=L i
 len:∀ i,i<os.length->(L i).2.length<=2000
 idw:∀ i,i<os.length->∀ y ∈ (L i).2,IdW y
def fdO (os:List Oj) (L:Nat->Int × Ids) (x:List Int):Option (Int × Ids):=(fO os x).map L
theorem fd_none {os:List Oj} {L:Nat->Int × Ids} {x:List Int} (h:fO os x=none):fdO os L x=none:=by unfold fdO;rw[h];rfl
theorem fd_some {os:List Oj} {L:Nat->Int × Ids} {x:List Int} {i:Nat} (h:fO os x=some i):fdO os L x=some (L i):=by unfold fdO;rw[h];rfl
theorem al_mem {os:List Oj} {x:List Int} {i:Nat} (h:fO os x=some i):x ∈ os.map oid:=by
 obtain⟨h1,_,h3⟩:=fO_hit h
 exact List.mem_map.2 ⟨_,yK os i dO h1,h3⟩
theorem pa_of {w:World} {a:Option Addr} {cap:Nat} {ids:Ids} (h:YticgindfipobiaaGreatDoor.Pa w a cap ids):Pa w a cap ids:=⟨h.capl,h.at_,h.nil⟩
theorem Px.mv {α:Type} {enc:α->List Value} {k:Nat} {d:α} {w w':World} {a:Option Addr} {cap:Nat} {l:List α} {v v':Value} (h:Px enc k d w a cap l) (hm:Mv w w' v v') (hne:∀ p:Addr,a=some p->some p.block ≠ v.ownBlock):Px enc k d w' a cap l :=
 ⟨h.capl,fun h0=>by
  obtain⟨b,off,e1,e2,e3⟩:=h.at_ h0
  refine⟨b,off,e1,Nat.lt_of_lt_of_le e2 hm.size,fun i hi j u hu=>?_⟩
  rw[World.cell?_of_block (a:=⟨b,off+i*k+j,none⟩) (hm.blk b e2 (hne _ e1))]
  exact e3 i hi j u hu,h.nil⟩
def PostTh (w0:World) (B:Nat) (fd:List Int->Option (Int × Ids)) (al:Ids) (x:List Int) (S:Ids) (w:World) (v:Value) (e:Ending) (w':World):Prop :=
 ∃ er v' S',e=.returned (.tuple #[v',.int .i64 er])/\Bi 31 w0 w' B v' S'/\Mv w w' v v'/\Mt fd al S'/\(er=0->S.length<=S'.length/\∀ P o,x6 fd S' P o->x6 fd S (x :: P) o)/\(er ≠ 0->∀ P,x6 fd S (x :: P) (er,[]))
theorem XV {w0:World} {B:Nat} {fd:List Int->Option (Int × Ids)} {al:Ids} {x:List Int} {S:Ids} {w:World} {v:Value} {w':World} {er:Int} (h0:er ≠ 0) (hb:Below B w0 w') (hB:B<=w'.heap.size) (hm:∃ u,Mv w w' v u) (he:∀ P,x6 fd S (x :: P) (er,[])):PostTh w0 B fd al x S w v (.returned (.tuple #[.slice none 0 0,.int .i64 er])) w':=by
 obtain⟨u,hm⟩:=hm
 exact⟨er,_,[],rfl,⟨hb,⟨rfl,.inl ⟨rfl,rfl⟩⟩,hB⟩,⟨hm.os,hm.tape,hm.output,hm.size,hm.blk,.inr fun k hk=>by cases hk⟩,mt_nil _ _,fun h=>absurd h h0,fun _=>he⟩
structure Q2 (b o c p:Nat) (X Y:List Value) (W:World):Prop where
 r0:W.rangeAt b o X
 r1:W.rangeAt c p Y
theorem refLinks_o (os:List Oj) (L:Nat->Int × Ids) (hL:Lx os L) (i:Nat) (hi:i<os.length) (o:Oj) (ho:os.getD i dO=o) (w:World) (hl:o.zs.length<=40000) (hz:IsB o.zs) (hS:Sl w o.a o.cap o.zs) {RO:List Value} (hO:yV o=RO) :
  Calls Tryz.prog 29 #[.agg RO.toArray] w fun e w'=>∃ a' c',e=.returned (.tuple #[.slice a' (L i).2.length c',.int .i64 (L i).1])/\(∀ p:Addr,a'=some p->w.heap.size<=p.block)/\Pa w' a' c' (L i).2/\Below w.heap.size w w':=by
 haveI i1:Inhabited Er:=⟨⟨0,[],[]⟩⟩
 haveI i2:Inhabited En:=⟨⟨⟨0,[],z20⟩,by decide,by decide⟩⟩
 have:=Vy o.k o.a o.cap o.zs (by omega) (fun _=>hl) hz w hS
 rw[<-hO]
 refine Calls.mono this ?_
 rintro e w' ⟨hb,er,ids,a',c',rfl,h1,h2,h3,h4⟩
 have e:=hL.d i hi er ids (by rw[ho];exact h4)
 rw[<-e]
 exact⟨a',c',rfl,h1,pa_of h2,hb⟩
theorem through_any (w0:World) (B:Nat) (a:Option Addr) (cap:Nat) (os:List Oj) (L:Nat->Int × Ids) (hL:Lx os L) (hO:Ow B w0 a cap os) (hn:os.length<=40) :
  ∀ (m:Nat) (x:List Int) (hx:IdW x) (v:Value) (S:Ids) (w:World) (hS:Bi 31 w0 w B v S) (hM:Mt (fdO os L) (os.map oid) S) (hm:(os.map oid).length<S.length+m),
  Calls Tryz.prog 16 #[.slice a os.length cap,idV x,v] w (PostTh w0 B (fdO os L) (os.map oid) x S w v):=by
 obtain⟨n,HN⟩:=nm_ os.length
 obtain⟨fd,HFD⟩:=nm_ (fdO os L)
 obtain⟨al,HAL⟩:=nm_ (os.map oid)
 have hnn:n<=40:=by rw[<-HN.out];exact hn
 have HALn:Hid (al.length<=40):=hid (by rw[<-HAL.out,List.length_map];exact hn)
 have HLX:Hid (Lx os L):=hL
 have HOW:Hid (Ow B w0 a cap os):=hO
 rw[HFD.out,HAL.out]
 clear hL hO
 intro m
 induction m with
 | zero=>intro x hx v S w hS hM hm;have:=hM.few;omega
 | succ m ih =>
  intro x hx v S w hS hM hm
  have IH:Hid (∀ (x:List Int) (hx:IdW x) (v:Value) (S:Ids) (w:World) (hS:Bi 31 w0 w B v S) (hM:Mt fd al S) (hm:al.length<S.length+m),Calls Tryz.prog 16 #[.slice a os.length cap,idV x,v] w (PostTh w0 B fd al x S w v)):=ih
  rw[HN.out] at IH
  clear ih
  obtain⟨va,vc,rfl⟩:=qw hS.own
  obtain⟨ns,HNS⟩:=nm_ S.length
  obtain⟨v,HV⟩:=nm_ (Value.slice va ns vc)
  have hns:ns<=40:=by have h1:=hM.few;have h2:=HALn.out;rw[HNS.out] at h1;omega
  have HSI:Hid (∀ y ∈ S,(row .u8 y).length=20):=hid (fun y hy=>by rw[zq];exact(hM.idw y hy).1)
  have HMT:Hid (Mt fd al S):=hM
  have HME:Hid (al.length<ns+(m+1)):=hid (by rw[<-HNS.out];exact hm)
  have HXI:Hid (IdW x):=hx
  obtain⟨G,HG⟩:=nm_ w.heap.size
  have HBS:Hid (Bi 31 w0 w B v S):=hid (by rw[<-HV.out,<-HNS.out];exact hS)
  have hBG:B<=G:=by rw[<-HG.out];exact hS.le
  obtain⟨X,HX⟩:=rw_ hx.1
  have hiX:=HX.out.i31
  obtain⟨w1,HW1⟩:=nm_ (w.alloc (.cells X.toArray 31))
  have HB1:Hid (Below G w w1):=hid (by rw[<-HW1.out,<-HG.out];exact(Below.refl _ w).alloc (Nat.le_refl _) _)
  have HX1:Hid (w1.heap[G]? = some (.cells X.toArray 31 (0,0))):=hid (by rw[<-HW1.out,<-HG.out];exact heap_alloc_new w _)
  have HPS:Hid (∀ W,Below G w W->Pa W va vc S):=fun W hW=>by
   obtain⟨a',c',e1,e2,_⟩:=(HBS.out.carry (by rw[HG.out];exact hW)).px (d:=[]) HSI.out
   rw[<-HV.out,<-HNS.out] at e1
   cases e1
   exact e2
  have HVA:Hid (0<ns->∃ b off,va=some ⟨b,off,none⟩):=fun h0=>by
   obtain⟨b,off,e1,_⟩:=(HPS.out w (Below.refl _ _)).at_ (by rw[HNS.out];exact h0)
   exact⟨b,off,e1⟩
  unfold idV
  rw[HX.out.e,HN.out,HNS.out]
  clear hS hM hm hx
  go_enter Tryz.func16,Tryz.ntmps16
  go_wp2_with fail
  rw[HW1.out,HG.out]
  go_loopg [8] ns (fun g iv wr=>∃ i:Nat,iv=.int .i64 i/\g=ns-i/\i<=ns/\Hid (Below G w wr)/\Hid (wr.heap[G]? = some (.cells X.toArray 31 (0,0)))/\Hid (x ∉ S.take i))
  case atStart=>exact⟨0,rfl,by omega,by omega,HB1,HX1,hid (by simp)⟩
  case round =>
   obtain⟨i,rfl,hg,hin,HB,HXB,HJ⟩:=hrel
   have hGr:G<wr.heap.size:=z6 HXB.out
   by_cases hlt:i<ns
   ·have hlti:(i:Int)<(ns:Int):=by omega
    obtain⟨b,off,hae⟩:=HVA.out (by omega)
    subst hae
    obtain⟨y,HY⟩:=nm_ (S.getD i [])
    have HYM:Hid (y ∈ S):=hid (by rw[<-HY.out];exact yK S i _ (by rw[HNS.out];exact hlt))
    have HYW:Hid (IdW y):=hid (HMT.out.idw y HYM.out)
    obtain⟨Y,HYR⟩:=rw_ HYW.out.1
    have hiY:=HYR.out.i31
    have HBd:Hid (Below G w wr.drew):=hid (zJ HB.out 1)
    have HXd:Hid (wr.drew.heap[G]? = some (.cells X.toArray 31 (0,0))):=HXB
    have hSd:Q2 b (off+i*20) G 0 Y X wr.drew:=⟨by
      obtain⟨b',off',e1,_,e3⟩:=(HPS.out _ HBd.out).at_ (by rw[HNS.out];omega)
      cases e1
      have:=e3 i (by rw[HNS.out];exact hlt)
      rw[HY.out,HYR.out.e] at this
      exact this,zx HXd.out⟩
    have HEQ:Hid (∀ V:World,(Op.equalIn 10000 31 (.agg Y.toArray) (.agg X.toArray)).run Tryz.prog V=.ok (decide (y=x)) V):=fun V=>by rw[<-HYR.out.e,<-HX.out.e];exact eq41 y x HYW.out.1 HXI.out.1 V
    have HTS:Hid (S.take (i+1)=S.take i++[y]):=hid (by rw[xW [] S i (by rw[HNS.out];exact hlt),HY.out])
    have hszd:wr.drew.heap.size=wr.heap.size:=rfl
    go_wp2_with fail
    refine wp_region_held_drew (S:=Q2 b (off+i*20) G 0 Y X) (by kernel_rfl) hSd (fun hHeld=>?_)
    clear hSd
    generalize wr.drew=u0 at hHeld HBd HXd hszd ⊢
    refine tZ (i:=0) hHeld ?_
    try simp only[Act.put,sL]
    refine tZ (i:=1) hHeld ?_
    try simp only[Act.put,sL]
    refine tZ (i:=2) hHeld ?_
    try simp only[Act.put,sL]
    refine tW (i:=3) (v:=.agg Y.toArray) hHeld rfl (yieldsIf_load_mid (by kernel_rfl) 31 _ rfl b (off+i*20) (by rfl) Y _ (fun w' h=>h.r0) Tryz.underlying31 rfl hiY) ?_
    try simp only[Act.put,sL]
    refine tW (i:=4) (v:=.agg X.toArray) hHeld rfl (yieldsIf_load_mid (by kernel_rfl) 31 _ rfl G 0 (by rfl) X _ (fun w' h=>h.r1) Tryz.underlying31 rfl hiX) ?_
    try simp only[Act.put,sL]
    by_cases hyx:y=x
    ·have heq:∀ V:World,(Op.equalIn 10000 31 (.agg Y.toArray) (.agg X.toArray)).run Tryz.prog V=.ok true V:=fun V=>by rw[HEQ.out V,decide_eq_true hyx]
     have HXS:Hid (x ∈ S):=hid (by rw[<-hyx];exact HYM.out)
     refine tV (i:=5) (v:=.bool true) hHeld ?_
     try simp only[Act.put,sL]
     refine wpAnyH_done (by kernel_rfl) ?_ _
     clear hHeld heq
     go_wp2
     go_ret2
     rw[HV.out]
     exact⟨0,v,S,rfl,HBS.out.carry (by rw[HG.out];exact HBd.out),Mv.grow v (zw (by rw[HG.out];exact HBd.out) _),HMT.out,fun _=>⟨Nat.le_refl _,fun P o h=>h.pass HXS.out⟩,fun h=>absurd rfl h⟩
    ·have heq:∀ V:World,(Op.equalIn 10000 31 (.agg Y.toArray) (.agg X.toArray)).run Tryz.prog V=.ok false V:=fun V=>by rw[HEQ.out V,decide_eq_false hyx]
     have HJ2:Hid (x ∉ S.take (i+1)):=hid (by
      rw[HTS.out]
      intro h
      rcases List.mem_append.1 h with h | h
      ·exact HJ.out h
      ·exact hyx (by simpa using h:x=y).symm)
     refine tV (i:=5) (v:=.bool false) hHeld ?_
     try simp only[Act.put,sL]
     refine wpAnyH_done (by kernel_rfl) ?_ _
     clear hHeld heq
     go_wp2
     go_roundg (ns-(i+1))
     case measure=>omega
     case rel=>exact⟨i+1,by go_num,rfl,by omega,HBd,HXd,HJ2⟩
   ·have hlti:¬ (i:Int)<(ns:Int):=by omega
    have HXN:Hid (x ∉ S):=hid (by
     have:=HJ.out
     rw[List.take_of_length_le (by rw[HNS.out];omega)] at this
     exact this)
    obtain⟨K,HK⟩:=nm_ wr.heap.size
    have hGK:G<K:=by rw[<-HK.out];exact hGr
    have RX:Hid (wr.rangeAt G 0 X):=hid (zx HXB.out)
    have HBw:Hid (Below B w0 wr):=hid (HBS.out.below.trans (HB.out.mono hBG))
    have COB:Hid (Calls Tryz.prog 28 #[.slice a n cap,.agg X.toArray] wr fun e w'=>e=.returned (atV (fO os x))/\Below K wr w'):=hid (by
     have:=object_any a cap os x HXI.out wr B w0 HOW.out HBw.out (by rw[HK.out];omega) (by rw[HN.out];exact hnn)
     unfold idV at this
     rw[HX.out.e,HN.out,HK.out] at this
     exact this)
    clear HJ
    go_wp2_with (first
     | refine wpList_load_mid rfl 31 _ rfl G 0 rfl X _ RX.out Tryz.underlying31 rfl hiX ?_
     | fail)
    refine COB.out.mono ?_
    rintro ev w2 ⟨rfl,hb2⟩
    have HB2:Hid (Below G w w2):=hid (HB.out.trans (hb2.mono (by omega)))
    have hK2:K<=w2.heap.size:=by rw[<-HK.out];exact hb2.size
    have HBw2:Hid (Below B w0 w2):=hid (HBS.out.below.trans (HB2.out.mono hBG))
    have HX2:Hid (w2.heap[G]? = some (.cells X.toArray 31 (0,0))):=hid ((hb2.block G hGK).trans HXB.out)
    clear hb2
    cases hf:fO os x with
    | none =>
     have HF:Hid (fO os x=none):=hf
     clear hf
     simp only[atV]
     go_wp2
     go_ret2
     rw[HV.out]
     exact XV (by decide) HBw2.out (by omega) ⟨v,Mv.grow v (zw (by rw[HG.out];exact HB2.out) _)⟩ (fun P=>ends_miss HXN.out (by rw[<-HFD.out];exact fd_none HF.out))
    | some j =>
     have HF:Hid (fO os x=some j):=hf
     have hjn:j<n:=by rw[<-HN.out];exact(fO_hit hf).1
     clear hf
     simp only[atV]
     have hj0:¬ (j:Int)<0:=by omega
     have hjni:(j:Int)<(n:Int):=by omega
     have hjp:(0:Int)<=(j:Int):=by omega
     obtain⟨b,off,ha,hr,hom⟩:=HOW.out.at HBw2.out (i:=j) (by rw[HN.out];exact hjn)
     subst ha
     obtain⟨o,HOi⟩:=nm_ (os.getD j dO)
     rw[HOi.out] at hr hom
     obtain⟨RO,HRO⟩:=nm_ (yV o)
     have RR:Hid (w2.rangeAt b (off+j*2) RO):=hid (by rw[<-HRO.out];exact hr)
     have hi30:(Tryz.prog.info? 30).map (·.size)=some RO.length:=by rw[<-HRO.out];exact info30
     obtain⟨H,HH⟩:=nm_ w2.heap.size
     have hGH:G<H:=by rw[<-HH.out];omega
     obtain⟨er,HER⟩:=nm_ ((L j).1)
     obtain⟨ids,HIDS⟩:=nm_ ((L j).2)
     obtain⟨nl,HNL⟩:=nm_ ids.length
     have hnl:nl<=2000:=by rw[<-HNL.out,<-HIDS.out];exact HLX.out.len j (by rw[HN.out];exact hjn)
     have HIW:Hid (∀ y ∈ ids,IdW y):=hid (by rw[<-HIDS.out];exact HLX.out.idw j (by rw[HN.out];exact hjn))
     have CLK:Hid (Calls Tryz.prog 29 #[.agg RO.toArray] w2 fun e w'=>∃ a' c',e=.returned (.tuple #[.slice a' nl c',.int .i64 er])/\(∀ p:Addr,a'=some p->H<=p.block)/\Pa w' a' c' ids/\Below H w2 w'):=hid (by
      have:=refLinks_o os L HLX.out j (by rw[HN.out];exact hjn) o HOi.out w2 ((HOW.out.all w2 HBw2.out).len o hom) ((HOW.out.all w2 HBw2.out).isb o hom) ((HOW.out.all w2 HBw2.out).sl o hom) HRO.out
      rw[HIDS.out,HER.out,HNL.out,HH.out] at this
      exact this)
     have HFDX:Hid (fd x=some (er,ids)):=hid (by rw[<-HFD.out,fd_some HF.out,<-HER.out,<-HIDS.out])
     have HXA:Hid (x ∈ al):=hid (by rw[<-HAL.out];exact al_mem HF.out)
     clear hr hom
     go_wp2_with (first
      | refine wpList_load_mid rfl 30 _ rfl b (off+j*2) rfl RO _ RR.out Tryz.underlying30 rfl hi30 ?_
      | fail)
     refine CLK.out.mono ?_
     rintro ev w3 ⟨la,lc,rfl,hlb,hpl,hb3⟩
     have HLB:Hid (∀ p:Addr,la=some p->H<=p.block):=hlb
     have HPL:Hid (Pa w3 la lc ids):=hpl
     have HB3:Hid (Below G w w3):=hid (HB2.out.trans (hb3.mono (by omega)))
     have hH3:H<=w3.heap.size:=by rw[<-HH.out];exact hb3.size
     have HBw3:Hid (Below B w0 w3):=hid (HBS.out.below.trans (HB3.out.mono hBG))
     have HX3:Hid (w3.heap[G]? = some (.cells X.toArray 31 (0,0))):=hid ((hb3.block G hGH).trans HX2.out)
     clear hlb hpl hb3
     by_cases her:er=0
     ·subst her
      obtain⟨K3,HK3⟩:=nm_ w3.heap.size
      have RX3:Hid (w3.rangeAt G 0 X):=hid (zx HX3.out)
      have HBLD:Hid ((Instr.buildSlice 38 1 #[(0,.agg X.toArray)]).run Tryz.prog w3=.ok (.slice (some ⟨K3,0,none⟩) 1 1) (w3.alloc (.cells X.toArray 31))):=hid (by rw[<-HK3.out,<-HX.out.e];exact kQ x HXI.out.1 w3)
      obtain⟨w4,HW4⟩:=nm_ (w3.alloc (.cells X.toArray 31))
      have hb4:Below w3.heap.size w3 w4:=by rw[<-HW4.out];exact(Below.refl _ w3).alloc (Nat.le_refl _) _
      have HV4:Hid (Bi 31 w0 w4 B v S):=hid ((HBS.out.carry (by rw[HG.out];exact HB3.out)).carry hb4)
      have HP4:Hid (Pa w4 (some ⟨K3,0,none⟩) 1 [x]):=hid (by rw[<-HW4.out,<-HK3.out,<-HX.out.e];exact k6 w3 x 31)
      have HSUM:Hid (S.length + [x].length<=100000):=hid (by rw[HNS.out];simp only[List.length_cons,List.length_nil];omega)
      have HONE1:Hid (∀ z ∈ [x],(row .u8 z).length=20):=fun z hz=>by
       have:z=x:=by simpa using hz
       rw[this,zq];exact HXI.out.1
      have HM4:Hid (Mv w3 w4 v v):=hid (Mv.grow v (zw hb4 _))
      clear hb4
      go_wp2_with (first
       | refine wpList_load_mid rfl 31 _ rfl G 0 rfl X _ RX3.out Tryz.underlying31 rfl hiX ?_
       | (refine vz rfl 38 1 _ rfl (.agg X.toArray) _ rfl HBLD.out ?_;rw[HW4.out])
       | (refine wpList_bx_slM (d:=[]) rfl _ _ 38 31 Tryz.underlying38 Tryz.info31 rfl (by decide) (by decide) (fun z=>zV _ z) rfl B v _ HV.out HV4.out (some ⟨K3,0,none⟩) 1 [x] rfl HP4.out HONE1.out HSUM.out ?_;intro v5 w5 hb5 hg5 hm5)
       | fail)
      have HV5:Hid (Bi 31 w0 w5 B v5 (S++[x])):=hb5
      have HM5:Hid (Mv w3 w5 v v5):=hid (HM4.out.trans hm5)
      have HMT5:Hid (Mt fd al (S++[x])):=hid (HMT.out.put HXN.out HXA.out HXI.out)
      have HLV:Hid (∀ p:Addr,la=some p->some p.block ≠ v.ownBlock):=hid (fun p hp e=>by
       have h1:=HLB.out p hp
       have h2:=(qW HBS.out.own p.block e.symm).2
       rw[HG.out] at h2
       omega)
      have HLA:Hid (0<nl->∃ b off,la=some ⟨b,off,none⟩):=fun h0=>by
       obtain⟨b,off,e1,_⟩:=HPL.out.at_ (by rw[HNL.out];exact h0)
       exact⟨b,off,e1⟩
      clear hb5 hg5 hm5
      go_loopg [2,11,12] nl (fun g u ev iv wr=>∃ (i:Nat) (vi:Value) (Si:Ids),vi=u/\ev=.int .i64 0/\iv=.int .i64 i/\g=nl-i/\i<=nl/\Hid (Bi 31 w0 wr B vi Si)/\Hid (Mv w3 wr v vi)/\Hid (Mt fd al Si)/\Hid (ns+1<=Si.length)/\Hid (∀ P o,x6 fd Si (ids.drop i++P) o->x6 fd S (x :: P) o))
      case atStart=>exact⟨0,v5,S++[x],rfl,rfl,rfl,rfl,Nat.zero_le _,HV5,HM5,HMT5,hid (by rw[List.length_append,HNS.out];exact Nat.le_refl _),hid (fun P o h=>x6.take HXN.out HFDX.out rfl (by simpa using h))⟩
      case round =>
       obtain⟨i,vi,Si,hvi,rfl,rfl,hg2,hil,HVi,HMi,HTi,HLi,HEi⟩:=hrel
       subst hvi
       by_cases hlt2:i<nl
       ·have hlti2:(i:Int)<(nl:Int):=by omega
        obtain⟨lb,lo,hle⟩:=HLA.out (by omega)
        subst hle
        obtain⟨y,HY⟩:=nm_ (ids.getD i [])
        have HYW:Hid (IdW y):=hid (HIW.out y (by rw[<-HY.out];exact yK ids i _ (by rw[HNL.out];exact hlt2)))
        obtain⟨Y,HYR⟩:=rw_ HYW.out.1
        have hiY:=HYR.out.i31
        have RY:Hid (wr.rangeAt lb (lo+i*20) Y):=hid (by
         obtain⟨b',off',e1,_,e3⟩:=(HPL.out.mv HMi.out HLV.out).at_ (by rw[HNL.out];omega)
         cases e1
         have:=e3 i (by rw[HNL.out];exact hlt2)
         rw[HY.out,HYR.out.e] at this
         exact this)
        have HDR:Hid (ids.drop i=y :: ids.drop (i+1)):=hid (by
         rw[List.drop_eq_getElem_cons (by rw[HNL.out];exact hlt2),<-HY.out,List.getD_eq_getElem?_getD,List.getElem?_eq_getElem (by rw[HNL.out];exact hlt2)];rfl)
        have CTH:Hid (Calls Tryz.prog 16 #[.slice (some ⟨b,off,none⟩) n cap,.agg Y.toArray,vi] wr (PostTh w0 B fd al y Si wr vi)):=hid (by
         have:=IH.out y HYW.out vi Si wr HVi.out HTi.out (by have h1:=HME.out;have h2:=HLi.out;omega)
         unfold idV at this
         rw[HYR.out.e] at this
         exact this)
        go_wp2_with (first
         | refine wpList_load_mid rfl 31 _ rfl lb (lo+i*20) rfl Y _ RY.out Tryz.underlying31 rfl hiY ?_
         | fail)
        refine CTH.out.mono ?_
        rintro ev w6 ⟨e6,v6,S6,rfl,hV6,hM6,hT6,hg6,hbad6⟩
        have HV6:Hid (Bi 31 w0 w6 B v6 S6):=hV6
        have HM6:Hid (Mv w3 w6 v v6):=hid (HMi.out.trans hM6)
        have HT6:Hid (Mt fd al S6):=hT6
        by_cases he6:e6=0
        ·subst he6
         obtain⟨hl6,hgo6⟩:=hg6 rfl
         have HL6:Hid (ns+1<=S6.length):=hid (by have:=HLi.out;omega)
         have HE6:Hid (∀ P o,x6 fd S6 (ids.drop (i+1)++P) o->x6 fd S (x :: P) o):=hid (fun P o h=>HEi.out P o (by rw[HDR.out];exact hgo6 _ _ h))
         clear hV6 hM6 hT6 hg6 hbad6 hl6 hgo6
         go_wp2
         go_roundg (nl-(i+1))
         case measure=>omega
         case rel=>exact⟨i+1,v6,S6,rfl,rfl,by go_num,rfl,by omega,HV6,HM6,HT6,HL6,HE6⟩
        ·have HBD:Hid (∀ P,x6 fd S (x :: P) (e6,[])):=hid (fun P=>HEi.out P _ (by rw[HDR.out];exact hbad6 he6 _))
         have HE0:Hid (e6 ≠ 0):=he6
         have hneb:(e6 == 0)=false:=by rw[beq_eq_false_iff_ne];exact he6
         have hBE:B<=w6.heap.size:=hV6.le
         clear hV6 hM6 hT6 hg6 hbad6
         go_wp2
         go_ret2
         rw[HV.out]
         exact XV HE0.out HV6.out.below hBE ⟨v6,(Mv.grow v (zw (by rw[HG.out];exact HB3.out) _)).trans HM6.out⟩ HBD.out
       ·have hlti2:¬ (i:Int)<(nl:Int):=by omega
        have HEE:Hid (∀ P o,x6 fd Si P o->x6 fd S (x :: P) o):=hid (fun P o h=>HEi.out P o (by rw[List.drop_eq_nil_of_le (by rw[HNL.out];omega)];exact h))
        go_wp2
        go_ret2
        rw[HV.out]
        exact⟨0,vi,Si,rfl,HVi.out,(Mv.grow v (zw (by rw[HG.out];exact HB3.out) _)).trans HMi.out,HTi.out,fun _=>⟨by have:=HLi.out;rw[HNS.out];omega,HEE.out⟩,fun h=>absurd rfl h⟩
     ·have hneb:(er == 0)=false:=by rw[beq_eq_false_iff_ne];exact her
      have HE0:Hid (er ≠ 0):=her
      go_wp2
      go_ret2
      rw[HV.out]
      exact XV HE0.out HBw3.out (by omega) ⟨v,Mv.grow v (zw (by rw[HG.out];exact HB3.out) _)⟩ (fun P=>ends_bad HXN.out HFDX.out HE0.out)
end Go.Proofs.YticgindfipobiaaGreatDoor.Gr
