import Derived.Test.YticgindfipobiaaGreatDoorMn46
import Derived.Test.YticgindfipobiaaGreatDoorMn47
set_option linter.unusedSimpArgs false
set_option linter.unusedVariables false
set_option maxRecDepth 20000
set_option maxHeartbeats 4000000
namespace Go.Proofs.YticgindfipobiaaGreatDoor.Gr
open Go.RowKit
theorem MI.congr {w:World} {g n s:Nat} {f f':List Int->Option Int} (h:MI w g n f s) (he:f=f'):MI w g n f' s:=by rw[<-he];exact h
abbrev plc (os:List Oj) (x:List Int):Option Int:=(fO os x).map Int.ofNat
structure Sh (w:World) (hb m:Nat) (a:Option Addr) (cap:Nat) (os:List Oj):Prop where
 box:w.heap[hb]? = some (.cells #[.slice a os.length cap,.map (some m)] 71 (0,0))
 map:∃ n s,MI w m n (plc os) s
theorem Sh.below {w w':World} {hb m:Nat} {a:Option Addr} {cap:Nat} {os:List Oj} (h:Sh w hb m a cap os) (hb':Below w.heap.size w w'):Sh w' hb m a cap os:=by
 obtain⟨n,s,hm⟩:=h.map
 exact⟨(hb'.block _ (z6 h.box)).trans h.box,n,s,hm.below hb'⟩
theorem plc_hit {os:List Oj} {i:Nat} (hi:i<os.length) {o:Oj} (ho:os.getD i dO=o) (h0:oer o=0) (hn:plc (os.take i) (oid o)=none):updF (plc (os.take i)) (oid o) (i:Int)=plc (os.take (i+1)):=by
 funext y
 unfold updF plc
 rw[fO_step os i hi y,ho]
 have hn':fO (os.take i) (oid o)=none:=by unfold plc at hn;cases h:fO (os.take i) (oid o) with
  | none=>rfl
  | some j=>rw[h] at hn;cases hn
 by_cases e:y=oid o
 ·rw[if_pos e,e,hn']
  simp only
  rw[if_pos (by unfold Hit;exact decide_eq_true ⟨h0,rfl⟩)]
  rfl
 ·rw[if_neg e]
  cases fO (os.take i) y with
  | some j=>rfl
  | none =>
   simp only
   rw[if_neg (by unfold Hit;intro h;exact e (of_decide_eq_true h).2.symm)]
theorem plc_not {os:List Oj} {i:Nat} (hi:i<os.length) {o:Oj} (ho:os.getD i dO=o) (h:oer o ≠ 0 ∨ (plc (os.take i) (oid o)).isSome=true):plc (os.take i)=plc (os.take (i+1)):=by
 funext y
 unfold plc at h ⊢
 rw[fO_step os i hi y,ho]
 cases hf:fO (os.take i) y with
 | some j=>rfl
 | none =>
  simp only
  rw[if_neg ?_]
  unfold Hit
  intro h2
  obtain⟨h3,h4⟩:=of_decide_eq_true h2
  rcases h with h | h
  ·exact h h3
  ·rw[h4,hf] at h;cases h
theorem zero28 (w:World):(zeroValue 28).run Tryz.prog w=.ok (.agg #[.int .i64 0,.slice none 0 0]) w:=by kernel_rfl
theorem id_o (o:Oj) (w:World) (ht:Tab w) (hl:o.zs.length<=40000) (hz:IsB o.zs) (hS:Sl w o.a o.cap o.zs) {R RO:List Value} (hR:Rw (oid o) R) (hO:yV o=RO) {er:Int} (he:oer o=er) {ev:Value} (hv:Y0 er=ev) :
  Calls Tryz.prog 23 #[.agg RO.toArray] w fun e w'=>e=.returned (.tuple #[.agg R.toArray,ev])/\Below w.heap.size w w':=by
 have:=id_any o.k o.a o.cap o.zs w ht (by omega) hz hS
 rw[<-hO,<-hR.e,<-hv,<-he]
 exact this
structure Q3 (hb m H:Nat) (Y:List Value) (iv:Int) (b:Bool) (W:World):Prop where
 c1:W.cell? ⟨hb,1,none⟩=some (.map (some m))
 r0:W.rangeAt H 0 Y
 lk:(Instr.lookup 69 (.map (some m)) (.agg Y.toArray) true).run Tryz.prog W=.ok (.tuple #[.int .i64 iv,.bool b]) W
structure Q4 (hb m H:Nat) (Y:List Value) (W:World):Prop where
 c1:W.cell? ⟨hb,1,none⟩=some (.map (some m))
 r0:W.rangeAt H 0 Y
def PostNs (a:Option Addr) (cap:Nat) (os:List Oj) (w:World) (e:Ending) (w':World):Prop := ∃ hb m,e=.returned (.pointer (some ⟨hb,0,none⟩))/\Sh w' hb m a cap os/\Below w.heap.size w w'
set_option maxHeartbeats 8000000 in
theorem newShelf_any (a:Option Addr) (cap:Nat) (os:List Oj) (w:World) (hO:Ow w.heap.size w a cap os) (ht:Tab w) (hn:os.length<=40) :
  Calls Tryz.prog 13 #[.slice a os.length cap] w (PostNs a cap os w):=by
 obtain⟨n,HN⟩:=nm_ os.length
 obtain⟨G,HG⟩:=nm_ w.heap.size
 have hnn:n<=40:=by rw[<-HN.out];exact hn
 have HOO:Hid (Ow G w a cap os):=hid (by rw[<-HG.out];exact hO)
 have HTB:Hid (∀ W,Below G w W->Tab W):=fun W hW=>ht.below (by rw[HG.out];exact hW)
 have hmk:(Instr.makeMap 69 none).run Tryz.prog w=.ok (.map (some w.heap.size)) (w.alloc (.map #[] 0)):=by kernel_rfl
 obtain⟨w1,HW1⟩:=nm_ (w.alloc (.map #[] 0))
 have hs1:w1.heap.size=G+1:=by rw[<-HW1.out,<-HG.out];simp
 obtain⟨w2,HW2⟩:=nm_ (w1.alloc (.cells #[.slice a n cap,.map (some G)] 71))
 have hb1:Below w.heap.size w w1:=by rw[<-HW1.out];exact(Below.refl _ w).alloc (Nat.le_refl _) _
 have hb2:Below w1.heap.size w1 w2:=by rw[<-HW2.out];exact(Below.refl _ w1).alloc (Nat.le_refl _) _
 have HB2:Hid (Below G w w2):=hid (by rw[<-HG.out];exact hb1.trans (hb2.mono hb1.size))
 have HM2:Hid (MI w2 G 0 (plc (os.take 0)) 0):=hid ((by rw[<-HW1.out,<-HG.out];exact mi_made w:MI w1 G 0 (fun _=>none) 0).below hb2)
 have HX2:Hid (w2.heap[G+1]? = some (.cells #[.slice a n cap,.map (some G)] 71 (0,0))):=hid (by rw[<-HW2.out,<-hs1];exact heap_alloc_new w1 _)
 have HS1:Hid (w1.heap.size=G+1):=hs1
 obtain⟨zr,HZ⟩:=nm_ ((row .u8 z20).toArray)
 have hz56:∀ w:World,(zeroValue 56).run Tryz.prog w=.ok (.agg zr) w:=fun w=>by rw[<-HZ.out];exact zero42 w
 obtain⟨zo,HZO⟩:=nm_ ((#[.int .i64 0,.slice none 0 0] : Array Value):Array Value)
 have hz28:∀ w:World,(zeroValue 28).run Tryz.prog w=.ok (.agg zo) w:=fun w=>by rw[<-HZO.out];exact zero28 w
 rw[HN.out]
 clear hO ht hb1 hb2 hs1
 go_enter Tryz.func13,Tryz.ntmps13
 go_wp2_with fail
 rw[HW1.out,HG.out,HW2.out]
 go_loopg [16] n (fun g iv wr=>∃ (i np s:Nat),iv=.int .i64 i/\g=n-i/\i<=n/\np<=i/\Hid (Below G w wr)/\Hid (wr.heap[G+1]? = some (.cells #[.slice a n cap,.map (some G)] 71 (0,0)))/\Hid (MI wr G np (plc (os.take i)) s))
 case atStart=>exact⟨0,0,0,rfl,by omega,by omega,by omega,HB2,HX2,HM2⟩
 case round =>
  obtain⟨i,np,s,rfl,hg,hin,hnp,HB,HXB,HM⟩:=hrel
  have hGr:G+1<wr.heap.size:=z6 HXB.out
  by_cases hlt:i<n
  ·have hlti:(i:Int)<(n:Int):=by omega
   obtain⟨b,off,ha,hr,hom⟩:=HOO.out.at HB.out (i:=i) (by rw[HN.out];exact hlt)
   subst ha
   obtain⟨o,HOi⟩:=nm_ (os.getD i dO)
   rw[HOi.out] at hr hom
   have HOM:Hid (o ∈ os):=hom
   obtain⟨RO,HRO⟩:=nm_ (yV o)
   have RR:Hid (wr.rangeAt b (off+i*2) RO):=hid (by rw[<-HRO.out];exact hr)
   have hi28:(Tryz.prog.info? 28).map (·.size)=some RO.length:=by rw[<-HRO.out];exact info28
   have J28:Hid ((Tryz.prog.info? 28).map (·.size)=some RO.toArray.size):=hid (by rw[List.size_toArray];exact hi28)
   have E28:Hid (zo.size=RO.toArray.size):=hid (by rw[<-HZO.out,<-HRO.out];rfl)
   have O28:Hid (RO.toArray.all (·.oneCell')=true):=hid (by rw[<-HRO.out];exact all_oneCell_toArray (fun v hv=>by unfold yV at hv;simp at hv;rcases hv with rfl | rfl <;> rfl))
   obtain⟨er,HER⟩:=nm_ (oer o)
   obtain⟨FR,HFR⟩:=rw_ (VZ o).1
   have hiF:=HFR.out.i56
   have EF:Hid (zr.size=FR.toArray.size):=hid (by rw[<-HZ.out];exact HFR.out.z)
   obtain⟨H1,wa,HNA⟩:=nw 28 zo wr RO
   have hba:Below wr.heap.size wr wa:=by rw[HNA.out.h];exact HNA.out.below
   have HBa:Hid (Below G w wa):=hid (HB.out.trans (hba.mono (by omega)))
   have HXa:Hid (wa.heap[G+1]? = some (.cells #[.slice (some ⟨b,off,none⟩) n cap,.map (some G)] 71 (0,0))):=hid ((hba.block _ hGr).trans HXB.out)
   have HMa:Hid (MI wa G np (plc (os.take i)) s):=hid (HM.out.below hba)
   have RA:Hid (wa.rangeAt H1 0 RO):=hid HNA.out.at
   have hGa:G+1<wa.heap.size:=z6 HXa.out
   obtain⟨ev,HEV⟩:=nm_ (Y0 er)
   have CID:Hid (Calls Tryz.prog 23 #[.agg RO.toArray] wa fun e w'=>e=.returned (.tuple #[.agg FR.toArray,ev])/\Below wa.heap.size wa w') :=
    id_o o wa (HTB.out wa HBa.out) ((HOO.out.all wa HBa.out).len o hom) ((HOO.out.all wa HBa.out).isb o hom) ((HOO.out.all wa HBa.out).sl o hom) HFR.out HRO.out HER.out HEV.out
   clear hr hom hba
   go_wp2_with (first
    | refine wpList_load_mid rfl 28 _ rfl b (off+i*2) rfl RO _ RR.out Tryz.underlying28 rfl hi28 ?_
    | (refine wpList_store_row rfl 28 _ _ rfl wr.heap.size RO.toArray rfl rfl 28 zo HNA.out.d J28.out E28.out O28.out ?_;rw[HNA.out.w,HNA.out.h])
    | refine wpList_load_mid rfl 28 _ rfl H1 0 rfl RO _ RA.out Tryz.underlying28 rfl hi28 ?_
    | fail)
   refine CID.out.mono ?_
   rintro ev' wb ⟨rfl,hbb⟩
   obtain⟨H2,wc,HNC⟩:=nw 56 zr wb FR
   have hbc:Below wa.heap.size wa wc:=hbb.trans (HNC.out.below.mono (by rw[<-HNC.out.h];exact hbb.size))
   have HBc:Hid (Below G w wc.drew):=hid (zJ (HBa.out.trans (hbc.mono (by omega))) 1)
   have hbd:Below wa.heap.size wa wc.drew:=zJ hbc 1
   have HXc:Hid (wc.drew.heap[G+1]? = some (.cells #[.slice (some ⟨b,off,none⟩) n cap,.map (some G)] 71 (0,0))):=hid ((hbd.block _ hGa).trans HXa.out)
   have HMc:Hid (MI wc.drew G np (plc (os.take i)) s):=hid (HMa.out.below hbd)
   have RC:Hid (wc.drew.rangeAt H2 0 FR):=hid (zx (show wc.drew.heap[H2]? = _ from HNC.out.box))
   have hHc:H2<wc.drew.heap.size:=HNC.out.lt
   have hGH:G+1<H2:=by rw[<-HNC.out.h];exact Nat.lt_of_lt_of_le hGa hbb.size
   obtain⟨iv,HIV⟩:=nm_ ((plc (os.take i) (oid o)).getD 0)
   obtain⟨bb,HBB⟩:=nm_ ((plc (os.take i) (oid o)).isSome)
   have hSd:Q3 (G+1) G H2 FR iv bb wc.drew:=by
    refine⟨(cell_of_row _ (G+1) 1 _ _ _ HXc.out).trans rfl,RC.out,?_⟩
    have:=HMc.out.look (VZ o)
    unfold idV at this
    rw[HFR.out.e,HIV.out,HBB.out] at this
    exact this
   clear hbb hbc hbd
   go_wp2_with (first
    | (refine wpList_store_row rfl 56 _ _ rfl wb.heap.size FR.toArray rfl rfl 56 zr HNC.out.d HFR.out.j56 EF.out HFR.out.o ?_;rw[HNC.out.w,HNC.out.h])
    | fail)
   refine wp_region_held_drew (S:=Q3 (G+1) G H2 FR iv bb) (by kernel_rfl) hSd (fun hHeld=>?_)
   clear hSd
   generalize wc.drew=u0 at hHeld HBc HXc HMc RC hHc ⊢
   refine tZ (i:=0) hHeld ?_
   try simp only[Act.put,sL]
   refine tZ (i:=1) hHeld ?_
   try simp only[Act.put,sL]
   refine tZ (i:=2) hHeld ?_
   try simp only[Act.put,sL]
   refine tZ (i:=3) hHeld ?_
   try simp only[Act.put,sL]
   refine tW (i:=4) (v:=.agg FR.toArray) hHeld rfl (yieldsIf_load_mid (by kernel_rfl) 56 _ rfl H2 0 (by rfl) FR _ (fun w' h=>h.r0) Tryz.underlying56 rfl hiF) ?_
   try simp only[Act.put,sL]
   refine tW (i:=5) (v:=.tuple #[.int .i64 iv,.bool bb]) hHeld rfl (Or.inl ⟨by rfl,fun w' h=>kX rfl rfl rfl h.lk⟩) ?_
   try simp only[Act.put,sL]
   refine tZ (i:=6) hHeld ?_
   try simp only[Act.put,sL]
   refine tZ (i:=7) hHeld ?_
   try simp only[Act.put,sL]
   refine tZ (i:=8) hHeld ?_
   try simp only[Act.put,sL]
   refine tZ (i:=9) hHeld ?_
   try simp only[Act.put,sL]
   refine tZ (i:=10) hHeld ?_
   try simp only[Act.put,sL]
   refine wpAnyH_done (by kernel_rfl) ?_ _
   clear hHeld
   by_cases her:er=0
   ·have hev:ev=.nilIface:=by rw[<-HEV.out,her];rfl
    subst hev
    cases bb with
    | true =>
     have HM1:Hid (MI u0 G np (plc (os.take (i+1))) s):=hid (HMc.out.congr (plc_not (by rw[HN.out];exact hlt) HOi.out (.inr HBB.out)))
     go_wp2
     go_roundg (n-(i+1))
     case measure=>omega
     case rel=>exact⟨i+1,np,s,by go_num,rfl,by omega,by omega,HBc,HXc,HM1⟩
    | false =>
     have HNO:Hid (plc (os.take i) (oid o)=none):=hid (by have:=HBB.out;cases h:plc (os.take i) (oid o) with
      | none=>rfl
      | some _=>rw[h] at this;cases this)
     have hMd:=HMc.out.below (zJ (Below.refl _ u0) 1)
     obtain⟨u1,hput,hmi,hgr⟩:=hMd.put (by omega) (VZ o) (i:Int) (WalkArith.wf_i64 (by omega))
     have HPUT:Hid ((Instr.mapUpdate 69 (.map (some G)) (.agg FR.toArray) (.int .i64 (i:Int))).run Tryz.prog u0.drew=.ok () u1):=hid (by
      unfold idV at hput
      rw[HFR.out.e] at hput
      exact hput)
     have HM1:Hid (∃ s1,MI u1 G (np+1) (plc (os.take (i+1))) s1):=hid ⟨_,hmi.congr (plc_hit (by rw[HN.out];exact hlt) HOi.out (HER.out.trans her) HNO.out)⟩
     have HGR:Hid (u0.drew.grownBy u1 (some G)):=hgr
     have HBd:Hid (Below G w u0.drew):=hid (zJ HBc.out 1)
     have HB1:Hid (Below G w u1):=hid (HBd.out.grown hgr (by have:=HBd.out.size;rw[HG.out] at this;exact this) (fun k hk=>by cases hk;exact Nat.le_refl _))
     have HXd:Hid (u0.drew.heap[G+1]? = some (.cells #[.slice (some ⟨b,off,none⟩) n cap,.map (some G)] 71 (0,0))):=HXc
     have HX1:Hid (u1.heap[G+1]? = some (.cells #[.slice (some ⟨b,off,none⟩) n cap,.map (some G)] 71 (0,0))):=hid ((hgr.block _ (z6 HXd.out) (by simp)).trans HXd.out)
     have hSd:Q4 (G+1) G H2 FR u0.drew:=⟨(cell_of_row _ (G+1) 1 _ _ _ HXd.out).trans rfl,RC.out⟩
     have HS1':Hid (Q4 (G+1) G H2 FR u1):=hid ⟨(cell_of_row _ (G+1) 1 _ _ _ HX1.out).trans rfl,fun j v hv=>(World.cell?_of_block (a:=⟨H2,0+j,none⟩) (hgr.block H2 hHc (by simp;omega))).trans (hSd.r0 j v hv)⟩
     clear hput hmi hgr hMd
     go_wp2_with fail
     refine wp_region_held_drew (S:=Q4 (G+1) G H2 FR) (by kernel_rfl) hSd (fun hHeld=>?_)
     clear hSd
     generalize u0.drew=u2 at hHeld HPUT HGR HBd HXd ⊢
     refine tZ (i:=0) hHeld ?_
     try simp only[Act.put,sL]
     refine tZ (i:=1) hHeld ?_
     try simp only[Act.put,sL]
     refine tZ (i:=2) hHeld ?_
     try simp only[Act.put,sL]
     refine tZ (i:=3) hHeld ?_
     try simp only[Act.put,sL]
     refine tW (i:=4) (v:=.agg FR.toArray) hHeld rfl (yieldsIf_load_mid (by kernel_rfl) 56 _ rfl H2 0 (by rfl) FR _ (fun w' h=>h.r0) Tryz.underlying56 rfl hiF) ?_
     try simp only[Act.put,sL]
     refine tZ (i:=5) hHeld ?_
     try simp only[Act.put,sL]
     refine wpAnyH_ready (rs:=[6]) (by kernel_rfl) (by simp) ?_
     refine zu rfl (fun KK hKK=>?_) AllReadyH.nil
     refine step_skip (by rfl) (exec_update rfl rfl rfl rfl HPUT.out) ?_
     refine hKK.out _ _ HS1'.out (fun hHeld2=>?_)
     clear hKK KK hHeld hHeld2
     try simp only[Act.put,sL]
     refine wpAnyH_done (by kernel_rfl) ?_ _
     obtain⟨s1,hs1⟩:=HM1.out
     have HM1':Hid (MI u1 G (np+1) (plc (os.take (i+1))) s1):=hs1
     clear hs1
     go_wp2
     go_roundg (n-(i+1))
     case measure=>omega
     case rel=>exact⟨i+1,np+1,s1,by go_num,rfl,by omega,by omega,HB1,HX1,HM1'⟩
   ·have hev:ev=.iface 43 (.int .i64 er):=by rw[<-HEV.out,Y0,if_neg her]
    subst hev
    have HM1:Hid (MI u0 G np (plc (os.take (i+1))) s):=hid (HMc.out.congr (plc_not (by rw[HN.out];exact hlt) HOi.out (.inl (by rw[HER.out];exact her))))
    go_wp2
    go_roundg (n-(i+1))
    case measure=>omega
    case rel=>exact⟨i+1,np,s,by go_num,rfl,by omega,by omega,HBc,HXc,HM1⟩
  ·have hlti:¬ (i:Int)<(n:Int):=by omega
   have HM1:Hid (MI wr G np (plc os) s):=hid (by
    have:=HM.out
    rw[List.take_of_length_le (by rw[HN.out];omega)] at this
    exact this)
   go_wp2
   go_ret
   exact⟨G+1,G,rfl,⟨by rw[HN.out];exact HXB.out,np,s,HM1.out⟩,by rw[HG.out];exact HB.out⟩
def PostLk (fd:List Int->Option (Int × Ids)) (x:List Int) (w:World) (e:Ending) (w':World):Prop:=Below w.heap.size w w'/\
 ((fd x=none/\∃ g,e=.returned (.tuple #[.slice none 0 0,.iface 75 (.pointer (some ⟨g,0,none⟩))])/\w'.heap[g]? = some (.cells ((row .u8 x).toArray.push (.int .i64 50)) 77 (0,0))) ∨
 ∃ er ids a' c',fd x=some (er,ids)/\e=.returned (.tuple #[.slice a' ids.length c',Y0 er])/\Pa w' a' c' ids)
theorem links_o (os:List Oj) (L:Nat->Int × Ids) (hL:Lx os L) (i:Nat) (hi:i<os.length) (o:Oj) (ho:os.getD i dO=o) (w:World) (hw:Lw w) (he:Ers w) (hd:Db w) (hl:o.zs.length<=40000) (hz:IsB o.zs) (hS:Sl w o.a o.cap o.zs) {RO:List Value} (hO:yV o=RO) :
  Calls Tryz.prog 24 #[.agg RO.toArray] w fun e w'=>∃ a' c',e=.returned (.tuple #[.slice a' (L i).2.length c',Y0 (L i).1])/\Pa w' a' c' (L i).2/\Below w.heap.size w w':=by
 haveI i1:Inhabited Er:=⟨⟨0,[],[]⟩⟩
 haveI i2:Inhabited En:=⟨⟨⟨0,[],z20⟩,by decide,by decide⟩⟩
 have:=links_any o.k o.a o.cap o.zs (by omega) (fun _=>hl) hz w hw he hd hS
 rw[<-hO]
 refine Calls.mono this ?_
 rintro e w' ⟨hb,er,ids,a',c',rfl,h2,h3,h4,h5⟩
 have e:=hL.p i hi er ids (by rw[ho];exact h5)
 rw[<-e]
 exact⟨a',c',rfl,pa_of h2,hb⟩
structure Lv (w:World):Prop where
 lw:Lw w
 ers:Ers w
 db:Db w
theorem Lv.below {w w':World} (h:Lv w) (hb:Below w.heap.size w w'):Lv w':=⟨h.lw.below hb,h.ers.below hb,h.db.below hb⟩
theorem build77 (x:List Int) (h:x.length=20) (w:World):(Instr.build 77 #[(0,.agg (row .u8 x).toArray),(1,.int .i64 50)]).run Tryz.prog w=.ok (.agg ((row .u8 x).toArray.push (.int .i64 50))) w:=by
 obtain⟨a0,a1,a2,a3,a4,a5,a6,a7,a8,a9,a10,a11,a12,a13,a14,a15,a16,a17,a18,a19,rfl⟩:=uw x h
 kernel_rfl
theorem exec_build {P:Program} {o:Oper} {a:Act} {w w':World} {t:TypeId} {x:Operand} {c:Value} (ho:o.op=.build t #[(0,x),(1,.const c)]) {xv v:Value} (hx:a.eval x=xv) (hr:(Instr.build t #[(0,xv),(1,c)]).run P w=.ok v w'):(execOp a.eval o).run P w=.ok (.value v) w':=by
 have hc:a.eval (.const c)=c:=rfl
 unfold execOp
 simp[ho,hx,hc,hr,Result.andThen]
theorem shelfLinks_any (w0:World) (B:Nat) (hb m:Nat) (a:Option Addr) (cap:Nat) (os:List Oj) (L:Nat->Int × Ids) (hL:Lx os L) (hO:Ow B w0 a cap os) (hn:os.length<=40) (w:World) (hw:Below B w0 w) (hB:B<=w.heap.size) (hS:Sh w hb m a cap os) (hv:Lv w) (x:List Int) (hx:IdW x) :
  Calls Tryz.prog 14 #[.pointer (some ⟨hb,0,none⟩),idV x] w (PostLk (fdO os L) x w):=by
 obtain⟨n,HN⟩:=nm_ os.length
 obtain⟨G,HG⟩:=nm_ w.heap.size
 have hnn:n<=40:=by rw[<-HN.out];exact hn
 have HLX:Hid (Lx os L):=hL
 have HOO:Hid (Ow G w a cap os):=hid (hO.go hw (by rw[<-HG.out];exact hB))
 have HXI:Hid (IdW x):=hx
 obtain⟨X,HX⟩:=rw_ hx.1
 have hiX:=HX.out.i56
 obtain⟨w1,HW1⟩:=nm_ (w.alloc (.cells X.toArray 56))
 have hb1:Below w.heap.size w w1:=by rw[<-HW1.out];exact(Below.refl _ w).alloc (Nat.le_refl _) _
 have HB1:Hid (Below G w w1.drew):=hid (by rw[<-HG.out];exact zJ hb1 1)
 have HX1:Hid (w1.drew.heap[G]? = some (.cells X.toArray 56 (0,0))):=hid (by rw[<-HW1.out,<-HG.out];exact heap_alloc_new w _)
 have HSD:Hid (Sh w1.drew hb m a cap os):=hid (hS.below (by rw[HG.out];exact HB1.out))
 have HLV:Hid (Lv w1.drew):=hid (hv.below (by rw[HG.out];exact HB1.out))
 obtain⟨iv,HIV⟩:=nm_ ((plc os x).getD 0)
 obtain⟨bb,HBB⟩:=nm_ ((plc os x).isSome)
 have hSd:Q3 hb m G X iv bb w1.drew:=by
  refine⟨(cell_of_row _ hb 1 _ _ _ HSD.out.box).trans rfl,zx HX1.out,?_⟩
  obtain⟨n',s',hmi⟩:=HSD.out.map
  have:=hmi.look hx
  unfold idV at this
  rw[HX.out.e,HIV.out,HBB.out] at this
  exact this
 unfold idV
 rw[HX.out.e]
 clear hO hx hw hS hv hb1 hB hL
 go_enter Tryz.func14,Tryz.ntmps14
 go_wp2_with fail
 rw[HW1.out,HG.out]
 refine wp_region_held_drew (S:=Q3 hb m G X iv bb) (by kernel_rfl) hSd (fun hHeld=>?_)
 clear hSd
 generalize w1.drew=u0 at hHeld HB1 HX1 HSD HLV ⊢
 refine tZ (i:=0) hHeld ?_
 try simp only[Act.put,sL]
 refine tZ (i:=1) hHeld ?_
 try simp only[Act.put,sL]
 refine tZ (i:=2) hHeld ?_
 try simp only[Act.put,sL]
 refine tZ (i:=3) hHeld ?_
 try simp only[Act.put,sL]
 refine tW (i:=4) (v:=.agg X.toArray) hHeld rfl (yieldsIf_load_mid (by kernel_rfl) 56 _ rfl G 0 (by rfl) X _ (fun w' h=>h.r0) Tryz.underlying56 rfl hiX) ?_
 try simp only[Act.put,sL]
 refine tW (i:=5) (v:=.tuple #[.int .i64 iv,.bool bb]) hHeld rfl (Or.inl ⟨by rfl,fun w' h=>kX rfl rfl rfl h.lk⟩) ?_
 try simp only[Act.put,sL]
 refine tZ (i:=6) hHeld ?_
 try simp only[Act.put,sL]
 refine tZ (i:=7) hHeld ?_
 try simp only[Act.put,sL]
 refine tZ (i:=8) hHeld ?_
 try simp only[Act.put,sL]
 refine tZ (i:=9) hHeld ?_
 try simp only[Act.put,sL]
 refine tZ (i:=10) hHeld ?_
 try simp only[Act.put,sL]
 refine wpAnyH_done (by kernel_rfl) ?_ _
 clear hHeld
 have hGu:G<u0.heap.size:=z6 HX1.out
 cases hf:fO os x with
 | none =>
  have HF:Hid (fO os x=none):=hf
  have hbb:bb=false:=by rw[<-HBB.out];unfold plc;rw[hf];rfl
  subst hbb
  clear hf
  have RX:Hid (u0.drew.rangeAt G 0 X):=hid (zx (show u0.drew.heap[G]? = _ from HX1.out))
  have HBd:Hid (Below G w u0.drew):=hid (zJ HB1.out 1)
  obtain⟨V,HV⟩:=nm_ ((row .u8 x).toArray.push (.int .i64 50))
  have HBU:Hid (∀ W:World,(Instr.build 77 #[(0,.agg X.toArray),(1,.int .i64 50)]).run Tryz.prog W=.ok (.agg V) W):=fun W=>by rw[<-HX.out.e,<-HV.out];exact build77 x HXI.out.1 W
  have HGU:Hid (G<u0.drew.heap.size):=hGu
  go_wp2_with fail
  refine wp_region_held_drew (S:=fun W=>W.rangeAt G 0 X) (by kernel_rfl) RX.out (fun hHeld=>?_)
  generalize u0.drew=u2 at hHeld HBd RX HGU ⊢
  refine tW (i:=0) (v:=.agg X.toArray) hHeld rfl (yieldsIf_load_mid (by kernel_rfl) 56 _ rfl G 0 (by rfl) X _ (fun w' h=>h) Tryz.underlying56 rfl hiX) ?_
  try simp only[Act.put,sL]
  refine tW (i:=1) (v:=.agg V) hHeld rfl (Or.inl ⟨by rfl,fun w' h=>exec_build rfl rfl (HBU.out w')⟩) ?_
  try simp only[Act.put,sL]
  refine tV (i:=4) hHeld ?_
  try simp only[Act.put,sL]
  refine wpAnyH_ready (rs:=[2]) (by kernel_rfl) (by simp) ?_
  refine zu rfl (fun KK hKK=>?_) AllReadyH.nil
  refine zZ (by rfl) (.pointer (some ⟨u2.heap.size,0,none⟩)) (w':=u2.alloc (.cells V 77)) (by go_simp) ?_
  obtain⟨K2,HK2⟩:=nm_ u2.heap.size
  obtain⟨u3,HU3⟩:=nm_ (u2.alloc (.cells V 77))
  have hb3:Below u2.heap.size u2 u3:=by rw[<-HU3.out];exact(Below.refl _ u2).alloc (Nat.le_refl _) _
  have HB3:Hid (Below G w u3):=hid (HBd.out.trans (hb3.mono (by have:=HBd.out.size;rw[HG.out] at this;exact this)))
  have HX3:Hid (u3.heap[K2]? = some (.cells V 77 (0,0))):=hid (by rw[<-HU3.out,<-HK2.out];exact heap_alloc_new u2 _)
  have HR3:Hid (u3.rangeAt G 0 X):=hid (fun j v hv=>(hb3.cell (p:=⟨G,0+j,none⟩) (by have:=HGU.out;show G<_;omega)).trans (RX.out j v hv))
  clear hb3
  rw[HU3.out,HK2.out]
  refine hKK.out _ _ HR3.out (fun hHeld2=>?_)
  clear hKK KK hHeld
  try simp only[Act.put,sL]
  refine tV (i:=3) hHeld2 ?_
  try simp only[Act.put,sL]
  refine tV (i:=5) hHeld2 ?_
  try simp only[Act.put,sL]
  refine wpAnyH_done (by kernel_rfl) ?_ _
  clear hHeld2
  go_wp2
  go_ret2
  exact⟨by rw[HG.out];exact HB3.out,.inl ⟨fd_none HF.out,K2,rfl,by rw[HV.out];exact HX3.out⟩⟩
 | some j =>
  have HF:Hid (fO os x=some j):=hf
  have hbb:bb=true:=by rw[<-HBB.out];unfold plc;rw[hf];rfl
  have hiv:iv=(j:Int):=by rw[<-HIV.out];unfold plc;rw[hf];rfl
  have hjn:j<n:=by rw[<-HN.out];exact(fO_hit hf).1
  subst hbb
  subst hiv
  clear hf
  have hjni:(j:Int)<(n:Int):=by omega
  have hc0:u0.cell? ⟨hb,0,none⟩=some (.slice a n cap):=by rw[<-HN.out];exact(cell_of_row _ hb 0 _ _ _ HSD.out.box).trans rfl
  obtain⟨b,off,ha,hr,hom⟩:=HOO.out.at HB1.out (i:=j) (by rw[HN.out];exact hjn)
  subst ha
  obtain⟨o,HOi⟩:=nm_ (os.getD j dO)
  rw[HOi.out] at hr hom
  obtain⟨RO,HRO⟩:=nm_ (yV o)
  have RR:Hid (u0.rangeAt b (off+j*2) RO):=hid (by rw[<-HRO.out];exact hr)
  have hi28:(Tryz.prog.info? 28).map (·.size)=some RO.length:=by rw[<-HRO.out];exact info28
  obtain⟨er,HER⟩:=nm_ ((L j).1)
  obtain⟨ids,HIDS⟩:=nm_ ((L j).2)
  obtain⟨nl,HNL⟩:=nm_ ids.length
  obtain⟨ev,HEV⟩:=nm_ (Y0 er)
  have CLK:Hid (Calls Tryz.prog 24 #[.agg RO.toArray] u0 fun e w'=>∃ a' c',e=.returned (.tuple #[.slice a' nl c',ev])/\Pa w' a' c' ids/\Below u0.heap.size u0 w'):=hid (by
   have:=links_o os L HLX.out j (by rw[HN.out];exact hjn) o HOi.out u0 HLV.out.lw HLV.out.ers HLV.out.db ((HOO.out.all u0 HB1.out).len o hom) ((HOO.out.all u0 HB1.out).isb o hom) ((HOO.out.all u0 HB1.out).sl o hom) HRO.out
   rw[HIDS.out,HER.out,HNL.out,HEV.out] at this
   exact this)
  have HFDX:Hid (fdO os L x=some (er,ids)):=hid (by rw[fd_some HF.out,<-HER.out,<-HIDS.out])
  clear hr hom
  go_wp2_with (first
   | refine wpList_load_mid rfl 28 _ rfl b (off+j*2) rfl RO _ RR.out Tryz.underlying28 rfl hi28 ?_
   | fail)
  refine CLK.out.mono ?_
  rintro ev' w3 ⟨la,lc,rfl,hpl,hb3⟩
  have HPL:Hid (Pa w3 la lc ids):=hpl
  have HB3:Hid (Below G w w3):=hid (HB1.out.trans (hb3.mono (by omega)))
  clear hpl hb3
  go_wp2
  go_ret2
  exact⟨by rw[HG.out];exact HB3.out,.inr ⟨er,ids,la,lc,HFDX.out,by rw[HNL.out,HEV.out];rfl,HPL.out⟩⟩
end Go.Proofs.YticgindfipobiaaGreatDoor.Gr
