import Derived.Test.YticgindfipobiaaGreatDoorMn26
import Derived.Test.YticgindfipobiaaGreatDoorMn31
set_option linter.unusedSimpArgs false
set_option linter.unusedVariables false
set_option maxRecDepth 20000
set_option maxHeartbeats 4000000
namespace Go.Proofs.YticgindfipobiaaGreatDoor
open Go.RowKit
theorem Tryz.size121:(Tryz.prog.info? 121).map (·.size)=some 30:=by kernel_rfl
theorem Tryz.results49:Tryz.f49.results=#[.cell 2 121,.tmp 3]:=by kernel_rfl
theorem Tryz.info31f:(Tryz.prog.info? 31).map (fun i=>(i.zero,i.size,i.bytes))=some (some (.agg (row .u8 z20).toArray),20,20):=by kernel_rfl
theorem zero66 (w:World):(zeroValue 121).run Tryz.prog w=.ok (.agg (cmV (cm0 z20) none 0).toArray) w:=by kernel_rfl
structure CR (G H:Nat) (zr:Array Value) (C:Cm) (a:Option Addr) (cap:Nat) (w W:World):Prop where
 below:Below G w W
 com:W.heap[G+1]? = some (.cells (cmV C a cap).toArray 121 (0,0))
 res:W.heap[G]? = some (.cells zr 121 (0,0))
 idb:∃ R:List Value,R.length=20/\W.heap[H]? = some (.cells R.toArray 31 (0,0))
section
variable {G H : Nat} {zr : Array Value} {C C' : Cm} {a a' : Option Addr} {cap cap' : Nat} {w W W' : World}
theorem CR.grow (h:CR G H zr C a cap w W) (hb:Below W.heap.size W W'):CR G H zr C a cap w W':=by
 obtain⟨R,r1,r2⟩:=h.idb
 exact⟨h.below.trans (hb.mono (Nat.le_of_lt (z6 h.res))),(hb.block _ (z6 h.com)).trans h.com,(hb.block _ (z6 h.res)).trans h.res,R,r1,(hb.block _ (z6 r2)).trans r2⟩
theorem CR.grown (h:CR G H zr C a cap w W) (h4:G+1<H) {q:Option Nat} (hg:W.grownBy W' q) (hq:∀ k,q=some k->H<k):CR G H zr C a cap w W':=by
 have hne:∀ b,b<=H->some b ≠ q:=fun b hb e=>by have:=hq b e.symm;omega
 obtain⟨R,r1,r2⟩:=h.idb
 exact⟨h.below.grown hg (Nat.le_of_lt (z6 h.res)) (fun k hk=>by have:=hq k hk;omega),(hg.block _ (z6 h.com) (hne _ (by omega))).trans h.com,(hg.block _ (z6 h.res) (hne _ (by omega))).trans h.res,R,r1,(hg.block _ (z6 r2) (hne _ (Nat.le_refl _))).trans r2⟩
theorem CR.set (h:CR G H zr C a cap w W) (h4:G+1<H) (hl:C.tree.length=20) (i:Nat) (v:Value) (he:row .u8 C.tree++(cmT C a cap).set i v=cmV C' a' cap'):CR G H zr C' a' cap' w (W.setCell ⟨G+1,20+i,none⟩ v):=by
 obtain⟨R,r1,r2⟩:=h.idb
 exact⟨h.below.setCell (by show G<=G+1;omega) _,by rw[heap_setCell_same W (G+1) (20+i) _ 121 v h.com,List.setIfInBounds_toArray,cmV_set C a cap hl,he],(heap_setCell_other W ⟨G+1,20+i,none⟩ G v (by show G ≠ G+1;omega)).trans h.res,R,r1,(heap_setCell_other W ⟨G+1,20+i,none⟩ H v (by show H ≠ G+1;omega)).trans r2⟩
theorem CR.cell (h:CR G H zr C a cap w W) (hl:C.tree.length=20) (i:Nat) (v:Value) (hv:(cmT C a cap)[i]? = some v):W.cell? ⟨G+1,20+i,none⟩=some v/\W.frozen? ⟨G+1,20+i,none⟩=false :=
 ⟨(cell_of_row W (G+1) (20+i) _ _ _ h.com).trans (by rw[List.getElem?_toArray,cmV_at C a cap hl];exact hv),frozen_of_row W (G+1) (20+i) _ _ h.com⟩
theorem CR.id (h:CR G H zr C a cap w W) (h4:G+1<H) (hl:C.tree.length=20) (fr:List Int) (hf:fr.length=20):CR G H zr { C with tree:=fr } a cap w (W.setCells (G+1) 0 (row .u8 fr)):=by
 obtain⟨R,r1,r2⟩:=h.idb
 refine⟨z7 (by omega) _ _ _ _ h.below,?_,(q9 (G+1) G (by omega) _ _ _).trans h.res,R,r1,(q9 (G+1) H (by omega) _ _ _).trans r2⟩
 rw[qY (G+1) 121 (row .u8 fr) 0 W (cmV C a cap) h.com]
 have:=uJ (row .u8 fr) (row .u8 C.tree) [] (cmT C a cap) (by rw[zq,zq,hl,hf])
 simp only[List.nil_append,List.length_nil] at this
 unfold cmV
 rw[this]
 rfl
theorem CR.box (h:CR G H zr C a cap w W) (h4:G+1<H) (RF:List Value) (hR:RF.length=20):CR G H zr C a cap w (W.setRow H RF.toArray):=by
 obtain⟨R,r1,r2⟩:=h.idb
 exact⟨below_setRow h.below (by omega) _,(setRow_other _ _ _ _ (by omega)).trans h.com,(setRow_other _ _ _ _ (by omega)).trans h.res,RF,hR,setRow_heap _ _ _ _ _ _ r2⟩
theorem CR.au (h:CR G H zr C a cap w W) (h4:G+1<H) (hl:C.tree.length=20) (p:Per):CR G H zr { C with au:=p } a cap w (W.setCells (G+1) 21 (qK p).toList):=by
 have h1:=h.set (C':={ C with au:={ C.au with name:=p.name } }) (a':=a) (cap':=cap) h4 hl 1 (.string ⟨p.name.toArray⟩) rfl
 have h2:=h1.set (C':={ C with au:={ C.au with name:=p.name,mail:=p.mail } }) (a':=a) (cap':=cap) h4 hl 2 (.string ⟨p.mail.toArray⟩) rfl
 have h3:=h2.set (C':={ C with au:={ C.au with name:=p.name,mail:=p.mail,time:=p.time } }) (a':=a) (cap':=cap) h4 hl 3 (.int .i64 p.time) rfl
 exact h3.set (C':={ C with au:=p }) (a':=a) (cap':=cap) h4 hl 4 (.int .i64 p.zone) rfl
theorem CR.co (h:CR G H zr C a cap w W) (h4:G+1<H) (hl:C.tree.length=20) (p:Per):CR G H zr { C with co:=p } a cap w (W.setCells (G+1) 25 (qK p).toList):=by
 have h1:=h.set (C':={ C with co:={ C.co with name:=p.name } }) (a':=a) (cap':=cap) h4 hl 5 (.string ⟨p.name.toArray⟩) rfl
 have h2:=h1.set (C':={ C with co:={ C.co with name:=p.name,mail:=p.mail } }) (a':=a) (cap':=cap) h4 hl 6 (.string ⟨p.mail.toArray⟩) rfl
 have h3:=h2.set (C':={ C with co:={ C.co with name:=p.name,mail:=p.mail,time:=p.time } }) (a':=a) (cap':=cap) h4 hl 7 (.int .i64 p.time) rfl
 exact h3.set (C':={ C with co:=p }) (a':=a) (cap':=cap) h4 hl 8 (.int .i64 p.zone) rfl
end
theorem own_above {W:World} {B:Nat} {e:TypeId} {SV:Value} {n:Nat} {xs:List Value} (h:W.ownsRow B e 20 SV n xs):∀ k,SV.ownBlock=some k->B<=k:=fun k hk=>by
 obtain⟨_,⟨hv,_⟩ | ⟨g2,c2,cur,hv,hb,_⟩⟩:=h
 ·rw[hv] at hk;cases hk
 ·rw[hv] at hk
  have:g2=k:=by simpa [Value.ownBlock] using hk
  omega
def uV (l:List UInt8) (w:World) (e:Ending) (w':World):Prop:=Below w.heap.size w w'/\∃ (t:Cm) (pa:Option Addr) (pc:Nat) (b:Bool),e=.returned (.tuple #[.agg (cmV t pa pc).toArray,.bool b])/\WfC t/\OE 31 w.heap.size pa pc t.ids w'/\(b=true->okC t/\cmB t=l)/\∀ u:Cm,WfC u->okC u->cmB u=l->b=true
structure RC1 (G:Nat) (TV:List Value) (W:World):Prop where
 rg:W.rangeAt (G+1) 0 TV
structure RC20 (G:Nat) (TV:List Value) (v17 v0:Value) (X S:ByteArray) (W:World):Prop where
 rg:W.rangeAt (G+1) 0 TV
 cx:(convert 26 9 v17).run Tryz.prog W=.ok (.string X) W
 ca:(convert 26 9 v0).run Tryz.prog W=.ok (.string S) W
theorem z20_wf:WfC (cm0 z20):=⟨⟨rfl,fun n hn=>by have:n=0:=(by simpa [cm0,z20] using hn);omega⟩,fun x hx=>by cases hx⟩
set_option maxHeartbeats 20000000 in
theorem readCommitR_any (a0:Option Addr) (cap0:Nat) (zs:List Int) (hl:zs.length<=200000) (w:World) (hS:Sl w a0 cap0 zs) :
  Calls Tryz.prog 49 #[.slice a0 zs.length cap0] w (uV (Lib.bytesOf zs) w):=by
 obtain⟨i31,hi31i,hz0,hz1,hz2⟩:=zQ Tryz.info31f
 obtain⟨zv,HZ⟩:=nn_ ((cmV (cm0 z20) none 0).toArray)
 have hz66:∀ w:World,(zeroValue 121).run Tryz.prog w=.ok (.agg zv) w:=fun w=>by rw[HZ.out];exact zero66 w
 have HZS:Hid (zv.size=30):=hid (by rw[HZ.out,List.size_toArray];exact qu _ _ _ rfl)
 obtain⟨zr,HZR⟩:=nn_ ((row .u8 z20).toArray)
 have hz31:∀ w:World,(zeroValue 31).run Tryz.prog w=.ok (.agg zr) w:=fun w=>by rw[HZR.out];exact zero31 w
 have HRL:Hid (zr.size=20):=hid (by rw[HZR.out];rfl)
 obtain⟨n0,HN0⟩:=nm_ zs.length
 obtain⟨l,HL⟩:=nm_ (Lib.bytesOf zs)
 have HLL:Hid (l.length<=200000):=hid (by rw[<-HL.out,Lib.bytesOf_length];exact hl)
 obtain⟨S,HSS⟩:=nm_ (⟨l.toArray⟩:ByteArray)
 obtain⟨G,HG⟩:=nm_ w.heap.size
 obtain⟨w1,HW1⟩:=nm_ ((w.alloc (.cells zv 121)).alloc (.cells zv 121))
 have B1:Hid (Below G w w1):=hid (by rw[<-HW1.out,<-HG.out];exact((Below.refl _ w).alloc (Nat.le_refl _) _).alloc (by simp) _)
 have M1:Hid (w1.heap[G+1]? = some (.cells zv 121 (0,0))):=hid (by
  rw[<-HW1.out,<-HG.out]
  have:=heap_alloc_new (w.alloc (.cells zv 121)) (.cells zv 121)
  simpa using this)
 have N1:Hid (w1.heap[G]? = some (.cells zv 121 (0,0))):=hid (by
  rw[<-HW1.out,<-HG.out]
  have h1:=heap_alloc_new w (.cells zv 121)
  have h2:=((Below.refl (w.alloc (.cells zv 121)).heap.size (w.alloc (.cells zv 121))).alloc (Nat.le_refl _) (.cells zv 121)).block w.heap.size (by simp)
  exact h2.trans h1)
 have HCA:Hid (∀ W,Below G w W->(convert 26 9 (.slice a0 n0 cap0)).run Tryz.prog W=.ok (.string S) W):=fun W hW=>by
  rw[<-HSS.out,<-HL.out,<-HN0.out]
  exact conv_str (hS.below (by rw[HG.out];exact hW))
 have hcv:=HCA.out ((w.alloc (.cells zv 121)).alloc (.cells zv 121)) (by rw[HW1.out];exact B1.out)
 have C1:Hid (∀ W,Calls Tryz.prog 68 #[.string S,.string ⟨#[116,114,101,101]⟩] W fun e w'=>Below W.heap.size W w'/\j9 l Qw e):=fun W=>by
  rw[<-HSS.out]
  exact uj l Qw (Nat.le_trans HLL.out (by omega)) (by decide) W
 rw[HN0.out,HL.out]
 clear hS
 go_enter Tryz.func49,Tryz.ntmps49
 go_wp2_with fail
 rw[HG.out,HW1.out]
 clear hcv
 refine(C1.out w1).mono ?_
 rintro ev w2 ⟨hb,hp⟩
 obtain⟨o1,r1,b1,rfl,hpl⟩:=hp.form
 have PL1:Hid (PL l Qw o1 r1 b1):=hpl
 have B2:Hid (Below G w w2):=B1.out.trans (hb.mono (Nat.le_of_lt (z6 N1.out)))
 have M2:Hid (w2.heap[G+1]? = some (.cells zv 121 (0,0))):=hid ((hb.block _ (z6 M1.out)).trans M1.out)
 have N2:Hid (w2.heap[G]? = some (.cells zv 121 (0,0))):=hid ((hb.block _ (z6 N1.out)).trans N1.out)
 clear hp hpl hb
 obtain⟨O1,HO1⟩:=nm_ (⟨o1.toArray⟩:ByteArray)
 obtain⟨R1,HR1⟩:=nm_ (⟨r1.toArray⟩:ByteArray)
 rw[HO1.out,HR1.out]
 have LR1:Hid (r1.length<=200000):=hid (Nat.le_trans PL1.out.2.2.1 HLL.out)
 have LO1:Hid (o1.length<=200000):=hid (Nat.le_trans PL1.out.2.2.2 HLL.out)
 have C5:Hid (∀ W,Calls Tryz.prog 69 #[.string O1] W fun e w'=>Below W.heap.size W w'/\PostQR o1 e):=fun W=>by
  rw[<-HO1.out]
  exact Q6 o1 W (Nat.le_trans LO1.out (by omega))
 go_wp2_with fail
 refine(C5.out w2).mono ?_
 rintro ev w3 ⟨hb,fr,gd,rfl,hpq⟩
 have HPQ:Hid (PQ o1 fr gd):=hpq
 have HFL:Hid (fr.length=20):=hpq.1
 have HFB:Hid (∀ n ∈ fr,0<=n/\n<256):=hpq.2.1
 have B3:Hid (Below G w w3):=B2.out.trans (hb.mono (Nat.le_of_lt (z6 N2.out)))
 have M3:Hid (w3.heap[G+1]? = some (.cells zv 121 (0,0))):=hid ((hb.block _ (z6 M2.out)).trans M2.out)
 have N3:Hid (w3.heap[G]? = some (.cells zv 121 (0,0))):=hid ((hb.block _ (z6 N2.out)).trans N2.out)
 clear hb hpq C1 C5
 obtain⟨UI1,UX1⟩:=ui_start PL1.out HPQ.out
 have HUI:Hid (UI l fr [] r1):=UI1
 have HUX:Hid (∀ u:Cm,WfC u->okC u->cmB u=l->b1=true/\gd=true):=UX1
 clear UI1 UX1
 obtain⟨RF,HRF⟩:=nm_ (row .u8 fr)
 rw[HRF.out]
 have HFN:Hid (RF.length=20):=hid (by rw[<-HRF.out,zq];exact HFL.out)
 have hi31:(Tryz.prog.info? 31).map (·.size)=some RF.length:=by rw[HFN.out];exact Tryz.size31
 have T1:Hid ((w3.alloc (.cells zr 31)).there w3.heap.size 0 RF.toArray.size):=hid (zy (heap_alloc_new w3 _) 0 (by rw[List.size_toArray,HFN.out,HRL.out];omega))
 have T2:Hid ((Tryz.prog.info? 31).map (·.size)=some RF.toArray.size):=hid (by rw[List.size_toArray];exact hi31)
 have T3:Hid (RF.toArray.all (·.oneCell')=true):=hid (by rw[<-HRF.out];exact all_oneCell_toArray (zV _ _))
 obtain⟨w4,HW4⟩:=nm_ ((w3.alloc (.cells zr 31)).setCells w3.heap.size 0 RF.toArray.toList)
 obtain⟨H,HH⟩:=nm_ w3.heap.size
 have HLT:Hid (G+1<H):=hid (by rw[<-HH.out];exact z6 M3.out)
 have CR4:Hid (CR G H zv (cm0 z20) none 0 w w4):=hid (by
  have hb:Below w3.heap.size w3 w4:=by rw[<-HW4.out];exact z7 (Nat.le_refl _) _ _ _ _ ((Below.refl _ w3).alloc (Nat.le_refl _) _)
  refine⟨B3.out.trans (hb.mono (Nat.le_of_lt (z6 N3.out))),?_,(hb.block _ (z6 N3.out)).trans N3.out,RF,HFN.out,?_⟩
  ·rw[<-HZ.out];exact(hb.block _ (z6 M3.out)).trans M3.out
  ·have h1:=heap_alloc_new w3 (.cells zr 31)
   rw[HZR.out] at h1
   have h2:=qY w3.heap.size 31 RF 0 _ _ h1
   have h3:=uJ RF (row .u8 z20) [] [] (by rw[HFN.out];rfl)
   simp only[List.nil_append,List.append_nil,List.length_nil] at h3
   rw[h3] at h2
   rw[<-HW4.out,<-HH.out,HZR.out]
   exact h2)
 have HX4:Hid (w4.rangeAt H 0 RF):=hid (by
  rw[<-HW4.out,<-HH.out]
  exact World.rangeAt_setCells_same _ _ 0 _ (by have:=T1.out;rwa [List.size_toArray] at this))
 have OE4:Hid (OE 31 (H+1) none 0 [] w4):=⟨rfl,.inl ⟨rfl,rfl⟩⟩
 cases b1 with
 | false =>
  have HNO:Hid (∀ u:Cm,WfC u->okC u->cmB u ≠ l):=fun u h1 h2 h3=>by have h:=(HUX.out u h1 h2 h3).1;cases h
  have WFX:Hid (WfC (cm0 z20)):=z20_wf
  obtain⟨FV,HFV⟩:=nm_ (cmV (cm0 z20) none 0)
  have FVL:Hid (FV.length=30):=hid (by rw[<-HFV.out];exact qu _ _ _ (by first | exact HFL.out | rfl))
  have hi66f:(Tryz.prog.info? 121).map (·.size)=some FV.length:=by rw[FVL.out];exact Tryz.size121
  have FI:Hid ((Tryz.prog.info? 121).map (·.size)=some FV.toArray.size):=hid (by rw[List.size_toArray];exact hi66f)
  have FO:Hid (FV.toArray.all (·.oneCell')=true):=hid (by rw[<-HFV.out];exact all_oneCell_toArray (xq _ _ _))
  have FL:Hid (w4.rangeAt (G+1) 0 FV):=hid (by rw[<-HFV.out];exact zx CR4.out.com)
  have FS:Hid (w4.there G 0 FV.toArray.size):=hid (zy CR4.out.res 0 (by rw[List.size_toArray,FVL.out,HZS.out];omega))
  have FS':Hid (w4.there G 0 FV.length):=hid (zy CR4.out.res 0 (by rw[FVL.out,HZS.out];omega))
  have FIN:Hid (uV l w (.returned (.tuple #[.agg FV.toArray,.bool false])) (w4.setCells G 0 FV)):=hid (by
   refine⟨by rw[HG.out];exact z7 (Nat.le_refl _) _ _ _ _ CR4.out.below,(cm0 z20),none,0,false,by rw[HFV.out],WFX.out,?_,(fun h=>by cases h),fun u h1 h2 h3=>absurd h3 (HNO.out u h1 h2)⟩
   rw[HG.out]
   exact(OE4.out.setCells (g:=G) (by have:=HLT.out;omega) 0 FV).lower (by have:=HLT.out;omega))
  go_wp2_with (first
   | (refine wpList_store_mid rfl 31 _ _ rfl w3.heap.size 0 RF.toArray rfl rfl T1.out T2.out T3.out ?_;rw[HW4.out,HH.out])
   | refine wpList_load_mid rfl 121 _ rfl (G+1) 0 rfl FV _ FL.out Tryz.underlying121 rfl hi66f ?_
   | refine wpList_store_mid rfl 121 _ _ rfl G 0 FV.toArray rfl rfl FS.out FI.out FO.out ?_)
  refine bodyPost_ret (v:=.tuple #[.agg FV.toArray,.bool false]) (zj Tryz.results49 _ _ G FV _ rfl (World.rangeAt_setCells_same _ G 0 _ FS'.out) Tryz.underlying121 rfl hi66f) rfl ?_
  exact FIN.out
 | true =>
 cases gd with
 | false =>
  have HNO:Hid (∀ u:Cm,WfC u->okC u->cmB u ≠ l):=fun u h1 h2 h3=>by have h:=(HUX.out u h1 h2 h3).2;cases h
  have WFX:Hid (WfC (cm0 z20)):=z20_wf
  obtain⟨FV,HFV⟩:=nm_ (cmV (cm0 z20) none 0)
  have FVL:Hid (FV.length=30):=hid (by rw[<-HFV.out];exact qu _ _ _ (by first | exact HFL.out | rfl))
  have hi66f:(Tryz.prog.info? 121).map (·.size)=some FV.length:=by rw[FVL.out];exact Tryz.size121
  have FI:Hid ((Tryz.prog.info? 121).map (·.size)=some FV.toArray.size):=hid (by rw[List.size_toArray];exact hi66f)
  have FO:Hid (FV.toArray.all (·.oneCell')=true):=hid (by rw[<-HFV.out];exact all_oneCell_toArray (xq _ _ _))
  have FL:Hid (w4.rangeAt (G+1) 0 FV):=hid (by rw[<-HFV.out];exact zx CR4.out.com)
  have FS:Hid (w4.there G 0 FV.toArray.size):=hid (zy CR4.out.res 0 (by rw[List.size_toArray,FVL.out,HZS.out];omega))
  have FS':Hid (w4.there G 0 FV.length):=hid (zy CR4.out.res 0 (by rw[FVL.out,HZS.out];omega))
  have FIN:Hid (uV l w (.returned (.tuple #[.agg FV.toArray,.bool false])) (w4.setCells G 0 FV)):=hid (by
   refine⟨by rw[HG.out];exact z7 (Nat.le_refl _) _ _ _ _ CR4.out.below,(cm0 z20),none,0,false,by rw[HFV.out],WFX.out,?_,(fun h=>by cases h),fun u h1 h2 h3=>absurd h3 (HNO.out u h1 h2)⟩
   rw[HG.out]
   exact(OE4.out.setCells (g:=G) (by have:=HLT.out;omega) 0 FV).lower (by have:=HLT.out;omega))
  go_wp2_with (first
   | (refine wpList_store_mid rfl 31 _ _ rfl w3.heap.size 0 RF.toArray rfl rfl T1.out T2.out T3.out ?_;rw[HW4.out,HH.out])
   | refine wpList_load_mid rfl 121 _ rfl (G+1) 0 rfl FV _ FL.out Tryz.underlying121 rfl hi66f ?_
   | refine wpList_store_mid rfl 121 _ _ rfl G 0 FV.toArray rfl rfl FS.out FI.out FO.out ?_)
  refine bodyPost_ret (v:=.tuple #[.agg FV.toArray,.bool false]) (zj Tryz.results49 _ _ G FV _ rfl (World.rangeAt_setCells_same _ G 0 _ FS'.out) Tryz.underlying121 rfl hi66f) rfl ?_
  exact FIN.out
 | true =>
 have T8:Hid (w4.there (G+1) 0 RF.toArray.size):=hid (zy CR4.out.com 0 (by
  have h:=qu (cm0 z20) none 0 rfl
  rw[List.size_toArray,HFN.out]
  exact Nat.le_trans (show 0+20<=30 by omega) (Nat.le_of_eq h.symm)))
 go_wp2_with (first
  | (refine wpList_store_mid rfl 31 _ _ rfl w3.heap.size 0 RF.toArray rfl rfl T1.out T2.out T3.out ?_;rw[HW4.out,HH.out])
  | refine wpList_load_mid rfl 31 _ rfl H 0 rfl RF _ HX4.out Tryz.underlying31 rfl hi31 ?_
  | refine wpList_store_mid rfl 31 _ _ rfl (G+1) 0 RF.toArray rfl rfl T8.out T2.out T3.out ?_
  | fail)
 have CR5:Hid (CR G H zv (cm0 fr) none 0 w (w4.setCells (G+1) 0 RF.toArray.toList)):=hid (by rw[<-HRF.out];exact CR4.out.id HLT.out rfl fr HFL.out)
 have OE5:Hid (OE 31 (H+1) none 0 [] (w4.setCells (G+1) 0 RF.toArray.toList)):=OE4.out.setCells (by have:=HLT.out;omega) 0 _
 generalize w4.setCells (G+1) 0 RF.toArray.toList=w5 at CR5 OE5 ⊢
 clear T8 T1 hz31 hz66
 try simp only[Act.put]
 go_loopg [5] r1.length (fun g sv wr=>∃ (ids:List (List Int)) (r:List UInt8) (a:Option Addr) (cap:Nat),g=r.length/\sv=.string ⟨r.toArray⟩/\r.length<=200000/\ids.length+r.length<=200000/\Hid (CR G H zv ⟨fr,ids,⟨[],[],0,0⟩,⟨[],[],0,0⟩,[]⟩ a cap w wr)/\Hid (OE 31 (H+1) a cap ids wr)/\Hid (UI l fr ids r)/\Hid (WfI ids))
 case atStart=>exact⟨[],r1,none,0,rfl,by rw[HR1.out],LR1.out,by have:=LR1.out;simpa using this,CR5,OE5,HUI,fun x hx=>by cases hx⟩
 case round =>
  obtain⟨ids,r,a,cap,hk,rfl,hrl,hri,CRR,OER,HUR,HWI⟩:=hrel
  obtain⟨R,HR⟩:=nm_ (⟨r.toArray⟩:ByteArray)
  have CP:Hid (∀ W,Calls Tryz.prog 68 #[.string R,.string ⟨#[112,97,114,101,110,116]⟩] W fun e w'=>Below W.heap.size W w'/\j9 r qJ e):=fun W=>by
   rw[<-HR.out]
   exact uj r qJ (Nat.le_trans hrl (by omega)) (by decide) W
  rw[HR.out]
  go_wp2_with fail
  refine(CP.out wr).mono ?_
  rintro ev u1 ⟨hb,hp⟩
  obtain⟨o2,r2,b2,rfl,hpl⟩:=hp.form
  have CRA:Hid (CR G H zv ⟨fr,ids,⟨[],[],0,0⟩,⟨[],[],0,0⟩,[]⟩ a cap w u1):=CRR.out.grow hb
  have OEA:Hid (OE 31 (H+1) a cap ids u1):=OER.out.keep hb
  have PLR:Hid (PL r qJ o2 r2 b2):=hpl
  clear hp hpl hb CP
  obtain⟨O2,HO2⟩:=nm_ (⟨o2.toArray⟩:ByteArray)
  obtain⟨R2,HR2⟩:=nm_ (⟨r2.toArray⟩:ByteArray)
  rw[HO2.out,HR2.out]
  cases b2 with
  | true =>
   have hr2:r2.length<r.length:=by
    have:=(PLR.out.1 rfl).1
    rw[this]
    simp
    omega
   have CQ:Hid (∀ W,Calls Tryz.prog 69 #[.string O2] W fun e w'=>Below W.heap.size W w'/\PostQR o2 e):=fun W=>by
    rw[<-HO2.out]
    exact Q6 o2 W (Nat.le_trans PLR.out.2.2.2 (by omega))
   go_wp2_with fail
   refine(CQ.out u1).mono ?_
   rintro ev u2 ⟨hb,fx,gx,rfl,hpx⟩
   have HPX:Hid (PQ o2 fx gx):=hpx
   have HXL:Hid (fx.length=20):=hpx.1
   have CRB:Hid (CR G H zv ⟨fr,ids,⟨[],[],0,0⟩,⟨[],[],0,0⟩,[]⟩ a cap w u2):=CRA.out.grow hb
   have OEB:Hid (OE 31 (H+1) a cap ids u2):=OEA.out.keep hb
   clear hb hpx CQ
   obtain⟨US,UXS⟩:=HUR.out.step PLR.out HPX.out
   have HUS:Hid (UI l fr (ids++[fx]) r2):=US
   have HUXS:Hid (∀ u:Cm,WfC u->okC u->cmB u=l->gx=true):=UXS
   have HWI2:Hid (WfI (ids++[fx])):=hid (fun x hx=>by
    rcases List.mem_append.1 hx with hx | hx
    ·exact HWI.out x hx
    ·have:x=fx:=by simpa using hx
     subst this
     exact⟨HPX.out.1,HPX.out.2.1⟩)
   clear US UXS
   obtain⟨RX,HRX⟩:=nm_ (row .u8 fx)
   rw[HRX.out]
   have HXN:Hid (RX.length=20):=hid (by rw[<-HRX.out,zq];exact HXL.out)
   have hRXl:RX.length=20:=HXN.out
   have hi31x:(Tryz.prog.info? 31).map (·.size)=some RX.length:=by rw[HXN.out];exact Tryz.size31
   have T2x:Hid ((Tryz.prog.info? 31).map (·.size)=some RX.toArray.size):=hid (by rw[List.size_toArray];exact hi31x)
   have T3x:Hid (RX.toArray.all (·.oneCell')=true):=hid (by rw[<-HRX.out];exact all_oneCell_toArray (zV _ _))
   obtain⟨oldR,ho1,ho2⟩:=CRB.out.idb
   have HO2x:Hid (u2.heap[H]? = some (.cells oldR.toArray 31 (0,0))):=ho2
   have E31:Hid (oldR.toArray.size=RX.toArray.size):=hid (by rw[List.size_toArray,List.size_toArray,ho1,HXN.out])
   clear ho1 ho2
   obtain⟨u3,HU3⟩:=nm_ (u2.setRow H RX.toArray)
   have CRC:Hid (CR G H zv ⟨fr,ids,⟨[],[],0,0⟩,⟨[],[],0,0⟩,[]⟩ a cap w u3):=hid (by rw[<-HU3.out];exact CRB.out.box HLT.out RX HXN.out)
   have OEC:Hid (OE 31 (H+1) a cap ids u3):=hid (by rw[<-HU3.out];exact OEB.out.setRow (by omega) _)
   have RX3:Hid (u3.rangeAt H 0 RX):=hid (by rw[<-HU3.out];exact zx (setRow_heap _ _ _ RX.toArray _ _ HO2x.out))
   cases gx with
   | false =>
    have HNO:Hid (∀ u:Cm,WfC u->okC u->cmB u ≠ l):=fun u h1 h2 h3=>by have h:=HUXS.out u h1 h2 h3;cases h
    have WFX:Hid (WfC ⟨fr,ids,⟨[],[],0,0⟩,⟨[],[],0,0⟩,[]⟩):=⟨⟨HFL.out,HFB.out⟩,HWI.out⟩
    obtain⟨FV,HFV⟩:=nm_ (cmV ⟨fr,ids,⟨[],[],0,0⟩,⟨[],[],0,0⟩,[]⟩ a cap:List Value)
    have FVL:Hid (FV.length=30):=hid (by rw[<-HFV.out];exact qu _ _ _ (by first | exact HFL.out | rfl))
    have hi66f:(Tryz.prog.info? 121).map (·.size)=some FV.length:=by rw[FVL.out];exact Tryz.size121
    have FI:Hid ((Tryz.prog.info? 121).map (·.size)=some FV.toArray.size):=hid (by rw[List.size_toArray];exact hi66f)
    have FO:Hid (FV.toArray.all (·.oneCell')=true):=hid (by rw[<-HFV.out];exact all_oneCell_toArray (xq _ _ _))
    have FL:Hid (u3.rangeAt (G+1) 0 FV):=hid (by rw[<-HFV.out];exact zx CRC.out.com)
    have FS:Hid (u3.there G 0 FV.toArray.size):=hid (zy CRC.out.res 0 (by rw[List.size_toArray,FVL.out,HZS.out];omega))
    have FS':Hid (u3.there G 0 FV.length):=hid (zy CRC.out.res 0 (by rw[FVL.out,HZS.out];omega))
    have FIN:Hid (uV l w (.returned (.tuple #[.agg FV.toArray,.bool false])) (u3.setCells G 0 FV)):=hid (by
     refine⟨by rw[HG.out];exact z7 (Nat.le_refl _) _ _ _ _ CRC.out.below,⟨fr,ids,⟨[],[],0,0⟩,⟨[],[],0,0⟩,[]⟩,a,cap,false,by rw[HFV.out],WFX.out,?_,(fun h=>by cases h),fun u h1 h2 h3=>absurd h3 (HNO.out u h1 h2)⟩
     rw[HG.out]
     exact(OEC.out.setCells (g:=G) (by have:=HLT.out;omega) 0 FV).lower (by have:=HLT.out;omega))
    go_wp2_with (first
     | (refine wpList_store_row rfl 31 _ _ rfl H RX.toArray rfl rfl 31 oldR.toArray HO2x.out T2x.out E31.out T3x.out ?_;rw[HU3.out])
     | refine wpList_load_mid rfl 121 _ rfl (G+1) 0 rfl FV _ FL.out Tryz.underlying121 rfl hi66f ?_
     | refine wpList_store_mid rfl 121 _ _ rfl G 0 FV.toArray rfl rfl FS.out FI.out FO.out ?_)
    refine bodyPost_ret (v:=.tuple #[.agg FV.toArray,.bool false]) (zj Tryz.results49 _ _ G FV _ rfl (World.rangeAt_setCells_same _ G 0 _ FS'.out) Tryz.underlying121 rfl hi66f) rfl ?_
    exact FIN.out
   | true =>
    obtain⟨n,HN⟩:=nm_ ids.length
    have hn2:n<=200000:=by have:=HN.out;omega
    obtain⟨SV,HSV⟩:=nm_ (.slice a ids.length cap:Value)
    have c20:u3.cell? ⟨G+1,20,none⟩=some SV:=by rw[<-HSV.out];exact(CRC.out.cell HFL.out 0 _ rfl).1
    obtain⟨u4,HU4⟩:=nm_ (u3.alloc (.cells RX.toArray 31))
    obtain⟨b4,Hb4⟩:=nm_ u3.heap.size
    have hb4:Below u3.heap.size u3 u4:=by rw[<-HU4.out];exact(Below.refl _ _).alloc (Nat.le_refl _) _
    have HN4:Hid (∀ j u,RX[j]? = some u->u4.cell? ((⟨b4,0,none⟩:Addr).add j)=some u):=hid (by rw[<-HU4.out,<-Hb4.out];exact news_row _ _ _)
    have CRD:Hid (CR G H zv ⟨fr,ids,⟨[],[],0,0⟩,⟨[],[],0,0⟩,[]⟩ a cap w u4):=CRC.out.grow hb4
    have OED:Hid (OE 31 (H+1) a cap ids u4):=OEC.out.keep hb4
    have OWD:Hid (u4.ownsRow (H+1) 31 20 SV n (ids.flatMap (row .u8))):=hid (by rw[<-HSV.out,<-HN.out];exact OED.out)
    have hfold:List.foldl (fun (cs:Array Value) (x:Value × Nat)=>cs.setIfInBounds x.snd x.fst) #[.int .u8 0,.int .u8 0,.int .u8 0,.int .u8 0,.int .u8 0,.int .u8 0,.int .u8 0,.int .u8 0,.int .u8 0,.int .u8 0,.int .u8 0,.int .u8 0,.int .u8 0,.int .u8 0,.int .u8 0,.int .u8 0,.int .u8 0,.int .u8 0,.int .u8 0,.int .u8 0] RX.zipIdx=RX.toArray:=by rw[<-HRX.out];exact fold32 fx HXL.out
    clear hb4
    go_wp2_with (first
     | (refine wpList_store_row rfl 31 _ _ rfl H RX.toArray rfl rfl 31 oldR.toArray HO2x.out T2x.out E31.out T3x.out ?_;rw[HU3.out])
     | refine wpList_load_mid rfl 31 _ rfl H 0 rfl RX _ RX3.out Tryz.underlying31 rfl hi31x ?_
     | (at_builtin;rw[HU4.out,Hb4.out];refine Zv u4 rfl _ _ 38 rfl (H+1) 31 i31 (.agg (row .u8 z20).toArray) 20 20 Tryz.underlying38 hi31i hz0 hz1 hz2 rfl (by decide) SV n (ids.flatMap (row .u8)) (by first | rfl | simp) OWD.out ⟨b4,0,none⟩ 1 1 RX (by first | rfl | simp) (by rw[HXN.out]) HN4.out (by rw[<-HRX.out];exact zV _ _) (by unfold maxLen;omega) (by omega) (by obtain⟨R,_,r2⟩:=CRD.out.idb;exact Nat.succ_le_of_lt (z6 r2)) _ rfl ?_;intro ao cap2 u5 hown hg hloc;have OEE:Hid (OE 31 (H+1) ao cap2 (ids++[fx]) u5):=OE.snoc HN.out (by rw[HRX.out];exact hown);have CRE:Hid (CR G H zv ⟨fr,ids,⟨[],[],0,0⟩,⟨[],[],0,0⟩,[]⟩ a cap w u5):=CRD.out.grown HLT.out hg (fun k hk=>Nat.lt_of_succ_le (own_above OWD.out k hk));clear hown hg hloc;have d20:=(CRE.out.cell HFL.out 0 _ rfl).1;have f20:=(CRE.out.cell HFL.out 0 _ rfl).2)
     | fail)
    have CRF:Hid (CR G H zv ⟨fr,ids++[fx],⟨[],[],0,0⟩,⟨[],[],0,0⟩,[]⟩ ao cap2 w (u5.setCell ⟨G+1,20,none⟩ (.slice ao (n+1:Nat) cap2))):=CRE.out.set HLT.out HFL.out 0 _ (by
     have e:(ids++[fx]).length=n+1:=by simp[HN.out]
     unfold cmV cmT
     rw[e]
     rfl)
    have OEF:Hid (OE 31 (H+1) ao cap2 (ids++[fx]) (u5.setCell ⟨G+1,20,none⟩ (.slice ao (n+1:Nat) cap2))):=OEE.out.setCells (g:=G+1) (by have:=HLT.out;omega) 20 [.slice ao (n+1:Nat) cap2]
    generalize u5.setCell ⟨G+1,20,none⟩ (.slice ao (n+1:Nat) cap2)=u6 at CRF OEF ⊢
    clear d20 f20 c20 hfold
    go_roundg r2.length
    case measure=>first | exact hr2 | (rw[hk];exact hr2)
    case rel=>exact⟨ids++[fx],r2,ao,cap2,rfl,by rw[HR2.out],by omega,by simp;omega,CRF,OEF,HUS,HWI2⟩
  | false =>
   have HQ2:Hid (r2.length<=200000):=hid (Nat.le_trans PLR.out.2.2.1 hrl)
   have C3:Hid (∀ W,Calls Tryz.prog 68 #[.string R,.string ⟨#[97,117,116,104,111,114]⟩] W fun e w'=>Below W.heap.size W w'/\j9 r xx e):=fun W=>by
    rw[<-HR.out]
    exact uj r xx (Nat.le_trans hrl (by omega)) (by decide) W
   go_wp2_with fail
   refine(C3.out u1).mono ?_
   rintro ev u2 ⟨hb,hp⟩
   obtain⟨o3,r3,b3,rfl,hpl⟩:=hp.form
   have P3:Hid (PL r xx o3 r3 b3):=hpl
   have CRB:Hid (CR G H zv ⟨fr,ids,⟨[],[],0,0⟩,⟨[],[],0,0⟩,[]⟩ a cap w u2):=CRA.out.grow hb
   have OEB:Hid (OE 31 (H+1) a cap ids u2):=OEA.out.keep hb
   clear hp hpl hb C3
   obtain⟨O3,HO3⟩:=nm_ (⟨o3.toArray⟩:ByteArray)
   obtain⟨R3,HR3⟩:=nm_ (⟨r3.toArray⟩:ByteArray)
   rw[HO3.out,HR3.out]
   have LR3:Hid (r3.length<=200000):=hid (Nat.le_trans P3.out.2.2.1 hrl)
   have LO3:Hid (o3.length<=200000):=hid (Nat.le_trans P3.out.2.2.2 hrl)
   have C4:Hid (∀ W,Calls Tryz.prog 68 #[.string R3,.string ⟨#[99,111,109,109,105,116,116,101,114]⟩] W fun e w'=>Below W.heap.size W w'/\j9 r3 qy e):=fun W=>by
    rw[<-HR3.out]
    exact uj r3 qy (Nat.le_trans LR3.out (by omega)) (by decide) W
   go_wp2_with fail
   refine(C4.out u2).mono ?_
   rintro ev u3 ⟨hb,hp⟩
   obtain⟨o4,r4,b4,rfl,hpl⟩:=hp.form
   have P4:Hid (PL r3 qy o4 r4 b4):=hpl
   have CRC:Hid (CR G H zv ⟨fr,ids,⟨[],[],0,0⟩,⟨[],[],0,0⟩,[]⟩ a cap w u3):=CRB.out.grow hb
   have OEC:Hid (OE 31 (H+1) a cap ids u3):=OEB.out.keep hb
   clear hp hpl hb C4
   obtain⟨O4,HO4⟩:=nm_ (⟨o4.toArray⟩:ByteArray)
   obtain⟨R4,HR4⟩:=nm_ (⟨r4.toArray⟩:ByteArray)
   rw[HO4.out,HR4.out]
   have LR4:Hid (r4.length<=200000):=hid (Nat.le_trans P4.out.2.2.1 LR3.out)
   have LO4:Hid (o4.length<=200000):=hid (Nat.le_trans P4.out.2.2.2 LR3.out)
   have RD:Hid (∀ u:Cm,WfC u->okC u->cmB u=l->fr=u.tree/\ids=u.ids/\b3=true/\b4=true/\o3=qq u.au/\o4=qq u.co/\r4=10 :: u.msg):=fun u h1 h2 h3=>HUR.out.pers PLR.out P3.out P4.out u h1 h2 h3
   have WFX:Hid (WfC ⟨fr,ids,⟨[],[],0,0⟩,⟨[],[],0,0⟩,[]⟩):=⟨⟨HFL.out,HFB.out⟩,HWI.out⟩
   cases b3 with
   | false =>
    have HNO:Hid (∀ u:Cm,WfC u->okC u->cmB u ≠ l):=fun u h1 h2 h3=>by have h:=(RD.out u h1 h2 h3).2.2.1;cases h
    obtain⟨FV,HFV⟩:=nm_ (cmV ⟨fr,ids,⟨[],[],0,0⟩,⟨[],[],0,0⟩,[]⟩ a cap:List Value)
    have FVL:Hid (FV.length=30):=hid (by rw[<-HFV.out];exact qu _ _ _ (by first | exact HFL.out | rfl))
    have hi66f:(Tryz.prog.info? 121).map (·.size)=some FV.length:=by rw[FVL.out];exact Tryz.size121
    have FI:Hid ((Tryz.prog.info? 121).map (·.size)=some FV.toArray.size):=hid (by rw[List.size_toArray];exact hi66f)
    have FO:Hid (FV.toArray.all (·.oneCell')=true):=hid (by rw[<-HFV.out];exact all_oneCell_toArray (xq _ _ _))
    have FL:Hid (u3.rangeAt (G+1) 0 FV):=hid (by rw[<-HFV.out];exact zx CRC.out.com)
    have FS:Hid (u3.there G 0 FV.toArray.size):=hid (zy CRC.out.res 0 (by rw[List.size_toArray,FVL.out,HZS.out];omega))
    have FS':Hid (u3.there G 0 FV.length):=hid (zy CRC.out.res 0 (by rw[FVL.out,HZS.out];omega))
    have FIN:Hid (uV l w (.returned (.tuple #[.agg FV.toArray,.bool false])) (u3.setCells G 0 FV)):=hid (by
     refine⟨by rw[HG.out];exact z7 (Nat.le_refl _) _ _ _ _ CRC.out.below,⟨fr,ids,⟨[],[],0,0⟩,⟨[],[],0,0⟩,[]⟩,a,cap,false,by rw[HFV.out],WFX.out,?_,(fun h=>by cases h),fun u h1 h2 h3=>absurd h3 (HNO.out u h1 h2)⟩
     rw[HG.out]
     exact(OEC.out.setCells (g:=G) (by have:=HLT.out;omega) 0 FV).lower (by have:=HLT.out;omega))
    go_wp2_with (first
     | refine wpList_load_mid rfl 121 _ rfl (G+1) 0 rfl FV _ FL.out Tryz.underlying121 rfl hi66f ?_
     | refine wpList_store_mid rfl 121 _ _ rfl G 0 FV.toArray rfl rfl FS.out FI.out FO.out ?_)
    refine bodyPost_ret (v:=.tuple #[.agg FV.toArray,.bool false]) (zj Tryz.results49 _ _ G FV _ rfl (World.rangeAt_setCells_same _ G 0 _ FS'.out) Tryz.underlying121 rfl hi66f) rfl ?_
    exact FIN.out
   | true =>
   cases b4 with
   | false =>
    have HNO:Hid (∀ u:Cm,WfC u->okC u->cmB u ≠ l):=fun u h1 h2 h3=>by have h:=(RD.out u h1 h2 h3).2.2.2.1;cases h
    obtain⟨FV,HFV⟩:=nm_ (cmV ⟨fr,ids,⟨[],[],0,0⟩,⟨[],[],0,0⟩,[]⟩ a cap:List Value)
    have FVL:Hid (FV.length=30):=hid (by rw[<-HFV.out];exact qu _ _ _ (by first | exact HFL.out | rfl))
    have hi66f:(Tryz.prog.info? 121).map (·.size)=some FV.length:=by rw[FVL.out];exact Tryz.size121
    have FI:Hid ((Tryz.prog.info? 121).map (·.size)=some FV.toArray.size):=hid (by rw[List.size_toArray];exact hi66f)
    have FO:Hid (FV.toArray.all (·.oneCell')=true):=hid (by rw[<-HFV.out];exact all_oneCell_toArray (xq _ _ _))
    have FL:Hid (u3.rangeAt (G+1) 0 FV):=hid (by rw[<-HFV.out];exact zx CRC.out.com)
    have FS:Hid (u3.there G 0 FV.toArray.size):=hid (zy CRC.out.res 0 (by rw[List.size_toArray,FVL.out,HZS.out];omega))
    have FS':Hid (u3.there G 0 FV.length):=hid (zy CRC.out.res 0 (by rw[FVL.out,HZS.out];omega))
    have FIN:Hid (uV l w (.returned (.tuple #[.agg FV.toArray,.bool false])) (u3.setCells G 0 FV)):=hid (by
     refine⟨by rw[HG.out];exact z7 (Nat.le_refl _) _ _ _ _ CRC.out.below,⟨fr,ids,⟨[],[],0,0⟩,⟨[],[],0,0⟩,[]⟩,a,cap,false,by rw[HFV.out],WFX.out,?_,(fun h=>by cases h),fun u h1 h2 h3=>absurd h3 (HNO.out u h1 h2)⟩
     rw[HG.out]
     exact(OEC.out.setCells (g:=G) (by have:=HLT.out;omega) 0 FV).lower (by have:=HLT.out;omega))
    go_wp2_with (first
     | refine wpList_load_mid rfl 121 _ rfl (G+1) 0 rfl FV _ FL.out Tryz.underlying121 rfl hi66f ?_
     | refine wpList_store_mid rfl 121 _ _ rfl G 0 FV.toArray rfl rfl FS.out FI.out FO.out ?_)
    refine bodyPost_ret (v:=.tuple #[.agg FV.toArray,.bool false]) (zj Tryz.results49 _ _ G FV _ rfl (World.rangeAt_setCells_same _ G 0 _ FS'.out) Tryz.underlying121 rfl hi66f) rfl ?_
    exact FIN.out
   | true =>
   obtain⟨k4,HK4⟩:=nm_ r4.length
   have hz4:R4.size=k4:=by rw[<-HR4.out,xX];exact HK4.out
   by_cases h40:k4=0
   ·have HNO:Hid (∀ u:Cm,WfC u->okC u->cmB u ≠ l):=fun u h1 h2 h3=>by
     have h:=(RD.out u h1 h2 h3).2.2.2.2.2.2
     have h5:=HK4.out
     rw[h,h40] at h5
     simp at h5
    subst h40
    obtain⟨FV,HFV⟩:=nm_ (cmV ⟨fr,ids,⟨[],[],0,0⟩,⟨[],[],0,0⟩,[]⟩ a cap:List Value)
    have FVL:Hid (FV.length=30):=hid (by rw[<-HFV.out];exact qu _ _ _ (by first | exact HFL.out | rfl))
    have hi66f:(Tryz.prog.info? 121).map (·.size)=some FV.length:=by rw[FVL.out];exact Tryz.size121
    have FI:Hid ((Tryz.prog.info? 121).map (·.size)=some FV.toArray.size):=hid (by rw[List.size_toArray];exact hi66f)
    have FO:Hid (FV.toArray.all (·.oneCell')=true):=hid (by rw[<-HFV.out];exact all_oneCell_toArray (xq _ _ _))
    have FL:Hid (u3.rangeAt (G+1) 0 FV):=hid (by rw[<-HFV.out];exact zx CRC.out.com)
    have FS:Hid (u3.there G 0 FV.toArray.size):=hid (zy CRC.out.res 0 (by rw[List.size_toArray,FVL.out,HZS.out];omega))
    have FS':Hid (u3.there G 0 FV.length):=hid (zy CRC.out.res 0 (by rw[FVL.out,HZS.out];omega))
    have FIN:Hid (uV l w (.returned (.tuple #[.agg FV.toArray,.bool false])) (u3.setCells G 0 FV)):=hid (by
     refine⟨by rw[HG.out];exact z7 (Nat.le_refl _) _ _ _ _ CRC.out.below,⟨fr,ids,⟨[],[],0,0⟩,⟨[],[],0,0⟩,[]⟩,a,cap,false,by rw[HFV.out],WFX.out,?_,(fun h=>by cases h),fun u h1 h2 h3=>absurd h3 (HNO.out u h1 h2)⟩
     rw[HG.out]
     exact(OEC.out.setCells (g:=G) (by have:=HLT.out;omega) 0 FV).lower (by have:=HLT.out;omega))
    go_wp2_with (first
     | refine wpList_load_mid rfl 121 _ rfl (G+1) 0 rfl FV _ FL.out Tryz.underlying121 rfl hi66f ?_
     | refine wpList_store_mid rfl 121 _ _ rfl G 0 FV.toArray rfl rfl FS.out FI.out FO.out ?_)
    refine bodyPost_ret (v:=.tuple #[.agg FV.toArray,.bool false]) (zj Tryz.results49 _ _ G FV _ rfl (World.rangeAt_setCells_same _ G 0 _ FS'.out) Tryz.underlying121 rfl hi66f) rfl ?_
    exact FIN.out
   have h4l:¬ ((k4:Int)<1):=by omega
   obtain⟨x,hx⟩:∃ x,r4[0]? = some x:=⟨_,List.getElem?_eq_getElem (by rw[HK4.out];omega)⟩
   have HX:Hid (r4[0]? = some x):=hx
   clear hx
   obtain⟨c,HC⟩:=nm_ (x.toNat:Int)
   have hix:∀ W:World,(Instr.index 9 (.string R4) (.int .i64 0)).run Tryz.prog W=.ok (.int .u8 c) W:=fun W=>by rw[<-HR4.out,<-HC.out];exact yk r4 0 W x HX.out
   by_cases hc:c=10
   rotate_left
   ·have hcb:(c != 10)=true:=by simpa using hc
    have HNO:Hid (∀ u:Cm,WfC u->okC u->cmB u ≠ l):=fun u h1 h2 h3=>by
     have h:=(RD.out u h1 h2 h3).2.2.2.2.2.2
     have h5:=HX.out
     rw[h] at h5
     have h6:(10:UInt8)=x:=by simpa using h5
     exact hc (HC.out.symm.trans (by rw[<-h6];rfl))
    obtain⟨FV,HFV⟩:=nm_ (cmV ⟨fr,ids,⟨[],[],0,0⟩,⟨[],[],0,0⟩,[]⟩ a cap:List Value)
    have FVL:Hid (FV.length=30):=hid (by rw[<-HFV.out];exact qu _ _ _ (by first | exact HFL.out | rfl))
    have hi66f:(Tryz.prog.info? 121).map (·.size)=some FV.length:=by rw[FVL.out];exact Tryz.size121
    have FI:Hid ((Tryz.prog.info? 121).map (·.size)=some FV.toArray.size):=hid (by rw[List.size_toArray];exact hi66f)
    have FO:Hid (FV.toArray.all (·.oneCell')=true):=hid (by rw[<-HFV.out];exact all_oneCell_toArray (xq _ _ _))
    have FL:Hid (u3.rangeAt (G+1) 0 FV):=hid (by rw[<-HFV.out];exact zx CRC.out.com)
    have FS:Hid (u3.there G 0 FV.toArray.size):=hid (zy CRC.out.res 0 (by rw[List.size_toArray,FVL.out,HZS.out];omega))
    have FS':Hid (u3.there G 0 FV.length):=hid (zy CRC.out.res 0 (by rw[FVL.out,HZS.out];omega))
    have FIN:Hid (uV l w (.returned (.tuple #[.agg FV.toArray,.bool false])) (u3.setCells G 0 FV)):=hid (by
     refine⟨by rw[HG.out];exact z7 (Nat.le_refl _) _ _ _ _ CRC.out.below,⟨fr,ids,⟨[],[],0,0⟩,⟨[],[],0,0⟩,[]⟩,a,cap,false,by rw[HFV.out],WFX.out,?_,(fun h=>by cases h),fun u h1 h2 h3=>absurd h3 (HNO.out u h1 h2)⟩
     rw[HG.out]
     exact(OEC.out.setCells (g:=G) (by have:=HLT.out;omega) 0 FV).lower (by have:=HLT.out;omega))
    go_wp2_with (first
     | refine wpList_load_mid rfl 121 _ rfl (G+1) 0 rfl FV _ FL.out Tryz.underlying121 rfl hi66f ?_
     | refine wpList_store_mid rfl 121 _ _ rfl G 0 FV.toArray rfl rfl FS.out FI.out FO.out ?_)
    refine bodyPost_ret (v:=.tuple #[.agg FV.toArray,.bool false]) (zj Tryz.results49 _ _ G FV _ rfl (World.rangeAt_setCells_same _ G 0 _ FS'.out) Tryz.underlying121 rfl hi66f) rfl ?_
    exact FIN.out
   obtain⟨m,HM⟩:=nm_ (r4.drop 1)
   obtain⟨M,HMM⟩:=nm_ (⟨m.toArray⟩:ByteArray)
   have hsl:∀ W,(Instr.slice 9 (.string R4) (some (.int .i64 1)) none none).run Tryz.prog W=.ok (.string M) W:=fun W=>by
    rw[<-HR4.out,<-HMM.out,<-HM.out]
    exact uX r4 1 (by rw[HK4.out];omega) W
   clear HC HX
   subst hc
   have CP1:Hid (∀ W,Calls Tryz.prog 70 #[.string O3] W fun e w'=>Below W.heap.size W w'/\kV o3 e):=fun W=>by
    rw[<-HO3.out]
    exact jW o3 (Nat.le_trans LO3.out (by omega)) W
   have CP2:Hid (∀ W,Calls Tryz.prog 70 #[.string O4] W fun e w'=>Below W.heap.size W w'/\kV o4 e):=fun W=>by
    rw[<-HO4.out]
    exact jW o4 (Nat.le_trans LO4.out (by omega)) W
   go_wp2_with fail
   refine(CP1.out u3).mono ?_
   rintro ev u4 ⟨hb,p1,x1,rfl,hp1,hp2⟩
   have HP1:Hid (x1=true->okP p1/\qq p1=o3):=hp1
   have HP2:Hid (∀ q,okP q->qq q=o3->x1=true):=hp2
   have CRD:Hid (CR G H zv ⟨fr,ids,⟨[],[],0,0⟩,⟨[],[],0,0⟩,[]⟩ a cap w u4):=CRC.out.grow hb
   have OED:Hid (OE 31 (H+1) a cap ids u4):=OEC.out.keep hb
   clear hb hp1 hp2 CP1
   have E1:Hid (u4.there (G+1) 21 (qK p1).size):=zy CRD.out.com 21 (by
    have h:=qu (⟨fr,ids,⟨[],[],0,0⟩,⟨[],[],0,0⟩,[]⟩:Cm) a cap HFL.out
    exact Nat.le_trans (show 21+4<=30 by omega) (Nat.le_of_eq h.symm))
   have E2:Hid ((Tryz.prog.info? 119).map (·.size)=some (qK p1).size):=Tryz.size119
   have E3:Hid ((qK p1).all (·.oneCell')=true):=Zk p1
   obtain⟨u5,HU5⟩:=nm_ (u4.setCells (G+1) 21 (qK p1).toList)
   have CRE:Hid (CR G H zv ⟨fr,ids,p1,⟨[],[],0,0⟩,[]⟩ a cap w u5):=hid (by rw[<-HU5.out];exact CRD.out.au HLT.out HFL.out p1)
   have OEE:Hid (OE 31 (H+1) a cap ids u5):=hid (by rw[<-HU5.out];exact OED.out.setCells (by have:=HLT.out;omega) _ _)
   go_wp2_with (first
    | (refine wpList_store_mid rfl 119 _ _ rfl (G+1) 21 (qK p1) rfl rfl E1.out E2.out E3.out ?_;rw[HU5.out])
    | fail)
   refine(CP2.out u5).mono ?_
   rintro ev u6 ⟨hb,p2,x2,rfl,hp1,hp2⟩
   have HP3:Hid (x2=true->okP p2/\qq p2=o4):=hp1
   have HP4:Hid (∀ q,okP q->qq q=o4->x2=true):=hp2
   have CRF:Hid (CR G H zv ⟨fr,ids,p1,⟨[],[],0,0⟩,[]⟩ a cap w u6):=CRE.out.grow hb
   have OEF:Hid (OE 31 (H+1) a cap ids u6):=OEE.out.keep hb
   clear hb hp1 hp2 CP2
   have E4:Hid (u6.there (G+1) 25 (qK p2).size):=zy CRF.out.com 25 (by
    have h:=qu (⟨fr,ids,p1,⟨[],[],0,0⟩,[]⟩:Cm) a cap HFL.out
    exact Nat.le_trans (show 25+4<=30 by omega) (Nat.le_of_eq h.symm))
   have E5:Hid ((Tryz.prog.info? 119).map (·.size)=some (qK p2).size):=Tryz.size119
   have E6:Hid ((qK p2).all (·.oneCell')=true):=Zk p2
   obtain⟨u7,HU7⟩:=nm_ (u6.setCells (G+1) 25 (qK p2).toList)
   have CRG:Hid (CR G H zv ⟨fr,ids,p1,p2,[]⟩ a cap w u7):=hid (by rw[<-HU7.out];exact CRF.out.co HLT.out HFL.out p2)
   have OEG:Hid (OE 31 (H+1) a cap ids u7):=hid (by rw[<-HU7.out];exact OEF.out.setCells (by have:=HLT.out;omega) _ _)
   have d29:u7.cell? ⟨G+1,29,none⟩=some (.string ⟨#[]⟩):=(CRG.out.cell HFL.out 9 _ rfl).1
   have f29:u7.frozen? ⟨G+1,29,none⟩=false:=(CRG.out.cell HFL.out 9 _ rfl).2
   obtain⟨T,HT⟩:=nn_ (⟨fr,ids,p1,p2,m⟩:Cm)
   have CRH:Hid (CR G H zv T a cap w (u7.setCell ⟨G+1,29,none⟩ (.string M))):=CRG.out.set HLT.out HFL.out 9 _ (by rw[HT.out,<-HMM.out];rfl)
   have OEH:Hid (OE 31 (H+1) a cap ids (u7.setCell ⟨G+1,29,none⟩ (.string M))):=OEG.out.setCells (g:=G+1) (by have:=HLT.out;omega) 29 [.string M]
   have HTW:Hid (WfC T):=hid (by rw[HT.out];exact⟨⟨HFL.out,HFB.out⟩,HWI.out⟩)
   have HTI:Hid (T.ids=ids):=hid (by rw[HT.out])
   obtain⟨TV,HTV⟩:=nm_ (cmV T a cap)
   have HVL:Hid (TV.length=30):=hid (by rw[<-HTV.out];exact qu T a cap HTW.out.1.1)
   have CT:Hid ((u7.setCell ⟨G+1,29,none⟩ (.string M)).rangeAt (G+1) 0 TV):=hid (by rw[<-HTV.out];exact zx CRH.out.com)
   have hi66:(Tryz.prog.info? 121).map (·.size)=some TV.length:=by rw[HVL.out];exact Tryz.size121
   have CI:Hid ((Tryz.prog.info? 121).map (·.size)=some TV.toArray.size):=hid (by rw[List.size_toArray];exact hi66)
   have CO:Hid (TV.toArray.all (·.oneCell')=true):=hid (by rw[<-HTV.out];exact all_oneCell_toArray (xq T a cap))
   have CW:Hid (∀ W,Pa W a cap T.ids->Calls Tryz.prog 71 #[.agg TV.toArray] W (PostCR T W)):=fun W hW=>by rw[<-HTV.out];exact writeCommitR_any T HTW.out a cap W hW
   go_wp2_with (first
    | (refine wpList_store_mid rfl 119 _ _ rfl (G+1) 25 (qK p2) rfl rfl E4.out E5.out E6.out ?_;rw[HU7.out])
    | refine wpList_load_mid rfl 121 _ rfl (G+1) 0 rfl TV _ CT.out Tryz.underlying121 rfl hi66 ?_
    | fail)
   clear d29 f29 CT
   generalize u7.setCell ⟨G+1,29,none⟩ (.string M)=u8 at CRH OEH ⊢
   refine(CW.out u8 (by rw[HTI.out];exact OEH.out.pa HWI.out)).mono ?_
   rintro ev u9 ⟨hb,hor⟩
   have CRI:Hid (CR G H zv T a cap w u9):=CRH.out.grow hb
   have OEI:Hid (OE 31 (H+1) a cap ids u9):=OEH.out.keep hb
   clear hb CW
   have LD:Hid (u9.drew.rangeAt (G+1) 0 TV):=hid (by rw[<-HTV.out];exact zx (show u9.drew.heap[G+1]? = _ from CRI.out.com))
   have GS:Hid (u9.drew.there G 0 TV.toArray.size):=hid (zy (show u9.drew.heap[G]? = _ from CRI.out.res) 0 (by rw[List.size_toArray,HZS.out,HVL.out];omega))
   have GS':Hid (u9.drew.there G 0 TV.length):=hid (zy (show u9.drew.heap[G]? = _ from CRI.out.res) 0 (by rw[HZS.out,HVL.out];omega))
   have BD:Hid (Below G w u9.drew):=hid ⟨CRI.out.below.os,CRI.out.below.tape,CRI.out.below.output,CRI.out.below.size,CRI.out.below.block⟩
   have HBE:Hid (Below w.heap.size w (u9.drew.setCells G 0 TV)):=hid (by rw[HG.out];exact z7 (Nat.le_refl _) _ _ _ _ BD.out)
   have OEJ:Hid (OE 31 w.heap.size a cap T.ids (u9.drew.setCells G 0 TV)):=hid (by
    rw[HG.out,HTI.out]
    exact((show OE 31 (H+1) a cap ids u9.drew from OEI.out).setCells (g:=G) (by have:=HLT.out;omega) 0 TV).lower (by have:=HLT.out;omega))
   have GW:Hid (u9.drew.grownBy (u9.drew.setCells G 0 TV) (some G)):=hid (by
    have hb:=z7 (Nat.le_refl G) TV 0 u9.drew u9.drew (Below.refl G u9.drew)
    exact⟨hb.os,hb.tape,hb.output,hb.size,fun k hk hne=>q9 G k (fun e=>hne (by rw[e])) TV 0 _⟩)
   have RG2:Hid ((u9.drew.setCells G 0 TV).rangeAt (G+1) 0 TV):=hid (range_step LD.out GW.out (show G+1<u9.heap.size from z6 CRI.out.com) (by omega))
   have UQ:Hid (∀ u:Cm,WfC u->okC u->cmB u=l->x1=true/\x2=true/\okC T/\cmB T=l):=fun u h1 h2 h3=>by
    obtain⟨q1,q2,_,_,q3,q4,q5⟩:=RD.out u h1 h2 h3
    have hb1:=HP2.out u.au h2.2.2.1 q3.symm
    have hb2:=HP4.out u.co h2.2.2.2.1 q4.symm
    obtain⟨a1,a2⟩:=HP1.out hb1
    obtain⟨a3,a4⟩:=HP3.out hb2
    have q6:m=u.msg:=by rw[<-HM.out,q5];rfl
    rw[q3] at a2
    rw[q4] at a4
    obtain⟨y1,y2,y3,y4,y5⟩:=u
    simp only at q1 q2 q6 a2 a4
    subst q1
    subst q2
    subst q6
    refine⟨hb1,hb2,?_,?_⟩
    ·rw[HT.out];exact⟨h2.1,h2.2.1,a1,a3,h2.2.2.2.2⟩
    ·rw[HT.out,<-h3]
     simp only[cmB,a2,a4]
   cases x1 with
   | false =>
    have hfm:∃ sv er,ev=.returned (.tuple #[sv,.int .i64 er]):=by
     rcases hor with ⟨_,g,cp,rfl,_,_⟩ | ⟨_,rfl⟩
     ·exact⟨_,_,rfl⟩
     ·exact⟨_,_,rfl⟩
    obtain⟨sv,er,rfl⟩:=hfm
    clear hor
    have HSD:Hid (RC1 G TV u9.drew):=⟨LD.out⟩
    have HSE:Hid (RC1 G TV (u9.drew.setCells G 0 TV)):=⟨RG2.out⟩
    have FIN:Hid (uV l w (.returned (.tuple #[.agg TV.toArray,.bool false])) (u9.drew.setCells G 0 TV)):=⟨HBE.out,T,a,cap,false,by rw[HTV.out],HTW.out,OEJ.out,(fun h=>by cases h),fun u h1 h2 h3=>by have h:=(UQ.out u h1 h2 h3).1;cases h⟩
    go_wp2_with fail
    refine wp_region_held_drew (S:=RC1 G TV) (by kernel_rfl) (by exact HSD.out) (fun hHeld=>?_)
    refine tW (i:=0) (v:=.agg TV.toArray) hHeld rfl (yieldsIf_load_mid (by rfl) 121 _ rfl (G+1) 0 (by rfl) TV _ (fun w' h=>h.rg) Tryz.underlying121 rfl hi66) ?_
    try simp only[Act.put,sL]
    refine tZ (i:=1) hHeld ?_
    try simp only[Act.put,sL]
    refine tZ (i:=2) hHeld ?_
    try simp only[Act.put,sL]
    refine tN (i:=3) hHeld ?_
    try simp only[Act.put,sL]
    refine tZ (i:=4) hHeld ?_
    try simp only[Act.put,sL]
    refine tZ (i:=5) hHeld ?_
    try simp only[Act.put,sL]
    refine tN (i:=6) hHeld ?_
    try simp only[Act.put,sL]
    refine tN (i:=7) hHeld ?_
    try simp only[Act.put,sL]
    refine tZ (i:=8) hHeld ?_
    try simp only[Act.put,sL]
    refine tZ (i:=9) hHeld ?_
    try simp only[Act.put,sL]
    refine tN (i:=10) hHeld ?_
    try simp only[Act.put,sL]
    refine tN (i:=11) hHeld ?_
    try simp only[Act.put,sL]
    refine tN (i:=12) hHeld ?_
    try simp only[Act.put,sL]
    refine tN (i:=13) hHeld ?_
    try simp only[Act.put,sL]
    refine tN (i:=14) hHeld ?_
    try simp only[Act.put,sL]
    refine tZ (i:=15) hHeld ?_
    try simp only[Act.put,sL]
    refine wpAnyH_ready (rs:=[16]) (by kernel_rfl) (by simp) ?_
    refine zu rfl (fun KK hKK=>?_) AllReadyH.nil
    refine xZ (by rfl) 121 _ _ rfl G 0 TV.toArray (by rfl) (by rfl) GS.out CI.out CO.out ?_
    refine hKK.out _ _ HSE.out (fun hHeld=>?_)
    clear hKK KK
    try simp only[Act.put,sL]
    refine tZ (i:=17) hHeld ?_
    try simp only[Act.put,sL]
    refine wpAnyH_done (by kernel_rfl) ?_ _
    go_wp2
    refine bodyPost_ret (v:=.tuple #[.agg TV.toArray,.bool false]) (zj Tryz.results49 _ _ G TV _ rfl (World.rangeAt_setCells_same _ G 0 _ GS'.out) Tryz.underlying121 rfl hi66) rfl ?_
    exact FIN.out
   | true =>
   cases x2 with
   | false =>
    have hfm:∃ sv er,ev=.returned (.tuple #[sv,.int .i64 er]):=by
     rcases hor with ⟨_,g,cp,rfl,_,_⟩ | ⟨_,rfl⟩
     ·exact⟨_,_,rfl⟩
     ·exact⟨_,_,rfl⟩
    obtain⟨sv,er,rfl⟩:=hfm
    clear hor
    have HSD:Hid (RC1 G TV u9.drew):=⟨LD.out⟩
    have HSE:Hid (RC1 G TV (u9.drew.setCells G 0 TV)):=⟨RG2.out⟩
    have FIN:Hid (uV l w (.returned (.tuple #[.agg TV.toArray,.bool false])) (u9.drew.setCells G 0 TV)):=⟨HBE.out,T,a,cap,false,by rw[HTV.out],HTW.out,OEJ.out,(fun h=>by cases h),fun u h1 h2 h3=>by have h:=(UQ.out u h1 h2 h3).2.1;cases h⟩
    go_wp2_with fail
    refine wp_region_held_drew (S:=RC1 G TV) (by kernel_rfl) (by exact HSD.out) (fun hHeld=>?_)
    refine tW (i:=0) (v:=.agg TV.toArray) hHeld rfl (yieldsIf_load_mid (by rfl) 121 _ rfl (G+1) 0 (by rfl) TV _ (fun w' h=>h.rg) Tryz.underlying121 rfl hi66) ?_
    try simp only[Act.put,sL]
    refine tZ (i:=1) hHeld ?_
    try simp only[Act.put,sL]
    refine tZ (i:=2) hHeld ?_
    try simp only[Act.put,sL]
    refine tZ (i:=3) hHeld ?_
    try simp only[Act.put,sL]
    refine tZ (i:=4) hHeld ?_
    try simp only[Act.put,sL]
    refine tZ (i:=5) hHeld ?_
    try simp only[Act.put,sL]
    refine tN (i:=6) hHeld ?_
    try simp only[Act.put,sL]
    refine tN (i:=7) hHeld ?_
    try simp only[Act.put,sL]
    refine tZ (i:=8) hHeld ?_
    try simp only[Act.put,sL]
    refine tZ (i:=9) hHeld ?_
    try simp only[Act.put,sL]
    refine tN (i:=10) hHeld ?_
    try simp only[Act.put,sL]
    refine tN (i:=11) hHeld ?_
    try simp only[Act.put,sL]
    refine tN (i:=12) hHeld ?_
    try simp only[Act.put,sL]
    refine tN (i:=13) hHeld ?_
    try simp only[Act.put,sL]
    refine tN (i:=14) hHeld ?_
    try simp only[Act.put,sL]
    refine tZ (i:=15) hHeld ?_
    try simp only[Act.put,sL]
    refine wpAnyH_ready (rs:=[16]) (by kernel_rfl) (by simp) ?_
    refine zu rfl (fun KK hKK=>?_) AllReadyH.nil
    refine xZ (by rfl) 121 _ _ rfl G 0 TV.toArray (by rfl) (by rfl) GS.out CI.out CO.out ?_
    refine hKK.out _ _ HSE.out (fun hHeld=>?_)
    clear hKK KK
    try simp only[Act.put,sL]
    refine tZ (i:=17) hHeld ?_
    try simp only[Act.put,sL]
    refine wpAnyH_done (by kernel_rfl) ?_ _
    go_wp2
    refine bodyPost_ret (v:=.tuple #[.agg TV.toArray,.bool false]) (zj Tryz.results49 _ _ G TV _ rfl (World.rangeAt_setCells_same _ G 0 _ GS'.out) Tryz.underlying121 rfl hi66) rfl ?_
    exact FIN.out
   | true =>
   rcases hor with ⟨hok,g,cp,rfl,hge,hmk⟩ | ⟨hno,rfl⟩
   ·have HOK:Hid (okC T):=hok
    have hsl0:=hmk.sl.below (show Below u9.heap.size u9 u9.drew from ⟨rfl,rfl,rfl,Nat.le_refl _,fun _ _=>rfl⟩)
    have hcx:=conv_str hsl0
    have hcy:=conv_str (hsl0.grown GW.out (fun b off e e2=>by
     cases e
     have h1:g=G:=by simpa using e2
     have h2:=z6 CRH.out.res
     omega))
    rw[zK,xQ] at hcx hcy
    obtain⟨tl,HTL2⟩:=nm_ ((cmB T).length)
    obtain⟨X,HXX⟩:=nm_ (⟨(cmB T).toArray⟩:ByteArray)
    rw[HTL2.out,HXX.out] at hcx hcy
    rw[HTL2.out]
    obtain⟨eq,heq⟩:∃ b:Bool,(X.toList == S.toList)=b:=⟨_,rfl⟩
    have HEI:Hid (eq=true ↔ cmB T=l):=hid (by
     rw[<-heq,<-HXX.out,<-HSS.out,Lib.toList_data,Lib.toList_data]
     simp)
    have FIN:Hid (uV l w (.returned (.tuple #[.agg TV.toArray,.bool eq])) (u9.drew.setCells G 0 TV)):=⟨HBE.out,T,a,cap,eq,by rw[HTV.out],HTW.out,OEJ.out,fun h=>⟨HOK.out,HEI.out.1 h⟩,fun u h1 h2 h3=>HEI.out.2 (UQ.out u h1 h2 h3).2.2.2⟩
    have HSD:Hid (RC20 G TV (.slice (some ⟨g,0,none⟩) tl cp) (.slice a0 n0 cap0) X S u9.drew):=⟨LD.out,hcx,HCA.out _ BD.out⟩
    have HSE:Hid (RC20 G TV (.slice (some ⟨g,0,none⟩) tl cp) (.slice a0 n0 cap0) X S (u9.drew.setCells G 0 TV)):=⟨RG2.out,hcy,HCA.out _ (z7 (Nat.le_refl _) _ _ _ _ BD.out)⟩
    clear hok hge hmk HEI hcx hcy hsl0
    go_wp2_with fail
    refine wp_region_held_drew (S:=RC20 G TV (.slice (some ⟨g,0,none⟩) tl cp) (.slice a0 n0 cap0) X S) (by kernel_rfl) (by exact HSD.out) (fun hHeld=>?_)
    refine tW (i:=0) (v:=.agg TV.toArray) hHeld rfl (yieldsIf_load_mid (by rfl) 121 _ rfl (G+1) 0 (by rfl) TV _ (fun w' h=>h.rg) Tryz.underlying121 rfl hi66) ?_
    try simp only[Act.put,sL]
    refine tZ (i:=1) hHeld ?_
    try simp only[Act.put,sL]
    refine tZ (i:=2) hHeld ?_
    try simp only[Act.put,sL]
    refine tZ (i:=3) hHeld ?_
    try simp only[Act.put,sL]
    refine tZ (i:=4) hHeld ?_
    try simp only[Act.put,sL]
    refine tZ (i:=5) hHeld ?_
    try simp only[Act.put,sL]
    refine tZ (i:=6) hHeld ?_
    try simp only[Act.put,sL]
    refine tZ (i:=7) hHeld ?_
    try simp only[Act.put,sL]
    refine tZ (i:=8) hHeld ?_
    try simp only[Act.put,sL]
    refine tZ (i:=9) hHeld ?_
    try simp only[Act.put,sL]
    refine tZ (i:=10) hHeld ?_
    try simp only[Act.put,sL]
    refine tZ (i:=11) hHeld ?_
    try simp only[Act.put,sL]
    refine tZ (i:=12) hHeld ?_
    try simp only[Act.put,sL]
    refine tZ (i:=13) hHeld ?_
    try simp only[Act.put,sL]
    refine tZ (i:=14) hHeld ?_
    try simp only[Act.put,sL]
    refine tZ (i:=15) hHeld ?_
    try simp only[Act.put,sL]
    refine wpAnyH_ready (rs:=[16]) (by kernel_rfl) (by simp) ?_
    refine zu rfl (fun KK hKK=>?_) AllReadyH.nil
    refine xZ (by rfl) 121 _ _ rfl G 0 TV.toArray (by rfl) (by rfl) GS.out CI.out CO.out ?_
    refine hKK.out _ _ HSE.out (fun hHeld=>?_)
    clear hKK KK
    try simp only[Act.put,sL]
    refine tZ (i:=17) hHeld ?_
    try simp only[Act.put,sL]
    refine wpAnyH_done (by kernel_rfl) ?_ _
    go_wp2
    refine bodyPost_ret (v:=.tuple #[.agg TV.toArray,.bool eq]) (zj Tryz.results49 _ _ G TV _ rfl (World.rangeAt_setCells_same _ G 0 _ GS'.out) Tryz.underlying121 rfl hi66) rfl ?_
    exact FIN.out
   ·have HNK:Hid (¬ okC T):=hno
    have FIN:Hid (uV l w (.returned (.tuple #[.agg TV.toArray,.bool false])) (u9.drew.setCells G 0 TV)):=⟨HBE.out,T,a,cap,false,by rw[HTV.out],HTW.out,OEJ.out,(fun h=>by cases h),fun u h1 h2 h3=>absurd (UQ.out u h1 h2 h3).2.2.1 HNK.out⟩
    clear hno
    have HSD:Hid (RC1 G TV u9.drew):=⟨LD.out⟩
    have HSE:Hid (RC1 G TV (u9.drew.setCells G 0 TV)):=⟨RG2.out⟩
    go_wp2_with fail
    refine wp_region_held_drew (S:=RC1 G TV) (by kernel_rfl) (by exact HSD.out) (fun hHeld=>?_)
    refine tW (i:=0) (v:=.agg TV.toArray) hHeld rfl (yieldsIf_load_mid (by rfl) 121 _ rfl (G+1) 0 (by rfl) TV _ (fun w' h=>h.rg) Tryz.underlying121 rfl hi66) ?_
    try simp only[Act.put,sL]
    refine tZ (i:=1) hHeld ?_
    try simp only[Act.put,sL]
    refine tZ (i:=2) hHeld ?_
    try simp only[Act.put,sL]
    refine tZ (i:=3) hHeld ?_
    try simp only[Act.put,sL]
    refine tZ (i:=4) hHeld ?_
    try simp only[Act.put,sL]
    refine tZ (i:=5) hHeld ?_
    try simp only[Act.put,sL]
    refine tZ (i:=6) hHeld ?_
    try simp only[Act.put,sL]
    refine tZ (i:=7) hHeld ?_
    try simp only[Act.put,sL]
    refine tZ (i:=8) hHeld ?_
    try simp only[Act.put,sL]
    refine tZ (i:=9) hHeld ?_
    try simp only[Act.put,sL]
    refine tN (i:=10) hHeld ?_
    try simp only[Act.put,sL]
    refine tN (i:=11) hHeld ?_
    try simp only[Act.put,sL]
    refine tN (i:=12) hHeld ?_
    try simp only[Act.put,sL]
    refine tN (i:=13) hHeld ?_
    try simp only[Act.put,sL]
    refine tN (i:=14) hHeld ?_
    try simp only[Act.put,sL]
    refine tZ (i:=15) hHeld ?_
    try simp only[Act.put,sL]
    refine wpAnyH_ready (rs:=[16]) (by kernel_rfl) (by simp) ?_
    refine zu rfl (fun KK hKK=>?_) AllReadyH.nil
    refine xZ (by rfl) 121 _ _ rfl G 0 TV.toArray (by rfl) (by rfl) GS.out CI.out CO.out ?_
    refine hKK.out _ _ HSE.out (fun hHeld=>?_)
    clear hKK KK
    try simp only[Act.put,sL]
    refine tZ (i:=17) hHeld ?_
    try simp only[Act.put,sL]
    refine wpAnyH_done (by kernel_rfl) ?_ _
    go_wp2
    refine bodyPost_ret (v:=.tuple #[.agg TV.toArray,.bool false]) (zj Tryz.results49 _ _ G TV _ rfl (World.rangeAt_setCells_same _ G 0 _ GS'.out) Tryz.underlying121 rfl hi66) rfl ?_
    exact FIN.out
end Go.Proofs.YticgindfipobiaaGreatDoor
