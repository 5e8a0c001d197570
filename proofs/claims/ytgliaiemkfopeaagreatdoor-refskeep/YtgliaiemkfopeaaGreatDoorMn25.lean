import Derived.Test.YtgliaiemkfopeaaGreatDoorMn24
import Derived.Test.YtgliaiemkfopeaaGreatDoorMn15
import Derived.Test.YtgliaiemkfopeaaGreatDoorMn20
import Derived.Test.YtgliaiemkfopeaaGreatDoorMn09
import Derived.Test.YtgliaiemkfopeaaGreatDoorMn22
set_option linter.unusedSimpArgs false
set_option linter.unusedVariables false
set_option maxRecDepth 20000
set_option maxHeartbeats 4000000
namespace Go.Proofs.YtgliaiemkfopeaaGreatDoor.K
open Go.RowKit
abbrev ltS (x y:Str):Prop:=Op.bytesLess x y=true
def geS (x y:Str):Bool := !Op.bytesLess x y
theorem QZ:∀ x y:Str,ltS x y ↔ x<y
 | x,[]=>by cases x <;> simp[ltS,Op.bytesLess]
 | [],b :: y=>by simp[ltS,Op.bytesLess]
 | a :: x,b :: y=>by
  have ih:=QZ x y
  unfold ltS at ih ⊢
  rw[List.cons_lt_cons_iff]
  simp only[Op.bytesLess,Bool.or_eq_true,Bool.and_eq_true,decide_eq_true_eq,beq_iff_eq,ih]
theorem geS_iff (x y:Str):geS x y=true ↔ ¬ ltS x y:=by unfold geS;simp
theorem ltS_irr (x:Str):¬ ltS x x:=by rw[QZ];exact List.lt_irrefl x
theorem ltS_tr (x y z:Str) (h1:ltS x y) (h2:ltS y z):ltS x z:=by rw[QZ] at *;exact List.lt_trans h1 h2
theorem ltS_tot (x y:Str) (h1:¬ ltS x y) (h2:x ≠ y):ltS y x:=by
 rw[QZ] at *
 by_cases h3:y<x
 ·exact h3
 ·exact absurd (List.le_antisymm (List.not_lt.1 h3) (List.not_lt.1 h1)) h2
theorem QQ:(Tryz.prog.info? 88).map (fun i=>(i.zero,i.size,i.bytes))=some (some (.agg (qX ([],zQ,[])).toArray),22,56):=by kernel_rfl
theorem und28:Tryz.prog.underlying 28=some (.slice 88):=by kernel_rfl
theorem run_bs28 (x:Rx) (h:Z9 x) (w:World):(Instr.buildSlice 28 1 #[(0,.agg (qX x).toArray)]).run Tryz.prog w=.ok (.slice (some ⟨w.heap.size,0,none⟩) 1 1) (w.alloc (.cells (qX x).toArray 88)):=by
 obtain⟨i,hq,hz,hs,_⟩:=qu QQ
 refine run_buildSlice w 28 88 1 _ (qX x).toArray i _ und28 hq hz (by rw[hs];decide) (by rw[hs];decide) ?_
 rw[hs]
 obtain⟨nm,id,tg⟩:=x
 have h1:=h.2.1.1
 simp only at h1
 obtain⟨c0,c1,c2,c3,c4,c5,c6,c7,c8,c9,c10,c11,c12,c13,c14,c15,c16,c17,c18,c19,rfl⟩:=yZ id h1
 unfold qX sV
 simp only
 generalize (⟨nm.toArray⟩:ByteArray)=P5
 generalize (⟨tg.toArray⟩:ByteArray)=P6
 show _=_
 kernel_rfl
theorem QX (ge:Str->Str->Bool) (a:Str) (k:Kp):∀ (l:List Rx) (done:Bool),(Rk.setL ge a (some k) l done).length<=l.length+(if done then 0 else 1)
 | [],done=>by cases done <;> simp[Rk.setL]
 | r :: l,done=>by
  have ih:=QX ge a k l (done || ge r.1 a)
  unfold Rk.setL
  simp only[List.length_append,List.length_cons]
  have h1:(if r.1=a then ([] : List Rx) else [r]).length<=1:=by split <;> simp
  generalize (if r.1=a then ([] : List Rx) else [r])=z at h1 ⊢
  generalize ge r.1 a=g at ih ⊢
  cases done <;> cases g <;> simp at ih ⊢ <;> omega
theorem setL_ok (ge:Str->Str->Bool) (a:Str) (k:Kp) (hx:Z9 (a,k)):∀ (l:List Rx) (done:Bool),(∀ x ∈ l,Z9 x)->∀ x ∈ Rk.setL ge a (some k) l done,Z9 x
 | [],done,_,x,hm=>by
  cases done <;> simp[Rk.setL] at hm
  subst hm;exact hx
 | r :: l,done,hl,x,hm=>by
  unfold Rk.setL at hm
  simp only[List.mem_append] at hm
  rcases hm with hm | hm | hm
  ·split at hm
   ·simp at hm;subst hm;exact hx
   ·simp at hm
  ·split at hm
   ·simp at hm
   ·simp at hm;subst hm;exact hl x (by simp)
  ·exact setL_ok ge a k hx l _ (fun y hy=>hl y (by simp[hy])) x hm
structure Qt (Q K:Nat) (a:Option Addr) (N c:Nat) (p:Addr) (y x:ByteArray) (W:World):Prop where
 c0:W.cell? ⟨Q,0,none⟩=some (.slice a N c)
 c1:W.cell? p=some (.string y)
 c2:W.cell? ⟨K,0,none⟩=some (.string x)
theorem Tryz.results54:Tryz.f54.results=#[]:=by kernel_rfl
def Post54 (G Q:Nat) (v2:Value) (rs':List Rx) (ls:List Ex) (w:World) (e:Ending) (w':World):Prop:=e=.returned (.tuple #[])/\(∃ v,Dq G w' Q v v2 rs' ls)/\Al (fun i=>i=Q) w w'
theorem set_doc {G Q:Nat} {v1 v2:Value} {rs:List Rx} {ls:List Ex} (x:Rx) (hx:Z9 x) (gone:Bool) (w:World) (h:Dq G w Q v1 v2 rs ls) (hG:G<=w.heap.size) (hn:rs.length+1<=100000) :
    Calls Tryz.prog 54 #[.pointer (some ⟨Q,0,none⟩),.agg (qX x).toArray,.bool gone] w (Post54 G Q v2 (Rk.setL geS x.1 (some x.2) rs gone) ls w):=by
  obtain⟨r,HR⟩:=nm_ w.heap.size
  obtain⟨E,hE⟩:∃ E,qX x=E:=⟨_,rfl⟩
  have hEl:E.length=22:=by rw[<-hE];exact xx hx
  obtain⟨W1,HW1⟩:=nm_ (w.alloc (.cells E.toArray 88))
  have hb1:Below r w W1:=by rw[<-HW1.out,<-HR.out];exact(Below.refl _ w).alloc (Nat.le_refl _) _
  have hs1:W1.heap.size=r+1:=by rw[<-HW1.out,<-HR.out];simp
  have hr0:W1.heap[r]? = some (.cells E.toArray 88):=by rw[<-HW1.out,<-HR.out];exact heap_alloc_new _ _
  have hQr:Q<r:=by rw[<-HR.out];exact z7 h.box
  obtain⟨a,c,e1,hP,hpa,hc0⟩:=h.px1
  subst e1
  obtain⟨N,HN⟩:=nm_ rs.length
  have hN9:N+1<=100000:=by rw[<-HN.out];exact hn
  have HST:Hid (∀ W,Below (r+1) W1 W->Below r w W/\Dq G W Q (.slice a rs.length c) v2 rs ls/\Px qX 22 dR W a c rs/\W.cell? ⟨Q,0,none⟩=some (.slice a N c)/\W.cell? ⟨r,0,none⟩=some (sV x.1)/\W.heap[r]? = some (.cells E.toArray 88)):=fun W hW=>by
    have hb:Below r w W:=hb1.trans (hW.mono (by omega))
    have hd:=h.below (W:=W) (by rw[HR.out];exact hb)
    have hk:=(hW.block r (by omega)).trans hr0
    refine⟨hb,hd,hP.below (by rw[HR.out];exact hb),?_,?_,hk⟩
    · rw[<-HN.out];exact(hb.cell (p:=⟨Q,0,none⟩) hQr).trans hc0
    · rw[cell_of_row _ _ 0 _ _ _ hk,<-hE];rfl
  have HI88:Hid ((Tryz.prog.info? 88).map (·.size)=some E.toArray.size):=hid (by rw[List.size_toArray,hEl];kernel_rfl)
  have HI88b:Hid ((Tryz.prog.info? 88).map (·.size)=some E.length):=hid (by rw[hEl];kernel_rfl)
  have HBS:Hid (∀ W:World,(Instr.buildSlice 28 1 #[(0,.agg E.toArray)]).run Tryz.prog W=.ok (.slice (some ⟨W.heap.size,0,none⟩) 1 1) (W.alloc (.cells E.toArray 88))):=fun W=>by rw[<-hE];exact run_bs28 x hx W
  have HPO:Hid (∀ W:World,Px qX 22 dR (W.alloc (.cells E.toArray 88)) (some ⟨W.heap.size,0,none⟩) 1 [x]):=fun W=>by
    have:=yu (enc:=qX) (d:=dR) W x 88
    rw[xx hx,hE] at this
    exact this
  have HB0:Hid (Bx qX 22 88 W1 W1 (r+1) (.slice none 0 0) []):=hid (uz 88 W1 (r+1) (by omega))
  have HLE:Hid (∀ l:List Rx,l.length<=200000->l.length + [x].length<=1000000000):=fun l hl=>by simp;omega
  have HX:=hid hx
  have HOK:=hid h.ok1
  have HH:=hid h
  have HGR:Hid (G<=r):=hid (by rw[<-HR.out];exact hG)
  obtain⟨X,HXS⟩:=nm_ (⟨x.1.toArray⟩:ByteArray)
  have HSL:Hid (∀ (l:List Rx) d,(Rk.setL geS x.1 (some x.2) l d).length<=l.length+1):=fun l d=>Nat.le_trans (QX geS x.1 x.2 l d) (by cases d <;> simp)
  rw[hE]
  clear h hP hpa hc0 hb1 hn hG
  go_enter Tryz.func54,Tryz.ntmps54
  go_wp2
  rw[HW1.out,HR.out]
  go_loopg [6,7,8] N (fun q ov dv iv wr=>∃ (i:Nat) (u:Value) (out:List Rx) (d:Bool),iv=.int .i64 i/\u=ov/\dv=.bool d/\q=N-i/\i<=N/\out.length<=2*i/\Hid (Bx qX 22 88 W1 wr (r+1) u out)/\Hid (out++Rk.setL geS x.1 (some x.2) (rs.drop i) d=Rk.setL geS x.1 (some x.2) rs gone))
  case atStart=>exact⟨0,_,[],gone,rfl,rfl,rfl,rfl,Nat.zero_le _,by simp,HB0,hid (by simp)⟩
  case round =>
    obtain⟨i,u,out,d,rfl,hu,rfl,hq,hin,hol,HB,HO⟩:=hrel
    subst hu
    obtain⟨k1,k2,k3,k4,k5,k6⟩:=HST.out wr HB.out.below
    obtain⟨ua,uc,hus⟩:=zZ HB.out.own
    obtain⟨un,hun⟩:∃ n,out.length=n:=⟨_,rfl⟩
    rw[hun] at hus
    subst hus
    by_cases hlt:i<N
    · have hlti:(i:Int)<(N:Int):=by omega
      obtain⟨b,off,hae,_,_⟩:=k3.at_ (by rw[HN.out];omega)
      subst hae
      obtain⟨y,hy⟩:∃ y,(rs.getD i dR).1=y:=⟨_,rfl⟩
      obtain⟨Y,HY⟩:=nm_ (⟨y.toArray⟩:ByteArray)
      obtain⟨EL,hEL⟩:∃ EL,qX (rs.getD i dR)=EL:=⟨_,rfl⟩
      have HRE:Hid (Z9 (rs.getD i dR)):=hid (HOK.out _ (zK rs i dR (by rw[HN.out];exact hlt)))
      have HIE:Hid ((Tryz.prog.info? 88).map (·.size)=some EL.length):=hid (by rw[<-hEL,xx HRE.out];kernel_rfl)
      have HBSE:Hid (∀ W:World,(Instr.buildSlice 28 1 #[(0,.agg EL.toArray)]).run Tryz.prog W=.ok (.slice (some ⟨W.heap.size,0,none⟩) 1 1) (W.alloc (.cells EL.toArray 88))):=fun W=>by rw[<-hEL];exact run_bs28 _ HRE.out W
      have HPOE:Hid (∀ W:World,Px qX 22 dR (W.alloc (.cells EL.toArray 88)) (some ⟨W.heap.size,0,none⟩) 1 [rs.getD i dR]):=fun W=>by
        have:=yu (enc:=qX) (d:=dR) W (rs.getD i dR) 88
        rw[xx HRE.out,hEL] at this
        exact this
      have HRG:Hid (∀ W,Below (r+1) W1 W->W.rangeAt b (off+i*22) EL):=fun W hW=>by
        obtain⟨_,_,e1,_,e3⟩:=(HST.out W hW).2.2.1.at_ (by rw[HN.out];omega)
        cases e1
        rw[<-hEL]
        exact e3 i (by rw[HN.out];exact hlt)
      have HEL:Hid (∀ W,Below (r+1) W1 W->W.cell? ⟨b,off+i*22,none⟩=some (.string Y)):=fun W hW=>by
        have:=HRG.out W hW 0 (sV y) (by rw[<-hEL,<-hy];rfl)
        rw[<-HY.out]
        exact this
      have HDR:Hid (rs.drop i=rs.getD i dR :: rs.drop (i+1)):=hid (by
        rw[List.drop_eq_getElem_cons (by rw[HN.out];exact hlt),List.getD_eq_getElem?_getD,List.getElem?_eq_getElem (by rw[HN.out];exact hlt)]
        rfl)
      have HY1:Hid ((rs.getD i dR).1=y):=hid hy
      have HLL:Hid (out.length<=2*i/\i<=100000):=hid ⟨hol,by omega⟩
      have k7:=HEL.out wr HB.out.below
      unfold sV at k5
      rw[HXS.out] at k5
      clear hy hEL k1 k2 k3 hun
      cases d with
      | true =>
        have HGE:Hid (True):=trivial
        clear k4 k5 k6
        have k4:=(HST.out wr HB.out.below).2.2.2.1
        have k5:=(HST.out wr HB.out.below).2.2.2.2.1
        unfold sV at k5
        rw[HXS.out] at k5
        go_wp2
        refine wp_region_held_drew (S:=Qt Q r (some ⟨b,off,none⟩) N c ⟨b,off+i*22,none⟩ Y X) (by kernel_rfl) ⟨k4,k7,k5⟩ (fun hHeld=>?_)
        have hb0:Below wr.heap.size wr wr.drew:=zv _ _ 1
        have HBA:Hid (Bx qX 22 88 W1 wr.drew (r+1) (.slice ua un uc) out):=hid (HB.out.carry hb0)
        generalize wr.drew=w8 at hHeld hb0 HBA ⊢
        iterate 15
          first
            | refine Z8 hHeld ?_
            | (refine qq (v:=?_) hHeld ?_ ?_
               rotate_left
               · rintro w' ⟨c0,c1,c2⟩;go_simp;rfl)
          try simp only[Act.put,sL]
        refine wpAnyH_done (by kernel_rfl) ?_ _
        clear hHeld hb0
        clear k4 k5 k7
        go_wp2
        by_cases hyx:y=x.1
        · have hee:(Y.toList == X.toList)=true:=by rw[<-HY.out,<-HXS.out,hyx];exact beq_self_eq_true _
          have hee2:(Y == X)=true:=by rw[beq_toListBytes];exact hee
          obtain⟨k1,k2,k3,k4,k5,k6⟩:=HST.out w8 HBA.out.below
          have k7:=HEL.out w8 HBA.out.below
          unfold sV at k5
          rw[HXS.out] at k5
          refine wp_region_held_drew (S:=Qt Q r (some ⟨b,off,none⟩) N c ⟨b,off+i*22,none⟩ Y X) (by kernel_rfl) ⟨k4,k7,k5⟩ (fun hHeld=>?_)
          have hb0:Below w8.heap.size w8 w8.drew:=zv _ _ 1
          have HBE:Hid (Bx qX 22 88 W1 w8.drew (r+1) (.slice ua un uc) out):=hid (HBA.out.carry hb0)
          generalize w8.drew=w9 at hHeld hb0 HBE ⊢
          iterate 11
            first
              | refine Z8 hHeld ?_
              | (refine qq (v:=?_) hHeld ?_ ?_
                 rotate_left
                 · rintro w' ⟨c0,c1,c2⟩;go_simp;rfl)
            try simp only[Act.put,sL]
          refine wpAnyH_done (by kernel_rfl) ?_ _
          clear hHeld hb0
          go_wp2
          go_roundg (N-(i+1))
          case measure=>omega
          case rel=>exact⟨i+1,_,out,true,by go_num,rfl,rfl,rfl,by omega,by first | omega | (simp;omega),HBE,hid (by
            rw[<-HO.out,HDR.out]
            have hy2:=HY1.out
            have hg2:=HGE.out
            revert hy2
            generalize rs.getD i dR=rx
            intro hy2
            conv=>rhs;unfold Rk.setL
            simp[hy2,hyx]
            try (rw[hyx] at hg2;simp[hg2])
            try simp[hg2])⟩
        · have hee:(Y.toList == X.toList)=false:=by rw[<-HY.out,<-HXS.out,Lib.toList_data,Lib.toList_data];simpa using hyx
          have hee2:(Y == X)=false:=by rw[beq_toListBytes];exact hee
          obtain⟨k1,k2,k3,k4,k5,k6⟩:=HST.out w8 HBA.out.below
          have k7:=HEL.out w8 HBA.out.below
          unfold sV at k5
          rw[HXS.out] at k5
          refine wp_region_held_drew (S:=Qt Q r (some ⟨b,off,none⟩) N c ⟨b,off+i*22,none⟩ Y X) (by kernel_rfl) ⟨k4,k7,k5⟩ (fun hHeld=>?_)
          have hb0:Below w8.heap.size w8 w8.drew:=zv _ _ 1
          have HBE:Hid (Bx qX 22 88 W1 w8.drew (r+1) (.slice ua un uc) out):=hid (HBA.out.carry hb0)
          generalize w8.drew=w9 at hHeld hb0 HBE ⊢
          iterate 11
            first
              | refine Z8 hHeld ?_
              | (refine qq (v:=?_) hHeld ?_ ?_
                 rotate_left
                 · rintro w' ⟨c0,c1,c2⟩;go_simp;rfl)
            try simp only[Act.put,sL]
          refine wpAnyH_done (by kernel_rfl) ?_ _
          clear hHeld hb0
          have HRG9:=hid (HRG.out _ HBE.out.below)
          have hq0:=(HST.out _ HBE.out.below).2.2.2.1
          have HB10:Hid (Bx qX 22 88 W1 (w9.alloc (.cells EL.toArray 88)) (r+1) (.slice ua un uc) out):=hid (HBE.out.alloc _)
          go_wp2_with (first
            | (refine wpList_load_mid rfl 88 (.tmp 55) rfl _ _ rfl EL _ HRG9.out Tryz.underlying88 rfl HIE.out ?_;go_frame)
            | (refine z8 rfl _ (zY 28 (.tmp 56) rfl (.agg EL.toArray) _ rfl (HBSE.out _)) ?_;go_frame)
            | (at_builtin;refine zj (enc:=qX) (k:=22) (d:=dR) rfl _ _ 28 88 und28 QQ rfl (by decide) (by decide) jX rfl (r+1) _ out rfl HB10.out (some ⟨w9.heap.size,0,none⟩) 1 [rs.getD i dR] rfl (HPOE.out w9) (fun z hz=>by rw[List.mem_singleton.1 hz];exact xx HRE.out) (by have:=HLL.out;simp at this ⊢;omega) ?_;intro v3 w3 hb3 hg3 hm3;have HB3:=hid hb3;clear hb3 hg3 hm3))
          go_roundg (N-(i+1))
          case measure=>omega
          case rel=>exact⟨i+1,_,out++[rs.getD i dR],true,by go_num,rfl,rfl,rfl,by omega,by first | omega | (simp;omega),HB3,hid (by
            rw[<-HO.out,HDR.out]
            have hy2:=HY1.out
            have hg2:=HGE.out
            revert hy2
            generalize rs.getD i dR=rx
            intro hy2
            conv=>rhs;unfold Rk.setL
            simp[hy2,hyx]
            try (rw[hyx] at hg2;simp[hg2])
            try simp[hg2])⟩
      | false =>
        by_cases hge:geS y x.1=true
        · have HGE:=hid hge
          have hlb:Op.bytesLess Y.toList X.toList=false:=by
            unfold geS at hge
            rw[<-HY.out,<-HXS.out,Lib.toList_data,Lib.toList_data]
            simpa using hge
          go_wp2
          refine wp_region_held_drew (S:=Qt Q r (some ⟨b,off,none⟩) N c ⟨b,off+i*22,none⟩ Y X) (by kernel_rfl) ⟨k4,k7,k5⟩ (fun hHeld=>?_)
          have hb0:Below wr.heap.size wr wr.drew:=zv _ _ 1
          have HBA:Hid (Bx qX 22 88 W1 wr.drew (r+1) (.slice ua un uc) out):=hid (HB.out.carry hb0)
          generalize wr.drew=w8 at hHeld hb0 HBA ⊢
          iterate 15
            first
              | refine Z8 hHeld ?_
              | (refine qq (v:=?_) hHeld ?_ ?_
                 rotate_left
                 · rintro w' ⟨c0,c1,c2⟩;go_simp;rfl)
            try simp only[Act.put,sL]
          refine wpAnyH_done (by kernel_rfl) ?_ _
          clear hHeld hb0
          clear k4 k5 k7 k6
          have K6:=hid (HST.out _ HBA.out.below).2.2.2.2.2
          have HBB:Hid (Bx qX 22 88 W1 (w8.alloc (.cells E.toArray 88)) (r+1) (.slice ua un uc) out):=hid (HBA.out.alloc _)
          go_wp2_with (first
            | (refine zu rfl 88 (.tmp 4) rfl r E.toArray 88 (0,0) _ rfl K6.out Tryz.underlying88 rfl HI88.out ?_;go_frame)
            | (refine z8 rfl _ (zY 28 (.tmp 35) rfl (.agg E.toArray) _ rfl (HBS.out _)) ?_;go_frame)
            | (at_builtin;refine zj (enc:=qX) (k:=22) (d:=dR) rfl _ _ 28 88 und28 QQ rfl (by decide) (by decide) jX rfl (r+1) _ out rfl HBB.out (some ⟨w8.heap.size,0,none⟩) 1 [x] rfl (HPO.out w8) (fun z hz=>by rw[List.mem_singleton.1 hz];exact xx HX.out) (by have:=HLL.out;simp;omega) ?_;intro v4 w4 hb4 hg4 hm4;obtain⟨va,vc,hvs⟩:=zZ hb4.own;obtain⟨vn,hvn⟩:∃ n,(out++[x]).length=n:=⟨_,rfl⟩;rw[hvn] at hvs;subst hvs;have HB4:=hid hb4;clear hb4 hg4 hm4 hvn))
          by_cases hyx:y=x.1
          · have hee:(Y.toList == X.toList)=true:=by rw[<-HY.out,<-HXS.out,hyx];exact beq_self_eq_true _
            have hee2:(Y == X)=true:=by rw[beq_toListBytes];exact hee
            obtain⟨k1,k2,k3,k4,k5,k6⟩:=HST.out w4 HB4.out.below
            have k7:=HEL.out w4 HB4.out.below
            unfold sV at k5
            rw[HXS.out] at k5
            refine wp_region_held_drew (S:=Qt Q r (some ⟨b,off,none⟩) N c ⟨b,off+i*22,none⟩ Y X) (by kernel_rfl) ⟨k4,k7,k5⟩ (fun hHeld=>?_)
            have hb0:Below w4.heap.size w4 w4.drew:=zv _ _ 1
            have HBE:Hid (Bx qX 22 88 W1 w4.drew (r+1) (.slice va vn vc) (out++[x])):=hid (HB4.out.carry hb0)
            generalize w4.drew=w9 at hHeld hb0 HBE ⊢
            iterate 11
              first
                | refine Z8 hHeld ?_
                | (refine qq (v:=?_) hHeld ?_ ?_
                   rotate_left
                   · rintro w' ⟨c0,c1,c2⟩;go_simp;rfl)
              try simp only[Act.put,sL]
            refine wpAnyH_done (by kernel_rfl) ?_ _
            clear hHeld hb0
            go_wp2
            go_roundg (N-(i+1))
            case measure=>omega
            case rel=>exact⟨i+1,_,(out++[x]),true,by go_num,rfl,rfl,rfl,by omega,by first | omega | (simp;omega),HBE,hid (by
              rw[<-HO.out,HDR.out]
              have hy2:=HY1.out
              have hg2:=HGE.out
              revert hy2
              generalize rs.getD i dR=rx
              intro hy2
              conv=>rhs;unfold Rk.setL
              simp[hy2,hyx]
              try (rw[hyx] at hg2;simp[hg2])
              try simp[hg2])⟩
          · have hee:(Y.toList == X.toList)=false:=by rw[<-HY.out,<-HXS.out,Lib.toList_data,Lib.toList_data];simpa using hyx
            have hee2:(Y == X)=false:=by rw[beq_toListBytes];exact hee
            obtain⟨k1,k2,k3,k4,k5,k6⟩:=HST.out w4 HB4.out.below
            have k7:=HEL.out w4 HB4.out.below
            unfold sV at k5
            rw[HXS.out] at k5
            refine wp_region_held_drew (S:=Qt Q r (some ⟨b,off,none⟩) N c ⟨b,off+i*22,none⟩ Y X) (by kernel_rfl) ⟨k4,k7,k5⟩ (fun hHeld=>?_)
            have hb0:Below w4.heap.size w4 w4.drew:=zv _ _ 1
            have HBE:Hid (Bx qX 22 88 W1 w4.drew (r+1) (.slice va vn vc) (out++[x])):=hid (HB4.out.carry hb0)
            generalize w4.drew=w9 at hHeld hb0 HBE ⊢
            iterate 11
              first
                | refine Z8 hHeld ?_
                | (refine qq (v:=?_) hHeld ?_ ?_
                   rotate_left
                   · rintro w' ⟨c0,c1,c2⟩;go_simp;rfl)
              try simp only[Act.put,sL]
            refine wpAnyH_done (by kernel_rfl) ?_ _
            clear hHeld hb0
            have HRG9:=hid (HRG.out _ HBE.out.below)
            have hq0:=(HST.out _ HBE.out.below).2.2.2.1
            have HB10:Hid (Bx qX 22 88 W1 (w9.alloc (.cells EL.toArray 88)) (r+1) (.slice va vn vc) (out++[x])):=hid (HBE.out.alloc _)
            go_wp2_with (first
              | (refine wpList_load_mid rfl 88 (.tmp 55) rfl _ _ rfl EL _ HRG9.out Tryz.underlying88 rfl HIE.out ?_;go_frame)
              | (refine z8 rfl _ (zY 28 (.tmp 56) rfl (.agg EL.toArray) _ rfl (HBSE.out _)) ?_;go_frame)
              | (at_builtin;refine zj (enc:=qX) (k:=22) (d:=dR) rfl _ _ 28 88 und28 QQ rfl (by decide) (by decide) jX rfl (r+1) _ (out++[x]) rfl HB10.out (some ⟨w9.heap.size,0,none⟩) 1 [rs.getD i dR] rfl (HPOE.out w9) (fun z hz=>by rw[List.mem_singleton.1 hz];exact xx HRE.out) (by have:=HLL.out;simp at this ⊢;omega) ?_;intro v3 w3 hb3 hg3 hm3;have HB3:=hid hb3;clear hb3 hg3 hm3))
            go_roundg (N-(i+1))
            case measure=>omega
            case rel=>exact⟨i+1,_,(out++[x])++[rs.getD i dR],true,by go_num,rfl,rfl,rfl,by omega,by first | omega | (simp;omega),HB3,hid (by
              rw[<-HO.out,HDR.out]
              have hy2:=HY1.out
              have hg2:=HGE.out
              revert hy2
              generalize rs.getD i dR=rx
              intro hy2
              conv=>rhs;unfold Rk.setL
              simp[hy2,hyx]
              try (rw[hyx] at hg2;simp[hg2])
              try simp[hg2])⟩
        · have hge':geS y x.1=false:=by simpa using hge
          have HGE:=hid hge'
          have hlb:Op.bytesLess Y.toList X.toList=true:=by
            unfold geS at hge'
            rw[<-HY.out,<-HXS.out,Lib.toList_data,Lib.toList_data]
            simpa using hge'
          clear hge hge'
          go_wp2
          refine wp_region_held_drew (S:=Qt Q r (some ⟨b,off,none⟩) N c ⟨b,off+i*22,none⟩ Y X) (by kernel_rfl) ⟨k4,k7,k5⟩ (fun hHeld=>?_)
          have hb0:Below wr.heap.size wr wr.drew:=zv _ _ 1
          have HBA:Hid (Bx qX 22 88 W1 wr.drew (r+1) (.slice ua un uc) out):=hid (HB.out.carry hb0)
          generalize wr.drew=w8 at hHeld hb0 HBA ⊢
          iterate 15
            first
              | refine Z8 hHeld ?_
              | (refine qq (v:=?_) hHeld ?_ ?_
                 rotate_left
                 · rintro w' ⟨c0,c1,c2⟩;go_simp;rfl)
            try simp only[Act.put,sL]
          refine wpAnyH_done (by kernel_rfl) ?_ _
          clear hHeld hb0
          clear k4 k5 k7 k6
          go_wp2
          by_cases hyx:y=x.1
          · have hee:(Y.toList == X.toList)=true:=by rw[<-HY.out,<-HXS.out,hyx];exact beq_self_eq_true _
            have hee2:(Y == X)=true:=by rw[beq_toListBytes];exact hee
            obtain⟨k1,k2,k3,k4,k5,k6⟩:=HST.out w8 HBA.out.below
            have k7:=HEL.out w8 HBA.out.below
            unfold sV at k5
            rw[HXS.out] at k5
            refine wp_region_held_drew (S:=Qt Q r (some ⟨b,off,none⟩) N c ⟨b,off+i*22,none⟩ Y X) (by kernel_rfl) ⟨k4,k7,k5⟩ (fun hHeld=>?_)
            have hb0:Below w8.heap.size w8 w8.drew:=zv _ _ 1
            have HBE:Hid (Bx qX 22 88 W1 w8.drew (r+1) (.slice ua un uc) out):=hid (HBA.out.carry hb0)
            generalize w8.drew=w9 at hHeld hb0 HBE ⊢
            iterate 11
              first
                | refine Z8 hHeld ?_
                | (refine qq (v:=?_) hHeld ?_ ?_
                   rotate_left
                   · rintro w' ⟨c0,c1,c2⟩;go_simp;rfl)
              try simp only[Act.put,sL]
            refine wpAnyH_done (by kernel_rfl) ?_ _
            clear hHeld hb0
            go_wp2
            go_roundg (N-(i+1))
            case measure=>omega
            case rel=>exact⟨i+1,_,out,false,by go_num,rfl,rfl,rfl,by omega,by first | omega | (simp;omega),HBE,hid (by
              rw[<-HO.out,HDR.out]
              have hy2:=HY1.out
              have hg2:=HGE.out
              revert hy2
              generalize rs.getD i dR=rx
              intro hy2
              conv=>rhs;unfold Rk.setL
              simp[hy2,hyx]
              try (rw[hyx] at hg2;simp[hg2])
              try simp[hg2])⟩
          · have hee:(Y.toList == X.toList)=false:=by rw[<-HY.out,<-HXS.out,Lib.toList_data,Lib.toList_data];simpa using hyx
            have hee2:(Y == X)=false:=by rw[beq_toListBytes];exact hee
            obtain⟨k1,k2,k3,k4,k5,k6⟩:=HST.out w8 HBA.out.below
            have k7:=HEL.out w8 HBA.out.below
            unfold sV at k5
            rw[HXS.out] at k5
            refine wp_region_held_drew (S:=Qt Q r (some ⟨b,off,none⟩) N c ⟨b,off+i*22,none⟩ Y X) (by kernel_rfl) ⟨k4,k7,k5⟩ (fun hHeld=>?_)
            have hb0:Below w8.heap.size w8 w8.drew:=zv _ _ 1
            have HBE:Hid (Bx qX 22 88 W1 w8.drew (r+1) (.slice ua un uc) out):=hid (HBA.out.carry hb0)
            generalize w8.drew=w9 at hHeld hb0 HBE ⊢
            iterate 11
              first
                | refine Z8 hHeld ?_
                | (refine qq (v:=?_) hHeld ?_ ?_
                   rotate_left
                   · rintro w' ⟨c0,c1,c2⟩;go_simp;rfl)
              try simp only[Act.put,sL]
            refine wpAnyH_done (by kernel_rfl) ?_ _
            clear hHeld hb0
            have HRG9:=hid (HRG.out _ HBE.out.below)
            have hq0:=(HST.out _ HBE.out.below).2.2.2.1
            have HB10:Hid (Bx qX 22 88 W1 (w9.alloc (.cells EL.toArray 88)) (r+1) (.slice ua un uc) out):=hid (HBE.out.alloc _)
            go_wp2_with (first
              | (refine wpList_load_mid rfl 88 (.tmp 55) rfl _ _ rfl EL _ HRG9.out Tryz.underlying88 rfl HIE.out ?_;go_frame)
              | (refine z8 rfl _ (zY 28 (.tmp 56) rfl (.agg EL.toArray) _ rfl (HBSE.out _)) ?_;go_frame)
              | (at_builtin;refine zj (enc:=qX) (k:=22) (d:=dR) rfl _ _ 28 88 und28 QQ rfl (by decide) (by decide) jX rfl (r+1) _ out rfl HB10.out (some ⟨w9.heap.size,0,none⟩) 1 [rs.getD i dR] rfl (HPOE.out w9) (fun z hz=>by rw[List.mem_singleton.1 hz];exact xx HRE.out) (by have:=HLL.out;simp at this ⊢;omega) ?_;intro v3 w3 hb3 hg3 hm3;have HB3:=hid hb3;clear hb3 hg3 hm3))
            go_roundg (N-(i+1))
            case measure=>omega
            case rel=>exact⟨i+1,_,out++[rs.getD i dR],false,by go_num,rfl,rfl,rfl,by omega,by first | omega | (simp;omega),HB3,hid (by
              rw[<-HO.out,HDR.out]
              have hy2:=HY1.out
              have hg2:=HGE.out
              revert hy2
              generalize rs.getD i dR=rx
              intro hy2
              conv=>rhs;unfold Rk.setL
              simp[hy2,hyx]
              try (rw[hyx] at hg2;simp[hg2])
              try simp[hg2])⟩
    · have hlti:¬ (i:Int)<(N:Int):=by omega
      obtain rfl:i=N:=by omega
      have HD0:Hid (rs.drop i=[]):=hid (List.drop_of_length_le (by rw[HN.out];exact Nat.le_refl _))
      have HFIN:Hid (∀ (W:World) (v:Value) (l:List Rx),Bx qX 22 88 W1 W (r+1) v l->l=Rk.setL geS x.1 (some x.2) rs gone->W.frozen? ⟨Q,0,none⟩=false/\W.cell? ⟨Q,0,none⟩=some (.slice a i c)/\Post54 G Q v2 (Rk.setL geS x.1 (some x.2) rs gone) ls w (.returned (.tuple #[])) (W.setCell ⟨Q,0,none⟩ v)):=fun W v l hB hl=>by
        obtain⟨q1,q2,q3,q4,q5,q6⟩:=HST.out W hB.below
        have ht:Tf 31 W (W.setCell ⟨Q,0,none⟩ v):=Tf.set (p:=⟨Q,0,none⟩) q2.box v
        have hr:=HGR.out
        refine⟨by simp[World.frozen?,q2.box],q4,rfl,⟨v,by rw[qy q2.box];rfl,?_,zV q2.r2 ht (by decide),?_,q2.ok2,?_,q2.few.2⟩,(Al.below (by rw[HR.out];exact q1)).trans (Al.of_set (S:=fun i=>i=Q) (p:=⟨Q,0,none⟩) rfl _) (fun i h=>.inl h)⟩
        · have:=qk (zV hB.own ht (by decide)) (B':=G) (by omega)
          rw[hl] at this
          exact this
        · exact setL_ok geS x.1 x.2 HX.out rs gone HOK.out
        · have h1:=HSL.out rs gone
          have h2:=HN.out
          omega
      clear k1 k2 k3 k5 k6 hun
      cases d with
      | true =>
        have hl:out=Rk.setL geS x.1 (some x.2) rs gone:=by have:=HO.out;rw[HD0.out] at this;simpa [Rk.setL] using this
        obtain⟨f1,f2,f3⟩:=HFIN.out wr _ out HB.out hl
        have F3:=hid f3
        clear f3 hl
        go_wp2
        exact bodyPost_end (results_none Tryz.results54 _ _ _) rfl F3.out
      | false =>
        have HL:Hid (out++[x]=Rk.setL geS x.1 (some x.2) rs gone):=hid (by have:=HO.out;rw[HD0.out] at this;simpa [Rk.setL] using this)
        have K6:=hid (HST.out wr HB.out.below).2.2.2.2.2
        have HBB:Hid (Bx qX 22 88 W1 (wr.alloc (.cells E.toArray 88)) (r+1) (.slice ua un uc) out):=hid (HB.out.alloc _)
        go_wp2_with (first
          | (refine zu rfl 88 (.tmp 4) rfl r E.toArray 88 (0,0) _ rfl K6.out Tryz.underlying88 rfl HI88.out ?_;go_frame)
          | (refine z8 rfl _ (zY 28 (.tmp 62) rfl (.agg E.toArray) _ rfl (HBS.out _)) ?_;go_frame)
          | (at_builtin;refine zj (enc:=qX) (k:=22) (d:=dR) rfl _ _ 28 88 und28 QQ rfl (by decide) (by decide) jX rfl (r+1) _ out rfl HBB.out (some ⟨wr.heap.size,0,none⟩) 1 [x] rfl (HPO.out wr) (fun z hz=>by rw[List.mem_singleton.1 hz];exact xx HX.out) (HLE.out out (by omega)) ?_;intro v4 w4 hb4 hg4 hm4;obtain⟨va,vc,hvs⟩:=zZ hb4.own;subst hvs;obtain⟨f1,f2,f3⟩:=HFIN.out w4 _ _ hb4 HL.out;rw[List.length_append,List.length_singleton] at f3;have F3:=hid f3;clear hb4 hg4 hm4 f3))
        exact bodyPost_end (results_none Tryz.results54 _ _ _) rfl F3.out
theorem jv:(Tryz.prog.info? 141).map (fun i=>(i.zero,i.size,i.bytes))=some (some (.agg (yz ([],⟨zQ,zQ,⟨[],[],0,0⟩,[]⟩)).toArray),46,120):=by kernel_rfl
theorem XJ:Tryz.prog.underlying 29=some (.slice 141):=by kernel_rfl
theorem z141:(Value.agg (yz ([],⟨zQ,zQ,⟨[],[],0,0⟩,[]⟩)).toArray).cells.size=46:=by kernel_rfl
theorem z88:(Value.agg (qX ([],zQ,[])).toArray).cells.size=22:=by kernel_rfl
theorem QJ (x:Ex) (h:ExOk x) (w:World):(Instr.buildSlice 29 1 #[(0,.agg (yz x).toArray)]).run Tryz.prog w=.ok (.slice (some ⟨w.heap.size,0,none⟩) 1 1) (w.alloc (.cells (yz x).toArray 141)):=by
 obtain⟨i,hq,hz,hs,_⟩:=qu jv
 refine run_buildSlice w 29 141 1 _ (yz x).toArray i _ XJ hq hz (by rw[hs];decide) (by rw[hs];decide) ?_
 rw[hs]
 obtain⟨nme,x,y,⟨pn,pm,pt,pz⟩,tx⟩:=x
 have he:=h.2
 obtain⟨a0,a1,a2,a3,a4,a5,a6,a7,a8,a9,a10,a11,a12,a13,a14,a15,a16,a17,a18,a19,rfl⟩:=yZ x he.1.1
 obtain⟨b0,b1,b2,b3,b4,b5,b6,b7,b8,b9,b10,b11,b12,b13,b14,b15,b16,b17,b18,b19,rfl⟩:=yZ y he.2.1
 unfold yz qv sV
 simp only
 generalize (⟨pn.toArray⟩:ByteArray)=P1
 generalize (⟨pm.toArray⟩:ByteArray)=P2
 generalize (⟨tx.toArray⟩:ByteArray)=P3
 generalize (⟨nme.toArray⟩:ByteArray)=P4
 show _=_
 kernel_rfl
theorem Tryz.results18:Tryz.f18.results=#[.tmp 2]:=by kernel_rfl
theorem build31 (w:World):(Instr.build 31 #[]).run Tryz.prog w=.ok (.agg #[.slice none 0 0,.slice none 0 0]) w:=by kernel_rfl
structure Qc (C Q j:Nat) (v u:Value) (W:World):Prop where
 c0:W.cell? ⟨C,j,none⟩=some v
 c1:W.cell? ⟨Q,j,none⟩=some u
def Post18 (rs:List Rx) (ls:List Ex) (w:World) (e:Ending) (w':World):Prop := ∃ C v1 v2,e=.returned (.pointer (some ⟨C,0,none⟩))/\w.heap.size<=C/\Dq w.heap.size w' C v1 v2 rs ls/\Below w.heap.size w w'
set_option maxHeartbeats 2000000 in
theorem copyD_any {G Q:Nat} {v1 v2:Value} {rs:List Rx} {ls:List Ex} (w:World) (h:Dq G w Q v1 v2 rs ls) :
  Calls Tryz.prog 18 #[.pointer (some ⟨Q,0,none⟩)] w (Post18 rs ls w):=by
 obtain⟨r,HR⟩:=nm_ w.heap.size
 obtain⟨a1,c1,e1,hP1,hp1,hq1⟩:=h.px1
 obtain⟨a2,c2,e2,hP2,hp2,hq2⟩:=h.px2
 have hQr:Q<r:=by rw[<-HR.out];exact z7 h.box
 have hbd:=build31
 obtain⟨W1,HW1⟩:=nm_ (w.alloc (.cells #[.slice none 0 0,.slice none 0 0] 31))
 have hb1:Below r w W1:=by rw[<-HW1.out,<-HR.out];exact(Below.refl _ w).alloc (Nat.le_refl _) _
 have hs1:W1.heap.size=r+1:=by rw[<-HW1.out,<-HR.out];simp
 have hr0:W1.heap[r]? = some (.cells #[.slice none 0 0,.slice none 0 0] 31):=by rw[<-HW1.out,<-HR.out];exact heap_alloc_new _ _
 obtain⟨N1,HN1⟩:=nm_ rs.length
 obtain⟨N2,HN2⟩:=nm_ ls.length
 rw[HN1.out] at hq1
 rw[HN2.out] at hq2
 have HH:=hid h
 have HP1:Hid (∀ W,Below r w W->Px qX 22 dR W a1 c1 rs):=fun W hW=>hP1.below (by rw[HR.out];exact hW)
 have HP2:Hid (∀ W,Below r w W->Px yz 46 dE W a2 c2 ls):=fun W hW=>hP2.below (by rw[HR.out];exact hW)
 have HQ1:Hid (∀ W,Below r w W->W.cell? ⟨Q,0,none⟩=some (.slice a1 N1 c1)):=fun W hW=>(hW.cell (p:=⟨Q,0,none⟩) hQr).trans hq1
 have HQ2:Hid (∀ W,Below r w W->W.cell? ⟨Q,1,none⟩=some (.slice a2 N2 c2)):=fun W hW=>(hW.cell (p:=⟨Q,1,none⟩) hQr).trans hq2
 clear h hP1 hP2
 go_enter Tryz.func18,Tryz.ntmps18
 go_wp2_with (refine z8 rfl (.agg #[.slice none 0 0,.slice none 0 0]) (yk 31 rfl (hbd _)) ?_;go_frame)
 rw[HW1.out,HR.out]
 have hfz:∀ W:World,Below (r+1) W1 W->∀ j,W.frozen? ⟨r,j,none⟩=false:=fun W hW j=>by simp[World.frozen?,(hW.block r (by omega)).trans hr0]
 have HB01:Hid (∀ W,Below (r+1) W1 W->Below r w W):=fun W hW=>hb1.trans (hW.mono (by omega))
 have HS0:Hid (∀ W,Below (r+1) W1 W->Qc r Q 0 (.slice none 0 0) (.slice a1 N1 c1) W):=fun W hW=>⟨by rw[cell_of_row _ _ 0 _ _ _ ((hW.block r (by omega)).trans hr0)];rfl,HQ1.out W (HB01.out W hW)⟩
 have hd0:Below (r+1) W1 W1.drew:=by rw[<-hs1];exact zv _ _ 1
 have HX1:Hid (Bx qX 22 88 W1 W1.drew (r+1) (.slice none 0 0) []):=hid (by
  have:=uz (enc:=qX) (k:=22) 88 W1 (r+1) (by omega)
  exact this.carry (by rw[hs1];exact hd0))
 have hS0:=HS0.out _ hd0
 refine Xx (Qc r Q 0 (.slice none 0 0) (.slice a1 N1 c1)) 12 (by kernel_rfl) ?_
 generalize W1.drew=u0 at hS0 hd0 HX1 ⊢
 iterate 9
  refine Yq (v:=?_) hS0 ?_ ?_
  rotate_left
  ·rintro w' ⟨c0,c1⟩;go_simp;rfl
  try simp only[Act.put,sL]
 refine xW (i:=9) (by kernel_rfl) (k9 rfl (fun KK hKK=>?_))
 refine step_bx (enc:=qX) (k:=22) (d:=dR) (.tmp 10) (.tmp 14) 28 88 und28 QQ z88 (by decide) (by decide) jX (r+1) (.slice none 0 0) [] rfl HX1.out a1 c1 rs (by rw[HN1.out];rfl) (HP1.out _ (HB01.out _ hd0)) (fun x hx=>xx (HH.out.ok1 x hx)) (by have:=HH.out.few.1;simp;omega) ?_
 intro v3 u1 hb3 hm3
 rw[List.nil_append] at hb3
 obtain⟨va,vc,hv3⟩:=zZ hb3.own
 subst hv3
 have hS1:=HS0.out _ hb3.below
 refine hKK.out _ _ (.inr hS1) ?_
 clear hKK KK hS0
 try simp only[Act.put,sL]
 refine xW (i:=10) (by kernel_rfl) (k9 rfl (fun KK hKK=>?_))
 go_simp
 refine hKK.out _ _ (.inr hS1) ?_
 clear hKK KK
 try simp only[Act.put,sL]
 refine xW (i:=11) (by kernel_rfl) (k9 rfl (fun KK hKK=>?_))
 go_simp
 refine hKK.out _ _ (.inr hS1) ?_
 clear hKK KK
 try simp only[Act.put,sL]
 have hf1:=hfz u1 hb3.below 0
 have hk1:=hS1.c0
 refine xW (i:=12) (by kernel_rfl) (k9 rfl (fun KK hKK=>?_))
 go_simp
 refine hKK.out _ _ (.inl rfl) ?_
 clear hKK KK
 try simp only[Act.put,sL]
 refine doneU (by kernel_rfl) ?_ _
 obtain⟨n1,hn1⟩:∃ n,rs.length=n:=⟨_,rfl⟩
 have hbx1:u1.heap[r]? = some (.cells #[.slice none 0 0,.slice none 0 0] 31):=(hb3.below.block r (by omega)).trans hr0
 obtain⟨u2,HU2⟩:=nm_ (u1.setCell ⟨r,0,none⟩ (.slice va rs.length vc))
 have hbx2:u2.heap[r]? = some (.cells #[.slice va rs.length vc,.slice none 0 0] 31):=by rw[<-HU2.out,qy hbx1];rfl
 have hs2:u2.heap.size=u1.heap.size:=by rw[<-HU2.out];simp[World.setCell]
 have hb2:Below r w u2:=by
  have h1:=HB01.out u1 hb3.below
  refine⟨by rw[<-HU2.out];exact h1.os,by rw[<-HU2.out];exact h1.tape,by rw[<-HU2.out];exact h1.output,by rw[hs2];exact h1.size,fun k hk=>?_⟩
  rw[<-HU2.out,Below.heap_setCell _ _ _ k (show k ≠ r by omega)]
  exact h1.block k hk
 have ho2:u2.ownsRow (r+1) 88 22 (.slice va rs.length vc) rs.length (rs.flatMap qX):=by
  rw[<-HU2.out]
  exact zV hb3.own (Tf.set (p:=⟨r,0,none⟩) hbx1 _) (by decide)
 have hr1s:r+1<=u2.heap.size:=by rw[hs2];exact hb3.le
 rw[HU2.out]
 have HB02:Hid (∀ W,Below (r+1) u2 W->Below r w W):=fun W hW=>hb2.trans (hW.mono (by omega))
 have hfz2:∀ W:World,Below (r+1) u2 W->W.frozen? ⟨r,1,none⟩=false:=fun W hW=>by simp[World.frozen?,(hW.block r (by omega)).trans hbx2]
 have HS2:Hid (∀ W,Below (r+1) u2 W->Qc r Q 1 (.slice none 0 0) (.slice a2 N2 c2) W):=fun W hW=>⟨by rw[cell_of_row _ _ 1 _ _ _ ((hW.block r (by omega)).trans hbx2)];rfl,HQ2.out W (HB02.out W hW)⟩
 have hd2:Below (r+1) u2 u2.drew:=(zv _ _ 1).mono hr1s
 have HX2:Hid (Bx yz 46 141 u2 u2.drew (r+1) (.slice none 0 0) []):=hid ((uz (enc:=yz) (k:=46) 141 u2 (r+1) hr1s).carry (zv _ _ 1))
 have HO2:=hid ho2
 have hS2:=HS2.out _ hd2
 have hdw:Below u2.heap.size u2 u2.drew:=zv _ _ 1
 clear hb3 hm3 hS1 hf1 hk1
 go_wp2
 refine Xx (Qc r Q 1 (.slice none 0 0) (.slice a2 N2 c2)) 12 (by kernel_rfl) ?_
 generalize u2.drew=u3 at hS2 hd2 HX2 hdw ⊢
 iterate 9
  refine Yq (v:=?_) hS2 ?_ ?_
  rotate_left
  ·rintro w' ⟨c0,c1⟩;go_simp;rfl
  try simp only[Act.put,sL]
 refine xW (i:=9) (by kernel_rfl) (k9 rfl (fun KK hKK=>?_))
 refine step_bx (enc:=yz) (k:=46) (d:=dE) (.tmp 22) (.tmp 26) 29 141 XJ jv z141 (by decide) (by decide) j6 (r+1) (.slice none 0 0) [] rfl HX2.out a2 c2 ls (by rw[HN2.out];rfl) (HP2.out _ (HB02.out _ hd2)) (fun x hx=>yy (HH.out.ok2 x hx)) (by have:=HH.out.few.2;simp;omega) ?_
 intro v4 u4 hb4 hm4
 rw[List.nil_append] at hb4
 obtain⟨wa,wc,hv4⟩:=zZ hb4.own
 subst hv4
 have hS4:=HS2.out _ hb4.below
 refine hKK.out _ _ (.inr hS4) ?_
 clear hKK KK hS2
 try simp only[Act.put,sL]
 refine xW (i:=10) (by kernel_rfl) (k9 rfl (fun KK hKK=>?_))
 go_simp
 refine hKK.out _ _ (.inr hS4) ?_
 clear hKK KK
 try simp only[Act.put,sL]
 refine xW (i:=11) (by kernel_rfl) (k9 rfl (fun KK hKK=>?_))
 go_simp
 refine hKK.out _ _ (.inr hS4) ?_
 clear hKK KK
 try simp only[Act.put,sL]
 have hf4:=hfz2 u4 hb4.below
 have hk4:=hS4.c0
 refine xW (i:=12) (by kernel_rfl) (k9 rfl (fun KK hKK=>?_))
 go_simp
 refine hKK.out _ _ (.inl rfl) ?_
 clear hKK KK
 try simp only[Act.put,sL]
 refine doneU (by kernel_rfl) ?_ _
 have hbx4:u4.heap[r]? = some (.cells #[.slice va rs.length vc,.slice none 0 0] 31):=(hb4.below.block r (by omega)).trans hbx2
 have HF:Hid (Post18 rs ls w (.returned (.pointer (some ⟨r,0,none⟩))) (u4.setCell ⟨r,1,none⟩ (.slice wa ls.length wc))):=hid (by
  have ht:Tf 31 u4 (u4.setCell ⟨r,1,none⟩ (.slice wa ls.length wc)):=Tf.set (p:=⟨r,1,none⟩) hbx4 _
  have hb4':=HB02.out u4 hb4.below
  have ho4:u4.ownsRow (r+1) 88 22 (.slice va rs.length vc) rs.length (rs.flatMap qX):=by
   exact xV (xV HO2.out hdw) (hm4.below (fun k hk=>by cases hk) (Nat.le_refl _))
  refine⟨r,_,_,rfl,by rw[HR.out];exact Nat.le_refl _,⟨by rw[qy hbx4];rfl,qk (zV ho4 ht (by decide)) (by rw[HR.out];omega),qk (zV hb4.own ht (by decide)) (by rw[HR.out];omega),HH.out.ok1,HH.out.ok2,HH.out.few⟩,?_⟩
  rw[HR.out]
  refine⟨hb4'.os,hb4'.tape,hb4'.output,by simp[World.setCell];exact hb4'.size,fun k hk=>?_⟩
  rw[Below.heap_setCell _ _ _ k (show k ≠ r by omega)]
  exact hb4'.block k hk)
 clear hb4 hm4 hS4 hf4 hk4
 go_wp2
 exact bodyPost_ret (results_tmp Tryz.results18 _ _ _) rfl HF.out
theorem Tryz.results57:Tryz.f57.results=#[]:=by kernel_rfl
theorem Tryz.results36:Tryz.f36.results=#[.tmp 4,.tmp 5]:=by kernel_rfl
theorem Tryz.results27:Tryz.f27.results=#[.tmp 6]:=by kernel_rfl
def Post57 (G Q:Nat) (v1:Value) (rs:List Rx) (ls':List Ex) (w:World) (e:Ending) (w':World):Prop:=(∃ v,Dq G w' Q v1 v rs ls')/\Al (fun i=>i=Q) w w'
set_option maxHeartbeats 2000000 in
theorem prune_doc {G Q:Nat} {v1 v2:Value} {rs:List Rx} {ls:List Ex} (w:World) (h:Dq G w Q v1 v2 rs ls) (hG:G<=w.heap.size) :
  Calls Tryz.prog 57 #[.pointer (some ⟨Q,0,none⟩)] w fun e w'=>e=.returned (.tuple #[])/\Post57 G Q v1 rs (Rk.prn rs ls) w e w':=by
 obtain⟨r,HR⟩:=nm_ w.heap.size
 have hQr:Q<r:=by rw[<-HR.out];exact z7 h.box
 obtain⟨a,c,e2,hP,hpa,hc1⟩:=h.px2
 subst e2
 obtain⟨N,HN⟩:=nm_ ls.length
 have hN9:N<=1000000:=by rw[<-HN.out];exact h.few.2
 have HST:Hid (∀ W,Below r w W->Dq G W Q v1 (.slice a ls.length c) rs ls/\Px yz 46 dE W a c ls/\W.cell? ⟨Q,1,none⟩=some (.slice a N c)):=fun W hW=>⟨h.below (by rw[HR.out];exact hW),hP.below (by rw[HR.out];exact hW),by rw[<-HN.out];exact(hW.cell (p:=⟨Q,1,none⟩) hQr).trans hc1⟩
 have HB0:Hid (Bx yz 46 141 w w r (.slice none 0 0) []):=hid (uz 141 w r (by rw[HR.out];exact Nat.le_refl _))
 have HOK:=hid h.ok2
 have HH:=hid h
 have HGR:Hid (G<=r):=hid (by rw[<-HR.out];exact hG)
 have HFIN:Hid (∀ (W:World) (v:Value) (l:List Ex),Bx yz 46 141 w W r v l->l=(Rk.prn rs ls)->(∀ x ∈ l,ExOk x)->l.length<=1000000->W.frozen? ⟨Q,1,none⟩=false/\Post57 G Q v1 rs (Rk.prn rs ls) w (.returned (.tuple #[])) (W.setCell ⟨Q,1,none⟩ v)):=fun W v l hB hl hlo hlen=>by
  obtain⟨q1,q2,q3⟩:=HST.out W hB.below
  have ht:Tf 31 W (W.setCell ⟨Q,1,none⟩ v):=Tf.set (p:=⟨Q,1,none⟩) q1.box v
  have hr:=HGR.out
  have:=qk (zV hB.own ht (by decide)) (B':=G) hr
  subst hl
  exact⟨by simp[World.frozen?,q1.box],⟨v,by rw[qy q1.box];rfl,zV q1.r1 ht (by decide),this,q1.ok1,hlo,q1.few.1,hlen⟩,(Al.below (by rw[HR.out];exact hB.below)).trans (Al.of_set (S:=fun i=>i=Q) (p:=⟨Q,1,none⟩) rfl _) (fun i h=>.inl h)⟩
 have hfi:=fun x W (hW:Below r w W)=>Zz x W (HST.out W hW).1
 clear h hP hpa hc1 hG
 go_enter Tryz.func57,Tryz.ntmps57
 go_wp2
 go_loopg [2,3] N (fun q ov iv wr=>∃ (i:Nat) (u:Value) (out:List Ex),iv=.int .i64 i/\u=ov/\q=N-i/\i<=N/\out.length<=i/\Hid (Bx yz 46 141 w wr r u out)/\Hid (out=Rk.prn rs (ls.take i)))
 case atStart=>exact⟨0,_,[],rfl,rfl,rfl,Nat.zero_le _,by simp,HB0,hid (by simp[Rk.prn])⟩
 case round =>
  obtain⟨i,u,out,rfl,hu,hq,hin,hol,HB,HO⟩:=hrel
  subst hu
  obtain⟨k1,k2,k3⟩:=HST.out wr HB.out.below
  obtain⟨ua,uc,hus⟩:=zZ HB.out.own
  obtain⟨un,hun⟩:∃ n,out.length=n:=⟨_,rfl⟩
  rw[hun] at hus
  subst hus
  by_cases hlt:i<N
  ·have hlti:(i:Int)<(N:Int):=by omega
   obtain⟨b,off,hae,_,_⟩:=k2.at_ (by rw[HN.out];omega)
   subst hae
   obtain⟨y,hy⟩:∃ y,(ls.getD i dE).1=y:=⟨_,rfl⟩
   obtain⟨EL,hEL⟩:∃ EL,yz (ls.getD i dE)=EL:=⟨_,rfl⟩
   have HRE:Hid (ExOk (ls.getD i dE)):=hid (HOK.out _ (zK ls i dE (by rw[HN.out];exact hlt)))
   have HIE:Hid ((Tryz.prog.info? 141).map (·.size)=some EL.length):=hid (by rw[<-hEL,yy HRE.out];kernel_rfl)
   have HBSE:Hid (∀ W:World,(Instr.buildSlice 29 1 #[(0,.agg EL.toArray)]).run Tryz.prog W=.ok (.slice (some ⟨W.heap.size,0,none⟩) 1 1) (W.alloc (.cells EL.toArray 141))):=fun W=>by rw[<-hEL];exact QJ _ HRE.out W
   have HPOE:Hid (∀ W:World,Px yz 46 dE (W.alloc (.cells EL.toArray 141)) (some ⟨W.heap.size,0,none⟩) 1 [ls.getD i dE]):=fun W=>by
    have:=yu (enc:=yz) (d:=dE) W (ls.getD i dE) 141
    rw[yy HRE.out,hEL] at this
    exact this
   have HRG:Hid (wr.rangeAt b (off+i*46) EL):=hid (by
    obtain⟨_,_,e1,_,e3⟩:=k2.at_ (by rw[HN.out];omega)
    cases e1
    rw[<-hEL]
    exact e3 i (by rw[HN.out];exact hlt))
   have k7:wr.cell? ⟨b,off+i*46,none⟩=some (sV y):=HRG.out 0 (sV y) (by rw[<-hEL,<-hy];rfl)
   have HDR:Hid (ls.drop i=ls.getD i dE :: ls.drop (i+1)):=hid (by
    rw[List.drop_eq_getElem_cons (by rw[HN.out];exact hlt),List.getD_eq_getElem?_getD,List.getElem?_eq_getElem (by rw[HN.out];exact hlt)]
    rfl)
   have HTK:Hid (ls.take (i+1)=ls.take i++[ls.getD i dE]):=hid (qj dE ls i (by rw[HN.out];exact hlt))
   have HY1:Hid ((ls.getD i dE).1=y):=hid hy
   have HLL:Hid (out.length + [ls.getD i dE].length<=1000000000):=hid (by simp;omega)
   have HB10:Hid (Bx yz 46 141 w (wr.alloc (.cells EL.toArray 141)) r (.slice ua un uc) out):=hid (HB.out.alloc _)
   unfold sV at k7
   clear hy hEL k2 hun
   have hfy:=hfi y wr HB.out.below
   cases hI:fI rs y with
   | none =>
    rw[hI] at hfy
    simp only[iV] at hfy
    have HF:=hid ((jJ rs y).2 hI)
    unfold sV at hfy
    clear hI
    go_wp2_with (go_at_call 53;refine hfy.mono ?_;rintro e w' ⟨rfl,hw⟩;have hw':=hw.symm;subst hw';clear hw hfy)
    go_roundg (N-(i+1))
    case measure=>omega
    case rel=>exact⟨i+1,_,out,by go_num,rfl,rfl,by omega,by omega,HB,hid (by
     rw[HTK.out,HO.out]
     unfold Rk.prn
     rw[List.filter_append]
     simp only[List.filter_cons,List.filter_nil,HY1.out,HF.out]
     simp)⟩
   | some k =>
    rw[hI] at hfy
    simp only[iV] at hfy
    have HF:=hid ((jJ rs y).1 k hI).2.2
    have hk0:(0:Int)<=(k:Int):=by omega
    unfold sV at hfy
    clear hI
    go_wp2_with (first
     | (go_at_call 53;refine hfy.mono ?_;rintro e w' ⟨rfl,hw⟩;have hw':=hw.symm;subst hw';clear hw hfy)
     | (refine wpList_load_mid rfl 141 (.tmp 32) rfl _ _ rfl EL _ HRG.out Tryz.underlying141 rfl HIE.out ?_;go_frame)
     | (refine z8 rfl _ (zY 29 (.tmp 33) rfl (.agg EL.toArray) _ rfl (HBSE.out _)) ?_;go_frame)
     | (at_builtin;refine zj (enc:=yz) (k:=46) (d:=dE) rfl _ _ 29 141 XJ jv z141 (by decide) (by decide) j6 rfl r (.slice ua un uc) out rfl HB10.out (some ⟨wr.heap.size,0,none⟩) 1 [ls.getD i dE] rfl (HPOE.out wr) (fun z hz=>by rw[List.mem_singleton.1 hz];exact yy HRE.out) HLL.out ?_;intro v3 w3 hb3 hg3 hm3;have HB3:=hid hb3;clear hb3 hg3 hm3))
    go_roundg (N-(i+1))
    case measure=>omega
    case rel=>exact⟨i+1,_,out++[ls.getD i dE],by go_num,rfl,rfl,by omega,by simp;omega,HB3,hid (by
     rw[HTK.out,HO.out]
     unfold Rk.prn
     rw[List.filter_append]
     simp only[List.filter_cons,List.filter_nil,HY1.out,HF.out]
     simp)⟩
  ·have hlti:¬ (i:Int)<(N:Int):=by omega
   obtain rfl:i=N:=by omega
   have hlE:out=Rk.prn rs ls:=by rw[HO.out,List.take_of_length_le (by rw[HN.out];exact Nat.le_refl _)]
   obtain⟨f1,f3⟩:=HFIN.out wr _ out HB.out hlE (fun x hx=>HOK.out x (by rw[hlE] at hx;exact(List.mem_filter.1 hx).1)) (by omega)
   have F3:=hid f3
   clear f3 hlE k1 k2 hun
   go_wp2
   exact bodyPost_end (results_none Tryz.results57 _ _ _) rfl ⟨rfl,F3.out⟩
def lgD (rs:List Rx) (ls:List Ex) (x:Str):Except Int (List Ex):=if isN x then (if (Rk.fd rs x).isSome then .ok (ls.filter fun e=>decide (e.1=x)) else .error 61) else .error 60
def oX (o:Except Int (List Ex)):List Ex:=match o with
 | .ok l=>l
 | .error _=>[]
def Post36 (o:Except Int (List Ex)) (w:World) (e:Ending) (w':World):Prop := ∃ v,e=.returned (.tuple #[v,.int .i64 (oN o)])/\w'.ownsRow w.heap.size 141 46 v (oX o).length ((oX o).flatMap yz)/\Below w.heap.size w w'
set_option maxHeartbeats 2000000 in
theorem logD_any {G Q:Nat} {v1 v2:Value} {rs:List Rx} {ls:List Ex} (x:Str) (w:World) (h:Dq G w Q v1 v2 rs ls) :
  Calls Tryz.prog 36 #[.pointer (some ⟨Q,0,none⟩),sV x] w (Post36 (lgD rs ls x) w):=by
 have hin:=vW x w
 obtain⟨r,HR⟩:=nm_ w.heap.size
 have hQr:Q<r:=by rw[<-HR.out];exact z7 h.box
 obtain⟨a,c,e2,hP,hpa,hc1⟩:=h.px2
 subst e2
 obtain⟨N,HN⟩:=nm_ ls.length
 have hN9:N<=1000000:=by rw[<-HN.out];exact h.few.2
 have HST:Hid (∀ W,Below r w W->Dq G W Q v1 (.slice a ls.length c) rs ls/\Px yz 46 dE W a c ls/\W.cell? ⟨Q,1,none⟩=some (.slice a N c)):=fun W hW=>⟨h.below (by rw[HR.out];exact hW),hP.below (by rw[HR.out];exact hW),by rw[<-HN.out];exact(hW.cell (p:=⟨Q,1,none⟩) hQr).trans hc1⟩
 have HB0:Hid (∀ W,Below r w W->Bx yz 46 141 w W r (.slice none 0 0) []):=fun W hW=>(uz 141 w r (by rw[HR.out];exact Nat.le_refl _)).carry (by rw[HR.out];exact hW)
 have HOK:=hid h.ok2
 have HH:=hid h
 have hfi:=fun W (hW:Below r w W)=>Zz x W (HST.out W hW).1
 have HNIL:Hid (∀ W k,Below r w W->Post36 (.error k) w (.returned (.tuple #[.slice none 0 0,.int .i64 k])) W):=fun W k hW=>⟨_,rfl,⟨by simp[oX],.inl ⟨rfl,rfl⟩⟩,by rw[HR.out];exact hW⟩
 rw[HR.out] at hin
 clear h hP hpa hc1
 cases hi:isN x with
 | false =>
  have HF:Hid (lgD rs ls x=.error 60):=hid (by unfold lgD;rw[hi];rfl)
  rw[HF.out]
  rw[hi] at hin
  unfold sV at hin ⊢
  clear hfi
  go_enter Tryz.func36,Tryz.ntmps36
  go_wp2_with (go_at_call 51;refine hin.mono ?_;rintro e w1 ⟨rfl,hb⟩;have B1:=hid hb;clear hb)
  exact bodyPost_ret (results_tmp2 Tryz.results36 _ _ _) rfl (HNIL.out _ _ B1.out)
 | true =>
  rw[hi] at hin
  cases hI:fI rs x with
  | none =>
   have HF:Hid (lgD rs ls x=.error 61):=hid (by unfold lgD;rw[hi,(jJ rs x).2 hI];rfl)
   rw[HF.out]
   rw[hI] at hfi
   simp only[iV] at hfi
   unfold sV at hin hfi ⊢
   clear hI
   go_enter Tryz.func36,Tryz.ntmps36
   go_wp2_with (first
    | (go_at_call 51;refine hin.mono ?_;rintro e w1 ⟨rfl,hb⟩;have hfi2:=hfi w1 hb;have B1:=hid hb;clear hb hfi)
    | (go_at_call 53;refine hfi2.mono ?_;rintro e w' ⟨rfl,rfl⟩))
   exact bodyPost_ret (results_tmp2 Tryz.results36 _ _ _) rfl (HNIL.out _ _ B1.out)
  | some k0 =>
   have HF:Hid (lgD rs ls x=.ok (ls.filter fun e=>decide (e.1=x))):=hid (by unfold lgD;rw[hi,((jJ rs x).1 k0 hI).2.2];rfl)
   rw[HF.out]
   rw[hI] at hfi
   simp only[iV] at hfi
   have hk0:¬ ((k0:Int)<0):=by omega
   unfold sV at hin hfi ⊢
   clear hI
   go_enter Tryz.func36,Tryz.ntmps36
   go_wp2_with (first
    | (go_at_call 51;refine hin.mono ?_;rintro e w1 ⟨rfl,hb⟩;have hfi2:=hfi w1 hb;have B1:=hid hb;clear hb hfi)
    | (go_at_call 53;refine hfi2.mono ?_;rintro e w' ⟨rfl,hw⟩;have hw':=hw.symm;subst hw';clear hw hfi2))
   go_loopg [8,9] N (fun q ov iv wr=>∃ (i:Nat) (u:Value) (out:List Ex),iv=.int .i64 i/\u=ov/\q=N-i/\i<=N/\out.length<=i/\Hid (Bx yz 46 141 w wr r u out)/\Hid (out=(ls.take i).filter fun e=>decide (e.1=x)))
   case atStart=>exact⟨0,_,[],rfl,rfl,rfl,Nat.zero_le _,by simp,hid (HB0.out _ B1.out),hid (by simp)⟩
   case round =>
    obtain⟨i,u,out,rfl,hu,hq,hin,hol,HB,HO⟩:=hrel
    subst hu
    obtain⟨k1,k2,k3⟩:=HST.out wr HB.out.below
    obtain⟨ua,uc,hus⟩:=zZ HB.out.own
    obtain⟨un,hun⟩:∃ n,out.length=n:=⟨_,rfl⟩
    rw[hun] at hus
    subst hus
    by_cases hlt:i<N
    ·have hlti:(i:Int)<(N:Int):=by omega
     obtain⟨b,off,hae,_,_⟩:=k2.at_ (by rw[HN.out];omega)
     subst hae
     obtain⟨y,hy⟩:∃ y,(ls.getD i dE).1=y:=⟨_,rfl⟩
     obtain⟨EL,hEL⟩:∃ EL,yz (ls.getD i dE)=EL:=⟨_,rfl⟩
     have HRE:Hid (ExOk (ls.getD i dE)):=hid (HOK.out _ (zK ls i dE (by rw[HN.out];exact hlt)))
     have HIE:Hid ((Tryz.prog.info? 141).map (·.size)=some EL.length):=hid (by rw[<-hEL,yy HRE.out];kernel_rfl)
     have HBSE:Hid (∀ W:World,(Instr.buildSlice 29 1 #[(0,.agg EL.toArray)]).run Tryz.prog W=.ok (.slice (some ⟨W.heap.size,0,none⟩) 1 1) (W.alloc (.cells EL.toArray 141))):=fun W=>by rw[<-hEL];exact QJ _ HRE.out W
     have HPOE:Hid (∀ W:World,Px yz 46 dE (W.alloc (.cells EL.toArray 141)) (some ⟨W.heap.size,0,none⟩) 1 [ls.getD i dE]):=fun W=>by
      have:=yu (enc:=yz) (d:=dE) W (ls.getD i dE) 141
      rw[yy HRE.out,hEL] at this
      exact this
     have HRG:Hid (wr.rangeAt b (off+i*46) EL):=hid (by
      obtain⟨_,_,e1,_,e3⟩:=k2.at_ (by rw[HN.out];omega)
      cases e1
      rw[<-hEL]
      exact e3 i (by rw[HN.out];exact hlt))
     have k7:wr.cell? ⟨b,off+i*46,none⟩=some (sV y):=HRG.out 0 (sV y) (by rw[<-hEL,<-hy];rfl)
     have HDR:Hid (ls.drop i=ls.getD i dE :: ls.drop (i+1)):=hid (by
      rw[List.drop_eq_getElem_cons (by rw[HN.out];exact hlt),List.getD_eq_getElem?_getD,List.getElem?_eq_getElem (by rw[HN.out];exact hlt)]
      rfl)
     have HTK:Hid (ls.take (i+1)=ls.take i++[ls.getD i dE]):=hid (qj dE ls i (by rw[HN.out];exact hlt))
     have HY1:Hid ((ls.getD i dE).1=y):=hid hy
     have HLL:Hid (out.length + [ls.getD i dE].length<=1000000000):=hid (by simp;omega)
     have HB10:Hid (Bx yz 46 141 w (wr.alloc (.cells EL.toArray 141)) r (.slice ua un uc) out):=hid (HB.out.alloc _)
     unfold sV at k7
     clear hy hEL k2 hun
     by_cases hyx:y=x
     ·subst hyx
      go_wp2_with (first
       | (refine wpList_load_mid rfl 141 (.tmp 44) rfl _ _ rfl EL _ HRG.out Tryz.underlying141 rfl HIE.out ?_;go_frame)
       | (refine z8 rfl _ (zY 29 (.tmp 45) rfl (.agg EL.toArray) _ rfl (HBSE.out _)) ?_;go_frame)
       | (at_builtin;refine zj (enc:=yz) (k:=46) (d:=dE) rfl _ _ 29 141 XJ jv z141 (by decide) (by decide) j6 rfl r (.slice ua un uc) out rfl HB10.out (some ⟨wr.heap.size,0,none⟩) 1 [ls.getD i dE] rfl (HPOE.out wr) (fun z hz=>by rw[List.mem_singleton.1 hz];exact yy HRE.out) HLL.out ?_;intro v3 w3 hb3 hg3 hm3;have HB3:=hid hb3;clear hb3 hg3 hm3))
      go_roundg (N-(i+1))
      case measure=>omega
      case rel=>exact⟨i+1,_,out++[ls.getD i dE],by go_num,rfl,rfl,by omega,by simp;omega,HB3,hid (by
       rw[HTK.out,HO.out,List.filter_append]
       simp only[List.filter_cons,List.filter_nil,HY1.out]
       simp)⟩
     ·have hne:(y == x)=false:=by simpa using hyx
      go_wp2
      go_roundg (N-(i+1))
      case measure=>omega
      case rel=>exact⟨i+1,_,out,by go_num,rfl,rfl,by omega,by omega,HB,hid (by
       rw[HTK.out,HO.out,List.filter_append]
       simp only[List.filter_cons,List.filter_nil,HY1.out]
       simp[hyx])⟩
    ·have hlti:¬ (i:Int)<(N:Int):=by omega
     obtain rfl:i=N:=by omega
     have HE:Hid (out=ls.filter fun e=>decide (e.1=x)):=hid (by rw[HO.out,List.take_of_length_le (by rw[HN.out];exact Nat.le_refl _)])
     have HR6:Hid (Post36 (.ok (ls.filter fun e=>decide (e.1=x))) w (.returned (.tuple #[.slice ua un uc,.int .i64 0])) wr):=hid ⟨_,rfl,by
      rw[<-HE.out,HR.out]
      exact HB.out.own,by rw[HR.out];exact HB.out.below⟩
     clear k1 k2 hun
     go_wp2
     exact bodyPost_ret (results_tmp2 Tryz.results36 _ _ _) rfl HR6.out
end Go.Proofs.YtgliaiemkfopeaaGreatDoor.K
