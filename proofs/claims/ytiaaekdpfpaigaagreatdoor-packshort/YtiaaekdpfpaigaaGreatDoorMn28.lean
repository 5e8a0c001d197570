import Derived.Test.YtiaaekdpfpaigaaGreatDoorMn26
import Derived.Test.YtiaaekdpfpaigaaGreatDoorMn27
set_option linter.unusedSimpArgs false
set_option linter.unusedVariables false
set_option maxRecDepth 20000
set_option maxHeartbeats 4000000
open List renaming length_append->Wz6
open Nat renaming le_refl->WzV,le_trans->Wqx,lt_of_lt_of_le->Wqj
namespace Go.Proofs.YtiaaekdpfpaigaaGreatDoor.Pk
open Go.Proofs.Tryz
open Go.RowKit Go.Maps Go.Proofs.YtiaaekdpfpaigaaGreatDoor.Id Go.Proofs.YtiaaekdpfpaigaaGreatDoor.Px
theorem qzq (x y:Value) (w:World):(callFunc 38 #[x,y]).run prog w=.ok (.enter 38 #[x,y]) w:=by kernel_rfl
theorem qzx (x y:Value) (w:World):(callFunc 39 #[x,y]).run prog w=.ok (.enter 39 #[x,y]) w:=by kernel_rfl
theorem qzj (x y:Value) (w:World):(callFunc 36 #[x,y]).run prog w=.ok (.enter 36 #[x,y]) w:=by kernel_rfl
theorem zzQ (K:Int):prog.built 70 [(0,.int .i64 K)]=some (.int .i64 K :: .int .i64 0 :: .int .i64 0 :: row .u8 z20).toArray:=by kernel_rfl
structure Sh (es:List En) (hs:List Bs) (x:Oj) (i:Nat) (e:En):Prop where
 s1:1<=i->∀ y,hs.head? = some y->One y.x.zs x.zs->(enb e).length<=90
 s2:2<=i->0<es.length->One (es.getD 0 dE).ob x.zs->(enb e).length<=90
theorem Sh.le {es:List En} {hs:List Bs} {x:Oj} {i:Nat} {e e':En} (h:Sh es hs x i e) (hl:(enb e').length<=(enb e).length):Sh es hs x i e' :=
 ⟨fun a y b c=>Wqx hl (h.s1 a y b c),fun a b c=>Wqx hl (h.s2 a b c)⟩
structure Lb (K n at_:Nat) (hsb:List (List Int)) (es:List En) (hs:List Bs) (x:Oj) (u:World) (i:Nat) (ab:Option Addr) (cb:Nat) (bs:List Bs):Prop where
 px:Pb K u ab cb bs
 ok:∀ y ∈ bs,Bok n at_ y
 om:∀ y ∈ bs,∀ W,Sb u W->Om n W y.x
 few:bs.length<=1000
 src:∀ y,bs.head? = some y->∃ k d id,Src K n at_ hsb es x y k d id
 no:bs.length=0->∀ e,Sh es hs x i e->Sh es hs x (i+1) e
 yes:∀ y,bs.head? = some y->∀ e,(One y.x.zs x.zs->(enb e).length<=90)->Sh es hs x i e->Sh es hs x (i+1) e
theorem G7 {bs:List Bs} (h:0<bs.length):bs.head? = some (bs.getD 0 dB):=by
 cases bs with
 | nil=>simp at h
 | cons a l=>rfl
structure S3 (gw:Nat) (wv hv:Value) (W:World):Prop where
 c1:W.cell? ⟨gw,1,none⟩=some wv
 c2:W.cell? ⟨gw,2,none⟩=some hv
structure S8 (u:World) (gb go G:Nat) (a b:Value) (W:World):Prop where
 s:Sb u W
 c1:W.cell? ⟨gb,go+1,none⟩=some a
 d1:W.cell? ⟨G,1,none⟩=some b
theorem S8.go {u W W':World} {gb go G:Nat} {a b:Value} (h:S8 u gb go G a b W) (hg:gb<u.heap.size) (hG:G<u.heap.size) (hb:Below W.heap.size W W'):S8 u gb go G a b W' :=
 ⟨h.s.go hb,(hb.cell (p:=⟨gb,go+1,none⟩) (Wqj hg h.s.b.size)).trans h.c1,(hb.cell (p:=⟨G,1,none⟩) (Wqj hG h.s.b.size)).trans h.d1⟩
structure S10 (gb go:Nat) (dp:Nat) (W:World):Prop where
 c3:W.cell? ⟨gb,go+3,none⟩=some (.int .i64 dp)
structure S13 (gw G:Nat) (wv:Value) (RO:List Value) (W:World):Prop where
 c1:W.cell? ⟨gw,1,none⟩=some wv
 r0:W.rangeAt G 0 RO
def Ik (w0:World) (B gw K n N:Nat) (hsb:List (List Int)) (es:List En) (ws hs:List Bs) (hv:Value) (x:Oj) (ev:Ending) (w':World):Prop :=
 ev=.returned (.tuple #[])/\∃ e dp ov wv,Wt w0 w' B gw K N (es++[e]) (ws++[⟨x,off es es.length,dp⟩]) hs ov wv hv/\Cd K hsb es x e dp/\Sh es hs x 2 e
set_option maxHeartbeats 8000000 in
theorem qzk (K n N B gw:Nat) (hK:1<=K/\K<=4) (hn0:0<n) (hn:n<=20000) (hsb:List (List Int)) (es:List En) (ws hs:List Bs) (ov wv hv:Value) (x:Oj) (xs:List Oj) (w0 w:World) (hB:B<=w0.heap.size) (hW:Wt w0 w B gw K N es ws hs ov wv hv) (hP:Wp K n hsb es ws hs) (hG:Gd B w0 n xs) (hx:x ∈ xs) (hwr:∀ y ∈ ws,y.x ∈ xs) (hhs:∀ y ∈ hs,y.x ∈ xs) (hlen:off es es.length<=250000) (hfew:es.length<=100) (hhf:hs.length<=100) :
    Calls prog 19 #[.pointer (some ⟨gw,0,none⟩),.agg (yQ K x).toArray] w (Ik w0 B gw K n N hsb es ws hs hv x):=by
  have hxm:∀ W,Below B w0 W->Om n W x:=fun W h=>hG.om W h x hx
  obtain⟨at_,HAT⟩:=nm_ (off es es.length)
  have hat:at_<=250000:=by rw[<-HAT.out];exact hlen
  obtain⟨ao,co,hov,-⟩:=xW hW.out
  rw[j0,HAT.out] at hov
  subst hov
  obtain⟨aw,cw,hwv,hPw,hwb,-⟩:=Bx.px (d:=dB) hW.wr (kj K ws)
  obtain⟨ah,ch,hhv,hPh,hhb,-⟩:=Bx.px (d:=dB) hW.hs (kj K hs)
  obtain⟨m,HM⟩:=nm_ ws.length
  obtain⟨p,HPp⟩:=nm_ hs.length
  rw[HM.out] at hwv
  rw[HPp.out] at hhv
  subst hwv
  subst hhv
  have HWT:=hid hW
  have hxw:=hxm w hW.out.below
  have hxl:x.zs.length=n:=hxw.len
  have hxB:x.b<w.heap.size:=hxw.lt
  obtain⟨G,HGw⟩:=nm_ w.heap.size
  have hBG:B<=G:=by rw[<-HGw.out];exact hW.out.le
  obtain⟨RO,HRO⟩:=nm_ (yQ K x)
  have hi27:(prog.info? 27).map (·.size)=some RO.length:=by rw[<-HRO.out];exact vK
  obtain⟨w1,HW1⟩:=nm_ (w.alloc (.cells RO.toArray 27))
  have hb1:Below w.heap.size w w1:=by rw[<-HW1.out];exact(Below.refl _ w).alloc (WzV _) _
  have HR1:Hid (w1.heap[G]? = some (.cells RO.toArray 27 (0,0))):=hid (by rw[<-HW1.out,<-HGw.out];exact heap_alloc_new _ _)
  have HWT1:=hid (hW.go hb1)
  have c0:(w.alloc (.cells RO.toArray 27)).cell? ⟨gw,0,none⟩=some (.slice ao at_ co):=by rw[HW1.out,cell_of_row _ _ 0 _ _ _ HWT1.out.box];rfl
  have g0:(w.alloc (.cells RO.toArray 27)).cell? ⟨w.heap.size,0,none⟩=some (.int .i64 K):=by rw[HW1.out,HGw.out,cell_of_row _ _ 0 _ _ _ HR1.out,<-HRO.out];rfl
  have g1:(w.alloc (.cells RO.toArray 27)).cell? ⟨w.heap.size,1,none⟩=some (.slice (some ⟨x.b,x.o,none⟩) n x.c):=by rw[HW1.out,HGw.out,cell_of_row _ _ 1 _ _ _ HR1.out,<-HRO.out,<-hxl];rfl
  obtain⟨RH,HRH⟩:=nm_ (hdV K 0 0 z20)
  have HBU:Hid (prog.built 70 [(0,.int .i64 K)]=some RH.toArray):=hid (by rw[zzQ,<-HRH.out];rfl)
  have HB1:Hid (Below B w0 w1):=hid (HWT1.out.out.below)
  have C1:Hid (Calls prog 36 #[.agg RH.toArray,.slice (some ⟨x.b,x.o,none⟩) n x.c] w1 (S7 w1 K 0 z20 x.zs)):=hid (by
    have h:=hxm w1 HB1.out
    have:=Hy K 0 0 z20 x.zs x.b x.o x.c w1 (by omega) (by omega) rfl VJ h.isb (by omega) h.at_ h.lt h.cap (hG.tw w1 HB1.out)
    rw[<-HRH.out,<-hxl]
    exact this)
  have HGD:=hid hG
  have HXM:=hid hxm
  have HPP:=hid hP
  have HXL:=hid hxl
  have HWR:=hid hwr
  have HHS:=hid hhs
  have HPW:=hid hPw
  have HPH:=hid hPh
  have HKK:=hid hK
  rw[HRO.out]
  clear hW hb1 hlen hxm hxw hG hP hwr hhs hPw hPh hwb hhb hK hxl
  go_enter func19,ntmps19
  go_wp2_with (first
    | (refine vV rfl 70 _ rfl RH.toArray (by simp only[List.map_toArray,List.map_cons,List.map_nil];exact HBU.out) ?_)
    | fail)
  rw[HW1.out,HGw.out]
  refine C1.out.mono ?_
  rintro ev w2 ⟨v2,z0,rfl,hz0,hb2⟩
  obtain⟨e0,HE0⟩:=nn_ (⟨K,0,z20,x.zs,z0,x.zs⟩:En)
  have hb2':Bd w1 w2 w1.heap.size v2 (enb e0):=by rw[HE0.out];exact hb2
  obtain⟨a2,c2,rfl,hS2⟩:=xW hb2'
  have HCD0:Hid (Cd K hsb es x e0 0):=hid (by
    have h:=HXM.out w1 HB1.out
    have hxl:=HXL.out
    rw[HE0.out]
    have hK:=HKK.out
    refine⟨⟨hz0,h.isb,by show x.zs.length<=30000;omega,rfl,VJ,h.isb,by show x.zs.length<=20000;omega,.inl ⟨rfl,rfl,rfl,rfl⟩⟩,rfl,⟨z0,hz0,?_⟩,by omega,fun _=>by omega⟩
    unfold enb hdb
    simp only[Wz6]
    rw[if_neg (by omega),if_neg (by omega)]
    have:=Ww K x.zs.length (by omega)
    simp only[List.length_nil]
    omega)
  have hWT2:=HWT1.out.go hb2.below
  have HR2:Hid (w2.heap[G]? = some (.cells RO.toArray 27 (0,0))):=hid ((hb2.below.block _ (lt_of_some HR1.out)).trans HR1.out)
  have hSd:S3 gw (.slice aw m cw) (.slice ah p ch) w2.drew:=⟨(show w2.drew.cell? _=w2.cell? _ from rfl).trans (by rw[cell_of_row _ _ 1 _ _ _ hWT2.box];rfl),(show w2.drew.cell? _=w2.cell? _ from rfl).trans (by rw[cell_of_row _ _ 2 _ _ _ hWT2.box];rfl)⟩
  have hbd2:Below w2.heap.size w2 w2.drew:=zk (Below.refl _ w2) 1
  have HWT2:=hid (hWT2.go hbd2)
  have HS2:=hid (hS2.below hbd2)
  have HRD2:Hid (w2.drew.heap[G]? = some (.cells RO.toArray 27 (0,0))):=HR2
  clear hz0 hb2 hb2' hS2 hWT2 hbd2 c0 g0 g1 HR2
  go_wp2_with fail
  refine wp_region_held_drew (S:=S3 gw (.slice aw m cw) (.slice ah p ch)) (by kernel_rfl) hSd (fun hHeld=>?_)
  clear hSd
  generalize w2.drew=u0 at hHeld HWT2 HS2 HRD2 ⊢
  iterate 8 (refine qk hHeld ?_;try simp only[Act.put,sL])
  refine kw 10 hHeld ?_
  try simp only[Act.put,sL]
  obtain⟨gl,HGL⟩:=nm_ u0.heap.size
  obtain⟨u,HU⟩:=nm_ (u0.alloc (.cells #[.slice ah p ch,.slice aw m cw] 56))
  have hbu:Below u0.heap.size u0 u:=by rw[<-HU.out];exact(Below.refl _ u0).alloc (WzV _) _
  have HRL:Hid (u.heap[gl]? = some (.cells #[.slice ah p ch,.slice aw m cw] 56 (0,0))):=hid (by rw[<-HU.out,<-HGL.out];exact heap_alloc_new _ _)
  have HWU:=hid (HWT2.out.go hbu)
  have HSU:=hid (HS2.out.below hbu)
  have HRU:Hid (u.heap[G]? = some (.cells RO.toArray 27 (0,0))):=hid ((hbu.block _ (lt_of_some HRD2.out)).trans HRD2.out)
  have hS3u:S3 gw (.slice aw m cw) (.slice ah p ch) u:=⟨by rw[cell_of_row _ _ 1 _ _ _ HWU.out.box];rfl,by rw[cell_of_row _ _ 2 _ _ _ HWU.out.box];rfl⟩
  have hr97:=run97 ah aw p m ch cw u0
  rw[HU.out,HGL.out] at hr97
  refine wpAnyH_ready (rs:=[8]) (by kernel_rfl) (by simp) ?_
  refine Dl.consL rfl (fun KK hKK=>?_) AllReadyH.nil
  refine Dl.step_exec (by rfl) (.slice (some ⟨gl,0,none⟩) 2 2) (zvu 97 2 (.tmp 25) (.tmp 29) (by rfl) (.slice ah p ch) (.slice aw m cw) _ (by rfl) (by rfl) hr97) ?_
  refine hKK.out _ _ hS3u (fun _=>?_)
  clear hKK KK hHeld hr97
  try simp only[Act.put,sL]
  refine qk hS3u ?_
  try simp only[Act.put,sL]
  refine wpAnyH_done (by kernel_rfl) ?_ _
  clear hS3u hbu
  have HGU:Hid (G<u.heap.size):=lt_of_some HRU.out
  have HBU2:Hid (∀ W,Sb u W->Below B w0 W):=hid (fun W h=>(HWU.out.go h.b).out.below)
  have HO:Hid (∀ W,Sb u W->W.rangeAt G 0 RO):=hid (fun W h=>h.rg (zx HRU.out) HGU.out)
  have HLB:Hid (∀ i,i<2->∃ (bs:List Bs) (ab:Option Addr) (cb:Nat),u.cell? ⟨gl,i,none⟩=some (.slice ab bs.length cb)/\Lb K n at_ hsb es hs x u i ab cb bs):=hid (fun i hi=>by
    have hP:=HPP.out
    have hx:=HXM.out w1 HB1.out
    have hxl:=HXL.out
    match i,hi with
    | 0,_ =>
      obtain⟨a',c',e',hP',_,_⟩:=Bx.px (d:=dB) HWU.out.hs (kj K hs)
      refine⟨hs,a',c',by rw[<-e',cell_of_row _ _ 0 _ _ _ HRL.out];rfl,hP',fun y hy=>?_,fun y hy W h=>HGD.out.om W (HBU2.out W h) _ (HHS.out y hy),by omega,fun y hy=>?_,fun h e _=>⟨fun _ y hy=>?_,fun h=>by omega⟩,fun y hy e h1 h2=>⟨fun _ y' hy'=>?_,fun h=>by omega⟩⟩
      · obtain⟨h1,h2,h3⟩:=hP.hx y hy
        exact⟨(HGD.out.om u (HBU2.out u (Sb.refl u)) _ (HHS.out y hy)).len,by omega,.inl h2⟩
      · have h:=qzz (n:=n) hP hx.isb (by omega) (List.mem_of_mem_head? hy)
        rw[HAT.out] at h
        exact⟨_,_,_,h⟩
      · rw[List.length_eq_zero_iff.1 h] at hy;cases hy
      · rw[hy] at hy';cases hy';exact h1
    | 1,_ =>
      obtain⟨a',c',e',hP',_,_⟩:=Bx.px (d:=dB) HWU.out.wr (kj K ws)
      have hl:=hP.len
      refine⟨ws,a',c',by rw[<-e',cell_of_row _ _ 1 _ _ _ HRL.out];rfl,hP',fun y hy=>?_,fun y hy W h=>HGD.out.om W (HBU2.out W h) _ (HWR.out y hy),by omega,fun y hy=>?_,fun h e h2=>⟨fun _=>h2.s1 (by omega),fun _ h3=>by omega⟩,fun y hy e h1 h2=>⟨fun _=>h2.s1 (by omega),fun _ h3 h4=>?_⟩⟩
      · obtain⟨j,hj,rfl⟩:=List.getElem_of_mem hy
        have e:ws.getD j dB=ws[j]:=by rw[List.getD_eq_getElem?_getD,List.getElem?_eq_getElem hj];rfl
        obtain⟨h1,h2,h3⟩:=hP.wx j (by omega)
        rw[e] at h1 h2 h3
        refine⟨(HGD.out.om u (HBU2.out u (Sb.refl u)) _ (HWR.out _ hy)).len,by omega,.inr ?_⟩
        rw[h2]
        have:=off_le es j (by omega)
        have:=HAT.out
        omega
      · have h0:0<ws.length:=by cases ws with | nil=>cases hy | cons _ _=>simp
        have e:=G7 h0
        rw[hy] at e
        cases e
        have h:=qx8 (n:=n) hP hx.isb (by omega) (by omega) (by rw[HAT.out];exact hat)
        rw[HAT.out] at h
        exact⟨_,_,_,h⟩
      · have h0:0<ws.length:=by cases ws with | nil=>cases hy | cons _ _=>simp
        have e:=G7 h0
        rw[hy] at e
        cases e
        refine h1 ?_
        rw[(hP.wx 0 h3).1]
        exact h4)
  have HTM:Hid (∀ W,Sb u W->Df.TabsW W/\Tab W):=hid (fun W h=>⟨HGD.out.tw W (HBU2.out W h),HGD.out.tb W (HBU2.out W h)⟩)
  go_wp2_with fail
  go_loopg [5,6,32] 2 (fun g bv dv iv wr=>∃ (i dp:Nat) (e:En) (a:Option Addr) (c:Nat),iv=.int .i64 i/\g=2-i/\i<=2/\bv=.slice a (enb e).length c/\dv=.int .i64 dp/\Hid (Sb u wr)/\Hid (Sl wr a c (enb e))/\Hid (Cd K hsb es x e dp)/\Hid (Sh es hs x i e))
  case atStart=>exact⟨0,0,e0,a2,c2,rfl,rfl,by omega,rfl,rfl,Sb.refl u,HSU.out,HCD0.out,⟨fun h=>by omega,fun h=>by omega⟩⟩
  case round =>
    obtain⟨i,dp,e,a,c,rfl,hg,hi2,rfl,rfl,HSB,HSL,HCD,HSH⟩:=hrel
    obtain⟨el,HEL⟩:=nm_ ((enb e).length)
    rw[HEL.out]
    by_cases hlt:i<2
    · have hltI:(i:Int)<2:=by omega
      obtain⟨bs,ab,cb,hcl,hLb⟩:=HLB.out i hlt
      have HLb:=hid hLb
      obtain⟨bl,HBL⟩:=nm_ bs.length
      rw[HBL.out] at hcl
      have hcz:wr.cell? ⟨gl,i,none⟩=some (.slice ab bl cb):=(HSB.out.b.cell (p:=⟨gl,i,none⟩) (lt_of_some HRL.out)).trans hcl
      have hro:wr.rangeAt G 0 RO:=HO.out wr HSB.out
      have CN:Hid (Calls prog 37 #[.slice ab bl cb,.agg RO.toArray,.int .i64 at_] wr fun e w'=>e=.returned (.pointer (fst ab bs))/\Below wr.heap.size wr w'):=hid (by
        rw[<-HBL.out,<-HRO.out]
        exact DJ K n at_ ab cb bs x wr (HLb.out.px.below HSB.out.b) HLb.out.ok HXL.out (by omega) (by omega) HLb.out.few)
      clear hLb hcl
      by_cases h0:bl=0
      · have HF:Hid (fst ab bs=none):=hid (by unfold fst;rw[HBL.out,if_pos h0])
        rw[HF.out] at CN
        subst h0
        go_wp2_with (first
          | (refine wpList_load_mid rfl 27 _ rfl G 0 rfl RO _ hro underlying27 rfl hi27 ?_)
          | (go_at_call 37;refine CN.out.mono ?_;rintro ev w5 ⟨rfl,hb5⟩;have HB5:=hid hb5;clear hb5 CN)
          | fail)
        go_roundg (2-(i+1))
        case measure=>omega
        case rel=>exact⟨i+1,dp,e,a,c,by go_num,rfl,by omega,by rw[HEL.out],rfl,HSB.out.go HB5.out,HSL.out.below HB5.out,HCD.out,HLb.out.no HBL.out e HSH.out⟩
      · obtain⟨gb,go,ha',hgb,hpr⟩:=HLb.out.px.at_ (by rw[HBL.out];omega)
        subst ha'
        have hhd:=G7 (bs:=bs) (by rw[HBL.out];omega)
        obtain⟨y,HY⟩:=nm_ (bs.getD 0 dB)
        rw[HY.out] at hhd
        have hym:y ∈ bs:=by rw[<-HY.out];exact zV bs 0 dB (by rw[HBL.out];omega)
        have hyr:u.rangeAt gb go (kz K y):=by
          have:=hpr 0 (by rw[HBL.out];omega)
          rw[Nat.zero_mul,Nat.add_zero,HY.out] at this
          exact this
        obtain⟨k,d,id,hsrc⟩:=HLb.out.src y hhd
        have HSRC:=hid hsrc
        have HYR:=hid hyr
        have HGB:=hid hgb
        have HYM:Hid (∀ W,Sb u W->Om n W y.x):=hid (HLb.out.om y hym)
        have HYES:=hid (HLb.out.yes y hhd)
        have HF:Hid (fst (some (⟨gb,go,none⟩:Addr)) bs=some ⟨gb,go,none⟩):=hid (by unfold fst;rw[if_neg (by rw[HBL.out];exact h0)])
        rw[HF.out] at CN
        have hyl:y.x.zs.length=n:=(HYM.out u (Sb.refl u)).len
        have HYL:=hid hyl
        clear hpr hsrc hyr hgb hym hhd hyl
        go_wp2_with (first
          | (refine wpList_load_mid rfl 27 _ rfl G 0 rfl RO _ hro underlying27 rfl hi27 ?_)
          | (go_at_call 37;refine CN.out.mono ?_;rintro ev w5 ⟨rfl,hb5⟩;have HB5:Hid (Sb u w5):=hid (HSB.out.go hb5);have HL5:Hid (Sl w5 a c (enb e)):=hid (HSL.out.below hb5);clear hb5 CN)
          | fail)
        have hbd:Below w5.heap.size w5 w5.drew:=zk (Below.refl _ w5) 1
        have hSd:S8 u gb go G (.slice (some ⟨y.x.b,y.x.o,none⟩) n y.x.c) (.slice (some ⟨x.b,x.o,none⟩) n x.c) w5.drew:=by
          have h:=HB5.out.go hbd
          refine⟨h,?_,?_⟩
          · have:=h.rg HYR.out HGB.out 1 _ rfl
            rw[<-HYL.out];exact this
          · have:=HO.out _ h 1 (slO x) (by rw[<-HRO.out];rfl)
            rw[<-HXL.out]
            rw[Nat.zero_add] at this
            exact this
        have HL6:Hid (Sl w5.drew a c (enb e)):=hid (HL5.out.below hbd)
        refine wp_region_held_drew (S:=S8 u gb go G (.slice (some ⟨y.x.b,y.x.o,none⟩) n y.x.c) (.slice (some ⟨x.b,x.o,none⟩) n x.c)) (by kernel_rfl) hSd (fun hHeld=>?_)
        clear hSd hbd
        generalize w5.drew=v0 at hHeld HL6 ⊢
        iterate 2 (refine qk hHeld ?_;try simp only[Act.put,sL])
        refine kw 3 hHeld ?_
        try simp only[Act.put,sL]
        refine kw 4 hHeld ?_
        try simp only[Act.put,sL]
        refine kw 5 hHeld ?_
        try simp only[Act.put,sL]
        refine kw 6 hHeld ?_
        try simp only[Act.put,sL]
        refine kw 7 hHeld ?_
        try simp only[Act.put,sL]
        refine kw 8 hHeld ?_
        try simp only[Act.put,sL]
        refine kw 9 hHeld ?_
        try simp only[Act.put,sL]
        obtain⟨RD,HRD⟩:=nm_ (hdV k 0 d id)
        have C38:Hid (Calls prog 38 #[.pointer (some ⟨gb,go,none⟩),.int .i64 at_] v0 fun e w'=>e=.returned (.agg RD.toArray)/\Below v0.heap.size v0 w'):=hid (by
          rw[<-HRD.out]
          exact GW K n gb go at_ k d id y v0 HKK.out hn HSRC.out.hd (hHeld.s.rg HYR.out HGB.out) (Wqj HGB.out hHeld.s.b.size) (HYM.out v0 hHeld.s) (by omega) (HTM.out v0 hHeld.s).2)
        refine wpAnyH_ready (rs:=[2]) (by kernel_rfl) (by simp) ?_
        refine Dl.consL rfl (fun KK hKK=>?_) AllReadyH.nil
        refine yz (by rfl) 38 [.tmp 42,.tmp 43] _ [.pointer (some ⟨gb,go,none⟩),.int .i64 at_] _ rfl rfl (qzq _ _) C38.out ?_
        rintro e' v1 ⟨rfl,hb1⟩
        refine⟨_,rfl,?_⟩
        have h1:=hHeld.go HGB.out HGU.out hb1
        have HL7:Hid (Sl v1 a c (enb e)):=hid (HL6.out.below hb1)
        refine hKK.out _ _ h1 (fun _=>?_)
        clear hKK KK hHeld hb1 C38 HL6
        try simp only[Act.put,sL]
        have C39:Hid (Calls prog 39 #[.slice (some ⟨y.x.b,y.x.o,none⟩) n y.x.c,.slice (some ⟨x.b,x.o,none⟩) n x.c] v1 (Dl.PostM v1 y.x.zs x.zs)):=hid (by
          have hy:=HYM.out v1 h1.s
          have hx:=HXM.out v1 (HBU2.out v1 h1.s)
          have:=Dl.make_any (some ⟨y.x.b,y.x.o,none⟩) (some ⟨x.b,x.o,none⟩) y.x.c x.c y.x.zs x.zs v1 (XY hy.isb) (XY hx.isb) (by rw[HYL.out];omega) (by rw[HXL.out];omega) (I3 (DK hy)) (I3 (DK hx)) (fun p hp=>by cases hp;exact hy.lt) (fun p hp=>by cases hp;exact hx.lt)
          rw[HYL.out,HXL.out] at this
          exact this)
        refine wpAnyH_ready (rs:=[10]) (by kernel_rfl) (by simp) ?_
        refine Dl.consL rfl (fun KK hKK=>?_) AllReadyH.nil
        refine yz (by rfl) 39 [.tmp 49,.tmp 51] _ [.slice (some ⟨y.x.b,y.x.o,none⟩) n y.x.c,.slice (some ⟨x.b,x.o,none⟩) n x.c] _ rfl rfl (qzx _ _) C39.out ?_
        rintro e' v2 ⟨pre,bg,rv,rfl,hcu,hown,hbl⟩
        obtain⟨raw,HRAW⟩:=nm_ (Dl.Plain.mk y.x.zs x.zs pre bg)
        have hml:=Dl.Plain.mk_len hcu (by rw[HYL.out];omega) (by rw[HXL.out];omega)
        have hmi:=qz9 (Dl.mk_isB hcu (XY (HXM.out v1 (HBU2.out v1 h1.s)).isb) (by rw[HYL.out];omega) (by rw[HXL.out];omega))
        have hma:=Dl.Plain.mk_app hcu (XY (HXM.out v1 (HBU2.out v1 h1.s)).isb) (by rw[HYL.out];omega) (by rw[HXL.out];omega)
        rw[HRAW.out] at hown hml hmi hma
        have hrb:Bd v1 v2 v1.heap.size rv raw:=⟨hbl,hown,hbl.size⟩
        have hr0:0<raw.length:=by
          rw[<-HRAW.out]
          unfold Dl.Plain.mk
          rw[Wz6]
          have:0<(Dl.Plain.szw y.x.zs.length).length:=by
            unfold Dl.Plain.szw
            rw[Dl.Plain.wsz]
            split <;> simp
          omega
        obtain⟨rg,rc,rfl,rb1,rb2,rat,rcap⟩:=LZ hrb hr0
        have h2:=h1.go HGB.out HGU.out hbl
        have HL8:Hid (Sl v2 a c (enb e)):=hid (HL7.out.below hbl)
        have HCU:=hid hcu
        have hrl:raw.length<=30000:=by rw[HXL.out] at hml;omega
        have C36:Hid (Calls prog 36 #[.agg RD.toArray,.slice (some ⟨rg,0,none⟩) raw.length rc] v2 (S7 v2 k d id raw)):=hid (by
          rw[<-HRD.out]
          exact Hy k 0 d id raw rg 0 rc v2 (by rcases HSRC.out.k8 with h | h <;> omega) HSRC.out.dl HSRC.out.il HSRC.out.ib hmi (by omega) rat rb2 rcap (HTM.out v2 h2.s).1)
        have HRP:Hid (IsB raw/\raw.length<=30000/\Dl.Plain.app y.x.zs raw=some x.zs):=hid ⟨hmi,hrl,hma⟩
        obtain⟨rl,HRLn⟩:=nm_ raw.length
        rw[HRLn.out] at C36 ⊢
        refine⟨_,rfl,?_⟩
        refine hKK.out _ _ h2 (fun _=>?_)
        clear hKK KK h1 C39 HL7 hown hml hmi hma hrb hr0 rb1 rb2 rat rcap hrl hcu hbl
        try simp only[Act.put,sL]
        refine wpAnyH_ready (rs:=[11]) (by kernel_rfl) (by simp) ?_
        refine Dl.consL rfl (fun KK hKK=>?_) AllReadyH.nil
        refine yz (by rfl) 36 [.tmp 44,.tmp 52] _ [.agg RD.toArray,.slice (some ⟨rg,0,none⟩) rl rc] _ rfl rfl (qzj _ _) C36.out ?_
        rintro e' v3 ⟨ev,z,rfl,hz,hbe⟩
        obtain⟨e2,HE2⟩:=nn_ (⟨k,d,id,raw,z,x.zs⟩:En)
        have hbe':Bd v2 v3 v2.heap.size ev (enb e2):=by rw[HE2.out];exact hbe
        obtain⟨a3,c3,rfl,hS3⟩:=xW hbe'
        have h3:=h2.go HGB.out HGU.out hbe.below
        have HL9:Hid (Sl v3 a c (enb e)):=hid (HL8.out.below hbe.below)
        have HS9:=hid hS3
        have HS3':Hid (Sb u v3):=hid h3.s
        have HZ:=hid hz
        obtain⟨el2,HEL2⟩:=nm_ ((enb e2).length)
        rw[HEL2.out]
        refine⟨_,rfl,?_⟩
        refine hKK.out _ _ h3 (fun _=>?_)
        clear hKK KK h2 C36 HL8 hbe hbe' hS3 hz
        try simp only[Act.put,sL]
        refine qk h3 ?_
        try simp only[Act.put,sL]
        refine wpAnyH_done (by kernel_rfl) ?_ _
        clear h3
        have HSHT:Hid (One y.x.zs x.zs->(enb e2).length<=90):=hid (fun ho=>by
          have hz:=HZ.out
          rw[<-HRAW.out] at hz
          rw[HE2.out,<-HRAW.out]
          exact zzy HSRC.out HCU.out hz (by rw[HYL.out];exact hn) ho)
        by_cases hlt2:el2<el
        · have hlt2I:(el2:Int)<el:=by omega
          have HCD2:Hid (Cd K hsb es x e2 (y.dp+1)):=hid (by
            have h:=HEL2.out
            rw[HE2.out] at h ⊢
            exact HCD.out.try HSRC.out HZ.out HRP.out.1 HRP.out.2.1 HRP.out.2.2 (by rw[h,HEL.out];exact hlt2))
          have HSH2:Hid (Sh es hs x (i+1) e2):=hid (HYES.out e2 HSHT.out (HSH.out.le (by rw[HEL2.out,HEL.out];omega)))
          go_wp2_with fail
          have hbd:Below v3.heap.size v3 v3.drew:=zk (Below.refl _ v3) 1
          have HSq:Hid (Sb u v3.drew):=hid (HS3'.out.go hbd)
          have HSl:Hid (Sl v3.drew a3 c3 (enb e2)):=hid (HS9.out.below hbd)
          have hSd:S10 gb go y.dp v3.drew:=⟨HSq.out.rg HYR.out HGB.out 3 _ rfl⟩
          have hdp:y.dp+1<=2:=HSRC.out.dp
          obtain⟨yd,HYD⟩:=nm_ y.dp
          rw[HYD.out] at hSd hdp
          refine wp_region_held_drew (S:=S10 gb go yd) (by kernel_rfl) hSd (fun hHeld=>?_)
          clear hSd hbd
          generalize v3.drew=v4 at hHeld HSq HSl ⊢
          iterate 8 (refine qk hHeld ?_;try simp only[Act.put,sL])
          refine wpAnyH_done (by kernel_rfl) ?_ _
          clear hHeld
          go_wp2_with fail
          go_roundg (2-(i+1))
          case measure=>omega
          case rel=>exact⟨i+1,y.dp+1,e2,a3,c3,by go_num,rfl,by omega,by rw[HEL2.out],by rw[HYD.out];congr 1;rw[IntKind.wrap_i64];push_cast;omega,HSq.out,HSl.out,HCD2.out,HSH2.out⟩
        · have hlt2I:¬ (el2:Int)<el:=by omega
          have HSH2:Hid (Sh es hs x (i+1) e):=hid (HYES.out e (fun ho=>by
            have:=HSHT.out ho
            rw[HEL2.out] at this
            rw[HEL.out]
            omega) HSH.out)
          go_wp2_with fail
          go_roundg (2-(i+1))
          case measure=>omega
          case rel=>exact⟨i+1,dp,e,a,c,by go_num,rfl,by omega,by rw[HEL.out],rfl,HS3'.out,HL9.out,HCD.out,HSH2.out⟩
    · have hltI:¬ (i:Int)<2:=by omega
      obtain rfl:i=2:=by omega
      have hWc:=HWU.out.go HSB.out.b
      have HWc:=hid hWc
      have c0:wr.cell? ⟨gw,0,none⟩=some (.slice ao at_ co):=by rw[cell_of_row _ _ 0 _ _ _ hWc.box];rfl
      have HGW:Hid (G ≠ gw):=hid (fun h=>by have:=lt_of_some HWT.out.box;have:=HGw.out;omega)
      have HGO:Hid (some G ≠ (Value.slice ao at_ co).ownBlock):=hid (fun h=>by have:=(zJ HWT.out.out.own G h.symm).2;have:=HGw.out;omega)
      have hpl:(pkb N es).length=at_:=by rw[j0];exact HAT.out
      have HPL:=hid hpl
      have hel:el<=100000:=by
        obtain⟨z,h1,h2⟩:=HCD.out.pl
        have h3:=h1.le (by rw[HXL.out];omega)
        rw[HXL.out] at h3
        have:=HEL.out
        omega
      have hsum:(pkb N es).length+(enb e).length<=1000000:=by rw[hpl,HEL.out];omega
      obtain⟨ll,HLL⟩:=nm_ ((pkb N es++enb e).length)
      clear hWc hpl
      go_wp2_with (first
        | (at_builtin;refine GY rfl _ _ rfl B (.slice ao at_ co) (pkb N es) rfl HWc.out.out a c (enb e) (by rw[HEL.out];rfl) HSL.out hsum ?_
           intro ov' w6 hb6 hg6 hm6
           obtain⟨a6,c6,hov6,-⟩:=xW hb6
           rw[HLL.out] at hov6
           subst hov6
           have hbx:w6.heap[gw]? = some (.cells #[.slice ao at_ co,.slice aw m cw,.slice ah p ch] 58 (0,0)):=(hg6.block _ (lt_of_some HWc.out.box) (fun h=>HWc.out.n1 h.symm)).trans HWc.out.box
           have hc6:w6.cell? ⟨gw,0,none⟩=some (.slice ao at_ co):=by rw[cell_of_row _ _ 0 _ _ _ hbx];rfl
           have hf6:w6.frozen? ⟨gw,0,none⟩=false:=frozen_of_row _ _ 0 _ 58 hbx
           have HW7:Hid (Wt w0 (w6.setCell ⟨gw,0,none⟩ (.slice a6 ll c6)) B gw K N (es++[e]) ws hs (.slice a6 ll c6) (.slice aw m cw) (.slice ah p ch)):=hid (HWc.out.put0 hb6 hg6 hm6)
           have HRG7:Hid ((w6.setCell ⟨gw,0,none⟩ (.slice a6 ll c6)).heap[G]? = some (.cells RO.toArray 27 (0,0))):=hid (by
             refine(heap_setCell_other _ _ _ _ HGW.out).trans ((hg6.block _ (Wqj HGU.out HSB.out.b.size) HGO.out).trans ((HSB.out.b.block _ HGU.out).trans HRU.out)))
           clear hb6 hg6 hm6 hbx c0)
        | fail)
      have hbd:Below (w6.setCell ⟨gw,0,none⟩ (.slice a6 ll c6)).heap.size (w6.setCell ⟨gw,0,none⟩ (.slice a6 ll c6)) (w6.setCell ⟨gw,0,none⟩ (.slice a6 ll c6)).drew:=zk (Below.refl _ _) 1
      have HW8:=hid (HW7.out.go hbd)
      have HRG8:Hid ((w6.setCell ⟨gw,0,none⟩ (.slice a6 ll c6)).drew.heap[G]? = some (.cells RO.toArray 27 (0,0))):=HRG7
      have hHeld0:S13 gw G (.slice aw m cw) RO (w6.setCell ⟨gw,0,none⟩ (.slice a6 ll c6)).drew:=⟨by rw[cell_of_row _ _ 1 _ _ _ HW8.out.box];rfl,zx HRG8.out⟩
      refine Dl.region_U (S13 gw G (.slice aw m cw) RO) 13 (by kernel_rfl) ?_
      generalize (w6.setCell ⟨gw,0,none⟩ (.slice a6 ll c6)).drew=v0 at hHeld0 HW8 HRG8 ⊢
      clear HW7 HRG7 hbd
      refine zK 0 hHeld0 ?_
      try simp only[Act.put,sL]
      refine zK 1 hHeld0 ?_
      try simp only[Act.put,sL]
      refine zK 2 hHeld0 ?_
      try simp only[Act.put,sL]
      refine zK 3 hHeld0 ?_
      try simp only[Act.put,sL]
      refine zK 4 hHeld0 ?_
      try simp only[Act.put,sL]
      refine Dl.takeU (i:=5) (v:=.agg RO.toArray) rfl (by kernel_rfl) (by kernel_rfl) (by kernel_rfl) (by kernel_rfl) (fun _ _ _ h=>h) (yieldsIf_load_mid (by rfl) 27 _ rfl G 0 (by rfl) RO _ (fun _ h=>h.r0) underlying27 rfl hi27) hHeld0 ?_
      try simp only[Act.put,sL]
      refine zK 6 hHeld0 ?_
      try simp only[Act.put,sL]
      refine zK 7 hHeld0 ?_
      try simp only[Act.put,sL]
      obtain⟨YB,HYB⟩:=nm_ (kz K ⟨x,at_,dp⟩)
      have hr95:∀ w:World,(Instr.build 95 #[(0,.agg RO.toArray),(1,.int .i64 at_),(2,.int .i64 dp)]).run prog w=.ok (.agg YB.toArray) w:=fun w=>by rw[<-HRO.out,<-HYB.out];exact run95 K x at_ dp w
      refine Dl.takeU (i:=8) (v:=.agg YB.toArray) rfl (by kernel_rfl) (by kernel_rfl) (by kernel_rfl) (by kernel_rfl) (fun _ _ _ h=>h) (Or.inl ⟨by rfl,fun w' _=>zvy 95 (.tmp 80) (.tmp 81) (.tmp 82) (by rfl) _ _ _ _ (by rfl) (by rfl) (by rfl) (hr95 w')⟩) hHeld0 ?_
      try simp only[Act.put,sL]
      obtain⟨v1,HV1⟩:=nm_ (v0.alloc (.cells YB.toArray 95))
      have hb1:Below v0.heap.size v0 v1:=by rw[<-HV1.out];exact(Below.refl _ v0).alloc (WzV _) _
      have hr56:(Instr.buildSlice 56 1 #[(0,.agg YB.toArray)]).run prog v0=.ok (.slice (some ⟨v0.heap.size,0,none⟩) 1 1) v1:=by rw[<-HV1.out,<-HYB.out];exact qqK K _ v0
      obtain⟨gs,HGS⟩:=nm_ v0.heap.size
      rw[HGS.out] at hr56
      have hS1:S13 gw G (.slice aw m cw) RO v1:=⟨by rw[cell_of_row _ _ 1 _ _ _ (HW8.out.go hb1).box];rfl,zx ((hb1.block _ (lt_of_some HRG8.out)).trans HRG8.out)⟩
      have HW9:=hid (HW8.out.go hb1)
      have hrs:v1.rangeAt gs 0 (kz K ⟨x,at_,dp⟩):=by
        rw[HYB.out,<-HV1.out,<-HGS.out]
        exact zx (heap_alloc_new _ _)
      obtain⟨wv',v2,hrun,hbx2,hg2,hm2⟩:=HW9.out.wr.app1 gs ⟨x,at_,dp⟩ hrs rfl (by decide) (DX K _) (by rw[HPP.out.len];omega) 56 underlying56 zvZ rfl (by decide) 56
      have hw3:=HW9.out.put1 hbx2 hg2 hm2
      have hbx9:v2.heap[gw]? = some (.cells #[.slice a6 ll c6,.slice aw m cw,.slice ah p ch] 58 (0,0)):=(hg2.block _ (lt_of_some HW9.out.box) (fun h=>HW9.out.n2 h.symm)).trans HW9.out.box
      obtain⟨a7,c7,hwv7,-,-,-⟩:=Bx.px (d:=dB) hbx2 (kj K _)
      obtain⟨l7,HL7⟩:=nm_ ((ws++[(⟨x,at_,dp⟩:Bs)]).length)
      rw[HL7.out] at hwv7
      subst hwv7
      have hS2:S13 gw G (.slice aw m cw) RO v2:=by
        refine⟨by rw[cell_of_row _ _ 1 _ _ _ hbx9];rfl,?_⟩
        have hG1:G<v1.heap.size:=Wqj (lt_of_some HRG8.out) hb1.size
        have e1:v1.heap[G]? = some (.cells RO.toArray 27 (0,0)):=(hb1.block _ (lt_of_some HRG8.out)).trans HRG8.out
        exact zx ((hg2.block _ hG1 (fun h=>by
          have:=(zJ HWT.out.wr.own G h.symm).2
          have:=HGw.out
          omega)).trans e1)
      refine Dl.readyU1 (i:=9) (by kernel_rfl) ?_
      refine Dl.consU rfl (fun KK hKK=>?_)
      refine Dl.step_exec (by rfl) (.slice (some ⟨gs,0,none⟩) 1 1) (w':=v1) (xw 56 1 (.tmp 83) (by rfl) _ _ (by rfl) hr56) ?_
      refine hKK.out _ _ (.inr hS1) ?_
      clear hKK KK
      try simp only[Act.put,sL]
      refine Dl.readyU1 (i:=10) (by kernel_rfl) ?_
      refine Dl.consU rfl (fun KK hKK=>?_)
      refine Dl.step_exec (by rfl) (.slice a7 l7 c7) (w':=v2) (yy (.tmp 79) (.tmp 84) 56 (by rfl) (by rfl) (by rfl) hrun) ?_
      refine hKK.out _ _ (.inr hS2) ?_
      clear hKK KK
      try simp only[Act.put,sL]
      refine G6 11 12 hS2 ?_
      try simp only[Act.put,sL]
      refine zK 12 hS2 ?_
      try simp only[Act.put,sL]
      refine Dl.readyU1 (i:=13) (by kernel_rfl) ?_
      refine Dl.consU rfl (fun KK hKK=>?_)
      refine step_skip (by rfl) (u_7 56 zvQ (.tmp 87) (.tmp 85) (by rfl) ⟨gw,1,none⟩ (.slice a7 l7 c7) (.slice aw m cw) (by rfl) (by rfl) rfl rfl hS2.c1 (frozen_of_row _ _ 1 _ 58 hbx9)) ?_
      refine hKK.out _ _ (.inl rfl) ?_
      clear hKK KK
      try simp only[Act.put,sL]
      refine Dl.doneU (by kernel_rfl) ?_ _
      refine bodyPost_end (results_none (by rfl) _ _ _) rfl ?_
      refine⟨rfl,e,dp,.slice a6 ll c6,.slice a7 l7 c7,?_,HCD.out,HSH.out⟩
      rw[HAT.out]
      exact hw3
abbrev Po (K:Nat) (w:World) (a:Option Addr) (cap:Nat) (os:List Oj):Prop:=Pw (yQ K) 2 dO w a cap os
def ido (K:Nat) (x:Oj):List Int:=idZ K x.zs
theorem YJ (K:Nat) (x:Oj):IdW (ido K x):=⟨X7 _ _,Sz _ _⟩
theorem SZ:∀ x y:List Int,idV x=idV y->x=y:=fun _ _ h=>qz4 h
abbrev MI (w:World) (g n s:Nat) (M:List Int->Option Value):Prop:=FM 68 idV (.int .i64 0) w g n s M
set_option maxHeartbeats 8000000 in
theorem SX (K n:Nat) (hK:1<=K/\K<=4) (hn:n<=20000) (a:Option Addr) (cap:Nat) (os:List Oj) (w:World) (hP:Po K w a cap os) (hG:Gd w.heap.size w n os) (hd:∀ i j,i<j->j<os.length->ido K (os.getD i dO) ≠ ido K (os.getD j dO)) (hm:os.length<=1000) :
  Calls prog 17 #[.slice a os.length cap] w fun e w'=>e=.returned .nilIface/\Below w.heap.size w w':=by
 obtain⟨m,HM⟩:=nm_ os.length;obtain⟨G,HG⟩:=nm_ w.heap.size;have hm2:m<=1000:=by rw[<-HM.out];exact hm
 have HP:=hid hP;have HGD:=hid hG;have HD:=hid hd;have HKK:=hid hK;have hmk:∀ w:World,(Instr.makeMap 64 none).run prog w=.ok (.map (some w.heap.size)) (w.alloc (.map #[] 0)):=fun w=>by kernel_rfl
 obtain⟨w1,HW1⟩:=nm_ (w.alloc (.map #[] 0));have hb1:Below w.heap.size w w1:=by rw[<-HW1.out];exact(Below.refl _ w).alloc (WzV _) _
 have HB1:Hid (Below G w w1):=hid (by rw[<-HG.out];exact hb1);have HM1:Hid (MI w1 G 0 0 (fun _=>none)):=hid (by rw[<-HW1.out,<-HG.out];exact JW 68 idV (.int .i64 0) w);obtain⟨zr,HZ⟩:=nm_ ((row .u8 z20).toArray);have hz68:∀ w:World,(zeroValue 68).run prog w=.ok (.agg zr) w:=fun w=>by rw[<-HZ.out];exact XK w
 obtain⟨zo,HZO⟩:=nm_ ((#[.int .i64 0,.slice none 0 0] : Array Value):Array Value);have hz27:∀ w:World,(zeroValue 27).run prog w=.ok (.agg zo) w:=fun w=>by rw[<-HZO.out];exact Ux w
 have hmI:¬ (5000:Int)<m:=by omega
 rw[HM.out];clear hP hG hd hm hb1 hK;go_enter func17,ntmps17;go_wp2_with fail
 rw[HW1.out,HG.out];go_loopg [15] m (fun g iv wr=>∃ i:Nat,iv=.int .i64 i/\g=m-i/\i<=m/\Hid (Below G w wr)/\Hid (∃ M np,np<=i/\MI wr G np i M/\∀ y,(M y).isSome=true->∃ j,j<i/\ido K (os.getD j dO)=y));case atStart=>exact⟨0,rfl,rfl,by omega,HB1.out,_,_,WzV _,HM1.out,fun y h=>by cases h⟩
 obtain⟨i,rfl,hg,him,HB,HX⟩:=hrel;have hGr:G<wr.heap.size:=by obtain⟨M,np,_,h,_⟩:=HX.out;exact h.lt
 by_cases hlt:i<m;rotate_left
 ·have hltI:¬ (i:Int)<m:=by omega
  obtain rfl:i=m:=by omega
  obtain⟨M,np,hnp,hmi,hms⟩:=HX.out;have hlen:=hmi.len I2 3;clear hmi hms;go_wp2_with fail
  go_ret;exact⟨rfl,by rw[HG.out];exact HB.out⟩
 have hltI:(i:Int)<m:=by omega
 have hbw:Below w.heap.size w wr:=by rw[HG.out];exact HB.out
 obtain⟨b,off,ha',hbb,hr⟩:=(HP.out.below hbw).at_ (by rw[HM.out];omega);subst ha';have hcap:m<=cap:=by have:=HP.out.capl;rw[HM.out] at this;exact this
 have hri:=hr i (by rw[HM.out];exact hlt);obtain⟨o,HO⟩:=nm_ (os.getD i dO);rw[HO.out] at hri;have hom:o ∈ os:=by rw[<-HO.out];exact zV os i dO (by rw[HM.out];exact hlt)
 obtain⟨RO,HRO⟩:=nm_ (yQ K o);rw[HRO.out] at hri;have hi27:(prog.info? 27).map (·.size)=some RO.length:=by rw[<-HRO.out];exact vK
 have J27:Hid ((prog.info? 27).map (·.size)=some RO.toArray.size):=hid (by rw[List.size_toArray];exact hi27);have E27:Hid (zo.size=RO.toArray.size):=hid (by rw[<-HZO.out,<-HRO.out];rfl);have O27:Hid (RO.toArray.all (·.oneCell')=true):=hid (by rw[<-HRO.out];exact all_oneCell_toArray (jz K o));obtain⟨RI,HRI⟩:=rw_ (YJ K o).1
 have E68:Hid (zr.size=RI.toArray.size):=hid (by rw[<-HZ.out];exact HRI.out.z);obtain⟨H1,wa,HNA⟩:=nw 27 zo wr RO;have hba:Below wr.heap.size wr wa:=by rw[HNA.out.h];exact HNA.out.below
 have HBa:Hid (Below G w wa):=hid (HB.out.trans (hba.mono (by omega)));have HXa:Hid (∃ M np,np<=i/\MI wa G np i M/\∀ y,(M y).isSome=true->∃ j,j<i/\ido K (os.getD j dO)=y):=hid (by
  obtain⟨M,np,h0,h1,h2⟩:=HX.out;exact⟨M,np,h0,h1.below hba,h2⟩)
 have ra:wa.rangeAt H1 0 RO:=HNA.out.at
 have hGa:G<wa.heap.size:=by obtain⟨M,np,_,h,_⟩:=HXa.out;exact h.lt
 have CI:Hid (Calls prog 34 #[.agg RO.toArray] wa fun e w'=>e=.returned (.tuple #[.agg RI.toArray,.nilIface])/\Below wa.heap.size wa w'):=hid (by
  have hbw':Below w.heap.size w wa:=by rw[HG.out];exact HBa.out
  exact JY K n HKK.out hn o wa (HGD.out.om wa hbw' o hom) (HGD.out.tb wa hbw') HRO.out HRI.out.e)
 have HRR:=hid hri;clear hr hri hbb hba hbw hGr;go_wp2_with (first
  | refine wpList_load_mid rfl 27 _ rfl b (off+i*2) rfl RO _ HRR.out underlying27 rfl hi27 ?_
  | (refine wpList_store_row rfl 27 _ _ rfl wr.heap.size RO.toArray rfl rfl 27 zo HNA.out.d J27.out E27.out O27.out ?_;rw[HNA.out.w,HNA.out.h])
  | refine wpList_load_mid rfl 27 _ rfl H1 0 rfl RO _ ra underlying27 rfl hi27 ?_
  | fail)
 refine CI.out.mono ?_;rintro ev wb ⟨rfl,hbb⟩;obtain⟨H2,wc,HNC⟩:=nw 68 zr wb RI;have hbc:Below wa.heap.size wa wc:=hbb.trans (HNC.out.below.mono (by rw[<-HNC.out.h];exact hbb.size));have HBc:Hid (Below G w wc):=hid (HBa.out.trans (hbc.mono (by omega)));have rc:wc.rangeAt H2 0 RI:=HNC.out.at
 obtain⟨M,np,hnp,hmi,hms⟩:=HXa.out;have hmc:=hmi.below hbc;obtain⟨kl,hkl⟩:=LW (ido K o) (YJ K o).1 (YJ K o).2;have hno:M (ido K o)=none:=by
  cases e:M (ido K o) with
  | none=>rfl
  | some v =>
   obtain⟨j,hj,he⟩:=hms (ido K o) (by rw[e];rfl);exact absurd (he.trans (by rw[HO.out])) (HD.out j i hj (by rw[HM.out];exact hlt))
 obtain⟨wd,hput,hmd,hgr⟩:=hmc.put JK SZ (by omega) I2 hkl (.int .i64 i);have hGc:G<wc.heap.size:=hmc.lt;have HPUT:Hid ((Instr.mapUpdate 64 (.map (some G)) (.agg RI.toArray) (.int .i64 i)).run prog wc=.ok () wd):=hid (by
  unfold idV at hput;rw[HRI.out.e] at hput;exact hput)
 have HXd:Hid (∃ M np,np<=i+1/\MI wd G np (i+1) M/\∀ y,(M y).isSome=true->∃ j,j<i+1/\ido K (os.getD j dO)=y):=hid (by
  rw[hno] at hmd;refine⟨_,np+1,by omega,hmd,fun y hy=>?_⟩;by_cases e:y=ido K o
  ·exact⟨i,by omega,by rw[HO.out,e]⟩
  simp only[if_neg e] at hy;obtain⟨j,hj,he⟩:=hms y hy;exact⟨j,by omega,he⟩)
 have HBd:Hid (Below G w wd):=hid (HBc.out.grown hgr (by have:=HBc.out.size;rw[HG.out] at this;exact this) (fun k hk=>by cases hk;exact WzV _));clear hbb hbc hput hmd hgr hmi hmc hno hms hkl;go_wp2_with (first
  | (refine wpList_store_row rfl 68 _ _ rfl wb.heap.size RI.toArray rfl rfl 68 zr HNC.out.d HRI.out.j56 E68.out HRI.out.o ?_;rw[HNC.out.w,HNC.out.h])
  | refine wpList_load_mid rfl 68 _ rfl H2 0 rfl RI _ rc underlying68 rfl HRI.out.i56 ?_
  | (refine wpList_skip rfl (j8 rfl rfl rfl rfl HPUT.out) ?_)
  | fail)
 go_roundg (m-(i+1));case measure=>omega
 case rel=>exact⟨i+1,by go_num,rfl,by omega,HBd.out,HXd.out⟩
end Go.Proofs.YtiaaekdpfpaigaaGreatDoor.Pk
