import Derived.Test.YtgliaiemkfopeaaGreatDoorMn29
import Derived.Test.YtgliaiemkfopeaaGreatDoorMn30
import Derived.Test.YtgliaiemkfopeaaGreatDoorMn25
set_option linter.unusedSimpArgs false
set_option linter.unusedVariables false
set_option maxRecDepth 20000
set_option maxHeartbeats 4000000
namespace Go.Proofs.YtgliaiemkfopeaaGreatDoor.K
open Go.RowKit
theorem Tryz.results22:Tryz.f22.results=#[.tmp 8]:=by kernel_rfl
def jV (G Q:Nat) (rs:List Rx) (ls:List Ex) (ms:List Mv1) (p:Per) (tx:Str) (w:World) (e:Ending) (w':World):Prop := ∃ k rs' ls',UdP rs ls ms p tx k rs' ls'/\e=.returned (.int .i64 k)/\(∃ v1 v2,Dq G w' Q v1 v2 rs' ls')/\Al (fun i=>i=Q) w w'
structure We (wb wo i:Nat) (l:List Str) (xb xo n xc:Nat) (W:World):Prop where
 c:W.cell? ⟨wb,wo+i,none⟩=some (.slice (some ⟨xb,xo,none⟩) (n+1) xc)
 at_:∀ j,j<=n->W.cell? ⟨xb,xo+j,none⟩=some (sV (l.getD j []))
theorem Wz.we {w0 w:World} {B:Nat} {va:Option Addr} {vn vc:Nat} {xs:List Wy} (h:Wz w0 w B (.slice va vn vc) xs) {i:Nat} (hi:i<xs.length) (h0:0<(xs.getD i dW).l.length):∃ wb wo xb xo n,va=some ⟨wb,wo,none⟩/\(xs.getD i dW).a=some ⟨xb,xo,none⟩/\(xs.getD i dW).l.length=n+1/\We wb wo i (xs.getD i dW).l xb xo n (xs.getD i dW).c w:=by
 obtain⟨b,off,c,hv,hc,hp⟩:=h.at hi
 injection hv with e1 e2 e3
 obtain⟨xb,xo,hxa,_,hx⟩:=hp.at_ h0
 refine⟨b,off,xb,xo,(xs.getD i dW).l.length-1,e1,hxa,by omega,?_,fun j hj=>?_⟩
 ·rw[hc,hxa]
  congr 2
  omega
 ·have:=hx j (by omega) 0 _ rfl
  simpa using this
structure QeW (wb wi xb xi n1 xc wk yb yi n2 yc:Nat) (A B:ByteArray) (xo yo:Nat) (W:World):Prop where
 c1:W.cell? ⟨wb,wi,none⟩=some (.slice (some ⟨xb,xo,none⟩) (n1+1) xc)
 c2:W.cell? ⟨xb,xi,none⟩=some (.string A)
 c3:W.cell? ⟨wb,wk,none⟩=some (.slice (some ⟨yb,yo,none⟩) (n2+1) yc)
 c4:W.cell? ⟨yb,yi,none⟩=some (.string B)
structure Qf (wb wi xb xo xi n1 xc:Nat) (A:ByteArray) (W:World):Prop where
 c1:W.cell? ⟨wb,wi,none⟩=some (.slice (some ⟨xb,xo,none⟩) (n1+1) xc)
 c2:W.cell? ⟨xb,xi,none⟩=some (.string A)
structure Qg (mb mo mn z:Nat) (O Nw Z:List Value) (W:World):Prop where
 ro:W.rangeAt mb mo O
 rn:W.rangeAt mb mn Nw
 rz:W.rangeAt z 0 Z
structure Qi (mb mo mn z Q qb qo qi NR qc:Nat) (O Nw Z I:List Value) (W:World):Prop extends Qg mb mo mn z O Nw Z W where
 c0:W.cell? ⟨Q,0,none⟩=some (.slice (some ⟨qb,qo,none⟩) NR qc)
 ri:W.rangeAt qb qi I
structure Ql (wb wi xb xo xi n1 xc mb mo mn z C r:Nat) (A:ByteArray) (O Nw Z PV:List Value) (u:Value) (W:World):Prop extends Qg mb mo mn z O Nw Z W where
 c1:W.cell? ⟨wb,wi,none⟩=some (.slice (some ⟨xb,xo,none⟩) (n1+1) xc)
 c2:W.cell? ⟨xb,xi,none⟩=some (.string A)
 c3:W.cell? ⟨C,1,none⟩=some u
 rp:W.rangeAt r 0 PV
theorem bd141 (N:ByteArray) (x y:List Int) (hx:x.length=20) (hy:y.length=20) (p:Per) (t:ByteArray) (w:World):(Instr.build 141 #[(0,.string N),(1,.agg (row .u8 x).toArray),(2,.agg (row .u8 y).toArray),(3,.agg (xq p)),(4,.string t)]).run Tryz.prog w=.ok (.agg (Value.string N :: (row .u8 x++(row .u8 y++[Value.string ⟨p.name.toArray⟩,Value.string ⟨p.mail.toArray⟩,Value.int .i64 p.time,Value.int .i64 p.zone,Value.string t]))).toArray) w:=by
 obtain⟨pn,pm,pt,pz⟩:=p
 obtain⟨a0,a1,a2,a3,a4,a5,a6,a7,a8,a9,a10,a11,a12,a13,a14,a15,a16,a17,a18,a19,rfl⟩:=yZ x hx
 obtain⟨b0,b1,b2,b3,b4,b5,b6,b7,b8,b9,b10,b11,b12,b13,b14,b15,b16,b17,b18,b19,rfl⟩:=yZ y hy
 unfold xq
 simp only
 generalize (⟨pn.toArray⟩:ByteArray)=P1
 generalize (⟨pm.toArray⟩:ByteArray)=P2
 show _=_
 kernel_rfl
theorem exec_bd5 {P:Program} {o:Oper} {a:Act} {w w':World} (t:TypeId) (i j k l n:Nat) (x y z q s:Operand) (ho:o.op=.build t #[(i,x),(j,y),(k,z),(l,q),(n,s)]) (u1 u2 u3 u4 u5 v:Value) (h1:a.eval x=u1) (h2:a.eval y=u2) (h3:a.eval z=u3) (h4:a.eval q=u4) (h5:a.eval s=u5) (hr:(Instr.build t #[(i,u1),(j,u2),(k,u3),(l,u4),(n,u5)]).run P w=.ok v w'):(execOp a.eval o).run P w=.ok (.value v) w':=by
 unfold execOp
 simp[ho,h1,h2,h3,h4,h5,hr,Result.andThen]
theorem rsU_len:∀ (ys:List (List Str × Mv1)) (rs:List Rx),(rsU rs ys).length<=rs.length+ys.length
 | [],rs=>by simp[rsU]
 | y :: ys,rs=>by
  have h1:=rsU_len ys (Rk.setL geS (enW y.1) (some (y.2.new,[])) rs (decide (y.2.new=zQ)))
  have h2:=QX geS (enW y.1) (y.2.new,[]) rs (decide (y.2.new=zQ))
  have h5:(if decide (y.2.new=zQ)=true then 0 else 1)<=1:=by split <;> omega
  unfold rsU at h1 ⊢
  rw[List.foldl_cons,List.length_cons]
  omega
theorem nodup_of {f:Nat->Str} : ∀ n:Nat,(∀ i,i<n->∀ k,k<i->f i ≠ f k)->((List.range n).map f).Nodup:=fun n h=>by
 rw[List.Nodup,List.pairwise_map]
 refine List.Pairwise.imp_of_mem ?_ List.pairwise_lt_range
 intro a b ha hb hab e
 exact h b (List.mem_range.1 hb) a hab e.symm
theorem ends_nodup {ls:List (List Str)} (h:∀ i,i<ls.length->∀ k,k<i->enW (ls.getD i []) ≠ enW (ls.getD k [])):(ls.map enW).Nodup:=by
 have:ls.map enW=(List.range ls.length).map fun i=>enW (ls.getD i []):=by
  refine List.ext_getElem (by simp) fun j h1 h2=>?_
  simp only[List.length_map] at h1
  simp[List.getD_eq_getElem?_getD,List.getElem?_eq_getElem h1]
 rw[this]
 exact nodup_of _ h
theorem ends_dup {ls:List (List Str)} {i k:Nat} (hi:i<ls.length) (hk:k<i) (h:enW (ls.getD i [])=enW (ls.getD k [])):¬ (ls.map enW).Nodup:=fun hn=>by
 have h1:i<(ls.map enW).length:=by simpa using hi
 have h2:k<(ls.map enW).length:=by simp;omega
 have:=(List.getElem_inj (h₀:=h1) (h₁:=h2) hn).1 (by
  simp only[List.getElem_map]
  rw[List.getD_eq_getElem?_getD,List.getElem?_eq_getElem hi,List.getD_eq_getElem?_getD,List.getElem?_eq_getElem (show k<ls.length by omega)] at h
  exact h)
 omega
set_option maxHeartbeats 8000000 in
theorem updateD_any {G Q:Nat} {v1 v2:Value} {rs:List Rx} {ls:List Ex} (a:Option Addr) (c:Nat) (ms:List Mv1) (p:Per) (tx:Str) (w:World) (h:Dq G w Q v1 v2 rs ls) (hG:G<=w.heap.size) (hP:Px qz 41 dMv w a c ms) (hok:∀ m ∈ ms,xw m) (hms:ms.length<=20) (htx:tx.length<=1000000) (hrn:rs.length+20<=100000) (hln:ls.length+180<=1000000) :
  Calls Tryz.prog 22 #[.pointer (some ⟨Q,0,none⟩),.slice a ms.length c,.agg (xq p),sV tx] w (jV G Q rs ls ms p tx w):=by
 obtain⟨r,HR⟩:=nm_ w.heap.size
 obtain⟨N,HN⟩:=nm_ ms.length
 have hN9:N<=20:=by rw[<-HN.out];exact hms
 obtain⟨PV,HPV⟩:=nm_ (xq p)
 have hpv4:PV.size=4:=by rw[<-HPV.out];rfl
 have HI4:Hid ((Tryz.prog.info? 74).map (·.size)=some PV.size):=hid (by rw[hpv4];kernel_rfl)
 obtain⟨Z,HZ⟩:=ri zQ rfl
 have HZ0:Hid (Z=z89):=hid (by rw[<-HZ.out.e];rfl)
 obtain⟨W2,HW2⟩:=nm_ ((w.alloc (.cells PV 74)).alloc (.cells Z 86))
 have hb1:Below r w W2:=by rw[<-HW2.out,<-HR.out];exact((Below.refl _ w).alloc (Nat.le_refl _) _).alloc (by simp) _
 have hs1:W2.heap.size=r+2:=by rw[<-HW2.out,<-HR.out];simp
 have hr0:W2.heap[r]? = some (.cells PV 74):=by rw[<-HW2.out,<-HR.out,heap_alloc_old _ _ (by simp)];exact heap_alloc_new _ _
 have hr1:W2.heap[r+1]? = some (.cells Z 86):=by
  have:=heap_alloc_new (w.alloc (.cells PV 74)) (.cells Z 86)
  rw[HW2.out] at this
  simpa [HR.out] using this
 have hQr:Q<r:=by rw[<-HR.out];exact z7 h.box
 have HGR:Hid (G<=r):=hid (by rw[<-HR.out];exact hG)
 have HST:Hid (∀ W,Below r w W->Dq G W Q v1 v2 rs ls/\Px qz 41 dMv W a c ms):=fun W hW=>⟨h.below (by rw[HR.out];exact hW),hP.below (by rw[HR.out];exact hW)⟩
 have HSAME:Hid (∀ k W,UdP rs ls ms p tx k rs ls->Below r w W->jV G Q rs ls ms p tx w (.returned (.int .i64 k)) W):=fun k W hu hW=>⟨k,rs,ls,hu,rfl,⟨v1,v2,(HST.out W hW).1⟩,Al.below (by rw[HR.out];exact hW)⟩
 have HOK:=hid hok
 have HD0:=hid h
 have HNM:Hid (∀ i,i<N->(ms.map (·.name)).getD i []=(ms.getD i dMv).name):=fun i hi=>by
  rw[<-HN.out] at hi
  simp[List.getD_eq_getElem?_getD,List.getElem?_eq_getElem hi]
 have HXL:Hid ((ms.map (·.name)).length=N):=hid (by simp[HN.out])
 have HZ2:Hid (Wz W2 W2 (r+2) (.slice none 0 0) []):=hid (Wz.nil W2 (r+2) (by rw[hs1];exact Nat.le_refl _))
 have HB2:Hid (∀ W,Below (r+2) W2 W->Below r w W/\W.heap[r]? = some (.cells PV 74)/\W.heap[r+1]? = some (.cells Z 86)):=fun W hW=>⟨hb1.trans (hW.mono (by omega)),(hW.block r (by omega)).trans hr0,(hW.block (r+1) (by omega)).trans hr1⟩
 obtain⟨X,HX⟩:=nm_ (⟨tx.toArray⟩:ByteArray)
 have HW3:=HW2
 rw[HZ0.out] at HW3
 unfold z89 at HW3
 have HRN:=hid hrn
 have HLN9:=hid hln
 have HTX:=hid htx
 rw[HN.out,HPV.out]
 unfold sV
 rw[HX.out]
 clear h hP hok hb1 hr0 hr1 hG hrn hln htx
 go_enter Tryz.func22,Tryz.ntmps22
 go_wp2
 rw[HW3.out,HR.out]
 go_loopg [10,11] N (fun q ov iv wr=>∃ (i:Nat) (u:Value) (xs:List Wy),iv=.int .i64 i/\u=ov/\q=N-i/\i<=N/\xs.length=i/\Hid (Wz W2 wr (r+2) u xs)/\Hid (Wl (wyF (Rk.fd rs) 8) ((ms.map (·.name)).take i) (xs.map (·.l))))
 case atStart=>exact⟨0,_,[],rfl,rfl,rfl,Nat.zero_le _,rfl,HZ2,hid ⟨by simp,fun j hj=>by simp at hj⟩⟩
 case round =>
  obtain⟨i,u,xs,rfl,hu,hq,hin,hxl,HZW,HWL⟩:=hrel
  subst hu
  obtain⟨ua,uc,hus⟩:=zZ HZW.out.bx.own
  rw[hxl] at hus
  subst hus
  have hbw:=(HB2.out wr HZW.out.bx.below).1
  by_cases hlt:i<N
  ·as_aux_lemma =>
    have hlti:(i:Int)<(N:Int):=by omega
    obtain⟨d1,p1⟩:=HST.out wr hbw
    obtain⟨b,off,hae,_,_⟩:=p1.at_ (by rw[HN.out];omega)
    subst hae
    have hmo:xw (ms.getD i dMv):=HOK.out _ (zK ms i dMv (by rw[HN.out];exact hlt))
    obtain⟨y,hy⟩:∃ y,(ms.getD i dMv).name=y:=⟨_,rfl⟩
    have HYN:Hid ((ms.map (·.name)).getD i []=y):=hid (by rw[HNM.out i hlt];exact hy)
    have HCC0:Hid (∀ W,Below r w W->W.cell? ⟨b,off+i*41,none⟩=some (sV y)):=fun W hW=>by
     obtain⟨_,_,e1,_,e3⟩:=(HST.out W hW).2.at_ (by rw[HN.out];omega)
     cases e1
     rw[<-hy]
     exact e3 i (by rw[HN.out];exact hlt) 0 _ rfl
    have hcV:=HCC0.out wr hbw
    have hin1:=vW y wr
    have HBR:Hid (∀ W,Below wr.heap.size wr W->Below r w W):=fun W hW=>hbw.trans (hW.mono (by have:=hbw.size;have:=HR.out;omega))
    have HBAD:Hid (∀ k W,Below r w W->((isN y=false/\k=60) ∨ (isN y=true/\wyF (Rk.fd rs) 8 y=none/\k=64))->jV G Q rs ls ms p tx w (.returned (.int .i64 k)) W):=fun k W hW hk=>by
     refine HSAME.out k W (.inl ⟨i,by rw[HXL.out];exact hlt,⟨_,HWL.out⟩,?_⟩) hW
     rw[HYN.out]
     rcases hk with ⟨h1,rfl⟩ | ⟨h1,h2,rfl⟩
     ·exact .inl ⟨h1,rfl,rfl,rfl⟩
     ·exact .inr ⟨h1,h2,rfl,rfl,rfl⟩
    obtain⟨Y,HY⟩:=nm_ (⟨y.toArray⟩:ByteArray)
    cases hi:isN y with
    | false =>
     rw[hi] at hin1
     have HE:Hid (∀ W,Below wr.heap.size wr W->jV G Q rs ls ms p tx w (.returned (.int .i64 60)) W):=fun W hW=>HBAD.out 60 W (HBR.out W hW) (.inl ⟨hi,rfl⟩)
     unfold sV at hcV hin1
     rw[HY.out] at hcV hin1
     clear d1 p1 hmo hy
     go_wp2_with (go_at_call 51;refine hin1.mono ?_;rintro e w2 ⟨rfl,hb⟩;have E2:=hid (HE.out w2 hb);clear hb hin1)
     exact bodyPost_ret (results_tmp Tryz.results22 _ _ _) rfl E2.out
    | true =>
     rw[hi] at hin1
     have hy60:=qZ hi
     have HWY:Hid (∀ W,Below wr.heap.size wr W->Calls Tryz.prog 52 #[.pointer (some ⟨Q,0,none⟩),sV y] W fun e w'=>ZZ rs y W.heap.size e w'/\Below W.heap.size W w'):=fun W hW=>wayD_any y W (HST.out W (HBR.out W hW)).1 hy60
     have HCC:Hid (∀ W,Below wr.heap.size wr W->W.cell? ⟨b,off+i*41,none⟩=some (.string Y)):=fun W hW=>by rw[<-HY.out];exact HCC0.out W (HBR.out W hW)
     cases hW:wyF (Rk.fd rs) 8 y with
     | none =>
      unfold ZZ at HWY
      rw[hW] at HWY
      have HE:Hid (∀ W W',Below wr.heap.size wr W->Below W.heap.size W W'->jV G Q rs ls ms p tx w (.returned (.int .i64 64)) W'):=fun W W' h1 h2=>HBAD.out 64 W' ((HBR.out W h1).trans (h2.mono (by have:=(HBR.out W h1).size;have:=HR.out;omega))) (.inr ⟨hi,hW,rfl⟩)
      unfold sV at hcV hin1 HWY
      rw[HY.out] at hcV hin1 HWY
      clear d1 p1 hmo hy hW
      go_wp2_with (first
       | (go_at_call 51;refine hin1.mono ?_;rintro e w2 ⟨rfl,hb⟩;have hc2:=HCC.out w2 hb;have c52:=HWY.out w2 hb;have B2:=hid hb;clear hb hin1)
       | (go_at_call 52;refine c52.mono ?_;rintro e w3 ⟨rfl,hb⟩;have E3:=hid (HE.out w2 w3 B2.out hb);clear hb c52))
      exact bodyPost_ret (results_tmp Tryz.results22 _ _ _) rfl E3.out
     | some l =>
      unfold ZZ at HWY
      rw[hW] at HWY
      obtain⟨ln,HLN⟩:=nm_ l.length
      have HW2':Hid (∀ W,Below wr.heap.size wr W->Calls Tryz.prog 52 #[.pointer (some ⟨Q,0,none⟩),.string Y] W fun e w3=>∃ va vc,e=.returned (.tuple #[.slice va ln vc,.int .i64 0])/\∃ X4,w3.alloc (.cells #[.slice va ln vc] 64)=X4/\Wz W2 X4 (r+2) (.slice ua i uc) xs/\Px XQ 1 dW X4 (some ⟨w3.heap.size,0,none⟩) 1 [⟨va,vc,l⟩]/\(∀ v' w5,Bx XQ 1 64 W2 w5 (r+2) v' (xs++[⟨va,vc,l⟩])->Mv X4 w5 (.slice ua i uc) v'->Wz W2 w5 (r+2) v' (xs++[⟨va,vc,l⟩]))):=fun W hWb=>by
       have hc52:=HWY.out W hWb
       unfold sV at hc52
       rw[HY.out] at hc52
       refine hc52.mono ?_
       rintro e w3 ⟨⟨v,rfl,hown⟩,hb3⟩
       obtain⟨va,vc,hv⟩:=zZ hown
       subst hv
       rw[HLN.out] at hown
       refine⟨va,vc,by rw[HLN.out],_,rfl,?_⟩
       have hbr:Below wr.heap.size wr w3:=hWb.trans (hb3.mono hWb.size)
       have hb4:Below wr.heap.size wr (w3.alloc (.cells #[.slice va ln vc] 64)):=hbr.alloc hbr.size _
       have hWr:r+2<=W.heap.size:=by have:=HZW.out.bx.le;have:=hWb.size;omega
       have ho4:(w3.alloc (.cells #[.slice va ln vc] 64)).ownsRow (r+2) 9 1 (.slice va ln vc) ln (l.map sV):=qk (xV hown ((Below.refl _ w3).alloc (Nat.le_refl _) _)) hWr
       have hZ4:=HZW.out.carry hb4
       refine⟨hZ4,?_,fun v' w5 hb5 hm5=>?_⟩
       ·have:=yu (enc:=XQ) (d:=dW) w3 ⟨va,vc,l⟩ 64
        simp only[XQ,HLN.out] at this
        exact this
       ·have hx4:(w3.alloc (.cells #[.slice va ln vc] 64)).ownsRow (r+2) 9 1 (.slice va (⟨va,vc,l⟩:Wy).l.length vc) (⟨va,vc,l⟩:Wy).l.length (l.map sV):=by show World.ownsRow _ _ _ _ (.slice va l.length vc) l.length _;rw[HLN.out];exact ho4
        exact hZ4.more (x:=⟨va,vc,l⟩) hx4 hb5 hm5
      have HWS:Hid (∀ va vc,Wl (wyF (Rk.fd rs) 8) ((ms.map (·.name)).take (i+1)) ((xs++[(⟨va,vc,l⟩:Wy)]).map (·.l))):=fun va vc=>by
       rw[List.map_append]
       exact HWL.out.snoc (by rw[HXL.out];exact hlt) (by rw[HYN.out];exact hi) (by rw[HYN.out];exact hW)
      have HBS:Hid (∀ (va:Option Addr) (vc:Nat) (W:World),(Instr.buildSlice 120 1 #[(0,.slice va ln vc)]).run Tryz.prog W=.ok (.slice (some ⟨W.heap.size,0,none⟩) 1 1) (W.alloc (.cells #[.slice va ln vc] 64))):=fun va vc W=>run_bs120 va ln vc W
      have HXN:Hid (∀ x:Wy,xs.length + [x].length<=1000000000):=fun x=>by simp;omega
      unfold sV at hcV hin1
      rw[HY.out] at hcV hin1
      clear d1 p1 hmo hy hW HWY
      go_wp2_with (first
       | (go_at_call 51;refine hin1.mono ?_;rintro e w2 ⟨rfl,hb⟩;have hc2:=HCC.out w2 hb;have c52:=HW2'.out w2 hb;clear hb hin1)
       | (go_at_call 52;refine c52.mono ?_;rintro e w3 ⟨va,vc,rfl,X4,hX4,q1,q3,q4⟩;have HX4:=hid hX4;have Q1:=hid q1;have Q3:=hid q3;have Q4:=hid q4;clear c52 q1 q3 q4 hX4)
       | (refine z8 rfl _ (zY 120 (.tmp 55) rfl (.slice va ln vc) _ rfl (HBS.out va vc _)) ?_;rw[HX4.out];go_frame)
       | (at_builtin;refine zj (enc:=XQ) (k:=1) (d:=dW) rfl _ _ 120 64 und120 info64 z64 (by decide) (by decide) encW_one rfl (r+2) (.slice ua i uc) xs rfl Q1.out.bx (some ⟨w3.heap.size,0,none⟩) 1 [⟨va,vc,l⟩] rfl Q3.out (fun _ _=>rfl) (HXN.out _) ?_;intro v5 w5 hb5 hg5 hm5;have Z5:=hid (Q4.out v5 w5 hb5 hm5);clear hb5 hg5 hm5))
      go_roundg (N-(i+1))
      case measure=>omega
      case rel=>exact⟨i+1,_,xs++[⟨va,vc,l⟩],by go_num,rfl,rfl,by omega,by simp[hxl],Z5,hid (HWS.out va vc)⟩
  ·have hlti:¬ (i:Int)<(N:Int):=by omega
   as_aux_lemma =>
    have hiN:N=i:=by omega
    subst hiN
    obtain⟨w2,hw2⟩:∃ x,x=wr:=⟨_,rfl⟩
    subst hw2
    have HWF:Hid (Wl (wyF (Rk.fd rs) 8) (ms.map (·.name)) (xs.map (·.l))):=hid (by
     have:=HWL.out
     rw[List.take_of_length_le (by rw[HXL.out];exact Nat.le_refl _)] at this
     exact this)
    obtain⟨ws,HWS⟩:=nm_ (xs.map (·.l))
    rw[HWS.out] at HWF
    have HWN:Hid (ws.length=N):=hid (by rw[HWF.out.1,HXL.out])
    obtain⟨r2,HR2⟩:=nm_ w2.heap.size
    have hr2:r+2<=r2:=by have:=HZW.out.bx.le;have:=HR2.out;omega
    have HBW:Hid (∀ W,Below r2 w2 W->Below r w W/\W.heap[r]? = some (.cells PV 74)/\W.heap[r+1]? = some (.cells Z 86)):=fun W hW=>HB2.out W (HZW.out.bx.below.trans (hW.mono hr2))
    have HWE:Hid (∀ i,i<N->∃ wb wo xb xo n xc,ua=some ⟨wb,wo,none⟩/\(ws.getD i []).length=n+1/\n<=8/\(∀ y ∈ ws.getD i [],y.length<=60)/\∀ W,Below r2 w2 W->We wb wo i (ws.getD i []) xb xo n xc W):=fun i hi=>by
     have hix:i<xs.length:=by rw[hxl];exact hi
     have e1:(xs.getD i dW).l=ws.getD i []:=by rw[<-HWS.out];simp[List.getD_eq_getElem?_getD,List.getElem?_eq_getElem hix]
     have h5:=HWF.out.2 i (by rw[HXL.out];exact hi)
     obtain⟨g1,g2,g3⟩:=Y5 (fun x q hx=>(fd_ok HD0.out.ok1 hx).2) 8 _ _ (qZ h5.1) h5.2
     obtain⟨wb,wo,xb,xo,n,q1,q2,q3,q4⟩:=HZW.out.we hix (by rw[e1];exact g1)
     rw[e1] at q3 q4
     refine⟨wb,wo,xb,xo,n,(xs.getD i dW).c,q1,q3,by omega,g3,fun W hW=>?_⟩
     obtain⟨wb',wo',xb',xo',n',t1,t2,t3,t4⟩:=(HZW.out.carry (W:=W) (by rw[HR2.out];exact hW)).we hix (by rw[e1];exact g1)
     rw[q1] at t1
     injection t1 with t1
     injection t1 with ta tb _
     rw[q2] at t2
     injection t2 with t2
     injection t2 with tc td _
     rw[e1] at t3 t4
     have tn:n=n':=by omega
     rw[<-ta,<-tb,<-tc,<-td,<-tn] at t4
     exact t4
    have HGOOD:Hid ((ws.map enW).Nodup->∀ k rs' ls',UdG rs ls ms p tx k rs' ls' ws->UdP rs ls ms p tx k rs' ls'):=fun hn k rs' ls' hg=>.inr ⟨ws,HWF.out,.inr ⟨hn,hg⟩⟩
    have HDUP:Hid (¬ (ws.map enW).Nodup->∀ W,Below r w W->jV G Q rs ls ms p tx w (.returned (.int .i64 60)) W):=fun hn W hW=>HSAME.out 60 W (.inr ⟨ws,HWF.out,.inl ⟨hn,rfl,rfl,rfl⟩⟩) hW
    clear hbw HZW HWL HWS hxl
    go_wp2
    go_loopg [15] N (fun q iv wr=>∃ i:Nat,iv=.int .i64 i/\q=N-i/\i<=N/\Hid (Below r2 w2 wr)/\Hid (∀ j,j<i->∀ k,k<j->enW (ws.getD j []) ≠ enW (ws.getD k [])))
    case atStart=>exact⟨0,rfl,rfl,Nat.zero_le _,hid (Below.refl _ _),hid (fun j hj=>by omega)⟩
    case round =>
     obtain⟨i,rfl,hq,hin,HBI,HNE⟩:=hrel
     by_cases hlt:i<N
     ·as_aux_lemma =>
       have hlti:(i:Int)<(N:Int):=by omega
       go_wp2
       go_loopg [16] i (fun q kv wr=>∃ k:Nat,kv=.int .i64 k/\q=i-k/\k<=i/\Hid (Below r2 w2 wr)/\Hid (∀ k',k'<k->enW (ws.getD i []) ≠ enW (ws.getD k' [])))
       case atStart=>exact⟨0,rfl,rfl,Nat.zero_le _,HBI,hid (fun j hj=>by omega)⟩
       case round =>
        obtain⟨k,rfl,hq2,hkn,HBK,HNK⟩:=hrel
        by_cases hlk:k<i
        ·have hlki:(k:Int)<(i:Int):=by omega
         have hlkn:(k:Int)<(N:Int):=by omega
         obtain⟨wb,wo,xb,xo,n1,xc,hua,hn1,hm1,hz1,hWi⟩:=HWE.out i hlt
         obtain⟨wb',wo',yb,yo,n2,yc,hua',hn2,hm2,hz2,hWk⟩:=HWE.out k (by omega)
         rw[hua] at hua'
         injection hua' with e1
         injection e1 with e1 e2 _
         subst e1
         subst e2
         subst hua
         obtain⟨zi,hzi⟩:∃ z,enW (ws.getD i [])=z:=⟨_,rfl⟩
         obtain⟨zk,hzk⟩:∃ z,enW (ws.getD k [])=z:=⟨_,rfl⟩
         obtain⟨A,HA⟩:=nm_ (⟨zi.toArray⟩:ByteArray)
         obtain⟨B,HB⟩:=nm_ (⟨zk.toArray⟩:ByteArray)
         have HQE:Hid (∀ W,Below r2 w2 W->QeW wb (wo+i) xb (xo+n1) n1 xc (wo+k) yb (yo+n2) n2 yc A B xo yo W):=fun W hW=>by
          have g1:=(hWi W hW).at_ n1 (Nat.le_refl _)
          have g2:=(hWk W hW).at_ n2 (Nat.le_refl _)
          have q1:(ws.getD i []).getD n1 []=zi:=by rw[<-hzi];unfold enW;rw[hn1];rfl
          have q2:(ws.getD k []).getD n2 []=zk:=by rw[<-hzk];unfold enW;rw[hn2];rfl
          rw[q1] at g1
          rw[q2] at g2
          exact⟨(hWi W hW).c,by rw[<-HA.out];exact g1,(hWk W hW).c,by rw[<-HB.out];exact g2⟩
         have hd0:Below r2 w2 wr.drew:=HBK.out.trans (zv _ _ 1)
         have hS0:=HQE.out _ hd0
         have HZI:=hid hzi
         have HZK:=hid hzk
         have hwn1:IntKind.i64.wrap (n1:Int)=(n1:Int):=by rw[IntKind.wrap_i64];omega
         have hwn2:IntKind.i64.wrap (n2:Int)=(n2:Int):=by rw[IntKind.wrap_i64];omega
         have hln1:(n1:Int)<(n1:Int)+1:=by omega
         have hln2:(n2:Int)<(n2:Int)+1:=by omega
         clear hWi hWk hzi hzk hz1 hz2
         by_cases he:zi=zk
         ·have hab:A=B:=by rw[<-HA.out,<-HB.out,he]
          subst hab
          have HE:Hid (∀ W,Below r2 w2 W->jV G Q rs ls ms p tx w (.returned (.int .i64 60)) W):=fun W hW=>HDUP.out (ends_dup (by rw[HWN.out];exact hlt) hlk (by rw[HZI.out,HZK.out,he])) W (HBW.out W hW).1
          go_wp2
          refine wp_region_held_drew (S:=QeW wb (wo+i) xb (xo+n1) n1 xc (wo+k) yb (yo+n2) n2 yc A A xo yo) (by kernel_rfl) hS0 (fun hHeld=>?_)
          generalize wr.drew=u0 at hHeld hd0 hS0 ⊢
          iterate 25
           refine qq (v:=?_) hHeld ?_ ?_
           rotate_left
           ·rintro w' ⟨c1,c2,c3,c4⟩;go_simp;rfl
           try simp only[Act.put,sL]
          refine wpAnyH_done (by kernel_rfl) ?_ _
          have E0:=hid (HE.out u0 hd0)
          clear hHeld hS0
          go_wp2
          exact bodyPost_ret (results_tmp Tryz.results22 _ _ _) rfl E0.out
         ·have hee:(A.toList == B.toList)=false:=by rw[<-HA.out,<-HB.out,Lib.toList_data,Lib.toList_data];simpa using he
          have hee2:(A == B)=false:=by rw[beq_toListBytes];exact hee
          have HNK2:Hid (∀ k',k'<k+1->enW (ws.getD i []) ≠ enW (ws.getD k' [])):=fun k' hk'=>by
           by_cases e:k'=k
           ·rw[e,HZI.out,HZK.out];exact he
           ·exact HNK.out k' (by omega)
          go_wp2
          refine wp_region_held_drew (S:=QeW wb (wo+i) xb (xo+n1) n1 xc (wo+k) yb (yo+n2) n2 yc A B xo yo) (by kernel_rfl) hS0 (fun hHeld=>?_)
          generalize wr.drew=u0 at hHeld hd0 hS0 ⊢
          iterate 25
           refine qq (v:=?_) hHeld ?_ ?_
           rotate_left
           ·rintro w' ⟨c1,c2,c3,c4⟩;go_simp;rfl
           try simp only[Act.put,sL]
          refine wpAnyH_done (by kernel_rfl) ?_ _
          have HB0:=hid hd0
          clear hHeld hS0 hd0
          go_wp2
          go_roundg (i-(k+1))
          case measure=>omega
          case rel=>exact⟨k+1,by go_num,rfl,by omega,HB0,HNK2⟩
        ·have hlki:¬ (k:Int)<(i:Int):=by omega
         have HNE2:Hid (∀ j,j<i+1->∀ k,k<j->enW (ws.getD j []) ≠ enW (ws.getD k [])):=fun j hj k' hk'=>by
          by_cases e:j=i
          ·subst e;exact HNK.out k' (by omega)
          ·exact HNE.out j (by omega) k' hk'
         go_wp2
         go_roundg (N-(i+1))
         case measure=>omega
         case rel=>exact⟨i+1,by go_num,rfl,by omega,HBK,HNE2⟩
     ·have hlti:¬ (i:Int)<(N:Int):=by omega
      have hiN:N=i:=by omega
      subst hiN
      as_aux_lemma =>
       have HND:Hid ((ws.map enW).Nodup):=hid (ends_nodup (by rw[HWN.out];exact HNE.out))
       have HUD:Hid (∀ k rs' ls',UdG rs ls ms p tx k rs' ls' ws->UdP rs ls ms p tx k rs' ls'):=hid (HGOOD.out HND.out)
       obtain⟨wA,hwA⟩:∃ x,x=wr:=⟨_,rfl⟩
       subst hwA
       obtain⟨r3,HR3⟩:=nm_ wA.heap.size
       have hr3:r2<=r3:=by have:=HBI.out.size;have:=HR3.out;have:=HR2.out;omega
       have HW23:Hid (∀ W,Below r3 wA W->Below r2 w2 W):=fun W hW=>HBI.out.trans (hW.mono hr3)
       have C18:=copyD_any wA (HST.out wA (HBW.out wA HBI.out).1).1
       unfold Post18 at C18
       rw[HR3.out] at C18
       go_wp2_with (go_at_call 18;refine C18.mono ?_;rintro e w3 ⟨C,u1,u2,rfl,hC,hD3,hb3⟩;have HD3:Hid (∃ u1,Dq r3 w3 C u1 u2 (rsU rs ((ws.zip ms).take 0)) ls):=hid ⟨_,hD3⟩;have HB3:=hid hb3;clear hD3 hb3 C18)
       have HAL:Hid (∀ W W',Below r3 wA W->Al (fun i=>i=C) W W'->Below r3 wA W'):=fun W W' h1 h2=>⟨h2.os.trans h1.os,h2.tape.trans h1.tape,h2.output.trans h1.output,Nat.le_trans h1.size h2.size,fun i hi=>(h2.blk i (by have:=h1.size;have:=HR3.out;omega) (by omega)).trans (h1.block i hi)⟩
       have HSZ:Hid (∀ W,Below r3 wA W->r3<=W.heap.size):=fun W hW=>by have:=hW.size;have:=HR3.out;omega
       have HNW:Hid (w3.heap.size=w3.heap.size):=hid rfl
       have HZL:Hid (∀ j,j<N->(ws.zip ms).getD j ([],dMv)=(ws.getD j [],ms.getD j dMv)):=fun j hj=>by
        have g1:j<ws.length:=by rw[HWN.out];exact hj
        have g2:j<ms.length:=by rw[HN.out];exact hj
        have g3:j<(ws.zip ms).length:=by rw[List.length_zip];omega
        rw[List.getD_eq_getElem?_getD,List.getElem?_eq_getElem g3,Option.getD_some,List.getElem_zip,List.getD_eq_getElem?_getD,List.getElem?_eq_getElem g1,List.getD_eq_getElem?_getD,List.getElem?_eq_getElem g2]
        rfl
       have HZN:Hid ((ws.zip ms).length=N):=hid (by rw[List.length_zip,HWN.out,HN.out];omega)
       obtain⟨ZL,HZV⟩:=nm_ Z.toList
       have HZE:Hid (ZL=row .u8 zQ):=hid (by rw[<-HZV.out,<-HZ.out.e])
       have hzl20:ZL.length=20:=by rw[HZE.out];rfl
       have HIZ:Hid ((Tryz.prog.info? 86).map (·.size)=some ZL.length):=hid (by rw[hzl20];kernel_rfl)
       have HRZ:Hid (∀ W,Below r2 w2 W->W.rangeAt (r+1) 0 ZL):=fun W hW=>by rw[<-HZV.out];exact zy (by simpa using (HBW.out W hW).2.2)
       have HPX:Hid (∀ W,Below r2 w2 W->Px qz 41 dMv W a c ms):=fun W hW=>(HST.out W (HBW.out W hW).1).2
       go_loopg [18] N (fun q iv wr=>∃ i:Nat,iv=.int .i64 i/\q=N-i/\i<=N/\Hid (Below r3 wA wr)/\Hid (∃ u1,Dq r3 wr C u1 u2 (rsU rs ((ws.zip ms).take i)) ls)/\Hid (∀ j,j<i->okO rs (enW (ws.getD j [])) (ms.getD j dMv).old))
       case atStart=>exact⟨0,rfl,rfl,Nat.zero_le _,HB3,HD3,hid (fun j hj=>by omega)⟩
       case round =>
        obtain⟨i,rfl,hq,hin,HBI3,HDC,HOL⟩:=hrel
        by_cases hlt:i<N
        ·as_aux_lemma =>
          have hlti:(i:Int)<(N:Int):=by omega
          obtain⟨wb,wo,xb,xo,n1,xc,hua,hn1,hm1,hz1,hWi⟩:=HWE.out i hlt
          subst hua
          obtain⟨mb,mo,hma,_,_⟩:=(HPX.out wr (HW23.out wr HBI3.out)).at_ (by rw[HN.out];omega)
          subst hma
          have hmok:xw (ms.getD i dMv):=HOK.out _ (zK ms i dMv (by rw[HN.out];exact hlt))
          obtain⟨m,hm⟩:∃ m,ms.getD i dMv=m:=⟨_,rfl⟩
          rw[hm] at hmok
          obtain⟨z,hz⟩:∃ z,enW (ws.getD i [])=z:=⟨_,rfl⟩
          have hz60:z.length<=60:=by rw[<-hz];exact hz1 _ (uu _ (by omega))
          obtain⟨A,HA⟩:=nm_ (⟨z.toArray⟩:ByteArray)
          obtain⟨O,hO⟩:∃ O,row .u8 m.old=O:=⟨_,rfl⟩
          obtain⟨Nw,hNw⟩:∃ O,row .u8 m.new=O:=⟨_,rfl⟩
          have hO20:O.length=20:=by rw[<-hO,zw];exact hmok.2.1.1
          have hN20:Nw.length=20:=by rw[<-hNw,zw];exact hmok.2.2.1
          have HIO:Hid ((Tryz.prog.info? 86).map (·.size)=some O.length):=hid (by rw[hO20];kernel_rfl)
          have HIN:Hid ((Tryz.prog.info? 86).map (·.size)=some Nw.length):=hid (by rw[hN20];kernel_rfl)
          have HQF:Hid (∀ W,Below r2 w2 W->Qf wb (wo+i) xb xo (xo+n1) n1 xc A W):=fun W hW=>by
           have g1:=(hWi W hW).at_ n1 (Nat.le_refl _)
           have q1:(ws.getD i []).getD n1 []=z:=by rw[<-hz];unfold enW;rw[hn1];rfl
           rw[q1] at g1
           exact⟨(hWi W hW).c,by rw[<-HA.out];exact g1⟩
          have HQG:Hid (∀ W,Below r2 w2 W->Qg mb (mo+i*41+1) (mo+i*41+21) (r+1) O Nw ZL W):=fun W hW=>by
           obtain⟨_,_,e1,_,e3⟩:=(HPX.out W hW).at_ (by rw[HN.out];omega)
           cases e1
           have e4:=e3 i (by rw[HN.out];exact hlt)
           rw[hm] at e4
           refine⟨fun j v hv=>?_,fun j v hv=>?_,HRZ.out W hW⟩
           ·have h2:=e4 (1+j) v (by
             unfold qz
             rw[show 1+j=j+1 by omega,List.getElem?_cons_succ,List.getElem?_append_left (by rw[hO];exact(List.getElem?_eq_some_iff.1 hv).1),hO]
             exact hv)
            rw[<-h2]
            congr 2
            omega
           ·have h2:=e4 (21+j) v (by
             unfold qz
             rw[show 21+j=(20+j)+1 by omega,List.getElem?_cons_succ,List.getElem?_append_right (by rw[hO,hO20];omega),hO,hO20,show 20+j-20=j by omega,hNw]
             exact hv)
            rw[<-h2]
            congr 2
            omega
          have heqO:∀ W:World,(Op.equalIn 10000 86 (.agg O.toArray) (.agg ZL.toArray)).run Tryz.prog W=.ok (decide (m.old=zQ)) W:=fun W=>by rw[<-hO,HZE.out];exact eqId 86 und86a _ _ hmok.2.1.1 rfl W
          have heqN:∀ W:World,(Op.equalIn 10000 86 (.agg Nw.toArray) (.agg ZL.toArray)).run Tryz.prog W=.ok (decide (m.new=zQ)) W:=fun W=>by rw[<-hNw,HZE.out];exact eqId 86 und86a _ _ hmok.2.2.1 rfl W
          have HEQO:=hid heqO
          have HEQN:=hid heqN
          clear heqO heqN
          have hxk:Z9 (z,(m.new,[])):=⟨hz60,hmok.2.2,by simp⟩
          obtain⟨E,hE⟩:∃ E,qX (z,(m.new,[]))=E:=⟨_,rfl⟩
          have HBD:Hid (∀ W:World,(Instr.build 88 #[(0,.string A),(1,.agg Nw.toArray)]).run Tryz.prog W=.ok (.agg E.toArray) W):=fun W=>by rw[<-hE,<-HA.out,<-hNw];exact bd88i _ m.new hmok.2.2.1 W
          obtain⟨gn,hgn⟩:∃ b,decide (m.new=zQ)=b:=⟨_,rfl⟩
          rw[hgn] at HEQN
          have HRS:Hid (rsU rs ((ws.zip ms).take (i+1))=Rk.setL geS z (some (m.new,[])) (rsU rs ((ws.zip ms).take i)) gn):=hid (by
           rw[qj ([],dMv) _ i (by rw[HZN.out];exact hlt),HZL.out i hlt,hm]
           unfold rsU
           rw[List.foldl_append,List.foldl_cons,List.foldl_nil,hz,hgn])
          have C54:Hid (∀ W,Below r3 wA W->(∃ u1,Dq r3 W C u1 u2 (rsU rs ((ws.zip ms).take i)) ls)->Calls Tryz.prog 54 #[.pointer (some ⟨C,0,none⟩),.agg E.toArray,.bool gn] W fun e W'=>e=.returned (.tuple #[])/\Below r3 wA W'/\∃ u1,Dq r3 W' C u1 u2 (rsU rs ((ws.zip ms).take (i+1))) ls):=fun W hW hD=>by
           obtain⟨u1,hD⟩:=hD
           rw[<-hE]
           have hl:=rsU_len ((ws.zip ms).take i) rs
           have hl2:((ws.zip ms).take i).length<=i:=by rw[List.length_take];omega
           refine(set_doc (z,(m.new,[])) hxk gn W hD (HSZ.out W hW) (by have:=HRN.out;omega)).mono ?_
           rintro e W' ⟨rfl,⟨v,hD'⟩,hal⟩
           exact⟨rfl,HAL.out W W' hW hal,v,by rw[HRS.out];exact hD'⟩
          have HSTALE:Hid (¬ okO rs z m.old->∀ W,Below r2 w2 W->jV G Q rs ls ms p tx w (.returned (.int .i64 62)) W):=fun hn W hW=>HSAME.out 62 W (HUD.out _ _ _ (.inl ⟨i,by rw[HN.out];exact hlt,HOL.out,by rw[hz,hm];exact hn,rfl,rfl,rfl⟩)) (HBW.out W hW).1
          have HOL2:Hid (okO rs z m.old->∀ j,j<i+1->okO rs (enW (ws.getD j [])) (ms.getD j dMv).old):=fun ho j hj=>by
           by_cases e:j=i
           ·subst e;rw[hz,hm];exact ho
           ·exact HOL.out j (by omega)
          have hb0:=HBI3.out
          have hd0:Below r3 wA wr.drew:=hb0.trans (zv _ _ 1)
          have hdz:wr.drew.heap=wr.heap:=rfl
          have hD0:∃ u1,Dq r3 wr.drew C u1 u2 (rsU rs ((ws.zip ms).take i)) ls:=by
           obtain⟨u1,hD⟩:=HDC.out
           exact⟨u1,hD.below (zv _ _ 1)⟩
          have hS0:=HQF.out _ (HW23.out _ hd0)
          have HDC0:=hid hD0
          have HO:=hid hO
          have hwn1:IntKind.i64.wrap (n1:Int)=(n1:Int):=by rw[IntKind.wrap_i64];omega
          have hln1:(n1:Int)<(n1:Int)+1:=by omega
          clear hWi hm hz hO hNw hE hgn hD0
          go_wp2
          refine wp_region_held_drew (S:=Qf wb (wo+i) xb xo (xo+n1) n1 xc A) (by kernel_rfl) hS0 (fun hHeld=>?_)
          generalize wr.drew=u0 at hHeld hd0 hS0 HDC0 hdz ⊢
          iterate 13
           refine qq (v:=?_) hHeld ?_ ?_
           rotate_left
           ·rintro w' ⟨c1,c2⟩;go_simp;rfl
           try simp only[Act.put,sL]
          refine wpAnyH_done (by kernel_rfl) ?_ _
          have hfi:=Zz z u0 (HST.out u0 (HBW.out u0 (HW23.out u0 hd0)).1).1
          unfold sV at hfi
          rw[HA.out] at hfi
          have HD0':=hid hd0
          have HNEXT:Hid (∀ W,W=u0.drew->okO rs z m.old->Below r3 wA W/\(∃ u1,Dq r3 W C u1 u2 (rsU rs ((ws.zip ms).take i)) ls)):=fun W e _=>by
           subst e
           obtain⟨u1,hD⟩:=HDC0.out
           exact⟨HD0'.out.trans (zv _ _ 1),u1,hD.below (zv _ _ 1)⟩
          have hd1:Below r3 wA u0.drew:=hd0.trans (zv _ _ 1)
          have HD1:Hid (∃ u1,Dq r3 u0.drew C u1 u2 (rsU rs ((ws.zip ms).take i)) ls):=hid (by
           obtain⟨u1,hD⟩:=HDC0.out
           exact⟨u1,hD.below (zv _ _ 1)⟩)
          clear hHeld hS0 hd0 hdz HDC0 HNEXT
          cases hI:fI rs z with
          | none =>
           rw[hI] at hfi
           simp only[iV] at hfi
           have HOO:Hid (okO rs z m.old ↔ m.old=zQ):=hid (by unfold okO;rw[(jJ rs z).2 hI])
           clear hI
           go_wp2_with (go_at_call 53;refine hfi.mono ?_;rintro e w' ⟨rfl,hw⟩;have hw':=hw.symm;subst hw';clear hw hfi)
           have hS1:=HQG.out _ (HW23.out _ hd1)
           refine wp_region_held_drew (S:=Qg mb (mo+i*41+1) (mo+i*41+21) (r+1) O Nw ZL) (by kernel_rfl) hS1 (fun hHeld=>?_)
           generalize u0.drew=u1 at hHeld hd1 hS1 HD1 ⊢
           by_cases ho:m.old=zQ
           ·as_aux_lemma =>
             iterate 7
              refine qq (v:=?_) hHeld ?_ ?_
              rotate_left
              ·intro w' hw';go_simp;rfl
              try simp only[Act.put,sL]
             refine takeY (i:=7) (v:=.agg O.toArray) hHeld (fun w' hw'=>qx 86 (.tmp 123) rfl mb (mo+i*41+1) rfl O _ hw'.ro Tryz.underlying86 rfl HIO.out) ?_
             try simp only[Act.put,sL]
             refine takeY (i:=8) (v:=.agg ZL.toArray) hHeld (fun w' hw'=>qx 86 (.tmp 9) rfl (r+1) 0 rfl ZL _ hw'.rz Tryz.underlying86 rfl HIZ.out) ?_
             try simp only[Act.put,sL]
             refine takeY (i:=9) (v:=.bool false) hHeld ?_ ?_
             ·intro w' hw';have heq':=HEQO.out w';rw[decide_eq_true ho] at heq';go_simp
             try simp only[Act.put,sL]
             iterate 5
              refine qq (v:=?_) hHeld ?_ ?_
              rotate_left
              ·intro w' hw';go_simp;rfl
              try simp only[Act.put,sL]
             iterate 23
              refine Z8 hHeld ?_
              try simp only[Act.put,sL]
             iterate 2
              refine qq (v:=?_) hHeld ?_ ?_
              rotate_left
              ·intro w' hw';go_simp;rfl
              try simp only[Act.put,sL]
             refine wpAnyH_done (by kernel_rfl) ?_ _
             have HOL3:=hid (HOL2.out (HOO.out.2 ho))
             have HD1b:=hid hd1
             clear hHeld hS1
             go_wp2
             have hd2:Below r3 wA u1.drew:=hd1.trans (zv _ _ 1)
             have hS2:=HQG.out _ (HW23.out _ hd2)
             have HD2:Hid (∃ v,Dq r3 u1.drew C v u2 (rsU rs ((ws.zip ms).take i)) ls):=hid (by
              obtain⟨v,hD⟩:=HD1.out
              exact⟨v,hD.below (zv _ _ 1)⟩)
             refine wp_region_held_drew (S:=Qg mb (mo+i*41+1) (mo+i*41+21) (r+1) O Nw ZL) (by kernel_rfl) hS2 (fun hHeld=>?_)
             generalize u1.drew=u3 at hHeld hd2 hS2 HD2 ⊢
             iterate 6
              refine qq (v:=?_) hHeld ?_ ?_
              rotate_left
              ·intro w' hw';go_simp;rfl
              try simp only[Act.put,sL]
             refine takeY (i:=6) (v:=.agg Nw.toArray) hHeld (fun w' hw'=>qx 86 (.tmp 162) rfl mb (mo+i*41+21) rfl Nw _ hw'.rn Tryz.underlying86 rfl HIN.out) ?_
             try simp only[Act.put,sL]
             refine takeY (i:=7) (v:=.agg E.toArray) hHeld (fun w' hw'=>xJ 88 0 1 (.tmp 158) (.tmp 163) rfl (.string A) (.agg Nw.toArray) _ rfl rfl (HBD.out _)) ?_
             try simp only[Act.put,sL]
             iterate 4
              refine qq (v:=?_) hHeld ?_ ?_
              rotate_left
              ·intro w' hw';go_simp;rfl
              try simp only[Act.put,sL]
             refine takeY (i:=12) (v:=.agg Nw.toArray) hHeld (fun w' hw'=>qx 86 (.tmp 168) rfl mb (mo+i*41+21) rfl Nw _ hw'.rn Tryz.underlying86 rfl HIN.out) ?_
             try simp only[Act.put,sL]
             refine takeY (i:=13) (v:=.agg ZL.toArray) hHeld (fun w' hw'=>qx 86 (.tmp 9) rfl (r+1) 0 rfl ZL _ hw'.rz Tryz.underlying86 rfl HIZ.out) ?_
             try simp only[Act.put,sL]
             refine takeY (i:=14) (v:=.bool gn) hHeld ?_ ?_
             ·intro w' hw';have heq':=HEQN.out w';go_simp
             try simp only[Act.put,sL]
             refine vv 15 54 [.tmp 157,.tmp 164,.tmp 171] [.pointer (some ⟨C,0,none⟩),.agg E.toArray,.bool gn] (C54.out u3 hd2 HD2.out) ?_
             rintro e u4 ⟨rfl,hb4,hD4⟩
             refine⟨_,rfl,HQG.out _ (HW23.out _ hb4),fun hHeld=>?_⟩
             try simp only[Act.put,sL]
             refine wpAnyH_done (by kernel_rfl) ?_ _
             have HB4:=hid hb4
             have HD4:=hid hD4
             clear hHeld hS2 hb4 hD4 hd2
             go_wp2
             go_roundg (N-(i+1))
             case measure=>omega
             case rel=>exact⟨i+1,by go_num,rfl,by omega,HB4,HD4,HOL3⟩
           ·as_aux_lemma =>
             iterate 7
              refine qq (v:=?_) hHeld ?_ ?_
              rotate_left
              ·intro w' hw';go_simp;rfl
              try simp only[Act.put,sL]
             refine takeY (i:=7) (v:=.agg O.toArray) hHeld (fun w' hw'=>qx 86 (.tmp 123) rfl mb (mo+i*41+1) rfl O _ hw'.ro Tryz.underlying86 rfl HIO.out) ?_
             try simp only[Act.put,sL]
             refine takeY (i:=8) (v:=.agg ZL.toArray) hHeld (fun w' hw'=>qx 86 (.tmp 9) rfl (r+1) 0 rfl ZL _ hw'.rz Tryz.underlying86 rfl HIZ.out) ?_
             try simp only[Act.put,sL]
             refine takeY (i:=9) (v:=.bool true) hHeld ?_ ?_
             ·intro w' hw';have heq':=HEQO.out w';rw[decide_eq_false ho] at heq';go_simp
             try simp only[Act.put,sL]
             iterate 2
              refine qq (v:=?_) hHeld ?_ ?_
              rotate_left
              ·intro w' hw';go_simp;rfl
              try simp only[Act.put,sL]
             iterate 27
              refine Z8 hHeld ?_
              try simp only[Act.put,sL]
             iterate 1
              refine qq (v:=?_) hHeld ?_ ?_
              rotate_left
              ·intro w' hw';go_simp;rfl
              try simp only[Act.put,sL]
             refine wpAnyH_done (by kernel_rfl) ?_ _
             have HE:=hid (HSTALE.out (fun hh=>ho (HOO.out.1 hh)) u1 (HW23.out _ hd1))
             clear hHeld hS1
             go_wp2
             exact bodyPost_ret (results_tmp Tryz.results22 _ _ _) rfl HE.out
          | some k0 =>
           rw[hI] at hfi
           simp only[iV] at hfi
           obtain⟨hk1,hk2,hk3⟩:=(jJ rs z).1 k0 hI
           have hrk:=HD0.out.ok1 _ (zK rs k0 dR hk1)
           obtain⟨id,hid0⟩:∃ x,(rs.getD k0 dR).2.1=x:=⟨_,rfl⟩
           have HOO:Hid (okO rs z m.old ↔ id=m.old/\m.old ≠ zQ):=hid (by unfold okO;rw[hk3];simp only;rw[hid0])
           obtain⟨I,hII⟩:∃ L,row .u8 id=L:=⟨_,rfl⟩
           have hI20:I.length=20:=by rw[<-hII,zw,<-hid0];exact hrk.2.1.1
           have HII:Hid ((Tryz.prog.info? 86).map (·.size)=some I.length):=hid (by rw[hI20];kernel_rfl)
           have heqI:∀ W:World,(Op.equalIn 10000 86 (.agg I.toArray) (.agg O.toArray)).run Tryz.prog W=.ok (decide (id=m.old)) W:=fun W=>by rw[<-hII,<-HO.out];exact eqId 86 und86a _ _ (by rw[<-hid0];exact hrk.2.1.1) hmok.2.1.1 W
           have HEQI:=hid heqI
           clear heqI
           obtain⟨qa,qc,hv1e,hPq,_,hcq⟩:=(HST.out u0 (HBW.out u0 (HW23.out u0 HD0'.out)).1).1.px1
           obtain⟨qb,qo,hqa,_,_⟩:=hPq.at_ (by omega)
           subst hqa
           obtain⟨NR,hNR⟩:∃ n,rs.length=n:=⟨_,rfl⟩
           have HQI:Hid (∀ W,Below r2 w2 W->Qi mb (mo+i*41+1) (mo+i*41+21) (r+1) Q qb qo (qo+k0*22+1) NR qc O Nw ZL I W):=fun W hW=>by
            obtain⟨qa',qc',e1,hPW,_,hcW⟩:=(HST.out W (HBW.out W hW).1).1.px1
            rw[hv1e] at e1
            injection e1 with e2 _ e3
            rw[<-e2,<-e3,hNR] at hcW
            rw[<-e2] at hPW
            obtain⟨_,_,e4,_,e5⟩:=hPW.at_ (by omega)
            cases e4
            have e6:=e5 k0 hk1
            refine⟨HQG.out W hW,hcW,fun j v hv=>?_⟩
            have:=e6 (1+j) v (by
             unfold qX
             rw[Nat.add_comm 1 j,List.getElem?_cons_succ,List.getElem?_append_left (by rw[hid0,hII];exact(List.getElem?_eq_some_iff.1 hv).1),hid0,hII]
             exact hv)
            rw[<-this]
            congr 2
            omega
           have hk1i:(k0:Int)<(NR:Int):=by omega
           have hk0i:¬ ((k0:Int)<0):=by omega
           have hk0j:(0:Int)<=(k0:Int):=by omega
           have HV1E:=hid hv1e
           clear hI hk1 hk2 hk3 hrk hid0 hII hPq hcq hNR hv1e
           go_wp2_with (go_at_call 53;refine hfi.mono ?_;rintro e w' ⟨rfl,hw⟩;have hw':=hw.symm;subst hw';clear hw hfi)
           have hS1:=HQI.out _ (HW23.out _ hd1)
           refine wp_region_held_drew (S:=Qi mb (mo+i*41+1) (mo+i*41+21) (r+1) Q qb qo (qo+k0*22+1) NR qc O Nw ZL I) (by kernel_rfl) hS1 (fun hHeld=>?_)
           generalize u0.drew=u1 at hHeld hd1 hS1 HD1 ⊢
           iterate 3
            refine qq (v:=?_) hHeld ?_ ?_
            rotate_left
            ·intro w' hw';go_simp;rfl
            try simp only[Act.put,sL]
           iterate 7
            refine Z8 hHeld ?_
            try simp only[Act.put,sL]
           iterate 5
            refine qq (v:=?_) hHeld ?_ ?_
            rotate_left
            ·intro w' hw';go_simp;rfl
            try simp only[Act.put,sL]
           iterate 7
            refine qq (v:=?_) hHeld ?_ ?_
            rotate_left
            ·rintro w' ⟨_,c0,_⟩;go_simp;rfl
            try simp only[Act.put,sL]
           refine takeY (i:=22) (v:=.agg I.toArray) hHeld (fun w' hw'=>qx 86 (.tmp 138) rfl qb (qo+k0*22+1) rfl I _ hw'.ri Tryz.underlying86 rfl HII.out) ?_
           try simp only[Act.put,sL]
           iterate 4
            refine qq (v:=?_) hHeld ?_ ?_
            rotate_left
            ·intro w' hw';go_simp;rfl
            try simp only[Act.put,sL]
           refine takeY (i:=27) (v:=.agg O.toArray) hHeld (fun w' hw'=>qx 86 (.tmp 143) rfl mb (mo+i*41+1) rfl O _ hw'.ro Tryz.underlying86 rfl HIO.out) ?_
           try simp only[Act.put,sL]
           refine takeY (i:=28) (v:=.bool (!decide (id=m.old))) hHeld ?_ ?_
           ·intro w' hw';have heq':=HEQI.out w';go_simp
           try simp only[Act.put,sL]
           by_cases hio:id=m.old
           ·rw[decide_eq_true hio]
            as_aux_lemma =>
             iterate 5
              refine qq (v:=?_) hHeld ?_ ?_
              rotate_left
              ·intro w' hw';go_simp;rfl
              try simp only[Act.put,sL]
             refine takeY (i:=34) (v:=.agg O.toArray) hHeld (fun w' hw'=>qx 86 (.tmp 150) rfl mb (mo+i*41+1) rfl O _ hw'.ro Tryz.underlying86 rfl HIO.out) ?_
             try simp only[Act.put,sL]
             refine takeY (i:=35) (v:=.agg ZL.toArray) hHeld (fun w' hw'=>qx 86 (.tmp 9) rfl (r+1) 0 rfl ZL _ hw'.rz Tryz.underlying86 rfl HIZ.out) ?_
             try simp only[Act.put,sL]
             refine takeY (i:=36) (v:=.bool (decide (m.old=zQ))) hHeld ?_ ?_
             ·intro w' hw';have heq':=HEQO.out w';go_simp
             try simp only[Act.put,sL]
             by_cases ho:m.old=zQ
             ·rw[decide_eq_true ho]
              as_aux_lemma =>
               iterate 3
                refine qq (v:=?_) hHeld ?_ ?_
                rotate_left
                ·intro w' hw';go_simp;rfl
                try simp only[Act.put,sL]
               refine wpAnyH_done (by kernel_rfl) ?_ _
               have HE:=hid (HSTALE.out (fun hh=>(HOO.out.1 hh).2 ho) u1 (HW23.out _ hd1))
               clear hHeld hS1
               go_wp2
               exact bodyPost_ret (results_tmp Tryz.results22 _ _ _) rfl HE.out
             ·rw[decide_eq_false ho]
              as_aux_lemma =>
               iterate 3
                refine qq (v:=?_) hHeld ?_ ?_
                rotate_left
                ·intro w' hw';go_simp;rfl
                try simp only[Act.put,sL]
               refine wpAnyH_done (by kernel_rfl) ?_ _
               have HOL3:=hid (HOL2.out (HOO.out.2 ⟨hio,ho⟩))
               have HD1b:=hid hd1
               clear hHeld hS1
               go_wp2
               have hd2:Below r3 wA u1.drew:=hd1.trans (zv _ _ 1)
               have hS2:=HQG.out _ (HW23.out _ hd2)
               have HD2:Hid (∃ v,Dq r3 u1.drew C v u2 (rsU rs ((ws.zip ms).take i)) ls):=hid (by
                obtain⟨v,hD⟩:=HD1.out
                exact⟨v,hD.below (zv _ _ 1)⟩)
               refine wp_region_held_drew (S:=Qg mb (mo+i*41+1) (mo+i*41+21) (r+1) O Nw ZL) (by kernel_rfl) hS2 (fun hHeld=>?_)
               generalize u1.drew=u3 at hHeld hd2 hS2 HD2 ⊢
               iterate 6
                refine qq (v:=?_) hHeld ?_ ?_
                rotate_left
                ·intro w' hw';go_simp;rfl
                try simp only[Act.put,sL]
               refine takeY (i:=6) (v:=.agg Nw.toArray) hHeld (fun w' hw'=>qx 86 (.tmp 162) rfl mb (mo+i*41+21) rfl Nw _ hw'.rn Tryz.underlying86 rfl HIN.out) ?_
               try simp only[Act.put,sL]
               refine takeY (i:=7) (v:=.agg E.toArray) hHeld (fun w' hw'=>xJ 88 0 1 (.tmp 158) (.tmp 163) rfl (.string A) (.agg Nw.toArray) _ rfl rfl (HBD.out _)) ?_
               try simp only[Act.put,sL]
               iterate 4
                refine qq (v:=?_) hHeld ?_ ?_
                rotate_left
                ·intro w' hw';go_simp;rfl
                try simp only[Act.put,sL]
               refine takeY (i:=12) (v:=.agg Nw.toArray) hHeld (fun w' hw'=>qx 86 (.tmp 168) rfl mb (mo+i*41+21) rfl Nw _ hw'.rn Tryz.underlying86 rfl HIN.out) ?_
               try simp only[Act.put,sL]
               refine takeY (i:=13) (v:=.agg ZL.toArray) hHeld (fun w' hw'=>qx 86 (.tmp 9) rfl (r+1) 0 rfl ZL _ hw'.rz Tryz.underlying86 rfl HIZ.out) ?_
               try simp only[Act.put,sL]
               refine takeY (i:=14) (v:=.bool gn) hHeld ?_ ?_
               ·intro w' hw';have heq':=HEQN.out w';go_simp
               try simp only[Act.put,sL]
               refine vv 15 54 [.tmp 157,.tmp 164,.tmp 171] [.pointer (some ⟨C,0,none⟩),.agg E.toArray,.bool gn] (C54.out u3 hd2 HD2.out) ?_
               rintro e u4 ⟨rfl,hb4,hD4⟩
               refine⟨_,rfl,HQG.out _ (HW23.out _ hb4),fun hHeld=>?_⟩
               try simp only[Act.put,sL]
               refine wpAnyH_done (by kernel_rfl) ?_ _
               have HB4:=hid hb4
               have HD4:=hid hD4
               clear hHeld hS2 hb4 hD4 hd2
               go_wp2
               go_roundg (N-(i+1))
               case measure=>omega
               case rel=>exact⟨i+1,by go_num,rfl,by omega,HB4,HD4,HOL3⟩
           ·rw[decide_eq_false hio]
            as_aux_lemma =>
             iterate 1
              refine qq (v:=?_) hHeld ?_ ?_
              rotate_left
              ·intro w' hw';go_simp;rfl
              try simp only[Act.put,sL]
             iterate 7
              refine Z8 hHeld ?_
              try simp only[Act.put,sL]
             iterate 3
              refine qq (v:=?_) hHeld ?_ ?_
              rotate_left
              ·intro w' hw';go_simp;rfl
              try simp only[Act.put,sL]
             refine wpAnyH_done (by kernel_rfl) ?_ _
             have HE:=hid (HSTALE.out (fun hh=>hio (HOO.out.1 hh).1) u1 (HW23.out _ hd1))
             clear hHeld hS1
             go_wp2
             exact bodyPost_ret (results_tmp Tryz.results22 _ _ _) rfl HE.out
        ·have hlti:¬ (i:Int)<(N:Int):=by omega
         have hiN:N=i:=by omega
         subst hiN
         as_aux_lemma =>
          obtain⟨rF,HRF⟩:=nm_ (rsU rs (ws.zip ms))
          have HRF2:Hid (rsU rs ((ws.zip ms).take N)=rF):=hid (by rw[List.take_of_length_le (by rw[HZN.out];exact Nat.le_refl _)];exact HRF.out)
          rw[HRF2.out] at HDC
          have HUB:Hid (∀ k rs' ls',((Rk.clD (rF.map (·.1))/\k=63/\rs'=rs/\ls'=ls) ∨ (¬ Rk.clD (rF.map (·.1))/\((¬ okG p tx/\k=125/\rs'=rs/\ls'=ls) ∨ (okG p tx/\k=0/\rs'=rF/\ls'=Rk.prn rF (ls++enU p tx (ws.zip ms))))))->UdP rs ls ms p tx k rs' ls'):=fun k rs' ls' hh=>HUD.out k rs' ls' (.inr ⟨by rw[HN.out];exact HOL.out,by rw[HRF.out];exact hh⟩)
          have C55:Calls Tryz.prog 55 #[.pointer (some ⟨C,0,none⟩)] wr (Post55 rF wr):=by
           obtain⟨u1,hD⟩:=HDC.out
           exact clash_doc wr hD
          have HRFN:Hid (rF.length<=100000):=hid (by
           obtain⟨u1,hD⟩:=HDC.out
           exact hD.few.1)
          have C56:Hid (Calls Tryz.prog 56 #[.agg PV] wr fun e w'=>∃ (s:ByteArray) (b:Bool),e=.returned (.tuple #[.string s,.bool b])/\(b=true->okP p)/\(b=false->¬ okP p)/\Below r3 wA w'/\(∃ u1,Dq r3 w' C u1 u2 rF ls)):=hid (by
           rw[<-HPV.out]
           refine(text_any p wr).mono ?_
           rintro e w' ⟨hb,hx⟩
           have hb':Below r3 wA w':=HBI3.out.trans (hb.mono (HSZ.out wr HBI3.out))
           have hD':∃ u1,Dq r3 w' C u1 u2 rF ls:=by
            obtain⟨u1,hD⟩:=HDC.out
            exact⟨u1,hD.below hb⟩
           rcases hx with ⟨h1,rfl⟩ | ⟨h1,rfl⟩
           ·exact⟨_,true,rfl,fun _=>h1,fun h=>(by cases h),hb',hD'⟩
           ·exact⟨_,false,rfl,fun h=>(by cases h),fun _=>h1,hb',hD'⟩)
          have hprw:=(HBW.out wr (HW23.out wr HBI3.out)).2.1
          have HPRW:=hid hprw
          clear hprw
          unfold Post55 at C55
          go_wp2_with (go_at_call 55;refine C55.mono ?_;rintro e w' ⟨b5,rfl,hbi,hw⟩;have hw':=hw.symm;subst hw';have HBI5:=hid hbi;clear hw hbi C55;refine Hid.out ?_)
          refine hid ?_
          cases b5 with
          | true =>
           have HE:Hid (jV G Q rs ls ms p tx w (.returned (.int .i64 63)) wr):=hid (HSAME.out 63 wr (HUB.out _ _ _ (.inl ⟨HBI5.out.1 rfl,rfl,rfl,rfl⟩)) (HBW.out wr (HW23.out wr HBI3.out)).1)
           go_wp2
           exact bodyPost_ret (results_tmp Tryz.results22 _ _ _) rfl HE.out
          | false =>
           have HNCL:Hid (¬ Rk.clD (rF.map (·.1))):=hid (fun hc=>by have:=HBI5.out.2 hc;cases this)
           have HUC:Hid (∀ W,Below r3 wA W->¬ okG p tx->jV G Q rs ls ms p tx w (.returned (.int .i64 125)) W):=fun W hW hg=>HSAME.out 125 W (HUB.out _ _ _ (.inr ⟨HNCL.out,.inl ⟨hg,rfl,rfl,rfl⟩⟩)) (HBW.out W (HW23.out W hW)).1
           go_wp2_with (first
            | (refine zu rfl 74 (.tmp 6) rfl r PV 74 (0,0) _ rfl HPRW.out Tryz.underlying74 rfl HI4.out ?_;go_frame)
            | (go_at_call 56;refine C56.out.mono ?_;rintro e w5 ⟨s5,b6,rfl,k1,k2,k3,k4⟩;have K1:=hid k1;have K2:=hid k2;have K3:=hid k3;have K4:=hid k4;clear k1 k2 k3 k4;refine Hid.out ?_))
           refine hid ?_
           obtain⟨n,HTN⟩:=nm_ tx.length
           have hsz:X.size=n:=by rw[<-HX.out,<-HTN.out];simp[ByteArray.size]
           cases b6 with
           | false =>
            have HE:=hid (HUC.out w5 K3.out (fun hg=>K2.out rfl hg.1))
            go_wp2
            exact bodyPost_ret (results_tmp Tryz.results22 _ _ _) rfl HE.out
           | true =>
            have HOP:=hid (K1.out rfl)
            by_cases h2k:n<=2000
            ·have h2i:¬ (2000:Int)<(n:Int):=by omega
             go_wp2
             go_loopg [24] n (fun g iv wr=>∃ j:Nat,j<=n/\g=n-j/\iv=.int .i64 j/\Hid (∀ x ∈ tx.take j,x ≠ 10/\x ≠ 0)/\wr=w5)
             case atStart=>exact⟨0,by omega,rfl,rfl,hid (by simp),rfl⟩
             case round =>
              obtain⟨j,hj,hk,rfl,HT,hwt⟩:=hrel
              subst hwt
              by_cases hlj:j<n
              ·as_aux_lemma =>
                have hlji:(j:Int)<(n:Int):=by omega
                obtain⟨x,hx⟩:∃ x,tx[j]? = some x:=⟨_,List.getElem?_eq_getElem (by rw[HTN.out];exact hlj)⟩
                obtain⟨cc,HC⟩:=nm_ (x.toNat:Int)
                have HXX:Hid (tx[j]? = some x):=hx
                have hix:∀ w1:World,(Instr.index 9 (.string X) (.int .i64 j)).run Tryz.prog w1=.ok (.int .u8 cc) w1:=fun w1=>by rw[<-HX.out,<-HC.out];exact Z1 tx j w1 x HXX.out
                clear hx
                have HIFF:Hid (∀ y:UInt8,(x.toNat:Int)=(y.toNat:Int)->x=y):=fun y e=>UInt8.toNat_inj.1 (by omega)
                by_cases h10:cc=10
                ·have HE:=hid (HUC.out wr K3.out (fun hg=>(hg.2.2 x (List.mem_of_getElem? HXX.out)).1 (HIFF.out 10 (by rw[HC.out,h10];rfl))))
                 subst h10
                 go_wp2
                 exact bodyPost_ret (results_tmp Tryz.results22 _ _ _) rfl HE.out
                ·by_cases h00:cc=0
                 ·have HE:=hid (HUC.out wr K3.out (fun hg=>(hg.2.2 x (List.mem_of_getElem? HXX.out)).2 (HIFF.out 0 (by rw[HC.out,h00];rfl))))
                  subst h00
                  go_wp2
                  exact bodyPost_ret (results_tmp Tryz.results22 _ _ _) rfl HE.out
                 ·have b1:(cc == 10)=false:=by simpa using h10
                  have b2:(cc == 0)=false:=by simpa using h00
                  have HT2:Hid (∀ x ∈ tx.take (j+1),x ≠ 10/\x ≠ 0):=hid (by
                   rw[take_snoc8 tx j x HXX.out]
                   intro y hy
                   rcases List.mem_append.1 hy with hy | hy
                   ·exact HT.out y hy
                   ·have:y=x:=by simpa using hy
                    subst this
                    exact⟨fun e=>h10 (by rw[<-HC.out,e];rfl),fun e=>h00 (by rw[<-HC.out,e];rfl)⟩)
                  clear h10 h00
                  go_wp2
                  go_roundg (n-(j+1))
                  case measure=>omega
                  case rel=>exact⟨j+1,by omega,rfl,by go_num,HT2,rfl⟩
              ·have hljn:¬ (j:Int)<(n:Int):=by omega
               have HOG:Hid (okG p tx):=hid ⟨HOP.out,by rw[HTN.out];exact h2k,by
                have h1:=HT.out
                rw[List.take_of_length_le (by rw[HTN.out];omega)] at h1
                exact h1⟩
               as_aux_lemma =>
                have HD5:Hid (∃ u1 u2,Dq r3 wr C u1 u2 rF (ls++enU p tx ((ws.zip ms).take 0))):=hid (by
                 obtain⟨u1,hD⟩:=K4.out
                 exact⟨u1,u2,by simpa [enU] using hD⟩)
                have HEL:Hid (∀ j,(enU p tx ((ws.zip ms).take j)).length<=9*j):=fun j=>by
                 have h1:=enU_len p tx ((ws.zip ms).take j) (fun y hy=>by
                  obtain⟨q,hq,eq⟩:=List.getElem_of_mem (List.mem_of_mem_take hy)
                  have hqn:q<N:=by rw[<-HZN.out];exact hq
                  have e1:=HZL.out q hqn
                  rw[List.getD_eq_getElem?_getD,List.getElem?_eq_getElem hq,Option.getD_some,eq] at e1
                  obtain⟨_,_,_,_,n1,_,_,hn1,hm1,_⟩:=HWE.out q hqn
                  rw[e1]
                  simp only
                  omega)
                 have h2:((ws.zip ms).take j).length<=j:=by rw[List.length_take];omega
                 omega
                have HIP:Hid ((Tryz.prog.info? 74).map (·.size)=some PV.toList.length):=hid (by simpa using HI4.out)
                have HRP:Hid (∀ W,Below r2 w2 W->W.rangeAt r 0 PV.toList):=fun W hW=>zy (by simpa using (HBW.out W hW).2.1)
                go_wp2
                go_loopg [25] N (fun q iv wr=>∃ i:Nat,iv=.int .i64 i/\q=N-i/\i<=N/\Hid (Below r3 wA wr)/\Hid (∃ u1 u2,Dq r3 wr C u1 u2 rF (ls++enU p tx ((ws.zip ms).take i))))
                case atStart=>exact⟨0,rfl,rfl,Nat.zero_le _,K3,HD5⟩
                case round =>
                 obtain⟨i,rfl,hq,hin,HBL,HDL⟩:=hrel
                 by_cases hlt:i<N
                 ·as_aux_lemma =>
                   have hlti:(i:Int)<(N:Int):=by omega
                   obtain⟨wb,wo,xb,xo,n1,xc,hua,hn1,hm1,hz1,hWi⟩:=HWE.out i hlt
                   subst hua
                   obtain⟨mb,mo,hma,_,_⟩:=(HPX.out wr (HW23.out wr HBL.out)).at_ (by rw[HN.out];omega)
                   subst hma
                   have hmok:xw (ms.getD i dMv):=HOK.out _ (zK ms i dMv (by rw[HN.out];exact hlt))
                   obtain⟨m,hm⟩:∃ m,ms.getD i dMv=m:=⟨_,rfl⟩
                   rw[hm] at hmok
                   obtain⟨l,hl⟩:∃ l,ws.getD i []=l:=⟨_,rfl⟩
                   rw[hl] at hn1 hz1 hWi
                   obtain⟨O,hO⟩:∃ O,row .u8 m.old=O:=⟨_,rfl⟩
                   obtain⟨Nw,hNw⟩:∃ O,row .u8 m.new=O:=⟨_,rfl⟩
                   have hO20:O.length=20:=by rw[<-hO,zw];exact hmok.2.1.1
                   have hN20:Nw.length=20:=by rw[<-hNw,zw];exact hmok.2.2.1
                   have HIO:Hid ((Tryz.prog.info? 86).map (·.size)=some O.length):=hid (by rw[hO20];kernel_rfl)
                   have HIN:Hid ((Tryz.prog.info? 86).map (·.size)=some Nw.length):=hid (by rw[hN20];kernel_rfl)
                   have HQG:Hid (∀ W,Below r2 w2 W->Qg mb (mo+i*41+1) (mo+i*41+21) (r+1) O Nw ZL W):=fun W hW=>by
                    obtain⟨_,_,e1,_,e3⟩:=(HPX.out W hW).at_ (by rw[HN.out];omega)
                    cases e1
                    have e4:=e3 i (by rw[HN.out];exact hlt)
                    rw[hm] at e4
                    refine⟨fun j v hv=>?_,fun j v hv=>?_,HRZ.out W hW⟩
                    ·have h2:=e4 (1+j) v (by
                      unfold qz
                      rw[show 1+j=j+1 by omega,List.getElem?_cons_succ,List.getElem?_append_left (by rw[hO];exact(List.getElem?_eq_some_iff.1 hv).1),hO]
                      exact hv)
                     rw[<-h2]
                     congr 2
                     omega
                    ·have h2:=e4 (21+j) v (by
                      unfold qz
                      rw[show 21+j=(20+j)+1 by omega,List.getElem?_cons_succ,List.getElem?_append_right (by rw[hO,hO20];omega),hO,hO20,show 20+j-20=j by omega,hNw]
                      exact hv)
                     rw[<-h2]
                     congr 2
                     omega
                   have HEN:Hid (enU p tx ((ws.zip ms).take (i+1))=enU p tx ((ws.zip ms).take i)++l.map (fun a=>(a,j8 p tx m))):=hid (by
                    rw[qj ([],dMv) _ i (by rw[HZN.out];exact hlt),HZL.out i hlt,hm,hl]
                    unfold enU
                    rw[List.flatMap_append,List.flatMap_cons,List.flatMap_nil,List.append_nil])
                   have HWI:=hid hWi
                   have HHO:=hid hO
                   have HHN:=hid hNw
                   have HLL:=hid hn1
                   have HZ60:=hid hz1
                   have hcl0:=(hWi wr (HW23.out wr HBL.out)).c
                   have HD6:Hid (∃ u1 u2,Dq r3 wr C u1 u2 rF (ls++enU p tx ((ws.zip ms).take i)++(l.take 0).map (fun a=>(a,j8 p tx m)))):=hid (by
                    obtain⟨u1,u2,hD⟩:=HDL.out
                    exact⟨u1,u2,by simpa using hD⟩)
                   clear hWi hO hNw hm hl hz1 hn1
                   go_wp2
                   go_loopg [26] (n1+1) (fun q kv wr=>∃ k:Nat,kv=.int .i64 k/\q=n1+1-k/\k<=n1+1/\Hid (Below r3 wA wr)/\Hid (∃ u1 u2,Dq r3 wr C u1 u2 rF (ls++enU p tx ((ws.zip ms).take i)++(l.take k).map (fun a=>(a,j8 p tx m)))))
                   case atStart=>exact⟨0,rfl,rfl,by omega,HBL,HD6⟩
                   case round =>
                    obtain⟨k,rfl,hq2,hkn,HBK,HDK⟩:=hrel
                    have hck:=(HWI.out wr (HW23.out wr HBK.out)).c
                    by_cases hlk:k<n1+1
                    ·have hlki:(k:Int)<(n1:Int)+1:=by omega
                     as_aux_lemma =>
                      obtain⟨u1,u2',hD⟩:=HDK.out
                      obtain⟨x,hx⟩:∃ x,l.getD k []=x:=⟨_,rfl⟩
                      have hx60:x.length<=60:=by rw[<-hx];exact HZ60.out _ (zK l k [] (by rw[HLL.out];exact hlk))
                      obtain⟨A,HA⟩:=nm_ (⟨x.toArray⟩:ByteArray)
                      obtain⟨LS,hLS⟩:∃ L,ls++enU p tx ((ws.zip ms).take i)++(l.take k).map (fun a=>(a,j8 p tx m))=L:=⟨_,rfl⟩
                      rw[hLS] at hD
                      have HLS:Hid (ls++enU p tx ((ws.zip ms).take i)++(l.take (k+1)).map (fun a=>(a,j8 p tx m))=LS++[(x,j8 p tx m)]):=hid (by
                       rw[qj [] l k (by rw[HLL.out];exact hlk),hx,List.map_append,<-List.append_assoc,hLS]
                       rfl)
                      have HLSN:Hid (LS.length+1<=1000000):=hid (by
                       rw[<-hLS,List.length_append,List.length_append,List.length_map,List.length_take]
                       have h1:=HEL.out i
                       have h2:=HLN9.out
                       have h3:=HLL.out
                       omega)
                      have hxo:ExOk (x,j8 p tx m):=⟨hx60,hmok.2.1,hmok.2.2⟩
                      obtain⟨va,vc,hv2,hP2,_,hc2⟩:=hD.px2
                      subst hv2
                      obtain⟨un,hun⟩:∃ n,LS.length=n:=⟨_,rfl⟩
                      rw[hun] at hc2
                      obtain⟨E,hE⟩:∃ E,yz (x,j8 p tx m)=E:=⟨_,rfl⟩
                      have hE46:E.length=46:=by rw[<-hE];exact yy hxo
                      have HBD:Hid (∀ W:World,(Instr.build 141 #[(0,.string A),(1,.agg O.toArray),(2,.agg Nw.toArray),(3,.agg PV),(4,.string X)]).run Tryz.prog W=.ok (.agg E.toArray) W):=fun W=>by
                       rw[<-HHO.out,<-HHN.out,<-HPV.out,<-hE,<-HX.out,<-HA.out]
                       exact bd141 _ m.old m.new hmok.2.1.1 hmok.2.2.1 p ⟨tx.toArray⟩ W
                      have HBSE:Hid (∀ W:World,(Instr.buildSlice 29 1 #[(0,.agg E.toArray)]).run Tryz.prog W=.ok (.slice (some ⟨W.heap.size,0,none⟩) 1 1) (W.alloc (.cells E.toArray 141))):=fun W=>by rw[<-hE];exact QJ _ hxo W
                      have HPOE:Hid (∀ W:World,Px yz 46 dE (W.alloc (.cells E.toArray 141)) (some ⟨W.heap.size,0,none⟩) 1 [(x,j8 p tx m)]):=fun W=>by
                       have:=yu (enc:=yz) (d:=dE) W (x,j8 p tx m) 141
                       rw[hE,hE46] at this
                       exact this
                      have HEE:Hid ((yz (x,j8 p tx m)).length=46):=hid (by rw[hE];exact hE46)
                      have HQL:Hid (∀ W,Below r2 w2 W->W.cell? ⟨C,1,none⟩=some (.slice va un vc)->Ql wb (wo+i) xb xo (xo+k) n1 xc mb (mo+i*41+1) (mo+i*41+21) (r+1) C r A O Nw ZL PV.toList (.slice va un vc) W):=fun W hW hc=>by
                       have g1:=(HWI.out W hW).at_ k (by omega)
                       rw[hx] at g1
                       exact⟨HQG.out W hW,(HWI.out W hW).c,by rw[<-HA.out];exact g1,hc,HRP.out W hW⟩
                      have hd0:Below r3 wA wr.drew:=HBK.out.trans (zv _ _ 1)
                      have hDd:Dq r3 wr.drew C u1 (.slice va LS.length vc) rF LS:=hD.below (zv _ _ 1)
                      have hcd:wr.drew.cell? ⟨C,1,none⟩=some (.slice va un vc):=by rw[<-hun];simp[World.cell?,hDd.box]
                      have hS0:=HQL.out _ (HW23.out _ hd0) hcd
                      have HE0:=hid hE
                      clear hE hD hP2 hc2 hx hLS
                      go_wp2
                      refine Xx (Ql wb (wo+i) xb xo (xo+k) n1 xc mb (mo+i*41+1) (mo+i*41+21) (r+1) C r A O Nw ZL PV.toList (.slice va un vc)) 29 (by kernel_rfl) ?_
                      generalize wr.drew=u0 at hS0 hd0 hDd hcd ⊢
                      iterate 16
                       refine Yq (v:=?_) hS0 ?_ ?_
                       rotate_left
                       ·rintro w' ⟨_,c1,c2,c3,_⟩;go_simp;rfl
                       try simp only[Act.put,sL]
                      refine Yq (v:=.agg O.toArray) hS0 (fun w' hw'=>qx 86 (.tmp 234) rfl mb (mo+i*41+1) rfl O _ hw'.ro Tryz.underlying86 rfl HIO.out) ?_
                      try simp only[Act.put,sL]
                      iterate 4
                       refine Yq (v:=?_) hS0 ?_ ?_
                       rotate_left
                       ·rintro w' ⟨_,c1,c2,c3,_⟩;go_simp;rfl
                       try simp only[Act.put,sL]
                      refine Yq (v:=.agg Nw.toArray) hS0 (fun w' hw'=>qx 86 (.tmp 239) rfl mb (mo+i*41+21) rfl Nw _ hw'.rn Tryz.underlying86 rfl HIN.out) ?_
                      try simp only[Act.put,sL]
                      refine Yq (v:=.agg PV.toList.toArray) hS0 (fun w' hw'=>qx 74 (.tmp 6) rfl r 0 rfl PV.toList _ hw'.rp Tryz.underlying74 rfl HIP.out) ?_
                      try simp only[Act.put,sL]
                      simp only[Array.toArray_toList]
                      iterate 1
                       refine Yq (v:=?_) hS0 ?_ ?_
                       rotate_left
                       ·rintro w' ⟨_,c1,c2,c3,_⟩;go_simp;rfl
                       try simp only[Act.put,sL]
                      refine Yq (v:=.agg E.toArray) hS0 (fun w' hw'=>exec_bd5 141 0 1 2 3 4 (.tmp 230) (.tmp 235) (.tmp 240) (.tmp 241) (.tmp 242) rfl (.string A) (.agg O.toArray) (.agg Nw.toArray) (.agg PV) (.string X) _ rfl rfl rfl rfl rfl (HBD.out _)) ?_
                      try simp only[Act.put,sL]
                      refine xW (i:=25) (by kernel_rfl) (k9 rfl (fun KK hKK=>?_))
                      have hb1:Below r3 wA (u0.alloc (.cells E.toArray 141)):=hd0.alloc (HSZ.out _ hd0) _
                      have hD1:Dq r3 (u0.alloc (.cells E.toArray 141)) C u1 (.slice va LS.length vc) rF LS:=hDd.below ((Below.refl _ u0).alloc (Nat.le_refl _) _)
                      have hcd1:(u0.alloc (.cells E.toArray 141)).cell? ⟨C,1,none⟩=some (.slice va un vc):=by rw[<-hun];simp only[World.cell?,hD1.box];rfl
                      have hS1:=HQL.out _ (HW23.out _ hb1) hcd1
                      refine jy rfl _ (zY 29 (.tmp 243) rfl (.agg E.toArray) _ rfl (HBSE.out u0)) (hKK.out _ _ (.inr hS1) ?_)
                      clear hKK KK hS0
                      try simp only[Act.put,sL]
                      have hPo:=HPOE.out u0
                      obtain⟨K1w,hK1w⟩:∃ x,u0.heap.size=x:=⟨_,rfl⟩
                      generalize u0.alloc (.cells E.toArray 141)=u4 at hb1 hD1 hcd1 hS1 hPo ⊢
                      have hBX:Bx yz 46 141 wA u4 r3 (.slice va un vc) LS:=⟨hb1,by rw[<-hun];exact hD1.r2,HSZ.out _ hb1⟩
                      refine xW (i:=26) (by kernel_rfl) (k9 rfl (fun KK hKK=>?_))
                      refine step_bx (enc:=yz) (k:=46) (d:=dE) (.tmp 223) (.tmp 244) 29 141 XJ jv z141 (by decide) (by decide) j6 r3 (.slice va un vc) LS rfl hBX (some ⟨u0.heap.size,0,none⟩) 1 [(x,j8 p tx m)] rfl hPo (fun y hy=>by rw[List.mem_singleton.1 hy];exact HEE.out) (by have:=HLSN.out;simp;omega) ?_
                      intro v7 u7 hb7 hm7
                      obtain⟨ya,yc,hv7⟩:=zZ hb7.own
                      obtain⟨yn,hyn⟩:∃ n,(LS++[(x,j8 p tx m)]).length=n:=⟨_,rfl⟩
                      rw[hyn] at hv7
                      have ht7:Tf 141 u4 u7:=Tf.mv hm7 (fun q hq=>by
                       obtain⟨_,⟨hv,h0⟩ | ⟨g,cap,cur,hv,hb,hh,_⟩⟩:=hBX.own
                       ·rw[hv] at hq;cases hq
                       ·rw[hv] at hq
                        simp only[Value.ownBlock,Option.some.injEq] at hq
                        subst hq
                        exact⟨_,_,hh⟩)
                      have hbx7:u7.heap[C]? = some (.cells #[u1,.slice va LS.length vc] 31 (0,0)):=ht7.of (by decide) hD1.box
                      have hcd7:u7.cell? ⟨C,1,none⟩=some (.slice va un vc):=by rw[<-hun];simp[World.cell?,hbx7]
                      have hfz7:u7.frozen? ⟨C,1,none⟩=false:=by simp[World.frozen?,hbx7]
                      have hS7:=HQL.out _ (HW23.out _ hb7.below) hcd7
                      subst hv7
                      refine hKK.out _ _ (.inr hS7) ?_
                      clear hKK KK hS1
                      try simp only[Act.put,sL]
                      refine xW (i:=27) (by kernel_rfl) (k9 rfl (fun KK hKK=>?_))
                      go_simp
                      refine hKK.out _ _ (.inr hS7) ?_
                      clear hKK KK
                      try simp only[Act.put,sL]
                      refine xW (i:=28) (by kernel_rfl) (k9 rfl (fun KK hKK=>?_))
                      go_simp
                      refine hKK.out _ _ (.inr hS7) ?_
                      clear hKK KK
                      try simp only[Act.put,sL]
                      refine xW (i:=29) (by kernel_rfl) (k9 rfl (fun KK hKK=>?_))
                      go_simp
                      refine hKK.out _ _ (.inl rfl) ?_
                      clear hKK KK
                      try simp only[Act.put,sL]
                      refine doneU (by kernel_rfl) ?_ _
                      have HB8:Hid (Below r3 wA (u7.setCell ⟨C,1,none⟩ (.slice ya yn yc))):=hid (below_set hb7.below (by show r3<=C;exact hC) _)
                      have HD8:Hid (∃ u1 u2,Dq r3 (u7.setCell ⟨C,1,none⟩ (.slice ya yn yc)) C u1 u2 rF (ls++enU p tx ((ws.zip ms).take i)++(l.take (k+1)).map (fun a=>(a,j8 p tx m)))):=hid (by
                       rw[HLS.out]
                       have ht:Tf 31 u7 (u7.setCell ⟨C,1,none⟩ (.slice ya yn yc)):=Tf.set (p:=⟨C,1,none⟩) hbx7 _
                       refine⟨u1,.slice ya yn yc,by rw[qy hbx7];rfl,zV (zV hD1.r1 ht7 (by decide)) ht (by decide),zV hb7.own ht (by decide),hD1.ok1,fun y hy=>?_,hD1.few.1,by have:=HLSN.out;simp;omega⟩
                       rcases List.mem_append.1 hy with hy | hy
                       ·exact hD1.ok2 y hy
                       ·rw[List.mem_singleton.1 hy];exact hxo)
                      clear hS7 hcd7 hfz7 hbx7 ht7 hb7 hm7 hBX hPo hcd1 hD1 hb1 hDd hcd hd0
                      go_wp2
                      go_roundg (n1+1-(k+1))
                      case measure=>omega
                      case rel=>exact⟨k+1,by go_num,rfl,by omega,HB8,HD8⟩
                    ·have hlki:¬ (k:Int)<(n1:Int)+1:=by omega
                     have HD7:Hid (∃ u1 u2,Dq r3 wr C u1 u2 rF (ls++enU p tx ((ws.zip ms).take (i+1)))):=hid (by
                      obtain⟨u1,u2,hD⟩:=HDK.out
                      have htk:l.take k=l:=List.take_of_length_le (by rw[HLL.out];omega)
                      rw[htk,List.append_assoc,<-HEN.out] at hD
                      exact⟨u1,u2,hD⟩)
                     go_wp2
                     go_roundg (N-(i+1))
                     case measure=>omega
                     case rel=>exact⟨i+1,by go_num,rfl,by omega,HBK,HD7⟩
                 ·have hlti:¬ (i:Int)<(N:Int):=by omega
                  have hiN:N=i:=by omega
                  subst hiN
                  as_aux_lemma =>
                   have HFIN:Hid (Calls Tryz.prog 57 #[.pointer (some ⟨C,0,none⟩)] wr fun e w8=>e=.returned (.tuple #[])/\∃ ca cn cc da dn dc d0 d1,w8.cell? ⟨C,0,none⟩=some (.slice ca cn cc)/\w8.cell? ⟨C,1,none⟩=some (.slice da dn dc)/\w8.cell? ⟨Q,0,none⟩=some d0/\w8.cell? ⟨Q,1,none⟩=some d1/\w8.frozen? ⟨Q,0,none⟩=false/\w8.frozen? ⟨Q,1,none⟩=false/\Q ≠ C/\jV G Q rs ls ms p tx w (.returned (.int .i64 0)) ((w8.setCell ⟨Q,0,none⟩ (.slice ca cn cc)).setCell ⟨Q,1,none⟩ (.slice da dn dc))):=hid (by
                    obtain⟨u1,u2,hD⟩:=HDL.out
                    rw[List.take_of_length_le (by rw[HZN.out];exact Nat.le_refl _)] at hD
                    refine(prune_doc wr hD (HSZ.out wr HBL.out)).mono ?_
                    rintro e w8 ⟨rfl,⟨v8,hD8⟩,hal⟩
                    have hb8:=HAL.out wr w8 HBL.out hal
                    have hbw8:=(HBW.out w8 (HW23.out w8 hb8)).1
                    have hq:=(HST.out w8 hbw8).1
                    obtain⟨ca,cc,hca,_,_,hc0⟩:=hD8.px1
                    obtain⟨da,dc,hda,_,_,hc1⟩:=hD8.px2
                    subst hca
                    subst hda
                    refine⟨rfl,ca,_,cc,da,_,dc,v1,v2,hc0,hc1,by simp[World.cell?,hq.box],by simp[World.cell?,hq.box],by simp[World.frozen?,hq.box],by simp[World.frozen?,hq.box],by omega,?_⟩
                    have hbx1:(w8.setCell ⟨Q,0,none⟩ (.slice ca rF.length cc)).heap[Q]? = some (.cells #[.slice ca rF.length cc,v2] 31 (0,0)):=by rw[qy hq.box];rfl
                    have t1:Tf 31 w8 (w8.setCell ⟨Q,0,none⟩ (.slice ca rF.length cc)):=Tf.set (p:=⟨Q,0,none⟩) hq.box _
                    have t2:Tf 31 (w8.setCell ⟨Q,0,none⟩ (.slice ca rF.length cc)) ((w8.setCell ⟨Q,0,none⟩ (.slice ca rF.length cc)).setCell ⟨Q,1,none⟩ (.slice da (Rk.prn rF (ls++enU p tx (ws.zip ms))).length dc)):=Tf.set (p:=⟨Q,1,none⟩) hbx1 _
                    have hgr:=HGR.out
                    refine⟨0,rF,Rk.prn rF (ls++enU p tx (ws.zip ms)),HUB.out _ _ _ (.inr ⟨HNCL.out,.inr ⟨HOG.out,rfl,rfl,rfl⟩⟩),rfl,⟨.slice ca rF.length cc,.slice da (Rk.prn rF (ls++enU p tx (ws.zip ms))).length dc,by rw[qy hbx1];rfl,qk (zV (zV hD8.r1 t1 (by decide)) t2 (by decide)) (by omega),qk (zV (zV hD8.r2 t1 (by decide)) t2 (by decide)) (by omega),hD8.ok1,hD8.ok2,hD8.few⟩,?_⟩
                    exact((Al.below (by rw[HR.out];exact hbw8)).trans (Al.of_set (S:=fun i=>i=Q) (p:=⟨Q,0,none⟩) rfl _) (fun i h=>.inl h)).trans (Al.of_set (S:=fun i=>i=Q) (p:=⟨Q,1,none⟩) rfl _) (fun i h=>.inl h))
                   go_wp2_with (go_at_call 57;refine HFIN.out.mono ?_;rintro e w8 ⟨rfl,ca,cn,cc,da,dn,dc,d0,d1,q1,q2,q3,q4,q5,q6,q7,q8⟩;have Q8:=hid q8;clear q8)
                   exact bodyPost_ret (results_tmp Tryz.results22 _ _ _) rfl Q8.out
            ·have h2i:(2000:Int)<(n:Int):=by omega
             have HE:=hid (HUC.out w5 K3.out (fun hg=>h2k (by rw[<-HTN.out];exact hg.2.1)))
             go_wp2
             exact bodyPost_ret (results_tmp Tryz.results22 _ _ _) rfl HE.out
end Go.Proofs.YtgliaiemkfopeaaGreatDoor.K
