import Derived.Test.YtgliaiemkfopeaaGreatDoorMn16
import Derived.Test.YtgliaiemkfopeaaGreatDoorMn17
import Derived.Shelf.Strings.Repeat
import Derived.Shelf.Strings.Prefix
import Derived.Test.YtgliaiemkfopeaaGreatDoorProg
set_option linter.unusedSimpArgs false
set_option linter.unusedVariables false
set_option maxRecDepth 20000
set_option maxHeartbeats 4000000
namespace Go.Proofs.YtgliaiemkfopeaaGreatDoor.K
open Go.RowKit
theorem Tryz.results87:Tryz.f87.results=#[.tmp 2]:=by kernel_rfl
def wsS (s:Sp):List Str:=if s.word=wR then [wR,s.name,yW s.id] else if s.word=wL then [wL,s.name,s.tg] else if s.word=wD then [wD,s.name] else [wG,s.name,yW s.e.old,yW s.e.new,x8 s.e.who++9 :: s.e.text]
def lnS (s:Sp):Str:=jw (wsS s)
def wrL (ss:List Sp):Str:=ss.flatMap fun s=>lnS s++[10]
theorem wrL_snoc (ss:List Sp) (i:Nat) (h:i<ss.length) (d:Sp):wrL (ss.take (i+1))=wrL (ss.take i)++lnS (ss.getD i d)++[10]:=by
 unfold wrL
 rw[qj d ss i h,List.flatMap_append,List.flatMap_singleton,List.append_assoc]
theorem wrL_le (ss:List Sp) (i:Nat):(wrL (ss.take i)).length<=(wrL ss).length:=by
 conv=>rhs;rw[<-List.take_append_drop i ss]
 unfold wrL
 rw[List.flatMap_append,List.length_append]
 omega
def StL (s:Sp):Prop:=vk s/\(s.word=wR ∨ s.word=wL ∨ s.word=wD ∨ (s.word=wG/\okP s.e.who))
theorem qx {P:Program} {o:Oper} {a:Act} {w:World} (ty:TypeId) (x:Operand) (ho:o.op=.load ty x) (b f:Nat) (hx:a.eval x=.pointer (some ⟨b,f,none⟩)) (cs:List Value) (d:TypeDesc) (hc:w.rangeAt b f cs) (hu:P.underlying ty=some d) (hd:d.isRow=true) (hi:(P.info? ty).map (·.size)=some cs.length):(execOp a.eval o).run P w=.ok (.value (.agg cs.toArray)) w:=by
 unfold execOp
 simp only[ho,hx,Instr.loadAt,Instr.sureAddr,Sem.run_bind,Sem.run_pure,Result.andThen_ok,run_loadVar_mid w b f ty cs d hc hu hd hi]
theorem px_words (w:World) (ws:List Str):Px eT 1 [] (w.alloc (.cells (ws.map sV).toArray 9)) (some ⟨w.heap.size,0,none⟩) ws.length ws :=
 ⟨Nat.le_refl _,fun _=>⟨w.heap.size,0,rfl,by simp,fun i hi j v hv=>by
  have hj:j=0:=by
   have:=(List.getElem?_eq_some_iff.1 hv).1
   simp only[eT,List.length_cons,List.length_nil] at this
   omega
  subst hj
  simp only[eT,List.getElem?_cons_zero,Option.some.injEq] at hv
  subst hv
  rw[cell_of_row _ _ _ _ _ _ (heap_alloc_new w _)]
  simp[List.getD_eq_getElem?_getD,List.getElem?_eq_getElem hi]⟩,fun h=>by cases h⟩
theorem Xw (w0 w:World) (B:Nat) (v:Value) (out:Str) (ws:List Str) (n:Nat) (hn:ws.length=n) (h:Bb w0 w B v out) (hl:out.length+(jw ws).length+1<=300000000) (hs:ws.length<=10) (W:World) (hW:w.alloc (.cells (ws.map sV).toArray 9)=W) :
  Calls Tryz.prog 127 #[v,.slice (some ⟨w.heap.size,0,none⟩) n n] W (Post127 w0 W B v (out++jw ws++[10])):=by
 subst hW
 subst hn
 exact line_any w0 _ B v out _ _ ws (h.alloc _) (px_words w ws) (fun p hp e=>by
  cases hp
  have:=(yq h.own _ e.symm).2
  exact Nat.lt_irrefl _ this) hl hs
structure Qs (K:Nat) (wd nm tg:ByteArray) (R E:List Value) (W:World):Prop where
 c0:W.cell? ⟨K,0,none⟩=some (.string wd)
 c1:W.cell? ⟨K,1,none⟩=some (.string nm)
 c22:W.cell? ⟨K,22,none⟩=some (.string tg)
 r2:W.rangeAt K 2 R
 r23:W.rangeAt K 23 E
theorem qs_of {s:Sp} {B:Array Value} {K:Nat} (h:Sa s B K) {W:World} (hW:W.heap[K]? = some (.cells B 143)):Qs K ⟨s.word.toArray⟩ ⟨s.name.toArray⟩ ⟨s.tg.toArray⟩ (row .u8 s.id) (qv s.e) W:=⟨h.c0 W hW,h.c1 W hW,h.c22 W hW,h.r2 W hW,h.r23 W hW⟩
structure Qe (K J:Nat) (wd nm tx:ByteArray) (X Y P:List Value) (W:World):Prop where
 c0:W.cell? ⟨K,0,none⟩=some (.string wd)
 c1:W.cell? ⟨K,1,none⟩=some (.string nm)
 r0:W.rangeAt J 0 X
 r20:W.rangeAt J 20 Y
 r40:W.rangeAt J 40 P
 c44:W.cell? ⟨J,44,none⟩=some (.string tx)
theorem qe_of {s:Sp} {B:Array Value} {K J:Nat} (hs:vk s) (h:Sa s B K) {W:World} (hW:W.heap[K]? = some (.cells B 143)) (hJ:W.heap[J]? = some (.cells (qv s.e).toArray 129)):Qe K J ⟨s.word.toArray⟩ ⟨s.name.toArray⟩ ⟨s.e.text.toArray⟩ (row .u8 s.e.old) (row .u8 s.e.new) (xq s.e.who).toList W:=by
 have h1:(row .u8 s.e.old).length=20:=by rw[zw];exact hs.e.1.1
 have h2:(row .u8 s.e.new).length=20:=by rw[zw];exact hs.e.2.1
 refine⟨h.c0 W hW,h.c1 W hW,fun j v hv=>?_,fun j v hv=>?_,fun j v hv=>?_,?_⟩
 ·refine zy hJ j v ?_
  unfold qv
  rw[List.getElem?_append_left (List.getElem?_eq_some_iff.1 hv).1]
  exact hv
 ·rw[show (20+j)=0+(20+j) by omega]
  refine zy hJ (20+j) v ?_
  unfold qv
  rw[List.getElem?_append_right (by omega),h1,show 20+j-20=j by omega,List.getElem?_append_left (List.getElem?_eq_some_iff.1 hv).1]
  exact hv
 ·rw[show (40+j)=0+(40+j) by omega]
  refine zy hJ (40+j) v ?_
  unfold qv
  rw[List.getElem?_append_right (by omega),h1,List.getElem?_append_right (by omega),h2,show 40+j-20-20=j by omega]
  have hj:j<4:=(List.getElem?_eq_some_iff.1 hv).1
  rcases j with _ | _ | _ | _ | j
  ·exact hv
  ·exact hv
  ·exact hv
  ·exact hv
  ·omega
 ·rw[cell_of_row _ _ 44 _ _ _ hJ]
  unfold qv
  simp only[List.getElem?_toArray]
  rw[List.getElem?_append_right (by omega),h1,List.getElem?_append_right (by omega),h2]
  rfl
def Post87 (w:World) (ss:List Sp) (e:Ending) (w':World):Prop := ∃ v,e=.returned v/\Bb w w' w.heap.size v (wrL ss)
theorem hex_id (x:List Int) (h:IdW x) (w:World):Calls Tryz.prog 124 #[.agg (row .u8 x).toArray] w fun e w'=>e=.returned (.string ⟨(yW x).toArray⟩)/\Below w.heap.size w w':=Hx.hex_prog x w h.1 h.2
theorem wsteps_any (a:Option Addr) (c:Nat) (ss:List Sp) (w:World) (ht:Tab w) (hP:Px zX 68 dS w a c ss) (hok:∀ s ∈ ss,StL s) (hl:(wrL ss).length<=290000000) (hn:ss.length<=100000000) :
  Calls Tryz.prog 87 #[.slice a ss.length c] w (Post87 w ss):=by
 obtain⟨G,HG⟩:=nm_ w.heap.size
 obtain⟨N,HN⟩:=nm_ ss.length
 have HB0:Hid (Bb w w G (.slice none 0 0) (wrL (ss.take 0))):=hid (by have h0:Bb w w G (.slice none 0 0) []:=uz 5 w G (by rw[HG.out];exact Nat.le_refl _);simpa [wrL] using h0)
 have HPX:Hid (∀ W,Below G w W->Px zX 68 dS W a c ss):=fun W hW=>hP.below (by rw[HG.out];exact hW)
 have HTB:Hid (∀ W,Below G w W->Tab W):=fun W hW=>ht.below (by rw[HG.out];exact hW)
 have HOK:=hid hok
 have HL:=hid hl
 have hN9:N<=100000000:=by rw[<-HN.out];exact hn
 rw[HN.out]
 clear hP hok hl hn ht
 go_enter Tryz.func87,Tryz.ntmps87
 go_wp2
 go_loopg [3,9] N (fun q sv iv wr=>∃ (i:Nat) (u:Value),iv=.int .i64 i/\u=sv/\q=N-i/\i<=N/\Hid (Bb w wr G u (wrL (ss.take i))))
 case atStart=>exact⟨0,_,rfl,rfl,rfl,Nat.zero_le _,HB0⟩
 case round =>
  obtain⟨i,u,rfl,hu,hq,hin,HB⟩:=hrel
  subst hu
  by_cases hlt:i<N
  ·have hlti:(i:Int)<(N:Int):=by omega
   have hwG:G<=wr.heap.size:=by have:=HB.out.below.size;have:=HG.out;omega
   obtain⟨b,off,e1,_,e3⟩:=(HPX.out _ HB.out.below).at_ (by rw[HN.out];omega)
   subst e1
   have e4:=e3 i (by rw[HN.out];exact hlt)
   obtain⟨s,hs⟩:∃ s,ss.getD i dS=s:=⟨_,rfl⟩
   rw[hs] at e4
   have hsl:StL s:=by rw[<-hs];exact HOK.out _ (zK ss i dS (by rw[HN.out];exact hlt))
   have hlen:(wrL (ss.take i)).length+(lnS s).length+1<=300000000:=by
    have h1:=wrL_le ss (i+1)
    rw[wrL_snoc ss i (by rw[HN.out];exact hlt) dS,hs] at h1
    simp only[List.length_append,List.length_cons,List.length_nil] at h1
    have:=HL.out
    omega
   have HSN:Hid (wrL (ss.take (i+1))=wrL (ss.take i)++lnS s++[10]):=hid (by rw[wrL_snoc ss i (by rw[HN.out];exact hlt) dS,hs])
   obtain⟨B,HS⟩:=sa s hsl.1 wr.heap.size
   obtain⟨BL,hBL⟩:∃ B,zX s=B:=⟨_,rfl⟩
   have hB68:BL.length=68:=by rw[<-hBL];exact zJ hsl.1
   have hBB:B=BL.toArray:=by rw[<-HS.out.e,hBL]
   have HIB:Hid ((Tryz.prog.info? 143).map (·.size)=some BL.length):=hid (by rw[hB68];kernel_rfl)
   have HIB2:Hid ((Tryz.prog.info? 143).map (·.size)=some B.size):=hid (by rw[hBB,List.size_toArray];exact HIB.out)
   have HZ68:Hid (68=B.size):=hid (by rw[hBB,List.size_toArray,hB68])
   have HOB:Hid (B.all (·.oneCell')=true):=hid (by rw[hBB];exact all_oneCell_toArray (by rw[<-hBL];exact qV s))
   rw[hBL] at e4
   have HRG:=hid e4
   have HBE:=hid hBB
   obtain⟨w1,hw1⟩:∃ w1,wr.alloc (.cells B 143)=w1:=⟨_,rfl⟩
   have hh1:w1.heap[wr.heap.size]? = some (.cells B 143):=by rw[<-hw1];exact heap_alloc_new _ _
   have hb1:Below wr.heap.size wr w1:=by rw[<-hw1];exact(Below.refl _ _).alloc (Nat.le_refl _) _
   have HB1:Hid (Bb w w1 G u (wrL (ss.take i))):=hid (by rw[<-hw1];exact HB.out.alloc _)
   have hq1:=qs_of HS.out hh1
   have hlt1:=z7 hh1
   clear e3 e4 hs hBL hB68 hBB
   obtain⟨hso,hwd⟩:=hsl
   obtain⟨out,HOUT⟩:=nm_ (wrL (ss.take i))
   rw[HOUT.out] at HB1 HB hlen HSN
   rcases hwd with hwd | hwd | hwd | ⟨hwd,hper⟩
   ·have hws:wsS s=[wR,s.name,yW s.id]:=by unfold wsS;rw[hwd];rfl
    have HFIN:Hid (∀ v' w',Bb w w' G v' (out++jw [wR,s.name,yW s.id]++[10])->Bb w w' G v' (wrL (ss.take (i+1)))):=fun v' w' h=>by rw[HSN.out];unfold lnS;rw[hws];exact h
    have HLE:Hid (out.length+(jw [wR,s.name,yW s.id]).length+1<=300000000):=hid (by rw[<-hws];exact hlen)
    have HID:Hid (IdW s.id):=hid hso.id
    rw[hwd] at hq1
    unfold wR at hq1
    have hd0:=hq1.c0
    obtain⟨R,hR⟩:∃ R,row .u8 s.id=R:=⟨_,rfl⟩
    have HR:=hid hR
    have HI20:Hid ((Tryz.prog.info? 89).map (·.size)=some R.length):=hid (by rw[<-hR,zw,hso.id.1];kernel_rfl)
    rw[hR] at hq1
    have HQ1:=hid hq1
    have HH1:=hid hh1
    clear hq1 hws hlen hwd hR
    go_wp2_with (first
     | (refine wpList_load_mid rfl 143 (.tmp 11) rfl _ _ rfl BL _ HRG.out Tryz.underlying143 rfl HIB.out ?_;rw[<-HBE.out];go_frame)
     | (refine zq rfl 143 (.tmp 5) (.tmp 12) rfl _ B rfl rfl HIB2.out (by rw[<-HZ68.out];rfl) HOB.out ?_;rw[hw1];go_frame)
     | fail)
    have hSd:Qs wr.heap.size ⟨#[114,101,102]⟩ ⟨s.name.toArray⟩ ⟨s.tg.toArray⟩ R (qv s.e) w1.drew:=⟨HQ1.out.c0,HQ1.out.c1,HQ1.out.c22,HQ1.out.r2,HQ1.out.r23⟩
    refine wp_region_held_drew (S:=Qs wr.heap.size ⟨#[114,101,102]⟩ ⟨s.name.toArray⟩ ⟨s.tg.toArray⟩ R (qv s.e)) (by kernel_rfl) hSd (fun hHeld=>?_)
    clear hSd
    have hb0:Below w1.heap.size w1 w1.drew:=zv _ _ 1
    have hz0:w1.drew.heap.size=w1.heap.size:=rfl
    generalize w1.drew=u0 at hHeld hb0 hz0 ⊢
    iterate 6
     refine qq (v:=?_) hHeld ?_ ?_
     rotate_left
     ·rintro w' ⟨c0,c1,c22,r2,r23⟩;go_simp;rfl
     try simp only[Act.put,sL]
    refine takeY (i:=6) (v:=.agg R.toArray) hHeld (fun w' hw'=>qx 89 (.tmp 22) rfl wr.heap.size 2 rfl R _ hw'.r2 Tryz.underlying89 rfl HI20.out) ?_
    try simp only[Act.put,sL]
    have hhx:=hex_id s.id HID.out u0
    rw[HR.out] at hhx
    refine wpAnyH_ready (rs:=[7]) (by kernel_rfl) (by simp) ?_
    refine xj rfl (fun KK hKK=>?_) AllReadyH.nil
    refine qJ (by rfl) 124 [.tmp 23] _ [.agg R.toArray] _ (by rfl) (by rfl) (fun w=>by kernel_rfl) hhx ?_
    rintro e u1 ⟨rfl,hb1'⟩
    have hb01:Below w1.heap.size w1 u1:=hb0.trans (hb1'.mono (by omega))
    have HQ:Hid (∀ W,Below w1.heap.size w1 W->Qs wr.heap.size ⟨#[114,101,102]⟩ ⟨s.name.toArray⟩ ⟨s.tg.toArray⟩ R (qv s.e) W):=fun W hW=>by
     have h1:=hlt1
     exact⟨(hW.cell (p:=⟨wr.heap.size,0,none⟩) h1).trans HQ1.out.c0,(hW.cell (p:=⟨wr.heap.size,1,none⟩) h1).trans HQ1.out.c1,(hW.cell (p:=⟨wr.heap.size,22,none⟩) h1).trans HQ1.out.c22,fun j v hv=>(hW.cell (p:=⟨wr.heap.size,2+j,none⟩) h1).trans (HQ1.out.r2 j v hv),fun j v hv=>(hW.cell (p:=⟨wr.heap.size,23+j,none⟩) h1).trans (HQ1.out.r23 j v hv)⟩
    refine⟨_,rfl,hKK.out _ _ (HQ.out _ hb01) (fun hHeld2=>?_)⟩
    clear hKK KK hHeld
    have hHeld:=hHeld2
    clear hHeld2
    try simp only[Act.put,sL]
    obtain⟨u2,HU2⟩:=nm_ (u1.alloc (.cells #[.string ⟨#[114,101,102]⟩,.string ⟨s.name.toArray⟩,.string ⟨(yW s.id).toArray⟩] 9))
    have hb12:Below u1.heap.size u1 u2:=by rw[<-HU2.out];exact(Below.refl _ _).alloc (Nat.le_refl _) _
    have hb02:Below w1.heap.size w1 u2:=hb01.trans (hb12.mono hb01.size)
    refine wpAnyH_ready (rs:=[8]) (by kernel_rfl) (by simp) ?_
    refine xj rfl (fun KK hKK=>?_) AllReadyH.nil
    refine jy (by rfl) (.slice (some ⟨u1.heap.size,0,none⟩) 3 3) (w':=u2) (by rw[<-HU2.out];go_simp) ?_
    refine hKK.out _ _ (HQ.out _ hb02) (fun hHeld2=>?_)
    clear hKK KK hHeld
    have hHeld:=hHeld2
    clear hHeld2
    try simp only[Act.put,sL]
    have hln:=Xw w u1 G u out [wR,s.name,yW s.id] 3 rfl (HB1.out.carry hb01) HLE.out (by simp) u2 HU2.out
    refine wpAnyH_ready (rs:=[9]) (by kernel_rfl) (by simp) ?_
    refine xj rfl (fun KK hKK=>?_) AllReadyH.nil
    refine qJ (by rfl) 127 [.tmp 17,.tmp 25] _ [u,.slice (some ⟨u1.heap.size,0,none⟩) 3 3] _ (by rfl) (by rfl) (fun w=>by kernel_rfl) hln ?_
    rintro e u3 ⟨v5,rfl,k1,k2⟩
    have hq3:Qs wr.heap.size ⟨#[114,101,102]⟩ ⟨s.name.toArray⟩ ⟨s.tg.toArray⟩ R (qv s.e) u3:=by
     have h1:wr.heap.size<u2.heap.size:=Nat.lt_of_lt_of_le hlt1 hb02.size
     have h2:u3.heap[wr.heap.size]? = u2.heap[wr.heap.size]? := k2.blk _ h1 (fun e=>by have:=(yq HB.out.own _ e.symm).2;exact Nat.lt_irrefl _ this)
     have h3:=HQ.out _ hb02
     exact⟨(World.cell?_of_block (a:=⟨wr.heap.size,0,none⟩) h2).trans h3.c0,(World.cell?_of_block (a:=⟨wr.heap.size,1,none⟩) h2).trans h3.c1,(World.cell?_of_block (a:=⟨wr.heap.size,22,none⟩) h2).trans h3.c22,fun j v hv=>(World.cell?_of_block (a:=⟨wr.heap.size,2+j,none⟩) h2).trans (h3.r2 j v hv),fun j v hv=>(World.cell?_of_block (a:=⟨wr.heap.size,23+j,none⟩) h2).trans (h3.r23 j v hv)⟩
    refine⟨_,rfl,hKK.out _ _ hq3 (fun hHeld2=>?_)⟩
    clear hKK KK hHeld
    have hHeld:=hHeld2
    clear hHeld2
    try simp only[Act.put,sL]
    refine qq (v:=?_) hHeld ?_ ?_
    rotate_left
    ·rintro w' ⟨c0,c1,c22,r2,r23⟩;go_simp;rfl
    try simp only[Act.put,sL]
    have HBN:=hid (HFIN.out _ _ k1)
    clear hHeld hq3 hb0 hb01 hb02 hb12 hz0 k1 k2 hln hb1' hhx
    refine wpAnyH_done (by kernel_rfl) ?_ _
    go_wp2
    go_roundg (N-(i+1))
    case measure=>omega
    case rel=>exact⟨i+1,_,by go_num,rfl,rfl,by omega,HBN⟩
   ·have hws:wsS s=[wL,s.name,s.tg]:=by unfold wsS;rw[hwd];rfl
    have hln:=Xw w w1 G u out [wL,s.name,s.tg] 3 rfl HB1.out (by rw[<-hws];exact hlen) (by simp) _ rfl
    have HFIN:Hid (∀ v' w',Bb w w' G v' (out++jw [wL,s.name,s.tg]++[10])->Bb w w' G v' (wrL (ss.take (i+1)))):=fun v' w' h=>by rw[HSN.out];unfold lnS;rw[hws];exact h
    have hd0:=hq1.c0
    have hd1:=hq1.c1
    have hd22:=hq1.c22
    rw[hwd] at hd0
    unfold wL at hd0
    simp only[List.map_cons,List.map_nil] at hln
    unfold sV at hln
    unfold wL at hln
    have HLN:=hid hln
    clear hq1 hln hws hlen hwd
    go_wp2_with (first
     | (refine wpList_load_mid rfl 143 (.tmp 11) rfl _ _ rfl BL _ HRG.out Tryz.underlying143 rfl HIB.out ?_;rw[<-HBE.out];go_frame)
     | (refine zq rfl 143 (.tmp 5) (.tmp 12) rfl _ B rfl rfl HIB2.out (by rw[<-HZ68.out];rfl) HOB.out ?_;rw[hw1];go_frame)
     | (go_at_call 127;refine HLN.out.mono ?_;rintro e w5 ⟨v5,rfl,k1,k2⟩;have HBN:=hid (HFIN.out _ _ k1);clear k1 k2))
    go_roundg (N-(i+1))
    case measure=>omega
    case rel=>exact⟨i+1,_,by go_num,rfl,rfl,by omega,HBN⟩
   ·have hws:wsS s=[wD,s.name]:=by unfold wsS;rw[hwd];rfl
    have hln:=Xw w w1 G u out [wD,s.name] 2 rfl HB1.out (by rw[<-hws];exact hlen) (by simp) _ rfl
    have HFIN:Hid (∀ v' w',Bb w w' G v' (out++jw [wD,s.name]++[10])->Bb w w' G v' (wrL (ss.take (i+1)))):=fun v' w' h=>by rw[HSN.out];unfold lnS;rw[hws];exact h
    have hd0:=hq1.c0
    have hd1:=hq1.c1
    have hd22:=hq1.c22
    rw[hwd] at hd0
    unfold wD at hd0
    simp only[List.map_cons,List.map_nil] at hln
    unfold sV at hln
    unfold wD at hln
    have HLN:=hid hln
    clear hq1 hln hws hlen hwd
    go_wp2_with (first
     | (refine wpList_load_mid rfl 143 (.tmp 11) rfl _ _ rfl BL _ HRG.out Tryz.underlying143 rfl HIB.out ?_;rw[<-HBE.out];go_frame)
     | (refine zq rfl 143 (.tmp 5) (.tmp 12) rfl _ B rfl rfl HIB2.out (by rw[<-HZ68.out];rfl) HOB.out ?_;rw[hw1];go_frame)
     | (go_at_call 127;refine HLN.out.mono ?_;rintro e w5 ⟨v5,rfl,k1,k2⟩;have HBN:=hid (HFIN.out _ _ k1);clear k1 k2))
    go_roundg (N-(i+1))
    case measure=>omega
    case rel=>exact⟨i+1,_,by go_num,rfl,rfl,by omega,HBN⟩
   ·have hws:wsS s=[wG,s.name,yW s.e.old,yW s.e.new,x8 s.e.who++9 :: s.e.text]:=by unfold wsS;rw[hwd];rfl
    have HFIN:Hid (∀ v' w',Bb w w' G v' (out++jw [wG,s.name,yW s.e.old,yW s.e.new,x8 s.e.who++9 :: s.e.text]++[10])->Bb w w' G v' (wrL (ss.take (i+1)))):=fun v' w' h=>by rw[HSN.out];unfold lnS;rw[hws];exact h
    have HLE:Hid (out.length+(jw [wG,s.name,yW s.e.old,yW s.e.new,x8 s.e.who++9 :: s.e.text]).length+1<=300000000):=hid (by rw[<-hws];exact hlen)
    have hpl:(x8 s.e.who).length+1+s.e.text.length<=300000000:=by
     have h1:=HLE.out
     simp[jw] at h1
     omega
    have HEO:=hid hso.e
    have HPE:=hid hper
    obtain⟨EL,hEL⟩:∃ E,qv s.e=E:=⟨_,rfl⟩
    have hE45:EL.length=45:=by rw[<-hEL];exact yx hso.e
    have HIE:Hid ((Tryz.prog.info? 129).map (·.size)=some EL.length):=hid (by rw[hE45];kernel_rfl)
    have HIE2:Hid ((Tryz.prog.info? 129).map (·.size)=some EL.toArray.size):=hid (by rw[List.size_toArray];exact HIE.out)
    have HZ45:Hid (45=EL.toArray.size):=hid (by rw[List.size_toArray,hE45])
    have HOE:Hid (EL.toArray.all (·.oneCell')=true):=hid (all_oneCell_toArray (by rw[<-hEL];exact vZ _))
    have HR23:Hid (w1.rangeAt wr.heap.size 23 EL):=hid (by rw[<-hEL];exact hq1.r23)
    obtain⟨w2,hw2⟩:∃ w2,w1.alloc (.cells EL.toArray 129)=w2:=⟨_,rfl⟩
    have hb2:Below w1.heap.size w1 w2:=by rw[<-hw2];exact(Below.refl _ _).alloc (Nat.le_refl _) _
    have hh2:w2.heap[w1.heap.size]? = some (.cells (qv s.e).toArray 129):=by rw[<-hw2,hEL];exact heap_alloc_new _ _
    have hk2:w2.heap[wr.heap.size]? = some (.cells B 143):=(hb2.block _ hlt1).trans hh1
    have hqe:=qe_of hso HS.out hk2 hh2
    have HB2:Hid (Bb w w2 G u out):=hid (HB1.out.carry hb2)
    have HTW:Hid (Tab w2):=hid (HTB.out _ HB2.out.below)
    have hlt2:w1.heap.size<w2.heap.size:=z7 hh2
    obtain⟨X,hX⟩:∃ R,row .u8 s.e.old=R:=⟨_,rfl⟩
    obtain⟨Y,hY⟩:∃ R,row .u8 s.e.new=R:=⟨_,rfl⟩
    obtain⟨P,HPV⟩:∃ P:List Value,Hid (xq s.e.who=P.toArray):=⟨(xq s.e.who).toList,hid (by simp)⟩
    have HX20:Hid ((Tryz.prog.info? 89).map (·.size)=some X.length):=hid (by rw[<-hX,zw,hso.e.1.1];kernel_rfl)
    have HY20:Hid ((Tryz.prog.info? 89).map (·.size)=some Y.length):=hid (by rw[<-hY,zw,hso.e.2.1];kernel_rfl)
    have HP4:Hid ((Tryz.prog.info? 38).map (·.size)=some P.length):=hid (by rw[show P.length=4 by rw[<-List.size_toArray,<-HPV.out];rfl];kernel_rfl)
    have hd0:=hq1.c0
    rw[hwd] at hqe hd0
    unfold wG at hqe hd0
    rw[hX,hY,HPV.out,List.toList_toArray] at hqe
    have HX:=hid hX
    have HY:=hid hY
    have HQ1:=hid hqe
    obtain⟨X1,HX1⟩:=nm_ (⟨(x8 s.e.who).toArray⟩ ++ ⟨#[9]⟩:ByteArray)
    obtain⟨X2,HX2⟩:=nm_ (X1 ++ ⟨s.e.text.toArray⟩:ByteArray)
    have HXX:Hid (X2=⟨(x8 s.e.who++9 :: s.e.text).toArray⟩):=hid (by rw[<-HX2.out,<-HX1.out];apply ByteArray.ext;simp)
    have hz1:(⟨(x8 s.e.who).toArray⟩:ByteArray).size=(x8 s.e.who).length:=by simp[ByteArray.size]
    have hz2:X1.size=(x8 s.e.who).length+1:=by rw[<-HX1.out,ByteArray.size_append,hz1];rfl
    have hz3:(⟨s.e.text.toArray⟩:ByteArray).size=s.e.text.length:=by simp[ByteArray.size]
    clear hq1 hws hlen hwd hX hY hEL hE45 hqe hso hper hh2 hk2
    go_wp2_with (first
     | (refine wpList_load_mid rfl 143 (.tmp 11) rfl _ _ rfl BL _ HRG.out Tryz.underlying143 rfl HIB.out ?_;rw[<-HBE.out];go_frame)
     | (refine zq rfl 143 (.tmp 5) (.tmp 12) rfl _ B rfl rfl HIB2.out (by rw[<-HZ68.out];rfl) HOB.out ?_;rw[hw1];go_frame)
     | (refine wpList_load_mid rfl 129 (.tmp 49) rfl _ 23 rfl EL _ HR23.out Tryz.underlying129 rfl HIE.out ?_;go_frame)
     | (refine zq rfl 129 (.tmp 6) (.tmp 50) rfl _ EL.toArray rfl rfl HIE2.out (by rw[<-HZ45.out];rfl) HOE.out ?_;rw[hw2];go_frame))
    have HQ:Hid (∀ W,Below w2.heap.size w2 W->(Qe wr.heap.size w1.heap.size ⟨#[108,111,103]⟩ ⟨s.name.toArray⟩ ⟨s.e.text.toArray⟩ X Y P) W):=fun W hW=>by
     have h1:wr.heap.size<w2.heap.size:=Nat.lt_of_lt_of_le hlt1 hb2.size
     exact⟨(hW.cell (p:=⟨wr.heap.size,0,none⟩) h1).trans HQ1.out.c0,(hW.cell (p:=⟨wr.heap.size,1,none⟩) h1).trans HQ1.out.c1,fun j v hv=>(hW.cell (p:=⟨w1.heap.size,0+j,none⟩) hlt2).trans (HQ1.out.r0 j v hv),fun j v hv=>(hW.cell (p:=⟨w1.heap.size,20+j,none⟩) hlt2).trans (HQ1.out.r20 j v hv),fun j v hv=>(hW.cell (p:=⟨w1.heap.size,40+j,none⟩) hlt2).trans (HQ1.out.r40 j v hv),(hW.cell (p:=⟨w1.heap.size,44,none⟩) hlt2).trans HQ1.out.c44⟩
    refine wp_region_held_drew (S:=(Qe wr.heap.size w1.heap.size ⟨#[108,111,103]⟩ ⟨s.name.toArray⟩ ⟨s.e.text.toArray⟩ X Y P)) (by kernel_rfl) (HQ.out _ (zv _ _ 1)) (fun hHeld=>?_)
    have hb0:Below w2.heap.size w2 w2.drew:=zv _ _ 1
    have hz0:w2.drew.heap.size=w2.heap.size:=rfl
    generalize w2.drew=u0 at hHeld hb0 hz0 ⊢
    iterate 6
     refine qq (v:=?_) hHeld ?_ ?_
     rotate_left
     ·rintro w' ⟨c0,c1,r0,r20,r40,c44⟩;go_simp;rfl
     try simp only[Act.put,sL]
    refine takeY (i:=6) (v:=.agg X.toArray) hHeld (fun w' hw'=>qx 89 (.tmp 56) rfl w1.heap.size 0 rfl X _ hw'.r0 Tryz.underlying89 rfl HX20.out) ?_
    try simp only[Act.put,sL]
    refine tZ (i:=8) hHeld ?_
    try simp only[Act.put,sL]
    refine takeY (i:=9) (v:=.agg Y.toArray) hHeld (fun w' hw'=>qx 89 (.tmp 59) rfl w1.heap.size 20 rfl Y _ hw'.r20 Tryz.underlying89 rfl HY20.out) ?_
    try simp only[Act.put,sL]
    refine tZ (i:=11) hHeld ?_
    try simp only[Act.put,sL]
    refine takeY (i:=12) (v:=.agg P.toArray) hHeld (fun w' hw'=>qx 38 (.tmp 62) rfl w1.heap.size 40 rfl P _ hw'.r40 Tryz.underlying38 rfl HP4.out) ?_
    try simp only[Act.put,sL]
    refine tZ (i:=15) hHeld ?_
    try simp only[Act.put,sL]
    refine tZ (i:=16) hHeld ?_
    try simp only[Act.put,sL]
    have hhx:=hex_id s.e.old HEO.out.1 u0
    rw[HX.out] at hhx
    refine wpAnyH_ready (rs:=[7]) (by kernel_rfl) (by simp) ?_
    refine xj rfl (fun KK hKK=>?_) AllReadyH.nil
    refine qJ (by rfl) 124 [.tmp 57] _ [.agg X.toArray] _ (by rfl) (by rfl) (fun w=>by kernel_rfl) hhx ?_
    rintro e u1 ⟨rfl,hb1'⟩
    have hb01:Below w2.heap.size w2 u1:=hb0.trans (hb1'.mono (by omega))
    refine⟨_,rfl,hKK.out _ _ (HQ.out _ hb01) (fun hHeld2=>?_)⟩
    clear hKK KK hHeld
    have hHeld:=hHeld2
    clear hHeld2
    try simp only[Act.put,sL]
    have hhy:=hex_id s.e.new HEO.out.2 u1
    rw[HY.out] at hhy
    refine wpAnyH_ready (rs:=[10]) (by kernel_rfl) (by simp) ?_
    refine xj rfl (fun KK hKK=>?_) AllReadyH.nil
    refine qJ (by rfl) 124 [.tmp 60] _ [.agg Y.toArray] _ (by rfl) (by rfl) (fun w=>by kernel_rfl) hhy ?_
    rintro e u2 ⟨rfl,hb2'⟩
    have hb02:Below w2.heap.size w2 u2:=hb01.trans (hb2'.mono hb01.size)
    refine⟨_,rfl,hKK.out _ _ (HQ.out _ hb02) (fun hHeld2=>?_)⟩
    clear hKK KK hHeld
    have hHeld:=hHeld2
    clear hHeld2
    try simp only[Act.put,sL]
    have hpt:=personText_any s.e.who HPE.out u2 (HTW.out.below hb02)
    rw[HPV.out] at hpt
    refine wpAnyH_ready (rs:=[13]) (by kernel_rfl) (by simp) ?_
    refine xj rfl (fun KK hKK=>?_) AllReadyH.nil
    refine qJ (by rfl) 128 [.tmp 63] _ [.agg P.toArray] _ (by rfl) (by rfl) (fun w=>by kernel_rfl) hpt ?_
    rintro e u3 ⟨rfl,hb3'⟩
    have hb03:Below w2.heap.size w2 u3:=hb02.trans (hb3'.mono hb02.size)
    refine⟨_,rfl,hKK.out _ _ (HQ.out _ hb03) (fun hHeld2=>?_)⟩
    clear hKK KK hHeld
    have hHeld:=hHeld2
    clear hHeld2
    try simp only[Act.put,sL]
    refine takeY (i:=14) (v:=.string X1) hHeld ?_ ?_
    ·rintro w' ⟨c0,c1,r0,r20,r40,c44⟩;rw[<-HX1.out];go_simp;first | done | omega | rfl
    try simp only[Act.put,sL]
    refine takeY (i:=17) (v:=.string X2) hHeld ?_ ?_
    ·rintro w' ⟨c0,c1,r0,r20,r40,c44⟩;rw[<-HX2.out];go_simp;first | done | omega | rfl
    try simp only[Act.put,sL]
    obtain⟨u4,HU4⟩:=nm_ (u3.alloc (.cells #[.string ⟨#[108,111,103]⟩,.string ⟨s.name.toArray⟩,.string ⟨(yW s.e.old).toArray⟩,.string ⟨(yW s.e.new).toArray⟩,.string X2] 9))
    have hb34:Below u3.heap.size u3 u4:=by rw[<-HU4.out];exact(Below.refl _ _).alloc (Nat.le_refl _) _
    have hb04:Below w2.heap.size w2 u4:=hb03.trans (hb34.mono hb03.size)
    refine wpAnyH_ready (rs:=[18]) (by kernel_rfl) (by simp) ?_
    refine xj rfl (fun KK hKK=>?_) AllReadyH.nil
    refine jy (by rfl) (.slice (some ⟨u3.heap.size,0,none⟩) 5 5) (w':=u4) (by rw[<-HU4.out];go_simp) ?_
    refine hKK.out _ _ (HQ.out _ hb04) (fun hHeld2=>?_)
    clear hKK KK hHeld
    have hHeld:=hHeld2
    clear hHeld2
    try simp only[Act.put,sL]
    have hln:=Xw w u3 G u out [wG,s.name,yW s.e.old,yW s.e.new,x8 s.e.who++9 :: s.e.text] 5 rfl (HB2.out.carry hb03) HLE.out (by simp) u4 (by rw[<-HU4.out,HXX.out];rfl)
    refine wpAnyH_ready (rs:=[19]) (by kernel_rfl) (by simp) ?_
    refine xj rfl (fun KK hKK=>?_) AllReadyH.nil
    refine qJ (by rfl) 127 [.tmp 51,.tmp 69] _ [u,.slice (some ⟨u3.heap.size,0,none⟩) 5 5] _ (by rfl) (by rfl) (fun w=>by kernel_rfl) hln ?_
    rintro e u5 ⟨v5,rfl,k1,k2⟩
    have hq3:(Qe wr.heap.size w1.heap.size ⟨#[108,111,103]⟩ ⟨s.name.toArray⟩ ⟨s.e.text.toArray⟩ X Y P) u5:=by
     have h1:wr.heap.size<u4.heap.size:=Nat.lt_of_lt_of_le hlt1 (Nat.le_trans hb2.size hb04.size)
     have g1:w1.heap.size<u4.heap.size:=Nat.lt_of_lt_of_le hlt2 hb04.size
     have h2:u5.heap[wr.heap.size]? = u4.heap[wr.heap.size]? := k2.blk _ h1 (fun e=>by have:=(yq HB.out.own _ e.symm).2;exact Nat.lt_irrefl _ this)
     have g2:u5.heap[w1.heap.size]? = u4.heap[w1.heap.size]? := k2.blk _ g1 (fun e=>by have:=(yq HB.out.own _ e.symm).2;have:=hb1.size;omega)
     have h3:=HQ.out _ hb04
     exact⟨(World.cell?_of_block (a:=⟨wr.heap.size,0,none⟩) h2).trans h3.c0,(World.cell?_of_block (a:=⟨wr.heap.size,1,none⟩) h2).trans h3.c1,fun j v hv=>(World.cell?_of_block (a:=⟨w1.heap.size,0+j,none⟩) g2).trans (h3.r0 j v hv),fun j v hv=>(World.cell?_of_block (a:=⟨w1.heap.size,20+j,none⟩) g2).trans (h3.r20 j v hv),fun j v hv=>(World.cell?_of_block (a:=⟨w1.heap.size,40+j,none⟩) g2).trans (h3.r40 j v hv),(World.cell?_of_block (a:=⟨w1.heap.size,44,none⟩) g2).trans h3.c44⟩
    refine⟨_,rfl,hKK.out _ _ hq3 (fun hHeld2=>?_)⟩
    clear hKK KK hHeld
    have hHeld:=hHeld2
    clear hHeld2
    try simp only[Act.put,sL]
    refine qq (v:=?_) hHeld ?_ ?_
    rotate_left
    ·rintro w' ⟨c0,c1,r0,r20,r40,c44⟩;go_simp;rfl
    try simp only[Act.put,sL]
    have HBN:=hid (HFIN.out _ _ k1)
    clear hHeld hq3 hb0 hb01 hb02 hb03 hb04 hb34 hz0 k1 k2 hln hb1' hb2' hb3' hhx hhy hpt
    refine wpAnyH_done (by kernel_rfl) ?_ _
    go_wp2
    go_roundg (N-(i+1))
    case measure=>omega
    case rel=>exact⟨i+1,_,by go_num,rfl,rfl,by omega,HBN⟩
  ·have hlti:¬ (i:Int)<(N:Int):=by omega
   obtain rfl:i=N:=by omega
   have HF:Hid (Bb w wr w.heap.size u (wrL ss)):=hid (by
    have h1:=HB.out
    rw[List.take_of_length_le (by rw[HN.out];exact Nat.le_refl _)] at h1
    rw[HG.out]
    exact h1)
   go_wp2
   exact bodyPost_ret (results_tmp Tryz.results87 _ _ _) rfl ⟨u,rfl,HF.out⟩
end Go.Proofs.YtgliaiemkfopeaaGreatDoor.K
namespace Go.Proofs
open Go.Shelf
def Tryz.lays105_ren:Go.Shelf.Ren:=⟨fun | 105=>123 | 212=>150 | 99=>63 | 165=>151 | 166=>152 | 170=>153 | 169=>154 | 263=>185 | 264=>186 | 206=>100 | 240=>187 | 241=>188 | 276=>210 | 277=>211 | n=>n,fun | 9=>9 | 3=>3 | 4=>4 | 20=>20 | 0=>0 | 46=>39 | 109=>252 | 5=>5 | 72=>256 | 76=>257 | 51=>218 | 146=>287 | 53=>220 | 148=>289 | 70=>254 | 37=>60 | 75=>55 | 127=>291 | 164=>157 | 80=>260 | n=>n,fun | n=>n⟩
theorem Tryz.lays105:Go.Proofs.Lays.n105 Tryz.prog Tryz.lays105_ren:={
 mixed:=by kernel_rfl
 f99:=Tryz.func63.trans (congrArg some (by kernel_rfl))
 f105:=Tryz.func123.trans (congrArg some (by kernel_rfl))
 f165:=Tryz.func151.trans (congrArg some (by kernel_rfl))
 f166:=Tryz.func152.trans (congrArg some (by kernel_rfl))
 f169:=Tryz.func154.trans (congrArg some (by kernel_rfl))
 f170:=Tryz.func153.trans (congrArg some (by kernel_rfl))
 f206:=Tryz.func100.trans (congrArg some (by kernel_rfl))
 f212:=Tryz.func150.trans (congrArg some (by kernel_rfl))
 f240:=Tryz.func187.trans (congrArg some (by kernel_rfl))
 f241:=Tryz.func188.trans (congrArg some (by kernel_rfl))
 f263:=Tryz.func185.trans (congrArg some (by kernel_rfl))
 f264:=Tryz.func186.trans (congrArg some (by kernel_rfl))
 f276:=Tryz.func210.trans (congrArg some (by kernel_rfl))
 f277:=Tryz.func211.trans (congrArg some (by kernel_rfl))
 t0:=Tryz.underlying0
 a0:=Tryz.isAgg0
 z0:=Tryz.sizeOf0
 v0:=Tryz.zeroValue0
 t3:=Tryz.underlying3
 a3:=Tryz.isAgg3
 z3:=Tryz.sizeOf3
 v3:=Tryz.zeroValue3
 t4:=Tryz.underlying4
 a4:=Tryz.isAgg4
 z4:=Tryz.sizeOf4
 v4:=Tryz.zeroValue4
 t5:=Tryz.underlying5
 a5:=Tryz.isAgg5
 z5:=Tryz.sizeOf5
 v5:=Tryz.zeroValue5
 t9:=Tryz.underlying9
 a9:=Tryz.isAgg9
 z9:=Tryz.sizeOf9
 v9:=Tryz.zeroValue9
 t20:=Tryz.underlying20
 a20:=Tryz.isAgg20
 z20:=Tryz.sizeOf20
 v20:=Tryz.zeroValue20
 t37:=Tryz.underlying60
 a37:=Tryz.isAgg60
 z37:=Tryz.sizeOf60
 v37:=Tryz.zeroValue60
 t46:=Tryz.underlying39
 a46:=Tryz.isAgg39
 z46:=Tryz.sizeOf39
 v46:=Tryz.zeroValue39
 t51:=Tryz.underlying218
 a51:=Tryz.isAgg218
 z51:=Tryz.sizeOf218
 v51:=Tryz.zeroValue218
 t53:=Tryz.underlying220
 a53:=Tryz.isAgg220
 z53:=Tryz.sizeOf220
 v53:=Tryz.zeroValue220
 t70:=Tryz.underlying254
 a70:=Tryz.isAgg254
 z70:=Tryz.sizeOf254
 v70:=Tryz.zeroValue254
 t72:=Tryz.underlying256
 a72:=Tryz.isAgg256
 z72:=Tryz.sizeOf256
 v72:=Tryz.zeroValue256
 t75:=Tryz.underlying55
 a75:=Tryz.isAgg55
 z75:=Tryz.sizeOf55
 v75:=Tryz.zeroValue55
 t76:=Tryz.underlying257
 a76:=Tryz.isAgg257
 z76:=Tryz.sizeOf257
 v76:=Tryz.zeroValue257
 t109:=Tryz.underlying252
 a109:=Tryz.isAgg252
 z109:=Tryz.sizeOf252
 v109:=Tryz.zeroValue252
 t127:=Tryz.underlying291
 a127:=Tryz.isAgg291
 z127:=Tryz.sizeOf291
 v127:=Tryz.zeroValue291
 t146:=Tryz.underlying287
 a146:=Tryz.isAgg287
 z146:=Tryz.sizeOf287
 v146:=Tryz.zeroValue287
 t148:=Tryz.underlying289
 a148:=Tryz.isAgg289
 z148:=Tryz.sizeOf289
 v148:=Tryz.zeroValue289
 t164:=Tryz.underlying157
 a164:=Tryz.isAgg157
 z164:=Tryz.sizeOf157
 v164:=Tryz.zeroValue157 }
def Tryz.lays102_ren:Go.Shelf.Ren:=⟨fun | 102=>168 | 209=>203 | 207=>132 | n=>n,fun | 9=>9 | 4=>4 | 3=>3 | n=>n,fun | n=>n⟩
theorem Tryz.lays102:Go.Proofs.Lays.n102 Tryz.prog Tryz.lays102_ren:={
 mixed:=by kernel_rfl
 f102:=Tryz.func168.trans (congrArg some (by kernel_rfl))
 f207:=Tryz.func132.trans (congrArg some (by kernel_rfl))
 f209:=Tryz.func203.trans (congrArg some (by kernel_rfl))
 t3:=Tryz.underlying3
 a3:=Tryz.isAgg3
 z3:=Tryz.sizeOf3
 v3:=Tryz.zeroValue3
 t4:=Tryz.underlying4
 a4:=Tryz.isAgg4
 z4:=Tryz.sizeOf4
 v4:=Tryz.zeroValue4
 t9:=Tryz.underlying9
 a9:=Tryz.isAgg9
 z9:=Tryz.sizeOf9
 v9:=Tryz.zeroValue9 }
theorem Tryz.Builder_Extra_105:Builder.Extra Tryz.prog Tryz.lays105_ren:={
 sizeBuilder:=by kernel_rfl
 liesBuilder:=by kernel_rfl
 t5:=Tryz.underlying5
 a5:=Tryz.isAgg5
 z5:=Tryz.sizeOf5
 v5:=Tryz.zeroValue5
 infoByte:=by kernel_rfl
 cellsByte:=by kernel_rfl
 sizeByte:=by kernel_rfl
 neB5:=by decide }
end Go.Proofs
namespace Go.Proofs.YtgliaiemkfopeaaGreatDoor.K
open Go.RowKit
theorem Tryz.results126:Tryz.f126.results=#[.tmp 2]:=by kernel_rfl
theorem Tryz.results86:Tryz.f86.results=#[.tmp 2]:=by kernel_rfl
theorem sha_isB (l:List Int):IsB (sha l):=by
 intro n hn
 unfold sha jj at hn
 obtain⟨i,_,rfl⟩:=List.mem_map.1 hn
 split
 ·exact⟨Int.emod_nonneg _ (by decide),Int.emod_lt_of_pos _ (by decide)⟩
 ·exact⟨by decide,by decide⟩
theorem sha_idw (l:List Int):IdW (sha l):=⟨QY l,sha_isB l⟩
theorem sum_pb (a:Option Addr) (c:Nat) (s:Str) (w:World) (h:PB w a c s) (hl:s.length<=300000000):Calls Tryz.prog 125 #[.slice a s.length c] w fun e w'=>e=.returned (.agg (row .u8 (sha (nm s))).toArray)/\Below w.heap.size w w':=by
 have h1:=sum6 a c (nm s) w (by rw[yX];exact hl) (nm_isB s) (fun h0=>by
  rw[yX] at h0
  obtain⟨b,off,e1,e2,_⟩:=h.at_ h0
  subst e1
  refine⟨b,off,rfl,e2,fun i hi=>?_,by rw[yX];exact h.capl⟩
  rw[yX] at hi
  rw[PB.cell h i hi]
  simp[nm,List.getD_eq_getElem?_getD,List.getElem?_eq_getElem hi])
 rw[yX] at h1
 exact h1
theorem rep_any (k:Nat) (hk:k<=1000) (w:World):Calls Tryz.prog 123 #[.string ⟨#[48]⟩,.int .i64 k] w fun e w'=>e=.returned (.string ⟨(List.replicate k (48:UInt8)).toArray⟩)/\Below w.heap.size w w':=by
 have h:=Any.strings_Repeat Tryz.lays105 Tryz.Builder_Extra_105 ⟨#[48]⟩ k w (by omega) (by show 1*k<=_;omega)
 have e:∀ k,Lib.repeatL [48] k=List.replicate k (48:UInt8):=by
  intro k
  induction k with
  | zero=>rfl
  | succ k ih=>show [48]++Lib.repeatL [48] k=_;rw[ih];rfl
 rw[show (⟨#[48]⟩:ByteArray).data.toList=[48] from rfl,e] at h
 exact h
def slS (x:Str):Str:=x++32 :: (yW (sha (nm x))++[10])
theorem sealed_any (x:Str) (hx:x.length<=1000) (w:World):Calls Tryz.prog 126 #[sV x] w fun e w'=>e=.returned (sV (slS x))/\Below w.heap.size w w':=by
 obtain⟨cap,w1,hcv,hmk,hb1⟩:=conv_mk x w
 have hsm:=sum_pb _ cap x w1 hmk.pb (by omega)
 have hhx:=fun W=>hex_id (sha (nm x)) (sha_idw _) W
 obtain⟨n,hn⟩:∃ n,x.length=n:=⟨_,rfl⟩
 rw[hn] at hcv hsm
 obtain⟨R,hR⟩:∃ R,(row .u8 (sha (nm x))).toArray=R:=⟨_,rfl⟩
 rw[hR] at hsm hhx
 obtain⟨H,HH⟩:=nm_ (⟨(yW (sha (nm x))).toArray⟩:ByteArray)
 have hH:H.size=40:=by rw[<-HH.out];simp[ByteArray.size,x7,QY]
 obtain⟨S,HS⟩:=nm_ (⟨x.toArray⟩:ByteArray)
 have hS:S.size=n:=by rw[<-HS.out,<-hn];simp[ByteArray.size]
 rw[HH.out] at hhx
 have HF:Hid (sV (slS x)=.string (((S ++ ⟨#[32]⟩)++H) ++ ⟨#[10]⟩)):=hid (by
  rw[<-HS.out,<-HH.out,show (⟨#[32]⟩:ByteArray)=⟨[32].toArray⟩ from rfl,show (⟨#[10]⟩:ByteArray)=⟨[10].toArray⟩ from rfl,yw,yw,yw]
  unfold sV slS
  simp)
 rw[HF.out]
 unfold sV
 rw[HS.out] at hcv ⊢
 have HB1:=hid hb1
 clear hmk hb1 hR
 go_enter Tryz.func126,Tryz.ntmps126
 go_wp2_with (first
  | (go_at_call 125;refine hsm.mono ?_;rintro e w2 ⟨rfl,hb2⟩;have HB2:=hid hb2;clear hb2)
  | (go_at_call 124;refine(hhx _).mono ?_;rintro e w3 ⟨rfl,hb3⟩;have HB3:=hid hb3;clear hb3))
 exact bodyPost_ret (results_tmp Tryz.results126 _ _ _) rfl ⟨rfl,(HB1.out.trans (HB2.out.mono HB1.out.size)).trans (HB3.out.mono (Nat.le_trans HB1.out.size HB2.out.size))⟩
def wdS (ls:Str):Str:=[98,108,111,99,107,32]++(h16 ls.length++32 :: yW (sha (nm ls)))
def hdS (ls:Str):Str:=slS (wdS ls)
def bkS (ls:Str):Str:=hdS ls++ls
theorem Xy (ls:Str) (h:ls.length<4294967296):(wdS ls).length=63:=by
 unfold wdS
 simp only[List.length_append,List.length_cons,List.length_nil,(h16_ok _ h).1,x7,QY]
theorem slS_len (x:Str):(slS x).length=x.length+42:=by
 unfold slS
 simp only[List.length_append,List.length_cons,List.length_nil,x7,QY]
theorem uZ (ls:Str) (h:ls.length<4294967296):(hdS ls).length=105:=by unfold hdS;rw[slS_len,Xy ls h]
theorem sizeB6:(⟨#[98,108,111,99,107,32]⟩:ByteArray).size=6:=rfl
def Post86 (ls:Str) (w:World) (e:Ending) (w':World):Prop := ∃ g cap,e=.returned (.slice (some ⟨g,0,none⟩) (bkS ls).length cap)/\Mk w' g cap (bkS ls)/\w.heap.size<=g/\Below w.heap.size w w'
set_option maxHeartbeats 1000000 in
theorem block_any (a:Option Addr) (c:Nat) (ls:Str) (w:World) (hP:PB w a c ls) (hl:ls.length<=290000000) (hdb:Db w):Calls Tryz.prog 86 #[.slice a ls.length c] w (Post86 ls w):=by
 obtain⟨G,HG⟩:=nm_ w.heap.size
 obtain⟨n,hn⟩:∃ n,ls.length=n:=⟨_,rfl⟩
 have hn9:n<=290000000:=by rw[<-hn];exact hl
 have hf:=fmtI16 n (by omega) w hdb
 have hp8:(16:Nat) ^ (7+1)=4294967296:=by decide
 have hL:(x16 n).length<=8:=x16_len 7 n (by rw[hp8];omega)
 clear hp8
 obtain⟨k,hk⟩:∃ k,(x16 n).length+k=16:=⟨16-(x16 n).length,by omega⟩
 obtain⟨Z,HZ⟩:=nm_ (⟨(x16 n).toArray⟩:ByteArray)
 obtain⟨L,HL⟩:=nm_ ((x16 n).length)
 have hZ:Z.size=L:=by rw[<-HZ.out,<-HL.out];simp[ByteArray.size]
 rw[HL.out] at hk hL
 rw[HZ.out] at hf
 have hki:(16:Int)-(L:Int)=(k:Int):=by omega
 have hrp:=fun W=>rep_any k (by omega) W
 obtain⟨O,HO⟩:=nm_ (⟨(List.replicate k (48:UInt8)).toArray⟩:ByteArray)
 have hO:O.size=k:=by rw[<-HO.out];simp[ByteArray.size]
 rw[HO.out] at hrp
 have HSM:Hid (∀ W,Below G w W->Calls Tryz.prog 125 #[.slice a n c] W fun e w'=>e=.returned (.agg (row .u8 (sha (nm ls))).toArray)/\Below W.heap.size W w'):=fun W hW=>by
  have:=sum_pb a c ls W (hP.below (by rw[HG.out];exact hW)) (by omega)
  rw[hn] at this
  exact this
 have hhx:=fun W=>hex_id (sha (nm ls)) (sha_idw _) W
 obtain⟨R,hR⟩:∃ R,(row .u8 (sha (nm ls))).toArray=R:=⟨_,rfl⟩
 rw[hR] at HSM hhx
 obtain⟨H,HH⟩:=nm_ (⟨(yW (sha (nm ls))).toArray⟩:ByteArray)
 have hH:H.size=40:=by rw[<-HH.out];simp[ByteArray.size,x7,QY]
 rw[HH.out] at hhx
 have hse:=fun W=>sealed_any (wdS ls) (by rw[Xy ls (by omega)];omega) W
 have HWD:Hid (sV (wdS ls)=.string (((((⟨#[98,108,111,99,107,32]⟩:ByteArray)++O)++Z) ++ ⟨#[32]⟩)++H)):=hid (by
  rw[<-HO.out,<-HZ.out,<-HH.out,show (⟨#[32]⟩:ByteArray)=⟨[32].toArray⟩ from rfl,show (⟨#[98,108,111,99,107,32]⟩:ByteArray)=⟨[98,108,111,99,107,32].toArray⟩ from rfl,yw,yw,yw,yw]
  unfold sV wdS h16
  rw[hn,show 16-(x16 n).length=k by have:=HL.out;omega]
  simp)
 rw[HWD.out] at hse
 have hcb:=fun W=>conv_mk (hdS ls) W
 have hHD:sV (slS (wdS ls))=sV (hdS ls):=rfl
 rw[hHD] at hse
 obtain⟨D,HD⟩:=nm_ (⟨(hdS ls).toArray⟩:ByteArray)
 unfold sV at hse
 rw[HD.out] at hse hcb
 have HCB:=hid hcb
 have HPW:Hid (∀ W,Below G w W->PB W a c ls):=fun W hW=>hP.below (by rw[HG.out];exact hW)
 have HN:=hid hn
 have hsi:=sizeB6
 have HAP:Hid (∀ (W W2:World) (cap:Nat),Below G w W->G<=W.heap.size->Mk W2 W.heap.size cap (hdS ls)->Below W.heap.size W W2->∃ v w',(Builtin.append_ #[60,60] 60 #[.slice (some ⟨W.heap.size,0,none⟩) (hdS ls).length cap,.slice a n c]).run Tryz.prog W2=.ok v w'/\Post86 ls w (.returned v) w'):=fun W W2 cap hW hGW hM h2=>by
  have hb2:Below G w W2:=hW.trans (h2.mono hGW)
  obtain⟨v,w',hr,g',cap',e1,hm',hg',hgr⟩:=app_mk W2 W.heap.size cap (hdS ls) ls a c hM (HPW.out _ hb2) (by rw[uZ ls (by rw[HN.out];omega)];omega)
  rw[HN.out] at hr
  refine⟨v,w',hr,g',cap',by rw[e1];rfl,hm',?_,?_⟩
  ·rw[HG.out]
   rcases hg' with rfl | hg'
   ·exact hGW
   ·exact Nat.le_trans (Nat.le_trans hGW h2.size) hg'
  ·rw[HG.out]
   exact hb2.grown hgr (Nat.le_trans hGW h2.size) (fun k hk=>by cases hk;exact hGW)
 rw[hn]
 clear hP hl hn hR HWD hHD hcb HPW hdb
 go_enter Tryz.func86,Tryz.ntmps86
 go_wp2_with (first
  | (go_at_call 122;refine hf.mono ?_;rintro e w1 ⟨rfl,hb1⟩;have HB1:=hid hb1;clear hb1)
  | (go_at_call 123;refine(hrp _).mono ?_;rintro e w2 ⟨rfl,hb2⟩;have HB2:=hid hb2;clear hb2)
  | (go_at_call 125;refine(HSM.out _ (by rw[<-HG.out];exact HB1.out.trans (HB2.out.mono HB1.out.size))).mono ?_;rintro e w3 ⟨rfl,hb3⟩;have HB3:=hid hb3;clear hb3)
  | (go_at_call 124;refine(hhx _).mono ?_;rintro e w4 ⟨rfl,hb4⟩;have HB4:=hid hb4;clear hb4)
  | (go_at_call 126;refine(hse _).mono ?_;rintro e w5 ⟨rfl,hb5⟩;obtain⟨cap,w6,hcv,hmk,hb6⟩:=HCB.out w5;have hbb:=(((HB1.out.trans (HB2.out.mono HB1.out.size)).trans (HB3.out.mono (Nat.le_trans HB1.out.size HB2.out.size))).trans (HB4.out.mono (Nat.le_trans (Nat.le_trans HB1.out.size HB2.out.size) HB3.out.size))).trans (hb5.mono (Nat.le_trans (Nat.le_trans (Nat.le_trans HB1.out.size HB2.out.size) HB3.out.size) HB4.out.size));obtain⟨v7,w7,hr7,hp7⟩:=HAP.out w5 w6 cap (by rw[<-HG.out];exact hbb) (by rw[<-HG.out];exact hbb.size) hmk hb6;have HP7:=hid hp7;have HR7:=hid hr7;clear hp7 hr7 hmk hb6 hbb hb5)
  | (at_builtin;refine z8 rfl _ (exec_app 60 60 (.tmp 22) (.tmp 23) rfl _ (.slice a n c) v7 rfl rfl HR7.out) ?_;go_frame))
 exact bodyPost_ret (results_tmp Tryz.results86 _ _ _) rfl HP7.out
theorem Tryz.results136:Tryz.f136.results=#[.tmp 2,.tmp 3,.tmp 4]:=by kernel_rfl
theorem sl60h (b off n cap j:Nat) (hj:j<=cap) (w:World):(Instr.slice 60 (.slice (some ⟨b,off,none⟩) n cap) none (some (.int .i64 j)) none).run Tryz.prog w=.ok (.slice (some ⟨b,off,none⟩) j cap) w:=by
 rw[run_slice_h w 60 _ n cap elem60 .i64 j (by omega) (by omega),size60e,Result.andThen_ok]
 simp[sliced,yV]
theorem slice_from (s:List UInt8) (i:Nat) (h:i<=s.length) (w:World):(Instr.slice 9 (.string ⟨s.toArray⟩) (some (.int .i64 i)) none none).run Tryz.prog w=.ok (.string ⟨(s.drop i).toArray⟩) w:=by
 rw[run_slice_string_from_if w 9 _ .i64 i Tryz.underlying9,if_pos ⟨by omega,by rw[Nm.txt_len];omega⟩,Int.toNat_natCast,Nm.ext_txt,Nm.txt_len,List.take_of_length_le (by simp)]
set_option maxHeartbeats 1000000 in
theorem cut_any (a:Option Addr) (c:Nat) (ls rest:Str) (w:World) (hP:PB w a c (bkS ls++rest)) (hl:ls.length<=290000000) (hr:rest.length<=600000000) (hdb:Db w) :
  Calls Tryz.prog 136 #[.slice a (bkS ls++rest).length c] w fun e w'=>e=.returned (.tuple #[.slice (adX 1 a c 105) ls.length (c-105:Nat),.slice (adX 1 a c (105+ls.length)) rest.length (c-(105+ls.length):Nat),.nilIface])/\Below w.heap.size w w':=by
 obtain⟨G,HG⟩:=nm_ w.heap.size
 have hhd:(hdS ls).length=105:=uZ ls (by omega)
 have hbl:(bkS ls).length=105+ls.length:=by unfold bkS;rw[List.length_append,hhd]
 obtain⟨n,hn⟩:∃ n,ls.length=n:=⟨_,rfl⟩
 obtain⟨m,hm⟩:∃ m,rest.length=m:=⟨_,rfl⟩
 have hlen:(bkS ls++rest).length=105+n+m:=by rw[List.length_append,hbl,hn,hm]
 have hcap:105+n+m<=c:=by rw[<-hlen];exact hP.capl
 have hn9:n<=290000000:=by omega
 have hm9:m<=600000000:=by omega
 have h6:=hP.take 6
 have h6l:((bkS ls++rest).take 6)=[98,108,111,99,107,32]:=by
  unfold bkS hdS slS wdS
  rfl
 rw[h6l] at h6
 have hc6:=Qj h6
 have h105:=hP.take 105
 have h105l:((bkS ls++rest).take 105)=hdS ls:=by
  unfold bkS
  rw[List.append_assoc,List.take_append_of_le_length (by omega),List.take_of_length_le (by omega)]
 rw[h105l] at h105
 have hc105:=Qj h105
 rw[hhd] at hc105
 obtain⟨D,HD⟩:=nm_ (⟨(hdS ls).toArray⟩:ByteArray)
 have hw63:(hdS ls).take 63=wdS ls:=by
  unfold hdS slS
  rw[List.take_append_of_le_length (by rw[Xy ls (by omega)];omega),List.take_of_length_le (by rw[Xy ls (by omega)];omega)]
 have h16s:((hdS ls).drop 6).take 16=h16 n:=by
  unfold hdS slS wdS
  rw[hn]
  show ((h16 n++32 :: yW (sha (nm ls)))++_).take 16=_
  rw[List.append_assoc,List.take_append_of_le_length (by rw[(h16_ok n (by omega)).1];omega),List.take_of_length_le (by rw[(h16_ok n (by omega)).1];omega)]
 obtain⟨ok1,ok2,ok3⟩:=h16_ok n (by omega)
 have s1:∀ W:World,(Instr.slice 9 (.string D) (some (.int .i64 6)) none none).run Tryz.prog W=.ok (.string ⟨((hdS ls).drop 6).toArray⟩) W:=fun W=>by rw[<-HD.out];exact slice_from (hdS ls) 6 (by omega) W
 have s2:∀ W:World,(Instr.slice 9 (.string ⟨((hdS ls).drop 6).toArray⟩) none (some (.int .i64 16)) none).run Tryz.prog W=.ok (.string ⟨(h16 n).toArray⟩) W:=fun W=>by rw[<-h16s];exact Nm.slc_to ((hdS ls).drop 6) 16 (by rw[List.length_drop];omega) W
 have s3:∀ W:World,(Instr.slice 9 (.string D) none (some (.int .i64 63)) none).run Tryz.prog W=.ok (.string ⟨(wdS ls).toArray⟩) W:=fun W=>by rw[<-HD.out,<-hw63];exact Nm.slc_to (hdS ls) 63 (by omega) W
 obtain⟨D6,HD6⟩:=nm_ (⟨((hdS ls).drop 6).toArray⟩:ByteArray)
 obtain⟨Dn,HDn⟩:=nm_ (⟨(h16 n).toArray⟩:ByteArray)
 obtain⟨Dw,HDw⟩:=nm_ (⟨(wdS ls).toArray⟩:ByteArray)
 have hpi:=parseInt16 (h16 n) (fun e=>by rw[e] at ok1;simp at ok1) (by omega) ok2 (by rw[ok3];omega) w
 rw[ok3,HDn.out] at hpi
 have hse:=fun W=>sealed_any (wdS ls) (by rw[Xy ls (by omega)];omega) W
 have hHD:sV (slS (wdS ls))=sV (hdS ls):=rfl
 rw[hHD] at hse
 unfold sV at hse hc105 hc6
 rw[HD.out,HDw.out] at hse
 rw[HD.out] at hc105
 rw[HD6.out] at s1 s2
 rw[HDn.out] at s2
 rw[HDw.out] at s3
 have hhp:=fun W=>Nm.hasPrefix_any [98,108,111,99,107,32] [98,108,111,99,107,32] W
 have hpt:Lib.hasPrefix [98,108,111,99,107,32] [98,108,111,99,107,32]=true:=by decide
 rw[hpt] at hhp
 obtain⟨b,off,e1,_⟩:=hP.at_ (by omega)
 subst e1
 have hs6:=sl60h b off (105+n+m) c 6 (by omega)
 have hs105:=sl60h b off (105+n+m) c 105 (by omega)
 have hmin:min ((105:Int)+n+m) 6=6:=by omega
 have g1:¬ ((105:Int)+n+m<105):=by omega
 have g2:¬ ((n:Int) > 105+n+m-105):=by omega
 have HPX:Hid (∀ W,Below G w W->PB W (some ⟨b,off,none⟩) c (bkS ls++rest)):=fun W hW=>hP.below (by rw[HG.out];exact hW)
 have HDB:Hid (∀ W,Below G w W->Db W):=fun W hW=>hdb.below (by rw[HG.out];exact hW)
 have hlit:[98,108,111,99,107,(32:UInt8)].length=6:=rfl
 rw[hlit] at hc6
 rw[hn,hm,hlen]
 obtain⟨la,hla⟩:∃ x,adX 1 (some ⟨b,off,none⟩) c 105=x:=⟨_,rfl⟩
 obtain⟨lc,hlc⟩:∃ x,c-105=x:=⟨_,rfl⟩
 obtain⟨ra,hra⟩:∃ x,adX 1 (some ⟨b,off,none⟩) c (105+n)=x:=⟨_,rfl⟩
 obtain⟨rc,hrc⟩:∃ x,c-(105+n)=x:=⟨_,rfl⟩
 have hsA:∀ W:World,(Instr.slice 60 (.slice (some ⟨b,off,none⟩) (105+n+m) c) (some (.int .i64 105)) (some (.int .i64 (105+(n:Int)))) none).run Tryz.prog W=.ok (.slice la n lc) W:=fun W=>by
  have:=sl60 (some ⟨b,off,none⟩) (105+n+m) c 105 (105+n) (105+(n:Int)) (by push_cast;rfl) (by omega) (by omega) W
  rw[show 105+n-105=n by omega,hla,hlc] at this
  exact this
 have hsB:∀ W:World,(Instr.slice 60 (.slice (some ⟨b,off,none⟩) (105+n+m) c) none (some (.int .i64 (105+(n:Int)))) none).run Tryz.prog W=.ok (.slice (some ⟨b,off,none⟩) (105+n) c) W:=fun W=>by
  have:=sl60h b off (105+n+m) c (105+n) (by omega) W
  rw[show ((105+n:Nat):Int)=105+(n:Int) by push_cast;rfl] at this
  exact this
 have hsC:∀ W:World,(Instr.slice 60 (.slice (some ⟨b,off,none⟩) (105+n+m) c) (some (.int .i64 (105+(n:Int)))) none none).run Tryz.prog W=.ok (.slice ra m rc) W:=fun W=>by
  have:=sl60l (some ⟨b,off,none⟩) (105+n+m) c (105+n) (by omega) W
  rw[show ((105+n:Nat):Int)=105+(n:Int) by push_cast;rfl,show 105+n+m-(105+n)=m by omega,hra,hrc] at this
  exact this
 have HBLK:Hid (∀ W,Below G w W->Calls Tryz.prog 86 #[.slice la n lc] W fun e w'=>Below W.heap.size W w'/\∃ g cap,e=.returned (.slice (some ⟨g,0,none⟩) (105+n) cap)/\∀ W',Below w'.heap.size w' W'->Calls Tryz.prog 165 #[.slice (some ⟨g,0,none⟩) (105+n) cap,.slice (some ⟨b,off,none⟩) (105+n) c] W' fun e2 w2=>e2=.returned (.bool true)/\w2=W'):=fun W hW=>by
  have hPW:=HPX.out W hW
  have hmid:=hPW.mid 105 (105+n) (by omega) (by rw[hlen];omega)
  have hml:((bkS ls++rest).drop 105).take (105+n-105)=ls:=by
   unfold bkS
   rw[List.append_assoc,List.drop_append_of_le_length (by omega),List.drop_of_length_le (by omega),List.nil_append,show 105+n-105=ls.length by omega,List.take_left]
  rw[hml,hla,hlc] at hmid
  have hbk:=block_any la lc ls W hmid (by omega) (HDB.out W hW)
  rw[hn] at hbk
  refine hbk.mono ?_
  rintro e w' ⟨g,cap,rfl,hm1,hm2,hm3⟩
  have hbl':(bkS ls).length=105+n:=by rw[hbl,hn]
  refine⟨hm3,g,cap,by rw[hbl'],fun W' hW'=>?_⟩
  have hWG:G<=W.heap.size:=by have:=hW.size;have:=HG.out;omega
  have hb3:Below G w W':=(hW.trans (hm3.mono hWG)).trans (hW'.mono (Nat.le_trans hWG hm3.size))
  have hp2:=(HPX.out W' hb3).take (105+n)
  have ht:(bkS ls++rest).take (105+n)=bkS ls:=by rw[<-hbl',List.take_left]
  rw[ht] at hp2
  have he:=equal_pb _ cap (bkS ls) ((hm1.below hW').pb) _ c (bkS ls) hp2
  rw[hbl',beq_self_eq_true] at he
  exact he
 have HLS:=hid hn
 have HM:=hid hm
 clear hP hl hr hdb h6 h6l h105 h105l hw63 h16s ok1 ok2 ok3 hHD hpt hlit hbl hlen hhd hn hm
 go_enter Tryz.func136,Tryz.ntmps136
 go_wp2_with (first
  | (go_at_call 63;refine(hhp _).mono ?_;rintro e w1 ⟨rfl,hw1⟩;obtain rfl:=hw1.symm;clear hw1)
  | (go_at_call 164;refine hpi.mono ?_;rintro e w2 ⟨rfl,hb2⟩;have HB2:=hid hb2;clear hb2)
  | (go_at_call 126;refine(hse _).mono ?_;rintro e w3 ⟨rfl,hb3⟩;have HB3:=hid hb3;clear hb3))
 have HW3:Hid (Below G w w3):=hid (by
  have h1:=HB2.out
  rw[HG.out] at h1
  exact h1.trans (HB3.out.mono (by have:=h1.size;have:=HG.out;omega)))
 refine wp_region_held_drew (S:=fun _=>True) (by kernel_rfl) trivial (fun hHeld=>?_)
 have hb0:Below w3.heap.size w3 w3.drew:=zv _ _ 1
 have hz0:w3.drew.heap.size=w3.heap.size:=rfl
 generalize w3.drew=u0 at hHeld hb0 hz0 ⊢
 iterate 3
  refine qq (v:=?_) hHeld ?_ ?_
  rotate_left
  ·intro w' _;go_simp;rfl
  try simp only[Act.put,sL]
 refine takeY (i:=4) (v:=?_) hHeld ?_ ?_
 rotate_left
 ·intro w' _;go_simp;rfl
 try simp only[Act.put,sL]
 refine takeY (i:=5) (v:=?_) hHeld ?_ ?_
 rotate_left
 ·intro w' _;go_simp;rfl
 try simp only[Act.put,sL]
 refine takeY (i:=6) (v:=?_) hHeld ?_ ?_
 rotate_left
 ·intro w' _;go_simp;rfl
 try simp only[Act.put,sL]
 have hGW:G<=w3.heap.size:=by have:=HW3.out.size;have:=HG.out;omega
 have hbu0:Below G w u0:=HW3.out.trans (hb0.mono hGW)
 refine wpAnyH_ready (rs:=[3]) (by kernel_rfl) (by simp) ?_
 refine xj rfl (fun KK hKK=>?_) AllReadyH.nil
 refine qJ (by rfl) 86 [.tmp 57] _ [.slice la n lc] _ (by rfl) (by rfl) (fun w=>by kernel_rfl) (HBLK.out _ hbu0) ?_
 rintro e u1 ⟨hb1,g,cap,rfl,heq⟩
 refine⟨_,rfl,hKK.out _ _ trivial (fun hHeld2=>?_)⟩
 clear hKK KK hHeld
 have hHeld:=hHeld2
 clear hHeld2
 try simp only[Act.put,sL]
 refine wpAnyH_ready (rs:=[7]) (by kernel_rfl) (by simp) ?_
 refine xj rfl (fun KK hKK=>?_) AllReadyH.nil
 refine qJ (by rfl) 165 [.tmp 58,.tmp 61] _ [.slice (some ⟨g,0,none⟩) (105+n) cap,.slice (some ⟨b,off,none⟩) (105+n) c] _ (by rfl) (by rfl) (fun w=>by kernel_rfl) (heq u1 (Below.refl _ _)) ?_
 rintro e u2 ⟨rfl,rfl⟩
 refine⟨_,rfl,hKK.out _ _ trivial (fun hHeld2=>?_)⟩
 clear hKK KK hHeld
 have hHeld:=hHeld2
 clear hHeld2
 try simp only[Act.put,sL]
 refine qq (v:=?_) hHeld ?_ ?_
 rotate_left
 ·intro w' _;go_simp;rfl
 try simp only[Act.put,sL]
 have HU:Hid (Below G w u2):=hid (hbu0.trans (hb1.mono (by omega)))
 clear heq hHeld hb1 hbu0 hb0 hz0
 refine wpAnyH_done (by kernel_rfl) ?_ _
 go_wp2
 refine wp_region_held_drew (S:=fun _=>True) (by kernel_rfl) trivial (fun hHeld=>?_)
 iterate 9
  refine qq (v:=?_) hHeld ?_ ?_
  rotate_left
  ·intro w' _;go_simp;rfl
  try simp only[Act.put,sL]
 refine wpAnyH_done (by kernel_rfl) ?_ _
 go_wp2
 refine bodyPost_ret (results_tmp3 Tryz.results136 _ _ _) rfl ⟨?_,by rw[HG.out];exact⟨HU.out.os,HU.out.tape,HU.out.output,HU.out.size,HU.out.block⟩⟩
 rw[hla,hlc,hra,hrc]
 rfl
end Go.Proofs.YtgliaiemkfopeaaGreatDoor.K
