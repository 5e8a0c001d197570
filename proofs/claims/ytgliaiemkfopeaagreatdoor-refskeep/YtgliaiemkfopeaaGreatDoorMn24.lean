import Derived.Test.YtgliaiemkfopeaaGreatDoorMn23
import Derived.Test.YtgliaiemkfopeaaGreatDoorMn21
import Derived.Test.YtgliaiemkfopeaaGreatDoorMn14
set_option linter.unusedSimpArgs false
set_option linter.unusedVariables false
set_option maxRecDepth 20000
set_option maxHeartbeats 4000000
namespace Go.Proofs.YtgliaiemkfopeaaGreatDoor.K
open Go.RowKit
theorem Tryz.results44:Tryz.f44.results=#[.tmp 4,.tmp 5]:=by kernel_rfl
structure Mv1 where
 name:Str
 old:List Int
 new:List Int
def qz (x:Mv1):List Value:=sV x.name :: (row .u8 x.old++row .u8 x.new)
abbrev dMv:Mv1:=⟨[],[],[]⟩
def xw (x:Mv1):Prop:=True/\IdW x.old/\IdW x.new
theorem uW {x:Mv1} (h:xw x):(qz x).length=41:=by simp[qz,zw,h.2.1.1,h.2.2.1]
theorem yY (x:Mv1):∀ v ∈ qz x,v.oneCell'=true:=fun v hv=>by
 unfold qz at hv
 simp only[List.mem_cons,List.mem_append] at hv
 rcases hv with rfl | hv | hv
 ·rfl
 ·exact yQ .u8 x.old v hv
 ·exact yQ .u8 x.new v hv
theorem Wz.map {w0 w W:World} {B g:Nat} {v:Value} {xs:List Wy} (h:Wz w0 w B v xs) {es:Array MapEntry} {ck:Nat} (hg:w.heap[g]? = some (.map es ck)) (hW:w.grownBy W (some g)) (hB:B<=g):Wz w0 W B v xs :=
 ⟨⟨⟨hW.os.trans h.bx.below.os,hW.tape.trans h.bx.below.tape,hW.output.trans h.bx.below.output,Nat.le_trans h.bx.below.size hW.size,fun i hi=>(hW.block i (by have:=h.bx.le;omega) (fun e=>by cases e;omega)).trans (h.bx.below.block i hi)⟩,vJ h.bx.own hg hW,Nat.le_trans h.bx.le hW.size⟩,fun x hx=>vJ (h.el x hx) hg hW⟩
theorem dedup_ex:∀ l:List Str,∃ ks:List Str,ks.Nodup/\(∀ x,x ∈ ks ↔ x ∈ l)/\ks.length<=l.length/\(ks.length=l.length ↔ l.Nodup)
 | []=>⟨[],by simp,by simp,by simp,by simp⟩
 | a :: l=>by
  obtain⟨ks,h1,h2,h3,h4⟩:=dedup_ex l
  by_cases ha:a ∈ l
  ·refine⟨ks,h1,fun x=>?_,by simp;omega,?_⟩
   ·rw[h2,List.mem_cons]
    constructor
    ·exact .inr
    ·rintro(rfl | h)
     ·exact ha
     ·exact h
   ·constructor
    ·intro h;simp at h;omega
    ·intro h;exact absurd ha (List.nodup_cons.1 h).1
  ·refine⟨a :: ks,List.nodup_cons.2 ⟨fun h=>ha ((h2 a).1 h),h1⟩,fun x=>by simp[h2],by simp;omega,?_⟩
   rw[List.nodup_cons]
   constructor
   ·intro h;simp at h;exact⟨ha,h4.1 h⟩
   ·intro h;simp;exact h4.2 h.2
def enW (l:List Str):Str:=l.getD (l.length-1) []
def Wl (f:Str->Option (List Str)) (xs:List Str) (ls:List (List Str)):Prop:=ls.length=xs.length/\∀ j,j<xs.length->isN (xs.getD j [])=true/\f (xs.getD j [])=some (ls.getD j [])
def WaysX (f:Str->Option (List Str)) (xs:List Str) (bad:Int->Prop) (good:List (List Str)->Prop):Prop :=
 (∃ i,i<xs.length/\(∃ ls,Wl f (xs.take i) ls)/\((isN (xs.getD i [])=false/\bad 60) ∨ (isN (xs.getD i [])=true/\f (xs.getD i [])=none/\bad 64))) ∨ (∃ ls,Wl f xs ls/\((¬ (ls.map enW).Nodup/\bad 60) ∨ ((ls.map enW).Nodup/\good ls)))
theorem Wl.snoc {f:Str->Option (List Str)} {xs:List Str} {i:Nat} {ls:List (List Str)} (h:Wl f (xs.take i) ls) (hi:i<xs.length) {l:List Str} (h1:isN (xs.getD i [])=true) (h2:f (xs.getD i [])=some l):Wl f (xs.take (i+1)) (ls++[l]):=by
 have hl:ls.length=i:=by rw[h.1,List.length_take];omega
 have hl1:(xs.take (i+1)).length=i+1:=by rw[List.length_take];omega
 have hl0:(xs.take i).length=i:=by rw[List.length_take];omega
 refine⟨by rw[hl1];simp[hl],fun j hj=>?_⟩
 rw[hl1] at hj
 have hx:(xs.take (i+1)).getD j []=xs.getD j []:=by simp[List.getD_eq_getElem?_getD,List.getElem?_take,hj]
 rw[hx]
 by_cases e:j=i
 ·subst e
  rw[show (ls++[l]).getD j []=l by simp[List.getD_eq_getElem?_getD,<-hl]]
  exact⟨h1,h2⟩
 ·have hj2:j<i:=by omega
  have h3:=h.2 j (by rw[hl0];exact hj2)
  rw[show (xs.take i).getD j []=xs.getD j [] by simp[List.getD_eq_getElem?_getD,List.getElem?_take,hj2]] at h3
  rw[show (ls++[l]).getD j []=ls.getD j [] by simp[List.getD_eq_getElem?_getD,List.getElem?_append_left (by omega:j<ls.length)]]
  exact h3
def Post44 (T:Ts) (ms:List Mv1) (w:World) (e:Ending) (w':World):Prop:=WaysX (wyT T 8) (ms.map (·.name)) (fun k=>e=.returned (.tuple #[.slice none 0 0,eI k])/\Below w.heap.size w w') (fun ls=>∃ v xs,e=.returned (.tuple #[v,.nilIface])/\Wz w w' w.heap.size v xs/\xs.map (·.l)=ls)
def Me (es:List Str):Str->Option Value:=fun x=>if x ∈ es then some (.agg #[]) else none
theorem ways_any (S:Nat->Prop) (t n:Nat) (T:Ts) (a:Option Addr) (c:Nat) (ms:List Mv1) (w:World) (h:Tt S w t n T) (hP:Px qz 41 dMv w a c ms) (hok:∀ m ∈ ms,xw m) (hn:ms.length<=1000) (hmx:Mx w) :
  Calls Tryz.prog 44 #[.map (some t),.slice a ms.length c] w (Post44 T ms w):=by
 obtain⟨r,HR⟩:=nm_ w.heap.size
 obtain⟨N,HN⟩:=nm_ ms.length
 have hN9:N<=1000:=by rw[<-HN.out];exact hn
 obtain⟨W1,HW1⟩:=nm_ (w.alloc (.map #[] 0))
 have hb1:Below r w W1:=by rw[<-HW1.out,<-HR.out];exact(Below.refl _ w).alloc (Nat.le_refl _) _
 have hmk:=mk176 w
 rw[HW1.out,HR.out] at hmk
 have HST:Hid (∀ W,Below r w W->Tt S W t n T/\Px qz 41 dMv W a c ms/\Mx W):=fun W hW=>⟨h.below (by rw[HR.out];exact hW),hP.below (by rw[HR.out];exact hW),hmx.below (by rw[HR.out];exact hW)⟩
 have HTT:=hid h
 have HOK:=hid hok
 have HZ0:Hid (Wz w W1 r (.slice none 0 0) []):=hid ((Wz.nil w r (by rw[HR.out];exact Nat.le_refl _)).carry (by rw[HR.out];exact hb1))
 have HM0:Hid (TM (.agg #[]) W1 r 0 (Me [])):=hid (by
  have:Me []=fun _=>none:=by funext x;simp[Me]
  rw[this,<-HW1.out,<-HR.out]
  exact YV _ w)
 have HNM:Hid (∀ i,i<N->(ms.map (·.name)).getD i []=(ms.getD i dMv).name):=fun i hi=>by
  rw[<-HN.out] at hi
  simp[List.getD_eq_getElem?_getD,List.getElem?_eq_getElem hi]
 have HXL:Hid ((ms.map (·.name)).length=N):=hid (by simp[HN.out])
 rw[HN.out]
 clear h hP hok hmx hn
 go_enter Tryz.func44,Tryz.ntmps44
 go_wp2_with (refine z8 rfl _ (exec_mkm rfl hmk) ?_;go_frame)
 go_loopg [6,15] N (fun q ov iv wr=>∃ (i:Nat) (u:Value) (xs:List Wy),iv=.int .i64 i/\u=ov/\q=N-i/\i<=N/\xs.length=i/\Hid (Wz w wr r u xs)/\Hid (TM (.agg #[]) wr r i (Me (xs.map fun x=>enW x.l)))/\Hid (Wl (wyT T 8) ((ms.map (·.name)).take i) (xs.map (·.l))))
 case atStart=>exact⟨0,_,[],rfl,rfl,rfl,Nat.zero_le _,rfl,HZ0,HM0,hid ⟨by simp,fun j hj=>by simp at hj⟩⟩
 case round =>
  obtain⟨i,u,xs,rfl,hu,hq,hin,hxl,HZ,HM,HWL⟩:=hrel
  subst hu
  obtain⟨ua,uc,hus⟩:=zZ HZ.out.bx.own
  rw[hxl] at hus
  subst hus
  have hbw:=HZ.out.bx.below
  obtain⟨t1,p1,m1⟩:=HST.out wr hbw
  by_cases hlt:i<N
  ·have hlti:(i:Int)<(N:Int):=by omega
   obtain⟨b,off,hae,_,_⟩:=p1.at_ (by rw[HN.out];omega)
   subst hae
   have hmo:xw (ms.getD i dMv):=HOK.out _ (zK ms i dMv (by rw[HN.out];exact hlt))
   obtain⟨y,hy⟩:∃ y,(ms.getD i dMv).name=y:=⟨_,rfl⟩
   have HYN:Hid ((ms.map (·.name)).getD i []=y):=hid (by rw[HNM.out i hlt];exact hy)
   obtain⟨EL,hEL⟩:∃ EL,qz (ms.getD i dMv)=EL:=⟨_,rfl⟩
   have hE41:EL.length=41:=by rw[<-hEL];exact uW hmo
   have HIE:Hid ((Tryz.prog.info? 117).map (·.size)=some EL.length):=hid (by rw[hE41];kernel_rfl)
   have HIA:Hid ((Tryz.prog.info? 117).map (·.size)=some EL.toArray.size):=hid (by rw[List.size_toArray,hE41];kernel_rfl)
   have HRG:Hid (wr.rangeAt b (off+i*41) EL):=hid (by
    obtain⟨_,_,e1,_,e3⟩:=p1.at_ (by rw[HN.out];omega)
    cases e1
    rw[<-hEL]
    exact e3 i (by rw[HN.out];exact hlt))
   have HONE:Hid (EL.toArray.all (·.oneCell')=true):=hid (by rw[<-hEL];exact all_oneCell_toArray (yY _))
   have HZS:Hid ((41:Nat)=EL.toArray.size):=hid (by rw[List.size_toArray,hE41])
   obtain⟨V,HV⟩:=nm_ (wr.alloc (.cells EL.toArray 117))
   obtain⟨K,HK⟩:=nm_ wr.heap.size
   have hbV:Below K wr V:=by rw[<-HV.out,<-HK.out];exact(Below.refl _ wr).alloc (Nat.le_refl _) _
   have hkV:V.heap[K]? = some (.cells EL.toArray 117):=by rw[<-HV.out,<-HK.out];exact heap_alloc_new _ _
   have hKr:r<=K:=by have:=hbw.size;have:=HR.out;have:=HK.out;omega
   have hrV:Below r w V:=hbw.trans (hbV.mono hKr)
   have HCV:Hid (∀ W,Below V.heap.size V W->W.cell? ⟨K,0,none⟩=some (sV y)/\Below r w W/\Below wr.heap.size wr W):=fun W hW=>by
    have h1:=(hW.block K (z7 hkV)).trans hkV
    refine⟨?_,hrV.trans (hW.mono (by have:=hrV.size;have:=HR.out;omega)),?_⟩
    ·rw[cell_of_row _ _ 0 _ _ _ h1,<-hEL,<-hy]
     rfl
    ·rw[HK.out]
     exact hbV.trans (hW.mono (by have:=hbV.size;have:=HK.out;omega))
   have hcV:=(HCV.out V (Below.refl _ _)).1
   have hin1:=yK y V (HST.out V hrV).2.2
   have HBAD:Hid (∀ k W,Below r w W->((isN y=false/\k=60) ∨ (isN y=true/\wyT T 8 y=none/\k=64))->Post44 T ms w (.returned (.tuple #[.slice none 0 0,eI k])) W):=fun k W hW hk=>by
    refine .inl ⟨i,by rw[HXL.out];exact hlt,⟨_,HWL.out⟩,?_⟩
    rw[HYN.out]
    rcases hk with ⟨h1,rfl⟩ | ⟨h1,h2,rfl⟩
    ·exact .inl ⟨h1,rfl,by rw[HR.out];exact hW⟩
    ·exact .inr ⟨h1,h2,rfl,by rw[HR.out];exact hW⟩
   obtain⟨Y,HY⟩:=nm_ (⟨y.toArray⟩:ByteArray)
   cases hi:isN y with
   | false =>
    rw[hi] at hin1
    have HE:Hid (∀ W,Below V.heap.size V W->Post44 T ms w (.returned (.tuple #[.slice none 0 0,eI 60])) W):=fun W hW=>HBAD.out 60 W (HCV.out W hW).2.1 (.inl ⟨hi,rfl⟩)
    unfold sV at hcV hin1
    rw[HY.out] at hcV hin1
    clear t1 p1 m1 hEL hkV hbV
    go_wp2_with (first
     | (refine wpList_load_mid rfl 117 (.tmp 17) rfl _ _ rfl EL _ HRG.out Tryz.underlying117 rfl HIE.out ?_;go_frame)
     | (refine zq rfl 117 (.tmp 9) (.tmp 18) rfl _ EL.toArray rfl rfl HIA.out HZS.out HONE.out ?_;rw[HV.out,HK.out];go_frame)
     | (go_at_call 58;refine hin1.mono ?_;rintro e w2 ⟨rfl,hb⟩;have E2:=hid (HE.out w2 hb);clear hb hin1))
    exact bodyPost_ret (results_tmp2 Tryz.results44 _ _ _) rfl E2.out
   | true =>
    rw[hi] at hin1
    have hy60:=qZ hi
    have HWY:Hid (∀ W,Below V.heap.size V W->Calls Tryz.prog 80 #[.map (some t),sV y] W fun e w'=>Yx T y W.heap.size e w'/\Below W.heap.size W w'):=fun W hW=>way_any S t n T y W (HST.out W (HCV.out W hW).2.1).1 hy60
    have HCC:Hid (∀ W,Below V.heap.size V W->W.cell? ⟨K,0,none⟩=some (.string Y)):=fun W hW=>by rw[<-HY.out];exact(HCV.out W hW).1
    cases hW:wyT T 8 y with
    | none =>
     unfold Yx at HWY
     rw[hW] at HWY
     have HE:Hid (∀ W W',Below V.heap.size V W->Below W.heap.size W W'->Post44 T ms w (.returned (.tuple #[.slice none 0 0,eI 64])) W'):=fun W W' h1 h2=>HBAD.out 64 W' ((HCV.out W h1).2.1.trans (h2.mono (by have:=(HCV.out W h1).2.1.size;have:=HR.out;omega))) (.inr ⟨hi,hW,rfl⟩)
     unfold sV at hcV hin1 HWY
     rw[HY.out] at hcV hin1 HWY
     clear t1 p1 m1 hEL hkV hbV
     go_wp2_with (first
      | (refine wpList_load_mid rfl 117 (.tmp 17) rfl _ _ rfl EL _ HRG.out Tryz.underlying117 rfl HIE.out ?_;go_frame)
      | (refine zq rfl 117 (.tmp 9) (.tmp 18) rfl _ EL.toArray rfl rfl HIA.out HZS.out HONE.out ?_;rw[HV.out,HK.out];go_frame)
      | (go_at_call 58;refine hin1.mono ?_;rintro e w2 ⟨rfl,hb⟩;have hc2:=HCC.out w2 hb;have c80:=HWY.out w2 hb;have B2:=hid hb;clear hb hin1)
      | (go_at_call 80;refine c80.mono ?_;rintro e w3 ⟨rfl,hb⟩;have E3:=hid (HE.out w2 w3 B2.out hb);clear hb c80))
     exact bodyPost_ret (results_tmp2 Tryz.results44 _ _ _) rfl E3.out
    | some l =>
     unfold Yx at HWY
     rw[hW] at HWY
     obtain⟨hl0,hl9,hl60⟩:=Qz (T:=T) (fun x q hx=>(HTT.out.at_ x q hx).tg) 8 y l hy60 hW
     have hz60:(enW l).length<=60:=hl60 _ (uu l hl0)
     obtain⟨ln,HLN⟩:=nm_ l.length
     obtain⟨z,HZN⟩:=nm_ (enW l)
     obtain⟨ZB,HZB⟩:=nm_ (⟨z.toArray⟩:ByteArray)
     have HW2:Hid (∀ W,Below V.heap.size V W->Calls Tryz.prog 80 #[.map (some t),.string Y] W fun e w3=>∃ va vc,e=.returned (.tuple #[.slice va ln vc,.nilIface])/\∃ X4,w3.alloc (.cells #[.slice va ln vc] 64)=X4/\w3.heap.size+1=X4.heap.size/\Wz w X4 r (.slice ua i uc) xs/\TM (.agg #[]) X4 r i (Me (xs.map fun x=>enW x.l))/\Px XQ 1 dW X4 (some ⟨w3.heap.size,0,none⟩) 1 [⟨va,vc,l⟩]/\(∀ v' w5,Bx XQ 1 64 w w5 r v' (xs++[⟨va,vc,l⟩])->Mv X4 w5 (.slice ua i uc) v'->Calls Tryz.prog 45 #[.slice va ln vc] w5 (fun e w'=>e=.returned (.string ZB)/\w'=w5)/\∃ w6,(Instr.mapUpdate 176 (.map (some r)) (.string ZB) (.agg #[])).run Tryz.prog w5=.ok () w6/\Wz w w6 r v' (xs++[⟨va,vc,l⟩])/\TM (.agg #[]) w6 r (i+1) (Me ((xs++[(⟨va,vc,l⟩:Wy)]).map fun x=>enW x.l)))):=fun W hWb=>by
      have hc80:=HWY.out W hWb
      unfold sV at hc80
      rw[HY.out] at hc80
      refine hc80.mono ?_
      rintro e w3 ⟨⟨v,rfl,hown⟩,hb3⟩
      obtain⟨va,vc,hv⟩:=zZ hown
      subst hv
      rw[HLN.out] at hown
      refine⟨va,vc,by rw[HLN.out],_,rfl,by simp,?_⟩
      have hbr:Below wr.heap.size wr w3:=(HCV.out W hWb).2.2.trans (hb3.mono (HCV.out W hWb).2.2.size)
      have hb4:Below wr.heap.size wr (w3.alloc (.cells #[.slice va ln vc] 64)):=hbr.alloc hbr.size _
      have hWr:r<=W.heap.size:=by have:=(HCV.out W hWb).2.1.size;have:=HR.out;omega
      have ho4:(w3.alloc (.cells #[.slice va ln vc] 64)).ownsRow r 9 1 (.slice va ln vc) ln (l.map sV):=qk (xV hown ((Below.refl _ w3).alloc (Nat.le_refl _) _)) hWr
      have hZ4:=HZ.out.carry hb4
      have hM4:TM (.agg #[]) (w3.alloc (.cells #[.slice va ln vc] 64)) r i (Me (xs.map fun x=>enW x.l)):=HM.out.sm (hb4.block _ HM.out.lt)
      refine⟨hZ4,hM4,?_,fun v' w5 hb5 hm5=>?_⟩
      ·have:=yu (enc:=XQ) (d:=dW) w3 ⟨va,vc,l⟩ 64
       simp only[XQ,HLN.out] at this
       exact this
      ·have hx4:(w3.alloc (.cells #[.slice va ln vc] 64)).ownsRow r 9 1 (.slice va (⟨va,vc,l⟩:Wy).l.length vc) (⟨va,vc,l⟩:Wy).l.length (l.map sV):=by show World.ownsRow _ _ _ _ (.slice va l.length vc) l.length _;rw[HLN.out];exact ho4
       have hZ5:=hZ4.more (x:=⟨va,vc,l⟩) hx4 hb5 hm5
       have ht5:Tf 64 (w3.alloc (.cells #[.slice va ln vc] 64)) w5:=Tf.mv hm5 (fun k hk=>by
        obtain⟨_,⟨hv,h0⟩ | ⟨g,cap,cur,hv,hb,hh,_⟩⟩:=hZ4.bx.own
        ·rw[hv] at hk;cases hk
        ·rw[hv] at hk
         simp only[Value.ownBlock,Option.some.injEq] at hk
         subst hk
         exact⟨_,_,hh⟩)
       have hM5:=hM4.tf ht5
       obtain⟨w6,hpu,hT6,hg6⟩:=hM5.put (by omega) und176 (x:=z) (by rw[<-HZN.out];omega) (.agg #[])
       unfold sV at hpu
       rw[HZB.out] at hpu
       refine⟨?_,w6,hpu,?_,?_⟩
       ·have hel:=hZ5.el ⟨va,vc,l⟩ (by simp)
        rw[<-jz] at hel
        obtain⟨a',c',e',hP',_⟩:=vV (enc:=eT) (d:=[]) hel (fun _ _=>rfl)
        injection e' with e1 _ e2
        subst e1
        subst e2
        have h45:=last_any va vc l w5 hP' hl0 (by omega)
        have:l.getD (l.length-1) []=z:=HZN.out
        rw[this,HLN.out] at h45
        unfold sV at h45
        rw[HZB.out] at h45
        exact h45
       ·obtain⟨es,ck,hbx⟩:=hM5.box
        exact hZ5.map hbx hg6 (Nat.le_refl _)
       ·have e:Me ((xs++[(⟨va,vc,l⟩:Wy)]).map fun x=>enW x.l)=fun y=>if y=z then some (.agg #[]) else Me (xs.map fun x=>enW x.l) y:=by
         funext y
         unfold Me
         simp only[List.map_append,List.map_cons,List.map_nil,List.mem_append,List.mem_singleton,HZN.out]
         by_cases ey:y=z
         ·simp[ey]
         ·simp[ey]
        rw[e]
        exact hT6
     have HWS:Hid (∀ va vc,Wl (wyT T 8) ((ms.map (·.name)).take (i+1)) ((xs++[(⟨va,vc,l⟩:Wy)]).map (·.l))):=fun va vc=>by
      rw[List.map_append]
      exact HWL.out.snoc (by rw[HXL.out];exact hlt) (by rw[HYN.out];exact hi) (by rw[HYN.out];exact hW)
     have HBS:Hid (∀ (va:Option Addr) (vc:Nat) (W:World),(Instr.buildSlice 120 1 #[(0,.slice va ln vc)]).run Tryz.prog W=.ok (.slice (some ⟨W.heap.size,0,none⟩) 1 1) (W.alloc (.cells #[.slice va ln vc] 64))):=fun va vc W=>run_bs120 va ln vc W
     have HXN:Hid (∀ x:Wy,xs.length + [x].length<=1000000000):=fun x=>by simp;omega
     unfold sV at hcV hin1
     rw[HY.out] at hcV hin1
     clear t1 p1 m1 hEL hkV hbV HWY hW
     go_wp2_with (first
      | (refine wpList_load_mid rfl 117 (.tmp 17) rfl _ _ rfl EL _ HRG.out Tryz.underlying117 rfl HIE.out ?_;go_frame)
      | (refine zq rfl 117 (.tmp 9) (.tmp 18) rfl _ EL.toArray rfl rfl HIA.out HZS.out HONE.out ?_;rw[HV.out,HK.out];go_frame)
      | (go_at_call 58;refine hin1.mono ?_;rintro e w2 ⟨rfl,hb⟩;have hc2:=HCC.out w2 hb;have c80:=HW2.out w2 hb;clear hb hin1)
      | (go_at_call 80;refine c80.mono ?_;rintro e w3 ⟨va,vc,rfl,X4,hX4,hs4,q1,q2,q3,q4⟩;have HX4:=hid hX4;have Q1:=hid q1;have Q3:=hid q3;have Q4:=hid q4;clear c80 q1 q2 q3 q4 hX4 hs4)
      | (refine z8 rfl _ (zY 120 (.tmp 35) rfl (.slice va ln vc) _ rfl (HBS.out va vc _)) ?_;rw[HX4.out];go_frame)
      | (at_builtin;refine zj (enc:=XQ) (k:=1) (d:=dW) rfl _ _ 120 64 und120 info64 z64 (by decide) (by decide) encW_one rfl r (.slice ua i uc) xs rfl Q1.out.bx (some ⟨w3.heap.size,0,none⟩) 1 [⟨va,vc,l⟩] rfl Q3.out (fun _ _=>rfl) (HXN.out _) ?_;intro v5 w5 hb5 hg5 hm5;obtain⟨c45,w6,hpu,z6,m6⟩:=Q4.out v5 w5 hb5 hm5;have HPU:=hid hpu;have Z6:=hid z6;have M6:=hid m6;clear hb5 hg5 hm5 hpu z6 m6)
      | (go_at_call 45;refine c45.mono ?_;rintro e w' ⟨rfl,hw⟩;have hw':=hw.symm;subst hw';clear hw c45)
      | (refine z8 rfl _ (yk 179 rfl (build179 _)) ?_;go_frame)
      | (at_mapUpdate;refine xY rfl (x9 (mv:=.map (some r)) (kv:=.string ZB) (v:=.agg #[]) rfl rfl rfl rfl HPU.out) ?_;go_frame))
     go_roundg (N-(i+1))
     case measure=>omega
     case rel=>exact⟨i+1,_,xs++[⟨va,vc,l⟩],by go_num,rfl,rfl,by omega,by simp[hxl],Z6,M6,hid (HWS.out va vc)⟩
  ·have hlti:¬ (i:Int)<(N:Int):=by omega
   obtain rfl:i=N:=by omega
   have HWF:Hid (Wl (wyT T 8) (ms.map (·.name)) (xs.map (·.l))):=hid (by
    have:=HWL.out
    rw[List.take_of_length_le (by rw[HXL.out];exact Nat.le_refl _)] at this
    exact this)
   obtain⟨ks,hk1,hk2,hk3,hk4⟩:=dedup_ex (xs.map fun x=>enW x.l)
   have hmm:(xs.map (·.l)).map enW=xs.map fun x=>enW x.l:=by rw[List.map_map];rfl
   have hk0:∀ y ∈ ks,y.length<=4000:=fun y hy=>by
    rw[hk2,List.mem_map] at hy
    obtain⟨x,hx,rfl⟩:=hy
    obtain⟨j,hj,ej⟩:=List.mem_iff_getElem.1 hx
    have h5:=HWF.out.2 j (by rw[HXL.out,<-hxl];exact hj)
    have h6:(xs.map (·.l)).getD j []=x.l:=by simp[List.getD_eq_getElem?_getD,List.getElem?_eq_getElem hj,ej]
    rw[h6] at h5
    obtain⟨g1,_,g3⟩:=Qz (T:=T) (fun x q hx=>(HTT.out.at_ x q hx).tg) 8 _ _ (qZ h5.1) h5.2
    have:=g3 _ (uu _ g1)
    show (enW x.l).length<=4000
    unfold enW
    omega
   have hlen:=fun ty=>HM.out.count und176 ty ks hk1 (fun x=>by rw[hk2];unfold Me;by_cases e:x ∈ xs.map fun x=>enW x.l <;> simp[e]) hk0
   rw[List.length_map,hxl] at hk3 hk4
   by_cases hnd:(xs.map fun x=>enW x.l).Nodup
   ·have hkl:ks.length=i:=hk4.2 hnd
    rw[hkl] at hlen
    have HG:Hid (Post44 T ms w (.returned (.tuple #[.slice ua i uc,.nilIface])) wr):=hid (.inr ⟨_,HWF.out,.inr ⟨by rw[hmm];exact hnd,_,xs,rfl,by rw[HR.out];exact HZ.out,rfl⟩⟩)
    clear t1 p1 m1 hk1 hk2 hk3 hk4 hnd hkl hmm
    go_wp2_with (at_builtin;refine z8 rfl _ (exec_len rfl rfl (hlen _)) ?_;go_frame)
    exact bodyPost_ret (results_tmp2 Tryz.results44 _ _ _) rfl HG.out
   ·obtain⟨kl,hkl⟩:∃ n,ks.length=n:=⟨_,rfl⟩
    have hkk:(kl:Int)<(i:Int):=by
     have:ks.length ≠ i:=fun e=>hnd (hk4.1 e)
     omega
    rw[hkl] at hlen
    have HG:Hid (Post44 T ms w (.returned (.tuple #[.slice none 0 0,eI 60])) wr):=hid (.inr ⟨_,HWF.out,.inl ⟨by rw[hmm];exact hnd,rfl,by rw[HR.out];exact hbw⟩⟩)
    clear t1 p1 m1 hk1 hk2 hk3 hk4 hnd hkl hmm
    go_wp2_with (at_builtin;refine z8 rfl _ (exec_len rfl rfl (hlen _)) ?_;go_frame)
    exact bodyPost_ret (results_tmp2 Tryz.results44 _ _ _) rfl HG.out
theorem Tryz.results4:Tryz.f4.results=#[.tmp 2]:=by kernel_rfl
structure Ls where
 k:Int
 a:Option Addr
 c:Nat
 ms:List Mv1
 rot:Bool
 who:Per
 tx:Str
 nm:Str
 tg:Str
 n:Int
 af:Int
 ti:Int
 di:Int
 ta:Int
def uX (s:Ls):List Value:=[.int .i64 s.k,.slice s.a s.ms.length s.c,.bool s.rot,.string ⟨s.who.name.toArray⟩,.string ⟨s.who.mail.toArray⟩,.int .i64 s.who.time,.int .i64 s.who.zone,sV s.tx,sV s.nm,sV s.tg,.int .i64 s.n,.int .i64 s.af,.int .i64 s.ti,.int .u64 s.di,.int .u64 s.ta]
abbrev dT0:Ls:=⟨0,none,0,[],false,⟨[],[],0,0⟩,[],[],[],0,0,0,0,0⟩
def smL (s:Ls):Prop:=s.ms.length<=20/\s.tx.length<=5000
def Post4 (l:List Ls) (w:World) (e:Ending) (w':World):Prop := ∃ b:Bool,e=.returned (.bool b)/\w'=w/\(b=true ↔ l.length<=60/\∀ s ∈ l,smL s)
set_option maxHeartbeats 1000000 in
theorem small_any (a:Option Addr) (c:Nat) (l:List Ls) (w:World) (hP:Px uX 15 dT0 w a c l):Calls Tryz.prog 4 #[.slice a l.length c] w (Post4 l w):=by
 obtain⟨N,HN⟩:=nm_ l.length
 have HP:=hid hP
 rw[HN.out]
 clear hP
 by_cases hbig:60<N
 ·have hbi:(60:Int)<(N:Int):=by omega
  have HE:Hid (Post4 l w (.returned (.bool false)) w):=hid ⟨false,rfl,rfl,⟨fun h=>(by cases h),fun h=>by have:=h.1;rw[HN.out] at this;omega⟩⟩
  go_enter Tryz.func4,Tryz.ntmps4
  go_wp2
  exact bodyPost_ret (results_tmp Tryz.results4 _ _ _) rfl HE.out
 ·have hbi:¬ (60:Int)<(N:Int):=by omega
  go_enter Tryz.func4,Tryz.ntmps4
  go_wp2
  go_loopg [3] N (fun q iv wr=>∃ i:Nat,iv=.int .i64 i/\q=N-i/\i<=N/\wr=w/\Hid (∀ s ∈ l.take i,smL s))
  case atStart=>exact⟨0,rfl,rfl,Nat.zero_le _,rfl,hid (by simp)⟩
  case round =>
   obtain⟨i,rfl,hq,hin,hww,HA⟩:=hrel
   have hww':=hww.symm
   subst hww'
   by_cases hlt:i<N
   ·have hlti:(i:Int)<(N:Int):=by omega
    obtain⟨b,off,e1,_,e3⟩:=HP.out.at_ (by rw[HN.out];omega)
    subst e1
    obtain⟨s,hs⟩:∃ s,l.getD i dT0=s:=⟨_,rfl⟩
    have hsm:s ∈ l:=by rw[<-hs];exact zK l i dT0 (by rw[HN.out];exact hlt)
    have HTK:Hid (l.take (i+1)=l.take i++[s]):=hid (by rw[qj dT0 l i (by rw[HN.out];exact hlt),hs])
    have hc1:w.cell? ⟨b,off+i*15+1,none⟩=some (.slice s.a s.ms.length s.c):=e3 i (by rw[HN.out];exact hlt) 1 _ (by rw[hs];rfl)
    have hc7:w.cell? ⟨b,off+i*15+7,none⟩=some (sV s.tx):=e3 i (by rw[HN.out];exact hlt) 7 _ (by rw[hs];rfl)
    have hsz:(⟨s.tx.toArray⟩:ByteArray).size=s.tx.length:=Nm.txt_len s.tx
    obtain⟨X,HX⟩:=nm_ (⟨s.tx.toArray⟩:ByteArray)
    obtain⟨xl,HXL⟩:=nm_ s.tx.length
    obtain⟨ml,HML⟩:=nm_ s.ms.length
    rw[HX.out,HXL.out] at hsz
    unfold sV at hc7
    rw[HX.out] at hc7
    rw[HML.out] at hc1
    have HE:Hid (¬ (ml<=20/\xl<=5000)->Post4 l w (.returned (.bool false)) w):=fun hn=>⟨false,rfl,rfl,⟨fun h=>(by cases h),fun h=>by
     have:=h.2 s hsm
     unfold smL at this
     rw[HML.out,HXL.out] at this
     exact absurd this hn⟩⟩
    clear e3
    by_cases hm:20<ml
    ·have hmi:(20:Int)<(ml:Int):=by omega
     have E1:=hid (HE.out (by omega))
     go_wp2
     exact bodyPost_ret (results_tmp Tryz.results4 _ _ _) rfl E1.out
    ·have hmi:¬ (20:Int)<(ml:Int):=by omega
     by_cases hx:5000<xl
     ·have hxi:(5000:Int)<(xl:Int):=by omega
      have E1:=hid (HE.out (by omega))
      go_wp2
      exact bodyPost_ret (results_tmp Tryz.results4 _ _ _) rfl E1.out
     ·have hxi:¬ (5000:Int)<(xl:Int):=by omega
      go_wp2
      go_roundg (N-(i+1))
      case measure=>omega
      case rel=>exact⟨i+1,by go_num,rfl,by omega,rfl,hid (fun y hy=>by
       rw[HTK.out] at hy
       rcases List.mem_append.1 hy with hy | hy
       ·exact HA.out y hy
       ·rw[List.mem_singleton.1 hy]
        unfold smL
        rw[HML.out,HXL.out]
        omega)⟩
   ·have hlti:¬ (i:Int)<(N:Int):=by omega
    have HE:Hid (Post4 l w (.returned (.bool true)) w):=hid ⟨true,rfl,rfl,⟨fun _=>⟨by rw[HN.out];omega,fun s hs=>HA.out s (by rw[List.take_of_length_le (by rw[HN.out];omega)];exact hs)⟩,fun _=>rfl⟩⟩
    go_wp2
    exact bodyPost_ret (results_tmp Tryz.results4 _ _ _) rfl HE.out
def tgF (f:Str->Option Kp) (x:Str):Str:=((f x).map (·.2)).getD []
abbrev wyF (f:Str->Option Kp) (n:Nat) (x:Str):Option (List Str):=Rk.wy tgK f n x
theorem fF_tg (f:Str->Option Kp) (x:Str):(f x).bind tgK=if tgF f x=[] then none else some (tgF f x):=by
 unfold tgF tgK
 cases f x <;> simp
theorem XX {f:Str->Option Kp} {n:Nat} {x:Str} (h:tgF f x=[]):wyF f n x=some [x]:=by
 unfold wyF Rk.wy
 rw[fF_tg,if_pos h]
theorem wyF_loop {f:Str->Option Kp} {x:Str} (h:tgF f x ≠ []):wyF f 0 x=none:=by
 unfold wyF Rk.wy
 rw[fF_tg,if_neg h]
theorem wyF_go {f:Str->Option Kp} {n:Nat} {x:Str} (h:tgF f x ≠ []):wyF f (n+1) x=(wyF f n (tgF f x)).map (x :: ·):=by
 conv=>lhs;unfold wyF Rk.wy
 rw[fF_tg,if_neg h]
theorem Y5 {f:Str->Option Kp} (hT:∀ x k,f x=some k->k.2.length<=60):∀ (n:Nat) (x:Str) (l:List Str),x.length<=60->wyF f n x=some l->0<l.length/\l.length<=n+1/\∀ y ∈ l,y.length<=60
 | n,x,l,hx,h=>by
  by_cases h0:tgF f x=[]
  ·rw[XX h0] at h
   cases h
   simp[hx]
  ·cases n with
   | zero=>rw[wyF_loop h0] at h;cases h
   | succ n =>
    rw[wyF_go h0] at h
    obtain⟨l',hl,rfl⟩:=Option.map_eq_some_iff.1 h
    have hc:(tgF f x).length<=60:=by
     unfold tgF
     cases e:f x with
     | none=>simp
     | some r=>exact hT x r e
    obtain⟨k1,k2,k3⟩:=Y5 hT n _ l' hc hl
    refine⟨by simp,by simp;omega,fun y hy=>?_⟩
    rcases List.mem_cons.1 hy with rfl | hy
    ·exact hx
    ·exact k3 y hy
theorem fd_ok {rs:List Rx} (h:∀ x ∈ rs,Z9 x) {x:Str} {k:Kp} (hf:Rk.fd rs x=some k):IdW k.1/\k.2.length<=60:=by
 cases hI:fI rs x with
 | none=>rw[(jJ rs x).2 hI] at hf;cases hf
 | some i =>
  obtain⟨h1,h2,h3⟩:=(jJ rs x).1 i hI
  rw[h3] at hf
  cases hf
  exact(h _ (zK rs i dR h1)).2
def ZZ (rs:List Rx) (x:Str) (B:Nat) (e:Ending) (w':World):Prop:=match wyF (Rk.fd rs) 8 x with
 | some l=>∃ v,e=.returned (.tuple #[v,.int .i64 0])/\w'.ownsRow B 9 1 v l.length (l.map sV)
 | none=>e=.returned (.tuple #[.slice none 0 0,.int .i64 64])
theorem Tryz.results52:Tryz.f52.results=#[.tmp 4,.tmp 5]:=by kernel_rfl
set_option maxHeartbeats 2000000 in
theorem wayD_any {G Q:Nat} {v1 v2:Value} {rs:List Rx} {ls:List Ex} (x:Str) (w:World) (h:Dq G w Q v1 v2 rs ls) (hx:x.length<=60) :
  Calls Tryz.prog 52 #[.pointer (some ⟨Q,0,none⟩),sV x] w fun e w'=>ZZ rs x w.heap.size e w'/\Below w.heap.size w w':=by
 obtain⟨r,HR⟩:=nm_ w.heap.size
 have HB0:Hid (Bx eT 1 9 w (w.alloc (.cells #[.string ⟨x.toArray⟩] 9)) r (.slice (some ⟨r,0,none⟩) 1 1) ([]++[x])):=hid ⟨(Below.refl _ w).alloc (by rw[HR.out];exact Nat.le_refl _) _,⟨rfl,.inr ⟨r,1,#[.string ⟨x.toArray⟩],rfl,Nat.le_refl _,by rw[<-HR.out];exact heap_alloc_new _ _,by simp,by unfold maxLen;omega,by simp,rfl⟩⟩,by rw[<-HR.out];simp⟩
 have HD:Hid (∀ W,Below r w W->Dq G W Q v1 v2 rs ls):=fun W hW=>h.below (by rw[HR.out];exact hW)
 have HOK:=hid h.ok1
 clear h
 rw[HR.out]
 unfold sV
 go_enter Tryz.func52,Tryz.ntmps52
 go_wp2_with fail
 rw[HR.out]
 go_loopg [1,6] 9 (fun q nv sv wr=>∃ (l:List Str) (cur:Str) (v:Value),nv=.string ⟨cur.toArray⟩/\v=sv/\q=9-l.length/\l.length<=8/\cur.length<=60/\Hid (wyF (Rk.fd rs) 8 x=(wyF (Rk.fd rs) (8-l.length) cur).map (l ++ ·))/\Hid (Bx eT 1 9 w wr r v (l++[cur])))
 case atStart=>exact⟨[],x,_,rfl,rfl,rfl,by simp,hx,hid (by simp),HB0⟩
 case round =>
  obtain⟨l,cur,v,rfl,hv,hq,hl8,hcl,HW,HB⟩:=hrel
  subst hv
  have hfi:=Zz cur wr (HD.out _ HB.out.below)
  obtain⟨tg,htg⟩:∃ s,tgF (Rk.fd rs) cur=s:=⟨_,rfl⟩
  have HTG:=hid htg
  obtain⟨a,c,-,hP,-,hc0⟩:=(HD.out _ HB.out.below).px1
  cases hI:fI rs cur with
  | none =>
   rw[hI] at hfi
   have h0:tg=[]:=by rw[<-htg];unfold tgF;rw[(jJ rs cur).2 hI];rfl
   subst h0
   have HF:Hid (wyF (Rk.fd rs) 8 x=some (l++[cur])):=hid (by rw[HW.out,XX HTG.out];rfl)
   simp only[iV] at hfi
   unfold sV at hfi
   clear htg hI hc0 hP
   go_wp2_with (first
    | (go_at_call 53;refine hfi.mono ?_;rintro e w' ⟨rfl,rfl⟩))
   refine bodyPost_ret (results_tmp2 Tryz.results52 _ _ _) rfl ⟨?_,HB.out.below⟩
   unfold ZZ
   rw[HF.out]
   refine⟨_,rfl,?_⟩
   have:=HB.out.own
   rw[jz] at this
   exact this
  | some k =>
   rw[hI] at hfi
   obtain⟨hk1,hk2,hk3⟩:=(jJ rs cur).1 k hI
   have hrk:=HOK.out _ (zK rs k dR hk1)
   have htg2:(rs.getD k dR).2.2=tg:=by rw[<-htg];unfold tgF;rw[hk3];rfl
   obtain⟨b,off,e1,_,e3⟩:=hP.at_ (by omega)
   subst e1
   have hc1:=e3 k hk1 21 (sV tg) (by
    unfold qX
    rw[List.getElem?_cons_succ,List.getElem?_append_right (by rw[zw,hrk.2.1.1];exact Nat.le_refl _),zw,hrk.2.1.1,htg2]
    rfl)
   have hkn:(k:Int)<(rs.length:Int):=by omega
   have hk0:¬ ((k:Int)<0):=by omega
   have htl:tg.length<=60:=by rw[<-htg2];exact hrk.2.2
   obtain⟨N,HN⟩:=nm_ rs.length
   rw[HN.out] at hkn hc0
   simp only[iV] at hfi
   by_cases h0:tg=[]
   ·subst h0
    have HF:Hid (wyF (Rk.fd rs) 8 x=some (l++[cur])):=hid (by rw[HW.out,XX HTG.out];rfl)
    unfold sV at hfi hc1
    clear htg hI hP e3 hk1 hk2 hk3 hrk htg2
    go_wp2_with (first
     | (go_at_call 53;refine hfi.mono ?_;rintro e w' ⟨rfl,rfl⟩))
    refine bodyPost_ret (results_tmp2 Tryz.results52 _ _ _) rfl ⟨?_,HB.out.below⟩
    unfold ZZ
    rw[HF.out]
    refine⟨_,rfl,?_⟩
    have:=HB.out.own
    rw[jz] at this
    exact this
   ·have hne:(tg == [])=false:=by simpa using h0
    by_cases h8:l.length=8
    ·have HF:Hid (wyF (Rk.fd rs) 8 x=none):=hid (by rw[HW.out,h8,wyF_loop (by rw[HTG.out];exact h0)];rfl)
     obtain⟨va,vc,hvs⟩:=zZ HB.out.own
     rw[List.length_append,List.length_singleton,h8] at hvs
     subst hvs
     have HBL:=hid HB.out.below
     unfold sV at hfi hc1
     clear htg hI hP e3 hk1 hk2 hk3 hrk htg2 HB
     go_wp2_with (first
      | (go_at_call 53;refine hfi.mono ?_;rintro e w' ⟨rfl,rfl⟩))
     refine bodyPost_ret (results_tmp2 Tryz.results52 _ _ _) rfl ⟨?_,HBL.out⟩
     unfold ZZ
     rw[HF.out]
     rfl
    ·obtain⟨va,vc,hvs⟩:=zZ HB.out.own
     rw[List.length_append,List.length_singleton] at hvs
     obtain⟨ln,hln⟩:∃ n,l.length=n:=⟨_,rfl⟩
     rw[hln] at h8 hl8 hq hvs
     subst hvs
     have HLN:=hid hln
     have hln8:ln<8:=by omega
     have hnt:¬ ((ln:Int)+1 > 8):=by omega
     have HF:Hid (wyF (Rk.fd rs) 8 x=(wyF (Rk.fd rs) (8-(l++[cur]).length) tg).map (l++[cur] ++ ·)):=hid (by
      rw[HW.out,HLN.out,List.length_append,List.length_singleton,HLN.out,show 8-ln=(8-(ln+1))+1 by omega,wyF_go (by rw[HTG.out];exact h0),HTG.out]
      cases wyF (Rk.fd rs) (8-(ln+1)) tg <;> simp)
     have HB2:Hid (Bx eT 1 9 w (wr.alloc (.cells #[.string ⟨tg.toArray⟩] 9)) r (.slice va (ln+1) vc) (l++[cur])):=hid (HB.out.alloc _)
     have HLB:Hid ((l++[cur]).length + [tg].length<=1000000000):=hid (by simp;omega)
     unfold sV at hfi hc1
     clear htg hI hP e3 hk1 hk2 hk3 hrk htg2 HB hln
     go_wp2_with (first
      | (go_at_call 53;refine hfi.mono ?_;rintro e w' ⟨rfl,rfl⟩)
      | (at_builtin;refine zj (enc:=eT) (k:=1) (d:=[]) rfl _ _ 64 9 und64 info9 rfl (by decide) (by decide) (fun x v hv=>by simp only[eT,List.mem_singleton] at hv;subst hv;rfl) rfl r _ (l++[cur]) rfl HB2.out (some ⟨w'.heap.size,0,none⟩) 1 [tg] rfl (yu (enc:=eT) w' tg 9) (fun x _=>rfl) HLB.out ?_;intro v3 w3 hb3 hg3 hm3;have HB3:=hid hb3;clear hb3 hg3 hm3))
     go_roundg (9-(ln+1))
     case measure=>omega
     case rel=>exact⟨l++[cur],tg,_,rfl,rfl,by rw[List.length_append,List.length_singleton,HLN.out],by rw[List.length_append,List.length_singleton,HLN.out];omega,htl,HF,HB3⟩
def rdF (f:Str->Option Kp) (x:Str):Except Int (List Int):=if isN x then (match wyF f 8 x with
 | none=>.error 64
 | some l=>match f (l.getD (l.length-1) []) with
  | none=>.error 61
  | some k=>.ok k.1) else .error 60
abbrev rdD (rs:List Rx) (x:Str):Except Int (List Int):=rdF (Rk.fd rs) x
def oN {α:Type} (o:Except Int α):Int:=match o with
 | .ok _=>0
 | .error k=>k
theorem i86 {R:Array Value} (h:(Tryz.prog.info? 89).map (·.size)=some R.size):(Tryz.prog.info? 86).map (·.size)=some R.size:=by rw[<-h];kernel_rfl
theorem Tryz.results32:Tryz.f32.results=#[.cell 4 86,.tmp 5]:=by kernel_rfl
theorem Tryz.results34:Tryz.f34.results=#[.tmp 4,.tmp 5]:=by kernel_rfl
theorem last_row {w:World} {B:Nat} {v:Value} {l:List Str} {n:Nat} (h:w.ownsRow B 9 1 v l.length (l.map sV)) (hn:l.length=n+1):∃ b off c,v=.slice (some ⟨b,off,none⟩) (n+1) c/\w.cell? ⟨b,off+n,none⟩=some (sV (l.getD n [])):=by
 rw[<-jz] at h
 obtain⟨a,c,e1,hP,_⟩:=vV (enc:=eT) (d:=[]) h (fun _ _=>rfl)
 obtain⟨b,off,e2,_,e3⟩:=hP.at_ (by omega)
 subst e2
 refine⟨b,off,c,by rw[e1,hn],?_⟩
 have:=e3 n (by omega) 0 _ rfl
 simpa using this
set_option maxHeartbeats 2000000 in
theorem readD_any {G Q:Nat} {v1 v2:Value} {rs:List Rx} {ls:List Ex} (x:Str) (w:World) (h:Dq G w Q v1 v2 rs ls) :
  Calls Tryz.prog 32 #[.pointer (some ⟨Q,0,none⟩),sV x] w fun e w'=>e=.returned (.tuple #[.agg (row .u8 (oI (rdD rs x))).toArray,.int .i64 (oN (rdD rs x))])/\Below w.heap.size w w':=by
 obtain⟨r,HR⟩:=nm_ w.heap.size
 obtain⟨Z,HZ⟩:=ri zQ rfl
 have HZ0:Hid (Z=z89):=hid (by rw[<-HZ.out.e];rfl)
 have hi0:=i86 HZ.out.i
 obtain⟨W1,HW1⟩:=nm_ ((w.alloc (.cells Z 86)).alloc (.cells Z 86))
 have hb1:Below r w W1:=by rw[<-HW1.out,<-HR.out];exact((Below.refl _ w).alloc (Nat.le_refl _) _).alloc (by simp) _
 have hs1:W1.heap.size=r+2:=by rw[<-HW1.out,<-HR.out];simp
 have hr0:W1.heap[r]? = some (.cells Z 86):=by rw[<-HW1.out,<-HR.out,heap_alloc_old _ _ (by simp)];exact heap_alloc_new _ _
 have hr1:W1.heap[r+1]? = some (.cells Z 86):=by
  have:=heap_alloc_new (w.alloc (.cells Z 86)) (.cells Z 86)
  rw[HW1.out] at this
  simpa [HR.out] using this
 have HK:Hid (∀ w1,Below W1.heap.size W1 w1->Below r w w1/\w1.heap[r]? = some (.cells Z 86)/\w1.heap[r+1]? = some (.cells Z 86)):=fun w1 hb=>⟨hb1.trans (hb.mono (by omega)),(hb.block _ (by omega)).trans hr0,(hb.block _ (by omega)).trans hr1⟩
 have HE:Hid (∀ (w2:World) (A:Array Value),Below r w w2->w2.heap[r]? = some (.cells Z 86)->(w2.setRow r A).heap[r]? = some (.cells A 86)/\Below r w (w2.setRow r A)):=fun w2 A b2 h2=>⟨setRow_heap _ _ _ _ _ _ h2,below_setRow b2 (Nat.le_refl _) _⟩
 have hD1:=h.below (W:=W1) (by rw[HR.out];exact hb1)
 have HDW:Hid (∀ w1,Below W1.heap.size W1 w1->Dq G w1 Q v1 v2 rs ls):=fun w1 hb=>hD1.below hb
 have hin:=vW x W1
 have HOK:=hid h.ok1
 rw[HR.out]
 clear h hb1 hr0 hr1
 cases hi:isN x with
 | false =>
  have HF:Hid (rdD rs x=.error 60):=hid (by unfold rdD rdF;rw[hi];rfl)
  rw[HF.out]
  simp only[oI,oN,HZ.out.e]
  rw[hi] at hin
  rw[HZ0.out] at HW1
  unfold z89 at HW1
  unfold sV at hin ⊢
  clear hD1
  go_enter Tryz.func32,Tryz.ntmps32
  go_wp2_with (first
   | (go_at_call 51;rw[HW1.out,HR.out];refine hin.mono ?_;rintro e w1 ⟨rfl,hb⟩;obtain⟨q1,q2,q3⟩:=HK.out w1 hb;obtain⟨q4,q5⟩:=HE.out w1 Z q1 q2;have Q2:=hid q2;have Q3:=hid q3;have Q4:=hid q4;have Q5:=hid q5;clear hb q1 q2 q3 q4 q5)
   | (refine zu rfl 86 (.tmp 6) rfl _ Z 86 (0,0) _ rfl Q3.out Tryz.underlying86 rfl hi0 ?_;go_frame)
   | (refine wpList_store_row rfl 86 (.tmp 4) (.tmp 15) rfl r Z rfl rfl 86 _ Q2.out hi0 rfl HZ.out.o ?_;go_frame))
  exact bodyPost_ret (qw Tryz.results32 _ _ r Z.toList _ _ rfl rfl (zy (by simpa using Q4.out)) Tryz.underlying86 rfl (by simpa using hi0)) rfl ⟨by simp,Q5.out⟩
 | true =>
  have hx60:=qZ hi
  have hwy:=fun w1 hb=>wayD_any x w1 (HDW.out w1 hb) hx60
  rw[hi] at hin
  cases hW:wyF (Rk.fd rs) 8 x with
  | none =>
   have HF:Hid (rdD rs x=.error 64):=hid (by unfold rdD rdF;rw[hi,hW];rfl)
   rw[HF.out]
   simp only[oI,oN,HZ.out.e]
   have hwy2:∀ w1,Below W1.heap.size W1 w1->Calls Tryz.prog 52 #[.pointer (some ⟨Q,0,none⟩),sV x] w1 fun e w'=>e=.returned (.tuple #[.slice none 0 0,.int .i64 64])/\Below w1.heap.size w1 w':=fun w1 hb=>(hwy w1 hb).mono fun e w' ⟨hp,hb2⟩=>⟨by unfold ZZ at hp;rw[hW] at hp;exact hp,hb2⟩
   rw[HZ0.out] at HW1
   unfold z89 at HW1
   unfold sV at hin hwy2 ⊢
   clear hD1 hwy hW
   go_enter Tryz.func32,Tryz.ntmps32
   go_wp2_with (first
    | (go_at_call 51;rw[HW1.out,HR.out];refine hin.mono ?_;rintro e w1 ⟨rfl,hb⟩;have hwy3:=hwy2 w1 hb;have B1:=hid hb;clear hb hwy2)
    | (go_at_call 52;refine hwy3.mono ?_;rintro e w2 ⟨rfl,hb⟩;obtain⟨q1,q2,q3⟩:=HK.out w2 (B1.out.trans (hb.mono B1.out.size));obtain⟨q4,q5⟩:=HE.out w2 Z q1 q2;have Q2:=hid q2;have Q3:=hid q3;have Q4:=hid q4;have Q5:=hid q5;clear hb q1 q2 q3 q4 q5)
    | (refine zu rfl 86 (.tmp 6) rfl _ Z 86 (0,0) _ rfl Q3.out Tryz.underlying86 rfl hi0 ?_;go_frame)
    | (refine wpList_store_row rfl 86 (.tmp 4) (.tmp 24) rfl r Z rfl rfl 86 _ Q2.out hi0 rfl HZ.out.o ?_;go_frame))
   exact bodyPost_ret (qw Tryz.results32 _ _ r Z.toList _ _ rfl rfl (zy (by simpa using Q4.out)) Tryz.underlying86 rfl (by simpa using hi0)) rfl ⟨by simp,Q5.out⟩
  | some l =>
   obtain⟨hl0,hl9,hl60⟩:=Y5 (fun y k hk=>(fd_ok HOK.out hk).2) 8 x l hx60 hW
   obtain⟨n,hn⟩:∃ n,l.length=n+1:=⟨l.length-1,by omega⟩
   obtain⟨y,hy⟩:∃ y,l.getD n []=y:=⟨_,rfl⟩
   have hn9:n<=8:=by omega
   have hwy2:∀ w1,Below W1.heap.size W1 w1->Calls Tryz.prog 52 #[.pointer (some ⟨Q,0,none⟩),sV x] w1 fun e w'=>(∃ b off c,e=.returned (.tuple #[.slice (some ⟨b,off,none⟩) (n+1) c,.int .i64 0])/\w'.cell? ⟨b,off+n,none⟩=some (sV y))/\Below w1.heap.size w1 w':=fun w1 hb=>(hwy w1 hb).mono fun e w' ⟨hp,hb2⟩=>⟨by
    unfold ZZ at hp
    rw[hW] at hp
    obtain⟨v,rfl,ho⟩:=hp
    obtain⟨b,off,c,rfl,hc⟩:=last_row ho hn
    exact⟨b,off,c,rfl,by rw[hc,hy]⟩,hb2⟩
   have hfi:=fun w1 hb=>Zz y w1 (HDW.out w1 hb)
   have HRD:Hid (rdD rs x=match Rk.fd rs y with | none=>.error 61 | some k=>.ok k.1):=hid (by unfold rdD rdF;rw[hi,hW];simp only[if_true,hn,Nat.add_sub_cancel,hy])
   cases hI:fI rs y with
   | none =>
    have HF:Hid (rdD rs x=.error 61):=hid (by rw[HRD.out,(jJ rs y).2 hI])
    rw[HF.out]
    simp only[oI,oN,HZ.out.e]
    rw[hI] at hfi
    simp only[iV] at hfi
    rw[HZ0.out] at HW1
    unfold z89 at HW1
    unfold sV at hin hwy2 hfi ⊢
    clear hD1 hwy hW hl0 hl9 hl60 hn hy
    go_enter Tryz.func32,Tryz.ntmps32
    go_wp2_with (first
     | (go_at_call 51;rw[HW1.out,HR.out];refine hin.mono ?_;rintro e w1 ⟨rfl,hb⟩;have hwy3:=hwy2 w1 hb;have B1:=hid hb;clear hb hwy2)
     | (go_at_call 52;refine hwy3.mono ?_;rintro e w2 ⟨⟨b,off,c,rfl,hcl⟩,hb⟩;have hbb:=B1.out.trans (hb.mono B1.out.size);have hfi2:=hfi w2 hbb;obtain⟨q1,q2,q3⟩:=HK.out w2 hbb;obtain⟨q4,q5⟩:=HE.out w2 Z q1 q2;have Q2:=hid q2;have Q3:=hid q3;have Q4:=hid q4;have Q5:=hid q5;clear hb hbb q1 q2 q3 q4 q5 hfi)
     | (go_at_call 53;refine hfi2.mono ?_;rintro e w' ⟨rfl,rfl⟩)
     | (refine zu rfl 86 (.tmp 6) rfl _ Z 86 (0,0) _ rfl Q3.out Tryz.underlying86 rfl hi0 ?_;go_frame)
     | (refine wpList_store_row rfl 86 (.tmp 4) (.tmp 36) rfl r Z rfl rfl 86 _ Q2.out hi0 rfl HZ.out.o ?_;go_frame))
    exact bodyPost_ret (qw Tryz.results32 _ _ r Z.toList _ _ rfl rfl (zy (by simpa using Q4.out)) Tryz.underlying86 rfl (by simpa using hi0)) rfl ⟨by simp,Q5.out⟩
   | some k =>
    obtain⟨hk1,hk2,hk3⟩:=(jJ rs y).1 k hI
    have hrk:=HOK.out _ (zK rs k dR hk1)
    have HF:Hid (rdD rs x=.ok (rs.getD k dR).2.1):=hid (by rw[HRD.out,hk3])
    rw[HF.out]
    obtain⟨R,HRI⟩:=ri _ hrk.2.1.1
    simp only[oI,oN,HRI.out.e]
    have hi1:=i86 HRI.out.i
    rw[hI] at hfi
    simp only[iV] at hfi
    have HCL:Hid (∀ w1,Below W1.heap.size W1 w1->∃ b off c,w1.cell? ⟨Q,0,none⟩=some (.slice (some ⟨b,off,none⟩) rs.length c)/\w1.rangeAt b (off+k*22+1) R.toList):=fun w1 hb=>by
     obtain⟨a,c,-,hP,-,hc0⟩:=(HDW.out w1 hb).px1
     obtain⟨b,off,e1,_,e3⟩:=hP.at_ (by omega)
     subst e1
     refine⟨b,off,c,hc0,fun j v hv=>?_⟩
     rw[<-HRI.out.e] at hv
     have:=e3 k hk1 (1+j) v (by
      unfold qX
      rw[Nat.add_comm 1 j,List.getElem?_cons_succ,List.getElem?_append_left (List.getElem?_eq_some_iff.1 hv).1]
      simpa using hv)
     rw[<-this]
     congr 2
     omega
    have hkn:(k:Int)<(rs.length:Int):=by omega
    have hk0:¬ ((k:Int)<0):=by omega
    obtain⟨N,HN⟩:=nm_ rs.length
    rw[HN.out] at hkn HCL
    rw[HZ0.out] at HW1
    unfold z89 at HW1
    unfold sV at hin hwy2 hfi ⊢
    clear hD1 hwy hW hl0 hl9 hl60 hn hy hk1 hk2 hk3 hI hrk
    go_enter Tryz.func32,Tryz.ntmps32
    go_wp2_with (first
     | (go_at_call 51;rw[HW1.out,HR.out];refine hin.mono ?_;rintro e w1 ⟨rfl,hb⟩;have hwy3:=hwy2 w1 hb;have B1:=hid hb;clear hb hwy2)
     | (go_at_call 52;refine hwy3.mono ?_;rintro e w2 ⟨⟨b,off,c,rfl,hcl⟩,hb⟩;have hbb:=B1.out.trans (hb.mono B1.out.size);have hfi2:=hfi w2 hbb;obtain⟨q1,q2,q3⟩:=HK.out w2 hbb;obtain⟨q4,q5⟩:=HE.out w2 R q1 q2;obtain⟨bb,of2,cc,hqc,q6⟩:=HCL.out w2 hbb;have Q2:=hid q2;have Q3:=hid q3;have Q4:=hid q4;have Q5:=hid q5;have Q6:=hid q6;clear hb hbb q1 q2 q3 q4 q5 q6 hfi)
     | (go_at_call 53;refine hfi2.mono ?_;rintro e w' ⟨rfl,rfl⟩)
     | (refine wpList_load_mid rfl 86 (.tmp 43) rfl _ _ rfl R.toList _ Q6.out Tryz.underlying86 rfl (by simpa using hi1) ?_;simp only[Array.toArray_toList];go_frame)
     | (refine wpList_store_row rfl 86 (.tmp 4) (.tmp 44) rfl r R rfl rfl 86 _ Q2.out hi1 (by rw[<-HRI.out.z,<-HZ.out.e]) HRI.out.o ?_;go_frame))
    exact bodyPost_ret (qw Tryz.results32 _ _ r R.toList _ _ rfl rfl (zy (by simpa using Q4.out)) Tryz.underlying86 rfl (by simpa using hi1)) rfl ⟨by simp,Q5.out⟩
def tgD (rs:List Rx) (x:Str):Except Int Str:=if isN x then (match Rk.fd rs x with
 | none=>.error 61
 | some k=>if k.2=[] then .error 61 else .ok k.2) else .error 60
set_option maxHeartbeats 2000000 in
theorem targetD_any {G Q:Nat} {v1 v2:Value} {rs:List Rx} {ls:List Ex} (x:Str) (w:World) (h:Dq G w Q v1 v2 rs ls) :
  Calls Tryz.prog 34 #[.pointer (some ⟨Q,0,none⟩),sV x] w fun e w'=>e=.returned (.tuple #[sV (oS (tgD rs x)),.int .i64 (oN (tgD rs x))])/\Below w.heap.size w w':=by
 have hin:=vW x w
 have HD:=fun W hb=>h.below (W:=W) hb
 have hfi:=fun w1 hb=>Zz x w1 (HD w1 hb)
 have HDH:=hid HD
 have HOK:=hid h.ok1
 clear h HD
 cases hi:isN x with
 | false =>
  have HF:Hid (tgD rs x=.error 60):=hid (by unfold tgD;rw[hi];rfl)
  rw[HF.out]
  simp only[oS,oN]
  rw[hi] at hin
  unfold sV at hin ⊢
  clear hfi
  go_enter Tryz.func34,Tryz.ntmps34
  go_wp2_with (go_at_call 51;refine hin.mono ?_;rintro e w1 ⟨rfl,hb⟩;have B1:=hid hb;clear hb)
  exact bodyPost_ret (results_tmp2 Tryz.results34 _ _ _) rfl ⟨rfl,B1.out⟩
 | true =>
  rw[hi] at hin
  cases hI:fI rs x with
  | none =>
   have HF:Hid (tgD rs x=.error 61):=hid (by unfold tgD;rw[hi,(jJ rs x).2 hI];rfl)
   rw[HF.out]
   simp only[oS,oN]
   rw[hI] at hfi
   simp only[iV] at hfi
   unfold sV at hin hfi ⊢
   clear hI
   go_enter Tryz.func34,Tryz.ntmps34
   go_wp2_with (first
    | (go_at_call 51;refine hin.mono ?_;rintro e w1 ⟨rfl,hb⟩;have hfi2:=hfi w1 hb;have B1:=hid hb;clear hb hfi)
    | (go_at_call 53;refine hfi2.mono ?_;rintro e w' ⟨rfl,rfl⟩))
   exact bodyPost_ret (results_tmp2 Tryz.results34 _ _ _) rfl ⟨rfl,B1.out⟩
  | some k =>
   obtain⟨hk1,hk2,hk3⟩:=(jJ rs x).1 k hI
   have hrk:=HOK.out _ (zK rs k dR hk1)
   obtain⟨tg,htg⟩:∃ t,(rs.getD k dR).2.2=t:=⟨_,rfl⟩
   have HCL:Hid (∀ w1,Below w.heap.size w w1->∃ b off c,w1.cell? ⟨Q,0,none⟩=some (.slice (some ⟨b,off,none⟩) rs.length c)/\w1.cell? ⟨b,off+k*22+21,none⟩=some (sV tg)):=fun w1 hb=>by
    obtain⟨a,c,-,hP,-,hc0⟩:=(HDH.out w1 hb).px1
    obtain⟨b,off,e1,_,e3⟩:=hP.at_ (by omega)
    subst e1
    refine⟨b,off,c,hc0,?_⟩
    exact e3 k hk1 21 (sV tg) (by
     unfold qX
     rw[List.getElem?_cons_succ,List.getElem?_append_right (by rw[zw,hrk.2.1.1];exact Nat.le_refl _),zw,hrk.2.1.1,htg]
     rfl)
   have hkn:(k:Int)<(rs.length:Int):=by omega
   have hk0:¬ ((k:Int)<0):=by omega
   obtain⟨N,HN⟩:=nm_ rs.length
   rw[HN.out] at hkn HCL
   rw[hI] at hfi
   simp only[iV] at hfi
   by_cases h0:tg=[]
   ·have HF:Hid (tgD rs x=.error 61):=hid (by unfold tgD;rw[hi,hk3];simp only[htg,h0,if_true])
    rw[HF.out]
    simp only[oS,oN]
    subst h0
    unfold sV at hin hfi HCL ⊢
    clear hk1 hk2 hk3 hrk hI htg
    go_enter Tryz.func34,Tryz.ntmps34
    go_wp2_with (first
     | (go_at_call 51;refine hin.mono ?_;rintro e w1 ⟨rfl,hb⟩;have hfi2:=hfi w1 hb;obtain⟨b,off,c,hc0,hc1⟩:=HCL.out w1 hb;have B1:=hid hb;clear hb hfi)
     | (go_at_call 53;refine hfi2.mono ?_;rintro e w' ⟨rfl,rfl⟩))
    exact bodyPost_ret (results_tmp2 Tryz.results34 _ _ _) rfl ⟨rfl,B1.out⟩
   ·have HF:Hid (tgD rs x=.ok tg):=hid (by unfold tgD;rw[hi,hk3];simp only[htg,h0,if_false,if_true])
    have hne:(tg == [])=false:=by simpa using h0
    rw[HF.out]
    simp only[oS,oN]
    unfold sV at hin hfi HCL ⊢
    clear hk1 hk2 hk3 hrk hI htg
    go_enter Tryz.func34,Tryz.ntmps34
    go_wp2_with (first
     | (go_at_call 51;refine hin.mono ?_;rintro e w1 ⟨rfl,hb⟩;have hfi2:=hfi w1 hb;obtain⟨b,off,c,hc0,hc1⟩:=HCL.out w1 hb;have B1:=hid hb;clear hb hfi)
     | (go_at_call 53;refine hfi2.mono ?_;rintro e w' ⟨rfl,rfl⟩))
    exact bodyPost_ret (results_tmp2 Tryz.results34 _ _ _) rfl ⟨rfl,B1.out⟩
end Go.Proofs.YtgliaiemkfopeaaGreatDoor.K
