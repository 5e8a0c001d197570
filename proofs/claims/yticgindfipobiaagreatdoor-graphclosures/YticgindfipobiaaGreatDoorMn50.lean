import Derived.Test.YticgindfipobiaaGreatDoorMn47
import Derived.Test.YticgindfipobiaaGreatDoorMn49
import Derived.Test.YticgindfipobiaaGreatDoorMn45
set_option linter.unusedSimpArgs false
set_option linter.unusedVariables false
set_option maxRecDepth 20000
set_option maxHeartbeats 4000000
namespace Go.Proofs.YticgindfipobiaaGreatDoor.Gr
open Go.RowKit
def PostCd (fd:List Int->Option (Int × Ids)) (fs:Ids) (w:World) (e:Ending) (w':World):Prop:=Below w.heap.size w w'/\
 ∃ er M,x6 fd [] fs (er,M)/\((er=0/\∃ a' c' xs,e=.returned (.tuple #[.slice a' xs.length c',.int .i64 0])/\vW (· ∈ M) xs/\Rs xs/\Pa w' a' c' xs) ∨ (er ≠ 0/\e=.returned (.tuple #[.slice none 0 0,.int .i64 er])))
theorem refClosure_any (a:Option Addr) (cap:Nat) (os:List Oj) (L:Nat->Int × Ids) (hL:Lx os L) (w:World) (hO:Ot w a cap os) (fa:Option Addr) (fc:Nat) (fs:Ids) (hf:∀ x ∈ fs,IdW x) (hfl:fs.length<=40) (hP:Pa w fa fc fs) :
  Calls Tryz.prog 7 #[.slice a os.length cap,.slice fa fs.length fc] w (PostCd (fdO os L) fs w):=by
 obtain⟨G,HG⟩:=nm_ w.heap.size
 obtain⟨n,HN⟩:=nm_ os.length
 obtain⟨NF,HNF⟩:=nm_ fs.length
 have hNF:NF<=40:=by rw[<-HNF.out];exact hfl
 obtain⟨fd,HFD⟩:=nm_ (fdO os L)
 obtain⟨al,HAL⟩:=nm_ (os.map oid)
 have HALn:Hid (al.length<=40):=hid (by rw[<-HAL.out,List.length_map];exact hO.few)
 have HTH:Hid (∀ (x:List Int) (hx:IdW x) (v:Value) (S:Ids) (W:World) (hS:Bi 31 w W G v S) (hM:Mt fd al S),Calls Tryz.prog 16 #[.slice a n cap,idV x,v] W (PostTh w G fd al x S W v)):=fun x hx v S W hS hM=>by
  have:=through_any w w.heap.size a cap os L hL (ow_of hO) hO.few 41 x hx v S W (by rw[HG.out];exact hS) (by rw[HFD.out,HAL.out];exact hM) (by rw[HAL.out];have:=HALn.out;omega)
  rw[HFD.out,HAL.out,HN.out,HG.out] at this
  exact this
 have HPA:Hid (∀ W,Below G w W->Pa W fa fc fs):=fun W hW=>hP.below (by rw[HG.out];exact hW)
 have HFI:Hid (∀ x ∈ fs,IdW x):=hf
 have HFA:Hid (0<NF->∃ b off,fa=some ⟨b,off,none⟩):=fun h0=>by
  obtain⟨b,off,e1,_⟩:=hP.at_ (by rw[HNF.out];exact h0)
  exact⟨b,off,e1⟩
 have HB0:Hid (Bi 31 w w G (.slice none 0 0) []):=hid (XK 31 w G (by rw[HG.out];exact Nat.le_refl _))
 rw[HN.out,HNF.out,HFD.out]
 clear hL hO hP hf hfl
 go_enter Tryz.func7,Tryz.ntmps7
 go_wp2_with fail
 go_loopg [6,7,8] NF (fun g u ev iv wr=>∃ (i:Nat) (vi:Value) (Si:Ids),vi=u/\ev=.int .i64 0/\iv=.int .i64 i/\g=NF-i/\i<=NF/\Hid (Bi 31 w wr G vi Si)/\Hid (Mt fd al Si)/\Hid (∀ o,x6 fd Si (fs.drop i) o->x6 fd [] fs o))
 case atStart=>exact⟨0,_,[],rfl,rfl,rfl,rfl,Nat.zero_le _,HB0,hid (mt_nil _ _),hid (fun o h=>h)⟩
 case round =>
  obtain⟨i,vi,Si,hvi,rfl,rfl,hg,hil,HVi,HTi,HEi⟩:=hrel
  subst hvi
  by_cases hlt:i<NF
  ·have hlti:(i:Int)<(NF:Int):=by omega
   obtain⟨lb,lo,hle⟩:=HFA.out (by omega)
   subst hle
   obtain⟨y,HY⟩:=nm_ (fs.getD i [])
   have HYW:Hid (IdW y):=hid (HFI.out y (by rw[<-HY.out];exact yK fs i _ (by rw[HNF.out];exact hlt)))
   obtain⟨Y,HYR⟩:=rw_ HYW.out.1
   have hiY:=HYR.out.i31
   have RY:Hid (wr.rangeAt lb (lo+i*20) Y):=hid (by
    obtain⟨b',off',e1,_,e3⟩:=(HPA.out wr HVi.out.below).at_ (by rw[HNF.out];omega)
    cases e1
    have:=e3 i (by rw[HNF.out];exact hlt)
    rw[HY.out,HYR.out.e] at this
    exact this)
   have HDR:Hid (fs.drop i=y :: fs.drop (i+1)):=hid (by
    rw[List.drop_eq_getElem_cons (by rw[HNF.out];exact hlt),<-HY.out,List.getD_eq_getElem?_getD,List.getElem?_eq_getElem (by rw[HNF.out];exact hlt)];rfl)
   have CTH:Hid (Calls Tryz.prog 16 #[.slice a n cap,.agg Y.toArray,vi] wr (PostTh w G fd al y Si wr vi)):=hid (by
    have:=HTH.out y HYW.out vi Si wr HVi.out HTi.out
    unfold idV at this
    rw[HYR.out.e] at this
    exact this)
   go_wp2_with (first
    | refine wpList_load_mid rfl 31 _ rfl lb (lo+i*20) rfl Y _ RY.out Tryz.underlying31 rfl hiY ?_
    | fail)
   refine CTH.out.mono ?_
   rintro ev w6 ⟨e6,v6,S6,rfl,hV6,hM6,hT6,hg6,hbad6⟩
   have HV6:Hid (Bi 31 w w6 G v6 S6):=hV6
   have HT6:Hid (Mt fd al S6):=hT6
   by_cases he6:e6=0
   ·subst he6
    obtain⟨hl6,hgo6⟩:=hg6 rfl
    have HE6:Hid (∀ o,x6 fd S6 (fs.drop (i+1)) o->x6 fd [] fs o):=hid (fun o h=>HEi.out o (by rw[HDR.out];exact hgo6 _ _ h))
    clear hV6 hM6 hT6 hg6 hbad6 hl6 hgo6
    go_wp2
    go_roundg (NF-(i+1))
    case measure=>omega
    case rel=>exact⟨i+1,v6,S6,rfl,rfl,by go_num,rfl,by omega,HV6,HT6,HE6⟩
   ·have HBD:Hid (x6 fd [] fs (e6,[])):=hid (HEi.out _ (by rw[HDR.out];exact hbad6 he6 _))
    have HE0:Hid (e6 ≠ 0):=he6
    have hneb:(e6 == 0)=false:=by rw[beq_eq_false_iff_ne];exact he6
    clear hV6 hM6 hT6 hg6 hbad6
    go_wp2
    go_ret2
    exact⟨by rw[HG.out];exact HV6.out.below,e6,[],HBD.out,.inr ⟨HE0.out,rfl⟩⟩
  ·have hlti:¬ (i:Int)<(NF:Int):=by omega
   have HEN:Hid (x6 fd [] fs (0,Si)):=hid (HEi.out _ (by rw[List.drop_eq_nil_of_le (by rw[HNF.out];omega)];exact ends_nil))
   have HSI:Hid (∀ y ∈ Si,(row .u8 y).length=20):=fun y hy=>by rw[zq];exact(HTi.out.idw y hy).1
   obtain⟨sa,sc,hse,hsp,_⟩:=HVi.out.px (d:=[]) HSI.out
   subst hse
   have hsl:Si.length<=1000:=by have h1:=HTi.out.few;have h2:=HALn.out;omega
   have C17:Hid (Calls Tryz.prog 17 #[.slice sa Si.length sc] wr (PostSd Si wr)):=rsorted_any sa sc Si HTi.out.idw hsl wr hsp
   have HBW:Hid (Below G w wr):=hid HVi.out.below
   have hGr:G<=wr.heap.size:=HVi.out.le
   clear hsp
   go_wp2_with fail
   refine C17.out.mono ?_
   rintro ev w7 ⟨hb7,a',c',xs,rfl,h1,h2,h3⟩
   have HB7:Hid (Below G w w7):=hid (HBW.out.trans (hb7.mono hGr))
   have H1:Hid (vW (· ∈ Si) xs):=h1
   have H2:Hid (Rs xs):=h2
   have H3:Hid (Pa w7 a' c' xs):=h3
   clear h1 h2 h3 hb7
   go_wp2
   go_ret2
   exact⟨by rw[HG.out];exact HB7.out,0,Si,HEN.out,.inl ⟨rfl,a',c',xs,rfl,H1.out,H2.out,H3.out⟩⟩
def PostCl (fd:List Int->Option (Int × Ids)) (fs:Ids) (w:World) (e:Ending) (w':World):Prop:=Below w.heap.size w w'/\
 ∃ er M,x6 fd [] fs (er,M)/\((er=0/\∃ a' c' xs,e=.returned (.tuple #[.slice a' xs.length c',.nilIface])/\vW (· ∈ M) xs/\xs.Pairwise (fun x y=>¬ Lib.bytesOf y<Lib.bytesOf x)/\Pa w' a' c' xs/\xs.length<=40) ∨ (er ≠ 0/\∃ ev,e=.returned (.tuple #[.slice none 0 0,ev])/\EvIs w' er ev))
theorem lst_few {M xs:Ids} (h:vW (· ∈ M) xs):xs.length<=M.length:=YV xs M h.one (fun y hy=>(h.all y (h.idw y hy)).1 hy)
theorem closure_any (a:Option Addr) (cap:Nat) (os:List Oj) (L:Nat->Int × Ids) (hL:Lx os L) (w:World) (hO:Ot w a cap os) (hv:Lv w) (fa:Option Addr) (fc:Nat) (fs:Ids) (hf:∀ x ∈ fs,IdW x) (hfl:fs.length<=40) (hP:Pa w fa fc fs) :
  Calls Tryz.prog 5 #[.slice a os.length cap,.slice fa fs.length fc] w (PostCl (fdO os L) fs w):=by
 obtain⟨G,HG⟩:=nm_ w.heap.size
 obtain⟨n,HN⟩:=nm_ os.length
 obtain⟨NF,HNF⟩:=nm_ fs.length
 have HLX:Hid (Lx os L):=hL
 have HOW:Hid (Ow G w a cap os):=hid (by rw[<-HG.out];exact ow_of hO)
 have HNN:Hid (os.length<=40):=hO.few
 have HLV:Hid (∀ W,Below G w W->Lv W):=fun W hW=>hv.below (by rw[HG.out];exact hW)
 have HPA:Hid (∀ W,Below G w W->Pa W fa fc fs):=fun W hW=>hP.below (by rw[HG.out];exact hW)
 have HFI:Hid (∀ x ∈ fs,IdW x):=hf
 have HFL:Hid (fs.length<=40):=hfl
 have C13:Hid (Calls Tryz.prog 13 #[.slice a n cap] w (PostNs a cap os w)):=hid (by
  have:=newShelf_any a cap os w (ow_of hO) hv.lw.tab hO.few
  rw[HN.out] at this
  exact this)
 rw[HN.out,HNF.out]
 clear hL hO hv hP hf hfl
 go_enter Tryz.func5,Tryz.ntmps5
 go_wp2_with fail
 refine C13.out.mono ?_
 rintro ev w1 ⟨hb,m,rfl,hsh,hb1⟩
 have HB1:Hid (Below G w w1):=hid (by rw[<-HG.out];exact hb1)
 have hG1:G<=w1.heap.size:=by rw[<-HG.out];exact hb1.size
 have C12:Hid (Calls Tryz.prog 12 #[.func (.func 14) #[.pointer (some ⟨hb,0,none⟩)] #[],.slice fa NF fc] w1 (PostWk (fdO os L) (os.map oid) fs w1)):=hid (by
  have:=walk_any w G hb m a cap os L HLX.out HOW.out HNN.out w1 HB1.out hG1 hsh (HLV.out w1 HB1.out) fa fc fs HFI.out HFL.out (HPA.out w1 HB1.out)
  rw[HNF.out] at this
  exact this)
 clear hsh hb1
 go_wp2_with fail
 refine C12.out.mono ?_
 rintro ev w2 ⟨hb2,er,M,hen,hc⟩
 have HB2:Hid (Below G w w2):=hid (HB1.out.trans (hb2.mono hG1))
 have HEN:Hid (x6 (fdO os L) [] fs (er,M)):=hen
 have hG2:G<=w2.heap.size:=Nat.le_trans hG1 hb2.size
 clear hb2 hen
 rcases hc with ⟨rfl,g,rfl,hsi,hmt⟩ | ⟨h0,ev,rfl,hev⟩
 ·haveI:Inhabited In:=⟨⟨z20,by decide,fun n hn=>by rw[List.eq_of_mem_replicate hn];decide⟩⟩
  have HML:Hid (M.length<=40):=hid (by have:=hmt.few;rw[List.length_map] at this;exact Nat.le_trans this HNN.out)
  have C15:Hid (Calls Tryz.prog 15 #[.map (some g)] w2 (PostSo (· ∈ M) w2)):=idsorted_any g M.length (· ∈ M) w2 hsi (Nat.le_trans HML.out (by decide)) (fun xs hx=>Nat.le_trans (Nat.le_trans (lst_few hx) HML.out) (by decide))
  clear hsi hmt
  go_wp2_with fail
  refine C15.out.mono ?_
  rintro ev w3 ⟨a',c',xs,rfl,h1,h2,h3,h4⟩
  have HB3:Hid (Below G w w3):=hid (HB2.out.trans (h4.mono hG2))
  have H1:Hid (vW (· ∈ M) xs):=h1
  have H2:Hid (xs.Pairwise (fun x y=>¬ Lib.bytesOf y<Lib.bytesOf x)):=h2
  have H3:Hid (Pa w3 a' c' xs):=h3
  clear h1 h2 h3 h4
  go_wp2
  go_ret2
  exact⟨by rw[HG.out];exact HB3.out,0,M,HEN.out,.inl ⟨rfl,a',c',xs,rfl,H1.out,H2.out,H3.out,Nat.le_trans (lst_few H1.out) HML.out⟩⟩
 ·have H0:Hid (er ≠ 0):=h0
  have HEV:Hid (EvIs w2 er ev):=hev
  rcases hev with rfl | ⟨g,rfl,_⟩
  ·clear h0
   go_wp2
   go_ret2
   exact⟨by rw[HG.out];exact HB2.out,er,M,HEN.out,.inr ⟨H0.out,_,rfl,HEV.out⟩⟩
  ·clear h0
   go_wp2
   go_ret2
   exact⟨by rw[HG.out];exact HB2.out,er,M,HEN.out,.inr ⟨H0.out,_,rfl,HEV.out⟩⟩
end Go.Proofs.YticgindfipobiaaGreatDoor.Gr
