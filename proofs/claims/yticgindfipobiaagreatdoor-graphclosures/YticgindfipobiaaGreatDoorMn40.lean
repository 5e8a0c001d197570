import Derived.Test.YticgindfipobiaaGreatDoorMn37
import Derived.Test.YticgindfipobiaaGreatDoorMn39
import Derived.Test.YticgindfipobiaaGreatDoorMn32
import Derived.Test.YticgindfipobiaaGreatDoorMn31
set_option linter.unusedSectionVars false
set_option linter.unusedSimpArgs false
set_option linter.unusedVariables false
set_option maxRecDepth 20000
set_option maxHeartbeats 4000000
namespace Go.Proofs.YticgindfipobiaaGreatDoor
open Go.RowKit
variable [Inhabited Er] [Inhabited En]
def DkOut (G:Nat) (P:Int->List (List Int)->Prop) (e:Ending) (w':World):Prop := ∃ er ids a' c',e=.returned (.tuple #[.slice a' ids.length c',.int .i64 er])/\(∀ p:Addr,a'=some p->G<=p.block)/\Pa w' a' c' ids/\WfI ids/\P er ids
theorem dk_bad (G:Nat) (P:Int->List (List Int)->Prop) (er:Int) (h:P er []) (w':World):DkOut G P (.returned (.tuple #[.slice none 0 0,.int .i64 er])) w' :=
 ⟨er,[],none,0,rfl,(fun p hp=>by cases hp),pa_nil w',(fun x hx=>by cases hx),h⟩
theorem dk_good (G:Nat) (P:Int->List (List Int)->Prop) (ids:List (List Int)) (v:Value) (w0 w':World) (B:Nat) (hb:Bi 31 w0 w' B v ids) (hG:G<=B) (hw:WfI ids) (h:P 0 ids):DkOut G P (.returned (.tuple #[v,.int .i64 0])) w':=by
 obtain⟨a,c,rfl,hp⟩:=hb.pa hw
 refine⟨0,ids,a,c,rfl,fun p e=>?_,hp,hw,h⟩
 obtain⟨_,⟨hv,_⟩ | ⟨g,cap2,cur,hv,hg,_⟩⟩:=hb.own
 ·rw[e] at hv;cases hv
 ·rw[e] at hv;cases hv;exact Nat.le_trans hG hg
theorem treeB_ge (es:List Er):es.length*2<=(zY es).length:=by
 induction es with
 | nil=>simp
 | cons x es ih =>
  rw[k7,List.length_append,erB_len,List.length_cons]
  omega
structure Obx (G:Nat) (k:Int) (a:Option Addr) (n cap:Nat) (W:World):Prop where
 c0:W.cell? ⟨G,0,none⟩=some (.int .i64 k)
 c1:W.cell? ⟨G,1,none⟩=some (.slice a n cap)
theorem Obx.keep {G:Nat} {k:Int} {a:Option Addr} {n cap:Nat} {W W':World} (h:Obx G k a n cap W) (hb:Below W.heap.size W W') (hG:G<W.heap.size):Obx G k a n cap W' :=
 ⟨(hb.cell (p:=⟨G,0,none⟩) hG).trans h.c0,(hb.cell (p:=⟨G,1,none⟩) hG).trans h.c1⟩
theorem obx_new (k:Int) (a:Option Addr) (n cap:Nat) (w:World) (t:TypeId):Obx w.heap.size k a n cap (w.alloc (.cells #[.int .i64 k,.slice a n cap] t)):=by
 exact⟨by simp,by simp⟩
theorem refLinks_err (k:Int) (a:Option Addr) (cap:Nat) (zs:List Int) (hl:zs.length<=300000) (w:World) (hS:Sl w a cap zs) (hE:yj k zs.length ≠ 0) :
  Calls Tryz.prog 29 #[.agg #[.int .i64 k,.slice a zs.length cap]] w fun e w'=>Below w.heap.size w w'/\DkOut w.heap.size (LD k zs.length (Lib.bytesOf zs)) e w':=by
 obtain⟨n,HN⟩:=nm_ zs.length
 obtain⟨l,HL⟩:=nm_ (Lib.bytesOf zs)
 obtain⟨w1,HW1⟩:=nm_ (w.alloc (.cells #[.int .i64 k,.slice a n cap] 30))
 have hb1:Below w.heap.size w w1:=by rw[<-HW1.out];exact(Below.refl _ w).alloc (Nat.le_refl _) _
 have HB1:Hid (Below w.heap.size w w1):=hb1
 have C14:Hid (Calls Tryz.prog 10 #[.agg #[.int .i64 k,.slice a n cap]] w1 fun e w'=>Below w1.heap.size w1 w'/\e=.returned (.tuple #[.slice none 0 0,.int .i64 (yj k n)])):=hid (by
  have:=Z0 k a cap zs w1 hl (hS.below hb1)
  rw[HN.out] at this
  refine this.mono ?_
  rintro e w' ⟨h1,⟨h2,h3⟩ | ⟨h2,_⟩⟩
  ·rw[HN.out] at h3;exact⟨h1,h3⟩
  ·rw[HN.out] at h2;rw[HN.out] at hE;exact absurd h2 hE)
 rw[HN.out] at hE
 obtain⟨er,HER⟩:=nm_ (yj k n)
 rw[HER.out] at C14
 have h0:(er != 0)=true:=by rw[<-HER.out];simpa using hE
 have h0':¬ er=0:=by rw[<-HER.out];exact hE
 have HLD:Hid (LD k n l er []):=.inl ⟨hE,HER.out.symm,rfl⟩
 rw[HN.out,HL.out]
 clear hS hE hb1
 go_enter Tryz.func29,Tryz.ntmps29
 go_wp2_with fail
 rw[HW1.out]
 refine C14.out.mono ?_
 rintro ev w2 ⟨hb2,rfl⟩
 have HB2:Hid (Below w.heap.size w w2):=HB1.out.trans (hb2.mono HB1.out.size)
 clear hb2
 go_wp2
 go_ret2
 exact⟨HB2.out,dk_bad _ _ er HLD.out _⟩
theorem kZ (k:Int) (a:Option Addr) (cap:Nat) (zs:List Int) (hl:zs.length<=300000) (W:World) (hS:Sl W a cap zs) (hE:yj k zs.length=0) :
  Calls Tryz.prog 10 #[.agg #[.int .i64 k,.slice a zs.length cap]] W fun e w'=>Below W.heap.size W w'/\∃ v,e=.returned (.tuple #[v,.int .i64 0]):=by
 refine(Z0 k a cap zs W hl hS).mono ?_
 rintro e w' ⟨h1,⟨h2,_⟩ | ⟨_,g,c,rfl,_⟩⟩
 ·exact absurd hE h2
 ·exact⟨h1,_,rfl⟩
theorem refLinks_b (a:Option Addr) (cap:Nat) (zs:List Int) (hl:zs.length<=300000) (w:World) (hS:Sl w a cap zs) (hE:yj 3 zs.length=0) :
  Calls Tryz.prog 29 #[.agg #[.int .i64 3,.slice a zs.length cap]] w fun e w'=>Below w.heap.size w w'/\DkOut w.heap.size (LD 3 zs.length (Lib.bytesOf zs)) e w':=by
 obtain⟨n,HN⟩:=nm_ zs.length
 obtain⟨l,HL⟩:=nm_ (Lib.bytesOf zs)
 obtain⟨G,HG⟩:=nm_ w.heap.size
 obtain⟨w1,HW1⟩:=nm_ (w.alloc (.cells #[.int .i64 3,.slice a n cap] 30))
 have hb1:Below w.heap.size w w1:=by rw[<-HW1.out];exact(Below.refl _ w).alloc (Nat.le_refl _) _
 have HB1:Hid (Below G w w1):=hid (by rw[<-HG.out];exact hb1)
 have HO1:Hid (Obx G 3 a n cap w1):=hid (by rw[<-HW1.out,<-HG.out];exact obx_new 3 a n cap w 30)
 have hG1:G<w1.heap.size:=by rw[<-HW1.out,<-HG.out];simp
 have C14:Hid (Calls Tryz.prog 10 #[.agg #[.int .i64 3,.slice a n cap]] w1 fun e w'=>Below w1.heap.size w1 w'/\∃ v,e=.returned (.tuple #[v,.int .i64 0])):=hid (by
  rw[<-HN.out];exact kZ 3 a cap zs hl w1 (hS.below hb1) hE)
 have HLD:Hid (LD 3 n l 0 []):=.inr ⟨by rw[<-HN.out];exact hE,.inl ⟨rfl,rfl,rfl⟩⟩
 rw[HN.out,HL.out,HG.out]
 clear hS hE hb1
 go_enter Tryz.func29,Tryz.ntmps29
 go_wp2_with fail
 rw[HG.out,HW1.out]
 refine C14.out.mono ?_
 rintro ev w2 ⟨hb2,v2,rfl⟩
 have HB2:Hid (Below G w w2):=HB1.out.trans (hb2.mono (Nat.le_of_lt hG1))
 have c0:=(HO1.out.keep hb2 hG1).c0
 clear hb2
 go_wp2
 go_ret2
 exact⟨HB2.out,dk_bad _ _ 0 HLD.out _⟩
theorem refLinks_t (a:Option Addr) (cap:Nat) (zs:List Int) (hl:zs.length<=40000) (hz:IsB zs) (w:World) (hS:Sl w a cap zs) (hE:yj 2 zs.length=0) :
  Calls Tryz.prog 29 #[.agg #[.int .i64 2,.slice a zs.length cap]] w fun e w'=>Below w.heap.size w w'/\DkOut w.heap.size (LD 2 zs.length (Lib.bytesOf zs)) e w':=by
 obtain⟨n,HN⟩:=nm_ zs.length
 obtain⟨l,HL⟩:=nm_ (Lib.bytesOf zs)
 obtain⟨G,HG⟩:=nm_ w.heap.size
 have HLL:Hid (l.length<=40000):=hid (by rw[<-HL.out,Lib.bytesOf_length];exact hl)
 obtain⟨w1,HW1⟩:=nm_ (w.alloc (.cells #[.int .i64 2,.slice a n cap] 30))
 have hb1:Below w.heap.size w w1:=by rw[<-HW1.out];exact(Below.refl _ w).alloc (Nat.le_refl _) _
 have HB1:Hid (Below G w w1):=hid (by rw[<-HG.out];exact hb1)
 have HO1:Hid (Obx G 2 a n cap w1):=hid (by rw[<-HW1.out,<-HG.out];exact obx_new 2 a n cap w 30)
 have hG1:G<w1.heap.size:=by rw[<-HW1.out,<-HG.out];simp
 have C14:Hid (Calls Tryz.prog 10 #[.agg #[.int .i64 2,.slice a n cap]] w1 fun e w'=>Below w1.heap.size w1 w'/\∃ v,e=.returned (.tuple #[v,.int .i64 0])):=hid (by
  rw[<-HN.out];exact kZ 2 a cap zs (by omega) w1 (hS.below hb1) hE)
 have C52:Hid (∀ W,Below G w W->Calls Tryz.prog 48 #[.slice a n cap] W fun e w'=>Below W.heap.size W w'/\uW l e w'):=fun W hW=>by
  have:=readTreeR_any a cap zs hl hz W (hS.below (by rw[HG.out];exact hW))
  rw[HN.out,HL.out] at this
  exact this
 have HE0:Hid (yj 2 n=0):=hid (by rw[<-HN.out];exact hE)
 rw[HN.out,HL.out,HG.out]
 clear hS hE hb1 hz
 go_enter Tryz.func29,Tryz.ntmps29
 go_wp2_with fail
 rw[HG.out,HW1.out]
 refine C14.out.mono ?_
 rintro ev w2 ⟨hb2,v2,rfl⟩
 have HB2:Hid (Below G w w2):=HB1.out.trans (hb2.mono (Nat.le_of_lt hG1))
 have c0:=(HO1.out.keep hb2 hG1).c0
 have c1:=(HO1.out.keep hb2 hG1).c1
 have hG2:G<w2.heap.size:=Nat.lt_of_lt_of_le hG1 hb2.size
 clear hb2
 go_wp2_with fail
 refine(C52.out w2 HB2.out).mono ?_
 rintro ev w3 ⟨hb3,ea,ec,ed,b,rfl,hbt,hun⟩
 have HB3:Hid (Below G w w3):=HB2.out.trans (hb3.mono (Nat.le_of_lt hG2))
 have hG3:G<w3.heap.size:=Nat.lt_of_lt_of_le hG2 hb3.size
 clear hb3 c0 c1
 cases b with
 | false =>
  have HLD:Hid (LD 2 n l 21 []):=.inr ⟨HE0.out,.inr (.inl ⟨rfl,ed,false,(fun h=>by cases h),hun,.inr ⟨rfl,rfl,rfl⟩⟩)⟩
  clear hbt hun
  go_wp2
  go_ret2
  exact⟨HB3.out,dk_bad _ _ 21 HLD.out _⟩
 | true =>
  obtain⟨hpe,hwf,hok,heq⟩:=hbt rfl
  have HLD:Hid (LD 2 n l 0 (ed.map (·.id))):=.inr ⟨HE0.out,.inr (.inl ⟨rfl,ed,true,fun _=>⟨hwf,hok,heq⟩,hun,.inl ⟨rfl,rfl,rfl⟩⟩)⟩
  obtain⟨k,HK⟩:=nm_ ed.length
  have hk1:k<=20000:=by
   have h1:=treeB_ge (yx ed)
   rw[heq,(yW ed).length_eq,HK.out] at h1
   have h2:=HLL.out
   omega
  obtain⟨H,HH⟩:=nm_ w3.heap.size
  have HPE:Hid (∀ W,Below H w3 W->Pe W ea ec ed):=fun W hW=>hpe.below (by rw[HH.out];exact hW)
  have HPL:Hid (0<k->∃ b off,ea=some ⟨b,off,none⟩):=fun h0=>by
   obtain⟨b,off,e1,e2,_⟩:=hpe.at_ (by rw[HK.out];exact h0)
   exact⟨b,off,e1⟩
  have HWF:Hid (WfE ed):=hwf
  have BI0:Hid (Bi 31 w3 w3 H (.slice none 0 0) ((ed.take 0).map (·.id))):=hid (bi_nil 31 w3 H (by rw[HH.out];exact Nat.le_refl _))
  have HWI:Hid (WfI (ed.map (·.id))):=fun x hx=>by
   obtain⟨y,hy,rfl⟩:=List.mem_map.1 hx
   exact HWF.out y hy
  have hGH:G<=H:=by rw[<-HH.out];omega
  rw[HK.out]
  clear hok heq hpe hwf hbt hun
  go_wp2_with fail
  go_loopg [6,9] k (fun g lv iv wr=>∃ (i:Nat) (v:Value),v=lv/\i<=k/\g=k-i/\iv=.int .i64 i/\Hid (Bi 31 w3 wr H v ((ed.take i).map (·.id))))
  case atStart=>exact⟨0,_,rfl,Nat.zero_le _,rfl,rfl,BI0⟩
  case round =>
   obtain⟨i,v,hv,hi,hg,rfl,HBI⟩:=hrel
   subst hv
   by_cases hlt:i<k
   ·have hlti:(i:Int)<(k:Int):=by omega
    obtain⟨b,off,hae⟩:=HPL.out (by omega)
    subst hae
    obtain⟨b',off',e1,e2,e3⟩:=(HPE.out wr HBI.out.below).at_ (by rw[HK.out];omega)
    cases e1
    have hcap:k<=ec:=by have:=(HPE.out wr HBI.out.below).capl;rw[HK.out] at this;exact this
    obtain⟨x,HX⟩:=nm_ (ed.getD i default)
    have hxm:x ∈ ed:=by
     rw[<-HX.out,List.getD_eq_getElem?_getD,List.getElem?_eq_getElem (by rw[HK.out];exact hlt)]
     exact List.getElem_mem _
    have HX20:Hid (x.id.length=20):=(HWF.out x hxm).1
    obtain⟨RI,HRI⟩:=nm_ (row .u8 x.id)
    have R2:Hid (wr.rangeAt b (off+i*22+2) RI):=hid (by
     have hr:=e3 i (by rw[HK.out];exact hlt)
     rw[HX.out] at hr
     have:=(qel_of hr).r2
     rw[HRI.out] at this
     exact this)
    have hi31:(Tryz.prog.info? 31).map (·.size)=some RI.length:=by rw[<-HRI.out,zq,HX20.out];exact Tryz.size31
    have HBS:Hid ((Instr.buildSlice 38 1 #[(0,.agg RI.toArray)]).run Tryz.prog wr=.ok (.slice (some ⟨wr.heap.size,0,none⟩) 1 1) (wr.alloc (.cells RI.toArray 31))):=hid (by rw[<-HRI.out];exact Y8 x.id HX20.out wr)
    obtain⟨w4,HW4⟩:=nm_ (wr.alloc (.cells RI.toArray 31))
    have BI4:Hid (Bi 31 w3 w4 H v ((ed.take i).map (·.id))):=hid (by rw[<-HW4.out];exact HBI.out.alloc _)
    have PX4:Hid (Pa w4 (some ⟨wr.heap.size,0,none⟩) 1 [x.id]):=hid (by rw[<-HW4.out,<-HRI.out];exact k6 wr x.id 31 HX20.out)
    rw[HW4.out] at HBS
    have HW1:Hid (∀ y ∈ [x.id],y.length=20):=fun y hy=>by rw[List.mem_singleton.1 hy];exact HX20.out
    have hl4:((ed.take i).map (·.id)).length + [x.id].length<=30000:=by rw[List.length_map,List.length_take,HK.out];simp;omega
    have HTS:Hid ((ed.take (i+1)).map (·.id)=(ed.take i).map (·.id)++[x.id]):=hid (by rw[xK ed i (by rw[HK.out];exact hlt),HX.out,List.map_append];rfl)
    clear hxm e3 e2
    go_wp2_with (first
     | refine wpList_load_mid rfl 31 _ rfl b (off+i*22+2) rfl RI _ R2.out Tryz.underlying31 rfl hi31 ?_
     | refine vz rfl 38 1 _ rfl (.agg RI.toArray) _ rfl HBS.out ?_
     | (at_builtin;refine xJ rfl _ _ 38 31 Tryz.underlying38 Tryz.info31' rfl H _ _ rfl BI4.out (some ⟨wr.heap.size,0,none⟩) 1 [x.id] rfl PX4.out HW1.out hl4 ?_;intro v5 w5 hb5 hg5;have BI5:Hid (Bi 31 w3 w5 H v5 ((ed.take i).map (·.id)++[x.id])):=hb5;clear hb5 hg5)
     | fail)
    go_roundg (k-(i+1))
    case measure=>omega
    case rel=>exact⟨i+1,_,rfl,by omega,rfl,by go_num,hid (by rw[HTS.out];exact BI5.out)⟩
   ·have hlti:¬ (i:Int)<(k:Int):=by omega
    have BIE:Hid (Bi 31 w3 wr H v (ed.map (·.id))):=hid (by
     have:=HBI.out
     rw[List.take_of_length_le (by rw[HK.out];omega)] at this
     exact this)
    have HBE:Hid (Below G w wr):=HB3.out.trans (HBI.out.below.mono hGH)
    go_wp2
    go_ret2
    exact⟨HBE.out,dk_good _ _ _ _ w3 _ H BIE.out hGH HWI.out HLD.out⟩
end Go.Proofs.YticgindfipobiaaGreatDoor
namespace Go.Proofs.YticgindfipobiaaGreatDoor
open Go.RowKit
variable [Inhabited Er] [Inhabited En]
theorem refLinks_c (a:Option Addr) (cap:Nat) (zs:List Int) (hl:zs.length<=200000) (w:World) (hS:Sl w a cap zs) (hE:yj 1 zs.length=0) :
  Calls Tryz.prog 29 #[.agg #[.int .i64 1,.slice a zs.length cap]] w fun e w'=>Below w.heap.size w w'/\DkOut w.heap.size (LD 1 zs.length (Lib.bytesOf zs)) e w':=by
 obtain⟨n,HN⟩:=nm_ zs.length
 obtain⟨l,HL⟩:=nm_ (Lib.bytesOf zs)
 obtain⟨G,HG⟩:=nm_ w.heap.size
 obtain⟨ZV,HZ⟩:=nn_ (cmV (cm0 z20) none 0)
 have hzz:∀ w:World,(zeroValue 121).run Tryz.prog w=.ok (.agg ZV.toArray) w:=fun w=>by rw[HZ.out];exact zero66 w
 have HZL:Hid (ZV.length=30):=hid (by rw[HZ.out];exact qu _ _ _ rfl)
 obtain⟨w1,HW1⟩:=nm_ (w.alloc (.cells #[.int .i64 1,.slice a n cap] 30))
 have hb1:Below w.heap.size w w1:=by rw[<-HW1.out];exact(Below.refl _ w).alloc (Nat.le_refl _) _
 have HB1:Hid (Below G w w1):=hid (by rw[<-HG.out];exact hb1)
 have HO1:Hid (Obx G 1 a n cap w1):=hid (by rw[<-HW1.out,<-HG.out];exact obx_new 1 a n cap w 30)
 have hG1:G<w1.heap.size:=by rw[<-HW1.out,<-HG.out];simp
 have C14:Hid (Calls Tryz.prog 10 #[.agg #[.int .i64 1,.slice a n cap]] w1 fun e w'=>Below w1.heap.size w1 w'/\∃ v,e=.returned (.tuple #[v,.int .i64 0])):=hid (by
  rw[<-HN.out];exact kZ 1 a cap zs (by omega) w1 (hS.below hb1) hE)
 have CR:Hid (∀ W,Below G w W->Calls Tryz.prog 49 #[.slice a n cap] W (uV l W)):=fun W hW=>by
  have:=readCommitR_any a cap zs hl W (hS.below (by rw[HG.out];exact hW))
  rw[HN.out,HL.out] at this
  exact this
 have HE0:Hid (yj 1 n=0):=hid (by rw[<-HN.out];exact hE)
 rw[HN.out,HL.out,HG.out]
 clear hS hE hb1
 go_enter Tryz.func29,Tryz.ntmps29
 go_wp2_with fail
 rw[HG.out,HW1.out]
 refine C14.out.mono ?_
 rintro ev w2 ⟨hb2,v2,rfl⟩
 have HB2:Hid (Below G w w2):=HB1.out.trans (hb2.mono (Nat.le_of_lt hG1))
 have c0:=(HO1.out.keep hb2 hG1).c0
 have c1:=(HO1.out.keep hb2 hG1).c1
 have hG2:G<w2.heap.size:=Nat.lt_of_lt_of_le hG1 hb2.size
 clear hb2
 go_wp2_with fail
 refine(CR.out w2 HB2.out).mono ?_
 rintro ev w3 ⟨hb3,t,pa,pc,b,rfl,hwf,hoe,hbt,hun⟩
 have HB3:Hid (Below G w w3):=HB2.out.trans (hb3.mono (Nat.le_of_lt hG2))
 have hG3:G<w3.heap.size:=Nat.lt_of_lt_of_le hG2 hb3.size
 have HWT:Hid (WfC t):=hwf
 clear hb3 c0 c1
 have PA3:Hid (Pa w3 pa pc t.ids):=hid (hoe.pa hwf.2)
 clear hoe
 obtain⟨TV,HTV⟩:=nm_ (cmV t pa pc)
 have HVL:Hid (TV.length=30):=hid (by rw[<-HTV.out];exact qu t pa pc HWT.out.1.1)
 have I6:Hid ((Tryz.prog.info? 121).map (·.size)=some TV.toArray.size):=hid (by rw[List.size_toArray,HVL.out];exact Tryz.size121)
 have O1:Hid (TV.toArray.all (·.oneCell')=true):=hid (by rw[<-HTV.out];exact all_oneCell_toArray (xq t pa pc))
 have D1:Hid (ZV.toArray.size=TV.toArray.size):=hid (by rw[List.size_toArray,List.size_toArray,HZL.out,HVL.out])
 have D0:Hid ((w3.alloc (.cells ZV.toArray 121)).heap[w3.heap.size]? = some (.cells ZV.toArray 121 (0,0))):=heap_alloc_new w3 _
 obtain⟨w4,HW4⟩:=nm_ ((w3.alloc (.cells ZV.toArray 121)).setRow w3.heap.size TV.toArray)
 obtain⟨H,HH⟩:=nm_ w3.heap.size
 have hGH:G<H:=by rw[<-HH.out];exact hG3
 have hb34:Below w3.heap.size w3 w4:=by rw[<-HW4.out];exact below_setRow ((Below.refl _ w3).alloc (Nat.le_refl _) _) (Nat.le_refl _) _
 have BX4:Hid (w4.heap[H]? = some (.cells TV.toArray 121 (0,0))):=hid (by rw[<-HW4.out,<-HH.out];exact setRow_heap _ _ _ TV.toArray _ _ D0.out)
 have HB4:Hid (Below G w w4):=HB3.out.trans (hb34.mono (by rw[HH.out];exact Nat.le_of_lt hGH))
 have hH4:H<w4.heap.size:=z6 BX4.out
 have PA4:Hid (Pa w4 pa pc t.ids):=PA3.out.below hb34
 have HC4:Hid (w4.cell? ⟨H,20,none⟩=some (.slice pa t.ids.length pc)):=hid ((Bk.cells (ty:=121) ⟨BX4.out⟩ HTV.out HWT.out.1.1).c20)
 clear hb34
 rw[HTV.out]
 cases b with
 | false =>
  have HLD:Hid (LD 1 n l 22 []):=.inr ⟨HE0.out,.inr (.inr (.inl ⟨rfl,t,false,hwf,(fun h=>by cases h),hun,.inr ⟨rfl,rfl,rfl⟩⟩))⟩
  clear hbt hun hwf
  go_wp2_with (first
   | (refine wpList_store_row rfl 121 _ _ rfl w3.heap.size TV.toArray rfl rfl 121 ZV.toArray D0.out I6.out D1.out O1.out ?_;rw[HW4.out,HH.out])
   | fail)
  go_ret2
  exact⟨HB4.out,dk_bad _ _ 22 HLD.out _⟩
 | true =>
  obtain⟨hok,heq⟩:=hbt rfl
  have HLD:Hid (LD 1 n l 0 (t.tree :: t.ids)):=.inr ⟨HE0.out,.inr (.inr (.inl ⟨rfl,t,true,hwf,fun _=>⟨hok,heq⟩,hun,.inl ⟨rfl,rfl,rfl⟩⟩))⟩
  have H8:Hid (t.ids.length<=8):=hok.1
  clear hbt hun hwf hok heq
  obtain⟨R,HR⟩:=nm_ (row .u8 t.tree)
  have HX20:Hid (t.tree.length=20):=HWT.out.1.1
  have RR:Hid (w4.rangeAt H 0 R):=hid (by
   rw[<-HR.out]
   intro j v hv
   refine zx BX4.out j v ?_
   rw[<-HTV.out]
   unfold cmV
   rw[List.getElem?_append_left (List.getElem?_eq_some_iff.1 hv).1]
   exact hv)
  have hi31:(Tryz.prog.info? 31).map (·.size)=some R.length:=by rw[<-HR.out,zq,HX20.out];exact Tryz.size31
  have HBS:Hid ((Instr.buildSlice 38 1 #[(0,.agg R.toArray)]).run Tryz.prog w4=.ok (.slice (some ⟨w4.heap.size,0,none⟩) 1 1) (w4.alloc (.cells R.toArray 31))):=hid (by rw[<-HR.out];exact Y8 t.tree HX20.out w4)
  obtain⟨w5,HW5⟩:=nm_ (w4.alloc (.cells R.toArray 31))
  have hb45:Below w4.heap.size w4 w5:=by rw[<-HW5.out];exact(Below.refl _ w4).alloc (Nat.le_refl _) _
  have PX5:Hid (Pa w5 (some ⟨w4.heap.size,0,none⟩) 1 [t.tree]):=hid (by rw[<-HW5.out,<-HR.out];exact k6 w4 t.tree 31 HX20.out)
  obtain⟨B,HBB⟩:=nm_ w5.heap.size
  have HB5:Hid (Below G w w5):=HB4.out.trans (hb45.mono (by omega))
  have hGB:G<=B:=by rw[<-HBB.out];exact Nat.le_trans (Nat.le_of_lt (Nat.lt_trans hGH hH4)) hb45.size
  have BI5:Hid (Bi 31 w5 w5 B (.slice none 0 0) []):=hid (bi_nil 31 w5 B (by rw[HBB.out];exact Nat.le_refl _))
  have HW20:Hid (∀ y ∈ [t.tree],y.length=20):=fun y hy=>by rw[List.mem_singleton.1 hy];exact HX20.out
  rw[HW5.out] at HBS
  have PA5:Hid (Pa w5 pa pc t.ids):=PA4.out.below hb45
  have HC5:Hid (w5.cell? ⟨H,20,none⟩=some (.slice pa t.ids.length pc)):=(hb45.cell (p:=⟨H,20,none⟩) hH4).trans HC4.out
  have hH5:H<B:=by rw[<-HBB.out];exact Nat.lt_of_lt_of_le hH4 hb45.size
  have HWI:Hid (∀ y ∈ t.ids,y.length=20):=fun y hy=>(HWT.out.2 y hy).1
  clear hb45
  go_wp2_with (first
   | (refine wpList_store_row rfl 121 _ _ rfl w3.heap.size TV.toArray rfl rfl 121 ZV.toArray D0.out I6.out D1.out O1.out ?_;rw[HW4.out,HH.out])
   | refine wpList_load_mid rfl 31 _ rfl H 0 rfl R _ RR.out Tryz.underlying31 rfl hi31 ?_
   | refine vz rfl 38 1 _ rfl (.agg R.toArray) _ rfl HBS.out ?_
   | (at_builtin;refine xJ rfl _ _ 38 31 Tryz.underlying38 Tryz.info31' rfl B _ _ rfl BI5.out (some ⟨w4.heap.size,0,none⟩) 1 [t.tree] rfl PX5.out HW20.out (by simp) ?_;intro v6 w6 hb6 hg6;have BI6:Hid (Bi 31 w5 w6 B v6 [t.tree]):=hb6;clear BI5;have c20:w6.cell? ⟨H,20,none⟩=some (.slice pa t.ids.length pc):=(hb6.below.cell (p:=⟨H,20,none⟩) hH5).trans HC5.out;have PA6:Hid (Pa w6 pa pc t.ids):=PA5.out.below (by rw[HBB.out];exact hb6.below);clear hb6 hg6)
   | (at_builtin;refine xJ rfl _ _ 38 31 Tryz.underlying38 Tryz.info31' rfl B _ _ rfl BI6.out pa pc t.ids rfl PA6.out HWI.out (by have:=H8.out;simp;omega) ?_;intro v7 w7 hb7 hg7;have BI7:Hid (Bi 31 w5 w7 B v7 (t.tree :: t.ids)):=hb7;clear hb7 hg7)
   | fail)
  have HBE:Hid (Below G w w7):=HB5.out.trans (BI7.out.below.mono hGB)
  go_ret2
  exact⟨HBE.out,dk_good _ _ _ _ w5 _ B BI7.out hGB (fun x hx=>by
   rcases List.mem_cons.1 hx with rfl | hx
   ·exact⟨HWT.out.1.1,HWT.out.1.2⟩
   ·exact HWT.out.2 x hx) HLD.out⟩
theorem refLinks_g (a:Option Addr) (cap:Nat) (zs:List Int) (hl:zs.length<=200000) (w:World) (hS:Sl w a cap zs) (hE:yj 4 zs.length=0) :
  Calls Tryz.prog 29 #[.agg #[.int .i64 4,.slice a zs.length cap]] w fun e w'=>Below w.heap.size w w'/\DkOut w.heap.size (LD 4 zs.length (Lib.bytesOf zs)) e w':=by
 obtain⟨n,HN⟩:=nm_ zs.length
 obtain⟨l,HL⟩:=nm_ (Lib.bytesOf zs)
 obtain⟨G,HG⟩:=nm_ w.heap.size
 obtain⟨ZV,HZ⟩:=nn_ (tgV (tg0 z20))
 have hzz:∀ w:World,(zeroValue 125).run Tryz.prog w=.ok (.agg ZV.toArray) w:=fun w=>by rw[HZ.out];exact zero75 w
 have HZL:Hid (ZV.length=27):=hid (by rw[HZ.out];exact y9 _ rfl)
 obtain⟨w1,HW1⟩:=nm_ (w.alloc (.cells #[.int .i64 4,.slice a n cap] 30))
 have hb1:Below w.heap.size w w1:=by rw[<-HW1.out];exact(Below.refl _ w).alloc (Nat.le_refl _) _
 have HB1:Hid (Below G w w1):=hid (by rw[<-HG.out];exact hb1)
 have HO1:Hid (Obx G 4 a n cap w1):=hid (by rw[<-HW1.out,<-HG.out];exact obx_new 4 a n cap w 30)
 have hG1:G<w1.heap.size:=by rw[<-HW1.out,<-HG.out];simp
 have C14:Hid (Calls Tryz.prog 10 #[.agg #[.int .i64 4,.slice a n cap]] w1 fun e w'=>Below w1.heap.size w1 w'/\∃ v,e=.returned (.tuple #[v,.int .i64 0])):=hid (by
  rw[<-HN.out];exact kZ 4 a cap zs (by omega) w1 (hS.below hb1) hE)
 have CR:Hid (∀ W,Below G w W->Calls Tryz.prog 50 #[.slice a n cap] W fun e w'=>Below W.heap.size W w'/\PostRT l e):=fun W hW=>by
  have:=readTagR_any a cap zs hl W (hS.below (by rw[HG.out];exact hW))
  rw[HN.out,HL.out] at this
  exact this
 have HE0:Hid (yj 4 n=0):=hid (by rw[<-HN.out];exact hE)
 rw[HN.out,HL.out,HG.out]
 clear hS hE hb1
 go_enter Tryz.func29,Tryz.ntmps29
 go_wp2_with fail
 rw[HG.out,HW1.out]
 refine C14.out.mono ?_
 rintro ev w2 ⟨hb2,v2,rfl⟩
 have HB2:Hid (Below G w w2):=HB1.out.trans (hb2.mono (Nat.le_of_lt hG1))
 have c0:=(HO1.out.keep hb2 hG1).c0
 have c1:=(HO1.out.keep hb2 hG1).c1
 have hG2:G<w2.heap.size:=Nat.lt_of_lt_of_le hG1 hb2.size
 clear hb2
 go_wp2_with fail
 refine(CR.out w2 HB2.out).mono ?_
 rintro ev w3 ⟨hb3,t,b,rfl,hwf,hbt,hun⟩
 have HB3:Hid (Below G w w3):=HB2.out.trans (hb3.mono (Nat.le_of_lt hG2))
 have hG3:G<w3.heap.size:=Nat.lt_of_lt_of_le hG2 hb3.size
 have HWT:Hid (Wf t):=hwf
 clear hb3 c0 c1
 obtain⟨TV,HTV⟩:=nm_ (tgV t)
 have HVL:Hid (TV.length=27):=hid (by rw[<-HTV.out];exact y9 t HWT.out.1)
 have I6:Hid ((Tryz.prog.info? 125).map (·.size)=some TV.toArray.size):=hid (by rw[List.size_toArray,HVL.out];exact Tryz.size125)
 have O1:Hid (TV.toArray.all (·.oneCell')=true):=hid (by rw[<-HTV.out];exact all_oneCell_toArray (uY t))
 have D1:Hid (ZV.toArray.size=TV.toArray.size):=hid (by rw[List.size_toArray,List.size_toArray,HZL.out,HVL.out])
 have D0:Hid ((w3.alloc (.cells ZV.toArray 125)).heap[w3.heap.size]? = some (.cells ZV.toArray 125 (0,0))):=heap_alloc_new w3 _
 obtain⟨w4,HW4⟩:=nm_ ((w3.alloc (.cells ZV.toArray 125)).setRow w3.heap.size TV.toArray)
 obtain⟨H,HH⟩:=nm_ w3.heap.size
 have hGH:G<H:=by rw[<-HH.out];exact hG3
 have hb34:Below w3.heap.size w3 w4:=by rw[<-HW4.out];exact below_setRow ((Below.refl _ w3).alloc (Nat.le_refl _) _) (Nat.le_refl _) _
 have BX4:Hid (w4.heap[H]? = some (.cells TV.toArray 125 (0,0))):=hid (by rw[<-HW4.out,<-HH.out];exact setRow_heap _ _ _ TV.toArray _ _ D0.out)
 have HB4:Hid (Below G w w4):=HB3.out.trans (hb34.mono (by rw[HH.out];exact Nat.le_of_lt hGH))
 have hH4:H<w4.heap.size:=z6 BX4.out
 clear hb34
 rw[HTV.out]
 cases b with
 | false =>
  have HLD:Hid (LD 4 n l 23 []):=.inr ⟨HE0.out,.inr (.inr (.inr ⟨rfl,t,false,hwf,(fun h=>by cases h),hun,.inr ⟨rfl,rfl,rfl⟩⟩))⟩
  clear hbt hun hwf
  go_wp2_with (first
   | (refine wpList_store_row rfl 125 _ _ rfl w3.heap.size TV.toArray rfl rfl 125 ZV.toArray D0.out I6.out D1.out O1.out ?_;rw[HW4.out,HH.out])
   | fail)
  go_ret2
  exact⟨HB4.out,dk_bad _ _ 23 HLD.out _⟩
 | true =>
  obtain⟨hok,heq⟩:=hbt rfl
  have HLD:Hid (LD 4 n l 0 [t.id]):=.inr ⟨HE0.out,.inr (.inr (.inr ⟨rfl,t,true,hwf,fun _=>⟨hok,heq⟩,hun,.inl ⟨rfl,rfl,rfl⟩⟩))⟩
  clear hbt hun hwf hok heq
  obtain⟨R,HR⟩:=nm_ (row .u8 t.id)
  have HX20:Hid (t.id.length=20):=HWT.out.1
  have RR:Hid (w4.rangeAt H 0 R):=hid (by
   rw[<-HR.out]
   intro j v hv
   refine zx BX4.out j v ?_
   rw[<-HTV.out]
   unfold tgV
   rw[List.getElem?_append_left (List.getElem?_eq_some_iff.1 hv).1]
   exact hv)
  have hi31:(Tryz.prog.info? 31).map (·.size)=some R.length:=by rw[<-HR.out,zq,HX20.out];exact Tryz.size31
  have HBS:Hid ((Instr.buildSlice 38 1 #[(0,.agg R.toArray)]).run Tryz.prog w4=.ok (.slice (some ⟨w4.heap.size,0,none⟩) 1 1) (w4.alloc (.cells R.toArray 31))):=hid (by rw[<-HR.out];exact Y8 t.id HX20.out w4)
  obtain⟨w5,HW5⟩:=nm_ (w4.alloc (.cells R.toArray 31))
  have hb45:Below w4.heap.size w4 w5:=by rw[<-HW5.out];exact(Below.refl _ w4).alloc (Nat.le_refl _) _
  have PX5:Hid (Pa w5 (some ⟨w4.heap.size,0,none⟩) 1 [t.id]):=hid (by rw[<-HW5.out,<-HR.out];exact k6 w4 t.id 31 HX20.out)
  obtain⟨B,HBB⟩:=nm_ w5.heap.size
  have HB5:Hid (Below G w w5):=HB4.out.trans (hb45.mono (by omega))
  have hGB:G<=B:=by rw[<-HBB.out];exact Nat.le_trans (Nat.le_of_lt (Nat.lt_trans hGH hH4)) hb45.size
  have BI5:Hid (Bi 31 w5 w5 B (.slice none 0 0) []):=hid (bi_nil 31 w5 B (by rw[HBB.out];exact Nat.le_refl _))
  have HW20:Hid (∀ y ∈ [t.id],y.length=20):=fun y hy=>by rw[List.mem_singleton.1 hy];exact HX20.out
  rw[HW5.out] at HBS
  clear hb45
  go_wp2_with (first
   | (refine wpList_store_row rfl 125 _ _ rfl w3.heap.size TV.toArray rfl rfl 125 ZV.toArray D0.out I6.out D1.out O1.out ?_;rw[HW4.out,HH.out])
   | refine wpList_load_mid rfl 31 _ rfl H 0 rfl R _ RR.out Tryz.underlying31 rfl hi31 ?_
   | refine vz rfl 38 1 _ rfl (.agg R.toArray) _ rfl HBS.out ?_
   | (at_builtin;refine xJ rfl _ _ 38 31 Tryz.underlying38 Tryz.info31' rfl B _ _ rfl BI5.out (some ⟨w4.heap.size,0,none⟩) 1 [t.id] rfl PX5.out HW20.out (by simp) ?_;intro v6 w6 hb6 hg6;have BI6:Hid (Bi 31 w5 w6 B v6 [t.id]):=hb6;clear BI5;clear hb6 hg6)
   | fail)
  have HBE:Hid (Below G w w6):=HB5.out.trans (BI6.out.below.mono hGB)
  go_ret2
  exact⟨HBE.out,dk_good _ _ _ _ w5 _ B BI6.out hGB (fun x hx=>by
   rcases List.mem_cons.1 hx with rfl | hx
   ·exact⟨HWT.out.1,HWT.out.2⟩
   ·cases hx) HLD.out⟩
theorem Vy (k:Int) (a:Option Addr) (cap:Nat) (zs:List Int) (hl:zs.length<=200000) (ht2:k=2->zs.length<=40000) (hz:IsB zs) (w:World) (hS:Sl w a cap zs) :
  Calls Tryz.prog 29 #[.agg #[.int .i64 k,.slice a zs.length cap]] w fun e w'=>Below w.heap.size w w'/\DkOut w.heap.size (LD k zs.length (Lib.bytesOf zs)) e w':=by
 by_cases hE:yj k zs.length=0
 ·rcases kind_of hE with rfl | rfl | rfl | rfl
  ·exact refLinks_c a cap zs hl w hS hE
  ·exact refLinks_t a cap zs (ht2 rfl) hz w hS hE
  ·exact refLinks_b a cap zs (by omega) w hS hE
  ·exact refLinks_g a cap zs hl w hS hE
 ·exact refLinks_err k a cap zs (by omega) w hS hE
end Go.Proofs.YticgindfipobiaaGreatDoor
