import Derived.Test.YticgindfipobiaaGreatDoorMn42
import Derived.Test.YticgindfipobiaaGreatDoorMn30
import Derived.Test.YticgindfipobiaaGreatDoorMn43
set_option linter.unusedSimpArgs false
set_option linter.unusedVariables false
set_option maxRecDepth 20000
set_option maxHeartbeats 4000000
namespace Go.Proofs.YticgindfipobiaaGreatDoor.Gr
open Go.RowKit
abbrev Ids:=List (List Int)
def wlk (fd:List Int->Option (Int × Ids)):Nat->Ids->Ids->Option (Int × Ids)
 | 0,_,_=>none
 | _+1,M,[]=>some (0,M)
 | f+1,M,x :: P=>if x ∈ M then wlk fd f M P else match fd x with
  | none=>some (50,[])
  | some q=>if q.1=0 then wlk fd f (M++[x]) (q.2++P) else some (q.1,[])
def x6 (fd:List Int->Option (Int × Ids)) (M P:Ids) (o:Int × Ids):Prop := ∃ f,wlk fd f M P=some o
section
variable {fd : List Int → Option (Int × Ids)} {M P : Ids} {x : List Int} {o o' q : Int × Ids}
theorem wlk_more:∀ (f:Nat) (M P:Ids),wlk fd f M P=some o->wlk fd (f+1) M P=some o
 | 0,M,P,h=>by cases h
 | f+1,M,[],h=>h
 | f+1,M,x :: P,h=>by
  unfold wlk at h ⊢
  split
  ·rename_i hx
   rw[if_pos hx] at h
   exact wlk_more f M P h
  ·rename_i hx
   rw[if_neg hx] at h
   cases hf:fd x with
   | none=>rw[hf] at h;exact h
   | some q =>
    rw[hf] at h
    simp only at h ⊢
    split
    ·rename_i hq
     rw[if_pos hq] at h
     exact wlk_more f _ _ h
    ·rename_i hq
     rw[if_neg hq] at h
     exact h
theorem wlk_le {f g:Nat} (hfg:f<=g) (h:wlk fd f M P=some o):wlk fd g M P=some o:=by
 induction hfg with
 | refl=>exact h
 | step _ ih=>exact wlk_more _ _ _ ih
theorem x6.one (h:x6 fd M P o) (h':x6 fd M P o'):o=o':=by
 obtain⟨f,hf⟩:=h
 obtain⟨g,hg⟩:=h'
 have h1:=wlk_le (Nat.le_max_left f g) hf
 have h2:=wlk_le (Nat.le_max_right f g) hg
 rw[h1] at h2
 exact Option.some.inj h2
theorem ends_nil:x6 fd M [] (0,M):=⟨1,rfl⟩
theorem x6.pass (hx:x ∈ M) (h:x6 fd M P o):x6 fd M (x :: P) o:=by
 obtain⟨f,hf⟩:=h
 exact⟨f+1,by rw[wlk,if_pos hx];exact hf⟩
theorem ends_miss (hx:x ∉ M) (h:fd x=none):x6 fd M (x :: P) (50,[]):=⟨1,by rw[wlk,if_neg hx,h]⟩
theorem ends_bad (hx:x ∉ M) (h:fd x=some q) (hq:q.1 ≠ 0):x6 fd M (x :: P) (q.1,[]):=⟨1,by rw[wlk,if_neg hx,h];simp only[if_neg hq]⟩
theorem x6.take (hx:x ∉ M) (hf:fd x=some q) (hq:q.1=0) (h:x6 fd (M++[x]) (q.2++P) o):x6 fd M (x :: P) o:=by
 obtain⟨f,h⟩:=h
 exact⟨f+1,by rw[wlk,if_neg hx,hf];simp only[if_pos hq];exact h⟩
end
structure Mt (fd:List Int->Option (Int × Ids)) (al:Ids) (M:Ids):Prop where
 one:M.Nodup
 of:∀ y ∈ M,y ∈ al
 idw:∀ y ∈ M,IdW y
theorem Mt.few {fd:List Int->Option (Int × Ids)} {al M:Ids} (h:Mt fd al M):M.length<=al.length:=YV M al h.one h.of
theorem mt_nil (fd:List Int->Option (Int × Ids)) (al:Ids):Mt fd al []:=⟨List.nodup_nil,(fun y hy=>by cases hy),(fun y hy=>by cases hy)⟩
theorem Mt.put {fd:List Int->Option (Int × Ids)} {al M:Ids} (h:Mt fd al M) {x:List Int} (hx:x ∉ M) (ha:x ∈ al) (hw:IdW x):Mt fd al (M++[x]) :=
 ⟨by
  rw[List.nodup_append]
  exact⟨h.one,by simp,fun a ha b hb=>by
   have:b=x:=by simpa using hb
   rw[this];intro e;exact hx (by rw[<-e];exact ha)⟩,
 fun y hy=>by
  rcases List.mem_append.1 hy with hy | hy
  ·exact h.of y hy
  ·have:y=x:=by simpa using hy
   rw[this];exact ha,
 fun y hy=>by
  rcases List.mem_append.1 hy with hy | hy
  ·exact h.idw y hy
  ·have:y=x:=by simpa using hy
   rw[this];exact hw⟩
structure Oj where
 k:Int
 a:Option Addr
 cap:Nat
 zs:List Int
abbrev dO:Oj:=⟨0,none,0,[]⟩
def oid (o:Oj):List Int:=idZ o.k o.zs
def oer (o:Oj):Int:=yj o.k o.zs.length
def yV (o:Oj):List Value:=[.int .i64 o.k,.slice o.a o.zs.length o.cap]
def Hit (x:List Int) (o:Oj):Bool:=decide (oer o=0/\oid o=x)
def fO (os:List Oj) (x:List Int):Option Nat:=os.findIdx? (Hit x)
theorem VZ (o:Oj):IdW (oid o):=by
 refine⟨idZ_len _ _,fun n hn=>?_⟩
 unfold oid idZ at hn
 split at hn
 ·unfold sha vY at hn
  obtain⟨i,_,rfl⟩:=List.mem_map.1 hn
  split
  ·exact⟨Int.emod_nonneg _ (by decide),Int.emod_lt_of_pos _ (by decide)⟩
  ·exact⟨by decide,by decide⟩
 ·rw[List.eq_of_mem_replicate hn];exact⟨by decide,by decide⟩
theorem fO_none {os:List Oj} {x:List Int} (h:∀ j,j<os.length->Hit x (os.getD j dO)=false):fO os x=none:=by
 unfold fO
 rw[List.findIdx?_eq_none_iff]
 intro o ho
 obtain⟨j,hj⟩:=List.getElem?_of_mem ho
 have hl:=(List.getElem?_eq_some_iff.1 hj).1
 have:=h j hl
 rw[List.getD_eq_getElem?_getD,hj] at this
 exact this
theorem fO_some {os:List Oj} {x:List Int} {i:Nat} (hi:i<os.length) (h1:Hit x (os.getD i dO)=true) (h:∀ j,j<i->Hit x (os.getD j dO)=false):fO os x=some i:=by
 unfold fO
 rw[List.findIdx?_eq_some_iff_getElem]
 refine⟨hi,?_,fun j hj=>?_⟩
 ·rw[List.getD_eq_getElem?_getD,List.getElem?_eq_getElem hi] at h1;exact h1
 ·have:=h j hj
  rw[List.getD_eq_getElem?_getD,List.getElem?_eq_getElem (by omega)] at this
  exact fun e=>by rw[show os[j]=(some os[j]).getD dO from rfl] at e;rw[this] at e;cases e
theorem fO_hit {os:List Oj} {x:List Int} {i:Nat} (h:fO os x=some i):i<os.length/\oer (os.getD i dO)=0/\oid (os.getD i dO)=x:=by
 unfold fO at h
 obtain⟨hi,h1,_⟩:=List.findIdx?_eq_some_iff_getElem.1 h
 unfold Hit at h1
 have h2:=of_decide_eq_true h1
 rw[List.getD_eq_getElem?_getD,List.getElem?_eq_getElem hi]
 exact⟨hi,h2⟩
theorem fO_step (os:List Oj) (i:Nat) (hi:i<os.length) (x:List Int):fO (os.take (i+1)) x=match fO (os.take i) x with | some j=>some j | none=>if Hit x (os.getD i dO)=true then some i else none:=by
 rw[xW dO os i hi]
 unfold fO
 rw[List.findIdx?_append,List.findIdx?_singleton,List.length_take,Nat.min_eq_left (Nat.le_of_lt hi)]
 cases (os.take i).findIdx? (Hit x) with
 | some j=>rfl
 | none=>by_cases h:Hit x (os.getD i dO)=true <;> simp[h]
structure Ot (w:World) (a:Option Addr) (cap:Nat) (os:List Oj):Prop where
 px:Px yV 2 dO w a cap os
 sl:∀ o ∈ os,Sl w o.a o.cap o.zs
 isb:∀ o ∈ os,IsB o.zs
 len:∀ o ∈ os,o.zs.length<=40000
 few:os.length<=40
theorem Ot.below {w w':World} {a:Option Addr} {cap:Nat} {os:List Oj} (h:Ot w a cap os) (hb:Below w.heap.size w w'):Ot w' a cap os :=
 ⟨h.px.below hb,fun o ho=>(h.sl o ho).below hb,h.isb,h.len,h.few⟩
structure Ow (B:Nat) (w:World) (a:Option Addr) (cap:Nat) (os:List Oj):Prop where
 all:∀ W,Below B w W->Ot W a cap os
theorem ow_of {w:World} {a:Option Addr} {cap:Nat} {os:List Oj} (h:Ot w a cap os):Ow w.heap.size w a cap os:=⟨fun _ hW=>h.below hW⟩
theorem Ow.go {B B':Nat} {w w':World} {a:Option Addr} {cap:Nat} {os:List Oj} (h:Ow B w a cap os) (hb:Below B w w') (hB:B<=B'):Ow B' w' a cap os:=⟨fun W hW=>h.all W (hb.trans (hW.mono hB))⟩
theorem Ow.at {B:Nat} {w W:World} {a:Option Addr} {cap:Nat} {os:List Oj} (h:Ow B w a cap os) (hb:Below B w W) {i:Nat} (hi:i<os.length):∃ b off,a=some ⟨b,off,none⟩/\W.rangeAt b (off+i*2) (yV (os.getD i dO))/\os.getD i dO ∈ os:=by
 obtain⟨b,off,e1,_,e3⟩:=(h.all W hb).px.at_ (by omega)
 exact⟨b,off,e1,e3 i hi,yK os i dO hi⟩
structure Nw (ty:TypeId) (z:Array Value) (W W':World) (H:Nat) (R:List Value):Prop where
 h:W.heap.size=H
 w:(W.alloc (.cells z ty)).setRow W.heap.size R.toArray=W'
 d:(W.alloc (.cells z ty)).heap[W.heap.size]? = some (.cells z ty (0,0))
 below:Below H W W'
 box:W'.heap[H]? = some (.cells R.toArray ty (0,0))
 lt:H<W'.heap.size
theorem Nw.at {ty:TypeId} {z:Array Value} {W W':World} {H:Nat} {R:List Value} (h:Nw ty z W W' H R):W'.rangeAt H 0 R:=zx h.box
theorem nw (ty:TypeId) (z:Array Value) (W:World) (R:List Value):∃ H W',Hid (Nw ty z W W' H R):=by
 have D0:=heap_alloc_new W (.cells z ty)
 have hb:=setRow_heap (W.alloc (.cells z ty)) W.heap.size z R.toArray ty (0,0) D0
 exact⟨W.heap.size,_,hid ⟨rfl,rfl,D0,below_setRow ((Below.refl _ W).alloc (Nat.le_refl _) _) (Nat.le_refl _) _,hb,z6 hb⟩⟩
structure Rw (x:List Int) (R:List Value):Prop where
 e:row .u8 x=R
 i31:(Tryz.prog.info? 31).map (·.size)=some R.length
 i56:(Tryz.prog.info? 56).map (·.size)=some R.length
 j31:(Tryz.prog.info? 31).map (·.size)=some R.toArray.size
 j56:(Tryz.prog.info? 56).map (·.size)=some R.toArray.size
 o:R.toArray.all (·.oneCell')=true
 z:(row .u8 z20).toArray.size=R.toArray.size
theorem rw_ {x:List Int} (h:x.length=20):∃ R,Hid (Rw x R):=by
 have hl:(row .u8 x).length=20:=by rw[zq];exact h
 have hs:(row .u8 x).toArray.size=20:=by rw[List.size_toArray];exact hl
 exact⟨_,hid ⟨rfl,by rw[hl];exact Tryz.size31,by rw[hl];exact Tryz.size56,by rw[hs];exact Tryz.size31,by rw[hs];exact Tryz.size56,all_oneCell_toArray (zV _ _),by rw[hs];rfl⟩⟩
def atV (r:Option Nat):Value:=match r with
 | some i=>.int .i64 (i:Int)
 | none=>.int .i64 (-1)
theorem refID_o (o:Oj) (w:World) (hl:o.zs.length<=40000) (hz:IsB o.zs) (hS:Sl w o.a o.cap o.zs) {R RO:List Value} (hR:Rw (oid o) R) (hO:yV o=RO) {er:Int} (he:oer o=er) :
  Calls Tryz.prog 4 #[.agg RO.toArray] w fun e w'=>e=.returned (.tuple #[.agg R.toArray,.int .i64 er])/\Below w.heap.size w w':=by
 have:=refID_any o.k o.a o.cap o.zs w (by omega) hz hS
 rw[<-hO,<-hR.e,<-he]
 exact this
theorem info30:(Tryz.prog.info? 30).map (·.size)=some 2:=by kernel_rfl
theorem info28:(Tryz.prog.info? 28).map (·.size)=some 2:=by kernel_rfl
theorem object_any (a:Option Addr) (cap:Nat) (os:List Oj) (x:List Int) (hx:IdW x) (w:World) (B:Nat) (w0:World) (hO:Ow B w0 a cap os) (hw:Below B w0 w) (hB:B<=w.heap.size) (hn:os.length<=40) :
  Calls Tryz.prog 28 #[.slice a os.length cap,idV x] w fun e w'=>e=.returned (atV (fO os x))/\Below w.heap.size w w':=by
 obtain⟨n,HN⟩:=nm_ os.length
 obtain⟨G,HG⟩:=nm_ w.heap.size
 have hnn:n<=40:=by rw[<-HN.out];exact hn
 have HOO:Hid (Ow G w a cap os):=hid (hO.go hw (by rw[<-HG.out];exact hB))
 have HXI:Hid (IdW x):=hx
 obtain⟨X,HX⟩:=rw_ hx.1
 have hiX:=HX.out.i31
 obtain⟨w1,HW1⟩:=nm_ (w.alloc (.cells X.toArray 31))
 have HB1:Hid (Below G w w1):=hid (by rw[<-HW1.out,<-HG.out];exact(Below.refl _ w).alloc (Nat.le_refl _) _)
 have HX1:Hid (w1.heap[G]? = some (.cells X.toArray 31 (0,0))):=hid (by rw[<-HW1.out,<-HG.out];exact heap_alloc_new w _)
 obtain⟨zr,HZ⟩:=nm_ ((row .u8 z20).toArray)
 have hz31:∀ w:World,(zeroValue 31).run Tryz.prog w=.ok (.agg zr) w:=fun w=>by rw[<-HZ.out];exact zero31 w
 unfold idV
 rw[HX.out.e,HN.out]
 clear hO hx hw hB
 go_enter Tryz.func28,Tryz.ntmps28
 go_wp2_with fail
 rw[HW1.out,HG.out]
 go_loopg [5] n (fun g v wr=>∃ i:Nat,v=.int .i64 i/\g=n-i/\i<=n/\Hid (Below G w wr)/\Hid (wr.heap[G]? = some (.cells X.toArray 31 (0,0)))/\Hid (∀ j,j<i->Hit x (os.getD j dO)=false))
 case atStart=>exact⟨0,rfl,by omega,by omega,HB1,HX1,hid (fun j hj=>by omega)⟩
 case round =>
  obtain⟨i,rfl,hg,hin,HB,HXB,HJ⟩:=hrel
  by_cases hlt:i<n
  ·have hlti:(i:Int)<(n:Int):=by omega
   obtain⟨b,off,ha,hr,hom⟩:=HOO.out.at HB.out (i:=i) (by rw[HN.out];exact hlt)
   subst ha
   obtain⟨o,HOi⟩:=nm_ (os.getD i dO)
   rw[HOi.out] at hr hom
   obtain⟨RO,HRO⟩:=nm_ (yV o)
   have RR:Hid (wr.rangeAt b (off+i*2) RO):=hid (by rw[<-HRO.out];exact hr)
   have hi30:(Tryz.prog.info? 30).map (·.size)=some RO.length:=by rw[<-HRO.out];exact info30
   obtain⟨er,HER⟩:=nm_ (oer o)
   obtain⟨FR,HFR⟩:=rw_ (VZ o).1
   have hiF:=HFR.out.i31
   have CID:Hid (Calls Tryz.prog 4 #[.agg RO.toArray] wr fun e w'=>e=.returned (.tuple #[.agg FR.toArray,.int .i64 er])/\Below wr.heap.size wr w') :=
    refID_o o wr ((HOO.out.all wr HB.out).len o hom) ((HOO.out.all wr HB.out).isb o hom) ((HOO.out.all wr HB.out).sl o hom) HFR.out HRO.out HER.out
   have hGr:G<wr.heap.size:=z6 HXB.out
   obtain⟨bb,HBB⟩:=nm_ (decide (oid o=x))
   have hEQ:∀ w:World,(Op.equalIn 10000 31 (.agg FR.toArray) (.agg X.toArray)).run Tryz.prog w=.ok bb w:=fun w=>by
    have:=eq41 (oid o) x (VZ o).1 HXI.out.1 w
    unfold idV at this
    rw[HFR.out.e,HX.out.e,HBB.out] at this
    exact this
   clear hr hom
   go_wp2_with (first
    | refine wpList_load_mid rfl 30 _ rfl b (off+i*2) rfl RO _ RR.out Tryz.underlying30 rfl hi30 ?_
    | fail)
   refine CID.out.mono ?_
   rintro ev w2 ⟨rfl,hb2⟩
   obtain⟨H,w3,HN3⟩:=nw 31 zr w2 FR
   have hb3:Below wr.heap.size wr w3:=hb2.trans (HN3.out.below.mono (by rw[<-HN3.out.h];exact hb2.size))
   have HB3:Hid (Below G w w3):=hid (HB.out.trans (hb3.mono (Nat.le_of_lt hGr)))
   have HXB3:Hid (w3.heap[G]? = some (.cells X.toArray 31 (0,0))):=hid ((hb3.block G hGr).trans HXB.out)
   have R3:Hid (w3.rangeAt H 0 FR):=hid HN3.out.at
   have RX3:Hid (w3.rangeAt G 0 X):=hid (zx HXB3.out)
   have E31:Hid (zr.size=FR.toArray.size):=hid (by rw[<-HZ.out];exact HFR.out.z)
   clear hb2 hb3
   by_cases her:er=0
   ·subst her
    cases bb with
    | true =>
     go_wp2_with (first
      | (refine wpList_store_row rfl 31 _ _ rfl w2.heap.size FR.toArray rfl rfl 31 zr HN3.out.d HFR.out.j31 E31.out HFR.out.o ?_;rw[HN3.out.w,HN3.out.h])
      | (refine BigFrame.wpList_want (by rfl) (fun KK hKK=>?_);refine wp_load_mid 31 _ rfl H 0 rfl FR _ R3.out Tryz.underlying31 rfl hiF ?_;refine hKK _ _ ?_;clear hKK KK)
      | (refine BigFrame.wpList_want (by rfl) (fun KK hKK=>?_);refine wp_load_mid 31 _ rfl G 0 rfl X _ RX3.out Tryz.underlying31 rfl hiX ?_;refine hKK _ _ ?_;clear hKK KK)
      | fail)
     go_ret
     have e:fO os x=some i:=fO_some (by rw[HN.out];exact hlt) (by unfold Hit;rw[HOi.out,HER.out];exact decide_eq_true ⟨rfl,of_decide_eq_true HBB.out⟩) HJ.out
     exact⟨by rw[e];rfl,by rw[HG.out];exact HB3.out⟩
    | false =>
     go_wp2_with (first
      | (refine wpList_store_row rfl 31 _ _ rfl w2.heap.size FR.toArray rfl rfl 31 zr HN3.out.d HFR.out.j31 E31.out HFR.out.o ?_;rw[HN3.out.w,HN3.out.h])
      | (refine BigFrame.wpList_want (by rfl) (fun KK hKK=>?_);refine wp_load_mid 31 _ rfl H 0 rfl FR _ R3.out Tryz.underlying31 rfl hiF ?_;refine hKK _ _ ?_;clear hKK KK)
      | (refine BigFrame.wpList_want (by rfl) (fun KK hKK=>?_);refine wp_load_mid 31 _ rfl G 0 rfl X _ RX3.out Tryz.underlying31 rfl hiX ?_;refine hKK _ _ ?_;clear hKK KK)
      | fail)
     go_roundg (n-(i+1))
     case measure=>omega
     case rel=>exact⟨i+1,by go_num,rfl,by omega,HB3,HXB3,hid (fun j hj=>by
      rcases Nat.lt_or_ge j i with h | h
      ·exact HJ.out j h
      ·have e:j=i:=by omega
       rw[e,HOi.out]
       unfold Hit
       exact decide_eq_false (fun h2=>by have:=of_decide_eq_false HBB.out;exact this h2.2))⟩
   ·have her2:Hid (¬ oer o=0):=hid (by rw[HER.out];exact her)
    go_wp2_with (first
     | (refine wpList_store_row rfl 31 _ _ rfl w2.heap.size FR.toArray rfl rfl 31 zr HN3.out.d HFR.out.j31 E31.out HFR.out.o ?_;rw[HN3.out.w,HN3.out.h])
     | fail)
    go_roundg (n-(i+1))
    case measure=>omega
    case rel=>exact⟨i+1,by go_num,rfl,by omega,HB3,HXB3,hid (fun j hj=>by
     rcases Nat.lt_or_ge j i with h | h
     ·exact HJ.out j h
     ·have e:j=i:=by omega
      rw[e,HOi.out]
      unfold Hit
      exact decide_eq_false (fun h2=>her2.out h2.1))⟩
  ·have hlti:¬ (i:Int)<(n:Int):=by omega
   have hni:i=n:=by omega
   have HNN:Hid (fO os x=none):=hid (fO_none (fun j hj=>HJ.out j (by rw[HN.out] at hj;omega)))
   clear hni
   go_wp2
   go_ret
   exact⟨by rw[HNN.out];rfl,by rw[HG.out];exact HB.out⟩
section
variable {α : Type} {enc : α → List Value} {k : Nat} {d : α}
theorem wpList_bx_slM {w w0:World} {ops:Array Oper} {rest:List Oper} {o:Oper} {a:Act} {Q:Exit->Act->World->Prop} (hgd:o.guard=none) (s x:Operand) (t e:TypeId) (hu:Tryz.prog.underlying t=some (.slice e)) {z:Value} {by_:Nat} (hin:(Tryz.prog.info? e).map (fun i=>(i.zero,i.size,i.bytes))=some (some z,k,by_)) (hz:z.cells.size=k) (hk:0<k) (hby:by_<=100)
  (hone:∀ x,∀ v ∈ enc x,v.oneCell'=true)
  (ho:o.op=.call { callee:=.builtin .append,args:=#[s,x],argTypes:=#[t,t] }) (B:Nat) (v:Value) (l:List α) (hs:a.eval s=v) (h:Bx enc k e w0 w B v l)
  (ax:Option Addr) (cx:Nat) (m:List α) (hx:a.eval x=.slice ax m.length cx) (hP:Px enc k d w ax cx m) (hw:∀ x ∈ m,(enc x).length=k) (hl:l.length+m.length<=100000)
  (hK:∀ v' w',Bx enc k e w0 w' B v' (l++m)->w.grownBy w' v.ownBlock->Mv w w' v v'->wpList Tryz.prog ops Q rest (a.put o.dst v') w'):wpList Tryz.prog ops Q (o :: rest) a w:=by
 obtain⟨i,hi,hz0,hz1,hz2⟩:=zQ hin
 cases ax with
 | none =>
  have hc:cx=0:=hP.nil rfl
  have hcl:=hP.capl
  obtain rfl:m=[]:=List.length_eq_zero_iff.1 (by omega)
  subst hc
  refine wpList_plain hgd fun K hK'=>?_
  have hr:=run_append_owned_none (P:=Tryz.prog) w B t o.type e i k hu hi v _ _ h.own
  unfold Oper.wp execOp
  simp only[List.length_nil] at hx
  simp only[ho,resolve,invoke,builtin,Sem.run_bind,Sem.run_pure,Result.andThen_ok,List.map_toArray,List.map_cons,List.map_nil,hs,hx,hr]
  exact hK' _ _ (hK v w (by simpa using h) ⟨rfl,rfl,rfl,Nat.le_refl _,fun _ _ _=>rfl⟩ (Mv.refl _ _))
 | some ad =>
  obtain⟨bk,of,fr⟩:=ad
  by_cases h0:m.length=0
  ·obtain rfl:m=[]:=List.length_eq_zero_iff.1 h0
   refine wpList_append_own_at w hgd s x t ho B e i z k by_ hu hi hz0 hz1 hz2 hz hk v _ _ hs h.own ⟨bk,of,fr⟩ 0 cx [] hx (by simp) (fun j u hj=>by cases hj) (fun u hu=>by cases hu) (by unfold maxLen;omega) (by have h2:=Nat.mul_le_mul hl hby;exact Nat.le_trans h2 (by decide)) h.le ?_
   intro v' w' h1 h2 h3 h4
   refine hK v' w' ⟨h.below.grown h2 h.le (fun k hk=>(qW h.own k hk).1),?_,Nat.le_trans h.le h2.size⟩ h2 (Mv.app ⟨rfl,rfl,rfl,Nat.le_refl _,fun _ _ _=>rfl⟩ h2 h4)
   simpa using h1
  ·obtain⟨b',off',e1,_⟩:=hP.at_ (by omega)
   cases e1
   refine wpList_append_own_at w hgd s x t ho B e i z k by_ hu hi hz0 hz1 hz2 hz hk v _ _ hs h.own ⟨bk,of,none⟩ m.length cx (m.flatMap enc) hx (Z6 m hw) (hP.cells hk hw) (fX_one m hone) (by unfold maxLen;omega) (by have h2:=Nat.mul_le_mul hl hby;exact Nat.le_trans h2 (by decide)) h.le ?_
   intro v' w' h1 h2 h3 h4
   refine hK v' w' ⟨h.below.grown h2 h.le (fun k hk=>(qW h.own k hk).1),?_,Nat.le_trans h.le h2.size⟩ h2 (Mv.app ⟨rfl,rfl,rfl,Nat.le_refl _,fun _ _ _=>rfl⟩ h2 h4)
   rw[List.length_append,List.flatMap_append]
   exact h1
end
theorem wpList_run {P:Program} {ops:Array Oper} {rest:List Oper} {o:Oper} {a:Act} {w w':World} {Q:Exit->Act->World->Prop} (hg:o.guard=none) (v:Value) (hr:(execOp a.eval o).run P w=.ok (.value v) w') (h:wpList P ops Q rest (a.put o.dst v) w'):wpList P ops Q (o :: rest) a w:=by
 refine wpList_plain hg fun K hK=>?_
 unfold Oper.wp
 rw[hr]
 exact hK _ _ h
theorem wpList_skip {P:Program} {ops:Array Oper} {rest:List Oper} {o:Oper} {a:Act} {w w':World} {Q:Exit->Act->World->Prop} (hg:o.guard=none) (hr:(execOp a.eval o).run P w=.ok .skip w') (h:wpList P ops Q rest (a.put o.dst undef) w'):wpList P ops Q (o :: rest) a w:=by
 refine wpList_plain hg fun K hK=>?_
 unfold Oper.wp
 rw[hr]
 exact hK _ _ h
theorem step_skip {P:Program} {ops:Array Oper} {o:Oper} {a:Act} {w w':World} {K:Act->World->Prop} {Q:Exit->Act->World->Prop} {E:Prop} (hg:o.guard=none) (hr:(execOp a.eval o).run P w=.ok .skip w') (h:K (a.put o.dst undef) w') :
  if Region.wanted o (yielded ops a.tmps)=true then Oper.wp P o a w K Q else E:=by
 have hw:Region.wanted o (yielded ops a.tmps)=true:=by simp[Region.wanted,hg]
 rw[if_pos hw]
 unfold Oper.wp
 rw[hr]
 exact h
end Go.Proofs.YticgindfipobiaaGreatDoor.Gr
