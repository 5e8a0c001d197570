import Derived.Test.YtgliaiemkfopeaaGreatDoorMn35
import Derived.Test.YtgliaiemkfopeaaGreatDoorCards
import Derived.Test.YtgliaiemkfopeaaGreatDoorTie
import Derived.WalkKit
import Derived.ProofKit
import Derived.OpenShut
import Derived.Below
import Derived.Deep.DeepHandedRow
import Derived.Lib.LaidTab
import Derived.LaidLaws
import Derived.LaidHandle
import Derived.ChangeSame
import Derived.Shelf.LaysM
import Derived.Deep.Slices
set_option linter.unusedSectionVars false
set_option linter.unusedVariables false
set_option maxRecDepth 20000
set_option maxHeartbeats 4000000
namespace Go.Proofs.YtgliaiemkfopeaaGreatDoor.K.Keep
open Go.ChangeShapes Go.WideShapes Go.ChangeAt Go.RowKit
theorem own:ownKnob Tryz.prog.godebug=none:=by kernel_rfl
theorem laidOut:laidOutB Tryz.prog=true:=by kernel_rfl
theorem et:Tryz.prog.globalNamed "errors.errorType" = some 0:=by kernel_rfl
theorem rt:(Tryz.prog.cutTypes.find? (·.1 == "internal/reflectlite.rtype")).map (·.2)=some 198:=by kernel_rfl
theorem oneRow:((List.range 368).filter fun t=>Tryz.prog.rowNamed t [101,114,114,111,114])=[55]:=by kernel_rfl
theorem tsize:Tryz.prog.types.size=368:=by kernel_rfl
theorem ptype:(Tryz.prog.globals[3]?).map (·.type)=some 310:=by kernel_rfl
theorem c220:Tryz.prog.cellsOf 220=1:=by kernel_rfl
theorem c310:Tryz.prog.cellsOf 310=20:=by kernel_rfl
theorem qQ {P:Program} {W:World} {n:String} {d:DataW Unit} {r:List (String × DataW Unit)} (h:laidMet P ((n,d) :: r) W):laidMet P r W:=by
 obtain⟨ps,⟨g,t,cs,fuel,p,q,_,_,_,_,hq,rfl⟩,hn,hall⟩:=h
 exact⟨q,hq,(List.nodup_append.1 hn).2.1,fun b off hb=>hall b off (List.mem_append.2 (.inr hb))⟩
def deb64:List Int:=[0,1,56,2,57,49,28,3,61,58,42,50,38,29,17,4,62,47,59,36,45,43,51,22,53,39,33,30,24,18,12,5,63,55,48,27,60,41,37,16,46,35,44,21,52,32,23,11,54,26,40,15,34,20,31,10,25,14,19,9,13,8,7,6]
def dataRows:List (String × DataW Unit):=[("math/bits.deBruijn32tab", Rows.laid_math_bits_deBruijn32tab),("math/bits.deBruijn64tab", Lib.tabData .u8 deb64),("internal/strconv.uint64pow10", Lib.tabData .u64 Lib.pow10Tab),("unicode/utf8.acceptRanges", Rows.laid_unicode_utf8_acceptRanges),("strconv.ErrRange", Rows.laid_strconv_ErrRange),("strconv.ErrSyntax", Rows.laid_strconv_ErrSyntax),("gitlike/refs.errCut", Rows.laid_gitlike_refs_errCut),("unicode/utf8.first", Rows.laid_unicode_utf8_first)]
def handleRows:List (String × DataW Unit):=[("errors.errorType", Rows.laid_errors_errorType)]
theorem QV {W:World} (h:laidMetH Tryz.prog Rows.refsKeepRow.laid W):laidMet Tryz.prog dataRows W/\handlesMet Tryz.prog handleRows W:=h
theorem handle_of_laid {W:World} (h:laidMetH Tryz.prog Rows.refsKeepRow.laid W):W.cell? ⟨0,0,none⟩=some (.iface 198 (.agg #[.pointer (some ⟨10,55,none⟩)])):=by
 obtain⟨name,u,ty,e1,e2,e3,e4,e5⟩:=(QV h).2 _ (List.mem_singleton.2 rfl)
 have en:name=[101,114,114,111,114]:=(Option.some.inj e1).symm
 subst en
 obtain rfl:=Option.some.inj (rt.symm.trans e2)
 have hm:ty ∈ (List.range 368).filter fun t=>Tryz.prog.rowNamed t [101,114,114,111,114]:=List.mem_filter.2 ⟨List.mem_range.2 (by rw[<-tsize];exact e3),e4⟩
 rw[oneRow] at hm
 obtain rfl:=List.mem_singleton.1 hm
 have hh:typeHandle Tryz.prog 55=.pointer (some ⟨10,55,none⟩):=by kernel_rfl
 rw[hh] at e5
 simpa using World.var?_cell et e5 0
theorem pow_at3:Tryz.prog.globalNamed "internal/strconv.uint64pow10" = some 3:=by kernel_rfl
theorem tab_of_laid {W:World} (h:laidMetH Tryz.prog Rows.refsKeepRow.laid W):Tab W :=
 Lib.tabIs_of_head pow_at3 ptype Tryz.underlying310 Tryz.underlying220 c220 c310 (qQ (qQ (QV h).1))
theorem shapedMx {W:World} (h:W.ShapedOpen Tryz.prog):Mx W :=
 Go.Proofs.cell_of_shapedOpen_int (zero:=#[.int .i64 0]) (t:=3) h (of_decide_eq_true (by kernel_rfl)) (by kernel_rfl) rfl (by kernel_rfl) (by kernel_rfl) Tryz.underlying3
theorem cell_lt {w:World} {a:Addr} {v:Value} (h:w.cell? a=some v):a.block<w.heap.size:=by
 rcases Nat.lt_or_ge a.block w.heap.size with h' | h'
 ·exact h'
 ·simp[World.cell?,Array.getElem?_eq_none h'] at h
theorem trod_iface {H:Type} {enc:TypeId × Value->H} {P:Program} {w:World} {base:Nat} {spare:Nat->Bool} {held:Bool} {fuel:Nat} {t:TypeId} {cs:List Value} {x:DataW H × List MemPlace} {ms:Array (String × TypeId)} (ht:P.underlying t=some (.interface ms))
  (h:DataW.trod enc P w base spare held fuel t cs=some x):cs=[.nilIface] ∨ ∃ u v,cs=[.iface u v]:=by
 cases fuel with
 | zero=>simp[DataW.trod] at h
 | succ n =>
  unfold DataW.trod at h
  rw[ht] at h
  split at h <;> simp_all
theorem Yj {P:Program} {W:World} {n:String} {d:DataW Unit} {r:List (String × DataW Unit)} {g:Nat} {t:TypeId} {ms:Array (String × TypeId)} (hg:P.globalNamed n=some g) (ht:(P.globals[g]?).map (·.type)=some t) (hu:P.underlying t=some (.interface ms))
  (h:laidMet P ((n,d) :: r) W):∃ ev,W.cell? ⟨g,0,none⟩=some ev/\(ev=.nilIface ∨ ∃ te pe,ev=.iface te pe):=by
 obtain⟨ps,⟨g',t',cs,fuel,p,q,e1,e2,e3,e4,hq,rfl⟩,hn,hall⟩:=h
 obtain rfl:=Option.some.inj (hg.symm.trans e1)
 obtain rfl:=Option.some.inj (ht.symm.trans e2)
 have hc:=World.var?_cell hg e3 0
 rcases trod_iface hu e4 with h | ⟨u,v,h⟩
 ·have:cs=#[.nilIface]:=Array.toList_inj.1 (by simpa using h)
  subst this
  exact⟨_,by simpa using hc,.inl rfl⟩
 ·have:cs=#[.iface u v]:=Array.toList_inj.1 (by simpa using h)
  subst this
  exact⟨_,by simpa using hc,.inr ⟨u,v,rfl⟩⟩
theorem g5:Tryz.prog.globalNamed "strconv.ErrSyntax" = some 4:=by kernel_rfl
theorem g6:Tryz.prog.globalNamed "strconv.ErrRange" = some 5:=by kernel_rfl
theorem g1:Tryz.prog.globalNamed "gitlike/refs.errCut" = some 1:=by kernel_rfl
theorem t5:(Tryz.prog.globals[4]?).map (·.type)=some 55:=by kernel_rfl
theorem t6:(Tryz.prog.globals[5]?).map (·.type)=some 55:=by kernel_rfl
theorem t1:(Tryz.prog.globals[1]?).map (·.type)=some 55:=by kernel_rfl
theorem ers_of_laid {W:World} (h:laidMetH Tryz.prog Rows.refsKeepRow.laid W):Ers W:=by
 have h4:=qQ (qQ (qQ (qQ (QV h).1)))
 exact⟨Yj g5 t5 Tryz.underlying55 (qQ h4),Yj g6 t6 Tryz.underlying55 h4⟩
theorem error_of_laid {P:Program} {W:World} {n nm:String} {d:DataW Unit} {r:List (String × DataW Unit)} {g:Nat} {t:TypeId} {ms:Array (String × TypeId)} (hg:P.globalNamed n=some g) (ht:(P.globals[g]?).map (·.type)=some t) (hu:P.underlying t=some (.interface ms))
  (h:laidMet P ((n,.iface nm d) :: r) W):∃ te pe,W.cell? ⟨g,0,none⟩=some (.iface te pe):=by
 obtain⟨ps,⟨g',t',cs,fuel,p,q,e1,e2,e3,e4,hq,rfl⟩,hn,hall⟩:=h
 obtain rfl:=Option.some.inj (hg.symm.trans e1)
 obtain rfl:=Option.some.inj (ht.symm.trans e2)
 have hc:=World.var?_cell hg e3 0
 rcases trod_iface hu e4 with h | ⟨u,v,h⟩
 ·exfalso
  rw[h] at e4
  cases fuel with
  | zero=>simp[DataW.trod] at e4
  | succ k =>
   unfold DataW.trod at e4
   rw[hu] at e4
   simp at e4
 ·have:cs=#[.iface u v]:=Array.toList_inj.1 (by simpa using h)
  subst this
  exact⟨u,v,by simpa using hc⟩
theorem ec_of_laid {W:World} (h:laidMetH Tryz.prog Rows.refsKeepRow.laid W):Ec W :=
 error_of_laid g1 t1 Tryz.underlying55 (qQ (qQ (qQ (qQ (qQ (qQ (QV h).1))))))
theorem deb_at:Tryz.prog.globalNamed "math/bits.deBruijn64tab" = some 9:=by kernel_rfl
theorem dtype:(Tryz.prog.globals[9]?).map (·.type)=some 294:=by kernel_rfl
theorem c5:Tryz.prog.cellsOf 5=1:=by kernel_rfl
theorem c294:Tryz.prog.cellsOf 294=64:=by kernel_rfl
theorem db_of_laid {W:World} (h:laidMetH Tryz.prog Rows.refsKeepRow.laid W):Db W:=by
 have ht:Lib.TabIs Tryz.prog W "math/bits.deBruijn64tab" .u8 deb64:=Lib.tabIs_of_head deb_at dtype Tryz.underlying294 Tryz.underlying5 c5 c294 (qQ (QV h).1)
 exact⟨by simpa [deb64] using World.var?_cell deb_at ht 15⟩
theorem ints_of {p:Int->Prop} : ∀ cs:List Value,(∀ i,i<cs.length->∃ n,cs[i]? = some (.int .u8 n)/\p n)->∃ zs:List Int,cs=row .u8 zs/\zs.length=cs.length/\∀ n ∈ zs,p n
 | [],_=>⟨[],rfl,rfl,fun n hn=>by cases hn⟩
 | v :: r,h=>by
  obtain⟨n,e,hp⟩:=h 0 (by simp)
  obtain⟨zs,e2,e3,e4⟩:=ints_of r (fun i hi=>by
   obtain⟨m,f1,f2⟩:=h (i+1) (by simpa using hi)
   exact⟨m,by simpa using f1,f2⟩)
  have ev:v=.int .u8 n:=by simpa using e
  refine⟨n :: zs,by rw[ev,e2];rfl,by simp[e3],fun m hm=>?_⟩
  rcases List.mem_cons.1 hm with rfl | hm
  ·exact hp
  ·exact e4 m hm
theorem cells89:Tryz.prog.cellsOf 89=20:=by kernel_rfl
theorem cells9:Tryz.prog.cellsOf 9=1:=by kernel_rfl
theorem cells2:Tryz.prog.cellsOf 2=1:=by kernel_rfl
theorem cells3:Tryz.prog.cellsOf 3=1:=by kernel_rfl
theorem cells4:Tryz.prog.cellsOf 4=1:=by kernel_rfl
theorem cells36:Tryz.prog.cellsOf 36=1:=by kernel_rfl
theorem cells38:Tryz.prog.cellsOf 38=4:=by kernel_rfl
theorem cells39:Tryz.prog.cellsOf 39=1:=by kernel_rfl
theorem cells41:Tryz.prog.cellsOf 41=15:=by kernel_rfl
theorem cells117:Tryz.prog.cellsOf 117=41:=by kernel_rfl
set_option maxRecDepth 100000 in
theorem open_id {H:Type} {enc:TypeId × Value->H} {W:World} {m:Nat} {cs:List Value} {y:DataW H × List MemPlace} (h:DataW.trod enc Tryz.prog W 0 (fun _=>true) true m 89 cs=some y) :
  ∃ zs:List Int,cs=row .u8 zs/\IdW zs:=by
 obtain⟨xs,k,_,_,hl,hx,hf⟩:=DataW.trod_array Tryz.underlying89 h
 rw[cells89] at hl
 obtain⟨zs,e1,e2,e3⟩:=ints_of (p:=fun n=>0<=n/\n<256) cs (fun i hi=>by
  have hi20:i<20:=by omega
  have h1:=hf i hi20
  rw[c5,Nat.mul_one,List.getElem?_eq_getElem (by omega)] at h1
  obtain⟨n,e,_,hw⟩:=DataW.trod_int Tryz.underlying5 h1
  refine⟨n,?_,?_⟩
  ·have h2:(List.take 1 (List.drop i cs))[0]? = some (.int .u8 n):=by rw[e];rfl
   rw[List.getElem?_take_of_lt (by omega),List.getElem?_drop,Nat.add_zero] at h2
   exact h2
  ·have:=bounds_u8 hw
   omega)
 exact⟨zs,e1,by omega,fun n hn=>e3 n hn⟩
theorem Zq {H:Type} {enc:TypeId × Value->H} {W:World} {m:Nat} {cs:List Value} {y:DataW H × List MemPlace} (h:DataW.trod enc Tryz.prog W 0 (fun _=>true) true m 9 cs=some y) :
  ∃ l:List UInt8,cs=[sV l]:=by
 obtain⟨s,e,rfl,_⟩:=DataW.trod_string Tryz.underlying9 h
 exact⟨s.data.toList,e⟩
set_option maxRecDepth 100000 in
theorem open_chg {H:Type} {enc:TypeId × Value->H} {W:World} {m:Nat} {cs:List Value} {y:DataW H × List MemPlace} (h:DataW.trod enc Tryz.prog W 0 (fun _=>true) true m 117 cs=some y) :
  ∃ x:Mv1,cs=qz x/\xw x:=by
 obtain⟨xs,n,_,hy,hlen,hxl,hf⟩:=DataW.trod_struct Tryz.underlying117 h
 rw[cells117] at hlen
 match xs,hxl with
 | [y0,y1,y2],_ =>
  have u0:DataW.trod enc Tryz.prog W 0 (fun _=>true) true n 9 ((cs.drop 0).take (Tryz.prog.cellsOf 9))=some y0:=hf 0 _ rfl
  have u1:DataW.trod enc Tryz.prog W 0 (fun _=>true) true n 89 ((cs.drop 1).take (Tryz.prog.cellsOf 89))=some y1:=hf 1 _ rfl
  have u2:DataW.trod enc Tryz.prog W 0 (fun _=>true) true n 89 ((cs.drop 21).take (Tryz.prog.cellsOf 89))=some y2:=hf 2 _ rfl
  rw[cells9,List.drop_zero] at u0
  rw[cells89] at u1 u2
  obtain⟨l1,e0⟩:=Zq u0
  obtain⟨z1,e1,w1⟩:=open_id u1
  obtain⟨z2,e2,w2⟩:=open_id u2
  refine⟨⟨l1,z1,z2⟩,?_,trivial,w1,w2⟩
  have s0:cs=cs.take 1++cs.drop 1:=(List.take_append_drop _ _).symm
  have s1:cs.drop 1=(cs.drop 1).take 20++cs.drop 21:=by
   have:=(List.take_append_drop 20 (cs.drop 1)).symm
   rwa [List.drop_drop] at this
  have s2:cs.drop 21=(cs.drop 21).take 20:=(List.take_of_length_le (by rw[List.length_drop];omega)).symm
  rw[s0,s1,s2,e0,e1,e2]
  rfl
theorem list_ofG {α:Type} (d:α) {p:Nat->α->Prop} : ∀ n:Nat,(∀ i,i<n->∃ z,p i z)->∃ l:List α,l.length=n/\∀ i,i<n->p i (l.getD i d)
 | 0,_=>⟨[],rfl,fun i hi=>by omega⟩
 | n+1,h=>by
  obtain⟨l,h1,h2⟩:=list_ofG d n (fun i hi=>h i (by omega))
  obtain⟨z,hz⟩:=h n (by omega)
  refine⟨l++[z],by simp[h1],fun i hi=>?_⟩
  rcases Nat.lt_or_ge i n with h3 | h3
  ·have e:(l++[z]).getD i d=l.getD i d:=by
    rw[List.getD_eq_getElem?_getD,List.getD_eq_getElem?_getD,List.getElem?_append_left (by omega)]
   rw[e]
   exact h2 i h3
  ·have e:i=n:=by omega
   subst e
   have e2:(l++[z]).getD i d=z:=by
    rw[List.getD_eq_getElem?_getD,List.getElem?_append_right (by omega),h1,Nat.sub_self]
    rfl
   rw[e2]
   exact hz
theorem open_all {α:Type} {enc':α->List Value} {k:Nat} {d:α} {P:α->Prop} {H:Type} {enc:TypeId × Value->H} {W:World} {m:Nat} {v:Value} {y:DataW H × List MemPlace} {t e:TypeId} (ht:Tryz.prog.underlying t=some (.slice e)) (hk:Tryz.prog.cellsOf e=k) (hk0:0<k) (hl:∀ x,P x->(enc' x).length=k)
  (ho:∀ {m:Nat} {cs:List Value} {y:DataW H × List MemPlace},DataW.trod enc Tryz.prog W 0 (fun _=>true) true m e cs=some y->∃ x,cs=enc' x/\P x)
  (h:DataW.trod enc Tryz.prog W 0 (fun _=>true) true m t [v]=some y) :
  ∃ (pa:Option Addr) (pc:Nat) (l:List α),v=.slice pa l.length pc/\Px enc' k d W pa pc l/\∀ x ∈ l,P x:=by
 rcases Go.Deep.open_slice ht h with ⟨h0,_⟩ | ⟨a,len,cap,m,n,D,Pl,hc,hb,hlc,hm,hmm,rfl,hx⟩
 ·simp only[List.cons.injEq,and_true] at h0
  subst h0
  exact⟨none,0,[],rfl,⟨Nat.le_refl _,(fun h=>by cases h),fun _=>rfl⟩,(fun x hx=>by cases hx)⟩
 ·simp only[List.cons.injEq,and_true] at hc
  subst hc
  simp only[if_true] at hmm
  obtain⟨b,off,spot⟩:=a
  obtain⟨l,h1,h2⟩:=list_ofG d (p:=fun i z=>P z/\∀ j v,(enc' z)[j]? = some v->W.cell? (((⟨b,off,spot⟩:Addr).add (i*k)).add j)=some v) len (fun i hi=>by
   obtain⟨cs',g1,g2⟩:=hx i (by omega)
   rw[hk] at g1
   obtain⟨_,hlen,hcell⟩:=World.cells?_some g1
   obtain⟨z,e1,e2⟩:=ho g2
   refine⟨z,e2,fun j u hu=>?_⟩
   have hj:j<k:=by rw[<-hl z e2];exact(List.getElem?_eq_some_iff.1 hu).1
   rw[hcell j hj,e1]
   exact hu)
  have hw2:∀ x ∈ l,P x:=fun x hx=>by
   obtain⟨i,hi,e⟩:=List.getElem_of_mem hx
   have:=(h2 i (by omega)).1
   rw[List.getD_eq_getElem?_getD,List.getElem?_eq_getElem hi] at this
   simp only[Option.getD_some] at this
   rw[e] at this
   exact this
  refine⟨some ⟨b,off,spot⟩,cap,l,by rw[h1],⟨by rw[h1];exact hlc,fun h0=>?_,fun e=>by cases e⟩,hw2⟩
  rw[h1] at h0
  have hp0:=h2 0 h0
  have hl0:=hl _ hp0.1
  obtain⟨v0,hv0⟩:∃ v,(enc' (l.getD 0 d))[0]? = some v:=⟨_,List.getElem?_eq_getElem (by omega)⟩
  have c0:W.cell? (((⟨b,off,spot⟩:Addr).add (0*k)).add 0)=some v0:=hp0.2 0 _ hv0
  have hspot:spot=none:=by simpa [Addr.add] using World.cell?_spot c0
  subst hspot
  refine⟨b,off,rfl,?_,fun i hi j v hv=>?_⟩
  ·have:=cell_lt c0
   simpa [Addr.add] using this
  ·rw[h1] at hi
   have:=(h2 i hi).2 j v hv
   rw[yV,yV] at this
   exact this
theorem open_bool {H:Type} {enc:TypeId × Value->H} {W:World} {m:Nat} {cs:List Value} {y:DataW H × List MemPlace} (h:DataW.trod enc Tryz.prog W 0 (fun _=>true) true m 4 cs=some y) :
  ∃ b:Bool,cs=[.bool b]:=by
 obtain⟨b,e,_⟩:=DataW.trod_bool Tryz.underlying4 h
 exact⟨b,e⟩
set_option maxRecDepth 100000 in
theorem open_per {H:Type} {enc:TypeId × Value->H} {W:World} {m:Nat} {cs:List Value} {y:DataW H × List MemPlace} (h:DataW.trod enc Tryz.prog W 0 (fun _=>true) true m 38 cs=some y) :
  ∃ p:Per,cs=(xq p).toList:=by
 obtain⟨xs,n,_,hy,hlen,hxl,hf⟩:=DataW.trod_struct Tryz.underlying38 h
 rw[cells38] at hlen
 match cs,hlen with
 | [v0,v1,v2,v3],_ =>
 match xs,hxl with
 | [y0,y1,y2,y3],_ =>
  have u0:DataW.trod enc Tryz.prog W 0 (fun _=>true) true n 9 ((([v0,v1,v2,v3] : List Value).drop 0).take (Tryz.prog.cellsOf 9))=some y0:=hf 0 _ rfl
  have u1:DataW.trod enc Tryz.prog W 0 (fun _=>true) true n 9 ((([v0,v1,v2,v3] : List Value).drop 1).take (Tryz.prog.cellsOf 9))=some y1:=hf 1 _ rfl
  have u2:DataW.trod enc Tryz.prog W 0 (fun _=>true) true n 2 ((([v0,v1,v2,v3] : List Value).drop 2).take (Tryz.prog.cellsOf 2))=some y2:=hf 2 _ rfl
  have u3:DataW.trod enc Tryz.prog W 0 (fun _=>true) true n 3 ((([v0,v1,v2,v3] : List Value).drop 3).take (Tryz.prog.cellsOf 3))=some y3:=hf 3 _ rfl
  simp only[cells9,cells2,cells3,List.drop,List.take] at u0 u1 u2 u3
  obtain⟨l0,e0⟩:=Zq u0
  obtain⟨l1,e1⟩:=Zq u1
  obtain⟨t,e2,_⟩:=DataW.trod_int Tryz.underlying2 u2
  obtain⟨z,e3,_⟩:=DataW.trod_int Tryz.underlying3 u3
  simp only[List.cons.injEq,and_true] at e0 e1 e2 e3
  subst e0 e1 e2 e3
  exact⟨⟨l0,l1,t,z⟩,rfl⟩
theorem bounds_i64 {n:Int} (h:(Lit.int .i64 n).wf=true) : -9223372036854775808<=n/\n<=9223372036854775807:=by
 simp[Lit.wf,IntKind.min,IntKind.max,IntKind.signed,IntKind.bits] at h
 omega
def StI (W:World) (s:Ls):Prop:=Px qz 41 dMv W s.a s.c s.ms/\(∀ m ∈ s.ms,xw m)/\(-9223372036854775808<=s.n/\s.n<=9223372036854775807)
set_option maxRecDepth 100000 in
theorem open_step {H:Type} {enc:TypeId × Value->H} {W:World} {m:Nat} {cs:List Value} {y:DataW H × List MemPlace} (h:DataW.trod enc Tryz.prog W 0 (fun _=>true) true m 41 cs=some y) :
  ∃ s:Ls,cs=uX s/\StI W s:=by
 obtain⟨xs,n,_,hy,hlen,hxl,hf⟩:=DataW.trod_struct Tryz.underlying41 h
 rw[cells41] at hlen
 match cs,hlen with
 | [v0,v1,v2,v3,v4,v5,v6,v7,v8,v9,v10,v11,v12,v13,v14],_ =>
 match xs,hxl with
 | [y0,y1,y2,y3,y4,y5,y6,y7,y8,y9,y10,y11],_ =>
  obtain⟨cs,hcs⟩:∃ cs,([v0,v1,v2,v3,v4,v5,v6,v7,v8,v9,v10,v11,v12,v13,v14] : List Value)=cs:=⟨_,rfl⟩
  rw[hcs] at hf
  have u0:DataW.trod enc Tryz.prog W 0 (fun _=>true) true n 3 ((cs.drop 0).take (Tryz.prog.cellsOf 3))=some y0:=hf 0 _ rfl
  have u1:DataW.trod enc Tryz.prog W 0 (fun _=>true) true n 36 ((cs.drop 1).take (Tryz.prog.cellsOf 36))=some y1:=hf 1 _ rfl
  have u2:DataW.trod enc Tryz.prog W 0 (fun _=>true) true n 4 ((cs.drop 2).take (Tryz.prog.cellsOf 4))=some y2:=hf 2 _ rfl
  have u3:DataW.trod enc Tryz.prog W 0 (fun _=>true) true n 38 ((cs.drop 3).take (Tryz.prog.cellsOf 38))=some y3:=hf 3 _ rfl
  have u4:DataW.trod enc Tryz.prog W 0 (fun _=>true) true n 9 ((cs.drop 7).take (Tryz.prog.cellsOf 9))=some y4:=hf 4 _ rfl
  have u5:DataW.trod enc Tryz.prog W 0 (fun _=>true) true n 9 ((cs.drop 8).take (Tryz.prog.cellsOf 9))=some y5:=hf 5 _ rfl
  have u6:DataW.trod enc Tryz.prog W 0 (fun _=>true) true n 9 ((cs.drop 9).take (Tryz.prog.cellsOf 9))=some y6:=hf 6 _ rfl
  have u7:DataW.trod enc Tryz.prog W 0 (fun _=>true) true n 3 ((cs.drop 10).take (Tryz.prog.cellsOf 3))=some y7:=hf 7 _ rfl
  have u8:DataW.trod enc Tryz.prog W 0 (fun _=>true) true n 3 ((cs.drop 11).take (Tryz.prog.cellsOf 3))=some y8:=hf 8 _ rfl
  have u9:DataW.trod enc Tryz.prog W 0 (fun _=>true) true n 3 ((cs.drop 12).take (Tryz.prog.cellsOf 3))=some y9:=hf 9 _ rfl
  have u10:DataW.trod enc Tryz.prog W 0 (fun _=>true) true n 39 ((cs.drop 13).take (Tryz.prog.cellsOf 39))=some y10:=hf 10 _ rfl
  have u11:DataW.trod enc Tryz.prog W 0 (fun _=>true) true n 39 ((cs.drop 14).take (Tryz.prog.cellsOf 39))=some y11:=hf 11 _ rfl
  subst hcs
  simp only[cells9,cells3,cells4,cells36,cells38,cells39,List.drop,List.take] at u0 u1 u2 u3 u4 u5 u6 u7 u8 u9 u10 u11
  obtain⟨k,e0,_⟩:=DataW.trod_int Tryz.underlying3 u0
  obtain⟨pa,pc,ms,e1,hP,hM⟩:=open_all (enc':=qz) (k:=41) (d:=dMv) (P:=xw) Tryz.underlying36 cells117 (by omega) (fun x hx=>uW hx) (fun g=>open_chg g) u1
  obtain⟨bb,e2⟩:=open_bool u2
  obtain⟨pe,e3⟩:=open_per u3
  obtain⟨l4,e4⟩:=Zq u4
  obtain⟨l5,e5⟩:=Zq u5
  obtain⟨l6,e6⟩:=Zq u6
  obtain⟨n7,e7,_,w7⟩:=DataW.trod_int Tryz.underlying3 u7
  obtain⟨n8,e8,_⟩:=DataW.trod_int Tryz.underlying3 u8
  obtain⟨n9,e9,_⟩:=DataW.trod_int Tryz.underlying3 u9
  obtain⟨n10,e10,_⟩:=DataW.trod_int Tryz.underlying39 u10
  obtain⟨n11,e11,_⟩:=DataW.trod_int Tryz.underlying39 u11
  simp only[List.cons.injEq,and_true] at e0 e2 e4 e5 e6 e7 e8 e9 e10 e11
  subst e0 e1 e2 e4 e5 e6 e7 e8 e9 e10 e11
  refine⟨⟨k,pa,pc,ms,bb,pe,l4,l5,l6,n7,n8,n9,n10,n11⟩,?_,hP,hM,bounds_i64 w7⟩
  have e3':v3 :: v4 :: v5 :: [v6]=(xq pe).toList:=e3
  simp only[xq,List.cons.injEq,and_true] at e3'
  obtain⟨f1,f2,f3,f4⟩:=e3'
  subst f1 f2 f3 f4
  rfl
theorem params3:Tryz.f3.params=#[22,9]:=by kernel_rfl
set_option maxRecDepth 100000 in
theorem contract (H:Type) (enc:TypeId × Value->H) (W:World) (base:Nat) (args:Array Value) (ds gs:List (DataW H)) (before:List MemPlace)
  (hval:∀ (j:Nat) t v,Tryz.f3.params[j]? = some t->args[j]? = some v->Value.okWide Tryz.prog W .any base t v)
  (hW:DataW.Whole enc Tryz.prog Tryz.f3.params.toList Rows.refsKeepSpec.vars false W args.toList ds gs before)
  (hL:laidMetH Tryz.prog Rows.refsKeepRow.laid W) (hsh:W.ShapedOpen Tryz.prog) :
  Calls Tryz.prog 3 args W fun e W'=>∃ v,e=.returned v/\Rows.refsKeepSpec.post enc Tryz.prog Tryz.f3 false true false false W args v W':=by
 have hW':=hW
 obtain⟨p,q,hA0,hV,rfl,hfz,hnd⟩:=hW
 have hA:DataW.TrodAll enc Tryz.prog W 0 (fun _=>true) true Tryz.f3.params.toList args.toList ds p:=hA0
 rw[params3] at hA hval
 obtain⟨v0,vs0,d0,ds0,p0,q0,hargs,rfl,rfl,h0,r0⟩:=trodAll_cons hA
 obtain⟨v1,vs1,d1,ds1,p1,q1,rfl,rfl,rfl,h1,r1⟩:=trodAll_cons r0
 obtain⟨rfl,rfl,rfl⟩:=trodAll_nil r1
 obtain rfl:args=#[v0,v1]:=by cases args;simp_all
 obtain⟨rfl,rfl⟩:=trodVars_none hV
 have k0:=h0
 have k1:=h1
 have lt0:∀ x ∈ p0,x.block<W.heap.size:=by obtain⟨m,hm⟩:=k0;exact DataW.trod_lt m _ _ _ hm
 have lt1:∀ x ∈ p1,x.block<W.heap.size:=by obtain⟨m,hm⟩:=k1;exact DataW.trod_lt m _ _ _ hm
 obtain⟨a0,n0,c0,rfl⟩:=okWide_slice Tryz.underlying22 (hval 0 22 v0 rfl rfl)
 obtain⟨a,cap,l,e0,hpx,hfit⟩:∃ (pa:Option Addr) (pc:Nat) (l:List Ls),Value.slice a0 n0 c0=.slice pa l.length pc/\Px uX 15 dT0 W pa pc l/\∀ s ∈ l,StI W s:=by
  obtain⟨fuel,hf⟩:=h0
  exact open_all (enc':=uX) (k:=15) (d:=dT0) (P:=StI W) (y:=(d0,p0)) Tryz.underlying22 cells41 (by omega) (fun x hx=>rfl) (fun g=>open_step g) hf
 obtain⟨S1,rfl⟩:=okWide_string Tryz.underlying9 (hval 1 9 v1 rfl rfl)
 clear hA0
 have hgb:Gb W:=⟨tab_of_laid hL,ers_of_laid hL,shapedMx hsh,db_of_laid hL,ec_of_laid hL,handle_of_laid hL⟩
 have walk:Calls Tryz.prog 3 #[.slice a0 n0 c0,.string S1] W fun e w'=>e=.returned (.bool true)/\Below W.heap.size W w':=by
  rw[e0]
  have:=law_any a cap l S1.data.toList W hpx (fun s hs=>hfit s hs) hgb
  exact this
 refine walk.mono fun e W' ⟨he,bel⟩=>?_
 subst he
 exact⟨_,rfl,_,_,_,[],_,[],hW',trodAll_mk1 (shut_bool Tryz.underlying4 _),(trodAll_cons_mk (Below.trod laidOut (by kernel_rfl) (of_decide_eq_true (by kernel_rfl)) k0 bel lt0) (trodAll_cons_mk (Below.trod laidOut (by kernel_rfl) (of_decide_eq_true (by kernel_rfl)) k1 bel lt1) trodAll_mk0)),rfl,bel.frame _,fun h=>by cases h⟩
def relay (cs:Array Value):Obj->Obj
 | .cells _ t frozen=>.cells cs t frozen
 | o=>o
def layIn (w:World):World :=
 { w with heap:=(((((((((w.heap.modify 0 (relay #[.iface 198 (.agg #[.pointer (some ⟨10,55,none⟩)])])).modify 3 (relay #[.int .u64 1,.int .u64 10,.int .u64 100,.int .u64 1000,.int .u64 10000,.int .u64 100000,.int .u64 1000000,.int .u64 10000000,.int .u64 100000000,.int .u64 1000000000,.int .u64 10000000000,.int .u64 100000000000,.int .u64 1000000000000,.int .u64 10000000000000,.int .u64 100000000000000,.int .u64 1000000000000000,.int .u64 10000000000000000,.int .u64 100000000000000000,.int .u64 1000000000000000000,.int .u64 10000000000000000000])).modify 8 (relay #[.int .u8 0,.int .u8 1,.int .u8 28,.int .u8 2,.int .u8 29,.int .u8 14,.int .u8 24,.int .u8 3,.int .u8 30,.int .u8 22,.int .u8 20,.int .u8 15,.int .u8 25,.int .u8 17,.int .u8 4,.int .u8 8,.int .u8 31,.int .u8 27,.int .u8 13,.int .u8 23,.int .u8 21,.int .u8 19,.int .u8 16,.int .u8 7,.int .u8 26,.int .u8 12,.int .u8 18,.int .u8 6,.int .u8 11,.int .u8 5,.int .u8 10,.int .u8 9])).modify 9 (relay #[.int .u8 0,.int .u8 1,.int .u8 56,.int .u8 2,.int .u8 57,.int .u8 49,.int .u8 28,.int .u8 3,.int .u8 61,.int .u8 58,.int .u8 42,.int .u8 50,.int .u8 38,.int .u8 29,.int .u8 17,.int .u8 4,.int .u8 62,.int .u8 47,.int .u8 59,.int .u8 36,.int .u8 45,.int .u8 43,.int .u8 51,.int .u8 22,.int .u8 53,.int .u8 39,.int .u8 33,.int .u8 30,.int .u8 24,.int .u8 18,.int .u8 12,.int .u8 5,.int .u8 63,.int .u8 55,.int .u8 48,.int .u8 27,.int .u8 60,.int .u8 41,.int .u8 37,.int .u8 16,.int .u8 46,.int .u8 35,.int .u8 44,.int .u8 21,.int .u8 52,.int .u8 32,.int .u8 23,.int .u8 11,.int .u8 54,.int .u8 26,.int .u8 40,.int .u8 15,.int .u8 34,.int .u8 20,.int .u8 31,.int .u8 10,.int .u8 25,.int .u8 14,.int .u8 19,.int .u8 9,.int .u8 13,.int .u8 8,.int .u8 7,.int .u8 6])).modify 4 (relay #[.iface 339 (.pointer (some ⟨w.heap.size,0,none⟩))])).modify 5 (relay #[.iface 339 (.pointer (some ⟨w.heap.size+1,0,none⟩))])).modify 6 (relay (Pinned.utf8FirstZ.map fun (n:Nat)=>Value.int .u8 (n:Int)).toArray)).modify 7 (relay #[.int .u8 128,.int .u8 191,.int .u8 160,.int .u8 191,.int .u8 128,.int .u8 159,.int .u8 144,.int .u8 191,.int .u8 128,.int .u8 143,.int .u8 0,.int .u8 0,.int .u8 0,.int .u8 0,.int .u8 0,.int .u8 0,.int .u8 0,.int .u8 0,.int .u8 0,.int .u8 0,.int .u8 0,.int .u8 0,.int .u8 0,.int .u8 0,.int .u8 0,.int .u8 0,.int .u8 0,.int .u8 0,.int .u8 0,.int .u8 0,.int .u8 0,.int .u8 0])).modify 1 (relay #[.iface 339 (.pointer (some ⟨w.heap.size+2,0,none⟩))])) ++ #[.cells #[.string ⟨#[105,110,118,97,108,105,100,32,115,121,110,116,97,120]⟩] 341,.cells #[.string ⟨#[118,97,108,117,101,32,111,117,116,32,111,102,32,114,97,110,103,101]⟩] 341,.cells #[.string ⟨#[114,101,102,115,58,32,97,32,98,108,111,99,107,32,119,97,115,32,99,117,116,32,115,104,111,114,116]⟩] 341] }
def wit:Array Value:=#[.slice none 0 0,.string ⟨#[]⟩]
theorem laid_met (os:Os):laidMetH Tryz.prog Rows.refsKeepRow.laid ((layIn (World.holding Tryz.prog os ⟨#[],#[],[]⟩)).forCall (fun _ _=>0) ⟨#[],wit,[]⟩).memory :=
 laidMetH_of_parts (laidMet_of_run' 8 (by kernel_rfl) (by kernel_rfl)) (by kernel_rfl)
theorem reads (os:Os) {H:Type} (enc:TypeId × Value->H):∃ ds places,DataW.whole enc Tryz.prog ((layIn (World.holding Tryz.prog os ⟨#[],#[],[]⟩)).forCall (fun _ _=>0) ⟨#[],wit,[]⟩).memory Tryz.f3.params.toList Rows.refsKeepSpec.vars false wit.toList 8=some (ds,[],places) :=
 ⟨[.nil,.lit (.string [])],[],by kernel_rfl⟩
set_option maxRecDepth 100000 in
theorem lifted (os:Os) (started:os.Started) (H:Type) (enc:TypeId × Value->H) (F:Stop.Interp) :
  ReturnsInHanded {} Tryz.checked os 3 .any ((OpenSpec.ofChange Rows.refsKeepSpec).preRow enc Tryz.prog Tryz.f3 Rows.refsKeepRow.domain false Rows.refsKeepRow.laid) (((OpenSpec.ofChange Rows.refsKeepSpec).at F).post enc Tryz.prog Tryz.f3 false true false false):=by
 obtain⟨ds,places,hx⟩:=reads os enc
 refine returnsInHanded_of_row (C:=Tryz.checked) (s:=OpenSpec.ofChange Rows.refsKeepSpec) own started (by kernel_rfl) Tryz.func3
  (witness_row_at (enc:=enc) (C:=Tryz.checked) false (layIn (World.holding Tryz.prog os ⟨#[],#[],[]⟩)) wit rfl (by kernel_rfl) (by kernel_rfl) (by kernel_rfl)
   (OpenSpec.preRow_of_cond 8 hx (by kernel_rfl) (fun k hk=>by cases hk) (by kernel_rfl) (laid_met os))) ?_
 intro W base args ds gs before hval hW _ _ hsz hL hsh _
 exact contract H enc W base args ds gs before hval hW hL hsh
theorem said:Rows.RefsKeepSaid :=
 OpenClaim.holds_of_cond 3 Tryz.f3 rfl rfl rfl rfl rfl rfl rfl ⟨rfl,rfl,rfl,rfl,rfl⟩ rfl rfl rfl rfl rfl (by kernel_rfl) Tryz.func3 (by kernel_rfl)
  (of_decide_eq_true (by kernel_rfl)) (by unfold Func.isWrapper;first | (rw[if_pos (by decide +kernel)];kernel_rfl) | (rw[if_neg (by decide +kernel)];exact⟨rfl,rfl⟩))
  (fun os started H enc _ F=>by rw[OpenClaim.pre_eq_preRow];exact lifted os started H enc F)
theorem plain (f:FuncId) (fn:Func) (hf:Tryz.pinned.checked.prog.funcNamed "gitlike/gitlikelaw7.RefsKeep" = some f) (hfn:Tryz.pinned.checked.prog.funcs[f]? = some fn) :
  true=Tryz.pinned.checked.prog.looks []/\∀ (j:Nat) t,fn.params[j]? = some t->Tryz.pinned.checked.prog.wantsStandIn t=false:=by
 obtain rfl:f=3:=Option.some.inj ((show Tryz.prog.funcNamed "gitlike/gitlikelaw7.RefsKeep" = some 3 by kernel_rfl).symm.trans hf) |>.symm
 obtain rfl:fn=Tryz.f3:=(Option.some.inj (Tryz.func3.symm.trans hfn)).symm
 refine⟨by kernel_rfl,fun j t ht=>?_⟩
 rw[params3] at ht
 have hm:t=22 ∨ t=9:=by simpa using Array.mem_of_getElem? ht
 rcases hm with rfl | rfl
 ·exact(show Tryz.prog.wantsStandIn 22=false by kernel_rfl)
 ·exact(show Tryz.prog.wantsStandIn 9=false by kernel_rfl)
end Go.Proofs.YtgliaiemkfopeaaGreatDoor.K.Keep
namespace Go.Proofs.YtgliaiemkfopeaaGreatDoor
theorem refsKeep_card:Rows.RefsKeepCardSaid :=
 Claim7.holds_tied_plain_at .later [] _ _ _ _ K.Keep.said (fun _ h=>by cases h) (by kernel_rfl) (fun _ h=>by cases h) refsKeep_row_tie rfl ⟨rfl,rfl⟩ (by kernel_rfl) rfl K.Keep.plain (by kernel_rfl)
#print axioms refsKeep_card
end Go.Proofs.YtgliaiemkfopeaaGreatDoor
