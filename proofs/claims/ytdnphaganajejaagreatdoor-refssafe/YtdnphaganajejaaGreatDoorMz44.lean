import Derived.Test.YtdnphaganajejaaGreatDoorMz43
import Derived.Test.YtdnphaganajejaaGreatDoorCards
import Derived.Test.YtdnphaganajejaaGreatDoorTie
set_option linter.unusedSectionVars false
set_option linter.unusedVariables false
set_option maxRecDepth 20000
set_option maxHeartbeats 4000000
open Array renaming toList_inj->WvJ
open List renaming cons->WvK,drop->WvV,mem_filter->WqX,mem_range->Wx5,mem_singleton->Wqk,range->Wyz,take->WvW,take_append_drop->WxZ
open Nat renaming lt_or_ge->Wy4
open Option renaming bind_eq_some_iff->WvY,map_eq_some_iff->Wu0,some->Wq8
namespace Go.Proofs.YtdnphaganajejaaGreatDoor.K.Safe
open Go.Proofs.Tryz
open Go.ChangeShapes Go.WideShapes Go.ChangeAt Go.RowKit
theorem own:ownKnob prog.godebug=none:=by kernel_rfl
theorem O1:laidOutB prog=true:=by kernel_rfl
theorem et:prog.globalNamed "errors.errorType" = some 0:=by kernel_rfl
theorem rt:(prog.cutTypes.find? (·.1 == "internal/reflectlite.rtype")).map (·.2)=some 179:=by kernel_rfl
theorem qjv:((Wyz 369).filter fun t=>prog.rowNamed t [101,114,114,111,114])=[27]:=by kernel_rfl
theorem tsize:prog.types.size=369:=by kernel_rfl
theorem ptype:(prog.globals[3]?).map (·.type)=some 318:=by kernel_rfl
theorem c237:prog.cellsOf 237=1:=by kernel_rfl
theorem c318:prog.cellsOf 318=20:=by kernel_rfl
theorem qV {P:Program}{W:World}{n:String}{d:DataW Unit}{r:List (String × DataW Unit)}(h:laidMet P ((n,d) :: r) W):laidMet P r W:=by
 obtain⟨ps,⟨g,t,cs,fuel,p,q,_,_,_,_,D,rfl⟩,A,j⟩:=h;exact⟨q,D,(List.nodup_append.1 A).2.1,fun b off hb=>j b off (List.mem_append.2 (.inr hb))⟩
def zk0:List Int:=[0,1,56,2,57,49,28,3,61,58,42,50,38,29,17,4,62,47,59,36,45,43,51,22,53,39,33,30,24,18,12,5,63,55,48,27,60,41,37,16,46,35,44,21,52,32,23,11,54,26,40,15,34,20,31,10,25,14,19,9,13,8,7,6]
def zk1:List (String × DataW Unit):=[("math/bits.deBruijn32tab", Rows.laid_math_bits_deBruijn32tab),("math/bits.deBruijn64tab", Lib.tabData .u8 zk0),("internal/strconv.uint64pow10", Lib.tabData .u64 Lib.pow10Tab),("unicode/utf8.acceptRanges", Rows.laid_unicode_utf8_acceptRanges),("strconv.ErrRange", Rows.laid_strconv_ErrRange),("strconv.ErrSyntax", Rows.laid_strconv_ErrSyntax),("gitlike/refs.errCut", Rows.laid_gitlike_refs_errCut),("unicode/utf8.first", Rows.laid_unicode_utf8_first)]
def E4:List (String × DataW Unit):=[("errors.errorType", Rows.laid_errors_errorType)]
theorem Yu {W:World}(h:laidMetH prog Rows.refsSafeRow.laid W):laidMet prog zk1 W/\handlesMet prog E4 W:=h
theorem Hy {W:World}(h:laidMetH prog Rows.refsSafeRow.laid W):W.cell? ⟨0,0,none⟩=some (.iface 179 (.agg #[.pointer (some ⟨10,27,none⟩)])):=by
 obtain⟨name,u,ty,e1,D,G,I,j⟩:=(Yu h).2 _ (Wqk.2 rfl);have J:name=[101,114,114,111,114]:=(Wq8.inj e1).symm;subst J;obtain rfl:=Wq8.inj (rt.symm.trans D);have A:ty ∈ (Wyz 369).filter fun t=>prog.rowNamed t [101,114,114,111,114]:=WqX.2 ⟨Wx5.2 (by rw[<-tsize];exact G),I⟩;rw[qjv] at A
 obtain rfl:=Wqk.1 A;have K:typeHandle prog 27=.pointer (some ⟨10,27,none⟩):=by kernel_rfl
 rw[K] at j;simpa using World.var?_cell et j 0
theorem qyW:prog.globalNamed "internal/strconv.uint64pow10" = some 3:=by kernel_rfl
theorem D1 {W:World}(h:laidMetH prog Rows.refsSafeRow.laid W):Tab W :=
 Lib.tabIs_of_head qyW ptype underlying318 underlying237 c237 c318 (qV (qV (Yu h).1))
theorem zk2 {W:World}(h:W.ShapedOpen prog):Mx W :=
 Go.Proofs.cell_of_shapedOpen_int (zero:=#[.int .i64 0]) (t:=3) h (of_decide_eq_true (by kernel_rfl)) (by kernel_rfl) rfl (by kernel_rfl) (by kernel_rfl) underlying3
theorem cell_lt {w:World}{a:Addr}{v:Value}(h:w.cell? a=some v):a.block<w.heap.size:=by
 rcases Wy4 a.block w.heap.size with j | j
 ·exact j
 simp[World.cell?,Array.getElem?_eq_none j] at h
theorem Hu {H:Type}{enc:TypeId × Value->H}{P:Program}{w:World}{base:Nat}{spare:Nat->Bool}{held:Bool}{fuel:Nat}{t:TypeId}{cs:List Value}{x:DataW H × List MemPlace}{ms:Array (String × TypeId)}(j:P.underlying t=some (.interface ms))
  (h:DataW.trod enc P w base spare held fuel t cs=some x):cs=[.nilIface] ∨ ∃ u v,cs=[.iface u v]:=by
 cases fuel with
 | zero=>simp[DataW.trod] at h
 | succ n =>
  unfold DataW.trod at h;rw[j] at h;split at h <;> simp_all
theorem Xx {P:Program}{W:World}{n:String}{d:DataW Unit}{r:List (String × DataW Unit)}{g:Nat}{t:TypeId}{ms:Array (String × TypeId)}(D:P.globalNamed n=some g)(K:(P.globals[g]?).map (·.type)=some t)(L:P.underlying t=some (.interface ms))
  (h:laidMet P ((n,d) :: r) W):∃ j,W.cell? ⟨g,0,none⟩=some j/\(j=.nilIface ∨ ∃ O M,j=.iface O M):=by
 obtain⟨ps,⟨Q,Z,cs,fuel,p,q,e1,G,I,J,Y,rfl⟩,V,A⟩:=h;obtain rfl:=Wq8.inj (D.symm.trans e1);obtain rfl:=Wq8.inj (K.symm.trans G);have hc:=World.var?_cell D I 0;rcases Hu L J with h | ⟨u,v,h⟩
 ·have:cs=#[.nilIface]:=WvJ.1 (by simpa using h);subst this;exact⟨_,by simpa using hc,.inl rfl⟩
 have:cs=#[.iface u v]:=WvJ.1 (by simpa using h);subst this;exact⟨_,by simpa using hc,.inr ⟨u,v,rfl⟩⟩
theorem g5:prog.globalNamed "strconv.ErrSyntax" = some 4:=by kernel_rfl
theorem g6:prog.globalNamed "strconv.ErrRange" = some 5:=by kernel_rfl
theorem g1:prog.globalNamed "gitlike/refs.errCut" = some 1:=by kernel_rfl
theorem t5:(prog.globals[4]?).map (·.type)=some 27:=by kernel_rfl
theorem t6:(prog.globals[5]?).map (·.type)=some 27:=by kernel_rfl
theorem t1:(prog.globals[1]?).map (·.type)=some 27:=by kernel_rfl
theorem D2 {W:World}(h:laidMetH prog Rows.refsSafeRow.laid W):Ers W:=by
 have j:=qV (qV (qV (qV (Yu h).1)));exact⟨Xx g5 t5 underlying27 (qV j),Xx g6 t6 underlying27 j⟩
theorem qjw:((Wyz 369).filter fun t=>prog.typeName? 3 t == some "*errors.errorString")=[335]:=by kernel_rfl
theorem zk3:prog.types.size=369:=by kernel_rfl
theorem qyY:((Wyz 369).filter fun t=>prog.typeName? 2 t == some "errors.errorString")=[337]:=by kernel_rfl
theorem E5 {A:TypeId->Option TypeInfo}{d:TypeDesc}{i:TypeInfo}{e:TypeId}(h:Made.reckon A d=some i)(D:i.desc=.pointer e):∃ j,A e=some j/\∀ n r,j.desc ≠ .named n r:=by
 unfold Made.reckon at h;split at h
 ·rename_i e1;simp only[bind,WvY,pure] at h;obtain⟨j,I,h⟩:=h;have hd:i.desc=.pointer e1/\∀ n r,j.desc ≠ .named n r:=by
   split at h
   ·cases h
   ·rename_i hs;split at h
    ·cases h
    simp only[WvY] at h;obtain⟨_,_,h⟩:=h;cases h
    exact⟨rfl,fun n r G=>by rw[hs] at G;cases G⟩
   rename_i G _;simp only[WvY] at h;obtain⟨_,_,h⟩:=h;cases h
   exact⟨rfl,fun n r h=>G n r h⟩
  rw[hd.1] at D;cases D
  exact⟨j,I,hd.2⟩
 all_goals exfalso
 all_goals try simp only[bind,WvY,pure] at h
 all_goals repeat' first
  | (obtain⟨_,_,h⟩:=h)
  | (split at h)
 all_goals first
  | (cases h;cases D;done)
  | (cases h;done)
  | skip
 all_goals first
  | (simp only[WvY] at h;obtain⟨_,_,h⟩:=h;cases h;cases D;done)
  | skip
 all_goals first
  | (simp[Made.word] at D;done)
  | skip
 unfold Made.reckonStruct at h;simp only[bind,WvY,pure] at h;obtain⟨a,_,h⟩:=h;split at h <;> (cases h;simp at D)
theorem NX {P:Program}{u:TypeId}{s:String}{d:Nat}(D:¬ u<P.types.size)(h:P.typeName? (d+1) u=some s):∃ e n,P.typeName? d e=some n/\ "*" ++ n=s/\∃ j,Made.infoAt P.toTables 99 e=some j/\∀ n r,j.desc ≠ .named n r:=by
 unfold Program.typeName? at h;cases hi:P.info? u with
 | none=>simp[hi] at h
 | some i =>
  have hb:=Tables.info?_beyond D hi;simp only[hi] at h;cases hd:i.desc <;> simp only[hd,TypeDesc.tableOnly] at h hb <;> try cases hb
  all_goals try cases h
  rename_i e;simp only[Wu0] at h;obtain⟨G,A,hs⟩:=h;unfold Tables.info? at hi;rw[if_neg D] at hi;unfold Made.depth Made.infoAt at hi;rw[if_neg D] at hi;simp only[WvY] at hi;obtain⟨d,_,hr⟩:=hi;exact⟨e,G,A,hs,E5 hr hd⟩
theorem zk4 {a b:String}(h : "*" ++ a = "*" ++ b):a=b:=by
 have j:=congrArg String.toList h;rw[String.toList_append,String.toList_append] at j;exact String.toList_inj.1 (List.append_cancel_left j)
theorem zk5:(Made.infoAt prog.toTables 99 337).any (fun i=>match i.desc with | .named _ _=>true | _=>false)=true:=by kernel_rfl
theorem zk6 {u:TypeId}(h:prog.typeName? 3 u=some "*errors.errorString"):u=335:=by
 rcases Wy4 u prog.types.size with G | G
 ·rw[zk3] at G;have D:u ∈ (Wyz 369).filter fun t=>prog.typeName? 3 t == some "*errors.errorString" := WqX.2 ⟨Wx5.2 G,by rw[h];decide⟩;rw[qjw] at D;exact Wqk.1 D
 exfalso;obtain⟨e,n,K,L,j,Q,I⟩:=NX (Nat.not_lt.2 G) h;obtain rfl:n = "errors.errorString" := zk4 L;rcases Wy4 e prog.types.size with A | A
 ·rw[zk3] at A;have D:e ∈ (Wyz 369).filter fun t=>prog.typeName? 2 t == some "errors.errorString" := WqX.2 ⟨Wx5.2 A,by rw[K];decide⟩;rw[qyY] at D;obtain rfl:=Wqk.1 D;have J:=zk5;rw[Q] at J;cases hd:j.desc with
  | named n r=>exact I n r hd
  | _=>rw[Option.any_some,hd] at J;cases J
 obtain⟨V,n2,_,M,_⟩:=NX (Nat.not_lt.2 A) K;have O:=congrArg (fun s=>s.toList.head?) M;simp at O
theorem zq6 {P:Program}{W:World}{n nm:String}{d:DataW Unit}{r:List (String × DataW Unit)}{g:Nat}{t:TypeId}{ms:Array (String × TypeId)}(K:P.globalNamed n=some g)(Q:(P.globals[g]?).map (·.type)=some t)(J:P.underlying t=some (.interface ms))
  (h:laidMet P ((n,.iface nm (.ptr d)) :: r) W):∃ u v,W.cell? ⟨g,0,none⟩=some (.iface u v)/\P.typeName? 3 u=some nm/\Value.okWide P W .any 0 u v/\∀ e,P.underlying u=some (.pointer e)->v ≠ .pointer none:=by
 obtain⟨ps,⟨V,Z,cs,fuel,p,q,e1,L,M,A,Y,rfl⟩,I,D⟩:=h;obtain rfl:=Wq8.inj (K.symm.trans e1);obtain rfl:=Wq8.inj (Q.symm.trans L);have hc:=World.var?_cell K M 0;rcases Hu J A with h | ⟨u,v,h⟩
 ·exfalso;rw[h] at A;cases fuel with
  | zero=>simp[DataW.trod] at A
  | succ k =>
   unfold DataW.trod at A;rw[J] at A;simp at A
 have:cs=#[.iface u v]:=WvJ.1 (by simpa using h);subst this;have G:W.cell? ⟨g,0,none⟩=some (.iface u v):=by simpa using hc
 cases fuel with
 | zero=>simp[DataW.trod] at A
 | succ k =>
  rw[h] at A;unfold DataW.trod at A;rw[J] at A;cases I:P.typeName? 3 u with
  | none=>simp[I] at A
  | some name =>
   simp only[I,Wu0,Prod.mk.injEq,DataW.iface.injEq] at A;obtain⟨x,hx,⟨rfl,hd⟩,_⟩:=A;refine⟨u,v,G,I,(D g 0 (by simp[MemPlace.row])).2 u v G,fun e O hv=>?_⟩;subst hv;cases k with
   | zero=>simp[DataW.trod] at hx
   | succ j =>
    unfold DataW.trod at hx;rw[O] at hx;simp[Value.cells] at hx;rw[<-hx] at hd;cases hd
theorem qjy {P:Program}{W:World}{u e:TypeId}{v:Value}(j:P.underlying u=some (.pointer e))(h:Value.okWide P W .any 0 u v)(A:∀ e,P.underlying u=some (.pointer e)->v ≠ .pointer none):∃ a,v=.pointer (some a):=by
 obtain⟨a,rfl⟩:=okWide_pointer j h;cases a with
 | none=>exact absurd rfl (A e j)
 | some a=>exact⟨a,rfl⟩
set_option maxRecDepth 100000 in
theorem D8 {W:World}{d:DataW Unit}{r:List (String × DataW Unit)}(h:laidMet prog (("gitlike/refs.errCut", .iface "*errors.errorString" (.ptr d)) :: r) W):Ec W:=by
 obtain⟨u,v,j,A,D,G⟩:=zq6 g1 t1 underlying27 h;have J:=zk6 A;subst J;obtain⟨a,I⟩:=qjy underlying335 D G;subst I;exact⟨a,j⟩
theorem E6 {W:World}(h:laidMetH prog Rows.refsSafeRow.laid W):Ec W :=
 D8 (qV (qV (qV (qV (qV (qV (Yu h).1))))))
theorem zk7:prog.globalNamed "math/bits.deBruijn64tab" = some 9:=by kernel_rfl
theorem dtype:(prog.globals[9]?).map (·.type)=some 299:=by kernel_rfl
theorem c5:prog.cellsOf 5=1:=by kernel_rfl
theorem c299:prog.cellsOf 299=64:=by kernel_rfl
theorem E7 {W:World}(h:laidMetH prog Rows.refsSafeRow.laid W):Db W:=by
 have j:Lib.TabIs prog W "math/bits.deBruijn64tab" .u8 zk0:=Lib.tabIs_of_head zk7 dtype underlying299 underlying5 c5 c299 (qV (Yu h).1);exact⟨by simpa [zk0] using World.var?_cell zk7 j 15⟩
theorem O3 {p:Int->Prop} : ∀ cs:List Value,(∀ i,i<cs.length->∃ n,cs[i]? = some (.int .u8 n)/\p n)->∃ zs:List Int,cs=row .u8 zs/\zs.length=cs.length/\∀ n ∈ zs,p n
 | [],_=>⟨[],rfl,rfl,fun n J=>by cases J⟩
 | v :: r,h=>by
  obtain⟨n,e,K⟩:=h 0 (by simp);obtain⟨zs,A,D,G⟩:=O3 r (fun i hi=>by
   obtain⟨m,f1,f2⟩:=h (i+1) (by simpa using hi);exact⟨m,by simpa using f1,f2⟩)
  have I:v=.int .u8 n:=by simpa using e
  refine⟨n :: zs,by rw[I,A];rfl,by simp[D],fun m j=>?_⟩;rcases List.mem_cons.1 j with rfl | j
  ·exact K
  exact G m j
theorem D9:prog.cellsOf 116=20:=by kernel_rfl
theorem E8:prog.cellsOf 9=1:=by kernel_rfl
theorem qju:prog.cellsOf 2=1:=by kernel_rfl
theorem zk8:prog.cellsOf 3=1:=by kernel_rfl
theorem qjZ:prog.cellsOf 4=1:=by kernel_rfl
theorem qx0:prog.cellsOf 43=1:=by kernel_rfl
theorem O4:prog.cellsOf 45=4:=by kernel_rfl
theorem qx1:prog.cellsOf 24=1:=by kernel_rfl
theorem O5:prog.cellsOf 47=15:=by kernel_rfl
theorem Dz:prog.cellsOf 118=41:=by kernel_rfl
set_option maxRecDepth 100000 in
theorem O6 {H:Type}{enc:TypeId × Value->H}{W:World}{m:Nat}{cs:List Value}{y:DataW H × List MemPlace}(h:DataW.trod enc prog W 0 (fun _=>true) true m 116 cs=some y) :
  ∃ zs:List Int,cs=row .u8 zs/\IdW zs:=by
 obtain⟨xs,k,_,_,J,hx,I⟩:=DataW.trod_array underlying116 h;rw[D9] at J;obtain⟨zs,e1,M,G⟩:=O3 (p:=fun n=>0<=n/\n<256) cs (fun i hi=>by
  have j:i<20:=by omega
  have A:=I i j;rw[c5,Nat.mul_one,List.getElem?_eq_getElem (by omega)] at A;obtain⟨n,e,_,L⟩:=DataW.trod_int underlying5 A;refine⟨n,?_,?_⟩
  ·have D:(WvW 1 (WvV i cs))[0]? = some (.int .u8 n):=(by rw[e];rfl);rw[List.getElem?_take_of_lt (by omega),List.getElem?_drop,Nat.add_zero] at D;exact D
  have:=bounds_u8 L;omega)
 exact⟨zs,e1,by omega,fun n K=>G n K⟩
theorem ZV {H:Type}{enc:TypeId × Value->H}{W:World}{m:Nat}{cs:List Value}{y:DataW H × List MemPlace}(h:DataW.trod enc prog W 0 (fun _=>true) true m 9 cs=some y) :
  ∃ l:List UInt8,cs=[sV l]:=by
 obtain⟨s,e,rfl,_⟩:=DataW.trod_string underlying9 h;exact⟨s.data.toList,e⟩
set_option maxRecDepth 100000 in
theorem zk9 {H:Type}{enc:TypeId × Value->H}{W:World}{m:Nat}{cs:List Value}{y:DataW H × List MemPlace}(h:DataW.trod enc prog W 0 (fun _=>true) true m 118 cs=some y) :
  ∃ x:Mv1,cs=qj x/\xu x:=by
 obtain⟨xs,n,_,hy,hlen,A,j⟩:=DataW.trod_struct underlying118 h;rw[Dz] at hlen;match xs,A with
 | [y0,y1,y2],_ =>
  have D:DataW.trod enc prog W 0 (fun _=>true) true n 9 ((cs.drop 0).take (prog.cellsOf 9))=some y0:=j 0 _ rfl;have G:DataW.trod enc prog W 0 (fun _=>true) true n 116 ((cs.drop 1).take (prog.cellsOf 116))=some y1:=j 1 _ rfl;have I:DataW.trod enc prog W 0 (fun _=>true) true n 116 ((cs.drop 21).take (prog.cellsOf 116))=some y2:=j 2 _ rfl
  rw[E8,List.drop_zero] at D;rw[D9] at G I;obtain⟨L,J⟩:=ZV D;obtain⟨z1,e1,w1⟩:=O6 G;obtain⟨z2,K,w2⟩:=O6 I;refine⟨⟨L,z1,z2⟩,?_,trivial,w1,w2⟩;have M:cs=cs.take 1++cs.drop 1:=(WxZ _ _).symm;have O:cs.drop 1=(cs.drop 1).take 20++cs.drop 21:=by
   have:=(WxZ 20 (cs.drop 1)).symm;rwa [List.drop_drop] at this
  have Q:cs.drop 21=(cs.drop 21).take 20:=(List.take_of_length_le (by rw[List.length_drop];omega)).symm;rw[M,O,Q,J,e1,K];rfl
theorem Dj {α:Type}(d:α){p:Nat->α->Prop} : ∀ n:Nat,(∀ i,i<n->∃ z,p i z)->∃ l:List α,l.length=n/\∀ i,i<n->p i (l.getD i d)
 | 0,_=>⟨[],rfl,fun i hi=>by omega⟩
 | n+1,h=>by
  obtain⟨l,j,G⟩:=Dj d n (fun i hi=>h i (by omega));obtain⟨z,I⟩:=h n (by omega);refine⟨l++[z],by simp[j],fun i hi=>?_⟩;rcases Wy4 i n with A | A
  ·have e:(l++[z]).getD i d=l.getD i d:=by
    rw[List.getD_eq_getElem?_getD,List.getD_eq_getElem?_getD,List.getElem?_append_left (by omega)]
   rw[e];exact G i A
  have e:i=n:=by omega
  subst e;have D:(l++[z]).getD i d=z:=by
   rw[List.getD_eq_getElem?_getD,List.getElem?_append_right (by omega),j,Nat.sub_self];rfl
  rw[D];exact I
theorem Dk {α:Type}{enc':α->List Value}{k:Nat}{d:α}{P:α->Prop}{H:Type}{enc:TypeId × Value->H}{W:World}{m:Nat}{v:Value}{y:DataW H × List MemPlace}{t e:TypeId}(ht:prog.underlying t=some (.slice e))(hk:prog.cellsOf e=k)(a7:0<k)(Z:∀ x,P x->(enc' x).length=k)
  (ho:∀ {m:Nat} {cs:List Value} {y:DataW H × List MemPlace},DataW.trod enc prog W 0 (fun _=>true) true m e cs=some y->∃ x,cs=enc' x/\P x)
  (h:DataW.trod enc prog W 0 (fun _=>true) true m t [v]=some y) :
  ∃ (pa:Option Addr) (pc:Nat) (l:List α),v=.slice pa l.length pc/\Px enc' k d W pa pc l/\∀ x ∈ l,P x:=by
 rcases Go.Deep.open_slice ht h with ⟨h0,_⟩ | ⟨a,len,cap,m,n,D,Pl,hc,hb,M,hm,O,rfl,hx⟩
 ·simp only[WvK.injEq,and_true] at h0;subst h0;exact⟨none,0,[],rfl,⟨Nat.le_refl _,(fun h=>by cases h),fun _=>rfl⟩,(fun x hx=>by cases hx)⟩
 simp only[WvK.injEq,and_true] at hc;subst hc;simp only[if_true] at O;obtain⟨b,off,A⟩:=a;obtain⟨l,K,L⟩:=Dj d (p:=fun i z=>P z/\∀ j v,(enc' z)[j]? = some v->W.cell? (((⟨b,off,A⟩:Addr).add (i*k)).add j)=some v) len (fun i hi=>by
  obtain⟨a6,g1,g2⟩:=hx i (by omega);rw[hk] at g1;obtain⟨_,hlen,G⟩:=World.cells?_some g1;obtain⟨z,e1,Y⟩:=ho g2;refine⟨z,Y,fun j u hu=>?_⟩;have hj:j<k:=by rw[<-Z z Y];exact(List.getElem?_eq_some_iff.1 hu).1
  rw[G j hj,e1];exact hu)
 have V:∀ x ∈ l,P x:=fun x hx=>by
  obtain⟨i,hi,e⟩:=List.getElem_of_mem hx;have:=(L i (by omega)).1;rw[List.getD_eq_getElem?_getD,List.getElem?_eq_getElem hi] at this;simp only[Option.getD_some] at this;rw[e] at this;exact this
 refine⟨some ⟨b,off,A⟩,cap,l,by rw[K],⟨by rw[K];exact M,fun h0=>?_,fun e=>by cases e⟩,V⟩;rw[K] at h0;have J:=L 0 h0;have a8:=Z _ J.1;obtain⟨v0,Q⟩:∃ v,(enc' (l.getD 0 d))[0]? = some v:=⟨_,List.getElem?_eq_getElem (by omega)⟩;have c0:W.cell? (((⟨b,off,A⟩:Addr).add (0*k)).add 0)=some v0:=J.2 0 _ Q
 have I:A=none:=by simpa [Addr.add] using World.cell?_spot c0
 subst I;refine⟨b,off,rfl,?_,fun i hi j v hv=>?_⟩
 ·have:=cell_lt c0;simpa [Addr.add] using this
 rw[K] at hi;have:=(L i hi).2 j v hv;rw[x7,x7] at this;exact this
theorem zq7 {H:Type}{enc:TypeId × Value->H}{W:World}{m:Nat}{cs:List Value}{y:DataW H × List MemPlace}(h:DataW.trod enc prog W 0 (fun _=>true) true m 4 cs=some y) :
  ∃ b:Bool,cs=[.bool b]:=by
 obtain⟨b,e,_⟩:=DataW.trod_bool underlying4 h;exact⟨b,e⟩
set_option maxRecDepth 100000 in
theorem zkz {H:Type}{enc:TypeId × Value->H}{W:World}{m:Nat}{cs:List Value}{y:DataW H × List MemPlace}(h:DataW.trod enc prog W 0 (fun _=>true) true m 45 cs=some y) :
  ∃ p:Per,cs=(x8 p).toList:=by
 obtain⟨xs,n,_,hy,hlen,A,j⟩:=DataW.trod_struct underlying45 h;rw[O4] at hlen;match cs,hlen with
 | [v0,v1,v2,v3],_ =>
 match xs,A with
 | [y0,y1,y2,y3],_ =>
  have J:DataW.trod enc prog W 0 (fun _=>true) true n 9 ((([v0,v1,v2,v3] : List Value).drop 0).take (prog.cellsOf 9))=some y0:=j 0 _ rfl;have K:DataW.trod enc prog W 0 (fun _=>true) true n 9 ((([v0,v1,v2,v3] : List Value).drop 1).take (prog.cellsOf 9))=some y1:=j 1 _ rfl
  have L:DataW.trod enc prog W 0 (fun _=>true) true n 2 ((([v0,v1,v2,v3] : List Value).drop 2).take (prog.cellsOf 2))=some y2:=j 2 _ rfl;have M:DataW.trod enc prog W 0 (fun _=>true) true n 3 ((([v0,v1,v2,v3] : List Value).drop 3).take (prog.cellsOf 3))=some y3:=j 3 _ rfl;simp only[E8,qju,zk8,WvV,WvW] at J K L M
  obtain⟨l0,D⟩:=ZV J;obtain⟨O,e1⟩:=ZV K;obtain⟨t,G,_⟩:=DataW.trod_int underlying2 L;obtain⟨z,I,_⟩:=DataW.trod_int underlying3 M;simp only[WvK.injEq,and_true] at D e1 G I;subst D e1 G I;exact⟨⟨l0,O,t,z⟩,rfl⟩
theorem XV {n:Int}(h:(Lit.int .i64 n).wf=true) : -9223372036854775808<=n/\n<=9223372036854775807:=by
 simp[Lit.wf,IntKind.min,IntKind.max,IntKind.signed,IntKind.bits] at h;omega
theorem G5 {n:Int}(h:(Lit.int .u64 n).wf=true):0<=n/\n<18446744073709551616:=by
 simp[Lit.wf,IntKind.min,IntKind.max,IntKind.signed,IntKind.bits] at h;omega
def StI (W:World)(s:Ls):Prop:=Px qj 41 dMv W s.a s.c s.ms/\(∀ m ∈ s.ms,xu m)/\(-9223372036854775808<=s.n/\s.n<=9223372036854775807)/\s.af<=9223372036854775807/\(-9223372036854775808<=s.ti/\s.ti<=9223372036854775807)/\(0<=s.di/\s.di<18446744073709551616)/\(0<=s.ta/\s.ta<18446744073709551616)
set_option maxRecDepth 100000 in
theorem zq8 {H:Type}{enc:TypeId × Value->H}{W:World}{m:Nat}{cs:List Value}{y:DataW H × List MemPlace}(h:DataW.trod enc prog W 0 (fun _=>true) true m 47 cs=some y) :
  ∃ s:Ls,cs=uK s/\StI W s:=by
 obtain⟨xs,n,_,hy,hlen,J,j⟩:=DataW.trod_struct underlying47 h;rw[O5] at hlen;match cs,hlen with
 | [v0,v1,v2,v3,v4,v5,v6,v7,v8,v9,v10,v11,v12,v13,v14],_ =>
 match xs,J with
 | [y0,y1,y2,y3,y4,y5,y6,y7,y8,y9,y10,y11],_ =>
  obtain⟨cs,D⟩:∃ cs,([v0,v1,v2,v3,v4,v5,v6,v7,v8,v9,v10,v11,v12,v13,v14] : List Value)=cs:=⟨_,rfl⟩;rw[D] at j;have u0:DataW.trod enc prog W 0 (fun _=>true) true n 3 ((cs.drop 0).take (prog.cellsOf 3))=some y0:=j 0 _ rfl;have u1:DataW.trod enc prog W 0 (fun _=>true) true n 43 ((cs.drop 1).take (prog.cellsOf 43))=some y1:=j 1 _ rfl
  have u2:DataW.trod enc prog W 0 (fun _=>true) true n 4 ((cs.drop 2).take (prog.cellsOf 4))=some y2:=j 2 _ rfl;have u3:DataW.trod enc prog W 0 (fun _=>true) true n 45 ((cs.drop 3).take (prog.cellsOf 45))=some y3:=j 3 _ rfl;have u4:DataW.trod enc prog W 0 (fun _=>true) true n 9 ((cs.drop 7).take (prog.cellsOf 9))=some y4:=j 4 _ rfl
  have u5:DataW.trod enc prog W 0 (fun _=>true) true n 9 ((cs.drop 8).take (prog.cellsOf 9))=some y5:=j 5 _ rfl;have u6:DataW.trod enc prog W 0 (fun _=>true) true n 9 ((cs.drop 9).take (prog.cellsOf 9))=some y6:=j 6 _ rfl;have u7:DataW.trod enc prog W 0 (fun _=>true) true n 3 ((cs.drop 10).take (prog.cellsOf 3))=some y7:=j 7 _ rfl
  have u8:DataW.trod enc prog W 0 (fun _=>true) true n 3 ((cs.drop 11).take (prog.cellsOf 3))=some y8:=j 8 _ rfl;have u9:DataW.trod enc prog W 0 (fun _=>true) true n 3 ((cs.drop 12).take (prog.cellsOf 3))=some y9:=j 9 _ rfl;have G:DataW.trod enc prog W 0 (fun _=>true) true n 24 ((cs.drop 13).take (prog.cellsOf 24))=some y10:=j 10 _ rfl
  have I:DataW.trod enc prog W 0 (fun _=>true) true n 24 ((cs.drop 14).take (prog.cellsOf 24))=some y11:=j 11 _ rfl;subst D;simp only[E8,zk8,qjZ,qx0,O4,qx1,WvV,WvW] at u0 u1 u2 u3 u4 u5 u6 u7 u8 u9 G I;obtain⟨k,M,_⟩:=DataW.trod_int underlying3 u0
  obtain⟨pa,pc,ms,e1,hP,hM⟩:=Dk (enc':=qj) (k:=41) (d:=dMv) (P:=xu) underlying43 Dz (by omega) (fun x hx=>j5 hx) (fun g=>zk9 g) u1;obtain⟨bb,O⟩:=zq7 u2;obtain⟨pe,e3⟩:=zkz u3;obtain⟨l4,Q⟩:=ZV u4;obtain⟨l5,V⟩:=ZV u5;obtain⟨l6,Y⟩:=ZV u6;obtain⟨n7,Z,_,w7⟩:=DataW.trod_int underlying3 u7
  obtain⟨n8,e8,_,w8⟩:=DataW.trod_int underlying3 u8;obtain⟨n9,e9,_,w9⟩:=DataW.trod_int underlying3 u9;obtain⟨n10,e10,_,K⟩:=DataW.trod_int underlying24 G;obtain⟨n11,e11,_,L⟩:=DataW.trod_int underlying24 I;simp only[WvK.injEq,and_true] at M O Q V Y Z e8 e9 e10 e11;subst M e1 O Q V Y Z e8 e9 e10 e11
  refine⟨⟨k,pa,pc,ms,bb,pe,l4,l5,l6,n7,n8,n9,n10,n11⟩,?_,hP,hM,XV w7,(XV w8).2,XV w9,G5 K,G5 L⟩;have A:v3 :: v4 :: v5 :: [v6]=(x8 pe).toList:=e3;simp only[x8,WvK.injEq,and_true] at A;obtain⟨f1,f2,f3,f4⟩:=A;subst f1 f2 f3 f4;rfl
theorem O7:f3.params=#[22,3]:=by kernel_rfl
set_option maxRecDepth 100000 in
theorem contract (H:Type)(enc:TypeId × Value->H)(W:World)(base:Nat)(args:Array Value)(ds gs:List (DataW H))(before:List MemPlace)
  (D:∀ (j:Nat) t v,f3.params[j]? = some t->args[j]? = some v->Value.okWide prog W .any base t v)
  (Z:DataW.Whole enc prog f3.params.toList Rows.refsSafeSpec.vars false W args.toList ds gs before)
  (I:laidMetH prog Rows.refsSafeRow.laid W) (Q:W.ShapedOpen prog) :
  Calls prog 3 args W fun e Y=>∃ v,e=.returned v/\Rows.refsSafeSpec.post enc prog f3 false true false false W args v Y:=by
 have J:=Z;obtain⟨p,q,G,hV,rfl,a7,a8⟩:=Z;have hA:DataW.TrodAll enc prog W 0 (fun _=>true) true f3.params.toList args.toList ds p:=G;rw[O7] at hA D;obtain⟨v0,ac,d0,ds0,p0,q0,K,rfl,rfl,h0,r0⟩:=trodAll_cons hA;obtain⟨v1,ad,d1,a6,p1,q1,rfl,rfl,rfl,h1,r1⟩:=trodAll_cons r0;obtain⟨rfl,rfl,rfl⟩:=trodAll_nil r1
 obtain rfl:args=#[v0,v1]:=by cases args;simp_all
 obtain⟨rfl,rfl⟩:=trodVars_none hV;have k0:=h0;have k1:=h1;have V:∀ x ∈ p0,x.block<W.heap.size:=by obtain⟨m,M⟩:=k0;exact DataW.trod_lt m _ _ _ M
 have lt1:∀ x ∈ p1,x.block<W.heap.size:=by obtain⟨m,M⟩:=k1;exact DataW.trod_lt m _ _ _ M
 obtain⟨a0,n0,c0,rfl⟩:=okWide_slice underlying22 (D 0 22 v0 rfl rfl);obtain⟨a,cap,l,e0,O,A⟩:∃ (pa:Option Addr) (pc:Nat) (l:List Ls),Value.slice a0 n0 c0=.slice pa l.length pc/\Px uK 15 dT0 W pa pc l/\∀ s ∈ l,StI W s:=by
  obtain⟨fuel,hf⟩:=h0;exact Dk (enc':=uK) (k:=15) (d:=dT0) (P:=StI W) (y:=(d0,p0)) underlying22 O5 (by omega) (fun x hx=>rfl) (fun g=>zq8 g) hf
 obtain⟨rm,rfl⟩:=okWide_int underlying3 (D 1 3 v1 rfl rfl);clear G;have L:Gb W:=⟨D1 I,D2 I,zk2 Q,E7 I,E6 I,Hy I⟩;have walk:Calls prog 3 #[.slice a0 n0 c0,.int .i64 rm] W fun e w'=>e=.returned (.bool true)/\Below W.heap.size W w':=by
  rw[e0];have:=qyV a cap l rm W O (fun s hs=>⟨(A s hs).1,(A s hs).2.1,(A s hs).2.2.1,(A s hs).2.2.2.1,(A s hs).2.2.2.2.1.2,(A s hs).2.2.2.2.2.1,(A s hs).2.2.2.2.2.2⟩) L;exact this
 refine walk.mono fun e Y ⟨he,bel⟩=>?_;subst he;exact⟨_,rfl,_,_,_,[],_,[],J,trodAll_mk1 (shut_bool underlying4 _),(trodAll_cons_mk (Below.trod O1 (by kernel_rfl) (of_decide_eq_true (by kernel_rfl)) k0 bel V) (trodAll_cons_mk (Below.trod O1 (by kernel_rfl) (of_decide_eq_true (by kernel_rfl)) k1 bel lt1) trodAll_mk0)),rfl,bel.frame _,fun h=>by cases h⟩
def relay (cs:Array Value):Obj->Obj
 | .cells _ t frozen=>.cells cs t frozen
 | o=>o
def layIn (w:World):World :=
 { w with heap:=(((((((((w.heap.modify 0 (relay #[.iface 179 (.agg #[.pointer (some ⟨10,27,none⟩)])])).modify 3 (relay #[.int .u64 1,.int .u64 10,.int .u64 100,.int .u64 1000,.int .u64 10000,.int .u64 100000,.int .u64 1000000,.int .u64 10000000,.int .u64 100000000,.int .u64 1000000000,.int .u64 10000000000,.int .u64 100000000000,.int .u64 1000000000000,.int .u64 10000000000000,.int .u64 100000000000000,.int .u64 1000000000000000,.int .u64 10000000000000000,.int .u64 100000000000000000,.int .u64 1000000000000000000,.int .u64 10000000000000000000])).modify 8 (relay #[.int .u8 0,.int .u8 1,.int .u8 28,.int .u8 2,.int .u8 29,.int .u8 14,.int .u8 24,.int .u8 3,.int .u8 30,.int .u8 22,.int .u8 20,.int .u8 15,.int .u8 25,.int .u8 17,.int .u8 4,.int .u8 8,.int .u8 31,.int .u8 27,.int .u8 13,.int .u8 23,.int .u8 21,.int .u8 19,.int .u8 16,.int .u8 7,.int .u8 26,.int .u8 12,.int .u8 18,.int .u8 6,.int .u8 11,.int .u8 5,.int .u8 10,.int .u8 9])).modify 9 (relay #[.int .u8 0,.int .u8 1,.int .u8 56,.int .u8 2,.int .u8 57,.int .u8 49,.int .u8 28,.int .u8 3,.int .u8 61,.int .u8 58,.int .u8 42,.int .u8 50,.int .u8 38,.int .u8 29,.int .u8 17,.int .u8 4,.int .u8 62,.int .u8 47,.int .u8 59,.int .u8 36,.int .u8 45,.int .u8 43,.int .u8 51,.int .u8 22,.int .u8 53,.int .u8 39,.int .u8 33,.int .u8 30,.int .u8 24,.int .u8 18,.int .u8 12,.int .u8 5,.int .u8 63,.int .u8 55,.int .u8 48,.int .u8 27,.int .u8 60,.int .u8 41,.int .u8 37,.int .u8 16,.int .u8 46,.int .u8 35,.int .u8 44,.int .u8 21,.int .u8 52,.int .u8 32,.int .u8 23,.int .u8 11,.int .u8 54,.int .u8 26,.int .u8 40,.int .u8 15,.int .u8 34,.int .u8 20,.int .u8 31,.int .u8 10,.int .u8 25,.int .u8 14,.int .u8 19,.int .u8 9,.int .u8 13,.int .u8 8,.int .u8 7,.int .u8 6])).modify 4 (relay #[.iface 335 (.pointer (some ⟨w.heap.size,0,none⟩))])).modify 5 (relay #[.iface 335 (.pointer (some ⟨w.heap.size+1,0,none⟩))])).modify 6 (relay (Pinned.utf8FirstZ.map fun (n:Nat)=>Value.int .u8 (n:Int)).toArray)).modify 7 (relay #[.int .u8 128,.int .u8 191,.int .u8 160,.int .u8 191,.int .u8 128,.int .u8 159,.int .u8 144,.int .u8 191,.int .u8 128,.int .u8 143,.int .u8 0,.int .u8 0,.int .u8 0,.int .u8 0,.int .u8 0,.int .u8 0,.int .u8 0,.int .u8 0,.int .u8 0,.int .u8 0,.int .u8 0,.int .u8 0,.int .u8 0,.int .u8 0,.int .u8 0,.int .u8 0,.int .u8 0,.int .u8 0,.int .u8 0,.int .u8 0,.int .u8 0,.int .u8 0])).modify 1 (relay #[.iface 335 (.pointer (some ⟨w.heap.size+2,0,none⟩))])) ++ #[.cells #[.string ⟨#[105,110,118,97,108,105,100,32,115,121,110,116,97,120]⟩] 337,.cells #[.string ⟨#[118,97,108,117,101,32,111,117,116,32,111,102,32,114,97,110,103,101]⟩] 337,.cells #[.string ⟨#[114,101,102,115,58,32,97,32,98,108,111,99,107,32,119,97,115,32,99,117,116,32,115,104,111,114,116]⟩] 337] }
def wit:Array Value:=#[.slice none 0 0,.int .i64 0]
theorem laid_met (os:Os):laidMetH prog Rows.refsSafeRow.laid ((layIn (World.holding prog os ⟨#[],#[],[]⟩)).forCall (fun _ _=>0) ⟨#[],wit,[]⟩).memory :=
 laidMetH_of_parts (laidMet_of_run' 8 (by kernel_rfl) (by kernel_rfl)) (by kernel_rfl)
theorem reads (os:Os){H:Type}(enc:TypeId × Value->H):∃ ds places,DataW.whole enc prog ((layIn (World.holding prog os ⟨#[],#[],[]⟩)).forCall (fun _ _=>0) ⟨#[],wit,[]⟩).memory f3.params.toList Rows.refsSafeSpec.vars false wit.toList 8=some (ds,[],places) :=
 ⟨[.nil,.lit (.int .i64 0)],[],by kernel_rfl⟩
set_option maxRecDepth 100000 in
theorem lifted (os:Os)(started:os.Started)(H:Type)(enc:TypeId × Value->H)(F:Stop.Interp) :
  ReturnsInHanded {} Tryz.checked os 3 .any ((OpenSpec.ofChange Rows.refsSafeSpec).preRow enc prog f3 Rows.refsSafeRow.domain false Rows.refsSafeRow.laid) (((OpenSpec.ofChange Rows.refsSafeSpec).at F).post enc prog f3 false true false false):=by
 obtain⟨ds,places,hx⟩:=reads os enc;refine returnsInHanded_of_row (C:=Tryz.checked) (s:=OpenSpec.ofChange Rows.refsSafeSpec) own started (by kernel_rfl) func3
  (witness_row_at (enc:=enc) (C:=Tryz.checked) false (layIn (World.holding prog os ⟨#[],#[],[]⟩)) wit rfl (by kernel_rfl) (by kernel_rfl) (by kernel_rfl)
   (OpenSpec.preRow_of_cond 8 hx (by kernel_rfl) (fun k G=>by cases G) (by kernel_rfl) (laid_met os))) ?_
 intro W base args ds gs before h D _ _ hsz A j _;exact contract H enc W base args ds gs before h D A j
theorem said:Rows.RefsSafeSaid :=
 OpenClaim.holds_of_cond 3 f3 rfl rfl rfl rfl rfl rfl rfl ⟨rfl,rfl,rfl,rfl,rfl⟩ rfl rfl rfl rfl rfl (by kernel_rfl) func3 (by kernel_rfl)
  (of_decide_eq_true (by kernel_rfl)) (by unfold Func.isWrapper;first | (rw[if_pos (by decide +kernel)];kernel_rfl) | (rw[if_neg (by decide +kernel)];exact⟨rfl,rfl⟩))
  (fun os started H enc _ F=>by rw[OpenClaim.pre_eq_preRow];exact lifted os started H enc F)
theorem plain (f:FuncId)(fn:Func)(D:Tryz.pinned.checked.prog.funcNamed "gitlike/gitlikelaw7.RefsSafe" = some f)(h:Tryz.pinned.checked.prog.funcs[f]? = some fn) :
  true=Tryz.pinned.checked.prog.looks []/\∀ (j:Nat) t,fn.params[j]? = some t->Tryz.pinned.checked.prog.wantsStandIn t=false:=by
 obtain rfl:f=3:=Wq8.inj ((show prog.funcNamed "gitlike/gitlikelaw7.RefsSafe" = some 3 by kernel_rfl).symm.trans D) |>.symm;obtain rfl:fn=f3:=(Wq8.inj (func3.symm.trans h)).symm;refine⟨by kernel_rfl,fun j t A=>?_⟩;rw[O7] at A;have G:t=22 ∨ t=3:=by simpa using Array.mem_of_getElem? A
 rcases G with rfl | rfl
 ·exact(show prog.wantsStandIn 22=false by kernel_rfl)
 exact(show prog.wantsStandIn 3=false by kernel_rfl)
end Go.Proofs.YtdnphaganajejaaGreatDoor.K.Safe
namespace Go.Proofs.YtdnphaganajejaaGreatDoor
open Go.Proofs.Tryz
theorem refsSafe_card:Rows.RefsSafeCardSaid :=
 Claim7.holds_tied_plain_at .later [] _ _ _ _ K.Safe.said (fun _ h=>by cases h) (by kernel_rfl) (fun _ h=>by cases h) refsSafe_row_tie rfl ⟨rfl,rfl⟩ (by kernel_rfl) rfl K.Safe.plain (by kernel_rfl)
#print axioms refsSafe_card
end Go.Proofs.YtdnphaganajejaaGreatDoor
