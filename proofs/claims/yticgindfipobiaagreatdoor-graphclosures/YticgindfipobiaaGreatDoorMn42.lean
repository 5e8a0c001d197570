import Derived.Test.YticgindfipobiaaGreatDoorMn41
import Derived.Lib.Bytealg
import Derived.Lib.Bytes
import Derived.Sort.Statements
import Derived.Lib.Strings
import Derived.Maps.RangeWalk
set_option linter.unusedSimpArgs false
set_option linter.unusedVariables false
set_option maxRecDepth 20000
set_option maxHeartbeats 4000000
namespace Go.Proofs.YticgindfipobiaaGreatDoor.Gr
open Go.RowKit
section
variable {P : Program} {md : Region.Mode} {ops : Array Oper} {Q : Exit → Act → World → Prop} {S : World → Prop} {br : Nat → Bool}
def anyB (P:Program) (md:Region.Mode) (ops:Array Oper) (Q:Exit->Act->World->Prop) (S:World->Prop) (br:Nat->Bool):Nat->Array Bool->Act->World->Prop
 | 0,listed,a,w=>Region.ready md ops listed=[]/\Q .normal a w
 | fuel+1,listed,a,w =>
  (Region.ready md ops listed=[]->Q .normal a w)/\
  ∀ i ∈ Region.ready md ops listed,wpOp P ops Q i (fun a' w'=>(br i=true ∨ (S w->S w'))/\anyB P md ops Q S br fuel (listed.setIfInBounds i true) a' w') a w
theorem any_of_B:∀ (fuel:Nat) (listed:Array Bool) (a:Act) (w:World),anyB P md ops Q S br fuel listed a w->wpAny P md ops Q fuel listed a w
 | 0,_,_,_,h=>h
 | fuel+1,_,_,_,h=>⟨h.1,fun i hi=>wpOp_mono (fun a' w' h'=>any_of_B fuel _ a' w' h'.2) (h.2 i hi)⟩
theorem B_first (V:World->Prop) {i:Nat} {oi:Oper} {v:Value} (hi:ops[i]? = some oi) (hsel:∀ (j:Nat) (o:Oper) cs b,ops[j]? = some o->o.op ≠ .select cs b) (hV:∀ j,waits md ops j i=false->∀ w w',V w->(br j=true ∨ (S w->S w'))->V w')
  (hQ:∀ c a w,Q (.panic c) (a.put oi.dst v) w->Q (.panic c) a w) :
  ∀ (fuel:Nat) (listed:Array Bool) (a:Act) (w:World),
   (∀ j oj,ops[j]? = some oj->j ≠ i->listed.getD j true=false->(∀ e ∈ oj.after,Region.binds md e=true->e.on ≠ i)->oi.apart ops oj=true) →
   i ∈ Region.ready md ops listed->YieldsIf P ops V oi v a->V w →
   anyB P md ops Q S br fuel (listed.setIfInBounds i true) (a.put oi.dst v) w->anyB P md ops Q S br (fuel+1) listed a w:=by
 intro fuel
 induction fuel with
 | zero =>
  intro listed a w _ hr hy hS H
  refine⟨fun h=>(by rw[h] at hr;cases hr),fun j hj=>?_⟩
  by_cases hji:j=i
  ·subst hji;exact hy.wpOp hi hS ⟨.inr (fun h=>h),H⟩
  ·have:=ready_mono hj hji
   rw[H.1] at this
   cases this
 | succ fuel ih =>
  intro listed a w hfree hr hy hS H
  refine⟨fun h=>(by rw[h] at hr;cases hr),fun j hj=>?_⟩
  by_cases hji:j=i
  ·subst hji;exact hy.wpOp hi hS ⟨.inr (fun h=>h),H⟩
  ·have h1:=H.2 j (ready_mono hj hji)
   obtain⟨hjun,oj,hoj,hall⟩:=mem_ready.1 hj
   have hnot:∀ e ∈ oj.after,Region.binds md e=true->e.on ≠ i:=fun e he hb heq=>by
    have g1:=hall e he hb
    have g0:=(mem_ready.1 hr).1
    rw[heq] at g1
    rcases Nat.lt_or_ge i listed.size with h' | h'
    ·simp[h'] at g0 g1;rw[g0] at g1;cases g1
    ·simp[Array.getElem?_eq_none h'] at g1
   have hjn:waits md ops j i=false:=by
    rw[Bool.eq_false_iff]
    intro hn
    unfold waits at hn
    rw[hoj] at hn
    simp only[Array.any_eq_true] at hn
    obtain⟨k,hk,hk2⟩:=hn
    simp only[Bool.and_eq_true,beq_iff_eq] at hk2
    exact hnot _ (Array.getElem_mem hk) hk2.1 hk2.2
   have h2:=wpOp_putIf hoj (hfree j oj hoj hji hjun hnot) (fun cs b=>hsel i oi cs b hi) (fun cs b=>hsel j oj cs b hoj) hQ hy h1
   have hfree':∀ k ok,ops[k]? = some ok->k ≠ i->(listed.setIfInBounds j true).getD k true=false →
     (∀ e ∈ ok.after,Region.binds md e=true->e.on ≠ i)->oi.apart ops ok=true:=fun k ok hk hki hun hno=>by
    refine hfree k ok hk hki ?_ hno
    by_cases hjk:j=k
    ·subst hjk;exact hjun
    ·rw[getD_set_ne true hjk] at hun;exact hun
   refine wpOp_mono (fun a' w' h3=>⟨h3.2.1,?_⟩) h2
   have hS':V w':=hV j hjn w w' hS h3.2.1
   refine ih (listed.setIfInBounds j true) a' w' hfree' (ready_mono hr (Ne.symm hji)) h3.1 hS' ?_
   rw[Array.setIfInBounds_comm _ _ hji]
   exact h3.2.2
end
theorem takeB {P:Program} {md:Region.Mode} {Q:Exit->Act->World->Prop} {S:World->Prop} {br:Nat->Bool} {l:List Oper} {i:Nat} {oi:Oper} {v:Value} {fuel:Nat} {listed:Array Bool} {a:Act} {w:World} (hi:l[i]? = some oi)
  (hs:Region.noSelect l.toArray=true) (hf:Region.free md l.toArray listed i=true) (hr:(Region.ready md l.toArray listed).contains i=true) (hn:((List.range l.length).all fun j => !br j || waits md l.toArray j i)=true)
  (hQ:∀ c a w,Q (.panic c) (a.put oi.dst v) w->Q (.panic c) a w) (hy:YieldsIf P l.toArray S oi v a) (hS:S w)
  (h:anyB P md l.toArray Q S br fuel (listed.setIfInBounds i true) (a.put oi.dst v) w):anyB P md l.toArray Q S br (fuel+1) listed a w:=by
 have hi':l.toArray[i]? = some oi:=by rw[List.getElem?_toArray];exact hi
 refine B_first S hi' (Region.noSelect_spec hs) (fun j hw w0 w1 hs0 h0=>h0.resolve_left (fun hb=>?_) hs0) hQ fuel listed a w (Region.free_spec hi' hf) (by simpa using hr) hy hS h
 by_cases hj:j<l.length
 ·have:=List.all_eq_true.1 hn j (List.mem_range.2 hj)
  rw[hb,hw] at this
  cases this
 ·unfold waits at hw
  rw[List.getElem?_toArray,List.getElem?_eq_none (by omega)] at hw
  cases hw
theorem Qu {P:Program} {md:Region.Mode} {Q:Exit->Act->World->Prop} {br:Nat->Bool} {S:World->Prop} {l:List Oper} {i:Nat} {oi:Oper} {v:Value} {fuel:Nat} {listed:Array Bool} {a:Act} {w:World} (hi:l[i]? = some oi)
  (hs:Region.noSelect l.toArray=true) (hf:Region.free md l.toArray listed i=true) (hr:(Region.ready md l.toArray listed).contains i=true)
  (hQ:∀ c a w,Q (.panic c) (a.put oi.dst v) w->Q (.panic c) a w) (hy:YieldsIf P l.toArray (fun _=>True) oi v a)
  (h:anyB P md l.toArray Q S br fuel (listed.setIfInBounds i true) (a.put oi.dst v) w):anyB P md l.toArray Q S br (fuel+1) listed a w:=by
 have hi':l.toArray[i]? = some oi:=by rw[List.getElem?_toArray];exact hi
 exact B_first (fun _=>True) hi' (Region.noSelect_spec hs) (fun _ _ _ _ _ _=>trivial) hQ fuel listed a w (Region.free_spec hi' hf) (by simpa using hr) hy trivial h
theorem readyB1 {P:Program} {md:Region.Mode} {Q:Exit->Act->World->Prop} {S:World->Prop} {br:Nat->Bool} {i fuel:Nat} {l:List Oper} {o:Oper} {listed:Array Bool} {a:Act} {w:World} (hr:Region.ready md l.toArray listed=[i]) (ho:l[i]? = some o)
  (h:∀ K':Act->World->Prop,Shut (∀ a w',(br i=true ∨ (S w->S w'))->anyB P md l.toArray Q S br fuel (listed.setIfInBounds i true) a w'->K' a w')->if Region.wanted o (yielded l.toArray a.tmps)=true then Oper.wp P o a w K' Q else K' (a.put o.dst undef) w):anyB P md l.toArray Q S br (fuel+1) listed a w :=
 ⟨fun h0=>(by rw[hr] at h0;cases h0),fun j hj=>by
  rw[hr] at hj
  obtain rfl:=List.mem_singleton.1 hj
  have ho':l.toArray[j]? = some o:=by rw[List.getElem?_toArray];exact ho
  exact wpOp_step ho' (fun K' hK=>h K' (fun a w hS hW=>hK a w ⟨hS,hW⟩))⟩
theorem doneB {P:Program} {md:Region.Mode} {Q:Exit->Act->World->Prop} {S:World->Prop} {br:Nat->Bool} {ops:Array Oper} {listed:Array Bool} {a:Act} {w:World} (hr:Region.ready md ops listed=[]) (h:Q .normal a w) :
  ∀ fuel,anyB P md ops Q S br fuel listed a w
 | 0=>⟨hr,h⟩
 | _+1=>⟨fun _=>h,by rw[hr];simp⟩
theorem region_B {P:Program} {Q:Exit->Act->World->Prop} {id:Nat} {a:Act} {w:World} {ops:Array Oper} (S:World->Prop) (br:Nat->Bool) (hm:P.follows .mixedOrders=true)
  (h:anyB P .any ops Q S br ops.size (Array.replicate ops.size false) a w.drew):(Code.region id ops true).wp P Q a w :=
 wp_region_any hm (any_of_B _ _ _ _ h)
theorem owns_set {base:Nat} {e:TypeId} {size g n cap:Nat} : ∀ (vs:List Value) (o:Nat) (w:World) (xs:List Value),w.ownsRow base e size (.slice (some ⟨g,0,none⟩) n cap) n xs->(w.setCells g o vs).ownsRow base e size (.slice (some ⟨g,0,none⟩) n cap) n (setAt xs o vs)/\w.grownBy (w.setCells g o vs) (some g)
 | [],o,w,xs,h=>⟨h,rfl,rfl,rfl,Nat.le_refl _,fun _ _ _=>rfl⟩
 | v :: vs,o,w,xs,h=>by
  have h1:=h.stored o v
  have h2:=owns_set vs (o+1) (w.setCell ⟨g,o,none⟩ v) _ h1.1
  exact⟨h2.1,h1.2.trans h2.2⟩
section
variable {α : Type} {enc : α → List Value} {k : Nat}
theorem set_flat (l:List α) (i:Nat) (x:α) (hi:i<l.length) (hw:∀ y ∈ l,(enc y).length=k) (hx:(enc x).length=k):setAt (l.flatMap enc) (i*k) (enc x)=(l.set i x).flatMap enc:=by
 have e1:l=l.take i++l[i] :: l.drop (i+1):=by rw[<-List.drop_eq_getElem_cons hi,List.take_append_drop]
 have e2:l.set i x=l.take i++x :: l.drop (i+1):=List.set_eq_take_append_cons_drop.trans (by rw[if_pos hi])
 have hl:((l.take i).flatMap enc).length=i*k:=by
  rw[Z6 (k:=k) _ (fun y hy=>hw y (List.mem_of_mem_take hy)),List.length_take,Nat.min_eq_left (Nat.le_of_lt hi)]
 rw[e2]
 conv=>lhs;rw[e1]
 rw[List.flatMap_append,List.flatMap_append,List.flatMap_cons,List.flatMap_cons,<-hl,uJ _ _ _ _ (by rw[hx,hw _ (List.getElem_mem hi)])]
theorem Bx.set {e:TypeId} {w0 w:World} {B g n cap:Nat} {l:List α} (h:Bx enc k e w0 w B (.slice (some ⟨g,0,none⟩) n cap) l) (hn:l.length=n) (hB:B<=g) (i:Nat) (x:α) (hi:i<l.length) (hw:∀ y ∈ l,(enc y).length=k) (hx:(enc x).length=k) :
  Bx enc k e w0 (w.setCells g (i*k) (enc x)) B (.slice (some ⟨g,0,none⟩) n cap) (l.set i x)/\w.grownBy (w.setCells g (i*k) (enc x)) (some g):=by
 subst hn
 have h1:=owns_set (enc x) (i*k) w _ h.own
 rw[set_flat l i x hi hw hx] at h1
 exact⟨⟨h.below.grown h1.2 h.le (fun k hk=>by cases hk;exact hB),by rw[List.length_set];exact h1.1,Nat.le_trans h.le h1.2.size⟩,h1.2⟩
theorem Bx.there {e:TypeId} {w0 w:World} {B g n cap:Nat} {l:List α} (h:Bx enc k e w0 w B (.slice (some ⟨g,0,none⟩) n cap) l) (hn:l.length=n) (i:Nat) (hi:i<l.length):w.there g (i*k) k:=by
 subst hn
 intro j hj
 have hlt:i*k+j<l.length*k:=by
  have:(i+1)*k<=l.length*k:=Nat.mul_le_mul_right k hi
  rw[Nat.add_mul] at this
  omega
 refine⟨?_,h.own.frozenAt _⟩
 rw[h.own.cellAt _ hlt,List.getElem?_eq_getElem (by rw[h.own.1];exact hlt)]
 rfl
end
def swp {α:Type} (l:List α) (i j:Nat) (d:α):List α:=(l.set i (l.getD j d)).set j (l.getD i d)
theorem swp_perm {α:Type} (l:List α) (i j:Nat) (d:α) (hi:i<l.length) (hj:j<l.length):(swp l i j d).Perm l:=by
 unfold swp
 rw[List.getD_eq_getElem?_getD,List.getD_eq_getElem?_getD,List.getElem?_eq_getElem hi,List.getElem?_eq_getElem hj]
 exact List.set_set_perm hi hj
structure QW (g oi oj:Nat) (Ri Rj:List Value) (W:World):Prop where
 ri:W.rangeAt g oi Ri
 rj:W.rangeAt g oj Rj
def Rv (l0:List (List Int)) (i:Nat) (l:List (List Int)):Prop := ∀ t,t<l0.length->l.getD t []=if t<i ∨ l0.length<=t+i then l0.getD (l0.length-1-t) [] else l0.getD t []
theorem rv0 (l0:List (List Int)):Rv l0 0 l0:=fun t ht=>by rw[if_neg (by omega)]
theorem rv_step {l0 l:List (List Int)} {i j:Nat} (h:Rv l0 i l) (hl:l.length=l0.length) (hij:i+j+1=l0.length) (hlt:i<j):Rv l0 (i+1) (swp l i j []):=by
 intro t ht
 have hi:=h i (by omega)
 have hj:=h j (by omega)
 rw[if_neg (by omega)] at hi hj
 have e:(swp l i j []).getD t []=if t=j then l.getD i [] else if t=i then l.getD j [] else l.getD t []:=by
  unfold swp
  simp only[List.getD_eq_getElem?_getD,List.getElem?_set,List.length_set]
  by_cases h1:t=j
  ·subst h1
   rw[if_pos rfl,if_pos rfl,if_pos (by omega)]
   rfl
  ·rw[if_neg (Ne.symm h1),if_neg h1]
   by_cases h2:t=i
   ·subst h2
    rw[if_pos rfl,if_pos rfl,if_pos (by omega)]
    rfl
   ·rw[if_neg (Ne.symm h2),if_neg h2]
 rw[e]
 by_cases h1:t=j
 ·rw[if_pos h1,if_pos (by omega),hi,show l0.length-1-t=i by omega]
 ·rw[if_neg h1]
  by_cases h2:t=i
  ·rw[if_pos h2,if_pos (by omega),hj,show l0.length-1-t=j by omega]
  ·rw[if_neg h2,h t ht]
   by_cases h3:t<i ∨ l0.length<=t+i
   ·rw[if_pos h3,if_pos (by omega)]
   ·rw[if_neg h3,if_neg (by omega)]
theorem rv_end {l0 l:List (List Int)} {i j:Nat} (h:Rv l0 i l) (hl:l.length=l0.length) (hij:i+j+1=l0.length) (hlt:¬ i<j):l=l0.reverse:=by
 refine List.ext_getElem (by rw[List.length_reverse];exact hl) (fun t h1 h2=>?_)
 have ht:t<l0.length:=by omega
 have:=h t ht
 rw[List.getD_eq_getElem?_getD,List.getElem?_eq_getElem h1] at this
 rw[List.getElem_reverse]
 have e:(if t<i ∨ l0.length<=t+i then l0.getD (l0.length-1-t) [] else l0.getD t [])=l0.getD (l0.length-1-t) []:=by
  split
  ·rfl
  ·rw[show l0.length-1-t=t by omega]
 rw[e,List.getD_eq_getElem?_getD,List.getElem?_eq_getElem (by omega)] at this
 exact this
theorem reverse_nil (a:Option Addr) (cap:Nat) (w:World):Calls Tryz.prog 37 #[.slice a 0 cap] w fun e w'=>e=.returned (.tuple #[])/\w'=w:=by
 go_enter Tryz.func37,Tryz.ntmps37
 go_wp2_with fail
 go_loopg [2,3] 0 (fun g u v wr=>g=0/\u=.int .i64 0/\v=.int .i64 (-1)/\wr=w)
 case atStart=>exact⟨rfl,rfl,rfl,rfl⟩
 case round =>
  obtain⟨rfl,rfl,rfl,rfl⟩:=hrel
  go_wp2
  go_end0
  exact⟨rfl,rfl⟩
theorem reverse_some (w0 w:World) (B g n cap:Nat) (l0:List (List Int)) (h:Bi 56 w0 w B (.slice (some ⟨g,0,none⟩) n cap) l0) (hn:l0.length=n) (hn2:n<=100000) (hn0:0<n) (hw:∀ x ∈ l0,IdW x) :
  Calls Tryz.prog 37 #[.slice (some ⟨g,0,none⟩) n cap] w fun e w'=>e=.returned (.tuple #[])/\Bi 56 w0 w' B (.slice (some ⟨g,0,none⟩) n cap) l0.reverse/\w.grownBy w' (some g):=by
 have HN0:Hid (l0.length=n):=hn
 have HW0:Hid (∀ x ∈ l0,(row .u8 x).length=20):=fun x hx=>by rw[zq];exact(hw x hx).1
 have HBg:Hid (B<=g):=hid (by have:=h.own;rw[HN0.out] at this;exact(qW this g rfl).1)
 have HB:Hid (Bi 56 w0 w B (.slice (some ⟨g,0,none⟩) n cap) l0):=h
 clear h hn hw
 go_enter Tryz.func37,Tryz.ntmps37
 go_wp2_with fail
 go_loopg [2,3] (n-1) (fun gg u v wr=>∃ (i j:Nat) (l:List (List Int)),u=.int .i64 i/\v=.int .i64 j/\gg=j/\i+j<n/\Hid (i+j+1=n)/\Hid (Rv l0 i l)/\Hid (l.Perm l0)/\Hid (Bi 56 w0 wr B (.slice (some ⟨g,0,none⟩) n cap) l)/\Hid (w.grownBy wr (some g)))
 case atStart=>exact⟨0,n-1,l0,rfl,by go_num,rfl,by omega,hid (by omega),hid (rv0 l0),hid (List.Perm.refl _),HB,hid ⟨rfl,rfl,rfl,Nat.le_refl _,fun _ _ _=>rfl⟩⟩
 case round =>
  obtain⟨i,j,l,rfl,rfl,hk,hij,HIJ,HRv,HPm,HBr,HGr⟩:=hrel
  by_cases hlt:i<j
  ·have hlti:(i:Int)<(j:Int):=by omega
   have hi:i<n:=by omega
   have hj:j<n:=by omega
   have HN:Hid (l.length=n):=hid (HPm.out.length_eq.trans HN0.out)
   have HWL:Hid (∀ x ∈ l,(row .u8 x).length=20):=fun x hx=>HW0.out x (HPm.out.mem_iff.1 hx)
   obtain⟨wS,HWS⟩:=nm_ w
   rw[HWS.out] at HGr
   obtain⟨x,HX⟩:=nm_ (l.getD i [])
   obtain⟨y,HY⟩:=nm_ (l.getD j [])
   have hxm:x ∈ l:=by rw[<-HX.out];exact yK l i _ (by rw[HN.out];exact hi)
   have hym:y ∈ l:=by rw[<-HY.out];exact yK l j _ (by rw[HN.out];exact hj)
   obtain⟨Ri,HRi⟩:=nm_ ((row .u8) x)
   obtain⟨Rj,HRj⟩:=nm_ ((row .u8) y)
   have hiRi:(Tryz.prog.info? 56).map (·.size)=some Ri.length:=by rw[<-HRi.out,HWL.out x hxm];exact Tryz.size56
   have hiRj:(Tryz.prog.info? 56).map (·.size)=some Rj.length:=by rw[<-HRj.out,HWL.out y hym];exact Tryz.size56
   have ORi:Hid (Ri.toArray.all (·.oneCell')=true):=hid (by rw[<-HRi.out];exact all_oneCell_toArray (zV .u8 x))
   have ORj:Hid (Rj.toArray.all (·.oneCell')=true):=hid (by rw[<-HRj.out];exact all_oneCell_toArray (zV .u8 y))
   have HB0:Hid (Bx (row .u8) 20 56 w0 wr.drew B (.slice (some ⟨g,0,none⟩) n cap) l):=hid (HBr.out.carry (zJ (Below.refl _ _) 1))
   have HG0:Hid (wS.grownBy wr.drew (some g)):=hid (HGr.out.trans ⟨rfl,rfl,rfl,Nat.le_refl _,fun _ _ _=>rfl⟩)
   have hS0:Hid (QW g (i*20) (j*20) Ri Rj wr.drew):=hid (by
    obtain⟨a',cap',e1,e2,_⟩:=HB0.out.px (d:=[]) (fun z hz=>HWL.out z hz)
    cases e1
    obtain⟨b',off',e3,_,e4⟩:=e2.at_ (by omega)
    cases e3
    have h1:=e4 i (by rw[HN.out];exact hi)
    have h2:=e4 j (by rw[HN.out];exact hj)
    rw[HX.out,HRi.out,Nat.zero_add] at h1
    rw[HY.out,HRj.out,Nat.zero_add] at h2
    exact⟨h1,h2⟩)
   have TH1:Hid (wr.drew.there g (i*20) Rj.toArray.size):=hid (by rw[List.size_toArray,<-HRj.out,HWL.out y hym];exact HB0.out.there HN.out i (by rw[HN.out];exact hi))
   obtain⟨u1,HU1⟩:=nm_ (wr.drew.setCells g (i*20) Rj.toArray.toList)
   have hset1:=HB0.out.set HN.out HBg.out i y (by rw[HN.out];exact hi) HWL.out (HWL.out y hym)
   rw[HRj.out,show wr.drew.setCells g (i*20) Rj=u1 from HU1.out] at hset1
   have HWL1:Hid (∀ z ∈ l.set i y,((row .u8) z).length=20):=fun z hz=>by
    rcases List.mem_or_eq_of_mem_set hz with h | h
    ·exact HWL.out z h
    ·rw[h];exact HWL.out y hym
   have HN1:Hid ((l.set i y).length=n):=hid (by rw[List.length_set];exact HN.out)
   have TH2:Hid (u1.there g (j*20) Ri.toArray.size):=hid (by rw[List.size_toArray,<-HRi.out,HWL.out x hxm];exact hset1.1.there HN1.out j (by rw[HN1.out];exact hj))
   obtain⟨u2,HU2⟩:=nm_ (u1.setCells g (j*20) Ri.toArray.toList)
   have hset2:=hset1.1.set HN1.out HBg.out j x (by rw[HN1.out];exact hj) HWL1.out (HWL.out x hxm)
   rw[HRi.out,show u1.setCells g (j*20) Ri=u2 from HU2.out] at hset2
   have HB2:Hid (Bx (row .u8) 20 56 w0 u2 B (.slice (some ⟨g,0,none⟩) n cap) (swp l i j [])):=hid (by unfold swp;rw[HX.out,HY.out];exact hset2.1)
   have HG2:Hid (wS.grownBy u2 (some g)):=hid ((HG0.out.trans hset1.2).trans hset2.2)
   clear hset1 hset2 hxm hym
   have hii:(i:Int)<(n:Int):=by omega
   have hjj:(j:Int)<(n:Int):=by omega
   have HP2:Hid ((swp l i j []).Perm l0):=hid ((swp_perm l i j [] (by rw[HN.out];exact hi) (by rw[HN.out];exact hj)).trans HPm.out)
   have HRv2:Hid (Rv l0 (i+1) (swp l i j [])):=hid (rv_step HRv.out (HN.out.trans HN0.out.symm) (by rw[HN0.out];exact HIJ.out) hlt)
   obtain⟨j1,HJ⟩:∃ j1,Hid (j=j1+1):=⟨j-1,hid (by omega)⟩
   have hj1:i+1+j1<n:=by have:=HJ.out;omega
   have hjm:j1<j:=by have:=HJ.out;omega
   go_wp2_with fail
   refine region_B (QW g (i*20) (j*20) Ri Rj) (fun q=>q == 13 || q == 15) (by kernel_rfl) ?_
   generalize wr.drew=u0 at hS0 HB0 HG0 TH1 HU1 ⊢
   refine Qu (i:=0) (v:=?_) rfl (by kernel_rfl) (by kernel_rfl) (by kernel_rfl) (fun _ _ _ h=>h) (Or.inl ⟨by rfl,?_⟩) ?_
   rotate_left
   ·rintro w' _;go_simp;rfl
   try simp only[Act.put,sL]
   refine Qu (i:=1) (v:=?_) rfl (by kernel_rfl) (by kernel_rfl) (by kernel_rfl) (fun _ _ _ h=>h) (Or.inl ⟨by rfl,?_⟩) ?_
   rotate_left
   ·rintro w' _;go_simp;rfl
   try simp only[Act.put,sL]
   refine Qu (i:=2) (v:=?_) rfl (by kernel_rfl) (by kernel_rfl) (by kernel_rfl) (fun _ _ _ h=>h) (Or.inl ⟨by rfl,?_⟩) ?_
   rotate_left
   ·rintro w' _;go_simp;rfl
   try simp only[Act.put,sL]
   refine Qu (i:=3) (v:=?_) rfl (by kernel_rfl) (by kernel_rfl) (by kernel_rfl) (fun _ _ _ h=>h) (Or.inl ⟨by rfl,?_⟩) ?_
   rotate_left
   ·rintro w' _;go_simp;rfl
   try simp only[Act.put,sL]
   refine Qu (i:=4) (v:=?_) rfl (by kernel_rfl) (by kernel_rfl) (by kernel_rfl) (fun _ _ _ h=>h) (Or.inl ⟨by rfl,?_⟩) ?_
   rotate_left
   ·rintro w' _;go_simp;rfl
   try simp only[Act.put,sL]
   refine Qu (i:=5) (v:=?_) rfl (by kernel_rfl) (by kernel_rfl) (by kernel_rfl) (fun _ _ _ h=>h) (Or.inl ⟨by rfl,?_⟩) ?_
   rotate_left
   ·rintro w' _;go_simp;rfl
   try simp only[Act.put,sL]
   refine Qu (i:=6) (v:=?_) rfl (by kernel_rfl) (by kernel_rfl) (by kernel_rfl) (fun _ _ _ h=>h) (Or.inl ⟨by rfl,?_⟩) ?_
   rotate_left
   ·rintro w' _;go_simp;rfl
   try simp only[Act.put,sL]
   refine takeB (i:=7) (v:=.agg Rj.toArray) rfl (by kernel_rfl) (by kernel_rfl) (by kernel_rfl) (by kernel_rfl) (fun _ _ _ h=>h) (yieldsIf_load_mid (by kernel_rfl) 56 _ rfl g (j*20) (by rfl) Rj _ (fun w' h=>h.rj) Tryz.underlying56 rfl hiRj) hS0.out ?_
   try simp only[Act.put,sL]
   refine Qu (i:=8) (v:=?_) rfl (by kernel_rfl) (by kernel_rfl) (by kernel_rfl) (fun _ _ _ h=>h) (Or.inl ⟨by rfl,?_⟩) ?_
   rotate_left
   ·rintro w' _;go_simp;rfl
   try simp only[Act.put,sL]
   refine Qu (i:=9) (v:=?_) rfl (by kernel_rfl) (by kernel_rfl) (by kernel_rfl) (fun _ _ _ h=>h) (Or.inl ⟨by rfl,?_⟩) ?_
   rotate_left
   ·rintro w' _;go_simp;rfl
   try simp only[Act.put,sL]
   refine Qu (i:=10) (v:=?_) rfl (by kernel_rfl) (by kernel_rfl) (by kernel_rfl) (fun _ _ _ h=>h) (Or.inl ⟨by rfl,?_⟩) ?_
   rotate_left
   ·rintro w' _;go_simp;rfl
   try simp only[Act.put,sL]
   refine takeB (i:=11) (v:=.agg Ri.toArray) rfl (by kernel_rfl) (by kernel_rfl) (by kernel_rfl) (by kernel_rfl) (fun _ _ _ h=>h) (yieldsIf_load_mid (by kernel_rfl) 56 _ rfl g (i*20) (by rfl) Ri _ (fun w' h=>h.ri) Tryz.underlying56 rfl hiRi) hS0.out ?_
   try simp only[Act.put,sL]
   refine Qu (i:=12) (v:=?_) rfl (by kernel_rfl) (by kernel_rfl) (by kernel_rfl) (fun _ _ _ h=>h) (Or.inl ⟨by rfl,?_⟩) ?_
   rotate_left
   ·rintro w' _;go_simp;rfl
   try simp only[Act.put,sL]
   refine readyB1 (i:=13) (by kernel_rfl) rfl (fun KK hKK=>?_)
   refine xZ (by rfl) 56 _ _ (by rfl) g (i*20) Rj.toArray rfl rfl TH1.out (by rw[List.size_toArray];exact hiRj) ORj.out ?_
   refine hKK.out _ _ (.inl rfl) ?_
   clear hKK KK
   rw[HU1.out]
   try simp only[Act.put,sL]
   refine Qu (i:=14) (v:=?_) rfl (by kernel_rfl) (by kernel_rfl) (by kernel_rfl) (fun _ _ _ h=>h) (Or.inl ⟨by rfl,?_⟩) ?_
   rotate_left
   ·rintro w' _;go_simp;rfl
   try simp only[Act.put,sL]
   refine readyB1 (i:=15) (by kernel_rfl) rfl (fun KK hKK=>?_)
   refine xZ (by rfl) 56 _ _ (by rfl) g (j*20) Ri.toArray rfl rfl TH2.out (by rw[List.size_toArray];exact hiRi) ORi.out ?_
   refine hKK.out _ _ (.inl rfl) ?_
   clear hKK KK
   rw[HU2.out]
   try simp only[Act.put,sL]
   refine doneB (by kernel_rfl) ?_ _
   go_wp2
   go_roundg j1
   case measure=>omega
   case rel=>exact⟨i+1,j1,_,by go_num,by rw[HJ.out];go_num,rfl,hj1,hid (by have:=HIJ.out;have:=HJ.out;omega),HRv2,HP2,HB2,hid (by rw[HWS.out];exact HG2.out)⟩
  ·have hlti:¬ (i:Int)<(j:Int):=by omega
   go_wp2
   go_end0
   have e:=rv_end HRv.out (HPm.out.length_eq) (by rw[HN0.out];exact HIJ.out) hlt
   exact⟨rfl,by rw[<-e];exact HBr.out,HGr.out⟩
theorem reverse_any (w0 w:World) (B:Nat) (v:Value) (l0:List (List Int)) (h:Bi 56 w0 w B v l0) (hn2:l0.length<=100000) (hw:∀ x ∈ l0,IdW x) :
  Calls Tryz.prog 37 #[v] w fun e w'=>e=.returned (.tuple #[])/\Bi 56 w0 w' B v l0.reverse:=by
 by_cases h0:l0.length=0
 ·obtain⟨a,cp,rfl⟩:=qw h.own
  rw[h0]
  refine(reverse_nil a cp w).mono ?_
  rintro e w' ⟨rfl,rfl⟩
  refine⟨rfl,?_⟩
  have e:l0=[]:=List.length_eq_zero_iff.1 h0
  subst e
  exact h
 ·obtain⟨_,⟨hv,h1⟩ | ⟨g,cap,cur,rfl,_⟩⟩:=h.own
  ·exact absurd h1 h0
  ·refine(reverse_some w0 w B g l0.length cap l0 h rfl hn2 (by omega) hw).mono ?_
   rintro e w' ⟨rfl,h2,h3⟩
   exact⟨rfl,h2⟩
theorem Xk (a:Option Addr) (cap:Nat) (l:List (List Int)) (w:World) (hq:∀ x ∈ l,IdW x) (hl:l.length<=100000) (hP:Pa w a cap l) (ha:True) :
  Calls Tryz.prog 22 #[.slice a l.length cap] w fun e w'=>∃ v,e=.returned v/\Bi 56 w w' w.heap.size v l.reverse:=by
 have HC:Hid (Calls Tryz.prog 36 #[.slice a l.length cap] w fun e w'=>∃ v,e=.returned v/\Bi 56 w w' w.heap.size v l):=clone_any a cap l w hq hl hP ha
 have HQ:Hid (∀ x ∈ l,IdW x):=hq
 obtain⟨N,HN⟩:=nm_ l.length
 have HNL:Hid (l.length<=100000):=hl
 rw[HN.out] at HC ⊢
 clear hP hq
 go_enter Tryz.func22,Tryz.ntmps22
 go_wp2_with fail
 refine HC.out.mono ?_
 rintro ev w1 ⟨v,rfl,hb⟩
 have HR:Hid (Calls Tryz.prog 37 #[v] w1 fun e w'=>e=.returned (.tuple #[])/\Bi 56 w w' w.heap.size v l.reverse):=reverse_any w w1 w.heap.size v l hb HNL.out HQ.out
 clear hb
 go_wp2_with fail
 refine HR.out.mono ?_
 rintro ev w2 ⟨rfl,h2⟩
 have H2:Hid (Bi 56 w w2 w.heap.size v l.reverse):=h2
 clear h2
 go_wp2
 go_ret
 exact⟨v,rfl,H2.out⟩
section
variable {α : Type} {enc : α → List Value} {k : Nat}
theorem Bx.move {e:TypeId} {w0 w w':World} {B:Nat} {v:Value} {l:List α} {row:Option Nat} (h:Bx enc k e w0 w B v l) (hg:w.grownBy w' row) (hne:v.ownBlock=none ∨ v.ownBlock ≠ row):Bx enc k e w' w' B v l :=
 ⟨Below.refl _ _,h.own.kept hg hne,Nat.le_trans h.le hg.size⟩
theorem Bx.re {e:TypeId} {w0 w:World} {B:Nat} {v:Value} {l:List α} (h:Bx enc k e w0 w B v l):Bx enc k e w w B v l:=⟨Below.refl _ _,h.own,h.le⟩
theorem Bx.moveB {e:TypeId} {w0 w w':World} {B:Nat} {v:Value} {l:List α} (h:Bx enc k e w0 w B v l) (hb:Below w.heap.size w w'):Bx enc k e w' w' B v l:=h.move (row:=none) (zw hb _) (by cases hv:v.ownBlock <;> simp)
theorem Bx.cut {e:TypeId} {w0 w:World} {B g n cap:Nat} {l:List α} (h:Bx enc k e w0 w B (.slice (some ⟨g,0,none⟩) n cap) l) (hw:∀ y ∈ l,(enc y).length=k) (j:Nat) (hj:j<=l.length):Bx enc k e w0 w B (.slice (some ⟨g,0,none⟩) j cap) (l.take j):=by
 refine⟨h.below,?_,h.le⟩
 have hlt:(l.take j).length=j:=by rw[List.length_take];omega
 rw[hlt]
 obtain⟨h1,⟨hv,_⟩ | ⟨g',cap',cur,hv,h2,h3,h4,h5,h6,h7⟩⟩:=h.own
 ·cases hv
 ·cases hv
  refine⟨by rw[Z6 (k:=k) _ (fun y hy=>hw y (List.mem_of_mem_take hy)),hlt],.inr ⟨g,cap,cur,rfl,h2,h3,by omega,h5,h6,?_⟩⟩
  have hjk:j*k<=l.length*k:=Nat.mul_le_mul_right k hj
  have e1:cur.toList.take (j*k)=(l.flatMap enc).take (j*k):=by rw[<-h7,List.take_take,Nat.min_eq_left hjk]
  rw[e1]
  conv=>lhs;rw[<-List.take_append_drop j l,List.flatMap_append]
  rw[List.take_append_of_le_length (by rw[Z6 (k:=k) _ (fun y hy=>hw y (List.mem_of_mem_take hy)),hlt];exact Nat.le_refl _),List.take_of_length_le (by rw[Z6 (k:=k) _ (fun y hy=>hw y (List.mem_of_mem_take hy)),hlt];exact Nat.le_refl _)]
end
theorem SI.congr {w:World} {g n:Nat} {S T:List Int->Prop} (h:SI w g n S) (he:∀ x,S x ↔ T x):SI w g n T:=by
 obtain⟨D,h1,h2⟩:=h
 exact⟨D,h1,fun x kl hk=>(h2 x kl hk).trans (he x)⟩
theorem YV {α:Type} [DecidableEq α] : ∀ (M L:List α),M.Nodup->(∀ y ∈ M,y ∈ L)->M.length<=L.length
 | [],L,_,_=>Nat.zero_le _
 | x :: M,L,h,hs=>by
  have hx:=hs x (by simp)
  have h2:=List.nodup_cons.1 h
  have:=YV M (L.erase x) h2.2 (fun y hy=>(List.mem_erase_of_ne (fun e=>h2.1 (by rw[<-e];exact hy))).2 (hs y (by simp[hy])))
  rw[List.length_erase_of_mem hx] at this
  have:=List.length_pos_of_mem hx
  simp only[List.length_cons]
  omega
end Go.Proofs.YticgindfipobiaaGreatDoor.Gr
namespace Go.Proofs.YticgindfipobiaaGreatDoor.Gr
open Go.RowKit Go.Shelf
theorem Xv (b:Nat) (w:World):∀ (zs:List Int) (off:Nat) (acc:ByteArray),(∀ i,i<zs.length->w.cell? ⟨b,off+i,none⟩=some (.int .u8 (zs.getD i 0))) →
  (Extern.Bytes.loadBytes ⟨b,off,none⟩ zs.length acc).run Tryz.prog w=.ok ⟨acc.data++(Lib.bytesOf zs).toArray⟩ w
 | [],off,acc,_=>by
  show (pure acc:Sem ByteArray).run Tryz.prog w=_
  simp[Lib.bytesOf]
 | z :: zs,off,acc,h=>by
  have h0:=h 0 (by simp)
  simp only[Nat.add_zero,List.getD_cons_zero] at h0
  have ih:=Xv b w zs (off+1) (acc.push z.toNat.toUInt8) (fun i hi=>by
   have:=h (i+1) (by simpa using hi)
   rw[show off+1+i=off+(i+1) by omega,this]
   simp)
  have hl:(load (⟨b,off,none⟩:Addr)).run Tryz.prog w=.ok (.int .u8 z) w:=by simp[go_sem,h0]
  show (Extern.Bytes.loadBytes ⟨b,off,none⟩ (zs.length+1) acc).run Tryz.prog w=_
  unfold Extern.Bytes.loadBytes
  rw[Sem.run_bind,hl]
  simp only[Result.andThen_ok]
  rw[qz,ih]
  congr 2
  simp[Lib.bytesOf,ByteArray.push]
theorem run_bytesOf {w:World} {a:Option Addr} {cap:Nat} {zs:List Int} (h:Sl w a cap zs):(Extern.Bytes.bytesOf (.slice a zs.length cap)).run Tryz.prog w=.ok ⟨(Lib.bytesOf zs).toArray⟩ w:=by
 cases a with
 | none =>
  have:=h.nil rfl
  have:=h.capl
  obtain rfl:zs=[]:=List.length_eq_zero_iff.1 (by omega)
  show (pure ByteArray.empty:Sem ByteArray).run Tryz.prog w=_
  simp[Lib.bytesOf]
  rfl
 | some ad =>
  by_cases h0:zs.length=0
  ·obtain rfl:zs=[]:=List.length_eq_zero_iff.1 h0
   show (Extern.Bytes.loadBytes ad 0 .empty).run Tryz.prog w=_
   show (pure ByteArray.empty:Sem ByteArray).run Tryz.prog w=_
   simp[Lib.bytesOf]
   rfl
  ·obtain⟨b,off,e,_,hc⟩:=h.at_ (by omega)
   cases e
   show (Extern.Bytes.loadBytes ⟨b,off,none⟩ zs.length .empty).run Tryz.prog w=_
   rw[Xv b w zs off .empty hc]
   simp
set_option maxHeartbeats 1000000 in
theorem Y7 (a a':Option Addr) (c c':Nat) (x y:List Int) (w:World) (hx:Sl w a c x) (hy:Sl w a' c' y) :
  Calls Tryz.prog 47 #[.slice a x.length c,.slice a' y.length c'] w fun e w'=>e=.returned (.int .i64 (Lib.compareBytes (Lib.bytesOf x) (Lib.bytesOf y)))/\w'=w:=by
 have HR:Hid ((Extern.BytealgCompare.compare #[.slice a x.length c,.slice a' y.length c']).run Tryz.prog w=.ok (.int .i64 (Lib.compareBytes (Lib.bytesOf x) (Lib.bytesOf y))) w):=hid (by
  change Sem.run Tryz.prog (do pure (goInt (Extern.BytealgCompare.cmp (<-Extern.Bytes.bytesOf (.slice a x.length c)) (<-Extern.Bytes.bytesOf (.slice a' y.length c'))))) w=_
  simp only[Sem.run_bind,run_bytesOf hx,run_bytesOf hy,Sem.run_pure,Result.andThen_ok]
  rw[Lib.cmp_eq]
  rfl)
 have h69:=@run_callFunc_extern Tryz.prog 66 _ Extern.BytealgCompare.compare Tryz.func66 (by kernel_rfl) (by kernel_rfl) (by kernel_rfl) (by kernel_rfl)
 obtain⟨n,HN⟩:=nm_ x.length
 obtain⟨m,HM⟩:=nm_ y.length
 obtain⟨r,HRR⟩:=nm_ (Lib.compareBytes (Lib.bytesOf x) (Lib.bytesOf y))
 rw[HN.out,HM.out,HRR.out] at HR
 rw[HN.out,HM.out,HRR.out]
 clear hx hy
 go_enter Tryz.func47,Tryz.ntmps47
 go_wp2_with fail
 rw[HR.out]
 simp only[Result.andThen]
 rw[Oper.upon_value]
 go_wp2
 go_ret
 exact⟨rfl,rfl⟩
theorem cb_iff:∀ a b:List UInt8,Lib.compareBytes a b<0 ↔ a<b
 | [],[]=>by simp[Lib.compareBytes]
 | [],b :: bs=>by simp[Lib.compareBytes]
 | a :: xs,[]=>by simp[Lib.compareBytes]
 | a :: xs,b :: bs=>by
  rw[Lib.compareBytes,List.cons_lt_cons_iff,<-cb_iff xs bs]
  by_cases h1:a<b
  ·simp[h1]
  ·rw[if_neg h1]
   by_cases h2:b<a
   ·rw[if_pos h2]
    have hne:a ≠ b:=fun e=>by rw[e] at h2;exact absurd h2 (by rw[UInt8.lt_iff_toNat_lt];omega)
    simp[h1,hne]
   ·rw[if_neg h2]
    have he:a=b:=by
     rw[UInt8.lt_iff_toNat_lt] at h1 h2
     exact UInt8.toNat_inj.1 (by omega)
    simp[h1,he]
theorem jw (a b c:List UInt8) (h1:a<b) (h2:b<c):a<c:=List.lt_trans h1 h2
theorem XZ (a b c:List UInt8) (h1:¬ a<b) (h2:¬ b<c):¬ a<c:=List.not_lt.2 (List.le_trans (List.not_lt.1 h2) (List.not_lt.1 h1))
theorem uK (a:List UInt8):¬ a<a:=List.lt_irrefl a
theorem id_sl {w:World} {g:Nat} {x:List Int} {t:TypeId} (h:w.heap[g]? = some (.cells (row .u8 x).toArray t (0,0))) (hl:x.length=20):Sl w (some ⟨g,0,none⟩) 20 x :=
 ⟨by omega,fun _=>⟨g,0,rfl,z6 h,fun i hi=>by
  rw[Nat.zero_add]
  exact qx h i hi⟩,fun e=>by cases e⟩
structure Two (g h:Nat) (X Y:List Value) (t:TypeId) (W:World):Prop where
 x:W.heap[g]? = some (.cells X.toArray t (0,0))
 y:W.heap[h]? = some (.cells Y.toArray t (0,0))
theorem ZW (v1 v2:Value) (w:World):(callFunc 47 #[v1,v2]).run Tryz.prog w=.ok (.enter 47 #[v1,v2]) w:=by kernel_rfl
def cmpI (x y:List Int):Int:=Lib.compareBytes (Lib.bytesOf x) (Lib.bytesOf y)
end Go.Proofs.YticgindfipobiaaGreatDoor.Gr
namespace Go.Proofs.YticgindfipobiaaGreatDoor.Gr
open Go.RowKit
theorem MI.at {w w':World} {g n s:Nat} {f:List Int->Option Int} (h:MI w g n f s) (he:w'.heap[g]? = w.heap[g]?):MI w' g n f s:=by
 obtain⟨D,⟨es,clock,h1,h2⟩,h3⟩:=h
 exact⟨D,⟨es,clock,he.trans h1,h2⟩,h3⟩
theorem Bx.at {α:Type} {enc:α->List Value} {k:Nat} {e:TypeId} {w0 w w':World} {B:Nat} {v:Value} {l:List α} (h:Bx enc k e w0 w B v l) (hs:w.heap.size<=w'.heap.size) (he:∀ q,v.ownBlock=some q->w'.heap[q]? = w.heap[q]?):Bx enc k e w' w' B v l:=by
 refine⟨Below.refl _ _,?_,Nat.le_trans h.le hs⟩
 obtain⟨h1,⟨hv,h2⟩ | ⟨g,cap,cur,hv,h2,h3,h4⟩⟩:=h.own
 ·exact⟨h1,.inl ⟨hv,h2⟩⟩
 ·exact⟨h1,.inr ⟨g,cap,cur,hv,h2,(he g (by rw[hv];rfl)).trans h3,h4⟩⟩
section
variable {G Qb B Bo gw q q' : Nat} {w wr w' : World} {f f' : List Int → Option Int} {v v' vo vo' : Value} {Q Q' : List Nd} {O O' : List (List Int)}
end
theorem laid {w w3:World} {zr:Array Value} {R:List Value} {t H:Nat} (e:(w.alloc (.cells zr t)).setRow w.heap.size R.toArray=w3) (hH:w.heap.size=H):Below w.heap.size w w3/\w3.heap[H]? = some (.cells R.toArray t (0,0)):=by
 subst hH
 rw[<-e]
 exact⟨below_setRow ((Below.refl _ w).alloc (Nat.le_refl _) _) (Nat.le_refl _) _,setRow_heap _ _ _ R.toArray _ _ (heap_alloc_new w _)⟩
theorem mapM_all {α β:Type} {f:α->Option β} : ∀ {l:List α} {ys:List β},l.mapM f=some ys->∀ i ∈ l,∃ y,f i=some y
 | [],ys,h,i,hi=>by cases hi
 | a :: r,ys,h,i,hi=>by
  rw[List.mapM_cons] at h
  cases ha:f a with
  | none=>rw[ha] at h;simp at h
  | some y =>
   rw[ha] at h
   cases hr:r.mapM f with
   | none=>rw[hr] at h;simp at h
   | some zs =>
    rcases List.mem_cons.1 hi with rfl | hi
    ·exact⟨y,ha⟩
    ·exact mapM_all hr i hi
theorem key_inv {v:Value} {kl:Lit} (h:keyOf Tryz.prog 56 v=some kl):∃ x,IdW x/\v=idV x:=by
 unfold keyOf at h
 rw[Tryz.underlying56] at h
 simp only at h
 split at h
 case isFalse=>cases h
 case isTrue hf =>
  have hform:v.formed Tryz.prog 56=true:=by
   cases hv:v.formed Tryz.prog 56 with
   | true=>rfl
   | false=>rw[hv,Bool.and_false] at hf;cases hf
  cases v with
  | agg cs =>
   have hsz:cs.size=20:=by
    simp only[Value.formed,Tryz.underlying56,YK] at hform
    exact of_decide_eq_true hform
   rw[types194] at h
   have hk:∃ ls,Tryz.prog.keyLits (358+1) 56 cs.toList=some ls:=by
    cases hl:Tryz.prog.keyLits (358+1) 56 cs.toList with
    | none =>
     have h2:Option.map (fun ls=>Lit.string (keyBytes ls)) (Tryz.prog.keyLits (358+1) 56 cs.toList)=some kl:=h
     rw[hl] at h2;cases h2
    | some ls=>exact⟨ls,rfl⟩
   obtain⟨ls,hls⟩:=hk
   have hlen:cs.toList.length=20:=by rw[Array.length_toList];exact hsz
   unfold Program.keyLits at hls
   rw[Tryz.underlying56] at hls
   simp only[YK,hlen,if_true] at hls
   have hall:∀ i,i<20->∃ n,0<=n/\n<256/\cs.toList[i]? = some (.int .u8 n):=by
    intro i hi
    cases hm:(List.range 20).mapM (fun i=>Tryz.prog.keyLits 358 5 ((cs.toList.drop (i*Tryz.prog.cellsOf 5)).take (Tryz.prog.cellsOf 5))) with
    | none=>rw[hm] at hls;cases hls
    | some ys =>
     obtain⟨y,hy⟩:=mapM_all hm i (List.mem_range.2 hi)
     rw[cells5,Nat.mul_one,List.drop_eq_getElem_cons (by omega)] at hy
     simp only[List.take_succ_cons,List.take_zero] at hy
     unfold Program.keyLits at hy
     rw[Tryz.underlying5] at hy
     rw[List.getElem?_eq_getElem (by omega)]
     generalize cs.toList[i]=c at hy ⊢
     cases c with
     | int q n =>
      simp only at hy
      split at hy
      ·rename_i hq
       obtain⟨rfl,hw⟩:=hq
       have:0<=n/\n<256:=by
        simp[Lit.wf,IntKind.min,IntKind.max,IntKind.signed,IntKind.bits] at hw
        omega
       exact⟨n,this.1,this.2,rfl⟩
      ·cases hy
     | _=>simp at hy
   refine⟨cs.toList.map (fun v=>match v with | .int _ n=>n | _=>0),⟨by simp[hlen],fun n hn=>?_⟩,?_⟩
   ·obtain⟨v,hv,rfl⟩:=List.mem_map.1 hn
    obtain⟨i,hi⟩:=List.getElem?_of_mem hv
    have hi2:=(List.getElem?_eq_some_iff.1 hi).1
    obtain⟨n,h1,h2,h3⟩:=hall i (by omega)
    rw[hi] at h3
    cases h3
    exact⟨h1,h2⟩
   ·unfold idV row
    congr 1
    apply Array.toList_inj.1
    rw[List.map_map]
    refine(List.map_id cs.toList).symm.trans (List.map_congr_left (fun v hv=>?_))
    obtain⟨i,hi⟩:=List.getElem?_of_mem hv
    have hi2:=(List.getElem?_eq_some_iff.1 hi).1
    obtain⟨n,h1,h2,h3⟩:=hall i (by omega)
    rw[hi] at h3
    cases h3
    rfl
  | _=>simp[Value.formed,Tryz.underlying56] at hform
def SR (w:World) (g r n:Nat) (S Lf:List Int->Prop) (cnt:Nat):Prop := ∃ D left,w.ranges (H:=Unit) Tryz.prog 56 unitElem g r n D left cnt/\(∀ x kl,keyOf Tryz.prog 56 (idV x)=some kl->(Maps.has D kl=true ↔ S x))/\(∀ x kl,keyOf Tryz.prog 56 (idV x)=some kl->(left kl=true ↔ Lf x))
theorem ranges_has {w:World} {b r n cnt:Nat} {D:DataW Unit} {left:Lit->Bool} (h:w.ranges (H:=Unit) Tryz.prog 56 unitElem b r n D left cnt) (kl:Lit) (hk:left kl=true):Maps.has D kl=true:=by
 obtain⟨es,clock,since,seen,c0,hb,F,hs,rfl,hr,hold,hc,hl1,hl2,hsc,hsk⟩:=h
 obtain⟨x,hx,rfl⟩:=hl2 kl hk
 obtain⟨y,hy⟩:=F.reads x hx
 exact List.any_eq_true.2 ⟨WideElems.rg Tryz.prog 56 unitElem x,mem_sorted.2 (List.mem_map.2 ⟨x,hx,rfl⟩),WideAt.sameKey_self (by rw[WideElems.rg_of hy];exact vx.key (WideElems.rd_key hy))⟩
theorem SI.range {w:World} {g n:Nat} {S:List Int->Prop} (h:SI w g n S):∃ w' cnt,(Instr.range 49 (.map (some g))).run Tryz.prog w=.ok (.pointer (some ⟨w.heap.size,0,none⟩)) w'/\SR w' g w.heap.size n S S cnt/\cnt<=n/\w.grownBy w' none:=by
 obtain⟨D,h1,h2⟩:=h
 obtain⟨w',hrun,r1,r2,r3⟩:=h1.range vx und68
 exact⟨w',_,hrun,⟨D,_,r1,h2,h2⟩,h1.size_le,r2⟩
theorem SR.lt {w:World} {g r n cnt:Nat} {S Lf:List Int->Prop} (h:SR w g r n S Lf cnt):r<w.heap.size:=by
 obtain⟨D,left,h1,_⟩:=h
 exact h1.lt
theorem SR.ne {w:World} {g r n cnt:Nat} {S Lf:List Int->Prop} (h:SR w g r n S Lf cnt):r ≠ g:=by
 obtain⟨D,left,h1,_⟩:=h
 exact h1.ne
theorem SR.kept {w w':World} {g r n cnt:Nat} {S Lf:List Int->Prop} {row:Option Nat} (h:SR w g r n S Lf cnt) (hg:w.grownBy w' row) (hb:some g ≠ row) (hr:some r ≠ row):SR w' g r n S Lf cnt:=by
 obtain⟨D,left,h1,h2⟩:=h
 exact⟨D,left,h1.kept hg hb hr,h2⟩
theorem SR.below {w w':World} {g r n cnt:Nat} {S Lf:List Int->Prop} (h:SR w g r n S Lf cnt) (hb:Below w.heap.size w w'):SR w' g r n S Lf cnt:=h.kept (row:=none) (zw hb _) (by simp) (by simp)
theorem SR.next {w:World} {g r n cnt:Nat} {S Lf:List Int->Prop} (h:SR w g r n S Lf cnt) (ty:TypeId) :
  ((∀ x,IdW x->¬ Lf x)/\(Instr.next (.pointer (some ⟨r,0,none⟩)) false ty).run Tryz.prog w=.ok (.tuple #[.bool false]) w) ∨
  ∃ x w' cnt',IdW x/\Lf x/\S x/\(Instr.next (.pointer (some ⟨r,0,none⟩)) false ty).run Tryz.prog w=.ok (.tuple #[.bool true,idV x,.agg #[]]) w'/\SR w' g r n S (fun y=>Lf y/\y ≠ x) cnt'/\cnt'<cnt/\w.grownBy w' (some r)/\(Instr.entry (.pointer (some ⟨r,0,none⟩))).run Tryz.prog w'=.ok (.tuple #[idV x,.agg #[]]) w':=by
 obtain⟨D,left,h1,h2,h3⟩:=h
 rcases h1.next vx ty with ⟨_,hl,hrun⟩ | ⟨key,v,kl,y,w',cnt',hkey,hlk,hv,hat,hrun,hrg,hlt,hgr,hsz,hen⟩
 ·refine .inl ⟨fun x hx hl2=>?_,hrun⟩
  obtain⟨kl,hkl⟩:=Xy x hx.1 hx.2
  have:=(h3 x kl hkl).2 hl2
  rw[hl kl] at this
  cases this
 ·obtain⟨x,hx,rfl⟩:=key_inv hkey
  obtain⟨rfl,_⟩:=unitElem_inv hv
  refine .inr ⟨x,w',cnt',hx,(h3 x kl hkey).1 hlk,(h2 x kl hkey).1 (ranges_has h1 kl hlk),hrun,⟨D,_,hrg,h2,fun z kz hkz=>?_⟩,hlt,hgr,hen⟩
  simp only[Bool.and_eq_true,Bool.not_eq_true']
  rw[h3 z kz hkz]
  constructor
  ·rintro⟨a1,a2⟩
   refine⟨a1,fun e=>?_⟩
   subst e
   rw[hkz] at hkey
   cases hkey
   rw[WideAt.sameKey_self (vx.key hkz)] at a2
   cases a2
  ·rintro⟨a1,a2⟩
   refine⟨a1,?_⟩
   cases hs:kz.sameKey kl with
   | false=>rfl
   | true =>
    have:=WideAt.sameKey_eq hs
    subst this
    exact absurd (key_eq hkz hkey) a2
end Go.Proofs.YticgindfipobiaaGreatDoor.Gr
