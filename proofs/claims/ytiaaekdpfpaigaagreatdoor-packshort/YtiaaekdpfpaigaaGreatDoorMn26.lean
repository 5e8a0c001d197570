import Derived.Test.YtiaaekdpfpaigaaGreatDoorMn25
set_option linter.unusedSimpArgs false
set_option linter.unusedVariables false
set_option maxRecDepth 20000
set_option maxHeartbeats 4000000
open Array renaming any_eq_true->Wv8,getElem_mem->Wv9
open List renaming length_append->Wz6
open Nat renaming le_trans->Wqx,lt_or_ge->WzW
namespace Go.Proofs.YtiaaekdpfpaigaaGreatDoor.Pk
open Go.RowKit Go.Maps Go.Proofs.YtiaaekdpfpaigaaGreatDoor.Id Go.Proofs.YtiaaekdpfpaigaaGreatDoor.Px
structure Wt (w0 w:World) (B gw K N:Nat) (es:List En) (wr hs:List Bs) (ov wv hv:Value):Prop where
 box:w.heap[gw]? = some (.cells #[ov,wv,hv] 58 (0,0))
 out:Bd w0 w B ov (pkb N es)
 wr:Bx (kz K) 4 95 w0 w B wv wr
 hs:Bx (kz K) 4 95 w0 w B hv hs
 gB:B<=gw
 n1:ov.ownBlock ≠ some gw
 n2:wv.ownBlock ≠ some gw
 n3:hv.ownBlock ≠ some gw
 n4:∀ b,ov.ownBlock=some b->wv.ownBlock ≠ some b/\hv.ownBlock ≠ some b
 n5:∀ b,wv.ownBlock=some b->hv.ownBlock ≠ some b
theorem Wt.go {w0 w w':World} {B gw K N:Nat} {es:List En} {wr hs:List Bs} {ov wv hv:Value} (h:Wt w0 w B gw K N es wr hs ov wv hv) (hb:Below w.heap.size w w'):Wt w0 w' B gw K N es wr hs ov wv hv :=
 ⟨(hb.block _ (lt_of_some h.box)).trans h.box,h.out.carry hb,h.wr.carry hb,h.hs.carry hb,h.gB,h.n1,h.n2,h.n3,h.n4,h.n5⟩
theorem E5 (w:World) (g i:Nat) (x:Value):w.grownBy (w.setCell ⟨g,i,none⟩ x) (some g) :=
 ⟨rfl,rfl,rfl,by simp[World.setCell],fun k hk hne=>heap_setCell_other _ _ _ _ (fun e=>hne (by rw[e]))⟩
theorem E6 {w0 w:World} {B:Nat} {v:Value} {out:List Int} (h:Bd w0 w B v out) (g i:Nat) (x:Value) (hB:B<=g) (hne:v.ownBlock ≠ some g):Bd w0 (w.setCell ⟨g,i,none⟩ x) B v out :=
 ⟨h.below.setCell hB _,h.own.kept (E5 w g i x) (.inr hne),Wqx h.le (E5 w g i x).size⟩
theorem Bx.set1 {α:Type} {enc:α->List Value} {k:Nat} {e:TypeId} {w0 w:World} {B:Nat} {v:Value} {l:List α} (h:Bx enc k e w0 w B v l) (g i:Nat) (x:Value) (hB:B<=g) (hne:v.ownBlock ≠ some g):Bx enc k e w0 (w.setCell ⟨g,i,none⟩ x) B v l :=
 ⟨h.below.setCell hB _,h.own.kept (E5 w g i x) (.inr hne),Wqx h.le (E5 w g i x).size⟩
theorem Bx.by {α:Type} {enc:α->List Value} {k:Nat} {e:TypeId} {w0 w w':World} {B:Nat} {v u:Value} {l:List α} (h:Bx enc k e w0 w B v l) (hg:w.grownBy w' u.ownBlock) (hu:∀ b,u.ownBlock=some b->B<=b) (hne:∀ b,u.ownBlock=some b->v.ownBlock ≠ some b):Bx enc k e w0 w' B v l :=
 ⟨h.below.grown hg h.le hu,h.own.kept hg (by
  cases hv:u.ownBlock with
  | none=>cases hq:v.ownBlock <;> simp
  | some b=>exact .inr (hne b hv)),Wqx h.le hg.size⟩
theorem qqV {w0 w w':World} {B:Nat} {v u:Value} {l:List Int} (h:Bd w0 w B v l) (hg:w.grownBy w' u.ownBlock) (hu:∀ b,u.ownBlock=some b->B<=b) (hne:∀ b,u.ownBlock=some b->v.ownBlock ≠ some b):Bd w0 w' B v l :=
 ⟨h.below.grown hg h.le hu,h.own.kept hg (by
  cases hv:u.ownBlock with
  | none=>cases hq:v.ownBlock <;> simp
  | some b=>exact .inr (hne b hv)),Wqx h.le hg.size⟩
theorem VK {w:World} {g:Nat} {A:Array Value} {t:TypeId} (i:Nat) (v:Value) (h:w.heap[g]? = some (.cells A t (0,0))):(w.setCell ⟨g,i,none⟩ v).heap[g]? = some (.cells (A.setIfInBounds i v) t (0,0)):=by
 simpa using Dl.heap_set w g i v h
theorem YX {w w':World} {v v':Value} (h:Dl.Mv w w' v v') {b:Nat} (h1:v.ownBlock ≠ some b) (h2:b<w.heap.size):v'.ownBlock ≠ some b:=fun e=>by
 rcases h.at_ with a | a
 ·exact h1 (a ▸ e)
 have:=a b e;omega
theorem Wt.put0 {w0 w w':World} {B gw K N:Nat} {es:List En} {wr hs:List Bs} {ov wv hv ov':Value} {e:En} (h:Wt w0 w B gw K N es wr hs ov wv hv) (hb:Bd w0 w' B ov' (pkb N es++enb e)) (hg:w.grownBy w' ov.ownBlock) (hm:Dl.Mv w w' ov ov') :
  Wt w0 (w'.setCell ⟨gw,0,none⟩ ov') B gw K N (es++[e]) wr hs ov' wv hv:=by
 have hbx:w'.heap[gw]? = some (.cells #[ov,wv,hv] 58 (0,0)):=(hg.block _ (lt_of_some h.box) (fun e=>h.n1 e.symm)).trans h.box;have n1:=YX hm h.n1 (lt_of_some h.box);have hu:∀ b,ov.ownBlock=some b->B<=b:=fun b hb=>(zJ h.out.own b hb).1;have lt1:∀ b,wv.ownBlock=some b->b<w.heap.size:=fun b hb=>(zJ h.wr.own b hb).2
 have lt2:∀ b,hv.ownBlock=some b->b<w.heap.size:=fun b hb=>(zJ h.hs.own b hb).2;refine⟨by simpa using VK 0 ov' hbx,by rw[zv3];exact E6 hb gw 0 _ h.gB n1,(h.wr.by hg hu (fun b e=>(h.n4 b e).1)).set1 gw 0 _ h.gB h.n2,(h.hs.by hg hu (fun b e=>(h.n4 b e).2)).set1 gw 0 _ h.gB h.n3,h.gB,n1,h.n2,h.n3,fun b hb=>⟨fun e=>?_,fun e=>?_⟩,h.n5⟩
 ·exact YX hm (fun e'=>(h.n4 b e').1 e) (lt1 b e) hb
 exact YX hm (fun e'=>(h.n4 b e').2 e) (lt2 b e) hb
theorem Wt.put1 {w0 w w':World} {B gw K N:Nat} {es:List En} {wr wr' hs:List Bs} {ov wv hv wv':Value} (h:Wt w0 w B gw K N es wr hs ov wv hv) (hb:Bx (kz K) 4 95 w0 w' B wv' wr') (hg:w.grownBy w' wv.ownBlock) (hm:Dl.Mv w w' wv wv') :
  Wt w0 (w'.setCell ⟨gw,1,none⟩ wv') B gw K N es wr' hs ov wv' hv:=by
 have hbx:w'.heap[gw]? = some (.cells #[ov,wv,hv] 58 (0,0)):=(hg.block _ (lt_of_some h.box) (fun e=>h.n2 e.symm)).trans h.box;have n2:=YX hm h.n2 (lt_of_some h.box);have hu:∀ b,wv.ownBlock=some b->B<=b:=fun b hb=>(zJ h.wr.own b hb).1;have lt1:∀ b,ov.ownBlock=some b->b<w.heap.size:=fun b hb=>(zJ h.out.own b hb).2
 have lt2:∀ b,hv.ownBlock=some b->b<w.heap.size:=fun b hb=>(zJ h.hs.own b hb).2
 refine⟨by simpa using VK 1 wv' hbx,E6 (qqV h.out hg hu (fun b e e'=>(h.n4 b e').1 e)) gw 1 _ h.gB h.n1,hb.set1 gw 1 _ h.gB n2,(h.hs.by hg hu (fun b e=>h.n5 b e)).set1 gw 1 _ h.gB h.n3,h.gB,h.n1,n2,h.n3,fun b hb=>⟨YX hm (h.n4 b hb).1 (lt1 b hb),(h.n4 b hb).2⟩,fun b hb e=>YX hm (fun e'=>h.n5 b e' e) (lt2 b e) hb⟩
theorem Wt.put2 {w0 w w':World} {B gw K N:Nat} {es:List En} {wr hs hs':List Bs} {ov wv hv hv':Value} (h:Wt w0 w B gw K N es wr hs ov wv hv) (hb:Bx (kz K) 4 95 w0 w' B hv' hs') (hg:w.grownBy w' hv.ownBlock) (hm:Dl.Mv w w' hv hv') :
  Wt w0 (w'.setCell ⟨gw,2,none⟩ hv') B gw K N es wr hs' ov wv hv':=by
 have hbx:w'.heap[gw]? = some (.cells #[ov,wv,hv] 58 (0,0)):=(hg.block _ (lt_of_some h.box) (fun e=>h.n3 e.symm)).trans h.box;have n3:=YX hm h.n3 (lt_of_some h.box);have hu:∀ b,hv.ownBlock=some b->B<=b:=fun b hb=>(zJ h.hs.own b hb).1;have lt1:∀ b,ov.ownBlock=some b->b<w.heap.size:=fun b hb=>(zJ h.out.own b hb).2
 have lt2:∀ b,wv.ownBlock=some b->b<w.heap.size:=fun b hb=>(zJ h.wr.own b hb).2
 refine⟨by simpa using VK 2 hv' hbx,E6 (qqV h.out hg hu (fun b e e'=>(h.n4 b e').2 e)) gw 2 _ h.gB h.n1,(h.wr.by hg hu (fun b e e'=>h.n5 b e' e)).set1 gw 2 _ h.gB h.n2,hb.set1 gw 2 _ h.gB n3,h.gB,h.n1,h.n2,n3,fun b hb=>⟨(h.n4 b hb).1,YX hm (h.n4 b hb).2 (lt1 b hb)⟩,fun b hb=>YX hm (h.n5 b hb) (lt2 b hb)⟩
structure Wp (K n:Nat) (hsb:List (List Int)) (es:List En) (wr hs:List Bs):Prop where
 oks:Oks K hsb es
 len:wr.length=es.length
 wx:∀ i,i<es.length->(wr.getD i dB).x.zs=(es.getD i dE).ob/\(wr.getD i dB).bg=off es i/\(wr.getD i dB).dp<=2
 w0:0<es.length->(wr.getD 0 dB).dp<=1
 hx:∀ y ∈ hs,y.x.zs ∈ hsb/\y.bg = -1/\y.dp=0
structure Gd (B:Nat) (w0:World) (n:Nat) (xs:List Oj):Prop where
 om:∀ W,Below B w0 W->∀ x ∈ xs,Om n W x
 tw:∀ W,Below B w0 W->Df.TabsW W
 tb:∀ W,Below B w0 W->Tab W
structure Cd (K:Nat) (hsb:List (List Int)) (es:List En) (x:Oj) (e:En) (dp:Nat):Prop where
 ok:Ok K hsb es es.length e
 ob:e.ob=x.zs
 pl:∃ z,Df.Defl x.zs z/\(enb e).length<=3+z.length
 dle:dp<=2
 d1:es.length=0->dp<=1
structure Src (K n at_:Nat) (hsb:List (List Int)) (es:List En) (x:Oj) (y:Bs) (k d:Nat) (id:List Int):Prop where
 hd:Hd K at_ y k d id
 k8:k=6 ∨ k=7
 dl:d<2113664
 il:id.length=20
 ib:IsB id
 dp:y.dp+1<=2
 d1:es.length=0->y.dp+1<=1
 ok:∀ raw z,Df.Defl raw z->IsB raw->raw.length<=30000->Dl.Plain.app y.x.zs raw=some x.zs->Ok K hsb es es.length ⟨k,d,id,raw,z,x.zs⟩
theorem qzz {K n:Nat} {hsb:List (List Int)} {es:List En} {wr hs:List Bs} (hP:Wp K n hsb es wr hs) {x:Oj} (hx:IsB x.zs) (hl:x.zs.length<=20000) {y:Bs} (hy:y ∈ hs):Src K n (off es es.length) hsb es x y 7 0 (idZ K y.x.zs):=by
 obtain⟨h1,h2,h3⟩:=hP.hx y hy;exact⟨⟨.inl ⟨h2,rfl,rfl,rfl⟩⟩,.inr rfl,by omega,X7 _ _,Sz _ _,by omega,fun _=>by omega,fun raw z a b c d=>⟨a,b,c,X7 _ _,Sz _ _,hx,hl,.inr (.inr ⟨rfl,rfl,_,h1,rfl,d⟩)⟩⟩
theorem qx8 {K n:Nat} {hsb:List (List Int)} {es:List En} {wr hs:List Bs} (hP:Wp K n hsb es wr hs) {x:Oj} (hx:IsB x.zs) (hl:x.zs.length<=20000) (h0:0<es.length) (ho:off es es.length<=250000):Src K n (off es es.length) hsb es x (wr.getD 0 dB) 6 (off es es.length-12) z20:=by
 obtain⟨h1,h2,h3⟩:=hP.wx 0 h0;have h4:=hP.w0 h0;have h5:12<=off es es.length:=by unfold off;omega
 exact⟨⟨.inr ⟨12,h2,h5,rfl,rfl,rfl⟩⟩,.inl rfl,by omega,rfl,VJ,by omega,fun h=>by omega,fun raw z a b c d=>⟨a,b,c,rfl,VJ,hx,hl,.inr (.inl ⟨rfl,h0,by show 12+(off es es.length-12)=_;omega,rfl,by rw[<-h1];exact d⟩)⟩⟩
theorem qx9 {K n at_:Nat} {hsb:List (List Int)} {es:List En} {x:Oj} {y:Bs} {k d:Nat} {id:List Int} (h:Src K n at_ hsb es x y k d id) (m:Nat) (hm:m<=30000):(hdb k m d id).length<=23:=by
 have a:=Ww k m (by omega);have b:=Wy 3 d 0;have c:=h.il;unfold hdb;rw[Wz6];split
 ·omega
 split
 ·omega
 simp only[List.length_nil];omega
theorem Cd.try {K n at_:Nat} {hsb:List (List Int)} {es:List En} {x:Oj} {e:En} {dp:Nat} (h:Cd K hsb es x e dp) {y:Bs} {k d:Nat} {id raw z:List Int} (hS:Src K n at_ hsb es x y k d id) (hz:Df.Defl raw z) (hb:IsB raw) (hl:raw.length<=30000) (ha:Dl.Plain.app y.x.zs raw=some x.zs)
  (hlt:(enb ⟨k,d,id,raw,z,x.zs⟩).length<(enb e).length):Cd K hsb es x ⟨k,d,id,raw,z,x.zs⟩ (y.dp+1):=by
 obtain⟨z0,h1,h2⟩:=h.pl;exact⟨hS.ok raw z hz hb hl ha,rfl,⟨z0,h1,by omega⟩,hS.dp,hS.d1⟩
theorem zzy {K n at_:Nat} {hsb:List (List Int)} {es:List En} {x:Oj} {y:Bs} {k d:Nat} {id:List Int} (hS:Src K n at_ hsb es x y k d id) {pre:List (List Int × List Int)} {bg:Nat} {z:List Int} (hc:Dl.Plain.Cu y.x.zs x.zs pre bg x.zs.length) (hz:Df.Defl (Dl.Plain.mk y.x.zs x.zs pre bg) z) (hl:y.x.zs.length<=20000) (ho:One y.x.zs x.zs) :
  (enb ⟨k,d,id,Dl.Plain.mk y.x.zs x.zs pre bg,z,x.zs⟩).length<=90:=by
 have a:=ho.short (by omega) hc;have b:=hz.le (by omega);have c:=qx9 hS (Dl.Plain.mk y.x.zs x.zs pre bg).length (by omega);unfold enb;simp only[Wz6];omega
end Go.Proofs.YtiaaekdpfpaigaaGreatDoor.Pk
namespace Go.Proofs.YtiaaekdpfpaigaaGreatDoor.Dl
open Go.RowKit Go.Maps
section
variable {P : Program} {md : Region.Mode} {ops : Array Oper} {Q : Exit → Act → World → Prop} {S : World → Prop} {n : Nat}
theorem zvX {i k0:Nat} {oi:Oper} {v:Value} (hi:ops[i]? = some oi) (hsel:∀ (j:Nat) (o:Oper) cs b,ops[j]? = some o->o.op ≠ .select cs b) (hn:waits md ops n k0=true) (hn2:waits md ops k0 i=true)
  (hQ:∀ c a w,Q (.panic c) (a.put oi.dst v) w->Q (.panic c) a w) :
  ∀ (fuel:Nat) (listed:Array Bool) (a:Act) (w:World),
   (∀ j oj,ops[j]? = some oj->j ≠ i->listed.getD j true=false->(∀ e ∈ oj.after,Region.binds md e=true->e.on ≠ i)->oi.apart ops oj=true) →
   listed.getD k0 true=false->i ∈ Region.ready md ops listed->YieldsIf P ops S oi v a->S w →
   anyU P md ops Q S n fuel (listed.setIfInBounds i true) (a.put oi.dst v) w->anyU P md ops Q S n (fuel+1) listed a w:=by
 intro fuel;induction fuel with
 | zero =>
  intro listed a w _ _ hr hy hS H;refine⟨fun h=>(by rw[h] at hr;cases hr),fun j hj=>?_⟩;by_cases hji:j=i
  ·subst hji;exact hy.wpOp hi hS ⟨.inr hS,H⟩
  have:=ready_mono hj hji;rw[H.1] at this;cases this
 | succ fuel ih =>
  intro listed a w hfree hk0 hr hy hS H;refine⟨fun h=>(by rw[h] at hr;cases hr),fun j hj=>?_⟩;by_cases hji:j=i
  ·subst hji;exact hy.wpOp hi hS ⟨.inr hS,H⟩
  have h1:=H.2 j (ready_mono hj hji);obtain⟨hjun,oj,hoj,hall⟩:=mem_ready.1 hj;have hnot:∀ e ∈ oj.after,Region.binds md e=true->e.on ≠ i:=fun e he hb heq=>by
   have g1:=hall e he hb;have g0:=(mem_ready.1 hr).1;rw[heq] at g1;rcases WzW i listed.size with h' | h'
   ·simp[h'] at g0 g1;rw[g0] at g1;cases g1
   simp[Array.getElem?_eq_none h'] at g1
  have hjk:j ≠ k0:=fun e=>by
   subst e;unfold waits at hn2;rw[hoj] at hn2;simp only[Wv8] at hn2;obtain⟨k,hk,hk2⟩:=hn2;simp only[Bool.and_eq_true,beq_iff_eq] at hk2;exact hnot _ (Wv9 hk) hk2.1 hk2.2
  have hjn:j ≠ n:=fun e=>by
   subst e;unfold waits at hn;rw[hoj] at hn;simp only[Wv8] at hn;obtain⟨k,hk,hk2⟩:=hn;simp only[Bool.and_eq_true,beq_iff_eq] at hk2;have g1:=hall _ (Wv9 hk) hk2.1;rw[hk2.2] at g1;rcases WzW k0 listed.size with h' | h'
   ·simp[h'] at hk0 g1;rw[hk0] at g1;cases g1
   simp[Array.getElem?_eq_none h'] at g1
  have h2:=wpOp_putIf hoj (hfree j oj hoj hji hjun hnot) (fun cs b=>hsel i oi cs b hi) (fun cs b=>hsel j oj cs b hoj) hQ hy h1;have hfree':∀ k ok,ops[k]? = some ok->k ≠ i->(listed.setIfInBounds j true).getD k true=false →
    (∀ e ∈ ok.after,Region.binds md e=true->e.on ≠ i)->oi.apart ops ok=true:=fun k ok hk hki hun hno=>by
   refine hfree k ok hk hki ?_ hno
   by_cases hjk2:j=k
   ·subst hjk2;exact hjun
   ·rw[getD_set_ne true hjk2] at hun;exact hun
  refine wpOp_mono (fun a' w' h3=>⟨h3.2.1,?_⟩) h2;have hS':S w':=h3.2.1.resolve_left hjn;refine ih (listed.setIfInBounds j true) a' w' hfree' (by rw[getD_set_ne true hjk];exact hk0) (ready_mono hr (Ne.symm hji)) h3.1 hS' ?_;rw[Array.setIfInBounds_comm _ _ hji];exact h3.2.2
end
theorem takeU2 {P:Program} {md:Region.Mode} {Q:Exit->Act->World->Prop} {S:World->Prop} {n:Nat} (k0:Nat) {l:List Oper} {i:Nat} {oi:Oper} {v:Value} {fuel:Nat} {listed:Array Bool} {a:Act} {w:World} (hi:l[i]? = some oi)
  (hs:Region.noSelect l.toArray=true) (hf:Region.free md l.toArray listed i=true) (hr:(Region.ready md l.toArray listed).contains i=true) (hn:waits md l.toArray n k0=true) (hn2:waits md l.toArray k0 i=true) (hk0:listed.getD k0 true=false)
  (hQ:∀ c a w,Q (.panic c) (a.put oi.dst v) w->Q (.panic c) a w) (hy:YieldsIf P l.toArray S oi v a) (hS:S w)
  (h:anyU P md l.toArray Q S n fuel (listed.setIfInBounds i true) (a.put oi.dst v) w):anyU P md l.toArray Q S n (fuel+1) listed a w:=by
 have hi':l.toArray[i]? = some oi:=by rw[List.getElem?_toArray];exact hi
 exact zvX hi' (Region.noSelect_spec hs) hn hn2 hQ fuel listed a w (Region.free_spec hi' hf) hk0 (by simpa using hr) hy hS h
end Go.Proofs.YtiaaekdpfpaigaaGreatDoor.Dl
namespace Go.Proofs.YtiaaekdpfpaigaaGreatDoor.Pk
open Go.RowKit Go.Maps Go.Proofs.YtiaaekdpfpaigaaGreatDoor.Id Go.Proofs.YtiaaekdpfpaigaaGreatDoor.Px
theorem zK {P:Program} {md:Region.Mode} {Q:Exit->Act->World->Prop} {S:World->Prop} {n:Nat} {l:List Oper} (i:Nat) {oi:Oper} {v:Value} {fuel:Nat} {listed:Array Bool} {a:Act} {w:World} (hS:S w)
  (h:Dl.anyU P md l.toArray Q S n fuel (listed.setIfInBounds i true) (a.put oi.dst v) w) (hi:l[i]? = some oi:=by rfl) (hg:Region.wanted oi (yielded l.toArray a.tmps)=true:=by rfl)
  (hs:Region.noSelect l.toArray=true:=by kernel_rfl) (hf:Region.free md l.toArray listed i=true:=by kernel_rfl) (hr:(Region.ready md l.toArray listed).contains i=true:=by kernel_rfl) (hn:Dl.waits md l.toArray n i=true:=by kernel_rfl) (hQ:∀ c a w,Q (.panic c) (a.put oi.dst v) w->Q (.panic c) a w:=by exact fun _ _ _ h=>h) (hy:∀ w',S w'->(execOp a.eval oi).run P w'=.ok (.value v) w':=by intro w' h;cases h;go_simp;first | done | rfl) :
  Dl.anyU P md l.toArray Q S n (fuel+1) listed a w:=Dl.takeU hi hs hf hr hn hQ (Or.inl ⟨hg,hy⟩) hS h
theorem G6 {P:Program} {md:Region.Mode} {Q:Exit->Act->World->Prop} {S:World->Prop} {n:Nat} {l:List Oper} (i k0:Nat) {oi:Oper} {v:Value} {fuel:Nat} {listed:Array Bool} {a:Act} {w:World} (hS:S w)
  (h:Dl.anyU P md l.toArray Q S n fuel (listed.setIfInBounds i true) (a.put oi.dst v) w) (hi:l[i]? = some oi:=by rfl) (hg:Region.wanted oi (yielded l.toArray a.tmps)=true:=by rfl)
  (hs:Region.noSelect l.toArray=true:=by kernel_rfl) (hf:Region.free md l.toArray listed i=true:=by kernel_rfl) (hr:(Region.ready md l.toArray listed).contains i=true:=by kernel_rfl) (hn:Dl.waits md l.toArray n k0=true:=by kernel_rfl) (hn2:Dl.waits md l.toArray k0 i=true:=by kernel_rfl) (hk0:listed.getD k0 true=false:=by kernel_rfl) (hQ:∀ c a w,Q (.panic c) (a.put oi.dst v) w->Q (.panic c) a w:=by exact fun _ _ _ h=>h) (hy:∀ w',S w'->(execOp a.eval oi).run P w'=.ok (.value v) w':=by intro w' h;cases h;go_simp;first | done | rfl) :
  Dl.anyU P md l.toArray Q S n (fuel+1) listed a w:=Dl.takeU2 k0 hi hs hf hr hn hn2 hk0 hQ (Or.inl ⟨hg,hy⟩) hS h
end Go.Proofs.YtiaaekdpfpaigaaGreatDoor.Pk
