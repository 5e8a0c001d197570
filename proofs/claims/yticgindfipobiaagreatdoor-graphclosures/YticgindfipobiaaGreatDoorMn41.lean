import Derived.Test.YticgindfipobiaaGreatDoorMn27
import Derived.RowKit
import Derived.Below
import Derived.WalkKit
import Derived.WalkSpells
import Derived.WalkLawsBesides
import Derived.Deep.AppendLies
import Derived.Deep.LoopGhost
import Derived.Deep.RegionWith
import Derived.Deep.QuietTactic
import Derived.BigQuiet
import Derived.Laws.BitsAllLaws
import Derived.Laws.CopyOwn
import Derived.Laws.IdiomCopy
import Derived.Deep.RegionHeld3
import Derived.Deep.RegionLaw
import Derived.Deep.DrawnRows
import Derived.Deep.MidRow
import Derived.Maps.AppendAt
import Derived.Deep.RegionHeld
import Derived.OrdersHeld
import Derived.Defers
import Derived.Recover
import Derived.LaidEql
import Derived.Stop.Asserts
import Derived.RowKitTokens
import Derived.Great.BuildSlice
import Derived.Maps.OwnSet
import Derived.Maps.OwnOps
import Derived.DeepKeys4
import Derived.WideKeyEntry
import Derived.Shelf.SlicesE.Clone
set_option linter.unusedSimpArgs false
set_option linter.unusedVariables false
set_option maxRecDepth 20000
set_option maxHeartbeats 4000000
namespace Go.Proofs.YticgindfipobiaaGreatDoor.Gr
open Go.RowKit
theorem yK {α:Type} (l:List α) (i:Nat) (d:α) (h:i<l.length):l.getD i d ∈ l:=by
 rw[List.getD_eq_getElem?_getD,List.getElem?_eq_getElem h]
 exact List.getElem_mem _
theorem xW {α:Type} (d:α) (s:List α) (i:Nat) (h:i<s.length):s.take (i+1)=s.take i++[s.getD i d]:=by
 rw[List.take_add_one,List.getD_eq_getElem?_getD,List.getElem?_eq_getElem h];rfl
section
variable {α : Type} (enc : α → List Value) (k : Nat) (d : α)
structure Px (w:World) (a:Option Addr) (cap:Nat) (l:List α):Prop where
 capl:l.length<=cap
 at_:0<l.length->∃ b off,a=some ⟨b,off,none⟩/\b<w.heap.size/\∀ i,i<l.length->w.rangeAt b (off+i*k) (enc (l.getD i d))
 nil:a=none->cap=0
structure Bx (e:TypeId) (w0 w:World) (B:Nat) (v:Value) (l:List α):Prop where
 below:Below B w0 w
 own:w.ownsRow B e k v l.length (l.flatMap enc)
 le:B<=w.heap.size
end
section
variable {α : Type} {enc : α → List Value} {k : Nat} {d : α}
theorem Px.below {w w':World} {a:Option Addr} {cap:Nat} {l:List α} (h:Px enc k d w a cap l) (hb:Below w.heap.size w w'):Px enc k d w' a cap l :=
 ⟨h.capl,fun h0=>by
  obtain⟨b,off,e1,e2,e3⟩:=h.at_ h0
  exact⟨b,off,e1,Nat.lt_of_lt_of_le e2 hb.size,fun i hi j v hv=>(hb.cell (p:=⟨b,off+i*k+j,none⟩) e2).trans (e3 i hi j v hv)⟩,h.nil⟩
theorem Px.grown {w w':World} {a:Option Addr} {cap K:Nat} {l:List α} (h:Px enc k d w a cap l) (hK:∀ p:Addr,a=some p->p.block ≠ K) (hg:w.grownBy w' (some K)):Px enc k d w' a cap l :=
 ⟨h.capl,fun h0=>by
  obtain⟨b,off,e1,e2,e3⟩:=h.at_ h0
  refine⟨b,off,e1,Nat.lt_of_lt_of_le e2 hg.size,fun i hi j v hv=>?_⟩
  rw[World.cell?_of_block (a:=⟨b,off+i*k+j,none⟩) (hg.block b e2 (fun e=>hK _ e1 (by cases e;rfl)))]
  exact e3 i hi j v hv,h.nil⟩
theorem Px.take {w:World} {a:Option Addr} {cap:Nat} {l:List α} (h:Px enc k d w a cap l) (j:Nat):Px enc k d w a cap (l.take j) :=
 ⟨by rw[List.length_take];have:=h.capl;omega,fun h0=>by
  rw[List.length_take] at h0
  obtain⟨b,off,e1,e2,e3⟩:=h.at_ (by omega)
  refine⟨b,off,e1,e2,fun i hi=>?_⟩
  rw[List.length_take] at hi
  have:=e3 i (by omega)
  rw[show (l.take j).getD i d=l.getD i d by rw[List.getD_eq_getElem?_getD,List.getD_eq_getElem?_getD,List.getElem?_take,if_pos (by omega)]]
  exact this,h.nil⟩
theorem Z6 (l:List α) (h:∀ x ∈ l,(enc x).length=k):(l.flatMap enc).length=l.length*k:=by
 induction l with
 | nil=>simp
 | cons x l ih =>
  have h1:=ih (fun y hy=>h y (by simp[hy]))
  have h2:=h x (by simp)
  simp only[List.flatMap_cons,List.length_append,List.length_cons,Nat.add_mul] at h1 ⊢
  omega
theorem fX_one (l:List α) (h:∀ x,∀ v ∈ enc x,v.oneCell'=true):∀ v ∈ l.flatMap enc,v.oneCell'=true:=by
 intro v hv
 obtain⟨x,_,hx⟩:=List.mem_flatMap.1 hv
 exact h x v hx
theorem fX_at:∀ (l:List α) (h:∀ x ∈ l,(enc x).length=k) (i j:Nat),i<l.length->j<k->(l.flatMap enc)[i*k+j]? = (enc (l.getD i d))[j]?
 | [],h,i,j,hi,hj=>by simp at hi
 | x :: r,h,0,j,hi,hj=>by
  have h2:=h x (by simp)
  simp only[List.flatMap_cons,Nat.zero_mul,Nat.zero_add]
  rw[List.getElem?_append_left (by omega)]
  rfl
 | x :: r,h,i+1,j,hi,hj=>by
  have h2:=h x (by simp)
  have:=fX_at r (fun y hy=>h y (by simp[hy])) i j (by simpa using hi) hj
  simp only[List.flatMap_cons]
  rw[List.getElem?_append_right (by rw[h2,Nat.add_mul];omega),h2,show (i+1)*k+j-k=i*k+j by rw[Nat.add_mul];omega,this]
  rfl
theorem Px.cells {w:World} {b off cap:Nat} {l:List α} (hk:0<k) (h:Px enc k d w (some ⟨b,off,none⟩) cap l) (hw:∀ x ∈ l,(enc x).length=k):∀ (j:Nat) (u:Value),(l.flatMap enc)[j]? = some u->w.cell? ((⟨b,off,none⟩:Addr).add j)=some u:=by
 intro j u hj
 have hlt:=(List.getElem?_eq_some_iff.1 hj).1
 rw[Z6 l hw] at hlt
 have hd:j / k<l.length:=Nat.div_lt_of_lt_mul (by rw[Nat.mul_comm];exact hlt)
 have hm:j % k<k:=Nat.mod_lt _ hk
 obtain⟨b',off',e1,e2,e3⟩:=h.at_ (Nat.lt_of_le_of_lt (Nat.zero_le _) hd)
 cases e1
 have e:j / k*k+j % k=j:=by rw[Nat.mul_comm];exact Nat.div_add_mod j k
 have hf:=fX_at (d:=d) l hw (j / k) (j % k) hd hm
 rw[e,hj] at hf
 have:=e3 (j / k) hd (j % k) u hf.symm
 rw[qz,<-this]
 congr 2
 omega
theorem Bx.alloc {e:TypeId} {w0 w:World} {B:Nat} {v:Value} {l:List α} (h:Bx enc k e w0 w B v l) (o:Obj):Bx enc k e w0 (w.alloc o) B v l :=
 ⟨h.below.alloc h.le o,h.own.alloc o,Nat.le_trans h.le (by simp)⟩
theorem XK (e:TypeId) (w:World) (B:Nat) (h:B<=w.heap.size):Bx enc k e w w B (.slice none 0 0) []:=⟨Below.refl _ _,⟨by simp,.inl ⟨rfl,rfl⟩⟩,h⟩
theorem Bx.carry {e:TypeId} {w0 w w':World} {B:Nat} {v:Value} {l:List α} (h:Bx enc k e w0 w B v l) (hb:Below w.heap.size w w'):Bx enc k e w0 w' B v l :=
 ⟨h.below.trans (hb.mono h.le),h.own.kept (row:=none) ⟨hb.os,hb.tape,hb.output,hb.size,fun k hk _=>hb.block k hk⟩ (by cases h:v.ownBlock <;> simp),Nat.le_trans h.le hb.size⟩
theorem Bx.change {e:TypeId} {w0 w w':World} {B K:Nat} {v:Value} {l:List α} (h:Bx enc k e w0 w B v l) (hv:∀ k,v.ownBlock=some k->k ≠ K) (hB:B<=K) (hg:w.grownBy w' (some K)):Bx enc k e w0 w' B v l :=
 ⟨h.below.grown hg h.le (fun k hk=>by cases hk;exact hB),h.own.kept (row:=some K) hg (by
  cases hb:v.ownBlock with
  | none=>exact .inl rfl
  | some k=>exact .inr (fun e=>by cases e;exact hv _ hb rfl)),Nat.le_trans h.le hg.size⟩
theorem Bx.px {e:TypeId} {w0 w:World} {B:Nat} {v:Value} {l:List α} (h:Bx enc k e w0 w B v l) (hw:∀ x ∈ l,(enc x).length=k):∃ a cap,v=.slice a l.length cap/\Px enc k d w a cap l/\(∀ p:Addr,a=some p->B<=p.block/\p.block<w.heap.size)/\(a=none ∨ ∃ b,a=some ⟨b,0,none⟩):=by
 obtain⟨hl,⟨hv,h0⟩ | ⟨g,cap,cur,hv,hb,hh,hkc,hcm,hsz,htk⟩⟩:=h.own
 ·refine⟨none,0,by rw[hv,h0],⟨by omega,fun h=>by omega,fun _=>rfl⟩,(fun p hp=>by cases hp),.inl rfl⟩
 ·refine⟨_,cap,hv,⟨hkc,fun _=>⟨g,0,rfl,z6 hh,fun i hi j v hv=>?_⟩,fun e=>by cases e⟩,(fun p hp=>by cases hp;exact⟨hb,z6 hh⟩),.inr ⟨g,rfl⟩⟩
  have hj:j<k:=by
   have:=(List.getElem?_eq_some_iff.1 hv).1
   rw[hw _ (yK l i d hi)] at this
   exact this
  have hf:=fX_at (d:=d) l hw i j hi hj
  rw[hv] at hf
  rw[Nat.zero_add,cell_of_row w g (i*k+j) _ _ _ hh]
  have hlt:i*k+j<l.length*k:=by
   have:=(List.getElem?_eq_some_iff.1 hf).1
   rw[Z6 l hw] at this
   exact this
  rw[<-htk,List.getElem?_take_of_lt hlt] at hf
  simpa using hf
theorem yZ {w w0:World} {ops:Array Oper} {rest:List Oper} {o:Oper} {a:Act} {Q:Exit->Act->World->Prop} (hgd:o.guard=none) (s x:Operand) (t e:TypeId) (hu:Tryz.prog.underlying t=some (.slice e)) {z:Value} {by_:Nat} (hin:(Tryz.prog.info? e).map (fun i=>(i.zero,i.size,i.bytes))=some (some z,k,by_)) (hz:z.cells.size=k) (hk:0<k) (hby:by_<=100)
  (hone:∀ x,∀ v ∈ enc x,v.oneCell'=true)
  (ho:o.op=.call { callee:=.builtin .append,args:=#[s,x],argTypes:=#[t,t] }) (B:Nat) (v:Value) (l:List α) (hs:a.eval s=v) (h:Bx enc k e w0 w B v l)
  (ax:Option Addr) (cx:Nat) (m:List α) (hx:a.eval x=.slice ax m.length cx) (hP:Px enc k d w ax cx m) (hw:∀ x ∈ m,(enc x).length=k) (hl:l.length+m.length<=100000)
  (hK:∀ v' w',Bx enc k e w0 w' B v' (l++m)->w.grownBy w' v.ownBlock->wpList Tryz.prog ops Q rest (a.put o.dst v') w'):wpList Tryz.prog ops Q (o :: rest) a w:=by
 obtain⟨i,hi,hz0,hz1,hz2⟩:=zQ hin
 cases ax with
 | none =>
  have hc:cx=0:=hP.nil rfl
  have hcl:=hP.capl
  obtain rfl:m=[]:=List.length_eq_zero_iff.1 (by omega)
  subst hc
  refine wpList_plain hgd fun K hK'=>?_
  have hr:=run_append_owned_none (P:=Tryz.prog) w B t o.type e i k hu hi v _ _ h.own
  unfold Oper.wp execOp
  simp only[List.length_nil] at hx
  simp only[ho,resolve,invoke,builtin,Sem.run_bind,Sem.run_pure,Result.andThen_ok,List.map_toArray,List.map_cons,List.map_nil,hs,hx,hr]
  exact hK' _ _ (hK v w (by simpa using h) ⟨rfl,rfl,rfl,Nat.le_refl _,fun _ _ _=>rfl⟩)
 | some ad =>
  obtain⟨bk,of,fr⟩:=ad
  by_cases h0:m.length=0
  ·obtain rfl:m=[]:=List.length_eq_zero_iff.1 h0
   refine wpList_append_own_at w hgd s x t ho B e i z k by_ hu hi hz0 hz1 hz2 hz hk v _ _ hs h.own ⟨bk,of,fr⟩ 0 cx [] hx (by simp) (fun j u hj=>by cases hj) (fun u hu=>by cases hu) (by unfold maxLen;omega) (by have h2:=Nat.mul_le_mul hl hby;exact Nat.le_trans h2 (by decide)) h.le ?_
   intro v' w' h1 h2 h3 h4
   refine hK v' w' ⟨h.below.grown h2 h.le (fun k hk=>(qW h.own k hk).1),?_,Nat.le_trans h.le h2.size⟩ h2
   simpa using h1
  ·obtain⟨b',off',e1,_⟩:=hP.at_ (by omega)
   cases e1
   refine wpList_append_own_at w hgd s x t ho B e i z k by_ hu hi hz0 hz1 hz2 hz hk v _ _ hs h.own ⟨bk,of,none⟩ m.length cx (m.flatMap enc) hx (Z6 m hw) (hP.cells hk hw) (fX_one m hone) (by unfold maxLen;omega) (by have h2:=Nat.mul_le_mul hl hby;exact Nat.le_trans h2 (by decide)) h.le ?_
   intro v' w' h1 h2 h3 h4
   refine hK v' w' ⟨h.below.grown h2 h.le (fun k hk=>(qW h.own k hk).1),?_,Nat.le_trans h.le h2.size⟩ h2
   rw[List.length_append,List.flatMap_append]
   exact h1
end
def IdW (x:List Int):Prop:=x.length=20/\IsB x
abbrev idV (x:List Int):Value:=.agg (row .u8 x).toArray
abbrev Pa (w:World) (a:Option Addr) (cap:Nat) (l:List (List Int)):Prop:=Px (row .u8) 20 [] w a cap l
abbrev Bi (e:TypeId) (w0 w:World) (B:Nat) (v:Value) (l:List (List Int)):Prop:=Bx (row .u8) 20 e w0 w B v l
theorem idw_row {l:List (List Int)} (h:∀ x ∈ l,IdW x):∀ x ∈ l,(row .u8 x).length=20:=fun x hx=>by rw[zq];exact(h x hx).1
theorem Tryz.info31:(Tryz.prog.info? 31).map (fun i=>(i.zero,i.size,i.bytes))=some (some (.agg (row .u8 z20).toArray),20,20):=by kernel_rfl
theorem zero42 (w:World):(zeroValue 56).run Tryz.prog w=.ok (.agg (row .u8 z20).toArray) w:=by kernel_rfl
theorem k6 (w:World) (x:List Int) (e:TypeId):Pa (w.alloc (.cells (row .u8 x).toArray e)) (some ⟨w.heap.size,0,none⟩) 1 [x] :=
 ⟨Nat.le_refl _,fun _=>⟨w.heap.size,0,rfl,by simp,fun i hi j v hv=>by
  obtain rfl:i=0:=by simpa using hi
  have:=zx (heap_alloc_new w (.cells (row .u8 x).toArray e)) j v hv
  simpa using this⟩,fun h=>by cases h⟩
theorem j8 (x:List Int) (h:x.length=20) (w:World):(Instr.buildSlice 23 1 #[(0,idV x)]).run Tryz.prog w=.ok (.slice (some ⟨w.heap.size,0,none⟩) 1 1) (w.alloc (.cells (row .u8 x).toArray 56)):=by
 obtain⟨i,hq,hz,hs,_⟩:=zQ Tryz.info56
 refine run_buildSlice w 23 56 1 _ (row .u8 x).toArray i _ Tryz.underlying23 hq hz (by rw[hs];decide) (by rw[hs];decide) ?_
 rw[hs]
 obtain⟨a0,a1,a2,a3,a4,a5,a6,a7,a8,a9,a10,a11,a12,a13,a14,a15,a16,a17,a18,a19,e⟩:=uw x h
 rw[e]
 kernel_rfl
theorem kQ (x:List Int) (h:x.length=20) (w:World):(Instr.buildSlice 38 1 #[(0,idV x)]).run Tryz.prog w=.ok (.slice (some ⟨w.heap.size,0,none⟩) 1 1) (w.alloc (.cells (row .u8 x).toArray 31)):=by
 obtain⟨i,hq,hz,hs,_⟩:=zQ Tryz.info31
 refine run_buildSlice w 38 31 1 _ (row .u8 x).toArray i _ Tryz.underlying38 hq hz (by rw[hs];decide) (by rw[hs];decide) ?_
 rw[hs]
 obtain⟨a0,a1,a2,a3,a4,a5,a6,a7,a8,a9,a10,a11,a12,a13,a14,a15,a16,a17,a18,a19,e⟩:=uw x h
 rw[e]
 kernel_rfl
theorem all_eq20 (x y:List Int) (hx:x.length=20) (hy:y.length=20):((List.range 20).all fun j=>x.getD j 0 == y.getD j 0)=decide (x=y):=by
 by_cases h:x=y
 ·subst h
  simp
 ·rw[decide_eq_false h,Bool.eq_false_iff]
  intro hall
  refine h (List.ext_getElem (by rw[hx,hy]) (fun j h1 h2=>?_))
  have:=List.all_eq_true.1 hall j (List.mem_range.2 (by omega))
  simpa [h1,h2] using this
theorem eq42 (x y:List Int) (hx:x.length=20) (hy:y.length=20) (w:World):(Op.equalIn 10000 56 (idV x) (idV y)).run Tryz.prog w=.ok (decide (x=y)) w:=by
 obtain⟨i5,hi,-⟩:=zQ Tryz.info5
 have h1:=k9 (P:=Tryz.prog) 9998 5 plain5 Tryz.underlying5 x y (List.range 20) w (fun j hj=>by rw[hx,hy];exact⟨List.mem_range.1 hj,List.mem_range.1 hj⟩)
 rw[all_eq20 x y hx hy] at h1
 rw[show (10000:Nat)=9999+1 from rfl,run_equalIn_array w 9999 _ _ Tryz.underlying56 hi,cells5]
 exact h1
theorem eq41 (x y:List Int) (hx:x.length=20) (hy:y.length=20) (w:World):(Op.equalIn 10000 31 (idV x) (idV y)).run Tryz.prog w=.ok (decide (x=y)) w:=by
 obtain⟨i5,hi,-⟩:=zQ Tryz.info5
 have h1:=k9 (P:=Tryz.prog) 9998 5 plain5 Tryz.underlying5 x y (List.range 20) w (fun j hj=>by rw[hx,hy];exact⟨List.mem_range.1 hj,List.mem_range.1 hj⟩)
 rw[all_eq20 x y hx hy] at h1
 rw[show (10000:Nat)=9999+1 from rfl,run_equalIn_array w 9999 _ _ Tryz.underlying31 hi,cells5]
 exact h1
theorem types194:Tryz.prog.types.size=358:=by kernel_rfl
theorem YK:Tryz.prog.cellsOf 56=20:=by kernel_rfl
theorem vx:Maps.Keyed Tryz.prog 56:=Maps.Keyed.of_law (deep_law_laid (m:=10) (by kernel_rfl) (by decide) (of_decide_eq_true (by kernel_rfl)) (by kernel_rfl) (by kernel_rfl))
theorem Xy (x:List Int) (h:x.length=20) (hb:IsB x):∃ kl,keyOf Tryz.prog 56 (idV x)=some kl:=by
 have hlen:(row .u8 x).length=20:=by rw[zq];exact h
 have hform:(idV x).formed Tryz.prog 56=true:=by
  simp[Value.formed,Tryz.underlying56,hlen,YK]
 have hlits:∃ ls,Tryz.prog.keyLits 359 56 (row .u8 x)=some ls:=by
  obtain⟨ys,hys⟩:=mapM_some (fun i=>Tryz.prog.keyLits 358 5 (((row .u8 x).drop (i*Tryz.prog.cellsOf 5)).take (Tryz.prog.cellsOf 5))) (List.range 20) (fun i hi=>by
   have hi2:i<20:=List.mem_range.1 hi
   refine⟨[.int .u8 (x[i]'(by omega))],?_⟩
   have e:((row .u8 x).drop (i*Tryz.prog.cellsOf 5)).take (Tryz.prog.cellsOf 5)=[.int .u8 (x[i]'(by omega))]:=by
    rw[cells5,Nat.mul_one,List.drop_eq_getElem_cons (by omega)]
    simp[row]
   rw[e]
   have hw:(Lit.int .u8 (x[i]'(by omega))).wf=true:=by
    have:=hb _ (List.getElem_mem (l:=x) (n:=i) (by omega))
    exact WalkArith.wf_u8 ⟨this.1,by omega⟩
   unfold Program.keyLits
   rw[Tryz.underlying5]
   simp[hw])
  refine⟨ys.flatten,?_⟩
  unfold Program.keyLits
  rw[Tryz.underlying56]
  simp only[YK,hlen,if_true]
  rw[hys]
  rfl
 obtain⟨ls,hls⟩:=hlits
 refine⟨.string (keyBytes ls),?_⟩
 unfold keyOf
 rw[Tryz.underlying56]
 simp only
 rw[if_pos (by rw[hform];kernel_rfl),types194]
 show Option.map _ (Tryz.prog.keyLits (358+1) 56 (row .u8 x))=_
 rw[hls]
 rfl
theorem row_inj {x y:List Int} (h:idV x=idV y):x=y:=by
 injection h with h
 have h2:row .u8 x=row .u8 y:=by simpa using congrArg Array.toList h
 unfold row at h2
 exact List.map_inj_right (fun a b e=>by injection e) |>.1 h2
def SI (w:World) (g n:Nat) (S:List Int->Prop):Prop := ∃ D,w.ownsMap (H:=Unit) Tryz.prog 56 unitElem g n D/\∀ x kl,keyOf Tryz.prog 56 (idV x)=some kl->(Maps.has D kl=true ↔ S x)
def MI (w:World) (g n:Nat) (f:List Int->Option Int) (s:Nat):Prop := ∃ D,w.ownsMap (H:=Unit) Tryz.prog 56 (plainElem Tryz.prog 3) g n D/\Maps.size D=s/\∀ x kl,keyOf Tryz.prog 56 (idV x)=some kl->(Maps.has D kl=(f x).isSome)/\D.atKey kl (.lit (.int .i64 0))=.lit (.int .i64 ((f x).getD 0))
theorem SI.kept {w w':World} {g n:Nat} {S:List Int->Prop} {row:Option Nat} (h:SI w g n S) (hg:w.grownBy w' row) (hne:some g ≠ row):SI w' g n S:=by
 obtain⟨D,h1,h2⟩:=h
 exact⟨D,h1.kept hg hne,h2⟩
theorem MI.kept {w w':World} {g n s:Nat} {f:List Int->Option Int} {row:Option Nat} (h:MI w g n f s) (hg:w.grownBy w' row) (hne:some g ≠ row):MI w' g n f s:=by
 obtain⟨D,h1,h2,h3⟩:=h
 exact⟨D,h1.kept hg hne,h2,h3⟩
theorem SI.below {w w':World} {g n:Nat} {S:List Int->Prop} (h:SI w g n S) (hb:Below w.heap.size w w'):SI w' g n S:=h.kept (row:=none) (zw hb _) (by simp)
theorem MI.below {w w':World} {g n s:Nat} {f:List Int->Option Int} (h:MI w g n f s) (hb:Below w.heap.size w w'):MI w' g n f s:=h.kept (row:=none) (zw hb _) (by simp)
theorem SI.lt {w:World} {g n:Nat} {S:List Int->Prop} (h:SI w g n S):g<w.heap.size:=by obtain⟨D,h1,_⟩:=h;exact h1.lt
theorem MI.lt {w:World} {g n s:Nat} {f:List Int->Option Int} (h:MI w g n f s):g<w.heap.size:=by obtain⟨D,h1,_⟩:=h;exact h1.lt
theorem si_made (w:World):SI (w.alloc (.map #[] 0)) w.heap.size 0 (fun _=>False):=⟨_,World.ownsMap_made _ _ _ _,fun x kl _=>by simp[Maps.has]⟩
theorem mi_made (w:World):MI (w.alloc (.map #[] 0)) w.heap.size 0 (fun _=>none) 0:=⟨_,World.ownsMap_made _ _ _ _,rfl,fun x kl _=>by simp[Maps.has,DataW.atKey]⟩
def updF (f:List Int->Option Int) (x:List Int) (v:Int):List Int->Option Int:=fun y=>if y=x then some v else f y
end Go.Proofs.YticgindfipobiaaGreatDoor.Gr
namespace Go.Proofs.YticgindfipobiaaGreatDoor.Gr
open Go.RowKit
open Go.ChangeMaps (setBlock heap_setBlock_same heap_setBlock_other)
theorem und68:Tryz.prog.underlying 49=some (.map 56 67):=by kernel_rfl
theorem und75:Tryz.prog.underlying 69=some (.map 56 3):=by kernel_rfl
theorem zero105 (w:World):(zeroValue 67).run Tryz.prog w=.ok (.agg #[]) w:=by kernel_rfl
theorem zero3 (w:World):(zeroValue 3).run Tryz.prog w=.ok (.int .i64 0) w:=by kernel_rfl
theorem und3:Tryz.prog.underlying 3=some (.int .i64):=by kernel_rfl
theorem key_eq {x y:List Int} {kl:Lit} (h1:keyOf Tryz.prog 56 (idV x)=some kl) (h2:keyOf Tryz.prog 56 (idV y)=some kl):x=y:=row_inj (vx.inj h1 h2)
theorem SI.look {w:World} {g n:Nat} {S:List Int->Prop} (h:SI w g n S) {x:List Int} (hx:IdW x):∃ b:Bool,(b=true ↔ S x)/\(Instr.lookup 49 (.map (some g)) (idV x) true).run Tryz.prog w=.ok (.tuple #[.agg #[],.bool b]) w:=by
 obtain⟨D,h1,h2⟩:=h
 obtain⟨kl,hkl⟩:=Xy x hx.1 hx.2
 obtain⟨v,ps,hrun,hv⟩:=h1.look_ok vx und68 (zero105 w) (unitElem_mk (H:=Unit)) hkl
 obtain⟨rfl,_⟩:=unitElem_inv hv
 exact⟨_,h2 x kl hkl,hrun⟩
theorem SI.put {w:World} {g n:Nat} {S:List Int->Prop} (h:SI w g n S) (hn:n<=100000) {x:List Int} (hx:IdW x):∃ w',(Instr.mapUpdate 49 (.map (some g)) (idV x) (.agg #[])).run Tryz.prog w=.ok () w'/\SI w' g (n+1) (fun y=>y=x ∨ S y)/\w.grownBy w' (some g):=by
 obtain⟨D,h1,h2⟩:=h
 obtain⟨kl,hkl⟩:=Xy x hx.1 hx.2
 obtain⟨w',hrun,h3,h4⟩:=h1.update vx und68 (by unfold maxLen;omega) hkl (unitElem_mk (H:=Unit))
 refine⟨w',hrun,⟨_,h3,fun y ky hky=>?_⟩,h4⟩
 by_cases e:ky=kl
 ·subst e
  rw[Maps.has_put_same h1.isMap (vx.key hkl)]
  simp[key_eq hky hkl]
 ·rw[Maps.has_put_other e,h2 y ky hky]
  constructor
  ·exact .inr
  ·rintro(rfl | h)
   ·rw[hkl] at hky;exact absurd (Option.some.inj hky).symm e
   ·exact h
theorem MI.size_le {w:World} {g n s:Nat} {f:List Int->Option Int} (h:MI w g n f s):s<=n:=by
 obtain⟨D,h1,h2,h3⟩:=h
 rw[<-h2]
 exact h1.size_le
theorem MI.look {w:World} {g n s:Nat} {f:List Int->Option Int} (h:MI w g n f s) {x:List Int} (hx:IdW x):(Instr.lookup 69 (.map (some g)) (idV x) true).run Tryz.prog w=.ok (.tuple #[.int .i64 ((f x).getD 0),.bool (f x).isSome]) w:=by
 obtain⟨D,h1,h2,h3⟩:=h
 obtain⟨kl,hkl⟩:=Xy x hx.1 hx.2
 obtain⟨v,ps,hrun,hv⟩:=h1.look_ok vx und75 (zero3 w) (plainElem_int (H:=Unit) und3 (by decide)) hkl
 obtain⟨c,rfl,hc,_⟩:=plainElem_int_inv und3 hv
 have h4:=(h3 x kl hkl).2
 have h5:=congrArg Prod.fst hc
 simp only at h5
 rw[h5] at h4
 have h6:=(Lit.int.inj (DataW.lit.inj h4)).2
 rw[hrun,(h3 x kl hkl).1,h6]
theorem MI.put_of {w w':World} {g n s:Nat} {f:List Int->Option Int} {D:DataW Unit} (h1:w.ownsMap (H:=Unit) Tryz.prog 56 (plainElem Tryz.prog 3) g n D) (h2:Maps.size D=s) (h3:∀ x kl,keyOf Tryz.prog 56 (idV x)=some kl->(Maps.has D kl=(f x).isSome)/\D.atKey kl (.lit (.int .i64 0))=.lit (.int .i64 ((f x).getD 0))) {x:List Int} {kl:Lit} (hkl:keyOf Tryz.prog 56 (idV x)=some kl) (v:Int) (h4:w'.ownsMap (H:=Unit) Tryz.prog 56 (plainElem Tryz.prog 3) g (n+1) (D.put kl (.lit (.int .i64 v)))):MI w' g (n+1) (updF f x v) (if (f x).isSome then s else s+1):=by
 refine⟨_,h4,?_,fun y ky hky=>?_⟩
 ·rw[Maps.size_put (h1.tidy vx),(h3 x kl hkl).1,h2]
 ·unfold updF
  by_cases e:ky=kl
  ·subst e
   rw[Maps.has_put_same h1.isMap (vx.key hkl),Maps.atKey_put_same h1.isMap (vx.key hkl),if_pos (key_eq hky hkl)]
   exact⟨rfl,rfl⟩
  ·rw[Maps.has_put_other e,Maps.atKey_put_other e,if_neg (fun h=>by subst h;rw[hkl] at hky;exact e (Option.some.inj hky).symm)]
   exact h3 y ky hky
theorem MI.put {w:World} {g n s:Nat} {f:List Int->Option Int} (h:MI w g n f s) (hn:n<=100000) {x:List Int} (hx:IdW x) (v:Int) (hv:(Lit.int .i64 v).wf=true):∃ w',(Instr.mapUpdate 69 (.map (some g)) (idV x) (.int .i64 v)).run Tryz.prog w=.ok () w'/\MI w' g (n+1) (updF f x v) (if (f x).isSome then s else s+1)/\w.grownBy w' (some g):=by
 obtain⟨D,h1,h2,h3⟩:=h
 obtain⟨kl,hkl⟩:=Xy x hx.1 hx.2
 obtain⟨w',hrun,h4,h5⟩:=h1.update vx und75 (by unfold maxLen;omega) hkl (plainElem_int (H:=Unit) und3 hv)
 exact⟨w',hrun,MI.put_of h1 h2 h3 hkl v h4,h5⟩
end Go.Proofs.YticgindfipobiaaGreatDoor.Gr
namespace Go.Proofs.YticgindfipobiaaGreatDoor.Gr
open Go.RowKit
structure Nd where
 id:List Int
 ps:List (List Int)
 pa:Option Addr
 pc:Nat
 tm:Int
def cnt (l:List Nd) (p:List Int):Nat:=(l.map (fun n=>n.ps.count p)).sum
section
variable {P : Program} {md : Region.Mode} {ops : Array Oper} {Q : Exit → Act → World → Prop} {S : World → Prop} {n : Nat}
end
end Go.Proofs.YticgindfipobiaaGreatDoor.Gr
namespace Go.Proofs
open Go.Shelf
def Tryz.cloneI_ren:Go.Shelf.Ren:=⟨fun | 41=>36 | n=>n,fun | 22=>23 | 23=>56 | 4=>4 | n=>n,fun | n=>n⟩
theorem Tryz.cloneI:Go.Proofs.SlLaysE0.n41 Tryz.prog Tryz.cloneI_ren:={
 mixed:=by kernel_rfl
 f41:=⟨Tryz.f36.name,by decide,Tryz.func36.trans (congrArg some (by kernel_rfl))⟩
 t4:=Tryz.underlying4
 a4:=Tryz.isAgg4
 z4:=Tryz.sizeOf4
 v4:=Tryz.zeroValue4
 t22:=Tryz.underlying23
 a22:=Tryz.isAgg23
 z22:=Tryz.sizeOf23
 v22:=Tryz.zeroValue23 }
end Go.Proofs
namespace Go.Proofs.YticgindfipobiaaGreatDoor.Gr
open Go.RowKit Go.Shelf
theorem kX {P:Program} {o:Oper} {a:Act} {w w':World} {t:TypeId} {m k:Operand} {b:Bool} (ho:o.op=.lookup t m k b) {mv kv v:Value} (hm:a.eval m=mv) (hk:a.eval k=kv) (hr:(Instr.lookup t mv kv b).run P w=.ok v w'):(execOp a.eval o).run P w=.ok (.value v) w':=by
 unfold execOp
 simp[ho,hm,hk,hr,Result.andThen]
theorem exec_update {P:Program} {o:Oper} {a:Act} {w w':World} {t:TypeId} {m k x:Operand} (ho:o.op=.mapUpdate t m k x) {mv kv v:Value} (hm:a.eval m=mv) (hk:a.eval k=kv) (hx:a.eval x=v) (hr:(Instr.mapUpdate t mv kv v).run P w=.ok () w'):(execOp a.eval o).run P w=.ok .skip w':=by
 unfold execOp
 simp[ho,hm,hk,hx,hr,Result.andThen]
def BI (p:Prop) (e:Ending):Prop := ∃ b:Bool,(b=true ↔ p)/\e=.returned (.bool b)
theorem sizeOf42' (w:World):(Go.sizeOf 56).run Tryz.prog w=.ok 20 w:=by kernel_rfl
theorem clone_empty (ad:Addr) (cap:Nat) (w:World):Calls Tryz.prog 36 #[.slice (some ad) 0 cap] w fun e w'=>∃ v,e=.returned v/\Bi 56 w w' w.heap.size v []:=by
 obtain⟨G,HG⟩:=nm_ w.heap.size
 have hbs:(Instr.buildSlice 23 0 #[]).run Tryz.prog w=.ok (.slice (some ⟨w.heap.size,0,none⟩) 0 0) (w.alloc (.cells #[] 56)):=by kernel_rfl
 have HB1:Hid (Bi 56 w (w.alloc (.cells #[] 56)) G (.slice (some ⟨w.heap.size,0,none⟩) 0 0) []):=hid (by
  rw[<-HG.out]
  exact⟨(Below.refl _ w).alloc (Nat.le_refl _) _,⟨by simp,.inr ⟨w.heap.size,0,#[],rfl,Nat.le_refl _,heap_alloc_new w _,Nat.le_refl _,by unfold maxLen;omega,by simp,by simp⟩⟩,by simp⟩)
 have heq:(binOp .eql 23 (.slice (some ad) 0 cap) (.slice none 0 0)).run Tryz.prog w=.ok (.bool false) w:=Lib.run_eql_slice_nil w _ _ (some ad) 0 cap 0 0 Tryz.underlying23
 have HPX:Hid (Pa (w.alloc (.cells #[] 56)) (some ad) cap []):=hid ⟨Nat.zero_le _,fun h=>by simp at h,fun e=>by cases e⟩
 go_enter Tryz.func36,Tryz.ntmps36
 go_wp2_with (first
  | (refine yZ (d:=[]) rfl _ _ 23 56 Tryz.underlying23 Tryz.info56 rfl (by decide) (by decide) (fun z=>zV _ z) rfl G _ [] rfl HB1.out (some ad) cap [] rfl HPX.out (fun z hz=>by cases hz) (by simp) ?_;intro v8 w8 hb8 hg8)
  | fail)
 go_ret
 exact⟨v8,rfl,by rw[HG.out];exact hb8⟩
theorem clone_any (a:Option Addr) (cap:Nat) (l:List (List Int)) (w:World) (hq:∀ x ∈ l,IdW x) (hl:l.length<=100000) (hP:Pa w a cap l) (ha:True) :
  Calls Tryz.prog 36 #[.slice a l.length cap] w fun e w'=>∃ v,e=.returned v/\Bi 56 w w' w.heap.size v l:=by
 obtain⟨i,hi,hz0,hz1,hz2⟩:=zQ Tryz.info56
 cases a with
 | none =>
  have h1:=hP.nil rfl
  have h2:=hP.capl
  obtain rfl:l=[]:=List.length_eq_zero_iff.1 (by omega)
  subst h1
  refine(AnyE.slices_Clone_nil Tryz.cloneI 0 0 w).mono ?_
  rintro e w' ⟨rfl,rfl⟩
  exact⟨_,rfl,XK 56 _ _ (Nat.le_refl _)⟩
 | some ad =>
  by_cases h0:l.length=0
  ·obtain rfl:l=[]:=List.length_eq_zero_iff.1 h0
   exact clone_empty ad cap w
  ·obtain⟨b,off,e1,_⟩:=hP.at_ (by omega)
   cases e1
   refine(AnyE.slices_Clone Tryz.cloneI i (.agg (row .u8 z20).toArray) 20 20 hi hz0 hz1 hz2 rfl (by decide) sizeOf42' b off l.length cap (l.flatMap (row .u8)) w (Z6 l (idw_row hq)) (by unfold maxLen;omega) (by omega) (fun j u hj=>by have:=hP.cells (by decide) (idw_row hq) j u hj;rwa [qz] at this) (fX_one l (fun x=>zV _ x))).mono ?_
   rintro e w' ⟨v',rfl,h1,h2,h3⟩
   exact⟨v',rfl,⟨h3,h1,h3.size⟩⟩
end Go.Proofs.YticgindfipobiaaGreatDoor.Gr
