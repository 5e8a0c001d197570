import Derived.Test.YticgindfipobiaaGreatDoorMn26
import Derived.Lib.AppendZeros
import Derived.Test.YticgindfipobiaaGreatDoorMn15
import Derived.Shelf.Small.Strs
import Derived.Shelf.SlLaysF0
import Derived.Test.YticgindfipobiaaGreatDoorProg
import Derived.RangeFuncNested
import Derived.RangeFuncBound
import Derived.RangeFuncCalls
import Derived.RangeFuncLeaves
import Derived.RangeFuncBox
import Derived.Shelf.Abstract
import Derived.Shelf.RegionOpen
import Derived.WalkKit
import Derived.OwnWalkIn
import Derived.TacticsInMore
import Derived.Sort.LoopGhostIn
set_option linter.unusedSimpArgs false
set_option linter.unusedVariables false
set_option maxRecDepth 20000
set_option maxHeartbeats 4000000
namespace Go.Proofs.YticgindfipobiaaGreatDoor
open Go.RowKit
structure Bi (e:TypeId) (w0 w:World) (B:Nat) (v:Value) (ids:List (List Int)):Prop where
 below:Below B w0 w
 own:w.ownsRow B e 20 v ids.length (ids.flatMap (row .u8))
 le:B<=w.heap.size
theorem Bi.alloc {e:TypeId} {w0 w:World} {B:Nat} {v:Value} {ids:List (List Int)} (h:Bi e w0 w B v ids) (o:Obj):Bi e w0 (w.alloc o) B v ids :=
 ⟨h.below.alloc h.le o,h.own.alloc o,Nat.le_trans h.le (by simp)⟩
theorem bi_nil (e:TypeId) (w:World) (B:Nat) (h:B<=w.heap.size):Bi e w w B (.slice none 0 0) []:=⟨Below.refl _ _,⟨rfl,.inl ⟨rfl,rfl⟩⟩,h⟩
theorem Bi.carry {e:TypeId} {w0 w w':World} {B:Nat} {v:Value} {ids:List (List Int)} (h:Bi e w0 w B v ids) (hb:Below w.heap.size w w'):Bi e w0 w' B v ids :=
 ⟨h.below.trans (hb.mono h.le),h.own.kept (row:=none) ⟨hb.os,hb.tape,hb.output,hb.size,fun k hk _=>hb.block k hk⟩ (by cases h:v.ownBlock <;> simp),Nat.le_trans h.le hb.size⟩
theorem fI_len (ids:List (List Int)) (h:∀ x ∈ ids,x.length=20):(ids.flatMap (row .u8)).length=ids.length*20:=by
 induction ids with
 | nil=>rfl
 | cons x ids ih =>
  have h1:=ih (fun y hy=>h y (by simp[hy]))
  have h2:(row .u8 x).length=20:=by rw[zq];exact h x (by simp)
  simp only[List.flatMap_cons,List.length_append,List.length_cons] at h1 ⊢
  omega
theorem fI_one (ids:List (List Int)):∀ v ∈ ids.flatMap (row .u8),v.oneCell'=true:=by
 intro v hv
 obtain⟨x,_,h⟩:=List.mem_flatMap.1 hv
 exact zV _ x v h
theorem fI_at:∀ (ids:List (List Int)) (h:∀ x ∈ ids,x.length=20) (i j:Nat),i<ids.length->j<20->(ids.flatMap (row .u8))[i*20+j]? = (row .u8 (ids.getD i []))[j]?
 | [],h,i,j,hi,hj=>by simp at hi
 | x :: r,h,0,j,hi,hj=>by
  have h2:(row .u8 x).length=20:=by rw[zq];exact h x (by simp)
  simp only[List.flatMap_cons,Nat.zero_mul,Nat.zero_add]
  rw[List.getElem?_append_left (by omega)]
  rfl
 | x :: r,h,i+1,j,hi,hj=>by
  have h2:(row .u8 x).length=20:=by rw[zq];exact h x (by simp)
  have:=fI_at r (fun y hy=>h y (by simp[hy])) i j (by simpa using hi) hj
  simp only[List.flatMap_cons]
  rw[List.getElem?_append_right (by omega),h2,show (i+1)*20+j-20=i*20+j by omega,this]
  rfl
theorem Pa.cells {w:World} {b off cap:Nat} {ids:List (List Int)} (h:Pa w (some ⟨b,off,none⟩) cap ids) (hw:∀ x ∈ ids,x.length=20):∀ (j:Nat) (u:Value),(ids.flatMap (row .u8))[j]? = some u->w.cell? ((⟨b,off,none⟩:Addr).add j)=some u:=by
 intro j u hj
 have hlt:=(List.getElem?_eq_some_iff.1 hj).1
 rw[fI_len ids hw] at hlt
 have hd:j / 20<ids.length:=Nat.div_lt_of_lt_mul (by omega)
 have hm:j % 20<20:=Nat.mod_lt _ (by omega)
 obtain⟨b',off',e1,e2,e3⟩:=h.at_ (by omega)
 cases e1
 have e:j / 20*20+j % 20=j:=by omega
 have hf:=fI_at ids hw (j / 20) (j % 20) hd hm
 rw[e,hj] at hf
 have:=e3 (j / 20) hd (j % 20) u hf.symm
 rw[qz,<-this]
 congr 2
 omega
theorem xJ {w w0:World} {ops:Array Oper} {rest:List Oper} {o:Oper} {a:Act} {Q:Exit->Act->World->Prop} (hgd:o.guard=none) (s x:Operand) (t e:TypeId) (hu:Tryz.prog.underlying t=some (.slice e)) (hin:(Tryz.prog.info? e).map (fun i=>(i.zero,i.size,i.bytes))=some (some (.agg (row .u8 z20).toArray),20,20))
  (ho:o.op=.call { callee:=.builtin .append,args:=#[s,x],argTypes:=#[t,t] }) (B:Nat) (v:Value) (ids:List (List Int)) (hs:a.eval s=v) (h:Bi e w0 w B v ids)
  (ax:Option Addr) (cx:Nat) (l:List (List Int)) (hx:a.eval x=.slice ax l.length cx) (hP:Pa w ax cx l) (hw:∀ x ∈ l,x.length=20) (hl:ids.length+l.length<=30000)
  (hK:∀ v' w',Bi e w0 w' B v' (ids++l)->w.grownBy w' v.ownBlock->wpList Tryz.prog ops Q rest (a.put o.dst v') w'):wpList Tryz.prog ops Q (o :: rest) a w:=by
 obtain⟨i,hi,hz0,hz1,hz2⟩:=zQ hin
 cases ax with
 | none =>
  have hc:cx=0:=hP.nil rfl
  have hcl:=hP.capl
  obtain rfl:l=[]:=List.length_eq_zero_iff.1 (by omega)
  subst hc
  refine wpList_plain hgd fun K hK'=>?_
  have hr:=run_append_owned_none (P:=Tryz.prog) w B t o.type e i 20 hu hi v _ _ h.own
  unfold Oper.wp execOp
  simp only[List.length_nil] at hx
  simp only[ho,resolve,invoke,builtin,Sem.run_bind,Sem.run_pure,Result.andThen_ok,List.map_toArray,List.map_cons,List.map_nil,hs,hx,hr]
  exact hK' _ _ (hK v w (by simpa using h) ⟨rfl,rfl,rfl,Nat.le_refl _,fun _ _ _=>rfl⟩)
 | some ad =>
  obtain⟨bk,of,fr⟩:=ad
  by_cases h0:l.length=0
  ·obtain rfl:l=[]:=List.length_eq_zero_iff.1 h0
   refine wpList_append_own_at w hgd s x t ho B e i (.agg (row .u8 z20).toArray) 20 20 hu hi hz0 hz1 hz2 rfl (by decide) v _ _ hs h.own ⟨bk,of,fr⟩ 0 cx [] hx rfl (fun j u hj=>by cases hj) (fun u hu=>by cases hu) (by unfold maxLen;omega) (by omega) h.le ?_
   intro v' w' h1 h2 h3 h4
   refine hK v' w' ⟨h.below.grown h2 h.le (fun k hk=>(qW h.own k hk).1),?_,Nat.le_trans h.le h2.size⟩ h2
   simpa using h1
  ·obtain⟨b',off',e1,_⟩:=hP.at_ (by omega)
   cases e1
   refine wpList_append_own_at w hgd s x t ho B e i (.agg (row .u8 z20).toArray) 20 20 hu hi hz0 hz1 hz2 rfl (by decide) v _ _ hs h.own ⟨bk,of,none⟩ l.length cx (l.flatMap (row .u8)) hx (fI_len l hw) (hP.cells hw) (fI_one l) (by unfold maxLen;omega) (by omega) h.le ?_
   intro v' w' h1 h2 h3 h4
   refine hK v' w' ⟨h.below.grown h2 h.le (fun k hk=>(qW h.own k hk).1),?_,Nat.le_trans h.le h2.size⟩ h2
   rw[List.length_append,List.flatMap_append]
   exact h1
theorem vz {P:Program} {ops:Array Oper} {rest:List Oper} {o:Oper} {a:Act} {w w':World} {Q:Exit->Act->World->Prop} (hg:o.guard=none) (t len:Nat) (x:Operand) (ho:o.op=.buildSlice t len #[(0,x)]) (u v:Value) (hx:a.eval x=u)
  (hr:(Instr.buildSlice t len #[(0,u)]).run P w=.ok v w')
  (h:wpList P ops Q rest (a.put o.dst v) w'):wpList P ops Q (o :: rest) a w:=by
 refine wpList_plain hg fun K hK=>?_
 unfold Oper.wp execOp
 simp[ho,hx,hr,Result.andThen]
 exact hK _ _ h
theorem k6 (w:World) (x:List Int) (e:TypeId) (h:x.length=20):Pa (w.alloc (.cells (row .u8 x).toArray e)) (some ⟨w.heap.size,0,none⟩) 1 [x] :=
 ⟨Nat.le_refl _,fun _=>⟨w.heap.size,0,rfl,by simp,fun i hi j v hv=>by
  obtain rfl:i=0:=by simpa using hi
  have:=zx (heap_alloc_new w (.cells (row .u8 x).toArray e)) j v hv
  simpa using this⟩,fun h=>by cases h⟩
theorem Bi.pa {e:TypeId} {w0 w:World} {B:Nat} {v:Value} {ids:List (List Int)} (h:Bi e w0 w B v ids) (hw:WfI ids):∃ a cap,v=.slice a ids.length cap/\Pa w a cap ids:=by
 have h1:=h.own
 obtain⟨hl,⟨hv,h0⟩ | ⟨g,cap2,cur,hv,hb,hh,hkc,hcm,hsz,htk⟩⟩:=h.own
 ·refine⟨none,0,?_,?_⟩
  ·rw[hv,h0]
  ·rw[hv] at h1
   have e:Value.slice none 0 0=.slice none ids.length 0:=by rw[h0]
   rw[e] at h1
   exact OE.pa h1 hw
 ·refine⟨_,cap2,hv,?_⟩
  rw[hv] at h1
  exact OE.pa h1 hw
theorem Tryz.info56':(Tryz.prog.info? 56).map (fun i=>(i.zero,i.size,i.bytes))=some (some (.agg (row .u8 z20).toArray),20,20):=by kernel_rfl
theorem Tryz.info31':(Tryz.prog.info? 31).map (fun i=>(i.zero,i.size,i.bytes))=some (some (.agg (row .u8 z20).toArray),20,20):=by kernel_rfl
set_option maxHeartbeats 1000000 in
theorem grow_any (n:Nat) (h1:1<=n) (hn:n<=2000) (w:World):Calls Tryz.prog 83 #[.slice none 0 0,.int .i64 n] w fun e w'=>∃ v,e=.returned v/\Bi 56 w w' w.heap.size v []:=by
 obtain⟨i,hi,hz0,hz1,hz2⟩:=zQ Tryz.info56'
 have hr:=fun ty w=>Lib.run_append_nil_zeros (P:=Tryz.prog) w 23 3 ty 56 i (.agg (row .u8 z20).toArray) .i64 .i64 Tryz.underlying23 Tryz.underlying3 hi hz0 n h1 (by omega) (by omega) (by rw[hz2];omega)
 have hc:=grownCap_ge w n 0 56
 have hcm:=grownCap_le_maxLen w n 0 56 (by unfold maxLen;omega)
 obtain⟨cp,HC⟩:=nm_ (grownCap w n 0 56)
 obtain⟨R,HR⟩:=nm_ (Builtin.zeroCells (Value.agg (row .u8 z20).toArray).cells n++Builtin.zeroCells (Value.agg (row .u8 z20).toArray).cells (cp-n))
 have hr1:=hr 23 w
 rw[HC.out] at hr1 hc hcm
 rw[HR.out] at hr1
 have HRS:Hid (R.size=cp*20):=hid (by
  rw[<-HR.out]
  have hz:∀ k,(Builtin.zeroCells (Value.agg (row .u8 z20).toArray).cells k).size=k*20:=fun k=>by
   simp[Builtin.zeroCells,Value.cells,row,z20]
  rw[Array.size_append,hz,hz,<-Nat.add_mul]
  congr 1
  omega)
 have hn0:¬ (n:Int)<0:=by omega
 have hn1:(0:Int)<(n:Int):=by omega
 obtain⟨G,HG⟩:=nm_ w.heap.size
 obtain⟨w1,HW1⟩:=nm_ (w.drew.alloc (.cells R 56))
 have HBI:Hid (Bi 56 w w1 G (.slice (some ⟨G,0,none⟩) 0 cp) []):=hid (by
  rw[<-HW1.out,<-HG.out]
  have hb:Below w.heap.size w (w.drew.alloc (.cells R 56)):=(zJ (Below.refl _ w) 1).alloc (Nat.le_refl _) _
  exact⟨hb,⟨rfl,.inr ⟨_,cp,R,rfl,Nat.le_refl _,heap_alloc_new w.drew _,Nat.zero_le _,hcm,HRS.out,by simp⟩⟩,hb.size⟩)
 rw[HW1.out,HG.out] at hr1
 rw[HG.out]
 clear hr hcm
 go_enter Tryz.func83,Tryz.ntmps83
 go_wp2_with (first
  | (at_builtin;refine Lib.wpList_append_run _ rfl _ _ 23 3 rfl _ _ rfl rfl _ _ hr1 ?_)
  | fail)
 go_ret
 exact⟨_,rfl,HBI.out⟩
structure Er where
 mode:Int
 name:List UInt8
 id:List Int
def erV (e:Er):List Value:=.int .i64 e.mode :: .string ⟨e.name.toArray⟩ :: row .u8 e.id
def okM (m:Int):Prop:=m=16384 ∨ m=33188 ∨ m=33261 ∨ m=40960
def okE (s:List UInt8):Prop:=1<=s.length/\s.length<=50/\s ≠ [46]/\s ≠ [46,46]/\s ≠ [46,103,105,116]/\∀ x ∈ s,x ≠ 47/\x ≠ 0
def qV (e:Er):List UInt8:=if e.mode=16384 then e.name++[47] else e.name
theorem isMode_any (m:Int) (w:World):Calls Tryz.prog 147 #[.int .i64 m] w fun e w'=>BIs (okM m) e/\w'=w:=by
 by_cases h:okM m
 ·have HM:Hid (okM m):=h
  rcases h with rfl | rfl | rfl | rfl
  all_goals
   go_enter Tryz.func147,Tryz.ntmps147
   go_wp2
   go_ret
   exact⟨jZ HM.out,rfl⟩
 ·have HM:Hid (¬ okM m):=h
  have h1:¬ m=16384:=fun e=>h (Or.inl e)
  have h2:¬ m=33188:=fun e=>h (Or.inr (Or.inl e))
  have h3:¬ m=33261:=fun e=>h (Or.inr (Or.inr (Or.inl e)))
  have h4:¬ m=40960:=fun e=>h (Or.inr (Or.inr (Or.inr e)))
  clear h
  go_enter Tryz.func147,Tryz.ntmps147
  go_wp2
  go_ret
  exact⟨zX HM.out,rfl⟩
theorem two_asc:Asc ⟨#[47,0]⟩:=by
 intro j h
 have h':j<2:=h
 match j,h' with
 | 0,_=>exact(by decide:(47:UInt8).toNat<128)
 | 1,_=>exact(by decide:(0:UInt8).toNat<128)
theorem two_iff (s:List UInt8):¬ kK ⟨s.toArray⟩ ⟨#[47,0]⟩ ↔ ∀ x ∈ s,x ≠ 47/\x ≠ 0:=by
 unfold kK
 simp only[not_exists,not_and]
 constructor
 ·intro h x hx
  have:=h x hx
  simpa using this
 ·intro h x hx
  have:=h x hx
  simpa using this
theorem Qy (s:List UInt8) (w:World):Calls Tryz.prog 148 #[.string ⟨s.toArray⟩] w fun e w'=>BIs (okE s) e/\Below w.heap.size w w':=by
 by_cases hbad:s=[] ∨ s=[46] ∨ s=[46,46] ∨ s=[46,103,105,116]
 ·have HOK:Hid (¬ okE s):=hid (by
   rintro⟨h1,_,h3,h4,h5,_⟩
   rcases hbad with h | h | h | h
   ·rw[h] at h1;exact absurd h1 (by decide)
   ·exact h3 h
   ·exact h4 h
   ·exact h5 h)
  rcases hbad with rfl | rfl | rfl | rfl
  all_goals
   go_enter Tryz.func148,Tryz.ntmps148
   go_wp2
   go_ret
   exact⟨zX HOK.out,Below.refl _ _⟩
 ·obtain⟨S,HS⟩:=nn_ (⟨s.toArray⟩:ByteArray)
  have hsz:S.size=s.length:=by rw[HS.out];simp[ByteArray.size]
  have n0:s ≠ []:=fun h=>hbad (Or.inl h)
  have n1:s ≠ [46]:=fun h=>hbad (Or.inr (Or.inl h))
  have n2:s ≠ [46,46]:=fun h=>hbad (Or.inr (Or.inr (Or.inl h)))
  have n3:s ≠ [46,103,105,116]:=fun h=>hbad (Or.inr (Or.inr (Or.inr h)))
  have eS:S.toList=s:=by rw[HS.out,Lib.toList_data]
  have e0:S.toList.isEmpty=false:=by rw[eS];simpa using n0
  have e1:(S.toList == [46])=false:=by rw[eS];simpa using n1
  have e2:(S.toList == [46,46])=false:=by rw[eS];simpa using n2
  have e3:(S.toList == [46,103,105,116])=false:=by rw[eS];simpa using n3
  clear eS
  have HCA:Hid (s.length<=50->∀ w,Calls Tryz.prog 175 #[.string S,.string ⟨#[47,0]⟩] w fun e w'=>BIs (kK ⟨s.toArray⟩ ⟨#[47,0]⟩) e/\Below w.heap.size w w'):=fun h50 w=>by
   rw[HS.out]
   refine(Qk ⟨s.toArray⟩ ⟨#[47,0]⟩ (by decide) (by decide) two_asc (by simp[ByteArray.size];omega) w).mono ?_
   rintro e w' ⟨⟨b,rfl,hb⟩,h2⟩
   exact⟨⟨b,rfl,hb⟩,h2⟩
  have HL:Hid (1<=s.length):=hid (by
   rcases s with _ | ⟨x,s⟩
   ·exact absurd rfl n0
   ·simp)
  have HN:Hid (s ≠ [46]/\s ≠ [46,46]/\s ≠ [46,103,105,116]):=⟨n1,n2,n3⟩
  rw[<-HS.out]
  clear n0 n1 n2 n3 hbad
  by_cases h:s.length<=50
  ·have hi:(s.length:Int)<=50:=by omega
   have h60:Hid (s.length<=50):=h
   clear h
   go_enter Tryz.func148,Tryz.ntmps148
   go_wp2_with fail
   refine(HCA.out h60.out _).mono ?_
   rintro ev w1 ⟨hbi,hb1⟩
   rcases x8 hbi with ⟨hy,rfl⟩ | ⟨hn,rfl⟩
   ·have HOK:Hid (¬ okE s):=fun h2=>absurd hy ((two_iff s).2 h2.2.2.2.2.2)
    clear hy hbi
    go_wp2
    go_ret
    exact⟨zX HOK.out,hb1⟩
   ·have HOK:Hid (okE s):=⟨HL.out,h60.out,HN.out.1,HN.out.2.1,HN.out.2.2,(two_iff s).1 hn⟩
    clear hn hbi
    go_wp2
    go_ret
    exact⟨jZ HOK.out,hb1⟩
  ·have hi:¬ (s.length:Int)<=50:=by omega
   have HOK:Hid (¬ okE s):=fun h2=>h h2.2.1
   clear h
   go_enter Tryz.func148,Tryz.ntmps148
   go_wp2
   go_ret
   exact⟨zX HOK.out,Below.refl _ _⟩
def vy (w w':World):Prop := ∃ q os,w'=Sort.grow (w.drewN q) os
theorem vy.below {w w':World} (h:vy w w'):Below w.heap.size w w':=by
 obtain⟨q,os,rfl⟩:=h
 refine⟨rfl,rfl,rfl,by simp[Sort.grow],fun j hj=>?_⟩
 show (w.heap++os)[j]? = _
 rw[Array.getElem?_append_left hj]
theorem vy.alloc (w:World) (o:Obj):vy w (w.alloc o):=⟨0,#[o],by rw[Sort.alloc_eq_grow];rfl⟩
theorem Xq (e:Er) (hn:e.name.length<=1000000) (hl:e.id.length=20) (w:World):Calls Tryz.prog 154 #[.agg (erV e).toArray] w fun r w'=>r=.returned (.string ⟨(qV e).toArray⟩)/\vy w w':=by
 obtain⟨S,HS⟩:=nn_ (⟨e.name.toArray⟩:ByteArray)
 obtain⟨m,HM⟩:=nm_ e.mode
 have hsz:S.size=e.name.length:=by rw[HS.out];simp[ByteArray.size]
 have hS1:¬ 9223372036854775807<S.size+1:=by omega
 have hS2:¬ 9223372036854775807<=S.size:=by omega
 have h47:(⟨#[47]⟩:ByteArray).size=1:=rfl
 have HE:Hid (S ++ ⟨#[47]⟩=⟨(e.name++[47]).toArray⟩):=hid (by
  rw[HS.out,show (⟨#[47]⟩:ByteArray)=⟨[47].toArray⟩ from rfl]
  exact yw _ _)
 have HG:Hid (∀ o,vy w (w.alloc o)):=fun o=>vy.alloc w o
 obtain⟨a0,a1,a2,a3,a4,a5,a6,a7,a8,a9,a10,a11,a12,a13,a14,a15,a16,a17,a18,a19,el⟩:=uw e.id hl
 have HV:Hid ((erV e).toArray=(Value.int .i64 m :: Value.string S :: row .u8 [a0,a1,a2,a3,a4,a5,a6,a7,a8,a9,a10,a11,a12,a13,a14,a15,a16,a17,a18,a19]).toArray):=hid (by unfold erV;rw[HM.out,HS.out,el])
 rw[HV.out]
 clear el hl hn
 simp only[row,List.map_cons,List.map_nil]
 by_cases h:m=16384
 ·have HK:Hid (⟨(qV e).toArray⟩=S ++ ⟨#[47]⟩):=hid (by rw[HE.out];unfold qV;rw[HM.out,if_pos h])
  rw[HK.out]
  subst h
  go_enter Tryz.func154,Tryz.ntmps154
  go_wp2
  go_ret
  exact⟨rfl,HG.out _⟩
 ·have HK:Hid (⟨(qV e).toArray⟩=S):=hid (by rw[HS.out];unfold qV;rw[HM.out,if_neg h])
  rw[HK.out]
  go_enter Tryz.func154,Tryz.ntmps154
  go_wp2
  go_ret
  exact⟨rfl,HG.out _⟩
end Go.Proofs.YticgindfipobiaaGreatDoor
namespace Go.Proofs
open Go.Shelf
def Tryz.lays106_ren:Go.Shelf.Ren:=⟨fun | 106=>153 | 213=>178 | 265=>211 | n=>n,fun | 9=>9 | 3=>3 | n=>n,fun | n=>n⟩
theorem Tryz.lays106:Go.Proofs.Lays.n106 Tryz.prog Tryz.lays106_ren:={
 mixed:=by kernel_rfl
 f106:=Tryz.func153.trans (congrArg some (by kernel_rfl))
 f213:=Tryz.func178.trans (congrArg some (by kernel_rfl))
 f265:=Tryz.func211.trans (congrArg some (by kernel_rfl))
 t3:=Tryz.underlying3
 a3:=Tryz.isAgg3
 z3:=Tryz.sizeOf3
 v3:=Tryz.zeroValue3
 t9:=Tryz.underlying9
 a9:=Tryz.isAgg9
 z9:=Tryz.sizeOf9
 v9:=Tryz.zeroValue9 }
def Tryz.sortE_ren:Go.Shelf.Ren:=⟨fun | 6=>151 | 15=>65 | 14=>177 | 28=>95 | 29=>96 | 20=>203 | 21=>204 | 22=>205 | 23=>206 | 24=>207 | 25=>208 | 26=>209 | 27=>210 | 46=>232 | 47=>131 | 48=>132 | 49=>233 | 50=>234 | 57=>239 | n=>n,fun | 22=>149 | 24=>154 | 25=>227 | 3=>3 | 39=>142 | 0=>0 | 53=>63 | 55=>62 | 4=>4 | 46=>198 | 45=>197 | 50=>74 | 5=>5 | 9=>9 | 66=>241 | 70=>245 | 76=>271 | 77=>272 | n=>n,fun | n=>n⟩
theorem Tryz.sortE:Go.Proofs.SlLaysF0.n6 Tryz.prog Tryz.sortE_ren:={
 mixed:=by kernel_rfl
 f6:=⟨Tryz.f151.name,by decide,Tryz.func151.trans (congrArg some (by kernel_rfl))⟩
 f14:=⟨Tryz.f177.name,by decide,Tryz.func177.trans (congrArg some (by kernel_rfl))⟩
 f15:=Tryz.func65.trans (congrArg some (by kernel_rfl))
 f20:=⟨Tryz.f203.name,by decide,Tryz.func203.trans (congrArg some (by kernel_rfl))⟩
 f21:=⟨Tryz.f204.name,by decide,Tryz.func204.trans (congrArg some (by kernel_rfl))⟩
 f22:=⟨Tryz.f205.name,by decide,Tryz.func205.trans (congrArg some (by kernel_rfl))⟩
 f23:=⟨Tryz.f206.name,by decide,Tryz.func206.trans (congrArg some (by kernel_rfl))⟩
 f24:=⟨Tryz.f207.name,by decide,Tryz.func207.trans (congrArg some (by kernel_rfl))⟩
 f25:=⟨Tryz.f208.name,by decide,Tryz.func208.trans (congrArg some (by kernel_rfl))⟩
 f26:=⟨Tryz.f209.name,by decide,Tryz.func209.trans (congrArg some (by kernel_rfl))⟩
 f27:=⟨Tryz.f210.name,by decide,Tryz.func210.trans (congrArg some (by kernel_rfl))⟩
 f28:=Tryz.func95.trans (congrArg some (by kernel_rfl))
 f29:=Tryz.func96.trans (congrArg some (by kernel_rfl))
 f46:=⟨Tryz.f232.name,by decide,Tryz.func232.trans (congrArg some (by kernel_rfl))⟩
 f47:=Tryz.func131.trans (congrArg some (by kernel_rfl))
 f48:=Tryz.func132.trans (congrArg some (by kernel_rfl))
 f49:=⟨Tryz.f233.name,by decide,Tryz.func233.trans (congrArg some (by kernel_rfl))⟩
 f50:=⟨Tryz.f234.name,by decide,Tryz.func234.trans (congrArg some (by kernel_rfl))⟩
 f57:=⟨Tryz.f239.name,by decide,Tryz.func239.trans (congrArg some (by kernel_rfl))⟩
 t0:=Tryz.underlying0
 a0:=Tryz.isAgg0
 z0:=Tryz.sizeOf0
 v0:=Tryz.zeroValue0
 t3:=Tryz.underlying3
 a3:=Tryz.isAgg3
 z3:=Tryz.sizeOf3
 v3:=Tryz.zeroValue3
 t4:=Tryz.underlying4
 a4:=Tryz.isAgg4
 z4:=Tryz.sizeOf4
 v4:=Tryz.zeroValue4
 t5:=Tryz.underlying5
 a5:=Tryz.isAgg5
 z5:=Tryz.sizeOf5
 v5:=Tryz.zeroValue5
 t9:=Tryz.underlying9
 a9:=Tryz.isAgg9
 z9:=Tryz.sizeOf9
 v9:=Tryz.zeroValue9
 t22:=Tryz.underlying149
 a22:=Tryz.isAgg149
 z22:=Tryz.sizeOf149
 v22:=Tryz.zeroValue149
 t25:=Tryz.underlying227
 a25:=Tryz.isAgg227
 z25:=Tryz.sizeOf227
 v25:=Tryz.zeroValue227
 t39:=Tryz.underlying142
 a39:=Tryz.isAgg142
 z39:=Tryz.sizeOf142
 v39:=Tryz.zeroValue142
 t45:=Tryz.underlying197
 a45:=Tryz.isAgg197
 z45:=Tryz.sizeOf197
 v45:=Tryz.zeroValue197
 t46:=Tryz.underlying198
 a46:=Tryz.isAgg198
 z46:=Tryz.sizeOf198
 v46:=Tryz.zeroValue198
 t50:=Tryz.underlying74
 a50:=Tryz.isAgg74
 z50:=Tryz.sizeOf74
 v50:=Tryz.zeroValue74
 t53:=Tryz.underlying63
 a53:=Tryz.isAgg63
 z53:=Tryz.sizeOf63
 v53:=Tryz.zeroValue63
 t55:=Tryz.underlying62
 a55:=Tryz.isAgg62
 z55:=Tryz.sizeOf62
 v55:=Tryz.zeroValue62
 t66:=Tryz.underlying241
 a66:=Tryz.isAgg241
 z66:=Tryz.sizeOf241
 v66:=Tryz.zeroValue241
 t70:=Tryz.underlying245
 a70:=Tryz.isAgg245
 z70:=Tryz.sizeOf245
 v70:=Tryz.zeroValue245
 t76:=Tryz.underlying271
 a76:=Tryz.isAgg271
 z76:=Tryz.sizeOf271
 v76:=Tryz.zeroValue271
 t77:=Tryz.underlying272
 a77:=Tryz.isAgg272
 z77:=Tryz.sizeOf272
 v77:=Tryz.zeroValue272 }
end Go.Proofs
namespace Go.Proofs.YticgindfipobiaaGreatDoor
open Go.RowKit
theorem vy.refl (w:World):vy w w:=⟨0,#[],by simp[Sort.grow,World.drewN]⟩
theorem vy.drew (w:World):vy w w.drew:=⟨1,#[],by rw[World.drew_is_drewN];simp[Sort.grow];rfl⟩
theorem vy.trans {a b c:World} (h:vy a b) (k:vy b c):vy a c:=by
 obtain⟨q,os,rfl⟩:=h
 obtain⟨q2,os2,rfl⟩:=k
 refine⟨q+q2,os++os2,?_⟩
 simp[Sort.grow,World.drewN,Nat.add_assoc,Array.append_assoc]
def cmpE (x y:Er):Int:=Lib.compareBytes (qV x) (qV y)
theorem Y7 (a b:List UInt8) (w:World):Calls Tryz.prog 153 #[.string ⟨a.toArray⟩,.string ⟨b.toArray⟩] w fun e w'=>e=.returned (.int .i64 (Lib.compareBytes a b))/\w'=w :=
 Any.strings_Compare Tryz.lays106 ⟨a.toArray⟩ ⟨b.toArray⟩ w
structure Two (G H:Nat) (X Y:List Value) (W:World):Prop where
 x:W.heap[G]? = some (.cells X.toArray 154 (0,0))
 y:W.heap[H]? = some (.cells Y.toArray 154 (0,0))
theorem Two.below {G H:Nat} {X Y:List Value} {W W':World} (h:Two G H X Y W) (hb:Below W.heap.size W W'):Two G H X Y W' :=
 ⟨(hb.block _ (z6 h.x)).trans h.x,(hb.block _ (z6 h.y)).trans h.y⟩
theorem Q8:(Tryz.prog.info? 154).map (·.size)=some 22:=by kernel_rfl
theorem enter93 (v:Value) (w:World):(callFunc 154 #[v]).run Tryz.prog w=.ok (.enter 154 #[v]) w:=by kernel_rfl
theorem enter92 (v1 v2:Value) (w:World):(callFunc 153 #[v1,v2]).run Tryz.prog w=.ok (.enter 153 #[v1,v2]) w:=by kernel_rfl
theorem yz (e:Er) (h:e.id.length=20):(erV e).length=22:=by simp[erV,zq,h]
theorem byOrder_any (x y:Er) (hx:x.name.length<=1000000) (hy:y.name.length<=1000000) (lx:x.id.length=20) (ly:y.id.length=20) (w:World):Calls Tryz.prog 116 #[.agg (erV x).toArray,.agg (erV y).toArray] w fun e w'=>e=.returned (.int .i64 (cmpE x y))/\vy w w':=by
 obtain⟨X,HX⟩:=nm_ (erV x)
 obtain⟨Y,HY⟩:=nm_ (erV y)
 obtain⟨A,HA⟩:=nm_ (⟨(qV x).toArray⟩:ByteArray)
 obtain⟨B,HB⟩:=nm_ (⟨(qV y).toArray⟩:ByteArray)
 have HPX:Hid (∀ w,Calls Tryz.prog 154 #[.agg X.toArray] w fun r w'=>r=.returned (.string A)/\vy w w'):=fun w=>by
  rw[<-HX.out,<-HA.out];exact Xq x hx lx w
 have HPY:Hid (∀ w,Calls Tryz.prog 154 #[.agg Y.toArray] w fun r w'=>r=.returned (.string B)/\vy w w'):=fun w=>by
  rw[<-HY.out,<-HB.out];exact Xq y hy ly w
 have HC:Hid (∀ w,Calls Tryz.prog 153 #[.string A,.string B] w fun e w'=>e=.returned (.int .i64 (cmpE x y))/\w'=w):=fun w=>by
  rw[<-HA.out,<-HB.out];exact Y7 _ _ w
 have HLX:Hid ((Tryz.prog.info? 154).map (·.size)=some X.length):=hid (by rw[<-HX.out,yz x lx];exact Q8)
 have HLY:Hid ((Tryz.prog.info? 154).map (·.size)=some Y.length):=hid (by rw[<-HY.out,yz y ly];exact Q8)
 rw[HX.out,HY.out]
 clear hx hy lx ly
 obtain⟨g,HG⟩:=nn_ w.heap.size
 obtain⟨w0,HW0⟩:=nn_ ((w.alloc (Obj.cells X.toArray 154)).alloc (Obj.cells Y.toArray 154))
 have HGW:Hid (vy w w0.drew):=hid (by rw[HW0.out];exact((vy.alloc w _).trans (vy.alloc _ _)).trans (vy.drew _))
 have HT:Hid (Two g (g+1) X Y w0.drew):=hid (by
  rw[HW0.out,HG.out]
  constructor
  ·show ((w.heap.push _).push _)[w.heap.size]? = _
   rw[Array.getElem?_push,if_neg (by simp),Array.getElem?_push,if_pos rfl]
  ·show ((w.heap.push _).push _)[w.heap.size+1]? = _
   rw[Array.getElem?_push,if_pos (by simp)])
 go_enter Tryz.func116,Tryz.ntmps116
 go_wp2_with fail
 rw[<-HG.out,<-HW0.out]
 refine wp_region_held_drew (S:=Two g (g+1) X Y) (by kernel_rfl) (by exact HT.out) (fun hHeld=>?_)
 generalize w0.drew=wd at hHeld HGW ⊢
 refine tW (i:=0) (v:=.agg X.toArray) hHeld rfl (yieldsIf_load_mid (by rfl) 154 _ rfl g 0 (by rfl) X _ (fun w' h=>zx h.x) Tryz.underlying154 rfl HLX.out) ?_
 try simp only[Act.put,sL]
 refine tW (i:=2) (v:=.agg Y.toArray) hHeld rfl (yieldsIf_load_mid (by rfl) 154 _ rfl (g+1) 0 (by rfl) Y _ (fun w' h=>zx h.y) Tryz.underlying154 rfl HLY.out) ?_
 try simp only[Act.put,sL]
 refine wpAnyH_ready (rs:=[1]) (by kernel_rfl) (by simp) ?_
 refine zu rfl (fun KK hKK=>?_) AllReadyH.nil
 refine zk (by rfl) 154 [.tmp 5] _ [.agg X.toArray] _ (by rfl) (by rfl) (enter93 _) (HPX.out _) ?_
 rintro e w1 ⟨rfl,g1⟩
 refine⟨_,rfl,?_⟩
 have HG1:Hid (vy w w1):=HGW.out.trans g1
 refine hKK.out _ _ (hHeld.below g1.below) (fun hHeld=>?_)
 clear hKK KK g1
 try simp only[Act.put,sL]
 refine wpAnyH_ready (rs:=[3]) (by kernel_rfl) (by simp) ?_
 refine zu rfl (fun KK hKK=>?_) AllReadyH.nil
 refine zk (by rfl) 154 [.tmp 7] _ [.agg Y.toArray] _ (by rfl) (by rfl) (enter93 _) (HPY.out _) ?_
 rintro e w2 ⟨rfl,g2⟩
 refine⟨_,rfl,?_⟩
 have HG2:Hid (vy w w2):=HG1.out.trans g2
 refine hKK.out _ _ (hHeld.below g2.below) (fun hHeld=>?_)
 clear hKK KK g2
 try simp only[Act.put,sL]
 refine wpAnyH_ready (rs:=[4]) (by kernel_rfl) (by simp) ?_
 refine zu rfl (fun KK hKK=>?_) AllReadyH.nil
 refine zk (by rfl) 153 [.tmp 6,.tmp 8] _ [.string A,.string B] _ (by rfl) (by rfl) (enter92 _ _) (HC.out _) ?_
 rintro e w3 ⟨rfl,hw3⟩
 refine⟨_,rfl,?_⟩
 have hw3':=hw3.symm
 subst hw3'
 refine hKK.out _ _ hHeld (fun hHeld=>?_)
 clear hKK KK hw3
 try simp only[Act.put,sL]
 refine tV (i:=5) hHeld ?_
 try simp only[Act.put,sL]
 refine wpAnyH_done (by kernel_rfl) ?_ _
 go_wp2
 go_ret
 exact⟨rfl,HG2.out⟩
end Go.Proofs.YticgindfipobiaaGreatDoor
namespace Go.Proofs.YticgindfipobiaaGreatDoor
open Go.RowKit Go.Shelf
theorem j7 (w:World) (o:Obj):w.grownBy (w.alloc o) none:=World.grownBy_alloc w o none
def SeqAll {α:Type} (F:Fence) (n:Nat) (P:Program) (g:Nat) (lb:Array Value) (encs:α->Array Value) (Fx:α->World->Prop) (Kp:Nat->World->World->Prop) (S:List α->Prop) (N:Nat) (w0:World):Prop :=
 ∀ (l:Nat) (J:List α->World->Prop) (W:World),Below w0.heap.size w0 W->w0.heap.size<=l->l<W.heap.size →
  (∀ s A B,J s A->A.grownBy B none->J s B) →
  (∀ pre x W1,J pre W1->Fx x W1->pre.length<N->YieldAt F (n-1) P l (encs x) W1 fun e W'=>e=.returned (.bool true)/\J (pre++[x]) W'/\Kp l W1 W') →
  J [] W →
  CallsIn F n P g (#[.func (.yield l) #[] #[]]++lb) W fun e W'=>(∃ v,e=.returned v)/\∃ xs,S xs/\J xs W'
def Ob (X:Nat) (W:World) (k:Nat):Prop := ∃ v,W.cell? ⟨X,0,none⟩=some v/\v.ownBlock=some k
structure Kx (X l:Nat) (A B:World):Prop where
 os:B.os=A.os
 tape:B.tape=A.tape
 output:B.output=A.output
 size:A.heap.size<=B.heap.size
 at_:∀ k,Ob X B k->Ob X A k ∨ A.heap.size<=k
 blk:∀ k,k<A.heap.size->k ≠ X->k ≠ l->¬ Ob X A k->B.heap[k]? = A.heap[k]?
 bd:(∀ k,Ob X A k->k<A.heap.size)->∀ k,Ob X B k->k<B.heap.size
theorem Kx.refl (X l:Nat) (A:World):Kx X l A A:=⟨rfl,rfl,rfl,Nat.le_refl _,fun _ h=>.inl h,fun _ _ _ _ _=>rfl,fun h=>h⟩
theorem Kx.trans {X l:Nat} {A B C:World} (h:Kx X l A B) (k:Kx X l B C):Kx X l A C:=by
 have hs:=h.size
 refine⟨k.os.trans h.os,k.tape.trans h.tape,k.output.trans h.output,Nat.le_trans h.size k.size,fun i hi=>?_,fun i h1 h2 h3 h4=>?_,fun hb=>k.bd (h.bd hb)⟩
 ·rcases k.at_ i hi with g | g
  ·exact h.at_ i g
  ·exact .inr (by omega)
 ·refine(k.blk i (by omega) h2 h3 (fun ho=>?_)).trans (h.blk i h1 h2 h3 h4)
  rcases h.at_ i ho with g | g
  ·exact h4 g
  ·omega
theorem Kx.grow {X l:Nat} {A B:World} (hX:X<A.heap.size) (h:A.grownBy B none):Kx X l A B :=
 ⟨h.os,h.tape,h.output,h.size,fun k ⟨v,h1,h2⟩=>.inl ⟨v,by rw[<-h1];exact(World.cell?_of_block (a:=⟨X,0,none⟩) (h.block X hX (by simp))).symm,h2⟩,fun k h1 _ _ _=>h.block k h1 (by simp),fun hb k ⟨v,h1,h2⟩=>Nat.lt_of_lt_of_le (hb k ⟨v,by rw[<-h1];exact(World.cell?_of_block (a:=⟨X,0,none⟩) (h.block X hX (by simp))).symm,h2⟩) h.size⟩
theorem Kx.loop {X l:Nat} {W:World} {r r':Loop} (hX:X ≠ l):Kx X l W (W.putObj l (.loop r')) :=
 ⟨rfl,rfl,rfl,by rw[World.putObj_size];exact Nat.le_refl _,fun k ⟨v,h1,h2⟩=>.inl ⟨v,by rw[<-h1];exact(World.cell?_of_block (a:=⟨X,0,none⟩) (World.putObj_heap_other hX)).symm,h2⟩,fun k h1 _ h3 _=>World.putObj_heap_other h3,fun hb k ⟨v,h1,h2⟩=>by rw[World.putObj_size];exact hb k ⟨v,by rw[<-h1];exact(World.cell?_of_block (a:=⟨X,0,none⟩) (World.putObj_heap_other hX)).symm,h2⟩⟩
theorem Kx.keep {X l k:Nat} {A B:World} (h:Kx X l A B) (h1:k<A.heap.size) (h2:k ≠ X) (h3:k ≠ l) (h4:¬ Ob X A k):B.heap[k]? = A.heap[k]? := h.blk k h1 h2 h3 h4
structure Fre (X:Nat) (w:World) (k:Nat):Prop where
 lt:k<w.heap.size
 ne:k ≠ X
 no:¬ Ob X w k
theorem Fre.kx {X l k:Nat} {A B:World} (h:Fre X A k) (hk:Kx X l A B):Fre X B k :=
 ⟨Nat.lt_of_lt_of_le h.lt hk.size,h.ne,fun ho=>by rcases hk.at_ k ho with g | g;exact h.no g;have:=h.lt;omega⟩
theorem boxed_kx {X l B t:Nat} {v:Value} {A W:World} (h:Boxed A B t v) (hk:Kx X l A W) (hf:Fre X A B) (hl:B ≠ l):Boxed W B t v:=(hk.blk B hf.lt hf.ne hl hf.no).trans h
end Go.Proofs.YticgindfipobiaaGreatDoor
