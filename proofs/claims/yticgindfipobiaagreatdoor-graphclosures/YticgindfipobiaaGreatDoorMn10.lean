import Derived.Test.YticgindfipobiaaGreatDoorMn09
import Derived.Deep.AppendLies
import Derived.Deep.LoopGhost
import Derived.Deep.RegionWith
import Derived.Deep.QuietTactic
import Derived.BigQuiet
import Derived.WalkLawsBesides
import Derived.WalkSpells
import Derived.Laws.BitsAllLaws
import Derived.Laws.CopyOwn
import Derived.Laws.IdiomCopy
import Derived.Deep.RegionHeld3
import Derived.Deep.RegionLaw
import Derived.Deep.DrawnRows
import Derived.Deep.MidRow
import Derived.Laws.BytesArg
import Derived.Laws.Externs
import Derived.Test.YticgindfipobiaaGreatDoorMn05
import Derived.Test.YticgindfipobiaaGreatDoorMn06
import Derived.Test.YticgindfipobiaaGreatDoorMn07
set_option linter.unusedSimpArgs false
set_option linter.unusedVariables false
set_option maxRecDepth 20000
set_option maxHeartbeats 4000000
namespace Go.Proofs.YticgindfipobiaaGreatDoor.Hx
open Go.RowKit
theorem Tryz.info5:(Tryz.prog.info? 5).map (fun i=>(i.zero,i.size,i.bytes))=some (some (.int .u8 0),1,1):=by kernel_rfl
theorem Tryz.info56:(Tryz.prog.info? 56).map (·.size)=some 20:=by kernel_rfl
theorem Tryz.info31:(Tryz.prog.info? 31).map (·.size)=some 20:=by kernel_rfl
theorem zQ {o:Option TypeInfo} {z:Value} {a b:Nat} (h:o.map (fun i=>(i.zero,i.size,i.bytes))=some (some z,a,b)):∃ i,o=some i/\i.zero=some z/\i.size=a/\i.bytes=b:=by
 cases o with
 | none=>simp at h
 | some i=>simp at h;exact⟨i,rfl,h.1,h.2.1,h.2.2⟩
def row (zs:List Int):List Value:=zs.map (Value.int .u8)
theorem zq (zs:List Int):(row zs).length=zs.length:=by simp[row]
theorem vq (zs:List Int) (i:Nat) (h:i<zs.length):(row zs)[i]? = some (.int .u8 (zs.getD i 0)):=by simp[row,h]
theorem zV (zs:List Int):∀ v ∈ row zs,v.oneCell'=true:=by
 intro v hv;simp only[row,List.mem_map] at hv;obtain⟨c,_,rfl⟩:=hv;rfl
theorem xu (zs:List Int) (n:Nat) (c:Int):(row zs).toArray.setIfInBounds n (.int .u8 c)=(row (zs.set n c)).toArray:=by
 simp[row,List.map_set]
theorem qx {w:World} {g:Nat} {zs:List Int} {t:TypeId} {fr:Nat × Nat} (h:w.heap[g]? = some (.cells (row zs).toArray t fr)) (i:Nat) (hi:i<zs.length):w.cell? ⟨g,i,none⟩=some (.int .u8 (zs.getD i 0)):=by
 rw[cell_of_row w g i _ t fr h];simpa using vq zs i hi
theorem zx {w:World} {g:Nat} {cs:List Value} {t:TypeId} {fr:Nat × Nat} (h:w.heap[g]? = some (.cells cs.toArray t fr)):w.rangeAt g 0 cs:=fun j v hv=>by
 rw[Nat.zero_add,cell_of_row w g j _ t fr h];simpa using hv
theorem zW {w:World} {g n:Nat} {zs:List Int} {t:TypeId} (h:w.heap[g]? = some (.cells (row zs).toArray t (0,0))) (hn:zs.length=n):w.there g 0 n:=fun j hj=>by
 rw[Nat.zero_add]
 exact⟨by rw[qx h j (by omega)];rfl,frozen_of_row w g j _ t h⟩
def dig (n:Int):Int:=if n<10 then 48+n else 87+n
def hexOf (zs:List Int):List Int:=zs.flatMap fun x=>[dig (x / 16),dig (x % 16)]
theorem hexOf_snoc (l:List Int) (x:Int):hexOf (l++[x])=hexOf l++[dig (x / 16),dig (x % 16)]:=by simp[hexOf]
theorem hexOf_len (l:List Int):(hexOf l).length=2*l.length:=by
 induction l with
 | nil=>rfl
 | cons a l ih=>simp[hexOf] at ih ⊢;omega
theorem take_snoc (zs:List Int) (k:Nat) (h:k<zs.length):zs.take (k+1)=zs.take k++[zs.getD k 0]:=by
 rw[List.take_succ_eq_append_getElem h];simp[h]
theorem Yj {P:Program} (t e:TypeId) (n:Nat) (cs:Array Value) (k:IntKind) (i:Nat) (v:Value) (w:World) (h:P.underlying t=some (.array n e)) (he:(P.info? e).map (·.size)=some 1) (d:TypeDesc) (hu:P.underlying e=some d) (hd:d.isRow=false) (hi:i<n) (hv:cs[i]? = some v) :
  (Instr.index t (.agg cs) (.int k i)).run P w=.ok v w:=by
 cases hq:P.info? e with
 | none=>simp[hq] at he
 | some inf =>
  have hs:inf.size=1:=by simpa [hq] using he
  have hagg:(isAgg e).run P w=.ok false w:=by
   unfold isAgg
   rw[Sem.run_bind,run_underlying hu w]
   cases d <;> simp_all
  simp[Instr.index,asIntOf,run_underlying h,hi,part,sizeOf,typeInfo,hq,hs,hagg,hv]
theorem Tryz.size5:(Tryz.prog.info? 5).map (·.size)=some 1:=by kernel_rfl
theorem index_digs (v:Int) (w:World) (h0:0<=v) (h1:v<16):(Instr.index 9 (.string { data:=#[48,49,50,51,52,53,54,55,56,57,97,98,99,100,101,102] }) (.int .u8 v)).run Tryz.prog w=.ok (.int .u8 (dig v)) w:=by
 obtain⟨n,rfl⟩:=Int.eq_ofNat_of_zero_le h0
 have hn:n<16:=by omega
 match n,hn with
 | 0,_=>show _=_;kernel_rfl
 | 1,_=>show _=_;kernel_rfl
 | 2,_=>show _=_;kernel_rfl
 | 3,_=>show _=_;kernel_rfl
 | 4,_=>show _=_;kernel_rfl
 | 5,_=>show _=_;kernel_rfl
 | 6,_=>show _=_;kernel_rfl
 | 7,_=>show _=_;kernel_rfl
 | 8,_=>show _=_;kernel_rfl
 | 9,_=>show _=_;kernel_rfl
 | 10,_=>show _=_;kernel_rfl
 | 11,_=>show _=_;kernel_rfl
 | 12,_=>show _=_;kernel_rfl
 | 13,_=>show _=_;kernel_rfl
 | 14,_=>show _=_;kernel_rfl
 | 15,_=>show _=_;kernel_rfl
theorem and15 (x:Int) (h0:0<=x) (h1:x<256):bits .and .u8 x 15=x % 16:=by
 obtain⟨n,rfl⟩:=Int.eq_ofNat_of_zero_le h0
 have:∀ n:Nat,n<256->bits .and .u8 (n:Int) 15=(n:Int) % 16:=by decide +kernel
 exact this n (by omega)
theorem jy (w:World) (o:Obj) (row:Option Nat):w.grownBy (w.alloc o).drew row:=let h:=World.grownBy_alloc w o row;⟨h.os,h.tape,h.output,h.size,h.block⟩
theorem qW {w:World} {B:Nat} {e:TypeId} {s:Nat} {v:Value} {n:Nat} {xs:List Value} (h:w.ownsRow B e s v n xs) (k:Nat) (hk:v.ownBlock=some k):B<=k/\k<w.heap.size:=h.lt k hk
theorem vj {B:Nat} {w0 w wx w3:World} {r:Option Nat} (h:Below B w0 w) (hB:B<=w0.heap.size) (hx:w.grownBy wx none) (hg:wx.grownBy w3 r) (hr:∀ k,r=some k->B<=k):Below B w0 w3 :=
 (h.grown hx (Nat.le_trans hB h.size) (fun k h=>by cases h)).grown hg (Nat.le_trans (Nat.le_trans hB h.size) hx.size) hr
set_option maxHeartbeats 1000000 in
theorem hex_prog (zs:List Int) (w:World) (hl:zs.length=20) (hz:∀ n ∈ zs,0<=n/\n<256) :
  Calls Tryz.prog 125 #[.agg (row zs).toArray] w fun e w'=>e=.returned (.string (strOfNums (hexOf zs)))/\Below w.heap.size w w':=by
 obtain⟨i5,hi,hz0,hz1,hz2⟩:=zQ Tryz.info5
 obtain⟨arr,HA⟩:=nn_ (row zs)
 rw[<-HA.out]
 have hsz:arr.toArray.size=20:=by rw[HA.out,List.size_toArray,zq];exact hl
 have HB0:Hid (Below w.heap.size w (w.alloc (.cells arr.toArray 56))):=(Below.refl _ w).alloc (Nat.le_refl _) _
 have HC0:Hid ((w.alloc (.cells arr.toArray 56)).rangeAt w.heap.size 0 arr):=zx (heap_alloc_new w _)
 go_enter Tryz.func125,Tryz.ntmps125
 go_wp2_with (at_make;refine wpList_make_own _ rfl _ _ 26 rfl w.heap.size 5 i5 (.int .u8 0) 1 Tryz.underlying26 hi hz0 hz1 _ _ _ 40 rfl rfl ?c1 ?c2 ?c3 ?c4 ?_)
 case c1=>rfl
 case c2=>rw[hz2];omega
 case c3=>unfold maxLen;omega
 case c4=>simp
 ·intro w1 hown hgrow
  have HC1:w1.rangeAt w.heap.size 0 arr:=fun j v hj=>(World.cell?_of_block (a:=⟨w.heap.size,0+j,none⟩) (hgrow.block _ (by simp) (by simp))).trans (HC0.out j v hj)
  have HB1:Hid (Below w.heap.size w w1):=HB0.out.grown hgrow (by simp) (fun k h=>by cases h)
  clear HB0 hgrow HC0
  have hi23:(Tryz.prog.info? 56).map (·.size)=some arr.length:=by rw[Tryz.info56,<-hsz];simp
  go_wp2_with (refine wpList_load_mid rfl 56 _ rfl w.heap.size 0 rfl arr _ HC1 Tryz.underlying56 rfl hi23 ?_)
  clear HC1
  go_loopg [3,8] 20 (fun k s i wr=>∃ j g cp:Nat,j<=20/\k=20-j/\i=.int .i64 j/\s=.slice (some ⟨g,0,none⟩) (2*j) cp/\wr.ownsRow w.heap.size 5 1 (.slice (some ⟨g,0,none⟩) (2*j) cp) (2*j) ((hexOf (zs.take j)).map (Value.int .u8))/\Hid (Below w.heap.size w wr))
  case atStart=>exact⟨0,_,_,by omega,rfl,rfl,rfl,by simpa [hexOf] using hown,HB1⟩
  case round =>
   clear hown HB1
   obtain⟨j,g,cp,hj,hk,rfl,rfl,hown,HB⟩:=hrel
   by_cases hlt:j<20
   ·obtain⟨x,HX⟩:=nn_ (zs.getD j 0)
    have hg:arr.toArray[j]? = some (.int .u8 x):=by rw[HA.out,HX.out];simpa using vq zs j (by omega)
    have hx:=hz x (by rw[HX.out,List.getD_eq_getElem?_getD,List.getElem?_eq_getElem (by omega)];exact List.getElem_mem _)
    have hix:∀ w1:World,(Instr.index 56 (.agg arr.toArray) (.int .i64 j)).run Tryz.prog w1=.ok (.int .u8 x) w1:=fun w1=>Yj 56 5 20 _ _ j _ w1 Tryz.underlying56 Tryz.size5 _ Tryz.underlying5 rfl hlt hg
    obtain⟨p,HP⟩:=nn_ (x / 16)
    obtain⟨q,HQ⟩:=nn_ (x % 16)
    have hp:x / 16=p:=HP.out.symm
    have hq:bits .and .u8 x 15=q:=by rw[HQ.out];exact and15 x hx.1 hx.2
    have hdp:∀ w1:World,(Instr.index 9 (.string { data:=#[48,49,50,51,52,53,54,55,56,57,97,98,99,100,101,102] }) (.int .u8 p)).run Tryz.prog w1=.ok (.int .u8 (dig p)) w1:=fun w1=>index_digs p w1 (by omega) (by omega)
    have hdq:∀ w1:World,(Instr.index 9 (.string { data:=#[48,49,50,51,52,53,54,55,56,57,97,98,99,100,101,102] }) (.int .u8 q)).run Tryz.prog w1=.ok (.int .u8 (dig q)) w1:=fun w1=>index_digs q w1 (by rw[HQ.out];omega) (by rw[HQ.out];omega)
    obtain⟨dp,HDP⟩:=nn_ (dig p)
    obtain⟨dq,HDQ⟩:=nn_ (dig q)
    rw[<-HDP.out] at hdp
    rw[<-HDQ.out] at hdq
    go_wp2
    go_region_law ((refine step_append_lies _ (by rfl) _ _ _ (by rfl) w.heap.size 5 i5 (.int .u8 0) 1 1 Tryz.underlying26 hi hz0 hz1 hz2 rfl (by omega) (.slice (some ⟨g,0,none⟩) (2*j) cp) (2*j) ((hexOf (zs.take j)).map (Value.int .u8)) (by rfl) (by exact hown.alloc _) ⟨wr.heap.size,0,none⟩ 2 2 [.int .u8 dp,.int .u8 dq] (by rfl) (by rfl) (by intro j u hj;match j,hj with | 0,hj=>simp at hj;subst hj;simp[Addr.add] | 1,hj=>simp at hj;subst hj;simp[Addr.add]) (by intro u hu;simp at hu;rcases hu with rfl | rfl <;> rfl) (by omega) (by unfold maxLen;omega) (by omega) (by have:=HB.out.size;simp;omega) (wr.heap.size+1) (by simp) ?_;intro g2 cp2 w3 hown1 hgrow hat hlt))
    all_goals
     have HB2:Hid (Below w.heap.size w w3):=vj HB.out (Nat.le_refl _) (jy wr _ none) hgrow (fun k hk=>(qW hown k hk).1)
     have HO:Hid (w3.ownsRow w.heap.size 5 1 (.slice (some ⟨g2,0,none⟩) (2*(j+1)) cp2) (2*(j+1)) ((hexOf (zs.take (j+1))).map (Value.int .u8))):=by
      show World.ownsRow _ _ _ _ _ _ _
      rw[take_snoc zs j (by omega),hexOf_snoc,List.map_append,<-HX.out,<-HP.out,<-HQ.out,List.map_cons,List.map_cons,List.map_nil,<-HDP.out,<-HDQ.out]
      exact hown1
     clear hown1 hgrow hat hown
     go_wp2
     go_roundg (20-(j+1))
     case measure=>omega
     case rel=>exact⟨j+1,g2,cp2,by omega,rfl,by go_num,rfl,HO.out,HB2⟩
   ·obtain rfl:j=20:=by omega
    have hcv:∀ dst,Tryz.prog.underlying dst=some .string->(convert 26 dst (.slice (some ⟨g,0,none⟩) 40 cp)).run Tryz.prog wr=.ok (.string (strOfNums (hexOf zs))) wr :=
     run_convert_bytes_arg wr 26 5 Tryz.underlying26 Tryz.underlying5 g 0 40 cp (hexOf zs) (by rw[hexOf_len];omega) fun i hi=>by
      rw[Nat.zero_add,hown.cellAt i (by omega),List.take_of_length_le (by omega),List.getElem?_map,List.getElem?_eq_getElem (by rw[hexOf_len];omega)]
      simp[show i<(hexOf zs).length by rw[hexOf_len];omega]
    have hcv9:=hcv 9 Tryz.underlying9
    clear hcv hown
    go_wp2
    go_ret
    exact⟨rfl,HB.out⟩
theorem ret_int {k:IntKind} {a b:Int} (h:a=b):Ending.returned (.int k a)=.returned (.int k b):=by rw[h]
theorem step_call {P:Program} {ops:Array Oper} {o:Oper} {a:Act} {w:World} {K:Act->World->Prop} {Q:Exit->Act->World->Prop} {E:Prop} (hg:o.guard=none) (f:FuncId) (s:Tmp) (t:TypeId) (v r:Value)
  (ho:o.op=.call { callee:=.value (.func f),args:=#[.tmp s],argTypes:=#[t] }) (hx:a.eval (.tmp s)=v) (hent:∀ (v:Value) (w:World),(callFunc f #[v]).run P w=.ok (.enter f #[v]) w)
  (hc:Calls P f #[v] w fun e w'=>e=.returned r/\w'=w) (h:K (a.put o.dst r) w) :
  if Region.wanted o (yielded ops a.tmps)=true then Oper.wp P o a w K Q else E:=by
 have hw:Region.wanted o (yielded ops a.tmps)=true:=by simp[Region.wanted,hg]
 rw[if_pos hw]
 have hx':a.tmps[s]?.getD undef=v:=by simpa [Act.eval] using hx
 unfold Oper.wp
 simp[execOp,ho,resolve,invoke,go_sem]
 rw[hx',hent,Oper.upon_enter]
 refine hc.mono ?_
 rintro e w' ⟨rfl,rfl⟩
 exact h
theorem wrap_u8 (n:Int) (h0:0<=n) (h1:n<256):IntKind.u8.wrap n=n:=by
 obtain⟨m,rfl⟩:=Int.eq_ofNat_of_zero_le h0
 have:∀ m:Nat,m<256->IntKind.u8.wrap (m:Int)=m:=by decide +kernel
 exact this m (by omega)
theorem below_alloc {w w':World} {o:Obj} (h:Below (w.heap.size+1) (w.alloc o) w'):Below w.heap.size w w' :=
 ((Below.refl _ w).alloc (Nat.le_refl _) o).trans (h.mono (Nat.le_succ _))
theorem enter104 (v:Value) (w:World):(callFunc 137 #[v]).run Tryz.prog w=.ok (.enter 137 #[v]) w:=by kernel_rfl
set_option maxHeartbeats 1000000 in
theorem digit_any (n:Int) (w:World) (h0:0<=n) (h1:n<16):Calls Tryz.prog 137 #[.int .u8 n] w fun e w'=>e=.returned (.int .u8 (dig n))/\w'=w:=by
 have hd:dig n=if n<10 then 48+n else 87+n:=rfl
 by_cases h:n<10
 ·rw[if_pos h] at hd
  go_enter Tryz.func137,Tryz.ntmps137
  go_wp2
  go_ret
  exact⟨ret_int (by first | (rw[hd];done) | (rw[hd];omega) | go_num),rfl⟩
 ·rw[if_neg h] at hd
  go_enter Tryz.func137,Tryz.ntmps137
  go_wp2
  go_ret
  exact⟨ret_int (by omega),rfl⟩
set_option maxHeartbeats 1000000 in
theorem hex_ref (zs:List Int) (w:World) (hl:zs.length=20) (hz:∀ n ∈ zs,0<=n/\n<256) :
  Calls Tryz.prog 103 #[.agg (row zs).toArray] w fun e w'=>e=.returned (.string (strOfNums (hexOf zs)))/\Below w.heap.size w w':=by
 obtain⟨i5,hi,hz0,hz1,hz2⟩:=zQ Tryz.info5
 obtain⟨arr,HA⟩:=nn_ (row zs)
 rw[<-HA.out]
 have hsz:arr.toArray.size=20:=by rw[HA.out,List.size_toArray,zq];exact hl
 have HB0:Hid (Below w.heap.size w (w.alloc (.cells arr.toArray 31))):=(Below.refl _ w).alloc (Nat.le_refl _) _
 have HC0:Hid (∀ i,i<20->(w.alloc (.cells arr.toArray 31)).cell? ⟨w.heap.size,i,none⟩=some (.int .u8 (zs.getD i 0))):=fun i hi=>qx (zs:=zs) (t:=31) (fr:=(0,0)) (by rw[HA.out];exact heap_alloc_new w _) i (by omega)
 go_enter Tryz.func103,Tryz.ntmps103
 go_wp2
 go_loopg [3,4] 20 (fun k s i wr=>∃ j cp:Nat,∃ a:Option Addr,j<=20/\k=20-j/\i=.int .i64 j/\s=.slice a (2*j) cp/\wr.ownsRow (w.heap.size+1) 5 1 (.slice a (2*j) cp) (2*j) ((hexOf (zs.take j)).map (Value.int .u8))/\Hid (Below (w.heap.size+1) (w.alloc (.cells arr.toArray 31)) wr))
 case atStart=>exact⟨0,0,none,by omega,rfl,rfl,rfl,World.ownsRow_nil _ _ _ _,Below.refl _ _⟩
 case round =>
  obtain⟨j,cp,a,hj,hk,rfl,rfl,hown,HB⟩:=hrel
  by_cases hlt:j<20
  ·obtain⟨x,HX⟩:=nn_ (zs.getD j 0)
   have hc:wr.cell? ⟨w.heap.size,j,none⟩=some (.int .u8 x):=by rw[HX.out];exact(HB.out.cell (p:=⟨w.heap.size,j,none⟩) (by simp)).trans (HC0.out j hlt)
   have hx:=hz x (by rw[HX.out,List.getD_eq_getElem?_getD,List.getElem?_eq_getElem (by omega)];exact List.getElem_mem _)
   obtain⟨p,HP⟩:=nn_ (x / 16)
   obtain⟨q,HQ⟩:=nn_ (x % 16)
   have hp0:x / 16=p:=HP.out.symm
   have hq0:x % 16=q:=HQ.out.symm
   have hp:IntKind.u8.wrap (x.tdiv 16)=p:=by rw[Int.tdiv_eq_ediv_of_nonneg hx.1,hp0];exact wrap_u8 p (by omega) (by omega)
   have hq:x.tmod 16=q:=by rw[Int.tmod_eq_emod_of_nonneg hx.1,hq0]
   have hdp:∀ w1,Calls Tryz.prog 137 #[.int .u8 p] w1 fun e w'=>e=.returned (.int .u8 (dig p))/\w'=w1:=fun w1=>digit_any p w1 (by omega) (by omega)
   have hdq:∀ w1,Calls Tryz.prog 137 #[.int .u8 q] w1 fun e w'=>e=.returned (.int .u8 (dig q))/\w'=w1:=fun w1=>digit_any q w1 (by omega) (by omega)
   obtain⟨dp,HDP⟩:=nn_ (dig p)
   obtain⟨dq,HDQ⟩:=nn_ (dig q)
   rw[<-HDP.out] at hdp
   rw[<-HDQ.out] at hdq
   go_wp2
   go_region_law (first
    | (refine step_call (by rfl) 137 13 5 (.int .u8 p) (.int .u8 dp) (by rfl) (by rfl) enter104 (hdp _) ?_)
    | (refine step_call (by rfl) 137 18 5 (.int .u8 q) (.int .u8 dq) (by rfl) (by rfl) enter104 (hdq _) ?_)
    | (refine step_append_lies _ (by rfl) _ _ _ (by rfl) (w.heap.size+1) 5 i5 (.int .u8 0) 1 1 Tryz.underlying26 hi hz0 hz1 hz2 rfl (by omega) (.slice a (2*j) cp) (2*j) ((hexOf (zs.take j)).map (Value.int .u8)) (by rfl) (by exact hown.alloc _) ⟨wr.heap.size,0,none⟩ 2 2 [.int .u8 dp,.int .u8 dq] (by rfl) (by rfl) (by intro j u hj;match j,hj with | 0,hj=>simp at hj;subst hj;simp[Addr.add] | 1,hj=>simp at hj;subst hj;simp[Addr.add]) (by intro u hu;simp at hu;rcases hu with rfl | rfl <;> rfl) (by omega) (by unfold maxLen;omega) (by omega) (by have:=HB.out.size;simp at this ⊢;omega) (wr.heap.size+1) (by simp) ?_;intro g2 cp2 w3 hown1 hgrow hat hlt))
   all_goals
    have HB2:Hid (Below (w.heap.size+1) (w.alloc (.cells arr.toArray 31)) w3):=vj HB.out (by simp) (jy wr _ none) hgrow (fun k hk=>(qW hown k hk).1)
    have HO:Hid (w3.ownsRow (w.heap.size+1) 5 1 (.slice (some ⟨g2,0,none⟩) (2*(j+1)) cp2) (2*(j+1)) ((hexOf (zs.take (j+1))).map (Value.int .u8))):=by
     show World.ownsRow _ _ _ _ _ _ _
     rw[take_snoc zs j (by omega),hexOf_snoc,List.map_append,<-HX.out,<-HP.out,<-HQ.out,List.map_cons,List.map_cons,List.map_nil,<-HDP.out,<-HDQ.out]
     exact hown1
    clear hown1 hgrow hat hown
    go_wp2
    go_roundg (20-(j+1))
    case measure=>omega
    case rel=>exact⟨j+1,cp2,_,by omega,rfl,by go_num,rfl,HO.out,HB2⟩
  ·obtain rfl:j=20:=by omega
   obtain⟨g,cp,hcg⟩:∃ g cp',Value.slice a 40 cp=.slice (some ⟨g,0,none⟩) 40 cp':=by
    obtain⟨g,cp',h1,-,-⟩:=hown.form (by omega)
    exact⟨g,cp',h1⟩
   simp only[Value.slice.injEq,true_and] at hcg
   obtain⟨rfl,rfl⟩:=hcg
   have hcv:∀ dst,Tryz.prog.underlying dst=some .string->(convert 26 dst (.slice (some ⟨g,0,none⟩) 40 cp)).run Tryz.prog wr=.ok (.string (strOfNums (hexOf zs))) wr :=
    run_convert_bytes_arg wr 26 5 Tryz.underlying26 Tryz.underlying5 g 0 40 cp (hexOf zs) (by rw[hexOf_len];omega) fun i hi=>by
     rw[Nat.zero_add,hown.cellAt i (by omega),List.take_of_length_le (by omega),List.getElem?_map,List.getElem?_eq_getElem (by rw[hexOf_len];omega)]
     simp[show i<(hexOf zs).length by rw[hexOf_len];omega]
   have hcv9:=hcv 9 Tryz.underlying9
   clear hcv hown
   go_wp2
   go_ret
   exact⟨rfl,below_alloc HB.out⟩
def hv (c:Int):Int:=if 48<=c/\c<=57 then c-48 else if 97<=c/\c<=102 then c-87 else -1
def sgn (s:ByteArray) (k:Nat):Int:=(s.data.toList.getD k 0).toNat
def zeros:List Int:=List.replicate 20 0
def idAt (s:ByteArray):Nat->List Int
 | 0=>zeros
 | k+1=>(idAt s k).set (k / 2) (((idAt s k).getD (k / 2) 0*16+hv (sgn s k)) % 256)
theorem idAt_len (s:ByteArray):∀ k,(idAt s k).length=20
 | 0=>rfl
 | k+1=>by rw[idAt,List.length_set,idAt_len s k]
theorem sgn_bd (s:ByteArray) (k:Nat):0<=sgn s k/\sgn s k<256:=by
 unfold sgn
 have:=(s.data.toList.getD k 0).toNat_lt
 omega
theorem idAt_bd (s:ByteArray):∀ k,∀ n ∈ idAt s k,0<=n/\n<256
 | 0=>by intro n hn;simp[idAt,zeros] at hn;omega
 | k+1=>by
  intro n hn
  rcases List.mem_or_eq_of_mem_set hn with h | h
  ·exact idAt_bd s k n h
  ·omega
def good (s:ByteArray):Prop := ∀ k,k<40->0<=hv (sgn s k)
theorem firstIdx_digs (c:Int) (h0:0<=c) (h1:c<256):firstIdx { data:=#[48,49,50,51,52,53,54,55,56,57,97,98,99,100,101,102] } c.toNat.toUInt8=hv c:=by
 obtain⟨n,rfl⟩:=Int.eq_ofNat_of_zero_le h0
 have:∀ n:Nat,n<256->firstIdx { data:=#[48,49,50,51,52,53,54,55,56,57,97,98,99,100,101,102] } ((n:Int).toNat.toUInt8)=hv n:=by decide +kernel
 exact this n (by omega)
set_option maxHeartbeats 1000000 in
theorem X7 (c:Int) (w:World) (h0:0<=c) (h1:c<256) :
  Calls Tryz.prog 179 #[.string { data:=#[48,49,50,51,52,53,54,55,56,57,97,98,99,100,101,102] },.int .u8 c] w fun e w'=>e=.returned (.int .i64 (hv c))/\w'=w:=by
 have h17:=@run_callFunc_extern Tryz.prog 223 _ Extern.BytealgIndexByte.indexByte Tryz.func223 (by kernel_rfl) (by kernel_rfl) (by kernel_rfl) (by kernel_rfl)
 have hr:=run_indexByte_string (P:=Tryz.prog) { data:=#[48,49,50,51,52,53,54,55,56,57,97,98,99,100,101,102] } c
 rw[firstIdx_digs c h0 h1] at hr
 go_enter Tryz.func179,Tryz.ntmps179
 go_wp2
 go_ret
 exact⟨rfl,rfl⟩
theorem zj {P:Program} {fn:Func} {p q:Tmp} {ty:TypeId} {t2:TypeId} (h:fn.results=#[.cell p ty,.tmp q]) (tmps:Array Value) (w:World) (g:Nat) (cs:List Value) (d:TypeDesc) (v:Value)
  (hp:tmps.getD p undef=.pointer (some ⟨g,0,none⟩)) (hq:tmps.getD q undef=v) (hc:w.rangeAt g 0 cs) (hu:P.underlying ty=some d) (hd:d.isRow=true) (hi:(P.info? ty).map (·.size)=some cs.length) :
  (results fn tmps).run P w=.ok (.tuple #[.agg cs.toArray,v]) w:=by
 have hp':tmps[p]?.getD undef=.pointer (some ⟨g,0,none⟩):=by simpa using hp
 have hq':tmps[q]?.getD undef=v:=by simpa using hq
 simp[results,h,hp',hq',asAddr,run_loadVar_mid w g 0 ty cs d hc hu hd hi]
theorem hv_neg (c:Int) (h:¬ 0<=hv c):hv c = -1:=by
 unfold hv at h ⊢
 by_cases a:48<=c/\c<=57
 ·rw[if_pos a] at h;omega
 ·rw[if_neg a] at h ⊢
  by_cases b:97<=c/\c<=102
  ·rw[if_pos b] at h;omega
  ·rw[if_neg b]
theorem index_sgn (s:ByteArray) (j:Nat) (w:World) (h:j<s.size):(Instr.index 9 (.string s) (.int .i64 j)).run Tryz.prog w=.ok (.int .u8 (sgn s j)) w:=by
 rw[run_index_string (P:=Tryz.prog) w 9 s .i64 j Tryz.underlying9,dif_pos ⟨by omega,by omega⟩]
 unfold sgn
 have hj:j<s.data.toList.length:=by simpa using h
 simp only[Int.toNat_natCast,List.getD_eq_getElem?_getD,List.getElem?_eq_getElem hj,Option.getD_some]
 rfl
theorem z7 {B g:Nat} (hB:B<=g):∀ (vs:List Value) (o:Nat) (w0 w:World),Below B w0 w->Below B w0 (w.setCells g o vs)
 | [],_,_,_,h=>h
 | v :: r,o,w0,_,h=>z7 hB r (o+1) w0 _ (h.setCell (p:=⟨g,o,none⟩) hB v)
theorem shl_or (a n:Int) (ha:0<=a/\a<256) (hn:0<=n/\n<16):bits .or .u8 (a*16 % 256) n=(a*16+n) % 256:=by
 obtain⟨x,rfl⟩:=Int.eq_ofNat_of_zero_le ha.1
 obtain⟨y,rfl⟩:=Int.eq_ofNat_of_zero_le hn.1
 have:∀ y:Nat,y<16->∀ x:Nat,x<256->bits .or .u8 ((x:Int)*16 % 256) (y:Int)=((x:Int)*16+y) % 256:=by decide +kernel
 exact this y (by omega) x (by omega)
set_option maxHeartbeats 1000000 in
theorem parse_prog (s:ByteArray) (w:World) (hl:s.size<=300000) :
  Calls Tryz.prog 156 #[.string s] w fun e w'=>Below w.heap.size w w'/\((s.size=40/\good s->e=.returned (.tuple #[.agg (row (idAt s 40)).toArray,.nilIface]))/\(¬ (s.size=40/\good s)->e=.returned (.tuple #[.agg (row zeros).toArray,.iface 43 (.int .i64 12)]))):=by
 have hi2:∀ l:List Int,l.length=20->(Tryz.prog.info? 56).map (·.size)=some (row l).length:=fun l h=>by rw[zq,h];exact Tryz.info56
 obtain⟨zr,HZ⟩:=nn_ (row zeros)
 by_cases h40:s.size=40
 ·go_enter Tryz.func156,Tryz.ntmps156
  go_wp2
  go_loopg [14] 40 (fun k i wr=>∃ j:Nat,j<=40/\k=40-j/\i=.int .i64 j/\(∀ k,k<j->0<=hv (sgn s k))/\Hid (wr.heap[w.heap.size+1]? = some (.cells (row (idAt s j)).toArray 56 (0,0)))/\Hid (wr.heap[w.heap.size]? = some (.cells (row zeros).toArray 56 (0,0)))/\Hid (Below w.heap.size w wr))
  case atStart=>exact⟨0,by omega,rfl,rfl,fun k hk=>by omega,heap_alloc2_new w _ _,heap_alloc2_old w _ _,((Below.refl _ _).alloc (Nat.le_refl _) _).alloc (by simp) _⟩
  case round =>
   obtain⟨j,hj,hk,rfl,hgd,H1,H0,HB⟩:=hrel
   by_cases hlt:j<40
   ·obtain⟨c,HC⟩:=nn_ (sgn s j)
    have hix:∀ w1:World,(Instr.index 9 (.string s) (.int .i64 j)).run Tryz.prog w1=.ok (.int .u8 c) w1:=fun w1=>by rw[HC.out];exact index_sgn s j w1 (by omega)
    have hcb:0<=c/\c<256:=by rw[HC.out];exact sgn_bd s j
    by_cases hn:0<=hv c
    ·obtain⟨n,HN⟩:=nn_ (hv c)
     have hnb:0<=n/\n<16:=by rw[HN.out];refine⟨hn,?_⟩;unfold hv;split;omega;split <;> omega
     obtain⟨x,HX⟩:=nn_ ((idAt s j).getD (j / 2) 0)
     have hcell:wr.cell? ⟨w.heap.size+1,j / 2,none⟩=some (.int .u8 x):=by rw[HX.out];exact qx H1.out (j / 2) (by rw[idAt_len];omega)
     have hfz:=frozen_of_row wr (w.heap.size+1) (j / 2) _ 56 H1.out
     have hxb:0<=x/\x<256:=idAt_bd s j x (by rw[HX.out,List.getD_eq_getElem?_getD,List.getElem?_eq_getElem (by rw[idAt_len];omega)];exact List.getElem_mem _)
     obtain⟨y,HY⟩:=nn_ ((x*16+n) % 256)
     have hor:=shl_or x n hxb hnb
     rw[<-HY.out] at hor
     have hwn:IntKind.u8.wrap n=n:=wrap_u8 n hnb.1 (by omega)
     obtain⟨m,HM⟩:=nn_ (j / 2)
     have hm:j / 2=m:=HM.out.symm
     have hm2:m<20:=by omega
     rw[hm] at hcell hfz
     go_wp2_with (go_at_call 179;refine(X7 c _ hcb.1 hcb.2).mono ?_;rintro e w1 ⟨rfl,rfl⟩;rw[<-HN.out])
     go_roundg (40-(j+1))
     case measure=>omega
     case rel =>
      refine⟨j+1,by omega,rfl,by go_num,?_,?_,?_,HB.out.setCell (by simp) _⟩
      ·intro k hk
       rcases Nat.lt_or_ge k j with h | h
       ·exact hgd k h
       ·obtain rfl:k=j:=by omega
        rw[<-HC.out];exact hn
      ·show _=_
       rw[heap_setCell_same w1 _ _ _ _ _ H1.out,idAt,<-xu,<-HX.out,<-HC.out,<-HN.out,<-HY.out,hm,<-hor]
      ·show _=_
       rw[heap_setCell_other w1 _ _ _ (by simp)];exact H0.out
    ·have hneg:hv c = -1:=hv_neg c hn
     go_wp2_with (first | (go_at_call 179;refine(X7 c _ hcb.1 hcb.2).mono ?_;rintro e w1 ⟨rfl,rfl⟩;rw[hneg]) | refine wpList_store_mid rfl 56 _ _ rfl w.heap.size 0 (row zeros).toArray rfl rfl ?t1 ?t2 ?t3 ?_)
     case t1=>exact zW H0.out rfl
     case t2=>exact hi2 _ rfl
     case t3=>exact all_oneCell_toArray (zV _)
     ·refine bodyPost_ret (v:=.tuple #[.agg (row zeros).toArray,.iface 43 (.int .i64 12)]) (zj (t2:=35) Tryz.results156 _ _ w.heap.size _ _ _ rfl rfl (World.rangeAt_setCells_same _ w.heap.size 0 _ ?_) Tryz.underlying56 rfl (hi2 _ rfl)) rfl ⟨z7 (Nat.le_refl _) _ _ _ _ HB.out,fun h=>absurd (h.2 j hlt) (by rw[<-HC.out,hneg];omega),fun _=>rfl⟩
      exact zW H0.out rfl
   ·obtain rfl:j=40:=by omega
    go_wp2_with (first | refine wpList_load_mid rfl 56 _ rfl (w.heap.size+1) 0 rfl (row (idAt s 40)) _ (zx H1.out) Tryz.underlying56 rfl (hi2 _ (idAt_len s 40)) ?_ | refine wpList_store_mid rfl 56 _ _ rfl w.heap.size 0 (row (idAt s 40)).toArray rfl rfl ?t1 ?t2 ?t3 ?_)
    case t1=>rw[show (row (idAt s 40)).toArray.size=20 from by rw[List.size_toArray,zq,idAt_len]];exact zW H0.out rfl
    case t2=>rw[List.size_toArray];exact hi2 _ (idAt_len s 40)
    case t3=>exact all_oneCell_toArray (zV _)
    ·refine bodyPost_ret (v:=.tuple #[.agg (row (idAt s 40)).toArray,.nilIface]) (zj (t2:=35) Tryz.results156 _ _ w.heap.size _ _ _ rfl rfl (World.rangeAt_setCells_same wr w.heap.size 0 _ ?_) Tryz.underlying56 rfl (hi2 _ (idAt_len s 40))) rfl ⟨z7 (Nat.le_refl _) _ _ _ _ HB.out,fun _=>rfl,fun h=>absurd ⟨h40,hgd⟩ h⟩
     rw[zq,idAt_len];exact zW H0.out rfl
 ·have hnq:(s.size:Int) ≠ 40:=by omega
  have H0:Hid ((w.alloc (.cells (row zeros).toArray 56)).heap[w.heap.size]? = some (.cells (row zeros).toArray 56 (0,0))):=heap_alloc_new w _
  have HB:Hid (Below w.heap.size w (w.alloc (.cells (row zeros).toArray 56))):=(Below.refl _ _).alloc (Nat.le_refl _) _
  go_enter Tryz.func156,Tryz.ntmps156
  go_wp2_with (refine wpList_store_mid rfl 56 _ _ rfl w.heap.size 0 (row zeros).toArray rfl rfl ?t1 ?t2 ?t3 ?_)
  case t1=>exact zW H0.out rfl
  case t2=>exact hi2 _ rfl
  case t3=>exact all_oneCell_toArray (zV _)
  ·refine bodyPost_ret (v:=.tuple #[.agg (row zeros).toArray,.iface 43 (.int .i64 12)]) (zj (t2:=35) Tryz.results156 _ _ w.heap.size _ _ _ rfl rfl (World.rangeAt_setCells_same _ w.heap.size 0 _ ?_) Tryz.underlying56 rfl (hi2 _ rfl)) rfl ⟨z7 (Nat.le_refl _) _ _ _ _ HB.out,fun h=>absurd h.1 h40,fun _=>rfl⟩
   exact zW H0.out rfl
end Go.Proofs.YticgindfipobiaaGreatDoor.Hx
namespace Go.Proofs.YticgindfipobiaaGreatDoor
open Go.RowKit
structure Rd (g:Nat) (r:ByteArray) (w w':World):Prop where
 os:w'.os=w.os
 tape:w'.tape=w.tape
 output:w'.output=w.output
 size:w.heap.size<=w'.heap.size
 block:∀ b,b<w.heap.size->b ≠ g->w'.heap[b]? = w.heap[b]?
 box:w'.heap[g]? = some (.cells #[.string r] 230 (0,0))
theorem z6 {w:World} {g:Nat} {o:Obj} (h:w.heap[g]? = some o):g<w.heap.size:=(Array.getElem?_eq_some_iff.1 h).1
theorem Rd.below {g:Nat} {r:ByteArray} {w w':World} (h:Rd g r w w') {B:Nat} {w0:World} (hb:Below B w0 w) (hB:B<=g) (hg:g<w.heap.size):Below B w0 w' :=
 ⟨h.os.trans hb.os,h.tape.trans hb.tape,h.output.trans hb.output,Nat.le_trans hb.size h.size,fun k hk=>(h.block k (by omega) (by omega)).trans (hb.block k hk)⟩
theorem Rd.wide {g:Nat} {r:ByteArray} {w w1 w2 w3:World} (hg:g<w.heap.size) (h1:Below w.heap.size w w1) (h:Rd g r w1 w2) (h2:Below w.heap.size w2 w3):Rd g r w w3 :=
 ⟨h2.os.trans (h.os.trans h1.os),h2.tape.trans (h.tape.trans h1.tape),h2.output.trans (h.output.trans h1.output),Nat.le_trans h1.size (Nat.le_trans h.size h2.size),fun b hb hne=>(h2.block b hb).trans ((h.block b (Nat.lt_of_lt_of_le hb h1.size) hne).trans (h1.block b hb)),(h2.block g hg).trans h.box⟩
theorem Rd.cell {g:Nat} {r:ByteArray} {w w':World} (h:Rd g r w w') {p:Addr} (hp:p.block<w.heap.size) (hne:p.block ≠ g):w'.cell? p=w.cell? p:=by
 simp only[World.cell?,h.block p.block hp hne]
theorem Mx.rd {g:Nat} {r:ByteArray} {w w':World} (h:Mx w) (hr:Rd g r w w') (hg:1<g):Mx w':=by
 obtain⟨m,hm⟩:=h
 refine⟨m,?_⟩
 have h1:1<w.heap.size:=by
  rcases Nat.lt_or_ge 1 w.heap.size with h' | h'
  ·exact h'
  ·simp[World.cell?,Array.getElem?_eq_none h'] at hm
 exact(hr.cell (p:=⟨1,0,none⟩) h1 (by simp;omega)).trans hm
theorem rline_any (s:List UInt8) (hs:s.length<=1000000) (g:Nat) (w:World) (hg:w.heap[g]? = some (.cells #[.string ⟨s.toArray⟩] 230 (0,0))) (hm:Mx w) :
  Calls Tryz.prog 122 #[.pointer (some ⟨g,0,none⟩)] w fun e w'=>e=.returned (.string ⟨(Lib.cut s [10]).1.toArray⟩)/\Rd g ⟨(Lib.cut s [10]).2.1.toArray⟩ w w':=by
 obtain⟨S,HS⟩:=nm_ (⟨s.toArray⟩:ByteArray)
 obtain⟨F,HF⟩:=nm_ (⟨(Lib.cut s [10]).1.toArray⟩:ByteArray)
 obtain⟨R,HR⟩:=nm_ (⟨(Lib.cut s [10]).2.1.toArray⟩:ByteArray)
 obtain⟨fd,HFD⟩:=nm_ ((Lib.cut s [10]).2.2)
 have HC:Hid (Calls Tryz.prog 111 #[.string S,.string ⟨#[10]⟩] w fun e w'=>e=.returned (.tuple #[.string F,.string R,.bool fd])/\∃ q,w'=w.drewN q):=hid (by
  rw[<-HS.out,<-HF.out,<-HR.out,<-HFD.out]
  exact Z9 s [10] w hs hm)
 rw[HF.out,HR.out]
 rw[HS.out] at hg
 have HG:Hid (w.heap[g]? = some (.cells #[.string S] 230 (0,0))):=hg
 have hc:w.cell? ⟨g,0,none⟩=some (.string S):=by rw[cell_of_row w g 0 _ _ _ hg];rfl
 have hf:w.frozen? ⟨g,0,none⟩=false:=frozen_of_row w g 0 _ _ hg
 clear hg hm
 go_enter Tryz.func122,Tryz.ntmps122
 go_wp2_with fail
 refine HC.out.mono ?_
 rintro ev w' ⟨rfl,q,rfl⟩
 go_wp2
 go_ret
 refine⟨rfl,rfl,rfl,rfl,Nat.le_of_eq ?_,?_,?_⟩
 ·simp[World.setCell,heap_drewN]
 ·intro b hb hne
  exact heap_setCell_other (w.drewN q) ⟨g,0,none⟩ b _ hne
 ·exact(heap_setCell_same (w.drewN q) g 0 _ 230 _ HG.out)
def fld (s wd:List UInt8):List UInt8:=Lib.trimPrefix (Lib.cut s [10]).1 (wd++[32])
theorem uZ (s wd:List UInt8) (hs:s.length<=1000000) (hw:wd.length<=100) (g:Nat) (w:World) (hg:w.heap[g]? = some (.cells #[.string ⟨s.toArray⟩] 230 (0,0))) (hm:Mx w) :
  Calls Tryz.prog 121 #[.pointer (some ⟨g,0,none⟩),.string ⟨wd.toArray⟩] w fun e w'=>e=.returned (.string ⟨(fld s wd).toArray⟩)/\Rd g ⟨(Lib.cut s [10]).2.1.toArray⟩ w w':=by
 obtain⟨F,HF⟩:=nm_ (⟨(Lib.cut s [10]).1.toArray⟩:ByteArray)
 obtain⟨R,HR⟩:=nm_ (⟨(Lib.cut s [10]).2.1.toArray⟩:ByteArray)
 obtain⟨Wd,HW⟩:=nm_ (⟨wd.toArray⟩:ByteArray)
 obtain⟨W2,HW2⟩:∃ S:ByteArray,Wd ++ ⟨#[32]⟩=S:=⟨_,rfl⟩
 obtain⟨T,HT⟩:=nm_ (⟨(fld s wd).toArray⟩:ByteArray)
 have HL:Hid (Calls Tryz.prog 122 #[.pointer (some ⟨g,0,none⟩)] w fun e w'=>e=.returned (.string F)/\Rd g R w w'):=hid (by rw[<-HF.out,<-HR.out];exact rline_any s hs g w hg hm)
 have HP:Hid (∀ w,Calls Tryz.prog 159 #[.string F,.string W2] w fun e w'=>e=.returned (.string T)/\w'=w):=fun w=>by
  have h2:W2=⟨(wd++[32]).toArray⟩:=by rw[<-HW2,<-HW.out,show (⟨#[32]⟩:ByteArray)=⟨[32].toArray⟩ from rfl];exact yw _ _
  rw[h2,<-HF.out,<-HT.out]
  exact Any.strings_TrimPrefix Tryz.lays101 ⟨(Lib.cut s [10]).1.toArray⟩ ⟨(wd++[32]).toArray⟩ w
 have hWs:Wd.size<=100:=by rw[<-HW.out];simpa [ByteArray.size] using hw
 have g1:¬ 9223372036854775807<Wd.size+1:=by omega
 have g2:¬ 9223372036854775807<=Wd.size:=by omega
 have l3:(⟨#[32]⟩:ByteArray).size=1:=rfl
 rw[HR.out,HW.out,HT.out]
 clear hg hm
 go_enter Tryz.func121,Tryz.ntmps121
 go_wp2_with fail
 refine HL.out.mono ?_
 rintro ev w1 ⟨rfl,hr⟩
 have HRD:Hid (Rd g R w w1):=hr
 clear hr
 go_wp2_with fail
 refine(HP.out w1).mono ?_
 rintro ev w' ⟨rfl,rfl⟩
 go_wp2
 go_ret
 exact⟨rfl,HRD.out⟩
end Go.Proofs.YticgindfipobiaaGreatDoor
