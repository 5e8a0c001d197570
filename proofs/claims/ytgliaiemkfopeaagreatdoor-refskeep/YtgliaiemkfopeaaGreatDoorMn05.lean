import Derived.Test.YtgliaiemkfopeaaGreatDoorMn01
import Derived.Test.YtgliaiemkfopeaaGreatDoorMn04
import Derived.Maps.Range
import Derived.ArgAppend
import Derived.Laws.IdiomStrings
import Derived.Test.YtgliaiemkfopeaaGreatDoorMn03
set_option linter.unusedSimpArgs false
set_option linter.unusedVariables false
set_option maxRecDepth 20000
set_option maxHeartbeats 4000000
namespace Go.Proofs.YtgliaiemkfopeaaGreatDoor
open Go.RowKit
def init5:S5:=⟨1732584193,4023233417,2562383102,271733878,3285377520⟩
theorem init_ok:init5.ok:=by refine⟨⟨?_,?_⟩,⟨?_,?_⟩,⟨?_,?_⟩,⟨?_,?_⟩,?_,?_⟩ <;> decide
def ab (l:List Int):Nat->S5
 | 0=>init5
 | k+1=>comp (ab l k) ((l.drop (64*k)).take 64)
theorem ab_ok (l:List Int):∀ k,(ab l k).ok
 | 0=>init_ok
 | k+1=>comp_ok _ _
theorem ab_app (l m:List Int):∀ k,64*k<=l.length->ab (l++m) k=ab l k
 | 0,_=>rfl
 | k+1,h=>by
  rw[ab,ab,ab_app l m k (by omega),List.drop_append_of_le_length (by omega),List.take_append_of_le_length (by rw[List.length_drop];omega)]
def be8 (n:Nat) (j:Nat):Int:=((n / 2 ^ (8*(7-j)) % 256:Nat):Int)
def ZJ (n:Nat):Nat:=(64-(n+9) % 64) % 64
def k8 (n:Nat):List Int:=128 :: List.replicate (ZJ n) 0++(List.range 8).map (be8 (8*n))
theorem endOf_len (n:Nat):(k8 n).length=9+ZJ n:=by simp[k8];omega
theorem pads_le (n:Nat):ZJ n<=63:=by unfold ZJ;omega
theorem endOf_isB (n:Nat):IsB (k8 n):=by
 intro x hx
 simp only[k8,List.cons_append,List.mem_cons,List.mem_append,List.mem_replicate,List.mem_map] at hx
 rcases hx with rfl | ⟨-,rfl⟩ | ⟨j,-,rfl⟩
 ·omega
 ·omega
 ·unfold be8
  have:8*n / 2 ^ (8*(7-j)) % 256<256:=Nat.mod_lt _ (by omega)
  omega
def jj (s:S5) (j:Nat):List Int:=(List.range 20).map fun i=>if i<j then s.l.getD (i / 4) 0 / 2 ^ (24-8*(i % 4)) % 256 else 0
theorem outAt_len (s:S5) (j:Nat):(jj s j).length=20:=by simp[jj]
theorem Zw (s:S5) (j:Nat) (h:j<20):jj s (j+1)=(jj s j).set j (s.l.getD (j / 4) 0 / 2 ^ (24-8*(j % 4)) % 256):=by
 apply List.ext_getElem (by simp[jj])
 intro i h1 h2
 rw[List.getElem_set]
 simp only[jj,List.getElem_map,List.getElem_range]
 by_cases e:j=i
 ·subst e;rw[if_pos (by omega),if_pos rfl]
 ·rw[if_neg e]
  by_cases h:i<j
  ·rw[if_pos (by omega),if_pos h]
  ·rw[if_neg (by omega),if_neg h]
def z20:List Int:=List.replicate 20 0
theorem outAt_zero (s:S5):jj s 0=z20:=rfl
def sha (l:List Int):List Int:=jj (ab (l++k8 l.length) ((l++k8 l.length).length / 64)) 20
theorem QY (l:List Int):(sha l).length=20:=outAt_len _ _
theorem IsB.take {l:List Int} (h:IsB l) (n:Nat):IsB (l.take n):=fun x hx=>h x (List.mem_of_mem_take hx)
theorem IsB.drop {l:List Int} (h:IsB l) (n:Nat):IsB (l.drop n):=fun x hx=>h x (List.mem_of_mem_drop hx)
structure Dig (w:World) (D:Nat) (l:List Int):Prop where
 lt:D<w.heap.size
 sum:∀ i,i<5->w.cell? ⟨D,i,none⟩=some (.int .u32 ((ab l (l.length / 64)).l.getD i 0))
 rest:∃ rs:List Int,rs.length=64/\IsB rs/\(∀ i,i<64->w.cell? ⟨D,5+i,none⟩=some (.int .u8 (rs.getD i 0)))/\∀ i,i<l.length % 64->rs.getD i 0=l.getD (64*(l.length / 64)+i) 0
 size:w.cell? ⟨D,69,none⟩=some (.int .u64 l.length)
 fz:∀ i,w.frozen? ⟨D,i,none⟩=false
theorem Dig.keep {w w':World} {D:Nat} {l:List Int} {row:Option Nat} (h:Dig w D l) (hg:w.grownBy w' row) (hr:some D ≠ row):Dig w' D l:=by
 have c:∀ i,w'.cell? ⟨D,i,none⟩=w.cell? ⟨D,i,none⟩:=fun i=>hg.cell_far ⟨D,i,none⟩ h.lt hr
 have f:∀ i,w'.frozen? ⟨D,i,none⟩=w.frozen? ⟨D,i,none⟩:=fun i=>hg.frozen_far ⟨D,i,none⟩ h.lt hr
 obtain⟨rs,h1,h2,h3,h4⟩:=h.rest
 exact⟨Nat.lt_of_lt_of_le h.lt hg.size,fun i hi=>(c i).trans (h.sum i hi),⟨rs,h1,h2,fun i hi=>(c _).trans (h3 i hi),h4⟩,(c _).trans h.size,fun i=>(f i).trans (h.fz i)⟩
theorem ZW {w w':World} (h:Below w.heap.size w w') (row:Option Nat):w.grownBy w' row:=⟨h.os,h.tape,h.output,h.size,fun k hk _=>h.block k hk⟩
theorem vz (g:Nat):∀ (vs:List Value) (o:Nat) (w0 w:World),w0.grownBy w (some g)->w0.grownBy (w.setCells g o vs) (some g)
 | [],_,_,_,h=>h
 | v :: r,o,w0,w,h=>vz g r (o+1) w0 _ ⟨h.os,h.tape,h.output,by simpa [World.setCell] using h.size,fun k hk hne=>(Below.heap_setCell w ⟨g,o,none⟩ v k (fun e=>hne (by rw[e]))).trans (h.block k hk hne)⟩
theorem grown_setCell {w0 w:World} {g i:Nat} (v:Value) (h:w0.grownBy w (some g)):w0.grownBy (w.setCell ⟨g,i,none⟩ v) (some g):=vz g [v] i w0 w h
theorem grown_drew {w0 w:World} {r:Option Nat} (h:w0.grownBy w r):w0.grownBy w.drew r:=⟨h.os,h.tape,h.output,h.size,h.block⟩
theorem getD_app (l m:List Int) (i:Nat):(l++m).getD i 0=if i<l.length then l.getD i 0 else m.getD (i-l.length) 0:=by
 rw[List.getD_eq_getElem?_getD,List.getElem?_append]
 split <;> simp
theorem wrap_u64 (n:Nat) (h:n<18446744073709551616):IntKind.u64.wrap (n:Int)=n:=by
 rw[IntKind.wrap_u64];omega
theorem und22:Tryz.prog.underlying 60=some (.slice (Tryz.prog.elem 60)):=by kernel_rfl
theorem size22r (w:World):(sizeOf (Tryz.prog.elem 60)).run Tryz.prog w=.ok 1 w:=by kernel_rfl
theorem slice22 (b o L cp m:Nat) (w:World) (h1:m<=L) (h2:L<=cp):(Instr.slice 60 (.slice (some ⟨b,o,none⟩) L cp) (some (.int .i64 m)) none none).run Tryz.prog w=.ok (.slice (if cp=m then some ⟨b,o,none⟩ else some ⟨b,o+m,none⟩) (L-m:Nat) (cp-m:Nat)) w:=by
 rw[run_slice_l w 60 _ L cp und22 .i64 m (by omega) (by omega),size22r]
 simp only[Result.andThen_ok,sliced]
 by_cases h:cp=m
 ·simp[h]
 ·simp[h,yV]
def upd (rs:List Int) (r:Nat) (ck:List Int):List Int:=(List.range 64).map fun i=>if i<r then rs.getD i 0 else if i<r+ck.length then ck.getD (i-r) 0 else rs.getD i 0
theorem X0 (rs:List Int) (r:Nat) (ck:List Int):(upd rs r ck).length=64:=by simp[upd]
theorem upd_get (rs:List Int) (r:Nat) (ck:List Int) (i:Nat) (h:i<64):(upd rs r ck).getD i 0=if i<r then rs.getD i 0 else if i<r+ck.length then ck.getD (i-r) 0 else rs.getD i 0:=by simp[upd,h]
theorem upd_isB (rs:List Int) (r:Nat) (ck:List Int) (h1:IsB rs) (h2:IsB ck):IsB (upd rs r ck):=by
 intro x hx
 simp only[upd,List.mem_map,List.mem_range] at hx
 obtain⟨i,-,rfl⟩:=hx
 split
 ·exact h1.at _
 ·split
  ·exact h2.at _
  ·exact h1.at _
theorem upd_cells {w:World} {D r:Nat} {rs ck:List Int} (hc:∀ i,i<64->w.cell? ⟨D,5+i,none⟩=some (.int .u8 (rs.getD i 0))) (hm:r+ck.length<=64) :
  ∀ i,i<64->(w.setCells D (5+r) (row .u8 ck)).cell? ⟨D,5+i,none⟩=some (.int .u8 ((upd rs r ck).getD i 0)):=by
 intro i hi
 rw[upd_get rs r ck i hi]
 by_cases h1:i<r
 ·rw[if_pos h1,World.cell?_setCells_out D _ _ w _ (fun _ _=>Or.inl (by simp;omega))];exact hc i hi
 ·rw[if_neg h1]
  by_cases h2:i<r+ck.length
  ·rw[if_pos h2]
   have:=World.cell?_setCells_in D (row .u8 ck) (5+r) w (fun j hj=>by rw[zw] at hj;rw[Nat.add_assoc,hc (r+j) (by omega)];rfl) (i-r) (by rw[zw];omega)
   rw[show 5+r+(i-r)=5+i from by omega] at this
   rw[this]
   have h3:i-r<ck.length:=by omega
   simp[row,h3]
  ·rw[if_neg h2,World.cell?_setCells_out D _ _ w _ (fun _ _=>Or.inr (by rw[zw];simp;omega))];exact hc i hi
theorem ext_getD {l m:List Int} (h:l.length=m.length) (hg:∀ i,i<l.length->l.getD i 0=m.getD i 0):l=m:=by
 apply List.ext_getElem h
 intro i h1 h2
 have:=hg i h1
 rw[List.getD_eq_getElem?_getD,List.getD_eq_getElem?_getD,List.getElem?_eq_getElem h1,List.getElem?_eq_getElem h2] at this
 exact this
theorem upd_full (l0 rs ck:List Int) (r:Nat) (hr:r=l0.length % 64) (hm:r+ck.length=64) (hre:∀ i,i<r->rs.getD i 0=l0.getD (64*(l0.length / 64)+i) 0) :
  upd rs r ck=((l0++ck).drop (64*(l0.length / 64))).take 64:=by
 apply ext_getD
 ·rw[X0,List.length_take,List.length_drop,List.length_append];omega
 intro i h1
 have hi:i<64:=by rw[X0] at h1;exact h1
 have e2:(((l0++ck).drop (64*(l0.length / 64))).take 64).getD i 0=(l0++ck).getD (64*(l0.length / 64)+i) 0:=by
  rw[List.getD_eq_getElem?_getD,List.getElem?_take,if_pos hi,List.getElem?_drop,<-List.getD_eq_getElem?_getD]
 rw[e2,upd_get rs r ck i hi,getD_app]
 by_cases h:i<r
 ·rw[if_pos h,if_pos (by omega)];exact hre i h
 ·rw[if_neg h,if_pos (by omega),if_neg (by omega)]
  congr 1;omega
theorem range_of {w:World} {D:Nat} {k:IntKind} {l:List Int} (o:Nat) (h:∀ i,i<l.length->w.cell? ⟨D,o+i,none⟩=some (.int k (l.getD i 0))):w.rangeAt D o (row k l):=fun j v hv=>by
 have hj:j<l.length:=by rcases Nat.lt_or_ge j l.length with h | h;exact h;rw[List.getElem?_eq_none (by rw[zw];exact h)] at hv;cases hv
 rw[uK k l j hj] at hv
 cases hv
 exact h j hj
theorem part_cells {wr:World} {D r p:Nat} {l0 rs ck:List Int} (hD:Dig wr D l0) (hrc:∀ i,i<64->wr.cell? ⟨D,5+i,none⟩=some (.int .u8 (rs.getD i 0))) (hm:r+ck.length<=64) (W:World) (hW:W=(wr.drew.setCells D (5+r) (row .u8 ck)).setCell ⟨D,69,none⟩ (.int .u64 p)) :
  D<W.heap.size/\(∀ i,i<5->W.cell? ⟨D,i,none⟩=some (.int .u32 ((ab l0 (l0.length / 64)).l.getD i 0)))/\(∀ i,i<64->W.cell? ⟨D,5+i,none⟩=some (.int .u8 ((upd rs r ck).getD i 0)))/\W.cell? ⟨D,69,none⟩=some (.int .u64 p)/\∀ i,W.frozen? ⟨D,i,none⟩=false:=by
 have c69:(wr.drew.setCells D (5+r) (row .u8 ck)).cell? ⟨D,69,none⟩=some (.int .u64 l0.length):=by rw[World.cell?_setCells_out D _ _ _ _ (fun _ _=>Or.inr (by rw[zw];simp;omega))];exact hD.size
 subst hW
 refine⟨?_,fun i hi=>?_,fun i hi=>?_,World.cell?_setCell_same _ _ _ c69,fun i=>?_⟩
 ·have:=hD.lt
  simp only[World.setCell]
  simp[vy]
  exact this
 ·rw[World.cell?_setCell_other _ _ _ _ (by intro h;simp only[Addr.mk.injEq] at h;omega),World.cell?_setCells_out D _ _ _ _ (fun _ _=>Or.inl (by simp;omega))];exact hD.sum i hi
 ·rw[World.cell?_setCell_other _ _ _ _ (by intro h;simp only[Addr.mk.injEq] at h;omega)]
  exact upd_cells (w:=wr.drew) hrc hm i hi
 ·rw[World.frozen?_setCell,World.frozen?_setCells];exact hD.fz i
theorem part_grown {w wr:World} {D r p:Nat} {ck:List Int} (h:w.grownBy wr (some D)):w.grownBy ((wr.drew.setCells D (5+r) (row .u8 ck)).setCell ⟨D,69,none⟩ (.int .u64 p)) (some D):=grown_setCell _ (vz D _ _ _ _ (grown_drew h))
theorem dig_part {W:World} {D r p:Nat} {l0 rs ck:List Int} (h:D<W.heap.size/\(∀ i,i<5->W.cell? ⟨D,i,none⟩=some (.int .u32 ((ab l0 (l0.length / 64)).l.getD i 0)))/\(∀ i,i<64->W.cell? ⟨D,5+i,none⟩=some (.int .u8 ((upd rs r ck).getD i 0)))/\W.cell? ⟨D,69,none⟩=some (.int .u64 p)/\∀ i,W.frozen? ⟨D,i,none⟩=false)
  (hr:r=l0.length % 64) (hm:r+ck.length<64) (hp:p=l0.length+ck.length) (hrb:IsB rs) (hckb:IsB ck) (hre:∀ i,i<l0.length % 64->rs.getD i 0=l0.getD (64*(l0.length / 64)+i) 0):Dig W D (l0++ck):=by
 obtain⟨h1,h2,h3,h4,h5⟩:=h
 have hl:(l0++ck).length=l0.length+ck.length:=List.length_append
 have hdiv:(l0++ck).length / 64=l0.length / 64:=by rw[hl];omega
 refine⟨h1,fun i hi=>?_,⟨upd rs r ck,X0 _ _ _,upd_isB _ _ _ hrb hckb,h3,fun i hi=>?_⟩,by rw[h4,hp,hl],h5⟩
 ·rw[hdiv,ab_app _ _ _ (by omega)];exact h2 i hi
 ·rw[hdiv,upd_get _ _ _ _ (by omega),getD_app]
  rw[hl] at hi
  by_cases h:i<r
  ·rw[if_pos h,if_pos (by omega)];exact hre i (by omega)
  ·rw[if_neg h,if_pos (by omega),if_neg (by omega)];congr 1;omega
theorem dig_full {W:World} {D r p:Nat} {l0 rs ck:List Int} {z:List Int} (h1:D<W.heap.size) (h2:∀ i,i<5->(W.cell? ⟨D,i,none⟩).isSome=true) (h3:∀ i,i<64->W.cell? ⟨D,5+i,none⟩=some (.int .u8 ((upd rs r ck).getD i 0))) (h4:W.cell? ⟨D,69,none⟩=some (.int .u64 p)) (h5:∀ i,W.frozen? ⟨D,i,none⟩=false)
  (hr:r=l0.length % 64) (hm:r+ck.length=64) (hp:p=l0.length+ck.length) (hrb:IsB rs) (hckb:IsB ck) (hre:∀ i,i<l0.length % 64->rs.getD i 0=l0.getD (64*(l0.length / 64)+i) 0) (hz:z=(comp (ab l0 (l0.length / 64)) (upd rs r ck)).l):Dig (W.setCells D 0 (row .u32 z)) D (l0++ck):=by
 have hl:(l0++ck).length=l0.length+ck.length:=List.length_append
 have hdiv:(l0++ck).length / 64=l0.length / 64+1:=by rw[hl];omega
 have hzl:z.length=5:=by rw[hz];rfl
 have hab:ab (l0++ck) ((l0++ck).length / 64)=comp (ab l0 (l0.length / 64)) (upd rs r ck):=by
  rw[hdiv,ab,ab_app _ _ _ (by omega),upd_full l0 rs ck r hr hm (fun i hi=>hre i (by omega))]
 have hin:=World.cell?_setCells_in D (row .u32 z) 0 W (fun j hj=>by rw[zw,hzl] at hj;rw[Nat.zero_add];exact h2 j hj)
 refine⟨by rw[vy];exact h1,fun i hi=>?_,⟨upd rs r ck,X0 _ _ _,upd_isB _ _ _ hrb hckb,fun i hi=>?_,fun i hi=>?_⟩,?_,fun i=>by rw[World.frozen?_setCells];exact h5 i⟩
 ·have:=hin i (by rw[zw,hzl];exact hi)
  rw[Nat.zero_add] at this
  rw[this,hab,<-hz]
  have h3:i<z.length:=by omega
  simp[row,h3]
 ·rw[World.cell?_setCells_out D _ _ _ _ (fun _ _=>Or.inr (by rw[zw,hzl];simp))];exact h3 i hi
 ·rw[hl] at hi;omega
 ·rw[World.cell?_setCells_out D _ _ _ _ (fun _ _=>Or.inr (by rw[zw,hzl];simp)),h4,hp,hl]
set_option maxHeartbeats 8000000 in
theorem X7 (D:Nat) (l:List Int) (a:Option Addr) (cap:Nat) (zs:List Int) (w:World) (hD:Dig w D l) (hl:l.length+zs.length<=700000000) (hlb:IsB l) (hz:IsB zs) (hc:0<zs.length->∃ b off,a=some ⟨b,off,none⟩/\b<w.heap.size/\b ≠ D/\At w b off zs/\zs.length<=cap) :
  Calls Tryz.prog 156 #[.pointer (some ⟨D,0,none⟩),.slice a zs.length cap] w fun e w'=>e=.returned (.tuple #[])/\Dig w' D (l++zs)/\w.grownBy w' (some D):=by
 obtain⟨b,off,HC⟩:∃ b off,Hid (0<zs.length->a=some ⟨b,off,none⟩/\b<w.heap.size/\b ≠ D/\At w b off zs/\zs.length<=cap):=by
  by_cases h:0<zs.length
  ·obtain⟨b,off,h1,h2⟩:=hc h;exact⟨b,off,fun _=>⟨h1,h2⟩⟩
  ·exact⟨0,0,fun h'=>absurd h' h⟩
 clear hc
 have HD:Hid (Dig w D l):=hD
 clear hD
 go_enter Tryz.func156,Tryz.ntmps156
 go_wp2
 go_loopg [1] zs.length (fun g s wr=>∃ (k:Nat) (ao:Option Addr) (cp:Nat),k<=zs.length/\g=zs.length-k/\s=.slice ao (zs.length-k:Nat) cp/\Hid (k<zs.length->ao=some ⟨b,off+k,none⟩/\zs.length-k<=cp)/\Hid (Dig wr D (l++zs.take k))/\Hid (w.grownBy wr (some D)))
 case atStart=>exact⟨0,a,cap,by omega,rfl,rfl,fun h=>⟨(HC.out h).1,(HC.out h).2.2.2.2⟩,hid (by simpa using HD.out),World.grownBy.refl _ _⟩
 case round =>
  obtain⟨k,ao,cp,hk,hg,rfl,HA,HDw,HG⟩:=hrel
  obtain⟨L,HL⟩:=nn_ (zs.length-k)
  rw[<-HL.out]
  by_cases hlt:k<zs.length
  ·obtain⟨rfl,hcp⟩:=HA.out hlt
   rw[<-HL.out] at hcp
   obtain⟨n,HN⟩:=nn_ (l.length+k)
   have hlen:(l++zs.take k).length=n:=by rw[HN.out,List.length_append,List.length_take];omega
   have hn7:n<700000000:=by have:=HN.out;omega
   obtain⟨r,HR⟩:=nn_ (n % 64)
   have hr64:r<64:=by have:=HR.out;omega
   have hL0:0<L:=by have:=HL.out;omega
   have hrr:(n:Int).tmod 64=(r:Int):=by rw[Int.tmod_eq_emod_of_nonneg (by omega)];have:=HR.out;omega
   obtain⟨rs,hrl,hrb,hrc,hre⟩:=HDw.out.rest
   rw[hlen] at hre
   have hsz:=HDw.out.size
   rw[hlen] at hsz
   have hfz:=HDw.out.fz
   obtain⟨q,HQ⟩:=nn_ (64-r:Nat)
   obtain⟨m,HM⟩:=nn_ (min L q)
   have hm1:0<m:=by have:=HM.out;have:=HQ.out;omega
   have hmL:m<=L:=by have:=HM.out;omega
   have hmq:r+m<=64:=by have:=HM.out;have:=HQ.out;omega
   obtain⟨ck,HCK⟩:=nn_ ((zs.drop k).take m)
   have hckl:ck.length=m:=by rw[HCK.out,List.length_take,List.length_drop];have:=HL.out;omega
   have hckb:IsB ck:=by rw[HCK.out];exact(hz.drop k).take m
   obtain⟨-,hbw,hbD,hat,-⟩:=HC.out (by omega)
   have hsl:=fun w=>slice41 D 5 r w hr64
   rw[<-HQ.out] at hsl
   have hcp2:(Builtin.copy_ #[60,60] 3 #[.slice (some ⟨D,5+r,none⟩) q q,.slice (some ⟨b,off+k,none⟩) L cp]).run Tryz.prog wr.drew=.ok (.int .i64 m) (wr.drew.setCells D (5+r) (row .u8 ck)):=by
    have:=run_copy_cells (P:=Tryz.prog) wr.drew 60 60 3 5 D (5+r) q q ⟨b,off+k,none⟩ L cp (row .u8 ck) Tryz.underlying60 Tryz.size5 (by rw[zw,hckl];exact HM.out)
     (fun j v hj=>by
      have hjm:j<ck.length:=by rcases Nat.lt_or_ge j ck.length with h | h;exact h;rw[List.getElem?_eq_none (by rw[zw];exact h)] at hj;cases hj
      rw[uK .u8 ck j hjm] at hj
      cases hj
      rw[yV]
      have hkj:k+j<zs.length:=by have:=HL.out;omega
      have h1:wr.cell? ⟨b,off+k+j,none⟩=some (.int .u8 (zs.getD (k+j) 0)):=by
       rw[Nat.add_assoc]
       exact(HG.out.cell_far ⟨b,off+(k+j),none⟩ hbw (by simpa using hbD)).trans (hat _ hkj)
      have h2:ck.getD j 0=zs.getD (k+j) 0:=by
       rw[HCK.out,List.getD_eq_getElem?_getD,List.getElem?_take,if_pos (by omega),List.getElem?_drop,List.getD_eq_getElem?_getD]
      rw[h2];exact h1)
     (fun j hj=>by rw[zw,hckl] at hj;rw[Nat.add_assoc];show (wr.cell? ⟨D,5+(r+j),none⟩).isSome=true;rw[hrc (r+j) (by omega)];rfl)
     (fun j _=>hfz _) (yQ _ _)
    rw[this,zw,hckl];rfl
   obtain⟨w2,HW2⟩:=nn_ (wr.drew.setCells D (5+r) (row .u8 ck))
   rw[<-HW2.out] at hcp2
   replace hrc:=hid hrc
   go_wp2
   go_region_law (refine step_copy (by rfl) _ _ 60 _ _ _ _ (by rfl) (by rfl) (by rfl) hcp2 ?_)
   all_goals
    have c69:w2.cell? ⟨D,69,none⟩=some (.int .u64 n):=by rw[HW2.out,World.cell?_setCells_out D _ _ _ _ (fun _ _=>Or.inr (by rw[zw,hckl];simp;omega))];exact hsz
    have f69:w2.frozen? ⟨D,69,none⟩=false:=by rw[HW2.out,World.frozen?_setCells];exact hfz 69
    obtain⟨p,HP⟩:=nn_ (n+m)
    have hwm:IntKind.u64.wrap (m:Int)=m:=wrap_u64 m (by have:=HL.out;have:=HN.out;omega)
    have hwn:IntKind.u64.wrap ((n:Int)+m)=(p:Int):=by rw[show (n:Int)+m=(p:Int) from by have:=HP.out;omega];exact wrap_u64 p (by have:=HP.out;have:=HL.out;have:=HN.out;omega)
    obtain⟨ao2,HA2⟩:∃ ao2:Option Addr,Hid (ao2=if cp=m then some ⟨b,off+k,none⟩ else some ⟨b,off+k+m,none⟩):=⟨_,rfl⟩
    have hsl2:=fun w=>slice22 b (off+k) L cp m w hmL hcp
    rw[<-HA2.out] at hsl2
    obtain⟨L2,HL2⟩:=nn_ (L-m)
    obtain⟨cp2,HC2⟩:=nn_ (cp-m)
    rw[<-HL2.out,<-HC2.out] at hsl2
    clear hcp2 hsl hrr
    replace hlen:=hid hlen
    replace hckl:=hid hckl
    replace hre:=hid hre
    replace hrl:=hid hrl
    replace hrb:=hid hrb
    replace hat:=hid hat
    replace hfz:=hid hfz
    replace hsz:=hid hsz
    replace hmq:=hid hmq
    replace hckb:=hid hckb
    by_cases hfull:r+m=64
    ·replace hfull:=hid hfull
     have htm:(p:Int).tmod 64=0:=by rw[Int.tmod_eq_emod_of_nonneg (by omega)];have:=HR.out;have:=hfull.out;have:=HP.out;omega
     have htm2:((p:Int) % 64 == 0)=true:=by rw[Int.tmod_eq_emod_of_nonneg (by omega)] at htm;simpa using htm
     go_wp2
     obtain⟨w3,HW3⟩:=nn_ (w2.setCell ⟨D,69,none⟩ (.int .u64 p))
     rw[<-HW3.out]
     have e1:Hid (l++zs.take (k+m)=(l++zs.take k)++ck):=hid (by rw[HCK.out,List.append_assoc,List.take_add])
     have N:=part_cells HDw.out hrc.out (by rw[hckl.out];exact hmq.out) w3 (by rw[HW3.out,HW2.out])
     have NG:Hid (w.grownBy w3 (some D)):=hid (by rw[HW3.out,HW2.out];exact part_grown HG.out)
     rw[hlen.out] at N
     obtain⟨us,HUS⟩:=nn_ (upd rs r ck)
     obtain⟨s0,HS0⟩:=nn_ (ab (l++zs.take k) (n / 64))
     rw[<-HUS.out,<-HS0.out] at N
     have hs0:s0.ok:=by rw[HS0.out];exact ab_ok _ _
     have husl:us.length=64:=by rw[HUS.out];exact X0 _ _ _
     have husb:IsB us:=by rw[HUS.out];exact upd_isB _ _ _ hrb.out hckb.out
     obtain⟨s1,HS1⟩:=nn_ (comp s0 us)
     have hwith:=fun w=>with_any s0 us w hs0 husl husb
     rw[<-HS1.out] at hwith
     obtain⟨a0,b0,c0,d0,e0⟩:=s0
     obtain⟨x0,x1,x2,x3,x4⟩:=s1
     have hwith':∀ w1:World,Calls Tryz.prog 189 #[.agg #[.int .u32 a0,.int .u32 b0,.int .u32 c0,.int .u32 d0,.int .u32 e0],.agg (row .u8 us).toArray] w1 fun e w'=>e=.returned (.agg #[.int .u32 x0,.int .u32 x1,.int .u32 x2,.int .u32 x3,.int .u32 x4])/\Below w1.heap.size w1 w':=hwith
     clear hwith
     have q0:w3.cell? ⟨D,0,none⟩=some (.int .u32 a0):=N.2.1 0 (by omega)
     have q1:w3.cell? ⟨D,1,none⟩=some (.int .u32 b0):=N.2.1 1 (by omega)
     have q2:w3.cell? ⟨D,2,none⟩=some (.int .u32 c0):=N.2.1 2 (by omega)
     have q3:w3.cell? ⟨D,3,none⟩=some (.int .u32 d0):=N.2.1 3 (by omega)
     have q4:w3.cell? ⟨D,4,none⟩=some (.int .u32 e0):=N.2.1 4 (by omega)
     have hi41:(Tryz.prog.info? 294).map (·.size)=some (row .u8 us).length:=by rw[zw,husl];exact Tryz.size294
     have hu41:=Tryz.underlying294
     have hul:(row .u8 us).length=64:=by rw[zw,husl]
     have h1c:=yQ .u8 us
     have N1:w3.rangeAt D 5 (row .u8 us):=range_of 5 (fun i hi=>N.2.2.1 i (by omega))
     have NC:∀ w4,Below w3.drew.heap.size w3.drew w4->(∀ i,w4.cell? ⟨D,i,none⟩=w3.cell? ⟨D,i,none⟩)/\(∀ i,w4.frozen? ⟨D,i,none⟩=false):=fun w4 hb4=>⟨fun i=>hb4.cell (p:=⟨D,i,none⟩) N.1,fun i=>(hb4.frozen (p:=⟨D,i,none⟩) N.1).trans (N.2.2.2.2 i)⟩
     have NK:Hid (∀ w4,Below w3.drew.heap.size w3.drew w4->w4.rangeAt D 5 (row .u8 us)):=fun w4 hb4 j v hv=>((NC w4 hb4).1 _).trans (N1 j v hv)
     have NS:Hid (∀ (W:World) (v0 v1 v2 v3 v4:Value),W.rangeAt D 5 (row .u8 us)->(((((W.setCell ⟨D,0,none⟩ v0).setCell ⟨D,1,none⟩ v1).setCell ⟨D,2,none⟩ v2).setCell ⟨D,3,none⟩ v3).setCell ⟨D,4,none⟩ v4).rangeAt D 5 (row .u8 us)):=fun W v0 v1 v2 v3 v4 h j v hv=>by
      rw[World.cell?_setCell_other _ _ _ _ (by intro h;simp only[Addr.mk.injEq] at h;omega),World.cell?_setCell_other _ _ _ _ (by intro h;simp only[Addr.mk.injEq] at h;omega),World.cell?_setCell_other _ _ _ _ (by intro h;simp only[Addr.mk.injEq] at h;omega),World.cell?_setCell_other _ _ _ _ (by intro h;simp only[Addr.mk.injEq] at h;omega),World.cell?_setCell_other _ _ _ _ (by intro h;simp only[Addr.mk.injEq] at h;omega)]
      exact h j v hv
     have NF:Hid (∀ w4,Below w3.drew.heap.size w3.drew w4->Dig (((((w4.setCell ⟨D,0,none⟩ (.int .u32 x0)).setCell ⟨D,1,none⟩ (.int .u32 x1)).setCell ⟨D,2,none⟩ (.int .u32 x2)).setCell ⟨D,3,none⟩ (.int .u32 x3)).setCell ⟨D,4,none⟩ (.int .u32 x4)) D ((l++zs.take k)++ck)/\w.grownBy (((((w4.setCell ⟨D,0,none⟩ (.int .u32 x0)).setCell ⟨D,1,none⟩ (.int .u32 x1)).setCell ⟨D,2,none⟩ (.int .u32 x2)).setCell ⟨D,3,none⟩ (.int .u32 x3)).setCell ⟨D,4,none⟩ (.int .u32 x4)) (some D)):=hid (by
      intro w4 hb4
      obtain⟨c4,f4⟩:=NC w4 hb4
      refine⟨?_,?_⟩
      ·have:=dig_full (W:=w4) (z:=[x0,x1,x2,x3,x4]) (r:=r) (p:=p) (rs:=rs) (l0:=l++zs.take k) (ck:=ck) (Nat.lt_of_lt_of_le N.1 hb4.size) (fun i hi=>by rw[c4,N.2.1 i hi];rfl) (fun i hi=>by rw[c4,<-HUS.out];exact N.2.2.1 i hi) ((c4 _).trans N.2.2.2.1) f4 (by rw[hlen.out];exact HR.out) (by rw[hckl.out];exact hfull.out) (by rw[hlen.out,hckl.out];exact HP.out) hrb.out hckb.out (by rw[hlen.out];exact hre.out) (by rw[hlen.out,<-HUS.out,<-HS0.out,<-HS1.out];rfl)
       exact this
      ·exact vz D [.int .u32 x0,.int .u32 x1,.int .u32 x2,.int .u32 x3,.int .u32 x4] 0 _ _ (NG.out.trans (ZW (w:=w3) ⟨hb4.os,hb4.tape,hb4.output,hb4.size,hb4.block⟩ _)))
     replace N:=hid N
     replace NC:=hid NC
     clear c69 f69
     have N1d:w3.drew.rangeAt D 5 (row .u8 us):=N1
     clear N1 h1c hul hu41 hwm hwn hsl2 htm htm2
     refine wp_region_held_drew (S:=fun w'=>w'.rangeAt D 5 (row .u8 us)) (by kernel_rfl) N1d (fun hHeld=>?_)
     refine wpAnyH_take (i:=0) (v:=?_) rfl (by kernel_rfl) (by kernel_rfl) (by kernel_rfl) (fun _ _ _ h=>h) (Or.inl ⟨by rfl,?_⟩) hHeld ?_
     rotate_left
     ·intro w hSw;go_simp;rfl
     try simp only[Act.put,sL]
     refine wpAnyH_take (i:=1) (v:=?_) rfl (by kernel_rfl) (by kernel_rfl) (by kernel_rfl) (fun _ _ _ h=>h) (Or.inl ⟨by rfl,?_⟩) hHeld ?_
     rotate_left
     ·intro w hSw;go_simp;rfl
     try simp only[Act.put,sL]
     refine wpAnyH_take (i:=2) (v:=?_) rfl (by kernel_rfl) (by kernel_rfl) (by kernel_rfl) (fun _ _ _ h=>h) (Or.inl ⟨by rfl,?_⟩) hHeld ?_
     rotate_left
     ·intro w hSw;go_simp;rfl
     try simp only[Act.put,sL]
     refine wpAnyH_take (i:=3) (v:=?_) rfl (by kernel_rfl) (by kernel_rfl) (by kernel_rfl) (fun _ _ _ h=>h) (Or.inl ⟨by rfl,?_⟩) hHeld ?_
     rotate_left
     ·intro w hSw;go_simp;rfl
     try simp only[Act.put,sL]
     refine wpAnyH_take (i:=5) (v:=?_) rfl (by kernel_rfl) (by kernel_rfl) (by kernel_rfl) (fun _ _ _ h=>h) (Or.inl ⟨by rfl,?_⟩) hHeld ?_
     rotate_left
     ·intro w hSw;go_simp;rfl
     try simp only[Act.put,sL]
     refine wpAnyH_take (i:=6) (v:=?_) rfl (by kernel_rfl) (by kernel_rfl) (by kernel_rfl) (fun _ _ _ h=>h) (Or.inl ⟨by rfl,?_⟩) hHeld ?_
     rotate_left
     ·intro w hSw;go_simp;rfl
     try simp only[Act.put,sL]
     refine wpAnyH_take (i:=7) (v:=?_) rfl (by kernel_rfl) (by kernel_rfl) (by kernel_rfl) (fun _ _ _ h=>h) (Or.inl ⟨by rfl,?_⟩) hHeld ?_
     rotate_left
     ·intro w hSw;go_simp;rfl
     try simp only[Act.put,sL]
     refine wpAnyH_take (i:=8) rfl (by kernel_rfl) (by kernel_rfl) (by kernel_rfl) (fun _ _ _ h=>h) (yieldsIf_load_mid (by rfl) _ _ rfl D 5 rfl (row .u8 us) _ (fun w h=>h) Tryz.underlying294 rfl hi41) hHeld ?_
     try simp only[Act.put,sL]
     refine wpAnyH_ready (rs:=[4]) (by kernel_rfl) (by simp) ?_
     refine AllReadyH.cons rfl (fun K hK=>?_) AllReadyH.nil
     go_simp
     refine hK.out _ _ N1d (fun hHeld=>?_)
     clear hK K
     try simp only[Act.put,sL]
     refine wpAnyH_ready (rs:=[9]) (by kernel_rfl) (by simp) ?_
     refine AllReadyH.cons rfl (fun K hK=>?_) AllReadyH.nil
     go_simp
     refine(hwith' _).mono ?_
     rintro e w4 ⟨rfl,hb4⟩
     refine hK.out _ _ (NK.out _ hb4) (fun hHeld=>?_)
     clear hK K
     obtain⟨c4,f4⟩:=NC.out w4 hb4
     have y0:=(c4 0).trans q0
     have y1:=(c4 1).trans q1
     have y2:=(c4 2).trans q2
     have y3:=(c4 3).trans q3
     have y4:=(c4 4).trans q4
     have g0:=f4 0
     have g1:=f4 1
     have g2:=f4 2
     have g3:=f4 3
     have g4:=f4 4
     clear c4 f4 q0 q1 q2 q3 q4 hwith'
     have NF4:=hid (NF.out w4 hb4)
     try simp only[Act.put,sL]
     refine wpAnyH_take (i:=10) (v:=?_) rfl (by kernel_rfl) (by kernel_rfl) (by kernel_rfl) (fun _ _ _ h=>h) (Or.inl ⟨by rfl,?_⟩) hHeld ?_
     rotate_left
     ·intro w hSw;go_simp;rfl
     try simp only[Act.put,sL]
     refine wpAnyH_take (i:=11) (v:=?_) rfl (by kernel_rfl) (by kernel_rfl) (by kernel_rfl) (fun _ _ _ h=>h) (Or.inl ⟨by rfl,?_⟩) hHeld ?_
     rotate_left
     ·intro w hSw;go_simp;rfl
     try simp only[Act.put,sL]
     refine wpAnyH_ready (rs:=[12]) (by kernel_rfl) (by simp) ?_
     refine AllReadyH.cons rfl (fun K hK=>?_) AllReadyH.nil
     go_simp
     refine hK.out _ _ (NS.out _ _ _ _ _ _ (NK.out _ hb4)) (fun hHeld=>?_)
     clear hK K
     try simp only[Act.put,sL]
     refine wpAnyH_done (by kernel_rfl) ?_ _
     clear hHeld y0 y1 y2 y3 y4 g0 g1 g2 g3 g4
     go_wp2
     go_roundg (zs.length-(k+m))
     case measure=>have:=HL.out;omega
     case rel =>
      refine⟨k+m,ao2,cp2,by have:=HL.out;omega,rfl,by rw[HL2.out,HL.out];congr 1;omega,?_,hid ?_,hid NF4.out.2⟩
      ·intro h;rw[HA2.out,if_neg (by have:=HL.out;omega),HC2.out];exact⟨by rw[Nat.add_assoc],by have:=HL.out;omega⟩
      ·rw[e1.out];exact NF4.out.1
    ·have htm:(p:Int).tmod 64 ≠ 0:=by rw[Int.tmod_eq_emod_of_nonneg (by omega)];have:=HR.out;have:=hmq.out;have:=HP.out;omega
     have htm2:((p:Int) % 64 == 0)=false:=by rw[Int.tmod_eq_emod_of_nonneg (by omega)] at htm;simpa using htm
     go_wp2
     go_roundg (zs.length-(k+m))
     case measure=>have:=HL.out;omega
     case rel =>
      have e1:l++zs.take (k+m)=(l++zs.take k)++ck:=by rw[HCK.out,List.append_assoc,List.take_add]
      refine⟨k+m,ao2,cp2,by have:=HL.out;omega,rfl,by rw[HL2.out,HL.out];congr 1;omega,?_,hid ?_,hid (by rw[HW2.out];exact part_grown HG.out)⟩
      ·intro h;rw[HA2.out,if_neg (by have:=HL.out;omega),HC2.out];exact⟨by rw[Nat.add_assoc],by have:=HL.out;omega⟩
      ·rw[e1]
       exact dig_part (part_cells HDw.out hrc.out (by rw[hckl.out];exact hmq.out) _ (by rw[HW2.out])) (by rw[hlen.out];exact HR.out) (by rw[hckl.out];have:=hmq.out;omega) (by rw[hlen.out,hckl.out];exact HP.out) hrb.out hckb.out (by rw[hlen.out];exact hre.out)
  ·have hkz:k=zs.length:=by omega
   have hL0:L=0:=by have:=HL.out;omega
   subst hL0
   subst hkz
   go_wp2
   go_end0
   exact⟨rfl,by have:=HDw.out;rwa [List.take_length] at this,HG.out⟩
structure Sl (w:World) (a:Option Addr) (cap:Nat) (l:List Int):Prop where
 capl:l.length<=cap
 at_:0<l.length->∃ b off,a=some ⟨b,off,none⟩/\b<w.heap.size/\At w b off l
 nil:a=none->cap=0
theorem Sl.below {w w':World} {a:Option Addr} {cap:Nat} {l:List Int} (h:Sl w a cap l) (hb:Below w.heap.size w w'):Sl w' a cap l :=
 ⟨h.capl,fun h0=>by
  obtain⟨b,off,e1,e2,e3⟩:=h.at_ h0
  exact⟨b,off,e1,Nat.lt_of_lt_of_le e2 hb.size,fun i hi=>(hb.cell (p:=⟨b,off+i,none⟩) e2).trans (e3 i hi)⟩,h.nil⟩
def two (n:Nat):List UInt8:=[UInt8.ofNat (48+n / 10),UInt8.ofNat (48+n % 10)]
theorem itoa_small (i:Nat) (hi:i<10) (w:World):Calls Tryz.prog 215 #[.int .i64 i] w fun e w'=>e=.returned (.string ⟨[UInt8.ofNat (48+i)].toArray⟩)/\w'=w:=by
 refine(Any.strconv_Itoa_small Tryz.lays171 i (by omega) w).mono ?_
 rintro e w' ⟨rfl,rfl⟩
 rw[Lib.decDigits_one hi]
 exact⟨rfl,rfl⟩
theorem two_any (n:Nat) (hn:n<100) (w:World):Calls Tryz.prog 191 #[.int .i64 n] w fun e w'=>e=.returned (.string ⟨(two n).toArray⟩)/\w'=w:=by
 obtain⟨a,HA⟩:=nm_ (n / 10)
 obtain⟨b,HB⟩:=nm_ (n % 10)
 have ha:((n:Int)).tdiv 10=(a:Int):=by rw[Int.tdiv_eq_ediv_of_nonneg (by omega),<-HA.out];omega
 have hb:((n:Int)).tmod 10=(b:Int):=by rw[Int.tmod_eq_emod_of_nonneg (by omega),<-HB.out];omega
 have ha2:(n:Int) / 10=(a:Int):=by rw[<-HA.out];omega
 have hb2:(n:Int) % 10=(b:Int):=by rw[<-HB.out];omega
 have ha9:a<10:=by rw[<-HA.out];omega
 have hb9:b<10:=by rw[<-HB.out];omega
 have HE:Hid ((⟨[UInt8.ofNat (48+a)].toArray⟩:ByteArray) ++ ⟨[UInt8.ofNat (48+b)].toArray⟩=⟨(two n).toArray⟩):=hid (by rw[yw];unfold two;rw[HA.out,HB.out];rfl)
 obtain⟨S,HS⟩:=nn_ (⟨[UInt8.ofNat (48+a)].toArray⟩:ByteArray)
 obtain⟨T,HT⟩:=nn_ (⟨[UInt8.ofNat (48+b)].toArray⟩:ByteArray)
 have hS:S.size=1:=by rw[HS.out];rfl
 have hT:T.size=1:=by rw[HT.out];rfl
 have HI:Hid (∀ w,Calls Tryz.prog 215 #[.int .i64 a] w fun e w'=>e=.returned (.string S)/\w'=w):=fun w=>by rw[HS.out];exact itoa_small a ha9 w
 have HJ:Hid (∀ w,Calls Tryz.prog 215 #[.int .i64 b] w fun e w'=>e=.returned (.string T)/\w'=w):=fun w=>by rw[HT.out];exact itoa_small b hb9 w
 rw[<-HS.out,<-HT.out] at HE
 go_enter Tryz.func191,Tryz.ntmps191
 go_wp2_with fail
 refine(HI.out _).mono ?_
 rintro ev w' ⟨rfl,rfl⟩
 go_wp2_with fail
 refine(HJ.out _).mono ?_
 rintro ev w' ⟨rfl,rfl⟩
 go_wp2
 go_ret
 exact⟨(show _=Ending.returned (.string (S++T)) from rfl).trans (by rw[HE.out]),rfl⟩
def xk (z:Int):List UInt8:=(if z<0 then 45 else 43) :: (two (z.natAbs / 60)++two (z.natAbs % 60))
theorem zoneText_any (z:Int) (h1 : -840<=z) (h2:z<=840) (w:World):Calls Tryz.prog 158 #[.int .i64 z] w fun e w'=>e=.returned (.string ⟨(xk z).toArray⟩)/\w'=w:=by
 obtain⟨n,HN⟩:=nm_ z.natAbs
 have hn:n<=840:=by rw[<-HN.out];omega
 obtain⟨a,HA⟩:=nm_ (n / 60)
 obtain⟨b,HB⟩:=nm_ (n % 60)
 have ha:((n:Int)).tdiv 60=(a:Int):=by rw[Int.tdiv_eq_ediv_of_nonneg (by omega),<-HA.out];omega
 have hb:((n:Int)).tmod 60=(b:Int):=by rw[Int.tmod_eq_emod_of_nonneg (by omega),<-HB.out];omega
 have ha2:(n:Int) / 60=(a:Int):=by rw[<-HA.out];omega
 have hb2:(n:Int) % 60=(b:Int):=by rw[<-HB.out];omega
 have ha9:a<100:=by rw[<-HA.out];omega
 have hb9:b<100:=by rw[<-HB.out];omega
 obtain⟨S,HS⟩:=nn_ (⟨(two a).toArray⟩:ByteArray)
 obtain⟨T,HT⟩:=nn_ (⟨(two b).toArray⟩:ByteArray)
 have hS:S.size=2:=by rw[HS.out];rfl
 have hT:T.size=2:=by rw[HT.out];rfl
 have HI:Hid (∀ w,Calls Tryz.prog 191 #[.int .i64 a] w fun e w'=>e=.returned (.string S)/\w'=w):=fun w=>by rw[HS.out];exact two_any a ha9 w
 have HJ:Hid (∀ w,Calls Tryz.prog 191 #[.int .i64 b] w fun e w'=>e=.returned (.string T)/\w'=w):=fun w=>by rw[HT.out];exact two_any b hb9 w
 by_cases hz:z<0
 ·obtain rfl:z = -(n:Int):=by rw[<-HN.out];omega
  have HE:Hid ((⟨#[45]⟩:ByteArray)++S++T=⟨(xk (-(n:Int))).toArray⟩):=hid (by
   rw[HS.out,HT.out,show (⟨#[45]⟩:ByteArray)=⟨[45].toArray⟩ from rfl,yw,yw]
   unfold xk
   rw[if_pos hz,HN.out,HA.out,HB.out]
   rfl)
  have hP:((⟨#[45]⟩:ByteArray)++S).size=3:=by rw[ByteArray.size_append,hS];rfl
  have h45:(⟨#[45]⟩:ByteArray).size=1:=rfl
  go_enter Tryz.func158,Tryz.ntmps158
  go_wp2_with fail
  refine(HI.out _).mono ?_
  rintro ev w' ⟨rfl,rfl⟩
  go_wp2_with fail
  refine(HJ.out _).mono ?_
  rintro ev w' ⟨rfl,rfl⟩
  go_wp2
  go_ret
  exact⟨(show _=Ending.returned (.string (⟨#[45]⟩ ++ S++T)) from rfl).trans (by rw[HE.out]),rfl⟩
 ·obtain rfl:z=(n:Int):=by rw[<-HN.out];omega
  have HE:Hid ((⟨#[43]⟩:ByteArray)++S++T=⟨(xk (n:Int)).toArray⟩):=hid (by
   rw[HS.out,HT.out,show (⟨#[43]⟩:ByteArray)=⟨[43].toArray⟩ from rfl,yw,yw]
   unfold xk
   rw[if_neg hz,HN.out,HA.out,HB.out]
   rfl)
  have hP:((⟨#[43]⟩:ByteArray)++S).size=3:=by rw[ByteArray.size_append,hS];rfl
  have h43:(⟨#[43]⟩:ByteArray).size=1:=rfl
  go_enter Tryz.func158,Tryz.ntmps158
  go_wp2_with fail
  refine(HI.out _).mono ?_
  rintro ev w' ⟨rfl,rfl⟩
  go_wp2_with fail
  refine(HJ.out _).mono ?_
  rintro ev w' ⟨rfl,rfl⟩
  go_wp2
  go_ret
  exact⟨(show _=Ending.returned (.string (⟨#[43]⟩ ++ S++T)) from rfl).trans (by rw[HE.out]),rfl⟩
theorem fmt_any (n:Nat) (hn:n<=1099511627776) (w:World) (ht:Tab w):Calls Tryz.prog 122 #[.int .i64 n,.int .i64 10] w fun e w'=>e=.returned (.string ⟨(Lib.decDigits n).toArray⟩)/\Below w.heap.size w w':=by
 refine(Any.strconv_FormatInt_10 Tryz.laysM173 n (by omega) (by omega) w ht).mono ?_
 rintro e w' ⟨rfl,k,os,rfl⟩
 refine⟨?_,rfl,rfl,rfl,by simp[Sort.grow],fun j hj=>?_⟩
 ·rw[Lib.itoa_nonneg]
 ·show (w.heap++os)[j]? = _
  rw[Array.getElem?_append_left hj]
end Go.Proofs.YtgliaiemkfopeaaGreatDoor
