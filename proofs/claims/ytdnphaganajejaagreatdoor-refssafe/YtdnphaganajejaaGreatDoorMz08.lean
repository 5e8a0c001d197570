import Derived.Test.YtdnphaganajejaaGreatDoorMz07
set_option linter.unusedSimpArgs false
set_option linter.unusedVariables false
set_option maxRecDepth 20000
set_option maxHeartbeats 4000000
open ByteArray renaming size_append->Wy5
open Int renaming tdiv_eq_ediv_of_nonneg->Wy6,tmod_eq_emod_of_nonneg->Wy7
open List renaming append_assoc->Wy8,ext_getElem->Wz2,length_append->Wzy,length_drop->Wy9,length_take->WzJ,mem_map->Wz6,range->Wyz,replicate->Wz7,take_add->Wyq
open Nat renaming add_assoc->Wyx,lt_of_lt_of_le->Wq2,lt_or_ge->Wy4,zero_add->Wzz
open UInt8 renaming ofNat->Wy1
namespace Go.Proofs.YtdnphaganajejaaGreatDoor
open Go.Proofs.Tryz
open Go.RowKit
def N5:S5:=⟨1732584193,4023233417,2562383102,271733878,3285377520⟩
theorem zkV:N5.ok:=by refine⟨⟨?_,?_⟩,⟨?_,?_⟩,⟨?_,?_⟩,⟨?_,?_⟩,?_,?_⟩ <;> decide
def ab (l:List Int):Nat->S5
 | 0=>N5
 | k+1=>comp (ab l k) ((l.drop (64*k)).take 64)
theorem qx5 (l:List Int):∀ k,(ab l k).ok
 | 0=>zkV
 | k+1=>zkk _ _
theorem Cj (l m:List Int):∀ k,64*k<=l.length->ab (l++m) k=ab l k
 | 0,_=>rfl
 | k+1,h=>by
  rw[ab,ab,Cj l m k (by omega),List.drop_append_of_le_length (by omega),List.take_append_of_le_length (by rw[Wy9];omega)]
def be8 (n:Nat) (j:Nat):Int:=((n / 2 ^ (8*(7-j)) % 256:Nat):Int)
def QX (n:Nat):Nat:=(64-(n+9) % 64) % 64
def kQ (n:Nat):List Int:=128 :: Wz7 (QX n) 0++(Wyz 8).map (be8 (8*n))
theorem N6 (n:Nat):(kQ n).length=9+QX n:=by simp[kQ];omega
theorem EW (n:Nat):QX n<=63:=by unfold QX;omega
theorem Ow (n:Nat):IsB (kQ n):=by
 intro x hx;simp only[kQ,List.cons_append,List.mem_cons,List.mem_append,List.mem_replicate,Wz6] at hx;rcases hx with rfl | ⟨-,rfl⟩ | ⟨j,-,rfl⟩
 ·omega
 ·omega
 unfold be8;have:8*n / 2 ^ (8*(7-j)) % 256<256:=Nat.mod_lt _ (by omega);omega
def jy (s:S5) (j:Nat):List Int:=(Wyz 20).map fun i=>if i<j then s.l.getD (i / 4) 0 / 2 ^ (24-8*(i % 4)) % 256 else 0
theorem VV (s:S5) (j:Nat):(jy s j).length=20:=by simp[jy]
theorem Qx (s:S5) (j:Nat) (h:j<20):jy s (j+1)=(jy s j).set j (s.l.getD (j / 4) 0 / 2 ^ (24-8*(j % 4)) % 256):=by
 apply Wz2 (by simp[jy]);intro i A D;rw[List.getElem_set];simp only[jy,List.getElem_map,List.getElem_range];by_cases e:j=i
 ·subst e;rw[if_pos (by omega),if_pos rfl]
 rw[if_neg e];by_cases h:i<j
 ·rw[if_pos (by omega),if_pos h]
 rw[if_neg (by omega),if_neg h]
def z20:List Int:=Wz7 20 0
theorem Ck (s:S5):jy s 0=z20:=rfl
def sha (l:List Int):List Int:=jy (ab (l++kQ l.length) ((l++kQ l.length).length / 64)) 20
theorem YJ (l:List Int):(sha l).length=20:=VV _ _
theorem IsB.take {l:List Int} (h:IsB l) (n:Nat):IsB (l.take n):=fun x hx=>h x (List.mem_of_mem_take hx)
theorem IsB.drop {l:List Int} (h:IsB l) (n:Nat):IsB (l.drop n):=fun x hx=>h x (List.mem_of_mem_drop hx)
structure Dig (w:World) (D:Nat) (l:List Int):Prop where
 lt:D<w.heap.size
 sum:∀ i,i<5->w.cell? ⟨D,i,none⟩=some (.int .u32 ((ab l (l.length / 64)).l.getD i 0))
 rest:∃ rs:List Int,rs.length=64/\IsB rs/\(∀ i,i<64->w.cell? ⟨D,5+i,none⟩=some (.int .u8 (rs.getD i 0)))/\∀ i,i<l.length % 64->rs.getD i 0=l.getD (64*(l.length / 64)+i) 0
 size:w.cell? ⟨D,69,none⟩=some (.int .u64 l.length)
 fz:∀ i,w.frozen? ⟨D,i,none⟩=false
theorem Dig.keep {w w':World} {D:Nat} {l:List Int} {row:Option Nat} (h:Dig w D l) (j:w.grownBy w' row) (hr:some D ≠ row):Dig w' D l:=by
 have c:∀ i,w'.cell? ⟨D,i,none⟩=w.cell? ⟨D,i,none⟩:=fun i=>j.cell_far ⟨D,i,none⟩ h.lt hr;have f:∀ i,w'.frozen? ⟨D,i,none⟩=w.frozen? ⟨D,i,none⟩:=fun i=>j.frozen_far ⟨D,i,none⟩ h.lt hr;obtain⟨rs,A,G,I,J⟩:=h.rest
 exact⟨Wq2 h.lt j.size,fun i hi=>(c i).trans (h.sum i hi),⟨rs,A,G,fun i hi=>(c _).trans (I i hi),J⟩,(c _).trans h.size,fun i=>(f i).trans (h.fz i)⟩
theorem QW {w w':World} (h:Below w.heap.size w w') (row:Option Nat):w.grownBy w' row:=⟨h.os,h.tape,h.output,h.size,fun k j _=>h.block k j⟩
theorem vy (g:Nat):∀ (vs:List Value) (o:Nat) (w0 w:World),w0.grownBy w (some g)->w0.grownBy (w.setCells g o vs) (some g)
 | [],_,_,_,h=>h
 | v :: r,o,w0,w,h=>vy g r (o+1) w0 _ ⟨h.os,h.tape,h.output,by simpa [World.setCell] using h.size,fun k A j=>(Below.heap_setCell w ⟨g,o,none⟩ v k (fun e=>j (by rw[e]))).trans (h.block k A j)⟩
theorem Gq {w0 w:World} {g i:Nat} (v:Value) (h:w0.grownBy w (some g)):w0.grownBy (w.setCell ⟨g,i,none⟩ v) (some g):=vy g [v] i w0 w h
theorem Cv {w0 w:World} {r:Option Nat} (h:w0.grownBy w r):w0.grownBy w.drew r:=⟨h.os,h.tape,h.output,h.size,h.block⟩
theorem LV (l m:List Int) (i:Nat):(l++m).getD i 0=if i<l.length then l.getD i 0 else m.getD (i-l.length) 0:=by
 rw[List.getD_eq_getElem?_getD,List.getElem?_append];split <;> simp
theorem wrap_u64 (n:Nat) (h:n<18446744073709551616):IntKind.u64.wrap (n:Int)=n:=by
 rw[IntKind.wrap_u64];omega
theorem und22:prog.underlying 82=some (.slice (prog.elem 82)):=by kernel_rfl
theorem zkW (w:World):(sizeOf (prog.elem 82)).run prog w=.ok 1 w:=by kernel_rfl
theorem zkY (b o L j m:Nat) (w:World) (A:m<=L) (D:L<=j):(Instr.slice 82 (.slice (some ⟨b,o,none⟩) L j) (some (.int .i64 m)) none none).run prog w=.ok (.slice (if j=m then some ⟨b,o,none⟩ else some ⟨b,o+m,none⟩) (L-m:Nat) (j-m:Nat)) w:=by
 rw[run_slice_l w 82 _ L j und22 .i64 m (by omega) (by omega),zkW];simp only[Result.andThen_ok,sliced];by_cases h:j=m
 ·simp[h]
 simp[h,x7]
def upd (rs:List Int) (r:Nat) (ck:List Int):List Int:=(Wyz 64).map fun i=>if i<r then rs.getD i 0 else if i<r+ck.length then ck.getD (i-r) 0 else rs.getD i 0
theorem V6 (rs:List Int) (r:Nat) (ck:List Int):(upd rs r ck).length=64:=by simp[upd]
theorem TZ (rs:List Int) (r:Nat) (ck:List Int) (i:Nat) (h:i<64):(upd rs r ck).getD i 0=if i<r then rs.getD i 0 else if i<r+ck.length then ck.getD (i-r) 0 else rs.getD i 0:=by simp[upd,h]
theorem TQ (rs:List Int) (r:Nat) (ck:List Int) (h:IsB rs) (j:IsB ck):IsB (upd rs r ck):=by
 intro x hx;simp only[upd,Wz6,List.mem_range] at hx;obtain⟨i,-,rfl⟩:=hx;split
 ·exact h.at _
 split
 ·exact j.at _
 exact h.at _
theorem Oy {w:World} {D r:Nat} {rs ck:List Int} (hc:∀ i,i<64->w.cell? ⟨D,5+i,none⟩=some (.int .u8 (rs.getD i 0))) (J:r+ck.length<=64) :
  ∀ i,i<64->(w.setCells D (5+r) (row .u8 ck)).cell? ⟨D,5+i,none⟩=some (.int .u8 ((upd rs r ck).getD i 0)):=by
 intro i hi;rw[TZ rs r ck i hi];by_cases h:i<r
 ·rw[if_pos h,World.cell?_setCells_out D _ _ w _ (fun _ _=>Or.inl (by simp;omega))];exact hc i hi
 rw[if_neg h];by_cases A:i<r+ck.length
 ·rw[if_pos A];have:=World.cell?_setCells_in D (row .u8 ck) (5+r) w (fun j I=>by rw[zv] at I;rw[Wyx,hc (r+j) (by omega)];rfl) (i-r) (by rw[zv];omega);rw[show 5+r+(i-r)=5+i from by omega] at this;rw[this];have G:i-r<ck.length:=by omega
  simp[row,G]
 rw[if_neg A,World.cell?_setCells_out D _ _ w _ (fun _ _=>Or.inr (by rw[zv];simp;omega))];exact hc i hi
theorem zyq {l m:List Int} (h:l.length=m.length) (D:∀ i,i<l.length->l.getD i 0=m.getD i 0):l=m:=by
 apply Wz2 h;intro i j A;have:=D i j;rw[List.getD_eq_getElem?_getD,List.getD_eq_getElem?_getD,List.getElem?_eq_getElem j,List.getElem?_eq_getElem A] at this;exact this
theorem zyx (l0 rs ck:List Int) (r:Nat) (hr:r=l0.length % 64) (G:r+ck.length=64) (j:∀ i,i<r->rs.getD i 0=l0.getD (64*(l0.length / 64)+i) 0) :
  upd rs r ck=((l0++ck).drop (64*(l0.length / 64))).take 64:=by
 apply zyq
 ·rw[V6,WzJ,Wy9,Wzy];omega
 intro i A;have hi:i<64:=by rw[V6] at A;exact A
 have D:(((l0++ck).drop (64*(l0.length / 64))).take 64).getD i 0=(l0++ck).getD (64*(l0.length / 64)+i) 0:=by
  rw[List.getD_eq_getElem?_getD,List.getElem?_take,if_pos hi,List.getElem?_drop,<-List.getD_eq_getElem?_getD]
 rw[D,TZ rs r ck i hi,LV];by_cases h:i<r
 ·rw[if_pos h,if_pos (by omega)];exact j i h
 rw[if_neg h,if_pos (by omega),if_neg (by omega)];congr 1;omega
theorem LW {w:World} {D:Nat} {k:IntKind} {l:List Int} (o:Nat) (h:∀ i,i<l.length->w.cell? ⟨D,o+i,none⟩=some (.int k (l.getD i 0))):w.rangeAt D o (row k l):=fun j v hv=>by
 have A:j<l.length:=by rcases Wy4 j l.length with h | h;exact h;rw[List.getElem?_eq_none (by rw[zv];exact h)] at hv;cases hv
 rw[uW k l j A] at hv;cases hv
 exact h j A
theorem JX {wr:World} {D r p:Nat} {l0 rs ck:List Int} (j:Dig wr D l0) (G:∀ i,i<64->wr.cell? ⟨D,5+i,none⟩=some (.int .u8 (rs.getD i 0))) (J:r+ck.length<=64) (W:World) (I:W=(wr.drew.setCells D (5+r) (row .u8 ck)).setCell ⟨D,69,none⟩ (.int .u64 p)) :
  D<W.heap.size/\(∀ i,i<5->W.cell? ⟨D,i,none⟩=some (.int .u32 ((ab l0 (l0.length / 64)).l.getD i 0)))/\(∀ i,i<64->W.cell? ⟨D,5+i,none⟩=some (.int .u8 ((upd rs r ck).getD i 0)))/\W.cell? ⟨D,69,none⟩=some (.int .u64 p)/\∀ i,W.frozen? ⟨D,i,none⟩=false:=by
 have A:(wr.drew.setCells D (5+r) (row .u8 ck)).cell? ⟨D,69,none⟩=some (.int .u64 l0.length):=by rw[World.cell?_setCells_out D _ _ _ _ (fun _ _=>Or.inr (by rw[zv];simp;omega))];exact j.size
 subst I;refine⟨?_,fun i hi=>?_,fun i hi=>?_,World.cell?_setCell_same _ _ _ A,fun i=>?_⟩
 ·have:=j.lt;simp only[World.setCell];simp[vK];exact this
 ·rw[World.cell?_setCell_other _ _ _ _ (by intro h;simp only[Addr.mk.injEq] at h;omega),World.cell?_setCells_out D _ _ _ _ (fun _ _=>Or.inl (by simp;omega))];exact j.sum i hi
 ·rw[World.cell?_setCell_other _ _ _ _ (by intro h;simp only[Addr.mk.injEq] at h;omega)];exact Oy (w:=wr.drew) G J i hi
 rw[World.frozen?_setCell,World.frozen?_setCells];exact j.fz i
theorem JJ {w wr:World} {D r p:Nat} {ck:List Int} (h:w.grownBy wr (some D)):w.grownBy ((wr.drew.setCells D (5+r) (row .u8 ck)).setCell ⟨D,69,none⟩ (.int .u64 p)) (some D):=Gq _ (vy D _ _ _ _ (Cv h))
theorem zyj {W:World} {D r p:Nat} {l0 rs ck:List Int} (h:D<W.heap.size/\(∀ i,i<5->W.cell? ⟨D,i,none⟩=some (.int .u32 ((ab l0 (l0.length / 64)).l.getD i 0)))/\(∀ i,i<64->W.cell? ⟨D,5+i,none⟩=some (.int .u8 ((upd rs r ck).getD i 0)))/\W.cell? ⟨D,69,none⟩=some (.int .u64 p)/\∀ i,W.frozen? ⟨D,i,none⟩=false)
  (hr:r=l0.length % 64) (Y:r+ck.length<64) (V:p=l0.length+ck.length) (I:IsB rs) (A:IsB ck) (J:∀ i,i<l0.length % 64->rs.getD i 0=l0.getD (64*(l0.length / 64)+i) 0):Dig W D (l0++ck):=by
 obtain⟨K,L,M,O,Q⟩:=h;have G:(l0++ck).length=l0.length+ck.length:=Wzy;have j:(l0++ck).length / 64=l0.length / 64:=by rw[G];omega
 refine⟨K,fun i hi=>?_,⟨upd rs r ck,V6 _ _ _,TQ _ _ _ I A,M,fun i hi=>?_⟩,by rw[O,V,G],Q⟩
 ·rw[j,Cj _ _ _ (by omega)];exact L i hi
 rw[j,TZ _ _ _ _ (by omega),LV];rw[G] at hi;by_cases h:i<r
 ·rw[if_pos h,if_pos (by omega)];exact J i (by omega)
 rw[if_neg h,if_pos (by omega),if_neg (by omega)];congr 1;omega
theorem zyk {W:World} {D r p:Nat} {l0 rs ck:List Int} {z:List Int} (Y:D<W.heap.size) (Z:∀ i,i<5->(W.cell? ⟨D,i,none⟩).isSome=true) (I:∀ i,i<64->W.cell? ⟨D,5+i,none⟩=some (.int .u8 ((upd rs r ck).getD i 0))) (h4:W.cell? ⟨D,69,none⟩=some (.int .u64 p)) (h5:∀ i,W.frozen? ⟨D,i,none⟩=false)
  (hr:r=l0.length % 64) (hm:r+ck.length=64) (hp:p=l0.length+ck.length) (M:IsB rs) (A:IsB ck) (O:∀ i,i<l0.length % 64->rs.getD i 0=l0.getD (64*(l0.length / 64)+i) 0) (V:z=(comp (ab l0 (l0.length / 64)) (upd rs r ck)).l):Dig (W.setCells D 0 (row .u32 z)) D (l0++ck):=by
 have L:(l0++ck).length=l0.length+ck.length:=Wzy;have G:(l0++ck).length / 64=l0.length / 64+1:=by rw[L];omega
 have h:z.length=5:=by rw[V];rfl
 have J:ab (l0++ck) ((l0++ck).length / 64)=comp (ab l0 (l0.length / 64)) (upd rs r ck):=by
  rw[G,ab,Cj _ _ _ (by omega),zyx l0 rs ck r hr hm (fun i hi=>O i (by omega))]
 have K:=World.cell?_setCells_in D (row .u32 z) 0 W (fun j Q=>by rw[zv,h] at Q;rw[Wzz];exact Z j Q);refine⟨by rw[vK];exact Y,fun i hi=>?_,⟨upd rs r ck,V6 _ _ _,TQ _ _ _ M A,fun i hi=>?_,fun i hi=>?_⟩,?_,fun i=>by rw[World.frozen?_setCells];exact h5 i⟩
 ·have:=K i (by rw[zv,h];exact hi);rw[Wzz] at this;rw[this,J,<-V];have I:i<z.length:=by omega
  simp[row,I]
 ·rw[World.cell?_setCells_out D _ _ _ _ (fun _ _=>Or.inr (by rw[zv,h];simp))];exact I i hi
 ·rw[L] at hi;omega
 rw[World.cell?_setCells_out D _ _ _ _ (fun _ _=>Or.inr (by rw[zv,h];simp)),h4,hp,L]
set_option maxHeartbeats 8000000 in
theorem V7 (D:Nat) (l:List Int) (a:Option Addr) (cap:Nat) (zs:List Int) (w:World) (hD:Dig w D l) (hl:l.length+zs.length<=700000000) (b7:IsB l) (hz:IsB zs) (hc:0<zs.length->∃ b off,a=some ⟨b,off,none⟩/\b<w.heap.size/\b ≠ D/\At w b off zs/\zs.length<=cap) :
  Calls prog 156 #[.pointer (some ⟨D,0,none⟩),.slice a zs.length cap] w fun e w'=>e=.returned (.tuple #[])/\Dig w' D (l++zs)/\w.grownBy w' (some D):=by
 obtain⟨b,off,HC⟩:∃ b off,Hid (0<zs.length->a=some ⟨b,off,none⟩/\b<w.heap.size/\b ≠ D/\At w b off zs/\zs.length<=cap):=by
  by_cases h:0<zs.length
  ·obtain⟨b,off,h1,h2⟩:=hc h;exact⟨b,off,fun _=>⟨h1,h2⟩⟩
  exact⟨0,0,fun h'=>absurd h' h⟩
 clear hc;have HD:Hid (Dig w D l):=hD;clear hD;go_enter func156,ntmps156;go_wp2;go_loopg [1] zs.length (fun g s wr=>∃ (k:Nat) (ao:Option Addr) (cp:Nat),k<=zs.length/\g=zs.length-k/\s=.slice ao (zs.length-k:Nat) cp/\Hid (k<zs.length->ao=some ⟨b,off+k,none⟩/\zs.length-k<=cp)/\Hid (Dig wr D (l++zs.take k))/\Hid (w.grownBy wr (some D)))
 case atStart=>exact⟨0,a,cap,by omega,rfl,rfl,fun h=>⟨(HC.out h).1,(HC.out h).2.2.2.2⟩,hid (by simpa using HD.out),World.grownBy.refl _ _⟩
 obtain⟨k,ao,cp,hk,hg,rfl,HA,a7,HG⟩:=hrel;obtain⟨L,M⟩:=nn_ (zs.length-k);rw[<-M.out];by_cases aV:k<zs.length;rotate_left
 ·have aU:k=zs.length:=by omega
  have aF:L=0:=by have:=M.out;omega
  subst aF;subst aU;go_wp2;go_end0;exact⟨rfl,by have:=a7.out;rwa [List.take_length] at this,HG.out⟩
 obtain⟨rfl,aG⟩:=HA.out aV;rw[<-M.out] at aG;obtain⟨n,HN⟩:=nn_ (l.length+k);have hlen:(l++zs.take k).length=n:=by rw[HN.out,Wzy,WzJ];omega
 have b9:n<700000000:=by have:=HN.out;omega
 obtain⟨r,HR⟩:=nn_ (n % 64);have aI:r<64:=by have:=HR.out;omega
 have aF:0<L:=by have:=M.out;omega
 have aX:(n:Int).tmod 64=(r:Int):=by rw[Wy7 (by omega)];have:=HR.out;omega
 obtain⟨rs,aJ,ah,ai,aj⟩:=a7.out.rest;rw[hlen] at aj;have hsz:=a7.out.size;rw[hlen] at hsz;have ar:=a7.out.fz;obtain⟨q,HQ⟩:=nn_ (64-r:Nat);obtain⟨m,HM⟩:=nn_ (min L q);have b8:0<m:=by have:=HM.out;have:=HQ.out;omega
 have aW:m<=L:=by have:=HM.out;omega
 have a8:r+m<=64:=by have:=HM.out;have:=HQ.out;omega
 obtain⟨ck,ad⟩:=nn_ ((zs.drop k).take m);have G:ck.length=m:=by rw[ad.out,WzJ,Wy9];have:=M.out;omega
 have Q:IsB ck:=by rw[ad.out];exact(hz.drop k).take m
 obtain⟨-,aQ,aP,aA,-⟩:=HC.out (by omega);have aK:=fun w=>zky D 5 r w aI;rw[<-HQ.out] at aK;have ag:(Builtin.copy_ #[82,82] 3 #[.slice (some ⟨D,5+r,none⟩) q q,.slice (some ⟨b,off+k,none⟩) L cp]).run prog wr.drew=.ok (.int .i64 m) (wr.drew.setCells D (5+r) (row .u8 ck)):=by
  have:=run_copy_cells (P:=prog) wr.drew 82 82 3 5 D (5+r) q q ⟨b,off+k,none⟩ L cp (row .u8 ck) underlying82 size5 (by rw[zv,G];exact HM.out)
   (fun j v hj=>by
    have aR:j<ck.length:=by rcases Wy4 j ck.length with h | h;exact h;rw[List.getElem?_eq_none (by rw[zv];exact h)] at hj;cases hj
    rw[uW .u8 ck j aR] at hj
    cases hj
    rw[x7]
    have aS:k+j<zs.length:=by have:=M.out;omega
    have h1:wr.cell? ⟨b,off+k+j,none⟩=some (.int .u8 (zs.getD (k+j) 0)):=by
     rw[Wyx]
     exact(HG.out.cell_far ⟨b,off+(k+j),none⟩ aQ (by simpa using aP)).trans (aA _ aS)
    have h2:ck.getD j 0=zs.getD (k+j) 0:=by
     rw[ad.out,List.getD_eq_getElem?_getD,List.getElem?_take,if_pos (by omega),List.getElem?_drop,List.getD_eq_getElem?_getD]
    rw[h2];exact h1)
   (fun j hj=>by rw[zv,G] at hj;rw[Wyx];show (wr.cell? ⟨D,5+(r+j),none⟩).isSome=true;rw[ai (r+j) (by omega)];rfl)
   (fun j _=>ar _) (yK _ _)
  rw[this,zv,G];rfl
 obtain⟨w2,V⟩:=nn_ (wr.drew.setCells D (5+r) (row .u8 ck));rw[<-V.out] at ag;replace ai:=hid ai;go_wp2;go_region_law (refine Ov (by rfl) _ _ 82 _ _ _ _ (by rfl) (by rfl) (by rfl) ag ?_);all_goals
  have aN:w2.cell? ⟨D,69,none⟩=some (.int .u64 n):=by rw[V.out,World.cell?_setCells_out D _ _ _ _ (fun _ _=>Or.inr (by rw[zv,G];simp;omega))];exact hsz
  have f69:w2.frozen? ⟨D,69,none⟩=false:=by rw[V.out,World.frozen?_setCells];exact ar 69
  obtain⟨p,HP⟩:=nn_ (n+m);have b2:IntKind.u64.wrap (m:Int)=m:=wrap_u64 m (by have:=M.out;have:=HN.out;omega);have b6:IntKind.u64.wrap ((n:Int)+m)=(p:Int):=by rw[show (n:Int)+m=(p:Int) from by have:=HP.out;omega];exact wrap_u64 p (by have:=HP.out;have:=M.out;have:=HN.out;omega)
  obtain⟨ap,av⟩:∃ ap:Option Addr,Hid (ap=if cp=m then some ⟨b,off+k,none⟩ else some ⟨b,off+k+m,none⟩):=⟨_,rfl⟩;have ak:=fun w=>zkY b (off+k) L cp m w aW aG;rw[<-av.out] at ak;obtain⟨L2,ax⟩:=nn_ (L-m);obtain⟨aE,aw⟩:=nn_ (cp-m);rw[<-ax.out,<-aw.out] at ak;clear ag aK aX;replace hlen:=hid hlen;replace G:=hid G;replace aj:=hid aj;replace aJ:=hid aJ
  replace ah:=hid ah;replace aA:=hid aA
  replace ar:=hid ar;replace hsz:=hid hsz;replace a8:=hid a8;replace Q:=hid Q;by_cases J:r+m=64
  ·replace J:=hid J;have ac:(p:Int).tmod 64=0:=(by rw[Wy7 (by omega)];have:=HR.out;have:=J.out;have:=HP.out;omega);have au:((p:Int) % 64 == 0)=true:=(by rw[Wy7 (by omega)] at ac;simpa using ac);go_wp2;obtain⟨w3,az⟩:=nn_ (w2.setCell ⟨D,69,none⟩ (.int .u64 p));rw[<-az.out]
   have e1:Hid (l++zs.take (k+m)=(l++zs.take k)++ck):=hid (by rw[ad.out,Wy8,Wyq]);have N:=JX a7.out ai.out (by rw[G.out];exact a8.out) w3 (by rw[az.out,V.out]);have NG:Hid (w.grownBy w3 (some D)):=hid (by rw[az.out,V.out];exact JJ HG.out);rw[hlen.out] at N;obtain⟨Z,ae⟩:=nn_ (upd rs r ck)
   obtain⟨s0,ay⟩:=nn_ (ab (l++zs.take k) (n / 64));rw[<-ae.out,<-ay.out] at N;have aY:s0.ok:=(by rw[ay.out];exact qx5 _ _);have am:Z.length=64:=(by rw[ae.out];exact V6 _ _ _);have aM:IsB Z:=(by rw[ae.out];exact TQ _ _ _ ah.out Q.out);obtain⟨s1,aB⟩:=nn_ (comp s0 Z);have Y:=fun w=>zyz s0 Z w aY am aM;rw[<-aB.out] at Y
   obtain⟨a0,b0,c0,d0,e0⟩:=s0;obtain⟨x0,x1,x2,x3,x4⟩:=s1;have a6:∀ w1:World,Calls prog 196 #[.agg #[.int .u32 a0,.int .u32 b0,.int .u32 c0,.int .u32 d0,.int .u32 e0],.agg (row .u8 Z).toArray] w1 fun e w'=>e=.returned (.agg #[.int .u32 x0,.int .u32 x1,.int .u32 x2,.int .u32 x3,.int .u32 x4])/\Below w1.heap.size w1 w':=Y
   clear Y
   have q0:w3.cell? ⟨D,0,none⟩=some (.int .u32 a0):=N.2.1 0 (by omega);have q1:w3.cell? ⟨D,1,none⟩=some (.int .u32 b0):=N.2.1 1 (by omega);have q2:w3.cell? ⟨D,2,none⟩=some (.int .u32 c0):=N.2.1 2 (by omega);have q3:w3.cell? ⟨D,3,none⟩=some (.int .u32 d0):=N.2.1 3 (by omega);have q4:w3.cell? ⟨D,4,none⟩=some (.int .u32 e0):=N.2.1 4 (by omega)
   have aH:(prog.info? 299).map (·.size)=some (row .u8 Z).length:=(by rw[zv,am];exact size299);have aL:=underlying299;have aZ:(row .u8 Z).length=64:=(by rw[zv,am]);have aO:=yK .u8 Z;have N1:w3.rangeAt D 5 (row .u8 Z):=LW 5 (fun i hi=>N.2.2.1 i (by omega))
   have NC:∀ w4,Below w3.drew.heap.size w3.drew w4->(∀ i,w4.cell? ⟨D,i,none⟩=w3.cell? ⟨D,i,none⟩)/\(∀ i,w4.frozen? ⟨D,i,none⟩=false):=fun w4 I=>⟨fun i=>I.cell (p:=⟨D,i,none⟩) N.1,fun i=>(I.frozen (p:=⟨D,i,none⟩) N.1).trans (N.2.2.2.2 i)⟩;have NK:Hid (∀ w4,Below w3.drew.heap.size w3.drew w4->w4.rangeAt D 5 (row .u8 Z)):=fun w4 I j v hv=>((NC w4 I).1 _).trans (N1 j v hv)
   have NS:Hid (∀ (W:World) (v0 v1 v2 v3 v4:Value),W.rangeAt D 5 (row .u8 Z)->(((((W.setCell ⟨D,0,none⟩ v0).setCell ⟨D,1,none⟩ v1).setCell ⟨D,2,none⟩ v2).setCell ⟨D,3,none⟩ v3).setCell ⟨D,4,none⟩ v4).rangeAt D 5 (row .u8 Z)):=fun W v0 v1 v2 v3 v4 h j v hv=>by
    rw[World.cell?_setCell_other _ _ _ _ (by intro h;simp only[Addr.mk.injEq] at h;omega),World.cell?_setCell_other _ _ _ _ (by intro h;simp only[Addr.mk.injEq] at h;omega),World.cell?_setCell_other _ _ _ _ (by intro h;simp only[Addr.mk.injEq] at h;omega),World.cell?_setCell_other _ _ _ _ (by intro h;simp only[Addr.mk.injEq] at h;omega),World.cell?_setCell_other _ _ _ _ (by intro h;simp only[Addr.mk.injEq] at h;omega)]
    exact h j v hv
   have NF:Hid (∀ w4,Below w3.drew.heap.size w3.drew w4->Dig (((((w4.setCell ⟨D,0,none⟩ (.int .u32 x0)).setCell ⟨D,1,none⟩ (.int .u32 x1)).setCell ⟨D,2,none⟩ (.int .u32 x2)).setCell ⟨D,3,none⟩ (.int .u32 x3)).setCell ⟨D,4,none⟩ (.int .u32 x4)) D ((l++zs.take k)++ck)/\w.grownBy (((((w4.setCell ⟨D,0,none⟩ (.int .u32 x0)).setCell ⟨D,1,none⟩ (.int .u32 x1)).setCell ⟨D,2,none⟩ (.int .u32 x2)).setCell ⟨D,3,none⟩ (.int .u32 x3)).setCell ⟨D,4,none⟩ (.int .u32 x4)) (some D)):=hid (by
    intro w4 I;obtain⟨c4,f4⟩:=NC w4 I;refine⟨?_,?_⟩
    ·have:=zyk (W:=w4) (z:=[x0,x1,x2,x3,x4]) (r:=r) (p:=p) (rs:=rs) (l0:=l++zs.take k) (ck:=ck) (Wq2 N.1 I.size) (fun i hi=>by rw[c4,N.2.1 i hi];rfl) (fun i hi=>by rw[c4,<-ae.out];exact N.2.2.1 i hi) ((c4 _).trans N.2.2.2.1) f4 (by rw[hlen.out];exact HR.out) (by rw[G.out];exact J.out) (by rw[hlen.out,G.out];exact HP.out) ah.out Q.out (by rw[hlen.out];exact aj.out) (by rw[hlen.out,<-ae.out,<-ay.out,<-aB.out];rfl)
     exact this
    exact vy D [.int .u32 x0,.int .u32 x1,.int .u32 x2,.int .u32 x3,.int .u32 x4] 0 _ _ (NG.out.trans (QW (w:=w3) ⟨I.os,I.tape,I.output,I.size,I.block⟩ _)))
   replace N:=hid N;replace NC:=hid NC;clear aN f69;have aC:w3.drew.rangeAt D 5 (row .u8 Z):=N1;clear N1 aO aZ aL b2 b6 ak ac au;refine wp_region_held_drew (S:=fun w'=>w'.rangeAt D 5 (row .u8 Z)) (by kernel_rfl) aC (fun A=>?_);refine wpAnyH_take (i:=0) (v:=?_) rfl (by kernel_rfl) (by kernel_rfl) (by kernel_rfl) (fun _ _ _ h=>h) (Or.inl ⟨by rfl,?_⟩) A ?_
   rotate_left
   ·intro w O;go_simp;rfl
   (try simp only[Act.put,sL]);refine wpAnyH_take (i:=1) (v:=?_) rfl (by kernel_rfl) (by kernel_rfl) (by kernel_rfl) (fun _ _ _ h=>h) (Or.inl ⟨by rfl,?_⟩) A ?_;rotate_left
   ·intro w O;go_simp;rfl
   (try simp only[Act.put,sL]);refine wpAnyH_take (i:=2) (v:=?_) rfl (by kernel_rfl) (by kernel_rfl) (by kernel_rfl) (fun _ _ _ h=>h) (Or.inl ⟨by rfl,?_⟩) A ?_;rotate_left
   ·intro w O;go_simp;rfl
   (try simp only[Act.put,sL]);refine wpAnyH_take (i:=3) (v:=?_) rfl (by kernel_rfl) (by kernel_rfl) (by kernel_rfl) (fun _ _ _ h=>h) (Or.inl ⟨by rfl,?_⟩) A ?_;rotate_left
   ·intro w O;go_simp;rfl
   (try simp only[Act.put,sL]);refine wpAnyH_take (i:=5) (v:=?_) rfl (by kernel_rfl) (by kernel_rfl) (by kernel_rfl) (fun _ _ _ h=>h) (Or.inl ⟨by rfl,?_⟩) A ?_;rotate_left
   ·intro w O;go_simp;rfl
   (try simp only[Act.put,sL]);refine wpAnyH_take (i:=6) (v:=?_) rfl (by kernel_rfl) (by kernel_rfl) (by kernel_rfl) (fun _ _ _ h=>h) (Or.inl ⟨by rfl,?_⟩) A ?_;rotate_left
   ·intro w O;go_simp;rfl
   (try simp only[Act.put,sL]);refine wpAnyH_take (i:=7) (v:=?_) rfl (by kernel_rfl) (by kernel_rfl) (by kernel_rfl) (fun _ _ _ h=>h) (Or.inl ⟨by rfl,?_⟩) A ?_;rotate_left
   ·intro w O;go_simp;rfl
   (try simp only[Act.put,sL]);refine wpAnyH_take (i:=8) rfl (by kernel_rfl) (by kernel_rfl) (by kernel_rfl) (fun _ _ _ h=>h) (yieldsIf_load_mid (by rfl) _ _ rfl D 5 rfl (row .u8 Z) _ (fun w h=>h) underlying299 rfl aH) A ?_;(try simp only[Act.put,sL]);refine wpAnyH_ready (rs:=[4]) (by kernel_rfl) (by simp) ?_;refine AllReadyH.cons rfl (fun K hK=>?_) AllReadyH.nil
   go_simp;refine hK.out _ _ aC (fun A=>?_);clear hK K;(try simp only[Act.put,sL]);refine wpAnyH_ready (rs:=[9]) (by kernel_rfl) (by simp) ?_;refine AllReadyH.cons rfl (fun K hK=>?_) AllReadyH.nil;go_simp;refine(a6 _).mono ?_;rintro e w4 ⟨rfl,I⟩;refine hK.out _ _ (NK.out _ I) (fun A=>?_);clear hK K;obtain⟨c4,f4⟩:=NC.out w4 I;have y0:=(c4 0).trans q0
   have y1:=(c4 1).trans q1;have y2:=(c4 2).trans q2;have y3:=(c4 3).trans q3;have y4:=(c4 4).trans q4;have g0:=f4 0;have g1:=f4 1;have g2:=f4 2;have g3:=f4 3;have g4:=f4 4;clear c4 f4 q0 q1 q2 q3 q4 a6;have aD:=hid (NF.out w4 I);(try simp only[Act.put,sL])
   refine wpAnyH_take (i:=10) (v:=?_) rfl (by kernel_rfl) (by kernel_rfl) (by kernel_rfl) (fun _ _ _ h=>h) (Or.inl ⟨by rfl,?_⟩) A ?_;rotate_left
   ·intro w O;go_simp;rfl
   (try simp only[Act.put,sL]);refine wpAnyH_take (i:=11) (v:=?_) rfl (by kernel_rfl) (by kernel_rfl) (by kernel_rfl) (fun _ _ _ h=>h) (Or.inl ⟨by rfl,?_⟩) A ?_;rotate_left
   ·intro w O;go_simp;rfl
   (try simp only[Act.put,sL]);refine wpAnyH_ready (rs:=[12]) (by kernel_rfl) (by simp) ?_;refine AllReadyH.cons rfl (fun K hK=>?_) AllReadyH.nil;go_simp;refine hK.out _ _ (NS.out _ _ _ _ _ _ (NK.out _ I)) (fun A=>?_);clear hK K;(try simp only[Act.put,sL]);refine wpAnyH_done (by kernel_rfl) ?_ _;clear A y0 y1 y2 y3 y4 g0 g1 g2 g3 g4;go_wp2;go_roundg (zs.length-(k+m))
   case measure=>have:=M.out;omega
   refine⟨k+m,ap,aE,by have:=M.out;omega,rfl,by rw[ax.out,M.out];congr 1;omega,?_,hid ?_,hid aD.out.2⟩
   ·intro h;rw[av.out,if_neg (by have:=M.out;omega),aw.out];exact⟨by rw[Wyx],by have:=M.out;omega⟩
   rw[e1.out];exact aD.out.1
  ·have ac:(p:Int).tmod 64 ≠ 0:=(by rw[Wy7 (by omega)];have:=HR.out;have:=a8.out;have:=HP.out;omega);have au:((p:Int) % 64 == 0)=false:=(by rw[Wy7 (by omega)] at ac;simpa using ac);go_wp2;go_roundg (zs.length-(k+m));case measure=>have:=M.out;omega
   have e1:l++zs.take (k+m)=(l++zs.take k)++ck:=(by rw[ad.out,Wy8,Wyq]);refine⟨k+m,ap,aE,by have:=M.out;omega,rfl,by rw[ax.out,M.out];congr 1;omega,?_,hid ?_,hid (by rw[V.out];exact JJ HG.out)⟩
   ·intro h;rw[av.out,if_neg (by have:=M.out;omega),aw.out];exact⟨by rw[Wyx],by have:=M.out;omega⟩
   rw[e1];exact zyj (JX a7.out ai.out (by rw[G.out];exact a8.out) _ (by rw[V.out])) (by rw[hlen.out];exact HR.out) (by rw[G.out];have:=a8.out;omega) (by rw[hlen.out,G.out];exact HP.out) ah.out Q.out (by rw[hlen.out];exact aj.out)
structure Sl (w:World) (a:Option Addr) (cap:Nat) (l:List Int):Prop where
 capl:l.length<=cap
 at_:0<l.length->∃ b off,a=some ⟨b,off,none⟩/\b<w.heap.size/\At w b off l
 nil:a=none->cap=0
theorem Sl.below {w w':World} {a:Option Addr} {cap:Nat} {l:List Int} (h:Sl w a cap l) (hb:Below w.heap.size w w'):Sl w' a cap l :=
 ⟨h.capl,fun h0=>by
  obtain⟨b,off,e1,j,A⟩:=h.at_ h0
  exact⟨b,off,e1,Wq2 j hb.size,fun i hi=>(hb.cell (p:=⟨b,off+i,none⟩) j).trans (A i hi)⟩,h.nil⟩
def two (n:Nat):List UInt8:=[Wy1 (48+n / 10),Wy1 (48+n % 10)]
theorem JK (i:Nat) (hi:i<10) (w:World):Calls prog 224 #[.int .i64 i] w fun e w'=>e=.returned (.string ⟨[Wy1 (48+i)].toArray⟩)/\w'=w:=by
 refine(Any.strconv_Itoa_small lays171 i (by omega) w).mono ?_;rintro e w' ⟨rfl,rfl⟩;rw[Lib.decDigits_one hi];exact⟨rfl,rfl⟩
theorem EY (n:Nat) (hn:n<100) (w:World):Calls prog 198 #[.int .i64 n] w fun e w'=>e=.returned (.string ⟨(two n).toArray⟩)/\w'=w:=by
 obtain⟨a,h⟩:=nm_ (n / 10);obtain⟨b,j⟩:=nm_ (n % 10);have Z:((n:Int)).tdiv 10=(a:Int):=by rw[Wy6 (by omega),<-h.out];omega
 have hb:((n:Int)).tmod 10=(b:Int):=by rw[Wy7 (by omega),<-j.out];omega
 have O:(n:Int) / 10=(a:Int):=by rw[<-h.out];omega
 have Q:(n:Int) % 10=(b:Int):=by rw[<-j.out];omega
 have G:a<10:=by rw[<-h.out];omega
 have I:b<10:=by rw[<-j.out];omega
 have J:Hid ((⟨[Wy1 (48+a)].toArray⟩:ByteArray) ++ ⟨[Wy1 (48+b)].toArray⟩=⟨(two n).toArray⟩):=hid (by rw[yZ];unfold two;rw[h.out,j.out];rfl);obtain⟨S,A⟩:=nn_ (⟨[Wy1 (48+a)].toArray⟩:ByteArray);obtain⟨T,D⟩:=nn_ (⟨[Wy1 (48+b)].toArray⟩:ByteArray);have V:S.size=1:=by rw[A.out];rfl
 have Y:T.size=1:=by rw[D.out];rfl
 have K:Hid (∀ w,Calls prog 224 #[.int .i64 a] w fun e w'=>e=.returned (.string S)/\w'=w):=fun w=>by rw[A.out];exact JK a G w
 have L:Hid (∀ w,Calls prog 224 #[.int .i64 b] w fun e w'=>e=.returned (.string T)/\w'=w):=fun w=>by rw[D.out];exact JK b I w
 rw[<-A.out,<-D.out] at J;go_enter func198,ntmps198;go_wp2_with fail
 refine(K.out _).mono ?_;rintro M w' ⟨rfl,rfl⟩;go_wp2_with fail
 refine(L.out _).mono ?_;rintro M w' ⟨rfl,rfl⟩;go_wp2;go_ret;exact⟨(show _=Ending.returned (.string (S++T)) from rfl).trans (by rw[J.out]),rfl⟩
def xy (z:Int):List UInt8:=(if z<0 then 45 else 43) :: (two (z.natAbs / 60)++two (z.natAbs % 60))
theorem TJ (z:Int) (h1 : -840<=z) (h2:z<=840) (w:World):Calls prog 158 #[.int .i64 z] w fun e w'=>e=.returned (.string ⟨(xy z).toArray⟩)/\w'=w:=by
 obtain⟨n,A⟩:=nm_ z.natAbs;have hn:n<=840:=by rw[<-A.out];omega
 obtain⟨a,h⟩:=nm_ (n / 60);obtain⟨b,j⟩:=nm_ (n % 60);have ha:((n:Int)).tdiv 60=(a:Int):=by rw[Wy6 (by omega),<-h.out];omega
 have hb:((n:Int)).tmod 60=(b:Int):=by rw[Wy7 (by omega),<-j.out];omega
 have a6:(n:Int) / 60=(a:Int):=by rw[<-h.out];omega
 have a7:(n:Int) % 60=(b:Int):=by rw[<-j.out];omega
 have K:a<100:=by rw[<-h.out];omega
 have L:b<100:=by rw[<-j.out];omega
 obtain⟨S,D⟩:=nn_ (⟨(two a).toArray⟩:ByteArray);obtain⟨T,G⟩:=nn_ (⟨(two b).toArray⟩:ByteArray);have Q:S.size=2:=by rw[D.out];rfl
 have hT:T.size=2:=by rw[G.out];rfl
 have M:Hid (∀ w,Calls prog 198 #[.int .i64 a] w fun e w'=>e=.returned (.string S)/\w'=w):=fun w=>by rw[D.out];exact EY a K w
 have O:Hid (∀ w,Calls prog 198 #[.int .i64 b] w fun e w'=>e=.returned (.string T)/\w'=w):=fun w=>by rw[G.out];exact EY b L w
 by_cases V:z<0
 ·obtain rfl:z = -(n:Int):=by rw[<-A.out];omega
  have I:Hid ((⟨#[45]⟩:ByteArray)++S++T=⟨(xy (-(n:Int))).toArray⟩):=hid (by
   rw[D.out,G.out,show (⟨#[45]⟩:ByteArray)=⟨[45].toArray⟩ from rfl,yZ,yZ];unfold xy;rw[if_pos V,A.out,h.out,j.out];rfl)
  have hP:((⟨#[45]⟩:ByteArray)++S).size=3:=by rw[Wy5,Q];rfl
  have Z:(⟨#[45]⟩:ByteArray).size=1:=rfl;go_enter func158,ntmps158;go_wp2_with fail
  refine(M.out _).mono ?_;rintro J w' ⟨rfl,rfl⟩;go_wp2_with fail
  refine(O.out _).mono ?_;rintro J w' ⟨rfl,rfl⟩;go_wp2;go_ret;exact⟨(show _=Ending.returned (.string (⟨#[45]⟩ ++ S++T)) from rfl).trans (by rw[I.out]),rfl⟩
 obtain rfl:z=(n:Int):=by rw[<-A.out];omega
 have I:Hid ((⟨#[43]⟩:ByteArray)++S++T=⟨(xy (n:Int)).toArray⟩):=hid (by
  rw[D.out,G.out,show (⟨#[43]⟩:ByteArray)=⟨[43].toArray⟩ from rfl,yZ,yZ];unfold xy;rw[if_neg V,A.out,h.out,j.out];rfl)
 have hP:((⟨#[43]⟩:ByteArray)++S).size=3:=by rw[Wy5,Q];rfl
 have Y:(⟨#[43]⟩:ByteArray).size=1:=rfl;go_enter func158,ntmps158;go_wp2_with fail
 refine(M.out _).mono ?_;rintro J w' ⟨rfl,rfl⟩;go_wp2_with fail
 refine(O.out _).mono ?_;rintro J w' ⟨rfl,rfl⟩;go_wp2;go_ret;exact⟨(show _=Ending.returned (.string (⟨#[43]⟩ ++ S++T)) from rfl).trans (by rw[I.out]),rfl⟩
theorem qz0 (n:Nat) (D:n<=1099511627776) (w:World) (A:Tab w):Calls prog 113 #[.int .i64 n,.int .i64 10] w fun e w'=>e=.returned (.string ⟨(Lib.decDigits n).toArray⟩)/\Below w.heap.size w w':=by
 refine(Any.strconv_FormatInt_10 laysM173 n (by omega) (by omega) w A).mono ?_;rintro e w' ⟨rfl,k,os,rfl⟩;refine⟨?_,rfl,rfl,rfl,by simp[Sort.grow],fun j h=>?_⟩
 ·rw[Lib.itoa_nonneg]
 show (w.heap++os)[j]? = _;rw[Array.getElem?_append_left h]
end Go.Proofs.YtdnphaganajejaaGreatDoor
