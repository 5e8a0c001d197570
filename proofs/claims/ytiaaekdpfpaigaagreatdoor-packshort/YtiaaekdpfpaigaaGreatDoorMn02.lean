import Derived.Laws.Bits128
import Derived.Deep.RegionHeld3
import Derived.Deep.RegionWith
import Derived.Deep.LoopGhost
import Derived.Deep.AppendLies
import Derived.Deep.RegionLaw
import Derived.Deep.DrawnRows
import Derived.Test.YtiaaekdpfpaigaaGreatDoorMn01

set_option maxRecDepth 20000
set_option maxHeartbeats 4000000
open Int renaming natCast_add->Wqz
open List renaming getElem_mem->Wz5
open Nat renaming div_div_eq_div_mul->WzJ,exists_eq_add_of_le->Wqq,le_refl->WzV,le_trans->Wqx,lt_of_lt_of_le->Wqj,pow_add->Wq1,pow_le_pow_right->Wqk,pow_succ->Wqv,two_pow_pos->Wqw
open Option renaming some->Wq9
namespace Go.Proofs.YtiaaekdpfpaigaaGreatDoor.Df.Plain
open Go.Proofs.Tryz
def TX (p:Int × Int) (x:Int):Int × Int:=((p.1+x) % 65521,(p.2+(p.1+x) % 65521) % 65521)
def ad (l:List Int):Int × Int:=l.foldl TX (1,0)
theorem EW (l:List Int) (x:Int):ad (l++[x])=TX (ad l) x:=by simp[ad]
theorem qq5 (l:List Int):0<=(ad l).1/\(ad l).1<65521/\0<=(ad l).2/\(ad l).2<65521:=by
 rcases List.eq_nil_or_concat l with rfl | ⟨m,x,rfl⟩
 ·simp[ad]
 simp only[List.concat_eq_append,EW,TX];omega
def vk (l:List Int):Int:=(ad l).2*65536+(ad l).1
def leN:List Int->Nat
 | []=>0
 | x :: l=>x.toNat+256*leN l
def zZ (zs:List Int) (p n:Nat):Nat:=leN zs / 2 ^ p % 2 ^ n
theorem P8:∀ (zs:List Int) (i:Nat) (h:i<zs.length),(∀ x ∈ zs,0<=x/\x<=255)->leN zs / 2 ^ (8*i) % 2 ^ 8=(zs[i]).toNat
 | x :: l,0,_,hz=>by have:=hz x (by simp);simp[leN];omega
 | x :: l,i+1,h,hz=>by
  have hx:=hz x (by simp);have ih:=P8 l i (by simpa using h) (fun y hy=>hz y (by simp[hy]));rw[show 8*(i+1)=8+8*i from by omega,Wq1,<-WzJ];rw[show leN (x :: l) / 2 ^ 8=leN l from by simp[leN];omega];simpa using ih
theorem IJ (zs:List Int) (i:Nat) (h:i<zs.length) (hz:∀ x ∈ zs,0<=x/\x<=255):zZ zs (8*i) 8=(zs[i]).toNat:=P8 zs i h hz
theorem y8 (zs:List Int) (p n:Nat):zZ zs p n<2 ^ n:=Nat.mod_lt _ (Wqw n)
theorem Z8 (zs:List Int) (p:Nat):zZ zs p 0=0:=by simp[zZ,Nat.mod_one]
theorem K8 (zs:List Int) (p a b:Nat):zZ zs p (a+b)=zZ zs p a+2 ^ a*zZ zs (p+a) b:=by
 unfold zZ;rw[Wq1 2 a b,Nat.mod_mul,Wq1 2 p a,WzJ]
theorem P9 (zs:List Int) (p a n:Nat) (h:n<=a):zZ zs p a % 2 ^ n=zZ zs p n:=by
 obtain⟨b,rfl⟩:=Wqq h;rw[K8,Nat.add_mul_mod_self_left,Nat.mod_eq_of_lt (y8 zs p n)]
theorem Pz (zs:List Int) (p a n:Nat) (h:n<=a):zZ zs p a / 2 ^ n=zZ zs (p+n) (a-n):=by
 obtain⟨b,rfl⟩:=Wqq h;rw[K8,Nat.add_mul_div_left _ _ (Wqw n),Nat.div_eq_of_lt (y8 zs p n),Nat.add_sub_cancel_left,Nat.zero_add]
theorem wrap_small (n:Nat) (h:n<9223372036854775808):IntKind.i64.wrap (n:Int)=(n:Int):=by
 rw[IntKind.wrap_i64];omega
theorem Pq (a b:Nat) (ha:a<9223372036854775808) (hb:b<9223372036854775808):bits .and .i64 (a:Int) (b:Int)=((a &&& b:Nat):Int):=by
 have hx:a &&& b<2 ^ 63:=Nat.and_lt_two_pow _ (by omega);show IntKind.i64.wrap ((BitVec.ofInt 64 (a:Int) &&& BitVec.ofInt 64 (b:Int)).toNat:Int)=_;rw[BitVec.toNat_and,ofInt_u64 a (by omega),ofInt_u64 b (by omega)];exact wrap_small _ (by omega)
theorem uQ (a b:Nat) (ha:a<9223372036854775808) (hb:b<9223372036854775808):bits .or .i64 (a:Int) (b:Int)=((a ||| b:Nat):Int):=by
 have hx:a ||| b<2 ^ 63:=Nat.or_lt_two_pow (by omega) (by omega)
 show IntKind.i64.wrap ((BitVec.ofInt 64 (a:Int) ||| BitVec.ofInt 64 (b:Int)).toNat:Int)=_;rw[BitVec.toNat_or,ofInt_u64 a (by omega),ofInt_u64 b (by omega)];exact wrap_small _ (by omega)
theorem Z9 {n:Nat} (h:n<=16):2 ^ n<=65536:=Wqk (n:=2) (by omega) h
theorem IK {n:Nat} (h:n<=23):2 ^ n<=8388608:=Wqk (n:=2) (by omega) h
theorem EY (zs:List Int) (p held nx:Nat) (hz:∀ x ∈ zs,0<=x/\x<=255) (hn:nx<zs.length) (hp:8*nx=p+held) (hh:held<=15) :
  bits .or .i64 ((zZ zs p held:Nat):Int) (IntKind.i64.wrap (zs[nx]*2 ^ held))=((zZ zs p (held+8):Nat):Int):=by
 have hx:=hz _ (Wz5 hn);have hb:=IJ zs nx hn hz;have h1:=y8 zs p held;have h2:=Z9 (show held<=16 by omega);have hm:(zs[nx]).toNat*2 ^ held<=255*65536:=Nat.mul_le_mul (by omega) h2;have e:zs[nx]*2 ^ held=(((zs[nx]).toNat*2 ^ held:Nat):Int):=by
  rw[Int.natCast_mul,Int.toNat_of_nonneg hx.1];simp
 rw[e,wrap_small _ (by omega),uQ _ _ (by omega) (by omega),Nat.or_comm,nat_join held _ _ (Nat.mul_mod_left _ _) h1,K8,<-hp,hb,Nat.add_comm,Nat.mul_comm]
theorem zq8 (zs:List Int) (p held n:Nat) (hn:n<=16) (hh:held<=23) (hnh:n<=held) :
  bits .and .i64 ((zZ zs p held:Nat):Int) (IntKind.i64.wrap (IntKind.i64.wrap (2 ^ n)-1))=((zZ zs p n:Nat):Int):=by
 have h1:=y8 zs p held;have h2:=Z9 hn;have h3:=IK hh;have h4:0<2 ^ n:=Wqw n;have e:(2 ^ n:Int)=((2 ^ n:Nat):Int):=by simp
 rw[e,wrap_small _ (by omega),show ((2 ^ n:Nat):Int)-1=((2 ^ n-1:Nat):Int) from by omega,wrap_small _ (by omega),Pq _ _ (by omega) (by omega),Nat.and_two_pow_sub_one_eq_mod,P9 _ _ _ _ hnh]
theorem shr_n (zs:List Int) (p held n:Nat) (hnh:n<=held):((zZ zs p held:Nat):Int) / 2 ^ n=((zZ zs (p+n) (held-n):Nat):Int):=by
 have e:(2 ^ n:Int)=((2 ^ n:Nat):Int):=by simp
 rw[e,<-Pz _ _ _ _ hnh];rfl
def vW (cnt srt:List Nat) (zs:List Int):Nat->Nat->Nat->Nat->Nat->Nat->Option (Nat × Nat)
 | 0,_,_,_,_,_=>none
 | f+1,n,b,first,passed,p =>
  if 8*zs.length<p+1 then none
  else if 2*b+zZ zs p 1-2*first<cnt.getD n 0 then some (srt.getD (passed+(2*b+zZ zs p 1-2*first)) 0,p+1)
  else vW cnt srt zs f (n+1) (2*b+zZ zs p 1) (2*first+cnt.getD n 0) (passed+cnt.getD n 0) (p+1)
def dec (cnt srt:List Nat) (zs:List Int) (p:Nat):Option (Nat × Nat):=vW cnt srt zs 15 1 0 0 0 p
theorem Pj (cnt srt:List Nat) (zs:List Int):∀ (f n b first passed p y p':Nat),vW cnt srt zs f n b first passed p=some (y,p')->p<p'/\p'<=8*zs.length
 | 0,_,_,_,_,_,_,_,h=>by simp[vW] at h
 | f+1,n,b,first,passed,p,y,p',h=>by
  rw[vW] at h;split at h
  ·simp at h
  split at h
  ·simp at h;omega
  have:=Pj cnt srt zs f _ _ _ _ _ _ _ h;omega
theorem B4 {cnt srt:List Nat} {zs:List Int} {p y p':Nat} (h:dec cnt srt zs p=some (y,p')):p<p'/\p'<=8*zs.length:=Pj _ _ _ _ _ _ _ _ _ _ _ h
def below (cnt:List Nat):Nat->Nat
 | 0=>0
 | n+1=>if n=0 then 0 else below cnt n+cnt.getD n 0
theorem vZ (cnt:List Nat) (n:Nat) (h:1<=n):below cnt (n+1)=below cnt n+cnt.getD n 0:=by rw[below,if_neg (by omega)]
theorem uX (cnt:List Nat):∀ (a b:Nat),a<=b->below cnt a<=below cnt b
 | a,0,h=>by rw[show a=0 from by omega];exact WzV _
 | a,b+1,h=>by
  by_cases e:a=b+1
  ·rw[e];exact WzV _
  have:=uX cnt a b (by omega);by_cases hb:b=0
  ·subst hb;rw[show a=0 from by omega];simp[below]
  rw[vZ cnt b (by omega)];omega
end Go.Proofs.YtiaaekdpfpaigaaGreatDoor.Df.Plain
namespace Go.Proofs.YtiaaekdpfpaigaaGreatDoor.Df
open Go.Proofs.Tryz
open Go.RowKit Plain
theorem F4 {k:IntKind} {a b:Int} (h:a=b):Ending.returned (.int k a)=.returned (.int k b):=by rw[h]
def At (w:World) (b off:Nat) (zs:List Int):Prop := ∀ i,i<zs.length->w.cell? ⟨b,off+i,none⟩=some (.int .u8 (zs.getD i 0))
def IsB (zs:List Int):Prop := ∀ x ∈ zs,0<=x/\x<=255
theorem IsB.get {zs:List Int} (h:IsB zs) (k:Nat):0<=zs[k]?.getD 0/\zs[k]?.getD 0<=255:=by
 by_cases hk:k<zs.length
 ·rw[List.getElem?_eq_getElem hk];exact h _ (Wz5 hk)
 rw[List.getElem?_eq_none (by omega)];simp
theorem IsB.at {zs:List Int} (h:IsB zs) (k:Nat) (hk:k<zs.length):0<=zs[k]/\zs[k]<=255:=h _ (Wz5 hk)
theorem IV (zs:List Int) (k:Nat) (h:k<zs.length):zs.take (k+1)=zs.take k++[zs[k]]:=List.take_succ_eq_append_getElem h
theorem or_ad (t s:Int) (h1:0<=t) (h2:t<65521) (h3:0<=s) (h4:s<65521):bits .or .u32 (t*65536) s=t*65536+s:=by
 rw[u32_or _ _ (by omega) (by omega) h3 (by omega),nat_join 16 _ _ (by omega) (by omega)];omega
theorem K9 (b off cap:Nat) (zs:List Int) (w:World) (hl:zs.length<=300000) (hz:IsB zs) (hc:At w b off zs) :
  Calls prog 16 #[.slice (some ⟨b,off,none⟩) zs.length cap] w fun e w'=>e=.returned (.int .u32 (vk zs))/\w'=w:=by
 go_enter func16,ntmps16;go_wp2;go_loop [3,4,9] (fun s t i=>∃ k:Nat,k<=zs.length/\i=.int .i64 k/\s=.int .u32 (ad (zs.take k)).1/\t=.int .u32 (ad (zs.take k)).2) (fun _ _ i=>zs.length-(intOf i).toNat)
 case atStart=>exact⟨0,Nat.zero_le _,rfl,rfl,rfl⟩
 obtain⟨k,hk,rfl,rfl,rfl⟩:=hrel;obtain⟨h1,h2,h3,h4⟩:=qq5 (zs.take k);by_cases hlt:k<zs.length
 ·have hcell:=hc k hlt;obtain⟨hx1,hx2⟩:=hz.at k hlt;have HS:Hid (ad (zs.take (k+1))=TX (ad (zs.take k)) zs[k]):=by rw[IV zs k hlt];exact EW _ _
  go_wp2;go_round;case rel=>exact⟨k+1,by omega,by go_num,by rw[HS.out];rfl,by rw[HS.out];rfl⟩
  case measure=>simp[intOf];omega
 obtain rfl:k=zs.length:=by omega
 have ht:zs.take zs.length=zs:=List.take_length;rw[ht] at h1 h2 h3 h4;go_wp2;go_ret;exact⟨F4 (by rw[or_ad _ _ h3 h4 h1 h2];rfl),rfl⟩
theorem info5:(prog.info? 5).map (fun i=>(i.zero,i.size,i.bytes))=some (some (.int .u8 0),1,1):=by kernel_rfl
theorem addr_add (b off j:Nat):(⟨b,off,none⟩:Addr).add j=⟨b,off+j,none⟩:=by unfold Addr.add;split <;> simp_all
theorem below_setCells {B g:Nat} (hB:B<=g):∀ (vs:List Value) (o:Nat) (w0 w:World),Below B w0 w->Below B w0 (w.setCells g o vs)
 | [],_,_,_,h=>h
 | v :: r,o,w0,_,h=>below_setCells hB r (o+1) w0 _ (h.setCell (p:=⟨g,o,none⟩) hB v)
theorem size_setCells (g:Nat):∀ (vs:List Value) (o:Nat) (w:World),(w.setCells g o vs).heap.size=w.heap.size
 | [],_,_=>rfl
 | _ :: r,o,_=>(size_setCells g r (o+1) _).trans (by simp[World.setCell])
structure Env where
 S:Nat
 ib:Nat
 io:Nat
 cap:Nat
 zs:List Int
 most:Int
 win:Int
structure Str (w:World) (E:Env) (nx hold held:Nat) (v:Value):Prop where
 c0:w.cell? ⟨E.S,0,none⟩=some (.slice (some ⟨E.ib,E.io,none⟩) E.zs.length E.cap)
 c1:w.cell? ⟨E.S,1,none⟩=some (.int .i64 nx)
 c2:w.cell? ⟨E.S,2,none⟩=some (.int .i64 hold)
 c3:w.cell? ⟨E.S,3,none⟩=some (.int .i64 held)
 c4:w.cell? ⟨E.S,4,none⟩=some v
 c5:w.cell? ⟨E.S,5,none⟩=some (.int .i64 E.most)
 c6:w.cell? ⟨E.S,6,none⟩=some (.int .i64 E.win)
 fz:∀ i,w.frozen? ⟨E.S,i,none⟩=false
 src:At w E.ib E.io E.zs
 ibS:E.ib ≠ E.S
 ibv:some E.ib ≠ v.ownBlock
 ibl:E.ib<w.heap.size
 Sl:E.S<w.heap.size
 Sv:some E.S ≠ v.ownBlock
def j4 (k:Int):List PanicEntry:=[{ v:=.iface 42 (.int .i64 k),recovered:=false }]
structure Kept (S:Nat) (v v':Value) (w w':World):Prop where
 os:w'.os=w.os
 tape:w'.tape=w.tape
 output:w'.output=w.output
 size:w.heap.size<=w'.heap.size
 block:∀ k,k<w.heap.size->k ≠ S->some k ≠ v.ownBlock->w'.heap[k]? = w.heap[k]?
 row:v'.ownBlock=v.ownBlock ∨ ∀ k,v'.ownBlock=some k->w.heap.size<=k
theorem Kept.refl (S:Nat) (v:Value) (w:World):Kept S v v w w:=⟨rfl,rfl,rfl,WzV _,fun _ _ _ _=>rfl,.inl rfl⟩
theorem Kept.trans {S:Nat} {v v' v'':Value} {w w' w'':World} (h:Kept S v v' w w') (k:Kept S v' v'' w' w''):Kept S v v'' w w'' where
 os:=k.os.trans h.os
 tape:=k.tape.trans h.tape
 output:=k.output.trans h.output
 size:=Wqx h.size k.size
 block i h1 h2 h3:=by
  rw[k.block i (by have:=h.size;omega) h2 ?_,h.block i h1 h2 h3]
  rcases h.row with e | e
  ·rw[e];exact h3
  ·intro e'
   have:=e i e'.symm
   omega
 row:=by
  rcases k.row with e | e
  ·rcases h.row with e' | e'
   ·exact .inl (e.trans e')
   ·exact .inr fun i hi=>e' i (e ▸ hi)
  ·exact .inr fun i hi=>Wqx h.size (e i hi)
theorem Kept.drewN {S:Nat} {v v':Value} {w w':World} (h:Kept S v v' w w') (n:Nat):Kept S v v' w (w'.drewN n):=⟨h.os,h.tape,h.output,h.size,h.block,h.row⟩
theorem Kept.drew {S:Nat} {v v':Value} {w w':World} (h:Kept S v v' w w'):Kept S v v' w w'.drew:=⟨h.os,h.tape,h.output,h.size,h.block,h.row⟩
theorem Kept.set {S:Nat} {v v':Value} {w w':World} (h:Kept S v v' w w') (i:Nat) (u:Value):Kept S v v' w (w'.setCell ⟨S,i,none⟩ u) :=
 ⟨h.os,h.tape,h.output,by simpa [World.setCell] using h.size,fun k h1 h2 h3=>(Below.heap_setCell w' _ u k h2).trans (h.block k h1 h2 h3),h.row⟩
theorem Kept.alloc {S:Nat} {v v':Value} {w w':World} (h:Kept S v v' w w') (o:Obj):Kept S v v' w (w'.alloc o) :=
 ⟨h.os,h.tape,h.output,by have:=h.size;simp;omega,fun k h1 h2 h3=>(Below.heap_alloc w' o k (by have:=h.size;omega)).trans (h.block k h1 h2 h3),h.row⟩
theorem Kept.cell {S:Nat} {v v':Value} {w w':World} (h:Kept S v v' w w') {p:Addr} (h1:p.block<w.heap.size) (h2:p.block ≠ S) (h3:some p.block ≠ v.ownBlock):w'.cell? p=w.cell? p :=
 World.cell?_of_block (w:=w) (h.block _ h1 h2 h3)
theorem Kept.frozen {S:Nat} {v v':Value} {w w':World} (h:Kept S v v' w w') {p:Addr} (h1:p.block<w.heap.size) (h2:p.block ≠ S) (h3:some p.block ≠ v.ownBlock):w'.frozen? p=w.frozen? p :=
 World.frozen?_of_block (w:=w) (h.block _ h1 h2 h3)
theorem Kept.off {S:Nat} {v v':Value} {w w':World} (h:Kept S v v' w w') {k:Nat} (h1:k<w.heap.size) (h3:some k ≠ v.ownBlock):some k ≠ v'.ownBlock:=by
 rcases h.row with e | e
 ·rw[e];exact h3
 intro e';have:=e k e'.symm;omega
theorem Kept.below {S B:Nat} {v v':Value} {w0 w w':World} (h:Kept S v v' w w') (hb:Below B w0 w) (hB:B<=w0.heap.size) (hS:B<=S) (hv:∀ k,v.ownBlock=some k->B<=k):Below B w0 w' :=
 hb.trans ⟨h.os,h.tape,h.output,h.size,fun k hk=>h.block k (by have:=hb.size;omega) (by omega) (fun e=>by have:=hv k e.symm;omega)⟩
theorem Kept.weak {S:Nat} {w w':World} (h:Kept S (.bool true) (.bool true) w w') (v:Value):Kept S v v w w' :=
 ⟨h.os,h.tape,h.output,h.size,fun k h1 h2 _=>h.block k h1 h2 (by simp[Value.ownBlock]),.inl rfl⟩
theorem Kept.all {S:Nat} {w w':World} (h:Kept S (.bool true) (.bool true) w w') (k:Nat) (h1:k<w.heap.size) (h2:k ≠ S):w'.heap[k]? = w.heap[k]? := h.block k h1 h2 (by simp[Value.ownBlock])
theorem Kept.owns {S:Nat} {w w':World} (h:Kept S (.bool true) (.bool true) w w') {B:Nat} {e:TypeId} {s:Nat} {v:Value} {n:Nat} {xs:List Value} (ho:w.ownsRow B e s v n xs) (hS:some S ≠ v.ownBlock):w'.ownsRow B e s v n xs:=by
 refine ho.kept (row:=some S) ⟨h.os,h.tape,h.output,h.size,fun k h1 h2=>h.all k h1 (fun e=>h2 (by rw[e]))⟩ (.inr (Ne.symm hS))
theorem Str.drewN {w:World} {E:Env} {nx hold held:Nat} {v:Value} (h:Str w E nx hold held v) (n:Nat):Str (w.drewN n) E nx hold held v :=
 ⟨h.c0,h.c1,h.c2,h.c3,h.c4,h.c5,h.c6,h.fz,h.src,h.ibS,h.ibv,h.ibl,h.Sl,h.Sv⟩
theorem Str.drew {w:World} {E:Env} {nx hold held:Nat} {v:Value} (h:Str w E nx hold held v):Str w.drew E nx hold held v :=
 ⟨h.c0,h.c1,h.c2,h.c3,h.c4,h.c5,h.c6,h.fz,h.src,h.ibS,h.ibv,h.ibl,h.Sl,h.Sv⟩
theorem z8 {w:World} {S i j:Nat} (u:Value) (h:i ≠ j):(w.setCell ⟨S,i,none⟩ u).cell? ⟨S,j,none⟩=w.cell? ⟨S,j,none⟩ :=
 World.cell?_setCell_other _ _ _ _ (by intro e;simp only[Addr.mk.injEq] at e;omega)
theorem YY {w:World} {ib io S i:Nat} {zs:List Int} (h:At w ib io zs) (hn:ib ≠ S) (u:Value):At (w.setCell ⟨S,i,none⟩ u) ib io zs:=fun j hj=>by
 rw[World.cell?_setCell_other _ _ _ _ (by intro e;simp only[Addr.mk.injEq] at e;omega)];exact h j hj
theorem Str.set1 {w:World} {E:Env} {nx hold held:Nat} {v:Value} (h:Str w E nx hold held v) {m:Int} (n:Nat) (hm:m=n):Str (w.setCell ⟨E.S,1,none⟩ (.int .i64 m)) E n hold held v :=
  ⟨(z8 _ (by omega)).trans h.c0,by rw[hm];exact World.cell?_setCell_same _ _ _ h.c1,(z8 _ (by omega)).trans h.c2,(z8 _ (by omega)).trans h.c3,(z8 _ (by omega)).trans h.c4,(z8 _ (by omega)).trans h.c5,(z8 _ (by omega)).trans h.c6,
   fun i=>by rw[World.frozen?_setCell];exact h.fz i,YY h.src h.ibS _,h.ibS,h.ibv,by simpa [World.setCell] using h.ibl,by simpa [World.setCell] using h.Sl,h.Sv⟩
theorem Str.set2 {w:World} {E:Env} {nx hold held:Nat} {v:Value} (h:Str w E nx hold held v) {m:Int} (n:Nat) (hm:m=n):Str (w.setCell ⟨E.S,2,none⟩ (.int .i64 m)) E nx n held v :=
  ⟨(z8 _ (by omega)).trans h.c0,(z8 _ (by omega)).trans h.c1,by rw[hm];exact World.cell?_setCell_same _ _ _ h.c2,(z8 _ (by omega)).trans h.c3,(z8 _ (by omega)).trans h.c4,(z8 _ (by omega)).trans h.c5,(z8 _ (by omega)).trans h.c6,
   fun i=>by rw[World.frozen?_setCell];exact h.fz i,YY h.src h.ibS _,h.ibS,h.ibv,by simpa [World.setCell] using h.ibl,by simpa [World.setCell] using h.Sl,h.Sv⟩
theorem Str.set3 {w:World} {E:Env} {nx hold held:Nat} {v:Value} (h:Str w E nx hold held v) {m:Int} (n:Nat) (hm:m=n):Str (w.setCell ⟨E.S,3,none⟩ (.int .i64 m)) E nx hold n v :=
  ⟨(z8 _ (by omega)).trans h.c0,(z8 _ (by omega)).trans h.c1,(z8 _ (by omega)).trans h.c2,by rw[hm];exact World.cell?_setCell_same _ _ _ h.c3,(z8 _ (by omega)).trans h.c4,(z8 _ (by omega)).trans h.c5,(z8 _ (by omega)).trans h.c6,
   fun i=>by rw[World.frozen?_setCell];exact h.fz i,YY h.src h.ibS _,h.ibS,h.ibv,by simpa [World.setCell] using h.ibl,by simpa [World.setCell] using h.Sl,h.Sv⟩
theorem TJ {a b:Int} (h:a=b):Ending.returned (.int .i64 a)=.returned (.int .i64 b):=by rw[h]
theorem jw (E:Env) (hold held:Nat) (v:Value) (w:World) (h:Str w E E.zs.length hold held v) :
  Calls prog 135 #[.pointer (some ⟨E.S,0,none⟩)] w fun e w'=>e=.panicked (j4 10)/\Kept E.S (.bool true) (.bool true) w w':=by
 have HK:Hid (Kept E.S (.bool true) (.bool true) w w):=Kept.refl _ _ _;obtain⟨c0,c1,c2,c3,c4,c5,c6,fz,src,ibS,ibv,ibl,Sl,Sv⟩:=h;go_enter func135,ntmps135;go_wp2;go_quiet (fail);go_wp2;exact⟨rfl,rfl,HK.out.drewN _⟩
theorem vY (E:Env) (nx hold held:Nat) (v:Value) (w:World) (hz:IsB E.zs) (_hl:E.zs.length<=400000) (hn:nx<E.zs.length) (h:Str w E nx hold held v) :
  Calls prog 135 #[.pointer (some ⟨E.S,0,none⟩)] w fun e w'=>e=.returned (.int .i64 E.zs[nx])/\Str w' E (nx+1) hold held v/\Kept E.S (.bool true) (.bool true) w w':=by
 have HH:Hid (Str w E nx hold held v):=h;have HK:Hid (Kept E.S (.bool true) (.bool true) w w):=Kept.refl _ _ _;obtain⟨c0,c1,c2,c3,c4,c5,c6,fz,src,ibS,ibv,ibl,Sl,Sv⟩:=h;have hcell:=src nx hn;obtain⟨hx1,hx2⟩:=hz.at nx hn;have f1:=fz 1;have hne:((nx:Int) == (E.zs.length:Int))=false:=by simp;omega
 go_enter func135,ntmps135;go_wp2;go_quiet (fail);go_wp2;go_quiet (fail);go_wp2;go_ret;exact⟨rfl,((HH.out.drewN _).set1 _ (by omega)).drewN _,((HK.out.drewN _).set _ _).drewN _⟩
theorem TK (E:Env) (nx hold held:Nat) (v:Value) (w:World) (h:Str w E nx hold held v) :
  Calls prog 148 #[.pointer (some ⟨E.S,0,none⟩)] w fun e w'=>e=.returned (.tuple #[])/\Str w' E nx 0 0 v/\Kept E.S (.bool true) (.bool true) w w':=by
 have HH:Hid (Str w E nx hold held v):=h;have HK:Hid (Kept E.S (.bool true) (.bool true) w w):=Kept.refl _ _ _;obtain⟨c0,c1,c2,c3,c4,c5,c6,fz,src,ibS,ibv,ibl,Sl,Sv⟩:=h;have f2:=fz 2;have f3:=fz 3;go_enter func148,ntmps148;go_wp2;go_end0;exact⟨rfl,(HH.out.set2 0 rfl).set3 0 rfl,(HK.out.set _ _).set _ _⟩
theorem xJ (n:Int):wrap64 n=IntKind.i64.wrap n:=by rw[IntKind.wrap_i64];unfold wrap64;omega
def Rd (w:World) (E:Env) (p:Nat) (v:Value):Prop := ∃ nx hold held:Nat,Str w E nx hold held v/\8*nx=p+held/\held<=7/\nx<=E.zs.length/\Hid (hold=zZ E.zs p held)
theorem Rd.drewN {w:World} {E:Env} {p:Nat} {v:Value} (h:Rd w E p v) (n:Nat):Rd (w.drewN n) E p v:=by
 obtain⟨a,b,c,d,e⟩:=h;exact⟨a,b,c,d.drewN n,e⟩
theorem Rd.drew {w:World} {E:Env} {p:Nat} {v:Value} (h:Rd w E p v):Rd w.drew E p v:=by
 obtain⟨a,b,c,d,e⟩:=h;exact⟨a,b,c,d.drew,e⟩
def Done:Exit->Act->World->Prop:=fun _ _ _=>True
theorem ZK {G:Prop} (h:G) (_:wpAny prog .any #[] Done 0 #[] { tmps:=#[],defers:=[] } { (default:World) with drawn:=0 }):G:=h
theorem qX (E:Env) (p n:Nat) (v:Value) (w:World) (hz:IsB E.zs) (_hl:E.zs.length<=400000) (hn:n<=16) (h:Rd w E p v) (hpn:p+n<=8*E.zs.length) :
  Calls prog 136 #[.pointer (some ⟨E.S,0,none⟩),.int .i64 n] w fun e w'=>e=.returned (.int .i64 (zZ E.zs p n:Nat))/\Rd w' E (p+n) v/\Kept E.S (.bool true) (.bool true) w w':=by
 obtain⟨nx,hold,held,h,hp,hh,hnx,H0⟩:=h;go_enter func136,ntmps136;go_wp2;go_loopg [6] (n+8-held) (fun k _ wr=>∃ nx' hold' held',Str wr E nx' hold' held' v/\held'<=23/\(held'<=7 ∨ held'<n+8)/\8*nx'=p+held'/\nx'<=E.zs.length/\k=n+8-held'/\Hid (hold'=zZ E.zs p held')/\Kept E.S (.bool true) (.bool true) w wr)
 case atStart=>exact⟨nx,hold,held,h,by omega,.inl hh,hp,hnx,rfl,H0,Kept.refl _ _ _⟩
 obtain⟨nx',hold',held',h',hh',hor,hp',hnx',hk,hd',hkp⟩:=hrel;have HH:Hid (Str wr E nx' hold' held' v):=h';have HK:Hid (Kept E.S (.bool true) (.bool true) w wr):=hkp;clear h hkp;obtain⟨c0,c1,c2,c3,c4,c5,c6,fz,src,ibS,ibv,ibl,Sl,Sv⟩:=h';by_cases hlt:held'<n
 ·have hx:nx'<E.zs.length:=by omega
  have hob:bits .or .i64 (hold':Int) (IntKind.i64.wrap (E.zs[nx']*2 ^ held'))=((zZ E.zs p (held'+8):Nat):Int):=by
   rw[hd'.out];exact EY E.zs p held' nx' hz hx hp' (by omega)
  obtain⟨hold2,HB⟩:=nn_ (zZ E.zs p (held'+8));rw[<-HB.out] at hob;go_wp2
  go_region_with (first | (go_at_call 135;refine(vY E nx' hold' held' v _ hz _hl hx ?_).mono ?_;(first | exact HH.out | exact HH.out.drewN _ | exact HH.out.drew);rintro e w1 ⟨rfl,h1,k1⟩;have HH1:Hid (Str w1 E (nx'+1) hold' held' v):=h1;obtain⟨d0,d1,d2,d3,d4,d5,d6,dz,-,-,-,-,-,-⟩:=h1;have g2:=dz 2;have g3:=dz 3;have HK1:Hid (Kept E.S (.bool true) (.bool true) w w1):=(by first | exact HK.out.trans k1 | exact HK.out.drew.trans k1 | exact(HK.out.drewN _).trans k1);clear k1))
  all_goals
   go_wp2;go_roundg (n+8-(held'+8));case measure=>omega
   case rel =>
    exact⟨nx'+1,hold2,held'+8,(HH1.out.set2 _ rfl).set3 _ (by omega),by omega,by omega,by omega,by omega,rfl,HB,(HK1.out.set _ _).set _ _⟩
 have f2:=fz 2;have f3:=fz 3;have ha:=zq8 E.zs p held' n hn hh' (by omega);have hs:=shr_n E.zs p held' n (by omega);rw[<-hd'.out] at ha hs;go_wp2;go_quiet (fail);go_wp2;go_ret;exact⟨TJ (by rw[xJ,xJ];exact ha),⟨nx',_,held'-n,(((HH.out.drewN _).set2 _ rfl).set3 _ (by omega)),by omega,by omega,hnx',rfl⟩,((HK.out.drewN _).set _ _).set _ _⟩
theorem y5 (E:Env) (p n:Nat) (v:Value) (w:World) (hz:IsB E.zs) (_hl:E.zs.length<=400000) (hn:n<=16) (h:Rd w E p v) (hpn:8*E.zs.length<p+n) :
  Calls prog 136 #[.pointer (some ⟨E.S,0,none⟩),.int .i64 n] w fun e w'=>e=.panicked (j4 10)/\Kept E.S (.bool true) (.bool true) w w':=by
 obtain⟨nx,hold,held,h,hp,hh,hnx,H0⟩:=h;go_enter func136,ntmps136;go_wp2;go_loopg [6] (n+8-held) (fun k _ wr=>∃ nx' hold' held',Str wr E nx' hold' held' v/\held'<=23/\(held'<=7 ∨ held'<n+8)/\8*nx'=p+held'/\nx'<=E.zs.length/\k=n+8-held'/\Hid (hold'=zZ E.zs p held')/\Kept E.S (.bool true) (.bool true) w wr)
 case atStart=>exact⟨nx,hold,held,h,by omega,.inl hh,hp,hnx,rfl,H0,Kept.refl _ _ _⟩
 obtain⟨nx',hold',held',h',hh',hor,hp',hnx',hk,hd',hkp⟩:=hrel;have HH:Hid (Str wr E nx' hold' held' v):=h';have HK:Hid (Kept E.S (.bool true) (.bool true) w wr):=hkp;clear h hkp;by_cases hlt:held'<n;rotate_left
 ·omega
 by_cases hx:nx'<E.zs.length
 ·obtain⟨c0,c1,c2,c3,c4,c5,c6,fz,src,ibS,ibv,ibl,Sl,Sv⟩:=h';have hob:bits .or .i64 (hold':Int) (IntKind.i64.wrap (E.zs[nx']*2 ^ held'))=((zZ E.zs p (held'+8):Nat):Int):=by
   rw[hd'.out];exact EY E.zs p held' nx' hz hx hp' (by omega)
  obtain⟨hold2,HB⟩:=nn_ (zZ E.zs p (held'+8));rw[<-HB.out] at hob;go_wp2
  go_region_with (first | (go_at_call 135;refine(vY E nx' hold' held' v _ hz _hl hx ?_).mono ?_;(first | exact HH.out | exact HH.out.drewN _ | exact HH.out.drew);rintro e w1 ⟨rfl,h1,k1⟩;have HH1:Hid (Str w1 E (nx'+1) hold' held' v):=h1;obtain⟨d0,d1,d2,d3,d4,d5,d6,dz,-,-,-,-,-,-⟩:=h1;have g2:=dz 2;have g3:=dz 3;have HK1:Hid (Kept E.S (.bool true) (.bool true) w w1):=(by first | exact HK.out.trans k1 | exact HK.out.drew.trans k1 | exact(HK.out.drewN _).trans k1);clear k1))
  all_goals
   go_wp2;go_roundg (n+8-(held'+8));case measure=>omega
   case rel =>
    exact⟨nx'+1,hold2,held'+8,(HH1.out.set2 _ rfl).set3 _ (by omega),by omega,by omega,by omega,by omega,rfl,HB,(HK1.out.set _ _).set _ _⟩
 obtain rfl:nx'=E.zs.length:=by omega
 obtain⟨c0,c1,c2,c3,c4,c5,c6,fz,src,ibS,ibv,ibl,Sl,Sv⟩:=h';go_wp2
 go_region_with (first | (go_at_call 135;refine(jw E hold' held' v _ ?_).mono ?_;(first | exact HH.out | exact HH.out.drewN _ | exact HH.out.drew);rintro e w1 ⟨rfl,k1⟩;have HK1:Hid (Kept E.S (.bool true) (.bool true) w w1):=(by first | exact HK.out.trans k1 | exact HK.out.drew.trans k1 | exact(HK.out.drewN _).trans k1);clear k1;refine ZK ⟨rfl,rfl,HK1.out⟩ ?_))
 all_goals exact trivial
structure Apart (w:World) (E:Env) (v:Value) (k:Nat):Prop where
 lt:k<w.heap.size
 neS:k ≠ E.S
 nev:some k ≠ v.ownBlock
theorem Apart.kept {w w':World} {E:Env} {v v':Value} {k:Nat} (h:Apart w E v k) (hk:Kept E.S v v' w w'):Apart w' E v' k :=
 ⟨by have:=hk.size;have:=h.lt;omega,h.neS,hk.off h.lt h.nev⟩
structure Loc where
 bs:Nat
 bc:Nat
 bd:Nat
 br:Nat
 cap:Nat
structure uz (w:World) (E:Env) (v:Value) (L:Loc) (cnt srt:List Nat):Prop where
 s:w.cell? ⟨L.bs,0,none⟩=some (.pointer (some ⟨E.S,0,none⟩))
 c:∀ i,i<16->w.cell? ⟨L.bc,i,none⟩=some (.int .i64 (cnt.getD i 0:Nat))
 d:w.cell? ⟨L.bd,0,none⟩=some (.slice (some ⟨L.br,0,none⟩) srt.length L.cap)
 r:∀ i,i<srt.length->w.cell? ⟨L.br,i,none⟩=some (.int .i64 (srt.getD i 0:Nat))
 a1:Apart w E v L.bs
 a2:Apart w E v L.bc
 a3:Apart w E v L.bd
 a4:Apart w E v L.br
theorem uz.kept {w w':World} {E:Env} {v v':Value} {L:Loc} {cnt srt:List Nat} (h:uz w E v L cnt srt) (hk:Kept E.S v v' w w'):uz w' E v' L cnt srt where
 s:=(hk.cell (p:=⟨L.bs,0,none⟩) h.a1.lt h.a1.neS h.a1.nev).trans h.s
 c i hi:=(hk.cell (p:=⟨L.bc,i,none⟩) h.a2.lt h.a2.neS h.a2.nev).trans (h.c i hi)
 d:=(hk.cell (p:=⟨L.bd,0,none⟩) h.a3.lt h.a3.neS h.a3.nev).trans h.d
 r i hi:=(hk.cell (p:=⟨L.br,i,none⟩) h.a4.lt h.a4.neS h.a4.nev).trans (h.r i hi)
 a1:=h.a1.kept hk
 a2:=h.a2.kept hk
 a3:=h.a3.kept hk
 a4:=h.a4.kept hk
structure U1 (cnt srt:List Nat):Prop where
 small:∀ i,cnt.getD i 0<=400
 all:below cnt 16=srt.length
 len:srt.length<=400
theorem Pv (zs:List Int) (p:Nat):zZ zs p 1<=1:=by have:=y8 zs p 1;omega
theorem B5 (E:Env) (L:Loc) (cnt srt:List Nat) (p y p':Nat) (v:Value) (w:World) (hz:IsB E.zs) (hl:E.zs.length<=400000) (h:Rd w E p v) (hc:uz w E v L cnt srt) (hok:U1 cnt srt)
  (hd:dec cnt srt E.zs p=some (y,p')) :
  Calls prog 174 #[.pointer (some ⟨L.bs,0,none⟩),.pointer (some ⟨L.bc,0,none⟩),.pointer (some ⟨L.bd,0,none⟩)] w fun e w'=>e=.returned (.int .i64 y)/\Rd w' E p' v/\Kept E.S (.bool true) (.bool true) w w':=by
 have HD:Hid (vW cnt srt E.zs 15 1 0 0 0 p=some (y,p')):=hd;clear hd;go_enter func174,ntmps174;go_wp2;go_loopw [4,5,6,7] (fun b f q i wr=>∃ n bn fn pn:Nat,1<=n/\n<=16/\i=.int .i64 n/\b=.int .i64 bn/\f=.int .i64 fn/\q=.int .i64 pn/\fn<=bn/\bn<2 ^ (n-1)/\pn<=400/\
   Hid (pn=below cnt n)/\Hid (vW cnt srt E.zs (16-n) n bn fn pn (p+(n-1))=some (y,p'))/\Hid (Rd wr E (p+(n-1)) v)/\Hid (Kept E.S (.bool true) (.bool true) w wr)) (fun _ _ _ i _=>16-(intOf i).toNat)
 case atStart=>exact⟨1,0,0,0,by omega,by omega,rfl,rfl,rfl,rfl,by omega,by simp,by omega,rfl,HD,h,Kept.refl _ _ _⟩
 obtain⟨n,bn,fn,pn,hn1,hn2,rfl,rfl,rfl,rfl,hfb,hb2,hpn,HP,HDn,HR,HK⟩:=hrel;by_cases hn:n=16
 ·exact absurd HDn.out (by rw[hn];simp[vW])
 have hbn:bn<16384:=Wqj hb2 (by have:=Wqk (n:=2) (by omega) (show n-1<=14 by omega);simpa using this);have hle:n<=15:=by omega
 have E1:=HDn.out;rw[show 16-n=(15-n)+1 from by omega,vW] at E1;have hroom:¬ 8*E.zs.length<p+(n-1)+1:=by intro hh;rw[if_pos hh] at E1;cases E1
 rw[if_neg hroom] at E1;have hcw:uz wr E v L cnt srt:=hc.kept (HK.out.weak v);have cs:=hcw.s;have g1:=Pv E.zs (p+(n-1));have hsm:=hok.small n;obtain⟨g,HG⟩:=nn_ (zZ E.zs (p+(n-1)) 1);obtain⟨c,HC⟩:=nn_ (cnt.getD n 0);rw[<-HG.out] at g1 E1;rw[<-HC.out] at hsm E1;have HE1:Hid (_=some (y,p')):=E1;have hle':(n:Int)<=15:=by omega
 clear E1;go_wp2_with fail
 refine(qX E (p+(n-1)) 1 v wr hz hl (by omega) HR.out (by omega)).mono ?_;rintro e w1 ⟨rfl,hR1,hK1⟩;rw[<-HG.out];have HR1:Hid (Rd w1 E (p+(n-1)+1) v):=hR1;have HK1:Hid (Kept E.S (.bool true) (.bool true) w w1):=HK.out.trans hK1;have hc1:uz w1 E v L cnt srt:=hcw.kept (hK1.weak v);have cd:=hc1.d;have cn:=hc1.c n (by omega);rw[<-HC.out] at cn;clear hR1 hK1 cs
 by_cases hlt:2*bn+g-2*fn<c
 ·have hix:pn+(2*bn+g-2*fn)<srt.length:=by
   have:=uX cnt (n+1) 16 (by omega);rw[vZ cnt n hn1,hok.all,<-HC.out,<-HP.out] at this;omega
  have cr:=hc1.r _ hix;have hltZ:2*(bn:Int)+g-fn*2<c:=by omega
  have hixZ:pn+(2*bn+g)-fn*2<srt.length:=by omega
  obtain⟨x,HX⟩:=nn_ (srt.getD (pn+(2*bn+g-2*fn)) 0);rw[<-HX.out,show pn+(2*bn+g-2*fn)=pn+(2*bn+g)-fn*2 from by omega] at cr;have E2:=HE1.out;rw[if_pos hlt,<-HX.out] at E2;simp only[Wq9.injEq,Prod.mk.injEq] at E2;obtain⟨rfl,rfl⟩:=E2;go_wp2;go_ret;exact⟨rfl,HR1.out,HK1.out⟩
 have E2:=HE1.out;have hltZ:¬ 2*(bn:Int)+g-fn*2<c:=by omega
 rw[if_neg hlt] at E2;have HE2:Hid (_=some (y,p')):=E2;have hpw:2 ^ (n+1-1)=2*2 ^ (n-1):=by rw[show n+1-1=(n-1)+1 from by omega,Wqv];omega
 have hb3:2*bn+g<2 ^ (n+1-1):=by omega
 have HP1:Hid (pn+c=below cnt (n+1)):=by show _=_;rw[vZ cnt n hn1,<-HC.out,<-HP.out]
 have hp4:pn+c<=400:=by have:=uX cnt (n+1) 16 (by omega);rw[<-HP1.out,hok.all] at this;have:=hok.len;omega
 clear E2 hpw HDn HD;go_wp2;go_roundw;case rel=>exact⟨n+1,2*bn+g,2*fn+c,pn+c,by omega,by omega,by go_num,by go_num,by go_num,by go_num,by omega,hb3,hp4,HP1,by show _=_;rw[show 16-(n+1)=15-n from by omega,show p+(n+1-1)=p+(n-1)+1 from by omega];exact HE2.out,by show Rd _ _ _ _;rw[show p+(n+1-1)=p+(n-1)+1 from by omega];exact HR1.out,HK1⟩
 case measure=>simp[intOf];omega
theorem TV (E:Env) (L:Loc) (cnt srt:List Nat) (p:Nat) (v:Value) (w:World) (hz:IsB E.zs) (hl:E.zs.length<=400000) (h:Rd w E p v) (hc:uz w E v L cnt srt) (hok:U1 cnt srt)
  (hd:dec cnt srt E.zs p=none) :
  Calls prog 174 #[.pointer (some ⟨L.bs,0,none⟩),.pointer (some ⟨L.bc,0,none⟩),.pointer (some ⟨L.bd,0,none⟩)] w fun e w'=>e=.panicked (j4 10)/\Kept E.S (.bool true) (.bool true) w w':=by
 have HD:Hid (vW cnt srt E.zs 15 1 0 0 0 p=none):=hd;clear hd;go_enter func174,ntmps174;go_wp2;go_loopw [4,5,6,7] (fun b f q i wr=>∃ n bn fn pn:Nat,1<=n/\n<=16/\i=.int .i64 n/\b=.int .i64 bn/\f=.int .i64 fn/\q=.int .i64 pn/\fn<=bn/\bn<2 ^ (n-1)/\pn<=400/\
   Hid (pn=below cnt n)/\Hid (vW cnt srt E.zs (16-n) n bn fn pn (p+(n-1))=none)/\Hid (Rd wr E (p+(n-1)) v)/\Hid (Kept E.S (.bool true) (.bool true) w wr)) (fun _ _ _ i _=>16-(intOf i).toNat)
 case atStart=>exact⟨1,0,0,0,by omega,by omega,rfl,rfl,rfl,rfl,by omega,by simp,by omega,rfl,HD,h,Kept.refl _ _ _⟩
 obtain⟨n,bn,fn,pn,hn1,hn2,rfl,rfl,rfl,rfl,hfb,hb2,hpn,HP,HDn,HR,HK⟩:=hrel;by_cases hn:n=16
 ·subst hn;go_wp2;exact⟨rfl,rfl,HK.out⟩
 have hbn:bn<16384:=Wqj hb2 (by have:=Wqk (n:=2) (by omega) (show n-1<=14 by omega);simpa using this);have hle:n<=15:=by omega
 have E1:=HDn.out;rw[show 16-n=(15-n)+1 from by omega,vW] at E1;have hcw:uz wr E v L cnt srt:=hc.kept (HK.out.weak v);have cs:=hcw.s;have hle':(n:Int)<=15:=by omega
 by_cases hroom:8*E.zs.length<p+(n-1)+1
 ·clear E1;go_wp2_with fail
  refine(y5 E (p+(n-1)) 1 v wr hz hl (by omega) HR.out hroom).mono ?_;rintro e w1 ⟨rfl,hK1⟩;exact⟨rfl,rfl,HK.out.trans hK1⟩
 rw[if_neg hroom] at E1;have g1:=Pv E.zs (p+(n-1));have hsm:=hok.small n;obtain⟨g,HG⟩:=nn_ (zZ E.zs (p+(n-1)) 1);obtain⟨c,HC⟩:=nn_ (cnt.getD n 0);rw[<-HG.out] at g1 E1;rw[<-HC.out] at hsm E1;have HE1:Hid (_=none):=E1;clear E1;go_wp2_with fail
 refine(qX E (p+(n-1)) 1 v wr hz hl (by omega) HR.out (by omega)).mono ?_;rintro e w1 ⟨rfl,hR1,hK1⟩;rw[<-HG.out];have HR1:Hid (Rd w1 E (p+(n-1)+1) v):=hR1;have HK1:Hid (Kept E.S (.bool true) (.bool true) w w1):=HK.out.trans hK1;have hc1:uz w1 E v L cnt srt:=hcw.kept (hK1.weak v);have cd:=hc1.d;have cn:=hc1.c n (by omega);rw[<-HC.out] at cn;clear hR1 hK1 cs
 by_cases hlt:2*bn+g-2*fn<c
 ·exact absurd HE1.out (by rw[if_pos hlt];simp)
 have E2:=HE1.out;have hltZ:¬ 2*(bn:Int)+g-fn*2<c:=by omega
 rw[if_neg hlt] at E2;have HE2:Hid (_=none):=E2;have hpw:2 ^ (n+1-1)=2*2 ^ (n-1):=by rw[show n+1-1=(n-1)+1 from by omega,Wqv];omega
 have hb3:2*bn+g<2 ^ (n+1-1):=by omega
 have HP1:Hid (pn+c=below cnt (n+1)):=by show _=_;rw[vZ cnt n hn1,<-HC.out,<-HP.out]
 have hp4:pn+c<=400:=by have:=uX cnt (n+1) 16 (by omega);rw[<-HP1.out,hok.all] at this;have:=hok.len;omega
 clear E2 hpw HDn HD;go_wp2;go_roundw;case rel=>exact⟨n+1,2*bn+g,2*fn+c,pn+c,by omega,by omega,by go_num,by go_num,by go_num,by go_num,by omega,hb3,hp4,HP1,by show _=_;rw[show 16-(n+1)=15-n from by omega,show p+(n+1-1)=p+(n-1)+1 from by omega];exact HE2.out,by show Rd _ _ _ _;rw[show p+(n+1-1)=p+(n-1)+1 from by omega];exact HR1.out,HK1⟩
 case measure=>simp[intOf];omega
theorem zW {w:World} {B:Nat} {e:TypeId} {s:Nat} {v:Value} {n:Nat} {xs:List Value} (h:w.ownsRow B e s v n xs):∃ a cp,v=.slice a n cp:=by
 obtain⟨_,⟨rfl,rfl⟩ | ⟨g,cap,cur,rfl,_⟩⟩:=h
 ·exact⟨none,0,rfl⟩
 exact⟨_,cap,rfl⟩
theorem QK (E:Env) (nx hold held n k cp:Nat) (a:Option Addr) (w:World) (hm:E.most<=400000) (hk:k<=400000) (hn:n<=400000) (h0:0<=E.most) (h:Str w E nx hold held (.slice a k cp)) (hr:(n:Int)<=E.most-k) :
  Calls prog 149 #[.pointer (some ⟨E.S,0,none⟩),.int .i64 n] w fun e w'=>e=.returned (.tuple #[])/\∃ q,w'=w.drewN q:=by
 obtain⟨c0,c1,c2,c3,c4,c5,c6,fz,src,ibS,ibv,ibl,Sl,Sv⟩:=h;go_enter func149,ntmps149;go_wp2;go_quiet (fail);go_wp2;go_end0;exact⟨rfl,_,rfl⟩
theorem ZV (E:Env) (nx hold held n k cp:Nat) (a:Option Addr) (w:World) (hm:E.most<=400000) (hk:k<=400000) (hn:n<=400000) (h0:0<=E.most) (h:Str w E nx hold held (.slice a k cp)) (hr:¬ (n:Int)<=E.most-k) :
  Calls prog 149 #[.pointer (some ⟨E.S,0,none⟩),.int .i64 n] w fun e w'=>e=.panicked (j4 11)/\∃ q,w'=w.drewN q:=by
 obtain⟨c0,c1,c2,c3,c4,c5,c6,fz,src,ibS,ibv,ibl,Sl,Sv⟩:=h;go_enter func149,ntmps149;go_wp2;go_quiet (fail);go_wp2;exact⟨rfl,rfl,_,rfl⟩
def lenStart:List Nat:=[3,4,5,6,7,8,9,10,11,13,15,17,19,23,27,31,35,43,51,59,67,83,99,115,131,163,195,227,258]
def lenBits:List Nat:=[0,0,0,0,0,0,0,0,1,1,1,1,2,2,2,2,3,3,3,3,4,4,4,4,5,5,5,5,0]
def distStart:List Nat:=[1,2,3,4,5,7,9,13,17,25,33,49,65,97,129,193,257,385,513,769,1025,1537,2049,3073,4097,6145,8193,12289,16385,24577]
def distBits:List Nat:=[0,0,0,0,1,1,2,2,3,3,4,4,5,5,6,6,7,7,8,8,9,9,10,10,11,11,12,12,13,13]
def third:List Nat:=[16,17,18,0,8,7,9,6,10,5,11,4,12,3,13,2,14,1,15]
structure Qu (w:World) (E:Env) (v:Value):Prop where
 t2:∀ i,i<29->w.cell? ⟨1,i,none⟩=some (.int .i64 (lenStart.getD i 0:Nat))
 t3:∀ i,i<29->w.cell? ⟨2,i,none⟩=some (.int .i64 (lenBits.getD i 0:Nat))
 t4:∀ i,i<30->w.cell? ⟨3,i,none⟩=some (.int .i64 (distStart.getD i 0:Nat))
 t5:∀ i,i<30->w.cell? ⟨4,i,none⟩=some (.int .i64 (distBits.getD i 0:Nat))
 t6:∀ i,i<19->w.cell? ⟨6,i,none⟩=some (.int .i64 (third.getD i 0:Nat))
 a2:Apart w E v 1
 a3:Apart w E v 2
 a4:Apart w E v 3
 a5:Apart w E v 4
 a6:Apart w E v 6
theorem Qu.kept {w w':World} {E:Env} {v v':Value} (h:Qu w E v) (hk:Kept E.S v v' w w'):Qu w' E v' where
 t2 i hi:=(hk.cell (p:=⟨1,i,none⟩) h.a2.lt h.a2.neS h.a2.nev).trans (h.t2 i hi)
 t3 i hi:=(hk.cell (p:=⟨2,i,none⟩) h.a3.lt h.a3.neS h.a3.nev).trans (h.t3 i hi)
 t4 i hi:=(hk.cell (p:=⟨3,i,none⟩) h.a4.lt h.a4.neS h.a4.nev).trans (h.t4 i hi)
 t5 i hi:=(hk.cell (p:=⟨4,i,none⟩) h.a5.lt h.a5.neS h.a5.nev).trans (h.t5 i hi)
 t6 i hi:=(hk.cell (p:=⟨6,i,none⟩) h.a6.lt h.a6.neS h.a6.nev).trans (h.t6 i hi)
 a2:=h.a2.kept hk
 a3:=h.a3.kept hk
 a4:=h.a4.kept hk
 a5:=h.a5.kept hk
 a6:=h.a6.kept hk
theorem uJ:∀ i,i<30->lenStart.getD i 0<=258/\lenBits.getD i 0<=5/\distStart.getD i 0<=24577/\distBits.getD i 0<=13:=by decide
theorem Gx (E:Env) (p n:Nat) (v:Value) (w:World) (hz:IsB E.zs) (hl:E.zs.length<=400000) (h:Rd w E p v) (ht:Qu w E v) (hn:n<29) (hp:p+lenBits.getD n 0<=8*E.zs.length) :
  Calls prog 150 #[.pointer (some ⟨E.S,0,none⟩),.int .i64 n] w fun e w'=>e=.returned (.int .i64 (lenStart.getD n 0+zZ E.zs p (lenBits.getD n 0):Nat))/\Rd w' E (p+lenBits.getD n 0) v/\Kept E.S (.bool true) (.bool true) w w':=by
 have b1:lenStart.getD n 0<=258:=(uJ n (by omega)).1;have b2:lenBits.getD n 0<=5:=(uJ n (by omega)).2.1;have s2:=ht.t2 n hn;have s3:=ht.t3 n hn;obtain⟨x,HX⟩:=nn_ (lenStart.getD n 0);obtain⟨y,HY⟩:=nn_ (lenBits.getD n 0);rw[<-HX.out] at s2 b1 ⊢;rw[<-HY.out] at s3 b2 hp ⊢;have hn':(n:Int)<29:=by omega
 have gb:=y8 E.zs p y;have gp:=Z9 (show y<=16 by omega);go_enter func150,ntmps150;go_wp2
 go_region_held3 (fun w'=>w'.cell? ⟨1,n,none⟩=some (.int .i64 x)/\w'.cell? ⟨2,n,none⟩=some (.int .i64 y)) (go_keep) (first | (go_at_call 136;refine(qX E p y v _ hz hl (by omega) ?_ hp).mono ?_;(first | exact h | exact h.drewN _ | exact h.drew);rintro e w1 ⟨rfl,h1,k1⟩;have HR1:Hid (Rd w1 E (p+y) v):=h1;have d2:w1.cell? ⟨1,n,none⟩=some (.int .i64 x):=((k1.weak v).cell (p:=⟨1,n,none⟩) ht.a2.lt ht.a2.neS ht.a2.nev).trans s2;have d3:w1.cell? ⟨2,n,none⟩=some (.int .i64 y):=((k1.weak v).cell (p:=⟨2,n,none⟩) ht.a3.lt ht.a3.neS ht.a3.nev).trans s3;have HK1:Hid (Kept E.S (.bool true) (.bool true) w w1):=(by first | exact k1 | exact(Kept.refl _ _ _).drew.trans k1 | exact((Kept.refl _ _ _).drewN _).trans k1);clear k1 h1))
 all_goals
  go_wp2;go_ret;exact⟨TJ (by rw[<-Wqz];exact Plain.wrap_small (x+zZ E.zs p y) (by omega)),HR1.out,HK1.out⟩
theorem J7 (E:Env) (n:Nat) (w:World) (hn:29<=n) (hn2:n<=400) :
  Calls prog 150 #[.pointer (some ⟨E.S,0,none⟩),.int .i64 n] w fun e w'=>e=.panicked (j4 10)/\Kept E.S (.bool true) (.bool true) w w':=by
 have HK:Hid (Kept E.S (.bool true) (.bool true) w w):=Kept.refl _ _ _;go_enter func150,ntmps150;go_wp2;exact⟨rfl,rfl,HK.out⟩
theorem Kz (E:Env) (p n:Nat) (v:Value) (w:World) (hz:IsB E.zs) (hl:E.zs.length<=400000) (h:Rd w E p v) (ht:Qu w E v) (hn:n<29) (hp:8*E.zs.length<p+lenBits.getD n 0) :
  Calls prog 150 #[.pointer (some ⟨E.S,0,none⟩),.int .i64 n] w fun e w'=>e=.panicked (j4 10)/\Kept E.S (.bool true) (.bool true) w w':=by
 have b2:lenBits.getD n 0<=5:=(uJ n (by omega)).2.1;have s2:=ht.t2 n hn;have s3:=ht.t3 n hn;obtain⟨x,HX⟩:=nn_ (lenStart.getD n 0);obtain⟨y,HY⟩:=nn_ (lenBits.getD n 0);rw[<-HX.out] at s2;rw[<-HY.out] at s3 b2 hp;have hn':(n:Int)<29:=by omega
 go_enter func150,ntmps150;go_wp2
 go_region_with (first | (go_at_call 136;refine(y5 E p y v _ hz hl (by omega) ?_ hp).mono ?_;(first | exact h | exact h.drewN _ | exact h.drew);rintro e w1 ⟨rfl,k1⟩;have HK1:Hid (Kept E.S (.bool true) (.bool true) w w1):=(by first | exact k1 | exact(Kept.refl _ _ _).drew.trans k1 | exact((Kept.refl _ _ _).drewN _).trans k1);clear k1;refine ZK ⟨rfl,rfl,HK1.out⟩ ?_))
 all_goals exact trivial
theorem J8 (E:Env) (p n:Nat) (v:Value) (w:World) (hz:IsB E.zs) (hl:E.zs.length<=400000) (h:Rd w E p v) (ht:Qu w E v) (hn:n<30) (hp:p+distBits.getD n 0<=8*E.zs.length) :
  Calls prog 152 #[.pointer (some ⟨E.S,0,none⟩),.int .i64 n] w fun e w'=>e=.returned (.int .i64 (distStart.getD n 0+zZ E.zs p (distBits.getD n 0):Nat))/\Rd w' E (p+distBits.getD n 0) v/\Kept E.S (.bool true) (.bool true) w w':=by
 have b1:distStart.getD n 0<=24577:=(uJ n (by omega)).2.2.1;have b2:distBits.getD n 0<=13:=(uJ n (by omega)).2.2.2;have s2:=ht.t4 n hn;have s3:=ht.t5 n hn;obtain⟨x,HX⟩:=nn_ (distStart.getD n 0);obtain⟨y,HY⟩:=nn_ (distBits.getD n 0);rw[<-HX.out] at s2 b1 ⊢;rw[<-HY.out] at s3 b2 hp ⊢;have hn':(n:Int)<30:=by omega
 have gb:=y8 E.zs p y;have gp:=Z9 (show y<=16 by omega);go_enter func152,ntmps152;go_wp2
 go_region_held3 (fun w'=>w'.cell? ⟨3,n,none⟩=some (.int .i64 x)/\w'.cell? ⟨4,n,none⟩=some (.int .i64 y)) (go_keep) (first | (go_at_call 136;refine(qX E p y v _ hz hl (by omega) ?_ hp).mono ?_;(first | exact h | exact h.drewN _ | exact h.drew);rintro e w1 ⟨rfl,h1,k1⟩;have HR1:Hid (Rd w1 E (p+y) v):=h1;have d2:w1.cell? ⟨3,n,none⟩=some (.int .i64 x):=((k1.weak v).cell (p:=⟨3,n,none⟩) ht.a4.lt ht.a4.neS ht.a4.nev).trans s2;have d3:w1.cell? ⟨4,n,none⟩=some (.int .i64 y):=((k1.weak v).cell (p:=⟨4,n,none⟩) ht.a5.lt ht.a5.neS ht.a5.nev).trans s3;have HK1:Hid (Kept E.S (.bool true) (.bool true) w w1):=(by first | exact k1 | exact(Kept.refl _ _ _).drew.trans k1 | exact((Kept.refl _ _ _).drewN _).trans k1);clear k1 h1))
 all_goals
  go_wp2;go_ret;exact⟨TJ (by rw[<-Wqz];exact Plain.wrap_small (x+zZ E.zs p y) (by omega)),HR1.out,HK1.out⟩
theorem V3 (E:Env) (n:Nat) (w:World) (hn:30<=n) (hn2:n<=400) :
  Calls prog 152 #[.pointer (some ⟨E.S,0,none⟩),.int .i64 n] w fun e w'=>e=.panicked (j4 10)/\Kept E.S (.bool true) (.bool true) w w':=by
 have HK:Hid (Kept E.S (.bool true) (.bool true) w w):=Kept.refl _ _ _;go_enter func152,ntmps152;go_wp2;exact⟨rfl,rfl,HK.out⟩
theorem U2 (E:Env) (p n:Nat) (v:Value) (w:World) (hz:IsB E.zs) (hl:E.zs.length<=400000) (h:Rd w E p v) (ht:Qu w E v) (hn:n<30) (hp:8*E.zs.length<p+distBits.getD n 0) :
  Calls prog 152 #[.pointer (some ⟨E.S,0,none⟩),.int .i64 n] w fun e w'=>e=.panicked (j4 10)/\Kept E.S (.bool true) (.bool true) w w':=by
 have b2:distBits.getD n 0<=13:=(uJ n (by omega)).2.2.2;have s2:=ht.t4 n hn;have s3:=ht.t5 n hn;obtain⟨x,HX⟩:=nn_ (distStart.getD n 0);obtain⟨y,HY⟩:=nn_ (distBits.getD n 0);rw[<-HX.out] at s2;rw[<-HY.out] at s3 b2 hp;have hn':(n:Int)<30:=by omega
 go_enter func152,ntmps152;go_wp2
 go_region_with (first | (go_at_call 136;refine(y5 E p y v _ hz hl (by omega) ?_ hp).mono ?_;(first | exact h | exact h.drewN _ | exact h.drew);rintro e w1 ⟨rfl,k1⟩;have HK1:Hid (Kept E.S (.bool true) (.bool true) w w1):=(by first | exact k1 | exact(Kept.refl _ _ _).drew.trans k1 | exact((Kept.refl _ _ _).drewN _).trans k1);clear k1;refine ZK ⟨rfl,rfl,HK1.out⟩ ?_))
 all_goals exact trivial
theorem grownBy_setCell (w:World) (S i:Nat) (u:Value):w.grownBy (w.setCell ⟨S,i,none⟩ u) (some S) :=
 ⟨rfl,rfl,rfl,by simp[World.setCell],fun k _ hne=>Below.heap_setCell w ⟨S,i,none⟩ u k (fun e=>hne (by rw[e]))⟩
theorem QV (w:World) (o:Obj) (row:Option Nat):w.grownBy (w.alloc o).drew row:=let h:=World.grownBy_alloc w o row;⟨h.os,h.tape,h.output,h.size,h.block⟩
theorem uq {w:World} {B:Nat} {e:TypeId} {s:Nat} {v:Value} {n:Nat} {xs:List Value} (h:w.ownsRow B e s v n xs) (S i:Nat) (u:Value) (hne:some S ≠ v.ownBlock):(w.setCell ⟨S,i,none⟩ u).ownsRow B e s v n xs :=
 h.kept (grownBy_setCell w S i u) (.inr (Ne.symm hne))
theorem Str.grow {w wx w3:World} {E:Env} {nx hold held:Nat} {v:Value} (h:Str w E nx hold held v) (hx:w.grownBy wx none) (hg:wx.grownBy w3 v.ownBlock) (vn:Value) (gn:Nat) (hvn:vn.ownBlock=some gn)
  (hat:v.ownBlock=some gn ∨ gn=wx.heap.size):Str (w3.setCell ⟨E.S,4,none⟩ vn) E nx hold held vn/\Kept E.S v vn w (w3.setCell ⟨E.S,4,none⟩ vn):=by
 have hs1:=hx.size;have hs2:=hg.size;have hS:=h.Sl;have hI:=h.ibl;have blk:∀ k,k<w.heap.size->some k ≠ v.ownBlock->w3.heap[k]? = w.heap[k]? := fun k hk hne =>
  (hg.block k (by omega) hne).trans (hx.block k hk (by simp))
 have cellS:∀ i,w3.cell? ⟨E.S,i,none⟩=w.cell? ⟨E.S,i,none⟩:=fun i=>World.cell?_of_block (a:=⟨E.S,i,none⟩) (blk E.S hS h.Sv);have frS:∀ i,w3.frozen? ⟨E.S,i,none⟩=w.frozen? ⟨E.S,i,none⟩:=fun i=>World.frozen?_of_block (a:=⟨E.S,i,none⟩) (blk E.S hS h.Sv);have offn:∀ k,k<w.heap.size->some k ≠ v.ownBlock->some k ≠ vn.ownBlock:=fun k hk hne e=>by
  rw[hvn] at e;rcases hat with e' | e'
  ·exact hne (e.trans e'.symm)
  simp only[Wq9.injEq] at e;omega
 refine⟨⟨?_,?_,?_,?_,?_,?_,?_,?_,?_,h.ibS,offn _ hI h.ibv,?_,?_,offn _ hS h.Sv⟩,?_⟩
 ·rw[z8 _ (by omega),cellS];exact h.c0
 ·rw[z8 _ (by omega),cellS];exact h.c1
 ·rw[z8 _ (by omega),cellS];exact h.c2
 ·rw[z8 _ (by omega),cellS];exact h.c3
 ·exact World.cell?_setCell_same _ _ _ ((cellS 4).trans h.c4)
 ·rw[z8 _ (by omega),cellS];exact h.c5
 ·rw[z8 _ (by omega),cellS];exact h.c6
 ·intro i;rw[World.frozen?_setCell,frS];exact h.fz i
 ·refine YY (fun j hj=>?_) h.ibS _;rw[World.cell?_of_block (a:=⟨E.ib,E.io+j,none⟩) (blk E.ib hI h.ibv)];exact h.src j hj
 ·simp[World.setCell];omega
 ·simp[World.setCell];omega
 refine⟨hg.os.trans hx.os,hg.tape.trans hx.tape,hg.output.trans hx.output,?_,fun k h1 h2 h3=>(Below.heap_setCell w3 _ vn k h2).trans (blk k h1 h3),?_⟩
 ·simp[World.setCell];omega
 rcases hat with e | e
 ·exact .inl (hvn.trans e.symm)
 exact .inr fun k hk=>by rw[hvn] at hk;simp only[Wq9.injEq] at hk;omega
theorem Str.grow_cell {w wx w3:World} {E:Env} {nx hold held:Nat} {v:Value} (h:Str w E nx hold held v) (hx:w.grownBy wx none) (hg:wx.grownBy w3 v.ownBlock) (i:Nat):w3.cell? ⟨E.S,i,none⟩=w.cell? ⟨E.S,i,none⟩/\w3.frozen? ⟨E.S,i,none⟩=false:=by
 have hs1:=hx.size;have hS:=h.Sl;have blk:w3.heap[E.S]? = w.heap[E.S]? := (hg.block E.S (by omega) h.Sv).trans (hx.block E.S hS (by simp));exact⟨World.cell?_of_block (a:=⟨E.S,i,none⟩) blk,(World.frozen?_of_block (a:=⟨E.S,i,none⟩) blk).trans (h.fz i)⟩
def rep (out:List Int) (d:Nat):Nat->List Int
 | 0=>out
 | n+1=>rep (out++[out.getD (out.length-d) 0]) d n
theorem zq9 {w:World} {B g n cp:Nat} {k:IntKind} {e:TypeId} {out:List Int} (h:w.ownsRow B e 1 (.slice (some ⟨g,0,none⟩) n cp) n (out.map (Value.int k))) (hn:out.length=n) (q:Nat) (hq:q<n):w.cell? ⟨g,q,none⟩=some (.int k (out.getD q 0)):=by
 rw[h.cellAt q (by omega),List.getElem?_map,List.getElem?_eq_getElem (by omega)];simp[hn ▸ hq]
structure St (w:World) (E:Env) (B p:Nat) (v:Value) (out:List Int):Prop where
 rd:Rd w E p v
 own:w.ownsRow B 5 1 v out.length (out.map (Value.int .u8))
 isB:IsB out
 hB:B<=w.heap.size
 le:(out.length:Int)<=E.most
theorem St.len {w:World} {E:Env} {B p:Nat} {v:Value} {out:List Int} (h:St w E B p v out) (hm:E.most<=400000):out.length<=400000:=by have:=h.le;omega
end Go.Proofs.YtiaaekdpfpaigaaGreatDoor.Df
