import Derived.Test.YtiaaekdpfpaigaaGreatDoorMn08
import Derived.Deep.OwnRows
import Derived.Test.YtiaaekdpfpaigaaGreatDoorMn01
set_option linter.unusedSimpArgs false
set_option linter.unusedVariables false
set_option maxRecDepth 20000
set_option maxHeartbeats 4000000
open Int renaming emod_nonneg->Wyy,tmod_eq_emod_of_nonneg->Wyu,toNat_of_nonneg->WyZ
open List renaming append_assoc->Wz1,getElem_mem->Wz5,length_append->Wz6,length_drop->Wz8,replicate->WqV
open Nat renaming add_assoc->WzQ,le_of_eq->WyQ,le_refl->WzV,le_trans->Wqx,lt_or_ge->WzW,pow_succ->Wqv
open Option renaming some->Wq9
namespace Go.Proofs.YtiaaekdpfpaigaaGreatDoor.Df
open Go.Proofs.Tryz
open Go.RowKit Plain
theorem XX (w:World) (a b:Nat):(w.drewN a).drewN b=w.drewN (a+b):=by simp[World.drewN,WzQ]
theorem zy5 (F ib io cap:Nat) (zs:List Int) (p q most:Nat) (w:World) (hF:w.cell? ⟨F,0,none⟩=some (.slice (some ⟨ib,io,none⟩) zs.length cap)) (hat:At w ib io zs) (hl:zs.length<=400000) (hp:p+most<=zs.length) (hq:q+most<=zs.length) :
  Calls prog 54 #[.pointer (some ⟨F,0,none⟩),.int .i64 p,.int .i64 q,.int .i64 most] w fun ev w'=>∃ n nq:Nat,n<=most/\ev=.returned (.int .i64 n)/\w'=w.drewN nq/\(∀ i,i<n->zs.getD (p+i) 0=zs.getD (q+i) 0)/\(n<most->zs.getD (p+n) 0 ≠ zs.getD (q+n) 0):=by
 have HAT:Hid (At w ib io zs):=hat
 clear hat
 go_enter func54,ntmps54;go_wp2_with fail
 go_loopg [9] most (fun k i wr=>∃ j d:Nat,j<=most/\i=.int .i64 j/\k=most-j/\wr=w.drewN d/\Hid (∀ i,i<j->zs.getD (p+i) 0=zs.getD (q+i) 0));case atStart=>exact⟨0,0,by omega,rfl,by omega,rfl,fun i hi=>absurd hi (by omega)⟩
 obtain⟨j,d,hj,rfl,hk,rfl,HE⟩:=hrel;by_cases hjm:j<most;rotate_left
 ·obtain rfl:j=most:=by omega
  have hjZ:decide ((j:Int)<(j:Int))=false:=by simp
  go_wp2_with fail
  go_quiet (fail);go_wp2;go_ret;exact⟨j,d+nq,WzV _,rfl,by first | rfl | exact XX w d nq,HE.out,fun h=>absurd h (by omega)⟩
 obtain⟨x,HX⟩:=nn_ (zs.getD (p+j) 0);obtain⟨y,HY⟩:=nn_ (zs.getD (q+j) 0);have cx:w.cell? ⟨ib,io+(p+j),none⟩=some (.int .u8 x):=by rw[HX.out];exact HAT.out (p+j) (by omega)
 have cy:w.cell? ⟨ib,io+(q+j),none⟩=some (.int .u8 y):=by rw[HY.out];exact HAT.out (q+j) (by omega)
 have hjZ:(j:Int)<most:=by omega
 by_cases hxy:x=y
 ·have HE2:Hid (∀ i,i<j+1->zs.getD (p+i) 0=zs.getD (q+i) 0):=fun i hi=>by
   by_cases e:i=j
   ·rw[e,<-HX.out,<-HY.out,hxy]
   exact HE.out i (by omega)
  clear HX HY;subst hxy;go_wp2_with fail
  go_quiet (fail);go_wp2;go_roundg (most-(j+1));case measure=>omega
  case rel=>exact⟨j+1,d+nq,by omega,by go_num,rfl,by first | rfl | exact XX w d nq,HE2.out⟩
 have hxy':(x == y)=false:=by simpa using hxy
 have HNE:Hid (zs.getD (p+j) 0 ≠ zs.getD (q+j) 0):=by show _ ≠ _;rw[<-HX.out,<-HY.out];exact hxy
 clear HX HY;go_wp2_with fail
 go_quiet (fail);go_wp2;go_ret;exact⟨j,d+nq,by omega,rfl,by first | rfl | exact XX w d nq,HE.out,fun _=>HNE.out⟩
def Nof (m n:Nat):Prop:=(m<=n ∨ n=32768)/\(n=1 ∨ n<2*m)/\∃ e,n=2 ^ e
def uu (l d:Nat):Bool:=decide (3<l) || (decide (l=3) && decide (d<=4096))
theorem Ow (l d:Nat) (w:World):Calls prog 29 #[.int .i64 l,.int .i64 d] w fun ev w'=>ev=.returned (.bool (uu l d))/\w'=w:=by
 obtain⟨R,HR⟩:=nn_ (uu l d);rw[<-HR.out];by_cases h1:3<l
 ·have h1Z:(3:Int)<l:=by omega
  have hR:R=true:=by rw[HR.out];unfold uu;simp[h1]
  go_enter func29,ntmps29;go_wp2;go_ret;exact⟨by first | rfl | (rw[hR];first | done | rfl),rfl⟩
 have h1Z:¬ (3:Int)<l:=by omega
 by_cases h2:l=3
 ·subst h2;by_cases h3:d<=4096
  ·have h3Z:(d:Int)<=4096:=(by omega);have hR:R=true:=(by rw[HR.out];unfold uu;simp[h3]);go_enter func29,ntmps29;go_wp2;go_ret;exact⟨by first | rfl | (rw[hR];first | done | rfl),rfl⟩
  have h3Z:¬ (d:Int)<=4096:=by omega
  have hR:R=false:=by rw[HR.out];unfold uu;simp[h3]
  go_enter func29,ntmps29;go_wp2;go_ret;exact⟨by first | rfl | (rw[hR];first | done | rfl),rfl⟩
 have h2Z:¬ (l:Int)=3:=by omega
 have hR:R=false:=by rw[HR.out];unfold uu;simp[h1,h2]
 go_enter func29,ntmps29;go_wp2;go_ret;exact⟨by first | rfl | (rw[hR];first | done | rfl),rfl⟩
def hsh (x y z:Int) (n:Nat):Nat:=(bits .or .u32 (bits .or .u32 (x % 4294967296) (y % 4294967296*256 % 4294967296)) (z % 4294967296*65536 % 4294967296)*2654435761 % 4294967296 / 65536 % (n:Int)).toNat
theorem zy6 (x y z:Int) {n:Nat} (hn:0<n):hsh x y z n<n:=by
 unfold hsh;generalize bits .or .u32 (bits .or .u32 (x % 4294967296) (y % 4294967296*256 % 4294967296)) (z % 4294967296*65536 % 4294967296)*2654435761 % 4294967296 / 65536=A;have h1:=Wyy A (show (n:Int) ≠ 0 by omega);have h2:=Int.emod_lt_of_pos A (show (0:Int)<n by omega);omega
def Yq (zs:List Int) (n p:Nat):Nat:=hsh (zs.getD p 0) (zs.getD (p+1) 0) (zs.getD (p+2) 0) n
theorem zy7 (F ib io cap:Nat) (zs:List Int) (p n cp:Nat) (ac:Option Addr) (w:World) (hF:w.cell? ⟨F,0,none⟩=some (.slice (some ⟨ib,io,none⟩) zs.length cap)) (hC:w.cell? ⟨F,1,none⟩=some (.slice ac (n:Nat) cp)) (hat:At w ib io zs) (hl:zs.length<=400000) (hp:p+3<=zs.length) (hn:0<n) (hn2:n<=400000) :
  Calls prog 53 #[.pointer (some ⟨F,0,none⟩),.int .i64 p] w fun ev w'=>ev=.returned (.int .i64 (Yq zs n p:Nat))/\∃ nq:Nat,w'=w.drewN nq:=by
 obtain⟨x,HX⟩:=nn_ (zs.getD p 0);obtain⟨y,HY⟩:=nn_ (zs.getD (p+1) 0);obtain⟨z,HZ⟩:=nn_ (zs.getD (p+2) 0);have cx:w.cell? ⟨ib,io+p,none⟩=some (.int .u8 x):=by rw[HX.out];exact hat p (by omega)
 have cy:w.cell? ⟨ib,io+(p+1),none⟩=some (.int .u8 y):=by rw[HY.out];exact hat (p+1) (by omega)
 have cz:w.cell? ⟨ib,io+(p+2),none⟩=some (.int .u8 z):=by rw[HZ.out];exact hat (p+2) (by omega)
 have hp0:(p:Int)<zs.length:=by omega
 have hp1:(p:Int)+1<zs.length:=by omega
 have hp2:(p:Int)+2<zs.length:=by omega
 have hn0:¬ ((n:Int)=0):=by omega
 clear hat
 go_enter func53,ntmps53;go_wp2_with fail
 go_quiet (fail);go_wp2;go_ret;have key:∀ A:Int,Ending.returned (Value.int IntKind.i64 (A % (n:Int)))=Ending.returned (Value.int IntKind.i64 ((A % (n:Int)).toNat:Nat)):=fun A=>by rw[WyZ (Wyy A hn0)]
 refine⟨?_,nq,rfl⟩;unfold Yq;rw[<-HX.out,<-HY.out,<-HZ.out];exact key _
structure Fin (w:World) (F C A ib io cap n:Nat) (zs:List Int) (ch ah:List Nat):Prop where
 f0:w.cell? ⟨F,0,none⟩=some (.slice (some ⟨ib,io,none⟩) zs.length cap)
 f1:w.cell? ⟨F,1,none⟩=some (.slice (some ⟨C,0,none⟩) (n:Nat) n)
 f2:w.cell? ⟨F,2,none⟩=some (.slice (some ⟨A,0,none⟩) (n:Nat) n)
 c:w.heap[C]? = some (.cells (arr ch).toArray 3 (0,0))
 a:w.heap[A]? = some (.cells (arr ah).toArray 3 (0,0))
 cl:ch.length=n
 al:ah.length=n
 src:At w ib io zs
 FC:F ≠ C
 FA:F ≠ A
 CA:C ≠ A
 iC:ib ≠ C
 iA:ib ≠ A
theorem zy8 (n:Nat):madeCells #[.int .i64 0] n=(arr (WqV n 0)).toArray:=by
 apply Array.ext';rw[toList_madeCells_one];simp[arr]
def MK (w:World) (ib io cap n C A:Nat) (zs:List Int) (R:Array Value):World :=
 (((w.alloc (Obj.cells R 3)).alloc (Obj.cells R 3)).alloc (Obj.cells #[.slice (some ⟨ib,io,none⟩) zs.length cap,.slice (some ⟨C,0,none⟩) n n,.slice (some ⟨A,0,none⟩) n n] 127)).drew
theorem XJ (w:World) (ib io cap n C A:Nat) (zs:List Int) (R:Array Value):Below w.heap.size w (MK w ib io cap n C A zs R) :=
 have h:=(((Below.refl _ w).alloc (WzV _) (Obj.cells R 3)).alloc (by simp) (Obj.cells R 3)).alloc (by simp;omega) (Obj.cells #[.slice (some ⟨ib,io,none⟩) zs.length cap,.slice (some ⟨C,0,none⟩) n n,.slice (some ⟨A,0,none⟩) n n] 127)
 ⟨h.os,h.tape,h.output,h.size,h.block⟩
theorem Fq (w:World) (ib io cap n C A:Nat) (zs:List Int) (R:Array Value) (hR:R=(arr (WqV n 0)).toArray) (hat:At w ib io zs) (hib:ib<w.heap.size) (hCA:(C=w.heap.size/\A=w.heap.size+1) ∨ (C=w.heap.size+1/\A=w.heap.size)) :
  Fin (MK w ib io cap n C A zs R) (w.heap.size+1+1) C A ib io cap n zs (WqV n 0) (WqV n 0)/\(MK w ib io cap n C A zs R).heap.size=w.heap.size+3:=by
 have hb:=XJ w ib io cap n C A zs R;have h0:(MK w ib io cap n C A zs R).heap[w.heap.size]? = some (.cells R 3 (0,0)):=by show (((w.heap.push _).push _).push _)[_]? = _;rw[Array.getElem?_push,if_neg (by simp;omega),Array.getElem?_push,if_neg (by simp),Array.getElem?_push,if_pos rfl]
 have h1:(MK w ib io cap n C A zs R).heap[w.heap.size+1]? = some (.cells R 3 (0,0)):=by show (((w.heap.push _).push _).push _)[_]? = _;rw[Array.getElem?_push,if_neg (by simp),Array.getElem?_push,if_pos (by simp)]
 refine⟨⟨by simp[MK,go_sem],by simp[MK,go_sem],by simp[MK,go_sem],?_,?_,by simp,by simp,fun i hi=>(hb.cell (p:=⟨ib,io+i,none⟩) hib).trans (hat i hi),by omega,by omega,by omega,by omega,by omega⟩,by show (((w.heap.push _).push _).push _).size=_;simp⟩
 ·rw[<-hR];rcases hCA with ⟨rfl,rfl⟩ | ⟨rfl,rfl⟩ <;> assumption
 rw[<-hR];rcases hCA with ⟨rfl,rfl⟩ | ⟨rfl,rfl⟩ <;> assumption
theorem MV (ib io cap:Nat) (zs:List Int) (w:World) (hat:At w ib io zs) (hib:ib<w.heap.size) (hl:zs.length<=400000) :
  Calls prog 27 #[.slice (some ⟨ib,io,none⟩) zs.length cap] w fun ev w'=>∃ F C A n:Nat,ev=.returned (.pointer (some ⟨F,0,none⟩))/\1<=n/\n<=32768/\Nof zs.length n/\Fin w' F C A ib io cap n zs (WqV n 0) (WqV n 0)/\Below w.heap.size w w'/\w.heap.size<=F/\w.heap.size<=C/\w.heap.size<=A/\F<w'.heap.size/\C<w'.heap.size/\A<w'.heap.size:=by
 obtain⟨i3,hi,hz0,hz1,hz2⟩:=info_parts info3;have HAT:Hid _:=hat
 have HIB:Hid _:=hib;clear hat hib;go_enter func27,ntmps27;go_wp2_with fail
 go_loopg [3] 15 (fun k s wr=>∃ e:Nat,e<=15/\s=.int .i64 ((2 ^ e:Nat):Int)/\k=15-e/\wr=w/\Hid (e=0 ∨ 2 ^ e<2*zs.length));case atStart=>exact⟨0,by omega,rfl,by omega,rfl,Or.inl rfl⟩
 obtain⟨e,he,rfl,hk,rfl,HLW⟩:=hrel;obtain⟨n,HN⟩:=nn_ (2 ^ e:Nat);have hn1:1<=n:=by rw[HN.out];exact Nat.two_pow_pos e
 have hn2:n<=32768:=by rw[HN.out];exact Nat.pow_le_pow_right (n:=2) (j:=15) (by omega) he
 rw[<-HN.out];by_cases hc:n<zs.length/\n<32768
 ·have h1Z:(n:Int)<zs.length:=by omega
  have h2Z:(n:Int)<32768:=by omega
  have he15:e<15:=by
   rcases WzW e 15 with h | h
   ·exact h
   have h15:e=15:=(by omega);have h3:=HN.out;rw[h15] at h3;omega
  go_wp2_with fail
  go_roundg (15-(e+1));case measure=>omega
  case rel=>exact⟨e+1,by omega,by rw[Wqv,<-HN.out];first | rfl | (congr 1;push_cast;omega),rfl,rfl,Or.inr (by rw[Wqv,<-HN.out];omega)⟩
 have HE:Hid (Nof zs.length n):=show Nof zs.length n from ⟨by omega,HLW.out.elim (fun h=>.inl (by rw[HN.out,h])) (fun h=>.inr (by rw[HN.out];exact h)),e,HN.out⟩;clear HLW;have hmk:∀ w:World,(Instr.makeSlice 23 (.int .i64 n) (.int .i64 n)).run prog w=.ok (.slice (some ⟨w.heap.size,0,none⟩) n n) (w.alloc (.cells (arr (WqV n 0)).toArray 3)):=fun w=>by
  rw[<-zy8];exact run_make_row 23 3 i3 _ underlying23 hi hz0 hz1 rfl .i64 .i64 n (by rw[hz2];omega) (by omega) w
 obtain⟨R,HR⟩:=nn_ ((arr (WqV n 0)).toArray);rw[<-HR.out] at hmk;have hcc:((n:Int)<zs.length/\¬ (n:Int)<32768) ∨ ¬ (n:Int)<zs.length:=by omega
 rcases hcc with ⟨h1Z,h2Z⟩ | h1Z;all_goals
  go_wp2_with fail
  clear h1Z HN hk he;go_region;all_goals
   go_wp2;go_ret;first
    | exact⟨wr.heap.size+1+1,wr.heap.size,wr.heap.size+1,n,rfl,hn1,hn2,HE.out,(Fq wr ib io cap n wr.heap.size (wr.heap.size+1) zs R HR.out HAT.out HIB.out (.inl ⟨rfl,rfl⟩)).1,XJ wr ib io cap n wr.heap.size (wr.heap.size+1) zs R,by omega,by omega,by omega,by simp,by simp;omega,by simp⟩
    | exact⟨wr.heap.size+1+1,wr.heap.size+1,wr.heap.size,n,rfl,hn1,hn2,HE.out,(Fq wr ib io cap n (wr.heap.size+1) wr.heap.size zs R HR.out HAT.out HIB.out (.inr ⟨rfl,rfl⟩)).1,XJ wr ib io cap n (wr.heap.size+1) wr.heap.size zs R,by omega,by omega,by omega,by simp,by simp,by simp;omega⟩
structure Off (C A:Nat) (w w':World):Prop where
 os:w'.os=w.os
 tape:w'.tape=w.tape
 output:w'.output=w.output
 size:w'.heap.size=w.heap.size
 block:∀ k,k ≠ C->k ≠ A->w'.heap[k]? = w.heap[k]?
theorem Off.refl (C A:Nat) (w:World):Off C A w w:=⟨rfl,rfl,rfl,rfl,fun _ _ _=>rfl⟩
theorem Off.trans {C A:Nat} {w w' w'':World} (h:Off C A w w') (k:Off C A w' w''):Off C A w w'':=⟨k.os.trans h.os,k.tape.trans h.tape,k.output.trans h.output,k.size.trans h.size,fun i h1 h2=>(k.block i h1 h2).trans (h.block i h1 h2)⟩
theorem Off.drewN (C A:Nat) (w:World) (q:Nat):Off C A w (w.drewN q):=⟨rfl,rfl,rfl,rfl,fun _ _ _=>rfl⟩
theorem Off.set {C A:Nat} {w w':World} (h:Off C A w w') {g:Nat} (hg:g=C ∨ g=A) (i:Nat) (v:Value):Off C A w (w'.setCell ⟨g,i,none⟩ v) :=
 ⟨h.os,h.tape,h.output,by rw[<-h.size];simp[World.setCell],fun k h1 h2=>(heap_setCell_other w' _ _ _ (by rcases hg with rfl | rfl <;> assumption)).trans (h.block k h1 h2)⟩
theorem Off.drew {C A:Nat} {w w':World} (h:Off C A w w'):Off C A w w'.drew:=⟨h.os,h.tape,h.output,h.size,h.block⟩
theorem Off.cell {C A:Nat} {w w':World} (h:Off C A w w') {p:Addr} (h1:p.block ≠ C) (h2:p.block ≠ A):w'.cell? p=w.cell? p:=World.cell?_of_block (h.block _ h1 h2)
theorem Off.frozen {C A:Nat} {w w':World} (h:Off C A w w') {p:Addr} (h1:p.block ≠ C) (h2:p.block ≠ A):w'.frozen? p=w.frozen? p:=World.frozen?_of_block (h.block _ h1 h2)
theorem Fin.off {w w':World} {F C A ib io cap n:Nat} {zs:List Int} {ch ah ch' ah':List Nat} (h:Fin w F C A ib io cap n zs ch ah) (ho:Off C A w w') (hc:w'.heap[C]? = some (.cells (arr ch').toArray 3 (0,0))) (ha:w'.heap[A]? = some (.cells (arr ah').toArray 3 (0,0))) (hcl:ch'.length=ch.length) (hal:ah'.length=ah.length):Fin w' F C A ib io cap n zs ch' ah' :=
 ⟨(ho.cell (p:=⟨F,0,none⟩) h.FC h.FA).trans h.f0,(ho.cell (p:=⟨F,1,none⟩) h.FC h.FA).trans h.f1,(ho.cell (p:=⟨F,2,none⟩) h.FC h.FA).trans h.f2,hc,ha,hcl.trans h.cl,hal.trans h.al,fun i hi=>(ho.cell (p:=⟨ib,io+i,none⟩) h.iC h.iA).trans (h.src i hi),h.FC,h.FA,h.CA,h.iC,h.iA⟩
theorem Fin.drewN {w:World} {F C A ib io cap n:Nat} {zs:List Int} {ch ah:List Nat} (h:Fin w F C A ib io cap n zs ch ah) (q:Nat):Fin (w.drewN q) F C A ib io cap n zs ch ah:=⟨h.f0,h.f1,h.f2,h.c,h.a,h.cl,h.al,h.src,h.FC,h.FA,h.CA,h.iC,h.iA⟩
def MW (zs:List Int) (n:Nat) (ch:List Nat) (p:Nat):List Nat:=if zs.length-p<3 then ch else ch.set (Yq zs n p) (p+1)
def MY (zs:List Int) (n:Nat) (ch ah:List Nat) (p:Nat):List Nat:=if zs.length-p<3 then ah else ah.set (p % n) (ch.getD (Yq zs n p) 0)
theorem qq8 (F C A ib io cap n:Nat) (zs:List Int) (ch ah:List Nat) (p:Nat) (w:World) (h:Fin w F C A ib io cap n zs ch ah) (hn:0<n) (hn2:n<=32768) (hl:zs.length<=400000) (hp:p<=zs.length) (hcb:∀ x ∈ ch,x<=400000) :
  Calls prog 32 #[.pointer (some ⟨F,0,none⟩),.int .i64 p] w fun ev w'=>ev=.returned (.tuple #[])/\Fin w' F C A ib io cap n zs (MW zs n ch p) (MY zs n ch ah p)/\Off C A w w':=by
 have HF:Hid _:=h;have f0:=h.f0;by_cases h3:zs.length-p<3
 ·have h3Z:(zs.length:Int)-p<3:=by omega
  have HC:Hid (MW zs n ch p=ch):=by show _=_;unfold MW;rw[if_pos h3]
  have HA:Hid (MY zs n ch ah p=ah):=by show _=_;unfold MY;rw[if_pos h3]
  clear h;go_enter func32,ntmps32;go_wp2_with fail
  exact bodyPost_ret (results_none (by rfl) _ _ _) rfl ⟨rfl,by rw[HC.out,HA.out];exact HF.out,Off.refl _ _ _⟩
 have h3Z:¬ (zs.length:Int)-p<3:=by omega
 have HC:Hid (MW zs n ch p=ch.set (Yq zs n p) (p+1)):=by show _=_;unfold MW;rw[if_neg h3]
 have HA:Hid (MY zs n ch ah p=ah.set (p % n) (ch.getD (Yq zs n p) 0)):=by show _=_;unfold MY;rw[if_neg h3]
 have H1:=zy7 F ib io cap zs p n n (some ⟨C,0,none⟩) w h.f0 h.f1 h.src hl (by omega) hn (by omega);have hhl:Yq zs n p<n:=zy6 _ _ _ hn;obtain⟨hh,HHH⟩:=nn_ (Yq zs n p);obtain⟨r,HR⟩:=nn_ (p % n);have hr:r<n:=by rw[HR.out];exact Nat.mod_lt _ hn
 rw[<-HHH.out] at H1 hhl HC HA;rw[<-HR.out] at HA;have hrZ:(p:Int) % (n:Int)=(r:Int):=by rw[HR.out];omega
 have f1:=h.f1;have f2:=h.f2;have cc:=zy h.c hh (by rw[h.cl];exact hhl);obtain⟨x,HX⟩:=nn_ (ch.getD hh 0);rw[<-HX.out] at cc HA;have ca:=zy h.a r (by rw[h.al];exact hr);have fa:=frozen_of_row w A r _ 3 h.a;have hhZ:(hh:Int)<n:=by omega
 have hrZ2:(r:Int)<n:=by omega
 have hn0:¬ (n=0):=by omega
 have hrT:(p:Int).tmod (n:Int)=(r:Int):=by rw[Wyu (by omega)];exact hrZ
 clear h;go_enter func32,ntmps32;go_wp2_with (go_at_call 53;refine H1.mono ?_;clear H1;rintro ev w1 ⟨rfl,nq,rfl⟩)
 refine x6 19 (by kernel_rfl) (by kernel_rfl) ?_;iterate 19 (refine yK rfl (fun K hK=>?_);go_simp;refine hK _ ?_;clear hK K)
 refine wpStill_nil ?_;have HO1:Hid (Off C A w ((w.drewN (nq+1)).setCell ⟨A,r,none⟩ (.int .i64 x))):=(Off.drewN C A w (nq+1)).set (.inr rfl) r _;have HA1:Hid (((w.drewN (nq+1)).setCell ⟨A,r,none⟩ (.int .i64 x)).heap[A]? = some (.cells (arr (ah.set r x)).toArray 3 (0,0))):=by
  show _=_;rw[heap_setCell_same (w.drewN (nq+1)) A r _ 3 _ HF.out.a,jy]
 have HC1:Hid (((w.drewN (nq+1)).setCell ⟨A,r,none⟩ (.int .i64 x)).heap[C]? = some (.cells (arr ch).toArray 3 (0,0))):=(heap_setCell_other _ _ _ _ HF.out.CA).trans HF.out.c;have g1:((w.drewN (nq+1)).setCell ⟨A,r,none⟩ (.int .i64 x)).cell? ⟨F,1,none⟩=some (.slice (some ⟨C,0,none⟩) (n:Nat) n):=(HO1.out.cell (p:=⟨F,1,none⟩) HF.out.FC HF.out.FA).trans f1
 have gc:((w.drewN (nq+1)).setCell ⟨A,r,none⟩ (.int .i64 x)).cell? ⟨C,hh,none⟩=some (.int .i64 (ch.getD hh 0:Nat)):=zy HC1.out hh (by rw[HF.out.cl];exact hhl);have gf:((w.drewN (nq+1)).setCell ⟨A,r,none⟩ (.int .i64 x)).frozen? ⟨C,hh,none⟩=false:=frozen_of_row _ C hh _ 3 HC1.out;obtain⟨W1,HW1⟩:=nn_ ((w.drewN (nq+1)).setCell ⟨A,r,none⟩ (.int .i64 x))
 have hW1:(w.drewN (nq+1)).setCell ⟨A,r,none⟩ (.int .i64 x)=W1:=HW1.out.symm;rw[hW1] at HO1 HA1 HC1 g1 gc gf;go_wp2_with fail
 go_end0;refine⟨rfl,?_,HO1.out.set (.inl rfl) hh _⟩;rw[HC.out,HA.out];refine HF.out.off (HO1.out.set (.inl rfl) hh _) ?_ ?_ (by simp) (by simp)
 ·refine(heap_setCell_same _ C hh _ 3 _ HC1.out).trans ?_;rw[<-jy];rfl
 exact(heap_setCell_other _ _ _ _ (Ne.symm HF.out.CA)).trans HA1.out
def com (zs:List Int) (p q:Nat):Nat->Nat->Nat
 | 0,i=>i
 | f+1,i=>if zs.getD (p+i) 0=zs.getD (q+i) 0 then com zs p q f (i+1) else i
theorem zy9 {zs:List Int} {p q most m:Nat} (hm:m<=most) (h1:∀ i,i<m->zs.getD (p+i) 0=zs.getD (q+i) 0) (h2:m<most->zs.getD (p+m) 0 ≠ zs.getD (q+m) 0):∀ f i,i+f=most->i<=m->com zs p q f i=m
 | 0,i,h,hi=>by rw[com];omega
 | f+1,i,h,hi=>by
  rw[com];by_cases e:i=m
  ·subst e;rw[if_neg (h2 (by omega))]
  rw[if_pos (h1 i (by omega))];exact zy9 hm h1 h2 f (i+1) (by omega) (by omega)
theorem zyz (zs:List Int) (p q:Nat):∀ f i,com zs p q f i<=i+f
 | 0,i=>WzV _
 | f+1,i=>by rw[com];split;have:=zyz zs p q f (i+1);omega;omega
theorem NX (zs:List Int) (p q:Nat):∀ f i,∀ k,i<=k->k<com zs p q f i->zs.getD (p+k) 0=zs.getD (q+k) 0
 | 0,i,k,h1,h2=>by rw[com] at h2;omega
 | f+1,i,k,h1,h2=>by
  rw[com] at h2;split at h2
  ·rename_i e;by_cases hk:k=i
   ·rw[hk];exact e
   exact NX zs p q f (i+1) k (by omega) h2
  omega
def look (zs:List Int) (ah:List Nat) (n at_ most:Nat):Nat->Nat->Nat->Nat->Nat × Nat
 | 0,_,l,d=>(l,d)
 | _+1,0,l,d=>(l,d)
 | left+1,p+1,l,d =>
  if at_-p<=32768/\l<most then
   if l<com zs p at_ most 0 then look zs ah n at_ most left (ah.getD (p % n) 0) (com zs p at_ most 0) (at_-p) else look zs ah n at_ most left (ah.getD (p % n) 0) l d
  else (l,d)
def zq (zs:List Int) (n:Nat) (ch ah:List Nat) (at_:Nat):Nat × Nat :=
 if min 258 (zs.length-at_)<3 then (0,0) else look zs ah n at_ (min 258 (zs.length-at_)) 128 (ch.getD (Yq zs n at_) 0) 0 0
theorem look_ok {zs:List Int} {ah:List Nat} {n at_ most:Nat} (hah:∀ x ∈ ah,x<=at_):∀ (left pl l d:Nat),pl<=at_->(0<l->1<=d/\d<=32768/\d<=at_/\l<=most/\∀ i,i<l->zs.getD (at_-d+i) 0=zs.getD (at_+i) 0) →
  (0<(look zs ah n at_ most left pl l d).1->1<=(look zs ah n at_ most left pl l d).2/\(look zs ah n at_ most left pl l d).2<=32768/\(look zs ah n at_ most left pl l d).2<=at_/\(look zs ah n at_ most left pl l d).1<=most/\∀ i,i<(look zs ah n at_ most left pl l d).1->zs.getD (at_-(look zs ah n at_ most left pl l d).2+i) 0=zs.getD (at_+i) 0)
 | 0,pl,l,d,hp,h=>h
 | left+1,0,l,d,hp,h=>h
 | left+1,p+1,l,d,hp,h=>by
  have hy:ah.getD (p % n) 0<=at_:=by
   rw[List.getD_eq_getElem?_getD];by_cases hk:p % n<ah.length
   ·rw[List.getElem?_eq_getElem hk];exact hah _ (Wz5 hk)
   rw[List.getElem?_eq_none (by omega)];simp
  rw[look];split
  ·rename_i hc;split
   ·refine look_ok hah left _ _ _ hy (fun _=>⟨by omega,by omega,by omega,by have:=zyz zs p at_ most 0;omega,fun i hi=>?_⟩);rw[show at_-(at_-p)=p by omega];exact NX zs p at_ most 0 i (by omega) hi
   exact look_ok hah left _ _ _ hy h
  exact h
theorem W8 {zs:List Int} {n:Nat} {ch ah:List Nat} {at_:Nat} (hch:∀ x ∈ ch,x<=at_) (hah:∀ x ∈ ah,x<=at_) :
  0<(zq zs n ch ah at_).1->1<=(zq zs n ch ah at_).2/\(zq zs n ch ah at_).2<=32768/\(zq zs n ch ah at_).2<=at_/\(zq zs n ch ah at_).1<=min 258 (zs.length-at_)/\∀ i,i<(zq zs n ch ah at_).1->zs.getD (at_-(zq zs n ch ah at_).2+i) 0=zs.getD (at_+i) 0:=by
 unfold zq;split
 ·intro h;simp at h
 refine look_ok hah _ _ _ _ ?_ (fun h=>by omega);rw[List.getD_eq_getElem?_getD];by_cases hk:Yq zs n at_<ch.length
 ·rw[List.getElem?_eq_getElem hk];exact hch _ (Wz5 hk)
 rw[List.getElem?_eq_none (by omega)];simp
theorem Rk {l:List Nat} {b:Nat} (h:∀ x ∈ l,x<=b) (i:Nat):l.getD i 0<=b:=by
 rw[List.getD_eq_getElem?_getD];by_cases hk:i<l.length
 ·rw[List.getElem?_eq_getElem hk];exact h _ (Wz5 hk)
 rw[List.getElem?_eq_none (by omega)];simp
theorem Oy {zs:List Int} {ah:List Nat} {n at_ most left pl l d:Nat} (h:left=0 ∨ pl=0 ∨ ¬ (at_-(pl-1)<=32768/\l<most)):look zs ah n at_ most left pl l d=(l,d):=by
 match left,pl with
 | 0,_=>rw[look]
 | _+1,0=>rw[look]
 | left+1,p+1 =>
  rw[look,if_neg];rcases h with h | h | h
  ·omega
  ·omega
  simpa using h
theorem Ou (F C A ib io cap n:Nat) (zs:List Int) (ch ah:List Nat) (at_:Nat) (w:World) (h:Fin w F C A ib io cap n zs ch ah) (hn:0<n) (hn2:n<=32768) (hl:zs.length<=400000) (hp:at_<=zs.length) (hch:∀ x ∈ ch,x<=at_) (hah:∀ x ∈ ah,x<=at_) :
  Calls prog 28 #[.pointer (some ⟨F,0,none⟩),.int .i64 at_] w fun ev w'=>ev=.returned (.tuple #[.int .i64 ((zq zs n ch ah at_).1:Nat),.int .i64 ((zq zs n ch ah at_).2:Nat)])/\∃ q,w'=w.drewN q:=by
 have HF:Hid _:=h;have f0:=h.f0;obtain⟨M,HM⟩:=nn_ (min 258 (zs.length-at_));have hMZ:(if (zs.length:Int)-at_<258 then (zs.length:Int)-at_ else 258)=(M:Int):=by rw[HM.out];split <;> omega
 by_cases h3:M<3
 ·have h3Z:(M:Int)<3:=by omega
  have HR:Hid (zq zs n ch ah at_=(0,0)):=by show _=_;unfold zq;rw[<-HM.out,if_pos h3]
  clear h HM;rw[HR.out];go_enter func28,ntmps28;go_wp2_with fail
  go_ret2;exact⟨rfl,0,rfl⟩
 have h3Z:¬ (M:Int)<3:=by omega
 obtain⟨hh,HHH⟩:=nn_ (Yq zs n at_);have hhl:hh<n:=by rw[HHH.out];exact zy6 _ _ _ hn
 obtain⟨x,HX⟩:=nn_ (ch.getD hh 0);have HR:Hid (zq zs n ch ah at_=look zs ah n at_ M 128 x 0 0):=by show _=_;unfold zq;rw[<-HM.out,if_neg h3,HX.out,HHH.out]
 obtain⟨R,HRR⟩:=nm_ (zq zs n ch ah at_);rw[HRR.out] at HR ⊢;have hxl:x<=at_:=by rw[HX.out];exact Rk hch _
 have H1:∀ q,_:=fun q=>zy7 F ib io cap zs at_ n n (some ⟨C,0,none⟩) (w.drewN q) h.f0 h.f1 h.src hl (by have:=HM.out;omega) hn (by omega);rw[<-HHH.out] at H1;have hM8:M<=258:=by rw[HM.out];omega
 have hML:at_+M<=zs.length:=by have:=HM.out;omega
 have f1:=h.f1;have f2:=h.f2;have cc:=zy h.c hh (by rw[h.cl];exact hhl);rw[<-HX.out] at cc;have hhZ:(hh:Int)<n:=by omega
 have hn0:¬ (n=0):=by omega
 clear h HM HRR;go_enter func28,ntmps28;go_wp2_with fail
 go_region_held3 (fun w'=>w'.cell? ⟨F,1,none⟩=some (.slice (some ⟨C,0,none⟩) (n:Nat) n)/\w'.cell? ⟨C,hh,none⟩=some (.int .i64 x)) (go_keep) (first | (go_at_call 53;refine(H1 _).mono ?_;rintro ev w1 ⟨rfl,nq,rfl⟩));rw[show IntKind.i64.wrap ((x:Int)-1)=(x:Int)-1 by rw[IntKind.wrap_i64];omega];rename_i hHeld;clear hHeld H1 cc f1;go_wp2_with fail
 go_loopg [4,5,7,8] 128 (fun k l d pl lf wr=>∃ L D p1 left q:Nat,l=.int .i64 L/\d=.int .i64 D/\pl=.int .i64 ((p1:Int)-1)/\lf=.int .i64 left/\k=left/\left<=128/\p1<=at_/\L<=M/\wr=w.drewN q/\Hid (R=look zs ah n at_ M left p1 L D));case atStart=>exact⟨0,0,x,128,_,rfl,rfl,rfl,rfl,rfl,by omega,hxl,by omega,rfl,HR.out⟩
 case round =>
 obtain⟨L,D,p1,left,q,rfl,rfl,rfl,rfl,hk,hlf,hp1,hLM,rfl,HRL⟩:=hrel;by_cases hgo:0<left/\0<p1/\at_-(p1-1)<=32768/\L<M;rotate_left
 ·have HST:Hid (R=(L,D)):=by
   show _=_;rw[HRL.out];refine Oy ?_;by_cases a:left=0
   ·exact .inl a
   by_cases b:p1=0
   ·exact .inr (.inl b)
   exact .inr (.inr (fun hc=>hgo ⟨by omega,by omega,hc.1,hc.2⟩))
  have hcc:¬ (0:Int)<(left:Int) ∨ ((0:Int)<(left:Int)/\¬ (0:Int)<=(p1:Int)-1) ∨ ((0:Int)<(left:Int)/\(0:Int)<=(p1:Int)-1/\¬ (at_:Int)-((p1:Int)-1)<=32768) ∨ ((0:Int)<(left:Int)/\(0:Int)<=(p1:Int)-1/\(at_:Int)-((p1:Int)-1)<=32768/\¬ (L:Int)<(M:Int)):=by omega
  clear HRL HR hgo;rcases hcc with t1 | ⟨t1,t2⟩ | ⟨t1,t2,t3⟩ | ⟨t1,t2,t3,t4⟩;all_goals
   go_wp2_with fail
   go_ret2;exact⟨by rw[HST.out];rfl,q,rfl⟩
 obtain⟨g1,g2,g3,g4⟩:=hgo;obtain⟨p,rfl⟩:∃ p,p1=p+1:=⟨p1-1,by omega⟩;obtain⟨lf',rfl⟩:∃ lf',left=lf'+1:=⟨left-1,by omega⟩;rw[show ((p+1:Nat):Int)-1=(p:Int) by omega];have t1:(0:Int)<((lf'+1:Nat):Int):=by omega
 have t2:(0:Int)<=(p:Int):=by omega
 have t3:(at_:Int)-(p:Int)<=32768:=by omega
 have t4:(L:Int)<(M:Int):=by omega
 have HL2:Hid (R=if L<com zs p at_ M 0 then look zs ah n at_ M lf' (ah.getD (p % n) 0) (com zs p at_ M 0) (at_-p) else look zs ah n at_ M lf' (ah.getD (p % n) 0) L D):=by
  show _=_;rw[HRL.out,look,if_pos ⟨by omega,g4⟩]
 have C1:=zy5 F ib io cap zs p at_ M (w.drewN q) f0 HF.out.src hl (by omega) hML;obtain⟨r,HRM⟩:=nn_ (p % n);have hr:r<n:=by rw[HRM.out];exact Nat.mod_lt _ hn
 have hrT:(p:Int).tmod (n:Int)=(r:Int):=by rw[Wyu (by omega),HRM.out];omega
 have hrZ:(r:Int)<n:=by omega
 have ca:=zy HF.out.a r (by rw[HF.out.al];exact hr);obtain⟨y,HY⟩:=nn_ (ah.getD r 0);rw[<-HY.out] at ca;rw[<-HRM.out,<-HY.out] at HL2;have hya:y<=at_:=by rw[HY.out];exact Rk hah _
 obtain⟨dd,HDD⟩:=nn_ (at_-p);have hddZ:(at_:Int)-(p:Int)=(dd:Int):=by rw[HDD.out];omega
 rw[<-HDD.out] at HL2;rw[hddZ] at t3;have hlfZ:((lf'+1:Nat):Int)-1=(lf':Int):=by omega
 clear HRL;go_wp2_with (go_at_call 54;refine C1.mono ?_;clear C1;rintro ev w1 ⟨m,nq2,hmM,rfl,rfl,k1,k2⟩;have HCM:Hid (com zs p at_ M 0=m):=zy9 hmM k1 k2 M 0 (by omega) (by omega);clear k1 k2)
 all_goals
  rename_i hLm;rw[HCM.out] at HL2;go_quiet (fail);go_wp2;go_roundg lf';case measure=>omega
  case rel =>
   first
    | exact⟨m,dd,y,lf',_,rfl,rfl,by first | rfl | go_num,by first | rfl | go_num,rfl,by omega,hya,hmM,by first | rfl | exact XX w _ _,by have:=HL2.out;rw[if_pos hLm] at this;exact this⟩
    | exact⟨L,D,y,lf',_,rfl,rfl,by first | rfl | go_num,by first | rfl | go_num,rfl,by omega,hya,hLM,by first | rfl | exact XX w _ _,by have:=HL2.out;rw[if_neg hLm] at this;exact this⟩
def vX (zs:List Int) (n p:Nat) (s:List Nat × List Nat):Nat->List Nat × List Nat
 | 0=>s
 | k+1=>(MW zs n (vX zs n p s k).1 (p+k),MY zs n (vX zs n p s k).1 (vX zs n p s k).2 (p+k))
theorem W9 {l:List Nat} {b i x:Nat} (h:∀ y ∈ l,y<=b) (hx:x<=b):∀ y ∈ l.set i x,y<=b:=fun y hy=>(List.mem_or_eq_of_mem_set hy).elim (h y) (fun e=>e ▸ hx)
theorem V9 {zs:List Int} {n p:Nat} {s:List Nat × List Nat} (h1:∀ x ∈ s.1,x<=p) (h2:∀ x ∈ s.2,x<=p):∀ k,(∀ x ∈ (vX zs n p s k).1,x<=p+k)/\(∀ x ∈ (vX zs n p s k).2,x<=p+k)
 | 0=>⟨h1,h2⟩
 | k+1=>by
  obtain⟨a,b⟩:=V9 (zs:=zs) (n:=n) h1 h2 k;have a':∀ x ∈ (vX zs n p s k).1,x<=p+(k+1):=fun x hx=>Wqx (a x hx) (by omega);have b':∀ x ∈ (vX zs n p s k).2,x<=p+(k+1):=fun x hx=>Wqx (b x hx) (by omega);constructor
  ·show ∀ x ∈ MW zs n _ _,_;unfold MW;split
   ·exact a'
   exact W9 a' (by omega)
  show ∀ x ∈ MY zs n _ _ _,_;unfold MY;split
  ·exact b'
  exact W9 b' (Wqx (Rk a _) (by omega))
structure Sq (zs:List Int) (n p:Nat) (ch ah:List Nat) (b:Bs):Prop where
 all:∀ P:Nat->List Nat->List Nat->Bs->Prop,P 0 (WqV n 0) (WqV n 0) (((⟨0,0⟩:Bs).num 1 1).num 1 2) →
  (∀ (p:Nat) (ch ah:List Nat) (b:Bs),P p ch ah b->p<zs.length->uu (zq zs n ch ah p).1 (zq zs n ch ah p).2=false->P (p+1) (vX zs n p (ch,ah) 1).1 (vX zs n p (ch,ah) 1).2 (b.sym (zs.getD p 0).toNat)) →
  (∀ (p:Nat) (ch ah:List Nat) (b:Bs),P p ch ah b->p<zs.length->uu (zq zs n ch ah p).1 (zq zs n ch ah p).2=true->P (p+(zq zs n ch ah p).1) (vX zs n p (ch,ah) (zq zs n ch ah p).1).1 (vX zs n p (ch,ah) (zq zs n ch ah p).1).2 (b.dup (zq zs n ch ah p).1 (zq zs n ch ah p).2))->P p ch ah b
theorem Sq.start {zs:List Int} {n:Nat} : Sq zs n 0 (WqV n 0) (WqV n 0) (((⟨0,0⟩:Bs).num 1 1).num 1 2):=⟨fun _ h _ _=>h⟩
theorem Sq.lit {zs:List Int} {n p:Nat} {ch ah:List Nat} {b:Bs} (h:Sq zs n p ch ah b) (hp:p<zs.length) (hw:uu (zq zs n ch ah p).1 (zq zs n ch ah p).2=false):Sq zs n (p+1) (vX zs n p (ch,ah) 1).1 (vX zs n p (ch,ah) 1).2 (b.sym (zs.getD p 0).toNat) :=
 ⟨fun P x y z=>y p ch ah b (h.all P x y z) hp hw⟩
theorem Sq.dup {zs:List Int} {n p:Nat} {ch ah:List Nat} {b:Bs} (h:Sq zs n p ch ah b) (hp:p<zs.length) (hw:uu (zq zs n ch ah p).1 (zq zs n ch ah p).2=true):Sq zs n (p+(zq zs n ch ah p).1) (vX zs n p (ch,ah) (zq zs n ch ah p).1).1 (vX zs n p (ch,ah) (zq zs n ch ah p).1).2 (b.dup (zq zs n ch ah p).1 (zq zs n ch ah p).2) :=
 ⟨fun P x y z=>z p ch ah b (h.all P x y z) hp hw⟩
theorem Sq.ind {zs:List Int} {n:Nat} {motive:(p:Nat)->(ch ah:List Nat)->(b:Bs)->Sq zs n p ch ah b->Prop} (start:motive 0 (WqV n 0) (WqV n 0) (((⟨0,0⟩:Bs).num 1 1).num 1 2) Sq.start)
  (lit:∀ {p:Nat} {ch ah:List Nat} {b:Bs} (h:Sq zs n p ch ah b) (hp:p<zs.length) (hw:uu (zq zs n ch ah p).1 (zq zs n ch ah p).2=false),motive p ch ah b h->motive (p+1) (vX zs n p (ch,ah) 1).1 (vX zs n p (ch,ah) 1).2 (b.sym (zs.getD p 0).toNat) (Sq.lit h hp hw))
  (dup:∀ {p:Nat} {ch ah:List Nat} {b:Bs} (h:Sq zs n p ch ah b) (hp:p<zs.length) (hw:uu (zq zs n ch ah p).1 (zq zs n ch ah p).2=true),motive p ch ah b h->motive (p+(zq zs n ch ah p).1) (vX zs n p (ch,ah) (zq zs n ch ah p).1).1 (vX zs n p (ch,ah) (zq zs n ch ah p).1).2 (b.dup (zq zs n ch ah p).1 (zq zs n ch ah p).2) (Sq.dup h hp hw))
  {p:Nat} {ch ah:List Nat} {b:Bs} (h:Sq zs n p ch ah b):motive p ch ah b h:=by
 have k:∃ h',motive p ch ah b h':=h.all (fun p ch ah b=>∃ h',motive p ch ah b h') ⟨_,start⟩ (fun p ch ah b ⟨h,m⟩ hp hw=>⟨_,lit h hp hw m⟩) (fun p ch ah b ⟨h,m⟩ hp hw=>⟨_,dup h hp hw m⟩);obtain⟨_,m⟩:=k;exact m
theorem Rv {l d:Nat} (h:uu l d=true):3<=l:=by
 unfold uu at h;simp at h;omega
theorem Sq.wrote {zs:List Int} {n p:Nat} {ch ah:List Nat} {b:Bs} (hz:IsB zs) (h:Sq zs n p ch ah b):Wrote zs p b/\(∀ x ∈ ch,x<=p)/\(∀ x ∈ ah,x<=p):=by
 induction h using Sq.ind with
 | start=>exact⟨Wrote.start zs,fun x hx=>by simp at hx;omega,fun x hx=>by simp at hx;omega⟩
 | @lit p ch ah b h hp hw ih =>
  obtain⟨i1,i2,i3⟩:=ih;have hb:=hz.at p hp;have e:zs.getD p 0=zs[p]:=by rw[List.getD_eq_getElem?_getD,List.getElem?_eq_getElem hp];rfl
  exact⟨i1.lit hp (by rw[e];omega) (by rw[e,WyZ hb.1]),V9 i2 i3 1⟩
 | @dup p ch ah b h hp hw ih =>
  obtain⟨i1,i2,i3⟩:=ih;have h3:=Rv hw;obtain⟨o1,o2,o3,o4,o5⟩:=W8 i2 i3 (zs:=zs) (n:=n) (by omega);exact⟨i1.dup (by omega) (by omega) h3 o1 o2 o3 o5,V9 i2 i3 _⟩
theorem Sq.pos {zs:List Int} {n p:Nat} {ch ah:List Nat} {b:Bs} (hz:IsB zs) (h:Sq zs n p ch ah b) (hp:p<zs.length) (hw:uu (zq zs n ch ah p).1 (zq zs n ch ah p).2=true) :
  3<=(zq zs n ch ah p).1/\(zq zs n ch ah p).1<=258/\p+(zq zs n ch ah p).1<=zs.length/\1<=(zq zs n ch ah p).2/\(zq zs n ch ah p).2<=32768:=by
 obtain⟨i1,i2,i3⟩:=h.wrote hz;have h3:=Rv hw;obtain⟨o1,o2,o3,o4,o5⟩:=W8 i2 i3 (zs:=zs) (n:=n) (by omega);exact⟨h3,by omega,by omega,o1,o2⟩
theorem qyk (w:World):Wr (w.alloc (.cells #[.slice none 0 0,.int .i64 0,.int .i64 0] 82)) w.heap.size w.heap.size ⟨0,0⟩ (.slice none 0 0):=by
 refine⟨by decide,⟨by simp[go_sem],by simp[go_sem],by simp[go_sem],fun i=>frozen_of_row _ _ i _ 82 (by show (w.heap.push _)[_]? = _;rw[Array.getElem?_push,if_pos rfl]),⟨none,0,rfl⟩,⟨rfl,.inl ⟨rfl,rfl⟩⟩,by simp,by simp,by simp[Value.ownBlock]⟩⟩
structure SqW (w0 w:World) (S F C A ib io cap n:Nat) (zs:List Int) (ch ah:List Nat) (b:Bs) (v:Value):Prop where
 wr:Wr w S w0.heap.size b v
 fin:Fin w F C A ib io cap n zs ch ah
 tabs:jV w
 below:Below w0.heap.size w0 w
 lt:F<w.heap.size/\C<w.heap.size/\A<w.heap.size/\ib<w.heap.size
 ne:F ≠ S/\C ≠ S/\A ≠ S/\ib ≠ S
 nv:some F ≠ v.ownBlock/\some C ≠ v.ownBlock/\some A ≠ v.ownBlock/\some ib ≠ v.ownBlock
 ge:w0.heap.size<=S/\w0.heap.size<=C/\w0.heap.size<=A
 w5:5<w0.heap.size
theorem SqW.drewN {w0 w:World} {S F C A ib io cap n:Nat} {zs:List Int} {ch ah:List Nat} {b:Bs} {v:Value} (h:SqW w0 w S F C A ib io cap n zs ch ah b v) (q:Nat):SqW w0 (w.drewN q) S F C A ib io cap n zs ch ah b v :=
 ⟨h.wr.drewN q,h.fin.drewN q,⟨h.tabs.t2,h.tabs.t3,h.tabs.t4,h.tabs.t5,h.tabs.lt⟩,⟨h.below.os,h.below.tape,h.below.output,h.below.size,h.below.block⟩,h.lt,h.ne,h.nv,h.ge,h.w5⟩
theorem SqW.kept {w0 w w':World} {S F C A ib io cap n:Nat} {zs:List Int} {ch ah:List Nat} {b b':Bs} {v v':Value} (h:SqW w0 w S F C A ib io cap n zs ch ah b v) (hw:Wr w' S w0.heap.size b' v') (hk:Kept S v v' w w'):SqW w0 w' S F C A ib io cap n zs ch ah b' v':=by
 obtain⟨l1,l2,l3,l4⟩:=h.lt;obtain⟨n1,n2,n3,n4⟩:=h.ne;obtain⟨m1,m2,m3,m4⟩:=h.nv;have hs:=hk.size;have hf:=h.fin
 exact⟨hw,⟨(hk.cell (p:=⟨F,0,none⟩) l1 n1 m1).trans hf.f0,(hk.cell (p:=⟨F,1,none⟩) l1 n1 m1).trans hf.f1,(hk.cell (p:=⟨F,2,none⟩) l1 n1 m1).trans hf.f2,(hk.block C l2 n2 m2).trans hf.c,(hk.block A l3 n3 m3).trans hf.a,hf.cl,hf.al,fun i hi=>(hk.cell (p:=⟨ib,io+i,none⟩) l4 n4 m4).trans (hf.src i hi),hf.FC,hf.FA,hf.CA,hf.iC,hf.iA⟩,
  h.tabs.kept hk (by have:=h.ge.1;have:=h.w5;omega) (fun k hk=>by have:=h.wr.vge k hk;have:=h.w5;omega),hk.below h.below (WzV _) h.ge.1 (fun k hk=>h.wr.vge k hk),⟨by omega,by omega,by omega,by omega⟩,h.ne,⟨hk.off l1 m1,hk.off l2 m2,hk.off l3 m3,hk.off l4 m4⟩,h.ge,h.w5⟩
theorem SqW.off {w0 w w':World} {S F C A ib io cap n:Nat} {zs:List Int} {ch ah ch' ah':List Nat} {b:Bs} {v:Value} (h:SqW w0 w S F C A ib io cap n zs ch ah b v) (hf:Fin w' F C A ib io cap n zs ch' ah') (ho:Off C A w w'):SqW w0 w' S F C A ib io cap n zs ch' ah' b v:=by
 obtain⟨l1,l2,l3,l4⟩:=h.lt;obtain⟨n1,n2,n3,n4⟩:=h.ne;obtain⟨m1,m2,m3,m4⟩:=h.nv;obtain⟨g1,g2,g3⟩:=h.ge;have w5:=h.w5;have hs:=ho.size;have tb:∀ k i,k<=5->w'.cell? ⟨k,i,none⟩=w.cell? ⟨k,i,none⟩:=fun k i hk=>ho.cell (p:=⟨k,i,none⟩) (by show k ≠ C;omega) (by show k ≠ A;omega);have hown:w'.ownsRow w0.heap.size 5 1 v (b.k / 8) ((toB b.n (b.k / 8)).map (Value.int .u8)):=by
  obtain⟨o1,⟨o2,o3⟩ | ⟨g,c,cur,o2,o3,o4,o5⟩⟩:=h.wr.2.owns
  ·exact⟨o1,.inl ⟨o2,o3⟩⟩
  refine⟨o1,.inr ⟨g,c,cur,o2,o3,?_,o5⟩⟩;rw[ho.block g (fun e=>m2 (by rw[o2,e];rfl)) (fun e=>m3 (by rw[o2,e];rfl))];exact o4
 exact⟨⟨h.wr.1,(ho.cell (p:=⟨S,0,none⟩) (Ne.symm n2) (Ne.symm n3)).trans h.wr.2.c0,(ho.cell (p:=⟨S,1,none⟩) (Ne.symm n2) (Ne.symm n3)).trans h.wr.2.c1,(ho.cell (p:=⟨S,2,none⟩) (Ne.symm n2) (Ne.symm n3)).trans h.wr.2.c2,fun i=>(ho.frozen (p:=⟨S,i,none⟩) (Ne.symm n2) (Ne.symm n3)).trans (h.wr.2.fz i),h.wr.2.row,hown,by have:=h.wr.2.hB;omega,by have:=h.wr.2.Sl;omega,h.wr.2.Sv⟩,
  hf,⟨fun i hi=>(tb 1 i (by omega)).trans (h.tabs.t2 i hi),fun i hi=>(tb 2 i (by omega)).trans (h.tabs.t3 i hi),fun i hi=>(tb 3 i (by omega)).trans (h.tabs.t4 i hi),fun i hi=>(tb 4 i (by omega)).trans (h.tabs.t5 i hi),by have:=h.tabs.lt;omega⟩,
  ⟨ho.os.trans h.below.os,ho.tape.trans h.below.tape,ho.output.trans h.below.output,by have:=h.below.size;omega,fun k hk=>(ho.block k (by omega) (by omega)).trans (h.below.block k hk)⟩,⟨by omega,by omega,by omega,by omega⟩,h.ne,h.nv,h.ge,w5⟩
def uj (zs:List Int) (b:Bs):Prop := ∃ n ch ah b0,1<=n/\n<=32768/\Nof zs.length n/\Sq zs n zs.length ch ah b0/\b=b0.sym 256
theorem uj.block {zs:List Int} {b:Bs} (hz:IsB zs) (h:uj zs b):MZ zs b:=by
 obtain⟨n,ch,ah,b0,_,_,_,hs,rfl⟩:=h;exact(hs.wrote hz).1.done
theorem jV.below {w w':World} (h:jV w) (hb:Below w.heap.size w w'):jV w':=by
 have hl:=h.lt;have c:∀ b i,b<=5->w'.cell? ⟨b,i,none⟩=w.cell? ⟨b,i,none⟩:=fun b i hbb=>hb.cell (p:=⟨b,i,none⟩) (by show b<_;omega);exact⟨fun i hi=>(c 1 i (by omega)).trans (h.t2 i hi),fun i hi=>(c 2 i (by omega)).trans (h.t3 i hi),fun i hi=>(c 3 i (by omega)).trans (h.t4 i hi),fun i hi=>(c 4 i (by omega)).trans (h.t5 i hi),by have:=hb.size;omega⟩
theorem Fj {w:World} {B:Nat} {e:TypeId} {s:Nat} {v:Value} {n:Nat} {xs:List Value} (h:w.ownsRow B e s v n xs):∀ k,v.ownBlock=some k->B<=k/\k<w.heap.size:=by
 intro k hk;rcases h.2 with ⟨hv,_⟩ | ⟨g,cap,cur,hv,hb,hg,_⟩
 ·rw[hv] at hk;cases hk
 rw[hv] at hk;simp only[Value.ownBlock,Wq9.injEq] at hk;subst hk;rcases WzW g w.heap.size with hlt | hge
 ·exact⟨hb,hlt⟩
 rw[Array.getElem?_eq_none hge] at hg;cases hg
theorem OZ {w w2 w3:World} {v2:Value} {b:Bs} {o:Obj} {F C A ib io cap n:Nat} {zs:List Int} {ch ah:List Nat} (hib:ib<w.heap.size) (ht:jV w) (hW:Wr w2 w.heap.size w.heap.size b v2) (hK:Kept w.heap.size (.slice none 0 0) v2 (w.alloc o) w2) (hF:Fin w3 F C A ib io cap n zs ch ah) (hB:Below w2.heap.size w2 w3) (g1:w2.heap.size<=F) (g2:w2.heap.size<=C) (g3:w2.heap.size<=A) (l1:F<w3.heap.size) (l2:C<w3.heap.size) (l3:A<w3.heap.size):SqW w w3 w.heap.size F C A ib io cap n zs ch ah b v2:=by
 have hsl:=hW.2.Sl;have hs3:=hB.size;have h12:Below w.heap.size w w2:=hK.below ((Below.refl _ w).alloc (WzV _) o) (WzV _) (WzV _) (fun k hk=>by simp[Value.ownBlock] at hk);have h13:Below w.heap.size w w3:=⟨hB.os.trans h12.os,hB.tape.trans h12.tape,hB.output.trans h12.output,by have:=h12.size;omega,fun k hk=>(hB.block k (by omega)).trans (h12.block k hk)⟩
 have hv:=Fj hW.2.owns;have c:∀ i,w3.cell? ⟨w.heap.size,i,none⟩=w2.cell? ⟨w.heap.size,i,none⟩:=fun i=>hB.cell (p:=⟨w.heap.size,i,none⟩) hsl
 refine⟨⟨hW.1,(c 0).trans hW.2.c0,(c 1).trans hW.2.c1,(c 2).trans hW.2.c2,fun i=>(World.frozen?_of_block (a:=⟨w.heap.size,i,none⟩) (hB.block _ hsl)).trans (hW.2.fz i),hW.2.row,hW.2.owns.kept ⟨hB.os,hB.tape,hB.output,hB.size,fun k hk _=>hB.block k hk⟩ (Classical.em (v2.ownBlock=none)),by omega,by omega,hW.2.Sv⟩,hF,ht.below h13,h13,⟨l1,l2,l3,by omega⟩,⟨by omega,by omega,by omega,by omega⟩,⟨?_,?_,?_,?_⟩,⟨WzV _,by omega,by omega⟩,ht.lt⟩
 ·intro e;have:=hv F e.symm;omega
 ·intro e;have:=hv C e.symm;omega
 ·intro e;have:=hv A e.symm;omega
 intro e;have:=hv ib e.symm;omega
theorem OQ (ib io cap:Nat) (zs:List Int) (w:World) (hz:IsB zs) (hat:At w ib io zs) (hib:ib<w.heap.size) (hl:zs.length<=300000) (ht:jV w) :
  Calls prog 14 #[.slice (some ⟨ib,io,none⟩) zs.length cap] w fun ev w'=>∃ v b,ev=.returned v/\uj zs b/\Below w.heap.size w w'/\w'.ownsRow w.heap.size 5 1 v ((b.k+7) / 8) ((toB b.n ((b.k+7) / 8)).map (Value.int .u8)):=by
 have w5:=ht.lt;have N1:=Zj w.heap.size w.heap.size ⟨0,0⟩ 1 1 (.slice none 0 0) _ (qyk w) (by decide) (by omega) (by simp);have HAT:Hid _:=hat
 have HT:Hid _:=ht;have HZ:Hid _:=hz;clear hat ht hz;go_enter func14,ntmps14
 go_wp2_with (first | (go_at_call 26;refine N1.mono ?_;clear N1;rintro ev w1 ⟨rfl,v1,hW1,hK1⟩;have HW1:Hid _:=hW1;have HK1:Hid _:=hK1;have N2:=Zj w.heap.size w.heap.size _ 1 2 v1 w1 hW1 (by decide) (by omega) (by show 0+1<=_;omega);clear hW1 hK1) | (go_at_call 26;refine N2.mono ?_;clear N2;rintro ev w2 ⟨rfl,v2,hW2,hK2⟩;have HW2:Hid _:=hW2;have HK2:Hid _:=HK1.out.trans hK2;clear hW2 hK2) | (go_at_call 27;refine(MV ib io cap zs w2 ?ga ?gi (by omega)).mono ?_))
 case ga=>exact fun i hi=>(HK2.out.cell (p:=⟨ib,io+i,none⟩) (by simp;omega) (by show ib ≠ _;omega) (by simp[Value.ownBlock])).trans ((World.cell?_alloc_lt _ _ ⟨ib,io+i,none⟩ hib).trans (HAT.out i hi))
 case gi=>have:=HK2.out.size;simp at this;omega
 rintro ev w3 ⟨F,C,A,n,rfl,hn1,hn2,hnz,hF3,hB3,g1,g2,g3,l1,l2,l3⟩;have HS3:Hid _:=OZ hib HT.out HW2.out HK2.out hF3 hB3 g1 g2 g3 l1 l2 l3;clear hF3 hB3 HK2 HW2 HK1 HW1 g1 g2 g3 l1 l2 l3;go_wp2_with fail
 go_loopg [5] zs.length (fun k a wr=>∃ at_:Nat,∃ ch ah b v,at_<=zs.length/\a=.int .i64 at_/\k=zs.length-at_/\Hid (Sq zs n at_ ch ah b)/\Hid (SqW w wr w.heap.size F C A ib io cap n zs ch ah b v));case atStart=>exact⟨0,_,_,_,_,by omega,rfl,rfl,Sq.start,HS3.out⟩
 clear HS3;obtain⟨at_,ch,ah,b,v,hat,rfl,hk,HSQ,HSW⟩:=hrel;have HQ:Hid _:=HSQ.out.wrote HZ.out;have hkb:b.k<=3000000:=by have:=HQ.out.1.kle;omega
 by_cases hlt:at_<zs.length;rotate_left
 ·obtain rfl:at_=zs.length:=by omega
  have hltZ:¬ (zs.length:Int)<zs.length:=by omega
  have SY:=W7 w.heap.size w.heap.size b 256 v wr HSW.out.wr (by omega) (by omega)
  go_wp2_with (first | (go_at_call 31;refine SY.mono ?_;clear SY;rintro ev w5 ⟨rfl,v5,hW5,hK5⟩;have HS5:Hid _:=HSW.out.kept hW5 hK5;have FI:=zy2 w.heap.size w.heap.size (b.sym 256) v5 w5 hW5 (by rw[UK];have:=(vQ 256).2;omega);clear hW5 hK5) | (go_at_call 33;refine FI.mono ?_;clear FI;rintro ev w6 ⟨v6,rfl,hK6,hO6⟩;have HB6:Hid (Below w.heap.size w w6):=hK6.below HS5.out.below (WzV _) (WzV _) (fun k hk=>HS5.out.wr.vge k hk);have HO6:Hid _:=hO6;clear hK6 hO6))
  go_ret;exact⟨v6,b.sym 256,rfl,⟨n,ch,ah,b,hn1,hn2,hnz,HSQ.out,rfl⟩,HB6.out,HO6.out⟩
 have hltZ:(at_:Int)<zs.length:=by omega
 have L1:=Ou F C A ib io cap n zs ch ah at_ wr HSW.out.fin hn1 hn2 (by omega) hat HQ.out.2.1 HQ.out.2.2;obtain⟨R,HR⟩:=nm_ (zq zs n ch ah at_);rw[HR.out] at L1;obtain⟨l,d⟩:=R;dsimp only at L1;have W1:∀ q,_:=fun q=>Ow l d (wr.drewN q);by_cases hw:uu l d=true
 ·rw[hw] at W1;have HP:Hid _:=HSQ.out.pos HZ.out hlt (by rw[HR.out];exact hw);rw[HR.out] at HP;have HN:Hid (Sq zs n (at_+l) (vX zs n at_ (ch,ah) l).1 (vX zs n at_ (ch,ah) l).2 (b.dup l d)):=by
   have:=HSQ.out.dup hlt (by rw[HR.out];exact hw);rw[HR.out] at this;exact this
  have hp1:=HP.out.1;have hp2:=HP.out.2.1;have hp3:=HP.out.2.2.1;simp only at hp1 hp2 hp3
  go_wp2_with (first | (go_at_call 28;refine L1.mono ?_;clear L1;rintro ev w4 ⟨rfl,q,rfl⟩) | (go_at_call 29;refine(W1 _).mono ?_;clear W1;rintro ev w4 ⟨rfl,rfl⟩) | (go_at_call 30;refine(zy4 w.heap.size w.heap.size b l d v _ (HSW.out.drewN _).wr (HSW.out.drewN _).tabs (by omega) (by omega) (by omega) hp1 HP.out.2.2.2.1 HP.out.2.2.2.2 hkb).mono ?_;rintro ev w5 ⟨rfl,v5,hW5,hK5⟩;have HS5:Hid _:=(HSW.out.drewN _).kept hW5 hK5;clear hW5 hK5))
  go_loopg [5,41] l (fun k a i wz=>∃ j:Nat,j<=l/\a=.int .i64 ((at_+j:Nat):Int)/\i=.int .i64 j/\k=l-j/\Hid (SqW w wz w.heap.size F C A ib io cap n zs (vX zs n at_ (ch,ah) j).1 (vX zs n at_ (ch,ah) j).2 (b.dup l d) v5));case atStart=>exact⟨0,by omega,rfl,rfl,rfl,HS5.out⟩
  obtain⟨j,hj,rfl,rfl,hk2,HSJ⟩:=hrel;by_cases hjl:j<l
  ·have hjZ:(j:Int)<l:=(by omega);have AJ:=qq8 F C A ib io cap n zs _ _ (at_+j) _ HSJ.out.fin hn1 hn2 (by omega) (by omega) (fun x hx=>by have:=(V9 (zs:=zs) (n:=n) (s:=(ch,ah)) (p:=at_) HQ.out.2.1 HQ.out.2.2 j).1 x hx;omega);go_wp2_with (go_at_call 32;refine AJ.mono ?_;clear AJ;rintro ev w6 ⟨rfl,hF6,hO6⟩;have HS6:Hid _:=HSJ.out.off hF6 hO6;clear hF6 hO6)
   go_roundg (l-(j+1));case measure=>omega
   case rel=>exact⟨j+1,by omega,by first | rfl | go_num | (congr 1;push_cast;omega),by first | rfl | go_num,rfl,HS6.out⟩
  obtain rfl:l=j:=by omega
  have hjZ:¬ ((l:Nat):Int)<(l:Nat):=by omega
  go_wp2_with fail
  go_roundg (zs.length-(at_+l));case measure=>omega
  case rel=>exact⟨at_+l,_,_,_,_,by omega,by first | rfl | go_num,rfl,HN.out,HSJ.out⟩
 have hw2:uu l d=false:=by simpa using hw
 rw[hw2] at W1;have hxb:=HZ.out _ (Wz5 hlt);have e:zs.getD at_ 0=zs[at_]:=by rw[List.getD_eq_getElem?_getD,List.getElem?_eq_getElem hlt];rfl
 obtain⟨x,HX⟩:=nn_ ((zs.getD at_ 0).toNat);have hx8:x<256:=by rw[HX.out,e];omega
 have hxv:zs.getD at_ 0=(x:Int):=by rw[HX.out,e];omega
 have HN:Hid (Sq zs n (at_+1) (vX zs n at_ (ch,ah) 1).1 (vX zs n at_ (ch,ah) 1).2 (b.sym x)):=by
  have:=HSQ.out.lit hlt (by rw[HR.out];exact hw2);rw[<-HX.out] at this;exact this
 have cx:=HSW.out.fin.src at_ hlt;rw[hxv] at cx;clear hxb e hxv HX hw
 go_wp2_with (first | (go_at_call 28;refine L1.mono ?_;clear L1;rintro ev w4 ⟨rfl,q,rfl⟩) | (go_at_call 29;refine(W1 _).mono ?_;clear W1;rintro ev w4 ⟨rfl,rfl⟩) | (go_at_call 31;refine(W7 w.heap.size w.heap.size b x v _ (HSW.out.drewN _).wr (by omega) (by omega)).mono ?_;rintro ev w5 ⟨rfl,v5,hW5,hK5⟩;have HS5:Hid _:=(HSW.out.drewN _).kept hW5 hK5;clear hW5 hK5 cx))
 go_loopg [5,41] 1 (fun k a i wz=>∃ j:Nat,j<=1/\a=.int .i64 ((at_+j:Nat):Int)/\i=.int .i64 j/\k=1-j/\Hid (SqW w wz w.heap.size F C A ib io cap n zs (vX zs n at_ (ch,ah) j).1 (vX zs n at_ (ch,ah) j).2 (b.sym x) v5));case atStart=>exact⟨0,by omega,rfl,rfl,rfl,HS5.out⟩
 case round =>
 obtain⟨j,hj,rfl,rfl,hk2,HSJ⟩:=hrel;by_cases hjl:j<1
 ·have hjZ:(j:Int)<1:=by omega
  have AJ:=qq8 F C A ib io cap n zs _ _ (at_+j) _ HSJ.out.fin hn1 hn2 (by omega) (by omega) (fun x hx=>by have:=(V9 (zs:=zs) (n:=n) (s:=(ch,ah)) (p:=at_) HQ.out.2.1 HQ.out.2.2 j).1 x hx;omega);go_wp2_with (go_at_call 32;refine AJ.mono ?_;clear AJ;rintro ev w6 ⟨rfl,hF6,hO6⟩;have HS6:Hid _:=HSJ.out.off hF6 hO6;clear hF6 hO6)
  go_roundg (1-(j+1));case measure=>omega
  case rel=>exact⟨j+1,by omega,by first | rfl | go_num | (congr 1;push_cast;omega),by first | rfl | go_num,rfl,HS6.out⟩
 obtain rfl:1=j:=by omega
 have hjZ:¬ ((1:Nat):Int)<1:=by omega
 go_wp2_with fail
 go_roundg (zs.length-(at_+1));case measure=>omega
 case rel=>exact⟨at_+1,_,_,_,_,by omega,by first | rfl | go_num,rfl,HN.out,HSJ.out⟩
theorem below_grown {B:Nat} {w0 w w':World} {row:Option Nat} (hb:Below B w0 w) (hB:B<=w.heap.size) (hg:w.grownBy w' row) (hr:∀ k,row=some k->B<=k):Below B w0 w' :=
 ⟨hg.os.trans hb.os,hg.tape.trans hb.tape,hg.output.trans hb.output,Wqx hb.size hg.size,fun k hk=>(hg.block k (by omega) (fun e=>by have:=hr k e.symm;omega)).trans (hb.block k hk)⟩
structure StW (w0 w:World) (v:Value) (O:List Int):Prop where
 owns:w.ownsRow w0.heap.size 5 1 v O.length (O.map (Value.int .u8))
 below:Below w0.heap.size w0 w
theorem StW.more {w0 w wx w3:World} {v v3:Value} {O new:List Int} {m:Nat} (h:StW w0 w v O) (hx:w.grownBy wx none) (hg:wx.grownBy w3 v.ownBlock) (hm:new.length=m) (ho:w3.ownsRow w0.heap.size 5 1 v3 (O.length+m) (O.map (Value.int .u8)++new.map (Value.int .u8))):StW w0 w3 v3 (O++new):=by
 refine⟨by rw[Wz6,hm,List.map_append];exact ho,?_⟩;have h1:Below w0.heap.size w0 wx:=below_grown h.below h.below.size hx (fun k hk=>by cases hk);exact below_grown h1 (Wqx h.below.size hx.size) hg (fun k hk=>(Fj h.owns k hk).1)
theorem vJ (w:World):w.grownBy w none:=⟨rfl,rfl,rfl,WzV _,fun _ _ _=>rfl⟩
theorem Fk:∀ b,b<256->bits .xor .u8 (if IntKind.u8.signed=true then -1 else IntKind.u8.max) ((b:Nat):Int)=((255-b:Nat):Int):=by decide +kernel
theorem Wz {w0 w:World} {ib io j m:Nat} {zs:List Int} (hat:At w0 ib io zs) (hib:ib<w0.heap.size) (hb:Below w0.heap.size w0 w) (hj:j+m<=zs.length):∀ i u,(((zs.drop j).take m).map (Value.int .u8))[i]? = some u->w.cell? ((⟨ib,io+j,none⟩:Addr).add i)=some u:=by
 intro i u hu;rw[List.getElem?_map] at hu;have hi:i<m:=by
  rcases WzW i m with h | h
  ·exact h
  rw[List.getElem?_eq_none (by rw[List.length_take];omega)] at hu;cases hu
 rw[List.getElem?_take,if_pos hi,List.getElem?_drop,List.getElem?_eq_getElem (by omega)] at hu;simp only[Option.map_some,Wq9.injEq] at hu;subst hu;have:=(hb.cell (p:=⟨ib,io+(j+i),none⟩) hib).trans (hat (j+i) (by omega));rw[List.getD_eq_getElem?_getD,List.getElem?_eq_getElem (by omega)] at this
 have hadd:(⟨ib,io+j,none⟩:Addr).add i=⟨ib,io+(j+i),none⟩:=by unfold Addr.add;split <;> simp_all [WzQ]
 rw[hadd];exact this
theorem Yx (l:List Int):∀ u ∈ l.map (Value.int .u8),u.oneCell'=true:=by
 intro u hu;simp only[List.mem_map] at hu;obtain⟨x,_,rfl⟩:=hu;rfl
theorem NJ (w:World) (a b c d e:Value):∀ i u,[a,b,c,d,e][i]? = some u->(w.alloc (.cells #[a,b,c,d,e] 5)).cell? ((⟨w.heap.size,0,none⟩:Addr).add i)=some u :=
 World.news_of_block (cs:=#[a,b,c,d,e]) (t:=5) (fr:=(0,0)) (by show (w.heap.push _)[_]? = _;rw[Array.getElem?_push,if_pos rfl])
theorem zjJ (ib io cap:Nat) (zs:List Int) (w:World) (hz:IsB zs) (hat:At w ib io zs) (hib:ib<w.heap.size) (hl:zs.length<=300000) (hcap:zs.length<=cap) :
  Calls prog 15 #[.slice (some ⟨ib,io,none⟩) zs.length cap] w fun ev w'=>∃ v,ev=.returned v/\∃ O,Rz zs O/\5<=O.length/\O.length<=zs.length+5*(zs.length / 65535+1)/\(zs.length<65535->O.length=zs.length+5)/\StW w w' v O:=by
 obtain⟨i5,hi,hz0,hz1,hz2⟩:=info_parts info5;have HAT:Hid _:=hat
 have HZ:Hid _:=hz;clear hat hz;go_enter func15,ntmps15;go_wp2_with fail
 go_loopg [0,3] zs.length (fun k s o wr=>∃ j:Nat,∃ O v,k=zs.length-j/\s=.slice (some ⟨ib,io+j,none⟩) (zs.length-j:Nat) (cap-j)/\o=v/\Hid (Rx zs j O)/\Hid (StW w wr v O));case atStart=>exact⟨0,[],.slice none 0 0,rfl,rfl,rfl,Rx.start zs,⟨rfl,.inl ⟨rfl,rfl⟩⟩,Below.refl _ _⟩
 obtain⟨j,O,v,hk,rfl,hov,HST,HSW⟩:=hrel;have hov2:=hov.symm;clear hov;subst hov2;obtain⟨L,HL⟩:=nn_ (zs.length-j);rw[<-HL.out];have hjl:=HST.out.le;by_cases hlast:L<=65535;rotate_left
 ·have hmin:(if (65535:Int)<(L:Int) then (65535:Int) else (L:Int))=65535:=by rw[if_pos (by omega)]
  have hne:¬ (65535:Int)=(L:Int):=by omega
  have e3:bits .xor .u8 (if IntKind.u8.signed=true then -1 else IntKind.u8.max) 255=0:=by decide +kernel
  have HNW:Hid ([Value.int .u8 0,.int .u8 255,.int .u8 255,.int .u8 0,.int .u8 0]=(toB (hd5 0 65535) 5).map (Value.int .u8)):=by
   show _=_;rw[Nu 0 65535 (by omega) (by omega)];rfl
  have HOL:Hid (O.length<=j+5*(j / 65535)):=WyQ HST.out.len;have hOL:O.length<=400000:=by have:=HOL.out;omega
  have HS0:Hid _:=HSW.out;have HSB:Hid (w.heap.size<=wr.heap.size):=HSW.out.below.size;have hjL:j+L=zs.length:=by have:=HL.out;omega
  have hLc:L<=cap-j:=by omega
  have hL5:(65535:Int)<=(L:Int):=by omega
  have hc5:(65535:Int)<=((cap-j:Nat):Int):=by omega
  have hc6:¬ 65535=cap-j:=by omega
  clear HSW
  go_wp2_with (first | (at_builtin;(refine qJ _ rfl _ _ _ rfl w.heap.size 5 i5 (.int .u8 0) 1 1 underlying22 hi hz0 hz1 hz2 rfl (by omega) v O.length (O.map (Value.int .u8)) rfl (by exact HS0.out.owns.alloc _) ⟨wr.heap.size,0,none⟩ 5 5 [Value.int .u8 0,.int .u8 255,.int .u8 255,.int .u8 0,.int .u8 0] rfl rfl (NJ wr _ _ _ _ _) (by rw[HNW.out];exact Yx _) (by unfold maxLen;omega) (by omega) (by have:=HSB.out;simp;omega) (wr.heap.size+1) (by simp) ?_;intro a3 c3 w3 hown hgrow hat3;rw[HNW.out] at hown;have HS3:Hid _:=HS0.out.more (World.grownBy_alloc wr _ none) hgrow (yx 5 _) hown;clear HS0 hown hgrow hat3)) | (at_builtin;(refine qJ _ rfl _ _ _ rfl w.heap.size 5 i5 (.int .u8 0) 1 1 underlying22 hi hz0 hz1 hz2 rfl (by omega) (Value.slice a3 (O.length+5:Nat) c3) (O++toB (hd5 0 65535) 5).length ((O++toB (hd5 0 65535) 5).map (Value.int .u8)) rfl (by exact HS3.out.owns) ⟨ib,io+j,none⟩ 65535 (cap-j) (((zs.drop j).take 65535).map (Value.int .u8)) rfl (by simp;omega) (Wz HAT.out hib HS3.out.below (by omega)) (Yx _) (by simp only[Wz6,yx];unfold maxLen;omega) (by simp only[Wz6,yx];omega) HS3.out.below.size w3.heap.size rfl ?_;intro a4 c4 w4 hown hgrow hat3;have HS4:Hid _:=HS3.out.more (vJ _) hgrow (by simp;omega) hown;clear HS3 hown hgrow hat3)))
  go_roundg (zs.length-(j+65535));case measure=>omega
  refine⟨j+65535,O++(toB (hd5 0 65535) 5++(zs.drop j).take 65535),_,rfl,?_,rfl,HST.out.more HZ.out (by omega),?_⟩
  ·rw[show io+(j+65535)=io+j+65535 by omega,show zs.length-(j+65535)=L-65535 by omega,show cap-(j+65535)=cap-j-65535 by omega]
  have:=HS4.out;rw[Wz6] at this;rw[<-Wz1];exact this
 have hmin:(if (65535:Int)<(L:Int) then (65535:Int) else (L:Int))=(L:Int):=by rw[if_neg (by omega)]
 obtain⟨b1,HB1⟩:=nn_ (L % 256);obtain⟨b2,HB2⟩:=nn_ (L / 256);obtain⟨b3,HB3⟩:=nn_ (255-b1);obtain⟨b4,HB4⟩:=nn_ (255-b2);have hb1:b1<256:=by rw[HB1.out];omega
 have hb2:b2<256:=by rw[HB2.out];omega
 have e1:(L:Int) % 256=(b1:Int):=by rw[HB1.out];omega
 have e2:(L:Int) / 256=(b2:Int):=by rw[HB2.out];omega
 have e3:bits .xor .u8 (if IntKind.u8.signed=true then -1 else IntKind.u8.max) (b1:Int)=(b3:Int):=by rw[HB3.out];exact Fk b1 hb1
 have e4:bits .xor .u8 (if IntKind.u8.signed=true then -1 else IntKind.u8.max) (b2:Int)=(b4:Int):=by rw[HB4.out];exact Fk b2 hb2
 have HNW:Hid ([Value.int .u8 1,.int .u8 (b1:Int),.int .u8 (b2:Int),.int .u8 (b3:Int),.int .u8 (b4:Int)]=(toB (hd5 1 L) 5).map (Value.int .u8)):=by
  show _=_;rw[Nu 1 L (by omega) hlast,HB4.out,HB3.out,HB2.out,HB1.out];rfl
 have HOL:Hid (O.length<=j+5*(j / 65535)):=WyQ HST.out.len;have hOL:O.length<=400000:=by have:=HOL.out;omega
 have HS0:Hid _:=HSW.out;have HSB:Hid (w.heap.size<=wr.heap.size):=HSW.out.below.size;have hjL:j+L=zs.length:=by have:=HL.out;omega
 have hLc:L<=cap-j:=by omega
 clear HSW
 go_wp2_with (first | (at_builtin;(refine qJ _ rfl _ _ _ rfl w.heap.size 5 i5 (.int .u8 0) 1 1 underlying22 hi hz0 hz1 hz2 rfl (by omega) v O.length (O.map (Value.int .u8)) rfl (by exact HS0.out.owns.alloc _) ⟨wr.heap.size,0,none⟩ 5 5 [Value.int .u8 1,.int .u8 (b1:Int),.int .u8 (b2:Int),.int .u8 (b3:Int),.int .u8 (b4:Int)] rfl rfl (NJ wr _ _ _ _ _) (by rw[HNW.out];exact Yx _) (by unfold maxLen;omega) (by omega) (by have:=HSB.out;simp;omega) (wr.heap.size+1) (by simp) ?_;intro a3 c3 w3 hown hgrow hat3;rw[HNW.out] at hown;have HS3:Hid _:=HS0.out.more (World.grownBy_alloc wr _ none) hgrow (yx 5 _) hown;clear HS0 hown hgrow hat3)) | (at_builtin;(refine qJ _ rfl _ _ _ rfl w.heap.size 5 i5 (.int .u8 0) 1 1 underlying22 hi hz0 hz1 hz2 rfl (by omega) (Value.slice a3 (O.length+5:Nat) c3) (O++toB (hd5 1 L) 5).length ((O++toB (hd5 1 L) 5).map (Value.int .u8)) rfl (by exact HS3.out.owns) ⟨ib,io+j,none⟩ L (cap-j) (((zs.drop j).take L).map (Value.int .u8)) rfl (by simp;omega) (Wz HAT.out hib HS3.out.below (by omega)) (Yx _) (by simp only[Wz6,yx];unfold maxLen;omega) (by simp only[Wz6,yx];omega) HS3.out.below.size w3.heap.size rfl ?_;intro a4 c4 w4 hown hgrow hat3;have HS4:Hid _:=HS3.out.more (vJ _) hgrow (by simp;omega) hown;clear HS3 hown hgrow hat3)))
 all_goals
  go_ret;refine⟨_,rfl,O++(toB (hd5 1 L) 5++zs.drop j),?_,by simp only[Wz6,yx];omega,?_,fun h9=>?_,?_⟩
  ·rw[HL.out];exact HST.out.done HZ.out (by omega)
  ·have h0:=HST.out.dvd;simp only[Wz6,yx,Wz8];have h1:=HOL.out;have h2:j / 65535<=zs.length / 65535:=Nat.div_le_div_right hjl;omega
  ·have h0:=HST.out.dvd;have h1:=HST.out.len;simp only[Wz6,yx,Wz8];omega
  ·have e:O++(toB (hd5 1 L) 5++zs.drop j)=(O++toB (hd5 1 L) 5)++(zs.drop j).take L:=(by rw[List.take_of_length_le (by simp;omega),Wz1]);rw[e];have:=HS4.out;rw[Wz6] at this;exact this
theorem zyq {w w':World} {B:Nat} {e:TypeId} {s:Nat} {v:Value} {n:Nat} {xs:List Value} (h:w.ownsRow B e s v n xs) (hb:Below w.heap.size w w'):w'.ownsRow B e s v n xs :=
 h.kept (row:=none) ⟨hb.os,hb.tape,hb.output,hb.size,fun k hk _=>hb.block k hk⟩ (Classical.em _)
theorem D1 {w:World} {B g m c:Nat} {O:List Int} (h:w.ownsRow B 5 1 (.slice (some ⟨g,0,none⟩) m c) m (O.map (Value.int .u8))):∀ i u,(O.map (Value.int .u8))[i]? = some u->w.cell? ((⟨g,0,none⟩:Addr).add i)=some u:=by
 intro i u hu;have hl:=h.1;have hi:i<m*1:=by
  rcases WzW i (m*1) with h | h
  ·exact h
  rw[List.getElem?_eq_none (by omega)] at hu;cases hu
 have hadd:(⟨g,0,none⟩:Addr).add i=⟨g,i,none⟩:=by unfold Addr.add;split <;> simp_all
 rw[hadd,h.cellAt i hi];exact hu
theorem NV (w:World) (a b c d:Value):∀ i u,[a,b,c,d][i]? = some u->(w.alloc (.cells #[a,b,c,d] 5)).cell? ((⟨w.heap.size,0,none⟩:Addr).add i)=some u :=
 World.news_of_block (cs:=#[a,b,c,d]) (t:=5) (fr:=(0,0)) (by show (w.heap.push _)[_]? = _;rw[Array.getElem?_push,if_pos rfl])
theorem Wq (w:World) (B:Nat) (h:B<=w.heap.size):(w.alloc (.cells #[.int .u8 120,.int .u8 1] 5)).ownsRow B 5 1 (.slice (some ⟨w.heap.size,0,none⟩) 2 2) 2 (([120,1] : List Int).map (Value.int .u8)) :=
 ⟨rfl,.inr ⟨w.heap.size,2,#[.int .u8 120,.int .u8 1],rfl,h,by show (w.heap.push _)[_]? = _;rw[Array.getElem?_push,if_pos rfl],by omega,by unfold maxLen;omega,rfl,rfl⟩⟩
structure Defl (zs z:List Int):Prop where
 isB:IsB z
 len:z.length<=zs.length+11+5*(zs.length / 65535+1)
 rd:∀ (more:List Int) (most:Int),0<=most->inflOf (z++more) most=if (zs.length:Int)<=most then .ok (z.length,zs) else .error 11
 short:∃ b,uj zs b/\z.length<=(b.k+7) / 8+6/\(zs.length<65535->z.length=min (zs.length+5) ((b.k+7) / 8)+6)
theorem zjK (s:Int):IsB (be4 s):=fun x hx=>by simp[be4] at hx;omega
theorem Rz.defl {zs O:List Int} {b:Bs} (h:Rz zs O) (hl:O.length<=zs.length+5*(zs.length / 65535+1)) (hb:uj zs b) (hs:O.length<=(b.k+7) / 8) (hx:zs.length<65535->O.length=min (zs.length+5) ((b.k+7) / 8)):Defl zs (([120,1]++O)++be4 (vk zs)):=by
 have hlen:(([120,1]++O)++be4 (vk zs)).length=O.length+6:=by simp[be4]
 refine⟨kJ (kJ Rj h.isB) (zjK _),by rw[hlen];omega,fun more most hm=>?_,b,hb,by rw[hlen];omega,fun h=>by rw[hlen,hx h]⟩;rw[hlen,<-h.infl more most hm];congr 1;simp
theorem deflate_f (ib io cap:Nat) (zs:List Int) (w:World) (hz:IsB zs) (hat:At w ib io zs) (hib:ib<w.heap.size) (hl:zs.length<=300000) (hcap:zs.length<=cap) (ht:jV w) :
  Calls prog 7 #[.slice (some ⟨ib,io,none⟩) zs.length cap] w fun ev w'=>∃ v,ev=.returned v/\∃ z,Defl zs z/\StW w w' v z:=by
 obtain⟨i5,hi,hz0,hz1,hz2⟩:=info_parts info5;have SQ:=OQ ib io cap zs w hz hat hib hl ht;have HAT:Hid _:=hat
 have HZ:Hid _:=hz;obtain⟨s,HSM⟩:=nn_ (vk zs);have hs:=MQ zs;rw[<-HSM.out] at hs;obtain⟨d1,HD1⟩:=nn_ (s / 16777216 % 256);obtain⟨d2,HD2⟩:=nn_ (s / 65536 % 256);obtain⟨d3,HD3⟩:=nn_ (s / 256 % 256);obtain⟨d4,HD4⟩:=nn_ (s % 256);have q1:s / 16777216 % 256=d1:=HD1.out.symm;have q1':s / 16777216=d1:=by rw[HD1.out];omega
 have q2:s / 65536 % 256=d2:=HD2.out.symm;have q3:s / 256 % 256=d3:=HD3.out.symm;have q4:s % 256=d4:=HD4.out.symm;have hd1:0<=d1/\d1<256:=by rw[HD1.out];omega
 have HD:Hid ([Value.int .u8 d1,.int .u8 d2,.int .u8 d3,.int .u8 d4]=(be4 (vk zs)).map (Value.int .u8)):=by
  show _=_;rw[HD1.out,HD2.out,HD3.out,HD4.out,HSM.out];rfl
 obtain⟨hs1,hs2⟩:=hs;have hd11:=hd1.1;have hd12:=hd1.2;clear hat hz ht hd1;go_enter func7,ntmps7
 go_wp2_with (first | (go_at_call 14;refine SQ.mono ?_;clear SQ;rintro ev w1 ⟨v1,b,rfl,hSq,hB1,hO1⟩;have HSQ:Hid (uj zs b):=hSq;have HB1:Hid _:=hB1;have HO1:Hid (w1.ownsRow w.heap.size 5 1 v1 ((b.k+7) / 8) ((toB b.n ((b.k+7) / 8)).map (Value.int .u8))):=hO1;have hA1:At w1 ib io zs:=(fun i hi=>(hB1.cell (p:=⟨ib,io+i,none⟩) hib).trans (HAT.out i hi));have ST:=zjJ ib io cap zs w1 HZ.out hA1 (by have:=hB1.size;omega) hl hcap;clear hSq hB1 hO1 hA1) | (go_at_call 15;refine ST.mono ?_;clear ST))
 rintro ev w2 ⟨v2,rfl,O2,hBd,hO5,hOl,hX2,hS2⟩;have HX2:Hid (zs.length<65535->O2.length=zs.length+5):=hX2;clear hX2;have HBD:Hid _:=hBd;have HB2:Hid (Below w1.heap.size w1 w2):=hS2.below
 have HB:Hid (Below w.heap.size w w2):=⟨HB2.out.os.trans HB1.out.os,HB2.out.tape.trans HB1.out.tape,HB2.out.output.trans HB1.out.output,Wqx HB1.out.size HB2.out.size,fun k hk=>(HB2.out.block k (by have:=HB1.out.size;omega)).trans (HB1.out.block k hk)⟩;have HSZ:Hid (w.heap.size<=w2.heap.size):=HB.out.size;have HBK:Hid (MZ zs b):=uj.block HZ.out HSQ.out
 obtain⟨m1,HM1⟩:=nn_ ((b.k+7) / 8);have hm1:0<m1/\m1<=400000:=by have:=HBK.out.k3;have:=HBK.out.kle;have:=HM1.out;omega
 obtain⟨O1,HO1L⟩:=nn_ (toB b.n m1);have m1E:O1.length=m1:=by rw[HO1L.out,yx]
 rw[<-HM1.out,<-HO1L.out] at HO1;have HBD1:Hid (Rz zs O1):=by show Rz _ _;rw[HO1L.out,HM1.out];exact HBK.out.body
 obtain⟨m2,HM2⟩:=nn_ O2.length;have m2E:O2.length=m2:=HM2.out.symm;have hm2:5<=m2/\m2<=400000:=by have:=HM2.out;omega
 obtain⟨g1,c1,rfl,hg1,hg1l⟩:=HO1.out.form hm1.1;have HO2:Hid (w2.ownsRow w1.heap.size 5 1 v2 m2 (O2.map (Value.int .u8))):=by rw[<-m2E];exact hS2.owns
 obtain⟨g2,c2,rfl,hg2,hg2l⟩:=HO2.out.form (by omega);have HO2':Hid (w2.ownsRow w.heap.size 5 1 (.slice (some ⟨g2,0,none⟩) m2 c2) m2 (O2.map (Value.int .u8))):=⟨HO2.out.1,by
  rcases HO2.out.2 with h | ⟨g,c,cur,h1,h2,h3⟩
  ·exact .inl h
  exact .inr ⟨g,c,cur,h1,Wqx HB1.out.size h2,h3⟩⟩
 have HO1':Hid (w2.ownsRow w.heap.size 5 1 (.slice (some ⟨g1,0,none⟩) m1 c1) m1 (O1.map (Value.int .u8))):=zyq HO1.out HB2.out;have AD:=K9 ib io cap zs w2 hl HZ.out (fun i hi=>(HB.out.cell (p:=⟨ib,io+i,none⟩) hib).trans (HAT.out i hi));rw[<-HSM.out] at AD
 have HS2:Hid (StW w (w2.alloc (.cells #[.int .u8 120,.int .u8 1] 5)) (.slice (some ⟨w2.heap.size,0,none⟩) 2 2) [120,1]):=⟨Wq w2 _ HSZ.out,HB.out.alloc HSZ.out _⟩;obtain⟨hm11,hm12⟩:=hm1;obtain⟨hm21,hm22⟩:=hm2;clear hBd hS2 HB2 HO2 HO1 HB1 hg1 hg1l hg2 hg2l;by_cases hlt:m2<m1
 ·have hltZ:(m2:Int)<m1:=by omega
  have HOB:Hid (w2.ownsRow w.heap.size 5 1 (.slice (some ⟨g2,0,none⟩) m2 c2) m2 (O2.map (Value.int .u8))):=HO2'.out
  go_wp2_with (first | (go_at_call 16;refine AD.mono ?_;clear AD;rintro ev w3 ⟨rfl,rfl⟩) | (at_builtin;(refine qJ _ rfl _ _ _ rfl w.heap.size 5 i5 (.int .u8 0) 1 1 underlying22 hi hz0 hz1 hz2 rfl (by omega) (.slice (some ⟨w3.heap.size,0,none⟩) 2 2) 2 (([120,1] : List Int).map (Value.int .u8)) rfl (Wq w3 _ HSZ.out) ⟨g2,0,none⟩ m2 c2 (O2.map (Value.int .u8)) rfl (by simp[m2E]) (D1 (HOB.out.alloc _)) (Yx _) (by unfold maxLen;omega) (by omega) (by have:=HSZ.out;simp;omega) (w3.heap.size+1) (by simp) ?_;intro a4 c4 w4 hown hgrow hat4;have HS4:Hid (StW w w4 (.slice a4 (2+m2:Nat) c4) ([120,1]++O2)):=HS2.out.more (vJ _) hgrow m2E hown;clear hown hgrow hat4 HS2)) | (at_builtin;(refine qJ _ rfl _ _ _ rfl w.heap.size 5 i5 (.int .u8 0) 1 1 underlying22 hi hz0 hz1 hz2 rfl (by omega) (.slice a4 (2+m2:Nat) c4) (([120,1] : List Int)++O2).length ((([120,1] : List Int)++O2).map (Value.int .u8)) rfl (by exact HS4.out.owns.alloc _) ⟨w4.heap.size,0,none⟩ 4 4 [Value.int .u8 d1,.int .u8 d2,.int .u8 d3,.int .u8 d4] rfl rfl (NV w4 _ _ _ _) (by rw[HD.out];exact Yx _) (by simp only[Wz6,m2E];unfold maxLen;simp;omega) (by simp only[Wz6,m2E];simp;omega) (by have:=HS4.out.below.size;simp;omega) (w4.heap.size+1) (by simp) ?_;intro a5 c5 w5 hown hgrow hat5;rw[HD.out] at hown;have HS5:Hid _:=HS4.out.more (World.grownBy_alloc w4 _ none) hgrow (by rfl) hown;clear hown hgrow hat5 HS4)))
  go_ret;refine⟨_,rfl,_,HBD.out.defl hOl HSQ.out (by have:=HM1.out;omega) (fun h=>by have:=HM1.out;have:=HX2.out h;omega),?_⟩;have h5:=HS5.out;rw[show (([120,1] : List Int)++O2).length+4=m2+1+1+4 by simp[m2E]] at h5;exact h5
 have hltZ:¬ (m2:Int)<m1:=by omega
 have HOB:Hid (w2.ownsRow w.heap.size 5 1 (.slice (some ⟨g1,0,none⟩) m1 c1) m1 (O1.map (Value.int .u8))):=HO1'.out
 go_wp2_with (first | (go_at_call 16;refine AD.mono ?_;clear AD;rintro ev w3 ⟨rfl,rfl⟩) | (at_builtin;(refine qJ _ rfl _ _ _ rfl w.heap.size 5 i5 (.int .u8 0) 1 1 underlying22 hi hz0 hz1 hz2 rfl (by omega) (.slice (some ⟨w3.heap.size,0,none⟩) 2 2) 2 (([120,1] : List Int).map (Value.int .u8)) rfl (Wq w3 _ HSZ.out) ⟨g1,0,none⟩ m1 c1 (O1.map (Value.int .u8)) rfl (by simp[m1E]) (D1 (HOB.out.alloc _)) (Yx _) (by unfold maxLen;omega) (by omega) (by have:=HSZ.out;simp;omega) (w3.heap.size+1) (by simp) ?_;intro a4 c4 w4 hown hgrow hat4;have HS4:Hid (StW w w4 (.slice a4 (2+m1:Nat) c4) ([120,1]++O1)):=HS2.out.more (vJ _) hgrow m1E hown;clear hown hgrow hat4 HS2)) | (at_builtin;(refine qJ _ rfl _ _ _ rfl w.heap.size 5 i5 (.int .u8 0) 1 1 underlying22 hi hz0 hz1 hz2 rfl (by omega) (.slice a4 (2+m1:Nat) c4) (([120,1] : List Int)++O1).length ((([120,1] : List Int)++O1).map (Value.int .u8)) rfl (by exact HS4.out.owns.alloc _) ⟨w4.heap.size,0,none⟩ 4 4 [Value.int .u8 d1,.int .u8 d2,.int .u8 d3,.int .u8 d4] rfl rfl (NV w4 _ _ _ _) (by rw[HD.out];exact Yx _) (by simp only[Wz6,m1E];unfold maxLen;simp;omega) (by simp only[Wz6,m1E];simp;omega) (by have:=HS4.out.below.size;simp;omega) (w4.heap.size+1) (by simp) ?_;intro a5 c5 w5 hown hgrow hat5;rw[HD.out] at hown;have HS5:Hid _:=HS4.out.more (World.grownBy_alloc w4 _ none) hgrow (by rfl) hown;clear hown hgrow hat5 HS4)))
 go_ret;refine⟨_,rfl,_,HBD1.out.defl (by omega) HSQ.out (by have:=HM1.out;omega) (fun h=>by have:=HM1.out;have:=HX2.out h;omega),?_⟩;have h5:=HS5.out;rw[show (([120,1] : List Int)++O1).length+4=m1+1+1+4 by simp[m1E]] at h5;exact h5
end Go.Proofs.YtiaaekdpfpaigaaGreatDoor.Df
