import Derived.Test.YtiaaekdpfpaigaaGreatDoorMn21
set_option linter.unusedSimpArgs false
set_option linter.unusedVariables false
set_option maxRecDepth 20000
set_option maxHeartbeats 4000000
open List renaming append_assoc->Wz1,drop_eq_getElem_cons->WxQ,flatMap_cons->WxK,getElem_mem->Wz5,length_append->Wz6,length_take->Wzz,mem_append->WqX,mem_range->WxV,range->WqK,size_toArray->WqW,take_add_one->Wy8,take_append_drop->Wzv,take_length->WxW
open Nat renaming add_mul->WyX,le_of_lt->Wxz,le_refl->WzV,le_trans->Wqx,lt_of_lt_of_le->Wqj,mul_comm->Wyv,zero_add->Wq7
open Option renaming some->Wq9
namespace Go.Proofs.YtiaaekdpfpaigaaGreatDoor.Pk
open Go.Proofs.Tryz
open Go.RowKit Go.Proofs.YtiaaekdpfpaigaaGreatDoor.Id Go.Proofs.YtiaaekdpfpaigaaGreatDoor.Px
structure En where
 kd:Nat
 d:Nat
 id:List Int
 raw:List Int
 z:List Int
 ob:List Int
abbrev dE:En:=⟨0,0,[],[],[],[]⟩
def enb (e:En):List Int:=hdb e.kd e.raw.length e.d e.id++e.z
def bdy (es:List En):List Int:=es.flatMap enb
def off (es:List En) (i:Nat):Nat:=12+(bdy (es.take i)).length
def mark:List Int:=[80,65,67,75,0,0,0,2]
def pkb (n:Nat) (es:List En):List Int:=mark++n4 n++bdy es
theorem DZ (es:List En) (e:En):bdy (es++[e])=bdy es++enb e:=by simp[bdy]
theorem zv3 (n:Nat) (es:List En) (e:En):pkb n (es++[e])=pkb n es++enb e:=by unfold pkb;rw[DZ];simp only[Wz1]
theorem j0 (n:Nat) (es:List En):(pkb n es).length=off es es.length:=by
 unfold pkb off;rw[WxW,Wz6,Wz6,zv1];rfl
theorem Hv (es:List En) (e:En) (i:Nat) (h:i<=es.length):off (es++[e]) i=off es i:=by
 unfold off;rw[List.take_append_of_le_length h]
theorem VQ (es:List En):off es 0=12:=rfl
theorem k9 (es:List En) (i:Nat) (h:i<es.length):off es (i+1)=off es i+(enb (es.getD i dE)).length:=by
 unfold off;rw[Wy8,List.getD_eq_getElem?_getD,List.getElem?_eq_getElem h];show 12+(bdy (es.take i++[es[i]])).length=_;rw[DZ,Wz6,<-Nat.add_assoc];rfl
theorem off_le (es:List En) (i:Nat) (h:i<=es.length):off es i<=off es es.length:=by
 unfold off;rw[WxW];have e:bdy es=bdy (es.take i)++bdy (es.drop i):=by unfold bdy;rw[<-List.flatMap_append,Wzv]
 rw[e,Wz6];omega
theorem Aw (n:Nat) (es:List En) (i:Nat) (h:i<es.length):(pkb n es).drop (off es i)=enb (es.getD i dE)++bdy (es.drop (i+1)):=by
 have e:bdy es=bdy (es.take i)++(enb (es.getD i dE)++bdy (es.drop (i+1))):=by
  have h2:es=es.take i++(es.getD i dE :: es.drop (i+1)):=by
   rw[List.getD_eq_getElem?_getD,List.getElem?_eq_getElem h];show es=es.take i++(es[i] :: es.drop (i+1));rw[<-WxQ h,Wzv]
  conv=>lhs;rw[h2]
  simp[bdy]
 have h3:off es i=(mark++n4 n++bdy (es.take i)).length:=by
  unfold off;rw[Wz6,Wz6,zv1];rfl
 unfold pkb;rw[e,<-Wz1,h3,List.drop_left]
structure Ok (K:Nat) (hs:List (List Int)) (es:List En) (i:Nat) (e:En):Prop where
 z:Df.Defl e.raw e.z
 isb:IsB e.raw
 len:e.raw.length<=30000
 idl:e.id.length=20
 idb:IsB e.id
 obb:IsB e.ob
 obl:e.ob.length<=20000
 how:(e.kd=K/\e.raw=e.ob/\e.d=0/\e.id=z20) ∨ (e.kd=6/\0<i/\12+e.d=off es i/\e.id=z20/\Dl.Plain.app (es.getD 0 dE).ob e.raw=some e.ob) ∨ (e.kd=7/\e.d=0/\∃ h ∈ hs,e.id=idZ K h/\Dl.Plain.app h e.raw=some e.ob)
theorem Ok.kd8 {K:Nat} {hs:List (List Int)} {es:List En} {i:Nat} {e:En} (h:Ok K hs es i e) (hK:1<=K/\K<=4):0<e.kd/\e.kd<8:=by
 rcases h.how with ⟨h,_⟩ | ⟨h,_⟩ | ⟨h,_⟩ <;> omega
theorem Ok.snoc {K:Nat} {hs:List (List Int)} {es:List En} {i:Nat} {e x:En} (h:Ok K hs es i e) (hi:i<=es.length):Ok K hs (es++[x]) i e:=by
 refine⟨h.z,h.isb,h.len,h.idl,h.idb,h.obb,h.obl,?_⟩;rcases h.how with a | ⟨a,b,c,d,f⟩ | a
 ·exact .inl a
 ·refine .inr (.inl ⟨a,b,by rw[Hv _ _ _ hi];exact c,d,?_⟩);have h0:0<es.length:=by omega
  have:(es++[x]).getD 0 dE=es.getD 0 dE:=by
   rw[List.getD_eq_getElem?_getD,List.getD_eq_getElem?_getD,List.getElem?_append_left h0]
  rw[this];exact f
 exact .inr (.inr a)
def Oks (K:Nat) (hs:List (List Int)) (es:List En):Prop := ∀ i,i<es.length->Ok K hs es i (es.getD i dE)
theorem Oks.snoc {K:Nat} {hs:List (List Int)} {es:List En} {x:En} (h:Oks K hs es) (hx:Ok K hs es es.length x):Oks K hs (es++[x]):=by
 intro i hi;rw[Wz6,List.length_singleton] at hi;rcases Nat.lt_or_ge i es.length with h1 | h1
 ·have e:(es++[x]).getD i dE=es.getD i dE:=by rw[List.getD_eq_getElem?_getD,List.getD_eq_getElem?_getD,List.getElem?_append_left h1]
  rw[e];exact(h i h1).snoc (by omega)
 obtain rfl:i=es.length:=by omega
 have e:(es++[x]).getD es.length dE=x:=by rw[List.getD_eq_getElem?_getD,List.getElem?_append_right (WzV _),Nat.sub_self];rfl
 rw[e];exact hx.snoc (WzV _)
end Go.Proofs.YtiaaekdpfpaigaaGreatDoor.Pk
namespace Go.Proofs.YtiaaekdpfpaigaaGreatDoor.Pk
open Go.Proofs.Tryz
open Go.RowKit Go.Maps Go.Proofs.YtiaaekdpfpaigaaGreatDoor.Id Go.Proofs.YtiaaekdpfpaigaaGreatDoor.Px
theorem mapM_some {α β:Type} (f:α->Option β):∀ l:List α,(∀ i ∈ l,∃ y,f i=some y)->∃ ys,l.mapM f=some ys
 | [],_=>⟨[],rfl⟩
 | a :: r,h=>by
  obtain⟨y,hy⟩:=h a (by simp);obtain⟨ys,hys⟩:=mapM_some f r (fun i hi=>h i (by simp[hi]));exact⟨y :: ys,by simp[List.mapM_cons,hy,hys]⟩
theorem YQ {P:Program} (d:Nat) (e:TypeId) (he:P.plainKey e=true) (hu:P.underlying e=some (.int .u8)) (xs ys:List Int):∀ (is:List Nat) (w:World),(∀ j ∈ is,j<xs.length/\j<ys.length)->(Op.eqItems (d+1) e 1 (row .u8 xs).toArray (row .u8 ys).toArray is).run P w=.ok (is.all fun j=>xs.getD j 0 == ys.getD j 0) w
 | [],w,_=>by simp[Op.eqItems]
 | j :: is,w,h=>by
  have hj:=h j (by simp);have hp:(part e (row .u8 xs).toArray j).run P w=.ok (.int .u8 (xs.getD j 0)) w:=run_part_plain w he (by simpa using vz .u8 xs j hj.1);have hq:(part e (row .u8 ys).toArray j).run P w=.ok (.int .u8 (ys.getD j 0)) w:=run_part_plain w he (by simpa using vz .u8 ys j hj.2);have ih:=YQ d e he hu xs ys is w (fun k hk=>h k (by simp[hk]))
  simp only[Op.eqItems,Sem.run_bind,Nat.mul_one,hp,hq,Result.andThen_ok];by_cases hxy:xs.getD j 0=ys.getD j 0
  ·have h2:xs[j]?.getD 0=ys[j]?.getD 0:=(by simpa using hxy);simp[go_sem,hu,ih,h2]
  have h2:¬ xs[j]?.getD 0=ys[j]?.getD 0:=by simpa using hxy
  simp[go_sem,hu,ih,h2]
theorem zV {α:Type} (l:List α) (i:Nat) (d:α) (h:i<l.length):l.getD i d ∈ l:=by
 rw[List.getD_eq_getElem?_getD,List.getElem?_eq_getElem h];exact Wz5 _
theorem yY {α:Type} (d:α) (s:List α) (i:Nat) (h:i<s.length):s.take (i+1)=s.take i++[s.getD i d]:=by
 rw[Wy8,List.getD_eq_getElem?_getD,List.getElem?_eq_getElem h];rfl
section
variable {α : Type} (enc : α → List Value) (k : Nat) (d : α)
structure Pw (w:World) (a:Option Addr) (cap:Nat) (l:List α):Prop where
 capl:l.length<=cap
 at_:0<l.length->∃ b off,a=some ⟨b,off,none⟩/\b<w.heap.size/\∀ i,i<l.length->w.rangeAt b (off+i*k) (enc (l.getD i d))
 nil:a=none->cap=0
structure Bx (e:TypeId) (w0 w:World) (B:Nat) (v:Value) (l:List α):Prop where
 below:Below B w0 w
 own:w.ownsRow B e k v l.length (l.flatMap enc)
 le:B<=w.heap.size
end
section
variable {α : Type} {enc : α → List Value} {k : Nat} {d : α}
theorem Pw.below {w w':World} {a:Option Addr} {cap:Nat} {l:List α} (h:Pw enc k d w a cap l) (hb:Below w.heap.size w w'):Pw enc k d w' a cap l :=
 ⟨h.capl,fun h0=>by
  obtain⟨b,off,e1,e2,e3⟩:=h.at_ h0
  exact⟨b,off,e1,Wqj e2 hb.size,fun i hi j v hv=>(hb.cell (p:=⟨b,off+i*k+j,none⟩) e2).trans (e3 i hi j v hv)⟩,h.nil⟩
theorem Pw.grown {w w':World} {a:Option Addr} {cap K:Nat} {l:List α} (h:Pw enc k d w a cap l) (hK:∀ p:Addr,a=some p->p.block ≠ K) (hg:w.grownBy w' (some K)):Pw enc k d w' a cap l :=
 ⟨h.capl,fun h0=>by
  obtain⟨b,off,e1,e2,e3⟩:=h.at_ h0
  refine⟨b,off,e1,Wqj e2 hg.size,fun i hi j v hv=>?_⟩
  rw[World.cell?_of_block (a:=⟨b,off+i*k+j,none⟩) (hg.block b e2 (fun e=>hK _ e1 (by cases e;rfl)))]
  exact e3 i hi j v hv,h.nil⟩
theorem Pw.take {w:World} {a:Option Addr} {cap:Nat} {l:List α} (h:Pw enc k d w a cap l) (j:Nat):Pw enc k d w a cap (l.take j) :=
 ⟨by rw[Wzz];have:=h.capl;omega,fun h0=>by
  rw[Wzz] at h0
  obtain⟨b,off,e1,e2,e3⟩:=h.at_ (by omega)
  refine⟨b,off,e1,e2,fun i hi=>?_⟩
  rw[Wzz] at hi
  have:=e3 i (by omega)
  rw[show (l.take j).getD i d=l.getD i d by rw[List.getD_eq_getElem?_getD,List.getD_eq_getElem?_getD,List.getElem?_take,if_pos (by omega)]]
  exact this,h.nil⟩
theorem LK (l:List α) (h:∀ x ∈ l,(enc x).length=k):(l.flatMap enc).length=l.length*k:=by
 induction l with
 | nil=>simp
 | cons x l ih =>
  have h1:=ih (fun y hy=>h y (by simp[hy]));have h2:=h x (by simp);simp only[WxK,Wz6,List.length_cons,WyX] at h1 ⊢;omega
theorem zv4:∀ (l:List α) (h:∀ x ∈ l,(enc x).length=k) (i j:Nat),i<l.length->j<k->(l.flatMap enc)[i*k+j]? = (enc (l.getD i d))[j]?
 | [],h,i,j,hi,hj=>by simp at hi
 | x :: r,h,0,j,hi,hj=>by
  have h2:=h x (by simp)
  simp only[WxK,Nat.zero_mul,Wq7]
  rw[List.getElem?_append_left (by omega)]
  rfl
 | x :: r,h,i+1,j,hi,hj=>by
  have h2:=h x (by simp)
  have:=zv4 r (fun y hy=>h y (by simp[hy])) i j (by simpa using hi) hj
  simp only[WxK]
  rw[List.getElem?_append_right (by rw[h2,WyX];omega),h2,show (i+1)*k+j-k=i*k+j by rw[WyX];omega,this]
  rfl
theorem Pw.cells {w:World} {b off cap:Nat} {l:List α} (hk:0<k) (h:Pw enc k d w (some ⟨b,off,none⟩) cap l) (hw:∀ x ∈ l,(enc x).length=k):∀ (j:Nat) (u:Value),(l.flatMap enc)[j]? = some u->w.cell? ((⟨b,off,none⟩:Addr).add j)=some u:=by
 intro j u hj;have hlt:=(List.getElem?_eq_some_iff.1 hj).1;rw[LK l hw] at hlt;have hd:j / k<l.length:=Nat.div_lt_of_lt_mul (by rw[Wyv];exact hlt);have hm:j % k<k:=Nat.mod_lt _ hk;obtain⟨b',off',e1,e2,e3⟩:=h.at_ (Nat.lt_of_le_of_lt (Nat.zero_le _) hd);cases e1
 have e:j / k*k+j % k=j:=by rw[Wyv];exact Nat.div_add_mod j k
 have hf:=zv4 (d:=d) l hw (j / k) (j % k) hd hm;rw[e,hj] at hf;have:=e3 (j / k) hd (j % k) u hf.symm;rw[addr_add,<-this];congr 2;omega
theorem Bx.alloc {e:TypeId} {w0 w:World} {B:Nat} {v:Value} {l:List α} (h:Bx enc k e w0 w B v l) (o:Obj):Bx enc k e w0 (w.alloc o) B v l :=
 ⟨h.below.alloc h.le o,h.own.alloc o,Wqx h.le (by simp)⟩
theorem LV (e:TypeId) (w:World) (B:Nat) (h:B<=w.heap.size):Bx enc k e w w B (.slice none 0 0) []:=⟨Below.refl _ _,⟨by simp,.inl ⟨rfl,rfl⟩⟩,h⟩
theorem Bx.carry {e:TypeId} {w0 w w':World} {B:Nat} {v:Value} {l:List α} (h:Bx enc k e w0 w B v l) (hb:Below w.heap.size w w'):Bx enc k e w0 w' B v l :=
 ⟨h.below.trans (hb.mono h.le),h.own.kept (row:=none) ⟨hb.os,hb.tape,hb.output,hb.size,fun k hk _=>hb.block k hk⟩ (by cases h:v.ownBlock <;> simp),Wqx h.le hb.size⟩
theorem Bx.px {e:TypeId} {w0 w:World} {B:Nat} {v:Value} {l:List α} (h:Bx enc k e w0 w B v l) (hw:∀ x ∈ l,(enc x).length=k):∃ a cap,v=.slice a l.length cap/\Pw enc k d w a cap l/\(∀ p:Addr,a=some p->B<=p.block/\p.block<w.heap.size)/\(a=none ∨ ∃ b,a=some ⟨b,0,none⟩):=by
 obtain⟨hl,⟨hv,h0⟩ | ⟨g,cap,cur,hv,hb,hh,hkc,hcm,hsz,htk⟩⟩:=h.own
 ·refine⟨none,0,by rw[hv,h0],⟨by omega,fun h=>by omega,fun _=>rfl⟩,(fun p hp=>by cases hp),.inl rfl⟩
 refine⟨_,cap,hv,⟨hkc,fun _=>⟨g,0,rfl,lt_of_some hh,fun i hi j v hv=>?_⟩,fun e=>by cases e⟩,(fun p hp=>by cases hp;exact⟨hb,lt_of_some hh⟩),.inr ⟨g,rfl⟩⟩;have hj:j<k:=by
  have:=(List.getElem?_eq_some_iff.1 hv).1;rw[hw _ (zV l i d hi)] at this;exact this
 have hf:=zv4 (d:=d) l hw i j hi hj;rw[hv] at hf;rw[Wq7,cell_of_row w g (i*k+j) _ _ _ hh];have hlt:i*k+j<l.length*k:=by
  have:=(List.getElem?_eq_some_iff.1 hf).1;rw[LK l hw] at this;exact this
 rw[<-htk,List.getElem?_take_of_lt hlt] at hf;simpa using hf
theorem Bx.move {e:TypeId} {w0 w w':World} {B:Nat} {v:Value} {l:List α} {row:Option Nat} (h:Bx enc k e w0 w B v l) (hg:w.grownBy w' row) (hne:v.ownBlock=none ∨ v.ownBlock ≠ row):Bx enc k e w' w' B v l :=
 ⟨Below.refl _ _,h.own.kept hg hne,Wqx h.le hg.size⟩
theorem Bx.re {e:TypeId} {w0 w:World} {B:Nat} {v:Value} {l:List α} (h:Bx enc k e w0 w B v l):Bx enc k e w w B v l:=⟨Below.refl _ _,h.own,h.le⟩
theorem Bx.moveB {e:TypeId} {w0 w w':World} {B:Nat} {v:Value} {l:List α} (h:Bx enc k e w0 w B v l) (hb:Below w.heap.size w w'):Bx enc k e w' w' B v l:=h.move (row:=none) (yZ hb _) (by cases hv:v.ownBlock <;> simp)
end
def IdW (x:List Int):Prop:=x.length=20/\IsB x
abbrev idV (x:List Int):Value:=.agg (row .u8 x).toArray
theorem DQ (x y:List Int) (hx:x.length=20) (hy:y.length=20):((WqK 20).all fun j=>x.getD j 0 == y.getD j 0)=decide (x=y):=by
 by_cases h:x=y
 ·subst h;simp
 rw[decide_eq_false h,Bool.eq_false_iff];intro hall;refine h (List.ext_getElem (by rw[hx,hy]) (fun j h1 h2=>?_));have:=List.all_eq_true.1 hall j (WxV.2 (by omega));simpa [h1,h2] using this
theorem zv5:prog.types.size=304:=by kernel_rfl
theorem Hw:prog.cellsOf 5=1:=by kernel_rfl
theorem zv6:prog.plainKey 5=true:=by kernel_rfl
theorem eq42 (x y:List Int) (hx:x.length=20) (hy:y.length=20) (w:World):(Op.equalIn 10000 68 (idV x) (idV y)).run prog w=.ok (decide (x=y)) w:=by
 obtain⟨i5,hi,-⟩:=info_parts info5;have h1:=YQ (P:=prog) 9998 5 zv6 underlying5 x y (WqK 20) w (fun j hj=>by rw[hx,hy];exact⟨WxV.1 hj,WxV.1 hj⟩);rw[DQ x y hx hy] at h1;rw[show (10000:Nat)=9999+1 from rfl,run_equalIn_array w 9999 _ _ underlying68 hi,Hw];exact h1
theorem eq41 (x y:List Int) (hx:x.length=20) (hy:y.length=20) (w:World):(Op.equalIn 10000 47 (idV x) (idV y)).run prog w=.ok (decide (x=y)) w:=by
 obtain⟨i5,hi,-⟩:=info_parts info5;have h1:=YQ (P:=prog) 9998 5 zv6 underlying5 x y (WqK 20) w (fun j hj=>by rw[hx,hy];exact⟨WxV.1 hj,WxV.1 hj⟩);rw[DQ x y hx hy] at h1;rw[show (10000:Nat)=9999+1 from rfl,run_equalIn_array w 9999 _ _ underlying47 hi,Hw];exact h1
theorem Tq:prog.cellsOf 68=20:=by kernel_rfl
theorem JK:Maps.Keyed prog 68:=Maps.Keyed.of_law (deep_law_laid (m:=10) (by kernel_rfl) (by decide) (of_decide_eq_true (by kernel_rfl)) (by kernel_rfl) (by kernel_rfl))
theorem LW (x:List Int) (h:x.length=20) (hb:IsB x):∃ kl,keyOf prog 68 (idV x)=some kl:=by
 have hlen:(row .u8 x).length=20:=by rw[zu];exact h
 have hform:(idV x).formed prog 68=true:=by
  simp[Value.formed,underlying68,hlen,Tq]
 have hlits:∃ ls,prog.keyLits 305 68 (row .u8 x)=some ls:=by
  obtain⟨ys,hys⟩:=mapM_some (fun i=>prog.keyLits 304 5 (((row .u8 x).drop (i*prog.cellsOf 5)).take (prog.cellsOf 5))) (WqK 20) (fun i hi=>by
   have hi2:i<20:=WxV.1 hi;refine⟨[.int .u8 (x[i]'(by omega))],?_⟩;have e:((row .u8 x).drop (i*prog.cellsOf 5)).take (prog.cellsOf 5)=[.int .u8 (x[i]'(by omega))]:=by
    rw[Hw,Nat.mul_one,WxQ (by omega)];simp[row]
   rw[e];have hw:(Lit.int .u8 (x[i]'(by omega))).wf=true:=by
    have:=hb _ (Wz5 (l:=x) (n:=i) (by omega));exact WalkArith.wf_u8 ⟨this.1,by omega⟩
   unfold Program.keyLits;rw[underlying5];simp[hw])
  refine⟨ys.flatten,?_⟩;unfold Program.keyLits;rw[underlying68];simp only[Tq,hlen,if_true];rw[hys];rfl
 obtain⟨ls,hls⟩:=hlits;refine⟨.string (keyBytes ls),?_⟩;unfold keyOf;rw[underlying68];simp only;rw[if_pos (by rw[hform];kernel_rfl),zv5];show Option.map _ (prog.keyLits (304+1) 68 (row .u8 x))=_;rw[hls];rfl
theorem qz4 {x y:List Int} (h:idV x=idV y):x=y:=by
 injection h with h;have h2:row .u8 x=row .u8 y:=by simpa using congrArg Array.toList h
 unfold row at h2;exact List.map_inj_right (fun a b e=>by injection e) |>.1 h2
theorem J3 {P:Program} {o:Oper} {a:Act} {w w':World} {t:TypeId} {m k:Operand} {b:Bool} (ho:o.op=.lookup t m k b) {mv kv v:Value} (hm:a.eval m=mv) (hk:a.eval k=kv) (hr:(Instr.lookup t mv kv b).run P w=.ok v w'):(execOp a.eval o).run P w=.ok (.value v) w':=by
 unfold execOp;simp[ho,hm,hk,hr,Result.andThen]
theorem j8 {P:Program} {o:Oper} {a:Act} {w w':World} {t:TypeId} {m k x:Operand} (ho:o.op=.mapUpdate t m k x) {mv kv v:Value} (hm:a.eval m=mv) (hk:a.eval k=kv) (hx:a.eval x=v) (hr:(Instr.mapUpdate t mv kv v).run P w=.ok () w'):(execOp a.eval o).run P w=.ok .skip w':=by
 unfold execOp;simp[ho,hm,hk,hx,hr,Result.andThen]
structure Nw (ty:TypeId) (z:Array Value) (W W':World) (H:Nat) (R:List Value):Prop where
 h:W.heap.size=H
 w:(W.alloc (.cells z ty)).setRow W.heap.size R.toArray=W'
 d:(W.alloc (.cells z ty)).heap[W.heap.size]? = some (.cells z ty (0,0))
 below:Below H W W'
 box:W'.heap[H]? = some (.cells R.toArray ty (0,0))
 lt:H<W'.heap.size
theorem Nw.at {ty:TypeId} {z:Array Value} {W W':World} {H:Nat} {R:List Value} (h:Nw ty z W W' H R):W'.rangeAt H 0 R:=zx h.box
theorem nw (ty:TypeId) (z:Array Value) (W:World) (R:List Value):∃ H W',Hid (Nw ty z W W' H R):=by
 have D0:=heap_alloc_new W (.cells z ty);have hb:=setRow_heap (W.alloc (.cells z ty)) W.heap.size z R.toArray ty (0,0) D0;exact⟨W.heap.size,_,hid ⟨rfl,rfl,D0,below_setRow ((Below.refl _ W).alloc (WzV _) _) (WzV _) _,hb,lt_of_some hb⟩⟩
structure Rw (x:List Int) (R:List Value):Prop where
 e:row .u8 x=R
 i31:(prog.info? 47).map (·.size)=some R.length
 i56:(prog.info? 68).map (·.size)=some R.length
 j31:(prog.info? 47).map (·.size)=some R.toArray.size
 j56:(prog.info? 68).map (·.size)=some R.toArray.size
 o:R.toArray.all (·.oneCell')=true
 z:(row .u8 z20).toArray.size=R.toArray.size
theorem rw_ {x:List Int} (h:x.length=20):∃ R,Hid (Rw x R):=by
 have hl:(row .u8 x).length=20:=by rw[zu];exact h
 have hs:(row .u8 x).toArray.size=20:=by rw[WqW];exact hl
 exact⟨_,hid ⟨rfl,by rw[hl];exact size47,by rw[hl];exact size68,by rw[hs];exact size47,by rw[hs];exact size68,all_oneCell_toArray (row_one _ _),by rw[hs];rfl⟩⟩
theorem Pw.mv {α:Type} {enc:α->List Value} {k:Nat} {d:α} {w w':World} {a:Option Addr} {cap:Nat} {l:List α} {v v':Value} (h:Pw enc k d w a cap l) (hm:Dl.Mv w w' v v') (hne:∀ p:Addr,a=some p->some p.block ≠ v.ownBlock):Pw enc k d w' a cap l :=
 ⟨h.capl,fun h0=>by
  obtain⟨b,off,e1,e2,e3⟩:=h.at_ h0
  refine⟨b,off,e1,Wqj e2 hm.size,fun i hi j u hu=>?_⟩
  rw[World.cell?_of_block (a:=⟨b,off+i*k+j,none⟩) (hm.blk b e2 (hne _ e1))]
  exact e3 i hi j u hu,h.nil⟩
section
variable {α : Type} {enc : α → List Value} {k : Nat} {d : α}
end
theorem sL {α:Type} : (∀ (l:List α) (i:Nat) (v:α),l.toArray.setIfInBounds i v=(l.set i v).toArray)/\(∀ (l:List α) (a b:α),(a :: l).set 0 b=b :: l)/\(∀ (l:List α) (n:Nat) (a b:α),(a :: l).set (n+1) b=a :: l.set n b):=⟨fun l i v=>List.setIfInBounds_toArray ..,fun _ _ _=>rfl,fun _ _ _ _=>rfl⟩
theorem qw {P:Program} {ops:Array Oper} {rest:List Oper} {o:Oper} {a:Act} {w w':World} {Q:Exit->Act->World->Prop} (hg:o.guard=none) (v:Value) (hr:(execOp a.eval o).run P w=.ok (.value v) w') (h:wpList P ops Q rest (a.put o.dst v) w'):wpList P ops Q (o :: rest) a w:=by
 refine wpList_plain hg fun K hK=>?_;unfold Oper.wp;rw[hr];exact hK _ _ h
theorem wpList_skip {P:Program} {ops:Array Oper} {rest:List Oper} {o:Oper} {a:Act} {w w':World} {Q:Exit->Act->World->Prop} (hg:o.guard=none) (hr:(execOp a.eval o).run P w=.ok .skip w') (h:wpList P ops Q rest (a.put o.dst undef) w'):wpList P ops Q (o :: rest) a w:=by
 refine wpList_plain hg fun K hK=>?_;unfold Oper.wp;rw[hr];exact hK _ _ h
theorem step_skip {P:Program} {ops:Array Oper} {o:Oper} {a:Act} {w w':World} {K:Act->World->Prop} {Q:Exit->Act->World->Prop} {E:Prop} (hg:o.guard=none) (hr:(execOp a.eval o).run P w=.ok .skip w') (h:K (a.put o.dst undef) w') :
  if Region.wanted o (yielded ops a.tmps)=true then Oper.wp P o a w K Q else E:=by
 have hw:Region.wanted o (yielded ops a.tmps)=true:=by simp[Region.wanted,hg]
 rw[if_pos hw];unfold Oper.wp;rw[hr];exact h
theorem xw {P:Program} {o:Oper} {a:Act} {w w':World} (t len:Nat) (x:Operand) (ho:o.op=.buildSlice t len #[(0,x)]) (u1 v:Value) (h1:a.eval x=u1) (hr:(Instr.buildSlice t len #[(0,u1)]).run P w=.ok v w'):(execOp a.eval o).run P w=.ok (.value v) w':=by
 unfold execOp;simp[ho,h1,hr,Result.andThen]
theorem VX {P:Program} {o:Oper} {a:Act} {w w':World} (t:Nat) (x y:Operand) (ho:o.op=.build t #[(0,x),(1,y)]) (u1 u2 v:Value) (h1:a.eval x=u1) (h2:a.eval y=u2) (hr:(Instr.build t #[(0,u1),(1,u2)]).run P w=.ok v w'):(execOp a.eval o).run P w=.ok (.value v) w':=by
 unfold execOp;simp[ho,h1,h2,hr,Result.andThen]
theorem qk {P:Program} {md:Region.Mode} {Q:Exit->Act->World->Prop} {S:World->Prop} {l:List Oper} {i:Nat} {oi:Oper} {v:Value} {fuel:Nat} {listed:Array Bool} {a:Act} {w:World} (hS:S w)
  (h:wpAnyH P md l.toArray Q S fuel (listed.setIfInBounds i true) (a.put oi.dst v) w) (hx:listed.toList.findIdx? (fun b => !b)=some i:=by rfl) (hi:l[i]? = some oi:=by rfl) (hg:Region.wanted oi (yielded l.toArray a.tmps)=true:=by rfl)
  (hs:Region.noSelect l.toArray=true:=by kernel_rfl) (hf:Region.free md l.toArray listed i=true:=by kernel_rfl) (hr:(Region.ready md l.toArray listed).contains i=true:=by kernel_rfl) (hQ:∀ c a w,Q (.panic c) (a.put oi.dst v) w->Q (.panic c) a w:=by exact fun _ _ _ h=>h) (hy:∀ w',S w'->(execOp a.eval oi).run P w'=.ok (.value v) w':=by intro w' h;cases h;go_simp;first | done | rfl) :
  wpAnyH P md l.toArray Q S (fuel+1) listed a w:=Dl.takeL hi hs hf hr hQ (Or.inl ⟨hg,hy⟩) hS h
theorem zv7 {P:Program} {md:Region.Mode} {Q:Exit->Act->World->Prop} {S:World->Prop} {l:List Oper} {i:Nat} {oi:Oper} {fuel:Nat} {listed:Array Bool} {a:Act} {w:World} (hS:S w)
  (h:wpAnyH P md l.toArray Q S fuel (listed.setIfInBounds i true) (a.put oi.dst undef) w) (hx:listed.toList.findIdx? (fun b => !b)=some i:=by rfl) (hi:l[i]? = some oi:=by rfl) (hg:Region.wanted oi (yielded l.toArray a.tmps)=false:=by rfl)
  (hs:Region.noSelect l.toArray=true:=by kernel_rfl) (hf:Region.free md l.toArray listed i=true:=by kernel_rfl) (hr:(Region.ready md l.toArray listed).contains i=true:=by kernel_rfl) (hQ:∀ c a w,Q (.panic c) (a.put oi.dst undef) w->Q (.panic c) a w:=by exact fun _ _ _ h=>h) :
  wpAnyH P md l.toArray Q S (fuel+1) listed a w:=Dl.takeL hi hs hf hr hQ (Or.inr ⟨hg,rfl⟩) hS h
abbrev RV (v:Value):Option (DataW Value × List MemPlace):=some (.held v,[])
section
variable {α : Type} (kt : TypeId) (K : α → Value) (z : Value)
def FM (w:World) (g n s:Nat) (M:α->Option Value):Prop :=
 ∃ D,w.ownsMap (H:=Value) prog kt RV g n D/\Maps.size D=s/\∀ x kl,keyOf prog kt (K x)=some kl->Maps.has D kl=(M x).isSome/\D.atKey kl (.held z)=.held ((M x).getD z)
theorem JW (w:World):FM kt K z (w.alloc (.map #[] 0)) w.heap.size 0 0 (fun _=>none):=⟨_,World.ownsMap_made _ _ _ _,rfl,fun x kl _=>by simp[Maps.has,DataW.atKey]⟩
end
section
variable {α : Type} {kt : TypeId} {K : α → Value} {z : Value} {w : World} {g n s : Nat} {M : α → Option Value}
theorem FM.sm {W:World} (h:FM kt K z w g n s M) (hg:W.heap[g]? = w.heap[g]?):FM kt K z W g n s M:=by
 obtain⟨D,⟨es,ck,hb,hr⟩,h2⟩:=h;exact⟨D,⟨es,ck,hg.trans hb,hr⟩,h2⟩
theorem FM.lt (h:FM kt K z w g n s M):g<w.heap.size:=by obtain⟨D,h1,_⟩:=h;exact h1.lt
theorem FM.below {W:World} (h:FM kt K z w g n s M) (hb:Below w.heap.size w W):FM kt K z W g n s M:=h.sm (hb.block _ h.lt)
theorem FM.look (h:FM kt K z w g n s M) (hK:Maps.Keyed prog kt) {t e:TypeId} (hu:prog.underlying t=some (.map kt e)) (hz:∀ w:World,(zeroValue e).run prog w=.ok z w) {x:α} {kl:Lit} (hkl:keyOf prog kt (K x)=some kl) :
  (Instr.lookup t (.map (some g)) (K x) true).run prog w=.ok (.tuple #[(M x).getD z,.bool (M x).isSome]) w:=by
 obtain⟨D,h1,_,h2⟩:=h;obtain⟨v,ps,hrun,hv⟩:=h1.look_ok hK hu (hz w) (zd:=.held z) (zp:=[]) rfl hkl;obtain⟨e1,e2⟩:=h2 x kl hkl;rw[e2] at hv;have:v=(M x).getD z:=by
  have:=congrArg (fun o=>o.map (·.1)) hv;simp only[RV,Option.map_some] at this;exact DataW.held.inj (Wq9.inj this)
 rw[hrun,this,e1]
theorem FM.len (h:FM kt K z w g n s M) {t e:TypeId} (hu:prog.underlying t=some (.map kt e)) (ty:TypeId):(Builtin.len_ #[t] ty #[.map (some g)]).run prog w=.ok (.int .i64 s) w:=by
 obtain⟨D,h1,h2,_⟩:=h;rw[<-h2];exact h1.len hu ty
theorem FM.put [DecidableEq α] (h:FM kt K z w g n s M) (hK:Maps.Keyed prog kt) (hi:∀ x y,K x=K y->x=y) (hn:n<=100000) {t e:TypeId} (hu:prog.underlying t=some (.map kt e)) {x:α} {kl:Lit} (hkl:keyOf prog kt (K x)=some kl) (v:Value) :
  ∃ w',(Instr.mapUpdate t (.map (some g)) (K x) v).run prog w=.ok () w'/\FM kt K z w' g (n+1) (if (M x).isSome then s else s+1) (fun y=>if y=x then some v else M y)/\w.grownBy w' (some g):=by
 obtain⟨D,h1,h9,h2⟩:=h;obtain⟨w',hrun,h3,h4⟩:=h1.update hK hu (by unfold maxLen;omega) hkl (val:=v) (d:=.held v) (ps:=[]) rfl;refine⟨w',hrun,⟨_,h3,?_,fun y ky hky=>?_⟩,h4⟩
 ·rw[Maps.size_put (h1.tidy hK),(h2 x kl hkl).1,h9]
 simp only;by_cases e:ky=kl
 ·subst e;rw[Maps.has_put_same h1.isMap (hK.key hkl),Maps.atKey_put_same h1.isMap (hK.key hkl),if_pos (hi _ _ (hK.inj hky hkl))];exact⟨rfl,rfl⟩
 rw[Maps.has_put_other e,Maps.atKey_put_other e,if_neg (fun h:y=x=>by rw[h,hkl] at hky;exact e (Wq9.inj hky).symm)];exact h2 y ky hky
end
theorem zv8:prog.underlying 63=some (.map 3 3):=by kernel_rfl
theorem I2:prog.underlying 64=some (.map 68 3):=by kernel_rfl
theorem qqX:prog.underlying 65=some (.map 68 27):=by kernel_rfl
theorem zero3 (w:World):(zeroValue 3).run prog w=.ok (.int .i64 0) w:=by kernel_rfl
theorem Ux (w:World):(zeroValue 27).run prog w=.ok (.agg #[.int .i64 0,.slice none 0 0]) w:=by kernel_rfl
theorem Ay:Maps.Keyed prog 3:=Maps.int_keyed underlying3
theorem LY (n:Int) (h:(Lit.int .i64 n).wf=true):keyOf prog 3 (.int .i64 n)=some (.int .i64 n):=Maps.keyOf_int_mk underlying3 h
theorem XY {l:List Int} (h:Id.IsB l):Dl.IsB l:=fun x hx=>by have:=h x hx;omega
theorem I3 {w:World} {a:Option Addr} {c:Nat} {l:List Int} (h:Id.Sl w a c l):Dl.Sl w a c l:=⟨h.capl,h.at_,h.nil⟩
theorem qV {w:World} {B B':Nat} {e:TypeId} {s:Nat} {v:Value} {n:Nat} {xs:List Value} (h:w.ownsRow B' e s v n xs) (hB:B<=B'):w.ownsRow B e s v n xs:=by
 obtain⟨h1,h2 | ⟨g,c,cur,h2,h3,h4⟩⟩:=h
 ·exact⟨h1,.inl h2⟩
 exact⟨h1,.inr ⟨g,c,cur,h2,Wqx hB h3,h4⟩⟩
theorem zv9 {w:World} {b o:Nat} {l:List Int} (h:Id.At w b o l):Df.At w b o l:=h
theorem Au {l:List Int} (h:Id.IsB l):Df.IsB l:=fun x hx=>by have:=h x hx;omega
theorem zvz {l:List Int} (h:Df.IsB l):Id.IsB l:=fun x hx=>by have:=h x hx;omega
theorem VJ:IsB z20:=fun x hx=>by unfold z20 at hx;have:=List.eq_of_mem_replicate hx;subst this;exact⟨by decide,by decide⟩
theorem results95:f95.results=#[.cell 2 70,.tmp 3,.tmp 4,.tmp 5]:=by kernel_rfl
theorem GV {P:Program} {fn:Func} {p q r s:Tmp} {ty:TypeId} (h:fn.results=#[.cell p ty,.tmp q,.tmp r,.tmp s]) (tmps:Array Value) (w:World) (g:Nat) (cs:List Value) (d:TypeDesc) (v u x:Value)
  (hp:tmps.getD p undef=.pointer (some ⟨g,0,none⟩)) (hq:tmps.getD q undef=v) (hr:tmps.getD r undef=u) (hs:tmps.getD s undef=x) (hc:w.rangeAt g 0 cs) (hu:P.underlying ty=some d) (hd:d.isRow=true) (hi:(P.info? ty).map (·.size)=some cs.length) :
  (results fn tmps).run P w=.ok (.tuple #[.agg cs.toArray,v,u,x]) w:=by
 have hp':tmps[p]?.getD undef=.pointer (some ⟨g,0,none⟩):=by simpa using hp
 have hq':tmps[q]?.getD undef=v:=by simpa using hq
 have hr':tmps[r]?.getD undef=u:=by simpa using hr
 have hs':tmps[s]?.getD undef=x:=by simpa using hs
 simp[results,h,hp',hq',hr',hs',asAddr,run_loadVar_mid w g 0 ty cs d hc hu hd hi]
theorem I4 {K:Nat} {hs:List (List Int)} {es:List En} {i:Nat} {e:En} (h:Ok K hs es i e) (hK:1<=K/\K<=4):IsB (enb e):=by
 intro x hx;have h8:=h.kd8 hK;unfold enb hdb at hx;rcases WqX.1 hx with hx | hx
 ·rcases WqX.1 hx with hx | hx
  ·exact zk1 _ _ h8.2 x hx
  split at hx
  ·exact Fy 3 e.d 0 (by omega) x hx
  split at hx
  ·exact h.idb x hx
  cases hx
 exact zvz h.z.isB x hx
theorem zvq {K:Nat} {hs:List (List Int)} {es:List En} {i:Nat} {e:En} (h:Ok K hs es i e) (hK:1<=K/\K<=4) (hd:e.d<2113664) (more:List Int) :
  ∃ X,rkd (enb e++more)=some (e.kd,e.raw.length,X)/\X.length<=(enb e++more).length/\(∀ x ∈ X,x ∈ enb e++more)/\
  ((e.kd=6/\e.raw.length<=200000/\rd 4 0 X=some (e.d,e.z++more)/\e.id=z20) ∨ (e.kd=7/\e.raw.length<=200000/\e.d=0/\X=e.id++(e.z++more)/\e.id.length=20) ∨ (1<=e.kd/\e.kd<=4/\e.raw.length<=100000/\e.d=0/\e.id=z20/\X=e.z++more)):=by
 have h8:=h.kd8 hK;have hl:=h.len;have e1:enb e++more=kd e.kd e.raw.length++((if e.kd=6 then ds 3 e.d 0 else if e.kd=7 then e.id else [])++(e.z++more)):=by
  unfold enb hdb;simp only[Wz1]
 refine⟨(if e.kd=6 then ds 3 e.d 0 else if e.kd=7 then e.id else [])++(e.z++more),?_,?_,?_,?_⟩
 ·rw[e1,qyZ _ _ _ h8.2 h8.1 (by omega)]
 ·rw[e1];generalize (if e.kd=6 then ds 3 e.d 0 else if e.kd=7 then e.id else [])++(e.z++more)=Y;rw[Wz6];omega
 ·intro x hx;rw[e1];exact List.mem_append_right _ hx
 rcases h.how with ⟨a,b,c,d⟩ | ⟨a,b,c,d,f⟩ | ⟨a,b,c⟩
 ·rw[if_neg (by omega),if_neg (by omega)];exact .inr (.inr ⟨by omega,by omega,by omega,c,d,rfl⟩)
 ·rw[if_pos a];exact .inl ⟨a,by omega,zk2 _ _ hd,d⟩
 rw[if_neg (by omega),if_pos a];exact .inr (.inl ⟨a,by omega,b,rfl,h.idl⟩)
def AZ (w:World) (e:En) (ev:Ending) (w':World):Prop :=
 ∃ v,ev=.returned (.tuple #[.agg (hdV e.kd e.raw.length e.d e.id).toArray,v,.int .i64 (enb e).length,.nilIface])/\Bd w w' w.heap.size v e.raw
theorem AQ {K:Nat} {hs:List (List Int)} {es:List En} {i:Nat} (e:En) (h:Ok K hs es i e) (hK:1<=K/\K<=4) (hd:e.d<2113664) (more bs:List Int) (hbs:bs=enb e++more) (hm:IsB more) (b off cap:Nat) (w:World) (hl:bs.length<=300000) (hat:Id.At w b off bs) (hb:b<w.heap.size) (hcap:bs.length<=cap) (ht:Df.TabsW w) :
  Calls prog 95 #[.slice (some ⟨b,off,none⟩) bs.length cap] w (AZ w e):=by
 have hzb:IsB bs:=fun x hx=>by
  rw[hbs] at hx;exact(WqX.1 hx).elim (I4 h hK x) (hm x)
 obtain⟨X,x1,x2,x3,x4⟩:=zvq h hK hd more;rw[<-hbs] at x1 x2 x3;obtain⟨G,HG⟩:=nm_ w.heap.size;obtain⟨Z,HZ⟩:=nm_ ((hdV 0 0 0 z20).toArray);have hz70:∀ w:World,(zeroValue 70).run prog w=.ok (.agg Z) w:=fun w=>by rw[<-HZ.out];exact LX w
 obtain⟨w0,HW0⟩:=nm_ (w.alloc (.cells Z 70));have HR0:Hid (w0.heap[G]? = some (.cells Z 70 (0,0))):=hid (by rw[<-HW0.out,<-HG.out];exact heap_alloc_new _ _);have hb0:Below w.heap.size w w0:=by rw[<-HW0.out];exact(Below.refl _ w).alloc (WzV _) _
 have hs0:w0.heap.size=G+1:=by rw[<-HW0.out,<-HG.out];simp
 have C1:Hid (Calls prog 107 #[.slice (some ⟨b,off,none⟩) bs.length cap] w0 (Du w0 b e.kd e.raw.length e.d e.id (e.z++more))):=hid
  (ju e.kd e.raw.length e.d e.id X (e.z++more) b off cap bs w0 x1 (XY hzb) (XY fun x hx=>hzb x (x3 x hx)) (by omega) (by omega) (fun i hi=>(hb0.cell (p:=⟨b,off+i,none⟩) hb).trans (hat i hi)) (by rw[hs0,<-HG.out];omega) hcap x4)
 have HB0:Hid (Below G w w0):=hid (by rw[<-HG.out];exact hb0);have HT:Hid (∀ W,Below G w W->Df.TabsW W):=fun W hW=>ht.below (by rw[HG.out];exact hW);replace hs0:=hid hs0;obtain⟨L,HL⟩:=nm_ bs.length;obtain⟨M,HM⟩:=nm_ ((e.z++more).length);obtain⟨zl,HZL⟩:=nm_ e.z.length;obtain⟨n,HN⟩:=nm_ e.raw.length;obtain⟨R,HR⟩:=nm_ (hdV e.kd e.raw.length e.d e.id)
 obtain⟨H,HH⟩:=nm_ ((hdb e.kd e.raw.length e.d e.id).length);obtain⟨U,HU⟩:=nm_ ((enb e).length);have l1:M=zl+more.length:=by rw[<-HM.out,<-HZL.out,Wz6]
 have l2:U=H+zl:=by rw[<-HU.out,<-HH.out,<-HZL.out];unfold enb;rw[Wz6]
 have l3:L=U+more.length:=by rw[<-HL.out,<-HU.out,hbs,Wz6]
 have l4:0<zl:=by rw[<-HZL.out];exact h.z.pos
 have l5:L<=300000:=by rw[<-HL.out];exact hl
 have l6:n<=30000:=by rw[<-HN.out];exact h.len
 have LU:Hid ((L:Int)-M+zl=U):=hid (by omega);have l7:M<=L:=by omega
 have l8:zl<=M:=by omega
 have HzM:Hid (IsB (e.z++more)):=hid (fun x hx=>(WqX.1 hx).elim (fun hx=>zvz h.z.isB x hx) (hm x));have HI:Hid (Df.inflOf (e.z++more) (max (n:Int) 0)=.ok (zl,e.raw)):=hid (by
  rw[h.z.rd more _ (by omega),if_pos (by rw[HN.out];omega),HZL.out])
 have HSZ:Hid (R.toArray.size=23):=hid (by rw[<-HR.out,WqW,xy,h.idl]);have hsz:(prog.info? 70).map (·.size)=some R.length:=by rw[<-HR.out,xy,h.idl];exact Z3
 have JF:Hid ((prog.info? 70).map (·.size)=some R.toArray.size):=hid (by rw[WqW];exact hsz);have EF:Hid (Z.size=R.toArray.size):=hid (by rw[HSZ.out,<-HZ.out];rfl)
 have OF:Hid (R.toArray.all (·.oneCell')=true):=hid (by rw[<-HR.out];exact all_oneCell_toArray (fun v hv=>by unfold hdV at hv;simp only[List.mem_cons] at hv;rcases hv with rfl | rfl | rfl | hv;rfl;rfl;rfl;exact row_one _ _ v hv));have HR1c:Hid (R[1]? = some (.int .i64 n)):=hid (by rw[<-HR.out,<-HN.out];rfl);have HbG:Hid (b<G):=hid (by rw[<-HG.out];exact hb)
 have hMl:(e.z++more).length<=400000:=by rw[HM.out];omega
 have HPU:Hid (∀ v w',Bd w w' w.heap.size v e.raw->AZ w e (.returned (.tuple #[.agg R.toArray,v,.int .i64 U,.nilIface])) w'):=hid (fun v w' hB=>⟨v,by rw[HR.out,HU.out],hB⟩);rw[HL.out] at C1 ⊢;clear hb0 hat hb x1 x2 x3 x4 hzb hl hcap ht hbs hm h hK l1 l2 l3;go_enter func95,ntmps95;go_wp2_with fail
 rw[HW0.out,HG.out];refine C1.out.mono ?_;rintro ev w1 ⟨a,c,rfl,hb1,hS1,hB1⟩;rw[HR.out,HM.out];have HR1:Hid (w1.heap[G]? = some (.cells Z 70 (0,0))):=hid ((hb1.block _ (by rw[hs0.out];omega)).trans HR0.out);have HB1:Hid (Below G w w1):=hid (HB0.out.trans (hb1.mono (by rw[hs0.out];omega)));obtain⟨w2,HW2⟩:=nm_ (w1.setRow G R.toArray)
 have HR2:Hid (w2.heap[G]? = some (.cells R.toArray 70 (0,0))):=hid (by rw[<-HW2.out];exact setRow_heap _ _ _ _ _ _ HR1.out);have HB2:Hid (Below G w w2):=hid (by rw[<-HW2.out];exact below_setRow HB1.out (WzV _) _);have hS2:Sl w2 a c (e.z++more):=hS1.same (fun p hp=>by
  rw[<-HW2.out];refine setRow_other _ _ _ _ ?_;have:=hB1 p hp;have:=HbG.out;omega)
 obtain⟨b2,o2,e1,e2,e3⟩:=hS2.at_ (by rw[HM.out];omega);subst e1;have CI:Hid (Calls prog 108 #[.slice (some ⟨b2,o2,none⟩) M c,.int .i64 n] w2 (Df.PostI w2.heap.size w2 (.ok (zl,e.raw)))):=hid (by
  have:=Df.inflate_some b2 o2 c (e.z++more) n w2 (Au HzM.out) hMl hS2.capl (zv9 e3) e2 (by omega) (HT.out w2 HB2.out);rw[HI.out,HM.out] at this;exact this)
 have c1:w2.cell? ⟨G,1,none⟩=some (.int .i64 n):=by rw[cell_of_row _ _ 1 _ _ _ HR2.out];simpa using HR1c.out
 clear hS1 hS2 hB1 e2 e3 C1 hb1;go_wp2_with (first
  | (refine wpList_store_row rfl 70 _ _ rfl G R.toArray rfl rfl 70 Z HR1.out JF.out EF.out OF.out ?_;rw[HW2.out])
  | (go_at_call 108;refine CI.out.mono ?_;clear CI)
  | fail)
 rintro ev w3 ⟨hb3,hzr,v3,rfl,ho3⟩;have HB3:Hid (Below G w w3):=hid (HB2.out.trans (hb3.mono (Wxz (lt_of_some HR2.out))));have HR3:Hid (w3.heap[G]? = some (.cells R.toArray 70 (0,0))):=hid ((hb3.block _ (lt_of_some HR2.out)).trans HR2.out);have HO3:Hid (Bd w w3 w.heap.size v3 e.raw):=hid (by
  rw[HG.out];exact⟨HB3.out,qV ho3 (Wxz (lt_of_some HR2.out)),Wxz (lt_of_some HR3.out)⟩)
 obtain⟨a3,c3,hv3,hS3⟩:=xW HO3.out;rw[HN.out] at hv3;subst hv3;have HSELF:Hid (w3.setRow G R.toArray=w3):=hid (setRow_self _ _ _ _ _ HR3.out);have c3:w3.cell? ⟨G,1,none⟩=some (.int .i64 n):=by rw[cell_of_row _ _ 1 _ _ _ HR3.out];simpa using HR1c.out
 have hrf:w3.rangeAt G 0 R:=zx HR3.out;clear c1 hb3 ho3 hzr hS3;go_wp2_with (first
  | (refine wpList_load_mid rfl 70 _ rfl G 0 rfl R _ hrf underlying70 rfl hsz ?_)
  | (refine wpList_store_row rfl 70 _ _ rfl G R.toArray rfl rfl 70 R.toArray HR3.out JF.out rfl OF.out ?_;rw[HSELF.out])
  | fail)
 rw[LU.out];exact bodyPost_ret (GV results95 _ _ G R _ _ _ _ rfl rfl rfl rfl hrf underlying70 rfl hsz) rfl (HPU.out _ _ HO3.out)
def S7 (w:World) (k d:Nat) (id zs:List Int) (ev:Ending) (w':World):Prop :=
 ∃ v z,ev=.returned v/\Df.Defl zs z/\Bd w w' w.heap.size v (hdb k zs.length d id++z)
theorem Hy (k s d:Nat) (id zs:List Int) (ib io cap:Nat) (w:World) (hk:k<8) (hd:d<2113664) (hi:id.length=20) (hz:IsB id) (hzz:IsB zs) (hl:zs.length<=40000) (hat:Id.At w ib io zs) (hib:ib<w.heap.size) (hcap:zs.length<=cap) (ht:Df.TabsW w) :
  Calls prog 36 #[.agg (hdV k s d id).toArray,.slice (some ⟨ib,io,none⟩) zs.length cap] w (S7 w k d id zs):=by
 obtain⟨G,HG⟩:=nm_ w.heap.size;obtain⟨A,HA⟩:=nm_ ((hdV k s d id).toArray);obtain⟨R,HR⟩:=nm_ (hdV k zs.length d id);obtain⟨n,HN⟩:=nm_ zs.length;obtain⟨w0,HW0⟩:=nm_ (w.alloc (.cells A 70));have HR0:Hid (w0.heap[G]? = some (.cells (hdV k s d id).toArray 70 (0,0))):=hid (by rw[<-HW0.out,<-HG.out,HA.out];exact heap_alloc_new _ _)
 have hb0:Below w.heap.size w w0:=by rw[<-HW0.out];exact(Below.refl _ w).alloc (WzV _) _
 obtain⟨w1,HW1⟩:=nm_ (w.alloc (.cells (A.setIfInBounds 1 (.int .i64 n)) 70));have HR1:Hid (w1.heap[G]? = some (.cells R.toArray 70 (0,0))):=hid (by rw[<-HW1.out,<-HR.out,<-I1 k s d id zs.length,HN.out,HA.out,<-HG.out];exact heap_alloc_new _ _);have HB1:Hid (Below G w w1):=hid (by rw[<-HW1.out,<-HG.out];exact(Below.refl _ w).alloc (WzV _) _)
 have hG1:G<w1.heap.size:=lt_of_some HR1.out;have hc1:(w.alloc (.cells A 70)).cell? ⟨w.heap.size,1,none⟩=some (.int .i64 s):=by rw[HW0.out,HG.out];exact(LJ HR0.out).2.1
 have hf1:(w.alloc (.cells A 70)).frozen? ⟨w.heap.size,1,none⟩=false:=by rw[HW0.out,HG.out];exact Hk HR0.out 1
 have hrg:(w.alloc (.cells (A.setIfInBounds 1 (.int .i64 n)) 70)).rangeAt w.heap.size 0 R:=by rw[HW1.out,HG.out];exact zx HR1.out
 have hsz:(prog.info? 70).map (·.size)=some R.length:=by rw[<-HR.out,xy,hi];exact Z3
 have C1:Hid (Calls prog 58 #[.agg R.toArray] w1 fun e w'=>∃ v,e=.returned v/\Bd w1 w' w1.heap.size v (hdb k n d id)):=hid (by
  have:=zzq k zs.length d id w1 hk (by omega) hd hi hz;rw[HR.out,HN.out] at this;exact this)
 have CD:Hid (∀ W,Below G w W->Calls prog 7 #[.slice (some ⟨ib,io,none⟩) n cap] W fun ev w'=>∃ v,ev=.returned v/\∃ z,Df.Defl zs z/\Df.StW W w' v z):=hid (fun W hW=>by
  rw[<-HG.out] at hW;have:=Df.deflate_f ib io cap zs W (Au hzz) (zv9 fun i hi=>(hW.cell (p:=⟨ib,io+i,none⟩) hib).trans (hat i hi)) (Wqj hib hW.size) (by omega) hcap (ht.below hW).four;rw[HN.out] at this;exact this)
 have hH:(hdb k n d id).length<=40:=by
  have a:=Ww k n (by have:=HN.out;omega);have b:=Wy 3 d 0;unfold hdb;rw[Wz6];split
  ·omega
  split
  ·omega
  simp only[List.length_nil];omega
 have HPU:Hid (∀ v z w',Df.Defl zs z->Bd w w' G v (hdb k n d id++z)->S7 w k d id zs (.returned v) w'):=hid (fun v z w' h1 h2=>⟨v,z,rfl,h1,by rw[HN.out,HG.out];exact h2⟩);have HNL:Hid (n<=40000):=hid (by rw[<-HN.out];exact hl);rw[HA.out,HN.out];clear hb0 hat hib hcap ht hzz hz hl hi;go_enter func36,ntmps36;go_wp2_with (first
  | (refine wpList_load_mid rfl 70 _ rfl w.heap.size 0 rfl R _ hrg underlying70 rfl hsz ?_;rw[HW1.out,HG.out])
  | fail)
 refine C1.out.mono ?_;rintro e w2 ⟨v2,rfl,hb2⟩;have HB2:Hid (Bd w w2 G v2 (hdb k n d id)):=hid ⟨HB1.out.trans (hb2.below.mono (Wxz hG1)),qV hb2.own (Wxz hG1),Wqx (Wxz hG1) hb2.le⟩;have C2:=hid (CD.out w2 HB2.out.below);clear hb2 hrg hc1 hf1;go_wp2_with (first
  | (go_at_call 7;refine C2.out.mono ?_;clear C2)
  | fail)
 rintro e w3 ⟨v3,rfl,z,hz,hst⟩;have hb3:Bd w2 w3 w2.heap.size v3 z:=⟨hst.below,hst.owns,hst.below.size⟩;obtain⟨a3,c3,rfl,hS3⟩:=xW hb3;have HB3:Hid (Bd w w3 G v2 (hdb k n d id)):=HB2.out.carry hb3.below;have HZ:=hid hz;have HS3:=hid hS3;have hzl:(hdb k n d id).length+z.length<=1000000:=by
  have h1:=hz.len;have h2:zs.length / 65535=0:=by have:=HN.out;have:=HNL.out;omega
  have:=HN.out;have:=HNL.out;omega
 clear hz hst hb3 hS3;go_wp2_with (first
  | (at_builtin;refine Z4 rfl _ _ rfl G _ (hdb k n d id) rfl HB3.out a3 c3 z rfl HS3.out hzl ?_;intro v4 w4 hb4 hg4;have HB4:=hid hb4;clear hb4 hg4)
  | fail)
 go_ret;exact HPU.out _ _ _ HZ.out HB4.out
structure Oj where
 b:Nat
 o:Nat
 c:Nat
 zs:List Int
abbrev dO:Oj:=⟨0,0,0,[]⟩
def slO (x:Oj):Value:=.slice (some ⟨x.b,x.o,none⟩) x.zs.length x.c
def yQ (K:Nat) (x:Oj):List Value:=[.int .i64 K,slO x]
structure Bs where
 x:Oj
 bg:Int
 dp:Nat
abbrev dB:Bs:=⟨dO,0,0⟩
def kz (K:Nat) (y:Bs):List Value:=[.int .i64 K,slO y.x,.int .i64 y.bg,.int .i64 y.dp]
structure Om (n:Nat) (w:World) (x:Oj):Prop where
 at_:Id.At w x.b x.o x.zs
 lt:x.b<w.heap.size
 cap:x.zs.length<=x.c
 isb:IsB x.zs
 len:x.zs.length=n
theorem Om.below {n:Nat} {w w':World} {x:Oj} (h:Om n w x) (hb:Below w.heap.size w w'):Om n w' x :=
 ⟨fun i hi=>(hb.cell (p:=⟨x.b,x.o+i,none⟩) h.lt).trans (h.at_ i hi),Wqj h.lt hb.size,h.cap,h.isb,h.len⟩
theorem jz (K:Nat) (x:Oj):∀ v ∈ yQ K x,v.oneCell'=true:=fun v hv=>by unfold yQ slO at hv;simp at hv;rcases hv with rfl | rfl <;> rfl
theorem DX (K:Nat) (x:Bs):∀ v ∈ kz K x,v.oneCell'=true:=fun v hv=>by unfold kz slO at hv;simp at hv;rcases hv with rfl | rfl | rfl | rfl <;> rfl
theorem vK:(prog.info? 27).map (·.size)=some 2:=by kernel_rfl
structure S59 (gb go G K n dp:Nat) (bg:Int) (a:Option Addr) (c:Nat) (W:World):Prop where
 c0:W.cell? ⟨gb,go,none⟩=some (.int .i64 K)
 c1:W.cell? ⟨gb,go+1,none⟩=some (.slice a n c)
 c2:W.cell? ⟨gb,go+2,none⟩=some (.int .i64 bg)
 c3:W.cell? ⟨gb,go+3,none⟩=some (.int .i64 dp)
 d0:W.cell? ⟨G,0,none⟩=some (.int .i64 K)
theorem J4 (K gb go at_:Nat) (y:Bs) (x:Oj) (w:World) (hr:w.rangeAt gb go (kz K y)) (hgb:gb<w.heap.size) (hl:y.x.zs.length<=100000) (hd:y.dp<20) (ha:at_<=300000) (hbg:y.bg = -1 ∨ (0<=y.bg/\y.bg<=at_)) :
  Calls prog 59 #[.pointer (some ⟨gb,go,none⟩),.agg (yQ K x).toArray,.int .i64 at_] w fun e w'=>e=.returned (.bool true)/\Below w.heap.size w w':=by
 obtain⟨G,HG⟩:=nm_ w.heap.size;obtain⟨A,HA⟩:=nm_ ((yQ K x).toArray);obtain⟨⟨b,o,c,zs⟩,bg,dp⟩:=y;obtain⟨n,HN⟩:=nm_ zs.length;have hn:n<=100000:=by rw[<-HN.out];exact hl
 have hdp:dp<20:=hd;obtain⟨w0,HW0⟩:=nm_ (w.alloc (.cells A 27));have hb0:Below w.heap.size w w0:=by rw[<-HW0.out];exact(Below.refl _ w).alloc (WzV _) _
 have HB0:Hid (Below w.heap.size w w0):=hid hb0;have cc:∀ j v,(kz K ⟨⟨b,o,c,zs⟩,bg,dp⟩)[j]? = some v->w0.drew.cell? ⟨gb,go+j,none⟩=some v:=fun j v hj=>(hb0.cell (p:=⟨gb,go+j,none⟩) hgb).trans (hr j v hj);have hSd:S59 gb go G K n dp bg (some ⟨b,o,none⟩) c w0.drew:=⟨cc 0 _ rfl,by rw[<-HN.out];exact cc 1 _ rfl,cc 2 _ rfl,cc 3 _ rfl,by
  have h:w0.heap[G]? = some (.cells A 27 (0,0)):=by rw[<-HW0.out,<-HG.out];exact heap_alloc_new _ _
  exact(show w0.drew.cell? ⟨G,0,none⟩=w0.cell? ⟨G,0,none⟩ from rfl).trans (by rw[cell_of_row _ _ 0 _ _ _ h,<-HA.out];rfl)⟩
 have HBG:Hid (bg = -1 ∨ (0<=bg/\bg<=at_)):=hid hbg;rw[HA.out];clear hb0 hr hl hgb cc hd hbg;go_enter func59,ntmps59;go_wp2_with fail
 rw[HW0.out,HG.out];refine wp_region_held_drew (S:=S59 gb go G K n dp bg (some ⟨b,o,none⟩) c) (by kernel_rfl) hSd (fun hHeld=>?_);clear hSd;have HB1:Hid (Below w.heap.size w w0.drew):=hid (zk HB0.out 1);generalize w0.drew=u0 at hHeld HB1 ⊢;have h100:decide ((100000:Int)<n)=false:=decide_eq_false (by omega);have h20:((dp:Int) == 20)=false:=by simp;omega
 iterate 24 ((first | refine qk hHeld ?_ | refine zv7 hHeld ?_);try simp only[Act.put,sL])
 refine wpAnyH_done (by kernel_rfl) ?_ _;obtain⟨c0,c1,c2,c3,d0⟩:=hHeld;clear h100 h20 c0 c1 c3 d0;rcases HBG.out with rfl | ⟨h1,h2⟩
 ·go_wp2_with fail
  go_ret;exact⟨rfl,HB1.out⟩
 have e1:¬ bg = -1:=by omega
 have e2:(bg == -1)=false:=by simpa using e1
 obtain⟨m,rfl⟩:∃ m:Nat,bg=m:=⟨bg.toNat,by omega⟩;have e3:(m:Int)<=at_:=h2;have e4:m<=at_:=by omega
 have e5:(at_:Int)-m<=270549119:=by omega
 clear h1 h2 HBG;go_wp2_with fail
 go_ret;exact⟨rfl,HB1.out⟩
structure S60 (gb go G n m:Nat) (a a':Option Addr) (c c':Nat) (W:World):Prop where
 c1:W.cell? ⟨gb,go+1,none⟩=some (.slice a n c)
 d1:W.cell? ⟨G,1,none⟩=some (.slice a' m c')
theorem Tx (K gb go n:Nat) (y:Bs) (x:Oj) (w:World) (hr:w.rangeAt gb go (kz K y)) (hgb:gb<w.heap.size) (hn:n<=100000) (hl:y.x.zs.length=n) (hx:x.zs.length=n) :
  Calls prog 60 #[.pointer (some ⟨gb,go,none⟩),.agg (yQ K x).toArray] w fun e w'=>e=.returned (.int .i64 0)/\Below w.heap.size w w':=by
 obtain⟨G,HG⟩:=nm_ w.heap.size;obtain⟨A,HA⟩:=nm_ ((yQ K x).toArray);obtain⟨w0,HW0⟩:=nm_ (w.alloc (.cells A 27));have hb0:Below w.heap.size w w0:=by rw[<-HW0.out];exact(Below.refl _ w).alloc (WzV _) _
 have HB0:Hid (Below w.heap.size w w0):=hid hb0;have hSd:S60 gb go G n n (some ⟨y.x.b,y.x.o,none⟩) (some ⟨x.b,x.o,none⟩) y.x.c x.c w0.drew:=⟨(hb0.cell (p:=⟨gb,go+1,none⟩) hgb).trans (by rw[<-hl];exact hr 1 _ rfl),by
  have h:w0.heap[G]? = some (.cells A 27 (0,0)):=by rw[<-HW0.out,<-HG.out];exact heap_alloc_new _ _
  exact(show w0.drew.cell? ⟨G,1,none⟩=w0.cell? ⟨G,1,none⟩ from rfl).trans (by rw[cell_of_row _ _ 1 _ _ _ h,<-HA.out,<-hx];rfl)⟩
 rw[HA.out];clear hb0 hr hl hgb hx;go_enter func60,ntmps60;go_wp2_with fail
 rw[HW0.out,HG.out];refine wp_region_held_drew (S:=S60 gb go G n n (some ⟨y.x.b,y.x.o,none⟩) (some ⟨x.b,x.o,none⟩) y.x.c x.c) (by kernel_rfl) hSd (fun hHeld=>?_);clear hSd;have HB1:Hid (Below w.heap.size w w0.drew):=hid (zk HB0.out 1);generalize w0.drew=u0 at hHeld HB1 ⊢;iterate 11 (refine qk hHeld ?_;try simp only[Act.put,sL])
 refine wpAnyH_done (by kernel_rfl) ?_ _;clear hHeld;go_wp2_with fail
 go_ret;exact⟨rfl,HB1.out⟩
end Go.Proofs.YtiaaekdpfpaigaaGreatDoor.Pk
