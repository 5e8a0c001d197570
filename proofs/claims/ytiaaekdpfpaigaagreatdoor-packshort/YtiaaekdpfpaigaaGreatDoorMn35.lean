import Derived.Test.YtiaaekdpfpaigaaGreatDoorMn34
set_option linter.unusedSimpArgs false
set_option linter.unusedVariables false
set_option maxRecDepth 20000
set_option maxHeartbeats 4000000
open List renaming length_append->Wz6,length_drop->Wz8,length_map->Wxx,length_set->Wvk,mem_append->WqX,mem_singleton->WqJ
open Nat renaming add_comm->Wv5,le_refl->WzV,le_trans->Wqx,lt_of_lt_of_le->Wqj,lt_or_ge->WzW,zero_add->Wq7
namespace Go.Proofs.YtiaaekdpfpaigaaGreatDoor.Pk
open Go.Proofs.Tryz
open Go.RowKit Go.Maps Go.Proofs.YtiaaekdpfpaigaaGreatDoor.Id Go.Proofs.YtiaaekdpfpaigaaGreatDoor.Px
structure Os (K n:Nat) (w0 w:World) (B:Nat) (v:Value) (zs:List Int) (os:List Oj):Prop where
 ls:Bx (yQ K) 2 27 w0 w B v os
 om:∀ x ∈ os,Om n w x
 nb:∀ x ∈ os,some x.b ≠ v.ownBlock
 z0:(os.getD 0 dO).zs=zs
 pos:0<os.length
 one:∀ i,0<i->i<os.length->One zs (os.getD i dO).zs
 ne:∀ i k,k<i->i<os.length->(os.getD i dO).zs ≠ (os.getD k dO).zs
theorem Os.carry {K n B:Nat} {w0 w w':World} {v:Value} {zs:List Int} {os:List Oj} (h:Os K n w0 w B v zs os) (hb:Below w.heap.size w w'):Os K n w0 w' B v zs os :=
 ⟨h.ls.carry hb,fun x hx=>(h.om x hx).below hb,h.nb,h.z0,h.pos,h.one,h.ne⟩
theorem qxZ (K n b o c:Nat) (zs:List Int) (w:World) (hO:Om n w ⟨b,o,c,zs⟩):Os K n w (w.alloc (.cells #[.int .i64 K,.slice (some ⟨b,o,none⟩) zs.length c] 27)) w.heap.size (.slice (some ⟨w.heap.size,0,none⟩) 1 1) zs [⟨b,o,c,zs⟩]:=by
 have hb:Below w.heap.size w (w.alloc (.cells #[.int .i64 K,.slice (some ⟨b,o,none⟩) zs.length c] 27)):=(Below.refl _ w).alloc (WzV _) _
 refine⟨⟨hb,⟨rfl,.inr ⟨w.heap.size,1,#[.int .i64 K,.slice (some ⟨b,o,none⟩) zs.length c],rfl,WzV _,heap_alloc_new _ _,WzV _,by unfold maxLen;omega,rfl,rfl⟩⟩,hb.size⟩,fun x hx=>?_,fun x hx=>?_,rfl,by simp,fun i h1 h2=>?_,fun i k h1 h2=>?_⟩
 ·obtain rfl:=WqJ.1 hx;exact hO.below hb
 ·obtain rfl:=WqJ.1 hx;intro e;have h1:b=w.heap.size:=by simpa [Value.ownBlock] using e
  have:=hO.lt;simp only at this;omega
 ·simp at h2;omega
 simp at h2;omega
theorem Os.snoc {K n B:Nat} {w0 w w':World} {v v':Value} {zs:List Int} {os:List Oj} (h:Os K n w0 w B v zs os) {y:Oj} (hl:Bx (yQ K) 2 27 w0 w' B v' (os++[y])) (hg:w.grownBy w' v.ownBlock) (hm:Dl.Mv w w' v v') (hy:Om n w y) (hyb:some y.b ≠ v.ownBlock) (h1:One zs y.zs) (h2:∀ k,k<os.length->y.zs ≠ (os.getD k dO).zs):Os K n w0 w' B v' zs (os++[y]):=by
 have hk:∀ x:Oj,Om n w x->some x.b ≠ v.ownBlock->Om n w' x/\some x.b ≠ v'.ownBlock:=fun x hx hn=>by
  refine⟨⟨fun i hi=>?_,Wqj hx.lt hg.size,hx.cap,hx.isb,hx.len⟩,fun e=>?_⟩
  ·rw[World.cell?_of_block (a:=⟨x.b,x.o+i,none⟩) (hg.block x.b hx.lt (fun e=>hn e))];exact hx.at_ i hi
  rcases hm.at_ with h3 | h3
  ·rw[h3] at e;exact hn e
  have:=h3 _ e.symm;have:=hx.lt;omega
 have hmem:∀ x ∈ os++[y],Om n w x/\some x.b ≠ v.ownBlock:=fun x hx=>by
  rcases WqX.1 hx with h3 | h3
  ·exact⟨h.om x h3,h.nb x h3⟩
  obtain rfl:=WqJ.1 h3;exact⟨hy,hyb⟩
 have hp:=h.pos;refine⟨hl,fun x hx=>(hk x (hmem x hx).1 (hmem x hx).2).1,fun x hx=>(hk x (hmem x hx).1 (hmem x hx).2).2,by rw[zY _ _ _ _ hp];exact h.z0,by simp,fun i hi hl=>?_,fun i k hik hl=>?_⟩ <;> rw[Wz6,List.length_singleton] at hl
 ·by_cases h3:i<os.length
  ·rw[zY _ _ _ _ h3];exact h.one i hi h3
  obtain rfl:i=os.length:=by omega
  rw[qu];exact h1
 by_cases h3:i<os.length
 ·rw[zY _ _ _ _ h3,zY _ _ _ _ (by omega)];exact h.ne i k hik h3
 obtain rfl:i=os.length:=by omega
 rw[qu,zY _ _ _ _ hik];exact h2 k hik
theorem Iu {K cap b of:Nat} {w:World} {os:List Oj} (h:Po K w (some ⟨b,of,none⟩) cap os) (h0:0<os.length) (a':Addr) (cap':Nat) (ha:1<os.length->a'=⟨b,of+2,none⟩) (hc:os.length<=cap'+1):Po K w (some a') cap' (os.drop 1):=by
 refine⟨by rw[Wz8];omega,fun hl=>?_,fun h=>by cases h⟩;rw[Wz8] at hl;obtain⟨b',of',e1,e2,e3⟩:=h.at_ h0;cases e1
 refine⟨b,of+2,by rw[ha (by omega)],e2,fun i hi=>?_⟩;rw[Wz8] at hi;have:=e3 (i+1) (by omega);rw[show of+2+i*2=of+(i+1)*2 by omega,show (os.drop 1).getD i dO=os.getD (i+1) dO by rw[List.getD_eq_getElem?_getD,List.getD_eq_getElem?_getD,List.getElem?_drop,Wv5]];exact this
theorem qy1 {n:Nat} {w:World} {os:List Oj} (ho:∀ x ∈ os,Om n w x) (ht:Df.TabsW w) (hT:∀ W,Below w.heap.size w W->Tab W):Gd w.heap.size w n os :=
 ⟨fun W hW x hx=>(ho x hx).below hW,fun W hW=>ht.below hW,hT⟩
theorem qy2 {K n:Nat} {es:List En} {w w':World} {v:Value} {us:List Value} {os:List Oj} (h:Rd K es w w' v us) (hl:es.length=os.length) (hb:∀ i,i<es.length->(es.getD i dE).ob=(os.getD i dO).zs) (ho:∀ x ∈ os,x.zs.length=n/\IsB x.zs):Vs w' w.heap.size n us (os.map (·.zs)):=by
 have hg:∀ i,i<os.length->(os.map (·.zs)).getD i []=(os.getD i dO).zs:=fun i hi=>by
  rw[List.getD_eq_getElem?_getD,List.getElem?_map,List.getElem?_eq_getElem hi,List.getD_eq_getElem?_getD,List.getElem?_eq_getElem hi];rfl
 refine⟨by rw[Wxx,h.len,hl],fun i hi=>?_,fun i hi=>?_,fun i hi=>?_⟩ <;> rw[Wxx] at hi <;> rw[hg i hi] <;> have h1:=ho _ (zV os i dO hi)
 ·have:=h.own i (by omega);rw[hb i (by omega),h1.1] at this;exact this
 ·exact h1.1
 exact h1.2
theorem Tw {os hs:List Oj} {es:List En} (h:Es os hs es) (hN:∀ i,0<i->i<es.length->Nr os hs i) {zs z:List Int} (hz:Df.Defl zs z) (h0:(os.getD 0 dO).zs=zs) (hl:zs.length<=20000):∀ i,i<es.length->off es (i+1)<=15+z.length+90*i
 | 0,h1=>by
  obtain⟨z',hd,hle⟩:=(h.all 0 h1).pl
  rw[h0] at hd
  have:=hz.one hd (by omega)
  rw[k9 es 0 h1,VQ]
  omega
 | i+1,h1=>by
  have h2:=Tw h hN hz h0 hl i (by omega)
  have h3:=(h.all (i+1) h1).sh (hN (i+1) (by omega) h1)
  rw[k9 es (i+1) h1]
  omega
theorem Ty {os hs:List Oj} {es:List En} (h:Es os hs es) (hN:∀ i,i<es.length->Nr os hs i):∀ i,i<=es.length->off es i<=12+90*i
 | 0,_=>by rw[VQ];omega
 | i+1,h1=>by
  have h2:=Ty h hN i (by omega);have h3:=(h.all i (by omega)).sh (hN i (by omega));rw[k9 es i (by omega)];omega
theorem One.set {zs:List Int} (c:Nat) (v:Int) (h:c<zs.length):One zs (zs.set c v):=by
 refine⟨Wvk,c,by rw[Wvk];exact h,fun i hi=>by rw[List.getElem?_set_ne (by omega)]⟩
theorem qq0 {zs:List Int} (hz:IsB zs) (c:Nat) (v:Int) (h1:0<=v) (h2:v<=255):IsB (zs.set c v):=fun x hx=>by
 rcases List.mem_or_eq_of_mem_set hx with h | h
 ·exact hz x h
 subst h;omega
theorem qq1 (w1:World) (g n b off cap:Nat) (zs:List Int) (hn:zs.length=n) (hcell:∀ j,j<n->w1.cell? ⟨g,j,none⟩=some (.int .u8 0)) (hfz:∀ j,w1.frozen? ⟨g,j,none⟩=false) (hat:Id.At w1 b off zs) :
  ∃ w2,Sem.run prog (Builtin.copy_ #[22,22] 3 #[.slice (some ⟨g,0,none⟩) n n,.slice (some ⟨b,off,none⟩) n cap]) w1=.ok (.int .i64 n) w2/\Below g w1 w2/\w2.heap.size=w1.heap.size/\
   Id.At w2 g 0 zs/\∀ j,w2.frozen? ⟨g,j,none⟩=false:=by
 have hlen:(zs.map (Value.int .u8)).length=n:=by simp[hn]
 have hr:=run_copy_cells (P:=prog) w1 22 22 3 5 g 0 n n ⟨b,off,none⟩ n cap (zs.map (Value.int .u8)) underlying22 size5
  (by rw[hlen];exact(Nat.min_self _).symm)
  (fun j v hj=>by
   rw[List.getElem?_map] at hj
   cases hq:zs[j]? with
   | none=>simp[hq] at hj
   | some q =>
    simp[hq] at hj
    subst hj
    have hlt:j<zs.length:=by rcases WzW j zs.length with h | h;exact h;rw[List.getElem?_eq_none h] at hq;cases hq
    have:=hat j hlt
    rw[addr_add]
    simpa [hq] using this)
  (fun j hj=>by rw[hlen] at hj;rw[Wq7,hcell j (by omega)];rfl) (fun j _=>hfz _) (ints_oneCell _ _)
 have hin:=World.cell?_setCells_in g (zs.map (Value.int .u8)) 0 w1 (fun j hj=>by rw[hlen] at hj;rw[Wq7,hcell j (by omega)];rfl);refine⟨_,by rw[hr,hlen];rfl,below_setCells (WzV _) _ _ _ _ (Below.refl _ _),size_setCells _ _ _ _,fun j hj=>?_,fun j=>?_⟩
 ·have:=hin j (by omega);rw[this];simp[hj]
 rw[World.frozen?_setCells];exact hfz j
theorem at_set {w:World} {g:Nat} {zs:List Int} (h:Id.At w g 0 zs) (c:Nat) (v:Int):Id.At (w.setCell ⟨g,c,none⟩ (.int .u8 v)) g 0 (zs.set c v):=fun i hi=>by
 rw[Wvk] at hi;rw[Wq7];have h1:=h i hi;rw[Wq7] at h1;by_cases hc:i=c
 ·subst hc;rw[World.cell?_setCell_same _ _ _ h1,List.getD_eq_getElem?_getD,List.getElem?_set_self hi];rfl
 rw[World.cell?_setCell_other _ _ _ _ (by intro e;simp only[Addr.mk.injEq] at e;omega),h1,List.getD_eq_getElem?_getD,List.getD_eq_getElem?_getD,List.getElem?_set_ne (by omega)]
structure Sp (w:World) (a:Option Addr) (cap:Nat) (l:List Int):Prop where
 capl:l.length<=cap
 at_:0<l.length->∃ b off,a=some ⟨b,off,none⟩/\b<w.heap.size/\∀ i,i<l.length->w.cell? ⟨b,off+i,none⟩=some (.int .i64 (l.getD i 0))
theorem Sp.below {w w':World} {a:Option Addr} {cap:Nat} {l:List Int} (h:Sp w a cap l) (hb:Below w.heap.size w w'):Sp w' a cap l :=
 ⟨h.capl,fun h0=>by
  obtain⟨b,off,e1,e2,e3⟩:=h.at_ h0
  exact⟨b,off,e1,Wqj e2 hb.size,fun i hi=>(hb.cell (p:=⟨b,off+i,none⟩) e2).trans (e3 i hi)⟩⟩
theorem zuZ {w w':World} {B s n:Nat} {e:TypeId} {v:Value} {xs:List Value} (h:w.ownsRow B e s v n xs) (hk:∀ k,v.ownBlock=some k->w'.heap[k]? = w.heap[k]?):w'.ownsRow B e s v n xs:=by
 obtain⟨h1,h2 | ⟨g,cap,cur,hv,h3,h4,h5⟩⟩:=h
 ·exact⟨h1,.inl h2⟩
 exact⟨h1,.inr ⟨g,cap,cur,hv,h3,(hk g (by rw[hv];rfl)).trans h4,h5⟩⟩
theorem Vs.sm {w w':World} {B n:Nat} {us:List Value} {ls:List (List Int)} (h:Vs w B n us ls) (hk:∀ i k,i<us.length->(us.getD i dU).ownBlock=some k->w'.heap[k]? = w.heap[k]?):Vs w' B n us ls :=
 ⟨h.len,fun i hi=>zuZ (h.own i hi) (fun k e=>hk i k (by rw[h.len];exact hi) e),h.ln,h.isb⟩
def IZ (w:World) (e:Ending) (w':World):Prop:=e=.returned (.bool true)/\Below w.heap.size w w'
theorem qy3:prog.underlying 28=some (.slice (prog.elem 28)):=by kernel_rfl
theorem qy4:prog.underlying 30=some (.slice (prog.elem 30)):=by kernel_rfl
theorem qq2 (b o L cp:Nat) (h1:1<=L) (h2:L<=cp):∃ a',(1<cp->a'=(⟨b,o+2,none⟩:Addr))/\∀ w:World,(Instr.slice 28 (.slice (some ⟨b,o,none⟩) L cp) (some (.int .i64 1)) none none).run prog w=.ok (.slice (some a') (L-1:Nat) (cp-1:Nat)) w:=by
 refine⟨if cp=1 then ⟨b,o,none⟩ else ⟨b,o+2,none⟩,fun h=>if_neg (by omega),fun w=>?_⟩;rw[run_slice_l w 28 _ L cp qy3 .i64 1 (by omega) (by omega),show ∀ w:World,(sizeOf (prog.elem 28)).run prog w=.ok 2 w from fun w=>by kernel_rfl];simp only[Result.andThen_ok,sliced];by_cases h:cp=1
 ·simp[h]
 simp[h,addr_add]
theorem qq3 (b o L cp:Nat) (h1:1<=L) (h2:L<=cp):∃ a',(1<cp->a'=(⟨b,o+2,none⟩:Addr))/\∀ w:World,(Instr.slice 30 (.slice (some ⟨b,o,none⟩) L cp) (some (.int .i64 1)) none none).run prog w=.ok (.slice (some a') (L-1:Nat) (cp-1:Nat)) w:=by
 refine⟨if cp=1 then ⟨b,o,none⟩ else ⟨b,o+2,none⟩,fun h=>if_neg (by omega),fun w=>?_⟩;rw[run_slice_l w 30 _ L cp qy4 .i64 1 (by omega) (by omega),show ∀ w:World,(sizeOf (prog.elem 30)).run prog w=.ok 2 w from fun w=>by kernel_rfl];simp only[Result.andThen_ok,sliced];by_cases h:cp=1
 ·simp[h]
 simp[h,addr_add]
theorem VW {P:Program} {o:Oper} {a:Act} {w:World} {t:TypeId} {x:Operand} {k:Value} (hu:P.underlying t=some (.slice (P.elem t))) (ho:o.op=.slice t x (some (.const k)) none none) {xv v:Value} (hx:a.eval x=xv) (hr:(Instr.slice t xv (some k) none none).run P w=.ok v w):(execOp a.eval o).run P w=.ok (.value v) w:=by
 unfold execOp;have h2:(Instr.sliceAt t xv (some (a.eval (.const k))) none none).run P w=.ok v w:=(run_sliceAt_slice _ t xv _ _ _ hu).trans hr;simp only[ho,hx,Option.map_some,Option.map_none];simp[h2,Result.andThen]
structure S12 (g c b o:Nat) (v x:Int) (W:World):Prop where
 e1:W.cell? ⟨g,c,none⟩=some (.int .u8 v)
 e2:W.cell? ⟨b,o+c,none⟩=some (.int .u8 x)
theorem zzY (kd:Int) (b0 o0 cap n:Nat) (zs:List Int) (w:World) (hn:zs.length=n) (hn0:0<n) (hn2:n<=20000) (hz:IsB zs) (hat:Id.At w b0 o0 zs) (hlt0:b0<w.heap.size) (hcap:n<=cap) (sa:Option Addr) (m sc:Nat) (ss:List Int) (hm:ss.length=m) (hm2:m<=60) (hs:Sp w sa sc ss) (ht:Df.TabsW w) (hT:∀ W,Below w.heap.size w W->Tab W) :
  Calls prog 3 #[.int .i64 kd,.slice (some ⟨b0,o0,none⟩) n cap,.slice sa m sc] w (IZ w):=by
 obtain⟨G,HG⟩:=nm_ w.heap.size;have HOM:Hid (Om n w ⟨b0,o0,cap,zs⟩):=hid ⟨hat,hlt0,by rw[hn];exact hcap,hz,hn⟩;have HS:=hid hs;have HM:=hid hm;have HT:=hid ht;have HTT:=hid hT;have HN:=hid hn;have HZB:=hid hz;have HSC:Hid (m<=sc):=hid (by rw[<-hm];exact hs.capl)
 obtain⟨ku,HKU⟩:∃ ku:Nat,(IntKind.u64.wrap kd=(ku:Int)):=⟨(kd % 18446744073709551616).toNat,by rw[IntKind.wrap_u64];omega⟩;have hku:ku<18446744073709551616:=by rw[IntKind.wrap_u64] at HKU;omega
 obtain⟨K,HK⟩:=nm_ (1+ku % 4:Nat);have HK1:Hid (1<=K/\K<=4):=hid (by have:=HK.out;omega);have HKI:Hid ((1:Int)+(ku:Int) % 4=(K:Int)):=hid (by have:=HK.out;omega);have q1:((n:Int) == 0)=false:=by rw[beq_eq_false_iff_ne];omega
 have q2:decide ((20000:Int)<n)=false:=decide_eq_false (by omega);have q3:decide ((60:Int)<m)=false:=decide_eq_false (by omega);clear hat hlt0 hs hm ht hT hn hz;go_enter func3,ntmps3;go_wp2_with fail
 rw[HKI.out];obtain⟨wl,HWL⟩:=nm_ (w.alloc (.cells #[.int .i64 K,.slice (some ⟨b0,o0,none⟩) n cap] 27));have HOS0:Hid (Os K n w wl G (.slice (some ⟨G,0,none⟩) 1 1) zs [⟨b0,o0,cap,zs⟩]):=hid (by
  have:=qxZ K n b0 o0 cap zs w HOM.out;rw[HN.out,HG.out,HWL.out] at this;exact this)
 rw[HWL.out,HG.out];go_loopg [9,8] m (fun g iv lv wr=>∃ (i:Nat) (os:List Oj),iv=.int .i64 i/\g=m-i/\i<=m/\Hid (os.length<=i+1)/\Hid (Os K n w wr G lv zs os));case atStart=>exact⟨0,[⟨b0,o0,cap,zs⟩],rfl,rfl,by omega,hid (by simp),HOS0.out⟩
 obtain⟨i,os,rfl,hg,him,HOL,HOS⟩:=hrel;by_cases hlt:i<m
 ·have hltI:(i:Int)<m:=by omega
  have hbw:Below w.heap.size w wr:=by rw[HG.out];exact HOS.out.ls.below
  obtain⟨sb,so,hsa,hsb,hsc⟩:=(HS.out.below hbw).at_ (by rw[HM.out];omega);subst hsa;have hcell:=hsc i (by rw[HM.out];exact hlt);obtain⟨s,HSV⟩:=nm_ (ss.getD i 0);rw[HSV.out] at hcell;obtain⟨su,HSU⟩:∃ su:Nat,(IntKind.u64.wrap s=(su:Int)):=⟨(s % 18446744073709551616).toNat,by rw[IntKind.wrap_u64];omega⟩;have hsu:su<18446744073709551616:=by rw[IntKind.wrap_u64] at HSU;omega
  obtain⟨v,HV⟩:∃ v,IntKind.u8.wrap s=v:=⟨_,rfl⟩;have HVB:Hid (0<=v/\v<=255):=hid (by rw[<-HV,IntKind.wrap_u8];omega);obtain⟨c,HC⟩:=nm_ (su / 256 % n);have hcn:c<n:=by rw[<-HC.out];exact Nat.mod_lt _ hn0
  have hci:wrap64 ((IntKind.u64.wrap ((su:Int) / 256)).tmod (n:Int))=(c:Int):=by
   have e1:((su:Int) / 256)=((su / 256:Nat):Int):=(by omega);rw[e1,wrap_u64 _ (by omega),Int.tmod_eq_emod_of_nonneg (by omega),<-Int.natCast_emod,HC.out];unfold wrap64;omega
  have hsc2:m<=sc:=HSC.out;obtain⟨i5,hi,hz0,hz1,hz2⟩:=info_parts info5;clear hsu;go_wp2_with (first
   | (at_make;refine wpList_make_full _ rfl _ _ 22 rfl wr.heap.size 5 i5 (.int .u8 0) 1 underlying22 hi hz0 hz1 _ _ _ _ n rfl rfl ?c1 ?c2 ?c3 ?c4 ?c5 ?_)
   | fail)
  case c1=>rfl
  case c2=>rfl
  case c3=>rw[hz2];omega
  case c4=>unfold maxLen;omega
  case c5=>exact WzV _
  intro w1 hown hgrow;have hb1:Below wr.heap.size wr w1:=(Below.refl _ _).grown hgrow (WzV _) (fun k h=>by cases h);have hs1:wr.heap.size<w1.heap.size:=(hown.lt _ rfl).2;obtain⟨M,HMM⟩:=nm_ wr.heap.size;rw[HMM.out] at hown hb1 hs1;rw[HMM.out];have hof:Om n wr ⟨b0,o0,cap,zs⟩:=HOM.out.below hbw;have hblt:b0<M:=by rw[<-HMM.out];exact hof.lt
  have hof1:Id.At w1 b0 o0 zs:=fun e he=>(hb1.cell (p:=⟨b0,o0+e,none⟩) hblt).trans (hof.at_ e he);obtain⟨w2,hrun,hb2,hs2,hin,hfz⟩:=qq1 w1 M n b0 o0 cap zs HN.out (fun j hj=>by rw[hown.cellAt j (by omega),toList_madeCells_one,List.getElem?_replicate,if_pos (by omega)]) hown.frozenAt hof1;have k1:=hin c (by rw[HN.out];exact hcn);rw[Wq7] at k1;have f1:=hfz c
  have hsbM:sb<M:=by rw[<-HMM.out];exact hsb
  have hcell2:w2.cell? ⟨sb,so+i,none⟩=some (.int .i64 s):=(hb2.cell (p:=⟨sb,so+i,none⟩) hsbM).trans ((hb1.cell (p:=⟨sb,so+i,none⟩) hsbM).trans hcell);obtain⟨w3,HW3⟩:=nm_ (w2.setCell ⟨M,c,none⟩ (.int .u8 v));have hb3:Below M wr w3:=by rw[<-HW3.out];exact(hb1.trans hb2).setCell (WzV _) _
  have hat3:Id.At w3 M 0 (zs.set c v):=by rw[<-HW3.out];exact at_set hin c v
  have hs3:M<w3.heap.size:=by rw[<-HW3.out];exact Wqj (by omega:M<w2.heap.size) ((Below.refl 0 w2).setCell (p:=⟨M,c,none⟩) (Nat.zero_le _) _).size
  have HOS3:Hid (Os K n w w3 G u8 zs os):=hid (HOS.out.carry (by rw[HMM.out];exact hb3));obtain⟨zv,HZV⟩:=nm_ (zs.set c v)
  have HOY:Hid (Om n w3 ⟨M,0,n,zv⟩):=hid ⟨by rw[<-HZV.out];exact hat3,hs3,by show zv.length<=n;rw[<-HZV.out,Wvk,HN.out];exact WzV _,by show IsB zv;rw[<-HZV.out];exact qq0 HZB.out c v HVB.out.1 HVB.out.2,by show zv.length=n;rw[<-HZV.out,Wvk,HN.out]⟩
  have HYB:Hid (some M ≠ u8.ownBlock):=hid (fun e=>by have:=(zJ HOS.out.ls.own M e.symm).2;rw[HMM.out] at this;omega);have HONE:Hid (One zs zv):=hid (by rw[<-HZV.out];exact One.set c v (by rw[HN.out];exact hcn));have hof3:w3.cell? ⟨b0,o0+c,none⟩=some (.int .u8 (zs.getD c 0)):=(hb3.cell (p:=⟨b0,o0+c,none⟩) hblt).trans (hof.at_ c (by rw[HN.out];exact hcn))
  obtain⟨x,HX⟩:=nm_ (zs.getD c 0);rw[HX.out] at hof3;have hnew:w3.cell? ⟨M,c,none⟩=some (.int .u8 v):=by rw[<-HW3.out];exact World.cell?_setCell_same _ _ _ k1
  have hS12:S12 M c b0 o0 v x w3.drew:=⟨hnew,hof3⟩;have HBD:Hid (Below w3.heap.size w3 w3.drew):=hid (zk (Below.refl _ _) 1);clear hown hgrow hb1 hs1 hof hof1 hin hb2 hs2 hfz hcell hb3 hat3 hs3 hof3 hnew hblt hsb hsbM hbw hsc;go_wp2_with fail
  rw[HW3.out];refine wp_region_held_drew (S:=S12 M c b0 o0 v x) (by kernel_rfl) hS12 (fun hHeld=>?_);clear hS12 HW3;have HOS4:=hid (HOS3.out.carry HBD.out);have HOY4:=hid (HOY.out.below HBD.out);clear HOS3 HOY HOS;generalize w3.drew=w4 at hHeld HOS4 HOY4 ⊢;iterate 10 (refine qk hHeld ?_;try simp only[Act.put,sL])
  refine wpAnyH_done (by kernel_rfl) ?_ _;clear hHeld HBD k1 f1 hcell2 hrun;obtain⟨la,lcap,hlv,hPo,hlab,hlaz⟩:=Bx.px (d:=dO) HOS4.out.ls (fun x _=>rfl);obtain⟨lb,lof,hla,hlbb,hlr⟩:=hPo.at_ HOS4.out.pos;subst hla;obtain⟨p,HP⟩:=nm_ os.length;have hpm:p<=61:=by have:=HOL.out;rw[HP.out] at this;omega
  have hpc:p<=lcap:=by have:=hPo.capl;rwa [HP.out] at this
  rw[HP.out] at hlv;subst hlv;have HPO:=hid hPo;clear hlab hlaz hlr hPo;go_wp2_with fail
  go_loopg [13,12] p (fun g jv tv wq=>∃ (j:Nat) (tb:Bool),jv=.int .i64 j/\tv=.bool tb/\g=p-j/\j<=p/\Hid (Below w4.heap.size w4 wq)/\Hid (tb=false->∀ k,k<j->zv ≠ (os.getD k dO).zs));case atStart=>exact⟨0,_,rfl,rfl,rfl,by omega,Below.refl _ _,hid (fun _ k h=>by omega)⟩
  obtain⟨j,tb,rfl,rfl,hg2,hjp,HB4,HNE⟩:=hrel;by_cases hlt2:j<p
  ·have hltj:(j:Int)<p:=(by omega);have hri:=(HPO.out.below HB4.out).at_ (by rw[HP.out];omega);obtain⟨b',of',e1,e2,hri⟩:=hri;cases e1
   have hr:=hri j (by rw[HP.out];exact hlt2);obtain⟨y,HY⟩:=nm_ (os.getD j dO);obtain⟨yb,yo,yc,ys⟩:=y;have hoy:Om n wr ⟨yb,yo,yc,ys⟩:=by
    have:=(HOS4.out.om _ (zV os j dO (by rw[HP.out];exact hlt2))).below HB4.out;rwa [HY.out] at this
   have hoz:=HOY4.out.below HB4.out;have hyl:ys.length=n:=hoy.len;have hzl:zv.length=n:=hoz.len;have hsl:slO ⟨yb,yo,yc,ys⟩=.slice (some ⟨yb,yo,none⟩) n yc:=(by unfold slO;rw[hyl]);rw[HY.out] at hr;unfold yQ at hr;rw[hsl] at hr;have kc:=hr 1 _ rfl;have C4:=hid (Uy yb yo yc M 0 n n ys zv wr hyl hzl (by omega) hoy.at_ hoz.at_)
   have HNE2:Hid (∀ wz:World,Below wr.heap.size wr wz->Below w4.heap.size w4 wz):=hid (fun wz h=>HB4.out.trans (h.mono HB4.out.size));have HNX:Hid (decide (ys=zv)=false->(∀ k,k<j->zv ≠ (os.getD k dO).zs)->∀ k,k<j+1->zv ≠ (os.getD k dO).zs):=hid (fun h1 h2 k hk=>by
    rcases WzW k j with h | h
    ·exact h2 k h
    obtain rfl:k=j:=(by omega);rw[HY.out];exact fun e=>of_decide_eq_false h1 e.symm)
   clear hr hri hoy hoz hyl hzl hsl e2;cases tb
   ·go_wp2_with (first
     | (go_at_call 4;refine C4.out.mono ?_;rintro e wh ⟨rfl,hbh⟩;clear C4;have HBH:=hid hbh;clear hbh)
     | fail)
    go_roundg (p-(j+1));case measure=>omega
    case rel=>exact⟨j+1,_,by go_num,rfl,rfl,by omega,hid (HNE2.out _ HBH.out),hid (fun h=>HNX.out h (HNE.out (by trivial)))⟩
   go_wp2_with (first
    | (go_at_call 4;refine C4.out.mono ?_;rintro e wh ⟨rfl,hbh⟩;clear C4;have HBH:=hid hbh;clear hbh)
    | fail)
   go_roundg (p-(j+1));case measure=>omega
   case rel=>exact⟨j+1,true,by go_num,rfl,rfl,by omega,hid (HNE2.out _ HBH.out),hid (fun h=>by cases h)⟩
  have hltj:¬ (j:Int)<p:=by omega
  obtain rfl:j=p:=by omega
  have HOS5:=hid (HOS4.out.carry HB4.out);have HOY5:=hid (HOY4.out.below HB4.out);clear HOS4 HOY4 HPO;cases tb
  rotate_left
  ·have HOL7:Hid (os.length<=i+1+1):=hid (by have:=HOL.out;omega);go_wp2_with fail
   go_roundg (m-(i+1));case measure=>omega
   case rel=>exact⟨i+1,os,by go_num,rfl,by omega,HOL7.out,HOS5.out⟩
  have HNE2:Hid (∀ k,k<os.length->zv ≠ (os.getD k dO).zs):=hid (by rw[HP.out];exact HNE.out (by trivial));have hzl:zv.length=n:=HOY5.out.len;obtain⟨wx,HWX⟩:=nm_ (wr.alloc (.cells #[.int .i64 K,.slice (some ⟨M,0,none⟩) n n] 27));obtain⟨gs,HGS⟩:=nm_ wr.heap.size;have hr28:=qqY K (some ⟨M,0,none⟩) n n wr;rw[HWX.out,HGS.out] at hr28
  have hr27:∀ W:World,(Instr.build 27 #[(0,.int .i64 K),(1,.slice (some ⟨M,0,none⟩) n n)]).run prog W=.ok (.agg #[.int .i64 K,.slice (some ⟨M,0,none⟩) n n]) W:=fun W=>by kernel_rfl
  have hbx:Below wr.heap.size wr wx:=by rw[<-HWX.out];exact(Below.refl _ wr).alloc (WzV _) _
  have HOS6:=hid (HOS5.out.carry hbx);have HOY6:=hid (HOY5.out.below hbx);have hrs:wx.rangeAt gs 0 (yQ K ⟨M,0,n,zv⟩):=by
   have:yQ K ⟨M,0,n,zv⟩=[.int .i64 K,.slice (some ⟨M,0,none⟩) n n]:=(by unfold yQ slO;rw[hzl]);rw[this,<-HWX.out,<-HGS.out];exact zx (heap_alloc_new _ _)
  obtain⟨lv',wy,hrun,hl4,hg4,hm4⟩:=HOS6.out.ls.app1 gs ⟨M,0,n,zv⟩ hrs rfl (by decide) (jz K _) (by rw[HP.out];omega) 28 underlying28 zuk rfl (by decide) 28;have HOS7:Hid (Os K n w wy G lv' zs (os++[⟨M,0,n,zv⟩])):=hid (HOS6.out.snoc hl4 hg4 hm4 HOY6.out HYB.out HONE.out HNE2.out);have HRUN:=hid hrun
  have HOL7:Hid ((os++[(⟨M,0,n,zv⟩:Oj)]).length<=i+1+1):=hid (by rw[Wz6];have:=HOL.out;simp;omega);clear hbx hrs hrun hl4 hg4 hm4 hzl;go_wp2_with (first
   | (refine qw rfl (.agg #[.int .i64 K,.slice (some ⟨M,0,none⟩) n n]) (VX 27 (.tmp 110) (.tmp 111) (by rfl) _ _ _ (by rfl) (by rfl) (hr27 _)) ?_)
   | (refine qw rfl _ (xw 28 1 (.tmp 112) (by rfl) (.agg #[.int .i64 K,.slice (some ⟨M,0,none⟩) n n]) (.slice (some ⟨gs,0,none⟩) 1 1) (by rfl) hr28) ?_)
   | (refine qw rfl lv' (yy (.tmp 109) (.tmp 113) 28 (by rfl) (by rfl) (by rfl) HRUN.out) ?_)
   | fail)
  go_roundg (m-(i+1));case measure=>omega
  case rel=>exact⟨i+1,_,by go_num,rfl,by omega,HOL7.out,HOS7.out⟩
 have hltI:¬ (i:Int)<m:=by omega
 obtain rfl:i=m:=by omega
 clear HWL HOS0;obtain⟨la,lcap,hlv,hPo,-,-⟩:=Bx.px (d:=dO) HOS.out.ls (fun x _=>rfl);obtain⟨lb,lof,hla,hlbb,-⟩:=hPo.at_ HOS.out.pos;subst hla;obtain⟨p,HP⟩:=nm_ os.length;have hp0:0<p:=by rw[<-HP.out];exact HOS.out.pos
 have hpm:p<=i+1:=by have:=HOL.out;rw[HP.out] at this;exact this
 have hpc:p<=lcap:=by have:=hPo.capl;rwa [HP.out] at this
 rw[HP.out] at hlv;subst hlv;have HPO:=hid hPo;have HB1:Hid (Below w.heap.size w wr):=hid (by rw[HG.out];exact HOS.out.ls.below);have c5:=CJ K (some ⟨lb,lof,none⟩) lcap os wr hPo (by rw[HP.out];omega);rw[HP.out] at c5;have C5:=hid c5;clear c5 hPo hlbb hg him;go_wp2_with fail
 refine C5.out.mono ?_;rintro e w2 ⟨qv,rfl,hQ⟩;have hb2:Below wr.heap.size wr w2:=hQ.below;obtain⟨qa,qcap,hqv,hQP,-,-⟩:=Bx.px (d:=dO) hQ (fun x _=>rfl);obtain⟨qb,qof,hqa,hqbb,-⟩:=hQP.at_ HOS.out.pos;subst hqa;have hqc:=hQP.capl;rw[HP.out] at hqv hqc;subst hqv;have HOS2:=hid (HOS.out.carry hb2);have HPO2:=hid (HPO.out.below hb2)
 have HB2:=hid (HB1.out.trans (hb2.mono HB1.out.size));have HQP:=hid hQP;have c6:=Ew K n HK1.out hn2 qb qof qcap os w2 (fun W hW j hj=>by obtain⟨b',of',e1,e2,e3⟩:=(HQP.out.below hW).at_ HOS.out.pos;cases e1;exact e3 j hj) (fun W hW j hj=>(HOS2.out.om _ (zV os j dO hj)).below hW) HOS.out.ne (by rw[HP.out];omega) (by rw[HP.out];exact hqc);rw[HP.out] at c6
 have C6:=hid c6;clear c6 hQP hQ hb2 hqbb C5 HB1 HPO HOS;go_wp2_with fail
 refine C6.out.mono ?_;rintro e w3 ⟨r,rfl,hb3,hne⟩;have HB3:=hid (HB2.out.trans (hb3.mono HB2.out.size));have HOS3:=hid (HOS2.out.carry hb3);have HPO3:=hid (HPO2.out.below hb3);have HQP3:=hid (HQP.out.below hb3);have HNEX:=hid hne;clear hb3 hne C6 HOS2 HPO2 HQP HB2;cases r
 rotate_left
 ·go_wp2_with fail
  go_ret;exact⟨rfl,HB3.out⟩
 have HNE:Hid (∀ i k,k<i->i<p->ido K (os.getD i dO) ≠ ido K (os.getD k dO)):=hid (HNEX.out rfl);have hof:=HOM.out.below HB3.out;have HT3:=HT.out.below HB3.out;have c7:=Df.deflate_f b0 o0 cap zs w3 (Au hof.isb) (zv9 hof.at_) hof.lt (by rw[HN.out];omega) (by rw[HN.out];exact hcap) HT3.four;rw[HN.out] at c7;have C7:=hid c7;clear c7 HT3 hof HNEX;go_wp2_with fail
 refine C7.out.mono ?_;rintro e w4 ⟨v7,rfl,z,hz,hst⟩;obtain⟨a7,c7,hv7,-⟩:=xW (⟨hst.below,hst.owns,hst.below.size⟩:Bd w3 w4 w3.heap.size v7 z);obtain⟨zl,HZL⟩:=nm_ z.length;rw[HZL.out] at hv7;subst hv7;have HZD:=hid hz;have hb4:Below w3.heap.size w3 w4:=hst.below;have HB4:=hid (HB3.out.trans (hb4.mono HB3.out.size));have HOS4:=hid (HOS3.out.carry hb4)
 have HPO4:=hid (HPO3.out.below hb4);have HQP4:=hid (HQP3.out.below hb4)
 have c8:=E9 K n HK1.out hn0 hn2 (some ⟨lb,lof,none⟩) lcap os w4 HPO4.out (qy1 HOS4.out.om (HT.out.below HB4.out) (fun W hW=>HTT.out W (HB4.out.trans (hW.mono HB4.out.size)))) (fun j k h1 h2=>(HNE.out k j h1 (by rw[<-HP.out];exact h2)).symm) (by rw[HP.out];omega) (fun j h1 h2=>.inr ⟨h1,by rw[HOS4.out.z0];exact HOS4.out.one j h1 h2⟩);rw[HP.out] at c8;have C8:=hid c8
 clear c8 hst hz hb4 HB3 HOS3 HPO3 HQP3 C7;go_wp2_with fail
 refine C8.out.mono ?_;rintro e w5 ⟨es,v8,rfl,hel,hEs,hOks,hoff,hbd⟩;rw[HP.out] at hel hbd;obtain⟨bs,HBS⟩:=nm_ (pkb p es++sha (pkb p es));rw[HBS.out] at hbd;obtain⟨L,HL⟩:=nm_ bs.length;obtain⟨a8,c8,hv8,hsl8⟩:=xW hbd;rw[HL.out] at hv8;subst hv8;have HSL8:=hid hsl8;have HEL:=hid hel;have HES:=hid hEs;have HOK:=hid hOks;have HOF:=hid hoff
 have hb5:Below w4.heap.size w4 w5:=hbd.below;have HB5:=hid (HB4.out.trans (hb5.mono HB4.out.size));have HOS5:=hid (HOS4.out.carry hb5);have HPO5:=hid (HPO4.out.below hb5);have HQP5:=hid (HQP4.out.below hb5);clear hel hEs hOks hoff hbd hsl8 hb5 HB4 HOS4 HPO4 HQP4 C8;go_wp2_with fail
 obtain⟨a9,ha9,hsl9⟩:=qq2 lb lof p lcap hp0 hpc;have HSL9:=hid hsl9;have hlc:(1:Int)<=(lcap:Int):=by omega
 obtain⟨ot,HOT⟩:=nm_ (os.drop 1);obtain⟨oh,HOH⟩:=nm_ (os.getD 0 dO);have hbd:Below w5.heap.size w5 w5.drew:=zk (Below.refl _ _) 1;have HB5:=hid (HB5.out.trans (hbd.mono HB5.out.size));have HOS5:=hid (HOS5.out.carry hbd);have HPO5:=hid (HPO5.out.below hbd);have HQP5:=hid (HQP5.out.below hbd);have HSL8:=hid (HSL8.out.below hbd);clear hbd
 refine wp_region_held_drew (S:=fun _=>True) (by kernel_rfl) trivial (fun hHeld=>?_);generalize w5.drew=wd at hHeld HB5 HOS5 HPO5 HQP5 HSL8 ⊢;have hp1:0<os.length:=HOS5.out.pos;have HTL:Hid (ot.length=p-1):=hid (by rw[<-HOT.out,Wz8,HP.out])
 have HGT:Hid (∀ j,ot.getD j dO=os.getD (j+1) dO):=hid (fun j=>by rw[<-HOT.out,List.getD_eq_getElem?_getD,List.getElem?_drop,List.getD_eq_getElem?_getD,Wv5]);have HMEM:Hid (∀ x ∈ ot++[oh],x ∈ os):=hid (fun x hx=>by
  rcases WqX.1 hx with h | h
  ·rw[<-HOT.out] at h;exact List.mem_of_mem_drop h
  obtain rfl:=WqJ.1 h;rw[<-HOH.out];exact zV os 0 dO hp1)
 have hpt:Po K wd (some a9) (lcap-1) ot:=by rw[<-HOT.out];exact Iu HPO5.out hp1 a9 (lcap-1) (fun h=>ha9 (by have:=HP.out;omega)) (by rw[HP.out];omega)
 have hph:Po K wd (some ⟨lb,lof,none⟩) lcap [oh]:=by
  have h1:=HPO5.out.take 1;have e:os.take 1=[oh]:=by
   have:=yY dO os 0 hp1;rw[HOH.out] at this;simpa using this
  rwa [e] at h1
 have HPH:=hid hph;have c9:=DW K n HK1.out hn0 hn2 (some a9) (some ⟨lb,lof,none⟩) (lcap-1) lcap ot [oh] wd hpt hph (qy1 (fun x hx=>HOS5.out.om x (HMEM.out x hx)) (HT.out.below HB5.out) (fun W hW=>HTT.out W (HB5.out.trans (hW.mono HB5.out.size)))) (fun j k h1 h2=>by
  rw[HGT.out,HGT.out];exact(HNE.out (k+1) (j+1) (by omega) (by rw[HTL.out] at h2;omega)).symm) (by rw[HTL.out];omega) (by simp) (fun j h1 h2=>.inl ⟨oh,rfl,by
  rw[HGT.out,<-HOH.out,HOS5.out.z0];exact HOS5.out.one (j+1) (by omega) (by rw[HTL.out] at h2;rw[HP.out];omega)⟩)
 rw[HTL.out] at c9;have C9:Hid (Calls prog 9 #[.slice (some a9) (p-1) (lcap-1),.slice (some ⟨lb,lof,none⟩) 1 lcap] wd (SV wd K ot [oh])):=hid c9;clear c9 hpt hph ha9 hsl9;refine qk hHeld ?_;try simp only[Act.put,sL]
 refine Dl.takeL (i:=1) (v:=.slice (some a9) (p-1) (lcap-1)) rfl (by kernel_rfl) (by kernel_rfl) (by kernel_rfl) (fun _ _ _ h=>h) (Or.inl ⟨by rfl,fun w' _=>VW (x:=.tmp 128) qy3 (by rfl) (by rfl) (HSL9.out w')⟩) hHeld ?_;try simp only[Act.put,sL]
 refine qk hHeld ?_;try simp only[Act.put,sL]
 refine qk hHeld ?_;try simp only[Act.put,sL]
 refine wpAnyH_ready (rs:=[4]) (by kernel_rfl) (by simp) ?_;refine Dl.consL rfl (fun KK hKK=>?_) AllReadyH.nil;refine yz (by rfl) 9 [.tmp 129,.tmp 131] _ [.slice (some a9) (p-1) (lcap-1),.slice (some ⟨lb,lof,none⟩) 1 lcap] _ rfl rfl (fun w=>by kernel_rfl) C9.out ?_;rintro e w6 ⟨es2,v9,rfl,hel2,hEs2,hOk2,hoff2,hbd2⟩;rw[HTL.out] at hel2 hbd2
 obtain⟨bs2,HBS2⟩:=nm_ (pkb (p-1) es2++sha (pkb (p-1) es2));rw[HBS2.out] at hbd2;obtain⟨L2,HL2⟩:=nm_ bs2.length;obtain⟨a10,c10,hv10,hsl10⟩:=xW hbd2;rw[HL2.out] at hv10;subst hv10;have HSL10:=hid hsl10;have HEL2:=hid hel2;have HES2:=hid hEs2;have HOK2:=hid hOk2;have HOF2:=hid hoff2;have hb6:Below wd.heap.size wd w6:=hbd2.below
 have HB6:=hid (HB5.out.trans (hb6.mono HB5.out.size));have HOS6:=hid (HOS5.out.carry hb6);have HPO6:=hid (HPO5.out.below hb6);have HQP6:=hid (HQP5.out.below hb6);have HPH6:=hid (HPH.out.below hb6);have HSL8:=hid (HSL8.out.below hb6);clear hel2 hEs2 hOk2 hoff2 hbd2 hsl10 hb6 HB5 HOS5 HPO5 HQP5 HPH;refine⟨_,rfl,?_⟩;refine hKK.out _ _ trivial (fun h1=>?_);clear hKK KK C9
 try simp only[Act.put,sL]
 iterate 5 (refine qk h1 ?_;try simp only[Act.put,sL])
 refine wpAnyH_done (by kernel_rfl) ?_ _;clear h1 hHeld;have HLL:Hid (L=off es es.length+20/\0<L):=hid (by rw[<-HL.out,<-HBS.out,Wz6,kV,j0];exact⟨rfl,by omega⟩);have HLL2:Hid (L2=off es2 es2.length+20/\0<L2):=hid (by rw[<-HL2.out,<-HBS2.out,Wz6,kV,j0];exact⟨rfl,by omega⟩)
 have HOB:Hid (∀ j,j<es.length->(es.getD j dE).ob=(os.getD j dO).zs):=hid (fun j hj=>(HES.out.all j hj).ob);have HOB2:Hid (∀ j,j<es2.length->(es2.getD j dE).ob=(ot.getD j dO).zs):=hid (fun j hj=>(HES2.out.all j hj).ob);have HOL1:Hid (∀ x ∈ os,x.zs.length=n/\IsB x.zs):=hid (fun x hx=>⟨(HOS6.out.om x hx).len,(HOS6.out.om x hx).isb⟩)
 have HOL2:Hid (∀ x ∈ ot,x.zs.length=n/\IsB x.zs):=hid (fun x hx=>HOL1.out x (HMEM.out x (WqX.2 (.inl hx))));obtain⟨b8,o8,ha8,hb8,hat8⟩:=HSL8.out.at_ (by rw[HL.out];exact HLL.out.2);obtain⟨b10,o10,ha10,hb10,hat10⟩:=HSL10.out.at_ (by rw[HL2.out];exact HLL2.out.2);subst ha8;subst ha10;have hcl8:=HSL8.out.capl;have hcl10:=HSL10.out.capl;rw[HL.out] at hcl8
 rw[HL2.out] at hcl10
 have C10:=hid (CX (K:=K) (n:=n) (hs:=[]) (es:=es) p HEL.out (by omega) HK1.out hn0 hn2 HOK.out (fun j hj=>by rw[HOB.out j hj];exact(HOL1.out _ (zV os j dO (by rw[HP.out,<-HEL.out];exact hj))).1) (fun j k h1 h2=>by rw[HOB.out j (by omega),HOB.out k h2];exact(HNE.out k j h1 (by rw[<-HEL.out];exact h2)).symm) (by have:=HOF.out;rw[HEL.out] at this ⊢;omega) b8 o8 c8 L w6 bs HBS.out.symm HL.out hcl8 hb8 hat8 (HT.out.below HB6.out) (fun W hW=>HTT.out W (HB6.out.trans (hW.mono HB6.out.size))) (.slice none 0 0) (.inl rfl))
 clear hcl8 hb8 hat8;go_wp2_with fail
 refine C10.out.mono ?_;rintro e w7 ⟨vx,us,rfl,hrd⟩;have HRD:=hid hrd;have hb7:Below w6.heap.size w6 w7:=hrd.ls.below;have HB7:=hid (HB6.out.trans (hb7.mono HB6.out.size));have HB67:=hid hb7;have HOS7:=hid (HOS6.out.carry hb7);have HQP7:=hid (HQP6.out.below hb7);have HPH7:=hid (HPH6.out.below hb7)
 have hat10':Id.At w7 b10 o10 bs2:=fun e he=>(hb7.cell (p:=⟨b10,o10+e,none⟩) hb10).trans (hat10 e he);have hb10':b10<w7.heap.size:=Wqj hb10 hb7.size
 have C11:=hid (CX (K:=K) (n:=n) (hs:=[oh.zs]) (es:=es2) (p-1) HEL2.out (by omega) HK1.out hn0 hn2 HOK2.out (fun j hj=>by rw[HOB2.out j hj];exact(HOL2.out _ (zV ot j dO (by rw[HTL.out,<-HEL2.out];exact hj))).1) (fun j k h1 h2=>by
  rw[HOB2.out j (by omega),HOB2.out k h2,HGT.out,HGT.out]
  exact(HNE.out (k+1) (j+1) (by omega) (by have:=HEL2.out;omega)).symm) (by have:=HOF2.out;rw[HEL2.out] at this ⊢;omega) b10 o10 c10 L2 w7 bs2 HBS2.out.symm HL2.out hcl10 hb10' hat10' (HT.out.below HB7.out) (fun W hW=>HTT.out W (HB7.out.trans (hW.mono HB7.out.size))) (.slice (some ⟨lb,lof,none⟩) 1 lcap) (.inr ⟨lb,lof,lcap,oh,rfl,by omega,rfl,fun W hW=>by
   obtain⟨b',of',e1,e2,e3⟩:=(HPH7.out.below hW).at_ (by simp);cases e1
   have:=e3 0 (by simp);simpa using this,fun W hW=>(HOS7.out.om oh (HMEM.out oh (by simp))).below hW⟩))
 clear hrd hb7 hat10 hat10' hb10 hb10' hcl10 C10 HPH6 HPO6;go_wp2_with fail
 refine C11.out.mono ?_;rintro e w8 ⟨vy,us2,rfl,hrd2⟩;have HRD2:=hid hrd2;have hb8:Below w7.heap.size w7 w8:=hrd2.ls.below;have HB8:=hid (HB7.out.trans (hb8.mono HB7.out.size));have HB68:=hid (HB67.out.trans (hb8.mono HB67.out.size));have HOS8:=hid (HOS7.out.carry hb8);have HQP8:=hid (HQP7.out.below hb8);have hul:us.length=p:=by rw[HRD.out.len,HEL.out]
 have hul2:us2.length=p-1:=by rw[HRD2.out.len,HEL2.out]
 have hvs:Vs w7 w6.heap.size n us (os.map (·.zs)):=qy2 HRD.out (by rw[HEL.out,HP.out]) HOB.out HOL1.out;have hvs2:Vs w8 w7.heap.size n us2 (ot.map (·.zs)):=qy2 HRD2.out (by rw[HEL2.out,HTL.out]) HOB2.out HOL2.out;have HVS2:=hid hvs2
 have HLT7:Hid (∀ j k,j<us.length->(us.getD j dU).ownBlock=some k->k<w7.heap.size):=hid (fun j k hj hk=>(zJ (hvs.own j (by rw[<-hvs.len];exact hj)) k hk).2)
 have C12:=hid (Gz K w6.heap.size n p hn0 hn2 (by omega) vx us os HP.out (some ⟨qb,qof,none⟩) qcap w6 w8 HB68.out.size (HRD.out.ls.carry hb8) (hvs.kt (q8 hb8)) (fun j k b h1 h2 h3=>HRD.out.ap j k b (by rw[<-HRD.out.len];exact h1) (by rw[<-HRD.out.len];exact h2) h3) HQP8.out HOS8.out.om);have HBY:Hid (w7.heap.size<=w8.heap.size):=hid hb8.size
 clear hrd2 hb8 hvs hvs2 C11 HB7 HOS7 HQP7 HPH7;go_wp2_with fail
 refine C12.out.mono ?_;rintro e w9 ⟨rfl,hbl9,hfr9⟩;have HB69:=hid (HB68.out.trans hbl9);have HB9:=hid (HB6.out.trans (HB69.out.mono HB6.out.size));have HQP9:=hid (HQP6.out.below HB69.out);have HOS9:=hid (HOS6.out.carry HB69.out);have hblk:∀ k,w7.heap.size<=k->k<w8.heap.size->w9.heap[k]? = w8.heap[k]? := fun k h1 h2=>hfr9 k h2 (fun j hj e=>by have:=HLT7.out j k hj e;omega)
 have hls2:Bx (P4 K) 2 27 w9 w9 w7.heap.size vy us2:=⟨Below.refl _ _,zuZ HRD2.out.ls.own (fun k hk=>by have:=zJ HRD2.out.ls.own k hk;exact hblk k this.1 this.2),Wqx HBY.out hbl9.size⟩;have hvs9:Vs w9 w7.heap.size n us2 (ot.map (·.zs)):=HVS2.out.sm (fun j k hj hk=>by have:=zJ (HVS2.out.own j (by rw[<-HVS2.out.len];exact hj)) k hk;exact hblk k this.1 this.2)
 obtain⟨a30,ha30,hsl30⟩:=qq3 qb qof p qcap hp0 hqc;have HSL30:=hid hsl30;have hqt:Po K w9 (some a30) (qcap-1) ot:=by rw[<-HOT.out];exact Iu HQP9.out HOS9.out.pos a30 (qcap-1) (fun h=>ha30 (by have:=HP.out;omega)) (by rw[HP.out];omega)
 have C13:=hid (Gz K w7.heap.size n (p-1) hn0 hn2 (by omega) vy us2 ot HTL.out (some a30) (qcap-1) w9 w9 (Wqx HBY.out hbl9.size) hls2 hvs9 (fun j k b h1 h2 h3=>HRD2.out.ap j k b (by rw[<-HRD2.out.len];exact h1) (by rw[<-HRD2.out.len];exact h2) h3) hqt (fun x hx=>HOS9.out.om x (HMEM.out x (WqX.2 (.inl hx)))))
 have HGE:Hid (w.heap.size<=w7.heap.size):=hid (Wqx HB6.out.size HB67.out.size);clear hbl9 hfr9 hblk hls2 hvs9 hsl30 hqt C12 ha30 HB8 HOS8 HQP8;go_wp2_with (first
  | (refine qw rfl _ (VW (x:=.tmp 151) qy4 (by rfl) (by rfl) (HSL30.out _)) ?_)
  | fail)
 refine C13.out.mono ?_;rintro e w10 ⟨rfl,hbl10,-⟩;have HB10:=hid (HB9.out.trans (hbl10.mono HGE.out));have HLA:Hid (L<=62+zl+90*i):=hid (by
  have h1:=Tw HES.out (fun j h1 h2=>.inr ⟨h1,by rw[HOS9.out.z0];exact HOS9.out.one j h1 (by rw[HP.out,<-HEL.out];exact h2)⟩) HZD.out HOS9.out.z0 (by rw[HN.out];exact hn2) (p-1) (by rw[HEL.out];omega);rw[show p-1+1=p by omega,HZL.out] at h1;rw[HLL.out.1,HEL.out];omega)
 have HLB:Hid (L2<=32+90*i):=hid (by
  have h1:=Ty HES2.out (fun j h1=>.inl ⟨oh,rfl,by rw[HGT.out,<-HOH.out,HOS9.out.z0];exact HOS9.out.one (j+1) (by omega) (by rw[HEL2.out] at h1;rw[HP.out];omega)⟩) (p-1) (by rw[HEL2.out];exact WzV _);rw[HLL2.out.1,HEL2.out];omega)
 clear hbl10 C13;have CT:=hid zxy;have hla:=HLA.out;have hlb:=HLB.out;have hzl:zl<=20011:=by have:=HZD.out.le (by rw[HN.out];omega);rw[HZL.out,HN.out] at this;omega
 go_wp2_with (first
  | (go_at_call 12;refine(CT.out _).mono ?_;rintro e wt ⟨rfl,hbt⟩;have HB10:=hid (HB10.out.trans (hbt.mono HB10.out.size));clear hbt)
  | fail)
 go_ret;exact⟨by rw[show decide (((L2:Nat):Int)<=32+90*(i:Int))=true from decide_eq_true (by omega)];rfl,HB10.out⟩
theorem zq0 (kd:Int) (a sa:Option Addr) (n cap m sc:Nat) (w:World) (h:n=0 ∨ 20000<n ∨ 60<m) :
  Calls prog 3 #[.int .i64 kd,.slice a n cap,.slice sa m sc] w (IZ w):=by
 have HB:Hid (Below w.heap.size w w):=Below.refl _ _;go_enter func3,ntmps3;by_cases h0:n=0
 ·have q1:((n:Int) == 0)=true:=by rw[beq_iff_eq];omega
  go_wp2_with fail
  go_ret;exact⟨rfl,HB.out⟩
 have q1:((n:Int) == 0)=false:=by rw[beq_eq_false_iff_ne];omega
 by_cases h1:20000<n
 ·have q2:decide ((20000:Int)<n)=true:=decide_eq_true (by omega);go_wp2_with fail
  go_ret;exact⟨rfl,HB.out⟩
 have q2:decide ((20000:Int)<n)=false:=decide_eq_false (by omega);have q3:decide ((60:Int)<m)=true:=decide_eq_true (by omega);go_wp2_with fail
 go_ret;exact⟨rfl,HB.out⟩
end Go.Proofs.YtiaaekdpfpaigaaGreatDoor.Pk
