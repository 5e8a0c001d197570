import Derived.Maps.OwnIn
import Derived.Test.YtiaaekdpfpaigaaGreatDoorMn24
set_option linter.unusedSimpArgs false
set_option linter.unusedVariables false
set_option maxRecDepth 20000
set_option maxHeartbeats 4000000
open Array renaming replicate_succ->WxY,replicate_zero->Wv0
open List renaming append_assoc->Wz1,append_toArray->Wv1,cons_append->Wz3,length_append->Wz6,length_cons->Wz7,length_drop->Wz8,length_nil->Wv3,map_append->Wy4,map_singleton->Wvz,mem_of_mem_drop->Wzq,nil_append->Wzx,push_toArray->Wv4,size_toArray->WqW
open Nat renaming le_refl->WzV,lt_of_lt_of_le->Wqj,reduceAdd->Wq3,reduceSub->Wv6
namespace Go.Proofs.YtiaaekdpfpaigaaGreatDoor.Dl
open Go.Proofs.Tryz
open Go.RowKit Go.Shelf Go.Maps Plain
attribute [local go_sem] Oper.semAt_some
theorem Mv.grow {A B:World} (v:Value) (h:A.grownBy B none):Mv A B v v:=⟨h.os,h.tape,h.output,h.size,fun k hk _=>h.block k hk (by simp),.inl rfl⟩
theorem Mv.put {w W:World} {v u:Value} (h:Mv w W v u) {l:Nat} (o:Obj) (hl:w.heap.size<=l):Mv w (W.putObj l o) v u :=
 ⟨h.os,h.tape,h.output,by rw[World.putObj_size];exact h.size,fun k hk hn=>(World.putObj_heap_other (by omega)).trans (h.blk k hk hn),h.at_⟩
theorem E7 {W:World} {B:Nat} {u:Value} {n:Nat} {xs:List Value} (h:W.ownsRow B 5 1 u n xs) {k:Nat} (hk:u.ownBlock=some k):∃ cur,W.heap[k]? = some (.cells cur 5 (0,0)):=by
 obtain⟨_,⟨rfl,_⟩ | ⟨g,cap,cur,rfl,_,h2,_⟩⟩:=h
 ·cases hk
 simp[Value.ownBlock] at hk;subst hk;exact⟨cur,h2⟩
theorem Zu {W W1:World} {X:Nat} {u u1:Value} {B n:Nat} {xs:List Value} (hb:Boxed W X 22 u) (ho:W.ownsRow B 5 1 u n xs) (h:Mv W W1 u u1) (Bx:Nat):KeepsFrom Bx W (W1.setCell ⟨X,0,none⟩ u1):=by
 refine⟨by simp[World.setCell];exact h.size,fun k o _ hk hc=>?_⟩;have hkX:k ≠ X:=fun e=>by rw[e,show W.heap[X]? = _ from hb] at hk;cases hk;cases hc
 rw[Below.heap_setCell _ _ _ k hkX,h.blk k (Array.getElem?_eq_some_iff.1 hk).1 (fun e=>?_)]
 ·exact hk
 obtain⟨cur,hcur⟩:=E7 ho e.symm;rw[hcur] at hk;cases hk;cases hc
theorem Mv.store {w W1:World} {v u1:Value} (h:Mv w W1 v u1) {X:Nat} (hX:w.heap.size<=X) (y:Value):Mv w (W1.setCell ⟨X,0,none⟩ y) v u1 :=
 ⟨h.os,h.tape,h.output,by simp[World.setCell];exact h.size,fun k hk hn=>(Below.heap_setCell _ _ _ k (by show k ≠ X;omega)).trans (h.blk k hk hn),h.at_⟩
theorem E8 {W:World} {a:Option Addr} {cap:Nat} {c:List Int} (h:Sl W a cap c) {l:Nat} {r:Loop} (o:Obj) (hl:W.heap[l]? = some (.loop r)):Sl (W.putObj l o) a cap c :=
 ⟨h.capl,fun h0=>by
  obtain⟨b,off,e1,e2,e3⟩:=h.at_ h0
  exact⟨b,off,e1,by rw[World.putObj_size];exact e2,fun i hi=>cell_kept (e3 i hi) (grownBy_putObj' W l o) (fun r' e=>by cases e;exact⟨_,hl,rfl⟩)⟩,h.nil⟩
theorem zvJ (n:Nat) (a1:Option Addr) (n1 c1:Nat) (w:World) :
  CallsIn Fence.wide n prog 91 #[.slice a1 n1 c1,.int .i64 127] w fun e w'=>e=.returned (.func (.func 103) #[] #[.pointer (some ⟨w.heap.size,0,none⟩),.pointer (some ⟨w.heap.size+1,0,none⟩)])/\w'=(w.alloc (.cells #[.slice a1 n1 c1] 22)).alloc (.cells #[.int .i64 127] 3):=by
 refine callsIn_of_wp func91 rfl trivial ?_ rfl;simp only[ntmps91,WqW,Wz7,Wv3,Wq3,Wv6,WxY,Wv0,Wv4,Wv1,Wzx,Wz3];gi_wp2;go_ret;exact⟨rfl,rfl⟩
def AoI (w:World) (X B:Nat) (v:Value) (out:List Int) (pre:List Ch) (W:World):Prop :=
 ∃ u,Boxed W X 22 u/\W.ownsRow B 5 1 u (out++eo (pre.map (·.c))).length ((out++eo (pre.map (·.c))).map (Value.int .u8))/\Mv w W v u/\(eo (pre.map (·.c))).length<=128*pre.length
theorem AoI.grow {w:World} {X B:Nat} {v:Value} {out:List Int} (s:List Ch) (A C:World) (h:AoI w X B v out s A) (hg:A.grownBy C none):AoI w X B v out s C:=by
 obtain⟨u,h1,h2,h3,h4⟩:=h;exact⟨u,h1.kept hg (by simp),h2.kept hg (by cases e:u.ownBlock <;> simp),h3.trans (Mv.grow u hg),h4⟩
theorem AoI.put {w:World} {X B:Nat} {v:Value} {out:List Int} {n:Nat} (hX:X<n) (hw:w.heap.size<=n) (s:List Ch) (l:Nat) (W:World) (r r':Loop) (hl:n<=l) (hr:W.heap[l]? = some (.loop r)) (h:AoI w X B v out s W):AoI w X B v out s (W.putObj l (.loop r')):=by
 obtain⟨u,h1,h2,h3,h4⟩:=h;exact⟨u,(World.putObj_heap_other (by omega)).trans h1,ownsRow_putObj h2 _ hr rfl,h3.put _ (by omega),h4⟩
theorem vJ (w:World):w.grownBy w none:=⟨rfl,rfl,rfl,WzV _,fun _ _ _=>rfl⟩
theorem zvK {W w1:World} {X b off:Nat} {u u1 y:Value} {l:List Value} (h:∀ j z,l[j]? = some z->W.cell? ((⟨b,off,none⟩:Addr).add j)=some z) (h1:b ≠ X) (h2:some b ≠ u.ownBlock) (h3:b<W.heap.size) (hv:Mv W w1 u u1) :
  ∀ j z,l[j]? = some z->(w1.setCell ⟨X,0,none⟩ y).cell? ((⟨b,off,none⟩:Addr).add j)=some z:=fun j z hj=>by
 have:=h j z hj;rw[addr_add] at this ⊢;rw[World.cell?_setCell_other _ _ _ _ (by intro e;simp only[Addr.mk.injEq] at e;exact h1 e.1.symm),<-this];exact World.cell?_of_block (a:=⟨b,off+j,none⟩) (hv.blk b h3 h2)
theorem results63:f63.results=#[.tmp 4]:=by kernel_rfl
theorem zzu {fn:Func} {p:Tmp} (h:fn.results=#[.tmp p]) (tmps:Array Value) (w:World) (x:Value) (hp:tmps.getD p undef=x):(results fn tmps).run prog w=.ok x w:=by
 have hp':tmps[p]?.getD undef=x:=by simpa using hp
 simp[results,h,hp']
theorem qqW {fn:Func} {p:Tmp} (h:fn.results=#[.tmp p]) (tmps:Array Value) (W:World) (D:Nat) (x:Value) (hp:tmps.getD p undef=x) (hK:W.heap[D]? = some (.deferred (some []))) (R:Ending->World->Prop) (hR:R (.returned x) (W.putObj D (.deferred none))) :
  bodyPostM Fence.wide 3 prog fn R .ret { tmps:=tmps,defers:=[{ target:=.collected D,args:=#[] }] } W :=
 ⟨by simp,.inl ⟨_,_,rfl,run_takeDeferred hK,_,zzu h _ _ _ hp,hR⟩⟩
set_option maxRecDepth 100000 in
theorem N0 (B:Nat) (v:Value) (out:List Int) (as_:Option Addr) (cs:Nat) (s:List Int) (w:World) (hz:IsB s) (hl:s.length<=400000) (ho:out.length<=1000000000000) (hB:B<=w.heap.size) (hown:w.ownsRow B 5 1 v out.length (out.map (Value.int .u8))) (hS:Sl w as_ cs s)
  (fa:∀ p:Addr,as_=some p->p.block<w.heap.size/\some p.block ≠ v.ownBlock) :
  Calls prog 63 #[v,.slice as_ s.length cs] w (Wk w B v (out++own s)):=by
 obtain⟨i5,hi,hz0,hz1,hz2⟩:=info_parts infoB;obtain⟨va,vc,rfl⟩:=zW hown;have HOW:Hid (w.ownsRow B 5 1 (.slice va out.length vc) out.length (out.map (Value.int .u8))):=hown;have HSS:Hid _:=hS;have HFA:Hid _:=fa;clear hown hS fa;refine(callsIn_wide (n:=3)).1 ?_;refine callsIn_of_wp_marks func63 rfl trivial ?_ rfl
 simp only[ntmps63,WqW,Wz7,Wv3,Wq3,Wv6,WxY,Wv0,Wv4,Wv1,Wzx,Wz3];gi_wp2_with (refine⟨trivial,?_⟩;gi_at_call 91;refine(zvJ _ _ _ _ _).mono ?_;rintro ev w2 ⟨rfl,rfl⟩);obtain⟨X,HX⟩:=nn_ w.heap.size
 obtain⟨WL,HWL⟩:=nm_ (((w.alloc (.cells #[.slice va out.length vc] 22)).alloc (.cells #[.slice as_ s.length cs] 22)).alloc (.cells #[.int .i64 127] 3));have hgw:w.grownBy WL none:=by rw[<-HWL.out];exact((yV w _).trans (yV _ _)).trans (yV _ _)
 have hsz:WL.heap.size=X+3:=by rw[<-HWL.out,HX.out];simp
 have bX:Boxed WL X 22 (.slice va out.length vc):=by rw[<-HWL.out,HX.out];exact((Boxed.new w 22 _).alloc _).alloc _
 have bS:Boxed WL (X+1) 22 (.slice as_ s.length cs):=by
  rw[<-HWL.out,HX.out];have:=(Boxed.new (w.alloc (.cells #[.slice va out.length vc] 22)) 22 (.slice as_ s.length cs)).alloc (.cells #[.int .i64 127] 3);rwa [World.size_alloc] at this
 have bN:Boxed WL (X+1+1) 3 (.int .i64 127):=by
  rw[<-HWL.out,HX.out];have:=Boxed.new ((w.alloc (.cells #[.slice va out.length vc] 22)).alloc (.cells #[.slice as_ s.length cs] 22)) 3 (.int .i64 127);rwa [World.size_alloc,World.size_alloc] at this
 have hrow:∀ k,(Value.slice va out.length vc).ownBlock=some k->k<X:=fun k hk=>by rw[HX.out];exact(HOW.out.lt k hk).2
 have hno:∀ k,X<=k->¬ Ob X WL k:=fun k hk ⟨u,h1,h2⟩=>by rw[bX.cell] at h1;cases h1;have:=hrow k h2;omega
 have hI0:AoI w X B (.slice va out.length vc) out [] WL:=⟨_,bX,by simpa [eo] using HOW.out.kept hgw (by cases e:(Value.slice va out.length vc).ownBlock <;> simp),Mv.grow _ hgw,by simp[eo]⟩;have hSL:Sl WL as_ cs s:=HSS.out.below ⟨hgw.os,hgw.tape,hgw.output,hgw.size,fun k hk=>hgw.block k hk (by simp)⟩;have hfa:∀ p:Addr,as_=some p->Fre X WL p.block:=fun p hp=>by
  obtain⟨f1,f2⟩:=HFA.out p hp;rw[<-HX.out] at f1;exact⟨by omega,by omega,fun ⟨u,h1,h2⟩=>by rw[bX.cell] at h1;cases h1;exact f2 h2.symm⟩
 rw[HWL.out];rw[<-HX.out];have hXw:w.heap.size<=X:=by rw[HX.out];exact WzV _
 refine Tj (F:=Fence.wide) (n:=3) rfl (by omega) (gf:=103) (lb:=#[.pointer (some ⟨X+1,0,none⟩),.pointer (some ⟨X+1+1,0,none⟩)]) rfl trivial (enters_of func103 (by kernel_rfl) rfl)
  (AV 2 (by omega) WL X (X+1) (X+1+1) as_ cs s hSL hz hl bS bN (by omega) ⟨by omega,by omega,hno _ (by omega)⟩ ⟨by omega,by omega,hno _ (by omega)⟩ hfa)
  (fun _=>rfl) Kx.trans (fun l W r r' hl _=>Kx.loop (r:=r) (by omega)) (fun l W r r' x hl hr hf=>⟨E8 hf.1 _ hr,hf.2.1,hf.2.2.1,fun p hp=>(hf.2.2.2 p hp).kx (Kx.loop (l:=l) (r:=r) (r':=r') (by omega))⟩)
  (AoI w X B (.slice va out.length vc) out) (fun s A C h hg=>AoI.grow s A C h hg) (fun s l W r r' hl hr h=>AoI.put (n:=WL.heap.size) (by omega) (by omega) s l W r r' hl hr h) hI0
  (fun x=>{ tmps:=#[.slice va out.length vc,.slice as_ s.length cs,.pointer (some ⟨X,0,none⟩),undef,.slice none 0 0,.slice x.ad x.c.length x.cap,.slice as_ s.length cs,.func (.func 103) #[] #[.pointer (some ⟨X+1,0,none⟩),.pointer (some ⟨X+1+1,0,none⟩)],.slice x.ad x.c.length x.cap,undef,undef,undef,undef,undef,undef,undef,undef,undef,undef],defers:=[] }) ?assign ?body ?done
 case assign =>
  intro l x W K hK;dsimp only [Ch.enc];gi_wp2;exact hK
 case done =>
  rintro D xs W hD hS ⟨u,b1,o1,m1,n1⟩ hK;have hE:eo (xs.map (·.c))=own s:=hS;rw[hE] at o1;obtain⟨ua,uc,rfl⟩:=zW o1;obtain⟨N,HN⟩:=nn_ ((out++own s).length);rw[<-HN.out] at o1 b1 m1;have k0:=b1.cell;have HK:Hid (W.heap[D]? = some (.deferred (some []))):=hK;have hwD:w.heap.size<=D:=by omega
  clear hS hE n1;gi_wp2;refine qqW results63 _ _ D (.slice ua N uc) rfl HK.out _ ⟨_,rfl,?_,m1.put _ hwD⟩;rw[<-HN.out];exact ownsRow_putObj o1 _ HK.out rfl
 rintro l pre ⟨ad,cap,c⟩ W hlX hlW ⟨u,b1,o1,m1,n1⟩ ⟨sl,h0,h127,hfr⟩ hlen;dsimp only at sl h0 h127 hfr;have hlX':X+3<=l:=by omega
 clear hsz;obtain⟨b,off,rfl,hb,hat⟩:=sl.at_ h0;have fr:=hfr _ rfl;obtain⟨N,HN⟩:=nn_ ((out++eo (pre.map (·.c))).length);obtain⟨L,HL⟩:=nn_ ((out++eo (pre.map (·.c))).map (Value.int .u8));rw[<-HN.out,<-HL.out] at o1;have hN:N<=2000000000000:=by rw[HN.out,Wz6];omega
 obtain⟨ua,uc,rfl⟩:=zW o1;obtain⟨M,HMM⟩:=nn_ c.length;have hM:M<=127:=by rw[HMM.out];exact h127
 have hM0:0<M:=by rw[HMM.out];exact h0
 have hXne:some X ≠ (Value.slice ua N uc).ownBlock:=b1.not_row (by decide) o1;have k0:=b1.cell;have f0:=b1.frozen;have hBW:B<=W.heap.size:=by have:=m1.size;omega
 have HO1:Hid (W.ownsRow B 5 1 (.slice ua N uc) N L):=o1;have HB1:Hid (Boxed W X 22 (.slice ua N uc)):=b1;have HM1:Hid (Mv w W (.slice va out.length vc) (.slice ua N uc)):=m1;have HAT:Hid (∀ j z,(c.map (Value.int .u8))[j]? = some z->W.cell? ((⟨b,off,none⟩:Addr).add j)=some z):=fun j z hj=>by
  rw[List.getElem?_map] at hj;cases hc:c[j]? with
  | none=>rw[hc] at hj;cases hj
  | some y =>
   rw[hc] at hj;cases hj
   have hlt:=(List.getElem?_eq_some_iff.1 hc).1;have:=hat j hlt;rw[addr_add];simpa [List.getD_eq_getElem?_getD,hc] using this
 have HBN:Hid (b ≠ X/\some b ≠ (Value.slice ua N uc).ownBlock):=⟨fr.ne,fun e=>fr.no ⟨_,b1.cell,e.symm⟩⟩;have HBL:Hid (b<W.heap.size):=hb;have hw8:(M:Int) % 256=M:=by omega
 have tok1:True:=trivial;simp only[<-HMM.out];clear o1 b1 m1 hat sl fr hfr hb;gi_wp2_with (first
  | (gi_at_builtin;have _t:=tok1;refine wpListIn_append_own_at _ rfl _ _ 22 rfl B 5 i5 (.int .u8 0) 1 1 underlying22 hi hz0 hz1 hz2 rfl (by decide) _ N L rfl (HO1.out.alloc _) ⟨W.heap.size,0,none⟩ 1 1 [.int .u8 M] rfl rfl (cell_one_new _ _ _) (ints_oneCell .u8 [(M:Int)]) (by unfold maxLen;omega) (by omega) (by simp;omega) ?_;intro v1 w1 ho1 hg1 hn1 hl1;obtain⟨a1,c1,rfl⟩:=zW ho1;have HV1:Hid (Mv W w1 (.slice ua N uc) (.slice a1 (N+1:Nat) c1)):=Mv.app (yV W _) hg1 hl1;have HW1:Hid (w1.ownsRow B 5 1 (.slice a1 (N+1:Nat) c1) (N+1) (L++[.int .u8 M])):=ho1;have B1:Boxed w1 X 22 (.slice ua N uc):=(HV1.out.blk X (by omega) hXne).trans HB1.out;have k1:=B1.cell;have f1:=B1.frozen;have HB2:Hid (Boxed w1 X 22 (.slice ua N uc)):=B1;clear ho1 hg1 hn1 hl1 tok1 B1)
  | (gi_at_builtin;refine wpListIn_append_own_at _ rfl _ _ 22 rfl B 5 i5 (.int .u8 0) 1 1 underlying22 hi hz0 hz1 hz2 rfl (by decide) _ (N+1) (L++[.int .u8 M]) rfl (HW1.out.kept (grownBy_setCell' _ _ _) (.inr (Ne.symm (HB2.out.not_row (by decide) HW1.out)))) ⟨b,off,none⟩ M cap (c.map (Value.int .u8)) rfl (by rw[HMM.out];simp) (zvK HAT.out HBN.out.1 HBN.out.2 HBL.out HV1.out) (ints_oneCell .u8 c) (by unfold maxLen;omega) (by omega) (by simp[World.setCell];have:=HV1.out.size;omega) ?_;intro v2 w2 ho2 hg2 hn2 hl2;obtain⟨a2,c2,rfl⟩:=zW ho2;have HV2:Hid (Mv (w1.setCell ⟨X,0,none⟩ (.slice a1 (N+1:Nat) c1)) w2 (.slice a1 (N+1:Nat) c1) (.slice a2 (N+1+M:Nat) c2)):=Mv.app (vJ _) hg2 hl2;have HW2:Hid (w2.ownsRow B 5 1 (.slice a2 (N+1+M:Nat) c2) (N+1+M) (L++[.int .u8 M]++c.map (Value.int .u8))):=ho2;have B2:Boxed (w1.setCell ⟨X,0,none⟩ (.slice a1 (N+1:Nat) c1)) X 22 (.slice a1 (N+1:Nat) c1):=Boxed.set _ HB2.out;have HS2:Hid (some X ≠ (Value.slice a1 (N+1:Nat) c1).ownBlock):=Boxed.not_row HB2.out (by decide) HW1.out;have B3:Boxed w2 X 22 (.slice a1 (N+1:Nat) c1):=(HV2.out.blk X B2.lt HS2.out).trans B2;have k2:=B3.cell;have f2:=B3.frozen;have HB3:Hid (Boxed w2 X 22 (.slice a1 (N+1:Nat) c1)):=B3;have HB2':Hid (Boxed (w1.setCell ⟨X,0,none⟩ (.slice a1 (N+1:Nat) c1)) X 22 (.slice a1 (N+1:Nat) c1)):=B2;clear ho2 hg2 hn2 hl2 B3 B2))
 have K1:=Zu HB1.out HO1.out HV1.out WL.heap.size;have HOS:(w1.setCell ⟨X,0,none⟩ (.slice a1 (N+1:Nat) c1)).ownsRow B 5 1 (.slice a1 (N+1:Nat) c1) (N+1) (L++[.int .u8 M]):=HW1.out.kept (grownBy_setCell' _ _ _) (.inr (Ne.symm HS2.out));have K2:=Zu HB2'.out HOS HV2.out WL.heap.size
 have X1:Kx X l W (w1.setCell ⟨X,0,none⟩ (.slice a1 (N+1:Nat) c1)):=Kx.mv HB1.out HV1.out hXne (fun k hk=>(HW1.out.lt k hk).2);have X2:Kx X l (w1.setCell ⟨X,0,none⟩ (.slice a1 (N+1:Nat) c1)) (w2.setCell ⟨X,0,none⟩ (.slice a2 (N+1+M:Nat) c2)):=Kx.mv HB2'.out HV2.out HS2.out (fun k hk=>(HW2.out.lt k hk).2)
 have hS3:some X ≠ (Value.slice a2 (N+1+M:Nat) c2).ownBlock:=Boxed.not_row HB3.out (by decide) HW2.out;refine⟨K1.trans K2,X1.trans X2,_,Boxed.set _ HB3.out,?_,((HM1.out.trans HV1.out).store hXw _ |>.trans HV2.out).store hXw _,?_⟩
 ·have e1:out++eo ((pre++[(⟨some ⟨b,off,none⟩,cap,c⟩:Ch)]).map (fun x=>x.c))=(out++eo (pre.map (·.c)))++((M:Int) :: c):=by rw[Wy4,Wvz,Sy,HMM.out];simp
  have e2:(out++eo ((pre++[(⟨some ⟨b,off,none⟩,cap,c⟩:Ch)]).map (fun x=>x.c))).length=N+1+M:=by rw[e1,Wz6,<-HN.out,HMM.out];simp;omega
  rw[e2,e1,Wy4,<-HL.out];have:=HW2.out.kept (grownBy_setCell' w2 X (.slice a2 (N+1+M:Nat) c2)) (.inr (Ne.symm hS3));rw[Wz1] at this;exact this
 rw[Wy4,Wvz,Sy,Wz6];have hm:c.length=M:=HMM.out.symm;simp only[Wz7,Wz6,Wv3];show _+(c.length+1)<=_;omega
end Go.Proofs.YtiaaekdpfpaigaaGreatDoor.Dl
namespace Go.Proofs.YtiaaekdpfpaigaaGreatDoor.Dl
open Go.Proofs.Tryz
open Go.RowKit Go.Shelf Go.Maps Plain
attribute [local go_sem] Oper.semAt_some
structure Cx where
 ao:Option Addr
 co:Nat
 o:List Int
 ac:Option Addr
 cc:Nat
 k:List Int
def Cx.enc (x:Cx):Array Value:=#[.slice x.ao x.o.length x.co,.slice x.ac x.k.length x.cc]
def Cx.Fx (X:Nat) (x:Cx) (W:World):Prop:=Sl W x.ao x.co x.o/\Sl W x.ac x.cc x.k/\(∀ p:Addr,x.ao=some p->Fre X W p.block)/\(∀ p:Addr,x.ac=some p->Fre X W p.block)/\x.o.length<=100000/\x.k.length<=7/\IsB x.o/\(x.k=[]->x.ac=none/\x.cc=0)
def Cx.pr (x:Cx):List Int × List Int:=(x.o,x.k)
def SCu (base target:List Int) (xs:List Cx):Prop := ∃ pre bg,Cu base target pre bg target.length/\xs.map Cx.pr=pre++[(target.drop bg,[])]
theorem yZ {w w':World} (h:Below w.heap.size w w'):w.grownBy w' none:=⟨h.os,h.tape,h.output,h.size,fun k hk _=>h.block k hk⟩
theorem zzZ {w:World} {B g n cap:Nat} {c:List Int} (h:w.ownsRow B 5 1 (.slice (some ⟨g,0,none⟩) c.length cap) c.length (c.map (Value.int .u8))):Sl w (some ⟨g,0,none⟩) cap c:=by
 have hc:=h.cells (g:=g) rfl;obtain⟨h1,⟨h2,_⟩ | ⟨g',cap',cur,hv,h3,h4,h5,h6,h7,h8⟩⟩:=h
 ·cases h2
 simp only[Value.slice.injEq,Option.some.injEq,Addr.mk.injEq,and_true,true_and] at hv;obtain⟨rfl,rfl⟩:=hv;refine⟨h5,fun _=>⟨g,0,rfl,(Array.getElem?_eq_some_iff.1 h4).1,fun i hi=>?_⟩,fun h=>by cases h⟩;have:=hc i (.int .u8 (c.getD i 0)) (by rw[List.getElem?_map,List.getElem?_eq_getElem hi];simp[hi]);rw[addr_add] at this;exact this
theorem Su (w:World) (n:Nat):w.grownBy (w.drewN n) none:=⟨rfl,rfl,rfl,WzV _,fun _ _ _=>rfl⟩
set_option maxRecDepth 100000 in
theorem zvV (n:Nat) (hn:1<=n) (w:World) (X Bb Bt:Nat) (ab at_:Option Addr) (cb ct:Nat) (base target:List Int) (hSb:Sl w ab cb base) (hSt:Sl w at_ ct target) (hzb:IsB base) (hzt:IsB target) (hlb:base.length<=100000) (hlt:target.length<=100000)
  (hbb:Boxed w Bb 22 (.slice ab base.length cb)) (hbt:Boxed w Bt 22 (.slice at_ target.length ct)) (hX:X<w.heap.size) (hbd:∀ k,Ob X w k->k<w.heap.size)
  (fb:Fre X w Bb) (ft:Fre X w Bt) (fab:∀ p:Addr,ab=some p->Fre X w p.block) (fat:∀ p:Addr,at_=some p->Fre X w p.block) :
  AK Fence.wide n prog 87 #[.pointer (some ⟨Bb,0,none⟩),.pointer (some ⟨Bt,0,none⟩)] Cx.enc (Cx.Fx X) (Kx X) (SCu base target) (target.length+1) w:=by
 intro l J W hW hwl hlW hJ hY h0;have hXW:X<W.heap.size:=Wqj hX hW.size;have K0:Kx X l w W:=⟨hW.os,hW.tape,hW.output,hW.size,fun k ⟨v,h1,h2⟩=>.inl ⟨v,by rw[<-h1];exact(hW.cell (p:=⟨X,0,none⟩) hX).symm,h2⟩,fun k h1 _ _ _=>hW.block k h1,fun hb k ⟨v,h1,h2⟩=>Wqj (hb k ⟨v,by rw[<-h1];exact(hW.cell (p:=⟨X,0,none⟩) hX).symm,h2⟩) hW.size⟩
 have hbW:∀ k,Ob X W k->k<W.heap.size:=K0.bd hbd;have nl:∀ {k},Fre X w k->k ≠ l:=fun h=>by have:=h.lt;omega
 have kb:=(Zw hbb K0 fb (nl fb)).cell;have hSbW:Sl W ab cb base:=hSb.kx K0 (fun p hp=>⟨fab p hp,nl (fab p hp)⟩);have NFI:=GQ ab cb base W hzb hlb hSbW;have HK0:Hid _:=K0;have HBW:Hid _:=hbW;have HJ0:Hid _:=h0;clear K0 hbW h0;refine callsIn_of_wp func87 rfl trivial ?_ rfl
 simp only[ntmps87,WqW,Wz7,Wv3,Wq3,Wv6,WxY,Wv0,Wv4,Wv1,Wzx,Wz3];gi_wp2_with (refine⟨trivial,?_⟩;gi_at_call 88;refine(callsIn_wide.2 NFI).mono ?_;clear NFI;rintro ev WF ⟨g,F,wd,rfl,hRF,hGF,hBF⟩)
 have HRF:Hid (Rep W.heap.size WF g F):=hRF;have HGF:Hid (Good base F wd):=hGF;have hgF:=yZ hBF;have HKF:Hid (Kx X l W WF):=Kx.grow hXW hgF;have HJF:Hid (J [] WF):=hJ _ _ _ HJ0.out hgF;have HBF:Hid (∀ k,Ob X WF k->k<W.heap.size):=fun k ho=>by
  rcases HKF.out.at_ k ho with h | h
  ·exact HBW.out k h
  obtain⟨v,h1,h2⟩:=ho;exact HBW.out k ⟨v,by rw[<-h1];exact(hBF.cell (p:=⟨X,0,none⟩) hXW).symm,h2⟩
 have hWF:W.heap.size<=WF.heap.size:=hBF.size;clear hRF hGF hgF hBF;obtain⟨T,HT⟩:=nn_ target.length;have hT:T<=100000:=by rw[HT.out];exact hlt
 gi_loopg [5,6] T (fun k vb va wr=>∃ (bg a:Nat) (pre:List Cx),vb=.int .i64 bg/\va=.int .i64 a/\k=T-a/\a<=T/\bg<=a/\Hid (Kx X l w wr)/\Hid (Kx X l WF wr)/\Hid (∀ k,Ob X wr k->k<wr.heap.size)/\Hid (J pre wr)/\Hid (Cu base target (pre.map Cx.pr) bg a)/\Hid (pre.length<=a))
 case atStart=>exact⟨0,0,[],rfl,rfl,rfl,by omega,by omega,HK0.out.trans HKF.out,Kx.refl _ _ _,HKF.out.bd HBW.out,HJF.out,Cu.start,by show _<=_;simp⟩
 obtain⟨bg,a,pre,rfl,rfl,hk,ha,hbga,HKw,HKf,HBD,HJ,HCU,HPL⟩:=hrel;have kt:=(Zw hbt HKw.out ft (nl ft)).cell;rw[<-HT.out] at kt;have HSt:Hid (Sl wr at_ ct target):=hSt.kx HKw.out (fun p hp=>⟨fat p hp,nl (fat p hp)⟩);have HFt:Hid (∀ p:Addr,at_=some p->Fre X wr p.block):=fun p hp=>(fat p hp).kx HKw.out;have hcap:T<=ct:=by rw[HT.out];exact hSt.capl
 have hXr:X<wr.heap.size:=Wqj hX HKw.out.size;by_cases haT:a<T;rotate_left
 ·have haI:¬ (a:Int)<T:=by omega
  obtain⟨ad,HAD⟩:=nm_ (if ct=bg then at_ else Option.map (fun x=>x.add bg) at_);have had:=HAD.out;obtain⟨E,HE⟩:=nm_ (T-bg);have hE:=HE.out;have hol:(target.drop bg).length=E:=by rw[Wz8,<-HT.out];exact HE.out
  have hS2:Sl wr ad (ct-bg) (target.drop bg):=by
   refine⟨by rw[hol];omega,fun h0=>?_,fun h=>?_⟩
   ·rw[hol] at h0;obtain⟨b2,off2,rfl,e2,e3⟩:=HSt.out.at_ (by rw[<-HT.out];omega);rw[<-HAD.out,if_neg (by omega)];exact⟨b2,off2+bg,by simp[addr_add],e2,X4 e3 bg (by rw[<-HT.out];omega)⟩
   rw[<-HAD.out] at h;have:at_=none:=by
    split at h
    ·exact h
    simpa using h
   have:=HSt.out.nil this;omega
  have hF2:∀ p:Addr,ad=some p->Fre X wr p.block:=fun p hp=>by
   rw[<-HAD.out] at hp;split at hp
   ·exact HFt.out p hp
   rw[Option.map_eq_some_iff] at hp;obtain⟨p0,h1,rfl⟩:=hp;have:=HFt.out p0 h1;have hbk:(p0.add bg).block=p0.block:=(by unfold Addr.add;split <;> rfl);rw[hbk];exact this
  obtain⟨x,Hx⟩:=nn_ (⟨ad,ct-bg,target.drop bg,none,0,[]⟩:Cx);have HXP:Hid (x.pr=(target.drop bg,[])):=by rw[Hx.out];rfl
  have hxe:x.enc=#[.slice ad E (ct-bg),.slice none 0 0]:=by rw[Hx.out];unfold Cx.enc;simp only[hol];rfl
  have hfx:x.Fx X wr:=by rw[Hx.out];exact⟨hS2,zvj wr,hF2,(fun p hp=>by cases hp),by show (target.drop bg).length<=_;rw[hol];omega,by simp,fun z hz=>hzt z (Wzq hz),fun _=>⟨rfl,rfl⟩⟩
  have HPI:Hid (pre.length<target.length+1):=by have:=HPL.out;show _<_;rw[<-HT.out];omega
  obtain⟨fn_,tmps,assign,body,hy,hR⟩:=hY pre x wr HJ.out hfx HPI.out;rw[hxe] at hy;clear hS2 hxe hfx hol Hx hF2;gi_wp2;refine hR.mono ?_;rintro e1 W3 ⟨rfl,hJ3,hk3⟩;gi_wp2;go_end0;refine⟨⟨_,rfl⟩,pre++[x],⟨pre.map Cx.pr,bg,?_,by rw[Wy4,Wvz,HXP.out]⟩,hJ3⟩;have:=HCU.out;rw[show a=target.length by rw[<-HT.out];omega] at this;exact this
 have haI:(a:Int)<T:=by omega
 obtain⟨b,off,rfl,hb,hat⟩:=HSt.out.at_ (by rw[<-HT.out];omega);have HRr:Hid (Rep W.heap.size wr g F):=HRF.out.kept (fun k hk hBk=>HKf.out.blk k hk (by omega) (by omega) (fun ho=>by have:=HBF.out k ho;omega));obtain⟨D,HD⟩:=nm_ (T-a);have hD:=HD.out;have hdl:(target.drop a).length=D:=by rw[Wz8,<-HT.out];exact HD.out
 have hSd:Sl wr (some ⟨b,off+a,none⟩) (ct-a) (target.drop a):=⟨by rw[hdl];omega,fun _=>⟨b,off+a,rfl,hb,X4 hat a (by rw[<-HT.out];exact ha)⟩,fun h=>by cases h⟩;have FI:=zyu (some ⟨b,off+a,none⟩) (ct-a) (target.drop a) wr HRr.out HGF.out hlb (fun x hx=>hzt x (Wzq hx)) (by rw[hdl];omega) hSd;rw[hdl] at FI;clear hdl hSd
 gi_wp2_with (refine⟨trivial,?_⟩;gi_at_call 89;refine(callsIn_wide.2 FI).mono ?_;clear FI;rintro ev w1 ⟨fr,len,q,rfl,rfl,hfd⟩);have HFD:Hid (Plain.Fd base (target.drop a) fr len):=hfd;have hfl:fr+len<=100000:=Nat.le_trans hfd.1 hlb;have hlD:len<=D:=by have:=hfd.2.1;rw[Wz8,<-HT.out,HD.out] at this;exact this
 clear hfd;refine⟨trivial,?_⟩;refine(callsIn_wide.2 (RK fr len (by omega) (by omega) (wr.drewN q))).mono ?_;rintro ev w2 ⟨g2,cap2,rfl,ho2,hB2⟩;have hg2:wr.grownBy w2 none:=(Su wr q).trans (yZ hB2)
 have HO2:Hid (w2.ownsRow (wr.drewN q).heap.size 5 1 (.slice (some ⟨g2,0,none⟩) (cpy fr len).length cap2) (cpy fr len).length ((cpy fr len).map (Value.int .u8))):=ho2;have HG2:Hid (wr.grownBy w2 none):=hg2;have HKg:Hid (Kx X l wr w2):=Kx.grow hXr hg2;have hg2l:=(ho2.lt g2 rfl);have HSC:Hid (Sl w2 (some ⟨g2,0,none⟩) cap2 (cpy fr len)):=zzZ (n:=0) ho2
 obtain⟨C,HC⟩:=nn_ ((cpy fr len).length);rw[<-HC.out];have hC8:C<=7:=by rw[HC.out];exact zuW fr len (by omega) (by omega)
 have kt2:=(Zw hbt (HKw.out.trans HKg.out) ft (nl ft)).cell;rw[<-HT.out] at kt2;have hgl:wr.heap.size<=g2:=hg2l.1;have hgl2:g2<w2.heap.size:=hg2l.2;clear ho2 hB2 hg2 hg2l;by_cases hc:len<=C
 ·have hcI:(len:Int)<=C:=by omega
  have HCU2:Hid (Cu base target (pre.map Cx.pr) bg (a+1)):=Cu.own fr len HCU.out (by rw[<-HT.out];exact haT) HFD.out (by rw[<-HC.out];exact hc);gi_wp2;gi_roundg (T-(a+1));case measure=>omega
  case rel=>exact⟨bg,a+1,pre,rfl,by go_num,rfl,by omega,by omega,HKw.out.trans HKg.out,HKf.out.trans HKg.out,HKg.out.bd HBD.out,hJ _ _ _ HJ.out HG2.out,HCU2.out,Nat.le_succ_of_le HPL.out⟩
 have hcI:¬ (len:Int)<=C:=by omega
 have hol:((target.take a).drop bg).length=a-bg:=by rw[Wz8,List.length_take,<-HT.out];omega
 have hS2:Sl w2 (some ⟨b,off+bg,none⟩) (ct-bg) ((target.take a).drop bg):=by
  have hS:=HSt.out.kx HKg.out (fun p hp=>⟨HFt.out p hp,by have:=(HFt.out p hp).lt;have:=nl (fat p hp);omega⟩);obtain⟨b2,off2,e1,e2,e3⟩:=hS.at_ (by rw[<-HT.out];omega);cases e1
  refine⟨by rw[hol];omega,fun _=>⟨b,off+bg,rfl,e2,?_⟩,fun h=>by cases h⟩;rw[List.drop_take];exact Hu e3 bg (a-bg) (by rw[<-HT.out];omega)
 obtain⟨x,Hx⟩:=nn_ (⟨some ⟨b,off+bg,none⟩,ct-bg,(target.take a).drop bg,some ⟨g2,0,none⟩,cap2,cpy fr len⟩:Cx);have HXP:Hid (x.pr=((target.take a).drop bg,cpy fr len)):=by rw[Hx.out];rfl
 have hxe:x.enc=#[.slice (some ⟨b,off+bg,none⟩) (a-bg:Nat) (ct-bg),.slice (some ⟨g2,0,none⟩) C cap2]:=by rw[Hx.out];unfold Cx.enc;simp only[hol,HC.out]
 have hfx:x.Fx X w2:=by
  rw[Hx.out];exact⟨hS2,HSC.out,fun p hp=>by cases hp;exact(HFt.out ⟨b,off,none⟩ rfl).kx HKg.out,fun p hp=>by
   cases hp
   exact⟨hgl2,by show g2 ≠ X;omega,fun ho=>by
    rcases HKg.out.at_ _ ho with h | h
    ·have h2:=HBD.out g2 h;omega
    obtain⟨v,h1,h2⟩:=ho;have h3:=HBD.out g2 ⟨v,by rw[<-h1];exact(World.cell?_of_block (a:=⟨X,0,none⟩) (HG2.out.block X hXr (by simp))).symm,h2⟩
    omega⟩,by show ((target.take a).drop bg).length<=_;rw[hol];omega,by show (cpy fr len).length<=7;rw[<-HC.out];exact hC8,fun z hz=>hzt z (List.mem_of_mem_take (Wzq hz)),fun h=>by have:=EX fr len;have h':cpy fr len=[]:=h;rw[h'] at this;simp at this⟩
 have HPI:Hid (pre.length<target.length+1):=by have:=HPL.out;show _<_;rw[<-HT.out];omega
 obtain⟨fn_,tmps,assign,body,hy,hR⟩:=hY pre x w2 (hJ _ _ _ HJ.out HG2.out) hfx HPI.out;rw[hxe] at hy;have hlp:0<len:=by omega
 have HCU2:Hid (Cu base target ((pre++[x]).map Cx.pr) (a+len) (a+len)):=by
  show Cu _ _ _ _ _;rw[Wy4,Wvz,HXP.out];exact Cu.copy fr len HCU.out (by rw[<-HT.out];exact haT) HFD.out (by rw[<-HC.out];omega)
 obtain⟨E,HE⟩:=nm_ (a-bg);have hE:=HE.out;rw[hE] at hy;have hbc:¬ ct=bg:=by omega
 clear hS2 hxe hfx hol Hx hat
 gi_wp2;refine hR.mono ?_;rintro e1 W3 ⟨rfl,hJ3,hk3⟩;have HK3:Hid (Kx X l w2 W3):=hk3;have HJ3:Hid (J (pre++[x]) W3):=hJ3;clear hJ3 hk3;gi_wp2;gi_roundg (T-(a+len));case measure=>omega
 case rel=>exact⟨a+len,a+len,pre++[x],by go_num,by go_num,rfl,by omega,by omega,(HKw.out.trans HKg.out).trans HK3.out,(HKf.out.trans HKg.out).trans HK3.out,HK3.out.bd (HKg.out.bd HBD.out),HJ3.out,HCU2.out,by have:=HPL.out;show _<=_;simp;omega⟩
end Go.Proofs.YtiaaekdpfpaigaaGreatDoor.Dl
namespace Go.Proofs.YtiaaekdpfpaigaaGreatDoor.Dl
open Go.Proofs.Tryz
open Go.RowKit Go.Shelf Go.Maps Plain
attribute [local go_sem] Oper.semAt_some
theorem qxz (n:Nat) (a1 a2:Option Addr) (n1 c1 n2 c2:Nat) (w:World) :
  CallsIn Fence.wide n prog 62 #[.slice a1 n1 c1,.slice a2 n2 c2] w fun e w'=>e=.returned (.func (.func 87) #[] #[.pointer (some ⟨w.heap.size,0,none⟩),.pointer (some ⟨w.heap.size+1,0,none⟩)])/\w'=(w.alloc (.cells #[.slice a1 n1 c1] 22)).alloc (.cells #[.slice a2 n2 c2] 22):=by
 refine callsIn_of_wp func62 rfl trivial ?_ rfl;simp only[ntmps62,WqW,Wz7,Wv3,Wq3,Wv6,WxY,Wv0,Wv4,Wv1,Wzx,Wz3];gi_wp2;go_ret;exact⟨rfl,rfl⟩
section
variable {F : Fence} {nF : Nat} {P : Program} {w : World}
theorem Xx {ops:Array Oper} {rest:List Oper} {o:Oper} {a:Act} {Q:Exit->Act->World->Prop} (hgd:o.guard=none) (s x:Operand) (t:TypeId)
  (ho:o.op=.call { callee:=.builtin .append,args:=#[s,x],argTypes:=#[t,t] })
  (base:Nat) (e:TypeId) (i:TypeInfo) (size:Nat) (ht:P.underlying t=some (.slice e)) (hi:P.info? e=some i)
  (v:Value) (n:Nat) (xs:List Value) (hs:a.eval s=v) (hown:w.ownsRow base e size v n xs) (hx:a.eval x=.slice none 0 0)
  (h:wpListIn F nF P ops Q rest (a.put o.dst v) w) :
  wpListIn F nF P ops Q (o :: rest) a w:=by
 refine wpListIn_plain hgd fun K hK=>?_;have hr:=run_append_owned_none (P:=P) w base t o.type e i size ht hi v n xs hown;unfold Oper.wpIn;refine⟨by simp[Oper.about,ho,resolve,Target.leads,Sem.run_pure],?_⟩;rw[Oper.semAt_plain F _ _ (by rw[ho];intro c hc';cases hc')];simp[execOp,ho,resolve,invoke,builtin,hs,hx,hr,Result.andThen];exact hK _ _ h
end
def MkI (w:World) (X B:Nat) (hd:List Int) (pre:List Cx) (W:World):Prop :=
 ∃ u,Boxed W X 22 u/\W.ownsRow B 5 1 u (hd++xz (pre.map Cx.pr)).length ((hd++xz (pre.map Cx.pr)).map (Value.int .u8))/\Below B w W/\(xz (pre.map Cx.pr)).length<=101000*pre.length
theorem MkI.grow {w:World} {X B:Nat} {hd:List Int} (hB:B=w.heap.size) (s:List Cx) (A C:World) (h:MkI w X B hd s A) (hg:A.grownBy C none):MkI w X B hd s C:=by
 obtain⟨u,h1,h2,h3,h4⟩:=h;exact⟨u,h1.kept hg (by simp),h2.kept hg (by cases e:u.ownBlock <;> simp),h3.grown hg (by rw[hB];have:=h3.size;omega) (fun k e=>by cases e),h4⟩
theorem MkI.put {w:World} {X B:Nat} {hd:List Int} {n:Nat} (hX:X<n) (hw:B<=n) (s:List Cx) (l:Nat) (W:World) (r r':Loop) (hl:n<=l) (hr:W.heap[l]? = some (.loop r)) (h:MkI w X B hd s W):MkI w X B hd s (W.putObj l (.loop r')):=by
 obtain⟨u,h1,h2,h3,h4⟩:=h;exact⟨u,(World.putObj_heap_other (by omega)).trans h1,ownsRow_putObj h2 _ hr rfl,⟨h3.os,h3.tape,h3.output,by rw[World.putObj_size];exact h3.size,fun k hk=>(World.putObj_heap_other (by omega)).trans (h3.block k hk)⟩,h4⟩
theorem results39:f39.results=#[.tmp 4]:=by kernel_rfl
def PostM (w:World) (base target:List Int) (e:Ending) (w':World):Prop := ∃ pre bg v,e=.returned v/\Cu base target pre bg target.length/\w'.ownsRow w.heap.size 5 1 v (mk base target pre bg).length ((mk base target pre bg).map (Value.int .u8))/\Below w.heap.size w w'
set_option maxRecDepth 100000 in
theorem make_any (ab at_:Option Addr) (cb ct:Nat) (base target:List Int) (w:World) (hzb:IsB base) (hzt:IsB target) (hlb:base.length<=100000) (hlt:target.length<=100000) (hSb:Sl w ab cb base) (hSt:Sl w at_ ct target)
  (fab:∀ p:Addr,ab=some p->p.block<w.heap.size) (fat:∀ p:Addr,at_=some p->p.block<w.heap.size) :
  Calls prog 39 #[.slice ab base.length cb,.slice at_ target.length ct] w (PostM w base target):=by
 obtain⟨i5,hi,hz0,hz1,hz2⟩:=info_parts infoB;obtain⟨L0,HL0⟩:=nn_ base.length;obtain⟨T0,HT0⟩:=nn_ target.length;have hL0:L0<=100000:=by rw[HL0.out];exact hlb
 have hT0:T0<=100000:=by rw[HT0.out];exact hlt
 have hL0I:¬ (100000:Int)<L0:=by omega
 have hT0I:¬ (100000:Int)<T0:=by omega
 have A1:=Yk w.heap.size (.slice none 0 0) [] L0 w (by omega) (by simp) (WzV _) (World.ownsRow_nil _ _ _ _);rw[Wzx] at A1;rw[<-HL0.out,<-HT0.out];obtain⟨B,HB⟩:=nn_ w.heap.size;rw[<-HB.out] at A1;have hsl0:(szw L0).length<=3:=YW (by omega);have hsl1:(szw T0).length<=3:=YW (by omega);refine(callsIn_wide (n:=3)).1 ?_
 refine callsIn_of_wp_marks func39 rfl trivial ?_ rfl;simp only[ntmps39,WqW,Wz7,Wv3,Wq3,Wv6,WxY,Wv0,Wv4,Wv1,Wzx,Wz3]
 gi_wp2_with (refine⟨trivial,?_⟩;gi_at_call 61;refine(callsIn_wide.2 A1).mono ?_;clear A1;rintro ev w1 ⟨v1,rfl,ho1,hm1⟩;obtain⟨a1,c1,rfl⟩:=zW ho1;have HO1:Hid (w1.ownsRow B 5 1 (.slice a1 (szw L0).length c1) (szw L0).length ((szw L0).map (Value.int .u8))):=ho1;have HM1:Hid (Mv w w1 (.slice none 0 0) (.slice a1 (szw L0).length c1)):=hm1;clear ho1 hm1);refine⟨trivial,?_⟩
 have hBw1:B<=w1.heap.size:=by rw[HB.out];exact HM1.out.size
 refine(callsIn_wide.2 (Yk B (.slice a1 (szw L0).length c1) (szw L0) T0 (w1.alloc (.cells #[.slice a1 (szw L0).length c1] 22)) (by omega) (by omega) (by simp;omega) (HO1.out.alloc _))).mono ?_;rintro ev w2 ⟨v2,rfl,ho2,hm2⟩;obtain⟨hd,HHD⟩:=nn_ (szw L0++szw T0);rw[<-HHD.out] at ho2;have hhd:hd.length<=6:=by rw[HHD.out,Wz6];omega
 obtain⟨a2,c2,rfl⟩:=zW ho2;obtain⟨X,HX⟩:=nn_ w1.heap.size;have b0:Boxed (w1.alloc (.cells #[.slice a1 (szw L0).length c1] 22)) X 22 (.slice a1 (szw L0).length c1):=by rw[HX.out];exact Boxed.new w1 22 _
 have hXr:some X ≠ (Value.slice a1 (szw L0).length c1).ownBlock:=fun e=>by have:=(HO1.out.lt X e.symm).2;rw[HX.out] at this;omega
 have b1:Boxed w2 X 22 (.slice a1 (szw L0).length c1):=(hm2.blk X b0.lt hXr).trans b0;have k1:=b1.cell;have f1:=b1.frozen;have hXr2:some X ≠ (Value.slice a2 hd.length c2).ownBlock:=b1.not_row (by decide) ho2;have HB3:Hid (Boxed (w2.setCell ⟨X,0,none⟩ (.slice a2 hd.length c2)) X 22 (.slice a2 hd.length c2)):=b1.set _
 have HO3:Hid ((w2.setCell ⟨X,0,none⟩ (.slice a2 hd.length c2)).ownsRow B 5 1 (.slice a2 hd.length c2) hd.length (hd.map (Value.int .u8))):=ho2.kept (grownBy_setCell' _ _ _) (.inr (Ne.symm hXr2));have HBE3:Hid (Below B w (w2.setCell ⟨X,0,none⟩ (.slice a2 hd.length c2))):=by
  have e1:Below B w w1:=HM1.out.below (fun k hk=>by cases hk) (by rw[HB.out];exact WzV _);have e2:Below B w (w1.alloc (.cells #[.slice a1 (szw L0).length c1] 22)):=e1.alloc hBw1 _;have e3:Below B (w1.alloc (.cells #[.slice a1 (szw L0).length c1] 22)) w2:=hm2.below (fun k hk=>(HO1.out.lt k hk).1) (by simp;omega)
  exact(e2.trans e3).setCell (by show B<=X;rw[HX.out];exact hBw1) _
 have hXw:X<w2.heap.size:=b1.lt;have hBX:B<=X:=by rw[HX.out];exact hBw1
 rw[<-HX.out];clear ho2 hm2 b0 b1 HO1 HM1;gi_wp2_with (refine⟨trivial,?_⟩;gi_at_call 62;refine(qxz _ _ _ _ _ _ _ _).mono ?_;rintro ev w4 ⟨rfl,rfl⟩);clear k1 f1;obtain⟨w3,HW3⟩:=nm_ (w2.setCell ⟨X,0,none⟩ (.slice a2 hd.length c2));have hs3:w2.heap.size=w3.heap.size:=by rw[<-HW3.out];simp[World.setCell]
 rw[HW3.out] at HB3 HO3 HBE3 ⊢;rw[hs3] at hXw ⊢;clear hs3;obtain⟨Y,HY⟩:=nn_ w3.heap.size;obtain⟨WL,HWL⟩:=nm_ ((w3.alloc (.cells #[.slice ab L0 cb] 22)).alloc (.cells #[.slice at_ T0 ct] 22));have hgw:w3.grownBy WL none:=by rw[<-HWL.out];exact(yV w3 _).trans (yV _ _)
 have hsz:WL.heap.size=Y+2:=by rw[<-HWL.out,HY.out];simp
 have bX:Boxed WL X 22 (.slice a2 hd.length c2):=Boxed.kept HB3.out hgw (by simp);have bB:Boxed WL Y 22 (.slice ab L0 cb):=by rw[<-HWL.out,HY.out];exact(Boxed.new w3 22 _).alloc _
 have bT:Boxed WL (Y+1) 22 (.slice at_ T0 ct):=by
  rw[<-HWL.out,HY.out];have:=Boxed.new (w3.alloc (.cells #[.slice ab L0 cb] 22)) 22 (.slice at_ T0 ct);rwa [World.size_alloc] at this
 have oX:WL.ownsRow B 5 1 (.slice a2 hd.length c2) hd.length (hd.map (Value.int .u8)):=HO3.out.kept hgw (by cases e:(Value.slice a2 hd.length c2).ownBlock <;> simp);have hXY:X<Y:=by rw[HY.out];exact hXw
 have hrow:∀ k,(Value.slice a2 hd.length c2).ownBlock=some k->B<=k/\k<Y:=fun k hk=>by rw[HY.out];exact HO3.out.lt k hk
 have hob:∀ k,Ob X WL k->B<=k/\k<Y:=fun k ⟨u,h1,h2⟩=>by rw[bX.cell] at h1;cases h1;exact hrow k h2
 have hBE:Below B w WL:=HBE3.out.grown hgw (by have:=HBE3.out.size;rw[HB.out];exact this) (fun k e=>by cases e);have hI0:MkI w X B hd [] WL:=⟨_,bX,by simpa [xz] using oX,hBE,by simp[xz]⟩;have hBl:Below w.heap.size w WL:=by rw[<-HB.out];exact hBE
 have hBLt:w.heap.size=B:=HB.out.symm;have frW:∀ k,k<w.heap.size->Fre X WL k:=fun k hk=>⟨by omega,by omega,fun ho=>by have:=(hob k ho).1;omega⟩;have frN:∀ k,Y<=k->k<Y+2->Fre X WL k:=fun k h1 h2=>⟨by omega,by omega,fun ho=>by have:=(hob k ho).2;omega⟩;have hzb':=hzb;rw[<-HY.out,HWL.out]
 have CA:=zvV 2 (by omega) WL X Y (Y+1) ab at_ cb ct base target (hSb.below hBl) (hSt.below hBl) hzb hzt hlb hlt (by rw[<-HL0.out];exact bB) (by rw[<-HT0.out];exact bT) (by omega) (fun k ho=>by have:=(hob k ho).2;omega)
  (frN Y (by omega) (by omega)) (frN (Y+1) (by omega) (by omega)) (fun p hp=>frW _ (fab p hp)) (fun p hp=>frW _ (fat p hp))
 refine Tj (F:=Fence.wide) (n:=3) rfl (by omega) (gf:=87) (lb:=#[.pointer (some ⟨Y,0,none⟩),.pointer (some ⟨Y+1,0,none⟩)]) rfl trivial (enters_of func87 (by kernel_rfl) rfl) CA
  (fun _=>rfl) Kx.trans (fun l W r r' hl _=>Kx.loop (r:=r) (by omega)) (fun l W r r' x hl hr hf=>⟨E8 hf.1 _ hr,E8 hf.2.1 _ hr,fun p hp=>(hf.2.2.1 p hp).kx (Kx.loop (l:=l) (r:=r) (r':=r') (by omega)),fun p hp=>(hf.2.2.2.1 p hp).kx (Kx.loop (l:=l) (r:=r) (r':=r') (by omega)),hf.2.2.2.2⟩)
  (MkI w X B hd) (fun s A C h hg=>MkI.grow HB.out s A C h hg) (fun s l W r r' hl hr h=>MkI.put (n:=WL.heap.size) (by omega) (by omega) s l W r r' hl hr h) hI0
  (fun x=>{ tmps:=#[.slice ab L0 cb,.slice at_ T0 ct,undef,undef,.slice none 0 0,.pointer (some ⟨X,0,none⟩),.slice x.ao x.o.length x.co,.slice x.ac x.k.length x.cc,.slice ab L0 cb,.int .i64 L0,.bool false,.bool false,.slice at_ T0 ct,.int .i64 T0,.bool false,.bool false,.slice ab L0 cb,.int .i64 L0,.slice a1 (szw L0).length c1,.slice a1 (szw L0).length c1,.slice at_ T0 ct,.int .i64 T0,.slice a2 hd.length c2,.slice ab L0 cb,.slice at_ T0 ct,.func (.func 87) #[] #[.pointer (some ⟨Y,0,none⟩),.pointer (some ⟨Y+1,0,none⟩)],.slice x.ao x.o.length x.co,.slice x.ac x.k.length x.cc,undef,undef,undef,undef,undef,undef,undef],defers:=[] }) ?assign ?body ?done
 case assign =>
  intro l x W K hK;dsimp only [Cx.enc];gi_wp2;exact hK
 case done =>
  rintro D xs W hD ⟨pre,bg,hCu,hxs⟩ ⟨u,b1,o1,m1,n1⟩ hK;have hE:hd++xz (xs.map Cx.pr)=mk base target pre bg:=by
   rw[hxs,uZ,HHD.out,HL0.out,HT0.out];unfold mk;simp only[Wz1,List.append_nil]
  rw[hE] at o1;obtain⟨ua,uc,rfl⟩:=zW o1;obtain⟨N,HN⟩:=nn_ ((mk base target pre bg).length);rw[<-HN.out] at o1 b1;have k0:=b1.cell;have HK:Hid (W.heap[D]? = some (.deferred (some []))):=hK;have hwD:B<=D:=by omega
  have HCU:Hid _:=hCu;clear n1 hE hxs;gi_wp2;refine qqW results39 _ _ D (.slice ua N uc) rfl HK.out _ ⟨pre,bg,_,rfl,HCU.out,?_,?_⟩
  ·rw[<-HN.out,<-HB.out];exact ownsRow_putObj o1 _ HK.out rfl
  rw[<-HB.out];exact⟨m1.os,m1.tape,m1.output,by rw[World.putObj_size];exact m1.size,fun k hk=>(World.putObj_heap_other (by omega)).trans (m1.block k hk)⟩
 rintro l pre ⟨ao,co,o,ac,cc,k⟩ W hlX hlW ⟨u,b1,o1,m1,n1⟩ ⟨slo,slk,fro,frk,hol,hkl,hzo,hkn⟩ hlen;dsimp only at slo slk fro frk hol hkl hzo hkn;have hlX':Y+2<=l:=by omega
 obtain⟨S,HS⟩:=nn_ (hd++xz (pre.map Cx.pr));rw[<-HS.out] at o1;have hSl:S.length<=20000000000:=by
  rw[HS.out,Wz6];have hp:pre.length<=100000:=by omega
  have:101000*pre.length<=101000*100000:=Nat.mul_le_mul_left _ hp;omega
 have hXne:some X ≠ u.ownBlock:=b1.not_row (by decide) o1;have AO:Calls prog 63 #[u,.slice ao o.length co] W (Wk W B u (S++own o)) :=
  N0 B u S ao co o W hzo (by omega) (by omega) (by have:=m1.size;omega) o1 slo (fun p hp=>⟨(fro p hp).lt,fun e=>(fro p hp).no ⟨_,b1.cell,e.symm⟩⟩)
 have hownl:(own o).length<=100800:=by rw[V2 _ _ rfl];omega
 have HE1:Hid (xz ((pre++[(⟨ao,co,o,ac,cc,k⟩:Cx)]).map Cx.pr)=xz (pre.map Cx.pr)++(own o++k)):=by show _=_;rw[Wy4,Wvz,uZ];rfl
 have HNL:Hid ((xz ((pre++[(⟨ao,co,o,ac,cc,k⟩:Cx)]).map Cx.pr)).length<=101000*(pre++[(⟨ao,co,o,ac,cc,k⟩:Cx)]).length):=by
  show _<=_;rw[HE1.out,Wz6,Wz6,Wz6];simp only[Wz7,Wv3];omega
 obtain⟨ua,uc,rfl⟩:=zW o1;have k0:=b1.cell;have f0:=b1.frozen;have HO1:Hid (W.ownsRow B 5 1 (.slice ua S.length uc) S.length (S.map (Value.int .u8))):=o1;have HB1:Hid (Boxed W X 22 (.slice ua S.length uc)):=b1;have HBe:Hid (Below B w W):=m1;have hXW:X<W.heap.size:=b1.lt;clear hsz o1 b1 m1 n1;obtain⟨N,HN⟩:=nn_ S.length;rw[<-HN.out] at k0 HO1 HB1 AO hXne
 obtain⟨OL,HOL⟩:=nn_ o.length;rw[<-HOL.out] at AO;obtain⟨N5,HN5⟩:=nn_ ((S++own o).length);have hN5:N5<=30000000000:=by rw[HN5.out,Wz6];omega
 obtain⟨L5,HL5⟩:=nn_ ((S++own o).map (Value.int .u8));have hBW:B<=W.heap.size:=by rw[HB.out];exact HBe.out.size
 have hNS:hd++xz ((pre++[(⟨ao,co,o,ac,cc,k⟩:Cx)]).map Cx.pr)=(S++own o)++k:=by rw[HE1.out,HS.out];simp
 have HFIN:Hid (∀ (w':World) (u1:Value),KeepsFrom WL.heap.size W w'->Kx X l W w'->Boxed w' X 22 u1->w'.ownsRow B 5 1 u1 (N5+k.length) (L5++k.map (Value.int .u8))->Below B w w'->KeepsFrom WL.heap.size W w'/\Kx X l W w'/\MkI w X B hd (pre++[(⟨ao,co,o,ac,cc,k⟩:Cx)]) w'):=fun w' u1 q1 q2 q3 q4 q5 =>
  ⟨q1,q2,u1,q3,by rw[hNS,Wy4,Wz6,<-HN5.out,<-HL5.out];exact q4,q5,HNL.out⟩
 clear hNS HNL HE1;obtain⟨M,HMM⟩:=nn_ k.length;have hM:M<=7:=by rw[HMM.out];exact hkl
 by_cases hk0:k=[]
 ·obtain⟨rfl,rfl⟩:=hkn hk0;subst hk0;have hM0:M=0:=by rw[HMM.out];rfl
  subst hM0;simp only[<-HOL.out,<-HMM.out];gi_wp2_with (first
   | (refine⟨trivial,?_⟩;gi_at_call 63;refine(CallsIn.inRound l (callsIn_wide.2 AO)).mono ?_;clear AO;rintro ev w5 ⟨v5,rfl,ho5,hm5⟩;rw[<-HN5.out,<-HL5.out] at ho5;obtain⟨a5,c5,rfl⟩:=zW ho5;have HM5:Hid (Mv W w5 (.slice ua N uc) (.slice a5 N5 c5)):=hm5;have HO5:Hid (w5.ownsRow B 5 1 (.slice a5 N5 c5) N5 L5):=ho5;have b5:Boxed w5 X 22 (.slice ua N uc):=(hm5.blk X hXW hXne).trans HB1.out;have k5:=b5.cell;have f5:=b5.frozen;have HB5:Hid (Boxed w5 X 22 (.slice ua N uc)):=b5;clear ho5 hm5 b5)
   | (gi_at_builtin;refine Xx rfl _ _ 22 rfl B 5 i5 1 underlying22 hi _ N5 L5 rfl (HO5.out.kept (grownBy_setCell' _ _ _) (.inr (Ne.symm (HB5.out.not_row (by decide) HO5.out)))) rfl ?_))
  have K1:=Zu HB1.out HO1.out HM5.out WL.heap.size;have hS5:some X ≠ (Value.slice a5 N5 c5).ownBlock:=Boxed.not_row HB5.out (by decide) HO5.out;have X1:Kx X l W (w5.setCell ⟨X,0,none⟩ (.slice a5 N5 c5)):=Kx.mv HB1.out HM5.out hXne (fun k hk=>(HO5.out.lt k hk).2);have B2:Boxed (w5.setCell ⟨X,0,none⟩ (.slice a5 N5 c5)) X 22 (.slice a5 N5 c5):=Boxed.set _ HB5.out
  have HOS:(w5.setCell ⟨X,0,none⟩ (.slice a5 N5 c5)).ownsRow B 5 1 (.slice a5 N5 c5) N5 L5:=HO5.out.kept (grownBy_setCell' _ _ _) (.inr (Ne.symm hS5));have K2:=Zu B2 HOS (Mv.refl _ _) WL.heap.size
  have X2:Kx X l (w5.setCell ⟨X,0,none⟩ (.slice a5 N5 c5)) ((w5.setCell ⟨X,0,none⟩ (.slice a5 N5 c5)).setCell ⟨X,0,none⟩ (.slice a5 N5 c5)):=Kx.mv B2 (Mv.refl _ _) hS5 (fun k hk=>(HOS.lt k hk).2);have E1:Below B W (w5.setCell ⟨X,0,none⟩ (.slice a5 N5 c5)):=(HM5.out.below (fun k hk=>(HO1.out.lt k hk).1) hBW).setCell hBX _;have E2:=E1.setCell (p:=⟨X,0,none⟩) hBX (.slice a5 N5 c5)
  refine HFIN.out _ _ (K1.trans K2) (X1.trans X2) (Boxed.set _ B2) ?_ (HBe.out.trans E2);have h0:=HOS.kept (grownBy_setCell' (w5.setCell ⟨X,0,none⟩ (.slice a5 N5 c5)) X (.slice a5 N5 c5)) (.inr (Ne.symm hS5));simpa using h0
 have hk1:0<k.length:=List.length_pos_iff.2 hk0;have hM0:0<M:=by rw[HMM.out];exact hk1
 obtain⟨b,off,rfl,hb,hat⟩:=slk.at_ hk1;have fr:=frk _ rfl;have HAT:Hid (∀ j z,(k.map (Value.int .u8))[j]? = some z->W.cell? ((⟨b,off,none⟩:Addr).add j)=some z):=fun j z hj=>by
  rw[List.getElem?_map] at hj;cases hc:k[j]? with
  | none=>rw[hc] at hj;cases hj
  | some y =>
   rw[hc] at hj;cases hj
   have hlt:=(List.getElem?_eq_some_iff.1 hc).1;have:=hat j hlt;rw[addr_add];simpa [List.getD_eq_getElem?_getD,hc] using this
 have HBN:Hid (b ≠ X/\some b ≠ (Value.slice ua N uc).ownBlock):=⟨fr.ne,fun e=>fr.no ⟨_,HB1.out.cell,e.symm⟩⟩;have HBL:Hid (b<W.heap.size):=hb;clear hat slk fr frk hb;simp only[<-HOL.out,<-HMM.out];gi_wp2_with (first
  | (refine⟨trivial,?_⟩;gi_at_call 63;refine(CallsIn.inRound l (callsIn_wide.2 AO)).mono ?_;clear AO;rintro ev w5 ⟨v5,rfl,ho5,hm5⟩;rw[<-HN5.out,<-HL5.out] at ho5;obtain⟨a5,c5,rfl⟩:=zW ho5;have HM5:Hid (Mv W w5 (.slice ua N uc) (.slice a5 N5 c5)):=hm5;have HO5:Hid (w5.ownsRow B 5 1 (.slice a5 N5 c5) N5 L5):=ho5;have b5:Boxed w5 X 22 (.slice ua N uc):=(hm5.blk X hXW hXne).trans HB1.out;have k5:=b5.cell;have f5:=b5.frozen;have HB5:Hid (Boxed w5 X 22 (.slice ua N uc)):=b5;clear ho5 hm5 b5)
  | (gi_at_builtin;refine wpListIn_append_own_at _ rfl _ _ 22 rfl B 5 i5 (.int .u8 0) 1 1 underlying22 hi hz0 hz1 hz2 rfl (by decide) _ N5 L5 rfl (HO5.out.kept (grownBy_setCell' _ _ _) (.inr (Ne.symm (HB5.out.not_row (by decide) HO5.out)))) ⟨b,off,none⟩ M cc (k.map (Value.int .u8)) rfl (by rw[HMM.out];simp) (zvK HAT.out HBN.out.1 HBN.out.2 HBL.out HM5.out) (ints_oneCell .u8 k) (by unfold maxLen;omega) (by omega) (by simp[World.setCell];have:=HM5.out.size;omega) ?_;intro v2 w2 ho2 hg2 hn2 hl2;obtain⟨a6,c6,rfl⟩:=zW ho2;have HV2:Hid (Mv (w5.setCell ⟨X,0,none⟩ (.slice a5 N5 c5)) w2 (.slice a5 N5 c5) (.slice a6 (N5+M:Nat) c6)):=Mv.app (vJ _) hg2 hl2;have HW2:Hid (w2.ownsRow B 5 1 (.slice a6 (N5+M:Nat) c6) (N5+M) (L5++k.map (Value.int .u8))):=ho2;have B2:Boxed (w5.setCell ⟨X,0,none⟩ (.slice a5 N5 c5)) X 22 (.slice a5 N5 c5):=Boxed.set _ HB5.out;have HS2:Hid (some X ≠ (Value.slice a5 N5 c5).ownBlock):=Boxed.not_row HB5.out (by decide) HO5.out;have B3:Boxed w2 X 22 (.slice a5 N5 c5):=(HV2.out.blk X B2.lt HS2.out).trans B2;have k2:=B3.cell;have f2:=B3.frozen;have HB3:Hid (Boxed w2 X 22 (.slice a5 N5 c5)):=B3;have HB2':Hid (Boxed (w5.setCell ⟨X,0,none⟩ (.slice a5 N5 c5)) X 22 (.slice a5 N5 c5)):=B2;clear ho2 hg2 hn2 hl2 B3 B2))
 have K1:=Zu HB1.out HO1.out HM5.out WL.heap.size;have HOS:(w5.setCell ⟨X,0,none⟩ (.slice a5 N5 c5)).ownsRow B 5 1 (.slice a5 N5 c5) N5 L5:=HO5.out.kept (grownBy_setCell' _ _ _) (.inr (Ne.symm HS2.out));have K2:=Zu HB2'.out HOS HV2.out WL.heap.size;have X1:Kx X l W (w5.setCell ⟨X,0,none⟩ (.slice a5 N5 c5)):=Kx.mv HB1.out HM5.out hXne (fun k hk=>(HO5.out.lt k hk).2)
 have X2:Kx X l (w5.setCell ⟨X,0,none⟩ (.slice a5 N5 c5)) (w2.setCell ⟨X,0,none⟩ (.slice a6 (N5+M:Nat) c6)):=Kx.mv HB2'.out HV2.out HS2.out (fun k hk=>(HW2.out.lt k hk).2);have hS3:some X ≠ (Value.slice a6 (N5+M:Nat) c6).ownBlock:=Boxed.not_row HB3.out (by decide) HW2.out
 have E1:Below B W (w5.setCell ⟨X,0,none⟩ (.slice a5 N5 c5)):=(HM5.out.below (fun k hk=>(HO1.out.lt k hk).1) hBW).setCell hBX _;have E2:Below B (w5.setCell ⟨X,0,none⟩ (.slice a5 N5 c5)) (w2.setCell ⟨X,0,none⟩ (.slice a6 (N5+M:Nat) c6)):=(HV2.out.below (fun k hk=>(HO5.out.lt k hk).1) (by have:=E1.size;omega)).setCell hBX _
 refine HFIN.out _ _ (K1.trans K2) (X1.trans X2) (Boxed.set _ HB3.out) ?_ ((HBe.out.trans E1).trans E2);rw[<-HMM.out];exact HW2.out.kept (grownBy_setCell' w2 X (.slice a6 (N5+M:Nat) c6)) (.inr (Ne.symm hS3))
end Go.Proofs.YtiaaekdpfpaigaaGreatDoor.Dl
