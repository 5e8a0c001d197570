import Derived.RangeFuncBox
import Derived.Test.YtiaaekdpfpaigaaGreatDoorMn13
set_option linter.unusedSimpArgs false
set_option linter.unusedVariables false
set_option maxRecDepth 20000
set_option maxHeartbeats 4000000
open Int renaming toNat_natCast->Wz0
open List renaming length_append->Wz6,map_append->Wy4
open Nat renaming add_assoc->WzQ,le_refl->WzV,le_trans->Wqx,pow_add->Wq1,zero_add->Wq7,zero_mul->Wx3
open Option renaming some->Wq9
namespace Go.Proofs.YtiaaekdpfpaigaaGreatDoor.Dl
open Go.Proofs.Tryz
open Go.RowKit Go.Maps Sam Plain
theorem OY (z:Int) (w:World):(Instr.makeMap 194 (some (.int .i64 z))).run prog w=.ok (.map (some w.heap.size)) (w.alloc (.map #[] 0)):=by
 unfold Instr.makeMap;simp[underlying,underlying194,asInt,go_sem]
theorem D5 (z:Array Value) (n i:Nat) (hi:i<n) (h0:0<z.size):(madeCells z n)[i]? = some (z[i % z.size]!):=by
 simp[madeCells,hi]
theorem four (w:World) (o0 o1 o2 o3:Obj):((((w.alloc o0).alloc o1).alloc o2).alloc o3).heap[w.heap.size]? = some o0/\((((w.alloc o0).alloc o1).alloc o2).alloc o3).heap[w.heap.size+1]? = some o1/\
  ((((w.alloc o0).alloc o1).alloc o2).alloc o3).heap[w.heap.size+2]? = some o2/\((((w.alloc o0).alloc o1).alloc o2).alloc o3).heap[w.heap.size+3]? = some o3/\Below w.heap.size w ((((w.alloc o0).alloc o1).alloc o2).alloc o3):=by
 have s1:(w.alloc o0).heap.size=w.heap.size+1:=World.size_alloc ..;have s2:((w.alloc o0).alloc o1).heap.size=w.heap.size+2:=by rw[World.size_alloc,s1]
 have s3:(((w.alloc o0).alloc o1).alloc o2).heap.size=w.heap.size+3:=by rw[World.size_alloc,s2]
 refine⟨?_,?_,?_,?_,?_⟩
 ·rw[Below.heap_alloc _ _ _ (by omega),Below.heap_alloc _ _ _ (by omega),Below.heap_alloc _ _ _ (by omega)];exact World.alloc_heap_new w o0
 ·rw[Below.heap_alloc _ _ _ (by omega),Below.heap_alloc _ _ _ (by omega)];have:=World.alloc_heap_new (w.alloc o0) o1;rwa [s1] at this
 ·rw[Below.heap_alloc _ _ _ (by omega)];have:=World.alloc_heap_new ((w.alloc o0).alloc o1) o2;rwa [s2] at this
 ·have:=World.alloc_heap_new (((w.alloc o0).alloc o1).alloc o2) o3;rwa [s3] at this
 exact((((Below.refl _ w).alloc (WzV _) _).alloc (by omega) _).alloc (by omega) _).alloc (by omega) _
structure NF (w w':World) (C1 C2:Nat) (R1 R2:Array Value) (g sb eb mb:Nat):Prop where
 hs:w'.heap[sb]? = some (.cells R1 198)
 he:w'.heap[eb]? = some (.cells R2 202)
 hm:w'.heap[mb]? = some (.map #[] 0)
 hg:w'.heap[g]? = some (.cells #[.slice (some ⟨sb,0,none⟩) 1 C1,.slice (some ⟨eb,0,none⟩) 1 C2,.map (some mb),.int .i32 0] 196)
 ge:w.heap.size<=g/\w.heap.size<=sb/\w.heap.size<=eb/\w.heap.size<=mb
 bel:Below w.heap.size w w'
def F0 (C1 C2 g sb eb mb:Nat):Fn:=⟨sb,eb,mb,C1,C2,1,1,0,0,fun _=>0,fun _=>0,fun _=>0,fun _=>none,fun _=>0,fun _=>0,fun _=>0,fun _=>0,fun _ _=>0⟩
theorem good0 (C1 C2 g sb eb mb:Nat):Good [] (F0 C1 C2 g sb eb mb) (fun _=>[]):=by
 refine⟨?_,fun s _=>rfl,⟨by simp[F0],fun s x h=>absurd rfl h,fun e h0 h1=>?_,fun e h0 h1=>?_,fun s hs=>⟨by simp[F0],fun h=>absurd rfl h,fun e' h1 h2=>?_⟩,rfl⟩,by simp[F0]⟩
 ·have e:xj (F0 C1 C2 g sb eb mb)=fun _ _=>none:=by
   funext s b;unfold xj;rw[if_pos (.inr rfl)]
  rw[e];exact zuJ
 ·have:e<1:=h1;omega
 ·have:e<1:=h1;omega
 have:e'<1:=h2;have h3:0<e':=h1;omega
theorem NF.rep {w w':World} {C1 C2 g sb eb mb:Nat} {R1 R2:Array Value} (h:NF w w' C1 C2 R1 R2 g sb eb mb) (h1:1<=C1) (h2:1<=C2) (hc:C1<=300000) (hc2:C2<=400000)
  (e1:R1=madeCells #[.int .i32 0,.int .i32 0,.int .i32 0,.int .i32 0] (C1*4)) (e2:R2=madeCells #[.int .i32 0,.int .i32 0,.int .u8 0] (C2*3)) :
  Rep w.heap.size (w'.setCell ⟨sb,1,none⟩ (.int .i32 (-1))) g (F0 C1 C2 g sb eb mb)/\Below w.heap.size w (w'.setCell ⟨sb,1,none⟩ (.int .i32 (-1)))/\w'.cell? ⟨g,0,none⟩=some (.slice (some ⟨sb,0,none⟩) 1 C1)/\w'.cell? ⟨sb,1,none⟩=some (.int .i32 0)/\w'.frozen? ⟨sb,1,none⟩=false:=by
 obtain⟨g1,g2,g3,g4⟩:=h.ge;have n1:g ≠ sb:=fun e=>by have:=h.hg;rw[e,h.hs] at this;simp at this
 have n2:eb ≠ sb:=fun e=>by have:=h.he;rw[e,h.hs] at this;simp at this
 have n3:mb ≠ sb:=fun e=>by have:=h.hm;rw[e,h.hs] at this;simp at this
 have f1:∀ k,k ≠ sb->(w'.setCell ⟨sb,1,none⟩ (.int .i32 (-1))).heap[k]? = w'.heap[k]? := fun k hk=>Below.heap_setCell w' _ _ k hk;have m1:∀ i,i<4->R1[i]? = some (.int .i32 0):=fun i hi=>by
  rw[e1,D5 _ _ _ (by omega) (by simp)];have hc4:i=0 ∨ i=1 ∨ i=2 ∨ i=3:=by omega
  rcases hc4 with rfl | rfl | rfl | rfl <;> rfl
 have row:Row w' sb 198 4 1 C1 (fun _ _=>.int .i32 0):=⟨R1,h.hs,by rw[e1,size_madeCells],h1,by unfold maxLen;omega,fun s k hs hk=>by
  obtain rfl:s=0:=by omega
  rw[Wx3,Wq7];exact m1 k hk⟩
 have row2:Row w' eb 202 3 1 C2 (F0 C1 C2 g sb eb mb).edv:=⟨R2,h.he,by rw[e2,size_madeCells],h2,by unfold maxLen;omega,fun s k hs hk=>by
  obtain rfl:s=0:=by omega
  rw[Wx3,Wq7,e2,D5 _ _ _ (by omega) (by simp)];have hc4:k=0 ∨ k=1 ∨ k=2:=by omega
  rcases hc4 with rfl | rfl | rfl <;> rfl⟩
 refine⟨⟨(f1 g n1).trans h.hg,?_,row2.kept (f1 eb n2),⟨.map [],?_,fun s x _ _=>rfl⟩,g1,g2,g3,g4,hc,Nat.zero_le _⟩,h.bel.setCell g2 _,by simp[World.cell?,h.hg],by simp[World.cell?,h.hs,m1 1 (by omega)],by simp[World.frozen?,h.hs]⟩
 ·have:=row.set (s:=0) (k:=1) (by omega) (by omega) (.int .i32 (-1));refine this.congr (fun s k hs hk=>?_);obtain rfl:s=0:=by omega
  have hc4:k=0 ∨ k=1 ∨ k=2 ∨ k=3:=by omega
  rcases hc4 with rfl | rfl | rfl | rfl <;> simp[Fn.stv,F0,shI]
 have hh:=f1 mb n3;obtain⟨D,hD⟩:∃ wm:World,wm.ownsMap (H:=Unit) prog 50 (plainElem prog 21) wm.heap.size 0 (.map []) ∨ True:=⟨w,.inr trivial⟩;have:=World.ownsMap_made (H:=Unit) w prog 50 (plainElem prog 21);obtain⟨es,ck,a1,a2,a3,a4⟩:=this;rw[World.alloc_heap_new] at a1;simp only[Wq9.injEq,Obj.map.injEq] at a1;obtain⟨rfl,rfl⟩:=a1
 exact⟨#[],0,hh.trans h.hm,a2,a3,a4⟩
def PostN (base:List Int) (w:World) (e:Ending) (w':World):Prop := ∃ g F wd,e=.returned (.pointer (some ⟨g,0,none⟩))/\Rep w.heap.size w' g F/\Good base F wd/\Below w.heap.size w w'
set_option maxRecDepth 10000 in
theorem GQ (ab:Option Addr) (cap:Nat) (base:List Int) (w:World) (hz:IsB base) (hbl:base.length<=100000) (hS:Sl w ab cap base) :
  Calls prog 88 #[.slice ab base.length cap] w (PostN base w):=by
 obtain⟨i3,hi3,hz30,hz31,hz32⟩:=info_parts info198;obtain⟨i7,hi7,hz70,hz71,hz72⟩:=info_parts info202;have HS:Hid _:=hS;have HZ:Hid _:=hz;obtain⟨L,HL⟩:=nn_ base.length;rw[<-HL.out] at hbl ⊢;obtain⟨C1,HC1⟩:=nn_ (2*L+1);obtain⟨C2,HC2⟩:=nn_ (3*L+1);have hc1:(2:Int)*(L:Int)+1=(C1:Int):=by rw[HC1.out];omega
 have hc2:(3:Int)*(L:Int)+1=(C2:Int):=by rw[HC2.out];omega
 have hw2:IntKind.i64.wrap (2*(L:Int))=2*(L:Int):=by rw[IntKind.wrap_i64];omega
 have hw3:IntKind.i64.wrap (3*(L:Int))=3*(L:Int):=by rw[IntKind.wrap_i64];omega
 have hC1:C1<=300000:=by rw[HC1.out];omega
 have hC2:C2<=400000:=by rw[HC2.out];omega
 have hwc1:IntKind.i64.wrap (C1:Int)=C1:=by rw[IntKind.wrap_i64];omega
 have hwc2:IntKind.i64.wrap (C2:Int)=C2:=by rw[IntKind.wrap_i64];omega
 obtain⟨R1,HR1⟩:=nn_ (madeCells #[.int .i32 0,.int .i32 0,.int .i32 0,.int .i32 0] (C1*4));obtain⟨R2,HR2⟩:=nn_ (madeCells #[.int .i32 0,.int .i32 0,.int .u8 0] (C2*3));have hmk1:∀ w:World,(Instr.makeSlice 192 (.int .i64 1) (.int .i64 C1)).run prog w=.ok (.slice (some ⟨w.heap.size,0,none⟩) 1 C1) (w.alloc (.cells R1 198)):=fun w=>by
  have hr:=run_make (P:=prog) w 192 198 i3 _ underlying192 hi3 hz30 .i64 .i64 1 C1 (by omega) (by rw[HC1.out];omega) (by rw[hz32];omega) (by omega);rw[hz31] at hr;rw[HR1.out];exact hr
 have hmk2:∀ w:World,(Instr.makeSlice 193 (.int .i64 1) (.int .i64 C2)).run prog w=.ok (.slice (some ⟨w.heap.size,0,none⟩) 1 C2) (w.alloc (.cells R2 202)):=fun w=>by
  have hr:=run_make (P:=prog) w 193 202 i7 _ underlying193 hi7 hz70 .i64 .i64 1 C2 (by omega) (by rw[HC2.out];omega) (by rw[hz72];omega) (by omega);rw[hz71] at hr;rw[HR2.out];exact hr
 have hmm:∀ (z:Int) (w:World),(Instr.makeMap 194 (some (.int .i64 z))).run prog w=.ok (.map (some w.heap.size)) (w.alloc (.map #[] 0)):=OY;clear hS hz hi3 hz30 hz31 hz32 hi7 hz70 hz71 hz72;go_enter func88,ntmps88;go_wp2_with fail
 refine Code.wp_mono (Q:=fun e a w'=>match e with | .normal=>∃ g sb eb mb,a={ tmps:=#[Value.slice ab L cap,undef,Value.pointer none,.pointer (some ⟨g,0,none⟩),undef,undef,Value.slice ab L cap,.int .i64 L,.int .i64 (2*(L:Int)),.int .i64 C1,.slice (some ⟨sb,0,none⟩) 1 C1,Value.slice ab L cap,.int .i64 L,.int .i64 (3*(L:Int)),.int .i64 C2,.slice (some ⟨eb,0,none⟩) 1 C2,Value.slice ab L cap,.int .i64 L,.int .i64 (2*(L:Int)),.map (some mb),.agg #[.slice (some ⟨sb,0,none⟩) 1 C1,.slice (some ⟨eb,0,none⟩) 1 C2,.map (some mb),.int .i32 0],.pointer (some ⟨g,0,none⟩),undef,undef,undef,undef,undef,undef,undef,undef,undef,undef,undef,undef,undef,undef,undef,undef,undef],defers:=[] }/\NF w w' C1 C2 R1 R2 g sb eb mb | _=>False) ?rest ?reg
 case rest =>
  intro e a w' hq;cases e <;> first | exact hq.elim | skip
  obtain⟨g,sb,eb,mb,rfl,nf⟩:=hq;obtain⟨hR,hB,c0,cs,fs⟩:=nf.rep (by rw[HC1.out];omega) (by rw[HC2.out];omega) hC1 hC2 HR1.out HR2.out;have HR:Hid _:=hR;have HB:Hid _:=hB;clear hR hB nf hmk1 hmk2 hmm;go_wp2_with fail
  obtain⟨w3,HW3⟩:=nm_ (w'.setCell ⟨sb,1,none⟩ (.int .i32 (-1)));rw[HW3.out] at HR HB ⊢;clear HW3 c0 cs fs hw2 hw3 hwc1 hwc2 hc1 hc2;have HG0:Hid (Good (base.take 0) (F0 C1 C2 g sb eb mb) (fun _=>[])):=good0 C1 C2 g sb eb mb
  go_loopg [30] L (fun k ix wr=>∃ (j:Nat) (F:Fn) (wd:Nat->List Int),ix=.int .i64 j/\k=L-j/\j<=L/\Hid (Rep w.heap.size wr g F)/\Hid (Good (base.take j) F wd)/\Hid (F.cs=C1)/\Hid (Below w.heap.size w wr));case atStart=>exact⟨0,F0 C1 C2 g sb eb mb,fun _=>[],rfl,rfl,by omega,HR.out,HG0.out,rfl,HB.out⟩
  obtain⟨j,F,wd,rfl,hk,hj,HR4,HG4,HC4,HB4⟩:=hrel;by_cases hjL:j<L
  ·have hjI:(j:Int)<L:=(by omega);have hjb:j<base.length:=(by rw[<-HL.out];exact hjL);obtain⟨bb,off,rfl,hbb,hat⟩:=HS.out.at_ (by omega);have hxb:=HZ.out _ (List.getElem_mem hjb);obtain⟨x,HX⟩:∃ x:Nat,Hid (base[j]=(x:Int)):=⟨base[j].toNat,by show _=_;omega⟩;have hx:x<256:=(by have:=HX.out;omega);have cx:wr.cell? ⟨bb,off+j,none⟩=some (.int .u8 x):=by
    have h1:=hat j hjb;rw[List.getD_eq_getElem?_getD,List.getElem?_eq_getElem hjb,HX.out] at h1;exact(HB4.out.cell (p:=⟨bb,off+j,none⟩) hbb).trans h1
   have htl:(base.take j).length=j:=(by rw[List.length_take];omega);have AD:=JX x hx wr HR4.out HG4.out (by omega) (by have:=HG4.out.2.2.2;rw[htl] at this;rw[HC4.out,HC1.out];omega);rw[show base.take j++[(x:Int)]=base.take (j+1) by rw[<-HX.out];exact(List.take_succ_eq_append_getElem hjb).symm] at AD;clear hat
   go_wp2_with (go_at_call 101;refine AD.mono ?_;clear AD;rintro ev w5 ⟨⟨v,rfl⟩,F5,wd5,hR5,hG5,hc5,hB5⟩;have HR5:Hid _:=hR5;have HG5:Hid _:=hG5;have HC5:Hid _:=hc5;have HB5:Hid _:=hB5;clear hR5 hG5 hc5 hB5)
   go_roundg (L-(j+1));case measure=>omega
   case rel=>exact⟨j+1,F5,wd5,by go_num,rfl,by omega,HR5.out,HG5.out,by show _=_;rw[HC5.out,HC4.out],HB4.out.trans HB5.out⟩
  have hjI:¬ (j:Int)<L:=by omega
  have HGF:Hid (Good base F wd):=by have:=HG4.out;rwa [List.take_of_length_le (by rw[<-HL.out];omega)] at this
  go_wp2_with fail
  go_ret;exact⟨g,F,wd,rfl,HR4.out,HGF.out,HB4.out⟩
 refine wp_region_held_drew (S:=fun w'=>True) (by kernel_rfl) trivial (fun hHeld=>?_);refine tV (i:=0) trivial ?_;try simp only[Act.put,sL]
 refine tV (i:=1) trivial ?_;try simp only[Act.put,sL]
 refine tV (i:=2) trivial ?_;try simp only[Act.put,sL]
 refine tV (i:=3) trivial ?_;try simp only[Act.put,sL]
 refine tV (i:=5) trivial ?_;try simp only[Act.put,sL]
 refine tV (i:=6) trivial ?_;try simp only[Act.put,sL]
 refine tV (i:=7) trivial ?_;try simp only[Act.put,sL]
 refine tV (i:=8) trivial ?_;try simp only[Act.put,sL]
 refine tV (i:=10) trivial ?_;try simp only[Act.put,sL]
 refine tV (i:=11) trivial ?_;try simp only[Act.put,sL]
 refine tV (i:=12) trivial ?_;try simp only[Act.put,sL]
 refine wpAnyH_ready (rs:=[4,9,13]) (by kernel_rfl) (by simp) ?_;refine consL rfl (fun KK hKK=>?_) (consL rfl (fun KK hKK=>?_) (consL rfl (fun KK hKK=>?_) AllReadyH.nil))
 ·go_simp;refine hKK.out _ _ trivial (fun _=>?_);clear hKK KK;try simp only[Act.put,sL]
  refine wpAnyH_ready (rs:=[9,13]) (by kernel_rfl) (by simp) ?_;refine consL rfl (fun KK hKK=>?_) (consL rfl (fun KK hKK=>?_) AllReadyH.nil)
  ·go_simp;refine hKK.out _ _ trivial (fun _=>?_);clear hKK KK;(try simp only[Act.put,sL]);refine wpAnyH_ready (rs:=[13]) (by kernel_rfl) (by simp) ?_;refine consL rfl (fun KK hKK=>?_) AllReadyH.nil;go_simp;refine hKK.out _ _ trivial (fun _=>?_);clear hKK KK;(try simp only[Act.put,sL]);refine tV (i:=14) trivial ?_;(try simp only[Act.put,sL])
   refine wpAnyH_ready (rs:=[15]) (by kernel_rfl) (by simp) ?_;refine consL rfl (fun KK hKK=>?_) AllReadyH.nil;go_simp;refine hKK.out _ _ trivial (fun _=>?_);clear hKK KK;(try simp only[Act.put,sL]);refine tV (i:=16) trivial ?_;(try simp only[Act.put,sL]);refine wpAnyH_done (by kernel_rfl) ?_ _
   have h4:=four w.drew (.cells R1 198) (.cells R2 202) (.map #[] 0) (.cells #[.slice (some ⟨w.heap.size,0,none⟩) 1 C1,.slice (some ⟨w.heap.size+1,0,none⟩) 1 C2,.map (some (w.heap.size+2)),.int .i32 0] 196)
   exact⟨w.heap.size+3,w.heap.size,w.heap.size+1,w.heap.size+2,rfl,⟨h4.1,h4.2.1,h4.2.2.1,h4.2.2.2.1,⟨by omega,by omega,by omega,by omega⟩,⟨h4.2.2.2.2.os,h4.2.2.2.2.tape,h4.2.2.2.2.output,h4.2.2.2.2.size,h4.2.2.2.2.block⟩⟩⟩
  go_simp;refine hKK.out _ _ trivial (fun _=>?_);clear hKK KK;try simp only[Act.put,sL]
  refine wpAnyH_ready (rs:=[9]) (by kernel_rfl) (by simp) ?_;refine consL rfl (fun KK hKK=>?_) AllReadyH.nil;go_simp;refine hKK.out _ _ trivial (fun _=>?_);clear hKK KK;try simp only[Act.put,sL]
  refine tV (i:=14) trivial ?_;try simp only[Act.put,sL]
  refine wpAnyH_ready (rs:=[15]) (by kernel_rfl) (by simp) ?_;refine consL rfl (fun KK hKK=>?_) AllReadyH.nil;go_simp;refine hKK.out _ _ trivial (fun _=>?_);clear hKK KK;try simp only[Act.put,sL]
  refine tV (i:=16) trivial ?_;try simp only[Act.put,sL]
  refine wpAnyH_done (by kernel_rfl) ?_ _;have h4:=four w.drew (.cells R1 198) (.map #[] 0) (.cells R2 202) (.cells #[.slice (some ⟨w.heap.size,0,none⟩) 1 C1,.slice (some ⟨w.heap.size+2,0,none⟩) 1 C2,.map (some (w.heap.size+1)),.int .i32 0] 196)
  exact⟨w.heap.size+3,w.heap.size,w.heap.size+2,w.heap.size+1,rfl,⟨h4.1,h4.2.2.1,h4.2.1,h4.2.2.2.1,⟨by omega,by omega,by omega,by omega⟩,⟨h4.2.2.2.2.os,h4.2.2.2.2.tape,h4.2.2.2.2.output,h4.2.2.2.2.size,h4.2.2.2.2.block⟩⟩⟩
 ·go_simp;refine hKK.out _ _ trivial (fun _=>?_);clear hKK KK;try simp only[Act.put,sL]
  refine wpAnyH_ready (rs:=[4,13]) (by kernel_rfl) (by simp) ?_;refine consL rfl (fun KK hKK=>?_) (consL rfl (fun KK hKK=>?_) AllReadyH.nil)
  ·go_simp;refine hKK.out _ _ trivial (fun _=>?_);clear hKK KK;(try simp only[Act.put,sL]);refine wpAnyH_ready (rs:=[13]) (by kernel_rfl) (by simp) ?_;refine consL rfl (fun KK hKK=>?_) AllReadyH.nil;go_simp;refine hKK.out _ _ trivial (fun _=>?_);clear hKK KK;(try simp only[Act.put,sL]);refine tV (i:=14) trivial ?_;(try simp only[Act.put,sL])
   refine wpAnyH_ready (rs:=[15]) (by kernel_rfl) (by simp) ?_;refine consL rfl (fun KK hKK=>?_) AllReadyH.nil;go_simp;refine hKK.out _ _ trivial (fun _=>?_);clear hKK KK;(try simp only[Act.put,sL]);refine tV (i:=16) trivial ?_;(try simp only[Act.put,sL]);refine wpAnyH_done (by kernel_rfl) ?_ _
   have h4:=four w.drew (.cells R2 202) (.cells R1 198) (.map #[] 0) (.cells #[.slice (some ⟨w.heap.size+1,0,none⟩) 1 C1,.slice (some ⟨w.heap.size,0,none⟩) 1 C2,.map (some (w.heap.size+2)),.int .i32 0] 196)
   exact⟨w.heap.size+3,w.heap.size+1,w.heap.size,w.heap.size+2,rfl,⟨h4.2.1,h4.1,h4.2.2.1,h4.2.2.2.1,⟨by omega,by omega,by omega,by omega⟩,⟨h4.2.2.2.2.os,h4.2.2.2.2.tape,h4.2.2.2.2.output,h4.2.2.2.2.size,h4.2.2.2.2.block⟩⟩⟩
  go_simp;refine hKK.out _ _ trivial (fun _=>?_);clear hKK KK;try simp only[Act.put,sL]
  refine wpAnyH_ready (rs:=[4]) (by kernel_rfl) (by simp) ?_;refine consL rfl (fun KK hKK=>?_) AllReadyH.nil;go_simp;refine hKK.out _ _ trivial (fun _=>?_);clear hKK KK;try simp only[Act.put,sL]
  refine tV (i:=14) trivial ?_;try simp only[Act.put,sL]
  refine wpAnyH_ready (rs:=[15]) (by kernel_rfl) (by simp) ?_;refine consL rfl (fun KK hKK=>?_) AllReadyH.nil;go_simp;refine hKK.out _ _ trivial (fun _=>?_);clear hKK KK;try simp only[Act.put,sL]
  refine tV (i:=16) trivial ?_;try simp only[Act.put,sL]
  refine wpAnyH_done (by kernel_rfl) ?_ _;have h4:=four w.drew (.cells R2 202) (.map #[] 0) (.cells R1 198) (.cells #[.slice (some ⟨w.heap.size+2,0,none⟩) 1 C1,.slice (some ⟨w.heap.size,0,none⟩) 1 C2,.map (some (w.heap.size+1)),.int .i32 0] 196)
  exact⟨w.heap.size+3,w.heap.size+2,w.heap.size,w.heap.size+1,rfl,⟨h4.2.2.1,h4.1,h4.2.1,h4.2.2.2.1,⟨by omega,by omega,by omega,by omega⟩,⟨h4.2.2.2.2.os,h4.2.2.2.2.tape,h4.2.2.2.2.output,h4.2.2.2.2.size,h4.2.2.2.2.block⟩⟩⟩
 go_simp;refine hKK.out _ _ trivial (fun _=>?_);clear hKK KK;try simp only[Act.put,sL]
 refine wpAnyH_ready (rs:=[4,9]) (by kernel_rfl) (by simp) ?_;refine consL rfl (fun KK hKK=>?_) (consL rfl (fun KK hKK=>?_) AllReadyH.nil)
 ·go_simp;refine hKK.out _ _ trivial (fun _=>?_);clear hKK KK;try simp only[Act.put,sL]
  refine wpAnyH_ready (rs:=[9]) (by kernel_rfl) (by simp) ?_;refine consL rfl (fun KK hKK=>?_) AllReadyH.nil;go_simp;refine hKK.out _ _ trivial (fun _=>?_);clear hKK KK;try simp only[Act.put,sL]
  refine tV (i:=14) trivial ?_;try simp only[Act.put,sL]
  refine wpAnyH_ready (rs:=[15]) (by kernel_rfl) (by simp) ?_;refine consL rfl (fun KK hKK=>?_) AllReadyH.nil;go_simp;refine hKK.out _ _ trivial (fun _=>?_);clear hKK KK;try simp only[Act.put,sL]
  refine tV (i:=16) trivial ?_;try simp only[Act.put,sL]
  refine wpAnyH_done (by kernel_rfl) ?_ _;have h4:=four w.drew (.map #[] 0) (.cells R1 198) (.cells R2 202) (.cells #[.slice (some ⟨w.heap.size+1,0,none⟩) 1 C1,.slice (some ⟨w.heap.size+2,0,none⟩) 1 C2,.map (some (w.heap.size)),.int .i32 0] 196)
  exact⟨w.heap.size+3,w.heap.size+1,w.heap.size+2,w.heap.size,rfl,⟨h4.2.1,h4.2.2.1,h4.1,h4.2.2.2.1,⟨by omega,by omega,by omega,by omega⟩,⟨h4.2.2.2.2.os,h4.2.2.2.2.tape,h4.2.2.2.2.output,h4.2.2.2.2.size,h4.2.2.2.2.block⟩⟩⟩
 go_simp;refine hKK.out _ _ trivial (fun _=>?_);clear hKK KK;try simp only[Act.put,sL]
 refine wpAnyH_ready (rs:=[4]) (by kernel_rfl) (by simp) ?_;refine consL rfl (fun KK hKK=>?_) AllReadyH.nil;go_simp;refine hKK.out _ _ trivial (fun _=>?_);clear hKK KK;try simp only[Act.put,sL]
 refine tV (i:=14) trivial ?_;try simp only[Act.put,sL]
 refine wpAnyH_ready (rs:=[15]) (by kernel_rfl) (by simp) ?_;refine consL rfl (fun KK hKK=>?_) AllReadyH.nil;go_simp;refine hKK.out _ _ trivial (fun _=>?_);clear hKK KK;try simp only[Act.put,sL]
 refine tV (i:=16) trivial ?_;try simp only[Act.put,sL]
 refine wpAnyH_done (by kernel_rfl) ?_ _;have h4:=four w.drew (.map #[] 0) (.cells R2 202) (.cells R1 198) (.cells #[.slice (some ⟨w.heap.size+2,0,none⟩) 1 C1,.slice (some ⟨w.heap.size+1,0,none⟩) 1 C2,.map (some (w.heap.size)),.int .i32 0] 196)
 exact⟨w.heap.size+3,w.heap.size+2,w.heap.size+1,w.heap.size,rfl,⟨h4.2.2.1,h4.2.1,h4.1,h4.2.2.2.1,⟨by omega,by omega,by omega,by omega⟩,⟨h4.2.2.2.2.os,h4.2.2.2.2.tape,h4.2.2.2.2.output,h4.2.2.2.2.size,h4.2.2.2.2.block⟩⟩⟩
end Go.Proofs.YtiaaekdpfpaigaaGreatDoor.Dl
namespace Go.Proofs.YtiaaekdpfpaigaaGreatDoor.Dl
open Go.Proofs.Tryz
open Go.RowKit Go.Maps Plain
theorem infoB:(prog.info? 5).map (fun i=>(i.zero,i.size,i.bytes))=some (some (.int .u8 0),1,1):=by kernel_rfl
theorem zyZ {w:World} {B g n cap:Nat} {x:Value} {r:List Value} (h:w.ownsRow B 5 1 (.slice (some ⟨g,0,none⟩) n cap) n (x :: r)) (y:Value):(w.setCell ⟨g,0,none⟩ y).ownsRow B 5 1 (.slice (some ⟨g,0,none⟩) n cap) n (y :: r):=by
 obtain⟨h1,⟨h2,_⟩ | ⟨g',cap',cur,hv,h3,h4,h5,h6,h7,h8⟩⟩:=h
 ·cases h2
 simp only[Value.slice.injEq,Wq9.injEq,Addr.mk.injEq,and_true,true_and] at hv;obtain⟨rfl,rfl⟩:=hv;refine⟨by simpa using h1,.inr ⟨g,cap,cur.setIfInBounds 0 y,rfl,h3,heap_set w g 0 y h4,h5,h6,by simpa using h7,?_⟩⟩;rw[Array.toList_setIfInBounds];have:(cur.toList.set 0 y).take (n*1)=(cur.toList.take (n*1)).set 0 y:=by rw[List.take_set]
 rw[this,h8];rfl
theorem zyQ {w:World} {B g n cap:Nat} {x:Value} {r:List Value} (h:w.ownsRow B 5 1 (.slice (some ⟨g,0,none⟩) n cap) n (x :: r)):w.cell? ⟨g,0,none⟩=some x/\w.frozen? ⟨g,0,none⟩=false/\B<=g/\g<w.heap.size/\0<n/\n<=cap:=by
 have hc:=h.cells (g:=g) rfl 0 x rfl;rw[addr_add] at hc;obtain⟨h1,⟨h2,_⟩ | ⟨g',cap',cur,hv,h3,h4,h5,h6,h7,h8⟩⟩:=h
 ·cases h2
 simp only[Value.slice.injEq,Wq9.injEq,Addr.mk.injEq,and_true,true_and] at hv;obtain⟨rfl,rfl⟩:=hv;exact⟨hc,by simp[World.frozen?,h4],h3,(Array.getElem?_eq_some_iff.1 h4).1,by simp at h1;omega,h5⟩
theorem zyX {w:World} {B n:Nat} {v:Value} {xs:List Value} (h:w.ownsRow B 5 1 v (n+1) xs):∃ g cap,v=.slice (some ⟨g,0,none⟩) (n+1) cap:=by
 obtain⟨_,⟨_,h2⟩ | ⟨g,cap,cur,hv,_⟩⟩:=h
 ·omega
 exact⟨g,cap,hv⟩
theorem RJ (w:World) (p:Addr) (u x:Value):∀ j v,[x][j]? = some v->((w.setCell p u).alloc (.cells #[x] 5)).cell? ((⟨w.heap.size,0,none⟩:Addr).add j)=some v:=by
 have:=cell_one_new (w.setCell p u) x 5;rwa [show (w.setCell p u).heap.size=w.heap.size by simp[World.setCell]] at this
def PostC (c:List Int) (w:World) (e:Ending) (w':World):Prop := ∃ g cap,e=.returned (.slice (some ⟨g,0,none⟩) c.length cap)/\w'.ownsRow w.heap.size 5 1 (.slice (some ⟨g,0,none⟩) c.length cap) c.length (c.map (Value.int .u8))/\Below w.heap.size w w'
theorem zyJ (a l:Nat) (ha:a<16777216) (hl:l<16777216):bits .or .u64 (a:Int) ((l:Int)*4294967296)=((a+l*4294967296:Nat):Int):=by
 have e:(l:Int)*4294967296=((l*4294967296:Nat):Int):=by omega
 rw[e,u64_or _ _ (by omega) (by omega) (by omega) (by omega),Wz0,Wz0,Nat.or_comm,show (4294967296:Nat)=2 ^ 32 from rfl,nat_join 32 (l*2 ^ 32) a (Nat.mul_mod_left _ _) (by omega),Nat.add_comm]
theorem or_bit (mk j:Nat) (hj:j<7) (hm:mk<2 ^ j):(128+mk) ||| 2 ^ j=128+mk+2 ^ j:=by
 have h:∀ j,j<7->∀ mk,mk<2 ^ j->(128+mk) ||| 2 ^ j=128+mk+2 ^ j:=by decide +kernel
 exact h j hj mk hm
set_option maxRecDepth 10000 in
theorem RK (a l:Nat) (ha:a<16777216) (hl:l<16777216) (w:World):Calls prog 90 #[.int .i64 a,.int .i64 l] w (PostC (cpy a l) w):=by
 obtain⟨i5,hi,hz0,hz1,hz2⟩:=info_parts infoB;have hor:=zyJ a l ha hl;obtain⟨pl,HPL⟩:=nn_ (a+l*4294967296);rw[<-HPL.out] at hor;go_enter func90,ntmps90;go_wp2_with fail
 have HO0:Hid ((w.alloc (.cells #[.int .u8 128] 5)).ownsRow w.heap.size 5 1 (.slice (some ⟨w.heap.size,0,none⟩) (xY pl 0).length 1) (xY pl 0).length ((xY pl 0).map (Value.int .u8))) :=
  ⟨by simp[xY],.inr ⟨w.heap.size,1,#[.int .u8 128],rfl,WzV _,World.alloc_heap_new w _,by simp[xY,byl],by unfold maxLen;omega,by simp,by simp[xY,byl,msk]⟩⟩
 have HB0:Hid (Below w.heap.size w (w.alloc (.cells #[.int .u8 128] 5))):=(Below.refl _ _).alloc (WzV _) _
 go_loopg [6,16] 7 (fun k st ix wr=>∃ j g cap:Nat,j<=7/\ix=.int .i64 j/\k=7-j/\st=.slice (some ⟨g,0,none⟩) (xY pl j).length cap/\Hid (wr.ownsRow w.heap.size 5 1 (.slice (some ⟨g,0,none⟩) (xY pl j).length cap) (xY pl j).length ((xY pl j).map (Value.int .u8)))/\Hid (Below w.heap.size w wr));case atStart=>exact⟨0,w.heap.size,1,by omega,rfl,rfl,rfl,HO0.out,HB0.out⟩
 obtain⟨j,g,cap,hj,rfl,hk,rfl,HO,HB⟩:=hrel;by_cases hj7:j<7;rotate_left
 ·obtain rfl:j=7:=by omega
  have hjI:¬ (7:Int)<7:=by omega
  have HCP:Hid (xY pl 7=cpy a l):=by rw[HPL.out];rfl
  rw[HCP.out] at HO ⊢;go_wp2_with fail
  go_ret;exact⟨g,cap,rfl,HO.out,HB.out⟩
 have hjI:(j:Int)<7:=by omega
 obtain⟨x,HX⟩:=nn_ (byt pl j);have hx:x<256:=by rw[HX.out];unfold byt;omega
 obtain⟨sh,HSH⟩:=nn_ (8*j);have hsh:(8:Int)*(j:Int)=(sh:Int):=by rw[HSH.out];omega
 have hsl:sh<=48:=by rw[HSH.out];omega
 have hdv:(pl:Int) / 2 ^ sh % 256=(x:Int):=by rw[HX.out,HSH.out];unfold byt;push_cast;rfl
 by_cases hx0:x=0
 ·subst hx0;have HCE:Hid (xY pl (j+1)=xY pl j):=by show _=_;unfold xY;rw[msk,byl,if_pos HX.out.symm,if_pos HX.out.symm];simp
  go_wp2_with fail
  go_roundg (7-(j+1));case measure=>omega
  case rel=>exact⟨j+1,g,cap,by omega,by go_num,rfl,by rw[HCE.out],by show World.ownsRow _ _ _ _ _ _ _;rw[HCE.out];exact HO.out,HB.out⟩
 have hxI:¬ (x:Int)=0:=by omega
 have hxB:((x:Int) != 0)=true:=by rw[bne_iff_ne];omega
 obtain⟨mk,HMK⟩:=nn_ (msk pl j);obtain⟨pw,HPW⟩:∃ pw:Nat,Hid (pw=2 ^ j):=⟨2 ^ j,rfl⟩;have hmk:mk<pw:=by rw[HMK.out,HPW.out];exact TZ pl j
 have hpw:pw<=64:=by rw[HPW.out];exact Nat.pow_le_pow_right (n:=2) (j:=6) (by omega) (by omega)
 have hpI:(2:Int) ^ j=(pw:Int):=by rw[HPW.out];push_cast;rfl
 have hw8:IntKind.u8.wrap (pw:Int)=pw:=by rw[IntKind.wrap_u8];omega
 obtain⟨c8,H8⟩:=nn_ (128+mk);obtain⟨c9,H9⟩:=nn_ (128+mk+pw);have HCE:Hid (xY pl (j+1)=(c9:Int) :: (byl pl j++[(x:Int)])):=by
  show _=_;have hne:¬ byt pl j=0:=by rw[<-HX.out];exact hx0
  unfold xY;rw[H9.out,msk,byl,if_neg hne,if_neg hne,<-HMK.out,<-HPW.out,<-HX.out,WzQ]
 have HCJ:Hid (xY pl j=(c8:Int) :: byl pl j):=by rw[H8.out,HMK.out];rfl
 have hor8:bits .or .u8 (c8:Int) (pw:Int)=(c9:Int):=by
  rw[u8_or_nat _ _ (by rw[H8.out];omega) (by omega)];congr 1;rw[H8.out,H9.out];rw[HPW.out] at hmk hpw ⊢;exact or_bit mk j hj7 hmk
 have HO':Hid (wr.ownsRow w.heap.size 5 1 (.slice (some ⟨g,0,none⟩) (xY pl j).length cap) (xY pl j).length ((Value.int .u8 (c8:Int)) :: (byl pl j).map (Value.int .u8))):=by
  have:=HO.out;rw[HCJ.out] at this ⊢;exact this
 obtain⟨k0,f0,hBg,hgl,hn0,hnc⟩:=zyQ HO'.out;obtain⟨n,Hn⟩:=nn_ ((xY pl j).length);have HN1:Hid ((xY pl (j+1)).length=n+1):=by show _=_;rw[Hn.out,HCE.out,HCJ.out];simp
 rw[<-Hn.out] at HO HO' hn0 hnc ⊢;have hnb:n<=8:=by rw[Hn.out,HCJ.out];have:=EQ pl j;simp;omega
 have hn0I:(0:Int)<n:=by omega
 have HOS:Hid ((wr.drew.setCell ⟨g,0,none⟩ (.int .u8 c9)).ownsRow w.heap.size 5 1 (.slice (some ⟨g,0,none⟩) n cap) n ((Value.int .u8 (c9:Int)) :: (byl pl j).map (Value.int .u8))):=zyZ (w:=wr.drew) HO'.out _;have HBS:Hid (Below w.heap.size w (wr.drew.setCell ⟨g,0,none⟩ (.int .u8 c9))):=(below_drewN HB.out 1).setCell hBg _;have hws:w.heap.size<=wr.heap.size:=HB.out.size
 have k0d:wr.drew.cell? ⟨g,0,none⟩=some (.int .u8 c8):=k0;have f0d:wr.drew.frozen? ⟨g,0,none⟩=false:=f0;go_wp2_with fail
 refine NY 7 (by kernel_rfl) (by kernel_rfl) ?_;iterate 7 (refine Wj rfl (fun K hK=>?_);go_simp;refine hK _ ?_;clear hK K)
 refine wpStill_nil ?_;clear hor hpI hw8 hdv hsh
 go_wp2_with (at_builtin;refine wpList_append_own_at _ rfl _ _ 22 rfl w.heap.size 5 i5 (.int .u8 0) 1 1 underlying22 hi hz0 hz1 hz2 rfl (by decide) (.slice (some ⟨g,0,none⟩) n cap) n _ rfl (HOS.out.alloc _) ⟨wr.heap.size,0,none⟩ 1 1 [.int .u8 x] (by first | rfl | simp) rfl (by first | exact cell_one_new _ _ _ | exact RJ _ _ _ _) (ints_oneCell .u8 [(x:Int)]) (by unfold maxLen;omega) (by omega) (by simp[World.setCell];omega) ?_;intro v' w1 hown' hgrow hnil hloc;obtain⟨g2,cp2,rfl⟩:=zyX hown';have HOW:Hid _:=hown';have HGW:Hid _:=hgrow;clear hown' hgrow hnil hloc)
 go_roundg (7-(j+1));case measure=>omega
 case rel =>
 refine⟨j+1,g2,cp2,by omega,by go_num,rfl,by rw[HN1.out],?_,?_⟩
 ·show World.ownsRow _ _ _ _ _ _ _;rw[HN1.out,HCE.out,show List.map (Value.int .u8) ((c9:Int) :: (byl pl j++[(x:Int)]))=(Value.int .u8 (c9:Int) :: (byl pl j).map (Value.int .u8))++[.int .u8 x] by simp];exact HOW.out
 exact(HBS.out.alloc (by simp[World.setCell];omega) _).grown HGW.out (by simp[World.setCell];omega) (fun k hk=>by simp[Value.ownBlock] at hk;omega)
structure Mv (w w':World) (v v':Value):Prop where
 os:w'.os=w.os
 tape:w'.tape=w.tape
 output:w'.output=w.output
 size:w.heap.size<=w'.heap.size
 blk:∀ k,k<w.heap.size->some k ≠ v.ownBlock->w'.heap[k]? = w.heap[k]?
 at_:v'.ownBlock=v.ownBlock ∨ ∀ k,v'.ownBlock=some k->w.heap.size<=k
theorem Mv.refl (w:World) (v:Value):Mv w w v v:=⟨rfl,rfl,rfl,WzV _,fun _ _ _=>rfl,.inl rfl⟩
theorem Mv.trans {a b c:World} {u v x:Value} (h:Mv a b u v) (k:Mv b c v x):Mv a c u x:=by
 have hs:=h.size;refine⟨k.os.trans h.os,k.tape.trans h.tape,k.output.trans h.output,Wqx h.size k.size,fun i hi hn=>?_,?_⟩
 ·refine(k.blk i (by omega) (fun e=>?_)).trans (h.blk i hi hn);rcases h.at_ with g | g
  ·exact hn (e.trans g)
  have:=g i e.symm;omega
 rcases k.at_ with g | g
 ·rcases h.at_ with g' | g'
  ·exact .inl (g.trans g')
  exact .inr fun i hi=>g' i (g ▸ hi)
 exact .inr fun i hi=>by have:=g i hi;omega
theorem Mv.app {w wx w1:World} {v v':Value} (h0:w.grownBy wx none) (hg:wx.grownBy w1 v.ownBlock) (hl:v'.ownBlock=v.ownBlock ∨ v'.ownBlock=some wx.heap.size):Mv w w1 v v':=by
 have hs:=h0.size;refine⟨hg.os.trans h0.os,hg.tape.trans h0.tape,hg.output.trans h0.output,Wqx h0.size hg.size,fun k hk hn=>(hg.block k (by omega) hn).trans (h0.block k hk (by simp)),?_⟩;rcases hl with h | h
 ·exact .inl h
 exact .inr fun k hk=>by rw[h] at hk;simp at hk;omega
theorem Mv.below {w w':World} {v v':Value} (h:Mv w w' v v') {B:Nat} (hB:∀ k,v.ownBlock=some k->B<=k) (hw:B<=w.heap.size):Below B w w' :=
 ⟨h.os,h.tape,h.output,h.size,fun k hk=>h.blk k (by omega) (fun e=>by have:=hB k e.symm;omega)⟩
theorem Mv.drew {w w':World} {v v':Value} (h:Mv w w' v v') (n:Nat):Mv w (w'.drewN n) v v':=⟨h.os,h.tape,h.output,h.size,h.blk,h.at_⟩
def Wk (w:World) (B:Nat) (v:Value) (l:List Int) (e:Ending) (w':World):Prop := ∃ v',e=.returned v'/\w'.ownsRow B 5 1 v' l.length (l.map (Value.int .u8))/\Mv w w' v v'
theorem or128:∀ x,x<256->bits .or .u8 ((x:Nat):Int) 128=((x % 128+128:Nat):Int):=by decide +kernel
theorem yV (w:World) (o:Obj):w.grownBy (w.alloc o) none:=World.grownBy_alloc w o none
set_option maxRecDepth 10000 in
theorem Yk (B:Nat) (v:Value) (out:List Int) (n:Nat) (w:World) (hn:n<34359738368) (ho:out.length<=300000) (hB:B<=w.heap.size) (hown:w.ownsRow B 5 1 v out.length (out.map (Value.int .u8))) :
  Calls prog 61 #[v,.int .i64 n] w (Wk w B v (out++szw n)):=by
 obtain⟨i5,hi,hz0,hz1,hz2⟩:=info_parts infoB;have HO:Hid _:=hown;have HLS:Hid ((out++szw n).length<=300006):=by
  show _<=_;have:=EZ 5 n (by omega);simp only[Wz6,szw];omega
 obtain⟨R,HR⟩:=nn_ (out++szw n);rw[<-HR.out] at HLS ⊢;clear hown;go_enter func61,ntmps61;go_wp2_with fail
 go_loopg [0,1] n (fun k u nn wr=>∃ (m f:Nat) (l:List Int),nn=.int .i64 m/\k=m/\m<34359738368/\Hid (m<2 ^ (7*f+7))/\Hid (l++wsz f m=R)/\Hid (wr.ownsRow B 5 1 u l.length (l.map (Value.int .u8)))/\Hid (Mv w wr v u));case atStart=>exact⟨n,5,out,rfl,rfl,hn,by show n<2 ^ 42;omega,HR.out.symm,HO.out,Mv.refl _ _⟩
 rename_i u;obtain⟨m,f,l,rfl,hk,hm,HF,HL,HOW,HMV⟩:=hrel;have hll:l.length<=300006:=by have:=HLS.out;rw[<-HL.out] at this;simp at this;omega
 have hBr:B<=wr.heap.size:=Wqx hB HMV.out.size;by_cases hm8:m<128
 ·have hmI:¬ (128:Int)<=m:=by omega
  have hmw:(m:Int) % 256=m:=by omega
  have HLE:Hid (R=l++[(m:Int)]):=by
   show _=_;rw[<-HL.out];cases f with
   | zero=>rfl
   | succ f=>rw[QJ,if_pos hm8]
  go_wp2_with (at_builtin;refine wpList_append_own_at _ rfl _ _ 22 rfl B 5 i5 (.int .u8 0) 1 1 underlying22 hi hz0 hz1 hz2 rfl (by decide) _ l.length _ rfl (HOW.out.alloc _) ⟨wr.heap.size,0,none⟩ 1 1 [.int .u8 m] rfl rfl (cell_one_new _ _ _) (ints_oneCell .u8 [(m:Int)]) (by unfold maxLen;omega) (by omega) (by simp;omega) ?_;intro v' w1 hown' hgrow hnil hloc;have HO1:Hid _:=hown';have HM1:Hid _:=HMV.out.trans (Mv.app (yV wr _) hgrow hloc);clear hown' hgrow hnil hloc)
  go_ret;refine⟨_,rfl,?_,HM1.out⟩;rw[HLE.out,Wz6,Wy4];exact HO1.out
 have hmI:(128:Int)<=m:=by omega
 obtain⟨y,HY⟩:=nn_ (m % 256);have hyI:(m:Int) % 256=(y:Int):=by rw[HY.out];omega
 have hy:y<256:=by rw[HY.out];omega
 obtain⟨z,HZ⟩:=nn_ (m % 128+128);have hor:bits .or .u8 (y:Int) 128=(z:Int):=by rw[or128 y hy,HZ.out,HY.out];congr 2;omega
 obtain⟨q,HQ⟩:=nn_ (m / 128);have hq1:(m:Int) / 128=(q:Int):=by rw[HQ.out];omega
 have hql:q<m:=by rw[HQ.out];omega
 obtain⟨f',hf'⟩:∃ f',f=f'+1:=by
  cases f with
  | zero=>exfalso;have h1:m<2 ^ 7:=HF.out;omega
  | succ f=>exact⟨f,rfl⟩
 subst hf';have HF2:Hid (q<2 ^ (7*f'+7)):=by
  show _<_;rw[HQ.out,Nat.div_lt_iff_lt_mul (by omega)];have:=HF.out;rw[show 7*(f'+1)+7=(7*f'+7)+7 by omega,Wq1] at this;exact this
 have HL2:Hid ((l++[(z:Int)])++wsz f' q=R):=by
  show _=_;rw[<-HL.out,QJ,if_neg hm8,<-HZ.out,<-HQ.out];simp
 go_wp2_with (at_builtin;refine wpList_append_own_at _ rfl _ _ 22 rfl B 5 i5 (.int .u8 0) 1 1 underlying22 hi hz0 hz1 hz2 rfl (by decide) _ l.length _ rfl (HOW.out.alloc _) ⟨wr.heap.size,0,none⟩ 1 1 [.int .u8 z] rfl rfl (cell_one_new _ _ _) (ints_oneCell .u8 [(z:Int)]) (by unfold maxLen;omega) (by omega) (by simp;omega) ?_;intro v' w1 hown' hgrow hnil hloc;have HO1:Hid _:=hown';have HM1:Hid _:=HMV.out.trans (Mv.app (yV wr _) hgrow hloc);clear hown' hgrow hnil hloc)
 go_roundg q;case measure=>rw[hk];exact hql
 case rel=>exact⟨q,f',l++[(z:Int)],rfl,rfl,by omega,HF2.out,HL2.out,by show World.ownsRow _ _ _ _ _ _ _;rw[Wz6,Wy4];exact HO1.out,HM1.out⟩
end Go.Proofs.YtiaaekdpfpaigaaGreatDoor.Dl
namespace Go.Proofs.YtiaaekdpfpaigaaGreatDoor.Dl
open Go.Proofs.Tryz
open Go.RowKit Plain
theorem T5:∀ (f i n:Nat) (b:List Int) (n':Nat) (r:List Int),U0 f i n b=some (n',r)->∃ k,r=b.drop k
 | 0,_,_,_,_,_,h=>by simp[U0] at h
 | f+1,_,_,[],_,_,h=>by simp[U0] at h
 | f+1,i,n,x :: t,n',r,h=>by
  rw[U0] at h;split at h
  ·split at h
   ·simp only[Wq9.injEq,Prod.mk.injEq] at h;exact⟨1,by rw[<-h.2];rfl⟩
   cases h
  obtain⟨k,hk⟩:=T5 f _ _ t _ _ h;exact⟨k+1,by rw[hk];rfl⟩
theorem Yv {l:List Int} (h:IsB l) (k:Nat):IsB (l.drop k):=fun x hx=>h x (List.mem_of_mem_drop hx)
theorem BV {b:List Int} {n:Nat} {r:List Int} (h:sz b=some (n,r)) (hb:IsB b):IsB r/\r.length<=b.length:=by
 obtain⟨k,rfl⟩:=T5 _ _ _ _ _ _ h;exact⟨Yv hb k,by simp⟩
theorem Sl.drewN {w:World} {a:Option Addr} {cap:Nat} {l:List Int} (h:Sl w a cap l) (q:Nat):Sl (w.drewN q) a cap l:=⟨h.capl,h.at_,h.nil⟩
theorem RW (a:Option Addr) (cap:Nat) (w:World):Calls prog 127 #[.slice a 0 cap] w (zyj w none):=by
 cases a with
 | none =>
  go_enter func127,ntmps127;go_wp2_with fail
  go_loop [13] (fun i=>i=.int .i64 0) (fun _=>0)
  case atStart=>rfl
  obtain rfl:=hrel;go_wp2_with fail
  exact bodyPost_ret (jJ results127 _ _ _ _ _ rfl rfl rfl) rfl ⟨rfl,0,rfl⟩
 | some ad =>
  go_enter func127,ntmps127;go_wp2_with fail
  go_loop [13] (fun i=>i=.int .i64 0) (fun _=>0)
  case atStart=>rfl
  obtain rfl:=hrel;go_wp2_with fail
  exact bodyPost_ret (jJ results127 _ _ _ _ _ rfl rfl rfl) rfl ⟨rfl,0,rfl⟩
theorem Q5 (a:Option Addr) (cap:Nat) (bs:List Int) (w:World) (hz:IsB bs) (hl:bs.length<=400000) (h:Sl w a cap bs):Calls prog 127 #[.slice a bs.length cap] w (zyj w (sz bs)):=by
 by_cases h0:bs.length=0
 ·obtain rfl:bs=[]:=List.eq_nil_of_length_eq_zero h0;exact RW a cap w
 obtain⟨b,off,rfl,hb,hat⟩:=h.at_ (by omega);exact GZ b off cap bs w hz hl (by omega) hat hb h.capl
theorem U7 {fn:Func} {p q r s:Tmp} (h:fn.results=#[.tmp p,.tmp q,.tmp r,.tmp s]) (tmps:Array Value) (w:World) (x y z u:Value) (hp:tmps.getD p undef=x) (hq:tmps.getD q undef=y) (hr:tmps.getD r undef=z) (hs:tmps.getD s undef=u) :
  (results fn tmps).run prog w=.ok (.tuple #[x,y,z,u]) w:=by
 have hp':tmps[p]?.getD undef=x:=by simpa using hp
 have hq':tmps[q]?.getD undef=y:=by simpa using hq
 have hr':tmps[r]?.getD undef=z:=by simpa using hr
 have hs':tmps[s]?.getD undef=u:=by simpa using hs
 simp[results,h,hp',hq',hr',hs']
theorem results109:f109.results=#[.tmp 2,.tmp 3,.tmp 4,.tmp 5]:=by kernel_rfl
def qyu (w:World) (r:Option (Nat × Nat × List Int)) (ev:Ending) (w':World):Prop :=
 match r with
 | none=>ev=.returned (.tuple #[.int .i64 0,.int .i64 0,.slice none 0 0,.iface 42 (.int .i64 30)])/\∃ q,w'=w.drewN q
 | some (n,m,l)=>∃ a cap q,ev=.returned (.tuple #[.int .i64 n,.int .i64 m,.slice a l.length cap,.nilIface])/\w'=w.drewN q/\Sl w' a cap l/\n<34359738368/\m<34359738368
theorem XX (w:World) (a b:Nat):(w.drewN a).drewN b=w.drewN (a+b):=by simp[World.drewN,WzQ]
theorem Z1 (a:Option Addr) (cap:Nat) (bs:List Int) (w:World) (hz:IsB bs) (hl:bs.length<=400000) (h:Sl w a cap bs):Calls prog 109 #[.slice a bs.length cap] w (qyu w (szs bs)):=by
 have R1:=Q5 a cap bs w hz hl h;cases e1:sz bs with
 | none =>
  have HS:Hid (szs bs=none):=by show _=_;unfold szs;rw[e1]
  rw[HS.out];rw[e1] at R1;go_enter func109,ntmps109;go_wp2_with (go_at_call 127;refine R1.mono ?_;clear R1;rintro ev w1 ⟨rfl,q,rfl⟩)
  exact bodyPost_ret (U7 results109 _ _ _ _ _ _ rfl rfl rfl rfl) rfl ⟨rfl,q,rfl⟩
 | some nr =>
  obtain⟨n,r⟩:=nr;rw[e1] at R1;obtain⟨hrB,hrl⟩:=BV e1 hz;cases e2:sz r with
  | none =>
   have HS:Hid (szs bs=none):=(by show _=_;unfold szs;rw[e1];simp only;rw[e2]);rw[HS.out];go_enter func109,ntmps109;go_wp2_with (first | (go_at_call 127;refine R1.mono ?_;clear R1;rintro ev w1 ⟨a1,cap1,q,rfl,rfl,hS1,hn1⟩;have R2:=Q5 a1 cap1 r _ hrB (by omega) hS1;rw[e2] at R2) | (go_at_call 127;refine R2.mono ?_;clear R2;rintro ev w2 ⟨rfl,q2,rfl⟩))
   exact bodyPost_ret (U7 results109 _ _ _ _ _ _ rfl rfl rfl rfl) rfl ⟨rfl,q+q2,rfl⟩
  | some nr2 =>
   obtain⟨m,r2⟩:=nr2;have HS:Hid (szs bs=some (n,m,r2)):=(by show _=_;unfold szs;rw[e1];simp only;rw[e2]);rw[HS.out];go_enter func109,ntmps109
   go_wp2_with (first | (go_at_call 127;refine R1.mono ?_;clear R1;rintro ev w1 ⟨a1,cap1,q,rfl,rfl,hS1,hn1⟩;have R2:=Q5 a1 cap1 r _ hrB (by omega) hS1;rw[e2] at R2) | (go_at_call 127;refine R2.mono ?_;clear R2;rintro ev w2 ⟨a2,cap2,q2,rfl,rfl,hS2,hn2⟩;have HS2:Hid _:=hS2))
   exact bodyPost_ret (U7 results109 _ _ _ _ _ _ rfl rfl rfl rfl) rfl ⟨a2,cap2,q+q2,rfl,rfl,by rw[<-XX];exact HS2.out,hn1,hn2⟩
def plc (bs:List Int) (op:Nat):Nat->Nat->Nat->Nat->Option (Nat × Nat)
 | 0,_,u,n=>some (n,u)
 | c+1,k,u,n =>
  if op / 2 ^ k % 2=0 then plc bs op c (k+1) u n
  else if u=bs.length then none
  else plc bs op c (k+1) (u+1) (n+(bs.getD u 0).toNat*2 ^ (8*k))
theorem JJ (bs:List Int) (op:Nat):∀ (c k j u n:Nat) (s:Nat),u<=bs.length->k=j+s->(prt c op k j n (bs.drop u)=none->plc bs op c k u (n*2 ^ (8*s))=none)/\(∀ n' r,prt c op k j n (bs.drop u)=some (n',r)->∃ u',plc bs op c k u (n*2 ^ (8*s))=some (n'*2 ^ (8*s),u')/\r=bs.drop u'/\u<=u'/\u'<=bs.length)
  | 0,k,j,u,n,s,hu,hk=>⟨fun h=>by simp[prt] at h,fun n' r h=>by
      simp only[prt,Wq9.injEq,Prod.mk.injEq] at h
      exact⟨u,by rw[plc,h.1],h.2.symm,WzV _,hu⟩⟩
  | c+1,k,j,u,n,s,hu,hk=>by
    rw[prt,plc]
    by_cases hb:op / 2 ^ k % 2=0
    · rw[if_pos hb,if_pos hb]
      exact JJ bs op c (k+1) (j+1) u n s hu (by omega)
    · rw[if_neg hb,if_neg hb]
      by_cases he:u=bs.length
      · rw[if_pos he,if_pos (by rw[he];simp)]
        exact⟨fun _=>rfl,fun _ _ h=>by cases h⟩
      · rw[if_neg he,if_neg (by simp;omega)]
        have hlt:u<bs.length:=by omega
        have e1:(bs.drop u).getD 0 0=bs.getD u 0:=by simp[List.getD_eq_getElem?_getD]
        have e2:(bs.drop u).drop 1=bs.drop (u+1):=by rw[List.drop_drop]
        have e3:n*2 ^ (8*s)+(bs.getD u 0).toNat*2 ^ (8*k)=(n+(bs.getD u 0).toNat*2 ^ (8*j))*2 ^ (8*s):=by
          rw[Nat.add_mul,Nat.mul_assoc,<-Wq1,show 8*j+8*s=8*k by omega]
        rw[e1,e2,e3]
        have ih:=JJ bs op c (k+1) (j+1) (u+1) (n+(bs.getD u 0).toNat*2 ^ (8*j)) s (by omega) (by omega)
        refine⟨ih.1,fun n' r h=>?_⟩
        obtain⟨u',h1,h2,h3,h4⟩:=ih.2 n' r h
        exact⟨u',h1,h2,by omega,h4⟩
theorem RY (bs:List Int) (op:Nat):∀ (c d k u n:Nat),plc bs op (c+d) k u n=match plc bs op c k u n with
    | none=>none
    | some (n',u')=>plc bs op d (k+c) u' n'
  | 0,d,k,u,n=>by rw[Wq7,plc];rfl
  | c+1,d,k,u,n=>by
    rw[show c+1+d=(c+d)+1 by omega,plc,plc]
    split
    · rw[RY bs op c d (k+1) u n,show k+1+c=k+(c+1) by omega]
    · split
      · rfl
      · rw[RY bs op c d (k+1) (u+1) _,show k+1+c=k+(c+1) by omega]
theorem Wv (bs:List Int) (op:Nat):∀ (c k u n b:Nat),plc bs op c k u (b+n)=(plc bs op c k u n).map fun p=>(b+p.1,p.2)
 | 0,k,u,n,b=>rfl
 | c+1,k,u,n,b=>by
  rw[plc,plc];split
  ·exact Wv bs op c _ _ _ _
  split
  ·rfl
  rw[WzQ];exact Wv bs op c _ _ _ _
theorem L3:∀ (c op k j n:Nat) (b:List Int) (n':Nat) (r:List Int),IsB b->n<2 ^ (8*j)->prt c op k j n b=some (n',r)->n'<2 ^ (8*(j+c))
 | 0,op,k,j,n,b,n',r,hb,hn,h=>by simp[prt] at h;rw[<-h.1];exact hn
 | c+1,op,k,j,n,b,n',r,hb,hn,h=>by
  rw[prt] at h;have hp:2 ^ (8*(j+1))=256*2 ^ (8*j):=by rw[show 8*(j+1)=8+8*j by omega,Wq1]
  split at h
  ·have:=L3 c op (k+1) (j+1) n b n' r hb (by rw[hp];have:=Nat.two_pow_pos (8*j);omega) h;rwa [show j+1+c=j+(c+1) by omega] at this
  split at h
  ·cases h
  rename_i hne;have hx:0<=b.getD 0 0/\b.getD 0 0<=255:=by have:=hb.get 0;rwa [List.getD_eq_getElem?_getD]
  have hm:(b.getD 0 0).toNat*2 ^ (8*j)<=255*2 ^ (8*j):=Nat.mul_le_mul (by omega) (WzV _);have:=L3 c op (k+1) (j+1) _ (b.drop 1) n' r (Yv hb 1) (by rw[hp];omega) h;rwa [show j+1+c=j+(c+1) by omega] at this
theorem zk0 (bs:List Int) (op:Nat) (h1:1<=bs.length) (hb:IsB bs) :
  (prt 4 op 0 0 0 (bs.drop 1)=none->plc bs op 7 0 1 0=none)/\
  (∀ n r,prt 4 op 0 0 0 (bs.drop 1)=some (n,r)->(prt 3 op 4 0 0 r=none->plc bs op 7 0 1 0=none)/\
   ∀ c r2,prt 3 op 4 0 0 r=some (c,r2)->∃ u,plc bs op 7 0 1 0=some (n+c*4294967296,u)/\r2=bs.drop u/\1<=u/\u<=bs.length/\n<4294967296/\c<16777216):=by
 have p1:=JJ bs op 4 0 0 1 0 0 h1 rfl;have pa:=RY bs op 4 3 0 1 0;simp only[Wx3,Nat.mul_zero,Nat.pow_zero,Nat.mul_one,Wq7] at p1 pa;refine⟨fun h=>by rw[pa,p1.1 h],fun n r h=>?_⟩;obtain⟨u1,q1,q2,q3,q4⟩:=p1.2 n r h;rw[pa,q1];simp only;have p2:=JJ bs op 3 4 0 u1 0 4 q4 rfl;have pb:=Wv bs op 3 4 u1 0 n
 simp only[Wx3,Nat.add_zero] at p2 pb;rw[pb];refine⟨fun h2=>?_,fun c r2 h2=>?_⟩
 ·rw[q2] at h2;rw[p2.1 h2];rfl
 rw[q2] at h2;obtain⟨u2,s1,s2,s3,s4⟩:=p2.2 c r2 h2;rw[s1];have n1:=L3 4 op 0 0 0 _ n r (Yv hb 1) (by simp) h;have n2:=L3 3 op 4 0 0 _ c r2 (Yv hb u1) (by simp) h2;exact⟨u2,rfl,s2,by omega,s4,n1,n2⟩
end Go.Proofs.YtiaaekdpfpaigaaGreatDoor.Dl
