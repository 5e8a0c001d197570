import Derived.Test.YtdnphaganajejaaGreatDoorMz03
set_option linter.unusedSimpArgs false
set_option linter.unusedVariables false
set_option maxRecDepth 20000
set_option maxHeartbeats 4000000
open List renaming filter_congr->Wqy,filter_eq_nil_iff->Wqu,filter_filter->WqZ,map_eq_nil_iff->WqQ,mem_append->Wqx,mem_filter->WqX,mem_map->Wz6,mem_singleton->Wqk
open Nat renaming le_refl->Wz8,zero_le->Wqw
open Option renaming some->Wq8
namespace Go.Proofs.YtdnphaganajejaaGreatDoor.K
open Go.Proofs.Tryz
open Go.RowKit
theorem Dm0.nd_lt {S:Nat->Prop} {N D:Nat} {w:World} {q:Bool} {a:Ds} {G:Dg} (h:Dm0 S N w D q a G) {B:Nat} {c:List Int × Nat} (hB:a.nd B=some c):B<w.heap.size:=by
 obtain⟨zs,s⟩:=c;exact z7 (h.nds B zs s hB).1.box
theorem Dm0.dom_now {S:Nat->Prop} {N D:Nat} {w:World} {q:Bool} {a:Ds} {G:Dg} (h:Dm0 S N w D q a G) {x:Str} {B:Nat} (hx:a.now x=some B):∃ c,a.nd B=some c:=h.wf.dom a.mvs.length x B (by rw[h.wf.full];exact hx)
theorem Dm0.inj_now {S:Nat->Prop} {N D:Nat} {w:World} {q:Bool} {a:Ds} {G:Dg} (h:Dm0 S N w D q a G) {x y:Str} {B:Nat} (hx:a.now x=some B) (hy:a.now y=some B):x=y:=h.wf.inj a.mvs.length x y B (by rw[h.wf.full];exact hx) (by rw[h.wf.full];exact hy)
theorem Dm0.two_now {S:Nat->Prop} {N D:Nat} {w:World} {q:Bool} {a:Ds} {G:Dg} (h:Dm0 S N w D q a G) {x:Str} (hx:a.now x ≠ none):x=pr ∨ x=nw:=h.two a.mvs.length x (by rw[h.wf.full];exact hx)
theorem Dm0.new {S:Nat->Prop} {N D:Nat} {w W:World} {q:Bool} {a:Ds} {G:Dg} (h:Dm0 S N w D q a G) (hb:Below w.heap.size w W) (hB:W.heap[w.heap.size]? = some (.cells #[.slice none 0 0,.int .i64 0] 84 (0,0))):a.nd w.heap.size=none/\Dm0 (Sx S w W) N W D q (a.put w.heap.size ([],0)) { G with vs:=fun i=>if i=w.heap.size then .slice none 0 0 else G.vs i }:=by
 have Q:a.nd w.heap.size=none:=by
  cases e:a.nd w.heap.size with
  | none=>rfl
  | some c=>have:=h.nd_lt e;omega
 have A:=h.below hb;refine⟨Q,A.box,A.now,A.safe,A.ne,fun C M L j=>?_,fun C E c e j O K=>?_,A.mv.mono (fun i hi=>.inl hi),A.ml,A.few,⟨.inl A.own.1,.inl A.own.2.1,.inl A.own.2.2⟩,Ra.wf_put a h.wf _ _ (Wz8 _),h.two,fun C M L j=>?_,h.rmb⟩
 ·by_cases e:C=w.heap.size
  ·subst e;simp only[Ra.As.put,if_true] at j;cases Wq8.inj j
   simp only[if_true];exact⟨⟨hB,World.ownsRow_nil _ _ _ _⟩,.inr ⟨Wz8 _,z7 hB⟩,fun k J=>by cases J⟩
  simp only[Ra.As.put,e,if_false] at j;simp only[e,if_false];obtain⟨n1,n2,n3⟩:=A.nds C M L j;exact⟨n1,.inl n2,fun k J=>.inl (n3 k J)⟩
 ·by_cases e1:C=w.heap.size
  ·simp only[e1,if_true];exact .inl rfl
  simp only[Ra.As.put,e1,if_false] at j;by_cases I:E=w.heap.size
  ·simp only[e1,I,if_true,if_false];cases V:(G.vs C).ownBlock with
   | none=>exact .inl rfl
   | some b=>exact .inr (by simp[Value.ownBlock])
  simp only[Ra.As.put,I,if_false] at O;simp only[e1,I,if_false];exact h.sep C E c e j O K
 by_cases e:C=w.heap.size
 ·subst e;simp only[Ra.As.put,if_true] at j;cases Wq8.inj j
  exact h.rmb.1
 simp only[Ra.As.put,e,if_false] at j;exact h.ln C M L j
theorem Bad.to {q:Bool} {w w1 w2:World} {v:Value} {ks j:Int->Prop} (h:Bad q w1 w2 v ks) (hs:w.heap.size<=w1.heap.size) (I:∀ k,ks k->j k):Bad q w w2 v j:=by
 obtain⟨b,k,A,J,D,G⟩:=h;exact⟨b,k,A,by omega,D,G.imp id (I k)⟩
theorem results162:f162.results=#[.tmp 4]:=by kernel_rfl
theorem results102:f102.results=#[.tmp 4]:=by kernel_rfl
theorem results101:f101.results=#[.tmp 6]:=by kernel_rfl
def Nam (S:Nat->Prop) (N D:Nat) (q:Bool) (a:Ds) (w w':World) (v:Value) (ks:Int->Prop) (ok:Ds->Prop):Prop := ∃ a',((a'=a/\Bad q w w' v ks) ∨ (v=.nilIface/\ok a'))/\Dm (Sx S w w') (N+2) w' D q a'/\Al S w w'
theorem Nam.bad {S:Nat->Prop} {N D:Nat} {q:Bool} {a:Ds} {G:Dg} {w w':World} {b:Nat} {k:Int} {ks:Int->Prop} {ok:Ds->Prop} (h:Dm0 S N w' D q a G) (j:Al S w w') (hb:w.heap.size<=b) (A:Er b k w') (I:(k=1/\q=false) ∨ ks k):Nam S N D q a w w' (eV b) ks ok:=⟨a,.inl ⟨rfl,b,k,rfl,hb,A,I⟩,⟨G,h.mono (fun i hi=>.inl hi) (by omega)⟩,j⟩
theorem C0 (S:Nat->Prop) (N D:Nat) (q:Bool) (a:Ds) (x:Str) (w:World) (h:Dm S N w D q a) (hx:x=pr ∨ x=nw) (hN:N<=90000) :
  Calls prog 162 #[.pointer (some ⟨D,0,none⟩),sV x] w fun e w'=>∃ v,e=.returned v/\Nam S N D q a w w' v (fun k=>k=3/\a.now x ≠ none) (fun M=>a.now x=none/\∃ B,a.nd B=none/\M=(a.put B ([],0)).step [(x,some B)]):=by
 obtain⟨G,h⟩:=h;have a6:x.length<=4000:=by rcases hx with rfl | rfl <;> decide
 have hf:=VJ S N D q a G w h;have L:Hid (∀ w1,Dm0 S N w1 D q a G->(Instr.lookup 60 (.map (some G.g)) (sV x) false).run prog w1=.ok ((pt a.now x).getD (.pointer none)) w1/\w1.cell? ⟨D,0,none⟩=some (.map (some G.g))):=fun w1 I=>⟨I.now.look1 Zj (T6 w1) a6,I.c0.1⟩
 have j:Hid (∀ (w1:World) (k:Int),Dm0 S N w1 D q a G->Al S w w1->((k=1/\q=false) ∨ (k=3/\a.now x ≠ none))->Nam S N D q a w (w1.alloc (.cells #[sV x,.int .i64 k] 177)) (eV w1.heap.size) (fun k=>k=3/\a.now x ≠ none) (fun M=>a.now x=none/\∃ B,a.nd B=none/\M=(a.put B ([],0)).step [(x,some B)])):=fun w1 k I Q hk=>Nam.bad (I.below (qK _ _)) (Q.trans (Al.below (S:=S) (qK _ _)) (fun i hi=>.inl hi)) Q.size (Tq _ _ _) hk
 have A:Hid (∀ w1,Dm0 S N w1 D q a G->Al S w w1->a.now x=none->∀ o1 o2,o1=Obj.cells #[Value.slice none 0 0,.int .i64 0] 84->o2=Obj.cells #[sV x,.pointer (some ⟨w1.heap.size,0,none⟩)] 154->Calls prog 124 #[.pointer (some ⟨D,0,none⟩),.slice (some ⟨w1.heap.size+1,0,none⟩) 1 1] ((w1.alloc o1).alloc o2) fun e w'=>e=.returned (.tuple #[])/\Nam S N D q a w w' .nilIface (fun k=>k=3/\a.now x ≠ none) (fun M=>a.now x=none/\∃ B,a.nd B=none/\M=(a.put B ([],0)).step [(x,some B)])):=by
  rintro w1 I Q h3 o1 o2 ac ad;have ae:(w1.alloc o1).heap.size=w1.heap.size+1:=by simp
  have hb:Below w1.heap.size w1 ((w1.alloc o1).alloc o2):=(qK w1 o1).trans ((qK _ o2).mono (by omega));have a7:((w1.alloc o1).alloc o2).heap[w1.heap.size]? = some (.cells #[.slice none 0 0,.int .i64 0] 84 (0,0)):=(Below.heap_alloc _ _ _ (by omega)).trans (by rw[heap_alloc_new,ac])
  have a8:((w1.alloc o1).alloc o2).heap[w1.heap.size+1]? = some o2:=by have:=heap_alloc_new (w1.alloc o1) o2;rwa [ae] at this
  obtain⟨k1,k2⟩:=I.new hb a7;have ag:Jq (a.put w1.heap.size ([],0)) [(x,some w1.heap.size)]:=by
   have hv:∀ y,Ra.nmL (a.put w1.heap.size ([],0)).now [(x,some w1.heap.size)] y=if y=x then some w1.heap.size else a.now y:=fun y=>rfl;refine⟨fun y B hy=>?_,fun y z B hy J=>?_,fun y hy=>?_⟩
   ·rw[hv] at hy;by_cases e:y=x
    ·rw[if_pos e] at hy;cases hy
     exact⟨([],0),by simp[Ra.As.put]⟩
    rw[if_neg e] at hy;obtain⟨c,hc⟩:=I.dom_now hy;have:=I.nd_lt hc;exact⟨c,by simp only[Ra.As.put];rw[if_neg (by omega)];exact hc⟩
   ·rw[hv] at hy J;have Z:∀ u,a.now u ≠ some w1.heap.size:=fun u hu=>by
     obtain⟨c,hc⟩:=I.dom_now hu;rw[k1] at hc;cases hc
    by_cases e:y=x
    ·by_cases O:z=x
     ·rw[e,O]
     rw[if_pos e] at hy;cases hy
     rw[if_neg O] at J;exact absurd J (Z z)
    rw[if_neg e] at hy;by_cases O:z=x
    ·rw[if_pos O] at J;cases J
     exact absurd hy (Z y)
    rw[if_neg O] at J;exact I.inj_now hy J
   rw[hv] at hy;by_cases e:y=x
   ·rw[e];exact hx
   rw[if_neg e] at hy;exact I.two_now hy
  refine(Jx S N D q a _ _ (w1.heap.size+1) 1 [(x,some w1.heap.size)] w1 _ hb k2 (by omega) (by rw[a8,ad];rfl) (by simp) (by simp) (by simpa using a6) ag hN).mono ?_;rintro e w' ⟨rfl,j1,j2⟩;have J:=Q.size
  exact⟨rfl,_,.inr ⟨rfl,h3,w1.heap.size,k1,rfl⟩,j1.mono (fun i hi=>by rcases hi with hi | hi;exact .inl hi;exact .inr ⟨by omega,hi.2⟩) (Wz8 _),Q.trans j2 (fun i hi=>.inl hi)⟩
 clear h;unfold sV at L j A ⊢;go_enter func162,ntmps162;go_wp2_with (go_at_call 82;refine hf.mono ?_;rintro e w1 ⟨b,rfl,z1,z2,z3,z4⟩;clear z4;obtain⟨Y,ah⟩:=L.out w1 z2;have Z1:=hid z1;have Z2:=hid z2;have Z3:=hid z3;clear z1 z2 z3 hf;refine Hid.out ?_)
 refine hid ?_;cases b with
 | true =>
  have HX:=hid (j.out w1 1 Z2.out Z3.out (.inl ⟨rfl,Z1.out (by simp)⟩));clear j A L;go_wp2;exact bodyPost_ret (results_tmp results162 _ _ _) rfl ⟨_,rfl,HX.out⟩
 | false =>
  cases hn:a.now x with
  | some B =>
   rw[show pt a.now x=some (.pointer (some ⟨B,0,none⟩)) by simp[pt,hn],Option.getD_some] at Y;have HX:=hid (j.out w1 3 Z2.out Z3.out (.inr ⟨rfl,by rw[hn];simp⟩));clear j A L;go_wp2;exact bodyPost_ret (results_tmp results162 _ _ _) rfl ⟨_,rfl,HX.out⟩
  | none =>
   rw[show pt a.now x=none by simp[pt,hn],Option.getD_none] at Y;have V:=A.out w1 Z2.out Z3.out hn _ _ rfl rfl;clear j A L;go_wp2_with (go_at_call 124;refine V.mono ?_;rintro e w' ⟨rfl,k⟩;have K:=hid k;clear k V)
   exact bodyPost_ret (results_tmp results162 _ _ _) rfl ⟨_,rfl,K.out⟩
theorem results40:f40.results=#[.tmp 2]:=by kernel_rfl
theorem LX {g:Option Nat} {a b c:World} (h:a.grownBy b g) (j:b.grownBy c g):a.grownBy c g:=⟨j.os.trans h.os,j.tape.trans h.tape,j.output.trans h.output,Nat.le_trans h.size j.size,fun k A D=>(j.block k (Nat.lt_of_lt_of_le A h.size) D).trans (h.block k A D)⟩
theorem LJ (f:Nm) (ms:List (List Mo)) (i:Nat) (h:i<ms.length):Ra.nmS f (ms.take (i+1))=Ra.nmL (Ra.nmS f (ms.take i)) (ms.getD i []):=by
 rw[qk [] ms i h];unfold Ra.nmS;rw[List.foldl_append];rfl
theorem Dm0.few_le {S:Nat->Prop} {N D:Nat} {w:World} {q:Bool} {a:Ds} {G:Dg} (h:Dm0 S N w D q a G):G.ns+2*G.ls.length<=N:=h.few.2
def qvj (S:Nat->Prop) (N D:Nat) (q:Bool) (a:Ds) (w:World) (e:Ending) (w':World):Prop := ∃ v a',e=.returned v/\((a'=a/\Bad q w w' v (fun _=>False)) ∨ (v=.nilIface/\a'=a.sd))/\Dm S N w' D q a'/\Al S w w'
theorem LK (S:Nat->Prop) (N D:Nat) (q:Bool) (a:Ds) (w:World) (h:Dm S N w D q a) (hN:N<=90000) :
  Calls prog 40 #[.pointer (some ⟨D,0,none⟩)] w (qvj S N D q a w):=by
 obtain⟨G,h⟩:=h;have hf:=VJ S N D q a G w h
 have a7:Hid (∀ (w1:World),Dm0 S N w1 D q a G->Al S w w1->q=false->Dm S N (w1.alloc (.cells #[.string ⟨#[]⟩,.int .i64 1] 177)) D q a/\Al S w (w1.alloc (.cells #[.string ⟨#[]⟩,.int .i64 1] 177))/\Bad q w (w1.alloc (.cells #[.string ⟨#[]⟩,.int .i64 1] 177)) (eV w1.heap.size) (fun _=>False)):=fun w1 h1 h2 hk=>⟨⟨G,h1.below (qK _ _)⟩,h2.trans (Al.below (S:=S) (qK _ _)) (fun i hi=>.inl hi),_,1,rfl,h2.size,Tq _ _ _,.inl ⟨rfl,hk⟩⟩
 clear h;go_enter func40,ntmps40;go_wp2_with (go_at_call 82;refine hf.mono ?_;rintro e w1 ⟨b,rfl,z1,z2,z3,z4⟩;clear z4;have Z1:=hid z1;have Z2:=hid z2;have Z3:=hid z3;clear z1 z2 z3 hf;refine Hid.out ?_)
 refine hid ?_;cases b with
 | true =>
  have HX:=hid (a7.out w1 Z2.out Z3.out (Z1.out (by simp)));clear a7;go_wp2;exact bodyPost_ret (results_tmp results40 _ _ _) rfl ⟨_,a,rfl,.inl ⟨rfl,HX.out.2.2⟩,HX.out.1,HX.out.2.1⟩
 | false =>
  clear a7 Z1;have h:=Z2.out;obtain⟨_,h1,h2,_,aC⟩:=h.c0;obtain⟨es,ck,O⟩:=h.safe.box;obtain⟨wt,bd,V,Z⟩:=h.box;have av:=hid Z;have hB:Bx e1 1 79 w1 w1 0 G.mv G.ls:=⟨Below.refl _ _,h.mv.row,Wqw _⟩;obtain⟨va,c,Q,hP,_⟩:=hB.px (d:=(none,0,[])) (fun _ _=>rfl);obtain⟨L,HL⟩:=nm_ G.ls.length;obtain⟨ls,M⟩:∃ ls,Hid (G.ls=ls):=⟨_,rfl⟩;obtain⟨gs,I⟩:=nm_ G.gs
  obtain⟨ns,ac⟩:=nm_ G.ns;rw[HL.out] at Q;have aE:=hid Q;rw[Q] at h2 V;rw[I.out] at h1 O V;have ad:ls.length=L:=by rw[<-M.out];exact HL.out
  have a8:=hid ad;have aF:ns+2*L<=90000:=by have:=h.few_le;rw[HL.out,ac.out] at this;omega
  have aw:Hid (∀ i,i<L->(a.mvs.getD i [])=(ls.getD i (none,0,[])).2.2):=fun i hi=>by
   rw[<-h.ml,M.out];simp[List.getD_eq_getElem?_getD,List.getElem?_map,List.getElem?_eq_getElem (show i<ls.length by omega)]
  have ag:Hid (a.mvs.length=L):=hid (by rw[<-h.ml,M.out,List.length_map,ad]);have ax:Hid (0<L->∃ b off,va=some ⟨b,off,none⟩):=fun h0=>by
   obtain⟨b,off,e1,_⟩:=hP.at_ (by rw[HL.out];exact h0);exact⟨b,off,e1⟩
  have HP:Hid (∀ W,w1.grownBy W (some gs)->Px e1 1 (none,0,[]) W va c ls):=fun W hW=>by
   have a6:=h.mv.row;rw[Q,M.out] at a6;have hB:Bx e1 1 79 W W 0 (.slice va L c) ls:=⟨Below.refl _ _,vw a6 O hW,Wqw _⟩;obtain⟨a',c',e,h,_⟩:=hB.px (d:=(none,0,[])) (fun _ _=>rfl);cases e
   exact h
  have HC:Hid (∀ W,w1.grownBy W (some gs)->W.heap[D]? = some (dB G.g gs (.slice va L c) G.rm wt bd)):=fun W hW=>Tf.grown O hW V;have HM:Hid (∀ W,w1.grownBy W (some gs)->∀ p ∈ ls,LZ S W p):=fun W hW p hp=>(h.mv.at_ p (by rw[M.out];exact hp)).to (fun _ h=>h) hW.size fun i cs f hi=>Tf.grown O hW hi
  have ay:Hid (TM (.pointer none) w1 gs ns (pt a.saf)):=hid (by have:=h.safe;rw[I.out,ac.out] at this;exact this);clear hB hP h Z V Q ad aC;go_wp2_with fail
  go_loopg [15] L (fun q iv wr=>∃ (i k:Nat),iv=.int .i64 i/\q=L-i/\i<=L/\k<=ns+2*i/\Hid (TM (.pointer none) wr gs k (pt (Ra.nmS a.saf (a.mvs.take i))))/\Hid (w1.grownBy wr (some gs)));case atStart=>exact⟨0,ns,rfl,rfl,Wqw _,Wz8 _,ay,hid ⟨rfl,rfl,rfl,Wz8 _,fun _ _ _=>rfl⟩⟩
  obtain⟨i,k,rfl,hq,aJ,hk,HT,HW⟩:=hrel;have J:=HC.out _ HW.out;unfold dB at J;have aG:wr.cell? ⟨D,1,none⟩=some (.map (some gs)):=by simp[World.cell?,J]
  have aH:wr.frozen? ⟨D,2,none⟩=false:=by simp[World.frozen?,J]
  have aI:wr.cell? ⟨D,2,none⟩=some (.slice va L c):=by simp[World.cell?,J]
  by_cases Y:i<L
  ·have ap:(i:Int)<(L:Int):=(by omega);obtain⟨b,off,aB⟩:=ax.out (by omega);subst aB;obtain⟨p,hp⟩:∃ p,ls.getD i (none,0,[])=p:=⟨_,rfl⟩;have ar:p ∈ ls:=(by rw[<-hp];exact zQ ls i _ (by rw[a8.out];exact Y));obtain⟨_,_,e1,_,e3⟩:=(HP.out wr HW.out).at_ (by rw[a8.out];omega);cases e1
   have e4:=e3 i (by rw[a8.out];exact Y);rw[hp] at e4;have ae:=aw.out i Y;rw[hp] at ae;obtain⟨pa,pc,pl⟩:=p;have hm:=HM.out wr HW.out _ ar;have aj:=e4 0 _ rfl;simp only[Nat.mul_one,Nat.add_zero] at aj;have A:=Tz gs k pa pc pl _ wr HT.out hm.px (by have:=hm.few;simp only at this;omega) hm.nm;have ak:pl.length<=2:=hm.few;rw[DW] at A
   have au:Ra.nmL (Ra.nmS a.saf (a.mvs.take i)) pl=Ra.nmS a.saf (a.mvs.take (i+1)):=(by rw[LJ _ _ _ (by rw[ag.out];exact Y),ae]);rw[au] at A;obtain⟨n2,aD⟩:∃ n,pl.length=n:=⟨_,rfl⟩;rw[aD] at A aj ak;clear hm e3 e4 hp ar ae au
   go_wp2_with (go_at_call 27;refine A.mono ?_;rintro e w2 ⟨rfl,ai,ao⟩;have az:=hid ai;have aA:Hid (w1.grownBy w2 (some gs)):=hid (LX HW.out ao);clear ai ao)
   go_roundg (L-(i+1));case measure=>omega
   case rel=>exact⟨i+1,k+n2,by go_num,rfl,by omega,by omega,az,aA⟩
  have ap:¬ (i:Int)<(L:Int):=by omega
  obtain rfl:i=L:=by omega
  go_wp2;refine bodyPost_ret (results_tmp results40 _ _ _) rfl ⟨_,_,rfl,.inr ⟨rfl,rfl⟩,?_,(Z3.out.trans (Al.of_grown HW.out (fun q hq=>by cases hq;rw[<-I.out];exact Z2.out.own.2.2)) (fun i h=>.inl h)).trans (Al.of_set (S:=S) Z2.out.own.1 _) (fun i h=>.inl h)⟩;have t2:Tf 63 wr (wr.setCell ⟨D,2,none⟩ (.slice none 0 0)):=Tf.set (p:=⟨D,2,none⟩) J _;have K:=Z2.out
  have am:Ra.nmS a.saf (a.mvs.take i)=a.now:=by have:=K.wf.full;rw[ag.out] at this;exact this
  have ah:=HT.out;rw[am] at ah;refine⟨{ G with mv:=.slice none 0 0,ns:=k,ls:=[] },⟨wt,bd,?_,av.out⟩,?_,?_,K.ne,?_,K.sep,⟨World.ownsRow_nil _ _ _ _,fun p hp=>by simp at hp,fun q hq=>by cases hq⟩,rfl,?_,K.own,Ra.wf_sd a K.wf,?_,K.ln,K.rmb⟩
  ·rw[zV J,I.out];rfl
  ·exact(K.now.sm (HW.out.block _ K.now.lt (fun e=>K.ne (by rw[I.out];exact Wq8.inj e)))).tf t2
  ·show TM (.pointer none) _ G.gs k _;rw[I.out];exact ah.tf t2
  ·intro B zs s hB;obtain⟨m1,m2,m3⟩:=K.nds B zs s hB;exact⟨(m1.gr O HW.out).tf t2 (by decide) (by decide),m2,m3⟩
  ·have:=K.few;rw[HL.out,ac.out] at this;exact⟨this.1,by simp only[List.length_nil];omega⟩
  intro j x hx;rw[Ra.at_sd] at hx;exact K.two_now hx
end Go.Proofs.YtdnphaganajejaaGreatDoor.K
namespace Go.Proofs.YtdnphaganajejaaGreatDoor.Rk
open Go.Proofs.Tryz
variable {α κ ε : Type} [DecidableEq α]
structure Dc (α κ ε:Type) where
 refs:List (α × κ)
 logs:List (α × ε)
abbrev Tb (α κ ε:Type):=α->Option (κ × List ε)
def fd:List (α × κ)->α->Option κ
 | [],_=>none
 | x :: l,a=>if x.1=a then some x.2 else fd l a
def lg (l:List (α × ε)) (a:α):List ε:=(l.filter fun e=>decide (e.1=a)).map (·.2)
structure R (d:Dc α κ ε) (m:Tb α κ ε):Prop where
 some_:∀ a k,fd d.refs a=some k->m a=some (k,lg d.logs a)
 none_:∀ a,fd d.refs a=none->m a=none
 own:∀ e ∈ d.logs,fd d.refs e.1 ≠ none
theorem Cz (a:α):lg ([] : List (α × ε)) a=[]:=rfl
theorem VK (l m:List (α × ε)) (a:α):lg (l++m) a=lg l a++lg m a:=by
 simp[lg]
theorem lg_cons (e:α × ε) (l:List (α × ε)) (a:α):lg (e :: l) a=if e.1=a then e.2 :: lg l a else lg l a:=by
 by_cases h:e.1=a <;> simp[lg,h]
theorem R.lg_none {d:Dc α κ ε} {m:Tb α κ ε} (h:R d m) (a:α) (A:fd d.refs a=none):lg d.logs a=[]:=by
 simp only[lg,WqQ,Wqu,decide_eq_true_eq];intro e D j;exact h.own e D (by rw[j];exact A)
theorem R.at {d:Dc α κ ε} {m:Tb α κ ε} (h:R d m) (a:α):m a=(fd d.refs a).map fun k=>(k,lg d.logs a):=by
 cases e:fd d.refs a with
 | none=>simp[h.none_ a e]
 | some k=>simp[h.some_ a k e]
def putT (m:Tb α κ ε) (a:α) (k:κ):Tb α κ ε:=fun b=>if b=a then some (k,((m a).map (·.2)).getD []) else m b
def delT (m:Tb α κ ε) (a:α):Tb α κ ε:=fun b=>if b=a then none else m b
def logT (m:Tb α κ ε) (a:α) (e:ε):Tb α κ ε:=fun b=>if b=a then (m a).map (fun x=>(x.1,x.2++[e])) else m b
theorem R.put {d:Dc α κ ε} {m:Tb α κ ε} (h:R d m) (a:α) (k:κ) (D:List (α × κ))
  (G:∀ b,fd D b=if b=a then some k else fd d.refs b):R ⟨D,d.logs⟩ (putT m a k):=by
 have I:((m a).map (·.2)).getD []=lg d.logs a:=by
  rw[h.at a];cases e:fd d.refs a with
  | none=>simp[h.lg_none a e]
  | some q=>simp
 refine⟨fun b q hb=>?_,fun b hb=>?_,fun e J=>?_⟩
 ·rw[show fd D b=_ from G b] at hb;by_cases j:b=a
  ·subst j;simp only[if_true,Wq8.injEq] at hb;subst hb;simp[putT,I]
  simp only[j,if_false] at hb;simp[putT,j,h.some_ b q hb]
 ·rw[show fd D b=_ from G b] at hb;by_cases j:b=a
  ·simp[j] at hb
  simp only[j,if_false] at hb;simp[putT,j,h.none_ b hb]
 show fd D e.1 ≠ none;rw[G];by_cases A:e.1=a
 ·simp[A]
 simp only[A,if_false];exact h.own e J
theorem R.del {d:Dc α κ ε} {m:Tb α κ ε} (h:R d m) (a:α) (D:List (α × κ))
  (I:∀ b,fd D b=if b=a then none else fd d.refs b):R ⟨D,d.logs.filter fun e=>decide (e.1 ≠ a)⟩ (delT m a):=by
 have J:∀ b,b ≠ a->lg (d.logs.filter fun e=>decide (e.1 ≠ a)) b=lg d.logs b:=by
  intro b hb;simp only[lg,WqZ];congr 1;apply Wqy;intro e _;by_cases A:e.1=b
  ·simp[A,hb]
  simp[A]
 refine⟨fun b q hb=>?_,fun b hb=>?_,fun e G=>?_⟩
 ·rw[show fd D b=_ from I b] at hb;by_cases j:b=a
  ·simp[j] at hb
  simp only[j,if_false] at hb;simp only[delT,j,if_false];rw[J b j];exact h.some_ b q hb
 ·rw[show fd D b=_ from I b] at hb;by_cases j:b=a
  ·simp[delT,j]
  simp only[j,if_false] at hb;simp[delT,j,h.none_ b hb]
 simp only[WqX,decide_eq_true_eq] at G;show fd D e.1 ≠ none;rw[I];simp only[G.2,if_false];exact h.own e G.1
theorem R.log {d:Dc α κ ε} {m:Tb α κ ε} (h:R d m) (a:α) (e:ε) (G:fd d.refs a ≠ none):R ⟨d.refs,d.logs++[(a,e)]⟩ (logT m a e):=by
 refine⟨fun b q hb=>?_,fun b hb=>?_,fun x hx=>?_⟩
 ·show logT m a e b=some (q,lg (d.logs++[(a,e)]) b);rw[VK];by_cases j:b=a
  ·subst j;simp[logT,h.some_ b q hb,lg_cons,Cz]
  have A:¬ a=b:=fun D=>j D.symm;simp[logT,j,h.some_ b q hb,lg_cons,Cz,A]
 ·have j:¬ b=a:=by
   intro D;subst D;exact G hb
  simp[logT,j,h.none_ b hb]
 show fd d.refs x.1 ≠ none;rcases Wqx.mp hx with hx | hx
 ·exact h.own x hx
 simp only[Wqk] at hx;subst hx;exact G
theorem R.perm {d:Dc α κ ε} {m:Tb α κ ε} (h:R d m) (l:List (α × ε)) (j:∀ a,lg l a=lg d.logs a)
  (A:∀ e ∈ l,fd d.refs e.1 ≠ none):R ⟨d.refs,l⟩ m:=by
 refine⟨fun b q hb=>?_,fun b hb=>h.none_ b hb,A⟩;show m b=some (q,lg l b);rw[j b];exact h.some_ b q hb
end Go.Proofs.YtdnphaganajejaaGreatDoor.Rk
namespace Go.Proofs.YtdnphaganajejaaGreatDoor.Rk
open Go.Proofs.Tryz
variable {α κ ε : Type} [DecidableEq α]
def setL (ge:α->α->Bool) (a:α) (n:Option κ):List (α × κ)->Bool->List (α × κ)
 | [],done=>if done then [] else n.toList.map fun k=>(a,k)
 | r :: l,done =>
  (if !done && ge r.1 a then n.toList.map fun k=>(a,k) else [])++((if r.1=a then [] else [r])++setL ge a n l (done || ge r.1 a))
theorem zqK (l m:List (α × κ)) (b:α):fd (l++m) b=(fd l b).or (fd m b):=by
 induction l with
 | nil=>simp[fd]
 | cons x l j =>
  by_cases h:x.1=b <;> simp[fd,h,j]
theorem Cq (a:α) (n:Option κ) (b:α):fd (n.toList.map fun k=>(a,k)) b=if b=a then n else none:=by
 cases n with
 | none=>simp[fd]
 | some k =>
  by_cases h:a=b
  ·subst h;simp[fd]
  have j:¬ b=a:=fun A=>h A.symm;simp[fd,h,j]
theorem fd_setL (ge:α->α->Bool) (a:α) (n:Option κ) (l:List (α × κ)):∀ (done:Bool) (b:α),
  fd (setL ge a n l done) b=if b=a then (if done then none else n) else fd l b:=by
 induction l with
 | nil =>
  intro done b;cases done with
  | true=>simp[setL,fd]
  | false =>
   simp only[setL,Bool.false_eq_true,if_false];rw[Cq];by_cases h:b=a <;> simp[h,fd]
 | cons r l I =>
  intro done b;simp only[setL];rw[zqK,zqK,I];by_cases hb:b=a
  ·subst hb;have G:fd (if r.1=b then [] else [r]) b=none:=by
    by_cases h:r.1=b <;> simp[h,fd]
   rw[G];cases done with
   | true=>simp[fd]
   | false =>
    cases J:ge r.1 b with
    | true =>
     simp only[Bool.not_false,Bool.true_and,if_true,Bool.or_true];rw[Cq];cases n <;> simp
    | false=>simp[fd]
  have D:fd (if (!done && ge r.1 a)=true then n.toList.map fun k=>(a,k) else []) b=none:=by
   split
   ·rw[Cq];simp[hb]
   rfl
  rw[D];by_cases hr:r.1=a
  ·have j:¬ r.1=b:=(by rw[hr];exact fun A=>hb A.symm);simp[hr,hb,fd];intro A;exact absurd A.symm hb
  by_cases j:r.1=b
  ·simp[hb,fd,j]
  simp[hr,hb,fd,j]
structure Ch (α κ ε:Type) where
 pre:List α
 last:α
 new:Option κ
 e:ε
def stp (m:Tb α κ ε) (c:Ch α κ ε):Tb α κ ε :=
 match c.new with
 | some k=>(c.pre++[c.last]).foldl (fun m a=>logT m a c.e) (putT m c.last k)
 | none=>c.pre.foldl (fun m a=>logT m a c.e) (delT m c.last)
def ents (c:Ch α κ ε):List (α × ε):=(c.pre++[c.last]).map fun a=>(a,c.e)
def prn (r:List (α × κ)) (l:List (α × ε)):List (α × ε):=l.filter fun e=>(fd r e.1).isSome
theorem Tx (r:List (α × κ)) (l:List (α × ε)) (a:α):lg (prn r l) a=if (fd r a).isSome then lg l a else []:=by
 induction l with
 | nil=>cases h:(fd r a).isSome <;> simp[prn,lg]
 | cons x l A =>
  have hx:prn r (x :: l)=if (fd r x.1).isSome then x :: prn r l else prn r l:=by
   simp[prn,List.filter_cons]
  rw[hx];by_cases j:x.1=a
  ·subst j;cases h:(fd r x.1).isSome with
   | true=>simp[lg_cons,A,h]
   | false=>simp[A,h]
  cases h:(fd r x.1).isSome with
  | true=>simp[lg_cons,A,j]
  | false=>simp[A,lg_cons,j]
theorem EZ (r:List (α × κ)) (l:List (α × ε)):∀ e ∈ prn r l,fd r e.1 ≠ none:=by
 intro e j h;simp[prn,h] at j
theorem R.logs {r:List (α × κ)} (e:ε):∀ (ns:List α) (l:List (α × ε)) (m:Tb α κ ε),R ⟨r,l⟩ m->(∀ a ∈ ns,fd r a ≠ none) →
  R ⟨r,l++ns.map fun a=>(a,e)⟩ (ns.foldl (fun m a=>logT m a e) m):=by
 intro ns;induction ns with
 | nil=>intro l m h _;simpa using h
 | cons a ns G =>
  intro l m h j;have A:=h.log a e (j a (by simp));have D:=G (l++[(a,e)]) (logT m a e) A (fun b hb=>j b (by simp[hb]));simpa using D
theorem R.stp {r D:List (α × κ)} {l:List (α × ε)} {m:Tb α κ ε} (c:Ch α κ ε) (h:R ⟨r,prn r l⟩ m)
  (hr:∀ b,fd D b=if b=c.last then c.new else fd r b)
  (K:∀ a ∈ c.pre,a ≠ c.last/\fd r a ≠ none)
  (Y:fd r c.last=none->∀ e ∈ l,e.1 ≠ c.last):R ⟨D,prn D (l++ents c)⟩ (Rk.stp m c):=by
 have hpre:∀ a ∈ c.pre,fd D a ≠ none:=by
  intro a j;rw[hr];simp only[(K a j).1,if_false];exact(K a j).2
 have G:fd D c.last=c.new:=by rw[hr];simp
 unfold Rk.stp;cases hc:c.new with
 | some k =>
  have M:R ⟨D,prn r l⟩ (putT m c.last k):=R.put h c.last k D (fun b=>by rw[hr,hc]);have O:=R.logs c.e (c.pre++[c.last]) (prn r l) _ M (by
   intro a j;rcases Wqx.mp j with j | j
   ·exact hpre a j
   simp only[Wqk] at j;subst j;rw[G,hc];simp)
  refine R.perm O _ (fun a=>?_) (EZ _ _);show lg (prn D (l++ents c)) a=lg (prn r l++ents c) a;rw[Tx,VK,VK,Tx,hr];by_cases j:a=c.last
  ·subst j;simp only[if_true,hc,Option.isSome_some];cases J:fd r c.last with
   | some q=>simp
   | none =>
    have:lg l c.last=[]:=by
     simp only[lg,WqQ,Wqu,decide_eq_true_eq];exact fun e I=>Y J e I
    simp[this]
  simp only[j,if_false];cases J:fd r a with
  | some q=>simp
  | none =>
   have:lg (ents c) a=[]:=by
    simp only[lg,WqQ,Wqu,decide_eq_true_eq];intro e I A;simp only[ents,Wz6,Wqx,Wqk] at I;obtain⟨b,hb,rfl⟩:=I;rcases hb with hb | hb
    ·exact(K b hb).2 (by rw[show b=a from A];exact J)
    exact j (by rw[<-A];exact hb)
   simp[this]
 | none =>
  have M:R ⟨D,(prn r l).filter fun e=>decide (e.1 ≠ c.last)⟩ (delT m c.last):=R.del h c.last D (fun b=>by rw[hr,hc]);have O:=R.logs c.e c.pre _ _ M hpre;refine R.perm O _ (fun a=>?_) (EZ _ _);show lg (prn D (l++ents c)) a=lg ((prn r l).filter (fun e=>decide (e.1 ≠ c.last))++c.pre.map fun a=>(a,c.e)) a;rw[Tx,VK,VK,hr];by_cases j:a=c.last
  ·subst j;have e1:lg ((prn r l).filter fun e=>decide (e.1 ≠ c.last)) c.last=[]:=by
    simp only[lg,WqQ,Wqu,decide_eq_true_eq,WqX];exact fun e I=>I.2
   have L:lg (c.pre.map fun a=>(a,c.e)) c.last=[]:=by
    simp only[lg,WqQ,Wqu,decide_eq_true_eq,Wz6];rintro e ⟨b,hb,rfl⟩;exact(K b hb).1
   rw[e1,L];simp[hc]
  simp only[j,if_false];have e1:lg ((prn r l).filter fun e=>decide (e.1 ≠ c.last)) a=lg (prn r l) a:=by
   simp only[lg,WqZ];congr 1;apply Wqy;intro e _;by_cases A:e.1=a
   ·simp[A,j]
   simp[A]
  have L:lg (ents c) a=lg (c.pre.map fun a=>(a,c.e)) a:=by
   have Q:¬ c.last=a:=fun V=>j V.symm;simp only[ents,List.map_append,List.map_cons,List.map_nil];rw[VK];simp[lg_cons,Q,Cz]
  rw[e1,L,Tx];cases J:fd r a with
  | some q=>simp
  | none =>
   have:lg (c.pre.map fun a=>(a,c.e)) a=[]:=by
    simp only[lg,WqQ,Wqu,decide_eq_true_eq,Wz6];rintro e ⟨b,hb,rfl⟩ A;exact(K b hb).2 (by rw[show b=a from A];exact J)
   simp[this]
theorem R.all (ge:α->α->Bool):∀ (cs:List (Ch α κ ε)) (r:List (α × κ)) (l:List (α × ε)) (m:Tb α κ ε),R ⟨r,prn r l⟩ m →
  (∀ c ∈ cs,∀ a ∈ c.pre,fd r a ≠ none/\∀ j ∈ cs,a ≠ j.last)->(cs.Pairwise fun c j=>c.last ≠ j.last) →
  (∀ c ∈ cs,fd r c.last=none->∀ e ∈ l,e.1 ≠ c.last) →
  R ⟨cs.foldl (fun r c=>setL ge c.last c.new r c.new.isNone) r,
   prn (cs.foldl (fun r c=>setL ge c.last c.new r c.new.isNone) r) (l++cs.flatMap ents)⟩ (cs.foldl Rk.stp m):=by
 intro cs;induction cs with
 | nil=>intro r l m h _ _ _;simpa using h
 | cons c cs Z =>
  intro r l m h K hd Q;have hr:∀ b,fd (setL ge c.last c.new r c.new.isNone) b=if b=c.last then c.new else fd r b:=by
   intro b;rw[fd_setL];cases c.new <;> simp
  have V:=R.stp c h hr (fun a J=>⟨(K c (by simp) a J).2 c (by simp),(K c (by simp) a J).1⟩) (Q c (by simp));rw[List.pairwise_cons] at hd;have Y:=Z _ (l++ents c) _ V
   (fun j A a J=>by
    have q:=K j (by simp[A]) a J
    refine⟨?_,fun L G=>q.2 L (by simp[G])⟩
    rw[hr]
    simp only[q.2 c (by simp),if_false]
    exact q.1)
   hd.2
   (fun j A M e D=>by
    have I:¬ j.last=c.last:=fun O=>hd.1 j A O.symm
    rw[hr] at M
    simp only[I,if_false] at M
    rcases Wqx.mp D with D | D
    ·exact Q j (by simp[A]) M e D
    ·simp only[ents,Wz6,Wqx,Wqk] at D
     obtain⟨b,hb,rfl⟩:=D
     rcases hb with hb | hb
     ·exact(K c (by simp) b hb).2 j (by simp[A])
     ·show b ≠ j.last
      rw[hb]
      exact fun O=>I O.symm)
  simpa using Y
end Go.Proofs.YtdnphaganajejaaGreatDoor.Rk
namespace Go.Proofs.YtdnphaganajejaaGreatDoor.K
open Go.Proofs.Tryz
open Go.RowKit
def Jj (a:Act) (ns:List Nat) (f:Nat->Value):Act:=ns.foldl (fun a n=>a.put (some n) (f n)) a
def Mg (act:Act) (ns:List Nat) (R:(Nat->Value)->World->Prop) (e:Exit) (a':Act) (w':World):Prop:=e=.normal/\a'=Jj act ns (fun n=>a'.tmps.getD n undef)/\R (fun n=>a'.tmps.getD n undef) w'
theorem Mg.no {act:Act} {ns:List Nat} {R:(Nat->Value)->World->Prop} {c:List PanicEntry} {j:Act} {w':World} (h:Mg act ns R (.panic c) j w'):False:=by
 have:=h.1;cases this
theorem EQ {K:Act->World->Prop} {Q:Exit->Act->World->Prop} {c:List PanicEntry} {a:Act} {w:World} (h:Exit.then K Q (.panic c) a w) (j:∀ a w,Q (.panic c) a w->False):False:=j _ _ h
theorem xx {P:Program} {A:Region.Mode} {Q:Exit->Act->World->Prop} {S:World->Prop} {l:List Oper} {i:Nat} {j:Oper} {v:Value} {fuel:Nat} {listed:Array Bool} {a:Act} {w:World} (D:S w)
  (h:wpAnyH P A l.toArray Q S fuel (listed.setIfInBounds i true) (a.put j.dst v) w) (hx:listed.toList.findIdx? (fun b => !b)=some i:=by rfl) (hi:l[i]? = some j:=by rfl) (I:Region.wanted j (yielded l.toArray a.tmps)=true:=by rfl)
  (hs:Region.noSelect l.toArray=true:=by kernel_rfl) (G:Region.free A l.toArray listed i=true:=by kernel_rfl) (hr:(Region.ready A l.toArray listed).contains i=true:=by kernel_rfl) (hQ:∀ c a w,Q (.panic c) (a.put j.dst v) w->Q (.panic c) a w:=by exact fun _ _ _ h=>h) (hy:∀ w',S w'->(execOp a.eval j).run P w'=.ok (.value v) w':=by intro w' h;cases h;go_simp;first | done | rfl) :
  wpAnyH P A l.toArray Q S (fuel+1) listed a w:=qy D hy h hx hi hs G hr hQ I
theorem takeO {P:Program} {j:Region.Mode} {Q:Exit->Act->World->Prop} {S:World->Prop} {l:List Oper} {i:Nat} {A:Oper} {fuel:Nat} {listed:Array Bool} {a:Act} {w:World} (D:S w)
  (h:wpAnyH P j l.toArray Q S fuel (listed.setIfInBounds i true) (a.put A.dst undef) w) (hx:listed.toList.findIdx? (fun b => !b)=some i:=by rfl) (hi:l[i]? = some A:=by rfl) (I:Region.wanted A (yielded l.toArray a.tmps)=false:=by rfl)
  (hs:Region.noSelect l.toArray=true:=by kernel_rfl) (G:Region.free j l.toArray listed i=true:=by kernel_rfl) (hr:(Region.ready j l.toArray listed).contains i=true:=by kernel_rfl) (hQ:∀ c a w,Q (.panic c) (a.put A.dst undef) w->Q (.panic c) a w:=by exact fun _ _ _ h=>h) :
  wpAnyH P j l.toArray Q S (fuel+1) listed a w:=j8 hi hs G hr hQ (Or.inr ⟨I,rfl⟩) D h
theorem qvk {P:Program} {A:Region.Mode} {Q:Exit->Act->World->Prop} {S:World->Prop} {l:List Oper} {i:Nat} {j:Oper} {v:Value} {fuel:Nat} {listed:Array Bool} {a:Act} {w:World} (D:S w)
  (h:wpAnyH P A l.toArray Q S fuel (listed.setIfInBounds i true) (a.put j.dst v) w) (hx:listed.toList.findIdx? (fun b => !b)=some i:=by rfl) (hi:l[i]? = some j:=by rfl) (I:Region.wanted j (yielded l.toArray a.tmps)=true:=by rfl)
  (hs:Region.noSelect l.toArray=true:=by kernel_rfl) (G:Region.free A l.toArray listed i=true:=by kernel_rfl) (hr:(Region.ready A l.toArray listed).contains i=true:=by kernel_rfl) (hQ:∀ c a w,Q (.panic c) (a.put j.dst v) w->Q (.panic c) a w:=by first | exact fun _ _ _ h=>(Mg.no h).elim | exact fun _ _ _ h=>(EQ h fun _ _ k=>Mg.no k).elim) (hy:∀ w',S w'->(execOp a.eval j).run P w'=.ok (.value v) w':=by intro w' h;cases h;go_simp;first | done | rfl) :
  wpAnyH P A l.toArray Q S (fuel+1) listed a w:=qy D hy h hx hi hs G hr hQ I
theorem qvv {P:Program} {j:Region.Mode} {Q:Exit->Act->World->Prop} {S:World->Prop} {l:List Oper} {i:Nat} {A:Oper} {fuel:Nat} {listed:Array Bool} {a:Act} {w:World} (D:S w)
  (h:wpAnyH P j l.toArray Q S fuel (listed.setIfInBounds i true) (a.put A.dst undef) w) (hx:listed.toList.findIdx? (fun b => !b)=some i:=by rfl) (hi:l[i]? = some A:=by rfl) (I:Region.wanted A (yielded l.toArray a.tmps)=false:=by rfl)
  (hs:Region.noSelect l.toArray=true:=by kernel_rfl) (G:Region.free j l.toArray listed i=true:=by kernel_rfl) (hr:(Region.ready j l.toArray listed).contains i=true:=by kernel_rfl) (hQ:∀ c a w,Q (.panic c) (a.put A.dst undef) w->Q (.panic c) a w:=by first | exact fun _ _ _ h=>(Mg.no h).elim | exact fun _ _ _ h=>(EQ h fun _ _ k=>Mg.no k).elim) :
  wpAnyH P j l.toArray Q S (fuel+1) listed a w:=j8 hi hs G hr hQ (Or.inr ⟨I,rfl⟩) D h
theorem Qz {P:Program} {c rest:Code} {Q:Exit->Act->World->Prop} {act:Act} {w:World} (ns:List Nat) (R:(Nat->Value)->World->Prop) (A:c.wp P (Mg act ns R) act w) (D:∀ (y:Nat->Value) (w':World),R y w'->rest.wp P Q (Jj act ns y) w'):(Code.seq c rest).wp P Q act w :=
 wp_seq (Code.wp_mono (by
  rintro e j w' ⟨rfl,h,G⟩
  show rest.wp P Q j w'
  rw[h]
  exact D _ _ G) A)
structure Stp (p:Prop):Prop where
 out:p
theorem Qq {P:Program} (n:Nat) {j:Array Oper} {b:Bool} {c d:Code} {Q:Exit->Act->World->Prop} {act:Act} {w:World} (h:Stp (Code.wp P (((Code.region n j b).seq c).seq d) Q act w)):Code.wp P (((Code.region n j b).seq c).seq d) Q act w:=h.out
end Go.Proofs.YtdnphaganajejaaGreatDoor.K
