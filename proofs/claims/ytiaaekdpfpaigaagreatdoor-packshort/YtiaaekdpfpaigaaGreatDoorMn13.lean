import Derived.Test.YtiaaekdpfpaigaaGreatDoorMn12
set_option linter.unusedSimpArgs false
set_option linter.unusedVariables false
set_option maxRecDepth 20000
set_option maxHeartbeats 4000000
open Nat renaming add_zero->WzX,le_trans->Wqx
namespace Go.Proofs.YtiaaekdpfpaigaaGreatDoor.Dl
open Go.Proofs.Tryz
open Go.RowKit Go.Maps Sam
def Fn.lastS (F:Fn) (l:Nat):Fn:={ F with last:=l }
theorem Rep.lastS {B g:Nat} {w:World} {F:Fn} (h:Rep B w g F) (l:Nat):Rep B (w.setCell ⟨g,3,none⟩ (.int .i32 l)) g (F.lastS l)/\Below B w (w.setCell ⟨g,3,none⟩ (.int .i32 l)):=by
 obtain⟨a1,a2,a3,a4,a5,a6⟩:=h.ap;have f1:∀ k,k ≠ g->(w.setCell ⟨g,3,none⟩ (.int .i32 l)).heap[k]? = w.heap[k]? := fun k hk=>Below.heap_setCell w _ _ k hk;refine⟨⟨?_,h.st.kept (f1 _ (Ne.symm a1)),h.ed.kept (f1 _ (Ne.symm a2)),h.mp.kept (f1 _ (Ne.symm a3)),h.Bg,h.Bs,h.Be,h.Bm,h.csl,h.mnl⟩,(Below.refl _ _).setCell h.Bg _⟩;rw[heap_set w g 3 _ h.fin];simp[Fn.obj,Fn.lastS]
theorem OK {F:Fn} {a:Nat} {s:Option Nat} (h:F.sh a=s):F.link a s=F:=by
 have:upd F.sh a s=F.sh:=by
  funext j;by_cases hj:j=a
  ·rw[hj,upd_same,h]
  rw[upd_ne _ _ hj]
 unfold Fn.link;rw[this]
theorem Fv (v1 v2 v3:Value) (w:World):(callFunc 114 #[v1,v2,v3]).run prog w=.ok (.enter 114 #[v1,v2,v3]) w:=by kernel_rfl
theorem OW {B g:Nat} {t:List Int} {F Fc:Fn} {wd:Nat->List Int} {c p:Nat} (hc:c<256) (w:World) (hR:Rep B w g Fc) (hg:Good t F wd) (hM:Mid t wd F Fc c (some p)) (hm:Fc.m p c ≠ 0) (ht:t.length<=100000) (hcs:F.N+2<=Fc.cs) :
  Calls prog 114 #[.pointer (some ⟨g,0,none⟩),.int .i32 p,.int .u8 c] w fun e w'=>Below B w w'/\∃ r F5 wd',e=.returned (.int .i32 ((r:Nat):Int))/\Rep B w' g F5/\F5.sb=Fc.sb/\F5.cs=Fc.cs/\F.N<F5.N/\F5.N<=300000/\Good (t++[(c:Int)]) (F5.link F.N (some r)) wd':=by
 obtain⟨m1,m2,m3,m4,m5⟩:=hM.met hg hm;obtain⟨hp,hpt⟩:=hM.ok p rfl;have hg':=hg;obtain⟨A,hl,hG,hN⟩:=hg;have hNe:=hM.N_eq;have lp:=hM.lon_old hp;have lt:=hM.lon_old m2;have p1:=(A.len_le hp).2;have p2:=(A.len_le m2).2;have m3l:=m3.length_le;simp at m3l;rw[hl p hp] at lp;rw[hl _ m2] at lt
 have hSp:=OJ p c (Fc.to (Fc.m p c)) hc w hR hM.gr (by omega) hm rfl m4 (by omega) (by omega)
  (fun q r hq hr=>by
   by_cases hqN:q=F.N
   ·have e1:Fc.sh q=some 0:=by rw[hM.same.sh,hqN];exact upd_same _ _ _
    rw[e1] at hr
    cases hr
    have hpos:=A.pos
    refine⟨by omega,?_⟩
    rw[hM.lon_old hpos,hl 0 hpos,A.wd0,hqN,hM.same.lon]
    show 0<upd F.lon F.N (t.length+1) F.N
    rw[upd_same];omega
   ·have hq':q<F.N:=by omega
    rw[hM.sh_old hq'] at hr
    obtain⟨a1,a2,_⟩:=A.sh_some hq' hr
    rw[hM.lon_old hq',hM.lon_old a1,hl q hq',hl r a1]
    exact⟨by omega,a2⟩) (by omega) (by omega) (fun r hr=>by
   rw[hM.sh_old m2] at hr
   obtain⟨a1,a2,_⟩:=A.sh_some m2 hr
   have:=A.lk hp m1 hr
   rw[hM.lon_old a1,hl r a1]
   omega)
 refine hSp.mono ?_;rintro e w' ⟨hB,⟨h1,rfl,hR'⟩ | ⟨h1,rfl,F2,F',hC,hL,hR'⟩⟩
 ·refine⟨hB,_,Fc,_,rfl,hR',rfl,rfl,by omega,by have:=hR'.st.le;have:=hR'.csl;omega,hM.finish1 hg' m2 ?_ ?_⟩
  ·have e:wd p++[(c:Int)]=wd (Fc.to (Fc.m p c)):=m3.eq_of_length (by simp;omega);rw[<-e];exact u9 hpt _
  simp only[thr];omega
 have hs2:F2.sb=Fc.sb:=by rw[hC.same.sb];rfl
 have hfin:=hM.finish2 hg' hm rfl h1 hC hL;have hS':x5 F2 F':=by
  have hG1:Gr (Fc.cl p (Fc.to (Fc.m p c))):=(hM.gr.app _ _ _).link _ _;clear hfin hR' hR hSp;generalize some p=o at hL;clear hB h1;revert hL;intro hL;have:∀ {o:Option Nat} {F2 F':Fn},j6 c (Fc.to (Fc.m p c)) Fc.N o F2 F'->x5 F2 F':=by
   intro o F2 F' hL;induction hL using j6.ind with
   | none F=>exact x5.refl _
   | stop F q h=>exact x5.refl _
   | go h1 h2 ih=>exact(x5.retar _ _ _).trans ih
  exact this hL
 have hN5:F'.N=Fc.N+1:=by rw[hS'.N,hC.same.N];rfl
 refine⟨hB,Fc.N,F',_,rfl,hR',by rw[hS'.sb,hs2],by rw[hS'.cs,hC.same.cs];rfl,by omega,by have:=hR'.st.le;have:=hR'.csl;omega,hfin⟩
set_option maxRecDepth 10000 in
theorem JX {B g:Nat} {t:List Int} {F:Fn} {wd:Nat->List Int} (c:Nat) (hc:c<256) (w:World) (hR:Rep B w g F) (hg:Good t F wd) (ht:t.length<100000) (hcs:F.N+2<=F.cs) :
  Calls prog 101 #[.pointer (some ⟨g,0,none⟩),.int .u8 c] w fun e w'=>(∃ v,e=.returned v)/\∃ F' wd',Rep B w' g F'/\Good (t++[(c:Int)]) F' wd'/\F'.cs=F.cs/\Below B w w':=by
 obtain⟨i,hi,hz0,hz1,hz2⟩:=info_parts info198;have HR:Hid _:=hR;have HGD:Hid _:=hg;obtain⟨A,hlon,hG,hN⟩:=hg;have c0:=hR.c0;have c3:=hR.c3;have cl:=hR.st.cell A.lastN (show 0<4 by omega);have hNl:F.N<=300000:=by have:=hR.st.le;have:=hR.csl;omega
 obtain⟨N,HN⟩:∃ N,Hid (N=F.N):=⟨_,rfl⟩;obtain⟨la,HLA⟩:=nn_ F.last;obtain⟨n,Hn⟩:=nn_ t.length;have hla:la<N:=by rw[HLA.out,HN.out];exact A.lastN
 rw[WzX,show F.stv F.last 0=.int .i32 n by rw[Hn.out,<-A.lastw,<-hlon _ A.lastN];rfl] at cl;rw[<-HLA.out] at c3 cl;rw[<-HN.out] at c0 hNl hcs;rw[<-Hn.out] at ht;have HOW:Hid (w.drew.ownsRow B 198 4 (.slice (some ⟨F.sb,0,none⟩) N F.cs) N (uk F.stv N 4)):=by rw[HN.out];exact hR.st.owns (show 0<4 by omega) hR.Bs
 have HX:Hid (w.grownBy (w.drew.alloc (.cells #[.int .i32 ((n:Int)+1),.int .i32 0,.int .i32 ((n:Int)+1),.int .i32 0] 198)) none):=⟨rfl,rfl,rfl,(World.grownBy_alloc w.drew _ none).size,(World.grownBy_alloc w.drew _ none).block⟩;have HNW:Hid _:=new4 w.drew (.int .i32 ((n:Int)+1)) (.int .i32 0) (.int .i32 ((n:Int)+1)) (.int .i32 0) 198
 have HOX:Hid (World.ownsRow _ B 198 4 (.slice (some ⟨F.sb,0,none⟩) N F.cs) N (uk F.stv N 4)):=HOW.out.alloc (.cells #[.int .i32 ((n:Int)+1),.int .i32 0,.int .i32 ((n:Int)+1),.int .i32 0] 198);have HM0:Hid _:=HGD.out |> fun h=>Mid.start h c
 have APP:Hid (∀ w1:World,w1.ownsRow B 198 4 (.slice (some ⟨F.sb,0,none⟩) (N+1:Nat) F.cs) (N+1) (uk F.stv N 4++[.int .i32 ((n:Int)+1),.int .i32 0,.int .i32 ((n:Int)+1),.int .i32 0])->(w.drew.alloc (.cells #[.int .i32 ((n:Int)+1),.int .i32 0,.int .i32 ((n:Int)+1),.int .i32 0] 198)).grownBy w1 (some F.sb) →
   Rep B ((w1.setCell ⟨g,0,none⟩ (.slice (some ⟨F.sb,0,none⟩) (N+1:Nat) F.cs)).setCell ⟨g,3,none⟩ (.int .i32 N)) g (F.begin_ t.length)/\Below B w ((w1.setCell ⟨g,0,none⟩ (.slice (some ⟨F.sb,0,none⟩) (N+1:Nat) F.cs)).setCell ⟨g,3,none⟩ (.int .i32 N))/\w1.cell? ⟨g,0,none⟩=some (.slice (some ⟨F.sb,0,none⟩) N F.cs)/\w1.frozen? ⟨g,0,none⟩=false/\
   (w1.setCell ⟨g,0,none⟩ (.slice (some ⟨F.sb,0,none⟩) (N+1:Nat) F.cs)).cell? ⟨g,3,none⟩=some (.int .i32 la)/\(w1.setCell ⟨g,0,none⟩ (.slice (some ⟨F.sb,0,none⟩) (N+1:Nat) F.cs)).frozen? ⟨g,3,none⟩=false):=by
  intro w1 ho hg
  have hpl:((n:Int)+1)=((n+1:Nat):Int):=by omega
  have HM:=HR.out.app (l:=n+1) (s:=some 0) (e:=n+1) HX.out hg
  rw[<-HN.out,<-hpl] at HM
  obtain⟨a1,a2,a3,a4,a5⟩:=HM ho
  refine⟨?_,a2.trans (a1.lastS N).2,a3.trans c0,a5,?_,a1.fz 3⟩
  ·have:=(a1.lastS N).1
   rw[Hn.out,HN.out] at this
   rw[HN.out]
   exact this
  ·have:=a1.c3
   rw[HLA.out]
   exact this
 have HOC:Hid (∀ u ∈ [Value.int .i32 ((n:Int)+1),.int .i32 0,.int .i32 ((n:Int)+1),.int .i32 0],u.oneCell'=true):=by
  intro u hu;simp only[List.mem_cons,List.not_mem_nil,or_false] at hu;rcases hu with rfl | rfl | rfl | rfl <;> rfl
 have hwr:IntKind.i32.wrap (N:Int)=N:=by rw[IntKind.wrap_i32];omega
 clear hR A hlon hG hN HOW HX;go_enter func101,ntmps101;go_wp2_with fail
 refine wp_region_held_drew (S:=fun w'=>w'.cell? ⟨g,0,none⟩=some (.slice (some ⟨F.sb,0,none⟩) N F.cs)/\w'.cell? ⟨g,3,none⟩=some (.int .i32 la)) (by kernel_rfl) ⟨c0,c3⟩ (fun hHeld=>?_);refine tZ (i:=0) hHeld ?_;try simp only[Act.put,sL]
 refine tZ (i:=1) hHeld ?_;try simp only[Act.put,sL]
 refine tZ (i:=2) hHeld ?_;try simp only[Act.put,sL]
 refine tZ (i:=3) hHeld ?_;try simp only[Act.put,sL]
 refine tZ (i:=4) hHeld ?_;try simp only[Act.put,sL]
 refine tZ (i:=5) hHeld ?_;try simp only[Act.put,sL]
 refine tZ (i:=6) hHeld ?_;try simp only[Act.put,sL]
 refine tZ (i:=7) hHeld ?_;try simp only[Act.put,sL]
 refine tZ (i:=8) hHeld ?_;try simp only[Act.put,sL]
 refine tZ (i:=9) hHeld ?_;try simp only[Act.put,sL]
 refine tZ (i:=10) hHeld ?_;try simp only[Act.put,sL]
 refine tZ (i:=11) hHeld ?_;try simp only[Act.put,sL]
 refine wpAnyH_done (by kernel_rfl) ?_ _;have c0d:w.drew.cell? ⟨g,0,none⟩=some (.slice (some ⟨F.sb,0,none⟩) N F.cs):=c0;have cld:w.drew.cell? ⟨F.sb,la*4,none⟩=some (.int .i32 n):=cl;clear hHeld c0 c3 cl
 go_wp2_with (at_builtin;refine wpList_append_fits _ rfl _ _ 192 rfl B 198 i 4 underlying192 hi hz1 F.sb N F.cs (uk F.stv N 4) rfl (by exact HOX.out) ⟨w.heap.size,0,none⟩ 1 1 [.int .i32 ((n:Int)+1),.int .i32 0,.int .i32 ((n:Int)+1),.int .i32 0] rfl (by simp) (by exact HNW.out) (by exact HOC.out) (by omega) ?_;intro w1 ho1 hg1;obtain⟨hR2,hB2,k0,f0,k3,f3⟩:=APP.out w1 ho1 hg1;have HR2:Hid _:=hR2;have HB2:Hid _:=hB2;clear hR2 hB2 ho1 hg1 APP)
 obtain⟨w3,HW3⟩:=nm_ ((w1.setCell ⟨g,0,none⟩ (.slice (some ⟨F.sb,0,none⟩) (N+1:Nat) F.cs)).setCell ⟨g,3,none⟩ (.int .i32 N));rw[HW3.out] at HR2 HB2 ⊢;clear HW3 k0 f0 k3 f3 c0d cld HNW HOX HOC hi hz0 hz1 hz2 HR;have hlI:((la:Nat):Int)=shI (some la):=rfl;have HM1:Hid (Mid t wd F (F.begin_ t.length) c (some la)):=by rw[HLA.out];exact HM0.out
 go_loopg [4] (thr wd (some la)) (fun k v wr=>∃ (o:Option Nat) (Fc:Fn),v=.int .i32 (shI o)/\k=thr wd o/\Hid (Rep B wr g Fc)/\Hid (Below B w wr)/\Hid (Mid t wd F Fc c o));case atStart=>exact⟨some la,F.begin_ t.length,rfl,rfl,HR2.out,HB2.out,HM1.out⟩
 obtain⟨o,Fc,rfl,hk,HR4,HB4,HM4⟩:=hrel;clear hlI;have HSB:Hid (Fc.sb=F.sb/\Fc.cs=F.cs):=⟨HM4.out.same.sb,HM4.out.same.cs⟩;cases o with
 | none =>
  simp only[shI];go_wp2_with fail
  go_end0;have hfin:=HM4.out.finish1 HGD.out (r:=0) HGD.out.1.pos (by rw[HGD.out.1.wd0];exact List.nil_suffix) (by simp[thr]);rw[OK (by rw[HM4.out.same.sh];exact upd_same _ _ _)] at hfin;exact⟨⟨_,rfl⟩,Fc,_,HR4.out,hfin,HSB.out.2,HB4.out⟩
 | some p =>
  obtain⟨hp,hpt⟩:=HM4.out.ok p rfl;rw[<-HN.out] at hp;have hpI:¬ (p:Int) = -1:=by omega
  have E:Hid (∀ w',Rep B w' g Fc->_):=fun w' (h:Rep B w' g Fc)=>Vz p c (by omega) hc w' h;obtain⟨e,HE⟩:=nn_ (Fc.m p c);rw[<-HE.out] at E;have HN4:Hid (Fc.N=F.N+1):=HM4.out.N_eq;simp only[shI];by_cases he:e=0
  ·subst he;have HJM:Hid _:=fun eb ce=>HM4.out.step HGD.out hc HE.out.symm eb ce;have hKb:Fc.K<=100000000:=(by have:=HM4.out.gr.bound;rw[HN4.out,<-HN.out] at this;omega);have JN:Hid (∀ w',Rep B w' g Fc->_):=fun w' (h:Rep B w' g Fc)=>D3 p c N hc w' h (by rw[HN4.out,<-HN.out];omega) hKb;obtain⟨so,HSO⟩:=nn_ (Fc.sh p);rw[<-HSO.out,<-HN.out] at HJM
   go_wp2_with (first | (go_at_call 102;refine(E.out _ HR4.out).mono ?_;clear E;rintro ev w5 ⟨rfl,nq,rfl⟩) | (go_at_call 113;refine(JN.out _ (HR4.out.drewN nq)).mono ?_;clear JN;rintro ev w6 ⟨⟨v,rfl⟩,eb,ce,hR5,hB5⟩;have HR5:Hid _:=hR5;have HB5:Hid _:=hB5;clear hR5 hB5;have d0:=HR5.out.c0;have ds:=HR5.out.st.cell (s:=p) (show p<Fc.N by rw[HN4.out,<-HN.out];omega) (show 1<4 by omega);rw[show (Fc.join p c N eb ce).stv p 1=.int .i32 (shI so) by rw[HSO.out];rfl] at ds;simp only[Fn.join,Fn.more,Fn.head,Fn.mapS] at d0 ds;rw[HN4.out,<-HN.out] at d0))
   go_roundg (thr wd so);case rel=>exact⟨so,Fc.join p c N eb ce,rfl,rfl,HR5.out,(below_drewN HB4.out nq).trans HB5.out,HJM.out eb ce⟩
   rw[hk];have hq:p<F.N:=(by rw[<-HN.out];exact hp);cases so with
   | none=>simp[thr]
   | some r =>
    have:=HGD.out.1.sh_some hq (by rw[<-HM4.out.sh_old hq];exact HSO.out.symm);simp only[thr];omega
  have heB:((e:Int) == 0)=false:=beq_eq_false_iff_ne.2 (by omega);have heI:¬ (e:Int)=0:=by omega
  have heN:¬ e=0:=he;have hNN:(N:Int)<(N:Int)+1:=by omega
  have SP:Hid (∀ w',Rep B w' g Fc->_):=fun w' (h:Rep B w' g Fc)=>OW (t:=t) (F:=F) (wd:=wd) hc w' h HGD.out HM4.out (by rw[<-HE.out];exact he) (by rw[<-Hn.out];omega) (by rw[HSB.out.2,<-HN.out];exact hcs);go_wp2_with (go_at_call 102;refine(E.out _ HR4.out).mono ?_;clear E;rintro ev w5 ⟨rfl,nq,rfl⟩)
  have HR5:Hid (Rep B (wr.drewN nq) g Fc):=HR4.out.drewN nq;have HB5:Hid (Below B w (wr.drewN nq)):=below_drewN HB4.out nq;obtain⟨w5,HW5⟩:=nm_ (wr.drewN nq);rw[HW5.out] at HR5 HB5 ⊢;clear HW5 HR4 HB4;have c0:=(HR5.out.drewN 1).c0;rw[HN4.out,<-HN.out,HSB.out.1,HSB.out.2] at c0;have c0d:w5.drew.cell? ⟨g,0,none⟩=some (.slice (some ⟨F.sb,0,none⟩) (N+1) F.cs):=c0;clear c0
  refine wp_region_held_drew (S:=fun w'=>True) (by kernel_rfl) trivial (fun hHeld=>?_);refine tV (i:=0) trivial ?_;try simp only[Act.put,sL]
  refine tV (i:=1) trivial ?_;try simp only[Act.put,sL]
  refine tV (i:=2) trivial ?_;try simp only[Act.put,sL]
  refine tV (i:=4) trivial ?_;try simp only[Act.put,sL]
  refine tV (i:=5) trivial ?_;try simp only[Act.put,sL]
  refine tV (i:=6) trivial ?_;try simp only[Act.put,sL]
  refine tV (i:=7) trivial ?_;try simp only[Act.put,sL]
  refine wpAnyH_ready (rs:=[3,8]) (by kernel_rfl) (by simp) ?_;refine consL rfl (fun KK hKK=>?_) (consL rfl (fun KK hKK=>?_) AllReadyH.nil)
  ·go_simp;refine hKK.out _ _ trivial (fun _=>?_);clear hKK KK;(try simp only[Act.put,sL]);refine wpAnyH_ready (rs:=[8]) (by kernel_rfl) (by simp) ?_;refine consL rfl (fun KK hKK=>?_) AllReadyH.nil;refine uV (by rfl) 114 [.tmp 71,.tmp 72,.tmp 73] _ [.pointer (some ⟨g,0,none⟩),.int .i32 p,.int .u8 c] _ (by rfl) (by rfl) (Fv _ _ _) (SP.out _ (HR5.out.drewN 1)) ?_
   rintro ev w6 ⟨hB6,r,F5,wd',rfl,hR6,hsb,hcs6,hN5,hN6,hgd⟩;refine⟨_,rfl,?_⟩;have HR6:Hid _:=hR6;have HG6:Hid _:=hgd;have HL6:Hid _:=hR6.link (a:=F.N) (some r) hN5;have k1:=hR6.st.cell hN5 (show 1<4 by omega);have f1:=hR6.st.frozen (F.N*4+1);rw[hsb,HSB.out.1,<-HN.out] at k1 f1;have HB6:Hid (Below B w w6):=(below_drewN HB5.out 1).trans hB6;clear hR6 hgd hB6
   refine hKK.out _ _ trivial (fun _=>?_);clear hKK KK;(try simp only[Act.put,sL]);refine tV (i:=9) trivial ?_;(try simp only[Act.put,sL]);refine tV (i:=10) trivial ?_;(try simp only[Act.put,sL]);refine wpAnyH_ready (rs:=[11]) (by kernel_rfl) (by simp) ?_;refine consL rfl (fun KK hKK=>?_) AllReadyH.nil;go_simp;refine hKK.out _ _ trivial (fun _=>?_);clear hKK KK
   (try simp only[Act.put,sL]);refine wpAnyH_done (by kernel_rfl) ?_ _;go_wp2_with fail
   go_end0;refine⟨⟨_,rfl⟩,F5.link F.N (some r),wd',?_,HG6.out,by show F5.cs=_;rw[hcs6,HSB.out.2],?_⟩
   ·have:=HL6.out.1;rw[hsb,HSB.out.1,<-HN.out] at this;rw[<-HN.out];exact this
   have:=HL6.out.2;rw[hsb,HSB.out.1,<-HN.out] at this;exact HB6.out.trans this
  refine uV (by rfl) 114 [.tmp 71,.tmp 72,.tmp 73] _ [.pointer (some ⟨g,0,none⟩),.int .i32 p,.int .u8 c] _ (by rfl) (by rfl) (Fv _ _ _) (SP.out _ (HR5.out.drewN 1)) ?_;rintro ev w6 ⟨hB6,r,F5,wd',rfl,hR6,hsb,hcs6,hN5,hN6,hgd⟩;refine⟨_,rfl,?_⟩;have HR6:Hid _:=hR6;have HG6:Hid _:=hgd;have HL6:Hid _:=hR6.link (a:=F.N) (some r) hN5
  have k1:=hR6.st.cell hN5 (show 1<4 by omega);have f1:=hR6.st.frozen (F.N*4+1);have k0:=hR6.c0;rw[hsb,HSB.out.1,<-HN.out] at k1 f1;rw[hsb,HSB.out.1,hcs6,HSB.out.2] at k0;rw[<-HN.out] at hN5;have HB6:Hid (Below B w w6):=(below_drewN HB5.out 1).trans hB6;clear hR6 hgd hB6;refine hKK.out _ _ trivial (fun _=>?_);clear hKK KK;try simp only[Act.put,sL]
  refine wpAnyH_ready (rs:=[3]) (by kernel_rfl) (by simp) ?_;refine consL rfl (fun KK hKK=>?_) AllReadyH.nil;go_simp;refine hKK.out _ _ trivial (fun _=>?_);clear hKK KK;try simp only[Act.put,sL]
  refine tV (i:=9) trivial ?_;try simp only[Act.put,sL]
  refine tV (i:=10) trivial ?_;try simp only[Act.put,sL]
  refine wpAnyH_ready (rs:=[11]) (by kernel_rfl) (by simp) ?_;refine consL rfl (fun KK hKK=>?_) AllReadyH.nil;go_simp;refine hKK.out _ _ trivial (fun _=>?_);clear hKK KK;try simp only[Act.put,sL]
  refine wpAnyH_done (by kernel_rfl) ?_ _;go_wp2_with fail
  go_end0;refine⟨⟨_,rfl⟩,F5.link F.N (some r),wd',?_,HG6.out,by show F5.cs=_;rw[hcs6,HSB.out.2],?_⟩
  ·have:=HL6.out.1;rw[hsb,HSB.out.1,<-HN.out] at this;rw[<-HN.out];exact this
  have:=HL6.out.2;rw[hsb,HSB.out.1,<-HN.out] at this;exact HB6.out.trans this
end Go.Proofs.YtiaaekdpfpaigaaGreatDoor.Dl
namespace Go.Proofs.YtiaaekdpfpaigaaGreatDoor.Dl
open Go.Proofs.Tryz
open Go.RowKit Go.Maps Sam Plain
def PostF (t bl:List Int) (w:World) (e:Ending) (w':World):Prop := ∃ fr len q:Nat,e=.returned (.tuple #[.int .i64 fr,.int .i64 len])/\w'=w.drewN q/\Plain.Fd t bl fr len
set_option maxRecDepth 10000 in
theorem zyu {B g:Nat} {t:List Int} {F:Fn} {wd:Nat->List Int} (ab:Option Addr) (cap:Nat) (bl:List Int) (w:World) (hR:Rep B w g F) (hg:Good t F wd) (ht:t.length<=100000) (hz:IsB bl) (hbl:bl.length<=100000) (hS:Sl w ab cap bl) :
  Calls prog 89 #[.pointer (some ⟨g,0,none⟩),.slice ab bl.length cap] w (PostF t bl w):=by
 have HR:Hid _:=hR;have HG:Hid _:=hg;have HS:Hid _:=hS;have HZ:Hid _:=hz;have hNl:F.N<=300000:=by have:=hR.st.le;have:=hR.csl;omega
 have hKb:F.K<=100000000:=by have:=hg.2.2.1.bound;omega
 have HA:Hid (Sam t F.N wd F.sh F.en (xj F) F.last):=hg.1;obtain⟨L,HL⟩:=nn_ bl.length;rw[<-HL.out] at hbl ⊢;clear hR hg hS hz;go_enter func89,ntmps89;go_wp2_with fail
 go_loopg [5,6,12] L (fun k ln at_ ix wr=>∃ j s q:Nat,j<=L/\ln=.int .i64 j/\at_=.int .i32 s/\ix=.int .i64 j/\k=L-j/\wr=w.drewN q/\Hid (rd (xj F) (bl.take j)=some s));case atStart=>exact⟨0,0,0,by omega,rfl,rfl,rfl,rfl,rfl,rfl⟩
 obtain⟨j,s,q,hj,rfl,rfl,rfl,hk,rfl,HRD⟩:=hrel;have hsN:=(HA.out.sound _ s HRD.out).1;have c0:=(HR.out.drewN q).c0;have cen:=(HR.out.drewN q).st.cell hsN (show 2<4 by omega);rw[show F.stv s 2=.int .i32 (F.en s) from rfl] at cen;by_cases hjL:j<L;rotate_left
 ·have hjI:¬ (j:Int)<L:=by omega
  have HJB:Hid (j=bl.length):=by show _=_;rw[<-HL.out];omega
  have HFD:Hid _:=qq4 HA.out bl j s (by rw[HJB.out];exact Nat.le_refl _) HRD.out (fun y hy=>by rw[List.getElem?_eq_none (by rw[HJB.out];exact Nat.le_refl _)] at hy;cases hy);have hfr:j<=F.en s:=HFD.out.1;have hen:F.en s<=100000:=Wqx (HA.out.ends s hsN).1 ht;go_wp2_with fail
  go_ret2;exact⟨F.en s-j,j,q,by show Ending.returned (.tuple #[.int .i64 ((F.en s:Int)-j),.int .i64 j])=_;rw[show ((F.en s:Int)-j)=((F.en s-j:Nat):Int) by omega],rfl,HFD.out.2⟩
 have hjI:(j:Int)<L:=by omega
 have hjb:j<bl.length:=by rw[<-HL.out];exact hjL
 obtain⟨bb,off,rfl,hbb,hat⟩:=HS.out.at_ (by omega);have hxb:=HZ.out _ (List.getElem_mem hjb);obtain⟨x,HX⟩:∃ x:Nat,Hid (bl[j]=(x:Int)):=⟨bl[j].toNat,by show _=_;omega⟩;have hx:x<256:=by have:=HX.out;omega
 have cx:(w.drewN q).cell? ⟨bb,off+j,none⟩=some (.int .u8 x):=by
  have h1:=hat j hjb;rw[List.getD_eq_getElem?_getD,List.getElem?_eq_getElem hjb,HX.out] at h1;exact h1
 have E:Hid (∀ w',Rep B w' g F->_):=fun w' (h:Rep B w' g F)=>Vz s x (by omega) hx w' h;obtain⟨e,HE⟩:=nn_ (F.m s x);rw[<-HE.out] at E;have HDE:Hid (xj F s x=if e=0 then none else some (F.to e)):=by rw[HE.out];exact Yj F s x
 by_cases he:e=0
 ·subst he;have HFD:Hid _:=qq4 HA.out bl j s (by rw[<-HL.out];exact hj) HRD.out (fun y hy=>by rw[List.getElem?_eq_getElem hjb,HX.out] at hy;cases hy;rw[HDE.out,if_pos rfl]);have hfr:j<=F.en s:=HFD.out.1;have hen:F.en s<=100000:=Wqx (HA.out.ends s hsN).1 ht;have d0:∀ n,((w.drewN q).drewN n).cell? ⟨g,0,none⟩=some (.slice (some ⟨F.sb,0,none⟩) F.N F.cs):=fun n=>c0
  have den:∀ n,((w.drewN q).drewN n).cell? ⟨F.sb,s*4+2,none⟩=some (.int .i32 (F.en s)):=fun n=>cen;have d0':∀ n,(w.drewN n).cell? ⟨g,0,none⟩=some (.slice (some ⟨F.sb,0,none⟩) F.N F.cs):=fun n=>c0;have den':∀ n,(w.drewN n).cell? ⟨F.sb,s*4+2,none⟩=some (.int .i32 (F.en s)):=fun n=>cen;clear c0 cen
  go_wp2_with (go_at_call 102;refine(E.out _ (HR.out.drewN q)).mono ?_;clear E;rintro ev w5 ⟨rfl,nq,rfl⟩)
  go_ret2;exact⟨F.en s-j,j,q+nq,by show Ending.returned (.tuple #[.int .i64 ((F.en s:Int)-j),.int .i64 j])=_;rw[show ((F.en s:Int)-j)=((F.en s-j:Nat):Int) by omega],by simp[World.drewN],HFD.out.2⟩
 have heN:¬ e=0:=he;have heB:((e:Int) == 0)=false:=beq_eq_false_iff_ne.2 (by omega);have heI:¬ (e:Int)=0:=by omega
 have heK:e<F.K:=by rw[HE.out] at he ⊢;exact(HG.out.2.2.1.g1 _ _ he).1
 have d1:∀ n,((w.drewN q).drewN n).cell? ⟨g,1,none⟩=some (.slice (some ⟨F.eb,0,none⟩) F.K F.ce):=fun n=>HR.out.c1;have dt:∀ n,((w.drewN q).drewN n).cell? ⟨F.eb,e*3,none⟩=some (.int .i32 (F.to e)):=fun n=>by have:=HR.out.ed.cell heK (show 0<3 by omega);rw[WzX] at this;exact this
 have d1':∀ n,(w.drewN n).cell? ⟨g,1,none⟩=some (.slice (some ⟨F.eb,0,none⟩) F.K F.ce):=fun n=>HR.out.c1;have dt':∀ n,(w.drewN n).cell? ⟨F.eb,e*3,none⟩=some (.int .i32 (F.to e)):=fun n=>dt n;have HRD2:Hid (rd (xj F) (bl.take (j+1))=some (F.to e)):=by
  show _=_;rw[List.take_succ_eq_append_getElem hjb,rd_snoc,HRD.out,HX.out];show xj F s x=_;rw[HDE.out,if_neg he]
 clear c0 cen;go_wp2_with (go_at_call 102;refine(E.out _ (HR.out.drewN q)).mono ?_;clear E;rintro ev w5 ⟨rfl,nq,rfl⟩)
 go_roundg (L-(j+1));case measure=>omega
 case rel=>exact⟨j+1,F.to e,q+nq,by omega,by go_num,rfl,by go_num,rfl,by simp[World.drewN],HRD2.out⟩
end Go.Proofs.YtiaaekdpfpaigaaGreatDoor.Dl
