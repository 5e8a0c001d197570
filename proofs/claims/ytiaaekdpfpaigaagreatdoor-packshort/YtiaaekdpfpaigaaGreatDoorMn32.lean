import Derived.Test.YtiaaekdpfpaigaaGreatDoorMn31
set_option linter.unusedSimpArgs false
set_option linter.unusedVariables false
set_option maxRecDepth 20000
set_option maxHeartbeats 4000000
open List renaming append_nil->Wz2,cons_append->Wz3,filter_append->Wvy,filter_cons_of_neg->Wvu,filter_cons_of_pos->WvZ,filter_nil->WvQ,getElem_of_mem->Wvq,getElem_take->WvX,length_filter_le->WvJ,length_set->Wvk,length_take->Wzz,mem_append->WqX,mem_cons->WxJ,mem_filter->WvK,mem_singleton->WqJ,not_mem_nil->WvV,pairwise_iff_getElem->WvW,range->WqK,range_succ->WvY,size_toArray->WqW,take_length->WxW
open Nat renaming add_assoc->WzQ,le_of_eq->WyQ,le_refl->WzV,le_trans->Wqx,lt_or_ge->WzW,zero_le->Wu0
open Option renaming some->Wq9
namespace Go.Proofs.YtiaaekdpfpaigaaGreatDoor.Pk
open Go.Proofs.Tryz
open Go.RowKit Go.Maps Go.Proofs.YtiaaekdpfpaigaaGreatDoor.Id Go.Proofs.YtiaaekdpfpaigaaGreatDoor.Px
theorem kY (p:Nat->Bool) (l:List Nat) (i:Nat) (h:i<l.length):(l.take (i+1)).filter p=if p (l.getD i 0) then (l.take i).filter p++[l.getD i 0] else (l.take i).filter p:=by
 rw[yY 0 l i h,Wvy];by_cases e:p (l.getD i 0)=true
 ·rw[if_pos e,WvZ e,WvQ]
 rw[if_neg e,Wvu e,WvQ,Wz2]
def Ev (c:Cx) (K n:Nat) (es:List En) (w:World) (ts:List Et) (rd:List Nat) (ni si:Nat) (k0:Bool) (ws:List Nat) (ev:Ending) (w':World):Prop :=
 ∃ lv ts' rd' Mi',ev=.returned lv/\Gs c K n es w' ts' rd' (ni+(ws.filter fun j => !Lf es k0 j).length) (si+(ws.filter fun j => !Lf es k0 j).length) Mi'/\Nl w' c.G lv (ws.filter (Lf es k0))/\(∀ i,i ∈ rd' ↔ i ∈ rd ∨ (i ∈ ws/\Lf es k0 i=false))/\(∀ i,i<ts.length->((ts'.getD i dT).kn=true ↔ (ts.getD i dT).kn=true ∨ (i ∈ ws/\Lf es k0 i=false)))
structure R1 (c:Cx) (K n:Nat) (es:List En) (S0:Nat) (ts:List Et) (rd:List Nat) (ni si:Nat) (Mi:List Int->Option Value) (k0:Bool) (ws:List Nat) (wv:Value) (p:Nat) (wr:World) (lv fv:Value) (ts1:List Et) (rd1:List Nat):Prop where
 gs:Gs c K n es wr ts1 rd1 ni si Mi
 l:Nl wr S0 lv ((ws.take p).filter (Lf es k0))
 f:Nl wr S0 fv ((ws.take p).filter fun j => !Lf es k0 j)
 wl:Nl wr c.G wv ws
 d:∀ b,lv.ownBlock=some b->fv.ownBlock ≠ some b
 w0:∀ b,wv.ownBlock=some b->b<S0
 kn:∀ i,(ts1.getD i dT).kn=(ts.getD i dT).kn
 rd:∀ i,i ∈ rd1 ↔ i ∈ rd ∨ (i ∈ ws.take p/\Lf es k0 i=false)
 sz:S0<=wr.heap.size
 gl:c.G<=S0
theorem R1.go {c:Cx} {K n:Nat} {es:List En} {S0:Nat} {ts:List Et} {rd:List Nat} {ni si:Nat} {Mi:List Int->Option Value} {k0:Bool} {ws:List Nat} {wv:Value} {p:Nat} {wr w':World} {lv fv:Value} {ts1:List Et} {rd1:List Nat} (h:R1 c K n es S0 ts rd ni si Mi k0 ws wv p wr lv fv ts1 rd1) (hb:Below wr.heap.size wr w'):R1 c K n es S0 ts rd ni si Mi k0 ws wv p w' lv fv ts1 rd1 :=
 ⟨h.gs.go hb,h.l.moveB hb,h.f.moveB hb,h.wl.moveB hb,h.d,h.w0,h.kn,h.rd,Wqx h.sz hb.size,h.gl⟩
theorem zzK {c:Cx} {K n:Nat} {hs:List (List Int)} {es:List En} (hS:St c K n hs es) {w:World} {ts:List Et} {rd:List Nat} {ni si:Nat} {Mi:List Int->Option Value} (h:Gs c K n es w ts rd ni si Mi) (E:Nat) (hni:ni<=500) (wv:Value) (ws:List Nat) (hEE:ws ≠ []->c.ev.ownBlock=some E) (hw:Nl w c.G wv ws) (hwl:∀ j ∈ ws,j<ts.length/\j ∉ rd/\((es.getD j dE).kd=6 ∨ (es.getD j dE).kd=7)) (hnd:ws.Nodup) (hln:ws.length<=100) :
  Calls prog 75 #[.pointer (some ⟨c.gc,0,none⟩),wv] w (Ev c K n es w ts rd ni si (ts.getD 0 dT).kn ws):=by
 obtain⟨k0,HK0⟩:=nm_ ((ts.getD 0 dT).kn);obtain⟨wa,wc,hwv,hwcap,-⟩:=hw.ps;obtain⟨m,HM⟩:=nm_ ws.length;rw[HM.out] at hwv hwcap hln;have HWL:=hid hwl;have HND:=hid hnd;have HSS:=hid hS;have HH:=hid h;have HEE:=hid hEE;obtain⟨S0,HS0⟩:=nm_ w.heap.size;have hnil:Nl w S0 (.slice none 0 0) []:=⟨Below.refl _ _,⟨rfl,.inl ⟨rfl,rfl⟩⟩,WyQ HS0.out.symm⟩
 have HR0:Hid (R1 c K n es S0 ts rd ni si Mi k0 ws wv 0 w (.slice none 0 0) (.slice none 0 0) ts rd):=hid ⟨h,by simpa using hnil,by simpa using hnil,hw,(fun b e=>by cases e),fun b e=>by rw[<-HS0.out];exact(zJ hw.own b e).2,fun _=>rfl,fun i=>by simp,WyQ HS0.out.symm,by rw[<-HS0.out];exact h.ct.es.le⟩;rw[HK0.out];subst hwv
 obtain⟨zo,HZO⟩:=nm_ ((#[.int .i64 0,.slice none 0 0] : Array Value):Array Value);have hz27:∀ w:World,(zeroValue 27).run prog w=.ok (.agg zo) w:=fun w=>by rw[<-HZO.out];exact Ux w
 clear hS h hw hwl hnd hnil hEE;go_enter func75,ntmps75;go_wp2_with fail
 go_loopg [17,4,5] m (fun g iv lv fv wr=>∃ (p:Nat) (ts1:List Et) (rd1:List Nat),iv=.int .i64 p/\g=m-p/\p<=m/\Hid (R1 c K n es S0 ts rd ni si Mi k0 ws (.slice wa m wc) p wr lv fv ts1 rd1));case atStart=>exact⟨0,ts,rd,rfl,rfl,by omega,HR0.out⟩
 obtain⟨p,ts1,rd1,rfl,hg,hpm,HX⟩:=hrel;by_cases hlt:p<m;rotate_left
 ·have hltI:¬ (p:Int)<m:=by omega
  obtain rfl:p=m:=by omega
  have hlen:ts1.length=ts.length:=HX.out.gs.len.trans HH.out.len.symm;obtain⟨fd,HFD⟩:=nm_ (ws.filter fun j => !Lf es k0 j);obtain⟨lf,HLFT⟩:=nm_ (ws.filter (Lf es k0));have htk:ws.take p=ws:=by rw[<-HM.out];exact WxW
  have hl0:=HX.out.l;have hf0:=HX.out.f;rw[htk,HFD.out] at hf0;rw[htk,HLFT.out] at hl0;have hrd0:=HX.out.rd;rw[htk] at hrd0;have HRD:=hid hrd0;obtain⟨fl,HFL⟩:=nm_ fd.length;obtain⟨fa,fc,hfv,hfcap,-⟩:=hf0.ps;rw[HFL.out] at hfv hfcap;subst hfv;have hfl:fl<=p:=by
   rw[<-HFL.out,<-HFD.out,<-HM.out];exact WvJ _ _
  have HFM:Hid (∀ q,q<fl->fd.getD q 0 ∈ ws/\Lf es k0 (fd.getD q 0)=false):=hid (fun q hq=>by
   have h1:=zV fd q 0 (by rw[HFL.out];exact hq);have h2:fd.getD q 0 ∈ ws.filter fun j => !Lf es k0 j:=(by rw[HFD.out];exact h1);have h3:=WvK.1 h2;exact⟨h3.1,by simpa using h3.2⟩)
  have HFN:Hid fd.Nodup:=hid (by rw[<-HFD.out];exact HND.out.filter _);have HR2:Hid (Gs c K n es wr ts1 rd1 ni si Mi):=hid HX.out.gs;have HL2:=hid hl0;have HF2:=hid hf0;have HKN:=hid HX.out.kn;have HGL:=hid HX.out.gl;clear hl0 hf0 hrd0 htk;go_wp2_with fail
  go_loopg [65] fl (fun g iv wq=>∃ (q:Nat) (ts2:List Et) (Mi2:List Int->Option Value),iv=.int .i64 q/\g=fl-q/\q<=fl/\Hid (Gs c K n es wq ts2 rd1 (ni+q) (si+q) Mi2)/\Hid (Nl wq S0 u4 lf)/\Hid (Nl wq S0 (.slice fa fl fc) fd)/\Hid (∀ i,i<ts.length->((ts2.getD i dT).kn=true ↔ (ts.getD i dT).kn=true ∨ i ∈ fd.take q)))
  case atStart=>exact⟨0,ts1,Mi,rfl,rfl,by omega,HR2.out,HL2.out,HF2.out,hid (fun i _=>by rw[HKN.out i];simp)⟩
  obtain⟨q,ts2,Mi2,rfl,hg2,hqf,HG,HL,HF,HK2⟩:=hrel;by_cases hq:q<fl;rotate_left
  ·have hqI:¬ (q:Int)<fl:=(by omega);obtain rfl:q=fl:=(by omega);have htq:fd.take q=fd:=(by rw[<-HFL.out];exact WxW);have HFIN:Hid (Ev c K n es w ts rd ni si k0 ws (.returned u4) wr):=hid (by
    refine⟨u4,ts2,rd1,Mi2,rfl,?_,?_,HRD.out,fun i hi=>?_⟩
    ·rw[HFD.out,HFL.out];exact HG.out
    ·rw[HLFT.out];exact⟨Below.refl _ _,qV HL.out.own HGL.out,Wqx HGL.out HL.out.le⟩
    rw[HK2.out i hi,htq,<-HFD.out,WvK];simp)
   clear htq;go_wp2_with fail
   go_ret;exact HFIN.out
  have hqI:(q:Int)<fl:=by omega
  obtain⟨j,HJ⟩:=nm_ (fd.getD q 0);obtain⟨a9,c9,e9,-,hps⟩:=HF.out.ps;obtain⟨wb,hwb,-,hcj⟩:=hps q (by rw[HFL.out];exact hq);injection e9 with q1 q2 q3;subst q1;subst hwb;rw[HJ.out] at hcj;obtain⟨hjw,hjl⟩:=HFM.out q hq;rw[HJ.out] at hjw hjl;obtain⟨hj1,hj2,-⟩:=HWL.out j hjw;have hjr:j ∈ rd1:=(HRD.out j).2 (.inr ⟨hjw,hjl⟩);have hkf:(ts2.getD j dT).kn=false:=by
   cases hk:(ts2.getD j dT).kn with
   | false=>rfl
   | true =>
    rcases(HK2.out j hj1).1 hk with h1 | h1
    ·exact absurd (HH.out.kno j hj1 h1) hj2
    obtain⟨r,hr,e⟩:=Wvq h1;rw[Wzz] at hr;rw[WvX] at e;have h3:=HJ.out;rw[List.getD_eq_getElem?_getD,List.getElem?_eq_getElem (by rw[HFL.out];exact hq)] at h3;exact absurd (e.trans h3.symm) (WvW.1 HFN.out r q (by omega) (by rw[HFL.out];exact hq) (by omega))
  obtain⟨x,x1,x2,x3,x4⟩:=HG.out.oz HSS.out j hjr;have hj2l:=(HG.out.rdo j hjr).1;have C74:Hid (Calls prog 74 #[.pointer (some ⟨c.gc,0,none⟩),.int .i64 j] wr (G9 c.w0 wr c.G c.gc c.gb c.gi c.gx ts2 c.ev c.nb c.sb c.Mb (ni+q) (si+q) Mi2 c.nx c.sx c.Mx j (idZ K x.zs))):=hid (Ck K n HSS.out.hK HSS.out.hn HG.out.ct HSS.out.tab (by omega) j hj2l x x1 x2 x4)
  have HXZ:=hid x3;have HJ2L:=hid hj2l;have HKF:=hid hkf;have HJR:=hid hjr;have hqc:q<fc:=by omega
  clear q2 q3 hps hjw hjl hj2 hkf x1 x2 x3 x4 hj2l hjr;go_wp2_with fail
  refine C74.out.mono ?_;clear C74;intro ev w9 hp;obtain⟨rfl,hkt,hgs⟩:=HG.out.know j HJR.out HKF.out HSS.out.ids (by rw[HXZ.out]) hp;have HG9:=hid hgs;have HL9:=hid (HL.out.kt (hkt 3 (by decide)));have HF9:=hid (HF.out.kt (hkt 3 (by decide)));clear hp hkt hgs;go_wp2_with fail
  go_roundg (fl-(q+1));case measure=>omega
  case rel =>
  refine⟨q+1,_,_,by go_num,rfl,by omega,HG9.out,HL9.out,HF9.out,hid (fun i hi=>?_)⟩;rw[qz _ _ _ _ _ HJ2L.out,yY 0 fd q (by rw[HFL.out];exact hq),HJ.out,WqX,WqJ];split
  ·rename_i e;subst e;exact⟨fun _=>.inr (.inr rfl),fun _=>rfl⟩
  rename_i e;rw[HK2.out i hi];constructor
  ·rintro(h | h)
   ·exact .inl h
   exact .inr (.inl h)
  rintro(h | h | h)
  ·exact .inl h
  ·exact .inr h
  exact absurd h e
 have hltI:(p:Int)<m:=by omega
 obtain⟨j,HJ⟩:=nm_ (ws.getD p 0);obtain⟨a9,c9,e9,-,hps⟩:=HX.out.wl.ps;obtain⟨wb,hwb,hwo,hcj⟩:=hps p (by rw[HM.out];exact hlt);injection e9 with q1 q2 q3;subst q1;subst hwb;rw[HJ.out] at hcj;have hjm:j ∈ ws:=by rw[<-HJ.out];exact zV ws p 0 (by rw[HM.out];exact hlt)
 obtain⟨hj1,hj2,hj3⟩:=HWL.out j hjm;have hE:=HEE.out (List.ne_nil_of_mem hjm);have hlen:ts1.length=ts.length:=HX.out.gs.len.trans HH.out.len.symm;obtain⟨ml,HML⟩:=nm_ ts1.length;have hjl:j<ml:=by rw[<-HML.out,hlen];exact hj1
 have hjlI:(j:Int)<ml:=by omega
 obtain⟨E',cap,C,hev,hcap,hGE,hC72,hat⟩:=HX.out.gs.ct.at (by rw[HML.out];omega);obtain rfl:E'=E:=by
  have h1:=hE;rw[hev] at h1;exact Wq9.inj h1
 rw[HML.out] at hev hcap;have cG:wr.cell? ⟨c.gc,0,none⟩=some (.slice (some ⟨E',0,none⟩) ml cap):=by rw[cell_of_row _ _ 0 _ _ _ HX.out.gs.ct.box,<-hev];rfl
 have hpw:p<wc:=by omega
 have hL1:Lf es (ts1.getD 0 dT).kn j=Lf es k0 j:=by rw[HX.out.kn 0,HK0.out]
 have hjr1:j ∉ rd1:=fun hm=>by
  rcases(HX.out.rd j).1 hm with h1 | ⟨h1,h2⟩
  ·exact hj2 h1
  obtain⟨q,hq,e⟩:=Wvq h1;rw[Wzz] at hq;rw[WvX] at e;have h3:=HJ.out;rw[List.getD_eq_getElem?_getD,List.getElem?_eq_getElem (by rw[HM.out];exact hlt)] at h3;have h4:ws[q]'(by omega)=ws[p]'(by rw[HM.out];exact hlt):=e.trans h3.symm;exact WvW.1 HND.out q p (by omega) (by rw[HM.out];exact hlt) (by omega) h4
 have HJR:=hid hjr1;have HHAT:=hid hat
 have HC72:=hid hC72;have HEV:=hid hev;have HJM:=hid hjm;have HHL:=hid hlen;clear q2 q3 hat hC72 hev hps hjm hlen hjr1;by_cases hL:Lf es k0 j=true
 ·have hkk:(es.getD j dE).kd=6/\k0=false:=by
   unfold Lf at hL;simpa using hL
  have h0l:0<ts1.length:=by rw[HML.out];omega
  have hwf0:Wf (ts1.getD 0 dT):=HX.out.gs.ct.wf _ (zV ts1 0 dT h0l);obtain⟨ao,no,co,hov⟩:=hwf0.ov;obtain⟨ok0,HOK0⟩:=nm_ ((ts1.getD 0 dT).ok);obtain⟨e1,e2⟩:=HX.out.gs.ent j (by rw[HML.out];exact hjl)
  have h76:=J6 HX.out.gs.ct E' hE j (by rw[HML.out];exact hjl) (by rw[e1];exact hkk.1) e2 ok0 (.slice ao no co) false HOK0.out hov (by rw[HX.out.kn 0,HK0.out];exact hkk.2);obtain⟨RO,HRO⟩:=nm_ ([.int .i64 ok0,.slice ao no co] : List Value);rw[show (#[.int .i64 ok0,.slice ao no co] : Array Value)=RO.toArray by rw[<-HRO.out]] at h76;have C76:=hid h76;have HL:=hid hL
  clear hwf0 hov e1 e2 h76 hkk hL h0l hL1;go_wp2_with fail
  refine C76.out.mono ?_;clear C76;rintro ev w1 ⟨rfl,hb1⟩;have hi27:(prog.info? 27).map (·.size)=some RO.length:=by rw[<-HRO.out];exact vK
  have J27:Hid ((prog.info? 27).map (·.size)=some RO.toArray.size):=hid (by rw[WqW];exact hi27);have E27:Hid (zo.size=RO.toArray.size):=hid (by rw[<-HZO.out,<-HRO.out];rfl);have O27:Hid (RO.toArray.all (·.oneCell')=true):=hid (by
   rw[<-HRO.out];refine all_oneCell_toArray (fun v hv=>?_);simp only[WxJ,WvV,or_false] at hv;rcases hv with rfl | rfl <;> rfl)
  obtain⟨H1,w2,HNA⟩:=nw 27 zo w1 RO;have hb2:Below w1.heap.size w1 w2:=by rw[HNA.out.h];exact HNA.out.below
  have HX2:=hid (HX.out.go (hb1.trans (hb2.mono hb1.size)));obtain⟨w3,HW3⟩:=nm_ (w2.alloc (.cells #[.int .i64 j] 3));obtain⟨gs,HGS⟩:=nm_ w2.heap.size;have hr23:=zu8 j w2;rw[HGS.out,HW3.out] at hr23;have hb3:Below w2.heap.size w2 w3:=by rw[<-HW3.out];exact(Below.refl _ w2).alloc (WzV _) _
  have HX3:=hid (HX2.out.go hb3);have hrs:w3.rangeAt gs 0 (zu7 j):=by rw[<-HW3.out,<-HGS.out];exact zx (heap_alloc_new _ _)
  have hwtl:((ws.take p).filter (Lf es k0)).length<=3000:=by
   have:=WvJ (Lf es k0) (ws.take p);rw[Wzz] at this;omega
  obtain⟨lv',w4,hrun,hl4,hg4,hm4⟩:=HX3.out.l.app j gs hrs hwtl 23;have HX4:Hid (R1 c K n es S0 ts rd ni si Mi k0 ws (.slice (some ⟨wb,0,none⟩) m wc) (p+1) w4 lv' u5 ts1 rd1):=hid (by
   have hX:=HX3.out;refine⟨hX.gs.mv (hX.gs.ct.own3 hX.l.own hX.gl (by decide) hg4) (Uj hX.l.own (by decide) hg4),?_,?_,hX.wl.by hg4 (fun b e e'=>?_),fun b e e'=>?_,hX.w0,hX.kn,fun i=>?_,hl4.le,hX.gl⟩
   ·rw[kY _ _ _ (by rw[HM.out];exact hlt),HJ.out,if_pos HL.out];exact hl4
   ·rw[kY _ _ _ (by rw[HM.out];exact hlt),HJ.out,if_neg (by rw[HL.out];decide)];exact hX.f.by hg4 (fun b e=>hX.d b e)
   ·have h1:=hX.w0 b e';have h2:=(zJ hX.l.own b e).1;omega
   ·exact YX hm4 (fun e2=>hX.d b e2 e') (zJ hX.f.own b e').2 e
   rw[hX.rd i,yY 0 ws p (by rw[HM.out];exact hlt),HJ.out,WqX,WqJ];constructor
   ·rintro(h | ⟨h1,h2⟩)
    ·exact .inl h
    exact .inr ⟨.inl h1,h2⟩
   rintro(h | ⟨h1 | h1,h2⟩)
   ·exact .inl h
   ·exact .inr ⟨h1,h2⟩
   rw[h1,HL.out] at h2;cases h2)
  have HF4:Hid (w4=w4):=hid rfl;have HRUN:=hid hrun;clear hb1 hb2 hb3 hrun hl4 hg4 hm4 hrs;go_wp2_with (first
   | (refine wpList_store_row rfl 27 _ _ rfl w1.heap.size RO.toArray rfl rfl 27 zo HNA.out.d J27.out E27.out O27.out ?_;rw[HNA.out.w,HNA.out.h])
   | (refine qw rfl _ (xw 23 1 (.tmp 36) (by rfl) (.int .i64 j) (.slice (some ⟨gs,0,none⟩) 1 1) (by rfl) hr23) ?_)
   | (refine qw rfl lv' (yy (.tmp 35) (.tmp 37) 23 (by rfl) (by rfl) (by rfl) HRUN.out) ?_)
   | fail)
  go_roundg (m-(p+1));case measure=>omega
  case rel=>exact⟨p+1,ts1,rd1,by go_num,rfl,by omega,HX4.out⟩
 have hLf:Lf es k0 j=false:=by simpa using hL
 obtain⟨x,happ,hxn,hxm,h76⟩:=zu9 HX.out.gs HSS.out E' hE j (by rw[HML.out];exact hjl) hj3 (by rw[hL1];exact hLf);have HXM:=hid hxm;obtain⟨RO,HRO⟩:=nm_ (yQ K x);rw[HRO.out] at h76;have C76:=hid h76;have HAPP:=hid happ;have HL:=hid hLf;have hi27:(prog.info? 27).map (·.size)=some RO.length:=by rw[<-HRO.out];exact vK
 have J27:Hid ((prog.info? 27).map (·.size)=some RO.toArray.size):=hid (by rw[WqW];exact hi27);have E27:Hid (zo.size=RO.toArray.size):=hid (by rw[<-HZO.out,<-HRO.out];rfl);have O27:Hid (RO.toArray.all (·.oneCell')=true):=hid (by rw[<-HRO.out];exact all_oneCell_toArray (jz K x));have hje:j<es.length:=by rw[<-HX.out.gs.len,HML.out];exact hjl
 have HOJ:=hid (HSS.out.ok j hje);have HOL:=hid (HSS.out.obl j hje);have HXN:=hid hxn;clear h76 hL hLf hL1 happ hxm hje hxn;go_wp2_with fail
 refine C76.out.mono ?_;clear C76;rintro ev w1 ⟨rfl,hb1⟩;obtain⟨H1,w2,HNA⟩:=nw 27 zo w1 RO;have hb2:Below w1.heap.size w1 w2:=by rw[HNA.out.h];exact HNA.out.below
 have hb12:=hb1.trans (hb2.mono hb1.size);have HX2:=hid (HX.out.go hb12);have HK2:Hid (K5 wr w2):=hid (q8 hb12);have HB2:Hid (w2.heap[H1]? = some (.cells RO.toArray 27 (0,0))):=hid HNA.out.box;have HC2:Hid (w2.heap[E']? = some (.cells C 72 (0,0))):=hid ((hb12.block _ (lt_of_some HC72.out)).trans HC72.out);clear hb1 hb2 hb12;go_wp2_with (first
  | (refine wpList_store_row rfl 27 _ _ rfl w1.heap.size RO.toArray rfl rfl 27 zo HNA.out.d J27.out E27.out O27.out ?_;rw[HNA.out.w,HNA.out.h])
  | fail)
 have hbd:Below w2.heap.size w2 w2.drew:=zk (Below.refl _ _) 1;have HX3:=hid (HX2.out.go hbd);have HK3:=hid (HK2.out.trans (q8 hbd));have HB3:Hid (w2.drew.heap[H1]? = some (.cells RO.toArray 27 (0,0))):=hid ((hbd.block _ (lt_of_some HB2.out)).trans HB2.out)
 have HC3:Hid (w2.drew.heap[E']? = some (.cells C 72 (0,0))):=hid ((hbd.block _ (lt_of_some HC2.out)).trans HC2.out);clear hbd;obtain⟨e1,e2⟩:=HX3.out.gs.ent j (by rw[HML.out];exact hjl);have hod:=HX3.out.gs.dd.own j (by rw[HML.out];exact hjl);rw[e1] at hod
 obtain⟨ad,cd,hdv,hSd⟩:=xW (⟨Below.refl _ _,qV hod (Wu0 _),Wu0 _⟩:Bd w2.drew w2.drew 0 _ (es.getD j dE).raw);obtain⟨rl,HRL⟩:=nm_ ((es.getD j dE).raw.length);rw[HRL.out] at hdv;have hwfj:Wf (ts1.getD j dT):=HX3.out.gs.ct.wf _ (zV ts1 j dT (by rw[HML.out];exact hjl));have h25:=(j3 _ hwfj).2.2.2.2.2.1;rw[hdv] at h25
 obtain⟨E2,cap2,C2,hev2,-,-,-,hat2⟩:=HX3.out.gs.ct.at (by rw[HML.out];omega);obtain rfl:E2=E':=by
  have h1:=hE;rw[hev2] at h1;exact Wq9.inj h1
 have hS:S97 H1 E2 j (.slice (some ⟨x.b,x.o,none⟩) n x.c) (.slice ad rl cd) w2.drew:=⟨by rw[cell_of_row _ _ 1 _ _ _ HB3.out,<-HRO.out,<-HXN.out];rfl,hat2 j (by rw[HML.out];exact hjl) 25 _ h25⟩;have hxo:=HXM.out w2.drew HK3.out HX3.out.gs.ct.es.below
 have C97:Hid (Calls prog 97 #[.slice (some ⟨x.b,x.o,none⟩) n x.c,.slice ad rl cd] w2.drew (Dl.PostA w2.drew (some (es.getD j dE).ob))):=hid (by
  have h:=Dl.apply_any (some ⟨x.b,x.o,none⟩) ad x.c cd x.zs (es.getD j dE).raw w2.drew (XY HOJ.out.isb) (by have:=HSS.out.hn;rw[HXN.out];omega) (by have:=HOJ.out.len;omega) (I3 (DK hxo)) (I3 hSd);rw[HAPP.out,HXN.out,HRL.out] at h;exact h)
 clear hod hdv hSd hwfj h25 hev2 hat2 hxo e1 e2;refine wp_region_held_drew (S:=S97 H1 E2 j (.slice (some ⟨x.b,x.o,none⟩) n x.c) (.slice ad rl cd)) (by kernel_rfl) hS (fun hHeld=>?_);clear hS;generalize w2.drew=w3 at hHeld C97 HX3 HK3 HB3 HC3 ⊢;iterate 6 (refine qk hHeld ?_;try simp only[Act.put,sL])
 refine wpAnyH_ready (rs:=[6]) (by kernel_rfl) (by simp) ?_;refine Dl.consL rfl (fun KK hKK=>?_) AllReadyH.nil;refine yz (by rfl) 97 [.tmp 41,.tmp 45] _ [.slice (some ⟨x.b,x.o,none⟩) n x.c,.slice ad rl cd] _ rfl rfl (qzV _ _) C97.out ?_;rintro e w4 ⟨hb4,v,rfl,hv4⟩;refine⟨_,rfl,?_⟩;have HX4:=hid (HX3.out.go hb4);have HV4:=hid hv4
 have HB4:Hid (w4.heap[H1]? = some (.cells RO.toArray 27 (0,0))):=hid ((hb4.block _ (lt_of_some HB3.out)).trans HB3.out);have HC4:Hid (w4.heap[E2]? = some (.cells C 72 (0,0))):=hid ((hb4.block _ (lt_of_some HC3.out)).trans HC3.out);have HSZ:Hid (w3.heap.size<=w4.heap.size):=hid hb4.size
 refine hKK.out _ _ ⟨(hb4.cell (p:=⟨H1,1,none⟩) (lt_of_some HB3.out)).trans hHeld.c1,(hb4.cell (p:=⟨E2,j*50+25,none⟩) (lt_of_some HC3.out)).trans hHeld.c25⟩ (fun hS4=>?_);clear hKK KK hb4 hv4 hHeld C97;try simp only[Act.put,sL]
 iterate 5 (refine qk hS4 ?_;try simp only[Act.put,sL])
 refine wpAnyH_done (by kernel_rfl) ?_ _;clear hS4;obtain⟨va,vc,hvv,-⟩:=xW (⟨Below.refl _ _,qV HV4.out (Wu0 _),Wu0 _⟩:Bd w4 w4 0 v (es.getD j dE).ob);rw[HOL.out] at hvv;subst hvv;have hgo:=HX4.out.gs.obj hE j (by rw[HML.out];exact hjl) HJR.out (.slice va n vc) ⟨va,n,vc,rfl⟩ (qV HV4.out (Wqx HX3.out.gl HX3.out.sz)) (fun i hi b hb hb2=>by
  have h1:=(zJ (HX3.out.gs.rdo i hi).2.2 b hb).2;have h2:=(zJ HV4.out b hb2).1;omega)
 obtain⟨hg5,hk5⟩:=hgo;obtain⟨w5,HW5⟩:=nm_ (w4.setCells E2 (j*50+28) [.int .i64 K,.slice va n vc]);rw[HW5.out] at hg5 hk5;obtain⟨tn,HTN⟩:=nm_ ({ ts1.getD j dT with ok:=K,ov:=.slice va n vc } : Et);rw[HTN.out] at hg5
 have HR5:Hid (Gs c K n es w5 (ts1.set j tn) (j :: rd1) ni si Mi/\Nl w5 S0 u4 ((ws.take p).filter (Lf es k0))/\Nl w5 S0 u5 ((ws.take p).filter fun j => !Lf es k0 j)/\Nl w5 c.G (.slice (some ⟨wb,0,none⟩) m wc) ws):=hid ⟨hg5,HX4.out.l.kt (hk5 3 (by decide)),HX4.out.f.kt (hk5 3 (by decide)),HX4.out.wl.kt (hk5 3 (by decide))⟩
 obtain⟨RV,HRV⟩:=nm_ ([.int .i64 K,.slice va n vc] : List Value);rw[HRV.out] at HW5;have HBU:Hid (prog.built 27 [(0,.int .i64 K),(1,.slice va n vc)]=some RV.toArray):=hid (by rw[qzK,<-HRV.out]);have hCs:w4.heap[E2]? = some (.cells C 72 (0,0)):=HC4.out;have JV:Hid ((prog.info? 27).map (·.size)=some RV.toArray.size):=hid (by rw[<-HRV.out];exact vK)
 have OV:Hid (RV.toArray.all (·.oneCell')=true):=hid (by
  rw[<-HRV.out];refine all_oneCell_toArray (fun v hv=>?_);simp only[WxJ,WvV,or_false] at hv;rcases hv with rfl | rfl <;> rfl)
 have HTH:Hid (w4.there E2 (j*50+28) RV.toArray.size):=hid (by
  obtain⟨E3,cap3,C3,hev3,-,-,hC3,hat3⟩:=HX4.out.gs.ct.at (by rw[HML.out];omega);obtain rfl:E3=E2:=by
   have h1:=hE;rw[hev3] at h1;exact Wq9.inj h1
  have hwf3:Wf (ts1.getD j dT):=HX4.out.gs.ct.wf _ (zV ts1 j dT (by rw[HML.out];exact hjl));have h50:=hwf3.len;intro q hq;rw[<-HRV.out] at hq;have hq2:q<2:=hq;obtain⟨u,hu⟩:∃ u,(qW (ts1.getD j dT))[28+q]? = some u:=⟨_,List.getElem?_eq_getElem (by omega)⟩;have hc:=hat3 j (by rw[HML.out];exact hjl) (28+q) u hu;rw[<-WzQ] at hc
  exact⟨by rw[hc];rfl,frozen_of_row _ _ _ _ 72 hC3⟩)
 have k0':w4.cell? ⟨H1,0,none⟩=some (.int .i64 K):=by rw[cell_of_row _ _ 0 _ _ _ HB4.out,<-HRO.out];rfl
 obtain⟨w6,HW6⟩:=nm_ (w5.alloc (.cells #[.int .i64 j] 3));obtain⟨gs,HGS⟩:=nm_ w5.heap.size;have hr23:=zu8 j w5;rw[HGS.out,HW6.out] at hr23;have hb6:Below w5.heap.size w5 w6:=by rw[<-HW6.out];exact(Below.refl _ w5).alloc (WzV _) _
 have hrs:w6.rangeAt gs 0 (zu7 j):=by rw[<-HW6.out,<-HGS.out];exact zx (heap_alloc_new _ _)
 have hwtl:((ws.take p).filter fun j => !Lf es k0 j).length<=3000:=by
  have:=WvJ (fun j => !Lf es k0 j) (ws.take p);rw[Wzz] at this;omega
 obtain⟨r1,r2,r3,r4⟩:=HR5.out;have q1:=r1.go hb6;have q2:=r2.moveB hb6;have q3:=r3.moveB hb6;have q4:=r4.moveB hb6;obtain⟨fv',w7,hrun,hl7,hg7,hm7⟩:=Nl.app q3 j gs hrs hwtl 23;have HX7:Hid (R1 c K n es S0 ts rd ni si Mi k0 ws (.slice (some ⟨wb,0,none⟩) m wc) (p+1) w7 u4 fv' (ts1.set j tn) (j :: rd1)):=hid (by
  have hX:=HX4.out;refine⟨q1.mv (q1.ct.own3 q3.own hX.gl (by decide) hg7) (Uj q3.own (by decide) hg7),?_,?_,Nl.by q4 hg7 (fun b e e'=>?_),fun b e e'=>?_,hX.w0,fun i=>?_,fun i=>?_,hl7.le,hX.gl⟩
  ·rw[kY _ _ _ (by rw[HM.out];exact hlt),HJ.out,if_neg (by rw[HL.out];decide)];exact Nl.by q2 hg7 (fun b e e'=>hX.d b e' e)
  ·rw[kY _ _ _ (by rw[HM.out];exact hlt),HJ.out,if_pos (by rw[HL.out];rfl)];exact hl7
  ·have h1:=hX.w0 b e';have h2:=(zJ q3.own b e).1;omega
  ·exact YX hm7 (fun e2=>hX.d b e e2) (zJ q2.own b e).2 e'
  ·rw[qz _ _ _ _ _ (by rw[HML.out];exact hjl)];split
   ·rename_i e;subst e;rw[<-HTN.out];exact hX.kn i
   exact hX.kn i
  rw[WxJ,hX.rd i,yY 0 ws p (by rw[HM.out];exact hlt),HJ.out,WqX,WqJ];constructor
  ·rintro(h | h | ⟨h1,h2⟩)
   ·exact .inr ⟨.inr h,by rw[h];exact HL.out⟩
   ·exact .inl h
   exact .inr ⟨.inl h1,h2⟩
  rintro(h | ⟨h1 | h1,h2⟩)
  ·exact .inr (.inl h)
  ·exact .inr (.inr ⟨h1,h2⟩)
  exact .inl h1)
 have HRUN:=hid hrun;clear hb6 hrun hl7 hg7 hm7 hrs r1 r2 r3 r4 q1 q2 q3 q4 hg5 hk5 hCs;go_wp2_with (first
  | (refine vV rfl 27 _ rfl RV.toArray (by simp only[List.map_toArray,List.map_cons,List.map_nil];exact HBU.out) ?_)
  | (refine wpList_store_mid rfl 27 _ _ rfl E2 (j*50+28) RV.toArray rfl rfl HTH.out JV.out OV.out ?_;simp only[];rw[HW5.out])
  | (refine qw rfl _ (xw 23 1 (.tmp 59) (by rfl) (.int .i64 j) (.slice (some ⟨gs,0,none⟩) 1 1) (by rfl) hr23) ?_)
  | (refine qw rfl fv' (yy (.tmp 58) (.tmp 60) 23 (by rfl) (by rfl) (by rfl) HRUN.out) ?_)
  | fail)
 go_roundg (m-(p+1));case measure=>omega
 case rel=>exact⟨p+1,_,_,by go_num,rfl,by omega,HX7.out⟩
def isD (es:List En) (j:Nat):Bool:=(es.getD j dE).kd == 6 || (es.getD j dE).kd == 7
theorem run27 (k:Int) (a:Option Addr) (m c:Nat) (w:World):(Instr.build 27 #[(0,.int .i64 k),(1,.slice a m c)]).run prog w=.ok (.agg #[.int .i64 k,.slice a m c]) w:=by kernel_rfl
theorem Tv (p:Nat->Bool):∀ l:List Nat,(l.filter p).length+(l.filter fun j => !p j).length=l.length
 | []=>rfl
 | x :: l=>by
  have:=Tv p l;cases h:p x <;> simp[h] <;> omega
theorem Uw {i j:Nat} : j ∈ WqK i ↔ j<i:=List.mem_range
structure S27 (E i kd:Nat) (dv:Value) (W:World):Prop where
 k:W.cell? ⟨E,i*50,none⟩=some (.int .i64 kd)
 d:W.cell? ⟨E,i*50+25,none⟩=some dv
structure O1 (c:Cx) (K n:Nat) (es:List En) (i:Nat) (wr:World) (wv:Value) (ts:List Et) (rd:List Nat) (ni:Nat) (Mi:List Int->Option Value):Prop where
 gs:Gs c K n es wr ts rd ni ni Mi
 wl:Nl wr c.G wv ((WqK i).filter (isD es))
 rr:∀ j,j ∈ rd ↔ j<i/\isD es j=false
 kn:∀ j,j<ts.length->((ts.getD j dT).kn=true ↔ j<i/\isD es j=false)
 ov:∀ j,j ∈ rd->(ts.getD j dT).ov=(ts.getD j dT).dv
 ct:ni+((WqK i).filter (isD es)).length=i
theorem O1.go {c:Cx} {K n:Nat} {es:List En} {i:Nat} {wr w':World} {wv:Value} {ts:List Et} {rd:List Nat} {ni:Nat} {Mi:List Int->Option Value} (h:O1 c K n es i wr wv ts rd ni Mi) (hb:Below wr.heap.size wr w'):O1 c K n es i w' wv ts rd ni Mi :=
 ⟨h.gs.go hb,h.wl.kt (q8 hb),h.rr,h.kn,h.ov,h.ct⟩
structure O2 (c:Cx) (K n:Nat) (es:List En) (r:Nat) (wr:World) (wv:Value) (ls:List Nat) (ts:List Et) (rd:List Nat) (ni:Nat) (Mi:List Int->Option Value):Prop where
 gs:Gs c K n es wr ts rd ni ni Mi
 wl:Nl wr c.G wv ls
 nd:ls.Nodup
 dl:∀ j ∈ ls,j<es.length/\isD es j=true
 rr:∀ j,j<es.length->(j ∈ rd ↔ j ∉ ls)
 kn:∀ j,j<es.length->((ts.getD j dT).kn=true ↔ j ∉ ls)
 ct:ni+ls.length=es.length
 p1:1<=r->0<es.length->(ts.getD 0 dT).kn=true
 p2:2<=r->ls=[]
theorem O2.next {c:Cx} {K n:Nat} {hs:List (List Int)} {es:List En} (hS:St c K n hs es) {r:Nat} {wr:World} {wv:Value} {ls:List Nat} {ts:List Et} {rd:List Nat} {ni:Nat} {Mi:List Int->Option Value} (h:O2 c K n es r wr wv ls ts rd ni Mi) {ev:Ending} {w':World} (hp:Ev c K n es wr ts rd ni ni (ts.getD 0 dT).kn ls ev w') :
  ∃ lv ls' ts' rd' ni' Mi',ev=.returned lv/\O2 c K n es (r+1) w' lv ls' ts' rd' ni' Mi':=by
 obtain⟨lv,ts',rd',Mi',e,h1,h2,h3,h4⟩:=hp;have hle:ts.length=es.length:=h.gs.len;refine⟨lv,_,ts',rd',_,Mi',e,h1,h2,h.nd.filter _,fun j hj=>h.dl j (WvK.1 hj).1,fun j hj=>?_,fun j hj=>?_,?_,fun _ h0=>?_,fun hr=>?_⟩
 ·rw[h3 j,h.rr j hj,WvK];constructor
  ·rintro(a | ⟨a,b⟩) ⟨p,q⟩
   ·exact a p
   rw[b] at q;cases q
  intro a;by_cases hm:j ∈ ls
  ·refine .inr ⟨hm,?_⟩;cases hq:Lf es (ts.getD 0 dT).kn j with
   | false=>rfl
   | true=>exact absurd ⟨hm,hq⟩ a
  exact .inl hm
 ·rw[h4 j (by omega),h.kn j hj,WvK];constructor
  ·rintro(a | ⟨a,b⟩) ⟨p,q⟩
   ·exact a p
   rw[b] at q;cases q
  intro a;by_cases hm:j ∈ ls
  ·refine .inr ⟨hm,?_⟩;cases hq:Lf es (ts.getD 0 dT).kn j with
   | false=>rfl
   | true=>exact absurd ⟨hm,hq⟩ a
  exact .inl hm
 ·have h5:=Tv (Lf es (ts.getD 0 dT).kn) ls;have h6:=h.ct;omega
 ·rw[h4 0 (by omega)];by_cases hm:0 ∈ ls
  ·refine .inr ⟨hm,?_⟩;have hk:=(hS.ok 0 h0).how;unfold Lf;have hK:=hS.hK;rcases hk with ⟨a,_⟩ | ⟨_,a,_⟩ | ⟨a,_⟩
   ·rw[a];simp;omega
   ·omega
   rw[a];rfl
  exact .inl ((h.kn 0 h0).2 hm)
 by_cases h0:0<es.length
 ·have hk:=h.p1 (by omega) h0;rw[hk];refine List.filter_eq_nil_iff.2 (fun j _=>?_);unfold Lf;simp
 have:ls=[]:=by
  rcases ls with _ | ⟨x,l⟩
  ·rfl
  exact absurd (h.dl x (by simp)).1 (by omega)
 rw[this];rfl
def zuz (c:Cx) (K n:Nat) (es:List En) (ev:Ending) (w':World):Prop :=
 ev=.returned (.tuple #[])/\∃ ts rd Mi,Gs c K n es w' ts rd es.length es.length Mi/\(∀ j,j<es.length->j ∈ rd/\(ts.getD j dT).kn=true)
theorem Cy {c:Cx} {K n:Nat} {hs:List (List Int)} {es:List En} (hS:St c K n hs es) {w:World} {ts:List Et} (h:Gs c K n es w ts [] 0 0 (fun _=>none)) (hk0:∀ j,j<ts.length->(ts.getD j dT).kn=false) :
  Calls prog 44 #[.pointer (some ⟨c.gc,0,none⟩)] w (zuz c K n es):=by
 obtain⟨m,HM⟩:=nm_ es.length;have HSS:=hid hS;have hml:m<=100:=by rw[<-HM.out];exact hS.ln
 have HO:Hid (O1 c K n es 0 w (.slice none 0 0) ts [] 0 (fun _=>none)):=hid ⟨h,⟨Below.refl _ _,⟨rfl,.inl ⟨rfl,rfl⟩⟩,h.ct.es.le⟩,fun j=>by simp,fun j hj=>by rw[hk0 j hj];simp,(fun j hj=>by cases hj),rfl⟩;obtain⟨cv,HCV⟩:=nm_ c.ev;have HSL:Hid (∃ a cap,cv=.slice a m cap):=hid (by
  obtain⟨a,cap,e1,-⟩:=Bx.px (d:=dT) h.ct.es (fun x hx=>(h.ct.wf x hx).len);rw[HCV.out,h.len,HM.out] at e1;exact⟨a,cap,e1⟩)
 obtain⟨ea,ecap,hcv⟩:=HSL.out;have cG:w.cell? ⟨c.gc,0,none⟩=some (.slice ea m ecap):=by rw[cell_of_row _ _ 0 _ _ _ h.ct.box,<-hcv,<-HCV.out];rfl
 have HCV2:Hid (c.ev=.slice ea m ecap):=hid (by rw[HCV.out];exact hcv);clear hS h hk0 hcv;go_enter func44,ntmps44;go_wp2_with fail
 go_loopg [10,2] m (fun g iv wv wr=>∃ (i:Nat) (ts1:List Et) (rd1:List Nat) (ni:Nat) (Mi:List Int->Option Value),iv=.int .i64 i/\g=m-i/\i<=m/\Hid (O1 c K n es i wr wv ts1 rd1 ni Mi));case atStart=>exact⟨0,ts,[],0,_,rfl,rfl,by omega,HO.out⟩
 obtain⟨i,ts1,rd1,ni,Mi,rfl,hg,him,HX⟩:=hrel;by_cases hlt:i<m;rotate_left
 ·have hltI:¬ (i:Int)<m:=by omega
  obtain rfl:i=m:=by omega
  have HO2:Hid (O2 c K n es 0 wr u2 ((WqK i).filter (isD es)) ts1 rd1 ni Mi):=hid (by
   have hX:=HX.out;have hle:ts1.length=i:=(by rw[hX.gs.len,HM.out]);refine⟨hX.gs,hX.wl,List.nodup_range.filter _,fun j hj=>?_,fun j hj=>?_,fun j hj=>?_,by rw[HM.out];exact hX.ct,fun h=>by omega,fun h=>by omega⟩
   ·have:=WvK.1 hj;exact⟨by rw[HM.out];exact Uw.1 this.1,this.2⟩
   ·rw[hX.rr j,WvK,Uw];rw[HM.out] at hj;constructor
    ·rintro⟨a,b⟩ ⟨p,q⟩;rw[b] at q;cases q
    intro a;refine⟨hj,?_⟩;cases hq:isD es j with
    | false=>rfl
    | true=>exact absurd ⟨hj,hq⟩ a
   rw[HM.out] at hj;rw[hX.kn j (by omega),WvK,Uw];constructor
   ·rintro⟨a,b⟩ ⟨p,q⟩;rw[b] at q;cases q
   intro a;refine⟨hj,?_⟩;cases hq:isD es j with
   | false=>rfl
   | true=>exact absurd ⟨hj,hq⟩ a)
  go_wp2_with fail
  go_loopg [45,2] 20 (fun g iv wv wr=>∃ (r:Nat) (ls:List Nat) (ts2:List Et) (rd2:List Nat) (ni2:Nat) (Mi2:List Int->Option Value),iv=.int .i64 r/\g=20-r/\r<=20/\Hid (O2 c K n es r wr wv ls ts2 rd2 ni2 Mi2));case atStart=>exact⟨0,_,_,_,_,_,rfl,rfl,by omega,HO2.out⟩
  obtain⟨r,ls,ts2,rd2,ni2,Mi2,rfl,hg2,hr2,HY⟩:=hrel;by_cases hr:r<20;rotate_left
  ·have hrI:¬ (r:Int)<20:=(by omega);have HFIN:Hid (zuz c K n es (.returned (.tuple #[])) wr):=hid (by
    have hY:=HY.out;have hnil:=hY.p2 (by omega);have hct:=hY.ct;rw[hnil] at hct;have hnn:ni2=es.length:=(by simpa using hct);have hgs:=hY.gs;rw[hnn] at hgs;refine⟨rfl,ts2,rd2,Mi2,hgs,fun j hj=>⟨(hY.rr j hj).2 (by rw[hnil];simp),(hY.kn j hj).2 (by rw[hnil];simp)⟩⟩)
   go_wp2_with fail
   exact bodyPost_end (results_none (by rfl) _ _ _) rfl HFIN.out
  have hrI:(r:Int)<20:=by omega
  have hl2:ts2.length=es.length:=HY.out.gs.len;have hE2:Hid (∃ E,ls ≠ []->c.ev.ownBlock=some E):=hid (by
   by_cases h0:0<ts2.length
   ·obtain⟨E,cap,C,hev,-⟩:=HY.out.gs.ct.at h0;exact⟨E,fun _=>by rw[hev];rfl⟩
   refine⟨0,fun h=>?_⟩;rcases ls with _ | ⟨x,l⟩
   ·exact absurd rfl h
   have:=(HY.out.dl x (by simp)).1;omega)
  obtain⟨E,hE3⟩:=hE2.out;have hct:=HY.out.ct;have C75:=hid (zzK HSS.out HY.out.gs E (by have:=HSS.out.ln;omega) _ ls hE3 HY.out.wl (fun j hj=>by
   obtain⟨h1,h2⟩:=HY.out.dl j hj;refine⟨by omega,fun h3=>(HY.out.rr j h1).1 h3 hj,?_⟩;unfold isD at h2;simpa using h2) HY.out.nd (by have:=HSS.out.ln;omega))
  clear hE3 hct hl2;go_wp2_with fail
  refine C75.out.mono ?_;clear C75;intro ev w9 hp;obtain⟨lv,ls',ts',rd',ni',Mi',rfl,h9⟩:=HY.out.next HSS.out hp;have HY9:=hid h9;clear hp h9;go_wp2_with fail
  go_roundg (20-(r+1));case measure=>omega
  case rel=>exact⟨r+1,_,_,_,_,_,by go_num,rfl,by omega,HY9.out⟩
 have hltI:(i:Int)<m:=by omega
 have hl1:ts1.length=m:=by rw[HX.out.gs.len,HM.out]
 obtain⟨E,cap,C,hev,hcap,hGE,hC72,hat⟩:=HX.out.gs.ct.at (by omega);have hee:=HCV2.out;rw[hev] at hee;injection hee with q1 q2 q3;subst q1;have HE:Hid (c.ev.ownBlock=some E):=hid (by rw[hev];rfl);have cG1:wr.cell? ⟨c.gc,0,none⟩=some (.slice (some ⟨E,0,none⟩) m ecap):=by rw[cell_of_row _ _ 0 _ _ _ HX.out.gs.ct.box,HCV2.out];rfl
 have hwf:Wf (ts1.getD i dT):=HX.out.gs.ct.wf _ (zV ts1 i dT (by omega));obtain⟨e,HEE⟩:=nm_ (es.getD i dE);obtain⟨e1,e2⟩:=HX.out.gs.ent i (by omega);rw[HEE.out] at e1;have hai:=hat i (by omega);have hil:i<es.length:=by rw[HM.out];exact hlt
 have HOK:Hid (Ok K hs es i e):=hid (by rw[<-HEE.out];exact HSS.out.ok i hil);obtain⟨RH,HRH⟩:=nm_ (hdV e.kd e.raw.length e.d e.id);have HRG:Hid (wr.rangeAt E (i*50) RH):=hid (fun j v hj=>by
  refine hai j v ?_;rw[<-HRH.out] at hj;unfold qW;rw[e1];unfold hdV at hj;rw[<-Wz3,<-Wz3,<-Wz3,List.getElem?_append_left (List.getElem?_eq_some_iff.1 hj).1];exact hj)
 have hi70:(prog.info? 70).map (·.size)=some RH.length:=by rw[<-HRH.out,xy,HOK.out.idl];exact Z3
 have hkd:=HOK.out.kd8 HSS.out.hK;have C73:=hid (UY e.kd e.raw.length e.d e.id wr);rw[HRH.out] at C73;have HD:Hid (isD es i=decide (e.kd=6 ∨ e.kd=7)):=hid (by
  unfold isD;rw[HEE.out];by_cases h6:e.kd=6 <;> by_cases h7:e.kd=7 <;> simp[h6,h7])
 have HL1:=hid hl1;have HIL:=hid hil;have HHAT:=hid hat
 have HWF:=hid hwf;have HE1:=hid e1;have HC72:=hid hC72;clear hev q2 q3 hat hC72 hwf e1 e2 hai hl1 hil;by_cases hd:isD es i=true
 ·have HDD:=hid hd;rw[<-HD.out,hd] at C73;clear hd;obtain⟨w3,HW3⟩:=nm_ ((fun w=>w.alloc (.cells #[.int .i64 i] 3)):World->World);go_wp2_with (first
   | refine wpList_load_mid rfl 70 _ rfl E (i*50) rfl RH _ HRG.out underlying70 rfl hi70 ?_
   | fail)
  refine C73.out.mono ?_;clear C73;rintro ev w2 ⟨rfl,hb2⟩;have HX2:=hid (HX.out.go hb2);obtain⟨w3,HW3⟩:=nm_ (w2.alloc (.cells #[.int .i64 i] 3));obtain⟨gs,HGS⟩:=nm_ w2.heap.size;have hr23:=zu8 i w2;rw[HGS.out,HW3.out] at hr23;have hb3:Below w2.heap.size w2 w3:=by rw[<-HW3.out];exact(Below.refl _ w2).alloc (WzV _) _
  have HX3:=hid (HX2.out.go hb3);have hrs:w3.rangeAt gs 0 (zu7 i):=by rw[<-HW3.out,<-HGS.out];exact zx (heap_alloc_new _ _)
  have hwtl:((WqK i).filter (isD es)).length<=3000:=by
   have:=HX.out.ct;omega
  obtain⟨lv',w4,hrun,hl4,hg4,hm4⟩:=HX3.out.wl.app i gs hrs hwtl 23;have HX4:Hid (O1 c K n es (i+1) w4 lv' ts1 rd1 ni Mi):=hid (by
   have hX:=HX3.out;have hrg:(WqK (i+1)).filter (isD es)=(WqK i).filter (isD es)++[i]:=by
    rw[WvY,Wvy,WvZ HDD.out,WvQ]
   refine⟨hX.gs.mv (hX.gs.ct.own3 hX.wl.own (WzV _) (by decide) hg4) (Uj hX.wl.own (by decide) hg4),by rw[hrg];exact hl4,fun j=>?_,fun j hj=>?_,hX.ov,by rw[hrg,List.length_append,<-WzQ,hX.ct];rfl⟩
   ·rw[hX.rr j];constructor
    ·rintro⟨a,b⟩;exact⟨by omega,b⟩
    rintro⟨a,b⟩;refine⟨?_,b⟩;rcases WzW j i with h | h
    ·exact h
    obtain rfl:j=i:=(by omega);rw[HDD.out] at b;cases b
   rw[hX.kn j hj];constructor
   ·rintro⟨a,b⟩;exact⟨by omega,b⟩
   rintro⟨a,b⟩;refine⟨?_,b⟩;rcases WzW j i with h | h
   ·exact h
   obtain rfl:j=i:=(by omega);rw[HDD.out] at b;cases b)
  have HRUN:=hid hrun;clear hb2 hb3 hrun hl4 hg4 hm4 hrs;go_wp2_with (first
   | (refine qw rfl _ (xw 23 1 (.tmp 25) (by rfl) (.int .i64 i) (.slice (some ⟨gs,0,none⟩) 1 1) (by rfl) hr23) ?_)
   | (refine qw rfl lv' (yy (.tmp 24) (.tmp 26) 23 (by rfl) (by rfl) (by rfl) HRUN.out) ?_)
   | fail)
  go_roundg (m-(i+1));case measure=>omega
  case rel=>exact⟨i+1,ts1,rd1,ni,Mi,by go_num,rfl,by omega,HX4.out⟩
 have hdf:isD es i=false:=by simpa using hd
 have HDD:=hid hdf;rw[<-HD.out,hdf] at C73;have hhow:e.kd=K/\e.raw=e.ob:=by
  have h1:=HD.out;rw[hdf] at h1;have h2:¬ (e.kd=6 ∨ e.kd=7):=by
   intro h;rw[decide_eq_true h] at h1;cases h1
  rcases HOK.out.how with ⟨a,b,_⟩ | ⟨a,_⟩ | ⟨a,_⟩
  ·exact⟨a,b⟩
  ·exact absurd (.inl a) h2
  exact absurd (.inr a) h2
 have HHOW:=hid hhow;clear hd hdf hhow;go_wp2_with (first
  | refine wpList_load_mid rfl 70 _ rfl E (i*50) rfl RH _ HRG.out underlying70 rfl hi70 ?_
  | fail)
 refine C73.out.mono ?_;clear C73;rintro ev w2 ⟨rfl,hb2⟩;have HX2:=hid (HX.out.go hb2);clear hb2;go_wp2_with fail
 have hbd:Below w2.heap.size w2 w2.drew:=zk (Below.refl _ _) 1;have HX3:=hid (HX2.out.go hbd);clear hbd;have hod:=HX3.out.gs.dd.own i (by rw[HL1.out];exact hlt);rw[HE1.out] at hod;obtain⟨ad,cd,hdv,hSd⟩:=xW (⟨Below.refl _ _,qV hod (Wu0 _),Wu0 _⟩:Bd w2.drew w2.drew 0 _ e.raw);obtain⟨rl,HRL⟩:=nm_ e.raw.length;rw[HRL.out] at hdv
 obtain⟨x0,-,-,-,-,x25,-⟩:=j3 _ HWF.out;rw[HE1.out] at x0;rw[hdv] at x25;obtain⟨E2,cap2,C2,hev2,-,-,hC2,hat2⟩:=HX3.out.gs.ct.at (by rw[HL1.out];omega);obtain rfl:E2=E:=by
  have h1:=HE.out;rw[hev2] at h1;exact Wq9.inj h1
 have hi2:=hat2 i (by rw[HL1.out];exact hlt);have hS:S27 E2 i e.kd (.slice ad rl cd) w2.drew:=⟨hi2 0 _ x0,hi2 25 _ x25⟩;have HDV:=hid hdv;have hgo:=HX3.out.gs.obj HE.out i (by rw[HL1.out];exact hlt) (fun hm=>by have:=(HX3.out.rr i).1 hm;omega) (.slice ad rl cd) ⟨ad,rl,cd,rfl⟩ (by rw[HEE.out,<-HHOW.out.2,<-hdv];exact hod) (fun j hj b hb=>by
  have h1:=(HX3.out.rr j).1 hj;rw[HX3.out.ov j hj] at hb;rw[<-hdv];exact HX3.out.gs.dd.ap j i b h1.1 (by rw[HL1.out];exact hlt) hb)
 obtain⟨hg5,hk5⟩:=hgo;obtain⟨w5,HW5⟩:=nm_ (w2.drew.setCells E2 (i*50+28) [.int .i64 K,.slice ad rl cd]);rw[HW5.out] at hg5 hk5;obtain⟨tn,HTN⟩:=nm_ ({ ts1.getD i dT with ok:=K,ov:=.slice ad rl cd } : Et);rw[HTN.out] at hg5;obtain⟨RV,HRV⟩:=nm_ ([.int .i64 e.kd,.slice ad rl cd] : List Value)
 have HKK:Hid (([.int .i64 K,.slice ad rl cd] : List Value)=RV):=hid (by rw[<-HRV.out,HHOW.out.1]);rw[HKK.out] at HW5;have HWL:=hid (HX3.out.wl.kt (hk5 3 (by decide)));have HG5:=hid hg5;have hr27:∀ w:World,(Instr.build 27 #[(0,.int .i64 e.kd),(1,.slice ad rl cd)]).run prog w=.ok (.agg RV.toArray) w:=fun w=>by rw[run27,<-HRV.out]
 have JV:Hid ((prog.info? 27).map (·.size)=some RV.toArray.size):=hid (by rw[<-HRV.out];exact vK);have OV:Hid (RV.toArray.all (·.oneCell')=true):=hid (by
  rw[<-HRV.out];refine all_oneCell_toArray (fun v hv=>?_);simp only[WxJ,WvV,or_false] at hv;rcases hv with rfl | rfl <;> rfl)
 have HTH:Hid (w2.drew.there E2 (i*50+28) RV.toArray.size):=hid (by
  have h50:=HWF.out.len;intro q hq;rw[<-HRV.out] at hq;have hq2:q<2:=hq;obtain⟨u,hu⟩:∃ u,(qW (ts1.getD i dT))[28+q]? = some u:=⟨_,List.getElem?_eq_getElem (by omega)⟩;have hc:=hi2 (28+q) u hu;rw[<-WzQ] at hc;exact⟨by rw[hc];rfl,frozen_of_row _ _ _ _ 72 hC2⟩)
 have HXS:=HX3;clear hod hdv hSd x0 x25 hev2 hC2 hat2 hi2 hg5 hk5;refine Dl.region_U (S27 E2 i e.kd (.slice ad rl cd)) 13 (by kernel_rfl) ?_;generalize w2.drew=w3 at hS HX3 HXS HTH HW5 ⊢;iterate 1 (refine zK 0 hS ?_;try simp only[Act.put,sL])
 iterate 1 (refine zK 1 hS ?_;try simp only[Act.put,sL])
 iterate 1 (refine zK 2 hS ?_;try simp only[Act.put,sL])
 iterate 1 (refine zK 3 hS ?_;try simp only[Act.put,sL])
 iterate 1 (refine zK 4 hS ?_;try simp only[Act.put,sL])
 iterate 1 (refine zK 5 hS ?_;try simp only[Act.put,sL])
 iterate 1 (refine zK 6 hS ?_;try simp only[Act.put,sL])
 iterate 1 (refine zK 7 hS ?_;try simp only[Act.put,sL])
 iterate 1 (refine zK 8 hS ?_;try simp only[Act.put,sL])
 iterate 1 (refine zK 9 hS ?_;try simp only[Act.put,sL])
 refine Dl.takeU (i:=10) (v:=.agg RV.toArray) rfl (by kernel_rfl) (by kernel_rfl) (by kernel_rfl) (by kernel_rfl) (fun _ _ _ h=>h) (Or.inl ⟨by rfl,fun w' _=>VX 27 (.tmp 33) (.tmp 37) (by rfl) _ _ _ (by rfl) (by rfl) (hr27 w')⟩) hS ?_;try simp only[Act.put,sL]
 iterate 1 (refine G6 11 12 hS ?_;try simp only[Act.put,sL])
 iterate 1 (refine zK 12 hS ?_;try simp only[Act.put,sL])
 refine Dl.readyU1 (i:=13) (by kernel_rfl) ?_;refine Dl.consU rfl (fun KK hKK=>?_);refine step_skip (by rfl) (YV 27 (.tmp 40) (.tmp 38) (by rfl) E2 (i*50+28) RV.toArray (by rfl) (by rfl) HTH.out JV.out OV.out) ?_;refine hKK.out _ _ (.inl rfl) ?_;clear hKK KK;try simp only[Act.put,sL]
 refine Dl.doneU (by kernel_rfl) ?_ _;rw[show w3.setCells E2 (i*50+28) RV.toArray.toList=w5 from HW5.out];obtain⟨xo,y1,y2,y3,y4⟩:=HG5.out.oz HSS.out i (by simp);have hl5:i<(ts1.set i tn).length:=by rw[Wvk,HL1.out];exact hlt
 have hni:ni<=1000:=by have:=HX.out.ct;omega
 have C74:Hid (Calls prog 74 #[.pointer (some ⟨c.gc,0,none⟩),.int .i64 i] w5 (G9 c.w0 w5 c.G c.gc c.gb c.gi c.gx (ts1.set i tn) c.ev c.nb c.sb c.Mb ni ni Mi c.nx c.sx c.Mx i (idZ K xo.zs))):=hid (Ck K n HSS.out.hK HSS.out.hn HG5.out.ct HSS.out.tab hni i hl5 xo y1 y2 y4);have HXZ:=hid y3;have HKF:Hid ((ts1.set i tn).getD i dT=tn/\tn.kn=false/\tn.ov=tn.dv):=hid (by
  refine⟨ZX _ _ _ _ (by rw[HL1.out];exact hlt),?_,?_⟩
  ·rw[<-HTN.out];show (ts1.getD i dT).kn=false;cases hk:(ts1.getD i dT).kn with
   | false=>rfl
   | true=>have:=(HX.out.kn i (by rw[HL1.out];exact hlt)).1 hk;omega
  rw[<-HTN.out];exact HDV.out.symm)
 clear hS y1 y2 y3 y4 hl5;go_wp2_with fail
 refine C74.out.mono ?_;clear C74;intro ev w9 hp;obtain⟨rfl,hkt,hgs⟩:=HG5.out.know i (by simp) (by rw[HKF.out.1];exact HKF.out.2.1) HSS.out.ids (by rw[HXZ.out]) hp;rw[List.set_set,HKF.out.1] at hgs;have HX9:Hid (∃ ts9 Mi9,O1 c K n es (i+1) w9 u2 ts9 (i :: rd1) (ni+1) Mi9):=hid (by
  have hrg:(WqK (i+1)).filter (isD es)=(WqK i).filter (isD es):=by
   rw[WvY,Wvy,Wvu (by rw[HDD.out];decide),WvQ,Wz2]
  refine⟨_,_,hgs,by rw[hrg];exact HWL.out.kt (hkt 3 (by decide)),fun j=>?_,fun j hj=>?_,fun j hj=>?_,by rw[hrg];have:=HX.out.ct;omega⟩
  ·rw[WxJ,HX.out.rr j];constructor
   ·rintro(h | ⟨a,b⟩)
    ·rw[h];exact⟨by omega,HDD.out⟩
    exact⟨by omega,b⟩
   rintro⟨a,b⟩;rcases WzW j i with h | h
   ·exact .inr ⟨h,b⟩
   exact .inl (by omega)
  ·rw[Wvk] at hj;rw[qz _ _ _ _ _ (by rw[HL1.out];exact hlt)];split
   ·rename_i h;rw[h];exact⟨fun _=>⟨by omega,HDD.out⟩,fun _=>rfl⟩
   rename_i h;rw[HX.out.kn j hj];constructor
   ·rintro⟨a,b⟩;exact⟨by omega,b⟩
   rintro⟨a,b⟩;exact⟨by omega,b⟩
  rw[qz _ _ _ _ _ (by rw[HL1.out];exact hlt)];split
  ·exact HKF.out.2.2
  rename_i h;rcases WxJ.1 hj with h2 | h2
  ·exact absurd h2 h
  exact HX.out.ov j h2)
 clear hp hkt hgs;go_wp2_with fail
 go_roundg (m-(i+1));case measure=>omega
 case rel =>
 obtain⟨ts9,Mi9,h9⟩:=HX9.out;exact⟨i+1,ts9,_,ni+1,Mi9,by go_num,rfl,by omega,h9⟩
end Go.Proofs.YtiaaekdpfpaigaaGreatDoor.Pk
