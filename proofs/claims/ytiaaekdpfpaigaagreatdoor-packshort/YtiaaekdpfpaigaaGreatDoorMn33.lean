import Derived.Test.YtiaaekdpfpaigaaGreatDoorMn32
set_option linter.unusedSimpArgs false
set_option linter.unusedVariables false
set_option maxRecDepth 20000
set_option maxHeartbeats 4000000
open List renaming length_take->Wzz,map_cons->Wxj,map_nil->Wxk,map_toArray->Wxy,size_toArray->WqW,take_length->WxW
open Nat renaming le_refl->WzV,lt_or_ge->WzW
namespace Go.Proofs.YtiaaekdpfpaigaaGreatDoor.Pk
open Go.Proofs.Tryz
open Go.RowKit Go.Maps Go.Proofs.YtiaaekdpfpaigaaGreatDoor.Id Go.Proofs.YtiaaekdpfpaigaaGreatDoor.Px
structure S45 (gc gi n:Nat) (ev:Value) (W:World):Prop where
 c0:W.cell? ⟨gc,0,none⟩=some ev
 c2:W.cell? ⟨gc,2,none⟩=some (.map (some gi))
 ln:(Builtin.len_ #[64] 3 #[.map (some gi)]).run prog W=.ok (.int .i64 n) W
theorem zuq {P:Program} {o:Oper} {a:Act} {w w':World} {v1 v:Value} (x:Operand) (t:TypeId) (ho:o.op=.call { callee:=.builtin .len,args:=#[x],argTypes:=#[t] }) (hx:a.eval x=v1) (hr:(Builtin.len_ #[t] o.type #[v1]).run P w=.ok v w'):(execOp a.eval o).run P w=.ok (.value v) w':=by
 unfold execOp;simp only[ho,resolve,invoke,builtin,Sem.run_bind,Sem.run_pure,Result.andThen_ok,Wxy,Wxj,Wxk,hx,hr]
theorem zzV {c:Cx} {K n:Nat} {es:List En} {w:World} {ts:List Et} {rd:List Nat} {Mi:List Int->Option Value} (h:Gs c K n es w ts rd es.length es.length Mi) (hk:∀ j,j<es.length->(ts.getD j dT).kn=true) (hm:es.length<=100) :
  Calls prog 45 #[.pointer (some ⟨c.gc,0,none⟩)] w fun e w'=>e=.returned .nilIface/\Below w.heap.size w w':=by
 obtain⟨m,HM⟩:=nm_ es.length;obtain⟨cv,HCV⟩:=nm_ c.ev;have HSL:Hid (∃ a cap,cv=.slice a m cap):=hid (by
  obtain⟨a,cap,e1,-⟩:=Bx.px (d:=dT) h.ct.es (fun x hx=>(h.ct.wf x hx).len);rw[HCV.out,h.len,HM.out] at e1;exact⟨a,cap,e1⟩)
 obtain⟨ea,ecap,hcv⟩:=HSL.out;have cG:w.cell? ⟨c.gc,0,none⟩=some (.slice ea m ecap):=by rw[cell_of_row _ _ 0 _ _ _ h.ct.box,<-hcv,<-HCV.out];rfl
 have HCV2:Hid (c.ev=.slice ea m ecap):=hid (by rw[HCV.out];exact hcv);have HH:=hid h;have HK:=hid hk;have hml:m<=100:=by rw[<-HM.out];exact hm
 clear h hk hcv hm;go_enter func45,ntmps45;go_wp2_with fail
 go_loopg [12] m (fun g iv wr=>∃ i:Nat,iv=.int .i64 i/\g=m-i/\i<=m/\Hid (Below w.heap.size w wr));case atStart=>exact⟨0,rfl,rfl,by omega,Below.refl _ _⟩
 obtain⟨i,rfl,hg,him,HX⟩:=hrel;have HC:=hid (HH.out.ct.go HX.out);by_cases hlt:i<m
 ·have hltI:(i:Int)<m:=by omega
  have hl1:ts.length=m:=by rw[HH.out.len,HM.out]
  obtain⟨E,cap,C,hev,hcap,hGE,hC72,hat⟩:=HC.out.at (by omega);have hee:=HCV2.out;rw[hev] at hee;injection hee with q1 q2 q3;subst q1;have cG1:wr.cell? ⟨c.gc,0,none⟩=some (.slice (some ⟨E,0,none⟩) m ecap):=by rw[cell_of_row _ _ 0 _ _ _ HC.out.box,HCV2.out];rfl
  have hwf:Wf (ts.getD i dT):=HC.out.wf _ (zV ts i dT (by omega));have x27:=(j3 _ hwf).2.2.2.2.2.2.2.1;rw[HK.out i (by rw[HM.out];exact hlt)] at x27;have c27:wr.cell? ⟨E,i*50+27,none⟩=some (.bool true):=hat i (by omega) 27 _ x27;have hcm:m<=ecap:=by omega
  clear hev q2 q3 hat hC72 hwf x27 hl1;go_wp2_with fail
  go_roundg (m-(i+1));case measure=>omega
  case rel=>exact⟨i+1,by go_num,rfl,by omega,HX.out⟩
 have hltI:¬ (i:Int)<m:=by omega
 obtain rfl:i=m:=by omega
 go_wp2_with fail
 have hbd:Below wr.heap.size wr wr.drew:=zk (Below.refl _ _) 1;have HX2:=hid (HX.out.trans (hbd.mono HX.out.size));have HC2:=hid (HC.out.go hbd);have hS:S45 c.gc c.gi i (.slice ea i ecap) wr.drew:=⟨by rw[cell_of_row _ _ 0 _ _ _ HC2.out.box,HCV2.out];rfl,by rw[cell_of_row _ _ 2 _ _ _ HC2.out.box];rfl,by
  have:=HC2.out.im.len I2 3;rw[HM.out] at this;exact this⟩
 clear hbd;refine wp_region_held_drew (S:=S45 c.gc c.gi i (.slice ea i ecap)) (by kernel_rfl) hS (fun hHeld=>?_);clear hS;generalize wr.drew=w2 at hHeld HX2 HC2 ⊢;iterate 4 (refine qk hHeld ?_;try simp only[Act.put,sL])
 refine Dl.takeL (i:=4) (v:=.int .i64 i) rfl (by kernel_rfl) (by kernel_rfl) (by kernel_rfl) (fun _ _ _ h=>h) (Or.inl ⟨by rfl,fun w' h=>zuq (.tmp 38) 64 (by rfl) (by rfl) h.ln⟩) hHeld ?_;try simp only[Act.put,sL]
 iterate 5 (refine qk hHeld ?_;try simp only[Act.put,sL])
 have hii:¬ (i:Int)<i:=by omega
 refine kw (v:=.bool false) 10 hHeld ?_;try simp only[Act.put,sL]
 refine wpAnyH_done (by kernel_rfl) ?_ _;clear hHeld;go_wp2_with fail
 go_ret;exact⟨rfl,HX2.out⟩
theorem qzW (kd:Nat) (R:List Value) (h0:R[0]? = some (.int .i64 kd)) (w:World) :
  Calls prog 72 #[.agg R.toArray] w fun e w'=>e=.returned (.bool (decide (kd=7)))/\Below w.heap.size w w':=by
 obtain⟨A,HA⟩:=nm_ R.toArray;have c0:(w.alloc (.cells A 72)).cell? ⟨w.heap.size,0,none⟩=some (.int .i64 kd):=by
  rw[cell_of_row _ _ 0 _ _ _ (heap_alloc_new w (.cells A 72)),<-HA.out];simpa using h0
 have HB:Hid (Below w.heap.size w (w.alloc (.cells A 72))):=hid ((Below.refl _ w).alloc (WzV _) _);rw[HA.out];clear h0;by_cases h7:kd=7
 ·have h7i:(kd:Int)=7:=by omega
  go_enter func72,ntmps72;go_wp2_with fail
  go_ret;exact⟨by simp[h7],HB.out⟩
 have h7i:¬ (kd:Int)=7:=by omega
 go_enter func72,ntmps72;go_wp2_with fail
 go_ret;exact⟨by simp[h7];exact h7i,HB.out⟩
abbrev fv72:Value:=.func (.func 72) #[] #[]
theorem zzW {c:Cx} {w:World} {ts:List Et} {ni si:Nat} {Mi:List Int->Option Value} (h:Cw c w ts ni si Mi) (hm:ts.length<=100) :
  Calls prog 96 #[c.ev,fv72] w fun e w'=>∃ r:Int,e=.returned (.int .i64 r)/\-1<=r/\(0<=r ↔ ∃ j,j<ts.length/\(ts.getD j dT).e.kd=7)/\Below w.heap.size w w':=by
 obtain⟨m,HM⟩:=nm_ ts.length;obtain⟨cv,HCV⟩:=nm_ c.ev;have HSL:Hid (∃ a cap,cv=.slice a m cap):=hid (by
  obtain⟨a,cap,e1,-⟩:=Bx.px (d:=dT) h.es (fun x hx=>(h.wf x hx).len);rw[HCV.out,HM.out] at e1;exact⟨a,cap,e1⟩)
 obtain⟨ea,ecap,hcv⟩:=HSL.out;have HCV2:Hid (c.ev=.slice ea m ecap):=hid (by rw[HCV.out];exact hcv);have HH:=hid h;have hml:m<=100:=by rw[<-HM.out];exact hm
 rw[HCV2.out];clear h hcv hm;go_enter func96,ntmps96;go_wp2_with fail
 go_loopg [8] m (fun g iv wr=>∃ i:Nat,iv=.int .i64 i/\g=m-i/\i<=m/\Hid (Below w.heap.size w wr)/\Hid (∀ j,j<i->(ts.getD j dT).e.kd ≠ 7));case atStart=>exact⟨0,rfl,rfl,by omega,Below.refl _ _,fun j hj=>by omega⟩
 obtain⟨i,rfl,hg,him,HX,HN⟩:=hrel;by_cases hlt:i<m;rotate_left
 ·have hltI:¬ (i:Int)<m:=by omega
  obtain rfl:i=m:=by omega
  go_wp2_with fail
  go_ret;refine⟨-1,rfl,by omega,⟨fun h=>by omega,?_⟩,HX.out⟩;rintro⟨j,hj,h7⟩;exact absurd h7 (HN.out j (by rw[<-HM.out];exact hj))
 have hltI:(i:Int)<m:=by omega
 have hl1:ts.length=m:=HM.out;have HC:=hid (Ct.go HH.out HX.out);obtain⟨E,cap,C,hev,hcap,hGE,hC72,hat⟩:=HC.out.at (by omega);have hee:=HCV2.out;rw[hev] at hee;injection hee with q1 q2 q3;subst q1;have hwf:Wf (ts.getD i dT):=HC.out.wf _ (zV ts i dT (by omega));obtain⟨T,HT⟩:=nm_ (qW (ts.getD i dT));have hr:wr.rangeAt E (i*50) T:=by rw[<-HT.out];exact hat i (by omega)
 have x0:=(j3 _ hwf).1;rw[HT.out] at x0;have C72:=hid (qzW (ts.getD i dT).e.kd T x0 wr);have hi72:(prog.info? 72).map (·.size)=some T.length:=by rw[<-HT.out,hwf.len];exact SW
 have hcm:m<=ecap:=by omega
 clear hev q2 q3 hat hC72 hwf hl1 x0;by_cases h7:(ts.getD i dT).e.kd=7
 ·have H7:=hid h7;rw[decide_eq_true h7] at C72;clear h7;go_wp2_with (first
   | refine wpList_load_mid rfl 72 _ rfl E (i*50) rfl T _ hr underlying72 rfl hi72 ?_
   | fail)
  refine C72.out.mono ?_;clear C72;rintro ev w2 ⟨rfl,hb2⟩;have HX2:=hid (HX.out.trans (hb2.mono HX.out.size));clear hb2;go_wp2_with fail
  go_ret;exact⟨i,rfl,by omega,⟨fun _=>⟨i,by rw[HM.out];exact hlt,H7.out⟩,fun _=>by omega⟩,HX2.out⟩
 have H7:=hid h7;rw[decide_eq_false h7] at C72;clear h7;go_wp2_with (first
  | refine wpList_load_mid rfl 72 _ rfl E (i*50) rfl T _ hr underlying72 rfl hi72 ?_
  | fail)
 refine C72.out.mono ?_;clear C72;rintro ev w2 ⟨rfl,hb2⟩;have HX2:=hid (HX.out.trans (hb2.mono HX.out.size));clear hb2;go_wp2_with fail
 go_roundg (m-(i+1));case measure=>omega
 case rel =>
 refine⟨i+1,by go_num,rfl,by omega,HX2.out,fun j hj=>?_⟩;rcases WzW j i with h | h
 ·exact HN.out j h
 obtain rfl:j=i:=by omega
 exact H7.out
theorem VV {c:Cx} {w:World} {ts:List Et} {ni si:Nat} {Mi:List Int->Option Value} (h:Cw c w ts ni si Mi) (hm:ts.length<=100) :
  Calls prog 71 #[c.ev,fv72] w fun e w'=>∃ r:Bool,e=.returned (.bool r)/\(r=true ↔ ∃ j,j<ts.length/\(ts.getD j dT).e.kd=7)/\Below w.heap.size w w':=by
 have C96:=hid (zzW h hm);clear h hm;go_enter func71,ntmps71;go_wp2_with fail
 refine C96.out.mono ?_;clear C96;rintro ev w2 ⟨r,rfl,h0,h1,h2⟩;have H1:=hid h1;have H2:=hid h2;clear h1 h2;by_cases hr:0<=r
 ·go_wp2_with fail
  go_ret;exact⟨true,by simp[hr],by rw[<-H1.out];simp[hr],H2.out⟩
 go_wp2_with fail
 go_ret;exact⟨false,by simp;omega,by rw[<-H1.out];simp;omega,H2.out⟩
theorem CZ {c:Cx} {w:World} {ts:List Et} {ni si:Nat} {Mi:List Int->Option Value} (h:Cw c w ts ni si Mi) (hm:ts.length<=100) (h7:∀ j,j<ts.length->(ts.getD j dT).e.kd ≠ 7) (bv:Value) :
  Calls prog 43 #[.pointer (some ⟨c.gc,0,none⟩),bv] w fun e w'=>e=.returned (.tuple #[])/\Below w.heap.size w w':=by
 have C71:=hid (VV h hm);have H7:=hid h7;obtain⟨cv,HCV⟩:=nm_ c.ev;have c0:w.cell? ⟨c.gc,0,none⟩=some cv:=by rw[cell_of_row _ _ 0 _ _ _ h.box,<-HCV.out];rfl
 rw[HCV.out] at C71;clear h h7;go_enter func43,ntmps43;go_wp2_with fail
 refine C71.out.mono ?_;clear C71;rintro ev w2 ⟨r,rfl,h1,h2⟩;have HB:=hid h2;have hr:r=false:=by
  cases r with
  | false=>rfl
  | true =>
   obtain⟨j,hj,h⟩:=h1.1 rfl;exact absurd h (H7.out j hj)
 subst hr;clear h1 h2;go_wp2_with fail
 exact bodyPost_ret (results_none (by rfl) _ _ _) rfl ⟨rfl,HB.out⟩
structure S43 (gc gx H1 H2:Nat) (RO RI:List Value) (W:World):Prop where
 c3:W.cell? ⟨gc,3,none⟩=some (.map (some gx))
 r1:W.rangeAt H1 0 RO
 r2:W.rangeAt H2 0 RI
def P2 (K:Nat) (o:Oj):List Int->Option Value:=fun y=>if y=ido K o then some (.agg (yQ K o).toArray) else none
theorem P3 (K n:Nat) (hK:1<=K/\K<=4) (hn:n<=20000) {w0 w:World} {G gc gb gi gx:Nat} {ts:List Et} {ev:Value} {nb sb:Nat} {Mb:Nat->Option Value} {ni si:Nat} {Mi:List Int->Option Value}
  (h:Ct w0 w G gc gb gi gx ts ev nb sb Mb ni si Mi 0 0 (fun _=>none)) (hm:ts.length<=100) (h7:∃ j,j<ts.length/\(ts.getD j dT).e.kd=7) (b of cap:Nat) (hcap:1<=cap) (o:Oj) (hr:∀ W,Below G w0 W->W.rangeAt b of (yQ K o)) (ho:∀ W,Below G w0 W->Om n W o) (hT:∀ W,Below G w0 W->Tab W) :
  Calls prog 43 #[.pointer (some ⟨gc,0,none⟩),.slice (some ⟨b,of,none⟩) 1 cap] w fun e w'=>e=.returned (.tuple #[])/\K5 w w'/\Ct w0 w' G gc gb gi gx ts ev nb sb Mb ni si Mi 1 1 (P2 K o):=by
 have C71:=hid (VV (c:=⟨w0,G,gc,gb,gi,gx,ev,nb,sb,Mb,0,0,fun _=>none⟩) h hm);have HH:=hid h;have H7:=hid h7;have HR:=hid hr;have HO:=hid ho;have HT:=hid hT;have HKK:=hid hK;have c0:w.cell? ⟨gc,0,none⟩=some ev:=by rw[cell_of_row _ _ 0 _ _ _ h.box];rfl
 obtain⟨zo,HZO⟩:=nm_ ((#[.int .i64 0,.slice none 0 0] : Array Value):Array Value);have hz27:∀ w:World,(zeroValue 27).run prog w=.ok (.agg zo) w:=fun w=>by rw[<-HZO.out];exact Ux w
 obtain⟨zr,HZ⟩:=nm_ ((row .u8 z20).toArray);have hz68:∀ w:World,(zeroValue 68).run prog w=.ok (.agg zr) w:=fun w=>by rw[<-HZ.out];exact XK w
 obtain⟨RO,HRO⟩:=nm_ (yQ K o);have hi27:(prog.info? 27).map (·.size)=some RO.length:=by rw[<-HRO.out];exact vK
 have J27:Hid ((prog.info? 27).map (·.size)=some RO.toArray.size):=hid (by rw[WqW];exact hi27);have E27:Hid (zo.size=RO.toArray.size):=hid (by rw[<-HZO.out,<-HRO.out];rfl);have O27:Hid (RO.toArray.all (·.oneCell')=true):=hid (by rw[<-HRO.out];exact all_oneCell_toArray (jz K o));obtain⟨RI,HRI⟩:=rw_ (YJ K o).1
 have E68:Hid (zr.size=RI.toArray.size):=hid (by rw[<-HZ.out];exact HRI.out.z);clear h h7 hr ho hT;go_enter func43,ntmps43;go_wp2_with fail
 refine C71.out.mono ?_;clear C71;rintro ev1 w2 ⟨r,rfl,h1,h2⟩;have hrt:r=true:=h1.2 H7.out;subst hrt;have HX0:=hid (HH.out.go h2);have HK0:Hid (K5 w w2):=hid (q8 h2);clear h1 h2;go_wp2_with fail
 go_loopg [16] 1 (fun g iv wr=>∃ p:Nat,iv=.int .i64 p/\g=1-p/\p<=1/\Hid (K5 w wr)/\Hid (Ct w0 wr G gc gb gi gx ts ev nb sb Mb ni si Mi p p (if p=0 then fun _=>none else P2 K o)));case atStart=>exact⟨0,rfl,rfl,by omega,HK0.out,HX0.out⟩
 obtain⟨p,rfl,hg,hp,HK1,HX⟩:=hrel;by_cases hlt:p<1;rotate_left
 ·obtain rfl:p=1:=by omega
  go_wp2_with fail
  exact bodyPost_end (results_none (by rfl) _ _ _) rfl ⟨rfl,HK1.out,HX.out⟩
 obtain rfl:p=0:=by omega
 have hbw:=HX.out.es.below;have HRR:Hid (wr.rangeAt b of RO):=hid (by rw[<-HRO.out];exact HR.out wr hbw);obtain⟨H1,wa,HNA⟩:=nw 27 zo wr RO;have hba:Below wr.heap.size wr wa:=by rw[HNA.out.h];exact HNA.out.below
 have HXA:=hid (HX.out.go hba);have HKA:=hid (HK1.out.trans (q8 hba));have ra:wa.rangeAt H1 0 RO:=HNA.out.at
 have hbwa:=HXA.out.es.below;have CI:Hid (Calls prog 34 #[.agg RO.toArray] wa fun e w'=>e=.returned (.tuple #[.agg RI.toArray,.nilIface])/\Below wa.heap.size wa w'):=hid
  (JY K n HKK.out hn o wa (HO.out wa hbwa) (HT.out wa hbwa) HRO.out HRI.out.e)
 clear hba hbw hbwa;go_wp2_with (first
  | refine wpList_load_mid rfl 27 _ rfl b of rfl RO _ HRR.out underlying27 rfl hi27 ?_
  | (refine wpList_store_row rfl 27 _ _ rfl wr.heap.size RO.toArray rfl rfl 27 zo HNA.out.d J27.out E27.out O27.out ?_;rw[HNA.out.w,HNA.out.h])
  | refine wpList_load_mid rfl 27 _ rfl H1 0 rfl RO _ ra underlying27 rfl hi27 ?_
  | fail)
 refine CI.out.mono ?_;clear CI;rintro ev2 wb ⟨rfl,hbb⟩;obtain⟨H2,wc,HNC⟩:=nw 68 zr wb RI;have hbc:Below wa.heap.size wa wc:=hbb.trans (HNC.out.below.mono (by rw[<-HNC.out.h];exact hbb.size));have HXC:=hid (HXA.out.go hbc);have HKC:=hid (HKA.out.trans (q8 hbc));have HB1:Hid (wc.heap[H1]? = some (.cells RO.toArray 27 (0,0))):=hid ((hbc.block _ HNA.out.lt).trans HNA.out.box)
 clear hbb hbc;go_wp2_with (first
  | (refine wpList_store_row rfl 68 _ _ rfl wb.heap.size RI.toArray rfl rfl 68 zr HNC.out.d HRI.out.j56 E68.out HRI.out.o ?_;rw[HNC.out.w,HNC.out.h])
  | fail)
 have hbd:Below wc.heap.size wc wc.drew:=zk (Below.refl _ _) 1;have HX4:=hid (HXC.out.go hbd);have HK4:=hid (HKC.out.trans (q8 hbd));have hS:S43 gc gx H1 H2 RO RI wc.drew:=⟨by rw[cell_of_row _ _ 3 _ _ _ HX4.out.box];rfl,zx ((hbd.block _ (lt_of_some HB1.out)).trans HB1.out),zx ((hbd.block _ HNC.out.lt).trans HNC.out.box)⟩;clear hbd
 refine Dl.region_U (S43 gc gx H1 H2 RO RI) 6 (by kernel_rfl) ?_;generalize wc.drew=v0 at hS HX4 HK4 ⊢;iterate 1 (refine zK 0 hS ?_;try simp only[Act.put,sL])
 iterate 1 (refine zK 1 hS ?_;try simp only[Act.put,sL])
 iterate 1 (refine zK 2 hS ?_;try simp only[Act.put,sL])
 iterate 1 (refine zK 3 hS ?_;try simp only[Act.put,sL])
 refine Dl.takeU (i:=4) (v:=.agg RI.toArray) rfl (by kernel_rfl) (by kernel_rfl) (by kernel_rfl) (by kernel_rfl) (fun _ _ _ h=>h) (yieldsIf_load_mid (by rfl) 68 _ rfl H2 0 (by rfl) RI _ (fun _ h=>h.r2) underlying68 rfl HRI.out.i56) hS ?_;try simp only[Act.put,sL]
 refine Dl.takeU (i:=5) (v:=.agg RO.toArray) rfl (by kernel_rfl) (by kernel_rfl) (by kernel_rfl) (by kernel_rfl) (fun _ _ _ h=>h) (yieldsIf_load_mid (by rfl) 27 _ rfl H1 0 (by rfl) RO _ (fun _ h=>h.r1) underlying27 rfl hi27) hS ?_;try simp only[Act.put,sL]
 obtain⟨kl,hkl⟩:=LW (ido K o) (YJ K o).1 (YJ K o).2;obtain⟨w5,hput,hFI,hgr⟩:=HX4.out.xm.put JK SZ (by omega) qqX hkl (.agg RO.toArray);have hX5:=HX4.out.putX hgr hFI;have hK5:K5 w w5:=HK4.out.trans (P0 HX4.out.xm hgr);unfold idV at hput;rw[HRI.out.e] at hput;refine Dl.readyU1 (i:=6) (by kernel_rfl) ?_;refine Dl.consU rfl (fun KK hKK=>?_)
 refine step_skip (by rfl) (j8 rfl (by rfl) (by rfl) (by rfl) hput) ?_;refine hKK.out _ _ (.inl rfl) ?_;clear hKK KK;try simp only[Act.put,sL]
 refine Dl.doneU (by kernel_rfl) ?_ _;have HX5:Hid (Ct w0 w5 G gc gb gi gx ts ev nb sb Mb ni si Mi 1 1 (P2 K o)):=hid (by
  have e:(fun y=>if y=ido K o then some (Value.agg RO.toArray) else (if (0:Nat)=0 then fun _=>none else P2 K o) y)=P2 K o:=by
   funext y;unfold P2;rw[HRO.out];rfl
  rw[<-e];exact hX5)
 have HK5:=hid hK5;clear hput hFI hgr hX5 hK5 hkl hS;go_wp2_with fail
 go_roundg 0;case measure=>omega
 case rel=>exact⟨1,by go_num,rfl,by omega,HK5.out,HX5.out⟩
def Bq (K n:Nat) (w:World) (bv:Value) (hs:List (List Int)):Prop :=
 hs=[] ∨ ∃ (b of cap:Nat) (o:Oj),bv=.slice (some ⟨b,of,none⟩) 1 cap/\1<=cap/\hs=[o.zs]/\(∀ W,Below w.heap.size w W->W.rangeAt b of (yQ K o))/\(∀ W,Below w.heap.size w W->Om n W o)
def zux (K n:Nat) (es:List En) (w:World) (ev:Ending) (w':World):Prop :=
 ∃ c ts rd Mi,ev=.returned (.tuple #[.pointer (some ⟨c.gc,0,none⟩),.nilIface])/\c.w0=w/\c.G=w.heap.size/\Gs c K n es w' ts rd es.length es.length Mi/\∀ j,j<es.length->j ∈ rd/\(ts.getD j dT).kn=true
theorem qzY (a b d:Nat):prog.built 67 [(1,.map (some a)),(2,.map (some b)),(3,.map (some d))]=some #[.slice none 0 0,.map (some a),.map (some b),.map (some d)]:=by kernel_rfl
theorem Oks.no7 {K:Nat} {hs:List (List Int)} {es:List En} (h:Oks K hs es) (h7:∀ j,j<es.length->(es.getD j dE).kd ≠ 7):Oks K [] es:=fun i hi=>by
 have ho:=h i hi;refine⟨ho.z,ho.isb,ho.len,ho.idl,ho.idb,ho.obb,ho.obl,?_⟩;rcases ho.how with a | a | ⟨a,_⟩
 ·exact .inl a
 ·exact .inr (.inl a)
 exact absurd a (h7 i hi)
theorem zuj {K n:Nat} {hs:List (List Int)} {es:List En} (N:Nat) (hN:es.length=N) (hNl:N<=100) (hK:1<=K/\K<=4) (hn0:0<n) (hn:n<=20000) (hO:Oks K hs es) (hob:∀ i,i<es.length->(es.getD i dE).ob.length=n) (hid':∀ i k,i<k->k<es.length->idZ K (es.getD i dE).ob ≠ idZ K (es.getD k dE).ob) (hl:off es es.length<=200000) (b ao cap L:Nat) (w:World) (bs:List Int) (hbs:bs=pkb N es++sha (pkb N es)) (hL:bs.length=L) (hc:L<=cap) (hb:b<w.heap.size) (hat:Id.At w b ao bs) (ht:Df.TabsW w) (hT:∀ W,Below w.heap.size w W->Tab W) (bv:Value) (hB:Bq K n w bv hs) :
  Calls prog 21 #[.slice (some ⟨b,ao,none⟩) L cap,bv] w (zux K n es w):=by
 obtain⟨M,HM⟩:=nm_ ((pkb N es).length);have hML:L=M+20:=by rw[<-hL,hbs,List.length_append,kV,HM.out]
 have hMo:M=off es es.length:=by rw[<-HM.out,j0]
 have C41:Hid (Calls prog 41 #[.slice (some ⟨b,ao,none⟩) L cap] w fun e w'=>e=.returned (.tuple #[.slice (some ⟨b,ao,none⟩) M cap,.int .i64 N,.nilIface])/\Below w.heap.size w w'):=hid (by
  have:=DY (es:=es) N (by omega) hK hO b ao cap L bs hbs hL (by omega) hc w hb hat
  rw[HM.out] at this;exact this)
 obtain⟨G,HG⟩:=nm_ w.heap.size;have C42:Hid (∀ (W:World) (gc gb gi gx:Nat),Ct w W G gc gb gi gx [] (.slice none 0 0) 0 0 (fun _=>none) 0 0 (fun _=>none) 0 0 (fun _=>none)->Calls prog 42 #[.pointer (some ⟨gc,0,none⟩),.slice (some ⟨b,ao,none⟩) M cap,.int .i64 N] W (zu1 w G gc gb gi gx N es 0 0 (fun _=>none) 0 0 (fun _=>none))):=hid (fun W gc gb gi gx hC=>by
  have:=Jy N hN hNl hK hO (by omega) b ao cap G gc gb gi gx w W HG.out (by rw[HM.out];omega) (by rw[<-HG.out];exact hb) (Eq (by rw[<-hbs];exact hat)) ht hC;rw[HM.out] at this;exact this)
 have HO:=hid hO;have HOB:=hid hob;have HID:=hid hid';have HKK:=hid hK;have HN0:=hid hn0;have HNN:=hid hn;have HTT:=hid hT;have HB:=hid hB;have HNE:=hid hN;clear hO hob hid' hK hat ht hT hB hbs hL hML hMo hl hn0 hn hb hN;go_enter func21,ntmps21;go_wp2_with fail
 refine C41.out.mono ?_;clear C41;rintro ev w1 ⟨rfl,hb1⟩;have HB1:Hid (Below G w w1):=hid (by rw[<-HG.out];exact hb1);clear hb1;obtain⟨gb,HGB⟩:=nm_ w1.heap.size;obtain⟨w2,HW2⟩:=nm_ (w1.alloc (.map #[] 0));obtain⟨gi,HGI⟩:=nm_ w2.heap.size;obtain⟨w3,HW3⟩:=nm_ (w2.alloc (.map #[] 0));obtain⟨gx,HGX⟩:=nm_ w3.heap.size;obtain⟨w4,HW4⟩:=nm_ (w3.alloc (.map #[] 0))
 obtain⟨gc,HGC⟩:=nm_ w4.heap.size;obtain⟨w5,HW5⟩:=nm_ (w4.alloc (.cells #[.slice none 0 0,.map (some gb),.map (some gi),.map (some gx)] 67));have hmk1:(Instr.makeMap 63 none).run prog w1=.ok (.map (some gb)) w2:=by rw[<-HGB.out,<-HW2.out];kernel_rfl
 have hmk2:(Instr.makeMap 64 none).run prog w2=.ok (.map (some gi)) w3:=by rw[<-HGI.out,<-HW3.out];kernel_rfl
 have hmk3:(Instr.makeMap 65 none).run prog w3=.ok (.map (some gx)) w4:=by rw[<-HGX.out,<-HW4.out];kernel_rfl
 have HBU:Hid (prog.built 67 [(1,.map (some gb)),(2,.map (some gi)),(3,.map (some gx))]=some #[.slice none 0 0,.map (some gb),.map (some gi),.map (some gx)]):=hid (qzY _ _ _);have HCT:Hid (Ct w w5 G gc gb gi gx [] (.slice none 0 0) 0 0 (fun _=>none) 0 0 (fun _=>none) 0 0 (fun _=>none)):=hid (by
  have b2:Below w1.heap.size w1 w2:=by rw[<-HW2.out];exact(Below.refl _ w1).alloc (WzV _) _
  have b3:Below w2.heap.size w2 w3:=by rw[<-HW3.out];exact(Below.refl _ w2).alloc (WzV _) _
  have b4:Below w3.heap.size w3 w4:=by rw[<-HW4.out];exact(Below.refl _ w3).alloc (WzV _) _
  have b5:Below w4.heap.size w4 w5:=by rw[<-HW5.out];exact(Below.refl _ w4).alloc (WzV _) _
  have f1:FM 3 C0 (.int .i64 0) w2 gb 0 0 (fun _=>none):=by rw[<-HW2.out,<-HGB.out];exact JW 3 C0 (.int .i64 0) w1
  have f2:FM 68 idV (.int .i64 0) w3 gi 0 0 (fun _=>none):=by rw[<-HW3.out,<-HGI.out];exact JW 68 idV (.int .i64 0) w2
  have f3:FM 68 idV zo2 w4 gx 0 0 (fun _=>none):=by rw[<-HW4.out,<-HGX.out];exact JW 68 idV zo2 w3
  have z1:=HB1.out.size;have l1:=f1.lt;have l2:=f2.lt;have l3:=f3.lt;have s2:=b2.size;have s3:=b3.size;have s4:=b4.size;have s5:=b5.size;have hG1:G<=w1.heap.size:=by rw[<-HG.out];exact z1
  have hbel:Below G w w5:=HB1.out.trans ((b2.trans ((b3.trans ((b4.trans (b5.mono s4)).mono s3)).mono s2)).mono hG1);have h1:=HGB.out;have h2:=HGI.out;have h3:=HGX.out;have h4:=HGC.out
  refine⟨by rw[<-HW5.out,<-HGC.out];exact heap_alloc_new _ _,⟨hbel,⟨rfl,.inl ⟨rfl,rfl⟩⟩,by omega⟩,((f1.below b3).below b4).below b5,(f2.below b4).below b5,f3.below b5,by omega,by omega,by omega,by omega,by omega,by omega,by omega,fun t ht=>by cases ht⟩)
 go_wp2_with (first
  | (refine vV rfl 67 _ rfl _ (by simp only[Wxy,Wxj,Wxk];exact HBU.out) ?_)
  | fail)
 rw[HW5.out,HGC.out];refine(C42.out w5 gc gb gi gx HCT.out).mono ?_;clear C42 hmk1 hmk2 hmk3;rintro ev w6 ⟨rfl,ts,v,nb,sb,Mb,htl,hct,hdd,hts⟩;have HC6:=hid hct;have HD6:=hid hdd;have HTS:=hid hts;have HTL:=hid htl;clear hct hdd hts htl;have hen:Hid (∀ i,i<ts.length->(ts.getD i dT).e=es.getD i dE/\(ts.getD i dT).ba=0/\(ts.getD i dT).kn=false):=hid (fun i hi=>by
  obtain⟨u,hu⟩:=HTS.out i (by rw[<-HTL.out];exact hi);rw[hu];exact⟨rfl,rfl,rfl⟩)
 have hle:Hid (ts.length=es.length):=hid (by rw[HTL.out,HNE.out]);have CAB:Hid (Calls prog 43 #[.pointer (some ⟨gc,0,none⟩),bv] w6 fun e w'=>e=.returned (.tuple #[])/\∃ (nx:Nat) (Mx:List Int->Option Value) (hs':List (List Int)),Ct w w' G gc gb gi gx ts v nb sb Mb 0 0 (fun _=>none) nx nx Mx/\K5 w6 w'/\St ⟨w,G,gc,gb,gi,gx,v,nb,sb,Mb,nx,nx,Mx⟩ K n hs' es):=hid (by
  have hm:ts.length<=100:=by rw[HTL.out];exact hNl
  have hln:es.length<=100:=by rw[HNE.out];exact hNl
  have htb:∀ W,Below G w W->Tab W:=fun W hW=>HTT.out W (by rw[HG.out];exact hW);by_cases h7:∃ j,j<ts.length/\(ts.getD j dT).e.kd=7
  ·rcases HB.out with h0 | ⟨bb,bof,bcap,o,rfl,h2,h3,h4,h5⟩
   ·exfalso;obtain⟨j,hj,hk⟩:=h7;rw[(hen.out j hj).1] at hk;have hje:j<es.length:=(by rw[<-hle.out];exact hj);rcases(HO.out j hje).how with ⟨a,_⟩ | ⟨a,_⟩ | ⟨_,_,h,a,_⟩
    ·have:=HKK.out;omega
    ·omega
    rw[h0] at a;cases a
   have h4':∀ W,Below G w W->W.rangeAt bb bof (yQ K o):=fun W hW=>h4 W (by rw[HG.out];exact hW);have h5':∀ W,Below G w W->Om n W o:=fun W hW=>h5 W (by rw[HG.out];exact hW);refine(P3 K n HKK.out HNN.out HC6.out hm h7 bb bof bcap h2 o h4' h5' htb).mono ?_;rintro e w' ⟨rfl,hk,hc'⟩
   refine⟨rfl,1,P2 K o,hs,hc',hk,⟨HKK.out,HN0.out,HNN.out,HO.out,HOB.out,HID.out,fun h hh=>?_,htb,hln⟩⟩;rw[h3] at hh;obtain rfl:=List.mem_singleton.1 hh;refine⟨o,?_,rfl,h5'⟩;show P2 K o (idZ K o.zs)=_;unfold P2;exact if_pos rfl
  have hn7:∀ j,j<ts.length->(ts.getD j dT).e.kd ≠ 7:=fun j hj hk=>h7 ⟨j,hj,hk⟩;refine(CZ (c:=⟨w,G,gc,gb,gi,gx,v,nb,sb,Mb,0,0,fun _=>none⟩) HC6.out hm hn7 bv).mono ?_;rintro e w' ⟨rfl,hb'⟩;refine⟨rfl,0,fun _=>none,[],HC6.out.go hb',q8 hb',⟨HKK.out,HN0.out,HNN.out,HO.out.no7 (fun j hj=>?_),HOB.out,HID.out,(fun h hh=>by cases hh),htb,hln⟩⟩
  have hjt:j<ts.length:=by rw[hle.out];exact hj
  have:=hn7 j hjt;rw[(hen.out j hjt).1] at this;exact this)
 go_wp2_with fail
 refine CAB.out.mono ?_;clear CAB;rintro ev w7 ⟨rfl,nx,Mx,hs',hc7,hk7,hst⟩;have HST:=hid hst;obtain⟨c,HCC⟩:=nm_ (⟨w,G,gc,gb,gi,gx,v,nb,sb,Mb,nx,nx,Mx⟩:Cx);have HGS:Hid (Gs c K n es w7 ts [] 0 0 (fun _=>none)):=hid (by
  rw[<-HCC.out];exact⟨hc7,hle.out,fun i hi=>⟨(hen.out i hi).1,(hen.out i hi).2.1⟩,HD6.out.k5 hk7,(fun i hi=>by cases hi),(fun i j b hi=>by cases hi),(fun i hi hk=>by rw[(hen.out i hi).2.2] at hk;cases hk),(fun y hy=>by cases hy)⟩)
 rw[HCC.out] at HST;have hgc:c.gc=gc:=by rw[<-HCC.out]
 have C44:=hid (Cy HST.out HGS.out (fun j hj=>(hen.out j hj).2.2));rw[hgc] at C44;have HGC2:=hid hgc;clear hc7 hk7 hst hgc;go_wp2_with fail
 refine C44.out.mono ?_;clear C44;rintro ev w8 ⟨rfl,ts8,rd8,Mi8,hg8,hkn8⟩;have C45:=hid (zzV hg8 (fun j hj=>(hkn8 j hj).2) (by rw[HNE.out];exact hNl));rw[HGC2.out] at C45;have HG8:=hid hg8;have HK8:=hid hkn8;clear hg8 hkn8;go_wp2_with fail
 refine C45.out.mono ?_;clear C45;rintro ev w9 ⟨rfl,hb9⟩;have HG9:=hid (HG8.out.go hb9);have HFIN:Hid (zux K n es w (.returned (.tuple #[.pointer (some ⟨gc,0,none⟩),.nilIface])) w9):=hid ⟨c,ts8,rd8,Mi8,by rw[HGC2.out],by rw[<-HCC.out],by rw[<-HCC.out];exact HG.out.symm,HG9.out,HK8.out⟩;clear hb9;go_wp2_with fail
 go_ret2;exact HFIN.out
abbrev P4 (K:Nat) (u:Value):List Value:=[.int .i64 K,u]
abbrev dU:Value:=.slice none 0 0
structure Rd (K:Nat) (es:List En) (w w':World) (v:Value) (us:List Value):Prop where
 ls:Bx (P4 K) 2 27 w w' w.heap.size v us
 len:us.length=es.length
 own:∀ i,i<es.length->w'.ownsRow w.heap.size 5 1 (us.getD i dU) (es.getD i dE).ob.length ((es.getD i dE).ob.map (Value.int .u8))
 ap:∀ i j b,i<es.length->j<es.length->i ≠ j->(us.getD i dU).ownBlock=some b->(us.getD j dU).ownBlock ≠ some b
def CQ (K:Nat) (es:List En) (w:World) (ev:Ending) (w':World):Prop :=
 ∃ v us,ev=.returned (.tuple #[v,.nilIface])/\Rd K es w w' v us
theorem qqY (k:Int) (a:Option Addr) (m c:Nat) (w:World):(Instr.buildSlice 28 1 #[(0,.agg #[.int .i64 k,.slice a m c])]).run prog w=.ok (.slice (some ⟨w.heap.size,0,none⟩) 1 1) (w.alloc (.cells #[.int .i64 k,.slice a m c] 27)):=by kernel_rfl
theorem zuk:(prog.info? 27).map (fun i=>(i.zero,i.size,i.bytes))=some (some (.agg #[.int .i64 0,.slice none 0 0]),2,32):=by kernel_rfl
theorem CX {K n:Nat} {hs:List (List Int)} {es:List En} (N:Nat) (hN:es.length=N) (hNl:N<=100) (hK:1<=K/\K<=4) (hn0:0<n) (hn:n<=20000) (hO:Oks K hs es) (hob:∀ i,i<es.length->(es.getD i dE).ob.length=n) (hid':∀ i k,i<k->k<es.length->idZ K (es.getD i dE).ob ≠ idZ K (es.getD k dE).ob) (hl:off es es.length<=200000) (b ao cap L:Nat) (w:World) (bs:List Int) (hbs:bs=pkb N es++sha (pkb N es)) (hL:bs.length=L) (hc:L<=cap) (hb:b<w.heap.size) (hat:Id.At w b ao bs) (ht:Df.TabsW w) (hT:∀ W,Below w.heap.size w W->Tab W) (bv:Value) (hB:Bq K n w bv hs) :
  Calls prog 10 #[.slice (some ⟨b,ao,none⟩) L cap,bv] w (CQ K es w):=by
 have C21:=hid (zuj N hN hNl hK hn0 hn hO hob hid' hl b ao cap L w bs hbs hL hc hb hat ht hT bv hB);obtain⟨m,HM⟩:=nm_ es.length;have hml:m<=100:=by rw[<-HM.out,hN];exact hNl
 obtain⟨Z,HZ⟩:=nm_ ((qW zT).toArray);have hz72:∀ w:World,(zeroValue 72).run prog w=.ok (.agg Z) w:=fun w=>by rw[<-HZ.out];exact Ex w
 clear hN hO hob hid' hK hat ht hT hB hbs hL hl hn0 hn hb hc hNl;go_enter func10,ntmps10;go_wp2_with fail
 refine C21.out.mono ?_;clear C21;rintro ev w1 ⟨c,ts,rd,Mi,rfl,hw0,hG,hgs,hkn⟩;have HG1:=hid hgs;have HKN:=hid hkn;have HW0:=hid hw0;have HGG:=hid hG;obtain⟨cv,HCV⟩:=nm_ c.ev;have HSL:Hid (∃ a cap,cv=.slice a m cap):=hid (by
  obtain⟨a,cap,e1,-⟩:=Bx.px (d:=dT) hgs.ct.es (fun x hx=>(hgs.ct.wf x hx).len);rw[HCV.out,hgs.len,HM.out] at e1;exact⟨a,cap,e1⟩)
 obtain⟨ea,ecap,hcv⟩:=HSL.out;have HCV2:Hid (c.ev=.slice ea m ecap):=hid (by rw[HCV.out];exact hcv);have cG:w1.cell? ⟨c.gc,0,none⟩=some (.slice ea m ecap):=by rw[cell_of_row _ _ 0 _ _ _ hgs.ct.box,HCV2.out];rfl
 have HB1:Hid (Below w.heap.size w w1):=hid (by have:=hgs.ct.es.below;rw[hw0,hG] at this;exact this);obtain⟨us,HUS⟩:=nm_ ((List.range m).map fun i=>(ts.getD i dT).ov);have HUL:Hid (us.length=m):=hid (by rw[<-HUS.out];simp);have HUG:Hid (∀ i,i<m->us.getD i dU=(ts.getD i dT).ov):=hid (fun i hi=>by
  rw[<-HUS.out,List.getD_eq_getElem?_getD,List.getElem?_map,List.getElem?_range hi];rfl)
 clear hgs hkn hw0 hG hcv;go_wp2_with fail
 go_loopg [25,8] m (fun g iv lv wr=>∃ i:Nat,iv=.int .i64 i/\g=m-i/\i<=m/\Hid (Below w1.heap.size w1 wr)/\Hid (Bx (P4 K) 2 27 w1 wr w1.heap.size lv (us.take i)));case atStart=>exact⟨0,rfl,rfl,by omega,Below.refl _ _,hid (by simpa using LV 27 w1 w1.heap.size (WzV _))⟩
 obtain⟨i,rfl,hg,him,HX,HL⟩:=hrel;have HC:=hid (HG1.out.ct.go HX.out);by_cases hlt:i<m;rotate_left
 ·have hltI:¬ (i:Int)<m:=by omega
  obtain rfl:i=m:=by omega
  obtain⟨lvv,HLV⟩:∃ q:Value,Hid (q=q):=⟨.nilIface,rfl⟩;have HFIN:Hid (∀ lv,Bx (P4 K) 2 27 w1 wr w1.heap.size lv (us.take i)->CQ K es w (.returned (.tuple #[lv,.nilIface])) wr):=hid (fun lv hl=>by
   have htk:us.take i=us:=(by rw[<-HUL.out];exact WxW);rw[htk] at hl;refine⟨lv,us,rfl,⟨HB1.out.trans (hl.below.mono HB1.out.size),qV hl.own HB1.out.size,Nat.le_trans HB1.out.size hl.le⟩,by rw[HUL.out,HM.out],fun j hj=>?_,fun j k b hj hk hjk=>?_⟩
   ·rw[HM.out] at hj;rw[HUG.out j hj];have h1:=(HG1.out.rdo j (HKN.out j (by rw[HM.out];exact hj)).1).2.2;rw[HGG.out] at h1;exact vj (t:=5) h1 (q8 HX.out)
   have hjr:=(HKN.out j hj).1;have hkr:=(HKN.out k hk).1;rw[HM.out] at hj hk;rw[HUG.out j hj,HUG.out k hk];exact HG1.out.ap j k b hjr hkr hjk)
  go_wp2_with fail
  go_ret2;exact HFIN.out _ HL.out
 have hltI:(i:Int)<m:=by omega
 have hl1:ts.length=m:=by rw[HG1.out.len,HM.out]
 obtain⟨E,cap2,C,hev,hcap,hGE,hC72,hat⟩:=HC.out.at (by omega);have hee:=HCV2.out;rw[hev] at hee;injection hee with q1 q2 q3;subst q1;have hwf:Wf (ts.getD i dT):=HC.out.wf _ (zV ts i dT (by omega));obtain⟨T,HT⟩:=nm_ (qW (ts.getD i dT));have hr:wr.rangeAt E (i*50) T:=by rw[<-HT.out];exact hat i (by omega)
 have hTl:T.length=50:=by rw[<-HT.out];exact hwf.len
 have hi72:(prog.info? 72).map (·.size)=some T.length:=by rw[hTl];exact SW
 have J72:Hid ((prog.info? 72).map (·.size)=some T.toArray.size):=hid (by rw[WqW];exact hi72);have E72:Hid (Z.size=T.toArray.size):=hid (by rw[<-HZ.out];show 50=T.toArray.size;rw[WqW,hTl]);have O72:Hid (T.toArray.all (·.oneCell')=true):=hid (by rw[<-HT.out];exact all_oneCell_toArray hwf.one)
 have hok:(ts.getD i dT).ok=K:=(HG1.out.rdo i (HKN.out i (by rw[HM.out];exact hlt)).1).2.1;obtain⟨oa,on,oc,hov⟩:=hwf.ov;obtain⟨RO,HRO⟩:=nm_ ([.int .i64 K,.slice oa on oc] : List Value);obtain⟨H1,wa,HNA⟩:=nw 72 Z wr T;have hba:Below wr.heap.size wr wa:=by rw[HNA.out.h];exact HNA.out.below
 have hsub:wa.rangeAt H1 28 RO:=by
  have h1:wa.rangeAt H1 0 (qW (ts.getD i dT)):=by rw[HT.out];exact HNA.out.at
  have:=ZQ h1 28 (Uk _ hwf);rw[hok,hov,Nat.zero_add,HRO.out] at this;exact this
 have hi27:(prog.info? 27).map (·.size)=some RO.length:=by rw[<-HRO.out];exact vK
 have HXA:=hid (HX.out.trans (hba.mono HX.out.size));have HLA:=hid (HL.out.carry hba);obtain⟨wb,HWB⟩:=nm_ (wa.alloc (.cells RO.toArray 27));obtain⟨gs,HGS⟩:=nm_ wa.heap.size;have hr28:(Instr.buildSlice 28 1 #[(0,.agg RO.toArray)]).run prog wa=.ok (.slice (some ⟨gs,0,none⟩) 1 1) wb:=by
  rw[<-HGS.out,<-HWB.out,<-HRO.out];exact qqY K oa on oc wa
 have hbb:Below wa.heap.size wa wb:=by rw[<-HWB.out];exact(Below.refl _ wa).alloc (WzV _) _
 have HXB:=hid (HXA.out.trans (hbb.mono HXA.out.size));have HLB:=hid (HLA.out.carry hbb);have hu:us.getD i dU=.slice oa on oc:=by rw[HUG.out i hlt,hov]
 have hrs:wb.rangeAt gs 0 (P4 K (us.getD i dU)):=by
  rw[hu,show P4 K (.slice oa on oc)=RO from HRO.out,<-HWB.out,<-HGS.out];exact zx (heap_alloc_new _ _)
 obtain⟨lv',wc,hrun,hlc,hgc,hmc⟩:=HLB.out.app1 gs (us.getD i dU) hrs rfl (by decide) (fun v hv=>by
  rw[hu] at hv;simp only[P4,List.mem_cons,List.not_mem_nil,or_false] at hv;rcases hv with rfl | rfl <;> rfl) (by rw[Wzz];omega) 28 underlying28 zuk rfl (by decide) 28
 have HXC:Hid (Below w1.heap.size w1 wc):=hid (HXB.out.grown hgc HLB.out.le (fun k hk=>(zJ HLB.out.own k hk).1));have HLC:Hid (Bx (P4 K) 2 27 w1 wc w1.heap.size lv' (us.take (i+1))):=hid (by rw[yY dU us i (by rw[HUL.out];exact hlt)];exact hlc);have HRUN:=hid hrun;have hcm:m<=ecap:=by omega
 clear hev q2 q3 hat hC72 hwf hl1 hba hbb hrun hlc hgc hmc hrs hu hok hov;go_wp2_with (first
  | refine wpList_load_mid rfl 72 _ rfl E (i*50) rfl T _ hr underlying72 rfl hi72 ?_
  | (refine wpList_store_row rfl 72 _ _ rfl wr.heap.size T.toArray rfl rfl 72 Z HNA.out.d J72.out E72.out O72.out ?_;rw[HNA.out.w,HNA.out.h])
  | refine wpList_load_mid rfl 27 _ rfl H1 28 rfl RO _ hsub underlying27 rfl hi27 ?_
  | (refine qw rfl _ (xw 28 1 (.tmp 31) (by rfl) (.agg RO.toArray) (.slice (some ⟨gs,0,none⟩) 1 1) (by rfl) hr28) ?_)
  | (refine qw rfl lv' (yy (.tmp 29) (.tmp 32) 28 (by rfl) (by rfl) (by rfl) HRUN.out) ?_)
  | fail)
 go_roundg (m-(i+1));case measure=>omega
 case rel=>exact⟨i+1,by go_num,rfl,by omega,HXC.out,HLC.out⟩
theorem Uy (b o c b2 o2 c2 n:Nat) (xs ys:List Int) (w:World) (hx:xs.length=n) (hy:ys.length=n) (hl:n<=1000000) (h1:Id.At w b o xs) (h2:Id.At w b2 o2 ys) :
  Calls prog 4 #[.slice (some ⟨b,o,none⟩) n c,.slice (some ⟨b2,o2,none⟩) n c2] w fun e w'=>e=.returned (.bool (decide (xs=ys)))/\Below w.heap.size w w':=by
 go_enter func4,ntmps4;go_wp2;go_loopw [5] (fun i wr=>∃ k q:Nat,k<=n/\i=.int .i64 k/\wr=w.drewN q/\∀ j,j<k->xs.getD j 0=ys.getD j 0) (fun i _=>n-(intOf i).toNat)
 case atStart=>exact⟨0,0,Nat.zero_le _,rfl,rfl,fun j h=>by omega⟩
 obtain⟨k,q,hk,rfl,rfl,hj⟩:=hrel;have HJ:=hid hj;clear hj;by_cases hlt:k<n;rotate_left
 ·have HEQ:Hid (xs=ys):=hid (by
   refine List.ext_getElem (by rw[hx,hy]) (fun j p1 p2=>?_);have:=HJ.out j (by omega);rw[List.getD_eq_getElem?_getD,List.getD_eq_getElem?_getD,List.getElem?_eq_getElem p1,List.getElem?_eq_getElem p2] at this;exact this)
  go_wp2;go_ret;exact⟨by rw[decide_eq_true HEQ.out];rfl,zk (Below.refl _ _) q⟩
 have hcell:=h1 k (by omega);have hcell':=h2 k (by omega);obtain⟨u,HU⟩:=nm_ (xs.getD k 0);obtain⟨v,HV⟩:=nm_ (ys.getD k 0);rw[HU.out] at hcell;rw[HV.out] at hcell';by_cases he:u=v
 ·have HE:=hid he;subst he;go_wp2;go_quiet (fail);go_wp2;go_roundw;case measure=>simp[intOf];omega
  refine⟨k+1,_,by omega,by go_num,rfl,fun j hj=>?_⟩;rcases WzW j k with h | h
  ·exact HJ.out j h
  obtain rfl:j=k:=by omega
  rw[HU.out,HV.out]
 have HNE:Hid (xs ≠ ys):=hid (fun e=>he (by rw[<-HU.out,<-HV.out,e]));go_wp2;go_quiet (fail);go_wp2;go_ret;exact⟨by rw[decide_eq_false HNE.out];rfl,zk (zk (Below.refl _ _) _) _⟩
abbrev Qx (K:Nat) (w0 w:World) (B:Nat) (v:Value) (os:List Oj):Prop:=Bx (yQ K) 2 46 w0 w B v os
theorem qxy:(prog.info? 46).map (fun i=>(i.zero,i.size,i.bytes))=some (some (.agg #[.int .i64 0,.slice none 0 0]),2,32):=by kernel_rfl
theorem run46 (k:Int) (a:Option Addr) (m c:Nat) (w:World):(Instr.build 46 #[(0,.int .i64 k),(1,.slice a m c)]).run prog w=.ok (.agg #[.int .i64 k,.slice a m c]) w:=by kernel_rfl
theorem run30 (k:Int) (a:Option Addr) (m c:Nat) (w:World):(Instr.buildSlice 30 1 #[(0,.agg #[.int .i64 k,.slice a m c])]).run prog w=.ok (.slice (some ⟨w.heap.size,0,none⟩) 1 1) (w.alloc (.cells #[.int .i64 k,.slice a m c] 46)):=by kernel_rfl
structure S5t (b o k:Nat) (v:Value) (W:World):Prop where
 k:W.cell? ⟨b,o,none⟩=some (.int .i64 k)
 d:W.cell? ⟨b,o+1,none⟩=some v
theorem CJ (K:Nat) (a:Option Addr) (cap:Nat) (os:List Oj) (w:World) (hP:Po K w a cap os) (hl:os.length<=100) :
  Calls prog 5 #[.slice a os.length cap] w fun e w'=>∃ v,e=.returned v/\Qx K w w' w.heap.size v os:=by
 obtain⟨m,HM⟩:=nm_ os.length;have HP:=hid hP;have hml:m<=100:=by rw[<-HM.out];exact hl
 rw[HM.out];clear hP hl;go_enter func5,ntmps5;go_wp2_with fail
 go_loopg [4,3] m (fun g iv lv wr=>∃ i:Nat,iv=.int .i64 i/\g=m-i/\i<=m/\Hid (Qx K w wr w.heap.size lv (os.take i)));case atStart=>exact⟨0,rfl,rfl,by omega,hid (by simpa using LV 46 w w.heap.size (WzV _))⟩
 obtain⟨i,rfl,hg,him,HL⟩:=hrel;by_cases hlt:i<m;rotate_left
 ·have hltI:¬ (i:Int)<m:=by omega
  obtain rfl:i=m:=by omega
  have htk:os.take i=os:=by rw[<-HM.out];exact WxW
  have HL3:=HL;rw[htk] at HL3;clear htk;go_wp2_with fail
  go_ret;exact⟨_,rfl,HL3.out⟩
 have hltI:(i:Int)<m:=by omega
 obtain⟨b,of,ha',hbb,hr⟩:=HP.out.at_ (by rw[HM.out];omega);subst ha';have hcap:m<=cap:=by have:=HP.out.capl;rw[HM.out] at this;exact this
 obtain⟨o,HO⟩:=nm_ (os.getD i dO);have hri:=hr i (by rw[HM.out];exact hlt);rw[HO.out] at hri;obtain⟨oa,on,oc,hov⟩:∃ oa on oc,slO o=.slice oa on oc:=⟨_,_,_,rfl⟩;obtain⟨RO,HRO⟩:=nm_ ([.int .i64 K,.slice oa on oc] : List Value);have HEO:Hid (yQ K o=RO):=hid (by unfold yQ;rw[hov,HRO.out])
 have HSB:Hid (∀ W,Below w.heap.size w W->S5t b (of+i*2) K (.slice oa on oc) W):=hid (fun W hW=>⟨(hW.cell (p:=⟨b,of+i*2,none⟩) hbb).trans (hri 0 _ rfl),(hW.cell (p:=⟨b,of+i*2+1,none⟩) hbb).trans (by rw[<-hov];exact hri 1 _ rfl)⟩);have hbd:Below wr.heap.size wr wr.drew:=zk (Below.refl _ _) 1;have HL2:=hid (HL.out.carry hbd);have hS:=HSB.out _ HL2.out.below
 clear hbd hri hr hov;go_wp2_with fail
 refine Dl.region_U (S5t b (of+i*2) K (.slice oa on oc)) 14 (by kernel_rfl) ?_;generalize wr.drew=v0 at hS HL2 ⊢;iterate 1 (refine zK 0 hS ?_;try simp only[Act.put,sL])
 iterate 1 (refine zK 1 hS ?_;try simp only[Act.put,sL])
 iterate 1 (refine zK 2 hS ?_;try simp only[Act.put,sL])
 iterate 1 (refine zK 3 hS ?_;try simp only[Act.put,sL])
 iterate 1 (refine zK 4 hS ?_;try simp only[Act.put,sL])
 iterate 1 (refine zK 5 hS ?_;try simp only[Act.put,sL])
 iterate 1 (refine zK 6 hS ?_;try simp only[Act.put,sL])
 iterate 1 (refine zK 7 hS ?_;try simp only[Act.put,sL])
 iterate 1 (refine zK 8 hS ?_;try simp only[Act.put,sL])
 iterate 1 (refine zK 9 hS ?_;try simp only[Act.put,sL])
 iterate 1 (refine zK 10 hS ?_;try simp only[Act.put,sL])
 have hr46:∀ w:World,(Instr.build 46 #[(0,.int .i64 K),(1,.slice oa on oc)]).run prog w=.ok (.agg RO.toArray) w:=fun w=>by rw[run46,<-HRO.out]
 refine Dl.takeU (i:=11) (v:=.agg RO.toArray) rfl (by kernel_rfl) (by kernel_rfl) (by kernel_rfl) (by kernel_rfl) (fun _ _ _ h=>h) (Or.inl ⟨by rfl,fun w' _=>VX 46 (.tmp 16) (.tmp 21) (by rfl) _ _ _ (by rfl) (by rfl) (hr46 w')⟩) hS ?_;try simp only[Act.put,sL]
 obtain⟨v1,HV1⟩:=nm_ (v0.alloc (.cells RO.toArray 46));obtain⟨gs,HGS⟩:=nm_ v0.heap.size;have hb1:Below v0.heap.size v0 v1:=by rw[<-HV1.out];exact(Below.refl _ v0).alloc (WzV _) _
 have hr30:(Instr.buildSlice 30 1 #[(0,.agg RO.toArray)]).run prog v0=.ok (.slice (some ⟨gs,0,none⟩) 1 1) v1:=by
  rw[<-HGS.out,<-HV1.out,<-HRO.out];exact run30 K oa on oc v0
 have HL3:=hid (HL2.out.carry hb1);have hrs:v1.rangeAt gs 0 (yQ K o):=by
  rw[HEO.out,<-HV1.out,<-HGS.out];exact zx (heap_alloc_new _ _)
 obtain⟨lv',v2,hrun,hlc,hgc,hmc⟩:=HL3.out.app1 gs o hrs rfl (by decide) (jz K o) (by rw[Wzz];omega) 30 underlying30 qxy rfl (by decide) 30;have HL4:Hid (Qx K w v2 w.heap.size lv' (os.take (i+1))):=hid (by
  rw[yY dO os i (by rw[HM.out];exact hlt),HO.out];exact hlc)
 have hS1:=HSB.out v1 HL3.out.below;have hS2:=HSB.out v2 hlc.below;refine Dl.readyU1 (i:=12) (by kernel_rfl) ?_;refine Dl.consU rfl (fun KK hKK=>?_);refine Dl.step_exec (by rfl) (.slice (some ⟨gs,0,none⟩) 1 1) (w':=v1) (xw 30 1 (.tmp 22) (by rfl) (.agg RO.toArray) _ (by rfl) hr30) ?_;refine hKK.out _ _ (.inr hS1) ?_;clear hKK KK;try simp only[Act.put,sL]
 refine Dl.readyU1 (i:=13) (by kernel_rfl) ?_;refine Dl.consU rfl (fun KK hKK=>?_);refine Dl.step_exec (by rfl) lv' (w':=v2) (yy (.tmp 11) (.tmp 23) 30 (by rfl) (by rfl) (by rfl) hrun) ?_;refine hKK.out _ _ (.inr hS2) ?_;clear hKK KK;try simp only[Act.put,sL]
 refine Dl.readyU1 (i:=14) (by kernel_rfl) ?_;refine Dl.consU rfl (fun KK hKK=>?_);refine Dl.step_exec (by rfl) lv' (w':=v2) (by go_simp;first | done | rfl) ?_;refine hKK.out _ _ (.inl rfl) ?_;clear hKK KK;try simp only[Act.put,sL]
 refine Dl.doneU (by kernel_rfl) ?_ _;clear hrs hrun hlc hgc hmc hS hS1 hS2 hb1 hbb;go_wp2_with fail
 go_roundg (m-(i+1));case measure=>omega
 case rel=>exact⟨i+1,by go_num,rfl,by omega,HL4.out⟩
end Go.Proofs.YtiaaekdpfpaigaaGreatDoor.Pk
