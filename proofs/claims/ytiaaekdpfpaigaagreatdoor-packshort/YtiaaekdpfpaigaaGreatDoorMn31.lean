import Derived.Test.YtiaaekdpfpaigaaGreatDoorMn30
set_option linter.unusedSimpArgs false
set_option linter.unusedVariables false
set_option maxRecDepth 20000
set_option maxHeartbeats 4000000
open List renaming length_set->Wvk,mem_cons->WxJ,mem_cons_of_mem->Wvw,size_toArray->WqW
open Nat renaming add_assoc->WzQ,add_comm->Wv5,le_of_eq->WyQ,le_refl->WzV,le_trans->Wqx,zero_add->Wq7
open Option renaming some->Wq9
namespace Go.Proofs.YtiaaekdpfpaigaaGreatDoor.Pk
open Go.Proofs.Tryz
open Go.RowKit Go.Maps Go.Proofs.YtiaaekdpfpaigaaGreatDoor.Id Go.Proofs.YtiaaekdpfpaigaaGreatDoor.Px
theorem ZQ {w:World} {b o:Nat} {cs:List Value} (h:w.rangeAt b o cs) (j:Nat) {ds:List Value} (hd:∀ i v,ds[i]? = some v->cs[j+i]? = some v):w.rangeAt b (o+j) ds:=fun i v hv=>by
 rw[WzQ];exact h (j+i) v (hd i v hv)
theorem Uk (t:Et) (h:Wf t):∀ i v,[(.int .i64 t.ok:Value),t.ov][i]? = some v->(qW t)[28+i]? = some v:=fun i v hv=>by
 obtain⟨-,-,-,-,-,-,-,-,x28,x29⟩:=j3 t h;match i,hv with
 | 0,hv=>rw[x28];exact hv
 | 1,hv=>rw[x29];exact hv
theorem zu6 (t:Et) (h:Wf t):∀ i v,(row .u8 t.id)[i]? = some v->(qW t)[30+i]? = some v:=fun i v hv=>by
 obtain⟨a0,a1,a2,a3,a4,a5,a6,a7,a8,a9,a10,a11,a12,a13,a14,a15,a16,a17,a18,a19,e⟩:=Z6 t.e.id h.i1;unfold qW;rw[e,Wv5];show (row .u8 t.id)[i]? = some v;exact hv
theorem qxv {w:World} {G n:Nat} {v:Value} {l:List Int} (h:w.ownsRow G 5 1 v l.length (l.map (Value.int .u8))) (hl:l.length=n) (h0:0<n) (hb:IsB l):∃ x:Oj,v=slO x/\x.zs=l/\∀ W,K5 w W->Om n W x:=by
 obtain⟨x,e1,e2,e3⟩:=P1 h hl h0 hb;refine⟨x,e1,e2,fun W hW=>?_⟩;obtain⟨y,f1,f2,f3⟩:=P1 (vj h hW) hl h0 hb;rw[e1] at f1;unfold slO at f1;injection f1 with g1 g2 g3;injection g1 with g1;injection g1 with g1 g4;have:y=x:=by
  cases x;cases y
  simp only at g1 g4 g3 e2 f2;subst g1 g4 g3 e2 f2;rfl
 rw[<-this];exact f3
theorem ZX {α:Type} (l:List α) (i:Nat) (x d:α) (h:i<l.length):(l.set i x).getD i d=x:=by
 rw[List.getD_eq_getElem?_getD,List.getElem?_set_self h];rfl
theorem getD_set_ne {α:Type} (l:List α) (i j:Nat) (x d:α) (h:i ≠ j):(l.set i x).getD j d=l.getD j d:=by
 rw[List.getD_eq_getElem?_getD,List.getElem?_set_ne h,<-List.getD_eq_getElem?_getD]
theorem qxw (w:World):(sizeOf 4).run prog w=.ok 1 w:=by kernel_rfl
structure S74 (gi gc E o:Nat) (R:List Value) (W:World):Prop where
 c2:W.cell? ⟨gc,2,none⟩=some (.map (some gi))
 r:W.rangeAt E o R
def G9 (w0 w:World) (G gc gb gi gx:Nat) (ts:List Et) (ev:Value) (nb sb:Nat) (Mb:Nat->Option Value) (ni si:Nat) (Mi:List Int->Option Value) (nx sx:Nat) (Mx:List Int->Option Value) (i:Nat) (l:List Int) (e:Ending) (w':World):Prop :=
 e=.returned (.tuple #[])/\(∀ t,t ≠ 72->KT t w w')/\Ct w0 w' G gc gb gi gx (ts.set i { ts.getD i dT with kn:=true,id:=l }) ev nb sb Mb (ni+1) (if (Mi l).isSome then si else si+1) (fun y=>if y=l then some (.int .i64 i) else Mi y) nx sx Mx
theorem Ck (K n:Nat) (hK:1<=K/\K<=4) (hn:n<=20000) {w0 w:World} {G gc gb gi gx:Nat} {ts:List Et} {ev:Value} {nb sb:Nat} {Mb:Nat->Option Value} {ni si:Nat} {Mi:List Int->Option Value} {nx sx:Nat} {Mx:List Int->Option Value}
  (hC:Ct w0 w G gc gb gi gx ts ev nb sb Mb ni si Mi nx sx Mx) (hT:∀ W,Below G w0 W->Tab W) (hni:ni<=1000) (i:Nat) (hi:i<ts.length) (x:Oj) (hok:(ts.getD i dT).ok=K) (hov:(ts.getD i dT).ov=slO x) (hx:∀ W,K5 w W->Om n W x) :
  Calls prog 74 #[.pointer (some ⟨gc,0,none⟩),.int .i64 i] w (G9 w0 w G gc gb gi gx ts ev nb sb Mb ni si Mi nx sx Mx i (idZ K x.zs)):=by
 obtain⟨E,cap,C,hev,hcap,hGE,hC72,hat⟩:=hC.at (by omega);obtain⟨m,HM⟩:=nm_ ts.length;rw[HM.out] at hev hcap hat
 subst hev;obtain⟨t,HTT⟩:=nm_ (ts.getD i dT);have hai:=hat i (by rw[<-HM.out];exact hi);rw[HTT.out] at hok hov hai;have hwf:Wf t:=by rw[<-HTT.out];exact hC.wf _ (zV ts i dT hi)
 have HC:=hid hC;have HEO:Hid ((Value.slice (some ⟨E,0,none⟩) m cap).ownBlock=some E):=hid rfl;have hu1:=hC.upd HEO.out i hi { t with kn:=true } 27 [.bool true] (by decide) (by rw[HTT.out];exact Ek t hwf (.bool true)) ⟨hwf.i1,hwf.i2,hwf.dv,hwf.ov⟩;obtain⟨w1,HW1⟩:=nm_ (w.setCell ⟨E,i*50+27,none⟩ (.bool true))
 rw[show w.setCells E (i*50+27) [.bool true]=w1 from HW1.out] at hu1;obtain⟨hC1,hk1⟩:=hu1;have HK1:=hid hk1;have HC1:=hid hC1;have c27:w.cell? ⟨E,i*50+27,none⟩=some (.bool t.kn):=hai 27 _ (j3 t hwf).2.2.2.2.2.2.2.1;have f27:w.frozen? ⟨E,i*50+27,none⟩=false:=frozen_of_row _ _ (i*50+27) _ 72 hC72;obtain⟨tk,HTK⟩:=nm_ ({ t with kn:=true } : Et);rw[HTK.out] at HC1 hC1
 have HWK:Hid (Wf tk):=hid (by rw[<-HTK.out];exact⟨hwf.i1,hwf.i2,hwf.dv,hwf.ov⟩);have hi1:i<(ts.set i tk).length:=by rw[Wvk];exact hi
 obtain⟨E1,cap1,C1,hev1,-,-,hC172,hat1⟩:=hC1.at (by omega);injection hev1 with q1 q2 q3;injection q1 with q1;injection q1 with q1;subst q1;have hai1:=hat1 i hi1;rw[ZX _ _ _ _ hi] at hai1;have hokk:tk.ok=K:=by rw[<-HTK.out];exact hok
 have hovk:tk.ov=slO x:=by rw[<-HTK.out];exact hov
 obtain⟨RO,HRO⟩:=nm_ (yQ K x);have HRG1:Hid (w1.rangeAt E (i*50+28) RO):=hid (ZQ hai1 28 (fun j v hv=>by
  refine Uk tk HWK.out j v ?_;rw[hokk,hovk];rw[<-HRO.out] at hv;exact hv))
 have hi27:(prog.info? 27).map (·.size)=some RO.length:=by rw[<-HRO.out];exact vK
 obtain⟨l,HL⟩:=nm_ (idZ K x.zs);have HIW:Hid (IdW l):=hid (by rw[<-HL.out];exact YJ K x);obtain⟨RI,HRI⟩:=rw_ HIW.out.1;have CI:Hid (Calls prog 34 #[.agg RO.toArray] w1 fun e w'=>e=.returned (.tuple #[.agg RI.toArray,.nilIface])/\Below w1.heap.size w1 w'):=hid
  (JY K n hK hn x w1 (hx w1 (hk1 5 (by decide))) (hT w1 hC1.es.below) HRO.out (by rw[HL.out];exact HRI.out.e))
 have HI:=hid hi;have hiI:(i:Int)<m:=by rw[<-HM.out];omega
 have him:i<m:=by rw[<-HM.out];exact hi
 rw[HL.out];clear hC hC1 hk1 hat hat1 hai hai1 hx hT hok hov hokk hovk hwf hi1 hC172 q2 q3 hi;go_enter func74,ntmps74;have cG:w.cell? ⟨gc,0,none⟩=some (.slice (some ⟨E,0,none⟩) m cap):=by rw[cell_of_row _ _ 0 _ _ _ HC.out.box];rfl
 go_wp2_with (first
  | (refine wpList_skip rfl (u_7 4 qxw (.tmp 13) (.const (.bool true)) rfl ⟨E,i*50+27,none⟩ (.bool true) (.bool t.kn) rfl rfl rfl rfl c27 f27) ?_;rw[HW1.out])
  | refine wpList_load_mid rfl 27 _ rfl E (i*50+28) rfl RO _ HRG1.out underlying27 rfl hi27 ?_
  | fail)
 refine CI.out.mono ?_;clear CI cG c27 f27;rintro ev w2 ⟨rfl,hb2⟩;have HC2:=hid (HC1.out.go hb2);have HK2:Hid (∀ t,t ≠ 72->KT t w w2):=hid (fun t ht=>(HK1.out t ht).trans (q8 hb2))
 have hu2:=HC2.out.upd HEO.out i (by rw[Wvk];exact HI.out) { tk with id:=l } 30 (row .u8 l) (by rw[zu,HIW.out.1];decide) (by rw[ZX _ _ _ _ HI.out];exact qzJ tk HWK.out l HIW.out.1) ⟨HWK.out.i1,HIW.out.1,HWK.out.dv,HWK.out.ov⟩;rw[List.set_set,HRI.out.e] at hu2;obtain⟨tn,HTN⟩:=nm_ ({ tk with id:=l } : Et);rw[HTN.out] at hu2
 obtain⟨w3,HW3⟩:=nm_ (w2.setCells E (i*50+30) RI);rw[HW3.out] at hu2;obtain⟨hC3,hk3⟩:=hu2;have HWN:Hid (Wf tn):=hid (by rw[<-HTN.out];exact⟨HWK.out.i1,HIW.out.1,HWK.out.dv,HWK.out.ov⟩);obtain⟨E2,cap2,C2,hev2,-,-,hC272,hat2⟩:=HC2.out.at (by rw[Wvk];have:=HI.out;omega);injection hev2 with q1 q2 q3;injection q1 with q1;injection q1 with q1;subst q1
 have hai2:=hat2 i (by rw[Wvk];exact HI.out);rw[ZX _ _ _ _ HI.out] at hai2;have HTH:Hid (w2.there E (i*50+30) RI.toArray.size):=hid (fun j hj=>by
  have hj20:j<20:=by
   have:=HRI.out.z;rw[WqW,WqW,zu] at this;rw[WqW] at hj;have h20:z20.length=20:=rfl;omega
  have h50:=HWK.out.len;obtain⟨v,hv⟩:∃ v,(qW tk)[30+j]? = some v:=⟨_,List.getElem?_eq_getElem (by omega)⟩;have hc:=hai2 (30+j) v hv;rw[<-WzQ] at hc;exact⟨by rw[hc];rfl,frozen_of_row _ _ _ _ 72 hC272⟩)
 obtain⟨E3,cap3,C3,hev3,-,-,hC372,hat3⟩:=hC3.at (by rw[Wvk];have:=HI.out;omega);injection hev3 with q1 q4 q5;injection q1 with q1;injection q1 with q1;subst q1;have hai3:=hat3 i (by rw[Wvk];exact HI.out);rw[ZX _ _ _ _ HI.out] at hai3;have hr3:w3.rangeAt E (i*50+30) RI:=ZQ hai3 30 (fun j v hv=>by
  refine zu6 tn HWN.out j v ?_;rw[<-HTN.out];show (row .u8 l)[j]? = some v;rw[HRI.out.e];exact hv)
 have HC3:=hid hC3;have HK3:Hid (∀ t,t ≠ 72->KT t w w3):=hid (fun t ht=>(HK2.out t ht).trans (hk3 t ht));clear hat2 hai2 hat3 hai3 hC272 hC372 q2 q3 q4 q5 hb2 hC3 hk3;go_wp2_with (first
  | (refine wpList_store_mid rfl 68 _ _ rfl E (i*50+30) RI.toArray rfl rfl HTH.out HRI.out.j56 HRI.out.o ?_;simp only[];rw[HW3.out])
  | fail)
 have hbd:Below w3.heap.size w3 w3.drew:=zk (Below.refl _ _) 1;have HC4:=hid (HC3.out.go hbd);have HK4:Hid (∀ t,t ≠ 72->KT t w w3.drew):=hid (fun t ht=>(HK3.out t ht).trans (q8 hbd));have HE3:E<w3.heap.size:=(zJ HC3.out.es.own E HEO.out).2;have hr4:w3.drew.rangeAt E (i*50+30) RI:=fun j v hj=>(hbd.cell (p:=⟨E,i*50+30+j,none⟩) HE3).trans (hr3 j v hj)
 clear hbd HE3 hr3;refine Dl.region_U (S74 gi gc E (i*50+30) RI) 9 (by kernel_rfl) ?_;generalize w3.drew=v0 at HC4 HK4 hr4 ⊢;have hH:S74 gi gc E (i*50+30) RI v0:=⟨by rw[cell_of_row _ _ 2 _ _ _ HC4.out.box];rfl,hr4⟩;iterate 1 (refine zK 0 hH ?_;try simp only[Act.put,sL])
 iterate 1 (refine zK 1 hH ?_;try simp only[Act.put,sL])
 iterate 1 (refine zK 2 hH ?_;try simp only[Act.put,sL])
 iterate 1 (refine zK 3 hH ?_;try simp only[Act.put,sL])
 iterate 1 (refine zK 4 hH ?_;try simp only[Act.put,sL])
 iterate 1 (refine zK 5 hH ?_;try simp only[Act.put,sL])
 iterate 1 (refine zK 6 hH ?_;try simp only[Act.put,sL])
 refine Dl.takeU (i:=7) (v:=.agg RI.toArray) rfl (by kernel_rfl) (by kernel_rfl) (by kernel_rfl) (by kernel_rfl) (fun _ _ _ h=>h) (yieldsIf_load_mid (by rfl) 68 _ rfl E (i*50+30) (by rfl) RI _ (fun _ h=>h.r) underlying68 rfl HRI.out.i56) hH ?_;try simp only[Act.put,sL]
 iterate 1 (refine zK 8 hH ?_;try simp only[Act.put,sL])
 obtain⟨kl,hkl⟩:=LW l HIW.out.1 HIW.out.2;obtain⟨w5,hput,hFI,hgr⟩:=HC4.out.im.put JK SZ (by omega) I2 hkl (.int .i64 i);have hX5:=HC4.out.putI hgr hFI;have hK5:∀ t,t ≠ 72->KT t w w5:=fun t ht=>(HK4.out t ht).trans (P0 HC4.out.im hgr);unfold idV at hput;rw[HRI.out.e] at hput;refine Dl.readyU1 (i:=9) (by kernel_rfl) ?_;refine Dl.consU rfl (fun KK hKK=>?_)
 refine step_skip (by rfl) (j8 rfl (by rfl) (by rfl) (by rfl) hput) ?_;refine hKK.out _ _ (.inl rfl) ?_;clear hKK KK;try simp only[Act.put,sL]
 refine Dl.doneU (by kernel_rfl) ?_ _;have HF:Hid (G9 w0 w G gc gb gi gx ts (Value.slice (some ⟨E,0,none⟩) m cap) nb sb Mb ni si Mi nx sx Mx i l (.returned (.tuple #[])) w5):=hid (by
  refine⟨rfl,hK5,?_⟩;rw[HTT.out,show ({ t with kn:=true,id:=l } : Et)=tn by rw[<-HTN.out,<-HTK.out]];exact hX5)
 clear hput hFI hgr hX5 hK5 hkl hH hr4;exact bodyPost_end (results_none (by rfl) _ _ _) rfl HF.out
theorem YV {P:Program} {o:Oper} {a:Act} {w:World} (ty:TypeId) (x y:Operand) (ho:o.op=.store ty x y) (b of:Nat) (cells:Array Value) (hx:a.eval x=.pointer (some ⟨b,of,none⟩)) (hy:a.eval y=.agg cells)
  (ht:w.there b of cells.size) (hi:(P.info? ty).map (·.size)=some cells.size) (h1:cells.all (·.oneCell')=true):(execOp a.eval o).run P w=.ok .skip (w.setCells b of cells.toList):=by
 unfold execOp;simp only[ho,hx,hy,Instr.storeAt,Instr.sureAddr,Sem.run_bind,Sem.run_pure,Result.andThen_ok,run_storeVar_mid w b of ty cells ht hi h1]
theorem Uv {w:World} {b n:Nat} {C:Array Value} {t:TypeId} (h:w.heap[b]? = some (.cells C t (0,0))) (o:Nat) (hn:o+n<=C.size):w.there b o n:=fun j hj=>by
 refine⟨?_,frozen_of_row _ _ _ _ t h⟩;rw[cell_of_row w b (o+j) _ _ _ h];have:o+j<C.size:=by omega
 simp[this]
theorem results76:f76.results=#[.cell 4 27,.tmp 5]:=by kernel_rfl
structure S62 (gc E i ba:Nat) (ev:Value) (W:World):Prop where
 c0:W.cell? ⟨gc,0,none⟩=some ev
 c26:W.cell? ⟨E,i*50+26,none⟩=some (.int .i64 ba)
structure S63 (E:Nat) (kn:Bool) (R:List Value) (W:World):Prop where
 r:W.rangeAt E 28 R
 k:W.cell? ⟨E,27,none⟩=some (.bool kn)
structure S64 (gc gx E i:Nat) (R:List Value) (xv:Value) (W:World):Prop where
 c3:W.cell? ⟨gc,3,none⟩=some (.map (some gx))
 r:W.rangeAt E (i*50+3) R
 lk:(Instr.lookup 65 (.map (some gx)) (.agg R.toArray) true).run prog W=.ok (.tuple #[xv,.bool true]) W
theorem J6 {w0 w:World} {G gc gb gi gx:Nat} {ts:List Et} {ev:Value} {nb sb:Nat} {Mb:Nat->Option Value} {ni si:Nat} {Mi:List Int->Option Value} {nx sx:Nat} {Mx:List Int->Option Value}
  (hC:Ct w0 w G gc gb gi gx ts ev nb sb Mb ni si Mi nx sx Mx) (E:Nat) (hE:ev.ownBlock=some E) (i:Nat) (hi:i<ts.length) (h6:(ts.getD i dT).e.kd=6) (hba:(ts.getD i dT).ba=0) (k:Nat) (v:Value) (kn:Bool) (h0k:(ts.getD 0 dT).ok=k) (h0v:(ts.getD 0 dT).ov=v) (h0n:(ts.getD 0 dT).kn=kn) :
  Calls prog 76 #[.pointer (some ⟨gc,0,none⟩),.pointer (some ⟨E,i*50,none⟩)] w fun e w'=>e=.returned (.tuple #[.agg #[.int .i64 k,v],.bool kn])/\Below w.heap.size w w':=by
 obtain⟨E',cap,C,hev,hcap,hGE,hC72,hat⟩:=hC.at (by omega);obtain rfl:E'=E:=by rw[hev] at hE;exact Wq9.inj hE
 obtain⟨m,HM⟩:=nm_ ts.length;rw[HM.out] at hev hcap hat
 subst hev;obtain⟨t,HTT⟩:=nm_ (ts.getD i dT);obtain⟨t0,HT0⟩:=nm_ (ts.getD 0 dT);have hai:=hat i (by rw[<-HM.out];exact hi);have ha0:=hat 0 (by rw[<-HM.out];omega);rw[HTT.out] at h6 hba hai;rw[HT0.out] at h0k h0v h0n ha0;rw[Nat.zero_mul] at ha0;have hwf:Wf t:=by rw[<-HTT.out];exact hC.wf _ (zV ts i dT hi)
 have hwf0:Wf t0:=by rw[<-HT0.out];exact hC.wf _ (zV ts 0 dT (by omega))
 obtain⟨x0,-,-,-,-,-,x26,-,-,-⟩:=j3 t hwf;obtain⟨-,-,-,-,-,-,-,y27,-,-⟩:=j3 t0 hwf0;have c0:w.cell? ⟨E',i*50,none⟩=some (.int .i64 6):=by have:=hai 0 _ x0;rw[h6] at this;exact this
 have HA26:Hid (w.cell? ⟨E',i*50+26,none⟩=some (.int .i64 0)):=hid (by have:=hai 26 _ x26;rw[hba] at this;exact this);have HA27:Hid (w.cell? ⟨E',27,none⟩=some (.bool kn)):=hid (by have:=ha0 27 _ y27;rw[h0n,Wq7] at this;exact this);obtain⟨R,HR⟩:=nm_ ([.int .i64 k,v] : List Value);have HA28:Hid (w.rangeAt E' 28 R):=hid (by
  have:=ZQ ha0 28 (Uk t0 hwf0);rw[h0k,h0v,HR.out,Wq7] at this;exact this)
 have HO:Hid (∀ v ∈ R,v.oneCell'=true):=hid (by
  obtain⟨a,n,c,hv⟩:=hwf0.ov;rw[<-HR.out,<-h0v,hv];intro u hu;simp only[WxJ,List.not_mem_nil,or_false] at hu;rcases hu with rfl | rfl <;> rfl)
 have hi27:(prog.info? 27).map (·.size)=some R.length:=by rw[<-HR.out];exact vK
 have HC:=hid hC;have hm0:(0:Int)<m:=by rw[<-HM.out];omega
 have hm0':0<m:=by rw[<-HM.out];omega
 have HE1:Hid (E'<w.heap.size):=hid (lt_of_some hC72);obtain⟨G0,HG0⟩:=nm_ w.heap.size;obtain⟨w1,HW1⟩:=nm_ (w.alloc (.cells #[.int .i64 0,.slice none 0 0] 27));have hb1:Below w.heap.size w w1:=by rw[<-HW1.out];exact(Below.refl _ w).alloc (WzV _) _
 have HB1:=hid hb1;have HRW:Hid (w1.heap[G0]? = some (.cells #[.int .i64 0,.slice none 0 0] 27 (0,0))):=hid (by rw[<-HW1.out,<-HG0.out];exact heap_alloc_new _ _);have c0':(w.alloc (.cells #[.int .i64 0,.slice none 0 0] 27)).cell? ⟨E',i*50,none⟩=some (.int .i64 6):=by rw[HW1.out];exact(hb1.cell (p:=⟨E',i*50,none⟩) HE1.out).trans c0
 rw[show (Ending.returned (.tuple #[.agg #[.int .i64 k,v],.bool kn]))=Ending.returned (.tuple #[.agg R.toArray,.bool kn]) by rw[<-HR.out]];clear hC hat hai ha0 hwf hwf0 x0 x26 y27 h6 hba hC72 c0 hb1 hi h0k h0v h0n hE;go_enter func76,ntmps76;go_wp2_with fail
 rw[HW1.out,HG0.out];clear c0';have hbd:Below w1.heap.size w1 w1.drew:=zk (Below.refl _ _) 1;have hb2:Below w.heap.size w w1.drew:=HB1.out.trans (hbd.mono HB1.out.size);have hS2:S62 gc E' i 0 (.slice (some ⟨E',0,none⟩) m cap) w1.drew:=⟨by rw[cell_of_row _ _ 0 _ _ _ (HC.out.go hb2).box];rfl,(hb2.cell (p:=⟨E',i*50+26,none⟩) HE1.out).trans HA26.out⟩;have HB2:=hid hb2
 have HRW2:Hid (w1.drew.heap[G0]? = some (.cells #[.int .i64 0,.slice none 0 0] 27 (0,0))):=hid ((hbd.block _ (lt_of_some HRW.out)).trans HRW.out);clear hbd hb2;refine wp_region_held_drew (S:=S62 gc E' i 0 (.slice (some ⟨E',0,none⟩) m cap)) (by kernel_rfl) hS2 (fun hHeld=>?_);clear hS2;generalize w1.drew=w2 at hHeld HB2 HRW2 ⊢
 iterate 10 (refine qk hHeld ?_;try simp only[Act.put,sL])
 refine wpAnyH_done (by kernel_rfl) ?_ _;clear hHeld;go_wp2_with fail
 have hbd:Below w2.heap.size w2 w2.drew:=zk (Below.refl _ _) 1;have hb3:Below w.heap.size w w2.drew:=HB2.out.trans (hbd.mono HB2.out.size);have hS3:S63 E' kn R w2.drew:=⟨fun j v hj=>(hb3.cell (p:=⟨E',28+j,none⟩) HE1.out).trans (HA28.out j v hj),(hb3.cell (p:=⟨E',27,none⟩) HE1.out).trans HA27.out⟩;have HB3:=hid hb3
 have HRW3:Hid (w2.drew.heap[G0]? = some (.cells #[.int .i64 0,.slice none 0 0] 27 (0,0))):=hid ((hbd.block _ (lt_of_some HRW2.out)).trans HRW2.out);clear hbd hb3;refine wp_region_held_drew (S:=S63 E' kn R) (by kernel_rfl) hS3 (fun hHeld=>?_);clear hS3;generalize w2.drew=w3 at hHeld HB3 HRW3 ⊢;iterate 3 (refine qk hHeld ?_;try simp only[Act.put,sL])
 refine Dl.takeL (i:=3) (v:=.agg R.toArray) rfl (by kernel_rfl) (by kernel_rfl) (by kernel_rfl) (fun _ _ _ h=>h) (yieldsIf_load_mid (by rfl) 27 _ rfl E' 28 (by rfl) R _ (fun _ h=>h.r) underlying27 rfl hi27) hHeld ?_;try simp only[Act.put,sL]
 iterate 4 (refine qk hHeld ?_;try simp only[Act.put,sL])
 refine wpAnyH_ready (rs:=[8]) (by kernel_rfl) (by simp) ?_;refine Dl.consL rfl (fun KK hKK=>?_) AllReadyH.nil;have hRs:R.toArray.size=2:=by rw[<-HR.out];rfl
 have hth:w3.there G0 0 R.toArray.size:=Uv HRW3.out 0 (by rw[hRs];decide);refine step_skip (by rfl) (YV 27 (.tmp 4) (.tmp 29) (by rfl) G0 0 R.toArray (by rfl) (by rfl) hth (by rw[WqW];exact hi27) (all_oneCell_toArray HO.out)) ?_;have hE0:E' ≠ G0:=by have:=HE1.out;have:=HG0.out;omega
 have hg:=kZ (E:=G0) R 0 w3;have hS4:S63 E' kn R (w3.setCells G0 0 R):=⟨World.rangeAt_setCells_apart hHeld.r G0 0 R (.inl hE0),by
  rw[World.cell?_setCells_out G0 R 0 w3 ⟨E',27,none⟩ (fun h _=>absurd h hE0)];exact hHeld.k⟩
 have hrg:=World.rangeAt_setCells_same w3 G0 0 R (by rw[WqW] at hth;exact hth);have HB4:Hid (Below w.heap.size w (w3.setCells G0 0 R)):=hid (HB3.out.grown hg HB3.out.size (fun b hb=>by cases hb;exact WyQ HG0.out));refine hKK.out _ _ hS4 (fun _=>?_);clear hKK KK;try simp only[Act.put,sL]
 generalize w3.setCells G0 0 R=w4 at hS4 hrg HB4 ⊢;refine qk hS4 ?_;try simp only[Act.put,sL]
 refine wpAnyH_done (by kernel_rfl) ?_ _;clear hS4 hg hth hHeld;go_wp2_with fail
 exact bodyPost_ret (v:=.tuple #[.agg R.toArray,.bool kn]) (Q9 results76 _ _ G0 R _ (.bool kn) rfl rfl hrg underlying27 rfl hi27) rfl ⟨rfl,HB4.out⟩
theorem Cv {w0 w:World} {G gc gb gi gx:Nat} {ts:List Et} {ev:Value} {nb sb:Nat} {Mb:Nat->Option Value} {ni si:Nat} {Mi:List Int->Option Value} {nx sx:Nat} {Mx:List Int->Option Value}
  (hC:Ct w0 w G gc gb gi gx ts ev nb sb Mb ni si Mi nx sx Mx) (E:Nat) (hE:ev.ownBlock=some E) (i:Nat) (hi:i<ts.length) (h7:(ts.getD i dT).e.kd=7) (hib:IsB (ts.getD i dT).e.id) (K:Nat) (x:Oj) (hx:Mx (ts.getD i dT).e.id=some (.agg (yQ K x).toArray)) :
  Calls prog 76 #[.pointer (some ⟨gc,0,none⟩),.pointer (some ⟨E,i*50,none⟩)] w fun e w'=>e=.returned (.tuple #[.agg (yQ K x).toArray,.bool true])/\Below w.heap.size w w':=by
 obtain⟨E',cap,C,hev,hcap,hGE,hC72,hat⟩:=hC.at (by omega);obtain rfl:E'=E:=by rw[hev] at hE;exact Wq9.inj hE
 obtain⟨t,HTT⟩:=nm_ (ts.getD i dT);have hai:=hat i hi;rw[HTT.out] at h7 hib hx hai;have hwf:Wf t:=by rw[<-HTT.out];exact hC.wf _ (zV ts i dT hi)
 obtain⟨x0,-⟩:=j3 t hwf;have c0:w.cell? ⟨E',i*50,none⟩=some (.int .i64 7):=by have:=hai 0 _ x0;rw[h7] at this;exact this
 obtain⟨RI,HRI⟩:=rw_ hwf.i1;have HA3:Hid (w.rangeAt E' (i*50+3) RI):=hid (by
  rw[<-HRI.out.e];exact ZQ hai 3 (fun j v hv=>by
   unfold qW;show (_ :: _ :: _ :: _)[3+j]? = some v;rw[Wv5];show (row .u8 t.e.id++_)[j]? = some v;rw[List.getElem?_append_left (List.getElem?_eq_some_iff.1 hv).1];exact hv))
 obtain⟨R,HR⟩:=nm_ (yQ K x);rw[HR.out] at hx ⊢;obtain⟨kl,hkl⟩:=LW t.e.id hwf.i1 hib;have HLK:Hid (∀ W,FM 68 idV zo2 W gx nx sx Mx->(Instr.lookup 65 (.map (some gx)) (.agg RI.toArray) true).run prog W=.ok (.tuple #[.agg R.toArray,.bool true]) W):=hid (fun W hW=>by
  have h:=hW.look JK qqX Ux hkl;rw[hx] at h;unfold idV at h;rw[HRI.out.e] at h;exact h)
 have hRs:R.toArray.size=2:=by rw[<-HR.out];rfl
 have HO:Hid (∀ v ∈ R,v.oneCell'=true):=hid (by rw[<-HR.out];exact jz K x);have hi27:(prog.info? 27).map (·.size)=some R.length:=by rw[<-HR.out];exact vK
 have J27:Hid ((prog.info? 27).map (·.size)=some R.toArray.size):=hid (by rw[WqW];exact hi27);have HC:=hid hC;have HE1:Hid (E'<w.heap.size):=hid (lt_of_some hC72);obtain⟨G0,HG0⟩:=nm_ w.heap.size;obtain⟨w1,HW1⟩:=nm_ (w.alloc (.cells #[.int .i64 0,.slice none 0 0] 27))
 have hb1:Below w.heap.size w w1:=by rw[<-HW1.out];exact(Below.refl _ w).alloc (WzV _) _
 have HB1:=hid hb1;have HRW:Hid (w1.heap[G0]? = some (.cells #[.int .i64 0,.slice none 0 0] 27 (0,0))):=hid (by rw[<-HW1.out,<-HG0.out];exact heap_alloc_new _ _);have c0':(w.alloc (.cells #[.int .i64 0,.slice none 0 0] 27)).cell? ⟨E',i*50,none⟩=some (.int .i64 7):=by rw[HW1.out];exact(hb1.cell (p:=⟨E',i*50,none⟩) HE1.out).trans c0
 have hE0:E' ≠ G0:=by have:=HE1.out;have:=HG0.out;omega
 have HE0:=hid hE0;have HHS:=hid hRs;clear hC hat hai hwf x0 h7 hC72 c0 hb1 hi hE hx hev hcap hGE hib hkl hE0 hRs;go_enter func76,ntmps76;go_wp2_with fail
 rw[HW1.out,HG0.out];clear c0';have hbd:Below w1.heap.size w1 w1.drew:=zk (Below.refl _ _) 1;have HB2:=hid (HB1.out.trans (hbd.mono HB1.out.size))
 have HSB:Hid (∀ W,Below w.heap.size w W->S64 gc gx E' i RI (.agg R.toArray) W):=hid (fun W hW=>⟨by rw[cell_of_row _ _ 3 _ _ _ (HC.out.go hW).box];rfl,fun j v hj=>(hW.cell (p:=⟨E',i*50+3+j,none⟩) HE1.out).trans (HA3.out j v hj),HLK.out W (HC.out.go hW).xm⟩)
 have HRW2:Hid (w1.drew.heap[G0]? = some (.cells #[.int .i64 0,.slice none 0 0] 27 (0,0))):=hid ((hbd.block _ (lt_of_some HRW.out)).trans HRW.out);clear hbd;refine wp_region_held_drew (S:=S64 gc gx E' i RI (.agg R.toArray)) (by kernel_rfl) (HSB.out _ HB2.out) (fun hHeld=>?_);generalize w1.drew=w2 at hHeld HB2 HRW2 ⊢;iterate 8 (refine qk hHeld ?_;try simp only[Act.put,sL])
 refine Dl.takeL (i:=8) (v:=.agg RI.toArray) rfl (by kernel_rfl) (by kernel_rfl) (by kernel_rfl) (fun _ _ _ h=>h) (yieldsIf_load_mid (by rfl) 68 _ rfl E' (i*50+3) (by rfl) RI _ (fun _ h=>h.r) underlying68 rfl HRI.out.i56) hHeld ?_;try simp only[Act.put,sL]
 refine Dl.takeL (i:=9) (v:=.tuple #[.agg R.toArray,.bool true]) rfl (by kernel_rfl) (by kernel_rfl) (by kernel_rfl) (fun _ _ _ h=>h) (Or.inl ⟨by rfl,fun w' h=>J3 rfl (by rfl) (by rfl) h.lk⟩) hHeld ?_;try simp only[Act.put,sL]
 iterate 3 (refine qk hHeld ?_;try simp only[Act.put,sL])
 refine wpAnyH_ready (rs:=[13]) (by kernel_rfl) (by simp) ?_;refine Dl.consL rfl (fun KK hKK=>?_) AllReadyH.nil;obtain⟨w3,HW3⟩:=nm_ (w2.alloc (.cells #[.int .i64 0,.slice none 0 0] 27));obtain⟨G1,HG1⟩:=nm_ w2.heap.size;refine Dl.step_exec (by rfl) (.pointer (some ⟨G1,0,none⟩)) (w':=w3) (by rw[<-HG1.out,<-HW3.out];kernel_rfl) ?_
 have hb23:Below w2.heap.size w2 w3:=by rw[<-HW3.out];exact(Below.refl _ w2).alloc (WzV _) _
 have HB3:=hid (HB2.out.trans (hb23.mono HB2.out.size));have HG2:Hid (G0 ≠ G1):=hid (by have:=lt_of_some HRW2.out;rw[HG1.out] at this;omega);have HRW3:Hid (w3.heap[G0]? = some (.cells #[.int .i64 0,.slice none 0 0] 27 (0,0))):=hid ((hb23.block _ (lt_of_some HRW2.out)).trans HRW2.out)
 have HRX3:Hid (w3.heap[G1]? = some (.cells #[.int .i64 0,.slice none 0 0] 27 (0,0))):=hid (by rw[<-HW3.out,<-HG1.out];exact heap_alloc_new _ _);refine hKK.out _ _ (HSB.out _ HB3.out) (fun _=>?_);clear hKK KK hb23;try simp only[Act.put,sL]
 refine wpAnyH_ready (rs:=[14]) (by kernel_rfl) (by simp) ?_;refine Dl.consL rfl (fun KK hKK=>?_) AllReadyH.nil;have hth:w3.there G1 0 R.toArray.size:=Uv HRX3.out 0 (by rw[HHS.out];decide);refine step_skip (by rfl) (YV 27 (.tmp 7) (.tmp 45) (by rfl) G1 0 R.toArray (by rfl) (by rfl) hth J27.out (all_oneCell_toArray HO.out)) ?_;have hg:=kZ (E:=G1) R 0 w3
 have hrg:=World.rangeAt_setCells_same w3 G1 0 R (by rw[WqW] at hth;exact hth);have HB4:Hid (Below w.heap.size w (w3.setCells G1 0 R)):=hid (HB3.out.grown hg HB3.out.size (fun b hb=>by cases hb;have:=lt_of_some HRW3.out;have:=HG0.out;have h9:=lt_of_some HRW2.out;rw[HG1.out] at h9;omega))
 have HRW4:Hid ((w3.setCells G1 0 R).heap[G0]? = some (.cells #[.int .i64 0,.slice none 0 0] 27 (0,0))):=hid ((hg.block _ (lt_of_some HRW3.out) (fun e=>HG2.out (Wq9.inj e))).trans HRW3.out);refine hKK.out _ _ (HSB.out _ HB4.out) (fun hS4=>?_);clear hKK KK hg hth hHeld;try simp only[Act.put,sL]
 rw[show R.toArray.toList=R from rfl] at *;generalize w3.setCells G1 0 R=w4 at hrg HB4 HRW4 hS4 ⊢;refine qk hS4 ?_;try simp only[Act.put,sL]
 refine wpAnyH_done (by kernel_rfl) ?_ _;clear hS4;have hth4:w4.there G0 0 R.toArray.size:=Uv HRW4.out 0 (by rw[HHS.out];decide);have HTH:=hid hth4;obtain⟨w5,HW5⟩:=nm_ (w4.setCells G0 0 R);have hg5:=kZ (E:=G0) R 0 w4;have hrg5:=World.rangeAt_setCells_same w4 G0 0 R (by rw[WqW] at hth4;exact hth4)
 have HB5:Hid (Below w.heap.size w w5):=hid (by rw[<-HW5.out];exact(HB4.out.grown hg5 HB4.out.size (fun b hb=>by cases hb;exact WyQ HG0.out)));rw[HW5.out] at hrg5;clear hg5 hth4;go_wp2_with (first
  | refine wpList_load_mid rfl 27 _ rfl G1 0 rfl R _ hrg underlying27 rfl hi27 ?_
  | (refine wpList_store_mid rfl 27 _ _ rfl G0 0 R.toArray rfl rfl HTH.out J27.out (all_oneCell_toArray HO.out) ?_;simp only[];rw[HW5.out])
  | fail)
 exact bodyPost_ret (v:=.tuple #[.agg R.toArray,.bool true]) (Q9 results76 _ _ G0 R _ (.bool true) rfl rfl hrg5 underlying27 rfl hi27) rfl ⟨rfl,HB5.out⟩
structure Cx where
 w0:World
 G:Nat
 gc:Nat
 gb:Nat
 gi:Nat
 gx:Nat
 ev:Value
 nb:Nat
 sb:Nat
 Mb:Nat->Option Value
 nx:Nat
 sx:Nat
 Mx:List Int->Option Value
abbrev Cw (c:Cx) (w:World) (ts:List Et) (ni si:Nat) (Mi:List Int->Option Value):Prop:=Ct c.w0 w c.G c.gc c.gb c.gi c.gx ts c.ev c.nb c.sb c.Mb ni si Mi c.nx c.sx c.Mx
structure Gs (c:Cx) (K n:Nat) (es:List En) (w:World) (ts:List Et) (rd:List Nat) (ni si:Nat) (Mi:List Int->Option Value):Prop where
 ct:Cw c w ts ni si Mi
 len:ts.length=es.length
 ent:∀ i,i<ts.length->(ts.getD i dT).e=es.getD i dE/\(ts.getD i dT).ba=0
 dd:Dd w c.G ts
 rdo:∀ i,i ∈ rd->i<ts.length/\(ts.getD i dT).ok=K/\w.ownsRow c.G 5 1 (ts.getD i dT).ov (es.getD i dE).ob.length ((es.getD i dE).ob.map (Value.int .u8))
 ap:∀ i j b,i ∈ rd->j ∈ rd->i ≠ j->(ts.getD i dT).ov.ownBlock=some b->(ts.getD j dT).ov.ownBlock ≠ some b
 kno:∀ i,i<ts.length->(ts.getD i dT).kn=true->i ∈ rd
 mi:∀ y,(Mi y).isSome=true->∃ j,j<ts.length/\(ts.getD j dT).kn=true/\idZ K (es.getD j dE).ob=y
section
variable {c : Cx} {K n : Nat} {es : List En} {w w' : World} {ts : List Et} {rd : List Nat} {ni si : Nat} {Mi : List Int → Option Value}
theorem Gs.mv (h:Gs c K n es w ts rd ni si Mi) (hc:Cw c w' ts ni si Mi) (hk:K5 w w'):Gs c K n es w' ts rd ni si Mi :=
 ⟨hc,h.len,h.ent,h.dd.k5 hk,fun i hi=>⟨(h.rdo i hi).1,(h.rdo i hi).2.1,vj (h.rdo i hi).2.2 hk⟩,h.ap,h.kno,h.mi⟩
theorem Gs.go (h:Gs c K n es w ts rd ni si Mi) (hb:Below w.heap.size w w'):Gs c K n es w' ts rd ni si Mi:=h.mv (h.ct.go hb) (q8 hb)
theorem qz {α:Type} (l:List α) (i j:Nat) (x d:α) (h:i<l.length):(l.set i x).getD j d=if j=i then x else l.getD j d:=by
 by_cases e:j=i
 ·subst e;rw[if_pos rfl,ZX _ _ _ _ h]
 rw[if_neg e,getD_set_ne _ _ _ _ _ (fun e'=>e e'.symm)]
theorem Gs.obj (h:Gs c K n es w ts rd ni si Mi) {E:Nat} (hE:c.ev.ownBlock=some E) (j:Nat) (hj:j<ts.length) (hjr:j ∉ rd) (v:Value) (hvs:∃ a m q,v=.slice a m q) (hv:w.ownsRow c.G 5 1 v (es.getD j dE).ob.length ((es.getD j dE).ob.map (Value.int .u8))) (hf:∀ i,i ∈ rd->∀ b,(ts.getD i dT).ov.ownBlock=some b->v.ownBlock ≠ some b) :
  Gs c K n es (w.setCells E (j*50+28) [.int .i64 K,v]) (ts.set j { ts.getD j dT with ok:=K,ov:=v }) (j :: rd) ni si Mi/\∀ t,t ≠ 72->KT t w (w.setCells E (j*50+28) [.int .i64 K,v]):=by
 have hwf:Wf (ts.getD j dT):=h.ct.wf _ (zV ts j dT hj);obtain⟨h1,h2⟩:=h.ct.upd hE j hj { ts.getD j dT with ok:=K,ov:=v } 28 [.int .i64 K,v] (by show 28+2<=50;omega) (zu5 _ hwf K v) ⟨hwf.i1,hwf.i2,hwf.dv,hvs⟩;have hk:=h2 5 (by decide)
 refine⟨⟨h1,by rw[Wvk];exact h.len,fun i hi=>?_,⟨fun i hi=>?_,fun i k b hik hk2=>?_⟩,fun i hi=>?_,fun i k b hi hk2 hik=>?_,fun i hi=>?_,fun y hy=>?_⟩,h2⟩
 ·rw[Wvk] at hi;rw[qz _ _ _ _ _ hj];split
  ·rename_i e;subst e;exact h.ent i hi
  exact h.ent i hi
 ·rw[Wvk] at hi;have:=vj (h.dd.own i hi) hk;rw[qz _ _ _ _ _ hj];split
  ·rename_i e;subst e;exact this
  exact this
 ·rw[Wvk] at hk2;have:=h.dd.ap i k b hik hk2;rw[qz _ _ _ _ _ hj,qz _ _ _ _ _ hj];split <;> split <;> first | (subst_vars;exact this) | exact this | omega
 ·rw[Wvk,qz _ _ _ _ _ hj];rcases WxJ.1 hi with e | hi
  ·subst e;rw[if_pos rfl];exact⟨hj,rfl,vj hv hk⟩
  rw[if_neg (fun e=>hjr (by rw[<-e];exact hi))];exact⟨(h.rdo i hi).1,(h.rdo i hi).2.1,vj (h.rdo i hi).2.2 hk⟩
 ·rw[qz _ _ _ _ _ hj,qz _ _ _ _ _ hj];rcases WxJ.1 hi with e | hi' <;> rcases WxJ.1 hk2 with e2 | hk2'
  ·exact absurd (e.trans e2.symm) hik
  ·subst e;rw[if_pos rfl,if_neg (fun e=>hik e.symm)];intro hb hb2;exact hf k hk2' b hb2 hb
  ·subst e2;rw[if_pos rfl,if_neg hik];exact fun hb=>hf i hi' b hb
  rw[if_neg (fun e=>hjr (by rw[<-e];exact hi')),if_neg (fun e=>hjr (by rw[<-e];exact hk2'))];exact h.ap i k b hi' hk2' hik
 ·rw[Wvk] at hi;rw[qz _ _ _ _ _ hj];split
  ·rename_i e;subst e;exact fun hk=>Wvw _ (h.kno i hi hk)
  exact fun hk=>Wvw _ (h.kno i hi hk)
 obtain⟨k,h3,h4,h5⟩:=h.mi y hy;refine⟨k,by rw[Wvk];exact h3,?_,h5⟩;rw[qz _ _ _ _ _ hj];split
 ·rename_i e;subst e;exact h4
 exact h4
theorem Gs.know (h:Gs c K n es w ts rd ni si Mi) (j:Nat) (hj:j ∈ rd) (hkj:(ts.getD j dT).kn=false) (hd:∀ i k,i<k->k<es.length->idZ K (es.getD i dE).ob ≠ idZ K (es.getD k dE).ob) {l:List Int} (hl:l=idZ K (es.getD j dE).ob) {e:Ending}
  (hp:G9 c.w0 w c.G c.gc c.gb c.gi c.gx ts c.ev c.nb c.sb c.Mb ni si Mi c.nx c.sx c.Mx j l e w') :
  e=.returned (.tuple #[])/\(∀ t,t ≠ 72->KT t w w')/\Gs c K n es w' (ts.set j { ts.getD j dT with kn:=true,id:=l }) rd (ni+1) (si+1) (fun y=>if y=l then some (.int .i64 j) else Mi y):=by
 obtain⟨e1,h2,h1⟩:=hp;have hjl:=(h.rdo j hj).1;have hno:(Mi l).isSome=false:=by
  cases hs:(Mi l).isSome with
  | false=>rfl
  | true =>
   obtain⟨k,h3,h4,h5⟩:=h.mi l hs;rw[hl] at h5;rcases Nat.lt_trichotomy k j with h6 | h6 | h6
   ·exact absurd h5 (hd k j h6 (by rw[<-h.len];exact hjl))
   ·subst h6;rw[hkj] at h4;cases h4
   exact absurd h5.symm (hd j k h6 (by rw[<-h.len];exact h3))
 rw[hno] at h1;have hk:=h2 5 (by decide);refine⟨e1,h2,h1,by rw[Wvk];exact h.len,fun i hi=>?_,⟨fun i hi=>?_,fun i k b hik hk2=>?_⟩,fun i hi=>?_,fun i k b hi hk2 hik=>?_,fun i hi=>?_,fun y hy=>?_⟩
 ·rw[Wvk] at hi;rw[qz _ _ _ _ _ hjl];split
  ·rename_i e;subst e;exact h.ent i hi
  exact h.ent i hi
 ·rw[Wvk] at hi;have:=vj (h.dd.own i hi) hk;rw[qz _ _ _ _ _ hjl];split
  ·rename_i e;subst e;exact this
  exact this
 ·rw[Wvk] at hk2;have:=h.dd.ap i k b hik hk2;rw[qz _ _ _ _ _ hjl,qz _ _ _ _ _ hjl];split <;> split <;> first | (subst_vars;exact this) | exact this | omega
 ·rw[Wvk,qz _ _ _ _ _ hjl];have:=h.rdo i hi;split
  ·rename_i e;subst e;exact⟨this.1,this.2.1,vj this.2.2 hk⟩
  exact⟨this.1,this.2.1,vj this.2.2 hk⟩
 ·have:=h.ap i k b hi hk2 hik;rw[qz _ _ _ _ _ hjl,qz _ _ _ _ _ hjl];split <;> split <;> first | (subst_vars;exact this) | exact this | omega
 ·rw[Wvk] at hi;rw[qz _ _ _ _ _ hjl];split
  ·rename_i e;subst e;exact fun _=>hj
  exact h.kno i hi
 by_cases e:y=l
 ·refine⟨j,by rw[Wvk];exact hjl,?_,by rw[e,hl]⟩;rw[qz _ _ _ _ _ hjl,if_pos rfl]
 rw[if_neg e] at hy;obtain⟨k,h3,h4,h5⟩:=h.mi y hy;refine⟨k,by rw[Wvk];exact h3,?_,h5⟩;rw[qz _ _ _ _ _ hjl];split
 ·rfl
 exact h4
theorem Ct.own3 {w0:World} {G gc gb gi gx:Nat} {ev:Value} {nb sb:Nat} {Mb:Nat->Option Value} {nx sx:Nat} {Mx:List Int->Option Value} (h:Ct w0 w G gc gb gi gx ts ev nb sb Mb ni si Mi nx sx Mx) {B s m:Nat} {t:TypeId} {v:Value} {xs:List Value} (hv:w.ownsRow B t s v m xs) (hB:G<=B) (ht:t ≠ 72/\t ≠ 67) (hg:w.grownBy w' v.ownBlock) :
  Ct w0 w' G gc gb gi gx ts ev nb sb Mb ni si Mi nx sx Mx:=by
 have hr:∀ b,v.ownBlock=some b->∃ C,w.heap[b]? = some (.cells C t (0,0)):=fun b hb=>jx hv hb;have hGb:∀ b,v.ownBlock=some b->G<=b:=fun b hb=>Wqx hB (zJ hv b hb).1
 refine⟨(hg.block _ (lt_of_some h.box) (fun e=>?_)).trans h.box,⟨h.es.below.grown hg h.es.le hGb,?_,Wqx h.es.le hg.size⟩,h.bm.by hg (fun b e=>?_),h.im.by hg (fun b e=>?_),h.xm.by hg (fun b e=>?_),h.d1,h.d2,h.d3,h.l0,h.l1,h.l2,h.l3,h.wf⟩
 ·obtain⟨C,hC⟩:=hr gc e.symm;rw[h.box] at hC;injection hC with hC;injection hC with e1 e2 e3;exact ht.2 e2.symm
 ·refine h.es.own.kept hg ?_;cases hv':v.ownBlock with
  | none=>cases hq:ev.ownBlock <;> simp
  | some b =>
   refine .inr (fun e=>?_);obtain⟨C,hC⟩:=hr b hv';obtain⟨C',hC'⟩:=jx h.es.own e;rw[hC] at hC';injection hC' with hC';injection hC' with e1 e2 e3;exact ht.1 e2
 ·obtain⟨C,hC⟩:=hr b e;exact ZZ h.bm hC
 ·obtain⟨C,hC⟩:=hr b e;exact ZZ h.im hC
 obtain⟨C,hC⟩:=hr b e;exact ZZ h.xm hC
end
abbrev zu7 (n:Nat):List Value:=[.int .i64 n]
theorem info3:(prog.info? 3).map (fun i=>(i.zero,i.size,i.bytes))=some (some (.int .i64 0),1,8):=by kernel_rfl
theorem zu8 (j:Int) (w:World):(Instr.buildSlice 23 1 #[(0,.int .i64 j)]).run prog w=.ok (.slice (some ⟨w.heap.size,0,none⟩) 1 1) (w.alloc (.cells #[.int .i64 j] 3)):=by kernel_rfl
theorem qzK (k:Int) (a:Option Addr) (m c:Nat):prog.built 27 [(0,.int .i64 k),(1,.slice a m c)]=some #[.int .i64 k,.slice a m c]:=by kernel_rfl
structure St (c:Cx) (K n:Nat) (hs:List (List Int)) (es:List En):Prop where
 hK:1<=K/\K<=4
 n0:0<n
 hn:n<=20000
 ok:Oks K hs es
 obl:∀ i,i<es.length->(es.getD i dE).ob.length=n
 ids:∀ i k,i<k->k<es.length->idZ K (es.getD i dE).ob ≠ idZ K (es.getD k dE).ob
 hx:∀ h ∈ hs,∃ x:Oj,c.Mx (idZ K h)=some (.agg (yQ K x).toArray)/\x.zs=h/\∀ W,Below c.G c.w0 W->Om n W x
 tab:∀ W,Below c.G c.w0 W->Tab W
 ln:es.length<=100
def Lf (es:List En) (k0:Bool) (j:Nat):Bool:=(es.getD j dE).kd == 6 && !k0
theorem Gs.oz {c:Cx} {K n:Nat} {hs:List (List Int)} {es:List En} {w:World} {ts:List Et} {rd:List Nat} {ni si:Nat} {Mi:List Int->Option Value} (h:Gs c K n es w ts rd ni si Mi) (hS:St c K n hs es) (i:Nat) (hi:i ∈ rd) :
  ∃ x:Oj,(ts.getD i dT).ok=K/\(ts.getD i dT).ov=slO x/\x.zs=(es.getD i dE).ob/\∀ W,K5 w W->Om n W x:=by
 obtain⟨h1,h2,h3⟩:=h.rdo i hi;have hl:i<es.length:=by rw[<-h.len];exact h1
 obtain⟨x,e1,e2,e3⟩:=qxv h3 (hS.obl i hl) hS.n0 (hS.ok i hl).obb;exact⟨x,h2,e1,e2,e3⟩
theorem zu9 {c:Cx} {K n:Nat} {hs:List (List Int)} {es:List En} {w:World} {ts:List Et} {rd:List Nat} {ni si:Nat} {Mi:List Int->Option Value} (h:Gs c K n es w ts rd ni si Mi) (hS:St c K n hs es) (E:Nat) (hE:c.ev.ownBlock=some E) (j:Nat) (hj:j<ts.length) (hk:(es.getD j dE).kd=6 ∨ (es.getD j dE).kd=7) (hL:Lf es (ts.getD 0 dT).kn j=false) :
  ∃ x:Oj,Dl.Plain.app x.zs (es.getD j dE).raw=some (es.getD j dE).ob/\x.zs.length=n/\(∀ W,K5 w W->Below c.G c.w0 W->Om n W x)/\
  Calls prog 76 #[.pointer (some ⟨c.gc,0,none⟩),.pointer (some ⟨E,j*50,none⟩)] w fun e w'=>e=.returned (.tuple #[.agg (yQ K x).toArray,.bool true])/\Below w.heap.size w w':=by
 have hje:j<es.length:=by rw[<-h.len];exact hj
 have ho:=hS.ok j hje;obtain⟨e1,e2⟩:=h.ent j hj;have hK:=hS.hK;rcases hk with hk | hk
 ·have h0:(ts.getD 0 dT).kn=true:=by
   unfold Lf at hL;rw[hk] at hL;simpa using hL
  have h0r:=h.kno 0 (by omega) h0;obtain⟨x,x1,x2,x3,x4⟩:=h.oz hS 0 h0r;rcases ho.how with ⟨a,_⟩ | ⟨_,_,_,_,a⟩ | ⟨a,_⟩
  ·omega
  ·refine⟨x,by rw[x3];exact a,by rw[x3];exact hS.obl 0 (by omega),fun W hW _=>x4 W hW,?_⟩;exact J6 h.ct E hE j hj (by rw[e1];exact hk) e2 K (slO x) true x1 x2 h0
  omega
 rcases ho.how with ⟨a,_⟩ | ⟨a,_⟩ | ⟨_,_,hh,a1,a2,a3⟩
 ·omega
 ·omega
 obtain⟨x,x1,x2,x3⟩:=hS.hx hh a1;refine⟨x,by rw[x2];exact a3,?_,fun W _ hW=>x3 W hW,?_⟩
 ·exact(x3 w h.ct.es.below).len
 exact Cv h.ct E hE j hj (by rw[e1];exact hk) (by rw[e1];exact ho.idb) K x (by rw[e1,a2];exact x1)
structure S97 (H1 E j:Nat) (xv dv:Value) (W:World):Prop where
 c1:W.cell? ⟨H1,1,none⟩=some xv
 c25:W.cell? ⟨E,j*50+25,none⟩=some dv
theorem qzV (x y:Value) (w:World):(callFunc 97 #[x,y]).run prog w=.ok (.enter 97 #[x,y]) w:=by kernel_rfl
abbrev Nl (w:World) (B:Nat) (v:Value) (l:List Nat):Prop:=Bx zu7 1 3 w w B v l
theorem Nl.app {w:World} {B:Nat} {v:Value} {l:List Nat} (h:Nl w B v l) (j b:Nat) (hb:w.rangeAt b 0 (zu7 j)) (hl:l.length<=3000) (ty:TypeId):∃ v' w',(Builtin.append_ #[23,23] ty #[v,.slice (some ⟨b,0,none⟩) 1 1]).run prog w=.ok v' w'/\Nl w' B v' (l++[j])/\w.grownBy w' v.ownBlock/\Dl.Mv w w' v v':=by
 obtain⟨v',w',h1,h2,h3,h4⟩:=h.app1 b j hb rfl (by decide) (fun v hv=>by simp only[List.mem_singleton] at hv;subst hv;rfl) hl 23 underlying23 info3 rfl (by decide) ty;exact⟨v',w',h1,h2.re,h3,h4⟩
theorem Nl.kt {w w':World} {B:Nat} {v:Value} {l:List Nat} (h:Nl w B v l) (hk:KT 3 w w'):Nl w' B v l:=⟨Below.refl _ _,vj h.own hk,Wqx h.le hk.size⟩
theorem Nl.by {w w':World} {B:Nat} {v u:Value} {l:List Nat} (h:Nl w B v l) (hg:w.grownBy w' u.ownBlock) (hne:∀ b,u.ownBlock=some b->v.ownBlock ≠ some b):Nl w' B v l :=
 ⟨Below.refl _ _,h.own.kept hg (by
  cases hv:u.ownBlock with
  | none=>cases hq:v.ownBlock <;> simp
  | some b=>exact .inr (hne b hv)),Wqx h.le hg.size⟩
theorem Nl.ps {w:World} {B:Nat} {v:Value} {l:List Nat} (h:Nl w B v l):∃ a cap,v=.slice a l.length cap/\l.length<=cap/\∀ p,p<l.length->∃ b,a=some ⟨b,0,none⟩/\v.ownBlock=some b/\w.cell? ⟨b,p,none⟩=some (.int .i64 (l.getD p 0)):=by
 obtain⟨a,cap,e1,hP,-,hz⟩:=Bx.px (d:=(0:Nat)) h (fun x _=>rfl);refine⟨a,cap,e1,hP.capl,fun p hp=>?_⟩;obtain⟨b,of,e2,e3,e4⟩:=hP.at_ (by omega);rcases hz with hz | ⟨b',hz⟩
 ·rw[hz] at e2;cases e2
 rw[hz] at e2;cases e2
 refine⟨b,hz,by rw[e1,hz];rfl,?_⟩;have:=e4 p hp 0 _ rfl;simpa using this
end Go.Proofs.YtiaaekdpfpaigaaGreatDoor.Pk
