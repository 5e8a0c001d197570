import Derived.Lib.SlBytesConst
import Derived.Test.YtiaaekdpfpaigaaGreatDoorMn28
set_option linter.unusedSimpArgs false
set_option linter.unusedVariables false
set_option maxRecDepth 20000
set_option maxHeartbeats 4000000
open List renaming append_assoc->Wz1,getElem_of_mem->Wvq,length_append->Wz6,length_drop->Wz8,length_map->Wxx,length_singleton->Wx4,map_append->Wy4,map_cons->Wxj,map_nil->Wxk,map_toArray->Wxy,mem_append->WqX,mem_append_left->Wvx,mem_append_right->Wvj,mem_cons->WxJ,mem_map->Wx9,size_toArray->WqW,take_of_length_le->Wzu
open Nat renaming le_refl->WzV,le_trans->Wqx,lt_of_lt_of_le->Wqj
namespace Go.Proofs.YtiaaekdpfpaigaaGreatDoor.Pk
open Go.Proofs.Tryz
open Go.RowKit Go.Maps Go.Proofs.YtiaaekdpfpaigaaGreatDoor.Id Go.Proofs.YtiaaekdpfpaigaaGreatDoor.Px
def hasB (os:List Oj):List Bs:=os.map fun x=>⟨x,-1,0⟩
theorem zzX (os:List Oj) (i:Nat) (h:i<os.length):hasB (os.take (i+1))=hasB (os.take i)++[⟨os.getD i dO,-1,0⟩]:=by
 unfold hasB;rw[yY dO os i h,Wy4];rfl
structure Hr (w0 w:World) (B:Nat) (v:Value) (out:List Int):Prop where
 below:Below B w0 w
 le:B<=w.heap.size
 row_:∃ g,v=.slice (some ⟨g,0,none⟩) out.length out.length/\g<w.heap.size/\Id.At w g 0 out
theorem Hr.alloc {w0 w:World} {B:Nat} {v:Value} {out:List Int} (h:Hr w0 w B v out) (o:Obj):Hr w0 (w.alloc o) B v out:=by
 obtain⟨g,e1,e2,e3⟩:=h.row_;refine⟨h.below.alloc h.le o,Wqx h.le (by simp),g,e1,Wqj e2 (by simp),fun i hi=>?_⟩;have hb:Below w.heap.size w (w.alloc o):=(Below.refl _ w).alloc (WzV _) o;exact(hb.cell (p:=⟨g,0+i,none⟩) e2).trans (e3 i hi)
theorem SJ {w w0:World} {ops:Array Oper} {rest:List Oper} {o:Oper} {a:Act} {Q:Exit->Act->World->Prop} (hgd:o.guard=none) (s x:Operand) (ho:o.op=.call { callee:=.builtin .append,args:=#[s,x],argTypes:=#[22,22] }) (B:Nat) (v:Value) (out:List Int) (hs:a.eval s=v) (h:Hr w0 w B v out)
    (ax:Option Addr) (cx:Nat) (l:List Int) (hx:a.eval x=.slice ax l.length cx) (hS:Sl w ax cx l) (h0:0<l.length) (hl:out.length+l.length<=1000000)
    (hK:∀ v' w',Bd w0 w' B v' (out++l)->w.grownBy w' v.ownBlock->wpList prog ops Q rest (a.put o.dst v') w'):wpList prog ops Q (o :: rest) a w:=by
  obtain⟨i5,hi,hz0,hz1,hz2⟩:=info_parts info5
  obtain⟨g,rfl,hg,hat⟩:=h.row_
  obtain⟨b,off,rfl,hb,hbat⟩:=hS.at_ h0
  have hr:=run_append_grow (P:=prog) w 22 o.type 5 i5 (.int .u8 0) underlying22 hi hz0 ⟨g,0,none⟩ out.length out.length (out.map (Value.int .u8)) (by rw[hz1];simp) (fun j u hj=>by
      rw[List.getElem?_map] at hj
      cases hc:out[j]? with
      | none=>rw[hc] at hj;cases hj
      | some y =>
        rw[hc] at hj;cases hj
        have:=hat j (List.getElem?_eq_some_iff.1 hc).1
        rw[addr_add]
        simpa [List.getD_eq_getElem?_getD,hc] using this) ⟨b,off,none⟩ l.length cx (l.map (Value.int .u8)) (by rw[hz1];simp) (fun j u hj=>by
      rw[List.getElem?_map] at hj
      cases hc:l[j]? with
      | none=>rw[hc] at hj;cases hj
      | some y =>
        rw[hc] at hj;cases hj
        have:=hbat j (List.getElem?_eq_some_iff.1 hc).1
        rw[addr_add]
        simpa [List.getD_eq_getElem?_getD,hc] using this) (by omega) (by omega) (by rw[hz2];exact growslice_fits (by omega) (by omega))
  have hge:=grownCap_ge w (out.length+l.length) out.length 5
  have hcm:grownCap w (out.length+l.length) out.length 5<=maxLen:=grownCap_le_maxLen w (out.length+l.length) out.length 5 (by unfold maxLen;omega)
  have hgr:∀ row,w.grownBy (w.drew.alloc (.cells ((out.map (Value.int .u8)).toArray++(l.map (Value.int .u8)).toArray++Builtin.zeroCells (Value.cells (.int .u8 0)) (grownCap w (out.length+l.length) out.length 5-(out.length+l.length))) 5)) row:=fun row =>
    ⟨rfl,rfl,rfl,by simp,fun k hk _=>heap_alloc_old w.drew _ hk⟩
  refine wpList_plain hgd fun K hK'=>?_
  unfold Oper.wp execOp
  simp only[ho,resolve,invoke,builtin,Sem.run_bind,Sem.run_pure,Result.andThen_ok,Wxy,Wxj,Wxk,hs,hx,hr]
  refine hK' _ _ (hK _ _ ⟨h.below.grown (hgr none) h.le (fun k hk=>by cases hk),⟨by simp,.inr ⟨w.heap.size,_,_,by rw[Wz6],h.le,heap_alloc_new w.drew _,by rw[Wz6];exact hge,hcm,?_,?_⟩⟩,Wqx h.le (hgr none).size⟩ (hgr _))
  · simp only[Array.size_append,WqW,Wxx,size_zeroCells]
    show out.length+l.length+(grownCap w (out.length+l.length) out.length 5-(out.length+l.length))*1=_
    omega
  · simp only[Array.toList_append,Wz1,Wz6,Nat.mul_one]
    rw[<-Wz1,Wy4,List.take_left' (by simp)]
theorem Jw (w0 w:World) (B:Nat) (v:Value) (out:List Int) (n:Nat) (hn:n<4294967296) (hb:Hr w0 w B v out) (hl:out.length<=900000) :
  Calls prog 35 #[v,.int .u32 n] w (PoA w0 w B v (out++n4 n)):=by
 have HN:Hid (n4 n=[(n:Int) / 16777216,(n:Int) / 65536 % 256,(n:Int) / 256 % 256,(n:Int) % 256]):=zv2 n hn;obtain⟨w1,HW1⟩:=nm_ (w.alloc (.cells #[.int .u8 ((n:Int) / 16777216),.int .u8 ((n:Int) / 65536 % 256),.int .u8 ((n:Int) / 256 % 256),.int .u8 ((n:Int) % 256)] 5));have HB1:Hid (Hr w0 w1 B v out):=hid (by rw[<-HW1.out];exact hb.alloc _)
 have HS1:Hid (Sl w1 (some ⟨w.heap.size,0,none⟩) 4 [(n:Int) / 16777216,(n:Int) / 65536 % 256,(n:Int) / 256 % 256,(n:Int) % 256]):=hid (by rw[<-HW1.out];exact zkY _ _ _ _ _);have HG1:Hid (w.grownBy w1 v.ownBlock):=hid (by rw[<-HW1.out];exact World.grownBy_alloc w _ _)
 have hl4:out.length + [(n:Int) / 16777216,(n:Int) / 65536 % 256,(n:Int) / 256 % 256,(n:Int) % 256].length<=1000000:=by simp;omega
 clear hb;go_enter func35,ntmps35;go_wp2_with (first
  | (at_builtin;rw[HW1.out];refine SJ rfl _ _ rfl B _ out rfl HB1.out (some ⟨w.heap.size,0,none⟩) 4 [(n:Int) / 16777216,(n:Int) / 65536 % 256,(n:Int) / 256 % 256,(n:Int) % 256] rfl HS1.out (by simp) hl4 ?_;intro v2 w2 hb2 hg2;have HB2:Hid (Bd w0 w2 B v2 (out++n4 n)):=hid (by rw[HN.out];exact hb2);have HG2:Hid (w.grownBy w2 v.ownBlock):=HG1.out.trans hg2;clear hb2 hg2)
  | fail)
 go_ret;exact⟨_,rfl,HB2.out,HG2.out⟩
theorem Iv (w:World):Hr w (w.alloc (.cells #[.int .u8 80,.int .u8 65,.int .u8 67,.int .u8 75,.int .u8 0,.int .u8 0,.int .u8 0,.int .u8 2] 5 (8,9))) w.heap.size (.slice (some ⟨w.heap.size,0,none⟩) 8 8) mark :=
 ⟨(Below.refl _ w).alloc (WzV _) _,by simp,w.heap.size,rfl,by simp,fun i hi=>by
  have h8:i<8:=hi
  rw[World.cell?_alloc_mark]
  rcases i with _ | _ | _ | _ | _ | _ | _ | _ | i
  all_goals first | rfl | omega⟩
theorem qzv (a:Option Addr) (n c:Nat):prog.built 58 [(0,.slice a n c)]=some #[.slice a n c,.slice none 0 0,.slice none 0 0]:=by kernel_rfl
theorem qxq (K:Nat) (x:Oj) (w:World):(Instr.build 95 #[(0,.agg (yQ K x).toArray),(1,.int .i64 (-1))]).run prog w=.ok (.agg (kz K ⟨x,-1,0⟩).toArray) w:=by kernel_rfl
structure S5 (gw H:Nat) (hv:Value) (RO:List Value) (W:World):Prop where
 c2:W.cell? ⟨gw,2,none⟩=some hv
 r0:W.rangeAt H 0 RO
def zvW (w:World) (K N:Nat) (os:List Oj) (ev:Ending) (w':World):Prop :=
 ∃ gw ov hv,ev=.returned (.pointer (some ⟨gw,0,none⟩))/\Wt w w' w.heap.size gw K N [] [] (hasB os) ov (.slice none 0 0) hv
set_option maxHeartbeats 8000000 in
theorem N3 (K n N:Nat) (hN:N<=5000) (a:Option Addr) (cap:Nat) (os:List Oj) (w:World) (hP:Po K w a cap os) (hm:os.length<=1000) :
  Calls prog 18 #[.int .i64 N,.slice a os.length cap] w (zvW w K N os):=by
 obtain⟨m,HM⟩:=nm_ os.length;obtain⟨G,HG⟩:=nm_ w.heap.size;have hm2:m<=1000:=by rw[<-HM.out];exact hm
 have HP:=hid hP;obtain⟨zo,HZO⟩:=nm_ ((#[.int .i64 0,.slice none 0 0] : Array Value):Array Value);have hz27:∀ w:World,(zeroValue 27).run prog w=.ok (.agg zo) w:=fun w=>by rw[<-HZO.out];exact Ux w
 obtain⟨w1,HW1⟩:=nm_ (w.alloc (.cells #[.int .u8 80,.int .u8 65,.int .u8 67,.int .u8 75,.int .u8 0,.int .u8 0,.int .u8 0,.int .u8 2] 5 (8,9)));have HB1:Hid (Hr w w1 G (.slice (some ⟨G,0,none⟩) 8 8) mark):=hid (by rw[<-HW1.out,<-HG.out];exact Iv w)
 have C35:Hid (Calls prog 35 #[.slice (some ⟨G,0,none⟩) 8 8,.int .u32 N] w1 (PoA w w1 G (.slice (some ⟨G,0,none⟩) 8 8) (mark++n4 N))):=hid (Jw w w1 G _ mark N (by omega) HB1.out (by decide));have hNu:(N:Int) % 4294967296=(N:Int):=by omega
 have hcv:=fun (w:World) (C:Array Value) (n c:Nat)=>Lib.run_convert_bytes_const (P:=prog) w 22 5 C n c underlying22 underlying5;rw[HM.out];clear hP hm;go_enter func18,ntmps18;go_wp2_with fail
 rw[HW1.out,HG.out];refine C35.out.mono ?_;rintro ev w2 ⟨v2,rfl,hb2,hg2⟩;obtain⟨a2,c2,rfl,-⟩:=xW hb2;have HL:(mark++n4 N).length=12:=rfl;rw[HL];obtain⟨gw,HGW⟩:=nm_ w2.heap.size;obtain⟨w3,HW3⟩:=nm_ (w2.alloc (.cells #[.slice a2 12 c2,.slice none 0 0,.slice none 0 0] 58));have hb3:Below w2.heap.size w2 w3:=by rw[<-HW3.out];exact(Below.refl _ w2).alloc (WzV _) _
 have HWT:Hid (Wt w w3 G gw K N [] [] (hasB (os.take 0)) (.slice a2 12 c2) (.slice none 0 0) (.slice none 0 0)):=hid (by
  have hbd:Bd w w3 G (.slice a2 12 c2) (pkb N []):=by
   have h:=hb2.carry hb3;have e:pkb N []=mark++n4 N:=(by unfold pkb bdy;simp);rw[e];exact h
  have hG3:G<=w3.heap.size:=hbd.le;have hnil:Bx (kz K) 4 95 w w3 G (.slice none 0 0) []:=⟨hbd.below,⟨rfl,.inl ⟨rfl,rfl⟩⟩,hG3⟩;refine⟨by rw[<-HW3.out,<-HGW.out];exact heap_alloc_new _ _,hbd,hnil,hnil,by rw[<-HGW.out];exact hb2.le,fun e=>?_,(fun e=>by cases e),(fun e=>by cases e),fun b _=>⟨(fun e=>by cases e),(fun e=>by cases e)⟩,fun b e=>by cases e⟩;have:=(zJ hb2.own gw e).2
  have:=HGW.out;omega)
 have HBU:Hid (prog.built 58 [(0,.slice a2 12 c2)]=some #[.slice a2 12 c2,.slice none 0 0,.slice none 0 0]):=hid (qzv a2 12 c2);clear hb2 hg2 hb3 HL;go_wp2_with (first
  | (refine vV rfl 58 _ rfl _ (by simp only[Wxy,Wxj,Wxk];exact HBU.out) ?_)
  | fail)
 rw[HW3.out,HGW.out];go_loopg [17] m (fun g iv wr=>∃ (i:Nat) (hv:Value),iv=.int .i64 i/\g=m-i/\i<=m/\Hid (Wt w wr G gw K N [] [] (hasB (os.take i)) (.slice a2 12 c2) (.slice none 0 0) hv));case atStart=>exact⟨0,_,rfl,rfl,by omega,HWT.out⟩
 obtain⟨i,hv,rfl,hg,him,HX⟩:=hrel;by_cases hlt:i<m;rotate_left
 ·have hltI:¬ (i:Int)<m:=by omega
  obtain rfl:i=m:=by omega
  go_wp2_with fail
  go_ret;refine⟨gw,.slice a2 12 c2,hv,rfl,?_⟩;have h:=HX.out;rw[Wzu (by rw[HM.out];exact WzV _)] at h;rw[HG.out];exact h
 have hltI:(i:Int)<m:=by omega
 have hbw:Below w.heap.size w wr:=by rw[HG.out];exact HX.out.out.below
 obtain⟨b,off,ha',hbb,hr⟩:=(HP.out.below hbw).at_ (by rw[HM.out];omega);subst ha';have hcap:m<=cap:=by have:=HP.out.capl;rw[HM.out] at this;exact this
 have hri:=hr i (by rw[HM.out];exact hlt);obtain⟨o,HO⟩:=nm_ (os.getD i dO);rw[HO.out] at hri;obtain⟨RO,HRO⟩:=nm_ (yQ K o);rw[HRO.out] at hri;have hi27:(prog.info? 27).map (·.size)=some RO.length:=by rw[<-HRO.out];exact vK
 have J27:Hid ((prog.info? 27).map (·.size)=some RO.toArray.size):=hid (by rw[WqW];exact hi27);have E27:Hid (zo.size=RO.toArray.size):=hid (by rw[<-HZO.out,<-HRO.out];rfl);have O27:Hid (RO.toArray.all (·.oneCell')=true):=hid (by rw[<-HRO.out];exact all_oneCell_toArray (jz K o));obtain⟨H1,wa,HNA⟩:=nw 27 zo wr RO
 have hba:Below wr.heap.size wr wa:=by rw[HNA.out.h];exact HNA.out.below
 have HXa:=hid (HX.out.go hba);have HRR:=hid hri;have HH:Hid (∀ b,b<wr.heap.size->b ≠ H1):=hid (fun b h=>by rw[<-HNA.out.h];omega);obtain⟨ah,ch,hhv,-,hhb,-⟩:=Bx.px (d:=dB) HX.out.hs (kj K _);obtain⟨hl,HHL⟩:=nm_ ((hasB (os.take i)).length);rw[HHL.out] at hhv;subst hhv;have hlm:hl<=1000:=by rw[<-HHL.out];unfold hasB;rw[Wxx,List.length_take];omega
 clear hr hri hbb hba hbw hhb;go_wp2_with (first
  | refine wpList_load_mid rfl 27 _ rfl b (off+i*2) rfl RO _ HRR.out underlying27 rfl hi27 ?_
  | (refine wpList_store_row rfl 27 _ _ rfl wr.heap.size RO.toArray rfl rfl 27 zo HNA.out.d J27.out E27.out O27.out ?_;rw[HNA.out.w,HNA.out.h])
  | fail)
 have hbd:Below wa.heap.size wa wa.drew:=zk (Below.refl _ _) 1;have HXb:=hid (HXa.out.go hbd);have HRG:Hid (wa.drew.heap[H1]? = some (.cells RO.toArray 27 (0,0))):=hid HNA.out.box;have hH:S5 gw H1 (.slice ah hl ch) RO wa.drew:=⟨by rw[cell_of_row _ _ 2 _ _ _ HXb.out.box];rfl,zx HRG.out⟩
 have HLH:Hid (∀ b,(Value.slice ah hl ch).ownBlock=some b->b ≠ H1):=hid (fun b e=>HH.out b (zJ HX.out.hs.own b e).2);refine Dl.region_U (S5 gw H1 (.slice ah hl ch) RO) 11 (by kernel_rfl) ?_;generalize wa.drew=v0 at hH HXb HRG ⊢;clear hbd;refine zK 0 hH ?_;try simp only[Act.put,sL]
 refine zK 1 hH ?_;try simp only[Act.put,sL]
 refine zK 2 hH ?_;try simp only[Act.put,sL]
 refine zK 3 hH ?_;try simp only[Act.put,sL]
 refine zK 4 hH ?_;try simp only[Act.put,sL]
 refine Dl.takeU (i:=5) (v:=.agg RO.toArray) rfl (by kernel_rfl) (by kernel_rfl) (by kernel_rfl) (by kernel_rfl) (fun _ _ _ h=>h) (yieldsIf_load_mid (by rfl) 27 _ rfl H1 0 (by rfl) RO _ (fun _ h=>h.r0) underlying27 rfl hi27) hH ?_;try simp only[Act.put,sL]
 obtain⟨YB,HYB⟩:=nm_ (kz K ⟨o,-1,0⟩);have hr95:∀ w:World,(Instr.build 95 #[(0,.agg RO.toArray),(1,.int .i64 (-1))]).run prog w=.ok (.agg YB.toArray) w:=fun w=>by rw[<-HRO.out,<-HYB.out];exact qxq K o w
 refine Dl.takeU (i:=6) (v:=.agg YB.toArray) rfl (by kernel_rfl) (by kernel_rfl) (by kernel_rfl) (by kernel_rfl) (fun _ _ _ h=>h) (Or.inl ⟨by rfl,fun w' _=>VX 95 (.tmp 26) (.const (.int .i64 (-1))) (by rfl) _ _ _ (by rfl) (by rfl) (hr95 w')⟩) hH ?_;try simp only[Act.put,sL]
 obtain⟨v1,HV1⟩:=nm_ (v0.alloc (.cells YB.toArray 95));have hb1:Below v0.heap.size v0 v1:=by rw[<-HV1.out];exact(Below.refl _ v0).alloc (WzV _) _
 have hr56:(Instr.buildSlice 56 1 #[(0,.agg YB.toArray)]).run prog v0=.ok (.slice (some ⟨v0.heap.size,0,none⟩) 1 1) v1:=by rw[<-HV1.out,<-HYB.out];exact qqK K _ v0
 obtain⟨gs,HGS⟩:=nm_ v0.heap.size;rw[HGS.out] at hr56;have HX1:=hid (HXb.out.go hb1);have hS1:S5 gw H1 (.slice ah hl ch) RO v1:=⟨by rw[cell_of_row _ _ 2 _ _ _ HX1.out.box];rfl,zx ((hb1.block _ (lt_of_some HRG.out)).trans HRG.out)⟩;have hrs:v1.rangeAt gs 0 (kz K ⟨o,-1,0⟩):=by
  rw[HYB.out,<-HV1.out,<-HGS.out];exact zx (heap_alloc_new _ _)
 obtain⟨hv',v2,hrun,hbx2,hg2,hm2'⟩:=HX1.out.hs.app1 gs ⟨o,-1,0⟩ hrs rfl (by decide) (DX K _) (by rw[HHL.out];omega) 56 underlying56 zvZ rfl (by decide) 56;have hw3:=HX1.out.put2 hbx2 hg2 hm2'
 have hbx9:v2.heap[gw]? = some (.cells #[.slice a2 12 c2,.slice none 0 0,.slice ah hl ch] 58 (0,0)):=(hg2.block _ (lt_of_some HX1.out.box) (fun h=>HX1.out.n3 h.symm)).trans HX1.out.box;obtain⟨a7,c7,hv7,-,-,-⟩:=Bx.px (d:=dB) hbx2 (kj K _);obtain⟨l7,HL7⟩:=nm_ ((hasB (os.take i)++[(⟨o,-1,0⟩:Bs)]).length);rw[HL7.out] at hv7;subst hv7
 have hS2:S5 gw H1 (.slice ah hl ch) RO v2:=by
  refine⟨by rw[cell_of_row _ _ 2 _ _ _ hbx9];rfl,?_⟩;have hG1:H1<v1.heap.size:=Wqj (lt_of_some HRG.out) hb1.size;have e1:v1.heap[H1]? = some (.cells RO.toArray 27 (0,0)):=(hb1.block _ (lt_of_some HRG.out)).trans HRG.out;exact zx ((hg2.block _ hG1 (fun h=>HLH.out H1 h.symm rfl)).trans e1)
 refine Dl.readyU1 (i:=7) (by kernel_rfl) ?_;refine Dl.consU rfl (fun KK hKK=>?_);refine Dl.step_exec (by rfl) (.slice (some ⟨gs,0,none⟩) 1 1) (w':=v1) (xw 56 1 (.tmp 27) (by rfl) _ _ (by rfl) hr56) ?_;refine hKK.out _ _ (.inr hS1) ?_;clear hKK KK;try simp only[Act.put,sL]
 refine Dl.readyU1 (i:=8) (by kernel_rfl) ?_;refine Dl.consU rfl (fun KK hKK=>?_);refine Dl.step_exec (by rfl) (.slice a7 l7 c7) (w':=v2) (yy (.tmp 25) (.tmp 28) 56 (by rfl) (by rfl) (by rfl) hrun) ?_;refine hKK.out _ _ (.inr hS2) ?_;clear hKK KK;try simp only[Act.put,sL]
 refine G6 9 10 hS2 ?_;try simp only[Act.put,sL]
 refine zK 10 hS2 ?_;try simp only[Act.put,sL]
 refine Dl.readyU1 (i:=11) (by kernel_rfl) ?_;refine Dl.consU rfl (fun KK hKK=>?_);refine step_skip (by rfl) (u_7 56 zvQ (.tmp 31) (.tmp 29) (by rfl) ⟨gw,2,none⟩ (.slice a7 l7 c7) (.slice ah hl ch) (by rfl) (by rfl) rfl rfl hS2.c2 (frozen_of_row _ _ 2 _ 58 hbx9)) ?_;refine hKK.out _ _ (.inl rfl) ?_;clear hKK KK;try simp only[Act.put,sL]
 refine Dl.doneU (by kernel_rfl) ?_ _;have HW9:Hid (Wt w (v2.setCell ⟨gw,2,none⟩ (.slice a7 l7 c7)) G gw K N [] [] (hasB (os.take (i+1))) (.slice a2 12 c2) (.slice none 0 0) (.slice a7 l7 c7)):=hid (by
  rw[zzX os i (by rw[HM.out];exact hlt),HO.out];exact hw3)
 clear hw3 hbx2 hg2 hm2' hbx9 hS2 hS1 hH hrs hrun hr56 hb1;go_wp2_with fail
 go_roundg (m-(i+1));case measure=>omega
 case rel=>exact⟨i+1,_,by go_num,rfl,by omega,HW9.out⟩
def Nr (os hs:List Oj) (i:Nat):Prop:=(∃ y,hs.head? = some y/\One y.zs (os.getD i dO).zs) ∨ (0<i/\One (os.getD 0 dO).zs (os.getD i dO).zs)
structure Eo (os hs:List Oj) (i:Nat) (e:En):Prop where
 ob:e.ob=(os.getD i dO).zs
 sh:Nr os hs i->(enb e).length<=90
 pl:∃ z,Df.Defl (os.getD i dO).zs z/\(enb e).length<=3+z.length
structure Es (os hs:List Oj) (es:List En):Prop where
 all:∀ i,i<es.length->Eo os hs i (es.getD i dE)
theorem zY {α:Type} (l m:List α) (d:α) (i:Nat) (h:i<l.length):(l++m).getD i d=l.getD i d:=by
 rw[List.getD_eq_getElem?_getD,List.getD_eq_getElem?_getD,List.getElem?_append_left h]
theorem qu {α:Type} (l:List α) (x d:α):(l++[x]).getD l.length d=x:=by
 rw[List.getD_eq_getElem?_getD,List.getElem?_append_right (WzV _),Nat.sub_self];rfl
theorem Es.snoc {os hs:List Oj} {es:List En} {e:En} (h:Es os hs es) (he:Eo os hs es.length e):Es os hs (es++[e]):=by
 refine⟨fun i hi=>?_⟩;rw[Wz6,Wx4] at hi;by_cases h1:i<es.length
 ·rw[zY _ _ _ _ h1];exact h.all i h1
 obtain rfl:i=es.length:=by omega
 rw[qu];exact he
theorem Es.off_le {os hs:List Oj} {n:Nat} (hn:n<=20000) (ho:∀ x ∈ os,x.zs.length=n) (hN:∀ i,0<i->i<os.length->Nr os hs i) {es:List En} (h:Es os hs es) (hl:es.length<=os.length):∀ i,i<=es.length->off es i<=12+20014+90*i
 | 0,_=>by rw[VQ];omega
 | i+1,hi=>by
  rw[k9 es i (by omega)];have h1:=Es.off_le hn ho hN h hl i (by omega);have h2:=h.all i (by omega);by_cases h0:i=0
  ·subst h0;obtain⟨z,h3,h4⟩:=h2.pl;have h5:=ho _ (zV os 0 dO (by omega));have h6:=h3.le (by omega);rw[VQ];omega
  have:=h2.sh (hN i (by omega) (by omega));omega
theorem SK {K N:Nat} {hsb:List (List Int)} {es:List En} (hK:1<=K/\K<=4) (h:Oks K hsb es):IsB (pkb N es):=by
 intro x hx;unfold pkb bdy at hx;rcases WqX.1 hx with hx | hx
 ·rcases WqX.1 hx with hx | hx
  ·unfold mark at hx;simp only[WxJ,List.not_mem_nil,or_false] at hx;rcases hx with rfl | rfl | rfl | rfl | rfl | rfl | rfl | rfl <;> decide
  exact qx5 N x hx
 obtain⟨e,he,hx⟩:=List.mem_flatMap.1 hx;obtain⟨i,hi,rfl⟩:=Wvq he;have:=h i hi;rw[List.getD_eq_getElem?_getD,List.getElem?_eq_getElem hi] at this;exact I4 this hK x hx
def SV (w:World) (K:Nat) (os hs:List Oj) (ev:Ending) (w':World):Prop :=
 ∃ es v,ev=.returned (.tuple #[v,.nilIface])/\es.length=os.length/\Es os hs es/\Oks K (hs.map (·.zs)) es/\off es es.length<=12+20014+90*es.length/\Bd w w' w.heap.size v (pkb os.length es++sha (pkb os.length es))
set_option maxHeartbeats 8000000 in
theorem DW (K n:Nat) (hK:1<=K/\K<=4) (hn0:0<n) (hn:n<=20000) (a ah:Option Addr) (cap ch:Nat) (os hs:List Oj) (w:World) (hP:Po K w a cap os) (hH:Po K w ah ch hs) (hG:Gd w.heap.size w n (os++hs)) (hd:∀ i j,i<j->j<os.length->ido K (os.getD i dO) ≠ ido K (os.getD j dO)) (hm:os.length<=61) (hmh:hs.length<=61)
  (hN:∀ i,0<i->i<os.length->Nr os hs i) :
  Calls prog 9 #[.slice a os.length cap,.slice ah hs.length ch] w (SV w K os hs):=by
 obtain⟨m,HM⟩:=nm_ os.length;obtain⟨p,HPp⟩:=nm_ hs.length;obtain⟨G,HG⟩:=nm_ w.heap.size;have hm2:m<=61:=by rw[<-HM.out];exact hm
 have HP:=hid hP;have HH:=hid hH;have HGD:=hid hG;have HKK:=hid hK;have HNR:=hid hN;have HMH:=hid hmh;have C17:Hid (Calls prog 17 #[.slice a m cap] w fun e w'=>e=.returned .nilIface/\Below w.heap.size w w'):=hid (by
  rw[<-HM.out];exact SX K n hK hn a cap os w hP ⟨fun W h x hx=>hG.om W h x (Wvx _ hx),hG.tw,hG.tb⟩ hd (by omega))
 obtain⟨zo,HZO⟩:=nm_ ((#[.int .i64 0,.slice none 0 0] : Array Value):Array Value);have hz27:∀ w:World,(zeroValue 27).run prog w=.ok (.agg zo) w:=fun w=>by rw[<-HZO.out];exact Ux w
 rw[HM.out,HPp.out];clear hP hH hG hd hm hmh hN hK;go_enter func9,ntmps9;go_wp2_with fail
 refine C17.out.mono ?_;rintro ev w1 ⟨rfl,hb1⟩;have HB1:=hid hb1;have C18:Hid (Calls prog 18 #[.int .i64 m,.slice ah p ch] w1 (zvW w1 K m hs)):=hid (by
  rw[<-HPp.out];exact N3 K n m (by omega) ah ch hs w1 (HH.out.below HB1.out) (by have:=HMH.out;omega))
 clear hb1;go_wp2_with (first
  | (go_at_call 18;refine C18.out.mono ?_;clear C18;rintro ev w2 ⟨gw,ov,hv,rfl,hwt⟩;have HWT:=hid hwt;clear hwt)
  | fail)
 obtain⟨B,HB⟩:=nm_ w1.heap.size;rw[HB.out] at HWT;have hGB:G<=B:=by rw[<-HB.out,<-HG.out];exact HB1.out.size
 have HBW:Hid (∀ W,Below B w1 W->Below w.heap.size w W):=hid (fun W h=>HB1.out.trans (h.mono (by rw[HG.out];exact hGB)));have HGX:Hid (Gd B w1 n (os++hs)):=hid ⟨fun W h=>HGD.out.om W (HBW.out W h),fun W h=>HGD.out.tw W (HBW.out W h),fun W h=>HGD.out.tb W (HBW.out W h)⟩
 have HLEN:Hid (∀ x ∈ os,x.zs.length=n):=hid (fun x hx=>(HGD.out.om w (Below.refl _ _) x (Wvx _ hx)).len)
 go_loopg [21] m (fun g iv wr=>∃ (i:Nat) (es:List En) (ws:List Bs) (ov wv:Value),iv=.int .i64 i/\g=m-i/\i<=m/\es.length=i/\Hid (Wt w1 wr B gw K m es ws (hasB hs) ov wv hv)/\Hid (Wp K n (hs.map (·.zs)) es ws (hasB hs))/\Hid (Es os hs es)/\Hid (∀ j,j<i->(ws.getD j dB).x=os.getD j dO));case atStart =>
  refine⟨0,[],[],ov,_,rfl,rfl,by omega,rfl,HWT.out,⟨(fun i h=>by cases h),rfl,(fun i h=>by cases h),(fun h=>by cases h),fun y hy=>?_⟩,⟨(fun i h=>by cases h)⟩,(fun j h=>by omega)⟩;unfold hasB at hy;obtain⟨x,hx,rfl⟩:=Wx9.1 hy;exact⟨Wx9.2 ⟨x,hx,rfl⟩,rfl,rfl⟩
 obtain⟨i,es,ws,ov',wv,rfl,hg,him,hel,HW,HWP,HES,HWX⟩:=hrel;by_cases hlt:i<m;rotate_left
 ·have hltI:¬ (i:Int)<m:=by omega
  obtain rfl:i=m:=by omega
  have hoff:=HES.out.off_le hn HLEN.out HNR.out (by rw[HM.out];omega) i (by omega);have hofl:(pkb i es).length<=250000:=by rw[j0,hel];omega
  obtain⟨ao,co,hov,-⟩:=xW HW.out.out;obtain⟨ll,HLL⟩:=nm_ ((pkb i es).length);rw[HLL.out] at hov;subst hov;have c0:wr.cell? ⟨gw,0,none⟩=some (.slice ao ll co):=by rw[cell_of_row _ _ 0 _ _ _ HW.out.box];rfl
  have C20:Hid (Calls prog 20 #[.slice ao ll co] wr fun e w'=>∃ v',e=.returned v'/\Bd w1 w' B v' (pkb i es++sha (pkb i es))):=hid (Dv w1 wr B _ (pkb i es) (SK HKK.out HWP.out.oks) hofl HW.out.out);have HOF:=hid hoff;clear hoff hofl;go_wp2_with (first
   | (go_at_call 20;refine C20.out.mono ?_;clear C20;rintro ev w9 ⟨v9,rfl,hb9⟩;have HB9:=hid hb9;clear hb9)
   | fail)
  go_ret2;refine⟨es,v9,rfl,by rw[hel,HM.out],HES.out,HWP.out.oks,by rw[hel];exact HOF.out,?_⟩;have hb:=HB9.out;rw[HM.out];have hw1:w.heap.size<=B:=by rw[HG.out];exact hGB
  exact⟨HBW.out _ hb.below,qV hb.own hw1,Wqx hw1 hb.le⟩
 have hltI:(i:Int)<m:=by omega
 have hbw:Below w.heap.size w wr:=HBW.out wr HW.out.out.below;obtain⟨b,off_,ha',hbb,hr⟩:=(HP.out.below hbw).at_ (by rw[HM.out];omega);subst ha';have hcap:m<=cap:=by have:=HP.out.capl;rw[HM.out] at this;exact this
 have hri:=hr i (by rw[HM.out];exact hlt);obtain⟨o,HO⟩:=nm_ (os.getD i dO);rw[HO.out] at hri;have hom:o ∈ os:=by rw[<-HO.out];exact zV os i dO (by rw[HM.out];exact hlt)
 have HOM:=hid hom;obtain⟨RO,HRO⟩:=nm_ (yQ K o);rw[HRO.out] at hri;have hi27:(prog.info? 27).map (·.size)=some RO.length:=by rw[<-HRO.out];exact vK
 have J27:Hid ((prog.info? 27).map (·.size)=some RO.toArray.size):=hid (by rw[WqW];exact hi27);have E27:Hid (zo.size=RO.toArray.size):=hid (by rw[<-HZO.out,<-HRO.out];rfl);have O27:Hid (RO.toArray.all (·.oneCell')=true):=hid (by rw[<-HRO.out];exact all_oneCell_toArray (jz K o));obtain⟨H1,wa,HNA⟩:=nw 27 zo wr RO
 have hba:Below wr.heap.size wr wa:=by rw[HNA.out.h];exact HNA.out.below
 have HWA:=hid (HW.out.go hba);have ra:wa.rangeAt H1 0 RO:=HNA.out.at
 have HRR:=hid hri;have hoff:=HES.out.off_le hn HLEN.out HNR.out (by rw[HM.out];omega) i (by omega);have C19:Hid (Calls prog 19 #[.pointer (some ⟨gw,0,none⟩),.agg RO.toArray] wa (Ik w1 B gw K n m (hs.map (·.zs)) es ws (hasB hs) hv o)):=hid (by
  rw[<-HRO.out];refine qzk K n m B gw HKK.out hn0 hn (hs.map (·.zs)) es ws (hasB hs) ov' wv hv o (os++hs) w1 wa (by rw[HB.out];exact WzV _) HWA.out HWP.out HGX.out (Wvx _ HOM.out) (fun y hy=>?_) (fun y hy=>?_) (by rw[hel];omega) (by omega) (by unfold hasB;rw[Wxx];have:=HMH.out;omega)
  ·obtain⟨j,hj,rfl⟩:=Wvq hy;have e:=HWX.out j (by rw[<-hel,<-HWP.out.len];exact hj);rw[List.getD_eq_getElem?_getD,List.getElem?_eq_getElem hj] at e;have e':ws[j].x=os.getD j dO:=e;rw[e'];refine Wvx _ (zV os j dO ?_);have:=HWP.out.len;have:=HM.out;omega
  unfold hasB at hy;obtain⟨x,hx,rfl⟩:=Wx9.1 hy;exact Wvj _ hx)
 clear hr hri hbb hba hbw hom;go_wp2_with (first
  | refine wpList_load_mid rfl 27 _ rfl b (off_+i*2) rfl RO _ HRR.out underlying27 rfl hi27 ?_
  | (refine wpList_store_row rfl 27 _ _ rfl wr.heap.size RO.toArray rfl rfl 27 zo HNA.out.d J27.out E27.out O27.out ?_;rw[HNA.out.w,HNA.out.h])
  | refine wpList_load_mid rfl 27 _ rfl H1 0 rfl RO _ ra underlying27 rfl hi27 ?_
  | fail)
 refine C19.out.mono ?_;rintro ev wb ⟨rfl,e,dp,ov2,wv2,hw2,hcd,hsh⟩;have HW2:=hid hw2;have HCD:=hid hcd;have HSH:=hid hsh;have HEO:Hid (Eo os hs es.length e):=hid (by
  have h1:=HCD.out;refine⟨by rw[h1.ob,hel,HO.out],fun h=>?_,by rw[hel,HO.out];exact h1.pl⟩;rw[hel] at h;rcases h with ⟨y,hy,ho⟩ | ⟨h0,ho⟩
  ·refine HSH.out.s1 (by omega) ⟨y,-1,0⟩ ?_ (by rw[HO.out] at ho;exact ho);unfold hasB;rw[List.head?_map,hy];rfl
  refine HSH.out.s2 (by omega) (by omega) ?_;rw[(HES.out.all 0 (by omega)).ob];rw[HO.out] at ho;exact ho)
 have HWP2:Hid (Wp K n (hs.map (·.zs)) (es++[e]) (ws++[⟨o,off es es.length,dp⟩]) (hasB hs)):=hid (by
  have h:=HWP.out;have hl:=h.len;refine⟨h.oks.snoc HCD.out.ok,by simp[hl],fun j hj=>?_,fun _=>?_,h.hx⟩
  ·rw[Wz6,Wx4] at hj;by_cases h1:j<es.length
   ·rw[zY _ _ _ _ (by omega),zY _ _ _ _ h1,Hv _ _ _ (by omega)];exact h.wx j h1
   obtain rfl:j=es.length:=(by omega);rw[qu,<-hl,qu,hl,Hv _ _ _ (WzV _)];exact⟨HCD.out.ob.symm,rfl,HCD.out.dle⟩
  by_cases h1:0<es.length
  ·rw[zY _ _ _ _ (by omega)];exact h.w0 h1
  have h2:ws=[]:=List.length_eq_zero_iff.1 (by omega);rw[h2];exact HCD.out.d1 (by omega))
 have HWX2:Hid (∀ j,j<i+1->((ws++[(⟨o,off es es.length,dp⟩:Bs)]).getD j dB).x=os.getD j dO):=hid (fun j hj=>by
  have hl:=HWP.out.len;by_cases h1:j<i
  ·rw[zY _ _ _ _ (by omega)];exact HWX.out j h1
  obtain rfl:j=ws.length:=by omega
  rw[qu];show o=_;rw[<-HO.out];congr 1;omega)
 clear hw2 hcd hsh;go_wp2_with fail
 go_roundg (m-(i+1));case measure=>omega
 case rel=>exact⟨i+1,es++[e],_,ov2,wv2,by go_num,rfl,by omega,by rw[Wz6,hel];rfl,HW2.out,HWP2.out,HES.out.snoc HEO.out,HWX2.out⟩
theorem qzw (K:Nat) (w:World):Po K w none 0 []:=⟨by simp,fun h=>by simp at h,fun _=>rfl⟩
theorem E9 (K n:Nat) (hK:1<=K/\K<=4) (hn0:0<n) (hn:n<=20000) (a:Option Addr) (cap:Nat) (os:List Oj) (w:World) (hP:Po K w a cap os) (hG:Gd w.heap.size w n os) (hd:∀ i j,i<j->j<os.length->ido K (os.getD i dO) ≠ ido K (os.getD j dO)) (hm:os.length<=61)
  (hN:∀ i,0<i->i<os.length->Nr os [] i) :
  Calls prog 8 #[.slice a os.length cap] w (SV w K os []):=by
 have C9:Hid (Calls prog 9 #[.slice a os.length cap,.slice none 0 0] w (SV w K os [])):=hid (DW K n hK hn0 hn a none cap 0 os [] w hP (qzw K w) (by rw[List.append_nil];exact hG) hd hm (by simp) hN);obtain⟨m,HM⟩:=nm_ os.length;rw[HM.out] at C9 ⊢;clear hP hG hd hN;go_enter func8,ntmps8;go_wp2_with fail
 refine C9.out.mono ?_;rintro ev w1 ⟨es,v,rfl,h1,h2,h3,h4,h5⟩;have HR:Hid (∃ es v',Ending.returned (.tuple #[v,.nilIface])=.returned (.tuple #[v',.nilIface])/\es.length=os.length/\Es os [] es/\Oks K (([] : List Oj).map (·.zs)) es/\off es es.length<=12+20014+90*es.length/\Bd w w1 w.heap.size v' (pkb os.length es++sha (pkb os.length es))):=hid ⟨es,v,rfl,h1,h2,h3,h4,h5⟩
 clear h1 h2 h3 h4 h5 C9;go_wp2_with fail
 go_ret2;exact HR.out
theorem zzJ (b1 o1 b2 o2 n c1 c2:Nat) (xs:List Int) (w:World) (hn:xs.length=n) (h1:At w b1 o1 xs) (h2:At w b2 o2 xs) :
  Calls prog 94 #[.slice (some ⟨b1,o1,none⟩) n c1,.slice (some ⟨b2,o2,none⟩) n c2] w fun e w'=>e=.returned (.bool true)/\w'=w:=by
 have e1:=run_convert_bytes_arg (P:=prog) w 22 5 underlying22 underlying5 b1 o1 n c1 xs hn (fun i hi=>h1 i (by omega)) 9 underlying9;have e2:=run_convert_bytes_arg (P:=prog) w 22 5 underlying22 underlying5 b2 o2 n c2 xs hn (fun i hi=>h2 i (by omega)) 9 underlying9;obtain⟨s,HS⟩:=nm_ (strOfNums xs);rw[HS.out] at e1 e2;clear h1 h2 hn
 go_enter func94,ntmps94;go_wp2;go_ret;exact⟨by simp,rfl⟩
theorem Ez (b1 o1 b2 o2 m n c1 c2:Nat) (xs:List Int) (w:World) (hn:xs.length=n) (hnm:n<=m) (hmc:m<=c1) (h1:At w b1 o1 xs) (h2:At w b2 o2 xs) :
  Calls prog 67 #[.slice (some ⟨b1,o1,none⟩) m c1,.slice (some ⟨b2,o2,none⟩) n c2] w fun e w'=>e=.returned (.bool true)/\w'=w:=by
 have C:Hid (∀ c1,Calls prog 94 #[.slice (some ⟨b1,o1,none⟩) n c1,.slice (some ⟨b2,o2,none⟩) n c2] w fun e w'=>e=.returned (.bool true)/\w'=w):=hid (fun c1=>zzJ b1 o1 b2 o2 n c1 c2 xs w hn h1 h2);have hge:(n:Int)<=m:=by omega
 clear h1 h2 hn;go_enter func67,ntmps67;go_wp2_with (first
  | (go_at_call 94;refine(C.out _).mono ?_;clear C;rintro ev w1 ⟨rfl,rfl⟩)
  | fail)
 go_ret;exact⟨by simp,rfl⟩
theorem ne68 (x y:List Int) (hx:x.length=20) (hy:y.length=20) (w:World):(binOp .neq 68 (idV x) (idV y)).run prog w=.ok (.bool (!decide (x=y))) w:=by
 have h:=eq42 x y hx hy w;simp only[binOp];simp[Op.equal,Op.maxDepth,h]
theorem YK {P:Program} {o:Oper} {a:Act} {w w':World} (b:BinOp) (t ty:TypeId) (x y:Operand) (ho:o.op=.binOp b t x y ty) (u v r:Value) (hx:a.eval x=u) (hy:a.eval y=v) (hg:(eqGuard b t x y u v).run P w=.ok () w) (hr:(binOp b t u v).run P w=.ok r w'):(execOp a.eval o).run P w=.ok (.value r) w':=by
 unfold execOp;simp[ho,hx,hy,hg,hr,Result.andThen]
theorem RX (x:Value) (w:World):(callFunc 40 #[x]).run prog w=.ok (.enter 40 #[x]) w:=by kernel_rfl
theorem qzy (x:Value) (w:World):(callFunc 69 #[x]).run prog w=.ok (.enter 69 #[x]) w:=by kernel_rfl
theorem qxx (N:Nat) (hN:N<4294967296) (X Y:List Int):rd4 (mark++n4 N++X++Y) 8=N:=by
 have h:=zv2 N hN;show D7 ((N / 16777216 % 256:Nat):Int) ((N / 65536 % 256:Nat):Int) ((N / 256 % 256:Nat):Int) ((N % 256:Nat):Int)=N;unfold D7;omega
theorem qxj {w:World} {b o:Nat} {l:List Int} (h:At w b o l) (k:Nat):At w b (o+k) (l.drop k):=fun i hi=>by
 rw[Wz8] at hi;have:=h (k+i) (by omega);rw[List.getD_eq_getElem?_getD,List.getElem?_drop,<-List.getD_eq_getElem?_getD,Nat.add_assoc];exact this
theorem Eq {w:World} {b o:Nat} {l m:List Int} (h:At w b o (l++m)):At w b o l:=fun i hi=>by
 have:=h i (by rw[Wz6];omega);rw[List.getD_eq_getElem?_getD,List.getElem?_append_left hi,<-List.getD_eq_getElem?_getD] at this;exact this
theorem qzu:prog.eqGuardType prog.depth 68=false:=by kernel_rfl
theorem qzZ (l:List Int):IsB (sha l):=by
 intro n hn;unfold sha xV at hn;obtain⟨i,_,rfl⟩:=Wx9.1 hn;split
 ·exact⟨Int.emod_nonneg _ (by decide),Int.emod_lt_of_pos _ (by decide)⟩
 exact⟨by decide,by decide⟩
theorem DY {K:Nat} {hs:List (List Int)} {es:List En} (N:Nat) (hN:N<=5000) (hK:1<=K/\K<=4) (hO:Oks K hs es) (b ao cap L:Nat) (bs:List Int) (hbs:bs=pkb N es++sha (pkb N es)) (hL:bs.length=L) (hl:L<=300000) (hc:L<=cap) (w:World) (hb:b<w.heap.size) (hat:At w b ao bs) :
  Calls prog 41 #[.slice (some ⟨b,ao,none⟩) L cap] w fun e w'=>e=.returned (.tuple #[.slice (some ⟨b,ao,none⟩) (pkb N es).length cap,.int .i64 N,.nilIface])/\Below w.heap.size w w':=by
 have hz:IsB (pkb N es):=SK hK hO;obtain⟨M,HM⟩:=nm_ ((pkb N es).length);have hLM:L=M+20:=by rw[<-hL,hbs,Wz6,kV,HM.out]
 have hM12:12<=M:=by rw[<-HM.out,j0];unfold off;omega
 obtain⟨G,HG⟩:=nm_ w.heap.size;have hzb:IsB bs:=fun x hx=>by rw[hbs] at hx;exact(WqX.1 hx).elim (hz x) (qzZ _ x)
 have HAT:=hid hat
 obtain⟨w1,HW1⟩:=nm_ (w.alloc (.cells #[.int .u8 80,.int .u8 65,.int .u8 67,.int .u8 75,.int .u8 0,.int .u8 0,.int .u8 0,.int .u8 2] 5 (8,9)));have hcv:=fun (w:World) (C:Array Value) (n c:Nat)=>Lib.run_convert_bytes_const (P:=prog) w 22 5 C n c underlying22 underlying5
 have HB1:Hid (Hr w w1 G (.slice (some ⟨G,0,none⟩) 8 8) mark):=hid (by rw[<-HW1.out,<-HG.out];exact Iv w);have hmk:At w1 G 0 mark:=by
  obtain⟨g,e1,_,e3⟩:=HB1.out.row_;cases e1
  exact e3
 have hb1:Below G w w1:=HB1.out.below;have hat1:At w1 b ao bs:=fun i hi=>(hb1.cell (p:=⟨b,ao+i,none⟩) (by rw[<-HG.out];exact hb)).trans (hat i hi);have C67:Hid (Calls prog 67 #[.slice (some ⟨b,ao,none⟩) L cap,.slice (some ⟨G,0,none⟩) 8 8] w1 fun e w'=>e=.returned (.bool true)/\w'=w1):=hid (by
  refine Ez b ao G 0 L 8 cap 8 mark w1 rfl (by omega) hc (Eq (m:=n4 N++bdy es++sha (pkb N es)) ?_) hmk;have e:bs=mark++(n4 N++bdy es++sha (pkb N es)):=by rw[hbs];unfold pkb;simp only[Wz1]
  rw[<-e];exact hat1)
 have C68:Hid (∀ W,Sb w W->Calls prog 68 #[.slice (some ⟨b,ao+8,none⟩) (L-8) (cap-8)] W fun e w'=>e=.returned (.int .u32 N)/\∃ n,w'=W.drewN n):=hid (fun W hW=>by
  have h:=Hj b ao 8 (L-8) (cap-8) bs W hzb (by omega) (by rw[hL]) (fun i hi=>(hW.b.cell (p:=⟨b,ao+i,none⟩) hb).trans (hat i hi));rw[show rd4 bs 8=N by rw[hbs];unfold pkb;exact qxx N (by omega) _ _] at h;exact h)
 obtain⟨S,HS⟩:=nm_ (sha (pkb N es));have hSl:S.length=20:=by rw[<-HS.out];exact kV _
 have C40:Hid (∀ W,Sb w W->Calls prog 40 #[.slice (some ⟨b,ao,none⟩) M cap] W fun e w'=>e=.returned (idV S)/\Below W.heap.size W w'):=hid (fun W hW=>by
  have h:=sum6 (some ⟨b,ao,none⟩) cap (pkb N es) W (by rw[HM.out];omega) hz (fun h0=>⟨b,ao,rfl,Wqj hb hW.b.size,fun i hi=>(hW.b.cell (p:=⟨b,ao+i,none⟩) hb).trans (Eq (by rw[<-hbs];exact hat) i hi),by rw[HM.out];omega⟩);rw[HM.out,HS.out] at h;exact h)
 have C69:Hid (∀ W,Sb w W->Calls prog 69 #[.slice (some ⟨b,ao+M,none⟩) (L-M) (cap-M)] W fun e w'=>e=.returned (idV S)/\Below W.heap.size W w'):=hid (fun W hW=>by
  have h:=Av b ao M (L-M) (cap-M) bs W hzb (by omega) (by rw[hL]) (Wqj hb hW.b.size) (fun i hi=>(hW.b.cell (p:=⟨b,ao+i,none⟩) hb).trans (hat i hi));rw[show Dw bs M=S by
   unfold Dw;rw[hbs,<-HM.out,List.drop_left,HS.out,Wzu (by omega)]] at h
  exact h)
 have HNE:Hid (∀ w:World,(binOp .neq 68 (idV S) (idV S)).run prog w=.ok (.bool false) w):=hid (fun w=>by rw[ne68 S S hSl hSl w];simp);have HGT:Hid (∀ w:World,(binOp .gtr 50 (.int .u32 N) (.int .u32 5000)).run prog w=.ok (.bool false) w):=hid (fun w=>by
  have hq:¬ (5000:Int)<N:=by omega
  go_simp)
 have HLM:=hid hLM;have hL32:¬ (L:Int)<32:=by omega
 have hLa:32<=L:=by omega
 have hLb:(L:Int)-20=M:=by omega
 have hLc:M<=L:=by omega
 have hN5:¬ (5000:Int)<N:=by omega
 have hcM:M<=cap:=by omega
 have hcN:¬ cap=M:=by omega
 have hS1:Sb w w1:=⟨by rw[HG.out];exact hb1⟩;have HS1:=hid hS1;rw[HM.out];clear hat hat1 hbs hO hz hzb hmk hb1 hS1 hL hLM;go_enter func41,ntmps41;go_wp2_with (first
  | (go_at_call 67;rw[HW1.out,HG.out];refine C67.out.mono ?_;clear C67;rintro ev w2 ⟨rfl,rfl⟩)
  | (go_at_call 68;refine(C68.out _ HS1.out).mono ?_;clear C68;rintro ev w3 ⟨rfl,nd,rfl⟩)
  | fail)
 clear hcv;refine wp_region_held_drew (S:=Sb w) (by kernel_rfl) (((HS1.out).go (zk (Below.refl _ _) nd)).go (zk (Below.refl _ _) 1)) (fun hHeld=>?_);generalize (w2.drewN nd).drew=u0 at hHeld ⊢;refine qk hHeld ?_;try simp only[Act.put,sL]
 refine Dl.takeL (i:=1) (v:=.bool false) rfl (by kernel_rfl) (by kernel_rfl) (by kernel_rfl) (fun _ _ _ h=>h) (Or.inl ⟨by rfl,fun w' _=>YK .gtr 50 50 (.tmp 25) (.const (.int .u32 5000)) rfl (.int .u32 N) (.int .u32 5000) (.bool false) rfl rfl rfl (HGT.out w')⟩) hHeld ?_;try simp only[Act.put,sL]
 iterate 2 (refine qk hHeld ?_;try simp only[Act.put,sL])
 refine kw 5 hHeld ?_;try simp only[Act.put,sL]
 refine kw 6 hHeld ?_;try simp only[Act.put,sL]
 refine kw 7 hHeld ?_;try simp only[Act.put,sL]
 refine kw (v:=.slice (some ⟨b,ao+M,none⟩) (L-M) (cap-M)) 8 hHeld ?_;try simp only[Act.put,sL]
 refine wpAnyH_ready (rs:=[4]) (by kernel_rfl) (by simp) ?_;refine Dl.consL rfl (fun KK hKK=>?_) AllReadyH.nil;refine yz (by rfl) 40 [.tmp 28] _ [.slice (some ⟨b,ao,none⟩) M cap] _ rfl rfl (RX _) (C40.out _ hHeld) ?_;rintro e wh1 ⟨rfl,hbh1⟩;refine⟨_,rfl,?_⟩;have h1:=hHeld.go hbh1;refine hKK.out _ _ h1 (fun _=>?_);clear hKK KK hbh1;try simp only[Act.put,sL]
 refine wpAnyH_ready (rs:=[9]) (by kernel_rfl) (by simp) ?_;refine Dl.consL rfl (fun KK hKK=>?_) AllReadyH.nil;refine yz (by rfl) 69 [.tmp 33] _ [.slice (some ⟨b,ao+M,none⟩) (L-M) (cap-M)] _ rfl rfl (qzy _) (C69.out _ h1) ?_;rintro e wh2 ⟨rfl,hbh2⟩;refine⟨_,rfl,?_⟩;have h2:=h1.go hbh2;refine hKK.out _ _ h2 (fun _=>?_);clear hKK KK hbh2;try simp only[Act.put,sL]
 refine Dl.takeL (i:=10) (v:=.bool false) rfl (by kernel_rfl) (by kernel_rfl) (by kernel_rfl) (fun _ _ _ h=>h) (Or.inl ⟨by rfl,fun w' _=>YK .neq 68 68 (.tmp 29) (.tmp 34) rfl (idV S) (idV S) (.bool false) rfl rfl (run_eqGuard_agg _ _ _ _ _ _ _ qzu) (HNE.out w')⟩) h2 ?_;try simp only[Act.put,sL]
 refine qk h2 ?_;try simp only[Act.put,sL]
 refine wpAnyH_done (by kernel_rfl) ?_ _;have HH2:=hid h2;clear h1 h2 hHeld C40 C69;go_wp2_with fail
 go_ret3;exact⟨rfl,HH2.out.b⟩
structure Et where
 e:En
 bg:Nat
 nd:Nat
 dv:Value
 ba:Nat
 kn:Bool
 ok:Nat
 ov:Value
 id:List Int
abbrev dT:Et:=⟨dE,0,0,undef,0,false,0,undef,[]⟩
def qW (t:Et):List Value:=.int .i64 t.e.kd :: .int .i64 t.e.raw.length :: .int .i64 t.e.d :: (row .u8 t.e.id++(.int .i64 t.bg :: .int .i64 t.nd :: t.dv :: .int .i64 t.ba :: .bool t.kn :: .int .i64 t.ok :: t.ov :: row .u8 t.id))
structure Wf (t:Et):Prop where
 i1:t.e.id.length=20
 i2:t.id.length=20
 dv:∃ a n c,t.dv=.slice a n c
 ov:∃ a n c,t.ov=.slice a n c
theorem Wf.len {t:Et} (h:Wf t):(qW t).length=50:=by
 simp[qW,zu,h.i1,h.i2]
theorem Wf.one {t:Et} (h:Wf t):∀ v ∈ qW t,v.oneCell'=true:=by
 obtain⟨a,n,c,e1⟩:=h.dv;obtain⟨a',n',c',e2⟩:=h.ov;intro v hv;unfold qW at hv;simp only[WxJ,WqX,e1,e2] at hv;rcases hv with rfl | rfl | rfl | hv | rfl | rfl | rfl | rfl | rfl | rfl | rfl | hv;all_goals first | rfl | exact row_one _ _ v hv
def zT:Et:=⟨⟨0,0,z20,[],[],[]⟩,0,0,.slice none 0 0,0,false,0,.slice none 0 0,z20⟩
theorem Ex (w:World):(zeroValue 72).run prog w=.ok (.agg (qW zT).toArray) w:=by kernel_rfl
theorem SW:(prog.info? 72).map (·.size)=some 50:=by kernel_rfl
theorem qzQ (k n d bg nd:Nat) (x:List Int) (h:x.length=20) (a:Option Addr) (m c:Nat):prog.built 72 [(0,.agg (hdV k n d x).toArray),(1,.int .i64 bg),(2,.int .i64 nd),(3,.slice a m c)]=some (.int .i64 k :: .int .i64 n :: .int .i64 d :: (row .u8 x++(.int .i64 bg :: .int .i64 nd :: .slice a m c :: .int .i64 0 :: .bool false :: .int .i64 0 :: .slice none 0 0 :: row .u8 z20))).toArray:=by
 obtain⟨a0,a1,a2,a3,a4,a5,a6,a7,a8,a9,a10,a11,a12,a13,a14,a15,a16,a17,a18,a19,rfl⟩:=Z6 x h;kernel_rfl
theorem results70:f70.results=#[.cell 4 72,.tmp 5]:=by kernel_rfl
theorem Q9 {P:Program} {fn:Func} {p q:Tmp} {ty:TypeId} (h:fn.results=#[.cell p ty,.tmp q]) (tmps:Array Value) (w:World) (g:Nat) (cs:List Value) (d:TypeDesc) (v:Value)
  (hp:tmps.getD p undef=.pointer (some ⟨g,0,none⟩)) (hq:tmps.getD q undef=v) (hc:w.rangeAt g 0 cs) (hu:P.underlying ty=some d) (hd:d.isRow=true) (hi:(P.info? ty).map (·.size)=some cs.length) :
  (results fn tmps).run P w=.ok (.tuple #[.agg cs.toArray,v]) w:=by
 have hp':tmps[p]?.getD undef=.pointer (some ⟨g,0,none⟩):=by simpa using hp
 have hq':tmps[q]?.getD undef=v:=by simpa using hq
 simp[results,h,hp',hq',asAddr,run_loadVar_mid w g 0 ty cs d hc hu hd hi]
def QQ (e:En) (at_:Nat) (v:Value):Et:=⟨e,at_,at_+(enb e).length,v,0,false,0,.slice none 0 0,z20⟩
def Ej (w:World) (e:En) (at_:Nat) (ev:Ending) (w':World):Prop :=
 ∃ v,ev=.returned (.tuple #[.agg (qW (QQ e at_ v)).toArray,.nilIface])/\Bd w w' w.heap.size v e.raw
theorem Oks.dlt {K:Nat} {hs:List (List Int)} {es:List En} (hO:Oks K hs es) (hl:off es es.length<=300000) (i:Nat) (hi:i<es.length):(es.getD i dE).d<2113664:=by
 have h:=hO i hi;have h2:=off_le es i (by omega);rcases h.how with ⟨_,_,a,_⟩ | ⟨_,_,a,_⟩ | ⟨_,a,_⟩ <;> omega
theorem N4 {K:Nat} {hs:List (List Int)} {es:List En} (N:Nat) (hK:1<=K/\K<=4) (hO:Oks K hs es) (hl:off es es.length<=300000) (i:Nat) (hi:i<es.length) (b ao cap:Nat) (w:World) (hc:(pkb N es).length<=cap) (hb:b<w.heap.size) (hat:Id.At w b ao (pkb N es)) (ht:Df.TabsW w) :
  Calls prog 70 #[.slice (some ⟨b,ao,none⟩) (pkb N es).length cap,.int .i64 (off es i)] w (Ej w (es.getD i dE) (off es i)):=by
 obtain⟨e,HE⟩:=nm_ (es.getD i dE);have h:Ok K hs es i e:=by rw[<-HE.out];exact hO i hi
 have hd:e.d<2113664:=by rw[<-HE.out];exact hO.dlt hl i hi
 obtain⟨at_,HA⟩:=nm_ (off es i);obtain⟨L,HL⟩:=nm_ ((pkb N es).length);have hstep:=k9 es i hi;have hle2:=off_le es (i+1) hi;have hLo:L<=300000:=by rw[<-HL.out,j0];exact hl
 obtain⟨U,HU⟩:=nm_ ((enb e).length);have haL:at_+U<=L:=by rw[<-HA.out,<-HL.out,j0,<-HU.out,<-HE.out];omega
 have hU0:0<U:=by rw[<-HU.out];unfold enb;rw[Wz6];have:=h.z.pos;omega
 obtain⟨G,HG⟩:=nm_ w.heap.size;obtain⟨Z,HZ⟩:=nm_ ((qW zT).toArray);have hz72:∀ w:World,(zeroValue 72).run prog w=.ok (.agg Z) w:=fun w=>by rw[<-HZ.out];exact Ex w
 obtain⟨Y,HY⟩:=nm_ ((hdV 0 0 0 z20).toArray);have hz70:∀ w:World,(zeroValue 70).run prog w=.ok (.agg Y) w:=fun w=>by rw[<-HY.out];exact LX w
 obtain⟨R,HR⟩:=nm_ (hdV e.kd e.raw.length e.d e.id);obtain⟨w1,HW1⟩:=nm_ (w.alloc (.cells Z 72));have hb1:Below w.heap.size w w1:=by rw[<-HW1.out];exact(Below.refl _ w).alloc (WzV _) _
 have HRZ:Hid (w1.heap[G]? = some (.cells Z 72 (0,0))):=hid (by rw[<-HW1.out,<-HG.out];exact heap_alloc_new _ _);have HD:Hid (Id.At w1 b (ao+at_) (enb e++bdy (es.drop (i+1)))):=hid (by
  have h2:=qxj hat at_;rw[<-HA.out,Aw N es i hi,HE.out,HA.out] at h2;exact fun j hj=>(hb1.cell (p:=⟨b,ao+at_+j,none⟩) hb).trans (h2 j hj))
 have HDL:Hid ((enb e++bdy (es.drop (i+1))).length=L-at_):=hid (by
  rw[<-HE.out,<-Aw N es i hi,Wz8,HA.out,HL.out])
 have hmore:IsB (bdy (es.drop (i+1))):=fun x hx=>by
  have hx2:x ∈ (pkb N es).drop (off es i):=by rw[Aw N es i hi];exact Wvj _ hx
  exact SK hK hO x (List.mem_of_mem_drop hx2)
 have C95:Hid (Calls prog 95 #[.slice (some ⟨b,ao+at_,none⟩) (L-at_) (cap-at_)] w1 (AZ w1 e)):=hid (by
  have:=AQ e h hK hd (bdy (es.drop (i+1))) _ rfl hmore b (ao+at_) (cap-at_) w1 (by rw[HDL.out];omega) HD.out (Wqj hb hb1.size) (by rw[HDL.out];rw[HL.out] at hc;omega) (ht.below hb1);rw[HDL.out] at this;exact this)
 have HB1:=hid hb1;have HID:=hid h.idl;have HND:Hid ((at_:Int)+U=((at_+U:Nat):Int)):=hid (by omega);have HPO:Hid (∀ v w',Bd w w' w.heap.size v e.raw->Ej w e at_ (.returned (.tuple #[.agg (qW (QQ e at_ v)).toArray,.nilIface])) w'):=hid (fun v w' hB=>⟨v,rfl,hB⟩);have hrl:e.raw.length<=30000:=h.len;rw[HL.out] at hc;rw[HL.out,HA.out,HE.out];have hcl:at_<=L:=by omega
 have hcn:¬ cap=at_:=by omega
 have hRl:R.length=23:=by rw[<-HR.out,xy,HID.out]
 have hi70:(prog.info? 70).map (·.size)=some R.length:=by rw[hRl];exact Z3
 have J70:Hid ((prog.info? 70).map (·.size)=some R.toArray.size):=hid (by rw[WqW];exact hi70);have E70:Hid (Y.size=R.toArray.size):=hid (by rw[<-HY.out];show 23=R.toArray.size;rw[WqW,hRl])
 have O70:Hid (R.toArray.all (·.oneCell')=true):=hid (by rw[<-HR.out];exact all_oneCell_toArray (fun v hv=>by unfold hdV at hv;simp only[WxJ] at hv;rcases hv with rfl | rfl | rfl | hv;rfl;rfl;rfl;exact row_one _ _ v hv))
 have HBU:Hid (∀ (n:Nat) (a:Option Addr) (m c:Nat),prog.built 72 [(0,.agg R.toArray),(1,.int .i64 at_),(2,.int .i64 n),(3,.slice a m c)]=some (.int .i64 e.kd :: .int .i64 e.raw.length :: .int .i64 e.d :: (row .u8 e.id++(.int .i64 at_ :: .int .i64 n :: .slice a m c :: .int .i64 0 :: .bool false :: .int .i64 0 :: .slice none 0 0 :: row .u8 z20))).toArray):=hid (fun n a m c=>by rw[<-HR.out];exact qzQ _ _ _ _ _ _ HID.out a m c)
 have HWF:Hid (∀ a m c,Wf (QQ e at_ (.slice a m c))):=hid (fun a m c=>⟨HID.out,rfl,⟨a,m,c,rfl⟩,⟨none,0,0,rfl⟩⟩);clear h hd hat hb ht hmore hstep hle2 hl hO hi hb1;go_enter func70,ntmps70;go_wp2_with fail
 rw[HW1.out,HG.out];refine C95.out.mono ?_;clear C95;rintro ev w2 ⟨v,rfl,hbd⟩;rw[HR.out,HU.out];obtain⟨a,c,rfl,-⟩:=xW hbd;have HBD:=hid hbd;obtain⟨H1,wa,HNA⟩:=nw 70 Y w2 R;have hba:Below w2.heap.size w2 wa:=by rw[HNA.out.h];exact HNA.out.below
 have HBA:Hid (Bd w1 wa w1.heap.size (.slice a e.raw.length c) e.raw):=hid (hbd.carry hba);have HRA:Hid (wa.heap[G]? = some (.cells Z 72 (0,0))):=hid ((hba.block _ (Wqj (lt_of_some HRZ.out) hbd.below.size)).trans ((hbd.below.block _ (lt_of_some HRZ.out)).trans HRZ.out));have ra:wa.rangeAt H1 0 R:=HNA.out.at
 obtain⟨T,HT⟩:=nm_ (qW (QQ e at_ (.slice a e.raw.length c)));have hTl:T.length=50:=by rw[<-HT.out];exact(HWF.out _ _ _).len
 have hi72:(prog.info? 72).map (·.size)=some T.length:=by rw[hTl];exact SW
 have J72:Hid ((prog.info? 72).map (·.size)=some T.toArray.size):=hid (by rw[WqW];exact hi72);have E72:Hid (Z.size=T.toArray.size):=hid (by rw[<-HZ.out];show 50=T.toArray.size;rw[WqW,hTl]);have O72:Hid (T.toArray.all (·.oneCell')=true):=hid (by rw[<-HT.out];exact all_oneCell_toArray (HWF.out _ _ _).one);obtain⟨n,HN⟩:=nm_ e.raw.length
 have HBT:Hid (prog.built 72 [(0,.agg R.toArray),(1,.int .i64 at_),(2,.int .i64 ((at_:Int)+U)),(3,.slice a n c)]=some T.toArray):=hid (by rw[HND.out,HBU.out,<-HT.out,<-HN.out];unfold qW QQ;rw[HU.out];rfl);obtain⟨wb,HWB⟩:=nm_ (wa.setRow G T.toArray);have HRB:Hid (wb.heap[G]? = some (.cells T.toArray 72 (0,0))):=hid (by rw[<-HWB.out];exact setRow_heap _ _ _ _ _ _ HRA.out)
 have HBB:Hid (Bd w wb w.heap.size (.slice a e.raw.length c) e.raw):=hid (by
  have h1:Below w.heap.size w wa:=HB1.out.trans (HBA.out.below.mono HB1.out.size);have h2:=below_setRow h1 (by rw[HG.out];exact WzV _:w.heap.size<=G) T.toArray;rw[HWB.out] at h2;refine⟨h2,qV (HBA.out.own.kept (w':=wb) (row:=some G) ?_ (.inr fun e=>?_)) HB1.out.size,h2.size⟩
  ·rw[<-HWB.out];exact⟨rfl,rfl,rfl,by simp[World.setRow],fun k hk hne=>setRow_other _ _ _ _ (fun e=>hne (by rw[e]))⟩
  have:=(zJ HBA.out.own G e).1;have:=lt_of_some HRZ.out;omega)
 clear hba hbd;rw[HN.out];go_wp2_with (first
  | (refine wpList_store_row rfl 70 _ _ rfl w2.heap.size R.toArray rfl rfl 70 Y HNA.out.d J70.out E70.out O70.out ?_;rw[HNA.out.w,HNA.out.h])
  | refine wpList_load_mid rfl 70 _ rfl H1 0 rfl R _ ra underlying70 rfl hi70 ?_
  | (refine vV rfl 72 _ rfl T.toArray (by simp only[Wxy,Wxj,Wxk];exact HBT.out) ?_)
  | (refine wpList_store_row rfl 72 _ _ rfl G T.toArray rfl rfl 72 Z HRA.out J72.out E72.out O72.out ?_;rw[HWB.out])
  | fail)
 have hrf:wb.rangeAt G 0 T:=zx HRB.out;exact bodyPost_ret (v:=.tuple #[.agg T.toArray,.nilIface]) (Q9 results70 _ _ G T _ .nilIface rfl rfl hrf underlying72 rfl hi72) rfl (by rw[<-HT.out];exact HPO.out _ _ HBB.out)
end Go.Proofs.YtiaaekdpfpaigaaGreatDoor.Pk
