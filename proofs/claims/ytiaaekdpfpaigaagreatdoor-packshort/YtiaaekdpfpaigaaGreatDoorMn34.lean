import Derived.Test.YtiaaekdpfpaigaaGreatDoorMn33
set_option linter.unusedSimpArgs false
set_option linter.unusedVariables false
set_option maxRecDepth 20000
set_option maxHeartbeats 4000000
open List renaming getElem_mem->Wz5,length_map->Wxx,length_take->Wzz,mem_singleton->WqJ,replicate->WqV
open Nat renaming le_of_eq->WyQ,le_refl->WzV,le_trans->Wqx,lt_of_lt_of_le->Wqj,lt_or_ge->WzW,mul_le_mul->Wyw,zero_add->Wq7,zero_le->Wu0
namespace Go.Proofs.YtiaaekdpfpaigaaGreatDoor.Pk
open Go.Proofs.Tryz
open Go.RowKit Go.Maps Go.Proofs.YtiaaekdpfpaigaaGreatDoor.Id Go.Proofs.YtiaaekdpfpaigaaGreatDoor.Px
structure S6 (H H2 b oi ok K:Nat) (X Y:List Value) (u v:Value) (Si Sk:ByteArray) (W:World):Prop where
 rx:W.rangeAt H 0 X
 ry:W.rangeAt H2 0 Y
 i0:W.cell? ⟨b,oi,none⟩=some (.int .i64 K)
 i1:W.cell? ⟨b,oi+1,none⟩=some u
 k0:W.cell? ⟨b,ok,none⟩=some (.int .i64 K)
 k1:W.cell? ⟨b,ok+1,none⟩=some v
 si:(convert 22 9 u).run prog W=.ok (.string Si) W
 sk:(convert 22 9 v).run prog W=.ok (.string Sk) W
theorem N6 {xs ys:List Int} (hx:IsB xs) (hy:IsB ys) (h:strOfNums xs=strOfNums ys):xs=ys:=by
 have h2:=congrArg (fun b:ByteArray=>b.data.toList) h;simp only[strOfNums_data] at h2;have hl:xs.length=ys.length:=by simpa using congrArg List.length h2
 refine List.ext_getElem hl (fun i p q=>?_);have h3:=congrArg (fun l:List UInt8=>l[i]?) h2;simp only[List.getElem?_map,List.getElem?_eq_getElem p,List.getElem?_eq_getElem q,Option.map_some,Option.some.injEq] at h3;have a:=hx _ (Wz5 p);have b:=hy _ (Wz5 q);have h4:=congrArg UInt8.toNat h3;simp only[UInt8.toNat_ofNat'] at h4;omega
theorem zuv:(prog.info? 46).map (·.size)=some 2:=by kernel_rfl
theorem eq47 (x y:List Int) (hx:x.length=20) (hy:y.length=20) (w:World):(binOp .eql 47 (idV x) (idV y)).run prog w=.ok (.bool (decide (x=y))) w:=by
 have h:=eq41 x y hx hy w;simp only[binOp];simp[Op.equal,Op.maxDepth,h]
theorem ne9 (s t:ByteArray) (h:s ≠ t) (w:World):(binOp .neq 9 (.string s) (.string t)).run prog w=.ok (.bool true) w:=by
 have h2:(s.toList == t.toList)=false:=by
  rw[beq_eq_false_iff_ne];intro e;rw[ByteArray.toList_eq,ByteArray.toList_eq] at e;refine h ?_;obtain⟨⟨x⟩⟩:=s;obtain⟨⟨y⟩⟩:=t;have e2:x=y:=e;rw[e2]
 have h3:(s == t)=false:=by rw[beq_toListBytes,h2]
 show (Op.stringOp .neq s t).run prog w=_;unfold Op.stringOp;simp[h2,h3,bne]
theorem Iw:prog.eqGuardType prog.depth 47=false:=by kernel_rfl
theorem Iy (K n:Nat) (hK:1<=K/\K<=4) (hn:n<=20000) (x:Oj) (w:World) (hx:Om n w x) {RO R:List Value} (hO:yQ K x=RO) (hR:row .u8 (ido K x)=R) :
  Calls prog 13 #[.agg RO.toArray] w fun e w'=>e=.returned (.tuple #[.agg R.toArray,.int .i64 0])/\Below w.heap.size w w':=by
 have:=zzz K (some ⟨x.b,x.o,none⟩) x.c x.zs w (by rw[hx.len];omega) hx.isb (DK hx);rw[zvx hK (by rw[hx.len];omega),show row .u8 (idZ K x.zs)=R from hR] at this;rw[<-hO];exact this
def qxu (K m G:Nat) (os:List Oj) (w:World) (e:Ending) (w':World):Prop := ∃ r:Bool,e=.returned (.bool r)/\Below G w w'/\(r=false->∀ i k,k<i->i<m->ido K (os.getD i dO) ≠ ido K (os.getD k dO))
theorem Ew (K n:Nat) (hK:1<=K/\K<=4) (hn:n<=20000) (b of cap:Nat) (os:List Oj) (w:World) (hr:∀ W,Below w.heap.size w W->∀ i,i<os.length->W.rangeAt b (of+i*2) (yQ K (os.getD i dO))) (ho:∀ W,Below w.heap.size w W->∀ i,i<os.length->Om n W (os.getD i dO)) (hne:∀ i k,k<i->i<os.length->(os.getD i dO).zs ≠ (os.getD k dO).zs) (hl:os.length<=100) (hc:os.length<=cap) :
  Calls prog 6 #[.slice (some ⟨b,of,none⟩) os.length cap] w (qxu K os.length w.heap.size os w):=by
 obtain⟨m,HM⟩:=nm_ os.length;obtain⟨G,HG⟩:=nm_ w.heap.size;rw[HG.out] at hr ho ⊢;rw[HM.out] at hr ho hl hc hne ⊢;have HR:=hid hr;have HO:=hid ho;have HNE:=hid hne;have HKK:=hid hK;obtain⟨zr,HZ⟩:=nm_ ((row .u8 z20).toArray);have hz47:∀ w:World,(zeroValue 47).run prog w=.ok (.agg zr) w:=fun w=>by rw[<-HZ.out];exact zxW w
 clear hr ho hne hK;go_enter func6,ntmps6;go_wp2_with fail
 go_loopg [3] m (fun g iv wr=>∃ i:Nat,iv=.int .i64 i/\g=m-i/\i<=m/\Hid (Below G w wr)/\Hid (∀ i' k,k<i'->i'<i->ido K (os.getD i' dO) ≠ ido K (os.getD k dO)));case atStart=>exact⟨0,rfl,rfl,by omega,Below.refl _ _,hid (fun i' k h1 h2=>by omega)⟩
 obtain⟨i,rfl,hg,him,HB,HN⟩:=hrel;by_cases hlt:i<m;rotate_left
 ·have hltI:¬ (i:Int)<m:=by omega
  obtain rfl:i=m:=by omega
  go_wp2_with fail
  go_ret;exact Exists.intro false (And.intro rfl (And.intro HB.out (fun _ i' k h1 h2=>HN.out i' k h1 h2)))
 have hltI:(i:Int)<m:=by omega
 obtain⟨o,HOi⟩:=nm_ (os.getD i dO);obtain⟨RO,HRO⟩:=nm_ (yQ K o);have hi46:(prog.info? 46).map (·.size)=some RO.length:=by rw[<-HRO.out];exact zuv
 have HRG:Hid (wr.rangeAt b (of+i*2) RO):=hid (by have:=HR.out wr HB.out i hlt;rw[HOi.out,HRO.out] at this;exact this);obtain⟨RI,HRI⟩:=rw_ (YJ K o).1;have E47:Hid (zr.size=RI.toArray.size):=hid (by rw[<-HZ.out];exact HRI.out.z)
 have C13:Hid (Calls prog 13 #[.agg RO.toArray] wr fun e w'=>e=.returned (.tuple #[.agg RI.toArray,.int .i64 0])/\Below wr.heap.size wr w'):=hid (Iy K n HKK.out hn o wr (by have:=HO.out wr HB.out i hlt;rw[HOi.out] at this;exact this) HRO.out HRI.out.e);have hGs:G<=wr.heap.size:=by rw[<-HG.out];exact HB.out.size
 have hcc:m<=cap:=hc;go_wp2_with (first
  | refine wpList_load_mid rfl 46 _ rfl b (of+i*2) rfl RO _ HRG.out underlying46 rfl hi46 ?_
  | fail)
 refine C13.out.mono ?_;clear C13;rintro ev w3 ⟨rfl,hb3⟩;obtain⟨H,w4,HN4⟩:=nw 47 zr w3 RI;have hb4:Below wr.heap.size wr w4:=hb3.trans (HN4.out.below.mono (by rw[<-HN4.out.h];exact hb3.size));have HB4:Hid (Below G w w4):=hid (HB.out.trans (hb4.mono hGs));have HX4:Hid (w4.heap[H]? = some (.cells RI.toArray 47 (0,0))):=hid HN4.out.box;clear hb3 hb4;go_wp2_with (first
  | (refine wpList_store_row rfl 47 _ _ rfl w3.heap.size RI.toArray rfl rfl 47 zr HN4.out.d HRI.out.j31 E47.out HRI.out.o ?_;rw[HN4.out.w,HN4.out.h])
  | fail)
 go_loopg [6] i (fun g kv wr=>∃ k:Nat,kv=.int .i64 k/\g=i-k/\k<=i/\Hid (Below G w wr)/\Hid (wr.heap[H]? = some (.cells RI.toArray 47 (0,0)))/\Hid (∀ k',k'<k->ido K o ≠ ido K (os.getD k' dO)));case atStart=>exact⟨0,rfl,rfl,by omega,HB4,HX4,hid (fun k' h=>by omega)⟩
 case round =>
 obtain⟨k,rfl,hg3,hki,HBk,HXk,HPk⟩:=hrel;by_cases hlt3:k<i;rotate_left
 ·have hlti3:¬ (k:Int)<i:=by omega
  obtain rfl:k=i:=by omega
  go_wp2_with fail
  go_roundg (m-(k+1));case measure=>omega
  refine⟨k+1,by go_num,rfl,by omega,HBk.out,hid (fun i' k' h1 h2=>?_)⟩;rcases WzW i' k with h' | h'
  ·exact HN.out i' k' h1 h'
  obtain rfl:i'=k:=by omega
  rw[HOi.out];exact HPk.out k' h1
 have hlti3:(k:Int)<i:=by omega
 have hkm:k<m:=by omega
 obtain⟨p,HPi⟩:=nm_ (os.getD k dO);obtain⟨RP,HRP⟩:=nm_ (yQ K p);have hi46k:(prog.info? 46).map (·.size)=some RP.length:=by rw[<-HRP.out];exact zuv
 have HRGk:Hid (wr.rangeAt b (of+k*2) RP):=hid (by have:=HR.out wr HBk.out k hkm;rw[HPi.out,HRP.out] at this;exact this);obtain⟨FP,HFP⟩:=rw_ (YJ K p).1;have E47k:Hid (zr.size=FP.toArray.size):=hid (by rw[<-HZ.out];exact HFP.out.z)
 have C13k:Hid (Calls prog 13 #[.agg RP.toArray] wr fun e w'=>e=.returned (.tuple #[.agg FP.toArray,.int .i64 0])/\Below wr.heap.size wr w'):=hid (Iy K n HKK.out hn p wr (by have:=HO.out wr HBk.out k hkm;rw[HPi.out] at this;exact this) HRP.out HFP.out.e);have hGs2:G<=wr.heap.size:=by rw[<-HG.out];exact HBk.out.size
 have hkmI:(k:Int)<m:=by omega
 go_wp2_with (first
  | refine wpList_load_mid rfl 46 _ rfl b (of+k*2) rfl RP _ HRGk.out underlying46 rfl hi46k ?_
  | fail)
 refine C13k.out.mono ?_;clear C13k;rintro ev w5 ⟨rfl,hb5⟩;obtain⟨H2,w6,HN6⟩:=nw 47 zr w5 FP;have hb6:Below wr.heap.size wr w6:=hb5.trans (HN6.out.below.mono (by rw[<-HN6.out.h];exact hb5.size));have hbd:Below w6.heap.size w6 w6.drew:=zk (Below.refl _ _) 1;have hb7:Below wr.heap.size wr w6.drew:=hb6.trans (hbd.mono hb6.size)
 have HB6:Hid (Below G w w6.drew):=hid (HBk.out.trans (hb7.mono hGs2));have HX6:Hid (w6.drew.heap[H]? = some (.cells RI.toArray 47 (0,0))):=hid ((hb7.block _ (lt_of_some HXk.out)).trans HXk.out);have HY6:Hid (w6.drew.heap[H2]? = some (.cells FP.toArray 47 (0,0))):=hid ((hbd.block _ HN6.out.lt).trans HN6.out.box);have hri:=HR.out _ HB6.out i hlt;have hrk:=HR.out _ HB6.out k hkm
 rw[HOi.out] at hri;rw[HPi.out] at hrk;have hoi:=HO.out _ HB6.out i hlt;have hok:=HO.out _ HB6.out k hkm;rw[HOi.out] at hoi;rw[HPi.out] at hok;obtain⟨u,HU⟩:=nm_ (slO o);obtain⟨v,HV⟩:=nm_ (slO p)
 have hS:S6 H H2 b (of+i*2) (of+k*2) K RI FP u v (strOfNums o.zs) (strOfNums p.zs) w6.drew:=⟨zx HX6.out,zx HY6.out,hri 0 _ rfl,by rw[<-HU.out];exact hri 1 _ rfl,hrk 0 _ rfl,by rw[<-HV.out];exact hrk 1 _ rfl,
  by rw[<-HU.out];exact run_convert_bytes_arg (P:=prog) _ 22 5 underlying22 underlying5 o.b o.o o.zs.length o.c o.zs rfl (fun j hj=>hoi.at_ j hj) 9 underlying9,
  by rw[<-HV.out];exact run_convert_bytes_arg (P:=prog) _ 22 5 underlying22 underlying5 p.b p.o p.zs.length p.c p.zs rfl (fun j hj=>hok.at_ j hj) 9 underlying9⟩
 have HSN:Hid (strOfNums o.zs ≠ strOfNums p.zs):=hid (fun e=>by
  have h9:=HNE.out i k hlt3 hlt;rw[HOi.out,HPi.out] at h9;exact h9 (N6 hoi.isb hok.isb e))
 obtain⟨Si,HSi⟩:=nm_ (strOfNums o.zs);obtain⟨Sk,HSk⟩:=nm_ (strOfNums p.zs);rw[HSi.out,HSk.out] at HSN hS;have HEQ:Hid (∀ V:World,(binOp .eql 47 (.agg RI.toArray) (.agg FP.toArray)).run prog V=.ok (.bool (decide (ido K o=ido K p))) V):=hid (fun V=>by rw[<-HRI.out.e,<-HFP.out.e];exact eq47 _ _ (YJ K o).1 (YJ K p).1 V);clear hb5 hb6 hb7 hbd hri hrk hoi hok
 go_wp2_with (first
  | (refine wpList_store_row rfl 47 _ _ rfl w5.heap.size FP.toArray rfl rfl 47 zr HN6.out.d HFP.out.j31 E47k.out HFP.out.o ?_;rw[HN6.out.w,HN6.out.h])
  | fail)
 refine wp_region_held_drew (S:=S6 H H2 b (of+i*2) (of+k*2) K RI FP u v Si Sk) (by kernel_rfl) hS (fun hHeld=>?_);clear hS;generalize w6.drew=u0 at hHeld HB6 HX6 HY6 ⊢;iterate 3 (refine qk hHeld ?_;try simp only[Act.put,sL])
 refine Dl.takeL (i:=3) (v:=.agg RI.toArray) rfl (by kernel_rfl) (by kernel_rfl) (by kernel_rfl) (fun _ _ _ h=>h) (yieldsIf_load_mid (by rfl) 47 _ rfl H 0 (by rfl) RI _ (fun w' h=>h.rx) underlying47 rfl HRI.out.i31) hHeld ?_;try simp only[Act.put,sL]
 refine Dl.takeL (i:=4) (v:=.agg FP.toArray) rfl (by kernel_rfl) (by kernel_rfl) (by kernel_rfl) (fun _ _ _ h=>h) (yieldsIf_load_mid (by rfl) 47 _ rfl H2 0 (by rfl) FP _ (fun w' h=>h.ry) underlying47 rfl HFP.out.i31) hHeld ?_;try simp only[Act.put,sL]
 by_cases hxy:ido K o=ido K p
 ·have hq:∀ V:World,(binOp .eql 47 (.agg RI.toArray) (.agg FP.toArray)).run prog V=.ok (.bool true) V:=fun V=>by rw[HEQ.out V,decide_eq_true hxy]
  have hne9:∀ V:World,(binOp .neq 9 (.string Si) (.string Sk)).run prog V=.ok (.bool true) V:=fun V=>ne9 _ _ HSN.out V
  refine Dl.takeL (i:=5) (v:=.bool true) rfl (by kernel_rfl) (by kernel_rfl) (by kernel_rfl) (fun _ _ _ h=>h) (Or.inl ⟨by rfl,fun w' _=>YK .eql 47 47 (.tmp 43) (.tmp 44) rfl (.agg RI.toArray) (.agg FP.toArray) (.bool true) (by rfl) (by rfl) (run_eqGuard_agg _ _ _ _ _ _ _ Iw) (hq w')⟩) hHeld ?_;try simp only[Act.put,sL]
  iterate 12 (refine qk hHeld ?_;try simp only[Act.put,sL])
  refine kw (v:=.bool false) 18 hHeld ?_;try simp only[Act.put,sL]
  iterate 13 (refine qk hHeld ?_;try simp only[Act.put,sL])
  refine Dl.takeL (i:=32) (v:=.bool true) rfl (by kernel_rfl) (by kernel_rfl) (by kernel_rfl) (fun _ _ _ h=>h) (Or.inl ⟨by rfl,fun w' _=>YK .neq 9 9 (.tmp 65) (.tmp 71) rfl (.string Si) (.string Sk) (.bool true) (by rfl) (by rfl) (by rfl) (hne9 w')⟩) hHeld ?_;try simp only[Act.put,sL]
  iterate 2 (refine qk hHeld ?_;try simp only[Act.put,sL])
  refine wpAnyH_done (by kernel_rfl) ?_ _;clear hHeld hq hne9;go_wp2_with fail
  go_ret;exact⟨true,rfl,HB6.out,fun h=>by cases h⟩
 have hq:∀ V:World,(binOp .eql 47 (.agg RI.toArray) (.agg FP.toArray)).run prog V=.ok (.bool false) V:=fun V=>by rw[HEQ.out V,decide_eq_false hxy]
 refine Dl.takeL (i:=5) (v:=.bool false) rfl (by kernel_rfl) (by kernel_rfl) (by kernel_rfl) (fun _ _ _ h=>h) (Or.inl ⟨by rfl,fun w' _=>YK .eql 47 47 (.tmp 43) (.tmp 44) rfl (.agg RI.toArray) (.agg FP.toArray) (.bool false) (by rfl) (by rfl) (run_eqGuard_agg _ _ _ _ _ _ _ Iw) (hq w')⟩) hHeld ?_;try simp only[Act.put,sL]
 iterate 29 ((first | refine qk hHeld ?_ | refine zv7 hHeld ?_);try simp only[Act.put,sL])
 refine wpAnyH_done (by kernel_rfl) ?_ _;have HXY:=hid hxy;clear hHeld hq hxy;go_wp2_with fail
 go_roundg (i-(k+1));case measure=>omega
 case rel =>
 refine⟨k+1,by go_num,rfl,by omega,HB6.out,HX6.out,hid (fun k' hk'=>?_)⟩;rcases WzW k' k with h' | h'
 ·exact HPk.out k' h'
 obtain rfl:k'=k:=by omega
 rw[HPi.out];exact HXY.out
abbrev Uu (u:Value):List Value:=[u]
theorem zuw:(prog.info? 22).map (fun i=>(i.zero,i.size,i.bytes))=some (some (.slice none 0 0),1,24):=by kernel_rfl
theorem qy0 (a:Option Addr) (m c:Nat) (w:World):(Instr.buildSlice 73 1 #[(0,.slice a m c)]).run prog w=.ok (.slice (some ⟨w.heap.size,0,none⟩) 1 1) (w.alloc (.cells #[.slice a m c] 22)):=by kernel_rfl
structure Vs (w:World) (B n:Nat) (us:List Value) (ls:List (List Int)):Prop where
 len:us.length=ls.length
 own:∀ i,i<ls.length->w.ownsRow B 5 1 (us.getD i dU) n ((ls.getD i []).map (Value.int .u8))
 ln:∀ i,i<ls.length->(ls.getD i []).length=n
 isb:∀ i,i<ls.length->IsB (ls.getD i [])
theorem Vs.kt {w w':World} {B n:Nat} {us:List Value} {ls:List (List Int)} (h:Vs w B n us ls) (hk:K5 w w'):Vs w' B n us ls:=⟨h.len,fun i hi=>vj (h.own i hi) hk,h.ln,h.isb⟩
theorem Vs.snoc {w:World} {B n:Nat} {us:List Value} {ls:List (List Int)} {u:Value} {l:List Int} (h:Vs w B n us ls) (hu:w.ownsRow B 5 1 u n (l.map (Value.int .u8))) (hl:l.length=n) (hb:IsB l):Vs w B n (us++[u]) (ls++[l]):=by
 have hlen:=h.len;refine⟨by simp[hlen],fun i hi=>?_,fun i hi=>?_,fun i hi=>?_⟩ <;> rw[List.length_append,List.length_singleton] at hi
 ·by_cases h1:i<ls.length
  ·rw[zY _ _ _ _ (by omega),zY _ _ _ _ h1];exact h.own i h1
  obtain rfl:i=ls.length:=by omega
  rw[qu,<-hlen,qu];exact hu
 ·by_cases h1:i<ls.length
  ·rw[zY _ _ _ _ h1];exact h.ln i h1
  obtain rfl:i=ls.length:=by omega
  rw[qu];exact hl
 by_cases h1:i<ls.length
 ·rw[zY _ _ _ _ h1];exact h.isb i h1
 obtain rfl:i=ls.length:=by omega
 rw[qu];exact hb
theorem zuy {w:World} {B n:Nat} {u:Value} {xs pad:List Int} (hu:w.ownsRow B 5 1 u n (xs.map (Value.int .u8))) (hl:xs.length=n) (hn0:0<n) (hn:n<=20000) (hB:B<=w.heap.size) (p:Nat) (hp:Id.At w p 0 pad) (hpl:pad.length=64) :
  ∃ a c w',(Builtin.append_ #[22,22] 22 #[u,.slice (some ⟨p,0,none⟩) 64 64]).run prog w=.ok (.slice a (n+64) c) w'/\w'.ownsRow B 5 1 u n (xs.map (Value.int .u8))/\w.grownBy w' u.ownBlock:=by
 obtain⟨i5,hi,hz0,hz1,hz2⟩:=info_parts info5;have hnews:∀ j z,(pad.map (Value.int .u8))[j]? = some z->w.cell? ((⟨p,0,none⟩:Addr).add j)=some z:=fun j z hj=>by
  rw[List.getElem?_map] at hj;cases hc:pad[j]? with
  | none=>rw[hc] at hj;cases hj
  | some y =>
   rw[hc] at hj;cases hj
   have:=hp j (List.getElem?_eq_some_iff.1 hc).1;rw[addr_add];simpa [List.getD_eq_getElem?_getD,hc] using this
 obtain⟨hlen,⟨hv,h0⟩ | ⟨g,cap,cur,hv,h1,h2,h3,h4,h5,h6⟩⟩:=id hu
 ·omega
 subst hv;by_cases hr:n+64<=cap
 ·obtain⟨w',hrun,ho,hg⟩:=run_append_fits (P:=prog) w B 22 22 5 i5 1 underlying22 hi hz1 g n cap _ hu ⟨p,0,none⟩ 64 64 (pad.map (Value.int .u8)) (by rw[Wxx,hpl]) hnews (ints_oneCell .u8 pad) hr;refine⟨_,_,w',hrun,?_,hg⟩;obtain⟨q0,⟨q1,q2⟩ | ⟨g',cap',cur',q1,q2,q3,q4,q5,q6,q7⟩⟩:=ho
  ·cases q1
  cases q1
  refine⟨hlen,.inr ⟨g,cap,cur',rfl,h1,q3,h3,h4,q6,?_⟩⟩;have e:cur'.toList.take (n*1)=(cur'.toList.take ((n+64)*1)).take (n*1):=by rw[List.take_take];congr 1;omega
  rw[e,q7,List.take_left' (by rw[Wxx,hl];omega)]
 have hat:=fun j z (hj:(xs.map (Value.int .u8))[j]? = some z)=>(show w.cell? ((⟨g,0,none⟩:Addr).add j)=some z by
  rw[addr_add,Wq7,cell_of_row w g j _ _ _ h2];have hlt:=(List.getElem?_eq_some_iff.1 hj).1;rw[Wxx,hl] at hlt;rw[<-h6,List.getElem?_take_of_lt (by omega)] at hj;simpa using hj)
 have hrun:=run_append_grow (P:=prog) w 22 22 5 i5 (.int .u8 0) underlying22 hi hz0 ⟨g,0,none⟩ n cap (xs.map (Value.int .u8)) (by rw[hz1];simp[hl]) hat ⟨p,0,none⟩ 64 64 (pad.map (Value.int .u8)) (by rw[hz1,Wxx,hpl]) hnews (by omega) (by omega) (by rw[hz2];exact growslice_fits (by omega) (by omega))
 refine⟨_,_,_,hrun,?_,⟨rfl,rfl,rfl,by simp,fun k hk _=>heap_alloc_old w.drew _ hk⟩⟩;exact⟨hlen,.inr ⟨g,cap,cur,rfl,h1,(heap_alloc_old w.drew _ (lt_of_some h2)).trans h2,h3,h4,h5,h6⟩⟩
structure S17 (b i:Nat) (u:Value) (W:World):Prop where
 c:W.cell? ⟨b,i,none⟩=some u
structure S23 (b i b2:Nat) (u v:Value) (W:World):Prop where
 c:W.cell? ⟨b,i,none⟩=some u
 c2:W.cell? ⟨b2,i,none⟩=some v
structure Gw (B n:Nat) (us:List Value) (ls:List (List Int)) (w w':World):Prop where
 vs:Vs w' B n us ls
 bl:Below B w w'
 fr:∀ k,k<w.heap.size->(∀ i,i<us.length->(us.getD i dU).ownBlock ≠ some k)->w'.heap[k]? = w.heap[k]?
theorem CK (B n:Nat) (hn0:0<n) (hn:n<=20000) (v:Value) (us:List Value) (ls:List (List Int)) (w0 w:World) (hB:B<=w.heap.size) (hv:Bx Uu 1 22 w0 w B v us) (hu:Vs w B n us ls) (hd:∀ i j b,i<us.length->j<us.length->i ≠ j->(us.getD i dU).ownBlock=some b->(us.getD j dU).ownBlock ≠ some b) (hm:us.length<=100) :
    Calls prog 22 #[v] w fun e w'=>e=.returned (.bool true)/\Below B w w'/\∀ k,k<w.heap.size->(∀ i,i<us.length->(us.getD i dU).ownBlock ≠ some k)->w'.heap[k]? = w.heap[k]? := by
  obtain⟨m,HM⟩:=nm_ us.length
  obtain⟨a,cap,hva,hP,hab,haz⟩:=Bx.px (d:=dU) hv (fun x _=>rfl)
  rw[HM.out] at hva
  have hml:m<=100:=by rw[<-HM.out];exact hm
  obtain⟨G,HG⟩:=nm_ w.heap.size
  have HU:=hid hu
  have HP:=hid hP
  have HLL:Hid (ls.length=m):=hid (by rw[<-hu.len,HM.out])
  have HCAP:Hid (m<=cap):=hid (by have:=hP.capl;rw[HM.out] at this;exact this)
  have HZS:Hid (∀ b of,a=some ⟨b,of,none⟩->of=0):=hid (fun b of e=>by
    rcases haz with h | ⟨b',h⟩
    · rw[h] at e;cases e
    · rw[h] at e;cases e;rfl)
  subst hva
  have HVX:=hid hv
  have HD:=hid hd
  clear hv hu hd hm hP hab haz
  go_enter func22,ntmps22
  go_wp2_with fail
  go_loopg [4,3] m (fun g iv kv wr=>∃ (i:Nat) (ks:List Value),iv=.int .i64 i/\g=m-i/\i<=m/\Hid (Bx Uu 1 22 w wr G kv ks)/\Hid (Vs wr G n ks (ls.take i)))
  case atStart=>exact⟨0,[],rfl,rfl,by omega,hid (by have:=LV (enc:=Uu) (k:=1) 22 w G (WyQ HG.out.symm);exact this),hid ⟨by simp,fun i hi=>by simp at hi,fun i hi=>by simp at hi,fun i hi=>by simp at hi⟩⟩
  case round =>
    obtain⟨i,ks,rfl,hg,him,HK,HV⟩:=hrel
    by_cases hlt:i<m
    · have hltI:(i:Int)<m:=by omega
      have hbw:Below w.heap.size w wr:=by rw[HG.out];exact HK.out.below
      obtain⟨b,of,ha,hbb,hr⟩:=(HP.out.below hbw).at_ (by rw[HM.out];omega)
      obtain rfl:=HZS.out b of ha
      subst ha
      have hri:=hr i (by rw[HM.out];exact hlt) 0 _ rfl
      obtain⟨l,HLI⟩:=nm_ (ls.getD i [])
      have hil:i<ls.length:=by rw[HLL.out];exact hlt
      have hou:=vj (HU.out.own i hil) (q8 (t:=5) hbw)
      have hln:=HU.out.ln i hil
      have hib:=HU.out.isb i hil
      rw[HLI.out] at hou hln hib
      obtain⟨ua,uc,huv,hSu⟩:=xW (⟨Below.refl _ _,qV (by rw[hln];exact hou) (Wu0 _),Wu0 _⟩:Bd wr wr 0 _ l)
      rw[hln] at huv
      have kc:wr.cell? ⟨b,i,none⟩=some (.slice ua n uc):=by
        rw[huv] at hri
        simpa using hri
      have HSU:=hid hSu
      have HLN:=hid hln
      have HIB:=hid hib
      have hcm:m<=cap:=HCAP.out
      obtain⟨M,HMM⟩:=nm_ wr.heap.size
      have HBN:Hid (Bd wr wr M (.slice none 0 0) []):=hid (by rw[<-HMM.out];exact zxJ wr _ (WzV _))
      clear hri hou hln hib huv hSu hbw hbb hr hil
      go_wp2_with (first
        | (at_builtin;refine Z4 rfl _ _ rfl M _ [] rfl HBN.out ua uc l (by rw[HLN.out];rfl) HSU.out (by rw[HLN.out];simp;omega) ?_;intro u w2 hb2 hg2;have HB2:Hid (Bd wr w2 M u ([]++l)):=hb2;clear hb2 hg2;refine Hid.out ?_)
        | fail)
      refine hid ?_
      have hb2:Bd wr w2 M u l:=HB2.out
      obtain⟨ca,cc,hcu,-⟩:=xW hb2
      rw[HLN.out] at hcu
      subst hcu
      have hbl2:Below wr.heap.size wr w2:=by rw[HMM.out];exact hb2.below
      have HK2:=hid (HK.out.carry hbl2)
      have HV2:=hid (HV.out.kt (q8 hbl2))
      have HC2:Hid (w2.ownsRow G 5 1 (.slice ca n cc) n (l.map (Value.int .u8))):=hid (by
        have h1:=hb2.own
        rw[HLN.out] at h1
        refine qV h1 ?_
        rw[<-HMM.out]
        exact HK.out.le)
      obtain⟨w3,HW3⟩:=nm_ (w2.alloc (.cells #[.slice ca n cc] 22))
      obtain⟨gs,HGS⟩:=nm_ w2.heap.size
      have hr73:=qy0 ca n cc w2
      rw[HGS.out,HW3.out] at hr73
      have hb3:Below w2.heap.size w2 w3:=by rw[<-HW3.out];exact(Below.refl _ w2).alloc (WzV _) _
      have HK3:=hid (HK2.out.carry hb3)
      have hrs:w3.rangeAt gs 0 (Uu (.slice ca n cc)):=by rw[<-HW3.out,<-HGS.out];exact zx (heap_alloc_new _ _)
      have hkl:ks.length=i:=by rw[HV.out.len,Wzz,HLL.out];omega
      obtain⟨kv',w4,hrun,hk4,hg4,hm4⟩:=HK3.out.app1 gs (.slice ca n cc) hrs rfl (by decide) (fun v hv=>by simp only[Uu,WqJ] at hv;subst hv;rfl) (by omega) 73 underlying73 zuw rfl (by decide) 73
      have HK4:=hid hk4
      have HV4:Hid (Vs w4 G n (ks++[.slice ca n cc]) (ls.take (i+1))):=hid (by
        rw[yY [] ls i (by rw[HLL.out];exact hlt),HLI.out]
        have hkt:K5 w2 w4:=(q8 hb3).trans (Uj HK3.out.own (by decide) hg4)
        exact(HV2.out.kt hkt).snoc (vj HC2.out hkt) HLN.out HIB.out)
      have HRUN:=hid hrun
      clear hb2 hbl2 hb3 hrs hkl hrun hk4 hg4 hm4
      go_wp2_with (first
        | (refine qw rfl _ (xw 73 1 (.tmp 27) (by rfl) (.slice ca n cc) (.slice (some ⟨gs,0,none⟩) 1 1) (by rfl) hr73) ?_)
        | (refine qw rfl kv' (yy (.tmp 26) (.tmp 28) 73 (by rfl) (by rfl) (by rfl) HRUN.out) ?_)
        | fail)
      go_roundg (m-(i+1))
      case measure=>omega
      case rel=>exact⟨i+1,_,by go_num,rfl,by omega,HK4.out,HV4.out⟩
    · have hltI:¬ (i:Int)<m:=by omega
      obtain rfl:i=m:=by omega
      have HV1:Hid (Vs wr G n ks ls):=hid (by
        have:=HV.out
        rwa [List.take_of_length_le (by rw[HLL.out];omega)] at this)
      have HKL:Hid (ks.length=i):=hid (by rw[HV1.out.len,HLL.out])
      obtain⟨ka,kcap,hkv,hKP,hkab,hkaz⟩:=Bx.px (d:=dU) HK.out (fun x _=>rfl)
      rw[HKL.out] at hkv
      obtain⟨w1,HW1⟩:=nm_ wr
      rw[HW1.out] at HK HV HV1 hKP hkab
      have HKP:=hid hKP
      have HKZ:=hid hkaz
      have HKV:=hid hkv
      have hz108:∀ w:World,(zeroValue 108).run prog w=.ok (.agg (row .u8 (WqV 64 0)).toArray) w:=fun w=>by kernel_rfl
      obtain⟨Z,HZ⟩:=nm_ ((row .u8 (WqV 64 0)).toArray)
      rw[HZ.out] at hz108
      obtain⟨P,HPP⟩:=nm_ w1.heap.size
      have HP0:Hid (∃ zs:List Int,zs.length=64/\IsB zs/\Below P w1 (w1.alloc (.cells Z 108))/\(w1.alloc (.cells Z 108)).heap[P]? = some (.cells (row .u8 zs).toArray 108 (0,0))):=hid ⟨WqV 64 0,rfl,fun x hx=>by have:=List.eq_of_mem_replicate hx;subst this;exact⟨by decide,by decide⟩,by rw[<-HPP.out];exact(Below.refl _ w1).alloc (WzV _) _,by rw[HZ.out,<-HPP.out];exact heap_alloc_new _ _⟩
      clear hKP hkaz hkab hkv
      rw[HW1.out]
      go_wp2_with fail
      rw[HPP.out]
      go_loopg [7] 64 (fun g iv wr=>∃ j:Nat,iv=.int .i64 j/\g=64-j/\j<=64/\Hid (∃ zs:List Int,zs.length=64/\IsB zs/\Below P w1 wr/\wr.heap[P]? = some (.cells (row .u8 zs).toArray 108 (0,0))))
      case atStart=>exact⟨0,rfl,rfl,by omega,HP0.out⟩
      case round =>
        obtain⟨j,rfl,hg2,hj,HO⟩:=hrel
        by_cases hlt2:j<64
        · have hltj:(j:Int)<64:=by omega
          obtain⟨zs,hz1,hz2,hz3,hz4⟩:=HO.out
          have hcell:wr.cell? ⟨P,j,none⟩=some (.int .u8 (zs.getD j 0)):=by have:=zy hz4 j (by rw[hz1];exact hlt2);exact this
          obtain⟨ov,HOV⟩:=nm_ (zs.getD j 0)
          rw[HOV.out] at hcell
          have hf:wr.frozen? ⟨P,j,none⟩=false:=frozen_of_row _ _ j _ 108 hz4
          have hwu:IntKind.u8.wrap (161+(j:Int))=161+(j:Int):=by rw[IntKind.wrap_u8];omega
          have HO2:Hid (∃ zs:List Int,zs.length=64/\IsB zs/\Below P w1 (wr.setCell ⟨P,j,none⟩ (.int .u8 (161+(j:Int))))/\(wr.setCell ⟨P,j,none⟩ (.int .u8 (161+(j:Int)))).heap[P]? = some (.cells (row .u8 zs).toArray 108 (0,0))):=hid ⟨zs.set j (161+(j:Int)),by rw[List.length_set];exact hz1,fun x hx=>by
              rcases List.mem_or_eq_of_mem_set hx with h | h
              · exact hz2 x h
              · subst h;omega,hz3.setCell (WzV _) _,by
              have h9:=VK j (.int .u8 (161+(j:Int))) hz4
              rw[h9]
              unfold row
              rw[List.setIfInBounds_toArray,List.map_set]⟩
          clear hz1 hz2 hz3 hz4
          go_wp2
          go_roundg (64-(j+1))
          case measure=>omega
          case rel=>exact⟨j+1,by go_num,rfl,by omega,HO2.out⟩
        · have hltj:¬ (j:Int)<64:=by omega
          obtain⟨zs,hz1,hz2,hz3,hz4⟩:=HO.out
          obtain⟨w2,HW2⟩:=nm_ wr
          rw[HW2.out] at hz3 hz4 ⊢
          have hb1:Below G w w1:=HK.out.below
          have hb12:Below w1.heap.size w1 w2:=by rw[HPP.out];exact hz3
          have hbw:Below w.heap.size w w2:=by rw[HG.out];exact hb1.trans (hb12.mono HK.out.le)
          have hG2:G<=w2.heap.size:=by rw[<-HG.out];exact hbw.size
          have HK2:=hid (HK.out.carry hb12)
          have HV2:=hid (HV1.out.kt (q8 hb12))
          have HU2:=hid (HU.out.kt (q8 hbw))
          have HP2:=hid (HP.out.below hbw)
          have HPA:Hid (Id.At w2 P 0 zs):=hid (fun q hq=>by rw[Wq7];exact zy hz4 q hq)
          have HZ1:=hid hz1
          have HPL:Hid (P<w2.heap.size):=hid (lt_of_some hz4)
          have HUB:Hid (∀ i,i<us.length->∀ k,(us.getD i dU).ownBlock=some k->B<=k/\k<G):=hid (fun i hi k hk=>by
            have:=zJ (HU.out.own i (by rw[HLL.out,<-HM.out];exact hi)) k hk
            rw[HG.out] at this
            exact this)
          have HGP:Hid (G<=P):=hid (by rw[<-HPP.out];exact HK.out.le)
          have HG0:Hid (Gw B n us ls w2 w2):=hid ⟨HU2.out,Below.refl _ _,fun _ _ _=>rfl⟩
          have HBW:=hid hbw
          have HG2:=hid hG2
          clear hz1 hz2 hz3 hz4 hb1 hb12 hbw hG2
          go_wp2_with fail
          go_loopg [9,8] i (fun g iv nv wr=>∃ q s:Nat,iv=.int .i64 q/\nv=.int .i64 s/\g=i-q/\q<=i/\Hid (Gw B n us ls w2 wr)/\Hid (s=(n+64)*q))
          case atStart=>exact⟨0,0,rfl,rfl,rfl,by omega,HG0.out,hid (by simp)⟩
          case round =>
            obtain⟨q,s,rfl,rfl,hg3,hq,HGW,HSQ⟩:=hrel
            by_cases hlt3:q<i
            · have hltq:(q:Int)<i:=by omega
              obtain⟨b,of,ha,hbb,hr⟩:=HP2.out.at_ (by rw[HM.out];omega)
              obtain rfl:=HZS.out b of ha
              subst ha
              have hql:q<us.length:=by rw[HM.out];exact hlt3
              have hri:=hr q hql 0 _ rfl
              obtain⟨u,HUQ⟩:=nm_ (us.getD q dU)
              rw[HUQ.out] at hri
              have hcm:i<=cap:=HCAP.out
              have hbd:Below wr.heap.size wr wr.drew:=zk (Below.refl _ _) 1
              have hql2:q<ls.length:=by rw[HLL.out];exact hlt3
              have hGd:Gw B n us ls w2 wr.drew:=⟨HGW.out.vs.kt (q8 hbd),HGW.out.bl.trans (hbd.mono (Wqx (by have:=HG2.out;have:=HBW.out.size;omega) HGW.out.bl.size)),fun k hk h=>(hbd.block _ (Wqj hk HGW.out.bl.size)).trans (HGW.out.fr k hk h)⟩
              have hou:=hGd.vs.own q hql2
              rw[HUQ.out] at hou
              have hln:=hGd.vs.ln q hql2
              have hpad:Id.At wr.drew P 0 zs:=fun e he=>by
                rw[World.cell?_of_block (a:=⟨P,0+e,none⟩) (hGd.fr P HPL.out (fun j hj e2=>by have:=(HUB.out j hj P e2).2;have:=HGP.out;omega))]
                exact HPA.out e he
              have hwB:B<=wr.drew.heap.size:=Wqx (by have:=HG2.out;have:=HBW.out.size;omega) hGd.bl.size
              obtain⟨ga,gc,w4,hrun,hkeep,hgr⟩:=zuy hou hln hn0 hn hwB P hpad HZ1.out
              have hG4:Gw B n us ls w2 w4:=by
                refine⟨⟨hGd.vs.len,fun j hj=>?_,hGd.vs.ln,hGd.vs.isb⟩,hGd.bl.grown hgr hwB (fun k hk=>(zJ hou k hk).1),fun k hk h=>?_⟩
                · by_cases e:j=q
                  · subst e;rw[HUQ.out];exact hkeep
                  · refine(hGd.vs.own j hj).kept hgr ?_
                    cases hb:u.ownBlock with
                    | none=>cases hc:(us.getD j dU).ownBlock <;> simp
                    | some k=>exact .inr (fun e2=>HD.out j q k (by rw[HM.out,<-HLL.out];exact hj) hql e e2 (by rw[HUQ.out];exact hb))
                · refine(hgr.block k (Wqj hk hGd.bl.size) (fun e=>h q hql (by rw[HUQ.out];exact e.symm))).trans (hGd.fr k hk h)
              obtain⟨C,hC⟩:∃ C,w2.heap[b]? = some (.cells C 22 (0,0)):=by
                obtain⟨C,hC⟩:=jx HVX.out.own (b:=b) rfl
                exact⟨C,(HBW.out.block b (lt_of_some hC)).trans hC⟩
              have hnb:∀ j,j<us.length->(us.getD j dU).ownBlock ≠ some b:=fun j hj e=>by
                obtain⟨C',hC'⟩:=jx (HU2.out.own j (by rw[HLL.out,<-HM.out];exact hj)) e
                rw[hC] at hC'
                injection hC' with hC'
                injection hC' with e1 e2 e3
                exact absurd e2 (by decide)
              have hSq:∀ W,Gw B n us ls w2 W->S17 b q u W:=fun W hW=>⟨by
                rw[World.cell?_of_block (a:=⟨b,q,none⟩) (hW.fr b hbb hnb)]
                simpa using hri⟩
              have hS:=hSq _ hGd
              have hS4:=hSq _ hG4
              have HG4:=hid hG4
              have HRUN:=hid hrun
              clear hbd hGd hou hln hpad hwB hkeep hgr hrun hG4 hC hnb hri hr hSq hql hql2
              go_wp2_with fail
              refine Dl.region_U (S17 b q u) 6 (by kernel_rfl) ?_
              generalize wr.drew=v0 at hS HRUN ⊢
              iterate 1 (refine zK 0 hS ?_;try simp only[Act.put,sL])
              iterate 1 (refine zK 1 hS ?_;try simp only[Act.put,sL])
              iterate 1 (refine zK 2 hS ?_;try simp only[Act.put,sL])
              iterate 1 (refine zK 3 hS ?_;try simp only[Act.put,sL])
              iterate 1 (refine zK 4 hS ?_;try simp only[Act.put,sL])
              refine Dl.readyU1 (i:=5) (by kernel_rfl) ?_
              refine Dl.consU rfl (fun KK hKK=>?_)
              refine Dl.step_exec (by rfl) (.slice ga (n+64) gc) (w':=w4) (yy (.tmp 48) (.tmp 49) 22 (by rfl) (by rfl) (by rfl) HRUN.out) ?_
              refine hKK.out _ _ (.inr hS4) ?_
              clear hKK KK
              try simp only[Act.put,sL]
              refine Dl.readyU1 (i:=6) (by kernel_rfl) ?_
              refine Dl.consU rfl (fun KK hKK=>?_)
              refine Dl.step_exec (by rfl) (.slice ga (n+64) gc) (w':=w4) (by go_simp;first | done | rfl) ?_
              refine hKK.out _ _ (.inl rfl) ?_
              clear hKK KK
              try simp only[Act.put,sL]
              refine Dl.doneU (by kernel_rfl) ?_ _
              have hsb:s<=2006400:=by
                rw[HSQ.out]
                exact Wqx (Wyw (show n+64<=20064 by omega) (show q<=100 by omega)) (by decide)
              clear hS hS4
              go_wp2_with fail
              go_roundg (i-(q+1))
              case measure=>omega
              case rel=>exact⟨q+1,s+(n+64),by go_num,by go_num,rfl,by omega,HG4.out,hid (by rw[HSQ.out,Nat.mul_succ])⟩
            · have hltq:¬ (q:Int)<i:=by omega
              obtain rfl:q=i:=by omega
              have hsge:64*q<=s:=by rw[HSQ.out];exact Nat.mul_le_mul_right _ (by omega)
              have hsgI:(64:Int)*q<=s:=by omega
              obtain⟨w5,HW5⟩:=nm_ wr
              rw[HW5.out] at HGW
              rw[HW5.out]
              have hsb:s<=2006400:=by
                rw[HSQ.out]
                exact Wqx (Wyw (show n+64<=20064 by omega) (show q<=100 by omega)) (by decide)
              have hkv3:=HKV.out
              subst hkv3
              have HFIN:Hid (Below B w w5/\∀ k,k<w.heap.size->(∀ i,i<us.length->(us.getD i dU).ownBlock ≠ some k)->w5.heap[k]? = w.heap[k]?):=hid ⟨(HBW.out.mono hB).trans HGW.out.bl,fun k hk h=>(HGW.out.fr k (Wqj hk HBW.out.size) h).trans (HBW.out.block k hk)⟩
              have HKX:=hid (Bx.px (d:=dU) HK2.out (fun x _=>rfl))
              go_wp2_with fail
              go_loopg [12,11] q (fun g iv tv wr=>∃ r:Nat,iv=.int .i64 r/\tv=.bool true/\g=q-r/\r<=q/\Hid (Below w5.heap.size w5 wr))
              case atStart=>exact⟨0,rfl,rfl,rfl,by omega,Below.refl _ _⟩
              case round =>
                obtain⟨r,rfl,rfl,hg4,hr4,HB5⟩:=hrel
                by_cases hlt4:r<q
                · have hltr:(r:Int)<q:=by omega
                  obtain⟨b,of,ha,hbb,hr⟩:=HP2.out.at_ (by rw[HM.out];omega)
                  obtain rfl:=HZS.out b of ha
                  subst ha
                  have hql:r<us.length:=by rw[HM.out];exact hlt4
                  have hql2:r<ls.length:=by rw[HLL.out];exact hlt4
                  have hri:=hr r hql 0 _ rfl
                  obtain⟨a8,cap8,e8,hP8,hab8,haz8⟩:=HKX.out
                  injection e8 with e81 e82 e83
                  subst e81
                  obtain⟨b2,of2,ha2,hbb2,hr2⟩:=hP8.at_ (by rw[HKL.out];omega)
                  have hb2G:=(hab8 _ ha2).1
                  rcases haz8 with h0 | ⟨b2',h0⟩
                  · rw[h0] at ha2;cases ha2
                  rw[h0] at ha2
                  cases ha2
                  subst h0
                  have hri2:=hr2 r (by rw[HKL.out];exact hlt4) 0 _ rfl
                  obtain⟨l,HLI⟩:=nm_ (ls.getD r [])
                  have hou:=HGW.out.vs.own r hql2
                  have hln:=HGW.out.vs.ln r hql2
                  have hib:=HGW.out.vs.isb r hql2
                  have hok:=HV2.out.own r hql2
                  rw[HLI.out] at hou hln hib hok
                  obtain⟨x1,p1,p2,p3⟩:=P1 (by rw[hln];exact hou) hln hn0 hib
                  obtain⟨x2,s1,s2,s3⟩:=P1 (by rw[hln];exact hok) hln hn0 hib
                  have hx2G:G<=x2.b:=(zJ hok x2.b (by rw[s1];rfl)).1
                  have hnG:∀ k,G<=k->∀ j,j<us.length->(us.getD j dU).ownBlock ≠ some k:=fun k hk j hj e=>by
                    have:=(HUB.out j hj k e).2
                    omega
                  obtain⟨C,hC⟩:∃ C,w2.heap[b]? = some (.cells C 22 (0,0)):=by
                    obtain⟨C,hC⟩:=jx HVX.out.own (b:=b) rfl
                    exact⟨C,(HBW.out.block b (lt_of_some hC)).trans hC⟩
                  have hnb:∀ j,j<us.length->(us.getD j dU).ownBlock ≠ some b:=fun j hj e=>by
                    obtain⟨C',hC'⟩:=jx (HU2.out.own j (by rw[HLL.out,<-HM.out];exact hj)) e
                    rw[hC] at hC'
                    injection hC' with hC'
                    injection hC' with e1 e2 e3
                    exact absurd e2 (by decide)
                  have hbd:Below wr.heap.size wr wr.drew:=zk (Below.refl _ _) 1
                  have HB6:=hid (HB5.out.trans (hbd.mono HB5.out.size))
                  have hz5:=HGW.out.bl.size
                  have hc1:wr.drew.cell? ⟨b,r,none⟩=some (slO x1):=by
                    rw[World.cell?_of_block (a:=⟨b,r,none⟩) ((HB6.out.block b (Wqj hbb hz5)).trans (HGW.out.fr b hbb hnb)),<-p1]
                    simpa using hri
                  have hc2:wr.drew.cell? ⟨b2,r,none⟩=some (slO x2):=by
                    rw[World.cell?_of_block (a:=⟨b2,r,none⟩) ((HB6.out.block b2 (Wqj hbb2 hz5)).trans (HGW.out.fr b2 hbb2 (hnG b2 hb2G))),<-s1]
                    simpa using hri2
                  have hA1:Id.At wr.drew x1.b x1.o l:=fun e he=>by
                    rw[World.cell?_of_block (a:=⟨x1.b,x1.o+e,none⟩) (HB6.out.block x1.b p3.lt)]
                    have:=p3.at_ e (by rw[p2];exact he)
                    rw[p2] at this
                    exact this
                  have hA2:Id.At wr.drew x2.b x2.o l:=fun e he=>by
                    rw[World.cell?_of_block (a:=⟨x2.b,x2.o+e,none⟩) ((HB6.out.block x2.b (Wqj s3.lt hz5)).trans (HGW.out.fr x2.b s3.lt (hnG x2.b hx2G)))]
                    have:=s3.at_ e (by rw[s2];exact he)
                    rw[s2] at this
                    exact this
                  have C4:=hid (Uy x1.b x1.o x1.c x2.b x2.o x2.c n l l wr.drew hln hln (by omega) hA1 hA2)
                  have hw1:slO x1=.slice (some ⟨x1.b,x1.o,none⟩) n x1.c:=by unfold slO;rw[p2,hln]
                  have hw2:slO x2=.slice (some ⟨x2.b,x2.o,none⟩) n x2.c:=by unfold slO;rw[s2,hln]
                  rw[hw1] at hc1
                  rw[hw2] at hc2
                  have hS:S23 b r b2 (.slice (some ⟨x1.b,x1.o,none⟩) n x1.c) (.slice (some ⟨x2.b,x2.o,none⟩) n x2.c) wr.drew:=⟨hc1,hc2⟩
                  have hcm:q<=cap:=HCAP.out
                  have hb5:b<wr.drew.heap.size/\b2<wr.drew.heap.size:=⟨Wqj (Wqj hbb hz5) HB6.out.size,Wqj (Wqj hbb2 hz5) HB6.out.size⟩
                  have HBS:=hid hb5
                  have hcm2:q<=kcap:=by
                    have:=hP8.capl
                    rw[HKL.out] at this
                    omega
                  clear e82 e83 hri hri2 hr hr2 hou hln hib hok p1 p2 p3 s1 s2 s3 hx2G hnG hC hnb hbd hz5 hc1 hc2 hA1 hA2 hw1 hw2 hb5 hP8 hab8 hb2G hql hql2 hbb hbb2
                  go_wp2_with fail
                  refine wp_region_held_drew (S:=S23 b r b2 (.slice (some ⟨x1.b,x1.o,none⟩) n x1.c) (.slice (some ⟨x2.b,x2.o,none⟩) n x2.c)) (by kernel_rfl) hS (fun hHeld=>?_)
                  clear hS
                  generalize wr.drew=u0 at hHeld HB6 C4 HBS ⊢
                  iterate 8 (refine qk hHeld ?_;try simp only[Act.put,sL])
                  refine wpAnyH_ready (rs:=[8]) (by kernel_rfl) (by simp) ?_
                  refine Dl.consL rfl (fun KK hKK=>?_) AllReadyH.nil
                  refine yz (by rfl) 4 [.tmp 69,.tmp 73] _ [.slice (some ⟨x1.b,x1.o,none⟩) n x1.c,.slice (some ⟨x2.b,x2.o,none⟩) n x2.c] _ rfl rfl (fun w=>by kernel_rfl) C4.out ?_
                  rintro e wh1 ⟨rfl,hbh1⟩
                  refine⟨_,rfl,?_⟩
                  have HB7:=hid (HB6.out.trans (hbh1.mono HB6.out.size))
                  refine hKK.out _ _ ⟨(hbh1.cell (p:=⟨b,r,none⟩) HBS.out.1).trans hHeld.c,(hbh1.cell (p:=⟨b2,r,none⟩) HBS.out.2).trans hHeld.c2⟩ (fun h1=>?_)
                  clear hKK KK hbh1
                  try simp only[Act.put,sL]
                  refine qk h1 ?_
                  try simp only[Act.put,sL]
                  refine wpAnyH_done (by kernel_rfl) ?_ _
                  clear h1 hHeld C4
                  try simp only[decide_true]
                  go_wp2_with fail
                  go_roundg (q-(r+1))
                  case measure=>omega
                  case rel=>exact⟨r+1,by go_num,rfl,rfl,by omega,HB7.out⟩
                · have hltr:¬ (r:Int)<q:=by omega
                  go_wp2_with fail
                  go_ret
                  have hz5:=HGW.out.bl.size
                  exact⟨rfl,HFIN.out.1.trans (HB5.out.mono (Wqx hB (Wqx HBW.out.size HGW.out.bl.size))),fun k hk h=>(HB5.out.block k (Wqj (Wqj hk HBW.out.size) hz5)).trans (HFIN.out.2 k hk h)⟩
structure S11 (b i b2 i2 K:Nat) (u v:Value) (W:World):Prop where
 c:W.cell? ⟨b,i,none⟩=some (.int .i64 K)
 c1:W.cell? ⟨b,i+1,none⟩=some u
 d:W.cell? ⟨b2,i2,none⟩=some (.int .i64 K)
 d1:W.cell? ⟨b2,i2+1,none⟩=some v
def zuu (B:Nat) (us:List Value) (w:World) (e:Ending) (w':World):Prop:=e=.returned (.bool true)/\Below B w w'/\∀ k,k<w.heap.size->(∀ i,i<us.length->(us.getD i dU).ownBlock ≠ some k)->w'.heap[k]? = w.heap[k]?
theorem S11.below {b i b2 i2 K:Nat} {u v:Value} {W W':World} (h:S11 b i b2 i2 K u v W) (hb:Below W.heap.size W W') (h1:b<W.heap.size) (h2:b2<W.heap.size):S11 b i b2 i2 K u v W' :=
 ⟨(hb.cell (p:=⟨b,i,none⟩) h1).trans h.c,(hb.cell (p:=⟨b,i+1,none⟩) h1).trans h.c1,(hb.cell (p:=⟨b2,i2,none⟩) h2).trans h.d,(hb.cell (p:=⟨b2,i2+1,none⟩) h2).trans h.d1⟩
theorem Gz (K B n m:Nat) (hn0:0<n) (hn:n<=20000) (hml:m<=100) (v:Value) (us:List Value) (os:List Oj) (hm:os.length=m) (qa:Option Addr) (qcap:Nat) (w0 w:World) (hB:B<=w.heap.size) (hv:Bx (P4 K) 2 27 w0 w B v us) (hu:Vs w B n us (os.map (·.zs))) (hd:∀ i j b,i<us.length->j<us.length->i ≠ j->(us.getD i dU).ownBlock=some b->(us.getD j dU).ownBlock ≠ some b) (hq:Po K w qa qcap os) (ho:∀ x ∈ os,Om n w x) :
  Calls prog 11 #[v,.slice qa m qcap] w (zuu B us w):=by
 have HUL:Hid (us.length=m):=hid (by rw[hu.len,Wxx,hm]);have HM:=hid hm;obtain⟨a,cap,hva,hP,hab,haz⟩:=Bx.px (d:=dU) hv (fun x _=>rfl);rw[HUL.out] at hva;obtain⟨G,HG⟩:=nm_ w.heap.size;have HGZ:Hid (∀ W,Below G w W->G<=W.heap.size):=hid (fun W h=>by rw[<-HG.out];exact h.size);have HU:=hid hu;have HP:=hid hP;have HQ:=hid hq;have HO:=hid ho;have HVX:=hid hv
 have HD:=hid hd;have HBB:=hid hB;have HC1:Hid (m<=cap):=hid (by have:=hP.capl;rw[HUL.out] at this;exact this);have HC2:Hid (m<=qcap):=hid (by have:=hq.capl;rw[hm] at this;exact this);subst hva;clear hv hu hd hm hP hab haz hq ho hB;go_enter func11,ntmps11;go_wp2_with fail
 go_loopg [5] m (fun g iv wr=>∃ i:Nat,iv=.int .i64 i/\g=m-i/\i<=m/\Hid (Below G w wr));case atStart=>exact⟨0,rfl,rfl,by omega,Below.refl _ _⟩
 obtain⟨i,rfl,hg,him,HB⟩:=hrel;by_cases hlt:i<m
 ·have hltI:(i:Int)<m:=by omega
  have hbw:Below w.heap.size w wr:=by rw[HG.out];exact HB.out
  obtain⟨b,of,ha,hbb,hr⟩:=(HP.out.below hbw).at_ (by rw[HUL.out];omega);obtain⟨b2,of2,ha2,hbb2,hr2⟩:=(HQ.out.below hbw).at_ (by rw[HM.out];omega);subst ha;subst ha2;obtain⟨o,HOi⟩:=nm_ (os.getD i dO);obtain⟨ob,oo,oc,l⟩:=o;have hol:Om n wr ⟨ob,oo,oc,l⟩:=by
   have:=(HO.out _ (zV os i dO (by rw[HM.out];exact hlt))).below hbw;rwa [HOi.out] at this
  have hln:l.length=n:=hol.len;have hmz:(os.map (·.zs)).getD i []=l:=by
   rw[List.getD_eq_getElem?_getD,List.getElem?_map,List.getElem?_eq_getElem (by rw[HM.out];exact hlt)];have:=HOi.out;rw[List.getD_eq_getElem?_getD,List.getElem?_eq_getElem (by rw[HM.out];exact hlt)] at this;simp only[Option.getD_some] at this;simp[this]
  have hou:=vj (HU.out.own i (by rw[Wxx,HM.out];exact hlt)) (q8 (t:=5) hbw);rw[hmz] at hou;obtain⟨u,HUU⟩:=nm_ (us.getD i dU);rw[HUU.out] at hou;obtain⟨ua,uc,huv,hSu⟩:=xW (⟨Below.refl _ _,qV (by rw[hln];exact hou) (Wu0 _),Wu0 _⟩:Bd wr wr 0 _ l);rw[hln] at huv;obtain⟨b3,o3,ha3,hb3,hat3⟩:=hSu.at_ (by omega);subst ha3
  have h1:=hr i (by rw[HUL.out];exact hlt);have h2:=hr2 i (by rw[HM.out];exact hlt);rw[HUU.out,huv] at h1;have hsl:slO ⟨ob,oo,oc,l⟩=.slice (some ⟨ob,oo,none⟩) n oc:=by unfold slO;rw[hln]
  rw[HOi.out] at h2;unfold yQ at h2;rw[hsl] at h2;have hS:S11 b (of+i*2) b2 (of2+i*2) K (.slice (some ⟨b3,o3,none⟩) n uc) (.slice (some ⟨ob,oo,none⟩) n oc) wr.drew:=⟨h1 0 _ rfl,h1 1 _ rfl,h2 0 _ rfl,h2 1 _ rfl⟩;have C4:=hid (Uy b3 o3 uc ob oo oc n l l wr.drew hln hln (by omega) hat3 hol.at_);have hbd:Below wr.heap.size wr wr.drew:=zk (Below.refl _ _) 1
  have HB1:=hid (HB.out.trans (hbd.mono (HGZ.out _ HB.out)));have hbs:b<wr.drew.heap.size/\b2<wr.drew.heap.size:=⟨Wqj hbb hbd.size,Wqj hbb2 hbd.size⟩;have HBS:=hid hbs;have hc1:m<=cap:=HC1.out;have hc2:m<=qcap:=HC2.out;clear h1 h2 hsl huv hSu hou hmz hln hol hr hr2 hbb hbb2 hbw hat3 hb3 hbd hbs;go_wp2_with fail
  refine wp_region_held_drew (S:=S11 b (of+i*2) b2 (of2+i*2) K (.slice (some ⟨b3,o3,none⟩) n uc) (.slice (some ⟨ob,oo,none⟩) n oc)) (by kernel_rfl) hS (fun hHeld=>?_);clear hS;generalize wr.drew=u0 at hHeld HB1 C4 HBS ⊢;iterate 10 (refine qk hHeld ?_;try simp only[Act.put,sL])
  refine wpAnyH_ready (rs:=[10]) (by kernel_rfl) (by simp) ?_;refine Dl.consL rfl (fun KK hKK=>?_) AllReadyH.nil;refine yz (by rfl) 4 [.tmp 24,.tmp 29] _ [.slice (some ⟨b3,o3,none⟩) n uc,.slice (some ⟨ob,oo,none⟩) n oc] _ rfl rfl (fun w=>by kernel_rfl) C4.out ?_;rintro e wh1 ⟨rfl,hbh1⟩;refine⟨_,rfl,?_⟩;have HB2:=hid (HB1.out.trans (hbh1.mono (HGZ.out _ HB1.out)))
  have hS2:=hHeld.below hbh1 HBS.out.1 HBS.out.2;have HBS2:Hid (b<wh1.heap.size/\b2<wh1.heap.size):=hid ⟨Wqj HBS.out.1 hbh1.size,Wqj HBS.out.2 hbh1.size⟩;refine hKK.out _ _ hS2 (fun h1=>?_);clear hKK KK hbh1;try simp only[Act.put,sL]
  refine qk h1 ?_;try simp only[Act.put,sL]
  refine wpAnyH_done (by kernel_rfl) ?_ _;clear h1 hHeld C4;try simp only[decide_true]
  have hbd3:Below wh1.heap.size wh1 wh1.drew:=zk (Below.refl _ _) 1;have HB3:=hid (HB2.out.trans (hbd3.mono (HGZ.out _ HB2.out)));have hS3:=hS2.below hbd3 HBS2.out.1 HBS2.out.2;clear hS2 hbd3;go_wp2_with fail
  refine wp_region_held_drew (S:=S11 b (of+i*2) b2 (of2+i*2) K (.slice (some ⟨b3,o3,none⟩) n uc) (.slice (some ⟨ob,oo,none⟩) n oc)) (by kernel_rfl) hS3 (fun hHeld=>?_);clear hS3;generalize wh1.drew=u1 at hHeld HB3 ⊢;iterate 15 (refine qk hHeld ?_;try simp only[Act.put,sL])
  refine wpAnyH_done (by kernel_rfl) ?_ _;clear hHeld;go_wp2_with fail
  go_roundg (m-(i+1));case measure=>omega
  case rel=>exact⟨i+1,by go_num,rfl,by omega,HB3.out⟩
 have hltI:¬ (i:Int)<m:=by omega
 obtain rfl:i=m:=by omega
 have HV0:Hid (Vs wr B n us (os.map (·.zs))):=hid (HU.out.kt (q8 (by rw[HG.out];exact HB.out)));have hbw:Below w.heap.size w wr:=by rw[HG.out];exact HB.out
 have HP1:=hid (HP.out.below hbw);obtain⟨w1,HW1⟩:=nm_ wr;obtain⟨G1,HG1⟩:=nm_ wr.heap.size;rw[HW1.out] at HB HV0 HP1 hbw HG1;have HN0:Hid (Bx Uu 1 22 w1 w1 G1 (.slice none 0 0) []):=hid (by have:=LV (enc:=Uu) (k:=1) 22 w1 G1 (WyQ HG1.out.symm);exact this);have HGG:Hid (G<=G1):=hid (by rw[<-HG.out,<-HG1.out];exact hbw.size);clear hbw HVX HQ;rw[HW1.out]
 go_wp2_with fail
 go_loopg [8,7] i (fun g iv kv wr=>∃ j:Nat,iv=.int .i64 j/\g=i-j/\j<=i/\Hid (Bx Uu 1 22 w1 wr G1 kv (us.take j)));case atStart=>exact⟨0,rfl,rfl,by omega,hid (by simpa using HN0.out)⟩
 case round =>
 obtain⟨j,rfl,hg2,hji,HK⟩:=hrel;by_cases hlt2:j<i
 ·have hltj:(j:Int)<i:=by omega
  have hbw:Below w1.heap.size w1 wr:=by rw[HG1.out];exact HK.out.below
  obtain⟨b,of,ha,hbb,hr⟩:=(HP1.out.below hbw).at_ (by rw[HUL.out];omega);subst ha;have h1:=hr j (by rw[HUL.out];exact hlt2);have hou:=HV0.out.own j (by rw[Wxx,HM.out];exact hlt2);have hfl:=HV0.out.ln j (by rw[Wxx,HM.out];exact hlt2);obtain⟨u,HUU⟩:=nm_ (us.getD j dU);rw[HUU.out] at hou h1
  obtain⟨ua,uc,huv,-⟩:=xW (⟨Below.refl _ _,qV (by rw[hfl];exact hou) (Wu0 _),Wu0 _⟩:Bd w1 w1 0 _ ((os.map (·.zs)).getD j []));rw[hfl] at huv;subst huv;have kc:=h1 1 _ rfl;obtain⟨w3,HW3⟩:=nm_ (wr.alloc (.cells #[.slice ua n uc] 22));obtain⟨gs,HGS⟩:=nm_ wr.heap.size;have hr73:=qy0 ua n uc wr;rw[HGS.out,HW3.out] at hr73
  have hb3:Below wr.heap.size wr w3:=by rw[<-HW3.out];exact(Below.refl _ wr).alloc (WzV _) _
  have HK3:=hid (HK.out.carry hb3);have hrs:w3.rangeAt gs 0 (Uu (.slice ua n uc)):=by rw[<-HW3.out,<-HGS.out];exact zx (heap_alloc_new _ _)
  obtain⟨kv',w4,hrun,hk4,hg4,hm4⟩:=HK3.out.app1 gs (.slice ua n uc) hrs rfl (by decide) (fun v hv=>by simp only[Uu,WqJ] at hv;subst hv;rfl) (by rw[Wzz];omega) 73 underlying73 zuw rfl (by decide) 73;have HK4:Hid (Bx Uu 1 22 w1 w4 G1 kv' (us.take (j+1))):=hid (by
   rw[yY dU us j (by rw[HUL.out];exact hlt2),HUU.out];exact hk4)
  have HRUN:=hid hrun;have hc1:i<=cap:=HC1.out;clear hbw hbb hr h1 hou hfl hb3 hrs hrun hk4 hg4 hm4;go_wp2_with (first
   | (refine qw rfl _ (xw 73 1 (.tmp 57) (by rfl) (.slice ua n uc) (.slice (some ⟨gs,0,none⟩) 1 1) (by rfl) hr73) ?_)
   | (refine qw rfl kv' (yy (.tmp 52) (.tmp 58) 73 (by rfl) (by rfl) (by rfl) HRUN.out) ?_)
   | fail)
  go_roundg (i-(j+1));case measure=>omega
  case rel=>exact⟨j+1,by go_num,rfl,by omega,HK4.out⟩
 have hltj:¬ (j:Int)<i:=by omega
 obtain rfl:j=i:=by omega
 rename_i kv;have C22:Hid (∀ kv,Bx Uu 1 22 w1 wr G1 kv (us.take j)->Calls prog 22 #[kv] wr fun e w'=>e=.returned (.bool true)/\Below B wr w'/\∀ k,k<wr.heap.size->(∀ i,i<us.length->(us.getD i dU).ownBlock ≠ some k)->w'.heap[k]? = wr.heap[k]?):=hid (fun kv hk=>by
  have htk:us.take j=us:=by rw[<-HUL.out];exact List.take_length
  rw[htk] at hk;have h0:B<=G1:=Wqx HBB.out (by rw[HG.out];exact HGG.out);have hk2:Bx Uu 1 22 w1 wr B kv us:=⟨hk.below.mono h0,qV hk.own h0,Wqx h0 hk.le⟩;exact CK B n hn0 hn kv us (os.map (·.zs)) w1 wr (Wqx h0 hk.le) hk2 (HV0.out.kt (q8 (by rw[HG1.out];exact hk.below))) HD.out (by rw[HUL.out];exact hml))
 have C23:=hid (C22.out _ HK.out);have HFIN:Hid (Below B w wr/\∀ k,k<w.heap.size->wr.heap[k]? = w.heap[k]?):=hid (by
  have h0:B<=G:=by rw[<-HG.out];exact HBB.out
  refine⟨(HB.out.mono h0).trans (HK.out.below.mono (Wqx h0 HGG.out)),fun k hk=>?_⟩;rw[HG.out] at hk;exact(HK.out.below.block k (Wqj hk HGG.out)).trans (HB.out.block k hk))
 have HSZ:Hid (w.heap.size<=wr.heap.size):=hid (by rw[HG.out];exact Wqx HGG.out HK.out.le);clear C22;go_wp2_with fail
 refine C23.out.mono ?_;rintro e wz ⟨rfl,hz1,hz2⟩;have HZ:Hid (zuu B us w (.returned (.bool true)) wz):=hid ⟨rfl,HFIN.out.1.trans hz1,fun k hk h=>(hz2 k (Wqj hk HSZ.out) h).trans (HFIN.out.2 k hk)⟩;clear hz1 hz2 C23;go_wp2_with fail
 go_ret;exact HZ.out
end Go.Proofs.YtiaaekdpfpaigaaGreatDoor.Pk
