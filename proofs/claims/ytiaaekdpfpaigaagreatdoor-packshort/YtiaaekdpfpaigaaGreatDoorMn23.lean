import Derived.Test.YtiaaekdpfpaigaaGreatDoorMn22
set_option linter.unusedSimpArgs false
set_option linter.unusedVariables false
set_option maxRecDepth 20000
set_option maxHeartbeats 4000000
open List renaming map_cons->Wxj,map_nil->Wxk,map_toArray->Wxy,size_toArray->WqW
open Nat renaming add_zero->WzX,le_of_lt->Wxz,le_refl->WzV,lt_of_lt_of_le->Wqj,zero_mul->Wx3
namespace Go.Proofs.YtiaaekdpfpaigaaGreatDoor.Pk
open Go.Proofs.Tryz
open Go.RowKit Go.Maps Go.Proofs.YtiaaekdpfpaigaaGreatDoor.Id Go.Proofs.YtiaaekdpfpaigaaGreatDoor.Px
theorem yz {P:Program} {ops:Array Oper} {o:Oper} {a:Act} {w:World} {K:Act->World->Prop} {Q:Exit->Act->World->Prop} {E:Prop} (hw:Region.wanted o (yielded ops a.tmps)=true) (f:FuncId) (args:List Operand) (ts:Array TypeId) (vs:List Value) (R:Ending->World->Prop)
  (ho:o.op=.call { callee:=.value (.func f),args:=args.toArray,argTypes:=ts }) (hx:args.map a.eval=vs) (hent:∀ w:World,(callFunc f vs.toArray).run P w=.ok (.enter f vs.toArray) w)
  (hc:Calls P f vs.toArray w R) (h:∀ e w',R e w'->∃ r,e=.returned r/\K (a.put o.dst r) w') :
  if Region.wanted o (yielded ops a.tmps)=true then Oper.wp P o a w K Q else E:=by
 rw[if_pos hw];unfold Oper.wp;simp only[execOp,ho,resolve,invoke,go_sem,Wxy,hx,hent];simp[go_sem,hent,Oper.upon_enter];refine hc.mono ?_;intro e w' h';obtain⟨r,rfl,hk⟩:=h e w' h';exact hk
structure Sb (u W:World):Prop where
 b:Below u.heap.size u W
theorem Sb.refl (u:World):Sb u u:=⟨Below.refl _ _⟩
theorem Sb.go {u W W':World} (h:Sb u W) (hb:Below W.heap.size W W'):Sb u W':=⟨h.b.trans (hb.mono h.b.size)⟩
theorem Sb.rg {u W:World} (h:Sb u W) {b o:Nat} {cs:List Value} (hr:u.rangeAt b o cs) (hb:b<u.heap.size):W.rangeAt b o cs:=fun j v hj=>(h.b.cell (p:=⟨b,o+j,none⟩) hb).trans (hr j v hj)
theorem I5 (x y z:Value) (w:World):(callFunc 59 #[x,y,z]).run prog w=.ok (.enter 59 #[x,y,z]) w:=by kernel_rfl
theorem I6 (x y:Value) (w:World):(callFunc 60 #[x,y]).run prog w=.ok (.enter 60 #[x,y]) w:=by kernel_rfl
abbrev Pb (K:Nat) (w:World) (a:Option Addr) (cap:Nat) (bs:List Bs):Prop:=Pw (kz K) 4 dB w a cap bs
structure Bok (n at_:Nat) (y:Bs):Prop where
 len:y.x.zs.length=n
 dp:y.dp<20
 bg:y.bg = -1 ∨ (0<=y.bg/\y.bg<=at_)
def fst (a:Option Addr) (bs:List Bs):Option Addr:=if bs.length=0 then none else a
theorem DJ (K n at_:Nat) (a:Option Addr) (cap:Nat) (bs:List Bs) (x:Oj) (w:World) (hP:Pb K w a cap bs) (hb:∀ y ∈ bs,Bok n at_ y) (hx:x.zs.length=n) (hn:n<=100000) (ha:at_<=300000) (hm:bs.length<=1000) :
  Calls prog 37 #[.slice a bs.length cap,.agg (yQ K x).toArray,.int .i64 at_] w fun e w'=>e=.returned (.pointer (fst a bs))/\Below w.heap.size w w':=by
 obtain⟨G,HG⟩:=nm_ w.heap.size;obtain⟨RO,HRO⟩:=nm_ (yQ K x);obtain⟨m,HM⟩:=nm_ bs.length;obtain⟨w0,HW0⟩:=nm_ (w.alloc (.cells RO.toArray 27));have hb0:Below w.heap.size w w0:=by rw[<-HW0.out];exact(Below.refl _ w).alloc (WzV _) _
 have HR0:Hid (w0.heap[G]? = some (.cells RO.toArray 27 (0,0))):=hid (by rw[<-HW0.out,<-HG.out];exact heap_alloc_new _ _);have HB0:Hid (Below G w w0):=hid (by rw[<-HG.out];exact hb0);have HP:=hid (hP.below hb0);have HBO:=hid hb;have HX:=hid hx;have hm2:m<=1000:=by rw[<-HM.out];exact hm
 have HF:Hid (∀ i,i=0 ∨ i<=m->fst a (bs.take i)=if i=0 then none else a):=hid (fun i hi=>by
  unfold fst;rw[List.length_take];have:=HM.out;by_cases h:i=0
  ·rw[if_pos (by omega),if_pos h]
  rw[if_neg (by omega),if_neg h])
 have HFE:Hid (fst a bs=if m=0 then none else a):=hid (by unfold fst;rw[HM.out]);rw[HRO.out,HM.out];clear hP hb hx hm hb0;go_enter func37,ntmps37;go_wp2_with fail
 rw[HW0.out,HG.out];go_loopg [7,12] m (fun g fv iv wr=>∃ i:Nat,iv=.int .i64 i/\g=m-i/\i<=m/\fv=.pointer (if i=0 then none else a)/\Hid (Sb w0 wr));case atStart=>exact⟨0,rfl,rfl,by omega,rfl,Sb.refl _⟩
 obtain⟨i,rfl,hg,him,rfl,HSB⟩:=hrel;by_cases hlt:i<m;rotate_left
 ·have hltI:¬ (i:Int)<m:=by omega
  have him:i=m:=by omega
  subst him;obtain⟨fv,HFV⟩:=nm_ (if i=0 then none else a);rw[HFV.out];go_wp2_with fail
  go_ret;exact⟨by rw[HFE.out,HFV.out];rfl,by rw[HG.out];exact HB0.out.trans (HSB.out.b.mono (Wxz (lt_of_some HR0.out)))⟩
 have hltI:(i:Int)<m:=by omega
 obtain⟨b,off,ha',hb1,hr⟩:=HP.out.at_ (by rw[HM.out];omega);subst ha';have hri:=hr i (by rw[HM.out];exact hlt);obtain⟨y,HY⟩:=nm_ (bs.getD i dB);rw[HY.out] at hri;have hok:Bok n at_ y:=by rw[<-HY.out];exact HBO.out _ (zV bs i dB (by rw[HM.out];exact hlt))
 have HRI:=hid hri;have HR0':=hid (hr 0 (by rw[HM.out];omega));have hok0:Bok n at_ (bs.getD 0 dB):=HBO.out _ (zV bs 0 dB (by rw[HM.out];omega));have HOK0:=hid hok0;have HOK:=hid hok;have HB1:=hid hb1;have hcap:m<=cap:=by have:=HP.out.capl;rw[HM.out] at this;exact this
 have hi27:(prog.info? 27).map (·.size)=some RO.length:=by rw[<-HRO.out];exact vK
 have hrO:∀ W,Sb w0 W->W.rangeAt G 0 RO:=fun W hW=>hW.rg (zx HR0.out) (lt_of_some HR0.out);have HRG:=hid hrO;clear hr hri hok hb1 hok0 hrO;by_cases h0:i=0
 ·subst h0;simp only[↓reduceIte];have M59:Hid (∀ W,Sb w0 W->Calls prog 59 #[.pointer (some ⟨b,off,none⟩),.agg RO.toArray,.int .i64 at_] W fun e w'=>e=.returned (.bool true)/\Below W.heap.size W w'):=hid (fun W hW=>by
   rw[<-HRO.out];exact J4 K b (off) at_ y x W (hW.rg (by have:=HRI.out;rwa [Wx3,WzX] at this) HB1.out) (Wqj HB1.out hW.b.size) (by rw[HOK.out.len];exact hn) HOK.out.dp ha HOK.out.bg)
  go_wp2_with fail
  refine wp_region_held_drew (S:=Sb w0) (by kernel_rfl) ⟨zk HSB.out.b 1⟩ (fun hHeld=>?_);generalize wr.drew=u0 at hHeld ⊢;refine qk hHeld ?_;try simp only[Act.put,sL]
  refine Dl.takeL (i:=1) (v:=.agg RO.toArray) rfl (by kernel_rfl) (by kernel_rfl) (by kernel_rfl) (fun _ _ _ h=>h) (yieldsIf_load_mid (by rfl) 27 _ rfl G 0 (by rfl) RO _ HRG.out underlying27 rfl hi27) hHeld ?_;try simp only[Act.put,sL]
  refine qk hHeld ?_;try simp only[Act.put,sL]
  refine wpAnyH_ready (rs:=[3]) (by kernel_rfl) (by simp) ?_;refine Dl.consL rfl (fun KK hKK=>?_) AllReadyH.nil;refine yz (by rfl) 59 [.tmp 18,.tmp 19,.tmp 20] _ [.pointer (some ⟨b,off,none⟩),.agg RO.toArray,.int .i64 at_] _ rfl rfl (I5 _ _ _) (M59.out _ hHeld) ?_;rintro e wh1 ⟨rfl,hbh1⟩;refine⟨_,rfl,?_⟩;have h1:=hHeld.go hbh1;refine hKK.out _ _ h1 (fun _=>?_)
  clear hKK KK hbh1;try simp only[Act.put,sL]
  iterate 13 ((first | refine qk h1 ?_ | refine zv7 h1 ?_);try simp only[Act.put,sL])
  refine wpAnyH_done (by kernel_rfl) ?_ _;clear M59;go_wp2_with fail
  go_roundg (m-(0+1));case measure=>omega
  case rel=>exact⟨0+1,by go_num,rfl,by omega,by simp,h1⟩
 simp only[if_neg h0];have M59:Hid (∀ W,Sb w0 W->Calls prog 59 #[.pointer (some ⟨b,off+i*4,none⟩),.agg RO.toArray,.int .i64 at_] W fun e w'=>e=.returned (.bool true)/\Below W.heap.size W w'):=hid (fun W hW=>by
  rw[<-HRO.out];exact J4 K b (off+i*4) at_ y x W (hW.rg HRI.out HB1.out) (Wqj HB1.out hW.b.size) (by rw[HOK.out.len];exact hn) HOK.out.dp ha HOK.out.bg)
 have M60:Hid (∀ W,Sb w0 W->Calls prog 60 #[.pointer (some ⟨b,off+i*4,none⟩),.agg RO.toArray] W fun e w'=>e=.returned (.int .i64 0)/\Below W.heap.size W w'):=hid (fun W hW=>by
  rw[<-HRO.out];exact Tx K b (off+i*4) n y x W (hW.rg HRI.out HB1.out) (Wqj HB1.out hW.b.size) hn HOK.out.len HX.out)
 have M61:Hid (∀ W,Sb w0 W->Calls prog 60 #[.pointer (some ⟨b,off,none⟩),.agg RO.toArray] W fun e w'=>e=.returned (.int .i64 0)/\Below W.heap.size W w'):=hid (fun W hW=>by
  rw[<-HRO.out];exact Tx K b (off) n (bs.getD 0 dB) x W (hW.rg (by have:=HR0'.out;rwa [Wx3,WzX] at this) HB1.out) (Wqj HB1.out hW.b.size) hn HOK0.out.len HX.out)
 go_wp2_with fail
 refine wp_region_held_drew (S:=Sb w0) (by kernel_rfl) ⟨zk HSB.out.b 1⟩ (fun hHeld=>?_);generalize wr.drew=u0 at hHeld ⊢;refine qk hHeld ?_;try simp only[Act.put,sL]
 refine Dl.takeL (i:=1) (v:=.agg RO.toArray) rfl (by kernel_rfl) (by kernel_rfl) (by kernel_rfl) (fun _ _ _ h=>h) (yieldsIf_load_mid (by rfl) 27 _ rfl G 0 (by rfl) RO _ HRG.out underlying27 rfl hi27) hHeld ?_;try simp only[Act.put,sL]
 refine qk hHeld ?_;try simp only[Act.put,sL]
 refine wpAnyH_ready (rs:=[3]) (by kernel_rfl) (by simp) ?_;refine Dl.consL rfl (fun KK hKK=>?_) AllReadyH.nil;refine yz (by rfl) 59 [.tmp 18,.tmp 19,.tmp 20] _ [.pointer (some ⟨b,off+i*4,none⟩),.agg RO.toArray,.int .i64 at_] _ rfl rfl (I5 _ _ _) (M59.out _ hHeld) ?_;rintro e wh1 ⟨rfl,hbh1⟩;refine⟨_,rfl,?_⟩;have h1:=hHeld.go hbh1;refine hKK.out _ _ h1 (fun _=>?_)
 clear hKK KK hbh1;try simp only[Act.put,sL]
 iterate 5 (refine qk h1 ?_;try simp only[Act.put,sL])
 refine Dl.takeL (i:=9) (v:=.agg RO.toArray) rfl (by kernel_rfl) (by kernel_rfl) (by kernel_rfl) (fun _ _ _ h=>h) (yieldsIf_load_mid (by rfl) 27 _ rfl G 0 (by rfl) RO _ HRG.out underlying27 rfl hi27) h1 ?_;try simp only[Act.put,sL]
 refine Dl.takeL (i:=11) (v:=.pointer (some ⟨b,off,none⟩)) rfl (by kernel_rfl) (by kernel_rfl) (by kernel_rfl) (fun _ _ _ h=>h) (Or.inl ⟨by rfl,fun w' _=>by go_simp⟩) h1 ?_;try simp only[Act.put,sL]
 refine Dl.takeL (i:=12) (v:=.agg RO.toArray) rfl (by kernel_rfl) (by kernel_rfl) (by kernel_rfl) (fun _ _ _ h=>h) (yieldsIf_load_mid (by rfl) 27 _ rfl G 0 (by rfl) RO _ HRG.out underlying27 rfl hi27) h1 ?_;try simp only[Act.put,sL]
 refine wpAnyH_ready (rs:=[10]) (by kernel_rfl) (by simp) ?_;refine Dl.consL rfl (fun KK hKK=>?_) AllReadyH.nil;refine yz (by rfl) 60 [.tmp 26,.tmp 27] _ [.pointer (some ⟨b,off+i*4,none⟩),.agg RO.toArray] _ rfl rfl (I6 _ _) (M60.out _ h1) ?_;rintro e wh2 ⟨rfl,hbh2⟩;refine⟨_,rfl,?_⟩;have h2:=h1.go hbh2;refine hKK.out _ _ h2 (fun _=>?_);clear hKK KK hbh2
 try simp only[Act.put,sL]
 refine wpAnyH_ready (rs:=[13]) (by kernel_rfl) (by simp) ?_;refine Dl.consL rfl (fun KK hKK=>?_) AllReadyH.nil;refine yz (by rfl) 60 [.tmp 29,.tmp 30] _ [.pointer (some ⟨b,off,none⟩),.agg RO.toArray] _ rfl rfl (I6 _ _) (M61.out _ h2) ?_;rintro e wh3 ⟨rfl,hbh3⟩;refine⟨_,rfl,?_⟩;have h3:=h2.go hbh3;refine hKK.out _ _ h3 (fun _=>?_);clear hKK KK hbh3
 try simp only[Act.put,sL]
 iterate 3 (refine qk h3 ?_;try simp only[Act.put,sL])
 refine wpAnyH_done (by kernel_rfl) ?_ _;clear M59 M60 M61;go_wp2_with fail
 go_roundg (m-(i+1));case measure=>omega
 case rel=>exact⟨i+1,by go_num,rfl,by omega,by rw[if_neg (by omega)],h3⟩
theorem Z6 (l:List Int) (h:l.length=20):∃ a0 a1 a2 a3 a4 a5 a6 a7 a8 a9 a10 a11 a12 a13 a14 a15 a16 a17 a18 a19,l=[a0,a1,a2,a3,a4,a5,a6,a7,a8,a9,a10,a11,a12,a13,a14,a15,a16,a17,a18,a19]:=by
 match l,h with
 | [a0,a1,a2,a3,a4,a5,a6,a7,a8,a9,a10,a11,a12,a13,a14,a15,a16,a17,a18,a19],_=>exact⟨a0,a1,a2,a3,a4,a5,a6,a7,a8,a9,a10,a11,a12,a13,a14,a15,a16,a17,a18,a19,rfl⟩
theorem vV {P:Program} {ops:Array Oper} {rest:List Oper} {o:Oper} {a:Act} {w:World} {Q:Exit->Act->World->Prop} (hg:o.guard=none) (t:TypeId) (parts:Array (Nat × Operand)) (ho:o.op=.build t parts) (R:Array Value)
  (hf:P.built t (parts.map fun (i,x)=>(i,a.eval x)).toList=some R) (h:wpList P ops Q rest (a.put o.dst (.agg R)) w):wpList P ops Q (o :: rest) a w :=
 wpList_build hg t parts ho (by rw[hf];rfl) (by rw[hf];exact h)
theorem zzx (d:Int):prog.built 70 [(0,.int .i64 6),(2,.int .i64 d)]=some (.int .i64 6 :: .int .i64 0 :: .int .i64 d :: row .u8 z20).toArray:=by kernel_rfl
theorem zzj (x:List Int) (h:x.length=20):prog.built 70 [(0,.int .i64 7),(3,.agg (row .u8 x).toArray)]=some (.int .i64 7 :: .int .i64 0 :: .int .i64 0 :: row .u8 x).toArray:=by
 obtain⟨a0,a1,a2,a3,a4,a5,a6,a7,a8,a9,a10,a11,a12,a13,a14,a15,a16,a17,a18,a19,rfl⟩:=Z6 x h;kernel_rfl
theorem results38:f38.results=#[.cell 4 70]:=by kernel_rfl
theorem Sz (k:Int) (zs:List Int):IsB (idZ k zs):=by
 intro n hn;unfold idZ at hn;split at hn
 ·unfold sha xV at hn;obtain⟨i,_,rfl⟩:=List.mem_map.1 hn;split
  ·exact⟨Int.emod_nonneg _ (by decide),Int.emod_lt_of_pos _ (by decide)⟩
  exact⟨by decide,by decide⟩
 exact VJ n hn
structure Hd (K at_:Nat) (y:Bs) (k d:Nat) (id:List Int):Prop where
 how:(y.bg = -1/\k=7/\d=0/\id=idZ K y.x.zs) ∨ (∃ m:Nat,y.bg=m/\m<=at_/\k=6/\d=at_-m/\id=z20)
theorem zvx {K n:Nat} (hK:1<=K/\K<=4) (hn:n<=100000):vw K n=0:=by
 refine zxV K n ?_ (by omega);have h:K=1 ∨ K=2 ∨ K=3 ∨ K=4:=by omega
 rcases h with rfl | rfl | rfl | rfl <;> decide +kernel
theorem DK {n:Nat} {w:World} {x:Oj} (h:Om n w x):Sl w (some ⟨x.b,x.o,none⟩) x.c x.zs:=⟨h.cap,fun _=>⟨x.b,x.o,rfl,h.lt,h.at_⟩,fun h=>by cases h⟩
theorem JY (K n:Nat) (hK:1<=K/\K<=4) (hn:n<=20000) (x:Oj) (w:World) (hx:Om n w x) (ht:Tab w) {RO R:List Value} (hO:yQ K x=RO) (hR:row .u8 (idZ K x.zs)=R) :
  Calls prog 34 #[.agg RO.toArray] w fun e w'=>e=.returned (.tuple #[.agg R.toArray,.nilIface])/\Below w.heap.size w w':=by
 have:=qx3 K (some ⟨x.b,x.o,none⟩) x.c x.zs w ht (by rw[hx.len];omega) hx.isb (DK hx);rw[zvx hK (by rw[hx.len];omega),hR] at this;rw[<-hO];exact this
theorem GW (K n gb go at_ k d:Nat) (id:List Int) (y:Bs) (w:World) (hK:1<=K/\K<=4) (hn:n<=20000) (hH:Hd K at_ y k d id) (hr:w.rangeAt gb go (kz K y)) (hgb:gb<w.heap.size) (hy:Om n w y.x) (ha:at_<=300000) (ht:Tab w) :
  Calls prog 38 #[.pointer (some ⟨gb,go,none⟩),.int .i64 at_] w fun e w'=>e=.returned (.agg (hdV k 0 d id).toArray)/\Below w.heap.size w w':=by
 obtain⟨G,HG⟩:=nm_ w.heap.size;obtain⟨Z,HZ⟩:=nm_ ((hdV 0 0 0 z20).toArray);have hz70:∀ w:World,(zeroValue 70).run prog w=.ok (.agg Z) w:=fun w=>by rw[<-HZ.out];exact LX w
 obtain⟨RF,HRF⟩:=nm_ (hdV k 0 d id);have hid20:id.length=20:=by rcases hH.how with ⟨_,_,_,rfl⟩ | ⟨_,_,_,_,_,rfl⟩;exact X7 _ _;rfl
 obtain⟨w0,HW0⟩:=nm_ (w.alloc (.cells Z 70));have hb0:Below w.heap.size w w0:=by rw[<-HW0.out];exact(Below.refl _ w).alloc (WzV _) _
 have HR0:Hid (w0.heap[G]? = some (.cells Z 70 (0,0))):=hid (by rw[<-HW0.out,<-HG.out];exact heap_alloc_new _ _);have HB0:Hid (Below G w w0):=hid (by rw[<-HG.out];exact hb0);have hsz:(prog.info? 70).map (·.size)=some RF.length:=by rw[<-HRF.out,xy,hid20];exact Z3
 have JF:Hid ((prog.info? 70).map (·.size)=some RF.toArray.size):=hid (by rw[WqW];exact hsz);have EF:Hid (Z.size=RF.toArray.size):=hid (by rw[<-HZ.out];show 23=RF.toArray.size;rw[WqW,<-HRF.out,xy,hid20])
 have OF:Hid (RF.toArray.all (·.oneCell')=true):=hid (by rw[<-HRF.out];exact all_oneCell_toArray (fun v hv=>by unfold hdV at hv;simp only[List.mem_cons] at hv;rcases hv with rfl | rfl | rfl | hv;rfl;rfl;rfl;exact row_one _ _ v hv));have HT:Hid (∀ W,Below G w W->Tab W):=hid (fun W hW=>ht.below (by rw[HG.out];exact hW))
 have cc:∀ j v,(kz K y)[j]? = some v->w0.cell? ⟨gb,go+j,none⟩=some v:=fun j v hj=>(hb0.cell (p:=⟨gb,go+j,none⟩) hgb).trans (hr j v hj);have c2:=cc 2 _ rfl;have HRG:Hid (w0.rangeAt gb go (yQ K y.x)):=hid (fun j v hj=>cc j v (by
  match j,hj with
  | 0,hj=>exact hj
  | 1,hj=>exact hj))
 have HY:=hid (hy.below hb0);clear hb0 cc hr hy;rcases hH.how with ⟨hb,rfl,rfl,rfl⟩ | ⟨m,hb,hm,rfl,rfl,rfl⟩;rotate_left
 ·have c2':(w.alloc (.cells Z 70)).cell? ⟨gb,go+2,none⟩=some (.int .i64 m):=by rw[HW0.out,<-hb];exact c2
  have n1:¬ (m:Int) = -1:=by omega
  have b1:((m:Int) == -1)=false:=by simp
  have hmI:(m:Int)<=at_:=by omega
  obtain⟨d,HD⟩:=nm_ (at_-m);have hdI:(at_:Int)-m=(d:Int):=by rw[<-HD.out];omega
  rw[HD.out] at HRF;rw[HD.out];have HBU:Hid (prog.built 70 [(0,.int .i64 6),(2,.int .i64 d)]=some RF.toArray):=hid (by rw[zzx,<-HRF.out];rfl);obtain⟨w3,HW3⟩:=nm_ (w0.setRow G RF.toArray);have HR3:Hid (w3.heap[G]? = some (.cells RF.toArray 70 (0,0))):=hid (by rw[<-HW3.out];exact setRow_heap _ _ _ _ _ _ HR0.out)
  have HB3:Hid (Below G w w3):=hid (by rw[<-HW3.out];exact below_setRow HB0.out (WzV _) _);have hr3:=zx HR3.out;clear hb c2;go_enter func38,ntmps38;go_wp2_with (first
   | (refine vV rfl 70 _ rfl RF.toArray (by simp only[Wxy,Wxj,Wxk];exact HBU.out) ?_;rw[HW0.out,HG.out])
   | (refine wpList_store_row rfl 70 _ _ rfl G RF.toArray rfl rfl 70 Z HR0.out JF.out EF.out OF.out ?_;rw[HW3.out])
   | fail)
  exact bodyPost_ret (y6 results38 _ _ G RF _ rfl hr3 underlying70 rfl hsz) rfl ⟨by rw[HRF.out],by rw[HG.out];exact HB3.out⟩
 obtain⟨RO,HRO⟩:=nm_ (yQ K y.x);rw[HRO.out] at HRG;obtain⟨RI,HRI⟩:=nm_ (row .u8 (idZ K y.x.zs));have hi27:(prog.info? 27).map (·.size)=some RO.length:=by rw[<-HRO.out];exact vK
 have CI:Hid (Calls prog 34 #[.agg RO.toArray] w0 fun e w'=>e=.returned (.tuple #[.agg RI.toArray,.nilIface])/\Below w0.heap.size w0 w'):=hid (JY K n hK hn y.x w0 HY.out (HT.out w0 HB0.out) HRO.out HRI.out);have hrl:RI.length=20:=by rw[<-HRI.out,zu,hid20]
 have HRL:=hid hrl;have HBU:Hid (prog.built 70 [(0,.int .i64 7),(3,.agg RI.toArray)]=some RF.toArray):=hid (by rw[<-HRI.out,zzj _ hid20,<-HRF.out];rfl);have hi68:(prog.info? 68).map (·.size)=some RI.length:=by rw[hrl];exact size68
 have J68:Hid ((prog.info? 68).map (·.size)=some RI.toArray.size):=hid (by rw[WqW];exact hi68);obtain⟨zr,HZR⟩:=nm_ ((row .u8 z20).toArray);have hz68:∀ w:World,(zeroValue 68).run prog w=.ok (.agg zr) w:=fun w=>by rw[<-HZR.out];exact XK w
 have E68:Hid (zr.size=RI.toArray.size):=hid (by rw[<-HZR.out];show 20=RI.toArray.size;rw[WqW,HRL.out]);have O68:Hid (RI.toArray.all (·.oneCell')=true):=hid (by rw[<-HRI.out];exact all_oneCell_toArray (row_one _ _));have c2':(w.alloc (.cells Z 70)).cell? ⟨gb,go+2,none⟩=some (.int .i64 (-1)):=by rw[HW0.out,<-hb];exact c2
 have hrg:(w.alloc (.cells Z 70)).rangeAt gb go RO:=by rw[HW0.out];exact HRG.out
 clear hb hrl c2;go_enter func38,ntmps38;go_wp2_with (first
  | (refine wpList_load_mid rfl 27 _ rfl gb go rfl RO _ hrg underlying27 rfl hi27 ?_;rw[HW0.out,HG.out])
  | fail)
 refine CI.out.mono ?_;rintro e w1 ⟨rfl,hb1⟩;have HB1:Hid (Below G w w1):=hid (HB0.out.trans (hb1.mono (Wxz (lt_of_some HR0.out))));have HR1:Hid (w1.heap[G]? = some (.cells Z 70 (0,0))):=hid ((hb1.block _ (lt_of_some HR0.out)).trans HR0.out);obtain⟨H2,w2,HNA⟩:=nw 68 zr w1 RI;have hb2:Below w1.heap.size w1 w2:=by rw[HNA.out.h];exact HNA.out.below
 have HR2:Hid (w2.heap[G]? = some (.cells Z 70 (0,0))):=hid ((hb2.block _ (lt_of_some HR1.out)).trans HR1.out);have HB2:Hid (Below G w w2):=hid (HB1.out.trans (hb2.mono (Wxz (lt_of_some HR1.out))));have hri:w2.rangeAt H2 0 RI:=HNA.out.at
 obtain⟨w3,HW3⟩:=nm_ (w2.setRow G RF.toArray);have HR3:Hid (w3.heap[G]? = some (.cells RF.toArray 70 (0,0))):=hid (by rw[<-HW3.out];exact setRow_heap _ _ _ _ _ _ HR2.out);have HB3:Hid (Below G w w3):=hid (by rw[<-HW3.out];exact below_setRow HB2.out (WzV _) _);have hr3:=zx HR3.out;clear hb1 hb2 hrg c2';go_wp2_with (first
  | (refine wpList_store_row rfl 68 _ _ rfl w1.heap.size RI.toArray rfl rfl 68 zr HNA.out.d J68.out E68.out O68.out ?_;rw[HNA.out.w,HNA.out.h])
  | (refine wpList_load_mid rfl 68 _ rfl H2 0 rfl RI _ hri underlying68 rfl hi68 ?_)
  | (refine vV rfl 70 _ rfl RF.toArray (by simp only[Wxy,Wxj,Wxk];exact HBU.out) ?_)
  | (refine wpList_store_row rfl 70 _ _ rfl G RF.toArray rfl rfl 70 Z HR2.out JF.out EF.out OF.out ?_;rw[HW3.out])
  | fail)
 exact bodyPost_ret (y6 results38 _ _ G RF _ rfl hr3 underlying70 rfl hsz) rfl ⟨by rw[HRF.out],by rw[HG.out];exact HB3.out⟩
end Go.Proofs.YtiaaekdpfpaigaaGreatDoor.Pk
