import Derived.Test.YtdnphaganajejaaGreatDoorMz46
import Derived.Test.YtdnphaganajejaaGreatDoorMz22
import Derived.Test.YtdnphaganajejaaGreatDoorMz23
set_option linter.unusedSimpArgs false
set_option linter.unusedVariables false
set_option maxRecDepth 20000
set_option maxHeartbeats 4000000
open ByteArray renaming size->Wqz
open List renaming length->Wzw,length_append->Wzy,length_cons->Wzu,mem_append->Wqx,mem_cons->Wqj,not_mem_nil->WyJ,size_toArray->Wyu,toList_toArray->Wxv
open Nat renaming le_refl->Wz8
open UInt8 renaming ofNat->Wy1
namespace Go.Proofs.YtdnphaganajejaaGreatDoor.K
open Go.Proofs.Tryz
open Go.RowKit
theorem results176:f176.results=#[.cell 2 133]:=by kernel_rfl
theorem qxy (x y:List Int) (hx:x.length=20) (hy:y.length=20) (p:Per) (t:ByteArray) (w:World):(Instr.build 133 #[(0,.agg (row .u8 x).toArray),(1,.agg (row .u8 y).toArray),(2,.agg (x8 p)),(3,.string t)]).run prog w=.ok (.agg (row .u8 x++(row .u8 y++[Value.string ⟨p.name.toArray⟩,Value.string ⟨p.mail.toArray⟩,Value.int .i64 p.time,Value.int .i64 p.zone,Value.string t])).toArray) w:=by
 obtain⟨pn,pm,pt,pz⟩:=p;obtain⟨a0,a1,a2,a3,a4,a5,a6,a7,a8,a9,h,j,A,D,G,I,J,K,L,M,rfl⟩:=yJ x hx;obtain⟨b0,b1,b2,b3,b4,b5,b6,b7,b8,b9,O,Q,V,Y,Z,ac,ad,ae,ag,ah,rfl⟩:=yJ y hy;unfold x8;simp only;generalize (⟨pn.toArray⟩:ByteArray)=P1;generalize (⟨pm.toArray⟩:ByteArray)=P2;show _=_;kernel_rfl
theorem Uu (s sep:Str) (hs:s.length<=1000000) (x y:Str) (b:Bool) (h:Lib.cut s sep=(x,y,b)) (w:World) (G:Mx w):Calls prog 174 #[sV s,sV sep] w fun e w'=>e=.returned (.tuple #[sV x,sV y,.bool b])/\Below w.heap.size w w':=by
 have j:=V9 s sep w hs G;rw[h] at j;exact j.mono fun e w' ⟨A,q,D⟩=>⟨A,by rw[D];exact zj _ _ q⟩
theorem readP (p:Per) (A:okP p) (w:World) (D:Ers w) (I:Mx w):Calls prog 212 #[sV (xk p)] w fun e w'=>e=.returned (.agg (x8 p))/\Below w.heap.size w w':=by
 have G:(xk p).length<=1000000:=by
  obtain⟨h,j,⟨J,K⟩,L,M⟩:=A;have:=h.1;have:=j.1;have:=uY p.time.toNat (by omega);unfold xk;simp[xy,two];omega
 exact(R7 (xk p) G w D I).mono fun e w' ⟨hb,q,h,j⟩=>⟨by rw[h,qz7 p A q j],hb⟩
theorem qqw (x:List Int) (hx:IdW x):∀ c ∈ yV x,isH c:=fun c hc=>by
 unfold yV Hx.hexOf at hc;obtain⟨n,j,rfl⟩:=List.mem_map.1 hc;obtain⟨z,D,j⟩:=List.mem_flatMap.1 j;have hb:=hx.2 z D;have key:∀ d:Int,0<=d->d<16->isH (Wy1 (Hx.dig d).toNat):=fun d G I=>by
  obtain⟨k,rfl⟩:∃ k:Nat,d=k:=⟨d.toNat,by omega⟩;have A:k<16:=by omega
  match k,A with
  | 0,_=>unfold isH;decide
  | 1,_=>unfold isH;decide
  | 2,_=>unfold isH;decide
  | 3,_=>unfold isH;decide
  | 4,_=>unfold isH;decide
  | 5,_=>unfold isH;decide
  | 6,_=>unfold isH;decide
  | 7,_=>unfold isH;decide
  | 8,_=>unfold isH;decide
  | 9,_=>unfold isH;decide
  | 10,_=>unfold isH;decide
  | 11,_=>unfold isH;decide
  | 12,_=>unfold isH;decide
  | 13,_=>unfold isH;decide
  | 14,_=>unfold isH;decide
  | 15,_=>unfold isH;decide
  | k+16,h=>exact absurd h (by omega)
 simp only[Wqj,WyJ,or_false] at j;rcases j with rfl | rfl
 ·exact key _ (by omega) (by omega)
 exact key _ (by omega) (by omega)
theorem BX (x:List Int) (hx:IdW x) (c:UInt8) (hc:¬ isH c):c ∉ yV x:=fun h=>hc (qqw x hx c h)
def ewS (e:Le):Str:=yV e.old++32 :: (yV e.new++32 :: (xk e.who++9 :: e.text))
theorem zvk (n:Nat) (h:n<100) (c:UInt8) (hc:c=9 ∨ c=10):c ∉ two n:=by
 have j:n / 10<10:=by omega
 have A:n % 10<10:=by omega
 have key:∀ d,d<10->Wy1 (48+d) ≠ 9/\Wy1 (48+d) ≠ 10:=fun d hd=>by
  refine⟨fun e=>?_,fun e=>?_⟩ <;>
   (have:=congrArg UInt8.toNat e;rw[UInt8.toNat_ofNat'] at this;simp at this;omega)
 unfold two;simp only[Wqj,WyJ,or_false,not_or];rcases hc with rfl | rfl
 ·exact⟨fun e=>(key _ j).1 e.symm,fun e=>(key _ A).1 e.symm⟩
 exact⟨fun e=>(key _ j).2 e.symm,fun e=>(key _ A).2 e.symm⟩
theorem qqy (z:Int) (j : -840<=z) (A:z<=840) (c:UInt8) (hc:c=9 ∨ c=10):c ∉ xy z:=by
 unfold xy;intro h;rcases Wqj.1 h with h | h
 ·split at h <;> · rcases hc with rfl | rfl <;> exact absurd h (by decide)
 rcases Wqx.1 h with h | h
 ·exact zvk _ (by omega) c hc h
 exact zvk _ (by omega) c hc h
theorem zzv (n:Nat) (c:UInt8) (hc:c=9 ∨ c=10):c ∉ Lib.decDigits n:=fun h=>by
 have:=(TV n).2.1 c h;unfold JY at this;rcases hc with rfl | rfl <;> simp at this
theorem I3 (p:Per) (A:okP p) (c:UInt8) (hc:c=9 ∨ c=10):c ∉ (32 :: (Lib.decDigits p.time.toNat++32 :: xy p.zone)):=fun h=>by
 have j:¬ c=32:=by rcases hc with rfl | rfl <;> decide
 rcases Wqj.1 h with h | h
 ·exact j h
 rcases Wqx.1 h with h | h
 ·exact zzv _ c hc h
 rcases Wqj.1 h with h | h
 ·exact j h
 exact qqy _ A.2.2.2.1 A.2.2.2.2 c hc h
theorem PJ (e:Le) (D:vY e) (hp:okP e.who) (ht:e.text.length<=100000) (w:World) (ag:Ers w) (ai:Mx w):Calls prog 176 #[sV (ewS e)] w fun r w'=>r=.returned (.agg (qw e).toArray)/\Below w.heap.size w w':=by
 obtain⟨G,HG⟩:=nm_ w.heap.size;have ay:(xk e.who).length<=300:=by
  obtain⟨h1,h2,⟨h3,h4⟩,h5,h6⟩:=hp;have:=h1.1;have:=h2.1;have:=uY e.who.time.toNat (by omega);unfold xk;simp[xy,two];omega
 have av:(yV e.old).length=40:=by rw[xj,D.1.1]
 have aw:(yV e.new).length=40:=by rw[xj,D.2.1]
 obtain⟨t3,a6⟩:∃ t,32 :: (Lib.decDigits e.who.time.toNat++32 :: xy e.who.zone)=t:=⟨_,rfl⟩;obtain⟨t2,V⟩:∃ t,e.who.name++32 :: 60 :: e.who.mail=t:=⟨_,rfl⟩;have I:xk e.who=t2++62 :: t3:=by rw[<-V,<-a6];unfold xk;simp
 have aj:(9:UInt8) ∉ t3:=by rw[<-a6];exact I3 _ hp _ (.inl rfl)
 have K:(62:UInt8) ∉ t2:=by
  rw[<-V];intro h;rcases Wqx.1 h with h | h
  ·exact(hp.1.2.1 62 h).2.1 rfl
  simp only[Wqj] at h;rcases h with h | h | h
  ·exact absurd h (by decide)
  ·exact absurd h (by decide)
  exact(hp.2.1.2.1 62 h).2.1 rfl
 have k1:Lib.cut (ewS e) [32]=(yV e.old,yV e.new++32 :: (xk e.who++9 :: e.text),true):=vW _ _ _ (BX _ D.1 _ (by unfold isH;decide));have k2:Lib.cut (yV e.new++32 :: (xk e.who++9 :: e.text)) [32]=(yV e.new,xk e.who++9 :: e.text,true):=vW _ _ _ (BX _ D.2 _ (by unfold isH;decide))
 have k3:Lib.cut (xk e.who++9 :: e.text) [62]=(t2,t3++9 :: e.text,true):=by rw[I,List.append_assoc];exact vW _ _ _ K
 have k4:Lib.cut (t3++9 :: e.text) [9]=(t3,e.text,true):=vW _ _ _ aj;have ax:(ewS e).length<=200000:=by unfold ewS;simp only[Wzy,Wzu];omega
 have ah:t3.length<=300:=by have:=congrArg Wzw I;simp only[Wzy,Wzu] at this;omega
 have c1:=fun W Q=>Uu (ewS e) [32] (by omega) _ _ _ k1 W Q;have c2:=fun W Q=>Uu _ [32] (by simp only[Wzy,Wzu];omega) _ _ _ k2 W Q;have c3:=fun W Q=>Uu _ [62] (by simp only[Wzy,Wzu];omega) _ _ _ k3 W Q;have c4:=fun W Q=>Uu _ [9] (by simp only[Wzy,Wzu];omega) _ _ _ k4 W Q
 have d1:=fun W=>W7 e.old D.1 W;have d2:=fun W=>W7 e.new D.2 W;have d3:=fun W h1 h2=>readP e.who hp W h1 h2;obtain⟨S0,H0⟩:=nm_ (⟨(ewS e).toArray⟩:ByteArray);obtain⟨A0,a7⟩:=nm_ (⟨(yV e.old).toArray⟩:ByteArray);obtain⟨S1,H1⟩:=nm_ (⟨(yV e.new++32 :: (xk e.who++9 :: e.text)).toArray⟩:ByteArray);obtain⟨A1,a8⟩:=nm_ (⟨(yV e.new).toArray⟩:ByteArray)
 obtain⟨S2,H2⟩:=nm_ (⟨(xk e.who++9 :: e.text).toArray⟩:ByteArray);obtain⟨A2,L⟩:=nm_ (⟨t2.toArray⟩:ByteArray);obtain⟨S3,H3⟩:=nm_ (⟨(t3++9 :: e.text).toArray⟩:ByteArray);obtain⟨A3,M⟩:=nm_ (⟨t3.toArray⟩:ByteArray);obtain⟨S4,H4⟩:=nm_ (⟨e.text.toArray⟩:ByteArray);have ak:Hid ((A2 ++ ⟨#[62]⟩)++A3=⟨(xk e.who).toArray⟩):=hid (by
  rw[<-L.out,<-M.out,show (⟨#[62]⟩:ByteArray)=⟨[62].toArray⟩ from rfl,yZ,yZ,I];simp)
 have z2:A2.size<=300:=by rw[<-L.out];have:=congrArg Wzw I;simp only[Wzy,Wzu] at this;simp[Wqz];omega
 have z3:A3.size<=300:=by rw[<-M.out];simpa [Wqz] using ah
 unfold sV at c1 c2 c3 c4 d1 d2 d3 ⊢;rw[H0.out,a7.out,H1.out] at c1;rw[H1.out,a8.out,H2.out] at c2;rw[H2.out,L.out,H3.out] at c3;rw[H3.out,M.out,H4.out] at c4;rw[a7.out] at d1;rw[a8.out] at d2;rw[<-ak.out] at d3;rw[H0.out];obtain⟨X,hX⟩:∃ X,(row .u8 e.old).toArray=X:=⟨_,rfl⟩;obtain⟨Y,hY⟩:∃ X,(row .u8 e.new).toArray=X:=⟨_,rfl⟩;obtain⟨P,hP⟩:∃ X,x8 e.who=X:=⟨_,rfl⟩
 obtain⟨E,hE⟩:∃ X,(qw e).toArray=X:=⟨_,rfl⟩;have am:Hid (∀ W:World,(Instr.build 133 #[(0,.agg X),(1,.agg Y),(2,.agg P),(3,.string S4)]).run prog W=.ok (.agg E) W):=fun W=>by rw[<-hX,<-hY,<-hP,<-hE,<-H4.out];exact qxy e.old e.new D.1.1 D.2.1 e.who _ W
 have ad:Hid ((prog.info? 133).map (·.size)=some E.size):=hid (by rw[<-hE,Wyu,yQ D];kernel_rfl);have ac:Hid (45=E.size):=hid (by rw[<-hE,Wyu,yQ D]);have ap:Hid (E.all (·.oneCell')=true):=hid (by rw[<-hE];exact all_oneCell_toArray (uZ _));rw[hX] at d1;rw[hY] at d2;rw[hP] at d3;rw[hE];obtain⟨Z,HZ⟩:=nm_ ((qw zL).toArray)
 obtain⟨w0,J⟩:∃ w0,w.alloc (.cells Z 133)=w0:=⟨_,rfl⟩;have A:Below w.heap.size w w0:=by rw[<-J];exact(Below.refl _ _).alloc (Wz8 _) _
 have O:w0.heap[w.heap.size]? = some (.cells Z 133):=by rw[<-J];exact heap_alloc_new _ _
 have j:Hid (∀ W,Below w0.heap.size w0 W->Mx W/\Ers W/\W.heap[w.heap.size]? = some (.cells Z 133)/\(W.setRow w.heap.size E).heap[w.heap.size]? = some (.cells E 133)/\Below w.heap.size w (W.setRow w.heap.size E)):=fun W hW=>by
  have q1:=(hW.block _ (z7 O)).trans O;exact⟨(ai.below A).below hW,(ag.below A).below hW,q1,setRow_heap _ _ _ _ _ _ q1,below_setRow (A.trans (hW.mono A.size)) (Wz8 _) _⟩
 have au:Hid (Z.size=E.size):=hid (by rw[<-ac.out,<-HZ.out];rfl);have ar:Hid (w.alloc (.cells (qw zL).toArray 133)=w0):=hid (by rw[HZ.out];exact J);have ao:=hid (Below.refl w0.heap.size w0);clear k1 k2 k3 k4 hX hY hP hE V a6 I aj K av aw ax ah A O ay hp D ht ag ai J;go_enter func176,ntmps176;go_wp2_with fail
 change Calls prog 174 #[.string S0,.string ⟨#[32]⟩] (w.alloc (.cells (qw zL).toArray 133)) _;rw[ar.out];refine(c1 w0 (j.out w0 ao.out).1).mono ?_;rintro r w1 ⟨rfl,ae⟩;have B1:Hid (Below w0.heap.size w0 w1):=hid ae;clear ae c1;go_wp2_with (first
  | (go_at_call 174;refine(c2 _ (j.out _ B1.out).1).mono ?_;rintro r w2 ⟨rfl,hb⟩;have B2:Hid (Below w0.heap.size w0 w2):=hid (B1.out.trans (hb.mono B1.out.size));clear hb c2)
  | (go_at_call 174;refine(c3 _ (j.out _ B2.out).1).mono ?_;rintro r w3 ⟨rfl,hb⟩;have B3:Hid (Below w0.heap.size w0 w3):=hid (B2.out.trans (hb.mono B2.out.size));clear hb c3)
  | (go_at_call 174;refine(c4 _ (j.out _ B3.out).1).mono ?_;rintro r w4 ⟨rfl,hb⟩;have B4:Hid (Below w0.heap.size w0 w4):=hid (B3.out.trans (hb.mono B3.out.size));clear hb c4)
  | (go_at_call 175;refine(d1 _).mono ?_;rintro r w5 ⟨rfl,hb⟩;have B5:Hid (Below w0.heap.size w0 w5):=hid (B4.out.trans (hb.mono B4.out.size));clear hb d1)
  | (go_at_call 175;refine(d2 _).mono ?_;rintro r w6 ⟨rfl,hb⟩;have B6:Hid (Below w0.heap.size w0 w6):=hid (B5.out.trans (hb.mono B5.out.size));clear hb)
  | (go_at_call 212;refine(d3 _ (j.out _ B6.out).2.1 (j.out _ B6.out).1).mono ?_;rintro r w7 ⟨rfl,hb⟩;have B7:Hid (Below w0.heap.size w0 w7):=hid (B6.out.trans (hb.mono B6.out.size));obtain⟨_,_,q1,q2,q3⟩:=j.out _ B7.out;have Q1:=hid q1;have Q2:=hid q2;have Q3:=hid q3;clear hb q1 q2 q3)
  | (refine z8 rfl _ (KX 133 0 1 2 3 (.tmp 38) (.tmp 40) (.tmp 45) (.tmp 46) rfl (.agg X) (.agg Y) (.agg P) (.string S4) (.agg E) rfl rfl rfl rfl (am.out _)) ?_;go_frame)
  | (refine wpList_store_row rfl 133 (.tmp 2) (.tmp 47) rfl w.heap.size E rfl rfl 133 _ Q1.out ad.out au.out ap.out ?_))
 refine bodyPost_ret (yq results176 _ _ w.heap.size E.toList _ rfl (zw (by simpa using Q2.out)) underlying133 rfl (by simpa using ad.out)) rfl ⟨?_,Q3.out⟩;simp
theorem results141:f141.results=#[.cell 2 146]:=by kernel_rfl
theorem jJ {x:Str} (h:isN x=true):∀ c ∈ x,33<=c.toNat/\c.toNat<=126:=by
 by_cases A:x=[72,69,65,68]
 ·subst A;decide
 have D:=Nm.isN_not A;have j:Nm.prgOk x=true:=by rw[<-D];exact h
 unfold Nm.prgOk at j;simp only[Bool.and_eq_true] at j;have G:=j.1.1.1.2;intro c hc;have:=List.all_eq_true.1 G c hc;unfold Nm.byteOk at this;simp at this;omega
structure StR (s:Sp):Prop where
 nm:isN s.name=true
 id:IdW s.id
 e:vY s.e
 tg:s.tg.length<=60
 kind:s.word=wR ∨ (s.word=wL/\isN s.tg=true) ∨ s.word=wD ∨ (s.word=wG/\okG s.e.who s.e.text)
def cnS (s:Sp):Sp:=if s.word=wR then ⟨wR,s.name,s.id,[],zL⟩ else if s.word=wL then ⟨wL,s.name,zZ,s.tg,zL⟩ else if s.word=wD then ⟨wD,s.name,zZ,[],zL⟩ else ⟨wG,s.name,zZ,[],s.e⟩
theorem bdS2 (W N:ByteArray) (w:World):(Instr.build 146 #[(0,.string W),(1,.string N)]).run prog w=.ok (.agg (.string W :: .string N :: (row .u8 zZ++(sV [] :: qw zL))).toArray) w:=by kernel_rfl
theorem zvv (s:Str) (c:UInt8) (h:c ∉ s):Lib.cut s [c]=(s,[],false):=by
 have hi:Lib.index s [c] = -1:=by
  induction s with
  | nil=>rfl
  | cons b l j =>
   simp only[Wqj,not_or] at h;have:=j h.2;unfold Lib.index;rw[this];have hb:([c] : List UInt8).isPrefixOf (b :: l)=false:=by
    simp only[List.isPrefixOf];simp[h.1]
   rw[hb];rfl
 unfold Lib.cut;rw[hi,if_neg (by omega)]
theorem YV {w:World} {K:Nat} {t:TypeId} {L:List Value} (h:w.heap[K]? = some (.cells L.toArray t (0,0))) (o n:Nat) (D:o+n<=L.length):w.there K o n:=fun j A=>by
 refine⟨?_,by simp[World.frozen?,h]⟩;rw[cell_of_row _ _ (o+j) _ _ _ h];simp;omega
theorem I4 {w:World} {K:Nat} {t:TypeId} (pre old post new:List Value) (h:w.heap[K]? = some (.cells (pre++(old++post)).toArray t (0,0))) (D:new.length=old.length):(w.setCells K pre.length new).rangeAt K 0 (pre++(new++post)):=fun j v hv=>by
 have G:=YV h pre.length new.length (by simp;omega);rw[Nat.zero_add];by_cases A:j<pre.length
 ·rw[World.cell?_setCells_out _ _ _ _ _ (fun _ _=>.inl A),cell_of_row _ _ j _ _ _ h];rw[List.getElem?_append_left A] at hv;simp only[List.getElem?_toArray];rw[List.getElem?_append_left A];exact hv
 rw[List.getElem?_append_right (by omega)] at hv;by_cases I:j<pre.length+new.length
 ·obtain⟨k,rfl⟩:∃ k,j=pre.length+k:=⟨j-pre.length,by omega⟩;rw[Nat.add_sub_cancel_left,List.getElem?_append_left (by omega)] at hv;rw[World.cell?_setCells_in _ _ _ _ (fun i hi=>(G i hi).1) k (by omega),<-hv,List.getElem?_eq_getElem (by omega)]
 rw[World.cell?_setCells_out _ _ _ _ _ (fun _ _=>.inr (by show pre.length+new.length<=j;omega)),cell_of_row _ _ j _ _ _ h];rw[List.getElem?_append_right (by omega)] at hv;simp only[List.getElem?_toArray];rw[List.getElem?_append_right (by omega),List.getElem?_append_right (by omega),<-D];exact hv
theorem PK (s:Sp) (h:StR s) (hw:s.word=wD) (w:World) (ag:Ers w) (ah:Mx w):Calls prog 141 #[sV (lnS s)] w fun r w'=>r=.returned (.agg (zJ (cnS s)).toArray)/\Below w.heap.size w w':=by
 have a6:=qX h.nm;have O:(32:UInt8) ∉ s.name:=fun hc=>by have:=jJ h.nm 32 hc;simp at this
 have V:cnS s=⟨wD,s.name,zZ,[],zL⟩:=by unfold cnS;rw[hw];rfl
 obtain⟨r1,M⟩:∃ r,s.name=r:=⟨_,rfl⟩;obtain⟨r2,ai⟩:∃ r:Str,[]=r:=⟨_,rfl⟩;have L:lnS s=wD++32 :: r1:=by rw[<-M];unfold lnS wsS;rw[hw];simp[jw,wR,wL,wD,wG]
 have k1:Lib.cut (lnS s) [32]=(wD,r1,true):=by rw[L];exact vW _ _ _ (by unfold wD;decide)
 have k2:Lib.cut r1 [32]=(s.name,r2,false):=by rw[<-M,<-ai];exact zvv _ _ O
 have az:(lnS s).length<=300000:=by rw[L,<-M];simp[wD,xj,h.id.1];omega
 have ay:r1.length<=300000:=by have:=congrArg Wzw L;simp only[Wzy,Wzu] at this;omega
 have c1:=fun W hm=>Uu (lnS s) [32] (by omega) _ _ _ k1 W hm;have c2:=fun W hm=>Uu r1 [32] (by omega) _ _ _ k2 W hm;obtain⟨S0,H0⟩:=nm_ (⟨(lnS s).toArray⟩:ByteArray);obtain⟨S1,H1⟩:=nm_ (⟨r1.toArray⟩:ByteArray);obtain⟨S2,H2⟩:=nm_ (⟨r2.toArray⟩:ByteArray);obtain⟨NM,ad⟩:=nm_ (⟨s.name.toArray⟩:ByteArray);unfold sV at c1 c2 ⊢;rw[H0.out,H1.out] at c1
 rw[H1.out,ad.out,H2.out] at c2;rw[H0.out];unfold wD at c1;obtain⟨K,j⟩:∃ B,zJ ⟨wD,s.name,zZ,[],zL⟩=B:=⟨_,rfl⟩;have G:K.length=68:=by rw[<-j];exact qx ⟨yz.1,yz,a6,by simp⟩
 have ak:Hid (∀ W:World,(Instr.build 146 #[(0,.string ⟨#[100,114,111,112]⟩),(1,.string NM)]).run prog W=.ok (.agg K.toArray) W):=fun W=>by rw[<-j,<-ad.out];exact bdS2 _ _ W
 have ap:Hid ((prog.info? 146).map (·.size)=some K.toArray.size):=hid (by rw[Wyu,G];kernel_rfl);have av:Hid (68=K.toArray.size):=hid (by rw[Wyu,G]);have ar:Hid (K.toArray.all (·.oneCell')=true):=hid (all_oneCell_toArray (by rw[<-j];exact yk _));obtain⟨FL,A⟩:∃ B,zJ (cnS s)=B:=⟨_,rfl⟩
 have I:FL.length=68:=by rw[<-A,V];exact qx ⟨yz.1,yz,a6,by simp⟩
 have Q:Hid ((prog.info? 146).map (·.size)=some FL.length):=hid (by rw[I];kernel_rfl);have a8:Hid ((prog.info? 146).map (·.size)=some FL.toArray.size):=hid (by rw[Wyu];exact Q.out);have au:Hid (FL.toArray.all (·.oneCell')=true):=hid (all_oneCell_toArray (by rw[<-A];exact yk _));obtain⟨Z,HZ⟩:=nm_ ((zJ ⟨[],[],zZ,[],zL⟩).toArray)
 have aw:Hid (Z.size=FL.toArray.size):=hid (by rw[show FL.toArray.size=68 by rw[Wyu];exact I,<-HZ.out];rfl);obtain⟨w0,J⟩:∃ w0,w.alloc (.cells Z 146)=w0:=⟨_,rfl⟩;have ax:Hid (w.alloc (.cells (zJ ⟨[],[],zZ,[],zL⟩).toArray 146)=w0):=hid (by rw[HZ.out];exact J);have D:Below w.heap.size w w0:=by rw[<-J];exact(Below.refl _ _).alloc (Wz8 _) _
 have Y:w0.heap[w.heap.size]? = some (.cells Z 146):=by rw[<-J];exact heap_alloc_new _ _
 have aA:w0.heap.size=w.heap.size+1:=by rw[<-J];simp
 have a7:Hid (∀ W,Below w0.heap.size w0 W->Mx W/\Ers W):=fun W hW=>⟨(ah.below D).below hW,(ag.below D).below hW⟩;have ao:Hid (∀ W,Below w0.heap.size w0 W->W.heap[w.heap.size]? = some (.cells Z 146)/\(W.setRow w.heap.size FL.toArray).heap[w.heap.size]? = some (.cells FL.toArray 146)/\Below w.heap.size w (W.setRow w.heap.size FL.toArray)):=fun W hW=>by
  have q1:=(hW.block _ (z7 Y)).trans Y;exact⟨q1,setRow_heap _ _ _ _ _ _ q1,below_setRow (D.trans (hW.mono D.size)) (Wz8 _) _⟩
 have am:=hid (Below.refl w0.heap.size w0);have ac:Hid (∀ w2 w3,Below w0.heap.size w0 w2->w2.alloc (.cells K.toArray 146)=w3->w3.rangeAt w2.heap.size 0 FL/\Below w0.heap.size w0 w3):=fun w2 w3 h2 h3=>by
  subst h3;refine⟨?_,h2.alloc h2.size _⟩;rw[<-A,V,j];exact zw (heap_alloc_new _ _)
 rw[A];clear k1 k2 L ay az M ai O a6 V D Y aA I A G j ag ah J h hw;go_enter func141,ntmps141;go_wp2_with fail
 change Calls prog 174 #[.string S0,.string ⟨#[32]⟩] (w.alloc (.cells (zJ ⟨[],[],zZ,[],zL⟩).toArray 146)) _;rw[ax.out];refine(c1 w0 (a7.out w0 am.out).1).mono ?_;rintro r w1 ⟨rfl,ae⟩;have B1:Hid (Below w0.heap.size w0 w1):=hid ae;clear ae c1;go_wp2_with (first
  | (go_at_call 174;refine(c2 _ (a7.out _ B1.out).1).mono ?_;rintro r w2 ⟨rfl,hb⟩;have B2:Hid (Below w0.heap.size w0 w2):=hid (B1.out.trans (hb.mono B1.out.size));obtain⟨w3,aj⟩:∃ w3,w2.alloc (.cells K.toArray 146)=w3:=⟨_,rfl⟩;obtain⟨ql,qb⟩:=ac.out w2 w3 B2.out aj;have QL:=hid ql;obtain⟨q1,q2,q3⟩:=ao.out w3 qb;have Q1:=hid q1;have Q2:=hid q2;have Q3:=hid q3;clear ql qb q1 q2 q3;clear hb c2)
  | (refine z8 rfl _ (vz 146 0 1 (.tmp 21) (.tmp 22) rfl (.string ⟨#[100,114,111,112]⟩) (.string NM) (.agg K.toArray) rfl rfl (ak.out _)) ?_;go_frame)
  | (refine zq rfl 146 (.tmp 8) (.tmp 23) rfl _ K.toArray rfl rfl ap.out (by rw[<-av.out];rfl) ar.out ?_;rw[aj];go_frame)
  | (refine wpList_load_mid rfl 146 (.tmp 8) rfl _ 0 rfl FL _ QL.out underlying146 rfl Q.out ?_;go_frame)
  | (refine wpList_store_row rfl 146 (.tmp 2) (.tmp 39) rfl w.heap.size FL.toArray rfl rfl 146 _ Q1.out a8.out aw.out au.out ?_))
 exact bodyPost_ret (yq results141 _ _ w.heap.size FL _ rfl (zw Q2.out) underlying146 rfl Q.out) rfl ⟨rfl,Q3.out⟩
theorem PW (s:Sp) (h:StR s) (hw:s.word=wL) (a8:isN s.tg=true) (w:World) (ai:Ers w) (aj:Mx w):Calls prog 141 #[sV (lnS s)] w fun r w'=>r=.returned (.agg (zJ (cnS s)).toArray)/\Below w.heap.size w w':=by
 have a6:=qX h.nm;have O:(32:UInt8) ∉ s.name:=fun hc=>by have:=jJ h.nm 32 hc;simp at this
 have V:cnS s=⟨wL,s.name,zZ,s.tg,zL⟩:=by unfold cnS;rw[hw];rfl
 obtain⟨r1,M⟩:∃ r,s.name++32 :: s.tg=r:=⟨_,rfl⟩;obtain⟨r2,a7⟩:∃ r:Str,s.tg=r:=⟨_,rfl⟩;have L:lnS s=wL++32 :: r1:=by rw[<-M];unfold lnS wsS;rw[hw];simp[jw,wR,wL,wD,wG]
 have k1:Lib.cut (lnS s) [32]=(wL,r1,true):=by rw[L];exact vW _ _ _ (by unfold wL;decide)
 have k2:Lib.cut r1 [32]=(s.name,r2,true):=by rw[<-M,<-a7];exact vW _ _ _ O
 have aC:=qX a8;have aB:(lnS s).length<=300000:=by rw[L,<-M];simp[wL,xj,h.id.1];omega
 have aA:r1.length<=300000:=by have:=congrArg Wzw L;simp only[Wzy,Wzu] at this;omega
 have c1:=fun W hm=>Uu (lnS s) [32] (by omega) _ _ _ k1 W hm;have c2:=fun W hm=>Uu r1 [32] (by omega) _ _ _ k2 W hm;obtain⟨S0,H0⟩:=nm_ (⟨(lnS s).toArray⟩:ByteArray);obtain⟨S1,H1⟩:=nm_ (⟨r1.toArray⟩:ByteArray);obtain⟨S2,H2⟩:=nm_ (⟨r2.toArray⟩:ByteArray);obtain⟨NM,ag⟩:=nm_ (⟨s.name.toArray⟩:ByteArray);unfold sV at c1 c2 ⊢;rw[H0.out,H1.out] at c1
 rw[H1.out,ag.out,H2.out] at c2;rw[H0.out];unfold wL at c1;obtain⟨j,A⟩:∃ B,zJ ⟨wL,s.name,zZ,[],zL⟩=B:=⟨_,rfl⟩;have I:j.length=68:=by rw[<-A];exact qx ⟨yz.1,yz,a6,by simp⟩
 have am:Hid (∀ W:World,(Instr.build 146 #[(0,.string ⟨#[108,105,110,107]⟩),(1,.string NM)]).run prog W=.ok (.agg j.toArray) W):=fun W=>by rw[<-A,<-ag.out];exact bdS2 _ _ W
 have ar:Hid ((prog.info? 146).map (·.size)=some j.toArray.size):=hid (by rw[Wyu,I];kernel_rfl);have aw:Hid (68=j.toArray.size):=hid (by rw[Wyu,I]);have au:Hid (j.toArray.all (·.oneCell')=true):=hid (all_oneCell_toArray (by rw[<-A];exact yk _));obtain⟨FL,D⟩:∃ B,zJ (cnS s)=B:=⟨_,rfl⟩
 have J:FL.length=68:=by rw[<-D,V];exact qx ⟨yz.1,yz,a6,qX a8⟩
 have Q:Hid ((prog.info? 146).map (·.size)=some FL.length):=hid (by rw[J];kernel_rfl);have ad:Hid ((prog.info? 146).map (·.size)=some FL.toArray.size):=hid (by rw[Wyu];exact Q.out);have av:Hid (FL.toArray.all (·.oneCell')=true):=hid (all_oneCell_toArray (by rw[<-D];exact yk _));obtain⟨Z,HZ⟩:=nm_ ((zJ ⟨[],[],zZ,[],zL⟩).toArray)
 have ax:Hid (Z.size=FL.toArray.size):=hid (by rw[show FL.toArray.size=68 by rw[Wyu];exact J,<-HZ.out];rfl);obtain⟨w0,K⟩:∃ w0,w.alloc (.cells Z 146)=w0:=⟨_,rfl⟩;have ay:Hid (w.alloc (.cells (zJ ⟨[],[],zZ,[],zL⟩).toArray 146)=w0):=hid (by rw[HZ.out];exact K);have G:Below w.heap.size w w0:=by rw[<-K];exact(Below.refl _ _).alloc (Wz8 _) _
 have Y:w0.heap[w.heap.size]? = some (.cells Z 146):=by rw[<-K];exact heap_alloc_new _ _
 have aE:w0.heap.size=w.heap.size+1:=by rw[<-K];simp
 have ac:Hid (∀ W,Below w0.heap.size w0 W->Mx W/\Ers W):=fun W hW=>⟨(aj.below G).below hW,(ai.below G).below hW⟩;have ap:Hid (∀ W,Below w0.heap.size w0 W->W.heap[w.heap.size]? = some (.cells Z 146)/\(W.setRow w.heap.size FL.toArray).heap[w.heap.size]? = some (.cells FL.toArray 146)/\Below w.heap.size w (W.setRow w.heap.size FL.toArray)):=fun W hW=>by
  have q1:=(hW.block _ (z7 Y)).trans Y;exact⟨q1,setRow_heap _ _ _ _ _ _ q1,below_setRow (G.trans (hW.mono G.size)) (Wz8 _) _⟩
 have ao:=hid (Below.refl w0.heap.size w0)
 have ae:Hid (∀ w2 w3,Below w0.heap.size w0 w2->w2.alloc (.cells j.toArray 146)=w3->∃ v,w3.cell? ⟨w2.heap.size,22,none⟩=some v/\w3.frozen? ⟨w2.heap.size,22,none⟩=false/\(w3.setCell ⟨w2.heap.size,22,none⟩ (.string S2)).rangeAt w2.heap.size 0 FL/\Below w0.heap.size w0 (w3.setCell ⟨w2.heap.size,22,none⟩ (.string S2))):=fun w2 w3 h2 h3=>by
  have hk:w3.heap[w2.heap.size]? = some (.cells j.toArray 146):=by rw[<-h3];exact heap_alloc_new _ _
  have az:Below w0.heap.size w0 w3:=by rw[<-h3];exact h2.alloc h2.size _
  have h4:=zV hk 22 (.string S2);refine⟨j.getD 22 undef,by rw[cell_of_row _ _ 22 _ _ _ hk];simp[List.getD_eq_getElem?_getD,List.getElem?_eq_getElem (show 22<j.length by omega)],by simp[World.frozen?,hk],?_,az.setCell (p:=⟨w2.heap.size,22,none⟩) h2.size _⟩;have e:FL=j.set 22 (.string S2):=by
   rw[<-D,V,<-A,<-H2.out,<-a7];rfl
  rw[e];refine zw (t:=146) (fr:=(0,0)) ?_;rw[h4];simp
 rw[D];clear k1 k2 L aA aB M a7 O a6 V G Y aE J D I A ai aj K h hw a8 aC;go_enter func141,ntmps141;go_wp2_with fail
 change Calls prog 174 #[.string S0,.string ⟨#[32]⟩] (w.alloc (.cells (zJ ⟨[],[],zZ,[],zL⟩).toArray 146)) _;rw[ay.out];refine(c1 w0 (ac.out w0 ao.out).1).mono ?_;rintro r w1 ⟨rfl,ah⟩;have B1:Hid (Below w0.heap.size w0 w1):=hid ah;clear ah c1;go_wp2_with (first
  | (go_at_call 174;refine(c2 _ (ac.out _ B1.out).1).mono ?_;rintro r w2 ⟨rfl,hb⟩;have B2:Hid (Below w0.heap.size w0 w2):=hid (B1.out.trans (hb.mono B1.out.size));obtain⟨w3,ak⟩:∃ w3,w2.alloc (.cells j.toArray 146)=w3:=⟨_,rfl⟩;obtain⟨v0,qc,qf,ql,qb⟩:=ae.out w2 w3 B2.out ak;obtain⟨w5,aD⟩:∃ w5,w3.setCell ⟨w2.heap.size,22,none⟩ (.string S2)=w5:=⟨_,rfl⟩;rw[aD] at ql qb;have QL:=hid ql;obtain⟨q1,q2,q3⟩:=ap.out w5 qb;have Q1:=hid q1;have Q2:=hid q2;have Q3:=hid q3;clear ql qb q1 q2 q3;clear hb c2)
  | (refine z8 rfl _ (vz 146 0 1 (.tmp 21) (.tmp 22) rfl (.string ⟨#[108,105,110,107]⟩) (.string NM) (.agg j.toArray) rfl rfl (am.out _)) ?_;go_frame)
  | (refine zq rfl 146 (.tmp 8) (.tmp 23) rfl _ j.toArray rfl rfl ar.out (by rw[<-aw.out];rfl) au.out ?_;rw[ak];go_frame)
  | (refine wpList_load_mid rfl 146 (.tmp 8) rfl _ 0 rfl FL _ QL.out underlying146 rfl Q.out ?_;go_frame)
  | (refine wpList_store_row rfl 146 (.tmp 2) (.tmp 39) rfl w.heap.size FL.toArray rfl rfl 146 _ Q1.out ad.out ax.out av.out ?_))
 exact bodyPost_ret (yq results141 _ _ w.heap.size FL _ rfl (zw Q2.out) underlying146 rfl Q.out) rfl ⟨rfl,Q3.out⟩
theorem BJ (s:Sp) (h:StR s) (hw:s.word=wR) (w:World) (am:Ers w) (ap:Mx w):Calls prog 141 #[sV (lnS s)] w fun r w'=>r=.returned (.agg (zJ (cnS s)).toArray)/\Below w.heap.size w w':=by
 have a7:=qX h.nm;have Q:(32:UInt8) ∉ s.name:=fun hc=>by have:=jJ h.nm 32 hc;simp at this
 have Y:cnS s=⟨wR,s.name,s.id,[],zL⟩:=by unfold cnS;rw[hw];rfl
 obtain⟨r1,O⟩:∃ r,s.name++32 :: yV s.id=r:=⟨_,rfl⟩;obtain⟨r2,a8⟩:∃ r:Str,yV s.id=r:=⟨_,rfl⟩;have M:lnS s=wR++32 :: r1:=by rw[<-O];unfold lnS wsS;rw[hw];simp[jw,wR,wL,wD,wG]
 have k1:Lib.cut (lnS s) [32]=(wR,r1,true):=by rw[M];exact vW _ _ _ (by unfold wR;decide)
 have k2:Lib.cut r1 [32]=(s.name,r2,true):=by rw[<-O,<-a8];exact vW _ _ _ Q
 have aF:(lnS s).length<=300000:=by rw[M,<-O];simp[wR,xj,h.id.1];omega
 have aE:r1.length<=300000:=by have:=congrArg Wzw M;simp only[Wzy,Wzu] at this;omega
 have c1:=fun W hm=>Uu (lnS s) [32] (by omega) _ _ _ k1 W hm;have c2:=fun W hm=>Uu r1 [32] (by omega) _ _ _ k2 W hm;obtain⟨S0,H0⟩:=nm_ (⟨(lnS s).toArray⟩:ByteArray);obtain⟨S1,H1⟩:=nm_ (⟨r1.toArray⟩:ByteArray);obtain⟨S2,H2⟩:=nm_ (⟨r2.toArray⟩:ByteArray);obtain⟨NM,ah⟩:=nm_ (⟨s.name.toArray⟩:ByteArray);have d1:=fun W=>W7 s.id h.id W;rw[a8] at d1;unfold sV at d1
 rw[H2.out] at d1;obtain⟨R,hR⟩:∃ R,row .u8 s.id=R:=⟨_,rfl⟩;rw[hR] at d1;have A:Hid (R.length=20):=hid (by rw[<-hR,zv];exact h.id.1);have ad:Hid ((prog.info? 116).map (·.size)=some R.toArray.size):=hid (by rw[Wyu,A.out];kernel_rfl);have ai:Hid (R.toArray.all (·.oneCell')=true):=hid (all_oneCell_toArray (by rw[<-hR];exact yK _ _))
 unfold sV at c1 c2 ⊢;rw[H0.out,H1.out] at c1;rw[H1.out,ah.out,H2.out] at c2;rw[H0.out];unfold wR at c1;obtain⟨j,D⟩:∃ B,zJ ⟨wR,s.name,zZ,[],zL⟩=B:=⟨_,rfl⟩;have J:j.length=68:=by rw[<-D];exact qx ⟨yz.1,yz,a7,by simp⟩
 have au:Hid (∀ W:World,(Instr.build 146 #[(0,.string ⟨#[114,101,102]⟩),(1,.string NM)]).run prog W=.ok (.agg j.toArray) W):=fun W=>by rw[<-D,<-ah.out];exact bdS2 _ _ W
 have ax:Hid ((prog.info? 146).map (·.size)=some j.toArray.size):=hid (by rw[Wyu,J];kernel_rfl);have aA:Hid (68=j.toArray.size):=hid (by rw[Wyu,J]);have ay:Hid (j.toArray.all (·.oneCell')=true):=hid (all_oneCell_toArray (by rw[<-D];exact yk _));obtain⟨FL,G⟩:∃ B,zJ (cnS s)=B:=⟨_,rfl⟩
 have K:FL.length=68:=by rw[<-G,Y];exact qx ⟨h.id,yz,a7,by simp⟩
 have V:Hid ((prog.info? 146).map (·.size)=some FL.length):=hid (by rw[K];kernel_rfl);have ae:Hid ((prog.info? 146).map (·.size)=some FL.toArray.size):=hid (by rw[Wyu];exact V.out);have az:Hid (FL.toArray.all (·.oneCell')=true):=hid (all_oneCell_toArray (by rw[<-G];exact yk _));obtain⟨Z,HZ⟩:=nm_ ((zJ ⟨[],[],zZ,[],zL⟩).toArray)
 have aB:Hid (Z.size=FL.toArray.size):=hid (by rw[show FL.toArray.size=68 by rw[Wyu];exact K,<-HZ.out];rfl);obtain⟨w0,L⟩:∃ w0,w.alloc (.cells Z 146)=w0:=⟨_,rfl⟩;have aC:Hid (w.alloc (.cells (zJ ⟨[],[],zZ,[],zL⟩).toArray 146)=w0):=hid (by rw[HZ.out];exact L);have I:Below w.heap.size w w0:=by rw[<-L];exact(Below.refl _ _).alloc (Wz8 _) _
 have a6:w0.heap[w.heap.size]? = some (.cells Z 146):=by rw[<-L];exact heap_alloc_new _ _
 have aG:w0.heap.size=w.heap.size+1:=by rw[<-L];simp
 have ac:Hid (∀ W,Below w0.heap.size w0 W->Mx W/\Ers W):=fun W hW=>⟨(ap.below I).below hW,(am.below I).below hW⟩;have aw:Hid (∀ W,Below w0.heap.size w0 W->W.heap[w.heap.size]? = some (.cells Z 146)/\(W.setRow w.heap.size FL.toArray).heap[w.heap.size]? = some (.cells FL.toArray 146)/\Below w.heap.size w (W.setRow w.heap.size FL.toArray)):=fun W hW=>by
  have q1:=(hW.block _ (z7 a6)).trans a6;exact⟨q1,setRow_heap _ _ _ _ _ _ q1,below_setRow (I.trans (hW.mono I.size)) (Wz8 _) _⟩
 have av:=hid (Below.refl w0.heap.size w0);have ag:Hid (∀ w2 w3,Below w0.heap.size w0 w2->w2.alloc (.cells j.toArray 146)=w3->∀ w4,Below w3.heap.size w3 w4->w4.there w2.heap.size 2 R.toArray.size/\(w4.setCells w2.heap.size 2 R.toArray.toList).rangeAt w2.heap.size 0 FL/\Below w0.heap.size w0 (w4.setCells w2.heap.size 2 R.toArray.toList)):=fun w2 w3 h2 h3 w4 h4=>by
  have ao:w3.heap[w2.heap.size]? = some (.cells j.toArray 146):=by rw[<-h3];exact heap_alloc_new _ _
  have ak:Below w0.heap.size w0 w3:=by rw[<-h3];exact h2.alloc h2.size _
  have hk:w4.heap[w2.heap.size]? = some (.cells j.toArray 146):=(h4.block _ (z7 ao)).trans ao;have aD:=ak.trans (h4.mono ak.size);refine⟨YV hk 2 _ (by rw[Wyu,A.out];omega),?_,zW h2.size _ _ _ _ aD⟩;rw[Wxv,<-G,Y];have e0:j=[sV wR,sV s.name]++(row .u8 zZ++(sV [] :: qw zL)):=by rw[<-D];rfl
  rw[e0] at hk;have:=I4 [sV wR,sV s.name] (row .u8 zZ) (sV [] :: qw zL) R hk (by rw[A.out];rfl);rw[<-hR] at this ⊢;exact this
 rw[G];clear k1 k2 M aE aF O a8 Q a7 Y I a6 aG K G J D am ap L h hw hR;go_enter func141,ntmps141;go_wp2_with fail
 change Calls prog 174 #[.string S0,.string ⟨#[32]⟩] (w.alloc (.cells (zJ ⟨[],[],zZ,[],zL⟩).toArray 146)) _;rw[aC.out];refine(c1 w0 (ac.out w0 av.out).1).mono ?_;rintro r w1 ⟨rfl,aj⟩;have B1:Hid (Below w0.heap.size w0 w1):=hid aj;clear aj c1;go_wp2_with (first
  | (go_at_call 174;refine(c2 _ (ac.out _ B1.out).1).mono ?_;rintro r w2 ⟨rfl,hb⟩;have B2:Hid (Below w0.heap.size w0 w2):=hid (B1.out.trans (hb.mono B1.out.size));obtain⟨w3,ar⟩:∃ w3,w2.alloc (.cells j.toArray 146)=w3:=⟨_,rfl⟩;skip;clear hb c2)
  | (refine z8 rfl _ (vz 146 0 1 (.tmp 21) (.tmp 22) rfl (.string ⟨#[114,101,102]⟩) (.string NM) (.agg j.toArray) rfl rfl (au.out _)) ?_;go_frame)
  | (refine zq rfl 146 (.tmp 8) (.tmp 23) rfl _ j.toArray rfl rfl ax.out (by rw[<-aA.out];rfl) ay.out ?_;rw[ar];go_frame)
  | (go_at_call 175;refine(d1 _).mono ?_;rintro r w4 ⟨rfl,hb⟩;obtain⟨qt,ql,qb⟩:=ag.out w2 w3 B2.out ar w4 hb;have QT:=hid qt;have QL:=hid ql;obtain⟨q1,q2,q3⟩:=aw.out _ qb;have Q1:=hid q1;have Q2:=hid q2;have Q3:=hid q3;clear hb qt ql qb q1 q2 q3 d1)
  | (refine wpList_store_mid rfl 116 (.tmp 29) (.tmp 28) rfl _ 2 R.toArray rfl rfl QT.out ad.out ai.out ?_;go_frame)
  | (refine wpList_load_mid rfl 146 (.tmp 8) rfl _ 0 rfl FL _ QL.out underlying146 rfl V.out ?_;go_frame)
  | (refine wpList_store_row rfl 146 (.tmp 2) (.tmp 39) rfl w.heap.size FL.toArray rfl rfl 146 _ Q1.out ae.out aB.out az.out ?_))
 exact bodyPost_ret (yq results141 _ _ w.heap.size FL _ rfl (zw Q2.out) underlying146 rfl V.out) rfl ⟨rfl,Q3.out⟩
theorem BK (s:Sp) (h:StR s) (hw:s.word=wG) (hg:okG s.e.who s.e.text) (w:World) (ap:Ers w) (au:Mx w):Calls prog 141 #[sV (lnS s)] w fun r w'=>r=.returned (.agg (zJ (cnS s)).toArray)/\Below w.heap.size w w':=by
 have a8:=qX h.nm;have Q:(32:UInt8) ∉ s.name:=fun hc=>by have:=jJ h.nm 32 hc;simp at this
 have a6:cnS s=⟨wG,s.name,zZ,[],s.e⟩:=by unfold cnS;rw[hw];rfl
 obtain⟨r1,O⟩:∃ r,s.name++32 :: ewS s.e=r:=⟨_,rfl⟩;obtain⟨r2,ac⟩:∃ r:Str,ewS s.e=r:=⟨_,rfl⟩;have M:lnS s=wG++32 :: r1:=by rw[<-O];unfold lnS wsS;rw[hw];simp[jw,wR,wL,wD,wG,ewS]
 have k1:Lib.cut (lnS s) [32]=(wG,r1,true):=by rw[M];exact vW _ _ _ (by unfold wG;decide)
 have k2:Lib.cut r1 [32]=(s.name,r2,true):=by rw[<-O,<-ac];exact vW _ _ _ Q
 have aI:(xk s.e.who).length<=300:=by
  obtain⟨h1,h2,⟨h3,h4⟩,h5,h6⟩:=hg.1;have:=h1.1;have:=h2.1;have:=uY s.e.who.time.toNat (by omega);unfold xk;simp[xy,two];omega
 have aF:(ewS s.e).length<=10000:=by
  have:=hg.2.1;unfold ewS;simp only[Wzy,Wzu,xj,h.e.1.1,h.e.2.1];omega
 have aH:(lnS s).length<=300000:=by rw[M,<-O];simp[wG,xj,h.id.1];omega
 have aG:r1.length<=300000:=by have:=congrArg Wzw M;simp only[Wzy,Wzu] at this;omega
 have c1:=fun W hm=>Uu (lnS s) [32] (by omega) _ _ _ k1 W hm;have c2:=fun W hm=>Uu r1 [32] (by omega) _ _ _ k2 W hm;obtain⟨S0,H0⟩:=nm_ (⟨(lnS s).toArray⟩:ByteArray);obtain⟨S1,H1⟩:=nm_ (⟨r1.toArray⟩:ByteArray);obtain⟨S2,H2⟩:=nm_ (⟨r2.toArray⟩:ByteArray);obtain⟨NM,ai⟩:=nm_ (⟨s.name.toArray⟩:ByteArray)
 have d1:=fun W h1 h2=>PJ s.e h.e hg.1 (by have:=hg.2.1;omega) W h1 h2;rw[ac] at d1;unfold sV at d1;rw[H2.out] at d1;obtain⟨R,hE⟩:∃ R,qw s.e=R:=⟨_,rfl⟩;rw[hE] at d1;have A:Hid (R.length=45):=hid (by rw[<-hE];exact yQ h.e);have ae:Hid ((prog.info? 133).map (·.size)=some R.toArray.size):=hid (by rw[Wyu,A.out];kernel_rfl)
 have aj:Hid (R.toArray.all (·.oneCell')=true):=hid (all_oneCell_toArray (by rw[<-hE];exact uZ _));unfold sV at c1 c2 ⊢;rw[H0.out,H1.out] at c1;rw[H1.out,ai.out,H2.out] at c2;rw[H0.out];unfold wG at c1;obtain⟨j,D⟩:∃ B,zJ ⟨wG,s.name,zZ,[],zL⟩=B:=⟨_,rfl⟩;have J:j.length=68:=by rw[<-D];exact qx ⟨yz.1,yz,a8,by simp⟩
 have av:Hid (∀ W:World,(Instr.build 146 #[(0,.string ⟨#[108,111,103]⟩),(1,.string NM)]).run prog W=.ok (.agg j.toArray) W):=fun W=>by rw[<-D,<-ai.out];exact bdS2 _ _ W
 have ay:Hid ((prog.info? 146).map (·.size)=some j.toArray.size):=hid (by rw[Wyu,J];kernel_rfl);have aB:Hid (68=j.toArray.size):=hid (by rw[Wyu,J]);have az:Hid (j.toArray.all (·.oneCell')=true):=hid (all_oneCell_toArray (by rw[<-D];exact yk _));obtain⟨FL,G⟩:∃ B,zJ (cnS s)=B:=⟨_,rfl⟩
 have K:FL.length=68:=by rw[<-G,a6];exact qx ⟨yz.1,h.e,a8,by simp⟩
 have Y:Hid ((prog.info? 146).map (·.size)=some FL.length):=hid (by rw[K];kernel_rfl);have ag:Hid ((prog.info? 146).map (·.size)=some FL.toArray.size):=hid (by rw[Wyu];exact Y.out);have aA:Hid (FL.toArray.all (·.oneCell')=true):=hid (all_oneCell_toArray (by rw[<-G];exact yk _));obtain⟨Z,HZ⟩:=nm_ ((zJ ⟨[],[],zZ,[],zL⟩).toArray)
 have aC:Hid (Z.size=FL.toArray.size):=hid (by rw[show FL.toArray.size=68 by rw[Wyu];exact K,<-HZ.out];rfl);obtain⟨w0,L⟩:∃ w0,w.alloc (.cells Z 146)=w0:=⟨_,rfl⟩;have aD:Hid (w.alloc (.cells (zJ ⟨[],[],zZ,[],zL⟩).toArray 146)=w0):=hid (by rw[HZ.out];exact L);have I:Below w.heap.size w w0:=by rw[<-L];exact(Below.refl _ _).alloc (Wz8 _) _
 have a7:w0.heap[w.heap.size]? = some (.cells Z 146):=by rw[<-L];exact heap_alloc_new _ _
 have aJ:w0.heap.size=w.heap.size+1:=by rw[<-L];simp
 have V:Hid (∀ W,Below w0.heap.size w0 W->Mx W/\Ers W):=fun W hW=>⟨(au.below I).below hW,(ap.below I).below hW⟩;have ax:Hid (∀ W,Below w0.heap.size w0 W->W.heap[w.heap.size]? = some (.cells Z 146)/\(W.setRow w.heap.size FL.toArray).heap[w.heap.size]? = some (.cells FL.toArray 146)/\Below w.heap.size w (W.setRow w.heap.size FL.toArray)):=fun W hW=>by
  have q1:=(hW.block _ (z7 a7)).trans a7;exact⟨q1,setRow_heap _ _ _ _ _ _ q1,below_setRow (I.trans (hW.mono I.size)) (Wz8 _) _⟩
 have aw:=hid (Below.refl w0.heap.size w0);have ah:Hid (∀ w2 w3,Below w0.heap.size w0 w2->w2.alloc (.cells j.toArray 146)=w3->∀ w4,Below w3.heap.size w3 w4->w4.there w2.heap.size 23 R.toArray.size/\(w4.setCells w2.heap.size 23 R.toArray.toList).rangeAt w2.heap.size 0 FL/\Below w0.heap.size w0 (w4.setCells w2.heap.size 23 R.toArray.toList)):=fun w2 w3 h2 h3 w4 h4=>by
  have ar:w3.heap[w2.heap.size]? = some (.cells j.toArray 146):=by rw[<-h3];exact heap_alloc_new _ _
  have ao:Below w0.heap.size w0 w3:=by rw[<-h3];exact h2.alloc h2.size _
  have hk:w4.heap[w2.heap.size]? = some (.cells j.toArray 146):=(h4.block _ (z7 ar)).trans ar;have aE:=ao.trans (h4.mono ao.size);refine⟨YV hk 23 _ (by rw[Wyu,A.out];omega),?_,zW h2.size _ _ _ _ aE⟩;rw[Wxv,<-G,a6]
  have e0:j=(sV wG :: sV s.name :: (row .u8 zZ++[sV []]))++(qw zL++[]):=by rw[<-D];unfold zJ;simp
  rw[e0] at hk;have:=I4 (sV wG :: sV s.name :: (row .u8 zZ++[sV []])) (qw zL) [] R hk (by rw[A.out];rfl);rw[List.append_nil,<-hE] at this;rw[<-hE];have e1:zJ ⟨wG,s.name,zZ,[],s.e⟩=(sV wG :: sV s.name :: (row .u8 zZ++[sV []]))++qw s.e:=by unfold zJ;simp
  rw[e1];exact this
 rw[G];clear k1 k2 M aG aH O ac Q a8 a6 I a7 aJ K G J D ap au L h hw hg hE aI aF;go_enter func141,ntmps141;go_wp2_with fail
 change Calls prog 174 #[.string S0,.string ⟨#[32]⟩] (w.alloc (.cells (zJ ⟨[],[],zZ,[],zL⟩).toArray 146)) _;rw[aD.out];refine(c1 w0 (V.out w0 aw.out).1).mono ?_;rintro r w1 ⟨rfl,am⟩;have B1:Hid (Below w0.heap.size w0 w1):=hid am;clear am c1;go_wp2_with (first
  | (go_at_call 174;refine(c2 _ (V.out _ B1.out).1).mono ?_;rintro r w2 ⟨rfl,hb⟩;have B2:Hid (Below w0.heap.size w0 w2):=hid (B1.out.trans (hb.mono B1.out.size));obtain⟨w3,ad⟩:∃ w3,w2.alloc (.cells j.toArray 146)=w3:=⟨_,rfl⟩;have ak:Hid (Mx w3/\Ers w3):=hid (V.out w3 (by rw[<-ad];exact B2.out.alloc B2.out.size _));clear hb c2)
  | (refine z8 rfl _ (vz 146 0 1 (.tmp 21) (.tmp 22) rfl (.string ⟨#[108,111,103]⟩) (.string NM) (.agg j.toArray) rfl rfl (av.out _)) ?_;go_frame)
  | (refine zq rfl 146 (.tmp 8) (.tmp 23) rfl _ j.toArray rfl rfl ay.out (by rw[<-aB.out];rfl) az.out ?_;rw[ad];go_frame)
  | (go_at_call 176;refine(d1 _ (ak.out).2 (ak.out).1).mono ?_;rintro r w4 ⟨rfl,hb⟩;obtain⟨qt,ql,qb⟩:=ah.out w2 w3 B2.out ad w4 hb;have QT:=hid qt;have QL:=hid ql;obtain⟨q1,q2,q3⟩:=ax.out _ qb;have Q1:=hid q1;have Q2:=hid q2;have Q3:=hid q3;clear hb qt ql qb q1 q2 q3 d1)
  | (refine wpList_store_mid rfl 133 (.tmp 38) (.tmp 37) rfl _ 23 R.toArray rfl rfl QT.out ae.out aj.out ?_;go_frame)
  | (refine wpList_load_mid rfl 146 (.tmp 8) rfl _ 0 rfl FL _ QL.out underlying146 rfl Y.out ?_;go_frame)
  | (refine wpList_store_row rfl 146 (.tmp 2) (.tmp 39) rfl w.heap.size FL.toArray rfl rfl 146 _ Q1.out ag.out aC.out aA.out ?_))
 exact bodyPost_ret (yq results141 _ _ w.heap.size FL _ rfl (zw Q2.out) underlying146 rfl Y.out) rfl ⟨rfl,Q3.out⟩
theorem BV (s:Sp) (h:StR s) (w:World) (j:Ers w) (A:Mx w):Calls prog 141 #[sV (lnS s)] w fun r w'=>r=.returned (.agg (zJ (cnS s)).toArray)/\Below w.heap.size w w':=by
 rcases h.kind with D | ⟨D,G⟩ | D | ⟨D,G⟩
 ·exact BJ s h D w j A
 ·exact PW s h D G w j A
 ·exact PK s h D w j A
 exact BK s h D G w j A
end Go.Proofs.YtdnphaganajejaaGreatDoor.K
