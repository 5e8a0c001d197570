import Derived.Test.YtdnphaganajejaaGreatDoorMz14
set_option linter.unusedSimpArgs false
set_option linter.unusedVariables false
set_option maxRecDepth 20000
set_option maxHeartbeats 4000000
open List renaming mem_cons->Wqj,mem_range->Wx5
namespace Go.Proofs.YtdnphaganajejaaGreatDoor.K
open Go.Proofs.Tryz
open Go.RowKit
theorem Uk {P:Program} (d:Nat) (e:TypeId) (I:P.plainKey e=true) (J:P.underlying e=some (.int .u8)) (xs A:List Int):∀ (is:List Nat) (w:World),(∀ j ∈ is,j<xs.length/\j<A.length)->(Op.eqItems (d+1) e 1 (row .u8 xs).toArray (row .u8 A).toArray is).run P w=.ok (is.all fun j=>xs.getD j 0 == A.getD j 0) w
 | [],w,_=>by simp[Op.eqItems]
 | j :: is,w,h=>by
  have K:=h j (by simp);have O:(part e (row .u8 xs).toArray j).run P w=.ok (.int .u8 (xs.getD j 0)) w:=run_part_plain w I (by simpa using uW .u8 xs j K.1);have Q:(part e (row .u8 A).toArray j).run P w=.ok (.int .u8 (A.getD j 0)) w:=run_part_plain w I (by simpa using uW .u8 A j K.2);have L:=Uk d e I J xs A is w (fun k M=>h k (by simp[M]))
  simp only[Op.eqItems,Sem.run_bind,Nat.mul_one,O,Q,Result.andThen_ok];by_cases D:xs.getD j 0=A.getD j 0
  ·have G:xs[j]?.getD 0=A[j]?.getD 0:=(by simpa using D);simp[go_sem,J,L,G]
  have G:¬ xs[j]?.getD 0=A[j]?.getD 0:=by simpa using D
  simp[go_sem,J,L,G]
theorem zxv (x y:List Int) (hx:x.length=20) (hy:y.length=20):((List.range 20).all fun j=>x.getD j 0 == y.getD j 0)=decide (x=y):=by
 by_cases h:x=y
 ·subst h;simp
 rw[decide_eq_false h,Bool.eq_false_iff];intro A;refine h (List.ext_getElem (by rw[hx,hy]) (fun j D G=>?_));have:=List.all_eq_true.1 A j (Wx5.2 (by omega));simpa [D,G] using this
theorem qu6:prog.cellsOf 5=1:=by kernel_rfl
theorem qu7:prog.plainKey 5=true:=by kernel_rfl
theorem zz5:prog.underlying 5=some (.int .u8):=by kernel_rfl
theorem info5:(prog.info? 5).map (fun i=>(i.zero,i.size,i.bytes))=some (some (.int .u8 0),1,1):=by kernel_rfl
theorem Y8:prog.underlying 116=some (.array 20 5):=by kernel_rfl
theorem Bj:prog.underlying 91=some (.array 20 5):=by kernel_rfl
def z89:Array Value:=#[.int .u8 0,.int .u8 0,.int .u8 0,.int .u8 0,.int .u8 0,.int .u8 0,.int .u8 0,.int .u8 0,.int .u8 0,.int .u8 0,.int .u8 0,.int .u8 0,.int .u8 0,.int .u8 0,.int .u8 0,.int .u8 0,.int .u8 0,.int .u8 0,.int .u8 0,.int .u8 0]
theorem Fy:(row .u8 zZ).toArray=z89:=rfl
theorem KZ (t:TypeId) (D:prog.underlying t=some (.array 20 5)) (x y:List Int) (hx:x.length=20) (hy:y.length=20) (w:World):(Op.equalIn 10000 t (.agg (row .u8 x).toArray) (.agg (row .u8 y).toArray)).run prog w=.ok (decide (x=y)) w:=by
 obtain⟨i5,hi,-⟩:=qQ info5;have h:=Uk (P:=prog) 9998 5 qu7 zz5 x y (List.range 20) w (fun j A=>by rw[hx,hy];exact⟨Wx5.1 A,Wx5.1 A⟩);rw[zxv x y hx hy] at h;rw[show (10000:Nat)=9999+1 from rfl,run_equalIn_array w 9999 _ _ D hi,qu6];exact h
end Go.Proofs.YtdnphaganajejaaGreatDoor.K
namespace Go.Proofs
open Go.Proofs.Tryz
open Go.Shelf
def lays105_ren:Go.Shelf.Ren:=⟨fun | 105=>114 | 212=>150 | 99=>66 | 165=>151 | 166=>152 | 170=>153 | 169=>154 | 263=>192 | 264=>193 | 206=>105 | 240=>194 | 241=>195 | 276=>219 | 277=>220 | n=>n,fun | 9=>9 | 3=>3 | 4=>4 | 20=>20 | 0=>0 | 46=>24 | 109=>253 | 5=>5 | 72=>257 | 76=>259 | 51=>235 | 146=>292 | 53=>237 | 148=>294 | 70=>255 | 37=>82 | 75=>27 | 127=>296 | 164=>104 | 80=>262 | n=>n,fun | n=>n⟩
theorem lays105:Go.Proofs.Lays.n105 prog lays105_ren:={
 mixed:=by kernel_rfl
 f99:=func66.trans (congrArg some (by kernel_rfl))
 f105:=func114.trans (congrArg some (by kernel_rfl))
 f165:=func151.trans (congrArg some (by kernel_rfl))
 f166:=func152.trans (congrArg some (by kernel_rfl))
 f169:=func154.trans (congrArg some (by kernel_rfl))
 f170:=func153.trans (congrArg some (by kernel_rfl))
 f206:=func105.trans (congrArg some (by kernel_rfl))
 f212:=func150.trans (congrArg some (by kernel_rfl))
 f240:=func194.trans (congrArg some (by kernel_rfl))
 f241:=func195.trans (congrArg some (by kernel_rfl))
 f263:=func192.trans (congrArg some (by kernel_rfl))
 f264:=func193.trans (congrArg some (by kernel_rfl))
 f276:=func219.trans (congrArg some (by kernel_rfl))
 f277:=func220.trans (congrArg some (by kernel_rfl))
 t0:=underlying0
 a0:=isAgg0
 z0:=sizeOf0
 v0:=zeroValue0
 t3:=underlying3
 a3:=isAgg3
 z3:=sizeOf3
 v3:=zeroValue3
 t4:=underlying4
 a4:=isAgg4
 z4:=sizeOf4
 v4:=zeroValue4
 t5:=underlying5
 a5:=isAgg5
 z5:=sizeOf5
 v5:=zeroValue5
 t9:=underlying9
 a9:=isAgg9
 z9:=sizeOf9
 v9:=zeroValue9
 t20:=underlying20
 a20:=isAgg20
 z20:=sizeOf20
 v20:=zeroValue20
 t37:=underlying82
 a37:=isAgg82
 z37:=sizeOf82
 v37:=zeroValue82
 t46:=underlying24
 a46:=isAgg24
 z46:=sizeOf24
 v46:=zeroValue24
 t51:=underlying235
 a51:=isAgg235
 z51:=sizeOf235
 v51:=zeroValue235
 t53:=underlying237
 a53:=isAgg237
 z53:=sizeOf237
 v53:=zeroValue237
 t70:=underlying255
 a70:=isAgg255
 z70:=sizeOf255
 v70:=zeroValue255
 t72:=underlying257
 a72:=isAgg257
 z72:=sizeOf257
 v72:=zeroValue257
 t75:=underlying27
 a75:=isAgg27
 z75:=sizeOf27
 v75:=zeroValue27
 t76:=underlying259
 a76:=isAgg259
 z76:=sizeOf259
 v76:=zeroValue259
 t109:=underlying253
 a109:=isAgg253
 z109:=sizeOf253
 v109:=zeroValue253
 t127:=underlying296
 a127:=isAgg296
 z127:=sizeOf296
 v127:=zeroValue296
 t146:=underlying292
 a146:=isAgg292
 z146:=sizeOf292
 v146:=zeroValue292
 t148:=underlying294
 a148:=isAgg294
 z148:=sizeOf294
 v148:=zeroValue294
 t164:=underlying104
 a164:=isAgg104
 z164:=sizeOf104
 v164:=zeroValue104 }
def lays102_ren:Go.Shelf.Ren:=⟨fun | 102=>142 | 209=>177 | 207=>108 | n=>n,fun | 9=>9 | 4=>4 | 3=>3 | n=>n,fun | n=>n⟩
theorem lays102:Go.Proofs.Lays.n102 prog lays102_ren:={
 mixed:=by kernel_rfl
 f102:=func142.trans (congrArg some (by kernel_rfl))
 f207:=func108.trans (congrArg some (by kernel_rfl))
 f209:=func177.trans (congrArg some (by kernel_rfl))
 t3:=underlying3
 a3:=isAgg3
 z3:=sizeOf3
 v3:=zeroValue3
 t4:=underlying4
 a4:=isAgg4
 z4:=sizeOf4
 v4:=zeroValue4
 t9:=underlying9
 a9:=isAgg9
 z9:=sizeOf9
 v9:=zeroValue9 }
theorem Builder_Extra_105:Builder.Extra prog lays105_ren:={
 sizeBuilder:=by kernel_rfl
 liesBuilder:=by kernel_rfl
 t5:=underlying5
 a5:=isAgg5
 z5:=sizeOf5
 v5:=zeroValue5
 infoByte:=by kernel_rfl
 cellsByte:=by kernel_rfl
 sizeByte:=by kernel_rfl
 neB5:=by decide }
end Go.Proofs
namespace Go.Proofs.YtdnphaganajejaaGreatDoor.K
open Go.Proofs.Tryz
open Go.RowKit
abbrev Rx:=Str × Kp
abbrev Ex:=Str × Le
def yx (x:Rx):List Value:=sV x.1 :: (row .u8 x.2.1++[sV x.2.2])
def yj (x:Ex):List Value:=sV x.1 :: qw x.2
abbrev dR:Rx:=([],[],[])
abbrev dE:Ex:=([],dL)
def jW (x:Rx):Prop:=x.1.length<=60/\IdW x.2.1/\x.2.2.length<=60
def X7 (x:Ex):Prop:=x.1.length<=60/\vY x.2
theorem vq {x:Rx} (h:jW x):(yx x).length=22:=by simp[yx,zv,h.2.1.1]
theorem yX {x:Ex} (h:X7 x):(yj x).length=46:=by simp[yj,yQ h.2]
theorem Y9 (x:Rx):∀ v ∈ yx x,v.oneCell'=true:=fun v hv=>by
 unfold yx at hv;simp only[Wqj,List.mem_append,List.not_mem_nil,or_false] at hv;rcases hv with rfl | hv | rfl
 ·rfl
 ·exact yK .u8 x.2.1 v hv
 rfl
theorem jz (x:Ex):∀ v ∈ yj x,v.oneCell'=true:=fun v hv=>by
 unfold yj at hv;simp only[Wqj] at hv;rcases hv with rfl | hv
 ·rfl
 exact uZ x.2 v hv
structure Dq (G:Nat) (w:World) (Q:Nat) (v1 v2:Value) (rs:List Rx) (ls:List Ex):Prop where
 box:w.heap[Q]? = some (.cells #[v1,v2] 39 (0,0))
 r1:w.ownsRow G 93 22 v1 rs.length (rs.flatMap yx)
 r2:w.ownsRow G 144 46 v2 ls.length (ls.flatMap yj)
 ok1:∀ x ∈ rs,jW x
 ok2:∀ x ∈ ls,X7 x
 few:rs.length<=100000/\ls.length<=1000000
theorem vj {w W:World} {B e k n:Nat} {v:Value} {xs:List Value} (h:w.ownsRow B e k v n xs) (hb:Below w.heap.size w W):W.ownsRow B e k v n xs :=
 h.kept (row:=none) ⟨hb.os,hb.tape,hb.output,hb.size,fun k j _=>hb.block k j⟩ (by cases h:v.ownBlock <;> simp)
theorem Dq.below {G Q:Nat} {w W:World} {j v2:Value} {rs:List Rx} {ls:List Ex} (h:Dq G w Q j v2 rs ls) (hb:Below w.heap.size w W):Dq G W Q j v2 rs ls :=
 ⟨(hb.block Q (z7 h.box)).trans h.box,vj h.r1 hb,vj h.r2 hb,h.ok1,h.ok2,h.few⟩
theorem uX {α:Type} {enc:α->List Value} {k:Nat} {d:α} {e:TypeId} {w:World} {B:Nat} {v:Value} {l:List α} (h:w.ownsRow B e k v l.length (l.flatMap enc)) (G:∀ x ∈ l,(enc x).length=k):∃ a cap,v=.slice a l.length cap/\Px enc k d w a cap l/\∀ p:Addr,a=some p->B<=p.block/\p.block<w.heap.size:=by
 have hb:Bx enc k e w w 0 v l:=⟨Below.refl _ _,kX h,Nat.zero_le _⟩;obtain⟨a,c,e1,A,D,_⟩:=hb.px (d:=d) G;refine⟨a,c,e1,A,fun p j=>⟨?_,(D p j).2⟩⟩;subst e1;subst j;exact(yu h p.block (by simp[Value.ownBlock])).1
theorem Dq.px1 {G Q:Nat} {w:World} {j v2:Value} {rs:List Rx} {ls:List Ex} (h:Dq G w Q j v2 rs ls):∃ a c,j=.slice a rs.length c/\Px yx 22 dR w a c rs/\(∀ p:Addr,a=some p->G<=p.block/\p.block<w.heap.size)/\w.cell? ⟨Q,0,none⟩=some (.slice a rs.length c):=by
 obtain⟨a,c,e1,A,D⟩:=uX (d:=dR) h.r1 (fun x hx=>vq (h.ok1 x hx));exact⟨a,c,e1,A,D,by simp[World.cell?,h.box,e1]⟩
theorem Dq.px2 {G Q:Nat} {w:World} {D v2:Value} {rs:List Rx} {ls:List Ex} (h:Dq G w Q D v2 rs ls):∃ a c,v2=.slice a ls.length c/\Px yj 46 dE w a c ls/\(∀ p:Addr,a=some p->G<=p.block/\p.block<w.heap.size)/\w.cell? ⟨Q,1,none⟩=some (.slice a ls.length c):=by
 obtain⟨a,c,e1,j,A⟩:=uX (d:=dE) h.r2 (fun x hx=>yX (h.ok2 x hx));exact⟨a,c,e1,j,A,by simp[World.cell?,h.box,e1]⟩
def fI (rs:List Rx) (x:Str):Option Nat:=rs.findIdx? (fun r=>decide (r.1=x))
def iV (o:Option Nat):Int:=match o with
 | some i=>(i:Int)
 | none => -1
theorem qzZ {rs:List Rx} {x:Str} {i:Nat} (hi:i<rs.length) (h0:∀ j,j<i->(rs.getD j dR).1 ≠ x) (h:(rs.getD i dR).1=x):fI rs x=some i:=by
 unfold fI;rw[List.findIdx?_eq_some_iff_getElem];refine⟨hi,?_,fun j A=>?_⟩
 ·rw[List.getD_eq_getElem?_getD,List.getElem?_eq_getElem hi] at h;simpa using h
 have:=h0 j A;rw[List.getD_eq_getElem?_getD,List.getElem?_eq_getElem (by omega)] at this;simpa using this
theorem qzQ {rs:List Rx} {x:Str} (h0:∀ j,j<rs.length->(rs.getD j dR).1 ≠ x):fI rs x=none:=by
 unfold fI;rw[List.findIdx?_eq_none_iff];intro r hr;obtain⟨j,h,rfl⟩:=List.getElem_of_mem hr;have:=h0 j h;rw[List.getD_eq_getElem?_getD,List.getElem?_eq_getElem h] at this;simpa using this
theorem jY:∀ (rs:List Rx) (x:Str),(∀ i,fI rs x=some i->i<rs.length/\(rs.getD i dR).1=x/\Rk.fd rs x=some (rs.getD i dR).2)/\(fI rs x=none->Rk.fd rs x=none)
 | [],x=>⟨fun i h=>by simp[fI] at h,fun _=>rfl⟩
 | r :: rs,x=>by
  obtain⟨A,D⟩:=jY rs x;by_cases e:r.1=x
  ·refine⟨fun i h=>?_,fun h=>?_⟩
   ·simp[fI,List.findIdx?_cons,e] at h;subst h;simp[e,Rk.fd]
   simp[fI,List.findIdx?_cons,e] at h
  refine⟨fun i h=>?_,fun h=>?_⟩
  ·simp only[fI,List.findIdx?_cons,e,decide_false,Bool.false_eq_true,if_false] at h;obtain⟨j,G,rfl⟩:=Option.map_eq_some_iff.1 h;obtain⟨k1,I,J⟩:=A j G;exact⟨by simpa using k1,by simpa using I,by simp only[Rk.fd,e,if_false,J];simp⟩
  simp only[fI,List.findIdx?_cons,e,decide_false,Bool.false_eq_true,if_false,Option.map_eq_none_iff] at h;simp only[Rk.fd,e,if_false];exact D h
theorem results55:f55.results=#[.tmp 4]:=by kernel_rfl
theorem YK {G Q:Nat} {v1 v2:Value} {rs:List Rx} {ls:List Ex} (x:Str) (w:World) (h:Dq G w Q v1 v2 rs ls) :
  Calls prog 55 #[.pointer (some ⟨Q,0,none⟩),sV x] w fun e w'=>e=.returned (.int .i64 (iV (fI rs x)))/\w'=w:=by
 obtain⟨a,c,-,hP,-,Y⟩:=h.px1;have J:=h.few.1;obtain⟨N,D⟩:=nm_ rs.length;rw[D.out] at Y J;have HP:=hid hP;clear hP h;unfold sV;go_enter func55,ntmps55;go_wp2;go_loopg [5] N (fun q iv wr=>∃ i:Nat,iv=.int .i64 i/\q=N-i/\i<=N/\wr=w/\Hid (∀ j,j<i->(rs.getD j dR).1 ≠ x));case atStart=>exact⟨0,rfl,rfl,Nat.zero_le _,rfl,hid (fun j hj=>by omega)⟩
 obtain⟨i,rfl,hq,a6,rfl,O⟩:=hrel;by_cases K:i<N;rotate_left
 ·have L:¬ (i:Int)<(N:Int):=by omega
  obtain rfl:i=N:=by omega
  have M:Hid (fI rs x=none):=hid (qzQ (fun j hj=>O.out j (by have:=D.out;omega)));go_wp2;exact bodyPost_ret (results_tmp results55 _ _ _) rfl ⟨by rw[M.out];rfl,rfl⟩
 have L:(i:Int)<(N:Int):=by omega
 obtain⟨b,off,e1,_,e3⟩:=HP.out.at_ (by rw[D.out];omega);subst e1;have I:wr.cell? ⟨b,off+i*22,none⟩=some (sV (rs.getD i dR).1):=e3 i (by rw[D.out];exact K) 0 _ rfl;obtain⟨y,hy⟩:∃ y,(rs.getD i dR).1=y:=⟨_,rfl⟩;rw[hy] at I;have Z:=hid hy;unfold sV at I;clear hy e3;by_cases A:y=x
 ·subst A;have M:Hid (fI rs y=some i):=hid (qzZ (by rw[D.out];exact K) O.out Z.out);go_wp2;exact bodyPost_ret (results_tmp results55 _ _ _) rfl ⟨by rw[M.out];rfl,rfl⟩
 have a7:(y == x)=false:=by simpa using A
 have V:Hid (∀ j,j<i+1->(rs.getD j dR).1 ≠ x):=fun j hj=>by
  by_cases e:j=i
  ·rw[e,Z.out];exact A
  exact O.out j (by omega)
 go_wp2;go_roundg (N-(i+1));case measure=>omega
 case rel=>exact⟨i+1,by go_num,rfl,by omega,rfl,V⟩
end Go.Proofs.YtdnphaganajejaaGreatDoor.K
namespace Go.Proofs.YtdnphaganajejaaGreatDoor.K
open Go.Proofs.Tryz
open Go.RowKit Go.Extern.Stop Go.Stop Go.Extern
theorem results34:f34.results=#[.tmp 4]:=by kernel_rfl
theorem results75:f75.results=#[.tmp 6]:=by kernel_rfl
theorem results267:f267.results=#[.tmp 2]:=by kernel_rfl
theorem eqNil (t:TypeId) (v:Value) (w:World):(binOp .eql 27 .nilIface (.iface t v)).run prog w=.ok (.bool false) w:=by kernel_rfl
theorem qxq (b:Nat) (w:World):(binOp .eql 27 (.iface 175 (.pointer (some ⟨b,0,none⟩))) (.iface 32 (.int .i64 3))).run prog w=.ok (.bool false) w:=by kernel_rfl
theorem eq44 (w:World):(binOp .eql 27 (.iface 32 (.int .i64 3)) (.iface 32 (.int .i64 3))).run prog w=.ok (.bool true) w:=by kernel_rfl
theorem Rj (t:TypeId) (v:Value) (w:World):Calls prog 34 #[.nilIface,.iface t v] w fun e w'=>e=.returned (.bool false)/\w'=w:=by
 have h:=eqNil t v;go_enter func34,ntmps34;go_wp2_with fail
 exact bodyPost_ret (results_tmp results34 _ _ _) rfl ⟨rfl,rfl⟩
theorem j0 (h:Value) (w:World):(Go.method 469 179 (.agg #[h]) "Comparable").run prog w=.ok (270,.agg #[h]) w:=by kernel_rfl
def zxw:TypeId->Sem Value:=fun t=>do
 Rtype.noPackHeld "Comparable" t
 pure (.bool (<-typeInfo t).comparable)
theorem Vx (w:World):(ReflectliteType.method zxw #[.agg #[.pointer (some ⟨10,32,none⟩)]]).run prog w=.ok (.bool true) w:=by kernel_rfl
theorem qxx (v:Value) (h:TypeId) (w:World):(Instr.typeAssert (.iface 175 v) h 206 true).run prog w=.ok (.tuple #[.nilIface,.bool false]) w:=run_typeAssert_lacksB underlying206 (by kernel_rfl) (by kernel_rfl) v h w
theorem is205 (v:Value) (h:TypeId) (w:World):(Instr.typeAssert (.iface 175 v) h 186 true).run prog w=.ok (.tuple #[.iface 175 v,.bool true]) w:=run_typeAssert_hasB underlying186 (by kernel_rfl) v h w
theorem methodUnwrap (v:Value) (w:World):(Go.method 469 175 v "Unwrap").run prog w=.ok (267,v) w:=by kernel_rfl
theorem unwrap_any (b:Nat) (k:Int) (w:World) (h:w.cell? ⟨b,1,none⟩=some (.int .i64 k)):Calls prog 267 #[.pointer (some ⟨b,0,none⟩)] w fun e w'=>e=.returned (.iface 32 (.int .i64 k))/\w'=w:=by
 go_enter func267,ntmps267;go_wp2_with fail
 exact bodyPost_ret (results_tmp results267 _ _ _) rfl ⟨rfl,rfl⟩
theorem zz6 (b:Nat) (w:World) (h:w.cell? ⟨b,1,none⟩=some (.int .i64 3)):Calls prog 75 #[.iface 175 (.pointer (some ⟨b,0,none⟩)),.iface 32 (.int .i64 3),.bool true] w fun e w'=>e=.returned (.bool true)/\w'=w:=by
 have n1:=qxx;have q1:=qxq b;have G:=eq44;have n2:=is205;have D:=methodUnwrap;have j:=unwrap_any b 3 w h;go_enter func75,ntmps75;go_wp2_with fail
 go_loopg [0] 1 (fun q v wr=>(q=1/\v=.iface 175 (.pointer (some ⟨b,0,none⟩))/\wr=w) ∨ (q=0/\v=.iface 32 (.int .i64 3)/\wr=w));case atStart=>exact .inl ⟨rfl,rfl,rfl⟩
 rcases hrel with ⟨A,rfl,rfl⟩ | ⟨A,rfl,rfl⟩
 ·go_wp2_with (go_at_call 267;refine j.mono ?_;rintro e w' ⟨rfl,rfl⟩)
  go_roundg 0;case measure=>omega
  case rel=>exact .inr ⟨rfl,rfl,rfl⟩
 go_wp2_with fail
 exact bodyPost_ret (results_tmp results75 _ _ _) rfl ⟨rfl,rfl⟩
theorem Fu (b:Nat) (w:World) (h:w.cell? ⟨b,1,none⟩=some (.int .i64 3)):Calls prog 34 #[.iface 175 (.pointer (some ⟨b,0,none⟩)),.iface 32 (.int .i64 3)] w fun e w'=>e=.returned (.bool true)/\w'=w:=by
 have A:=@run_callFunc_extern prog 74 _ ReflectliteType.typeOf func74 (by kernel_rfl) (by kernel_rfl) (by kernel_rfl) (by kernel_rfl);have j:=@run_callFunc_extern prog 270 _ (ReflectliteType.method zxw) func270 (by kernel_rfl) (by kernel_rfl) (by kernel_rfl) (by kernel_rfl);have G:=V3;have D:=j0;have c44:=Vx
 have hi:=zz6 b w h;go_enter func34,ntmps34;go_wp2_with (go_at_call 75;refine hi.mono ?_;rintro e w' ⟨rfl,rfl⟩)
 exact bodyPost_ret (results_tmp results34 _ _ _) rfl ⟨rfl,rfl⟩
theorem eqNo (k:Int) (h:k ≠ 3) (w:World):(binOp .eql 27 (.iface 32 (.int .i64 k)) (.iface 32 (.int .i64 3))).run prog w=.ok (.bool false) w:=by
 have j:(k == 3)=false:=by simpa using h
 have:(binOp .eql 27 (.iface 32 (.int .i64 k)) (.iface 32 (.int .i64 3))).run prog w=.ok (.bool (k == 3)) w:=by kernel_rfl
 rw[this,j]
theorem noIs (v:Value) (h:TypeId) (w:World):(Instr.typeAssert (.iface 32 v) h 206 true).run prog w=.ok (.tuple #[.nilIface,.bool false]) w:=run_typeAssert_lacksB underlying206 (by kernel_rfl) (by kernel_rfl) v h w
theorem noUn (v:Value) (h:TypeId) (w:World):(Instr.typeAssert (.iface 32 v) h 186 true).run prog w=.ok (.tuple #[.nilIface,.bool false]) w:=run_typeAssert_lacksB underlying186 (by kernel_rfl) (by kernel_rfl) v h w
theorem noUns (v:Value) (h:TypeId) (w:World):(Instr.typeAssert (.iface 32 v) h 187 true).run prog w=.ok (.tuple #[.nilIface,.bool false]) w:=run_typeAssert_lacksB underlying187 (by kernel_rfl) (by kernel_rfl) v h w
theorem qzX (b:Nat) (k:Int) (j:k ≠ 3) (w:World) (h:w.cell? ⟨b,1,none⟩=some (.int .i64 k)):Calls prog 75 #[.iface 175 (.pointer (some ⟨b,0,none⟩)),.iface 32 (.int .i64 3),.bool true] w fun e w'=>e=.returned (.bool false)/\w'=w:=by
 have n1:=qxx;have q1:=qxq b;have I:=eqNo k j;have n2:=is205;have n3:=noIs;have n4:=noUn;have n5:=noUns;have G:=methodUnwrap;have A:=unwrap_any b k w h;clear j;go_enter func75,ntmps75;go_wp2_with fail
 go_loopg [0] 1 (fun q v wr=>(q=1/\v=.iface 175 (.pointer (some ⟨b,0,none⟩))/\wr=w) ∨ (q=0/\v=.iface 32 (.int .i64 k)/\wr=w));case atStart=>exact .inl ⟨rfl,rfl,rfl⟩
 rcases hrel with ⟨D,rfl,rfl⟩ | ⟨D,rfl,rfl⟩
 ·go_wp2_with (go_at_call 267;refine A.mono ?_;rintro e w' ⟨rfl,rfl⟩)
  go_roundg 0;case measure=>omega
  case rel=>exact .inr ⟨rfl,rfl,rfl⟩
 go_wp2_with fail
 exact bodyPost_ret (results_tmp results75 _ _ _) rfl ⟨rfl,rfl⟩
theorem qxj (b:Nat) (k:Int) (D:k ≠ 3) (w:World) (h:w.cell? ⟨b,1,none⟩=some (.int .i64 k)):Calls prog 34 #[.iface 175 (.pointer (some ⟨b,0,none⟩)),.iface 32 (.int .i64 3)] w fun e w'=>e=.returned (.bool false)/\w'=w:=by
 have A:=@run_callFunc_extern prog 74 _ ReflectliteType.typeOf func74 (by kernel_rfl) (by kernel_rfl) (by kernel_rfl) (by kernel_rfl);have j:=@run_callFunc_extern prog 270 _ (ReflectliteType.method zxw) func270 (by kernel_rfl) (by kernel_rfl) (by kernel_rfl) (by kernel_rfl);have I:=V3;have G:=j0;have c44:=Vx
 have hi:=qzX b k D w h;go_enter func34,ntmps34;go_wp2_with (go_at_call 75;refine hi.mono ?_;rintro e w' ⟨rfl,rfl⟩)
 exact bodyPost_ret (results_tmp results34 _ _ _) rfl ⟨rfl,rfl⟩
theorem qxk (b:Nat) (k:Int) (w:World) (h:w.cell? ⟨b,1,none⟩=some (.int .i64 k)):Calls prog 34 #[.iface 175 (.pointer (some ⟨b,0,none⟩)),.iface 32 (.int .i64 3)] w fun e w'=>e=.returned (.bool (decide (k=3)))/\w'=w:=by
 by_cases j:k=3
 ·subst j;simpa using Fu b w h
 rw[decide_eq_false j];exact qxj b k j w h
end Go.Proofs.YtdnphaganajejaaGreatDoor.K
