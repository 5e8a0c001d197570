import Derived.Test.YticgindfipobiaaGreatDoorMn11
import Derived.Test.YticgindfipobiaaGreatDoorMn12
import Derived.Test.YticgindfipobiaaGreatDoorMn13
import Derived.Test.YticgindfipobiaaGreatDoorMn05
set_option linter.unusedSimpArgs false
set_option linter.unusedVariables false
set_option maxRecDepth 20000
set_option maxHeartbeats 4000000
namespace Go.Proofs.YticgindfipobiaaGreatDoor
open Go.RowKit
theorem uw:∀ (fr:List Int),fr.length=20->∃ a0 a1 a2 a3 a4 a5 a6 a7 a8 a9 a10 a11 a12 a13 a14 a15 a16 a17 a18 a19,fr=[a0,a1,a2,a3,a4,a5,a6,a7,a8,a9,a10,a11,a12,a13,a14,a15,a16,a17,a18,a19]
 | [a0,a1,a2,a3,a4,a5,a6,a7,a8,a9,a10,a11,a12,a13,a14,a15,a16,a17,a18,a19],_=>⟨a0,a1,a2,a3,a4,a5,a6,a7,a8,a9,a10,a11,a12,a13,a14,a15,a16,a17,a18,a19,rfl⟩
def tg0 (fr:List Int):Tg:=⟨fr,0,[],⟨[],[],0,0⟩,[]⟩
theorem built71 (fr:List Int) (h:fr.length=20):Tryz.prog.built 163 [(0,.agg (row .u8 fr).toArray)]=some (tgV (tg0 fr)).toArray:=by
 obtain⟨a0,a1,a2,a3,a4,a5,a6,a7,a8,a9,a10,a11,a12,a13,a14,a15,a16,a17,a18,a19,rfl⟩:=uw fr h
 kernel_rfl
theorem zero71 (w:World):(zeroValue 163).run Tryz.prog w=.ok (.agg (tgV (tg0 z20)).toArray) w:=by kernel_rfl
theorem Tryz.size163:(Tryz.prog.info? 163).map (·.size)=some 27:=by kernel_rfl
theorem wpList_built {P:Program} {ops:Array Oper} {rest:List Oper} {o:Oper} {a:Act} {w:World} {Q:Exit->Act->World->Prop} (hg:o.guard=none) (t:TypeId) (parts:Array (Nat × Operand)) (ho:o.op=.build t parts) (cells:Array Value)
  (hf:P.built t (parts.map fun (i,x)=>(i,a.eval x)).toList=some cells)
  (h:wpList P ops Q rest (a.put o.dst (.agg cells)) w):wpList P ops Q (o :: rest) a w :=
 wpList_build hg t parts ho (by rw[hf];rfl) (by rw[hf];exact h)
theorem ZY (t:Tg) (i:Nat) (v:Value) (h:t.id.length=20) (hi:20<=i):(tgV t).set i v=row .u8 t.id++([.int .i64 t.kind,.string ⟨t.name.toArray⟩,.string ⟨t.per.name.toArray⟩,.string ⟨t.per.mail.toArray⟩,.int .i64 t.per.time,.int .i64 t.per.zone,.string ⟨t.msg.toArray⟩] : List Value).set (i-20) v:=by
 unfold tgV
 have hl:(row .u8 t.id).length=20:=by rw[zq];exact h
 rw[List.set_append_right _ _ (by omega),hl]
theorem tg_set (t:Tg) (h:t.id.length=20) (w:World) (g:Nat) (hg:w.heap[g]? = some (.cells (tgV t).toArray 163 (0,0))) (i:Nat) (v:Value):(w.setCell ⟨g,i,none⟩ v).heap[g]? = some (.cells ((tgV t).set i v).toArray 163 (0,0)):=by
 rw[heap_setCell_same w g i _ 163 v hg,List.setIfInBounds_toArray]
theorem set_kind (t:Tg) (h:t.id.length=20) (k:Int):(tgV t).set 20 (.int .i64 k)=tgV { t with kind:=k }:=by rw[ZY t 20 _ h (by omega)];rfl
theorem set_name (t:Tg) (h:t.id.length=20) (l:List UInt8):(tgV t).set 21 (.string ⟨l.toArray⟩)=tgV { t with name:=l }:=by rw[ZY t 21 _ h (by omega)];rfl
theorem set_msg (t:Tg) (h:t.id.length=20) (l:List UInt8):(tgV t).set 26 (.string ⟨l.toArray⟩)=tgV { t with msg:=l }:=by rw[ZY t 26 _ h (by omega)];rfl
theorem set_pn (t:Tg) (h:t.id.length=20) (l:List UInt8):(tgV t).set 22 (.string ⟨l.toArray⟩)=tgV { t with per:={ t.per with name:=l } }:=by rw[ZY t 22 _ h (by omega)];rfl
theorem set_pm (t:Tg) (h:t.id.length=20) (l:List UInt8):(tgV t).set 23 (.string ⟨l.toArray⟩)=tgV { t with per:={ t.per with mail:=l } }:=by rw[ZY t 23 _ h (by omega)];rfl
theorem set_pt (t:Tg) (h:t.id.length=20) (k:Int):(tgV t).set 24 (.int .i64 k)=tgV { t with per:={ t.per with time:=k } }:=by rw[ZY t 24 _ h (by omega)];rfl
theorem set_pz (t:Tg) (h:t.id.length=20) (k:Int):(tgV t).set 25 (.int .i64 k)=tgV { t with per:={ t.per with zone:=k } }:=by rw[ZY t 25 _ h (by omega)];rfl
theorem set_per (t:Tg) (h:t.id.length=20) (p:Per) (w:World) (g:Nat) (hg:w.heap[g]? = some (.cells (tgV t).toArray 163 (0,0))):(w.setCells g 22 (qK p).toList).heap[g]? = some (.cells (tgV { t with per:=p }).toArray 163 (0,0)):=by
 have h1:=tg_set t h w g hg 22 (.string ⟨p.name.toArray⟩)
 rw[set_pn t h] at h1
 have h2:=tg_set _ (by exact h) _ g h1 23 (.string ⟨p.mail.toArray⟩)
 rw[set_pm _ (by exact h)] at h2
 have h3:=tg_set _ (by exact h) _ g h2 24 (.int .i64 p.time)
 rw[set_pt _ (by exact h)] at h3
 have h4:=tg_set _ (by exact h) _ g h3 25 (.int .i64 p.zone)
 rw[set_pz _ (by exact h)] at h4
 exact h4
theorem QY (s wd:List UInt8):(fld s wd).length<=s.length:=by
 have h1:=Yw s [10]
 unfold fld Lib.trimPrefix
 split
 ·rw[List.length_drop];omega
 ·exact h1
def rst (s:List UInt8):List UInt8:=(Lib.cut s [10]).2.1
theorem vK (s:List UInt8):(rst s).length<=s.length:=V9 s [10]
def uy:List UInt8:=[111,98,106,101,99,116]
def X9:List UInt8:=[116,121,112,101]
def Q0:List UInt8:=[116,97,103]
def vw:List UInt8:=[116,97,103,103,101,114]
def TG (s:List UInt8) (T:Tg):Prop:=PId (fld s uy) T.id/\(∃ k:Nat,T.kind=k/\kO ⟨(fld (rst s) X9).toArray⟩ k)/\T.name=fld (rst (rst s)) Q0/\PP (fld (rst (rst (rst s))) vw) T.per/\T.msg=rst (rst (rst (rst (rst s))))
def PostO (s:List UInt8) (e:Ending):Prop := ∃ T,e=.returned (.agg (tgV T).toArray)/\TG s T
structure TS (G G4:Nat) (zr:Array Value) (r:ByteArray) (T:Tg) (w W:World):Prop where
 below:Below G w W
 box:W.heap[G+1]? = some (.cells #[.string r] 230 (0,0))
 tag:W.heap[G4]? = some (.cells (tgV T).toArray 163 (0,0))
 res:W.heap[G]? = some (.cells zr 163 (0,0))
theorem TS.rd {G G4:Nat} {zr:Array Value} {r r':ByteArray} {T:Tg} {w W W':World} (h:TS G G4 zr r T w W) (h4:G+1<G4) (hr:Rd (G+1) r' W W'):TS G G4 zr r' T w W' :=
 ⟨hr.below h.below (by omega) (z6 h.box),hr.box,(hr.block G4 (z6 h.tag) (by omega)).trans h.tag,(hr.block G (z6 h.res) (by omega)).trans h.res⟩
theorem TS.grow {G G4:Nat} {zr:Array Value} {r:ByteArray} {T:Tg} {w W W':World} (h:TS G G4 zr r T w W) (hb:Below W.heap.size W W'):TS G G4 zr r T w W' :=
 ⟨h.below.trans (hb.mono (Nat.le_of_lt (z6 h.res))),(hb.block _ (z6 h.box)).trans h.box,(hb.block _ (z6 h.tag)).trans h.tag,(hb.block _ (z6 h.res)).trans h.res⟩
theorem TS.set {G G4:Nat} {zr:Array Value} {r:ByteArray} {T T':Tg} {w W:World} (h:TS G G4 zr r T w W) (h4:G+1<G4) (hl:T.id.length=20) (i:Nat) (v:Value) (he:(tgV T).set i v=tgV T'):TS G G4 zr r T' w (W.setCell ⟨G4,i,none⟩ v) :=
 ⟨h.below.setCell (by show G<=G4;omega) _,(heap_setCell_other W ⟨G4,i,none⟩ (G+1) v (by show G+1 ≠ G4;omega)).trans h.box,by rw[<-he];exact tg_set T hl W G4 h.tag i v,(heap_setCell_other W ⟨G4,i,none⟩ G v (by show G ≠ G4;omega)).trans h.res⟩
theorem q9 (g k:Nat) (h:k ≠ g):∀ (vs:List Value) (o:Nat) (w:World),(w.setCells g o vs).heap[k]? = w.heap[k]?
 | [],_,_=>rfl
 | v :: vs,o,w=>by
  show ((w.setCell ⟨g,o,none⟩ v).setCells g (o+1) vs).heap[k]? = _
  rw[q9 g k h vs]
  exact heap_setCell_other w ⟨g,o,none⟩ k v h
theorem TS.per {G G4:Nat} {zr:Array Value} {r:ByteArray} {T:Tg} {w W:World} (h:TS G G4 zr r T w W) (h4:G+1<G4) (hl:T.id.length=20) (p:Per):TS G G4 zr r { T with per:=p } w (W.setCells G4 22 (qK p).toList) :=
 ⟨z7 (by omega) _ _ _ _ h.below,(q9 G4 (G+1) (by omega) _ _ _).trans h.box,set_per T hl p W G4 h.tag,(q9 G4 G (by omega) _ _ _).trans h.res⟩
theorem TS.cell {G G4:Nat} {zr:Array Value} {r:ByteArray} {T:Tg} {w W:World} (h:TS G G4 zr r T w W) (hl:T.id.length=20) (i:Nat) (hi:i<27):∃ v,W.cell? ⟨G4,i,none⟩=some v/\W.frozen? ⟨G4,i,none⟩=false:=by
 have h1:(tgV T).toArray[i]? = some ((tgV T)[i]'(by rw[y9 T hl];exact hi)):=by simp[y9 T hl,hi]
 exact⟨_,(cell_of_row W G4 i _ _ _ h.tag).trans h1,frozen_of_row W G4 i _ _ h.tag⟩
theorem uY (T:Tg):∀ v ∈ tgV T,v.oneCell'=true:=by
 intro v hv
 unfold tgV at hv
 rcases List.mem_append.1 hv with hv | hv
 ·exact zV _ _ v hv
 ·simp only[List.mem_cons,List.not_mem_nil,or_false] at hv
  rcases hv with rfl | rfl | rfl | rfl | rfl | rfl | rfl <;> rfl
theorem Zk (p:Per):(qK p).all (·.oneCell')=true:=by
 show ([.string ⟨p.name.toArray⟩,.string ⟨p.mail.toArray⟩,.int .i64 p.time,.int .i64 p.zone] : List Value).toArray.all (·.oneCell')=true
 refine all_oneCell_toArray (fun v hv=>?_)
 simp only[List.mem_cons,List.not_mem_nil,or_false] at hv
 rcases hv with rfl | rfl | rfl | rfl <;> rfl
theorem zy {w:World} {g n:Nat} {cs:Array Value} {t:TypeId} (h:w.heap[g]? = some (.cells cs t (0,0))) (o:Nat) (hn:o+n<=cs.size):w.there g o n:=fun j hj=>by
 refine⟨?_,frozen_of_row w g (o+j) _ _ h⟩
 rw[cell_of_row w g (o+j) _ _ _ h,Array.getElem?_eq_getElem (by omega)]
 rfl
theorem fold71 (fr:List Int) (h:fr.length=20):List.foldl (fun (cs:Array Value) (x:Value × Nat)=>cs.setIfInBounds x.snd x.fst) (tgV (tg0 z20)).toArray (row .u8 fr).zipIdx=(tgV (tg0 fr)).toArray:=by
 obtain⟨a0,a1,a2,a3,a4,a5,a6,a7,a8,a9,a10,a11,a12,a13,a14,a15,a16,a17,a18,a19,rfl⟩:=uw fr h
 kernel_rfl
theorem Tryz.results85:Tryz.f85.results=#[.cell 2 163]:=by kernel_rfl
set_option maxHeartbeats 2000000 in
theorem tagOf_any (s:List UInt8) (hs:s.length<=200000) (w:World) (he:Ers w) (hm:Mx w):Calls Tryz.prog 85 #[.string ⟨s.toArray⟩] w fun e w'=>Below w.heap.size w w'/\PostO s e:=by
 obtain⟨S,HS⟩:=nm_ (⟨s.toArray⟩:ByteArray)
 obtain⟨zr,HZ⟩:=nn_ ((tgV (tg0 z20)).toArray)
 have hz71:=zero71
 rw[<-HZ.out] at hz71
 have HZS:Hid (zr.size=27):=hid (by rw[HZ.out,List.size_toArray];exact y9 _ rfl)
 obtain⟨G,HG⟩:=nm_ w.heap.size
 obtain⟨w1,HW1⟩:=nm_ ((w.alloc (.cells zr 163)).alloc (.cells #[.string S] 230))
 have HB1:Hid (Below G w w1):=hid (by rw[<-HW1.out,<-HG.out];exact((Below.refl _ w).alloc (Nat.le_refl _) _).alloc (by simp) _)
 have HR1:Hid (w1.heap[G+1]? = some (.cells #[.string S] 230 (0,0))):=hid (by
  rw[<-HW1.out,<-HG.out]
  have:=heap_alloc_new (w.alloc (.cells zr 163)) (.cells #[.string S] 230)
  simpa using this)
 have HZ1:Hid (w1.heap[G]? = some (.cells zr 163 (0,0))):=hid (by
  rw[<-HW1.out,<-HG.out]
  have h1:=heap_alloc_new w (.cells zr 163)
  have h2:=((Below.refl (w.alloc (.cells zr 163)).heap.size (w.alloc (.cells zr 163))).alloc (Nat.le_refl _) (.cells #[.string S] 230)).block w.heap.size (by simp)
  exact h2.trans h1)
 have HE:Hid (∀ W,Below G w W->Ers W):=fun W hW=>he.below (by rw[HG.out];exact hW)
 have HM:Hid (∀ W,Below G w W->Mx W):=fun W hW=>hm.below (by rw[HG.out];exact hW)
 obtain⟨s1,K1⟩:=nm_ (rst s)
 obtain⟨s2,K2⟩:=nm_ (rst s1)
 obtain⟨s3,K3⟩:=nm_ (rst s2)
 obtain⟨s4,K4⟩:=nm_ (rst s3)
 obtain⟨s5,K5⟩:=nm_ (rst s4)
 have L1:Hid (s1.length<=200000):=hid (by rw[<-K1.out];exact Nat.le_trans (vK _) hs)
 have L2:Hid (s2.length<=200000):=hid (by rw[<-K2.out];exact Nat.le_trans (vK _) L1.out)
 have L3:Hid (s3.length<=200000):=hid (by rw[<-K3.out];exact Nat.le_trans (vK _) L2.out)
 have L4:Hid (s4.length<=200000):=hid (by rw[<-K4.out];exact Nat.le_trans (vK _) L3.out)
 obtain⟨S1,J1⟩:=nm_ (⟨s1.toArray⟩:ByteArray)
 obtain⟨S2,J2⟩:=nm_ (⟨s2.toArray⟩:ByteArray)
 obtain⟨S3,J3⟩:=nm_ (⟨s3.toArray⟩:ByteArray)
 obtain⟨S4,J4⟩:=nm_ (⟨s4.toArray⟩:ByteArray)
 obtain⟨S5,J5⟩:=nm_ (⟨s5.toArray⟩:ByteArray)
 obtain⟨F1,M1⟩:=nm_ (⟨(fld s1 X9).toArray⟩:ByteArray)
 obtain⟨F2,M2⟩:=nm_ (⟨(fld s2 Q0).toArray⟩:ByteArray)
 obtain⟨F3,M3⟩:=nm_ (⟨(fld s3 vw).toArray⟩:ByteArray)
 have C0:Hid (Calls Tryz.prog 118 #[.pointer (some ⟨G+1,0,none⟩),.string ⟨#[111,98,106,101,99,116]⟩] w1 (PostI s uy (G+1) w1)):=hid (rid_any s uy hs (by decide) (Nat.le_trans (QY _ _) (by omega)) (G+1) w1 (by rw[HS.out];exact HR1.out) (HM.out _ HB1.out))
 have C1:Hid (∀ W,Below G w W->W.heap[G+1]? = some (.cells #[.string S1] 230 (0,0))->Calls Tryz.prog 121 #[.pointer (some ⟨G+1,0,none⟩),.string ⟨#[116,121,112,101]⟩] W fun e w'=>e=.returned (.string F1)/\Rd (G+1) S2 W w'):=fun W hW hb=>by
  rw[<-M1.out,<-J2.out,<-K2.out]
  exact uZ s1 X9 (Nat.le_trans L1.out (by omega)) (by decide) (G+1) W (by rw[J1.out];exact hb) (HM.out _ hW)
 have C2:Hid (∀ W,Below G w W->W.heap[G+1]? = some (.cells #[.string S2] 230 (0,0))->Calls Tryz.prog 121 #[.pointer (some ⟨G+1,0,none⟩),.string ⟨#[116,97,103]⟩] W fun e w'=>e=.returned (.string F2)/\Rd (G+1) S3 W w'):=fun W hW hb=>by
  rw[<-M2.out,<-J3.out,<-K3.out]
  exact uZ s2 Q0 (Nat.le_trans L2.out (by omega)) (by decide) (G+1) W (by rw[J2.out];exact hb) (HM.out _ hW)
 have C3:Hid (∀ W,Below G w W->W.heap[G+1]? = some (.cells #[.string S3] 230 (0,0))->Calls Tryz.prog 121 #[.pointer (some ⟨G+1,0,none⟩),.string ⟨#[116,97,103,103,101,114]⟩] W fun e w'=>e=.returned (.string F3)/\Rd (G+1) S4 W w'):=fun W hW hb=>by
  rw[<-M3.out,<-J4.out,<-K4.out]
  exact uZ s3 vw (Nat.le_trans L3.out (by omega)) (by decide) (G+1) W (by rw[J3.out];exact hb) (HM.out _ hW)
 have C4:Hid (∀ W,Below G w W->W.heap[G+1]? = some (.cells #[.string S4] 230 (0,0))->Calls Tryz.prog 122 #[.pointer (some ⟨G+1,0,none⟩)] W fun e w'=>e=.returned (.string ⟨(Lib.cut s4 [10]).1.toArray⟩)/\Rd (G+1) S5 W w'):=fun W hW hb=>by
  rw[<-J5.out,<-K5.out]
  exact rline_any s4 (Nat.le_trans L4.out (by omega)) (G+1) W (by rw[J4.out];exact hb) (HM.out _ hW)
 have CK:Hid (∀ W,Calls Tryz.prog 128 #[.string F1] W fun e w'=>(∃ k:Nat,e=.returned (.int .i64 k)/\kO F1 k)/\w'=W):=fun W=>kindOf_any F1 W
 have CP:Hid (∀ W,Below G w W->Calls Tryz.prog 120 #[.string F3] W fun e w'=>Below W.heap.size W w'/\PostQ (fld s3 vw) e):=fun W hW=>by
  rw[<-M3.out]
  exact ZJ _ (Nat.le_trans (QY _ _) (Nat.le_trans L3.out (by omega))) W (HE.out _ hW) (HM.out _ hW)
 rw[HS.out]
 clear he hm
 go_enter Tryz.func85,Tryz.ntmps85
 go_wp2_with fail
 rw[HG.out,HW1.out]
 refine C0.out.mono ?_
 rintro ev w2 ⟨fr,rfl,hpid,hrd⟩
 have HPI:Hid (PId (fld s uy) fr):=hpid
 have HFL:Hid (fr.length=20):=hpid.1
 have HB2:Hid (Below G w w2):=hrd.below HB1.out (by omega) (z6 HR1.out)
 have HR2:Hid (w2.heap[G+1]? = some (.cells #[.string S1] 230 (0,0))):=hid (by rw[<-J1.out,<-K1.out];exact hrd.box)
 have HZ2:Hid (w2.heap[G]? = some (.cells zr 163 (0,0))):=hid ((hrd.block G (z6 HZ1.out) (by omega)).trans HZ1.out)
 clear hpid hrd
 obtain⟨B,HBB⟩:=nm_ ((tgV (tg0 fr)).toArray)
 have HBU:Hid (Tryz.prog.built 163 [(0,.agg (row .u8 fr).toArray)]=some B):=hid (by rw[<-HBB.out];exact built71 fr HFL.out)
 have HBS:Hid (B.size=27):=hid (by rw[<-HBB.out,List.size_toArray];exact y9 _ HFL.out)
 have hfold:List.foldl (fun (cs:Array Value) (x:Value × Nat)=>cs.setIfInBounds x.snd x.fst) zr (row .u8 fr).zipIdx=B:=by rw[HZ.out,<-HBB.out];exact fold71 fr HFL.out
 have D2:Hid ((Tryz.prog.info? 163).map (·.size)=some B.size):=hid (by rw[HBS.out];exact Tryz.size163)
 have D3:Hid (B.all (·.oneCell')=true):=hid (by rw[<-HBB.out];exact all_oneCell_toArray (uY _))
 have D0:Hid ((w2.alloc (.cells zr 163)).heap[w2.heap.size]? = some (.cells zr 163 (0,0))):=heap_alloc_new w2 _
 have D1:Hid (zr.size=B.size):=hid (by rw[HZS.out,HBS.out])
 have hrl:(row .u8 fr).length=20:=by rw[zq];exact HFL.out
 have hzs:zr.size=27:=HZS.out
 go_wp2_with (first
  | refine wpList_store_row rfl 163 _ _ rfl w2.heap.size B rfl rfl 163 zr D0.out D2.out D1.out D3.out ?_
  | fail)
 clear hrl hzs hfold hz71
 obtain⟨G4,HG4⟩:=nm_ w2.heap.size
 have HLT:Hid (G+1<G4):=hid (by rw[<-HG4.out];exact z6 HR2.out)
 have TS3:Hid (TS G G4 zr S1 (tg0 fr) w ((w2.alloc (.cells zr 163)).setRow w2.heap.size B)):=hid (by
  have hlt:=HLT.out
  have h4:=HG4.out
  have hb2:=(Below.refl w2.heap.size w2).alloc (Nat.le_refl _) (.cells zr 163)
  refine⟨below_setRow (HB2.out.alloc (by omega) _) (by omega) B,?_,?_,?_⟩
  ·rw[setRow_other _ _ _ _ (by omega)]
   exact(hb2.block _ (by omega)).trans HR2.out
  ·rw[<-h4,HBB.out]
   exact setRow_heap _ _ _ B _ _ D0.out
  ·rw[setRow_other _ _ _ _ (by omega)]
   exact(hb2.block _ (by omega)).trans HZ2.out)
 rw[HG4.out] at TS3
 rw[HG4.out]
 generalize (w2.alloc (.cells zr 163)).setRow G4 B=w3 at TS3 ⊢
 refine(C1.out w3 TS3.out.below TS3.out.box).mono ?_
 rintro ev w4 ⟨rfl,hrd⟩
 have TS4:Hid (TS G G4 zr S2 (tg0 fr) w w4):=TS3.out.rd HLT.out hrd
 clear hrd
 go_wp2_with fail
 refine(CK.out w4).mono ?_
 rintro ev w4' ⟨⟨k,rfl,hk⟩,hw4⟩
 have hw4':=hw4.symm
 subst hw4'
 have HKO:Hid (kO F1 k):=hk
 clear hk hw4
 obtain⟨v20,c20,f20⟩:=TS4.out.cell HFL.out 20 (by omega)
 go_wp2_with fail
 have TS5:Hid (TS G G4 zr S2 { tg0 fr with kind:=k } w (w4.setCell ⟨G4,20,none⟩ (.int .i64 k))):=TS4.out.set HLT.out HFL.out 20 _ (set_kind (tg0 fr) HFL.out k)
 clear c20 f20
 generalize w4.setCell ⟨G4,20,none⟩ (.int .i64 k)=w5 at TS5 ⊢
 refine(C2.out w5 TS5.out.below TS5.out.box).mono ?_
 rintro ev w6 ⟨rfl,hrd⟩
 have TS6:Hid (TS G G4 zr S3 { tg0 fr with kind:=k } w w6):=TS5.out.rd HLT.out hrd
 clear hrd
 obtain⟨v21,c21,f21⟩:=TS6.out.cell HFL.out 21 (by omega)
 go_wp2_with fail
 have TS7:Hid (TS G G4 zr S3 { tg0 fr with kind:=k,name:=fld s2 Q0 } w (w6.setCell ⟨G4,21,none⟩ (.string F2))):=TS6.out.set HLT.out HFL.out 21 _ (by rw[<-M2.out];exact set_name { tg0 fr with kind:=k } HFL.out _)
 clear c21 f21
 generalize w6.setCell ⟨G4,21,none⟩ (.string F2)=w7 at TS7 ⊢
 refine(C3.out w7 TS7.out.below TS7.out.box).mono ?_
 rintro ev w8 ⟨rfl,hrd⟩
 have TS8:Hid (TS G G4 zr S4 { tg0 fr with kind:=k,name:=fld s2 Q0 } w w8):=TS7.out.rd HLT.out hrd
 clear hrd
 go_wp2_with fail
 refine(CP.out w8 TS8.out.below).mono ?_
 rintro ev w9 ⟨hb9,pr,rfl,hpp⟩
 have HPP:Hid (PP (fld s3 vw) pr):=hpp
 have TS9:Hid (TS G G4 zr S4 { tg0 fr with kind:=k,name:=fld s2 Q0 } w w9):=TS8.out.grow hb9
 clear hb9 hpp
 have E1:Hid (w9.there G4 22 (qK pr).size):=zy TS9.out.tag 22 (by
  have h:=y9 ({ tg0 fr with kind:=k,name:=fld s2 Q0 } : Tg) HFL.out
  exact Nat.le_trans (show 22+4<=27 by omega) (Nat.le_of_eq h.symm))
 have E2:Hid ((Tryz.prog.info? 156).map (·.size)=some (qK pr).size):=Tryz.size156
 have E3:Hid ((qK pr).all (·.oneCell')=true):=Zk pr
 go_wp2_with (first
  | refine wpList_store_mid rfl 156 _ _ rfl G4 22 (qK pr) rfl rfl E1.out E2.out E3.out ?_
  | fail)
 have TSA:Hid (TS G G4 zr S4 { tg0 fr with kind:=k,name:=fld s2 Q0,per:=pr } w (w9.setCells G4 22 (qK pr).toList)):=TS9.out.per HLT.out HFL.out pr
 generalize w9.setCells G4 22 (qK pr).toList=w10 at TSA ⊢
 refine(C4.out w10 TSA.out.below TSA.out.box).mono ?_
 rintro ev w11 ⟨rfl,hrd⟩
 have TSB:Hid (TS G G4 zr S5 { tg0 fr with kind:=k,name:=fld s2 Q0,per:=pr } w w11):=TSA.out.rd HLT.out hrd
 clear hrd
 obtain⟨v26,c26,f26⟩:=TSB.out.cell HFL.out 26 (by omega)
 have cr:w11.cell? ⟨G+1,0,none⟩=some (.string S5):=by rw[cell_of_row w11 (G+1) 0 _ _ _ TSB.out.box];rfl
 obtain⟨T,HT⟩:=nn_ (⟨fr,k,fld s2 Q0,pr,s5⟩:Tg)
 have TSC:Hid (TS G G4 zr S5 T w (w11.setCell ⟨G4,26,none⟩ (.string S5))):=TSB.out.set HLT.out HFL.out 26 _ (by rw[<-J5.out,HT.out];exact set_msg { tg0 fr with kind:=k,name:=fld s2 Q0,per:=pr } HFL.out _)
 have HTL:Hid (T.id.length=20):=hid (by rw[HT.out];exact HFL.out)
 obtain⟨TV,HTV⟩:=nm_ (tgV T)
 have HVL:Hid (TV.length=27):=hid (by rw[<-HTV.out];exact y9 T HTL.out)
 have CT:Hid ((w11.setCell ⟨G4,26,none⟩ (.string S5)).rangeAt G4 0 TV):=hid (by rw[<-HTV.out];exact zx TSC.out.tag)
 have CS:Hid ((w11.setCell ⟨G4,26,none⟩ (.string S5)).there G 0 TV.toArray.size):=hid (zy TSC.out.res 0 (by rw[List.size_toArray,HVL.out,HZS.out];omega))
 have CS':Hid ((w11.setCell ⟨G4,26,none⟩ (.string S5)).there G 0 TV.length):=hid (zy TSC.out.res 0 (by rw[HVL.out,HZS.out];omega))
 have hi71:(Tryz.prog.info? 163).map (·.size)=some TV.length:=by rw[HVL.out];exact Tryz.size163
 have CI:Hid ((Tryz.prog.info? 163).map (·.size)=some TV.toArray.size):=hid (by rw[List.size_toArray];exact hi71)
 have CO:Hid (TV.toArray.all (·.oneCell')=true):=hid (by rw[<-HTV.out];exact all_oneCell_toArray (uY T))
 go_wp2_with (first
  | refine wpList_load_mid rfl 163 _ rfl G4 0 rfl TV _ CT.out Tryz.underlying163 rfl hi71 ?_
  | refine wpList_store_mid rfl 163 _ _ rfl G 0 TV.toArray rfl rfl CS.out CI.out CO.out ?_)
 refine bodyPost_ret (v:=.agg TV.toArray) (yq Tryz.results85 _ _ G TV _ rfl (World.rangeAt_setCells_same _ G 0 _ CS'.out) Tryz.underlying163 rfl hi71) rfl ⟨?_,?_⟩
 ·rw[HG.out]
  exact z7 (Nat.le_refl _) _ _ _ _ TSC.out.below
 ·refine⟨T,by rw[HTV.out],?_⟩
  rw[HT.out]
  refine⟨HPI.out,⟨k,rfl,?_⟩,?_,?_,?_⟩
  ·rw[K1.out,M1.out];exact HKO.out
  ·rw[K1.out,K2.out]
  ·rw[K1.out,K2.out,K3.out];exact HPP.out
  ·rw[K1.out,K2.out,K3.out,K4.out,K5.out]
theorem zj {P:Program} {fn:Func} {p q:Tmp} {ty:TypeId} (h:fn.results=#[.cell p ty,.tmp q]) (tmps:Array Value) (w:World) (g:Nat) (cs:List Value) (d:TypeDesc)
  (hp:tmps.getD p undef=.pointer (some ⟨g,0,none⟩)) (hc:w.rangeAt g 0 cs) (hu:P.underlying ty=some d) (hd:d.isRow=true) (hi:(P.info? ty).map (·.size)=some cs.length) :
  (results fn tmps).run P w=.ok (.tuple #[.agg cs.toArray,tmps.getD q undef]) w:=by
 have hp':tmps[p]?.getD undef=.pointer (some ⟨g,0,none⟩):=by simpa using hp
 simp[results,h,hp',asAddr,run_loadVar_mid w g 0 ty cs d hc hu hd hi]
theorem Tryz.results23:Tryz.f23.results=#[.cell 2 56,.tmp 3]:=by kernel_rfl
def idZ (k:Int) (zs:List Int):List Int:=if yj k zs.length=0 then sha (j4 k zs) else z20
theorem idZ_len (k:Int) (zs:List Int):(idZ k zs).length=20:=by
 unfold idZ
 split
 ·exact sha_len _
 ·rfl
def Y0 (n:Int):Value:=if n=0 then .nilIface else .iface 43 (.int .i64 n)
theorem encZ_len (k:Int) (zs:List Int) (hl:zs.length<=300000):(j4 k zs).length<=zs.length+14:=by
 have:=h0_len k zs.length (by omega)
 unfold j4 hd
 rw[List.length_append,zK,List.length_append,List.length_singleton]
 omega
theorem encZ_isB (k:Int) (zs:List Int) (h:IsB zs):IsB (j4 k zs):=by
 intro x hx
 rcases List.mem_append.1 hx with hx | hx
 ·exact nums_isB _ x hx
 ·exact h x hx
set_option maxHeartbeats 2000000 in
theorem id_any (k:Int) (a:Option Addr) (cap:Nat) (zs:List Int) (w:World) (ht:Tab w) (hl:zs.length<=300000) (hz:IsB zs) (hS:Sl w a cap zs) :
  Calls Tryz.prog 23 #[.agg #[.int .i64 k,.slice a zs.length cap]] w fun e w'=>e=.returned (.tuple #[.agg (row .u8 (idZ k zs)).toArray,Y0 (yj k zs.length)])/\Below w.heap.size w w':=by
 obtain⟨zr,HZ⟩:=nn_ ((row .u8 z20).toArray)
 have hz25:=zero25
 rw[<-HZ.out] at hz25
 obtain⟨n,HN⟩:=nm_ zs.length
 obtain⟨fr,HE⟩:=nn_ (idZ k zs)
 have hfl:fr.length=20:=by rw[HE.out];exact idZ_len _ _
 have hi25:(Tryz.prog.info? 56).map (·.size)=some (row .u8 fr).length:=by rw[zq,hfl];exact Tryz.size56
 have T2:Hid ((Tryz.prog.info? 56).map (·.size)=some (row .u8 fr).toArray.size):=hid (by rw[qZ,hfl];exact Tryz.size56)
 have T3:Hid ((row .u8 fr).toArray.all (·.oneCell')=true):=all_oneCell_toArray (zV _ _)
 obtain⟨G,HG⟩:=nm_ w.heap.size
 obtain⟨w0,HW0⟩:=nm_ ((w.alloc (.cells #[.int .i64 k,.slice a n cap] 28)).alloc (.cells zr 56))
 have hs0:w0.heap.size=G+2:=by rw[<-HW0.out,<-HG.out];simp
 have hc0:w0.cell? ⟨G,0,none⟩=some (.int .i64 k):=by rw[<-HW0.out,<-HG.out];simp
 have hc1:w0.cell? ⟨G,1,none⟩=some (.slice a n cap):=by rw[<-HW0.out,<-HG.out];simp
 have HR0:Hid (w0.heap[G+1]? = some (.cells (row .u8 z20).toArray 56 (0,0))):=hid (by
  have:=heap_alloc_new (w.alloc (.cells #[.int .i64 k,.slice a n cap] 28)) (.cells zr 56)
  rw[HW0.out,HZ.out] at this
  rw[<-HG.out];simpa using this)
 have HB0:Hid (Below G w w0):=hid (by rw[<-HW0.out,<-HG.out];exact((Below.refl _ w).alloc (Nat.le_refl _) _).alloc (by simp) _)
 have HEN:Hid (Calls Tryz.prog 38 #[.agg #[.int .i64 k,.slice a n cap]] w0 (PostE k zs w0)):=by
  rw[<-HN.out]
  exact encode_any k a cap zs w0 (ht.below (by rw[HG.out];exact HB0.out)) hl (hS.below (by rw[HG.out];exact HB0.out))
 replace hs0:=hid hs0
 rw[HN.out]
 go_enter Tryz.func23,Tryz.ntmps23
 go_wp2_with fail
 rw[HG.out,HW0.out]
 clear ht hS
 have hl':Hid (zs.length<=300000):=hl
 clear hl
 refine HEN.out.mono ?_
 rintro ev w1 ⟨hb1,⟨he,rfl⟩ | ⟨he,g,c1,rfl,h1,h2,h3,h4⟩⟩
 ·have hb1s:=hb1.size
  rw[hs0.out] at hb1 hb1s
  have HR1:Hid (w1.heap[G+1]? = some (.cells (row .u8 z20).toArray 56 (0,0))):=(hb1.block _ (by omega)).trans HR0.out
  have HB1:Hid (Below G w w1):=HB0.out.trans (hb1.mono (by omega))
  obtain⟨er,HER⟩:=nn_ (yj k zs.length)
  have HV:Hid (Y0 (yj k n)=.iface 43 (.int .i64 er)):=hid (by rw[<-HN.out,HER.out];unfold Y0;rw[if_neg he])
  rw[<-HER.out]
  have hfr:fr=z20:=by rw[HE.out];unfold idZ;rw[if_neg he]
  have T1:Hid (w1.there (G+1) 0 (row .u8 fr).toArray.size):=hid (by rw[qZ,hfl];exact zW HR1.out rfl)
  have T4:Hid (w1.there (G+1) 0 (row .u8 fr).length):=hid (by rw[zq,hfl];exact zW HR1.out rfl)
  obtain rfl:zr=(row .u8 fr).toArray:=by rw[HZ.out,hfr]
  clear hb1 hfr he hc0 hc1
  go_wp2_with (refine wpList_store_mid rfl 56 _ _ rfl (G+1) 0 (row .u8 fr).toArray rfl rfl T1.out T2.out T3.out ?_)
  exact bodyPost_ret (v:=.tuple #[.agg (row .u8 fr).toArray,.iface 43 (.int .i64 er)]) (zj Tryz.results23 _ _ (G+1) _ _ rfl (World.rangeAt_setCells_same w1 (G+1) 0 _ T4.out) Tryz.underlying56 rfl hi25) rfl ⟨by rw[HV.out,HE.out],by rw[HG.out];exact z7 (by omega) _ _ _ _ HB1.out⟩
 ·have hb1s:=hb1.size
  rw[hs0.out] at hb1 hb1s h1
  have HR1:Hid (w1.heap[G+1]? = some (.cells (row .u8 z20).toArray 56 (0,0))):=(hb1.block _ (by omega)).trans HR0.out
  have HB1:Hid (Below G w w1):=HB0.out.trans (hb1.mono (by omega))
  have HV:Hid (Y0 (yj k n)=.nilIface):=hid (by rw[<-HN.out];unfold Y0;rw[if_pos he])
  have hfr:Hid (fr=sha (j4 k zs)):=hid (by rw[HE.out];unfold idZ;rw[if_pos he])
  have HSU:Hid (Calls Tryz.prog 39 #[.slice (some ⟨g,0,none⟩) (j4 k zs).length c1] w1 fun e w'=>e=.returned (.agg (row .u8 (sha (j4 k zs))).toArray)/\Below w1.heap.size w1 w') :=
   sum6 (some ⟨g,0,none⟩) c1 (j4 k zs) w1 (by
    have:=encZ_len k zs hl'.out
    have:=(fits_ok k _ he).2
    omega) (encZ_isB k zs hz) (fun _=>⟨g,0,rfl,h2,h3,h4⟩)
  obtain⟨L,HL⟩:=nn_ ((j4 k zs).length)
  rw[<-HL.out,<-hfr.out] at HSU
  rw[<-HL.out]
  clear hb1 he hc0 hc1 h3 h4
  go_wp2_with fail
  refine HSU.out.mono ?_
  rintro ev w2 ⟨rfl,hb2⟩
  have HR2:Hid (w2.heap[G+1]? = some (.cells (row .u8 z20).toArray 56 (0,0))):=(hb2.block _ (by omega)).trans HR1.out
  have HB2:Hid (Below G w w2):=HB1.out.trans (hb2.mono (by omega))
  have T1:Hid (w2.there (G+1) 0 (row .u8 fr).toArray.size):=hid (by rw[qZ,hfl];exact zW HR2.out rfl)
  have T4:Hid (w2.there (G+1) 0 (row .u8 fr).length):=hid (by rw[zq,hfl];exact zW HR2.out rfl)
  clear hb2
  go_wp2_with (refine wpList_store_mid rfl 56 _ _ rfl (G+1) 0 (row .u8 fr).toArray rfl rfl T1.out T2.out T3.out ?_)
  exact bodyPost_ret (v:=.tuple #[.agg (row .u8 fr).toArray,.nilIface]) (zj Tryz.results23 _ _ (G+1) _ _ rfl (World.rangeAt_setCells_same w2 (G+1) 0 _ T4.out) Tryz.underlying56 rfl hi25) rfl ⟨by rw[HV.out,HE.out],by rw[HG.out];exact z7 (by omega) _ _ _ _ HB2.out⟩
end Go.Proofs.YticgindfipobiaaGreatDoor
